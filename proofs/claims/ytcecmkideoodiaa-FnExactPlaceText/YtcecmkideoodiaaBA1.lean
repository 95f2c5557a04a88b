import Derived.Test.YtcecmkideoodiaaRows
import Derived.WalkKit
import Derived.WalkSpells
import Derived.WalkLawsBesides
import Derived.Deep.QuietTactic
import Derived.BigQuiet
import Derived.Deep.RegionWith
import Derived.ProofKit
import Derived.OpenShut
import Derived.ShutString
import Derived.ChangeOld
import Derived.Below
import Derived.Deep.Slices
import Derived.Deep.LoopGhost
import Derived.Laws.Rows
import Derived.Deep.Heap
import Derived.Deep.Cut
import Derived.Deep.RegionHeld3
namespace Go.Proofs.Ytcecmkideoodiaa
open Go.RowKit

def byteB (b : Int) : Bool := decide (97 ≤ b ∧ b ≤ 122 ∨ 48 ≤ b ∧ b ≤ 57 ∨ b = 32)
def whoB (n : Int) : Bool := decide (0 ≤ n ∧ n ≤ 3)
def personN (n : Int) : Int := if n = 1 then 1 else if n = 2 then 2 else if n = 3 then 4 else 0
def signB (b i o : Int) : Bool := byteB b && whoB i && whoB o && decide (o = 0 ∨ i ≠ o)

set_option maxHeartbeats 400000 in
theorem l6In_any (n : Int) (w : World) :
    Calls Try.prog 30 #[.int .i64 n, .int .i64 0, .int .i64 3] w fun e w' => e = .returned (.bool (whoB n)) ∧ w' = w := by
  rcases (show (0 ≤ n ∧ n ≤ 3) ∨ (0 ≤ n ∧ ¬ n ≤ 3) ∨ (¬ 0 ≤ n) from by omega) with ⟨h0, h1⟩ | ⟨h0, h1⟩ | h0
  · have e : whoB n = true := by simp [whoB]; omega
    rw [e]
    go_enter Try.func30, Try.ntmps30
    go_wp2
    go_ret
    exact ⟨rfl, rfl⟩
  all_goals
    have e : whoB n = false := by simp [whoB]; omega
    rw [e]
    go_enter Try.func30, Try.ntmps30
    go_wp2
    go_ret
    exact ⟨rfl, rfl⟩


theorem l6Cases (n lo hi : Int) : (lo ≤ n ∧ n ≤ hi) ∨ (lo ≤ n ∧ ¬ n ≤ hi) ∨ (¬ lo ≤ n) := by omega
set_option maxHeartbeats 400000 in
theorem l6In_gen (n lo hi : Int) (w : World) :
    Calls Try.prog 30 #[.int .i64 n, .int .i64 lo, .int .i64 hi] w fun e w' => e = .returned (.bool (decide (lo ≤ n ∧ n ≤ hi))) ∧ w' = w := by
  rcases l6Cases n lo hi with ⟨h0, h1⟩ | ⟨h0, h1⟩ | h0
  · rw [decide_eq_true ⟨h0, h1⟩]
    go_enter Try.func30, Try.ntmps30
    go_wp2
    go_ret
    exact ⟨rfl, rfl⟩
  · rw [decide_eq_false (fun h => h1 h.2)]
    go_enter Try.func30, Try.ntmps30
    go_wp2
    go_ret
    exact ⟨rfl, rfl⟩
  · rw [decide_eq_false (fun h => h0 h.1)]
    go_enter Try.func30, Try.ntmps30
    go_wp2
    go_ret
    exact ⟨rfl, rfl⟩
theorem l6In_of {n lo hi : Int} {x : Bool} (h : decide (lo ≤ n ∧ n ≤ hi) = x) (w : World) :
    Calls Try.prog 30 #[.int .i64 n, .int .i64 lo, .int .i64 hi] w fun e w' => e = .returned (.bool x) ∧ w' = w := h ▸ l6In_gen n lo hi w

end Go.Proofs.Ytcecmkideoodiaa
namespace Go.Proofs.Ytcecmkideoodiaa
open Go.RowKit

set_option maxHeartbeats 400000 in
theorem whoOk_any (n : Int) (w : World) :
    Calls Try.prog 107 #[.int .i64 n] w fun e w' => e = .returned (.bool (whoB n)) ∧ w' = w := by
  rcases (show (0 ≤ n ∧ n ≤ 3) ∨ (0 ≤ n ∧ ¬ n ≤ 3) ∨ (¬ 0 ≤ n) from by omega) with ⟨h0, h1⟩ | ⟨h0, h1⟩ | h0
  · have e : whoB n = true := by simp [whoB]; omega
    rw [e]
    go_enter Try.func107, Try.ntmps107
    go_wp2
    go_ret
    exact ⟨rfl, rfl⟩
  all_goals
    have e : whoB n = false := by simp [whoB]; omega
    rw [e]
    go_enter Try.func107, Try.ntmps107
    go_wp2
    go_ret
    exact ⟨rfl, rfl⟩

set_option maxHeartbeats 800000 in
theorem byteOk_any (b : Int) (w : World) :
    Calls Try.prog 106 #[.int .u8 b] w fun e w' => e = .returned (.bool (byteB b)) ∧ w' = w := by
  rcases (show (97 ≤ b ∧ b ≤ 122) ∨ (97 ≤ b ∧ ¬ b ≤ 122) ∨ (¬ 97 ≤ b ∧ 48 ≤ b ∧ b ≤ 57) ∨ (¬ 97 ≤ b ∧ 48 ≤ b ∧ ¬ b ≤ 57) ∨ (¬ 48 ≤ b ∧ b = 32) ∨ (¬ 48 ≤ b ∧ ¬ b = 32) from by omega) with ⟨h0, h1⟩ | ⟨h0, h1⟩ | ⟨h0, h1, h2⟩ | ⟨h0, h1, h2⟩ | ⟨h0, rfl⟩ | ⟨h0, h1⟩
  · rw [show byteB b = true from by simp [byteB]; omega]
    go_enter Try.func106, Try.ntmps106
    go_wp2
    go_ret
    exact ⟨rfl, rfl⟩
  · rw [show byteB b = false from by simp [byteB]; omega]
    have k1 : (b == 32) = false := by simp; omega
    have k2 : ¬ b ≤ 57 := by omega
    have k3 : decide (b ≤ 57) = false := by simp; omega
    go_enter Try.func106, Try.ntmps106
    go_wp2
    go_ret
    exact ⟨rfl, rfl⟩
  · rw [show byteB b = true from by simp [byteB]; omega]
    go_enter Try.func106, Try.ntmps106
    go_wp2
    go_ret
    exact ⟨rfl, rfl⟩
  · rw [show byteB b = false from by simp [byteB]; omega]
    have k1 : (b == 32) = false := by simp; omega
    go_enter Try.func106, Try.ntmps106
    go_wp2
    go_ret
    exact ⟨rfl, rfl⟩
  · go_enter Try.func106, Try.ntmps106
    go_wp2
    go_ret
    exact ⟨rfl, rfl⟩
  · rw [show byteB b = false from by simp [byteB]; omega]
    have k1 : (b == 32) = false := by simp; omega
    go_enter Try.func106, Try.ntmps106
    go_wp2
    go_ret
    exact ⟨rfl, rfl⟩

set_option maxHeartbeats 800000 in
theorem person_any (n : Int) (w : World) :
    Calls Try.prog 108 #[.int .i64 n] w fun e w' => e = .returned (.int .u8 (personN n)) ∧ w' = w := by
  rcases (show n = 0 ∨ n = 1 ∨ n = 2 ∨ n = 3 ∨ (¬ n = 0 ∧ whoB n = false) from by simp [whoB]; omega) with rfl | rfl | rfl | rfl | ⟨h0, h1⟩
  · go_enter Try.func108, Try.ntmps108
    go_wp2_with (first | (go_at_call 107; refine (whoOk_any _ _).mono ?_; rintro e w' ⟨rfl, rfl⟩))
    go_ret
    exact ⟨rfl, rfl⟩
  · go_enter Try.func108, Try.ntmps108
    go_wp2_with (first | (go_at_call 107; refine (whoOk_any _ _).mono ?_; rintro e w' ⟨rfl, rfl⟩))
    go_ret
    exact ⟨rfl, rfl⟩
  · go_enter Try.func108, Try.ntmps108
    go_wp2_with (first | (go_at_call 107; refine (whoOk_any _ _).mono ?_; rintro e w' ⟨rfl, rfl⟩))
    go_ret
    exact ⟨rfl, rfl⟩
  · go_enter Try.func108, Try.ntmps108
    go_wp2_with (first | (go_at_call 107; refine (whoOk_any _ _).mono ?_; rintro e w' ⟨rfl, rfl⟩))
    go_ret
    exact ⟨rfl, rfl⟩
  · have e : personN n = 0 := by
      simp [whoB] at h1
      simp only [personN]
      rw [if_neg (by omega), if_neg (by omega), if_neg (by omega)]
    rw [e]
    go_enter Try.func108, Try.ntmps108
    go_wp2_with (first | (go_at_call 107; refine (whoOk_any _ _).mono ?_; rintro e w' ⟨rfl, rfl⟩))
    go_ret
    exact ⟨rfl, rfl⟩

end Go.Proofs.Ytcecmkideoodiaa
namespace Go.Proofs.Ytcecmkideoodiaa
open Go.RowKit

theorem whoCases (i o : Int) : whoB i = false ∨ (whoB i = true ∧ whoB o = false) ∨ (whoB i = true ∧ whoB o = true ∧ o = 0) ∨ (whoB i = true ∧ whoB o = true ∧ (o == 0) = false ∧ (i != o) = false) ∨ (whoB i = true ∧ whoB o = true ∧ (o == 0) = false ∧ (i != o) = true) := by
  by_cases h : i = o
  · subst h; cases whoB i <;> by_cases h0 : i = 0 <;> simp [h0]
  · cases whoB i <;> cases whoB o <;> by_cases h0 : o = 0 <;> simp [h0, h]

theorem l6In_is {n : Int} {x : Bool} (h : whoB n = x) (w : World) : Calls Try.prog 30 #[.int .i64 n, .int .i64 0, .int .i64 3] w fun e w' => e = .returned (.bool x) ∧ w' = w := h ▸ l6In_any n w

set_option maxHeartbeats 2000000 in
theorem l1Sign_no (b i o : Int) (w : World) (hb : byteB b = false) :
    Calls Try.prog 71 #[.agg #[.int .u8 b, .int .i64 i, .int .i64 o]] w fun e w' => e = .returned (.bool (signB b i o)) ∧ Below w.heap.size w w' := by
  rw [show signB b i o = false from by simp [signB, hb]]
  have k1 : (b == 32) = false := by simp [byteB] at hb; simp; omega
  rcases (show (97 ≤ b ∧ ¬ b ≤ 122) ∨ (¬ 97 ≤ b ∧ 48 ≤ b ∧ ¬ b ≤ 57) ∨ (¬ 48 ≤ b ∧ ¬ b = 32) from by simp [byteB] at hb; omega) with ⟨h0, h1⟩ | ⟨h0, h1, h2⟩ | ⟨h0, h1⟩
  · have k2 : ¬ b ≤ 57 := by omega
    have k3 : decide (b ≤ 57) = false := by simp; omega
    go_enter Try.func71, Try.ntmps71
    go_wp2_with fail
    go_ret
    exact ⟨rfl, (Below.refl _ _).alloc (Nat.le_refl _) _⟩
  · go_enter Try.func71, Try.ntmps71
    go_wp2_with fail
    go_ret
    exact ⟨rfl, (Below.refl _ _).alloc (Nat.le_refl _) _⟩
  · go_enter Try.func71, Try.ntmps71
    go_wp2_with fail
    go_ret
    exact ⟨rfl, (Below.refl _ _).alloc (Nat.le_refl _) _⟩

theorem byteCases {b : Int} (hb : byteB b = true) : (97 ≤ b ∧ b ≤ 122) ∨ (¬ 97 ≤ b ∧ 48 ≤ b ∧ b ≤ 57 ∧ (b == 32) = false) ∨ b = 32 := by
  simp [byteB] at hb; simp; omega

set_option maxHeartbeats 2000000 in
theorem l1Sign_i (b i o : Int) (w : World) (hb : byteB b = true) (hi : whoB i = false) :
    Calls Try.prog 71 #[.agg #[.int .u8 b, .int .i64 i, .int .i64 o]] w fun e w' => e = .returned (.bool (signB b i o)) ∧ Below w.heap.size w w' := by
  rw [show signB b i o = false from by simp [signB, hi]]
  rcases byteCases hb with ⟨h0, h1⟩ | ⟨h0, h1, h2, h3⟩ | rfl
  all_goals
    clear hb
    go_enter Try.func71, Try.ntmps71
    go_wp2_with (first | (go_at_call_of 30 (Value.int IntKind.i64 i); refine (l6In_is hi _).mono ?_; rintro e w' ⟨rfl, rfl⟩))
    go_ret
    exact ⟨rfl, (Below.refl _ _).alloc (Nat.le_refl _) _⟩

set_option maxHeartbeats 2000000 in
theorem l1Sign_o (b i o : Int) (w : World) (hb : byteB b = true) (hi : whoB i = true) (ho : whoB o = false) :
    Calls Try.prog 71 #[.agg #[.int .u8 b, .int .i64 i, .int .i64 o]] w fun e w' => e = .returned (.bool (signB b i o)) ∧ Below w.heap.size w w' := by
  rw [show signB b i o = false from by simp [signB, ho]]
  rcases byteCases hb with ⟨h0, h1⟩ | ⟨h0, h1, h2, h3⟩ | rfl
  all_goals
    clear hb
    go_enter Try.func71, Try.ntmps71
    go_wp2_with (first | (go_at_call_of 30 (Value.int IntKind.i64 i); refine (l6In_is hi _).mono ?_; rintro e w' ⟨rfl, rfl⟩) | (go_at_call_of 30 (Value.int IntKind.i64 o); refine (l6In_is ho _).mono ?_; rintro e w' ⟨rfl, rfl⟩))
    go_ret
    exact ⟨rfl, (Below.refl _ _).alloc (Nat.le_refl _) _⟩

set_option maxHeartbeats 2000000 in
theorem l1Sign_n (b i o : Int) (w : World) (hb : byteB b = true) (hi : whoB i = true) (ho : whoB o = true) (hz : (o == 0) = false) (hn : (i != o) = false) :
    Calls Try.prog 71 #[.agg #[.int .u8 b, .int .i64 i, .int .i64 o]] w fun e w' => e = .returned (.bool (signB b i o)) ∧ Below w.heap.size w w' := by
  rw [show signB b i o = false from by simp at hz hn; subst hn; simp [signB, hz]]
  rcases byteCases hb with ⟨h0, h1⟩ | ⟨h0, h1, h2, h3⟩ | rfl
  all_goals
    clear hb
    go_enter Try.func71, Try.ntmps71
    go_wp2_with (first | (go_at_call_of 30 (Value.int IntKind.i64 i); refine (l6In_is hi _).mono ?_; rintro e w' ⟨rfl, rfl⟩) | (go_at_call_of 30 (Value.int IntKind.i64 o); refine (l6In_is ho _).mono ?_; rintro e w' ⟨rfl, rfl⟩))
    go_ret
    exact ⟨rfl, (Below.refl _ _).alloc (Nat.le_refl _) _⟩

set_option maxHeartbeats 2000000 in
theorem l1Sign_y (b i o : Int) (w : World) (hb : byteB b = true) (hi : whoB i = true) (ho : whoB o = true) (hz : (o == 0) = false) (hn : (i != o) = true) :
    Calls Try.prog 71 #[.agg #[.int .u8 b, .int .i64 i, .int .i64 o]] w fun e w' => e = .returned (.bool (signB b i o)) ∧ Below w.heap.size w w' := by
  rw [show signB b i o = true from by simp at hz hn; simp [signB, hb, hi, ho, hn]]
  rcases byteCases hb with ⟨h0, h1⟩ | ⟨h0, h1, h2, h3⟩ | rfl
  all_goals
    clear hb
    go_enter Try.func71, Try.ntmps71
    go_wp2_with (first | (go_at_call_of 30 (Value.int IntKind.i64 i); refine (l6In_is hi _).mono ?_; rintro e w' ⟨rfl, rfl⟩) | (go_at_call_of 30 (Value.int IntKind.i64 o); refine (l6In_is ho _).mono ?_; rintro e w' ⟨rfl, rfl⟩))
    go_ret
    exact ⟨rfl, (Below.refl _ _).alloc (Nat.le_refl _) _⟩

set_option maxHeartbeats 2000000 in
theorem l1Sign_z (b i : Int) (w : World) (hb : byteB b = true) (hi : whoB i = true) :
    Calls Try.prog 71 #[.agg #[.int .u8 b, .int .i64 i, .int .i64 0]] w fun e w' => e = .returned (.bool (signB b i 0)) ∧ Below w.heap.size w w' := by
  rw [show signB b i 0 = true from by simp [signB, hb, hi]; rfl]
  rcases byteCases hb with ⟨h0, h1⟩ | ⟨h0, h1, h2, h3⟩ | rfl
  all_goals
    clear hb
    go_enter Try.func71, Try.ntmps71
    go_wp2_with (first | (go_at_call_of 30 (Value.int IntKind.i64 i); refine (l6In_is hi _).mono ?_; rintro e w' ⟨rfl, rfl⟩) | (go_at_call 30; refine (l6In_is (n := 0) (x := true) (by rfl) _).mono ?_; rintro e w' ⟨rfl, rfl⟩))
    go_ret
    exact ⟨rfl, (Below.refl _ _).alloc (Nat.le_refl _) _⟩

theorem l1Sign_any (b i o : Int) (w : World) :
    Calls Try.prog 71 #[.agg #[.int .u8 b, .int .i64 i, .int .i64 o]] w fun e w' => e = .returned (.bool (signB b i o)) ∧ Below w.heap.size w w' := by
  cases hb : byteB b
  · exact l1Sign_no b i o w hb
  · rcases whoCases i o with hi | ⟨hi, ho⟩ | ⟨hi, ho, rfl⟩ | ⟨hi, ho, hz, hn⟩ | ⟨hi, ho, hz, hn⟩
    · exact l1Sign_i b i o w hb hi
    · exact l1Sign_o b i o w hb hi ho
    · exact l1Sign_z b i w hb hi
    · exact l1Sign_n b i o w hb hi ho hz hn
    · exact l1Sign_y b i o w hb hi ho hz hn

end Go.Proofs.Ytcecmkideoodiaa
namespace Go.Proofs.Ytcecmkideoodiaa
open Go.RowKit

theorem and_person (i o : Int) (hi : whoB i = true) (ho : whoB o = true) : (bits BinOp.and IntKind.u8 (personN i) (personN o) == 0) = decide (o = 0 ∨ i ≠ o) := by
  simp [whoB] at hi ho
  rcases (show i = 0 ∨ i = 1 ∨ i = 2 ∨ i = 3 from by omega) with rfl | rfl | rfl | rfl <;> rcases (show o = 0 ∨ o = 1 ∨ o = 2 ∨ o = 3 from by omega) with rfl | rfl | rfl | rfl <;> rfl

theorem byteOk_is {b : Int} {x : Bool} (h : byteB b = x) (w : World) : Calls Try.prog 106 #[.int .u8 b] w fun e w' => e = .returned (.bool x) ∧ w' = w := h ▸ byteOk_any b w
theorem whoOk_is {n : Int} {x : Bool} (h : whoB n = x) (w : World) : Calls Try.prog 107 #[.int .i64 n] w fun e w' => e = .returned (.bool x) ∧ w' = w := h ▸ whoOk_any n w

set_option maxHeartbeats 1000000 in
theorem signOk_b (b i o : Int) (w : World) (hb : byteB b = false) :
    Calls Try.prog 105 #[.agg #[.int .u8 b, .int .i64 i, .int .i64 o]] w fun e w' => e = .returned (.bool (signB b i o)) ∧ Below w.heap.size w w' := by
  rw [show signB b i o = false from by simp [signB, hb]]
  go_enter Try.func105, Try.ntmps105
  go_wp2_with fail
  go_quiet ((first | (go_at_call 106; exact Calls.quiet_of_same (byteOk_is hb _))))
  go_wp2
  go_ret
  refine ⟨rfl, ?_⟩
  refine below_drewN ?_ _
  exact (Below.refl _ _).alloc (Nat.le_refl _) _

set_option maxHeartbeats 1000000 in
theorem signOk_i (b i o : Int) (w : World) (hb : byteB b = true) (hi : whoB i = false) :
    Calls Try.prog 105 #[.agg #[.int .u8 b, .int .i64 i, .int .i64 o]] w fun e w' => e = .returned (.bool (signB b i o)) ∧ Below w.heap.size w w' := by
  rw [show signB b i o = false from by simp [signB, hi]]
  go_enter Try.func105, Try.ntmps105
  go_wp2_with fail
  go_quiet ((first | (go_at_call 106; exact Calls.quiet_of_same (byteOk_is hb _)) | (go_at_call_of 107 (Value.int IntKind.i64 i); exact Calls.quiet_of_same (whoOk_is hi _))))
  go_wp2
  go_ret
  refine ⟨rfl, ?_⟩
  refine below_drewN ?_ _
  exact (Below.refl _ _).alloc (Nat.le_refl _) _

set_option maxHeartbeats 1000000 in
theorem signOk_o (b i o : Int) (w : World) (hb : byteB b = true) (hi : whoB i = true) (ho : whoB o = false) :
    Calls Try.prog 105 #[.agg #[.int .u8 b, .int .i64 i, .int .i64 o]] w fun e w' => e = .returned (.bool (signB b i o)) ∧ Below w.heap.size w w' := by
  rw [show signB b i o = false from by simp [signB, ho]]
  go_enter Try.func105, Try.ntmps105
  go_wp2_with fail
  go_quiet ((first | (go_at_call 106; exact Calls.quiet_of_same (byteOk_is hb _)) | (go_at_call_of 107 (Value.int IntKind.i64 i); exact Calls.quiet_of_same (whoOk_is hi _)) | (go_at_call_of 107 (Value.int IntKind.i64 o); exact Calls.quiet_of_same (whoOk_is ho _))))
  go_wp2
  go_ret
  refine ⟨rfl, ?_⟩
  refine below_drewN ?_ _
  exact (Below.refl _ _).alloc (Nat.le_refl _) _

set_option maxHeartbeats 1000000 in
theorem signOk_y (b i o : Int) (w : World) (hb : byteB b = true) (hi : whoB i = true) (ho : whoB o = true) :
    Calls Try.prog 105 #[.agg #[.int .u8 b, .int .i64 i, .int .i64 o]] w fun e w' => e = .returned (.bool (signB b i o)) ∧ Below w.heap.size w w' := by
  have hp : Hid ((bits BinOp.and IntKind.u8 (personN i) (personN o) == 0) = signB b i o) := by
    show (bits BinOp.and IntKind.u8 (personN i) (personN o) == 0) = signB b i o
    rw [and_person i o hi ho]; simp [signB, hb, hi, ho]
  go_enter Try.func105, Try.ntmps105
  go_wp2_with fail
  go_quiet ((first | (go_at_call 106; exact Calls.quiet_of_same (byteOk_is hb _)) | (go_at_call_of 107 (Value.int IntKind.i64 i); exact Calls.quiet_of_same (whoOk_is hi _)) | (go_at_call_of 107 (Value.int IntKind.i64 o); exact Calls.quiet_of_same (whoOk_is ho _)) | (go_at_call 108; exact Calls.quiet_of_same (person_any _ _))))
  rw [hp.out]
  go_wp2
  go_ret
  refine ⟨rfl, ?_⟩
  refine below_drewN ?_ _
  exact (Below.refl _ _).alloc (Nat.le_refl _) _

theorem signOk_any (b i o : Int) (w : World) :
    Calls Try.prog 105 #[.agg #[.int .u8 b, .int .i64 i, .int .i64 o]] w fun e w' => e = .returned (.bool (signB b i o)) ∧ Below w.heap.size w w' := by
  cases hb : byteB b
  · exact signOk_b b i o w hb
  · cases hi : whoB i
    · exact signOk_i b i o w hb hi
    · cases ho : whoB o
      · exact signOk_o b i o w hb hi ho
      · exact signOk_y b i o w hb hi ho

end Go.Proofs.Ytcecmkideoodiaa
namespace Go.Proofs.Ytcecmkideoodiaa
open Go.RowKit

/-- A sign: its byte, who put it in, who takes it out. -/
abbrev Sg := Int × Int × Int
def sgB (s : Sg) : Bool := signB s.1 s.2.1 s.2.2
def textB (l : List Sg) : Bool := decide (l.length ≤ 24) && l.all sgB
def sgV (s : Sg) : Value := .agg #[.int .u8 s.1, .int .i64 s.2.1, .int .i64 s.2.2]

/-- The cells of a text's signs, three a sign, at block b from off on. -/
def SignsAt (w : World) (b off : Nat) (l : List Sg) : Prop :=
  ∀ k, k < l.length → w.cell? ⟨b, off + k * 3, none⟩ = some (.int .u8 (l.getD k (0, 0, 0)).1) ∧ w.cell? ⟨b, off + k * 3 + 1, none⟩ = some (.int .i64 (l.getD k (0, 0, 0)).2.1) ∧ w.cell? ⟨b, off + k * 3 + 2, none⟩ = some (.int .i64 (l.getD k (0, 0, 0)).2.2)

/-- A slice value that reads as the signs l. -/
def Txt (w : World) (a : Option Addr) (n cap : Nat) (l : List Sg) : Prop :=
  n = l.length ∧ n ≤ cap ∧ cap ≤ maxLen ∧ (l = [] ∨ ∃ b off, a = some ⟨b, off, none⟩ ∧ b < w.heap.size ∧ SignsAt w b off l)

theorem SignsAt.below {w w' : World} {b off : Nat} {l : List Sg} (h : SignsAt w b off l) {B : Nat} (hb : Below B w w') (hB : b < B) : SignsAt w' b off l := by
  intro k hk
  obtain ⟨h0, h1, h2⟩ := h k hk
  exact ⟨(hb.cell (p := ⟨b, _, none⟩) hB).trans h0, (hb.cell (p := ⟨b, _, none⟩) hB).trans h1, (hb.cell (p := ⟨b, _, none⟩) hB).trans h2⟩

theorem Txt.below {w w' : World} {a : Option Addr} {n cap : Nat} {l : List Sg} (h : Txt w a n cap l) (hb : Below w.heap.size w w') : Txt w' a n cap l := by
  obtain ⟨h1, h2, h3, h4⟩ := h
  refine ⟨h1, h2, h3, ?_⟩
  rcases h4 with h4 | ⟨b, off, h5, h6, h7⟩
  · exact .inl h4
  · exact .inr ⟨b, off, h5, Nat.lt_of_lt_of_le h6 hb.size, h7.below hb h6⟩

theorem all_take_succ (l : List Sg) (k : Nat) (hk : k < l.length) (p : Sg → Bool) : (l.take (k + 1)).all p = ((l.take k).all p && p (l.getD k (0, 0, 0))) := by
  rw [List.take_succ_eq_append_getElem hk, List.all_append]
  simp [List.getD, hk]

theorem all_false_of (l : List Sg) (k : Nat) (hk : k < l.length) (p : Sg → Bool) (h : p (l.getD k (0, 0, 0)) = false) : l.all p = false := by
  rw [← Bool.not_eq_true, List.all_eq_true]
  intro hh
  have := hh (l.getD k (0, 0, 0)) (by simp [List.getD, hk])
  rw [h] at this
  exact absurd this (by simp)

theorem l1Sign_is {b i o : Int} {x : Bool} (h : signB b i o = x) (w : World) :
    Calls Try.prog 71 #[.agg #[.int .u8 b, .int .i64 i, .int .i64 o]] w fun e w' => e = .returned (.bool x) ∧ Below w.heap.size w w' := h ▸ l1Sign_any b i o w
set_option maxHeartbeats 1000000 in
theorem specTextOk_any (a : Option Addr) (n cap : Nat) (l : List Sg) (w : World) (h : Txt w a n cap l) :
    Calls Try.prog 59 #[.slice a n cap] w fun e w' => e = .returned (.bool (textB l)) ∧ Below w.heap.size w w' := by
  obtain ⟨rfl, hc, hm, hl⟩ := h
  unfold maxLen at hm
  by_cases h24 : 24 < l.length
  · have e : textB l = false := by simp [textB]; omega
    rw [e]
    go_enter Try.func59, Try.ntmps59
    go_wp2
    go_ret
    exact ⟨rfl, Below.refl _ _⟩
  · have h24' : decide ((24 : Int) < (l.length : Int)) = false := by simp; omega
    have HT : Hid (textB l = l.all sgB) := by
      show textB l = l.all sgB
      simp [textB]; omega
    rcases hl with rfl | ⟨b, off, rfl, hbw, hl⟩
    · rw [show textB [] = true from rfl]
      go_enter Try.func59, Try.ntmps59
      go_wp2
      refine wp_loop_rounds 1 ?_
      rw [rounds_succ]
      go_wp2
      go_ret
      exact ⟨rfl, Below.refl _ _⟩
    · rw [HT.out]
      clear HT
      go_enter Try.func59, Try.ntmps59
      go_wp2
      go_loopw [3] (fun i wr => ∃ k : Nat, k ≤ l.length ∧ i = .int .i64 k ∧ (l.take k).all sgB = true ∧ Below w.heap.size w wr) (fun i _ => l.length - (intOf i).toNat)
      case atStart => exact ⟨0, Nat.zero_le _, rfl, by simp, Below.refl _ _⟩
      case round =>
        obtain ⟨k, hk, rfl, hall, hbl⟩ := hrel
        have HA : Hid ((l.take k).all sgB = true) := hall
        clear hall
        by_cases hlt : k < l.length
        · obtain ⟨c0, c1, c2⟩ := (hl.below hbl hbw) k hlt
          clear hl
          obtain ⟨s, hs⟩ : ∃ s, s = l.getD k (0, 0, 0) := ⟨_, rfl⟩
          rw [← hs] at c0 c1 c2
          have HS : Hid (s = l.getD k (0, 0, 0)) := hs
          clear hs
          have hsz := hbl.size
          cases hb : signB s.1 s.2.1 s.2.2
          · have HF : Hid (l.all sgB = false) := all_false_of l k hlt sgB (by rw [← HS.out]; exact hb)
            go_wp2_with (go_at_call 71; refine (l1Sign_is hb _).mono ?_; rintro e w1 ⟨rfl, hb1⟩)
            go_ret
            exact ⟨by rw [HF.out]; rfl, hbl.trans (hb1.mono hsz)⟩
          · go_wp2_with (go_at_call 71; refine (l1Sign_is hb _).mono ?_; rintro e w1 ⟨rfl, hb1⟩)
            go_roundw
            case rel => exact ⟨k + 1, by omega, by go_num, by rw [all_take_succ l k hlt, HA.out, ← HS.out]; exact hb, hbl.trans (hb1.mono hsz)⟩
            case measure => simp [intOf]; omega
        · go_wp2
          go_ret
          exact ⟨by have hh := HA.out; rw [List.take_of_length_le (by omega)] at hh; rw [hh]; rfl, hbl⟩

theorem specTextOk_is {a : Option Addr} {n cap : Nat} {l : List Sg} {w : World} {x : Bool} (h : Txt w a n cap l) (hx : textB l = x) :
    Calls Try.prog 59 #[.slice a n cap] w fun e w' => e = .returned (.bool x) ∧ Below w.heap.size w w' := hx ▸ specTextOk_any a n cap l w h

end Go.Proofs.Ytcecmkideoodiaa
namespace Go.Proofs.Ytcecmkideoodiaa
open Go.RowKit

theorem signOk_is {b i o : Int} {x : Bool} (h : signB b i o = x) (w : World) :
    Calls Try.prog 105 #[.agg #[.int .u8 b, .int .i64 i, .int .i64 o]] w fun e w' => e = .returned (.bool x) ∧ Below w.heap.size w w' := h ▸ signOk_any b i o w

set_option maxHeartbeats 1000000 in
theorem implTextOk_any (a : Option Addr) (n cap : Nat) (l : List Sg) (w : World) (h : Txt w a n cap l) :
    Calls Try.prog 104 #[.slice a n cap] w fun e w' => e = .returned (.bool (textB l)) ∧ Below w.heap.size w w' := by
  obtain ⟨rfl, hc, hm, hl⟩ := h
  unfold maxLen at hm
  by_cases h24 : 24 < l.length
  · have e : textB l = false := by simp [textB]; omega
    rw [e]
    go_enter Try.func104, Try.ntmps104
    go_wp2
    go_ret
    exact ⟨rfl, Below.refl _ _⟩
  · have h24' : decide ((24 : Int) < (l.length : Int)) = false := by simp; omega
    have HT : Hid (textB l = l.all sgB) := by
      show textB l = l.all sgB
      simp [textB]; omega
    rcases hl with rfl | ⟨b, off, rfl, hbw, hl⟩
    · rw [show textB [] = true from rfl]
      go_enter Try.func104, Try.ntmps104
      go_wp2
      refine wp_loop_rounds 1 ?_
      rw [rounds_succ]
      go_wp2
      go_ret
      exact ⟨rfl, Below.refl _ _⟩
    · rw [HT.out]
      clear HT
      go_enter Try.func104, Try.ntmps104
      go_wp2
      go_loopw [10] (fun i wr => ∃ k : Nat, k ≤ l.length ∧ i = .int .i64 k ∧ (l.take k).all sgB = true ∧ Below w.heap.size w wr) (fun i _ => l.length - (intOf i).toNat)
      case atStart => exact ⟨0, Nat.zero_le _, rfl, by simp, Below.refl _ _⟩
      case round =>
        obtain ⟨k, hk, rfl, hall, hbl⟩ := hrel
        have HA : Hid ((l.take k).all sgB = true) := hall
        clear hall
        by_cases hlt : k < l.length
        · obtain ⟨c0, c1, c2⟩ := (hl.below hbl hbw) k hlt
          clear hl
          obtain ⟨s, hs⟩ : ∃ s, s = l.getD k (0, 0, 0) := ⟨_, rfl⟩
          rw [← hs] at c0 c1 c2
          have HS : Hid (s = l.getD k (0, 0, 0)) := hs
          clear hs
          have hsz := hbl.size
          cases hb : signB s.1 s.2.1 s.2.2
          · have HF : Hid (l.all sgB = false) := all_false_of l k hlt sgB (by rw [← HS.out]; exact hb)
            go_wp2_with (go_at_call 105; refine (signOk_is hb _).mono ?_; rintro e w1 ⟨rfl, hb1⟩)
            go_ret
            exact ⟨by rw [HF.out]; rfl, (hbl.alloc hsz _).trans (hb1.mono (by simp; omega))⟩
          · go_wp2_with (go_at_call 105; refine (signOk_is hb _).mono ?_; rintro e w1 ⟨rfl, hb1⟩)
            go_roundw
            case rel => exact ⟨k + 1, by omega, by go_num, by rw [all_take_succ l k hlt, HA.out, ← HS.out]; exact hb, (hbl.alloc hsz _).trans (hb1.mono (by simp; omega))⟩
            case measure => simp [intOf]; omega
        · go_wp2
          go_ret
          exact ⟨by have hh := HA.out; rw [List.take_of_length_le (by omega)] at hh; rw [hh]; rfl, hbl⟩

end Go.Proofs.Ytcecmkideoodiaa
namespace Go.Proofs.Ytcecmkideoodiaa
open Go.ChangeShapes Go.WideShapes Go.ChangeAt Go.RowKit

theorem own : ownKnob Try.prog.godebug = none := by kernel_rfl
theorem laidOut : laidOutB Try.prog = true := by kernel_rfl

section
variable {H : Type} {enc : TypeId × Value → H} {P : Program} {w : World} {base : Nat} {spare : Nat → Bool} {held : Bool}

/-- A slice of signs that came in, opened: nil, or it reads as some signs. -/
theorem open_signs {t e : TypeId} {f0 f1 f2 : Field} {fuel : Nat} {cs : List Value} {x : DataW H × List MemPlace} (ht : P.underlying t = some (.slice e)) (he : P.underlying e = some (.struct #[f0, f1, f2]))
    (ce : P.cellsOf e = 3) (o0 : f0.offset = 0) (o1 : f1.offset = 1) (o2 : f2.offset = 2) (c0 : P.cellsOf f0.type = 1) (c1 : P.cellsOf f1.type = 1) (c2 : P.cellsOf f2.type = 1)
    (u0 : P.underlying f0.type = some (.int .u8)) (u1 : P.underlying f1.type = some (.int .i64)) (u2 : P.underlying f2.type = some (.int .i64))
    (h : DataW.trod enc P w base spare held fuel t cs = some x) :
    ∃ (a : Option Addr) (len cap : Nat) (l : List Sg), cs = [.slice a len cap] ∧ Txt w a len cap l := by
  rcases Go.Deep.open_slice ht h with ⟨rfl, _⟩ | ⟨a, len, cap, m, n, D, Pl, rfl, hb, hl, hm, hmm, rfl, hx⟩
  · exact ⟨none, 0, 0, [], rfl, rfl, Nat.le_refl _, Nat.zero_le _, .inl rfl⟩
  have hlm : len ≤ m := by rw [hmm]; split <;> omega
  have each : ∀ i, i < len → ∃ q : Sg, w.cell? (a.add (i * 3)) = some (.int .u8 q.1) ∧ w.cell? (a.add (i * 3 + 1)) = some (.int .i64 q.2.1) ∧ w.cell? (a.add (i * 3 + 2)) = some (.int .i64 q.2.2) := by
    intro i hi
    obtain ⟨cs', h1, h2⟩ := hx i (by omega)
    rw [ce] at h1
    obtain ⟨_, hlen, hcell⟩ := World.cells?_some h1
    obtain ⟨xs, k, hk, hxy, _, hxl, hf⟩ := DataW.trod_struct he h2
    match xs, hxl, cs', hlen with
    | [y0, y1, y2], _, [v0, v1, v2], _ =>
      have g0 := hf 0 f0 rfl
      have g1 := hf 1 f1 rfl
      have g2 := hf 2 f2 rfl
      simp [o0, o1, o2, c0, c1, c2] at g0 g1 g2
      have e0 := hcell 0 (by omega)
      have e1 := hcell 1 (by omega)
      have e2 := hcell 2 (by omega)
      rw [Go.Deep.add_add] at e0 e1 e2
      obtain ⟨n0, r0, _⟩ := DataW.trod_int u0 g0
      obtain ⟨n1, r1, _⟩ := DataW.trod_int u1 g1
      obtain ⟨n2, r2, _⟩ := DataW.trod_int u2 g2
      simp only [List.cons.injEq, and_true] at r0 r1 r2
      subst r0 r1 r2
      exact ⟨(n0, n1, n2), by simpa using e0, by simpa using e1, by simpa using e2⟩
  obtain ⟨q, hq⟩ := Go.Deep.choose_lt each
  refine ⟨some a, len, cap, (List.range len).map q, rfl, by simp, hl, hm, ?_⟩
  by_cases h0 : len = 0
  · subst h0; exact .inl (by simp)
  · obtain ⟨b, off, spot⟩ := a
    have hc := (hq 0 (by omega)).1
    have hspot : spot = none := by simpa [Addr.add] using World.cell?_spot hc
    subst hspot
    refine .inr ⟨b, off, rfl, by have := World.block_lt_of_cell? _ _ hc; simpa [Addr.add_lit] using this, ?_⟩
    intro k hk
    have hk' : k < len := by simpa using hk
    obtain ⟨a0, a1, a2⟩ := hq k hk'
    have e : ((List.range len).map q).getD k (0, 0, 0) = q k := by simp [List.getD, hk']
    rw [e]
    simp only [Addr.add_lit] at a0 a1 a2
    exact ⟨a0, by rw [Nat.add_assoc]; exact a1, by rw [Nat.add_assoc]; exact a2⟩
end
end Go.Proofs.Ytcecmkideoodiaa
namespace Go.Proofs.Ytcecmkideoodiaa
open Go.RowKit

/-- What is owned stays owned where all that was there is as it was. -/
theorem own_below {w w' : World} {B e size n : Nat} {v : Value} {xs : List Value} (h : w.ownsRow B e size v n xs) (hb : Below w.heap.size w w') : w'.ownsRow B e size v n xs := by
  refine ⟨h.1, ?_⟩
  rcases h.2 with hn | ⟨g, cap, cur, rfl, hg, hgg, rest⟩
  · exact .inl hn
  · exact .inr ⟨g, cap, cur, rfl, hg, by rw [hb.block g (Array.getElem?_eq_some_iff.1 hgg).1]; exact hgg, rest⟩

/-- The cells of a list of signs, one behind the other. -/
def sgCells (s : Sg) : List Value := [.int .u8 s.1, .int .i64 s.2.1, .int .i64 s.2.2]
def flat (l : List Sg) : List Value := l.flatMap sgCells

theorem flat_length (l : List Sg) : (flat l).length = l.length * 3 := by
  induction l with
  | nil => rfl
  | cons s l ih =>
    show (sgCells s ++ flat l).length = _
    rw [List.length_append, ih]
    simp [sgCells]; omega

theorem flat_append (a b : List Sg) : flat (a ++ b) = flat a ++ flat b := by simp [flat]

theorem flat_get (l : List Sg) : ∀ (k : Nat), k < l.length → (flat l)[k * 3]? = some (.int .u8 (l.getD k (0, 0, 0)).1) ∧ (flat l)[k * 3 + 1]? = some (.int .i64 (l.getD k (0, 0, 0)).2.1) ∧ (flat l)[k * 3 + 2]? = some (.int .i64 (l.getD k (0, 0, 0)).2.2) := by
  induction l with
  | nil => intro k h; simp at h
  | cons s l ih =>
    intro k hk
    show (sgCells s ++ flat l)[k * 3]? = _ ∧ (sgCells s ++ flat l)[k * 3 + 1]? = _ ∧ (sgCells s ++ flat l)[k * 3 + 2]? = _
    cases k with
    | zero => simp [sgCells]
    | succ k =>
      have := ih k (by simpa using hk)
      rw [show (k + 1) * 3 = k * 3 + 3 by omega, show k * 3 + 3 + 1 = k * 3 + 1 + 3 by omega, show k * 3 + 3 + 2 = k * 3 + 2 + 3 by omega]
      rw [List.getElem?_append_right (by simp [sgCells]), List.getElem?_append_right (by simp [sgCells]), List.getElem?_append_right (by simp [sgCells])]
      simpa [sgCells] using this

/-- A row that owns a list of signs reads as it. -/
theorem txt_of_own {w : World} {B g n cap e : Nat} {l : List Sg} (h : w.ownsRow B e 3 (.slice (some ⟨g, 0, none⟩) n cap) n (flat l)) : Txt w (some ⟨g, 0, none⟩) n cap l := by
  have hlen := h.1
  rw [flat_length] at hlen
  have hn : n = l.length := by omega
  rcases h.2 with ⟨h', _⟩ | ⟨g', cap', cur, h', _, hg, hnc, hcm, _, _⟩
  · simp at h'
  · simp only [Value.slice.injEq, Option.some.injEq, Addr.mk.injEq, and_true, true_and] at h'
    obtain ⟨rfl, rfl⟩ := h'
    refine ⟨hn, hnc, hcm, .inr ⟨g, 0, rfl, (Array.getElem?_eq_some_iff.1 hg).1, ?_⟩⟩
    intro k hk
    obtain ⟨a, b, c⟩ := flat_get l k hk
    rw [Nat.zero_add]
    exact ⟨(h.cellAt (k * 3) (by omega)).trans a, (h.cellAt (k * 3 + 1) (by omega)).trans b, (h.cellAt (k * 3 + 2) (by omega)).trans c⟩

theorem take_set3 (xs : List Value) (k : Nat) (a b c : Value) (h : k * 3 + 3 ≤ xs.length) :
    (((xs.set (k * 3) a).set (k * 3 + 1) b).set (k * 3 + 2) c).take ((k + 1) * 3) = xs.take (k * 3) ++ [a, b, c] := by
  apply List.ext_getElem?
  intro j
  by_cases h1 : j < k * 3
  · rw [List.getElem?_take, if_pos (by omega), List.getElem?_set_ne (by omega), List.getElem?_set_ne (by omega), List.getElem?_set_ne (by omega), List.getElem?_append_left (by simp; omega), List.getElem?_take, if_pos h1]
  · rw [List.getElem?_append_right (by simp; omega)]
    have e : (xs.take (k * 3)).length = k * 3 := by simp; omega
    rw [e, List.getElem?_take]
    rcases (show j = k * 3 ∨ j = k * 3 + 1 ∨ j = k * 3 + 2 ∨ k * 3 + 3 ≤ j from by omega) with rfl | rfl | rfl | hj
    · rw [if_pos (by omega), List.getElem?_set_ne (by omega), List.getElem?_set_ne (by omega), List.getElem?_set_self (by omega)]; simp
    · rw [if_pos (by omega), List.getElem?_set_ne (by omega), List.getElem?_set_self (by simp; omega), show k * 3 + 1 - k * 3 = 1 by omega]; simp
    · rw [if_pos (by omega), List.getElem?_set_self (by simp; omega), show k * 3 + 2 - k * 3 = 2 by omega]; simp
    · rw [if_neg (by omega), List.getElem?_eq_none (by simp; omega)]

theorem flat_take_succ (l : List Sg) (k : Nat) (hk : k < l.length) : flat (l.take (k + 1)) = flat (l.take k) ++ sgCells (l.getD k (0, 0, 0)) := by
  rw [List.take_succ_eq_append_getElem hk, flat_append]
  simp [flat, List.getD, hk]

theorem Try.info74 : (Try.prog.info? 74).map (fun i => (i.zero, i.size, i.bytes)) = some (some (.agg #[.int .u8 0, .int .i64 0, .int .i64 0]), 3, 24) := by kernel_rfl

theorem cell_three_new (w : World) (x y z : Value) (t : TypeId) : ∀ j u, [x, y, z][j]? = some u → (w.alloc (.cells #[x, y, z] t)).cell? ((⟨w.heap.size, 0, none⟩ : Addr).add j) = some u := by
  intro j u hj
  match j, hj with
  | 0, hj => simp at hj; subst hj; simp [Addr.add]
  | 1, hj => simp at hj; subst hj; simp [Addr.add]
  | 2, hj => simp at hj; subst hj; simp [Addr.add]
  | (j + 3), hj => simp at hj

theorem three_oneCell (a b c : Int) : ∀ u ∈ [Value.int .u8 a, .int .i64 b, .int .i64 c], u.oneCell' = true := by
  intro u hu
  simp at hu
  rcases hu with rfl | rfl | rfl <;> rfl

/-- A value that owns a list of signs. -/
def Own (w : World) (B : Nat) (v : Value) (l : List Sg) : Prop := w.ownsRow B 74 3 v l.length (flat l)

theorem Own.shape {w : World} {B : Nat} {v : Value} {l : List Sg} (h : Own w B v l) : ∃ a cap, v = .slice a l.length cap ∧ Txt w a l.length cap l := by
  have h' := h
  unfold Own at h'
  rcases h'.2 with ⟨rfl, h0⟩ | ⟨g, cap, cur, rfl, r⟩
  · have : l = [] := List.eq_nil_of_length_eq_zero h0
    subst this
    exact ⟨none, 0, rfl, rfl, Nat.le_refl _, Nat.zero_le _, .inl rfl⟩
  · exact ⟨_, _, rfl, txt_of_own h'⟩

theorem Own.below {w w' : World} {B : Nat} {v : Value} {l : List Sg} (h : Own w B v l) (hb : Below w.heap.size w w') : Own w' B v l := own_below h hb
theorem Own.nil (w : World) (B : Nat) : Own w B (.slice none 0 0) [] := World.ownsRow_nil _ _ _ _
theorem Own.snoc {w : World} {B : Nat} {v : Value} {l : List Sg} {s : Sg} {n : Nat} {xs : List Value} (h : w.ownsRow B 74 3 v n xs) (hn : n = l.length + 1) (hx : xs = flat l ++ sgCells s) : Own w B v (l ++ [s]) := by
  subst hn hx
  unfold Own
  rw [flat_append, List.length_append]
  have : flat [s] = sgCells s := by simp [flat]
  rw [this]
  exact h

theorem Own.shapeN {w : World} {B : Nat} {v : Value} {l : List Sg} (h : Own w B v l) {n : Nat} (hn : l.length = n) : ∃ a cap, v = .slice a n cap := by
  obtain ⟨a, cap, rfl, _⟩ := h.shape
  exact ⟨a, cap, by rw [hn]⟩
theorem Own.txt {w : World} {B : Nat} {a : Option Addr} {n cap : Nat} {l : List Sg} (h : Own w B (.slice a n cap) l) : Txt w a n cap l := by
  obtain ⟨a', cap', he, ht⟩ := h.shape
  simp only [Value.slice.injEq] at he
  obtain ⟨rfl, rfl, rfl⟩ := he
  exact ht
theorem Own.len {w : World} {B : Nat} {a : Option Addr} {n cap : Nat} {l : List Sg} (h : Own w B (.slice a n cap) l) : n = l.length := h.txt.1
theorem Own.row {w : World} {B : Nat} {a : Option Addr} {n cap : Nat} {l : List Sg} (h : Own w B (.slice a n cap) l) : w.ownsRow B 74 3 (.slice a n cap) n (flat l) := by
  have := h.len
  subst this
  exact h

/-- A sign more behind an owned list: what the append leaves. -/
theorem own_step {B : Nat} {w wr w1 : World} {a : Option Addr} {k c : Nat} {v' : Value} {l : List Sg} {s : Sg} {o : Obj} (ho : Own wr B (.slice a k c) l) (hbl : Below B w wr) (hB : B ≤ wr.heap.size)
    (hown : w1.ownsRow B 74 3 v' (k + 1) (flat l ++ sgCells s)) (hgrow : (wr.alloc o).grownBy w1 (Value.slice a k c).ownBlock) :
    ∃ a' c', v' = .slice a' (k + 1) c' ∧ Own w1 B (.slice a' (k + 1) c') (l ++ [s]) ∧ Below B w w1 := by
  have hk := ho.len
  have h1 : Own w1 B v' (l ++ [s]) := Own.snoc hown (by omega) rfl
  obtain ⟨a', c', rfl⟩ := h1.shapeN (n := k + 1) (by simp; omega)
  refine ⟨a', c', rfl, h1, ?_⟩
  exact (hbl.alloc hB _).grown hgrow (by simp; omega) (fun q hq => (ho.row.lt q hq).1)

theorem Own.emptyNew (w : World) (B : Nat) (hB : B ≤ w.heap.size) : Own (w.alloc (.cells #[] 74)) B (.slice (some ⟨w.heap.size, 0, none⟩) 0 0) [] :=
  World.ownsRow_made w #[] 0 hB (Nat.zero_le _) rfl

theorem grown_of_drew {w w' : World} {r : Option Nat} (h : w.drew.grownBy w' r) : w.grownBy w' r := ⟨h.os, h.tape, h.output, h.size, h.block⟩
theorem Own.alloc {w : World} {B : Nat} {v : Value} {l : List Sg} (h : Own w B v l) (o : Obj) : Own (w.alloc o) B v l := World.ownsRow.alloc h o
end Go.Proofs.Ytcecmkideoodiaa
namespace Go.Proofs.Ytcecmkideoodiaa
open Go.RowKit

theorem implTextOk_is {a : Option Addr} {n cap : Nat} {l : List Sg} {w : World} {x : Bool} (h : Txt w a n cap l) (hx : textB l = x) :
    Calls Try.prog 104 #[.slice a n cap] w fun e w' => e = .returned (.bool x) ∧ Below w.heap.size w w' := hx ▸ implTextOk_any a n cap l w h
end Go.Proofs.Ytcecmkideoodiaa
namespace Go.Proofs.Ytcecmkideoodiaa
open Go.RowKit

/-- A slice value that reads as the bytes zs, in a block below B. -/
def Byt (B : Nat) (w : World) (a : Option Addr) (n cap : Nat) (zs : List Int) : Prop :=
  n = zs.length ∧ n ≤ cap ∧ cap ≤ maxLen ∧ (∀ i : Nat, 0 ≤ zs.getD i 0 ∧ zs.getD i 0 ≤ 255) ∧ (zs = [] ∨ ∃ b off, a = some ⟨b, off, none⟩ ∧ b < B ∧ ∀ i, i < zs.length → w.cell? ⟨b, off + i, none⟩ = some (.int .u8 (zs.getD i 0)))

theorem Byt.same {B : Nat} {w w' : World} {a : Option Addr} {n cap : Nat} {zs : List Int} (h : Byt B w a n cap zs) (hb : ∀ k, k < B → w'.heap[k]? = w.heap[k]?) : Byt B w' a n cap zs := by
  obtain ⟨h1, h2, h3, h4, h5⟩ := h
  refine ⟨h1, h2, h3, h4, ?_⟩
  rcases h5 with h5 | ⟨b, off, h6, h7, h8⟩
  · exact .inl h5
  · exact .inr ⟨b, off, h6, h7, fun i hi => (World.cell?_of_block (w := w) (hb b h7)).trans (h8 i hi)⟩

/-- The reader of a code: its block, the bytes (below B), how many numbers were drawn. -/
def Rd (B : Nat) (w : World) (g p : Nat) : Prop :=
  B ≤ g ∧ ∃ a n c zs, w.heap[g]? = some (.cells #[.slice a n c, .int .i64 (p : Int)] 81 (0, 0)) ∧ Byt B w a n c zs ∧ n ≤ 2000

theorem Rd.lt {B : Nat} {w : World} {g p : Nat} (h : Rd B w g p) : g < w.heap.size := by
  obtain ⟨_, a, n, c, zs, hg, _⟩ := h
  exact (Array.getElem?_eq_some_iff.1 hg).1

/-- What leaves the blocks that were there as they were leaves the reader. -/
theorem Rd.below {B : Nat} {w w' : World} {g p : Nat} (h : Rd B w g p) {C : Nat} (hb : Below C w w') (hC : g < C) : Rd B w' g p := by
  obtain ⟨hB, a, n, c, zs, hg, hy, hn⟩ := h
  exact ⟨hB, a, n, c, zs, (hb.block g hC).trans hg, hy.same (fun k hk => hb.block k (by omega)), hn⟩

theorem pick_lt (x n : Int) (h : 1 ≤ n) : 0 ≤ x % n ∧ x % n < n := ⟨Int.emod_nonneg _ (by omega), Int.emod_lt_of_pos _ (by omega)⟩

theorem xor_i64 (a b : Int) (h1 : 0 ≤ a) (h2 : a < 1099511627776) (h3 : 0 ≤ b) (h4 : b < 1099511627776) : 0 ≤ bits .xor .i64 a b ∧ bits .xor .i64 a b < 1099511627776 := by
  obtain ⟨A, rfl⟩ := Int.eq_ofNat_of_zero_le h1
  obtain ⟨B, rfl⟩ := Int.eq_ofNat_of_zero_le h3
  have hx : A ^^^ B < 2 ^ 40 := Nat.xor_lt_two_pow (by omega) (by omega)
  have e1 : (BitVec.ofInt 64 (A : Int)).toNat = A := by
    rw [BitVec.ofInt_natCast, BitVec.toNat_ofNat]; exact Nat.mod_eq_of_lt (by omega)
  have e2 : (BitVec.ofInt 64 (B : Int)).toNat = B := by
    rw [BitVec.ofInt_natCast, BitVec.toNat_ofNat]; exact Nat.mod_eq_of_lt (by omega)
  have e : bits .xor .i64 (A : Int) (B : Int) = ((A ^^^ B : Nat) : Int) := by
    show IntKind.i64.wrap ((BitVec.ofInt 64 (A : Int) ^^^ BitVec.ofInt 64 (B : Int)).toNat : Int) = _
    rw [BitVec.toNat_xor, e1, e2, IntKind.wrap_i64]
    omega
  rw [e]
  omega

/-- A number more is drawn. -/
theorem rd_step {B : Nat} {w : World} {g p : Nat} (h : Rd B w g p) : Rd B (w.setCell ⟨g, 1, none⟩ (.int .i64 ((p : Int) + 1))) g (p + 1) := by
  obtain ⟨hB, a, n, c, zs, hg, hy, hn⟩ := h
  refine ⟨hB, a, n, c, zs, ?_, hy.same (fun k hk => heap_setCell_other w ⟨g, 1, none⟩ k _ (by simp; omega)), hn⟩
  rw [heap_setCell_same w g 1 _ _ _ hg]
  simp
theorem rd_drewN {B : Nat} {w : World} {g p : Nat} (h : Rd B w g p) (n : Nat) : Rd B (w.drewN n) g p := h
theorem grown_setCell' (w : World) (g o : Nat) (u : Value) : w.grownBy (w.setCell ⟨g, o, none⟩ u) (some g) :=
  ⟨rfl, rfl, rfl, by simp [World.setCell], fun k _ hne => Below.heap_setCell w ⟨g, o, none⟩ u k (fun e => hne (by simp [e]))⟩
theorem grown_drewN {w w' : World} {r : Option Nat} (h : w.grownBy w' r) (n : Nat) : w.grownBy (w'.drewN n) r := ⟨h.os, h.tape, h.output, h.size, h.block⟩

set_option maxRecDepth 100000 in
set_option maxHeartbeats 2000000 in
theorem pick_any (B g p : Nat) (n : Int) (w : World) (h : Rd B w g p) (hp : p ≤ 1000000) (h1 : 1 ≤ n) (h2 : n ≤ 1000) :
    Calls Try.prog 25 #[.pointer (some ⟨g, 0, none⟩), .int .i64 n] w fun e w' => ∃ x : Int, e = .returned (.int .i64 x) ∧ 0 ≤ x ∧ x < n ∧ Rd B w' g (p + 1) ∧ w.grownBy w' (some g) := by
  obtain ⟨hB, a, m, c, zs, hg, hy, hm⟩ := h
  have c0 : w.cell? ⟨g, 0, none⟩ = some (.slice a m c) := by rw [cell_of_row w g 0 _ _ _ hg]; rfl
  have c1 : w.cell? ⟨g, 1, none⟩ = some (.int .i64 (p : Int)) := by rw [cell_of_row w g 1 _ _ _ hg]; rfl
  have f1 : w.frozen? ⟨g, 1, none⟩ = false := frozen_of_row w g 1 _ _ hg
  have hn1 : decide (n < 1) = false := by simp; omega
  have HY : Hid (Byt B w a m c zs) := hy
  obtain ⟨hmz, hmc, hcm, hz, hcells⟩ := hy
  unfold maxLen at hcm
  by_cases h0 : m = 0
  · subst h0
    have HG : Hid (w.heap[g]? = some (.cells #[.slice a 0 c, .int .i64 (p : Int)] 81 (0, 0))) := hg
    clear hg hcells hmz hz
    go_enter Try.func25, Try.ntmps25
    go_wp2_with fail
    go_ret
    exact ⟨_, rfl, Int.le_refl _, by omega, rd_step ⟨hB, _, _, _, zs, HG.out, HY.out, hm⟩, grown_setCell' _ _ _ _⟩
  · rcases hcells with hnil | ⟨b, off, rfl, hbB, hcells⟩
    · rw [hnil] at hmz
      exact absurd hmz h0
    · have hm0 : ((m : Int) == 0) = false := by simp; omega
      by_cases hlt : p < m
      · have hzp := hz p
        have cz : w.cell? ⟨b, off + p, none⟩ = some (.int .u8 (zs.getD p 0)) := hcells p (by omega)
        obtain ⟨z, hzz⟩ : ∃ z, z = zs.getD p 0 := ⟨_, rfl⟩
        rw [← hzz] at cz hzp
        have HG : Hid (w.heap[g]? = some (.cells #[.slice (some ⟨b, off, none⟩) m c, .int .i64 (p : Int)] 81 (0, 0))) := hg
        clear hg hcells hzz hmz hz
        have cz' : (w.setCell ⟨g, 1, none⟩ (.int .i64 ((p : Int) + 1))).cell? ⟨b, off + p, none⟩ = some (.int .u8 z) := by
          rw [World.cell?_of_block (heap_setCell_other w ⟨g, 1, none⟩ b _ (by simp; omega))]; exact cz
        go_enter Try.func25, Try.ntmps25
        go_wp2_with fail
        go_ret
        exact ⟨_, rfl, (pick_lt _ _ h1).1, (pick_lt _ _ h1).2, rd_step ⟨hB, _, _, _, zs, HG.out, HY.out, hm⟩, grown_setCell' _ _ _ _⟩
      · have hmp : m ≤ p := by omega
        obtain ⟨j1, hj1⟩ : ∃ j, j = p % m := ⟨_, rfl⟩
        obtain ⟨j2, hj2⟩ : ∃ j, j = (p * 7 + 3) % m := ⟨_, rfl⟩
        have hj1m : j1 < m := by rw [hj1]; exact Nat.mod_lt _ (by omega)
        have hj2m : j2 < m := by rw [hj2]; exact Nat.mod_lt _ (by omega)
        obtain ⟨z1, hz1⟩ : ∃ z, z = zs.getD j1 0 := ⟨_, rfl⟩
        obtain ⟨z2, hz2⟩ : ∃ z, z = zs.getD j2 0 := ⟨_, rfl⟩
        have hzp1 := hz j1
        have hzp2 := hz j2
        have cz1 : w.cell? ⟨b, off + j1, none⟩ = some (.int .u8 (zs.getD j1 0)) := hcells j1 (by omega)
        have cz2 : w.cell? ⟨b, off + j2, none⟩ = some (.int .u8 (zs.getD j2 0)) := hcells j2 (by omega)
        rw [← hz1] at cz1 hzp1
        rw [← hz2] at cz2 hzp2
        have HG : Hid (w.heap[g]? = some (.cells #[.slice (some ⟨b, off, none⟩) m c, .int .i64 (p : Int)] 81 (0, 0))) := hg
        clear hg hcells hz1 hz2 hmz hz
        have k1 : (w.setCell ⟨g, 1, none⟩ (.int .i64 ((p : Int) + 1))).cell? ⟨b, off + p % m, none⟩ = some (.int .u8 z1) := by
          rw [World.cell?_of_block (heap_setCell_other w ⟨g, 1, none⟩ b _ (by simp; omega)), ← hj1]; exact cz1
        have k2 : (w.setCell ⟨g, 1, none⟩ (.int .i64 ((p : Int) + 1))).cell? ⟨b, off + (p * 7 + 3) % m, none⟩ = some (.int .u8 z2) := by
          rw [World.cell?_of_block (heap_setCell_other w ⟨g, 1, none⟩ b _ (by simp; omega)), ← hj2]; exact cz2
        have q1 : (p : Int) % (m : Int) < (m : Int) := Int.emod_lt_of_pos _ (by omega)
        have q2 : ((p : Int) * 7 + 3) % (m : Int) < (m : Int) := Int.emod_lt_of_pos _ (by omega)
        have q3 : 0 ≤ (p : Int) % (m : Int) := Int.emod_nonneg _ (by omega)
        have q4 : 0 ≤ ((p : Int) * 7 + 3) % (m : Int) := Int.emod_nonneg _ (by omega)
        have q5 : 0 ≤ (p : Int) / (m : Int) := Int.ediv_nonneg (by omega) (by omega)
        have q6 : (p : Int) / (m : Int) ≤ 1000000 := Int.le_trans (Int.ediv_le_self _ (by omega)) (by omega)
        clear hj1 hj2 hj1m hj2m cz1 cz2
        go_enter Try.func25, Try.ntmps25
        go_wp2_with fail
        go_quiet (fail)
        have x0 : 0 ≤ z1 * 131 + z2 * 1117 + (p : Int) * 29 + (p : Int) / (m : Int) * 53 := by omega
        have x1 : z1 * 131 + z2 * 1117 + (p : Int) * 29 + (p : Int) / (m : Int) * 53 < 1099511627776 := by omega
        generalize z1 * 131 + z2 * 1117 + (p : Int) * 29 + (p : Int) / (m : Int) * 53 = X at x0 x1 ⊢
        have y0 := (xor_i64 X (X / 64) x0 x1 (by omega) (by omega)).1
        have y1 := (xor_i64 X (X / 64) x0 x1 (by omega) (by omega)).2
        go_wp2_with fail
        go_ret
        exact ⟨_, rfl, (pick_lt _ _ h1).1, (pick_lt _ _ h1).2, rd_drewN (rd_step ⟨hB, _, _, _, zs, HG.out, HY.out, hm⟩) _, grown_drewN (grown_setCell' _ _ _ _) _⟩
end Go.Proofs.Ytcecmkideoodiaa
namespace Go.Proofs.Ytcecmkideoodiaa
open Go.ChangeShapes Go.WideShapes Go.ChangeAt Go.RowKit

theorem byt_nil (W : World) : Byt W.heap.size W none 0 0 [] := ⟨rfl, Nat.le_refl _, Nat.zero_le _, fun i => by simp, .inl rfl⟩

theorem byt_of {W : World} {x : Addr} {len cap : Nat} {zs : List Int} (hl : len ≤ cap) (hm : cap ≤ maxLen) (hz : zs.length = cap) (hcell : ∀ i, i < zs.length → W.cell? (x.add i) = some (.int .u8 (zs.getD i 0)))
    (hwz : ∀ n ∈ zs, (Lit.int .u8 n).wf = true) : Byt W.heap.size W (some x) len cap (zs.take len) := by
  have e : ∀ i, i < len → (zs.take len).getD i 0 = zs.getD i 0 := fun i hi => by simp [List.getD, hi]
  refine ⟨by simp; omega, hl, hm, fun i => ?_, ?_⟩
  · by_cases hi : i < len
    · rw [e i hi]
      have hm : zs.getD i 0 ∈ zs := by
        rw [List.getD, List.getElem?_eq_getElem (by omega)]
        simp
      have := hwz _ hm
      simp [Lit.wf, IntKind.min, IntKind.max, IntKind.signed, IntKind.bits] at this
      simp only [List.getD] at *
      omega
    · have : (zs.take len)[i]? = none := List.getElem?_eq_none (by simp; omega)
      simp [List.getD, this]
  · by_cases h0 : len = 0
    · subst h0; exact .inl (by simp)
    · obtain ⟨b, off, spot⟩ := x
      have hc := hcell 0 (by omega)
      have hspot : spot = none := by simpa [Addr.add] using World.cell?_spot hc
      subst hspot
      refine .inr ⟨b, off, rfl, by have := World.block_lt_of_cell? _ _ hc; simpa [Addr.add_lit] using this, fun i hi => ?_⟩
      have hi' : i < len := by simp at hi; omega
      rw [e i hi']
      have := hcell i (by omega)
      simpa only [Addr.add_lit] using this
end Go.Proofs.Ytcecmkideoodiaa
namespace Go.Proofs.Ytcecmkideoodiaa
open Go.RowKit

/-- A block that holds just these cells. -/
def RowAt (w : World) (b : Nat) (cs : Array Value) (ty : TypeId) : Prop := w.heap[b]? = some (.cells cs ty (0, 0))
section
variable {w w' : World} {b : Nat} {cs : Array Value} {ty : TypeId}
theorem RowAt.lt (h : RowAt w b cs ty) : b < w.heap.size := (Array.getElem?_eq_some_iff.1 h).1
theorem RowAt.cell (h : RowAt w b cs ty) (j : Nat) : w.cell? ⟨b, j, none⟩ = cs[j]? := cell_of_row w b j _ _ _ h
theorem RowAt.frozen (h : RowAt w b cs ty) (o : Nat) : w.frozen? ⟨b, o, none⟩ = false := by simp [World.frozen?, show w.heap[b]? = _ from h]
theorem RowAt.below (h : RowAt w b cs ty) {B : Nat} (hb : Below B w w') (hB : b < B) : RowAt w' b cs ty := by
  unfold RowAt
  rw [hb.block b hB]
  exact h
theorem RowAt.alloc (h : RowAt w b cs ty) (o : Obj) : RowAt (w.alloc o) b cs ty := (Go.Deep.blk_alloc_lt w o b h.lt).trans h
theorem RowAt.drew (h : RowAt w b cs ty) : RowAt w.drew b cs ty := h
theorem RowAt.other (h : RowAt w b cs ty) (a : Addr) (u : Value) (hb : b ≠ a.block) : RowAt (w.setCell a u) b cs ty := by
  unfold RowAt
  rw [Go.Deep.blk_setCell_other _ _ _ _ hb]
  exact h
theorem RowAt.setCell (h : RowAt w b cs ty) (j : Nat) (v : Value) : RowAt (w.setCell ⟨b, j, none⟩ v) b (cs.setIfInBounds j v) ty := by
  unfold RowAt
  rw [setCell_eq_setRow _ _ _ _ _ _ _ h]
  exact setRow_heap _ _ _ _ _ _ h
theorem RowAt.setRow (h : RowAt w b cs ty) (cs' : Array Value) : RowAt (w.setRow b cs') b cs' ty := setRow_heap _ _ _ _ _ _ h
theorem RowAt.setRowOther (h : RowAt w b cs ty) (g : Nat) (cs' : Array Value) (hb : b ≠ g) : RowAt (w.setRow g cs') b cs ty := by
  unfold RowAt
  rw [setRow_other _ _ _ _ hb]
  exact h
end
theorem below_row {B g : Nat} {w0 w : World} (hb : Below B w0 w) (hBg : B ≤ g) (cs : Array Value) : Below B w0 (w.setRow g cs) :=
  hb.trans ⟨rfl, rfl, rfl, by simp [World.setRow], fun k hk => setRow_other w g k cs (by omega)⟩
theorem rowAt_new (w : World) (cs : Array Value) (ty : TypeId) : RowAt (w.alloc (.cells cs ty)) w.heap.size cs ty := heap_alloc_new _ _
theorem wpList_load_rowG {P : Program} {ops : Array Oper} {rest : List Oper} {o : Oper} {a : Act} {w : World} {Q : Exit → Act → World → Prop} (hgd : Region.wanted o (yielded ops a.tmps) = true) (ty : TypeId) (x : Operand) (ho : o.op = .load ty x)
    (g : Nat) (hx : a.eval x = .pointer (some ⟨g, 0, none⟩)) (t : TypeId) (cs : Array Value) (fr : Nat × Nat) (d : TypeDesc) (hg : w.heap[g]? = some (.cells cs t fr))
    (hu : P.underlying ty = some d) (hd : (match d with | .struct _ | .array _ _ => true | _ => false) = true) (hi : (P.info? ty).map (·.size) = some cs.size)
    (h : wpList P ops Q rest (a.put o.dst (.agg cs)) w) : wpList P ops Q (o :: rest) a w := by
  unfold wpList
  rw [if_pos hgd]
  exact .inl (wp_load_row ty x ho g hx t cs fr d hg hu hd hi h)
theorem cells5_one (r c d g : Int) (a : Option Addr) (n cap : Nat) : (#[Value.int .i64 r, .int .i64 c, .int .i64 d, .int .i64 g, .slice a n cap] : Array Value).all (·.oneCell') = true := by
  simp [Value.oneCell']
theorem cells3_one (r c : Int) (a : Option Addr) (n cap : Nat) : (#[Value.int .i64 r, .int .i64 c, .slice a n cap] : Array Value).all (·.oneCell') = true := by
  simp [Value.oneCell']
end Go.Proofs.Ytcecmkideoodiaa
namespace Go.Proofs.Ytcecmkideoodiaa
open Go.RowKit

/-- A fact on a world that stays where nothing old has turned. -/
def Mono (p : World → Prop) : Prop := ∀ u u' : World, p u → Below u.heap.size u u' → p u'
/-- What a walk carries from world to world: nothing of w0 has turned; rows of cells in blocks; facts that stay. -/
structure Hd (w0 : World) (rs : List (Nat × Array Value × TypeId)) (ps : List (World → Prop)) (u : World) : Prop where
  below : Below w0.heap.size w0 u
  row : ∀ r ∈ rs, RowAt u r.1 r.2.1 r.2.2
  fact : ∀ p ∈ ps, Mono p ∧ p u
section
variable {w0 u u' : World} {rs : List (Nat × Array Value × TypeId)} {ps : List (World → Prop)}
theorem Hd.go (h : Hd w0 rs ps u) (hb : Below u.heap.size u u') : Hd w0 rs ps u' :=
  ⟨h.below.trans (hb.mono h.below.size), fun r hr => (h.row r hr).below hb (h.row r hr).lt, fun p hp => ⟨(h.fact p hp).1, (h.fact p hp).1 u u' (h.fact p hp).2 hb⟩⟩
theorem hd_go (h : Hid (Hd w0 rs ps u)) (hb : Below u.heap.size u u') : Hid (Hd w0 rs ps u') := h.out.go hb
theorem hd_start (w : World) : Hid (Hd w [] [] w) := ⟨Below.refl _ _, fun r hr => absurd hr (by simp), fun p hp => absurd hp (by simp)⟩
theorem hd_add (h : Hid (Hd w0 rs ps u)) (p : World → Prop) (hm : Mono p) (hp : p u) : Hid (Hd w0 rs (p :: ps) u) :=
  ⟨h.out.below, h.out.row, fun q hq => by
    rcases List.mem_cons.1 hq with rfl | hq
    · exact ⟨hm, hp⟩
    · exact h.out.fact q hq⟩
theorem hd_row (h : Hid (Hd w0 rs ps u)) (X : Nat) (cs : Array Value) (ty : TypeId) (hr : RowAt u X cs ty) : Hid (Hd w0 ((X, cs, ty) :: rs) ps u) :=
  ⟨h.out.below, fun r hq => by
    rcases List.mem_cons.1 hq with rfl | hq
    · exact hr
    · exact h.out.row r hq, h.out.fact⟩
theorem hd_box (h : Hid (Hd w0 rs ps u)) (cs : Array Value) (ty : TypeId) : Hid (Hd w0 ((u.heap.size, cs, ty) :: rs) ps (u.alloc (.cells cs ty))) :=
  hd_row (hd_go h ((Below.refl _ _).alloc (Nat.le_refl _) _)) _ _ _ (rowAt_new _ _ _)
theorem hd_rowless {r : Nat × Array Value × TypeId} (h : Hid (Hd w0 (r :: rs) ps u)) : Hid (Hd w0 rs ps u) :=
  ⟨h.out.below, fun q hq => h.out.row q (List.mem_cons_of_mem _ hq), h.out.fact⟩
/-- A row that was made last is written. -/
theorem hd_set {X : Nat} {cs : Array Value} {ty : TypeId} {b : World} (hb : Hid (Hd w0 rs ps b)) (h : Hid (Hd w0 ((X, cs, ty) :: rs) ps u)) (hbu : Below b.heap.size b u) (hX : b.heap.size ≤ X) (cs' : Array Value) : Hid (Hd w0 ((X, cs', ty) :: rs) ps (u.setRow X cs')) :=
  hd_row (hd_go hb (below_row hbu hX cs')) _ _ _ ((h.out.row _ (List.mem_cons_self ..)).setRow cs')
theorem hd_drew (h : Hid (Hd w0 rs ps u)) : Hid (Hd w0 rs ps u.drew) := hd_go h (Below.refl _ _).drew
end
theorem code_gen {P : Program} {c : Code} {Q : Exit → Act → World → Prop} {a : Act} {w : World} (h : ∀ V, V = w → c.wp P Q a V) : c.wp P Q a w := h w rfl
end Go.Proofs.Ytcecmkideoodiaa
namespace Go.Proofs.Ytcecmkideoodiaa
open Go.RowKit

/-- A cell: its row, its column, how far it goes down and to the right, its text. -/
abbrev Cl := Int × Int × Int × Int × List Sg
def cl0 : Cl := (0, 0, 0, 0, [])

/-- The cells of a table's cell at block b from o on. -/
def CellAt (w : World) (b o : Nat) (x : Cl) : Prop :=
  w.cell? ⟨b, o, none⟩ = some (.int .i64 x.1) ∧ w.cell? ⟨b, o + 1, none⟩ = some (.int .i64 x.2.1) ∧ w.cell? ⟨b, o + 2, none⟩ = some (.int .i64 x.2.2.1) ∧ w.cell? ⟨b, o + 3, none⟩ = some (.int .i64 x.2.2.2.1) ∧
    ∃ a n cap, w.cell? ⟨b, o + 4, none⟩ = some (.slice a n cap) ∧ Txt w a n cap x.2.2.2.2

/-- A slice value that reads as the cells l. -/
def Tab (w : World) (a : Option Addr) (n cap : Nat) (l : List Cl) : Prop :=
  n = l.length ∧ n ≤ cap ∧ cap ≤ maxLen ∧ (l = [] ∨ ∃ b off, a = some ⟨b, off, none⟩ ∧ b < w.heap.size ∧ ∀ k, k < l.length → CellAt w b (off + k * 5) (l.getD k cl0))

theorem CellAt.below {w w' : World} {b o : Nat} {x : Cl} (h : CellAt w b o x) (hb : Below w.heap.size w w') (hlt : b < w.heap.size) : CellAt w' b o x := by
  obtain ⟨h0, h1, h2, h3, a, n, cap, h4, ht⟩ := h
  exact ⟨(hb.cell (p := ⟨b, _, none⟩) hlt).trans h0, (hb.cell (p := ⟨b, _, none⟩) hlt).trans h1, (hb.cell (p := ⟨b, _, none⟩) hlt).trans h2, (hb.cell (p := ⟨b, _, none⟩) hlt).trans h3, a, n, cap, (hb.cell (p := ⟨b, _, none⟩) hlt).trans h4, ht.below hb⟩
theorem Tab.below {w w' : World} {a : Option Addr} {n cap : Nat} {l : List Cl} (h : Tab w a n cap l) (hb : Below w.heap.size w w') : Tab w' a n cap l := by
  obtain ⟨h1, h2, h3, h4⟩ := h
  refine ⟨h1, h2, h3, ?_⟩
  rcases h4 with h4 | ⟨b, off, h5, h6, h7⟩
  · exact .inl h4
  · exact .inr ⟨b, off, h5, Nat.lt_of_lt_of_le h6 hb.size, fun k hk => (h7 k hk).below hb h6⟩

def inB (x : Cl) (r c : Int) : Bool := decide (x.1 ≤ r ∧ r < x.1 + x.2.2.1 ∧ x.2.1 ≤ c ∧ c < x.2.1 + x.2.2.2.1)
/-- Numbers that no sum of two takes out of range. -/
def sml (n : Int) : Prop := -1000000 ≤ n ∧ n ≤ 1000000

set_option maxHeartbeats 1000000 in
theorem l2In_any (r c d h : Int) (ta : Option Addr) (tn tc : Nat) (a b : Int) (w : World) (hr : sml r) (hc : sml c) (hd : sml d) (hh : sml h) :
    Calls Try.prog 73 #[.agg #[.int .i64 r, .int .i64 c, .int .i64 d, .int .i64 h, .slice ta tn tc], .int .i64 a, .int .i64 b] w fun e w' => e = .returned (.bool (inB (r, c, d, h, []) a b)) ∧ Below w.heap.size w w' := by
  obtain ⟨r0, r1⟩ := hr
  obtain ⟨c0, c1⟩ := hc
  obtain ⟨d0, d1⟩ := hd
  obtain ⟨e0, e1⟩ := hh
  go_enter Try.func73, Try.ntmps73
  go_wp2
  all_goals go_ret
  all_goals refine ⟨congrArg (fun x => Ending.returned (.bool x)) ?_, (Below.refl _ _).alloc (Nat.le_refl _) _⟩
  all_goals show _ = decide (r ≤ a ∧ a < r + d ∧ c ≤ b ∧ b < c + h)
  all_goals first | exact decide_eq_decide.2 (by omega) | exact (decide_eq_false (by omega)).symm

/-- A cell in form, in a table of so many rows and columns. -/
def cellB (R C : Int) (x : Cl) : Bool := decide (0 ≤ x.1 ∧ x.1 ≤ R - 1) && decide (0 ≤ x.2.1 ∧ x.2.1 ≤ C - 1) && decide (1 ≤ x.2.2.1 ∧ x.2.2.1 ≤ R - x.1) && decide (1 ≤ x.2.2.2.1 ∧ x.2.2.2.1 ≤ C - x.2.1) && textB x.2.2.2.2
/-- One cell ahead of another. -/
def ahead (x y : Cl) : Bool := decide (x.1 < y.1 ∨ x.1 = y.1 ∧ x.2.1 < y.2.1)
/-- The cell at k in form, and behind the one ahead of it. -/
def atB (R C : Int) (l : List Cl) (k : Nat) : Bool := cellB R C (l.getD k cl0) && (decide (k = 0) || ahead (l.getD (k - 1) cl0) (l.getD k cl0))
def tabV (R C : Int) (a : Option Addr) (n cap : Nat) : Value := .agg #[.int .i64 R, .int .i64 C, .slice a n cap]
def formB (R C : Int) (l : List Cl) : Bool := decide (1 ≤ R ∧ R ≤ 5) && decide (1 ≤ C ∧ C ≤ 5) && decide (l.length ≤ 25) && (List.range l.length).all (atB R C l)

theorem formB_0 {R C : Int} {l : List Cl} (h : decide (1 ≤ R ∧ R ≤ 5) = false) : formB R C l = false := by simp [formB, h]
theorem formB_1 {R C : Int} {l : List Cl} (h : decide (1 ≤ C ∧ C ≤ 5) = false) : formB R C l = false := by simp [formB, h]
theorem formB_2 {R C : Int} {l : List Cl} (h : ¬ l.length ≤ 25) : formB R C l = false := by simp [formB, h]
theorem formB_3 {R C : Int} {l : List Cl} (h0 : decide (1 ≤ R ∧ R ≤ 5) = true) (h1 : decide (1 ≤ C ∧ C ≤ 5) = true) (h2 : l.length ≤ 25) : formB R C l = (List.range l.length).all (atB R C l) := by simp only [formB, h0, h1, h2, decide_true, Bool.true_and]
theorem range_all_succ (n : Nat) (p : Nat → Bool) : (List.range (n + 1)).all p = ((List.range n).all p && p n) := by simp [List.range_succ]
theorem range_all_false {n k : Nat} {p : Nat → Bool} (hk : k < n) (h : p k = false) : (List.range n).all p = false := by
  rw [← Bool.not_eq_true, List.all_eq_true]
  intro hh
  rw [hh k (by simpa using hk)] at h
  exact absurd h (by simp)

set_option maxRecDepth 100000 in
set_option maxHeartbeats 4000000 in
theorem l2Form_any (R C : Int) (a : Option Addr) (n cap : Nat) (l : List Cl) (w : World) (h : Tab w a n cap l) :
    Calls Try.prog 72 #[.agg #[.int .i64 R, .int .i64 C, .slice a n cap]] w fun e w' => e = .returned (.bool (formB R C l)) ∧ Below w.heap.size w w' := by
  obtain ⟨rfl, hc, hm, hl⟩ := h
  unfold maxLen at hm
  cases h0 : decide (1 ≤ R ∧ R ≤ 5)
  · rw [formB_0 h0]
    have H0 : Hid (decide (1 ≤ R ∧ R ≤ 5) = false) := h0
    clear h0
    go_enter Try.func72, Try.ntmps72
    go_wp2_with (go_at_call 30; refine (l6In_of H0.out _).mono ?_; rintro e w1 ⟨rfl, rfl⟩)
    go_ret
    exact ⟨rfl, (Below.refl _ _).alloc (Nat.le_refl _) _⟩
  cases h1 : decide (1 ≤ C ∧ C ≤ 5)
  · rw [formB_1 h1]
    have H0 : Hid (decide (1 ≤ R ∧ R ≤ 5) = true) := h0
    have H1 : Hid (decide (1 ≤ C ∧ C ≤ 5) = false) := h1
    clear h0 h1
    go_enter Try.func72, Try.ntmps72
    go_wp2_with (first | (go_at_call_of 30 (Value.int IntKind.i64 R); refine (l6In_of H0.out _).mono ?_; rintro e w1 ⟨rfl, rfl⟩) | (go_at_call_of 30 (Value.int IntKind.i64 C); refine (l6In_of H1.out _).mono ?_; rintro e w1 ⟨rfl, rfl⟩))
    go_ret
    exact ⟨rfl, (Below.refl _ _).alloc (Nat.le_refl _) _⟩
  by_cases h2 : l.length ≤ 25
  · rw [formB_3 h0 h1 h2]
    have hR := of_decide_eq_true h0
    have hC := of_decide_eq_true h1
    have H0 : Hid (decide (1 ≤ R ∧ R ≤ 5) = true) := h0
    have H1 : Hid (decide (1 ≤ C ∧ C ≤ 5) = true) := h1
    have H2 : decide ((25 : Int) < (l.length : Int)) = false := by simp; omega
    clear h0 h1
    go_enter Try.func72, Try.ntmps72
    go_wp2_with (first | (go_at_call_of 30 (Value.int IntKind.i64 R); refine (l6In_of H0.out _).mono ?_; rintro e w1 ⟨rfl, rfl⟩) | (go_at_call_of 30 (Value.int IntKind.i64 C); refine (l6In_of H1.out _).mono ?_; rintro e w1 ⟨rfl, rfl⟩))
    rcases hl with rfl | ⟨b, off, rfl, hbw, hl⟩
    · refine wp_loop_rounds 1 ?_
      rw [rounds_succ]
      go_wp2_with fail
      go_ret
      exact ⟨rfl, (Below.refl _ _).alloc (Nat.le_refl _) _⟩
    have B0 : Below w.heap.size w (w.alloc (Obj.cells #[.int .i64 R, .int .i64 C, .slice (some ⟨b, off, none⟩) l.length cap] 37)) := (Below.refl _ _).alloc (Nat.le_refl _) _
    have k0 : (w.alloc (Obj.cells #[.int .i64 R, .int .i64 C, .slice (some ⟨b, off, none⟩) l.length cap] 37)).cell? ⟨w.heap.size, 0, none⟩ = some (.int .i64 R) := by simp
    have k1 : (w.alloc (Obj.cells #[.int .i64 R, .int .i64 C, .slice (some ⟨b, off, none⟩) l.length cap] 37)).cell? ⟨w.heap.size, 1, none⟩ = some (.int .i64 C) := by simp
    have k2 : (w.alloc (Obj.cells #[.int .i64 R, .int .i64 C, .slice (some ⟨b, off, none⟩) l.length cap] 37)).cell? ⟨w.heap.size, 2, none⟩ = some (.slice (some ⟨b, off, none⟩) l.length cap) := by simp
    have z0 : w.heap.size < (w.alloc (Obj.cells #[.int .i64 R, .int .i64 C, .slice (some ⟨b, off, none⟩) l.length cap] 37)).heap.size := by simp
    generalize (w.alloc (Obj.cells #[.int .i64 R, .int .i64 C, .slice (some ⟨b, off, none⟩) l.length cap] 37)) = v at B0 k0 k1 k2 z0 ⊢
    go_loopw [3] (fun i wr => ∃ k : Nat, k ≤ l.length ∧ i = .int .i64 k ∧ (List.range k).all (atB R C l) = true ∧ Below v.heap.size v wr) (fun i _ => l.length - (intOf i).toNat)
    case atStart => exact ⟨0, Nat.zero_le _, rfl, by simp, Below.refl _ _⟩
    case round =>
      obtain ⟨k, hk, rfl, hall, hbl⟩ := hrel
      have HA : Hid ((List.range k).all (atB R C l) = true) := hall
      clear hall
      have HB : Hid (Below w.heap.size w wr) := B0.trans (hbl.mono (Nat.le_of_lt z0))
      have HVr : Hid (Below v.heap.size v wr) := hbl
      have j0 := (hbl.cell (p := ⟨w.heap.size, 0, none⟩) z0).trans k0
      have j1 := (hbl.cell (p := ⟨w.heap.size, 1, none⟩) z0).trans k1
      have j2 := (hbl.cell (p := ⟨w.heap.size, 2, none⟩) z0).trans k2
      have hsz : w.heap.size < wr.heap.size := Nat.lt_of_lt_of_le z0 hbl.size
      clear k0 k1 k2 B0 hbl z0
      by_cases hlt : k < l.length
      · obtain ⟨c0, c1, c2, c3, ta, tn, tc, c4, ht⟩ := (hl k hlt).below HB.out hbw
        obtain ⟨⟨r, c, d, g, t⟩, hx⟩ : ∃ x, x = l.getD k cl0 := ⟨_, rfl⟩
        rw [← hx] at c0 c1 c2 c3 ht
        simp only at c0 c1 c2 c3 ht
        have HX : Hid ((r, c, d, g, t) = l.getD k cl0) := hx
        have HT : Hid (Txt wr ta tn tc t) := ht
        have HL : Hid (∀ k, k < l.length → CellAt w b (off + k * 5) (l.getD k cl0)) := hl
        clear hl hx ht
        cases q0 : decide (0 ≤ r ∧ r ≤ R - 1)
        · have HF : Hid ((List.range l.length).all (atB R C l) = false) := range_all_false hlt (by simp only [atB, ← HX.out, cellB, q0, Bool.false_and])
          have Q0 : Hid (decide (0 ≤ r ∧ r ≤ R - 1) = false) := q0
          clear q0
          go_wp2_with (first | (go_at_call_of 30 (Value.int IntKind.i64 r); refine (l6In_of Q0.out _).mono ?_; rintro e w1 ⟨rfl, rfl⟩))
          go_ret
          exact ⟨by rw [HF.out]; rfl, HB.out.alloc (Nat.le_of_lt hsz) _⟩
        have o0 := of_decide_eq_true q0
        have Q0 : Hid (decide (0 ≤ r ∧ r ≤ R - 1) = true) := q0
        cases q1 : decide (0 ≤ c ∧ c ≤ C - 1)
        · have HF : Hid ((List.range l.length).all (atB R C l) = false) := range_all_false hlt (by simp only [atB, ← HX.out, cellB, q0, q1, Bool.false_and, Bool.true_and])
          have Q1 : Hid (decide (0 ≤ c ∧ c ≤ C - 1) = false) := q1
          clear q0 q1
          go_wp2_with (first | (go_at_call_of 30 (Value.int IntKind.i64 r); refine (l6In_of Q0.out _).mono ?_; rintro e w1 ⟨rfl, rfl⟩) | (go_at_call_of 30 (Value.int IntKind.i64 c); refine (l6In_of Q1.out _).mono ?_; rintro e w1 ⟨rfl, rfl⟩))
          go_ret
          exact ⟨by rw [HF.out]; rfl, HB.out.alloc (Nat.le_of_lt hsz) _⟩
        have o1 := of_decide_eq_true q1
        have Q1 : Hid (decide (0 ≤ c ∧ c ≤ C - 1) = true) := q1
        cases q2 : decide (1 ≤ d ∧ d ≤ R - r)
        · have HF : Hid ((List.range l.length).all (atB R C l) = false) := range_all_false hlt (by simp only [atB, ← HX.out, cellB, q0, q1, q2, Bool.false_and, Bool.true_and])
          have Q2 : Hid (decide (1 ≤ d ∧ d ≤ R - r) = false) := q2
          clear q0 q1 q2
          go_wp2_with (first | (go_at_call_of 30 (Value.int IntKind.i64 r); refine (l6In_of Q0.out _).mono ?_; rintro e w1 ⟨rfl, rfl⟩) | (go_at_call_of 30 (Value.int IntKind.i64 c); refine (l6In_of Q1.out _).mono ?_; rintro e w1 ⟨rfl, rfl⟩) | (go_at_call_of 30 (Value.int IntKind.i64 d); refine (l6In_of Q2.out _).mono ?_; rintro e w1 ⟨rfl, rfl⟩))
          go_ret
          exact ⟨by rw [HF.out]; rfl, HB.out.alloc (Nat.le_of_lt hsz) _⟩
        have o2 := of_decide_eq_true q2
        have Q2 : Hid (decide (1 ≤ d ∧ d ≤ R - r) = true) := q2
        cases q3 : decide (1 ≤ g ∧ g ≤ C - c)
        · have HF : Hid ((List.range l.length).all (atB R C l) = false) := range_all_false hlt (by simp only [atB, ← HX.out, cellB, q0, q1, q2, q3, Bool.false_and, Bool.true_and])
          have Q3 : Hid (decide (1 ≤ g ∧ g ≤ C - c) = false) := q3
          clear q0 q1 q2 q3
          go_wp2_with (first | (go_at_call_of 30 (Value.int IntKind.i64 r); refine (l6In_of Q0.out _).mono ?_; rintro e w1 ⟨rfl, rfl⟩) | (go_at_call_of 30 (Value.int IntKind.i64 c); refine (l6In_of Q1.out _).mono ?_; rintro e w1 ⟨rfl, rfl⟩) | (go_at_call_of 30 (Value.int IntKind.i64 d); refine (l6In_of Q2.out _).mono ?_; rintro e w1 ⟨rfl, rfl⟩) | (go_at_call_of 30 (Value.int IntKind.i64 g); refine (l6In_of Q3.out _).mono ?_; rintro e w1 ⟨rfl, rfl⟩))
          go_ret
          exact ⟨by rw [HF.out]; rfl, HB.out.alloc (Nat.le_of_lt hsz) _⟩
        have o3 := of_decide_eq_true q3
        have Q3 : Hid (decide (1 ≤ g ∧ g ≤ C - c) = true) := q3
        cases q4 : textB t
        · have HF : Hid ((List.range l.length).all (atB R C l) = false) := range_all_false hlt (by simp only [atB, ← HX.out, cellB, q0, q1, q2, q3, q4, Bool.false_and, Bool.true_and])
          have Q4 : Hid (textB t = false) := q4
          clear q0 q1 q2 q3 q4
          go_wp2_with (first | (go_at_call_of 30 (Value.int IntKind.i64 r); refine (l6In_of Q0.out _).mono ?_; rintro e w1 ⟨rfl, rfl⟩) | (go_at_call_of 30 (Value.int IntKind.i64 c); refine (l6In_of Q1.out _).mono ?_; rintro e w1 ⟨rfl, rfl⟩) | (go_at_call_of 30 (Value.int IntKind.i64 d); refine (l6In_of Q2.out _).mono ?_; rintro e w1 ⟨rfl, rfl⟩) | (go_at_call_of 30 (Value.int IntKind.i64 g); refine (l6In_of Q3.out _).mono ?_; rintro e w1 ⟨rfl, rfl⟩) | (go_at_call 59; refine (specTextOk_is (HT.out.below ((Below.refl _ _).alloc (Nat.le_refl _) _)) Q4.out).mono ?_; rintro e w2 ⟨rfl, hb2⟩))
          go_ret
          exact ⟨by rw [HF.out]; rfl, (HB.out.alloc (Nat.le_of_lt hsz) _).trans (hb2.mono (by simp; omega))⟩
        have Q4 : Hid (textB t = true) := q4
        have HC : Hid (cellB R C (l.getD k cl0) = true) := by
          show cellB R C (l.getD k cl0) = true
          simp only [← HX.out, cellB, q0, q1, q2, q3, q4, Bool.true_and]
        clear q0 q1 q2 q3 q4
        go_wp2_with (first | (go_at_call_of 30 (Value.int IntKind.i64 r); refine (l6In_of Q0.out _).mono ?_; rintro e w1 ⟨rfl, rfl⟩) | (go_at_call_of 30 (Value.int IntKind.i64 c); refine (l6In_of Q1.out _).mono ?_; rintro e w1 ⟨rfl, rfl⟩) | (go_at_call_of 30 (Value.int IntKind.i64 d); refine (l6In_of Q2.out _).mono ?_; rintro e w1 ⟨rfl, rfl⟩) | (go_at_call_of 30 (Value.int IntKind.i64 g); refine (l6In_of Q3.out _).mono ?_; rintro e w1 ⟨rfl, rfl⟩) | (go_at_call 59; refine (specTextOk_is (HT.out.below ((Below.refl _ _).alloc (Nat.le_refl _) _)) Q4.out).mono ?_; rintro e w2 ⟨rfl, hb2⟩))
        have bA : Below wr.heap.size wr (wr.alloc (Obj.cells #[.int .i64 r, .int .i64 c, .int .i64 d, .int .i64 g, .slice ta tn tc] 41)) := (Below.refl _ _).alloc (Nat.le_refl _) _
        have b2 : Below wr.heap.size wr w2 := bA.trans (hb2.mono (by simp))
        have d0 : w2.cell? ⟨wr.heap.size, 0, none⟩ = some (.int .i64 r) := (hb2.cell (p := ⟨wr.heap.size, 0, none⟩) (by simp)).trans (by simp)
        have d1 : w2.cell? ⟨wr.heap.size, 1, none⟩ = some (.int .i64 c) := (hb2.cell (p := ⟨wr.heap.size, 1, none⟩) (by simp)).trans (by simp)
        have t2 := (b2.cell (p := ⟨w.heap.size, 2, none⟩) hsz).trans j2
        have HB2 : Hid (Below w.heap.size w w2) := HB.out.trans (b2.mono (Nat.le_of_lt hsz))
        have HV : Hid (Below v.heap.size v w2) := HVr.out.trans (b2.mono HVr.out.size)
        clear bA b2 hb2 c0 c1 c2 c3 c4 j0 j1 j2 o0 o1 o2 o3
        by_cases hk0 : k = 0
        · subst hk0
          go_quiet (fail)
          go_wp2_with fail
          go_roundw
          case rel => exact ⟨1, by omega, by go_num, by rw [range_all_succ, HA.out]; simp only [atB, HC.out]; rfl, below_drewN HV.out _⟩
          case measure => simp [intOf]; omega
        have hz : 0 < k := by omega
        obtain ⟨j, hj, hjl, hk1, HJ⟩ : ∃ j : Nat, Hid (k - 1 = j) ∧ j < l.length ∧ ((k : Int) - 1) = (j : Int) ∧ Hid (k = j + 1) := ⟨k - 1, rfl, by omega, by omega, show k = k - 1 + 1 from by omega⟩
        obtain ⟨e0, e1, -⟩ := (HL.out j hjl).below HB2.out hbw
        obtain ⟨⟨r', c', y⟩, hy⟩ : ∃ x, x = l.getD j cl0 := ⟨_, rfl⟩
        rw [← hy] at e0 e1
        simp only at e0 e1
        have HY : Hid ((r', c', y) = l.getD j cl0) := hy
        clear hy hk0
        have HAt : Hid (atB R C l k = ahead (r', c', y) (r, c, d, g, t)) := by
          show atB R C l k = _
          have n0 : decide (k = 0) = false := decide_eq_false (by omega)
          unfold atB
          rw [HC.out, hj.out, ← HX.out, ← HY.out, n0]
          rfl
        rcases (show (r < r') ∨ (r' < r) ∨ (r' = r ∧ c ≤ c') ∨ (r' = r ∧ c' < c) from by omega) with m0 | m0 | ⟨m0, m1⟩ | ⟨m0, m1⟩
        · have HF : Hid ((List.range l.length).all (atB R C l) = false) := range_all_false hlt (by rw [HAt.out]; exact decide_eq_false (by simp only; omega))
          go_quiet (fail)
          go_wp2_with fail
          go_ret
          exact ⟨by rw [HF.out]; rfl, below_drewN HB2.out _⟩
        · have n1 : ¬ r < r' := by omega
          have n2 : (r' == r) = false := by simp; omega
          have HG : Hid (atB R C l k = true) := HAt.out.trans (decide_eq_true (by simp only; omega))
          go_quiet (fail)
          go_wp2_with fail
          go_roundw
          case rel => exact ⟨k + 1, by omega, by go_num, by rw [range_all_succ, HA.out, HG.out]; rfl, below_drewN HV.out _⟩
          case measure => simp [intOf]; omega
        · have HF : Hid ((List.range l.length).all (atB R C l) = false) := range_all_false hlt (by rw [HAt.out]; exact decide_eq_false (by simp only; omega))
          subst m0
          go_quiet (fail)
          go_wp2_with fail
          go_ret
          exact ⟨by rw [HF.out]; rfl, below_drewN HB2.out _⟩
        · have HG : Hid (atB R C l k = true) := HAt.out.trans (decide_eq_true (by simp only; omega))
          subst m0
          have n3 : ¬ c ≤ c' := by omega
          go_quiet (fail)
          go_wp2_with fail
          go_roundw
          case rel => exact ⟨k + 1, by omega, by go_num, by rw [range_all_succ, HA.out, HG.out]; rfl, below_drewN HV.out _⟩
          case measure => simp [intOf]; omega
      · go_wp2_with fail
        go_ret
        exact ⟨by have hh := HA.out; rw [show k = l.length from by omega] at hh; rw [hh]; rfl, HB.out⟩
  · rw [formB_2 h2]
    have H0 : Hid (decide (1 ≤ R ∧ R ≤ 5) = true) := h0
    have H1 : Hid (decide (1 ≤ C ∧ C ≤ 5) = true) := h1
    have H2 : (25 : Int) < (l.length : Int) := by omega
    clear h0 h1
    go_enter Try.func72, Try.ntmps72
    go_wp2_with (first | (go_at_call_of 30 (Value.int IntKind.i64 R); refine (l6In_of H0.out _).mono ?_; rintro e w1 ⟨rfl, rfl⟩) | (go_at_call_of 30 (Value.int IntKind.i64 C); refine (l6In_of H1.out _).mono ?_; rintro e w1 ⟨rfl, rfl⟩))
    go_ret
    exact ⟨rfl, (Below.refl _ _).alloc (Nat.le_refl _) _⟩
end Go.Proofs.Ytcecmkideoodiaa
namespace Go.Proofs.Ytcecmkideoodiaa
open Go.RowKit

theorem formB_of {R C : Int} {l : List Cl} (h : formB R C l = true) : (1 ≤ R ∧ R ≤ 5) ∧ (1 ≤ C ∧ C ≤ 5) ∧ l.length ≤ 25 ∧ ∀ k, k < l.length → atB R C l k = true := by
  simp only [formB, Bool.and_eq_true, decide_eq_true_eq, List.all_eq_true, List.mem_range] at h
  obtain ⟨⟨⟨h0, h1⟩, h2⟩, h3⟩ := h
  exact ⟨h0, h1, h2, h3⟩
theorem cellB_of {R C : Int} {x : Cl} (h : cellB R C x = true) : (0 ≤ x.1 ∧ x.1 ≤ R - 1) ∧ (0 ≤ x.2.1 ∧ x.2.1 ≤ C - 1) ∧ (1 ≤ x.2.2.1 ∧ x.2.2.1 ≤ R - x.1) ∧ (1 ≤ x.2.2.2.1 ∧ x.2.2.2.1 ≤ C - x.2.1) ∧ textB x.2.2.2.2 = true := by
  simp only [cellB, Bool.and_eq_true, decide_eq_true_eq] at h
  obtain ⟨⟨⟨⟨h0, h1⟩, h2⟩, h3⟩, h4⟩ := h
  exact ⟨h0, h1, h2, h3, h4⟩
theorem atB_cell {R C : Int} {l : List Cl} {k : Nat} (h : atB R C l k = true) : cellB R C (l.getD k cl0) = true := by
  simp only [atB, Bool.and_eq_true] at h
  exact h.1

/-- How many of the cells a square is of. -/
def cnt (l : List Cl) (r c : Int) : Nat := l.countP fun x => inB x r c
def colB (C : Int) (l : List Cl) (r : Nat) : Bool := (List.range C.toNat).all fun c => decide (cnt l r c = 1)
def okB (R C : Int) (l : List Cl) : Bool := formB R C l && (List.range R.toNat).all (colB C l)
theorem cnt_take_succ (l : List Cl) (r c : Int) (k : Nat) (hk : k < l.length) : cnt (l.take (k + 1)) r c = cnt (l.take k) r c + (inB (l.getD k cl0) r c).toNat := by
  have e : l.getD k cl0 = l[k] := by simp [List.getD, hk]
  unfold cnt
  rw [e, List.take_succ_eq_append_getElem hk, List.countP_append]
  cases h : inB l[k] r c <;> simp [h]
theorem cnt_le (l : List Cl) (r c : Int) : cnt l r c ≤ l.length := List.countP_le_length

theorem l2In_is {r c d h : Int} {t : List Sg} {a b : Int} {z : Bool} (hz : inB (r, c, d, h, t) a b = z) (ta : Option Addr) (tn tc : Nat) (w : World) (hr : sml r) (hc : sml c) (hd : sml d) (hh : sml h) :
    Calls Try.prog 73 #[.agg #[.int .i64 r, .int .i64 c, .int .i64 d, .int .i64 h, .slice ta tn tc], .int .i64 a, .int .i64 b] w fun e w' => e = .returned (.bool z) ∧ Below w.heap.size w w' := by
  subst hz
  exact l2In_any r c d h ta tn tc a b w hr hc hd hh
theorem l2Form_is {R C : Int} {a : Option Addr} {n cap : Nat} {l : List Cl} {w : World} {x : Bool} (hx : formB R C l = x) (h : Tab w a n cap l) :
    Calls Try.prog 72 #[.agg #[.int .i64 R, .int .i64 C, .slice a n cap]] w fun e w' => e = .returned (.bool x) ∧ Below w.heap.size w w' := hx ▸ l2Form_any R C a n cap l w h

set_option maxRecDepth 100000 in
set_option maxHeartbeats 4000000 in
theorem specTableOk_any (R C : Int) (a : Option Addr) (n cap : Nat) (l : List Cl) (w : World) (h : Tab w a n cap l) :
    Calls Try.prog 61 #[.agg #[.int .i64 R, .int .i64 C, .slice a n cap]] w fun e w' => e = .returned (.bool (okB R C l)) ∧ Below w.heap.size w w' := by
  have H : Hid (Tab w a n cap l) := h
  obtain ⟨rfl, hc, hm, hl⟩ := h
  unfold maxLen at hm
  cases hf : formB R C l
  · rw [show okB R C l = false from by simp only [okB, hf, Bool.false_and]]
    have HF : Hid (formB R C l = false) := hf
    clear hf hl
    go_enter Try.func61, Try.ntmps61
    go_wp2_with (go_at_call 72; refine (l2Form_is HF.out (H.out.below ((Below.refl _ _).alloc (Nat.le_refl _) _))).mono ?_; rintro e w1 ⟨rfl, hb1⟩)
    go_ret
    exact ⟨rfl, ((Below.refl _ _).alloc (Nat.le_refl _) _).trans (hb1.mono (by simp))⟩
  rw [show okB R C l = (List.range R.toNat).all (colB C l) from by simp only [okB, hf, Bool.true_and]]
  obtain ⟨hR, hC, hlen, hat⟩ := formB_of hf
  have HF : Hid (formB R C l = true) := hf
  have HT : Hid (∀ k, k < l.length → atB R C l k = true) := hat
  have HL : Hid (l = [] ∨ ∃ b off, a = some ⟨b, off, none⟩ ∧ b < w.heap.size ∧ ∀ k, k < l.length → CellAt w b (off + k * 5) (l.getD k cl0)) := hl
  clear hf hl hat
  go_enter Try.func61, Try.ntmps61
  go_wp2_with (go_at_call 72; refine (l2Form_is HF.out (H.out.below ((Below.refl _ _).alloc (Nat.le_refl _) _))).mono ?_; rintro e w1 ⟨rfl, hb1⟩)
  have k0 : w1.cell? ⟨w.heap.size, 0, none⟩ = some (.int .i64 R) := (hb1.cell (p := ⟨w.heap.size, 0, none⟩) (by simp)).trans (by simp)
  have k1 : w1.cell? ⟨w.heap.size, 1, none⟩ = some (.int .i64 C) := (hb1.cell (p := ⟨w.heap.size, 1, none⟩) (by simp)).trans (by simp)
  have k2 : w1.cell? ⟨w.heap.size, 2, none⟩ = some (.slice a l.length cap) := (hb1.cell (p := ⟨w.heap.size, 2, none⟩) (by simp)).trans (by simp)
  have z0 : w.heap.size < w1.heap.size := by have := hb1.size; simp at this; omega
  have B0 : Hid (Below w.heap.size w w1) := ((Below.refl _ _).alloc (Nat.le_refl _) _).trans (hb1.mono (by simp))
  clear hb1
  go_loopw [3] (fun i wr => ∃ k : Nat, (k : Int) ≤ R ∧ i = .int .i64 k ∧ (List.range k).all (colB C l) = true ∧ Below w1.heap.size w1 wr) (fun i _ => R.toNat - (intOf i).toNat)
  case atStart => exact ⟨0, by omega, rfl, by simp, Below.refl _ _⟩
  case round =>
    obtain ⟨p, hp, rfl, hall, hbl⟩ := hrel
    have HA : Hid ((List.range p).all (colB C l) = true) := hall
    have HB : Hid (Below w1.heap.size w1 wr) := hbl
    have j0 := (hbl.cell (p := ⟨w.heap.size, 0, none⟩) z0).trans k0
    have j1 := (hbl.cell (p := ⟨w.heap.size, 1, none⟩) z0).trans k1
    have j2 := (hbl.cell (p := ⟨w.heap.size, 2, none⟩) z0).trans k2
    have zr : w.heap.size < wr.heap.size := Nat.lt_of_lt_of_le z0 hbl.size
    have sr := hbl.size
    clear hall hbl
    by_cases hlt : (p : Int) < R
    · clear k0 k1 k2
      go_wp2_with fail
      go_loopw [4] (fun i wq => ∃ k : Nat, (k : Int) ≤ C ∧ i = .int .i64 k ∧ ((List.range k).all fun c => decide (cnt l p c = 1)) = true ∧ Below wr.heap.size wr wq) (fun i _ => C.toNat - (intOf i).toNat)
      case atStart => exact ⟨0, by omega, rfl, by simp, Below.refl _ _⟩
      case round =>
        obtain ⟨q, hq, rfl, hall, hbl⟩ := hrel
        have HA2 : Hid (((List.range q).all fun c => decide (cnt l p c = 1)) = true) := hall
        have HB2 : Hid _ := hbl
        have i0 := (hbl.cell (p := ⟨w.heap.size, 0, none⟩) zr).trans j0
        have i1 := (hbl.cell (p := ⟨w.heap.size, 1, none⟩) zr).trans j1
        have i2 := (hbl.cell (p := ⟨w.heap.size, 2, none⟩) zr).trans j2
        have zq := Nat.lt_of_lt_of_le zr hbl.size
        have sq := hbl.size
        clear hall hbl
        by_cases hlq : (q : Int) < C
        · clear j0 j1 j2
          go_wp2_with fail
          go_loopw [5, 6] (fun nv i wi => ∃ k : Nat, k ≤ l.length ∧ i = .int .i64 k ∧ nv = .int .i64 (cnt (l.take k) p q : Nat) ∧ Below wr.heap.size wr wi) (fun _ i _ => l.length - (intOf i).toNat)
          case atStart => exact ⟨0, by omega, rfl, rfl, Below.refl _ _⟩
          case round =>
            obtain ⟨k, hk, rfl, rfl, hbl⟩ := hrel
            have HB3 : Hid _ := hbl
            have g0 := (hbl.cell (p := ⟨w.heap.size, 0, none⟩) zq).trans i0
            have g1 := (hbl.cell (p := ⟨w.heap.size, 1, none⟩) zq).trans i1
            have g2 := (hbl.cell (p := ⟨w.heap.size, 2, none⟩) zq).trans i2
            have zi := Nat.lt_of_lt_of_le zq hbl.size
            have si := hbl.size
            clear hbl i0 i1 i2
            have HW : Hid (Below w.heap.size w wr) := B0.out.trans ((HB.out.trans ((HB2.out.trans (HB3.out.mono sq)).mono sr)).mono (Nat.le_of_lt z0))
            by_cases hlk : k < l.length
            · rcases HL.out with e | ⟨b, off, rfl, hbw, hl⟩
              · rw [e] at hlk
                exact absurd hlk (by simp)
              obtain ⟨c0, c1, c2, c3, ta, tn, tc, c4, -⟩ := (hl k hlk).below HW.out hbw
              obtain ⟨⟨s0, s1⟩, ⟨s2, s3⟩, ⟨s4, s5⟩, ⟨s6, s7⟩, -⟩ := cellB_of (atB_cell (HT.out k hlk))
              have hn := cnt_take_succ l p q k hlk
              have hle := cnt_le (l.take k) p q
              obtain ⟨⟨r, c, d, g, t⟩, hx⟩ : ∃ x, x = l.getD k cl0 := ⟨_, rfl⟩
              rw [← hx] at c0 c1 c2 c3 s0 s1 s2 s3 s4 s5 s6 s7 hn
              simp only at c0 c1 c2 c3 s0 s1 s2 s3 s4 s5 s6 s7
              rw [List.length_take] at hle
              generalize cnt (l.take k) p q = m at hn hle ⊢
              have hm25 : m ≤ 25 := by omega
              clear hle hx hl
              have y0 : sml r := ⟨by omega, by omega⟩
              have y1 : sml c := ⟨by omega, by omega⟩
              have y2 : sml d := ⟨by omega, by omega⟩
              have y3 : sml g := ⟨by omega, by omega⟩
              clear s0 s1 s2 s3 s4 s5 s6 s7
              cases hz : inB (r, c, d, g, t) p q
              · rw [hz] at hn
                have HN : Hid (cnt (l.take (k + 1)) p q = m) := hn
                have HZ : Hid (inB (r, c, d, g, t) p q = false) := hz
                clear hn hz
                go_wp2_with (go_at_call 73; refine (l2In_is (t := t) HZ.out ta tn tc _ y0 y1 y2 y3).mono ?_; rintro e w3 ⟨rfl, hb3⟩)
                go_roundw
                case rel => exact ⟨k + 1, by omega, by go_num, by rw [HN.out], HB3.out.trans (hb3.mono si)⟩
                case measure => simp [intOf]; omega
              · rw [hz] at hn
                have HN : Hid (cnt (l.take (k + 1)) p q = m + 1) := hn
                have HZ : Hid (inB (r, c, d, g, t) p q = true) := hz
                clear hn hz
                go_wp2_with (go_at_call 73; refine (l2In_is (t := t) HZ.out ta tn tc _ y0 y1 y2 y3).mono ?_; rintro e w3 ⟨rfl, hb3⟩)
                go_roundw
                case rel => exact ⟨k + 1, by omega, by go_num, by rw [HN.out]; go_num, HB3.out.trans (hb3.mono si)⟩
                case measure => simp [intOf]; omega
            · have e : l.take k = l := List.take_of_length_le (by omega)
              rw [e]
              have hle := cnt_le l p q
              by_cases h1 : cnt l p q = 1
              · have HC1 : Hid (cnt l p q = 1) := h1
                rw [h1]
                clear e hle h1
                go_wp2_with fail
                go_roundw
                case rel => exact ⟨q + 1, by omega, by go_num, by rw [range_all_succ, HA2.out, HC1.out]; rfl, HB2.out.trans (HB3.out.mono sq)⟩
                case measure => simp [intOf]; omega
              · have HF : Hid ((List.range R.toNat).all (colB C l) = false) := range_all_false (k := p) (by omega) (range_all_false (k := q) (by omega) (decide_eq_false h1))
                generalize cnt l p q = m at h1 hle ⊢
                have hb : ((m : Int) != 1) = true := by simp; omega
                clear e
                go_wp2_with fail
                go_ret
                exact ⟨by rw [HF.out]; rfl, HW.out⟩
        · clear j1 j2
          go_wp2_with fail
          go_roundw
          case rel => exact ⟨p + 1, by omega, by go_num, by rw [range_all_succ, HA.out]; have hh := HA2.out; rw [show q = C.toNat from by omega] at hh; simp only [colB, hh]; rfl, HB.out.trans (HB2.out.mono sr)⟩
          case measure => simp [intOf]; omega
    · go_wp2_with fail
      go_ret
      exact ⟨by have hh := HA.out; rw [show p = R.toNat from by omega] at hh; rw [hh]; rfl, B0.out.trans (HB.out.mono (Nat.le_of_lt z0))⟩
end Go.Proofs.Ytcecmkideoodiaa
namespace Go.Proofs.Ytcecmkideoodiaa
open Go.RowKit

/-- A table's cell as it lies: four numbers and a slice. -/
abbrev Rw := Int × Int × Int × Int × Option Addr × Nat × Nat
def rw0 : Rw := (0, 0, 0, 0, none, 0, 0)
def rwCells (x : Rw) : List Value := [.int .i64 x.1, .int .i64 x.2.1, .int .i64 x.2.2.1, .int .i64 x.2.2.2.1, .slice x.2.2.2.2.1 x.2.2.2.2.2.1 x.2.2.2.2.2.2]
def flat5 (l : List Rw) : List Value := l.flatMap rwCells

theorem flat5_length (l : List Rw) : (flat5 l).length = l.length * 5 := by
  induction l with
  | nil => rfl
  | cons s l ih =>
    show (rwCells s ++ flat5 l).length = _
    rw [List.length_append, ih]
    simp [rwCells]; omega

theorem flat5_append (a b : List Rw) : flat5 (a ++ b) = flat5 a ++ flat5 b := by simp [flat5]

theorem flat5_get (l : List Rw) : ∀ (k j : Nat), k < l.length → j < 5 → (flat5 l)[k * 5 + j]? = (rwCells (l.getD k rw0))[j]? := by
  induction l with
  | nil => intro k j h; simp at h
  | cons s l ih =>
    intro k j hk hj
    have h5 : (rwCells s).length = 5 := rfl
    show (rwCells s ++ flat5 l)[k * 5 + j]? = _
    cases k with
    | zero => rw [List.getElem?_append_left (by omega)]; simp
    | succ k =>
      rw [List.getElem?_append_right (by omega), h5, show (k + 1) * 5 + j - 5 = k * 5 + j by omega, ih k j (by simpa using hk) hj]
      simp

theorem flat5_take_succ (l : List Rw) (k : Nat) (hk : k < l.length) : flat5 (l.take (k + 1)) = flat5 (l.take k) ++ rwCells (l.getD k rw0) := by
  rw [List.take_succ_eq_append_getElem hk, flat5_append]
  simp [flat5, List.getD, hk]

/-- The cells at block b from o on. -/
def RwAt (w : World) (b o : Nat) (x : Rw) : Prop :=
  w.cell? ⟨b, o, none⟩ = some (.int .i64 x.1) ∧ w.cell? ⟨b, o + 1, none⟩ = some (.int .i64 x.2.1) ∧ w.cell? ⟨b, o + 2, none⟩ = some (.int .i64 x.2.2.1) ∧ w.cell? ⟨b, o + 3, none⟩ = some (.int .i64 x.2.2.2.1) ∧
    w.cell? ⟨b, o + 4, none⟩ = some (.slice x.2.2.2.2.1 x.2.2.2.2.2.1 x.2.2.2.2.2.2)

/-- A slice value that reads as rows. -/
def Rws (w : World) (a : Option Addr) (n cap : Nat) (l : List Rw) : Prop :=
  n = l.length ∧ n ≤ cap ∧ cap ≤ maxLen ∧ (l = [] ∨ ∃ b off, a = some ⟨b, off, none⟩ ∧ b < w.heap.size ∧ ∀ k, k < l.length → RwAt w b (off + k * 5) (l.getD k rw0))

theorem rws_of_own {w : World} {B g n cap e : Nat} {l : List Rw} (h : w.ownsRow B e 5 (.slice (some ⟨g, 0, none⟩) n cap) n (flat5 l)) : Rws w (some ⟨g, 0, none⟩) n cap l := by
  have hlen := h.1
  rw [flat5_length] at hlen
  have hn : n = l.length := by omega
  rcases h.2 with ⟨h', _⟩ | ⟨g', cap', cur, h', _, hg, hnc, hcm, _, _⟩
  · simp at h'
  · simp only [Value.slice.injEq, Option.some.injEq, Addr.mk.injEq, and_true, true_and] at h'
    obtain ⟨rfl, rfl⟩ := h'
    refine ⟨hn, hnc, hcm, .inr ⟨g, 0, rfl, (Array.getElem?_eq_some_iff.1 hg).1, ?_⟩⟩
    intro k hk
    rw [Nat.zero_add]
    exact ⟨(h.cellAt (k * 5) (by omega)).trans (flat5_get l k 0 hk (by omega)), (h.cellAt (k * 5 + 1) (by omega)).trans (flat5_get l k 1 hk (by omega)), (h.cellAt (k * 5 + 2) (by omega)).trans (flat5_get l k 2 hk (by omega)), (h.cellAt (k * 5 + 3) (by omega)).trans (flat5_get l k 3 hk (by omega)), (h.cellAt (k * 5 + 4) (by omega)).trans (flat5_get l k 4 hk (by omega))⟩

/-- A value that owns rows. -/
def OwnR (w : World) (B : Nat) (v : Value) (l : List Rw) : Prop := w.ownsRow B 41 5 v l.length (flat5 l)

theorem OwnR.shape {w : World} {B : Nat} {v : Value} {l : List Rw} (h : OwnR w B v l) : ∃ a cap, v = .slice a l.length cap ∧ Rws w a l.length cap l := by
  have h' := h
  unfold OwnR at h'
  rcases h'.2 with ⟨rfl, h0⟩ | ⟨g, cap, cur, rfl, r⟩
  · have : l = [] := List.eq_nil_of_length_eq_zero h0
    subst this
    exact ⟨none, 0, rfl, rfl, Nat.le_refl _, Nat.zero_le _, .inl rfl⟩
  · exact ⟨_, _, rfl, rws_of_own h'⟩
theorem OwnR.below {w w' : World} {B : Nat} {v : Value} {l : List Rw} (h : OwnR w B v l) (hb : Below w.heap.size w w') : OwnR w' B v l := own_below h hb
theorem OwnR.nil (w : World) (B : Nat) : OwnR w B (.slice none 0 0) [] := World.ownsRow_nil _ _ _ _
theorem OwnR.alloc {w : World} {B : Nat} {v : Value} {l : List Rw} (h : OwnR w B v l) (o : Obj) : OwnR (w.alloc o) B v l := World.ownsRow.alloc h o
theorem OwnR.rws {w : World} {B : Nat} {a : Option Addr} {n cap : Nat} {l : List Rw} (h : OwnR w B (.slice a n cap) l) : Rws w a n cap l := by
  obtain ⟨a', cap', he, ht⟩ := h.shape
  simp only [Value.slice.injEq] at he
  obtain ⟨rfl, rfl, rfl⟩ := he
  exact ht
theorem OwnR.len {w : World} {B : Nat} {a : Option Addr} {n cap : Nat} {l : List Rw} (h : OwnR w B (.slice a n cap) l) : n = l.length := h.rws.1
theorem OwnR.row {w : World} {B : Nat} {a : Option Addr} {n cap : Nat} {l : List Rw} (h : OwnR w B (.slice a n cap) l) : w.ownsRow B 41 5 (.slice a n cap) n (flat5 l) := by
  have := h.len
  subst this
  exact h
theorem OwnR.snoc {w : World} {B : Nat} {v : Value} {l : List Rw} {s : Rw} {n : Nat} {xs : List Value} (h : w.ownsRow B 41 5 v n xs) (hn : n = l.length + 1) (hx : xs = flat5 l ++ rwCells s) : OwnR w B v (l ++ [s]) := by
  subst hn hx
  unfold OwnR
  rw [flat5_append, List.length_append]
  have : flat5 [s] = rwCells s := by simp [flat5]
  rw [this]
  exact h

/-- A row more behind owned rows: what the append leaves. -/
theorem ownR_step {B : Nat} {w wr w1 : World} {a : Option Addr} {k c : Nat} {v' : Value} {l : List Rw} {s : Rw} {o : Obj} (ho : OwnR wr B (.slice a k c) l) (hbl : Below B w wr) (hB : B ≤ wr.heap.size)
    (hown : w1.ownsRow B 41 5 v' (k + 1) (flat5 l ++ rwCells s)) (hgrow : (wr.alloc o).grownBy w1 (Value.slice a k c).ownBlock) :
    ∃ a' c', v' = .slice a' (k + 1) c' ∧ OwnR w1 B (.slice a' (k + 1) c') (l ++ [s]) ∧ Below B w w1 := by
  have hk := ho.len
  have h1 : OwnR w1 B v' (l ++ [s]) := OwnR.snoc hown (by omega) rfl
  obtain ⟨a', c', rfl, -⟩ := h1.shape
  have e : (l ++ [s]).length = k + 1 := by simp; omega
  rw [e] at h1
  refine ⟨a', c', by rw [e], h1, ?_⟩
  exact (hbl.alloc hB _).grown hgrow (by simp; omega) (fun q hq => (ho.row.lt q hq).1)

/-- What a row reads as. -/
def RwIs (w : World) (x : Rw) (y : Cl) : Prop := x.1 = y.1 ∧ x.2.1 = y.2.1 ∧ x.2.2.1 = y.2.2.1 ∧ x.2.2.2.1 = y.2.2.2.1 ∧ Txt w x.2.2.2.2.1 x.2.2.2.2.2.1 x.2.2.2.2.2.2 y.2.2.2.2
def Reads (w : World) (l : List Rw) (m : List Cl) : Prop := l.length = m.length ∧ ∀ k, k < l.length → RwIs w (l.getD k rw0) (m.getD k cl0)

theorem tab_of_rws {w : World} {a : Option Addr} {n cap : Nat} {l : List Rw} {m : List Cl} (h : Rws w a n cap l) (hr : Reads w l m) : Tab w a n cap m := by
  obtain ⟨h1, h2, h3, h4⟩ := h
  obtain ⟨e, hr⟩ := hr
  refine ⟨h1.trans e, h2, h3, ?_⟩
  rcases h4 with rfl | ⟨b, off, h5, h6, h7⟩
  · exact .inl (List.eq_nil_of_length_eq_zero e.symm)
  · refine .inr ⟨b, off, h5, h6, fun k hk => ?_⟩
    obtain ⟨q0, q1, q2, q3, q4⟩ := hr k (by omega)
    obtain ⟨c0, c1, c2, c3, c4⟩ := h7 k (by omega)
    rw [q0] at c0
    rw [q1] at c1
    rw [q2] at c2
    rw [q3] at c3
    exact ⟨c0, c1, c2, c3, _, _, _, c4, q4⟩

theorem Reads.below {w w' : World} {l : List Rw} {m : List Cl} (h : Reads w l m) (hb : Below w.heap.size w w') : Reads w' l m :=
  ⟨h.1, fun k hk => by obtain ⟨q0, q1, q2, q3, q4⟩ := h.2 k hk; exact ⟨q0, q1, q2, q3, q4.below hb⟩⟩
theorem Reads.nil (w : World) : Reads w [] [] := ⟨rfl, fun k hk => by simp at hk⟩
theorem Reads.snoc {w : World} {l : List Rw} {m : List Cl} {x : Rw} {y : Cl} (h : Reads w l m) (hx : RwIs w x y) : Reads w (l ++ [x]) (m ++ [y]) := by
  obtain ⟨e, h⟩ := h
  refine ⟨by simp [e], fun k hk => ?_⟩
  by_cases hlt : k < l.length
  · have := h k hlt
    simp only [List.getD_eq_getElem?_getD] at this ⊢
    rw [List.getElem?_append_left hlt, List.getElem?_append_left (by omega)]
    exact this
  · have : k = l.length := by simp at hk; omega
    subst this
    simp only [List.getD_eq_getElem?_getD]
    rw [List.getElem?_append_right (Nat.le_refl _), List.getElem?_append_right (by omega), e, Nat.sub_self]
    exact hx
end Go.Proofs.Ytcecmkideoodiaa
namespace Go.Proofs.Ytcecmkideoodiaa
open Go.RowKit

theorem Try.info41 : (Try.prog.info? 41).map (fun i => (i.zero, i.size, i.bytes)) = some (some (.agg #[.int .i64 0, .int .i64 0, .int .i64 0, .int .i64 0, .slice none 0 0]), 5, 56) := by kernel_rfl
theorem tab_info : (Try.prog.info? 37).map (·.size) = some 3 := by kernel_rfl
theorem own_less {w : World} {B B' e size n : Nat} {v : Value} {xs : List Value} (h : w.ownsRow B' e size v n xs) (hB : B ≤ B') : w.ownsRow B e size v n xs := by
  refine ⟨h.1, ?_⟩
  rcases h.2 with hn | ⟨g, cap, cur, rfl, hg, rest⟩
  · exact .inl hn
  · exact .inr ⟨g, cap, cur, rfl, Nat.le_trans hB hg, rest⟩
theorem own_set {w : World} {B e size n : Nat} {v : Value} {xs : List Value} (h : w.ownsRow B e size v n xs) (p : Addr) (u : Value) (hp : v.ownBlock ≠ some p.block) : (w.setCell p u).ownsRow B e size v n xs := by
  refine ⟨h.1, ?_⟩
  rcases h.2 with hn | ⟨g, cap, cur, rfl, hg, hgg, rest⟩
  · exact .inl hn
  · refine .inr ⟨g, cap, cur, rfl, hg, ?_, rest⟩
    rw [Go.Deep.blk_setCell_other _ _ _ _ (fun e => hp (by simp [Value.ownBlock, e]))]
    exact hgg
theorem own_row {w : World} {B e size n : Nat} {v : Value} {xs : List Value} (h : w.ownsRow B e size v n xs) (g : Nat) (cs : Array Value) (hp : v.ownBlock ≠ some g) : (w.setRow g cs).ownsRow B e size v n xs := by
  refine ⟨h.1, ?_⟩
  rcases h.2 with hn | ⟨g', cap, cur, rfl, hg, hgg, rest⟩
  · exact .inl hn
  · refine .inr ⟨g', cap, cur, rfl, hg, ?_, rest⟩
    rw [setRow_other _ _ _ _ (fun e => hp (by simp [Value.ownBlock, e]))]
    exact hgg
theorem own_grown {w w' : World} {B e size n : Nat} {v : Value} {xs : List Value} {q : Option Nat} (h : w.ownsRow B e size v n xs) (hg : w.grownBy w' q) (hp : ∀ g, v.ownBlock = some g → q ≠ some g) : w'.ownsRow B e size v n xs := by
  refine ⟨h.1, ?_⟩
  rcases h.2 with hn | ⟨g, cap, cur, rfl, hg', hgg, rest⟩
  · exact .inl hn
  · refine .inr ⟨g, cap, cur, rfl, hg', ?_, rest⟩
    rw [hg.block g (Array.getElem?_eq_some_iff.1 hgg).1 (hp g (by simp [Value.ownBlock])).symm]
    exact hgg
theorem own_lt {w : World} {B e size n : Nat} {v : Value} {xs : List Value} (h : w.ownsRow B e size v n xs) {g : Nat} (hg : v.ownBlock = some g) : B ≤ g ∧ g < w.heap.size := by
  rcases h.2 with ⟨rfl, _⟩ | ⟨g', cap, cur, rfl, hg', hgg, rest⟩
  · simp [Value.ownBlock] at hg
  · simp only [Value.ownBlock, Option.some.injEq] at hg
    subst hg
    exact ⟨hg', (Array.getElem?_eq_some_iff.1 hgg).1⟩

theorem RowAt.grown {w w' : World} {b : Nat} {cs : Array Value} {ty : TypeId} {q : Option Nat} (h : RowAt w b cs ty) (hg : w.grownBy w' q) (hq : q ≠ some b) : RowAt w' b cs ty := by
  unfold RowAt
  rw [hg.block b h.lt (Ne.symm hq)]
  exact h
theorem own_kinds {w : World} {B B' e e' size size' n n' : Nat} {v v' : Value} {xs xs' : List Value} (h : w.ownsRow B e size v n xs) (h' : w.ownsRow B' e' size' v' n' xs') (he : e ≠ e') : ∀ g, v'.ownBlock = some g → v.ownBlock ≠ some g := by
  intro g hg' hg
  rcases h.2 with ⟨rfl, _⟩ | ⟨g1, cap, cur, rfl, _, hgg, _⟩
  · simp [Value.ownBlock] at hg
  · rcases h'.2 with ⟨rfl, _⟩ | ⟨g2, cap', cur', rfl, _, hgg', _⟩
    · simp [Value.ownBlock] at hg'
    · simp only [Value.ownBlock, Option.some.injEq] at hg hg'
      subst hg
      subst hg'
      rw [hgg] at hgg'
      simp only [Option.some.injEq, Obj.cells.injEq] at hgg'
      exact he hgg'.2.1
theorem rowAt_ne {w : World} {b : Nat} {cs : Array Value} {ty : TypeId} {B e size n : Nat} {v : Value} {xs : List Value} (h : RowAt w b cs ty) (ho : w.ownsRow B e size v n xs) (he : e ≠ ty) : v.ownBlock ≠ some b := by
  intro hb
  rcases ho.2 with ⟨rfl, _⟩ | ⟨g, cap, cur, rfl, _, hgg, _⟩
  · simp [Value.ownBlock] at hb
  · simp only [Value.ownBlock, Option.some.injEq] at hb
    subst hb
    rw [show w.heap[g]? = _ from h] at hgg
    simp only [Option.some.injEq, Obj.cells.injEq] at hgg
    exact he hgg.2.1.symm
/-- A row's text as a value. -/
def rwT (x : Rw) : Value := .slice x.2.2.2.2.1 x.2.2.2.2.2.1 x.2.2.2.2.2.2
/-- A row whose text is its own, and reads as a cell. -/
def RwOwn (w : World) (B : Nat) (x : Rw) (y : Cl) : Prop := x.1 = y.1 ∧ x.2.1 = y.2.1 ∧ x.2.2.1 = y.2.2.1 ∧ x.2.2.2.1 = y.2.2.2.1 ∧ Own w B (rwT x) y.2.2.2.2
/-- Rows with texts of their own, no two of which share memory, and none with a block q. -/
def TxtOwn (w : World) (B : Nat) (q : Option Nat) (rs : List Rw) (l : List Cl) : Prop :=
  rs.length = l.length ∧ (∀ k, k < rs.length → RwOwn w B (rs.getD k rw0) (l.getD k cl0)) ∧ (∀ k, k < rs.length → ∀ g, (rwT (rs.getD k rw0)).ownBlock = some g → q ≠ some g) ∧
    (∀ i k, i < k → k < rs.length → ∀ g, (rwT (rs.getD i rw0)).ownBlock = some g → (rwT (rs.getD k rw0)).ownBlock ≠ some g)
/-- A table's cells, all their own. -/
def OwnT (w : World) (B : Nat) (v : Value) (rs : List Rw) (l : List Cl) : Prop := OwnR w B v rs ∧ TxtOwn w B v.ownBlock rs l

theorem RwOwn.is {w : World} {B : Nat} {x : Rw} {y : Cl} (h : RwOwn w B x y) : RwIs w x y := by
  obtain ⟨h0, h1, h2, h3, h4⟩ := h
  exact ⟨h0, h1, h2, h3, h4.txt⟩
theorem TxtOwn.reads {w : World} {B : Nat} {q : Option Nat} {rs : List Rw} {l : List Cl} (h : TxtOwn w B q rs l) : Reads w rs l := ⟨h.1, fun k hk => (h.2.1 k hk).is⟩
theorem OwnT.tab {w : World} {B : Nat} {a : Option Addr} {n cap : Nat} {rs : List Rw} {l : List Cl} (h : OwnT w B (.slice a n cap) rs l) : Tab w a n cap l := tab_of_rws h.1.rws h.2.reads
theorem OwnT.len {w : World} {B : Nat} {a : Option Addr} {n cap : Nat} {rs : List Rw} {l : List Cl} (h : OwnT w B (.slice a n cap) rs l) : n = l.length := h.1.len.trans h.2.1
theorem OwnT.shape {w : World} {B : Nat} {v : Value} {rs : List Rw} {l : List Cl} (h : OwnT w B v rs l) : ∃ a cap, v = .slice a l.length cap := by
  obtain ⟨a, cap, e, -⟩ := h.1.shape
  exact ⟨a, cap, by rw [e, h.2.1]⟩
theorem TxtOwn.below {w w' : World} {B : Nat} {q : Option Nat} {rs : List Rw} {l : List Cl} (h : TxtOwn w B q rs l) (hb : Below w.heap.size w w') : TxtOwn w' B q rs l :=
  ⟨h.1, fun k hk => by obtain ⟨h0, h1, h2, h3, h4⟩ := h.2.1 k hk; exact ⟨h0, h1, h2, h3, h4.below hb⟩, h.2.2⟩
theorem OwnT.below {w w' : World} {B : Nat} {v : Value} {rs : List Rw} {l : List Cl} (h : OwnT w B v rs l) (hb : Below w.heap.size w w') : OwnT w' B v rs l := ⟨h.1.below hb, h.2.below hb⟩
theorem TxtOwn.less {w : World} {B B' : Nat} {q : Option Nat} {rs : List Rw} {l : List Cl} (h : TxtOwn w B' q rs l) (hB : B ≤ B') : TxtOwn w B q rs l :=
  ⟨h.1, fun k hk => by obtain ⟨h0, h1, h2, h3, h4⟩ := h.2.1 k hk; exact ⟨h0, h1, h2, h3, own_less h4 hB⟩, h.2.2⟩
theorem OwnT.less {w : World} {B B' : Nat} {v : Value} {rs : List Rw} {l : List Cl} (h : OwnT w B' v rs l) (hB : B ≤ B') : OwnT w B v rs l := ⟨own_less h.1 hB, h.2.less hB⟩
theorem TxtOwn.grown {w w' : World} {B : Nat} {q g : Option Nat} {rs : List Rw} {l : List Cl} (h : TxtOwn w B q rs l) (hg : w.grownBy w' g) (hn : ∀ k, k < rs.length → ∀ b, (rwT (rs.getD k rw0)).ownBlock = some b → g ≠ some b) : TxtOwn w' B q rs l :=
  ⟨h.1, fun k hk => by obtain ⟨h0, h1, h2, h3, h4⟩ := h.2.1 k hk; exact ⟨h0, h1, h2, h3, own_grown h4 hg (hn k hk)⟩, h.2.2⟩
theorem TxtOwn.set {w : World} {B : Nat} {q : Option Nat} {rs : List Rw} {l : List Cl} (h : TxtOwn w B q rs l) (p : Addr) (u : Value) (hq : q = some p.block) : TxtOwn (w.setCell p u) B q rs l :=
  ⟨h.1, fun k hk => by obtain ⟨h0, h1, h2, h3, h4⟩ := h.2.1 k hk; exact ⟨h0, h1, h2, h3, own_set h4 p u (fun e => h.2.2.1 k hk _ e hq)⟩, h.2.2⟩
theorem TxtOwn.anew {w : World} {B B' : Nat} {q : Option Nat} {rs rs' : List Rw} {l : List Cl} {v : Value} (h : TxtOwn w B q rs l) (ho : OwnR w B' v rs') : TxtOwn w B v.ownBlock rs l :=
  ⟨h.1, h.2.1, fun k hk g hg => own_kinds ho (h.2.1 k hk).2.2.2.2 (by decide) g hg, h.2.2.2⟩
theorem TxtOwn.setLow {w : World} {B : Nat} {q : Option Nat} {rs : List Rw} {l : List Cl} (h : TxtOwn w B q rs l) (p : Addr) (u : Value) (hp : p.block < B) : TxtOwn (w.setCell p u) B q rs l :=
  ⟨h.1, fun k hk => by obtain ⟨h0, h1, h2, h3, h4⟩ := h.2.1 k hk; exact ⟨h0, h1, h2, h3, own_set h4 p u (fun e => by have := (own_lt h4 e).1; omega)⟩, h.2.2⟩
theorem TxtOwn.rowLow {w : World} {B : Nat} {q : Option Nat} {rs : List Rw} {l : List Cl} (h : TxtOwn w B q rs l) (g : Nat) (cs : Array Value) (hp : g < B) : TxtOwn (w.setRow g cs) B q rs l :=
  ⟨h.1, fun k hk => by obtain ⟨h0, h1, h2, h3, h4⟩ := h.2.1 k hk; exact ⟨h0, h1, h2, h3, own_row h4 g cs (fun e => by have := (own_lt h4 e).1; omega)⟩, h.2.2⟩
theorem getD_snoc_lt {α : Type} (l : List α) (x d : α) (k : Nat) (h : k < l.length) : (l ++ [x]).getD k d = l.getD k d := by simp [List.getD, List.getElem?_append_left h]
theorem getD_snoc_eq {α : Type} (l : List α) (x d : α) (k : Nat) (h : k = l.length) : (l ++ [x]).getD k d = x := by subst h; simp [List.getD]
theorem TxtOwn.nil (w : World) (B : Nat) (q : Option Nat) : TxtOwn w B q [] [] := ⟨rfl, fun k hk => by simp at hk, fun k hk => by simp at hk, fun i k _ hk => by simp at hk⟩
/-- A row more, whose text lies where nothing lay. -/
theorem TxtOwn.snoc {w : World} {B C : Nat} {q : Option Nat} {rs : List Rw} {l : List Cl} {x : Rw} {y : Cl} (h : TxtOwn w B q rs l) (hx : RwOwn w B x y) (hq : ∀ g, (rwT x).ownBlock = some g → q ≠ some g)
    (hlt : ∀ k, k < rs.length → ∀ g, (rwT (rs.getD k rw0)).ownBlock = some g → g < C) (hge : ∀ g, (rwT x).ownBlock = some g → C ≤ g) : TxtOwn w B q (rs ++ [x]) (l ++ [y]) := by
  obtain ⟨e, h1, h2, h3⟩ := h
  refine ⟨by simp [e], fun k hk => ?_, fun k hk => ?_, fun i k hik hk => ?_⟩
  · by_cases hlt : k < rs.length
    · rw [getD_snoc_lt _ _ _ _ hlt, getD_snoc_lt _ _ _ _ (by omega)]
      exact h1 k hlt
    · have hk' : k = rs.length := by simp at hk; omega
      rw [getD_snoc_eq _ _ _ _ hk', getD_snoc_eq _ _ _ _ (by omega)]
      exact hx
  · by_cases hlt : k < rs.length
    · rw [getD_snoc_lt _ _ _ _ hlt]
      exact h2 k hlt
    · have hk' : k = rs.length := by simp at hk; omega
      rw [getD_snoc_eq _ _ _ _ hk']
      exact hq
  · by_cases hlt' : k < rs.length
    · rw [getD_snoc_lt _ _ _ _ hlt', getD_snoc_lt _ _ _ _ (by omega)]
      exact h3 i k hik hlt'
    · have hk' : k = rs.length := by simp at hk; omega
      rw [getD_snoc_eq _ _ _ _ hk', getD_snoc_lt _ _ _ _ (by omega)]
      exact fun _ hg hg' => absurd (hlt i (by omega) _ hg) (Nat.not_lt.2 (hge _ hg'))
theorem TxtOwn.blockLt {w : World} {B : Nat} {q : Option Nat} {rs : List Rw} {l : List Cl} (h : TxtOwn w B q rs l) : ∀ k, k < rs.length → ∀ g, (rwT (rs.getD k rw0)).ownBlock = some g → g < w.heap.size :=
  fun k hk _ hg => (own_lt (h.2.1 k hk).2.2.2.2 hg).2
end Go.Proofs.Ytcecmkideoodiaa
namespace Go.Proofs.Ytcecmkideoodiaa
open Go.RowKit

/-- One row behind another. -/
def gtR (y x : Rw) : Bool := decide (x.1 < y.1 ∨ y.1 = x.1 ∧ x.2.1 < y.2.1)
def insR (x : Rw) : List Rw → List Rw
  | [] => [x]
  | y :: ys => if gtR y x then x :: y :: ys else y :: insR x ys
def sortR (l : List Rw) : List Rw := l.foldl (fun o x => insR x o) []
theorem insR_len (x : Rw) : ∀ l, (insR x l).length = l.length + 1
  | [] => rfl
  | y :: ys => by
    unfold insR
    split
    · rfl
    · simp [insR_len x ys]
theorem sortR_take (l : List Rw) (i : Nat) (h : i < l.length) : sortR (l.take (i + 1)) = insR (l.getD i rw0) (sortR (l.take i)) := by
  have e : l.getD i rw0 = l[i] := by simp [List.getD, h]
  unfold sortR
  rw [List.take_succ_eq_append_getElem h, List.foldl_append, e]
  rfl
theorem sortR_len (l : List Rw) : (sortR l).length = l.length := by
  have key : ∀ (l o : List Rw), (l.foldl (fun o x => insR x o) o).length = o.length + l.length := by
    intro l
    induction l with
    | nil => intro o; rfl
    | cons x l ih => intro o; simp only [List.foldl_cons, ih, insR_len, List.length_cons]; omega
  unfold sortR
  simpa using key l []
theorem insR_end (x : Rw) : ∀ l, (∀ y ∈ l, gtR y x = false) → insR x l = l ++ [x]
  | [], _ => rfl
  | y :: ys, h => by
    unfold insR
    rw [h y (by simp)]
    simp [insR_end x ys (fun z hz => h z (by simp [hz]))]
theorem insR_at (x : Rw) : ∀ (l : List Rw) (k : Nat) (hk : k < l.length), (∀ y ∈ l.take k, gtR y x = false) → gtR l[k] x = true → insR x l = l.take k ++ x :: l.drop k
  | [], k, hk, _, _ => by simp at hk
  | y :: ys, 0, _, _, h => by
    unfold insR
    simp only [List.getElem_cons_zero] at h
    rw [h]
    rfl
  | y :: ys, k + 1, hk, hn, h => by
    unfold insR
    rw [hn y (by simp)]
    have := insR_at x ys k (by simpa using hk) (fun z hz => hn z (by simp [hz])) (by simpa using h)
    simp [this]
/-- How far the row x is put in among the first k rows. -/
def InsP (x : Rw) (out : List Rw) (k : Nat) (done : Bool) (next : List Rw) : Prop :=
  (done = false ∧ next = out.take k ∧ ∀ y ∈ out.take k, gtR y x = false) ∨ (done = true ∧ next ++ out.drop k = insR x out)
theorem InsP.len {x : Rw} {out : List Rw} {k : Nat} {done : Bool} {next : List Rw} (h : InsP x out k done next) (hk : k ≤ out.length) : next.length = k + done.toNat := by
  rcases h with ⟨rfl, rfl, _⟩ | ⟨rfl, e⟩
  · simp; omega
  · have := congrArg List.length e
    rw [insR_len, List.length_append, List.length_drop] at this
    simp
    omega
theorem InsP.skip {x : Rw} {out : List Rw} {k : Nat} {next : List Rw} (h : InsP x out k false next) (hk : k < out.length) (hg : gtR (out.getD k rw0) x = false) : InsP x out (k + 1) false (next ++ [out.getD k rw0]) := by
  have e : out.getD k rw0 = out[k] := by simp [List.getD, hk]
  rcases h with ⟨_, rfl, h2⟩ | ⟨h1, _⟩
  · refine .inl ⟨rfl, ?_, ?_⟩
    · rw [e, List.take_succ_eq_append_getElem hk]
    · intro y hy
      rw [List.take_succ_eq_append_getElem hk] at hy
      rcases List.mem_append.1 hy with hy | hy
      · exact h2 y hy
      · simp at hy
        rw [hy, ← e]
        exact hg
  · simp at h1
theorem InsP.put {x : Rw} {out : List Rw} {k : Nat} {next : List Rw} (h : InsP x out k false next) (hk : k < out.length) (hg : gtR (out.getD k rw0) x = true) : InsP x out (k + 1) true (next ++ [x] ++ [out.getD k rw0]) := by
  have e : out.getD k rw0 = out[k] := by simp [List.getD, hk]
  rcases h with ⟨_, rfl, h2⟩ | ⟨h1, _⟩
  · refine .inr ⟨rfl, ?_⟩
    rw [e] at hg ⊢
    rw [insR_at x out k hk h2 hg]
    simp only [List.append_assoc, List.cons_append, List.nil_append]
    rw [← List.drop_eq_getElem_cons hk]
  · simp at h1
theorem InsP.on {x : Rw} {out : List Rw} {k : Nat} {next : List Rw} (h : InsP x out k true next) (hk : k < out.length) : InsP x out (k + 1) true (next ++ [out.getD k rw0]) := by
  have e : out.getD k rw0 = out[k] := by simp [List.getD, hk]
  rcases h with ⟨h1, _⟩ | ⟨_, h1⟩
  · simp at h1
  · refine .inr ⟨rfl, ?_⟩
    rw [← h1, e, List.drop_eq_getElem_cons hk]
    simp
theorem InsP.fin {x : Rw} {out : List Rw} {next : List Rw} (h : InsP x out out.length true next) : next = insR x out := by
  rcases h with ⟨h1, _⟩ | ⟨_, h1⟩
  · simp at h1
  · simpa using h1
theorem InsP.fin0 {x : Rw} {out : List Rw} {next : List Rw} (h : InsP x out out.length false next) : next ++ [x] = insR x out := by
  rcases h with ⟨_, rfl, h1⟩ | ⟨h1, _⟩
  · rw [List.take_of_length_le (Nat.le_refl _)] at h1 ⊢
    rw [insR_end x out h1]
  · simp at h1
/-! The same among cells. -/
def gtC (y x : Cl) : Bool := decide (x.1 < y.1 ∨ y.1 = x.1 ∧ x.2.1 < y.2.1)
def insC (x : Cl) : List Cl → List Cl
  | [] => [x]
  | y :: ys => if gtC y x then x :: y :: ys else y :: insC x ys
/-- Cells in order. -/
def sortC (l : List Cl) : List Cl := l.foldl (fun o x => insC x o) []
def insZ (x : Rw × Cl) : List (Rw × Cl) → List (Rw × Cl)
  | [] => [x]
  | y :: ys => if gtR y.1 x.1 then x :: y :: ys else y :: insZ x ys
theorem insZ_perm (x : Rw × Cl) : ∀ l, (insZ x l).Perm (x :: l)
  | [] => List.Perm.refl _
  | y :: ys => by
    unfold insZ
    split
    · exact List.Perm.refl _
    · exact ((insZ_perm x ys).cons y).trans (List.Perm.swap x y ys)
theorem insZ_fst (x : Rw × Cl) : ∀ l, (insZ x l).map Prod.fst = insR x.1 (l.map Prod.fst)
  | [] => rfl
  | y :: ys => by
    unfold insZ
    simp only [List.map_cons, insR]
    split
    · rfl
    · simp [insZ_fst x ys]
def keyed (p : Rw × Cl) : Prop := p.1.1 = p.2.1 ∧ p.1.2.1 = p.2.2.1
theorem insZ_snd (x : Rw × Cl) (hx : keyed x) : ∀ l, (∀ p ∈ l, keyed p) → (insZ x l).map Prod.snd = insC x.2 (l.map Prod.snd)
  | [], _ => rfl
  | y :: ys, h => by
    have hy := h y (by simp)
    have e : gtR y.1 x.1 = gtC y.2 x.2 := by
      unfold gtR gtC
      rw [hx.1, hx.2, hy.1, hy.2]
    unfold insZ
    simp only [List.map_cons, insC, e]
    split
    · rfl
    · simp [insZ_snd x hx ys (fun p hp => h p (by simp [hp]))]
theorem foldZ (z : List (Rw × Cl)) : ∀ o, (∀ p ∈ z, keyed p) → (∀ p ∈ o, keyed p) →
    ((z.foldl (fun o x => insZ x o) o).Perm (o ++ z) ∧ (z.foldl (fun o x => insZ x o) o).map Prod.fst = (z.map Prod.fst).foldl (fun o x => insR x o) (o.map Prod.fst) ∧ (z.foldl (fun o x => insZ x o) o).map Prod.snd = (z.map Prod.snd).foldl (fun o x => insC x o) (o.map Prod.snd)) := by
  induction z with
  | nil => intro o _ _; exact ⟨by simp, rfl, rfl⟩
  | cons x z ih =>
    intro o hz ho
    have hx := hz x (by simp)
    obtain ⟨h1, h2, h3⟩ := ih (insZ x o) (fun p hp => hz p (by simp [hp])) (fun p hp => by
      rcases List.mem_cons.1 ((insZ_perm x o).mem_iff.1 hp) with rfl | hp
      · exact hx
      · exact ho p hp)
    refine ⟨h1.trans ?_, ?_, ?_⟩
    · exact ((insZ_perm x o).append_right z).trans (List.perm_middle.symm)
    · rw [List.foldl_cons, h2, insZ_fst]
      rfl
    · rw [List.foldl_cons, h3, insZ_snd x hx o ho]
      rfl
def TxtZ (w : World) (B : Nat) (q : Option Nat) (z : List (Rw × Cl)) : Prop :=
  (∀ p ∈ z, RwOwn w B p.1 p.2 ∧ ∀ g, (rwT p.1).ownBlock = some g → q ≠ some g) ∧ z.Pairwise (fun a b => ∀ g, (rwT a.1).ownBlock = some g → (rwT b.1).ownBlock ≠ some g)
theorem TxtZ.perm {w : World} {B : Nat} {q : Option Nat} {z z' : List (Rw × Cl)} (h : TxtZ w B q z) (hp : z'.Perm z) : TxtZ w B q z' :=
  ⟨fun p hpm => h.1 p (hp.mem_iff.1 hpm), hp.symm.pairwise h.2 (fun hab g hg hg' => hab g hg' hg)⟩
theorem zip_getD (rs : List Rw) (l : List Cl) (k : Nat) (h : k < rs.length) (h' : k < l.length) : (rs.zip l)[k]'(by simp; omega) = (rs.getD k rw0, l.getD k cl0) := by
  simp [List.getD, h, h']
theorem TxtOwn.zip {w : World} {B : Nat} {q : Option Nat} {rs : List Rw} {l : List Cl} (h : TxtOwn w B q rs l) : TxtZ w B q (rs.zip l) := by
  obtain ⟨e, h1, h2, h3⟩ := h
  constructor
  · intro p hp
    obtain ⟨k, hk, rfl⟩ := List.getElem_of_mem hp
    have hk' : k < rs.length := by simp at hk; omega
    rw [zip_getD rs l k hk' (by omega)]
    exact ⟨h1 k hk', h2 k hk'⟩
  · rw [List.pairwise_iff_getElem]
    intro i j hi hj hij
    have hi' : i < rs.length := by simp at hi; omega
    have hj' : j < rs.length := by simp at hj; omega
    rw [zip_getD rs l i hi' (by omega), zip_getD rs l j hj' (by omega)]
    exact h3 i j hij hj'
theorem TxtZ.txt {w : World} {B : Nat} {q : Option Nat} {rs : List Rw} {l : List Cl} (e : rs.length = l.length) (h : TxtZ w B q (rs.zip l)) : TxtOwn w B q rs l := by
  have hm : ∀ k (hk : k < rs.length), (rs.getD k rw0, l.getD k cl0) ∈ rs.zip l := by
    intro k hk
    rw [← zip_getD rs l k hk (by omega)]
    exact List.getElem_mem _
  refine ⟨e, fun k hk => (h.1 _ (hm k hk)).1, fun k hk => (h.1 _ (hm k hk)).2, fun i k hik hk => ?_⟩
  have := List.pairwise_iff_getElem.1 h.2 i k (by simp; omega) (by simp; omega) hik
  rw [zip_getD rs l i (by omega) (by omega), zip_getD rs l k hk (by omega)] at this
  exact this
theorem TxtOwn.sort {w : World} {B : Nat} {q : Option Nat} {rs : List Rw} {l : List Cl} (h : TxtOwn w B q rs l) : TxtOwn w B q (sortR rs) (sortC l) := by
  have e := h.1
  have hz := h.zip
  have hk : ∀ p ∈ rs.zip l, keyed p := fun p hp => ⟨(hz.1 p hp).1.1, (hz.1 p hp).1.2.1⟩
  obtain ⟨h1, h2, h3⟩ := foldZ (rs.zip l) [] hk (fun p hp => by simp at hp)
  rw [List.nil_append] at h1
  rw [List.map_fst_zip (by omega)] at h2
  rw [List.map_snd_zip (by omega)] at h3
  have h4 := hz.perm h1
  generalize (rs.zip l).foldl (fun o x => insZ x o) [] = z at h2 h3 h4
  have e2 : sortR rs = z.map Prod.fst := h2.symm
  have e3 : sortC l = z.map Prod.snd := h3.symm
  rw [e2, e3]
  refine TxtZ.txt (by simp) ?_
  have : (z.map Prod.fst).zip (z.map Prod.snd) = z := by
    rw [List.zip_map']
    simp
  rw [this]
  exact h4
theorem insC_perm (x : Cl) : ∀ l, (insC x l).Perm (x :: l)
  | [] => List.Perm.refl _
  | y :: ys => by
    unfold insC
    split
    · exact List.Perm.refl _
    · exact ((insC_perm x ys).cons y).trans (List.Perm.swap x y ys)
theorem sortC_perm (l : List Cl) : (sortC l).Perm l := by
  have key : ∀ (l o : List Cl), (l.foldl (fun o x => insC x o) o).Perm (o ++ l) := by
    intro l
    induction l with
    | nil => intro o; simp
    | cons x l ih =>
      intro o
      exact (ih (insC x o)).trans (((insC_perm x o).append_right l).trans List.perm_middle.symm)
  simpa [sortC] using key l []
end Go.Proofs.Ytcecmkideoodiaa
namespace Go.Proofs.Ytcecmkideoodiaa
open Go.RowKit

/-- How many of the k places from s on are in [r, r + d). -/
def cntI (s k r d : Nat) : Nat := ((List.range k).filter (fun i => decide (r ≤ s + i ∧ s + i < r + d))).length
theorem cntI_zero (s r d : Nat) : cntI s 0 r d = 0 := rfl
theorem cntI_succ (s k r d : Nat) : cntI s (k + 1) r d = cntI s k r d + (if r ≤ s + k ∧ s + k < r + d then 1 else 0) := by
  unfold cntI
  rw [List.range_succ, List.filter_append, List.length_append]
  congr 1
  by_cases h : r ≤ s + k ∧ s + k < r + d
  · simp [h]
  · rw [if_neg h]
    simp only [List.filter_cons, List.filter_nil]
    rw [decide_eq_false h]
    rfl
theorem cntI_le (s k r d : Nat) : cntI s k r d ≤ k := by
  unfold cntI
  exact Nat.le_trans (List.length_filter_le _ _) (by simp)
/-- How many squares of a cell are in a rectangle. -/
def sqN (r c d g : Nat) (x : Cl) : Nat := cntI x.1.toNat x.2.2.1.toNat r d * cntI x.2.1.toNat x.2.2.2.1.toNat c g
def outsB (r c d g : Nat) (x : Cl) : Bool := decide (sqN r c d g x = 0)
def fullB (r c d g : Nat) (x : Cl) : Bool := decide (sqN r c d g x ≠ 0 ∧ sqN r c d g x = x.2.2.1.toNat * x.2.2.2.1.toNat)
def cutB (r c d g : Nat) (x : Cl) : Bool := !outsB r c d g x && !fullB r c d g x
def mOut (r c d g : Nat) (l : List Cl) : List Cl := l.filter (outsB r c d g)
def mTx (r c d g : Nat) (l : List Cl) : List Sg := (l.filter (fullB r c d g)).flatMap (fun x => x.2.2.2.2)
def mN (r c d g : Nat) (l : List Cl) : Nat := (l.filter (fullB r c d g)).length
/-- Whether a rectangle lies in so many rows and columns. -/
def bndB (R C r c d g : Int) : Bool := decide (0 ≤ r ∧ r ≤ R - 1) && decide (0 ≤ c ∧ c ≤ C - 1) && decide (1 ≤ d ∧ d ≤ R - r) && decide (1 ≤ g ∧ g ≤ C - c)
def mergeB (R C : Int) (l : List Cl) (r c d g : Int) : Bool := okB R C l && bndB R C r c d g && l.all (fun x => !cutB r.toNat c.toNat d.toNat g.toNat x) && decide (2 ≤ mN r.toNat c.toNat d.toNat g.toNat l) && textB (mTx r.toNat c.toNat d.toNat g.toNat l)
def mergeM (l : List Cl) (r c d g : Int) : List Cl := mOut r.toNat c.toNat d.toNat g.toNat l ++ [(r, c, d, g, mTx r.toNat c.toNat d.toNat g.toNat l)]
def mergeL (l : List Cl) (r c d g : Int) : List Cl := sortC (mergeM l r c d g)
section
variable (r c d g : Nat) (l : List Cl) (i : Nat)
theorem mOut_take (h : i < l.length) : mOut r c d g (l.take (i + 1)) = mOut r c d g (l.take i) ++ (if outsB r c d g (l.getD i cl0) then [l.getD i cl0] else []) := by
  unfold mOut
  rw [List.take_succ_eq_append_getElem h, List.filter_append, show l[i] = l.getD i cl0 by simp [List.getD, h]]
  congr 1
  simp only [List.filter_cons, List.filter_nil]
theorem mFull_take (h : i < l.length) : (l.take (i + 1)).filter (fullB r c d g) = (l.take i).filter (fullB r c d g) ++ (if fullB r c d g (l.getD i cl0) then [l.getD i cl0] else []) := by
  rw [List.take_succ_eq_append_getElem h, List.filter_append, show l[i] = l.getD i cl0 by simp [List.getD, h]]
  congr 1
  simp only [List.filter_cons, List.filter_nil]
theorem mTx_take (h : i < l.length) : mTx r c d g (l.take (i + 1)) = mTx r c d g (l.take i) ++ (if fullB r c d g (l.getD i cl0) then (l.getD i cl0).2.2.2.2 else []) := by
  unfold mTx
  rw [mFull_take r c d g l i h, List.flatMap_append]
  congr 1
  split <;> simp
theorem mN_take (h : i < l.length) : mN r c d g (l.take (i + 1)) = mN r c d g (l.take i) + (if fullB r c d g (l.getD i cl0) then 1 else 0) := by
  unfold mN
  rw [mFull_take r c d g l i h, List.length_append]
  congr 1
  split <;> simp
theorem mN_le : mN r c d g l ≤ l.length := List.length_filter_le _ _
theorem mOut_le : (mOut r c d g l).length ≤ l.length := List.length_filter_le _ _
theorem mTx_le (k : Nat) : ∀ l : List Cl, (∀ x ∈ l, x.2.2.2.2.length ≤ k) → (mTx r c d g l).length ≤ k * l.length
  | [], _ => by simp [mTx]
  | x :: l, h => by
    have h1 := mTx_le k l (fun y hy => h y (List.mem_cons_of_mem _ hy))
    have h2 := h x (List.mem_cons_self ..)
    unfold mTx at h1 ⊢
    rw [List.filter_cons]
    split
    · rw [List.flatMap_cons, List.length_append, List.length_cons, Nat.mul_succ]
      omega
    · rw [List.length_cons, Nat.mul_succ]
      omega
end
/-- A row more, whose text shares no memory with the others. -/
theorem TxtOwn.snocD {w : World} {B : Nat} {q : Option Nat} {rs : List Rw} {l : List Cl} {x : Rw} {y : Cl} (h : TxtOwn w B q rs l) (hx : RwOwn w B x y) (hq : ∀ g, (rwT x).ownBlock = some g → q ≠ some g)
    (hd : ∀ k, k < rs.length → ∀ g, (rwT (rs.getD k rw0)).ownBlock = some g → (rwT x).ownBlock ≠ some g) : TxtOwn w B q (rs ++ [x]) (l ++ [y]) := by
  obtain ⟨e, h1, h2, h3⟩ := h
  refine ⟨by simp [e], fun k hk => ?_, fun k hk => ?_, fun i k hik hk => ?_⟩
  · by_cases hlt : k < rs.length
    · rw [getD_snoc_lt _ _ _ _ hlt, getD_snoc_lt _ _ _ _ (by omega)]
      exact h1 k hlt
    · have hk' : k = rs.length := by simp at hk; omega
      rw [getD_snoc_eq _ _ _ _ hk', getD_snoc_eq _ _ _ _ (by omega)]
      exact hx
  · by_cases hlt : k < rs.length
    · rw [getD_snoc_lt _ _ _ _ hlt]
      exact h2 k hlt
    · have hk' : k = rs.length := by simp at hk; omega
      rw [getD_snoc_eq _ _ _ _ hk']
      exact hq
  · by_cases hlt' : k < rs.length
    · rw [getD_snoc_lt _ _ _ _ hlt', getD_snoc_lt _ _ _ _ (by omega)]
      exact h3 i k hik hlt'
    · have hk' : k = rs.length := by simp at hk; omega
      rw [getD_snoc_eq _ _ _ _ hk', getD_snoc_lt _ _ _ _ (by omega)]
      exact fun b hb => hd i (by omega) b hb
end Go.Proofs.Ytcecmkideoodiaa
namespace Go.Proofs.Ytcecmkideoodiaa
open Go.RowKit

def rwOne (i j : Nat) : Rw := (i, j, 1, 1, none, 0, 0)
def clOne (i j : Nat) : Cl := (i, j, 1, 1, [])
def newR (C i j : Nat) : List Rw := ((List.range i).flatMap fun a => (List.range C).map fun b => rwOne a b) ++ (List.range j).map fun b => rwOne i b
def newC (C i j : Nat) : List Cl := ((List.range i).flatMap fun a => (List.range C).map fun b => clOne a b) ++ (List.range j).map fun b => clOne i b
/-- The cells of a new table. -/
def newL (R C : Nat) : List Cl := newC C R 0
theorem newR_row (C i : Nat) : newR C i C = newR C (i + 1) 0 := by simp [newR, List.range_succ]
theorem newC_row (C i : Nat) : newC C i C = newC C (i + 1) 0 := by simp [newC, List.range_succ]
theorem newR_succ (C i j : Nat) : newR C i (j + 1) = newR C i j ++ [rwOne i j] := by simp [newR, List.range_succ]
theorem newC_succ (C i j : Nat) : newC C i (j + 1) = newC C i j ++ [clOne i j] := by simp [newC, List.range_succ]
theorem newR_len (C : Nat) : ∀ i j, (newR C i j).length = i * C + j
  | 0, j => by simp [newR]
  | i + 1, j => by
    have h := newR_len C i C
    rw [newR_row] at h
    simp only [newR, List.length_append, List.length_map, List.length_range] at h ⊢
    rw [Nat.succ_mul]
    omega
theorem map_getD {α β : Type} (f : α → β) (l : List α) (k : Nat) (d : α) (e : β) (h : k < l.length) : (l.map f).getD k e = f (l.getD k d) := by simp [List.getD, h]
def rwCl (x : Rw) : Cl := (x.1, x.2.1, x.2.2.1, x.2.2.2.1, [])
theorem newC_map (C i j : Nat) : newC C i j = (newR C i j).map rwCl := by
  simp only [newC, newR, List.map_append, List.map_map, List.map_flatMap]
  rfl
def nilT (x : Rw) : Prop := x.2.2.2.2 = (none, 0, 0)
theorem newR_nil (C i j : Nat) : ∀ x ∈ newR C i j, nilT x := by
  intro x hx
  simp only [newR, List.mem_append, List.mem_flatMap, List.mem_map] at hx
  rcases hx with ⟨a, _, b, _, rfl⟩ | ⟨b, _, rfl⟩ <;> rfl
theorem txtOwn_nil {w : World} {B : Nat} {q : Option Nat} {rs : List Rw} (h : ∀ x ∈ rs, nilT x) : TxtOwn w B q rs (rs.map rwCl) := by
  have key : ∀ k, k < rs.length → rwT (rs.getD k rw0) = .slice none 0 0 := by
    intro k hk
    have := h (rs.getD k rw0) (by simp [List.getD, hk])
    unfold nilT at this
    simp only [rwT, this]
  refine ⟨by simp, fun k hk => ?_, fun k hk g hg => ?_, fun i k hik hk g hg => ?_⟩
  · rw [map_getD rwCl rs k rw0 cl0 hk]
    refine ⟨rfl, rfl, rfl, rfl, ?_⟩
    rw [key k hk]
    exact Own.nil _ _
  · rw [key k hk] at hg
    simp [Value.ownBlock] at hg
  · rw [key i (by omega)] at hg
    simp [Value.ownBlock] at hg
theorem cell_five_new (w : World) (a b c d e : Value) (t : TypeId) : ∀ j u, [a, b, c, d, e][j]? = some u → (w.alloc (.cells #[a, b, c, d, e] t)).cell? ((⟨w.heap.size, 0, none⟩ : Addr).add j) = some u := by
  intro j u hj
  match j, hj with
  | 0, hj => simp at hj; subst hj; simp [Addr.add]
  | 1, hj => simp at hj; subst hj; simp [Addr.add]
  | 2, hj => simp at hj; subst hj; simp [Addr.add]
  | 3, hj => simp at hj; subst hj; simp [Addr.add]
  | 4, hj => simp at hj; subst hj; simp [Addr.add]
  | (j + 5), hj => simp at hj
theorem five_oneCell (a b c d : Int) (p : Option Addr) (n m : Nat) : ∀ u ∈ [Value.int .i64 a, .int .i64 b, .int .i64 c, .int .i64 d, .slice p n m], u.oneCell' = true := by
  intro u hu
  simp at hu
  rcases hu with rfl | rfl | rfl | rfl | rfl <;> rfl
end Go.Proofs.Ytcecmkideoodiaa
namespace Go.Proofs.Ytcecmkideoodiaa
open Go.RowKit

theorem run_append_empty {P : Program} {w : World} (base : Nat) (t ty e : TypeId) (i : TypeInfo) (size : Nat) (ht : P.underlying t = some (.slice e)) (hi : P.info? e = some i)
    (v : Value) (n : Nat) (xs : List Value) (hown : w.ownsRow base e size v n xs) (p : Option Addr) (c : Nat) :
    (Builtin.append_ #[t, t] ty #[v, .slice p 0 c]).run P w = .ok v w := by
  rcases hown.2 with ⟨rfl, rfl⟩ | ⟨g, cap, cur, rfl, _, _, hnc, _⟩
  · cases p <;> simp [Builtin.append_, run_underlying ht, sizeOf, typeInfo, hi, Builtin.lenOf, Builtin.firstCells, loadCells, loadCellsFrom]
  · cases p <;> simp [Builtin.append_, run_underlying ht, sizeOf, typeInfo, hi, Builtin.lenOf, Builtin.firstCells, loadCells, loadCellsFrom, hnc, storeCells]
theorem wpList_append_empty {P : Program} {w : World} {ops : Array Oper} {rest : List Oper} {o : Oper} {a : Act} {Q : Exit → Act → World → Prop} (hgd : o.guard = none) (s x : Operand) (t : TypeId)
    (ho : o.op = .call { callee := .builtin .append, args := #[s, x], argTypes := #[t, t] })
    (base : Nat) (e : TypeId) (i : TypeInfo) (size : Nat) (ht : P.underlying t = some (.slice e)) (hi : P.info? e = some i)
    (v : Value) (n : Nat) (xs : List Value) (hs : a.eval s = v) (hown : w.ownsRow base e size v n xs) (p : Option Addr) (c : Nat) (hx : a.eval x = .slice p 0 c)
    (h : wpList P ops Q rest (a.put o.dst v) w) : wpList P ops Q (o :: rest) a w := by
  refine wpList_plain hgd fun K hK => ?_
  have hrun := run_append_empty (P := P) (w := w) base t o.type e i size ht hi v n xs hown p c
  unfold Oper.wp
  simp [execOp, ho, resolve, invoke, builtin, hs, hx, hrun, Result.andThen]
  exact hK _ _ h
theorem grownBy_refl (w : World) (r : Option Nat) : w.grownBy w r := ⟨rfl, rfl, rfl, Nat.le_refl _, fun _ _ _ => rfl⟩
theorem flat_one (l : List Sg) : ∀ u ∈ flat l, u.oneCell' = true := by
  intro u hu
  simp only [flat, List.mem_flatMap, sgCells] at hu
  obtain ⟨s, _, hs⟩ := hu
  simp at hs
  rcases hs with rfl | rfl | rfl <;> rfl
theorem news_signs {w : World} {b off : Nat} {l : List Sg} (h : SignsAt w b off l) : ∀ j u, (flat l)[j]? = some u → w.cell? ((⟨b, off, none⟩ : Addr).add j) = some u := by
  intro j u hj
  have hlt : j < l.length * 3 := by
    rw [← flat_length]
    exact (List.getElem?_eq_some_iff.1 hj).1
  have e : (⟨b, off, none⟩ : Addr).add j = ⟨b, off + j, none⟩ := by simp [Addr.add]
  rw [e]
  obtain ⟨g0, g1, g2⟩ := flat_get l (j / 3) (by omega)
  obtain ⟨h0, h1, h2⟩ := h (j / 3) (by omega)
  rcases (show j = j / 3 * 3 ∨ j = j / 3 * 3 + 1 ∨ j = j / 3 * 3 + 2 from by omega) with e | e | e
  · rw [e] at hj ⊢
    rw [← hj, g0]
    exact h0
  · rw [e] at hj ⊢
    rw [← hj, g1, ← Nat.add_assoc]
    exact h1
  · rw [e] at hj ⊢
    rw [← hj, g2, ← Nat.add_assoc]
    exact h2
/-- 'append(v, t...)', v the call's own, t a text. -/
theorem wpList_append_txt {w : World} {ops : Array Oper} {rest : List Oper} {o : Oper} {a : Act} {Q : Exit → Act → World → Prop} (hgd : o.guard = none) (s x : Operand)
    (ho : o.op = .call { callee := .builtin .append, args := #[s, x], argTypes := #[31, 31] })
    (base : Nat) (v : Value) (n : Nat) (xs : List Value) (hs : a.eval s = v) (hown : w.ownsRow base 74 3 v n xs)
    (p : Option Addr) (m c : Nat) (l : List Sg) (hx : a.eval x = .slice p m c) (htx : Txt w p m c l) (h63 : n + m ≤ 1000000000) (hbase : base ≤ w.heap.size)
    (h : ∀ v' w', w'.ownsRow base 74 3 v' (n + m) (xs ++ flat l) → w.grownBy w' v.ownBlock → wpList Try.prog ops Q rest (a.put o.dst v') w') : wpList Try.prog ops Q (o :: rest) a w := by
  obtain ⟨i0, hi, hz0, hz1, hz2⟩ := info_parts Try.info74
  obtain ⟨rfl, h2, h3, h4⟩ := htx
  rcases h4 with rfl | ⟨b, off, rfl, hb, hsn⟩
  · refine wpList_append_empty hgd s x 31 ho base 74 i0 3 Try.underlying31 hi v n xs hs hown p c hx ?_
    exact h v w (by simpa [flat] using hown) (grownBy_refl _ _)
  · refine wpList_append_own w hgd s x 31 ho base 74 i0 _ 3 24 Try.underlying31 hi hz0 hz1 hz2 rfl (by decide) v n xs hs hown ⟨b, off, none⟩ l.length c (flat l) hx (by rw [flat_length]) (news_signs hsn) (flat_one l) (by unfold maxLen; omega) (by omega) hbase ?_
    intro v' w' h5 h6 _
    exact h v' w' h5 h6
end Go.Proofs.Ytcecmkideoodiaa
namespace Go.Proofs.Ytcecmkideoodiaa
open Go.RowKit

set_option maxRecDepth 100000 in
set_option maxHeartbeats 4000000 in
theorem l2Copy_any (R C : Int) (a : Option Addr) (n cap : Nat) (l : List Cl) (w : World) (h : Tab w a n cap l) (hl : l.length ≤ 1000000) (ht : ∀ k, k < l.length → (l.getD k cl0).2.2.2.2.length ≤ 1000000) :
    Calls Try.prog 68 #[.agg #[.int .i64 R, .int .i64 C, .slice a n cap]] w fun z w' => (∃ a' c' rs, z = .returned (.agg #[.int .i64 R, .int .i64 C, .slice a' l.length c']) ∧ OwnT w' w.heap.size (.slice a' l.length c') rs l) ∧ Below w.heap.size w w' := by
  obtain ⟨i0, hi, hz0, hz1, hz2⟩ := info_parts Try.info41
  have H : Hid (Tab w a n cap l) := h
  have HTL : Hid (∀ k, k < l.length → (l.getD k cl0).2.2.2.2.length ≤ 1000000) := ht
  obtain ⟨hn, hc, hm, -⟩ := h
  unfold maxLen at hm
  have HN : Hid (n = l.length) := hn
  have hn6 : n ≤ 1000000 := by omega
  clear ht hn
  go_enter Try.func68, Try.ntmps68
  go_upto_region 1 with fail
  have B0 : Below w.heap.size w ((w.alloc (.cells #[.int .i64 R, .int .i64 C, .slice a n cap] 37)).alloc (.cells #[.int .i64 0, .int .i64 0, .slice none 0 0] 37)) := ((Below.refl _ _).alloc (Nat.le_refl _) _).alloc (by simp) _
  have G0 : RowAt ((w.alloc (.cells #[.int .i64 R, .int .i64 C, .slice a n cap] 37)).alloc (.cells #[.int .i64 0, .int .i64 0, .slice none 0 0] 37)) w.heap.size #[.int .i64 R, .int .i64 C, .slice a n cap] 37 := (rowAt_new w _ _).alloc _
  have G1 : RowAt ((w.alloc (.cells #[.int .i64 R, .int .i64 C, .slice a n cap] 37)).alloc (.cells #[.int .i64 0, .int .i64 0, .slice none 0 0] 37)) (w.heap.size + 1) #[.int .i64 0, .int .i64 0, .slice none 0 0] 37 := by
    have := rowAt_new (w.alloc (.cells #[.int .i64 R, .int .i64 C, .slice a n cap] 37)) #[.int .i64 0, .int .i64 0, .slice none 0 0] 37
    simpa using this
  generalize ((w.alloc (.cells #[.int .i64 R, .int .i64 C, .slice a n cap] 37)).alloc (.cells #[.int .i64 0, .int .i64 0, .slice none 0 0] 37)) = v at B0 G0 G1 ⊢
  have q0 : v.cell? ⟨w.heap.size, 0, none⟩ = some (.int .i64 R) := G0.cell 0
  have q1 : v.cell? ⟨w.heap.size, 1, none⟩ = some (.int .i64 C) := G0.cell 1
  go_upto_region 2 with fail
  have B1 : Below v.heap.size v (v.alloc (.cells #[.int .i64 R, .int .i64 C, .slice none 0 0] 37)) := (Below.refl _ _).alloc (Nat.le_refl _) _
  have G2 : RowAt (v.alloc (.cells #[.int .i64 R, .int .i64 C, .slice none 0 0] 37)) v.heap.size #[.int .i64 R, .int .i64 C, .slice none 0 0] 37 := rowAt_new _ _ _
  generalize (v.alloc (.cells #[.int .i64 R, .int .i64 C, .slice none 0 0] 37)) = v0 at B1 G2 ⊢
  have z0 := G0.lt
  have z1 := G1.lt
  have z2 := G2.lt
  have s01 := B0.size
  clear q0 q1
  go_wp2_with fail
  go_loopw [4] (fun iv wr => ∃ (i : Nat) (rs : List Rw) (a' : Option Addr) (c' : Nat), i ≤ n ∧ iv = .int .i64 i ∧ RowAt wr v.heap.size #[.int .i64 R, .int .i64 C, .slice a' i c'] 37 ∧ OwnR wr v0.heap.size (.slice a' i c') rs ∧ TxtOwn wr v0.heap.size (Value.slice a' i c').ownBlock rs (l.take i) ∧ Below v.heap.size v wr ∧ v0.heap.size ≤ wr.heap.size) (fun iv _ => n - (intOf iv).toNat)
  case atStart => exact ⟨0, [], none, 0, Nat.zero_le _, rfl, G2, OwnR.nil _ _, TxtOwn.nil _ _ _, B1, Nat.le_refl _⟩
  case round =>
    clear G2 B1
    obtain ⟨i, rs, a', c', hin, rfl, hT, hO, hX, hb, hs⟩ := hrel
    have HTb : Hid (RowAt wr v.heap.size #[.int .i64 R, .int .i64 C, .slice a' i c'] 37) := hT
    have HO : Hid (OwnR wr v0.heap.size (.slice a' i c') rs) := hO
    have HXt : Hid (TxtOwn wr v0.heap.size (Value.slice a' i c').ownBlock rs (l.take i)) := hX
    have HB : Hid (Below v.heap.size v wr) := hb
    have HW : Hid (Below w.heap.size w wr) := B0.trans (hb.mono s01)
    have k2 : wr.cell? ⟨w.heap.size, 2, none⟩ = some (.slice a n cap) := (G0.below hb z0).cell 2
    clear hT hO hX hb
    by_cases hlt : i < n
    · have hil : i < l.length := by rw [← HN.out]; exact hlt
      rcases H.out.2.2.2 with e | ⟨b, off, rfl, hbw, hcl⟩
      · rw [e] at hil
        exact absurd hil (by simp)
      obtain ⟨c0, c1, c2, c3, ta, tn, tc, c4, htx⟩ := (hcl i hil).below HW.out hbw
      have htl := HTL.out i hil
      obtain ⟨⟨r, c, d, g, tx⟩, hx⟩ : ∃ x, x = l.getD i cl0 := ⟨_, rfl⟩
      rw [← hx] at c0 c1 c2 c3 htx htl
      simp only at c0 c1 c2 c3 htx htl
      have HX : Hid ((r, c, d, g, tx) = l.getD i cl0) := hx
      have HTX : Hid (Txt wr ta tn tc tx) := htx
      have HTN : Hid (tn = tx.length) := htx.1
      have htn6 : tn ≤ 1000000 := by rw [HTN.out]; exact htl
      clear hcl hx htx
      go_upto_region 6 with fail
      have bA : Below wr.heap.size wr (wr.alloc (.cells #[.int .i64 r, .int .i64 c, .int .i64 d, .int .i64 g, .slice ta tn tc] 41)) := (Below.refl _ _).alloc (Nat.le_refl _) _
      have RA : RowAt (wr.alloc (.cells #[.int .i64 r, .int .i64 c, .int .i64 d, .int .i64 g, .slice ta tn tc] 41)) wr.heap.size #[.int .i64 r, .int .i64 c, .int .i64 d, .int .i64 g, .slice ta tn tc] 41 := rowAt_new _ _ _
      clear c0 c1 c2 c3 c4 k2
      generalize (wr.alloc (.cells #[.int .i64 r, .int .i64 c, .int .i64 d, .int .i64 g, .slice ta tn tc] 41)) = w1 at bA RA ⊢
      have s1 := bA.size
      have lA := RA.lt
      have e4 : w1.cell? ⟨wr.heap.size, 4, none⟩ = some (.slice ta tn tc) := RA.cell 4
      have HRA : Hid (RowAt w1 wr.heap.size #[.int .i64 r, .int .i64 c, .int .i64 d, .int .i64 g, .slice ta tn tc] 41) := RA
      clear RA
      go_upto_region 7 with (at_builtin; refine wpList_append_txt rfl (.tmp 23) (.tmp 25) rfl wr.heap.size (.slice (some ⟨w1.heap.size, 0, none⟩) 0 0) 0 [] rfl (World.ownsRow_lit w1 #[] 0 (by omega) (by unfold maxLen; omega) rfl) ta tn tc tx rfl ((HTX.out.below bA).below ((Below.refl _ _).alloc (Nat.le_refl _) _)) (by omega) (by simp; omega) ?_; intro v' w2 hown hgrow; obtain ⟨p, q, rfl, -⟩ := Own.shape (show Own w2 wr.heap.size v' tx by (rw [Nat.zero_add, List.nil_append, HTN.out] at hown; exact hown)); have R2 := RowAt.grown (HRA.out.alloc _) hgrow (by simp [Value.ownBlock]; omega); have f4 : w2.cell? ⟨wr.heap.size, 4, none⟩ = some (.slice ta tn tc) := R2.cell 4; have f5 := R2.frozen 4)
      have hO2 : Own w2 wr.heap.size (.slice p tx.length q) tx := by
        rw [Nat.zero_add, List.nil_append, HTN.out] at hown
        exact hown
      have O3 : Own (w2.setCell ⟨wr.heap.size, 4, none⟩ (.slice p tx.length q)) wr.heap.size (.slice p tx.length q) tx := own_set hO2 _ _ (rowAt_ne R2 hO2.row (by decide))
      have R3 := R2.setCell 4 (.slice p tx.length q)
      have b3 : Below wr.heap.size wr (w2.setCell ⟨wr.heap.size, 4, none⟩ (.slice p tx.length q)) := ((bA.alloc s1 _).grown hgrow (by simp; omega) (fun k hk => by simp [Value.ownBlock] at hk; omega)).setCell (p := ⟨wr.heap.size, 4, none⟩) (Nat.le_refl _) (.slice p tx.length q)
      clear f4 f5 e4 hown hgrow R2 hO2 bA
      generalize (w2.setCell ⟨wr.heap.size, 4, none⟩ (.slice p tx.length q)) = w3 at O3 R3 b3 ⊢
      have s3 := b3.size
      have d0 : w3.cell? ⟨wr.heap.size, 0, none⟩ = some (.int .i64 r) := R3.cell 0
      have d1 : w3.cell? ⟨wr.heap.size, 1, none⟩ = some (.int .i64 c) := R3.cell 1
      have d2 : w3.cell? ⟨wr.heap.size, 2, none⟩ = some (.int .i64 d) := R3.cell 2
      have d3 : w3.cell? ⟨wr.heap.size, 3, none⟩ = some (.int .i64 g) := R3.cell 3
      have d4 : w3.cell? ⟨wr.heap.size, 4, none⟩ = some (.slice p tx.length q) := R3.cell 4
      have lv : v.heap.size < wr.heap.size := by omega
      have HT3 : Hid (RowAt w3 v.heap.size #[.int .i64 R, .int .i64 C, .slice a' i c'] 37) := HTb.out.below b3 lv
      have HO3 : Hid (OwnR w3 v0.heap.size (.slice a' i c') rs) := own_below HO.out b3
      have HX3 : Hid (TxtOwn w3 v0.heap.size (Value.slice a' i c').ownBlock rs (l.take i)) := HXt.out.below b3
      have HOw : Hid (Own w3 wr.heap.size (.slice p tx.length q) tx) := O3
      have HB3 : Hid (Below v.heap.size v w3) := HB.out.trans (b3.mono (by omega))
      have t2 : w3.cell? ⟨v.heap.size, 2, none⟩ = some (.slice a' i c') := HT3.out.cell 2
      clear R3 O3 b3
      go_wp2_with (at_builtin; refine wpList_append_own _ rfl (.tmp 29) (.tmp 31) 35 rfl v0.heap.size 41 i0 _ 5 56 Try.underlying35 hi hz0 hz1 hz2 rfl (by decide) (.slice a' i c') _ _ rfl (HO3.out.row.alloc _) ⟨w3.heap.size, 0, none⟩ 1 1 [.int .i64 r, .int .i64 c, .int .i64 d, .int .i64 g, .slice p tx.length q] rfl rfl (cell_five_new _ _ _ _ _ _ _) (five_oneCell _ _ _ _ _ _ _) (by unfold maxLen; omega) (by omega) (by simp; omega) ?_; intro v' w5 hown' hgrow _; obtain ⟨a5, c5, rfl, ho5, hb5⟩ := ownR_step (B := v0.heap.size) (w := w3) (s := (r, c, d, g, p, tx.length, q)) HO3.out (Below.refl _ _) (by omega) hown' hgrow; have R5 := RowAt.grown (HT3.out.alloc _) hgrow (fun e => by have := (own_lt HO3.out.row e).1; omega); have q2 : w5.cell? ⟨v.heap.size, 2, none⟩ = some (.slice a' i c') := R5.cell 2; have q3 := R5.frozen 2)
      go_roundw
      case rel =>
        have tO : Own w5 v0.heap.size (.slice p tx.length q) tx := own_grown (Own.alloc (own_less HOw.out (by omega)) _) hgrow (fun b hb => own_kinds HO3.out HOw.out (by decide) b hb)
        have t5 : TxtOwn w5 v0.heap.size (Value.slice a' i c').ownBlock rs (l.take i) := (HX3.out.below ((Below.refl _ _).alloc (Nat.le_refl _) _)).grown hgrow (fun k hk b hb => HX3.out.2.2.1 k hk b hb)
        have t6 := t5.snoc (C := wr.heap.size) (x := (r, c, d, g, p, tx.length, q)) (y := (r, c, d, g, tx)) ⟨rfl, rfl, rfl, rfl, tO⟩ (fun b hb => own_kinds HO3.out HOw.out (by decide) b hb) (fun k hk b hb => HXt.out.blockLt k hk b hb) (fun b hb => (own_lt HOw.out.row hb).1)
        rw [show l.take i ++ [(r, c, d, g, tx)] = l.take (i + 1) from by rw [List.take_succ_eq_append_getElem hil, HX.out]; simp [List.getD, hil]] at t6
        have B5 : Below v.heap.size v w5 := ((HB3.out).alloc (by omega) _).grown hgrow (by simp; omega) (fun k hk => by have := (own_lt HO3.out.row hk).1; omega)
        have s5 := hgrow.size
        simp at s5
        refine ⟨i + 1, _, a5, c5, by omega, by go_num, R5.setCell 2 (.slice a5 (i + 1) c5), own_set ho5 _ _ (fun e => by have := (own_lt ho5.row e).1; simp at this; omega), (t6.anew ho5).setLow _ _ (by simp; omega), B5.setCell (p := ⟨v.heap.size, 2, none⟩) (Nat.le_refl _) (.slice a5 (i + 1) c5), by simp [World.setCell]; omega⟩
      case measure => simp [intOf]; omega
    · have e : i = n := by omega
      subst e
      have k0 : wr.cell? ⟨v.heap.size, 0, none⟩ = some (.int .i64 R) := HTb.out.cell 0
      have k1 : wr.cell? ⟨v.heap.size, 1, none⟩ = some (.int .i64 C) := HTb.out.cell 1
      have k3 : wr.cell? ⟨v.heap.size, 2, none⟩ = some (.slice a' i c') := HTb.out.cell 2
      have HG1 : Hid (RowAt wr (w.heap.size + 1) #[.int .i64 0, .int .i64 0, .slice none 0 0] 37) := G1.below HB.out z1
      go_wp2_with (refine wpList_store_row rfl 37 (.tmp 2) (.tmp 34) rfl (w.heap.size + 1) #[.int .i64 R, .int .i64 C, .slice a' i c'] rfl rfl 37 _ HG1.out tab_info rfl (cells3_one _ _ _ _ _) ?_)
      have hX := HXt.out
      have hO := HO.out
      rw [HN.out] at hX hO
      rw [List.take_of_length_le (Nat.le_refl _)] at hX
      refine bodyPost_ret (v := .agg #[.int .i64 R, .int .i64 C, .slice a' i c']) (results_cell_row (p := 2) (ty := 37) rfl _ _ (w.heap.size + 1) 37 _ _ _ rfl (RowAt.setRow HG1.out _) Try.underlying37 rfl tab_info) rfl ⟨⟨a', c', rs, by rw [HN.out], ?_⟩, below_row (B0.trans (HB.out.mono s01)) (by omega) _⟩
      exact OwnT.less (B' := v0.heap.size) ⟨own_row hO _ _ (fun e => by have := (own_lt hO.row e).1; omega), hX.rowLow _ _ (by omega)⟩ (by omega)
end Go.Proofs.Ytcecmkideoodiaa
namespace Go.Proofs.Ytcecmkideoodiaa
open Go.RowKit

theorem ownR_empty (w : World) (B : Nat) (hB : B ≤ w.heap.size) : OwnR (w.alloc (.cells #[] 41)) B (.slice (some ⟨w.heap.size, 0, none⟩) 0 0) [] := World.ownsRow_lit w #[] 0 hB (by unfold maxLen; omega) rfl
theorem RwAt.below {w w' : World} {b o : Nat} {x : Rw} (h : RwAt w b o x) (hb : Below w.heap.size w w') (hlt : b < w.heap.size) : RwAt w' b o x := by
  obtain ⟨c0, c1, c2, c3, c4⟩ := h
  exact ⟨(hb.cell (p := ⟨b, _, none⟩) hlt).trans c0, (hb.cell (p := ⟨b, _, none⟩) hlt).trans c1, (hb.cell (p := ⟨b, _, none⟩) hlt).trans c2, (hb.cell (p := ⟨b, _, none⟩) hlt).trans c3, (hb.cell (p := ⟨b, _, none⟩) hlt).trans c4⟩
theorem Rws.below {w w' : World} {a : Option Addr} {n cap : Nat} {l : List Rw} (h : Rws w a n cap l) (hb : Below w.heap.size w w') : Rws w' a n cap l := by
  obtain ⟨h1, h2, h3, h4⟩ := h
  refine ⟨h1, h2, h3, ?_⟩
  rcases h4 with h4 | ⟨b, off, h5, h6, h7⟩
  · exact .inl h4
  · refine .inr ⟨b, off, h5, Nat.lt_of_lt_of_le h6 hb.size, fun k hk => ?_⟩
    obtain ⟨c0, c1, c2, c3, c4⟩ := h7 k hk
    exact ⟨(hb.cell (p := ⟨b, _, none⟩) h6).trans c0, (hb.cell (p := ⟨b, _, none⟩) h6).trans c1, (hb.cell (p := ⟨b, _, none⟩) h6).trans c2, (hb.cell (p := ⟨b, _, none⟩) h6).trans c3, (hb.cell (p := ⟨b, _, none⟩) h6).trans c4⟩

set_option maxRecDepth 100000 in
set_option maxHeartbeats 8000000 in
theorem l2Sort_any (a : Option Addr) (n cap : Nat) (rs : List Rw) (w : World) (h : Rws w a n cap rs) (hn : n ≤ 1000) :
    Calls Try.prog 78 #[.slice a n cap] w fun z w' => (∃ a' c', z = .returned (.slice a' n c') ∧ OwnR w' w.heap.size (.slice a' n c') (sortR rs)) ∧ Below w.heap.size w w' := by
  obtain ⟨i0, hi, hz0, hz1, hz2⟩ := info_parts Try.info41
  have H : Hid (Rws w a n cap rs) := h
  have HN : Hid (n = rs.length) := h.1
  have hcn := h.2.1
  have hcm := h.2.2.1
  unfold maxLen at hcm
  clear h
  go_enter Try.func78, Try.ntmps78
  go_wp2_with fail
  go_loopw [3, 4] (fun ov iv wr => ∃ (i : Nat) (ao : Option Addr) (co : Nat), i ≤ n ∧ iv = .int .i64 i ∧ ov = .slice ao i co ∧ OwnR wr w.heap.size (.slice ao i co) (sortR (rs.take i)) ∧ Below w.heap.size w wr) (fun _ iv _ => n - (intOf iv).toNat)
  case atStart => exact ⟨0, _, _, Nat.zero_le _, rfl, rfl, ownR_empty w _ (Nat.le_refl _), (Below.refl _ _).alloc (Nat.le_refl _) _⟩
  case round =>
    obtain ⟨i, ao, co, hin, rfl, rfl, ho, hb⟩ := hrel
    have HO : Hid (OwnR wr w.heap.size (.slice ao i co) (sortR (rs.take i))) := ho
    have HB : Hid (Below w.heap.size w wr) := hb
    have sz := hb.size
    have hco := ho.rws.2.1
    have hcom := ho.rws.2.2.1
    unfold maxLen at hcom
    clear ho hb
    by_cases hlt : i < n
    · obtain ⟨wi, rfl⟩ : ∃ wi, wi = wr := ⟨wr, rfl⟩
      have hir : i < rs.length := by rw [← HN.out]; exact hlt
      obtain ⟨⟨xr, xc, xd, xg, xa, xn, xq⟩, hx⟩ : ∃ x, x = rs.getD i rw0 := ⟨_, rfl⟩
      have HX : Hid ((xr, xc, xd, xg, xa, xn, xq) = rs.getD i rw0) := hx
      rcases H.out.2.2.2 with e | ⟨b, off, rfl, hbw, hcl⟩
      · rw [e] at hir
        exact absurd hir (by simp)
      have hxa : RwAt w b (off + i * 5) (xr, xc, xd, xg, xa, xn, xq) := by rw [hx]; exact hcl i hir
      have HXA : Hid (RwAt wi b (off + i * 5) (xr, xc, xd, xg, xa, xn, xq)) := hxa.below HB.out hbw
      have hbwi : b < wi.heap.size := by omega
      have HSL : Hid ((sortR (rs.take i)).length = i) := by
        show (sortR (rs.take i)).length = i
        rw [sortR_len, List.length_take]
        omega
      clear hx hcl hxa
      go_wp2_with fail
      go_loopw [5, 6, 7] (fun nv dv kv wr => ∃ (k m : Nat) (done : Bool) (next : List Rw) (an : Option Addr) (cn : Nat), k ≤ i ∧ kv = .int .i64 k ∧ dv = .bool done ∧ nv = .slice an m cn ∧ InsP (xr, xc, xd, xg, xa, xn, xq) (sortR (rs.take i)) k done next ∧ OwnR wr wi.heap.size (.slice an m cn) next ∧ Below wi.heap.size wi wr) (fun _ _ kv _ => i - (intOf kv).toNat)
      case atStart => exact ⟨0, 0, false, [], _, _, Nat.zero_le _, rfl, rfl, rfl, .inl ⟨rfl, by simp, by simp⟩, ownR_empty wi _ (Nat.le_refl _), (Below.refl _ _).alloc (Nat.le_refl _) _⟩
      case round =>
        obtain ⟨k, m, done, next, an, cn, hki', rfl, rfl, rfl, hI, hNx, hq⟩ := hrel
        have HI : Hid (InsP (xr, xc, xd, xg, xa, xn, xq) (sortR (rs.take i)) k done next) := hI
        have HNx : Hid (OwnR wr wi.heap.size (.slice an m cn) next) := hNx
        have HQ : Hid (Below wi.heap.size wi wr) := hq
        have hml := hI.len (by rw [HSL.out]; exact hki')
        have hm2 : m = next.length := hNx.len
        have hmi : m ≤ 1001 := by
          have : done.toNat ≤ 1 := by cases done <;> decide
          omega
        have hcn1 := hNx.rws.2.1
        have hcn2 := hNx.rws.2.2.1
        unfold maxLen at hcn2
        have sq := hq.size
        obtain ⟨x0, x1, x2, x3, x4⟩ := HXA.out.below hq hbwi
        simp only at x0 x1 x2 x3 x4
        clear hI hNx hq hml hm2
        by_cases hki : k < i
        · have hks : k < (sortR (rs.take i)).length := by rw [HSL.out]; exact hki
          obtain ⟨⟨yr, yc, yd, yg, ya, yn, yq⟩, hy⟩ : ∃ y, y = (sortR (rs.take i)).getD k rw0 := ⟨_, rfl⟩
          have HY : Hid ((yr, yc, yd, yg, ya, yn, yq) = (sortR (rs.take i)).getD k rw0) := hy
          rcases HO.out.rws.2.2.2 with e | ⟨bo, oo, rfl, hbo, hol⟩
          · rw [e] at hks
            exact absurd hks (by simp)
          have HYA : Hid (RwAt wi bo (oo + k * 5) (yr, yc, yd, yg, ya, yn, yq)) := by
            show RwAt wi bo (oo + k * 5) (yr, yc, yd, yg, ya, yn, yq)
            rw [hy]
            exact hol k hks
          obtain ⟨y0, y1, y2, y3, y4⟩ := HYA.out.below HQ.out hbo
          simp only at y0 y1 y2 y3 y4
          clear hy hol
          cases done
          · rcases (show (xr < yr) ∨ (yr < xr) ∨ (yr = xr ∧ xc < yc) ∨ (yr = xr ∧ yc ≤ xc) from by omega) with m0 | m0 | ⟨m0, m1⟩ | ⟨m0, m1⟩
            · go_wp2_with fail
              go_quiet (fail)
              have HO0 : Hid (OwnR (wr.drewN nq) wi.heap.size (.slice an m cn) next) := own_below HNx.out (below_drewN (Below.refl wr.heap.size wr) nq)
              go_wp2_with (first | (at_builtin; refine wpList_append_own _ rfl (.tmp 63) (.tmp 68) 35 rfl wi.heap.size 41 i0 _ 5 56 Try.underlying35 hi hz0 hz1 hz2 rfl (by decide) _ _ _ rfl (HO0.out.row.alloc _) ⟨_, 0, none⟩ 1 1 [.int .i64 xr, .int .i64 xc, .int .i64 xd, .int .i64 xg, .slice xa xn xq] rfl rfl (cell_five_new _ _ _ _ _ _ _) (five_oneCell _ _ _ _ _ _ _) (by unfold maxLen; omega) (by omega) (by first | omega | (simp; omega)) ?_; intro v' w5 hown' hgrow _; obtain ⟨aw5, cw5, rfl, how5, hbw5⟩ := ownR_step (B := wi.heap.size) (w := wi) (s := (xr, xc, xd, xg, xa, xn, xq)) HO0.out (below_drewN HQ.out nq) (by first | omega | (simp; omega)) hown' hgrow; have HO1 : Hid (OwnR w5 wi.heap.size (.slice aw5 (m + 1) cw5) (next ++ [(xr, xc, xd, xg, xa, xn, xq)])) := how5; have sw5 := hbw5.size; obtain ⟨o0, o1, o2, o3, o4⟩ := HYA.out.below hbw5 hbo; clear how5 hown' hgrow) | (at_builtin; refine wpList_append_own _ rfl (.tmp 70) (.tmp 75) 35 rfl wi.heap.size 41 i0 _ 5 56 Try.underlying35 hi hz0 hz1 hz2 rfl (by decide) _ _ _ rfl (HO1.out.row.alloc _) ⟨_, 0, none⟩ 1 1 [.int .i64 yr, .int .i64 yc, .int .i64 yd, .int .i64 yg, .slice ya yn yq] rfl rfl (cell_five_new _ _ _ _ _ _ _) (five_oneCell _ _ _ _ _ _ _) (by unfold maxLen; omega) (by omega) (by first | omega | (simp; omega)) ?_; intro v' w6 hown' hgrow _; obtain ⟨aw6, cw6, rfl, how6, hbw6⟩ := ownR_step (B := wi.heap.size) (w := wi) (s := (yr, yc, yd, yg, ya, yn, yq)) HO1.out hbw5 (by first | omega | (simp; omega)) hown' hgrow))
              go_roundw
              case rel => exact ⟨k + 1, m + 1 + 1, true, _, aw6, cw6, by omega, by go_num, rfl, rfl, by rw [HY.out]; exact HI.out.put (by rw [HSL.out]; exact hki) (by rw [← HY.out]; exact decide_eq_true (by simp only; omega)), how6, hbw6⟩
              case measure => simp [intOf]; omega
            · have n1 : decide (xr < yr) = false := by simp; omega
              have n2 : (yr == xr) = false := by simp; omega
              go_wp2_with fail
              go_quiet (fail)
              have HO0 : Hid (OwnR (wr.drewN nq) wi.heap.size (.slice an m cn) next) := own_below HNx.out (below_drewN (Below.refl wr.heap.size wr) nq)
              go_wp2_with (at_builtin; refine wpList_append_own _ rfl (.tmp 70) (.tmp 75) 35 rfl wi.heap.size 41 i0 _ 5 56 Try.underlying35 hi hz0 hz1 hz2 rfl (by decide) _ _ _ rfl (HO0.out.row.alloc _) ⟨_, 0, none⟩ 1 1 [.int .i64 yr, .int .i64 yc, .int .i64 yd, .int .i64 yg, .slice ya yn yq] rfl rfl (cell_five_new _ _ _ _ _ _ _) (five_oneCell _ _ _ _ _ _ _) (by unfold maxLen; omega) (by omega) (by first | omega | (simp; omega)) ?_; intro v' w5 hown' hgrow _; obtain ⟨aw5, cw5, rfl, how5, hbw5⟩ := ownR_step (B := wi.heap.size) (w := wi) (s := (yr, yc, yd, yg, ya, yn, yq)) HO0.out (below_drewN HQ.out nq) (by first | omega | (simp; omega)) hown' hgrow)
              go_roundw
              case rel => exact ⟨k + 1, m + 1, false, _, aw5, cw5, by omega, by go_num, rfl, rfl, by rw [HY.out]; exact HI.out.skip hks (by rw [← HY.out]; exact decide_eq_false (by simp only; omega)), how5, hbw5⟩
              case measure => simp [intOf]; omega
            · subst m0
              have n1 : decide (yr < yr) = false := by simp
              go_wp2_with fail
              go_quiet (fail)
              have HO0 : Hid (OwnR (wr.drewN nq) wi.heap.size (.slice an m cn) next) := own_below HNx.out (below_drewN (Below.refl wr.heap.size wr) nq)
              go_wp2_with (first | (at_builtin; refine wpList_append_own _ rfl (.tmp 63) (.tmp 68) 35 rfl wi.heap.size 41 i0 _ 5 56 Try.underlying35 hi hz0 hz1 hz2 rfl (by decide) _ _ _ rfl (HO0.out.row.alloc _) ⟨_, 0, none⟩ 1 1 [.int .i64 yr, .int .i64 xc, .int .i64 xd, .int .i64 xg, .slice xa xn xq] rfl rfl (cell_five_new _ _ _ _ _ _ _) (five_oneCell _ _ _ _ _ _ _) (by unfold maxLen; omega) (by omega) (by first | omega | (simp; omega)) ?_; intro v' w5 hown' hgrow _; obtain ⟨aw5, cw5, rfl, how5, hbw5⟩ := ownR_step (B := wi.heap.size) (w := wi) (s := (yr, xc, xd, xg, xa, xn, xq)) HO0.out (below_drewN HQ.out nq) (by first | omega | (simp; omega)) hown' hgrow; have HO1 : Hid (OwnR w5 wi.heap.size (.slice aw5 (m + 1) cw5) (next ++ [(yr, xc, xd, xg, xa, xn, xq)])) := how5; have sw5 := hbw5.size; obtain ⟨o0, o1, o2, o3, o4⟩ := HYA.out.below hbw5 hbo; clear how5 hown' hgrow) | (at_builtin; refine wpList_append_own _ rfl (.tmp 70) (.tmp 75) 35 rfl wi.heap.size 41 i0 _ 5 56 Try.underlying35 hi hz0 hz1 hz2 rfl (by decide) _ _ _ rfl (HO1.out.row.alloc _) ⟨_, 0, none⟩ 1 1 [.int .i64 yr, .int .i64 yc, .int .i64 yd, .int .i64 yg, .slice ya yn yq] rfl rfl (cell_five_new _ _ _ _ _ _ _) (five_oneCell _ _ _ _ _ _ _) (by unfold maxLen; omega) (by omega) (by first | omega | (simp; omega)) ?_; intro v' w6 hown' hgrow _; obtain ⟨aw6, cw6, rfl, how6, hbw6⟩ := ownR_step (B := wi.heap.size) (w := wi) (s := (yr, yc, yd, yg, ya, yn, yq)) HO1.out hbw5 (by first | omega | (simp; omega)) hown' hgrow))
              go_roundw
              case rel => exact ⟨k + 1, m + 1 + 1, true, _, aw6, cw6, by omega, by go_num, rfl, rfl, by rw [HY.out]; exact HI.out.put (by rw [HSL.out]; exact hki) (by rw [← HY.out]; exact decide_eq_true (Or.inr ⟨rfl, m1⟩)), how6, hbw6⟩
              case measure => simp [intOf]; omega
            · subst m0
              have n1 : decide (yr < yr) = false := by simp
              have n3 : decide (xc < yc) = false := by simp; omega
              go_wp2_with fail
              go_quiet (fail)
              have HO0 : Hid (OwnR (wr.drewN nq) wi.heap.size (.slice an m cn) next) := own_below HNx.out (below_drewN (Below.refl wr.heap.size wr) nq)
              go_wp2_with (at_builtin; refine wpList_append_own _ rfl (.tmp 70) (.tmp 75) 35 rfl wi.heap.size 41 i0 _ 5 56 Try.underlying35 hi hz0 hz1 hz2 rfl (by decide) _ _ _ rfl (HO0.out.row.alloc _) ⟨_, 0, none⟩ 1 1 [.int .i64 yr, .int .i64 yc, .int .i64 yd, .int .i64 yg, .slice ya yn yq] rfl rfl (cell_five_new _ _ _ _ _ _ _) (five_oneCell _ _ _ _ _ _ _) (by unfold maxLen; omega) (by omega) (by first | omega | (simp; omega)) ?_; intro v' w5 hown' hgrow _; obtain ⟨aw5, cw5, rfl, how5, hbw5⟩ := ownR_step (B := wi.heap.size) (w := wi) (s := (yr, yc, yd, yg, ya, yn, yq)) HO0.out (below_drewN HQ.out nq) (by first | omega | (simp; omega)) hown' hgrow)
              go_roundw
              case rel => exact ⟨k + 1, m + 1, false, _, aw5, cw5, by omega, by go_num, rfl, rfl, by rw [HY.out]; exact HI.out.skip hks (by rw [← HY.out]; exact decide_eq_false (by simp only; omega)), how5, hbw5⟩
              case measure => simp [intOf]; omega
          · go_wp2_with fail
            go_quiet (fail)
            have HO0 : Hid (OwnR (wr.drewN nq) wi.heap.size (.slice an m cn) next) := own_below HNx.out (below_drewN (Below.refl wr.heap.size wr) nq)
            go_wp2_with (at_builtin; refine wpList_append_own _ rfl (.tmp 70) (.tmp 75) 35 rfl wi.heap.size 41 i0 _ 5 56 Try.underlying35 hi hz0 hz1 hz2 rfl (by decide) _ _ _ rfl (HO0.out.row.alloc _) ⟨_, 0, none⟩ 1 1 [.int .i64 yr, .int .i64 yc, .int .i64 yd, .int .i64 yg, .slice ya yn yq] rfl rfl (cell_five_new _ _ _ _ _ _ _) (five_oneCell _ _ _ _ _ _ _) (by unfold maxLen; omega) (by omega) (by first | omega | (simp; omega)) ?_; intro v' w5 hown' hgrow _; obtain ⟨aw5, cw5, rfl, how5, hbw5⟩ := ownR_step (B := wi.heap.size) (w := wi) (s := (yr, yc, yd, yg, ya, yn, yq)) HO0.out (below_drewN HQ.out nq) (by first | omega | (simp; omega)) hown' hgrow)
            go_roundw
            case rel => exact ⟨k + 1, m + 1, true, _, aw5, cw5, by omega, by go_num, rfl, rfl, by rw [HY.out]; exact HI.out.on hks, how5, hbw5⟩
            case measure => simp [intOf]; omega
        · have e : k = i := by omega
          subst e
          have HIF : Hid (InsP (xr, xc, xd, xg, xa, xn, xq) (sortR (rs.take k)) (sortR (rs.take k)).length done next) := by
            show InsP (xr, xc, xd, xg, xa, xn, xq) (sortR (rs.take k)) (sortR (rs.take k)).length done next
            rw [HSL.out]
            exact HI.out
          have HST : Hid (sortR (rs.take (k + 1)) = insR (xr, xc, xd, xg, xa, xn, xq) (sortR (rs.take k))) := by
            show sortR (rs.take (k + 1)) = _
            rw [sortR_take rs k hir, HX.out]
          cases done
          · go_wp2_with (at_builtin; refine wpList_append_own _ rfl (.tmp 79) (.tmp 84) 35 rfl wi.heap.size 41 i0 _ 5 56 Try.underlying35 hi hz0 hz1 hz2 rfl (by decide) _ _ _ rfl (HNx.out.row.alloc _) ⟨_, 0, none⟩ 1 1 [.int .i64 xr, .int .i64 xc, .int .i64 xd, .int .i64 xg, .slice xa xn xq] rfl rfl (cell_five_new _ _ _ _ _ _ _) (five_oneCell _ _ _ _ _ _ _) (by unfold maxLen; omega) (by omega) (by first | omega | (simp; omega)) ?_; intro v' w5 hown' hgrow _; obtain ⟨a5, c5, rfl, ho5, hb5⟩ := ownR_step (B := wi.heap.size) (w := wi) (s := (xr, xc, xd, xg, xa, xn, xq)) HNx.out HQ.out (by first | omega | (simp; omega)) hown' hgrow)
            go_roundw
            case rel =>
              have e1 := HIF.out.fin0
              rw [e1, ← HST.out] at ho5
              have e2 := ho5.len
              rw [sortR_len, List.length_take] at e2
              have e3 : m + 1 = k + 1 := by omega
              rw [e3] at ho5 ⊢
              exact ⟨k + 1, a5, c5, by omega, by go_num, rfl, own_less ho5 (by omega), HB.out.trans (hb5.mono (by omega))⟩
            case measure => simp [intOf]; omega
          · go_wp2_with fail
            go_roundw
            case rel =>
              have e1 := HIF.out.fin
              have ho5 := HNx.out
              rw [e1, ← HST.out] at ho5
              have e2 := ho5.len
              rw [sortR_len, List.length_take] at e2
              have e3 : m = k + 1 := by omega
              subst e3
              exact ⟨k + 1, an, cn, by omega, by go_num, rfl, own_less ho5 (by omega), HB.out.trans (HQ.out.mono (by omega))⟩
            case measure => simp [intOf]; omega
    · have e : i = n := by omega
      subst e
      go_wp2_with fail
      go_ret
      have ho := HO.out
      rw [List.take_of_length_le (by rw [HN.out]; exact Nat.le_refl _)] at ho
      exact ⟨⟨ao, co, rfl, ho⟩, HB.out⟩
end Go.Proofs.Ytcecmkideoodiaa
namespace Go.Proofs.Ytcecmkideoodiaa
open Go.RowKit

def sizeB (n : Int) : Bool := decide (1 ≤ n ∧ n ≤ 5)
set_option maxHeartbeats 400000 in
theorem sizeOk_is {n : Int} {x : Bool} (h : sizeB n = x) (w : World) :
    Calls Try.prog 117 #[.int .i64 n] w fun e w' => e = .returned (.bool x) ∧ w' = w := by
  subst h
  rcases (show (1 ≤ n ∧ n ≤ 5) ∨ (1 ≤ n ∧ ¬ n ≤ 5) ∨ (¬ 1 ≤ n) from by omega) with ⟨h0, h1⟩ | ⟨h0, h1⟩ | h0
  · rw [show sizeB n = true from decide_eq_true (by omega)]
    go_enter Try.func117, Try.ntmps117
    go_wp2
    go_ret
    exact ⟨rfl, rfl⟩
  all_goals
    rw [show sizeB n = false from decide_eq_false (by omega)]
    go_enter Try.func117, Try.ntmps117
    go_wp2
    go_ret
    exact ⟨rfl, rfl⟩

def spanB (f s e : Int) : Bool := decide (1 ≤ s ∧ s ≤ e ∧ 0 ≤ f ∧ f ≤ e - s)
set_option maxHeartbeats 800000 in
theorem span_is {f s e : Int} {x : Bool} (h : spanB f s e = x) (he : 1 ≤ e ∧ e ≤ 5) (w : World) :
    Calls Try.prog 123 #[.int .i64 f, .int .i64 s, .int .i64 e] w fun z w' => z = .returned (.bool x) ∧ w' = w := by
  subst h
  obtain ⟨he0, he1⟩ := he
  rcases (show (1 ≤ s ∧ s ≤ e ∧ 0 ≤ f ∧ f ≤ e - s) ∨ (1 ≤ s ∧ s ≤ e ∧ 0 ≤ f ∧ ¬ f ≤ e - s) ∨ (1 ≤ s ∧ s ≤ e ∧ ¬ 0 ≤ f) ∨ (1 ≤ s ∧ ¬ s ≤ e) ∨ (¬ 1 ≤ s) from by omega) with ⟨h0, h1, h2, h3⟩ | ⟨h0, h1, h2, h3⟩ | ⟨h0, h1, h2⟩ | ⟨h0, h1⟩ | h0
  · rw [show spanB f s e = true from decide_eq_true (by omega)]
    go_enter Try.func123, Try.ntmps123
    go_wp2
    go_ret
    exact ⟨rfl, rfl⟩
  all_goals
    rw [show spanB f s e = false from decide_eq_false (by omega)]
    go_enter Try.func123, Try.ntmps123
    go_wp2
    go_ret
    exact ⟨rfl, rfl⟩

/-- A rectangle's value. -/
def recV (r c d h : Int) : Array Value := #[.int .i64 r, .int .i64 c, .int .i64 d, .int .i64 h]
def withB (r c d h R C : Int) : Bool := spanB r d R && spanB c h C
set_option maxHeartbeats 800000 in
theorem within_is {r c d h R C : Int} {x : Bool} (hx : withB r c d h R C = x) (hR : 1 ≤ R ∧ R ≤ 5) (hC : 1 ≤ C ∧ C ≤ 5) (w : World) :
    Calls Try.prog 119 #[.agg #[.int .i64 r, .int .i64 c, .int .i64 d, .int .i64 h], .int .i64 R, .int .i64 C] w fun z w' => z = .returned (.bool x) ∧ Below w.heap.size w w' := by
  subst hx
  cases h0 : spanB r d R
  · rw [show withB r c d h R C = false from by simp [withB, h0]]
    have H0 : Hid (spanB r d R = false) := h0
    clear h0
    go_enter Try.func119, Try.ntmps119
    go_wp2_with (go_at_call 123; refine (span_is H0.out hR _).mono ?_; rintro e w' ⟨rfl, rfl⟩)
    go_ret
    exact ⟨rfl, (Below.refl _ _).alloc (Nat.le_refl _) _⟩
  · obtain ⟨y, hy⟩ : ∃ y, spanB c h C = y := ⟨_, rfl⟩
    rw [show withB r c d h R C = y from by simp [withB, h0, hy]]
    have H0 : Hid (spanB r d R = true) := h0
    have H1 : Hid (spanB c h C = y) := hy
    clear h0 hy
    go_enter Try.func119, Try.ntmps119
    go_wp2_with (first | (go_at_call_of 123 (Value.int IntKind.i64 r); refine (span_is H0.out hR _).mono ?_; rintro e w' ⟨rfl, rfl⟩) | (go_at_call_of 123 (Value.int IntKind.i64 c); refine (span_is H1.out hC _).mono ?_; rintro e w' ⟨rfl, rfl⟩))
    go_ret
    exact ⟨rfl, (Below.refl _ _).alloc (Nat.le_refl _) _⟩

def recB (r c d h a b : Int) : Bool := decide (r ≤ a ∧ a < r + d ∧ c ≤ b ∧ b < c + h)
set_option maxHeartbeats 1600000 in
theorem has_is {r c d h a b : Int} {x : Bool} (hx : recB r c d h a b = x) (hr : sml r) (hc : sml c) (hd : sml d) (hh : sml h) (w : World) :
    Calls Try.prog 126 #[.agg #[.int .i64 r, .int .i64 c, .int .i64 d, .int .i64 h], .int .i64 a, .int .i64 b] w fun z w' => z = .returned (.bool x) ∧ Below w.heap.size w w' := by
  subst hx
  obtain ⟨r0, r1⟩ := hr
  obtain ⟨c0, c1⟩ := hc
  obtain ⟨d0, d1⟩ := hd
  obtain ⟨e0, e1⟩ := hh
  go_enter Try.func126, Try.ntmps126
  go_wp2
  all_goals go_ret
  all_goals refine ⟨congrArg (fun x => Ending.returned (.bool x)) ?_, (Below.refl _ _).alloc (Nat.le_refl _) _⟩
  all_goals show _ = decide (r ≤ a ∧ a < r + d ∧ c ≤ b ∧ b < c + h)
  all_goals first | exact decide_eq_decide.2 (by omega) | exact (decide_eq_false (by omega)).symm

set_option maxHeartbeats 800000 in
theorem rectOf_any (r c d h : Int) (ta : Option Addr) (tn tc : Nat) (w : World) :
    Calls Try.prog 118 #[.agg #[.int .i64 r, .int .i64 c, .int .i64 d, .int .i64 h, .slice ta tn tc]] w fun z w' => z = .returned (.agg #[.int .i64 r, .int .i64 c, .int .i64 d, .int .i64 h]) ∧ Below w.heap.size w w' := by
  go_enter Try.func118, Try.ntmps118
  go_wp2
  refine bodyPost_ret (v := .agg #[.int .i64 r, .int .i64 c, .int .i64 d, .int .i64 h]) (by simp [results, Try.results118, go_sem]) rfl ⟨rfl, ?_⟩
  exact ((Below.refl _ _).alloc (Nat.le_refl _) _).alloc (by simp) _
end Go.Proofs.Ytcecmkideoodiaa
namespace Go.Proofs.Ytcecmkideoodiaa
open Go.RowKit

/-- A text as it lies: its slice. -/
abbrev Sl := Option Addr × Nat × Nat
def slV (s : Sl) : Value := .slice s.1 s.2.1 s.2.2
def sl0 : Sl := (none, 0, 0)
/-- A grid's value: rows, columns, cells, the squares' numbers, the numbers' texts. -/
def gridL (R C : Int) (n : Nat) (f : Nat → Nat) (t : Nat → Sl) : List Value :=
  .int .i64 R :: .int .i64 C :: .int .i64 n :: ((List.range 25).map (fun k => Value.int .i64 (f k)) ++ (List.range 26).map (fun k => slV (t k)))
def gridA (R C : Int) (n : Nat) (f : Nat → Nat) (t : Nat → Sl) : Array Value := (gridL R C n f t).toArray
def upd (f : Nat → Nat) (k v : Nat) : Nat → Nat := fun j => if j = k then v else f j
def updS (f : Nat → Sl) (k : Nat) (v : Sl) : Nat → Sl := fun j => if j = k then v else f j

theorem gridL_length (R C : Int) (n : Nat) (f : Nat → Nat) (t : Nat → Sl) : (gridL R C n f t).length = 54 := by simp [gridL]
theorem gridA_size (R C : Int) (n : Nat) (f : Nat → Nat) (t : Nat → Sl) : (gridA R C n f t).size = 54 := by simp [gridA, gridL_length]
theorem gridA_get (R C : Int) (n : Nat) (f : Nat → Nat) (t : Nat → Sl) (i : Nat) : (gridA R C n f t)[i]? = if i = 0 then some (.int .i64 R) else if i = 1 then some (.int .i64 C) else if i = 2 then some (.int .i64 n) else if i < 28 then some (.int .i64 (f (i - 3))) else if i < 54 then some (slV (t (i - 28))) else none := by
  simp only [gridA, List.getElem?_toArray, gridL]
  match i with
  | 0 => rfl
  | 1 => rfl
  | 2 => rfl
  | j + 3 =>
    simp only [List.getElem?_cons_succ]
    rw [if_neg (by omega), if_neg (by omega), if_neg (by omega)]
    by_cases h : j < 25
    · rw [List.getElem?_append_left (by simpa using h), if_pos (by omega)]
      simp [h]
    · rw [List.getElem?_append_right (by simp; omega), if_neg (by omega)]
      simp only [List.length_map, List.length_range, List.getElem?_map]
      by_cases h2 : j < 51
      · rw [if_pos (by omega), show j + 3 - 28 = j - 25 from by omega]
        simp [show j - 25 < 26 from by omega]
      · rw [if_neg (by omega), List.getElem?_eq_none (by simp; omega)]
        rfl
theorem gridA_num (R C : Int) (n : Nat) (f : Nat → Nat) (t : Nat → Sl) (k : Nat) (hk : k < 25) : (gridA R C n f t)[3 + k]? = some (.int .i64 (f k)) := by
  rw [gridA_get, if_neg (by omega), if_neg (by omega), if_neg (by omega), if_pos (by omega), show 3 + k - 3 = k from by omega]
theorem gridA_txt (R C : Int) (n : Nat) (f : Nat → Nat) (t : Nat → Sl) (k : Nat) (hk : k < 26) : (gridA R C n f t)[28 + k]? = some (slV (t k)) := by
  rw [gridA_get, if_neg (by omega), if_neg (by omega), if_neg (by omega), if_neg (by omega), if_pos (by omega), show 28 + k - 28 = k from by omega]
theorem gridA_set_num (R C : Int) (n : Nat) (f : Nat → Nat) (t : Nat → Sl) (k v : Nat) (hk : k < 25) : (gridA R C n f t).setIfInBounds (3 + k) (.int .i64 v) = gridA R C n (upd f k v) t := by
  apply Array.ext_getElem?
  intro i
  rw [Array.getElem?_setIfInBounds, gridA_get, gridA_get, gridA_size]
  by_cases h : 3 + k = i
  · subst h
    simp only [if_pos, show 3 + k < 54 from by omega, show ¬ 3 + k = 0 from by omega, show ¬ 3 + k = 1 from by omega, show ¬ 3 + k = 2 from by omega, show 3 + k < 28 from by omega, if_false, upd, show 3 + k - 3 = k from by omega]
  · rw [if_neg h]
    simp only [upd]
    by_cases h3 : i < 3
    · match i, h3 with
      | 0, _ => rfl
      | 1, _ => rfl
      | 2, _ => rfl
    · rw [if_neg (show ¬ i - 3 = k from by omega)]
theorem gridA_set_txt (R C : Int) (n : Nat) (f : Nat → Nat) (t : Nat → Sl) (k : Nat) (v : Sl) (hk : k < 26) : (gridA R C n f t).setIfInBounds (28 + k) (slV v) = gridA R C n f (updS t k v) := by
  apply Array.ext_getElem?
  intro i
  rw [Array.getElem?_setIfInBounds, gridA_get, gridA_get, gridA_size]
  by_cases h : 28 + k = i
  · subst h
    simp only [if_pos, show 28 + k < 54 from by omega, show ¬ 28 + k = 0 from by omega, show ¬ 28 + k = 1 from by omega, show ¬ 28 + k = 2 from by omega, show ¬ 28 + k < 28 from by omega, if_false, updS, show 28 + k - 28 = k from by omega]
  · rw [if_neg h]
    simp only [updS]
    by_cases h3 : i < 28
    · simp only [if_pos h3]
    · rw [if_neg (show ¬ i - 28 = k from by omega)]
theorem gridA_set_cells (R C : Int) (n m : Nat) (f : Nat → Nat) (t : Nat → Sl) : (gridA R C n f t).setIfInBounds 2 (.int .i64 m) = gridA R C m f t := by
  apply Array.ext_getElem?
  intro i
  rw [Array.getElem?_setIfInBounds, gridA_get, gridA_get, gridA_size]
  by_cases h : 2 = i
  · subst h; rfl
  · rw [if_neg h]
    by_cases h3 : i = 2
    · exact absurd h3.symm h
    · simp only [if_neg h3]
theorem gridA_one (R C : Int) (n : Nat) (f : Nat → Nat) (t : Nat → Sl) : (gridA R C n f t).all (·.oneCell') = true := by
  refine Array.all_eq_true_iff_forall_mem.2 ?_
  intro v hv
  simp only [gridA, List.mem_toArray, gridL, List.mem_cons, List.mem_append, List.mem_map] at hv
  rcases hv with rfl | rfl | rfl | ⟨k, _, rfl⟩ | ⟨k, _, rfl⟩ <;> rfl

/-- A grid that lies in a block of its own. -/
def GridAt (w : World) (b : Nat) (R C : Int) (n : Nat) (f : Nat → Nat) (t : Nat → Sl) : Prop := RowAt w b (gridA R C n f t) 189
section
variable {w w' : World} {b : Nat} {R C : Int} {n : Nat} {f : Nat → Nat} {t : Nat → Sl}
theorem GridAt.lt (h : GridAt w b R C n f t) : b < w.heap.size := RowAt.lt h
theorem GridAt.rows (h : GridAt w b R C n f t) : w.cell? ⟨b, 0, none⟩ = some (.int .i64 R) := by rw [RowAt.cell h, gridA_get]; rfl
theorem GridAt.cols (h : GridAt w b R C n f t) : w.cell? ⟨b, 1, none⟩ = some (.int .i64 C) := by rw [RowAt.cell h, gridA_get]; rfl
theorem GridAt.cells (h : GridAt w b R C n f t) : w.cell? ⟨b, 2, none⟩ = some (.int .i64 n) := by rw [RowAt.cell h, gridA_get]; rfl
theorem GridAt.num (h : GridAt w b R C n f t) (k : Nat) (hk : k < 25) : w.cell? ⟨b, 3 + k, none⟩ = some (.int .i64 (f k)) := by rw [RowAt.cell h, gridA_num _ _ _ _ _ _ hk]
theorem GridAt.txt (h : GridAt w b R C n f t) (k : Nat) (hk : k < 26) : w.cell? ⟨b, 28 + k, none⟩ = some (slV (t k)) := by rw [RowAt.cell h, gridA_txt _ _ _ _ _ _ hk]
theorem GridAt.frozen (h : GridAt w b R C n f t) (o : Nat) : w.frozen? ⟨b, o, none⟩ = false := RowAt.frozen h o
theorem GridAt.below (h : GridAt w b R C n f t) {B : Nat} (hb : Below B w w') (hB : b < B) : GridAt w' b R C n f t := RowAt.below h hb hB
theorem GridAt.alloc (h : GridAt w b R C n f t) (o : Obj) : GridAt (w.alloc o) b R C n f t := RowAt.alloc h o
theorem GridAt.setNum (h : GridAt w b R C n f t) (k v : Nat) (hk : k < 25) : GridAt (w.setCell ⟨b, 3 + k, none⟩ (.int .i64 v)) b R C n (upd f k v) t := by
  unfold GridAt
  rw [← gridA_set_num _ _ _ _ _ _ _ hk]
  exact RowAt.setCell h _ _
theorem GridAt.setTxt (h : GridAt w b R C n f t) (k : Nat) (v : Sl) (hk : k < 26) : GridAt (w.setCell ⟨b, 28 + k, none⟩ (slV v)) b R C n f (updS t k v) := by
  unfold GridAt
  rw [← gridA_set_txt _ _ _ _ _ _ _ hk]
  exact RowAt.setCell h _ _
theorem GridAt.setCells (h : GridAt w b R C n f t) (m : Nat) : GridAt (w.setCell ⟨b, 2, none⟩ (.int .i64 m)) b R C m f t := by
  unfold GridAt
  rw [← gridA_set_cells R C n m]
  exact RowAt.setCell h _ _
theorem GridAt.other (h : GridAt w b R C n f t) (a : Addr) (u : Value) (hb : b ≠ a.block) : GridAt (w.setCell a u) b R C n f t := RowAt.other h a u hb
end
theorem gridAt_new (w : World) (R C : Int) (n : Nat) (f : Nat → Nat) (t : Nat → Sl) : GridAt (w.alloc (.cells (gridA R C n f t) 189)) w.heap.size R C n f t := rowAt_new _ _ _
/-- A rectangle that lies in a block of its own. -/
def RectAt (w : World) (b : Nat) (r c d h : Int) : Prop := RowAt w b #[.int .i64 r, .int .i64 c, .int .i64 d, .int .i64 h] 193
section
variable {w w' : World} {b : Nat} {r c d g : Int}
theorem RectAt.c0 (h : RectAt w b r c d g) : w.cell? ⟨b, 0, none⟩ = some (.int .i64 r) := RowAt.cell h 0
theorem RectAt.c1 (h : RectAt w b r c d g) : w.cell? ⟨b, 1, none⟩ = some (.int .i64 c) := RowAt.cell h 1
theorem RectAt.c2 (h : RectAt w b r c d g) : w.cell? ⟨b, 2, none⟩ = some (.int .i64 d) := RowAt.cell h 2
theorem RectAt.c3 (h : RectAt w b r c d g) : w.cell? ⟨b, 3, none⟩ = some (.int .i64 g) := RowAt.cell h 3
end
theorem grid_info : (Try.prog.info? 189).map (·.size) = some 54 := by kernel_rfl
theorem grid_infoA (R C : Int) (n : Nat) (f : Nat → Nat) (t : Nat → Sl) : (Try.prog.info? 189).map (·.size) = some (gridA R C n f t).size := by rw [gridA_size]; exact grid_info
end Go.Proofs.Ytcecmkideoodiaa
namespace Go.Proofs.Ytcecmkideoodiaa
open Go.RowKit

/-- The squares ahead of a place, going through all rows. -/
def vis (i j : Nat) (C : Nat) (a b : Nat) : Prop := b < C ∧ (a < i ∨ a = i ∧ b < j)
def inR (r c d h a b : Nat) : Prop := r ≤ a ∧ a < r + d ∧ c ≤ b ∧ b < c + h
/-- A number whose bits are the numbers of some squares. -/
def Mask (x : Nat) (f : Nat → Nat) (p : Nat → Nat → Prop) : Prop := x < 2 ^ 26 ∧ ∀ k, x.testBit k = true ↔ ∃ a b, p a b ∧ f (a * 5 + b) = k

theorem or_nat (y p : Nat) (hy : y < 2 ^ 26) (hp : p < 2 ^ 26) : bits .or .u32 (y : Int) (p : Int) = ((y ||| p : Nat) : Int) := by
  have ho : y ||| p < 2 ^ 26 := Nat.or_lt_two_pow hy hp
  show IntKind.u32.wrap (((BitVec.ofInt 32 (y : Int)) ||| (BitVec.ofInt 32 (p : Int))).toNat : Int) = _
  rw [BitVec.ofInt_natCast, BitVec.ofInt_natCast, BitVec.toNat_or, BitVec.toNat_ofNat, BitVec.toNat_ofNat, Nat.mod_eq_of_lt (a := y) (by omega), Nat.mod_eq_of_lt (a := p) (by omega)]
  generalize y ||| p = z at ho ⊢
  simp only [IntKind.wrap, IntKind.bits, IntKind.signed]
  simp
  omega
theorem pow_lt26 {m : Nat} (hm : m ≤ 25) : 2 ^ m < 2 ^ 26 := Nat.pow_lt_pow_right (by decide) (by omega)
theorem pow_mod (m : Nat) (hm : m ≤ 25) : ((2 : Int) ^ m % 4294967296) = ((2 ^ m : Nat) : Int) := by
  have hp := pow_lt26 hm
  rw [show ((2 : Int) ^ m) = ((2 ^ m : Nat) : Int) from by simp]
  generalize 2 ^ m = p at hp ⊢
  omega
theorem or_pow (y m : Nat) (hy : y < 2 ^ 26) (hm : m ≤ 25) : bits .or .u32 (y : Int) (2 ^ m % 4294967296) = ((y ||| 2 ^ m : Nat) : Int) := by
  rw [pow_mod m hm, or_nat y _ hy (pow_lt26 hm)]
theorem Mask.snoc {y m a0 b0 : Nat} {f : Nat → Nat} {p q : Nat → Nat → Prop} (h : Mask y f p) (hm : m ≤ 25) (hf : f (a0 * 5 + b0) = m) (hp : ∀ a b, q a b ↔ p a b ∨ (a = a0 ∧ b = b0)) : Mask (y ||| 2 ^ m) f q := by
  refine ⟨Nat.or_lt_two_pow h.1 (Nat.pow_lt_pow_right (by decide) (by omega)), ?_⟩
  intro k
  rw [Nat.testBit_or, Bool.or_eq_true, h.2 k, Nat.testBit_two_pow, decide_eq_true_eq]
  constructor
  · rintro (⟨a, b, h1, h2⟩ | rfl)
    · exact ⟨a, b, (hp a b).2 (.inl h1), h2⟩
    · exact ⟨a0, b0, (hp a0 b0).2 (.inr ⟨rfl, rfl⟩), hf⟩
  · rintro ⟨a, b, h1, h2⟩
    rcases (hp a b).1 h1 with h3 | ⟨rfl, rfl⟩
    · exact .inl ⟨a, b, h3, h2⟩
    · exact .inr (hf.symm.trans h2)
theorem Mask.same {y : Nat} {f : Nat → Nat} {p q : Nat → Nat → Prop} (h : Mask y f p) (hp : ∀ a b, q a b ↔ p a b) : Mask y f q := by
  refine ⟨h.1, fun k => ?_⟩
  rw [h.2 k]
  simp only [hp]
theorem Mask.zero {f : Nat → Nat} {p : Nat → Nat → Prop} (hp : ∀ a b, ¬ p a b) : Mask 0 f p := by
  refine ⟨by decide, fun k => ?_⟩
  simp only [Nat.zero_testBit, Bool.false_eq_true, false_iff]
  rintro ⟨a, b, h, _⟩
  exact hp a b h
theorem recB_true {r c d h a b : Nat} (e : recB r c d h a b = true) : inR r c d h a b := by
  have := of_decide_eq_true e
  unfold inR
  omega
theorem recB_false {r c d h a b : Nat} (e : recB r c d h a b = false) : ¬ inR r c d h a b := by
  have := of_decide_eq_false e
  unfold inR
  omega

set_option maxRecDepth 100000 in
set_option maxHeartbeats 4000000 in
theorem parted_any (R C n : Nat) (f : Nat → Nat) (t : Nat → Sl) (r c d h : Nat) (w : World) (hR : R ≤ 5) (hC : C ≤ 5) (hr : r + d ≤ 5) (hc : c + h ≤ 5) (hf : ∀ k, f k ≤ 25) :
    Calls Try.prog 124 #[.agg (gridA R C n f t), .agg #[.int .i64 r, .int .i64 c, .int .i64 d, .int .i64 h]] w fun z w' => (∃ x y : Nat, z = .returned (.tuple #[.int .u32 x, .int .u32 y]) ∧ Mask x f (fun a b => vis R 0 C a b ∧ inR r c d h a b) ∧ Mask y f (fun a b => vis R 0 C a b ∧ ¬ inR r c d h a b)) ∧ Below w.heap.size w w' := by
  go_enter Try.func124, Try.ntmps124
  go_upto_region 1 with fail
  have B0 : Below w.heap.size w ((w.alloc (.cells (gridA R C n f t) 189)).alloc (.cells #[.int .i64 r, .int .i64 c, .int .i64 d, .int .i64 h] 193)) := (((Below.refl _ _).alloc (Nat.le_refl _) _).alloc (by simp) _)
  have G0 : GridAt ((w.alloc (.cells (gridA R C n f t) 189)).alloc (.cells #[.int .i64 r, .int .i64 c, .int .i64 d, .int .i64 h] 193)) w.heap.size R C n f t := (gridAt_new w R C n f t).alloc _
  have G2 : RectAt ((w.alloc (.cells (gridA R C n f t) 189)).alloc (.cells #[.int .i64 r, .int .i64 c, .int .i64 d, .int .i64 h] 193)) (w.heap.size + 1) r c d h := by
    have := (rowAt_new (w.alloc (.cells (gridA R C n f t) 189)) #[.int .i64 r, .int .i64 c, .int .i64 d, .int .i64 h] 193)
    simpa [RectAt] using this
  generalize ((w.alloc (.cells (gridA R C n f t) 189)).alloc (.cells #[.int .i64 r, .int .i64 c, .int .i64 d, .int .i64 h] 193)) = v0 at B0 G0 G2 ⊢
  have k0 := G0.rows
  go_wp2_with fail
  go_loopw [4, 5, 11] (fun xv yv iv wr => ∃ i x y : Nat, i ≤ R ∧ iv = .int .i64 i ∧ xv = .int .u32 x ∧ yv = .int .u32 y ∧ Mask x f (fun a b => vis i 0 C a b ∧ inR r c d h a b) ∧ Mask y f (fun a b => vis i 0 C a b ∧ ¬ inR r c d h a b) ∧ Below v0.heap.size v0 wr) (fun _ _ iv _ => R - (intOf iv).toNat)
  case atStart => exact ⟨0, 0, 0, Nat.zero_le _, rfl, rfl, rfl, Mask.zero (fun a b hh => by simp [vis] at hh), Mask.zero (fun a b hh => by simp [vis] at hh), Below.refl _ _⟩
  case round =>
    clear k0
    obtain ⟨i, x, y, hi, rfl, rfl, rfl, hx, hy, hb⟩ := hrel
    have HX : Hid (Mask x f (fun a b => vis i 0 C a b ∧ inR r c d h a b)) := hx
    have HY : Hid (Mask y f (fun a b => vis i 0 C a b ∧ ¬ inR r c d h a b)) := hy
    have HG : Hid (GridAt wr w.heap.size R C n f t) := G0.below hb G0.lt
    have HQ : Hid (RectAt wr (w.heap.size + 1) r c d h) := RowAt.below G2 hb (RowAt.lt G2)
    have HB : Hid (Below v0.heap.size v0 wr) := hb
    have k1 := HG.out.cols
    clear hx hy hb
    by_cases hlt : i < R
    · have b0 : (i : Int) < 5 := by omega
      have b1 : (C : Int) ≤ 5 := by omega
      go_wp2_with fail
      go_quiet (fail)
      go_wp2_with fail
      go_loopw [4, 5, 21] (fun xv yv jv wq => ∃ j x y : Nat, j ≤ C ∧ jv = .int .i64 j ∧ xv = .int .u32 x ∧ yv = .int .u32 y ∧ Mask x f (fun a b => vis i j C a b ∧ inR r c d h a b) ∧ Mask y f (fun a b => vis i j C a b ∧ ¬ inR r c d h a b) ∧ Below v0.heap.size v0 wq) (fun _ _ jv _ => C - (intOf jv).toNat)
      case atStart => exact ⟨0, x, y, Nat.zero_le _, rfl, rfl, rfl, HX.out, HY.out, below_drewN HB.out _⟩
      case round =>
        clear HX HY HG HQ HB k1
        obtain ⟨j, x, y, hj, rfl, rfl, rfl, hx, hy, hb⟩ := hrel
        have HX : Hid (Mask x f (fun a b => vis i j C a b ∧ inR r c d h a b)) := hx
        have HY : Hid (Mask y f (fun a b => vis i j C a b ∧ ¬ inR r c d h a b)) := hy
        have HB : Hid (Below v0.heap.size v0 wr) := hb
        by_cases hlj : j < C
        · have k1 := (G0.below hb G0.lt).num (i * 5 + j) (by omega)
          have HQ : RectAt wr (w.heap.size + 1) r c d h := RowAt.below G2 hb (RowAt.lt G2)
          have hm := hf (i * 5 + j)
          obtain ⟨m, HM⟩ : ∃ m, Hid (f (i * 5 + j) = m) := ⟨_, rfl⟩
          rw [← Nat.add_assoc, HM.out] at k1
          rw [HM.out] at hm
          have e0 := HQ.c0
          have e1 := HQ.c1
          have e2 := HQ.c2
          have e3 := HQ.c3
          have sz := hb.size
          clear hx hy hb HQ
          cases hz : recB r c d h i j
          · have HH : Hid (recB r c d h i j = false) := hz
            clear hz
            go_wp2_with (go_at_call 126; refine (has_is HH.out ⟨by omega, by omega⟩ ⟨by omega, by omega⟩ ⟨by omega, by omega⟩ ⟨by omega, by omega⟩ _).mono ?_; rintro e w4 ⟨rfl, hb4⟩)
            go_roundw
            case rel =>
              refine ⟨j + 1, x, y ||| 2 ^ m, by omega, by go_num, rfl, by rw [or_pow y m HY.out.1 hm], HX.out.same ?_, HY.out.snoc hm HM.out ?_, HB.out.trans (hb4.mono sz)⟩
              · intro a b
                have hn := recB_false HH.out
                constructor
                · rintro ⟨⟨h1, h2⟩, h3⟩
                  refine ⟨⟨h1, ?_⟩, h3⟩
                  rcases h2 with h2 | ⟨rfl, h2⟩
                  · exact .inl h2
                  · refine .inr ⟨rfl, ?_⟩
                    rcases Nat.lt_or_ge b j with h4 | h4
                    · exact h4
                    · obtain rfl : b = j := by omega
                      exact absurd h3 hn
                · rintro ⟨⟨h1, h2⟩, h3⟩
                  exact ⟨⟨h1, by omega⟩, h3⟩
              · intro a b
                have hn := recB_false HH.out
                constructor
                · rintro ⟨⟨h1, h2⟩, h3⟩
                  by_cases h4 : a = i ∧ b = j
                  · exact .inr h4
                  · exact .inl ⟨⟨h1, by omega⟩, h3⟩
                · rintro (⟨⟨h1, h2⟩, h3⟩ | ⟨rfl, rfl⟩)
                  · exact ⟨⟨h1, by omega⟩, h3⟩
                  · exact ⟨⟨hlj, by omega⟩, hn⟩
            case measure => simp [intOf]; omega
          · have HH : Hid (recB r c d h i j = true) := hz
            clear hz
            go_wp2_with (go_at_call 126; refine (has_is HH.out ⟨by omega, by omega⟩ ⟨by omega, by omega⟩ ⟨by omega, by omega⟩ ⟨by omega, by omega⟩ _).mono ?_; rintro e w4 ⟨rfl, hb4⟩)
            go_roundw
            case rel =>
              refine ⟨j + 1, x ||| 2 ^ m, y, by omega, by go_num, by rw [or_pow x m HX.out.1 hm], rfl, HX.out.snoc hm HM.out ?_, HY.out.same ?_, HB.out.trans (hb4.mono sz)⟩
              · intro a b
                have hn := recB_true HH.out
                constructor
                · rintro ⟨⟨h1, h2⟩, h3⟩
                  by_cases h4 : a = i ∧ b = j
                  · exact .inr h4
                  · exact .inl ⟨⟨h1, by omega⟩, h3⟩
                · rintro (⟨⟨h1, h2⟩, h3⟩ | ⟨rfl, rfl⟩)
                  · exact ⟨⟨h1, by omega⟩, h3⟩
                  · exact ⟨⟨hlj, by omega⟩, hn⟩
              · intro a b
                have hn := recB_true HH.out
                constructor
                · rintro ⟨⟨h1, h2⟩, h3⟩
                  refine ⟨⟨h1, ?_⟩, h3⟩
                  rcases h2 with h2 | ⟨rfl, h2⟩
                  · exact .inl h2
                  · refine .inr ⟨rfl, ?_⟩
                    rcases Nat.lt_or_ge b j with h4 | h4
                    · exact h4
                    · obtain rfl : b = j := by omega
                      exact absurd hn h3
                · rintro ⟨⟨h1, h2⟩, h3⟩
                  exact ⟨⟨h1, by omega⟩, h3⟩
            case measure => simp [intOf]; omega
        · clear hx hy hb
          go_wp2_with fail
          go_roundw
          case rel =>
            refine ⟨i + 1, x, y, by omega, by go_num, rfl, rfl, HX.out.same ?_, HY.out.same ?_, HB.out⟩
            · intro a b
              exact and_congr_left' (by unfold vis; omega)
            · intro a b
              exact and_congr_left' (by unfold vis; omega)
          case measure => simp [intOf]; omega
    · go_wp2_with fail
      refine bodyPost_ret (v := .tuple #[.int .u32 x, .int .u32 y]) (by simp [results, Try.results124, go_sem]) rfl ⟨⟨x, y, rfl, ?_, ?_⟩, B0.trans (HB.out.mono B0.size)⟩
      · obtain rfl : i = R := by omega
        exact HX.out
      · obtain rfl : i = R := by omega
        exact HY.out
end Go.Proofs.Ytcecmkideoodiaa
namespace Go.Proofs.Ytcecmkideoodiaa
open Go.RowKit

/-- Each square is of a cell, and going through all squares each number is met behind all lesser ones. -/
def Tiles (R C : Nat) (f : Nat → Nat) : Prop := ∀ a b, vis R 0 C a b → 1 ≤ f (a * 5 + b) ∧ ∀ k, 1 ≤ k → k < f (a * 5 + b) → ∃ a' b', vis a b C a' b' ∧ f (a' * 5 + b') = k
/-- So far, and m is the greatest number met. -/
def Met (C : Nat) (f : Nat → Nat) (i j m : Nat) : Prop :=
  (∀ a b, vis i j C a b → (1 ≤ f (a * 5 + b) ∧ f (a * 5 + b) ≤ m) ∧ ∀ k, 1 ≤ k → k < f (a * 5 + b) → ∃ a' b', vis a b C a' b' ∧ f (a' * 5 + b') = k) ∧ (∀ k, 1 ≤ k → k ≤ m → ∃ a b, vis i j C a b ∧ f (a * 5 + b) = k)
theorem Met.row {C : Nat} {f : Nat → Nat} {i m : Nat} (h : Met C f i C m) : Met C f (i + 1) 0 m := by
  refine ⟨fun a b hv => h.1 a b ?_, fun k h1 h2 => ?_⟩
  · unfold vis at hv ⊢
    omega
  · obtain ⟨a, b, h3, h4⟩ := h.2 k h1 h2
    exact ⟨a, b, by unfold vis at h3 ⊢; omega, h4⟩
theorem Met.next {C : Nat} {f : Nat → Nat} {i j m : Nat} (h : Met C f i j m) (hj : j < C) (h0 : 1 ≤ f (i * 5 + j)) (h1 : f (i * 5 + j) ≤ m + 1) : Met C f i (j + 1) (max m (f (i * 5 + j))) := by
  refine ⟨fun a b hv => ?_, fun k k1 k2 => ?_⟩
  · by_cases hh : a = i ∧ b = j
    · obtain ⟨rfl, rfl⟩ := hh
      refine ⟨⟨h0, Nat.le_max_right _ _⟩, fun k k1 k2 => ?_⟩
      exact h.2 k k1 (by omega)
    · obtain ⟨⟨h2, h3⟩, h4⟩ := h.1 a b (by unfold vis at hv ⊢; omega)
      exact ⟨⟨h2, Nat.le_trans h3 (Nat.le_max_left _ _)⟩, h4⟩
  · by_cases hk : k ≤ m
    · obtain ⟨a, b, h3, h4⟩ := h.2 k k1 hk
      exact ⟨a, b, by unfold vis at h3 ⊢; omega, h4⟩
    · exact ⟨i, j, by unfold vis; omega, by omega⟩
theorem Met.zero (C : Nat) (f : Nat → Nat) : Met C f 0 0 0 := by
  refine ⟨fun a b hv => ?_, fun k k1 k2 => by omega⟩
  unfold vis at hv
  omega
theorem Met.bad {R C : Nat} {f : Nat → Nat} {i j m : Nat} (h : Met C f i j m) (hi : i < R) (hj : j < C) (hb : f (i * 5 + j) = 0 ∨ m + 1 < f (i * 5 + j)) : ¬ Tiles R C f := by
  intro ht
  obtain ⟨h1, h2⟩ := ht i j (by unfold vis; omega)
  rcases hb with hb | hb
  · omega
  · obtain ⟨a, b, h3, h4⟩ := h2 (m + 1) (by omega) hb
    have := (h.1 a b h3).1.2
    omega
theorem Met.good {R C : Nat} {f : Nat → Nat} {m : Nat} (h : Met C f R 0 m) : Tiles R C f := fun a b hv => ⟨(h.1 a b hv).1.1, (h.1 a b hv).2⟩

set_option maxRecDepth 100000 in
set_option maxHeartbeats 4000000 in
theorem isTiled_is {R C n : Nat} {f : Nat → Nat} {t : Nat → Sl} {w : World} {x : Bool} (hx : x = true ↔ Tiles R C f) (hR : R ≤ 5) (hC : C ≤ 5) (hf : ∀ k, f k ≤ 25) :
    Calls Try.prog 122 #[.agg (gridA R C n f t)] w fun z w' => z = .returned (.bool x) ∧ Below w.heap.size w w' := by
  have HX : Hid (x = true ↔ Tiles R C f) := hx
  clear hx
  go_enter Try.func122, Try.ntmps122
  go_upto_region 1 with fail
  have B0 : Below w.heap.size w (w.alloc (.cells (gridA R C n f t) 189)) := (Below.refl _ _).alloc (Nat.le_refl _) _
  have G0 : GridAt (w.alloc (.cells (gridA R C n f t) 189)) w.heap.size R C n f t := gridAt_new w R C n f t
  generalize (w.alloc (.cells (gridA R C n f t) 189)) = v0 at B0 G0 ⊢
  have k0 := G0.rows
  go_wp2_with fail
  go_loopw [3, 9] (fun mv iv wr => ∃ i m : Nat, i ≤ R ∧ m ≤ 25 ∧ iv = .int .i64 i ∧ mv = .int .i64 m ∧ Met C f i 0 m ∧ Below v0.heap.size v0 wr) (fun _ iv _ => R - (intOf iv).toNat)
  case atStart => exact ⟨0, 0, Nat.zero_le _, Nat.zero_le _, rfl, rfl, Met.zero C f, Below.refl _ _⟩
  case round =>
    clear k0
    obtain ⟨i, m, hi, hm, rfl, rfl, hM, hb⟩ := hrel
    have HM : Hid (Met C f i 0 m) := hM
    have HB : Hid (Below v0.heap.size v0 wr) := hb
    have k1 := (G0.below hb G0.lt).cols
    clear hM hb
    by_cases hlt : i < R
    · have b0 : (i : Int) < 5 := by omega
      have b1 : (C : Int) ≤ 5 := by omega
      go_wp2_with fail
      go_quiet (fail)
      go_wp2_with fail
      go_loopw [3, 19] (fun mv jv wr => ∃ j m : Nat, j ≤ C ∧ m ≤ 25 ∧ jv = .int .i64 j ∧ mv = .int .i64 m ∧ Met C f i j m ∧ Below v0.heap.size v0 wr) (fun _ jv _ => C - (intOf jv).toNat)
      case atStart => exact ⟨0, m, Nat.zero_le _, hm, rfl, rfl, HM.out, below_drewN HB.out _⟩
      case round =>
        clear HM HB k1
        obtain ⟨j, m, hj, hm, rfl, rfl, hM, hb⟩ := hrel
        have HM : Hid (Met C f i j m) := hM
        have HB : Hid (Below v0.heap.size v0 wr) := hb
        by_cases hlj : j < C
        · have k1 := (G0.below hb G0.lt).num (i * 5 + j) (by omega)
          have hq := hf (i * 5 + j)
          obtain ⟨q, HQ⟩ : ∃ q, Hid (f (i * 5 + j) = q) := ⟨_, rfl⟩
          rw [← Nat.add_assoc, HQ.out] at k1
          rw [HQ.out] at hq
          clear hM hb
          rcases (show q = 0 ∨ (¬ q = 0 ∧ m + 1 < q) ∨ (¬ q = 0 ∧ q ≤ m + 1) from by omega) with rfl | ⟨q0, q1⟩ | ⟨q0, q1⟩
          · go_wp2_with fail
            go_ret
            refine ⟨congrArg (fun b => Ending.returned (.bool b)) ?_, B0.trans (HB.out.mono B0.size)⟩
            show false = x
            cases x
            · rfl
            · exact absurd (HX.out.1 rfl) (HM.out.bad hlt hlj (.inl HQ.out))
          · have n0 : ((q : Int) == 0) = false := by simp; omega
            have n1 : (m : Int) + 1 < (q : Int) := by omega
            go_wp2_with fail
            go_ret
            refine ⟨congrArg (fun b => Ending.returned (.bool b)) ?_, B0.trans (HB.out.mono B0.size)⟩
            show false = x
            cases x
            · rfl
            · exact absurd (HX.out.1 rfl) (HM.out.bad hlt hlj (.inr (by rw [HQ.out]; exact q1)))
          · have n0 : ((q : Int) == 0) = false := by simp; omega
            have n1 : ¬ (m : Int) + 1 < (q : Int) := by omega
            go_wp2_with fail
            go_roundw
            case rel =>
              have hN := HM.out.next hlj (by rw [HQ.out]; omega) (by rw [HQ.out]; omega)
              rw [HQ.out] at hN
              refine ⟨j + 1, max m q, by omega, by omega, by go_num, ?_, hN, HB.out⟩
              by_cases hmq : m < q
              · rw [if_pos hmq, Nat.max_eq_right (by omega)]
              · rw [if_neg hmq, Nat.max_eq_left (by omega)]
            case measure => simp [intOf]; omega
        · clear hM hb
          go_wp2_with fail
          go_roundw
          case rel =>
            have hh := HM.out
            rw [show j = C from by omega] at hh
            exact ⟨i + 1, m, by omega, hm, by go_num, rfl, hh.row, HB.out⟩
          case measure => simp [intOf]; omega
    · go_wp2_with fail
      go_ret
      refine ⟨congrArg (fun b => Ending.returned (.bool b)) ?_, B0.trans (HB.out.mono B0.size)⟩
      show true = x
      have hh := HM.out
      rw [show i = R from by omega] at hh
      exact (HX.out.2 hh.good).symm
end Go.Proofs.Ytcecmkideoodiaa
namespace Go.Proofs.Ytcecmkideoodiaa
open Go.RowKit

/-- No square of a rectangle is of a cell. -/
def freeB (f : Nat → Nat) (r c d h : Nat) : Bool := (List.range d).all fun i => (List.range h).all fun j => f ((r + i) * 5 + (c + j)) == 0
theorem freeB_iff {f : Nat → Nat} {r c d h : Nat} : freeB f r c d h = true ↔ ∀ a b, inR r c d h a b → f (a * 5 + b) = 0 := by
  simp only [freeB, List.all_eq_true, List.mem_range, beq_iff_eq, inR]
  constructor
  · intro hh a b ⟨h1, h2, h3, h4⟩
    have := hh (a - r) (by omega) (b - c) (by omega)
    rwa [show r + (a - r) = a from by omega, show c + (b - c) = b from by omega] at this
  · intro hh i hi j hj
    exact hh (r + i) (c + j) ⟨by omega, by omega, by omega, by omega⟩
theorem mask_one {x : Nat} {f : Nat → Nat} {R C r c d h : Nat} (hx : Mask x f (fun a b => vis R 0 C a b ∧ inR r c d h a b)) (hd : 0 < d) (hh : 0 < h) (hR : r + d ≤ R) (hC : c + h ≤ C) : decide ((x : Int) = 1) = freeB f r c d h := by
  have key : x = 1 ↔ freeB f r c d h = true := by
    rw [freeB_iff]
    constructor
    · rintro rfl a b hab
      have h1 := (hx.2 (f (a * 5 + b))).2 ⟨a, b, ⟨by unfold vis; unfold inR at hab; omega, hab⟩, rfl⟩
      rw [show (1 : Nat) = 2 ^ 0 from rfl, Nat.testBit_two_pow, decide_eq_true_eq] at h1
      exact h1.symm
    · intro hz
      apply Nat.eq_of_testBit_eq
      intro k
      rw [Bool.eq_iff_iff, hx.2 k, show (1 : Nat) = 2 ^ 0 from rfl, Nat.testBit_two_pow, decide_eq_true_eq]
      constructor
      · rintro ⟨a, b, ⟨_, h2⟩, h3⟩
        rw [hz a b h2] at h3
        exact h3
      · rintro rfl
        exact ⟨r, c, ⟨by unfold vis; omega, by unfold inR; omega⟩, hz r c (by unfold inR; omega)⟩
  cases hf : freeB f r c d h
  · rw [hf] at key
    refine decide_eq_false ?_
    intro e
    exact absurd (key.1 (by omega)) (by simp)
  · rw [hf] at key
    refine decide_eq_true ?_
    have := key.2 rfl
    omega

set_option maxRecDepth 100000 in
set_option maxHeartbeats 4000000 in
theorem isFree_is {R C n : Nat} {f : Nat → Nat} {t : Nat → Sl} {r c d h : Nat} {w : World} {x : Bool} (hx : freeB f r c d h = x) (hR : R ≤ 5) (hC : C ≤ 5) (hr : r + d ≤ R) (hc : c + h ≤ C) (hd : 0 < d) (hh : 0 < h) (hf : ∀ k, f k ≤ 25) :
    Calls Try.prog 120 #[.agg (gridA R C n f t), .agg #[.int .i64 r, .int .i64 c, .int .i64 d, .int .i64 h]] w fun z w' => z = .returned (.bool x) ∧ Below w.heap.size w w' := by
  have HX : Hid (freeB f r c d h = x) := hx
  clear hx
  go_enter Try.func120, Try.ntmps120
  go_upto_region 1 with fail
  have B0 : Below w.heap.size w ((w.alloc (.cells (gridA R C n f t) 189)).alloc (.cells #[.int .i64 r, .int .i64 c, .int .i64 d, .int .i64 h] 193)) := (((Below.refl _ _).alloc (Nat.le_refl _) _).alloc (by simp) _)
  have G0 : GridAt ((w.alloc (.cells (gridA R C n f t) 189)).alloc (.cells #[.int .i64 r, .int .i64 c, .int .i64 d, .int .i64 h] 193)) w.heap.size R C n f t := (gridAt_new w R C n f t).alloc _
  have G2 : RectAt ((w.alloc (.cells (gridA R C n f t) 189)).alloc (.cells #[.int .i64 r, .int .i64 c, .int .i64 d, .int .i64 h] 193)) (w.heap.size + 1) r c d h := by
    have := (rowAt_new (w.alloc (.cells (gridA R C n f t) 189)) #[.int .i64 r, .int .i64 c, .int .i64 d, .int .i64 h] 193)
    simpa [RectAt] using this
  generalize ((w.alloc (.cells (gridA R C n f t) 189)).alloc (.cells #[.int .i64 r, .int .i64 c, .int .i64 d, .int .i64 h] 193)) = v0 at B0 G0 G2 ⊢
  have e0 := G2.c0
  have e1 := G2.c1
  have e2 := G2.c2
  have e3 := G2.c3
  have HG : Hid (GridAt v0 w.heap.size R C n f t) := G0
  clear G0 G2
  go_wp2_with (first | (refine wpList_load_row rfl 189 (.tmp 2) rfl w.heap.size rfl 189 (gridA R C n f t) (0, 0) _ HG.out Try.underlying189 rfl (grid_infoA _ _ _ _ _) ?_) | (go_at_call 124; refine (parted_any R C n f t r c d h _ hR hC (by omega) (by omega) hf).mono ?_; rintro e w4 ⟨⟨xx, yy, rfl, hxx, -⟩, hb4⟩))
  go_ret
  refine ⟨congrArg (fun b => Ending.returned (.bool b)) ?_, B0.trans (hb4.mono B0.size)⟩
  show ((xx : Int) == 1) = x
  rw [← HX.out, ← mask_one hxx hd hh hr hc, Bool.eq_iff_iff]
  simp
end Go.Proofs.Ytcecmkideoodiaa
