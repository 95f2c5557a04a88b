import Derived.Test.YthjipnocemioaaaRows
import Derived.WalkKit
import Derived.WalkSpells
import Derived.WalkLawsBesides
import Derived.Deep.QuietTactic
import Derived.BigQuiet
import Derived.Deep.RegionWith
import Derived.ProofKit
import Derived.OpenShut
import Derived.ShutString
import Derived.ChangeOld
import Derived.Below
import Derived.Deep.Slices
import Derived.Deep.LoopGhost
import Derived.Laws.Rows
import Derived.Deep.Heap
import Derived.Deep.Cut
namespace Go.Proofs.Ythjipnocemioaaa
open Go.RowKit

def byteB (b : Int) : Bool := decide (97 ≤ b ∧ b ≤ 122 ∨ 48 ≤ b ∧ b ≤ 57 ∨ b = 32)
def whoB (n : Int) : Bool := decide (0 ≤ n ∧ n ≤ 3)
def personN (n : Int) : Int := if n = 1 then 1 else if n = 2 then 2 else if n = 3 then 4 else 0
def signB (b i o : Int) : Bool := byteB b && whoB i && whoB o && decide (o = 0 ∨ i ≠ o)

set_option maxHeartbeats 400000 in
theorem l6In_any (n : Int) (w : World) :
    Calls Try.prog 53 #[.int .i64 n, .int .i64 0, .int .i64 3] w fun e w' => e = .returned (.bool (whoB n)) ∧ w' = w := by
  rcases (show (0 ≤ n ∧ n ≤ 3) ∨ (0 ≤ n ∧ ¬ n ≤ 3) ∨ (¬ 0 ≤ n) from by omega) with ⟨h0, h1⟩ | ⟨h0, h1⟩ | h0
  · have e : whoB n = true := by simp [whoB]; omega
    rw [e]
    go_enter Try.func53, Try.ntmps53
    go_wp2
    go_ret
    exact ⟨rfl, rfl⟩
  all_goals
    have e : whoB n = false := by simp [whoB]; omega
    rw [e]
    go_enter Try.func53, Try.ntmps53
    go_wp2
    go_ret
    exact ⟨rfl, rfl⟩


theorem l6Cases (n lo hi : Int) : (lo ≤ n ∧ n ≤ hi) ∨ (lo ≤ n ∧ ¬ n ≤ hi) ∨ (¬ lo ≤ n) := by omega
set_option maxHeartbeats 400000 in
theorem l6In_gen (n lo hi : Int) (w : World) :
    Calls Try.prog 53 #[.int .i64 n, .int .i64 lo, .int .i64 hi] w fun e w' => e = .returned (.bool (decide (lo ≤ n ∧ n ≤ hi))) ∧ w' = w := by
  rcases l6Cases n lo hi with ⟨h0, h1⟩ | ⟨h0, h1⟩ | h0
  · rw [decide_eq_true ⟨h0, h1⟩]
    go_enter Try.func53, Try.ntmps53
    go_wp2
    go_ret
    exact ⟨rfl, rfl⟩
  · rw [decide_eq_false (fun h => h1 h.2)]
    go_enter Try.func53, Try.ntmps53
    go_wp2
    go_ret
    exact ⟨rfl, rfl⟩
  · rw [decide_eq_false (fun h => h0 h.1)]
    go_enter Try.func53, Try.ntmps53
    go_wp2
    go_ret
    exact ⟨rfl, rfl⟩
theorem l6In_of {n lo hi : Int} {x : Bool} (h : decide (lo ≤ n ∧ n ≤ hi) = x) (w : World) :
    Calls Try.prog 53 #[.int .i64 n, .int .i64 lo, .int .i64 hi] w fun e w' => e = .returned (.bool x) ∧ w' = w := h ▸ l6In_gen n lo hi w

end Go.Proofs.Ythjipnocemioaaa
namespace Go.Proofs.Ythjipnocemioaaa
open Go.RowKit

set_option maxHeartbeats 400000 in
theorem whoOk_any (n : Int) (w : World) :
    Calls Try.prog 120 #[.int .i64 n] w fun e w' => e = .returned (.bool (whoB n)) ∧ w' = w := by
  rcases (show (0 ≤ n ∧ n ≤ 3) ∨ (0 ≤ n ∧ ¬ n ≤ 3) ∨ (¬ 0 ≤ n) from by omega) with ⟨h0, h1⟩ | ⟨h0, h1⟩ | h0
  · have e : whoB n = true := by simp [whoB]; omega
    rw [e]
    go_enter Try.func120, Try.ntmps120
    go_wp2
    go_ret
    exact ⟨rfl, rfl⟩
  all_goals
    have e : whoB n = false := by simp [whoB]; omega
    rw [e]
    go_enter Try.func120, Try.ntmps120
    go_wp2
    go_ret
    exact ⟨rfl, rfl⟩

set_option maxHeartbeats 800000 in
theorem byteOk_any (b : Int) (w : World) :
    Calls Try.prog 119 #[.int .u8 b] w fun e w' => e = .returned (.bool (byteB b)) ∧ w' = w := by
  rcases (show (97 ≤ b ∧ b ≤ 122) ∨ (97 ≤ b ∧ ¬ b ≤ 122) ∨ (¬ 97 ≤ b ∧ 48 ≤ b ∧ b ≤ 57) ∨ (¬ 97 ≤ b ∧ 48 ≤ b ∧ ¬ b ≤ 57) ∨ (¬ 48 ≤ b ∧ b = 32) ∨ (¬ 48 ≤ b ∧ ¬ b = 32) from by omega) with ⟨h0, h1⟩ | ⟨h0, h1⟩ | ⟨h0, h1, h2⟩ | ⟨h0, h1, h2⟩ | ⟨h0, rfl⟩ | ⟨h0, h1⟩
  · rw [show byteB b = true from by simp [byteB]; omega]
    go_enter Try.func119, Try.ntmps119
    go_wp2
    go_ret
    exact ⟨rfl, rfl⟩
  · rw [show byteB b = false from by simp [byteB]; omega]
    have k1 : (b == 32) = false := by simp; omega
    have k2 : ¬ b ≤ 57 := by omega
    have k3 : decide (b ≤ 57) = false := by simp; omega
    go_enter Try.func119, Try.ntmps119
    go_wp2
    go_ret
    exact ⟨rfl, rfl⟩
  · rw [show byteB b = true from by simp [byteB]; omega]
    go_enter Try.func119, Try.ntmps119
    go_wp2
    go_ret
    exact ⟨rfl, rfl⟩
  · rw [show byteB b = false from by simp [byteB]; omega]
    have k1 : (b == 32) = false := by simp; omega
    go_enter Try.func119, Try.ntmps119
    go_wp2
    go_ret
    exact ⟨rfl, rfl⟩
  · go_enter Try.func119, Try.ntmps119
    go_wp2
    go_ret
    exact ⟨rfl, rfl⟩
  · rw [show byteB b = false from by simp [byteB]; omega]
    have k1 : (b == 32) = false := by simp; omega
    go_enter Try.func119, Try.ntmps119
    go_wp2
    go_ret
    exact ⟨rfl, rfl⟩

set_option maxHeartbeats 800000 in
theorem person_any (n : Int) (w : World) :
    Calls Try.prog 121 #[.int .i64 n] w fun e w' => e = .returned (.int .u8 (personN n)) ∧ w' = w := by
  rcases (show n = 0 ∨ n = 1 ∨ n = 2 ∨ n = 3 ∨ (¬ n = 0 ∧ whoB n = false) from by simp [whoB]; omega) with rfl | rfl | rfl | rfl | ⟨h0, h1⟩
  · go_enter Try.func121, Try.ntmps121
    go_wp2_with (first | (go_at_call 120; refine (whoOk_any _ _).mono ?_; rintro e w' ⟨rfl, rfl⟩))
    go_ret
    exact ⟨rfl, rfl⟩
  · go_enter Try.func121, Try.ntmps121
    go_wp2_with (first | (go_at_call 120; refine (whoOk_any _ _).mono ?_; rintro e w' ⟨rfl, rfl⟩))
    go_ret
    exact ⟨rfl, rfl⟩
  · go_enter Try.func121, Try.ntmps121
    go_wp2_with (first | (go_at_call 120; refine (whoOk_any _ _).mono ?_; rintro e w' ⟨rfl, rfl⟩))
    go_ret
    exact ⟨rfl, rfl⟩
  · go_enter Try.func121, Try.ntmps121
    go_wp2_with (first | (go_at_call 120; refine (whoOk_any _ _).mono ?_; rintro e w' ⟨rfl, rfl⟩))
    go_ret
    exact ⟨rfl, rfl⟩
  · have e : personN n = 0 := by
      simp [whoB] at h1
      simp only [personN]
      rw [if_neg (by omega), if_neg (by omega), if_neg (by omega)]
    rw [e]
    go_enter Try.func121, Try.ntmps121
    go_wp2_with (first | (go_at_call 120; refine (whoOk_any _ _).mono ?_; rintro e w' ⟨rfl, rfl⟩))
    go_ret
    exact ⟨rfl, rfl⟩

end Go.Proofs.Ythjipnocemioaaa
namespace Go.Proofs.Ythjipnocemioaaa
open Go.RowKit

theorem whoCases (i o : Int) : whoB i = false ∨ (whoB i = true ∧ whoB o = false) ∨ (whoB i = true ∧ whoB o = true ∧ o = 0) ∨ (whoB i = true ∧ whoB o = true ∧ (o == 0) = false ∧ (i != o) = false) ∨ (whoB i = true ∧ whoB o = true ∧ (o == 0) = false ∧ (i != o) = true) := by
  by_cases h : i = o
  · subst h; cases whoB i <;> by_cases h0 : i = 0 <;> simp [h0]
  · cases whoB i <;> cases whoB o <;> by_cases h0 : o = 0 <;> simp [h0, h]

theorem l6In_is {n : Int} {x : Bool} (h : whoB n = x) (w : World) : Calls Try.prog 53 #[.int .i64 n, .int .i64 0, .int .i64 3] w fun e w' => e = .returned (.bool x) ∧ w' = w := h ▸ l6In_any n w

set_option maxHeartbeats 2000000 in
theorem l1Sign_no (b i o : Int) (w : World) (hb : byteB b = false) :
    Calls Try.prog 74 #[.agg #[.int .u8 b, .int .i64 i, .int .i64 o]] w fun e w' => e = .returned (.bool (signB b i o)) ∧ Below w.heap.size w w' := by
  rw [show signB b i o = false from by simp [signB, hb]]
  have k1 : (b == 32) = false := by simp [byteB] at hb; simp; omega
  rcases (show (97 ≤ b ∧ ¬ b ≤ 122) ∨ (¬ 97 ≤ b ∧ 48 ≤ b ∧ ¬ b ≤ 57) ∨ (¬ 48 ≤ b ∧ ¬ b = 32) from by simp [byteB] at hb; omega) with ⟨h0, h1⟩ | ⟨h0, h1, h2⟩ | ⟨h0, h1⟩
  · have k2 : ¬ b ≤ 57 := by omega
    have k3 : decide (b ≤ 57) = false := by simp; omega
    go_enter Try.func74, Try.ntmps74
    go_wp2_with fail
    go_ret
    exact ⟨rfl, (Below.refl _ _).alloc (Nat.le_refl _) _⟩
  · go_enter Try.func74, Try.ntmps74
    go_wp2_with fail
    go_ret
    exact ⟨rfl, (Below.refl _ _).alloc (Nat.le_refl _) _⟩
  · go_enter Try.func74, Try.ntmps74
    go_wp2_with fail
    go_ret
    exact ⟨rfl, (Below.refl _ _).alloc (Nat.le_refl _) _⟩

theorem byteCases {b : Int} (hb : byteB b = true) : (97 ≤ b ∧ b ≤ 122) ∨ (¬ 97 ≤ b ∧ 48 ≤ b ∧ b ≤ 57 ∧ (b == 32) = false) ∨ b = 32 := by
  simp [byteB] at hb; simp; omega

set_option maxHeartbeats 2000000 in
theorem l1Sign_i (b i o : Int) (w : World) (hb : byteB b = true) (hi : whoB i = false) :
    Calls Try.prog 74 #[.agg #[.int .u8 b, .int .i64 i, .int .i64 o]] w fun e w' => e = .returned (.bool (signB b i o)) ∧ Below w.heap.size w w' := by
  rw [show signB b i o = false from by simp [signB, hi]]
  rcases byteCases hb with ⟨h0, h1⟩ | ⟨h0, h1, h2, h3⟩ | rfl
  all_goals
    clear hb
    go_enter Try.func74, Try.ntmps74
    go_wp2_with (first | (go_at_call_of 53 (Value.int IntKind.i64 i); refine (l6In_is hi _).mono ?_; rintro e w' ⟨rfl, rfl⟩))
    go_ret
    exact ⟨rfl, (Below.refl _ _).alloc (Nat.le_refl _) _⟩

set_option maxHeartbeats 2000000 in
theorem l1Sign_o (b i o : Int) (w : World) (hb : byteB b = true) (hi : whoB i = true) (ho : whoB o = false) :
    Calls Try.prog 74 #[.agg #[.int .u8 b, .int .i64 i, .int .i64 o]] w fun e w' => e = .returned (.bool (signB b i o)) ∧ Below w.heap.size w w' := by
  rw [show signB b i o = false from by simp [signB, ho]]
  rcases byteCases hb with ⟨h0, h1⟩ | ⟨h0, h1, h2, h3⟩ | rfl
  all_goals
    clear hb
    go_enter Try.func74, Try.ntmps74
    go_wp2_with (first | (go_at_call_of 53 (Value.int IntKind.i64 i); refine (l6In_is hi _).mono ?_; rintro e w' ⟨rfl, rfl⟩) | (go_at_call_of 53 (Value.int IntKind.i64 o); refine (l6In_is ho _).mono ?_; rintro e w' ⟨rfl, rfl⟩))
    go_ret
    exact ⟨rfl, (Below.refl _ _).alloc (Nat.le_refl _) _⟩

set_option maxHeartbeats 2000000 in
theorem l1Sign_n (b i o : Int) (w : World) (hb : byteB b = true) (hi : whoB i = true) (ho : whoB o = true) (hz : (o == 0) = false) (hn : (i != o) = false) :
    Calls Try.prog 74 #[.agg #[.int .u8 b, .int .i64 i, .int .i64 o]] w fun e w' => e = .returned (.bool (signB b i o)) ∧ Below w.heap.size w w' := by
  rw [show signB b i o = false from by simp at hz hn; subst hn; simp [signB, hz]]
  rcases byteCases hb with ⟨h0, h1⟩ | ⟨h0, h1, h2, h3⟩ | rfl
  all_goals
    clear hb
    go_enter Try.func74, Try.ntmps74
    go_wp2_with (first | (go_at_call_of 53 (Value.int IntKind.i64 i); refine (l6In_is hi _).mono ?_; rintro e w' ⟨rfl, rfl⟩) | (go_at_call_of 53 (Value.int IntKind.i64 o); refine (l6In_is ho _).mono ?_; rintro e w' ⟨rfl, rfl⟩))
    go_ret
    exact ⟨rfl, (Below.refl _ _).alloc (Nat.le_refl _) _⟩

set_option maxHeartbeats 2000000 in
theorem l1Sign_y (b i o : Int) (w : World) (hb : byteB b = true) (hi : whoB i = true) (ho : whoB o = true) (hz : (o == 0) = false) (hn : (i != o) = true) :
    Calls Try.prog 74 #[.agg #[.int .u8 b, .int .i64 i, .int .i64 o]] w fun e w' => e = .returned (.bool (signB b i o)) ∧ Below w.heap.size w w' := by
  rw [show signB b i o = true from by simp at hz hn; simp [signB, hb, hi, ho, hn]]
  rcases byteCases hb with ⟨h0, h1⟩ | ⟨h0, h1, h2, h3⟩ | rfl
  all_goals
    clear hb
    go_enter Try.func74, Try.ntmps74
    go_wp2_with (first | (go_at_call_of 53 (Value.int IntKind.i64 i); refine (l6In_is hi _).mono ?_; rintro e w' ⟨rfl, rfl⟩) | (go_at_call_of 53 (Value.int IntKind.i64 o); refine (l6In_is ho _).mono ?_; rintro e w' ⟨rfl, rfl⟩))
    go_ret
    exact ⟨rfl, (Below.refl _ _).alloc (Nat.le_refl _) _⟩

set_option maxHeartbeats 2000000 in
theorem l1Sign_z (b i : Int) (w : World) (hb : byteB b = true) (hi : whoB i = true) :
    Calls Try.prog 74 #[.agg #[.int .u8 b, .int .i64 i, .int .i64 0]] w fun e w' => e = .returned (.bool (signB b i 0)) ∧ Below w.heap.size w w' := by
  rw [show signB b i 0 = true from by simp [signB, hb, hi]; rfl]
  rcases byteCases hb with ⟨h0, h1⟩ | ⟨h0, h1, h2, h3⟩ | rfl
  all_goals
    clear hb
    go_enter Try.func74, Try.ntmps74
    go_wp2_with (first | (go_at_call_of 53 (Value.int IntKind.i64 i); refine (l6In_is hi _).mono ?_; rintro e w' ⟨rfl, rfl⟩) | (go_at_call 53; refine (l6In_is (n := 0) (x := true) (by rfl) _).mono ?_; rintro e w' ⟨rfl, rfl⟩))
    go_ret
    exact ⟨rfl, (Below.refl _ _).alloc (Nat.le_refl _) _⟩

theorem l1Sign_any (b i o : Int) (w : World) :
    Calls Try.prog 74 #[.agg #[.int .u8 b, .int .i64 i, .int .i64 o]] w fun e w' => e = .returned (.bool (signB b i o)) ∧ Below w.heap.size w w' := by
  cases hb : byteB b
  · exact l1Sign_no b i o w hb
  · rcases whoCases i o with hi | ⟨hi, ho⟩ | ⟨hi, ho, rfl⟩ | ⟨hi, ho, hz, hn⟩ | ⟨hi, ho, hz, hn⟩
    · exact l1Sign_i b i o w hb hi
    · exact l1Sign_o b i o w hb hi ho
    · exact l1Sign_z b i w hb hi
    · exact l1Sign_n b i o w hb hi ho hz hn
    · exact l1Sign_y b i o w hb hi ho hz hn

end Go.Proofs.Ythjipnocemioaaa
namespace Go.Proofs.Ythjipnocemioaaa
open Go.RowKit

theorem and_person (i o : Int) (hi : whoB i = true) (ho : whoB o = true) : (bits BinOp.and IntKind.u8 (personN i) (personN o) == 0) = decide (o = 0 ∨ i ≠ o) := by
  simp [whoB] at hi ho
  rcases (show i = 0 ∨ i = 1 ∨ i = 2 ∨ i = 3 from by omega) with rfl | rfl | rfl | rfl <;> rcases (show o = 0 ∨ o = 1 ∨ o = 2 ∨ o = 3 from by omega) with rfl | rfl | rfl | rfl <;> rfl

theorem byteOk_is {b : Int} {x : Bool} (h : byteB b = x) (w : World) : Calls Try.prog 119 #[.int .u8 b] w fun e w' => e = .returned (.bool x) ∧ w' = w := h ▸ byteOk_any b w
theorem whoOk_is {n : Int} {x : Bool} (h : whoB n = x) (w : World) : Calls Try.prog 120 #[.int .i64 n] w fun e w' => e = .returned (.bool x) ∧ w' = w := h ▸ whoOk_any n w

set_option maxHeartbeats 1000000 in
theorem signOk_b (b i o : Int) (w : World) (hb : byteB b = false) :
    Calls Try.prog 115 #[.agg #[.int .u8 b, .int .i64 i, .int .i64 o]] w fun e w' => e = .returned (.bool (signB b i o)) ∧ Below w.heap.size w w' := by
  rw [show signB b i o = false from by simp [signB, hb]]
  go_enter Try.func115, Try.ntmps115
  go_wp2_with fail
  go_quiet ((first | (go_at_call 119; exact Calls.quiet_of_same (byteOk_is hb _))))
  go_wp2
  go_ret
  refine ⟨rfl, ?_⟩
  refine below_drewN ?_ _
  exact (Below.refl _ _).alloc (Nat.le_refl _) _

set_option maxHeartbeats 1000000 in
theorem signOk_i (b i o : Int) (w : World) (hb : byteB b = true) (hi : whoB i = false) :
    Calls Try.prog 115 #[.agg #[.int .u8 b, .int .i64 i, .int .i64 o]] w fun e w' => e = .returned (.bool (signB b i o)) ∧ Below w.heap.size w w' := by
  rw [show signB b i o = false from by simp [signB, hi]]
  go_enter Try.func115, Try.ntmps115
  go_wp2_with fail
  go_quiet ((first | (go_at_call 119; exact Calls.quiet_of_same (byteOk_is hb _)) | (go_at_call_of 120 (Value.int IntKind.i64 i); exact Calls.quiet_of_same (whoOk_is hi _))))
  go_wp2
  go_ret
  refine ⟨rfl, ?_⟩
  refine below_drewN ?_ _
  exact (Below.refl _ _).alloc (Nat.le_refl _) _

set_option maxHeartbeats 1000000 in
theorem signOk_o (b i o : Int) (w : World) (hb : byteB b = true) (hi : whoB i = true) (ho : whoB o = false) :
    Calls Try.prog 115 #[.agg #[.int .u8 b, .int .i64 i, .int .i64 o]] w fun e w' => e = .returned (.bool (signB b i o)) ∧ Below w.heap.size w w' := by
  rw [show signB b i o = false from by simp [signB, ho]]
  go_enter Try.func115, Try.ntmps115
  go_wp2_with fail
  go_quiet ((first | (go_at_call 119; exact Calls.quiet_of_same (byteOk_is hb _)) | (go_at_call_of 120 (Value.int IntKind.i64 i); exact Calls.quiet_of_same (whoOk_is hi _)) | (go_at_call_of 120 (Value.int IntKind.i64 o); exact Calls.quiet_of_same (whoOk_is ho _))))
  go_wp2
  go_ret
  refine ⟨rfl, ?_⟩
  refine below_drewN ?_ _
  exact (Below.refl _ _).alloc (Nat.le_refl _) _

set_option maxHeartbeats 1000000 in
theorem signOk_y (b i o : Int) (w : World) (hb : byteB b = true) (hi : whoB i = true) (ho : whoB o = true) :
    Calls Try.prog 115 #[.agg #[.int .u8 b, .int .i64 i, .int .i64 o]] w fun e w' => e = .returned (.bool (signB b i o)) ∧ Below w.heap.size w w' := by
  have hp : Hid ((bits BinOp.and IntKind.u8 (personN i) (personN o) == 0) = signB b i o) := by
    show (bits BinOp.and IntKind.u8 (personN i) (personN o) == 0) = signB b i o
    rw [and_person i o hi ho]; simp [signB, hb, hi, ho]
  go_enter Try.func115, Try.ntmps115
  go_wp2_with fail
  go_quiet ((first | (go_at_call 119; exact Calls.quiet_of_same (byteOk_is hb _)) | (go_at_call_of 120 (Value.int IntKind.i64 i); exact Calls.quiet_of_same (whoOk_is hi _)) | (go_at_call_of 120 (Value.int IntKind.i64 o); exact Calls.quiet_of_same (whoOk_is ho _)) | (go_at_call 121; exact Calls.quiet_of_same (person_any _ _))))
  rw [hp.out]
  go_wp2
  go_ret
  refine ⟨rfl, ?_⟩
  refine below_drewN ?_ _
  exact (Below.refl _ _).alloc (Nat.le_refl _) _

theorem signOk_any (b i o : Int) (w : World) :
    Calls Try.prog 115 #[.agg #[.int .u8 b, .int .i64 i, .int .i64 o]] w fun e w' => e = .returned (.bool (signB b i o)) ∧ Below w.heap.size w w' := by
  cases hb : byteB b
  · exact signOk_b b i o w hb
  · cases hi : whoB i
    · exact signOk_i b i o w hb hi
    · cases ho : whoB o
      · exact signOk_o b i o w hb hi ho
      · exact signOk_y b i o w hb hi ho

end Go.Proofs.Ythjipnocemioaaa
namespace Go.Proofs.Ythjipnocemioaaa
open Go.RowKit

/-- A sign: its byte, who put it in, who takes it out. -/
abbrev Sg := Int × Int × Int
def sgB (s : Sg) : Bool := signB s.1 s.2.1 s.2.2
def textB (l : List Sg) : Bool := decide (l.length ≤ 24) && l.all sgB
def sgV (s : Sg) : Value := .agg #[.int .u8 s.1, .int .i64 s.2.1, .int .i64 s.2.2]

/-- The cells of a text's signs, three a sign, at block b from off on. -/
def SignsAt (w : World) (b off : Nat) (l : List Sg) : Prop :=
  ∀ k, k < l.length → w.cell? ⟨b, off + k * 3, none⟩ = some (.int .u8 (l.getD k (0, 0, 0)).1) ∧ w.cell? ⟨b, off + k * 3 + 1, none⟩ = some (.int .i64 (l.getD k (0, 0, 0)).2.1) ∧ w.cell? ⟨b, off + k * 3 + 2, none⟩ = some (.int .i64 (l.getD k (0, 0, 0)).2.2)

/-- A slice value that reads as the signs l. -/
def Txt (w : World) (a : Option Addr) (n cap : Nat) (l : List Sg) : Prop :=
  n = l.length ∧ n ≤ cap ∧ cap ≤ maxLen ∧ (l = [] ∨ ∃ b off, a = some ⟨b, off, none⟩ ∧ b < w.heap.size ∧ SignsAt w b off l)

theorem SignsAt.below {w w' : World} {b off : Nat} {l : List Sg} (h : SignsAt w b off l) {B : Nat} (hb : Below B w w') (hB : b < B) : SignsAt w' b off l := by
  intro k hk
  obtain ⟨h0, h1, h2⟩ := h k hk
  exact ⟨(hb.cell (p := ⟨b, _, none⟩) hB).trans h0, (hb.cell (p := ⟨b, _, none⟩) hB).trans h1, (hb.cell (p := ⟨b, _, none⟩) hB).trans h2⟩

theorem Txt.below {w w' : World} {a : Option Addr} {n cap : Nat} {l : List Sg} (h : Txt w a n cap l) (hb : Below w.heap.size w w') : Txt w' a n cap l := by
  obtain ⟨h1, h2, h3, h4⟩ := h
  refine ⟨h1, h2, h3, ?_⟩
  rcases h4 with h4 | ⟨b, off, h5, h6, h7⟩
  · exact .inl h4
  · exact .inr ⟨b, off, h5, Nat.lt_of_lt_of_le h6 hb.size, h7.below hb h6⟩

theorem all_take_succ (l : List Sg) (k : Nat) (hk : k < l.length) (p : Sg → Bool) : (l.take (k + 1)).all p = ((l.take k).all p && p (l.getD k (0, 0, 0))) := by
  rw [List.take_succ_eq_append_getElem hk, List.all_append]
  simp [List.getD, hk]

theorem all_false_of (l : List Sg) (k : Nat) (hk : k < l.length) (p : Sg → Bool) (h : p (l.getD k (0, 0, 0)) = false) : l.all p = false := by
  rw [← Bool.not_eq_true, List.all_eq_true]
  intro hh
  have := hh (l.getD k (0, 0, 0)) (by simp [List.getD, hk])
  rw [h] at this
  exact absurd this (by simp)

theorem l1Sign_is {b i o : Int} {x : Bool} (h : signB b i o = x) (w : World) :
    Calls Try.prog 74 #[.agg #[.int .u8 b, .int .i64 i, .int .i64 o]] w fun e w' => e = .returned (.bool x) ∧ Below w.heap.size w w' := h ▸ l1Sign_any b i o w
set_option maxHeartbeats 1000000 in
theorem specTextOk_any (a : Option Addr) (n cap : Nat) (l : List Sg) (w : World) (h : Txt w a n cap l) :
    Calls Try.prog 56 #[.slice a n cap] w fun e w' => e = .returned (.bool (textB l)) ∧ Below w.heap.size w w' := by
  obtain ⟨rfl, hc, hm, hl⟩ := h
  unfold maxLen at hm
  by_cases h24 : 24 < l.length
  · have e : textB l = false := by simp [textB]; omega
    rw [e]
    go_enter Try.func56, Try.ntmps56
    go_wp2
    go_ret
    exact ⟨rfl, Below.refl _ _⟩
  · have h24' : decide ((24 : Int) < (l.length : Int)) = false := by simp; omega
    have HT : Hid (textB l = l.all sgB) := by
      show textB l = l.all sgB
      simp [textB]; omega
    rcases hl with rfl | ⟨b, off, rfl, hbw, hl⟩
    · rw [show textB [] = true from rfl]
      go_enter Try.func56, Try.ntmps56
      go_wp2
      refine wp_loop_rounds 1 ?_
      rw [rounds_succ]
      go_wp2
      go_ret
      exact ⟨rfl, Below.refl _ _⟩
    · rw [HT.out]
      clear HT
      go_enter Try.func56, Try.ntmps56
      go_wp2
      go_loopw [3] (fun i wr => ∃ k : Nat, k ≤ l.length ∧ i = .int .i64 k ∧ (l.take k).all sgB = true ∧ Below w.heap.size w wr) (fun i _ => l.length - (intOf i).toNat)
      case atStart => exact ⟨0, Nat.zero_le _, rfl, by simp, Below.refl _ _⟩
      case round =>
        obtain ⟨k, hk, rfl, hall, hbl⟩ := hrel
        have HA : Hid ((l.take k).all sgB = true) := hall
        clear hall
        by_cases hlt : k < l.length
        · obtain ⟨c0, c1, c2⟩ := (hl.below hbl hbw) k hlt
          clear hl
          obtain ⟨s, hs⟩ : ∃ s, s = l.getD k (0, 0, 0) := ⟨_, rfl⟩
          rw [← hs] at c0 c1 c2
          have HS : Hid (s = l.getD k (0, 0, 0)) := hs
          clear hs
          have hsz := hbl.size
          cases hb : signB s.1 s.2.1 s.2.2
          · have HF : Hid (l.all sgB = false) := all_false_of l k hlt sgB (by rw [← HS.out]; exact hb)
            go_wp2_with (go_at_call 74; refine (l1Sign_is hb _).mono ?_; rintro e w1 ⟨rfl, hb1⟩)
            go_ret
            exact ⟨by rw [HF.out]; rfl, hbl.trans (hb1.mono hsz)⟩
          · go_wp2_with (go_at_call 74; refine (l1Sign_is hb _).mono ?_; rintro e w1 ⟨rfl, hb1⟩)
            go_roundw
            case rel => exact ⟨k + 1, by omega, by go_num, by rw [all_take_succ l k hlt, HA.out, ← HS.out]; exact hb, hbl.trans (hb1.mono hsz)⟩
            case measure => simp [intOf]; omega
        · go_wp2
          go_ret
          exact ⟨by have hh := HA.out; rw [List.take_of_length_le (by omega)] at hh; rw [hh]; rfl, hbl⟩

theorem specTextOk_is {a : Option Addr} {n cap : Nat} {l : List Sg} {w : World} {x : Bool} (h : Txt w a n cap l) (hx : textB l = x) :
    Calls Try.prog 56 #[.slice a n cap] w fun e w' => e = .returned (.bool x) ∧ Below w.heap.size w w' := hx ▸ specTextOk_any a n cap l w h

end Go.Proofs.Ythjipnocemioaaa
namespace Go.Proofs.Ythjipnocemioaaa
open Go.RowKit

theorem signOk_is {b i o : Int} {x : Bool} (h : signB b i o = x) (w : World) :
    Calls Try.prog 115 #[.agg #[.int .u8 b, .int .i64 i, .int .i64 o]] w fun e w' => e = .returned (.bool x) ∧ Below w.heap.size w w' := h ▸ signOk_any b i o w

set_option maxHeartbeats 1000000 in
theorem implTextOk_any (a : Option Addr) (n cap : Nat) (l : List Sg) (w : World) (h : Txt w a n cap l) :
    Calls Try.prog 112 #[.slice a n cap] w fun e w' => e = .returned (.bool (textB l)) ∧ Below w.heap.size w w' := by
  obtain ⟨rfl, hc, hm, hl⟩ := h
  unfold maxLen at hm
  by_cases h24 : 24 < l.length
  · have e : textB l = false := by simp [textB]; omega
    rw [e]
    go_enter Try.func112, Try.ntmps112
    go_wp2
    go_ret
    exact ⟨rfl, Below.refl _ _⟩
  · have h24' : decide ((24 : Int) < (l.length : Int)) = false := by simp; omega
    have HT : Hid (textB l = l.all sgB) := by
      show textB l = l.all sgB
      simp [textB]; omega
    rcases hl with rfl | ⟨b, off, rfl, hbw, hl⟩
    · rw [show textB [] = true from rfl]
      go_enter Try.func112, Try.ntmps112
      go_wp2
      refine wp_loop_rounds 1 ?_
      rw [rounds_succ]
      go_wp2
      go_ret
      exact ⟨rfl, Below.refl _ _⟩
    · rw [HT.out]
      clear HT
      go_enter Try.func112, Try.ntmps112
      go_wp2
      go_loopw [10] (fun i wr => ∃ k : Nat, k ≤ l.length ∧ i = .int .i64 k ∧ (l.take k).all sgB = true ∧ Below w.heap.size w wr) (fun i _ => l.length - (intOf i).toNat)
      case atStart => exact ⟨0, Nat.zero_le _, rfl, by simp, Below.refl _ _⟩
      case round =>
        obtain ⟨k, hk, rfl, hall, hbl⟩ := hrel
        have HA : Hid ((l.take k).all sgB = true) := hall
        clear hall
        by_cases hlt : k < l.length
        · obtain ⟨c0, c1, c2⟩ := (hl.below hbl hbw) k hlt
          clear hl
          obtain ⟨s, hs⟩ : ∃ s, s = l.getD k (0, 0, 0) := ⟨_, rfl⟩
          rw [← hs] at c0 c1 c2
          have HS : Hid (s = l.getD k (0, 0, 0)) := hs
          clear hs
          have hsz := hbl.size
          cases hb : signB s.1 s.2.1 s.2.2
          · have HF : Hid (l.all sgB = false) := all_false_of l k hlt sgB (by rw [← HS.out]; exact hb)
            go_wp2_with (go_at_call 115; refine (signOk_is hb _).mono ?_; rintro e w1 ⟨rfl, hb1⟩)
            go_ret
            exact ⟨by rw [HF.out]; rfl, (hbl.alloc hsz _).trans (hb1.mono (by simp; omega))⟩
          · go_wp2_with (go_at_call 115; refine (signOk_is hb _).mono ?_; rintro e w1 ⟨rfl, hb1⟩)
            go_roundw
            case rel => exact ⟨k + 1, by omega, by go_num, by rw [all_take_succ l k hlt, HA.out, ← HS.out]; exact hb, (hbl.alloc hsz _).trans (hb1.mono (by simp; omega))⟩
            case measure => simp [intOf]; omega
        · go_wp2
          go_ret
          exact ⟨by have hh := HA.out; rw [List.take_of_length_le (by omega)] at hh; rw [hh]; rfl, hbl⟩

end Go.Proofs.Ythjipnocemioaaa
namespace Go.Proofs.Ythjipnocemioaaa
open Go.ChangeShapes Go.WideShapes Go.ChangeAt Go.RowKit

theorem own : ownKnob Try.prog.godebug = none := by kernel_rfl
theorem laidOut : laidOutB Try.prog = true := by kernel_rfl

section
variable {H : Type} {enc : TypeId × Value → H} {P : Program} {w : World} {base : Nat} {spare : Nat → Bool} {held : Bool}

/-- A slice of signs that came in, opened: nil, or it reads as some signs. -/
theorem open_signs {t e : TypeId} {f0 f1 f2 : Field} {fuel : Nat} {cs : List Value} {x : DataW H × List MemPlace} (ht : P.underlying t = some (.slice e)) (he : P.underlying e = some (.struct #[f0, f1, f2]))
    (ce : P.cellsOf e = 3) (o0 : f0.offset = 0) (o1 : f1.offset = 1) (o2 : f2.offset = 2) (c0 : P.cellsOf f0.type = 1) (c1 : P.cellsOf f1.type = 1) (c2 : P.cellsOf f2.type = 1)
    (u0 : P.underlying f0.type = some (.int .u8)) (u1 : P.underlying f1.type = some (.int .i64)) (u2 : P.underlying f2.type = some (.int .i64))
    (h : DataW.trod enc P w base spare held fuel t cs = some x) :
    ∃ (a : Option Addr) (len cap : Nat) (l : List Sg), cs = [.slice a len cap] ∧ Txt w a len cap l := by
  rcases Go.Deep.open_slice ht h with ⟨rfl, _⟩ | ⟨a, len, cap, m, n, D, Pl, rfl, hb, hl, hm, hmm, rfl, hx⟩
  · exact ⟨none, 0, 0, [], rfl, rfl, Nat.le_refl _, Nat.zero_le _, .inl rfl⟩
  have hlm : len ≤ m := by rw [hmm]; split <;> omega
  have each : ∀ i, i < len → ∃ q : Sg, w.cell? (a.add (i * 3)) = some (.int .u8 q.1) ∧ w.cell? (a.add (i * 3 + 1)) = some (.int .i64 q.2.1) ∧ w.cell? (a.add (i * 3 + 2)) = some (.int .i64 q.2.2) := by
    intro i hi
    obtain ⟨cs', h1, h2⟩ := hx i (by omega)
    rw [ce] at h1
    obtain ⟨_, hlen, hcell⟩ := World.cells?_some h1
    obtain ⟨xs, k, hk, hxy, _, hxl, hf⟩ := DataW.trod_struct he h2
    match xs, hxl, cs', hlen with
    | [y0, y1, y2], _, [v0, v1, v2], _ =>
      have g0 := hf 0 f0 rfl
      have g1 := hf 1 f1 rfl
      have g2 := hf 2 f2 rfl
      simp [o0, o1, o2, c0, c1, c2] at g0 g1 g2
      have e0 := hcell 0 (by omega)
      have e1 := hcell 1 (by omega)
      have e2 := hcell 2 (by omega)
      rw [Go.Deep.add_add] at e0 e1 e2
      obtain ⟨n0, r0, _⟩ := DataW.trod_int u0 g0
      obtain ⟨n1, r1, _⟩ := DataW.trod_int u1 g1
      obtain ⟨n2, r2, _⟩ := DataW.trod_int u2 g2
      simp only [List.cons.injEq, and_true] at r0 r1 r2
      subst r0 r1 r2
      exact ⟨(n0, n1, n2), by simpa using e0, by simpa using e1, by simpa using e2⟩
  obtain ⟨q, hq⟩ := Go.Deep.choose_lt each
  refine ⟨some a, len, cap, (List.range len).map q, rfl, by simp, hl, hm, ?_⟩
  by_cases h0 : len = 0
  · subst h0; exact .inl (by simp)
  · obtain ⟨b, off, spot⟩ := a
    have hc := (hq 0 (by omega)).1
    have hspot : spot = none := by simpa [Addr.add] using World.cell?_spot hc
    subst hspot
    refine .inr ⟨b, off, rfl, by have := World.block_lt_of_cell? _ _ hc; simpa [Addr.add_lit] using this, ?_⟩
    intro k hk
    have hk' : k < len := by simpa using hk
    obtain ⟨a0, a1, a2⟩ := hq k hk'
    have e : ((List.range len).map q).getD k (0, 0, 0) = q k := by simp [List.getD, hk']
    rw [e]
    simp only [Addr.add_lit] at a0 a1 a2
    exact ⟨a0, by rw [Nat.add_assoc]; exact a1, by rw [Nat.add_assoc]; exact a2⟩
end
end Go.Proofs.Ythjipnocemioaaa
namespace Go.Proofs.Ythjipnocemioaaa
open Go.RowKit

/-- A cell: its row, its column, how far it goes down and to the right, its text. -/
abbrev Cl := Int × Int × Int × Int × List Sg
def cl0 : Cl := (0, 0, 0, 0, [])

/-- The cells of a table's cell at block b from o on. -/
def CellAt (w : World) (b o : Nat) (x : Cl) : Prop :=
  w.cell? ⟨b, o, none⟩ = some (.int .i64 x.1) ∧ w.cell? ⟨b, o + 1, none⟩ = some (.int .i64 x.2.1) ∧ w.cell? ⟨b, o + 2, none⟩ = some (.int .i64 x.2.2.1) ∧ w.cell? ⟨b, o + 3, none⟩ = some (.int .i64 x.2.2.2.1) ∧
    ∃ a n cap, w.cell? ⟨b, o + 4, none⟩ = some (.slice a n cap) ∧ Txt w a n cap x.2.2.2.2

/-- A slice value that reads as the cells l. -/
def Tab (w : World) (a : Option Addr) (n cap : Nat) (l : List Cl) : Prop :=
  n = l.length ∧ n ≤ cap ∧ cap ≤ maxLen ∧ (l = [] ∨ ∃ b off, a = some ⟨b, off, none⟩ ∧ b < w.heap.size ∧ ∀ k, k < l.length → CellAt w b (off + k * 5) (l.getD k cl0))

theorem CellAt.below {w w' : World} {b o : Nat} {x : Cl} (h : CellAt w b o x) (hb : Below w.heap.size w w') (hlt : b < w.heap.size) : CellAt w' b o x := by
  obtain ⟨h0, h1, h2, h3, a, n, cap, h4, ht⟩ := h
  exact ⟨(hb.cell (p := ⟨b, _, none⟩) hlt).trans h0, (hb.cell (p := ⟨b, _, none⟩) hlt).trans h1, (hb.cell (p := ⟨b, _, none⟩) hlt).trans h2, (hb.cell (p := ⟨b, _, none⟩) hlt).trans h3, a, n, cap, (hb.cell (p := ⟨b, _, none⟩) hlt).trans h4, ht.below hb⟩
theorem Tab.below {w w' : World} {a : Option Addr} {n cap : Nat} {l : List Cl} (h : Tab w a n cap l) (hb : Below w.heap.size w w') : Tab w' a n cap l := by
  obtain ⟨h1, h2, h3, h4⟩ := h
  refine ⟨h1, h2, h3, ?_⟩
  rcases h4 with h4 | ⟨b, off, h5, h6, h7⟩
  · exact .inl h4
  · exact .inr ⟨b, off, h5, Nat.lt_of_lt_of_le h6 hb.size, fun k hk => (h7 k hk).below hb h6⟩

def inB (x : Cl) (r c : Int) : Bool := decide (x.1 ≤ r ∧ r < x.1 + x.2.2.1 ∧ x.2.1 ≤ c ∧ c < x.2.1 + x.2.2.2.1)
/-- Numbers that no sum of two takes out of range. -/
def sml (n : Int) : Prop := -1000000 ≤ n ∧ n ≤ 1000000

set_option maxHeartbeats 1000000 in
theorem l2In_any (r c d h : Int) (ta : Option Addr) (tn tc : Nat) (a b : Int) (w : World) (hr : sml r) (hc : sml c) (hd : sml d) (hh : sml h) :
    Calls Try.prog 76 #[.agg #[.int .i64 r, .int .i64 c, .int .i64 d, .int .i64 h, .slice ta tn tc], .int .i64 a, .int .i64 b] w fun e w' => e = .returned (.bool (inB (r, c, d, h, []) a b)) ∧ Below w.heap.size w w' := by
  obtain ⟨r0, r1⟩ := hr
  obtain ⟨c0, c1⟩ := hc
  obtain ⟨d0, d1⟩ := hd
  obtain ⟨e0, e1⟩ := hh
  go_enter Try.func76, Try.ntmps76
  go_wp2
  all_goals go_ret
  all_goals refine ⟨congrArg (fun x => Ending.returned (.bool x)) ?_, (Below.refl _ _).alloc (Nat.le_refl _) _⟩
  all_goals show _ = decide (r ≤ a ∧ a < r + d ∧ c ≤ b ∧ b < c + h)
  all_goals first | exact decide_eq_decide.2 (by omega) | exact (decide_eq_false (by omega)).symm

/-- A cell in form, in a table of so many rows and columns. -/
def cellB (R C : Int) (x : Cl) : Bool := decide (0 ≤ x.1 ∧ x.1 ≤ R - 1) && decide (0 ≤ x.2.1 ∧ x.2.1 ≤ C - 1) && decide (1 ≤ x.2.2.1 ∧ x.2.2.1 ≤ R - x.1) && decide (1 ≤ x.2.2.2.1 ∧ x.2.2.2.1 ≤ C - x.2.1) && textB x.2.2.2.2
/-- One cell ahead of another. -/
def ahead (x y : Cl) : Bool := decide (x.1 < y.1 ∨ x.1 = y.1 ∧ x.2.1 < y.2.1)
/-- The cell at k in form, and behind the one ahead of it. -/
def atB (R C : Int) (l : List Cl) (k : Nat) : Bool := cellB R C (l.getD k cl0) && (decide (k = 0) || ahead (l.getD (k - 1) cl0) (l.getD k cl0))
def tabV (R C : Int) (a : Option Addr) (n cap : Nat) : Value := .agg #[.int .i64 R, .int .i64 C, .slice a n cap]
def formB (R C : Int) (l : List Cl) : Bool := decide (1 ≤ R ∧ R ≤ 5) && decide (1 ≤ C ∧ C ≤ 5) && decide (l.length ≤ 25) && (List.range l.length).all (atB R C l)

theorem formB_0 {R C : Int} {l : List Cl} (h : decide (1 ≤ R ∧ R ≤ 5) = false) : formB R C l = false := by simp [formB, h]
theorem formB_1 {R C : Int} {l : List Cl} (h : decide (1 ≤ C ∧ C ≤ 5) = false) : formB R C l = false := by simp [formB, h]
theorem formB_2 {R C : Int} {l : List Cl} (h : ¬ l.length ≤ 25) : formB R C l = false := by simp [formB, h]
theorem formB_3 {R C : Int} {l : List Cl} (h0 : decide (1 ≤ R ∧ R ≤ 5) = true) (h1 : decide (1 ≤ C ∧ C ≤ 5) = true) (h2 : l.length ≤ 25) : formB R C l = (List.range l.length).all (atB R C l) := by simp only [formB, h0, h1, h2, decide_true, Bool.true_and]
theorem range_all_succ (n : Nat) (p : Nat → Bool) : (List.range (n + 1)).all p = ((List.range n).all p && p n) := by simp [List.range_succ]
theorem range_all_false {n k : Nat} {p : Nat → Bool} (hk : k < n) (h : p k = false) : (List.range n).all p = false := by
  rw [← Bool.not_eq_true, List.all_eq_true]
  intro hh
  rw [hh k (by simpa using hk)] at h
  exact absurd h (by simp)

set_option maxRecDepth 100000 in
set_option maxHeartbeats 4000000 in
theorem l2Form_any (R C : Int) (a : Option Addr) (n cap : Nat) (l : List Cl) (w : World) (h : Tab w a n cap l) :
    Calls Try.prog 75 #[.agg #[.int .i64 R, .int .i64 C, .slice a n cap]] w fun e w' => e = .returned (.bool (formB R C l)) ∧ Below w.heap.size w w' := by
  obtain ⟨rfl, hc, hm, hl⟩ := h
  unfold maxLen at hm
  cases h0 : decide (1 ≤ R ∧ R ≤ 5)
  · rw [formB_0 h0]
    have H0 : Hid (decide (1 ≤ R ∧ R ≤ 5) = false) := h0
    clear h0
    go_enter Try.func75, Try.ntmps75
    go_wp2_with (go_at_call 53; refine (l6In_of H0.out _).mono ?_; rintro e w1 ⟨rfl, rfl⟩)
    go_ret
    exact ⟨rfl, (Below.refl _ _).alloc (Nat.le_refl _) _⟩
  cases h1 : decide (1 ≤ C ∧ C ≤ 5)
  · rw [formB_1 h1]
    have H0 : Hid (decide (1 ≤ R ∧ R ≤ 5) = true) := h0
    have H1 : Hid (decide (1 ≤ C ∧ C ≤ 5) = false) := h1
    clear h0 h1
    go_enter Try.func75, Try.ntmps75
    go_wp2_with (first | (go_at_call_of 53 (Value.int IntKind.i64 R); refine (l6In_of H0.out _).mono ?_; rintro e w1 ⟨rfl, rfl⟩) | (go_at_call_of 53 (Value.int IntKind.i64 C); refine (l6In_of H1.out _).mono ?_; rintro e w1 ⟨rfl, rfl⟩))
    go_ret
    exact ⟨rfl, (Below.refl _ _).alloc (Nat.le_refl _) _⟩
  by_cases h2 : l.length ≤ 25
  · rw [formB_3 h0 h1 h2]
    have hR := of_decide_eq_true h0
    have hC := of_decide_eq_true h1
    have H0 : Hid (decide (1 ≤ R ∧ R ≤ 5) = true) := h0
    have H1 : Hid (decide (1 ≤ C ∧ C ≤ 5) = true) := h1
    have H2 : decide ((25 : Int) < (l.length : Int)) = false := by simp; omega
    clear h0 h1
    go_enter Try.func75, Try.ntmps75
    go_wp2_with (first | (go_at_call_of 53 (Value.int IntKind.i64 R); refine (l6In_of H0.out _).mono ?_; rintro e w1 ⟨rfl, rfl⟩) | (go_at_call_of 53 (Value.int IntKind.i64 C); refine (l6In_of H1.out _).mono ?_; rintro e w1 ⟨rfl, rfl⟩))
    rcases hl with rfl | ⟨b, off, rfl, hbw, hl⟩
    · refine wp_loop_rounds 1 ?_
      rw [rounds_succ]
      go_wp2_with fail
      go_ret
      exact ⟨rfl, (Below.refl _ _).alloc (Nat.le_refl _) _⟩
    have B0 : Below w.heap.size w (w.alloc (Obj.cells #[.int .i64 R, .int .i64 C, .slice (some ⟨b, off, none⟩) l.length cap] 47)) := (Below.refl _ _).alloc (Nat.le_refl _) _
    have k0 : (w.alloc (Obj.cells #[.int .i64 R, .int .i64 C, .slice (some ⟨b, off, none⟩) l.length cap] 47)).cell? ⟨w.heap.size, 0, none⟩ = some (.int .i64 R) := by simp
    have k1 : (w.alloc (Obj.cells #[.int .i64 R, .int .i64 C, .slice (some ⟨b, off, none⟩) l.length cap] 47)).cell? ⟨w.heap.size, 1, none⟩ = some (.int .i64 C) := by simp
    have k2 : (w.alloc (Obj.cells #[.int .i64 R, .int .i64 C, .slice (some ⟨b, off, none⟩) l.length cap] 47)).cell? ⟨w.heap.size, 2, none⟩ = some (.slice (some ⟨b, off, none⟩) l.length cap) := by simp
    have z0 : w.heap.size < (w.alloc (Obj.cells #[.int .i64 R, .int .i64 C, .slice (some ⟨b, off, none⟩) l.length cap] 47)).heap.size := by simp
    generalize (w.alloc (Obj.cells #[.int .i64 R, .int .i64 C, .slice (some ⟨b, off, none⟩) l.length cap] 47)) = v at B0 k0 k1 k2 z0 ⊢
    go_loopw [3] (fun i wr => ∃ k : Nat, k ≤ l.length ∧ i = .int .i64 k ∧ (List.range k).all (atB R C l) = true ∧ Below v.heap.size v wr) (fun i _ => l.length - (intOf i).toNat)
    case atStart => exact ⟨0, Nat.zero_le _, rfl, by simp, Below.refl _ _⟩
    case round =>
      obtain ⟨k, hk, rfl, hall, hbl⟩ := hrel
      have HA : Hid ((List.range k).all (atB R C l) = true) := hall
      clear hall
      have HB : Hid (Below w.heap.size w wr) := B0.trans (hbl.mono (Nat.le_of_lt z0))
      have HVr : Hid (Below v.heap.size v wr) := hbl
      have j0 := (hbl.cell (p := ⟨w.heap.size, 0, none⟩) z0).trans k0
      have j1 := (hbl.cell (p := ⟨w.heap.size, 1, none⟩) z0).trans k1
      have j2 := (hbl.cell (p := ⟨w.heap.size, 2, none⟩) z0).trans k2
      have hsz : w.heap.size < wr.heap.size := Nat.lt_of_lt_of_le z0 hbl.size
      clear k0 k1 k2 B0 hbl z0
      by_cases hlt : k < l.length
      · obtain ⟨c0, c1, c2, c3, ta, tn, tc, c4, ht⟩ := (hl k hlt).below HB.out hbw
        obtain ⟨⟨r, c, d, g, t⟩, hx⟩ : ∃ x, x = l.getD k cl0 := ⟨_, rfl⟩
        rw [← hx] at c0 c1 c2 c3 ht
        simp only at c0 c1 c2 c3 ht
        have HX : Hid ((r, c, d, g, t) = l.getD k cl0) := hx
        have HT : Hid (Txt wr ta tn tc t) := ht
        have HL : Hid (∀ k, k < l.length → CellAt w b (off + k * 5) (l.getD k cl0)) := hl
        clear hl hx ht
        cases q0 : decide (0 ≤ r ∧ r ≤ R - 1)
        · have HF : Hid ((List.range l.length).all (atB R C l) = false) := range_all_false hlt (by simp only [atB, ← HX.out, cellB, q0, Bool.false_and])
          have Q0 : Hid (decide (0 ≤ r ∧ r ≤ R - 1) = false) := q0
          clear q0
          go_wp2_with (first | (go_at_call_of 53 (Value.int IntKind.i64 r); refine (l6In_of Q0.out _).mono ?_; rintro e w1 ⟨rfl, rfl⟩))
          go_ret
          exact ⟨by rw [HF.out]; rfl, HB.out.alloc (Nat.le_of_lt hsz) _⟩
        have o0 := of_decide_eq_true q0
        have Q0 : Hid (decide (0 ≤ r ∧ r ≤ R - 1) = true) := q0
        cases q1 : decide (0 ≤ c ∧ c ≤ C - 1)
        · have HF : Hid ((List.range l.length).all (atB R C l) = false) := range_all_false hlt (by simp only [atB, ← HX.out, cellB, q0, q1, Bool.false_and, Bool.true_and])
          have Q1 : Hid (decide (0 ≤ c ∧ c ≤ C - 1) = false) := q1
          clear q0 q1
          go_wp2_with (first | (go_at_call_of 53 (Value.int IntKind.i64 r); refine (l6In_of Q0.out _).mono ?_; rintro e w1 ⟨rfl, rfl⟩) | (go_at_call_of 53 (Value.int IntKind.i64 c); refine (l6In_of Q1.out _).mono ?_; rintro e w1 ⟨rfl, rfl⟩))
          go_ret
          exact ⟨by rw [HF.out]; rfl, HB.out.alloc (Nat.le_of_lt hsz) _⟩
        have o1 := of_decide_eq_true q1
        have Q1 : Hid (decide (0 ≤ c ∧ c ≤ C - 1) = true) := q1
        cases q2 : decide (1 ≤ d ∧ d ≤ R - r)
        · have HF : Hid ((List.range l.length).all (atB R C l) = false) := range_all_false hlt (by simp only [atB, ← HX.out, cellB, q0, q1, q2, Bool.false_and, Bool.true_and])
          have Q2 : Hid (decide (1 ≤ d ∧ d ≤ R - r) = false) := q2
          clear q0 q1 q2
          go_wp2_with (first | (go_at_call_of 53 (Value.int IntKind.i64 r); refine (l6In_of Q0.out _).mono ?_; rintro e w1 ⟨rfl, rfl⟩) | (go_at_call_of 53 (Value.int IntKind.i64 c); refine (l6In_of Q1.out _).mono ?_; rintro e w1 ⟨rfl, rfl⟩) | (go_at_call_of 53 (Value.int IntKind.i64 d); refine (l6In_of Q2.out _).mono ?_; rintro e w1 ⟨rfl, rfl⟩))
          go_ret
          exact ⟨by rw [HF.out]; rfl, HB.out.alloc (Nat.le_of_lt hsz) _⟩
        have o2 := of_decide_eq_true q2
        have Q2 : Hid (decide (1 ≤ d ∧ d ≤ R - r) = true) := q2
        cases q3 : decide (1 ≤ g ∧ g ≤ C - c)
        · have HF : Hid ((List.range l.length).all (atB R C l) = false) := range_all_false hlt (by simp only [atB, ← HX.out, cellB, q0, q1, q2, q3, Bool.false_and, Bool.true_and])
          have Q3 : Hid (decide (1 ≤ g ∧ g ≤ C - c) = false) := q3
          clear q0 q1 q2 q3
          go_wp2_with (first | (go_at_call_of 53 (Value.int IntKind.i64 r); refine (l6In_of Q0.out _).mono ?_; rintro e w1 ⟨rfl, rfl⟩) | (go_at_call_of 53 (Value.int IntKind.i64 c); refine (l6In_of Q1.out _).mono ?_; rintro e w1 ⟨rfl, rfl⟩) | (go_at_call_of 53 (Value.int IntKind.i64 d); refine (l6In_of Q2.out _).mono ?_; rintro e w1 ⟨rfl, rfl⟩) | (go_at_call_of 53 (Value.int IntKind.i64 g); refine (l6In_of Q3.out _).mono ?_; rintro e w1 ⟨rfl, rfl⟩))
          go_ret
          exact ⟨by rw [HF.out]; rfl, HB.out.alloc (Nat.le_of_lt hsz) _⟩
        have o3 := of_decide_eq_true q3
        have Q3 : Hid (decide (1 ≤ g ∧ g ≤ C - c) = true) := q3
        cases q4 : textB t
        · have HF : Hid ((List.range l.length).all (atB R C l) = false) := range_all_false hlt (by simp only [atB, ← HX.out, cellB, q0, q1, q2, q3, q4, Bool.false_and, Bool.true_and])
          have Q4 : Hid (textB t = false) := q4
          clear q0 q1 q2 q3 q4
          go_wp2_with (first | (go_at_call_of 53 (Value.int IntKind.i64 r); refine (l6In_of Q0.out _).mono ?_; rintro e w1 ⟨rfl, rfl⟩) | (go_at_call_of 53 (Value.int IntKind.i64 c); refine (l6In_of Q1.out _).mono ?_; rintro e w1 ⟨rfl, rfl⟩) | (go_at_call_of 53 (Value.int IntKind.i64 d); refine (l6In_of Q2.out _).mono ?_; rintro e w1 ⟨rfl, rfl⟩) | (go_at_call_of 53 (Value.int IntKind.i64 g); refine (l6In_of Q3.out _).mono ?_; rintro e w1 ⟨rfl, rfl⟩) | (go_at_call 56; refine (specTextOk_is (HT.out.below ((Below.refl _ _).alloc (Nat.le_refl _) _)) Q4.out).mono ?_; rintro e w2 ⟨rfl, hb2⟩))
          go_ret
          exact ⟨by rw [HF.out]; rfl, (HB.out.alloc (Nat.le_of_lt hsz) _).trans (hb2.mono (by simp; omega))⟩
        have Q4 : Hid (textB t = true) := q4
        have HC : Hid (cellB R C (l.getD k cl0) = true) := by
          show cellB R C (l.getD k cl0) = true
          simp only [← HX.out, cellB, q0, q1, q2, q3, q4, Bool.true_and]
        clear q0 q1 q2 q3 q4
        go_wp2_with (first | (go_at_call_of 53 (Value.int IntKind.i64 r); refine (l6In_of Q0.out _).mono ?_; rintro e w1 ⟨rfl, rfl⟩) | (go_at_call_of 53 (Value.int IntKind.i64 c); refine (l6In_of Q1.out _).mono ?_; rintro e w1 ⟨rfl, rfl⟩) | (go_at_call_of 53 (Value.int IntKind.i64 d); refine (l6In_of Q2.out _).mono ?_; rintro e w1 ⟨rfl, rfl⟩) | (go_at_call_of 53 (Value.int IntKind.i64 g); refine (l6In_of Q3.out _).mono ?_; rintro e w1 ⟨rfl, rfl⟩) | (go_at_call 56; refine (specTextOk_is (HT.out.below ((Below.refl _ _).alloc (Nat.le_refl _) _)) Q4.out).mono ?_; rintro e w2 ⟨rfl, hb2⟩))
        have bA : Below wr.heap.size wr (wr.alloc (Obj.cells #[.int .i64 r, .int .i64 c, .int .i64 d, .int .i64 g, .slice ta tn tc] 59)) := (Below.refl _ _).alloc (Nat.le_refl _) _
        have b2 : Below wr.heap.size wr w2 := bA.trans (hb2.mono (by simp))
        have d0 : w2.cell? ⟨wr.heap.size, 0, none⟩ = some (.int .i64 r) := (hb2.cell (p := ⟨wr.heap.size, 0, none⟩) (by simp)).trans (by simp)
        have d1 : w2.cell? ⟨wr.heap.size, 1, none⟩ = some (.int .i64 c) := (hb2.cell (p := ⟨wr.heap.size, 1, none⟩) (by simp)).trans (by simp)
        have t2 := (b2.cell (p := ⟨w.heap.size, 2, none⟩) hsz).trans j2
        have HB2 : Hid (Below w.heap.size w w2) := HB.out.trans (b2.mono (Nat.le_of_lt hsz))
        have HV : Hid (Below v.heap.size v w2) := HVr.out.trans (b2.mono HVr.out.size)
        clear bA b2 hb2 c0 c1 c2 c3 c4 j0 j1 j2 o0 o1 o2 o3
        by_cases hk0 : k = 0
        · subst hk0
          go_quiet (fail)
          go_wp2_with fail
          go_roundw
          case rel => exact ⟨1, by omega, by go_num, by rw [range_all_succ, HA.out]; simp only [atB, HC.out]; rfl, below_drewN HV.out _⟩
          case measure => simp [intOf]; omega
        have hz : 0 < k := by omega
        obtain ⟨j, hj, hjl, hk1, HJ⟩ : ∃ j : Nat, Hid (k - 1 = j) ∧ j < l.length ∧ ((k : Int) - 1) = (j : Int) ∧ Hid (k = j + 1) := ⟨k - 1, rfl, by omega, by omega, show k = k - 1 + 1 from by omega⟩
        obtain ⟨e0, e1, -⟩ := (HL.out j hjl).below HB2.out hbw
        obtain ⟨⟨r', c', y⟩, hy⟩ : ∃ x, x = l.getD j cl0 := ⟨_, rfl⟩
        rw [← hy] at e0 e1
        simp only at e0 e1
        have HY : Hid ((r', c', y) = l.getD j cl0) := hy
        clear hy hk0
        have HAt : Hid (atB R C l k = ahead (r', c', y) (r, c, d, g, t)) := by
          show atB R C l k = _
          have n0 : decide (k = 0) = false := decide_eq_false (by omega)
          unfold atB
          rw [HC.out, hj.out, ← HX.out, ← HY.out, n0]
          rfl
        rcases (show (r < r') ∨ (r' < r) ∨ (r' = r ∧ c ≤ c') ∨ (r' = r ∧ c' < c) from by omega) with m0 | m0 | ⟨m0, m1⟩ | ⟨m0, m1⟩
        · have HF : Hid ((List.range l.length).all (atB R C l) = false) := range_all_false hlt (by rw [HAt.out]; exact decide_eq_false (by simp only; omega))
          go_quiet (fail)
          go_wp2_with fail
          go_ret
          exact ⟨by rw [HF.out]; rfl, below_drewN HB2.out _⟩
        · have n1 : ¬ r < r' := by omega
          have n2 : (r' == r) = false := by simp; omega
          have HG : Hid (atB R C l k = true) := HAt.out.trans (decide_eq_true (by simp only; omega))
          go_quiet (fail)
          go_wp2_with fail
          go_roundw
          case rel => exact ⟨k + 1, by omega, by go_num, by rw [range_all_succ, HA.out, HG.out]; rfl, below_drewN HV.out _⟩
          case measure => simp [intOf]; omega
        · have HF : Hid ((List.range l.length).all (atB R C l) = false) := range_all_false hlt (by rw [HAt.out]; exact decide_eq_false (by simp only; omega))
          subst m0
          go_quiet (fail)
          go_wp2_with fail
          go_ret
          exact ⟨by rw [HF.out]; rfl, below_drewN HB2.out _⟩
        · have HG : Hid (atB R C l k = true) := HAt.out.trans (decide_eq_true (by simp only; omega))
          subst m0
          have n3 : ¬ c ≤ c' := by omega
          go_quiet (fail)
          go_wp2_with fail
          go_roundw
          case rel => exact ⟨k + 1, by omega, by go_num, by rw [range_all_succ, HA.out, HG.out]; rfl, below_drewN HV.out _⟩
          case measure => simp [intOf]; omega
      · go_wp2_with fail
        go_ret
        exact ⟨by have hh := HA.out; rw [show k = l.length from by omega] at hh; rw [hh]; rfl, HB.out⟩
  · rw [formB_2 h2]
    have H0 : Hid (decide (1 ≤ R ∧ R ≤ 5) = true) := h0
    have H1 : Hid (decide (1 ≤ C ∧ C ≤ 5) = true) := h1
    have H2 : (25 : Int) < (l.length : Int) := by omega
    clear h0 h1
    go_enter Try.func75, Try.ntmps75
    go_wp2_with (first | (go_at_call_of 53 (Value.int IntKind.i64 R); refine (l6In_of H0.out _).mono ?_; rintro e w1 ⟨rfl, rfl⟩) | (go_at_call_of 53 (Value.int IntKind.i64 C); refine (l6In_of H1.out _).mono ?_; rintro e w1 ⟨rfl, rfl⟩))
    go_ret
    exact ⟨rfl, (Below.refl _ _).alloc (Nat.le_refl _) _⟩
end Go.Proofs.Ythjipnocemioaaa
namespace Go.Proofs.Ythjipnocemioaaa
open Go.ChangeShapes Go.WideShapes Go.ChangeAt Go.RowKit

section
variable {H : Type} {enc : TypeId × Value → H} {w : World} {base : Nat} {spare : Nat → Bool} {held : Bool}
set_option maxRecDepth 100000 in
theorem cellsInt : Try.prog.cellsOf 3 = 1 := by kernel_rfl
set_option maxRecDepth 100000 in
theorem cellsSlS : Try.prog.cellsOf 86 = 1 := by kernel_rfl
set_option maxRecDepth 100000 in
theorem cellsSlC : Try.prog.cellsOf 87 = 1 := by kernel_rfl
set_option maxRecDepth 100000 in
theorem cellsCell : Try.prog.cellsOf 133 = 5 := by kernel_rfl
set_option maxRecDepth 100000 in
theorem cellsTable : Try.prog.cellsOf 89 = 3 := by kernel_rfl

set_option maxRecDepth 100000 in
theorem open_text {fuel : Nat} {cs : List Value} {x : DataW H × List MemPlace} (h : DataW.trod enc Try.prog w base spare held fuel 86 cs = some x) :
    ∃ (a : Option Addr) (len cap : Nat) (l : List Sg), cs = [.slice a len cap] ∧ Txt w a len cap l :=
  open_signs Try.underlying86 Try.underlying127 (by kernel_rfl) rfl rfl rfl (by kernel_rfl) (by kernel_rfl) (by kernel_rfl) Try.underlying5 Try.underlying3 Try.underlying3 h

set_option maxRecDepth 100000 in
/-- A slice of cells that came in, opened. -/
theorem open_cells {fuel : Nat} {cs : List Value} {x : DataW H × List MemPlace} (h : DataW.trod enc Try.prog w base spare held fuel 87 cs = some x) :
    ∃ (a : Option Addr) (len cap : Nat) (l : List Cl), cs = [.slice a len cap] ∧ Tab w a len cap l := by
  rcases Go.Deep.open_slice Try.underlying87 h with ⟨rfl, _⟩ | ⟨a, len, cap, m, n, D, Pl, rfl, hb, hl, hm, hmm, rfl, hx⟩
  · exact ⟨none, 0, 0, [], rfl, rfl, Nat.le_refl _, Nat.zero_le _, .inl rfl⟩
  have hlm : len ≤ m := by rw [hmm]; split <;> omega
  have each : ∀ i, i < len → ∃ q : Cl, w.cell? (a.add (i * 5)) = some (.int .i64 q.1) ∧ w.cell? (a.add (i * 5 + 1)) = some (.int .i64 q.2.1) ∧ w.cell? (a.add (i * 5 + 2)) = some (.int .i64 q.2.2.1) ∧ w.cell? (a.add (i * 5 + 3)) = some (.int .i64 q.2.2.2.1) ∧
      ∃ a' n' cap', w.cell? (a.add (i * 5 + 4)) = some (.slice a' n' cap') ∧ Txt w a' n' cap' q.2.2.2.2 := by
    intro i hi
    obtain ⟨cs', h1, h2⟩ := hx i (by omega)
    rw [cellsCell] at h1
    obtain ⟨_, hlen, hcell⟩ := World.cells?_some h1
    obtain ⟨xs, k, hk, hxy, _, hxl, hf⟩ := DataW.trod_struct Try.underlying133 h2
    match xs, hxl, cs', hlen with
    | [y0, y1, y2, y3, y4], _, [v0, v1, v2, v3, v4], _ =>
      have g0 := hf 0 _ rfl
      have g1 := hf 1 _ rfl
      have g2 := hf 2 _ rfl
      have g3 := hf 3 _ rfl
      have g4 := hf 4 _ rfl
      simp [cellsInt, cellsSlS] at g0 g1 g2 g3 g4
      have e0 := hcell 0 (by omega)
      have e1 := hcell 1 (by omega)
      have e2 := hcell 2 (by omega)
      have e3 := hcell 3 (by omega)
      have e4 := hcell 4 (by omega)
      rw [Go.Deep.add_add] at e0 e1 e2 e3 e4
      obtain ⟨n0, r0, _⟩ := DataW.trod_int Try.underlying3 g0
      obtain ⟨n1, r1, _⟩ := DataW.trod_int Try.underlying3 g1
      obtain ⟨n2, r2, _⟩ := DataW.trod_int Try.underlying3 g2
      obtain ⟨n3, r3, _⟩ := DataW.trod_int Try.underlying3 g3
      obtain ⟨a', n', cap', l', r4, ht⟩ := open_text g4
      simp only [List.cons.injEq, and_true] at r0 r1 r2 r3 r4
      subst r0 r1 r2 r3 r4
      exact ⟨(n0, n1, n2, n3, l'), by simpa using e0, by simpa using e1, by simpa using e2, by simpa using e3, a', n', cap', by simpa using e4, ht⟩
  obtain ⟨q, hq⟩ := Go.Deep.choose_lt each
  refine ⟨some a, len, cap, (List.range len).map q, rfl, by simp, hl, hm, ?_⟩
  by_cases h0 : len = 0
  · subst h0; exact .inl (by simp)
  · obtain ⟨b, off, spot⟩ := a
    have hc := (hq 0 (by omega)).1
    have hspot : spot = none := by simpa [Addr.add] using World.cell?_spot hc
    subst hspot
    refine .inr ⟨b, off, rfl, by have := World.block_lt_of_cell? _ _ hc; simpa [Addr.add_lit] using this, ?_⟩
    intro k hk
    have hk' : k < len := by simpa using hk
    obtain ⟨a0, a1, a2, a3, a', n', cap', a4, ht⟩ := hq k hk'
    have e : ((List.range len).map q).getD k cl0 = q k := by simp [List.getD, hk']
    rw [e]
    simp only [Addr.add_lit] at a0 a1 a2 a3 a4
    exact ⟨a0, by rw [Nat.add_assoc]; exact a1, by rw [Nat.add_assoc]; exact a2, by rw [Nat.add_assoc]; exact a3, a', n', cap', by rw [Nat.add_assoc]; exact a4, ht⟩
set_option maxRecDepth 100000 in
/-- A table that came in, opened. -/
theorem open_table {fuel : Nat} {cs : List Value} {x : DataW H × List MemPlace} (h : DataW.trod enc Try.prog w base spare held fuel 89 cs = some x) :
    ∃ (R C : Int) (a : Option Addr) (len cap : Nat) (l : List Cl), cs = [.int .i64 R, .int .i64 C, .slice a len cap] ∧ Tab w a len cap l := by
  obtain ⟨xs, k, hk, hxy, hcl, hxl, hf⟩ := DataW.trod_struct Try.underlying89 h
  rw [cellsTable] at hcl
  match xs, hxl, cs, hcl with
  | [y0, y1, y2], _, [v0, v1, v2], _ =>
    have g0 := hf 0 _ rfl
    have g1 := hf 1 _ rfl
    have g2 := hf 2 _ rfl
    simp [cellsInt, cellsSlC] at g0 g1 g2
    obtain ⟨n0, r0, _⟩ := DataW.trod_int Try.underlying3 g0
    obtain ⟨n1, r1, _⟩ := DataW.trod_int Try.underlying3 g1
    obtain ⟨a', n', cap', l', r2, ht⟩ := open_cells g2
    simp only [List.cons.injEq, and_true] at r0 r1 r2
    subst r0 r1 r2
    exact ⟨n0, n1, a', n', cap', l', rfl, ht⟩
end
end Go.Proofs.Ythjipnocemioaaa
namespace Go.Proofs.Ythjipnocemioaaa
open Go.RowKit

theorem formB_of {R C : Int} {l : List Cl} (h : formB R C l = true) : (1 ≤ R ∧ R ≤ 5) ∧ (1 ≤ C ∧ C ≤ 5) ∧ l.length ≤ 25 ∧ ∀ k, k < l.length → atB R C l k = true := by
  simp only [formB, Bool.and_eq_true, decide_eq_true_eq, List.all_eq_true, List.mem_range] at h
  obtain ⟨⟨⟨h0, h1⟩, h2⟩, h3⟩ := h
  exact ⟨h0, h1, h2, h3⟩
theorem cellB_of {R C : Int} {x : Cl} (h : cellB R C x = true) : (0 ≤ x.1 ∧ x.1 ≤ R - 1) ∧ (0 ≤ x.2.1 ∧ x.2.1 ≤ C - 1) ∧ (1 ≤ x.2.2.1 ∧ x.2.2.1 ≤ R - x.1) ∧ (1 ≤ x.2.2.2.1 ∧ x.2.2.2.1 ≤ C - x.2.1) ∧ textB x.2.2.2.2 = true := by
  simp only [cellB, Bool.and_eq_true, decide_eq_true_eq] at h
  obtain ⟨⟨⟨⟨h0, h1⟩, h2⟩, h3⟩, h4⟩ := h
  exact ⟨h0, h1, h2, h3, h4⟩
theorem atB_cell {R C : Int} {l : List Cl} {k : Nat} (h : atB R C l k = true) : cellB R C (l.getD k cl0) = true := by
  simp only [atB, Bool.and_eq_true] at h
  exact h.1

/-- How many of the cells a square is of. -/
def cnt (l : List Cl) (r c : Int) : Nat := l.countP fun x => inB x r c
def colB (C : Int) (l : List Cl) (r : Nat) : Bool := (List.range C.toNat).all fun c => decide (cnt l r c = 1)
def okB (R C : Int) (l : List Cl) : Bool := formB R C l && (List.range R.toNat).all (colB C l)
theorem cnt_take_succ (l : List Cl) (r c : Int) (k : Nat) (hk : k < l.length) : cnt (l.take (k + 1)) r c = cnt (l.take k) r c + (inB (l.getD k cl0) r c).toNat := by
  have e : l.getD k cl0 = l[k] := by simp [List.getD, hk]
  unfold cnt
  rw [e, List.take_succ_eq_append_getElem hk, List.countP_append]
  cases h : inB l[k] r c <;> simp [h]
theorem cnt_le (l : List Cl) (r c : Int) : cnt l r c ≤ l.length := List.countP_le_length

theorem l2In_is {r c d h : Int} {t : List Sg} {a b : Int} {z : Bool} (hz : inB (r, c, d, h, t) a b = z) (ta : Option Addr) (tn tc : Nat) (w : World) (hr : sml r) (hc : sml c) (hd : sml d) (hh : sml h) :
    Calls Try.prog 76 #[.agg #[.int .i64 r, .int .i64 c, .int .i64 d, .int .i64 h, .slice ta tn tc], .int .i64 a, .int .i64 b] w fun e w' => e = .returned (.bool z) ∧ Below w.heap.size w w' := by
  subst hz
  exact l2In_any r c d h ta tn tc a b w hr hc hd hh
theorem l2Form_is {R C : Int} {a : Option Addr} {n cap : Nat} {l : List Cl} {w : World} {x : Bool} (hx : formB R C l = x) (h : Tab w a n cap l) :
    Calls Try.prog 75 #[.agg #[.int .i64 R, .int .i64 C, .slice a n cap]] w fun e w' => e = .returned (.bool x) ∧ Below w.heap.size w w' := hx ▸ l2Form_any R C a n cap l w h

set_option maxRecDepth 100000 in
set_option maxHeartbeats 4000000 in
theorem specTableOk_any (R C : Int) (a : Option Addr) (n cap : Nat) (l : List Cl) (w : World) (h : Tab w a n cap l) :
    Calls Try.prog 58 #[.agg #[.int .i64 R, .int .i64 C, .slice a n cap]] w fun e w' => e = .returned (.bool (okB R C l)) ∧ Below w.heap.size w w' := by
  have H : Hid (Tab w a n cap l) := h
  obtain ⟨rfl, hc, hm, hl⟩ := h
  unfold maxLen at hm
  cases hf : formB R C l
  · rw [show okB R C l = false from by simp only [okB, hf, Bool.false_and]]
    have HF : Hid (formB R C l = false) := hf
    clear hf hl
    go_enter Try.func58, Try.ntmps58
    go_wp2_with (go_at_call 75; refine (l2Form_is HF.out (H.out.below ((Below.refl _ _).alloc (Nat.le_refl _) _))).mono ?_; rintro e w1 ⟨rfl, hb1⟩)
    go_ret
    exact ⟨rfl, ((Below.refl _ _).alloc (Nat.le_refl _) _).trans (hb1.mono (by simp))⟩
  rw [show okB R C l = (List.range R.toNat).all (colB C l) from by simp only [okB, hf, Bool.true_and]]
  obtain ⟨hR, hC, hlen, hat⟩ := formB_of hf
  have HF : Hid (formB R C l = true) := hf
  have HT : Hid (∀ k, k < l.length → atB R C l k = true) := hat
  have HL : Hid (l = [] ∨ ∃ b off, a = some ⟨b, off, none⟩ ∧ b < w.heap.size ∧ ∀ k, k < l.length → CellAt w b (off + k * 5) (l.getD k cl0)) := hl
  clear hf hl hat
  go_enter Try.func58, Try.ntmps58
  go_wp2_with (go_at_call 75; refine (l2Form_is HF.out (H.out.below ((Below.refl _ _).alloc (Nat.le_refl _) _))).mono ?_; rintro e w1 ⟨rfl, hb1⟩)
  have k0 : w1.cell? ⟨w.heap.size, 0, none⟩ = some (.int .i64 R) := (hb1.cell (p := ⟨w.heap.size, 0, none⟩) (by simp)).trans (by simp)
  have k1 : w1.cell? ⟨w.heap.size, 1, none⟩ = some (.int .i64 C) := (hb1.cell (p := ⟨w.heap.size, 1, none⟩) (by simp)).trans (by simp)
  have k2 : w1.cell? ⟨w.heap.size, 2, none⟩ = some (.slice a l.length cap) := (hb1.cell (p := ⟨w.heap.size, 2, none⟩) (by simp)).trans (by simp)
  have z0 : w.heap.size < w1.heap.size := by have := hb1.size; simp at this; omega
  have B0 : Hid (Below w.heap.size w w1) := ((Below.refl _ _).alloc (Nat.le_refl _) _).trans (hb1.mono (by simp))
  clear hb1
  go_loopw [3] (fun i wr => ∃ k : Nat, (k : Int) ≤ R ∧ i = .int .i64 k ∧ (List.range k).all (colB C l) = true ∧ Below w1.heap.size w1 wr) (fun i _ => R.toNat - (intOf i).toNat)
  case atStart => exact ⟨0, by omega, rfl, by simp, Below.refl _ _⟩
  case round =>
    obtain ⟨p, hp, rfl, hall, hbl⟩ := hrel
    have HA : Hid ((List.range p).all (colB C l) = true) := hall
    have HB : Hid (Below w1.heap.size w1 wr) := hbl
    have j0 := (hbl.cell (p := ⟨w.heap.size, 0, none⟩) z0).trans k0
    have j1 := (hbl.cell (p := ⟨w.heap.size, 1, none⟩) z0).trans k1
    have j2 := (hbl.cell (p := ⟨w.heap.size, 2, none⟩) z0).trans k2
    have zr : w.heap.size < wr.heap.size := Nat.lt_of_lt_of_le z0 hbl.size
    have sr := hbl.size
    clear hall hbl
    by_cases hlt : (p : Int) < R
    · clear k0 k1 k2
      go_wp2_with fail
      go_loopw [4] (fun i wq => ∃ k : Nat, (k : Int) ≤ C ∧ i = .int .i64 k ∧ ((List.range k).all fun c => decide (cnt l p c = 1)) = true ∧ Below wr.heap.size wr wq) (fun i _ => C.toNat - (intOf i).toNat)
      case atStart => exact ⟨0, by omega, rfl, by simp, Below.refl _ _⟩
      case round =>
        obtain ⟨q, hq, rfl, hall, hbl⟩ := hrel
        have HA2 : Hid (((List.range q).all fun c => decide (cnt l p c = 1)) = true) := hall
        have HB2 : Hid _ := hbl
        have i0 := (hbl.cell (p := ⟨w.heap.size, 0, none⟩) zr).trans j0
        have i1 := (hbl.cell (p := ⟨w.heap.size, 1, none⟩) zr).trans j1
        have i2 := (hbl.cell (p := ⟨w.heap.size, 2, none⟩) zr).trans j2
        have zq := Nat.lt_of_lt_of_le zr hbl.size
        have sq := hbl.size
        clear hall hbl
        by_cases hlq : (q : Int) < C
        · clear j0 j1 j2
          go_wp2_with fail
          go_loopw [5, 6] (fun nv i wi => ∃ k : Nat, k ≤ l.length ∧ i = .int .i64 k ∧ nv = .int .i64 (cnt (l.take k) p q : Nat) ∧ Below wr.heap.size wr wi) (fun _ i _ => l.length - (intOf i).toNat)
          case atStart => exact ⟨0, by omega, rfl, rfl, Below.refl _ _⟩
          case round =>
            obtain ⟨k, hk, rfl, rfl, hbl⟩ := hrel
            have HB3 : Hid _ := hbl
            have g0 := (hbl.cell (p := ⟨w.heap.size, 0, none⟩) zq).trans i0
            have g1 := (hbl.cell (p := ⟨w.heap.size, 1, none⟩) zq).trans i1
            have g2 := (hbl.cell (p := ⟨w.heap.size, 2, none⟩) zq).trans i2
            have zi := Nat.lt_of_lt_of_le zq hbl.size
            have si := hbl.size
            clear hbl i0 i1 i2
            have HW : Hid (Below w.heap.size w wr) := B0.out.trans ((HB.out.trans ((HB2.out.trans (HB3.out.mono sq)).mono sr)).mono (Nat.le_of_lt z0))
            by_cases hlk : k < l.length
            · rcases HL.out with e | ⟨b, off, rfl, hbw, hl⟩
              · rw [e] at hlk
                exact absurd hlk (by simp)
              obtain ⟨c0, c1, c2, c3, ta, tn, tc, c4, -⟩ := (hl k hlk).below HW.out hbw
              obtain ⟨⟨s0, s1⟩, ⟨s2, s3⟩, ⟨s4, s5⟩, ⟨s6, s7⟩, -⟩ := cellB_of (atB_cell (HT.out k hlk))
              have hn := cnt_take_succ l p q k hlk
              have hle := cnt_le (l.take k) p q
              obtain ⟨⟨r, c, d, g, t⟩, hx⟩ : ∃ x, x = l.getD k cl0 := ⟨_, rfl⟩
              rw [← hx] at c0 c1 c2 c3 s0 s1 s2 s3 s4 s5 s6 s7 hn
              simp only at c0 c1 c2 c3 s0 s1 s2 s3 s4 s5 s6 s7
              rw [List.length_take] at hle
              generalize cnt (l.take k) p q = m at hn hle ⊢
              have hm25 : m ≤ 25 := by omega
              clear hle hx hl
              have y0 : sml r := ⟨by omega, by omega⟩
              have y1 : sml c := ⟨by omega, by omega⟩
              have y2 : sml d := ⟨by omega, by omega⟩
              have y3 : sml g := ⟨by omega, by omega⟩
              clear s0 s1 s2 s3 s4 s5 s6 s7
              cases hz : inB (r, c, d, g, t) p q
              · rw [hz] at hn
                have HN : Hid (cnt (l.take (k + 1)) p q = m) := hn
                have HZ : Hid (inB (r, c, d, g, t) p q = false) := hz
                clear hn hz
                go_wp2_with (go_at_call 76; refine (l2In_is (t := t) HZ.out ta tn tc _ y0 y1 y2 y3).mono ?_; rintro e w3 ⟨rfl, hb3⟩)
                go_roundw
                case rel => exact ⟨k + 1, by omega, by go_num, by rw [HN.out], HB3.out.trans (hb3.mono si)⟩
                case measure => simp [intOf]; omega
              · rw [hz] at hn
                have HN : Hid (cnt (l.take (k + 1)) p q = m + 1) := hn
                have HZ : Hid (inB (r, c, d, g, t) p q = true) := hz
                clear hn hz
                go_wp2_with (go_at_call 76; refine (l2In_is (t := t) HZ.out ta tn tc _ y0 y1 y2 y3).mono ?_; rintro e w3 ⟨rfl, hb3⟩)
                go_roundw
                case rel => exact ⟨k + 1, by omega, by go_num, by rw [HN.out]; go_num, HB3.out.trans (hb3.mono si)⟩
                case measure => simp [intOf]; omega
            · have e : l.take k = l := List.take_of_length_le (by omega)
              rw [e]
              have hle := cnt_le l p q
              by_cases h1 : cnt l p q = 1
              · have HC1 : Hid (cnt l p q = 1) := h1
                rw [h1]
                clear e hle h1
                go_wp2_with fail
                go_roundw
                case rel => exact ⟨q + 1, by omega, by go_num, by rw [range_all_succ, HA2.out, HC1.out]; rfl, HB2.out.trans (HB3.out.mono sq)⟩
                case measure => simp [intOf]; omega
              · have HF : Hid ((List.range R.toNat).all (colB C l) = false) := range_all_false (k := p) (by omega) (range_all_false (k := q) (by omega) (decide_eq_false h1))
                generalize cnt l p q = m at h1 hle ⊢
                have hb : ((m : Int) != 1) = true := by simp; omega
                clear e
                go_wp2_with fail
                go_ret
                exact ⟨by rw [HF.out]; rfl, HW.out⟩
        · clear j1 j2
          go_wp2_with fail
          go_roundw
          case rel => exact ⟨p + 1, by omega, by go_num, by rw [range_all_succ, HA.out]; have hh := HA2.out; rw [show q = C.toNat from by omega] at hh; simp only [colB, hh]; rfl, HB.out.trans (HB2.out.mono sr)⟩
          case measure => simp [intOf]; omega
    · go_wp2_with fail
      go_ret
      exact ⟨by have hh := HA.out; rw [show p = R.toNat from by omega] at hh; rw [hh]; rfl, B0.out.trans (HB.out.mono (Nat.le_of_lt z0))⟩
end Go.Proofs.Ythjipnocemioaaa
namespace Go.Proofs.Ythjipnocemioaaa
open Go.RowKit

/-- The number of the first cell that a square is of. -/
def atN (R C : Int) (l : List Cl) (r c : Int) : Int := if okB R C l then (match l.findIdx? fun x => inB x r c with | some i => (i : Int) | none => -1) else -1
theorem okB_form {R C : Int} {l : List Cl} (h : okB R C l = true) : formB R C l = true := by
  simp only [okB, Bool.and_eq_true] at h
  exact h.1
theorem specTableOk_is {R C : Int} {a : Option Addr} {n cap : Nat} {l : List Cl} {w : World} {x : Bool} (hx : okB R C l = x) (h : Tab w a n cap l) :
    Calls Try.prog 58 #[.agg #[.int .i64 R, .int .i64 C, .slice a n cap]] w fun e w' => e = .returned (.bool x) ∧ Below w.heap.size w w' := hx ▸ specTableOk_any R C a n cap l w h
theorem findIdx_some (l : List Cl) (k : Nat) (r c : Int) (hk : k < l.length) (h0 : ∀ j, j < k → inB (l.getD j cl0) r c = false) (h1 : inB (l.getD k cl0) r c = true) : (l.findIdx? fun x => inB x r c) = some k := by
  rw [List.findIdx?_eq_some_iff_getElem]
  refine ⟨hk, by simpa [List.getD, hk] using h1, ?_⟩
  intro j hj
  have := h0 j hj
  simpa [List.getD, show j < l.length from by omega] using this
theorem findIdx_none (l : List Cl) (r c : Int) (h0 : ∀ j, j < l.length → inB (l.getD j cl0) r c = false) : (l.findIdx? fun x => inB x r c) = none := by
  rw [List.findIdx?_eq_none_iff]
  intro x hx
  obtain ⟨j, hj, rfl⟩ := List.getElem_of_mem hx
  have := h0 j hj
  simpa [List.getD, hj] using this

end Go.Proofs.Ythjipnocemioaaa
namespace Go.Proofs.Ythjipnocemioaaa
open Go.RowKit

/-- What is owned stays owned where all that was there is as it was. -/
theorem own_below {w w' : World} {B e size n : Nat} {v : Value} {xs : List Value} (h : w.ownsRow B e size v n xs) (hb : Below w.heap.size w w') : w'.ownsRow B e size v n xs := by
  refine ⟨h.1, ?_⟩
  rcases h.2 with hn | ⟨g, cap, cur, rfl, hg, hgg, rest⟩
  · exact .inl hn
  · exact .inr ⟨g, cap, cur, rfl, hg, by rw [hb.block g (Array.getElem?_eq_some_iff.1 hgg).1]; exact hgg, rest⟩

/-- The cells of a list of signs, one behind the other. -/
def sgCells (s : Sg) : List Value := [.int .u8 s.1, .int .i64 s.2.1, .int .i64 s.2.2]
def flat (l : List Sg) : List Value := l.flatMap sgCells

theorem flat_length (l : List Sg) : (flat l).length = l.length * 3 := by
  induction l with
  | nil => rfl
  | cons s l ih =>
    show (sgCells s ++ flat l).length = _
    rw [List.length_append, ih]
    simp [sgCells]; omega

theorem flat_append (a b : List Sg) : flat (a ++ b) = flat a ++ flat b := by simp [flat]

theorem flat_get (l : List Sg) : ∀ (k : Nat), k < l.length → (flat l)[k * 3]? = some (.int .u8 (l.getD k (0, 0, 0)).1) ∧ (flat l)[k * 3 + 1]? = some (.int .i64 (l.getD k (0, 0, 0)).2.1) ∧ (flat l)[k * 3 + 2]? = some (.int .i64 (l.getD k (0, 0, 0)).2.2) := by
  induction l with
  | nil => intro k h; simp at h
  | cons s l ih =>
    intro k hk
    show (sgCells s ++ flat l)[k * 3]? = _ ∧ (sgCells s ++ flat l)[k * 3 + 1]? = _ ∧ (sgCells s ++ flat l)[k * 3 + 2]? = _
    cases k with
    | zero => simp [sgCells]
    | succ k =>
      have := ih k (by simpa using hk)
      rw [show (k + 1) * 3 = k * 3 + 3 by omega, show k * 3 + 3 + 1 = k * 3 + 1 + 3 by omega, show k * 3 + 3 + 2 = k * 3 + 2 + 3 by omega]
      rw [List.getElem?_append_right (by simp [sgCells]), List.getElem?_append_right (by simp [sgCells]), List.getElem?_append_right (by simp [sgCells])]
      simpa [sgCells] using this

/-- A row that owns a list of signs reads as it. -/
theorem txt_of_own {w : World} {B g n cap e : Nat} {l : List Sg} (h : w.ownsRow B e 3 (.slice (some ⟨g, 0, none⟩) n cap) n (flat l)) : Txt w (some ⟨g, 0, none⟩) n cap l := by
  have hlen := h.1
  rw [flat_length] at hlen
  have hn : n = l.length := by omega
  rcases h.2 with ⟨h', _⟩ | ⟨g', cap', cur, h', _, hg, hnc, hcm, _, _⟩
  · simp at h'
  · simp only [Value.slice.injEq, Option.some.injEq, Addr.mk.injEq, and_true, true_and] at h'
    obtain ⟨rfl, rfl⟩ := h'
    refine ⟨hn, hnc, hcm, .inr ⟨g, 0, rfl, (Array.getElem?_eq_some_iff.1 hg).1, ?_⟩⟩
    intro k hk
    obtain ⟨a, b, c⟩ := flat_get l k hk
    rw [Nat.zero_add]
    exact ⟨(h.cellAt (k * 3) (by omega)).trans a, (h.cellAt (k * 3 + 1) (by omega)).trans b, (h.cellAt (k * 3 + 2) (by omega)).trans c⟩

theorem take_set3 (xs : List Value) (k : Nat) (a b c : Value) (h : k * 3 + 3 ≤ xs.length) :
    (((xs.set (k * 3) a).set (k * 3 + 1) b).set (k * 3 + 2) c).take ((k + 1) * 3) = xs.take (k * 3) ++ [a, b, c] := by
  apply List.ext_getElem?
  intro j
  by_cases h1 : j < k * 3
  · rw [List.getElem?_take, if_pos (by omega), List.getElem?_set_ne (by omega), List.getElem?_set_ne (by omega), List.getElem?_set_ne (by omega), List.getElem?_append_left (by simp; omega), List.getElem?_take, if_pos h1]
  · rw [List.getElem?_append_right (by simp; omega)]
    have e : (xs.take (k * 3)).length = k * 3 := by simp; omega
    rw [e, List.getElem?_take]
    rcases (show j = k * 3 ∨ j = k * 3 + 1 ∨ j = k * 3 + 2 ∨ k * 3 + 3 ≤ j from by omega) with rfl | rfl | rfl | hj
    · rw [if_pos (by omega), List.getElem?_set_ne (by omega), List.getElem?_set_ne (by omega), List.getElem?_set_self (by omega)]; simp
    · rw [if_pos (by omega), List.getElem?_set_ne (by omega), List.getElem?_set_self (by simp; omega), show k * 3 + 1 - k * 3 = 1 by omega]; simp
    · rw [if_pos (by omega), List.getElem?_set_self (by simp; omega), show k * 3 + 2 - k * 3 = 2 by omega]; simp
    · rw [if_neg (by omega), List.getElem?_eq_none (by simp; omega)]

theorem flat_take_succ (l : List Sg) (k : Nat) (hk : k < l.length) : flat (l.take (k + 1)) = flat (l.take k) ++ sgCells (l.getD k (0, 0, 0)) := by
  rw [List.take_succ_eq_append_getElem hk, flat_append]
  simp [flat, List.getD, hk]

theorem Try.info100 : (Try.prog.info? 100).map (fun i => (i.zero, i.size, i.bytes)) = some (some (.agg #[.int .u8 0, .int .i64 0, .int .i64 0]), 3, 24) := by kernel_rfl

theorem cell_three_new (w : World) (x y z : Value) (t : TypeId) : ∀ j u, [x, y, z][j]? = some u → (w.alloc (.cells #[x, y, z] t)).cell? ((⟨w.heap.size, 0, none⟩ : Addr).add j) = some u := by
  intro j u hj
  match j, hj with
  | 0, hj => simp at hj; subst hj; simp [Addr.add]
  | 1, hj => simp at hj; subst hj; simp [Addr.add]
  | 2, hj => simp at hj; subst hj; simp [Addr.add]
  | (j + 3), hj => simp at hj

theorem three_oneCell (a b c : Int) : ∀ u ∈ [Value.int .u8 a, .int .i64 b, .int .i64 c], u.oneCell' = true := by
  intro u hu
  simp at hu
  rcases hu with rfl | rfl | rfl <;> rfl

/-- A value that owns a list of signs. -/
def Own (w : World) (B : Nat) (v : Value) (l : List Sg) : Prop := w.ownsRow B 100 3 v l.length (flat l)

theorem Own.shape {w : World} {B : Nat} {v : Value} {l : List Sg} (h : Own w B v l) : ∃ a cap, v = .slice a l.length cap ∧ Txt w a l.length cap l := by
  have h' := h
  unfold Own at h'
  rcases h'.2 with ⟨rfl, h0⟩ | ⟨g, cap, cur, rfl, r⟩
  · have : l = [] := List.eq_nil_of_length_eq_zero h0
    subst this
    exact ⟨none, 0, rfl, rfl, Nat.le_refl _, Nat.zero_le _, .inl rfl⟩
  · exact ⟨_, _, rfl, txt_of_own h'⟩

theorem Own.below {w w' : World} {B : Nat} {v : Value} {l : List Sg} (h : Own w B v l) (hb : Below w.heap.size w w') : Own w' B v l := own_below h hb
theorem Own.nil (w : World) (B : Nat) : Own w B (.slice none 0 0) [] := World.ownsRow_nil _ _ _ _
theorem Own.snoc {w : World} {B : Nat} {v : Value} {l : List Sg} {s : Sg} {n : Nat} {xs : List Value} (h : w.ownsRow B 100 3 v n xs) (hn : n = l.length + 1) (hx : xs = flat l ++ sgCells s) : Own w B v (l ++ [s]) := by
  subst hn hx
  unfold Own
  rw [flat_append, List.length_append]
  have : flat [s] = sgCells s := by simp [flat]
  rw [this]
  exact h

theorem Own.shapeN {w : World} {B : Nat} {v : Value} {l : List Sg} (h : Own w B v l) {n : Nat} (hn : l.length = n) : ∃ a cap, v = .slice a n cap := by
  obtain ⟨a, cap, rfl, _⟩ := h.shape
  exact ⟨a, cap, by rw [hn]⟩
theorem Own.txt {w : World} {B : Nat} {a : Option Addr} {n cap : Nat} {l : List Sg} (h : Own w B (.slice a n cap) l) : Txt w a n cap l := by
  obtain ⟨a', cap', he, ht⟩ := h.shape
  simp only [Value.slice.injEq] at he
  obtain ⟨rfl, rfl, rfl⟩ := he
  exact ht
theorem Own.len {w : World} {B : Nat} {a : Option Addr} {n cap : Nat} {l : List Sg} (h : Own w B (.slice a n cap) l) : n = l.length := h.txt.1
theorem Own.row {w : World} {B : Nat} {a : Option Addr} {n cap : Nat} {l : List Sg} (h : Own w B (.slice a n cap) l) : w.ownsRow B 100 3 (.slice a n cap) n (flat l) := by
  have := h.len
  subst this
  exact h

/-- A sign more behind an owned list: what the append leaves. -/
theorem own_step {B : Nat} {w wr w1 : World} {a : Option Addr} {k c : Nat} {v' : Value} {l : List Sg} {s : Sg} {o : Obj} (ho : Own wr B (.slice a k c) l) (hbl : Below B w wr) (hB : B ≤ wr.heap.size)
    (hown : w1.ownsRow B 100 3 v' (k + 1) (flat l ++ sgCells s)) (hgrow : (wr.alloc o).grownBy w1 (Value.slice a k c).ownBlock) :
    ∃ a' c', v' = .slice a' (k + 1) c' ∧ Own w1 B (.slice a' (k + 1) c') (l ++ [s]) ∧ Below B w w1 := by
  have hk := ho.len
  have h1 : Own w1 B v' (l ++ [s]) := Own.snoc hown (by omega) rfl
  obtain ⟨a', c', rfl⟩ := h1.shapeN (n := k + 1) (by simp; omega)
  refine ⟨a', c', rfl, h1, ?_⟩
  exact (hbl.alloc hB _).grown hgrow (by simp; omega) (fun q hq => (ho.row.lt q hq).1)

theorem Own.emptyNew (w : World) (B : Nat) (hB : B ≤ w.heap.size) : Own (w.alloc (.cells #[] 100)) B (.slice (some ⟨w.heap.size, 0, none⟩) 0 0) [] :=
  World.ownsRow_made w #[] 0 hB (Nat.zero_le _) rfl

theorem grown_of_drew {w w' : World} {r : Option Nat} (h : w.drew.grownBy w' r) : w.grownBy w' r := ⟨h.os, h.tape, h.output, h.size, h.block⟩
theorem Own.alloc {w : World} {B : Nat} {v : Value} {l : List Sg} (h : Own w B v l) (o : Obj) : Own (w.alloc o) B v l := World.ownsRow.alloc h o
end Go.Proofs.Ythjipnocemioaaa
namespace Go.Proofs.Ythjipnocemioaaa
open Go.RowKit

/-- A table's cell as it lies: four numbers and a slice. -/
abbrev Rw := Int × Int × Int × Int × Option Addr × Nat × Nat
def rw0 : Rw := (0, 0, 0, 0, none, 0, 0)
def rwCells (x : Rw) : List Value := [.int .i64 x.1, .int .i64 x.2.1, .int .i64 x.2.2.1, .int .i64 x.2.2.2.1, .slice x.2.2.2.2.1 x.2.2.2.2.2.1 x.2.2.2.2.2.2]
def flat5 (l : List Rw) : List Value := l.flatMap rwCells

theorem flat5_length (l : List Rw) : (flat5 l).length = l.length * 5 := by
  induction l with
  | nil => rfl
  | cons s l ih =>
    show (rwCells s ++ flat5 l).length = _
    rw [List.length_append, ih]
    simp [rwCells]; omega

theorem flat5_append (a b : List Rw) : flat5 (a ++ b) = flat5 a ++ flat5 b := by simp [flat5]

theorem flat5_get (l : List Rw) : ∀ (k j : Nat), k < l.length → j < 5 → (flat5 l)[k * 5 + j]? = (rwCells (l.getD k rw0))[j]? := by
  induction l with
  | nil => intro k j h; simp at h
  | cons s l ih =>
    intro k j hk hj
    have h5 : (rwCells s).length = 5 := rfl
    show (rwCells s ++ flat5 l)[k * 5 + j]? = _
    cases k with
    | zero => rw [List.getElem?_append_left (by omega)]; simp
    | succ k =>
      rw [List.getElem?_append_right (by omega), h5, show (k + 1) * 5 + j - 5 = k * 5 + j by omega, ih k j (by simpa using hk) hj]
      simp

theorem flat5_take_succ (l : List Rw) (k : Nat) (hk : k < l.length) : flat5 (l.take (k + 1)) = flat5 (l.take k) ++ rwCells (l.getD k rw0) := by
  rw [List.take_succ_eq_append_getElem hk, flat5_append]
  simp [flat5, List.getD, hk]

/-- The cells at block b from o on. -/
def RwAt (w : World) (b o : Nat) (x : Rw) : Prop :=
  w.cell? ⟨b, o, none⟩ = some (.int .i64 x.1) ∧ w.cell? ⟨b, o + 1, none⟩ = some (.int .i64 x.2.1) ∧ w.cell? ⟨b, o + 2, none⟩ = some (.int .i64 x.2.2.1) ∧ w.cell? ⟨b, o + 3, none⟩ = some (.int .i64 x.2.2.2.1) ∧
    w.cell? ⟨b, o + 4, none⟩ = some (.slice x.2.2.2.2.1 x.2.2.2.2.2.1 x.2.2.2.2.2.2)

/-- A slice value that reads as rows. -/
def Rws (w : World) (a : Option Addr) (n cap : Nat) (l : List Rw) : Prop :=
  n = l.length ∧ n ≤ cap ∧ cap ≤ maxLen ∧ (l = [] ∨ ∃ b off, a = some ⟨b, off, none⟩ ∧ b < w.heap.size ∧ ∀ k, k < l.length → RwAt w b (off + k * 5) (l.getD k rw0))

theorem rws_of_own {w : World} {B g n cap e : Nat} {l : List Rw} (h : w.ownsRow B e 5 (.slice (some ⟨g, 0, none⟩) n cap) n (flat5 l)) : Rws w (some ⟨g, 0, none⟩) n cap l := by
  have hlen := h.1
  rw [flat5_length] at hlen
  have hn : n = l.length := by omega
  rcases h.2 with ⟨h', _⟩ | ⟨g', cap', cur, h', _, hg, hnc, hcm, _, _⟩
  · simp at h'
  · simp only [Value.slice.injEq, Option.some.injEq, Addr.mk.injEq, and_true, true_and] at h'
    obtain ⟨rfl, rfl⟩ := h'
    refine ⟨hn, hnc, hcm, .inr ⟨g, 0, rfl, (Array.getElem?_eq_some_iff.1 hg).1, ?_⟩⟩
    intro k hk
    rw [Nat.zero_add]
    exact ⟨(h.cellAt (k * 5) (by omega)).trans (flat5_get l k 0 hk (by omega)), (h.cellAt (k * 5 + 1) (by omega)).trans (flat5_get l k 1 hk (by omega)), (h.cellAt (k * 5 + 2) (by omega)).trans (flat5_get l k 2 hk (by omega)), (h.cellAt (k * 5 + 3) (by omega)).trans (flat5_get l k 3 hk (by omega)), (h.cellAt (k * 5 + 4) (by omega)).trans (flat5_get l k 4 hk (by omega))⟩

/-- A value that owns rows. -/
def OwnR (w : World) (B : Nat) (v : Value) (l : List Rw) : Prop := w.ownsRow B 59 5 v l.length (flat5 l)

theorem OwnR.shape {w : World} {B : Nat} {v : Value} {l : List Rw} (h : OwnR w B v l) : ∃ a cap, v = .slice a l.length cap ∧ Rws w a l.length cap l := by
  have h' := h
  unfold OwnR at h'
  rcases h'.2 with ⟨rfl, h0⟩ | ⟨g, cap, cur, rfl, r⟩
  · have : l = [] := List.eq_nil_of_length_eq_zero h0
    subst this
    exact ⟨none, 0, rfl, rfl, Nat.le_refl _, Nat.zero_le _, .inl rfl⟩
  · exact ⟨_, _, rfl, rws_of_own h'⟩
theorem OwnR.below {w w' : World} {B : Nat} {v : Value} {l : List Rw} (h : OwnR w B v l) (hb : Below w.heap.size w w') : OwnR w' B v l := own_below h hb
theorem OwnR.nil (w : World) (B : Nat) : OwnR w B (.slice none 0 0) [] := World.ownsRow_nil _ _ _ _
theorem OwnR.alloc {w : World} {B : Nat} {v : Value} {l : List Rw} (h : OwnR w B v l) (o : Obj) : OwnR (w.alloc o) B v l := World.ownsRow.alloc h o
theorem OwnR.rws {w : World} {B : Nat} {a : Option Addr} {n cap : Nat} {l : List Rw} (h : OwnR w B (.slice a n cap) l) : Rws w a n cap l := by
  obtain ⟨a', cap', he, ht⟩ := h.shape
  simp only [Value.slice.injEq] at he
  obtain ⟨rfl, rfl, rfl⟩ := he
  exact ht
theorem OwnR.len {w : World} {B : Nat} {a : Option Addr} {n cap : Nat} {l : List Rw} (h : OwnR w B (.slice a n cap) l) : n = l.length := h.rws.1
theorem OwnR.row {w : World} {B : Nat} {a : Option Addr} {n cap : Nat} {l : List Rw} (h : OwnR w B (.slice a n cap) l) : w.ownsRow B 59 5 (.slice a n cap) n (flat5 l) := by
  have := h.len
  subst this
  exact h
theorem OwnR.snoc {w : World} {B : Nat} {v : Value} {l : List Rw} {s : Rw} {n : Nat} {xs : List Value} (h : w.ownsRow B 59 5 v n xs) (hn : n = l.length + 1) (hx : xs = flat5 l ++ rwCells s) : OwnR w B v (l ++ [s]) := by
  subst hn hx
  unfold OwnR
  rw [flat5_append, List.length_append]
  have : flat5 [s] = rwCells s := by simp [flat5]
  rw [this]
  exact h

/-- A row more behind owned rows: what the append leaves. -/
theorem ownR_step {B : Nat} {w wr w1 : World} {a : Option Addr} {k c : Nat} {v' : Value} {l : List Rw} {s : Rw} {o : Obj} (ho : OwnR wr B (.slice a k c) l) (hbl : Below B w wr) (hB : B ≤ wr.heap.size)
    (hown : w1.ownsRow B 59 5 v' (k + 1) (flat5 l ++ rwCells s)) (hgrow : (wr.alloc o).grownBy w1 (Value.slice a k c).ownBlock) :
    ∃ a' c', v' = .slice a' (k + 1) c' ∧ OwnR w1 B (.slice a' (k + 1) c') (l ++ [s]) ∧ Below B w w1 := by
  have hk := ho.len
  have h1 : OwnR w1 B v' (l ++ [s]) := OwnR.snoc hown (by omega) rfl
  obtain ⟨a', c', rfl, -⟩ := h1.shape
  have e : (l ++ [s]).length = k + 1 := by simp; omega
  rw [e] at h1
  refine ⟨a', c', by rw [e], h1, ?_⟩
  exact (hbl.alloc hB _).grown hgrow (by simp; omega) (fun q hq => (ho.row.lt q hq).1)

/-- What a row reads as. -/
def RwIs (w : World) (x : Rw) (y : Cl) : Prop := x.1 = y.1 ∧ x.2.1 = y.2.1 ∧ x.2.2.1 = y.2.2.1 ∧ x.2.2.2.1 = y.2.2.2.1 ∧ Txt w x.2.2.2.2.1 x.2.2.2.2.2.1 x.2.2.2.2.2.2 y.2.2.2.2
def Reads (w : World) (l : List Rw) (m : List Cl) : Prop := l.length = m.length ∧ ∀ k, k < l.length → RwIs w (l.getD k rw0) (m.getD k cl0)

theorem tab_of_rws {w : World} {a : Option Addr} {n cap : Nat} {l : List Rw} {m : List Cl} (h : Rws w a n cap l) (hr : Reads w l m) : Tab w a n cap m := by
  obtain ⟨h1, h2, h3, h4⟩ := h
  obtain ⟨e, hr⟩ := hr
  refine ⟨h1.trans e, h2, h3, ?_⟩
  rcases h4 with rfl | ⟨b, off, h5, h6, h7⟩
  · exact .inl (List.eq_nil_of_length_eq_zero e.symm)
  · refine .inr ⟨b, off, h5, h6, fun k hk => ?_⟩
    obtain ⟨q0, q1, q2, q3, q4⟩ := hr k (by omega)
    obtain ⟨c0, c1, c2, c3, c4⟩ := h7 k (by omega)
    rw [q0] at c0
    rw [q1] at c1
    rw [q2] at c2
    rw [q3] at c3
    exact ⟨c0, c1, c2, c3, _, _, _, c4, q4⟩

theorem Reads.below {w w' : World} {l : List Rw} {m : List Cl} (h : Reads w l m) (hb : Below w.heap.size w w') : Reads w' l m :=
  ⟨h.1, fun k hk => by obtain ⟨q0, q1, q2, q3, q4⟩ := h.2 k hk; exact ⟨q0, q1, q2, q3, q4.below hb⟩⟩
theorem Reads.nil (w : World) : Reads w [] [] := ⟨rfl, fun k hk => by simp at hk⟩
theorem Reads.snoc {w : World} {l : List Rw} {m : List Cl} {x : Rw} {y : Cl} (h : Reads w l m) (hx : RwIs w x y) : Reads w (l ++ [x]) (m ++ [y]) := by
  obtain ⟨e, h⟩ := h
  refine ⟨by simp [e], fun k hk => ?_⟩
  by_cases hlt : k < l.length
  · have := h k hlt
    simp only [List.getD_eq_getElem?_getD] at this ⊢
    rw [List.getElem?_append_left hlt, List.getElem?_append_left (by omega)]
    exact this
  · have : k = l.length := by simp at hk; omega
    subst this
    simp only [List.getD_eq_getElem?_getD]
    rw [List.getElem?_append_right (Nat.le_refl _), List.getElem?_append_right (by omega), e, Nat.sub_self]
    exact hx
end Go.Proofs.Ythjipnocemioaaa
namespace Go.Proofs.Ythjipnocemioaaa
open Go.RowKit

/-- A block that holds just these cells. -/
def RowAt (w : World) (b : Nat) (cs : Array Value) (ty : TypeId) : Prop := w.heap[b]? = some (.cells cs ty (0, 0))
section
variable {w w' : World} {b : Nat} {cs : Array Value} {ty : TypeId}
theorem RowAt.lt (h : RowAt w b cs ty) : b < w.heap.size := (Array.getElem?_eq_some_iff.1 h).1
theorem RowAt.cell (h : RowAt w b cs ty) (j : Nat) : w.cell? ⟨b, j, none⟩ = cs[j]? := cell_of_row w b j _ _ _ h
theorem RowAt.frozen (h : RowAt w b cs ty) (o : Nat) : w.frozen? ⟨b, o, none⟩ = false := by simp [World.frozen?, show w.heap[b]? = _ from h]
theorem RowAt.below (h : RowAt w b cs ty) {B : Nat} (hb : Below B w w') (hB : b < B) : RowAt w' b cs ty := by
  unfold RowAt
  rw [hb.block b hB]
  exact h
theorem RowAt.alloc (h : RowAt w b cs ty) (o : Obj) : RowAt (w.alloc o) b cs ty := (Go.Deep.blk_alloc_lt w o b h.lt).trans h
theorem RowAt.drew (h : RowAt w b cs ty) : RowAt w.drew b cs ty := h
theorem RowAt.other (h : RowAt w b cs ty) (a : Addr) (u : Value) (hb : b ≠ a.block) : RowAt (w.setCell a u) b cs ty := by
  unfold RowAt
  rw [Go.Deep.blk_setCell_other _ _ _ _ hb]
  exact h
theorem RowAt.setCell (h : RowAt w b cs ty) (j : Nat) (v : Value) : RowAt (w.setCell ⟨b, j, none⟩ v) b (cs.setIfInBounds j v) ty := by
  unfold RowAt
  rw [setCell_eq_setRow _ _ _ _ _ _ _ h]
  exact setRow_heap _ _ _ _ _ _ h
theorem RowAt.setRow (h : RowAt w b cs ty) (cs' : Array Value) : RowAt (w.setRow b cs') b cs' ty := setRow_heap _ _ _ _ _ _ h
theorem RowAt.setRowOther (h : RowAt w b cs ty) (g : Nat) (cs' : Array Value) (hb : b ≠ g) : RowAt (w.setRow g cs') b cs ty := by
  unfold RowAt
  rw [setRow_other _ _ _ _ hb]
  exact h
end
theorem below_row {B g : Nat} {w0 w : World} (hb : Below B w0 w) (hBg : B ≤ g) (cs : Array Value) : Below B w0 (w.setRow g cs) :=
  hb.trans ⟨rfl, rfl, rfl, by simp [World.setRow], fun k hk => setRow_other w g k cs (by omega)⟩
theorem rowAt_new (w : World) (cs : Array Value) (ty : TypeId) : RowAt (w.alloc (.cells cs ty)) w.heap.size cs ty := heap_alloc_new _ _
theorem wpList_load_rowG {P : Program} {ops : Array Oper} {rest : List Oper} {o : Oper} {a : Act} {w : World} {Q : Exit → Act → World → Prop} (hgd : Region.wanted o (yielded ops a.tmps) = true) (ty : TypeId) (x : Operand) (ho : o.op = .load ty x)
    (g : Nat) (hx : a.eval x = .pointer (some ⟨g, 0, none⟩)) (t : TypeId) (cs : Array Value) (fr : Nat × Nat) (d : TypeDesc) (hg : w.heap[g]? = some (.cells cs t fr))
    (hu : P.underlying ty = some d) (hd : (match d with | .struct _ | .array _ _ => true | _ => false) = true) (hi : (P.info? ty).map (·.size) = some cs.size)
    (h : wpList P ops Q rest (a.put o.dst (.agg cs)) w) : wpList P ops Q (o :: rest) a w := by
  unfold wpList
  rw [if_pos hgd]
  exact .inl (wp_load_row ty x ho g hx t cs fr d hg hu hd hi h)
theorem cells5_one (r c d g : Int) (a : Option Addr) (n cap : Nat) : (#[Value.int .i64 r, .int .i64 c, .int .i64 d, .int .i64 g, .slice a n cap] : Array Value).all (·.oneCell') = true := by
  simp [Value.oneCell']
theorem cells3_one (r c : Int) (a : Option Addr) (n cap : Nat) : (#[Value.int .i64 r, .int .i64 c, .slice a n cap] : Array Value).all (·.oneCell') = true := by
  simp [Value.oneCell']
end Go.Proofs.Ythjipnocemioaaa
namespace Go.Proofs.Ythjipnocemioaaa
open Go.RowKit

theorem Try.info59 : (Try.prog.info? 59).map (fun i => (i.zero, i.size, i.bytes)) = some (some (.agg #[.int .i64 0, .int .i64 0, .int .i64 0, .int .i64 0, .slice none 0 0]), 5, 56) := by kernel_rfl
theorem tab_info : (Try.prog.info? 47).map (·.size) = some 3 := by kernel_rfl
theorem own_less {w : World} {B B' e size n : Nat} {v : Value} {xs : List Value} (h : w.ownsRow B' e size v n xs) (hB : B ≤ B') : w.ownsRow B e size v n xs := by
  refine ⟨h.1, ?_⟩
  rcases h.2 with hn | ⟨g, cap, cur, rfl, hg, rest⟩
  · exact .inl hn
  · exact .inr ⟨g, cap, cur, rfl, Nat.le_trans hB hg, rest⟩
theorem own_set {w : World} {B e size n : Nat} {v : Value} {xs : List Value} (h : w.ownsRow B e size v n xs) (p : Addr) (u : Value) (hp : v.ownBlock ≠ some p.block) : (w.setCell p u).ownsRow B e size v n xs := by
  refine ⟨h.1, ?_⟩
  rcases h.2 with hn | ⟨g, cap, cur, rfl, hg, hgg, rest⟩
  · exact .inl hn
  · refine .inr ⟨g, cap, cur, rfl, hg, ?_, rest⟩
    rw [Go.Deep.blk_setCell_other _ _ _ _ (fun e => hp (by simp [Value.ownBlock, e]))]
    exact hgg
theorem own_row {w : World} {B e size n : Nat} {v : Value} {xs : List Value} (h : w.ownsRow B e size v n xs) (g : Nat) (cs : Array Value) (hp : v.ownBlock ≠ some g) : (w.setRow g cs).ownsRow B e size v n xs := by
  refine ⟨h.1, ?_⟩
  rcases h.2 with hn | ⟨g', cap, cur, rfl, hg, hgg, rest⟩
  · exact .inl hn
  · refine .inr ⟨g', cap, cur, rfl, hg, ?_, rest⟩
    rw [setRow_other _ _ _ _ (fun e => hp (by simp [Value.ownBlock, e]))]
    exact hgg
theorem own_grown {w w' : World} {B e size n : Nat} {v : Value} {xs : List Value} {q : Option Nat} (h : w.ownsRow B e size v n xs) (hg : w.grownBy w' q) (hp : ∀ g, v.ownBlock = some g → q ≠ some g) : w'.ownsRow B e size v n xs := by
  refine ⟨h.1, ?_⟩
  rcases h.2 with hn | ⟨g, cap, cur, rfl, hg', hgg, rest⟩
  · exact .inl hn
  · refine .inr ⟨g, cap, cur, rfl, hg', ?_, rest⟩
    rw [hg.block g (Array.getElem?_eq_some_iff.1 hgg).1 (hp g (by simp [Value.ownBlock])).symm]
    exact hgg
theorem own_lt {w : World} {B e size n : Nat} {v : Value} {xs : List Value} (h : w.ownsRow B e size v n xs) {g : Nat} (hg : v.ownBlock = some g) : B ≤ g ∧ g < w.heap.size := by
  rcases h.2 with ⟨rfl, _⟩ | ⟨g', cap, cur, rfl, hg', hgg, rest⟩
  · simp [Value.ownBlock] at hg
  · simp only [Value.ownBlock, Option.some.injEq] at hg
    subst hg
    exact ⟨hg', (Array.getElem?_eq_some_iff.1 hgg).1⟩

theorem RowAt.grown {w w' : World} {b : Nat} {cs : Array Value} {ty : TypeId} {q : Option Nat} (h : RowAt w b cs ty) (hg : w.grownBy w' q) (hq : q ≠ some b) : RowAt w' b cs ty := by
  unfold RowAt
  rw [hg.block b h.lt (Ne.symm hq)]
  exact h
theorem own_kinds {w : World} {B B' e e' size size' n n' : Nat} {v v' : Value} {xs xs' : List Value} (h : w.ownsRow B e size v n xs) (h' : w.ownsRow B' e' size' v' n' xs') (he : e ≠ e') : ∀ g, v'.ownBlock = some g → v.ownBlock ≠ some g := by
  intro g hg' hg
  rcases h.2 with ⟨rfl, _⟩ | ⟨g1, cap, cur, rfl, _, hgg, _⟩
  · simp [Value.ownBlock] at hg
  · rcases h'.2 with ⟨rfl, _⟩ | ⟨g2, cap', cur', rfl, _, hgg', _⟩
    · simp [Value.ownBlock] at hg'
    · simp only [Value.ownBlock, Option.some.injEq] at hg hg'
      subst hg
      subst hg'
      rw [hgg] at hgg'
      simp only [Option.some.injEq, Obj.cells.injEq] at hgg'
      exact he hgg'.2.1
theorem rowAt_ne {w : World} {b : Nat} {cs : Array Value} {ty : TypeId} {B e size n : Nat} {v : Value} {xs : List Value} (h : RowAt w b cs ty) (ho : w.ownsRow B e size v n xs) (he : e ≠ ty) : v.ownBlock ≠ some b := by
  intro hb
  rcases ho.2 with ⟨rfl, _⟩ | ⟨g, cap, cur, rfl, _, hgg, _⟩
  · simp [Value.ownBlock] at hb
  · simp only [Value.ownBlock, Option.some.injEq] at hb
    subst hb
    rw [show w.heap[g]? = _ from h] at hgg
    simp only [Option.some.injEq, Obj.cells.injEq] at hgg
    exact he hgg.2.1.symm
/-- A row's text as a value. -/
def rwT (x : Rw) : Value := .slice x.2.2.2.2.1 x.2.2.2.2.2.1 x.2.2.2.2.2.2
/-- A row whose text is its own, and reads as a cell. -/
def RwOwn (w : World) (B : Nat) (x : Rw) (y : Cl) : Prop := x.1 = y.1 ∧ x.2.1 = y.2.1 ∧ x.2.2.1 = y.2.2.1 ∧ x.2.2.2.1 = y.2.2.2.1 ∧ Own w B (rwT x) y.2.2.2.2
/-- Rows with texts of their own, no two of which share memory, and none with a block q. -/
def TxtOwn (w : World) (B : Nat) (q : Option Nat) (rs : List Rw) (l : List Cl) : Prop :=
  rs.length = l.length ∧ (∀ k, k < rs.length → RwOwn w B (rs.getD k rw0) (l.getD k cl0)) ∧ (∀ k, k < rs.length → ∀ g, (rwT (rs.getD k rw0)).ownBlock = some g → q ≠ some g) ∧
    (∀ i k, i < k → k < rs.length → ∀ g, (rwT (rs.getD i rw0)).ownBlock = some g → (rwT (rs.getD k rw0)).ownBlock ≠ some g)
/-- A table's cells, all their own. -/
def OwnT (w : World) (B : Nat) (v : Value) (rs : List Rw) (l : List Cl) : Prop := OwnR w B v rs ∧ TxtOwn w B v.ownBlock rs l

theorem RwOwn.is {w : World} {B : Nat} {x : Rw} {y : Cl} (h : RwOwn w B x y) : RwIs w x y := by
  obtain ⟨h0, h1, h2, h3, h4⟩ := h
  exact ⟨h0, h1, h2, h3, h4.txt⟩
theorem TxtOwn.reads {w : World} {B : Nat} {q : Option Nat} {rs : List Rw} {l : List Cl} (h : TxtOwn w B q rs l) : Reads w rs l := ⟨h.1, fun k hk => (h.2.1 k hk).is⟩
theorem OwnT.tab {w : World} {B : Nat} {a : Option Addr} {n cap : Nat} {rs : List Rw} {l : List Cl} (h : OwnT w B (.slice a n cap) rs l) : Tab w a n cap l := tab_of_rws h.1.rws h.2.reads
theorem OwnT.len {w : World} {B : Nat} {a : Option Addr} {n cap : Nat} {rs : List Rw} {l : List Cl} (h : OwnT w B (.slice a n cap) rs l) : n = l.length := h.1.len.trans h.2.1
theorem OwnT.shape {w : World} {B : Nat} {v : Value} {rs : List Rw} {l : List Cl} (h : OwnT w B v rs l) : ∃ a cap, v = .slice a l.length cap := by
  obtain ⟨a, cap, e, -⟩ := h.1.shape
  exact ⟨a, cap, by rw [e, h.2.1]⟩
theorem TxtOwn.below {w w' : World} {B : Nat} {q : Option Nat} {rs : List Rw} {l : List Cl} (h : TxtOwn w B q rs l) (hb : Below w.heap.size w w') : TxtOwn w' B q rs l :=
  ⟨h.1, fun k hk => by obtain ⟨h0, h1, h2, h3, h4⟩ := h.2.1 k hk; exact ⟨h0, h1, h2, h3, h4.below hb⟩, h.2.2⟩
theorem OwnT.below {w w' : World} {B : Nat} {v : Value} {rs : List Rw} {l : List Cl} (h : OwnT w B v rs l) (hb : Below w.heap.size w w') : OwnT w' B v rs l := ⟨h.1.below hb, h.2.below hb⟩
theorem TxtOwn.less {w : World} {B B' : Nat} {q : Option Nat} {rs : List Rw} {l : List Cl} (h : TxtOwn w B' q rs l) (hB : B ≤ B') : TxtOwn w B q rs l :=
  ⟨h.1, fun k hk => by obtain ⟨h0, h1, h2, h3, h4⟩ := h.2.1 k hk; exact ⟨h0, h1, h2, h3, own_less h4 hB⟩, h.2.2⟩
theorem OwnT.less {w : World} {B B' : Nat} {v : Value} {rs : List Rw} {l : List Cl} (h : OwnT w B' v rs l) (hB : B ≤ B') : OwnT w B v rs l := ⟨own_less h.1 hB, h.2.less hB⟩
theorem TxtOwn.grown {w w' : World} {B : Nat} {q g : Option Nat} {rs : List Rw} {l : List Cl} (h : TxtOwn w B q rs l) (hg : w.grownBy w' g) (hn : ∀ k, k < rs.length → ∀ b, (rwT (rs.getD k rw0)).ownBlock = some b → g ≠ some b) : TxtOwn w' B q rs l :=
  ⟨h.1, fun k hk => by obtain ⟨h0, h1, h2, h3, h4⟩ := h.2.1 k hk; exact ⟨h0, h1, h2, h3, own_grown h4 hg (hn k hk)⟩, h.2.2⟩
theorem TxtOwn.set {w : World} {B : Nat} {q : Option Nat} {rs : List Rw} {l : List Cl} (h : TxtOwn w B q rs l) (p : Addr) (u : Value) (hq : q = some p.block) : TxtOwn (w.setCell p u) B q rs l :=
  ⟨h.1, fun k hk => by obtain ⟨h0, h1, h2, h3, h4⟩ := h.2.1 k hk; exact ⟨h0, h1, h2, h3, own_set h4 p u (fun e => h.2.2.1 k hk _ e hq)⟩, h.2.2⟩
theorem TxtOwn.anew {w : World} {B B' : Nat} {q : Option Nat} {rs rs' : List Rw} {l : List Cl} {v : Value} (h : TxtOwn w B q rs l) (ho : OwnR w B' v rs') : TxtOwn w B v.ownBlock rs l :=
  ⟨h.1, h.2.1, fun k hk g hg => own_kinds ho (h.2.1 k hk).2.2.2.2 (by decide) g hg, h.2.2.2⟩
theorem TxtOwn.setLow {w : World} {B : Nat} {q : Option Nat} {rs : List Rw} {l : List Cl} (h : TxtOwn w B q rs l) (p : Addr) (u : Value) (hp : p.block < B) : TxtOwn (w.setCell p u) B q rs l :=
  ⟨h.1, fun k hk => by obtain ⟨h0, h1, h2, h3, h4⟩ := h.2.1 k hk; exact ⟨h0, h1, h2, h3, own_set h4 p u (fun e => by have := (own_lt h4 e).1; omega)⟩, h.2.2⟩
theorem TxtOwn.rowLow {w : World} {B : Nat} {q : Option Nat} {rs : List Rw} {l : List Cl} (h : TxtOwn w B q rs l) (g : Nat) (cs : Array Value) (hp : g < B) : TxtOwn (w.setRow g cs) B q rs l :=
  ⟨h.1, fun k hk => by obtain ⟨h0, h1, h2, h3, h4⟩ := h.2.1 k hk; exact ⟨h0, h1, h2, h3, own_row h4 g cs (fun e => by have := (own_lt h4 e).1; omega)⟩, h.2.2⟩
theorem getD_snoc_lt {α : Type} (l : List α) (x d : α) (k : Nat) (h : k < l.length) : (l ++ [x]).getD k d = l.getD k d := by simp [List.getD, List.getElem?_append_left h]
theorem getD_snoc_eq {α : Type} (l : List α) (x d : α) (k : Nat) (h : k = l.length) : (l ++ [x]).getD k d = x := by subst h; simp [List.getD]
theorem TxtOwn.nil (w : World) (B : Nat) (q : Option Nat) : TxtOwn w B q [] [] := ⟨rfl, fun k hk => by simp at hk, fun k hk => by simp at hk, fun i k _ hk => by simp at hk⟩
/-- A row more, whose text lies where nothing lay. -/
theorem TxtOwn.snoc {w : World} {B C : Nat} {q : Option Nat} {rs : List Rw} {l : List Cl} {x : Rw} {y : Cl} (h : TxtOwn w B q rs l) (hx : RwOwn w B x y) (hq : ∀ g, (rwT x).ownBlock = some g → q ≠ some g)
    (hlt : ∀ k, k < rs.length → ∀ g, (rwT (rs.getD k rw0)).ownBlock = some g → g < C) (hge : ∀ g, (rwT x).ownBlock = some g → C ≤ g) : TxtOwn w B q (rs ++ [x]) (l ++ [y]) := by
  obtain ⟨e, h1, h2, h3⟩ := h
  refine ⟨by simp [e], fun k hk => ?_, fun k hk => ?_, fun i k hik hk => ?_⟩
  · by_cases hlt : k < rs.length
    · rw [getD_snoc_lt _ _ _ _ hlt, getD_snoc_lt _ _ _ _ (by omega)]
      exact h1 k hlt
    · have hk' : k = rs.length := by simp at hk; omega
      rw [getD_snoc_eq _ _ _ _ hk', getD_snoc_eq _ _ _ _ (by omega)]
      exact hx
  · by_cases hlt : k < rs.length
    · rw [getD_snoc_lt _ _ _ _ hlt]
      exact h2 k hlt
    · have hk' : k = rs.length := by simp at hk; omega
      rw [getD_snoc_eq _ _ _ _ hk']
      exact hq
  · by_cases hlt' : k < rs.length
    · rw [getD_snoc_lt _ _ _ _ hlt', getD_snoc_lt _ _ _ _ (by omega)]
      exact h3 i k hik hlt'
    · have hk' : k = rs.length := by simp at hk; omega
      rw [getD_snoc_eq _ _ _ _ hk', getD_snoc_lt _ _ _ _ (by omega)]
      exact fun _ hg hg' => absurd (hlt i (by omega) _ hg) (Nat.not_lt.2 (hge _ hg'))
theorem TxtOwn.blockLt {w : World} {B : Nat} {q : Option Nat} {rs : List Rw} {l : List Cl} (h : TxtOwn w B q rs l) : ∀ k, k < rs.length → ∀ g, (rwT (rs.getD k rw0)).ownBlock = some g → g < w.heap.size :=
  fun k hk _ hg => (own_lt (h.2.1 k hk).2.2.2.2 hg).2
end Go.Proofs.Ythjipnocemioaaa
namespace Go.Proofs.Ythjipnocemioaaa
open Go.RowKit

/-- A block: its kind, its level, its text, its table's rows, columns and cells. -/
abbrev Bl := Int × Int × List Sg × Int × Int × List Cl
def bl0 : Bl := (0, 0, [], 0, 0, [])
/-- The cells of a block at block b from o on, its text and its table's cells told. -/
def BlockIs (w : World) (b o : Nat) (x : Bl) (ta : Option Addr) (tn tc : Nat) (ca : Option Addr) (cn cc : Nat) : Prop :=
  w.cell? ⟨b, o, none⟩ = some (.int .i64 x.1) ∧ w.cell? ⟨b, o + 1, none⟩ = some (.int .i64 x.2.1) ∧ w.cell? ⟨b, o + 2, none⟩ = some (.slice ta tn tc) ∧ w.cell? ⟨b, o + 3, none⟩ = some (.int .i64 x.2.2.2.1) ∧ w.cell? ⟨b, o + 4, none⟩ = some (.int .i64 x.2.2.2.2.1) ∧ w.cell? ⟨b, o + 5, none⟩ = some (.slice ca cn cc) ∧
    Txt w ta tn tc x.2.2.1 ∧ Tab w ca cn cc x.2.2.2.2.2
def BlockAt (w : World) (b o : Nat) (x : Bl) : Prop := ∃ ta tn tc ca cn cc, BlockIs w b o x ta tn tc ca cn cc
/-- A slice value that reads as the blocks d. -/
def Dc (w : World) (a : Option Addr) (n cap : Nat) (d : List Bl) : Prop :=
  n = d.length ∧ n ≤ cap ∧ cap ≤ maxLen ∧ (d = [] ∨ ∃ b off, a = some ⟨b, off, none⟩ ∧ b < w.heap.size ∧ ∀ k, k < d.length → BlockAt w b (off + k * 6) (d.getD k bl0))
section
variable {w w' : World}
theorem BlockIs.below {b o : Nat} {x : Bl} {ta : Option Addr} {tn tc : Nat} {ca : Option Addr} {cn cc : Nat} (h : BlockIs w b o x ta tn tc ca cn cc) (hb : Below w.heap.size w w') (hlt : b < w.heap.size) : BlockIs w' b o x ta tn tc ca cn cc := by
  obtain ⟨h0, h1, h2, h3, h4, h5, ht, hc⟩ := h
  exact ⟨(hb.cell (p := ⟨b, _, none⟩) hlt).trans h0, (hb.cell (p := ⟨b, _, none⟩) hlt).trans h1, (hb.cell (p := ⟨b, _, none⟩) hlt).trans h2, (hb.cell (p := ⟨b, _, none⟩) hlt).trans h3, (hb.cell (p := ⟨b, _, none⟩) hlt).trans h4, (hb.cell (p := ⟨b, _, none⟩) hlt).trans h5, ht.below hb, hc.below hb⟩
theorem BlockAt.below {b o : Nat} {x : Bl} (h : BlockAt w b o x) (hb : Below w.heap.size w w') (hlt : b < w.heap.size) : BlockAt w' b o x := by
  obtain ⟨ta, tn, tc, ca, cn, cc, hh⟩ := h
  exact ⟨ta, tn, tc, ca, cn, cc, hh.below hb hlt⟩
theorem Dc.below {a : Option Addr} {n cap : Nat} {d : List Bl} (h : Dc w a n cap d) (hb : Below w.heap.size w w') : Dc w' a n cap d := by
  obtain ⟨h1, h2, h3, h4⟩ := h
  refine ⟨h1, h2, h3, ?_⟩
  rcases h4 with h4 | ⟨b, off, h5, h6, h7⟩
  · exact .inl h4
  · exact .inr ⟨b, off, h5, Nat.lt_of_lt_of_le h6 hb.size, fun k hk => (h7 k hk).below hb h6⟩
end
/-- A block as a value. -/
def blV (k v : Int) (ta : Option Addr) (tn tc : Nat) (R C : Int) (ca : Option Addr) (cn cc : Nat) : Array Value := #[.int .i64 k, .int .i64 v, .slice ta tn tc, .int .i64 R, .int .i64 C, .slice ca cn cc]
/-- Whether a table is nothing. -/
def noneB (R C : Int) (l : List Cl) : Bool := decide (R = 0) && decide (C = 0) && decide (l = [])
/-- Whether a block is in form. -/
def blockB (x : Bl) : Bool :=
  if x.1 = 1 then decide (x.2.1 = 0) && textB x.2.2.1 && noneB x.2.2.2.1 x.2.2.2.2.1 x.2.2.2.2.2
  else if x.1 = 2 then decide (0 ≤ x.2.1 ∧ x.2.1 ≤ 3) && textB x.2.2.1 && noneB x.2.2.2.1 x.2.2.2.2.1 x.2.2.2.2.2
  else if x.1 = 3 then decide (x.2.1 = 0) && decide (x.2.2.1 = []) && okB x.2.2.2.1 x.2.2.2.2.1 x.2.2.2.2.2
  else false
/-- How deep a block is as an item. -/
def lvN (x : Bl) : Int := if x.1 = 2 then x.2.1 else -1
def aheadN (d : List Bl) (k : Nat) : Int := if k = 0 then -1 else lvN (d.getD (k - 1) bl0)
def docK (d : List Bl) (k : Nat) : Bool := blockB (d.getD k bl0) && !(decide ((d.getD k bl0).1 = 2) && decide (aheadN d k + 1 < (d.getD k bl0).2.1))
def docB (d : List Bl) : Bool := decide (d.length ≤ 8) && (List.range d.length).all (docK d)

theorem l3None_is {R C : Int} {ca : Option Addr} {cn cc : Nat} {l : List Cl} {w : World} {x : Bool} (hx : noneB R C l = x) (h : Tab w ca cn cc l) :
    Calls Try.prog 57 #[.agg #[.int .i64 R, .int .i64 C, .slice ca cn cc]] w fun e w' => e = .returned (.bool x) ∧ Below w.heap.size w w' := by
  have hn := h.1
  have hl : (l = []) ↔ (cn = 0) := by rw [hn]; exact List.length_eq_zero_iff.symm
  have HX : Hid (noneB R C l = x) := hx
  have HL : Hid ((l = []) ↔ (cn = 0)) := hl
  clear h hn hl hx
  go_enter Try.func57, Try.ntmps57
  by_cases h1 : R = 0
  · by_cases h2 : C = 0
    · by_cases h3 : cn = 0
      · have HE : Hid (noneB R C l = true) := by
          show noneB R C l = true
          simp [noneB, h1, h2, HL.out.2 h3]
        have hxe : x = true := HX.out.symm.trans HE.out
        clear HE HX HL
        subst h1 h2 h3
        go_wp2
        all_goals go_ret
        all_goals exact ⟨by rw [hxe]; rfl, (Below.refl _ _).alloc (Nat.le_refl _) _⟩
      · have HE : Hid (noneB R C l = false) := by
          show noneB R C l = false
          simp [noneB, show ¬ l = [] from fun e => h3 (HL.out.1 e)]
        have hxe : x = false := HX.out.symm.trans HE.out
        clear HE HX HL
        subst h1 h2
        go_wp2
        all_goals go_ret
        all_goals exact ⟨by rw [hxe]; simp [h3], (Below.refl _ _).alloc (Nat.le_refl _) _⟩
    · subst h1
      go_wp2
      all_goals go_ret
      all_goals exact ⟨by rw [← HX.out]; simp [noneB, h2], (Below.refl _ _).alloc (Nat.le_refl _) _⟩
  · go_wp2
    all_goals go_ret
    all_goals exact ⟨by rw [← HX.out]; simp [noneB, h1], (Below.refl _ _).alloc (Nat.le_refl _) _⟩
end Go.Proofs.Ythjipnocemioaaa
namespace Go.Proofs.Ythjipnocemioaaa
open Go.ChangeShapes Go.WideShapes Go.ChangeAt Go.RowKit

section
variable {H : Type} {enc : TypeId × Value → H} {w : World} {base : Nat} {spare : Nat → Bool} {held : Bool}
set_option maxRecDepth 100000 in
theorem cellsSlB : Try.prog.cellsOf 22 = 1 := by kernel_rfl
set_option maxRecDepth 100000 in
theorem cellsBlock : Try.prog.cellsOf 91 = 6 := by kernel_rfl
set_option maxRecDepth 100000 in
theorem cellsDoc : Try.prog.cellsOf 24 = 1 := by kernel_rfl
set_option maxRecDepth 100000 in
/-- A block that came in, opened. -/
theorem open_block {fuel : Nat} {cs : List Value} {x : DataW H × List MemPlace} (h : DataW.trod enc Try.prog w base spare held fuel 91 cs = some x) :
    ∃ (k v : Int) (ta : Option Addr) (tn tc : Nat) (R C : Int) (ca : Option Addr) (cn cc : Nat) (t : List Sg) (l : List Cl), cs = [.int .i64 k, .int .i64 v, .slice ta tn tc, .int .i64 R, .int .i64 C, .slice ca cn cc] ∧ Txt w ta tn tc t ∧ Tab w ca cn cc l := by
  obtain ⟨xs, k, hk, hxy, hcl, hxl, hf⟩ := DataW.trod_struct Try.underlying91 h
  rw [cellsBlock] at hcl
  match xs, hxl, cs, hcl with
  | [y0, y1, y2, y3], _, [v0, v1, v2, v3, v4, v5], _ =>
    have g0 := hf 0 _ rfl
    have g1 := hf 1 _ rfl
    have g2 := hf 2 _ rfl
    have g3 := hf 3 _ rfl
    simp [cellsInt, cellsSlS, cellsTable] at g0 g1 g2 g3
    obtain ⟨n0, r0, _⟩ := DataW.trod_int Try.underlying3 g0
    obtain ⟨n1, r1, _⟩ := DataW.trod_int Try.underlying3 g1
    obtain ⟨ta, tn, tc, t, r2, ht⟩ := open_text g2
    obtain ⟨R, C, ca, cn, cc, l, r3, hc⟩ := open_table g3
    simp only [List.cons.injEq, and_true] at r0 r1 r2 r3
    obtain ⟨r3, r4, r5⟩ := r3
    subst r0 r1 r2 r3 r4 r5
    exact ⟨n0, n1, ta, tn, tc, R, C, ca, cn, cc, t, l, rfl, ht, hc⟩
set_option maxRecDepth 100000 in
/-- A slice of blocks that came in, opened. -/
theorem open_blocks {fuel : Nat} {cs : List Value} {x : DataW H × List MemPlace} (h : DataW.trod enc Try.prog w base spare held fuel 22 cs = some x) :
    ∃ (a : Option Addr) (len cap : Nat) (d : List Bl), cs = [.slice a len cap] ∧ Dc w a len cap d := by
  rcases Go.Deep.open_slice Try.underlying22 h with ⟨rfl, _⟩ | ⟨a, len, cap, m, n, D, Pl, rfl, hb, hl, hm, hmm, rfl, hx⟩
  · exact ⟨none, 0, 0, [], rfl, rfl, Nat.le_refl _, Nat.zero_le _, .inl rfl⟩
  have hlm : len ≤ m := by rw [hmm]; split <;> omega
  have each : ∀ i, i < len → ∃ q : Bl, ∃ ta tn tc ca cn cc, w.cell? (a.add (i * 6)) = some (.int .i64 q.1) ∧ w.cell? (a.add (i * 6 + 1)) = some (.int .i64 q.2.1) ∧ w.cell? (a.add (i * 6 + 2)) = some (.slice ta tn tc) ∧ w.cell? (a.add (i * 6 + 3)) = some (.int .i64 q.2.2.2.1) ∧ w.cell? (a.add (i * 6 + 4)) = some (.int .i64 q.2.2.2.2.1) ∧ w.cell? (a.add (i * 6 + 5)) = some (.slice ca cn cc) ∧
      Txt w ta tn tc q.2.2.1 ∧ Tab w ca cn cc q.2.2.2.2.2 := by
    intro i hi
    obtain ⟨cs', h1, h2⟩ := hx i (by omega)
    rw [cellsBlock] at h1
    obtain ⟨_, hlen, hcell⟩ := World.cells?_some h1
    obtain ⟨k, v, ta, tn, tc, R, C, ca, cn, cc, t, l, rfl, ht, hc⟩ := open_block h2
    have e0 := hcell 0 (by omega)
    have e1 := hcell 1 (by omega)
    have e2 := hcell 2 (by omega)
    have e3 := hcell 3 (by omega)
    have e4 := hcell 4 (by omega)
    have e5 := hcell 5 (by omega)
    rw [Go.Deep.add_add] at e0 e1 e2 e3 e4 e5
    exact ⟨(k, v, t, R, C, l), ta, tn, tc, ca, cn, cc, by simpa using e0, by simpa using e1, by simpa using e2, by simpa using e3, by simpa using e4, by simpa using e5, ht, hc⟩
  obtain ⟨q, hq⟩ := Go.Deep.choose_lt each
  refine ⟨some a, len, cap, (List.range len).map q, rfl, by simp, hl, hm, ?_⟩
  by_cases h0 : len = 0
  · subst h0; exact .inl (by simp)
  · obtain ⟨b, off, spot⟩ := a
    obtain ⟨_, _, _, _, _, _, hc, _⟩ := hq 0 (by omega)
    have hspot : spot = none := by simpa [Addr.add] using World.cell?_spot hc
    subst hspot
    refine .inr ⟨b, off, rfl, by have := World.block_lt_of_cell? _ _ hc; simpa [Addr.add_lit] using this, ?_⟩
    intro k hk
    have hk' : k < len := by simpa using hk
    obtain ⟨ta, tn, tc, ca, cn, cc, a0, a1, a2, a3, a4, a5, ht, hc'⟩ := hq k hk'
    have e : ((List.range len).map q).getD k bl0 = q k := by simp [List.getD, hk']
    rw [e]
    simp only [Addr.add_lit] at a0 a1 a2 a3 a4 a5
    exact ⟨ta, tn, tc, ca, cn, cc, a0, by rw [Nat.add_assoc]; exact a1, by rw [Nat.add_assoc]; exact a2, by rw [Nat.add_assoc]; exact a3, by rw [Nat.add_assoc]; exact a4, by rw [Nat.add_assoc]; exact a5, ht, hc'⟩
set_option maxRecDepth 100000 in
/-- A document that came in, opened. -/
theorem open_doc {fuel : Nat} {cs : List Value} {x : DataW H × List MemPlace} (h : DataW.trod enc Try.prog w base spare held fuel 24 cs = some x) :
    ∃ (a : Option Addr) (len cap : Nat) (d : List Bl), cs = [.slice a len cap] ∧ Dc w a len cap d := by
  obtain ⟨xs, k, hk, hxy, hcl, hxl, hf⟩ := DataW.trod_struct Try.underlying24 h
  rw [cellsDoc] at hcl
  match xs, hxl, cs, hcl with
  | [y0], _, [v0], _ =>
    have g0 := hf 0 _ rfl
    simp [cellsSlB] at g0
    exact open_blocks g0
end
end Go.Proofs.Ythjipnocemioaaa
namespace Go.Proofs.Ythjipnocemioaaa
open Go.RowKit

theorem implTextOk_is {a : Option Addr} {n cap : Nat} {l : List Sg} {w : World} {x : Bool} (h : Txt w a n cap l) (hx : textB l = x) :
    Calls Try.prog 112 #[.slice a n cap] w fun e w' => e = .returned (.bool x) ∧ Below w.heap.size w w' := hx ▸ implTextOk_any a n cap l w h
end Go.Proofs.Ythjipnocemioaaa
namespace Go.Proofs.Ythjipnocemioaaa
open Go.RowKit

set_option maxHeartbeats 2000000 in
theorem eqSign_any (b i o b' i' o' : Int) (w : World) :
    Calls Try.prog 86 #[.agg #[.int .u8 b, .int .i64 i, .int .i64 o], .agg #[.int .u8 b', .int .i64 i', .int .i64 o']] w fun e w' => e = .returned (.bool (decide (b = b' ∧ i = i' ∧ o = o'))) ∧ Below w.heap.size w w' := by
  by_cases h : b = b' ∧ i = i' ∧ o = o'
  · obtain ⟨rfl, rfl, rfl⟩ := h
    rw [decide_eq_true ⟨rfl, rfl, rfl⟩]
    go_enter Try.func86, Try.ntmps86
    go_wp2
    go_ret
    exact ⟨rfl, ((Below.refl _ _).alloc (Nat.le_refl _) _).alloc (by simp) _⟩
  · rw [decide_eq_false h]
    go_enter Try.func86, Try.ntmps86
    go_wp2
    · go_ret
      exact ⟨rfl, ((Below.refl _ _).alloc (Nat.le_refl _) _).alloc (by simp) _⟩
    · go_ret
      exact ⟨rfl, ((Below.refl _ _).alloc (Nat.le_refl _) _).alloc (by simp) _⟩
    · go_ret
      exact ⟨rfl, ((Below.refl _ _).alloc (Nat.le_refl _) _).alloc (by simp) _⟩
set_option maxHeartbeats 1000000 in
theorem toSign_any (b i o : Int) (w : World) :
    Calls Try.prog 84 #[.agg #[.int .u8 b, .int .i64 i, .int .i64 o]] w fun e w' => e = .returned (.agg #[.int .u8 b, .int .i64 i, .int .i64 o]) ∧ Below w.heap.size w w' := by
  go_enter Try.func84, Try.ntmps84
  go_wp2
  refine bodyPost_ret (v := .agg #[.int .u8 b, .int .i64 i, .int .i64 o]) (by simp [results, Try.results84, go_sem]) rfl ⟨rfl, ?_⟩
  exact (((Below.refl _ _).alloc (Nat.le_refl _) _).alloc (by simp) _).alloc (by simp; omega) _

set_option maxHeartbeats 1000000 in
theorem szSignS_any (a : Option Addr) (n cap : Nat) (w : World) (hn : n ≤ cap) (hc : cap ≤ maxLen) :
    Calls Try.prog 72 #[.slice a n cap, .int .i64 1048576] w fun e w' => e = .returned (.int .i64 (if n ≤ 1048576 then 1048576 - n else -1)) ∧ w' = w := by
  unfold maxLen at hc
  by_cases h : n ≤ 1048576
  · rw [if_pos h]
    go_enter Try.func72, Try.ntmps72
    go_wp2
    go_ret
    exact ⟨rfl, rfl⟩
  · rw [if_neg h]
    go_enter Try.func72, Try.ntmps72
    go_wp2
    go_ret
    exact ⟨rfl, rfl⟩

set_option maxHeartbeats 1000000 in
theorem toSignS_any (a : Option Addr) (n cap : Nat) (l : List Sg) (w : World) (h : Txt w a n cap l) (hn : n ≤ 1048576) :
    Calls Try.prog 77 #[.slice a n cap] w fun e w' => e = .returned (.slice (some ⟨w.heap.size, 0, none⟩) n n) ∧ w'.ownsRow w.heap.size 100 3 (.slice (some ⟨w.heap.size, 0, none⟩) n n) n (flat l) ∧ Below w.heap.size w w' := by
  obtain ⟨rfl, hc, hm, hl⟩ := h
  unfold maxLen at hm
  obtain ⟨i0, hi, hz0, hz1, hz2⟩ := info_parts Try.info100
  rcases hl with rfl | ⟨b, off, rfl, hbw, hl⟩
  · go_enter Try.func77, Try.ntmps77
    go_wp2_with (at_make; refine wpList_make_full _ rfl (.tmp 6) (.tmp 6) 44 rfl w.heap.size 100 i0 _ 3 Try.underlying44 hi hz0 hz1 .i64 .i64 _ _ 0 rfl rfl rfl rfl (by rw [hz2]; omega) (by unfold maxLen; omega) (Nat.le_refl _) ?_; intro w1 hown hgrow)
    have hb1 : Below w.heap.size w w1 := (Below.refl _ _).grown hgrow (Nat.le_refl _) (fun k hk => by simp at hk)
    refine wp_loop_rounds 1 ?_
    rw [rounds_succ]
    go_wp2_with fail
    go_ret
    exact ⟨rfl, by simpa [flat, madeCells] using hown, hb1⟩
  · go_enter Try.func77, Try.ntmps77
    go_wp2_with (at_make; refine wpList_make_full _ rfl (.tmp 6) (.tmp 6) 44 rfl w.heap.size 100 i0 _ 3 Try.underlying44 hi hz0 hz1 .i64 .i64 _ _ l.length rfl rfl rfl rfl (by rw [hz2]; omega) (by unfold maxLen; omega) (Nat.le_refl _) ?_; intro w1 hown hgrow)
    have hb1 : Below w.heap.size w w1 := (Below.refl _ _).grown hgrow (Nat.le_refl _) (fun k hk => by simp at hk)
    clear hgrow
    obtain ⟨xs0, hown⟩ : ∃ xs, w1.ownsRow w.heap.size 100 3 (.slice (some ⟨w.heap.size, 0, none⟩) l.length l.length) l.length xs := ⟨_, hown⟩
    go_loopw [4] (fun i wr => ∃ (k : Nat) (xs : List Value), k ≤ l.length ∧ i = .int .i64 k ∧ wr.ownsRow w.heap.size 100 3 (.slice (some ⟨w.heap.size, 0, none⟩) l.length l.length) l.length xs ∧ xs.take (k * 3) = flat (l.take k) ∧ Below w.heap.size w wr) (fun i _ => l.length - (intOf i).toNat)
    case atStart => exact ⟨0, xs0, Nat.zero_le _, rfl, hown, by simp [flat], hb1⟩
    case round =>
      obtain ⟨k, xs, hk, rfl, ho, hx, hbl⟩ := hrel
      have hsz := hbl.size
      have HX : Hid (xs.take (k * 3) = flat (l.take k)) := hx
      have HO : Hid (wr.ownsRow w.heap.size 100 3 (.slice (some ⟨w.heap.size, 0, none⟩) l.length l.length) l.length xs) := ho
      clear hx ho hown hb1
      by_cases hlt : k < l.length
      · obtain ⟨c0, c1, c2⟩ := (hl.below hbl hbw) k hlt
        clear hl
        obtain ⟨s, hs⟩ : ∃ s, s = l.getD k (0, 0, 0) := ⟨_, rfl⟩
        rw [← hs] at c0 c1 c2
        have HS : Hid (s = l.getD k (0, 0, 0)) := hs
        clear hs
        go_wp2_with fail
        refine (toSign_any _ _ _ _).mono ?_
        rintro e w2 ⟨rfl, hb2⟩
        have ho2 := own_below HO.out hb2
        have f0 := ho2.frozenAt (k * 3)
        have f1 := ho2.frozenAt (k * 3 + 1)
        have f2 := ho2.frozenAt (k * 3 + 2)
        have hxl := ho2.1
        obtain ⟨u0, d0⟩ : ∃ u, w2.cell? ⟨w.heap.size, k * 3, none⟩ = some u := ⟨_, (ho2.cellAt (k * 3) (by omega)).trans (List.getElem?_eq_getElem (by omega))⟩
        obtain ⟨u1, d1⟩ : ∃ u, w2.cell? ⟨w.heap.size, k * 3 + 1, none⟩ = some u := ⟨_, (ho2.cellAt (k * 3 + 1) (by omega)).trans (List.getElem?_eq_getElem (by omega))⟩
        obtain ⟨u2, d2⟩ : ∃ u, w2.cell? ⟨w.heap.size, k * 3 + 2, none⟩ = some u := ⟨_, (ho2.cellAt (k * 3 + 2) (by omega)).trans (List.getElem?_eq_getElem (by omega))⟩
        have HO2 : Hid (w2.ownsRow w.heap.size 100 3 (.slice (some ⟨w.heap.size, 0, none⟩) l.length l.length) l.length xs) := ho2
        clear ho2 HO hxl
        go_wp2_with fail
        go_roundw
        case rel =>
          obtain ⟨p0, _⟩ := HO2.out.stored (k * 3) (.int .u8 s.1)
          obtain ⟨p1, _⟩ := p0.stored (k * 3 + 1) (.int .i64 s.2.1)
          obtain ⟨p2, _⟩ := p1.stored (k * 3 + 2) (.int .i64 s.2.2)
          refine ⟨k + 1, _, by omega, by go_num, p2, ?_, ?_⟩
          · rw [take_set3 _ _ _ _ _ (by have := HO2.out.1; omega), HX.out, flat_take_succ l k hlt, ← HS.out]; rfl
          · exact (((hbl.trans (hb2.mono hsz)).setCell (Nat.le_refl _) _).setCell (Nat.le_refl _) _).setCell (Nat.le_refl _) _
        case measure => simp [intOf]; omega
      · go_wp2_with fail
        go_ret
        have hxx : xs = flat l := by
          have h1 := HX.out
          have h2 := HO.out.1
          rw [List.take_of_length_le (by omega), List.take_of_length_le (by omega)] at h1
          exact h1
        exact ⟨rfl, hxx ▸ HO.out, hbl⟩

theorem sg_eq (s t : Sg) : (s = t) ↔ (s.1 = t.1 ∧ s.2.1 = t.2.1 ∧ s.2.2 = t.2.2) := by
  obtain ⟨a, b, c⟩ := s
  obtain ⟨a', b', c'⟩ := t
  simp

theorem list_ne_at (l m : List Sg) (k : Nat) (hne : ¬ ((l.getD k (0, 0, 0)).1 = (m.getD k (0, 0, 0)).1 ∧ (l.getD k (0, 0, 0)).2.1 = (m.getD k (0, 0, 0)).2.1 ∧ (l.getD k (0, 0, 0)).2.2 = (m.getD k (0, 0, 0)).2.2)) : l ≠ m := by
  rintro rfl
  exact hne ⟨rfl, rfl, rfl⟩

theorem take_eq_succ (l m : List Sg) (k : Nat) (h : k < l.length) (hl : l.length = m.length) (he : l.take k = m.take k) (hs : l.getD k (0, 0, 0) = m.getD k (0, 0, 0)) : l.take (k + 1) = m.take (k + 1) := by
  rw [List.take_succ_eq_append_getElem h, List.take_succ_eq_append_getElem (by omega), he]
  simp [List.getD, h, show k < m.length by omega] at hs
  rw [hs]

theorem eqSign_is {s t : Sg} {x : Bool} (h : decide (s.1 = t.1 ∧ s.2.1 = t.2.1 ∧ s.2.2 = t.2.2) = x) (w : World) :
    Calls Try.prog 86 #[.agg #[.int .u8 s.1, .int .i64 s.2.1, .int .i64 s.2.2], .agg #[.int .u8 t.1, .int .i64 t.2.1, .int .i64 t.2.2]] w fun e w' => e = .returned (.bool x) ∧ Below w.heap.size w w' := h ▸ eqSign_any s.1 s.2.1 s.2.2 t.1 t.2.1 t.2.2 w

set_option maxHeartbeats 1000000 in
theorem eqSignS_any (a : Option Addr) (n cap : Nat) (l : List Sg) (a' : Option Addr) (n' cap' : Nat) (m : List Sg) (w : World) (h : Txt w a n cap l) (h' : Txt w a' n' cap' m) :
    Calls Try.prog 80 #[.slice a n cap, .slice a' n' cap'] w fun e w' => e = .returned (.bool (decide (l = m))) ∧ Below w.heap.size w w' := by
  obtain ⟨rfl, hc, hm, hl⟩ := h
  obtain ⟨rfl, hc', hm', hl'⟩ := h'
  unfold maxLen at hm hm'
  by_cases hlen : l.length = m.length
  · have hbq : ((l.length : Int) != (m.length : Int)) = false := by simp [hlen]
    rcases hl with rfl | ⟨b, off, rfl, hbw, hl⟩
    · obtain rfl : m = [] := List.eq_nil_of_length_eq_zero (by simpa using hlen.symm)
      go_enter Try.func80, Try.ntmps80
      go_wp2_with fail
      refine wp_loop_rounds 1 ?_
      rw [rounds_succ]
      go_wp2_with fail
      go_ret
      exact ⟨rfl, Below.refl _ _⟩
    · rcases hl' with rfl | ⟨b', off', rfl, hbw', hl'⟩
      · obtain rfl : l = [] := List.eq_nil_of_length_eq_zero (by simpa using hlen)
        go_enter Try.func80, Try.ntmps80
        go_wp2_with fail
        refine wp_loop_rounds 1 ?_
        rw [rounds_succ]
        go_wp2_with fail
        go_ret
        exact ⟨rfl, Below.refl _ _⟩
      · have HL : Hid (l.length = m.length) := hlen
        have hl1 : l.length ≤ m.length := by omega
        have hl2 : m.length ≤ l.length := by omega
        clear hlen
        go_enter Try.func80, Try.ntmps80
        go_wp2_with fail
        go_loopw [5] (fun i wr => ∃ (k : Nat), k ≤ l.length ∧ i = .int .i64 k ∧ l.take k = m.take k ∧ Below w.heap.size w wr) (fun i _ => l.length - (intOf i).toNat)
        case atStart => exact ⟨0, Nat.zero_le _, rfl, by simp, Below.refl _ _⟩
        case round =>
          obtain ⟨k, hk, rfl, ht, hbl⟩ := hrel
          have hsz := hbl.size
          have HT : Hid (l.take k = m.take k) := ht
          clear ht
          by_cases hlt : k < l.length
          · have hlt' : k < m.length := by omega
            obtain ⟨c0, c1, c2⟩ := (hl.below hbl hbw) k hlt
            obtain ⟨d0, d1, d2⟩ := (hl'.below hbl hbw') k hlt'
            clear hl hl'
            obtain ⟨s, hs⟩ : ∃ s, s = l.getD k (0, 0, 0) := ⟨_, rfl⟩
            obtain ⟨t, ht⟩ : ∃ t, t = m.getD k (0, 0, 0) := ⟨_, rfl⟩
            rw [← hs] at c0 c1 c2
            rw [← ht] at d0 d1 d2
            have HS : Hid (s = l.getD k (0, 0, 0)) := hs
            have HM : Hid (t = m.getD k (0, 0, 0)) := ht
            clear hs ht
            cases hb : decide (s.1 = t.1 ∧ s.2.1 = t.2.1 ∧ s.2.2 = t.2.2)
            · have HF : Hid (decide (l = m) = false) := by
                refine decide_eq_false (list_ne_at l m k ?_)
                rw [← HS.out, ← HM.out]
                exact of_decide_eq_false hb
              have HB : Hid (decide (s.1 = t.1 ∧ s.2.1 = t.2.1 ∧ s.2.2 = t.2.2) = false) := hb
              clear hb
              go_wp2_with fail
              go_region_with (go_at_call 86; refine (eqSign_is (s := s) (t := t) HB.out _).mono ?_; rintro e w1 ⟨rfl, hb1⟩)
              all_goals
                go_wp2_with fail
                go_ret
                exact ⟨by rw [HF.out]; rfl, hbl.drew.trans (hb1.mono hsz)⟩
            · have HB : Hid (decide (s.1 = t.1 ∧ s.2.1 = t.2.1 ∧ s.2.2 = t.2.2) = true) := hb
              clear hb
              go_wp2_with fail
              go_region_with (go_at_call 86; refine (eqSign_is (s := s) (t := t) HB.out _).mono ?_; rintro e w1 ⟨rfl, hb1⟩)
              all_goals
                go_wp2_with fail
                go_roundw
                case rel => exact ⟨k + 1, by omega, by go_num, take_eq_succ l m k hlt HL.out HT.out (by rw [← HS.out, ← HM.out]; exact (sg_eq s t).2 (of_decide_eq_true HB.out)), hbl.drew.trans (hb1.mono hsz)⟩
                case measure => simp [intOf]; omega
          · go_wp2_with fail
            go_ret
            refine ⟨?_, hbl⟩
            have := HT.out
            rw [List.take_of_length_le (by omega), List.take_of_length_le (by omega)] at this
            rw [decide_eq_true this]; rfl
  · have hbq : ((l.length : Int) != (m.length : Int)) = true := by simp; omega
    rw [decide_eq_false (fun e => hlen (by rw [e]))]
    go_enter Try.func80, Try.ntmps80
    go_wp2_with fail
    go_ret
    exact ⟨rfl, Below.refl _ _⟩
theorem szSignS_is (a : Option Addr) (n cap : Nat) (w : World) (hn : n ≤ cap) (hc : cap ≤ maxLen) {x : Int} (h : (if n ≤ 1048576 then 1048576 - (n : Int) else -1) = x) :
    Calls Try.prog 72 #[.slice a n cap, .int .i64 1048576] w fun e w' => e = .returned (.int .i64 x) ∧ w' = w := h ▸ szSignS_any a n cap w hn hc

theorem eqSignS_same (a : Option Addr) (n cap : Nat) (l : List Sg) (a' : Option Addr) (n' cap' : Nat) (w : World) (h : Txt w a n cap l) (h' : Txt w a' n' cap' l) :
    Calls Try.prog 80 #[.slice a n cap, .slice a' n' cap'] w fun e w' => e = .returned (.bool true) ∧ Below w.heap.size w w' := by
  have := eqSignS_any a n cap l a' n' cap' l w h h'
  rwa [decide_eq_true (rfl : l = l)] at this

end Go.Proofs.Ythjipnocemioaaa
namespace Go.Proofs.Ythjipnocemioaaa
open Go.RowKit


set_option maxHeartbeats 1000000 in
theorem szSignS_l (a : Option Addr) (n cap : Nat) (left : Int) (w : World) (hn : n ≤ cap) (hc : cap ≤ maxLen) (h0 : 0 ≤ left) (h1 : left ≤ 1048576) {x : Int} (hx : (if (n : Int) ≤ left then left - n else -1) = x) :
    Calls Try.prog 72 #[.slice a n cap, .int .i64 left] w fun e w' => e = .returned (.int .i64 x) ∧ w' = w := by
  unfold maxLen at hc
  subst hx
  by_cases h : (n : Int) ≤ left
  · rw [if_pos h]
    have k0 : ¬ left - n < 0 := by omega
    go_enter Try.func72, Try.ntmps72
    go_wp2
    go_ret
    exact ⟨rfl, rfl⟩
  · rw [if_neg h]
    have k0 : left - n < 0 := by omega
    go_enter Try.func72, Try.ntmps72
    go_wp2
    go_ret
    exact ⟨rfl, rfl⟩
set_option maxHeartbeats 1000000 in
theorem szCell_l (r c d g : Int) (a : Option Addr) (n cap : Nat) (left : Int) (w : World) (hn : n ≤ cap) (hc : cap ≤ maxLen) (h0 : 0 ≤ left) (h1 : left ≤ 1048576) {x : Int} (hx : (if (n : Int) ≤ left then left - n else -1) = x) :
    Calls Try.prog 88 #[.agg #[.int .i64 r, .int .i64 c, .int .i64 d, .int .i64 g, .slice a n cap], .int .i64 left] w fun e w' => e = .returned (.int .i64 x) ∧ Below w.heap.size w w' := by
  have HX : Hid ((if (n : Int) ≤ left then left - n else -1) = x) := hx
  by_cases hneg : x < 0
  · have hx1 : x = -1 := by split at hx <;> omega
    subst hx1
    clear hx
    go_enter Try.func88, Try.ntmps88
    go_wp2_with (go_at_call 72; refine (szSignS_l _ _ _ _ _ hn hc h0 h1 HX.out).mono ?_; rintro e w1 ⟨rfl, rfl⟩)
    go_ret
    exact ⟨rfl, (Below.refl _ _).alloc (Nat.le_refl _) _⟩
  · clear hx
    go_enter Try.func88, Try.ntmps88
    go_wp2_with (go_at_call 72; refine (szSignS_l _ _ _ _ _ hn hc h0 h1 HX.out).mono ?_; rintro e w1 ⟨rfl, rfl⟩)
    go_ret
    exact ⟨rfl, (Below.refl _ _).alloc (Nat.le_refl _) _⟩

/-- How many signs the cells have. -/
def totT (l : List Cl) : Nat := (l.map fun x => x.2.2.2.2.length).sum
theorem totT_append (a b : List Cl) : totT (a ++ b) = totT a + totT b := by
  unfold totT
  rw [List.map_append, List.sum_append]
theorem totT_take (l : List Cl) (k : Nat) (hk : k < l.length) : totT (l.take (k + 1)) = totT (l.take k) + (l.getD k cl0).2.2.2.2.length := by
  rw [List.take_succ_eq_append_getElem hk, totT_append, show l.getD k cl0 = l[k] from by simp [List.getD, hk]]
  rfl
theorem totT_le (l : List Cl) (k : Nat) (hk : k < l.length) : (l.getD k cl0).2.2.2.2.length ≤ totT l := by
  have h1 := totT_take l k hk
  have h2 := totT_append (l.take (k + 1)) (l.drop (k + 1))
  rw [List.take_append_drop] at h2
  omega
set_option maxHeartbeats 2000000 in
theorem szCellS_any (a : Option Addr) (n cap : Nat) (l : List Cl) (w : World) (h : Tab w a n cap l) :
    Calls Try.prog 83 #[.slice a n cap, .int .i64 1048576] w fun e w' => (e = .returned (.int .i64 (-1)) ∨ (l.length + totT l ≤ 1048576 ∧ e = .returned (.int .i64 (1048576 - l.length - totT l)))) ∧ Below w.heap.size w w' := by
  obtain ⟨rfl, hc, hm, hl⟩ := h
  have hmm := hm
  unfold maxLen at hm
  by_cases h0 : l.length ≤ 1048576
  · go_enter Try.func83, Try.ntmps83
    go_wp2_with fail
    go_loopw [1, 5] (fun lv i wr => ∃ k : Nat, k ≤ l.length ∧ i = .int .i64 k ∧ l.length + totT (l.take k) ≤ 1048576 ∧ lv = .int .i64 (1048576 - (l.length : Int) - (totT (l.take k) : Nat)) ∧ Below w.heap.size w wr) (fun _ i _ => l.length - (intOf i).toNat)
    case atStart => exact ⟨0, Nat.zero_le _, rfl, by simpa [totT] using h0, by simp [totT], Below.refl _ _⟩
    case round =>
      obtain ⟨k, hk, rfl, ht, rfl, hb⟩ := hrel
      have HB : Hid (Below w.heap.size w wr) := hb
      by_cases hlt : k < l.length
      · rcases hl with e | ⟨b, off, rfl, hbw, hl⟩
        · rw [e] at hlt
          exact absurd hlt (by simp)
        obtain ⟨c0, c1, c2, c3, ta, tn, tc, c4, htx⟩ := (hl k hlt).below hb hbw
        obtain ⟨e1, e2, e3, -⟩ := htx
        have HT := totT_take l k hlt
        rw [← e1] at HT
        have HT' : Hid (totT (l.take (k + 1)) = totT (l.take k) + tn) := HT
        have sz := hb.size
        clear hl HT hb e1
        generalize totT (l.take k) = m at ht HT' ⊢
        by_cases hle : (tn : Int) ≤ 1048576 - (l.length : Int) - m
        · have HX : Hid ((if (tn : Int) ≤ 1048576 - (l.length : Int) - m then 1048576 - (l.length : Int) - m - tn else -1) = 1048576 - (l.length : Int) - m - tn) := if_pos hle
          have n0 : ¬ 1048576 - (l.length : Int) - m - tn < 0 := by omega
          go_wp2_with (go_at_call 88; refine (szCell_l _ _ _ _ _ _ _ _ _ e2 e3 (by omega) (by omega) HX.out).mono ?_; rintro e w1 ⟨rfl, hb1⟩)
          go_roundw
          case rel => exact ⟨k + 1, by omega, by go_num, by rw [HT'.out]; omega, by rw [HT'.out]; congr 1; omega, HB.out.trans (hb1.mono sz)⟩
          case measure => simp [intOf]; omega
        · have HX : Hid ((if (tn : Int) ≤ 1048576 - (l.length : Int) - m then 1048576 - (l.length : Int) - m - tn else -1) = -1) := if_neg hle
          go_wp2_with (go_at_call 88; refine (szCell_l _ _ _ _ _ _ _ _ _ e2 e3 (by omega) (by omega) HX.out).mono ?_; rintro e w1 ⟨rfl, hb1⟩)
          go_ret
          exact ⟨.inl rfl, HB.out.trans (hb1.mono sz)⟩
      · have e : l.take k = l := List.take_of_length_le (by omega)
        rw [e] at ht ⊢
        go_wp2_with fail
        go_ret
        exact ⟨.inr ⟨ht, rfl⟩, HB.out⟩
  · go_enter Try.func83, Try.ntmps83
    go_wp2_with fail
    go_ret
    exact ⟨.inl rfl, Below.refl _ _⟩
set_option maxHeartbeats 1000000 in
theorem szTable_any (R C : Int) (a : Option Addr) (n cap : Nat) (l : List Cl) (w : World) (h : Tab w a n cap l) :
    Calls Try.prog 73 #[.agg #[.int .i64 R, .int .i64 C, .slice a n cap], .int .i64 1048576] w fun e w' => (e = .returned (.int .i64 (-1)) ∨ (l.length + totT l ≤ 1048576 ∧ e = .returned (.int .i64 (1048576 - l.length - totT l)))) ∧ Below w.heap.size w w' := by
  have H : Hid (Tab w a n cap l) := h
  clear h
  go_enter Try.func73, Try.ntmps73
  go_wp2_with (go_at_call 83; refine (szCellS_any _ _ _ l _ (H.out.below ((Below.refl _ _).alloc (Nat.le_refl _) _))).mono ?_; rintro e w1 ⟨(rfl | ⟨hle, rfl⟩), hb1⟩)
  · go_ret
    exact ⟨.inl rfl, ((Below.refl _ _).alloc (Nat.le_refl _) _).trans (hb1.mono (by simp))⟩
  · go_ret
    exact ⟨.inr ⟨hle, rfl⟩, ((Below.refl _ _).alloc (Nat.le_refl _) _).trans (hb1.mono (by simp))⟩

set_option maxHeartbeats 2000000 in
theorem toCell_any (r c d g : Int) (a : Option Addr) (n cap : Nat) (l : List Sg) (w : World) (h : Txt w a n cap l) (hn : n ≤ 1048576) :
    Calls Try.prog 89 #[.agg #[.int .i64 r, .int .i64 c, .int .i64 d, .int .i64 g, .slice a n cap]] w fun e w' => (∃ b, w.heap.size ≤ b ∧ e = .returned (.agg #[.int .i64 r, .int .i64 c, .int .i64 d, .int .i64 g, .slice (some ⟨b, 0, none⟩) n n]) ∧ Own w' w.heap.size (.slice (some ⟨b, 0, none⟩) n n) l) ∧ Below w.heap.size w w' := by
  have H : Hid (Txt w a n cap l) := h
  clear h
  go_enter Try.func89, Try.ntmps89
  go_upto_region 6 with fail
  have B0 : Below w.heap.size w (((w.alloc (.cells #[.int .i64 r, .int .i64 c, .int .i64 d, .int .i64 g, .slice a n cap] 133)).alloc (.cells #[.int .i64 0, .int .i64 0, .int .i64 0, .int .i64 0, .slice none 0 0] 59)).alloc (.cells #[.int .i64 r, .int .i64 c, .int .i64 d, .int .i64 g, .slice none 0 0] 59)) := (((Below.refl _ _).alloc (Nat.le_refl _) _).alloc (by simp) _).alloc (by simp; omega) _
  have G0 : RowAt (((w.alloc (.cells #[.int .i64 r, .int .i64 c, .int .i64 d, .int .i64 g, .slice a n cap] 133)).alloc (.cells #[.int .i64 0, .int .i64 0, .int .i64 0, .int .i64 0, .slice none 0 0] 59)).alloc (.cells #[.int .i64 r, .int .i64 c, .int .i64 d, .int .i64 g, .slice none 0 0] 59)) w.heap.size #[.int .i64 r, .int .i64 c, .int .i64 d, .int .i64 g, .slice a n cap] 133 := ((rowAt_new w _ _).alloc _).alloc _
  have G1 : RowAt (((w.alloc (.cells #[.int .i64 r, .int .i64 c, .int .i64 d, .int .i64 g, .slice a n cap] 133)).alloc (.cells #[.int .i64 0, .int .i64 0, .int .i64 0, .int .i64 0, .slice none 0 0] 59)).alloc (.cells #[.int .i64 r, .int .i64 c, .int .i64 d, .int .i64 g, .slice none 0 0] 59)) (w.heap.size + 1) #[.int .i64 0, .int .i64 0, .int .i64 0, .int .i64 0, .slice none 0 0] 59 := by
    have := (rowAt_new (w.alloc (.cells #[.int .i64 r, .int .i64 c, .int .i64 d, .int .i64 g, .slice a n cap] 133)) #[.int .i64 0, .int .i64 0, .int .i64 0, .int .i64 0, .slice none 0 0] 59).alloc (.cells #[.int .i64 r, .int .i64 c, .int .i64 d, .int .i64 g, .slice none 0 0] 59)
    simpa using this
  have G2 : RowAt (((w.alloc (.cells #[.int .i64 r, .int .i64 c, .int .i64 d, .int .i64 g, .slice a n cap] 133)).alloc (.cells #[.int .i64 0, .int .i64 0, .int .i64 0, .int .i64 0, .slice none 0 0] 59)).alloc (.cells #[.int .i64 r, .int .i64 c, .int .i64 d, .int .i64 g, .slice none 0 0] 59)) (w.heap.size + 1 + 1) #[.int .i64 r, .int .i64 c, .int .i64 d, .int .i64 g, .slice none 0 0] 59 := by
    have := (rowAt_new ((w.alloc (.cells #[.int .i64 r, .int .i64 c, .int .i64 d, .int .i64 g, .slice a n cap] 133)).alloc (.cells #[.int .i64 0, .int .i64 0, .int .i64 0, .int .i64 0, .slice none 0 0] 59)) #[.int .i64 r, .int .i64 c, .int .i64 d, .int .i64 g, .slice none 0 0] 59)
    simpa using this
  generalize (((w.alloc (.cells #[.int .i64 r, .int .i64 c, .int .i64 d, .int .i64 g, .slice a n cap] 133)).alloc (.cells #[.int .i64 0, .int .i64 0, .int .i64 0, .int .i64 0, .slice none 0 0] 59)).alloc (.cells #[.int .i64 r, .int .i64 c, .int .i64 d, .int .i64 g, .slice none 0 0] 59)) = v0 at B0 G0 G1 G2 ⊢
  have k4 : v0.cell? ⟨w.heap.size, 4, none⟩ = some (.slice a n cap) := G0.cell 4
  have l2 := G2.lt
  have l1 := G1.lt
  have H1 : Hid (RowAt v0 (w.heap.size + 1) #[.int .i64 0, .int .i64 0, .int .i64 0, .int .i64 0, .slice none 0 0] 59) := G1
  have H2 : Hid (RowAt v0 (w.heap.size + 1 + 1) #[.int .i64 r, .int .i64 c, .int .i64 d, .int .i64 g, .slice none 0 0] 59) := G2
  clear G0 G1 G2
  go_upto_region 7 with (go_at_call 77; refine (toSignS_any _ _ _ l _ (H.out.below B0) hn).mono ?_; rintro e w1 ⟨rfl, ho1, hb1⟩; have q1 : w1.cell? ⟨w.heap.size + 1 + 1, 4, none⟩ = some (.slice none 0 0) := (H2.out.below hb1 l2).cell 4; have q2 := (H2.out.below hb1 l2).frozen 4)
  have lt1 := own_lt ho1 rfl
  have G2 := (H2.out.below hb1 l2).setCell 4 (.slice (some ⟨v0.heap.size, 0, none⟩) n n)
  have G1 := (H1.out.below hb1 l1).other ⟨w.heap.size + 1 + 1, 4, none⟩ (.slice (some ⟨v0.heap.size, 0, none⟩) n n) (by simp <;> omega)
  have O1 := own_set ho1 ⟨w.heap.size + 1 + 1, 4, none⟩ (.slice (some ⟨v0.heap.size, 0, none⟩) n n) (by simp [Value.ownBlock]; omega)
  have B1 : Below w.heap.size w (w1.setCell ⟨w.heap.size + 1 + 1, 4, none⟩ (.slice (some ⟨v0.heap.size, 0, none⟩) n n)) := (B0.trans (hb1.mono B0.size)).setCell (by show _ ≤ w.heap.size + 1 + 1; omega) _
  clear q1 q2 ho1 hb1
  generalize (w1.setCell ⟨w.heap.size + 1 + 1, 4, none⟩ (.slice (some ⟨v0.heap.size, 0, none⟩) n n)) = w2 at G2 G1 O1 B1 ⊢
  have e0 : w2.cell? ⟨w.heap.size + 1 + 1, 0, none⟩ = some (.int .i64 r) := G2.cell 0
  have e1 : w2.cell? ⟨w.heap.size + 1 + 1, 1, none⟩ = some (.int .i64 c) := G2.cell 1
  have e2 : w2.cell? ⟨w.heap.size + 1 + 1, 2, none⟩ = some (.int .i64 d) := G2.cell 2
  have e3 : w2.cell? ⟨w.heap.size + 1 + 1, 3, none⟩ = some (.int .i64 g) := G2.cell 3
  have e4 : w2.cell? ⟨w.heap.size + 1 + 1, 4, none⟩ = some (.slice (some ⟨v0.heap.size, 0, none⟩) n n) := G2.cell 4
  have cell_info : (Try.prog.info? 59).map (·.size) = some 5 := by kernel_rfl
  have HR : Hid (RowAt w2 (w.heap.size + 1) #[.int .i64 0, .int .i64 0, .int .i64 0, .int .i64 0, .slice none 0 0] 59) := G1
  have HL := G2.lt
  have s0 := B0.size
  clear G1 G2
  go_wp2_with ((refine wpList_store_row rfl 59 (.tmp 2) (.tmp 20) rfl (w.heap.size + 1) #[.int .i64 r, .int .i64 c, .int .i64 d, .int .i64 g, .slice (some ⟨v0.heap.size, 0, none⟩) n n] rfl rfl 59 _ HR.out cell_info rfl (cells5_one _ _ _ _ _ _ _) ?_))
  refine bodyPost_ret (v := .agg #[.int .i64 r, .int .i64 c, .int .i64 d, .int .i64 g, .slice (some ⟨v0.heap.size, 0, none⟩) n n]) (results_cell_row (p := 2) (ty := 59) rfl _ _ (w.heap.size + 1) 59 _ _ _ rfl (RowAt.setRow HR.out _) Try.underlying59 rfl cell_info) rfl ⟨⟨v0.heap.size, by omega, rfl, ?_⟩, below_row B1 (by omega) _⟩
  have hn' : n = l.length := H.out.1
  subst hn'
  exact own_less (own_row O1 _ _ (by simp [Value.ownBlock]; omega)) (by omega)

theorem take_set5 (xs : List Value) (k : Nat) (a b c d e : Value) (h : k * 5 + 5 ≤ xs.length) :
    (((((xs.set (k * 5) a).set (k * 5 + 1) b).set (k * 5 + 2) c).set (k * 5 + 3) d).set (k * 5 + 4) e).take ((k + 1) * 5) = xs.take (k * 5) ++ [a, b, c, d, e] := by
  apply List.ext_getElem?
  intro j
  by_cases h1 : j < k * 5
  · rw [List.getElem?_take, if_pos (by omega), List.getElem?_set_ne (by omega), List.getElem?_set_ne (by omega), List.getElem?_set_ne (by omega), List.getElem?_set_ne (by omega), List.getElem?_set_ne (by omega), List.getElem?_append_left (by simp; omega), List.getElem?_take, if_pos h1]
  · rw [List.getElem?_append_right (by simp; omega)]
    have e' : (xs.take (k * 5)).length = k * 5 := by simp; omega
    rw [e', List.getElem?_take]
    rcases (show j = k * 5 ∨ j = k * 5 + 1 ∨ j = k * 5 + 2 ∨ j = k * 5 + 3 ∨ j = k * 5 + 4 ∨ k * 5 + 5 ≤ j from by omega) with rfl | rfl | rfl | rfl | rfl | hj
    · rw [if_pos (by omega), List.getElem?_set_ne (by omega), List.getElem?_set_ne (by omega), List.getElem?_set_ne (by omega), List.getElem?_set_ne (by omega), List.getElem?_set_self (by omega)]; simp
    · rw [if_pos (by omega), List.getElem?_set_ne (by omega), List.getElem?_set_ne (by omega), List.getElem?_set_ne (by omega), List.getElem?_set_self (by simp; omega), show k * 5 + 1 - k * 5 = 1 by omega]; simp
    · rw [if_pos (by omega), List.getElem?_set_ne (by omega), List.getElem?_set_ne (by omega), List.getElem?_set_self (by simp; omega), show k * 5 + 2 - k * 5 = 2 by omega]; simp
    · rw [if_pos (by omega), List.getElem?_set_ne (by omega), List.getElem?_set_self (by simp; omega), show k * 5 + 3 - k * 5 = 3 by omega]; simp
    · rw [if_pos (by omega), List.getElem?_set_self (by simp; omega), show k * 5 + 4 - k * 5 = 4 by omega]; simp
    · rw [if_neg (by omega), List.getElem?_eq_none (by simp; omega)]

set_option maxHeartbeats 4000000 in
theorem toCellS_any (a : Option Addr) (n cap : Nat) (l : List Cl) (w : World) (h : Tab w a n cap l) (hn : l.length + totT l ≤ 1048576) :
    Calls Try.prog 85 #[.slice a n cap] w fun e w' => e = .returned (.slice (some ⟨w.heap.size, 0, none⟩) n n) ∧ (∃ rs, OwnT w' w.heap.size (.slice (some ⟨w.heap.size, 0, none⟩) n n) rs l) ∧ Below w.heap.size w w' := by
  obtain ⟨rfl, hc, hm, hl⟩ := h
  unfold maxLen at hm
  obtain ⟨i0, hi, hz0, hz1, hz2⟩ := info_parts Try.info59
  go_enter Try.func85, Try.ntmps85
  go_wp2_with (at_make; refine wpList_make_full _ rfl (.tmp 6) (.tmp 6) 45 rfl w.heap.size 59 i0 _ 5 Try.underlying45 hi hz0 hz1 .i64 .i64 _ _ l.length rfl rfl rfl rfl (by rw [hz2]; omega) (by unfold maxLen; omega) (Nat.le_refl _) ?_; intro w1 hown hgrow)
  have hb1 : Below w.heap.size w w1 := (Below.refl _ _).grown hgrow (Nat.le_refl _) (fun k hk => by simp at hk)
  clear hgrow
  obtain ⟨xs0, hown⟩ : ∃ xs, w1.ownsRow w.heap.size 59 5 (.slice (some ⟨w.heap.size, 0, none⟩) l.length l.length) l.length xs := ⟨_, hown⟩
  go_loopw [4] (fun i wr => ∃ (k : Nat) (xs : List Value) (rs : List Rw), k ≤ l.length ∧ i = .int .i64 k ∧ wr.ownsRow w.heap.size 59 5 (.slice (some ⟨w.heap.size, 0, none⟩) l.length l.length) l.length xs ∧ xs.take (k * 5) = flat5 rs ∧ TxtOwn wr w.heap.size (some w.heap.size) rs (l.take k) ∧ Below w.heap.size w wr) (fun i _ => l.length - (intOf i).toNat)
  case atStart => exact ⟨0, xs0, [], Nat.zero_le _, rfl, hown, by simp [flat5], TxtOwn.nil _ _ _, hb1⟩
  case round =>
    obtain ⟨k, xs, rs, hk, rfl, ho, hx, ht, hbl⟩ := hrel
    have hsz := hbl.size
    have HX : Hid (xs.take (k * 5) = flat5 rs) := hx
    have HO : Hid (wr.ownsRow w.heap.size 59 5 (.slice (some ⟨w.heap.size, 0, none⟩) l.length l.length) l.length xs) := ho
    have HT : Hid (TxtOwn wr w.heap.size (some w.heap.size) rs (l.take k)) := ht
    have lto := (own_lt ho rfl).2
    clear hx ho hown hb1 ht
    by_cases hlt : k < l.length
    · rcases hl with e | ⟨b, off, rfl, hbw, hl⟩
      · rw [e] at hlt
        exact absurd hlt (by simp)
      obtain ⟨c0, c1, c2, c3, ta, tn, tc, c4, htx⟩ := (hl k hlt).below hbl hbw
      have hle := totT_le l k hlt
      have htn : tn ≤ 1048576 := by rw [htx.1]; omega
      clear hl hle
      obtain ⟨⟨r, c, d, g, tx⟩, hxx⟩ : ∃ x, x = l.getD k cl0 := ⟨_, rfl⟩
      rw [← hxx] at c0 c1 c2 c3 htx
      simp only at c0 c1 c2 c3 htx
      have HXX : Hid ((r, c, d, g, tx) = l.getD k cl0) := hxx
      have HTX : Hid (Txt wr ta tn tc tx) := htx
      clear hxx htx
      go_wp2_with fail
      refine (toCell_any _ _ _ _ _ _ _ tx _ HTX.out htn).mono ?_
      rintro e w2 ⟨⟨tb, htb, rfl, how⟩, hb2⟩
      have ho2 := own_below HO.out hb2
      have f0 := ho2.frozenAt (k * 5)
      have f1 := ho2.frozenAt (k * 5 + 1)
      have f2 := ho2.frozenAt (k * 5 + 2)
      have f3 := ho2.frozenAt (k * 5 + 3)
      have f4 := ho2.frozenAt (k * 5 + 4)
      have hxl := ho2.1
      obtain ⟨u0, d0⟩ : ∃ u, w2.cell? ⟨w.heap.size, k * 5, none⟩ = some u := ⟨_, (ho2.cellAt (k * 5) (by omega)).trans (List.getElem?_eq_getElem (by omega))⟩
      obtain ⟨u1, d1⟩ : ∃ u, w2.cell? ⟨w.heap.size, k * 5 + 1, none⟩ = some u := ⟨_, (ho2.cellAt (k * 5 + 1) (by omega)).trans (List.getElem?_eq_getElem (by omega))⟩
      obtain ⟨u2, d2⟩ : ∃ u, w2.cell? ⟨w.heap.size, k * 5 + 2, none⟩ = some u := ⟨_, (ho2.cellAt (k * 5 + 2) (by omega)).trans (List.getElem?_eq_getElem (by omega))⟩
      obtain ⟨u3, d3⟩ : ∃ u, w2.cell? ⟨w.heap.size, k * 5 + 3, none⟩ = some u := ⟨_, (ho2.cellAt (k * 5 + 3) (by omega)).trans (List.getElem?_eq_getElem (by omega))⟩
      obtain ⟨u4, d4⟩ : ∃ u, w2.cell? ⟨w.heap.size, k * 5 + 4, none⟩ = some u := ⟨_, (ho2.cellAt (k * 5 + 4) (by omega)).trans (List.getElem?_eq_getElem (by omega))⟩
      have HO2 : Hid (w2.ownsRow w.heap.size 59 5 (.slice (some ⟨w.heap.size, 0, none⟩) l.length l.length) l.length xs) := ho2
      have HT2 : Hid (TxtOwn w2 w.heap.size (some w.heap.size) rs (l.take k)) := HT.out.below hb2
      have HW : Hid (Own w2 w.heap.size (.slice (some ⟨tb, 0, none⟩) tn tn) tx) := own_less how hsz
      clear ho2 HO hxl how
      go_wp2_with fail
      go_roundw
      case rel =>
        obtain ⟨p0, _⟩ := HO2.out.stored (k * 5) (.int .i64 r)
        obtain ⟨p1, _⟩ := p0.stored (k * 5 + 1) (.int .i64 c)
        obtain ⟨p2, _⟩ := p1.stored (k * 5 + 2) (.int .i64 d)
        obtain ⟨p3, _⟩ := p2.stored (k * 5 + 3) (.int .i64 g)
        obtain ⟨p4, _⟩ := p3.stored (k * 5 + 4) (.slice (some ⟨tb, 0, none⟩) tn tn)
        have hT := HT2.out.snoc (C := wr.heap.size) (x := (r, c, d, g, some ⟨tb, 0, none⟩, tn, tn)) (y := (r, c, d, g, tx)) ⟨rfl, rfl, rfl, rfl, HW.out⟩ (fun q hq => by simp [rwT, Value.ownBlock] at hq; simp; omega) (fun j hj q hq => HT.out.blockLt j hj q hq) (fun q hq => by simp [rwT, Value.ownBlock] at hq; omega)
        have e1 : l.take k ++ [(r, c, d, g, tx)] = l.take (k + 1) := by rw [List.take_succ_eq_append_getElem hlt, HXX.out]; simp [List.getD, hlt]
        rw [e1] at hT
        refine ⟨k + 1, _, rs ++ [(r, c, d, g, some ⟨tb, 0, none⟩, tn, tn)], by omega, by go_num, p4, ?_, ?_, ?_⟩
        · rw [take_set5 _ _ _ _ _ _ _ (by have := HO2.out.1; omega), HX.out, flat5_append]
          simp [flat5, rwCells]
        · exact ((((hT.set _ _ rfl).set _ _ rfl).set _ _ rfl).set _ _ rfl).set _ _ rfl
        · exact (((((hbl.trans (hb2.mono hsz)).setCell (Nat.le_refl _) _).setCell (Nat.le_refl _) _).setCell (Nat.le_refl _) _).setCell (Nat.le_refl _) _).setCell (Nat.le_refl _) _
      case measure => simp [intOf]; omega
    · go_wp2_with fail
      go_ret
      have e1 : l.take k = l := List.take_of_length_le (by omega)
      have hT := HT.out
      rw [e1] at hT
      have hxx : xs = flat5 rs := by
        have h1 := HX.out
        have h2 := HO.out.1
        rw [List.take_of_length_le (by omega)] at h1
        exact h1
      refine ⟨rfl, ⟨rs, ?_, hT⟩, hbl⟩
      have := HO.out
      rw [hxx] at this
      unfold OwnR
      rw [hT.1]
      exact this
end Go.Proofs.Ythjipnocemioaaa
namespace Go.Proofs.Ythjipnocemioaaa
open Go.RowKit

set_option maxHeartbeats 2000000 in
theorem toTable_any (R C : Int) (a : Option Addr) (n cap : Nat) (l : List Cl) (w : World) (h : Tab w a n cap l) (hn : l.length + totT l ≤ 1048576) :
    Calls Try.prog 78 #[.agg #[.int .i64 R, .int .i64 C, .slice a n cap]] w fun e w' => (∃ b rs, w.heap.size ≤ b ∧ e = .returned (.agg #[.int .i64 R, .int .i64 C, .slice (some ⟨b, 0, none⟩) n n]) ∧ OwnT w' w.heap.size (.slice (some ⟨b, 0, none⟩) n n) rs l) ∧ Below w.heap.size w w' := by
  have H : Hid (Tab w a n cap l) := h
  clear h
  go_enter Try.func78, Try.ntmps78
  go_upto_region 4 with fail
  have B0 : Below w.heap.size w (((w.alloc (.cells #[.int .i64 R, .int .i64 C, .slice a n cap] 89)).alloc (.cells #[.int .i64 0, .int .i64 0, .slice none 0 0] 47)).alloc (.cells #[.int .i64 R, .int .i64 C, .slice none 0 0] 47)) := (((Below.refl _ _).alloc (Nat.le_refl _) _).alloc (by simp) _).alloc (by simp; omega) _
  have G0 : RowAt (((w.alloc (.cells #[.int .i64 R, .int .i64 C, .slice a n cap] 89)).alloc (.cells #[.int .i64 0, .int .i64 0, .slice none 0 0] 47)).alloc (.cells #[.int .i64 R, .int .i64 C, .slice none 0 0] 47)) w.heap.size #[.int .i64 R, .int .i64 C, .slice a n cap] 89 := ((rowAt_new w _ _).alloc _).alloc _
  have G1 : RowAt (((w.alloc (.cells #[.int .i64 R, .int .i64 C, .slice a n cap] 89)).alloc (.cells #[.int .i64 0, .int .i64 0, .slice none 0 0] 47)).alloc (.cells #[.int .i64 R, .int .i64 C, .slice none 0 0] 47)) (w.heap.size + 1) #[.int .i64 0, .int .i64 0, .slice none 0 0] 47 := by
    have := (rowAt_new (w.alloc (.cells #[.int .i64 R, .int .i64 C, .slice a n cap] 89)) #[.int .i64 0, .int .i64 0, .slice none 0 0] 47).alloc (.cells #[.int .i64 R, .int .i64 C, .slice none 0 0] 47)
    simpa using this
  have G2 : RowAt (((w.alloc (.cells #[.int .i64 R, .int .i64 C, .slice a n cap] 89)).alloc (.cells #[.int .i64 0, .int .i64 0, .slice none 0 0] 47)).alloc (.cells #[.int .i64 R, .int .i64 C, .slice none 0 0] 47)) (w.heap.size + 1 + 1) #[.int .i64 R, .int .i64 C, .slice none 0 0] 47 := by
    have := (rowAt_new ((w.alloc (.cells #[.int .i64 R, .int .i64 C, .slice a n cap] 89)).alloc (.cells #[.int .i64 0, .int .i64 0, .slice none 0 0] 47)) #[.int .i64 R, .int .i64 C, .slice none 0 0] 47)
    simpa using this
  generalize (((w.alloc (.cells #[.int .i64 R, .int .i64 C, .slice a n cap] 89)).alloc (.cells #[.int .i64 0, .int .i64 0, .slice none 0 0] 47)).alloc (.cells #[.int .i64 R, .int .i64 C, .slice none 0 0] 47)) = v0 at B0 G0 G1 G2 ⊢
  have k2 : v0.cell? ⟨w.heap.size, 2, none⟩ = some (.slice a n cap) := G0.cell 2
  have l2 := G2.lt
  have l1 := G1.lt
  have H1 : Hid (RowAt v0 (w.heap.size + 1) #[.int .i64 0, .int .i64 0, .slice none 0 0] 47) := G1
  have H2 : Hid (RowAt v0 (w.heap.size + 1 + 1) #[.int .i64 R, .int .i64 C, .slice none 0 0] 47) := G2
  clear G0 G1 G2
  go_upto_region 5 with (go_at_call 85; refine (toCellS_any _ _ _ l _ (H.out.below B0) hn).mono ?_; rintro e w1 ⟨rfl, ⟨rs, ho1⟩, hb1⟩; have q1 : w1.cell? ⟨w.heap.size + 1 + 1, 2, none⟩ = some (.slice none 0 0) := (H2.out.below hb1 l2).cell 2; have q2 := (H2.out.below hb1 l2).frozen 2)
  have G2 := (H2.out.below hb1 l2).setCell 2 (.slice (some ⟨v0.heap.size, 0, none⟩) n n)
  have G1 := (H1.out.below hb1 l1).other ⟨w.heap.size + 1 + 1, 2, none⟩ (.slice (some ⟨v0.heap.size, 0, none⟩) n n) (by simp <;> omega)
  have bk : ∀ k, k < rs.length → ∀ g, (rwT (rs.getD k rw0)).ownBlock = some g → v0.heap.size ≤ g := fun k hk g hg => (own_lt (ho1.2.2.1 k hk).2.2.2.2 hg).1
  have O1 : OwnT (w1.setCell ⟨w.heap.size + 1 + 1, 2, none⟩ (.slice (some ⟨v0.heap.size, 0, none⟩) n n)) v0.heap.size (.slice (some ⟨v0.heap.size, 0, none⟩) n n) rs l :=
    ⟨own_set ho1.1 _ _ (by simp [Value.ownBlock]; omega), ho1.2.1, fun k hk => by
      obtain ⟨h0, h1, h2, h3, h4⟩ := ho1.2.2.1 k hk
      exact ⟨h0, h1, h2, h3, own_set h4 _ _ (fun e => by have := bk k hk _ e; simp at this; omega)⟩, ho1.2.2.2⟩
  have B1 : Below w.heap.size w (w1.setCell ⟨w.heap.size + 1 + 1, 2, none⟩ (.slice (some ⟨v0.heap.size, 0, none⟩) n n)) := (B0.trans (hb1.mono B0.size)).setCell (by show _ ≤ w.heap.size + 1 + 1; omega) _
  clear q1 q2 ho1 hb1
  generalize (w1.setCell ⟨w.heap.size + 1 + 1, 2, none⟩ (.slice (some ⟨v0.heap.size, 0, none⟩) n n)) = w2 at G2 G1 O1 B1 ⊢
  have e0 : w2.cell? ⟨w.heap.size + 1 + 1, 0, none⟩ = some (.int .i64 R) := G2.cell 0
  have e1 : w2.cell? ⟨w.heap.size + 1 + 1, 1, none⟩ = some (.int .i64 C) := G2.cell 1
  have e2 : w2.cell? ⟨w.heap.size + 1 + 1, 2, none⟩ = some (.slice (some ⟨v0.heap.size, 0, none⟩) n n) := G2.cell 2
  have HR : Hid (RowAt w2 (w.heap.size + 1) #[.int .i64 0, .int .i64 0, .slice none 0 0] 47) := G1
  have HL := G2.lt
  have s0 := B0.size
  have HO : Hid (OwnT w2 v0.heap.size (.slice (some ⟨v0.heap.size, 0, none⟩) n n) rs l) := O1
  have HK : Hid (∀ k, k < rs.length → ∀ g, (rwT (rs.getD k rw0)).ownBlock = some g → v0.heap.size ≤ g) := bk
  clear G1 G2 O1 bk
  go_wp2_with ((refine wpList_store_row rfl 47 (.tmp 2) (.tmp 14) rfl (w.heap.size + 1) #[.int .i64 R, .int .i64 C, .slice (some ⟨v0.heap.size, 0, none⟩) n n] rfl rfl 47 _ HR.out tab_info rfl (cells3_one _ _ _ _ _) ?_))
  refine bodyPost_ret (v := .agg #[.int .i64 R, .int .i64 C, .slice (some ⟨v0.heap.size, 0, none⟩) n n]) (results_cell_row (p := 2) (ty := 47) rfl _ _ (w.heap.size + 1) 47 _ _ _ rfl (RowAt.setRow HR.out _) Try.underlying47 rfl tab_info) rfl ⟨⟨v0.heap.size, rs, by omega, rfl, ?_⟩, below_row B1 (by omega) _⟩
  refine OwnT.less (B' := v0.heap.size) ⟨own_row HO.out.1 _ _ (by simp [Value.ownBlock]; omega), HO.out.2.1, fun k hk => ?_, HO.out.2.2.2⟩ (by omega)
  obtain ⟨h0, h1, h2, h3, h4⟩ := HO.out.2.2.1 k hk
  exact ⟨h0, h1, h2, h3, own_row h4 _ _ (fun e => by have := HK.out k hk _ e; omega)⟩

theorem cl_eq (x y : Cl) : (x = y) ↔ (x.1 = y.1 ∧ x.2.1 = y.2.1 ∧ x.2.2.1 = y.2.2.1 ∧ x.2.2.2.1 = y.2.2.2.1 ∧ x.2.2.2.2 = y.2.2.2.2) := by
  obtain ⟨a, b, c, d, e⟩ := x
  obtain ⟨a', b', c', d', e'⟩ := y
  simp
theorem eqSignS_is {a : Option Addr} {n cap : Nat} {l : List Sg} {a' : Option Addr} {n' cap' : Nat} {m : List Sg} {w : World} {x : Bool} (hx : decide (l = m) = x) (h : Txt w a n cap l) (h' : Txt w a' n' cap' m) :
    Calls Try.prog 80 #[.slice a n cap, .slice a' n' cap'] w fun e w' => e = .returned (.bool x) ∧ Below w.heap.size w w' := hx ▸ eqSignS_any a n cap l a' n' cap' m w h h'
set_option maxHeartbeats 4000000 in
theorem eqCell_is (r c d g : Int) (a : Option Addr) (n cap : Nat) (l : List Sg) (r' c' d' g' : Int) (a' : Option Addr) (n' cap' : Nat) (m : List Sg) (w : World) (h : Txt w a n cap l) (h' : Txt w a' n' cap' m) {x : Bool} (hx : x = true ↔ ((r, c, d, g, l) : Cl) = (r', c', d', g', m)) :
    Calls Try.prog 90 #[.agg #[.int .i64 r, .int .i64 c, .int .i64 d, .int .i64 g, .slice a n cap], .agg #[.int .i64 r', .int .i64 c', .int .i64 d', .int .i64 g', .slice a' n' cap']] w fun e w' => e = .returned (.bool x) ∧ Below w.heap.size w w' := by
  have H : Hid (Txt w a n cap l) := h
  have H' : Hid (Txt w a' n' cap' m) := h'
  clear h h'
  have bb : Below w.heap.size w ((w.alloc (.cells #[.int .i64 r, .int .i64 c, .int .i64 d, .int .i64 g, .slice a n cap] 59)).alloc (.cells #[.int .i64 r', .int .i64 c', .int .i64 d', .int .i64 g', .slice a' n' cap'] 59)) := ((Below.refl _ _).alloc (Nat.le_refl _) _).alloc (by simp) _
  by_cases h0 : r = r'
  · by_cases h1 : c = c'
    · by_cases h2 : d = d'
      · by_cases h3 : g = g'
        · subst h0 h1 h2 h3
          have HX : Hid (decide (l = m) = x) := by
            show decide (l = m) = x
            rw [Bool.eq_iff_iff, hx, decide_eq_true_eq]
            simp
          clear hx
          cases x
          · go_enter Try.func90, Try.ntmps90
            go_wp2_with (go_at_call 80; refine (eqSignS_is HX.out (H.out.below bb) (H'.out.below bb)).mono ?_; rintro e w1 ⟨rfl, hb1⟩)
            go_ret
            exact ⟨rfl, bb.trans (hb1.mono (by simp; omega))⟩
          · go_enter Try.func90, Try.ntmps90
            go_wp2_with (go_at_call 80; refine (eqSignS_is HX.out (H.out.below bb) (H'.out.below bb)).mono ?_; rintro e w1 ⟨rfl, hb1⟩)
            go_ret
            exact ⟨rfl, bb.trans (hb1.mono (by simp; omega))⟩
        · subst h0 h1 h2
          obtain rfl : x = false := by
              rw [← Bool.not_eq_true, hx]
              exact fun e => h3 (by simp at e; exact e.1)
          have k : (g != g') = true := by simp; exact h3
          go_enter Try.func90, Try.ntmps90
          go_wp2_with fail
          go_ret
          exact ⟨rfl, bb⟩
      · subst h0 h1
        obtain rfl : x = false := by
              rw [← Bool.not_eq_true, hx]
              exact fun e => h2 (by simp at e; exact e.1)
        have k : (d != d') = true := by simp; exact h2
        go_enter Try.func90, Try.ntmps90
        go_wp2_with fail
        go_ret
        exact ⟨rfl, bb⟩
    · subst h0
      obtain rfl : x = false := by
              rw [← Bool.not_eq_true, hx]
              exact fun e => h1 (by simp at e; exact e.1)
      have k : (c != c') = true := by simp; exact h1
      go_enter Try.func90, Try.ntmps90
      go_wp2_with fail
      go_ret
      exact ⟨rfl, bb⟩
  · obtain rfl : x = false := by
              rw [← Bool.not_eq_true, hx]
              exact fun e => h0 (by simp at e; exact e.1)
    have k : (r != r') = true := by simp; exact h0
    go_enter Try.func90, Try.ntmps90
    go_wp2_with fail
    go_ret
    exact ⟨rfl, bb⟩
theorem take_eq_succC (l m : List Cl) (k : Nat) (h : k < l.length) (hl : l.length = m.length) (he : l.take k = m.take k) (hs : l.getD k cl0 = m.getD k cl0) : l.take (k + 1) = m.take (k + 1) := by
  rw [List.take_succ_eq_append_getElem h, List.take_succ_eq_append_getElem (by omega), he]
  simp only [List.getD, List.getElem?_eq_getElem h, List.getElem?_eq_getElem (show k < m.length by omega), Option.getD_some] at hs
  rw [hs]
set_option maxHeartbeats 4000000 in
theorem eqCellS_is {a : Option Addr} {n cap : Nat} {l : List Cl} {a' : Option Addr} {n' cap' : Nat} {m : List Cl} {w : World} {x : Bool} (hx : x = true ↔ l = m) (h : Tab w a n cap l) (h' : Tab w a' n' cap' m) :
    Calls Try.prog 87 #[.slice a n cap, .slice a' n' cap'] w fun e w' => e = .returned (.bool x) ∧ Below w.heap.size w w' := by
  have HXX : Hid (x = true ↔ l = m) := hx
  clear hx
  obtain ⟨rfl, hc, hm, hl⟩ := h
  obtain ⟨rfl, hc', hm', hl'⟩ := h'
  unfold maxLen at hm hm'
  by_cases hlen : l.length = m.length
  · have hbq : ((l.length : Int) != (m.length : Int)) = false := by simp [hlen]
    have HL : Hid (l.length = m.length) := hlen
    have hl1 : l.length ≤ m.length := by omega
    have hl2 : m.length ≤ l.length := by omega
    clear hlen
    go_enter Try.func87, Try.ntmps87
    go_wp2_with fail
    go_loopw [5] (fun i wr => ∃ (k : Nat), k ≤ l.length ∧ i = .int .i64 k ∧ l.take k = m.take k ∧ Below w.heap.size w wr) (fun i _ => l.length - (intOf i).toNat)
    case atStart => exact ⟨0, Nat.zero_le _, rfl, by simp, Below.refl _ _⟩
    case round =>
      obtain ⟨k, hk, rfl, ht, hbl⟩ := hrel
      have hsz := hbl.size
      have HT : Hid (l.take k = m.take k) := ht
      have HB : Hid (Below w.heap.size w wr) := hbl
      clear ht
      by_cases hlt : k < l.length
      · have hlt' : k < m.length := by omega
        rcases hl with e | ⟨b, off, rfl, hbw, hl⟩
        · rw [e] at hlt
          exact absurd hlt (by simp)
        rcases hl' with e | ⟨b', off', rfl, hbw', hl'⟩
        · rw [e] at hlt'
          exact absurd hlt' (by simp)
        obtain ⟨c0, c1, c2, c3, ta, tn, tc, c4, htx⟩ := (hl k hlt).below hbl hbw
        obtain ⟨d0, d1, d2, d3, ta', tn', tc', d4, htx'⟩ := (hl' k hlt').below hbl hbw'
        clear hl hl'
        obtain ⟨⟨r, c, d, g, tx⟩, hs⟩ : ∃ s, s = l.getD k cl0 := ⟨_, rfl⟩
        obtain ⟨⟨r', c', d', g', tx'⟩, hs'⟩ : ∃ t, t = m.getD k cl0 := ⟨_, rfl⟩
        rw [← hs] at c0 c1 c2 c3 htx
        rw [← hs'] at d0 d1 d2 d3 htx'
        simp only at c0 c1 c2 c3 htx d0 d1 d2 d3 htx'
        have HS : Hid ((r, c, d, g, tx) = l.getD k cl0) := hs
        have HM : Hid ((r', c', d', g', tx') = m.getD k cl0) := hs'
        have HX : Hid (Txt wr ta tn tc tx) := htx
        have HX' : Hid (Txt wr ta' tn' tc' tx') := htx'
        clear hs hs' htx htx' hbl
        by_cases hb : ((r, c, d, g, tx) : Cl) = (r', c', d', g', tx')
        rotate_left
        · have HF : Hid (x = false) := by
            show x = false
            rw [← Bool.not_eq_true, HXX.out]
            intro e
            rw [HS.out, HM.out, e] at hb
            exact hb rfl
          have HBQ : Hid (false = true ↔ ((r, c, d, g, tx) : Cl) = (r', c', d', g', tx')) := ⟨fun e => by simp at e, fun e => absurd e hb⟩
          clear hb
          go_wp2_with fail
          go_region_with (go_at_call 90; refine (eqCell_is _ _ _ _ _ _ _ tx _ _ _ _ _ _ _ tx' _ (HX.out.below (Below.refl _ _).drew) (HX'.out.below (Below.refl _ _).drew) HBQ.out).mono ?_; rintro e w1 ⟨rfl, hb1⟩)
          all_goals
            go_wp2_with fail
            go_ret
            exact ⟨by rw [HF.out]; rfl, HB.out.drew.trans (hb1.mono hsz)⟩
        · have HBQ : Hid (((r, c, d, g, tx) : Cl) = (r', c', d', g', tx')) := hb
          clear hb
          go_wp2_with fail
          go_region_with (go_at_call 90; refine (eqCell_is (x := true) _ _ _ _ _ _ _ tx _ _ _ _ _ _ _ tx' _ (HX.out.below (Below.refl _ _).drew) (HX'.out.below (Below.refl _ _).drew) ⟨fun _ => HBQ.out, fun _ => rfl⟩).mono ?_; rintro e w1 ⟨rfl, hb1⟩)
          all_goals
            go_wp2_with fail
            go_roundw
            case rel => exact ⟨k + 1, by omega, by go_num, take_eq_succC l m k hlt HL.out HT.out (by rw [← HS.out, ← HM.out]; exact HBQ.out), HB.out.drew.trans (hb1.mono hsz)⟩
            case measure => simp [intOf]; omega
      · go_wp2_with fail
        go_ret
        refine ⟨?_, HB.out⟩
        have := HT.out
        rw [List.take_of_length_le (by omega), List.take_of_length_le (by omega)] at this
        rw [HXX.out.2 this]; rfl
  · have hbq : ((l.length : Int) != (m.length : Int)) = true := by simp; omega
    obtain rfl : x = false := by
      rw [← Bool.not_eq_true, HXX.out]
      exact fun e => hlen (by rw [e])
    go_enter Try.func87, Try.ntmps87
    go_wp2_with fail
    go_ret
    exact ⟨rfl, Below.refl _ _⟩
set_option maxHeartbeats 4000000 in
theorem eqTable_same (R C : Int) (a : Option Addr) (n cap : Nat) (l : List Cl) (a' : Option Addr) (n' cap' : Nat) (w : World) (h : Tab w a n cap l) (h' : Tab w a' n' cap' l) :
    Calls Try.prog 81 #[.agg #[.int .i64 R, .int .i64 C, .slice a n cap], .agg #[.int .i64 R, .int .i64 C, .slice a' n' cap']] w fun e w' => e = .returned (.bool true) ∧ Below w.heap.size w w' := by
  have H : Hid (Tab w a n cap l) := h
  have H' : Hid (Tab w a' n' cap' l) := h'
  clear h h'
  have bb : Below w.heap.size w ((w.alloc (.cells #[.int .i64 R, .int .i64 C, .slice a n cap] 47)).alloc (.cells #[.int .i64 R, .int .i64 C, .slice a' n' cap'] 47)) := ((Below.refl _ _).alloc (Nat.le_refl _) _).alloc (by simp) _
  go_enter Try.func81, Try.ntmps81
  go_wp2_with (go_at_call 87; refine (eqCellS_is (x := true) ⟨fun _ => rfl, fun _ => rfl⟩ (H.out.below bb) (H'.out.below bb)).mono ?_; rintro e w1 ⟨rfl, hb1⟩)
  go_ret
  exact ⟨rfl, bb.trans (hb1.mono (by simp; omega))⟩
end Go.Proofs.Ythjipnocemioaaa
namespace Go.Proofs.Ythjipnocemioaaa
open Go.RowKit

set_option maxRecDepth 100000 in
set_option maxHeartbeats 4000000 in
theorem eqBlock_same {k v : Int} {ta : Option Addr} {tn tc : Nat} {R C : Int} {ca : Option Addr} {cn cc : Nat} {ta' : Option Addr} {tn' tc' : Nat} {ca' : Option Addr} {cn' cc' : Nat} {t : List Sg} {l : List Cl} {w : World} (ht : Txt w ta tn tc t) (hc : Tab w ca cn cc l) (ht' : Txt w ta' tn' tc' t) (hc' : Tab w ca' cn' cc' l) :
    Calls Try.prog 62 #[.agg #[.int .i64 k, .int .i64 v, .slice ta tn tc, .int .i64 R, .int .i64 C, .slice ca cn cc], .agg #[.int .i64 k, .int .i64 v, .slice ta' tn' tc', .int .i64 R, .int .i64 C, .slice ca' cn' cc']] w fun e w' => e = .returned (.bool true) ∧ Below w.heap.size w w' := by
  have HT : Hid (Txt w ta tn tc t) := ht
  have HC : Hid (Tab w ca cn cc l) := hc
  have HT' : Hid (Txt w ta' tn' tc' t) := ht'
  have HC' : Hid (Tab w ca' cn' cc' l) := hc'
  clear ht hc ht' hc'
  have HX : Hid (decide (t = t) = true) := by simp [Hid]
  have bb : Below w.heap.size w ((w.alloc (.cells #[.int .i64 k, .int .i64 v, .slice ta tn tc, .int .i64 R, .int .i64 C, .slice ca cn cc] 49)).alloc (.cells #[.int .i64 k, .int .i64 v, .slice ta' tn' tc', .int .i64 R, .int .i64 C, .slice ca' cn' cc'] 49)) := ((Below.refl _ _).alloc (Nat.le_refl _) _).alloc (by simp) _
  have q3 : ∀ w1, Below ((w.alloc (.cells #[.int .i64 k, .int .i64 v, .slice ta tn tc, .int .i64 R, .int .i64 C, .slice ca cn cc] 49)).alloc (.cells #[.int .i64 k, .int .i64 v, .slice ta' tn' tc', .int .i64 R, .int .i64 C, .slice ca' cn' cc'] 49)).heap.size ((w.alloc (.cells #[.int .i64 k, .int .i64 v, .slice ta tn tc, .int .i64 R, .int .i64 C, .slice ca cn cc] 49)).alloc (.cells #[.int .i64 k, .int .i64 v, .slice ta' tn' tc', .int .i64 R, .int .i64 C, .slice ca' cn' cc'] 49)) w1 → RowAt w1 w.heap.size #[.int .i64 k, .int .i64 v, .slice ta tn tc, .int .i64 R, .int .i64 C, .slice ca cn cc] 49 ∧ RowAt w1 (w.heap.size + 1) #[.int .i64 k, .int .i64 v, .slice ta' tn' tc', .int .i64 R, .int .i64 C, .slice ca' cn' cc'] 49 := fun w1 h => by
    refine ⟨((rowAt_new w _ _).alloc _).below h (by simp; omega), ?_⟩
    have := (rowAt_new (w.alloc (.cells #[.int .i64 k, .int .i64 v, .slice ta tn tc, .int .i64 R, .int .i64 C, .slice ca cn cc] 49)) #[.int .i64 k, .int .i64 v, .slice ta' tn' tc', .int .i64 R, .int .i64 C, .slice ca' cn' cc'] 49).below h (by simp)
    simpa using this
  have HQ : Hid _ := q3
  clear q3
  go_enter Try.func62, Try.ntmps62
  go_wp2_with (first | (go_at_call 80; refine (eqSignS_is HX.out (HT.out.below bb) (HT'.out.below bb)).mono ?_; rintro e w1 ⟨rfl, hb1⟩; have a3 := (HQ.out w1 hb1).1.cell 3; have a4 := (HQ.out w1 hb1).1.cell 4; have a5 := (HQ.out w1 hb1).1.cell 5; have b3 := (HQ.out w1 hb1).2.cell 3; have b4 := (HQ.out w1 hb1).2.cell 4; have b5 := (HQ.out w1 hb1).2.cell 5; simp at a3 a4 a5 b3 b4 b5) | (go_at_call 81; refine (eqTable_same R C _ _ _ l _ _ _ _ ((HC.out.below bb).below hb1) ((HC'.out.below bb).below hb1)).mono ?_; rintro e w2 ⟨rfl, hb2⟩))
  go_ret
  exact ⟨rfl, (bb.trans (hb1.mono bb.size)).trans (hb2.mono (Nat.le_trans bb.size hb1.size))⟩
set_option maxRecDepth 100000 in
set_option maxHeartbeats 4000000 in
theorem eqBlockS_same {a : Option Addr} {n cap : Nat} {a' : Option Addr} {n' cap' : Nat} {d : List Bl} {w : World} (h : Dc w a n cap d) (h' : Dc w a' n' cap' d) :
    Calls Try.prog 34 #[.slice a n cap, .slice a' n' cap'] w fun e w' => e = .returned (.bool true) ∧ Below w.heap.size w w' := by
  obtain ⟨rfl, hc, hm, hl⟩ := h
  obtain ⟨rfl, hc', hm', hl'⟩ := h'
  unfold maxLen at hm hm'
  have hbq : ((d.length : Int) != (d.length : Int)) = false := by simp
  have HL : Hid (d = [] ∨ ∃ b off, a = some ⟨b, off, none⟩ ∧ b < w.heap.size ∧ ∀ k, k < d.length → BlockAt w b (off + k * 6) (d.getD k bl0)) := hl
  have HL' : Hid (d = [] ∨ ∃ b off, a' = some ⟨b, off, none⟩ ∧ b < w.heap.size ∧ ∀ k, k < d.length → BlockAt w b (off + k * 6) (d.getD k bl0)) := hl'
  clear hl hl'
  go_enter Try.func34, Try.ntmps34
  go_wp2_with fail
  go_loopw [5] (fun i wr => ∃ (k : Nat), k ≤ d.length ∧ i = .int .i64 k ∧ Below w.heap.size w wr) (fun i _ => d.length - (intOf i).toNat)
  case atStart => exact ⟨0, Nat.zero_le _, rfl, Below.refl _ _⟩
  case round =>
    obtain ⟨k, hk, rfl, hbl⟩ := hrel
    have hsz := hbl.size
    have HB : Hid (Below w.heap.size w wr) := hbl
    by_cases hlt : k < d.length
    · rcases HL.out with e | ⟨b, off, rfl, hbw, hl⟩
      · rw [e] at hlt
        exact absurd hlt (by simp)
      rcases HL'.out with e | ⟨b', off', rfl, hbw', hl'⟩
      · rw [e] at hlt
        exact absurd hlt (by simp)
      obtain ⟨ta, tn, tc, ca, cn, cc, hblk⟩ := (hl k hlt).below hbl hbw
      obtain ⟨ta', tn', tc', ca', cn', cc', hblk'⟩ := (hl' k hlt).below hbl hbw'
      clear hl hl'
      obtain ⟨⟨K, V, t, R, C, l⟩, hs⟩ : ∃ s, s = d.getD k bl0 := ⟨_, rfl⟩
      rw [← hs] at hblk hblk'
      obtain ⟨c0, c1, c2, c3, c4, c5, htx, htb⟩ := hblk
      obtain ⟨d0, d1, d2, d3, d4, d5, htx', htb'⟩ := hblk'
      simp only at c0 c1 c3 c4 htx htb d0 d1 d3 d4 htx' htb'
      have HT : Hid (Txt wr ta tn tc t) := htx
      have HT' : Hid (Txt wr ta' tn' tc' t) := htx'
      have HC : Hid (Tab wr ca cn cc l) := htb
      have HC' : Hid (Tab wr ca' cn' cc' l) := htb'
      clear hs htx htx' htb htb' hbl
      go_wp2_with fail
      go_region_with (go_at_call 62; refine (eqBlock_same (HT.out.below (Below.refl _ _).drew) (HC.out.below (Below.refl _ _).drew) (HT'.out.below (Below.refl _ _).drew) (HC'.out.below (Below.refl _ _).drew)).mono ?_; rintro e w1 ⟨rfl, hb1⟩)
      all_goals
        go_wp2_with fail
        go_roundw
        case rel => exact ⟨k + 1, by omega, by go_num, HB.out.drew.trans (hb1.mono hsz)⟩
        case measure => simp [intOf]; omega
    · go_wp2_with fail
      go_ret
      exact ⟨rfl, HB.out⟩
set_option maxHeartbeats 4000000 in
theorem eqDoc_same {a : Option Addr} {n cap : Nat} {a' : Option Addr} {n' cap' : Nat} {d : List Bl} {w : World} (h : Dc w a n cap d) (h' : Dc w a' n' cap' d) :
    Calls Try.prog 13 #[.agg #[.slice a n cap], .agg #[.slice a' n' cap']] w fun e w' => e = .returned (.bool true) ∧ Below w.heap.size w w' := by
  have H : Hid (Dc w a n cap d) := h
  have H' : Hid (Dc w a' n' cap' d) := h'
  clear h h'
  have bb : Below w.heap.size w ((w.alloc (.cells #[.slice a n cap] 29)).alloc (.cells #[.slice a' n' cap'] 29)) := ((Below.refl _ _).alloc (Nat.le_refl _) _).alloc (by simp) _
  go_enter Try.func13, Try.ntmps13
  go_wp2_with (go_at_call 34; refine (eqBlockS_same (H.out.below bb) (H'.out.below bb)).mono ?_; rintro e w1 ⟨rfl, hb1⟩)
  go_ret
  exact ⟨rfl, bb.trans (hb1.mono bb.size)⟩
end Go.Proofs.Ythjipnocemioaaa
namespace Go.Proofs.Ythjipnocemioaaa
open Go.RowKit

/-- A slice's value. -/
abbrev Sl3 := Option Addr × Nat × Nat
def sl3V (s : Sl3) : Value := .slice s.1 s.2.1 s.2.2
/-- A block as it lies in memory. -/
abbrev Rb := Int × Int × Sl3 × Int × Int × Sl3
def rb0 : Rb := (0, 0, (none, 0, 0), 0, 0, (none, 0, 0))
def rbCells (x : Rb) : List Value := [.int .i64 x.1, .int .i64 x.2.1, sl3V x.2.2.1, .int .i64 x.2.2.2.1, .int .i64 x.2.2.2.2.1, sl3V x.2.2.2.2.2]
def flat6 (l : List Rb) : List Value := l.flatMap rbCells
theorem flat6_length (l : List Rb) : (flat6 l).length = l.length * 6 := by
  unfold flat6
  induction l with
  | nil => rfl
  | cons x t ih => rw [List.flatMap_cons, List.length_append, ih, List.length_cons]; simp [rbCells]; omega
theorem flat6_append (a b : List Rb) : flat6 (a ++ b) = flat6 a ++ flat6 b := by simp [flat6]
theorem flat6_get : ∀ (l : List Rb) (k : Nat), k < l.length → ∀ j, j < 6 → (flat6 l)[k * 6 + j]? = (rbCells (l.getD k rb0))[j]?
  | [], k, hk, _, _ => absurd hk (by simp)
  | x :: t, 0, _, j, hj => by
      unfold flat6
      rw [List.flatMap_cons, Nat.zero_mul, Nat.zero_add, List.getElem?_append_left (by simpa [rbCells] using hj)]
      rfl
  | x :: t, k + 1, hk, j, hj => by
      have ih := flat6_get t k (by simpa using hk) j hj
      unfold flat6 at ih ⊢
      rw [List.flatMap_cons, List.getElem?_append_right (by simp [rbCells]; omega)]
      have e : (k + 1) * 6 + j - (rbCells x).length = k * 6 + j := by simp [rbCells]; omega
      rw [e, ih]
      rfl
/-- A block whose text lies in [lo, mid) and whose table in [mid, hi), both its own. -/
def BlOwn (w : World) (lo mid hi : Nat) (x : Rb) (y : Bl) : Prop :=
  (x.1 = y.1 ∧ x.2.1 = y.2.1 ∧ x.2.2.2.1 = y.2.2.2.1 ∧ x.2.2.2.2.1 = y.2.2.2.2.1) ∧ Own w lo (sl3V x.2.2.1) y.2.2.1 ∧ (∀ g, (sl3V x.2.2.1).ownBlock = some g → g < mid) ∧
    (∃ rs, OwnT w mid (sl3V x.2.2.2.2.2) rs y.2.2.2.2.2 ∧ (∀ g, (sl3V x.2.2.2.2.2).ownBlock = some g → g < hi) ∧ ∀ k, k < rs.length → ∀ g, (rwT (rs.getD k rw0)).ownBlock = some g → g < hi) ∧ lo ≤ mid ∧ mid ≤ hi
/-- A document's blocks, all their own, between B and E. -/
def DocOwn (w : World) (B E : Nat) (v : Value) (rbs : List Rb) (d : List Bl) : Prop :=
  w.ownsRow B 49 6 v rbs.length (flat6 rbs) ∧ (∀ g, v.ownBlock = some g → g < E) ∧ rbs.length = d.length ∧
    ∃ lo mid hi : Nat → Nat, (∀ k, k < d.length → B ≤ lo k ∧ hi k ≤ E ∧ BlOwn w (lo k) (mid k) (hi k) (rbs.getD k rb0) (d.getD k bl0)) ∧ ∀ k, k + 1 < d.length → hi k ≤ lo (k + 1)
/-- Between B and E nothing has turned. -/
def Mid (B E : Nat) (w w' : World) : Prop := ∀ b, B ≤ b → b < E → w'.heap[b]? = w.heap[b]?
/-- Between B and E nothing but rows of blocks has turned. -/
def Kept (B E : Nat) (w w' : World) : Prop := ∀ b cs ty, B ≤ b → b < E → ty ≠ 49 → RowAt w b cs ty → RowAt w' b cs ty
theorem own_kept {w w' : World} {B E e size n : Nat} {v : Value} {xs : List Value} (h : w.ownsRow B e size v n xs) (he : e ≠ 49) (hv : ∀ g, v.ownBlock = some g → g < E) (ho : Kept B E w w') : w'.ownsRow B e size v n xs := by
  refine ⟨h.1, ?_⟩
  rcases h.2 with hn | ⟨g, cap, cur, rfl, hg, hgg, rest⟩
  · exact .inl hn
  · exact .inr ⟨g, cap, cur, rfl, hg, ho g cur e hg (hv g rfl) he hgg, rest⟩
theorem ownT_kept {w w' : World} {B E : Nat} {v : Value} {rs : List Rw} {l : List Cl} (h : OwnT w B v rs l) (hv : ∀ g, v.ownBlock = some g → g < E) (hr : ∀ k, k < rs.length → ∀ g, (rwT (rs.getD k rw0)).ownBlock = some g → g < E) (ho : Kept B E w w') : OwnT w' B v rs l :=
  ⟨own_kept h.1 (by decide) hv ho, h.2.1, fun k hk => by
    obtain ⟨h0, h1, h2, h3, h4⟩ := h.2.2.1 k hk
    exact ⟨h0, h1, h2, h3, own_kept h4 (by decide) (fun g hg => hr k hk g hg) ho⟩, h.2.2.2⟩
theorem BlOwn.kept {w w' : World} {lo mid hi : Nat} {x : Rb} {y : Bl} (h : BlOwn w lo mid hi x y) (ho : Kept lo hi w w') : BlOwn w' lo mid hi x y := by
  obtain ⟨h0, h1, h2, ⟨rs, h3, h4, h5⟩, h6, h7⟩ := h
  exact ⟨h0, own_kept h1 (by decide) h2 (fun b cs ty hb hb' => ho b cs ty hb (by omega)), h2, ⟨rs, ownT_kept h3 h4 h5 (fun b cs ty hb hb' => ho b cs ty (by omega) hb'), h4, h5⟩, h6, h7⟩
theorem Mid.kept {B E : Nat} {w w' : World} (h : Mid B E w w') : Kept B E w w' := fun b _ _ hb hb' _ hr => (h b hb hb').trans hr
theorem BlOwn.mid {w w' : World} {lo mid hi : Nat} {x : Rb} {y : Bl} (h : BlOwn w lo mid hi x y) (ho : Mid lo hi w w') : BlOwn w' lo mid hi x y := h.kept ho.kept
theorem kept_set {w : World} {g : Nat} {cur : Array Value} (h : RowAt w g cur 49) (B E o : Nat) (u : Value) : Kept B E w (w.setCell ⟨g, o, none⟩ u) := fun b cs ty _ _ hty hr => hr.other _ _ (fun e => by
  simp only at e
  subst e
  unfold RowAt at h hr
  rw [hr] at h
  simp only [Option.some.injEq, Obj.cells.injEq] at h
  exact hty h.2.1)
theorem kept_grown {w w' : World} {q : Option Nat} (hq : ∀ g, q = some g → ∃ cur, RowAt w g cur 49) (hg : w.grownBy w' q) (B E : Nat) : Kept B E w w' := fun b cs ty _ _ hty hr => hr.grown hg (fun e => by
  obtain ⟨cur, h⟩ := hq b e
  unfold RowAt at h hr
  rw [hr] at h
  simp only [Option.some.injEq, Obj.cells.injEq] at h
  exact hty h.2.1)
theorem Kept.trans {w w' w'' : World} {B E : Nat} (h : Kept B E w w') (h' : Kept B E w' w'') : Kept B E w w'' := fun b cs ty hb hb' ht hr => h' b cs ty hb hb' ht (h b cs ty hb hb' ht hr)
theorem own_mid {w w' : World} {B E e size n : Nat} {v : Value} {xs : List Value} (h : w.ownsRow B e size v n xs) (hv : ∀ g, v.ownBlock = some g → g < E) (ho : Mid B E w w') : w'.ownsRow B e size v n xs := by
  refine ⟨h.1, ?_⟩
  rcases h.2 with hn | ⟨g, cap, cur, rfl, hg, hgg, rest⟩
  · exact .inl hn
  · exact .inr ⟨g, cap, cur, rfl, hg, (ho g hg (hv g rfl)).trans hgg, rest⟩
theorem DocOwn.mid {w w' : World} {B E : Nat} {v : Value} {rbs : List Rb} {d : List Bl} (h : DocOwn w B E v rbs d) (ho : Mid B E w w') : DocOwn w' B E v rbs d := by
  obtain ⟨h0, h1, h2, lo, mid, hi, h3, h4⟩ := h
  refine ⟨own_mid h0 h1 ho, h1, h2, lo, mid, hi, fun k hk => ?_, h4⟩
  obtain ⟨a, b, c⟩ := h3 k hk
  exact ⟨a, b, c.mid (fun q hq hq' => ho q (by omega) (by omega))⟩
theorem DocOwn.below {w w' : World} {B E : Nat} {v : Value} {rbs : List Rb} {d : List Bl} (h : DocOwn w B E v rbs d) (hE : E ≤ w.heap.size) (hb : Below w.heap.size w w') : DocOwn w' B E v rbs d :=
  h.mid fun b _ hb' => hb.block b (by omega)
theorem BlOwn.at {w : World} {lo mid hi : Nat} {x : Rb} {y : Bl} (h : BlOwn w lo mid hi x y) {b o : Nat} (hc : ∀ j, j < 6 → w.cell? ⟨b, o + j, none⟩ = (rbCells x)[j]?) : BlockIs w b o y x.2.2.1.1 x.2.2.1.2.1 x.2.2.1.2.2 x.2.2.2.2.2.1 x.2.2.2.2.2.2.1 x.2.2.2.2.2.2.2 := by
  obtain ⟨⟨h0, h1, h2, h3⟩, h4, -, ⟨rs, h5, -, -⟩, -, -⟩ := h
  refine ⟨?_, ?_, ?_, ?_, ?_, ?_, ?_, ?_⟩
  · have := hc 0 (by omega); rw [Nat.add_zero] at this; rw [this, ← h0]; rfl
  · have := hc 1 (by omega); rw [this, ← h1]; rfl
  · have := hc 2 (by omega); rw [this]; rfl
  · have := hc 3 (by omega); rw [this, ← h2]; rfl
  · have := hc 4 (by omega); rw [this, ← h3]; rfl
  · have := hc 5 (by omega); rw [this]; rfl
  · exact Own.txt h4
  · exact OwnT.tab h5
theorem DocOwn.shape {w : World} {B E : Nat} {v : Value} {rbs : List Rb} {d : List Bl} (h : DocOwn w B E v rbs d) : ∃ a c, v = .slice a d.length c := by
  obtain ⟨h0, -, h2, -⟩ := h
  rw [← h2]
  rcases h0.2 with ⟨rfl, hz⟩ | ⟨g, cap, cur, rfl, r⟩
  · exact ⟨none, 0, by rw [hz]⟩
  · exact ⟨_, _, rfl⟩
theorem DocOwn.len {w : World} {B E : Nat} {a : Option Addr} {n c : Nat} {rbs : List Rb} {d : List Bl} (h : DocOwn w B E (.slice a n c) rbs d) : n = d.length := by
  obtain ⟨a', c', he⟩ := h.shape
  simp only [Value.slice.injEq] at he
  exact he.2.1
theorem DocOwn.dc {w : World} {B E : Nat} {a : Option Addr} {n c : Nat} {rbs : List Rb} {d : List Bl} (h : DocOwn w B E (.slice a n c) rbs d) : Dc w a n c d := by
  have hn := h.len
  obtain ⟨h0, h1, h2, lo, mid, hi, h3, -⟩ := h
  have h0' := h0
  rcases h0.2 with ⟨hv, hz⟩ | ⟨g, cap, cur, hv, hg, hgg, hr1, hr2, hr3, hr4⟩
  · cases hv
    exact ⟨hn, Nat.le_refl _, by unfold maxLen; omega, .inl (List.eq_nil_of_length_eq_zero (by omega))⟩
  · simp only [Value.slice.injEq] at hv
    obtain ⟨rfl, h6, rfl⟩ := hv
    refine ⟨hn, by omega, hr2, .inr ⟨g, 0, rfl, (Array.getElem?_eq_some_iff.1 hgg).1, fun k hk => ?_⟩⟩
    obtain ⟨-, -, hB⟩ := h3 k hk
    refine ⟨_, _, _, _, _, _, hB.at (fun j hj => ?_)⟩
    rw [h6] at h0'
    have hc := h0'.cellAt (k * 6 + j) (by omega)
    rw [Nat.zero_add, hc]
    exact flat6_get rbs k (by omega) j hj
theorem DocOwn.less {w : World} {B B' E E' : Nat} {v : Value} {rbs : List Rb} {d : List Bl} (h : DocOwn w B E v rbs d) (hB : B' ≤ B) (hE : E ≤ E') : DocOwn w B' E' v rbs d := by
  obtain ⟨h0, h1, h2, lo, mid, hi, h3, h4⟩ := h
  refine ⟨own_less h0 hB, fun g hg => Nat.lt_of_lt_of_le (h1 g hg) hE, h2, lo, mid, hi, fun k hk => ?_, h4⟩
  obtain ⟨a, b, c⟩ := h3 k hk
  exact ⟨by omega, by omega, c⟩
/-- The blocks of a document, one behind the other, without their rows. -/
def BlsOwn (w : World) (B E : Nat) (rbs : List Rb) (d : List Bl) : Prop :=
  rbs.length = d.length ∧ ∃ lo mid hi : Nat → Nat, (∀ k, k < d.length → B ≤ lo k ∧ hi k ≤ E ∧ BlOwn w (lo k) (mid k) (hi k) (rbs.getD k rb0) (d.getD k bl0)) ∧ ∀ k, k + 1 < d.length → hi k ≤ lo (k + 1)
theorem own_rowAt {w : World} {B e size n m c : Nat} {g : Nat} {xs : List Value} (h : w.ownsRow B e size (.slice (some ⟨g, 0, none⟩) m c) n xs) : ∃ cur, RowAt w g cur e := by
  rcases h.2 with ⟨hv, _⟩ | ⟨g', cap, cur, hv, _, hgg, _⟩
  · cases hv
  · simp only [Value.slice.injEq, Option.some.injEq, Addr.mk.injEq] at hv
    rw [hv.1.1]
    exact ⟨cur, hgg⟩
theorem own_rowAts {w : World} {B e size n : Nat} {v : Value} {xs : List Value} (h : w.ownsRow B e size v n xs) : ∀ g, v.ownBlock = some g → ∃ cur, RowAt w g cur e := by
  intro g hg
  rcases h.2 with ⟨rfl, _⟩ | ⟨g', cap, cur, rfl, _, hgg, _⟩
  · simp [Value.ownBlock] at hg
  · simp only [Value.ownBlock, Option.some.injEq] at hg
    subst hg
    exact ⟨cur, hgg⟩
theorem BlsOwn.nil (w : World) (B E : Nat) : BlsOwn w B E [] [] := ⟨rfl, fun _ => 0, fun _ => 0, fun _ => 0, fun k hk => absurd hk (by simp), fun k hk => absurd hk (by simp)⟩
theorem BlsOwn.kept {w w' : World} {B E : Nat} {rbs : List Rb} {d : List Bl} (h : BlsOwn w B E rbs d) (ho : Kept B E w w') : BlsOwn w' B E rbs d := by
  obtain ⟨h0, lo, mid, hi, h1, h2⟩ := h
  refine ⟨h0, lo, mid, hi, fun k hk => ?_, h2⟩
  obtain ⟨a, b, c⟩ := h1 k hk
  exact ⟨a, b, c.kept (fun g cs ty hg hg' => ho g cs ty (by omega) (by omega))⟩
theorem BlsOwn.snoc {w : World} {B E E' : Nat} {rbs : List Rb} {d : List Bl} {mid : Nat} {x : Rb} {y : Bl} (h : BlsOwn w B E rbs d) (hB : B ≤ E) (hx : BlOwn w E mid E' x y) (hE : E ≤ E') : BlsOwn w B E' (rbs ++ [x]) (d ++ [y]) := by
  obtain ⟨h0, lo, md, hi, h1, h2⟩ := h
  refine ⟨by simp [h0], fun k => if k < d.length then lo k else E, fun k => if k < d.length then md k else mid, fun k => if k < d.length then hi k else E', fun k hk => ?_, fun k hk => ?_⟩
  · by_cases hlt : k < d.length
    · have e1 : (rbs ++ [x]).getD k rb0 = rbs.getD k rb0 := by simp [List.getD, List.getElem?_append_left (show k < rbs.length by rw [h0]; exact hlt)]
      have e2 : (d ++ [y]).getD k bl0 = d.getD k bl0 := by simp [List.getD, List.getElem?_append_left hlt]
      rw [e1, e2]
      simp only [if_pos hlt]
      obtain ⟨a, b, c⟩ := h1 k hlt
      exact ⟨a, by omega, c⟩
    · have ek : k = d.length := by simp at hk; omega
      subst ek
      have e1 : (rbs ++ [x]).getD d.length rb0 = x := by simp [List.getD, ← h0]
      have e2 : (d ++ [y]).getD d.length bl0 = y := by simp [List.getD]
      rw [e1, e2]
      simp only [if_neg hlt]
      exact ⟨hB, Nat.le_refl _, hx⟩
  · by_cases hlt : k + 1 < d.length
    · simp only [if_pos hlt, if_pos (show k < d.length by omega)]
      exact h2 k hlt
    · have ek : k + 1 = d.length := by simp at hk; omega
      have hk' : k < d.length := by omega
      simp only [if_neg hlt, if_pos hk']
      exact (h1 k hk').2.1
theorem BlsOwn.grow {w : World} {B E E' : Nat} {rbs : List Rb} {d : List Bl} (h : BlsOwn w B E rbs d) (hE : E ≤ E') : BlsOwn w B E' rbs d := by
  obtain ⟨h0, lo, md, hi, h1, h2⟩ := h
  refine ⟨h0, lo, md, hi, fun k hk => ?_, h2⟩
  obtain ⟨a, b, c⟩ := h1 k hk
  exact ⟨a, by omega, c⟩
theorem DocOwn.bls {w : World} {B E : Nat} {v : Value} {rbs : List Rb} {d : List Bl} (h : DocOwn w B E v rbs d) : BlsOwn w B E rbs d := h.2.2
theorem docOwn_of {w : World} {B E : Nat} {v : Value} {rbs : List Rb} {d : List Bl} (h : w.ownsRow B 49 6 v rbs.length (flat6 rbs)) (hv : ∀ g, v.ownBlock = some g → g < E) (hb : BlsOwn w B E rbs d) : DocOwn w B E v rbs d := ⟨h, hv, hb⟩
theorem DocOwn.nil (w : World) (B E : Nat) : DocOwn w B E (.slice none 0 0) [] [] :=
  ⟨World.ownsRow_nil _ _ _ _, fun g hg => by simp [Value.ownBlock] at hg, rfl, fun _ => 0, fun _ => 0, fun _ => 0, fun k hk => absurd hk (by simp), fun k hk => absurd hk (by simp)⟩
end Go.Proofs.Ythjipnocemioaaa
namespace Go.Proofs.Ythjipnocemioaaa
open Go.RowKit

set_option maxRecDepth 100000 in
set_option maxHeartbeats 2000000 in
theorem szCellS_l {a : Option Addr} {n cap : Nat} {l : List Cl} {left : Int} {w : World} (h : Tab w a n cap l) (h0 : 0 ≤ left) (h1 : left ≤ 1048576) :
    Calls Try.prog 83 #[.slice a n cap, .int .i64 left] w fun e w' => (e = .returned (.int .i64 (-1)) ∨ ((l.length : Int) + (totT l : Nat) ≤ left ∧ e = .returned (.int .i64 (left - l.length - (totT l : Nat))))) ∧ Below w.heap.size w w' := by
  obtain ⟨rfl, hc, hm, hl⟩ := h
  have hmm := hm
  unfold maxLen at hm
  by_cases hle : (l.length : Int) ≤ left
  · have k0 : ¬ left - (l.length : Int) < 0 := by omega
    go_enter Try.func83, Try.ntmps83
    go_wp2_with fail
    go_loopw [1, 5] (fun lv i wr => ∃ k : Nat, k ≤ l.length ∧ i = .int .i64 k ∧ (l.length : Int) + (totT (l.take k) : Nat) ≤ left ∧ lv = .int .i64 (left - (l.length : Int) - (totT (l.take k) : Nat)) ∧ Below w.heap.size w wr) (fun _ i _ => l.length - (intOf i).toNat)
    case atStart => exact ⟨0, Nat.zero_le _, rfl, by simpa [totT] using hle, by simp [totT], Below.refl _ _⟩
    case round =>
      obtain ⟨k, hk, rfl, ht, rfl, hb⟩ := hrel
      have HB : Hid (Below w.heap.size w wr) := hb
      by_cases hlt : k < l.length
      · rcases hl with e | ⟨b, off, rfl, hbw, hl⟩
        · rw [e] at hlt
          exact absurd hlt (by simp)
        obtain ⟨c0, c1, c2, c3, ta, tn, tc, c4, htx⟩ := (hl k hlt).below hb hbw
        obtain ⟨e1, e2, e3, -⟩ := htx
        have HT := totT_take l k hlt
        rw [← e1] at HT
        have HT' : Hid (totT (l.take (k + 1)) = totT (l.take k) + tn) := HT
        have sz := hb.size
        clear hl HT hb e1
        generalize totT (l.take k) = m at ht HT' ⊢
        by_cases hle2 : (tn : Int) ≤ left - (l.length : Int) - m
        · have HX : Hid ((if (tn : Int) ≤ left - (l.length : Int) - m then left - (l.length : Int) - m - tn else -1) = left - (l.length : Int) - m - tn) := if_pos hle2
          have n0 : ¬ left - (l.length : Int) - m - tn < 0 := by omega
          go_wp2_with (go_at_call 88; refine (szCell_l _ _ _ _ _ _ _ _ _ e2 e3 (by omega) (by omega) HX.out).mono ?_; rintro e w1 ⟨rfl, hb1⟩)
          go_roundw
          case rel => exact ⟨k + 1, by omega, by go_num, by rw [HT'.out]; omega, by rw [HT'.out]; congr 1; omega, HB.out.trans (hb1.mono sz)⟩
          case measure => simp [intOf]; omega
        · have HX : Hid ((if (tn : Int) ≤ left - (l.length : Int) - m then left - (l.length : Int) - m - tn else -1) = -1) := if_neg hle2
          go_wp2_with (go_at_call 88; refine (szCell_l _ _ _ _ _ _ _ _ _ e2 e3 (by omega) (by omega) HX.out).mono ?_; rintro e w1 ⟨rfl, hb1⟩)
          go_ret
          exact ⟨.inl rfl, HB.out.trans (hb1.mono sz)⟩
      · have e : l.take k = l := List.take_of_length_le (by omega)
        rw [e] at ht ⊢
        go_wp2_with fail
        go_ret
        exact ⟨.inr ⟨ht, rfl⟩, HB.out⟩
  · have k0 : left - (l.length : Int) < 0 := by omega
    go_enter Try.func83, Try.ntmps83
    go_wp2_with fail
    go_ret
    exact ⟨.inl rfl, Below.refl _ _⟩
set_option maxHeartbeats 1000000 in
theorem szTable_l {R C : Int} {a : Option Addr} {n cap : Nat} {l : List Cl} {left : Int} {w : World} (h : Tab w a n cap l) (h0 : 0 ≤ left) (h1 : left ≤ 1048576) :
    Calls Try.prog 73 #[.agg #[.int .i64 R, .int .i64 C, .slice a n cap], .int .i64 left] w fun e w' => (e = .returned (.int .i64 (-1)) ∨ ((l.length : Int) + (totT l : Nat) ≤ left ∧ e = .returned (.int .i64 (left - l.length - (totT l : Nat))))) ∧ Below w.heap.size w w' := by
  have H : Hid (Tab w a n cap l) := h
  clear h
  go_enter Try.func73, Try.ntmps73
  go_wp2_with (go_at_call 83; refine (szCellS_l (H.out.below ((Below.refl _ _).alloc (Nat.le_refl _) _)) h0 h1).mono ?_; rintro e w1 ⟨(rfl | ⟨hle, rfl⟩), hb1⟩)
  · go_ret
    exact ⟨.inl rfl, ((Below.refl _ _).alloc (Nat.le_refl _) _).trans (hb1.mono (by simp))⟩
  · go_ret
    exact ⟨.inr ⟨hle, rfl⟩, ((Below.refl _ _).alloc (Nat.le_refl _) _).trans (hb1.mono (by simp))⟩
/-- How much a block has. -/
def szB (x : Bl) : Nat := x.2.2.1.length + (x.2.2.2.2.2.length + totT x.2.2.2.2.2)
set_option maxRecDepth 100000 in
set_option maxHeartbeats 4000000 in
theorem szBlock_l {k v : Int} {ta : Option Addr} {tn tc : Nat} {R C : Int} {ca : Option Addr} {cn cc : Nat} {t : List Sg} {l : List Cl} {left : Int} {w : World} (ht : Txt w ta tn tc t) (hc : Tab w ca cn cc l) (h0 : 0 ≤ left) (h1 : left ≤ 1048576) :
    Calls Try.prog 55 #[.agg #[.int .i64 k, .int .i64 v, .slice ta tn tc, .int .i64 R, .int .i64 C, .slice ca cn cc], .int .i64 left] w fun e w' => (e = .returned (.int .i64 (-1)) ∨ ((szB (k, v, t, R, C, l) : Nat) ≤ left ∧ e = .returned (.int .i64 (left - (szB (k, v, t, R, C, l) : Nat))))) ∧ Below w.heap.size w w' := by
  have e1 := ht.1
  have e2 := ht.2.1
  have e3 := ht.2.2.1
  have HE : Hid (tn = t.length) := e1
  have HC : Hid (Tab w ca cn cc l) := hc
  clear e1 ht hc
  have B0 : Below w.heap.size w (w.alloc (.cells #[.int .i64 k, .int .i64 v, .slice ta tn tc, .int .i64 R, .int .i64 C, .slice ca cn cc] 91)) := (Below.refl _ _).alloc (Nat.le_refl _) _
  by_cases hle : (tn : Int) ≤ left
  · have HX : Hid ((if (tn : Int) ≤ left then left - tn else -1) = left - tn) := if_pos hle
    have n0 : ¬ left - (tn : Int) < 0 := by omega
    go_enter Try.func55, Try.ntmps55
    go_wp2_with (first | (go_at_call 72; refine (szSignS_l _ _ _ _ _ e2 e3 h0 h1 HX.out).mono ?_; rintro e w1 ⟨rfl, hw1⟩; subst w1) | (go_at_call 73; refine (szTable_l (HC.out.below B0) (by omega) (by omega)).mono ?_; rintro e w2 ⟨(rfl | ⟨hle2, rfl⟩), hb2⟩))
    · go_ret
      exact ⟨.inl rfl, B0.trans (hb2.mono B0.size)⟩
    · have n1 : ¬ left - (tn : Int) - (l.length : Int) - (totT l : Nat) < 0 := by omega
      go_wp2_with fail
      go_ret
      refine ⟨.inr ⟨?_, ?_⟩, B0.trans (hb2.mono B0.size)⟩
      · show ((t.length + (l.length + totT l) : Nat) : Int) ≤ left
        have := HE.out
        omega
      · have := HE.out
        have e : left - (tn : Int) - (l.length : Int) - (totT l : Nat) = left - ((t.length + (l.length + totT l) : Nat) : Int) := by omega
        rw [e]
        rfl
  · have HX : Hid ((if (tn : Int) ≤ left then left - tn else -1) = -1) := if_neg hle
    go_enter Try.func55, Try.ntmps55
    go_wp2_with (go_at_call 72; refine (szSignS_l _ _ _ _ _ e2 e3 h0 h1 HX.out).mono ?_; rintro e w1 ⟨rfl, hw1⟩; subst w1)
    go_ret
    exact ⟨.inl rfl, B0⟩
/-- How much the blocks have. -/
def totD (d : List Bl) : Nat := (d.map szB).sum
theorem totD_append (a b : List Bl) : totD (a ++ b) = totD a + totD b := by
  unfold totD
  rw [List.map_append, List.sum_append]
theorem totD_take (l : List Bl) (k : Nat) (hk : k < l.length) : totD (l.take (k + 1)) = totD (l.take k) + szB (l.getD k bl0) := by
  rw [List.take_succ_eq_append_getElem hk, totD_append, show l.getD k bl0 = l[k] from by simp [List.getD, hk]]
  rfl
theorem totD_le (l : List Bl) (k : Nat) (hk : k < l.length) : szB (l.getD k bl0) ≤ totD l := by
  have h1 := totD_take l k hk
  have h2 := totD_append (l.take (k + 1)) (l.drop (k + 1))
  rw [List.take_append_drop] at h2
  omega
set_option maxRecDepth 100000 in
set_option maxHeartbeats 4000000 in
theorem szBlockS_l {a : Option Addr} {n cap : Nat} {d : List Bl} {left : Int} {w : World} (h : Dc w a n cap d) (h0 : 0 ≤ left) (h1 : left ≤ 1048576) :
    Calls Try.prog 29 #[.slice a n cap, .int .i64 left] w fun e w' => (e = .returned (.int .i64 (-1)) ∨ ((d.length : Int) + (totD d : Nat) ≤ left ∧ e = .returned (.int .i64 (left - d.length - (totD d : Nat))))) ∧ Below w.heap.size w w' := by
  obtain ⟨rfl, hc, hm, hl⟩ := h
  have hmm := hm
  unfold maxLen at hm
  by_cases hle : (d.length : Int) ≤ left
  · have k0 : ¬ left - (d.length : Int) < 0 := by omega
    have HL : Hid (d = [] ∨ ∃ b off, a = some ⟨b, off, none⟩ ∧ b < w.heap.size ∧ ∀ k, k < d.length → BlockAt w b (off + k * 6) (d.getD k bl0)) := hl
    clear hl
    go_enter Try.func29, Try.ntmps29
    go_wp2_with fail
    go_loopw [1, 5] (fun lv i wr => ∃ k : Nat, k ≤ d.length ∧ i = .int .i64 k ∧ (d.length : Int) + (totD (d.take k) : Nat) ≤ left ∧ lv = .int .i64 (left - (d.length : Int) - (totD (d.take k) : Nat)) ∧ Below w.heap.size w wr) (fun _ i _ => d.length - (intOf i).toNat)
    case atStart => exact ⟨0, Nat.zero_le _, rfl, by simpa [totD] using hle, by simp [totD], Below.refl _ _⟩
    case round =>
      obtain ⟨k, hk, rfl, ht, rfl, hb⟩ := hrel
      have HB : Hid (Below w.heap.size w wr) := hb
      by_cases hlt : k < d.length
      · rcases HL.out with e | ⟨b, off, rfl, hbw, hl⟩
        · rw [e] at hlt
          exact absurd hlt (by simp)
        obtain ⟨ta, tn, tc, ca, cn, cc, hblk⟩ := (hl k hlt).below hb hbw
        have HT' : Hid (totD (d.take (k + 1)) = totD (d.take k) + szB (d.getD k bl0)) := totD_take d k hlt
        obtain ⟨⟨K, V, t, R, C, l⟩, hx⟩ : ∃ x, x = d.getD k bl0 := ⟨_, rfl⟩
        rw [← hx] at hblk HT'
        obtain ⟨c0, c1, c2, c3, c4, c5, htx, htb⟩ := hblk
        simp only at c0 c1 c3 c4 htx htb
        have HTX : Hid (Txt wr ta tn tc t) := htx
        have HTB : Hid (Tab wr ca cn cc l) := htb
        have sz := hb.size
        clear hl hb hx htx htb
        generalize totD (d.take k) = m at ht HT' ⊢
        go_wp2_with (go_at_call 55; refine (szBlock_l HTX.out HTB.out (by omega) (by omega)).mono ?_; rintro e w1 ⟨(rfl | ⟨hle2, rfl⟩), hb1⟩)
        · go_ret
          exact ⟨.inl rfl, HB.out.trans (hb1.mono sz)⟩
        · generalize szB (K, V, t, R, C, l) = z at HT' hle2 ⊢
          have n0 : ¬ left - (d.length : Int) - (m : Int) - (z : Int) < 0 := by omega
          go_wp2_with fail
          go_roundw
          case rel => exact ⟨k + 1, by omega, by go_num, by rw [HT'.out]; omega, by rw [HT'.out]; congr 1; omega, HB.out.trans (hb1.mono sz)⟩
          case measure => simp [intOf]; omega
      · have e : d.take k = d := List.take_of_length_le (by omega)
        rw [e] at ht ⊢
        go_wp2_with fail
        go_ret
        exact ⟨.inr ⟨ht, rfl⟩, HB.out⟩
  · have k0 : left - (d.length : Int) < 0 := by omega
    go_enter Try.func29, Try.ntmps29
    go_wp2_with fail
    go_ret
    exact ⟨.inl rfl, Below.refl _ _⟩
set_option maxHeartbeats 1000000 in
theorem szDoc_any {a : Option Addr} {n cap : Nat} {d : List Bl} {w : World} (h : Dc w a n cap d) :
    Calls Try.prog 9 #[.agg #[.slice a n cap], .int .i64 1048576] w fun e w' => (e = .returned (.int .i64 (-1)) ∨ (d.length + totD d ≤ 1048576 ∧ e = .returned (.int .i64 (1048576 - d.length - (totD d : Nat))))) ∧ Below w.heap.size w w' := by
  have H : Hid (Dc w a n cap d) := h
  clear h
  have B0 : Below w.heap.size w (w.alloc (.cells #[.slice a n cap] 24)) := (Below.refl _ _).alloc (Nat.le_refl _) _
  go_enter Try.func9, Try.ntmps9
  go_wp2_with (go_at_call 29; refine (szBlockS_l (H.out.below B0) (by omega) (by omega)).mono ?_; rintro e w1 ⟨(rfl | ⟨hle, rfl⟩), hb1⟩)
  · go_ret
    exact ⟨.inl rfl, B0.trans (hb1.mono B0.size)⟩
  · generalize totD d = m at hle ⊢
    have n0 : ¬ (1048576 : Int) - (d.length : Int) - (m : Int) < 0 := by omega
    go_wp2_with fail
    go_ret
    exact ⟨.inr ⟨by omega, rfl⟩, B0.trans (hb1.mono B0.size)⟩
end Go.Proofs.Ythjipnocemioaaa
