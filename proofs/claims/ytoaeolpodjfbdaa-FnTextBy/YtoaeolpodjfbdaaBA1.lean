import Derived.Test.YtoaeolpodjfbdaaRows
import Derived.WalkKit
import Derived.WalkSpells
import Derived.WalkLawsBesides
import Derived.Deep.QuietTactic
import Derived.BigQuiet
import Derived.Deep.RegionWith
import Derived.ProofKit
import Derived.OpenShut
import Derived.ShutString
import Derived.ChangeOld
import Derived.Below
import Derived.Deep.Slices
import Derived.Deep.LoopGhost
namespace Go.Proofs.Ytoaeolpodjfbdaa
open Go.RowKit

def byteB (b : Int) : Bool := decide (97 ≤ b ∧ b ≤ 122 ∨ 48 ≤ b ∧ b ≤ 57 ∨ b = 32)
def whoB (n : Int) : Bool := decide (0 ≤ n ∧ n ≤ 3)
def personN (n : Int) : Int := if n = 1 then 1 else if n = 2 then 2 else if n = 3 then 4 else 0
def signB (b i o : Int) : Bool := byteB b && whoB i && whoB o && decide (o = 0 ∨ i ≠ o)

set_option maxHeartbeats 400000 in
theorem l6In_any (n : Int) (w : World) :
    Calls Try.prog 38 #[.int .i64 n, .int .i64 0, .int .i64 3] w fun e w' => e = .returned (.bool (whoB n)) ∧ w' = w := by
  rcases (show (0 ≤ n ∧ n ≤ 3) ∨ (0 ≤ n ∧ ¬ n ≤ 3) ∨ (¬ 0 ≤ n) from by omega) with ⟨h0, h1⟩ | ⟨h0, h1⟩ | h0
  · have e : whoB n = true := by simp [whoB]; omega
    rw [e]
    go_enter Try.func38, Try.ntmps38
    go_wp2
    go_ret
    exact ⟨rfl, rfl⟩
  all_goals
    have e : whoB n = false := by simp [whoB]; omega
    rw [e]
    go_enter Try.func38, Try.ntmps38
    go_wp2
    go_ret
    exact ⟨rfl, rfl⟩


theorem l6Cases (n lo hi : Int) : (lo ≤ n ∧ n ≤ hi) ∨ (lo ≤ n ∧ ¬ n ≤ hi) ∨ (¬ lo ≤ n) := by omega
set_option maxHeartbeats 400000 in
theorem l6In_gen (n lo hi : Int) (w : World) :
    Calls Try.prog 38 #[.int .i64 n, .int .i64 lo, .int .i64 hi] w fun e w' => e = .returned (.bool (decide (lo ≤ n ∧ n ≤ hi))) ∧ w' = w := by
  rcases l6Cases n lo hi with ⟨h0, h1⟩ | ⟨h0, h1⟩ | h0
  · rw [decide_eq_true ⟨h0, h1⟩]
    go_enter Try.func38, Try.ntmps38
    go_wp2
    go_ret
    exact ⟨rfl, rfl⟩
  · rw [decide_eq_false (fun h => h1 h.2)]
    go_enter Try.func38, Try.ntmps38
    go_wp2
    go_ret
    exact ⟨rfl, rfl⟩
  · rw [decide_eq_false (fun h => h0 h.1)]
    go_enter Try.func38, Try.ntmps38
    go_wp2
    go_ret
    exact ⟨rfl, rfl⟩
theorem l6In_of {n lo hi : Int} {x : Bool} (h : decide (lo ≤ n ∧ n ≤ hi) = x) (w : World) :
    Calls Try.prog 38 #[.int .i64 n, .int .i64 lo, .int .i64 hi] w fun e w' => e = .returned (.bool x) ∧ w' = w := h ▸ l6In_gen n lo hi w

end Go.Proofs.Ytoaeolpodjfbdaa
namespace Go.Proofs.Ytoaeolpodjfbdaa
open Go.RowKit

set_option maxHeartbeats 400000 in
theorem whoOk_any (n : Int) (w : World) :
    Calls Try.prog 41 #[.int .i64 n] w fun e w' => e = .returned (.bool (whoB n)) ∧ w' = w := by
  rcases (show (0 ≤ n ∧ n ≤ 3) ∨ (0 ≤ n ∧ ¬ n ≤ 3) ∨ (¬ 0 ≤ n) from by omega) with ⟨h0, h1⟩ | ⟨h0, h1⟩ | h0
  · have e : whoB n = true := by simp [whoB]; omega
    rw [e]
    go_enter Try.func41, Try.ntmps41
    go_wp2
    go_ret
    exact ⟨rfl, rfl⟩
  all_goals
    have e : whoB n = false := by simp [whoB]; omega
    rw [e]
    go_enter Try.func41, Try.ntmps41
    go_wp2
    go_ret
    exact ⟨rfl, rfl⟩

set_option maxHeartbeats 800000 in
theorem byteOk_any (b : Int) (w : World) :
    Calls Try.prog 40 #[.int .u8 b] w fun e w' => e = .returned (.bool (byteB b)) ∧ w' = w := by
  rcases (show (97 ≤ b ∧ b ≤ 122) ∨ (97 ≤ b ∧ ¬ b ≤ 122) ∨ (¬ 97 ≤ b ∧ 48 ≤ b ∧ b ≤ 57) ∨ (¬ 97 ≤ b ∧ 48 ≤ b ∧ ¬ b ≤ 57) ∨ (¬ 48 ≤ b ∧ b = 32) ∨ (¬ 48 ≤ b ∧ ¬ b = 32) from by omega) with ⟨h0, h1⟩ | ⟨h0, h1⟩ | ⟨h0, h1, h2⟩ | ⟨h0, h1, h2⟩ | ⟨h0, rfl⟩ | ⟨h0, h1⟩
  · rw [show byteB b = true from by simp [byteB]; omega]
    go_enter Try.func40, Try.ntmps40
    go_wp2
    go_ret
    exact ⟨rfl, rfl⟩
  · rw [show byteB b = false from by simp [byteB]; omega]
    have k1 : (b == 32) = false := by simp; omega
    have k2 : ¬ b ≤ 57 := by omega
    have k3 : decide (b ≤ 57) = false := by simp; omega
    go_enter Try.func40, Try.ntmps40
    go_wp2
    go_ret
    exact ⟨rfl, rfl⟩
  · rw [show byteB b = true from by simp [byteB]; omega]
    go_enter Try.func40, Try.ntmps40
    go_wp2
    go_ret
    exact ⟨rfl, rfl⟩
  · rw [show byteB b = false from by simp [byteB]; omega]
    have k1 : (b == 32) = false := by simp; omega
    go_enter Try.func40, Try.ntmps40
    go_wp2
    go_ret
    exact ⟨rfl, rfl⟩
  · go_enter Try.func40, Try.ntmps40
    go_wp2
    go_ret
    exact ⟨rfl, rfl⟩
  · rw [show byteB b = false from by simp [byteB]; omega]
    have k1 : (b == 32) = false := by simp; omega
    go_enter Try.func40, Try.ntmps40
    go_wp2
    go_ret
    exact ⟨rfl, rfl⟩

set_option maxHeartbeats 800000 in
theorem person_any (n : Int) (w : World) :
    Calls Try.prog 36 #[.int .i64 n] w fun e w' => e = .returned (.int .u8 (personN n)) ∧ w' = w := by
  rcases (show n = 0 ∨ n = 1 ∨ n = 2 ∨ n = 3 ∨ (¬ n = 0 ∧ whoB n = false) from by simp [whoB]; omega) with rfl | rfl | rfl | rfl | ⟨h0, h1⟩
  · go_enter Try.func36, Try.ntmps36
    go_wp2_with (first | (go_at_call 41; refine (whoOk_any _ _).mono ?_; rintro e w' ⟨rfl, rfl⟩))
    go_ret
    exact ⟨rfl, rfl⟩
  · go_enter Try.func36, Try.ntmps36
    go_wp2_with (first | (go_at_call 41; refine (whoOk_any _ _).mono ?_; rintro e w' ⟨rfl, rfl⟩))
    go_ret
    exact ⟨rfl, rfl⟩
  · go_enter Try.func36, Try.ntmps36
    go_wp2_with (first | (go_at_call 41; refine (whoOk_any _ _).mono ?_; rintro e w' ⟨rfl, rfl⟩))
    go_ret
    exact ⟨rfl, rfl⟩
  · go_enter Try.func36, Try.ntmps36
    go_wp2_with (first | (go_at_call 41; refine (whoOk_any _ _).mono ?_; rintro e w' ⟨rfl, rfl⟩))
    go_ret
    exact ⟨rfl, rfl⟩
  · have e : personN n = 0 := by
      simp [whoB] at h1
      simp only [personN]
      rw [if_neg (by omega), if_neg (by omega), if_neg (by omega)]
    rw [e]
    go_enter Try.func36, Try.ntmps36
    go_wp2_with (first | (go_at_call 41; refine (whoOk_any _ _).mono ?_; rintro e w' ⟨rfl, rfl⟩))
    go_ret
    exact ⟨rfl, rfl⟩

end Go.Proofs.Ytoaeolpodjfbdaa
namespace Go.Proofs.Ytoaeolpodjfbdaa
open Go.RowKit

theorem whoCases (i o : Int) : whoB i = false ∨ (whoB i = true ∧ whoB o = false) ∨ (whoB i = true ∧ whoB o = true ∧ o = 0) ∨ (whoB i = true ∧ whoB o = true ∧ (o == 0) = false ∧ (i != o) = false) ∨ (whoB i = true ∧ whoB o = true ∧ (o == 0) = false ∧ (i != o) = true) := by
  by_cases h : i = o
  · subst h; cases whoB i <;> by_cases h0 : i = 0 <;> simp [h0]
  · cases whoB i <;> cases whoB o <;> by_cases h0 : o = 0 <;> simp [h0, h]

theorem l6In_is {n : Int} {x : Bool} (h : whoB n = x) (w : World) : Calls Try.prog 38 #[.int .i64 n, .int .i64 0, .int .i64 3] w fun e w' => e = .returned (.bool x) ∧ w' = w := h ▸ l6In_any n w

set_option maxHeartbeats 2000000 in
theorem l1Sign_no (b i o : Int) (w : World) (hb : byteB b = false) :
    Calls Try.prog 25 #[.agg #[.int .u8 b, .int .i64 i, .int .i64 o]] w fun e w' => e = .returned (.bool (signB b i o)) ∧ Below w.heap.size w w' := by
  rw [show signB b i o = false from by simp [signB, hb]]
  have k1 : (b == 32) = false := by simp [byteB] at hb; simp; omega
  rcases (show (97 ≤ b ∧ ¬ b ≤ 122) ∨ (¬ 97 ≤ b ∧ 48 ≤ b ∧ ¬ b ≤ 57) ∨ (¬ 48 ≤ b ∧ ¬ b = 32) from by simp [byteB] at hb; omega) with ⟨h0, h1⟩ | ⟨h0, h1, h2⟩ | ⟨h0, h1⟩
  · have k2 : ¬ b ≤ 57 := by omega
    have k3 : decide (b ≤ 57) = false := by simp; omega
    go_enter Try.func25, Try.ntmps25
    go_wp2_with fail
    go_ret
    exact ⟨rfl, (Below.refl _ _).alloc (Nat.le_refl _) _⟩
  · go_enter Try.func25, Try.ntmps25
    go_wp2_with fail
    go_ret
    exact ⟨rfl, (Below.refl _ _).alloc (Nat.le_refl _) _⟩
  · go_enter Try.func25, Try.ntmps25
    go_wp2_with fail
    go_ret
    exact ⟨rfl, (Below.refl _ _).alloc (Nat.le_refl _) _⟩

theorem byteCases {b : Int} (hb : byteB b = true) : (97 ≤ b ∧ b ≤ 122) ∨ (¬ 97 ≤ b ∧ 48 ≤ b ∧ b ≤ 57 ∧ (b == 32) = false) ∨ b = 32 := by
  simp [byteB] at hb; simp; omega

set_option maxHeartbeats 2000000 in
theorem l1Sign_i (b i o : Int) (w : World) (hb : byteB b = true) (hi : whoB i = false) :
    Calls Try.prog 25 #[.agg #[.int .u8 b, .int .i64 i, .int .i64 o]] w fun e w' => e = .returned (.bool (signB b i o)) ∧ Below w.heap.size w w' := by
  rw [show signB b i o = false from by simp [signB, hi]]
  rcases byteCases hb with ⟨h0, h1⟩ | ⟨h0, h1, h2, h3⟩ | rfl
  all_goals
    clear hb
    go_enter Try.func25, Try.ntmps25
    go_wp2_with (first | (go_at_call_of 38 (Value.int IntKind.i64 i); refine (l6In_is hi _).mono ?_; rintro e w' ⟨rfl, rfl⟩))
    go_ret
    exact ⟨rfl, (Below.refl _ _).alloc (Nat.le_refl _) _⟩

set_option maxHeartbeats 2000000 in
theorem l1Sign_o (b i o : Int) (w : World) (hb : byteB b = true) (hi : whoB i = true) (ho : whoB o = false) :
    Calls Try.prog 25 #[.agg #[.int .u8 b, .int .i64 i, .int .i64 o]] w fun e w' => e = .returned (.bool (signB b i o)) ∧ Below w.heap.size w w' := by
  rw [show signB b i o = false from by simp [signB, ho]]
  rcases byteCases hb with ⟨h0, h1⟩ | ⟨h0, h1, h2, h3⟩ | rfl
  all_goals
    clear hb
    go_enter Try.func25, Try.ntmps25
    go_wp2_with (first | (go_at_call_of 38 (Value.int IntKind.i64 i); refine (l6In_is hi _).mono ?_; rintro e w' ⟨rfl, rfl⟩) | (go_at_call_of 38 (Value.int IntKind.i64 o); refine (l6In_is ho _).mono ?_; rintro e w' ⟨rfl, rfl⟩))
    go_ret
    exact ⟨rfl, (Below.refl _ _).alloc (Nat.le_refl _) _⟩

set_option maxHeartbeats 2000000 in
theorem l1Sign_n (b i o : Int) (w : World) (hb : byteB b = true) (hi : whoB i = true) (ho : whoB o = true) (hz : (o == 0) = false) (hn : (i != o) = false) :
    Calls Try.prog 25 #[.agg #[.int .u8 b, .int .i64 i, .int .i64 o]] w fun e w' => e = .returned (.bool (signB b i o)) ∧ Below w.heap.size w w' := by
  rw [show signB b i o = false from by simp at hz hn; subst hn; simp [signB, hz]]
  rcases byteCases hb with ⟨h0, h1⟩ | ⟨h0, h1, h2, h3⟩ | rfl
  all_goals
    clear hb
    go_enter Try.func25, Try.ntmps25
    go_wp2_with (first | (go_at_call_of 38 (Value.int IntKind.i64 i); refine (l6In_is hi _).mono ?_; rintro e w' ⟨rfl, rfl⟩) | (go_at_call_of 38 (Value.int IntKind.i64 o); refine (l6In_is ho _).mono ?_; rintro e w' ⟨rfl, rfl⟩))
    go_ret
    exact ⟨rfl, (Below.refl _ _).alloc (Nat.le_refl _) _⟩

set_option maxHeartbeats 2000000 in
theorem l1Sign_y (b i o : Int) (w : World) (hb : byteB b = true) (hi : whoB i = true) (ho : whoB o = true) (hz : (o == 0) = false) (hn : (i != o) = true) :
    Calls Try.prog 25 #[.agg #[.int .u8 b, .int .i64 i, .int .i64 o]] w fun e w' => e = .returned (.bool (signB b i o)) ∧ Below w.heap.size w w' := by
  rw [show signB b i o = true from by simp at hz hn; simp [signB, hb, hi, ho, hn]]
  rcases byteCases hb with ⟨h0, h1⟩ | ⟨h0, h1, h2, h3⟩ | rfl
  all_goals
    clear hb
    go_enter Try.func25, Try.ntmps25
    go_wp2_with (first | (go_at_call_of 38 (Value.int IntKind.i64 i); refine (l6In_is hi _).mono ?_; rintro e w' ⟨rfl, rfl⟩) | (go_at_call_of 38 (Value.int IntKind.i64 o); refine (l6In_is ho _).mono ?_; rintro e w' ⟨rfl, rfl⟩))
    go_ret
    exact ⟨rfl, (Below.refl _ _).alloc (Nat.le_refl _) _⟩

set_option maxHeartbeats 2000000 in
theorem l1Sign_z (b i : Int) (w : World) (hb : byteB b = true) (hi : whoB i = true) :
    Calls Try.prog 25 #[.agg #[.int .u8 b, .int .i64 i, .int .i64 0]] w fun e w' => e = .returned (.bool (signB b i 0)) ∧ Below w.heap.size w w' := by
  rw [show signB b i 0 = true from by simp [signB, hb, hi]; rfl]
  rcases byteCases hb with ⟨h0, h1⟩ | ⟨h0, h1, h2, h3⟩ | rfl
  all_goals
    clear hb
    go_enter Try.func25, Try.ntmps25
    go_wp2_with (first | (go_at_call_of 38 (Value.int IntKind.i64 i); refine (l6In_is hi _).mono ?_; rintro e w' ⟨rfl, rfl⟩) | (go_at_call 38; refine (l6In_is (n := 0) (x := true) (by rfl) _).mono ?_; rintro e w' ⟨rfl, rfl⟩))
    go_ret
    exact ⟨rfl, (Below.refl _ _).alloc (Nat.le_refl _) _⟩

theorem l1Sign_any (b i o : Int) (w : World) :
    Calls Try.prog 25 #[.agg #[.int .u8 b, .int .i64 i, .int .i64 o]] w fun e w' => e = .returned (.bool (signB b i o)) ∧ Below w.heap.size w w' := by
  cases hb : byteB b
  · exact l1Sign_no b i o w hb
  · rcases whoCases i o with hi | ⟨hi, ho⟩ | ⟨hi, ho, rfl⟩ | ⟨hi, ho, hz, hn⟩ | ⟨hi, ho, hz, hn⟩
    · exact l1Sign_i b i o w hb hi
    · exact l1Sign_o b i o w hb hi ho
    · exact l1Sign_z b i w hb hi
    · exact l1Sign_n b i o w hb hi ho hz hn
    · exact l1Sign_y b i o w hb hi ho hz hn

end Go.Proofs.Ytoaeolpodjfbdaa
namespace Go.Proofs.Ytoaeolpodjfbdaa
open Go.RowKit

theorem and_person (i o : Int) (hi : whoB i = true) (ho : whoB o = true) : (bits BinOp.and IntKind.u8 (personN i) (personN o) == 0) = decide (o = 0 ∨ i ≠ o) := by
  simp [whoB] at hi ho
  rcases (show i = 0 ∨ i = 1 ∨ i = 2 ∨ i = 3 from by omega) with rfl | rfl | rfl | rfl <;> rcases (show o = 0 ∨ o = 1 ∨ o = 2 ∨ o = 3 from by omega) with rfl | rfl | rfl | rfl <;> rfl

theorem byteOk_is {b : Int} {x : Bool} (h : byteB b = x) (w : World) : Calls Try.prog 40 #[.int .u8 b] w fun e w' => e = .returned (.bool x) ∧ w' = w := h ▸ byteOk_any b w
theorem whoOk_is {n : Int} {x : Bool} (h : whoB n = x) (w : World) : Calls Try.prog 41 #[.int .i64 n] w fun e w' => e = .returned (.bool x) ∧ w' = w := h ▸ whoOk_any n w

set_option maxHeartbeats 1000000 in
theorem signOk_b (b i o : Int) (w : World) (hb : byteB b = false) :
    Calls Try.prog 35 #[.agg #[.int .u8 b, .int .i64 i, .int .i64 o]] w fun e w' => e = .returned (.bool (signB b i o)) ∧ Below w.heap.size w w' := by
  rw [show signB b i o = false from by simp [signB, hb]]
  go_enter Try.func35, Try.ntmps35
  go_wp2_with fail
  go_quiet ((first | (go_at_call 40; exact Calls.quiet_of_same (byteOk_is hb _))))
  go_wp2
  go_ret
  refine ⟨rfl, ?_⟩
  refine below_drewN ?_ _
  exact (Below.refl _ _).alloc (Nat.le_refl _) _

set_option maxHeartbeats 1000000 in
theorem signOk_i (b i o : Int) (w : World) (hb : byteB b = true) (hi : whoB i = false) :
    Calls Try.prog 35 #[.agg #[.int .u8 b, .int .i64 i, .int .i64 o]] w fun e w' => e = .returned (.bool (signB b i o)) ∧ Below w.heap.size w w' := by
  rw [show signB b i o = false from by simp [signB, hi]]
  go_enter Try.func35, Try.ntmps35
  go_wp2_with fail
  go_quiet ((first | (go_at_call 40; exact Calls.quiet_of_same (byteOk_is hb _)) | (go_at_call_of 41 (Value.int IntKind.i64 i); exact Calls.quiet_of_same (whoOk_is hi _))))
  go_wp2
  go_ret
  refine ⟨rfl, ?_⟩
  refine below_drewN ?_ _
  exact (Below.refl _ _).alloc (Nat.le_refl _) _

set_option maxHeartbeats 1000000 in
theorem signOk_o (b i o : Int) (w : World) (hb : byteB b = true) (hi : whoB i = true) (ho : whoB o = false) :
    Calls Try.prog 35 #[.agg #[.int .u8 b, .int .i64 i, .int .i64 o]] w fun e w' => e = .returned (.bool (signB b i o)) ∧ Below w.heap.size w w' := by
  rw [show signB b i o = false from by simp [signB, ho]]
  go_enter Try.func35, Try.ntmps35
  go_wp2_with fail
  go_quiet ((first | (go_at_call 40; exact Calls.quiet_of_same (byteOk_is hb _)) | (go_at_call_of 41 (Value.int IntKind.i64 i); exact Calls.quiet_of_same (whoOk_is hi _)) | (go_at_call_of 41 (Value.int IntKind.i64 o); exact Calls.quiet_of_same (whoOk_is ho _))))
  go_wp2
  go_ret
  refine ⟨rfl, ?_⟩
  refine below_drewN ?_ _
  exact (Below.refl _ _).alloc (Nat.le_refl _) _

set_option maxHeartbeats 1000000 in
theorem signOk_y (b i o : Int) (w : World) (hb : byteB b = true) (hi : whoB i = true) (ho : whoB o = true) :
    Calls Try.prog 35 #[.agg #[.int .u8 b, .int .i64 i, .int .i64 o]] w fun e w' => e = .returned (.bool (signB b i o)) ∧ Below w.heap.size w w' := by
  have hp : Hid ((bits BinOp.and IntKind.u8 (personN i) (personN o) == 0) = signB b i o) := by
    show (bits BinOp.and IntKind.u8 (personN i) (personN o) == 0) = signB b i o
    rw [and_person i o hi ho]; simp [signB, hb, hi, ho]
  go_enter Try.func35, Try.ntmps35
  go_wp2_with fail
  go_quiet ((first | (go_at_call 40; exact Calls.quiet_of_same (byteOk_is hb _)) | (go_at_call_of 41 (Value.int IntKind.i64 i); exact Calls.quiet_of_same (whoOk_is hi _)) | (go_at_call_of 41 (Value.int IntKind.i64 o); exact Calls.quiet_of_same (whoOk_is ho _)) | (go_at_call 36; exact Calls.quiet_of_same (person_any _ _))))
  rw [hp.out]
  go_wp2
  go_ret
  refine ⟨rfl, ?_⟩
  refine below_drewN ?_ _
  exact (Below.refl _ _).alloc (Nat.le_refl _) _

theorem signOk_any (b i o : Int) (w : World) :
    Calls Try.prog 35 #[.agg #[.int .u8 b, .int .i64 i, .int .i64 o]] w fun e w' => e = .returned (.bool (signB b i o)) ∧ Below w.heap.size w w' := by
  cases hb : byteB b
  · exact signOk_b b i o w hb
  · cases hi : whoB i
    · exact signOk_i b i o w hb hi
    · cases ho : whoB o
      · exact signOk_o b i o w hb hi ho
      · exact signOk_y b i o w hb hi ho

end Go.Proofs.Ytoaeolpodjfbdaa
namespace Go.Proofs.Ytoaeolpodjfbdaa
open Go.RowKit

/-- A sign: its byte, who put it in, who takes it out. -/
abbrev Sg := Int × Int × Int
def sgB (s : Sg) : Bool := signB s.1 s.2.1 s.2.2
def textB (l : List Sg) : Bool := decide (l.length ≤ 24) && l.all sgB
def sgV (s : Sg) : Value := .agg #[.int .u8 s.1, .int .i64 s.2.1, .int .i64 s.2.2]

/-- The cells of a text's signs, three a sign, at block b from off on. -/
def SignsAt (w : World) (b off : Nat) (l : List Sg) : Prop :=
  ∀ k, k < l.length → w.cell? ⟨b, off + k * 3, none⟩ = some (.int .u8 (l.getD k (0, 0, 0)).1) ∧ w.cell? ⟨b, off + k * 3 + 1, none⟩ = some (.int .i64 (l.getD k (0, 0, 0)).2.1) ∧ w.cell? ⟨b, off + k * 3 + 2, none⟩ = some (.int .i64 (l.getD k (0, 0, 0)).2.2)

/-- A slice value that reads as the signs l. -/
def Txt (w : World) (a : Option Addr) (n cap : Nat) (l : List Sg) : Prop :=
  n = l.length ∧ n ≤ cap ∧ cap ≤ maxLen ∧ (l = [] ∨ ∃ b off, a = some ⟨b, off, none⟩ ∧ b < w.heap.size ∧ SignsAt w b off l)

theorem SignsAt.below {w w' : World} {b off : Nat} {l : List Sg} (h : SignsAt w b off l) {B : Nat} (hb : Below B w w') (hB : b < B) : SignsAt w' b off l := by
  intro k hk
  obtain ⟨h0, h1, h2⟩ := h k hk
  exact ⟨(hb.cell (p := ⟨b, _, none⟩) hB).trans h0, (hb.cell (p := ⟨b, _, none⟩) hB).trans h1, (hb.cell (p := ⟨b, _, none⟩) hB).trans h2⟩

theorem Txt.below {w w' : World} {a : Option Addr} {n cap : Nat} {l : List Sg} (h : Txt w a n cap l) (hb : Below w.heap.size w w') : Txt w' a n cap l := by
  obtain ⟨h1, h2, h3, h4⟩ := h
  refine ⟨h1, h2, h3, ?_⟩
  rcases h4 with h4 | ⟨b, off, h5, h6, h7⟩
  · exact .inl h4
  · exact .inr ⟨b, off, h5, Nat.lt_of_lt_of_le h6 hb.size, h7.below hb h6⟩

theorem all_take_succ (l : List Sg) (k : Nat) (hk : k < l.length) (p : Sg → Bool) : (l.take (k + 1)).all p = ((l.take k).all p && p (l.getD k (0, 0, 0))) := by
  rw [List.take_succ_eq_append_getElem hk, List.all_append]
  simp [List.getD, hk]

theorem all_false_of (l : List Sg) (k : Nat) (hk : k < l.length) (p : Sg → Bool) (h : p (l.getD k (0, 0, 0)) = false) : l.all p = false := by
  rw [← Bool.not_eq_true, List.all_eq_true]
  intro hh
  have := hh (l.getD k (0, 0, 0)) (by simp [List.getD, hk])
  rw [h] at this
  exact absurd this (by simp)

theorem l1Sign_is {b i o : Int} {x : Bool} (h : signB b i o = x) (w : World) :
    Calls Try.prog 25 #[.agg #[.int .u8 b, .int .i64 i, .int .i64 o]] w fun e w' => e = .returned (.bool x) ∧ Below w.heap.size w w' := h ▸ l1Sign_any b i o w
set_option maxHeartbeats 1000000 in
theorem specTextOk_any (a : Option Addr) (n cap : Nat) (l : List Sg) (w : World) (h : Txt w a n cap l) :
    Calls Try.prog 9 #[.slice a n cap] w fun e w' => e = .returned (.bool (textB l)) ∧ Below w.heap.size w w' := by
  obtain ⟨rfl, hc, hm, hl⟩ := h
  unfold maxLen at hm
  by_cases h24 : 24 < l.length
  · have e : textB l = false := by simp [textB]; omega
    rw [e]
    go_enter Try.func9, Try.ntmps9
    go_wp2
    go_ret
    exact ⟨rfl, Below.refl _ _⟩
  · have h24' : decide ((24 : Int) < (l.length : Int)) = false := by simp; omega
    have HT : Hid (textB l = l.all sgB) := by
      show textB l = l.all sgB
      simp [textB]; omega
    rcases hl with rfl | ⟨b, off, rfl, hbw, hl⟩
    · rw [show textB [] = true from rfl]
      go_enter Try.func9, Try.ntmps9
      go_wp2
      refine wp_loop_rounds 1 ?_
      rw [rounds_succ]
      go_wp2
      go_ret
      exact ⟨rfl, Below.refl _ _⟩
    · rw [HT.out]
      clear HT
      go_enter Try.func9, Try.ntmps9
      go_wp2
      go_loopw [3] (fun i wr => ∃ k : Nat, k ≤ l.length ∧ i = .int .i64 k ∧ (l.take k).all sgB = true ∧ Below w.heap.size w wr) (fun i _ => l.length - (intOf i).toNat)
      case atStart => exact ⟨0, Nat.zero_le _, rfl, by simp, Below.refl _ _⟩
      case round =>
        obtain ⟨k, hk, rfl, hall, hbl⟩ := hrel
        have HA : Hid ((l.take k).all sgB = true) := hall
        clear hall
        by_cases hlt : k < l.length
        · obtain ⟨c0, c1, c2⟩ := (hl.below hbl hbw) k hlt
          clear hl
          obtain ⟨s, hs⟩ : ∃ s, s = l.getD k (0, 0, 0) := ⟨_, rfl⟩
          rw [← hs] at c0 c1 c2
          have HS : Hid (s = l.getD k (0, 0, 0)) := hs
          clear hs
          have hsz := hbl.size
          cases hb : signB s.1 s.2.1 s.2.2
          · have HF : Hid (l.all sgB = false) := all_false_of l k hlt sgB (by rw [← HS.out]; exact hb)
            go_wp2_with (go_at_call 25; refine (l1Sign_is hb _).mono ?_; rintro e w1 ⟨rfl, hb1⟩)
            go_ret
            exact ⟨by rw [HF.out]; rfl, hbl.trans (hb1.mono hsz)⟩
          · go_wp2_with (go_at_call 25; refine (l1Sign_is hb _).mono ?_; rintro e w1 ⟨rfl, hb1⟩)
            go_roundw
            case rel => exact ⟨k + 1, by omega, by go_num, by rw [all_take_succ l k hlt, HA.out, ← HS.out]; exact hb, hbl.trans (hb1.mono hsz)⟩
            case measure => simp [intOf]; omega
        · go_wp2
          go_ret
          exact ⟨by have hh := HA.out; rw [List.take_of_length_le (by omega)] at hh; rw [hh]; rfl, hbl⟩

theorem specTextOk_is {a : Option Addr} {n cap : Nat} {l : List Sg} {w : World} {x : Bool} (h : Txt w a n cap l) (hx : textB l = x) :
    Calls Try.prog 9 #[.slice a n cap] w fun e w' => e = .returned (.bool x) ∧ Below w.heap.size w w' := hx ▸ specTextOk_any a n cap l w h

end Go.Proofs.Ytoaeolpodjfbdaa
namespace Go.Proofs.Ytoaeolpodjfbdaa
open Go.RowKit

theorem signOk_is {b i o : Int} {x : Bool} (h : signB b i o = x) (w : World) :
    Calls Try.prog 35 #[.agg #[.int .u8 b, .int .i64 i, .int .i64 o]] w fun e w' => e = .returned (.bool x) ∧ Below w.heap.size w w' := h ▸ signOk_any b i o w

set_option maxHeartbeats 1000000 in
theorem implTextOk_any (a : Option Addr) (n cap : Nat) (l : List Sg) (w : World) (h : Txt w a n cap l) :
    Calls Try.prog 22 #[.slice a n cap] w fun e w' => e = .returned (.bool (textB l)) ∧ Below w.heap.size w w' := by
  obtain ⟨rfl, hc, hm, hl⟩ := h
  unfold maxLen at hm
  by_cases h24 : 24 < l.length
  · have e : textB l = false := by simp [textB]; omega
    rw [e]
    go_enter Try.func22, Try.ntmps22
    go_wp2
    go_ret
    exact ⟨rfl, Below.refl _ _⟩
  · have h24' : decide ((24 : Int) < (l.length : Int)) = false := by simp; omega
    have HT : Hid (textB l = l.all sgB) := by
      show textB l = l.all sgB
      simp [textB]; omega
    rcases hl with rfl | ⟨b, off, rfl, hbw, hl⟩
    · rw [show textB [] = true from rfl]
      go_enter Try.func22, Try.ntmps22
      go_wp2
      refine wp_loop_rounds 1 ?_
      rw [rounds_succ]
      go_wp2
      go_ret
      exact ⟨rfl, Below.refl _ _⟩
    · rw [HT.out]
      clear HT
      go_enter Try.func22, Try.ntmps22
      go_wp2
      go_loopw [10] (fun i wr => ∃ k : Nat, k ≤ l.length ∧ i = .int .i64 k ∧ (l.take k).all sgB = true ∧ Below w.heap.size w wr) (fun i _ => l.length - (intOf i).toNat)
      case atStart => exact ⟨0, Nat.zero_le _, rfl, by simp, Below.refl _ _⟩
      case round =>
        obtain ⟨k, hk, rfl, hall, hbl⟩ := hrel
        have HA : Hid ((l.take k).all sgB = true) := hall
        clear hall
        by_cases hlt : k < l.length
        · obtain ⟨c0, c1, c2⟩ := (hl.below hbl hbw) k hlt
          clear hl
          obtain ⟨s, hs⟩ : ∃ s, s = l.getD k (0, 0, 0) := ⟨_, rfl⟩
          rw [← hs] at c0 c1 c2
          have HS : Hid (s = l.getD k (0, 0, 0)) := hs
          clear hs
          have hsz := hbl.size
          cases hb : signB s.1 s.2.1 s.2.2
          · have HF : Hid (l.all sgB = false) := all_false_of l k hlt sgB (by rw [← HS.out]; exact hb)
            go_wp2_with (go_at_call 35; refine (signOk_is hb _).mono ?_; rintro e w1 ⟨rfl, hb1⟩)
            go_ret
            exact ⟨by rw [HF.out]; rfl, (hbl.alloc hsz _).trans (hb1.mono (by simp; omega))⟩
          · go_wp2_with (go_at_call 35; refine (signOk_is hb _).mono ?_; rintro e w1 ⟨rfl, hb1⟩)
            go_roundw
            case rel => exact ⟨k + 1, by omega, by go_num, by rw [all_take_succ l k hlt, HA.out, ← HS.out]; exact hb, (hbl.alloc hsz _).trans (hb1.mono (by simp; omega))⟩
            case measure => simp [intOf]; omega
        · go_wp2
          go_ret
          exact ⟨by have hh := HA.out; rw [List.take_of_length_le (by omega)] at hh; rw [hh]; rfl, hbl⟩

end Go.Proofs.Ytoaeolpodjfbdaa
namespace Go.Proofs.Ytoaeolpodjfbdaa
open Go.ChangeShapes Go.WideShapes Go.ChangeAt Go.RowKit

theorem own : ownKnob Try.prog.godebug = none := by kernel_rfl
theorem laidOut : laidOutB Try.prog = true := by kernel_rfl

section
variable {H : Type} {enc : TypeId × Value → H} {P : Program} {w : World} {base : Nat} {spare : Nat → Bool} {held : Bool}

/-- A slice of signs that came in, opened: nil, or it reads as some signs. -/
theorem open_signs {t e : TypeId} {f0 f1 f2 : Field} {fuel : Nat} {cs : List Value} {x : DataW H × List MemPlace} (ht : P.underlying t = some (.slice e)) (he : P.underlying e = some (.struct #[f0, f1, f2]))
    (ce : P.cellsOf e = 3) (o0 : f0.offset = 0) (o1 : f1.offset = 1) (o2 : f2.offset = 2) (c0 : P.cellsOf f0.type = 1) (c1 : P.cellsOf f1.type = 1) (c2 : P.cellsOf f2.type = 1)
    (u0 : P.underlying f0.type = some (.int .u8)) (u1 : P.underlying f1.type = some (.int .i64)) (u2 : P.underlying f2.type = some (.int .i64))
    (h : DataW.trod enc P w base spare held fuel t cs = some x) :
    ∃ (a : Option Addr) (len cap : Nat) (l : List Sg), cs = [.slice a len cap] ∧ Txt w a len cap l := by
  rcases Go.Deep.open_slice ht h with ⟨rfl, _⟩ | ⟨a, len, cap, m, n, D, Pl, rfl, hb, hl, hm, hmm, rfl, hx⟩
  · exact ⟨none, 0, 0, [], rfl, rfl, Nat.le_refl _, Nat.zero_le _, .inl rfl⟩
  have hlm : len ≤ m := by rw [hmm]; split <;> omega
  have each : ∀ i, i < len → ∃ q : Sg, w.cell? (a.add (i * 3)) = some (.int .u8 q.1) ∧ w.cell? (a.add (i * 3 + 1)) = some (.int .i64 q.2.1) ∧ w.cell? (a.add (i * 3 + 2)) = some (.int .i64 q.2.2) := by
    intro i hi
    obtain ⟨cs', h1, h2⟩ := hx i (by omega)
    rw [ce] at h1
    obtain ⟨_, hlen, hcell⟩ := World.cells?_some h1
    obtain ⟨xs, k, hk, hxy, _, hxl, hf⟩ := DataW.trod_struct he h2
    match xs, hxl, cs', hlen with
    | [y0, y1, y2], _, [v0, v1, v2], _ =>
      have g0 := hf 0 f0 rfl
      have g1 := hf 1 f1 rfl
      have g2 := hf 2 f2 rfl
      simp [o0, o1, o2, c0, c1, c2] at g0 g1 g2
      have e0 := hcell 0 (by omega)
      have e1 := hcell 1 (by omega)
      have e2 := hcell 2 (by omega)
      rw [Go.Deep.add_add] at e0 e1 e2
      obtain ⟨n0, r0, _⟩ := DataW.trod_int u0 g0
      obtain ⟨n1, r1, _⟩ := DataW.trod_int u1 g1
      obtain ⟨n2, r2, _⟩ := DataW.trod_int u2 g2
      simp only [List.cons.injEq, and_true] at r0 r1 r2
      subst r0 r1 r2
      exact ⟨(n0, n1, n2), by simpa using e0, by simpa using e1, by simpa using e2⟩
  obtain ⟨q, hq⟩ := Go.Deep.choose_lt each
  refine ⟨some a, len, cap, (List.range len).map q, rfl, by simp, hl, hm, ?_⟩
  by_cases h0 : len = 0
  · subst h0; exact .inl (by simp)
  · obtain ⟨b, off, spot⟩ := a
    have hc := (hq 0 (by omega)).1
    have hspot : spot = none := by simpa [Addr.add] using World.cell?_spot hc
    subst hspot
    refine .inr ⟨b, off, rfl, by have := World.block_lt_of_cell? _ _ hc; simpa [Addr.add_lit] using this, ?_⟩
    intro k hk
    have hk' : k < len := by simpa using hk
    obtain ⟨a0, a1, a2⟩ := hq k hk'
    have e : ((List.range len).map q).getD k (0, 0, 0) = q k := by simp [List.getD, hk']
    rw [e]
    simp only [Addr.add_lit] at a0 a1 a2
    exact ⟨a0, by rw [Nat.add_assoc]; exact a1, by rw [Nat.add_assoc]; exact a2⟩
end
end Go.Proofs.Ytoaeolpodjfbdaa
namespace Go.Proofs.Ytoaeolpodjfbdaa
open Go.RowKit

/-- What is owned stays owned where all that was there is as it was. -/
theorem own_below {w w' : World} {B e size n : Nat} {v : Value} {xs : List Value} (h : w.ownsRow B e size v n xs) (hb : Below w.heap.size w w') : w'.ownsRow B e size v n xs := by
  refine ⟨h.1, ?_⟩
  rcases h.2 with hn | ⟨g, cap, cur, rfl, hg, hgg, rest⟩
  · exact .inl hn
  · exact .inr ⟨g, cap, cur, rfl, hg, by rw [hb.block g (Array.getElem?_eq_some_iff.1 hgg).1]; exact hgg, rest⟩

/-- The cells of a list of signs, one behind the other. -/
def sgCells (s : Sg) : List Value := [.int .u8 s.1, .int .i64 s.2.1, .int .i64 s.2.2]
def flat (l : List Sg) : List Value := l.flatMap sgCells

theorem flat_length (l : List Sg) : (flat l).length = l.length * 3 := by
  induction l with
  | nil => rfl
  | cons s l ih =>
    show (sgCells s ++ flat l).length = _
    rw [List.length_append, ih]
    simp [sgCells]; omega

theorem flat_append (a b : List Sg) : flat (a ++ b) = flat a ++ flat b := by simp [flat]

theorem flat_get (l : List Sg) : ∀ (k : Nat), k < l.length → (flat l)[k * 3]? = some (.int .u8 (l.getD k (0, 0, 0)).1) ∧ (flat l)[k * 3 + 1]? = some (.int .i64 (l.getD k (0, 0, 0)).2.1) ∧ (flat l)[k * 3 + 2]? = some (.int .i64 (l.getD k (0, 0, 0)).2.2) := by
  induction l with
  | nil => intro k h; simp at h
  | cons s l ih =>
    intro k hk
    show (sgCells s ++ flat l)[k * 3]? = _ ∧ (sgCells s ++ flat l)[k * 3 + 1]? = _ ∧ (sgCells s ++ flat l)[k * 3 + 2]? = _
    cases k with
    | zero => simp [sgCells]
    | succ k =>
      have := ih k (by simpa using hk)
      rw [show (k + 1) * 3 = k * 3 + 3 by omega, show k * 3 + 3 + 1 = k * 3 + 1 + 3 by omega, show k * 3 + 3 + 2 = k * 3 + 2 + 3 by omega]
      rw [List.getElem?_append_right (by simp [sgCells]), List.getElem?_append_right (by simp [sgCells]), List.getElem?_append_right (by simp [sgCells])]
      simpa [sgCells] using this

/-- A row that owns a list of signs reads as it. -/
theorem txt_of_own {w : World} {B g n cap e : Nat} {l : List Sg} (h : w.ownsRow B e 3 (.slice (some ⟨g, 0, none⟩) n cap) n (flat l)) : Txt w (some ⟨g, 0, none⟩) n cap l := by
  have hlen := h.1
  rw [flat_length] at hlen
  have hn : n = l.length := by omega
  rcases h.2 with ⟨h', _⟩ | ⟨g', cap', cur, h', _, hg, hnc, hcm, _, _⟩
  · simp at h'
  · simp only [Value.slice.injEq, Option.some.injEq, Addr.mk.injEq, and_true, true_and] at h'
    obtain ⟨rfl, rfl⟩ := h'
    refine ⟨hn, hnc, hcm, .inr ⟨g, 0, rfl, (Array.getElem?_eq_some_iff.1 hg).1, ?_⟩⟩
    intro k hk
    obtain ⟨a, b, c⟩ := flat_get l k hk
    rw [Nat.zero_add]
    exact ⟨(h.cellAt (k * 3) (by omega)).trans a, (h.cellAt (k * 3 + 1) (by omega)).trans b, (h.cellAt (k * 3 + 2) (by omega)).trans c⟩

theorem take_set3 (xs : List Value) (k : Nat) (a b c : Value) (h : k * 3 + 3 ≤ xs.length) :
    (((xs.set (k * 3) a).set (k * 3 + 1) b).set (k * 3 + 2) c).take ((k + 1) * 3) = xs.take (k * 3) ++ [a, b, c] := by
  apply List.ext_getElem?
  intro j
  by_cases h1 : j < k * 3
  · rw [List.getElem?_take, if_pos (by omega), List.getElem?_set_ne (by omega), List.getElem?_set_ne (by omega), List.getElem?_set_ne (by omega), List.getElem?_append_left (by simp; omega), List.getElem?_take, if_pos h1]
  · rw [List.getElem?_append_right (by simp; omega)]
    have e : (xs.take (k * 3)).length = k * 3 := by simp; omega
    rw [e, List.getElem?_take]
    rcases (show j = k * 3 ∨ j = k * 3 + 1 ∨ j = k * 3 + 2 ∨ k * 3 + 3 ≤ j from by omega) with rfl | rfl | rfl | hj
    · rw [if_pos (by omega), List.getElem?_set_ne (by omega), List.getElem?_set_ne (by omega), List.getElem?_set_self (by omega)]; simp
    · rw [if_pos (by omega), List.getElem?_set_ne (by omega), List.getElem?_set_self (by simp; omega), show k * 3 + 1 - k * 3 = 1 by omega]; simp
    · rw [if_pos (by omega), List.getElem?_set_self (by simp; omega), show k * 3 + 2 - k * 3 = 2 by omega]; simp
    · rw [if_neg (by omega), List.getElem?_eq_none (by simp; omega)]

theorem flat_take_succ (l : List Sg) (k : Nat) (hk : k < l.length) : flat (l.take (k + 1)) = flat (l.take k) ++ sgCells (l.getD k (0, 0, 0)) := by
  rw [List.take_succ_eq_append_getElem hk, flat_append]
  simp [flat, List.getD, hk]

theorem Try.info30 : (Try.prog.info? 30).map (fun i => (i.zero, i.size, i.bytes)) = some (some (.agg #[.int .u8 0, .int .i64 0, .int .i64 0]), 3, 24) := by kernel_rfl

theorem cell_three_new (w : World) (x y z : Value) (t : TypeId) : ∀ j u, [x, y, z][j]? = some u → (w.alloc (.cells #[x, y, z] t)).cell? ((⟨w.heap.size, 0, none⟩ : Addr).add j) = some u := by
  intro j u hj
  match j, hj with
  | 0, hj => simp at hj; subst hj; simp [Addr.add]
  | 1, hj => simp at hj; subst hj; simp [Addr.add]
  | 2, hj => simp at hj; subst hj; simp [Addr.add]
  | (j + 3), hj => simp at hj

theorem three_oneCell (a b c : Int) : ∀ u ∈ [Value.int .u8 a, .int .i64 b, .int .i64 c], u.oneCell' = true := by
  intro u hu
  simp at hu
  rcases hu with rfl | rfl | rfl <;> rfl

/-- A value that owns a list of signs. -/
def Own (w : World) (B : Nat) (v : Value) (l : List Sg) : Prop := w.ownsRow B 30 3 v l.length (flat l)

theorem Own.shape {w : World} {B : Nat} {v : Value} {l : List Sg} (h : Own w B v l) : ∃ a cap, v = .slice a l.length cap ∧ Txt w a l.length cap l := by
  have h' := h
  unfold Own at h'
  rcases h'.2 with ⟨rfl, h0⟩ | ⟨g, cap, cur, rfl, r⟩
  · have : l = [] := List.eq_nil_of_length_eq_zero h0
    subst this
    exact ⟨none, 0, rfl, rfl, Nat.le_refl _, Nat.zero_le _, .inl rfl⟩
  · exact ⟨_, _, rfl, txt_of_own h'⟩

theorem Own.below {w w' : World} {B : Nat} {v : Value} {l : List Sg} (h : Own w B v l) (hb : Below w.heap.size w w') : Own w' B v l := own_below h hb
theorem Own.nil (w : World) (B : Nat) : Own w B (.slice none 0 0) [] := World.ownsRow_nil _ _ _ _
theorem Own.snoc {w : World} {B : Nat} {v : Value} {l : List Sg} {s : Sg} {n : Nat} {xs : List Value} (h : w.ownsRow B 30 3 v n xs) (hn : n = l.length + 1) (hx : xs = flat l ++ sgCells s) : Own w B v (l ++ [s]) := by
  subst hn hx
  unfold Own
  rw [flat_append, List.length_append]
  have : flat [s] = sgCells s := by simp [flat]
  rw [this]
  exact h

theorem Own.shapeN {w : World} {B : Nat} {v : Value} {l : List Sg} (h : Own w B v l) {n : Nat} (hn : l.length = n) : ∃ a cap, v = .slice a n cap := by
  obtain ⟨a, cap, rfl, _⟩ := h.shape
  exact ⟨a, cap, by rw [hn]⟩
theorem Own.txt {w : World} {B : Nat} {a : Option Addr} {n cap : Nat} {l : List Sg} (h : Own w B (.slice a n cap) l) : Txt w a n cap l := by
  obtain ⟨a', cap', he, ht⟩ := h.shape
  simp only [Value.slice.injEq] at he
  obtain ⟨rfl, rfl, rfl⟩ := he
  exact ht
theorem Own.len {w : World} {B : Nat} {a : Option Addr} {n cap : Nat} {l : List Sg} (h : Own w B (.slice a n cap) l) : n = l.length := h.txt.1
theorem Own.row {w : World} {B : Nat} {a : Option Addr} {n cap : Nat} {l : List Sg} (h : Own w B (.slice a n cap) l) : w.ownsRow B 30 3 (.slice a n cap) n (flat l) := by
  have := h.len
  subst this
  exact h

/-- A sign more behind an owned list: what the append leaves. -/
theorem own_step {B : Nat} {w wr w1 : World} {a : Option Addr} {k c : Nat} {v' : Value} {l : List Sg} {s : Sg} {o : Obj} (ho : Own wr B (.slice a k c) l) (hbl : Below B w wr) (hB : B ≤ wr.heap.size)
    (hown : w1.ownsRow B 30 3 v' (k + 1) (flat l ++ sgCells s)) (hgrow : (wr.alloc o).grownBy w1 (Value.slice a k c).ownBlock) :
    ∃ a' c', v' = .slice a' (k + 1) c' ∧ Own w1 B (.slice a' (k + 1) c') (l ++ [s]) ∧ Below B w w1 := by
  have hk := ho.len
  have h1 : Own w1 B v' (l ++ [s]) := Own.snoc hown (by omega) rfl
  obtain ⟨a', c', rfl⟩ := h1.shapeN (n := k + 1) (by simp; omega)
  refine ⟨a', c', rfl, h1, ?_⟩
  exact (hbl.alloc hB _).grown hgrow (by simp; omega) (fun q hq => (ho.row.lt q hq).1)

theorem Own.emptyNew (w : World) (B : Nat) (hB : B ≤ w.heap.size) : Own (w.alloc (.cells #[] 30)) B (.slice (some ⟨w.heap.size, 0, none⟩) 0 0) [] :=
  World.ownsRow_made w #[] 0 hB (Nat.zero_le _) rfl

theorem grown_of_drew {w w' : World} {r : Option Nat} (h : w.drew.grownBy w' r) : w.grownBy w' r := ⟨h.os, h.tape, h.output, h.size, h.block⟩
theorem Own.alloc {w : World} {B : Nat} {v : Value} {l : List Sg} (h : Own w B v l) (o : Obj) : Own (w.alloc o) B v l := World.ownsRow.alloc h o
end Go.Proofs.Ytoaeolpodjfbdaa
namespace Go.Proofs.Ytoaeolpodjfbdaa
open Go.RowKit

theorem implTextOk_is {a : Option Addr} {n cap : Nat} {l : List Sg} {w : World} {x : Bool} (h : Txt w a n cap l) (hx : textB l = x) :
    Calls Try.prog 22 #[.slice a n cap] w fun e w' => e = .returned (.bool x) ∧ Below w.heap.size w w' := hx ▸ implTextOk_any a n cap l w h
end Go.Proofs.Ytoaeolpodjfbdaa
namespace Go.Proofs.Ytoaeolpodjfbdaa
open Go.RowKit

/-- A slice value that reads as the bytes zs, in a block below B. -/
def Byt (B : Nat) (w : World) (a : Option Addr) (n cap : Nat) (zs : List Int) : Prop :=
  n = zs.length ∧ n ≤ cap ∧ cap ≤ maxLen ∧ (∀ i : Nat, 0 ≤ zs.getD i 0 ∧ zs.getD i 0 ≤ 255) ∧ (zs = [] ∨ ∃ b off, a = some ⟨b, off, none⟩ ∧ b < B ∧ ∀ i, i < zs.length → w.cell? ⟨b, off + i, none⟩ = some (.int .u8 (zs.getD i 0)))

theorem Byt.same {B : Nat} {w w' : World} {a : Option Addr} {n cap : Nat} {zs : List Int} (h : Byt B w a n cap zs) (hb : ∀ k, k < B → w'.heap[k]? = w.heap[k]?) : Byt B w' a n cap zs := by
  obtain ⟨h1, h2, h3, h4, h5⟩ := h
  refine ⟨h1, h2, h3, h4, ?_⟩
  rcases h5 with h5 | ⟨b, off, h6, h7, h8⟩
  · exact .inl h5
  · exact .inr ⟨b, off, h6, h7, fun i hi => (World.cell?_of_block (w := w) (hb b h7)).trans (h8 i hi)⟩

/-- The reader of a code: its block, the bytes (below B), how many numbers were drawn. -/
def Rd (B : Nat) (w : World) (g p : Nat) : Prop :=
  B ≤ g ∧ ∃ a n c zs, w.heap[g]? = some (.cells #[.slice a n c, .int .i64 (p : Int)] 57 (0, 0)) ∧ Byt B w a n c zs ∧ n ≤ 2000

theorem Rd.lt {B : Nat} {w : World} {g p : Nat} (h : Rd B w g p) : g < w.heap.size := by
  obtain ⟨_, a, n, c, zs, hg, _⟩ := h
  exact (Array.getElem?_eq_some_iff.1 hg).1

/-- What leaves the blocks that were there as they were leaves the reader. -/
theorem Rd.below {B : Nat} {w w' : World} {g p : Nat} (h : Rd B w g p) {C : Nat} (hb : Below C w w') (hC : g < C) : Rd B w' g p := by
  obtain ⟨hB, a, n, c, zs, hg, hy, hn⟩ := h
  exact ⟨hB, a, n, c, zs, (hb.block g hC).trans hg, hy.same (fun k hk => hb.block k (by omega)), hn⟩

theorem pick_lt (x n : Int) (h : 1 ≤ n) : 0 ≤ x % n ∧ x % n < n := ⟨Int.emod_nonneg _ (by omega), Int.emod_lt_of_pos _ (by omega)⟩

theorem xor_i64 (a b : Int) (h1 : 0 ≤ a) (h2 : a < 1099511627776) (h3 : 0 ≤ b) (h4 : b < 1099511627776) : 0 ≤ bits .xor .i64 a b ∧ bits .xor .i64 a b < 1099511627776 := by
  obtain ⟨A, rfl⟩ := Int.eq_ofNat_of_zero_le h1
  obtain ⟨B, rfl⟩ := Int.eq_ofNat_of_zero_le h3
  have hx : A ^^^ B < 2 ^ 40 := Nat.xor_lt_two_pow (by omega) (by omega)
  have e1 : (BitVec.ofInt 64 (A : Int)).toNat = A := by
    rw [BitVec.ofInt_natCast, BitVec.toNat_ofNat]; exact Nat.mod_eq_of_lt (by omega)
  have e2 : (BitVec.ofInt 64 (B : Int)).toNat = B := by
    rw [BitVec.ofInt_natCast, BitVec.toNat_ofNat]; exact Nat.mod_eq_of_lt (by omega)
  have e : bits .xor .i64 (A : Int) (B : Int) = ((A ^^^ B : Nat) : Int) := by
    show IntKind.i64.wrap ((BitVec.ofInt 64 (A : Int) ^^^ BitVec.ofInt 64 (B : Int)).toNat : Int) = _
    rw [BitVec.toNat_xor, e1, e2, IntKind.wrap_i64]
    omega
  rw [e]
  omega

/-- A number more is drawn. -/
theorem rd_step {B : Nat} {w : World} {g p : Nat} (h : Rd B w g p) : Rd B (w.setCell ⟨g, 1, none⟩ (.int .i64 ((p : Int) + 1))) g (p + 1) := by
  obtain ⟨hB, a, n, c, zs, hg, hy, hn⟩ := h
  refine ⟨hB, a, n, c, zs, ?_, hy.same (fun k hk => heap_setCell_other w ⟨g, 1, none⟩ k _ (by simp; omega)), hn⟩
  rw [heap_setCell_same w g 1 _ _ _ hg]
  simp
theorem rd_drewN {B : Nat} {w : World} {g p : Nat} (h : Rd B w g p) (n : Nat) : Rd B (w.drewN n) g p := h
theorem grown_setCell' (w : World) (g o : Nat) (u : Value) : w.grownBy (w.setCell ⟨g, o, none⟩ u) (some g) :=
  ⟨rfl, rfl, rfl, by simp [World.setCell], fun k _ hne => Below.heap_setCell w ⟨g, o, none⟩ u k (fun e => hne (by simp [e]))⟩
theorem grown_drewN {w w' : World} {r : Option Nat} (h : w.grownBy w' r) (n : Nat) : w.grownBy (w'.drewN n) r := ⟨h.os, h.tape, h.output, h.size, h.block⟩

set_option maxRecDepth 100000 in
set_option maxHeartbeats 2000000 in
theorem pick_any (B g p : Nat) (n : Int) (w : World) (h : Rd B w g p) (hp : p ≤ 1000000) (h1 : 1 ≤ n) (h2 : n ≤ 1000) :
    Calls Try.prog 33 #[.pointer (some ⟨g, 0, none⟩), .int .i64 n] w fun e w' => ∃ x : Int, e = .returned (.int .i64 x) ∧ 0 ≤ x ∧ x < n ∧ Rd B w' g (p + 1) ∧ w.grownBy w' (some g) := by
  obtain ⟨hB, a, m, c, zs, hg, hy, hm⟩ := h
  have c0 : w.cell? ⟨g, 0, none⟩ = some (.slice a m c) := by rw [cell_of_row w g 0 _ _ _ hg]; rfl
  have c1 : w.cell? ⟨g, 1, none⟩ = some (.int .i64 (p : Int)) := by rw [cell_of_row w g 1 _ _ _ hg]; rfl
  have f1 : w.frozen? ⟨g, 1, none⟩ = false := frozen_of_row w g 1 _ _ hg
  have hn1 : decide (n < 1) = false := by simp; omega
  have HY : Hid (Byt B w a m c zs) := hy
  obtain ⟨hmz, hmc, hcm, hz, hcells⟩ := hy
  unfold maxLen at hcm
  by_cases h0 : m = 0
  · subst h0
    have HG : Hid (w.heap[g]? = some (.cells #[.slice a 0 c, .int .i64 (p : Int)] 57 (0, 0))) := hg
    clear hg hcells hmz hz
    go_enter Try.func33, Try.ntmps33
    go_wp2_with fail
    go_ret
    exact ⟨_, rfl, Int.le_refl _, by omega, rd_step ⟨hB, _, _, _, zs, HG.out, HY.out, hm⟩, grown_setCell' _ _ _ _⟩
  · rcases hcells with hnil | ⟨b, off, rfl, hbB, hcells⟩
    · rw [hnil] at hmz
      exact absurd hmz h0
    · have hm0 : ((m : Int) == 0) = false := by simp; omega
      by_cases hlt : p < m
      · have hzp := hz p
        have cz : w.cell? ⟨b, off + p, none⟩ = some (.int .u8 (zs.getD p 0)) := hcells p (by omega)
        obtain ⟨z, hzz⟩ : ∃ z, z = zs.getD p 0 := ⟨_, rfl⟩
        rw [← hzz] at cz hzp
        have HG : Hid (w.heap[g]? = some (.cells #[.slice (some ⟨b, off, none⟩) m c, .int .i64 (p : Int)] 57 (0, 0))) := hg
        clear hg hcells hzz hmz hz
        have cz' : (w.setCell ⟨g, 1, none⟩ (.int .i64 ((p : Int) + 1))).cell? ⟨b, off + p, none⟩ = some (.int .u8 z) := by
          rw [World.cell?_of_block (heap_setCell_other w ⟨g, 1, none⟩ b _ (by simp; omega))]; exact cz
        go_enter Try.func33, Try.ntmps33
        go_wp2_with fail
        go_ret
        exact ⟨_, rfl, (pick_lt _ _ h1).1, (pick_lt _ _ h1).2, rd_step ⟨hB, _, _, _, zs, HG.out, HY.out, hm⟩, grown_setCell' _ _ _ _⟩
      · have hmp : m ≤ p := by omega
        obtain ⟨j1, hj1⟩ : ∃ j, j = p % m := ⟨_, rfl⟩
        obtain ⟨j2, hj2⟩ : ∃ j, j = (p * 7 + 3) % m := ⟨_, rfl⟩
        have hj1m : j1 < m := by rw [hj1]; exact Nat.mod_lt _ (by omega)
        have hj2m : j2 < m := by rw [hj2]; exact Nat.mod_lt _ (by omega)
        obtain ⟨z1, hz1⟩ : ∃ z, z = zs.getD j1 0 := ⟨_, rfl⟩
        obtain ⟨z2, hz2⟩ : ∃ z, z = zs.getD j2 0 := ⟨_, rfl⟩
        have hzp1 := hz j1
        have hzp2 := hz j2
        have cz1 : w.cell? ⟨b, off + j1, none⟩ = some (.int .u8 (zs.getD j1 0)) := hcells j1 (by omega)
        have cz2 : w.cell? ⟨b, off + j2, none⟩ = some (.int .u8 (zs.getD j2 0)) := hcells j2 (by omega)
        rw [← hz1] at cz1 hzp1
        rw [← hz2] at cz2 hzp2
        have HG : Hid (w.heap[g]? = some (.cells #[.slice (some ⟨b, off, none⟩) m c, .int .i64 (p : Int)] 57 (0, 0))) := hg
        clear hg hcells hz1 hz2 hmz hz
        have k1 : (w.setCell ⟨g, 1, none⟩ (.int .i64 ((p : Int) + 1))).cell? ⟨b, off + p % m, none⟩ = some (.int .u8 z1) := by
          rw [World.cell?_of_block (heap_setCell_other w ⟨g, 1, none⟩ b _ (by simp; omega)), ← hj1]; exact cz1
        have k2 : (w.setCell ⟨g, 1, none⟩ (.int .i64 ((p : Int) + 1))).cell? ⟨b, off + (p * 7 + 3) % m, none⟩ = some (.int .u8 z2) := by
          rw [World.cell?_of_block (heap_setCell_other w ⟨g, 1, none⟩ b _ (by simp; omega)), ← hj2]; exact cz2
        have q1 : (p : Int) % (m : Int) < (m : Int) := Int.emod_lt_of_pos _ (by omega)
        have q2 : ((p : Int) * 7 + 3) % (m : Int) < (m : Int) := Int.emod_lt_of_pos _ (by omega)
        have q3 : 0 ≤ (p : Int) % (m : Int) := Int.emod_nonneg _ (by omega)
        have q4 : 0 ≤ ((p : Int) * 7 + 3) % (m : Int) := Int.emod_nonneg _ (by omega)
        have q5 : 0 ≤ (p : Int) / (m : Int) := Int.ediv_nonneg (by omega) (by omega)
        have q6 : (p : Int) / (m : Int) ≤ 1000000 := Int.le_trans (Int.ediv_le_self _ (by omega)) (by omega)
        clear hj1 hj2 hj1m hj2m cz1 cz2
        go_enter Try.func33, Try.ntmps33
        go_wp2_with fail
        go_quiet (fail)
        have x0 : 0 ≤ z1 * 131 + z2 * 1117 + (p : Int) * 29 + (p : Int) / (m : Int) * 53 := by omega
        have x1 : z1 * 131 + z2 * 1117 + (p : Int) * 29 + (p : Int) / (m : Int) * 53 < 1099511627776 := by omega
        generalize z1 * 131 + z2 * 1117 + (p : Int) * 29 + (p : Int) / (m : Int) * 53 = X at x0 x1 ⊢
        have y0 := (xor_i64 X (X / 64) x0 x1 (by omega) (by omega)).1
        have y1 := (xor_i64 X (X / 64) x0 x1 (by omega) (by omega)).2
        go_wp2_with fail
        go_ret
        exact ⟨_, rfl, (pick_lt _ _ h1).1, (pick_lt _ _ h1).2, rd_drewN (rd_step ⟨hB, _, _, _, zs, HG.out, HY.out, hm⟩) _, grown_drewN (grown_setCell' _ _ _ _) _⟩
end Go.Proofs.Ytoaeolpodjfbdaa
namespace Go.Proofs.Ytoaeolpodjfbdaa
open Go.ChangeShapes Go.WideShapes Go.ChangeAt Go.RowKit

theorem byt_nil (W : World) : Byt W.heap.size W none 0 0 [] := ⟨rfl, Nat.le_refl _, Nat.zero_le _, fun i => by simp, .inl rfl⟩

theorem byt_of {W : World} {x : Addr} {len cap : Nat} {zs : List Int} (hl : len ≤ cap) (hm : cap ≤ maxLen) (hz : zs.length = cap) (hcell : ∀ i, i < zs.length → W.cell? (x.add i) = some (.int .u8 (zs.getD i 0)))
    (hwz : ∀ n ∈ zs, (Lit.int .u8 n).wf = true) : Byt W.heap.size W (some x) len cap (zs.take len) := by
  have e : ∀ i, i < len → (zs.take len).getD i 0 = zs.getD i 0 := fun i hi => by simp [List.getD, hi]
  refine ⟨by simp; omega, hl, hm, fun i => ?_, ?_⟩
  · by_cases hi : i < len
    · rw [e i hi]
      have hm : zs.getD i 0 ∈ zs := by
        rw [List.getD, List.getElem?_eq_getElem (by omega)]
        simp
      have := hwz _ hm
      simp [Lit.wf, IntKind.min, IntKind.max, IntKind.signed, IntKind.bits] at this
      simp only [List.getD] at *
      omega
    · have : (zs.take len)[i]? = none := List.getElem?_eq_none (by simp; omega)
      simp [List.getD, this]
  · by_cases h0 : len = 0
    · subst h0; exact .inl (by simp)
    · obtain ⟨b, off, spot⟩ := x
      have hc := hcell 0 (by omega)
      have hspot : spot = none := by simpa [Addr.add] using World.cell?_spot hc
      subst hspot
      refine .inr ⟨b, off, rfl, by have := World.block_lt_of_cell? _ _ hc; simpa [Addr.add_lit] using this, fun i hi => ?_⟩
      have hi' : i < len := by simp at hi; omega
      rw [e i hi']
      have := hcell i (by omega)
      simpa only [Addr.add_lit] using this
end Go.Proofs.Ytoaeolpodjfbdaa
