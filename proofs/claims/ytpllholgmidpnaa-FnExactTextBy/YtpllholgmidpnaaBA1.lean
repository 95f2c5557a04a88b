import Derived.Test.YtpllholgmidpnaaRows
import Derived.WalkKit
import Derived.WalkSpells
import Derived.WalkLawsBesides
import Derived.Deep.QuietTactic
import Derived.BigQuiet
import Derived.Deep.RegionWith
import Derived.ProofKit
import Derived.OpenShut
import Derived.ShutString
import Derived.ChangeOld
import Derived.Below
import Derived.Deep.Slices
namespace Go.Proofs.Ytpllholgmidpnaa
open Go.RowKit

def byteB (b : Int) : Bool := decide (97 ≤ b ∧ b ≤ 122 ∨ 48 ≤ b ∧ b ≤ 57 ∨ b = 32)
def whoB (n : Int) : Bool := decide (0 ≤ n ∧ n ≤ 3)
def personN (n : Int) : Int := if n = 1 then 1 else if n = 2 then 2 else if n = 3 then 4 else 0
def signB (b i o : Int) : Bool := byteB b && whoB i && whoB o && decide (o = 0 ∨ i ≠ o)

set_option maxHeartbeats 400000 in
theorem l6In_any (n : Int) (w : World) :
    Calls Try.prog 42 #[.int .i64 n, .int .i64 0, .int .i64 3] w fun e w' => e = .returned (.bool (whoB n)) ∧ w' = w := by
  rcases (show (0 ≤ n ∧ n ≤ 3) ∨ (0 ≤ n ∧ ¬ n ≤ 3) ∨ (¬ 0 ≤ n) from by omega) with ⟨h0, h1⟩ | ⟨h0, h1⟩ | h0
  · have e : whoB n = true := by simp [whoB]; omega
    rw [e]
    go_enter Try.func42, Try.ntmps42
    go_wp2
    go_ret
    exact ⟨rfl, rfl⟩
  all_goals
    have e : whoB n = false := by simp [whoB]; omega
    rw [e]
    go_enter Try.func42, Try.ntmps42
    go_wp2
    go_ret
    exact ⟨rfl, rfl⟩


theorem l6Cases (n lo hi : Int) : (lo ≤ n ∧ n ≤ hi) ∨ (lo ≤ n ∧ ¬ n ≤ hi) ∨ (¬ lo ≤ n) := by omega
set_option maxHeartbeats 400000 in
theorem l6In_gen (n lo hi : Int) (w : World) :
    Calls Try.prog 42 #[.int .i64 n, .int .i64 lo, .int .i64 hi] w fun e w' => e = .returned (.bool (decide (lo ≤ n ∧ n ≤ hi))) ∧ w' = w := by
  rcases l6Cases n lo hi with ⟨h0, h1⟩ | ⟨h0, h1⟩ | h0
  · rw [decide_eq_true ⟨h0, h1⟩]
    go_enter Try.func42, Try.ntmps42
    go_wp2
    go_ret
    exact ⟨rfl, rfl⟩
  · rw [decide_eq_false (fun h => h1 h.2)]
    go_enter Try.func42, Try.ntmps42
    go_wp2
    go_ret
    exact ⟨rfl, rfl⟩
  · rw [decide_eq_false (fun h => h0 h.1)]
    go_enter Try.func42, Try.ntmps42
    go_wp2
    go_ret
    exact ⟨rfl, rfl⟩
theorem l6In_of {n lo hi : Int} {x : Bool} (h : decide (lo ≤ n ∧ n ≤ hi) = x) (w : World) :
    Calls Try.prog 42 #[.int .i64 n, .int .i64 lo, .int .i64 hi] w fun e w' => e = .returned (.bool x) ∧ w' = w := h ▸ l6In_gen n lo hi w

end Go.Proofs.Ytpllholgmidpnaa
namespace Go.Proofs.Ytpllholgmidpnaa
open Go.RowKit

set_option maxHeartbeats 400000 in
theorem whoOk_any (n : Int) (w : World) :
    Calls Try.prog 45 #[.int .i64 n] w fun e w' => e = .returned (.bool (whoB n)) ∧ w' = w := by
  rcases (show (0 ≤ n ∧ n ≤ 3) ∨ (0 ≤ n ∧ ¬ n ≤ 3) ∨ (¬ 0 ≤ n) from by omega) with ⟨h0, h1⟩ | ⟨h0, h1⟩ | h0
  · have e : whoB n = true := by simp [whoB]; omega
    rw [e]
    go_enter Try.func45, Try.ntmps45
    go_wp2
    go_ret
    exact ⟨rfl, rfl⟩
  all_goals
    have e : whoB n = false := by simp [whoB]; omega
    rw [e]
    go_enter Try.func45, Try.ntmps45
    go_wp2
    go_ret
    exact ⟨rfl, rfl⟩

set_option maxHeartbeats 800000 in
theorem byteOk_any (b : Int) (w : World) :
    Calls Try.prog 44 #[.int .u8 b] w fun e w' => e = .returned (.bool (byteB b)) ∧ w' = w := by
  rcases (show (97 ≤ b ∧ b ≤ 122) ∨ (97 ≤ b ∧ ¬ b ≤ 122) ∨ (¬ 97 ≤ b ∧ 48 ≤ b ∧ b ≤ 57) ∨ (¬ 97 ≤ b ∧ 48 ≤ b ∧ ¬ b ≤ 57) ∨ (¬ 48 ≤ b ∧ b = 32) ∨ (¬ 48 ≤ b ∧ ¬ b = 32) from by omega) with ⟨h0, h1⟩ | ⟨h0, h1⟩ | ⟨h0, h1, h2⟩ | ⟨h0, h1, h2⟩ | ⟨h0, rfl⟩ | ⟨h0, h1⟩
  · rw [show byteB b = true from by simp [byteB]; omega]
    go_enter Try.func44, Try.ntmps44
    go_wp2
    go_ret
    exact ⟨rfl, rfl⟩
  · rw [show byteB b = false from by simp [byteB]; omega]
    have k1 : (b == 32) = false := by simp; omega
    have k2 : ¬ b ≤ 57 := by omega
    have k3 : decide (b ≤ 57) = false := by simp; omega
    go_enter Try.func44, Try.ntmps44
    go_wp2
    go_ret
    exact ⟨rfl, rfl⟩
  · rw [show byteB b = true from by simp [byteB]; omega]
    go_enter Try.func44, Try.ntmps44
    go_wp2
    go_ret
    exact ⟨rfl, rfl⟩
  · rw [show byteB b = false from by simp [byteB]; omega]
    have k1 : (b == 32) = false := by simp; omega
    go_enter Try.func44, Try.ntmps44
    go_wp2
    go_ret
    exact ⟨rfl, rfl⟩
  · go_enter Try.func44, Try.ntmps44
    go_wp2
    go_ret
    exact ⟨rfl, rfl⟩
  · rw [show byteB b = false from by simp [byteB]; omega]
    have k1 : (b == 32) = false := by simp; omega
    go_enter Try.func44, Try.ntmps44
    go_wp2
    go_ret
    exact ⟨rfl, rfl⟩

set_option maxHeartbeats 800000 in
theorem person_any (n : Int) (w : World) :
    Calls Try.prog 40 #[.int .i64 n] w fun e w' => e = .returned (.int .u8 (personN n)) ∧ w' = w := by
  rcases (show n = 0 ∨ n = 1 ∨ n = 2 ∨ n = 3 ∨ (¬ n = 0 ∧ whoB n = false) from by simp [whoB]; omega) with rfl | rfl | rfl | rfl | ⟨h0, h1⟩
  · go_enter Try.func40, Try.ntmps40
    go_wp2_with (first | (go_at_call 45; refine (whoOk_any _ _).mono ?_; rintro e w' ⟨rfl, rfl⟩))
    go_ret
    exact ⟨rfl, rfl⟩
  · go_enter Try.func40, Try.ntmps40
    go_wp2_with (first | (go_at_call 45; refine (whoOk_any _ _).mono ?_; rintro e w' ⟨rfl, rfl⟩))
    go_ret
    exact ⟨rfl, rfl⟩
  · go_enter Try.func40, Try.ntmps40
    go_wp2_with (first | (go_at_call 45; refine (whoOk_any _ _).mono ?_; rintro e w' ⟨rfl, rfl⟩))
    go_ret
    exact ⟨rfl, rfl⟩
  · go_enter Try.func40, Try.ntmps40
    go_wp2_with (first | (go_at_call 45; refine (whoOk_any _ _).mono ?_; rintro e w' ⟨rfl, rfl⟩))
    go_ret
    exact ⟨rfl, rfl⟩
  · have e : personN n = 0 := by
      simp [whoB] at h1
      simp only [personN]
      rw [if_neg (by omega), if_neg (by omega), if_neg (by omega)]
    rw [e]
    go_enter Try.func40, Try.ntmps40
    go_wp2_with (first | (go_at_call 45; refine (whoOk_any _ _).mono ?_; rintro e w' ⟨rfl, rfl⟩))
    go_ret
    exact ⟨rfl, rfl⟩

end Go.Proofs.Ytpllholgmidpnaa
namespace Go.Proofs.Ytpllholgmidpnaa
open Go.RowKit

theorem whoCases (i o : Int) : whoB i = false ∨ (whoB i = true ∧ whoB o = false) ∨ (whoB i = true ∧ whoB o = true ∧ o = 0) ∨ (whoB i = true ∧ whoB o = true ∧ (o == 0) = false ∧ (i != o) = false) ∨ (whoB i = true ∧ whoB o = true ∧ (o == 0) = false ∧ (i != o) = true) := by
  by_cases h : i = o
  · subst h; cases whoB i <;> by_cases h0 : i = 0 <;> simp [h0]
  · cases whoB i <;> cases whoB o <;> by_cases h0 : o = 0 <;> simp [h0, h]

theorem l6In_is {n : Int} {x : Bool} (h : whoB n = x) (w : World) : Calls Try.prog 42 #[.int .i64 n, .int .i64 0, .int .i64 3] w fun e w' => e = .returned (.bool x) ∧ w' = w := h ▸ l6In_any n w

set_option maxHeartbeats 2000000 in
theorem l1Sign_no (b i o : Int) (w : World) (hb : byteB b = false) :
    Calls Try.prog 29 #[.agg #[.int .u8 b, .int .i64 i, .int .i64 o]] w fun e w' => e = .returned (.bool (signB b i o)) ∧ Below w.heap.size w w' := by
  rw [show signB b i o = false from by simp [signB, hb]]
  have k1 : (b == 32) = false := by simp [byteB] at hb; simp; omega
  rcases (show (97 ≤ b ∧ ¬ b ≤ 122) ∨ (¬ 97 ≤ b ∧ 48 ≤ b ∧ ¬ b ≤ 57) ∨ (¬ 48 ≤ b ∧ ¬ b = 32) from by simp [byteB] at hb; omega) with ⟨h0, h1⟩ | ⟨h0, h1, h2⟩ | ⟨h0, h1⟩
  · have k2 : ¬ b ≤ 57 := by omega
    have k3 : decide (b ≤ 57) = false := by simp; omega
    go_enter Try.func29, Try.ntmps29
    go_wp2_with fail
    go_ret
    exact ⟨rfl, (Below.refl _ _).alloc (Nat.le_refl _) _⟩
  · go_enter Try.func29, Try.ntmps29
    go_wp2_with fail
    go_ret
    exact ⟨rfl, (Below.refl _ _).alloc (Nat.le_refl _) _⟩
  · go_enter Try.func29, Try.ntmps29
    go_wp2_with fail
    go_ret
    exact ⟨rfl, (Below.refl _ _).alloc (Nat.le_refl _) _⟩

theorem byteCases {b : Int} (hb : byteB b = true) : (97 ≤ b ∧ b ≤ 122) ∨ (¬ 97 ≤ b ∧ 48 ≤ b ∧ b ≤ 57 ∧ (b == 32) = false) ∨ b = 32 := by
  simp [byteB] at hb; simp; omega

set_option maxHeartbeats 2000000 in
theorem l1Sign_i (b i o : Int) (w : World) (hb : byteB b = true) (hi : whoB i = false) :
    Calls Try.prog 29 #[.agg #[.int .u8 b, .int .i64 i, .int .i64 o]] w fun e w' => e = .returned (.bool (signB b i o)) ∧ Below w.heap.size w w' := by
  rw [show signB b i o = false from by simp [signB, hi]]
  rcases byteCases hb with ⟨h0, h1⟩ | ⟨h0, h1, h2, h3⟩ | rfl
  all_goals
    clear hb
    go_enter Try.func29, Try.ntmps29
    go_wp2_with (first | (go_at_call_of 42 (Value.int IntKind.i64 i); refine (l6In_is hi _).mono ?_; rintro e w' ⟨rfl, rfl⟩))
    go_ret
    exact ⟨rfl, (Below.refl _ _).alloc (Nat.le_refl _) _⟩

set_option maxHeartbeats 2000000 in
theorem l1Sign_o (b i o : Int) (w : World) (hb : byteB b = true) (hi : whoB i = true) (ho : whoB o = false) :
    Calls Try.prog 29 #[.agg #[.int .u8 b, .int .i64 i, .int .i64 o]] w fun e w' => e = .returned (.bool (signB b i o)) ∧ Below w.heap.size w w' := by
  rw [show signB b i o = false from by simp [signB, ho]]
  rcases byteCases hb with ⟨h0, h1⟩ | ⟨h0, h1, h2, h3⟩ | rfl
  all_goals
    clear hb
    go_enter Try.func29, Try.ntmps29
    go_wp2_with (first | (go_at_call_of 42 (Value.int IntKind.i64 i); refine (l6In_is hi _).mono ?_; rintro e w' ⟨rfl, rfl⟩) | (go_at_call_of 42 (Value.int IntKind.i64 o); refine (l6In_is ho _).mono ?_; rintro e w' ⟨rfl, rfl⟩))
    go_ret
    exact ⟨rfl, (Below.refl _ _).alloc (Nat.le_refl _) _⟩

set_option maxHeartbeats 2000000 in
theorem l1Sign_n (b i o : Int) (w : World) (hb : byteB b = true) (hi : whoB i = true) (ho : whoB o = true) (hz : (o == 0) = false) (hn : (i != o) = false) :
    Calls Try.prog 29 #[.agg #[.int .u8 b, .int .i64 i, .int .i64 o]] w fun e w' => e = .returned (.bool (signB b i o)) ∧ Below w.heap.size w w' := by
  rw [show signB b i o = false from by simp at hz hn; subst hn; simp [signB, hz]]
  rcases byteCases hb with ⟨h0, h1⟩ | ⟨h0, h1, h2, h3⟩ | rfl
  all_goals
    clear hb
    go_enter Try.func29, Try.ntmps29
    go_wp2_with (first | (go_at_call_of 42 (Value.int IntKind.i64 i); refine (l6In_is hi _).mono ?_; rintro e w' ⟨rfl, rfl⟩) | (go_at_call_of 42 (Value.int IntKind.i64 o); refine (l6In_is ho _).mono ?_; rintro e w' ⟨rfl, rfl⟩))
    go_ret
    exact ⟨rfl, (Below.refl _ _).alloc (Nat.le_refl _) _⟩

set_option maxHeartbeats 2000000 in
theorem l1Sign_y (b i o : Int) (w : World) (hb : byteB b = true) (hi : whoB i = true) (ho : whoB o = true) (hz : (o == 0) = false) (hn : (i != o) = true) :
    Calls Try.prog 29 #[.agg #[.int .u8 b, .int .i64 i, .int .i64 o]] w fun e w' => e = .returned (.bool (signB b i o)) ∧ Below w.heap.size w w' := by
  rw [show signB b i o = true from by simp at hz hn; simp [signB, hb, hi, ho, hn]]
  rcases byteCases hb with ⟨h0, h1⟩ | ⟨h0, h1, h2, h3⟩ | rfl
  all_goals
    clear hb
    go_enter Try.func29, Try.ntmps29
    go_wp2_with (first | (go_at_call_of 42 (Value.int IntKind.i64 i); refine (l6In_is hi _).mono ?_; rintro e w' ⟨rfl, rfl⟩) | (go_at_call_of 42 (Value.int IntKind.i64 o); refine (l6In_is ho _).mono ?_; rintro e w' ⟨rfl, rfl⟩))
    go_ret
    exact ⟨rfl, (Below.refl _ _).alloc (Nat.le_refl _) _⟩

set_option maxHeartbeats 2000000 in
theorem l1Sign_z (b i : Int) (w : World) (hb : byteB b = true) (hi : whoB i = true) :
    Calls Try.prog 29 #[.agg #[.int .u8 b, .int .i64 i, .int .i64 0]] w fun e w' => e = .returned (.bool (signB b i 0)) ∧ Below w.heap.size w w' := by
  rw [show signB b i 0 = true from by simp [signB, hb, hi]; rfl]
  rcases byteCases hb with ⟨h0, h1⟩ | ⟨h0, h1, h2, h3⟩ | rfl
  all_goals
    clear hb
    go_enter Try.func29, Try.ntmps29
    go_wp2_with (first | (go_at_call_of 42 (Value.int IntKind.i64 i); refine (l6In_is hi _).mono ?_; rintro e w' ⟨rfl, rfl⟩) | (go_at_call 42; refine (l6In_is (n := 0) (x := true) (by rfl) _).mono ?_; rintro e w' ⟨rfl, rfl⟩))
    go_ret
    exact ⟨rfl, (Below.refl _ _).alloc (Nat.le_refl _) _⟩

theorem l1Sign_any (b i o : Int) (w : World) :
    Calls Try.prog 29 #[.agg #[.int .u8 b, .int .i64 i, .int .i64 o]] w fun e w' => e = .returned (.bool (signB b i o)) ∧ Below w.heap.size w w' := by
  cases hb : byteB b
  · exact l1Sign_no b i o w hb
  · rcases whoCases i o with hi | ⟨hi, ho⟩ | ⟨hi, ho, rfl⟩ | ⟨hi, ho, hz, hn⟩ | ⟨hi, ho, hz, hn⟩
    · exact l1Sign_i b i o w hb hi
    · exact l1Sign_o b i o w hb hi ho
    · exact l1Sign_z b i w hb hi
    · exact l1Sign_n b i o w hb hi ho hz hn
    · exact l1Sign_y b i o w hb hi ho hz hn

end Go.Proofs.Ytpllholgmidpnaa
namespace Go.Proofs.Ytpllholgmidpnaa
open Go.RowKit

theorem and_person (i o : Int) (hi : whoB i = true) (ho : whoB o = true) : (bits BinOp.and IntKind.u8 (personN i) (personN o) == 0) = decide (o = 0 ∨ i ≠ o) := by
  simp [whoB] at hi ho
  rcases (show i = 0 ∨ i = 1 ∨ i = 2 ∨ i = 3 from by omega) with rfl | rfl | rfl | rfl <;> rcases (show o = 0 ∨ o = 1 ∨ o = 2 ∨ o = 3 from by omega) with rfl | rfl | rfl | rfl <;> rfl

theorem byteOk_is {b : Int} {x : Bool} (h : byteB b = x) (w : World) : Calls Try.prog 44 #[.int .u8 b] w fun e w' => e = .returned (.bool x) ∧ w' = w := h ▸ byteOk_any b w
theorem whoOk_is {n : Int} {x : Bool} (h : whoB n = x) (w : World) : Calls Try.prog 45 #[.int .i64 n] w fun e w' => e = .returned (.bool x) ∧ w' = w := h ▸ whoOk_any n w

set_option maxHeartbeats 1000000 in
theorem signOk_b (b i o : Int) (w : World) (hb : byteB b = false) :
    Calls Try.prog 39 #[.agg #[.int .u8 b, .int .i64 i, .int .i64 o]] w fun e w' => e = .returned (.bool (signB b i o)) ∧ Below w.heap.size w w' := by
  rw [show signB b i o = false from by simp [signB, hb]]
  go_enter Try.func39, Try.ntmps39
  go_wp2_with fail
  go_quiet ((first | (go_at_call 44; exact Calls.quiet_of_same (byteOk_is hb _))))
  go_wp2
  go_ret
  refine ⟨rfl, ?_⟩
  refine below_drewN ?_ _
  exact (Below.refl _ _).alloc (Nat.le_refl _) _

set_option maxHeartbeats 1000000 in
theorem signOk_i (b i o : Int) (w : World) (hb : byteB b = true) (hi : whoB i = false) :
    Calls Try.prog 39 #[.agg #[.int .u8 b, .int .i64 i, .int .i64 o]] w fun e w' => e = .returned (.bool (signB b i o)) ∧ Below w.heap.size w w' := by
  rw [show signB b i o = false from by simp [signB, hi]]
  go_enter Try.func39, Try.ntmps39
  go_wp2_with fail
  go_quiet ((first | (go_at_call 44; exact Calls.quiet_of_same (byteOk_is hb _)) | (go_at_call_of 45 (Value.int IntKind.i64 i); exact Calls.quiet_of_same (whoOk_is hi _))))
  go_wp2
  go_ret
  refine ⟨rfl, ?_⟩
  refine below_drewN ?_ _
  exact (Below.refl _ _).alloc (Nat.le_refl _) _

set_option maxHeartbeats 1000000 in
theorem signOk_o (b i o : Int) (w : World) (hb : byteB b = true) (hi : whoB i = true) (ho : whoB o = false) :
    Calls Try.prog 39 #[.agg #[.int .u8 b, .int .i64 i, .int .i64 o]] w fun e w' => e = .returned (.bool (signB b i o)) ∧ Below w.heap.size w w' := by
  rw [show signB b i o = false from by simp [signB, ho]]
  go_enter Try.func39, Try.ntmps39
  go_wp2_with fail
  go_quiet ((first | (go_at_call 44; exact Calls.quiet_of_same (byteOk_is hb _)) | (go_at_call_of 45 (Value.int IntKind.i64 i); exact Calls.quiet_of_same (whoOk_is hi _)) | (go_at_call_of 45 (Value.int IntKind.i64 o); exact Calls.quiet_of_same (whoOk_is ho _))))
  go_wp2
  go_ret
  refine ⟨rfl, ?_⟩
  refine below_drewN ?_ _
  exact (Below.refl _ _).alloc (Nat.le_refl _) _

set_option maxHeartbeats 1000000 in
theorem signOk_y (b i o : Int) (w : World) (hb : byteB b = true) (hi : whoB i = true) (ho : whoB o = true) :
    Calls Try.prog 39 #[.agg #[.int .u8 b, .int .i64 i, .int .i64 o]] w fun e w' => e = .returned (.bool (signB b i o)) ∧ Below w.heap.size w w' := by
  have hp : Hid ((bits BinOp.and IntKind.u8 (personN i) (personN o) == 0) = signB b i o) := by
    show (bits BinOp.and IntKind.u8 (personN i) (personN o) == 0) = signB b i o
    rw [and_person i o hi ho]; simp [signB, hb, hi, ho]
  go_enter Try.func39, Try.ntmps39
  go_wp2_with fail
  go_quiet ((first | (go_at_call 44; exact Calls.quiet_of_same (byteOk_is hb _)) | (go_at_call_of 45 (Value.int IntKind.i64 i); exact Calls.quiet_of_same (whoOk_is hi _)) | (go_at_call_of 45 (Value.int IntKind.i64 o); exact Calls.quiet_of_same (whoOk_is ho _)) | (go_at_call 40; exact Calls.quiet_of_same (person_any _ _))))
  rw [hp.out]
  go_wp2
  go_ret
  refine ⟨rfl, ?_⟩
  refine below_drewN ?_ _
  exact (Below.refl _ _).alloc (Nat.le_refl _) _

theorem signOk_any (b i o : Int) (w : World) :
    Calls Try.prog 39 #[.agg #[.int .u8 b, .int .i64 i, .int .i64 o]] w fun e w' => e = .returned (.bool (signB b i o)) ∧ Below w.heap.size w w' := by
  cases hb : byteB b
  · exact signOk_b b i o w hb
  · cases hi : whoB i
    · exact signOk_i b i o w hb hi
    · cases ho : whoB o
      · exact signOk_o b i o w hb hi ho
      · exact signOk_y b i o w hb hi ho

end Go.Proofs.Ytpllholgmidpnaa
namespace Go.Proofs.Ytpllholgmidpnaa
open Go.RowKit

/-- A sign: its byte, who put it in, who takes it out. -/
abbrev Sg := Int × Int × Int
def sgB (s : Sg) : Bool := signB s.1 s.2.1 s.2.2
def textB (l : List Sg) : Bool := decide (l.length ≤ 24) && l.all sgB
def sgV (s : Sg) : Value := .agg #[.int .u8 s.1, .int .i64 s.2.1, .int .i64 s.2.2]

/-- The cells of a text's signs, three a sign, at block b from off on. -/
def SignsAt (w : World) (b off : Nat) (l : List Sg) : Prop :=
  ∀ k, k < l.length → w.cell? ⟨b, off + k * 3, none⟩ = some (.int .u8 (l.getD k (0, 0, 0)).1) ∧ w.cell? ⟨b, off + k * 3 + 1, none⟩ = some (.int .i64 (l.getD k (0, 0, 0)).2.1) ∧ w.cell? ⟨b, off + k * 3 + 2, none⟩ = some (.int .i64 (l.getD k (0, 0, 0)).2.2)

/-- A slice value that reads as the signs l. -/
def Txt (w : World) (a : Option Addr) (n cap : Nat) (l : List Sg) : Prop :=
  n = l.length ∧ n ≤ cap ∧ cap ≤ maxLen ∧ (l = [] ∨ ∃ b off, a = some ⟨b, off, none⟩ ∧ b < w.heap.size ∧ SignsAt w b off l)

theorem SignsAt.below {w w' : World} {b off : Nat} {l : List Sg} (h : SignsAt w b off l) {B : Nat} (hb : Below B w w') (hB : b < B) : SignsAt w' b off l := by
  intro k hk
  obtain ⟨h0, h1, h2⟩ := h k hk
  exact ⟨(hb.cell (p := ⟨b, _, none⟩) hB).trans h0, (hb.cell (p := ⟨b, _, none⟩) hB).trans h1, (hb.cell (p := ⟨b, _, none⟩) hB).trans h2⟩

theorem Txt.below {w w' : World} {a : Option Addr} {n cap : Nat} {l : List Sg} (h : Txt w a n cap l) (hb : Below w.heap.size w w') : Txt w' a n cap l := by
  obtain ⟨h1, h2, h3, h4⟩ := h
  refine ⟨h1, h2, h3, ?_⟩
  rcases h4 with h4 | ⟨b, off, h5, h6, h7⟩
  · exact .inl h4
  · exact .inr ⟨b, off, h5, Nat.lt_of_lt_of_le h6 hb.size, h7.below hb h6⟩

theorem all_take_succ (l : List Sg) (k : Nat) (hk : k < l.length) (p : Sg → Bool) : (l.take (k + 1)).all p = ((l.take k).all p && p (l.getD k (0, 0, 0))) := by
  rw [List.take_succ_eq_append_getElem hk, List.all_append]
  simp [List.getD, hk]

theorem all_false_of (l : List Sg) (k : Nat) (hk : k < l.length) (p : Sg → Bool) (h : p (l.getD k (0, 0, 0)) = false) : l.all p = false := by
  rw [← Bool.not_eq_true, List.all_eq_true]
  intro hh
  have := hh (l.getD k (0, 0, 0)) (by simp [List.getD, hk])
  rw [h] at this
  exact absurd this (by simp)

theorem l1Sign_is {b i o : Int} {x : Bool} (h : signB b i o = x) (w : World) :
    Calls Try.prog 29 #[.agg #[.int .u8 b, .int .i64 i, .int .i64 o]] w fun e w' => e = .returned (.bool x) ∧ Below w.heap.size w w' := h ▸ l1Sign_any b i o w
set_option maxHeartbeats 1000000 in
theorem specTextOk_any (a : Option Addr) (n cap : Nat) (l : List Sg) (w : World) (h : Txt w a n cap l) :
    Calls Try.prog 10 #[.slice a n cap] w fun e w' => e = .returned (.bool (textB l)) ∧ Below w.heap.size w w' := by
  obtain ⟨rfl, hc, hm, hl⟩ := h
  unfold maxLen at hm
  by_cases h24 : 24 < l.length
  · have e : textB l = false := by simp [textB]; omega
    rw [e]
    go_enter Try.func10, Try.ntmps10
    go_wp2
    go_ret
    exact ⟨rfl, Below.refl _ _⟩
  · have h24' : decide ((24 : Int) < (l.length : Int)) = false := by simp; omega
    have HT : Hid (textB l = l.all sgB) := by
      show textB l = l.all sgB
      simp [textB]; omega
    rcases hl with rfl | ⟨b, off, rfl, hbw, hl⟩
    · rw [show textB [] = true from rfl]
      go_enter Try.func10, Try.ntmps10
      go_wp2
      refine wp_loop_rounds 1 ?_
      rw [rounds_succ]
      go_wp2
      go_ret
      exact ⟨rfl, Below.refl _ _⟩
    · rw [HT.out]
      clear HT
      go_enter Try.func10, Try.ntmps10
      go_wp2
      go_loopw [3] (fun i wr => ∃ k : Nat, k ≤ l.length ∧ i = .int .i64 k ∧ (l.take k).all sgB = true ∧ Below w.heap.size w wr) (fun i _ => l.length - (intOf i).toNat)
      case atStart => exact ⟨0, Nat.zero_le _, rfl, by simp, Below.refl _ _⟩
      case round =>
        obtain ⟨k, hk, rfl, hall, hbl⟩ := hrel
        have HA : Hid ((l.take k).all sgB = true) := hall
        clear hall
        by_cases hlt : k < l.length
        · obtain ⟨c0, c1, c2⟩ := (hl.below hbl hbw) k hlt
          clear hl
          obtain ⟨s, hs⟩ : ∃ s, s = l.getD k (0, 0, 0) := ⟨_, rfl⟩
          rw [← hs] at c0 c1 c2
          have HS : Hid (s = l.getD k (0, 0, 0)) := hs
          clear hs
          have hsz := hbl.size
          cases hb : signB s.1 s.2.1 s.2.2
          · have HF : Hid (l.all sgB = false) := all_false_of l k hlt sgB (by rw [← HS.out]; exact hb)
            go_wp2_with (go_at_call 29; refine (l1Sign_is hb _).mono ?_; rintro e w1 ⟨rfl, hb1⟩)
            go_ret
            exact ⟨by rw [HF.out]; rfl, hbl.trans (hb1.mono hsz)⟩
          · go_wp2_with (go_at_call 29; refine (l1Sign_is hb _).mono ?_; rintro e w1 ⟨rfl, hb1⟩)
            go_roundw
            case rel => exact ⟨k + 1, by omega, by go_num, by rw [all_take_succ l k hlt, HA.out, ← HS.out]; exact hb, hbl.trans (hb1.mono hsz)⟩
            case measure => simp [intOf]; omega
        · go_wp2
          go_ret
          exact ⟨by have hh := HA.out; rw [List.take_of_length_le (by omega)] at hh; rw [hh]; rfl, hbl⟩

theorem specTextOk_is {a : Option Addr} {n cap : Nat} {l : List Sg} {w : World} {x : Bool} (h : Txt w a n cap l) (hx : textB l = x) :
    Calls Try.prog 10 #[.slice a n cap] w fun e w' => e = .returned (.bool x) ∧ Below w.heap.size w w' := hx ▸ specTextOk_any a n cap l w h

end Go.Proofs.Ytpllholgmidpnaa
namespace Go.Proofs.Ytpllholgmidpnaa
open Go.RowKit

theorem signOk_is {b i o : Int} {x : Bool} (h : signB b i o = x) (w : World) :
    Calls Try.prog 39 #[.agg #[.int .u8 b, .int .i64 i, .int .i64 o]] w fun e w' => e = .returned (.bool x) ∧ Below w.heap.size w w' := h ▸ signOk_any b i o w

set_option maxHeartbeats 1000000 in
theorem implTextOk_any (a : Option Addr) (n cap : Nat) (l : List Sg) (w : World) (h : Txt w a n cap l) :
    Calls Try.prog 26 #[.slice a n cap] w fun e w' => e = .returned (.bool (textB l)) ∧ Below w.heap.size w w' := by
  obtain ⟨rfl, hc, hm, hl⟩ := h
  unfold maxLen at hm
  by_cases h24 : 24 < l.length
  · have e : textB l = false := by simp [textB]; omega
    rw [e]
    go_enter Try.func26, Try.ntmps26
    go_wp2
    go_ret
    exact ⟨rfl, Below.refl _ _⟩
  · have h24' : decide ((24 : Int) < (l.length : Int)) = false := by simp; omega
    have HT : Hid (textB l = l.all sgB) := by
      show textB l = l.all sgB
      simp [textB]; omega
    rcases hl with rfl | ⟨b, off, rfl, hbw, hl⟩
    · rw [show textB [] = true from rfl]
      go_enter Try.func26, Try.ntmps26
      go_wp2
      refine wp_loop_rounds 1 ?_
      rw [rounds_succ]
      go_wp2
      go_ret
      exact ⟨rfl, Below.refl _ _⟩
    · rw [HT.out]
      clear HT
      go_enter Try.func26, Try.ntmps26
      go_wp2
      go_loopw [10] (fun i wr => ∃ k : Nat, k ≤ l.length ∧ i = .int .i64 k ∧ (l.take k).all sgB = true ∧ Below w.heap.size w wr) (fun i _ => l.length - (intOf i).toNat)
      case atStart => exact ⟨0, Nat.zero_le _, rfl, by simp, Below.refl _ _⟩
      case round =>
        obtain ⟨k, hk, rfl, hall, hbl⟩ := hrel
        have HA : Hid ((l.take k).all sgB = true) := hall
        clear hall
        by_cases hlt : k < l.length
        · obtain ⟨c0, c1, c2⟩ := (hl.below hbl hbw) k hlt
          clear hl
          obtain ⟨s, hs⟩ : ∃ s, s = l.getD k (0, 0, 0) := ⟨_, rfl⟩
          rw [← hs] at c0 c1 c2
          have HS : Hid (s = l.getD k (0, 0, 0)) := hs
          clear hs
          have hsz := hbl.size
          cases hb : signB s.1 s.2.1 s.2.2
          · have HF : Hid (l.all sgB = false) := all_false_of l k hlt sgB (by rw [← HS.out]; exact hb)
            go_wp2_with (go_at_call 39; refine (signOk_is hb _).mono ?_; rintro e w1 ⟨rfl, hb1⟩)
            go_ret
            exact ⟨by rw [HF.out]; rfl, (hbl.alloc hsz _).trans (hb1.mono (by simp; omega))⟩
          · go_wp2_with (go_at_call 39; refine (signOk_is hb _).mono ?_; rintro e w1 ⟨rfl, hb1⟩)
            go_roundw
            case rel => exact ⟨k + 1, by omega, by go_num, by rw [all_take_succ l k hlt, HA.out, ← HS.out]; exact hb, (hbl.alloc hsz _).trans (hb1.mono (by simp; omega))⟩
            case measure => simp [intOf]; omega
        · go_wp2
          go_ret
          exact ⟨by have hh := HA.out; rw [List.take_of_length_le (by omega)] at hh; rw [hh]; rfl, hbl⟩

end Go.Proofs.Ytpllholgmidpnaa
namespace Go.Proofs.Ytpllholgmidpnaa
open Go.ChangeShapes Go.WideShapes Go.ChangeAt Go.RowKit

theorem own : ownKnob Try.prog.godebug = none := by kernel_rfl
theorem laidOut : laidOutB Try.prog = true := by kernel_rfl

section
variable {H : Type} {enc : TypeId × Value → H} {P : Program} {w : World} {base : Nat} {spare : Nat → Bool} {held : Bool}

/-- A slice of signs that came in, opened: nil, or it reads as some signs. -/
theorem open_signs {t e : TypeId} {f0 f1 f2 : Field} {fuel : Nat} {cs : List Value} {x : DataW H × List MemPlace} (ht : P.underlying t = some (.slice e)) (he : P.underlying e = some (.struct #[f0, f1, f2]))
    (ce : P.cellsOf e = 3) (o0 : f0.offset = 0) (o1 : f1.offset = 1) (o2 : f2.offset = 2) (c0 : P.cellsOf f0.type = 1) (c1 : P.cellsOf f1.type = 1) (c2 : P.cellsOf f2.type = 1)
    (u0 : P.underlying f0.type = some (.int .u8)) (u1 : P.underlying f1.type = some (.int .i64)) (u2 : P.underlying f2.type = some (.int .i64))
    (h : DataW.trod enc P w base spare held fuel t cs = some x) :
    ∃ (a : Option Addr) (len cap : Nat) (l : List Sg), cs = [.slice a len cap] ∧ Txt w a len cap l := by
  rcases Go.Deep.open_slice ht h with ⟨rfl, _⟩ | ⟨a, len, cap, m, n, D, Pl, rfl, hb, hl, hm, hmm, rfl, hx⟩
  · exact ⟨none, 0, 0, [], rfl, rfl, Nat.le_refl _, Nat.zero_le _, .inl rfl⟩
  have hlm : len ≤ m := by rw [hmm]; split <;> omega
  have each : ∀ i, i < len → ∃ q : Sg, w.cell? (a.add (i * 3)) = some (.int .u8 q.1) ∧ w.cell? (a.add (i * 3 + 1)) = some (.int .i64 q.2.1) ∧ w.cell? (a.add (i * 3 + 2)) = some (.int .i64 q.2.2) := by
    intro i hi
    obtain ⟨cs', h1, h2⟩ := hx i (by omega)
    rw [ce] at h1
    obtain ⟨_, hlen, hcell⟩ := World.cells?_some h1
    obtain ⟨xs, k, hk, hxy, _, hxl, hf⟩ := DataW.trod_struct he h2
    match xs, hxl, cs', hlen with
    | [y0, y1, y2], _, [v0, v1, v2], _ =>
      have g0 := hf 0 f0 rfl
      have g1 := hf 1 f1 rfl
      have g2 := hf 2 f2 rfl
      simp [o0, o1, o2, c0, c1, c2] at g0 g1 g2
      have e0 := hcell 0 (by omega)
      have e1 := hcell 1 (by omega)
      have e2 := hcell 2 (by omega)
      rw [Go.Deep.add_add] at e0 e1 e2
      obtain ⟨n0, r0, _⟩ := DataW.trod_int u0 g0
      obtain ⟨n1, r1, _⟩ := DataW.trod_int u1 g1
      obtain ⟨n2, r2, _⟩ := DataW.trod_int u2 g2
      simp only [List.cons.injEq, and_true] at r0 r1 r2
      subst r0 r1 r2
      exact ⟨(n0, n1, n2), by simpa using e0, by simpa using e1, by simpa using e2⟩
  obtain ⟨q, hq⟩ := Go.Deep.choose_lt each
  refine ⟨some a, len, cap, (List.range len).map q, rfl, by simp, hl, hm, ?_⟩
  by_cases h0 : len = 0
  · subst h0; exact .inl (by simp)
  · obtain ⟨b, off, spot⟩ := a
    have hc := (hq 0 (by omega)).1
    have hspot : spot = none := by simpa [Addr.add] using World.cell?_spot hc
    subst hspot
    refine .inr ⟨b, off, rfl, by have := World.block_lt_of_cell? _ _ hc; simpa [Addr.add_lit] using this, ?_⟩
    intro k hk
    have hk' : k < len := by simpa using hk
    obtain ⟨a0, a1, a2⟩ := hq k hk'
    have e : ((List.range len).map q).getD k (0, 0, 0) = q k := by simp [List.getD, hk']
    rw [e]
    simp only [Addr.add_lit] at a0 a1 a2
    exact ⟨a0, by rw [Nat.add_assoc]; exact a1, by rw [Nat.add_assoc]; exact a2⟩
end
end Go.Proofs.Ytpllholgmidpnaa
