import Derived.Test.YtccoeachemnbnaaGreatDoorRows
import Derived.WalkKit
import Derived.WalkSpells
import Derived.WalkLawsBesides
import Derived.Deep.QuietTactic
import Derived.BigQuiet
import Derived.Deep.RegionWith
import Derived.ProofKit
import Derived.OpenShut
import Derived.ShutString
import Derived.ChangeOld
import Derived.Below
import Derived.Deep.Slices
import Derived.Deep.LoopGhost
import Derived.Laws.Rows
import Derived.Deep.Heap
import Derived.Test.YtccoeachemnbnaaGreatDoorTie
import Derived.Test.YtccoeachemnbnaaGreatDoorCards
import Derived.Stop.LaidErr
import Derived.Stop.ErrReads
import Derived.SevenTiedAt
import Derived.Deep.RegionHeld3
import Derived.Deep.AppendLies
import Derived.Deep.Cut
namespace Go.Proofs.YtccoeachemnbnaaGreatDoor
open Go.RowKit

def byteB (b : Int) : Bool := decide (97 ≤ b ∧ b ≤ 122 ∨ 48 ≤ b ∧ b ≤ 57 ∨ b = 32)
def whoB (n : Int) : Bool := decide (0 ≤ n ∧ n ≤ 3)
def personN (n : Int) : Int := if n = 1 then 1 else if n = 2 then 2 else if n = 3 then 4 else 0
def signB (b i o : Int) : Bool := byteB b && whoB i && whoB o && decide (o = 0 ∨ i ≠ o)

set_option maxHeartbeats 400000 in
theorem l6In_any (n : Int) (w : World) :
    Calls Tryz.prog 26 #[.int .i64 n, .int .i64 0, .int .i64 3] w fun e w' => e = .returned (.bool (whoB n)) ∧ w' = w := by
  rcases (show (0 ≤ n ∧ n ≤ 3) ∨ (0 ≤ n ∧ ¬ n ≤ 3) ∨ (¬ 0 ≤ n) from by omega) with ⟨h0, h1⟩ | ⟨h0, h1⟩ | h0
  · have e : whoB n = true := by simp [whoB]; omega
    rw [e]
    go_enter Tryz.func26, Tryz.ntmps26
    go_wp2
    go_ret
    exact ⟨rfl, rfl⟩
  all_goals
    have e : whoB n = false := by simp [whoB]; omega
    rw [e]
    go_enter Tryz.func26, Tryz.ntmps26
    go_wp2
    go_ret
    exact ⟨rfl, rfl⟩


theorem l6Cases (n lo hi : Int) : (lo ≤ n ∧ n ≤ hi) ∨ (lo ≤ n ∧ ¬ n ≤ hi) ∨ (¬ lo ≤ n) := by omega
set_option maxHeartbeats 400000 in
theorem l6In_gen (n lo hi : Int) (w : World) :
    Calls Tryz.prog 26 #[.int .i64 n, .int .i64 lo, .int .i64 hi] w fun e w' => e = .returned (.bool (decide (lo ≤ n ∧ n ≤ hi))) ∧ w' = w := by
  rcases l6Cases n lo hi with ⟨h0, h1⟩ | ⟨h0, h1⟩ | h0
  · rw [decide_eq_true ⟨h0, h1⟩]
    go_enter Tryz.func26, Tryz.ntmps26
    go_wp2
    go_ret
    exact ⟨rfl, rfl⟩
  · rw [decide_eq_false (fun h => h1 h.2)]
    go_enter Tryz.func26, Tryz.ntmps26
    go_wp2
    go_ret
    exact ⟨rfl, rfl⟩
  · rw [decide_eq_false (fun h => h0 h.1)]
    go_enter Tryz.func26, Tryz.ntmps26
    go_wp2
    go_ret
    exact ⟨rfl, rfl⟩
theorem l6In_of {n lo hi : Int} {x : Bool} (h : decide (lo ≤ n ∧ n ≤ hi) = x) (w : World) :
    Calls Tryz.prog 26 #[.int .i64 n, .int .i64 lo, .int .i64 hi] w fun e w' => e = .returned (.bool x) ∧ w' = w := h ▸ l6In_gen n lo hi w

end Go.Proofs.YtccoeachemnbnaaGreatDoor
namespace Go.Proofs.YtccoeachemnbnaaGreatDoor
open Go.RowKit

set_option maxHeartbeats 400000 in
theorem whoOk_any (n : Int) (w : World) :
    Calls Tryz.prog 94 #[.int .i64 n] w fun e w' => e = .returned (.bool (whoB n)) ∧ w' = w := by
  rcases (show (0 ≤ n ∧ n ≤ 3) ∨ (0 ≤ n ∧ ¬ n ≤ 3) ∨ (¬ 0 ≤ n) from by omega) with ⟨h0, h1⟩ | ⟨h0, h1⟩ | h0
  · have e : whoB n = true := by simp [whoB]; omega
    rw [e]
    go_enter Tryz.func94, Tryz.ntmps94
    go_wp2
    go_ret
    exact ⟨rfl, rfl⟩
  all_goals
    have e : whoB n = false := by simp [whoB]; omega
    rw [e]
    go_enter Tryz.func94, Tryz.ntmps94
    go_wp2
    go_ret
    exact ⟨rfl, rfl⟩

set_option maxHeartbeats 800000 in
theorem byteOk_any (b : Int) (w : World) :
    Calls Tryz.prog 93 #[.int .u8 b] w fun e w' => e = .returned (.bool (byteB b)) ∧ w' = w := by
  rcases (show (97 ≤ b ∧ b ≤ 122) ∨ (97 ≤ b ∧ ¬ b ≤ 122) ∨ (¬ 97 ≤ b ∧ 48 ≤ b ∧ b ≤ 57) ∨ (¬ 97 ≤ b ∧ 48 ≤ b ∧ ¬ b ≤ 57) ∨ (¬ 48 ≤ b ∧ b = 32) ∨ (¬ 48 ≤ b ∧ ¬ b = 32) from by omega) with ⟨h0, h1⟩ | ⟨h0, h1⟩ | ⟨h0, h1, h2⟩ | ⟨h0, h1, h2⟩ | ⟨h0, rfl⟩ | ⟨h0, h1⟩
  · rw [show byteB b = true from by simp [byteB]; omega]
    go_enter Tryz.func93, Tryz.ntmps93
    go_wp2
    go_ret
    exact ⟨rfl, rfl⟩
  · rw [show byteB b = false from by simp [byteB]; omega]
    have k1 : (b == 32) = false := by simp; omega
    have k2 : ¬ b ≤ 57 := by omega
    have k3 : decide (b ≤ 57) = false := by simp; omega
    go_enter Tryz.func93, Tryz.ntmps93
    go_wp2
    go_ret
    exact ⟨rfl, rfl⟩
  · rw [show byteB b = true from by simp [byteB]; omega]
    go_enter Tryz.func93, Tryz.ntmps93
    go_wp2
    go_ret
    exact ⟨rfl, rfl⟩
  · rw [show byteB b = false from by simp [byteB]; omega]
    have k1 : (b == 32) = false := by simp; omega
    go_enter Tryz.func93, Tryz.ntmps93
    go_wp2
    go_ret
    exact ⟨rfl, rfl⟩
  · go_enter Tryz.func93, Tryz.ntmps93
    go_wp2
    go_ret
    exact ⟨rfl, rfl⟩
  · rw [show byteB b = false from by simp [byteB]; omega]
    have k1 : (b == 32) = false := by simp; omega
    go_enter Tryz.func93, Tryz.ntmps93
    go_wp2
    go_ret
    exact ⟨rfl, rfl⟩

set_option maxHeartbeats 800000 in
theorem person_any (n : Int) (w : World) :
    Calls Tryz.prog 81 #[.int .i64 n] w fun e w' => e = .returned (.int .u8 (personN n)) ∧ w' = w := by
  rcases (show n = 0 ∨ n = 1 ∨ n = 2 ∨ n = 3 ∨ (¬ n = 0 ∧ whoB n = false) from by simp [whoB]; omega) with rfl | rfl | rfl | rfl | ⟨h0, h1⟩
  · go_enter Tryz.func81, Tryz.ntmps81
    go_wp2_with (first | (go_at_call 94; refine (whoOk_any _ _).mono ?_; rintro e w' ⟨rfl, rfl⟩))
    go_ret
    exact ⟨rfl, rfl⟩
  · go_enter Tryz.func81, Tryz.ntmps81
    go_wp2_with (first | (go_at_call 94; refine (whoOk_any _ _).mono ?_; rintro e w' ⟨rfl, rfl⟩))
    go_ret
    exact ⟨rfl, rfl⟩
  · go_enter Tryz.func81, Tryz.ntmps81
    go_wp2_with (first | (go_at_call 94; refine (whoOk_any _ _).mono ?_; rintro e w' ⟨rfl, rfl⟩))
    go_ret
    exact ⟨rfl, rfl⟩
  · go_enter Tryz.func81, Tryz.ntmps81
    go_wp2_with (first | (go_at_call 94; refine (whoOk_any _ _).mono ?_; rintro e w' ⟨rfl, rfl⟩))
    go_ret
    exact ⟨rfl, rfl⟩
  · have e : personN n = 0 := by
      simp [whoB] at h1
      simp only [personN]
      rw [if_neg (by omega), if_neg (by omega), if_neg (by omega)]
    rw [e]
    go_enter Tryz.func81, Tryz.ntmps81
    go_wp2_with (first | (go_at_call 94; refine (whoOk_any _ _).mono ?_; rintro e w' ⟨rfl, rfl⟩))
    go_ret
    exact ⟨rfl, rfl⟩

end Go.Proofs.YtccoeachemnbnaaGreatDoor
namespace Go.Proofs.YtccoeachemnbnaaGreatDoor
open Go.RowKit

theorem whoCases (i o : Int) : whoB i = false ∨ (whoB i = true ∧ whoB o = false) ∨ (whoB i = true ∧ whoB o = true ∧ o = 0) ∨ (whoB i = true ∧ whoB o = true ∧ (o == 0) = false ∧ (i != o) = false) ∨ (whoB i = true ∧ whoB o = true ∧ (o == 0) = false ∧ (i != o) = true) := by
  by_cases h : i = o
  · subst h; cases whoB i <;> by_cases h0 : i = 0 <;> simp [h0]
  · cases whoB i <;> cases whoB o <;> by_cases h0 : o = 0 <;> simp [h0, h]

theorem l6In_is {n : Int} {x : Bool} (h : whoB n = x) (w : World) : Calls Tryz.prog 26 #[.int .i64 n, .int .i64 0, .int .i64 3] w fun e w' => e = .returned (.bool x) ∧ w' = w := h ▸ l6In_any n w

set_option maxHeartbeats 2000000 in
theorem l1Sign_no (b i o : Int) (w : World) (hb : byteB b = false) :
    Calls Tryz.prog 65 #[.agg #[.int .u8 b, .int .i64 i, .int .i64 o]] w fun e w' => e = .returned (.bool (signB b i o)) ∧ Below w.heap.size w w' := by
  rw [show signB b i o = false from by simp [signB, hb]]
  have k1 : (b == 32) = false := by simp [byteB] at hb; simp; omega
  rcases (show (97 ≤ b ∧ ¬ b ≤ 122) ∨ (¬ 97 ≤ b ∧ 48 ≤ b ∧ ¬ b ≤ 57) ∨ (¬ 48 ≤ b ∧ ¬ b = 32) from by simp [byteB] at hb; omega) with ⟨h0, h1⟩ | ⟨h0, h1, h2⟩ | ⟨h0, h1⟩
  · have k2 : ¬ b ≤ 57 := by omega
    have k3 : decide (b ≤ 57) = false := by simp; omega
    go_enter Tryz.func65, Tryz.ntmps65
    go_wp2_with fail
    go_ret
    exact ⟨rfl, (Below.refl _ _).alloc (Nat.le_refl _) _⟩
  · go_enter Tryz.func65, Tryz.ntmps65
    go_wp2_with fail
    go_ret
    exact ⟨rfl, (Below.refl _ _).alloc (Nat.le_refl _) _⟩
  · go_enter Tryz.func65, Tryz.ntmps65
    go_wp2_with fail
    go_ret
    exact ⟨rfl, (Below.refl _ _).alloc (Nat.le_refl _) _⟩

theorem byteCases {b : Int} (hb : byteB b = true) : (97 ≤ b ∧ b ≤ 122) ∨ (¬ 97 ≤ b ∧ 48 ≤ b ∧ b ≤ 57 ∧ (b == 32) = false) ∨ b = 32 := by
  simp [byteB] at hb; simp; omega

set_option maxHeartbeats 2000000 in
theorem l1Sign_i (b i o : Int) (w : World) (hb : byteB b = true) (hi : whoB i = false) :
    Calls Tryz.prog 65 #[.agg #[.int .u8 b, .int .i64 i, .int .i64 o]] w fun e w' => e = .returned (.bool (signB b i o)) ∧ Below w.heap.size w w' := by
  rw [show signB b i o = false from by simp [signB, hi]]
  rcases byteCases hb with ⟨h0, h1⟩ | ⟨h0, h1, h2, h3⟩ | rfl
  all_goals
    clear hb
    go_enter Tryz.func65, Tryz.ntmps65
    go_wp2_with (first | (go_at_call_of 26 (Value.int IntKind.i64 i); refine (l6In_is hi _).mono ?_; rintro e w' ⟨rfl, rfl⟩))
    go_ret
    exact ⟨rfl, (Below.refl _ _).alloc (Nat.le_refl _) _⟩

set_option maxHeartbeats 2000000 in
theorem l1Sign_o (b i o : Int) (w : World) (hb : byteB b = true) (hi : whoB i = true) (ho : whoB o = false) :
    Calls Tryz.prog 65 #[.agg #[.int .u8 b, .int .i64 i, .int .i64 o]] w fun e w' => e = .returned (.bool (signB b i o)) ∧ Below w.heap.size w w' := by
  rw [show signB b i o = false from by simp [signB, ho]]
  rcases byteCases hb with ⟨h0, h1⟩ | ⟨h0, h1, h2, h3⟩ | rfl
  all_goals
    clear hb
    go_enter Tryz.func65, Tryz.ntmps65
    go_wp2_with (first | (go_at_call_of 26 (Value.int IntKind.i64 i); refine (l6In_is hi _).mono ?_; rintro e w' ⟨rfl, rfl⟩) | (go_at_call_of 26 (Value.int IntKind.i64 o); refine (l6In_is ho _).mono ?_; rintro e w' ⟨rfl, rfl⟩))
    go_ret
    exact ⟨rfl, (Below.refl _ _).alloc (Nat.le_refl _) _⟩

set_option maxHeartbeats 2000000 in
theorem l1Sign_n (b i o : Int) (w : World) (hb : byteB b = true) (hi : whoB i = true) (ho : whoB o = true) (hz : (o == 0) = false) (hn : (i != o) = false) :
    Calls Tryz.prog 65 #[.agg #[.int .u8 b, .int .i64 i, .int .i64 o]] w fun e w' => e = .returned (.bool (signB b i o)) ∧ Below w.heap.size w w' := by
  rw [show signB b i o = false from by simp at hz hn; subst hn; simp [signB, hz]]
  rcases byteCases hb with ⟨h0, h1⟩ | ⟨h0, h1, h2, h3⟩ | rfl
  all_goals
    clear hb
    go_enter Tryz.func65, Tryz.ntmps65
    go_wp2_with (first | (go_at_call_of 26 (Value.int IntKind.i64 i); refine (l6In_is hi _).mono ?_; rintro e w' ⟨rfl, rfl⟩) | (go_at_call_of 26 (Value.int IntKind.i64 o); refine (l6In_is ho _).mono ?_; rintro e w' ⟨rfl, rfl⟩))
    go_ret
    exact ⟨rfl, (Below.refl _ _).alloc (Nat.le_refl _) _⟩

set_option maxHeartbeats 2000000 in
theorem l1Sign_y (b i o : Int) (w : World) (hb : byteB b = true) (hi : whoB i = true) (ho : whoB o = true) (hz : (o == 0) = false) (hn : (i != o) = true) :
    Calls Tryz.prog 65 #[.agg #[.int .u8 b, .int .i64 i, .int .i64 o]] w fun e w' => e = .returned (.bool (signB b i o)) ∧ Below w.heap.size w w' := by
  rw [show signB b i o = true from by simp at hz hn; simp [signB, hb, hi, ho, hn]]
  rcases byteCases hb with ⟨h0, h1⟩ | ⟨h0, h1, h2, h3⟩ | rfl
  all_goals
    clear hb
    go_enter Tryz.func65, Tryz.ntmps65
    go_wp2_with (first | (go_at_call_of 26 (Value.int IntKind.i64 i); refine (l6In_is hi _).mono ?_; rintro e w' ⟨rfl, rfl⟩) | (go_at_call_of 26 (Value.int IntKind.i64 o); refine (l6In_is ho _).mono ?_; rintro e w' ⟨rfl, rfl⟩))
    go_ret
    exact ⟨rfl, (Below.refl _ _).alloc (Nat.le_refl _) _⟩

set_option maxHeartbeats 2000000 in
theorem l1Sign_z (b i : Int) (w : World) (hb : byteB b = true) (hi : whoB i = true) :
    Calls Tryz.prog 65 #[.agg #[.int .u8 b, .int .i64 i, .int .i64 0]] w fun e w' => e = .returned (.bool (signB b i 0)) ∧ Below w.heap.size w w' := by
  rw [show signB b i 0 = true from by simp [signB, hb, hi]; rfl]
  rcases byteCases hb with ⟨h0, h1⟩ | ⟨h0, h1, h2, h3⟩ | rfl
  all_goals
    clear hb
    go_enter Tryz.func65, Tryz.ntmps65
    go_wp2_with (first | (go_at_call_of 26 (Value.int IntKind.i64 i); refine (l6In_is hi _).mono ?_; rintro e w' ⟨rfl, rfl⟩) | (go_at_call 26; refine (l6In_is (n := 0) (x := true) (by rfl) _).mono ?_; rintro e w' ⟨rfl, rfl⟩))
    go_ret
    exact ⟨rfl, (Below.refl _ _).alloc (Nat.le_refl _) _⟩

theorem l1Sign_any (b i o : Int) (w : World) :
    Calls Tryz.prog 65 #[.agg #[.int .u8 b, .int .i64 i, .int .i64 o]] w fun e w' => e = .returned (.bool (signB b i o)) ∧ Below w.heap.size w w' := by
  cases hb : byteB b
  · exact l1Sign_no b i o w hb
  · rcases whoCases i o with hi | ⟨hi, ho⟩ | ⟨hi, ho, rfl⟩ | ⟨hi, ho, hz, hn⟩ | ⟨hi, ho, hz, hn⟩
    · exact l1Sign_i b i o w hb hi
    · exact l1Sign_o b i o w hb hi ho
    · exact l1Sign_z b i w hb hi
    · exact l1Sign_n b i o w hb hi ho hz hn
    · exact l1Sign_y b i o w hb hi ho hz hn

end Go.Proofs.YtccoeachemnbnaaGreatDoor
namespace Go.Proofs.YtccoeachemnbnaaGreatDoor
open Go.RowKit

theorem and_person (i o : Int) (hi : whoB i = true) (ho : whoB o = true) : (bits BinOp.and IntKind.u8 (personN i) (personN o) == 0) = decide (o = 0 ∨ i ≠ o) := by
  simp [whoB] at hi ho
  rcases (show i = 0 ∨ i = 1 ∨ i = 2 ∨ i = 3 from by omega) with rfl | rfl | rfl | rfl <;> rcases (show o = 0 ∨ o = 1 ∨ o = 2 ∨ o = 3 from by omega) with rfl | rfl | rfl | rfl <;> rfl

theorem byteOk_is {b : Int} {x : Bool} (h : byteB b = x) (w : World) : Calls Tryz.prog 93 #[.int .u8 b] w fun e w' => e = .returned (.bool x) ∧ w' = w := h ▸ byteOk_any b w
theorem whoOk_is {n : Int} {x : Bool} (h : whoB n = x) (w : World) : Calls Tryz.prog 94 #[.int .i64 n] w fun e w' => e = .returned (.bool x) ∧ w' = w := h ▸ whoOk_any n w

set_option maxHeartbeats 1000000 in
theorem signOk_b (b i o : Int) (w : World) (hb : byteB b = false) :
    Calls Tryz.prog 80 #[.agg #[.int .u8 b, .int .i64 i, .int .i64 o]] w fun e w' => e = .returned (.bool (signB b i o)) ∧ Below w.heap.size w w' := by
  rw [show signB b i o = false from by simp [signB, hb]]
  go_enter Tryz.func80, Tryz.ntmps80
  go_wp2_with fail
  go_quiet ((first | (go_at_call 93; exact Calls.quiet_of_same (byteOk_is hb _))))
  go_wp2
  go_ret
  refine ⟨rfl, ?_⟩
  refine below_drewN ?_ _
  exact (Below.refl _ _).alloc (Nat.le_refl _) _

set_option maxHeartbeats 1000000 in
theorem signOk_i (b i o : Int) (w : World) (hb : byteB b = true) (hi : whoB i = false) :
    Calls Tryz.prog 80 #[.agg #[.int .u8 b, .int .i64 i, .int .i64 o]] w fun e w' => e = .returned (.bool (signB b i o)) ∧ Below w.heap.size w w' := by
  rw [show signB b i o = false from by simp [signB, hi]]
  go_enter Tryz.func80, Tryz.ntmps80
  go_wp2_with fail
  go_quiet ((first | (go_at_call 93; exact Calls.quiet_of_same (byteOk_is hb _)) | (go_at_call_of 94 (Value.int IntKind.i64 i); exact Calls.quiet_of_same (whoOk_is hi _))))
  go_wp2
  go_ret
  refine ⟨rfl, ?_⟩
  refine below_drewN ?_ _
  exact (Below.refl _ _).alloc (Nat.le_refl _) _

set_option maxHeartbeats 1000000 in
theorem signOk_o (b i o : Int) (w : World) (hb : byteB b = true) (hi : whoB i = true) (ho : whoB o = false) :
    Calls Tryz.prog 80 #[.agg #[.int .u8 b, .int .i64 i, .int .i64 o]] w fun e w' => e = .returned (.bool (signB b i o)) ∧ Below w.heap.size w w' := by
  rw [show signB b i o = false from by simp [signB, ho]]
  go_enter Tryz.func80, Tryz.ntmps80
  go_wp2_with fail
  go_quiet ((first | (go_at_call 93; exact Calls.quiet_of_same (byteOk_is hb _)) | (go_at_call_of 94 (Value.int IntKind.i64 i); exact Calls.quiet_of_same (whoOk_is hi _)) | (go_at_call_of 94 (Value.int IntKind.i64 o); exact Calls.quiet_of_same (whoOk_is ho _))))
  go_wp2
  go_ret
  refine ⟨rfl, ?_⟩
  refine below_drewN ?_ _
  exact (Below.refl _ _).alloc (Nat.le_refl _) _

set_option maxHeartbeats 1000000 in
theorem signOk_y (b i o : Int) (w : World) (hb : byteB b = true) (hi : whoB i = true) (ho : whoB o = true) :
    Calls Tryz.prog 80 #[.agg #[.int .u8 b, .int .i64 i, .int .i64 o]] w fun e w' => e = .returned (.bool (signB b i o)) ∧ Below w.heap.size w w' := by
  have hp : Hid ((bits BinOp.and IntKind.u8 (personN i) (personN o) == 0) = signB b i o) := by
    show (bits BinOp.and IntKind.u8 (personN i) (personN o) == 0) = signB b i o
    rw [and_person i o hi ho]; simp [signB, hb, hi, ho]
  go_enter Tryz.func80, Tryz.ntmps80
  go_wp2_with fail
  go_quiet ((first | (go_at_call 93; exact Calls.quiet_of_same (byteOk_is hb _)) | (go_at_call_of 94 (Value.int IntKind.i64 i); exact Calls.quiet_of_same (whoOk_is hi _)) | (go_at_call_of 94 (Value.int IntKind.i64 o); exact Calls.quiet_of_same (whoOk_is ho _)) | (go_at_call 81; exact Calls.quiet_of_same (person_any _ _))))
  rw [hp.out]
  go_wp2
  go_ret
  refine ⟨rfl, ?_⟩
  refine below_drewN ?_ _
  exact (Below.refl _ _).alloc (Nat.le_refl _) _

theorem signOk_any (b i o : Int) (w : World) :
    Calls Tryz.prog 80 #[.agg #[.int .u8 b, .int .i64 i, .int .i64 o]] w fun e w' => e = .returned (.bool (signB b i o)) ∧ Below w.heap.size w w' := by
  cases hb : byteB b
  · exact signOk_b b i o w hb
  · cases hi : whoB i
    · exact signOk_i b i o w hb hi
    · cases ho : whoB o
      · exact signOk_o b i o w hb hi ho
      · exact signOk_y b i o w hb hi ho

end Go.Proofs.YtccoeachemnbnaaGreatDoor
namespace Go.Proofs.YtccoeachemnbnaaGreatDoor
open Go.RowKit

/-- A sign: its byte, who put it in, who takes it out. -/
abbrev Sg := Int × Int × Int
def sgB (s : Sg) : Bool := signB s.1 s.2.1 s.2.2
def textB (l : List Sg) : Bool := decide (l.length ≤ 24) && l.all sgB
def sgV (s : Sg) : Value := .agg #[.int .u8 s.1, .int .i64 s.2.1, .int .i64 s.2.2]

/-- The cells of a text's signs, three a sign, at block b from off on. -/
def SignsAt (w : World) (b off : Nat) (l : List Sg) : Prop :=
  ∀ k, k < l.length → w.cell? ⟨b, off + k * 3, none⟩ = some (.int .u8 (l.getD k (0, 0, 0)).1) ∧ w.cell? ⟨b, off + k * 3 + 1, none⟩ = some (.int .i64 (l.getD k (0, 0, 0)).2.1) ∧ w.cell? ⟨b, off + k * 3 + 2, none⟩ = some (.int .i64 (l.getD k (0, 0, 0)).2.2)

/-- A slice value that reads as the signs l. -/
def Txt (w : World) (a : Option Addr) (n cap : Nat) (l : List Sg) : Prop :=
  n = l.length ∧ n ≤ cap ∧ cap ≤ maxLen ∧ (l = [] ∨ ∃ b off, a = some ⟨b, off, none⟩ ∧ b < w.heap.size ∧ SignsAt w b off l)

theorem SignsAt.below {w w' : World} {b off : Nat} {l : List Sg} (h : SignsAt w b off l) {B : Nat} (hb : Below B w w') (hB : b < B) : SignsAt w' b off l := by
  intro k hk
  obtain ⟨h0, h1, h2⟩ := h k hk
  exact ⟨(hb.cell (p := ⟨b, _, none⟩) hB).trans h0, (hb.cell (p := ⟨b, _, none⟩) hB).trans h1, (hb.cell (p := ⟨b, _, none⟩) hB).trans h2⟩

theorem Txt.below {w w' : World} {a : Option Addr} {n cap : Nat} {l : List Sg} (h : Txt w a n cap l) (hb : Below w.heap.size w w') : Txt w' a n cap l := by
  obtain ⟨h1, h2, h3, h4⟩ := h
  refine ⟨h1, h2, h3, ?_⟩
  rcases h4 with h4 | ⟨b, off, h5, h6, h7⟩
  · exact .inl h4
  · exact .inr ⟨b, off, h5, Nat.lt_of_lt_of_le h6 hb.size, h7.below hb h6⟩

theorem all_take_succ (l : List Sg) (k : Nat) (hk : k < l.length) (p : Sg → Bool) : (l.take (k + 1)).all p = ((l.take k).all p && p (l.getD k (0, 0, 0))) := by
  rw [List.take_succ_eq_append_getElem hk, List.all_append]
  simp [List.getD, hk]

theorem all_false_of (l : List Sg) (k : Nat) (hk : k < l.length) (p : Sg → Bool) (h : p (l.getD k (0, 0, 0)) = false) : l.all p = false := by
  rw [← Bool.not_eq_true, List.all_eq_true]
  intro hh
  have := hh (l.getD k (0, 0, 0)) (by simp [List.getD, hk])
  rw [h] at this
  exact absurd this (by simp)

theorem l1Sign_is {b i o : Int} {x : Bool} (h : signB b i o = x) (w : World) :
    Calls Tryz.prog 65 #[.agg #[.int .u8 b, .int .i64 i, .int .i64 o]] w fun e w' => e = .returned (.bool x) ∧ Below w.heap.size w w' := h ▸ l1Sign_any b i o w
set_option maxHeartbeats 1000000 in
theorem specTextOk_any (a : Option Addr) (n cap : Nat) (l : List Sg) (w : World) (h : Txt w a n cap l) :
    Calls Tryz.prog 45 #[.slice a n cap] w fun e w' => e = .returned (.bool (textB l)) ∧ Below w.heap.size w w' := by
  obtain ⟨rfl, hc, hm, hl⟩ := h
  unfold maxLen at hm
  by_cases h24 : 24 < l.length
  · have e : textB l = false := by simp [textB]; omega
    rw [e]
    go_enter Tryz.func45, Tryz.ntmps45
    go_wp2
    go_ret
    exact ⟨rfl, Below.refl _ _⟩
  · have h24' : decide ((24 : Int) < (l.length : Int)) = false := by simp; omega
    have HT : Hid (textB l = l.all sgB) := by
      show textB l = l.all sgB
      simp [textB]; omega
    rcases hl with rfl | ⟨b, off, rfl, hbw, hl⟩
    · rw [show textB [] = true from rfl]
      go_enter Tryz.func45, Tryz.ntmps45
      go_wp2
      refine wp_loop_rounds 1 ?_
      rw [rounds_succ]
      go_wp2
      go_ret
      exact ⟨rfl, Below.refl _ _⟩
    · rw [HT.out]
      clear HT
      go_enter Tryz.func45, Tryz.ntmps45
      go_wp2
      go_loopw [3] (fun i wr => ∃ k : Nat, k ≤ l.length ∧ i = .int .i64 k ∧ (l.take k).all sgB = true ∧ Below w.heap.size w wr) (fun i _ => l.length - (intOf i).toNat)
      case atStart => exact ⟨0, Nat.zero_le _, rfl, by simp, Below.refl _ _⟩
      case round =>
        obtain ⟨k, hk, rfl, hall, hbl⟩ := hrel
        have HA : Hid ((l.take k).all sgB = true) := hall
        clear hall
        by_cases hlt : k < l.length
        · obtain ⟨c0, c1, c2⟩ := (hl.below hbl hbw) k hlt
          clear hl
          obtain ⟨s, hs⟩ : ∃ s, s = l.getD k (0, 0, 0) := ⟨_, rfl⟩
          rw [← hs] at c0 c1 c2
          have HS : Hid (s = l.getD k (0, 0, 0)) := hs
          clear hs
          have hsz := hbl.size
          cases hb : signB s.1 s.2.1 s.2.2
          · have HF : Hid (l.all sgB = false) := all_false_of l k hlt sgB (by rw [← HS.out]; exact hb)
            go_wp2_with (go_at_call 65; refine (l1Sign_is hb _).mono ?_; rintro e w1 ⟨rfl, hb1⟩)
            go_ret
            exact ⟨by rw [HF.out]; rfl, hbl.trans (hb1.mono hsz)⟩
          · go_wp2_with (go_at_call 65; refine (l1Sign_is hb _).mono ?_; rintro e w1 ⟨rfl, hb1⟩)
            go_roundw
            case rel => exact ⟨k + 1, by omega, by go_num, by rw [all_take_succ l k hlt, HA.out, ← HS.out]; exact hb, hbl.trans (hb1.mono hsz)⟩
            case measure => simp [intOf]; omega
        · go_wp2
          go_ret
          exact ⟨by have hh := HA.out; rw [List.take_of_length_le (by omega)] at hh; rw [hh]; rfl, hbl⟩

theorem specTextOk_is {a : Option Addr} {n cap : Nat} {l : List Sg} {w : World} {x : Bool} (h : Txt w a n cap l) (hx : textB l = x) :
    Calls Tryz.prog 45 #[.slice a n cap] w fun e w' => e = .returned (.bool x) ∧ Below w.heap.size w w' := hx ▸ specTextOk_any a n cap l w h

end Go.Proofs.YtccoeachemnbnaaGreatDoor
namespace Go.Proofs.YtccoeachemnbnaaGreatDoor
open Go.RowKit

theorem signOk_is {b i o : Int} {x : Bool} (h : signB b i o = x) (w : World) :
    Calls Tryz.prog 80 #[.agg #[.int .u8 b, .int .i64 i, .int .i64 o]] w fun e w' => e = .returned (.bool x) ∧ Below w.heap.size w w' := h ▸ signOk_any b i o w

set_option maxHeartbeats 1000000 in
theorem implTextOk_any (a : Option Addr) (n cap : Nat) (l : List Sg) (w : World) (h : Txt w a n cap l) :
    Calls Tryz.prog 62 #[.slice a n cap] w fun e w' => e = .returned (.bool (textB l)) ∧ Below w.heap.size w w' := by
  obtain ⟨rfl, hc, hm, hl⟩ := h
  unfold maxLen at hm
  by_cases h24 : 24 < l.length
  · have e : textB l = false := by simp [textB]; omega
    rw [e]
    go_enter Tryz.func62, Tryz.ntmps62
    go_wp2
    go_ret
    exact ⟨rfl, Below.refl _ _⟩
  · have h24' : decide ((24 : Int) < (l.length : Int)) = false := by simp; omega
    have HT : Hid (textB l = l.all sgB) := by
      show textB l = l.all sgB
      simp [textB]; omega
    rcases hl with rfl | ⟨b, off, rfl, hbw, hl⟩
    · rw [show textB [] = true from rfl]
      go_enter Tryz.func62, Tryz.ntmps62
      go_wp2
      refine wp_loop_rounds 1 ?_
      rw [rounds_succ]
      go_wp2
      go_ret
      exact ⟨rfl, Below.refl _ _⟩
    · rw [HT.out]
      clear HT
      go_enter Tryz.func62, Tryz.ntmps62
      go_wp2
      go_loopw [10] (fun i wr => ∃ k : Nat, k ≤ l.length ∧ i = .int .i64 k ∧ (l.take k).all sgB = true ∧ Below w.heap.size w wr) (fun i _ => l.length - (intOf i).toNat)
      case atStart => exact ⟨0, Nat.zero_le _, rfl, by simp, Below.refl _ _⟩
      case round =>
        obtain ⟨k, hk, rfl, hall, hbl⟩ := hrel
        have HA : Hid ((l.take k).all sgB = true) := hall
        clear hall
        by_cases hlt : k < l.length
        · obtain ⟨c0, c1, c2⟩ := (hl.below hbl hbw) k hlt
          clear hl
          obtain ⟨s, hs⟩ : ∃ s, s = l.getD k (0, 0, 0) := ⟨_, rfl⟩
          rw [← hs] at c0 c1 c2
          have HS : Hid (s = l.getD k (0, 0, 0)) := hs
          clear hs
          have hsz := hbl.size
          cases hb : signB s.1 s.2.1 s.2.2
          · have HF : Hid (l.all sgB = false) := all_false_of l k hlt sgB (by rw [← HS.out]; exact hb)
            go_wp2_with (go_at_call 80; refine (signOk_is hb _).mono ?_; rintro e w1 ⟨rfl, hb1⟩)
            go_ret
            exact ⟨by rw [HF.out]; rfl, (hbl.alloc hsz _).trans (hb1.mono (by simp; omega))⟩
          · go_wp2_with (go_at_call 80; refine (signOk_is hb _).mono ?_; rintro e w1 ⟨rfl, hb1⟩)
            go_roundw
            case rel => exact ⟨k + 1, by omega, by go_num, by rw [all_take_succ l k hlt, HA.out, ← HS.out]; exact hb, (hbl.alloc hsz _).trans (hb1.mono (by simp; omega))⟩
            case measure => simp [intOf]; omega
        · go_wp2
          go_ret
          exact ⟨by have hh := HA.out; rw [List.take_of_length_le (by omega)] at hh; rw [hh]; rfl, hbl⟩

end Go.Proofs.YtccoeachemnbnaaGreatDoor
namespace Go.Proofs.YtccoeachemnbnaaGreatDoor
open Go.ChangeShapes Go.WideShapes Go.ChangeAt Go.RowKit

theorem own : ownKnob Tryz.prog.godebug = none := by kernel_rfl
theorem laidOut : laidOutB Tryz.prog = true := by kernel_rfl

section
variable {H : Type} {enc : TypeId × Value → H} {P : Program} {w : World} {base : Nat} {spare : Nat → Bool} {held : Bool}

/-- A slice of signs that came in, opened: nil, or it reads as some signs. -/
theorem open_signs {t e : TypeId} {f0 f1 f2 : Field} {fuel : Nat} {cs : List Value} {x : DataW H × List MemPlace} (ht : P.underlying t = some (.slice e)) (he : P.underlying e = some (.struct #[f0, f1, f2]))
    (ce : P.cellsOf e = 3) (o0 : f0.offset = 0) (o1 : f1.offset = 1) (o2 : f2.offset = 2) (c0 : P.cellsOf f0.type = 1) (c1 : P.cellsOf f1.type = 1) (c2 : P.cellsOf f2.type = 1)
    (u0 : P.underlying f0.type = some (.int .u8)) (u1 : P.underlying f1.type = some (.int .i64)) (u2 : P.underlying f2.type = some (.int .i64))
    (h : DataW.trod enc P w base spare held fuel t cs = some x) :
    ∃ (a : Option Addr) (len cap : Nat) (l : List Sg), cs = [.slice a len cap] ∧ Txt w a len cap l := by
  rcases Go.Deep.open_slice ht h with ⟨rfl, _⟩ | ⟨a, len, cap, m, n, D, Pl, rfl, hb, hl, hm, hmm, rfl, hx⟩
  · exact ⟨none, 0, 0, [], rfl, rfl, Nat.le_refl _, Nat.zero_le _, .inl rfl⟩
  have hlm : len ≤ m := by rw [hmm]; split <;> omega
  have each : ∀ i, i < len → ∃ q : Sg, w.cell? (a.add (i * 3)) = some (.int .u8 q.1) ∧ w.cell? (a.add (i * 3 + 1)) = some (.int .i64 q.2.1) ∧ w.cell? (a.add (i * 3 + 2)) = some (.int .i64 q.2.2) := by
    intro i hi
    obtain ⟨cs', h1, h2⟩ := hx i (by omega)
    rw [ce] at h1
    obtain ⟨_, hlen, hcell⟩ := World.cells?_some h1
    obtain ⟨xs, k, hk, hxy, _, hxl, hf⟩ := DataW.trod_struct he h2
    match xs, hxl, cs', hlen with
    | [y0, y1, y2], _, [v0, v1, v2], _ =>
      have g0 := hf 0 f0 rfl
      have g1 := hf 1 f1 rfl
      have g2 := hf 2 f2 rfl
      simp [o0, o1, o2, c0, c1, c2] at g0 g1 g2
      have e0 := hcell 0 (by omega)
      have e1 := hcell 1 (by omega)
      have e2 := hcell 2 (by omega)
      rw [Go.Deep.add_add] at e0 e1 e2
      obtain ⟨n0, r0, _⟩ := DataW.trod_int u0 g0
      obtain ⟨n1, r1, _⟩ := DataW.trod_int u1 g1
      obtain ⟨n2, r2, _⟩ := DataW.trod_int u2 g2
      simp only [List.cons.injEq, and_true] at r0 r1 r2
      subst r0 r1 r2
      exact ⟨(n0, n1, n2), by simpa using e0, by simpa using e1, by simpa using e2⟩
  obtain ⟨q, hq⟩ := Go.Deep.choose_lt each
  refine ⟨some a, len, cap, (List.range len).map q, rfl, by simp, hl, hm, ?_⟩
  by_cases h0 : len = 0
  · subst h0; exact .inl (by simp)
  · obtain ⟨b, off, spot⟩ := a
    have hc := (hq 0 (by omega)).1
    have hspot : spot = none := by simpa [Addr.add] using World.cell?_spot hc
    subst hspot
    refine .inr ⟨b, off, rfl, by have := World.block_lt_of_cell? _ _ hc; simpa [Addr.add_lit] using this, ?_⟩
    intro k hk
    have hk' : k < len := by simpa using hk
    obtain ⟨a0, a1, a2⟩ := hq k hk'
    have e : ((List.range len).map q).getD k (0, 0, 0) = q k := by simp [List.getD, hk']
    rw [e]
    simp only [Addr.add_lit] at a0 a1 a2
    exact ⟨a0, by rw [Nat.add_assoc]; exact a1, by rw [Nat.add_assoc]; exact a2⟩
end
end Go.Proofs.YtccoeachemnbnaaGreatDoor
namespace Go.Proofs.YtccoeachemnbnaaGreatDoor
open Go.RowKit

/-- A cell: its row, its column, how far it goes down and to the right, its text. -/
abbrev Cl := Int × Int × Int × Int × List Sg
def cl0 : Cl := (0, 0, 0, 0, [])

/-- The cells of a table's cell at block b from o on. -/
def CellAt (w : World) (b o : Nat) (x : Cl) : Prop :=
  w.cell? ⟨b, o, none⟩ = some (.int .i64 x.1) ∧ w.cell? ⟨b, o + 1, none⟩ = some (.int .i64 x.2.1) ∧ w.cell? ⟨b, o + 2, none⟩ = some (.int .i64 x.2.2.1) ∧ w.cell? ⟨b, o + 3, none⟩ = some (.int .i64 x.2.2.2.1) ∧
    ∃ a n cap, w.cell? ⟨b, o + 4, none⟩ = some (.slice a n cap) ∧ Txt w a n cap x.2.2.2.2

/-- A slice value that reads as the cells l. -/
def Tab (w : World) (a : Option Addr) (n cap : Nat) (l : List Cl) : Prop :=
  n = l.length ∧ n ≤ cap ∧ cap ≤ maxLen ∧ (l = [] ∨ ∃ b off, a = some ⟨b, off, none⟩ ∧ b < w.heap.size ∧ ∀ k, k < l.length → CellAt w b (off + k * 5) (l.getD k cl0))

theorem CellAt.below {w w' : World} {b o : Nat} {x : Cl} (h : CellAt w b o x) (hb : Below w.heap.size w w') (hlt : b < w.heap.size) : CellAt w' b o x := by
  obtain ⟨h0, h1, h2, h3, a, n, cap, h4, ht⟩ := h
  exact ⟨(hb.cell (p := ⟨b, _, none⟩) hlt).trans h0, (hb.cell (p := ⟨b, _, none⟩) hlt).trans h1, (hb.cell (p := ⟨b, _, none⟩) hlt).trans h2, (hb.cell (p := ⟨b, _, none⟩) hlt).trans h3, a, n, cap, (hb.cell (p := ⟨b, _, none⟩) hlt).trans h4, ht.below hb⟩
theorem Tab.below {w w' : World} {a : Option Addr} {n cap : Nat} {l : List Cl} (h : Tab w a n cap l) (hb : Below w.heap.size w w') : Tab w' a n cap l := by
  obtain ⟨h1, h2, h3, h4⟩ := h
  refine ⟨h1, h2, h3, ?_⟩
  rcases h4 with h4 | ⟨b, off, h5, h6, h7⟩
  · exact .inl h4
  · exact .inr ⟨b, off, h5, Nat.lt_of_lt_of_le h6 hb.size, fun k hk => (h7 k hk).below hb h6⟩

def inB (x : Cl) (r c : Int) : Bool := decide (x.1 ≤ r ∧ r < x.1 + x.2.2.1 ∧ x.2.1 ≤ c ∧ c < x.2.1 + x.2.2.2.1)
/-- Numbers that no sum of two takes out of range. -/
def sml (n : Int) : Prop := -1000000 ≤ n ∧ n ≤ 1000000

set_option maxHeartbeats 1000000 in
theorem l2In_any (r c d h : Int) (ta : Option Addr) (tn tc : Nat) (a b : Int) (w : World) (hr : sml r) (hc : sml c) (hd : sml d) (hh : sml h) :
    Calls Tryz.prog 83 #[.agg #[.int .i64 r, .int .i64 c, .int .i64 d, .int .i64 h, .slice ta tn tc], .int .i64 a, .int .i64 b] w fun e w' => e = .returned (.bool (inB (r, c, d, h, []) a b)) ∧ Below w.heap.size w w' := by
  obtain ⟨r0, r1⟩ := hr
  obtain ⟨c0, c1⟩ := hc
  obtain ⟨d0, d1⟩ := hd
  obtain ⟨e0, e1⟩ := hh
  go_enter Tryz.func83, Tryz.ntmps83
  go_wp2
  all_goals go_ret
  all_goals refine ⟨congrArg (fun x => Ending.returned (.bool x)) ?_, (Below.refl _ _).alloc (Nat.le_refl _) _⟩
  all_goals show _ = decide (r ≤ a ∧ a < r + d ∧ c ≤ b ∧ b < c + h)
  all_goals first | exact decide_eq_decide.2 (by omega) | exact (decide_eq_false (by omega)).symm

/-- A cell in form, in a table of so many rows and columns. -/
def cellB (R C : Int) (x : Cl) : Bool := decide (0 ≤ x.1 ∧ x.1 ≤ R - 1) && decide (0 ≤ x.2.1 ∧ x.2.1 ≤ C - 1) && decide (1 ≤ x.2.2.1 ∧ x.2.2.1 ≤ R - x.1) && decide (1 ≤ x.2.2.2.1 ∧ x.2.2.2.1 ≤ C - x.2.1) && textB x.2.2.2.2
/-- One cell ahead of another. -/
def ahead (x y : Cl) : Bool := decide (x.1 < y.1 ∨ x.1 = y.1 ∧ x.2.1 < y.2.1)
/-- The cell at k in form, and behind the one ahead of it. -/
def atB (R C : Int) (l : List Cl) (k : Nat) : Bool := cellB R C (l.getD k cl0) && (decide (k = 0) || ahead (l.getD (k - 1) cl0) (l.getD k cl0))
def tabV (R C : Int) (a : Option Addr) (n cap : Nat) : Value := .agg #[.int .i64 R, .int .i64 C, .slice a n cap]
def formB (R C : Int) (l : List Cl) : Bool := decide (1 ≤ R ∧ R ≤ 5) && decide (1 ≤ C ∧ C ≤ 5) && decide (l.length ≤ 25) && (List.range l.length).all (atB R C l)

theorem formB_0 {R C : Int} {l : List Cl} (h : decide (1 ≤ R ∧ R ≤ 5) = false) : formB R C l = false := by simp [formB, h]
theorem formB_1 {R C : Int} {l : List Cl} (h : decide (1 ≤ C ∧ C ≤ 5) = false) : formB R C l = false := by simp [formB, h]
theorem formB_2 {R C : Int} {l : List Cl} (h : ¬ l.length ≤ 25) : formB R C l = false := by simp [formB, h]
theorem formB_3 {R C : Int} {l : List Cl} (h0 : decide (1 ≤ R ∧ R ≤ 5) = true) (h1 : decide (1 ≤ C ∧ C ≤ 5) = true) (h2 : l.length ≤ 25) : formB R C l = (List.range l.length).all (atB R C l) := by simp only [formB, h0, h1, h2, decide_true, Bool.true_and]
theorem range_all_succ (n : Nat) (p : Nat → Bool) : (List.range (n + 1)).all p = ((List.range n).all p && p n) := by simp [List.range_succ]
theorem range_all_false {n k : Nat} {p : Nat → Bool} (hk : k < n) (h : p k = false) : (List.range n).all p = false := by
  rw [← Bool.not_eq_true, List.all_eq_true]
  intro hh
  rw [hh k (by simpa using hk)] at h
  exact absurd h (by simp)

set_option maxRecDepth 100000 in
set_option maxHeartbeats 4000000 in
theorem l2Form_any (R C : Int) (a : Option Addr) (n cap : Nat) (l : List Cl) (w : World) (h : Tab w a n cap l) :
    Calls Tryz.prog 82 #[.agg #[.int .i64 R, .int .i64 C, .slice a n cap]] w fun e w' => e = .returned (.bool (formB R C l)) ∧ Below w.heap.size w w' := by
  obtain ⟨rfl, hc, hm, hl⟩ := h
  unfold maxLen at hm
  cases h0 : decide (1 ≤ R ∧ R ≤ 5)
  · rw [formB_0 h0]
    have H0 : Hid (decide (1 ≤ R ∧ R ≤ 5) = false) := h0
    clear h0
    go_enter Tryz.func82, Tryz.ntmps82
    go_wp2_with (go_at_call 26; refine (l6In_of H0.out _).mono ?_; rintro e w1 ⟨rfl, rfl⟩)
    go_ret
    exact ⟨rfl, (Below.refl _ _).alloc (Nat.le_refl _) _⟩
  cases h1 : decide (1 ≤ C ∧ C ≤ 5)
  · rw [formB_1 h1]
    have H0 : Hid (decide (1 ≤ R ∧ R ≤ 5) = true) := h0
    have H1 : Hid (decide (1 ≤ C ∧ C ≤ 5) = false) := h1
    clear h0 h1
    go_enter Tryz.func82, Tryz.ntmps82
    go_wp2_with (first | (go_at_call_of 26 (Value.int IntKind.i64 R); refine (l6In_of H0.out _).mono ?_; rintro e w1 ⟨rfl, rfl⟩) | (go_at_call_of 26 (Value.int IntKind.i64 C); refine (l6In_of H1.out _).mono ?_; rintro e w1 ⟨rfl, rfl⟩))
    go_ret
    exact ⟨rfl, (Below.refl _ _).alloc (Nat.le_refl _) _⟩
  by_cases h2 : l.length ≤ 25
  · rw [formB_3 h0 h1 h2]
    have hR := of_decide_eq_true h0
    have hC := of_decide_eq_true h1
    have H0 : Hid (decide (1 ≤ R ∧ R ≤ 5) = true) := h0
    have H1 : Hid (decide (1 ≤ C ∧ C ≤ 5) = true) := h1
    have H2 : decide ((25 : Int) < (l.length : Int)) = false := by simp; omega
    clear h0 h1
    go_enter Tryz.func82, Tryz.ntmps82
    go_wp2_with (first | (go_at_call_of 26 (Value.int IntKind.i64 R); refine (l6In_of H0.out _).mono ?_; rintro e w1 ⟨rfl, rfl⟩) | (go_at_call_of 26 (Value.int IntKind.i64 C); refine (l6In_of H1.out _).mono ?_; rintro e w1 ⟨rfl, rfl⟩))
    rcases hl with rfl | ⟨b, off, rfl, hbw, hl⟩
    · refine wp_loop_rounds 1 ?_
      rw [rounds_succ]
      go_wp2_with fail
      go_ret
      exact ⟨rfl, (Below.refl _ _).alloc (Nat.le_refl _) _⟩
    have B0 : Below w.heap.size w (w.alloc (Obj.cells #[.int .i64 R, .int .i64 C, .slice (some ⟨b, off, none⟩) l.length cap] 54)) := (Below.refl _ _).alloc (Nat.le_refl _) _
    have k0 : (w.alloc (Obj.cells #[.int .i64 R, .int .i64 C, .slice (some ⟨b, off, none⟩) l.length cap] 54)).cell? ⟨w.heap.size, 0, none⟩ = some (.int .i64 R) := by simp
    have k1 : (w.alloc (Obj.cells #[.int .i64 R, .int .i64 C, .slice (some ⟨b, off, none⟩) l.length cap] 54)).cell? ⟨w.heap.size, 1, none⟩ = some (.int .i64 C) := by simp
    have k2 : (w.alloc (Obj.cells #[.int .i64 R, .int .i64 C, .slice (some ⟨b, off, none⟩) l.length cap] 54)).cell? ⟨w.heap.size, 2, none⟩ = some (.slice (some ⟨b, off, none⟩) l.length cap) := by simp
    have z0 : w.heap.size < (w.alloc (Obj.cells #[.int .i64 R, .int .i64 C, .slice (some ⟨b, off, none⟩) l.length cap] 54)).heap.size := by simp
    generalize (w.alloc (Obj.cells #[.int .i64 R, .int .i64 C, .slice (some ⟨b, off, none⟩) l.length cap] 54)) = v at B0 k0 k1 k2 z0 ⊢
    go_loopw [3] (fun i wr => ∃ k : Nat, k ≤ l.length ∧ i = .int .i64 k ∧ (List.range k).all (atB R C l) = true ∧ Below v.heap.size v wr) (fun i _ => l.length - (intOf i).toNat)
    case atStart => exact ⟨0, Nat.zero_le _, rfl, by simp, Below.refl _ _⟩
    case round =>
      obtain ⟨k, hk, rfl, hall, hbl⟩ := hrel
      have HA : Hid ((List.range k).all (atB R C l) = true) := hall
      clear hall
      have HB : Hid (Below w.heap.size w wr) := B0.trans (hbl.mono (Nat.le_of_lt z0))
      have HVr : Hid (Below v.heap.size v wr) := hbl
      have j0 := (hbl.cell (p := ⟨w.heap.size, 0, none⟩) z0).trans k0
      have j1 := (hbl.cell (p := ⟨w.heap.size, 1, none⟩) z0).trans k1
      have j2 := (hbl.cell (p := ⟨w.heap.size, 2, none⟩) z0).trans k2
      have hsz : w.heap.size < wr.heap.size := Nat.lt_of_lt_of_le z0 hbl.size
      clear k0 k1 k2 B0 hbl z0
      by_cases hlt : k < l.length
      · obtain ⟨c0, c1, c2, c3, ta, tn, tc, c4, ht⟩ := (hl k hlt).below HB.out hbw
        obtain ⟨⟨r, c, d, g, t⟩, hx⟩ : ∃ x, x = l.getD k cl0 := ⟨_, rfl⟩
        rw [← hx] at c0 c1 c2 c3 ht
        simp only at c0 c1 c2 c3 ht
        have HX : Hid ((r, c, d, g, t) = l.getD k cl0) := hx
        have HT : Hid (Txt wr ta tn tc t) := ht
        have HL : Hid (∀ k, k < l.length → CellAt w b (off + k * 5) (l.getD k cl0)) := hl
        clear hl hx ht
        cases q0 : decide (0 ≤ r ∧ r ≤ R - 1)
        · have HF : Hid ((List.range l.length).all (atB R C l) = false) := range_all_false hlt (by simp only [atB, ← HX.out, cellB, q0, Bool.false_and])
          have Q0 : Hid (decide (0 ≤ r ∧ r ≤ R - 1) = false) := q0
          clear q0
          go_wp2_with (first | (go_at_call_of 26 (Value.int IntKind.i64 r); refine (l6In_of Q0.out _).mono ?_; rintro e w1 ⟨rfl, rfl⟩))
          go_ret
          exact ⟨by rw [HF.out]; rfl, HB.out.alloc (Nat.le_of_lt hsz) _⟩
        have o0 := of_decide_eq_true q0
        have Q0 : Hid (decide (0 ≤ r ∧ r ≤ R - 1) = true) := q0
        cases q1 : decide (0 ≤ c ∧ c ≤ C - 1)
        · have HF : Hid ((List.range l.length).all (atB R C l) = false) := range_all_false hlt (by simp only [atB, ← HX.out, cellB, q0, q1, Bool.false_and, Bool.true_and])
          have Q1 : Hid (decide (0 ≤ c ∧ c ≤ C - 1) = false) := q1
          clear q0 q1
          go_wp2_with (first | (go_at_call_of 26 (Value.int IntKind.i64 r); refine (l6In_of Q0.out _).mono ?_; rintro e w1 ⟨rfl, rfl⟩) | (go_at_call_of 26 (Value.int IntKind.i64 c); refine (l6In_of Q1.out _).mono ?_; rintro e w1 ⟨rfl, rfl⟩))
          go_ret
          exact ⟨by rw [HF.out]; rfl, HB.out.alloc (Nat.le_of_lt hsz) _⟩
        have o1 := of_decide_eq_true q1
        have Q1 : Hid (decide (0 ≤ c ∧ c ≤ C - 1) = true) := q1
        cases q2 : decide (1 ≤ d ∧ d ≤ R - r)
        · have HF : Hid ((List.range l.length).all (atB R C l) = false) := range_all_false hlt (by simp only [atB, ← HX.out, cellB, q0, q1, q2, Bool.false_and, Bool.true_and])
          have Q2 : Hid (decide (1 ≤ d ∧ d ≤ R - r) = false) := q2
          clear q0 q1 q2
          go_wp2_with (first | (go_at_call_of 26 (Value.int IntKind.i64 r); refine (l6In_of Q0.out _).mono ?_; rintro e w1 ⟨rfl, rfl⟩) | (go_at_call_of 26 (Value.int IntKind.i64 c); refine (l6In_of Q1.out _).mono ?_; rintro e w1 ⟨rfl, rfl⟩) | (go_at_call_of 26 (Value.int IntKind.i64 d); refine (l6In_of Q2.out _).mono ?_; rintro e w1 ⟨rfl, rfl⟩))
          go_ret
          exact ⟨by rw [HF.out]; rfl, HB.out.alloc (Nat.le_of_lt hsz) _⟩
        have o2 := of_decide_eq_true q2
        have Q2 : Hid (decide (1 ≤ d ∧ d ≤ R - r) = true) := q2
        cases q3 : decide (1 ≤ g ∧ g ≤ C - c)
        · have HF : Hid ((List.range l.length).all (atB R C l) = false) := range_all_false hlt (by simp only [atB, ← HX.out, cellB, q0, q1, q2, q3, Bool.false_and, Bool.true_and])
          have Q3 : Hid (decide (1 ≤ g ∧ g ≤ C - c) = false) := q3
          clear q0 q1 q2 q3
          go_wp2_with (first | (go_at_call_of 26 (Value.int IntKind.i64 r); refine (l6In_of Q0.out _).mono ?_; rintro e w1 ⟨rfl, rfl⟩) | (go_at_call_of 26 (Value.int IntKind.i64 c); refine (l6In_of Q1.out _).mono ?_; rintro e w1 ⟨rfl, rfl⟩) | (go_at_call_of 26 (Value.int IntKind.i64 d); refine (l6In_of Q2.out _).mono ?_; rintro e w1 ⟨rfl, rfl⟩) | (go_at_call_of 26 (Value.int IntKind.i64 g); refine (l6In_of Q3.out _).mono ?_; rintro e w1 ⟨rfl, rfl⟩))
          go_ret
          exact ⟨by rw [HF.out]; rfl, HB.out.alloc (Nat.le_of_lt hsz) _⟩
        have o3 := of_decide_eq_true q3
        have Q3 : Hid (decide (1 ≤ g ∧ g ≤ C - c) = true) := q3
        cases q4 : textB t
        · have HF : Hid ((List.range l.length).all (atB R C l) = false) := range_all_false hlt (by simp only [atB, ← HX.out, cellB, q0, q1, q2, q3, q4, Bool.false_and, Bool.true_and])
          have Q4 : Hid (textB t = false) := q4
          clear q0 q1 q2 q3 q4
          go_wp2_with (first | (go_at_call_of 26 (Value.int IntKind.i64 r); refine (l6In_of Q0.out _).mono ?_; rintro e w1 ⟨rfl, rfl⟩) | (go_at_call_of 26 (Value.int IntKind.i64 c); refine (l6In_of Q1.out _).mono ?_; rintro e w1 ⟨rfl, rfl⟩) | (go_at_call_of 26 (Value.int IntKind.i64 d); refine (l6In_of Q2.out _).mono ?_; rintro e w1 ⟨rfl, rfl⟩) | (go_at_call_of 26 (Value.int IntKind.i64 g); refine (l6In_of Q3.out _).mono ?_; rintro e w1 ⟨rfl, rfl⟩) | (go_at_call 45; refine (specTextOk_is (HT.out.below ((Below.refl _ _).alloc (Nat.le_refl _) _)) Q4.out).mono ?_; rintro e w2 ⟨rfl, hb2⟩))
          go_ret
          exact ⟨by rw [HF.out]; rfl, (HB.out.alloc (Nat.le_of_lt hsz) _).trans (hb2.mono (by simp; omega))⟩
        have Q4 : Hid (textB t = true) := q4
        have HC : Hid (cellB R C (l.getD k cl0) = true) := by
          show cellB R C (l.getD k cl0) = true
          simp only [← HX.out, cellB, q0, q1, q2, q3, q4, Bool.true_and]
        clear q0 q1 q2 q3 q4
        go_wp2_with (first | (go_at_call_of 26 (Value.int IntKind.i64 r); refine (l6In_of Q0.out _).mono ?_; rintro e w1 ⟨rfl, rfl⟩) | (go_at_call_of 26 (Value.int IntKind.i64 c); refine (l6In_of Q1.out _).mono ?_; rintro e w1 ⟨rfl, rfl⟩) | (go_at_call_of 26 (Value.int IntKind.i64 d); refine (l6In_of Q2.out _).mono ?_; rintro e w1 ⟨rfl, rfl⟩) | (go_at_call_of 26 (Value.int IntKind.i64 g); refine (l6In_of Q3.out _).mono ?_; rintro e w1 ⟨rfl, rfl⟩) | (go_at_call 45; refine (specTextOk_is (HT.out.below ((Below.refl _ _).alloc (Nat.le_refl _) _)) Q4.out).mono ?_; rintro e w2 ⟨rfl, hb2⟩))
        have bA : Below wr.heap.size wr (wr.alloc (Obj.cells #[.int .i64 r, .int .i64 c, .int .i64 d, .int .i64 g, .slice ta tn tc] 86)) := (Below.refl _ _).alloc (Nat.le_refl _) _
        have b2 : Below wr.heap.size wr w2 := bA.trans (hb2.mono (by simp))
        have d0 : w2.cell? ⟨wr.heap.size, 0, none⟩ = some (.int .i64 r) := (hb2.cell (p := ⟨wr.heap.size, 0, none⟩) (by simp)).trans (by simp)
        have d1 : w2.cell? ⟨wr.heap.size, 1, none⟩ = some (.int .i64 c) := (hb2.cell (p := ⟨wr.heap.size, 1, none⟩) (by simp)).trans (by simp)
        have t2 := (b2.cell (p := ⟨w.heap.size, 2, none⟩) hsz).trans j2
        have HB2 : Hid (Below w.heap.size w w2) := HB.out.trans (b2.mono (Nat.le_of_lt hsz))
        have HV : Hid (Below v.heap.size v w2) := HVr.out.trans (b2.mono HVr.out.size)
        clear bA b2 hb2 c0 c1 c2 c3 c4 j0 j1 j2 o0 o1 o2 o3
        by_cases hk0 : k = 0
        · subst hk0
          go_quiet (fail)
          go_wp2_with fail
          go_roundw
          case rel => exact ⟨1, by omega, by go_num, by rw [range_all_succ, HA.out]; simp only [atB, HC.out]; rfl, below_drewN HV.out _⟩
          case measure => simp [intOf]; omega
        have hz : 0 < k := by omega
        obtain ⟨j, hj, hjl, hk1, HJ⟩ : ∃ j : Nat, Hid (k - 1 = j) ∧ j < l.length ∧ ((k : Int) - 1) = (j : Int) ∧ Hid (k = j + 1) := ⟨k - 1, rfl, by omega, by omega, show k = k - 1 + 1 from by omega⟩
        obtain ⟨e0, e1, -⟩ := (HL.out j hjl).below HB2.out hbw
        obtain ⟨⟨r', c', y⟩, hy⟩ : ∃ x, x = l.getD j cl0 := ⟨_, rfl⟩
        rw [← hy] at e0 e1
        simp only at e0 e1
        have HY : Hid ((r', c', y) = l.getD j cl0) := hy
        clear hy hk0
        have HAt : Hid (atB R C l k = ahead (r', c', y) (r, c, d, g, t)) := by
          show atB R C l k = _
          have n0 : decide (k = 0) = false := decide_eq_false (by omega)
          unfold atB
          rw [HC.out, hj.out, ← HX.out, ← HY.out, n0]
          rfl
        rcases (show (r < r') ∨ (r' < r) ∨ (r' = r ∧ c ≤ c') ∨ (r' = r ∧ c' < c) from by omega) with m0 | m0 | ⟨m0, m1⟩ | ⟨m0, m1⟩
        · have HF : Hid ((List.range l.length).all (atB R C l) = false) := range_all_false hlt (by rw [HAt.out]; exact decide_eq_false (by simp only; omega))
          go_quiet (fail)
          go_wp2_with fail
          go_ret
          exact ⟨by rw [HF.out]; rfl, below_drewN HB2.out _⟩
        · have n1 : ¬ r < r' := by omega
          have n2 : (r' == r) = false := by simp; omega
          have HG : Hid (atB R C l k = true) := HAt.out.trans (decide_eq_true (by simp only; omega))
          go_quiet (fail)
          go_wp2_with fail
          go_roundw
          case rel => exact ⟨k + 1, by omega, by go_num, by rw [range_all_succ, HA.out, HG.out]; rfl, below_drewN HV.out _⟩
          case measure => simp [intOf]; omega
        · have HF : Hid ((List.range l.length).all (atB R C l) = false) := range_all_false hlt (by rw [HAt.out]; exact decide_eq_false (by simp only; omega))
          subst m0
          go_quiet (fail)
          go_wp2_with fail
          go_ret
          exact ⟨by rw [HF.out]; rfl, below_drewN HB2.out _⟩
        · have HG : Hid (atB R C l k = true) := HAt.out.trans (decide_eq_true (by simp only; omega))
          subst m0
          have n3 : ¬ c ≤ c' := by omega
          go_quiet (fail)
          go_wp2_with fail
          go_roundw
          case rel => exact ⟨k + 1, by omega, by go_num, by rw [range_all_succ, HA.out, HG.out]; rfl, below_drewN HV.out _⟩
          case measure => simp [intOf]; omega
      · go_wp2_with fail
        go_ret
        exact ⟨by have hh := HA.out; rw [show k = l.length from by omega] at hh; rw [hh]; rfl, HB.out⟩
  · rw [formB_2 h2]
    have H0 : Hid (decide (1 ≤ R ∧ R ≤ 5) = true) := h0
    have H1 : Hid (decide (1 ≤ C ∧ C ≤ 5) = true) := h1
    have H2 : (25 : Int) < (l.length : Int) := by omega
    clear h0 h1
    go_enter Tryz.func82, Tryz.ntmps82
    go_wp2_with (first | (go_at_call_of 26 (Value.int IntKind.i64 R); refine (l6In_of H0.out _).mono ?_; rintro e w1 ⟨rfl, rfl⟩) | (go_at_call_of 26 (Value.int IntKind.i64 C); refine (l6In_of H1.out _).mono ?_; rintro e w1 ⟨rfl, rfl⟩))
    go_ret
    exact ⟨rfl, (Below.refl _ _).alloc (Nat.le_refl _) _⟩
end Go.Proofs.YtccoeachemnbnaaGreatDoor
namespace Go.Proofs.YtccoeachemnbnaaGreatDoor
open Go.ChangeShapes Go.WideShapes Go.ChangeAt Go.RowKit

section
variable {H : Type} {enc : TypeId × Value → H} {w : World} {base : Nat} {spare : Nat → Bool} {held : Bool}
set_option maxRecDepth 100000 in
theorem cellsInt : Tryz.prog.cellsOf 3 = 1 := by kernel_rfl
set_option maxRecDepth 100000 in
theorem cellsSlS : Tryz.prog.cellsOf 88 = 1 := by kernel_rfl
set_option maxRecDepth 100000 in
theorem cellsSlC : Tryz.prog.cellsOf 89 = 1 := by kernel_rfl
set_option maxRecDepth 100000 in
theorem cellsCell : Tryz.prog.cellsOf 161 = 5 := by kernel_rfl
set_option maxRecDepth 100000 in
theorem cellsTable : Tryz.prog.cellsOf 91 = 3 := by kernel_rfl

set_option maxRecDepth 100000 in
theorem open_text {fuel : Nat} {cs : List Value} {x : DataW H × List MemPlace} (h : DataW.trod enc Tryz.prog w base spare held fuel 88 cs = some x) :
    ∃ (a : Option Addr) (len cap : Nat) (l : List Sg), cs = [.slice a len cap] ∧ Txt w a len cap l :=
  open_signs Tryz.underlying88 Tryz.underlying148 (by kernel_rfl) rfl rfl rfl (by kernel_rfl) (by kernel_rfl) (by kernel_rfl) Tryz.underlying5 Tryz.underlying3 Tryz.underlying3 h

set_option maxRecDepth 100000 in
/-- A slice of cells that came in, opened. -/
theorem open_cells {fuel : Nat} {cs : List Value} {x : DataW H × List MemPlace} (h : DataW.trod enc Tryz.prog w base spare held fuel 89 cs = some x) :
    ∃ (a : Option Addr) (len cap : Nat) (l : List Cl), cs = [.slice a len cap] ∧ Tab w a len cap l := by
  rcases Go.Deep.open_slice Tryz.underlying89 h with ⟨rfl, _⟩ | ⟨a, len, cap, m, n, D, Pl, rfl, hb, hl, hm, hmm, rfl, hx⟩
  · exact ⟨none, 0, 0, [], rfl, rfl, Nat.le_refl _, Nat.zero_le _, .inl rfl⟩
  have hlm : len ≤ m := by rw [hmm]; split <;> omega
  have each : ∀ i, i < len → ∃ q : Cl, w.cell? (a.add (i * 5)) = some (.int .i64 q.1) ∧ w.cell? (a.add (i * 5 + 1)) = some (.int .i64 q.2.1) ∧ w.cell? (a.add (i * 5 + 2)) = some (.int .i64 q.2.2.1) ∧ w.cell? (a.add (i * 5 + 3)) = some (.int .i64 q.2.2.2.1) ∧
      ∃ a' n' cap', w.cell? (a.add (i * 5 + 4)) = some (.slice a' n' cap') ∧ Txt w a' n' cap' q.2.2.2.2 := by
    intro i hi
    obtain ⟨cs', h1, h2⟩ := hx i (by omega)
    rw [cellsCell] at h1
    obtain ⟨_, hlen, hcell⟩ := World.cells?_some h1
    obtain ⟨xs, k, hk, hxy, _, hxl, hf⟩ := DataW.trod_struct Tryz.underlying161 h2
    match xs, hxl, cs', hlen with
    | [y0, y1, y2, y3, y4], _, [v0, v1, v2, v3, v4], _ =>
      have g0 := hf 0 _ rfl
      have g1 := hf 1 _ rfl
      have g2 := hf 2 _ rfl
      have g3 := hf 3 _ rfl
      have g4 := hf 4 _ rfl
      simp [cellsInt, cellsSlS] at g0 g1 g2 g3 g4
      have e0 := hcell 0 (by omega)
      have e1 := hcell 1 (by omega)
      have e2 := hcell 2 (by omega)
      have e3 := hcell 3 (by omega)
      have e4 := hcell 4 (by omega)
      rw [Go.Deep.add_add] at e0 e1 e2 e3 e4
      obtain ⟨n0, r0, _⟩ := DataW.trod_int Tryz.underlying3 g0
      obtain ⟨n1, r1, _⟩ := DataW.trod_int Tryz.underlying3 g1
      obtain ⟨n2, r2, _⟩ := DataW.trod_int Tryz.underlying3 g2
      obtain ⟨n3, r3, _⟩ := DataW.trod_int Tryz.underlying3 g3
      obtain ⟨a', n', cap', l', r4, ht⟩ := open_text g4
      simp only [List.cons.injEq, and_true] at r0 r1 r2 r3 r4
      subst r0 r1 r2 r3 r4
      exact ⟨(n0, n1, n2, n3, l'), by simpa using e0, by simpa using e1, by simpa using e2, by simpa using e3, a', n', cap', by simpa using e4, ht⟩
  obtain ⟨q, hq⟩ := Go.Deep.choose_lt each
  refine ⟨some a, len, cap, (List.range len).map q, rfl, by simp, hl, hm, ?_⟩
  by_cases h0 : len = 0
  · subst h0; exact .inl (by simp)
  · obtain ⟨b, off, spot⟩ := a
    have hc := (hq 0 (by omega)).1
    have hspot : spot = none := by simpa [Addr.add] using World.cell?_spot hc
    subst hspot
    refine .inr ⟨b, off, rfl, by have := World.block_lt_of_cell? _ _ hc; simpa [Addr.add_lit] using this, ?_⟩
    intro k hk
    have hk' : k < len := by simpa using hk
    obtain ⟨a0, a1, a2, a3, a', n', cap', a4, ht⟩ := hq k hk'
    have e : ((List.range len).map q).getD k cl0 = q k := by simp [List.getD, hk']
    rw [e]
    simp only [Addr.add_lit] at a0 a1 a2 a3 a4
    exact ⟨a0, by rw [Nat.add_assoc]; exact a1, by rw [Nat.add_assoc]; exact a2, by rw [Nat.add_assoc]; exact a3, a', n', cap', by rw [Nat.add_assoc]; exact a4, ht⟩
set_option maxRecDepth 100000 in
/-- A table that came in, opened. -/
theorem open_table {fuel : Nat} {cs : List Value} {x : DataW H × List MemPlace} (h : DataW.trod enc Tryz.prog w base spare held fuel 91 cs = some x) :
    ∃ (R C : Int) (a : Option Addr) (len cap : Nat) (l : List Cl), cs = [.int .i64 R, .int .i64 C, .slice a len cap] ∧ Tab w a len cap l := by
  obtain ⟨xs, k, hk, hxy, hcl, hxl, hf⟩ := DataW.trod_struct Tryz.underlying91 h
  rw [cellsTable] at hcl
  match xs, hxl, cs, hcl with
  | [y0, y1, y2], _, [v0, v1, v2], _ =>
    have g0 := hf 0 _ rfl
    have g1 := hf 1 _ rfl
    have g2 := hf 2 _ rfl
    simp [cellsInt, cellsSlC] at g0 g1 g2
    obtain ⟨n0, r0, _⟩ := DataW.trod_int Tryz.underlying3 g0
    obtain ⟨n1, r1, _⟩ := DataW.trod_int Tryz.underlying3 g1
    obtain ⟨a', n', cap', l', r2, ht⟩ := open_cells g2
    simp only [List.cons.injEq, and_true] at r0 r1 r2
    subst r0 r1 r2
    exact ⟨n0, n1, a', n', cap', l', rfl, ht⟩
end
end Go.Proofs.YtccoeachemnbnaaGreatDoor
namespace Go.Proofs.YtccoeachemnbnaaGreatDoor
open Go.RowKit

theorem formB_of {R C : Int} {l : List Cl} (h : formB R C l = true) : (1 ≤ R ∧ R ≤ 5) ∧ (1 ≤ C ∧ C ≤ 5) ∧ l.length ≤ 25 ∧ ∀ k, k < l.length → atB R C l k = true := by
  simp only [formB, Bool.and_eq_true, decide_eq_true_eq, List.all_eq_true, List.mem_range] at h
  obtain ⟨⟨⟨h0, h1⟩, h2⟩, h3⟩ := h
  exact ⟨h0, h1, h2, h3⟩
theorem cellB_of {R C : Int} {x : Cl} (h : cellB R C x = true) : (0 ≤ x.1 ∧ x.1 ≤ R - 1) ∧ (0 ≤ x.2.1 ∧ x.2.1 ≤ C - 1) ∧ (1 ≤ x.2.2.1 ∧ x.2.2.1 ≤ R - x.1) ∧ (1 ≤ x.2.2.2.1 ∧ x.2.2.2.1 ≤ C - x.2.1) ∧ textB x.2.2.2.2 = true := by
  simp only [cellB, Bool.and_eq_true, decide_eq_true_eq] at h
  obtain ⟨⟨⟨⟨h0, h1⟩, h2⟩, h3⟩, h4⟩ := h
  exact ⟨h0, h1, h2, h3, h4⟩
theorem atB_cell {R C : Int} {l : List Cl} {k : Nat} (h : atB R C l k = true) : cellB R C (l.getD k cl0) = true := by
  simp only [atB, Bool.and_eq_true] at h
  exact h.1

/-- How many of the cells a square is of. -/
def cnt (l : List Cl) (r c : Int) : Nat := l.countP fun x => inB x r c
def colB (C : Int) (l : List Cl) (r : Nat) : Bool := (List.range C.toNat).all fun c => decide (cnt l r c = 1)
def okB (R C : Int) (l : List Cl) : Bool := formB R C l && (List.range R.toNat).all (colB C l)
theorem cnt_take_succ (l : List Cl) (r c : Int) (k : Nat) (hk : k < l.length) : cnt (l.take (k + 1)) r c = cnt (l.take k) r c + (inB (l.getD k cl0) r c).toNat := by
  have e : l.getD k cl0 = l[k] := by simp [List.getD, hk]
  unfold cnt
  rw [e, List.take_succ_eq_append_getElem hk, List.countP_append]
  cases h : inB l[k] r c <;> simp [h]
theorem cnt_le (l : List Cl) (r c : Int) : cnt l r c ≤ l.length := List.countP_le_length

theorem l2In_is {r c d h : Int} {t : List Sg} {a b : Int} {z : Bool} (hz : inB (r, c, d, h, t) a b = z) (ta : Option Addr) (tn tc : Nat) (w : World) (hr : sml r) (hc : sml c) (hd : sml d) (hh : sml h) :
    Calls Tryz.prog 83 #[.agg #[.int .i64 r, .int .i64 c, .int .i64 d, .int .i64 h, .slice ta tn tc], .int .i64 a, .int .i64 b] w fun e w' => e = .returned (.bool z) ∧ Below w.heap.size w w' := by
  subst hz
  exact l2In_any r c d h ta tn tc a b w hr hc hd hh
theorem l2Form_is {R C : Int} {a : Option Addr} {n cap : Nat} {l : List Cl} {w : World} {x : Bool} (hx : formB R C l = x) (h : Tab w a n cap l) :
    Calls Tryz.prog 82 #[.agg #[.int .i64 R, .int .i64 C, .slice a n cap]] w fun e w' => e = .returned (.bool x) ∧ Below w.heap.size w w' := hx ▸ l2Form_any R C a n cap l w h

set_option maxRecDepth 100000 in
set_option maxHeartbeats 4000000 in
theorem specTableOk_any (R C : Int) (a : Option Addr) (n cap : Nat) (l : List Cl) (w : World) (h : Tab w a n cap l) :
    Calls Tryz.prog 67 #[.agg #[.int .i64 R, .int .i64 C, .slice a n cap]] w fun e w' => e = .returned (.bool (okB R C l)) ∧ Below w.heap.size w w' := by
  have H : Hid (Tab w a n cap l) := h
  obtain ⟨rfl, hc, hm, hl⟩ := h
  unfold maxLen at hm
  cases hf : formB R C l
  · rw [show okB R C l = false from by simp only [okB, hf, Bool.false_and]]
    have HF : Hid (formB R C l = false) := hf
    clear hf hl
    go_enter Tryz.func67, Tryz.ntmps67
    go_wp2_with (go_at_call 82; refine (l2Form_is HF.out (H.out.below ((Below.refl _ _).alloc (Nat.le_refl _) _))).mono ?_; rintro e w1 ⟨rfl, hb1⟩)
    go_ret
    exact ⟨rfl, ((Below.refl _ _).alloc (Nat.le_refl _) _).trans (hb1.mono (by simp))⟩
  rw [show okB R C l = (List.range R.toNat).all (colB C l) from by simp only [okB, hf, Bool.true_and]]
  obtain ⟨hR, hC, hlen, hat⟩ := formB_of hf
  have HF : Hid (formB R C l = true) := hf
  have HT : Hid (∀ k, k < l.length → atB R C l k = true) := hat
  have HL : Hid (l = [] ∨ ∃ b off, a = some ⟨b, off, none⟩ ∧ b < w.heap.size ∧ ∀ k, k < l.length → CellAt w b (off + k * 5) (l.getD k cl0)) := hl
  clear hf hl hat
  go_enter Tryz.func67, Tryz.ntmps67
  go_wp2_with (go_at_call 82; refine (l2Form_is HF.out (H.out.below ((Below.refl _ _).alloc (Nat.le_refl _) _))).mono ?_; rintro e w1 ⟨rfl, hb1⟩)
  have k0 : w1.cell? ⟨w.heap.size, 0, none⟩ = some (.int .i64 R) := (hb1.cell (p := ⟨w.heap.size, 0, none⟩) (by simp)).trans (by simp)
  have k1 : w1.cell? ⟨w.heap.size, 1, none⟩ = some (.int .i64 C) := (hb1.cell (p := ⟨w.heap.size, 1, none⟩) (by simp)).trans (by simp)
  have k2 : w1.cell? ⟨w.heap.size, 2, none⟩ = some (.slice a l.length cap) := (hb1.cell (p := ⟨w.heap.size, 2, none⟩) (by simp)).trans (by simp)
  have z0 : w.heap.size < w1.heap.size := by have := hb1.size; simp at this; omega
  have B0 : Hid (Below w.heap.size w w1) := ((Below.refl _ _).alloc (Nat.le_refl _) _).trans (hb1.mono (by simp))
  clear hb1
  go_loopw [3] (fun i wr => ∃ k : Nat, (k : Int) ≤ R ∧ i = .int .i64 k ∧ (List.range k).all (colB C l) = true ∧ Below w1.heap.size w1 wr) (fun i _ => R.toNat - (intOf i).toNat)
  case atStart => exact ⟨0, by omega, rfl, by simp, Below.refl _ _⟩
  case round =>
    obtain ⟨p, hp, rfl, hall, hbl⟩ := hrel
    have HA : Hid ((List.range p).all (colB C l) = true) := hall
    have HB : Hid (Below w1.heap.size w1 wr) := hbl
    have j0 := (hbl.cell (p := ⟨w.heap.size, 0, none⟩) z0).trans k0
    have j1 := (hbl.cell (p := ⟨w.heap.size, 1, none⟩) z0).trans k1
    have j2 := (hbl.cell (p := ⟨w.heap.size, 2, none⟩) z0).trans k2
    have zr : w.heap.size < wr.heap.size := Nat.lt_of_lt_of_le z0 hbl.size
    have sr := hbl.size
    clear hall hbl
    by_cases hlt : (p : Int) < R
    · clear k0 k1 k2
      go_wp2_with fail
      go_loopw [4] (fun i wq => ∃ k : Nat, (k : Int) ≤ C ∧ i = .int .i64 k ∧ ((List.range k).all fun c => decide (cnt l p c = 1)) = true ∧ Below wr.heap.size wr wq) (fun i _ => C.toNat - (intOf i).toNat)
      case atStart => exact ⟨0, by omega, rfl, by simp, Below.refl _ _⟩
      case round =>
        obtain ⟨q, hq, rfl, hall, hbl⟩ := hrel
        have HA2 : Hid (((List.range q).all fun c => decide (cnt l p c = 1)) = true) := hall
        have HB2 : Hid _ := hbl
        have i0 := (hbl.cell (p := ⟨w.heap.size, 0, none⟩) zr).trans j0
        have i1 := (hbl.cell (p := ⟨w.heap.size, 1, none⟩) zr).trans j1
        have i2 := (hbl.cell (p := ⟨w.heap.size, 2, none⟩) zr).trans j2
        have zq := Nat.lt_of_lt_of_le zr hbl.size
        have sq := hbl.size
        clear hall hbl
        by_cases hlq : (q : Int) < C
        · clear j0 j1 j2
          go_wp2_with fail
          go_loopw [5, 6] (fun nv i wi => ∃ k : Nat, k ≤ l.length ∧ i = .int .i64 k ∧ nv = .int .i64 (cnt (l.take k) p q : Nat) ∧ Below wr.heap.size wr wi) (fun _ i _ => l.length - (intOf i).toNat)
          case atStart => exact ⟨0, by omega, rfl, rfl, Below.refl _ _⟩
          case round =>
            obtain ⟨k, hk, rfl, rfl, hbl⟩ := hrel
            have HB3 : Hid _ := hbl
            have g0 := (hbl.cell (p := ⟨w.heap.size, 0, none⟩) zq).trans i0
            have g1 := (hbl.cell (p := ⟨w.heap.size, 1, none⟩) zq).trans i1
            have g2 := (hbl.cell (p := ⟨w.heap.size, 2, none⟩) zq).trans i2
            have zi := Nat.lt_of_lt_of_le zq hbl.size
            have si := hbl.size
            clear hbl i0 i1 i2
            have HW : Hid (Below w.heap.size w wr) := B0.out.trans ((HB.out.trans ((HB2.out.trans (HB3.out.mono sq)).mono sr)).mono (Nat.le_of_lt z0))
            by_cases hlk : k < l.length
            · rcases HL.out with e | ⟨b, off, rfl, hbw, hl⟩
              · rw [e] at hlk
                exact absurd hlk (by simp)
              obtain ⟨c0, c1, c2, c3, ta, tn, tc, c4, -⟩ := (hl k hlk).below HW.out hbw
              obtain ⟨⟨s0, s1⟩, ⟨s2, s3⟩, ⟨s4, s5⟩, ⟨s6, s7⟩, -⟩ := cellB_of (atB_cell (HT.out k hlk))
              have hn := cnt_take_succ l p q k hlk
              have hle := cnt_le (l.take k) p q
              obtain ⟨⟨r, c, d, g, t⟩, hx⟩ : ∃ x, x = l.getD k cl0 := ⟨_, rfl⟩
              rw [← hx] at c0 c1 c2 c3 s0 s1 s2 s3 s4 s5 s6 s7 hn
              simp only at c0 c1 c2 c3 s0 s1 s2 s3 s4 s5 s6 s7
              rw [List.length_take] at hle
              generalize cnt (l.take k) p q = m at hn hle ⊢
              have hm25 : m ≤ 25 := by omega
              clear hle hx hl
              have y0 : sml r := ⟨by omega, by omega⟩
              have y1 : sml c := ⟨by omega, by omega⟩
              have y2 : sml d := ⟨by omega, by omega⟩
              have y3 : sml g := ⟨by omega, by omega⟩
              clear s0 s1 s2 s3 s4 s5 s6 s7
              cases hz : inB (r, c, d, g, t) p q
              · rw [hz] at hn
                have HN : Hid (cnt (l.take (k + 1)) p q = m) := hn
                have HZ : Hid (inB (r, c, d, g, t) p q = false) := hz
                clear hn hz
                go_wp2_with (go_at_call 83; refine (l2In_is (t := t) HZ.out ta tn tc _ y0 y1 y2 y3).mono ?_; rintro e w3 ⟨rfl, hb3⟩)
                go_roundw
                case rel => exact ⟨k + 1, by omega, by go_num, by rw [HN.out], HB3.out.trans (hb3.mono si)⟩
                case measure => simp [intOf]; omega
              · rw [hz] at hn
                have HN : Hid (cnt (l.take (k + 1)) p q = m + 1) := hn
                have HZ : Hid (inB (r, c, d, g, t) p q = true) := hz
                clear hn hz
                go_wp2_with (go_at_call 83; refine (l2In_is (t := t) HZ.out ta tn tc _ y0 y1 y2 y3).mono ?_; rintro e w3 ⟨rfl, hb3⟩)
                go_roundw
                case rel => exact ⟨k + 1, by omega, by go_num, by rw [HN.out]; go_num, HB3.out.trans (hb3.mono si)⟩
                case measure => simp [intOf]; omega
            · have e : l.take k = l := List.take_of_length_le (by omega)
              rw [e]
              have hle := cnt_le l p q
              by_cases h1 : cnt l p q = 1
              · have HC1 : Hid (cnt l p q = 1) := h1
                rw [h1]
                clear e hle h1
                go_wp2_with fail
                go_roundw
                case rel => exact ⟨q + 1, by omega, by go_num, by rw [range_all_succ, HA2.out, HC1.out]; rfl, HB2.out.trans (HB3.out.mono sq)⟩
                case measure => simp [intOf]; omega
              · have HF : Hid ((List.range R.toNat).all (colB C l) = false) := range_all_false (k := p) (by omega) (range_all_false (k := q) (by omega) (decide_eq_false h1))
                generalize cnt l p q = m at h1 hle ⊢
                have hb : ((m : Int) != 1) = true := by simp; omega
                clear e
                go_wp2_with fail
                go_ret
                exact ⟨by rw [HF.out]; rfl, HW.out⟩
        · clear j1 j2
          go_wp2_with fail
          go_roundw
          case rel => exact ⟨p + 1, by omega, by go_num, by rw [range_all_succ, HA.out]; have hh := HA2.out; rw [show q = C.toNat from by omega] at hh; simp only [colB, hh]; rfl, HB.out.trans (HB2.out.mono sr)⟩
          case measure => simp [intOf]; omega
    · go_wp2_with fail
      go_ret
      exact ⟨by have hh := HA.out; rw [show p = R.toNat from by omega] at hh; rw [hh]; rfl, B0.out.trans (HB.out.mono (Nat.le_of_lt z0))⟩
end Go.Proofs.YtccoeachemnbnaaGreatDoor
namespace Go.Proofs.YtccoeachemnbnaaGreatDoor
open Go.RowKit

/-- The number of the first cell that a square is of. -/
def atN (R C : Int) (l : List Cl) (r c : Int) : Int := if okB R C l then (match l.findIdx? fun x => inB x r c with | some i => (i : Int) | none => -1) else -1
theorem okB_form {R C : Int} {l : List Cl} (h : okB R C l = true) : formB R C l = true := by
  simp only [okB, Bool.and_eq_true] at h
  exact h.1
theorem specTableOk_is {R C : Int} {a : Option Addr} {n cap : Nat} {l : List Cl} {w : World} {x : Bool} (hx : okB R C l = x) (h : Tab w a n cap l) :
    Calls Tryz.prog 67 #[.agg #[.int .i64 R, .int .i64 C, .slice a n cap]] w fun e w' => e = .returned (.bool x) ∧ Below w.heap.size w w' := hx ▸ specTableOk_any R C a n cap l w h
theorem findIdx_some (l : List Cl) (k : Nat) (r c : Int) (hk : k < l.length) (h0 : ∀ j, j < k → inB (l.getD j cl0) r c = false) (h1 : inB (l.getD k cl0) r c = true) : (l.findIdx? fun x => inB x r c) = some k := by
  rw [List.findIdx?_eq_some_iff_getElem]
  refine ⟨hk, by simpa [List.getD, hk] using h1, ?_⟩
  intro j hj
  have := h0 j hj
  simpa [List.getD, show j < l.length from by omega] using this
theorem findIdx_none (l : List Cl) (r c : Int) (h0 : ∀ j, j < l.length → inB (l.getD j cl0) r c = false) : (l.findIdx? fun x => inB x r c) = none := by
  rw [List.findIdx?_eq_none_iff]
  intro x hx
  obtain ⟨j, hj, rfl⟩ := List.getElem_of_mem hx
  have := h0 j hj
  simpa [List.getD, hj] using this

end Go.Proofs.YtccoeachemnbnaaGreatDoor
namespace Go.Proofs.YtccoeachemnbnaaGreatDoor
open Go.RowKit

/-- What is owned stays owned where all that was there is as it was. -/
theorem own_below {w w' : World} {B e size n : Nat} {v : Value} {xs : List Value} (h : w.ownsRow B e size v n xs) (hb : Below w.heap.size w w') : w'.ownsRow B e size v n xs := by
  refine ⟨h.1, ?_⟩
  rcases h.2 with hn | ⟨g, cap, cur, rfl, hg, hgg, rest⟩
  · exact .inl hn
  · exact .inr ⟨g, cap, cur, rfl, hg, by rw [hb.block g (Array.getElem?_eq_some_iff.1 hgg).1]; exact hgg, rest⟩

/-- The cells of a list of signs, one behind the other. -/
def sgCells (s : Sg) : List Value := [.int .u8 s.1, .int .i64 s.2.1, .int .i64 s.2.2]
def flat (l : List Sg) : List Value := l.flatMap sgCells

theorem flat_length (l : List Sg) : (flat l).length = l.length * 3 := by
  induction l with
  | nil => rfl
  | cons s l ih =>
    show (sgCells s ++ flat l).length = _
    rw [List.length_append, ih]
    simp [sgCells]; omega

theorem flat_append (a b : List Sg) : flat (a ++ b) = flat a ++ flat b := by simp [flat]

theorem flat_get (l : List Sg) : ∀ (k : Nat), k < l.length → (flat l)[k * 3]? = some (.int .u8 (l.getD k (0, 0, 0)).1) ∧ (flat l)[k * 3 + 1]? = some (.int .i64 (l.getD k (0, 0, 0)).2.1) ∧ (flat l)[k * 3 + 2]? = some (.int .i64 (l.getD k (0, 0, 0)).2.2) := by
  induction l with
  | nil => intro k h; simp at h
  | cons s l ih =>
    intro k hk
    show (sgCells s ++ flat l)[k * 3]? = _ ∧ (sgCells s ++ flat l)[k * 3 + 1]? = _ ∧ (sgCells s ++ flat l)[k * 3 + 2]? = _
    cases k with
    | zero => simp [sgCells]
    | succ k =>
      have := ih k (by simpa using hk)
      rw [show (k + 1) * 3 = k * 3 + 3 by omega, show k * 3 + 3 + 1 = k * 3 + 1 + 3 by omega, show k * 3 + 3 + 2 = k * 3 + 2 + 3 by omega]
      rw [List.getElem?_append_right (by simp [sgCells]), List.getElem?_append_right (by simp [sgCells]), List.getElem?_append_right (by simp [sgCells])]
      simpa [sgCells] using this

/-- A row that owns a list of signs reads as it. -/
theorem txt_of_own {w : World} {B g n cap e : Nat} {l : List Sg} (h : w.ownsRow B e 3 (.slice (some ⟨g, 0, none⟩) n cap) n (flat l)) : Txt w (some ⟨g, 0, none⟩) n cap l := by
  have hlen := h.1
  rw [flat_length] at hlen
  have hn : n = l.length := by omega
  rcases h.2 with ⟨h', _⟩ | ⟨g', cap', cur, h', _, hg, hnc, hcm, _, _⟩
  · simp at h'
  · simp only [Value.slice.injEq, Option.some.injEq, Addr.mk.injEq, and_true, true_and] at h'
    obtain ⟨rfl, rfl⟩ := h'
    refine ⟨hn, hnc, hcm, .inr ⟨g, 0, rfl, (Array.getElem?_eq_some_iff.1 hg).1, ?_⟩⟩
    intro k hk
    obtain ⟨a, b, c⟩ := flat_get l k hk
    rw [Nat.zero_add]
    exact ⟨(h.cellAt (k * 3) (by omega)).trans a, (h.cellAt (k * 3 + 1) (by omega)).trans b, (h.cellAt (k * 3 + 2) (by omega)).trans c⟩

theorem take_set3 (xs : List Value) (k : Nat) (a b c : Value) (h : k * 3 + 3 ≤ xs.length) :
    (((xs.set (k * 3) a).set (k * 3 + 1) b).set (k * 3 + 2) c).take ((k + 1) * 3) = xs.take (k * 3) ++ [a, b, c] := by
  apply List.ext_getElem?
  intro j
  by_cases h1 : j < k * 3
  · rw [List.getElem?_take, if_pos (by omega), List.getElem?_set_ne (by omega), List.getElem?_set_ne (by omega), List.getElem?_set_ne (by omega), List.getElem?_append_left (by simp; omega), List.getElem?_take, if_pos h1]
  · rw [List.getElem?_append_right (by simp; omega)]
    have e : (xs.take (k * 3)).length = k * 3 := by simp; omega
    rw [e, List.getElem?_take]
    rcases (show j = k * 3 ∨ j = k * 3 + 1 ∨ j = k * 3 + 2 ∨ k * 3 + 3 ≤ j from by omega) with rfl | rfl | rfl | hj
    · rw [if_pos (by omega), List.getElem?_set_ne (by omega), List.getElem?_set_ne (by omega), List.getElem?_set_self (by omega)]; simp
    · rw [if_pos (by omega), List.getElem?_set_ne (by omega), List.getElem?_set_self (by simp; omega), show k * 3 + 1 - k * 3 = 1 by omega]; simp
    · rw [if_pos (by omega), List.getElem?_set_self (by simp; omega), show k * 3 + 2 - k * 3 = 2 by omega]; simp
    · rw [if_neg (by omega), List.getElem?_eq_none (by simp; omega)]

theorem flat_take_succ (l : List Sg) (k : Nat) (hk : k < l.length) : flat (l.take (k + 1)) = flat (l.take k) ++ sgCells (l.getD k (0, 0, 0)) := by
  rw [List.take_succ_eq_append_getElem hk, flat_append]
  simp [flat, List.getD, hk]

theorem Tryz.info82 : (Tryz.prog.info? 82).map (fun i => (i.zero, i.size, i.bytes)) = some (some (.agg #[.int .u8 0, .int .i64 0, .int .i64 0]), 3, 24) := by kernel_rfl

theorem cell_three_new (w : World) (x y z : Value) (t : TypeId) : ∀ j u, [x, y, z][j]? = some u → (w.alloc (.cells #[x, y, z] t)).cell? ((⟨w.heap.size, 0, none⟩ : Addr).add j) = some u := by
  intro j u hj
  match j, hj with
  | 0, hj => simp at hj; subst hj; simp [Addr.add]
  | 1, hj => simp at hj; subst hj; simp [Addr.add]
  | 2, hj => simp at hj; subst hj; simp [Addr.add]
  | (j + 3), hj => simp at hj

theorem three_oneCell (a b c : Int) : ∀ u ∈ [Value.int .u8 a, .int .i64 b, .int .i64 c], u.oneCell' = true := by
  intro u hu
  simp at hu
  rcases hu with rfl | rfl | rfl <;> rfl

/-- A value that owns a list of signs. -/
def Own (w : World) (B : Nat) (v : Value) (l : List Sg) : Prop := w.ownsRow B 82 3 v l.length (flat l)

theorem Own.shape {w : World} {B : Nat} {v : Value} {l : List Sg} (h : Own w B v l) : ∃ a cap, v = .slice a l.length cap ∧ Txt w a l.length cap l := by
  have h' := h
  unfold Own at h'
  rcases h'.2 with ⟨rfl, h0⟩ | ⟨g, cap, cur, rfl, r⟩
  · have : l = [] := List.eq_nil_of_length_eq_zero h0
    subst this
    exact ⟨none, 0, rfl, rfl, Nat.le_refl _, Nat.zero_le _, .inl rfl⟩
  · exact ⟨_, _, rfl, txt_of_own h'⟩

theorem Own.below {w w' : World} {B : Nat} {v : Value} {l : List Sg} (h : Own w B v l) (hb : Below w.heap.size w w') : Own w' B v l := own_below h hb
theorem Own.nil (w : World) (B : Nat) : Own w B (.slice none 0 0) [] := World.ownsRow_nil _ _ _ _
theorem Own.snoc {w : World} {B : Nat} {v : Value} {l : List Sg} {s : Sg} {n : Nat} {xs : List Value} (h : w.ownsRow B 82 3 v n xs) (hn : n = l.length + 1) (hx : xs = flat l ++ sgCells s) : Own w B v (l ++ [s]) := by
  subst hn hx
  unfold Own
  rw [flat_append, List.length_append]
  have : flat [s] = sgCells s := by simp [flat]
  rw [this]
  exact h

theorem Own.shapeN {w : World} {B : Nat} {v : Value} {l : List Sg} (h : Own w B v l) {n : Nat} (hn : l.length = n) : ∃ a cap, v = .slice a n cap := by
  obtain ⟨a, cap, rfl, _⟩ := h.shape
  exact ⟨a, cap, by rw [hn]⟩
theorem Own.txt {w : World} {B : Nat} {a : Option Addr} {n cap : Nat} {l : List Sg} (h : Own w B (.slice a n cap) l) : Txt w a n cap l := by
  obtain ⟨a', cap', he, ht⟩ := h.shape
  simp only [Value.slice.injEq] at he
  obtain ⟨rfl, rfl, rfl⟩ := he
  exact ht
theorem Own.len {w : World} {B : Nat} {a : Option Addr} {n cap : Nat} {l : List Sg} (h : Own w B (.slice a n cap) l) : n = l.length := h.txt.1
theorem Own.row {w : World} {B : Nat} {a : Option Addr} {n cap : Nat} {l : List Sg} (h : Own w B (.slice a n cap) l) : w.ownsRow B 82 3 (.slice a n cap) n (flat l) := by
  have := h.len
  subst this
  exact h

/-- A sign more behind an owned list: what the append leaves. -/
theorem own_step {B : Nat} {w wr w1 : World} {a : Option Addr} {k c : Nat} {v' : Value} {l : List Sg} {s : Sg} {o : Obj} (ho : Own wr B (.slice a k c) l) (hbl : Below B w wr) (hB : B ≤ wr.heap.size)
    (hown : w1.ownsRow B 82 3 v' (k + 1) (flat l ++ sgCells s)) (hgrow : (wr.alloc o).grownBy w1 (Value.slice a k c).ownBlock) :
    ∃ a' c', v' = .slice a' (k + 1) c' ∧ Own w1 B (.slice a' (k + 1) c') (l ++ [s]) ∧ Below B w w1 := by
  have hk := ho.len
  have h1 : Own w1 B v' (l ++ [s]) := Own.snoc hown (by omega) rfl
  obtain ⟨a', c', rfl⟩ := h1.shapeN (n := k + 1) (by simp; omega)
  refine ⟨a', c', rfl, h1, ?_⟩
  exact (hbl.alloc hB _).grown hgrow (by simp; omega) (fun q hq => (ho.row.lt q hq).1)

theorem Own.emptyNew (w : World) (B : Nat) (hB : B ≤ w.heap.size) : Own (w.alloc (.cells #[] 82)) B (.slice (some ⟨w.heap.size, 0, none⟩) 0 0) [] :=
  World.ownsRow_made w #[] 0 hB (Nat.zero_le _) rfl

theorem grown_of_drew {w w' : World} {r : Option Nat} (h : w.drew.grownBy w' r) : w.grownBy w' r := ⟨h.os, h.tape, h.output, h.size, h.block⟩
theorem Own.alloc {w : World} {B : Nat} {v : Value} {l : List Sg} (h : Own w B v l) (o : Obj) : Own (w.alloc o) B v l := World.ownsRow.alloc h o
end Go.Proofs.YtccoeachemnbnaaGreatDoor
namespace Go.Proofs.YtccoeachemnbnaaGreatDoor
open Go.RowKit

/-- A table's cell as it lies: four numbers and a slice. -/
abbrev Rw := Int × Int × Int × Int × Option Addr × Nat × Nat
def rw0 : Rw := (0, 0, 0, 0, none, 0, 0)
def rwCells (x : Rw) : List Value := [.int .i64 x.1, .int .i64 x.2.1, .int .i64 x.2.2.1, .int .i64 x.2.2.2.1, .slice x.2.2.2.2.1 x.2.2.2.2.2.1 x.2.2.2.2.2.2]
def flat5 (l : List Rw) : List Value := l.flatMap rwCells

theorem flat5_length (l : List Rw) : (flat5 l).length = l.length * 5 := by
  induction l with
  | nil => rfl
  | cons s l ih =>
    show (rwCells s ++ flat5 l).length = _
    rw [List.length_append, ih]
    simp [rwCells]; omega

theorem flat5_append (a b : List Rw) : flat5 (a ++ b) = flat5 a ++ flat5 b := by simp [flat5]

theorem flat5_get (l : List Rw) : ∀ (k j : Nat), k < l.length → j < 5 → (flat5 l)[k * 5 + j]? = (rwCells (l.getD k rw0))[j]? := by
  induction l with
  | nil => intro k j h; simp at h
  | cons s l ih =>
    intro k j hk hj
    have h5 : (rwCells s).length = 5 := rfl
    show (rwCells s ++ flat5 l)[k * 5 + j]? = _
    cases k with
    | zero => rw [List.getElem?_append_left (by omega)]; simp
    | succ k =>
      rw [List.getElem?_append_right (by omega), h5, show (k + 1) * 5 + j - 5 = k * 5 + j by omega, ih k j (by simpa using hk) hj]
      simp

theorem flat5_take_succ (l : List Rw) (k : Nat) (hk : k < l.length) : flat5 (l.take (k + 1)) = flat5 (l.take k) ++ rwCells (l.getD k rw0) := by
  rw [List.take_succ_eq_append_getElem hk, flat5_append]
  simp [flat5, List.getD, hk]

/-- The cells at block b from o on. -/
def RwAt (w : World) (b o : Nat) (x : Rw) : Prop :=
  w.cell? ⟨b, o, none⟩ = some (.int .i64 x.1) ∧ w.cell? ⟨b, o + 1, none⟩ = some (.int .i64 x.2.1) ∧ w.cell? ⟨b, o + 2, none⟩ = some (.int .i64 x.2.2.1) ∧ w.cell? ⟨b, o + 3, none⟩ = some (.int .i64 x.2.2.2.1) ∧
    w.cell? ⟨b, o + 4, none⟩ = some (.slice x.2.2.2.2.1 x.2.2.2.2.2.1 x.2.2.2.2.2.2)

/-- A slice value that reads as rows. -/
def Rws (w : World) (a : Option Addr) (n cap : Nat) (l : List Rw) : Prop :=
  n = l.length ∧ n ≤ cap ∧ cap ≤ maxLen ∧ (l = [] ∨ ∃ b off, a = some ⟨b, off, none⟩ ∧ b < w.heap.size ∧ ∀ k, k < l.length → RwAt w b (off + k * 5) (l.getD k rw0))

theorem rws_of_own {w : World} {B g n cap e : Nat} {l : List Rw} (h : w.ownsRow B e 5 (.slice (some ⟨g, 0, none⟩) n cap) n (flat5 l)) : Rws w (some ⟨g, 0, none⟩) n cap l := by
  have hlen := h.1
  rw [flat5_length] at hlen
  have hn : n = l.length := by omega
  rcases h.2 with ⟨h', _⟩ | ⟨g', cap', cur, h', _, hg, hnc, hcm, _, _⟩
  · simp at h'
  · simp only [Value.slice.injEq, Option.some.injEq, Addr.mk.injEq, and_true, true_and] at h'
    obtain ⟨rfl, rfl⟩ := h'
    refine ⟨hn, hnc, hcm, .inr ⟨g, 0, rfl, (Array.getElem?_eq_some_iff.1 hg).1, ?_⟩⟩
    intro k hk
    rw [Nat.zero_add]
    exact ⟨(h.cellAt (k * 5) (by omega)).trans (flat5_get l k 0 hk (by omega)), (h.cellAt (k * 5 + 1) (by omega)).trans (flat5_get l k 1 hk (by omega)), (h.cellAt (k * 5 + 2) (by omega)).trans (flat5_get l k 2 hk (by omega)), (h.cellAt (k * 5 + 3) (by omega)).trans (flat5_get l k 3 hk (by omega)), (h.cellAt (k * 5 + 4) (by omega)).trans (flat5_get l k 4 hk (by omega))⟩

/-- A value that owns rows. -/
def OwnR (w : World) (B : Nat) (v : Value) (l : List Rw) : Prop := w.ownsRow B 86 5 v l.length (flat5 l)

theorem OwnR.shape {w : World} {B : Nat} {v : Value} {l : List Rw} (h : OwnR w B v l) : ∃ a cap, v = .slice a l.length cap ∧ Rws w a l.length cap l := by
  have h' := h
  unfold OwnR at h'
  rcases h'.2 with ⟨rfl, h0⟩ | ⟨g, cap, cur, rfl, r⟩
  · have : l = [] := List.eq_nil_of_length_eq_zero h0
    subst this
    exact ⟨none, 0, rfl, rfl, Nat.le_refl _, Nat.zero_le _, .inl rfl⟩
  · exact ⟨_, _, rfl, rws_of_own h'⟩
theorem OwnR.below {w w' : World} {B : Nat} {v : Value} {l : List Rw} (h : OwnR w B v l) (hb : Below w.heap.size w w') : OwnR w' B v l := own_below h hb
theorem OwnR.nil (w : World) (B : Nat) : OwnR w B (.slice none 0 0) [] := World.ownsRow_nil _ _ _ _
theorem OwnR.alloc {w : World} {B : Nat} {v : Value} {l : List Rw} (h : OwnR w B v l) (o : Obj) : OwnR (w.alloc o) B v l := World.ownsRow.alloc h o
theorem OwnR.rws {w : World} {B : Nat} {a : Option Addr} {n cap : Nat} {l : List Rw} (h : OwnR w B (.slice a n cap) l) : Rws w a n cap l := by
  obtain ⟨a', cap', he, ht⟩ := h.shape
  simp only [Value.slice.injEq] at he
  obtain ⟨rfl, rfl, rfl⟩ := he
  exact ht
theorem OwnR.len {w : World} {B : Nat} {a : Option Addr} {n cap : Nat} {l : List Rw} (h : OwnR w B (.slice a n cap) l) : n = l.length := h.rws.1
theorem OwnR.row {w : World} {B : Nat} {a : Option Addr} {n cap : Nat} {l : List Rw} (h : OwnR w B (.slice a n cap) l) : w.ownsRow B 86 5 (.slice a n cap) n (flat5 l) := by
  have := h.len
  subst this
  exact h
theorem OwnR.snoc {w : World} {B : Nat} {v : Value} {l : List Rw} {s : Rw} {n : Nat} {xs : List Value} (h : w.ownsRow B 86 5 v n xs) (hn : n = l.length + 1) (hx : xs = flat5 l ++ rwCells s) : OwnR w B v (l ++ [s]) := by
  subst hn hx
  unfold OwnR
  rw [flat5_append, List.length_append]
  have : flat5 [s] = rwCells s := by simp [flat5]
  rw [this]
  exact h

/-- A row more behind owned rows: what the append leaves. -/
theorem ownR_step {B : Nat} {w wr w1 : World} {a : Option Addr} {k c : Nat} {v' : Value} {l : List Rw} {s : Rw} {o : Obj} (ho : OwnR wr B (.slice a k c) l) (hbl : Below B w wr) (hB : B ≤ wr.heap.size)
    (hown : w1.ownsRow B 86 5 v' (k + 1) (flat5 l ++ rwCells s)) (hgrow : (wr.alloc o).grownBy w1 (Value.slice a k c).ownBlock) :
    ∃ a' c', v' = .slice a' (k + 1) c' ∧ OwnR w1 B (.slice a' (k + 1) c') (l ++ [s]) ∧ Below B w w1 := by
  have hk := ho.len
  have h1 : OwnR w1 B v' (l ++ [s]) := OwnR.snoc hown (by omega) rfl
  obtain ⟨a', c', rfl, -⟩ := h1.shape
  have e : (l ++ [s]).length = k + 1 := by simp; omega
  rw [e] at h1
  refine ⟨a', c', by rw [e], h1, ?_⟩
  exact (hbl.alloc hB _).grown hgrow (by simp; omega) (fun q hq => (ho.row.lt q hq).1)

/-- What a row reads as. -/
def RwIs (w : World) (x : Rw) (y : Cl) : Prop := x.1 = y.1 ∧ x.2.1 = y.2.1 ∧ x.2.2.1 = y.2.2.1 ∧ x.2.2.2.1 = y.2.2.2.1 ∧ Txt w x.2.2.2.2.1 x.2.2.2.2.2.1 x.2.2.2.2.2.2 y.2.2.2.2
def Reads (w : World) (l : List Rw) (m : List Cl) : Prop := l.length = m.length ∧ ∀ k, k < l.length → RwIs w (l.getD k rw0) (m.getD k cl0)

theorem tab_of_rws {w : World} {a : Option Addr} {n cap : Nat} {l : List Rw} {m : List Cl} (h : Rws w a n cap l) (hr : Reads w l m) : Tab w a n cap m := by
  obtain ⟨h1, h2, h3, h4⟩ := h
  obtain ⟨e, hr⟩ := hr
  refine ⟨h1.trans e, h2, h3, ?_⟩
  rcases h4 with rfl | ⟨b, off, h5, h6, h7⟩
  · exact .inl (List.eq_nil_of_length_eq_zero e.symm)
  · refine .inr ⟨b, off, h5, h6, fun k hk => ?_⟩
    obtain ⟨q0, q1, q2, q3, q4⟩ := hr k (by omega)
    obtain ⟨c0, c1, c2, c3, c4⟩ := h7 k (by omega)
    rw [q0] at c0
    rw [q1] at c1
    rw [q2] at c2
    rw [q3] at c3
    exact ⟨c0, c1, c2, c3, _, _, _, c4, q4⟩

theorem Reads.below {w w' : World} {l : List Rw} {m : List Cl} (h : Reads w l m) (hb : Below w.heap.size w w') : Reads w' l m :=
  ⟨h.1, fun k hk => by obtain ⟨q0, q1, q2, q3, q4⟩ := h.2 k hk; exact ⟨q0, q1, q2, q3, q4.below hb⟩⟩
theorem Reads.nil (w : World) : Reads w [] [] := ⟨rfl, fun k hk => by simp at hk⟩
theorem Reads.snoc {w : World} {l : List Rw} {m : List Cl} {x : Rw} {y : Cl} (h : Reads w l m) (hx : RwIs w x y) : Reads w (l ++ [x]) (m ++ [y]) := by
  obtain ⟨e, h⟩ := h
  refine ⟨by simp [e], fun k hk => ?_⟩
  by_cases hlt : k < l.length
  · have := h k hlt
    simp only [List.getD_eq_getElem?_getD] at this ⊢
    rw [List.getElem?_append_left hlt, List.getElem?_append_left (by omega)]
    exact this
  · have : k = l.length := by simp at hk; omega
    subst this
    simp only [List.getD_eq_getElem?_getD]
    rw [List.getElem?_append_right (Nat.le_refl _), List.getElem?_append_right (by omega), e, Nat.sub_self]
    exact hx
end Go.Proofs.YtccoeachemnbnaaGreatDoor
namespace Go.Proofs.YtccoeachemnbnaaGreatDoor
open Go.RowKit

/-- A block that holds just these cells. -/
def RowAt (w : World) (b : Nat) (cs : Array Value) (ty : TypeId) : Prop := w.heap[b]? = some (.cells cs ty (0, 0))
section
variable {w w' : World} {b : Nat} {cs : Array Value} {ty : TypeId}
theorem RowAt.lt (h : RowAt w b cs ty) : b < w.heap.size := (Array.getElem?_eq_some_iff.1 h).1
theorem RowAt.cell (h : RowAt w b cs ty) (j : Nat) : w.cell? ⟨b, j, none⟩ = cs[j]? := cell_of_row w b j _ _ _ h
theorem RowAt.frozen (h : RowAt w b cs ty) (o : Nat) : w.frozen? ⟨b, o, none⟩ = false := by simp [World.frozen?, show w.heap[b]? = _ from h]
theorem RowAt.below (h : RowAt w b cs ty) {B : Nat} (hb : Below B w w') (hB : b < B) : RowAt w' b cs ty := by
  unfold RowAt
  rw [hb.block b hB]
  exact h
theorem RowAt.alloc (h : RowAt w b cs ty) (o : Obj) : RowAt (w.alloc o) b cs ty := (Go.Deep.blk_alloc_lt w o b h.lt).trans h
theorem RowAt.drew (h : RowAt w b cs ty) : RowAt w.drew b cs ty := h
theorem RowAt.other (h : RowAt w b cs ty) (a : Addr) (u : Value) (hb : b ≠ a.block) : RowAt (w.setCell a u) b cs ty := by
  unfold RowAt
  rw [Go.Deep.blk_setCell_other _ _ _ _ hb]
  exact h
theorem RowAt.setCell (h : RowAt w b cs ty) (j : Nat) (v : Value) : RowAt (w.setCell ⟨b, j, none⟩ v) b (cs.setIfInBounds j v) ty := by
  unfold RowAt
  rw [setCell_eq_setRow _ _ _ _ _ _ _ h]
  exact setRow_heap _ _ _ _ _ _ h
theorem RowAt.setRow (h : RowAt w b cs ty) (cs' : Array Value) : RowAt (w.setRow b cs') b cs' ty := setRow_heap _ _ _ _ _ _ h
theorem RowAt.setRowOther (h : RowAt w b cs ty) (g : Nat) (cs' : Array Value) (hb : b ≠ g) : RowAt (w.setRow g cs') b cs ty := by
  unfold RowAt
  rw [setRow_other _ _ _ _ hb]
  exact h
end
theorem below_row {B g : Nat} {w0 w : World} (hb : Below B w0 w) (hBg : B ≤ g) (cs : Array Value) : Below B w0 (w.setRow g cs) :=
  hb.trans ⟨rfl, rfl, rfl, by simp [World.setRow], fun k hk => setRow_other w g k cs (by omega)⟩
theorem rowAt_new (w : World) (cs : Array Value) (ty : TypeId) : RowAt (w.alloc (.cells cs ty)) w.heap.size cs ty := heap_alloc_new _ _
theorem wpList_load_rowG {P : Program} {ops : Array Oper} {rest : List Oper} {o : Oper} {a : Act} {w : World} {Q : Exit → Act → World → Prop} (hgd : Region.wanted o (yielded ops a.tmps) = true) (ty : TypeId) (x : Operand) (ho : o.op = .load ty x)
    (g : Nat) (hx : a.eval x = .pointer (some ⟨g, 0, none⟩)) (t : TypeId) (cs : Array Value) (fr : Nat × Nat) (d : TypeDesc) (hg : w.heap[g]? = some (.cells cs t fr))
    (hu : P.underlying ty = some d) (hd : (match d with | .struct _ | .array _ _ => true | _ => false) = true) (hi : (P.info? ty).map (·.size) = some cs.size)
    (h : wpList P ops Q rest (a.put o.dst (.agg cs)) w) : wpList P ops Q (o :: rest) a w := by
  unfold wpList
  rw [if_pos hgd]
  exact .inl (wp_load_row ty x ho g hx t cs fr d hg hu hd hi h)
theorem cells5_one (r c d g : Int) (a : Option Addr) (n cap : Nat) : (#[Value.int .i64 r, .int .i64 c, .int .i64 d, .int .i64 g, .slice a n cap] : Array Value).all (·.oneCell') = true := by
  simp [Value.oneCell']
theorem cells3_one (r c : Int) (a : Option Addr) (n cap : Nat) : (#[Value.int .i64 r, .int .i64 c, .slice a n cap] : Array Value).all (·.oneCell') = true := by
  simp [Value.oneCell']
end Go.Proofs.YtccoeachemnbnaaGreatDoor
namespace Go.Proofs.YtccoeachemnbnaaGreatDoor
open Go.RowKit

theorem Tryz.info86 : (Tryz.prog.info? 86).map (fun i => (i.zero, i.size, i.bytes)) = some (some (.agg #[.int .i64 0, .int .i64 0, .int .i64 0, .int .i64 0, .slice none 0 0]), 5, 56) := by kernel_rfl
theorem tab_info : (Tryz.prog.info? 54).map (·.size) = some 3 := by kernel_rfl
theorem own_less {w : World} {B B' e size n : Nat} {v : Value} {xs : List Value} (h : w.ownsRow B' e size v n xs) (hB : B ≤ B') : w.ownsRow B e size v n xs := by
  refine ⟨h.1, ?_⟩
  rcases h.2 with hn | ⟨g, cap, cur, rfl, hg, rest⟩
  · exact .inl hn
  · exact .inr ⟨g, cap, cur, rfl, Nat.le_trans hB hg, rest⟩
theorem own_set {w : World} {B e size n : Nat} {v : Value} {xs : List Value} (h : w.ownsRow B e size v n xs) (p : Addr) (u : Value) (hp : v.ownBlock ≠ some p.block) : (w.setCell p u).ownsRow B e size v n xs := by
  refine ⟨h.1, ?_⟩
  rcases h.2 with hn | ⟨g, cap, cur, rfl, hg, hgg, rest⟩
  · exact .inl hn
  · refine .inr ⟨g, cap, cur, rfl, hg, ?_, rest⟩
    rw [Go.Deep.blk_setCell_other _ _ _ _ (fun e => hp (by simp [Value.ownBlock, e]))]
    exact hgg
theorem own_row {w : World} {B e size n : Nat} {v : Value} {xs : List Value} (h : w.ownsRow B e size v n xs) (g : Nat) (cs : Array Value) (hp : v.ownBlock ≠ some g) : (w.setRow g cs).ownsRow B e size v n xs := by
  refine ⟨h.1, ?_⟩
  rcases h.2 with hn | ⟨g', cap, cur, rfl, hg, hgg, rest⟩
  · exact .inl hn
  · refine .inr ⟨g', cap, cur, rfl, hg, ?_, rest⟩
    rw [setRow_other _ _ _ _ (fun e => hp (by simp [Value.ownBlock, e]))]
    exact hgg
theorem own_grown {w w' : World} {B e size n : Nat} {v : Value} {xs : List Value} {q : Option Nat} (h : w.ownsRow B e size v n xs) (hg : w.grownBy w' q) (hp : ∀ g, v.ownBlock = some g → q ≠ some g) : w'.ownsRow B e size v n xs := by
  refine ⟨h.1, ?_⟩
  rcases h.2 with hn | ⟨g, cap, cur, rfl, hg', hgg, rest⟩
  · exact .inl hn
  · refine .inr ⟨g, cap, cur, rfl, hg', ?_, rest⟩
    rw [hg.block g (Array.getElem?_eq_some_iff.1 hgg).1 (hp g (by simp [Value.ownBlock])).symm]
    exact hgg
theorem own_lt {w : World} {B e size n : Nat} {v : Value} {xs : List Value} (h : w.ownsRow B e size v n xs) {g : Nat} (hg : v.ownBlock = some g) : B ≤ g ∧ g < w.heap.size := by
  rcases h.2 with ⟨rfl, _⟩ | ⟨g', cap, cur, rfl, hg', hgg, rest⟩
  · simp [Value.ownBlock] at hg
  · simp only [Value.ownBlock, Option.some.injEq] at hg
    subst hg
    exact ⟨hg', (Array.getElem?_eq_some_iff.1 hgg).1⟩

theorem RowAt.grown {w w' : World} {b : Nat} {cs : Array Value} {ty : TypeId} {q : Option Nat} (h : RowAt w b cs ty) (hg : w.grownBy w' q) (hq : q ≠ some b) : RowAt w' b cs ty := by
  unfold RowAt
  rw [hg.block b h.lt (Ne.symm hq)]
  exact h
theorem own_kinds {w : World} {B B' e e' size size' n n' : Nat} {v v' : Value} {xs xs' : List Value} (h : w.ownsRow B e size v n xs) (h' : w.ownsRow B' e' size' v' n' xs') (he : e ≠ e') : ∀ g, v'.ownBlock = some g → v.ownBlock ≠ some g := by
  intro g hg' hg
  rcases h.2 with ⟨rfl, _⟩ | ⟨g1, cap, cur, rfl, _, hgg, _⟩
  · simp [Value.ownBlock] at hg
  · rcases h'.2 with ⟨rfl, _⟩ | ⟨g2, cap', cur', rfl, _, hgg', _⟩
    · simp [Value.ownBlock] at hg'
    · simp only [Value.ownBlock, Option.some.injEq] at hg hg'
      subst hg
      subst hg'
      rw [hgg] at hgg'
      simp only [Option.some.injEq, Obj.cells.injEq] at hgg'
      exact he hgg'.2.1
theorem rowAt_ne {w : World} {b : Nat} {cs : Array Value} {ty : TypeId} {B e size n : Nat} {v : Value} {xs : List Value} (h : RowAt w b cs ty) (ho : w.ownsRow B e size v n xs) (he : e ≠ ty) : v.ownBlock ≠ some b := by
  intro hb
  rcases ho.2 with ⟨rfl, _⟩ | ⟨g, cap, cur, rfl, _, hgg, _⟩
  · simp [Value.ownBlock] at hb
  · simp only [Value.ownBlock, Option.some.injEq] at hb
    subst hb
    rw [show w.heap[g]? = _ from h] at hgg
    simp only [Option.some.injEq, Obj.cells.injEq] at hgg
    exact he hgg.2.1.symm
/-- A row's text as a value. -/
def rwT (x : Rw) : Value := .slice x.2.2.2.2.1 x.2.2.2.2.2.1 x.2.2.2.2.2.2
/-- A row whose text is its own, and reads as a cell. -/
def RwOwn (w : World) (B : Nat) (x : Rw) (y : Cl) : Prop := x.1 = y.1 ∧ x.2.1 = y.2.1 ∧ x.2.2.1 = y.2.2.1 ∧ x.2.2.2.1 = y.2.2.2.1 ∧ Own w B (rwT x) y.2.2.2.2
/-- Rows with texts of their own, no two of which share memory, and none with a block q. -/
def TxtOwn (w : World) (B : Nat) (q : Option Nat) (rs : List Rw) (l : List Cl) : Prop :=
  rs.length = l.length ∧ (∀ k, k < rs.length → RwOwn w B (rs.getD k rw0) (l.getD k cl0)) ∧ (∀ k, k < rs.length → ∀ g, (rwT (rs.getD k rw0)).ownBlock = some g → q ≠ some g) ∧
    (∀ i k, i < k → k < rs.length → ∀ g, (rwT (rs.getD i rw0)).ownBlock = some g → (rwT (rs.getD k rw0)).ownBlock ≠ some g)
/-- A table's cells, all their own. -/
def OwnT (w : World) (B : Nat) (v : Value) (rs : List Rw) (l : List Cl) : Prop := OwnR w B v rs ∧ TxtOwn w B v.ownBlock rs l

theorem RwOwn.is {w : World} {B : Nat} {x : Rw} {y : Cl} (h : RwOwn w B x y) : RwIs w x y := by
  obtain ⟨h0, h1, h2, h3, h4⟩ := h
  exact ⟨h0, h1, h2, h3, h4.txt⟩
theorem TxtOwn.reads {w : World} {B : Nat} {q : Option Nat} {rs : List Rw} {l : List Cl} (h : TxtOwn w B q rs l) : Reads w rs l := ⟨h.1, fun k hk => (h.2.1 k hk).is⟩
theorem OwnT.tab {w : World} {B : Nat} {a : Option Addr} {n cap : Nat} {rs : List Rw} {l : List Cl} (h : OwnT w B (.slice a n cap) rs l) : Tab w a n cap l := tab_of_rws h.1.rws h.2.reads
theorem OwnT.len {w : World} {B : Nat} {a : Option Addr} {n cap : Nat} {rs : List Rw} {l : List Cl} (h : OwnT w B (.slice a n cap) rs l) : n = l.length := h.1.len.trans h.2.1
theorem OwnT.shape {w : World} {B : Nat} {v : Value} {rs : List Rw} {l : List Cl} (h : OwnT w B v rs l) : ∃ a cap, v = .slice a l.length cap := by
  obtain ⟨a, cap, e, -⟩ := h.1.shape
  exact ⟨a, cap, by rw [e, h.2.1]⟩
theorem TxtOwn.below {w w' : World} {B : Nat} {q : Option Nat} {rs : List Rw} {l : List Cl} (h : TxtOwn w B q rs l) (hb : Below w.heap.size w w') : TxtOwn w' B q rs l :=
  ⟨h.1, fun k hk => by obtain ⟨h0, h1, h2, h3, h4⟩ := h.2.1 k hk; exact ⟨h0, h1, h2, h3, h4.below hb⟩, h.2.2⟩
theorem OwnT.below {w w' : World} {B : Nat} {v : Value} {rs : List Rw} {l : List Cl} (h : OwnT w B v rs l) (hb : Below w.heap.size w w') : OwnT w' B v rs l := ⟨h.1.below hb, h.2.below hb⟩
theorem TxtOwn.less {w : World} {B B' : Nat} {q : Option Nat} {rs : List Rw} {l : List Cl} (h : TxtOwn w B' q rs l) (hB : B ≤ B') : TxtOwn w B q rs l :=
  ⟨h.1, fun k hk => by obtain ⟨h0, h1, h2, h3, h4⟩ := h.2.1 k hk; exact ⟨h0, h1, h2, h3, own_less h4 hB⟩, h.2.2⟩
theorem OwnT.less {w : World} {B B' : Nat} {v : Value} {rs : List Rw} {l : List Cl} (h : OwnT w B' v rs l) (hB : B ≤ B') : OwnT w B v rs l := ⟨own_less h.1 hB, h.2.less hB⟩
theorem TxtOwn.grown {w w' : World} {B : Nat} {q g : Option Nat} {rs : List Rw} {l : List Cl} (h : TxtOwn w B q rs l) (hg : w.grownBy w' g) (hn : ∀ k, k < rs.length → ∀ b, (rwT (rs.getD k rw0)).ownBlock = some b → g ≠ some b) : TxtOwn w' B q rs l :=
  ⟨h.1, fun k hk => by obtain ⟨h0, h1, h2, h3, h4⟩ := h.2.1 k hk; exact ⟨h0, h1, h2, h3, own_grown h4 hg (hn k hk)⟩, h.2.2⟩
theorem TxtOwn.set {w : World} {B : Nat} {q : Option Nat} {rs : List Rw} {l : List Cl} (h : TxtOwn w B q rs l) (p : Addr) (u : Value) (hq : q = some p.block) : TxtOwn (w.setCell p u) B q rs l :=
  ⟨h.1, fun k hk => by obtain ⟨h0, h1, h2, h3, h4⟩ := h.2.1 k hk; exact ⟨h0, h1, h2, h3, own_set h4 p u (fun e => h.2.2.1 k hk _ e hq)⟩, h.2.2⟩
theorem TxtOwn.anew {w : World} {B B' : Nat} {q : Option Nat} {rs rs' : List Rw} {l : List Cl} {v : Value} (h : TxtOwn w B q rs l) (ho : OwnR w B' v rs') : TxtOwn w B v.ownBlock rs l :=
  ⟨h.1, h.2.1, fun k hk g hg => own_kinds ho (h.2.1 k hk).2.2.2.2 (by decide) g hg, h.2.2.2⟩
theorem TxtOwn.setLow {w : World} {B : Nat} {q : Option Nat} {rs : List Rw} {l : List Cl} (h : TxtOwn w B q rs l) (p : Addr) (u : Value) (hp : p.block < B) : TxtOwn (w.setCell p u) B q rs l :=
  ⟨h.1, fun k hk => by obtain ⟨h0, h1, h2, h3, h4⟩ := h.2.1 k hk; exact ⟨h0, h1, h2, h3, own_set h4 p u (fun e => by have := (own_lt h4 e).1; omega)⟩, h.2.2⟩
theorem TxtOwn.rowLow {w : World} {B : Nat} {q : Option Nat} {rs : List Rw} {l : List Cl} (h : TxtOwn w B q rs l) (g : Nat) (cs : Array Value) (hp : g < B) : TxtOwn (w.setRow g cs) B q rs l :=
  ⟨h.1, fun k hk => by obtain ⟨h0, h1, h2, h3, h4⟩ := h.2.1 k hk; exact ⟨h0, h1, h2, h3, own_row h4 g cs (fun e => by have := (own_lt h4 e).1; omega)⟩, h.2.2⟩
theorem getD_snoc_lt {α : Type} (l : List α) (x d : α) (k : Nat) (h : k < l.length) : (l ++ [x]).getD k d = l.getD k d := by simp [List.getD, List.getElem?_append_left h]
theorem getD_snoc_eq {α : Type} (l : List α) (x d : α) (k : Nat) (h : k = l.length) : (l ++ [x]).getD k d = x := by subst h; simp [List.getD]
theorem TxtOwn.nil (w : World) (B : Nat) (q : Option Nat) : TxtOwn w B q [] [] := ⟨rfl, fun k hk => by simp at hk, fun k hk => by simp at hk, fun i k _ hk => by simp at hk⟩
/-- A row more, whose text lies where nothing lay. -/
theorem TxtOwn.snoc {w : World} {B C : Nat} {q : Option Nat} {rs : List Rw} {l : List Cl} {x : Rw} {y : Cl} (h : TxtOwn w B q rs l) (hx : RwOwn w B x y) (hq : ∀ g, (rwT x).ownBlock = some g → q ≠ some g)
    (hlt : ∀ k, k < rs.length → ∀ g, (rwT (rs.getD k rw0)).ownBlock = some g → g < C) (hge : ∀ g, (rwT x).ownBlock = some g → C ≤ g) : TxtOwn w B q (rs ++ [x]) (l ++ [y]) := by
  obtain ⟨e, h1, h2, h3⟩ := h
  refine ⟨by simp [e], fun k hk => ?_, fun k hk => ?_, fun i k hik hk => ?_⟩
  · by_cases hlt : k < rs.length
    · rw [getD_snoc_lt _ _ _ _ hlt, getD_snoc_lt _ _ _ _ (by omega)]
      exact h1 k hlt
    · have hk' : k = rs.length := by simp at hk; omega
      rw [getD_snoc_eq _ _ _ _ hk', getD_snoc_eq _ _ _ _ (by omega)]
      exact hx
  · by_cases hlt : k < rs.length
    · rw [getD_snoc_lt _ _ _ _ hlt]
      exact h2 k hlt
    · have hk' : k = rs.length := by simp at hk; omega
      rw [getD_snoc_eq _ _ _ _ hk']
      exact hq
  · by_cases hlt' : k < rs.length
    · rw [getD_snoc_lt _ _ _ _ hlt', getD_snoc_lt _ _ _ _ (by omega)]
      exact h3 i k hik hlt'
    · have hk' : k = rs.length := by simp at hk; omega
      rw [getD_snoc_eq _ _ _ _ hk', getD_snoc_lt _ _ _ _ (by omega)]
      exact fun _ hg hg' => absurd (hlt i (by omega) _ hg) (Nat.not_lt.2 (hge _ hg'))
theorem TxtOwn.blockLt {w : World} {B : Nat} {q : Option Nat} {rs : List Rw} {l : List Cl} (h : TxtOwn w B q rs l) : ∀ k, k < rs.length → ∀ g, (rwT (rs.getD k rw0)).ownBlock = some g → g < w.heap.size :=
  fun k hk _ hg => (own_lt (h.2.1 k hk).2.2.2.2 hg).2
end Go.Proofs.YtccoeachemnbnaaGreatDoor
namespace Go.Proofs.YtccoeachemnbnaaGreatDoor
open Go.RowKit

/-- A block: its kind, its level, its text, its table's rows, columns and cells. -/
abbrev Bl := Int × Int × List Sg × Int × Int × List Cl
def bl0 : Bl := (0, 0, [], 0, 0, [])
/-- The cells of a block at block b from o on, its text and its table's cells told. -/
def BlockIs (w : World) (b o : Nat) (x : Bl) (ta : Option Addr) (tn tc : Nat) (ca : Option Addr) (cn cc : Nat) : Prop :=
  w.cell? ⟨b, o, none⟩ = some (.int .i64 x.1) ∧ w.cell? ⟨b, o + 1, none⟩ = some (.int .i64 x.2.1) ∧ w.cell? ⟨b, o + 2, none⟩ = some (.slice ta tn tc) ∧ w.cell? ⟨b, o + 3, none⟩ = some (.int .i64 x.2.2.2.1) ∧ w.cell? ⟨b, o + 4, none⟩ = some (.int .i64 x.2.2.2.2.1) ∧ w.cell? ⟨b, o + 5, none⟩ = some (.slice ca cn cc) ∧
    Txt w ta tn tc x.2.2.1 ∧ Tab w ca cn cc x.2.2.2.2.2
def BlockAt (w : World) (b o : Nat) (x : Bl) : Prop := ∃ ta tn tc ca cn cc, BlockIs w b o x ta tn tc ca cn cc
/-- A slice value that reads as the blocks d. -/
def Dc (w : World) (a : Option Addr) (n cap : Nat) (d : List Bl) : Prop :=
  n = d.length ∧ n ≤ cap ∧ cap ≤ maxLen ∧ (d = [] ∨ ∃ b off, a = some ⟨b, off, none⟩ ∧ b < w.heap.size ∧ ∀ k, k < d.length → BlockAt w b (off + k * 6) (d.getD k bl0))
section
variable {w w' : World}
theorem BlockIs.below {b o : Nat} {x : Bl} {ta : Option Addr} {tn tc : Nat} {ca : Option Addr} {cn cc : Nat} (h : BlockIs w b o x ta tn tc ca cn cc) (hb : Below w.heap.size w w') (hlt : b < w.heap.size) : BlockIs w' b o x ta tn tc ca cn cc := by
  obtain ⟨h0, h1, h2, h3, h4, h5, ht, hc⟩ := h
  exact ⟨(hb.cell (p := ⟨b, _, none⟩) hlt).trans h0, (hb.cell (p := ⟨b, _, none⟩) hlt).trans h1, (hb.cell (p := ⟨b, _, none⟩) hlt).trans h2, (hb.cell (p := ⟨b, _, none⟩) hlt).trans h3, (hb.cell (p := ⟨b, _, none⟩) hlt).trans h4, (hb.cell (p := ⟨b, _, none⟩) hlt).trans h5, ht.below hb, hc.below hb⟩
theorem BlockAt.below {b o : Nat} {x : Bl} (h : BlockAt w b o x) (hb : Below w.heap.size w w') (hlt : b < w.heap.size) : BlockAt w' b o x := by
  obtain ⟨ta, tn, tc, ca, cn, cc, hh⟩ := h
  exact ⟨ta, tn, tc, ca, cn, cc, hh.below hb hlt⟩
theorem Dc.below {a : Option Addr} {n cap : Nat} {d : List Bl} (h : Dc w a n cap d) (hb : Below w.heap.size w w') : Dc w' a n cap d := by
  obtain ⟨h1, h2, h3, h4⟩ := h
  refine ⟨h1, h2, h3, ?_⟩
  rcases h4 with h4 | ⟨b, off, h5, h6, h7⟩
  · exact .inl h4
  · exact .inr ⟨b, off, h5, Nat.lt_of_lt_of_le h6 hb.size, fun k hk => (h7 k hk).below hb h6⟩
end
/-- A block as a value. -/
def blV (k v : Int) (ta : Option Addr) (tn tc : Nat) (R C : Int) (ca : Option Addr) (cn cc : Nat) : Array Value := #[.int .i64 k, .int .i64 v, .slice ta tn tc, .int .i64 R, .int .i64 C, .slice ca cn cc]
/-- Whether a table is nothing. -/
def noneB (R C : Int) (l : List Cl) : Bool := decide (R = 0) && decide (C = 0) && decide (l = [])
/-- Whether a block is in form. -/
def blockB (x : Bl) : Bool :=
  if x.1 = 1 then decide (x.2.1 = 0) && textB x.2.2.1 && noneB x.2.2.2.1 x.2.2.2.2.1 x.2.2.2.2.2
  else if x.1 = 2 then decide (0 ≤ x.2.1 ∧ x.2.1 ≤ 3) && textB x.2.2.1 && noneB x.2.2.2.1 x.2.2.2.2.1 x.2.2.2.2.2
  else if x.1 = 3 then decide (x.2.1 = 0) && decide (x.2.2.1 = []) && okB x.2.2.2.1 x.2.2.2.2.1 x.2.2.2.2.2
  else false
/-- How deep a block is as an item. -/
def lvN (x : Bl) : Int := if x.1 = 2 then x.2.1 else -1
def aheadN (d : List Bl) (k : Nat) : Int := if k = 0 then -1 else lvN (d.getD (k - 1) bl0)
def docK (d : List Bl) (k : Nat) : Bool := blockB (d.getD k bl0) && !(decide ((d.getD k bl0).1 = 2) && decide (aheadN d k + 1 < (d.getD k bl0).2.1))
def docB (d : List Bl) : Bool := decide (d.length ≤ 8) && (List.range d.length).all (docK d)

theorem l3None_is {R C : Int} {ca : Option Addr} {cn cc : Nat} {l : List Cl} {w : World} {x : Bool} (hx : noneB R C l = x) (h : Tab w ca cn cc l) :
    Calls Tryz.prog 66 #[.agg #[.int .i64 R, .int .i64 C, .slice ca cn cc]] w fun e w' => e = .returned (.bool x) ∧ Below w.heap.size w w' := by
  have hn := h.1
  have hl : (l = []) ↔ (cn = 0) := by rw [hn]; exact List.length_eq_zero_iff.symm
  have HX : Hid (noneB R C l = x) := hx
  have HL : Hid ((l = []) ↔ (cn = 0)) := hl
  clear h hn hl hx
  go_enter Tryz.func66, Tryz.ntmps66
  by_cases h1 : R = 0
  · by_cases h2 : C = 0
    · by_cases h3 : cn = 0
      · have HE : Hid (noneB R C l = true) := by
          show noneB R C l = true
          simp [noneB, h1, h2, HL.out.2 h3]
        have hxe : x = true := HX.out.symm.trans HE.out
        clear HE HX HL
        subst h1 h2 h3
        go_wp2
        all_goals go_ret
        all_goals exact ⟨by rw [hxe]; rfl, (Below.refl _ _).alloc (Nat.le_refl _) _⟩
      · have HE : Hid (noneB R C l = false) := by
          show noneB R C l = false
          simp [noneB, show ¬ l = [] from fun e => h3 (HL.out.1 e)]
        have hxe : x = false := HX.out.symm.trans HE.out
        clear HE HX HL
        subst h1 h2
        go_wp2
        all_goals go_ret
        all_goals exact ⟨by rw [hxe]; simp [h3], (Below.refl _ _).alloc (Nat.le_refl _) _⟩
    · subst h1
      go_wp2
      all_goals go_ret
      all_goals exact ⟨by rw [← HX.out]; simp [noneB, h2], (Below.refl _ _).alloc (Nat.le_refl _) _⟩
  · go_wp2
    all_goals go_ret
    all_goals exact ⟨by rw [← HX.out]; simp [noneB, h1], (Below.refl _ _).alloc (Nat.le_refl _) _⟩
end Go.Proofs.YtccoeachemnbnaaGreatDoor
namespace Go.Proofs.YtccoeachemnbnaaGreatDoor
open Go.ChangeShapes Go.WideShapes Go.ChangeAt Go.RowKit

section
variable {H : Type} {enc : TypeId × Value → H} {w : World} {base : Nat} {spare : Nat → Bool} {held : Bool}
set_option maxRecDepth 100000 in
theorem cellsSlB : Tryz.prog.cellsOf 33 = 1 := by kernel_rfl
set_option maxRecDepth 100000 in
theorem cellsBlock : Tryz.prog.cellsOf 93 = 6 := by kernel_rfl
set_option maxRecDepth 100000 in
theorem cellsDoc : Tryz.prog.cellsOf 35 = 1 := by kernel_rfl
set_option maxRecDepth 100000 in
/-- A block that came in, opened. -/
theorem open_block {fuel : Nat} {cs : List Value} {x : DataW H × List MemPlace} (h : DataW.trod enc Tryz.prog w base spare held fuel 93 cs = some x) :
    ∃ (k v : Int) (ta : Option Addr) (tn tc : Nat) (R C : Int) (ca : Option Addr) (cn cc : Nat) (t : List Sg) (l : List Cl), cs = [.int .i64 k, .int .i64 v, .slice ta tn tc, .int .i64 R, .int .i64 C, .slice ca cn cc] ∧ Txt w ta tn tc t ∧ Tab w ca cn cc l := by
  obtain ⟨xs, k, hk, hxy, hcl, hxl, hf⟩ := DataW.trod_struct Tryz.underlying93 h
  rw [cellsBlock] at hcl
  match xs, hxl, cs, hcl with
  | [y0, y1, y2, y3], _, [v0, v1, v2, v3, v4, v5], _ =>
    have g0 := hf 0 _ rfl
    have g1 := hf 1 _ rfl
    have g2 := hf 2 _ rfl
    have g3 := hf 3 _ rfl
    simp [cellsInt, cellsSlS, cellsTable] at g0 g1 g2 g3
    obtain ⟨n0, r0, _⟩ := DataW.trod_int Tryz.underlying3 g0
    obtain ⟨n1, r1, _⟩ := DataW.trod_int Tryz.underlying3 g1
    obtain ⟨ta, tn, tc, t, r2, ht⟩ := open_text g2
    obtain ⟨R, C, ca, cn, cc, l, r3, hc⟩ := open_table g3
    simp only [List.cons.injEq, and_true] at r0 r1 r2 r3
    obtain ⟨r3, r4, r5⟩ := r3
    subst r0 r1 r2 r3 r4 r5
    exact ⟨n0, n1, ta, tn, tc, R, C, ca, cn, cc, t, l, rfl, ht, hc⟩
set_option maxRecDepth 100000 in
/-- A slice of blocks that came in, opened. -/
theorem open_blocks {fuel : Nat} {cs : List Value} {x : DataW H × List MemPlace} (h : DataW.trod enc Tryz.prog w base spare held fuel 33 cs = some x) :
    ∃ (a : Option Addr) (len cap : Nat) (d : List Bl), cs = [.slice a len cap] ∧ Dc w a len cap d := by
  rcases Go.Deep.open_slice Tryz.underlying33 h with ⟨rfl, _⟩ | ⟨a, len, cap, m, n, D, Pl, rfl, hb, hl, hm, hmm, rfl, hx⟩
  · exact ⟨none, 0, 0, [], rfl, rfl, Nat.le_refl _, Nat.zero_le _, .inl rfl⟩
  have hlm : len ≤ m := by rw [hmm]; split <;> omega
  have each : ∀ i, i < len → ∃ q : Bl, ∃ ta tn tc ca cn cc, w.cell? (a.add (i * 6)) = some (.int .i64 q.1) ∧ w.cell? (a.add (i * 6 + 1)) = some (.int .i64 q.2.1) ∧ w.cell? (a.add (i * 6 + 2)) = some (.slice ta tn tc) ∧ w.cell? (a.add (i * 6 + 3)) = some (.int .i64 q.2.2.2.1) ∧ w.cell? (a.add (i * 6 + 4)) = some (.int .i64 q.2.2.2.2.1) ∧ w.cell? (a.add (i * 6 + 5)) = some (.slice ca cn cc) ∧
      Txt w ta tn tc q.2.2.1 ∧ Tab w ca cn cc q.2.2.2.2.2 := by
    intro i hi
    obtain ⟨cs', h1, h2⟩ := hx i (by omega)
    rw [cellsBlock] at h1
    obtain ⟨_, hlen, hcell⟩ := World.cells?_some h1
    obtain ⟨k, v, ta, tn, tc, R, C, ca, cn, cc, t, l, rfl, ht, hc⟩ := open_block h2
    have e0 := hcell 0 (by omega)
    have e1 := hcell 1 (by omega)
    have e2 := hcell 2 (by omega)
    have e3 := hcell 3 (by omega)
    have e4 := hcell 4 (by omega)
    have e5 := hcell 5 (by omega)
    rw [Go.Deep.add_add] at e0 e1 e2 e3 e4 e5
    exact ⟨(k, v, t, R, C, l), ta, tn, tc, ca, cn, cc, by simpa using e0, by simpa using e1, by simpa using e2, by simpa using e3, by simpa using e4, by simpa using e5, ht, hc⟩
  obtain ⟨q, hq⟩ := Go.Deep.choose_lt each
  refine ⟨some a, len, cap, (List.range len).map q, rfl, by simp, hl, hm, ?_⟩
  by_cases h0 : len = 0
  · subst h0; exact .inl (by simp)
  · obtain ⟨b, off, spot⟩ := a
    obtain ⟨_, _, _, _, _, _, hc, _⟩ := hq 0 (by omega)
    have hspot : spot = none := by simpa [Addr.add] using World.cell?_spot hc
    subst hspot
    refine .inr ⟨b, off, rfl, by have := World.block_lt_of_cell? _ _ hc; simpa [Addr.add_lit] using this, ?_⟩
    intro k hk
    have hk' : k < len := by simpa using hk
    obtain ⟨ta, tn, tc, ca, cn, cc, a0, a1, a2, a3, a4, a5, ht, hc'⟩ := hq k hk'
    have e : ((List.range len).map q).getD k bl0 = q k := by simp [List.getD, hk']
    rw [e]
    simp only [Addr.add_lit] at a0 a1 a2 a3 a4 a5
    exact ⟨ta, tn, tc, ca, cn, cc, a0, by rw [Nat.add_assoc]; exact a1, by rw [Nat.add_assoc]; exact a2, by rw [Nat.add_assoc]; exact a3, by rw [Nat.add_assoc]; exact a4, by rw [Nat.add_assoc]; exact a5, ht, hc'⟩
set_option maxRecDepth 100000 in
/-- A document that came in, opened. -/
theorem open_doc {fuel : Nat} {cs : List Value} {x : DataW H × List MemPlace} (h : DataW.trod enc Tryz.prog w base spare held fuel 35 cs = some x) :
    ∃ (a : Option Addr) (len cap : Nat) (d : List Bl), cs = [.slice a len cap] ∧ Dc w a len cap d := by
  obtain ⟨xs, k, hk, hxy, hcl, hxl, hf⟩ := DataW.trod_struct Tryz.underlying35 h
  rw [cellsDoc] at hcl
  match xs, hxl, cs, hcl with
  | [y0], _, [v0], _ =>
    have g0 := hf 0 _ rfl
    simp [cellsSlB] at g0
    exact open_blocks g0
end
end Go.Proofs.YtccoeachemnbnaaGreatDoor
namespace Go.Proofs.YtccoeachemnbnaaGreatDoor
open Go.ChangeShapes Go.WideShapes Go.ChangeAt Go.RowKit

section
variable {H : Type} {enc : TypeId × Value → H} {w : World} {base : Nat} {spare : Nat → Bool} {held : Bool}
set_option maxRecDepth 100000 in
theorem cellsPlace : Tryz.prog.cellsOf 36 = 3 := by kernel_rfl
set_option maxRecDepth 100000 in
/-- A place that came in, opened. -/
theorem open_place {fuel : Nat} {cs : List Value} {x : DataW H × List MemPlace} (h : DataW.trod enc Tryz.prog w base spare held fuel 36 cs = some x) :
    ∃ (b c a : Int), cs = [.int .i64 b, .int .i64 c, .int .i64 a] ∧ ((Lit.int .i64 b).wf = true ∧ (Lit.int .i64 c).wf = true ∧ (Lit.int .i64 a).wf = true) := by
  obtain ⟨xs, k, hk, hxy, hcl, hxl, hf⟩ := DataW.trod_struct Tryz.underlying36 h
  rw [cellsPlace] at hcl
  match xs, hxl, cs, hcl with
  | [y0, y1, y2], _, [v0, v1, v2], _ =>
    have g0 := hf 0 _ rfl
    have g1 := hf 1 _ rfl
    have g2 := hf 2 _ rfl
    simp [cellsInt] at g0 g1 g2
    obtain ⟨n0, r0, w0⟩ := DataW.trod_int Tryz.underlying3 g0
    obtain ⟨n1, r1, w1⟩ := DataW.trod_int Tryz.underlying3 g1
    obtain ⟨n2, r2, w2⟩ := DataW.trod_int Tryz.underlying3 g2
    simp only [List.cons.injEq, and_true] at r0 r1 r2
    subst r0 r1 r2
    exact ⟨n0, n1, n2, rfl, w0.2, w1.2, w2.2⟩
end
end Go.Proofs.YtccoeachemnbnaaGreatDoor
namespace Go.Proofs.YtccoeachemnbnaaGreatDoor
open Go.ChangeShapes Go.WideShapes Go.ChangeAt Go.RowKit

theorem gE : Tryz.prog.globalNamed "loop.example/limner/impl.errCannot" = some 0 := by kernel_rfl
theorem gEType : (Tryz.prog.globals[0]?).map (·.type) = some 66 := by kernel_rfl
theorem cellsErrStr : Tryz.prog.cellsOf 211 = 1 := by kernel_rfl
theorem cellsStr : Tryz.prog.cellsOf 9 = 1 := by kernel_rfl
theorem starErr : "*" ++ "errors.errorString" = "*errors.errorString" := by decide
theorem rowErr (u : TypeId) (h : Tryz.prog.typeName? 3 u = some "*errors.errorString") : u = 165 :=
  typeName_ptr_named (nm := "errors.errorString") (by rw [starErr]; kernel_rfl) (by kernel_rfl) (by decide) u (by rw [starErr]; exact h)
abbrev cannotS : ByteArray := { data := #[105, 116, 32, 99, 97, 110, 110, 111, 116, 32, 98, 101, 32, 100, 111, 110, 101] }
noncomputable def lowE : Nat := (World.holding Tryz.prog default ⟨#[], #[], []⟩).heap.size
noncomputable def laidWorld (os : Os) : World :=
  let w0 := World.holding Tryz.prog os ⟨#[.cells #[.string cannotS] 211], #[], []⟩
  { w0 with heap := w0.heap.modify 0 fun
      | .cells _ t frozen => .cells #[.iface 165 (.pointer (some ⟨lowE, 0, none⟩))] t frozen
      | o => o }
theorem var_belowE {W W' : World} {cs : Array Value} (h : W.var? Tryz.prog "loop.example/limner/impl.errCannot" = some cs) (hb : Below W.heap.size W W') : W'.var? Tryz.prog "loop.example/limner/impl.errCannot" = some cs := by
  unfold World.var? at h ⊢
  rw [gE] at h ⊢
  simp only [Option.bind_some] at h ⊢
  have hlt : 0 < W.heap.size := by
    rcases Nat.lt_or_ge 0 W.heap.size with h' | h'
    · exact h'
    · rw [Array.getElem?_eq_none h'] at h; cases h
  rw [hb.block 0 hlt]
  exact h
end Go.Proofs.YtccoeachemnbnaaGreatDoor
namespace Go.Proofs.YtccoeachemnbnaaGreatDoor
open Go.RowKit

/-- The text of a block, or of a cell of it, if there is such a one. -/
def textIn (x : Bl) (c : Int) : Option (List Sg) :=
  if x.1 = 3 then (if 0 ≤ c ∧ c < (x.2.2.2.2.2.length : Int) then some (x.2.2.2.2.2.getD c.toNat cl0).2.2.2.2 else none) else if c = 0 then some x.2.2.1 else none
/-- The text that a place is in, if there is such a place. -/
def placeT (d : List Bl) (b c a : Int) : Option (List Sg) :=
  if 0 ≤ b ∧ b < (d.length : Int) then (textIn (d.getD b.toNat bl0) c).bind fun t => if 0 ≤ a ∧ a ≤ (t.length : Int) then some t else none else none
/-- As placeT, of a document that is ok. -/
def plT (d : List Bl) (b c a : Int) : Option (List Sg) := if docB d = true then placeT d b c a else none
theorem placeT_nil (b c a : Int) : placeT [] b c a = none := by
  unfold placeT
  rw [if_neg (by simp)]
theorem placeT_out {d : List Bl} {b c a : Int} (h : ¬ (0 ≤ b ∧ b < (d.length : Int))) : placeT d b c a = none := by
  unfold placeT
  rw [if_neg h]
theorem placeT_in {d : List Bl} {b c a : Int} (h : 0 ≤ b ∧ b < (d.length : Int)) : placeT d b c a = (textIn (d.getD b.toNat bl0) c).bind fun t => if 0 ≤ a ∧ a ≤ (t.length : Int) then some t else none := by
  unfold placeT
  rw [if_pos h]
end Go.Proofs.YtccoeachemnbnaaGreatDoor
namespace Go.Proofs.YtccoeachemnbnaaGreatDoor
open Go.RowKit

theorem isNoTable_is {R C : Int} {ca : Option Addr} {cn cc : Nat} {l : List Cl} {w : World} {x : Bool} (hx : noneB R C l = x) (h : Tab w ca cn cc l) :
    Calls Tryz.prog 74 #[.agg #[.int .i64 R, .int .i64 C, .slice ca cn cc]] w fun e w' => e = .returned (.bool x) ∧ Below w.heap.size w w' := by
  have hn := h.1
  have hl : (l = []) ↔ (cn = 0) := by rw [hn]; exact List.length_eq_zero_iff.symm
  have HX : Hid (noneB R C l = x) := hx
  have HL : Hid ((l = []) ↔ (cn = 0)) := hl
  clear h hn hl hx
  go_enter Tryz.func74, Tryz.ntmps74
  by_cases h1 : R = 0
  · by_cases h2 : C = 0
    · by_cases h3 : cn = 0
      · have HE : Hid (noneB R C l = true) := by
          show noneB R C l = true
          simp [noneB, h1, h2, HL.out.2 h3]
        have hxe : x = true := HX.out.symm.trans HE.out
        clear HE HX HL
        subst h1 h2 h3
        go_wp2
        all_goals go_ret
        all_goals exact ⟨by rw [hxe]; rfl, (Below.refl _ _).alloc (Nat.le_refl _) _⟩
      · have HE : Hid (noneB R C l = false) := by
          show noneB R C l = false
          simp [noneB, show ¬ l = [] from fun e => h3 (HL.out.1 e)]
        have hxe : x = false := HX.out.symm.trans HE.out
        clear HE HX HL
        subst h1 h2
        go_wp2
        all_goals go_ret
        all_goals exact ⟨by rw [hxe]; simp [h3], (Below.refl _ _).alloc (Nat.le_refl _) _⟩
    · subst h1
      go_wp2
      all_goals go_ret
      all_goals exact ⟨by rw [← HX.out]; simp [noneB, h2], (Below.refl _ _).alloc (Nat.le_refl _) _⟩
  · go_wp2
    all_goals go_ret
    all_goals exact ⟨by rw [← HX.out]; simp [noneB, h1], (Below.refl _ _).alloc (Nat.le_refl _) _⟩
end Go.Proofs.YtccoeachemnbnaaGreatDoor
namespace Go.Proofs.YtccoeachemnbnaaGreatDoor
open Go.RowKit

theorem yieldsIf_load_row {P : Program} {ops : Array Oper} {S : World → Prop} {op : Oper} {a : Act} (hw : Region.wanted op (yielded ops a.tmps) = true) (ty : TypeId) (x : Operand) (ho : op.op = .load ty x)
    (g : Nat) (hx : a.eval x = .pointer (some ⟨g, 0, none⟩)) (t : TypeId) (cs : Array Value) (fr : Nat × Nat) (d : TypeDesc) (hS : ∀ w, S w → w.heap[g]? = some (.cells cs t fr))
    (hu : P.underlying ty = some d) (hd : (match d with | .struct _ | .array _ _ => true | _ => false) = true) (hi : (P.info? ty).map (·.size) = some cs.size) : YieldsIf P ops S op (.agg cs) a :=
  .inl ⟨hw, fun w hw' => by
    unfold execOp
    simp only [ho, hx, Instr.loadAt, Instr.sureAddr, Sem.run_bind, Sem.run_pure, Result.andThen_ok, run_loadVar_row w g t ty cs fr d (hS w hw') hu hd hi]⟩
end Go.Proofs.YtccoeachemnbnaaGreatDoor
namespace Go.Proofs.YtccoeachemnbnaaGreatDoor
open Go.RowKit

/-- Take number i first, what it yields told by a slot's number. -/
theorem take_at {P : Program} {ops : Array Oper} {Q : Exit → Act → World → Prop} {md : Region.Mode} {S : World → Prop} (i d : Nat) (v : Value) {oi : Oper} {fuel : Nat} {listed : Array Bool} {a : Act} {w : World} (hi : ops[i]? = some oi) (hd : oi.dst = some d)
    (hs : Region.noSelect ops = true) (hf : Region.free md ops listed i = true) (hr : (Region.ready md ops listed).contains i = true)
    (hQ : ∀ c a w, Q (.panic c) (a.put (some d) v) w → Q (.panic c) a w) (hy : YieldsIf P ops S oi v a) (hS : S w)
    (h : wpAnyH P md ops Q S fuel (listed.setIfInBounds i true) (a.put (some d) v) w) : wpAnyH P md ops Q S (fuel + 1) listed a w := by
  rw [← hd] at hQ h
  exact wpAnyH_take hi hs hf hr hQ hy hS h
end Go.Proofs.YtccoeachemnbnaaGreatDoor
namespace Go.Proofs.YtccoeachemnbnaaGreatDoor
open Go.RowKit

/-- A part as a value, by a block's kind. -/
def partV (k v : Int) (ta : Option Addr) (tn tc : Nat) (R C : Int) (ca : Option Addr) (cn cc : Nat) : Value :=
  if k = 1 then .iface 123 (.agg #[.slice ta tn tc]) else if k = 2 then .iface 125 (.agg #[.int .i64 v, .slice ta tn tc]) else if k = 3 then .iface 127 (.agg #[.int .i64 R, .int .i64 C, .slice ca cn cc]) else .nilIface
/-- Whether a block has nothing that is not of its kind. -/
def partB (k v : Int) (t : List Sg) (R C : Int) (l : List Cl) : Bool :=
  if k = 1 then decide (v = 0) && noneB R C l else if k = 2 then noneB R C l else if k = 3 then decide (v = 0) && decide (t = []) else false
set_option maxRecDepth 100000 in
set_option maxHeartbeats 4000000 in
theorem partOf_is {k v : Int} {ta : Option Addr} {tn tc : Nat} {R C : Int} {ca : Option Addr} {cn cc : Nat} {t : List Sg} {l : List Cl} {w : World} (ht : Txt w ta tn tc t) (hc : Tab w ca cn cc l) :
    Calls Tryz.prog 52 #[.agg #[.int .i64 k, .int .i64 v, .slice ta tn tc, .int .i64 R, .int .i64 C, .slice ca cn cc]] w fun e w' => e = .returned (.tuple #[partV k v ta tn tc R C ca cn cc, .bool (partB k v t R C l)]) ∧ Below w.heap.size w w' := by
  obtain ⟨nb, HNB⟩ : ∃ b, Hid (noneB R C l = b) := ⟨_, rfl⟩
  have HTN : Hid ((t = []) ↔ (tn = 0)) := by
    have hn := ht.1
    show (t = []) ↔ (tn = 0)
    rw [hn]
    exact List.length_eq_zero_iff.symm
  go_enter Tryz.func52, Tryz.ntmps52
  go_upto_region 1 with fail
  have B0 : Below w.heap.size w (w.alloc (.cells #[.int .i64 k, .int .i64 v, .slice ta tn tc, .int .i64 R, .int .i64 C, .slice ca cn cc] 56)) := (Below.refl _ _).alloc (Nat.le_refl _) _
  have G0 : RowAt (w.alloc (.cells #[.int .i64 k, .int .i64 v, .slice ta tn tc, .int .i64 R, .int .i64 C, .slice ca cn cc] 56)) w.heap.size #[.int .i64 k, .int .i64 v, .slice ta tn tc, .int .i64 R, .int .i64 C, .slice ca cn cc] 56 := rowAt_new _ _ _
  generalize (w.alloc (.cells #[.int .i64 k, .int .i64 v, .slice ta tn tc, .int .i64 R, .int .i64 C, .slice ca cn cc] 56)) = v0 at B0 G0 ⊢
  have HC0 : Hid (Tab v0 ca cn cc l) := hc.below B0
  have HB0 : Hid (Below w.heap.size w v0) := B0
  have HG0 : Hid (RowAt v0 w.heap.size #[.int .i64 k, .int .i64 v, .slice ta tn tc, .int .i64 R, .int .i64 C, .slice ca cn cc] 56) := G0
  have q0 : v0.cell? ⟨w.heap.size, 0, none⟩ = some (.int .i64 k) := G0.cell 0
  clear B0 G0 ht hc
  by_cases h1 : k = 1
  · subst h1
    go_upto_region 3 with fail
    clear q0
    by_cases hv : v = 0
    · subst hv
      cases nb
      · refine wp_region_noPanic ?_
        refine wp_region_held_drew (S := fun w' => RowAt w' w.heap.size #[.int .i64 1, .int .i64 0, .slice ta tn tc, .int .i64 R, .int .i64 C, .slice ca cn cc] 56) (by kernel_rfl) HG0.out (fun hHeld => ?_)
        refine take_at 0 8 (.pointer (some ⟨w.heap.size, 2, none⟩)) rfl rfl (by kernel_rfl) (by kernel_rfl) (by kernel_rfl) (fun _ _ _ h => h) (Or.inl ⟨by kernel_rfl, fun w' hS' => by go_simp⟩) hHeld ?_
        (try simp only [Act.put, List.setIfInBounds_toArray, List.set_cons_zero, List.set_cons_succ])
        refine take_at 1 9 (.slice ta tn tc) rfl rfl (by kernel_rfl) (by kernel_rfl) (by kernel_rfl) (fun _ _ _ h => h) (Or.inl ⟨by kernel_rfl, fun w' hS' => by have hc := RowAt.cell hS' 2; go_simp⟩) hHeld ?_
        (try simp only [Act.put, List.setIfInBounds_toArray, List.set_cons_zero, List.set_cons_succ])
        refine take_at 2 10 (.agg #[.slice ta tn tc]) rfl rfl (by kernel_rfl) (by kernel_rfl) (by kernel_rfl) (fun _ _ _ h => h) (Or.inl ⟨by kernel_rfl, fun w' hS' => by go_simp⟩) hHeld ?_
        (try simp only [Act.put, List.setIfInBounds_toArray, List.set_cons_zero, List.set_cons_succ])
        refine take_at 3 11 (.iface 123 (.agg #[.slice ta tn tc])) rfl rfl (by kernel_rfl) (by kernel_rfl) (by kernel_rfl) (fun _ _ _ h => h) (Or.inl ⟨by kernel_rfl, fun w' hS' => by go_simp⟩) hHeld ?_
        (try simp only [Act.put, List.setIfInBounds_toArray, List.set_cons_zero, List.set_cons_succ])
        refine take_at 4 12 (.pointer (some ⟨w.heap.size, 1, none⟩)) rfl rfl (by kernel_rfl) (by kernel_rfl) (by kernel_rfl) (fun _ _ _ h => h) (Or.inl ⟨by kernel_rfl, fun w' hS' => by go_simp⟩) hHeld ?_
        (try simp only [Act.put, List.setIfInBounds_toArray, List.set_cons_zero, List.set_cons_succ])
        refine take_at 5 13 (.int .i64 0) rfl rfl (by kernel_rfl) (by kernel_rfl) (by kernel_rfl) (fun _ _ _ h => h) (Or.inl ⟨by kernel_rfl, fun w' hS' => by have hc := RowAt.cell hS' 1; go_simp⟩) hHeld ?_
        (try simp only [Act.put, List.setIfInBounds_toArray, List.set_cons_zero, List.set_cons_succ])
        refine take_at 6 14 (.bool true) rfl rfl (by kernel_rfl) (by kernel_rfl) (by kernel_rfl) (fun _ _ _ h => h) (Or.inl ⟨by kernel_rfl, fun w' hS' => by go_simp⟩) hHeld ?_
        (try simp only [Act.put, List.setIfInBounds_toArray, List.set_cons_zero, List.set_cons_succ])
        refine take_at 7 15 (.bool true) rfl rfl (by kernel_rfl) (by kernel_rfl) (by kernel_rfl) (fun _ _ _ h => h) (Or.inl ⟨by kernel_rfl, fun w' hS' => by go_simp⟩) hHeld ?_
        (try simp only [Act.put, List.setIfInBounds_toArray, List.set_cons_zero, List.set_cons_succ])
        refine take_at 8 16 (.pointer (some ⟨w.heap.size, 3, none⟩)) rfl rfl (by kernel_rfl) (by kernel_rfl) (by kernel_rfl) (fun _ _ _ h => h) (Or.inl ⟨by kernel_rfl, fun w' hS' => by go_simp⟩) hHeld ?_
        (try simp only [Act.put, List.setIfInBounds_toArray, List.set_cons_zero, List.set_cons_succ])
        refine take_at 9 17 (.agg #[.int .i64 R, .int .i64 C, .slice ca cn cc]) rfl rfl (by kernel_rfl) (by kernel_rfl) (by kernel_rfl) (fun _ _ _ h => h) (Or.inl ⟨by kernel_rfl, fun w' hS' => by have h3 := RowAt.cell hS' 3; have h4 := RowAt.cell hS' 4; have h5 := RowAt.cell hS' 5; go_simp⟩) hHeld ?_
        (try simp only [Act.put, List.setIfInBounds_toArray, List.set_cons_zero, List.set_cons_succ])
        have HC1 : Hid (Tab v0.drew ca cn cc l) := HC0.out.below ((Below.refl _ _).drew)
        have HB1 : Hid (Below w.heap.size w v0.drew) := HB0.out.drew
        generalize v0.drew = u0 at HC1 HB1 hHeld ⊢
        refine wpAnyH_ready (rs := [10]) (by kernel_rfl) (by simp) ?_
        refine AllReadyH.cons rfl (fun K0 hK => ?_) AllReadyH.nil
        go_simp
        go_at_call 74
        refine (isNoTable_is HNB.out HC1.out).mono ?_
        rintro e u1 ⟨rfl, hb⟩
        have HB2 : Hid (Below w.heap.size w u1) := HB1.out.trans (hb.mono HB1.out.size)
        go_wp2_with fail
        refine hK.out _ _ (hHeld.below hb hHeld.lt) (fun hHeld => ?_)
        clear hK K0
        (try simp only [Act.put, List.setIfInBounds_toArray, List.set_cons_zero, List.set_cons_succ])
        refine take_at 11 19 (.bool false) rfl rfl (by kernel_rfl) (by kernel_rfl) (by kernel_rfl) (fun _ _ _ h => h) (Or.inl ⟨by kernel_rfl, fun w' hS' => by go_simp⟩) hHeld ?_
        (try simp only [Act.put, List.setIfInBounds_toArray, List.set_cons_zero, List.set_cons_succ])
        refine take_at 12 2 (.iface 123 (.agg #[.slice ta tn tc])) rfl rfl (by kernel_rfl) (by kernel_rfl) (by kernel_rfl) (fun _ _ _ h => h) (Or.inl ⟨by kernel_rfl, fun w' hS' => by go_simp⟩) hHeld ?_
        (try simp only [Act.put, List.setIfInBounds_toArray, List.set_cons_zero, List.set_cons_succ])
        refine take_at 13 3 (.bool false) rfl rfl (by kernel_rfl) (by kernel_rfl) (by kernel_rfl) (fun _ _ _ h => h) (Or.inl ⟨by kernel_rfl, fun w' hS' => by go_simp⟩) hHeld ?_
        (try simp only [Act.put, List.setIfInBounds_toArray, List.set_cons_zero, List.set_cons_succ])
        refine wpAnyH_done (by kernel_rfl) ?_ _
        refine NoPanic.normal ?_
        clear hHeld
        go_wp2_with fail
        go_ret2
        exact ⟨by simp [partV, partB, HNB.out], HB2.out⟩
      · refine wp_region_noPanic ?_
        refine wp_region_held_drew (S := fun w' => RowAt w' w.heap.size #[.int .i64 1, .int .i64 0, .slice ta tn tc, .int .i64 R, .int .i64 C, .slice ca cn cc] 56) (by kernel_rfl) HG0.out (fun hHeld => ?_)
        refine take_at 0 8 (.pointer (some ⟨w.heap.size, 2, none⟩)) rfl rfl (by kernel_rfl) (by kernel_rfl) (by kernel_rfl) (fun _ _ _ h => h) (Or.inl ⟨by kernel_rfl, fun w' hS' => by go_simp⟩) hHeld ?_
        (try simp only [Act.put, List.setIfInBounds_toArray, List.set_cons_zero, List.set_cons_succ])
        refine take_at 1 9 (.slice ta tn tc) rfl rfl (by kernel_rfl) (by kernel_rfl) (by kernel_rfl) (fun _ _ _ h => h) (Or.inl ⟨by kernel_rfl, fun w' hS' => by have hc := RowAt.cell hS' 2; go_simp⟩) hHeld ?_
        (try simp only [Act.put, List.setIfInBounds_toArray, List.set_cons_zero, List.set_cons_succ])
        refine take_at 2 10 (.agg #[.slice ta tn tc]) rfl rfl (by kernel_rfl) (by kernel_rfl) (by kernel_rfl) (fun _ _ _ h => h) (Or.inl ⟨by kernel_rfl, fun w' hS' => by go_simp⟩) hHeld ?_
        (try simp only [Act.put, List.setIfInBounds_toArray, List.set_cons_zero, List.set_cons_succ])
        refine take_at 3 11 (.iface 123 (.agg #[.slice ta tn tc])) rfl rfl (by kernel_rfl) (by kernel_rfl) (by kernel_rfl) (fun _ _ _ h => h) (Or.inl ⟨by kernel_rfl, fun w' hS' => by go_simp⟩) hHeld ?_
        (try simp only [Act.put, List.setIfInBounds_toArray, List.set_cons_zero, List.set_cons_succ])
        refine take_at 4 12 (.pointer (some ⟨w.heap.size, 1, none⟩)) rfl rfl (by kernel_rfl) (by kernel_rfl) (by kernel_rfl) (fun _ _ _ h => h) (Or.inl ⟨by kernel_rfl, fun w' hS' => by go_simp⟩) hHeld ?_
        (try simp only [Act.put, List.setIfInBounds_toArray, List.set_cons_zero, List.set_cons_succ])
        refine take_at 5 13 (.int .i64 0) rfl rfl (by kernel_rfl) (by kernel_rfl) (by kernel_rfl) (fun _ _ _ h => h) (Or.inl ⟨by kernel_rfl, fun w' hS' => by have hc := RowAt.cell hS' 1; go_simp⟩) hHeld ?_
        (try simp only [Act.put, List.setIfInBounds_toArray, List.set_cons_zero, List.set_cons_succ])
        refine take_at 6 14 (.bool true) rfl rfl (by kernel_rfl) (by kernel_rfl) (by kernel_rfl) (fun _ _ _ h => h) (Or.inl ⟨by kernel_rfl, fun w' hS' => by go_simp⟩) hHeld ?_
        (try simp only [Act.put, List.setIfInBounds_toArray, List.set_cons_zero, List.set_cons_succ])
        refine take_at 7 15 (.bool true) rfl rfl (by kernel_rfl) (by kernel_rfl) (by kernel_rfl) (fun _ _ _ h => h) (Or.inl ⟨by kernel_rfl, fun w' hS' => by go_simp⟩) hHeld ?_
        (try simp only [Act.put, List.setIfInBounds_toArray, List.set_cons_zero, List.set_cons_succ])
        refine take_at 8 16 (.pointer (some ⟨w.heap.size, 3, none⟩)) rfl rfl (by kernel_rfl) (by kernel_rfl) (by kernel_rfl) (fun _ _ _ h => h) (Or.inl ⟨by kernel_rfl, fun w' hS' => by go_simp⟩) hHeld ?_
        (try simp only [Act.put, List.setIfInBounds_toArray, List.set_cons_zero, List.set_cons_succ])
        refine take_at 9 17 (.agg #[.int .i64 R, .int .i64 C, .slice ca cn cc]) rfl rfl (by kernel_rfl) (by kernel_rfl) (by kernel_rfl) (fun _ _ _ h => h) (Or.inl ⟨by kernel_rfl, fun w' hS' => by have h3 := RowAt.cell hS' 3; have h4 := RowAt.cell hS' 4; have h5 := RowAt.cell hS' 5; go_simp⟩) hHeld ?_
        (try simp only [Act.put, List.setIfInBounds_toArray, List.set_cons_zero, List.set_cons_succ])
        have HC1 : Hid (Tab v0.drew ca cn cc l) := HC0.out.below ((Below.refl _ _).drew)
        have HB1 : Hid (Below w.heap.size w v0.drew) := HB0.out.drew
        generalize v0.drew = u0 at HC1 HB1 hHeld ⊢
        refine wpAnyH_ready (rs := [10]) (by kernel_rfl) (by simp) ?_
        refine AllReadyH.cons rfl (fun K0 hK => ?_) AllReadyH.nil
        go_simp
        go_at_call 74
        refine (isNoTable_is HNB.out HC1.out).mono ?_
        rintro e u1 ⟨rfl, hb⟩
        have HB2 : Hid (Below w.heap.size w u1) := HB1.out.trans (hb.mono HB1.out.size)
        go_wp2_with fail
        refine hK.out _ _ (hHeld.below hb hHeld.lt) (fun hHeld => ?_)
        clear hK K0
        (try simp only [Act.put, List.setIfInBounds_toArray, List.set_cons_zero, List.set_cons_succ])
        refine take_at 11 19 (.bool true) rfl rfl (by kernel_rfl) (by kernel_rfl) (by kernel_rfl) (fun _ _ _ h => h) (Or.inl ⟨by kernel_rfl, fun w' hS' => by go_simp⟩) hHeld ?_
        (try simp only [Act.put, List.setIfInBounds_toArray, List.set_cons_zero, List.set_cons_succ])
        refine take_at 12 2 (.iface 123 (.agg #[.slice ta tn tc])) rfl rfl (by kernel_rfl) (by kernel_rfl) (by kernel_rfl) (fun _ _ _ h => h) (Or.inl ⟨by kernel_rfl, fun w' hS' => by go_simp⟩) hHeld ?_
        (try simp only [Act.put, List.setIfInBounds_toArray, List.set_cons_zero, List.set_cons_succ])
        refine take_at 13 3 (.bool true) rfl rfl (by kernel_rfl) (by kernel_rfl) (by kernel_rfl) (fun _ _ _ h => h) (Or.inl ⟨by kernel_rfl, fun w' hS' => by go_simp⟩) hHeld ?_
        (try simp only [Act.put, List.setIfInBounds_toArray, List.set_cons_zero, List.set_cons_succ])
        refine wpAnyH_done (by kernel_rfl) ?_ _
        refine NoPanic.normal ?_
        clear hHeld
        go_wp2_with fail
        go_ret2
        exact ⟨by simp [partV, partB, HNB.out], HB2.out⟩
    · refine wp_region_noPanic ?_
      refine wp_region_held_drew (S := fun w' => RowAt w' w.heap.size #[.int .i64 1, .int .i64 v, .slice ta tn tc, .int .i64 R, .int .i64 C, .slice ca cn cc] 56) (by kernel_rfl) HG0.out (fun hHeld => ?_)
      refine take_at 0 8 (.pointer (some ⟨w.heap.size, 2, none⟩)) rfl rfl (by kernel_rfl) (by kernel_rfl) (by kernel_rfl) (fun _ _ _ h => h) (Or.inl ⟨by kernel_rfl, fun w' hS' => by go_simp⟩) hHeld ?_
      (try simp only [Act.put, List.setIfInBounds_toArray, List.set_cons_zero, List.set_cons_succ])
      refine take_at 1 9 (.slice ta tn tc) rfl rfl (by kernel_rfl) (by kernel_rfl) (by kernel_rfl) (fun _ _ _ h => h) (Or.inl ⟨by kernel_rfl, fun w' hS' => by have hc := RowAt.cell hS' 2; go_simp⟩) hHeld ?_
      (try simp only [Act.put, List.setIfInBounds_toArray, List.set_cons_zero, List.set_cons_succ])
      refine take_at 2 10 (.agg #[.slice ta tn tc]) rfl rfl (by kernel_rfl) (by kernel_rfl) (by kernel_rfl) (fun _ _ _ h => h) (Or.inl ⟨by kernel_rfl, fun w' hS' => by go_simp⟩) hHeld ?_
      (try simp only [Act.put, List.setIfInBounds_toArray, List.set_cons_zero, List.set_cons_succ])
      refine take_at 3 11 (.iface 123 (.agg #[.slice ta tn tc])) rfl rfl (by kernel_rfl) (by kernel_rfl) (by kernel_rfl) (fun _ _ _ h => h) (Or.inl ⟨by kernel_rfl, fun w' hS' => by go_simp⟩) hHeld ?_
      (try simp only [Act.put, List.setIfInBounds_toArray, List.set_cons_zero, List.set_cons_succ])
      refine take_at 4 12 (.pointer (some ⟨w.heap.size, 1, none⟩)) rfl rfl (by kernel_rfl) (by kernel_rfl) (by kernel_rfl) (fun _ _ _ h => h) (Or.inl ⟨by kernel_rfl, fun w' hS' => by go_simp⟩) hHeld ?_
      (try simp only [Act.put, List.setIfInBounds_toArray, List.set_cons_zero, List.set_cons_succ])
      refine take_at 5 13 (.int .i64 v) rfl rfl (by kernel_rfl) (by kernel_rfl) (by kernel_rfl) (fun _ _ _ h => h) (Or.inl ⟨by kernel_rfl, fun w' hS' => by have hc := RowAt.cell hS' 1; go_simp⟩) hHeld ?_
      (try simp only [Act.put, List.setIfInBounds_toArray, List.set_cons_zero, List.set_cons_succ])
      refine take_at 6 14 (.bool false) rfl rfl (by kernel_rfl) (by kernel_rfl) (by kernel_rfl) (fun _ _ _ h => h) (Or.inl ⟨by kernel_rfl, fun w' hS' => by go_simp <;> omega⟩) hHeld ?_
      (try simp only [Act.put, List.setIfInBounds_toArray, List.set_cons_zero, List.set_cons_succ])
      refine take_at 7 15 (.bool false) rfl rfl (by kernel_rfl) (by kernel_rfl) (by kernel_rfl) (fun _ _ _ h => h) (Or.inl ⟨by kernel_rfl, fun w' hS' => by go_simp⟩) hHeld ?_
      (try simp only [Act.put, List.setIfInBounds_toArray, List.set_cons_zero, List.set_cons_succ])
      refine take_at 8 16 (undef) rfl rfl (by kernel_rfl) (by kernel_rfl) (by kernel_rfl) (fun _ _ _ h => h) (Or.inr ⟨by kernel_rfl, rfl⟩) hHeld ?_
      (try simp only [Act.put, List.setIfInBounds_toArray, List.set_cons_zero, List.set_cons_succ])
      refine take_at 9 17 (undef) rfl rfl (by kernel_rfl) (by kernel_rfl) (by kernel_rfl) (fun _ _ _ h => h) (Or.inr ⟨by kernel_rfl, rfl⟩) hHeld ?_
      (try simp only [Act.put, List.setIfInBounds_toArray, List.set_cons_zero, List.set_cons_succ])
      refine take_at 10 18 (undef) rfl rfl (by kernel_rfl) (by kernel_rfl) (by kernel_rfl) (fun _ _ _ h => h) (Or.inr ⟨by kernel_rfl, rfl⟩) hHeld ?_
      (try simp only [Act.put, List.setIfInBounds_toArray, List.set_cons_zero, List.set_cons_succ])
      refine take_at 11 19 (.bool false) rfl rfl (by kernel_rfl) (by kernel_rfl) (by kernel_rfl) (fun _ _ _ h => h) (Or.inl ⟨by kernel_rfl, fun w' hS' => by go_simp⟩) hHeld ?_
      (try simp only [Act.put, List.setIfInBounds_toArray, List.set_cons_zero, List.set_cons_succ])
      refine take_at 12 2 (.iface 123 (.agg #[.slice ta tn tc])) rfl rfl (by kernel_rfl) (by kernel_rfl) (by kernel_rfl) (fun _ _ _ h => h) (Or.inl ⟨by kernel_rfl, fun w' hS' => by go_simp⟩) hHeld ?_
      (try simp only [Act.put, List.setIfInBounds_toArray, List.set_cons_zero, List.set_cons_succ])
      refine take_at 13 3 (.bool false) rfl rfl (by kernel_rfl) (by kernel_rfl) (by kernel_rfl) (fun _ _ _ h => h) (Or.inl ⟨by kernel_rfl, fun w' hS' => by go_simp⟩) hHeld ?_
      (try simp only [Act.put, List.setIfInBounds_toArray, List.set_cons_zero, List.set_cons_succ])
      refine wpAnyH_done (by kernel_rfl) ?_ _
      refine NoPanic.normal ?_
      clear hHeld
      go_wp2_with fail
      go_ret2
      exact ⟨by simp [partV, partB, hv], HB0.out.drew⟩
  · by_cases h2 : k = 2
    · subst h2
      go_upto_region 5 with fail
      clear q0
      cases nb
      · refine wp_region_noPanic ?_
        refine wp_region_held_drew (S := fun w' => RowAt w' w.heap.size #[.int .i64 2, .int .i64 v, .slice ta tn tc, .int .i64 R, .int .i64 C, .slice ca cn cc] 56) (by kernel_rfl) HG0.out (fun hHeld => ?_)
        refine take_at 0 22 (.pointer (some ⟨w.heap.size, 1, none⟩)) rfl rfl (by kernel_rfl) (by kernel_rfl) (by kernel_rfl) (fun _ _ _ h => h) (Or.inl ⟨by kernel_rfl, fun w' hS' => by go_simp⟩) hHeld ?_
        (try simp only [Act.put, List.setIfInBounds_toArray, List.set_cons_zero, List.set_cons_succ])
        refine take_at 1 23 (.int .i64 v) rfl rfl (by kernel_rfl) (by kernel_rfl) (by kernel_rfl) (fun _ _ _ h => h) (Or.inl ⟨by kernel_rfl, fun w' hS' => by have hc := RowAt.cell hS' 1; go_simp⟩) hHeld ?_
        (try simp only [Act.put, List.setIfInBounds_toArray, List.set_cons_zero, List.set_cons_succ])
        refine take_at 2 24 (.pointer (some ⟨w.heap.size, 2, none⟩)) rfl rfl (by kernel_rfl) (by kernel_rfl) (by kernel_rfl) (fun _ _ _ h => h) (Or.inl ⟨by kernel_rfl, fun w' hS' => by go_simp⟩) hHeld ?_
        (try simp only [Act.put, List.setIfInBounds_toArray, List.set_cons_zero, List.set_cons_succ])
        refine take_at 3 25 (.slice ta tn tc) rfl rfl (by kernel_rfl) (by kernel_rfl) (by kernel_rfl) (fun _ _ _ h => h) (Or.inl ⟨by kernel_rfl, fun w' hS' => by have hc := RowAt.cell hS' 2; go_simp⟩) hHeld ?_
        (try simp only [Act.put, List.setIfInBounds_toArray, List.set_cons_zero, List.set_cons_succ])
        refine take_at 4 26 (.agg #[.int .i64 v, .slice ta tn tc]) rfl rfl (by kernel_rfl) (by kernel_rfl) (by kernel_rfl) (fun _ _ _ h => h) (Or.inl ⟨by kernel_rfl, fun w' hS' => by go_simp⟩) hHeld ?_
        (try simp only [Act.put, List.setIfInBounds_toArray, List.set_cons_zero, List.set_cons_succ])
        refine take_at 5 27 (.iface 125 (.agg #[.int .i64 v, .slice ta tn tc])) rfl rfl (by kernel_rfl) (by kernel_rfl) (by kernel_rfl) (fun _ _ _ h => h) (Or.inl ⟨by kernel_rfl, fun w' hS' => by go_simp⟩) hHeld ?_
        (try simp only [Act.put, List.setIfInBounds_toArray, List.set_cons_zero, List.set_cons_succ])
        refine take_at 6 28 (.pointer (some ⟨w.heap.size, 3, none⟩)) rfl rfl (by kernel_rfl) (by kernel_rfl) (by kernel_rfl) (fun _ _ _ h => h) (Or.inl ⟨by kernel_rfl, fun w' hS' => by go_simp⟩) hHeld ?_
        (try simp only [Act.put, List.setIfInBounds_toArray, List.set_cons_zero, List.set_cons_succ])
        refine take_at 7 29 (.agg #[.int .i64 R, .int .i64 C, .slice ca cn cc]) rfl rfl (by kernel_rfl) (by kernel_rfl) (by kernel_rfl) (fun _ _ _ h => h) (Or.inl ⟨by kernel_rfl, fun w' hS' => by have h3 := RowAt.cell hS' 3; have h4 := RowAt.cell hS' 4; have h5 := RowAt.cell hS' 5; go_simp⟩) hHeld ?_
        (try simp only [Act.put, List.setIfInBounds_toArray, List.set_cons_zero, List.set_cons_succ])
        have HC1 : Hid (Tab v0.drew ca cn cc l) := HC0.out.below ((Below.refl _ _).drew)
        have HB1 : Hid (Below w.heap.size w v0.drew) := HB0.out.drew
        generalize v0.drew = u0 at HC1 HB1 hHeld ⊢
        refine wpAnyH_ready (rs := [8]) (by kernel_rfl) (by simp) ?_
        refine AllReadyH.cons rfl (fun K0 hK => ?_) AllReadyH.nil
        go_simp
        go_at_call 74
        refine (isNoTable_is HNB.out HC1.out).mono ?_
        rintro e u1 ⟨rfl, hb⟩
        have HB2 : Hid (Below w.heap.size w u1) := HB1.out.trans (hb.mono HB1.out.size)
        go_wp2_with fail
        refine hK.out _ _ (hHeld.below hb hHeld.lt) (fun hHeld => ?_)
        clear hK K0
        (try simp only [Act.put, List.setIfInBounds_toArray, List.set_cons_zero, List.set_cons_succ])
        refine take_at 9 2 (.iface 125 (.agg #[.int .i64 v, .slice ta tn tc])) rfl rfl (by kernel_rfl) (by kernel_rfl) (by kernel_rfl) (fun _ _ _ h => h) (Or.inl ⟨by kernel_rfl, fun w' hS' => by go_simp⟩) hHeld ?_
        (try simp only [Act.put, List.setIfInBounds_toArray, List.set_cons_zero, List.set_cons_succ])
        refine take_at 10 3 (.bool false) rfl rfl (by kernel_rfl) (by kernel_rfl) (by kernel_rfl) (fun _ _ _ h => h) (Or.inl ⟨by kernel_rfl, fun w' hS' => by go_simp⟩) hHeld ?_
        (try simp only [Act.put, List.setIfInBounds_toArray, List.set_cons_zero, List.set_cons_succ])
        refine wpAnyH_done (by kernel_rfl) ?_ _
        refine NoPanic.normal ?_
        clear hHeld
        go_wp2_with fail
        go_ret2
        exact ⟨by simp [partV, partB, HNB.out], HB2.out⟩
      · refine wp_region_noPanic ?_
        refine wp_region_held_drew (S := fun w' => RowAt w' w.heap.size #[.int .i64 2, .int .i64 v, .slice ta tn tc, .int .i64 R, .int .i64 C, .slice ca cn cc] 56) (by kernel_rfl) HG0.out (fun hHeld => ?_)
        refine take_at 0 22 (.pointer (some ⟨w.heap.size, 1, none⟩)) rfl rfl (by kernel_rfl) (by kernel_rfl) (by kernel_rfl) (fun _ _ _ h => h) (Or.inl ⟨by kernel_rfl, fun w' hS' => by go_simp⟩) hHeld ?_
        (try simp only [Act.put, List.setIfInBounds_toArray, List.set_cons_zero, List.set_cons_succ])
        refine take_at 1 23 (.int .i64 v) rfl rfl (by kernel_rfl) (by kernel_rfl) (by kernel_rfl) (fun _ _ _ h => h) (Or.inl ⟨by kernel_rfl, fun w' hS' => by have hc := RowAt.cell hS' 1; go_simp⟩) hHeld ?_
        (try simp only [Act.put, List.setIfInBounds_toArray, List.set_cons_zero, List.set_cons_succ])
        refine take_at 2 24 (.pointer (some ⟨w.heap.size, 2, none⟩)) rfl rfl (by kernel_rfl) (by kernel_rfl) (by kernel_rfl) (fun _ _ _ h => h) (Or.inl ⟨by kernel_rfl, fun w' hS' => by go_simp⟩) hHeld ?_
        (try simp only [Act.put, List.setIfInBounds_toArray, List.set_cons_zero, List.set_cons_succ])
        refine take_at 3 25 (.slice ta tn tc) rfl rfl (by kernel_rfl) (by kernel_rfl) (by kernel_rfl) (fun _ _ _ h => h) (Or.inl ⟨by kernel_rfl, fun w' hS' => by have hc := RowAt.cell hS' 2; go_simp⟩) hHeld ?_
        (try simp only [Act.put, List.setIfInBounds_toArray, List.set_cons_zero, List.set_cons_succ])
        refine take_at 4 26 (.agg #[.int .i64 v, .slice ta tn tc]) rfl rfl (by kernel_rfl) (by kernel_rfl) (by kernel_rfl) (fun _ _ _ h => h) (Or.inl ⟨by kernel_rfl, fun w' hS' => by go_simp⟩) hHeld ?_
        (try simp only [Act.put, List.setIfInBounds_toArray, List.set_cons_zero, List.set_cons_succ])
        refine take_at 5 27 (.iface 125 (.agg #[.int .i64 v, .slice ta tn tc])) rfl rfl (by kernel_rfl) (by kernel_rfl) (by kernel_rfl) (fun _ _ _ h => h) (Or.inl ⟨by kernel_rfl, fun w' hS' => by go_simp⟩) hHeld ?_
        (try simp only [Act.put, List.setIfInBounds_toArray, List.set_cons_zero, List.set_cons_succ])
        refine take_at 6 28 (.pointer (some ⟨w.heap.size, 3, none⟩)) rfl rfl (by kernel_rfl) (by kernel_rfl) (by kernel_rfl) (fun _ _ _ h => h) (Or.inl ⟨by kernel_rfl, fun w' hS' => by go_simp⟩) hHeld ?_
        (try simp only [Act.put, List.setIfInBounds_toArray, List.set_cons_zero, List.set_cons_succ])
        refine take_at 7 29 (.agg #[.int .i64 R, .int .i64 C, .slice ca cn cc]) rfl rfl (by kernel_rfl) (by kernel_rfl) (by kernel_rfl) (fun _ _ _ h => h) (Or.inl ⟨by kernel_rfl, fun w' hS' => by have h3 := RowAt.cell hS' 3; have h4 := RowAt.cell hS' 4; have h5 := RowAt.cell hS' 5; go_simp⟩) hHeld ?_
        (try simp only [Act.put, List.setIfInBounds_toArray, List.set_cons_zero, List.set_cons_succ])
        have HC1 : Hid (Tab v0.drew ca cn cc l) := HC0.out.below ((Below.refl _ _).drew)
        have HB1 : Hid (Below w.heap.size w v0.drew) := HB0.out.drew
        generalize v0.drew = u0 at HC1 HB1 hHeld ⊢
        refine wpAnyH_ready (rs := [8]) (by kernel_rfl) (by simp) ?_
        refine AllReadyH.cons rfl (fun K0 hK => ?_) AllReadyH.nil
        go_simp
        go_at_call 74
        refine (isNoTable_is HNB.out HC1.out).mono ?_
        rintro e u1 ⟨rfl, hb⟩
        have HB2 : Hid (Below w.heap.size w u1) := HB1.out.trans (hb.mono HB1.out.size)
        go_wp2_with fail
        refine hK.out _ _ (hHeld.below hb hHeld.lt) (fun hHeld => ?_)
        clear hK K0
        (try simp only [Act.put, List.setIfInBounds_toArray, List.set_cons_zero, List.set_cons_succ])
        refine take_at 9 2 (.iface 125 (.agg #[.int .i64 v, .slice ta tn tc])) rfl rfl (by kernel_rfl) (by kernel_rfl) (by kernel_rfl) (fun _ _ _ h => h) (Or.inl ⟨by kernel_rfl, fun w' hS' => by go_simp⟩) hHeld ?_
        (try simp only [Act.put, List.setIfInBounds_toArray, List.set_cons_zero, List.set_cons_succ])
        refine take_at 10 3 (.bool true) rfl rfl (by kernel_rfl) (by kernel_rfl) (by kernel_rfl) (fun _ _ _ h => h) (Or.inl ⟨by kernel_rfl, fun w' hS' => by go_simp⟩) hHeld ?_
        (try simp only [Act.put, List.setIfInBounds_toArray, List.set_cons_zero, List.set_cons_succ])
        refine wpAnyH_done (by kernel_rfl) ?_ _
        refine NoPanic.normal ?_
        clear hHeld
        go_wp2_with fail
        go_ret2
        exact ⟨by simp [partV, partB, HNB.out], HB2.out⟩
    · by_cases h3 : k = 3
      · subst h3
        go_upto_region 7 with fail
        clear q0
        by_cases hv : v = 0
        · subst hv
          by_cases htn : tn = 0
          · have hte := HTN.out.2 htn
            refine wp_region_noPanic ?_
            refine wp_region_held_drew (S := fun w' => RowAt w' w.heap.size #[.int .i64 3, .int .i64 0, .slice ta tn tc, .int .i64 R, .int .i64 C, .slice ca cn cc] 56) (by kernel_rfl) HG0.out (fun hHeld => ?_)
            refine take_at 0 33 (.pointer (some ⟨w.heap.size, 3, none⟩)) rfl rfl (by kernel_rfl) (by kernel_rfl) (by kernel_rfl) (fun _ _ _ h => h) (Or.inl ⟨by kernel_rfl, fun w' hS' => by go_simp⟩) hHeld ?_
            (try simp only [Act.put, List.setIfInBounds_toArray, List.set_cons_zero, List.set_cons_succ])
            refine take_at 1 34 (.agg #[.int .i64 R, .int .i64 C, .slice ca cn cc]) rfl rfl (by kernel_rfl) (by kernel_rfl) (by kernel_rfl) (fun _ _ _ h => h) (Or.inl ⟨by kernel_rfl, fun w' hS' => by have h3 := RowAt.cell hS' 3; have h4 := RowAt.cell hS' 4; have h5 := RowAt.cell hS' 5; go_simp⟩) hHeld ?_
            (try simp only [Act.put, List.setIfInBounds_toArray, List.set_cons_zero, List.set_cons_succ])
            refine take_at 2 35 (.agg #[.int .i64 R, .int .i64 C, .slice ca cn cc]) rfl rfl (by kernel_rfl) (by kernel_rfl) (by kernel_rfl) (fun _ _ _ h => h) (Or.inl ⟨by kernel_rfl, fun w' hS' => by go_simp⟩) hHeld ?_
            (try simp only [Act.put, List.setIfInBounds_toArray, List.set_cons_zero, List.set_cons_succ])
            refine take_at 3 36 (.iface 127 (.agg #[.int .i64 R, .int .i64 C, .slice ca cn cc])) rfl rfl (by kernel_rfl) (by kernel_rfl) (by kernel_rfl) (fun _ _ _ h => h) (Or.inl ⟨by kernel_rfl, fun w' hS' => by go_simp⟩) hHeld ?_
            (try simp only [Act.put, List.setIfInBounds_toArray, List.set_cons_zero, List.set_cons_succ])
            refine take_at 4 37 (.pointer (some ⟨w.heap.size, 1, none⟩)) rfl rfl (by kernel_rfl) (by kernel_rfl) (by kernel_rfl) (fun _ _ _ h => h) (Or.inl ⟨by kernel_rfl, fun w' hS' => by go_simp⟩) hHeld ?_
            (try simp only [Act.put, List.setIfInBounds_toArray, List.set_cons_zero, List.set_cons_succ])
            refine take_at 5 38 (.int .i64 0) rfl rfl (by kernel_rfl) (by kernel_rfl) (by kernel_rfl) (fun _ _ _ h => h) (Or.inl ⟨by kernel_rfl, fun w' hS' => by have hc := RowAt.cell hS' 1; go_simp⟩) hHeld ?_
            (try simp only [Act.put, List.setIfInBounds_toArray, List.set_cons_zero, List.set_cons_succ])
            refine take_at 6 39 (.bool true) rfl rfl (by kernel_rfl) (by kernel_rfl) (by kernel_rfl) (fun _ _ _ h => h) (Or.inl ⟨by kernel_rfl, fun w' hS' => by go_simp⟩) hHeld ?_
            (try simp only [Act.put, List.setIfInBounds_toArray, List.set_cons_zero, List.set_cons_succ])
            refine take_at 7 40 (.bool true) rfl rfl (by kernel_rfl) (by kernel_rfl) (by kernel_rfl) (fun _ _ _ h => h) (Or.inl ⟨by kernel_rfl, fun w' hS' => by go_simp⟩) hHeld ?_
            (try simp only [Act.put, List.setIfInBounds_toArray, List.set_cons_zero, List.set_cons_succ])
            refine take_at 8 41 (.pointer (some ⟨w.heap.size, 2, none⟩)) rfl rfl (by kernel_rfl) (by kernel_rfl) (by kernel_rfl) (fun _ _ _ h => h) (Or.inl ⟨by kernel_rfl, fun w' hS' => by go_simp⟩) hHeld ?_
            (try simp only [Act.put, List.setIfInBounds_toArray, List.set_cons_zero, List.set_cons_succ])
            refine take_at 9 42 (.slice ta tn tc) rfl rfl (by kernel_rfl) (by kernel_rfl) (by kernel_rfl) (fun _ _ _ h => h) (Or.inl ⟨by kernel_rfl, fun w' hS' => by have hc := RowAt.cell hS' 2; go_simp⟩) hHeld ?_
            (try simp only [Act.put, List.setIfInBounds_toArray, List.set_cons_zero, List.set_cons_succ])
            refine take_at 10 43 (.int .i64 tn) rfl rfl (by kernel_rfl) (by kernel_rfl) (by kernel_rfl) (fun _ _ _ h => h) (Or.inl ⟨by kernel_rfl, fun w' hS' => by go_simp⟩) hHeld ?_
            (try simp only [Act.put, List.setIfInBounds_toArray, List.set_cons_zero, List.set_cons_succ])
            refine take_at 11 44 (.bool true) rfl rfl (by kernel_rfl) (by kernel_rfl) (by kernel_rfl) (fun _ _ _ h => h) (Or.inl ⟨by kernel_rfl, fun w' hS' => by go_simp <;> omega⟩) hHeld ?_
            (try simp only [Act.put, List.setIfInBounds_toArray, List.set_cons_zero, List.set_cons_succ])
            refine take_at 12 45 (.bool true) rfl rfl (by kernel_rfl) (by kernel_rfl) (by kernel_rfl) (fun _ _ _ h => h) (Or.inl ⟨by kernel_rfl, fun w' hS' => by go_simp⟩) hHeld ?_
            (try simp only [Act.put, List.setIfInBounds_toArray, List.set_cons_zero, List.set_cons_succ])
            refine take_at 13 2 (.iface 127 (.agg #[.int .i64 R, .int .i64 C, .slice ca cn cc])) rfl rfl (by kernel_rfl) (by kernel_rfl) (by kernel_rfl) (fun _ _ _ h => h) (Or.inl ⟨by kernel_rfl, fun w' hS' => by go_simp⟩) hHeld ?_
            (try simp only [Act.put, List.setIfInBounds_toArray, List.set_cons_zero, List.set_cons_succ])
            refine take_at 14 3 (.bool true) rfl rfl (by kernel_rfl) (by kernel_rfl) (by kernel_rfl) (fun _ _ _ h => h) (Or.inl ⟨by kernel_rfl, fun w' hS' => by go_simp⟩) hHeld ?_
            (try simp only [Act.put, List.setIfInBounds_toArray, List.set_cons_zero, List.set_cons_succ])
            refine wpAnyH_done (by kernel_rfl) ?_ _
            refine NoPanic.normal ?_
            clear hHeld
            go_wp2_with fail
            go_ret2
            exact ⟨by simp [partV, partB, hte], HB0.out.drew⟩
          · have hte : ¬ t = [] := fun e => htn (HTN.out.1 e)
            refine wp_region_noPanic ?_
            refine wp_region_held_drew (S := fun w' => RowAt w' w.heap.size #[.int .i64 3, .int .i64 0, .slice ta tn tc, .int .i64 R, .int .i64 C, .slice ca cn cc] 56) (by kernel_rfl) HG0.out (fun hHeld => ?_)
            refine take_at 0 33 (.pointer (some ⟨w.heap.size, 3, none⟩)) rfl rfl (by kernel_rfl) (by kernel_rfl) (by kernel_rfl) (fun _ _ _ h => h) (Or.inl ⟨by kernel_rfl, fun w' hS' => by go_simp⟩) hHeld ?_
            (try simp only [Act.put, List.setIfInBounds_toArray, List.set_cons_zero, List.set_cons_succ])
            refine take_at 1 34 (.agg #[.int .i64 R, .int .i64 C, .slice ca cn cc]) rfl rfl (by kernel_rfl) (by kernel_rfl) (by kernel_rfl) (fun _ _ _ h => h) (Or.inl ⟨by kernel_rfl, fun w' hS' => by have h3 := RowAt.cell hS' 3; have h4 := RowAt.cell hS' 4; have h5 := RowAt.cell hS' 5; go_simp⟩) hHeld ?_
            (try simp only [Act.put, List.setIfInBounds_toArray, List.set_cons_zero, List.set_cons_succ])
            refine take_at 2 35 (.agg #[.int .i64 R, .int .i64 C, .slice ca cn cc]) rfl rfl (by kernel_rfl) (by kernel_rfl) (by kernel_rfl) (fun _ _ _ h => h) (Or.inl ⟨by kernel_rfl, fun w' hS' => by go_simp⟩) hHeld ?_
            (try simp only [Act.put, List.setIfInBounds_toArray, List.set_cons_zero, List.set_cons_succ])
            refine take_at 3 36 (.iface 127 (.agg #[.int .i64 R, .int .i64 C, .slice ca cn cc])) rfl rfl (by kernel_rfl) (by kernel_rfl) (by kernel_rfl) (fun _ _ _ h => h) (Or.inl ⟨by kernel_rfl, fun w' hS' => by go_simp⟩) hHeld ?_
            (try simp only [Act.put, List.setIfInBounds_toArray, List.set_cons_zero, List.set_cons_succ])
            refine take_at 4 37 (.pointer (some ⟨w.heap.size, 1, none⟩)) rfl rfl (by kernel_rfl) (by kernel_rfl) (by kernel_rfl) (fun _ _ _ h => h) (Or.inl ⟨by kernel_rfl, fun w' hS' => by go_simp⟩) hHeld ?_
            (try simp only [Act.put, List.setIfInBounds_toArray, List.set_cons_zero, List.set_cons_succ])
            refine take_at 5 38 (.int .i64 0) rfl rfl (by kernel_rfl) (by kernel_rfl) (by kernel_rfl) (fun _ _ _ h => h) (Or.inl ⟨by kernel_rfl, fun w' hS' => by have hc := RowAt.cell hS' 1; go_simp⟩) hHeld ?_
            (try simp only [Act.put, List.setIfInBounds_toArray, List.set_cons_zero, List.set_cons_succ])
            refine take_at 6 39 (.bool true) rfl rfl (by kernel_rfl) (by kernel_rfl) (by kernel_rfl) (fun _ _ _ h => h) (Or.inl ⟨by kernel_rfl, fun w' hS' => by go_simp⟩) hHeld ?_
            (try simp only [Act.put, List.setIfInBounds_toArray, List.set_cons_zero, List.set_cons_succ])
            refine take_at 7 40 (.bool true) rfl rfl (by kernel_rfl) (by kernel_rfl) (by kernel_rfl) (fun _ _ _ h => h) (Or.inl ⟨by kernel_rfl, fun w' hS' => by go_simp⟩) hHeld ?_
            (try simp only [Act.put, List.setIfInBounds_toArray, List.set_cons_zero, List.set_cons_succ])
            refine take_at 8 41 (.pointer (some ⟨w.heap.size, 2, none⟩)) rfl rfl (by kernel_rfl) (by kernel_rfl) (by kernel_rfl) (fun _ _ _ h => h) (Or.inl ⟨by kernel_rfl, fun w' hS' => by go_simp⟩) hHeld ?_
            (try simp only [Act.put, List.setIfInBounds_toArray, List.set_cons_zero, List.set_cons_succ])
            refine take_at 9 42 (.slice ta tn tc) rfl rfl (by kernel_rfl) (by kernel_rfl) (by kernel_rfl) (fun _ _ _ h => h) (Or.inl ⟨by kernel_rfl, fun w' hS' => by have hc := RowAt.cell hS' 2; go_simp⟩) hHeld ?_
            (try simp only [Act.put, List.setIfInBounds_toArray, List.set_cons_zero, List.set_cons_succ])
            refine take_at 10 43 (.int .i64 tn) rfl rfl (by kernel_rfl) (by kernel_rfl) (by kernel_rfl) (fun _ _ _ h => h) (Or.inl ⟨by kernel_rfl, fun w' hS' => by go_simp⟩) hHeld ?_
            (try simp only [Act.put, List.setIfInBounds_toArray, List.set_cons_zero, List.set_cons_succ])
            refine take_at 11 44 (.bool false) rfl rfl (by kernel_rfl) (by kernel_rfl) (by kernel_rfl) (fun _ _ _ h => h) (Or.inl ⟨by kernel_rfl, fun w' hS' => by go_simp <;> omega⟩) hHeld ?_
            (try simp only [Act.put, List.setIfInBounds_toArray, List.set_cons_zero, List.set_cons_succ])
            refine take_at 12 45 (.bool false) rfl rfl (by kernel_rfl) (by kernel_rfl) (by kernel_rfl) (fun _ _ _ h => h) (Or.inl ⟨by kernel_rfl, fun w' hS' => by go_simp⟩) hHeld ?_
            (try simp only [Act.put, List.setIfInBounds_toArray, List.set_cons_zero, List.set_cons_succ])
            refine take_at 13 2 (.iface 127 (.agg #[.int .i64 R, .int .i64 C, .slice ca cn cc])) rfl rfl (by kernel_rfl) (by kernel_rfl) (by kernel_rfl) (fun _ _ _ h => h) (Or.inl ⟨by kernel_rfl, fun w' hS' => by go_simp⟩) hHeld ?_
            (try simp only [Act.put, List.setIfInBounds_toArray, List.set_cons_zero, List.set_cons_succ])
            refine take_at 14 3 (.bool false) rfl rfl (by kernel_rfl) (by kernel_rfl) (by kernel_rfl) (fun _ _ _ h => h) (Or.inl ⟨by kernel_rfl, fun w' hS' => by go_simp⟩) hHeld ?_
            (try simp only [Act.put, List.setIfInBounds_toArray, List.set_cons_zero, List.set_cons_succ])
            refine wpAnyH_done (by kernel_rfl) ?_ _
            refine NoPanic.normal ?_
            clear hHeld
            go_wp2_with fail
            go_ret2
            exact ⟨by simp [partV, partB, hte], HB0.out.drew⟩
        · refine wp_region_noPanic ?_
          refine wp_region_held_drew (S := fun w' => RowAt w' w.heap.size #[.int .i64 3, .int .i64 v, .slice ta tn tc, .int .i64 R, .int .i64 C, .slice ca cn cc] 56) (by kernel_rfl) HG0.out (fun hHeld => ?_)
          refine take_at 0 33 (.pointer (some ⟨w.heap.size, 3, none⟩)) rfl rfl (by kernel_rfl) (by kernel_rfl) (by kernel_rfl) (fun _ _ _ h => h) (Or.inl ⟨by kernel_rfl, fun w' hS' => by go_simp⟩) hHeld ?_
          (try simp only [Act.put, List.setIfInBounds_toArray, List.set_cons_zero, List.set_cons_succ])
          refine take_at 1 34 (.agg #[.int .i64 R, .int .i64 C, .slice ca cn cc]) rfl rfl (by kernel_rfl) (by kernel_rfl) (by kernel_rfl) (fun _ _ _ h => h) (Or.inl ⟨by kernel_rfl, fun w' hS' => by have h3 := RowAt.cell hS' 3; have h4 := RowAt.cell hS' 4; have h5 := RowAt.cell hS' 5; go_simp⟩) hHeld ?_
          (try simp only [Act.put, List.setIfInBounds_toArray, List.set_cons_zero, List.set_cons_succ])
          refine take_at 2 35 (.agg #[.int .i64 R, .int .i64 C, .slice ca cn cc]) rfl rfl (by kernel_rfl) (by kernel_rfl) (by kernel_rfl) (fun _ _ _ h => h) (Or.inl ⟨by kernel_rfl, fun w' hS' => by go_simp⟩) hHeld ?_
          (try simp only [Act.put, List.setIfInBounds_toArray, List.set_cons_zero, List.set_cons_succ])
          refine take_at 3 36 (.iface 127 (.agg #[.int .i64 R, .int .i64 C, .slice ca cn cc])) rfl rfl (by kernel_rfl) (by kernel_rfl) (by kernel_rfl) (fun _ _ _ h => h) (Or.inl ⟨by kernel_rfl, fun w' hS' => by go_simp⟩) hHeld ?_
          (try simp only [Act.put, List.setIfInBounds_toArray, List.set_cons_zero, List.set_cons_succ])
          refine take_at 4 37 (.pointer (some ⟨w.heap.size, 1, none⟩)) rfl rfl (by kernel_rfl) (by kernel_rfl) (by kernel_rfl) (fun _ _ _ h => h) (Or.inl ⟨by kernel_rfl, fun w' hS' => by go_simp⟩) hHeld ?_
          (try simp only [Act.put, List.setIfInBounds_toArray, List.set_cons_zero, List.set_cons_succ])
          refine take_at 5 38 (.int .i64 v) rfl rfl (by kernel_rfl) (by kernel_rfl) (by kernel_rfl) (fun _ _ _ h => h) (Or.inl ⟨by kernel_rfl, fun w' hS' => by have hc := RowAt.cell hS' 1; go_simp⟩) hHeld ?_
          (try simp only [Act.put, List.setIfInBounds_toArray, List.set_cons_zero, List.set_cons_succ])
          refine take_at 6 39 (.bool false) rfl rfl (by kernel_rfl) (by kernel_rfl) (by kernel_rfl) (fun _ _ _ h => h) (Or.inl ⟨by kernel_rfl, fun w' hS' => by go_simp <;> omega⟩) hHeld ?_
          (try simp only [Act.put, List.setIfInBounds_toArray, List.set_cons_zero, List.set_cons_succ])
          refine take_at 7 40 (.bool false) rfl rfl (by kernel_rfl) (by kernel_rfl) (by kernel_rfl) (fun _ _ _ h => h) (Or.inl ⟨by kernel_rfl, fun w' hS' => by go_simp⟩) hHeld ?_
          (try simp only [Act.put, List.setIfInBounds_toArray, List.set_cons_zero, List.set_cons_succ])
          refine take_at 8 41 (undef) rfl rfl (by kernel_rfl) (by kernel_rfl) (by kernel_rfl) (fun _ _ _ h => h) (Or.inr ⟨by kernel_rfl, rfl⟩) hHeld ?_
          (try simp only [Act.put, List.setIfInBounds_toArray, List.set_cons_zero, List.set_cons_succ])
          refine take_at 9 42 (undef) rfl rfl (by kernel_rfl) (by kernel_rfl) (by kernel_rfl) (fun _ _ _ h => h) (Or.inr ⟨by kernel_rfl, rfl⟩) hHeld ?_
          (try simp only [Act.put, List.setIfInBounds_toArray, List.set_cons_zero, List.set_cons_succ])
          refine take_at 10 43 (undef) rfl rfl (by kernel_rfl) (by kernel_rfl) (by kernel_rfl) (fun _ _ _ h => h) (Or.inr ⟨by kernel_rfl, rfl⟩) hHeld ?_
          (try simp only [Act.put, List.setIfInBounds_toArray, List.set_cons_zero, List.set_cons_succ])
          refine take_at 11 44 (undef) rfl rfl (by kernel_rfl) (by kernel_rfl) (by kernel_rfl) (fun _ _ _ h => h) (Or.inr ⟨by kernel_rfl, rfl⟩) hHeld ?_
          (try simp only [Act.put, List.setIfInBounds_toArray, List.set_cons_zero, List.set_cons_succ])
          refine take_at 12 45 (.bool false) rfl rfl (by kernel_rfl) (by kernel_rfl) (by kernel_rfl) (fun _ _ _ h => h) (Or.inl ⟨by kernel_rfl, fun w' hS' => by go_simp⟩) hHeld ?_
          (try simp only [Act.put, List.setIfInBounds_toArray, List.set_cons_zero, List.set_cons_succ])
          refine take_at 13 2 (.iface 127 (.agg #[.int .i64 R, .int .i64 C, .slice ca cn cc])) rfl rfl (by kernel_rfl) (by kernel_rfl) (by kernel_rfl) (fun _ _ _ h => h) (Or.inl ⟨by kernel_rfl, fun w' hS' => by go_simp⟩) hHeld ?_
          (try simp only [Act.put, List.setIfInBounds_toArray, List.set_cons_zero, List.set_cons_succ])
          refine take_at 14 3 (.bool false) rfl rfl (by kernel_rfl) (by kernel_rfl) (by kernel_rfl) (fun _ _ _ h => h) (Or.inl ⟨by kernel_rfl, fun w' hS' => by go_simp⟩) hHeld ?_
          (try simp only [Act.put, List.setIfInBounds_toArray, List.set_cons_zero, List.set_cons_succ])
          refine wpAnyH_done (by kernel_rfl) ?_ _
          refine NoPanic.normal ?_
          clear hHeld
          go_wp2_with fail
          go_ret2
          exact ⟨by simp [partV, partB, hv], HB0.out.drew⟩
      · go_wp2_with fail
        go_ret2
        exact ⟨by simp [partV, partB, h1, h2, h3], HB0.out⟩
end Go.Proofs.YtccoeachemnbnaaGreatDoor
namespace Go.Proofs.YtccoeachemnbnaaGreatDoor
open Go.RowKit

def sizeB (n : Int) : Bool := decide (1 ≤ n ∧ n ≤ 5)
set_option maxHeartbeats 400000 in
theorem sizeOk_is {n : Int} {x : Bool} (h : sizeB n = x) (w : World) :
    Calls Tryz.prog 129 #[.int .i64 n] w fun e w' => e = .returned (.bool x) ∧ w' = w := by
  subst h
  rcases (show (1 ≤ n ∧ n ≤ 5) ∨ (1 ≤ n ∧ ¬ n ≤ 5) ∨ (¬ 1 ≤ n) from by omega) with ⟨h0, h1⟩ | ⟨h0, h1⟩ | h0
  · rw [show sizeB n = true from decide_eq_true (by omega)]
    go_enter Tryz.func129, Tryz.ntmps129
    go_wp2
    go_ret
    exact ⟨rfl, rfl⟩
  all_goals
    rw [show sizeB n = false from decide_eq_false (by omega)]
    go_enter Tryz.func129, Tryz.ntmps129
    go_wp2
    go_ret
    exact ⟨rfl, rfl⟩

def spanB (f s e : Int) : Bool := decide (1 ≤ s ∧ s ≤ e ∧ 0 ≤ f ∧ f ≤ e - s)
set_option maxHeartbeats 800000 in
theorem span_is {f s e : Int} {x : Bool} (h : spanB f s e = x) (he : 1 ≤ e ∧ e ≤ 5) (w : World) :
    Calls Tryz.prog 135 #[.int .i64 f, .int .i64 s, .int .i64 e] w fun z w' => z = .returned (.bool x) ∧ w' = w := by
  subst h
  obtain ⟨he0, he1⟩ := he
  rcases (show (1 ≤ s ∧ s ≤ e ∧ 0 ≤ f ∧ f ≤ e - s) ∨ (1 ≤ s ∧ s ≤ e ∧ 0 ≤ f ∧ ¬ f ≤ e - s) ∨ (1 ≤ s ∧ s ≤ e ∧ ¬ 0 ≤ f) ∨ (1 ≤ s ∧ ¬ s ≤ e) ∨ (¬ 1 ≤ s) from by omega) with ⟨h0, h1, h2, h3⟩ | ⟨h0, h1, h2, h3⟩ | ⟨h0, h1, h2⟩ | ⟨h0, h1⟩ | h0
  · rw [show spanB f s e = true from decide_eq_true (by omega)]
    go_enter Tryz.func135, Tryz.ntmps135
    go_wp2
    go_ret
    exact ⟨rfl, rfl⟩
  all_goals
    rw [show spanB f s e = false from decide_eq_false (by omega)]
    go_enter Tryz.func135, Tryz.ntmps135
    go_wp2
    go_ret
    exact ⟨rfl, rfl⟩

/-- A rectangle's value. -/
def recV (r c d h : Int) : Array Value := #[.int .i64 r, .int .i64 c, .int .i64 d, .int .i64 h]
def withB (r c d h R C : Int) : Bool := spanB r d R && spanB c h C
set_option maxHeartbeats 800000 in
theorem within_is {r c d h R C : Int} {x : Bool} (hx : withB r c d h R C = x) (hR : 1 ≤ R ∧ R ≤ 5) (hC : 1 ≤ C ∧ C ≤ 5) (w : World) :
    Calls Tryz.prog 131 #[.agg #[.int .i64 r, .int .i64 c, .int .i64 d, .int .i64 h], .int .i64 R, .int .i64 C] w fun z w' => z = .returned (.bool x) ∧ Below w.heap.size w w' := by
  subst hx
  cases h0 : spanB r d R
  · rw [show withB r c d h R C = false from by simp [withB, h0]]
    have H0 : Hid (spanB r d R = false) := h0
    clear h0
    go_enter Tryz.func131, Tryz.ntmps131
    go_wp2_with (go_at_call 135; refine (span_is H0.out hR _).mono ?_; rintro e w' ⟨rfl, rfl⟩)
    go_ret
    exact ⟨rfl, (Below.refl _ _).alloc (Nat.le_refl _) _⟩
  · obtain ⟨y, hy⟩ : ∃ y, spanB c h C = y := ⟨_, rfl⟩
    rw [show withB r c d h R C = y from by simp [withB, h0, hy]]
    have H0 : Hid (spanB r d R = true) := h0
    have H1 : Hid (spanB c h C = y) := hy
    clear h0 hy
    go_enter Tryz.func131, Tryz.ntmps131
    go_wp2_with (first | (go_at_call_of 135 (Value.int IntKind.i64 r); refine (span_is H0.out hR _).mono ?_; rintro e w' ⟨rfl, rfl⟩) | (go_at_call_of 135 (Value.int IntKind.i64 c); refine (span_is H1.out hC _).mono ?_; rintro e w' ⟨rfl, rfl⟩))
    go_ret
    exact ⟨rfl, (Below.refl _ _).alloc (Nat.le_refl _) _⟩

def recB (r c d h a b : Int) : Bool := decide (r ≤ a ∧ a < r + d ∧ c ≤ b ∧ b < c + h)
set_option maxHeartbeats 1600000 in
theorem has_is {r c d h a b : Int} {x : Bool} (hx : recB r c d h a b = x) (hr : sml r) (hc : sml c) (hd : sml d) (hh : sml h) (w : World) :
    Calls Tryz.prog 138 #[.agg #[.int .i64 r, .int .i64 c, .int .i64 d, .int .i64 h], .int .i64 a, .int .i64 b] w fun z w' => z = .returned (.bool x) ∧ Below w.heap.size w w' := by
  subst hx
  obtain ⟨r0, r1⟩ := hr
  obtain ⟨c0, c1⟩ := hc
  obtain ⟨d0, d1⟩ := hd
  obtain ⟨e0, e1⟩ := hh
  go_enter Tryz.func138, Tryz.ntmps138
  go_wp2
  all_goals go_ret
  all_goals refine ⟨congrArg (fun x => Ending.returned (.bool x)) ?_, (Below.refl _ _).alloc (Nat.le_refl _) _⟩
  all_goals show _ = decide (r ≤ a ∧ a < r + d ∧ c ≤ b ∧ b < c + h)
  all_goals first | exact decide_eq_decide.2 (by omega) | exact (decide_eq_false (by omega)).symm

set_option maxHeartbeats 800000 in
theorem rectOf_any (r c d h : Int) (ta : Option Addr) (tn tc : Nat) (w : World) :
    Calls Tryz.prog 130 #[.agg #[.int .i64 r, .int .i64 c, .int .i64 d, .int .i64 h, .slice ta tn tc]] w fun z w' => z = .returned (.agg #[.int .i64 r, .int .i64 c, .int .i64 d, .int .i64 h]) ∧ Below w.heap.size w w' := by
  go_enter Tryz.func130, Tryz.ntmps130
  go_wp2
  refine bodyPost_ret (v := .agg #[.int .i64 r, .int .i64 c, .int .i64 d, .int .i64 h]) (by simp [results, Tryz.results130, go_sem]) rfl ⟨rfl, ?_⟩
  exact ((Below.refl _ _).alloc (Nat.le_refl _) _).alloc (by simp) _
end Go.Proofs.YtccoeachemnbnaaGreatDoor
namespace Go.Proofs.YtccoeachemnbnaaGreatDoor
open Go.RowKit

/-- A text as it lies: its slice. -/
abbrev Sl := Option Addr × Nat × Nat
def slV (s : Sl) : Value := .slice s.1 s.2.1 s.2.2
def sl0 : Sl := (none, 0, 0)
/-- A grid's value: rows, columns, cells, the squares' numbers, the numbers' texts. -/
def gridL (R C : Int) (n : Nat) (f : Nat → Nat) (t : Nat → Sl) : List Value :=
  .int .i64 R :: .int .i64 C :: .int .i64 n :: ((List.range 25).map (fun k => Value.int .i64 (f k)) ++ (List.range 26).map (fun k => slV (t k)))
def gridA (R C : Int) (n : Nat) (f : Nat → Nat) (t : Nat → Sl) : Array Value := (gridL R C n f t).toArray
def upd (f : Nat → Nat) (k v : Nat) : Nat → Nat := fun j => if j = k then v else f j
def updS (f : Nat → Sl) (k : Nat) (v : Sl) : Nat → Sl := fun j => if j = k then v else f j

theorem gridL_length (R C : Int) (n : Nat) (f : Nat → Nat) (t : Nat → Sl) : (gridL R C n f t).length = 54 := by simp [gridL]
theorem gridA_size (R C : Int) (n : Nat) (f : Nat → Nat) (t : Nat → Sl) : (gridA R C n f t).size = 54 := by simp [gridA, gridL_length]
theorem gridA_get (R C : Int) (n : Nat) (f : Nat → Nat) (t : Nat → Sl) (i : Nat) : (gridA R C n f t)[i]? = if i = 0 then some (.int .i64 R) else if i = 1 then some (.int .i64 C) else if i = 2 then some (.int .i64 n) else if i < 28 then some (.int .i64 (f (i - 3))) else if i < 54 then some (slV (t (i - 28))) else none := by
  simp only [gridA, List.getElem?_toArray, gridL]
  match i with
  | 0 => rfl
  | 1 => rfl
  | 2 => rfl
  | j + 3 =>
    simp only [List.getElem?_cons_succ]
    rw [if_neg (by omega), if_neg (by omega), if_neg (by omega)]
    by_cases h : j < 25
    · rw [List.getElem?_append_left (by simpa using h), if_pos (by omega)]
      simp [h]
    · rw [List.getElem?_append_right (by simp; omega), if_neg (by omega)]
      simp only [List.length_map, List.length_range, List.getElem?_map]
      by_cases h2 : j < 51
      · rw [if_pos (by omega), show j + 3 - 28 = j - 25 from by omega]
        simp [show j - 25 < 26 from by omega]
      · rw [if_neg (by omega), List.getElem?_eq_none (by simp; omega)]
        rfl
theorem gridA_num (R C : Int) (n : Nat) (f : Nat → Nat) (t : Nat → Sl) (k : Nat) (hk : k < 25) : (gridA R C n f t)[3 + k]? = some (.int .i64 (f k)) := by
  rw [gridA_get, if_neg (by omega), if_neg (by omega), if_neg (by omega), if_pos (by omega), show 3 + k - 3 = k from by omega]
theorem gridA_txt (R C : Int) (n : Nat) (f : Nat → Nat) (t : Nat → Sl) (k : Nat) (hk : k < 26) : (gridA R C n f t)[28 + k]? = some (slV (t k)) := by
  rw [gridA_get, if_neg (by omega), if_neg (by omega), if_neg (by omega), if_neg (by omega), if_pos (by omega), show 28 + k - 28 = k from by omega]
theorem gridA_set_num (R C : Int) (n : Nat) (f : Nat → Nat) (t : Nat → Sl) (k v : Nat) (hk : k < 25) : (gridA R C n f t).setIfInBounds (3 + k) (.int .i64 v) = gridA R C n (upd f k v) t := by
  apply Array.ext_getElem?
  intro i
  rw [Array.getElem?_setIfInBounds, gridA_get, gridA_get, gridA_size]
  by_cases h : 3 + k = i
  · subst h
    simp only [if_pos, show 3 + k < 54 from by omega, show ¬ 3 + k = 0 from by omega, show ¬ 3 + k = 1 from by omega, show ¬ 3 + k = 2 from by omega, show 3 + k < 28 from by omega, if_false, upd, show 3 + k - 3 = k from by omega]
  · rw [if_neg h]
    simp only [upd]
    by_cases h3 : i < 3
    · match i, h3 with
      | 0, _ => rfl
      | 1, _ => rfl
      | 2, _ => rfl
    · rw [if_neg (show ¬ i - 3 = k from by omega)]
theorem gridA_set_txt (R C : Int) (n : Nat) (f : Nat → Nat) (t : Nat → Sl) (k : Nat) (v : Sl) (hk : k < 26) : (gridA R C n f t).setIfInBounds (28 + k) (slV v) = gridA R C n f (updS t k v) := by
  apply Array.ext_getElem?
  intro i
  rw [Array.getElem?_setIfInBounds, gridA_get, gridA_get, gridA_size]
  by_cases h : 28 + k = i
  · subst h
    simp only [if_pos, show 28 + k < 54 from by omega, show ¬ 28 + k = 0 from by omega, show ¬ 28 + k = 1 from by omega, show ¬ 28 + k = 2 from by omega, show ¬ 28 + k < 28 from by omega, if_false, updS, show 28 + k - 28 = k from by omega]
  · rw [if_neg h]
    simp only [updS]
    by_cases h3 : i < 28
    · simp only [if_pos h3]
    · rw [if_neg (show ¬ i - 28 = k from by omega)]
theorem gridA_set_cells (R C : Int) (n m : Nat) (f : Nat → Nat) (t : Nat → Sl) : (gridA R C n f t).setIfInBounds 2 (.int .i64 m) = gridA R C m f t := by
  apply Array.ext_getElem?
  intro i
  rw [Array.getElem?_setIfInBounds, gridA_get, gridA_get, gridA_size]
  by_cases h : 2 = i
  · subst h; rfl
  · rw [if_neg h]
    by_cases h3 : i = 2
    · exact absurd h3.symm h
    · simp only [if_neg h3]
theorem gridA_one (R C : Int) (n : Nat) (f : Nat → Nat) (t : Nat → Sl) : (gridA R C n f t).all (·.oneCell') = true := by
  refine Array.all_eq_true_iff_forall_mem.2 ?_
  intro v hv
  simp only [gridA, List.mem_toArray, gridL, List.mem_cons, List.mem_append, List.mem_map] at hv
  rcases hv with rfl | rfl | rfl | ⟨k, _, rfl⟩ | ⟨k, _, rfl⟩ <;> rfl

/-- A grid that lies in a block of its own. -/
def GridAt (w : World) (b : Nat) (R C : Int) (n : Nat) (f : Nat → Nat) (t : Nat → Sl) : Prop := RowAt w b (gridA R C n f t) 195
section
variable {w w' : World} {b : Nat} {R C : Int} {n : Nat} {f : Nat → Nat} {t : Nat → Sl}
theorem GridAt.lt (h : GridAt w b R C n f t) : b < w.heap.size := RowAt.lt h
theorem GridAt.rows (h : GridAt w b R C n f t) : w.cell? ⟨b, 0, none⟩ = some (.int .i64 R) := by rw [RowAt.cell h, gridA_get]; rfl
theorem GridAt.cols (h : GridAt w b R C n f t) : w.cell? ⟨b, 1, none⟩ = some (.int .i64 C) := by rw [RowAt.cell h, gridA_get]; rfl
theorem GridAt.cells (h : GridAt w b R C n f t) : w.cell? ⟨b, 2, none⟩ = some (.int .i64 n) := by rw [RowAt.cell h, gridA_get]; rfl
theorem GridAt.num (h : GridAt w b R C n f t) (k : Nat) (hk : k < 25) : w.cell? ⟨b, 3 + k, none⟩ = some (.int .i64 (f k)) := by rw [RowAt.cell h, gridA_num _ _ _ _ _ _ hk]
theorem GridAt.txt (h : GridAt w b R C n f t) (k : Nat) (hk : k < 26) : w.cell? ⟨b, 28 + k, none⟩ = some (slV (t k)) := by rw [RowAt.cell h, gridA_txt _ _ _ _ _ _ hk]
theorem GridAt.frozen (h : GridAt w b R C n f t) (o : Nat) : w.frozen? ⟨b, o, none⟩ = false := RowAt.frozen h o
theorem GridAt.below (h : GridAt w b R C n f t) {B : Nat} (hb : Below B w w') (hB : b < B) : GridAt w' b R C n f t := RowAt.below h hb hB
theorem GridAt.alloc (h : GridAt w b R C n f t) (o : Obj) : GridAt (w.alloc o) b R C n f t := RowAt.alloc h o
theorem GridAt.setNum (h : GridAt w b R C n f t) (k v : Nat) (hk : k < 25) : GridAt (w.setCell ⟨b, 3 + k, none⟩ (.int .i64 v)) b R C n (upd f k v) t := by
  unfold GridAt
  rw [← gridA_set_num _ _ _ _ _ _ _ hk]
  exact RowAt.setCell h _ _
theorem GridAt.setTxt (h : GridAt w b R C n f t) (k : Nat) (v : Sl) (hk : k < 26) : GridAt (w.setCell ⟨b, 28 + k, none⟩ (slV v)) b R C n f (updS t k v) := by
  unfold GridAt
  rw [← gridA_set_txt _ _ _ _ _ _ _ hk]
  exact RowAt.setCell h _ _
theorem GridAt.setCells (h : GridAt w b R C n f t) (m : Nat) : GridAt (w.setCell ⟨b, 2, none⟩ (.int .i64 m)) b R C m f t := by
  unfold GridAt
  rw [← gridA_set_cells R C n m]
  exact RowAt.setCell h _ _
theorem GridAt.other (h : GridAt w b R C n f t) (a : Addr) (u : Value) (hb : b ≠ a.block) : GridAt (w.setCell a u) b R C n f t := RowAt.other h a u hb
end
theorem gridAt_new (w : World) (R C : Int) (n : Nat) (f : Nat → Nat) (t : Nat → Sl) : GridAt (w.alloc (.cells (gridA R C n f t) 195)) w.heap.size R C n f t := rowAt_new _ _ _
/-- A rectangle that lies in a block of its own. -/
def RectAt (w : World) (b : Nat) (r c d h : Int) : Prop := RowAt w b #[.int .i64 r, .int .i64 c, .int .i64 d, .int .i64 h] 199
section
variable {w w' : World} {b : Nat} {r c d g : Int}
theorem RectAt.c0 (h : RectAt w b r c d g) : w.cell? ⟨b, 0, none⟩ = some (.int .i64 r) := RowAt.cell h 0
theorem RectAt.c1 (h : RectAt w b r c d g) : w.cell? ⟨b, 1, none⟩ = some (.int .i64 c) := RowAt.cell h 1
theorem RectAt.c2 (h : RectAt w b r c d g) : w.cell? ⟨b, 2, none⟩ = some (.int .i64 d) := RowAt.cell h 2
theorem RectAt.c3 (h : RectAt w b r c d g) : w.cell? ⟨b, 3, none⟩ = some (.int .i64 g) := RowAt.cell h 3
end
theorem grid_info : (Tryz.prog.info? 195).map (·.size) = some 54 := by kernel_rfl
theorem grid_infoA (R C : Int) (n : Nat) (f : Nat → Nat) (t : Nat → Sl) : (Tryz.prog.info? 195).map (·.size) = some (gridA R C n f t).size := by rw [gridA_size]; exact grid_info
end Go.Proofs.YtccoeachemnbnaaGreatDoor
namespace Go.Proofs.YtccoeachemnbnaaGreatDoor
open Go.RowKit

/-- The squares ahead of a place, going through all rows. -/
def vis (i j : Nat) (C : Nat) (a b : Nat) : Prop := b < C ∧ (a < i ∨ a = i ∧ b < j)
def inR (r c d h a b : Nat) : Prop := r ≤ a ∧ a < r + d ∧ c ≤ b ∧ b < c + h
/-- A number whose bits are the numbers of some squares. -/
def Mask (x : Nat) (f : Nat → Nat) (p : Nat → Nat → Prop) : Prop := x < 2 ^ 26 ∧ ∀ k, x.testBit k = true ↔ ∃ a b, p a b ∧ f (a * 5 + b) = k

theorem or_nat (y p : Nat) (hy : y < 2 ^ 26) (hp : p < 2 ^ 26) : bits .or .u32 (y : Int) (p : Int) = ((y ||| p : Nat) : Int) := by
  have ho : y ||| p < 2 ^ 26 := Nat.or_lt_two_pow hy hp
  show IntKind.u32.wrap (((BitVec.ofInt 32 (y : Int)) ||| (BitVec.ofInt 32 (p : Int))).toNat : Int) = _
  rw [BitVec.ofInt_natCast, BitVec.ofInt_natCast, BitVec.toNat_or, BitVec.toNat_ofNat, BitVec.toNat_ofNat, Nat.mod_eq_of_lt (a := y) (by omega), Nat.mod_eq_of_lt (a := p) (by omega)]
  generalize y ||| p = z at ho ⊢
  simp only [IntKind.wrap, IntKind.bits, IntKind.signed]
  simp
  omega
theorem pow_lt26 {m : Nat} (hm : m ≤ 25) : 2 ^ m < 2 ^ 26 := Nat.pow_lt_pow_right (by decide) (by omega)
theorem pow_mod (m : Nat) (hm : m ≤ 25) : ((2 : Int) ^ m % 4294967296) = ((2 ^ m : Nat) : Int) := by
  have hp := pow_lt26 hm
  rw [show ((2 : Int) ^ m) = ((2 ^ m : Nat) : Int) from by simp]
  generalize 2 ^ m = p at hp ⊢
  omega
theorem or_pow (y m : Nat) (hy : y < 2 ^ 26) (hm : m ≤ 25) : bits .or .u32 (y : Int) (2 ^ m % 4294967296) = ((y ||| 2 ^ m : Nat) : Int) := by
  rw [pow_mod m hm, or_nat y _ hy (pow_lt26 hm)]
theorem Mask.snoc {y m a0 b0 : Nat} {f : Nat → Nat} {p q : Nat → Nat → Prop} (h : Mask y f p) (hm : m ≤ 25) (hf : f (a0 * 5 + b0) = m) (hp : ∀ a b, q a b ↔ p a b ∨ (a = a0 ∧ b = b0)) : Mask (y ||| 2 ^ m) f q := by
  refine ⟨Nat.or_lt_two_pow h.1 (Nat.pow_lt_pow_right (by decide) (by omega)), ?_⟩
  intro k
  rw [Nat.testBit_or, Bool.or_eq_true, h.2 k, Nat.testBit_two_pow, decide_eq_true_eq]
  constructor
  · rintro (⟨a, b, h1, h2⟩ | rfl)
    · exact ⟨a, b, (hp a b).2 (.inl h1), h2⟩
    · exact ⟨a0, b0, (hp a0 b0).2 (.inr ⟨rfl, rfl⟩), hf⟩
  · rintro ⟨a, b, h1, h2⟩
    rcases (hp a b).1 h1 with h3 | ⟨rfl, rfl⟩
    · exact .inl ⟨a, b, h3, h2⟩
    · exact .inr (hf.symm.trans h2)
theorem Mask.same {y : Nat} {f : Nat → Nat} {p q : Nat → Nat → Prop} (h : Mask y f p) (hp : ∀ a b, q a b ↔ p a b) : Mask y f q := by
  refine ⟨h.1, fun k => ?_⟩
  rw [h.2 k]
  simp only [hp]
theorem Mask.zero {f : Nat → Nat} {p : Nat → Nat → Prop} (hp : ∀ a b, ¬ p a b) : Mask 0 f p := by
  refine ⟨by decide, fun k => ?_⟩
  simp only [Nat.zero_testBit, Bool.false_eq_true, false_iff]
  rintro ⟨a, b, h, _⟩
  exact hp a b h
theorem recB_true {r c d h a b : Nat} (e : recB r c d h a b = true) : inR r c d h a b := by
  have := of_decide_eq_true e
  unfold inR
  omega
theorem recB_false {r c d h a b : Nat} (e : recB r c d h a b = false) : ¬ inR r c d h a b := by
  have := of_decide_eq_false e
  unfold inR
  omega

set_option maxRecDepth 100000 in
set_option maxHeartbeats 4000000 in
theorem parted_any (R C n : Nat) (f : Nat → Nat) (t : Nat → Sl) (r c d h : Nat) (w : World) (hR : R ≤ 5) (hC : C ≤ 5) (hr : r + d ≤ 5) (hc : c + h ≤ 5) (hf : ∀ k, f k ≤ 25) :
    Calls Tryz.prog 136 #[.agg (gridA R C n f t), .agg #[.int .i64 r, .int .i64 c, .int .i64 d, .int .i64 h]] w fun z w' => (∃ x y : Nat, z = .returned (.tuple #[.int .u32 x, .int .u32 y]) ∧ Mask x f (fun a b => vis R 0 C a b ∧ inR r c d h a b) ∧ Mask y f (fun a b => vis R 0 C a b ∧ ¬ inR r c d h a b)) ∧ Below w.heap.size w w' := by
  go_enter Tryz.func136, Tryz.ntmps136
  go_upto_region 1 with fail
  have B0 : Below w.heap.size w ((w.alloc (.cells (gridA R C n f t) 195)).alloc (.cells #[.int .i64 r, .int .i64 c, .int .i64 d, .int .i64 h] 199)) := (((Below.refl _ _).alloc (Nat.le_refl _) _).alloc (by simp) _)
  have G0 : GridAt ((w.alloc (.cells (gridA R C n f t) 195)).alloc (.cells #[.int .i64 r, .int .i64 c, .int .i64 d, .int .i64 h] 199)) w.heap.size R C n f t := (gridAt_new w R C n f t).alloc _
  have G2 : RectAt ((w.alloc (.cells (gridA R C n f t) 195)).alloc (.cells #[.int .i64 r, .int .i64 c, .int .i64 d, .int .i64 h] 199)) (w.heap.size + 1) r c d h := by
    have := (rowAt_new (w.alloc (.cells (gridA R C n f t) 195)) #[.int .i64 r, .int .i64 c, .int .i64 d, .int .i64 h] 199)
    simpa [RectAt] using this
  generalize ((w.alloc (.cells (gridA R C n f t) 195)).alloc (.cells #[.int .i64 r, .int .i64 c, .int .i64 d, .int .i64 h] 199)) = v0 at B0 G0 G2 ⊢
  have k0 := G0.rows
  go_wp2_with fail
  go_loopw [4, 5, 11] (fun xv yv iv wr => ∃ i x y : Nat, i ≤ R ∧ iv = .int .i64 i ∧ xv = .int .u32 x ∧ yv = .int .u32 y ∧ Mask x f (fun a b => vis i 0 C a b ∧ inR r c d h a b) ∧ Mask y f (fun a b => vis i 0 C a b ∧ ¬ inR r c d h a b) ∧ Below v0.heap.size v0 wr) (fun _ _ iv _ => R - (intOf iv).toNat)
  case atStart => exact ⟨0, 0, 0, Nat.zero_le _, rfl, rfl, rfl, Mask.zero (fun a b hh => by simp [vis] at hh), Mask.zero (fun a b hh => by simp [vis] at hh), Below.refl _ _⟩
  case round =>
    clear k0
    obtain ⟨i, x, y, hi, rfl, rfl, rfl, hx, hy, hb⟩ := hrel
    have HX : Hid (Mask x f (fun a b => vis i 0 C a b ∧ inR r c d h a b)) := hx
    have HY : Hid (Mask y f (fun a b => vis i 0 C a b ∧ ¬ inR r c d h a b)) := hy
    have HG : Hid (GridAt wr w.heap.size R C n f t) := G0.below hb G0.lt
    have HQ : Hid (RectAt wr (w.heap.size + 1) r c d h) := RowAt.below G2 hb (RowAt.lt G2)
    have HB : Hid (Below v0.heap.size v0 wr) := hb
    have k1 := HG.out.cols
    clear hx hy hb
    by_cases hlt : i < R
    · have b0 : (i : Int) < 5 := by omega
      have b1 : (C : Int) ≤ 5 := by omega
      go_wp2_with fail
      go_quiet (fail)
      go_wp2_with fail
      go_loopw [4, 5, 21] (fun xv yv jv wq => ∃ j x y : Nat, j ≤ C ∧ jv = .int .i64 j ∧ xv = .int .u32 x ∧ yv = .int .u32 y ∧ Mask x f (fun a b => vis i j C a b ∧ inR r c d h a b) ∧ Mask y f (fun a b => vis i j C a b ∧ ¬ inR r c d h a b) ∧ Below v0.heap.size v0 wq) (fun _ _ jv _ => C - (intOf jv).toNat)
      case atStart => exact ⟨0, x, y, Nat.zero_le _, rfl, rfl, rfl, HX.out, HY.out, below_drewN HB.out _⟩
      case round =>
        clear HX HY HG HQ HB k1
        obtain ⟨j, x, y, hj, rfl, rfl, rfl, hx, hy, hb⟩ := hrel
        have HX : Hid (Mask x f (fun a b => vis i j C a b ∧ inR r c d h a b)) := hx
        have HY : Hid (Mask y f (fun a b => vis i j C a b ∧ ¬ inR r c d h a b)) := hy
        have HB : Hid (Below v0.heap.size v0 wr) := hb
        by_cases hlj : j < C
        · have k1 := (G0.below hb G0.lt).num (i * 5 + j) (by omega)
          have HQ : RectAt wr (w.heap.size + 1) r c d h := RowAt.below G2 hb (RowAt.lt G2)
          have hm := hf (i * 5 + j)
          obtain ⟨m, HM⟩ : ∃ m, Hid (f (i * 5 + j) = m) := ⟨_, rfl⟩
          rw [← Nat.add_assoc, HM.out] at k1
          rw [HM.out] at hm
          have e0 := HQ.c0
          have e1 := HQ.c1
          have e2 := HQ.c2
          have e3 := HQ.c3
          have sz := hb.size
          clear hx hy hb HQ
          cases hz : recB r c d h i j
          · have HH : Hid (recB r c d h i j = false) := hz
            clear hz
            go_wp2_with (go_at_call 138; refine (has_is HH.out ⟨by omega, by omega⟩ ⟨by omega, by omega⟩ ⟨by omega, by omega⟩ ⟨by omega, by omega⟩ _).mono ?_; rintro e w4 ⟨rfl, hb4⟩)
            go_roundw
            case rel =>
              refine ⟨j + 1, x, y ||| 2 ^ m, by omega, by go_num, rfl, by rw [or_pow y m HY.out.1 hm], HX.out.same ?_, HY.out.snoc hm HM.out ?_, HB.out.trans (hb4.mono sz)⟩
              · intro a b
                have hn := recB_false HH.out
                constructor
                · rintro ⟨⟨h1, h2⟩, h3⟩
                  refine ⟨⟨h1, ?_⟩, h3⟩
                  rcases h2 with h2 | ⟨rfl, h2⟩
                  · exact .inl h2
                  · refine .inr ⟨rfl, ?_⟩
                    rcases Nat.lt_or_ge b j with h4 | h4
                    · exact h4
                    · obtain rfl : b = j := by omega
                      exact absurd h3 hn
                · rintro ⟨⟨h1, h2⟩, h3⟩
                  exact ⟨⟨h1, by omega⟩, h3⟩
              · intro a b
                have hn := recB_false HH.out
                constructor
                · rintro ⟨⟨h1, h2⟩, h3⟩
                  by_cases h4 : a = i ∧ b = j
                  · exact .inr h4
                  · exact .inl ⟨⟨h1, by omega⟩, h3⟩
                · rintro (⟨⟨h1, h2⟩, h3⟩ | ⟨rfl, rfl⟩)
                  · exact ⟨⟨h1, by omega⟩, h3⟩
                  · exact ⟨⟨hlj, by omega⟩, hn⟩
            case measure => simp [intOf]; omega
          · have HH : Hid (recB r c d h i j = true) := hz
            clear hz
            go_wp2_with (go_at_call 138; refine (has_is HH.out ⟨by omega, by omega⟩ ⟨by omega, by omega⟩ ⟨by omega, by omega⟩ ⟨by omega, by omega⟩ _).mono ?_; rintro e w4 ⟨rfl, hb4⟩)
            go_roundw
            case rel =>
              refine ⟨j + 1, x ||| 2 ^ m, y, by omega, by go_num, by rw [or_pow x m HX.out.1 hm], rfl, HX.out.snoc hm HM.out ?_, HY.out.same ?_, HB.out.trans (hb4.mono sz)⟩
              · intro a b
                have hn := recB_true HH.out
                constructor
                · rintro ⟨⟨h1, h2⟩, h3⟩
                  by_cases h4 : a = i ∧ b = j
                  · exact .inr h4
                  · exact .inl ⟨⟨h1, by omega⟩, h3⟩
                · rintro (⟨⟨h1, h2⟩, h3⟩ | ⟨rfl, rfl⟩)
                  · exact ⟨⟨h1, by omega⟩, h3⟩
                  · exact ⟨⟨hlj, by omega⟩, hn⟩
              · intro a b
                have hn := recB_true HH.out
                constructor
                · rintro ⟨⟨h1, h2⟩, h3⟩
                  refine ⟨⟨h1, ?_⟩, h3⟩
                  rcases h2 with h2 | ⟨rfl, h2⟩
                  · exact .inl h2
                  · refine .inr ⟨rfl, ?_⟩
                    rcases Nat.lt_or_ge b j with h4 | h4
                    · exact h4
                    · obtain rfl : b = j := by omega
                      exact absurd hn h3
                · rintro ⟨⟨h1, h2⟩, h3⟩
                  exact ⟨⟨h1, by omega⟩, h3⟩
            case measure => simp [intOf]; omega
        · clear hx hy hb
          go_wp2_with fail
          go_roundw
          case rel =>
            refine ⟨i + 1, x, y, by omega, by go_num, rfl, rfl, HX.out.same ?_, HY.out.same ?_, HB.out⟩
            · intro a b
              exact and_congr_left' (by unfold vis; omega)
            · intro a b
              exact and_congr_left' (by unfold vis; omega)
          case measure => simp [intOf]; omega
    · go_wp2_with fail
      refine bodyPost_ret (v := .tuple #[.int .u32 x, .int .u32 y]) (by simp [results, Tryz.results136, go_sem]) rfl ⟨⟨x, y, rfl, ?_, ?_⟩, B0.trans (HB.out.mono B0.size)⟩
      · obtain rfl : i = R := by omega
        exact HX.out
      · obtain rfl : i = R := by omega
        exact HY.out
end Go.Proofs.YtccoeachemnbnaaGreatDoor
namespace Go.Proofs.YtccoeachemnbnaaGreatDoor
open Go.RowKit

/-- Each square is of a cell, and going through all squares each number is met behind all lesser ones. -/
def Tiles (R C : Nat) (f : Nat → Nat) : Prop := ∀ a b, vis R 0 C a b → 1 ≤ f (a * 5 + b) ∧ ∀ k, 1 ≤ k → k < f (a * 5 + b) → ∃ a' b', vis a b C a' b' ∧ f (a' * 5 + b') = k
/-- So far, and m is the greatest number met. -/
def Met (C : Nat) (f : Nat → Nat) (i j m : Nat) : Prop :=
  (∀ a b, vis i j C a b → (1 ≤ f (a * 5 + b) ∧ f (a * 5 + b) ≤ m) ∧ ∀ k, 1 ≤ k → k < f (a * 5 + b) → ∃ a' b', vis a b C a' b' ∧ f (a' * 5 + b') = k) ∧ (∀ k, 1 ≤ k → k ≤ m → ∃ a b, vis i j C a b ∧ f (a * 5 + b) = k)
theorem Met.row {C : Nat} {f : Nat → Nat} {i m : Nat} (h : Met C f i C m) : Met C f (i + 1) 0 m := by
  refine ⟨fun a b hv => h.1 a b ?_, fun k h1 h2 => ?_⟩
  · unfold vis at hv ⊢
    omega
  · obtain ⟨a, b, h3, h4⟩ := h.2 k h1 h2
    exact ⟨a, b, by unfold vis at h3 ⊢; omega, h4⟩
theorem Met.next {C : Nat} {f : Nat → Nat} {i j m : Nat} (h : Met C f i j m) (hj : j < C) (h0 : 1 ≤ f (i * 5 + j)) (h1 : f (i * 5 + j) ≤ m + 1) : Met C f i (j + 1) (max m (f (i * 5 + j))) := by
  refine ⟨fun a b hv => ?_, fun k k1 k2 => ?_⟩
  · by_cases hh : a = i ∧ b = j
    · obtain ⟨rfl, rfl⟩ := hh
      refine ⟨⟨h0, Nat.le_max_right _ _⟩, fun k k1 k2 => ?_⟩
      exact h.2 k k1 (by omega)
    · obtain ⟨⟨h2, h3⟩, h4⟩ := h.1 a b (by unfold vis at hv ⊢; omega)
      exact ⟨⟨h2, Nat.le_trans h3 (Nat.le_max_left _ _)⟩, h4⟩
  · by_cases hk : k ≤ m
    · obtain ⟨a, b, h3, h4⟩ := h.2 k k1 hk
      exact ⟨a, b, by unfold vis at h3 ⊢; omega, h4⟩
    · exact ⟨i, j, by unfold vis; omega, by omega⟩
theorem Met.zero (C : Nat) (f : Nat → Nat) : Met C f 0 0 0 := by
  refine ⟨fun a b hv => ?_, fun k k1 k2 => by omega⟩
  unfold vis at hv
  omega
theorem Met.bad {R C : Nat} {f : Nat → Nat} {i j m : Nat} (h : Met C f i j m) (hi : i < R) (hj : j < C) (hb : f (i * 5 + j) = 0 ∨ m + 1 < f (i * 5 + j)) : ¬ Tiles R C f := by
  intro ht
  obtain ⟨h1, h2⟩ := ht i j (by unfold vis; omega)
  rcases hb with hb | hb
  · omega
  · obtain ⟨a, b, h3, h4⟩ := h2 (m + 1) (by omega) hb
    have := (h.1 a b h3).1.2
    omega
theorem Met.good {R C : Nat} {f : Nat → Nat} {m : Nat} (h : Met C f R 0 m) : Tiles R C f := fun a b hv => ⟨(h.1 a b hv).1.1, (h.1 a b hv).2⟩

set_option maxRecDepth 100000 in
set_option maxHeartbeats 4000000 in
theorem isTiled_is {R C n : Nat} {f : Nat → Nat} {t : Nat → Sl} {w : World} {x : Bool} (hx : x = true ↔ Tiles R C f) (hR : R ≤ 5) (hC : C ≤ 5) (hf : ∀ k, f k ≤ 25) :
    Calls Tryz.prog 134 #[.agg (gridA R C n f t)] w fun z w' => z = .returned (.bool x) ∧ Below w.heap.size w w' := by
  have HX : Hid (x = true ↔ Tiles R C f) := hx
  clear hx
  go_enter Tryz.func134, Tryz.ntmps134
  go_upto_region 1 with fail
  have B0 : Below w.heap.size w (w.alloc (.cells (gridA R C n f t) 195)) := (Below.refl _ _).alloc (Nat.le_refl _) _
  have G0 : GridAt (w.alloc (.cells (gridA R C n f t) 195)) w.heap.size R C n f t := gridAt_new w R C n f t
  generalize (w.alloc (.cells (gridA R C n f t) 195)) = v0 at B0 G0 ⊢
  have k0 := G0.rows
  go_wp2_with fail
  go_loopw [3, 9] (fun mv iv wr => ∃ i m : Nat, i ≤ R ∧ m ≤ 25 ∧ iv = .int .i64 i ∧ mv = .int .i64 m ∧ Met C f i 0 m ∧ Below v0.heap.size v0 wr) (fun _ iv _ => R - (intOf iv).toNat)
  case atStart => exact ⟨0, 0, Nat.zero_le _, Nat.zero_le _, rfl, rfl, Met.zero C f, Below.refl _ _⟩
  case round =>
    clear k0
    obtain ⟨i, m, hi, hm, rfl, rfl, hM, hb⟩ := hrel
    have HM : Hid (Met C f i 0 m) := hM
    have HB : Hid (Below v0.heap.size v0 wr) := hb
    have k1 := (G0.below hb G0.lt).cols
    clear hM hb
    by_cases hlt : i < R
    · have b0 : (i : Int) < 5 := by omega
      have b1 : (C : Int) ≤ 5 := by omega
      go_wp2_with fail
      go_quiet (fail)
      go_wp2_with fail
      go_loopw [3, 19] (fun mv jv wr => ∃ j m : Nat, j ≤ C ∧ m ≤ 25 ∧ jv = .int .i64 j ∧ mv = .int .i64 m ∧ Met C f i j m ∧ Below v0.heap.size v0 wr) (fun _ jv _ => C - (intOf jv).toNat)
      case atStart => exact ⟨0, m, Nat.zero_le _, hm, rfl, rfl, HM.out, below_drewN HB.out _⟩
      case round =>
        clear HM HB k1
        obtain ⟨j, m, hj, hm, rfl, rfl, hM, hb⟩ := hrel
        have HM : Hid (Met C f i j m) := hM
        have HB : Hid (Below v0.heap.size v0 wr) := hb
        by_cases hlj : j < C
        · have k1 := (G0.below hb G0.lt).num (i * 5 + j) (by omega)
          have hq := hf (i * 5 + j)
          obtain ⟨q, HQ⟩ : ∃ q, Hid (f (i * 5 + j) = q) := ⟨_, rfl⟩
          rw [← Nat.add_assoc, HQ.out] at k1
          rw [HQ.out] at hq
          clear hM hb
          rcases (show q = 0 ∨ (¬ q = 0 ∧ m + 1 < q) ∨ (¬ q = 0 ∧ q ≤ m + 1) from by omega) with rfl | ⟨q0, q1⟩ | ⟨q0, q1⟩
          · go_wp2_with fail
            go_ret
            refine ⟨congrArg (fun b => Ending.returned (.bool b)) ?_, B0.trans (HB.out.mono B0.size)⟩
            show false = x
            cases x
            · rfl
            · exact absurd (HX.out.1 rfl) (HM.out.bad hlt hlj (.inl HQ.out))
          · have n0 : ((q : Int) == 0) = false := by simp; omega
            have n1 : (m : Int) + 1 < (q : Int) := by omega
            go_wp2_with fail
            go_ret
            refine ⟨congrArg (fun b => Ending.returned (.bool b)) ?_, B0.trans (HB.out.mono B0.size)⟩
            show false = x
            cases x
            · rfl
            · exact absurd (HX.out.1 rfl) (HM.out.bad hlt hlj (.inr (by rw [HQ.out]; exact q1)))
          · have n0 : ((q : Int) == 0) = false := by simp; omega
            have n1 : ¬ (m : Int) + 1 < (q : Int) := by omega
            go_wp2_with fail
            go_roundw
            case rel =>
              have hN := HM.out.next hlj (by rw [HQ.out]; omega) (by rw [HQ.out]; omega)
              rw [HQ.out] at hN
              refine ⟨j + 1, max m q, by omega, by omega, by go_num, ?_, hN, HB.out⟩
              by_cases hmq : m < q
              · rw [if_pos hmq, Nat.max_eq_right (by omega)]
              · rw [if_neg hmq, Nat.max_eq_left (by omega)]
            case measure => simp [intOf]; omega
        · clear hM hb
          go_wp2_with fail
          go_roundw
          case rel =>
            have hh := HM.out
            rw [show j = C from by omega] at hh
            exact ⟨i + 1, m, by omega, hm, by go_num, rfl, hh.row, HB.out⟩
          case measure => simp [intOf]; omega
    · go_wp2_with fail
      go_ret
      refine ⟨congrArg (fun b => Ending.returned (.bool b)) ?_, B0.trans (HB.out.mono B0.size)⟩
      show true = x
      have hh := HM.out
      rw [show i = R from by omega] at hh
      exact (HX.out.2 hh.good).symm
end Go.Proofs.YtccoeachemnbnaaGreatDoor
namespace Go.Proofs.YtccoeachemnbnaaGreatDoor
open Go.RowKit

/-- No square of a rectangle is of a cell. -/
def freeB (f : Nat → Nat) (r c d h : Nat) : Bool := (List.range d).all fun i => (List.range h).all fun j => f ((r + i) * 5 + (c + j)) == 0
theorem freeB_iff {f : Nat → Nat} {r c d h : Nat} : freeB f r c d h = true ↔ ∀ a b, inR r c d h a b → f (a * 5 + b) = 0 := by
  simp only [freeB, List.all_eq_true, List.mem_range, beq_iff_eq, inR]
  constructor
  · intro hh a b ⟨h1, h2, h3, h4⟩
    have := hh (a - r) (by omega) (b - c) (by omega)
    rwa [show r + (a - r) = a from by omega, show c + (b - c) = b from by omega] at this
  · intro hh i hi j hj
    exact hh (r + i) (c + j) ⟨by omega, by omega, by omega, by omega⟩
theorem mask_one {x : Nat} {f : Nat → Nat} {R C r c d h : Nat} (hx : Mask x f (fun a b => vis R 0 C a b ∧ inR r c d h a b)) (hd : 0 < d) (hh : 0 < h) (hR : r + d ≤ R) (hC : c + h ≤ C) : decide ((x : Int) = 1) = freeB f r c d h := by
  have key : x = 1 ↔ freeB f r c d h = true := by
    rw [freeB_iff]
    constructor
    · rintro rfl a b hab
      have h1 := (hx.2 (f (a * 5 + b))).2 ⟨a, b, ⟨by unfold vis; unfold inR at hab; omega, hab⟩, rfl⟩
      rw [show (1 : Nat) = 2 ^ 0 from rfl, Nat.testBit_two_pow, decide_eq_true_eq] at h1
      exact h1.symm
    · intro hz
      apply Nat.eq_of_testBit_eq
      intro k
      rw [Bool.eq_iff_iff, hx.2 k, show (1 : Nat) = 2 ^ 0 from rfl, Nat.testBit_two_pow, decide_eq_true_eq]
      constructor
      · rintro ⟨a, b, ⟨_, h2⟩, h3⟩
        rw [hz a b h2] at h3
        exact h3
      · rintro rfl
        exact ⟨r, c, ⟨by unfold vis; omega, by unfold inR; omega⟩, hz r c (by unfold inR; omega)⟩
  cases hf : freeB f r c d h
  · rw [hf] at key
    refine decide_eq_false ?_
    intro e
    exact absurd (key.1 (by omega)) (by simp)
  · rw [hf] at key
    refine decide_eq_true ?_
    have := key.2 rfl
    omega

set_option maxRecDepth 100000 in
set_option maxHeartbeats 4000000 in
theorem isFree_is {R C n : Nat} {f : Nat → Nat} {t : Nat → Sl} {r c d h : Nat} {w : World} {x : Bool} (hx : freeB f r c d h = x) (hR : R ≤ 5) (hC : C ≤ 5) (hr : r + d ≤ R) (hc : c + h ≤ C) (hd : 0 < d) (hh : 0 < h) (hf : ∀ k, f k ≤ 25) :
    Calls Tryz.prog 132 #[.agg (gridA R C n f t), .agg #[.int .i64 r, .int .i64 c, .int .i64 d, .int .i64 h]] w fun z w' => z = .returned (.bool x) ∧ Below w.heap.size w w' := by
  have HX : Hid (freeB f r c d h = x) := hx
  clear hx
  go_enter Tryz.func132, Tryz.ntmps132
  go_upto_region 1 with fail
  have B0 : Below w.heap.size w ((w.alloc (.cells (gridA R C n f t) 195)).alloc (.cells #[.int .i64 r, .int .i64 c, .int .i64 d, .int .i64 h] 199)) := (((Below.refl _ _).alloc (Nat.le_refl _) _).alloc (by simp) _)
  have G0 : GridAt ((w.alloc (.cells (gridA R C n f t) 195)).alloc (.cells #[.int .i64 r, .int .i64 c, .int .i64 d, .int .i64 h] 199)) w.heap.size R C n f t := (gridAt_new w R C n f t).alloc _
  have G2 : RectAt ((w.alloc (.cells (gridA R C n f t) 195)).alloc (.cells #[.int .i64 r, .int .i64 c, .int .i64 d, .int .i64 h] 199)) (w.heap.size + 1) r c d h := by
    have := (rowAt_new (w.alloc (.cells (gridA R C n f t) 195)) #[.int .i64 r, .int .i64 c, .int .i64 d, .int .i64 h] 199)
    simpa [RectAt] using this
  generalize ((w.alloc (.cells (gridA R C n f t) 195)).alloc (.cells #[.int .i64 r, .int .i64 c, .int .i64 d, .int .i64 h] 199)) = v0 at B0 G0 G2 ⊢
  have e0 := G2.c0
  have e1 := G2.c1
  have e2 := G2.c2
  have e3 := G2.c3
  have HG : Hid (GridAt v0 w.heap.size R C n f t) := G0
  clear G0 G2
  go_wp2_with (first | (refine wpList_load_row rfl 195 (.tmp 2) rfl w.heap.size rfl 195 (gridA R C n f t) (0, 0) _ HG.out Tryz.underlying195 rfl (grid_infoA _ _ _ _ _) ?_) | (go_at_call 136; refine (parted_any R C n f t r c d h _ hR hC (by omega) (by omega) hf).mono ?_; rintro e w4 ⟨⟨xx, yy, rfl, hxx, -⟩, hb4⟩))
  go_ret
  refine ⟨congrArg (fun b => Ending.returned (.bool b)) ?_, B0.trans (hb4.mono B0.size)⟩
  show ((xx : Int) == 1) = x
  rw [← HX.out, ← mask_one hxx hd hh hr hc, Bool.eq_iff_iff]
  simp
end Go.Proofs.YtccoeachemnbnaaGreatDoor
