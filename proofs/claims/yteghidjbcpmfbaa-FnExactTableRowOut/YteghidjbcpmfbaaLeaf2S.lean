import Derived.Test.YteghidjbcpmfbaaLeafS
import Derived.Deep.RegionWith
namespace Go.Proofs.Yteghidjbcpmfbaa
open Go.RowKit

theorem whoCases (i o : Int) : whoB i = false ∨ (whoB i = true ∧ whoB o = false) ∨ (whoB i = true ∧ whoB o = true ∧ o = 0) ∨ (whoB i = true ∧ whoB o = true ∧ (o == 0) = false ∧ (i != o) = false) ∨ (whoB i = true ∧ whoB o = true ∧ (o == 0) = false ∧ (i != o) = true) := by
  by_cases h : i = o
  · subst h; cases whoB i <;> by_cases h0 : i = 0 <;> simp [h0]
  · cases whoB i <;> cases whoB o <;> by_cases h0 : o = 0 <;> simp [h0, h]

theorem l6In_is {n : Int} {x : Bool} (h : whoB n = x) (w : World) : Calls Try.prog 28 #[.int .i64 n, .int .i64 0, .int .i64 3] w fun e w' => e = .returned (.bool x) ∧ w' = w := h ▸ l6In_any n w

set_option maxHeartbeats 2000000 in
theorem l1Sign_no (b i o : Int) (w : World) (hb : byteB b = false) :
    Calls Try.prog 65 #[.agg #[.int .u8 b, .int .i64 i, .int .i64 o]] w fun e w' => e = .returned (.bool (signB b i o)) ∧ Below w.heap.size w w' := by
  rw [show signB b i o = false from by simp [signB, hb]]
  have k1 : (b == 32) = false := by simp [byteB] at hb; simp; omega
  rcases (show (97 ≤ b ∧ ¬ b ≤ 122) ∨ (¬ 97 ≤ b ∧ 48 ≤ b ∧ ¬ b ≤ 57) ∨ (¬ 48 ≤ b ∧ ¬ b = 32) from by simp [byteB] at hb; omega) with ⟨h0, h1⟩ | ⟨h0, h1, h2⟩ | ⟨h0, h1⟩
  · have k2 : ¬ b ≤ 57 := by omega
    have k3 : decide (b ≤ 57) = false := by simp; omega
    go_enter Try.func65, Try.ntmps65
    go_wp2_with fail
    go_ret
    exact ⟨rfl, (Below.refl _ _).alloc (Nat.le_refl _) _⟩
  · go_enter Try.func65, Try.ntmps65
    go_wp2_with fail
    go_ret
    exact ⟨rfl, (Below.refl _ _).alloc (Nat.le_refl _) _⟩
  · go_enter Try.func65, Try.ntmps65
    go_wp2_with fail
    go_ret
    exact ⟨rfl, (Below.refl _ _).alloc (Nat.le_refl _) _⟩

theorem byteCases {b : Int} (hb : byteB b = true) : (97 ≤ b ∧ b ≤ 122) ∨ (¬ 97 ≤ b ∧ 48 ≤ b ∧ b ≤ 57 ∧ (b == 32) = false) ∨ b = 32 := by
  simp [byteB] at hb; simp; omega

set_option maxHeartbeats 2000000 in
theorem l1Sign_i (b i o : Int) (w : World) (hb : byteB b = true) (hi : whoB i = false) :
    Calls Try.prog 65 #[.agg #[.int .u8 b, .int .i64 i, .int .i64 o]] w fun e w' => e = .returned (.bool (signB b i o)) ∧ Below w.heap.size w w' := by
  rw [show signB b i o = false from by simp [signB, hi]]
  rcases byteCases hb with ⟨h0, h1⟩ | ⟨h0, h1, h2, h3⟩ | rfl
  all_goals
    clear hb
    go_enter Try.func65, Try.ntmps65
    go_wp2_with (first | (go_at_call_of 28 (Value.int IntKind.i64 i); refine (l6In_is hi _).mono ?_; rintro e w' ⟨rfl, rfl⟩))
    go_ret
    exact ⟨rfl, (Below.refl _ _).alloc (Nat.le_refl _) _⟩

set_option maxHeartbeats 2000000 in
theorem l1Sign_o (b i o : Int) (w : World) (hb : byteB b = true) (hi : whoB i = true) (ho : whoB o = false) :
    Calls Try.prog 65 #[.agg #[.int .u8 b, .int .i64 i, .int .i64 o]] w fun e w' => e = .returned (.bool (signB b i o)) ∧ Below w.heap.size w w' := by
  rw [show signB b i o = false from by simp [signB, ho]]
  rcases byteCases hb with ⟨h0, h1⟩ | ⟨h0, h1, h2, h3⟩ | rfl
  all_goals
    clear hb
    go_enter Try.func65, Try.ntmps65
    go_wp2_with (first | (go_at_call_of 28 (Value.int IntKind.i64 i); refine (l6In_is hi _).mono ?_; rintro e w' ⟨rfl, rfl⟩) | (go_at_call_of 28 (Value.int IntKind.i64 o); refine (l6In_is ho _).mono ?_; rintro e w' ⟨rfl, rfl⟩))
    go_ret
    exact ⟨rfl, (Below.refl _ _).alloc (Nat.le_refl _) _⟩

set_option maxHeartbeats 2000000 in
theorem l1Sign_n (b i o : Int) (w : World) (hb : byteB b = true) (hi : whoB i = true) (ho : whoB o = true) (hz : (o == 0) = false) (hn : (i != o) = false) :
    Calls Try.prog 65 #[.agg #[.int .u8 b, .int .i64 i, .int .i64 o]] w fun e w' => e = .returned (.bool (signB b i o)) ∧ Below w.heap.size w w' := by
  rw [show signB b i o = false from by simp at hz hn; subst hn; simp [signB, hz]]
  rcases byteCases hb with ⟨h0, h1⟩ | ⟨h0, h1, h2, h3⟩ | rfl
  all_goals
    clear hb
    go_enter Try.func65, Try.ntmps65
    go_wp2_with (first | (go_at_call_of 28 (Value.int IntKind.i64 i); refine (l6In_is hi _).mono ?_; rintro e w' ⟨rfl, rfl⟩) | (go_at_call_of 28 (Value.int IntKind.i64 o); refine (l6In_is ho _).mono ?_; rintro e w' ⟨rfl, rfl⟩))
    go_ret
    exact ⟨rfl, (Below.refl _ _).alloc (Nat.le_refl _) _⟩

set_option maxHeartbeats 2000000 in
theorem l1Sign_y (b i o : Int) (w : World) (hb : byteB b = true) (hi : whoB i = true) (ho : whoB o = true) (hz : (o == 0) = false) (hn : (i != o) = true) :
    Calls Try.prog 65 #[.agg #[.int .u8 b, .int .i64 i, .int .i64 o]] w fun e w' => e = .returned (.bool (signB b i o)) ∧ Below w.heap.size w w' := by
  rw [show signB b i o = true from by simp at hz hn; simp [signB, hb, hi, ho, hn]]
  rcases byteCases hb with ⟨h0, h1⟩ | ⟨h0, h1, h2, h3⟩ | rfl
  all_goals
    clear hb
    go_enter Try.func65, Try.ntmps65
    go_wp2_with (first | (go_at_call_of 28 (Value.int IntKind.i64 i); refine (l6In_is hi _).mono ?_; rintro e w' ⟨rfl, rfl⟩) | (go_at_call_of 28 (Value.int IntKind.i64 o); refine (l6In_is ho _).mono ?_; rintro e w' ⟨rfl, rfl⟩))
    go_ret
    exact ⟨rfl, (Below.refl _ _).alloc (Nat.le_refl _) _⟩

set_option maxHeartbeats 2000000 in
theorem l1Sign_z (b i : Int) (w : World) (hb : byteB b = true) (hi : whoB i = true) :
    Calls Try.prog 65 #[.agg #[.int .u8 b, .int .i64 i, .int .i64 0]] w fun e w' => e = .returned (.bool (signB b i 0)) ∧ Below w.heap.size w w' := by
  rw [show signB b i 0 = true from by simp [signB, hb, hi]; rfl]
  rcases byteCases hb with ⟨h0, h1⟩ | ⟨h0, h1, h2, h3⟩ | rfl
  all_goals
    clear hb
    go_enter Try.func65, Try.ntmps65
    go_wp2_with (first | (go_at_call_of 28 (Value.int IntKind.i64 i); refine (l6In_is hi _).mono ?_; rintro e w' ⟨rfl, rfl⟩) | (go_at_call 28; refine (l6In_is (n := 0) (x := true) (by rfl) _).mono ?_; rintro e w' ⟨rfl, rfl⟩))
    go_ret
    exact ⟨rfl, (Below.refl _ _).alloc (Nat.le_refl _) _⟩

theorem l1Sign_any (b i o : Int) (w : World) :
    Calls Try.prog 65 #[.agg #[.int .u8 b, .int .i64 i, .int .i64 o]] w fun e w' => e = .returned (.bool (signB b i o)) ∧ Below w.heap.size w w' := by
  cases hb : byteB b
  · exact l1Sign_no b i o w hb
  · rcases whoCases i o with hi | ⟨hi, ho⟩ | ⟨hi, ho, rfl⟩ | ⟨hi, ho, hz, hn⟩ | ⟨hi, ho, hz, hn⟩
    · exact l1Sign_i b i o w hb hi
    · exact l1Sign_o b i o w hb hi ho
    · exact l1Sign_z b i w hb hi
    · exact l1Sign_n b i o w hb hi ho hz hn
    · exact l1Sign_y b i o w hb hi ho hz hn

end Go.Proofs.Yteghidjbcpmfbaa
