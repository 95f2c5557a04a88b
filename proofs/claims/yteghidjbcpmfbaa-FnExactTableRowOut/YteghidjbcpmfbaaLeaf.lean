import Derived.Test.YteghidjbcpmfbaaLeafS
namespace Go.Proofs.Yteghidjbcpmfbaa
open Go.RowKit

set_option maxHeartbeats 400000 in
theorem whoOk_any (n : Int) (w : World) :
    Calls Try.prog 74 #[.int .i64 n] w fun e w' => e = .returned (.bool (whoB n)) ∧ w' = w := by
  rcases (show (0 ≤ n ∧ n ≤ 3) ∨ (0 ≤ n ∧ ¬ n ≤ 3) ∨ (¬ 0 ≤ n) from by omega) with ⟨h0, h1⟩ | ⟨h0, h1⟩ | h0
  · have e : whoB n = true := by simp [whoB]; omega
    rw [e]
    go_enter Try.func74, Try.ntmps74
    go_wp2
    go_ret
    exact ⟨rfl, rfl⟩
  all_goals
    have e : whoB n = false := by simp [whoB]; omega
    rw [e]
    go_enter Try.func74, Try.ntmps74
    go_wp2
    go_ret
    exact ⟨rfl, rfl⟩

set_option maxHeartbeats 800000 in
theorem byteOk_any (b : Int) (w : World) :
    Calls Try.prog 73 #[.int .u8 b] w fun e w' => e = .returned (.bool (byteB b)) ∧ w' = w := by
  rcases (show (97 ≤ b ∧ b ≤ 122) ∨ (97 ≤ b ∧ ¬ b ≤ 122) ∨ (¬ 97 ≤ b ∧ 48 ≤ b ∧ b ≤ 57) ∨ (¬ 97 ≤ b ∧ 48 ≤ b ∧ ¬ b ≤ 57) ∨ (¬ 48 ≤ b ∧ b = 32) ∨ (¬ 48 ≤ b ∧ ¬ b = 32) from by omega) with ⟨h0, h1⟩ | ⟨h0, h1⟩ | ⟨h0, h1, h2⟩ | ⟨h0, h1, h2⟩ | ⟨h0, rfl⟩ | ⟨h0, h1⟩
  · rw [show byteB b = true from by simp [byteB]; omega]
    go_enter Try.func73, Try.ntmps73
    go_wp2
    go_ret
    exact ⟨rfl, rfl⟩
  · rw [show byteB b = false from by simp [byteB]; omega]
    have k1 : (b == 32) = false := by simp; omega
    have k2 : ¬ b ≤ 57 := by omega
    have k3 : decide (b ≤ 57) = false := by simp; omega
    go_enter Try.func73, Try.ntmps73
    go_wp2
    go_ret
    exact ⟨rfl, rfl⟩
  · rw [show byteB b = true from by simp [byteB]; omega]
    go_enter Try.func73, Try.ntmps73
    go_wp2
    go_ret
    exact ⟨rfl, rfl⟩
  · rw [show byteB b = false from by simp [byteB]; omega]
    have k1 : (b == 32) = false := by simp; omega
    go_enter Try.func73, Try.ntmps73
    go_wp2
    go_ret
    exact ⟨rfl, rfl⟩
  · go_enter Try.func73, Try.ntmps73
    go_wp2
    go_ret
    exact ⟨rfl, rfl⟩
  · rw [show byteB b = false from by simp [byteB]; omega]
    have k1 : (b == 32) = false := by simp; omega
    go_enter Try.func73, Try.ntmps73
    go_wp2
    go_ret
    exact ⟨rfl, rfl⟩

set_option maxHeartbeats 800000 in
theorem person_any (n : Int) (w : World) :
    Calls Try.prog 75 #[.int .i64 n] w fun e w' => e = .returned (.int .u8 (personN n)) ∧ w' = w := by
  rcases (show n = 0 ∨ n = 1 ∨ n = 2 ∨ n = 3 ∨ (¬ n = 0 ∧ whoB n = false) from by simp [whoB]; omega) with rfl | rfl | rfl | rfl | ⟨h0, h1⟩
  · go_enter Try.func75, Try.ntmps75
    go_wp2_with (first | (go_at_call 74; refine (whoOk_any _ _).mono ?_; rintro e w' ⟨rfl, rfl⟩))
    go_ret
    exact ⟨rfl, rfl⟩
  · go_enter Try.func75, Try.ntmps75
    go_wp2_with (first | (go_at_call 74; refine (whoOk_any _ _).mono ?_; rintro e w' ⟨rfl, rfl⟩))
    go_ret
    exact ⟨rfl, rfl⟩
  · go_enter Try.func75, Try.ntmps75
    go_wp2_with (first | (go_at_call 74; refine (whoOk_any _ _).mono ?_; rintro e w' ⟨rfl, rfl⟩))
    go_ret
    exact ⟨rfl, rfl⟩
  · go_enter Try.func75, Try.ntmps75
    go_wp2_with (first | (go_at_call 74; refine (whoOk_any _ _).mono ?_; rintro e w' ⟨rfl, rfl⟩))
    go_ret
    exact ⟨rfl, rfl⟩
  · have e : personN n = 0 := by
      simp [whoB] at h1
      simp only [personN]
      rw [if_neg (by omega), if_neg (by omega), if_neg (by omega)]
    rw [e]
    go_enter Try.func75, Try.ntmps75
    go_wp2_with (first | (go_at_call 74; refine (whoOk_any _ _).mono ?_; rintro e w' ⟨rfl, rfl⟩))
    go_ret
    exact ⟨rfl, rfl⟩

end Go.Proofs.Yteghidjbcpmfbaa
