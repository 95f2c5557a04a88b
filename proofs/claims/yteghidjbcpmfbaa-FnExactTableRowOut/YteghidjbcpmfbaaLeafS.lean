import Derived.Test.YteghidjbcpmfbaaRows
import Derived.WalkKit
import Derived.WalkSpells
import Derived.WalkLawsBesides
import Derived.Deep.QuietTactic
import Derived.BigQuiet
namespace Go.Proofs.Yteghidjbcpmfbaa
open Go.RowKit

def byteB (b : Int) : Bool := decide (97 ≤ b ∧ b ≤ 122 ∨ 48 ≤ b ∧ b ≤ 57 ∨ b = 32)
def whoB (n : Int) : Bool := decide (0 ≤ n ∧ n ≤ 3)
def personN (n : Int) : Int := if n = 1 then 1 else if n = 2 then 2 else if n = 3 then 4 else 0
def signB (b i o : Int) : Bool := byteB b && whoB i && whoB o && decide (o = 0 ∨ i ≠ o)

set_option maxHeartbeats 400000 in
theorem l6In_any (n : Int) (w : World) :
    Calls Try.prog 28 #[.int .i64 n, .int .i64 0, .int .i64 3] w fun e w' => e = .returned (.bool (whoB n)) ∧ w' = w := by
  rcases (show (0 ≤ n ∧ n ≤ 3) ∨ (0 ≤ n ∧ ¬ n ≤ 3) ∨ (¬ 0 ≤ n) from by omega) with ⟨h0, h1⟩ | ⟨h0, h1⟩ | h0
  · have e : whoB n = true := by simp [whoB]; omega
    rw [e]
    go_enter Try.func28, Try.ntmps28
    go_wp2
    go_ret
    exact ⟨rfl, rfl⟩
  all_goals
    have e : whoB n = false := by simp [whoB]; omega
    rw [e]
    go_enter Try.func28, Try.ntmps28
    go_wp2
    go_ret
    exact ⟨rfl, rfl⟩


theorem l6Cases (n lo hi : Int) : (lo ≤ n ∧ n ≤ hi) ∨ (lo ≤ n ∧ ¬ n ≤ hi) ∨ (¬ lo ≤ n) := by omega
set_option maxHeartbeats 400000 in
theorem l6In_gen (n lo hi : Int) (w : World) :
    Calls Try.prog 28 #[.int .i64 n, .int .i64 lo, .int .i64 hi] w fun e w' => e = .returned (.bool (decide (lo ≤ n ∧ n ≤ hi))) ∧ w' = w := by
  rcases l6Cases n lo hi with ⟨h0, h1⟩ | ⟨h0, h1⟩ | h0
  · rw [decide_eq_true ⟨h0, h1⟩]
    go_enter Try.func28, Try.ntmps28
    go_wp2
    go_ret
    exact ⟨rfl, rfl⟩
  · rw [decide_eq_false (fun h => h1 h.2)]
    go_enter Try.func28, Try.ntmps28
    go_wp2
    go_ret
    exact ⟨rfl, rfl⟩
  · rw [decide_eq_false (fun h => h0 h.1)]
    go_enter Try.func28, Try.ntmps28
    go_wp2
    go_ret
    exact ⟨rfl, rfl⟩
theorem l6In_of {n lo hi : Int} {x : Bool} (h : decide (lo ≤ n ∧ n ≤ hi) = x) (w : World) :
    Calls Try.prog 28 #[.int .i64 n, .int .i64 lo, .int .i64 hi] w fun e w' => e = .returned (.bool x) ∧ w' = w := h ▸ l6In_gen n lo hi w

end Go.Proofs.Yteghidjbcpmfbaa
