import Derived.Test.YtmemhmndfcdmbavOwn
import Derived.Deep.RegionHeld3
import Derived.Deep.AppendLies
namespace Go.Proofs.Ytmemhmndfcdmbav
open Go.RowKit

/-- A person is in a set of people. -/
def hasB (p n : Int) : Bool := bits BinOp.and IntKind.u8 p (personN n) != 0
def woN (p n : Int) : Int := if hasB p n then 0 else n

set_option maxHeartbeats 400000 in
theorem has_any (p n : Int) (w : World) :
    Calls Try.prog 50 #[.int .u8 p, .int .i64 n] w fun e w' => e = .returned (.bool (hasB p n)) ∧ w' = w := by
  go_enter Try.func50, Try.ntmps50
  go_wp2_with (go_at_call 31; refine (person_any _ _).mono ?_; rintro e w' ⟨rfl, rfl⟩)
  go_ret
  exact ⟨rfl, rfl⟩

theorem has_is {p n : Int} {x : Bool} (h : hasB p n = x) (w : World) : Calls Try.prog 50 #[.int .u8 p, .int .i64 n] w fun e w' => e = .returned (.bool x) ∧ w' = w := h ▸ has_any p n w

theorem textB_len {l : List Sg} (h : textB l = true) : l.length ≤ 24 := by
  simp [textB] at h
  exact h.1
theorem sgB_parts {s : Sg} (h : sgB s = true) : byteB s.1 = true ∧ whoB s.2.1 = true ∧ whoB s.2.2 = true ∧ (s.2.2 = 0 ∨ s.2.1 ≠ s.2.2) := by
  simp [sgB, signB] at h
  exact ⟨h.1.1.1, h.1.1.2, h.1.2, h.2⟩
theorem textB_all {l : List Sg} (h : textB l = true) : ∀ s ∈ l, sgB s = true := by
  simp [textB] at h
  exact fun s hs => h.2 s.1 s.2.1 s.2.2 hs
end Go.Proofs.Ytmemhmndfcdmbav
