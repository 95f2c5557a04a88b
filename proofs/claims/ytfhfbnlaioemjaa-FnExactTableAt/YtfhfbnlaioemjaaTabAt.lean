import Derived.Test.YtfhfbnlaioemjaaTabOk
namespace Go.Proofs.Ytfhfbnlaioemjaa
open Go.RowKit

/-- The number of the first cell that a square is of. -/
def atN (R C : Int) (l : List Cl) (r c : Int) : Int := if okB R C l then (match l.findIdx? fun x => inB x r c with | some i => (i : Int) | none => -1) else -1
theorem okB_form {R C : Int} {l : List Cl} (h : okB R C l = true) : formB R C l = true := by
  simp only [okB, Bool.and_eq_true] at h
  exact h.1
theorem specTableOk_is {R C : Int} {a : Option Addr} {n cap : Nat} {l : List Cl} {w : World} {x : Bool} (hx : okB R C l = x) (h : Tab w a n cap l) :
    Calls Try.prog 7 #[.agg #[.int .i64 R, .int .i64 C, .slice a n cap]] w fun e w' => e = .returned (.bool x) ∧ Below w.heap.size w w' := hx ▸ specTableOk_any R C a n cap l w h
theorem findIdx_some (l : List Cl) (k : Nat) (r c : Int) (hk : k < l.length) (h0 : ∀ j, j < k → inB (l.getD j cl0) r c = false) (h1 : inB (l.getD k cl0) r c = true) : (l.findIdx? fun x => inB x r c) = some k := by
  rw [List.findIdx?_eq_some_iff_getElem]
  refine ⟨hk, by simpa [List.getD, hk] using h1, ?_⟩
  intro j hj
  have := h0 j hj
  simpa [List.getD, show j < l.length from by omega] using this
theorem findIdx_none (l : List Cl) (r c : Int) (h0 : ∀ j, j < l.length → inB (l.getD j cl0) r c = false) : (l.findIdx? fun x => inB x r c) = none := by
  rw [List.findIdx?_eq_none_iff]
  intro x hx
  obtain ⟨j, hj, rfl⟩ := List.getElem_of_mem hx
  have := h0 j hj
  simpa [List.getD, hj] using this

end Go.Proofs.Ytfhfbnlaioemjaa
