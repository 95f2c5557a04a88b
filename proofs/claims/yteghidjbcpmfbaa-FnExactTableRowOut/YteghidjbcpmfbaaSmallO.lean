import Derived.Test.YteghidjbcpmfbaaLawKit
import Derived.Test.YteghidjbcpmfbaaRowOutP
namespace Go.Proofs.Yteghidjbcpmfbaa
open Go.RowKit

theorem small_out {R C : Int} {l : List Cl} {t' : Int} : rowOutB R C l t' = true → (outL t' l).length ≤ 50 ∧ ∀ x ∈ outL t' l, x.2.2.2.2.length ≤ 24 := by
  intro h
  simp only [rowOutB, Bool.and_eq_true] at h
  obtain ⟨h1, h2⟩ := ok_small h.1.1
  refine ⟨by have := outL_len (l := l) t'; omega, fun x hx => ?_⟩
  obtain ⟨m, hm, e, -⟩ := outM_mem.1 ((sortC_perm (outM t' l)).mem_iff.1 hx)
  rw [← e, outC_txt]
  exact h2 _ (getD_mem hm)
end Go.Proofs.Yteghidjbcpmfbaa
