/-
  Proved: called with any document and any place, FnExactPlaceText returns true, and each argument reads behind the call as it read before. No condition.
-/
import Derived.Test.YtcecmkideoodiaaL1
import Derived.Test.YtcecmkideoodiaaL2
namespace Go.Proofs.Ytcecmkideoodiaa
open Go.ChangeShapes Go.WideShapes Go.ChangeAt Go.RowKit

set_option maxRecDepth 100000 in
theorem fnExactPlaceText_lifted (os : Os) (started : os.Started) (H : Type) (enc : TypeId × Value → H) :
    ReturnsInHanded {} Try.checked os 6 .any (Rows.fnExactPlaceTextSpec.pre6 enc Try.prog Try.f6 Rows.fnExactPlaceTextRow.domain false) (Rows.fnExactPlaceTextSpec.post enc Try.prog Try.f6 false true false false) := by
  refine returnsInHanded_of_change (C := Try.checked) own started (by kernel_rfl) Try.func6
    (ChangeSpec.witness6 (enc := enc) (C := Try.checked) false ⟨#[], #[.agg #[.slice none 0 0], .agg #[.int .i64 0, .int .i64 0, .int .i64 0]], []⟩ 8 (by kernel_rfl) (by kernel_rfl) (by kernel_rfl) (by kernel_rfl)) ?_
  intro W base args ds gs before hval0 hW hcnd _
  have hval : ∀ (j : Nat) t v, Try.f6.params[j]? = some t → args[j]? = some v → Value.okWide Try.prog W .any base t v := hval0
  have hW' := hW
  obtain ⟨p, q, hA0, hV, rfl, hfz, hnd⟩ := hW
  have hA : DataW.TrodAll enc Try.prog W 0 (fun _ => true) true Try.f6.params.toList args.toList ds p := hA0
  rw [Try.params6] at hA hval
  obtain ⟨v0, vs0, d0, ds0, p0, q0, hargs, rfl, rfl, h0, r0⟩ := trodAll_cons hA
  obtain ⟨v1, vs1, d1, ds1, p1, q1, rfl, rfl, rfl, h1, r1⟩ := trodAll_cons r0
  obtain ⟨rfl, rfl, rfl⟩ := trodAll_nil r1
  obtain rfl : args = #[v0, v1] := by cases args; simp_all
  obtain ⟨rfl, rfl⟩ := trodVars_none hV
  obtain ⟨cs0, rfl, hcs0⟩ := okWide_struct Try.underlying44 (hval 0 44 v0 rfl rfl)
  have k0 := h0
  have lt0 : ∀ x ∈ p0, x.block < W.heap.size := by obtain ⟨m, hm⟩ := k0; exact DataW.trod_lt m _ _ _ hm
  obtain ⟨a0, len0, cap0, l0, hc0, w0⟩ : ∃ a n c d, cs0 = #[.slice a n c] ∧ Dc W a n c d := by
    obtain ⟨fuel, hf⟩ := h0
    obtain ⟨a, n, c, d, hcs, ht⟩ := open_doc hf
    refine ⟨a, n, c, d, ?_, ht⟩
    have : cs0.toList = [.slice a n c] := hcs
    rw [← Array.toArray_toList (xs := cs0), this]
  subst hc0
  obtain ⟨cs1, rfl, hcs1⟩ := okWide_struct Try.underlying45 (hval 1 45 v1 rfl rfl)
  have k1 := h1
  have lt1 : ∀ x ∈ p1, x.block < W.heap.size := by obtain ⟨m, hm⟩ := k1; exact DataW.trod_lt m _ _ _ hm
  obtain ⟨B1, C1, A1, hc1, w1⟩ : ∃ b c a, cs1 = #[.int .i64 b, .int .i64 c, .int .i64 a] ∧ ((Lit.int .i64 b).wf = true ∧ (Lit.int .i64 c).wf = true ∧ (Lit.int .i64 a).wf = true) := by
    obtain ⟨fuel, hf⟩ := h1
    obtain ⟨b, c, a, hcs, ht⟩ := open_place hf
    refine ⟨b, c, a, ?_, ht⟩
    have : cs1.toList = [.int .i64 b, .int .i64 c, .int .i64 a] := hcs
    rw [← Array.toArray_toList (xs := cs1), this]
  subst hc1
  clear hA0 hval0
  refine (lawXPlaceText_walk a0 len0 cap0 l0 B1 C1 A1 W w0 w1).mono fun e W' ⟨he, bel⟩ => ?_
  subst he
  exact ⟨_, rfl, _, _, _, [], _, [], hW', trodAll_mk1 (shut_bool Try.underlying4 _), (trodAll_cons_mk (Below.trod laidOut (by kernel_rfl) (of_decide_eq_true (by kernel_rfl)) k0 bel lt0) (trodAll_cons_mk (Below.trod laidOut (by kernel_rfl) (of_decide_eq_true (by kernel_rfl)) k1 bel lt1) trodAll_mk0)), rfl, bel.frame _, fun h => by cases h⟩

theorem fnExactPlaceText_holds : Rows.FnExactPlaceTextSaid :=
  OpenClaim.holds_of_wide 6 Try.f6 rfl rfl rfl rfl rfl rfl rfl ⟨rfl, rfl, rfl, rfl, rfl⟩ rfl rfl rfl rfl rfl (by kernel_rfl) Try.func6 (by kernel_rfl)
    (of_decide_eq_true (by kernel_rfl)) (by unfold Func.isWrapper; first | (rw [if_pos (by decide +kernel)]; kernel_rfl) | (rw [if_neg (by decide +kernel)]; exact ⟨rfl, rfl⟩))
    (fun os started H enc _ => fnExactPlaceText_lifted os started H enc)
#print axioms fnExactPlaceText_holds
end Go.Proofs.Ytcecmkideoodiaa
