/-
  Proved: called with any document and any place, FnExactSpotRaw returns true, and each argument reads behind the call as it read before. No condition.
-/
import Derived.Test.YtccoeachemnbnaaGreatDoorBA1
import Derived.Test.YtccoeachemnbnaaGreatDoorL1
namespace Go.Proofs.YtccoeachemnbnaaGreatDoor
open Go.ChangeShapes Go.WideShapes Go.ChangeAt Go.RowKit

theorem fnExactSpotRaw_met (os : Os) (args : Array Value) : laidMet Tryz.prog Rows.fnExactSpotRawRow.laid ((laidWorld os).forCall (fun _ _ => 0) ⟨#[], args, []⟩).memory :=
  laidMet_of_run (ps := [.cell 0 0, .cell lowE 0]) 8 (by kernel_rfl) (by kernel_rfl) (by kernel_rfl)
set_option maxRecDepth 100000 in
theorem fnExactSpotRaw_lifted (os : Os) (started : os.Started) (H : Type) (enc : TypeId × Value → H) :
    ReturnsInHanded {} Tryz.checked os 6 .any (fun w args => (Rows.fnExactSpotRawSpec.pre enc Tryz.prog Tryz.f6 Rows.fnExactSpotRawRow.domain false w args ∧ laidMet Tryz.prog Rows.fnExactSpotRawRow.laid w) ∧ sizedMet enc Tryz.prog Tryz.f6 (OpenSpec.ofChange Rows.fnExactSpotRawSpec) false w args)
      (Rows.fnExactSpotRawSpec.post enc Tryz.prog Tryz.f6 false true false false) := by
  refine returnsInHanded_of_change_and (C := Tryz.checked) (X := fun w _ => laidMet Tryz.prog Rows.fnExactSpotRawRow.laid w) (fun _ _ _ hh h => h.of_heap hh) own started (by kernel_rfl) Tryz.func6
    (ChangeSpec.witness_at (enc := enc) (C := Tryz.checked) (os := os) (X := fun w _ => laidMet Tryz.prog Rows.fnExactSpotRawRow.laid w) false (laidWorld os) #[.agg #[.slice none 0 0], .agg #[.int .i64 0, .int .i64 0, .int .i64 0]] 8 rfl (by kernel_rfl) (by kernel_rfl) (by kernel_rfl) (by kernel_rfl) (by kernel_rfl) (fnExactSpotRaw_met os _)) ?_
  intro W base args ds gs before hval0 hW _ _ hL _
  have hval : ∀ (j : Nat) t v, Tryz.f6.params[j]? = some t → args[j]? = some v → Value.okWide Tryz.prog W .any base t v := hval0
  have hW' := hW
  obtain ⟨p, q, hA0, hV0, rfl, hfz, hnd⟩ := hW
  have hV : DataW.TrodVars enc Tryz.prog W (fun _ => true) ["loop.example/limner/impl.errCannot"] gs q := hV0
  have hA : DataW.TrodAll enc Tryz.prog W 0 (fun _ => true) true Tryz.f6.params.toList args.toList ds p := hA0
  rw [Tryz.params6] at hA hval
  obtain ⟨v0, vs0, d0, ds0, p0, q0, hargs, rfl, rfl, h0, r0⟩ := trodAll_cons hA
  obtain ⟨v1, vs1, d1, ds1, p1, q1, rfl, rfl, rfl, h1, r1⟩ := trodAll_cons r0
  obtain ⟨rfl, rfl, rfl⟩ := trodAll_nil r1
  obtain rfl : args = #[v0, v1] := by cases args; simp_all
  obtain ⟨aE, sE, hvE, hcE, hsE, hzE⟩ := laid_sentinel hL gE gEType Tryz.underlying66 rowErr Tryz.underlying165 Tryz.underlying211 rfl rfl Tryz.underlying9 cellsErrStr cellsStr
  obtain ⟨rfl, rfl⟩ := hV.unique (vars_read1 enc gE gEType Tryz.underlying66 hvE trivial _)
  have hgE : W.cell? ⟨0, 0, none⟩ = some (.iface 165 (.pointer (some aE))) := by simpa using World.var?_cell gE hvE 0
  have hGl : GlobE W := ⟨aE, World.block_lt_of_cell? _ _ hgE, hgE⟩
  obtain ⟨cs0, rfl, hcs0⟩ := okWide_struct Tryz.underlying35 (hval 0 35 v0 rfl rfl)
  have k0 := h0
  have lt0 : ∀ x ∈ p0, x.block < W.heap.size := by obtain ⟨m, hm⟩ := k0; exact DataW.trod_lt m _ _ _ hm
  obtain ⟨a0, len0, cap0, l0, hc0, w0⟩ : ∃ a n c d, cs0 = #[.slice a n c] ∧ Dc W a n c d := by
    obtain ⟨fuel, hf⟩ := h0
    obtain ⟨a, n, c, d, hcs, ht⟩ := open_doc hf
    refine ⟨a, n, c, d, ?_, ht⟩
    have : cs0.toList = [.slice a n c] := hcs
    rw [← Array.toArray_toList (xs := cs0), this]
  subst hc0
  obtain ⟨cs1, rfl, hcs1⟩ := okWide_struct Tryz.underlying36 (hval 1 36 v1 rfl rfl)
  have k1 := h1
  have lt1 : ∀ x ∈ p1, x.block < W.heap.size := by obtain ⟨m, hm⟩ := k1; exact DataW.trod_lt m _ _ _ hm
  obtain ⟨B1, C1, A1, hc1, w1⟩ : ∃ b c a, cs1 = #[.int .i64 b, .int .i64 c, .int .i64 a] ∧ ((Lit.int .i64 b).wf = true ∧ (Lit.int .i64 c).wf = true ∧ (Lit.int .i64 a).wf = true) := by
    obtain ⟨fuel, hf⟩ := h1
    obtain ⟨b, c, a, hcs, ht⟩ := open_place hf
    refine ⟨b, c, a, ?_, ht⟩
    have : cs1.toList = [.int .i64 b, .int .i64 c, .int .i64 a] := hcs
    rw [← Array.toArray_toList (xs := cs1), this]
  subst hc1
  clear hA0 hval0 hV0
  refine (lawXSpotRaw_walk a0 len0 cap0 l0 B1 C1 A1 W hGl w0 w1).mono fun e W' ⟨he, bel⟩ => ?_
  subst he
  exact ⟨_, rfl, _, _, _, [], _, [.cell 0 0], hW', trodAll_mk1 (shut_bool Tryz.underlying4 _), (trodAll_cons_mk (Below.trod laidOut (by kernel_rfl) (of_decide_eq_true (by kernel_rfl)) k0 bel lt0) (trodAll_cons_mk (Below.trod laidOut (by kernel_rfl) (of_decide_eq_true (by kernel_rfl)) k1 bel lt1) trodAll_mk0)), vars_read1 enc gE gEType Tryz.underlying66 (var_belowE hvE bel) trivial _, bel.frame _, fun h => by cases h⟩

theorem fnExactSpotRaw_holds : Rows.FnExactSpotRawSaid :=
  OpenClaim.holds_of_wide 6 Tryz.f6 rfl rfl rfl rfl rfl rfl rfl ⟨rfl, rfl, rfl, rfl, rfl⟩ rfl rfl rfl rfl rfl (by kernel_rfl) Tryz.func6 (by kernel_rfl)
    (of_decide_eq_true (by kernel_rfl)) (by unfold Func.isWrapper; first | (rw [if_pos (by decide +kernel)]; kernel_rfl) | (rw [if_neg (by decide +kernel)]; exact ⟨rfl, rfl⟩))
    (fun os started H enc _ => fnExactSpotRaw_lifted os started H enc)
theorem fnExactSpotRaw_card : Rows.FnExactSpotRawCardSaid :=
  Claim7.holds_tied_plain_at .later [] [.sentinel] true (true, "dc80a6834882c7012588833b518638a7530e0f0f09d94a1f8bbce60f372983eb") true
    fnExactSpotRaw_holds (fun _ h => by cases h) (by kernel_rfl) (fun _ h => by cases h) fnExactSpotRaw_row_tie rfl ⟨rfl, rfl⟩ (by kernel_rfl) rfl
    (fun f fn hf hfn => by
      obtain rfl : f = 6 := Option.some.inj ((show Tryz.prog.funcNamed "loop.example/limner/laws.FnExactSpotRaw" = some 6 by kernel_rfl).symm.trans hf) |>.symm
      obtain rfl : fn = Tryz.f6 := (Option.some.inj (Tryz.func6.symm.trans hfn)).symm
      exact ⟨by kernel_rfl, fun j t ht => by
        rw [Tryz.params6] at ht
        rcases j with _ | _ | j
        · obtain rfl : t = 35 := by simpa using ht.symm
          exact (show Tryz.prog.wantsStandIn 35 = false by kernel_rfl)
        · obtain rfl : t = 36 := by simpa using ht.symm
          exact (show Tryz.prog.wantsStandIn 36 = false by kernel_rfl)
        · simp at ht
      ⟩)
    (by kernel_rfl)
#print axioms fnExactSpotRaw_card
end Go.Proofs.YtccoeachemnbnaaGreatDoor
