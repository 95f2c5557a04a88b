import Derived.Test.YtbigbbfbikhjdaaBA2
import Derived.Test.YtbigbbfbikhjdaaBI1
namespace Go.Proofs.Ytbigbbfbikhjdaa
open Go.RowKit

set_option maxRecDepth 100000 in
set_option maxHeartbeats 8000000 in
theorem implTableRowOut_any (R C t' : Int) (a : Option Addr) (n cap : Nat) (l : List Cl) (w : World) (h : Tab w a n cap l) :
    Calls Try.prog 13 #[.agg #[.int .i64 R, .int .i64 C, .slice a n cap], .int .i64 t'] w fun z w' => TabRes w.heap.size (rowOutB R C l t') (R - 1) C (outL t'  l) z w' ∧ Below w.heap.size w w' := by
  have H : Hid (Tab w a n cap l) := h
  clear h
  obtain ⟨ok, HX⟩ : ∃ x, Hid (okB R C l = x) := ⟨_, rfl⟩
  go_enter Try.func13, Try.ntmps13
  go_upto_region 1 with fail
  have B0 : Below w.heap.size w ((w.alloc (.cells #[.int .i64 R, .int .i64 C, .slice a n cap] 25)).alloc (.cells #[.int .i64 0, .int .i64 0, .slice none 0 0] 25)) := ((Below.refl _ _).alloc (Nat.le_refl _) _).alloc (by simp) _
  have G0 : RowAt ((w.alloc (.cells #[.int .i64 R, .int .i64 C, .slice a n cap] 25)).alloc (.cells #[.int .i64 0, .int .i64 0, .slice none 0 0] 25)) w.heap.size #[.int .i64 R, .int .i64 C, .slice a n cap] 25 := (rowAt_new w _ _).alloc _
  have G1 : RowAt ((w.alloc (.cells #[.int .i64 R, .int .i64 C, .slice a n cap] 25)).alloc (.cells #[.int .i64 0, .int .i64 0, .slice none 0 0] 25)) (w.heap.size + 1) #[.int .i64 0, .int .i64 0, .slice none 0 0] 25 := by
    have := rowAt_new (w.alloc (.cells #[.int .i64 R, .int .i64 C, .slice a n cap] 25)) #[.int .i64 0, .int .i64 0, .slice none 0 0] 25
    simpa using this
  have HT : Hid (Tab ((w.alloc (.cells #[.int .i64 R, .int .i64 C, .slice a n cap] 25)).alloc (.cells #[.int .i64 0, .int .i64 0, .slice none 0 0] 25)) a n cap l) := H.out.below B0
  generalize ((w.alloc (.cells #[.int .i64 R, .int .i64 C, .slice a n cap] 25)).alloc (.cells #[.int .i64 0, .int .i64 0, .slice none 0 0] 25)) = v at B0 G0 G1 HT ⊢
  have k0 : v.cell? ⟨w.heap.size, 0, none⟩ = some (.int .i64 R) := G0.cell 0
  have k1 : v.cell? ⟨w.heap.size, 1, none⟩ = some (.int .i64 C) := G0.cell 1
  have k2 : v.cell? ⟨w.heap.size, 2, none⟩ = some (.slice a n cap) := G0.cell 2
  have z0 := G0.lt
  have z1 := G1.lt
  have s0 := B0.size
  have HG0 : Hid (RowAt v w.heap.size #[.int .i64 R, .int .i64 C, .slice a n cap] 25) := G0
  have HG1 : Hid (RowAt v (w.heap.size + 1) #[.int .i64 0, .int .i64 0, .slice none 0 0] 25) := G1
  have HB0 : Hid (Below w.heap.size w v) := B0
  clear G0 G1 B0
  cases ok
  · go_upto_region 2 with (first | (go_at_call 34; refine (gridOf_is HX.out HT.out).mono ?_; rintro e w1 ⟨hres, hb1⟩; rcases hres.symm with ⟨hno, -⟩ | ⟨-, rfl⟩; exact absurd hno (by simp)) | (rw [← grid_zero]; refine wpList_store_row rfl 51 (.tmp 6) (.tmp 11) rfl w1.heap.size (gridA 0 0 0 (fun _ => 0) (fun _ => sl0)) rfl rfl 51 _ (gridAt_new _ _ _ _ _ _) (grid_infoA _ _ _ _ _) (by rw [gridA_size]) (gridA_one _ _ _ _ _) ?_))
    have s1 := hb1.size
    have B2 : Below v.heap.size v ((w1.alloc (.cells (gridA 0 0 0 (fun _ => 0) (fun _ => sl0)) 51)).setRow w1.heap.size (gridA 0 0 0 (fun _ => 0) (fun _ => sl0))) := below_row (hb1.alloc s1 _) s1 _
    generalize ((w1.alloc (.cells (gridA 0 0 0 (fun _ => 0) (fun _ => sl0)) 51)).setRow w1.heap.size (gridA 0 0 0 (fun _ => 0) (fun _ => sl0))) = v2 at B2 ⊢
    have HG2 : Hid (RowAt v2 (w.heap.size + 1) #[.int .i64 0, .int .i64 0, .slice none 0 0] 25) := HG1.out.below B2 z1
    have HNB : Hid (rowOutB R C l t' = false) := by
      show rowOutB R C l t' = false
      simp only [rowOutB, HX.out, Bool.false_and]
    clear k0 k1 k2
    go_wp2_with ((refine wpList_store_row rfl 25 (.tmp 4) (.tmp 32) rfl (w.heap.size + 1) #[.int .i64 0, .int .i64 0, .slice none 0 0] rfl rfl 25 _ HG2.out tab_info rfl (cells3_one _ _ _ _ _) ?_))
    refine bodyPost_ret (v := .tuple #[.agg #[.int .i64 0, .int .i64 0, .slice none 0 0], .bool false]) ?_ rfl ⟨.inl ⟨HNB.out, rfl⟩, below_row (HB0.out.trans (B2.mono s0)) (by omega) _⟩
    rw [results_cell_tmp rfl]
    simp [asAddr, Result.andThen, run_tabOf (RowAt.setRow HG2.out #[.int .i64 0, .int .i64 0, .slice none 0 0])]

  · obtain ⟨hR, hC, hst, -⟩ := gridP_of_okB HX.out
    obtain ⟨R, rfl⟩ : ∃ R' : Nat, R = R' := ⟨R.toNat, by omega⟩
    obtain ⟨C, rfl⟩ : ∃ C' : Nat, C = C' := ⟨C.toNat, by omega⟩
    have hn25 : l.length ≤ 25 := step_le (l := l) (K := l.length) (R := R) (C := C) (by omega) (by omega) hst
    have HST : Hid (∀ k, k < l.length → (l.getD k cl0).2.2.2.2.length ≤ 24) := fun k hk => by
      have := (stepB_of (hst k hk)).2.2
      simp only [textB, Bool.and_eq_true, decide_eq_true_eq] at this
      exact this.1
    clear hst
    go_upto_region 2 with (first | (go_at_call 34; refine (gridOf_is HX.out HT.out).mono ?_; rintro e w1 ⟨(⟨hno, -⟩ | ⟨-, t, rfl, ht1⟩), hb1⟩; exact absurd hno (by simp)) | (rw [← grid_zero]; refine wpList_store_row rfl 51 (.tmp 6) (.tmp 11) rfl w1.heap.size (gridA R C l.length (numF l l.length) t) rfl rfl 51 _ (gridAt_new _ _ _ _ _ _) (grid_infoA _ _ _ _ _) (by rw [gridA_size, gridA_size]) (gridA_one _ _ _ _ _) ?_))
    have s1 := hb1.size
    have B2 : Below v.heap.size v ((w1.alloc (.cells (gridA 0 0 0 (fun _ => 0) (fun _ => sl0)) 51)).setRow w1.heap.size (gridA R C l.length (numF l l.length) t)) := below_row (hb1.alloc s1 _) s1 _
    have B3 : Below w1.heap.size w1 ((w1.alloc (.cells (gridA 0 0 0 (fun _ => 0) (fun _ => sl0)) 51)).setRow w1.heap.size (gridA R C l.length (numF l l.length) t)) := below_row ((Below.refl _ _).alloc (Nat.le_refl _) _) (Nat.le_refl _) _
    have HG : Hid (GridAt ((w1.alloc (.cells (gridA 0 0 0 (fun _ => 0) (fun _ => sl0)) 51)).setRow w1.heap.size (gridA R C l.length (numF l l.length) t)) w1.heap.size R C l.length (numF l l.length) t) := RowAt.setRow (gridAt_new _ _ _ _ _ _) _
    generalize ((w1.alloc (.cells (gridA 0 0 0 (fun _ => 0) (fun _ => sl0)) 51)).setRow w1.heap.size (gridA R C l.length (numF l l.length) t)) = v2 at B2 B3 HG ⊢
    have HTx : Hid (∀ i, i < l.length → Txt v2 (t (i + 1)).1 (t (i + 1)).2.1 (t (i + 1)).2.2 (l.getD i cl0).2.2.2.2) := fun i hi => (ht1 i hi).below B3
    have HG2 : Hid (RowAt v2 (w.heap.size + 1) #[.int .i64 0, .int .i64 0, .slice none 0 0] 25) := HG1.out.below B2 z1
    have q0 : v2.cell? ⟨w.heap.size, 0, none⟩ = some (.int .i64 R) := (HG0.out.below B2 z0).cell 0
    have s2 := B2.size
    clear k0 k1 k2 ht1 hb1 B3
    obtain ⟨N, HN⟩ : ∃ N, Hid (l.length = N) := ⟨_, rfl⟩
    obtain ⟨f, HF⟩ : ∃ f, Hid (numF l l.length = f) := ⟨_, rfl⟩
    rw [HF.out] at HG
    rw [HN.out] at HG hn25
    by_cases hR2 : R < 2
    · have HS0 : Hid (sizeB ((R : Int) - 1) = false) := decide_eq_false (by omega)
      have HNB : Hid (rowOutB R C l t' = false) := by
        show rowOutB R C l t' = false
        simp only [rowOutB, Bool.and_eq_false_iff, decide_eq_false_iff_not]
        omega
      go_wp2_with (first | (go_at_call 35; refine (sizeOk_is HS0.out _).mono ?_; rintro e w9 ⟨rfl, hw9⟩; subst w9) | (refine wpList_store_row rfl 25 (.tmp 4) (.tmp 32) rfl (w.heap.size + 1) #[.int .i64 0, .int .i64 0, .slice none 0 0] rfl rfl 25 _ HG2.out tab_info rfl (cells3_one _ _ _ _ _) ?_))
      refine bodyPost_ret (v := .tuple #[.agg #[.int .i64 0, .int .i64 0, .slice none 0 0], .bool false]) ?_ rfl ⟨.inl ⟨HNB.out, rfl⟩, below_row (HB0.out.trans (B2.mono s0)) (by omega) _⟩
      rw [results_cell_tmp rfl]
      simp [asAddr, Result.andThen, run_tabOf (RowAt.setRow HG2.out #[.int .i64 0, .int .i64 0, .slice none 0 0])]
    have HS0 : Hid (sizeB ((R : Int) - 1) = true) := decide_eq_true (by omega)
    by_cases ht0 : t' < 0
    · have HNB : Hid (rowOutB R C l t' = false) := by
        show rowOutB R C l t' = false
        simp only [rowOutB, Bool.and_eq_false_iff, decide_eq_false_iff_not]
        omega
      go_wp2_with (first | (go_at_call 35; refine (sizeOk_is HS0.out _).mono ?_; rintro e w9 ⟨rfl, hw9⟩; subst w9) | (refine wpList_store_row rfl 25 (.tmp 4) (.tmp 32) rfl (w.heap.size + 1) #[.int .i64 0, .int .i64 0, .slice none 0 0] rfl rfl 25 _ HG2.out tab_info rfl (cells3_one _ _ _ _ _) ?_))
      refine bodyPost_ret (v := .tuple #[.agg #[.int .i64 0, .int .i64 0, .slice none 0 0], .bool false]) ?_ rfl ⟨.inl ⟨HNB.out, rfl⟩, below_row (HB0.out.trans (B2.mono s0)) (by omega) _⟩
      rw [results_cell_tmp rfl]
      simp [asAddr, Result.andThen, run_tabOf (RowAt.setRow HG2.out #[.int .i64 0, .int .i64 0, .slice none 0 0])]
    by_cases ht1 : (R : Int) ≤ t'
    · have HNB : Hid (rowOutB R C l t' = false) := by
        show rowOutB R C l t' = false
        simp only [rowOutB, Bool.and_eq_false_iff, decide_eq_false_iff_not]
        omega
      go_wp2_with (first | (go_at_call 35; refine (sizeOk_is HS0.out _).mono ?_; rintro e w9 ⟨rfl, hw9⟩; subst w9) | (refine wpList_store_row rfl 25 (.tmp 4) (.tmp 32) rfl (w.heap.size + 1) #[.int .i64 0, .int .i64 0, .slice none 0 0] rfl rfl 25 _ HG2.out tab_info rfl (cells3_one _ _ _ _ _) ?_))
      refine bodyPost_ret (v := .tuple #[.agg #[.int .i64 0, .int .i64 0, .slice none 0 0], .bool false]) ?_ rfl ⟨.inl ⟨HNB.out, rfl⟩, below_row (HB0.out.trans (B2.mono s0)) (by omega) _⟩
      rw [results_cell_tmp rfl]
      simp [asAddr, Result.andThen, run_tabOf (RowAt.setRow HG2.out #[.int .i64 0, .int .i64 0, .slice none 0 0])]
    obtain ⟨p, rfl⟩ : ∃ p : Nat, t' = p := ⟨t'.toNat, by omega⟩
    have hp : p < R := by omega
    have HYB : Hid (rowOutB R C l p = true) := by
      show rowOutB R C l p = true
      simp only [rowOutB, HX.out, Bool.true_and, Bool.and_eq_true, decide_eq_true_eq]
      omega
    have HB2 : Hid (Below v.heap.size v v2) := B2
    clear B2
    have hR5 : R ≤ 5 := by omega
    go_wp2_with (first | (go_at_call 35; refine (sizeOk_is HS0.out _).mono ?_; rintro e w9 ⟨rfl, hw9⟩; subst w9) | (refine wpList_load_row rfl 51 (.tmp 6) rfl w1.heap.size rfl 51 (gridA R C N f t) (0, 0) _ HG.out Try.underlying51 rfl (grid_infoA _ _ _ _ _) ?_) | (go_at_call 39; refine (rowOut_any R C N p f t _ hp hR5).mono ?_; rintro e w3 ⟨rfl, hb3⟩))
    have hle : ∀ k, outF R p f k ≤ 25 := fun k => by
      unfold outF
      have q2 := HN.out
      rw [← HF.out]
      split
      · have q1 := numF_le l l.length (k + 5); omega
      · have q1 := numF_le l l.length k; omega
    have hrep : Rep (R - 1) C (outF R p f) (outL p l) := by rw [← HF.out]; exact rep_sort (tiles_out HX.out p hp)
    have hlen2 : (outL p l).length ≤ 25 := by have := outL_len (l := l) p; have := HN.out; omega
    have ht : ∀ k, k < (outL p l).length → Txt w3 (t (outF R p f (stR ((outL p l).getD k cl0) * 5 + stC ((outL p l).getD k cl0)))).1 (t (outF R p f (stR ((outL p l).getD k cl0) * 5 + stC ((outL p l).getD k cl0)))).2.1 (t (outF R p f (stR ((outL p l).getD k cl0) * 5 + stC ((outL p l).getD k cl0)))).2.2 ((outL p l).getD k cl0).2.2.2.2 ∧ ((outL p l).getD k cl0).2.2.2.2.length ≤ 1048576 := by
      intro k hk
      obtain ⟨m, hm, e1, e2⟩ := out_txt HX.out p hp k hk
      rw [HF.out] at e2
      rw [e1, e2]
      have hL := HST.out m hm
      exact ⟨(HTx.out m hm).below hb3, by omega⟩
    refine (table_any (R - 1) C N (outF R p f) t (outL p l) _ (by omega) (by omega) hle hrep hlen2 ht).mono ?_
    rintro e w4 ⟨⟨a', c', rs, rfl, hO⟩, hb4⟩
    have s3 := hb3.size
    have s4 := hb4.size
    have HG4 : Hid (RowAt w4 (w.heap.size + 1) #[.int .i64 0, .int .i64 0, .slice none 0 0] 25) := (HG2.out.below hb3 (by omega)).below hb4 (by omega)
    have HO : Hid (OwnT w4 w3.heap.size (.slice a' (outL p l).length c') rs (outL p l)) := hO
    obtain ⟨X, HXX⟩ : ∃ X, Hid (((R - 1 : Nat) : Int) = X) := ⟨_, rfl⟩
    obtain ⟨M, HM⟩ : ∃ M, Hid ((outL p l).length = M) := ⟨_, rfl⟩
    rw [HXX.out, HM.out]
    rw [HM.out] at HO
    clear hO hrep ht hlen2 hle
    go_wp2_with (refine wpList_store_row rfl 25 (.tmp 4) (.tmp 36) rfl (w.heap.size + 1) #[.int .i64 X, .int .i64 C, .slice a' M c'] rfl rfl 25 _ HG4.out tab_info rfl (cells3_one _ _ _ _ _) ?_)
    have bF : Below w.heap.size w w4 := ((HB0.out.trans (HB2.out.mono s0)).trans (hb3.mono (by omega))).trans (hb4.mono (by omega))
    refine bodyPost_ret (v := .tuple #[.agg #[.int .i64 X, .int .i64 C, .slice a' M c'], .bool true]) ?_ rfl ⟨.inr ⟨HYB.out, a', c', rs, ?_, ?_⟩, below_row bF (by omega) _⟩
    · rw [results_cell_tmp rfl]
      simp [asAddr, Result.andThen, run_tabOf (RowAt.setRow HG4.out #[.int .i64 X, .int .i64 C, .slice a' M c'])]
    · rw [HM.out, show (R : Int) - 1 = X by rw [← HXX.out]; omega]
    · rw [HM.out]
      exact OwnT.less (B' := w3.heap.size) ⟨own_row HO.out.1 _ _ (fun e => by have := (own_lt HO.out.1.row e).1; omega), HO.out.2.rowLow _ _ (by omega)⟩ (by omega)
end Go.Proofs.Ytbigbbfbikhjdaa
namespace Go.Proofs.Ytbigbbfbikhjdaa
open Go.RowKit

/-- A row when a row of the table is taken out. -/
def outRw (at' : Int) (x : Rw) : Rw := if at' < x.1 then (x.1 - 1, x.2.1, x.2.2.1, x.2.2.2.1, x.2.2.2.2) else if at' < x.1 + x.2.2.1 then (x.1, x.2.1, x.2.2.1 - 1, x.2.2.2.1, x.2.2.2.2) else x
def tallR (x : Rw) : Bool := decide (0 < x.2.2.1)
def outRM (at' : Int) (rs : List Rw) : List Rw := (rs.map (outRw at')).filter tallR
theorem outRw_txt (at' : Int) (x : Rw) : rwT (outRw at' x) = rwT x := by
  unfold outRw
  split
  · rfl
  · split <;> rfl
theorem RwOwn.out {w : World} {B : Nat} {x : Rw} {y : Cl} (a : Int) (h : RwOwn w B x y) : RwOwn w B (outRw a x) (outC a y) := by
  obtain ⟨h0, h1, h2, h3, h4⟩ := h
  have h4' : Own w B (rwT (outRw a x)) (outC a y).2.2.2.2 := by rw [outRw_txt, outC_txt]; exact h4
  refine ⟨?_, ?_, ?_, ?_, h4'⟩ <;> unfold outRw outC <;> rw [← h0, ← h2] <;> split <;> (try split) <;> simp_all
def outZ (a : Int) (z : List (Rw × Cl)) : List (Rw × Cl) := (z.map (fun p => (outRw a p.1, outC a p.2))).filter (fun p => tallB p.2)
theorem out_zip (a : Int) : ∀ z : List (Rw × Cl), (∀ p ∈ z, p.1.1 = p.2.1 ∧ p.1.2.2.1 = p.2.2.2.1) → (outZ a z).map Prod.fst = outRM a (z.map Prod.fst) ∧ (outZ a z).map Prod.snd = outM a (z.map Prod.snd)
  | [], _ => ⟨rfl, rfl⟩
  | p :: z, h => by
    obtain ⟨i1, i2⟩ := out_zip a z (fun q hq => h q (List.mem_cons_of_mem _ hq))
    obtain ⟨e1, e2⟩ := h p (List.mem_cons_self ..)
    have e : tallR (outRw a p.1) = tallB (outC a p.2) := by
      unfold tallR tallB outRw outC
      rw [← e1, ← e2]
      split
      · rfl
      · split
        · rfl
        · rw [e2]
    simp only [outZ, outRM, outM, List.map_cons, List.filter_cons, e] at i1 i2 ⊢
    cases tallB (outC a p.2)
    · exact ⟨i1, i2⟩
    · simp only [if_true, List.map_cons, i1, i2, and_self]
theorem TxtOwn.out {w : World} {B : Nat} {q : Option Nat} {rs : List Rw} {l : List Cl} (a : Int) (h : TxtOwn w B q rs l) : TxtOwn w B q (outRM a rs) (outM a l) := by
  have e := h.1
  have hz := h.zip
  obtain ⟨h1, h2⟩ := out_zip a (rs.zip l) (fun p hp => ⟨(hz.1 p hp).1.1, (hz.1 p hp).1.2.2.1⟩)
  rw [List.map_fst_zip (by omega)] at h1
  rw [List.map_snd_zip (by omega)] at h2
  have h3 : TxtZ w B q (outZ a (rs.zip l)) := by
    constructor
    · intro p hp
      obtain ⟨hp1, _⟩ := List.mem_filter.1 hp
      obtain ⟨p', hp', rfl⟩ := List.mem_map.1 hp1
      refine ⟨(hz.1 p' hp').1.out a, ?_⟩
      simp only [outRw_txt]
      exact (hz.1 p' hp').2
    · refine List.Pairwise.filter _ ?_
      rw [List.pairwise_map]
      refine hz.2.imp ?_
      intro x y hxy
      simp only [outRw_txt]
      exact hxy
  rw [← h1, ← h2]
  refine TxtZ.txt (by simp) ?_
  rw [List.zip_map']
  simpa using h3
theorem outRM_take (a : Int) (rs : List Rw) (i : Nat) (hi : i < rs.length) : outRM a (rs.take (i + 1)) = outRM a (rs.take i) ++ (if tallR (outRw a (rs.getD i rw0)) then [outRw a (rs.getD i rw0)] else []) := by
  unfold outRM
  rw [List.take_succ_eq_append_getElem hi, List.map_append, List.filter_append]
  congr 1
  rw [show rs[i] = rs.getD i rw0 by simp [List.getD, hi]]
  simp only [List.map_cons, List.map_nil, List.filter_cons, List.filter_nil]
theorem outRM_len (a : Int) (rs : List Rw) : (outRM a rs).length ≤ rs.length := by
  unfold outRM
  exact Nat.le_trans (List.length_filter_le _ _) (by simp)
theorem outM_eq_len {w : World} {B : Nat} {q : Option Nat} {rs : List Rw} {l : List Cl} (a : Int) (h : TxtOwn w B q rs l) : (outRM a rs).length = (outM a l).length := (h.out a).1

set_option maxRecDepth 100000 in
set_option maxHeartbeats 8000000 in
theorem specTableRowOut_any (R C t' : Int) (a : Option Addr) (n cap : Nat) (l : List Cl) (w : World) (h : Tab w a n cap l) :
    Calls Try.prog 18 #[.agg #[.int .i64 R, .int .i64 C, .slice a n cap], .int .i64 t'] w fun z w' => TabRes w.heap.size (rowOutB R C l t') (R - 1) C (outL t'  l) z w' ∧ Below w.heap.size w w' := by
  obtain ⟨i0, hi, hz0, hz1, hz2⟩ := info_parts Try.info45
  have H : Hid (Tab w a n cap l) := h
  clear h
  obtain ⟨ok, HX⟩ : ∃ x, Hid (okB R C l = x) := ⟨_, rfl⟩
  go_enter Try.func18, Try.ntmps18
  go_upto_region 1 with fail
  have B0 : Below w.heap.size w ((w.alloc (.cells #[.int .i64 R, .int .i64 C, .slice a n cap] 25)).alloc (.cells #[.int .i64 0, .int .i64 0, .slice none 0 0] 25)) := ((Below.refl _ _).alloc (Nat.le_refl _) _).alloc (by simp) _
  have G0 : RowAt ((w.alloc (.cells #[.int .i64 R, .int .i64 C, .slice a n cap] 25)).alloc (.cells #[.int .i64 0, .int .i64 0, .slice none 0 0] 25)) w.heap.size #[.int .i64 R, .int .i64 C, .slice a n cap] 25 := (rowAt_new w _ _).alloc _
  have G1 : RowAt ((w.alloc (.cells #[.int .i64 R, .int .i64 C, .slice a n cap] 25)).alloc (.cells #[.int .i64 0, .int .i64 0, .slice none 0 0] 25)) (w.heap.size + 1) #[.int .i64 0, .int .i64 0, .slice none 0 0] 25 := by
    have := rowAt_new (w.alloc (.cells #[.int .i64 R, .int .i64 C, .slice a n cap] 25)) #[.int .i64 0, .int .i64 0, .slice none 0 0] 25
    simpa using this
  have HT : Hid (Tab ((w.alloc (.cells #[.int .i64 R, .int .i64 C, .slice a n cap] 25)).alloc (.cells #[.int .i64 0, .int .i64 0, .slice none 0 0] 25)) a n cap l) := H.out.below B0
  generalize ((w.alloc (.cells #[.int .i64 R, .int .i64 C, .slice a n cap] 25)).alloc (.cells #[.int .i64 0, .int .i64 0, .slice none 0 0] 25)) = v at B0 G0 G1 HT ⊢
  have k0 : v.cell? ⟨w.heap.size, 0, none⟩ = some (.int .i64 R) := G0.cell 0
  have k1 : v.cell? ⟨w.heap.size, 1, none⟩ = some (.int .i64 C) := G0.cell 1
  have k2 : v.cell? ⟨w.heap.size, 2, none⟩ = some (.slice a n cap) := G0.cell 2
  have s0 := B0.size
  have z0 := G0.lt
  have z1 := G1.lt
  have HG0 : Hid (RowAt v w.heap.size #[.int .i64 R, .int .i64 C, .slice a n cap] 25) := G0
  have HG1 : Hid (RowAt v (w.heap.size + 1) #[.int .i64 0, .int .i64 0, .slice none 0 0] 25) := G1
  have HB0 : Hid (Below w.heap.size w v) := B0
  clear G0 G1 B0
  cases ok
  · have HNB : Hid (rowOutB R C l t' = false) := by
      show rowOutB R C l t' = false
      simp only [rowOutB, HX.out, Bool.false_and]
    go_wp2_with (first | (go_at_call 30; refine (specTableOk_any R C a n cap l _ HT.out).mono ?_; rw [HX.out]; rintro e w1 ⟨rfl, hb1⟩; have HG2 : Hid (RowAt w1 (w.heap.size + 1) #[.int .i64 0, .int .i64 0, .slice none 0 0] 25) := HG1.out.below hb1 z1; have q0 := (hb1.cell (p := ⟨w.heap.size, 0, none⟩) z0).trans k0; have q1 := (hb1.cell (p := ⟨w.heap.size, 1, none⟩) z0).trans k1; have q2 := (hb1.cell (p := ⟨w.heap.size, 2, none⟩) z0).trans k2) | (refine wpList_store_row rfl 25 (.tmp 4) (.tmp 26) rfl (w.heap.size + 1) #[.int .i64 0, .int .i64 0, .slice none 0 0] rfl rfl 25 _ HG2.out tab_info rfl (cells3_one _ _ _ _ _) ?_))
    refine bodyPost_ret (v := .tuple #[.agg #[.int .i64 0, .int .i64 0, .slice none 0 0], .bool false]) ?_ rfl ⟨.inl ⟨HNB.out, rfl⟩, below_row (HB0.out.trans (hb1.mono s0)) (by omega) _⟩
    rw [results_cell_tmp rfl]
    simp [asAddr, Result.andThen, run_tabOf (RowAt.setRow HG2.out #[.int .i64 0, .int .i64 0, .slice none 0 0])]
  · have hg := gridP_of_okB HX.out
    obtain ⟨hR, hC, -, -⟩ := hg
    have hl25 : l.length ≤ 25 := (formB_of (show formB R C l = true by have := HX.out; simp only [okB, Bool.and_eq_true] at this; exact this.1)).2.2.1
    have HTL : Hid (∀ k, k < l.length → (l.getD k cl0).2.2.2.2.length ≤ 1000000) := fun k hk => by
      have := (stepB_of ((gridP_of_okB HX.out).2.2.1 k hk)).2.2
      simp only [textB, Bool.and_eq_true, decide_eq_true_eq] at this
      omega
    have HN : Hid (n = l.length) := H.out.1
    by_cases hin : 0 ≤ t' ∧ t' ≤ R - 1
    case neg =>
      have HS0 : Hid (decide (0 ≤ t' ∧ t' ≤ R - 1) = false) := decide_eq_false hin
      have HNB : Hid (rowOutB R C l t' = false) := by
        show rowOutB R C l t' = false
        simp only [rowOutB, Bool.and_eq_false_iff, decide_eq_false_iff_not]
        omega
      go_wp2_with (first | (go_at_call 30; refine (specTableOk_any R C a n cap l _ HT.out).mono ?_; rw [HX.out]; rintro e w1 ⟨rfl, hb1⟩; have HG2 : Hid (RowAt w1 (w.heap.size + 1) #[.int .i64 0, .int .i64 0, .slice none 0 0] 25) := HG1.out.below hb1 z1; have q0 := (hb1.cell (p := ⟨w.heap.size, 0, none⟩) z0).trans k0; have q1 := (hb1.cell (p := ⟨w.heap.size, 1, none⟩) z0).trans k1; have q2 := (hb1.cell (p := ⟨w.heap.size, 2, none⟩) z0).trans k2) | (go_at_call 31; refine (l6In_of HS0.out _).mono ?_; rintro e w9 ⟨rfl, hw9⟩; subst w9) | (refine wpList_store_row rfl 25 (.tmp 4) (.tmp 26) rfl (w.heap.size + 1) #[.int .i64 0, .int .i64 0, .slice none 0 0] rfl rfl 25 _ HG2.out tab_info rfl (cells3_one _ _ _ _ _) ?_))
      refine bodyPost_ret (v := .tuple #[.agg #[.int .i64 0, .int .i64 0, .slice none 0 0], .bool false]) ?_ rfl ⟨.inl ⟨HNB.out, rfl⟩, below_row (HB0.out.trans (hb1.mono s0)) (by omega) _⟩
      rw [results_cell_tmp rfl]
      simp [asAddr, Result.andThen, run_tabOf (RowAt.setRow HG2.out #[.int .i64 0, .int .i64 0, .slice none 0 0])]
    have HS0 : Hid (decide (0 ≤ t' ∧ t' ≤ R - 1) = true) := decide_eq_true hin
    by_cases hR2 : R < 2
    · have HNB : Hid (rowOutB R C l t' = false) := by
        show rowOutB R C l t' = false
        simp only [rowOutB, Bool.and_eq_false_iff, decide_eq_false_iff_not]
        omega
      go_wp2_with (first | (go_at_call 30; refine (specTableOk_any R C a n cap l _ HT.out).mono ?_; rw [HX.out]; rintro e w1 ⟨rfl, hb1⟩; have HG2 : Hid (RowAt w1 (w.heap.size + 1) #[.int .i64 0, .int .i64 0, .slice none 0 0] 25) := HG1.out.below hb1 z1; have q0 := (hb1.cell (p := ⟨w.heap.size, 0, none⟩) z0).trans k0; have q1 := (hb1.cell (p := ⟨w.heap.size, 1, none⟩) z0).trans k1; have q2 := (hb1.cell (p := ⟨w.heap.size, 2, none⟩) z0).trans k2) | (go_at_call 31; refine (l6In_of HS0.out _).mono ?_; rintro e w9 ⟨rfl, hw9⟩; subst w9) | (refine wpList_store_row rfl 25 (.tmp 4) (.tmp 26) rfl (w.heap.size + 1) #[.int .i64 0, .int .i64 0, .slice none 0 0] rfl rfl 25 _ HG2.out tab_info rfl (cells3_one _ _ _ _ _) ?_))
      refine bodyPost_ret (v := .tuple #[.agg #[.int .i64 0, .int .i64 0, .slice none 0 0], .bool false]) ?_ rfl ⟨.inl ⟨HNB.out, rfl⟩, below_row (HB0.out.trans (hb1.mono s0)) (by omega) _⟩
      rw [results_cell_tmp rfl]
      simp [asAddr, Result.andThen, run_tabOf (RowAt.setRow HG2.out #[.int .i64 0, .int .i64 0, .slice none 0 0])]
    have HYB : Hid (rowOutB R C l t' = true) := by
      show rowOutB R C l t' = true
      simp only [rowOutB, HX.out, Bool.true_and, Bool.and_eq_true, decide_eq_true_eq]
      omega
    go_upto_region 3 with (first | (go_at_call 30; refine (specTableOk_any R C a n cap l _ HT.out).mono ?_; rw [HX.out]; rintro e w1 ⟨rfl, hb1⟩; have HG2 : Hid (RowAt w1 (w.heap.size + 1) #[.int .i64 0, .int .i64 0, .slice none 0 0] 25) := HG1.out.below hb1 z1; have q0 := (hb1.cell (p := ⟨w.heap.size, 0, none⟩) z0).trans k0; have q1 := (hb1.cell (p := ⟨w.heap.size, 1, none⟩) z0).trans k1; have q2 := (hb1.cell (p := ⟨w.heap.size, 2, none⟩) z0).trans k2) | (go_at_call 31; refine (l6In_of HS0.out _).mono ?_; rintro e w9 ⟨rfl, hw9⟩; subst w9))
    clear k0 k1 k2
    have s1 := hb1.size
    go_upto_region 4 with fail
    have B2 : Below w1.heap.size w1 (w1.alloc (.cells #[.int .i64 (R - 1), .int .i64 C, .slice none 0 0] 25)) := (Below.refl _ _).alloc (Nat.le_refl _) _
    have G2 : RowAt (w1.alloc (.cells #[.int .i64 (R - 1), .int .i64 C, .slice none 0 0] 25)) w1.heap.size #[.int .i64 (R - 1), .int .i64 C, .slice none 0 0] 25 := rowAt_new _ _ _
    generalize (w1.alloc (.cells #[.int .i64 (R - 1), .int .i64 C, .slice none 0 0] 25)) = v2 at B2 G2 ⊢
    have z2 := G2.lt
    have s2 := B2.size
    have r0 := (B2.cell (p := ⟨w.heap.size, 0, none⟩) (by show w.heap.size < w1.heap.size; omega)).trans q0
    have r1 := (B2.cell (p := ⟨w.heap.size, 1, none⟩) (by show w.heap.size < w1.heap.size; omega)).trans q1
    have r2 := (B2.cell (p := ⟨w.heap.size, 2, none⟩) (by show w.heap.size < w1.heap.size; omega)).trans q2
    have HT2 : Hid (Tab v2 a n cap l) := (HT.out.below hb1).below B2
    clear q0 q1 q2
    go_upto_region 6 with (first | (go_at_call 32; refine (l2Copy_any R C a n cap l _ HT2.out (by omega) HTL.out).mono ?_; rintro e w2 ⟨⟨al, cl, rs, rfl, hOl⟩, hb2⟩) | (refine wpList_fieldCells rfl (.tmp 34) rfl R C al l.length cl rfl ?_))
    clear r0 r1 r2
    have s3 := hb2.size
    have G3 : RowAt w2 w1.heap.size #[.int .i64 (R - 1), .int .i64 C, .slice none 0 0] 25 := G2.below hb2 z2
    have B3 : Below w1.heap.size w1 w2 := B2.trans (hb2.mono s2)
    have HLB : Hid (∀ g, (Value.slice al l.length cl).ownBlock = some g → g < w2.heap.size) := fun g hg => (own_lt hOl.1.row hg).2
    have HLT : Hid (∀ k, k < rs.length → ∀ g, (rwT (rs.getD k rw0)).ownBlock = some g → g < w2.heap.size) := fun k hk g hg => hOl.2.blockLt k hk g hg
    have HRL : Hid (rs.length = l.length) := hOl.2.1
    have HRN : Hid (∀ k, k < rs.length → 0 ≤ (rs.getD k rw0).1 ∧ (rs.getD k rw0).1 ≤ 5 ∧ 1 ≤ (rs.getD k rw0).2.2.1 ∧ (rs.getD k rw0).2.2.1 ≤ 5) := fun k hk => by
      obtain ⟨e0, e1, e2, e3, -⟩ := hOl.2.2.1 k hk
      have hk' : k < l.length := by rw [← HRL.out]; exact hk
      have := wiB_of (stepB_of ((gridP_of_okB HX.out).2.2.1 k hk')).1
      rw [e0, e2]
      omega
    obtain ⟨N, hN⟩ : ∃ N, l.length = N := ⟨_, rfl⟩
    have HNN : Hid (l.length = N) := hN
    rw [hN] at hOl hl25 HLB ⊢
    clear hN G2 B2 hb2
    go_wp2_with fail
    go_loopw [8] (fun iv wr => ∃ (i : Nat) (a' : Option Addr) (c' m' : Nat), i ≤ N ∧ iv = .int .i64 i ∧ m' = (outRM t' (rs.take i)).length ∧ RowAt wr w1.heap.size #[.int .i64 (R - 1), .int .i64 C, .slice a' m' c'] 25 ∧ OwnR wr w2.heap.size (.slice a' m' c') (outRM t' (rs.take i)) ∧ OwnT wr v2.heap.size (.slice al N cl) rs l ∧ Below w1.heap.size w1 wr ∧ w2.heap.size ≤ wr.heap.size) (fun iv _ => N - (intOf iv).toNat)
    case atStart => exact ⟨0, none, 0, 0, Nat.zero_le _, rfl, rfl, G3, OwnR.nil _ _, hOl, B3, Nat.le_refl _⟩
    case round =>
      clear G3 B3 hOl
      obtain ⟨i, a', c', m', hin, rfl, hm', hT, hO, hL, hb, hs⟩ := hrel
      have HM' : Hid (m' = (outRM t' (rs.take i)).length) := hm'
      have hmN : m' ≤ N := by
        have := outRM_len t' (rs.take i)
        simp only [List.length_take] at this
        omega
      have HTb : Hid (RowAt wr w1.heap.size #[.int .i64 (R - 1), .int .i64 C, .slice a' m' c'] 25) := hT
      have HO : Hid (OwnR wr w2.heap.size (.slice a' m' c') (outRM t' (rs.take i))) := hO
      have HL : Hid (OwnT wr v2.heap.size (.slice al N cl) rs l) := hL
      have HB : Hid (Below w1.heap.size w1 wr) := hb
      have hcl := hL.1.rws.2.1
      have hcm := hL.1.rws.2.2.1
      unfold maxLen at hcm
      clear hm' hT hO hL hb
      by_cases hlt : i < N
      · have hir : i < rs.length := by have := HRL.out; have := HNN.out; omega
        obtain ⟨n0, n1, n2, n3⟩ := HRN.out i hir
        obtain ⟨⟨xr, xc, xd, xg, xa, xn, xq⟩, hx⟩ : ∃ x, x = rs.getD i rw0 := ⟨_, rfl⟩
        have HXr : Hid ((xr, xc, xd, xg, xa, xn, xq) = rs.getD i rw0) := hx
        rw [← hx] at n0 n1 n2 n3
        simp only at n0 n1 n2 n3
        rcases HL.out.1.rws.2.2.2 with e | ⟨b, off, rfl, hbw, hat⟩
        · rw [e] at hir
          exact absurd hir (by simp)
        have hxa : RwAt wr b (off + i * 5) (xr, xc, xd, xg, xa, xn, xq) := by rw [hx]; exact hat i hir
        obtain ⟨x0, x1, x2, x3, x4⟩ := hxa
        simp only at x0 x1 x2 x3 x4
        clear hx hat
        go_upto_region 9 with fail
        have bA : Below wr.heap.size wr (wr.alloc (.cells #[.int .i64 xr, .int .i64 xc, .int .i64 xd, .int .i64 xg, .slice xa xn xq] 45)) := (Below.refl _ _).alloc (Nat.le_refl _) _
        have RA : RowAt (wr.alloc (.cells #[.int .i64 xr, .int .i64 xc, .int .i64 xd, .int .i64 xg, .slice xa xn xq] 45)) wr.heap.size #[.int .i64 xr, .int .i64 xc, .int .i64 xd, .int .i64 xg, .slice xa xn xq] 45 := rowAt_new _ _ _
        clear x0 x1 x2 x3 x4
        generalize (wr.alloc (.cells #[.int .i64 xr, .int .i64 xc, .int .i64 xd, .int .i64 xg, .slice xa xn xq] 45)) = w3 at bA RA ⊢
        have y0 : w3.cell? ⟨wr.heap.size, 0, none⟩ = some (.int .i64 xr) := RA.cell 0
        have y2 : w3.cell? ⟨wr.heap.size, 2, none⟩ = some (.int .i64 xd) := RA.cell 2
        have y5 := RA.frozen 0
        have y6 := RA.frozen 2
        by_cases d1 : t' < xr
        · have d1' : t' < xr := d1
          have HXo : Hid (outRw t' (xr, xc, xd, xg, xa, xn, xq) = ((xr - 1), xc, xd, xg, xa, xn, xq)) := by
            show outRw t' (xr, xc, xd, xg, xa, xn, xq) = _
            unfold outRw
            rw [if_pos (show t' < xr by omega)]
          go_upto_region 13 with fail
          have bD : Below wr.heap.size wr (w3.setCell ⟨wr.heap.size, 0, none⟩ (.int .i64 (xr - 1))) := bA.setCell (p := ⟨wr.heap.size, 0, none⟩) (Nat.le_refl _) _
          have RD : RowAt (w3.setCell ⟨wr.heap.size, 0, none⟩ (.int .i64 (xr - 1))) wr.heap.size #[.int .i64 (xr - 1), .int .i64 xc, .int .i64 xd, .int .i64 xg, .slice xa xn xq] 45 := RA.setCell 0 (.int .i64 (xr - 1))
          clear y0 y2 y5 y6 RA bA
          generalize (w3.setCell ⟨wr.heap.size, 0, none⟩ (.int .i64 (xr - 1))) = w4 at bD RD ⊢
          have s4 := bD.size
          have HT3 : Hid (RowAt w4 w1.heap.size #[.int .i64 (R - 1), .int .i64 C, .slice a' m' c'] 25) := HTb.out.below bD (by omega)
          have HO3 : Hid (OwnR w4 w2.heap.size (.slice a' m' c') (outRM t' (rs.take i))) := HO.out.below bD
          have HL3 : Hid (OwnT w4 v2.heap.size (.slice (some ⟨b, off, none⟩) N cl) rs l) := HL.out.below bD
          have HB3 : Hid (Below w1.heap.size w1 w4) := HB.out.trans (bD.mono (by omega))
          have u2 : w4.cell? ⟨wr.heap.size, 2, none⟩ = some (.int .i64 xd) := RD.cell 2
          have u0 : w4.cell? ⟨wr.heap.size, 0, none⟩ = some (.int .i64 (xr - 1)) := RD.cell 0
          have u1 : w4.cell? ⟨wr.heap.size, 1, none⟩ = some (.int .i64 xc) := RD.cell 1
          have u3 : w4.cell? ⟨wr.heap.size, 3, none⟩ = some (.int .i64 xg) := RD.cell 3
          have u4 : w4.cell? ⟨wr.heap.size, 4, none⟩ = some (.slice xa xn xq) := RD.cell 4
          have t2 : w4.cell? ⟨w1.heap.size, 2, none⟩ = some (.slice a' m' c') := HT3.out.cell 2
          have hci := HO3.out.rws.2.1
          have hcim := HO3.out.rws.2.2.1
          unfold maxLen at hcim
          have hdp : 0 < xd := by omega
          clear bD RD
          go_wp2_with (at_builtin; refine wpList_append_own _ rfl (.tmp 71) (.tmp 73) 23 rfl w2.heap.size 45 i0 _ 5 56 Try.underlying23 hi hz0 hz1 hz2 rfl (by decide) (.slice a' m' c') _ _ rfl (HO3.out.row.alloc _) ⟨w4.heap.size, 0, none⟩ 1 1 [.int .i64 (xr - 1), .int .i64 xc, .int .i64 xd, .int .i64 xg, .slice xa xn xq] rfl rfl (cell_five_new _ _ _ _ _ _ _) (five_oneCell _ _ _ _ _ _ _) (by unfold maxLen; omega) (by omega) (by simp; omega) ?_; intro v' w5 hown' hgrow _; obtain ⟨a5, c5, rfl, ho5, hb5⟩ := ownR_step (B := w2.heap.size) (w := w4) (s := ((xr - 1), xc, xd, xg, xa, xn, xq)) HO3.out (Below.refl _ _) (by omega) hown' hgrow; have R5 := RowAt.grown (HT3.out.alloc _) hgrow (fun e => by have := (own_lt HO3.out.row e).1; omega); have q2 : w5.cell? ⟨w1.heap.size, 2, none⟩ = some (.slice a' m' c') := R5.cell 2; have q3 := R5.frozen 2)
          go_roundw
          case rel =>
            have hb6 : Below w4.heap.size w4 (w4.alloc (.cells #[.int .i64 (xr - 1), .int .i64 xc, .int .i64 xd, .int .i64 xg, .slice xa xn xq] 45)) := (Below.refl _ _).alloc (Nat.le_refl _) _
            have hL5 : OwnT w5 v2.heap.size (.slice (some ⟨b, off, none⟩) N cl) rs l := by
              have hL4 := HL3.out.below hb6
              refine ⟨own_grown hL4.1 hgrow (fun g hg e => ?_), hL4.2.grown hgrow (fun k hk g hg e => ?_)⟩
              · have p1 := HLB.out g hg
                have p2 := (own_lt HO3.out.row e).1
                omega
              · have p1 := HLT.out k hk g hg
                have p2 := (own_lt HO3.out.row e).1
                omega
            have B5 : Below w1.heap.size w1 w5 := ((HB3.out).alloc (by omega) _).grown hgrow (by simp; omega) (fun k hk => by have := (own_lt HO3.out.row hk).1; omega)
            have s5 := hgrow.size
            simp at s5
            have eT : outRM t' (rs.take (i + 1)) = outRM t' (rs.take i) ++ [((xr - 1), xc, xd, xg, xa, xn, xq)] := by
              rw [outRM_take t' rs i hir, ← HXr.out, HXo.out]
              congr 1
              rw [if_pos (show tallR ((xr - 1), xc, xd, xg, xa, xn, xq) = true from decide_eq_true hdp)]
            refine ⟨i + 1, a5, c5, m' + 1, by omega, by go_num, by rw [eT, List.length_append, ← HM'.out]; rfl, R5.setCell 2 (.slice a5 (m' + 1) c5), ?_, ?_, B5.setCell (p := ⟨w1.heap.size, 2, none⟩) (Nat.le_refl _) (.slice a5 (m' + 1) c5), by simp [World.setCell]; omega⟩
            · rw [eT]
              exact own_set ho5 _ _ (fun e => by have := (own_lt ho5.row e).1; simp at this; omega)
            · exact ⟨own_set hL5.1 _ _ (fun e => by have := (own_lt hL5.1.row e).1; simp at this; omega), hL5.2.setLow _ _ (by simp; omega)⟩
          case measure => simp [intOf]; omega
        by_cases d2 : t' < xr + xd
        · by_cases d3 : 0 < xd - 1
          · have d1' : t' < xr + xd := d2
            have HXo : Hid (outRw t' (xr, xc, xd, xg, xa, xn, xq) = (xr, xc, (xd - 1), xg, xa, xn, xq)) := by
              show outRw t' (xr, xc, xd, xg, xa, xn, xq) = _
              unfold outRw
              rw [if_neg (show ¬ t' < xr by omega), if_pos (show t' < xr + xd by omega)]
            go_upto_region 13 with fail
            have bD : Below wr.heap.size wr (w3.setCell ⟨wr.heap.size, 2, none⟩ (.int .i64 (xd - 1))) := bA.setCell (p := ⟨wr.heap.size, 2, none⟩) (Nat.le_refl _) _
            have RD : RowAt (w3.setCell ⟨wr.heap.size, 2, none⟩ (.int .i64 (xd - 1))) wr.heap.size #[.int .i64 xr, .int .i64 xc, .int .i64 (xd - 1), .int .i64 xg, .slice xa xn xq] 45 := RA.setCell 2 (.int .i64 (xd - 1))
            clear y0 y2 y5 y6 RA bA
            generalize (w3.setCell ⟨wr.heap.size, 2, none⟩ (.int .i64 (xd - 1))) = w4 at bD RD ⊢
            have s4 := bD.size
            have HT3 : Hid (RowAt w4 w1.heap.size #[.int .i64 (R - 1), .int .i64 C, .slice a' m' c'] 25) := HTb.out.below bD (by omega)
            have HO3 : Hid (OwnR w4 w2.heap.size (.slice a' m' c') (outRM t' (rs.take i))) := HO.out.below bD
            have HL3 : Hid (OwnT w4 v2.heap.size (.slice (some ⟨b, off, none⟩) N cl) rs l) := HL.out.below bD
            have HB3 : Hid (Below w1.heap.size w1 w4) := HB.out.trans (bD.mono (by omega))
            have u2 : w4.cell? ⟨wr.heap.size, 2, none⟩ = some (.int .i64 (xd - 1)) := RD.cell 2
            have u0 : w4.cell? ⟨wr.heap.size, 0, none⟩ = some (.int .i64 xr) := RD.cell 0
            have u1 : w4.cell? ⟨wr.heap.size, 1, none⟩ = some (.int .i64 xc) := RD.cell 1
            have u3 : w4.cell? ⟨wr.heap.size, 3, none⟩ = some (.int .i64 xg) := RD.cell 3
            have u4 : w4.cell? ⟨wr.heap.size, 4, none⟩ = some (.slice xa xn xq) := RD.cell 4
            have t2 : w4.cell? ⟨w1.heap.size, 2, none⟩ = some (.slice a' m' c') := HT3.out.cell 2
            have hci := HO3.out.rws.2.1
            have hcim := HO3.out.rws.2.2.1
            unfold maxLen at hcim
            have hdp : 0 < (xd - 1) := by omega
            clear bD RD
            go_wp2_with (at_builtin; refine wpList_append_own _ rfl (.tmp 71) (.tmp 73) 23 rfl w2.heap.size 45 i0 _ 5 56 Try.underlying23 hi hz0 hz1 hz2 rfl (by decide) (.slice a' m' c') _ _ rfl (HO3.out.row.alloc _) ⟨w4.heap.size, 0, none⟩ 1 1 [.int .i64 xr, .int .i64 xc, .int .i64 (xd - 1), .int .i64 xg, .slice xa xn xq] rfl rfl (cell_five_new _ _ _ _ _ _ _) (five_oneCell _ _ _ _ _ _ _) (by unfold maxLen; omega) (by omega) (by simp; omega) ?_; intro v' w5 hown' hgrow _; obtain ⟨a5, c5, rfl, ho5, hb5⟩ := ownR_step (B := w2.heap.size) (w := w4) (s := (xr, xc, (xd - 1), xg, xa, xn, xq)) HO3.out (Below.refl _ _) (by omega) hown' hgrow; have R5 := RowAt.grown (HT3.out.alloc _) hgrow (fun e => by have := (own_lt HO3.out.row e).1; omega); have q2 : w5.cell? ⟨w1.heap.size, 2, none⟩ = some (.slice a' m' c') := R5.cell 2; have q3 := R5.frozen 2)
            go_roundw
            case rel =>
              have hb6 : Below w4.heap.size w4 (w4.alloc (.cells #[.int .i64 xr, .int .i64 xc, .int .i64 (xd - 1), .int .i64 xg, .slice xa xn xq] 45)) := (Below.refl _ _).alloc (Nat.le_refl _) _
              have hL5 : OwnT w5 v2.heap.size (.slice (some ⟨b, off, none⟩) N cl) rs l := by
                have hL4 := HL3.out.below hb6
                refine ⟨own_grown hL4.1 hgrow (fun g hg e => ?_), hL4.2.grown hgrow (fun k hk g hg e => ?_)⟩
                · have p1 := HLB.out g hg
                  have p2 := (own_lt HO3.out.row e).1
                  omega
                · have p1 := HLT.out k hk g hg
                  have p2 := (own_lt HO3.out.row e).1
                  omega
              have B5 : Below w1.heap.size w1 w5 := ((HB3.out).alloc (by omega) _).grown hgrow (by simp; omega) (fun k hk => by have := (own_lt HO3.out.row hk).1; omega)
              have s5 := hgrow.size
              simp at s5
              have eT : outRM t' (rs.take (i + 1)) = outRM t' (rs.take i) ++ [(xr, xc, (xd - 1), xg, xa, xn, xq)] := by
                rw [outRM_take t' rs i hir, ← HXr.out, HXo.out]
                congr 1
                rw [if_pos (show tallR (xr, xc, (xd - 1), xg, xa, xn, xq) = true from decide_eq_true hdp)]
              refine ⟨i + 1, a5, c5, m' + 1, by omega, by go_num, by rw [eT, List.length_append, ← HM'.out]; rfl, R5.setCell 2 (.slice a5 (m' + 1) c5), ?_, ?_, B5.setCell (p := ⟨w1.heap.size, 2, none⟩) (Nat.le_refl _) (.slice a5 (m' + 1) c5), by simp [World.setCell]; omega⟩
              · rw [eT]
                exact own_set ho5 _ _ (fun e => by have := (own_lt ho5.row e).1; simp at this; omega)
              · exact ⟨own_set hL5.1 _ _ (fun e => by have := (own_lt hL5.1.row e).1; simp at this; omega), hL5.2.setLow _ _ (by simp; omega)⟩
            case measure => simp [intOf]; omega
          · have d1' : t' < xr + xd := d2
            have HXo : Hid (outRw t' (xr, xc, xd, xg, xa, xn, xq) = (xr, xc, (xd - 1), xg, xa, xn, xq)) := by
              show outRw t' (xr, xc, xd, xg, xa, xn, xq) = _
              unfold outRw
              rw [if_neg (show ¬ t' < xr by omega), if_pos (show t' < xr + xd by omega)]
            go_upto_region 13 with fail
            have bD : Below wr.heap.size wr (w3.setCell ⟨wr.heap.size, 2, none⟩ (.int .i64 (xd - 1))) := bA.setCell (p := ⟨wr.heap.size, 2, none⟩) (Nat.le_refl _) _
            have RD : RowAt (w3.setCell ⟨wr.heap.size, 2, none⟩ (.int .i64 (xd - 1))) wr.heap.size #[.int .i64 xr, .int .i64 xc, .int .i64 (xd - 1), .int .i64 xg, .slice xa xn xq] 45 := RA.setCell 2 (.int .i64 (xd - 1))
            clear y0 y2 y5 y6 RA bA
            generalize (w3.setCell ⟨wr.heap.size, 2, none⟩ (.int .i64 (xd - 1))) = w4 at bD RD ⊢
            have s4 := bD.size
            have HT3 : Hid (RowAt w4 w1.heap.size #[.int .i64 (R - 1), .int .i64 C, .slice a' m' c'] 25) := HTb.out.below bD (by omega)
            have HO3 : Hid (OwnR w4 w2.heap.size (.slice a' m' c') (outRM t' (rs.take i))) := HO.out.below bD
            have HL3 : Hid (OwnT w4 v2.heap.size (.slice (some ⟨b, off, none⟩) N cl) rs l) := HL.out.below bD
            have HB3 : Hid (Below w1.heap.size w1 w4) := HB.out.trans (bD.mono (by omega))
            have u2 : w4.cell? ⟨wr.heap.size, 2, none⟩ = some (.int .i64 (xd - 1)) := RD.cell 2
            have hdp : ¬ 0 < (xd - 1) := by omega
            clear bD RD
            go_wp2_with fail
            go_roundw
            case rel =>
              have eT : outRM t' (rs.take (i + 1)) = outRM t' (rs.take i) := by
                rw [outRM_take t' rs i hir, ← HXr.out, HXo.out]
                rw [if_neg (show ¬ tallR (xr, xc, (xd - 1), xg, xa, xn, xq) = true from fun hh => hdp (of_decide_eq_true hh)), List.append_nil]
              exact ⟨i + 1, a', c', m', by omega, by go_num, by rw [eT]; exact HM'.out, HT3.out, by rw [eT]; exact HO3.out, HL3.out, HB3.out, by omega⟩
            case measure => simp [intOf]; omega
        · have d1' : ¬ t' < xr + xd := d2
          have HXo : Hid (outRw t' (xr, xc, xd, xg, xa, xn, xq) = (xr, xc, xd, xg, xa, xn, xq)) := by
            show outRw t' (xr, xc, xd, xg, xa, xn, xq) = _
            unfold outRw
            rw [if_neg (show ¬ t' < xr by omega), if_neg (show ¬ t' < xr + xd by omega)]
          go_upto_region 13 with fail
          obtain ⟨w4, bD, RD, e4⟩ : ∃ w4, Below wr.heap.size wr w4 ∧ RowAt w4 wr.heap.size #[.int .i64 xr, .int .i64 xc, .int .i64 xd, .int .i64 xg, .slice xa xn xq] 45 ∧ w4 = w3 := ⟨w3, bA, RA, rfl⟩
          subst e4
          clear y0 y2 y5 y6 RA bA
          have s4 := bD.size
          have HT3 : Hid (RowAt w4 w1.heap.size #[.int .i64 (R - 1), .int .i64 C, .slice a' m' c'] 25) := HTb.out.below bD (by omega)
          have HO3 : Hid (OwnR w4 w2.heap.size (.slice a' m' c') (outRM t' (rs.take i))) := HO.out.below bD
          have HL3 : Hid (OwnT w4 v2.heap.size (.slice (some ⟨b, off, none⟩) N cl) rs l) := HL.out.below bD
          have HB3 : Hid (Below w1.heap.size w1 w4) := HB.out.trans (bD.mono (by omega))
          have u2 : w4.cell? ⟨wr.heap.size, 2, none⟩ = some (.int .i64 xd) := RD.cell 2
          have u0 : w4.cell? ⟨wr.heap.size, 0, none⟩ = some (.int .i64 xr) := RD.cell 0
          have u1 : w4.cell? ⟨wr.heap.size, 1, none⟩ = some (.int .i64 xc) := RD.cell 1
          have u3 : w4.cell? ⟨wr.heap.size, 3, none⟩ = some (.int .i64 xg) := RD.cell 3
          have u4 : w4.cell? ⟨wr.heap.size, 4, none⟩ = some (.slice xa xn xq) := RD.cell 4
          have t2 : w4.cell? ⟨w1.heap.size, 2, none⟩ = some (.slice a' m' c') := HT3.out.cell 2
          have hci := HO3.out.rws.2.1
          have hcim := HO3.out.rws.2.2.1
          unfold maxLen at hcim
          have hdp : 0 < xd := by omega
          clear bD RD
          go_wp2_with (at_builtin; refine wpList_append_own _ rfl (.tmp 71) (.tmp 73) 23 rfl w2.heap.size 45 i0 _ 5 56 Try.underlying23 hi hz0 hz1 hz2 rfl (by decide) (.slice a' m' c') _ _ rfl (HO3.out.row.alloc _) ⟨w4.heap.size, 0, none⟩ 1 1 [.int .i64 xr, .int .i64 xc, .int .i64 xd, .int .i64 xg, .slice xa xn xq] rfl rfl (cell_five_new _ _ _ _ _ _ _) (five_oneCell _ _ _ _ _ _ _) (by unfold maxLen; omega) (by omega) (by simp; omega) ?_; intro v' w5 hown' hgrow _; obtain ⟨a5, c5, rfl, ho5, hb5⟩ := ownR_step (B := w2.heap.size) (w := w4) (s := (xr, xc, xd, xg, xa, xn, xq)) HO3.out (Below.refl _ _) (by omega) hown' hgrow; have R5 := RowAt.grown (HT3.out.alloc _) hgrow (fun e => by have := (own_lt HO3.out.row e).1; omega); have q2 : w5.cell? ⟨w1.heap.size, 2, none⟩ = some (.slice a' m' c') := R5.cell 2; have q3 := R5.frozen 2)
          go_roundw
          case rel =>
            have hb6 : Below w4.heap.size w4 (w4.alloc (.cells #[.int .i64 xr, .int .i64 xc, .int .i64 xd, .int .i64 xg, .slice xa xn xq] 45)) := (Below.refl _ _).alloc (Nat.le_refl _) _
            have hL5 : OwnT w5 v2.heap.size (.slice (some ⟨b, off, none⟩) N cl) rs l := by
              have hL4 := HL3.out.below hb6
              refine ⟨own_grown hL4.1 hgrow (fun g hg e => ?_), hL4.2.grown hgrow (fun k hk g hg e => ?_)⟩
              · have p1 := HLB.out g hg
                have p2 := (own_lt HO3.out.row e).1
                omega
              · have p1 := HLT.out k hk g hg
                have p2 := (own_lt HO3.out.row e).1
                omega
            have B5 : Below w1.heap.size w1 w5 := ((HB3.out).alloc (by omega) _).grown hgrow (by simp; omega) (fun k hk => by have := (own_lt HO3.out.row hk).1; omega)
            have s5 := hgrow.size
            simp at s5
            have eT : outRM t' (rs.take (i + 1)) = outRM t' (rs.take i) ++ [(xr, xc, xd, xg, xa, xn, xq)] := by
              rw [outRM_take t' rs i hir, ← HXr.out, HXo.out]
              congr 1
              rw [if_pos (show tallR (xr, xc, xd, xg, xa, xn, xq) = true from decide_eq_true hdp)]
            refine ⟨i + 1, a5, c5, m' + 1, by omega, by go_num, by rw [eT, List.length_append, ← HM'.out]; rfl, R5.setCell 2 (.slice a5 (m' + 1) c5), ?_, ?_, B5.setCell (p := ⟨w1.heap.size, 2, none⟩) (Nat.le_refl _) (.slice a5 (m' + 1) c5), by simp [World.setCell]; omega⟩
            · rw [eT]
              exact own_set ho5 _ _ (fun e => by have := (own_lt ho5.row e).1; simp at this; omega)
            · exact ⟨own_set hL5.1 _ _ (fun e => by have := (own_lt hL5.1.row e).1; simp at this; omega), hL5.2.setLow _ _ (by simp; omega)⟩
          case measure => simp [intOf]; omega
      · have e : i = N := by omega
        subst e
        have hT := HO.out
        have hm2 := HM'.out
        rw [List.take_of_length_le (by have := HRL.out; have := HNN.out; omega)] at hT hm2
        have HO1 : Hid (OwnR wr w2.heap.size (.slice a' m' c') (outRM t' rs)) := hT
        have HM2 : Hid (m' = (outRM t' rs).length) := hm2
        have k2 : wr.cell? ⟨w1.heap.size, 2, none⟩ = some (.slice a' m' c') := HTb.out.cell 2
        clear hT hm2
        go_upto_region 16 with (go_at_call 33; refine (l2Sort_any a' m' c' (outRM t' rs) _ HO1.out.rws (by omega)).mono ?_; rintro e w3 ⟨⟨a3, c3, rfl, ho3⟩, hb3⟩; have R3 := HTb.out.below hb3 (by omega); have q2 : w3.cell? ⟨w1.heap.size, 2, none⟩ = some (.slice a' m' c') := R3.cell 2; have q3 := R3.frozen 2)
        have sz3 := hb3.size
        have R4 : RowAt (w3.setCell ⟨w1.heap.size, 2, none⟩ (.slice a3 m' c3)) w1.heap.size #[.int .i64 (R - 1), .int .i64 C, .slice a3 m' c3] 25 := R3.setCell 2 (.slice a3 m' c3)
        have B4 : Below w1.heap.size w1 (w3.setCell ⟨w1.heap.size, 2, none⟩ (.slice a3 m' c3)) := (HB.out.trans (hb3.mono (by omega))).setCell (p := ⟨w1.heap.size, 2, none⟩) (Nat.le_refl _) _
        have O4 : OwnR (w3.setCell ⟨w1.heap.size, 2, none⟩ (.slice a3 m' c3)) w2.heap.size (.slice a3 m' c3) (sortR (outRM t' rs)) := own_set (own_less ho3 (by omega)) _ _ (fun e => by have := (own_lt ho3.row e).1; simp at this; omega)
        have T4 : TxtOwn (w3.setCell ⟨w1.heap.size, 2, none⟩ (.slice a3 m' c3)) v2.heap.size (Value.slice a3 m' c3).ownBlock (sortR (outRM t' rs)) (outL t' l) := by
          have := (((HL.out.2.out t').sort).below hb3).setLow ⟨w1.heap.size, 2, none⟩ (.slice a3 m' c3) (by simp; omega)
          exact this.anew O4
        have HML : Hid (m' = (outL t' l).length) := by
          show m' = (outL t' l).length
          rw [HM2.out, outM_eq_len t' HL.out.2]
          exact (sortC_perm _).length_eq.symm
        clear q2 q3 R3 k2 ho3
        generalize (w3.setCell ⟨w1.heap.size, 2, none⟩ (.slice a3 m' c3)) = w4 at R4 B4 O4 T4 ⊢
        have HO4 : Hid (OwnR w4 w2.heap.size (.slice a3 m' c3) (sortR (outRM t' rs))) := O4
        have HT4 : Hid (TxtOwn w4 v2.heap.size (Value.slice a3 m' c3).ownBlock (sortR (outRM t' rs)) (outL t' l)) := T4
        have HB4 : Hid (Below w1.heap.size w1 w4) := B4
        have k0 : w4.cell? ⟨w1.heap.size, 0, none⟩ = some (.int .i64 (R - 1)) := R4.cell 0
        have k1 : w4.cell? ⟨w1.heap.size, 1, none⟩ = some (.int .i64 C) := R4.cell 1
        have k2 : w4.cell? ⟨w1.heap.size, 2, none⟩ = some (.slice a3 m' c3) := R4.cell 2
        have HG4 : Hid (RowAt w4 (w.heap.size + 1) #[.int .i64 0, .int .i64 0, .slice none 0 0] 25) := HG2.out.below B4 (by omega)
        clear O4 T4 B4 R4
        go_wp2_with (refine wpList_store_row rfl 25 (.tmp 4) (.tmp 80) rfl (w.heap.size + 1) #[.int .i64 (R - 1), .int .i64 C, .slice a3 m' c3] rfl rfl 25 _ HG4.out tab_info rfl (cells3_one _ _ _ _ _) ?_)
        refine bodyPost_ret (v := .tuple #[.agg #[.int .i64 (R - 1), .int .i64 C, .slice a3 m' c3], .bool true]) ?_ rfl ⟨.inr ⟨HYB.out, a3, c3, sortR (outRM t' rs), by rw [← HML.out], ?_⟩, below_row ((HB0.out.trans (hb1.mono s0)).trans (HB4.out.mono (by omega))) (by omega) _⟩
        · rw [results_cell_tmp rfl]
          simp [asAddr, Result.andThen, run_tabOf (RowAt.setRow HG4.out #[.int .i64 (R - 1), .int .i64 C, .slice a3 m' c3])]
        · rw [← HML.out]
          exact OwnT.less (B' := v2.heap.size) ⟨own_row (own_less HO4.out (by omega)) _ _ (fun e => by have := (own_lt HO4.out.row e).1; omega), HT4.out.rowLow _ _ (by omega)⟩ (by omega)
end Go.Proofs.Ytbigbbfbikhjdaa
namespace Go.Proofs.Ytbigbbfbikhjdaa
open Go.RowKit

theorem ok_txt {R C : Int} {l : List Cl} (h : okB R C l = true) : ∀ x ∈ l, textB x.2.2.2.2 = true := by
  intro x hx
  obtain ⟨k, hk, e⟩ := List.getElem_of_mem hx
  have := (stepB_of ((gridP_of_okB h).2.2.1 k hk)).2.2
  rw [show l.getD k cl0 = x by rw [← e]; simp [List.getD, hk]] at this
  exact this
theorem ok_out {R C t' : Int} {l : List Cl} (h : rowOutB R C l t' = true) : okB (R - 1) C (outL t' l) = true := by
  simp only [rowOutB, Bool.and_eq_true, decide_eq_true_eq] at h
  obtain ⟨⟨h1, h2⟩, h3⟩ := h
  obtain ⟨hR, hC, _, _⟩ := gridP_of_okB h1
  obtain ⟨R, rfl⟩ : ∃ R' : Nat, R = R' := ⟨R.toNat, by omega⟩
  obtain ⟨C, rfl⟩ : ∃ C' : Nat, C = C' := ⟨C.toNat, by omega⟩
  obtain ⟨p, rfl⟩ : ∃ p : Nat, t' = p := ⟨t'.toNat, by omega⟩
  rw [show (R : Int) - 1 = ((R - 1 : Nat) : Int) by omega]
  refine okB_sort (tiles_out h1 p (by omega)) (by omega) (by omega) (Nat.le_trans (outM_len _) (ok_small h1).1) ?_
  intro x hx
  obtain ⟨m, hm, e, -⟩ := outM_mem.1 hx
  rw [← e, outC_txt]
  exact ok_txt h1 _ (getD_mem hm)
end Go.Proofs.Ytbigbbfbikhjdaa
