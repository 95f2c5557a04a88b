import Derived.Test.YtlpfflcogefbjaaBD3
import Derived.Test.YtlpfflcogefbjaaBD2
import Derived.Test.YtlpfflcogefbjaaBA2
import Derived.Test.YtlpfflcogefbjaaBA1
namespace Go.Proofs.Ytlpfflcogefbjaa
open Go.RowKit

theorem docB_small {d : List Bl} (h : docB d = true) (k : Nat) (hk : k < d.length) : SmB (d.getD k bl0) := by
  obtain ⟨h8, hall, hou⟩ := docB_parts h
  have hp := part_small (outlB_part hou hk)
  have hb := List.all_eq_true.1 hall (d.getD k bl0) (by rw [getD_bl hk]; exact List.getElem_mem hk)
  obtain ⟨⟨K, V, t, R, C, l⟩, hx⟩ : ∃ x, x = d.getD k bl0 := ⟨_, rfl⟩
  rw [← hx] at hp hb ⊢
  simp only at hp
  rcases partB_kind hb with hK | hK | hK
  · subst hK
    obtain ⟨-, -, -, rfl⟩ := partBB_para hb
    have := hp.1 (.inl rfl)
    exact ⟨by show t.length ≤ _; omega, by simp, fun k hk => absurd hk (by simp)⟩
  · subst hK
    obtain ⟨-, -, rfl⟩ := partBB_item hb
    have := hp.1 (.inr rfl)
    exact ⟨by show t.length ≤ _; omega, by simp, fun k hk => absurd hk (by simp)⟩
  · subst hK
    obtain ⟨-, rfl⟩ := partBB_sheet hb
    obtain ⟨h1, h2⟩ := hp.2 rfl
    exact ⟨by simp, by show l.length ≤ _; omega, fun j hj => by have := h2 j hj; show (l.getD j cl0).2.2.2.2.length ≤ _; omega⟩
set_option maxRecDepth 100000 in
set_option maxHeartbeats 8000000 in
theorem specDocItem_any {a : Option Addr} {n cap : Nat} {d : List Bl} {z : Int} {w : World} (h : Dc w a n cap d) :
    Calls Try.prog 27 #[.agg #[.slice a n cap], .int .i64 z] w fun e w' => DocRes (docF enlF d z) w.heap.size e w' ∧ Below w.heap.size w w' := by
  unfold DocRes
  have HN : Hid (n = d.length) := h.1
  have hc := h.2.1
  have hm := h.2.2.1
  unfold maxLen at hm
  have H : Hid (Dc w a n cap d) := h
  clear h
  obtain ⟨x, HX⟩ : ∃ x, Hid (docB d = x) := ⟨_, rfl⟩
  go_enter Try.func27, Try.ntmps27
  go_upto_region 1 with fail
  have B0 : Below w.heap.size w ((w.alloc (.cells #[.slice a n cap] 29)).alloc (.cells #[.slice none 0 0] 29)) := ((Below.refl _ _).alloc (Nat.le_refl _) _).alloc (by simp) _
  have G0 : RowAt ((w.alloc (.cells #[.slice a n cap] 29)).alloc (.cells #[.slice none 0 0] 29)) w.heap.size #[.slice a n cap] 29 := (rowAt_new w _ _).alloc _
  have G1 : RowAt ((w.alloc (.cells #[.slice a n cap] 29)).alloc (.cells #[.slice none 0 0] 29)) (w.heap.size + 1) #[.slice none 0 0] 29 := by
    have := rowAt_new (w.alloc (.cells #[.slice a n cap] 29)) #[.slice none 0 0] 29
    simpa using this
  generalize ((w.alloc (.cells #[.slice a n cap] 29)).alloc (.cells #[.slice none 0 0] 29)) = v0 at B0 G0 G1 ⊢
  have k0 : v0.cell? ⟨w.heap.size, 0, none⟩ = some (.slice a n cap) := G0.cell 0
  have l0 := G0.lt
  have l1 := G1.lt
  have s0 := B0.size
  have H0 : Hid (RowAt v0 w.heap.size #[.slice a n cap] 29) := G0
  have H1 : Hid (RowAt v0 (w.heap.size + 1) #[.slice none 0 0] 29) := G1
  have HB0 : Hid (Below w.heap.size w v0) := B0
  have HD0 : Hid (Dc v0 a n cap d) := H.out.below B0
  clear G0 G1 B0
  cases x
  · have HNO : Hid (docF enlF d z = none) := by
      show docF enlF d z = none
      unfold docF
      rw [if_neg (by rw [HX.out]; simp)]
    go_wp2_with (first | (go_at_call 10; refine (specDocOk_is HX.out HD0.out).mono ?_; rintro e w1 ⟨rfl, hb1⟩; have HZ : Hid (RowAt w1 (w.heap.size + 1) #[.slice none 0 0] 29) := H1.out.below hb1 l1) | (refine wpList_store_row rfl 29 (.tmp 4) (.tmp 28) rfl (w.heap.size + 1) #[.slice none 0 0] rfl rfl 29 _ HZ.out docI_info rfl (cells1_one _ _ _) ?_))
    refine bodyPost_ret (v := .tuple #[.agg #[.slice none 0 0], .bool false]) ?_ rfl ⟨.inl ⟨HNO.out, rfl⟩, below_row (HB0.out.trans (hb1.mono s0)) (by omega) _⟩
    rw [results_cell_tmp rfl]
    simp [asAddr, Result.andThen, run_docOf (RowAt.setRow HZ.out _)]
  obtain ⟨hn8', hall, hou⟩ := docB_parts HX.out
  have hn8 : n ≤ 8 := by rw [HN.out]; exact hn8'
  have HALL : Hid (d.all partBB = true) := hall
  have HOU : Hid (outlB d = true) := hou
  clear hall hou hn8'
  have CALL1 : Hid (∀ u, Calls Try.prog 53 #[.int .i64 z, .int .i64 0, .int .i64 ((n : Int) - 1)] u fun e w' => e = .returned (.bool (decide (0 ≤ z ∧ z ≤ (n : Int) - 1))) ∧ w' = u) := fun u => l6In_gen _ _ _ u
  by_cases hz : 0 ≤ z ∧ z ≤ (n : Int) - 1
  rotate_left
  · rw [decide_eq_false hz] at CALL1
    have HNO : Hid (docF enlF d z = none) := by
      show docF enlF d z = none
      unfold docF
      rw [if_neg (by have := HN.out; omega)]
    clear hz
    go_wp2_with (first | (go_at_call 10; refine (specDocOk_is HX.out HD0.out).mono ?_; rintro e w1 ⟨rfl, hb1⟩; have HZ : Hid (RowAt w1 (w.heap.size + 1) #[.slice none 0 0] 29) := H1.out.below hb1 l1; have k1 := (H0.out.below hb1 l0).cell 0; simp at k1) | (go_at_call 53; refine (CALL1.out _).mono ?_; rintro e w2 ⟨rfl, hw2⟩; subst w2) | (refine wpList_store_row rfl 29 (.tmp 4) (.tmp 28) rfl (w.heap.size + 1) #[.slice none 0 0] rfl rfl 29 _ HZ.out docI_info rfl (cells1_one _ _ _) ?_))
    refine bodyPost_ret (v := .tuple #[.agg #[.slice none 0 0], .bool false]) ?_ rfl ⟨.inl ⟨HNO.out, rfl⟩, below_row (HB0.out.trans (hb1.mono s0)) (by omega) _⟩
    rw [results_cell_tmp rfl]
    simp [asAddr, Result.andThen, run_docOf (RowAt.setRow HZ.out _)]
  · rw [decide_eq_true hz] at CALL1
    obtain ⟨hz0, hz1⟩ := hz
    obtain ⟨i, rfl⟩ : ∃ i : Nat, z = i := ⟨z.toNat, by omega⟩
    have hzn : (i : Int) < (n : Int) := by omega
    have hid : i < d.length := by have := HN.out; omega
    have HFE : Hid (docF enlF d i = (enlF d i).bind fun d' => if outlB d' = true then some d' else none) := by
      show docF enlF d i = _
      unfold docF
      rw [if_pos ⟨HX.out, by omega, by have := HN.out; omega⟩]
      rfl
    rcases HD0.out.2.2.2 with e | ⟨b, off, rfl, hbl, hcl⟩
    · rw [e] at hid
      exact absurd hid (by simp)
    obtain ⟨ta, tn, tc, ca, cn, cc, hblk⟩ := hcl i hid
    have c0 := hblk.1
    obtain ⟨K, HK⟩ : ∃ K, Hid ((d.getD i bl0).1 = K) := ⟨_, rfl⟩
    rw [HK.out] at c0
    clear hcl hblk
    by_cases hk1 : K = 1
    rotate_left
    · have HNO : Hid (docF enlF d i = none) := by
        show docF enlF d i = none
        rw [HFE.out]
        unfold enlF
        rw [HK.out, if_neg hk1]
        rfl
      have hkb : (K != 1) = true := by simp [hk1]
      go_wp2_with (first | (go_at_call 10; refine (specDocOk_is HX.out HD0.out).mono ?_; rintro e w1 ⟨rfl, hb1⟩; have HZ : Hid (RowAt w1 (w.heap.size + 1) #[.slice none 0 0] 29) := H1.out.below hb1 l1; have k1 := (H0.out.below hb1 l0).cell 0; simp at k1; have c1 := (hb1.cell (p := ⟨b, off + i * 6, none⟩) hbl).trans c0) | (go_at_call 53; refine (CALL1.out _).mono ?_; rintro e w2 ⟨rfl, hw2⟩; subst w2) | (refine wpList_store_row rfl 29 (.tmp 4) (.tmp 28) rfl (w.heap.size + 1) #[.slice none 0 0] rfl rfl 29 _ HZ.out docI_info rfl (cells1_one _ _ _) ?_))
      refine bodyPost_ret (v := .tuple #[.agg #[.slice none 0 0], .bool false]) ?_ rfl ⟨.inl ⟨HNO.out, rfl⟩, below_row (HB0.out.trans (hb1.mono s0)) (by omega) _⟩
      rw [results_cell_tmp rfl]
      simp [asAddr, Result.andThen, run_docOf (RowAt.setRow HZ.out _)]
    · subst hk1
      obtain ⟨d', HD'⟩ : ∃ d', Hid (enlF d i = some d') := by
        unfold enlF
        rw [HK.out, if_pos rfl]
        exact ⟨_, rfl⟩
      have HYES : Hid (docF enlF d i = some d') := by
        show docF enlF d i = some d'
        rw [HFE.out, HD'.out, Option.bind_some, if_pos (enl_ok HOU.out hid HD'.out)]
      have HSET : Hid (d.set i (2, (d.getD i bl0).2) = d') := by
        show d.set i (2, (d.getD i bl0).2) = d'
        have h1 := HD'.out
        unfold enlF at h1
        rw [HK.out, if_pos rfl] at h1
        have h2 := List.all_eq_true.1 HALL.out (d.getD i bl0) (by rw [getD_bl hid]; exact List.getElem_mem hid)
        have h3 := HK.out
        obtain ⟨⟨K, V, t, R, C, l⟩, hx⟩ : ∃ x, x = d.getD i bl0 := ⟨_, rfl⟩
        rw [← hx] at h1 h2 h3 ⊢
        simp only at h3
        subst h3
        obtain ⟨rfl, rfl, rfl, rfl⟩ := partBB_para h2
        simpa using h1
      go_upto_region 3 with (first | (go_at_call 10; refine (specDocOk_is HX.out HD0.out).mono ?_; rintro e w1 ⟨rfl, hb1⟩; have k1 := (H0.out.below hb1 l0).cell 0; simp at k1; have c1 := (hb1.cell (p := ⟨b, off + i * 6, none⟩) hbl).trans c0) | (go_at_call 53; refine (CALL1.out _).mono ?_; rintro e w2 ⟨rfl, hw2⟩; subst w2))
      have s1 := hb1.size
      have HZ1 : Hid (RowAt w1 (w.heap.size + 1) #[.slice none 0 0] 29) := H1.out.below hb1 l1
      have HB1 : Hid (Below w.heap.size w w1) := HB0.out.trans (hb1.mono s0)
      have HD1 : Hid (Dc w1 (some ⟨b, off, none⟩) n cap d) := HD0.out.below hb1
      have HSM : Hid (∀ k, k < d.length → SmB (d.getD k bl0)) := docB_small HX.out
      clear k0 c0 c1 hb1 H0 H1 HB0 HD0
      go_wp2_with fail
      refine (l3Copy_any HD1.out (by omega) HSM.out).mono ?_
      rintro e w2 ⟨⟨p, q, rbs, rfl, ho2⟩, hb2⟩
      have s2 := hb2.size
      go_upto_region 4 with fail
      have A3 : Below w2.heap.size w2 (w2.alloc (.cells #[.slice p n q] 29)) := (Below.refl _ _).alloc (Nat.le_refl _) _
      have G3 : RowAt (w2.alloc (.cells #[.slice p n q] 29)) w2.heap.size #[.slice p n q] 29 := rowAt_new _ _ _
      have O3 : DocOwn (w2.alloc (.cells #[.slice p n q] 29)) w1.heap.size w2.heap.size (.slice p n q) rbs d := ho2.below (Nat.le_refl _) A3
      have Z3 : RowAt (w2.alloc (.cells #[.slice p n q] 29)) (w.heap.size + 1) #[.slice none 0 0] 29 := (HZ1.out.below hb2 (by omega)).alloc _
      have B3 : Below w.heap.size w (w2.alloc (.cells #[.slice p n q] 29)) := (HB1.out.trans (hb2.mono (by omega))).alloc (by omega) _
      clear k1 ho2 hb2 A3
      generalize w2.alloc (.cells #[.slice p n q] 29) = w3 at G3 O3 Z3 B3 ⊢
      have k3 : w3.cell? ⟨w2.heap.size, 0, none⟩ = some (.slice p n q) := G3.cell 0
      have hq1 := O3.dc.2.1
      have hq2 := O3.dc.2.2.1
      unfold maxLen at hq2
      obtain ⟨g, rfl, hg1, hg2, hcs, hfz⟩ := docOwn_at O3 (show i < n by omega)
      have q0 : w3.cell? ⟨g, i * 6, none⟩ = some (.int .i64 (rbs.getD i rb0).1) := hcs 0 (by omega)
      have f0 : w3.frozen? ⟨g, i * 6, none⟩ = false := hfz 0
      have gE : g < w2.heap.size := O3.2.1 g rfl
      have O4 := docOwn_kind O3 i hid 2
      rw [HSET.out] at O4
      have HO4 : Hid (DocOwn (w3.setCell ⟨g, i * 6, none⟩ (.int .i64 2)) w1.heap.size w2.heap.size (.slice (some ⟨g, 0, none⟩) n q) (rbs.set i (2, (rbs.getD i rb0).2)) d') := O4
      have G4 : RowAt (w3.setCell ⟨g, i * 6, none⟩ (.int .i64 2)) w2.heap.size #[.slice (some ⟨g, 0, none⟩) n q] 29 := G3.other _ _ (by simp; omega)
      have HZ4 : Hid (RowAt (w3.setCell ⟨g, i * 6, none⟩ (.int .i64 2)) (w.heap.size + 1) #[.slice none 0 0] 29) := Z3.other _ _ (by simp; omega)
      have HB4 : Hid (Below w.heap.size w (w3.setCell ⟨g, i * 6, none⟩ (.int .i64 2))) := B3.setCell (by show _ ≤ g; omega) _
      have zz : w2.heap.size < w3.heap.size := G3.lt
      clear hcs hfz O3 O4 Z3 B3
      go_upto_region 5 with fail
      have sz4 : w2.heap.size < (w3.setCell ⟨g, i * 6, none⟩ (.int .i64 2)).heap.size := by simpa using zz
      clear k3 q0 f0 G3
      generalize w3.setCell ⟨g, i * 6, none⟩ (.int .i64 2) = w4 at HO4 G4 HZ4 HB4 sz4 ⊢
      have k4 : w4.cell? ⟨w2.heap.size, 0, none⟩ = some (.slice (some ⟨g, 0, none⟩) n q) := G4.cell 0
      have HLN : Hid (n = d'.length) := HO4.out.len
      go_wp2_with (refine wpList_store_row rfl 29 (.tmp 4) (.tmp 36) rfl (w.heap.size + 1) #[.slice (some ⟨g, 0, none⟩) n q] rfl rfl 29 _ HZ4.out docI_info rfl (cells1_one _ _ _) ?_)
      refine bodyPost_ret (v := .tuple #[.agg #[.slice (some ⟨g, 0, none⟩) n q], .bool true]) ?_ rfl ⟨.inr ⟨d', some ⟨g, 0, none⟩, q, rbs.set i (2, (rbs.getD i rb0).2), HYES.out, by rw [← HLN.out], ?_⟩, below_row HB4.out (by omega) _⟩
      · rw [results_cell_tmp rfl]
        simp [asAddr, Result.andThen, run_docOf (RowAt.setRow HZ4.out _)]
      · have sz : (w4.setRow (w.heap.size + 1) #[.slice (some ⟨g, 0, none⟩) n q]).heap.size = w4.heap.size := by simp [World.setRow]
        rw [sz, ← HLN.out]
        exact (HO4.out.mid (fun b hb hb' => setRow_other _ _ _ _ (by omega))).less (by omega) (by omega)
end Go.Proofs.Ytlpfflcogefbjaa
namespace Go.Proofs.Ytlpfflcogefbjaa
open Go.RowKit

/-- Whether a block is an item: what that says. -/
theorem item_of {d : List Bl} {z : Int} (h : itemB d z = true) : docB d = true ∧ ∃ i : Nat, z = i ∧ i < d.length ∧ (d.getD i bl0).1 = 2 := by
  unfold itemB at h
  rw [Bool.and_eq_true, Bool.and_eq_true, decide_eq_true_eq, decide_eq_true_eq] at h
  obtain ⟨h1, ⟨h2, h3⟩, h4⟩ := h
  exact ⟨h1, z.toNat, by omega, by omega, h4⟩
theorem no_item {F : List Bl → Nat → Option (List Bl)} {d : List Bl} {z : Int} (h : itemB d z = false) (hF : ∀ d i, ¬ (List.getD d i bl0).1 = 2 → F d i = none) : docF F d z = none := by
  unfold docF
  by_cases hc : docB d = true ∧ 0 ≤ z ∧ z < d.length
  · rw [if_pos hc]
    unfold itemB at h
    rw [hc.1, Bool.true_and, decide_eq_true (by omega), Bool.true_and, decide_eq_false_iff_not] at h
    rw [hF d z.toNat h]
    rfl
  · rw [if_neg hc]
set_option maxRecDepth 100000 in
set_option maxHeartbeats 8000000 in
theorem specDocSink_any {a : Option Addr} {n cap : Nat} {d : List Bl} {z : Int} {w : World} (h : Dc w a n cap d) :
    Calls Try.prog 22 #[.agg #[.slice a n cap], .int .i64 z] w fun e w' => DocRes (docF sinkF d z) w.heap.size e w' ∧ Below w.heap.size w w' := by
  unfold DocRes
  have HN : Hid (n = d.length) := h.1
  have hc := h.2.1
  have hm := h.2.2.1
  unfold maxLen at hm
  have H : Hid (Dc w a n cap d) := h
  clear h
  obtain ⟨x, HX⟩ : ∃ x, Hid (itemB d z = x) := ⟨_, rfl⟩
  go_enter Try.func22, Try.ntmps22
  go_upto_region 1 with fail
  have B0 : Below w.heap.size w ((w.alloc (.cells #[.slice a n cap] 29)).alloc (.cells #[.slice none 0 0] 29)) := ((Below.refl _ _).alloc (Nat.le_refl _) _).alloc (by simp) _
  have G0 : RowAt ((w.alloc (.cells #[.slice a n cap] 29)).alloc (.cells #[.slice none 0 0] 29)) w.heap.size #[.slice a n cap] 29 := (rowAt_new w _ _).alloc _
  have G1 : RowAt ((w.alloc (.cells #[.slice a n cap] 29)).alloc (.cells #[.slice none 0 0] 29)) (w.heap.size + 1) #[.slice none 0 0] 29 := by
    have := rowAt_new (w.alloc (.cells #[.slice a n cap] 29)) #[.slice none 0 0] 29
    simpa using this
  generalize ((w.alloc (.cells #[.slice a n cap] 29)).alloc (.cells #[.slice none 0 0] 29)) = v0 at B0 G0 G1 ⊢
  have k0 : v0.cell? ⟨w.heap.size, 0, none⟩ = some (.slice a n cap) := G0.cell 0
  have l0 := G0.lt
  have l1 := G1.lt
  have s0 := B0.size
  have H0 : Hid (RowAt v0 w.heap.size #[.slice a n cap] 29) := G0
  have H1 : Hid (RowAt v0 (w.heap.size + 1) #[.slice none 0 0] 29) := G1
  have HB0 : Hid (Below w.heap.size w v0) := B0
  have HD0 : Hid (Dc v0 a n cap d) := H.out.below B0
  clear G0 G1 B0
  cases x
  · have HNO : Hid (docF sinkF d z = none) := no_item HX.out (fun d i h => by unfold sinkF; rw [if_neg h])
    go_wp2_with (first | (go_at_call 46; refine (l3Item_is HX.out HD0.out).mono ?_; rintro e w1 ⟨rfl, hb1⟩; have HZ : Hid (RowAt w1 (w.heap.size + 1) #[.slice none 0 0] 29) := H1.out.below hb1 l1) | (refine wpList_store_row rfl 29 (.tmp 4) (.tmp 12) rfl (w.heap.size + 1) #[.slice none 0 0] rfl rfl 29 _ HZ.out docI_info rfl (cells1_one _ _ _) ?_))
    refine bodyPost_ret (v := .tuple #[.agg #[.slice none 0 0], .bool false]) ?_ rfl ⟨.inl ⟨HNO.out, rfl⟩, below_row (HB0.out.trans (hb1.mono s0)) (by omega) _⟩
    rw [results_cell_tmp rfl]
    simp [asAddr, Result.andThen, run_docOf (RowAt.setRow HZ.out _)]
  obtain ⟨hdb, i, rfl, hid, hk2⟩ := item_of HX.out
  obtain ⟨hn8', hall, hou⟩ := docB_parts hdb
  have hn8 : n ≤ 8 := by rw [HN.out]; exact hn8'
  have hin : i < n := by rw [HN.out]; exact hid
  have HDB : Hid (docB d = true) := hdb
  have HALL : Hid (d.all partBB = true) := hall
  have HOU : Hid (outlB d = true) := hou
  have HK2 : Hid ((d.getD i bl0).1 = 2) := hk2
  have HGR : Hid (∀ k, i ≤ k → k < endL d i → (d.getD k bl0).1 = 2 ∧ 0 ≤ (d.getD k bl0).2.1 ∧ (d.getD k bl0).2.1 ≤ 3) := group_items hou hid hk2
  have HFE : Hid (docF sinkF d i = (sinkF d i).bind fun d' => if outlB d' = true then some d' else none) := by
    show docF sinkF d i = _
    unfold docF
    rw [if_pos ⟨hdb, by omega, by omega⟩]
    rfl
  have hEn : endL d i ≤ n := by rw [HN.out]; exact endL_le hid
  have HEB : Hid (endL d i = i + 1 + belL d i) := rfl
  have HV0 : Hid (0 ≤ (d.getD i bl0).2.1) := (group_items hou hid hk2 i (Nat.le_refl _) (by unfold endL; omega)).2.1
  clear hall hou hn8' hk2 hdb
  obtain ⟨E, HE⟩ : ∃ E, Hid (endL d i = E) := ⟨_, rfl⟩
  obtain ⟨bl, HBL⟩ : ∃ b, Hid (belL d i = b) := ⟨_, rfl⟩
  have hEb : E = i + 1 + bl := by rw [← HE.out, ← HBL.out]; exact HEB.out
  rw [HE.out] at hEn HGR
  go_upto_region 3 with (go_at_call 46; refine (l3Item_is HX.out HD0.out).mono ?_; rintro e w1 ⟨rfl, hb1⟩; have k1 := (H0.out.below hb1 l0).cell 0; simp at k1)
  have s1 := hb1.size
  have HA1 : Hid (RowAt w1 w.heap.size #[.slice a n cap] 29) := H0.out.below hb1 l0
  have HZ1 : Hid (RowAt w1 (w.heap.size + 1) #[.slice none 0 0] 29) := H1.out.below hb1 l1
  have HB1 : Hid (Below w.heap.size w w1) := HB0.out.trans (hb1.mono s0)
  have HD1 : Hid (Dc w1 a n cap d) := HD0.out.below hb1
  have HSM : Hid (∀ k, k < d.length → SmB (d.getD k bl0)) := docB_small HDB.out
  clear k0 hb1 H0 H1 HB0 HD0
  go_wp2_with fail
  refine (l3Copy_any HD1.out (by omega) HSM.out).mono ?_
  rintro e w2 ⟨⟨p, q, rbs, rfl, ho2⟩, hb2⟩
  have s2 := hb2.size
  go_upto_region 4 with fail
  have A3 : Below w2.heap.size w2 (w2.alloc (.cells #[.slice p n q] 29)) := (Below.refl _ _).alloc (Nat.le_refl _) _
  have G3 : RowAt (w2.alloc (.cells #[.slice p n q] 29)) w2.heap.size #[.slice p n q] 29 := rowAt_new _ _ _
  have O3 : DocOwn (w2.alloc (.cells #[.slice p n q] 29)) w1.heap.size w2.heap.size (.slice p n q) rbs d := ho2.below (Nat.le_refl _) A3
  have B3 : Below w1.heap.size w1 (w2.alloc (.cells #[.slice p n q] 29)) := hb2.alloc s2 _
  clear k1 ho2 hb2 A3
  generalize w2.alloc (.cells #[.slice p n q] 29) = w3 at G3 O3 B3 ⊢
  have hq1 := O3.dc.2.1
  have hq2 := O3.dc.2.2.1
  unfold maxLen at hq2
  obtain ⟨g, rfl, hg1, hg2, -, -⟩ := docOwn_at O3 hin
  have gE : g < w2.heap.size := O3.2.1 g rfl
  have HG3 : Hid (RowAt w3 w2.heap.size #[.slice (some ⟨g, 0, none⟩) n q] 29) := G3
  have HO3 : Hid (DocOwn w3 w1.heap.size w2.heap.size (.slice (some ⟨g, 0, none⟩) n q) rbs d) := O3
  have HB3 : Hid (Below w1.heap.size w1 w3) := B3
  have zz := G3.lt
  have s3 := B3.size
  have z0 := HA1.out.lt
  have z1 := HZ1.out.lt
  clear G3 O3 B3
  go_wp2_with fail
  go_loopw [7] (fun mv wr => ∃ (m : Nat) (rbs' : List Rb), i ≤ m ∧ m ≤ E ∧ mv = .int .i64 m ∧ RowAt wr w2.heap.size #[.slice (some ⟨g, 0, none⟩) n q] 29 ∧ DocOwn wr w1.heap.size w2.heap.size (.slice (some ⟨g, 0, none⟩) n q) rbs' (deepTo d i (1) m) ∧ w3.heap.size ≤ wr.heap.size ∧ Below w1.heap.size w1 wr) (fun mv _ => E - (intOf mv).toNat)
  case atStart => exact ⟨i, rbs, Nat.le_refl _, by omega, rfl, HG3.out, by rw [deepTo_start]; exact HO3.out, Nat.le_refl _, HB3.out⟩
  case round =>
    obtain ⟨m, rbs', hm1, hm2, rfl, hG, hO, hs, hB⟩ := hrel
    have HGm : Hid (RowAt wr w2.heap.size #[.slice (some ⟨g, 0, none⟩) n q] 29) := hG
    have HOm : Hid (DocOwn wr w1.heap.size w2.heap.size (.slice (some ⟨g, 0, none⟩) n q) rbs' (deepTo d i (1) m)) := hO
    have HBm : Hid (Below w1.heap.size w1 wr) := hB
    have a0 : wr.cell? ⟨w.heap.size, 0, none⟩ = some (.slice a n cap) := (HA1.out.below hB z0).cell 0
    clear hG hB
    by_cases hlt : m < E
    · have hmd : m < d.length := by have := HN.out; omega
      have hmn : (m : Int) < (n : Int) := by omega
      have hm0 : (0 : Int) ≤ (m : Int) := by omega
      have hle : (m : Int) ≤ (i : Int) + (bl : Int) := by omega
      go_upto_region 7 with (go_at_call 48; refine (l3Below_any (HD1.out.below HBm.out) hin hn8 HK2.out HV0.out).mono ?_; rintro e uc ⟨rfl, hbc⟩; rw [HBL.out])
      have HBc : Hid (Below w1.heap.size w1 uc) := HBm.out.trans (hbc.mono (by omega))
      have HGc : Hid (RowAt uc w2.heap.size #[.slice (some ⟨g, 0, none⟩) n q] 29) := HGm.out.below hbc (by omega)
      have HOc : Hid (DocOwn uc w1.heap.size w2.heap.size (.slice (some ⟨g, 0, none⟩) n q) rbs' (deepTo d i 1 m)) := HOm.out.below (by omega) hbc
      have sc : w3.heap.size ≤ uc.heap.size := Nat.le_trans hs hbc.size
      clear hbc HGm HOm HBm a0
      obtain ⟨_, he, -, -, hcs, hfz⟩ := docOwn_at HOc.out (show m < n by omega)
      cases he
      have hcell := hcs 1 (by omega)
      have hfr := hfz 1
      have hget : (deepTo d i (1) m).getD m bl0 = d.getD m bl0 := by rw [deepTo_get hmd, if_neg (by omega)]
      have hbv : (rbs'.getD m rb0).2.1 = (d.getD m bl0).2.1 := by
        obtain ⟨lo, mid, hi, h1, -⟩ := HOc.out.2.2.2
        have := (h1 m (by rw [deepTo_len]; exact hmd)).2.2.1.2.1
        rw [hget] at this
        exact this
      obtain ⟨V, HV⟩ : ∃ V, Hid ((d.getD m bl0).2.1 = V) := ⟨_, rfl⟩
      have hc1 : uc.cell? ⟨g, m * 6 + 1, none⟩ = some (.int .i64 V) := by
        have h1 : (rbCells (rbs'.getD m rb0))[1]? = some (.int .i64 (rbs'.getD m rb0).2.1) := rfl
        rw [hcell, h1, hbv, HV.out]
      obtain ⟨-, hv0, hv3⟩ := HGR.out m hm1 hlt
      rw [HV.out] at hv0 hv3
      have HLV : Hid (DocOwn (uc.setCell ⟨g, m * 6 + 1, none⟩ (.int .i64 (V + 1))) w1.heap.size w2.heap.size (.slice (some ⟨g, 0, none⟩) n q) (rbs'.set m ((rbs'.getD m rb0).1, V + 1, (rbs'.getD m rb0).2.2)) (deepTo d i (1) (m + 1))) := by
        have h1 := docOwn_level HOc.out m (by rw [deepTo_len]; exact hmd) (V + 1)
        rw [hget] at h1
        rw [deepTo_succ hm1]
        have h2 : bump (1) (d.getD m bl0) = ((d.getD m bl0).1, V + 1, (d.getD m bl0).2.2) := by
          unfold bump
          rw [HV.out]
        rw [h2]
        exact h1
      have HC1 : Hid (uc.cell? ⟨g, m * 6 + 1, none⟩ = some (.int .i64 V)) := hc1
      have HF1 : Hid (uc.frozen? ⟨g, m * 6 + 1, none⟩ = false) := hfr
      clear hcs hfz hcell hfr hget hbv hc1 hO
      refine wp_region_noPanic ?_
      refine wp_region_held_drew (S := fun w' => RowAt w' w2.heap.size #[.slice (some ⟨g, 0, none⟩) n q] 29) (by kernel_rfl) HGc.out.drew (fun hHeld => ?_)
      have HLd : Hid (DocOwn (uc.drew.setCell ⟨g, m * 6 + 1, none⟩ (.int .i64 (V + 1))) w1.heap.size w2.heap.size (.slice (some ⟨g, 0, none⟩) n q) (rbs'.set m ((rbs'.getD m rb0).1, V + 1, (rbs'.getD m rb0).2.2)) (deepTo d i (1) (m + 1))) := HLV.out
      have HCd : Hid (uc.drew.cell? ⟨g, m * 6 + 1, none⟩ = some (.int .i64 V)) := HC1.out
      have HFd : Hid (uc.drew.frozen? ⟨g, m * 6 + 1, none⟩ = false) := HF1.out
      have HBd : Hid (Below w1.heap.size w1 uc.drew) := HBc.out.drew
      have sd : w3.heap.size ≤ uc.drew.heap.size := sc
      generalize uc.drew = u1 at hHeld HLd HCd HFd HBd sd ⊢
      clear HLV HC1 HF1 HBc sc HGc HOc
      refine take_at 0 25 (.pointer (some ⟨w2.heap.size, 0, none⟩)) rfl rfl (by kernel_rfl) (by kernel_rfl) (by kernel_rfl) (fun _ _ _ h => h) (Or.inl ⟨by kernel_rfl, fun w' hS' => by go_simp⟩) hHeld ?_
      (try simp only [Act.put, List.setIfInBounds_toArray, List.set_cons_zero, List.set_cons_succ])
      refine take_at 1 26 (.slice (some ⟨g, 0, none⟩) n q) rfl rfl (by kernel_rfl) (by kernel_rfl) (by kernel_rfl) (fun _ _ _ h => h) (Or.inl ⟨by kernel_rfl, fun w' hS' => by have hc := RowAt.cell hS' 0; go_simp⟩) hHeld ?_
      (try simp only [Act.put, List.setIfInBounds_toArray, List.set_cons_zero, List.set_cons_succ])
      refine take_at 2 27 (.int .i64 m) rfl rfl (by kernel_rfl) (by kernel_rfl) (by kernel_rfl) (fun _ _ _ h => h) (Or.inl ⟨by kernel_rfl, fun w' hS' => by go_simp⟩) hHeld ?_
      (try simp only [Act.put, List.setIfInBounds_toArray, List.set_cons_zero, List.set_cons_succ])
      refine take_at 3 28 (.pointer (some ⟨w2.heap.size, 0, none⟩)) rfl rfl (by kernel_rfl) (by kernel_rfl) (by kernel_rfl) (fun _ _ _ h => h) (Or.inl ⟨by kernel_rfl, fun w' hS' => by go_simp⟩) hHeld ?_
      (try simp only [Act.put, List.setIfInBounds_toArray, List.set_cons_zero, List.set_cons_succ])
      refine take_at 4 29 (.slice (some ⟨g, 0, none⟩) n q) rfl rfl (by kernel_rfl) (by kernel_rfl) (by kernel_rfl) (fun _ _ _ h => h) (Or.inl ⟨by kernel_rfl, fun w' hS' => by have hc := RowAt.cell hS' 0; go_simp⟩) hHeld ?_
      (try simp only [Act.put, List.setIfInBounds_toArray, List.set_cons_zero, List.set_cons_succ])
      refine take_at 5 30 (.int .i64 m) rfl rfl (by kernel_rfl) (by kernel_rfl) (by kernel_rfl) (fun _ _ _ h => h) (Or.inl ⟨by kernel_rfl, fun w' hS' => by go_simp⟩) hHeld ?_
      (try simp only [Act.put, List.setIfInBounds_toArray, List.set_cons_zero, List.set_cons_succ])
      refine take_at 6 31 (.pointer (some ⟨g, m * 6, none⟩)) rfl rfl (by kernel_rfl) (by kernel_rfl) (by kernel_rfl) (fun _ _ _ h => h) (Or.inl ⟨by kernel_rfl, fun w' hS' => by go_simp⟩) hHeld ?_
      (try simp only [Act.put, List.setIfInBounds_toArray, List.set_cons_zero, List.set_cons_succ])
      refine take_at 7 32 (.pointer (some ⟨g, m * 6 + 1, none⟩)) rfl rfl (by kernel_rfl) (by kernel_rfl) (by kernel_rfl) (fun _ _ _ h => h) (Or.inl ⟨by kernel_rfl, fun w' hS' => by go_simp⟩) hHeld ?_
      (try simp only [Act.put, List.setIfInBounds_toArray, List.set_cons_zero, List.set_cons_succ])
      refine wpAnyH_ready (rs := [8]) (by kernel_rfl) (by simp) ?_
      refine AllReadyH.cons rfl (fun K hK => ?_) AllReadyH.nil
      have d4 := HCd.out
      go_simp
      refine hK.out _ _ hHeld (fun hHeld => ?_)
      clear hK K d4
      (try simp only [Act.put, List.setIfInBounds_toArray, List.set_cons_zero, List.set_cons_succ])
      refine take_at 9 34 (.int .i64 (V + 1)) rfl rfl (by kernel_rfl) (by kernel_rfl) (by kernel_rfl) (fun _ _ _ h => h) (Or.inl ⟨by kernel_rfl, fun w' hS' => by go_simp; rw [IntKind.wrap_i64]; omega⟩) hHeld ?_
      (try simp only [Act.put, List.setIfInBounds_toArray, List.set_cons_zero, List.set_cons_succ])
      refine take_at 10 35 (.pointer (some ⟨g, m * 6, none⟩)) rfl rfl (by kernel_rfl) (by kernel_rfl) (by kernel_rfl) (fun _ _ _ h => h) (Or.inl ⟨by kernel_rfl, fun w' hS' => by go_simp⟩) hHeld ?_
      (try simp only [Act.put, List.setIfInBounds_toArray, List.set_cons_zero, List.set_cons_succ])
      refine take_at 11 36 (.pointer (some ⟨g, m * 6 + 1, none⟩)) rfl rfl (by kernel_rfl) (by kernel_rfl) (by kernel_rfl) (fun _ _ _ h => h) (Or.inl ⟨by kernel_rfl, fun w' hS' => by go_simp⟩) hHeld ?_
      (try simp only [Act.put, List.setIfInBounds_toArray, List.set_cons_zero, List.set_cons_succ])
      refine wpAnyH_ready (rs := [12]) (by kernel_rfl) (by simp) ?_
      refine AllReadyH.cons rfl (fun K hK => ?_) AllReadyH.nil
      have d4 := HCd.out
      have f4 := HFd.out
      rw [if_pos (by kernel_rfl)]
      go_simp
      refine hK.out _ _ (RowAt.other hHeld _ _ (by simp; omega)) (fun hHeld => ?_)
      clear hK K d4 f4
      (try simp only [Act.put])
      refine wpAnyH_done (by kernel_rfl) ?_ _
      refine NoPanic.normal ?_
      have hG9 := hHeld
      clear hHeld
      go_wp2_with fail
      go_roundw
      case rel => exact ⟨m + 1, _, by omega, by omega, by go_num, hG9, HLd.out, by simpa using sd, HBd.out.setCell (p := ⟨g, m * 6 + 1, none⟩) hg1 _⟩
      case measure => simp [intOf]; omega
    · obtain rfl : m = E := by omega
      have hle : ¬ (m : Int) ≤ (i : Int) + (bl : Int) := by omega
      obtain ⟨d', HD'⟩ : ∃ d', Hid (sinkF d i = some d') := by
        unfold sinkF
        rw [HK2.out, if_pos rfl]
        exact ⟨_, rfl⟩
      have HDE : Hid (deepTo d i 1 m = d') := by
        show deepTo d i 1 m = d'
        have h1 := HD'.out
        unfold sinkF at h1
        rw [HK2.out, if_pos rfl] at h1
        have h2 : deepL d i 1 = d' := by simpa using h1
        rw [← h2, ← HE.out]
        rfl
      obtain ⟨hall', hlen'⟩ := sinkF_form HALL.out HOU.out hid HD'.out
      obtain ⟨y, HY⟩ : ∃ y, Hid (outlB d' = y) := ⟨_, rfl⟩
      have HYD : Hid (docB d' = y) := by
        show docB d' = y
        rw [← HY.out, Bool.eq_iff_iff, doc_parts2]
        refine ⟨fun h => h.2.2, fun h => ⟨?_, hall', h⟩⟩
        have := h
        unfold outlB at this
        rw [Bool.and_eq_true, decide_eq_true_eq] at this
        exact this.1
      have HFQ : Hid (docF sinkF d i = if y = true then some d' else none) := by
        show docF sinkF d i = _
        rw [HFE.out, HD'.out, Option.bind_some, HY.out]
      have hOE := HOm.out
      rw [HDE.out] at hOE
      have HLN : Hid (n = d'.length) := hOE.len
      clear hall' hlen' hO
      go_upto_region 8 with (go_at_call 48; refine (l3Below_any (HD1.out.below HBm.out) hin hn8 HK2.out HV0.out).mono ?_; rintro e uc ⟨rfl, hbc⟩; rw [HBL.out])
      have HBc : Hid (Below w1.heap.size w1 uc) := HBm.out.trans (hbc.mono (by omega))
      have HGc : Hid (RowAt uc w2.heap.size #[.slice (some ⟨g, 0, none⟩) n q] 29) := HGm.out.below hbc (by omega)
      have HOc : Hid (DocOwn uc w1.heap.size w2.heap.size (.slice (some ⟨g, 0, none⟩) n q) rbs' d') := hOE.below (by omega) hbc
      have sc : w3.heap.size ≤ uc.heap.size := Nat.le_trans hs hbc.size
      have b0 : uc.cell? ⟨w2.heap.size, 0, none⟩ = some (.slice (some ⟨g, 0, none⟩) n q) := HGc.out.cell 0
      clear hbc HGm HOm HBm a0 hOE
      go_wp2_with fail
      refine (specDocOk_is HYD.out HOc.out.dc).mono ?_
      rintro e u5 ⟨rfl, hb5⟩
      have s5 := hb5.size
      have HZ5 : Hid (RowAt u5 (w.heap.size + 1) #[.slice none 0 0] 29) := (HZ1.out.below HBc.out z1).below hb5 (by omega)
      have HG5 : Hid (RowAt u5 w2.heap.size #[.slice (some ⟨g, 0, none⟩) n q] 29) := HGc.out.below hb5 (by omega)
      have HO5 : Hid (DocOwn u5 w1.heap.size w2.heap.size (.slice (some ⟨g, 0, none⟩) n q) rbs' d') := HOc.out.below (by omega) hb5
      have HB5 : Hid (Below w.heap.size w u5) := HB1.out.trans ((HBc.out.trans (hb5.mono (by omega))).mono (by omega))
      have b5 : u5.cell? ⟨w2.heap.size, 0, none⟩ = some (.slice (some ⟨g, 0, none⟩) n q) := HG5.out.cell 0
      clear b0 hb5
      cases y
      · have HNO : Hid (docF sinkF d i = none) := HFQ.out
        go_wp2_with (refine wpList_store_row rfl 29 (.tmp 4) (.tmp 40) rfl (w.heap.size + 1) #[.slice none 0 0] rfl rfl 29 _ HZ5.out docI_info rfl (cells1_one _ _ _) ?_)
        refine bodyPost_ret (v := .tuple #[.agg #[.slice none 0 0], .bool false]) ?_ rfl ⟨.inl ⟨HNO.out, rfl⟩, below_row HB5.out (by omega) _⟩
        rw [results_cell_tmp rfl]
        simp [asAddr, Result.andThen, run_docOf (RowAt.setRow HZ5.out _)]
      · have HYES : Hid (docF sinkF d i = some d') := HFQ.out
        go_wp2_with (refine wpList_store_row rfl 29 (.tmp 4) (.tmp 41) rfl (w.heap.size + 1) #[.slice (some ⟨g, 0, none⟩) n q] rfl rfl 29 _ HZ5.out docI_info rfl (cells1_one _ _ _) ?_)
        refine bodyPost_ret (v := .tuple #[.agg #[.slice (some ⟨g, 0, none⟩) n q], .bool true]) ?_ rfl ⟨.inr ⟨d', some ⟨g, 0, none⟩, q, rbs', HYES.out, by rw [← HLN.out], ?_⟩, below_row HB5.out (by omega) _⟩
        · rw [results_cell_tmp rfl]
          simp [asAddr, Result.andThen, run_docOf (RowAt.setRow HZ5.out _)]
        · have sz : (u5.setRow (w.heap.size + 1) #[.slice (some ⟨g, 0, none⟩) n q]).heap.size = u5.heap.size := by simp [World.setRow]
          rw [sz, ← HLN.out]
          exact (HO5.out.mid (fun b hb hb' => setRow_other _ _ _ _ (by omega))).less (by omega) (by omega)
end Go.Proofs.Ytlpfflcogefbjaa
namespace Go.Proofs.Ytlpfflcogefbjaa
open Go.RowKit

set_option maxRecDepth 100000 in
set_option maxHeartbeats 8000000 in
theorem specDocLift_any {a : Option Addr} {n cap : Nat} {d : List Bl} {z : Int} {w : World} (h : Dc w a n cap d) :
    Calls Try.prog 25 #[.agg #[.slice a n cap], .int .i64 z] w fun e w' => DocRes (docF liftF d z) w.heap.size e w' ∧ Below w.heap.size w w' := by
  unfold DocRes
  have HN : Hid (n = d.length) := h.1
  have hc := h.2.1
  have hm := h.2.2.1
  unfold maxLen at hm
  have H : Hid (Dc w a n cap d) := h
  clear h
  obtain ⟨x, HX⟩ : ∃ x, Hid (itemB d z = x) := ⟨_, rfl⟩
  go_enter Try.func25, Try.ntmps25
  go_upto_region 1 with fail
  have B0 : Below w.heap.size w ((w.alloc (.cells #[.slice a n cap] 29)).alloc (.cells #[.slice none 0 0] 29)) := ((Below.refl _ _).alloc (Nat.le_refl _) _).alloc (by simp) _
  have G0 : RowAt ((w.alloc (.cells #[.slice a n cap] 29)).alloc (.cells #[.slice none 0 0] 29)) w.heap.size #[.slice a n cap] 29 := (rowAt_new w _ _).alloc _
  have G1 : RowAt ((w.alloc (.cells #[.slice a n cap] 29)).alloc (.cells #[.slice none 0 0] 29)) (w.heap.size + 1) #[.slice none 0 0] 29 := by
    have := rowAt_new (w.alloc (.cells #[.slice a n cap] 29)) #[.slice none 0 0] 29
    simpa using this
  generalize ((w.alloc (.cells #[.slice a n cap] 29)).alloc (.cells #[.slice none 0 0] 29)) = v0 at B0 G0 G1 ⊢
  have k0 : v0.cell? ⟨w.heap.size, 0, none⟩ = some (.slice a n cap) := G0.cell 0
  have l0 := G0.lt
  have l1 := G1.lt
  have s0 := B0.size
  have H0 : Hid (RowAt v0 w.heap.size #[.slice a n cap] 29) := G0
  have H1 : Hid (RowAt v0 (w.heap.size + 1) #[.slice none 0 0] 29) := G1
  have HB0 : Hid (Below w.heap.size w v0) := B0
  have HD0 : Hid (Dc v0 a n cap d) := H.out.below B0
  clear G0 G1 B0
  cases x
  · have HNO : Hid (docF liftF d z = none) := no_item HX.out (fun d i h => by unfold liftF; rw [if_neg h])
    go_wp2_with (first | (go_at_call 46; refine (l3Item_is HX.out HD0.out).mono ?_; rintro e w1 ⟨rfl, hb1⟩; have HZ : Hid (RowAt w1 (w.heap.size + 1) #[.slice none 0 0] 29) := H1.out.below hb1 l1) | (refine wpList_store_row rfl 29 (.tmp 4) (.tmp 13) rfl (w.heap.size + 1) #[.slice none 0 0] rfl rfl 29 _ HZ.out docI_info rfl (cells1_one _ _ _) ?_))
    refine bodyPost_ret (v := .tuple #[.agg #[.slice none 0 0], .bool false]) ?_ rfl ⟨.inl ⟨HNO.out, rfl⟩, below_row (HB0.out.trans (hb1.mono s0)) (by omega) _⟩
    rw [results_cell_tmp rfl]
    simp [asAddr, Result.andThen, run_docOf (RowAt.setRow HZ.out _)]
  obtain ⟨hdb, i, rfl, hid, hk2⟩ := item_of HX.out
  obtain ⟨hn8', hall, hou⟩ := docB_parts hdb
  have hn8 : n ≤ 8 := by rw [HN.out]; exact hn8'
  have hin : i < n := by rw [HN.out]; exact hid
  have HDB : Hid (docB d = true) := hdb
  have HALL : Hid (d.all partBB = true) := hall
  have HOU : Hid (outlB d = true) := hou
  have HK2 : Hid ((d.getD i bl0).1 = 2) := hk2
  have HGR : Hid (∀ k, i ≤ k → k < endL d i → (d.getD k bl0).1 = 2 ∧ 0 ≤ (d.getD k bl0).2.1 ∧ (d.getD k bl0).2.1 ≤ 3) := group_items hou hid hk2
  have HFE : Hid (docF liftF d i = (liftF d i).bind fun d' => if outlB d' = true then some d' else none) := by
    show docF liftF d i = _
    unfold docF
    rw [if_pos ⟨hdb, by omega, by omega⟩]
    rfl
  have hEn : endL d i ≤ n := by rw [HN.out]; exact endL_le hid
  have HEB : Hid (endL d i = i + 1 + belL d i) := rfl
  have HV0 : Hid (0 ≤ (d.getD i bl0).2.1) := (group_items hou hid hk2 i (Nat.le_refl _) (by unfold endL; omega)).2.1
  clear hall hou hn8' hk2 hdb
  obtain ⟨E, HE⟩ : ∃ E, Hid (endL d i = E) := ⟨_, rfl⟩
  obtain ⟨bl, HBL⟩ : ∃ b, Hid (belL d i = b) := ⟨_, rfl⟩
  have hEb : E = i + 1 + bl := by rw [← HE.out, ← HBL.out]; exact HEB.out
  rw [HE.out] at hEn HGR
  go_upto_region 3 with (go_at_call 46; refine (l3Item_is HX.out HD0.out).mono ?_; rintro e w1 ⟨rfl, hb1⟩; have k1 := (H0.out.below hb1 l0).cell 0; simp at k1)
  have s1 := hb1.size
  have HA1 : Hid (RowAt w1 w.heap.size #[.slice a n cap] 29) := H0.out.below hb1 l0
  have HZ1 : Hid (RowAt w1 (w.heap.size + 1) #[.slice none 0 0] 29) := H1.out.below hb1 l1
  have HB1 : Hid (Below w.heap.size w w1) := HB0.out.trans (hb1.mono s0)
  have HD1 : Hid (Dc w1 a n cap d) := HD0.out.below hb1
  have HSM : Hid (∀ k, k < d.length → SmB (d.getD k bl0)) := docB_small HDB.out
  clear k0 hb1 H0 H1 HB0 HD0
  go_wp2_with fail
  refine (l3Copy_any HD1.out (by omega) HSM.out).mono ?_
  rintro e w2 ⟨⟨p, q, rbs, rfl, ho2⟩, hb2⟩
  have s2 := hb2.size
  go_upto_region 4 with fail
  have A3 : Below w2.heap.size w2 (w2.alloc (.cells #[.slice p n q] 29)) := (Below.refl _ _).alloc (Nat.le_refl _) _
  have G3 : RowAt (w2.alloc (.cells #[.slice p n q] 29)) w2.heap.size #[.slice p n q] 29 := rowAt_new _ _ _
  have O3 : DocOwn (w2.alloc (.cells #[.slice p n q] 29)) w1.heap.size w2.heap.size (.slice p n q) rbs d := ho2.below (Nat.le_refl _) A3
  have B3 : Below w1.heap.size w1 (w2.alloc (.cells #[.slice p n q] 29)) := hb2.alloc s2 _
  clear k1 ho2 hb2 A3
  generalize w2.alloc (.cells #[.slice p n q] 29) = w3 at G3 O3 B3 ⊢
  have hq1 := O3.dc.2.1
  have hq2 := O3.dc.2.2.1
  unfold maxLen at hq2
  obtain ⟨g, rfl, hg1, hg2, -, -⟩ := docOwn_at O3 hin
  have gE : g < w2.heap.size := O3.2.1 g rfl
  have HG3 : Hid (RowAt w3 w2.heap.size #[.slice (some ⟨g, 0, none⟩) n q] 29) := G3
  have HO3 : Hid (DocOwn w3 w1.heap.size w2.heap.size (.slice (some ⟨g, 0, none⟩) n q) rbs d) := O3
  have HB3 : Hid (Below w1.heap.size w1 w3) := B3
  have zz := G3.lt
  have s3 := B3.size
  have z0 := HA1.out.lt
  have z1 := HZ1.out.lt
  clear G3 O3 B3
  have a0 : w3.cell? ⟨w.heap.size, 0, none⟩ = some (.slice a n cap) := (HA1.out.below HB3.out z0).cell 0
  go_upto_region 5 with (go_at_call 48; refine (l3Below_any (HD1.out.below HB3.out) hin hn8 HK2.out HV0.out).mono ?_; rintro e w4 ⟨rfl, hb4⟩; rw [HBL.out])
  have s4 := hb4.size
  replace HG3 : Hid (RowAt w4 w2.heap.size #[.slice (some ⟨g, 0, none⟩) n q] 29) := HG3.out.below hb4 zz
  replace HO3 : Hid (DocOwn w4 w1.heap.size w2.heap.size (.slice (some ⟨g, 0, none⟩) n q) rbs d) := HO3.out.below (by omega) hb4
  replace HB3 : Hid (Below w1.heap.size w1 w4) := HB3.out.trans (hb4.mono s3)
  clear a0 hb4
  have a0 : w4.cell? ⟨w.heap.size, 0, none⟩ = some (.slice a n cap) := (HA1.out.below HB3.out z0).cell 0
  rcases (HD1.out.below HB3.out).2.2.2 with e | ⟨b, off, rfl, hbl, hcl⟩
  · rw [e] at hid
    exact absurd hid (by simp)
  obtain ⟨ta, tn, tc, ca, cn, cc, hblk⟩ := hcl i hid
  have c1 := hblk.2.1
  obtain ⟨V0, HVV⟩ : ∃ V, Hid ((d.getD i bl0).2.1 = V) := ⟨_, rfl⟩
  rw [HVV.out] at c1
  have hv0 : 0 ≤ V0 := by rw [← HVV.out]; exact HV0.out
  have hii : (i : Int) < (n : Int) := by omega
  have hi0 : (0 : Int) ≤ (i : Int) := by omega
  have HZ4 : Hid (RowAt w4 (w.heap.size + 1) #[.slice none 0 0] 29) := HZ1.out.below HB3.out z1
  have HB4 : Hid (Below w.heap.size w w4) := HB1.out.trans (HB3.out.mono (by omega))
  have hs43 : w3.heap.size ≤ w4.heap.size := s4
  clear hcl hblk
  by_cases hvz : V0 = 0
  · subst hvz
    have HLF : Hid (liftF d i = if E = i + 1 then some (d.set i (1, 0, (d.getD i bl0).2.2.1, 0, 0, [])) else none) := by
      show liftF d i = _
      unfold liftF
      rw [if_pos HK2.out, HVV.out, if_neg (by omega), HE.out]
    by_cases hbp : 0 < bl
    · have hbi : (0 : Int) < (bl : Int) := by omega
      have HNO : Hid (docF liftF d i = none) := by
        show docF liftF d i = none
        rw [HFE.out, HLF.out, if_neg (by omega)]
        rfl
      go_wp2_with (refine wpList_store_row rfl 29 (.tmp 4) (.tmp 28) rfl (w.heap.size + 1) #[.slice none 0 0] rfl rfl 29 _ HZ4.out docI_info rfl (cells1_one _ _ _) ?_)
      refine bodyPost_ret (v := .tuple #[.agg #[.slice none 0 0], .bool false]) ?_ rfl ⟨.inl ⟨HNO.out, rfl⟩, below_row HB4.out (by omega) _⟩
      rw [results_cell_tmp rfl]
      simp [asAddr, Result.andThen, run_docOf (RowAt.setRow HZ4.out _)]
    · have hbi : ¬ (0 : Int) < (bl : Int) := by omega
      obtain ⟨d', HD'⟩ : ∃ d', Hid (d.set i (1, 0, (d.getD i bl0).2.2.1, 0, 0, []) = d') := ⟨_, rfl⟩
      have HLS : Hid (liftF d i = some d') := by
        show liftF d i = some d'
        rw [HLF.out, if_pos (by omega), HD'.out]
      have HYES : Hid (docF liftF d i = some d') := by
        show docF liftF d i = some d'
        rw [HFE.out, HLS.out, Option.bind_some, if_pos (lift_ok HOU.out hid HLS.out)]
      have HSET : Hid (d.set i (1, (d.getD i bl0).2) = d') := by
        show d.set i (1, (d.getD i bl0).2) = d'
        rw [← HD'.out]
        have h2 := List.all_eq_true.1 HALL.out (d.getD i bl0) (by rw [getD_bl hid]; exact List.getElem_mem hid)
        have h3 := HK2.out
        have h4 := HVV.out
        obtain ⟨⟨K, V, t, R, C, l⟩, hx⟩ : ∃ x, x = d.getD i bl0 := ⟨_, rfl⟩
        rw [← hx] at h2 h3 h4 ⊢
        simp only at h3 h4
        subst h3 h4
        obtain ⟨rfl, rfl, rfl⟩ := partBB_item h2
        rfl
      obtain ⟨_, he, -, -, hcs, hfz⟩ := docOwn_at HO3.out hin
      cases he
      have q0 : w4.cell? ⟨g, i * 6, none⟩ = some (.int .i64 (rbs.getD i rb0).1) := hcs 0 (by omega)
      have f0 : w4.frozen? ⟨g, i * 6, none⟩ = false := hfz 0
      have k4 : w4.cell? ⟨w2.heap.size, 0, none⟩ = some (.slice (some ⟨g, 0, none⟩) n q) := HG3.out.cell 0
      have O5 := docOwn_kind HO3.out i hid 1
      rw [HSET.out] at O5
      have HO5 : Hid (DocOwn (w4.setCell ⟨g, i * 6, none⟩ (.int .i64 1)) w1.heap.size w2.heap.size (.slice (some ⟨g, 0, none⟩) n q) (rbs.set i (1, (rbs.getD i rb0).2)) d') := O5
      have G5 : RowAt (w4.setCell ⟨g, i * 6, none⟩ (.int .i64 1)) w2.heap.size #[.slice (some ⟨g, 0, none⟩) n q] 29 := HG3.out.other _ _ (by simp; omega)
      have HZ5 : Hid (RowAt (w4.setCell ⟨g, i * 6, none⟩ (.int .i64 1)) (w.heap.size + 1) #[.slice none 0 0] 29) := HZ4.out.other _ _ (by simp; omega)
      have HB5 : Hid (Below w.heap.size w (w4.setCell ⟨g, i * 6, none⟩ (.int .i64 1))) := HB4.out.setCell (by show _ ≤ g; omega) _
      have sz5 : w3.heap.size ≤ (w4.setCell ⟨g, i * 6, none⟩ (.int .i64 1)).heap.size := by simpa using s4
      clear hcs hfz O5
      go_upto_region 9 with fail
      clear q0 f0 k4 a0 c1
      generalize w4.setCell ⟨g, i * 6, none⟩ (.int .i64 1) = w5 at HO5 G5 HZ5 HB5 sz5 ⊢
      have k5 : w5.cell? ⟨w2.heap.size, 0, none⟩ = some (.slice (some ⟨g, 0, none⟩) n q) := G5.cell 0
      have HLN : Hid (n = d'.length) := HO5.out.len
      go_wp2_with (refine wpList_store_row rfl 29 (.tmp 4) (.tmp 34) rfl (w.heap.size + 1) #[.slice (some ⟨g, 0, none⟩) n q] rfl rfl 29 _ HZ5.out docI_info rfl (cells1_one _ _ _) ?_)
      refine bodyPost_ret (v := .tuple #[.agg #[.slice (some ⟨g, 0, none⟩) n q], .bool true]) ?_ rfl ⟨.inr ⟨d', HYES.out, some ⟨g, 0, none⟩, q, by rw [← HLN.out], rbs.set i (1, (rbs.getD i rb0).2), ?_⟩, below_row HB5.out (by omega) _⟩
      · rw [results_cell_tmp rfl]
        simp [asAddr, Result.andThen, run_docOf (RowAt.setRow HZ5.out _)]
      · have sz : (w5.setRow (w.heap.size + 1) #[.slice (some ⟨g, 0, none⟩) n q]).heap.size = w5.heap.size := by simp [World.setRow]
        rw [sz, ← HLN.out]
        exact (HO5.out.mid (fun b hb hb' => setRow_other _ _ _ _ (by omega))).less (by omega) (by omega)
  have hvb : (V0 == 0) = false := by simp [hvz]
  go_wp2_with fail
  clear a0 c1
  go_loopw [8] (fun mv wr => ∃ (m : Nat) (rbs' : List Rb), i ≤ m ∧ m ≤ E ∧ mv = .int .i64 m ∧ RowAt wr w2.heap.size #[.slice (some ⟨g, 0, none⟩) n q] 29 ∧ DocOwn wr w1.heap.size w2.heap.size (.slice (some ⟨g, 0, none⟩) n q) rbs' (deepTo d i (-1) m) ∧ w3.heap.size ≤ wr.heap.size ∧ Below w1.heap.size w1 wr) (fun mv _ => E - (intOf mv).toNat)
  case atStart => exact ⟨i, rbs, Nat.le_refl _, by omega, rfl, HG3.out, by rw [deepTo_start]; exact HO3.out, s4, HB3.out⟩
  case round =>
    obtain ⟨m, rbs', hm1, hm2, rfl, hG, hO, hs, hB⟩ := hrel
    have HGm : Hid (RowAt wr w2.heap.size #[.slice (some ⟨g, 0, none⟩) n q] 29) := hG
    have HOm : Hid (DocOwn wr w1.heap.size w2.heap.size (.slice (some ⟨g, 0, none⟩) n q) rbs' (deepTo d i (-1) m)) := hO
    have HBm : Hid (Below w1.heap.size w1 wr) := hB
    clear hG hB
    by_cases hlt : m < E
    · have hmd : m < d.length := by have := HN.out; omega
      have hmn : (m : Int) < (n : Int) := by omega
      have hm0 : (0 : Int) ≤ (m : Int) := by omega
      have hle : (m : Int) ≤ (i : Int) + (bl : Int) := by omega
      go_upto_region 13 with fail
      have HBc : Hid (Below w1.heap.size w1 wr) := HBm.out
      have HGc : Hid (RowAt wr w2.heap.size #[.slice (some ⟨g, 0, none⟩) n q] 29) := HGm.out
      have HOc : Hid (DocOwn wr w1.heap.size w2.heap.size (.slice (some ⟨g, 0, none⟩) n q) rbs' (deepTo d i (-1) m)) := HOm.out
      have sc : w3.heap.size ≤ wr.heap.size := hs
      clear HGm HOm HBm
      obtain ⟨_, he, -, -, hcs, hfz⟩ := docOwn_at HOc.out (show m < n by omega)
      cases he
      have hcell := hcs 1 (by omega)
      have hfr := hfz 1
      have hget : (deepTo d i (-1) m).getD m bl0 = d.getD m bl0 := by rw [deepTo_get hmd, if_neg (by omega)]
      have hbv : (rbs'.getD m rb0).2.1 = (d.getD m bl0).2.1 := by
        obtain ⟨lo, mid, hi, h1, -⟩ := HOc.out.2.2.2
        have := (h1 m (by rw [deepTo_len]; exact hmd)).2.2.1.2.1
        rw [hget] at this
        exact this
      obtain ⟨V, HV⟩ : ∃ V, Hid ((d.getD m bl0).2.1 = V) := ⟨_, rfl⟩
      have hc1 : wr.cell? ⟨g, m * 6 + 1, none⟩ = some (.int .i64 V) := by
        have h1 : (rbCells (rbs'.getD m rb0))[1]? = some (.int .i64 (rbs'.getD m rb0).2.1) := rfl
        rw [hcell, h1, hbv, HV.out]
      obtain ⟨-, hv0, hv3⟩ := HGR.out m hm1 hlt
      rw [HV.out] at hv0 hv3
      have HLV : Hid (DocOwn (wr.setCell ⟨g, m * 6 + 1, none⟩ (.int .i64 (V + -1))) w1.heap.size w2.heap.size (.slice (some ⟨g, 0, none⟩) n q) (rbs'.set m ((rbs'.getD m rb0).1, V + -1, (rbs'.getD m rb0).2.2)) (deepTo d i (-1) (m + 1))) := by
        have h1 := docOwn_level HOc.out m (by rw [deepTo_len]; exact hmd) (V + -1)
        rw [hget] at h1
        rw [deepTo_succ hm1]
        have h2 : bump (-1) (d.getD m bl0) = ((d.getD m bl0).1, V + -1, (d.getD m bl0).2.2) := by
          unfold bump
          rw [HV.out]
        rw [h2]
        exact h1
      have HC1 : Hid (wr.cell? ⟨g, m * 6 + 1, none⟩ = some (.int .i64 V)) := hc1
      have HF1 : Hid (wr.frozen? ⟨g, m * 6 + 1, none⟩ = false) := hfr
      clear hcs hfz hcell hfr hget hbv hc1 hO
      refine wp_region_noPanic ?_
      refine wp_region_held_drew (S := fun w' => RowAt w' w2.heap.size #[.slice (some ⟨g, 0, none⟩) n q] 29) (by kernel_rfl) HGc.out.drew (fun hHeld => ?_)
      have HLd : Hid (DocOwn (wr.drew.setCell ⟨g, m * 6 + 1, none⟩ (.int .i64 (V + -1))) w1.heap.size w2.heap.size (.slice (some ⟨g, 0, none⟩) n q) (rbs'.set m ((rbs'.getD m rb0).1, V + -1, (rbs'.getD m rb0).2.2)) (deepTo d i (-1) (m + 1))) := HLV.out
      have HCd : Hid (wr.drew.cell? ⟨g, m * 6 + 1, none⟩ = some (.int .i64 V)) := HC1.out
      have HFd : Hid (wr.drew.frozen? ⟨g, m * 6 + 1, none⟩ = false) := HF1.out
      have HBd : Hid (Below w1.heap.size w1 wr.drew) := HBc.out.drew
      have sd : w3.heap.size ≤ wr.drew.heap.size := sc
      generalize wr.drew = u1 at hHeld HLd HCd HFd HBd sd ⊢
      clear HLV HC1 HF1 HBc sc HGc HOc
      refine take_at 0 43 (.pointer (some ⟨w2.heap.size, 0, none⟩)) rfl rfl (by kernel_rfl) (by kernel_rfl) (by kernel_rfl) (fun _ _ _ h => h) (Or.inl ⟨by kernel_rfl, fun w' hS' => by go_simp⟩) hHeld ?_
      (try simp only [Act.put, List.setIfInBounds_toArray, List.set_cons_zero, List.set_cons_succ])
      refine take_at 1 44 (.slice (some ⟨g, 0, none⟩) n q) rfl rfl (by kernel_rfl) (by kernel_rfl) (by kernel_rfl) (fun _ _ _ h => h) (Or.inl ⟨by kernel_rfl, fun w' hS' => by have hc := RowAt.cell hS' 0; go_simp⟩) hHeld ?_
      (try simp only [Act.put, List.setIfInBounds_toArray, List.set_cons_zero, List.set_cons_succ])
      refine take_at 2 45 (.int .i64 m) rfl rfl (by kernel_rfl) (by kernel_rfl) (by kernel_rfl) (fun _ _ _ h => h) (Or.inl ⟨by kernel_rfl, fun w' hS' => by go_simp⟩) hHeld ?_
      (try simp only [Act.put, List.setIfInBounds_toArray, List.set_cons_zero, List.set_cons_succ])
      refine take_at 3 46 (.pointer (some ⟨w2.heap.size, 0, none⟩)) rfl rfl (by kernel_rfl) (by kernel_rfl) (by kernel_rfl) (fun _ _ _ h => h) (Or.inl ⟨by kernel_rfl, fun w' hS' => by go_simp⟩) hHeld ?_
      (try simp only [Act.put, List.setIfInBounds_toArray, List.set_cons_zero, List.set_cons_succ])
      refine take_at 4 47 (.slice (some ⟨g, 0, none⟩) n q) rfl rfl (by kernel_rfl) (by kernel_rfl) (by kernel_rfl) (fun _ _ _ h => h) (Or.inl ⟨by kernel_rfl, fun w' hS' => by have hc := RowAt.cell hS' 0; go_simp⟩) hHeld ?_
      (try simp only [Act.put, List.setIfInBounds_toArray, List.set_cons_zero, List.set_cons_succ])
      refine take_at 5 48 (.int .i64 m) rfl rfl (by kernel_rfl) (by kernel_rfl) (by kernel_rfl) (fun _ _ _ h => h) (Or.inl ⟨by kernel_rfl, fun w' hS' => by go_simp⟩) hHeld ?_
      (try simp only [Act.put, List.setIfInBounds_toArray, List.set_cons_zero, List.set_cons_succ])
      refine take_at 6 49 (.pointer (some ⟨g, m * 6, none⟩)) rfl rfl (by kernel_rfl) (by kernel_rfl) (by kernel_rfl) (fun _ _ _ h => h) (Or.inl ⟨by kernel_rfl, fun w' hS' => by go_simp⟩) hHeld ?_
      (try simp only [Act.put, List.setIfInBounds_toArray, List.set_cons_zero, List.set_cons_succ])
      refine take_at 7 50 (.pointer (some ⟨g, m * 6 + 1, none⟩)) rfl rfl (by kernel_rfl) (by kernel_rfl) (by kernel_rfl) (fun _ _ _ h => h) (Or.inl ⟨by kernel_rfl, fun w' hS' => by go_simp⟩) hHeld ?_
      (try simp only [Act.put, List.setIfInBounds_toArray, List.set_cons_zero, List.set_cons_succ])
      refine wpAnyH_ready (rs := [8]) (by kernel_rfl) (by simp) ?_
      refine AllReadyH.cons rfl (fun K hK => ?_) AllReadyH.nil
      have d4 := HCd.out
      go_simp
      refine hK.out _ _ hHeld (fun hHeld => ?_)
      clear hK K d4
      (try simp only [Act.put, List.setIfInBounds_toArray, List.set_cons_zero, List.set_cons_succ])
      refine take_at 9 52 (.int .i64 (V + -1)) rfl rfl (by kernel_rfl) (by kernel_rfl) (by kernel_rfl) (fun _ _ _ h => h) (Or.inl ⟨by kernel_rfl, fun w' hS' => by go_simp; rw [IntKind.wrap_i64]; omega⟩) hHeld ?_
      (try simp only [Act.put, List.setIfInBounds_toArray, List.set_cons_zero, List.set_cons_succ])
      refine take_at 10 53 (.pointer (some ⟨g, m * 6, none⟩)) rfl rfl (by kernel_rfl) (by kernel_rfl) (by kernel_rfl) (fun _ _ _ h => h) (Or.inl ⟨by kernel_rfl, fun w' hS' => by go_simp⟩) hHeld ?_
      (try simp only [Act.put, List.setIfInBounds_toArray, List.set_cons_zero, List.set_cons_succ])
      refine take_at 11 54 (.pointer (some ⟨g, m * 6 + 1, none⟩)) rfl rfl (by kernel_rfl) (by kernel_rfl) (by kernel_rfl) (fun _ _ _ h => h) (Or.inl ⟨by kernel_rfl, fun w' hS' => by go_simp⟩) hHeld ?_
      (try simp only [Act.put, List.setIfInBounds_toArray, List.set_cons_zero, List.set_cons_succ])
      refine wpAnyH_ready (rs := [12]) (by kernel_rfl) (by simp) ?_
      refine AllReadyH.cons rfl (fun K hK => ?_) AllReadyH.nil
      have d4 := HCd.out
      have f4 := HFd.out
      rw [if_pos (by kernel_rfl)]
      go_simp
      refine hK.out _ _ (RowAt.other hHeld _ _ (by simp; omega)) (fun hHeld => ?_)
      clear hK K d4 f4
      (try simp only [Act.put])
      refine wpAnyH_done (by kernel_rfl) ?_ _
      refine NoPanic.normal ?_
      have hG9 := hHeld
      clear hHeld
      go_wp2_with fail
      go_roundw
      case rel => exact ⟨m + 1, _, by omega, by omega, by go_num, hG9, HLd.out, by simpa using sd, HBd.out.setCell (p := ⟨g, m * 6 + 1, none⟩) hg1 _⟩
      case measure => simp [intOf]; omega
    · obtain rfl : m = E := by omega
      have hle : ¬ (m : Int) ≤ (i : Int) + (bl : Int) := by omega
      obtain ⟨d', HD'⟩ : ∃ d', Hid (deepL d i (-1) = d') := ⟨_, rfl⟩
      have HDE : Hid (deepTo d i (-1) m = d') := by
        show deepTo d i (-1) m = d'
        rw [← HD'.out, ← HE.out]
        rfl
      have HLS : Hid (liftF d i = some d') := by
        show liftF d i = some d'
        unfold liftF
        rw [if_pos HK2.out, HVV.out, if_pos (by omega), HD'.out]
      have HYES : Hid (docF liftF d i = some d') := by
        show docF liftF d i = some d'
        rw [HFE.out, HLS.out, Option.bind_some, if_pos (lift_ok HOU.out hid HLS.out)]
      have hOE := HOm.out
      rw [HDE.out] at hOE
      have HLN : Hid (n = d'.length) := hOE.len
      have HO5 : Hid (DocOwn wr w1.heap.size w2.heap.size (.slice (some ⟨g, 0, none⟩) n q) rbs' d') := hOE
      have HZ5 : Hid (RowAt wr (w.heap.size + 1) #[.slice none 0 0] 29) := HZ1.out.below HBm.out z1
      have HB5 : Hid (Below w.heap.size w wr) := HB1.out.trans (HBm.out.mono (by omega))
      have b5 : wr.cell? ⟨w2.heap.size, 0, none⟩ = some (.slice (some ⟨g, 0, none⟩) n q) := HGm.out.cell 0
      clear hO hOE
      go_wp2_with (refine wpList_store_row rfl 29 (.tmp 4) (.tmp 55) rfl (w.heap.size + 1) #[.slice (some ⟨g, 0, none⟩) n q] rfl rfl 29 _ HZ5.out docI_info rfl (cells1_one _ _ _) ?_)
      refine bodyPost_ret (v := .tuple #[.agg #[.slice (some ⟨g, 0, none⟩) n q], .bool true]) ?_ rfl ⟨.inr ⟨d', HYES.out, some ⟨g, 0, none⟩, q, by rw [← HLN.out], rbs', ?_⟩, below_row HB5.out (by omega) _⟩
      · rw [results_cell_tmp rfl]
        simp [asAddr, Result.andThen, run_docOf (RowAt.setRow HZ5.out _)]
      · have sz : (wr.setRow (w.heap.size + 1) #[.slice (some ⟨g, 0, none⟩) n q]).heap.size = wr.heap.size := by simp [World.setRow]
        rw [sz, ← HLN.out]
        exact (HO5.out.mid (fun b hb hb' => setRow_other _ _ _ _ (by omega))).less (by omega) (by omega)
end Go.Proofs.Ytlpfflcogefbjaa
namespace Go.Proofs.Ytlpfflcogefbjaa
open Go.RowKit

set_option maxRecDepth 100000 in
set_option maxHeartbeats 16000000 in
theorem lawFnExactDocLift_walk (a : Option Addr) (n cap : Nat) (d : List Bl) (z : Int) (w : World) (h : Dc w a n cap d) (_ : (Lit.int .i64 z).wf = true) :
    Calls Try.prog 7 #[.agg #[.slice a n cap], .int .i64 z] w fun e w' => e = .returned (.bool true) ∧ Below w.heap.size w w' := by
  have H : Hid (Dc w a n cap d) := h
  clear h
  obtain ⟨r, HRR⟩ : ∃ r, Hid (docF liftF d z = r) := ⟨_, rfl⟩
  have HSM : Hid ((r.getD []).length + totD (r.getD []) ≤ 1048576) := by
    have := docF_small (fun {_ _ _} => liftF_form) d z
    rw [HRR.out] at this
    exact this
  obtain ⟨dr, HDR⟩ : ∃ dr, Hid (r.getD [] = dr) := ⟨_, rfl⟩
  obtain ⟨g, HGB⟩ : ∃ g, Hid (r.isSome = g) := ⟨_, rfl⟩
  have hsm : dr.length + totD dr ≤ 1048576 := by
    have := HSM.out
    rw [HDR.out] at this
    exact this
  have HSP : Hid (∀ {a : Option Addr} {n cap : Nat} {u : World}, Dc u a n cap d → Calls Try.prog 25 #[.agg #[.slice a n cap], .int .i64 z] u fun e w' => (∃ p m q rbs, e = .returned (.tuple #[.agg #[.slice p m q], .bool g]) ∧ DocOwn w' u.heap.size w'.heap.size (.slice p m q) rbs dr) ∧ Below u.heap.size u w') := fun hu => (specDocLift_any hu).mono fun e w' hr => by
    obtain ⟨h1, h2⟩ := hr
    rw [HRR.out] at h1
    obtain ⟨p, m, q, rbs, h3, h4⟩ := docRes_of h1
    rw [HGB.out] at h3
    rw [HDR.out] at h4
    exact ⟨⟨p, m, q, rbs, h3, h4⟩, h2⟩
  have HIM : Hid (∀ {a : Option Addr} {n cap : Nat} {u : World}, Dc u a n cap d → Calls Try.prog 26 #[.agg #[.slice a n cap], .int .i64 z] u fun e w' => (∃ p m q rbs, e = .returned (.tuple #[.agg #[.slice p m q], .bool g]) ∧ DocOwn w' u.heap.size w'.heap.size (.slice p m q) rbs dr) ∧ Below u.heap.size u w') := fun hu => (implDocLift_any hu).mono fun e w' hr => by
    obtain ⟨h1, h2⟩ := hr
    rw [HRR.out] at h1
    obtain ⟨p, m, q, rbs, h3, h4⟩ := docRes_of h1
    rw [HGB.out] at h3
    rw [HDR.out] at h4
    exact ⟨⟨p, m, q, rbs, h3, h4⟩, h2⟩
  clear HSM HDR HGB HRR
  have gg : (g != g) = false := by cases g <;> rfl
  go_enter Try.func7, Try.ntmps7
  go_upto_region 1 with fail
  have B0 : Below w.heap.size w (w.alloc (.cells #[.slice a n cap] 24)) := (Below.refl _ _).alloc (Nat.le_refl _) _
  have G0 : RowAt (w.alloc (.cells #[.slice a n cap] 24)) w.heap.size #[.slice a n cap] 24 := rowAt_new w _ _
  generalize (w.alloc (.cells #[.slice a n cap] 24)) = v0 at B0 G0 ⊢
  have k0 : v0.cell? ⟨w.heap.size, 0, none⟩ = some (.slice a n cap) := G0.cell 0
  have z0 := G0.lt
  have HG : Hid (RowAt v0 w.heap.size #[.slice a n cap] 24) := G0
  have T0 : Hid (Dc v0 a n cap d) := H.out.below B0
  clear G0
  go_wp2_with fail
  refine (szDoc_any T0.out).mono ?_
  rintro e w1 ⟨(rfl | ⟨hle, rfl⟩), hb1⟩
  · go_wp2_with fail
    go_ret
    exact ⟨rfl, B0.trans (hb1.mono B0.size)⟩
  have T1 : Hid (Dc w1 a n cap d) := T0.out.below hb1
  have s0 := B0.size
  have s1 := hb1.size
  have HB1 : Hid (Below w.heap.size w w1) := B0.trans (hb1.mono s0)
  have HG1 : Hid (RowAt w1 w.heap.size #[.slice a n cap] 24) := HG.out.below hb1 z0
  have j0 : w1.cell? ⟨w.heap.size, 0, none⟩ = some (.slice a n cap) := HG1.out.cell 0
  have n0 : ¬ (1048576 - (d.length : Int) - (totD d : Nat)) < 0 := by omega
  have z1 : w.heap.size < w1.heap.size := by omega
  clear k0 HG hb1 B0
  go_wp2_with fail
  refine (toDoc_any T1.out hle).mono ?_
  rintro e w2 ⟨⟨b2, r2, rfl, ho2⟩, hb2⟩
  have s2 := hb2.size
  go_wp2_with fail
  refine (HSP.out ho2.dc).mono ?_
  rintro e w3 ⟨⟨p1, m1, q1, rs1, rfl, ho3⟩, hb3⟩
  have s3 := hb3.size
  have b13 : Below w1.heap.size w1 w3 := hb2.trans (hb3.mono s2)
  have T3' : Dc w3 p1 m1 q1 dr := ho3.dc
  clear hb2 hb3 ho2 ho3 j0
  go_upto_region 6 with fail
  have W1 : RowAt (w3.alloc (.cells #[.slice p1 m1 q1] 29)) w3.heap.size #[.slice p1 m1 q1] 29 := rowAt_new _ _ _
  have T1' : Dc (w3.alloc (.cells #[.slice p1 m1 q1] 29)) p1 m1 q1 dr := T3'.below ((Below.refl _ _).alloc (Nat.le_refl _) _)
  have B3 : Below w1.heap.size w1 (w3.alloc (.cells #[.slice p1 m1 q1] 29)) := b13.alloc (by omega) _
  generalize (w3.alloc (.cells #[.slice p1 m1 q1] 29)) = v3 at W1 T1' B3 ⊢
  have zw := W1.lt
  have s4 := B3.size
  have z3 : w.heap.size < v3.heap.size := by omega
  have HG3 : Hid (RowAt v3 w.heap.size #[.slice a n cap] 24) := HG1.out.below B3 z1
  have T3 : Hid (Dc v3 a n cap d) := T1.out.below B3
  have HB3 : Hid (Below w.heap.size w v3) := HB1.out.trans (B3.mono (by omega))
  have HT1 : Hid (Dc v3 p1 m1 q1 dr) := T1'
  have HW1 : Hid (RowAt v3 w3.heap.size #[.slice p1 m1 q1] 29) := W1
  clear W1 T1' T3' B3 b13 HG1 T1 HB1
  have i0 : v3.cell? ⟨w.heap.size, 0, none⟩ = some (.slice a n cap) := HG3.out.cell 0
  go_wp2_with fail
  refine (toDoc_any T3.out hle).mono ?_
  rintro e w4 ⟨⟨b4, r4, rfl, ho4⟩, hb4⟩
  clear i0
  have s5 := hb4.size
  go_upto_region 7 with fail
  have X4 : RowAt (w4.alloc (.cells #[.slice (some ⟨b4, 0, none⟩) n n] 29)) w4.heap.size #[.slice (some ⟨b4, 0, none⟩) n n] 29 := rowAt_new _ _ _
  have O4 : DocOwn (w4.alloc (.cells #[.slice (some ⟨b4, 0, none⟩) n n] 29)) v3.heap.size w4.heap.size (.slice (some ⟨b4, 0, none⟩) n n) r4 d := ho4.below (Nat.le_refl _) ((Below.refl _ _).alloc (Nat.le_refl _) _)
  have B4 : Below v3.heap.size v3 (w4.alloc (.cells #[.slice (some ⟨b4, 0, none⟩) n n] 29)) := hb4.alloc s5 _
  generalize (w4.alloc (.cells #[.slice (some ⟨b4, 0, none⟩) n n] 29)) = v4 at X4 O4 B4 ⊢
  have zx := X4.lt
  have s6 := B4.size
  have HX4 : Hid (RowAt v4 w4.heap.size #[.slice (some ⟨b4, 0, none⟩) n n] 29) := X4
  have HO4 : Hid (DocOwn v4 v3.heap.size w4.heap.size (.slice (some ⟨b4, 0, none⟩) n n) r4 d) := O4
  have HB4 : Hid (Below v3.heap.size v3 v4) := B4
  clear X4 O4 B4 ho4 hb4
  have e0 : v4.cell? ⟨w4.heap.size, 0, none⟩ = some (.slice (some ⟨b4, 0, none⟩) n n) := HX4.out.cell 0
  go_wp2_with fail
  refine (HIM.out HO4.out.dc).mono ?_
  rintro e w5 ⟨⟨p2, m2, q2, rs2, rfl, ho5⟩, hb5⟩
  clear e0
  have s7 := hb5.size
  go_upto_region 8 with fail
  have W5 : RowAt (w5.alloc (.cells #[.slice p2 m2 q2] 29)) w5.heap.size #[.slice p2 m2 q2] 29 := rowAt_new _ _ _
  have O5 : DocOwn (w5.alloc (.cells #[.slice p2 m2 q2] 29)) v4.heap.size w5.heap.size (.slice p2 m2 q2) rs2 dr := ho5.below (Nat.le_refl _) ((Below.refl _ _).alloc (Nat.le_refl _) _)
  have B5 : Below v4.heap.size v4 (w5.alloc (.cells #[.slice p2 m2 q2] 29)) := hb5.alloc s7 _
  generalize (w5.alloc (.cells #[.slice p2 m2 q2] 29)) = v5 at W5 O5 B5 ⊢
  have zg := W5.lt
  have s8 := B5.size
  have HG5 : Hid (RowAt v5 w5.heap.size #[.slice p2 m2 q2] 29) := W5
  have HO5 : Hid (DocOwn v5 v4.heap.size w5.heap.size (.slice p2 m2 q2) rs2 dr) := O5
  have HX5 : Hid (RowAt v5 w4.heap.size #[.slice (some ⟨b4, 0, none⟩) n n] 29) := HX4.out.below B5 zx
  have HP5 : Hid (DocOwn v5 v3.heap.size w4.heap.size (.slice (some ⟨b4, 0, none⟩) n n) r4 d) := HO4.out.below (by omega) B5
  have HB5 : Hid (Below v3.heap.size v3 v5) := HB4.out.trans (B5.mono s6)
  clear W5 O5 B5 ho5 hb5
  have p0 : v5.cell? ⟨w5.heap.size, 0, none⟩ = some (.slice p2 m2 q2) := HG5.out.cell 0
  have q0 : v5.cell? ⟨w3.heap.size, 0, none⟩ = some (.slice p1 m1 q1) := (HW1.out.below HB5.out zw).cell 0
  go_upto_region 10 with (go_at_call 13; refine (eqDoc_same HO5.out.dc (HT1.out.below HB5.out)).mono ?_; rintro e w6 ⟨rfl, hb6⟩)
  have s9 := hb6.size
  clear p0 q0
  have HB6 : Hid (Below v3.heap.size v3 w6) := HB5.out.trans (hb6.mono (by omega))
  have HG6 : Hid (RowAt w6 w5.heap.size #[.slice p2 m2 q2] 29) := HG5.out.below hb6 zg
  have HX6 : Hid (RowAt w6 w4.heap.size #[.slice (some ⟨b4, 0, none⟩) n n] 29) := HX5.out.below hb6 (by omega)
  have HO6 : Hid (DocOwn w6 v4.heap.size w5.heap.size (.slice p2 m2 q2) rs2 dr) := HO5.out.below (by omega) hb6
  have HP6 : Hid (DocOwn w6 v3.heap.size w4.heap.size (.slice (some ⟨b4, 0, none⟩) n n) r4 d) := HP5.out.below (by omega) hb6
  clear hb6
  have e0 : w6.cell? ⟨w4.heap.size, 0, none⟩ = some (.slice (some ⟨b4, 0, none⟩) n n) := HX6.out.cell 0
  have i0 : w6.cell? ⟨w.heap.size, 0, none⟩ = some (.slice a n cap) := (HG3.out.below HB6.out z3).cell 0
  have y6 : w.heap.size < w6.heap.size := by omega
  have z6 : w4.heap.size < w6.heap.size := by omega
  go_wp2_with fail
  go_region_held3 (fun w' => w'.cell? ⟨w.heap.size, 0, none⟩ = some (.slice a n cap) ∧ w'.cell? ⟨w4.heap.size, 0, none⟩ = some (.slice (some ⟨b4, 0, none⟩) n n))
    (first
      | go_keep
      | (go_split_ands
         refine ⟨?_, ?_⟩
         · (rw [hb8.cell (p := ⟨w.heap.size, 0, none⟩) (by have := hb7.size; simp at this; show w.heap.size < _; omega)]; assumption)
         · (rw [hb8.cell (p := ⟨w4.heap.size, 0, none⟩) (by have := hb7.size; simp at this; show w4.heap.size < _; omega)]; assumption))
      | (go_split_ands
         refine ⟨?_, ?_⟩
         · (rw [hb7.cell (p := ⟨w.heap.size, 0, none⟩) (by simpa using y6)]; assumption)
         · (rw [hb7.cell (p := ⟨w4.heap.size, 0, none⟩) (by simpa using z6)]; assumption)))
    ((first
      | (go_at_call 11; refine (toDoc_any ((T3.out.below HB6.out).below (Below.refl _ _).drew) hle).mono ?_; rintro e w7 ⟨⟨b7, r7, rfl, ho7⟩, hb7⟩)
      | (go_at_call 13; refine (eqDoc_same ((HP6.out.dc.below (Below.refl _ _).drew).below hb7) ho7.dc).mono ?_; rintro e w8 ⟨rfl, hb8⟩)))
  have s10 := hb7.size
  simp only [World.size_drew] at s10
  have s11 := hb8.size
  have b68 : Below w6.heap.size w6 w8 := ((Below.refl w6.heap.size w6).drew.trans (hb7.mono (by simp only [World.size_drew]; omega))).trans (hb8.mono (by omega))
  clear e0 i0
  have HB8 : Hid (Below v3.heap.size v3 w8) := HB6.out.trans (b68.mono (by omega))
  have HG8 : Hid (RowAt w8 w5.heap.size #[.slice p2 m2 q2] 29) := HG6.out.below b68 (by omega)
  have HX8 : Hid (RowAt w8 w4.heap.size #[.slice (some ⟨b4, 0, none⟩) n n] 29) := HX6.out.below b68 (by omega)
  have HO8 : Hid (DocOwn w8 v4.heap.size w5.heap.size (.slice p2 m2 q2) rs2 dr) := HO6.out.below (by omega) b68
  have HP8 : Hid (DocOwn w8 v3.heap.size w4.heap.size (.slice (some ⟨b4, 0, none⟩) n n) r4 d) := HP6.out.below (by omega) b68
  clear hb7 hb8 ho7 b68
  have e0 : w8.cell? ⟨w4.heap.size, 0, none⟩ = some (.slice (some ⟨b4, 0, none⟩) n n) := HX8.out.cell 0
  go_wp2_with fail
  refine (markDoc_over HP8.out (by omega) (by omega) (by omega) (by omega) hle).mono ?_
  rintro e w9 ⟨rfl, -, hb9, hov⟩
  have s12 := hb9.size
  clear e0
  have HB9 : Hid (Below v3.heap.size v3 w9) := HB8.out.trans hb9
  have HG9 : Hid (RowAt w9 w5.heap.size #[.slice p2 m2 q2] 29) := (hov w5.heap.size (by omega) (by omega)).trans HG8.out
  have HO9 : Hid (DocOwn w9 v4.heap.size w5.heap.size (.slice p2 m2 q2) rs2 dr) := HO8.out.mid (fun b hb hb' => hov b (by omega) (by omega))
  clear hb9 hov
  obtain ⟨K, HK⟩ : ∃ K, Hid (kD 1 d d.length = K) := ⟨_, rfl⟩
  have kge : 0 ≤ K := by rw [← HK.out]; exact kD_ge d _ (by omega)
  rw [HK.out]
  have nk : ¬ K < 0 := by omega
  have p0 : w9.cell? ⟨w5.heap.size, 0, none⟩ = some (.slice p2 m2 q2) := HG9.out.cell 0
  have q0 : w9.cell? ⟨w3.heap.size, 0, none⟩ = some (.slice p1 m1 q1) := (HW1.out.below HB9.out zw).cell 0
  go_upto_region 16 with (go_at_call 13; refine (eqDoc_same HO9.out.dc (HT1.out.below HB9.out)).mono ?_; rintro e w10 ⟨rfl, hb10⟩)
  have s13 := hb10.size
  clear p0 q0
  have HB10 : Hid (Below v3.heap.size v3 w10) := HB9.out.trans (hb10.mono (by omega))
  have HG10 : Hid (RowAt w10 w5.heap.size #[.slice p2 m2 q2] 29) := HG9.out.below hb10 (by omega)
  have HO10 : Hid (DocOwn w10 v4.heap.size w5.heap.size (.slice p2 m2 q2) rs2 dr) := HO9.out.below (by omega) hb10
  clear hb10
  have p0 : w10.cell? ⟨w5.heap.size, 0, none⟩ = some (.slice p2 m2 q2) := HG10.out.cell 0
  go_wp2_with fail
  refine (markDoc_over HO10.out (by omega) (by omega) (by omega) (by omega) hsm).mono ?_
  rintro e w11 ⟨rfl, ⟨rs4, ho11⟩, hb11, hov11⟩
  have s14 := hb11.size
  clear p0
  have HB11 : Hid (Below v3.heap.size v3 w11) := HB10.out.trans (hb11.mono (by omega))
  have HG11 : Hid (RowAt w11 w5.heap.size #[.slice p2 m2 q2] 29) := (hov11 w5.heap.size (Nat.le_refl _) (by omega)).trans HG10.out
  have HM11 : Hid (Dc w11 p2 m2 q2 (markTo 1 dr dr.length)) := ho11.dc
  clear ho11 hb11 hov11
  obtain ⟨M, HM⟩ : ∃ M, Hid (kD 1 dr dr.length = M) := ⟨_, rfl⟩
  have mge : 0 ≤ M := by rw [← HM.out]; exact kD_ge dr _ (by omega)
  rw [HM.out]
  have nm : ¬ M < 0 := by omega
  have ne : (M != M) = false := by simp
  have p0 : w11.cell? ⟨w5.heap.size, 0, none⟩ = some (.slice p2 m2 q2) := HG11.out.cell 0
  go_wp2_with fail
  refine (heldDoc_any HM11.out (by omega) (by omega) hsm).mono ?_
  rintro e w12 ⟨rfl, hb12⟩
  have s15 := hb12.size
  rw [HM.out]
  clear p0
  have HB12 : Hid (Below v3.heap.size v3 w12) := HB11.out.trans (hb12.mono (by omega))
  have HG12 : Hid (RowAt w12 w5.heap.size #[.slice p2 m2 q2] 29) := HG11.out.below hb12 (by omega)
  have HM12 : Hid (Dc w12 p2 m2 q2 (markTo 1 dr dr.length)) := HM11.out.below hb12
  clear hb12
  have i0 : w12.cell? ⟨w.heap.size, 0, none⟩ = some (.slice a n cap) := (HG3.out.below HB12.out z3).cell 0
  go_wp2_with fail
  refine (toDoc_any (T3.out.below HB12.out) hle).mono ?_
  rintro e w13 ⟨⟨b13, r13, rfl, ho13⟩, hb13⟩
  have s16 := hb13.size
  go_wp2_with fail
  refine (HIM.out ho13.dc).mono ?_
  rintro e w14 ⟨⟨p3, m3, q3, rs3, rfl, ho14⟩, hb14⟩
  have s17 := hb14.size
  have b24 : Below w12.heap.size w12 w14 := hb13.trans (hb14.mono s16)
  have T14' : Dc w14 p3 m3 q3 dr := ho14.dc
  clear hb13 hb14 ho13 ho14 i0
  go_upto_region 25 with fail
  have W14 : RowAt (w14.alloc (.cells #[.slice p3 m3 q3] 29)) w14.heap.size #[.slice p3 m3 q3] 29 := rowAt_new _ _ _
  have T14 : Dc (w14.alloc (.cells #[.slice p3 m3 q3] 29)) p3 m3 q3 dr := T14'.below ((Below.refl _ _).alloc (Nat.le_refl _) _)
  have B14 : Below w12.heap.size w12 (w14.alloc (.cells #[.slice p3 m3 q3] 29)) := b24.alloc (by omega) _
  generalize (w14.alloc (.cells #[.slice p3 m3 q3] 29)) = v14 at W14 T14 B14 ⊢
  have zh := W14.lt
  have s18 := B14.size
  have HW14 : Hid (RowAt v14 w14.heap.size #[.slice p3 m3 q3] 29) := W14
  have HT14 : Hid (Dc v14 p3 m3 q3 dr) := T14
  have HG14 : Hid (RowAt v14 w5.heap.size #[.slice p2 m2 q2] 29) := HG12.out.below B14 (by omega)
  have HM14 : Hid (Dc v14 p2 m2 q2 (markTo 1 dr dr.length)) := HM12.out.below B14
  have HB14 : Hid (Below v3.heap.size v3 v14) := HB12.out.trans (B14.mono (by omega))
  clear W14 T14 B14 T14' b24
  have p0 : v14.cell? ⟨w14.heap.size, 0, none⟩ = some (.slice p3 m3 q3) := HW14.out.cell 0
  have q0 : v14.cell? ⟨w3.heap.size, 0, none⟩ = some (.slice p1 m1 q1) := (HW1.out.below HB14.out zw).cell 0
  go_upto_region 27 with (go_at_call 13; refine (eqDoc_same HT14.out (HT1.out.below HB14.out)).mono ?_; rintro e w15 ⟨rfl, hb15⟩)
  have s19 := hb15.size
  clear p0 q0
  have HG15 : Hid (RowAt w15 w5.heap.size #[.slice p2 m2 q2] 29) := HG14.out.below hb15 (by omega)
  have HM15 : Hid (Dc w15 p2 m2 q2 (markTo 1 dr dr.length)) := HM14.out.below hb15
  have p0 : w15.cell? ⟨w5.heap.size, 0, none⟩ = some (.slice p2 m2 q2) := HG15.out.cell 0
  go_wp2_with fail
  refine (heldDoc_any HM15.out (by omega) (by omega) hsm).mono ?_
  rintro e w16 ⟨rfl, hb16⟩
  rw [HM.out]
  clear p0
  go_wp2_with fail
  go_ret
  exact ⟨rfl, ((HB3.out.trans (HB14.out.mono (by omega))).trans (hb15.mono (by omega))).trans (hb16.mono (by omega))⟩
end Go.Proofs.Ytlpfflcogefbjaa
