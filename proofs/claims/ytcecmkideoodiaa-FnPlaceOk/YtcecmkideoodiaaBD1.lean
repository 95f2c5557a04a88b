import Derived.Test.YtcecmkideoodiaaBA5
namespace Go.Proofs.Ytcecmkideoodiaa
open Go.RowKit

set_option maxRecDepth 100000 in
set_option maxHeartbeats 16000000 in
theorem drDrawPlaceOk_any (B : Nat) (a : Option Addr) (n cap : Nat) (zs : List Int) (w : World) (h : Byt B w a n cap zs) (hB : B ≤ w.heap.size) :
    Calls Try.prog 7 #[.slice a n cap] w fun e w' => (∃ (a' : Option Addr) (m' c' : Nat) (d' : List Bl) (pb pc pa : Int), e = .returned (.tuple #[.agg #[.slice a' m' c'], .agg #[.int .i64 pb, .int .i64 pc, .int .i64 pa]]) ∧ Dc w' a' m' c' d' ∧ DocSp d' ∧ (-1 ≤ pb ∧ pb ≤ 9) ∧ (-1 ≤ pc ∧ pc ≤ 30) ∧ (-1 ≤ pa ∧ pa ≤ 30)) ∧ Below w.heap.size w w' := by
  have HY : Hid (Byt B w a n cap zs) := h
  clear h
  go_enter Try.func7, Try.ntmps7
  go_upto_region 1 with fail
  have B0 : Below w.heap.size w ((w.alloc (.cells #[.slice none 0 0] 25)).alloc (.cells #[.int .i64 0, .int .i64 0, .int .i64 0] 27)) := ((Below.refl _ _).alloc (Nat.le_refl _) _).alloc (by simp) _
  have Z0 : RowAt ((w.alloc (.cells #[.slice none 0 0] 25)).alloc (.cells #[.int .i64 0, .int .i64 0, .int .i64 0] 27)) w.heap.size #[.slice none 0 0] 25 := (rowAt_new _ _ _).alloc _
  have P0 : RowAt ((w.alloc (.cells #[.slice none 0 0] 25)).alloc (.cells #[.int .i64 0, .int .i64 0, .int .i64 0] 27)) (w.heap.size + 1) #[.int .i64 0, .int .i64 0, .int .i64 0] 27 := by
    have := rowAt_new (w.alloc (.cells #[.slice none 0 0] 25)) #[.int .i64 0, .int .i64 0, .int .i64 0] 27
    simpa using this
  have HY0 : Hid (Byt B ((w.alloc (.cells #[.slice none 0 0] 25)).alloc (.cells #[.int .i64 0, .int .i64 0, .int .i64 0] 27)) a n cap zs) := HY.out.belowC B0 hB
  generalize ((w.alloc (.cells #[.slice none 0 0] 25)).alloc (.cells #[.int .i64 0, .int .i64 0, .int .i64 0] 27)) = v0 at B0 Z0 P0 HY0 ⊢
  have s0 := B0.size
  have zz := P0.lt
  go_wp2_with fail
  refine (l6Open_any B a n cap zs _ HY0.out (by omega)).mono ?_
  rintro e w1 ⟨rfl, hr1, hb1⟩
  have s1 := hb1.size
  have HR1 : Hid (Rd B w1 v0.heap.size 0) := hr1
  have hlt := hr1.lt
  clear hr1
  obtain ⟨g, hg⟩ : ∃ g, v0.heap.size = g := ⟨_, rfl⟩
  have HB1 : Hid (Below w.heap.size w w1) := B0.trans (hb1.mono s0)
  have HZ1 : Hid (RowAt w1 w.heap.size #[.slice none 0 0] 25) := Z0.below hb1 (by omega)
  have HP1 : Hid (RowAt w1 (w.heap.size + 1) #[.int .i64 0, .int .i64 0, .int .i64 0] 27) := P0.below hb1 (by omega)
  rw [hg] at HR1 hlt s1 zz ⊢
  have hgw : w.heap.size + 1 < g := by omega
  clear B0 Z0 P0 HY0 HY hb1 hg
  go_wp2_with fail
  refine (l71Some_any B g 0 _ HR1.out (by omega)).mono ?_
  rintro e w2 ⟨a, m, c, d, q, rfl, ⟨rbs, hX⟩, hS, hr2, hq, hf2⟩
  have s2 := hf2.size
  have HZ2 : Hid (RowAt w2 w.heap.size #[.slice none 0 0] 25) := HZ1.out.fr hf2 (by omega)
  have HP2 : Hid (RowAt w2 (w.heap.size + 1) #[.int .i64 0, .int .i64 0, .int .i64 0] 27) := HP1.out.fr hf2 (by omega)
  have HB2 : Hid (Below w.heap.size w w2) := HB1.out.trans (below_of_frG hf2 (by have := HB1.out.size; omega) (by omega))
  have HS : Hid (DocSp d) := hS
  have HX2 : Hid (DocX w2 w1.heap.size (.slice a m c) rbs d) := hX
  have HR2 : Hid (Rd B w2 g q) := hr2
  have hm9 : m ≤ 9 := by rw [hX.len]; exact hS.1
  have hmc : m ≤ c := hX.dc.2.1
  have hmm : c ≤ maxLen := hX.dc.2.2.1
  unfold maxLen at hmm
  clear hX hS hr2 hf2 HZ1 HP1 HB1 HR1
  go_upto_region 3 with fail
  have T3 : RowAt (w2.alloc (.cells #[.slice a m c] 25)) w2.heap.size #[.slice a m c] 25 := rowAt_new _ _ _
  have HX3 : Hid (DocX (w2.alloc (.cells #[.slice a m c] 25)) w1.heap.size (.slice a m c) rbs d) := HX2.out.alloc _
  have HZ3 : Hid (RowAt (w2.alloc (.cells #[.slice a m c] 25)) w.heap.size #[.slice none 0 0] 25) := HZ2.out.alloc _
  have HP3 : Hid (RowAt (w2.alloc (.cells #[.slice a m c] 25)) (w.heap.size + 1) #[.int .i64 0, .int .i64 0, .int .i64 0] 27) := HP2.out.alloc _
  have HB3 : Hid (Below w.heap.size w (w2.alloc (.cells #[.slice a m c] 25))) := HB2.out.alloc (by omega) _
  have HR3 : Hid (Rd B (w2.alloc (.cells #[.slice a m c] 25)) g q) := HR2.out.alloc _
  have zT := T3.lt
  generalize (w2.alloc (.cells #[.slice a m c] 25)) = v3 at T3 HX3 HZ3 HP3 HB3 HR3 zT ⊢
  obtain ⟨X, hX⟩ : ∃ X, w2.heap.size = X := ⟨_, rfl⟩
  rw [hX] at T3 zT s2 ⊢
  have hXg : g < X := by omega
  have sB3 := HB3.out.size
  have HT3 : Hid (RowAt v3 X #[.slice a m c] 25) := T3
  clear T3 hX HX2 HZ2 HP2 HB2 HR2
  have kT : v3.cell? ⟨X, 0, none⟩ = some (.slice a m c) := HT3.out.cell 0
  go_wp2_with fail
  refine (l71Place_any B g q _ a m c d _ HR3.out (by omega) ⟨rbs, HX3.out⟩ (by omega) HS.out).mono ?_
  rintro _ w4 ⟨pb, pc, pa, q', rfl, hpb, hpc, hpa, hr, hq', hf⟩
  have s4 := hf.size
  have HZ4 : Hid (RowAt w4 w.heap.size #[.slice none 0 0] 25) := HZ3.out.fr hf (by omega)
  have HP4 : Hid (RowAt w4 (w.heap.size + 1) #[.int .i64 0, .int .i64 0, .int .i64 0] 27) := HP3.out.fr hf (by omega)
  have HX4 : Hid (DocX w4 w1.heap.size (.slice a m c) rbs d) := HX3.out.fr hf (by omega)
  have HT4 : Hid (RowAt w4 X #[.slice a m c] 25) := HT3.out.fr hf (by omega)
  have HR4 : Hid (Rd B w4 g q') := hr
  have HB4 : Hid (Below w.heap.size w w4) := HB3.out.trans (below_of_frG hf (by omega) (by omega))
  clear hr hf kT HZ3 HP3 HX3 HT3 HR3 HB3
  go_upto_region 4 with fail
  have F5 : Fr w4.heap.size g w4 (w4.alloc (.cells #[.int .i64 pb, .int .i64 pc, .int .i64 pa] 27)) := (Fr.refl _ _ _).alloc (Nat.le_refl _) _
  have G5 : RowAt (w4.alloc (.cells #[.int .i64 pb, .int .i64 pc, .int .i64 pa] 27)) w4.heap.size #[.int .i64 pb, .int .i64 pc, .int .i64 pa] 27 := rowAt_new _ _ _
  have HR5 : Hid (Rd B (w4.alloc (.cells #[.int .i64 pb, .int .i64 pc, .int .i64 pa] 27)) g q') := HR4.out.alloc _
  generalize (w4.alloc (.cells #[.int .i64 pb, .int .i64 pc, .int .i64 pa] 27)) = v5 at F5 G5 HR5 ⊢
  have z5 := G5.lt
  obtain ⟨XQ, hXQ⟩ : ∃ X, w4.heap.size = X := ⟨_, rfl⟩
  rw [hXQ] at G5 z5 F5 s4 ⊢
  have HF5 : Hid (Fr XQ g w4 v5) := F5
  have HG5 : Hid (RowAt v5 XQ #[.int .i64 pb, .int .i64 pc, .int .i64 pa] 27) := G5
  clear F5 G5
  go_wp2_with fail
  refine (pick_any B g q' 8 _ HR5.out (by omega) (by omega) (by omega)).mono ?_
  rintro e v6 ⟨x, rfl, hx0, hx1, hr, hgw⟩
  have hf := fr_grown hgw
  have s6 := hf.size
  have HF6 : Hid (Fr XQ g w4 v6) := HF5.out.trans (hf.mono (by omega))
  have HG6 : Hid (RowAt v6 XQ #[.int .i64 pb, .int .i64 pc, .int .i64 pa] 27) := HG5.out.fr hf (by omega)
  clear hf hr hgw HF5 HG5 HR5
  have hXX : X < XQ := by omega
  by_cases hx : x = 0
  · subst hx
    have kq2 : v6.cell? ⟨XQ, 2, none⟩ = some (.int .i64 pa) := HG6.out.cell 2
    have fq2 := RowAt.frozen HG6.out 2
    have hw : IntKind.i64.wrap (pa + 1) = pa + 1 := by rw [IntKind.wrap_i64]; omega
    go_upto_region 11 with fail
    have HFv7 : Hid (Fr XQ g w4 (v6.setCell ⟨XQ, 2, none⟩ (.int .i64 (pa + 1)))) := HF6.out.setCell (by show XQ ≤ XQ; omega) _
    have HGv7 : Hid (RowAt (v6.setCell ⟨XQ, 2, none⟩ (.int .i64 (pa + 1))) XQ #[.int .i64 pb, .int .i64 pc, .int .i64 (pa + 1)] 27) := RowAt.setCell HG6.out 2 _
    clear kq2 fq2
    generalize (v6.setCell ⟨XQ, 2, none⟩ (.int .i64 (pa + 1))) = v7 at HFv7 HGv7 ⊢
    have HXv7 : Hid (DocX v7 w1.heap.size (.slice a m c) rbs d) := HX4.out.fr (by rw [hXQ]; exact HFv7.out) (by omega)
    have HZv7 : Hid (RowAt v7 w.heap.size #[.slice none 0 0] 25) := HZ4.out.fr (by rw [hXQ]; exact HFv7.out) (by omega)
    have HPv7 : Hid (RowAt v7 (w.heap.size + 1) #[.int .i64 0, .int .i64 0, .int .i64 0] 27) := HP4.out.fr (by rw [hXQ]; exact HFv7.out) (by omega)
    have HTv7 : Hid (RowAt v7 X #[.slice a m c] 25) := HT4.out.fr (by rw [hXQ]; exact HFv7.out) (by omega)
    have HBv7 : Hid (Below w.heap.size w v7) := HB4.out.trans (below_of_frG (by rw [hXQ]; exact HFv7.out) (by omega) (by omega))
    clear HX4 HZ4 HP4 HT4 HB4
    refine wp_region_noPanic ?_
    refine wp_region_held_drew (S := fun w' => RowAt w' X #[.slice a m c] 25 ∧ RowAt w' XQ #[.int .i64 pb, .int .i64 pc, .int .i64 (pa + 1)] 27) (by kernel_rfl) ⟨HTv7.out, HGv7.out⟩ (fun hHeld => ?_)
    have HXu0 : Hid (DocX v7.drew w1.heap.size (.slice a m c) rbs d) := HXv7.out.below (Below.refl _ _).drew
    have HZu0 : Hid (RowAt v7.drew w.heap.size #[.slice none 0 0] 25) := HZv7.out.drew
    have HPu0 : Hid (RowAt v7.drew (w.heap.size + 1) #[.int .i64 0, .int .i64 0, .int .i64 0] 27) := HPv7.out.drew
    have HBu0 : Hid (Below w.heap.size w v7.drew) := HBv7.out.drew
    generalize v7.drew = u0 at HXu0 HZu0 HPu0 HBu0 hHeld ⊢
    clear HXv7 HZv7 HPv7 HTv7 HGv7 HBv7
    refine take_at 0 34 (.agg #[.slice a m c]) rfl rfl (by kernel_rfl) (by kernel_rfl) (by kernel_rfl) (fun _ _ _ h => h) (yieldsIf_load_row (by kernel_rfl) 25 (.tmp 5) rfl X rfl 25 #[.slice a m c] (0, 0) _ (fun w' h => h.1) Try.underlying25 rfl drdoc_info) hHeld ?_
    (try simp only [Act.put, List.setIfInBounds_toArray, List.set_cons_zero, List.set_cons_succ])
    refine take_at 1 35 (.agg #[.int .i64 pb, .int .i64 pc, .int .i64 (pa + 1)]) rfl rfl (by kernel_rfl) (by kernel_rfl) (by kernel_rfl) (fun _ _ _ h => h) (yieldsIf_load_row (by kernel_rfl) 27 (.tmp 6) rfl XQ rfl 27 #[.int .i64 pb, .int .i64 pc, .int .i64 (pa + 1)] (0, 0) _ (fun w' h => h.2) Try.underlying27 rfl drpl_info) hHeld ?_
    (try simp only [Act.put, List.setIfInBounds_toArray, List.set_cons_zero, List.set_cons_succ])
    refine wpAnyH_ready (rs := [2]) (by kernel_rfl) (by simp) ?_
    refine AllReadyH.cons rfl (fun K hK => ?_) AllReadyH.nil
    rw [if_pos (by kernel_rfl)]
    refine wp_store_row 25 (.tmp 2) (.tmp 34) rfl w.heap.size #[.slice a m c] rfl rfl 25 _ HZu0.out drdoc_info rfl (drcells1_one _ _ _) ?_
    refine hK.out _ _ ⟨hHeld.1.fr (fr_set _ _ _) (by omega), hHeld.2.fr (fr_set _ _ _) (by omega)⟩ (fun hHeld => ?_)
    clear hK K
    (try simp only [Act.put])
    have fs := fr_set u0 w.heap.size #[.slice a m c]
    have HZu1 : Hid (RowAt (u0.setRow w.heap.size #[.slice a m c]) w.heap.size #[.slice a m c] 25) := HZu0.out.setRow _
    have HPu1 : Hid (RowAt (u0.setRow w.heap.size #[.slice a m c]) (w.heap.size + 1) #[.int .i64 0, .int .i64 0, .int .i64 0] 27) := HPu0.out.fr fs (by omega)
    have HXu1 : Hid (DocX (u0.setRow w.heap.size #[.slice a m c]) w1.heap.size (.slice a m c) rbs d) := HXu0.out.fr fs (by omega)
    have HBu1 : Hid (Below w.heap.size w (u0.setRow w.heap.size #[.slice a m c])) := below_row HBu0.out (by omega) _
    generalize (u0.setRow w.heap.size #[.slice a m c]) = u1 at HZu1 HPu1 HXu1 HBu1 hHeld ⊢
    clear fs HZu0 HPu0 HXu0 HBu0
    refine wpAnyH_ready (rs := [3]) (by kernel_rfl) (by simp) ?_
    refine AllReadyH.cons rfl (fun K hK => ?_) AllReadyH.nil
    rw [if_pos (by kernel_rfl)]
    refine wp_store_row 27 (.tmp 3) (.tmp 35) rfl (w.heap.size + 1) #[.int .i64 pb, .int .i64 pc, .int .i64 (pa + 1)] rfl rfl 27 _ HPu1.out drpl_info rfl (drpl_ones _ _ _) ?_
    refine hK.out _ _ ⟨hHeld.1.fr (fr_set _ _ _) (by omega), hHeld.2.fr (fr_set _ _ _) (by omega)⟩ (fun hHeld => ?_)
    clear hK K
    (try simp only [Act.put])
    have fs := fr_set u1 (w.heap.size + 1) #[.int .i64 pb, .int .i64 pc, .int .i64 (pa + 1)]
    have HPu2 : Hid (RowAt (u1.setRow (w.heap.size + 1) #[.int .i64 pb, .int .i64 pc, .int .i64 (pa + 1)]) (w.heap.size + 1) #[.int .i64 pb, .int .i64 pc, .int .i64 (pa + 1)] 27) := HPu1.out.setRow _
    have HZu2 : Hid (RowAt (u1.setRow (w.heap.size + 1) #[.int .i64 pb, .int .i64 pc, .int .i64 (pa + 1)]) w.heap.size #[.slice a m c] 25) := HZu1.out.fr fs (by omega)
    have HXu2 : Hid (DocX (u1.setRow (w.heap.size + 1) #[.int .i64 pb, .int .i64 pc, .int .i64 (pa + 1)]) w1.heap.size (.slice a m c) rbs d) := HXu1.out.fr fs (by omega)
    have HBu2 : Hid (Below w.heap.size w (u1.setRow (w.heap.size + 1) #[.int .i64 pb, .int .i64 pc, .int .i64 (pa + 1)])) := below_row HBu1.out (by omega) _
    generalize (u1.setRow (w.heap.size + 1) #[.int .i64 pb, .int .i64 pc, .int .i64 (pa + 1)]) = u2 at HZu2 HPu2 HXu2 HBu2 hHeld ⊢
    clear fs HZu1 HPu1 HXu1 HBu1
    refine wpAnyH_done (by kernel_rfl) ?_ _
    refine NoPanic.normal ?_
    go_wp2_with fail
    exact bodyPost_ret (v := .tuple #[.agg #[.slice a m c], .agg #[.int .i64 pb, .int .i64 pc, .int .i64 (pa + 1)]]) (results_cell2 (p := 2) (q := 3) (ty := 25) (tz := 27) rfl _ _ _ w.heap.size (w.heap.size + 1) _ _ rfl (run_docP HZu2.out) rfl (run_place HPu2.out)) rfl ⟨⟨a, m, c, d, _, _, _, rfl, HXu2.out.dc, HS.out, by omega, by omega, by omega⟩, HBu2.out⟩
  by_cases hx' : x = 1
  · have hx := hx'
    clear hx'
    subst hx
    have kq1 : v6.cell? ⟨XQ, 1, none⟩ = some (.int .i64 pc) := HG6.out.cell 1
    have fq1 := RowAt.frozen HG6.out 1
    have hw : IntKind.i64.wrap (pc + 1) = pc + 1 := by rw [IntKind.wrap_i64]; omega
    go_upto_region 11 with fail
    have HFv7 : Hid (Fr XQ g w4 (v6.setCell ⟨XQ, 1, none⟩ (.int .i64 (pc + 1)))) := HF6.out.setCell (by show XQ ≤ XQ; omega) _
    have HGv7 : Hid (RowAt (v6.setCell ⟨XQ, 1, none⟩ (.int .i64 (pc + 1))) XQ #[.int .i64 pb, .int .i64 (pc + 1), .int .i64 pa] 27) := RowAt.setCell HG6.out 1 _
    clear kq1 fq1
    generalize (v6.setCell ⟨XQ, 1, none⟩ (.int .i64 (pc + 1))) = v7 at HFv7 HGv7 ⊢
    have HXv7 : Hid (DocX v7 w1.heap.size (.slice a m c) rbs d) := HX4.out.fr (by rw [hXQ]; exact HFv7.out) (by omega)
    have HZv7 : Hid (RowAt v7 w.heap.size #[.slice none 0 0] 25) := HZ4.out.fr (by rw [hXQ]; exact HFv7.out) (by omega)
    have HPv7 : Hid (RowAt v7 (w.heap.size + 1) #[.int .i64 0, .int .i64 0, .int .i64 0] 27) := HP4.out.fr (by rw [hXQ]; exact HFv7.out) (by omega)
    have HTv7 : Hid (RowAt v7 X #[.slice a m c] 25) := HT4.out.fr (by rw [hXQ]; exact HFv7.out) (by omega)
    have HBv7 : Hid (Below w.heap.size w v7) := HB4.out.trans (below_of_frG (by rw [hXQ]; exact HFv7.out) (by omega) (by omega))
    clear HX4 HZ4 HP4 HT4 HB4
    refine wp_region_noPanic ?_
    refine wp_region_held_drew (S := fun w' => RowAt w' X #[.slice a m c] 25 ∧ RowAt w' XQ #[.int .i64 pb, .int .i64 (pc + 1), .int .i64 pa] 27) (by kernel_rfl) ⟨HTv7.out, HGv7.out⟩ (fun hHeld => ?_)
    have HXu0 : Hid (DocX v7.drew w1.heap.size (.slice a m c) rbs d) := HXv7.out.below (Below.refl _ _).drew
    have HZu0 : Hid (RowAt v7.drew w.heap.size #[.slice none 0 0] 25) := HZv7.out.drew
    have HPu0 : Hid (RowAt v7.drew (w.heap.size + 1) #[.int .i64 0, .int .i64 0, .int .i64 0] 27) := HPv7.out.drew
    have HBu0 : Hid (Below w.heap.size w v7.drew) := HBv7.out.drew
    generalize v7.drew = u0 at HXu0 HZu0 HPu0 HBu0 hHeld ⊢
    clear HXv7 HZv7 HPv7 HTv7 HGv7 HBv7
    refine take_at 0 34 (.agg #[.slice a m c]) rfl rfl (by kernel_rfl) (by kernel_rfl) (by kernel_rfl) (fun _ _ _ h => h) (yieldsIf_load_row (by kernel_rfl) 25 (.tmp 5) rfl X rfl 25 #[.slice a m c] (0, 0) _ (fun w' h => h.1) Try.underlying25 rfl drdoc_info) hHeld ?_
    (try simp only [Act.put, List.setIfInBounds_toArray, List.set_cons_zero, List.set_cons_succ])
    refine take_at 1 35 (.agg #[.int .i64 pb, .int .i64 (pc + 1), .int .i64 pa]) rfl rfl (by kernel_rfl) (by kernel_rfl) (by kernel_rfl) (fun _ _ _ h => h) (yieldsIf_load_row (by kernel_rfl) 27 (.tmp 6) rfl XQ rfl 27 #[.int .i64 pb, .int .i64 (pc + 1), .int .i64 pa] (0, 0) _ (fun w' h => h.2) Try.underlying27 rfl drpl_info) hHeld ?_
    (try simp only [Act.put, List.setIfInBounds_toArray, List.set_cons_zero, List.set_cons_succ])
    refine wpAnyH_ready (rs := [2]) (by kernel_rfl) (by simp) ?_
    refine AllReadyH.cons rfl (fun K hK => ?_) AllReadyH.nil
    rw [if_pos (by kernel_rfl)]
    refine wp_store_row 25 (.tmp 2) (.tmp 34) rfl w.heap.size #[.slice a m c] rfl rfl 25 _ HZu0.out drdoc_info rfl (drcells1_one _ _ _) ?_
    refine hK.out _ _ ⟨hHeld.1.fr (fr_set _ _ _) (by omega), hHeld.2.fr (fr_set _ _ _) (by omega)⟩ (fun hHeld => ?_)
    clear hK K
    (try simp only [Act.put])
    have fs := fr_set u0 w.heap.size #[.slice a m c]
    have HZu1 : Hid (RowAt (u0.setRow w.heap.size #[.slice a m c]) w.heap.size #[.slice a m c] 25) := HZu0.out.setRow _
    have HPu1 : Hid (RowAt (u0.setRow w.heap.size #[.slice a m c]) (w.heap.size + 1) #[.int .i64 0, .int .i64 0, .int .i64 0] 27) := HPu0.out.fr fs (by omega)
    have HXu1 : Hid (DocX (u0.setRow w.heap.size #[.slice a m c]) w1.heap.size (.slice a m c) rbs d) := HXu0.out.fr fs (by omega)
    have HBu1 : Hid (Below w.heap.size w (u0.setRow w.heap.size #[.slice a m c])) := below_row HBu0.out (by omega) _
    generalize (u0.setRow w.heap.size #[.slice a m c]) = u1 at HZu1 HPu1 HXu1 HBu1 hHeld ⊢
    clear fs HZu0 HPu0 HXu0 HBu0
    refine wpAnyH_ready (rs := [3]) (by kernel_rfl) (by simp) ?_
    refine AllReadyH.cons rfl (fun K hK => ?_) AllReadyH.nil
    rw [if_pos (by kernel_rfl)]
    refine wp_store_row 27 (.tmp 3) (.tmp 35) rfl (w.heap.size + 1) #[.int .i64 pb, .int .i64 (pc + 1), .int .i64 pa] rfl rfl 27 _ HPu1.out drpl_info rfl (drpl_ones _ _ _) ?_
    refine hK.out _ _ ⟨hHeld.1.fr (fr_set _ _ _) (by omega), hHeld.2.fr (fr_set _ _ _) (by omega)⟩ (fun hHeld => ?_)
    clear hK K
    (try simp only [Act.put])
    have fs := fr_set u1 (w.heap.size + 1) #[.int .i64 pb, .int .i64 (pc + 1), .int .i64 pa]
    have HPu2 : Hid (RowAt (u1.setRow (w.heap.size + 1) #[.int .i64 pb, .int .i64 (pc + 1), .int .i64 pa]) (w.heap.size + 1) #[.int .i64 pb, .int .i64 (pc + 1), .int .i64 pa] 27) := HPu1.out.setRow _
    have HZu2 : Hid (RowAt (u1.setRow (w.heap.size + 1) #[.int .i64 pb, .int .i64 (pc + 1), .int .i64 pa]) w.heap.size #[.slice a m c] 25) := HZu1.out.fr fs (by omega)
    have HXu2 : Hid (DocX (u1.setRow (w.heap.size + 1) #[.int .i64 pb, .int .i64 (pc + 1), .int .i64 pa]) w1.heap.size (.slice a m c) rbs d) := HXu1.out.fr fs (by omega)
    have HBu2 : Hid (Below w.heap.size w (u1.setRow (w.heap.size + 1) #[.int .i64 pb, .int .i64 (pc + 1), .int .i64 pa])) := below_row HBu1.out (by omega) _
    generalize (u1.setRow (w.heap.size + 1) #[.int .i64 pb, .int .i64 (pc + 1), .int .i64 pa]) = u2 at HZu2 HPu2 HXu2 HBu2 hHeld ⊢
    clear fs HZu1 HPu1 HXu1 HBu1
    refine wpAnyH_done (by kernel_rfl) ?_ _
    refine NoPanic.normal ?_
    go_wp2_with fail
    exact bodyPost_ret (v := .tuple #[.agg #[.slice a m c], .agg #[.int .i64 pb, .int .i64 (pc + 1), .int .i64 pa]]) (results_cell2 (p := 2) (q := 3) (ty := 25) (tz := 27) rfl _ _ _ w.heap.size (w.heap.size + 1) _ _ rfl (run_docP HZu2.out) rfl (run_place HPu2.out)) rfl ⟨⟨a, m, c, d, _, _, _, rfl, HXu2.out.dc, HS.out, by omega, by omega, by omega⟩, HBu2.out⟩
  by_cases hx'' : x = 2
  · have hx := hx''
    clear hx' hx''
    subst hx
    have kq0 : v6.cell? ⟨XQ, 0, none⟩ = some (.int .i64 pb) := HG6.out.cell 0
    have fq0 := RowAt.frozen HG6.out 0
    have kt0 : v6.cell? ⟨X, 0, none⟩ = some (.slice a m c) := RowAt.cell (HT4.out.fr (by rw [hXQ]; exact HF6.out) (by omega)) 0
    go_upto_region 11 with fail
    clear kt0
    have HFv7 : Hid (Fr XQ g w4 (v6.setCell ⟨XQ, 0, none⟩ (.int .i64 (m : Int)))) := HF6.out.setCell (by show XQ ≤ XQ; omega) _
    have HGv7 : Hid (RowAt (v6.setCell ⟨XQ, 0, none⟩ (.int .i64 (m : Int))) XQ #[.int .i64 (m : Int), .int .i64 pc, .int .i64 pa] 27) := RowAt.setCell HG6.out 0 _
    clear kq0 fq0
    generalize (v6.setCell ⟨XQ, 0, none⟩ (.int .i64 (m : Int))) = v7 at HFv7 HGv7 ⊢
    have HXv7 : Hid (DocX v7 w1.heap.size (.slice a m c) rbs d) := HX4.out.fr (by rw [hXQ]; exact HFv7.out) (by omega)
    have HZv7 : Hid (RowAt v7 w.heap.size #[.slice none 0 0] 25) := HZ4.out.fr (by rw [hXQ]; exact HFv7.out) (by omega)
    have HPv7 : Hid (RowAt v7 (w.heap.size + 1) #[.int .i64 0, .int .i64 0, .int .i64 0] 27) := HP4.out.fr (by rw [hXQ]; exact HFv7.out) (by omega)
    have HTv7 : Hid (RowAt v7 X #[.slice a m c] 25) := HT4.out.fr (by rw [hXQ]; exact HFv7.out) (by omega)
    have HBv7 : Hid (Below w.heap.size w v7) := HB4.out.trans (below_of_frG (by rw [hXQ]; exact HFv7.out) (by omega) (by omega))
    clear HX4 HZ4 HP4 HT4 HB4
    refine wp_region_noPanic ?_
    refine wp_region_held_drew (S := fun w' => RowAt w' X #[.slice a m c] 25 ∧ RowAt w' XQ #[.int .i64 (m : Int), .int .i64 pc, .int .i64 pa] 27) (by kernel_rfl) ⟨HTv7.out, HGv7.out⟩ (fun hHeld => ?_)
    have HXu0 : Hid (DocX v7.drew w1.heap.size (.slice a m c) rbs d) := HXv7.out.below (Below.refl _ _).drew
    have HZu0 : Hid (RowAt v7.drew w.heap.size #[.slice none 0 0] 25) := HZv7.out.drew
    have HPu0 : Hid (RowAt v7.drew (w.heap.size + 1) #[.int .i64 0, .int .i64 0, .int .i64 0] 27) := HPv7.out.drew
    have HBu0 : Hid (Below w.heap.size w v7.drew) := HBv7.out.drew
    generalize v7.drew = u0 at HXu0 HZu0 HPu0 HBu0 hHeld ⊢
    clear HXv7 HZv7 HPv7 HTv7 HGv7 HBv7
    refine take_at 0 34 (.agg #[.slice a m c]) rfl rfl (by kernel_rfl) (by kernel_rfl) (by kernel_rfl) (fun _ _ _ h => h) (yieldsIf_load_row (by kernel_rfl) 25 (.tmp 5) rfl X rfl 25 #[.slice a m c] (0, 0) _ (fun w' h => h.1) Try.underlying25 rfl drdoc_info) hHeld ?_
    (try simp only [Act.put, List.setIfInBounds_toArray, List.set_cons_zero, List.set_cons_succ])
    refine take_at 1 35 (.agg #[.int .i64 (m : Int), .int .i64 pc, .int .i64 pa]) rfl rfl (by kernel_rfl) (by kernel_rfl) (by kernel_rfl) (fun _ _ _ h => h) (yieldsIf_load_row (by kernel_rfl) 27 (.tmp 6) rfl XQ rfl 27 #[.int .i64 (m : Int), .int .i64 pc, .int .i64 pa] (0, 0) _ (fun w' h => h.2) Try.underlying27 rfl drpl_info) hHeld ?_
    (try simp only [Act.put, List.setIfInBounds_toArray, List.set_cons_zero, List.set_cons_succ])
    refine wpAnyH_ready (rs := [2]) (by kernel_rfl) (by simp) ?_
    refine AllReadyH.cons rfl (fun K hK => ?_) AllReadyH.nil
    rw [if_pos (by kernel_rfl)]
    refine wp_store_row 25 (.tmp 2) (.tmp 34) rfl w.heap.size #[.slice a m c] rfl rfl 25 _ HZu0.out drdoc_info rfl (drcells1_one _ _ _) ?_
    refine hK.out _ _ ⟨hHeld.1.fr (fr_set _ _ _) (by omega), hHeld.2.fr (fr_set _ _ _) (by omega)⟩ (fun hHeld => ?_)
    clear hK K
    (try simp only [Act.put])
    have fs := fr_set u0 w.heap.size #[.slice a m c]
    have HZu1 : Hid (RowAt (u0.setRow w.heap.size #[.slice a m c]) w.heap.size #[.slice a m c] 25) := HZu0.out.setRow _
    have HPu1 : Hid (RowAt (u0.setRow w.heap.size #[.slice a m c]) (w.heap.size + 1) #[.int .i64 0, .int .i64 0, .int .i64 0] 27) := HPu0.out.fr fs (by omega)
    have HXu1 : Hid (DocX (u0.setRow w.heap.size #[.slice a m c]) w1.heap.size (.slice a m c) rbs d) := HXu0.out.fr fs (by omega)
    have HBu1 : Hid (Below w.heap.size w (u0.setRow w.heap.size #[.slice a m c])) := below_row HBu0.out (by omega) _
    generalize (u0.setRow w.heap.size #[.slice a m c]) = u1 at HZu1 HPu1 HXu1 HBu1 hHeld ⊢
    clear fs HZu0 HPu0 HXu0 HBu0
    refine wpAnyH_ready (rs := [3]) (by kernel_rfl) (by simp) ?_
    refine AllReadyH.cons rfl (fun K hK => ?_) AllReadyH.nil
    rw [if_pos (by kernel_rfl)]
    refine wp_store_row 27 (.tmp 3) (.tmp 35) rfl (w.heap.size + 1) #[.int .i64 (m : Int), .int .i64 pc, .int .i64 pa] rfl rfl 27 _ HPu1.out drpl_info rfl (drpl_ones _ _ _) ?_
    refine hK.out _ _ ⟨hHeld.1.fr (fr_set _ _ _) (by omega), hHeld.2.fr (fr_set _ _ _) (by omega)⟩ (fun hHeld => ?_)
    clear hK K
    (try simp only [Act.put])
    have fs := fr_set u1 (w.heap.size + 1) #[.int .i64 (m : Int), .int .i64 pc, .int .i64 pa]
    have HPu2 : Hid (RowAt (u1.setRow (w.heap.size + 1) #[.int .i64 (m : Int), .int .i64 pc, .int .i64 pa]) (w.heap.size + 1) #[.int .i64 (m : Int), .int .i64 pc, .int .i64 pa] 27) := HPu1.out.setRow _
    have HZu2 : Hid (RowAt (u1.setRow (w.heap.size + 1) #[.int .i64 (m : Int), .int .i64 pc, .int .i64 pa]) w.heap.size #[.slice a m c] 25) := HZu1.out.fr fs (by omega)
    have HXu2 : Hid (DocX (u1.setRow (w.heap.size + 1) #[.int .i64 (m : Int), .int .i64 pc, .int .i64 pa]) w1.heap.size (.slice a m c) rbs d) := HXu1.out.fr fs (by omega)
    have HBu2 : Hid (Below w.heap.size w (u1.setRow (w.heap.size + 1) #[.int .i64 (m : Int), .int .i64 pc, .int .i64 pa])) := below_row HBu1.out (by omega) _
    generalize (u1.setRow (w.heap.size + 1) #[.int .i64 (m : Int), .int .i64 pc, .int .i64 pa]) = u2 at HZu2 HPu2 HXu2 HBu2 hHeld ⊢
    clear fs HZu1 HPu1 HXu1 HBu1
    refine wpAnyH_done (by kernel_rfl) ?_ _
    refine NoPanic.normal ?_
    go_wp2_with fail
    exact bodyPost_ret (v := .tuple #[.agg #[.slice a m c], .agg #[.int .i64 (m : Int), .int .i64 pc, .int .i64 pa]]) (results_cell2 (p := 2) (q := 3) (ty := 25) (tz := 27) rfl _ _ _ w.heap.size (w.heap.size + 1) _ _ rfl (run_docP HZu2.out) rfl (run_place HPu2.out)) rfl ⟨⟨a, m, c, d, _, _, _, rfl, HXu2.out.dc, HS.out, by omega, by omega, by omega⟩, HBu2.out⟩
  have n0 : (x == 0) = false := by simp [hx]
  have n1 : (x == 1) = false := by simp [hx']
  have n2 : (x == 2) = false := by simp [hx'']
  have HFv6 := HF6
  have HGv6 := HG6
  clear HF6 HG6
  go_upto_region 11 with fail
  have HXv6 : Hid (DocX v6 w1.heap.size (.slice a m c) rbs d) := HX4.out.fr (by rw [hXQ]; exact HFv6.out) (by omega)
  have HZv6 : Hid (RowAt v6 w.heap.size #[.slice none 0 0] 25) := HZ4.out.fr (by rw [hXQ]; exact HFv6.out) (by omega)
  have HPv6 : Hid (RowAt v6 (w.heap.size + 1) #[.int .i64 0, .int .i64 0, .int .i64 0] 27) := HP4.out.fr (by rw [hXQ]; exact HFv6.out) (by omega)
  have HTv6 : Hid (RowAt v6 X #[.slice a m c] 25) := HT4.out.fr (by rw [hXQ]; exact HFv6.out) (by omega)
  have HBv6 : Hid (Below w.heap.size w v6) := HB4.out.trans (below_of_frG (by rw [hXQ]; exact HFv6.out) (by omega) (by omega))
  clear HX4 HZ4 HP4 HT4 HB4
  refine wp_region_noPanic ?_
  refine wp_region_held_drew (S := fun w' => RowAt w' X #[.slice a m c] 25 ∧ RowAt w' XQ #[.int .i64 pb, .int .i64 pc, .int .i64 pa] 27) (by kernel_rfl) ⟨HTv6.out, HGv6.out⟩ (fun hHeld => ?_)
  have HXu0 : Hid (DocX v6.drew w1.heap.size (.slice a m c) rbs d) := HXv6.out.below (Below.refl _ _).drew
  have HZu0 : Hid (RowAt v6.drew w.heap.size #[.slice none 0 0] 25) := HZv6.out.drew
  have HPu0 : Hid (RowAt v6.drew (w.heap.size + 1) #[.int .i64 0, .int .i64 0, .int .i64 0] 27) := HPv6.out.drew
  have HBu0 : Hid (Below w.heap.size w v6.drew) := HBv6.out.drew
  generalize v6.drew = u0 at HXu0 HZu0 HPu0 HBu0 hHeld ⊢
  clear HXv6 HZv6 HPv6 HTv6 HGv6 HBv6
  refine take_at 0 34 (.agg #[.slice a m c]) rfl rfl (by kernel_rfl) (by kernel_rfl) (by kernel_rfl) (fun _ _ _ h => h) (yieldsIf_load_row (by kernel_rfl) 25 (.tmp 5) rfl X rfl 25 #[.slice a m c] (0, 0) _ (fun w' h => h.1) Try.underlying25 rfl drdoc_info) hHeld ?_
  (try simp only [Act.put, List.setIfInBounds_toArray, List.set_cons_zero, List.set_cons_succ])
  refine take_at 1 35 (.agg #[.int .i64 pb, .int .i64 pc, .int .i64 pa]) rfl rfl (by kernel_rfl) (by kernel_rfl) (by kernel_rfl) (fun _ _ _ h => h) (yieldsIf_load_row (by kernel_rfl) 27 (.tmp 6) rfl XQ rfl 27 #[.int .i64 pb, .int .i64 pc, .int .i64 pa] (0, 0) _ (fun w' h => h.2) Try.underlying27 rfl drpl_info) hHeld ?_
  (try simp only [Act.put, List.setIfInBounds_toArray, List.set_cons_zero, List.set_cons_succ])
  refine wpAnyH_ready (rs := [2]) (by kernel_rfl) (by simp) ?_
  refine AllReadyH.cons rfl (fun K hK => ?_) AllReadyH.nil
  rw [if_pos (by kernel_rfl)]
  refine wp_store_row 25 (.tmp 2) (.tmp 34) rfl w.heap.size #[.slice a m c] rfl rfl 25 _ HZu0.out drdoc_info rfl (drcells1_one _ _ _) ?_
  refine hK.out _ _ ⟨hHeld.1.fr (fr_set _ _ _) (by omega), hHeld.2.fr (fr_set _ _ _) (by omega)⟩ (fun hHeld => ?_)
  clear hK K
  (try simp only [Act.put])
  have fs := fr_set u0 w.heap.size #[.slice a m c]
  have HZu1 : Hid (RowAt (u0.setRow w.heap.size #[.slice a m c]) w.heap.size #[.slice a m c] 25) := HZu0.out.setRow _
  have HPu1 : Hid (RowAt (u0.setRow w.heap.size #[.slice a m c]) (w.heap.size + 1) #[.int .i64 0, .int .i64 0, .int .i64 0] 27) := HPu0.out.fr fs (by omega)
  have HXu1 : Hid (DocX (u0.setRow w.heap.size #[.slice a m c]) w1.heap.size (.slice a m c) rbs d) := HXu0.out.fr fs (by omega)
  have HBu1 : Hid (Below w.heap.size w (u0.setRow w.heap.size #[.slice a m c])) := below_row HBu0.out (by omega) _
  generalize (u0.setRow w.heap.size #[.slice a m c]) = u1 at HZu1 HPu1 HXu1 HBu1 hHeld ⊢
  clear fs HZu0 HPu0 HXu0 HBu0
  refine wpAnyH_ready (rs := [3]) (by kernel_rfl) (by simp) ?_
  refine AllReadyH.cons rfl (fun K hK => ?_) AllReadyH.nil
  rw [if_pos (by kernel_rfl)]
  refine wp_store_row 27 (.tmp 3) (.tmp 35) rfl (w.heap.size + 1) #[.int .i64 pb, .int .i64 pc, .int .i64 pa] rfl rfl 27 _ HPu1.out drpl_info rfl (drpl_ones _ _ _) ?_
  refine hK.out _ _ ⟨hHeld.1.fr (fr_set _ _ _) (by omega), hHeld.2.fr (fr_set _ _ _) (by omega)⟩ (fun hHeld => ?_)
  clear hK K
  (try simp only [Act.put])
  have fs := fr_set u1 (w.heap.size + 1) #[.int .i64 pb, .int .i64 pc, .int .i64 pa]
  have HPu2 : Hid (RowAt (u1.setRow (w.heap.size + 1) #[.int .i64 pb, .int .i64 pc, .int .i64 pa]) (w.heap.size + 1) #[.int .i64 pb, .int .i64 pc, .int .i64 pa] 27) := HPu1.out.setRow _
  have HZu2 : Hid (RowAt (u1.setRow (w.heap.size + 1) #[.int .i64 pb, .int .i64 pc, .int .i64 pa]) w.heap.size #[.slice a m c] 25) := HZu1.out.fr fs (by omega)
  have HXu2 : Hid (DocX (u1.setRow (w.heap.size + 1) #[.int .i64 pb, .int .i64 pc, .int .i64 pa]) w1.heap.size (.slice a m c) rbs d) := HXu1.out.fr fs (by omega)
  have HBu2 : Hid (Below w.heap.size w (u1.setRow (w.heap.size + 1) #[.int .i64 pb, .int .i64 pc, .int .i64 pa])) := below_row HBu1.out (by omega) _
  generalize (u1.setRow (w.heap.size + 1) #[.int .i64 pb, .int .i64 pc, .int .i64 pa]) = u2 at HZu2 HPu2 HXu2 HBu2 hHeld ⊢
  clear fs HZu1 HPu1 HXu1 HBu1
  refine wpAnyH_done (by kernel_rfl) ?_ _
  refine NoPanic.normal ?_
  go_wp2_with fail
  exact bodyPost_ret (v := .tuple #[.agg #[.slice a m c], .agg #[.int .i64 pb, .int .i64 pc, .int .i64 pa]]) (results_cell2 (p := 2) (q := 3) (ty := 25) (tz := 27) rfl _ _ _ w.heap.size (w.heap.size + 1) _ _ rfl (run_docP HZu2.out) rfl (run_place HPu2.out)) rfl ⟨⟨a, m, c, d, _, _, _, rfl, HXu2.out.dc, HS.out, by omega, by omega, by omega⟩, HBu2.out⟩
end Go.Proofs.Ytcecmkideoodiaa
