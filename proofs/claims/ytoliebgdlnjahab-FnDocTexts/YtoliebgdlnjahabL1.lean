import Derived.Test.YtoliebgdlnjahabBA5
import Derived.Test.YtoliebgdlnjahabBD1
import Derived.Test.YtoliebgdlnjahabBA4
import Derived.Test.YtoliebgdlnjahabBA6
import Derived.Test.YtoliebgdlnjahabBA1
namespace Go.Proofs.Ytoliebgdlnjahab
open Go.RowKit

set_option maxRecDepth 100000 in
set_option maxHeartbeats 8000000 in
theorem drDrawDocLift_any (B : Nat) (a : Option Addr) (n cap : Nat) (zs : List Int) (w : World) (h : Byt B w a n cap zs) (hB : B ≤ w.heap.size) :
    Calls Try.prog 17 #[.slice a n cap] w fun e w' => (∃ (a' : Option Addr) (m' c' : Nat) (d' : List Bl) (z : Int), e = .returned (.tuple #[.agg #[.slice a' m' c'], .int .i64 z]) ∧ Dc w' a' m' c' d' ∧ DocSp d' ∧ -1 ≤ z ∧ z ≤ 11) ∧ Below w.heap.size w w' := by
  have HY : Hid (Byt B w a n cap zs) := h
  clear h
  go_enter Try.func17, Try.ntmps17
  go_upto_region 1 with fail
  have B0 : Below w.heap.size w (w.alloc (.cells #[.slice none 0 0] 25)) := (Below.refl _ _).alloc (Nat.le_refl _) _
  have Z0 : RowAt (w.alloc (.cells #[.slice none 0 0] 25)) w.heap.size #[.slice none 0 0] 25 := rowAt_new _ _ _
  have HY0 : Hid (Byt B (w.alloc (.cells #[.slice none 0 0] 25)) a n cap zs) := HY.out.belowC B0 hB
  generalize (w.alloc (.cells #[.slice none 0 0] 25)) = v0 at B0 Z0 HY0 ⊢
  have s0 := B0.size
  have zz := Z0.lt
  go_wp2_with fail
  refine (l6Open_any B a n cap zs _ HY0.out (by omega)).mono ?_
  rintro e w1 ⟨rfl, hr1, hb1⟩
  have s1 := hb1.size
  have HR1 : Hid (Rd B w1 v0.heap.size 0) := hr1
  have hlt := hr1.lt
  clear hr1
  obtain ⟨g, hg⟩ : ∃ g, v0.heap.size = g := ⟨_, rfl⟩
  rw [hg] at HR1 hlt s1 ⊢
  have hgw : w.heap.size < g := by omega
  go_wp2_with fail
  refine (l71Kinds_any B g 0 2 _ HR1.out (by omega)).mono ?_
  rintro e w2 ⟨a', m', c', d', z, q, rfl, ⟨rbs, hX⟩, hS, hz0, hz1, hr2, hq2, hf2⟩
  have s2 := hf2.size
  have HZ2 : Hid (RowAt w2 w.heap.size #[.slice none 0 0] 25) := (Z0.below hb1 (by omega)).fr hf2 (by omega)
  have HB2 : Hid (Below w.heap.size w w2) := below_of_fr3 B0 hb1 hf2 (by omega) s0
  have HX2 : Hid (DocX w2 w1.heap.size (.slice a' m' c') rbs d') := hX
  have HS : Hid (DocSp d') := hS
  clear hX hS hr2 hf2 hb1 Z0 B0 HR1 HY0 HY hg
  go_wp2_with (refine wpList_store_row rfl 25 (.tmp 2) (.tmp 7) rfl w.heap.size #[.slice a' m' c'] rfl rfl 25 _ HZ2.out drdoc_info rfl (drcells1_one _ _ _) ?_)
  refine bodyPost_ret (v := .tuple #[.agg #[.slice a' m' c'], .int .i64 z]) ?_ rfl ⟨⟨a', m', c', d', z, rfl, (docX_row HX2.out HZ2.out _).dc, HS.out, hz0, hz1⟩, below_row HB2.out (Nat.le_refl _) _⟩
  rw [results_cell_tmp rfl]
  simp [asAddr, Result.andThen, run_docK (RowAt.setRow HZ2.out _)]
end Go.Proofs.Ytoliebgdlnjahab
namespace Go.Proofs.Ytoliebgdlnjahab
open Go.RowKit

set_option maxRecDepth 100000 in
set_option maxHeartbeats 8000000 in
theorem specDocLift_any {a : Option Addr} {n cap : Nat} {d : List Bl} {z : Int} {w : World} (h : Dc w a n cap d) :
    Calls Try.prog 18 #[.agg #[.slice a n cap], .int .i64 z] w fun e w' => DocRes (docF liftF d z) w.heap.size e w' ∧ Below w.heap.size w w' := by
  unfold DocRes
  have HN : Hid (n = d.length) := h.1
  have hc := h.2.1
  have hm := h.2.2.1
  unfold maxLen at hm
  have H : Hid (Dc w a n cap d) := h
  clear h
  obtain ⟨x, HX⟩ : ∃ x, Hid (itemB d z = x) := ⟨_, rfl⟩
  go_enter Try.func18, Try.ntmps18
  go_upto_region 1 with fail
  have B0 : Below w.heap.size w ((w.alloc (.cells #[.slice a n cap] 25)).alloc (.cells #[.slice none 0 0] 25)) := ((Below.refl _ _).alloc (Nat.le_refl _) _).alloc (by simp) _
  have G0 : RowAt ((w.alloc (.cells #[.slice a n cap] 25)).alloc (.cells #[.slice none 0 0] 25)) w.heap.size #[.slice a n cap] 25 := (rowAt_new w _ _).alloc _
  have G1 : RowAt ((w.alloc (.cells #[.slice a n cap] 25)).alloc (.cells #[.slice none 0 0] 25)) (w.heap.size + 1) #[.slice none 0 0] 25 := by
    have := rowAt_new (w.alloc (.cells #[.slice a n cap] 25)) #[.slice none 0 0] 25
    simpa using this
  generalize ((w.alloc (.cells #[.slice a n cap] 25)).alloc (.cells #[.slice none 0 0] 25)) = v0 at B0 G0 G1 ⊢
  have k0 : v0.cell? ⟨w.heap.size, 0, none⟩ = some (.slice a n cap) := G0.cell 0
  have l0 := G0.lt
  have l1 := G1.lt
  have s0 := B0.size
  have H0 : Hid (RowAt v0 w.heap.size #[.slice a n cap] 25) := G0
  have H1 : Hid (RowAt v0 (w.heap.size + 1) #[.slice none 0 0] 25) := G1
  have HB0 : Hid (Below w.heap.size w v0) := B0
  have HD0 : Hid (Dc v0 a n cap d) := H.out.below B0
  clear G0 G1 B0
  cases x
  · have HNO : Hid (docF liftF d z = none) := no_item HX.out (fun d i h => by unfold liftF; rw [if_neg h])
    go_wp2_with (first | (go_at_call 34; refine (l3Item_is HX.out HD0.out).mono ?_; rintro e w1 ⟨rfl, hb1⟩; have HZ : Hid (RowAt w1 (w.heap.size + 1) #[.slice none 0 0] 25) := H1.out.below hb1 l1) | (refine wpList_store_row rfl 25 (.tmp 4) (.tmp 13) rfl (w.heap.size + 1) #[.slice none 0 0] rfl rfl 25 _ HZ.out docI_info rfl (cells1_one _ _ _) ?_))
    refine bodyPost_ret (v := .tuple #[.agg #[.slice none 0 0], .bool false]) ?_ rfl ⟨.inl ⟨HNO.out, rfl⟩, below_row (HB0.out.trans (hb1.mono s0)) (by omega) _⟩
    rw [results_cell_tmp rfl]
    simp [asAddr, Result.andThen, run_docOf (RowAt.setRow HZ.out _)]
  obtain ⟨hdb, i, rfl, hid, hk2⟩ := item_of HX.out
  obtain ⟨hn8', hall, hou⟩ := docB_parts hdb
  have hn8 : n ≤ 8 := by rw [HN.out]; exact hn8'
  have hin : i < n := by rw [HN.out]; exact hid
  have HDB : Hid (docB d = true) := hdb
  have HALL : Hid (d.all partBB = true) := hall
  have HOU : Hid (outlB d = true) := hou
  have HK2 : Hid ((d.getD i bl0).1 = 2) := hk2
  have HGR : Hid (∀ k, i ≤ k → k < endL d i → (d.getD k bl0).1 = 2 ∧ 0 ≤ (d.getD k bl0).2.1 ∧ (d.getD k bl0).2.1 ≤ 3) := group_items hou hid hk2
  have HFE : Hid (docF liftF d i = (liftF d i).bind fun d' => if outlB d' = true then some d' else none) := by
    show docF liftF d i = _
    unfold docF
    rw [if_pos ⟨hdb, by omega, by omega⟩]
    rfl
  have hEn : endL d i ≤ n := by rw [HN.out]; exact endL_le hid
  have HEB : Hid (endL d i = i + 1 + belL d i) := rfl
  have HV0 : Hid (0 ≤ (d.getD i bl0).2.1) := (group_items hou hid hk2 i (Nat.le_refl _) (by unfold endL; omega)).2.1
  clear hall hou hn8' hk2 hdb
  obtain ⟨E, HE⟩ : ∃ E, Hid (endL d i = E) := ⟨_, rfl⟩
  obtain ⟨bl, HBL⟩ : ∃ b, Hid (belL d i = b) := ⟨_, rfl⟩
  have hEb : E = i + 1 + bl := by rw [← HE.out, ← HBL.out]; exact HEB.out
  rw [HE.out] at hEn HGR
  go_upto_region 3 with (go_at_call 34; refine (l3Item_is HX.out HD0.out).mono ?_; rintro e w1 ⟨rfl, hb1⟩; have k1 := (H0.out.below hb1 l0).cell 0; simp at k1)
  have s1 := hb1.size
  have HA1 : Hid (RowAt w1 w.heap.size #[.slice a n cap] 25) := H0.out.below hb1 l0
  have HZ1 : Hid (RowAt w1 (w.heap.size + 1) #[.slice none 0 0] 25) := H1.out.below hb1 l1
  have HB1 : Hid (Below w.heap.size w w1) := HB0.out.trans (hb1.mono s0)
  have HD1 : Hid (Dc w1 a n cap d) := HD0.out.below hb1
  have HSM : Hid (∀ k, k < d.length → SmB (d.getD k bl0)) := docB_small HDB.out
  clear k0 hb1 H0 H1 HB0 HD0
  go_wp2_with fail
  refine (l3Copy_any HD1.out (by omega) HSM.out).mono ?_
  rintro e w2 ⟨⟨p, q, rbs, rfl, ho2⟩, hb2⟩
  have s2 := hb2.size
  go_upto_region 4 with fail
  have A3 : Below w2.heap.size w2 (w2.alloc (.cells #[.slice p n q] 25)) := (Below.refl _ _).alloc (Nat.le_refl _) _
  have G3 : RowAt (w2.alloc (.cells #[.slice p n q] 25)) w2.heap.size #[.slice p n q] 25 := rowAt_new _ _ _
  have O3 : DocOwn (w2.alloc (.cells #[.slice p n q] 25)) w1.heap.size w2.heap.size (.slice p n q) rbs d := ho2.below (Nat.le_refl _) A3
  have B3 : Below w1.heap.size w1 (w2.alloc (.cells #[.slice p n q] 25)) := hb2.alloc s2 _
  clear k1 ho2 hb2 A3
  generalize w2.alloc (.cells #[.slice p n q] 25) = w3 at G3 O3 B3 ⊢
  have hq1 := O3.dc.2.1
  have hq2 := O3.dc.2.2.1
  unfold maxLen at hq2
  obtain ⟨g, rfl, hg1, hg2, -, -⟩ := docOwn_at O3 hin
  have gE : g < w2.heap.size := O3.2.1 g rfl
  have HG3 : Hid (RowAt w3 w2.heap.size #[.slice (some ⟨g, 0, none⟩) n q] 25) := G3
  have HO3 : Hid (DocOwn w3 w1.heap.size w2.heap.size (.slice (some ⟨g, 0, none⟩) n q) rbs d) := O3
  have HB3 : Hid (Below w1.heap.size w1 w3) := B3
  have zz := G3.lt
  have s3 := B3.size
  have z0 := HA1.out.lt
  have z1 := HZ1.out.lt
  clear G3 O3 B3
  have a0 : w3.cell? ⟨w.heap.size, 0, none⟩ = some (.slice a n cap) := (HA1.out.below HB3.out z0).cell 0
  go_upto_region 5 with (go_at_call 36; refine (l3Below_any (HD1.out.below HB3.out) hin hn8 HK2.out HV0.out).mono ?_; rintro e w4 ⟨rfl, hb4⟩; rw [HBL.out])
  have s4 := hb4.size
  replace HG3 : Hid (RowAt w4 w2.heap.size #[.slice (some ⟨g, 0, none⟩) n q] 25) := HG3.out.below hb4 zz
  replace HO3 : Hid (DocOwn w4 w1.heap.size w2.heap.size (.slice (some ⟨g, 0, none⟩) n q) rbs d) := HO3.out.below (by omega) hb4
  replace HB3 : Hid (Below w1.heap.size w1 w4) := HB3.out.trans (hb4.mono s3)
  clear a0 hb4
  have a0 : w4.cell? ⟨w.heap.size, 0, none⟩ = some (.slice a n cap) := (HA1.out.below HB3.out z0).cell 0
  rcases (HD1.out.below HB3.out).2.2.2 with e | ⟨b, off, rfl, hbl, hcl⟩
  · rw [e] at hid
    exact absurd hid (by simp)
  obtain ⟨ta, tn, tc, ca, cn, cc, hblk⟩ := hcl i hid
  have c1 := hblk.2.1
  obtain ⟨V0, HVV⟩ : ∃ V, Hid ((d.getD i bl0).2.1 = V) := ⟨_, rfl⟩
  rw [HVV.out] at c1
  have hv0 : 0 ≤ V0 := by rw [← HVV.out]; exact HV0.out
  have hii : (i : Int) < (n : Int) := by omega
  have hi0 : (0 : Int) ≤ (i : Int) := by omega
  have HZ4 : Hid (RowAt w4 (w.heap.size + 1) #[.slice none 0 0] 25) := HZ1.out.below HB3.out z1
  have HB4 : Hid (Below w.heap.size w w4) := HB1.out.trans (HB3.out.mono (by omega))
  have hs43 : w3.heap.size ≤ w4.heap.size := s4
  clear hcl hblk
  by_cases hvz : V0 = 0
  · subst hvz
    have HLF : Hid (liftF d i = if E = i + 1 then some (d.set i (1, 0, (d.getD i bl0).2.2.1, 0, 0, [])) else none) := by
      show liftF d i = _
      unfold liftF
      rw [if_pos HK2.out, HVV.out, if_neg (by omega), HE.out]
    by_cases hbp : 0 < bl
    · have hbi : (0 : Int) < (bl : Int) := by omega
      have HNO : Hid (docF liftF d i = none) := by
        show docF liftF d i = none
        rw [HFE.out, HLF.out, if_neg (by omega)]
        rfl
      go_wp2_with (refine wpList_store_row rfl 25 (.tmp 4) (.tmp 28) rfl (w.heap.size + 1) #[.slice none 0 0] rfl rfl 25 _ HZ4.out docI_info rfl (cells1_one _ _ _) ?_)
      refine bodyPost_ret (v := .tuple #[.agg #[.slice none 0 0], .bool false]) ?_ rfl ⟨.inl ⟨HNO.out, rfl⟩, below_row HB4.out (by omega) _⟩
      rw [results_cell_tmp rfl]
      simp [asAddr, Result.andThen, run_docOf (RowAt.setRow HZ4.out _)]
    · have hbi : ¬ (0 : Int) < (bl : Int) := by omega
      obtain ⟨d', HD'⟩ : ∃ d', Hid (d.set i (1, 0, (d.getD i bl0).2.2.1, 0, 0, []) = d') := ⟨_, rfl⟩
      have HLS : Hid (liftF d i = some d') := by
        show liftF d i = some d'
        rw [HLF.out, if_pos (by omega), HD'.out]
      have HYES : Hid (docF liftF d i = some d') := by
        show docF liftF d i = some d'
        rw [HFE.out, HLS.out, Option.bind_some, if_pos (lift_ok HOU.out hid HLS.out)]
      have HSET : Hid (d.set i (1, (d.getD i bl0).2) = d') := by
        show d.set i (1, (d.getD i bl0).2) = d'
        rw [← HD'.out]
        have h2 := List.all_eq_true.1 HALL.out (d.getD i bl0) (by rw [getD_bl hid]; exact List.getElem_mem hid)
        have h3 := HK2.out
        have h4 := HVV.out
        obtain ⟨⟨K, V, t, R, C, l⟩, hx⟩ : ∃ x, x = d.getD i bl0 := ⟨_, rfl⟩
        rw [← hx] at h2 h3 h4 ⊢
        simp only at h3 h4
        subst h3 h4
        obtain ⟨rfl, rfl, rfl⟩ := partBB_item h2
        rfl
      obtain ⟨_, he, -, -, hcs, hfz⟩ := docOwn_at HO3.out hin
      cases he
      have q0 : w4.cell? ⟨g, i * 6, none⟩ = some (.int .i64 (rbs.getD i rb0).1) := hcs 0 (by omega)
      have f0 : w4.frozen? ⟨g, i * 6, none⟩ = false := hfz 0
      have k4 : w4.cell? ⟨w2.heap.size, 0, none⟩ = some (.slice (some ⟨g, 0, none⟩) n q) := HG3.out.cell 0
      have O5 := docOwn_kind HO3.out i hid 1
      rw [HSET.out] at O5
      have HO5 : Hid (DocOwn (w4.setCell ⟨g, i * 6, none⟩ (.int .i64 1)) w1.heap.size w2.heap.size (.slice (some ⟨g, 0, none⟩) n q) (rbs.set i (1, (rbs.getD i rb0).2)) d') := O5
      have G5 : RowAt (w4.setCell ⟨g, i * 6, none⟩ (.int .i64 1)) w2.heap.size #[.slice (some ⟨g, 0, none⟩) n q] 25 := HG3.out.other _ _ (by simp; omega)
      have HZ5 : Hid (RowAt (w4.setCell ⟨g, i * 6, none⟩ (.int .i64 1)) (w.heap.size + 1) #[.slice none 0 0] 25) := HZ4.out.other _ _ (by simp; omega)
      have HB5 : Hid (Below w.heap.size w (w4.setCell ⟨g, i * 6, none⟩ (.int .i64 1))) := HB4.out.setCell (by show _ ≤ g; omega) _
      have sz5 : w3.heap.size ≤ (w4.setCell ⟨g, i * 6, none⟩ (.int .i64 1)).heap.size := by simpa using s4
      clear hcs hfz O5
      go_upto_region 9 with fail
      clear q0 f0 k4 a0 c1
      generalize w4.setCell ⟨g, i * 6, none⟩ (.int .i64 1) = w5 at HO5 G5 HZ5 HB5 sz5 ⊢
      have k5 : w5.cell? ⟨w2.heap.size, 0, none⟩ = some (.slice (some ⟨g, 0, none⟩) n q) := G5.cell 0
      have HLN : Hid (n = d'.length) := HO5.out.len
      go_wp2_with (refine wpList_store_row rfl 25 (.tmp 4) (.tmp 34) rfl (w.heap.size + 1) #[.slice (some ⟨g, 0, none⟩) n q] rfl rfl 25 _ HZ5.out docI_info rfl (cells1_one _ _ _) ?_)
      refine bodyPost_ret (v := .tuple #[.agg #[.slice (some ⟨g, 0, none⟩) n q], .bool true]) ?_ rfl ⟨.inr ⟨d', HYES.out, some ⟨g, 0, none⟩, q, by rw [← HLN.out], rbs.set i (1, (rbs.getD i rb0).2), ?_⟩, below_row HB5.out (by omega) _⟩
      · rw [results_cell_tmp rfl]
        simp [asAddr, Result.andThen, run_docOf (RowAt.setRow HZ5.out _)]
      · have sz : (w5.setRow (w.heap.size + 1) #[.slice (some ⟨g, 0, none⟩) n q]).heap.size = w5.heap.size := by simp [World.setRow]
        rw [sz, ← HLN.out]
        exact (HO5.out.mid (fun b hb hb' => setRow_other _ _ _ _ (by omega))).less (by omega) (by omega)
  have hvb : (V0 == 0) = false := by simp [hvz]
  go_wp2_with fail
  clear a0 c1
  go_loopw [8] (fun mv wr => ∃ (m : Nat) (rbs' : List Rb), i ≤ m ∧ m ≤ E ∧ mv = .int .i64 m ∧ RowAt wr w2.heap.size #[.slice (some ⟨g, 0, none⟩) n q] 25 ∧ DocOwn wr w1.heap.size w2.heap.size (.slice (some ⟨g, 0, none⟩) n q) rbs' (deepTo d i (-1) m) ∧ w3.heap.size ≤ wr.heap.size ∧ Below w1.heap.size w1 wr) (fun mv _ => E - (intOf mv).toNat)
  case atStart => exact ⟨i, rbs, Nat.le_refl _, by omega, rfl, HG3.out, by rw [deepTo_start]; exact HO3.out, s4, HB3.out⟩
  case round =>
    obtain ⟨m, rbs', hm1, hm2, rfl, hG, hO, hs, hB⟩ := hrel
    have HGm : Hid (RowAt wr w2.heap.size #[.slice (some ⟨g, 0, none⟩) n q] 25) := hG
    have HOm : Hid (DocOwn wr w1.heap.size w2.heap.size (.slice (some ⟨g, 0, none⟩) n q) rbs' (deepTo d i (-1) m)) := hO
    have HBm : Hid (Below w1.heap.size w1 wr) := hB
    clear hG hB
    by_cases hlt : m < E
    · have hmd : m < d.length := by have := HN.out; omega
      have hmn : (m : Int) < (n : Int) := by omega
      have hm0 : (0 : Int) ≤ (m : Int) := by omega
      have hle : (m : Int) ≤ (i : Int) + (bl : Int) := by omega
      go_upto_region 13 with fail
      have HBc : Hid (Below w1.heap.size w1 wr) := HBm.out
      have HGc : Hid (RowAt wr w2.heap.size #[.slice (some ⟨g, 0, none⟩) n q] 25) := HGm.out
      have HOc : Hid (DocOwn wr w1.heap.size w2.heap.size (.slice (some ⟨g, 0, none⟩) n q) rbs' (deepTo d i (-1) m)) := HOm.out
      have sc : w3.heap.size ≤ wr.heap.size := hs
      clear HGm HOm HBm
      obtain ⟨_, he, -, -, hcs, hfz⟩ := docOwn_at HOc.out (show m < n by omega)
      cases he
      have hcell := hcs 1 (by omega)
      have hfr := hfz 1
      have hget : (deepTo d i (-1) m).getD m bl0 = d.getD m bl0 := by rw [deepTo_get hmd, if_neg (by omega)]
      have hbv : (rbs'.getD m rb0).2.1 = (d.getD m bl0).2.1 := by
        obtain ⟨lo, mid, hi, h1, -⟩ := HOc.out.2.2.2
        have := (h1 m (by rw [deepTo_len]; exact hmd)).2.2.1.2.1
        rw [hget] at this
        exact this
      obtain ⟨V, HV⟩ : ∃ V, Hid ((d.getD m bl0).2.1 = V) := ⟨_, rfl⟩
      have hc1 : wr.cell? ⟨g, m * 6 + 1, none⟩ = some (.int .i64 V) := by
        have h1 : (rbCells (rbs'.getD m rb0))[1]? = some (.int .i64 (rbs'.getD m rb0).2.1) := rfl
        rw [hcell, h1, hbv, HV.out]
      obtain ⟨-, hv0, hv3⟩ := HGR.out m hm1 hlt
      rw [HV.out] at hv0 hv3
      have HLV : Hid (DocOwn (wr.setCell ⟨g, m * 6 + 1, none⟩ (.int .i64 (V + -1))) w1.heap.size w2.heap.size (.slice (some ⟨g, 0, none⟩) n q) (rbs'.set m ((rbs'.getD m rb0).1, V + -1, (rbs'.getD m rb0).2.2)) (deepTo d i (-1) (m + 1))) := by
        have h1 := docOwn_level HOc.out m (by rw [deepTo_len]; exact hmd) (V + -1)
        rw [hget] at h1
        rw [deepTo_succ hm1]
        have h2 : bump (-1) (d.getD m bl0) = ((d.getD m bl0).1, V + -1, (d.getD m bl0).2.2) := by
          unfold bump
          rw [HV.out]
        rw [h2]
        exact h1
      have HC1 : Hid (wr.cell? ⟨g, m * 6 + 1, none⟩ = some (.int .i64 V)) := hc1
      have HF1 : Hid (wr.frozen? ⟨g, m * 6 + 1, none⟩ = false) := hfr
      clear hcs hfz hcell hfr hget hbv hc1 hO
      refine wp_region_noPanic ?_
      refine wp_region_held_drew (S := fun w' => RowAt w' w2.heap.size #[.slice (some ⟨g, 0, none⟩) n q] 25) (by kernel_rfl) HGc.out.drew (fun hHeld => ?_)
      have HLd : Hid (DocOwn (wr.drew.setCell ⟨g, m * 6 + 1, none⟩ (.int .i64 (V + -1))) w1.heap.size w2.heap.size (.slice (some ⟨g, 0, none⟩) n q) (rbs'.set m ((rbs'.getD m rb0).1, V + -1, (rbs'.getD m rb0).2.2)) (deepTo d i (-1) (m + 1))) := HLV.out
      have HCd : Hid (wr.drew.cell? ⟨g, m * 6 + 1, none⟩ = some (.int .i64 V)) := HC1.out
      have HFd : Hid (wr.drew.frozen? ⟨g, m * 6 + 1, none⟩ = false) := HF1.out
      have HBd : Hid (Below w1.heap.size w1 wr.drew) := HBc.out.drew
      have sd : w3.heap.size ≤ wr.drew.heap.size := sc
      generalize wr.drew = u1 at hHeld HLd HCd HFd HBd sd ⊢
      clear HLV HC1 HF1 HBc sc HGc HOc
      refine take_at 0 43 (.pointer (some ⟨w2.heap.size, 0, none⟩)) rfl rfl (by kernel_rfl) (by kernel_rfl) (by kernel_rfl) (fun _ _ _ h => h) (Or.inl ⟨by kernel_rfl, fun w' hS' => by go_simp⟩) hHeld ?_
      (try simp only [Act.put, List.setIfInBounds_toArray, List.set_cons_zero, List.set_cons_succ])
      refine take_at 1 44 (.slice (some ⟨g, 0, none⟩) n q) rfl rfl (by kernel_rfl) (by kernel_rfl) (by kernel_rfl) (fun _ _ _ h => h) (Or.inl ⟨by kernel_rfl, fun w' hS' => by have hc := RowAt.cell hS' 0; go_simp⟩) hHeld ?_
      (try simp only [Act.put, List.setIfInBounds_toArray, List.set_cons_zero, List.set_cons_succ])
      refine take_at 2 45 (.int .i64 m) rfl rfl (by kernel_rfl) (by kernel_rfl) (by kernel_rfl) (fun _ _ _ h => h) (Or.inl ⟨by kernel_rfl, fun w' hS' => by go_simp⟩) hHeld ?_
      (try simp only [Act.put, List.setIfInBounds_toArray, List.set_cons_zero, List.set_cons_succ])
      refine take_at 3 46 (.pointer (some ⟨w2.heap.size, 0, none⟩)) rfl rfl (by kernel_rfl) (by kernel_rfl) (by kernel_rfl) (fun _ _ _ h => h) (Or.inl ⟨by kernel_rfl, fun w' hS' => by go_simp⟩) hHeld ?_
      (try simp only [Act.put, List.setIfInBounds_toArray, List.set_cons_zero, List.set_cons_succ])
      refine take_at 4 47 (.slice (some ⟨g, 0, none⟩) n q) rfl rfl (by kernel_rfl) (by kernel_rfl) (by kernel_rfl) (fun _ _ _ h => h) (Or.inl ⟨by kernel_rfl, fun w' hS' => by have hc := RowAt.cell hS' 0; go_simp⟩) hHeld ?_
      (try simp only [Act.put, List.setIfInBounds_toArray, List.set_cons_zero, List.set_cons_succ])
      refine take_at 5 48 (.int .i64 m) rfl rfl (by kernel_rfl) (by kernel_rfl) (by kernel_rfl) (fun _ _ _ h => h) (Or.inl ⟨by kernel_rfl, fun w' hS' => by go_simp⟩) hHeld ?_
      (try simp only [Act.put, List.setIfInBounds_toArray, List.set_cons_zero, List.set_cons_succ])
      refine take_at 6 49 (.pointer (some ⟨g, m * 6, none⟩)) rfl rfl (by kernel_rfl) (by kernel_rfl) (by kernel_rfl) (fun _ _ _ h => h) (Or.inl ⟨by kernel_rfl, fun w' hS' => by go_simp⟩) hHeld ?_
      (try simp only [Act.put, List.setIfInBounds_toArray, List.set_cons_zero, List.set_cons_succ])
      refine take_at 7 50 (.pointer (some ⟨g, m * 6 + 1, none⟩)) rfl rfl (by kernel_rfl) (by kernel_rfl) (by kernel_rfl) (fun _ _ _ h => h) (Or.inl ⟨by kernel_rfl, fun w' hS' => by go_simp⟩) hHeld ?_
      (try simp only [Act.put, List.setIfInBounds_toArray, List.set_cons_zero, List.set_cons_succ])
      refine wpAnyH_ready (rs := [8]) (by kernel_rfl) (by simp) ?_
      refine AllReadyH.cons rfl (fun K hK => ?_) AllReadyH.nil
      have d4 := HCd.out
      go_simp
      refine hK.out _ _ hHeld (fun hHeld => ?_)
      clear hK K d4
      (try simp only [Act.put, List.setIfInBounds_toArray, List.set_cons_zero, List.set_cons_succ])
      refine take_at 9 52 (.int .i64 (V + -1)) rfl rfl (by kernel_rfl) (by kernel_rfl) (by kernel_rfl) (fun _ _ _ h => h) (Or.inl ⟨by kernel_rfl, fun w' hS' => by go_simp; rw [IntKind.wrap_i64]; omega⟩) hHeld ?_
      (try simp only [Act.put, List.setIfInBounds_toArray, List.set_cons_zero, List.set_cons_succ])
      refine take_at 10 53 (.pointer (some ⟨g, m * 6, none⟩)) rfl rfl (by kernel_rfl) (by kernel_rfl) (by kernel_rfl) (fun _ _ _ h => h) (Or.inl ⟨by kernel_rfl, fun w' hS' => by go_simp⟩) hHeld ?_
      (try simp only [Act.put, List.setIfInBounds_toArray, List.set_cons_zero, List.set_cons_succ])
      refine take_at 11 54 (.pointer (some ⟨g, m * 6 + 1, none⟩)) rfl rfl (by kernel_rfl) (by kernel_rfl) (by kernel_rfl) (fun _ _ _ h => h) (Or.inl ⟨by kernel_rfl, fun w' hS' => by go_simp⟩) hHeld ?_
      (try simp only [Act.put, List.setIfInBounds_toArray, List.set_cons_zero, List.set_cons_succ])
      refine wpAnyH_ready (rs := [12]) (by kernel_rfl) (by simp) ?_
      refine AllReadyH.cons rfl (fun K hK => ?_) AllReadyH.nil
      have d4 := HCd.out
      have f4 := HFd.out
      rw [if_pos (by kernel_rfl)]
      go_simp
      refine hK.out _ _ (RowAt.other hHeld _ _ (by simp; omega)) (fun hHeld => ?_)
      clear hK K d4 f4
      (try simp only [Act.put])
      refine wpAnyH_done (by kernel_rfl) ?_ _
      refine NoPanic.normal ?_
      have hG9 := hHeld
      clear hHeld
      go_wp2_with fail
      go_roundw
      case rel => exact ⟨m + 1, _, by omega, by omega, by go_num, hG9, HLd.out, by simpa using sd, HBd.out.setCell (p := ⟨g, m * 6 + 1, none⟩) hg1 _⟩
      case measure => simp [intOf]; omega
    · obtain rfl : m = E := by omega
      have hle : ¬ (m : Int) ≤ (i : Int) + (bl : Int) := by omega
      obtain ⟨d', HD'⟩ : ∃ d', Hid (deepL d i (-1) = d') := ⟨_, rfl⟩
      have HDE : Hid (deepTo d i (-1) m = d') := by
        show deepTo d i (-1) m = d'
        rw [← HD'.out, ← HE.out]
        rfl
      have HLS : Hid (liftF d i = some d') := by
        show liftF d i = some d'
        unfold liftF
        rw [if_pos HK2.out, HVV.out, if_pos (by omega), HD'.out]
      have HYES : Hid (docF liftF d i = some d') := by
        show docF liftF d i = some d'
        rw [HFE.out, HLS.out, Option.bind_some, if_pos (lift_ok HOU.out hid HLS.out)]
      have hOE := HOm.out
      rw [HDE.out] at hOE
      have HLN : Hid (n = d'.length) := hOE.len
      have HO5 : Hid (DocOwn wr w1.heap.size w2.heap.size (.slice (some ⟨g, 0, none⟩) n q) rbs' d') := hOE
      have HZ5 : Hid (RowAt wr (w.heap.size + 1) #[.slice none 0 0] 25) := HZ1.out.below HBm.out z1
      have HB5 : Hid (Below w.heap.size w wr) := HB1.out.trans (HBm.out.mono (by omega))
      have b5 : wr.cell? ⟨w2.heap.size, 0, none⟩ = some (.slice (some ⟨g, 0, none⟩) n q) := HGm.out.cell 0
      clear hO hOE
      go_wp2_with (refine wpList_store_row rfl 25 (.tmp 4) (.tmp 55) rfl (w.heap.size + 1) #[.slice (some ⟨g, 0, none⟩) n q] rfl rfl 25 _ HZ5.out docI_info rfl (cells1_one _ _ _) ?_)
      refine bodyPost_ret (v := .tuple #[.agg #[.slice (some ⟨g, 0, none⟩) n q], .bool true]) ?_ rfl ⟨.inr ⟨d', HYES.out, some ⟨g, 0, none⟩, q, by rw [← HLN.out], rbs', ?_⟩, below_row HB5.out (by omega) _⟩
      · rw [results_cell_tmp rfl]
        simp [asAddr, Result.andThen, run_docOf (RowAt.setRow HZ5.out _)]
      · have sz : (wr.setRow (w.heap.size + 1) #[.slice (some ⟨g, 0, none⟩) n q]).heap.size = wr.heap.size := by simp [World.setRow]
        rw [sz, ← HLN.out]
        exact (HO5.out.mid (fun b hb hb' => setRow_other _ _ _ _ (by omega))).less (by omega) (by omega)
end Go.Proofs.Ytoliebgdlnjahab
namespace Go.Proofs.Ytoliebgdlnjahab
open Go.RowKit

theorem lift_texts {d x : List Bl} {z : Int} (h : docF liftF d z = some x) : x.length = d.length ∧ ∀ k, k < d.length → (x.getD k bl0).2.2 = (d.getD k bl0).2.2 := by
  unfold docF at h
  split at h
  · rename_i hc
    obtain ⟨hd, hz0, hz1⟩ := hc
    obtain ⟨i, rfl⟩ : ∃ i : Nat, z = i := ⟨z.toNat, by omega⟩
    have hi : i < d.length := by omega
    simp only [Int.toNat_natCast] at h
    obtain ⟨h8, hall, hou⟩ := docB_parts hd
    cases he : liftF d i with
    | none => rw [he] at h; simp at h
    | some d' =>
      rw [he] at h
      simp only [Option.bind_some] at h
      split at h
      · cases h
        obtain ⟨hf, hl⟩ := liftF_form hall hou hi he
        refine ⟨hl, fun k hk => ?_⟩
        unfold liftF at he
        split at he
        · rename_i h1
          split at he
          · cases he
            rw [deep_get hk]
            split <;> rfl
          · split at he
            · cases he
              by_cases hki : k = i
              · subst hki
                have hp : partBB (d.getD k bl0) = true := by
                  rw [getD_blS hk]
                  exact List.all_eq_true.1 hall _ (List.getElem_mem hk)
                have e1 : (d.set k (1, 0, (d.getD k bl0).2.2.1, 0, 0, [])).getD k bl0 = (1, 0, (d.getD k bl0).2.2.1, 0, 0, []) := by simp [List.getD, hk]
                rw [e1]
                obtain ⟨⟨K, V, t, R, C, l⟩, hy⟩ : ∃ y, y = d.getD k bl0 := ⟨_, rfl⟩
                rw [← hy] at hp h1 ⊢
                simp only at h1
                subst h1
                obtain ⟨rfl, rfl, rfl⟩ := partBB_item hp
                rfl
              · simp [List.getD, List.getElem?_set_ne (Ne.symm hki)]
            · cases he
        · cases he
      · cases h
  · cases h
theorem sink_texts {d x : List Bl} {z : Int} (h : docF sinkF d z = some x) : x.length = d.length ∧ ∀ k, k < d.length → (x.getD k bl0).2.2 = (d.getD k bl0).2.2 := by
  unfold docF at h
  split at h
  · rename_i hc
    obtain ⟨hd, hz0, hz1⟩ := hc
    obtain ⟨i, rfl⟩ : ∃ i : Nat, z = i := ⟨z.toNat, by omega⟩
    have hi : i < d.length := by omega
    simp only [Int.toNat_natCast] at h
    obtain ⟨h8, hall, hou⟩ := docB_parts hd
    cases he : sinkF d i with
    | none => rw [he] at h; simp at h
    | some d' =>
      rw [he] at h
      simp only [Option.bind_some] at h
      split at h
      · cases h
        obtain ⟨hf, hl⟩ := sinkF_form hall hou hi he
        refine ⟨hl, fun k hk => ?_⟩
        unfold sinkF at he
        split at he
        · cases he
          rw [deep_get hk]
          split <;> rfl
        · cases he
      · cases h
  · cases h
set_option maxRecDepth 100000 in
set_option maxHeartbeats 16000000 in
theorem lawDocTexts_walk (a : Option Addr) (n cap : Nat) (zs : List Int) (w : World) (h : Byt w.heap.size w a n cap zs) :
    Calls Try.prog 7 #[.slice a n cap] w fun e w' => e = .returned (.bool true) ∧ Below w.heap.size w w' := by
  have HY : Hid (Byt w.heap.size w a n cap zs) := h
  have hc := h.2.1
  have hm := h.2.2.1
  unfold maxLen at hm
  clear h
  by_cases hn : 1048576 < n
  · have hd : decide ((1048576 : Int) < (n : Int)) = true := by simp; omega
    go_enter Try.func7, Try.ntmps7
    go_wp2_with fail
    go_ret
    exact ⟨rfl, Below.refl _ _⟩
  have hd : decide ((1048576 : Int) < (n : Int)) = false := by simp; omega
  go_enter Try.func7, Try.ntmps7
  go_wp2_with fail
  refine (drDrawDocLift_any w.heap.size a n cap zs _ HY.out (Nat.le_refl _)).mono ?_
  rintro e w1 ⟨⟨a0, m0, c0, d, z, rfl, hT1, hS1, hz0, hz1⟩, hb1⟩
  have sw1 := hb1.size
  have HBw1 : Hid (Below w.heap.size w w1) := hb1
  have HDw1 : Hid (Dc w1 a0 m0 c0 d) := hT1
  have HSP0 : Hid (DocSp d) := hS1
  clear hT1 hb1 hS1 hn hd HY
  obtain ⟨r, HRR⟩ : ∃ r, Hid (docF liftF d z = r) := ⟨_, rfl⟩
  obtain ⟨dr, HDR⟩ : ∃ dr, Hid (r.getD [] = dr) := ⟨_, rfl⟩
  obtain ⟨gg, HGB⟩ : ∃ g, Hid (r.isSome = g) := ⟨_, rfl⟩
  have HSP : Hid (∀ {a : Option Addr} {n cap : Nat} {u : World}, Dc u a n cap d → Calls Try.prog 18 #[.agg #[.slice a n cap], .int .i64 z] u fun e w' => (∃ p m q, e = .returned (.tuple #[.agg #[.slice p m q], .bool gg]) ∧ Dc w' p m q dr) ∧ Below u.heap.size u w') := fun hu => (specDocLift_any hu).mono fun e w' hr => by
    obtain ⟨h1, h2⟩ := hr
    rw [HRR.out] at h1
    obtain ⟨p, m, q, rbs, h3, h4⟩ := docRes_of h1
    rw [HGB.out] at h3
    rw [HDR.out] at h4
    exact ⟨⟨p, m, q, h3, h4.dc⟩, h2⟩
  have HIM : Hid (∀ {a : Option Addr} {n cap : Nat} {u : World}, Dc u a n cap d → Calls Try.prog 13 #[.agg #[.slice a n cap], .int .i64 z] u fun e w' => (∃ p m q, e = .returned (.tuple #[.agg #[.slice p m q], .bool gg]) ∧ Dc w' p m q dr) ∧ Below u.heap.size u w') := fun hu => (implDocLift_any hu).mono fun e w' hr => by
    obtain ⟨h1, h2⟩ := hr
    rw [HRR.out] at h1
    obtain ⟨p, m, q, rbs, h3, h4⟩ := docRes_of h1
    rw [HGB.out] at h3
    rw [HDR.out] at h4
    exact ⟨⟨p, m, q, h3, h4.dc⟩, h2⟩
  go_upto_region 4 with fail
  have hbw2 : Below w1.heap.size w1 (w1.alloc (.cells #[.slice a0 m0 c0] 25)) := (Below.refl _ _).alloc (Nat.le_refl _) _
  have hgw2 : RowAt (w1.alloc (.cells #[.slice a0 m0 c0] 25)) w1.heap.size #[.slice a0 m0 c0] 25 := rowAt_new _ _ _
  have hzw2 : w1.heap.size < (w1.alloc (.cells #[.slice a0 m0 c0] 25)).heap.size := by simp
  generalize hqw2 : (w1.alloc (.cells #[.slice a0 m0 c0] 25)) = w2 at hbw2 hgw2 hzw2 ⊢
  clear hqw2
  have sw2 := hbw2.size
  have HDw2 : Hid (Dc w2 a0 m0 c0 d) := HDw1.out.below hbw2
  have HBw2 : Hid (Below w.heap.size w w2) := HBw1.out.trans (hbw2.mono HBw1.out.size)
  clear HDw1 HBw1
  obtain ⟨X, hX⟩ : ∃ X, w1.heap.size = X := ⟨_, rfl⟩
  rw [hX] at hgw2 hzw2 ⊢
  have HGw2 : Hid (RowAt w2 X #[.slice a0 m0 c0] 25) := hgw2
  have kGw2 : w2.cell? ⟨X, 0, none⟩ = some (.slice a0 m0 c0) := hgw2.cell 0
  clear hgw2 hbw2 hX
  go_wp2_with fail
  refine (HSP.out HDw2.out).mono ?_
  rintro e w3 ⟨⟨p1, m1, q1, rfl, hO3⟩, hb3⟩
  have HEw3 : Hid (Dc w3 p1 m1 q1 dr) := hO3
  clear hO3
  have sw3 := hb3.size
  have HGw3 : Hid (RowAt w3 X #[.slice a0 m0 c0] 25) := HGw2.out.below hb3 HGw2.out.lt
  have kGw3 : w3.cell? ⟨X, 0, none⟩ = some (.slice a0 m0 c0) := HGw3.out.cell 0
  have HDw3 : Hid (Dc w3 a0 m0 c0 d) := HDw2.out.below hb3
  have HBw3 : Hid (Below w.heap.size w w3) := HBw2.out.trans (hb3.mono HBw2.out.size)
  clear HGw2 kGw2 HDw2 HBw2
  clear hb3
  go_upto_region 5 with fail
  have hbw4 : Below w3.heap.size w3 (w3.alloc (.cells #[.slice p1 m1 q1] 25)) := (Below.refl _ _).alloc (Nat.le_refl _) _
  have hgw4 : RowAt (w3.alloc (.cells #[.slice p1 m1 q1] 25)) w3.heap.size #[.slice p1 m1 q1] 25 := rowAt_new _ _ _
  have hzw4 : w3.heap.size < (w3.alloc (.cells #[.slice p1 m1 q1] 25)).heap.size := by simp
  generalize hqw4 : (w3.alloc (.cells #[.slice p1 m1 q1] 25)) = w4 at hbw4 hgw4 hzw4 ⊢
  clear hqw4
  have sw4 := hbw4.size
  have HGw4 : Hid (RowAt w4 X #[.slice a0 m0 c0] 25) := HGw3.out.below hbw4 HGw3.out.lt
  have kGw4 : w4.cell? ⟨X, 0, none⟩ = some (.slice a0 m0 c0) := HGw4.out.cell 0
  have HDw4 : Hid (Dc w4 a0 m0 c0 d) := HDw3.out.below hbw4
  have HEw4 : Hid (Dc w4 p1 m1 q1 dr) := HEw3.out.below hbw4
  have HBw4 : Hid (Below w.heap.size w w4) := HBw3.out.trans (hbw4.mono HBw3.out.size)
  clear HGw3 kGw3 HDw3 HEw3 HBw3
  obtain ⟨XV, hXV⟩ : ∃ X, w3.heap.size = X := ⟨_, rfl⟩
  rw [hXV] at hgw4 hzw4 ⊢
  have HVw4 : Hid (RowAt w4 XV #[.slice p1 m1 q1] 25) := hgw4
  have kVw4 : w4.cell? ⟨XV, 0, none⟩ = some (.slice p1 m1 q1) := hgw4.cell 0
  clear hgw4 hbw4 hXV
  go_wp2_with fail
  refine (HIM.out HDw4.out).mono ?_
  rintro e w5 ⟨⟨p2, m2, q2, rfl, hO5⟩, hb5⟩
  have HFw5 : Hid (Dc w5 p2 m2 q2 dr) := hO5
  clear hO5
  have sw5 := hb5.size
  have HGw5 : Hid (RowAt w5 X #[.slice a0 m0 c0] 25) := HGw4.out.below hb5 HGw4.out.lt
  have kGw5 : w5.cell? ⟨X, 0, none⟩ = some (.slice a0 m0 c0) := HGw5.out.cell 0
  have HVw5 : Hid (RowAt w5 XV #[.slice p1 m1 q1] 25) := HVw4.out.below hb5 HVw4.out.lt
  have kVw5 : w5.cell? ⟨XV, 0, none⟩ = some (.slice p1 m1 q1) := HVw5.out.cell 0
  have HDw5 : Hid (Dc w5 a0 m0 c0 d) := HDw4.out.below hb5
  have HEw5 : Hid (Dc w5 p1 m1 q1 dr) := HEw4.out.below hb5
  have HBw5 : Hid (Below w.heap.size w w5) := HBw4.out.trans (hb5.mono HBw4.out.size)
  clear HGw4 kGw4 HVw4 kVw4 HDw4 HEw4 HBw4
  clear hb5
  go_upto_region 6 with fail
  have hbw6 : Below w5.heap.size w5 (w5.alloc (.cells #[.slice p2 m2 q2] 25)) := (Below.refl _ _).alloc (Nat.le_refl _) _
  have hgw6 : RowAt (w5.alloc (.cells #[.slice p2 m2 q2] 25)) w5.heap.size #[.slice p2 m2 q2] 25 := rowAt_new _ _ _
  have hzw6 : w5.heap.size < (w5.alloc (.cells #[.slice p2 m2 q2] 25)).heap.size := by simp
  generalize hqw6 : (w5.alloc (.cells #[.slice p2 m2 q2] 25)) = w6 at hbw6 hgw6 hzw6 ⊢
  clear hqw6
  have sw6 := hbw6.size
  have HGw6 : Hid (RowAt w6 X #[.slice a0 m0 c0] 25) := HGw5.out.below hbw6 HGw5.out.lt
  have kGw6 : w6.cell? ⟨X, 0, none⟩ = some (.slice a0 m0 c0) := HGw6.out.cell 0
  have HVw6 : Hid (RowAt w6 XV #[.slice p1 m1 q1] 25) := HVw5.out.below hbw6 HVw5.out.lt
  have kVw6 : w6.cell? ⟨XV, 0, none⟩ = some (.slice p1 m1 q1) := HVw6.out.cell 0
  have HDw6 : Hid (Dc w6 a0 m0 c0 d) := HDw5.out.below hbw6
  have HEw6 : Hid (Dc w6 p1 m1 q1 dr) := HEw5.out.below hbw6
  have HFw6 : Hid (Dc w6 p2 m2 q2 dr) := HFw5.out.below hbw6
  have HBw6 : Hid (Below w.heap.size w w6) := HBw5.out.trans (hbw6.mono HBw5.out.size)
  clear HGw5 kGw5 HVw5 kVw5 HDw5 HEw5 HFw5 HBw5
  obtain ⟨XU, hXU⟩ : ∃ X, w5.heap.size = X := ⟨_, rfl⟩
  rw [hXU] at hgw6 hzw6 ⊢
  have HUw6 : Hid (RowAt w6 XU #[.slice p2 m2 q2] 25) := hgw6
  have kUw6 : w6.cell? ⟨XU, 0, none⟩ = some (.slice p2 m2 q2) := hgw6.cell 0
  clear hgw6 hbw6 hXU
  have gne : (gg != gg) = false := by cases gg <;> rfl
  have geq : (gg == gg) = true := by cases gg <;> rfl
  go_wp2_with fail
  refine (lmDoc_same HFw6.out HEw6.out).mono ?_
  rintro e w7 ⟨rfl, hb7⟩
  have sw7 := hb7.size
  have HGw7 : Hid (RowAt w7 X #[.slice a0 m0 c0] 25) := HGw6.out.below hb7 HGw6.out.lt
  have kGw7 : w7.cell? ⟨X, 0, none⟩ = some (.slice a0 m0 c0) := HGw7.out.cell 0
  have HVw7 : Hid (RowAt w7 XV #[.slice p1 m1 q1] 25) := HVw6.out.below hb7 HVw6.out.lt
  have kVw7 : w7.cell? ⟨XV, 0, none⟩ = some (.slice p1 m1 q1) := HVw7.out.cell 0
  have HUw7 : Hid (RowAt w7 XU #[.slice p2 m2 q2] 25) := HUw6.out.below hb7 HUw6.out.lt
  have kUw7 : w7.cell? ⟨XU, 0, none⟩ = some (.slice p2 m2 q2) := HUw7.out.cell 0
  have HDw7 : Hid (Dc w7 a0 m0 c0 d) := HDw6.out.below hb7
  have HEw7 : Hid (Dc w7 p1 m1 q1 dr) := HEw6.out.below hb7
  have HFw7 : Hid (Dc w7 p2 m2 q2 dr) := HFw6.out.below hb7
  have HBw7 : Hid (Below w.heap.size w w7) := HBw6.out.trans (hb7.mono HBw6.out.size)
  clear HGw6 kGw6 HVw6 kVw6 HUw6 kUw6 HDw6 HEw6 HFw6 HBw6
  clear hb7
  obtain ⟨r2, HR2⟩ : ∃ r, Hid (docF sinkF d z = r) := ⟨_, rfl⟩
  obtain ⟨ds, HDS⟩ : ∃ dr, Hid (r2.getD [] = dr) := ⟨_, rfl⟩
  obtain ⟨g2, HG2⟩ : ∃ g, Hid (r2.isSome = g) := ⟨_, rfl⟩
  have HSK : Hid (∀ {a : Option Addr} {n cap : Nat} {u : World}, Dc u a n cap d → Calls Try.prog 11 #[.agg #[.slice a n cap], .int .i64 z] u fun e w' => (∃ p m q, e = .returned (.tuple #[.agg #[.slice p m q], .bool g2]) ∧ Dc w' p m q ds) ∧ Below u.heap.size u w') := fun hu => (implDocSink_any hu).mono fun e w' hr => by
    obtain ⟨h1, h2⟩ := hr
    rw [HR2.out] at h1
    obtain ⟨p, m, q, rbs, h3, h4⟩ := docRes_of h1
    rw [HG2.out] at h3
    rw [HDS.out] at h4
    exact ⟨⟨p, m, q, h3, h4.dc⟩, h2⟩
  go_wp2_with fail
  refine (HSK.out HDw7.out).mono ?_
  rintro e w8 ⟨⟨p8, m8, q8, rfl, hO8⟩, hb8⟩
  have HSw8 : Hid (Dc w8 p8 m8 q8 ds) := hO8
  clear hO8
  have sw8 := hb8.size
  have HGw8 : Hid (RowAt w8 X #[.slice a0 m0 c0] 25) := HGw7.out.below hb8 HGw7.out.lt
  have kGw8 : w8.cell? ⟨X, 0, none⟩ = some (.slice a0 m0 c0) := HGw8.out.cell 0
  have HVw8 : Hid (RowAt w8 XV #[.slice p1 m1 q1] 25) := HVw7.out.below hb8 HVw7.out.lt
  have kVw8 : w8.cell? ⟨XV, 0, none⟩ = some (.slice p1 m1 q1) := HVw8.out.cell 0
  have HUw8 : Hid (RowAt w8 XU #[.slice p2 m2 q2] 25) := HUw7.out.below hb8 HUw7.out.lt
  have kUw8 : w8.cell? ⟨XU, 0, none⟩ = some (.slice p2 m2 q2) := HUw8.out.cell 0
  have HDw8 : Hid (Dc w8 a0 m0 c0 d) := HDw7.out.below hb8
  have HEw8 : Hid (Dc w8 p1 m1 q1 dr) := HEw7.out.below hb8
  have HFw8 : Hid (Dc w8 p2 m2 q2 dr) := HFw7.out.below hb8
  have HBw8 : Hid (Below w.heap.size w w8) := HBw7.out.trans (hb8.mono HBw7.out.size)
  clear HGw7 kGw7 HVw7 kVw7 HUw7 kUw7 HDw7 HEw7 HFw7 HBw7
  clear hb8
  go_upto_region 9 with fail
  have hbw9 : Below w8.heap.size w8 (w8.alloc (.cells #[.slice p8 m8 q8] 25)) := (Below.refl _ _).alloc (Nat.le_refl _) _
  have hgw9 : RowAt (w8.alloc (.cells #[.slice p8 m8 q8] 25)) w8.heap.size #[.slice p8 m8 q8] 25 := rowAt_new _ _ _
  have hzw9 : w8.heap.size < (w8.alloc (.cells #[.slice p8 m8 q8] 25)).heap.size := by simp
  generalize hqw9 : (w8.alloc (.cells #[.slice p8 m8 q8] 25)) = w9 at hbw9 hgw9 hzw9 ⊢
  clear hqw9
  have sw9 := hbw9.size
  have HGw9 : Hid (RowAt w9 X #[.slice a0 m0 c0] 25) := HGw8.out.below hbw9 HGw8.out.lt
  have kGw9 : w9.cell? ⟨X, 0, none⟩ = some (.slice a0 m0 c0) := HGw9.out.cell 0
  have HVw9 : Hid (RowAt w9 XV #[.slice p1 m1 q1] 25) := HVw8.out.below hbw9 HVw8.out.lt
  have kVw9 : w9.cell? ⟨XV, 0, none⟩ = some (.slice p1 m1 q1) := HVw9.out.cell 0
  have HUw9 : Hid (RowAt w9 XU #[.slice p2 m2 q2] 25) := HUw8.out.below hbw9 HUw8.out.lt
  have kUw9 : w9.cell? ⟨XU, 0, none⟩ = some (.slice p2 m2 q2) := HUw9.out.cell 0
  have HDw9 : Hid (Dc w9 a0 m0 c0 d) := HDw8.out.below hbw9
  have HEw9 : Hid (Dc w9 p1 m1 q1 dr) := HEw8.out.below hbw9
  have HFw9 : Hid (Dc w9 p2 m2 q2 dr) := HFw8.out.below hbw9
  have HSw9 : Hid (Dc w9 p8 m8 q8 ds) := HSw8.out.below hbw9
  have HBw9 : Hid (Below w.heap.size w w9) := HBw8.out.trans (hbw9.mono HBw8.out.size)
  clear HGw8 kGw8 HVw8 kVw8 HUw8 kUw8 HDw8 HEw8 HFw8 HSw8 HBw8
  obtain ⟨XS, hXS⟩ : ∃ X, w8.heap.size = X := ⟨_, rfl⟩
  rw [hXS] at hgw9 hzw9 ⊢
  have HQw9 : Hid (RowAt w9 XS #[.slice p8 m8 q8] 25) := hgw9
  have kQw9 : w9.cell? ⟨XS, 0, none⟩ = some (.slice p8 m8 q8) := hgw9.cell 0
  clear hgw9 hbw9 hXS
  have HXL : Hid (gg = true → dr.length = d.length ∧ ∀ k, k < d.length → (dr.getD k bl0).2.2 = (d.getD k bl0).2.2) := fun h => by
    obtain ⟨x, hx⟩ := Option.isSome_iff_exists.1 (HGB.out.trans h)
    have hdx : dr = x := by rw [← HDR.out, hx]; rfl
    rw [hdx]
    exact lift_texts (HRR.out.trans hx)
  have HXS : Hid (g2 = true → ds.length = d.length ∧ ∀ k, k < d.length → (ds.getD k bl0).2.2 = (d.getD k bl0).2.2) := fun h => by
    obtain ⟨x, hx⟩ := Option.isSome_iff_exists.1 (HG2.out.trans h)
    have hdx : ds = x := by rw [← HDS.out, hx]; rfl
    rw [hdx]
    exact sink_texts (HR2.out.trans hx)
  clear HIM HSP HRR HDR HGB HR2 HDS HG2 HSK
  have HML : Hid (m0 = d.length) := HDw9.out.1
  have hmc := HDw9.out.2.1
  have hmx := HDw9.out.2.2.1
  have hxc := HFw9.out.2.1
  have hxx := HFw9.out.2.2.1
  have hsc := HSw9.out.2.1
  have hsx := HSw9.out.2.2.1
  unfold maxLen at hmx hxx hsx
  go_wp2_with fail
  go_loopw [11] (fun kv wr => ∃ (k : Nat), k ≤ m0 ∧ kv = .int .i64 (k : Int) ∧ Below w9.heap.size w9 wr) (fun kv _ => m0 - (intOf kv).toNat)
  case atStart => exact ⟨0, Nat.zero_le _, rfl, Below.refl _ _⟩
  case round =>
    obtain ⟨k, hk, rfl, hbl⟩ := hrel
    have hsz := hbl.size
    have HBL : Hid (Below w9.heap.size w9 wr) := hbl
    have zX : X < wr.heap.size := Nat.lt_of_lt_of_le HGw9.out.lt hsz
    have zU : XU < wr.heap.size := Nat.lt_of_lt_of_le HUw9.out.lt hsz
    have zS : XS < wr.heap.size := Nat.lt_of_lt_of_le HQw9.out.lt hsz
    have kG : wr.cell? ⟨X, 0, none⟩ = some (.slice a0 m0 c0) := (HGw9.out.below hbl HGw9.out.lt).cell 0
    clear kGw9 kUw9 kVw9 kQw9
    by_cases hkm : k < m0
    · have hkd : k < d.length := by rw [← HML.out]; exact hkm
      have hkb : (k : Int) < (m0 : Int) := by omega
      have hk0 : (0 : Int) ≤ (k : Int) := by omega
      rcases (HDw9.out.below hbl).2.2.2 with e | ⟨b, off, rfl, zb, hcl⟩
      · rw [e] at hkd
        exact absurd hkd (by simp)
      obtain ⟨ta, tn, tc, ca, cn, cc, -, -, c2, c3, c4, c5, htx, htb⟩ := hcl k hkd
      obtain ⟨⟨K, V, t, R, Cc, l⟩, hy⟩ : ∃ y, y = d.getD k bl0 := ⟨_, rfl⟩
      have HY : Hid (d.getD k bl0 = (K, V, t, R, Cc, l)) := hy.symm
      rw [← hy] at c3 c4 htx htb
      simp only at c3 c4 htx htb
      have HTT : Hid (Txt wr ta tn tc t) := htx
      have HTC : Hid (Tab wr ca cn cc l) := htb
      clear hcl hy htx htb
      cases gg
      · cases g2
        · clear hbl
          go_wp2_with fail
          refine wp_region_noPanic ?_
          refine wp_region_held_drew (S := fun w' => Below wr.drew.heap.size wr.drew w') (by kernel_rfl) (Below.refl _ _) (fun hHeld => ?_)
          refine take_at 0 54 (.bool false) rfl rfl (by kernel_rfl) (by kernel_rfl) (by kernel_rfl) (fun _ _ _ h => h) (Or.inl ⟨by kernel_rfl, fun w' hS' => by go_simp⟩) hHeld ?_
          (try simp only [Act.put, List.setIfInBounds_toArray, List.set_cons_zero, List.set_cons_succ])
          refine take_at 1 55 (.bool false) rfl rfl (by kernel_rfl) (by kernel_rfl) (by kernel_rfl) (fun _ _ _ h => h) (Or.inl ⟨by kernel_rfl, fun w' hS' => by go_simp⟩) hHeld ?_
          (try simp only [Act.put, List.setIfInBounds_toArray, List.set_cons_zero, List.set_cons_succ])
          refine take_at 2 56 (undef) rfl rfl (by kernel_rfl) (by kernel_rfl) (by kernel_rfl) (fun _ _ _ h => h) (Or.inr ⟨by kernel_rfl, rfl⟩) hHeld ?_
          (try simp only [Act.put, List.setIfInBounds_toArray, List.set_cons_zero, List.set_cons_succ])
          refine take_at 3 57 (undef) rfl rfl (by kernel_rfl) (by kernel_rfl) (by kernel_rfl) (fun _ _ _ h => h) (Or.inr ⟨by kernel_rfl, rfl⟩) hHeld ?_
          (try simp only [Act.put, List.setIfInBounds_toArray, List.set_cons_zero, List.set_cons_succ])
          refine take_at 4 58 (undef) rfl rfl (by kernel_rfl) (by kernel_rfl) (by kernel_rfl) (fun _ _ _ h => h) (Or.inr ⟨by kernel_rfl, rfl⟩) hHeld ?_
          (try simp only [Act.put, List.setIfInBounds_toArray, List.set_cons_zero, List.set_cons_succ])
          refine take_at 5 59 (undef) rfl rfl (by kernel_rfl) (by kernel_rfl) (by kernel_rfl) (fun _ _ _ h => h) (Or.inr ⟨by kernel_rfl, rfl⟩) hHeld ?_
          (try simp only [Act.put, List.setIfInBounds_toArray, List.set_cons_zero, List.set_cons_succ])
          refine take_at 6 60 (undef) rfl rfl (by kernel_rfl) (by kernel_rfl) (by kernel_rfl) (fun _ _ _ h => h) (Or.inr ⟨by kernel_rfl, rfl⟩) hHeld ?_
          (try simp only [Act.put, List.setIfInBounds_toArray, List.set_cons_zero, List.set_cons_succ])
          refine take_at 7 61 (undef) rfl rfl (by kernel_rfl) (by kernel_rfl) (by kernel_rfl) (fun _ _ _ h => h) (Or.inr ⟨by kernel_rfl, rfl⟩) hHeld ?_
          (try simp only [Act.put, List.setIfInBounds_toArray, List.set_cons_zero, List.set_cons_succ])
          refine take_at 8 62 (undef) rfl rfl (by kernel_rfl) (by kernel_rfl) (by kernel_rfl) (fun _ _ _ h => h) (Or.inr ⟨by kernel_rfl, rfl⟩) hHeld ?_
          (try simp only [Act.put, List.setIfInBounds_toArray, List.set_cons_zero, List.set_cons_succ])
          refine take_at 9 63 (undef) rfl rfl (by kernel_rfl) (by kernel_rfl) (by kernel_rfl) (fun _ _ _ h => h) (Or.inr ⟨by kernel_rfl, rfl⟩) hHeld ?_
          (try simp only [Act.put, List.setIfInBounds_toArray, List.set_cons_zero, List.set_cons_succ])
          refine take_at 10 64 (undef) rfl rfl (by kernel_rfl) (by kernel_rfl) (by kernel_rfl) (fun _ _ _ h => h) (Or.inr ⟨by kernel_rfl, rfl⟩) hHeld ?_
          (try simp only [Act.put, List.setIfInBounds_toArray, List.set_cons_zero, List.set_cons_succ])
          refine take_at 11 65 (undef) rfl rfl (by kernel_rfl) (by kernel_rfl) (by kernel_rfl) (fun _ _ _ h => h) (Or.inr ⟨by kernel_rfl, rfl⟩) hHeld ?_
          (try simp only [Act.put, List.setIfInBounds_toArray, List.set_cons_zero, List.set_cons_succ])
          refine take_at 12 66 (undef) rfl rfl (by kernel_rfl) (by kernel_rfl) (by kernel_rfl) (fun _ _ _ h => h) (Or.inr ⟨by kernel_rfl, rfl⟩) hHeld ?_
          (try simp only [Act.put, List.setIfInBounds_toArray, List.set_cons_zero, List.set_cons_succ])
          refine take_at 13 67 (undef) rfl rfl (by kernel_rfl) (by kernel_rfl) (by kernel_rfl) (fun _ _ _ h => h) (Or.inr ⟨by kernel_rfl, rfl⟩) hHeld ?_
          (try simp only [Act.put, List.setIfInBounds_toArray, List.set_cons_zero, List.set_cons_succ])
          refine take_at 14 68 (undef) rfl rfl (by kernel_rfl) (by kernel_rfl) (by kernel_rfl) (fun _ _ _ h => h) (Or.inr ⟨by kernel_rfl, rfl⟩) hHeld ?_
          (try simp only [Act.put, List.setIfInBounds_toArray, List.set_cons_zero, List.set_cons_succ])
          refine take_at 15 69 (undef) rfl rfl (by kernel_rfl) (by kernel_rfl) (by kernel_rfl) (fun _ _ _ h => h) (Or.inr ⟨by kernel_rfl, rfl⟩) hHeld ?_
          (try simp only [Act.put, List.setIfInBounds_toArray, List.set_cons_zero, List.set_cons_succ])
          refine take_at 16 70 (undef) rfl rfl (by kernel_rfl) (by kernel_rfl) (by kernel_rfl) (fun _ _ _ h => h) (Or.inr ⟨by kernel_rfl, rfl⟩) hHeld ?_
          (try simp only [Act.put, List.setIfInBounds_toArray, List.set_cons_zero, List.set_cons_succ])
          refine take_at 17 71 (undef) rfl rfl (by kernel_rfl) (by kernel_rfl) (by kernel_rfl) (fun _ _ _ h => h) (Or.inr ⟨by kernel_rfl, rfl⟩) hHeld ?_
          (try simp only [Act.put, List.setIfInBounds_toArray, List.set_cons_zero, List.set_cons_succ])
          refine take_at 18 72 (undef) rfl rfl (by kernel_rfl) (by kernel_rfl) (by kernel_rfl) (fun _ _ _ h => h) (Or.inr ⟨by kernel_rfl, rfl⟩) hHeld ?_
          (try simp only [Act.put, List.setIfInBounds_toArray, List.set_cons_zero, List.set_cons_succ])
          refine take_at 19 73 (undef) rfl rfl (by kernel_rfl) (by kernel_rfl) (by kernel_rfl) (fun _ _ _ h => h) (Or.inr ⟨by kernel_rfl, rfl⟩) hHeld ?_
          (try simp only [Act.put, List.setIfInBounds_toArray, List.set_cons_zero, List.set_cons_succ])
          refine take_at 20 74 (undef) rfl rfl (by kernel_rfl) (by kernel_rfl) (by kernel_rfl) (fun _ _ _ h => h) (Or.inr ⟨by kernel_rfl, rfl⟩) hHeld ?_
          (try simp only [Act.put, List.setIfInBounds_toArray, List.set_cons_zero, List.set_cons_succ])
          refine take_at 21 75 (undef) rfl rfl (by kernel_rfl) (by kernel_rfl) (by kernel_rfl) (fun _ _ _ h => h) (Or.inr ⟨by kernel_rfl, rfl⟩) hHeld ?_
          (try simp only [Act.put, List.setIfInBounds_toArray, List.set_cons_zero, List.set_cons_succ])
          refine take_at 22 76 (undef) rfl rfl (by kernel_rfl) (by kernel_rfl) (by kernel_rfl) (fun _ _ _ h => h) (Or.inr ⟨by kernel_rfl, rfl⟩) hHeld ?_
          (try simp only [Act.put, List.setIfInBounds_toArray, List.set_cons_zero, List.set_cons_succ])
          refine take_at 23 77 (undef) rfl rfl (by kernel_rfl) (by kernel_rfl) (by kernel_rfl) (fun _ _ _ h => h) (Or.inr ⟨by kernel_rfl, rfl⟩) hHeld ?_
          (try simp only [Act.put, List.setIfInBounds_toArray, List.set_cons_zero, List.set_cons_succ])
          refine take_at 24 78 (undef) rfl rfl (by kernel_rfl) (by kernel_rfl) (by kernel_rfl) (fun _ _ _ h => h) (Or.inr ⟨by kernel_rfl, rfl⟩) hHeld ?_
          (try simp only [Act.put, List.setIfInBounds_toArray, List.set_cons_zero, List.set_cons_succ])
          refine take_at 25 79 (undef) rfl rfl (by kernel_rfl) (by kernel_rfl) (by kernel_rfl) (fun _ _ _ h => h) (Or.inr ⟨by kernel_rfl, rfl⟩) hHeld ?_
          (try simp only [Act.put, List.setIfInBounds_toArray, List.set_cons_zero, List.set_cons_succ])
          refine take_at 26 80 (undef) rfl rfl (by kernel_rfl) (by kernel_rfl) (by kernel_rfl) (fun _ _ _ h => h) (Or.inr ⟨by kernel_rfl, rfl⟩) hHeld ?_
          (try simp only [Act.put, List.setIfInBounds_toArray, List.set_cons_zero, List.set_cons_succ])
          refine take_at 27 81 (undef) rfl rfl (by kernel_rfl) (by kernel_rfl) (by kernel_rfl) (fun _ _ _ h => h) (Or.inr ⟨by kernel_rfl, rfl⟩) hHeld ?_
          (try simp only [Act.put, List.setIfInBounds_toArray, List.set_cons_zero, List.set_cons_succ])
          refine take_at 28 82 (undef) rfl rfl (by kernel_rfl) (by kernel_rfl) (by kernel_rfl) (fun _ _ _ h => h) (Or.inr ⟨by kernel_rfl, rfl⟩) hHeld ?_
          (try simp only [Act.put, List.setIfInBounds_toArray, List.set_cons_zero, List.set_cons_succ])
          refine take_at 29 83 (undef) rfl rfl (by kernel_rfl) (by kernel_rfl) (by kernel_rfl) (fun _ _ _ h => h) (Or.inr ⟨by kernel_rfl, rfl⟩) hHeld ?_
          (try simp only [Act.put, List.setIfInBounds_toArray, List.set_cons_zero, List.set_cons_succ])
          refine take_at 30 84 (undef) rfl rfl (by kernel_rfl) (by kernel_rfl) (by kernel_rfl) (fun _ _ _ h => h) (Or.inr ⟨by kernel_rfl, rfl⟩) hHeld ?_
          (try simp only [Act.put, List.setIfInBounds_toArray, List.set_cons_zero, List.set_cons_succ])
          refine take_at 31 85 (undef) rfl rfl (by kernel_rfl) (by kernel_rfl) (by kernel_rfl) (fun _ _ _ h => h) (Or.inr ⟨by kernel_rfl, rfl⟩) hHeld ?_
          (try simp only [Act.put, List.setIfInBounds_toArray, List.set_cons_zero, List.set_cons_succ])
          refine take_at 32 86 (.bool false) rfl rfl (by kernel_rfl) (by kernel_rfl) (by kernel_rfl) (fun _ _ _ h => h) (Or.inl ⟨by kernel_rfl, fun w' hS' => by go_simp⟩) hHeld ?_
          (try simp only [Act.put, List.setIfInBounds_toArray, List.set_cons_zero, List.set_cons_succ])
          refine take_at 33 87 (.bool false) rfl rfl (by kernel_rfl) (by kernel_rfl) (by kernel_rfl) (fun _ _ _ h => h) (Or.inl ⟨by kernel_rfl, fun w' hS' => by go_simp⟩) hHeld ?_
          (try simp only [Act.put, List.setIfInBounds_toArray, List.set_cons_zero, List.set_cons_succ])
          refine take_at 34 88 (.bool false) rfl rfl (by kernel_rfl) (by kernel_rfl) (by kernel_rfl) (fun _ _ _ h => h) (Or.inl ⟨by kernel_rfl, fun w' hS' => by go_simp⟩) hHeld ?_
          (try simp only [Act.put, List.setIfInBounds_toArray, List.set_cons_zero, List.set_cons_succ])
          refine take_at 35 89 (.bool false) rfl rfl (by kernel_rfl) (by kernel_rfl) (by kernel_rfl) (fun _ _ _ h => h) (Or.inl ⟨by kernel_rfl, fun w' hS' => by go_simp⟩) hHeld ?_
          (try simp only [Act.put, List.setIfInBounds_toArray, List.set_cons_zero, List.set_cons_succ])
          refine take_at 36 90 (undef) rfl rfl (by kernel_rfl) (by kernel_rfl) (by kernel_rfl) (fun _ _ _ h => h) (Or.inr ⟨by kernel_rfl, rfl⟩) hHeld ?_
          (try simp only [Act.put, List.setIfInBounds_toArray, List.set_cons_zero, List.set_cons_succ])
          refine take_at 37 91 (undef) rfl rfl (by kernel_rfl) (by kernel_rfl) (by kernel_rfl) (fun _ _ _ h => h) (Or.inr ⟨by kernel_rfl, rfl⟩) hHeld ?_
          (try simp only [Act.put, List.setIfInBounds_toArray, List.set_cons_zero, List.set_cons_succ])
          refine take_at 38 92 (undef) rfl rfl (by kernel_rfl) (by kernel_rfl) (by kernel_rfl) (fun _ _ _ h => h) (Or.inr ⟨by kernel_rfl, rfl⟩) hHeld ?_
          (try simp only [Act.put, List.setIfInBounds_toArray, List.set_cons_zero, List.set_cons_succ])
          refine take_at 39 93 (undef) rfl rfl (by kernel_rfl) (by kernel_rfl) (by kernel_rfl) (fun _ _ _ h => h) (Or.inr ⟨by kernel_rfl, rfl⟩) hHeld ?_
          (try simp only [Act.put, List.setIfInBounds_toArray, List.set_cons_zero, List.set_cons_succ])
          refine take_at 40 94 (undef) rfl rfl (by kernel_rfl) (by kernel_rfl) (by kernel_rfl) (fun _ _ _ h => h) (Or.inr ⟨by kernel_rfl, rfl⟩) hHeld ?_
          (try simp only [Act.put, List.setIfInBounds_toArray, List.set_cons_zero, List.set_cons_succ])
          refine take_at 41 95 (undef) rfl rfl (by kernel_rfl) (by kernel_rfl) (by kernel_rfl) (fun _ _ _ h => h) (Or.inr ⟨by kernel_rfl, rfl⟩) hHeld ?_
          (try simp only [Act.put, List.setIfInBounds_toArray, List.set_cons_zero, List.set_cons_succ])
          refine take_at 42 96 (undef) rfl rfl (by kernel_rfl) (by kernel_rfl) (by kernel_rfl) (fun _ _ _ h => h) (Or.inr ⟨by kernel_rfl, rfl⟩) hHeld ?_
          (try simp only [Act.put, List.setIfInBounds_toArray, List.set_cons_zero, List.set_cons_succ])
          refine take_at 43 97 (undef) rfl rfl (by kernel_rfl) (by kernel_rfl) (by kernel_rfl) (fun _ _ _ h => h) (Or.inr ⟨by kernel_rfl, rfl⟩) hHeld ?_
          (try simp only [Act.put, List.setIfInBounds_toArray, List.set_cons_zero, List.set_cons_succ])
          refine take_at 44 98 (undef) rfl rfl (by kernel_rfl) (by kernel_rfl) (by kernel_rfl) (fun _ _ _ h => h) (Or.inr ⟨by kernel_rfl, rfl⟩) hHeld ?_
          (try simp only [Act.put, List.setIfInBounds_toArray, List.set_cons_zero, List.set_cons_succ])
          refine take_at 45 99 (undef) rfl rfl (by kernel_rfl) (by kernel_rfl) (by kernel_rfl) (fun _ _ _ h => h) (Or.inr ⟨by kernel_rfl, rfl⟩) hHeld ?_
          (try simp only [Act.put, List.setIfInBounds_toArray, List.set_cons_zero, List.set_cons_succ])
          refine take_at 46 100 (undef) rfl rfl (by kernel_rfl) (by kernel_rfl) (by kernel_rfl) (fun _ _ _ h => h) (Or.inr ⟨by kernel_rfl, rfl⟩) hHeld ?_
          (try simp only [Act.put, List.setIfInBounds_toArray, List.set_cons_zero, List.set_cons_succ])
          refine take_at 47 101 (undef) rfl rfl (by kernel_rfl) (by kernel_rfl) (by kernel_rfl) (fun _ _ _ h => h) (Or.inr ⟨by kernel_rfl, rfl⟩) hHeld ?_
          (try simp only [Act.put, List.setIfInBounds_toArray, List.set_cons_zero, List.set_cons_succ])
          refine take_at 48 102 (undef) rfl rfl (by kernel_rfl) (by kernel_rfl) (by kernel_rfl) (fun _ _ _ h => h) (Or.inr ⟨by kernel_rfl, rfl⟩) hHeld ?_
          (try simp only [Act.put, List.setIfInBounds_toArray, List.set_cons_zero, List.set_cons_succ])
          refine take_at 49 103 (undef) rfl rfl (by kernel_rfl) (by kernel_rfl) (by kernel_rfl) (fun _ _ _ h => h) (Or.inr ⟨by kernel_rfl, rfl⟩) hHeld ?_
          (try simp only [Act.put, List.setIfInBounds_toArray, List.set_cons_zero, List.set_cons_succ])
          refine take_at 50 104 (.bool false) rfl rfl (by kernel_rfl) (by kernel_rfl) (by kernel_rfl) (fun _ _ _ h => h) (Or.inl ⟨by kernel_rfl, fun w' hS' => by go_simp⟩) hHeld ?_
          (try simp only [Act.put, List.setIfInBounds_toArray, List.set_cons_zero, List.set_cons_succ])
          refine take_at 51 105 (.bool false) rfl rfl (by kernel_rfl) (by kernel_rfl) (by kernel_rfl) (fun _ _ _ h => h) (Or.inl ⟨by kernel_rfl, fun w' hS' => by go_simp⟩) hHeld ?_
          (try simp only [Act.put, List.setIfInBounds_toArray, List.set_cons_zero, List.set_cons_succ])
          refine wpAnyH_done (by kernel_rfl) ?_ _
          refine NoPanic.normal ?_
          go_wp2_with fail
          go_roundw
          case rel => exact ⟨k + 1, by omega, by go_num, HBL.out.drew⟩
          case measure => simp [intOf]; omega
        · have hks : k < ds.length := by rw [(HXS.out rfl).1]; exact hkd
          have kS : wr.cell? ⟨XS, 0, none⟩ = some (.slice p8 m8 q8) := (HQw9.out.below hbl HQw9.out.lt).cell 0
          have hks2 : (k : Int) < (m8 : Int) := by have := HSw9.out.1; omega
          rcases (HSw9.out.below hbl).2.2.2 with e | ⟨bs, offs, rfl, zs, hcs⟩
          · rw [e] at hks
            exact absurd hks (by simp)
          obtain ⟨sa, sn, sc, _, _, _, -, -, s2, -, -, -, hst, -⟩ := hcs k hks
          have hse := (HXS.out rfl).2 k hkd
          rw [HY.out] at hse
          rw [hse] at hst
          simp only at hst
          have HST : Hid (Txt wr sa sn sc t) := hst
          clear hcs hse hst
          clear hbl
          go_wp2_with fail
          refine wp_region_noPanic ?_
          refine wp_region_held_drew (S := fun w' => Below wr.drew.heap.size wr.drew w') (by kernel_rfl) (Below.refl _ _) (fun hHeld => ?_)
          refine take_at 0 54 (.bool false) rfl rfl (by kernel_rfl) (by kernel_rfl) (by kernel_rfl) (fun _ _ _ h => h) (Or.inl ⟨by kernel_rfl, fun w' hS' => by go_simp⟩) hHeld ?_
          (try simp only [Act.put, List.setIfInBounds_toArray, List.set_cons_zero, List.set_cons_succ])
          refine take_at 1 55 (.bool false) rfl rfl (by kernel_rfl) (by kernel_rfl) (by kernel_rfl) (fun _ _ _ h => h) (Or.inl ⟨by kernel_rfl, fun w' hS' => by go_simp⟩) hHeld ?_
          (try simp only [Act.put, List.setIfInBounds_toArray, List.set_cons_zero, List.set_cons_succ])
          refine take_at 2 56 (undef) rfl rfl (by kernel_rfl) (by kernel_rfl) (by kernel_rfl) (fun _ _ _ h => h) (Or.inr ⟨by kernel_rfl, rfl⟩) hHeld ?_
          (try simp only [Act.put, List.setIfInBounds_toArray, List.set_cons_zero, List.set_cons_succ])
          refine take_at 3 57 (undef) rfl rfl (by kernel_rfl) (by kernel_rfl) (by kernel_rfl) (fun _ _ _ h => h) (Or.inr ⟨by kernel_rfl, rfl⟩) hHeld ?_
          (try simp only [Act.put, List.setIfInBounds_toArray, List.set_cons_zero, List.set_cons_succ])
          refine take_at 4 58 (undef) rfl rfl (by kernel_rfl) (by kernel_rfl) (by kernel_rfl) (fun _ _ _ h => h) (Or.inr ⟨by kernel_rfl, rfl⟩) hHeld ?_
          (try simp only [Act.put, List.setIfInBounds_toArray, List.set_cons_zero, List.set_cons_succ])
          refine take_at 5 59 (undef) rfl rfl (by kernel_rfl) (by kernel_rfl) (by kernel_rfl) (fun _ _ _ h => h) (Or.inr ⟨by kernel_rfl, rfl⟩) hHeld ?_
          (try simp only [Act.put, List.setIfInBounds_toArray, List.set_cons_zero, List.set_cons_succ])
          refine take_at 6 60 (undef) rfl rfl (by kernel_rfl) (by kernel_rfl) (by kernel_rfl) (fun _ _ _ h => h) (Or.inr ⟨by kernel_rfl, rfl⟩) hHeld ?_
          (try simp only [Act.put, List.setIfInBounds_toArray, List.set_cons_zero, List.set_cons_succ])
          refine take_at 7 61 (undef) rfl rfl (by kernel_rfl) (by kernel_rfl) (by kernel_rfl) (fun _ _ _ h => h) (Or.inr ⟨by kernel_rfl, rfl⟩) hHeld ?_
          (try simp only [Act.put, List.setIfInBounds_toArray, List.set_cons_zero, List.set_cons_succ])
          refine take_at 8 62 (undef) rfl rfl (by kernel_rfl) (by kernel_rfl) (by kernel_rfl) (fun _ _ _ h => h) (Or.inr ⟨by kernel_rfl, rfl⟩) hHeld ?_
          (try simp only [Act.put, List.setIfInBounds_toArray, List.set_cons_zero, List.set_cons_succ])
          refine take_at 9 63 (undef) rfl rfl (by kernel_rfl) (by kernel_rfl) (by kernel_rfl) (fun _ _ _ h => h) (Or.inr ⟨by kernel_rfl, rfl⟩) hHeld ?_
          (try simp only [Act.put, List.setIfInBounds_toArray, List.set_cons_zero, List.set_cons_succ])
          refine take_at 10 64 (undef) rfl rfl (by kernel_rfl) (by kernel_rfl) (by kernel_rfl) (fun _ _ _ h => h) (Or.inr ⟨by kernel_rfl, rfl⟩) hHeld ?_
          (try simp only [Act.put, List.setIfInBounds_toArray, List.set_cons_zero, List.set_cons_succ])
          refine take_at 11 65 (undef) rfl rfl (by kernel_rfl) (by kernel_rfl) (by kernel_rfl) (fun _ _ _ h => h) (Or.inr ⟨by kernel_rfl, rfl⟩) hHeld ?_
          (try simp only [Act.put, List.setIfInBounds_toArray, List.set_cons_zero, List.set_cons_succ])
          refine take_at 12 66 (undef) rfl rfl (by kernel_rfl) (by kernel_rfl) (by kernel_rfl) (fun _ _ _ h => h) (Or.inr ⟨by kernel_rfl, rfl⟩) hHeld ?_
          (try simp only [Act.put, List.setIfInBounds_toArray, List.set_cons_zero, List.set_cons_succ])
          refine take_at 13 67 (undef) rfl rfl (by kernel_rfl) (by kernel_rfl) (by kernel_rfl) (fun _ _ _ h => h) (Or.inr ⟨by kernel_rfl, rfl⟩) hHeld ?_
          (try simp only [Act.put, List.setIfInBounds_toArray, List.set_cons_zero, List.set_cons_succ])
          refine take_at 14 68 (undef) rfl rfl (by kernel_rfl) (by kernel_rfl) (by kernel_rfl) (fun _ _ _ h => h) (Or.inr ⟨by kernel_rfl, rfl⟩) hHeld ?_
          (try simp only [Act.put, List.setIfInBounds_toArray, List.set_cons_zero, List.set_cons_succ])
          refine take_at 15 69 (undef) rfl rfl (by kernel_rfl) (by kernel_rfl) (by kernel_rfl) (fun _ _ _ h => h) (Or.inr ⟨by kernel_rfl, rfl⟩) hHeld ?_
          (try simp only [Act.put, List.setIfInBounds_toArray, List.set_cons_zero, List.set_cons_succ])
          refine take_at 16 70 (undef) rfl rfl (by kernel_rfl) (by kernel_rfl) (by kernel_rfl) (fun _ _ _ h => h) (Or.inr ⟨by kernel_rfl, rfl⟩) hHeld ?_
          (try simp only [Act.put, List.setIfInBounds_toArray, List.set_cons_zero, List.set_cons_succ])
          refine take_at 17 71 (undef) rfl rfl (by kernel_rfl) (by kernel_rfl) (by kernel_rfl) (fun _ _ _ h => h) (Or.inr ⟨by kernel_rfl, rfl⟩) hHeld ?_
          (try simp only [Act.put, List.setIfInBounds_toArray, List.set_cons_zero, List.set_cons_succ])
          refine take_at 18 72 (undef) rfl rfl (by kernel_rfl) (by kernel_rfl) (by kernel_rfl) (fun _ _ _ h => h) (Or.inr ⟨by kernel_rfl, rfl⟩) hHeld ?_
          (try simp only [Act.put, List.setIfInBounds_toArray, List.set_cons_zero, List.set_cons_succ])
          refine take_at 19 73 (undef) rfl rfl (by kernel_rfl) (by kernel_rfl) (by kernel_rfl) (fun _ _ _ h => h) (Or.inr ⟨by kernel_rfl, rfl⟩) hHeld ?_
          (try simp only [Act.put, List.setIfInBounds_toArray, List.set_cons_zero, List.set_cons_succ])
          refine take_at 20 74 (undef) rfl rfl (by kernel_rfl) (by kernel_rfl) (by kernel_rfl) (fun _ _ _ h => h) (Or.inr ⟨by kernel_rfl, rfl⟩) hHeld ?_
          (try simp only [Act.put, List.setIfInBounds_toArray, List.set_cons_zero, List.set_cons_succ])
          refine take_at 21 75 (undef) rfl rfl (by kernel_rfl) (by kernel_rfl) (by kernel_rfl) (fun _ _ _ h => h) (Or.inr ⟨by kernel_rfl, rfl⟩) hHeld ?_
          (try simp only [Act.put, List.setIfInBounds_toArray, List.set_cons_zero, List.set_cons_succ])
          refine take_at 22 76 (undef) rfl rfl (by kernel_rfl) (by kernel_rfl) (by kernel_rfl) (fun _ _ _ h => h) (Or.inr ⟨by kernel_rfl, rfl⟩) hHeld ?_
          (try simp only [Act.put, List.setIfInBounds_toArray, List.set_cons_zero, List.set_cons_succ])
          refine take_at 23 77 (undef) rfl rfl (by kernel_rfl) (by kernel_rfl) (by kernel_rfl) (fun _ _ _ h => h) (Or.inr ⟨by kernel_rfl, rfl⟩) hHeld ?_
          (try simp only [Act.put, List.setIfInBounds_toArray, List.set_cons_zero, List.set_cons_succ])
          refine take_at 24 78 (undef) rfl rfl (by kernel_rfl) (by kernel_rfl) (by kernel_rfl) (fun _ _ _ h => h) (Or.inr ⟨by kernel_rfl, rfl⟩) hHeld ?_
          (try simp only [Act.put, List.setIfInBounds_toArray, List.set_cons_zero, List.set_cons_succ])
          refine take_at 25 79 (undef) rfl rfl (by kernel_rfl) (by kernel_rfl) (by kernel_rfl) (fun _ _ _ h => h) (Or.inr ⟨by kernel_rfl, rfl⟩) hHeld ?_
          (try simp only [Act.put, List.setIfInBounds_toArray, List.set_cons_zero, List.set_cons_succ])
          refine take_at 26 80 (undef) rfl rfl (by kernel_rfl) (by kernel_rfl) (by kernel_rfl) (fun _ _ _ h => h) (Or.inr ⟨by kernel_rfl, rfl⟩) hHeld ?_
          (try simp only [Act.put, List.setIfInBounds_toArray, List.set_cons_zero, List.set_cons_succ])
          refine take_at 27 81 (undef) rfl rfl (by kernel_rfl) (by kernel_rfl) (by kernel_rfl) (fun _ _ _ h => h) (Or.inr ⟨by kernel_rfl, rfl⟩) hHeld ?_
          (try simp only [Act.put, List.setIfInBounds_toArray, List.set_cons_zero, List.set_cons_succ])
          refine take_at 28 82 (undef) rfl rfl (by kernel_rfl) (by kernel_rfl) (by kernel_rfl) (fun _ _ _ h => h) (Or.inr ⟨by kernel_rfl, rfl⟩) hHeld ?_
          (try simp only [Act.put, List.setIfInBounds_toArray, List.set_cons_zero, List.set_cons_succ])
          refine take_at 29 83 (undef) rfl rfl (by kernel_rfl) (by kernel_rfl) (by kernel_rfl) (fun _ _ _ h => h) (Or.inr ⟨by kernel_rfl, rfl⟩) hHeld ?_
          (try simp only [Act.put, List.setIfInBounds_toArray, List.set_cons_zero, List.set_cons_succ])
          refine take_at 30 84 (undef) rfl rfl (by kernel_rfl) (by kernel_rfl) (by kernel_rfl) (fun _ _ _ h => h) (Or.inr ⟨by kernel_rfl, rfl⟩) hHeld ?_
          (try simp only [Act.put, List.setIfInBounds_toArray, List.set_cons_zero, List.set_cons_succ])
          refine take_at 31 85 (undef) rfl rfl (by kernel_rfl) (by kernel_rfl) (by kernel_rfl) (fun _ _ _ h => h) (Or.inr ⟨by kernel_rfl, rfl⟩) hHeld ?_
          (try simp only [Act.put, List.setIfInBounds_toArray, List.set_cons_zero, List.set_cons_succ])
          refine take_at 32 86 (.bool false) rfl rfl (by kernel_rfl) (by kernel_rfl) (by kernel_rfl) (fun _ _ _ h => h) (Or.inl ⟨by kernel_rfl, fun w' hS' => by go_simp⟩) hHeld ?_
          (try simp only [Act.put, List.setIfInBounds_toArray, List.set_cons_zero, List.set_cons_succ])
          refine take_at 33 87 (.bool false) rfl rfl (by kernel_rfl) (by kernel_rfl) (by kernel_rfl) (fun _ _ _ h => h) (Or.inl ⟨by kernel_rfl, fun w' hS' => by go_simp⟩) hHeld ?_
          (try simp only [Act.put, List.setIfInBounds_toArray, List.set_cons_zero, List.set_cons_succ])
          refine take_at 34 88 (.bool true) rfl rfl (by kernel_rfl) (by kernel_rfl) (by kernel_rfl) (fun _ _ _ h => h) (Or.inl ⟨by kernel_rfl, fun w' hS' => by go_simp⟩) hHeld ?_
          (try simp only [Act.put, List.setIfInBounds_toArray, List.set_cons_zero, List.set_cons_succ])
          refine take_at 35 89 (.bool true) rfl rfl (by kernel_rfl) (by kernel_rfl) (by kernel_rfl) (fun _ _ _ h => h) (Or.inl ⟨by kernel_rfl, fun w' hS' => by go_simp⟩) hHeld ?_
          (try simp only [Act.put, List.setIfInBounds_toArray, List.set_cons_zero, List.set_cons_succ])
          refine take_at 36 90 (.pointer (some ⟨XS, 0, none⟩)) rfl rfl (by kernel_rfl) (by kernel_rfl) (by kernel_rfl) (fun _ _ _ h => h) (Or.inl ⟨by kernel_rfl, fun w' hS' => by go_simp⟩) hHeld ?_
          (try simp only [Act.put, List.setIfInBounds_toArray, List.set_cons_zero, List.set_cons_succ])
          refine take_at 37 91 (.slice (some ⟨bs, offs, none⟩) m8 q8) rfl rfl (by kernel_rfl) (by kernel_rfl) (by kernel_rfl) (fun _ _ _ h => h) (Or.inl ⟨by kernel_rfl, fun w' hS' => by have hd0 := (hS'.cell (p := ⟨XS, 0, none⟩) zS).trans kS; go_simp⟩) hHeld ?_
          (try simp only [Act.put, List.setIfInBounds_toArray, List.set_cons_zero, List.set_cons_succ])
          refine take_at 38 92 (.int .i64 (k : Int)) rfl rfl (by kernel_rfl) (by kernel_rfl) (by kernel_rfl) (fun _ _ _ h => h) (Or.inl ⟨by kernel_rfl, fun w' hS' => by go_simp⟩) hHeld ?_
          (try simp only [Act.put, List.setIfInBounds_toArray, List.set_cons_zero, List.set_cons_succ])
          refine take_at 39 93 (.pointer (some ⟨bs, offs + k * 6, none⟩)) rfl rfl (by kernel_rfl) (by kernel_rfl) (by kernel_rfl) (fun _ _ _ h => h) (Or.inl ⟨by kernel_rfl, fun w' hS' => by go_simp⟩) hHeld ?_
          (try simp only [Act.put, List.setIfInBounds_toArray, List.set_cons_zero, List.set_cons_succ])
          refine take_at 40 94 (.pointer (some ⟨bs, offs + k * 6 + 2, none⟩)) rfl rfl (by kernel_rfl) (by kernel_rfl) (by kernel_rfl) (fun _ _ _ h => h) (Or.inl ⟨by kernel_rfl, fun w' hS' => by go_simp⟩) hHeld ?_
          (try simp only [Act.put, List.setIfInBounds_toArray, List.set_cons_zero, List.set_cons_succ])
          refine take_at 41 95 (.slice sa sn sc) rfl rfl (by kernel_rfl) (by kernel_rfl) (by kernel_rfl) (fun _ _ _ h => h) (Or.inl ⟨by kernel_rfl, fun w' hS' => by have hd0 := (hS'.cell (p := ⟨bs, offs + k * 6 + 2, none⟩) zs).trans s2; go_simp⟩) hHeld ?_
          (try simp only [Act.put, List.setIfInBounds_toArray, List.set_cons_zero, List.set_cons_succ])
          refine take_at 42 96 (.pointer (some ⟨X, 0, none⟩)) rfl rfl (by kernel_rfl) (by kernel_rfl) (by kernel_rfl) (fun _ _ _ h => h) (Or.inl ⟨by kernel_rfl, fun w' hS' => by go_simp⟩) hHeld ?_
          (try simp only [Act.put, List.setIfInBounds_toArray, List.set_cons_zero, List.set_cons_succ])
          refine take_at 43 97 (.slice (some ⟨b, off, none⟩) m0 c0) rfl rfl (by kernel_rfl) (by kernel_rfl) (by kernel_rfl) (fun _ _ _ h => h) (Or.inl ⟨by kernel_rfl, fun w' hS' => by have hd0 := (hS'.cell (p := ⟨X, 0, none⟩) zX).trans kG; go_simp⟩) hHeld ?_
          (try simp only [Act.put, List.setIfInBounds_toArray, List.set_cons_zero, List.set_cons_succ])
          refine take_at 44 98 (.int .i64 (k : Int)) rfl rfl (by kernel_rfl) (by kernel_rfl) (by kernel_rfl) (fun _ _ _ h => h) (Or.inl ⟨by kernel_rfl, fun w' hS' => by go_simp⟩) hHeld ?_
          (try simp only [Act.put, List.setIfInBounds_toArray, List.set_cons_zero, List.set_cons_succ])
          refine take_at 45 99 (.pointer (some ⟨b, off + k * 6, none⟩)) rfl rfl (by kernel_rfl) (by kernel_rfl) (by kernel_rfl) (fun _ _ _ h => h) (Or.inl ⟨by kernel_rfl, fun w' hS' => by go_simp⟩) hHeld ?_
          (try simp only [Act.put, List.setIfInBounds_toArray, List.set_cons_zero, List.set_cons_succ])
          refine take_at 46 100 (.pointer (some ⟨b, off + k * 6 + 2, none⟩)) rfl rfl (by kernel_rfl) (by kernel_rfl) (by kernel_rfl) (fun _ _ _ h => h) (Or.inl ⟨by kernel_rfl, fun w' hS' => by go_simp⟩) hHeld ?_
          (try simp only [Act.put, List.setIfInBounds_toArray, List.set_cons_zero, List.set_cons_succ])
          refine take_at 47 101 (.slice ta tn tc) rfl rfl (by kernel_rfl) (by kernel_rfl) (by kernel_rfl) (fun _ _ _ h => h) (Or.inl ⟨by kernel_rfl, fun w' hS' => by have hd0 := (hS'.cell (p := ⟨b, off + k * 6 + 2, none⟩) zb).trans c2; go_simp⟩) hHeld ?_
          (try simp only [Act.put, List.setIfInBounds_toArray, List.set_cons_zero, List.set_cons_succ])
          refine wpAnyH_ready (rs := [48]) (by kernel_rfl) (by simp) ?_
          refine AllReadyH.cons rfl (fun K hK => ?_) AllReadyH.nil
          go_simp
          go_at_call 22
          refine (lmSigns_eq (HST.out.below (Below.refl _ _).drew) (HTT.out.below (Below.refl _ _).drew)).mono ?_
          rintro e y1 ⟨rfl, hby1⟩
          go_wp2_with fail
          refine hK.out _ _ (hHeld.trans (hby1.mono hHeld.size)) (fun hHeld => ?_)
          clear hK K
          (try simp only [Act.put, List.setIfInBounds_toArray, List.set_cons_zero, List.set_cons_succ])
          refine take_at 49 103 (.bool false) rfl rfl (by kernel_rfl) (by kernel_rfl) (by kernel_rfl) (fun _ _ _ h => h) (Or.inl ⟨by kernel_rfl, fun w' hS' => by go_simp⟩) hHeld ?_
          (try simp only [Act.put, List.setIfInBounds_toArray, List.set_cons_zero, List.set_cons_succ])
          refine take_at 50 104 (.bool false) rfl rfl (by kernel_rfl) (by kernel_rfl) (by kernel_rfl) (fun _ _ _ h => h) (Or.inl ⟨by kernel_rfl, fun w' hS' => by go_simp⟩) hHeld ?_
          (try simp only [Act.put, List.setIfInBounds_toArray, List.set_cons_zero, List.set_cons_succ])
          refine take_at 51 105 (.bool false) rfl rfl (by kernel_rfl) (by kernel_rfl) (by kernel_rfl) (fun _ _ _ h => h) (Or.inl ⟨by kernel_rfl, fun w' hS' => by go_simp⟩) hHeld ?_
          (try simp only [Act.put, List.setIfInBounds_toArray, List.set_cons_zero, List.set_cons_succ])
          refine wpAnyH_done (by kernel_rfl) ?_ _
          refine NoPanic.normal ?_
          go_wp2_with fail
          go_roundw
          case rel => exact ⟨k + 1, by omega, by go_num, HBL.out.drew.trans (hHeld.mono HBL.out.drew.size)⟩
          case measure => simp [intOf]; omega
      · cases g2
        · have hkx : k < dr.length := by rw [(HXL.out rfl).1]; exact hkd
          have kU : wr.cell? ⟨XU, 0, none⟩ = some (.slice p2 m2 q2) := (HUw9.out.below hbl HUw9.out.lt).cell 0
          have hkx2 : (k : Int) < (m2 : Int) := by have := HFw9.out.1; omega
          rcases (HFw9.out.below hbl).2.2.2 with e | ⟨bx, offx, rfl, zx, hcx⟩
          · rw [e] at hkx
            exact absurd hkx (by simp)
          obtain ⟨ua, un, uc, va, vn, vc, -, -, e2, e3, e4, e5, hux, hvx⟩ := hcx k hkx
          have hxe := (HXL.out rfl).2 k hkd
          rw [HY.out] at hxe
          rw [hxe] at e3 e4 hux hvx
          simp only at e3 e4 hux hvx
          have HUT : Hid (Txt wr ua un uc t) := hux
          have HUC : Hid (Tab wr va vn vc l) := hvx
          clear hcx hxe hux hvx
          clear hbl
          go_wp2_with fail
          refine wp_region_noPanic ?_
          refine wp_region_held_drew (S := fun w' => Below wr.drew.heap.size wr.drew w') (by kernel_rfl) (Below.refl _ _) (fun hHeld => ?_)
          refine take_at 0 54 (.bool true) rfl rfl (by kernel_rfl) (by kernel_rfl) (by kernel_rfl) (fun _ _ _ h => h) (Or.inl ⟨by kernel_rfl, fun w' hS' => by go_simp⟩) hHeld ?_
          (try simp only [Act.put, List.setIfInBounds_toArray, List.set_cons_zero, List.set_cons_succ])
          refine take_at 1 55 (.bool true) rfl rfl (by kernel_rfl) (by kernel_rfl) (by kernel_rfl) (fun _ _ _ h => h) (Or.inl ⟨by kernel_rfl, fun w' hS' => by go_simp⟩) hHeld ?_
          (try simp only [Act.put, List.setIfInBounds_toArray, List.set_cons_zero, List.set_cons_succ])
          refine take_at 2 56 (.pointer (some ⟨XU, 0, none⟩)) rfl rfl (by kernel_rfl) (by kernel_rfl) (by kernel_rfl) (fun _ _ _ h => h) (Or.inl ⟨by kernel_rfl, fun w' hS' => by go_simp⟩) hHeld ?_
          (try simp only [Act.put, List.setIfInBounds_toArray, List.set_cons_zero, List.set_cons_succ])
          refine take_at 3 57 (.slice (some ⟨bx, offx, none⟩) m2 q2) rfl rfl (by kernel_rfl) (by kernel_rfl) (by kernel_rfl) (fun _ _ _ h => h) (Or.inl ⟨by kernel_rfl, fun w' hS' => by have hd0 := (hS'.cell (p := ⟨XU, 0, none⟩) zU).trans kU; go_simp⟩) hHeld ?_
          (try simp only [Act.put, List.setIfInBounds_toArray, List.set_cons_zero, List.set_cons_succ])
          refine take_at 4 58 (.int .i64 (k : Int)) rfl rfl (by kernel_rfl) (by kernel_rfl) (by kernel_rfl) (fun _ _ _ h => h) (Or.inl ⟨by kernel_rfl, fun w' hS' => by go_simp⟩) hHeld ?_
          (try simp only [Act.put, List.setIfInBounds_toArray, List.set_cons_zero, List.set_cons_succ])
          refine take_at 5 59 (.pointer (some ⟨bx, offx + k * 6, none⟩)) rfl rfl (by kernel_rfl) (by kernel_rfl) (by kernel_rfl) (fun _ _ _ h => h) (Or.inl ⟨by kernel_rfl, fun w' hS' => by go_simp⟩) hHeld ?_
          (try simp only [Act.put, List.setIfInBounds_toArray, List.set_cons_zero, List.set_cons_succ])
          refine take_at 6 60 (.pointer (some ⟨bx, offx + k * 6 + 2, none⟩)) rfl rfl (by kernel_rfl) (by kernel_rfl) (by kernel_rfl) (fun _ _ _ h => h) (Or.inl ⟨by kernel_rfl, fun w' hS' => by go_simp⟩) hHeld ?_
          (try simp only [Act.put, List.setIfInBounds_toArray, List.set_cons_zero, List.set_cons_succ])
          refine take_at 7 61 (.slice ua un uc) rfl rfl (by kernel_rfl) (by kernel_rfl) (by kernel_rfl) (fun _ _ _ h => h) (Or.inl ⟨by kernel_rfl, fun w' hS' => by have hd0 := (hS'.cell (p := ⟨bx, offx + k * 6 + 2, none⟩) zx).trans e2; go_simp⟩) hHeld ?_
          (try simp only [Act.put, List.setIfInBounds_toArray, List.set_cons_zero, List.set_cons_succ])
          refine take_at 8 62 (.pointer (some ⟨X, 0, none⟩)) rfl rfl (by kernel_rfl) (by kernel_rfl) (by kernel_rfl) (fun _ _ _ h => h) (Or.inl ⟨by kernel_rfl, fun w' hS' => by go_simp⟩) hHeld ?_
          (try simp only [Act.put, List.setIfInBounds_toArray, List.set_cons_zero, List.set_cons_succ])
          refine take_at 9 63 (.slice (some ⟨b, off, none⟩) m0 c0) rfl rfl (by kernel_rfl) (by kernel_rfl) (by kernel_rfl) (fun _ _ _ h => h) (Or.inl ⟨by kernel_rfl, fun w' hS' => by have hd0 := (hS'.cell (p := ⟨X, 0, none⟩) zX).trans kG; go_simp⟩) hHeld ?_
          (try simp only [Act.put, List.setIfInBounds_toArray, List.set_cons_zero, List.set_cons_succ])
          refine take_at 10 64 (.int .i64 (k : Int)) rfl rfl (by kernel_rfl) (by kernel_rfl) (by kernel_rfl) (fun _ _ _ h => h) (Or.inl ⟨by kernel_rfl, fun w' hS' => by go_simp⟩) hHeld ?_
          (try simp only [Act.put, List.setIfInBounds_toArray, List.set_cons_zero, List.set_cons_succ])
          refine take_at 11 65 (.pointer (some ⟨b, off + k * 6, none⟩)) rfl rfl (by kernel_rfl) (by kernel_rfl) (by kernel_rfl) (fun _ _ _ h => h) (Or.inl ⟨by kernel_rfl, fun w' hS' => by go_simp⟩) hHeld ?_
          (try simp only [Act.put, List.setIfInBounds_toArray, List.set_cons_zero, List.set_cons_succ])
          refine take_at 12 66 (.pointer (some ⟨b, off + k * 6 + 2, none⟩)) rfl rfl (by kernel_rfl) (by kernel_rfl) (by kernel_rfl) (fun _ _ _ h => h) (Or.inl ⟨by kernel_rfl, fun w' hS' => by go_simp⟩) hHeld ?_
          (try simp only [Act.put, List.setIfInBounds_toArray, List.set_cons_zero, List.set_cons_succ])
          refine take_at 13 67 (.slice ta tn tc) rfl rfl (by kernel_rfl) (by kernel_rfl) (by kernel_rfl) (fun _ _ _ h => h) (Or.inl ⟨by kernel_rfl, fun w' hS' => by have hd0 := (hS'.cell (p := ⟨b, off + k * 6 + 2, none⟩) zb).trans c2; go_simp⟩) hHeld ?_
          (try simp only [Act.put, List.setIfInBounds_toArray, List.set_cons_zero, List.set_cons_succ])
          refine wpAnyH_ready (rs := [14]) (by kernel_rfl) (by simp) ?_
          refine AllReadyH.cons rfl (fun K hK => ?_) AllReadyH.nil
          go_simp
          go_at_call 22
          refine (lmSigns_eq (HUT.out.below (Below.refl _ _).drew) (HTT.out.below (Below.refl _ _).drew)).mono ?_
          rintro e y1 ⟨rfl, hby1⟩
          go_wp2_with fail
          refine hK.out _ _ (hHeld.trans (hby1.mono hHeld.size)) (fun hHeld => ?_)
          clear hK K
          (try simp only [Act.put, List.setIfInBounds_toArray, List.set_cons_zero, List.set_cons_succ])
          refine take_at 15 69 (.bool false) rfl rfl (by kernel_rfl) (by kernel_rfl) (by kernel_rfl) (fun _ _ _ h => h) (Or.inl ⟨by kernel_rfl, fun w' hS' => by go_simp⟩) hHeld ?_
          (try simp only [Act.put, List.setIfInBounds_toArray, List.set_cons_zero, List.set_cons_succ])
          refine take_at 16 70 (.bool false) rfl rfl (by kernel_rfl) (by kernel_rfl) (by kernel_rfl) (fun _ _ _ h => h) (Or.inl ⟨by kernel_rfl, fun w' hS' => by go_simp⟩) hHeld ?_
          (try simp only [Act.put, List.setIfInBounds_toArray, List.set_cons_zero, List.set_cons_succ])
          refine take_at 17 71 (.pointer (some ⟨XU, 0, none⟩)) rfl rfl (by kernel_rfl) (by kernel_rfl) (by kernel_rfl) (fun _ _ _ h => h) (Or.inl ⟨by kernel_rfl, fun w' hS' => by go_simp⟩) hHeld ?_
          (try simp only [Act.put, List.setIfInBounds_toArray, List.set_cons_zero, List.set_cons_succ])
          refine take_at 18 72 (.slice (some ⟨bx, offx, none⟩) m2 q2) rfl rfl (by kernel_rfl) (by kernel_rfl) (by kernel_rfl) (fun _ _ _ h => h) (Or.inl ⟨by kernel_rfl, fun w' hS' => by have hd0 := (hS'.cell (p := ⟨XU, 0, none⟩) zU).trans kU; go_simp⟩) hHeld ?_
          (try simp only [Act.put, List.setIfInBounds_toArray, List.set_cons_zero, List.set_cons_succ])
          refine take_at 19 73 (.int .i64 (k : Int)) rfl rfl (by kernel_rfl) (by kernel_rfl) (by kernel_rfl) (fun _ _ _ h => h) (Or.inl ⟨by kernel_rfl, fun w' hS' => by go_simp⟩) hHeld ?_
          (try simp only [Act.put, List.setIfInBounds_toArray, List.set_cons_zero, List.set_cons_succ])
          refine take_at 20 74 (.pointer (some ⟨bx, offx + k * 6, none⟩)) rfl rfl (by kernel_rfl) (by kernel_rfl) (by kernel_rfl) (fun _ _ _ h => h) (Or.inl ⟨by kernel_rfl, fun w' hS' => by go_simp⟩) hHeld ?_
          (try simp only [Act.put, List.setIfInBounds_toArray, List.set_cons_zero, List.set_cons_succ])
          refine take_at 21 75 (.pointer (some ⟨bx, offx + k * 6 + 3, none⟩)) rfl rfl (by kernel_rfl) (by kernel_rfl) (by kernel_rfl) (fun _ _ _ h => h) (Or.inl ⟨by kernel_rfl, fun w' hS' => by go_simp⟩) hHeld ?_
          (try simp only [Act.put, List.setIfInBounds_toArray, List.set_cons_zero, List.set_cons_succ])
          refine take_at 22 76 (.agg #[.int .i64 R, .int .i64 Cc, .slice va vn vc]) rfl rfl (by kernel_rfl) (by kernel_rfl) (by kernel_rfl) (fun _ _ _ h => h) (Or.inl ⟨by kernel_rfl, fun w' hS' => by have hd0 := (hS'.cell (p := ⟨bx, offx + k * 6 + 3, none⟩) zx).trans e3; have hd1 := (hS'.cell (p := ⟨bx, offx + k * 6 + 4, none⟩) zx).trans e4; have hd2 := (hS'.cell (p := ⟨bx, offx + k * 6 + 5, none⟩) zx).trans e5; go_simp⟩) hHeld ?_
          (try simp only [Act.put, List.setIfInBounds_toArray, List.set_cons_zero, List.set_cons_succ])
          refine take_at 23 77 (.pointer (some ⟨X, 0, none⟩)) rfl rfl (by kernel_rfl) (by kernel_rfl) (by kernel_rfl) (fun _ _ _ h => h) (Or.inl ⟨by kernel_rfl, fun w' hS' => by go_simp⟩) hHeld ?_
          (try simp only [Act.put, List.setIfInBounds_toArray, List.set_cons_zero, List.set_cons_succ])
          refine take_at 24 78 (.slice (some ⟨b, off, none⟩) m0 c0) rfl rfl (by kernel_rfl) (by kernel_rfl) (by kernel_rfl) (fun _ _ _ h => h) (Or.inl ⟨by kernel_rfl, fun w' hS' => by have hd0 := (hS'.cell (p := ⟨X, 0, none⟩) zX).trans kG; go_simp⟩) hHeld ?_
          (try simp only [Act.put, List.setIfInBounds_toArray, List.set_cons_zero, List.set_cons_succ])
          refine take_at 25 79 (.int .i64 (k : Int)) rfl rfl (by kernel_rfl) (by kernel_rfl) (by kernel_rfl) (fun _ _ _ h => h) (Or.inl ⟨by kernel_rfl, fun w' hS' => by go_simp⟩) hHeld ?_
          (try simp only [Act.put, List.setIfInBounds_toArray, List.set_cons_zero, List.set_cons_succ])
          refine take_at 26 80 (.pointer (some ⟨b, off + k * 6, none⟩)) rfl rfl (by kernel_rfl) (by kernel_rfl) (by kernel_rfl) (fun _ _ _ h => h) (Or.inl ⟨by kernel_rfl, fun w' hS' => by go_simp⟩) hHeld ?_
          (try simp only [Act.put, List.setIfInBounds_toArray, List.set_cons_zero, List.set_cons_succ])
          refine take_at 27 81 (.pointer (some ⟨b, off + k * 6 + 3, none⟩)) rfl rfl (by kernel_rfl) (by kernel_rfl) (by kernel_rfl) (fun _ _ _ h => h) (Or.inl ⟨by kernel_rfl, fun w' hS' => by go_simp⟩) hHeld ?_
          (try simp only [Act.put, List.setIfInBounds_toArray, List.set_cons_zero, List.set_cons_succ])
          refine take_at 28 82 (.agg #[.int .i64 R, .int .i64 Cc, .slice ca cn cc]) rfl rfl (by kernel_rfl) (by kernel_rfl) (by kernel_rfl) (fun _ _ _ h => h) (Or.inl ⟨by kernel_rfl, fun w' hS' => by have hd0 := (hS'.cell (p := ⟨b, off + k * 6 + 3, none⟩) zb).trans c3; have hd1 := (hS'.cell (p := ⟨b, off + k * 6 + 4, none⟩) zb).trans c4; have hd2 := (hS'.cell (p := ⟨b, off + k * 6 + 5, none⟩) zb).trans c5; go_simp⟩) hHeld ?_
          (try simp only [Act.put, List.setIfInBounds_toArray, List.set_cons_zero, List.set_cons_succ])
          refine wpAnyH_ready (rs := [29]) (by kernel_rfl) (by simp) ?_
          refine AllReadyH.cons rfl (fun K hK => ?_) AllReadyH.nil
          go_simp
          go_at_call 23
          refine (lmTable_same R Cc _ _ _ l _ _ _ _ ((HUC.out.below (Below.refl _ _).drew).below hHeld) ((HTC.out.below (Below.refl _ _).drew).below hHeld)).mono ?_
          rintro e y2 ⟨rfl, hby2⟩
          go_wp2_with fail
          refine hK.out _ _ (hHeld.trans (hby2.mono hHeld.size)) (fun hHeld => ?_)
          clear hK K
          (try simp only [Act.put, List.setIfInBounds_toArray, List.set_cons_zero, List.set_cons_succ])
          refine take_at 30 84 (.bool false) rfl rfl (by kernel_rfl) (by kernel_rfl) (by kernel_rfl) (fun _ _ _ h => h) (Or.inl ⟨by kernel_rfl, fun w' hS' => by go_simp⟩) hHeld ?_
          (try simp only [Act.put, List.setIfInBounds_toArray, List.set_cons_zero, List.set_cons_succ])
          refine take_at 31 85 (.bool false) rfl rfl (by kernel_rfl) (by kernel_rfl) (by kernel_rfl) (fun _ _ _ h => h) (Or.inl ⟨by kernel_rfl, fun w' hS' => by go_simp⟩) hHeld ?_
          (try simp only [Act.put, List.setIfInBounds_toArray, List.set_cons_zero, List.set_cons_succ])
          refine take_at 32 86 (.bool false) rfl rfl (by kernel_rfl) (by kernel_rfl) (by kernel_rfl) (fun _ _ _ h => h) (Or.inl ⟨by kernel_rfl, fun w' hS' => by go_simp⟩) hHeld ?_
          (try simp only [Act.put, List.setIfInBounds_toArray, List.set_cons_zero, List.set_cons_succ])
          refine take_at 33 87 (.bool false) rfl rfl (by kernel_rfl) (by kernel_rfl) (by kernel_rfl) (fun _ _ _ h => h) (Or.inl ⟨by kernel_rfl, fun w' hS' => by go_simp⟩) hHeld ?_
          (try simp only [Act.put, List.setIfInBounds_toArray, List.set_cons_zero, List.set_cons_succ])
          refine take_at 34 88 (.bool false) rfl rfl (by kernel_rfl) (by kernel_rfl) (by kernel_rfl) (fun _ _ _ h => h) (Or.inl ⟨by kernel_rfl, fun w' hS' => by go_simp⟩) hHeld ?_
          (try simp only [Act.put, List.setIfInBounds_toArray, List.set_cons_zero, List.set_cons_succ])
          refine take_at 35 89 (.bool false) rfl rfl (by kernel_rfl) (by kernel_rfl) (by kernel_rfl) (fun _ _ _ h => h) (Or.inl ⟨by kernel_rfl, fun w' hS' => by go_simp⟩) hHeld ?_
          (try simp only [Act.put, List.setIfInBounds_toArray, List.set_cons_zero, List.set_cons_succ])
          refine take_at 36 90 (undef) rfl rfl (by kernel_rfl) (by kernel_rfl) (by kernel_rfl) (fun _ _ _ h => h) (Or.inr ⟨by kernel_rfl, rfl⟩) hHeld ?_
          (try simp only [Act.put, List.setIfInBounds_toArray, List.set_cons_zero, List.set_cons_succ])
          refine take_at 37 91 (undef) rfl rfl (by kernel_rfl) (by kernel_rfl) (by kernel_rfl) (fun _ _ _ h => h) (Or.inr ⟨by kernel_rfl, rfl⟩) hHeld ?_
          (try simp only [Act.put, List.setIfInBounds_toArray, List.set_cons_zero, List.set_cons_succ])
          refine take_at 38 92 (undef) rfl rfl (by kernel_rfl) (by kernel_rfl) (by kernel_rfl) (fun _ _ _ h => h) (Or.inr ⟨by kernel_rfl, rfl⟩) hHeld ?_
          (try simp only [Act.put, List.setIfInBounds_toArray, List.set_cons_zero, List.set_cons_succ])
          refine take_at 39 93 (undef) rfl rfl (by kernel_rfl) (by kernel_rfl) (by kernel_rfl) (fun _ _ _ h => h) (Or.inr ⟨by kernel_rfl, rfl⟩) hHeld ?_
          (try simp only [Act.put, List.setIfInBounds_toArray, List.set_cons_zero, List.set_cons_succ])
          refine take_at 40 94 (undef) rfl rfl (by kernel_rfl) (by kernel_rfl) (by kernel_rfl) (fun _ _ _ h => h) (Or.inr ⟨by kernel_rfl, rfl⟩) hHeld ?_
          (try simp only [Act.put, List.setIfInBounds_toArray, List.set_cons_zero, List.set_cons_succ])
          refine take_at 41 95 (undef) rfl rfl (by kernel_rfl) (by kernel_rfl) (by kernel_rfl) (fun _ _ _ h => h) (Or.inr ⟨by kernel_rfl, rfl⟩) hHeld ?_
          (try simp only [Act.put, List.setIfInBounds_toArray, List.set_cons_zero, List.set_cons_succ])
          refine take_at 42 96 (undef) rfl rfl (by kernel_rfl) (by kernel_rfl) (by kernel_rfl) (fun _ _ _ h => h) (Or.inr ⟨by kernel_rfl, rfl⟩) hHeld ?_
          (try simp only [Act.put, List.setIfInBounds_toArray, List.set_cons_zero, List.set_cons_succ])
          refine take_at 43 97 (undef) rfl rfl (by kernel_rfl) (by kernel_rfl) (by kernel_rfl) (fun _ _ _ h => h) (Or.inr ⟨by kernel_rfl, rfl⟩) hHeld ?_
          (try simp only [Act.put, List.setIfInBounds_toArray, List.set_cons_zero, List.set_cons_succ])
          refine take_at 44 98 (undef) rfl rfl (by kernel_rfl) (by kernel_rfl) (by kernel_rfl) (fun _ _ _ h => h) (Or.inr ⟨by kernel_rfl, rfl⟩) hHeld ?_
          (try simp only [Act.put, List.setIfInBounds_toArray, List.set_cons_zero, List.set_cons_succ])
          refine take_at 45 99 (undef) rfl rfl (by kernel_rfl) (by kernel_rfl) (by kernel_rfl) (fun _ _ _ h => h) (Or.inr ⟨by kernel_rfl, rfl⟩) hHeld ?_
          (try simp only [Act.put, List.setIfInBounds_toArray, List.set_cons_zero, List.set_cons_succ])
          refine take_at 46 100 (undef) rfl rfl (by kernel_rfl) (by kernel_rfl) (by kernel_rfl) (fun _ _ _ h => h) (Or.inr ⟨by kernel_rfl, rfl⟩) hHeld ?_
          (try simp only [Act.put, List.setIfInBounds_toArray, List.set_cons_zero, List.set_cons_succ])
          refine take_at 47 101 (undef) rfl rfl (by kernel_rfl) (by kernel_rfl) (by kernel_rfl) (fun _ _ _ h => h) (Or.inr ⟨by kernel_rfl, rfl⟩) hHeld ?_
          (try simp only [Act.put, List.setIfInBounds_toArray, List.set_cons_zero, List.set_cons_succ])
          refine take_at 48 102 (undef) rfl rfl (by kernel_rfl) (by kernel_rfl) (by kernel_rfl) (fun _ _ _ h => h) (Or.inr ⟨by kernel_rfl, rfl⟩) hHeld ?_
          (try simp only [Act.put, List.setIfInBounds_toArray, List.set_cons_zero, List.set_cons_succ])
          refine take_at 49 103 (undef) rfl rfl (by kernel_rfl) (by kernel_rfl) (by kernel_rfl) (fun _ _ _ h => h) (Or.inr ⟨by kernel_rfl, rfl⟩) hHeld ?_
          (try simp only [Act.put, List.setIfInBounds_toArray, List.set_cons_zero, List.set_cons_succ])
          refine take_at 50 104 (.bool false) rfl rfl (by kernel_rfl) (by kernel_rfl) (by kernel_rfl) (fun _ _ _ h => h) (Or.inl ⟨by kernel_rfl, fun w' hS' => by go_simp⟩) hHeld ?_
          (try simp only [Act.put, List.setIfInBounds_toArray, List.set_cons_zero, List.set_cons_succ])
          refine take_at 51 105 (.bool false) rfl rfl (by kernel_rfl) (by kernel_rfl) (by kernel_rfl) (fun _ _ _ h => h) (Or.inl ⟨by kernel_rfl, fun w' hS' => by go_simp⟩) hHeld ?_
          (try simp only [Act.put, List.setIfInBounds_toArray, List.set_cons_zero, List.set_cons_succ])
          refine wpAnyH_done (by kernel_rfl) ?_ _
          refine NoPanic.normal ?_
          go_wp2_with fail
          go_roundw
          case rel => exact ⟨k + 1, by omega, by go_num, HBL.out.drew.trans (hHeld.mono HBL.out.drew.size)⟩
          case measure => simp [intOf]; omega
        · have hkx : k < dr.length := by rw [(HXL.out rfl).1]; exact hkd
          have kU : wr.cell? ⟨XU, 0, none⟩ = some (.slice p2 m2 q2) := (HUw9.out.below hbl HUw9.out.lt).cell 0
          have hkx2 : (k : Int) < (m2 : Int) := by have := HFw9.out.1; omega
          rcases (HFw9.out.below hbl).2.2.2 with e | ⟨bx, offx, rfl, zx, hcx⟩
          · rw [e] at hkx
            exact absurd hkx (by simp)
          obtain ⟨ua, un, uc, va, vn, vc, -, -, e2, e3, e4, e5, hux, hvx⟩ := hcx k hkx
          have hxe := (HXL.out rfl).2 k hkd
          rw [HY.out] at hxe
          rw [hxe] at e3 e4 hux hvx
          simp only at e3 e4 hux hvx
          have HUT : Hid (Txt wr ua un uc t) := hux
          have HUC : Hid (Tab wr va vn vc l) := hvx
          clear hcx hxe hux hvx
          have hks : k < ds.length := by rw [(HXS.out rfl).1]; exact hkd
          have kS : wr.cell? ⟨XS, 0, none⟩ = some (.slice p8 m8 q8) := (HQw9.out.below hbl HQw9.out.lt).cell 0
          have hks2 : (k : Int) < (m8 : Int) := by have := HSw9.out.1; omega
          rcases (HSw9.out.below hbl).2.2.2 with e | ⟨bs, offs, rfl, zs, hcs⟩
          · rw [e] at hks
            exact absurd hks (by simp)
          obtain ⟨sa, sn, sc, _, _, _, -, -, s2, -, -, -, hst, -⟩ := hcs k hks
          have hse := (HXS.out rfl).2 k hkd
          rw [HY.out] at hse
          rw [hse] at hst
          simp only at hst
          have HST : Hid (Txt wr sa sn sc t) := hst
          clear hcs hse hst
          clear hbl
          go_wp2_with fail
          refine wp_region_noPanic ?_
          refine wp_region_held_drew (S := fun w' => Below wr.drew.heap.size wr.drew w') (by kernel_rfl) (Below.refl _ _) (fun hHeld => ?_)
          refine take_at 0 54 (.bool true) rfl rfl (by kernel_rfl) (by kernel_rfl) (by kernel_rfl) (fun _ _ _ h => h) (Or.inl ⟨by kernel_rfl, fun w' hS' => by go_simp⟩) hHeld ?_
          (try simp only [Act.put, List.setIfInBounds_toArray, List.set_cons_zero, List.set_cons_succ])
          refine take_at 1 55 (.bool true) rfl rfl (by kernel_rfl) (by kernel_rfl) (by kernel_rfl) (fun _ _ _ h => h) (Or.inl ⟨by kernel_rfl, fun w' hS' => by go_simp⟩) hHeld ?_
          (try simp only [Act.put, List.setIfInBounds_toArray, List.set_cons_zero, List.set_cons_succ])
          refine take_at 2 56 (.pointer (some ⟨XU, 0, none⟩)) rfl rfl (by kernel_rfl) (by kernel_rfl) (by kernel_rfl) (fun _ _ _ h => h) (Or.inl ⟨by kernel_rfl, fun w' hS' => by go_simp⟩) hHeld ?_
          (try simp only [Act.put, List.setIfInBounds_toArray, List.set_cons_zero, List.set_cons_succ])
          refine take_at 3 57 (.slice (some ⟨bx, offx, none⟩) m2 q2) rfl rfl (by kernel_rfl) (by kernel_rfl) (by kernel_rfl) (fun _ _ _ h => h) (Or.inl ⟨by kernel_rfl, fun w' hS' => by have hd0 := (hS'.cell (p := ⟨XU, 0, none⟩) zU).trans kU; go_simp⟩) hHeld ?_
          (try simp only [Act.put, List.setIfInBounds_toArray, List.set_cons_zero, List.set_cons_succ])
          refine take_at 4 58 (.int .i64 (k : Int)) rfl rfl (by kernel_rfl) (by kernel_rfl) (by kernel_rfl) (fun _ _ _ h => h) (Or.inl ⟨by kernel_rfl, fun w' hS' => by go_simp⟩) hHeld ?_
          (try simp only [Act.put, List.setIfInBounds_toArray, List.set_cons_zero, List.set_cons_succ])
          refine take_at 5 59 (.pointer (some ⟨bx, offx + k * 6, none⟩)) rfl rfl (by kernel_rfl) (by kernel_rfl) (by kernel_rfl) (fun _ _ _ h => h) (Or.inl ⟨by kernel_rfl, fun w' hS' => by go_simp⟩) hHeld ?_
          (try simp only [Act.put, List.setIfInBounds_toArray, List.set_cons_zero, List.set_cons_succ])
          refine take_at 6 60 (.pointer (some ⟨bx, offx + k * 6 + 2, none⟩)) rfl rfl (by kernel_rfl) (by kernel_rfl) (by kernel_rfl) (fun _ _ _ h => h) (Or.inl ⟨by kernel_rfl, fun w' hS' => by go_simp⟩) hHeld ?_
          (try simp only [Act.put, List.setIfInBounds_toArray, List.set_cons_zero, List.set_cons_succ])
          refine take_at 7 61 (.slice ua un uc) rfl rfl (by kernel_rfl) (by kernel_rfl) (by kernel_rfl) (fun _ _ _ h => h) (Or.inl ⟨by kernel_rfl, fun w' hS' => by have hd0 := (hS'.cell (p := ⟨bx, offx + k * 6 + 2, none⟩) zx).trans e2; go_simp⟩) hHeld ?_
          (try simp only [Act.put, List.setIfInBounds_toArray, List.set_cons_zero, List.set_cons_succ])
          refine take_at 8 62 (.pointer (some ⟨X, 0, none⟩)) rfl rfl (by kernel_rfl) (by kernel_rfl) (by kernel_rfl) (fun _ _ _ h => h) (Or.inl ⟨by kernel_rfl, fun w' hS' => by go_simp⟩) hHeld ?_
          (try simp only [Act.put, List.setIfInBounds_toArray, List.set_cons_zero, List.set_cons_succ])
          refine take_at 9 63 (.slice (some ⟨b, off, none⟩) m0 c0) rfl rfl (by kernel_rfl) (by kernel_rfl) (by kernel_rfl) (fun _ _ _ h => h) (Or.inl ⟨by kernel_rfl, fun w' hS' => by have hd0 := (hS'.cell (p := ⟨X, 0, none⟩) zX).trans kG; go_simp⟩) hHeld ?_
          (try simp only [Act.put, List.setIfInBounds_toArray, List.set_cons_zero, List.set_cons_succ])
          refine take_at 10 64 (.int .i64 (k : Int)) rfl rfl (by kernel_rfl) (by kernel_rfl) (by kernel_rfl) (fun _ _ _ h => h) (Or.inl ⟨by kernel_rfl, fun w' hS' => by go_simp⟩) hHeld ?_
          (try simp only [Act.put, List.setIfInBounds_toArray, List.set_cons_zero, List.set_cons_succ])
          refine take_at 11 65 (.pointer (some ⟨b, off + k * 6, none⟩)) rfl rfl (by kernel_rfl) (by kernel_rfl) (by kernel_rfl) (fun _ _ _ h => h) (Or.inl ⟨by kernel_rfl, fun w' hS' => by go_simp⟩) hHeld ?_
          (try simp only [Act.put, List.setIfInBounds_toArray, List.set_cons_zero, List.set_cons_succ])
          refine take_at 12 66 (.pointer (some ⟨b, off + k * 6 + 2, none⟩)) rfl rfl (by kernel_rfl) (by kernel_rfl) (by kernel_rfl) (fun _ _ _ h => h) (Or.inl ⟨by kernel_rfl, fun w' hS' => by go_simp⟩) hHeld ?_
          (try simp only [Act.put, List.setIfInBounds_toArray, List.set_cons_zero, List.set_cons_succ])
          refine take_at 13 67 (.slice ta tn tc) rfl rfl (by kernel_rfl) (by kernel_rfl) (by kernel_rfl) (fun _ _ _ h => h) (Or.inl ⟨by kernel_rfl, fun w' hS' => by have hd0 := (hS'.cell (p := ⟨b, off + k * 6 + 2, none⟩) zb).trans c2; go_simp⟩) hHeld ?_
          (try simp only [Act.put, List.setIfInBounds_toArray, List.set_cons_zero, List.set_cons_succ])
          refine wpAnyH_ready (rs := [14]) (by kernel_rfl) (by simp) ?_
          refine AllReadyH.cons rfl (fun K hK => ?_) AllReadyH.nil
          go_simp
          go_at_call 22
          refine (lmSigns_eq (HUT.out.below (Below.refl _ _).drew) (HTT.out.below (Below.refl _ _).drew)).mono ?_
          rintro e y1 ⟨rfl, hby1⟩
          go_wp2_with fail
          refine hK.out _ _ (hHeld.trans (hby1.mono hHeld.size)) (fun hHeld => ?_)
          clear hK K
          (try simp only [Act.put, List.setIfInBounds_toArray, List.set_cons_zero, List.set_cons_succ])
          refine take_at 15 69 (.bool false) rfl rfl (by kernel_rfl) (by kernel_rfl) (by kernel_rfl) (fun _ _ _ h => h) (Or.inl ⟨by kernel_rfl, fun w' hS' => by go_simp⟩) hHeld ?_
          (try simp only [Act.put, List.setIfInBounds_toArray, List.set_cons_zero, List.set_cons_succ])
          refine take_at 16 70 (.bool false) rfl rfl (by kernel_rfl) (by kernel_rfl) (by kernel_rfl) (fun _ _ _ h => h) (Or.inl ⟨by kernel_rfl, fun w' hS' => by go_simp⟩) hHeld ?_
          (try simp only [Act.put, List.setIfInBounds_toArray, List.set_cons_zero, List.set_cons_succ])
          refine take_at 17 71 (.pointer (some ⟨XU, 0, none⟩)) rfl rfl (by kernel_rfl) (by kernel_rfl) (by kernel_rfl) (fun _ _ _ h => h) (Or.inl ⟨by kernel_rfl, fun w' hS' => by go_simp⟩) hHeld ?_
          (try simp only [Act.put, List.setIfInBounds_toArray, List.set_cons_zero, List.set_cons_succ])
          refine take_at 18 72 (.slice (some ⟨bx, offx, none⟩) m2 q2) rfl rfl (by kernel_rfl) (by kernel_rfl) (by kernel_rfl) (fun _ _ _ h => h) (Or.inl ⟨by kernel_rfl, fun w' hS' => by have hd0 := (hS'.cell (p := ⟨XU, 0, none⟩) zU).trans kU; go_simp⟩) hHeld ?_
          (try simp only [Act.put, List.setIfInBounds_toArray, List.set_cons_zero, List.set_cons_succ])
          refine take_at 19 73 (.int .i64 (k : Int)) rfl rfl (by kernel_rfl) (by kernel_rfl) (by kernel_rfl) (fun _ _ _ h => h) (Or.inl ⟨by kernel_rfl, fun w' hS' => by go_simp⟩) hHeld ?_
          (try simp only [Act.put, List.setIfInBounds_toArray, List.set_cons_zero, List.set_cons_succ])
          refine take_at 20 74 (.pointer (some ⟨bx, offx + k * 6, none⟩)) rfl rfl (by kernel_rfl) (by kernel_rfl) (by kernel_rfl) (fun _ _ _ h => h) (Or.inl ⟨by kernel_rfl, fun w' hS' => by go_simp⟩) hHeld ?_
          (try simp only [Act.put, List.setIfInBounds_toArray, List.set_cons_zero, List.set_cons_succ])
          refine take_at 21 75 (.pointer (some ⟨bx, offx + k * 6 + 3, none⟩)) rfl rfl (by kernel_rfl) (by kernel_rfl) (by kernel_rfl) (fun _ _ _ h => h) (Or.inl ⟨by kernel_rfl, fun w' hS' => by go_simp⟩) hHeld ?_
          (try simp only [Act.put, List.setIfInBounds_toArray, List.set_cons_zero, List.set_cons_succ])
          refine take_at 22 76 (.agg #[.int .i64 R, .int .i64 Cc, .slice va vn vc]) rfl rfl (by kernel_rfl) (by kernel_rfl) (by kernel_rfl) (fun _ _ _ h => h) (Or.inl ⟨by kernel_rfl, fun w' hS' => by have hd0 := (hS'.cell (p := ⟨bx, offx + k * 6 + 3, none⟩) zx).trans e3; have hd1 := (hS'.cell (p := ⟨bx, offx + k * 6 + 4, none⟩) zx).trans e4; have hd2 := (hS'.cell (p := ⟨bx, offx + k * 6 + 5, none⟩) zx).trans e5; go_simp⟩) hHeld ?_
          (try simp only [Act.put, List.setIfInBounds_toArray, List.set_cons_zero, List.set_cons_succ])
          refine take_at 23 77 (.pointer (some ⟨X, 0, none⟩)) rfl rfl (by kernel_rfl) (by kernel_rfl) (by kernel_rfl) (fun _ _ _ h => h) (Or.inl ⟨by kernel_rfl, fun w' hS' => by go_simp⟩) hHeld ?_
          (try simp only [Act.put, List.setIfInBounds_toArray, List.set_cons_zero, List.set_cons_succ])
          refine take_at 24 78 (.slice (some ⟨b, off, none⟩) m0 c0) rfl rfl (by kernel_rfl) (by kernel_rfl) (by kernel_rfl) (fun _ _ _ h => h) (Or.inl ⟨by kernel_rfl, fun w' hS' => by have hd0 := (hS'.cell (p := ⟨X, 0, none⟩) zX).trans kG; go_simp⟩) hHeld ?_
          (try simp only [Act.put, List.setIfInBounds_toArray, List.set_cons_zero, List.set_cons_succ])
          refine take_at 25 79 (.int .i64 (k : Int)) rfl rfl (by kernel_rfl) (by kernel_rfl) (by kernel_rfl) (fun _ _ _ h => h) (Or.inl ⟨by kernel_rfl, fun w' hS' => by go_simp⟩) hHeld ?_
          (try simp only [Act.put, List.setIfInBounds_toArray, List.set_cons_zero, List.set_cons_succ])
          refine take_at 26 80 (.pointer (some ⟨b, off + k * 6, none⟩)) rfl rfl (by kernel_rfl) (by kernel_rfl) (by kernel_rfl) (fun _ _ _ h => h) (Or.inl ⟨by kernel_rfl, fun w' hS' => by go_simp⟩) hHeld ?_
          (try simp only [Act.put, List.setIfInBounds_toArray, List.set_cons_zero, List.set_cons_succ])
          refine take_at 27 81 (.pointer (some ⟨b, off + k * 6 + 3, none⟩)) rfl rfl (by kernel_rfl) (by kernel_rfl) (by kernel_rfl) (fun _ _ _ h => h) (Or.inl ⟨by kernel_rfl, fun w' hS' => by go_simp⟩) hHeld ?_
          (try simp only [Act.put, List.setIfInBounds_toArray, List.set_cons_zero, List.set_cons_succ])
          refine take_at 28 82 (.agg #[.int .i64 R, .int .i64 Cc, .slice ca cn cc]) rfl rfl (by kernel_rfl) (by kernel_rfl) (by kernel_rfl) (fun _ _ _ h => h) (Or.inl ⟨by kernel_rfl, fun w' hS' => by have hd0 := (hS'.cell (p := ⟨b, off + k * 6 + 3, none⟩) zb).trans c3; have hd1 := (hS'.cell (p := ⟨b, off + k * 6 + 4, none⟩) zb).trans c4; have hd2 := (hS'.cell (p := ⟨b, off + k * 6 + 5, none⟩) zb).trans c5; go_simp⟩) hHeld ?_
          (try simp only [Act.put, List.setIfInBounds_toArray, List.set_cons_zero, List.set_cons_succ])
          refine wpAnyH_ready (rs := [29]) (by kernel_rfl) (by simp) ?_
          refine AllReadyH.cons rfl (fun K hK => ?_) AllReadyH.nil
          go_simp
          go_at_call 23
          refine (lmTable_same R Cc _ _ _ l _ _ _ _ ((HUC.out.below (Below.refl _ _).drew).below hHeld) ((HTC.out.below (Below.refl _ _).drew).below hHeld)).mono ?_
          rintro e y2 ⟨rfl, hby2⟩
          go_wp2_with fail
          refine hK.out _ _ (hHeld.trans (hby2.mono hHeld.size)) (fun hHeld => ?_)
          clear hK K
          (try simp only [Act.put, List.setIfInBounds_toArray, List.set_cons_zero, List.set_cons_succ])
          refine take_at 30 84 (.bool false) rfl rfl (by kernel_rfl) (by kernel_rfl) (by kernel_rfl) (fun _ _ _ h => h) (Or.inl ⟨by kernel_rfl, fun w' hS' => by go_simp⟩) hHeld ?_
          (try simp only [Act.put, List.setIfInBounds_toArray, List.set_cons_zero, List.set_cons_succ])
          refine take_at 31 85 (.bool false) rfl rfl (by kernel_rfl) (by kernel_rfl) (by kernel_rfl) (fun _ _ _ h => h) (Or.inl ⟨by kernel_rfl, fun w' hS' => by go_simp⟩) hHeld ?_
          (try simp only [Act.put, List.setIfInBounds_toArray, List.set_cons_zero, List.set_cons_succ])
          refine take_at 32 86 (.bool false) rfl rfl (by kernel_rfl) (by kernel_rfl) (by kernel_rfl) (fun _ _ _ h => h) (Or.inl ⟨by kernel_rfl, fun w' hS' => by go_simp⟩) hHeld ?_
          (try simp only [Act.put, List.setIfInBounds_toArray, List.set_cons_zero, List.set_cons_succ])
          refine take_at 33 87 (.bool false) rfl rfl (by kernel_rfl) (by kernel_rfl) (by kernel_rfl) (fun _ _ _ h => h) (Or.inl ⟨by kernel_rfl, fun w' hS' => by go_simp⟩) hHeld ?_
          (try simp only [Act.put, List.setIfInBounds_toArray, List.set_cons_zero, List.set_cons_succ])
          refine take_at 34 88 (.bool true) rfl rfl (by kernel_rfl) (by kernel_rfl) (by kernel_rfl) (fun _ _ _ h => h) (Or.inl ⟨by kernel_rfl, fun w' hS' => by go_simp⟩) hHeld ?_
          (try simp only [Act.put, List.setIfInBounds_toArray, List.set_cons_zero, List.set_cons_succ])
          refine take_at 35 89 (.bool true) rfl rfl (by kernel_rfl) (by kernel_rfl) (by kernel_rfl) (fun _ _ _ h => h) (Or.inl ⟨by kernel_rfl, fun w' hS' => by go_simp⟩) hHeld ?_
          (try simp only [Act.put, List.setIfInBounds_toArray, List.set_cons_zero, List.set_cons_succ])
          refine take_at 36 90 (.pointer (some ⟨XS, 0, none⟩)) rfl rfl (by kernel_rfl) (by kernel_rfl) (by kernel_rfl) (fun _ _ _ h => h) (Or.inl ⟨by kernel_rfl, fun w' hS' => by go_simp⟩) hHeld ?_
          (try simp only [Act.put, List.setIfInBounds_toArray, List.set_cons_zero, List.set_cons_succ])
          refine take_at 37 91 (.slice (some ⟨bs, offs, none⟩) m8 q8) rfl rfl (by kernel_rfl) (by kernel_rfl) (by kernel_rfl) (fun _ _ _ h => h) (Or.inl ⟨by kernel_rfl, fun w' hS' => by have hd0 := (hS'.cell (p := ⟨XS, 0, none⟩) zS).trans kS; go_simp⟩) hHeld ?_
          (try simp only [Act.put, List.setIfInBounds_toArray, List.set_cons_zero, List.set_cons_succ])
          refine take_at 38 92 (.int .i64 (k : Int)) rfl rfl (by kernel_rfl) (by kernel_rfl) (by kernel_rfl) (fun _ _ _ h => h) (Or.inl ⟨by kernel_rfl, fun w' hS' => by go_simp⟩) hHeld ?_
          (try simp only [Act.put, List.setIfInBounds_toArray, List.set_cons_zero, List.set_cons_succ])
          refine take_at 39 93 (.pointer (some ⟨bs, offs + k * 6, none⟩)) rfl rfl (by kernel_rfl) (by kernel_rfl) (by kernel_rfl) (fun _ _ _ h => h) (Or.inl ⟨by kernel_rfl, fun w' hS' => by go_simp⟩) hHeld ?_
          (try simp only [Act.put, List.setIfInBounds_toArray, List.set_cons_zero, List.set_cons_succ])
          refine take_at 40 94 (.pointer (some ⟨bs, offs + k * 6 + 2, none⟩)) rfl rfl (by kernel_rfl) (by kernel_rfl) (by kernel_rfl) (fun _ _ _ h => h) (Or.inl ⟨by kernel_rfl, fun w' hS' => by go_simp⟩) hHeld ?_
          (try simp only [Act.put, List.setIfInBounds_toArray, List.set_cons_zero, List.set_cons_succ])
          refine take_at 41 95 (.slice sa sn sc) rfl rfl (by kernel_rfl) (by kernel_rfl) (by kernel_rfl) (fun _ _ _ h => h) (Or.inl ⟨by kernel_rfl, fun w' hS' => by have hd0 := (hS'.cell (p := ⟨bs, offs + k * 6 + 2, none⟩) zs).trans s2; go_simp⟩) hHeld ?_
          (try simp only [Act.put, List.setIfInBounds_toArray, List.set_cons_zero, List.set_cons_succ])
          refine take_at 42 96 (.pointer (some ⟨X, 0, none⟩)) rfl rfl (by kernel_rfl) (by kernel_rfl) (by kernel_rfl) (fun _ _ _ h => h) (Or.inl ⟨by kernel_rfl, fun w' hS' => by go_simp⟩) hHeld ?_
          (try simp only [Act.put, List.setIfInBounds_toArray, List.set_cons_zero, List.set_cons_succ])
          refine take_at 43 97 (.slice (some ⟨b, off, none⟩) m0 c0) rfl rfl (by kernel_rfl) (by kernel_rfl) (by kernel_rfl) (fun _ _ _ h => h) (Or.inl ⟨by kernel_rfl, fun w' hS' => by have hd0 := (hS'.cell (p := ⟨X, 0, none⟩) zX).trans kG; go_simp⟩) hHeld ?_
          (try simp only [Act.put, List.setIfInBounds_toArray, List.set_cons_zero, List.set_cons_succ])
          refine take_at 44 98 (.int .i64 (k : Int)) rfl rfl (by kernel_rfl) (by kernel_rfl) (by kernel_rfl) (fun _ _ _ h => h) (Or.inl ⟨by kernel_rfl, fun w' hS' => by go_simp⟩) hHeld ?_
          (try simp only [Act.put, List.setIfInBounds_toArray, List.set_cons_zero, List.set_cons_succ])
          refine take_at 45 99 (.pointer (some ⟨b, off + k * 6, none⟩)) rfl rfl (by kernel_rfl) (by kernel_rfl) (by kernel_rfl) (fun _ _ _ h => h) (Or.inl ⟨by kernel_rfl, fun w' hS' => by go_simp⟩) hHeld ?_
          (try simp only [Act.put, List.setIfInBounds_toArray, List.set_cons_zero, List.set_cons_succ])
          refine take_at 46 100 (.pointer (some ⟨b, off + k * 6 + 2, none⟩)) rfl rfl (by kernel_rfl) (by kernel_rfl) (by kernel_rfl) (fun _ _ _ h => h) (Or.inl ⟨by kernel_rfl, fun w' hS' => by go_simp⟩) hHeld ?_
          (try simp only [Act.put, List.setIfInBounds_toArray, List.set_cons_zero, List.set_cons_succ])
          refine take_at 47 101 (.slice ta tn tc) rfl rfl (by kernel_rfl) (by kernel_rfl) (by kernel_rfl) (fun _ _ _ h => h) (Or.inl ⟨by kernel_rfl, fun w' hS' => by have hd0 := (hS'.cell (p := ⟨b, off + k * 6 + 2, none⟩) zb).trans c2; go_simp⟩) hHeld ?_
          (try simp only [Act.put, List.setIfInBounds_toArray, List.set_cons_zero, List.set_cons_succ])
          refine wpAnyH_ready (rs := [48]) (by kernel_rfl) (by simp) ?_
          refine AllReadyH.cons rfl (fun K hK => ?_) AllReadyH.nil
          go_simp
          go_at_call 22
          refine (lmSigns_eq ((HST.out.below (Below.refl _ _).drew).below hHeld) ((HTT.out.below (Below.refl _ _).drew).below hHeld)).mono ?_
          rintro e y3 ⟨rfl, hby3⟩
          go_wp2_with fail
          refine hK.out _ _ (hHeld.trans (hby3.mono hHeld.size)) (fun hHeld => ?_)
          clear hK K
          (try simp only [Act.put, List.setIfInBounds_toArray, List.set_cons_zero, List.set_cons_succ])
          refine take_at 49 103 (.bool false) rfl rfl (by kernel_rfl) (by kernel_rfl) (by kernel_rfl) (fun _ _ _ h => h) (Or.inl ⟨by kernel_rfl, fun w' hS' => by go_simp⟩) hHeld ?_
          (try simp only [Act.put, List.setIfInBounds_toArray, List.set_cons_zero, List.set_cons_succ])
          refine take_at 50 104 (.bool false) rfl rfl (by kernel_rfl) (by kernel_rfl) (by kernel_rfl) (fun _ _ _ h => h) (Or.inl ⟨by kernel_rfl, fun w' hS' => by go_simp⟩) hHeld ?_
          (try simp only [Act.put, List.setIfInBounds_toArray, List.set_cons_zero, List.set_cons_succ])
          refine take_at 51 105 (.bool false) rfl rfl (by kernel_rfl) (by kernel_rfl) (by kernel_rfl) (fun _ _ _ h => h) (Or.inl ⟨by kernel_rfl, fun w' hS' => by go_simp⟩) hHeld ?_
          (try simp only [Act.put, List.setIfInBounds_toArray, List.set_cons_zero, List.set_cons_succ])
          refine wpAnyH_done (by kernel_rfl) ?_ _
          refine NoPanic.normal ?_
          go_wp2_with fail
          go_roundw
          case rel => exact ⟨k + 1, by omega, by go_num, HBL.out.drew.trans (hHeld.mono HBL.out.drew.size)⟩
          case measure => simp [intOf]; omega
    · have hkb : ¬ (k : Int) < (m0 : Int) := by omega
      go_wp2_with fail
      go_ret
      exact ⟨rfl, HBw9.out.trans (HBL.out.mono (by have := HBw9.out.size; omega))⟩
end Go.Proofs.Ytoliebgdlnjahab
