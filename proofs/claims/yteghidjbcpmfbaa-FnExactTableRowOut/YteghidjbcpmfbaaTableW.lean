import Derived.Test.YteghidjbcpmfbaaTable
import Derived.Test.YteghidjbcpmfbaaRegK
namespace Go.Proofs.Yteghidjbcpmfbaa
open Go.RowKit

theorem run_gridCells {w : World} {g : Nat} {R C : Int} {n : Nat} {f : Nat → Nat} {t : Nat → Sl} (h : GridAt w g R C n f t) : (loadCellsFrom ⟨g, 0, none⟩ 0 54 #[]).run Try.prog w = .ok (gridA R C n f t) w := by
  have := run_loadCells_list (P := Try.prog) w ⟨g, 0, none⟩ (gridA R C n f t).toList (fun j v hv => by
    have hadd : (⟨g, 0, none⟩ : Addr).add j = ⟨g, j, none⟩ := by unfold Addr.add; split <;> simp_all
    rw [hadd, RowAt.cell h]
    simpa using hv)
  simpa [loadCells, gridA_size] using this
set_option maxRecDepth 100000 in
set_option maxHeartbeats 4000000 in
theorem table_any (R C n : Nat) (f : Nat → Nat) (t : Nat → Sl) (l : List Cl) (w : World) (hR : R ≤ 5) (hC : C ≤ 5) (hf : ∀ k, f k ≤ 25) (hr : Rep R C f l) (hl : l.length ≤ 25)
    (ht : ∀ k, k < l.length → Txt w (t (f (stR (l.getD k cl0) * 5 + stC (l.getD k cl0)))).1 (t (f (stR (l.getD k cl0) * 5 + stC (l.getD k cl0)))).2.1 (t (f (stR (l.getD k cl0) * 5 + stC (l.getD k cl0)))).2.2 (l.getD k cl0).2.2.2.2 ∧ (l.getD k cl0).2.2.2.2.length ≤ 1048576) :
    Calls Try.prog 36 #[.agg (gridA R C n f t)] w fun z w' => (∃ a c rs, z = .returned (.agg #[.int .i64 R, .int .i64 C, .slice a l.length c]) ∧ OwnT w' w.heap.size (.slice a l.length c) rs l) ∧ Below w.heap.size w w' := by
  obtain ⟨i0, hi, hz0, hz1, hz2⟩ := info_parts Try.info44
  have HR : Hid (Rep R C f l) := hr
  have HT : Hid (∀ k, k < l.length → Txt w (t (f (stR (l.getD k cl0) * 5 + stC (l.getD k cl0)))).1 (t (f (stR (l.getD k cl0) * 5 + stC (l.getD k cl0)))).2.1 (t (f (stR (l.getD k cl0) * 5 + stC (l.getD k cl0)))).2.2 (l.getD k cl0).2.2.2.2 ∧ (l.getD k cl0).2.2.2.2.length ≤ 1048576) := ht
  clear hr ht
  go_enter Try.func36, Try.ntmps36
  go_upto_region 1 with fail
  have B0 : Below w.heap.size w ((w.alloc (.cells (gridA R C n f t) 51)).alloc (.cells #[.int .i64 0, .int .i64 0, .slice none 0 0] 28)) := ((Below.refl _ _).alloc (Nat.le_refl _) _).alloc (by simp) _
  have G0 : GridAt ((w.alloc (.cells (gridA R C n f t) 51)).alloc (.cells #[.int .i64 0, .int .i64 0, .slice none 0 0] 28)) w.heap.size R C n f t := (gridAt_new w R C n f t).alloc _
  have G1 : RowAt ((w.alloc (.cells (gridA R C n f t) 51)).alloc (.cells #[.int .i64 0, .int .i64 0, .slice none 0 0] 28)) (w.heap.size + 1) #[.int .i64 0, .int .i64 0, .slice none 0 0] 28 := by
    have := rowAt_new (w.alloc (.cells (gridA R C n f t) 51)) #[.int .i64 0, .int .i64 0, .slice none 0 0] 28
    simpa using this
  generalize ((w.alloc (.cells (gridA R C n f t) 51)).alloc (.cells #[.int .i64 0, .int .i64 0, .slice none 0 0] 28)) = v at B0 G0 G1 ⊢
  have q0 := G0.rows
  have q1 := G0.cols
  go_upto_region 2 with fail
  have B1 : Below v.heap.size v (v.alloc (.cells #[.int .i64 R, .int .i64 C, .slice none 0 0] 28)) := (Below.refl _ _).alloc (Nat.le_refl _) _
  have G2 : RowAt (v.alloc (.cells #[.int .i64 R, .int .i64 C, .slice none 0 0] 28)) v.heap.size #[.int .i64 R, .int .i64 C, .slice none 0 0] 28 := rowAt_new _ _ _
  generalize (v.alloc (.cells #[.int .i64 R, .int .i64 C, .slice none 0 0] 28)) = v0 at B1 G2 ⊢
  have z0 := G0.lt
  have z1 := G1.lt
  have z2 := G2.lt
  have s01 := B0.size
  clear q0 q1
  have q0 := (G0.below B1 z0).rows
  go_wp2_with fail
  go_loopw [4, 15] (fun xv iv wr => ∃ i : Nat, i ≤ R ∧ iv = .int .i64 i ∧ ∃ (k x : Nat) (rs : List Rw) (a : Option Addr) (c : Nat), Ahead C l i 0 k ∧ xv = .int .u32 x ∧ Mask x f (fun p q => vis i 0 C p q) ∧ RowAt wr v.heap.size #[.int .i64 R, .int .i64 C, .slice a k c] 28 ∧ OwnR wr v0.heap.size (.slice a k c) rs ∧ TxtOwn wr v0.heap.size (Value.slice a k c).ownBlock rs (l.take k) ∧ Below v.heap.size v wr ∧ v0.heap.size ≤ wr.heap.size) (fun _ iv _ => R - (intOf iv).toNat)
  case atStart => exact ⟨0, Nat.zero_le _, rfl, 0, 0, [], none, 0, ⟨Nat.zero_le _, fun q hq => by omega, fun q _ _ hv => by unfold vis at hv; omega⟩, rfl, Mask.zero (fun a b hv => by unfold vis at hv; omega), G2, OwnR.nil _ _, TxtOwn.nil _ _ _, B1, Nat.le_refl _⟩
  case round =>
    clear q0 G2 B1
    obtain ⟨i, hi', rfl, k, x, rs, a, c, hA, rfl, hM, hT, hO, hX, hb, hs⟩ := hrel
    have HA : Hid (Ahead C l i 0 k) := hA
    have HM : Hid (Mask x f (fun p q => vis i 0 C p q)) := hM
    have HTb : Hid (RowAt wr v.heap.size #[.int .i64 R, .int .i64 C, .slice a k c] 28) := hT
    have HO : Hid (OwnR wr v0.heap.size (.slice a k c) rs) := hO
    have HXt : Hid (TxtOwn wr v0.heap.size (Value.slice a k c).ownBlock rs (l.take k)) := hX
    have HB : Hid (Below v.heap.size v wr) := hb
    have g1 := (G0.below hb z0).cols
    clear hA hM hT hO hX hb
    by_cases hlt : i < R
    · have b0 : (i : Int) < 5 := by omega
      have b1 : (C : Int) ≤ 5 := by omega
      go_wp2_with fail
      go_quiet (fail)
      go_wp2_with fail
      go_loopw [4, 25] (fun xv jv wr => ∃ j : Nat, j ≤ C ∧ jv = .int .i64 j ∧ ∃ (k x : Nat) (rs : List Rw) (a : Option Addr) (c : Nat), Ahead C l i j k ∧ xv = .int .u32 x ∧ Mask x f (fun p q => vis i j C p q) ∧ RowAt wr v.heap.size #[.int .i64 R, .int .i64 C, .slice a k c] 28 ∧ OwnR wr v0.heap.size (.slice a k c) rs ∧ TxtOwn wr v0.heap.size (Value.slice a k c).ownBlock rs (l.take k) ∧ Below v.heap.size v wr ∧ v0.heap.size ≤ wr.heap.size) (fun _ jv _ => C - (intOf jv).toNat)
      case atStart => exact ⟨0, Nat.zero_le _, rfl, k, x, rs, a, c, HA.out, rfl, HM.out, HTb.out.below (below_drewN (Below.refl _ _) _) HTb.out.lt, own_below HO.out (below_drewN (Below.refl _ _) _), HXt.out.below (below_drewN (Below.refl _ _) _), below_drewN HB.out _, by simpa using hs⟩
      case round =>
        clear HA HM HTb HO HXt HB g1
        obtain ⟨j, hj, rfl, k, x, rs, a, c, hA, rfl, hM, hT, hO, hX, hb, hs⟩ := hrel
        have HA : Hid (Ahead C l i j k) := hA
        have HM : Hid (Mask x f (fun p q => vis i j C p q)) := hM
        have HTb : Hid (RowAt wr v.heap.size #[.int .i64 R, .int .i64 C, .slice a k c] 28) := hT
        have HO : Hid (OwnR wr v0.heap.size (.slice a k c) rs) := hO
        have HXt : Hid (TxtOwn wr v0.heap.size (Value.slice a k c).ownBlock rs (l.take k)) := hX
        have HB : Hid (Below v.heap.size v wr) := hb
        by_cases hlj : j < C
        · have gg : GridAt wr w.heap.size R C n f t := G0.below hb z0
          have k1 := gg.num (i * 5 + j) (by omega)
          have hm := hf (i * 5 + j)
          obtain ⟨m, HMm⟩ : ∃ m, Hid (f (i * 5 + j) = m) := ⟨_, rfl⟩
          rw [← Nat.add_assoc, HMm.out] at k1
          rw [HMm.out] at hm
          have hx26 := hM.1
          have HGG : Hid (GridAt wr w.heap.size R C n f t) := gg
          clear hA hM hT hO hX hb gg
          cases hbt : x.testBit m
          · have HBt : Hid (x.testBit m = false) := hbt
            clear hbt
            go_upto_region 11 with (go_at_call 59; refine (numHas_is HBt.out hx26 hm _).mono ?_; rintro e w4 ⟨rfl, hw4⟩; subst w4)
            have hnew : ∀ p q, vis i j C p q → f (p * 5 + q) ≠ f (i * 5 + j) := fun p q hv e => by
              have := (HM.out.2 m).2 ⟨p, q, hv, e.trans HMm.out⟩
              rw [HBt.out] at this
              exact absurd this (by simp)
            obtain ⟨hkl, es1, es2, hA'⟩ := HA.out.new HR.out hlt hlj hnew
            obtain ⟨tx, htx⟩ : ∃ tx, tx = (l.getD k cl0).2.2.2.2 := ⟨_, rfl⟩
            have hTk := HT.out k hkl
            rw [es1, es2, ← htx] at hTk
            have htxl : tx.length ≤ 1048576 := hTk.2
            have HTX : Hid (Txt wr.drew (t (f (i * 5 + j))).1 (t (f (i * 5 + j))).2.1 (t (f (i * 5 + j))).2.2 tx) := hTk.1.below ((B0.trans (HB.out.mono s01)).drew)
            have HTXE : Hid (tx = (l.getD k cl0).2.2.2.2) := htx
            have HA' : Hid (Ahead C l i (j + 1) (k + 1)) := hA'
            have HE : Hid (stR (l.getD k cl0) = i ∧ stC (l.getD k cl0) = j) := ⟨es1, es2⟩
            have lv : v.heap.size < wr.drew.heap.size := by simp only [World.size_drew]; omega
            have lw : w.heap.size < wr.drew.heap.size := by simp only [World.size_drew]; omega
            clear hnew hTk htx hA' es1 es2
            have e2 : wr.cell? ⟨v.heap.size, 2, none⟩ = some (.slice a k c) := HTb.out.cell 2
            refine wp_region_noPanic ?_
            refine wp_region_held_drew (S := fun w' => GridAt w' w.heap.size R C n f t) (by kernel_rfl) HGG.out (fun hHeld => ?_)
            refine wpAnyH_take (i := 0) (v := .pointer (some ⟨v.heap.size, 2, none⟩)) rfl (by kernel_rfl) (by kernel_rfl) (by kernel_rfl) (fun _ _ _ h => h) (Or.inl ⟨by rfl, fun w' _ => by go_simp⟩) hHeld ?_
            refine wpAnyH_take (i := 2) rfl (by kernel_rfl) (by kernel_rfl) (by kernel_rfl) (fun _ _ _ h => h) (yieldsIf_load_row (by rfl) 51 (.tmp 1) rfl w.heap.size rfl 51 (gridA R C n f t) (0, 0) _ (fun w' h => h) Try.underlying51 rfl (grid_infoA _ _ _ _ _)) hHeld ?_
            refine wpAnyH_take (i := 3) (v := .int .i64 i) rfl (by kernel_rfl) (by kernel_rfl) (by kernel_rfl) (fun _ _ _ h => h) (Or.inl ⟨by rfl, fun w' _ => by go_simp⟩) hHeld ?_
            refine wpAnyH_take (i := 4) (v := .int .i64 j) rfl (by kernel_rfl) (by kernel_rfl) (by kernel_rfl) (fun _ _ _ h => h) (Or.inl ⟨by rfl, fun w' _ => by go_simp⟩) hHeld ?_
            simp only [Act.put, List.setIfInBounds_toArray]
            refine wpAnyH_ready (rs := [1, 5]) (by kernel_rfl) (by simp) ?_
            refine AllReadyH.cons rfl (fun K hK => ?_) ?_
            · go_simp
              refine hK.out _ _ hHeld (fun hHeld => ?_)
              clear hK K
              (try simp only [Act.put, List.setIfInBounds_toArray, List.set_cons_zero, List.set_cons_succ])
              refine wpAnyH_ready (rs := [5]) (by kernel_rfl) (by simp) ?_
              refine AllReadyH.cons rfl (fun K hK => ?_) AllReadyH.nil
              go_simp
              go_at_call 60
              refine (cell_any R C n f t i j tx _ hR hC hlt hlj hf HTX.out htxl).mono ?_
              rintro e w4 ⟨⟨d, h, p, m', c', rfl, hDn, hRt, hOw⟩, hb4⟩
              have s4 : wr.heap.size ≤ w4.heap.size := by have := hb4.size; simpa using this
              have f2 : w4.cell? ⟨v.heap.size, 2, none⟩ = some (.slice a k c) := (hb4.cell (p := ⟨v.heap.size, 2, none⟩) lv).trans e2
              have hHeld4 : GridAt w4 w.heap.size R C n f t := hHeld.below hb4 lw
              go_wp2_with fail
              refine hK.out _ _ hHeld4 (fun hHeld => ?_)
              clear hK K hHeld4
              (try simp only [Act.put, List.setIfInBounds_toArray, List.set_cons_zero, List.set_cons_succ])
              refine wpAnyH_ready (rs := [6]) (by kernel_rfl) (by simp) ?_
              refine AllReadyH.cons rfl (fun K hK => ?_) AllReadyH.nil
              go_simp
              refine hK.out _ _ (hHeld.alloc _) (fun hHeld => ?_)
              clear hK K
              (try simp only [Act.put, List.setIfInBounds_toArray, List.set_cons_zero, List.set_cons_succ])
              refine wpAnyH_ready (rs := [7]) (by kernel_rfl) (by simp) ?_
              refine AllReadyH.cons rfl (fun K hK => ?_) AllReadyH.nil
              refine step_append_lies _ (by rfl) _ _ _ (by rfl) v0.heap.size 44 i0 _ 5 56 Try.underlying26 hi hz0 hz1 hz2 rfl (by omega) (.slice a k c) k (flat5 rs) (by rfl) ((own_below (own_below HO.out.row ((Below.refl wr.heap.size wr).drew)) hb4).alloc _) ⟨w4.heap.size, 0, none⟩ 1 1 [.int .i64 (i : Int), .int .i64 (j : Int), .int .i64 (d : Int), .int .i64 (h : Int), .slice p m' c'] (by rfl) (by rfl) (cell_five_new _ _ _ _ _ _ _) (five_oneCell _ _ _ _ _ _ _) (by omega) (by unfold maxLen; omega) (by omega) (by simp; omega) (w4.heap.size + 1) (by simp) ?_
              intro gg cc w5 hown5 hgrow5 hat hltg
              refine hK.out _ _ ?_ (fun hHeld => ?_)
              · exact RowAt.grown hHeld hgrow5 (fun e => by have := (own_lt HO.out.row e).1; omega)
              clear hK K
              (try simp only [Act.put, List.setIfInBounds_toArray])
              have T4 : RowAt (w4.alloc (.cells #[.int .i64 (i : Int), .int .i64 (j : Int), .int .i64 (d : Int), .int .i64 (h : Int), .slice p m' c'] 44)) v.heap.size #[.int .i64 R, .int .i64 C, .slice a k c] 28 := (HTb.out.drew.below hb4 lv).alloc _
              have T5 := RowAt.grown T4 hgrow5 (fun e => by have := (own_lt HO.out.row e).1; omega)
              have p2 : w5.cell? ⟨v.heap.size, 2, none⟩ = some (.slice a k c) := T5.cell 2
              have p3 := T5.frozen 2
              refine wpAnyH_take (i := 8) (v := .pointer (some ⟨v.heap.size, 2, none⟩)) rfl (by kernel_rfl) (by kernel_rfl) (by kernel_rfl) (fun _ _ _ h => h) (Or.inl ⟨by rfl, fun w' _ => by go_simp⟩) hHeld ?_
              (try simp only [Act.put])
              refine wpAnyH_ready (rs := [9]) (by kernel_rfl) (by simp) ?_
              refine AllReadyH.cons rfl (fun K hK => ?_) AllReadyH.nil
              go_simp
              refine hK.out _ _ (RowAt.other hHeld _ _ (by simp; omega)) (fun _ => ?_)
              clear hK K
              refine wpAnyH_done (by kernel_rfl) ?_ _
              refine NoPanic.normal ?_
              go_wp2_with fail
              go_roundw
              case rel =>
                have lo4 : OwnR w4 v0.heap.size (.slice a k c) rs := own_below (own_below HO.out ((Below.refl wr.heap.size wr).drew)) hb4
                have tO : Own w5 v0.heap.size (.slice p m' c') tx := own_grown (Own.alloc (own_less hOw (by simp only [World.size_drew]; omega)) _) hgrow5 (fun g hg => own_kinds lo4 hOw (by decide) g hg)
                have lr := lo4.len
                have rO : OwnR w5 v0.heap.size (.slice (some ⟨gg, 0, none⟩) (k + 1) cc) (rs ++ [((i : Int), (j : Int), (d : Int), (h : Int), p, m', c')]) := OwnR.snoc hown5 (by omega) rfl
                have t4 : TxtOwn w4 v0.heap.size (Value.slice a k c).ownBlock rs (l.take k) := (HXt.out.below ((Below.refl wr.heap.size wr).drew)).below hb4
                have t5 : TxtOwn w5 v0.heap.size (Value.slice a k c).ownBlock rs (l.take k) := (t4.below ((Below.refl _ _).alloc (Nat.le_refl _) _)).grown hgrow5 (fun q hq b hb => t4.2.2.1 q hq b hb)
                obtain ⟨a0, b0', d0, h0, el, _, _, hd0, hh0⟩ := HR.out.cell k hkl
                have ea : a0 = i := by have := HE.out.1; rw [el] at this; simpa [stR] using this
                have eb : b0' = j := by have := HE.out.2; rw [el] at this; simpa [stC] using this
                subst ea eb
                have ed := hDn.uniq hd0
                have eh := hRt.uniq hh0
                subst ed eh
                have t6 := t5.snoc (C := wr.heap.size) (x := ((a0 : Int), (b0' : Int), (d : Int), (h : Int), p, m', c')) (y := l.getD k cl0) (by rw [el, ← HTXE.out]; exact ⟨rfl, rfl, rfl, rfl, tO⟩) (fun g hg => own_kinds lo4 hOw (by decide) g hg) (fun q hq g hg => HXt.out.blockLt q hq g hg) (fun g hg => by have := (own_lt hOw.row hg).1; simpa using this)
                rw [show l.take k ++ [l.getD k cl0] = l.take (k + 1) from by rw [List.take_succ_eq_append_getElem hkl]; simp [List.getD, hkl]] at t6
                have B5 : Below v.heap.size v w5 := (((HB.out.drew).trans (hb4.mono (by simp only [World.size_drew]; omega))).alloc (by omega) _).grown hgrow5 (by simp; omega) (fun q hq => by have := (own_lt HO.out.row hq).1; omega)
                have s5 := hgrow5.size
                simp at s5
                refine ⟨b0' + 1, by omega, by go_num, k + 1, x ||| 2 ^ m, _, some ⟨gg, 0, none⟩, cc, HA'.out, by rw [or_pow x m hx26 hm], HM.out.snoc hm HMm.out (fun p' q' => by unfold vis; omega), T5.setCell 2 _, own_set rO _ _ (fun e => by have := (own_lt rO.row e).1; simp at this; omega), (t6.anew rO).setLow _ _ (by simp; omega), B5.setCell (Nat.le_refl _) _, by simp [World.setCell]; omega⟩
              case measure => simp [intOf]; omega
            · refine AllReadyH.cons rfl (fun K hK => ?_) AllReadyH.nil
              go_simp
              go_at_call 60
              refine (cell_any R C n f t i j tx _ hR hC hlt hlj hf HTX.out htxl).mono ?_
              rintro e w4 ⟨⟨d, h, p, m', c', rfl, hDn, hRt, hOw⟩, hb4⟩
              have s4 : wr.heap.size ≤ w4.heap.size := by have := hb4.size; simpa using this
              have f2 : w4.cell? ⟨v.heap.size, 2, none⟩ = some (.slice a k c) := (hb4.cell (p := ⟨v.heap.size, 2, none⟩) lv).trans e2
              have hHeld4 : GridAt w4 w.heap.size R C n f t := hHeld.below hb4 lw
              go_wp2_with fail
              refine hK.out _ _ hHeld4 (fun hHeld => ?_)
              clear hK K hHeld4
              (try simp only [Act.put, List.setIfInBounds_toArray, List.set_cons_zero, List.set_cons_succ])
              refine wpAnyH_ready (rs := [1, 6]) (by kernel_rfl) (by simp) ?_
              refine AllReadyH.cons rfl (fun K hK => ?_) ?_
              · go_simp
                refine hK.out _ _ hHeld (fun hHeld => ?_)
                clear hK K
                (try simp only [Act.put, List.setIfInBounds_toArray, List.set_cons_zero, List.set_cons_succ])
                refine wpAnyH_ready (rs := [6]) (by kernel_rfl) (by simp) ?_
                refine AllReadyH.cons rfl (fun K hK => ?_) AllReadyH.nil
                go_simp
                refine hK.out _ _ (hHeld.alloc _) (fun hHeld => ?_)
                clear hK K
                (try simp only [Act.put, List.setIfInBounds_toArray, List.set_cons_zero, List.set_cons_succ])
                refine wpAnyH_ready (rs := [7]) (by kernel_rfl) (by simp) ?_
                refine AllReadyH.cons rfl (fun K hK => ?_) AllReadyH.nil
                refine step_append_lies _ (by rfl) _ _ _ (by rfl) v0.heap.size 44 i0 _ 5 56 Try.underlying26 hi hz0 hz1 hz2 rfl (by omega) (.slice a k c) k (flat5 rs) (by rfl) ((own_below (own_below HO.out.row ((Below.refl wr.heap.size wr).drew)) hb4).alloc _) ⟨w4.heap.size, 0, none⟩ 1 1 [.int .i64 (i : Int), .int .i64 (j : Int), .int .i64 (d : Int), .int .i64 (h : Int), .slice p m' c'] (by rfl) (by rfl) (cell_five_new _ _ _ _ _ _ _) (five_oneCell _ _ _ _ _ _ _) (by omega) (by unfold maxLen; omega) (by omega) (by simp; omega) (w4.heap.size + 1) (by simp) ?_
                intro gg cc w5 hown5 hgrow5 hat hltg
                refine hK.out _ _ ?_ (fun hHeld => ?_)
                · exact RowAt.grown hHeld hgrow5 (fun e => by have := (own_lt HO.out.row e).1; omega)
                clear hK K
                (try simp only [Act.put, List.setIfInBounds_toArray])
                have T4 : RowAt (w4.alloc (.cells #[.int .i64 (i : Int), .int .i64 (j : Int), .int .i64 (d : Int), .int .i64 (h : Int), .slice p m' c'] 44)) v.heap.size #[.int .i64 R, .int .i64 C, .slice a k c] 28 := (HTb.out.drew.below hb4 lv).alloc _
                have T5 := RowAt.grown T4 hgrow5 (fun e => by have := (own_lt HO.out.row e).1; omega)
                have p2 : w5.cell? ⟨v.heap.size, 2, none⟩ = some (.slice a k c) := T5.cell 2
                have p3 := T5.frozen 2
                refine wpAnyH_take (i := 8) (v := .pointer (some ⟨v.heap.size, 2, none⟩)) rfl (by kernel_rfl) (by kernel_rfl) (by kernel_rfl) (fun _ _ _ h => h) (Or.inl ⟨by rfl, fun w' _ => by go_simp⟩) hHeld ?_
                (try simp only [Act.put])
                refine wpAnyH_ready (rs := [9]) (by kernel_rfl) (by simp) ?_
                refine AllReadyH.cons rfl (fun K hK => ?_) AllReadyH.nil
                go_simp
                refine hK.out _ _ (RowAt.other hHeld _ _ (by simp; omega)) (fun _ => ?_)
                clear hK K
                refine wpAnyH_done (by kernel_rfl) ?_ _
                refine NoPanic.normal ?_
                go_wp2_with fail
                go_roundw
                case rel =>
                  have lo4 : OwnR w4 v0.heap.size (.slice a k c) rs := own_below (own_below HO.out ((Below.refl wr.heap.size wr).drew)) hb4
                  have tO : Own w5 v0.heap.size (.slice p m' c') tx := own_grown (Own.alloc (own_less hOw (by simp only [World.size_drew]; omega)) _) hgrow5 (fun g hg => own_kinds lo4 hOw (by decide) g hg)
                  have lr := lo4.len
                  have rO : OwnR w5 v0.heap.size (.slice (some ⟨gg, 0, none⟩) (k + 1) cc) (rs ++ [((i : Int), (j : Int), (d : Int), (h : Int), p, m', c')]) := OwnR.snoc hown5 (by omega) rfl
                  have t4 : TxtOwn w4 v0.heap.size (Value.slice a k c).ownBlock rs (l.take k) := (HXt.out.below ((Below.refl wr.heap.size wr).drew)).below hb4
                  have t5 : TxtOwn w5 v0.heap.size (Value.slice a k c).ownBlock rs (l.take k) := (t4.below ((Below.refl _ _).alloc (Nat.le_refl _) _)).grown hgrow5 (fun q hq b hb => t4.2.2.1 q hq b hb)
                  obtain ⟨a0, b0', d0, h0, el, _, _, hd0, hh0⟩ := HR.out.cell k hkl
                  have ea : a0 = i := by have := HE.out.1; rw [el] at this; simpa [stR] using this
                  have eb : b0' = j := by have := HE.out.2; rw [el] at this; simpa [stC] using this
                  subst ea eb
                  have ed := hDn.uniq hd0
                  have eh := hRt.uniq hh0
                  subst ed eh
                  have t6 := t5.snoc (C := wr.heap.size) (x := ((a0 : Int), (b0' : Int), (d : Int), (h : Int), p, m', c')) (y := l.getD k cl0) (by rw [el, ← HTXE.out]; exact ⟨rfl, rfl, rfl, rfl, tO⟩) (fun g hg => own_kinds lo4 hOw (by decide) g hg) (fun q hq g hg => HXt.out.blockLt q hq g hg) (fun g hg => by have := (own_lt hOw.row hg).1; simpa using this)
                  rw [show l.take k ++ [l.getD k cl0] = l.take (k + 1) from by rw [List.take_succ_eq_append_getElem hkl]; simp [List.getD, hkl]] at t6
                  have B5 : Below v.heap.size v w5 := (((HB.out.drew).trans (hb4.mono (by simp only [World.size_drew]; omega))).alloc (by omega) _).grown hgrow5 (by simp; omega) (fun q hq => by have := (own_lt HO.out.row hq).1; omega)
                  have s5 := hgrow5.size
                  simp at s5
                  refine ⟨b0' + 1, by omega, by go_num, k + 1, x ||| 2 ^ m, _, some ⟨gg, 0, none⟩, cc, HA'.out, by rw [or_pow x m hx26 hm], HM.out.snoc hm HMm.out (fun p' q' => by unfold vis; omega), T5.setCell 2 _, own_set rO _ _ (fun e => by have := (own_lt rO.row e).1; simp at this; omega), (t6.anew rO).setLow _ _ (by simp; omega), B5.setCell (Nat.le_refl _) _, by simp [World.setCell]; omega⟩
                case measure => simp [intOf]; omega
              · refine AllReadyH.cons rfl (fun K hK => ?_) AllReadyH.nil
                go_simp
                refine hK.out _ _ (hHeld.alloc _) (fun hHeld => ?_)
                clear hK K
                (try simp only [Act.put, List.setIfInBounds_toArray, List.set_cons_zero, List.set_cons_succ])
                have f3 : (w4.alloc (.cells #[.int .i64 (i : Int), .int .i64 (j : Int), .int .i64 (d : Int), .int .i64 (h : Int), .slice p m' c'] 44)).cell? ⟨v.heap.size, 2, none⟩ = some (.slice a k c) := ((HTb.out.drew.below hb4 lv).alloc _).cell 2
                refine wpAnyH_ready (rs := [1]) (by kernel_rfl) (by simp) ?_
                refine AllReadyH.cons rfl (fun K hK => ?_) AllReadyH.nil
                go_simp
                refine hK.out _ _ hHeld (fun hHeld => ?_)
                clear hK K
                (try simp only [Act.put, List.setIfInBounds_toArray, List.set_cons_zero, List.set_cons_succ])
                refine wpAnyH_ready (rs := [7]) (by kernel_rfl) (by simp) ?_
                refine AllReadyH.cons rfl (fun K hK => ?_) AllReadyH.nil
                refine step_append_lies _ (by rfl) _ _ _ (by rfl) v0.heap.size 44 i0 _ 5 56 Try.underlying26 hi hz0 hz1 hz2 rfl (by omega) (.slice a k c) k (flat5 rs) (by rfl) ((own_below (own_below HO.out.row ((Below.refl wr.heap.size wr).drew)) hb4).alloc _) ⟨w4.heap.size, 0, none⟩ 1 1 [.int .i64 (i : Int), .int .i64 (j : Int), .int .i64 (d : Int), .int .i64 (h : Int), .slice p m' c'] (by rfl) (by rfl) (cell_five_new _ _ _ _ _ _ _) (five_oneCell _ _ _ _ _ _ _) (by omega) (by unfold maxLen; omega) (by omega) (by simp; omega) (w4.heap.size + 1) (by simp) ?_
                intro gg cc w5 hown5 hgrow5 hat hltg
                refine hK.out _ _ ?_ (fun hHeld => ?_)
                · exact RowAt.grown hHeld hgrow5 (fun e => by have := (own_lt HO.out.row e).1; omega)
                clear hK K
                (try simp only [Act.put, List.setIfInBounds_toArray])
                have T4 : RowAt (w4.alloc (.cells #[.int .i64 (i : Int), .int .i64 (j : Int), .int .i64 (d : Int), .int .i64 (h : Int), .slice p m' c'] 44)) v.heap.size #[.int .i64 R, .int .i64 C, .slice a k c] 28 := (HTb.out.drew.below hb4 lv).alloc _
                have T5 := RowAt.grown T4 hgrow5 (fun e => by have := (own_lt HO.out.row e).1; omega)
                have p2 : w5.cell? ⟨v.heap.size, 2, none⟩ = some (.slice a k c) := T5.cell 2
                have p3 := T5.frozen 2
                refine wpAnyH_take (i := 8) (v := .pointer (some ⟨v.heap.size, 2, none⟩)) rfl (by kernel_rfl) (by kernel_rfl) (by kernel_rfl) (fun _ _ _ h => h) (Or.inl ⟨by rfl, fun w' _ => by go_simp⟩) hHeld ?_
                (try simp only [Act.put])
                refine wpAnyH_ready (rs := [9]) (by kernel_rfl) (by simp) ?_
                refine AllReadyH.cons rfl (fun K hK => ?_) AllReadyH.nil
                go_simp
                refine hK.out _ _ (RowAt.other hHeld _ _ (by simp; omega)) (fun _ => ?_)
                clear hK K
                refine wpAnyH_done (by kernel_rfl) ?_ _
                refine NoPanic.normal ?_
                go_wp2_with fail
                go_roundw
                case rel =>
                  have lo4 : OwnR w4 v0.heap.size (.slice a k c) rs := own_below (own_below HO.out ((Below.refl wr.heap.size wr).drew)) hb4
                  have tO : Own w5 v0.heap.size (.slice p m' c') tx := own_grown (Own.alloc (own_less hOw (by simp only [World.size_drew]; omega)) _) hgrow5 (fun g hg => own_kinds lo4 hOw (by decide) g hg)
                  have lr := lo4.len
                  have rO : OwnR w5 v0.heap.size (.slice (some ⟨gg, 0, none⟩) (k + 1) cc) (rs ++ [((i : Int), (j : Int), (d : Int), (h : Int), p, m', c')]) := OwnR.snoc hown5 (by omega) rfl
                  have t4 : TxtOwn w4 v0.heap.size (Value.slice a k c).ownBlock rs (l.take k) := (HXt.out.below ((Below.refl wr.heap.size wr).drew)).below hb4
                  have t5 : TxtOwn w5 v0.heap.size (Value.slice a k c).ownBlock rs (l.take k) := (t4.below ((Below.refl _ _).alloc (Nat.le_refl _) _)).grown hgrow5 (fun q hq b hb => t4.2.2.1 q hq b hb)
                  obtain ⟨a0, b0', d0, h0, el, _, _, hd0, hh0⟩ := HR.out.cell k hkl
                  have ea : a0 = i := by have := HE.out.1; rw [el] at this; simpa [stR] using this
                  have eb : b0' = j := by have := HE.out.2; rw [el] at this; simpa [stC] using this
                  subst ea eb
                  have ed := hDn.uniq hd0
                  have eh := hRt.uniq hh0
                  subst ed eh
                  have t6 := t5.snoc (C := wr.heap.size) (x := ((a0 : Int), (b0' : Int), (d : Int), (h : Int), p, m', c')) (y := l.getD k cl0) (by rw [el, ← HTXE.out]; exact ⟨rfl, rfl, rfl, rfl, tO⟩) (fun g hg => own_kinds lo4 hOw (by decide) g hg) (fun q hq g hg => HXt.out.blockLt q hq g hg) (fun g hg => by have := (own_lt hOw.row hg).1; simpa using this)
                  rw [show l.take k ++ [l.getD k cl0] = l.take (k + 1) from by rw [List.take_succ_eq_append_getElem hkl]; simp [List.getD, hkl]] at t6
                  have B5 : Below v.heap.size v w5 := (((HB.out.drew).trans (hb4.mono (by simp only [World.size_drew]; omega))).alloc (by omega) _).grown hgrow5 (by simp; omega) (fun q hq => by have := (own_lt HO.out.row hq).1; omega)
                  have s5 := hgrow5.size
                  simp at s5
                  refine ⟨b0' + 1, by omega, by go_num, k + 1, x ||| 2 ^ m, _, some ⟨gg, 0, none⟩, cc, HA'.out, by rw [or_pow x m hx26 hm], HM.out.snoc hm HMm.out (fun p' q' => by unfold vis; omega), T5.setCell 2 _, own_set rO _ _ (fun e => by have := (own_lt rO.row e).1; simp at this; omega), (t6.anew rO).setLow _ _ (by simp; omega), B5.setCell (Nat.le_refl _) _, by simp [World.setCell]; omega⟩
                case measure => simp [intOf]; omega
          · have HBt : Hid (x.testBit m = true) := hbt
            clear hbt
            go_wp2_with (go_at_call 59; refine (numHas_is HBt.out hx26 hm _).mono ?_; rintro e w4 ⟨rfl, hw4⟩; subst w4)
            go_roundw
            case rel =>
              have hold : ∃ p q, vis i j C p q ∧ f (p * 5 + q) = f (i * 5 + j) := by
                rw [HMm.out]
                exact (HM.out.2 m).1 HBt.out
              refine ⟨j + 1, by omega, by go_num, k, x, rs, a, c, HA.out.old HR.out hold, rfl, ?_, HTb.out, HO.out, HXt.out, HB.out, hs⟩
              obtain ⟨p, q, h1, h2⟩ := hold
              refine ⟨HM.out.1, fun y => ?_⟩
              rw [HM.out.2 y]
              constructor
              · rintro ⟨p', q', h3, h4⟩
                exact ⟨p', q', by unfold vis at h3 ⊢; omega, h4⟩
              · rintro ⟨p', q', h3, h4⟩
                by_cases hh : p' = i ∧ q' = j
                · obtain ⟨rfl, rfl⟩ := hh
                  exact ⟨p, q, h1, h2.trans h4⟩
                · exact ⟨p', q', by unfold vis at h3 ⊢; omega, h4⟩
            case measure => simp [intOf]; omega
        · clear hA hM hT hO hX hb
          go_wp2_with fail
          go_roundw
          case rel =>
            have e1 : j = C := by omega
            refine ⟨i + 1, by omega, by go_num, k, x, rs, a, c, ?_, rfl, ?_, HTb.out, HO.out, HXt.out, HB.out, hs⟩
            · have := HA.out
              rw [e1] at this
              exact this.row
            · have := HM.out
              rw [e1] at this
              exact this.same (fun p q => by unfold vis; omega)
          case measure => simp [intOf]; omega
    · have hkl : k = l.length := by
        rcases Nat.lt_or_ge k l.length with h1 | h1
        · obtain ⟨a0, b0, d0, h0, el, ha0, hb0, _, _⟩ := HR.out.cell k h1
          refine absurd ?_ (HA.out.2.2 k (Nat.le_refl _) h1)
          rw [el]
          simp [stR, stC, vis]
          omega
        · have := HA.out.1
          omega
      subst hkl
      have k0 : wr.cell? ⟨v.heap.size, 0, none⟩ = some (.int .i64 R) := HTb.out.cell 0
      have k1 : wr.cell? ⟨v.heap.size, 1, none⟩ = some (.int .i64 C) := HTb.out.cell 1
      have k2 : wr.cell? ⟨v.heap.size, 2, none⟩ = some (.slice a l.length c) := HTb.out.cell 2
      have HG1 : Hid (RowAt wr (w.heap.size + 1) #[.int .i64 0, .int .i64 0, .slice none 0 0] 28) := G1.below HB.out z1
      go_wp2_with (refine wpList_store_row rfl 28 (.tmp 2) (.tmp 48) rfl (w.heap.size + 1) #[.int .i64 R, .int .i64 C, .slice a l.length c] rfl rfl 28 _ HG1.out tab_info rfl (cells3_one _ _ _ _ _) ?_)
      refine bodyPost_ret (v := .agg #[.int .i64 R, .int .i64 C, .slice a l.length c]) (results_cell_row (p := 2) (ty := 28) rfl _ _ (w.heap.size + 1) 28 _ _ _ rfl (RowAt.setRow HG1.out _) Try.underlying28 rfl tab_info) rfl ⟨⟨a, c, rs, rfl, ?_⟩, below_row (B0.trans (HB.out.mono s01)) (by omega) _⟩
      have hX := HXt.out
      rw [List.take_of_length_le (Nat.le_refl _)] at hX
      exact OwnT.less (B' := v0.heap.size) ⟨own_row HO.out _ _ (fun e => by have := (own_lt HO.out.row e).1; omega), hX.rowLow _ _ (by omega)⟩ (by omega)
end Go.Proofs.Yteghidjbcpmfbaa
