import Derived.Test.YteghidjbcpmfbaaB3
import Derived.Test.YteghidjbcpmfbaaB2
import Derived.Deep.QuietTactic
import Derived.BigQuiet
namespace Go.Proofs.Yteghidjbcpmfbaa
open Go.RowKit

set_option maxRecDepth 100000 in
set_option maxHeartbeats 8000000 in
theorem implTableColOut_any (R C t' : Int) (a : Option Addr) (n cap : Nat) (l : List Cl) (w : World) (h : Tab w a n cap l) :
    Calls Try.prog 21 #[.agg #[.int .i64 R, .int .i64 C, .slice a n cap], .int .i64 t'] w fun z w' => TabRes w.heap.size (rowOutB (tX R C l) (tY R C l) (tL R C l) t') (tY R C l) ((tX R C l) - 1) (turnL (outL t' (tL R C l))) z w' ∧ Below w.heap.size w w' := by
  have H : Hid (Tab w a n cap l) := h
  clear h
  go_enter Try.func21, Try.ntmps21
  go_upto_region 1 with fail
  have B0 : Below w.heap.size w ((w.alloc (.cells #[.int .i64 R, .int .i64 C, .slice a n cap] 28)).alloc (.cells #[.int .i64 0, .int .i64 0, .slice none 0 0] 28)) := ((Below.refl _ _).alloc (Nat.le_refl _) _).alloc (by simp) _
  have G0 : RowAt ((w.alloc (.cells #[.int .i64 R, .int .i64 C, .slice a n cap] 28)).alloc (.cells #[.int .i64 0, .int .i64 0, .slice none 0 0] 28)) w.heap.size #[.int .i64 R, .int .i64 C, .slice a n cap] 28 := (rowAt_new w _ _).alloc _
  have G1 : RowAt ((w.alloc (.cells #[.int .i64 R, .int .i64 C, .slice a n cap] 28)).alloc (.cells #[.int .i64 0, .int .i64 0, .slice none 0 0] 28)) (w.heap.size + 1) #[.int .i64 0, .int .i64 0, .slice none 0 0] 28 := by
    have := rowAt_new (w.alloc (.cells #[.int .i64 R, .int .i64 C, .slice a n cap] 28)) #[.int .i64 0, .int .i64 0, .slice none 0 0] 28
    simpa using this
  have HT : Hid (Tab ((w.alloc (.cells #[.int .i64 R, .int .i64 C, .slice a n cap] 28)).alloc (.cells #[.int .i64 0, .int .i64 0, .slice none 0 0] 28)) a n cap l) := H.out.below B0
  generalize ((w.alloc (.cells #[.int .i64 R, .int .i64 C, .slice a n cap] 28)).alloc (.cells #[.int .i64 0, .int .i64 0, .slice none 0 0] 28)) = v at B0 G0 G1 HT ⊢
  have k0 : v.cell? ⟨w.heap.size, 0, none⟩ = some (.int .i64 R) := G0.cell 0
  have k1 : v.cell? ⟨w.heap.size, 1, none⟩ = some (.int .i64 C) := G0.cell 1
  have k2 : v.cell? ⟨w.heap.size, 2, none⟩ = some (.slice a n cap) := G0.cell 2
  have z1 := G1.lt
  have s0 := B0.size
  have HG1 : Hid (RowAt v (w.heap.size + 1) #[.int .i64 0, .int .i64 0, .slice none 0 0] 28) := G1
  have HB0 : Hid (Below w.heap.size w v) := B0
  clear G0 G1 B0
  go_wp2_with fail
  refine (implTableTurn_any R C a n cap l _ HT.out).mono ?_
  intro e w1 hr
  obtain ⟨⟨x, y, a1, n1, c1, l1, rs1, rfl, ho1, hx, hy, hl⟩, hb1⟩ := tRes_of hr
  have s1 := hb1.size
  have HO1 : Hid (OwnT w1 v.heap.size (.slice a1 n1 c1) rs1 l1) := ho1
  have HXY : Hid (x = tX R C l ∧ y = tY R C l ∧ l1 = tL R C l) := ⟨hx, hy, hl⟩
  clear hr ho1 hx hy hl k0 k1 k2
  go_wp2_with fail
  refine (implTableRowOut_any x y t' a1 n1 c1 l1 _ HO1.out.tab).mono ?_
  rintro e w2 ⟨hres, hb2⟩
  have s2 := hb2.size
  have B2 : Below v.heap.size v w2 := hb1.trans (hb2.mono s1)
  rcases hres with ⟨hno, rfl⟩ | ⟨hyes, a2, c2, rs2, rfl, ho2⟩
  · have HNB : Hid (rowOutB (tX R C l) (tY R C l) (tL R C l) t' = false) := by
      show rowOutB (tX R C l) (tY R C l) (tL R C l) t' = false
      rw [← HXY.out.1, ← HXY.out.2.1, ← HXY.out.2.2]
      exact hno
    clear hno
    go_upto_region 2 with fail
    have B3 : Below v.heap.size v (w2.alloc (.cells #[.int .i64 0, .int .i64 0, .slice none 0 0] 28)) := B2.alloc (by omega) _
    have W3 : RowAt (w2.alloc (.cells #[.int .i64 0, .int .i64 0, .slice none 0 0] 28)) w2.heap.size #[.int .i64 0, .int .i64 0, .slice none 0 0] 28 := rowAt_new _ _ _
    generalize (w2.alloc (.cells #[.int .i64 0, .int .i64 0, .slice none 0 0] 28)) = v3 at B3 W3 ⊢
    have s3 := B3.size
    have u0 : v3.cell? ⟨w2.heap.size, 0, none⟩ = some (.int .i64 0) := W3.cell 0
    have u1 : v3.cell? ⟨w2.heap.size, 1, none⟩ = some (.int .i64 0) := W3.cell 1
    have u2 : v3.cell? ⟨w2.heap.size, 2, none⟩ = some (.slice none 0 0) := W3.cell 2
    have HG3 : Hid (RowAt v3 (w.heap.size + 1) #[.int .i64 0, .int .i64 0, .slice none 0 0] 28) := HG1.out.below B3 z1
    go_wp2_with fail
    refine (implTableTurn_any 0 0 none 0 0 [] _ (tab_nil _)).mono ?_
    rintro e w4 ⟨(⟨-, rfl⟩ | ⟨hbad, -⟩), hb4⟩
    case inr =>
      rw [okB_nil] at hbad
      exact absurd hbad (by simp)
    have s4 := hb4.size
    have HG4 : Hid (RowAt w4 (w.heap.size + 1) #[.int .i64 0, .int .i64 0, .slice none 0 0] 28) := HG3.out.below hb4 (by omega)
    go_wp2_with (refine wpList_store_row rfl 28 (.tmp 4) (.tmp 16) rfl (w.heap.size + 1) #[.int .i64 0, .int .i64 0, .slice none 0 0] rfl rfl 28 _ HG4.out tab_info rfl (cells3_one _ _ _ _ _) ?_)
    refine bodyPost_ret (v := .tuple #[.agg #[.int .i64 0, .int .i64 0, .slice none 0 0], .bool false]) ?_ rfl ⟨.inl ⟨HNB.out, rfl⟩, below_row ((HB0.out.trans (B3.mono s0)).trans (hb4.mono (by omega))) (by omega) _⟩
    rw [results_cell_tmp rfl]
    simp [asAddr, Result.andThen, run_tabOf (RowAt.setRow HG4.out #[.int .i64 0, .int .i64 0, .slice none 0 0])]
  · have HYB : Hid (rowOutB x y l1 t' = true) := hyes
    obtain ⟨L2, HL2⟩ : ∃ L2, Hid ((outL t' l1) = L2) := ⟨_, rfl⟩
    obtain ⟨N2, HN2⟩ : ∃ N2, Hid (L2.length = N2) := ⟨_, rfl⟩
    obtain ⟨X2, HX2⟩ : ∃ X2, Hid ((x - 1) = X2) := ⟨_, rfl⟩
    have HOK : Hid (okB X2 y L2 = true) := by
      show okB X2 y L2 = true
      rw [← HL2.out, ← HX2.out]
      exact ok_out hyes
    rw [HL2.out, HN2.out] at ho2
    rw [HL2.out, HN2.out, HX2.out]
    clear hyes
    go_upto_region 2 with fail
    have B3 : Below v.heap.size v (w2.alloc (.cells #[.int .i64 X2, .int .i64 y, .slice a2 N2 c2] 28)) := B2.alloc (by omega) _
    have W3 : RowAt (w2.alloc (.cells #[.int .i64 X2, .int .i64 y, .slice a2 N2 c2] 28)) w2.heap.size #[.int .i64 X2, .int .i64 y, .slice a2 N2 c2] 28 := rowAt_new _ _ _
    have O3 : Hid (OwnT (w2.alloc (.cells #[.int .i64 X2, .int .i64 y, .slice a2 N2 c2] 28)) w1.heap.size (.slice a2 N2 c2) rs2 L2) := ho2.below ((Below.refl _ _).alloc (Nat.le_refl _) _)
    generalize (w2.alloc (.cells #[.int .i64 X2, .int .i64 y, .slice a2 N2 c2] 28)) = v3 at B3 W3 O3 ⊢
    have s3 := B3.size
    have u0 : v3.cell? ⟨w2.heap.size, 0, none⟩ = some (.int .i64 X2) := W3.cell 0
    have u1 : v3.cell? ⟨w2.heap.size, 1, none⟩ = some (.int .i64 y) := W3.cell 1
    have u2 : v3.cell? ⟨w2.heap.size, 2, none⟩ = some (.slice a2 N2 c2) := W3.cell 2
    have HG3 : Hid (RowAt v3 (w.heap.size + 1) #[.int .i64 0, .int .i64 0, .slice none 0 0] 28) := HG1.out.below B3 z1
    clear ho2
    go_wp2_with fail
    refine (implTableTurn_any X2 y a2 N2 c2 L2 _ O3.out.tab).mono ?_
    rintro e w4 ⟨(⟨hbad, -⟩ | ⟨-, a4, c4, rs4, rfl, ho4⟩), hb4⟩
    case inl =>
      rw [HOK.out] at hbad
      exact absurd hbad (by simp)
    rw [HN2.out] at ho4 ⊢
    have s4 := hb4.size
    have HO4 : Hid (OwnT w4 v3.heap.size (.slice a4 N2 c4) rs4 (turnL L2)) := ho4
    have HG4 : Hid (RowAt w4 (w.heap.size + 1) #[.int .i64 0, .int .i64 0, .slice none 0 0] 28) := HG3.out.below hb4 (by omega)
    clear ho4
    go_wp2_with (refine wpList_store_row rfl 28 (.tmp 4) (.tmp 16) rfl (w.heap.size + 1) #[.int .i64 y, .int .i64 X2, .slice a4 N2 c4] rfl rfl 28 _ HG4.out tab_info rfl (cells3_one _ _ _ _ _) ?_)
    have e1 : turnL (outL t' (tL R C l)) = turnL L2 := by rw [← HL2.out, HXY.out.2.2]
    have e2 : (turnL (outL t' (tL R C l))).length = N2 := by rw [e1, turnL_len, HN2.out]
    refine bodyPost_ret (v := .tuple #[.agg #[.int .i64 y, .int .i64 X2, .slice a4 N2 c4], .bool true]) ?_ rfl ⟨.inr ⟨?_, a4, c4, rs4, ?_, ?_⟩, below_row ((HB0.out.trans (B3.mono s0)).trans (hb4.mono (by omega))) (by omega) _⟩
    · rw [results_cell_tmp rfl]
      simp [asAddr, Result.andThen, run_tabOf (RowAt.setRow HG4.out #[.int .i64 y, .int .i64 X2, .slice a4 N2 c4])]
    · rw [← HXY.out.1, ← HXY.out.2.1, ← HXY.out.2.2]
      exact HYB.out
    · rw [e2, ← HXY.out.1, ← HXY.out.2.1, HX2.out]
    · rw [e2, e1]
      exact OwnT.less (B' := v3.heap.size) ⟨own_row HO4.out.1 _ _ (fun e => by have := (own_lt HO4.out.1.row e).1; omega), HO4.out.2.rowLow _ _ (by omega)⟩ (by omega)
end Go.Proofs.Yteghidjbcpmfbaa
namespace Go.Proofs.Yteghidjbcpmfbaa
open Go.RowKit

set_option maxRecDepth 100000 in
set_option maxHeartbeats 4000000 in
theorem l2Copy_any (R C : Int) (a : Option Addr) (n cap : Nat) (l : List Cl) (w : World) (h : Tab w a n cap l) (hl : l.length ≤ 1000000) (ht : ∀ k, k < l.length → (l.getD k cl0).2.2.2.2.length ≤ 1000000) :
    Calls Try.prog 29 #[.agg #[.int .i64 R, .int .i64 C, .slice a n cap]] w fun z w' => (∃ a' c' rs, z = .returned (.agg #[.int .i64 R, .int .i64 C, .slice a' l.length c']) ∧ OwnT w' w.heap.size (.slice a' l.length c') rs l) ∧ Below w.heap.size w w' := by
  obtain ⟨i0, hi, hz0, hz1, hz2⟩ := info_parts Try.info44
  have H : Hid (Tab w a n cap l) := h
  have HTL : Hid (∀ k, k < l.length → (l.getD k cl0).2.2.2.2.length ≤ 1000000) := ht
  obtain ⟨hn, hc, hm, -⟩ := h
  unfold maxLen at hm
  have HN : Hid (n = l.length) := hn
  have hn6 : n ≤ 1000000 := by omega
  clear ht hn
  go_enter Try.func29, Try.ntmps29
  go_upto_region 1 with fail
  have B0 : Below w.heap.size w ((w.alloc (.cells #[.int .i64 R, .int .i64 C, .slice a n cap] 28)).alloc (.cells #[.int .i64 0, .int .i64 0, .slice none 0 0] 28)) := ((Below.refl _ _).alloc (Nat.le_refl _) _).alloc (by simp) _
  have G0 : RowAt ((w.alloc (.cells #[.int .i64 R, .int .i64 C, .slice a n cap] 28)).alloc (.cells #[.int .i64 0, .int .i64 0, .slice none 0 0] 28)) w.heap.size #[.int .i64 R, .int .i64 C, .slice a n cap] 28 := (rowAt_new w _ _).alloc _
  have G1 : RowAt ((w.alloc (.cells #[.int .i64 R, .int .i64 C, .slice a n cap] 28)).alloc (.cells #[.int .i64 0, .int .i64 0, .slice none 0 0] 28)) (w.heap.size + 1) #[.int .i64 0, .int .i64 0, .slice none 0 0] 28 := by
    have := rowAt_new (w.alloc (.cells #[.int .i64 R, .int .i64 C, .slice a n cap] 28)) #[.int .i64 0, .int .i64 0, .slice none 0 0] 28
    simpa using this
  generalize ((w.alloc (.cells #[.int .i64 R, .int .i64 C, .slice a n cap] 28)).alloc (.cells #[.int .i64 0, .int .i64 0, .slice none 0 0] 28)) = v at B0 G0 G1 ⊢
  have q0 : v.cell? ⟨w.heap.size, 0, none⟩ = some (.int .i64 R) := G0.cell 0
  have q1 : v.cell? ⟨w.heap.size, 1, none⟩ = some (.int .i64 C) := G0.cell 1
  go_upto_region 2 with fail
  have B1 : Below v.heap.size v (v.alloc (.cells #[.int .i64 R, .int .i64 C, .slice none 0 0] 28)) := (Below.refl _ _).alloc (Nat.le_refl _) _
  have G2 : RowAt (v.alloc (.cells #[.int .i64 R, .int .i64 C, .slice none 0 0] 28)) v.heap.size #[.int .i64 R, .int .i64 C, .slice none 0 0] 28 := rowAt_new _ _ _
  generalize (v.alloc (.cells #[.int .i64 R, .int .i64 C, .slice none 0 0] 28)) = v0 at B1 G2 ⊢
  have z0 := G0.lt
  have z1 := G1.lt
  have z2 := G2.lt
  have s01 := B0.size
  clear q0 q1
  go_wp2_with fail
  go_loopw [4] (fun iv wr => ∃ (i : Nat) (rs : List Rw) (a' : Option Addr) (c' : Nat), i ≤ n ∧ iv = .int .i64 i ∧ RowAt wr v.heap.size #[.int .i64 R, .int .i64 C, .slice a' i c'] 28 ∧ OwnR wr v0.heap.size (.slice a' i c') rs ∧ TxtOwn wr v0.heap.size (Value.slice a' i c').ownBlock rs (l.take i) ∧ Below v.heap.size v wr ∧ v0.heap.size ≤ wr.heap.size) (fun iv _ => n - (intOf iv).toNat)
  case atStart => exact ⟨0, [], none, 0, Nat.zero_le _, rfl, G2, OwnR.nil _ _, TxtOwn.nil _ _ _, B1, Nat.le_refl _⟩
  case round =>
    clear G2 B1
    obtain ⟨i, rs, a', c', hin, rfl, hT, hO, hX, hb, hs⟩ := hrel
    have HTb : Hid (RowAt wr v.heap.size #[.int .i64 R, .int .i64 C, .slice a' i c'] 28) := hT
    have HO : Hid (OwnR wr v0.heap.size (.slice a' i c') rs) := hO
    have HXt : Hid (TxtOwn wr v0.heap.size (Value.slice a' i c').ownBlock rs (l.take i)) := hX
    have HB : Hid (Below v.heap.size v wr) := hb
    have HW : Hid (Below w.heap.size w wr) := B0.trans (hb.mono s01)
    have k2 : wr.cell? ⟨w.heap.size, 2, none⟩ = some (.slice a n cap) := (G0.below hb z0).cell 2
    clear hT hO hX hb
    by_cases hlt : i < n
    · have hil : i < l.length := by rw [← HN.out]; exact hlt
      rcases H.out.2.2.2 with e | ⟨b, off, rfl, hbw, hcl⟩
      · rw [e] at hil
        exact absurd hil (by simp)
      obtain ⟨c0, c1, c2, c3, ta, tn, tc, c4, htx⟩ := (hcl i hil).below HW.out hbw
      have htl := HTL.out i hil
      obtain ⟨⟨r, c, d, g, tx⟩, hx⟩ : ∃ x, x = l.getD i cl0 := ⟨_, rfl⟩
      rw [← hx] at c0 c1 c2 c3 htx htl
      simp only at c0 c1 c2 c3 htx htl
      have HX : Hid ((r, c, d, g, tx) = l.getD i cl0) := hx
      have HTX : Hid (Txt wr ta tn tc tx) := htx
      have HTN : Hid (tn = tx.length) := htx.1
      have htn6 : tn ≤ 1000000 := by rw [HTN.out]; exact htl
      clear hcl hx htx
      go_upto_region 6 with fail
      have bA : Below wr.heap.size wr (wr.alloc (.cells #[.int .i64 r, .int .i64 c, .int .i64 d, .int .i64 g, .slice ta tn tc] 44)) := (Below.refl _ _).alloc (Nat.le_refl _) _
      have RA : RowAt (wr.alloc (.cells #[.int .i64 r, .int .i64 c, .int .i64 d, .int .i64 g, .slice ta tn tc] 44)) wr.heap.size #[.int .i64 r, .int .i64 c, .int .i64 d, .int .i64 g, .slice ta tn tc] 44 := rowAt_new _ _ _
      clear c0 c1 c2 c3 c4 k2
      generalize (wr.alloc (.cells #[.int .i64 r, .int .i64 c, .int .i64 d, .int .i64 g, .slice ta tn tc] 44)) = w1 at bA RA ⊢
      have s1 := bA.size
      have lA := RA.lt
      have e4 : w1.cell? ⟨wr.heap.size, 4, none⟩ = some (.slice ta tn tc) := RA.cell 4
      have HRA : Hid (RowAt w1 wr.heap.size #[.int .i64 r, .int .i64 c, .int .i64 d, .int .i64 g, .slice ta tn tc] 44) := RA
      clear RA
      go_upto_region 7 with (at_builtin; refine wpList_append_txt rfl (.tmp 23) (.tmp 25) rfl wr.heap.size (.slice (some ⟨w1.heap.size, 0, none⟩) 0 0) 0 [] rfl (World.ownsRow_lit w1 #[] 0 (by omega) (by unfold maxLen; omega) rfl) ta tn tc tx rfl ((HTX.out.below bA).below ((Below.refl _ _).alloc (Nat.le_refl _) _)) (by omega) (by simp; omega) ?_; intro v' w2 hown hgrow; obtain ⟨p, q, rfl, -⟩ := Own.shape (show Own w2 wr.heap.size v' tx by (rw [Nat.zero_add, List.nil_append, HTN.out] at hown; exact hown)); have R2 := RowAt.grown (HRA.out.alloc _) hgrow (by simp [Value.ownBlock]; omega); have f4 : w2.cell? ⟨wr.heap.size, 4, none⟩ = some (.slice ta tn tc) := R2.cell 4; have f5 := R2.frozen 4)
      have hO2 : Own w2 wr.heap.size (.slice p tx.length q) tx := by
        rw [Nat.zero_add, List.nil_append, HTN.out] at hown
        exact hown
      have O3 : Own (w2.setCell ⟨wr.heap.size, 4, none⟩ (.slice p tx.length q)) wr.heap.size (.slice p tx.length q) tx := own_set hO2 _ _ (rowAt_ne R2 hO2.row (by decide))
      have R3 := R2.setCell 4 (.slice p tx.length q)
      have b3 : Below wr.heap.size wr (w2.setCell ⟨wr.heap.size, 4, none⟩ (.slice p tx.length q)) := ((bA.alloc s1 _).grown hgrow (by simp; omega) (fun k hk => by simp [Value.ownBlock] at hk; omega)).setCell (p := ⟨wr.heap.size, 4, none⟩) (Nat.le_refl _) (.slice p tx.length q)
      clear f4 f5 e4 hown hgrow R2 hO2 bA
      generalize (w2.setCell ⟨wr.heap.size, 4, none⟩ (.slice p tx.length q)) = w3 at O3 R3 b3 ⊢
      have s3 := b3.size
      have d0 : w3.cell? ⟨wr.heap.size, 0, none⟩ = some (.int .i64 r) := R3.cell 0
      have d1 : w3.cell? ⟨wr.heap.size, 1, none⟩ = some (.int .i64 c) := R3.cell 1
      have d2 : w3.cell? ⟨wr.heap.size, 2, none⟩ = some (.int .i64 d) := R3.cell 2
      have d3 : w3.cell? ⟨wr.heap.size, 3, none⟩ = some (.int .i64 g) := R3.cell 3
      have d4 : w3.cell? ⟨wr.heap.size, 4, none⟩ = some (.slice p tx.length q) := R3.cell 4
      have lv : v.heap.size < wr.heap.size := by omega
      have HT3 : Hid (RowAt w3 v.heap.size #[.int .i64 R, .int .i64 C, .slice a' i c'] 28) := HTb.out.below b3 lv
      have HO3 : Hid (OwnR w3 v0.heap.size (.slice a' i c') rs) := own_below HO.out b3
      have HX3 : Hid (TxtOwn w3 v0.heap.size (Value.slice a' i c').ownBlock rs (l.take i)) := HXt.out.below b3
      have HOw : Hid (Own w3 wr.heap.size (.slice p tx.length q) tx) := O3
      have HB3 : Hid (Below v.heap.size v w3) := HB.out.trans (b3.mono (by omega))
      have t2 : w3.cell? ⟨v.heap.size, 2, none⟩ = some (.slice a' i c') := HT3.out.cell 2
      clear R3 O3 b3
      go_wp2_with (at_builtin; refine wpList_append_own _ rfl (.tmp 29) (.tmp 31) 26 rfl v0.heap.size 44 i0 _ 5 56 Try.underlying26 hi hz0 hz1 hz2 rfl (by decide) (.slice a' i c') _ _ rfl (HO3.out.row.alloc _) ⟨w3.heap.size, 0, none⟩ 1 1 [.int .i64 r, .int .i64 c, .int .i64 d, .int .i64 g, .slice p tx.length q] rfl rfl (cell_five_new _ _ _ _ _ _ _) (five_oneCell _ _ _ _ _ _ _) (by unfold maxLen; omega) (by omega) (by simp; omega) ?_; intro v' w5 hown' hgrow _; obtain ⟨a5, c5, rfl, ho5, hb5⟩ := ownR_step (B := v0.heap.size) (w := w3) (s := (r, c, d, g, p, tx.length, q)) HO3.out (Below.refl _ _) (by omega) hown' hgrow; have R5 := RowAt.grown (HT3.out.alloc _) hgrow (fun e => by have := (own_lt HO3.out.row e).1; omega); have q2 : w5.cell? ⟨v.heap.size, 2, none⟩ = some (.slice a' i c') := R5.cell 2; have q3 := R5.frozen 2)
      go_roundw
      case rel =>
        have tO : Own w5 v0.heap.size (.slice p tx.length q) tx := own_grown (Own.alloc (own_less HOw.out (by omega)) _) hgrow (fun b hb => own_kinds HO3.out HOw.out (by decide) b hb)
        have t5 : TxtOwn w5 v0.heap.size (Value.slice a' i c').ownBlock rs (l.take i) := (HX3.out.below ((Below.refl _ _).alloc (Nat.le_refl _) _)).grown hgrow (fun k hk b hb => HX3.out.2.2.1 k hk b hb)
        have t6 := t5.snoc (C := wr.heap.size) (x := (r, c, d, g, p, tx.length, q)) (y := (r, c, d, g, tx)) ⟨rfl, rfl, rfl, rfl, tO⟩ (fun b hb => own_kinds HO3.out HOw.out (by decide) b hb) (fun k hk b hb => HXt.out.blockLt k hk b hb) (fun b hb => (own_lt HOw.out.row hb).1)
        rw [show l.take i ++ [(r, c, d, g, tx)] = l.take (i + 1) from by rw [List.take_succ_eq_append_getElem hil, HX.out]; simp [List.getD, hil]] at t6
        have B5 : Below v.heap.size v w5 := ((HB3.out).alloc (by omega) _).grown hgrow (by simp; omega) (fun k hk => by have := (own_lt HO3.out.row hk).1; omega)
        have s5 := hgrow.size
        simp at s5
        refine ⟨i + 1, _, a5, c5, by omega, by go_num, R5.setCell 2 (.slice a5 (i + 1) c5), own_set ho5 _ _ (fun e => by have := (own_lt ho5.row e).1; simp at this; omega), (t6.anew ho5).setLow _ _ (by simp; omega), B5.setCell (p := ⟨v.heap.size, 2, none⟩) (Nat.le_refl _) (.slice a5 (i + 1) c5), by simp [World.setCell]; omega⟩
      case measure => simp [intOf]; omega
    · have e : i = n := by omega
      subst e
      have k0 : wr.cell? ⟨v.heap.size, 0, none⟩ = some (.int .i64 R) := HTb.out.cell 0
      have k1 : wr.cell? ⟨v.heap.size, 1, none⟩ = some (.int .i64 C) := HTb.out.cell 1
      have k3 : wr.cell? ⟨v.heap.size, 2, none⟩ = some (.slice a' i c') := HTb.out.cell 2
      have HG1 : Hid (RowAt wr (w.heap.size + 1) #[.int .i64 0, .int .i64 0, .slice none 0 0] 28) := G1.below HB.out z1
      go_wp2_with (refine wpList_store_row rfl 28 (.tmp 2) (.tmp 34) rfl (w.heap.size + 1) #[.int .i64 R, .int .i64 C, .slice a' i c'] rfl rfl 28 _ HG1.out tab_info rfl (cells3_one _ _ _ _ _) ?_)
      have hX := HXt.out
      have hO := HO.out
      rw [HN.out] at hX hO
      rw [List.take_of_length_le (Nat.le_refl _)] at hX
      refine bodyPost_ret (v := .agg #[.int .i64 R, .int .i64 C, .slice a' i c']) (results_cell_row (p := 2) (ty := 28) rfl _ _ (w.heap.size + 1) 28 _ _ _ rfl (RowAt.setRow HG1.out _) Try.underlying28 rfl tab_info) rfl ⟨⟨a', c', rs, by rw [HN.out], ?_⟩, below_row (B0.trans (HB.out.mono s01)) (by omega) _⟩
      exact OwnT.less (B' := v0.heap.size) ⟨own_row hO _ _ (fun e => by have := (own_lt hO.row e).1; omega), hX.rowLow _ _ (by omega)⟩ (by omega)
end Go.Proofs.Yteghidjbcpmfbaa
namespace Go.Proofs.Yteghidjbcpmfbaa
open Go.RowKit

theorem ownR_empty (w : World) (B : Nat) (hB : B ≤ w.heap.size) : OwnR (w.alloc (.cells #[] 44)) B (.slice (some ⟨w.heap.size, 0, none⟩) 0 0) [] := World.ownsRow_lit w #[] 0 hB (by unfold maxLen; omega) rfl
theorem RwAt.below {w w' : World} {b o : Nat} {x : Rw} (h : RwAt w b o x) (hb : Below w.heap.size w w') (hlt : b < w.heap.size) : RwAt w' b o x := by
  obtain ⟨c0, c1, c2, c3, c4⟩ := h
  exact ⟨(hb.cell (p := ⟨b, _, none⟩) hlt).trans c0, (hb.cell (p := ⟨b, _, none⟩) hlt).trans c1, (hb.cell (p := ⟨b, _, none⟩) hlt).trans c2, (hb.cell (p := ⟨b, _, none⟩) hlt).trans c3, (hb.cell (p := ⟨b, _, none⟩) hlt).trans c4⟩
theorem Rws.below {w w' : World} {a : Option Addr} {n cap : Nat} {l : List Rw} (h : Rws w a n cap l) (hb : Below w.heap.size w w') : Rws w' a n cap l := by
  obtain ⟨h1, h2, h3, h4⟩ := h
  refine ⟨h1, h2, h3, ?_⟩
  rcases h4 with h4 | ⟨b, off, h5, h6, h7⟩
  · exact .inl h4
  · refine .inr ⟨b, off, h5, Nat.lt_of_lt_of_le h6 hb.size, fun k hk => ?_⟩
    obtain ⟨c0, c1, c2, c3, c4⟩ := h7 k hk
    exact ⟨(hb.cell (p := ⟨b, _, none⟩) h6).trans c0, (hb.cell (p := ⟨b, _, none⟩) h6).trans c1, (hb.cell (p := ⟨b, _, none⟩) h6).trans c2, (hb.cell (p := ⟨b, _, none⟩) h6).trans c3, (hb.cell (p := ⟨b, _, none⟩) h6).trans c4⟩

set_option maxRecDepth 100000 in
set_option maxHeartbeats 8000000 in
theorem l2Sort_any (a : Option Addr) (n cap : Nat) (rs : List Rw) (w : World) (h : Rws w a n cap rs) (hn : n ≤ 1000) :
    Calls Try.prog 30 #[.slice a n cap] w fun z w' => (∃ a' c', z = .returned (.slice a' n c') ∧ OwnR w' w.heap.size (.slice a' n c') (sortR rs)) ∧ Below w.heap.size w w' := by
  obtain ⟨i0, hi, hz0, hz1, hz2⟩ := info_parts Try.info44
  have H : Hid (Rws w a n cap rs) := h
  have HN : Hid (n = rs.length) := h.1
  have hcn := h.2.1
  have hcm := h.2.2.1
  unfold maxLen at hcm
  clear h
  go_enter Try.func30, Try.ntmps30
  go_wp2_with fail
  go_loopw [3, 4] (fun ov iv wr => ∃ (i : Nat) (ao : Option Addr) (co : Nat), i ≤ n ∧ iv = .int .i64 i ∧ ov = .slice ao i co ∧ OwnR wr w.heap.size (.slice ao i co) (sortR (rs.take i)) ∧ Below w.heap.size w wr) (fun _ iv _ => n - (intOf iv).toNat)
  case atStart => exact ⟨0, _, _, Nat.zero_le _, rfl, rfl, ownR_empty w _ (Nat.le_refl _), (Below.refl _ _).alloc (Nat.le_refl _) _⟩
  case round =>
    obtain ⟨i, ao, co, hin, rfl, rfl, ho, hb⟩ := hrel
    have HO : Hid (OwnR wr w.heap.size (.slice ao i co) (sortR (rs.take i))) := ho
    have HB : Hid (Below w.heap.size w wr) := hb
    have sz := hb.size
    have hco := ho.rws.2.1
    have hcom := ho.rws.2.2.1
    unfold maxLen at hcom
    clear ho hb
    by_cases hlt : i < n
    · obtain ⟨wi, rfl⟩ : ∃ wi, wi = wr := ⟨wr, rfl⟩
      have hir : i < rs.length := by rw [← HN.out]; exact hlt
      obtain ⟨⟨xr, xc, xd, xg, xa, xn, xq⟩, hx⟩ : ∃ x, x = rs.getD i rw0 := ⟨_, rfl⟩
      have HX : Hid ((xr, xc, xd, xg, xa, xn, xq) = rs.getD i rw0) := hx
      rcases H.out.2.2.2 with e | ⟨b, off, rfl, hbw, hcl⟩
      · rw [e] at hir
        exact absurd hir (by simp)
      have hxa : RwAt w b (off + i * 5) (xr, xc, xd, xg, xa, xn, xq) := by rw [hx]; exact hcl i hir
      have HXA : Hid (RwAt wi b (off + i * 5) (xr, xc, xd, xg, xa, xn, xq)) := hxa.below HB.out hbw
      have hbwi : b < wi.heap.size := by omega
      have HSL : Hid ((sortR (rs.take i)).length = i) := by
        show (sortR (rs.take i)).length = i
        rw [sortR_len, List.length_take]
        omega
      clear hx hcl hxa
      go_wp2_with fail
      go_loopw [5, 6, 7] (fun nv dv kv wr => ∃ (k m : Nat) (done : Bool) (next : List Rw) (an : Option Addr) (cn : Nat), k ≤ i ∧ kv = .int .i64 k ∧ dv = .bool done ∧ nv = .slice an m cn ∧ InsP (xr, xc, xd, xg, xa, xn, xq) (sortR (rs.take i)) k done next ∧ OwnR wr wi.heap.size (.slice an m cn) next ∧ Below wi.heap.size wi wr) (fun _ _ kv _ => i - (intOf kv).toNat)
      case atStart => exact ⟨0, 0, false, [], _, _, Nat.zero_le _, rfl, rfl, rfl, .inl ⟨rfl, by simp, by simp⟩, ownR_empty wi _ (Nat.le_refl _), (Below.refl _ _).alloc (Nat.le_refl _) _⟩
      case round =>
        obtain ⟨k, m, done, next, an, cn, hki', rfl, rfl, rfl, hI, hNx, hq⟩ := hrel
        have HI : Hid (InsP (xr, xc, xd, xg, xa, xn, xq) (sortR (rs.take i)) k done next) := hI
        have HNx : Hid (OwnR wr wi.heap.size (.slice an m cn) next) := hNx
        have HQ : Hid (Below wi.heap.size wi wr) := hq
        have hml := hI.len (by rw [HSL.out]; exact hki')
        have hm2 : m = next.length := hNx.len
        have hmi : m ≤ 1001 := by
          have : done.toNat ≤ 1 := by cases done <;> decide
          omega
        have hcn1 := hNx.rws.2.1
        have hcn2 := hNx.rws.2.2.1
        unfold maxLen at hcn2
        have sq := hq.size
        obtain ⟨x0, x1, x2, x3, x4⟩ := HXA.out.below hq hbwi
        simp only at x0 x1 x2 x3 x4
        clear hI hNx hq hml hm2
        by_cases hki : k < i
        · have hks : k < (sortR (rs.take i)).length := by rw [HSL.out]; exact hki
          obtain ⟨⟨yr, yc, yd, yg, ya, yn, yq⟩, hy⟩ : ∃ y, y = (sortR (rs.take i)).getD k rw0 := ⟨_, rfl⟩
          have HY : Hid ((yr, yc, yd, yg, ya, yn, yq) = (sortR (rs.take i)).getD k rw0) := hy
          rcases HO.out.rws.2.2.2 with e | ⟨bo, oo, rfl, hbo, hol⟩
          · rw [e] at hks
            exact absurd hks (by simp)
          have HYA : Hid (RwAt wi bo (oo + k * 5) (yr, yc, yd, yg, ya, yn, yq)) := by
            show RwAt wi bo (oo + k * 5) (yr, yc, yd, yg, ya, yn, yq)
            rw [hy]
            exact hol k hks
          obtain ⟨y0, y1, y2, y3, y4⟩ := HYA.out.below HQ.out hbo
          simp only at y0 y1 y2 y3 y4
          clear hy hol
          cases done
          · rcases (show (xr < yr) ∨ (yr < xr) ∨ (yr = xr ∧ xc < yc) ∨ (yr = xr ∧ yc ≤ xc) from by omega) with m0 | m0 | ⟨m0, m1⟩ | ⟨m0, m1⟩
            · go_wp2_with fail
              go_quiet (fail)
              have HO0 : Hid (OwnR (wr.drewN nq) wi.heap.size (.slice an m cn) next) := own_below HNx.out (below_drewN (Below.refl wr.heap.size wr) nq)
              go_wp2_with (first | (at_builtin; refine wpList_append_own _ rfl (.tmp 63) (.tmp 68) 26 rfl wi.heap.size 44 i0 _ 5 56 Try.underlying26 hi hz0 hz1 hz2 rfl (by decide) _ _ _ rfl (HO0.out.row.alloc _) ⟨_, 0, none⟩ 1 1 [.int .i64 xr, .int .i64 xc, .int .i64 xd, .int .i64 xg, .slice xa xn xq] rfl rfl (cell_five_new _ _ _ _ _ _ _) (five_oneCell _ _ _ _ _ _ _) (by unfold maxLen; omega) (by omega) (by first | omega | (simp; omega)) ?_; intro v' w5 hown' hgrow _; obtain ⟨aw5, cw5, rfl, how5, hbw5⟩ := ownR_step (B := wi.heap.size) (w := wi) (s := (xr, xc, xd, xg, xa, xn, xq)) HO0.out (below_drewN HQ.out nq) (by first | omega | (simp; omega)) hown' hgrow; have HO1 : Hid (OwnR w5 wi.heap.size (.slice aw5 (m + 1) cw5) (next ++ [(xr, xc, xd, xg, xa, xn, xq)])) := how5; have sw5 := hbw5.size; obtain ⟨o0, o1, o2, o3, o4⟩ := HYA.out.below hbw5 hbo; clear how5 hown' hgrow) | (at_builtin; refine wpList_append_own _ rfl (.tmp 70) (.tmp 75) 26 rfl wi.heap.size 44 i0 _ 5 56 Try.underlying26 hi hz0 hz1 hz2 rfl (by decide) _ _ _ rfl (HO1.out.row.alloc _) ⟨_, 0, none⟩ 1 1 [.int .i64 yr, .int .i64 yc, .int .i64 yd, .int .i64 yg, .slice ya yn yq] rfl rfl (cell_five_new _ _ _ _ _ _ _) (five_oneCell _ _ _ _ _ _ _) (by unfold maxLen; omega) (by omega) (by first | omega | (simp; omega)) ?_; intro v' w6 hown' hgrow _; obtain ⟨aw6, cw6, rfl, how6, hbw6⟩ := ownR_step (B := wi.heap.size) (w := wi) (s := (yr, yc, yd, yg, ya, yn, yq)) HO1.out hbw5 (by first | omega | (simp; omega)) hown' hgrow))
              go_roundw
              case rel => exact ⟨k + 1, m + 1 + 1, true, _, aw6, cw6, by omega, by go_num, rfl, rfl, by rw [HY.out]; exact HI.out.put (by rw [HSL.out]; exact hki) (by rw [← HY.out]; exact decide_eq_true (by simp only; omega)), how6, hbw6⟩
              case measure => simp [intOf]; omega
            · have n1 : decide (xr < yr) = false := by simp; omega
              have n2 : (yr == xr) = false := by simp; omega
              go_wp2_with fail
              go_quiet (fail)
              have HO0 : Hid (OwnR (wr.drewN nq) wi.heap.size (.slice an m cn) next) := own_below HNx.out (below_drewN (Below.refl wr.heap.size wr) nq)
              go_wp2_with (at_builtin; refine wpList_append_own _ rfl (.tmp 70) (.tmp 75) 26 rfl wi.heap.size 44 i0 _ 5 56 Try.underlying26 hi hz0 hz1 hz2 rfl (by decide) _ _ _ rfl (HO0.out.row.alloc _) ⟨_, 0, none⟩ 1 1 [.int .i64 yr, .int .i64 yc, .int .i64 yd, .int .i64 yg, .slice ya yn yq] rfl rfl (cell_five_new _ _ _ _ _ _ _) (five_oneCell _ _ _ _ _ _ _) (by unfold maxLen; omega) (by omega) (by first | omega | (simp; omega)) ?_; intro v' w5 hown' hgrow _; obtain ⟨aw5, cw5, rfl, how5, hbw5⟩ := ownR_step (B := wi.heap.size) (w := wi) (s := (yr, yc, yd, yg, ya, yn, yq)) HO0.out (below_drewN HQ.out nq) (by first | omega | (simp; omega)) hown' hgrow)
              go_roundw
              case rel => exact ⟨k + 1, m + 1, false, _, aw5, cw5, by omega, by go_num, rfl, rfl, by rw [HY.out]; exact HI.out.skip hks (by rw [← HY.out]; exact decide_eq_false (by simp only; omega)), how5, hbw5⟩
              case measure => simp [intOf]; omega
            · subst m0
              have n1 : decide (yr < yr) = false := by simp
              go_wp2_with fail
              go_quiet (fail)
              have HO0 : Hid (OwnR (wr.drewN nq) wi.heap.size (.slice an m cn) next) := own_below HNx.out (below_drewN (Below.refl wr.heap.size wr) nq)
              go_wp2_with (first | (at_builtin; refine wpList_append_own _ rfl (.tmp 63) (.tmp 68) 26 rfl wi.heap.size 44 i0 _ 5 56 Try.underlying26 hi hz0 hz1 hz2 rfl (by decide) _ _ _ rfl (HO0.out.row.alloc _) ⟨_, 0, none⟩ 1 1 [.int .i64 yr, .int .i64 xc, .int .i64 xd, .int .i64 xg, .slice xa xn xq] rfl rfl (cell_five_new _ _ _ _ _ _ _) (five_oneCell _ _ _ _ _ _ _) (by unfold maxLen; omega) (by omega) (by first | omega | (simp; omega)) ?_; intro v' w5 hown' hgrow _; obtain ⟨aw5, cw5, rfl, how5, hbw5⟩ := ownR_step (B := wi.heap.size) (w := wi) (s := (yr, xc, xd, xg, xa, xn, xq)) HO0.out (below_drewN HQ.out nq) (by first | omega | (simp; omega)) hown' hgrow; have HO1 : Hid (OwnR w5 wi.heap.size (.slice aw5 (m + 1) cw5) (next ++ [(yr, xc, xd, xg, xa, xn, xq)])) := how5; have sw5 := hbw5.size; obtain ⟨o0, o1, o2, o3, o4⟩ := HYA.out.below hbw5 hbo; clear how5 hown' hgrow) | (at_builtin; refine wpList_append_own _ rfl (.tmp 70) (.tmp 75) 26 rfl wi.heap.size 44 i0 _ 5 56 Try.underlying26 hi hz0 hz1 hz2 rfl (by decide) _ _ _ rfl (HO1.out.row.alloc _) ⟨_, 0, none⟩ 1 1 [.int .i64 yr, .int .i64 yc, .int .i64 yd, .int .i64 yg, .slice ya yn yq] rfl rfl (cell_five_new _ _ _ _ _ _ _) (five_oneCell _ _ _ _ _ _ _) (by unfold maxLen; omega) (by omega) (by first | omega | (simp; omega)) ?_; intro v' w6 hown' hgrow _; obtain ⟨aw6, cw6, rfl, how6, hbw6⟩ := ownR_step (B := wi.heap.size) (w := wi) (s := (yr, yc, yd, yg, ya, yn, yq)) HO1.out hbw5 (by first | omega | (simp; omega)) hown' hgrow))
              go_roundw
              case rel => exact ⟨k + 1, m + 1 + 1, true, _, aw6, cw6, by omega, by go_num, rfl, rfl, by rw [HY.out]; exact HI.out.put (by rw [HSL.out]; exact hki) (by rw [← HY.out]; exact decide_eq_true (Or.inr ⟨rfl, m1⟩)), how6, hbw6⟩
              case measure => simp [intOf]; omega
            · subst m0
              have n1 : decide (yr < yr) = false := by simp
              have n3 : decide (xc < yc) = false := by simp; omega
              go_wp2_with fail
              go_quiet (fail)
              have HO0 : Hid (OwnR (wr.drewN nq) wi.heap.size (.slice an m cn) next) := own_below HNx.out (below_drewN (Below.refl wr.heap.size wr) nq)
              go_wp2_with (at_builtin; refine wpList_append_own _ rfl (.tmp 70) (.tmp 75) 26 rfl wi.heap.size 44 i0 _ 5 56 Try.underlying26 hi hz0 hz1 hz2 rfl (by decide) _ _ _ rfl (HO0.out.row.alloc _) ⟨_, 0, none⟩ 1 1 [.int .i64 yr, .int .i64 yc, .int .i64 yd, .int .i64 yg, .slice ya yn yq] rfl rfl (cell_five_new _ _ _ _ _ _ _) (five_oneCell _ _ _ _ _ _ _) (by unfold maxLen; omega) (by omega) (by first | omega | (simp; omega)) ?_; intro v' w5 hown' hgrow _; obtain ⟨aw5, cw5, rfl, how5, hbw5⟩ := ownR_step (B := wi.heap.size) (w := wi) (s := (yr, yc, yd, yg, ya, yn, yq)) HO0.out (below_drewN HQ.out nq) (by first | omega | (simp; omega)) hown' hgrow)
              go_roundw
              case rel => exact ⟨k + 1, m + 1, false, _, aw5, cw5, by omega, by go_num, rfl, rfl, by rw [HY.out]; exact HI.out.skip hks (by rw [← HY.out]; exact decide_eq_false (by simp only; omega)), how5, hbw5⟩
              case measure => simp [intOf]; omega
          · go_wp2_with fail
            go_quiet (fail)
            have HO0 : Hid (OwnR (wr.drewN nq) wi.heap.size (.slice an m cn) next) := own_below HNx.out (below_drewN (Below.refl wr.heap.size wr) nq)
            go_wp2_with (at_builtin; refine wpList_append_own _ rfl (.tmp 70) (.tmp 75) 26 rfl wi.heap.size 44 i0 _ 5 56 Try.underlying26 hi hz0 hz1 hz2 rfl (by decide) _ _ _ rfl (HO0.out.row.alloc _) ⟨_, 0, none⟩ 1 1 [.int .i64 yr, .int .i64 yc, .int .i64 yd, .int .i64 yg, .slice ya yn yq] rfl rfl (cell_five_new _ _ _ _ _ _ _) (five_oneCell _ _ _ _ _ _ _) (by unfold maxLen; omega) (by omega) (by first | omega | (simp; omega)) ?_; intro v' w5 hown' hgrow _; obtain ⟨aw5, cw5, rfl, how5, hbw5⟩ := ownR_step (B := wi.heap.size) (w := wi) (s := (yr, yc, yd, yg, ya, yn, yq)) HO0.out (below_drewN HQ.out nq) (by first | omega | (simp; omega)) hown' hgrow)
            go_roundw
            case rel => exact ⟨k + 1, m + 1, true, _, aw5, cw5, by omega, by go_num, rfl, rfl, by rw [HY.out]; exact HI.out.on hks, how5, hbw5⟩
            case measure => simp [intOf]; omega
        · have e : k = i := by omega
          subst e
          have HIF : Hid (InsP (xr, xc, xd, xg, xa, xn, xq) (sortR (rs.take k)) (sortR (rs.take k)).length done next) := by
            show InsP (xr, xc, xd, xg, xa, xn, xq) (sortR (rs.take k)) (sortR (rs.take k)).length done next
            rw [HSL.out]
            exact HI.out
          have HST : Hid (sortR (rs.take (k + 1)) = insR (xr, xc, xd, xg, xa, xn, xq) (sortR (rs.take k))) := by
            show sortR (rs.take (k + 1)) = _
            rw [sortR_take rs k hir, HX.out]
          cases done
          · go_wp2_with (at_builtin; refine wpList_append_own _ rfl (.tmp 79) (.tmp 84) 26 rfl wi.heap.size 44 i0 _ 5 56 Try.underlying26 hi hz0 hz1 hz2 rfl (by decide) _ _ _ rfl (HNx.out.row.alloc _) ⟨_, 0, none⟩ 1 1 [.int .i64 xr, .int .i64 xc, .int .i64 xd, .int .i64 xg, .slice xa xn xq] rfl rfl (cell_five_new _ _ _ _ _ _ _) (five_oneCell _ _ _ _ _ _ _) (by unfold maxLen; omega) (by omega) (by first | omega | (simp; omega)) ?_; intro v' w5 hown' hgrow _; obtain ⟨a5, c5, rfl, ho5, hb5⟩ := ownR_step (B := wi.heap.size) (w := wi) (s := (xr, xc, xd, xg, xa, xn, xq)) HNx.out HQ.out (by first | omega | (simp; omega)) hown' hgrow)
            go_roundw
            case rel =>
              have e1 := HIF.out.fin0
              rw [e1, ← HST.out] at ho5
              have e2 := ho5.len
              rw [sortR_len, List.length_take] at e2
              have e3 : m + 1 = k + 1 := by omega
              rw [e3] at ho5 ⊢
              exact ⟨k + 1, a5, c5, by omega, by go_num, rfl, own_less ho5 (by omega), HB.out.trans (hb5.mono (by omega))⟩
            case measure => simp [intOf]; omega
          · go_wp2_with fail
            go_roundw
            case rel =>
              have e1 := HIF.out.fin
              have ho5 := HNx.out
              rw [e1, ← HST.out] at ho5
              have e2 := ho5.len
              rw [sortR_len, List.length_take] at e2
              have e3 : m = k + 1 := by omega
              subst e3
              exact ⟨k + 1, an, cn, by omega, by go_num, rfl, own_less ho5 (by omega), HB.out.trans (HQ.out.mono (by omega))⟩
            case measure => simp [intOf]; omega
    · have e : i = n := by omega
      subst e
      go_wp2_with fail
      go_ret
      have ho := HO.out
      rw [List.take_of_length_le (by rw [HN.out]; exact Nat.le_refl _)] at ho
      exact ⟨⟨ao, co, rfl, ho⟩, HB.out⟩
end Go.Proofs.Yteghidjbcpmfbaa
namespace Go.Proofs.Yteghidjbcpmfbaa
open Go.RowKit

/-- A row turned. -/
def turnR (x : Rw) : Rw := (x.2.1, x.1, x.2.2.2.1, x.2.2.1, x.2.2.2.2)
theorem TxtOwn.turn {w : World} {B : Nat} {q : Option Nat} {rs : List Rw} {l : List Cl} (h : TxtOwn w B q rs l) : TxtOwn w B q (rs.map turnR) (l.map turnC) := by
  obtain ⟨e, h1, h2, h3⟩ := h
  refine ⟨by simpa using e, fun k hk => ?_, fun k hk => ?_, fun i k hik hk => ?_⟩
  · have hk' : k < rs.length := by simpa using hk
    rw [map_getD turnR rs k rw0 rw0 hk', map_getD turnC l k cl0 cl0 (by omega)]
    obtain ⟨a0, a1, a2, a3, a4⟩ := h1 k hk'
    exact ⟨a1, a0, a3, a2, a4⟩
  · have hk' : k < rs.length := by simpa using hk
    rw [map_getD turnR rs k rw0 rw0 hk']
    exact h2 k hk'
  · have hk' : k < rs.length := by simpa using hk
    rw [map_getD turnR rs k rw0 rw0 hk', map_getD turnR rs i rw0 rw0 (by omega)]
    exact h3 i k hik hk'
theorem wpList_fieldCells {w : World} {ops : Array Oper} {rest : List Oper} {o : Oper} {a : Act} {Q : Exit → Act → World → Prop} (hgd : o.guard = none) (x : Operand) (ho : o.op = .field 28 x 2) (R C : Int) (p : Option Addr) (n c : Nat) (hx : a.eval x = .agg #[.int .i64 R, .int .i64 C, .slice p n c])
    (h : wpList Try.prog ops Q rest (a.put o.dst (.slice p n c)) w) : wpList Try.prog ops Q (o :: rest) a w := by
  refine wpList_plain hgd fun K hK => ?_
  have hr : (Instr.field 28 (.agg #[.int .i64 R, .int .i64 C, .slice p n c]) 2).run Try.prog w = .ok (.slice p n c) w := by
    simp [Instr.field, run_underlying Try.underlying28 w, part, asAgg, isAgg, run_underlying Try.underlying26 w]
  unfold Oper.wp execOp
  simp only [ho, hx, hr, Sem.run_bind, Sem.run_pure, Result.andThen_ok]
  exact hK _ _ h
set_option maxRecDepth 100000 in
set_option maxHeartbeats 8000000 in
theorem specTableTurn_any (R C : Int) (a : Option Addr) (n cap : Nat) (l : List Cl) (w : World) (h : Tab w a n cap l) :
    Calls Try.prog 41 #[.agg #[.int .i64 R, .int .i64 C, .slice a n cap]] w fun z w' => ((okB R C l = false ∧ z = .returned (.agg #[.int .i64 0, .int .i64 0, .slice none 0 0])) ∨ (okB R C l = true ∧ ∃ a' c' rs, z = .returned (.agg #[.int .i64 C, .int .i64 R, .slice a' l.length c']) ∧ OwnT w' w.heap.size (.slice a' l.length c') rs (turnL l))) ∧ Below w.heap.size w w' := by
  obtain ⟨i0, hi, hz0, hz1, hz2⟩ := info_parts Try.info44
  have H : Hid (Tab w a n cap l) := h
  clear h
  obtain ⟨ok, HX⟩ : ∃ x, Hid (okB R C l = x) := ⟨_, rfl⟩
  go_enter Try.func41, Try.ntmps41
  go_upto_region 1 with fail
  have B0 : Below w.heap.size w ((w.alloc (.cells #[.int .i64 R, .int .i64 C, .slice a n cap] 28)).alloc (.cells #[.int .i64 0, .int .i64 0, .slice none 0 0] 28)) := ((Below.refl _ _).alloc (Nat.le_refl _) _).alloc (by simp) _
  have G0 : RowAt ((w.alloc (.cells #[.int .i64 R, .int .i64 C, .slice a n cap] 28)).alloc (.cells #[.int .i64 0, .int .i64 0, .slice none 0 0] 28)) w.heap.size #[.int .i64 R, .int .i64 C, .slice a n cap] 28 := (rowAt_new w _ _).alloc _
  have G1 : RowAt ((w.alloc (.cells #[.int .i64 R, .int .i64 C, .slice a n cap] 28)).alloc (.cells #[.int .i64 0, .int .i64 0, .slice none 0 0] 28)) (w.heap.size + 1) #[.int .i64 0, .int .i64 0, .slice none 0 0] 28 := by
    have := rowAt_new (w.alloc (.cells #[.int .i64 R, .int .i64 C, .slice a n cap] 28)) #[.int .i64 0, .int .i64 0, .slice none 0 0] 28
    simpa using this
  have HT : Hid (Tab ((w.alloc (.cells #[.int .i64 R, .int .i64 C, .slice a n cap] 28)).alloc (.cells #[.int .i64 0, .int .i64 0, .slice none 0 0] 28)) a n cap l) := H.out.below B0
  generalize ((w.alloc (.cells #[.int .i64 R, .int .i64 C, .slice a n cap] 28)).alloc (.cells #[.int .i64 0, .int .i64 0, .slice none 0 0] 28)) = v at B0 G0 G1 HT ⊢
  have k0 : v.cell? ⟨w.heap.size, 0, none⟩ = some (.int .i64 R) := G0.cell 0
  have k1 : v.cell? ⟨w.heap.size, 1, none⟩ = some (.int .i64 C) := G0.cell 1
  have k2 : v.cell? ⟨w.heap.size, 2, none⟩ = some (.slice a n cap) := G0.cell 2
  have s0 := B0.size
  have z0 := G0.lt
  have z1 := G1.lt
  have HG0 : Hid (RowAt v w.heap.size #[.int .i64 R, .int .i64 C, .slice a n cap] 28) := G0
  have HG1 : Hid (RowAt v (w.heap.size + 1) #[.int .i64 0, .int .i64 0, .slice none 0 0] 28) := G1
  have HB0 : Hid (Below w.heap.size w v) := B0
  clear G0 G1 B0
  cases ok
  · go_wp2_with (first | (go_at_call 27; refine (specTableOk_any R C a n cap l _ HT.out).mono ?_; rw [HX.out]; rintro e w1 ⟨rfl, hb1⟩; have HG2 : Hid (RowAt w1 (w.heap.size + 1) #[.int .i64 0, .int .i64 0, .slice none 0 0] 28) := HG1.out.below hb1 z1) | (refine wpList_store_row rfl 28 (.tmp 2) (.tmp 10) rfl (w.heap.size + 1) #[.int .i64 0, .int .i64 0, .slice none 0 0] rfl rfl 28 _ HG2.out tab_info rfl (cells3_one _ _ _ _ _) ?_))
    refine bodyPost_ret (v := .agg #[.int .i64 0, .int .i64 0, .slice none 0 0]) (results_cell_row (p := 2) (ty := 28) rfl _ _ (w.heap.size + 1) 28 _ _ _ rfl (RowAt.setRow HG2.out _) Try.underlying28 rfl tab_info) rfl ⟨.inl ⟨HX.out, rfl⟩, below_row (HB0.out.trans (hb1.mono s0)) (by omega) _⟩
  · have hg := gridP_of_okB HX.out
    have hl25 : l.length ≤ 25 := (formB_of (show formB R C l = true by have := HX.out; simp only [okB, Bool.and_eq_true] at this; exact this.1)).2.2.1
    have HTL : Hid (∀ k, k < l.length → (l.getD k cl0).2.2.2.2.length ≤ 1000000) := fun k hk => by
      have := (stepB_of (hg.2.2.1 k hk)).2.2
      simp only [textB, Bool.and_eq_true, decide_eq_true_eq] at this
      omega
    have HN : Hid (n = l.length) := H.out.1
    clear hg
    go_upto_region 3 with (go_at_call 27; refine (specTableOk_any R C a n cap l _ HT.out).mono ?_; rw [HX.out]; rintro e w1 ⟨rfl, hb1⟩; have q0 := (hb1.cell (p := ⟨w.heap.size, 0, none⟩) z0).trans k0; have q1 := (hb1.cell (p := ⟨w.heap.size, 1, none⟩) z0).trans k1; have q2 := (hb1.cell (p := ⟨w.heap.size, 2, none⟩) z0).trans k2)
    clear k0 k1 k2
    have s1 := hb1.size
    go_upto_region 4 with fail
    have B2 : Below w1.heap.size w1 (w1.alloc (.cells #[.int .i64 C, .int .i64 R, .slice none 0 0] 28)) := (Below.refl _ _).alloc (Nat.le_refl _) _
    have G2 : RowAt (w1.alloc (.cells #[.int .i64 C, .int .i64 R, .slice none 0 0] 28)) w1.heap.size #[.int .i64 C, .int .i64 R, .slice none 0 0] 28 := rowAt_new _ _ _
    generalize (w1.alloc (.cells #[.int .i64 C, .int .i64 R, .slice none 0 0] 28)) = v2 at B2 G2 ⊢
    have z2 := G2.lt
    have s2 := B2.size
    have r0 := (B2.cell (p := ⟨w.heap.size, 0, none⟩) (by show w.heap.size < w1.heap.size; omega)).trans q0
    have r1 := (B2.cell (p := ⟨w.heap.size, 1, none⟩) (by show w.heap.size < w1.heap.size; omega)).trans q1
    have r2 := (B2.cell (p := ⟨w.heap.size, 2, none⟩) (by show w.heap.size < w1.heap.size; omega)).trans q2
    have HT2 : Hid (Tab v2 a n cap l) := (HT.out.below hb1).below B2
    clear q0 q1 q2
    go_upto_region 6 with (first | (go_at_call 29; refine (l2Copy_any R C a n cap l _ HT2.out (by omega) HTL.out).mono ?_; rintro e w2 ⟨⟨al, cl, rs, rfl, hOl⟩, hb2⟩) | (refine wpList_fieldCells rfl (.tmp 17) rfl R C al l.length cl rfl ?_))
    clear r0 r1 r2
    have s3 := hb2.size
    have G3 : RowAt w2 w1.heap.size #[.int .i64 C, .int .i64 R, .slice none 0 0] 28 := G2.below hb2 z2
    have B3 : Below w1.heap.size w1 w2 := B2.trans (hb2.mono s2)
    have HLB : Hid (∀ g, (Value.slice al l.length cl).ownBlock = some g → g < w2.heap.size) := fun g hg => (own_lt hOl.1.row hg).2
    have HLT : Hid (∀ k, k < rs.length → ∀ g, (rwT (rs.getD k rw0)).ownBlock = some g → g < w2.heap.size) := fun k hk g hg => hOl.2.blockLt k hk g hg
    have HRL : Hid (rs.length = l.length) := hOl.2.1
    obtain ⟨N, hN⟩ : ∃ N, l.length = N := ⟨_, rfl⟩
    have HNN : Hid (l.length = N) := hN
    rw [hN] at hOl hl25 HLB ⊢
    clear hN G2 B2 hb2
    go_wp2_with fail
    go_loopw [5] (fun iv wr => ∃ (i : Nat) (a' : Option Addr) (c' : Nat), i ≤ N ∧ iv = .int .i64 i ∧ RowAt wr w1.heap.size #[.int .i64 C, .int .i64 R, .slice a' i c'] 28 ∧ OwnR wr w2.heap.size (.slice a' i c') ((rs.take i).map turnR) ∧ OwnT wr v2.heap.size (.slice al N cl) rs l ∧ Below w1.heap.size w1 wr ∧ w2.heap.size ≤ wr.heap.size) (fun iv _ => N - (intOf iv).toNat)
    case atStart => exact ⟨0, none, 0, Nat.zero_le _, rfl, G3, OwnR.nil _ _, hOl, B3, Nat.le_refl _⟩
    case round =>
      clear G3 B3 hOl
      obtain ⟨i, a', c', hin, rfl, hT, hO, hL, hb, hs⟩ := hrel
      have HTb : Hid (RowAt wr w1.heap.size #[.int .i64 C, .int .i64 R, .slice a' i c'] 28) := hT
      have HO : Hid (OwnR wr w2.heap.size (.slice a' i c') ((rs.take i).map turnR)) := hO
      have HL : Hid (OwnT wr v2.heap.size (.slice al N cl) rs l) := hL
      have HB : Hid (Below w1.heap.size w1 wr) := hb
      have hcl := hL.1.rws.2.1
      have hcm := hL.1.rws.2.2.1
      unfold maxLen at hcm
      clear hT hO hL hb
      by_cases hlt : i < N
      · have hir : i < rs.length := by have := HRL.out; have := HNN.out; omega
        obtain ⟨⟨xr, xc, xd, xg, xa, xn, xq⟩, hx⟩ : ∃ x, x = rs.getD i rw0 := ⟨_, rfl⟩
        have HXr : Hid ((xr, xc, xd, xg, xa, xn, xq) = rs.getD i rw0) := hx
        rcases HL.out.1.rws.2.2.2 with e | ⟨b, off, rfl, hbw, hat⟩
        · rw [e] at hir
          exact absurd hir (by simp)
        have hxa : RwAt wr b (off + i * 5) (xr, xc, xd, xg, xa, xn, xq) := by rw [hx]; exact hat i hir
        obtain ⟨x0, x1, x2, x3, x4⟩ := hxa
        simp only at x0 x1 x2 x3 x4
        clear hx hat
        go_upto_region 9 with fail
        have bA : Below wr.heap.size wr (wr.alloc (.cells #[.int .i64 xr, .int .i64 xc, .int .i64 xd, .int .i64 xg, .slice xa xn xq] 44)) := (Below.refl _ _).alloc (Nat.le_refl _) _
        have RA : RowAt (wr.alloc (.cells #[.int .i64 xr, .int .i64 xc, .int .i64 xd, .int .i64 xg, .slice xa xn xq] 44)) wr.heap.size #[.int .i64 xr, .int .i64 xc, .int .i64 xd, .int .i64 xg, .slice xa xn xq] 44 := rowAt_new _ _ _
        clear x0 x1 x2 x3 x4
        generalize (wr.alloc (.cells #[.int .i64 xr, .int .i64 xc, .int .i64 xd, .int .i64 xg, .slice xa xn xq] 44)) = w3 at bA RA ⊢
        have s4 := bA.size
        have y0 : w3.cell? ⟨wr.heap.size, 0, none⟩ = some (.int .i64 xr) := RA.cell 0
        have y1 : w3.cell? ⟨wr.heap.size, 1, none⟩ = some (.int .i64 xc) := RA.cell 1
        have y2 : w3.cell? ⟨wr.heap.size, 2, none⟩ = some (.int .i64 xd) := RA.cell 2
        have y3 : w3.cell? ⟨wr.heap.size, 3, none⟩ = some (.int .i64 xg) := RA.cell 3
        have y4 : w3.cell? ⟨wr.heap.size, 4, none⟩ = some (.slice xa xn xq) := RA.cell 4
        have HT3 : Hid (RowAt w3 w1.heap.size #[.int .i64 C, .int .i64 R, .slice a' i c'] 28) := HTb.out.below bA (by omega)
        have HO3 : Hid (OwnR w3 w2.heap.size (.slice a' i c') ((rs.take i).map turnR)) := HO.out.below bA
        have HL3 : Hid (OwnT w3 v2.heap.size (.slice (some ⟨b, off, none⟩) N cl) rs l) := HL.out.below bA
        have HB3 : Hid (Below w1.heap.size w1 w3) := HB.out.trans (bA.mono (by omega))
        have t2 : w3.cell? ⟨w1.heap.size, 2, none⟩ = some (.slice a' i c') := HT3.out.cell 2
        have hci := HO3.out.rws.2.1
        have hcim := HO3.out.rws.2.2.1
        unfold maxLen at hcim
        clear bA RA
        go_wp2_with (at_builtin; refine wpList_append_own _ rfl (.tmp 30) (.tmp 42) 26 rfl w2.heap.size 44 i0 _ 5 56 Try.underlying26 hi hz0 hz1 hz2 rfl (by decide) (.slice a' i c') _ _ rfl (HO3.out.row.alloc _) ⟨w3.heap.size, 0, none⟩ 1 1 [.int .i64 xc, .int .i64 xr, .int .i64 xg, .int .i64 xd, .slice xa xn xq] rfl rfl (cell_five_new _ _ _ _ _ _ _) (five_oneCell _ _ _ _ _ _ _) (by unfold maxLen; omega) (by omega) (by simp; omega) ?_; intro v' w5 hown' hgrow _; obtain ⟨a5, c5, rfl, ho5, hb5⟩ := ownR_step (B := w2.heap.size) (w := w3) (s := (xc, xr, xg, xd, xa, xn, xq)) HO3.out (Below.refl _ _) (by omega) hown' hgrow; have R5 := RowAt.grown (HT3.out.alloc _) hgrow (fun e => by have := (own_lt HO3.out.row e).1; omega); have q2 : w5.cell? ⟨w1.heap.size, 2, none⟩ = some (.slice a' i c') := R5.cell 2; have q3 := R5.frozen 2)
        go_roundw
        case rel =>
          have hb6 : Below w3.heap.size w3 (w3.alloc (.cells #[.int .i64 xc, .int .i64 xr, .int .i64 xg, .int .i64 xd, .slice xa xn xq] 44)) := (Below.refl _ _).alloc (Nat.le_refl _) _
          have hL5 : OwnT w5 v2.heap.size (.slice (some ⟨b, off, none⟩) N cl) rs l := by
            have hL4 := HL3.out.below hb6
            refine ⟨own_grown hL4.1 hgrow (fun g hg e => ?_), hL4.2.grown hgrow (fun k hk g hg e => ?_)⟩
            · have p1 := HLB.out g hg
              have p2 := (own_lt HO3.out.row e).1
              omega
            · have p1 := HLT.out k hk g hg
              have p2 := (own_lt HO3.out.row e).1
              omega
          have B5 : Below w1.heap.size w1 w5 := ((HB3.out).alloc (by omega) _).grown hgrow (by simp; omega) (fun k hk => by have := (own_lt HO3.out.row hk).1; omega)
          have s5 := hgrow.size
          simp at s5
          refine ⟨i + 1, a5, c5, by omega, by go_num, R5.setCell 2 (.slice a5 (i + 1) c5), ?_, ?_, B5.setCell (p := ⟨w1.heap.size, 2, none⟩) (Nat.le_refl _) (.slice a5 (i + 1) c5), by simp [World.setCell]; omega⟩
          · rw [List.take_succ_eq_append_getElem hir, List.map_append, show [rs[i]].map turnR = [(xc, xr, xg, xd, xa, xn, xq)] from by
              rw [show rs[i] = (xr, xc, xd, xg, xa, xn, xq) from by rw [HXr.out]; simp [List.getD, hir]]
              rfl]
            exact own_set ho5 _ _ (fun e => by have := (own_lt ho5.row e).1; simp at this; omega)
          · exact ⟨own_set hL5.1 _ _ (fun e => by have := (own_lt hL5.1.row e).1; simp at this; omega), hL5.2.setLow _ _ (by simp; omega)⟩
        case measure => simp [intOf]; omega
      · have e : i = N := by omega
        subst e
        have hT := HO.out
        rw [List.take_of_length_le (by have := HRL.out; have := HNN.out; omega)] at hT
        have HO1 : Hid (OwnR wr w2.heap.size (.slice a' i c') (rs.map turnR)) := hT
        have k2 : wr.cell? ⟨w1.heap.size, 2, none⟩ = some (.slice a' i c') := HTb.out.cell 2
        clear hT
        go_upto_region 11 with (go_at_call 30; refine (l2Sort_any a' i c' (rs.map turnR) _ HO1.out.rws (by omega)).mono ?_; rintro e w3 ⟨⟨a3, c3, rfl, ho3⟩, hb3⟩; have R3 := HTb.out.below hb3 (by omega); have q2 : w3.cell? ⟨w1.heap.size, 2, none⟩ = some (.slice a' i c') := R3.cell 2; have q3 := R3.frozen 2)
        have sz3 := hb3.size
        have R4 : RowAt (w3.setCell ⟨w1.heap.size, 2, none⟩ (.slice a3 i c3)) w1.heap.size #[.int .i64 C, .int .i64 R, .slice a3 i c3] 28 := R3.setCell 2 (.slice a3 i c3)
        have B4 : Below w1.heap.size w1 (w3.setCell ⟨w1.heap.size, 2, none⟩ (.slice a3 i c3)) := (HB.out.trans (hb3.mono (by omega))).setCell (p := ⟨w1.heap.size, 2, none⟩) (Nat.le_refl _) _
        have O4 : OwnR (w3.setCell ⟨w1.heap.size, 2, none⟩ (.slice a3 i c3)) w2.heap.size (.slice a3 i c3) (sortR (rs.map turnR)) := own_set (own_less ho3 (by omega)) _ _ (fun e => by have := (own_lt ho3.row e).1; simp at this; omega)
        have T4 : TxtOwn (w3.setCell ⟨w1.heap.size, 2, none⟩ (.slice a3 i c3)) v2.heap.size (Value.slice a3 i c3).ownBlock (sortR (rs.map turnR)) (turnL l) := by
          have := ((HL.out.2.turn.sort).below hb3).setLow ⟨w1.heap.size, 2, none⟩ (.slice a3 i c3) (by simp; omega)
          exact this.anew O4
        clear q2 q3 R3 k2 ho3
        generalize (w3.setCell ⟨w1.heap.size, 2, none⟩ (.slice a3 i c3)) = w4 at R4 B4 O4 T4 ⊢
        have HO4 : Hid (OwnR w4 w2.heap.size (.slice a3 i c3) (sortR (rs.map turnR))) := O4
        have HT4 : Hid (TxtOwn w4 v2.heap.size (Value.slice a3 i c3).ownBlock (sortR (rs.map turnR)) (turnL l)) := T4
        have HB4 : Hid (Below w1.heap.size w1 w4) := B4
        have k0 : w4.cell? ⟨w1.heap.size, 0, none⟩ = some (.int .i64 C) := R4.cell 0
        have k1 : w4.cell? ⟨w1.heap.size, 1, none⟩ = some (.int .i64 R) := R4.cell 1
        have k2 : w4.cell? ⟨w1.heap.size, 2, none⟩ = some (.slice a3 i c3) := R4.cell 2
        have HG2 : Hid (RowAt w4 (w.heap.size + 1) #[.int .i64 0, .int .i64 0, .slice none 0 0] 28) := (HG1.out.below hb1 z1).below B4 (by omega)
        clear O4 T4 B4 R4
        go_wp2_with (refine wpList_store_row rfl 28 (.tmp 2) (.tmp 49) rfl (w.heap.size + 1) #[.int .i64 C, .int .i64 R, .slice a3 i c3] rfl rfl 28 _ HG2.out tab_info rfl (cells3_one _ _ _ _ _) ?_)
        refine bodyPost_ret (v := .agg #[.int .i64 C, .int .i64 R, .slice a3 i c3]) (results_cell_row (p := 2) (ty := 28) rfl _ _ (w.heap.size + 1) 28 _ _ _ rfl (RowAt.setRow HG2.out _) Try.underlying28 rfl tab_info) rfl ⟨.inr ⟨HX.out, a3, c3, sortR (rs.map turnR), by rw [HNN.out], ?_⟩, below_row ((HB0.out.trans (hb1.mono s0)).trans (HB4.out.mono (by omega))) (by omega) _⟩
        rw [HNN.out]
        exact OwnT.less (B' := v2.heap.size) ⟨own_row (own_less HO4.out (by omega)) _ _ (fun e => by have := (own_lt HO4.out.row e).1; omega), HT4.out.rowLow _ _ (by omega)⟩ (by omega)
end Go.Proofs.Yteghidjbcpmfbaa
namespace Go.Proofs.Yteghidjbcpmfbaa
open Go.RowKit

/-- A row when a row of the table is taken out. -/
def outRw (at' : Int) (x : Rw) : Rw := if at' < x.1 then (x.1 - 1, x.2.1, x.2.2.1, x.2.2.2.1, x.2.2.2.2) else if at' < x.1 + x.2.2.1 then (x.1, x.2.1, x.2.2.1 - 1, x.2.2.2.1, x.2.2.2.2) else x
def tallR (x : Rw) : Bool := decide (0 < x.2.2.1)
def outRM (at' : Int) (rs : List Rw) : List Rw := (rs.map (outRw at')).filter tallR
theorem outRw_txt (at' : Int) (x : Rw) : rwT (outRw at' x) = rwT x := by
  unfold outRw
  split
  · rfl
  · split <;> rfl
theorem RwOwn.out {w : World} {B : Nat} {x : Rw} {y : Cl} (a : Int) (h : RwOwn w B x y) : RwOwn w B (outRw a x) (outC a y) := by
  obtain ⟨h0, h1, h2, h3, h4⟩ := h
  have h4' : Own w B (rwT (outRw a x)) (outC a y).2.2.2.2 := by rw [outRw_txt, outC_txt]; exact h4
  refine ⟨?_, ?_, ?_, ?_, h4'⟩ <;> unfold outRw outC <;> rw [← h0, ← h2] <;> split <;> (try split) <;> simp_all
def outZ (a : Int) (z : List (Rw × Cl)) : List (Rw × Cl) := (z.map (fun p => (outRw a p.1, outC a p.2))).filter (fun p => tallB p.2)
theorem out_zip (a : Int) : ∀ z : List (Rw × Cl), (∀ p ∈ z, p.1.1 = p.2.1 ∧ p.1.2.2.1 = p.2.2.2.1) → (outZ a z).map Prod.fst = outRM a (z.map Prod.fst) ∧ (outZ a z).map Prod.snd = outM a (z.map Prod.snd)
  | [], _ => ⟨rfl, rfl⟩
  | p :: z, h => by
    obtain ⟨i1, i2⟩ := out_zip a z (fun q hq => h q (List.mem_cons_of_mem _ hq))
    obtain ⟨e1, e2⟩ := h p (List.mem_cons_self ..)
    have e : tallR (outRw a p.1) = tallB (outC a p.2) := by
      unfold tallR tallB outRw outC
      rw [← e1, ← e2]
      split
      · rfl
      · split
        · rfl
        · rw [e2]
    simp only [outZ, outRM, outM, List.map_cons, List.filter_cons, e] at i1 i2 ⊢
    cases tallB (outC a p.2)
    · exact ⟨i1, i2⟩
    · simp only [if_true, List.map_cons, i1, i2, and_self]
theorem TxtOwn.out {w : World} {B : Nat} {q : Option Nat} {rs : List Rw} {l : List Cl} (a : Int) (h : TxtOwn w B q rs l) : TxtOwn w B q (outRM a rs) (outM a l) := by
  have e := h.1
  have hz := h.zip
  obtain ⟨h1, h2⟩ := out_zip a (rs.zip l) (fun p hp => ⟨(hz.1 p hp).1.1, (hz.1 p hp).1.2.2.1⟩)
  rw [List.map_fst_zip (by omega)] at h1
  rw [List.map_snd_zip (by omega)] at h2
  have h3 : TxtZ w B q (outZ a (rs.zip l)) := by
    constructor
    · intro p hp
      obtain ⟨hp1, _⟩ := List.mem_filter.1 hp
      obtain ⟨p', hp', rfl⟩ := List.mem_map.1 hp1
      refine ⟨(hz.1 p' hp').1.out a, ?_⟩
      simp only [outRw_txt]
      exact (hz.1 p' hp').2
    · refine List.Pairwise.filter _ ?_
      rw [List.pairwise_map]
      refine hz.2.imp ?_
      intro x y hxy
      simp only [outRw_txt]
      exact hxy
  rw [← h1, ← h2]
  refine TxtZ.txt (by simp) ?_
  rw [List.zip_map']
  simpa using h3
theorem outRM_take (a : Int) (rs : List Rw) (i : Nat) (hi : i < rs.length) : outRM a (rs.take (i + 1)) = outRM a (rs.take i) ++ (if tallR (outRw a (rs.getD i rw0)) then [outRw a (rs.getD i rw0)] else []) := by
  unfold outRM
  rw [List.take_succ_eq_append_getElem hi, List.map_append, List.filter_append]
  congr 1
  rw [show rs[i] = rs.getD i rw0 by simp [List.getD, hi]]
  simp only [List.map_cons, List.map_nil, List.filter_cons, List.filter_nil]
theorem outRM_len (a : Int) (rs : List Rw) : (outRM a rs).length ≤ rs.length := by
  unfold outRM
  exact Nat.le_trans (List.length_filter_le _ _) (by simp)
theorem outM_eq_len {w : World} {B : Nat} {q : Option Nat} {rs : List Rw} {l : List Cl} (a : Int) (h : TxtOwn w B q rs l) : (outRM a rs).length = (outM a l).length := (h.out a).1

set_option maxRecDepth 100000 in
set_option maxHeartbeats 8000000 in
theorem specTableRowOut_any (R C t' : Int) (a : Option Addr) (n cap : Nat) (l : List Cl) (w : World) (h : Tab w a n cap l) :
    Calls Try.prog 16 #[.agg #[.int .i64 R, .int .i64 C, .slice a n cap], .int .i64 t'] w fun z w' => TabRes w.heap.size (rowOutB R C l t') (R - 1) C (outL t'  l) z w' ∧ Below w.heap.size w w' := by
  obtain ⟨i0, hi, hz0, hz1, hz2⟩ := info_parts Try.info44
  have H : Hid (Tab w a n cap l) := h
  clear h
  obtain ⟨ok, HX⟩ : ∃ x, Hid (okB R C l = x) := ⟨_, rfl⟩
  go_enter Try.func16, Try.ntmps16
  go_upto_region 1 with fail
  have B0 : Below w.heap.size w ((w.alloc (.cells #[.int .i64 R, .int .i64 C, .slice a n cap] 28)).alloc (.cells #[.int .i64 0, .int .i64 0, .slice none 0 0] 28)) := ((Below.refl _ _).alloc (Nat.le_refl _) _).alloc (by simp) _
  have G0 : RowAt ((w.alloc (.cells #[.int .i64 R, .int .i64 C, .slice a n cap] 28)).alloc (.cells #[.int .i64 0, .int .i64 0, .slice none 0 0] 28)) w.heap.size #[.int .i64 R, .int .i64 C, .slice a n cap] 28 := (rowAt_new w _ _).alloc _
  have G1 : RowAt ((w.alloc (.cells #[.int .i64 R, .int .i64 C, .slice a n cap] 28)).alloc (.cells #[.int .i64 0, .int .i64 0, .slice none 0 0] 28)) (w.heap.size + 1) #[.int .i64 0, .int .i64 0, .slice none 0 0] 28 := by
    have := rowAt_new (w.alloc (.cells #[.int .i64 R, .int .i64 C, .slice a n cap] 28)) #[.int .i64 0, .int .i64 0, .slice none 0 0] 28
    simpa using this
  have HT : Hid (Tab ((w.alloc (.cells #[.int .i64 R, .int .i64 C, .slice a n cap] 28)).alloc (.cells #[.int .i64 0, .int .i64 0, .slice none 0 0] 28)) a n cap l) := H.out.below B0
  generalize ((w.alloc (.cells #[.int .i64 R, .int .i64 C, .slice a n cap] 28)).alloc (.cells #[.int .i64 0, .int .i64 0, .slice none 0 0] 28)) = v at B0 G0 G1 HT ⊢
  have k0 : v.cell? ⟨w.heap.size, 0, none⟩ = some (.int .i64 R) := G0.cell 0
  have k1 : v.cell? ⟨w.heap.size, 1, none⟩ = some (.int .i64 C) := G0.cell 1
  have k2 : v.cell? ⟨w.heap.size, 2, none⟩ = some (.slice a n cap) := G0.cell 2
  have s0 := B0.size
  have z0 := G0.lt
  have z1 := G1.lt
  have HG0 : Hid (RowAt v w.heap.size #[.int .i64 R, .int .i64 C, .slice a n cap] 28) := G0
  have HG1 : Hid (RowAt v (w.heap.size + 1) #[.int .i64 0, .int .i64 0, .slice none 0 0] 28) := G1
  have HB0 : Hid (Below w.heap.size w v) := B0
  clear G0 G1 B0
  cases ok
  · have HNB : Hid (rowOutB R C l t' = false) := by
      show rowOutB R C l t' = false
      simp only [rowOutB, HX.out, Bool.false_and]
    go_wp2_with (first | (go_at_call 27; refine (specTableOk_any R C a n cap l _ HT.out).mono ?_; rw [HX.out]; rintro e w1 ⟨rfl, hb1⟩; have HG2 : Hid (RowAt w1 (w.heap.size + 1) #[.int .i64 0, .int .i64 0, .slice none 0 0] 28) := HG1.out.below hb1 z1; have q0 := (hb1.cell (p := ⟨w.heap.size, 0, none⟩) z0).trans k0; have q1 := (hb1.cell (p := ⟨w.heap.size, 1, none⟩) z0).trans k1; have q2 := (hb1.cell (p := ⟨w.heap.size, 2, none⟩) z0).trans k2) | (refine wpList_store_row rfl 28 (.tmp 4) (.tmp 26) rfl (w.heap.size + 1) #[.int .i64 0, .int .i64 0, .slice none 0 0] rfl rfl 28 _ HG2.out tab_info rfl (cells3_one _ _ _ _ _) ?_))
    refine bodyPost_ret (v := .tuple #[.agg #[.int .i64 0, .int .i64 0, .slice none 0 0], .bool false]) ?_ rfl ⟨.inl ⟨HNB.out, rfl⟩, below_row (HB0.out.trans (hb1.mono s0)) (by omega) _⟩
    rw [results_cell_tmp rfl]
    simp [asAddr, Result.andThen, run_tabOf (RowAt.setRow HG2.out #[.int .i64 0, .int .i64 0, .slice none 0 0])]
  · have hg := gridP_of_okB HX.out
    obtain ⟨hR, hC, -, -⟩ := hg
    have hl25 : l.length ≤ 25 := (formB_of (show formB R C l = true by have := HX.out; simp only [okB, Bool.and_eq_true] at this; exact this.1)).2.2.1
    have HTL : Hid (∀ k, k < l.length → (l.getD k cl0).2.2.2.2.length ≤ 1000000) := fun k hk => by
      have := (stepB_of ((gridP_of_okB HX.out).2.2.1 k hk)).2.2
      simp only [textB, Bool.and_eq_true, decide_eq_true_eq] at this
      omega
    have HN : Hid (n = l.length) := H.out.1
    by_cases hin : 0 ≤ t' ∧ t' ≤ R - 1
    case neg =>
      have HS0 : Hid (decide (0 ≤ t' ∧ t' ≤ R - 1) = false) := decide_eq_false hin
      have HNB : Hid (rowOutB R C l t' = false) := by
        show rowOutB R C l t' = false
        simp only [rowOutB, Bool.and_eq_false_iff, decide_eq_false_iff_not]
        omega
      go_wp2_with (first | (go_at_call 27; refine (specTableOk_any R C a n cap l _ HT.out).mono ?_; rw [HX.out]; rintro e w1 ⟨rfl, hb1⟩; have HG2 : Hid (RowAt w1 (w.heap.size + 1) #[.int .i64 0, .int .i64 0, .slice none 0 0] 28) := HG1.out.below hb1 z1; have q0 := (hb1.cell (p := ⟨w.heap.size, 0, none⟩) z0).trans k0; have q1 := (hb1.cell (p := ⟨w.heap.size, 1, none⟩) z0).trans k1; have q2 := (hb1.cell (p := ⟨w.heap.size, 2, none⟩) z0).trans k2) | (go_at_call 28; refine (l6In_of HS0.out _).mono ?_; rintro e w9 ⟨rfl, hw9⟩; subst w9) | (refine wpList_store_row rfl 28 (.tmp 4) (.tmp 26) rfl (w.heap.size + 1) #[.int .i64 0, .int .i64 0, .slice none 0 0] rfl rfl 28 _ HG2.out tab_info rfl (cells3_one _ _ _ _ _) ?_))
      refine bodyPost_ret (v := .tuple #[.agg #[.int .i64 0, .int .i64 0, .slice none 0 0], .bool false]) ?_ rfl ⟨.inl ⟨HNB.out, rfl⟩, below_row (HB0.out.trans (hb1.mono s0)) (by omega) _⟩
      rw [results_cell_tmp rfl]
      simp [asAddr, Result.andThen, run_tabOf (RowAt.setRow HG2.out #[.int .i64 0, .int .i64 0, .slice none 0 0])]
    have HS0 : Hid (decide (0 ≤ t' ∧ t' ≤ R - 1) = true) := decide_eq_true hin
    by_cases hR2 : R < 2
    · have HNB : Hid (rowOutB R C l t' = false) := by
        show rowOutB R C l t' = false
        simp only [rowOutB, Bool.and_eq_false_iff, decide_eq_false_iff_not]
        omega
      go_wp2_with (first | (go_at_call 27; refine (specTableOk_any R C a n cap l _ HT.out).mono ?_; rw [HX.out]; rintro e w1 ⟨rfl, hb1⟩; have HG2 : Hid (RowAt w1 (w.heap.size + 1) #[.int .i64 0, .int .i64 0, .slice none 0 0] 28) := HG1.out.below hb1 z1; have q0 := (hb1.cell (p := ⟨w.heap.size, 0, none⟩) z0).trans k0; have q1 := (hb1.cell (p := ⟨w.heap.size, 1, none⟩) z0).trans k1; have q2 := (hb1.cell (p := ⟨w.heap.size, 2, none⟩) z0).trans k2) | (go_at_call 28; refine (l6In_of HS0.out _).mono ?_; rintro e w9 ⟨rfl, hw9⟩; subst w9) | (refine wpList_store_row rfl 28 (.tmp 4) (.tmp 26) rfl (w.heap.size + 1) #[.int .i64 0, .int .i64 0, .slice none 0 0] rfl rfl 28 _ HG2.out tab_info rfl (cells3_one _ _ _ _ _) ?_))
      refine bodyPost_ret (v := .tuple #[.agg #[.int .i64 0, .int .i64 0, .slice none 0 0], .bool false]) ?_ rfl ⟨.inl ⟨HNB.out, rfl⟩, below_row (HB0.out.trans (hb1.mono s0)) (by omega) _⟩
      rw [results_cell_tmp rfl]
      simp [asAddr, Result.andThen, run_tabOf (RowAt.setRow HG2.out #[.int .i64 0, .int .i64 0, .slice none 0 0])]
    have HYB : Hid (rowOutB R C l t' = true) := by
      show rowOutB R C l t' = true
      simp only [rowOutB, HX.out, Bool.true_and, Bool.and_eq_true, decide_eq_true_eq]
      omega
    go_upto_region 3 with (first | (go_at_call 27; refine (specTableOk_any R C a n cap l _ HT.out).mono ?_; rw [HX.out]; rintro e w1 ⟨rfl, hb1⟩; have HG2 : Hid (RowAt w1 (w.heap.size + 1) #[.int .i64 0, .int .i64 0, .slice none 0 0] 28) := HG1.out.below hb1 z1; have q0 := (hb1.cell (p := ⟨w.heap.size, 0, none⟩) z0).trans k0; have q1 := (hb1.cell (p := ⟨w.heap.size, 1, none⟩) z0).trans k1; have q2 := (hb1.cell (p := ⟨w.heap.size, 2, none⟩) z0).trans k2) | (go_at_call 28; refine (l6In_of HS0.out _).mono ?_; rintro e w9 ⟨rfl, hw9⟩; subst w9))
    clear k0 k1 k2
    have s1 := hb1.size
    go_upto_region 4 with fail
    have B2 : Below w1.heap.size w1 (w1.alloc (.cells #[.int .i64 (R - 1), .int .i64 C, .slice none 0 0] 28)) := (Below.refl _ _).alloc (Nat.le_refl _) _
    have G2 : RowAt (w1.alloc (.cells #[.int .i64 (R - 1), .int .i64 C, .slice none 0 0] 28)) w1.heap.size #[.int .i64 (R - 1), .int .i64 C, .slice none 0 0] 28 := rowAt_new _ _ _
    generalize (w1.alloc (.cells #[.int .i64 (R - 1), .int .i64 C, .slice none 0 0] 28)) = v2 at B2 G2 ⊢
    have z2 := G2.lt
    have s2 := B2.size
    have r0 := (B2.cell (p := ⟨w.heap.size, 0, none⟩) (by show w.heap.size < w1.heap.size; omega)).trans q0
    have r1 := (B2.cell (p := ⟨w.heap.size, 1, none⟩) (by show w.heap.size < w1.heap.size; omega)).trans q1
    have r2 := (B2.cell (p := ⟨w.heap.size, 2, none⟩) (by show w.heap.size < w1.heap.size; omega)).trans q2
    have HT2 : Hid (Tab v2 a n cap l) := (HT.out.below hb1).below B2
    clear q0 q1 q2
    go_upto_region 6 with (first | (go_at_call 29; refine (l2Copy_any R C a n cap l _ HT2.out (by omega) HTL.out).mono ?_; rintro e w2 ⟨⟨al, cl, rs, rfl, hOl⟩, hb2⟩) | (refine wpList_fieldCells rfl (.tmp 34) rfl R C al l.length cl rfl ?_))
    clear r0 r1 r2
    have s3 := hb2.size
    have G3 : RowAt w2 w1.heap.size #[.int .i64 (R - 1), .int .i64 C, .slice none 0 0] 28 := G2.below hb2 z2
    have B3 : Below w1.heap.size w1 w2 := B2.trans (hb2.mono s2)
    have HLB : Hid (∀ g, (Value.slice al l.length cl).ownBlock = some g → g < w2.heap.size) := fun g hg => (own_lt hOl.1.row hg).2
    have HLT : Hid (∀ k, k < rs.length → ∀ g, (rwT (rs.getD k rw0)).ownBlock = some g → g < w2.heap.size) := fun k hk g hg => hOl.2.blockLt k hk g hg
    have HRL : Hid (rs.length = l.length) := hOl.2.1
    have HRN : Hid (∀ k, k < rs.length → 0 ≤ (rs.getD k rw0).1 ∧ (rs.getD k rw0).1 ≤ 5 ∧ 1 ≤ (rs.getD k rw0).2.2.1 ∧ (rs.getD k rw0).2.2.1 ≤ 5) := fun k hk => by
      obtain ⟨e0, e1, e2, e3, -⟩ := hOl.2.2.1 k hk
      have hk' : k < l.length := by rw [← HRL.out]; exact hk
      have := wiB_of (stepB_of ((gridP_of_okB HX.out).2.2.1 k hk')).1
      rw [e0, e2]
      omega
    obtain ⟨N, hN⟩ : ∃ N, l.length = N := ⟨_, rfl⟩
    have HNN : Hid (l.length = N) := hN
    rw [hN] at hOl hl25 HLB ⊢
    clear hN G2 B2 hb2
    go_wp2_with fail
    go_loopw [8] (fun iv wr => ∃ (i : Nat) (a' : Option Addr) (c' m' : Nat), i ≤ N ∧ iv = .int .i64 i ∧ m' = (outRM t' (rs.take i)).length ∧ RowAt wr w1.heap.size #[.int .i64 (R - 1), .int .i64 C, .slice a' m' c'] 28 ∧ OwnR wr w2.heap.size (.slice a' m' c') (outRM t' (rs.take i)) ∧ OwnT wr v2.heap.size (.slice al N cl) rs l ∧ Below w1.heap.size w1 wr ∧ w2.heap.size ≤ wr.heap.size) (fun iv _ => N - (intOf iv).toNat)
    case atStart => exact ⟨0, none, 0, 0, Nat.zero_le _, rfl, rfl, G3, OwnR.nil _ _, hOl, B3, Nat.le_refl _⟩
    case round =>
      clear G3 B3 hOl
      obtain ⟨i, a', c', m', hin, rfl, hm', hT, hO, hL, hb, hs⟩ := hrel
      have HM' : Hid (m' = (outRM t' (rs.take i)).length) := hm'
      have hmN : m' ≤ N := by
        have := outRM_len t' (rs.take i)
        simp only [List.length_take] at this
        omega
      have HTb : Hid (RowAt wr w1.heap.size #[.int .i64 (R - 1), .int .i64 C, .slice a' m' c'] 28) := hT
      have HO : Hid (OwnR wr w2.heap.size (.slice a' m' c') (outRM t' (rs.take i))) := hO
      have HL : Hid (OwnT wr v2.heap.size (.slice al N cl) rs l) := hL
      have HB : Hid (Below w1.heap.size w1 wr) := hb
      have hcl := hL.1.rws.2.1
      have hcm := hL.1.rws.2.2.1
      unfold maxLen at hcm
      clear hm' hT hO hL hb
      by_cases hlt : i < N
      · have hir : i < rs.length := by have := HRL.out; have := HNN.out; omega
        obtain ⟨n0, n1, n2, n3⟩ := HRN.out i hir
        obtain ⟨⟨xr, xc, xd, xg, xa, xn, xq⟩, hx⟩ : ∃ x, x = rs.getD i rw0 := ⟨_, rfl⟩
        have HXr : Hid ((xr, xc, xd, xg, xa, xn, xq) = rs.getD i rw0) := hx
        rw [← hx] at n0 n1 n2 n3
        simp only at n0 n1 n2 n3
        rcases HL.out.1.rws.2.2.2 with e | ⟨b, off, rfl, hbw, hat⟩
        · rw [e] at hir
          exact absurd hir (by simp)
        have hxa : RwAt wr b (off + i * 5) (xr, xc, xd, xg, xa, xn, xq) := by rw [hx]; exact hat i hir
        obtain ⟨x0, x1, x2, x3, x4⟩ := hxa
        simp only at x0 x1 x2 x3 x4
        clear hx hat
        go_upto_region 9 with fail
        have bA : Below wr.heap.size wr (wr.alloc (.cells #[.int .i64 xr, .int .i64 xc, .int .i64 xd, .int .i64 xg, .slice xa xn xq] 44)) := (Below.refl _ _).alloc (Nat.le_refl _) _
        have RA : RowAt (wr.alloc (.cells #[.int .i64 xr, .int .i64 xc, .int .i64 xd, .int .i64 xg, .slice xa xn xq] 44)) wr.heap.size #[.int .i64 xr, .int .i64 xc, .int .i64 xd, .int .i64 xg, .slice xa xn xq] 44 := rowAt_new _ _ _
        clear x0 x1 x2 x3 x4
        generalize (wr.alloc (.cells #[.int .i64 xr, .int .i64 xc, .int .i64 xd, .int .i64 xg, .slice xa xn xq] 44)) = w3 at bA RA ⊢
        have y0 : w3.cell? ⟨wr.heap.size, 0, none⟩ = some (.int .i64 xr) := RA.cell 0
        have y2 : w3.cell? ⟨wr.heap.size, 2, none⟩ = some (.int .i64 xd) := RA.cell 2
        have y5 := RA.frozen 0
        have y6 := RA.frozen 2
        by_cases d1 : t' < xr
        · have d1' : t' < xr := d1
          have HXo : Hid (outRw t' (xr, xc, xd, xg, xa, xn, xq) = ((xr - 1), xc, xd, xg, xa, xn, xq)) := by
            show outRw t' (xr, xc, xd, xg, xa, xn, xq) = _
            unfold outRw
            rw [if_pos (show t' < xr by omega)]
          go_upto_region 13 with fail
          have bD : Below wr.heap.size wr (w3.setCell ⟨wr.heap.size, 0, none⟩ (.int .i64 (xr - 1))) := bA.setCell (p := ⟨wr.heap.size, 0, none⟩) (Nat.le_refl _) _
          have RD : RowAt (w3.setCell ⟨wr.heap.size, 0, none⟩ (.int .i64 (xr - 1))) wr.heap.size #[.int .i64 (xr - 1), .int .i64 xc, .int .i64 xd, .int .i64 xg, .slice xa xn xq] 44 := RA.setCell 0 (.int .i64 (xr - 1))
          clear y0 y2 y5 y6 RA bA
          generalize (w3.setCell ⟨wr.heap.size, 0, none⟩ (.int .i64 (xr - 1))) = w4 at bD RD ⊢
          have s4 := bD.size
          have HT3 : Hid (RowAt w4 w1.heap.size #[.int .i64 (R - 1), .int .i64 C, .slice a' m' c'] 28) := HTb.out.below bD (by omega)
          have HO3 : Hid (OwnR w4 w2.heap.size (.slice a' m' c') (outRM t' (rs.take i))) := HO.out.below bD
          have HL3 : Hid (OwnT w4 v2.heap.size (.slice (some ⟨b, off, none⟩) N cl) rs l) := HL.out.below bD
          have HB3 : Hid (Below w1.heap.size w1 w4) := HB.out.trans (bD.mono (by omega))
          have u2 : w4.cell? ⟨wr.heap.size, 2, none⟩ = some (.int .i64 xd) := RD.cell 2
          have u0 : w4.cell? ⟨wr.heap.size, 0, none⟩ = some (.int .i64 (xr - 1)) := RD.cell 0
          have u1 : w4.cell? ⟨wr.heap.size, 1, none⟩ = some (.int .i64 xc) := RD.cell 1
          have u3 : w4.cell? ⟨wr.heap.size, 3, none⟩ = some (.int .i64 xg) := RD.cell 3
          have u4 : w4.cell? ⟨wr.heap.size, 4, none⟩ = some (.slice xa xn xq) := RD.cell 4
          have t2 : w4.cell? ⟨w1.heap.size, 2, none⟩ = some (.slice a' m' c') := HT3.out.cell 2
          have hci := HO3.out.rws.2.1
          have hcim := HO3.out.rws.2.2.1
          unfold maxLen at hcim
          have hdp : 0 < xd := by omega
          clear bD RD
          go_wp2_with (at_builtin; refine wpList_append_own _ rfl (.tmp 71) (.tmp 73) 26 rfl w2.heap.size 44 i0 _ 5 56 Try.underlying26 hi hz0 hz1 hz2 rfl (by decide) (.slice a' m' c') _ _ rfl (HO3.out.row.alloc _) ⟨w4.heap.size, 0, none⟩ 1 1 [.int .i64 (xr - 1), .int .i64 xc, .int .i64 xd, .int .i64 xg, .slice xa xn xq] rfl rfl (cell_five_new _ _ _ _ _ _ _) (five_oneCell _ _ _ _ _ _ _) (by unfold maxLen; omega) (by omega) (by simp; omega) ?_; intro v' w5 hown' hgrow _; obtain ⟨a5, c5, rfl, ho5, hb5⟩ := ownR_step (B := w2.heap.size) (w := w4) (s := ((xr - 1), xc, xd, xg, xa, xn, xq)) HO3.out (Below.refl _ _) (by omega) hown' hgrow; have R5 := RowAt.grown (HT3.out.alloc _) hgrow (fun e => by have := (own_lt HO3.out.row e).1; omega); have q2 : w5.cell? ⟨w1.heap.size, 2, none⟩ = some (.slice a' m' c') := R5.cell 2; have q3 := R5.frozen 2)
          go_roundw
          case rel =>
            have hb6 : Below w4.heap.size w4 (w4.alloc (.cells #[.int .i64 (xr - 1), .int .i64 xc, .int .i64 xd, .int .i64 xg, .slice xa xn xq] 44)) := (Below.refl _ _).alloc (Nat.le_refl _) _
            have hL5 : OwnT w5 v2.heap.size (.slice (some ⟨b, off, none⟩) N cl) rs l := by
              have hL4 := HL3.out.below hb6
              refine ⟨own_grown hL4.1 hgrow (fun g hg e => ?_), hL4.2.grown hgrow (fun k hk g hg e => ?_)⟩
              · have p1 := HLB.out g hg
                have p2 := (own_lt HO3.out.row e).1
                omega
              · have p1 := HLT.out k hk g hg
                have p2 := (own_lt HO3.out.row e).1
                omega
            have B5 : Below w1.heap.size w1 w5 := ((HB3.out).alloc (by omega) _).grown hgrow (by simp; omega) (fun k hk => by have := (own_lt HO3.out.row hk).1; omega)
            have s5 := hgrow.size
            simp at s5
            have eT : outRM t' (rs.take (i + 1)) = outRM t' (rs.take i) ++ [((xr - 1), xc, xd, xg, xa, xn, xq)] := by
              rw [outRM_take t' rs i hir, ← HXr.out, HXo.out]
              congr 1
              rw [if_pos (show tallR ((xr - 1), xc, xd, xg, xa, xn, xq) = true from decide_eq_true hdp)]
            refine ⟨i + 1, a5, c5, m' + 1, by omega, by go_num, by rw [eT, List.length_append, ← HM'.out]; rfl, R5.setCell 2 (.slice a5 (m' + 1) c5), ?_, ?_, B5.setCell (p := ⟨w1.heap.size, 2, none⟩) (Nat.le_refl _) (.slice a5 (m' + 1) c5), by simp [World.setCell]; omega⟩
            · rw [eT]
              exact own_set ho5 _ _ (fun e => by have := (own_lt ho5.row e).1; simp at this; omega)
            · exact ⟨own_set hL5.1 _ _ (fun e => by have := (own_lt hL5.1.row e).1; simp at this; omega), hL5.2.setLow _ _ (by simp; omega)⟩
          case measure => simp [intOf]; omega
        by_cases d2 : t' < xr + xd
        · by_cases d3 : 0 < xd - 1
          · have d1' : t' < xr + xd := d2
            have HXo : Hid (outRw t' (xr, xc, xd, xg, xa, xn, xq) = (xr, xc, (xd - 1), xg, xa, xn, xq)) := by
              show outRw t' (xr, xc, xd, xg, xa, xn, xq) = _
              unfold outRw
              rw [if_neg (show ¬ t' < xr by omega), if_pos (show t' < xr + xd by omega)]
            go_upto_region 13 with fail
            have bD : Below wr.heap.size wr (w3.setCell ⟨wr.heap.size, 2, none⟩ (.int .i64 (xd - 1))) := bA.setCell (p := ⟨wr.heap.size, 2, none⟩) (Nat.le_refl _) _
            have RD : RowAt (w3.setCell ⟨wr.heap.size, 2, none⟩ (.int .i64 (xd - 1))) wr.heap.size #[.int .i64 xr, .int .i64 xc, .int .i64 (xd - 1), .int .i64 xg, .slice xa xn xq] 44 := RA.setCell 2 (.int .i64 (xd - 1))
            clear y0 y2 y5 y6 RA bA
            generalize (w3.setCell ⟨wr.heap.size, 2, none⟩ (.int .i64 (xd - 1))) = w4 at bD RD ⊢
            have s4 := bD.size
            have HT3 : Hid (RowAt w4 w1.heap.size #[.int .i64 (R - 1), .int .i64 C, .slice a' m' c'] 28) := HTb.out.below bD (by omega)
            have HO3 : Hid (OwnR w4 w2.heap.size (.slice a' m' c') (outRM t' (rs.take i))) := HO.out.below bD
            have HL3 : Hid (OwnT w4 v2.heap.size (.slice (some ⟨b, off, none⟩) N cl) rs l) := HL.out.below bD
            have HB3 : Hid (Below w1.heap.size w1 w4) := HB.out.trans (bD.mono (by omega))
            have u2 : w4.cell? ⟨wr.heap.size, 2, none⟩ = some (.int .i64 (xd - 1)) := RD.cell 2
            have u0 : w4.cell? ⟨wr.heap.size, 0, none⟩ = some (.int .i64 xr) := RD.cell 0
            have u1 : w4.cell? ⟨wr.heap.size, 1, none⟩ = some (.int .i64 xc) := RD.cell 1
            have u3 : w4.cell? ⟨wr.heap.size, 3, none⟩ = some (.int .i64 xg) := RD.cell 3
            have u4 : w4.cell? ⟨wr.heap.size, 4, none⟩ = some (.slice xa xn xq) := RD.cell 4
            have t2 : w4.cell? ⟨w1.heap.size, 2, none⟩ = some (.slice a' m' c') := HT3.out.cell 2
            have hci := HO3.out.rws.2.1
            have hcim := HO3.out.rws.2.2.1
            unfold maxLen at hcim
            have hdp : 0 < (xd - 1) := by omega
            clear bD RD
            go_wp2_with (at_builtin; refine wpList_append_own _ rfl (.tmp 71) (.tmp 73) 26 rfl w2.heap.size 44 i0 _ 5 56 Try.underlying26 hi hz0 hz1 hz2 rfl (by decide) (.slice a' m' c') _ _ rfl (HO3.out.row.alloc _) ⟨w4.heap.size, 0, none⟩ 1 1 [.int .i64 xr, .int .i64 xc, .int .i64 (xd - 1), .int .i64 xg, .slice xa xn xq] rfl rfl (cell_five_new _ _ _ _ _ _ _) (five_oneCell _ _ _ _ _ _ _) (by unfold maxLen; omega) (by omega) (by simp; omega) ?_; intro v' w5 hown' hgrow _; obtain ⟨a5, c5, rfl, ho5, hb5⟩ := ownR_step (B := w2.heap.size) (w := w4) (s := (xr, xc, (xd - 1), xg, xa, xn, xq)) HO3.out (Below.refl _ _) (by omega) hown' hgrow; have R5 := RowAt.grown (HT3.out.alloc _) hgrow (fun e => by have := (own_lt HO3.out.row e).1; omega); have q2 : w5.cell? ⟨w1.heap.size, 2, none⟩ = some (.slice a' m' c') := R5.cell 2; have q3 := R5.frozen 2)
            go_roundw
            case rel =>
              have hb6 : Below w4.heap.size w4 (w4.alloc (.cells #[.int .i64 xr, .int .i64 xc, .int .i64 (xd - 1), .int .i64 xg, .slice xa xn xq] 44)) := (Below.refl _ _).alloc (Nat.le_refl _) _
              have hL5 : OwnT w5 v2.heap.size (.slice (some ⟨b, off, none⟩) N cl) rs l := by
                have hL4 := HL3.out.below hb6
                refine ⟨own_grown hL4.1 hgrow (fun g hg e => ?_), hL4.2.grown hgrow (fun k hk g hg e => ?_)⟩
                · have p1 := HLB.out g hg
                  have p2 := (own_lt HO3.out.row e).1
                  omega
                · have p1 := HLT.out k hk g hg
                  have p2 := (own_lt HO3.out.row e).1
                  omega
              have B5 : Below w1.heap.size w1 w5 := ((HB3.out).alloc (by omega) _).grown hgrow (by simp; omega) (fun k hk => by have := (own_lt HO3.out.row hk).1; omega)
              have s5 := hgrow.size
              simp at s5
              have eT : outRM t' (rs.take (i + 1)) = outRM t' (rs.take i) ++ [(xr, xc, (xd - 1), xg, xa, xn, xq)] := by
                rw [outRM_take t' rs i hir, ← HXr.out, HXo.out]
                congr 1
                rw [if_pos (show tallR (xr, xc, (xd - 1), xg, xa, xn, xq) = true from decide_eq_true hdp)]
              refine ⟨i + 1, a5, c5, m' + 1, by omega, by go_num, by rw [eT, List.length_append, ← HM'.out]; rfl, R5.setCell 2 (.slice a5 (m' + 1) c5), ?_, ?_, B5.setCell (p := ⟨w1.heap.size, 2, none⟩) (Nat.le_refl _) (.slice a5 (m' + 1) c5), by simp [World.setCell]; omega⟩
              · rw [eT]
                exact own_set ho5 _ _ (fun e => by have := (own_lt ho5.row e).1; simp at this; omega)
              · exact ⟨own_set hL5.1 _ _ (fun e => by have := (own_lt hL5.1.row e).1; simp at this; omega), hL5.2.setLow _ _ (by simp; omega)⟩
            case measure => simp [intOf]; omega
          · have d1' : t' < xr + xd := d2
            have HXo : Hid (outRw t' (xr, xc, xd, xg, xa, xn, xq) = (xr, xc, (xd - 1), xg, xa, xn, xq)) := by
              show outRw t' (xr, xc, xd, xg, xa, xn, xq) = _
              unfold outRw
              rw [if_neg (show ¬ t' < xr by omega), if_pos (show t' < xr + xd by omega)]
            go_upto_region 13 with fail
            have bD : Below wr.heap.size wr (w3.setCell ⟨wr.heap.size, 2, none⟩ (.int .i64 (xd - 1))) := bA.setCell (p := ⟨wr.heap.size, 2, none⟩) (Nat.le_refl _) _
            have RD : RowAt (w3.setCell ⟨wr.heap.size, 2, none⟩ (.int .i64 (xd - 1))) wr.heap.size #[.int .i64 xr, .int .i64 xc, .int .i64 (xd - 1), .int .i64 xg, .slice xa xn xq] 44 := RA.setCell 2 (.int .i64 (xd - 1))
            clear y0 y2 y5 y6 RA bA
            generalize (w3.setCell ⟨wr.heap.size, 2, none⟩ (.int .i64 (xd - 1))) = w4 at bD RD ⊢
            have s4 := bD.size
            have HT3 : Hid (RowAt w4 w1.heap.size #[.int .i64 (R - 1), .int .i64 C, .slice a' m' c'] 28) := HTb.out.below bD (by omega)
            have HO3 : Hid (OwnR w4 w2.heap.size (.slice a' m' c') (outRM t' (rs.take i))) := HO.out.below bD
            have HL3 : Hid (OwnT w4 v2.heap.size (.slice (some ⟨b, off, none⟩) N cl) rs l) := HL.out.below bD
            have HB3 : Hid (Below w1.heap.size w1 w4) := HB.out.trans (bD.mono (by omega))
            have u2 : w4.cell? ⟨wr.heap.size, 2, none⟩ = some (.int .i64 (xd - 1)) := RD.cell 2
            have hdp : ¬ 0 < (xd - 1) := by omega
            clear bD RD
            go_wp2_with fail
            go_roundw
            case rel =>
              have eT : outRM t' (rs.take (i + 1)) = outRM t' (rs.take i) := by
                rw [outRM_take t' rs i hir, ← HXr.out, HXo.out]
                rw [if_neg (show ¬ tallR (xr, xc, (xd - 1), xg, xa, xn, xq) = true from fun hh => hdp (of_decide_eq_true hh)), List.append_nil]
              exact ⟨i + 1, a', c', m', by omega, by go_num, by rw [eT]; exact HM'.out, HT3.out, by rw [eT]; exact HO3.out, HL3.out, HB3.out, by omega⟩
            case measure => simp [intOf]; omega
        · have d1' : ¬ t' < xr + xd := d2
          have HXo : Hid (outRw t' (xr, xc, xd, xg, xa, xn, xq) = (xr, xc, xd, xg, xa, xn, xq)) := by
            show outRw t' (xr, xc, xd, xg, xa, xn, xq) = _
            unfold outRw
            rw [if_neg (show ¬ t' < xr by omega), if_neg (show ¬ t' < xr + xd by omega)]
          go_upto_region 13 with fail
          obtain ⟨w4, bD, RD, e4⟩ : ∃ w4, Below wr.heap.size wr w4 ∧ RowAt w4 wr.heap.size #[.int .i64 xr, .int .i64 xc, .int .i64 xd, .int .i64 xg, .slice xa xn xq] 44 ∧ w4 = w3 := ⟨w3, bA, RA, rfl⟩
          subst e4
          clear y0 y2 y5 y6 RA bA
          have s4 := bD.size
          have HT3 : Hid (RowAt w4 w1.heap.size #[.int .i64 (R - 1), .int .i64 C, .slice a' m' c'] 28) := HTb.out.below bD (by omega)
          have HO3 : Hid (OwnR w4 w2.heap.size (.slice a' m' c') (outRM t' (rs.take i))) := HO.out.below bD
          have HL3 : Hid (OwnT w4 v2.heap.size (.slice (some ⟨b, off, none⟩) N cl) rs l) := HL.out.below bD
          have HB3 : Hid (Below w1.heap.size w1 w4) := HB.out.trans (bD.mono (by omega))
          have u2 : w4.cell? ⟨wr.heap.size, 2, none⟩ = some (.int .i64 xd) := RD.cell 2
          have u0 : w4.cell? ⟨wr.heap.size, 0, none⟩ = some (.int .i64 xr) := RD.cell 0
          have u1 : w4.cell? ⟨wr.heap.size, 1, none⟩ = some (.int .i64 xc) := RD.cell 1
          have u3 : w4.cell? ⟨wr.heap.size, 3, none⟩ = some (.int .i64 xg) := RD.cell 3
          have u4 : w4.cell? ⟨wr.heap.size, 4, none⟩ = some (.slice xa xn xq) := RD.cell 4
          have t2 : w4.cell? ⟨w1.heap.size, 2, none⟩ = some (.slice a' m' c') := HT3.out.cell 2
          have hci := HO3.out.rws.2.1
          have hcim := HO3.out.rws.2.2.1
          unfold maxLen at hcim
          have hdp : 0 < xd := by omega
          clear bD RD
          go_wp2_with (at_builtin; refine wpList_append_own _ rfl (.tmp 71) (.tmp 73) 26 rfl w2.heap.size 44 i0 _ 5 56 Try.underlying26 hi hz0 hz1 hz2 rfl (by decide) (.slice a' m' c') _ _ rfl (HO3.out.row.alloc _) ⟨w4.heap.size, 0, none⟩ 1 1 [.int .i64 xr, .int .i64 xc, .int .i64 xd, .int .i64 xg, .slice xa xn xq] rfl rfl (cell_five_new _ _ _ _ _ _ _) (five_oneCell _ _ _ _ _ _ _) (by unfold maxLen; omega) (by omega) (by simp; omega) ?_; intro v' w5 hown' hgrow _; obtain ⟨a5, c5, rfl, ho5, hb5⟩ := ownR_step (B := w2.heap.size) (w := w4) (s := (xr, xc, xd, xg, xa, xn, xq)) HO3.out (Below.refl _ _) (by omega) hown' hgrow; have R5 := RowAt.grown (HT3.out.alloc _) hgrow (fun e => by have := (own_lt HO3.out.row e).1; omega); have q2 : w5.cell? ⟨w1.heap.size, 2, none⟩ = some (.slice a' m' c') := R5.cell 2; have q3 := R5.frozen 2)
          go_roundw
          case rel =>
            have hb6 : Below w4.heap.size w4 (w4.alloc (.cells #[.int .i64 xr, .int .i64 xc, .int .i64 xd, .int .i64 xg, .slice xa xn xq] 44)) := (Below.refl _ _).alloc (Nat.le_refl _) _
            have hL5 : OwnT w5 v2.heap.size (.slice (some ⟨b, off, none⟩) N cl) rs l := by
              have hL4 := HL3.out.below hb6
              refine ⟨own_grown hL4.1 hgrow (fun g hg e => ?_), hL4.2.grown hgrow (fun k hk g hg e => ?_)⟩
              · have p1 := HLB.out g hg
                have p2 := (own_lt HO3.out.row e).1
                omega
              · have p1 := HLT.out k hk g hg
                have p2 := (own_lt HO3.out.row e).1
                omega
            have B5 : Below w1.heap.size w1 w5 := ((HB3.out).alloc (by omega) _).grown hgrow (by simp; omega) (fun k hk => by have := (own_lt HO3.out.row hk).1; omega)
            have s5 := hgrow.size
            simp at s5
            have eT : outRM t' (rs.take (i + 1)) = outRM t' (rs.take i) ++ [(xr, xc, xd, xg, xa, xn, xq)] := by
              rw [outRM_take t' rs i hir, ← HXr.out, HXo.out]
              congr 1
              rw [if_pos (show tallR (xr, xc, xd, xg, xa, xn, xq) = true from decide_eq_true hdp)]
            refine ⟨i + 1, a5, c5, m' + 1, by omega, by go_num, by rw [eT, List.length_append, ← HM'.out]; rfl, R5.setCell 2 (.slice a5 (m' + 1) c5), ?_, ?_, B5.setCell (p := ⟨w1.heap.size, 2, none⟩) (Nat.le_refl _) (.slice a5 (m' + 1) c5), by simp [World.setCell]; omega⟩
            · rw [eT]
              exact own_set ho5 _ _ (fun e => by have := (own_lt ho5.row e).1; simp at this; omega)
            · exact ⟨own_set hL5.1 _ _ (fun e => by have := (own_lt hL5.1.row e).1; simp at this; omega), hL5.2.setLow _ _ (by simp; omega)⟩
          case measure => simp [intOf]; omega
      · have e : i = N := by omega
        subst e
        have hT := HO.out
        have hm2 := HM'.out
        rw [List.take_of_length_le (by have := HRL.out; have := HNN.out; omega)] at hT hm2
        have HO1 : Hid (OwnR wr w2.heap.size (.slice a' m' c') (outRM t' rs)) := hT
        have HM2 : Hid (m' = (outRM t' rs).length) := hm2
        have k2 : wr.cell? ⟨w1.heap.size, 2, none⟩ = some (.slice a' m' c') := HTb.out.cell 2
        clear hT hm2
        go_upto_region 16 with (go_at_call 30; refine (l2Sort_any a' m' c' (outRM t' rs) _ HO1.out.rws (by omega)).mono ?_; rintro e w3 ⟨⟨a3, c3, rfl, ho3⟩, hb3⟩; have R3 := HTb.out.below hb3 (by omega); have q2 : w3.cell? ⟨w1.heap.size, 2, none⟩ = some (.slice a' m' c') := R3.cell 2; have q3 := R3.frozen 2)
        have sz3 := hb3.size
        have R4 : RowAt (w3.setCell ⟨w1.heap.size, 2, none⟩ (.slice a3 m' c3)) w1.heap.size #[.int .i64 (R - 1), .int .i64 C, .slice a3 m' c3] 28 := R3.setCell 2 (.slice a3 m' c3)
        have B4 : Below w1.heap.size w1 (w3.setCell ⟨w1.heap.size, 2, none⟩ (.slice a3 m' c3)) := (HB.out.trans (hb3.mono (by omega))).setCell (p := ⟨w1.heap.size, 2, none⟩) (Nat.le_refl _) _
        have O4 : OwnR (w3.setCell ⟨w1.heap.size, 2, none⟩ (.slice a3 m' c3)) w2.heap.size (.slice a3 m' c3) (sortR (outRM t' rs)) := own_set (own_less ho3 (by omega)) _ _ (fun e => by have := (own_lt ho3.row e).1; simp at this; omega)
        have T4 : TxtOwn (w3.setCell ⟨w1.heap.size, 2, none⟩ (.slice a3 m' c3)) v2.heap.size (Value.slice a3 m' c3).ownBlock (sortR (outRM t' rs)) (outL t' l) := by
          have := (((HL.out.2.out t').sort).below hb3).setLow ⟨w1.heap.size, 2, none⟩ (.slice a3 m' c3) (by simp; omega)
          exact this.anew O4
        have HML : Hid (m' = (outL t' l).length) := by
          show m' = (outL t' l).length
          rw [HM2.out, outM_eq_len t' HL.out.2]
          exact (sortC_perm _).length_eq.symm
        clear q2 q3 R3 k2 ho3
        generalize (w3.setCell ⟨w1.heap.size, 2, none⟩ (.slice a3 m' c3)) = w4 at R4 B4 O4 T4 ⊢
        have HO4 : Hid (OwnR w4 w2.heap.size (.slice a3 m' c3) (sortR (outRM t' rs))) := O4
        have HT4 : Hid (TxtOwn w4 v2.heap.size (Value.slice a3 m' c3).ownBlock (sortR (outRM t' rs)) (outL t' l)) := T4
        have HB4 : Hid (Below w1.heap.size w1 w4) := B4
        have k0 : w4.cell? ⟨w1.heap.size, 0, none⟩ = some (.int .i64 (R - 1)) := R4.cell 0
        have k1 : w4.cell? ⟨w1.heap.size, 1, none⟩ = some (.int .i64 C) := R4.cell 1
        have k2 : w4.cell? ⟨w1.heap.size, 2, none⟩ = some (.slice a3 m' c3) := R4.cell 2
        have HG4 : Hid (RowAt w4 (w.heap.size + 1) #[.int .i64 0, .int .i64 0, .slice none 0 0] 28) := HG2.out.below B4 (by omega)
        clear O4 T4 B4 R4
        go_wp2_with (refine wpList_store_row rfl 28 (.tmp 4) (.tmp 80) rfl (w.heap.size + 1) #[.int .i64 (R - 1), .int .i64 C, .slice a3 m' c3] rfl rfl 28 _ HG4.out tab_info rfl (cells3_one _ _ _ _ _) ?_)
        refine bodyPost_ret (v := .tuple #[.agg #[.int .i64 (R - 1), .int .i64 C, .slice a3 m' c3], .bool true]) ?_ rfl ⟨.inr ⟨HYB.out, a3, c3, sortR (outRM t' rs), by rw [← HML.out], ?_⟩, below_row ((HB0.out.trans (hb1.mono s0)).trans (HB4.out.mono (by omega))) (by omega) _⟩
        · rw [results_cell_tmp rfl]
          simp [asAddr, Result.andThen, run_tabOf (RowAt.setRow HG4.out #[.int .i64 (R - 1), .int .i64 C, .slice a3 m' c3])]
        · rw [← HML.out]
          exact OwnT.less (B' := v2.heap.size) ⟨own_row (own_less HO4.out (by omega)) _ _ (fun e => by have := (own_lt HO4.out.row e).1; omega), HT4.out.rowLow _ _ (by omega)⟩ (by omega)
end Go.Proofs.Yteghidjbcpmfbaa
namespace Go.Proofs.Yteghidjbcpmfbaa
open Go.RowKit

set_option maxRecDepth 100000 in
set_option maxHeartbeats 8000000 in
theorem specTableColOut_any (R C t' : Int) (a : Option Addr) (n cap : Nat) (l : List Cl) (w : World) (h : Tab w a n cap l) :
    Calls Try.prog 20 #[.agg #[.int .i64 R, .int .i64 C, .slice a n cap], .int .i64 t'] w fun z w' => TabRes w.heap.size (rowOutB (tX R C l) (tY R C l) (tL R C l) t') (tY R C l) ((tX R C l) - 1) (turnL (outL t' (tL R C l))) z w' ∧ Below w.heap.size w w' := by
  have H : Hid (Tab w a n cap l) := h
  clear h
  go_enter Try.func20, Try.ntmps20
  go_upto_region 1 with fail
  have B0 : Below w.heap.size w ((w.alloc (.cells #[.int .i64 R, .int .i64 C, .slice a n cap] 28)).alloc (.cells #[.int .i64 0, .int .i64 0, .slice none 0 0] 28)) := ((Below.refl _ _).alloc (Nat.le_refl _) _).alloc (by simp) _
  have G0 : RowAt ((w.alloc (.cells #[.int .i64 R, .int .i64 C, .slice a n cap] 28)).alloc (.cells #[.int .i64 0, .int .i64 0, .slice none 0 0] 28)) w.heap.size #[.int .i64 R, .int .i64 C, .slice a n cap] 28 := (rowAt_new w _ _).alloc _
  have G1 : RowAt ((w.alloc (.cells #[.int .i64 R, .int .i64 C, .slice a n cap] 28)).alloc (.cells #[.int .i64 0, .int .i64 0, .slice none 0 0] 28)) (w.heap.size + 1) #[.int .i64 0, .int .i64 0, .slice none 0 0] 28 := by
    have := rowAt_new (w.alloc (.cells #[.int .i64 R, .int .i64 C, .slice a n cap] 28)) #[.int .i64 0, .int .i64 0, .slice none 0 0] 28
    simpa using this
  have HT : Hid (Tab ((w.alloc (.cells #[.int .i64 R, .int .i64 C, .slice a n cap] 28)).alloc (.cells #[.int .i64 0, .int .i64 0, .slice none 0 0] 28)) a n cap l) := H.out.below B0
  generalize ((w.alloc (.cells #[.int .i64 R, .int .i64 C, .slice a n cap] 28)).alloc (.cells #[.int .i64 0, .int .i64 0, .slice none 0 0] 28)) = v at B0 G0 G1 HT ⊢
  have k0 : v.cell? ⟨w.heap.size, 0, none⟩ = some (.int .i64 R) := G0.cell 0
  have k1 : v.cell? ⟨w.heap.size, 1, none⟩ = some (.int .i64 C) := G0.cell 1
  have k2 : v.cell? ⟨w.heap.size, 2, none⟩ = some (.slice a n cap) := G0.cell 2
  have z1 := G1.lt
  have s0 := B0.size
  have HG1 : Hid (RowAt v (w.heap.size + 1) #[.int .i64 0, .int .i64 0, .slice none 0 0] 28) := G1
  have HB0 : Hid (Below w.heap.size w v) := B0
  clear G0 G1 B0
  go_wp2_with fail
  refine (specTableTurn_any R C a n cap l _ HT.out).mono ?_
  intro e w1 hr
  obtain ⟨⟨x, y, a1, n1, c1, l1, rs1, rfl, ho1, hx, hy, hl⟩, hb1⟩ := tRes_of hr
  have s1 := hb1.size
  have HO1 : Hid (OwnT w1 v.heap.size (.slice a1 n1 c1) rs1 l1) := ho1
  have HXY : Hid (x = tX R C l ∧ y = tY R C l ∧ l1 = tL R C l) := ⟨hx, hy, hl⟩
  clear hr ho1 hx hy hl k0 k1 k2
  go_wp2_with fail
  refine (specTableRowOut_any x y t' a1 n1 c1 l1 _ HO1.out.tab).mono ?_
  rintro e w2 ⟨hres, hb2⟩
  have s2 := hb2.size
  have B2 : Below v.heap.size v w2 := hb1.trans (hb2.mono s1)
  rcases hres with ⟨hno, rfl⟩ | ⟨hyes, a2, c2, rs2, rfl, ho2⟩
  · have HNB : Hid (rowOutB (tX R C l) (tY R C l) (tL R C l) t' = false) := by
      show rowOutB (tX R C l) (tY R C l) (tL R C l) t' = false
      rw [← HXY.out.1, ← HXY.out.2.1, ← HXY.out.2.2]
      exact hno
    clear hno
    go_upto_region 2 with fail
    have B3 : Below v.heap.size v (w2.alloc (.cells #[.int .i64 0, .int .i64 0, .slice none 0 0] 28)) := B2.alloc (by omega) _
    have W3 : RowAt (w2.alloc (.cells #[.int .i64 0, .int .i64 0, .slice none 0 0] 28)) w2.heap.size #[.int .i64 0, .int .i64 0, .slice none 0 0] 28 := rowAt_new _ _ _
    generalize (w2.alloc (.cells #[.int .i64 0, .int .i64 0, .slice none 0 0] 28)) = v3 at B3 W3 ⊢
    have s3 := B3.size
    have HG3 : Hid (RowAt v3 (w.heap.size + 1) #[.int .i64 0, .int .i64 0, .slice none 0 0] 28) := HG1.out.below B3 z1
    go_wp2_with (refine wpList_store_row rfl 28 (.tmp 4) (.tmp 17) rfl (w.heap.size + 1) #[.int .i64 0, .int .i64 0, .slice none 0 0] rfl rfl 28 _ HG3.out tab_info rfl (cells3_one _ _ _ _ _) ?_)
    refine bodyPost_ret (v := .tuple #[.agg #[.int .i64 0, .int .i64 0, .slice none 0 0], .bool false]) ?_ rfl ⟨.inl ⟨HNB.out, rfl⟩, below_row (HB0.out.trans (B3.mono s0)) (by omega) _⟩
    rw [results_cell_tmp rfl]
    simp [asAddr, Result.andThen, run_tabOf (RowAt.setRow HG3.out #[.int .i64 0, .int .i64 0, .slice none 0 0])]
  · have HYB : Hid (rowOutB x y l1 t' = true) := hyes
    obtain ⟨L2, HL2⟩ : ∃ L2, Hid ((outL t' l1) = L2) := ⟨_, rfl⟩
    obtain ⟨N2, HN2⟩ : ∃ N2, Hid (L2.length = N2) := ⟨_, rfl⟩
    obtain ⟨X2, HX2⟩ : ∃ X2, Hid ((x - 1) = X2) := ⟨_, rfl⟩
    have HOK : Hid (okB X2 y L2 = true) := by
      show okB X2 y L2 = true
      rw [← HL2.out, ← HX2.out]
      exact ok_out hyes
    rw [HL2.out, HN2.out] at ho2
    rw [HL2.out, HN2.out, HX2.out]
    clear hyes
    go_upto_region 2 with fail
    have B3 : Below v.heap.size v (w2.alloc (.cells #[.int .i64 X2, .int .i64 y, .slice a2 N2 c2] 28)) := B2.alloc (by omega) _
    have W3 : RowAt (w2.alloc (.cells #[.int .i64 X2, .int .i64 y, .slice a2 N2 c2] 28)) w2.heap.size #[.int .i64 X2, .int .i64 y, .slice a2 N2 c2] 28 := rowAt_new _ _ _
    have O3 : Hid (OwnT (w2.alloc (.cells #[.int .i64 X2, .int .i64 y, .slice a2 N2 c2] 28)) w1.heap.size (.slice a2 N2 c2) rs2 L2) := ho2.below ((Below.refl _ _).alloc (Nat.le_refl _) _)
    generalize (w2.alloc (.cells #[.int .i64 X2, .int .i64 y, .slice a2 N2 c2] 28)) = v3 at B3 W3 O3 ⊢
    have s3 := B3.size
    have u0 : v3.cell? ⟨w2.heap.size, 0, none⟩ = some (.int .i64 X2) := W3.cell 0
    have u1 : v3.cell? ⟨w2.heap.size, 1, none⟩ = some (.int .i64 y) := W3.cell 1
    have u2 : v3.cell? ⟨w2.heap.size, 2, none⟩ = some (.slice a2 N2 c2) := W3.cell 2
    have HG3 : Hid (RowAt v3 (w.heap.size + 1) #[.int .i64 0, .int .i64 0, .slice none 0 0] 28) := HG1.out.below B3 z1
    clear ho2
    go_wp2_with fail
    refine (specTableTurn_any X2 y a2 N2 c2 L2 _ O3.out.tab).mono ?_
    rintro e w4 ⟨(⟨hbad, -⟩ | ⟨-, a4, c4, rs4, rfl, ho4⟩), hb4⟩
    case inl =>
      rw [HOK.out] at hbad
      exact absurd hbad (by simp)
    rw [HN2.out] at ho4 ⊢
    have s4 := hb4.size
    have HO4 : Hid (OwnT w4 v3.heap.size (.slice a4 N2 c4) rs4 (turnL L2)) := ho4
    have HG4 : Hid (RowAt w4 (w.heap.size + 1) #[.int .i64 0, .int .i64 0, .slice none 0 0] 28) := HG3.out.below hb4 (by omega)
    clear ho4
    go_wp2_with (refine wpList_store_row rfl 28 (.tmp 4) (.tmp 19) rfl (w.heap.size + 1) #[.int .i64 y, .int .i64 X2, .slice a4 N2 c4] rfl rfl 28 _ HG4.out tab_info rfl (cells3_one _ _ _ _ _) ?_)
    have e1 : turnL (outL t' (tL R C l)) = turnL L2 := by rw [← HL2.out, HXY.out.2.2]
    have e2 : (turnL (outL t' (tL R C l))).length = N2 := by rw [e1, turnL_len, HN2.out]
    refine bodyPost_ret (v := .tuple #[.agg #[.int .i64 y, .int .i64 X2, .slice a4 N2 c4], .bool true]) ?_ rfl ⟨.inr ⟨?_, a4, c4, rs4, ?_, ?_⟩, below_row ((HB0.out.trans (B3.mono s0)).trans (hb4.mono (by omega))) (by omega) _⟩
    · rw [results_cell_tmp rfl]
      simp [asAddr, Result.andThen, run_tabOf (RowAt.setRow HG4.out #[.int .i64 y, .int .i64 X2, .slice a4 N2 c4])]
    · rw [← HXY.out.1, ← HXY.out.2.1, ← HXY.out.2.2]
      exact HYB.out
    · rw [e2, ← HXY.out.1, ← HXY.out.2.1, HX2.out]
    · rw [e2, e1]
      exact OwnT.less (B' := v3.heap.size) ⟨own_row HO4.out.1 _ _ (fun e => by have := (own_lt HO4.out.1.row e).1; omega), HO4.out.2.rowLow _ _ (by omega)⟩ (by omega)
end Go.Proofs.Yteghidjbcpmfbaa
namespace Go.Proofs.Yteghidjbcpmfbaa
open Go.RowKit

set_option maxRecDepth 100000 in
set_option maxHeartbeats 8000000 in
theorem lawTableColOut_walk (R C : Int) (a : Option Addr) (n cap : Nat) (l : List Cl) (t' : Int) (w : World) (h : Tab w a n cap l) (_ : (Lit.int .i64 t').wf = true) :
    Calls Try.prog 6 #[.agg #[.int .i64 R, .int .i64 C, .slice a n cap], .int .i64 t'] w fun e w' => e = .returned (.bool true) ∧ Below w.heap.size w w' := by
  have H : Hid (Tab w a n cap l) := h
  clear h
  have hsm := @small_colOut R C l t'
  go_enter Try.func6, Try.ntmps6
  go_upto_region 1 with fail
  have B0 : Below w.heap.size w (w.alloc (.cells #[.int .i64 R, .int .i64 C, .slice a n cap] 24)) := (Below.refl _ _).alloc (Nat.le_refl _) _
  have G2 : RowAt (w.alloc (.cells #[.int .i64 R, .int .i64 C, .slice a n cap] 24)) w.heap.size #[.int .i64 R, .int .i64 C, .slice a n cap] 24 := rowAt_new w _ _
  generalize (w.alloc (.cells #[.int .i64 R, .int .i64 C, .slice a n cap] 24)) = v0 at B0 G2 ⊢
  have k0 : v0.cell? ⟨w.heap.size, 0, none⟩ = some (.int .i64 R) := G2.cell 0
  have k1 : v0.cell? ⟨w.heap.size, 1, none⟩ = some (.int .i64 C) := G2.cell 1
  have k2 : v0.cell? ⟨w.heap.size, 2, none⟩ = some (.slice a n cap) := G2.cell 2
  have z0 := G2.lt
  have HG : Hid (RowAt v0 w.heap.size #[.int .i64 R, .int .i64 C, .slice a n cap] 24) := G2
  have T0 : Hid (Tab v0 a n cap l) := H.out.below B0
  clear G2
  go_wp2_with fail
  refine (szTable_any R C a n cap l _ T0.out).mono ?_
  rintro e w1 ⟨(rfl | ⟨hle, rfl⟩), hb1⟩
  · go_wp2_with fail
    go_ret
    exact ⟨rfl, B0.trans (hb1.mono B0.size)⟩
  have T1 : Hid (Tab w1 a n cap l) := T0.out.below hb1
  have s0 := B0.size
  have s1 := hb1.size
  have HB1 : Hid (Below w.heap.size w w1) := B0.trans (hb1.mono s0)
  have j0 := (hb1.cell (p := ⟨w.heap.size, 0, none⟩) z0).trans k0
  have j1 := (hb1.cell (p := ⟨w.heap.size, 1, none⟩) z0).trans k1
  have j2 := (hb1.cell (p := ⟨w.heap.size, 2, none⟩) z0).trans k2
  have HG1 : Hid (RowAt w1 w.heap.size #[.int .i64 R, .int .i64 C, .slice a n cap] 24) := HG.out.below hb1 z0
  have n0 : ¬ (1048576 - (l.length : Int) - (totT l : Int)) < 0 := by omega
  have z1 : w.heap.size < w1.heap.size := by omega
  clear k0 k1 k2 HG hb1 B0
  go_wp2_with fail
  refine (toTable_any R C a n cap l _ T1.out hle).mono ?_
  rintro e w2 ⟨⟨b2, r2, -, rfl, ho2⟩, hb2⟩
  have s2 := hb2.size
  go_wp2_with fail
  refine (specTableColOut_any R C t' _ _ _ l _ ho2.tab).mono ?_
  intro e w3 hr
  obtain ⟨⟨x1, y1, a1, n1, c1, l1, g1, rfl, hR1⟩, hb3⟩ := fRes_of hr
  clear hr
  have s3 := hb3.size
  have b13 : Below w1.heap.size w1 w3 := hb2.trans (hb3.mono s2)
  clear hb2 hb3 ho2 j0 j1 j2
  go_upto_region 6 with fail
  have W1 : RowAt (w3.alloc (.cells #[.int .i64 x1, .int .i64 y1, .slice a1 n1 c1] 28)) w3.heap.size #[.int .i64 x1, .int .i64 y1, .slice a1 n1 c1] 28 := rowAt_new _ _ _
  have T1' : Tab (w3.alloc (.cells #[.int .i64 x1, .int .i64 y1, .slice a1 n1 c1] 28)) a1 n1 c1 l1 := by
    obtain ⟨rs, ho⟩ := hR1.1
    exact ho.tab.below ((Below.refl _ _).alloc (Nat.le_refl _) _)
  have B3 : Below w1.heap.size w1 (w3.alloc (.cells #[.int .i64 x1, .int .i64 y1, .slice a1 n1 c1] 28)) := b13.alloc (by omega) _
  generalize (w3.alloc (.cells #[.int .i64 x1, .int .i64 y1, .slice a1 n1 c1] 28)) = v3 at W1 T1' B3 ⊢
  have zw := W1.lt
  have s4 := B3.size
  have z3 : w.heap.size < v3.heap.size := by omega
  have HG3 : Hid (RowAt v3 w.heap.size #[.int .i64 R, .int .i64 C, .slice a n cap] 24) := HG1.out.below B3 z1
  have T3 : Hid (Tab v3 a n cap l) := T1.out.below B3
  have HB3 : Hid (Below w.heap.size w v3) := HB1.out.trans (B3.mono (by omega))
  have HT1 : Hid (Tab v3 a1 n1 c1 l1) := T1'
  have HX1 : Hid (x1 = (if rowOutB (tX R C l) (tY R C l) (tL R C l) t' then (tY R C l) else 0) ∧ y1 = (if rowOutB (tX R C l) (tY R C l) (tL R C l) t' then (tX R C l - 1) else 0) ∧ l1 = (if rowOutB (tX R C l) (tY R C l) (tL R C l) t' then turnL (outL t' (tL R C l)) else []) ∧ g1 = rowOutB (tX R C l) (tY R C l) (tL R C l) t') := hR1.2
  obtain ⟨hl1, hl2⟩ := fRes_small hR1 hsm
  have HW1 : Hid (RowAt v3 w3.heap.size #[.int .i64 x1, .int .i64 y1, .slice a1 n1 c1] 28) := W1
  clear hR1 W1 T1' B3 b13 HG1 T1 HB1
  have i0 : v3.cell? ⟨w.heap.size, 0, none⟩ = some (.int .i64 R) := (HG3.out).cell 0
  have i1 : v3.cell? ⟨w.heap.size, 1, none⟩ = some (.int .i64 C) := (HG3.out).cell 1
  have i2 : v3.cell? ⟨w.heap.size, 2, none⟩ = some (.slice a n cap) := (HG3.out).cell 2
  go_wp2_with fail
  refine (toTable_any R C a n cap l _ T3.out hle).mono ?_
  rintro e w4 ⟨⟨b4, r4, -, rfl, ho4⟩, hb4⟩
  clear i0 i1 i2
  have s5 := hb4.size
  go_upto_region 7 with fail
  have X4 : RowAt (w4.alloc (.cells #[.int .i64 R, .int .i64 C, .slice (some ⟨b4, 0, none⟩) n n] 28)) w4.heap.size #[.int .i64 R, .int .i64 C, .slice (some ⟨b4, 0, none⟩) n n] 28 := rowAt_new _ _ _
  have O4 : OwnT (w4.alloc (.cells #[.int .i64 R, .int .i64 C, .slice (some ⟨b4, 0, none⟩) n n] 28)) v3.heap.size (.slice (some ⟨b4, 0, none⟩) n n) r4 l := ho4.below ((Below.refl _ _).alloc (Nat.le_refl _) _)
  have B4 : Below v3.heap.size v3 (w4.alloc (.cells #[.int .i64 R, .int .i64 C, .slice (some ⟨b4, 0, none⟩) n n] 28)) := hb4.alloc s5 _
  generalize (w4.alloc (.cells #[.int .i64 R, .int .i64 C, .slice (some ⟨b4, 0, none⟩) n n] 28)) = v4 at X4 O4 B4 ⊢
  have zx := X4.lt
  have s6 := B4.size
  have HX4 : Hid (RowAt v4 w4.heap.size #[.int .i64 R, .int .i64 C, .slice (some ⟨b4, 0, none⟩) n n] 28) := X4
  have HO4 : Hid (OwnT v4 v3.heap.size (.slice (some ⟨b4, 0, none⟩) n n) r4 l) := O4
  have HB4 : Hid (Below v3.heap.size v3 v4) := B4
  clear X4 O4 B4 ho4 hb4
  have e0 : v4.cell? ⟨w4.heap.size, 0, none⟩ = some (.int .i64 R) := (HX4.out).cell 0
  have e1 : v4.cell? ⟨w4.heap.size, 1, none⟩ = some (.int .i64 C) := (HX4.out).cell 1
  have e2 : v4.cell? ⟨w4.heap.size, 2, none⟩ = some (.slice (some ⟨b4, 0, none⟩) n n) := (HX4.out).cell 2
  go_wp2_with fail
  refine (implTableColOut_any R C t' _ _ _ l _ HO4.out.tab).mono ?_
  intro e w5 hr
  obtain ⟨⟨x2, y2, a2, n2, c2, l2, g2, rfl, hR2⟩, hb5⟩ := fRes_of hr
  clear hr e0 e1 e2
  obtain rfl : x2 = x1 := hR2.2.1.trans HX1.out.1.symm
  obtain rfl : y2 = y1 := hR2.2.2.1.trans HX1.out.2.1.symm
  obtain rfl : l2 = l1 := hR2.2.2.2.1.trans HX1.out.2.2.1.symm
  obtain rfl : g2 = g1 := hR2.2.2.2.2.trans HX1.out.2.2.2.symm
  obtain ⟨rs2, ho2⟩ := hR2.1
  have nb : (g2 != g2) = false := by simp
  clear hR2
  have s7 := hb5.size
  go_upto_region 8 with fail
  have W5 : RowAt (w5.alloc (.cells #[.int .i64 x2, .int .i64 y2, .slice a2 n2 c2] 28)) w5.heap.size #[.int .i64 x2, .int .i64 y2, .slice a2 n2 c2] 28 := rowAt_new _ _ _
  have O5 : OwnT (w5.alloc (.cells #[.int .i64 x2, .int .i64 y2, .slice a2 n2 c2] 28)) v4.heap.size (.slice a2 n2 c2) rs2 l2 := ho2.below ((Below.refl _ _).alloc (Nat.le_refl _) _)
  have B5 : Below v4.heap.size v4 (w5.alloc (.cells #[.int .i64 x2, .int .i64 y2, .slice a2 n2 c2] 28)) := hb5.alloc s7 _
  generalize (w5.alloc (.cells #[.int .i64 x2, .int .i64 y2, .slice a2 n2 c2] 28)) = v5 at W5 O5 B5 ⊢
  have zg := W5.lt
  have s8 := B5.size
  have HG5 : Hid (RowAt v5 w5.heap.size #[.int .i64 x2, .int .i64 y2, .slice a2 n2 c2] 28) := W5
  have HO5 : Hid (OwnT v5 v4.heap.size (.slice a2 n2 c2) rs2 l2) := O5
  have HX5 : Hid (RowAt v5 w4.heap.size #[.int .i64 R, .int .i64 C, .slice (some ⟨b4, 0, none⟩) n n] 28) := HX4.out.below B5 zx
  have HP5 : Hid (OwnT v5 v3.heap.size (.slice (some ⟨b4, 0, none⟩) n n) r4 l) := HO4.out.below B5
  have HB5 : Hid (Below v3.heap.size v3 v5) := HB4.out.trans (B5.mono s6)
  clear W5 O5 B5 ho2 hb5
  have p0 : v5.cell? ⟨w5.heap.size, 0, none⟩ = some (.int .i64 x2) := (HG5.out).cell 0
  have p1 : v5.cell? ⟨w5.heap.size, 1, none⟩ = some (.int .i64 y2) := (HG5.out).cell 1
  have p2 : v5.cell? ⟨w5.heap.size, 2, none⟩ = some (.slice a2 n2 c2) := (HG5.out).cell 2
  have q0 : v5.cell? ⟨w3.heap.size, 0, none⟩ = some (.int .i64 x2) := (HW1.out.below HB5.out zw).cell 0
  have q1 : v5.cell? ⟨w3.heap.size, 1, none⟩ = some (.int .i64 y2) := (HW1.out.below HB5.out zw).cell 1
  have q2 : v5.cell? ⟨w3.heap.size, 2, none⟩ = some (.slice a1 n1 c1) := (HW1.out.below HB5.out zw).cell 2
  go_wp2_with fail
  refine (eqTable_same x2 y2 _ _ _ l2 _ _ _ _ HO5.out.tab (HT1.out.below HB5.out)).mono ?_
  rintro e w6 ⟨rfl, hb6⟩
  have s9 := hb6.size
  clear p0 p1 p2 q0 q1 q2
  have HB6 : Hid (Below v3.heap.size v3 w6) := HB5.out.trans (hb6.mono (by omega))
  have HG6 : Hid (RowAt w6 w5.heap.size #[.int .i64 x2, .int .i64 y2, .slice a2 n2 c2] 28) := HG5.out.below hb6 zg
  have HX6 : Hid (RowAt w6 w4.heap.size #[.int .i64 R, .int .i64 C, .slice (some ⟨b4, 0, none⟩) n n] 28) := HX5.out.below hb6 (by omega)
  have HO6 : Hid (OwnT w6 v4.heap.size (.slice a2 n2 c2) rs2 l2) := HO5.out.below hb6
  have HP6 : Hid (OwnT w6 v3.heap.size (.slice (some ⟨b4, 0, none⟩) n n) r4 l) := HP5.out.below hb6
  clear hb6
  have e0 : w6.cell? ⟨w4.heap.size, 0, none⟩ = some (.int .i64 R) := (HX6.out).cell 0
  have e1 : w6.cell? ⟨w4.heap.size, 1, none⟩ = some (.int .i64 C) := (HX6.out).cell 1
  have e2 : w6.cell? ⟨w4.heap.size, 2, none⟩ = some (.slice (some ⟨b4, 0, none⟩) n n) := (HX6.out).cell 2
  have i0 : w6.cell? ⟨w.heap.size, 0, none⟩ = some (.int .i64 R) := (HG3.out.below HB6.out z3).cell 0
  have i1 : w6.cell? ⟨w.heap.size, 1, none⟩ = some (.int .i64 C) := (HG3.out.below HB6.out z3).cell 1
  have i2 : w6.cell? ⟨w.heap.size, 2, none⟩ = some (.slice a n cap) := (HG3.out.below HB6.out z3).cell 2
  have y6 : w.heap.size < w6.heap.size := by omega
  have z6 : w4.heap.size < w6.heap.size := by omega
  go_wp2_with fail
  go_region_held3 (fun w' => w'.cell? ⟨w.heap.size, 0, none⟩ = some (.int .i64 R) ∧ w'.cell? ⟨w.heap.size, 1, none⟩ = some (.int .i64 C) ∧ w'.cell? ⟨w.heap.size, 2, none⟩ = some (.slice a n cap) ∧ w'.cell? ⟨w4.heap.size, 0, none⟩ = some (.int .i64 R) ∧ w'.cell? ⟨w4.heap.size, 1, none⟩ = some (.int .i64 C) ∧ w'.cell? ⟨w4.heap.size, 2, none⟩ = some (.slice (some ⟨b4, 0, none⟩) n n))
    (first
      | go_keep
      | (go_split_ands
         refine ⟨?_, ?_, ?_, ?_, ?_, ?_⟩
         · (rw [hb8.cell (p := ⟨w.heap.size, 0, none⟩) (by have := hb7.size; simp at this; show w.heap.size < _; omega)]; assumption)
         · (rw [hb8.cell (p := ⟨w.heap.size, 1, none⟩) (by have := hb7.size; simp at this; show w.heap.size < _; omega)]; assumption)
         · (rw [hb8.cell (p := ⟨w.heap.size, 2, none⟩) (by have := hb7.size; simp at this; show w.heap.size < _; omega)]; assumption)
         · (rw [hb8.cell (p := ⟨w4.heap.size, 0, none⟩) (by have := hb7.size; simp at this; show w4.heap.size < _; omega)]; assumption)
         · (rw [hb8.cell (p := ⟨w4.heap.size, 1, none⟩) (by have := hb7.size; simp at this; show w4.heap.size < _; omega)]; assumption)
         · (rw [hb8.cell (p := ⟨w4.heap.size, 2, none⟩) (by have := hb7.size; simp at this; show w4.heap.size < _; omega)]; assumption))
      | (go_split_ands
         refine ⟨?_, ?_, ?_, ?_, ?_, ?_⟩
         · (rw [hb7.cell (p := ⟨w.heap.size, 0, none⟩) (by simpa using y6)]; assumption)
         · (rw [hb7.cell (p := ⟨w.heap.size, 1, none⟩) (by simpa using y6)]; assumption)
         · (rw [hb7.cell (p := ⟨w.heap.size, 2, none⟩) (by simpa using y6)]; assumption)
         · (rw [hb7.cell (p := ⟨w4.heap.size, 0, none⟩) (by simpa using z6)]; assumption)
         · (rw [hb7.cell (p := ⟨w4.heap.size, 1, none⟩) (by simpa using z6)]; assumption)
         · (rw [hb7.cell (p := ⟨w4.heap.size, 2, none⟩) (by simpa using z6)]; assumption)))
    ((first
      | (go_at_call 11; refine (toTable_any R C a n cap l _ ((T3.out.below HB6.out).below (Below.refl _ _).drew) hle).mono ?_; rintro e w7 ⟨⟨b7, r7, -, rfl, ho7⟩, hb7⟩)
      | (go_at_call 13; refine (eqTable_same R C _ _ _ l _ _ _ _ ((HP6.out.tab.below (Below.refl _ _).drew).below hb7) ho7.tab).mono ?_; rintro e w8 ⟨rfl, hb8⟩)))
  have s10 := hb7.size
  simp only [World.size_drew] at s10
  have s11 := hb8.size
  have b68 : Below w6.heap.size w6 w8 := ((Below.refl w6.heap.size w6).drew.trans (hb7.mono (by simp only [World.size_drew]; omega))).trans (hb8.mono (by omega))
  clear e0 e1 e2 i0 i1 i2
  have HB8 : Hid (Below v3.heap.size v3 w8) := HB6.out.trans (b68.mono (by omega))
  have HG8 : Hid (RowAt w8 w5.heap.size #[.int .i64 x2, .int .i64 y2, .slice a2 n2 c2] 28) := HG6.out.below b68 (by omega)
  have HX8 : Hid (RowAt w8 w4.heap.size #[.int .i64 R, .int .i64 C, .slice (some ⟨b4, 0, none⟩) n n] 28) := HX6.out.below b68 (by omega)
  have HO8 : Hid (OwnT w8 v4.heap.size (.slice a2 n2 c2) rs2 l2) := HO6.out.below b68
  have HP8 : Hid (OwnT w8 v3.heap.size (.slice (some ⟨b4, 0, none⟩) n n) r4 l) := HP6.out.below b68
  clear hb7 hb8 ho7 b68
  have e0 : w8.cell? ⟨w4.heap.size, 0, none⟩ = some (.int .i64 R) := (HX8.out).cell 0
  have e1 : w8.cell? ⟨w4.heap.size, 1, none⟩ = some (.int .i64 C) := (HX8.out).cell 1
  have e2 : w8.cell? ⟨w4.heap.size, 2, none⟩ = some (.slice (some ⟨b4, 0, none⟩) n n) := (HX8.out).cell 2
  go_wp2_with fail
  refine (markTable_over R C _ n n r4 l 1 v3.heap.size v4.heap.size _ HP8.out (fun g hg => (own_lt HO4.out.1.row hg).2) (fun k hk g hg => HO4.out.2.blockLt k hk g hg) (by omega) (by omega) (by omega) (by omega)).mono ?_
  rintro e w9 ⟨rfl, -, hb9, hs9, hov⟩
  have s12 := hb9.size
  clear e0 e1 e2
  have HB9 : Hid (Below v3.heap.size v3 w9) := HB8.out.trans hb9
  have HG9 : Hid (RowAt w9 w5.heap.size #[.int .i64 x2, .int .i64 y2, .slice a2 n2 c2] 28) := hs9 _ _ HG8.out
  have HO9 : Hid (OwnT w9 v4.heap.size (.slice a2 n2 c2) rs2 l2) := HO8.out.over (Nat.le_refl _) hov
  clear hb9 hs9 hov
  obtain ⟨K, HK⟩ : ∃ K, Hid (kAt 1 l l.length = K) := ⟨_, rfl⟩
  have kge : 0 ≤ K := by rw [← HK.out]; exact kAt_ge 1 l _ (by omega)
  rw [HK.out]
  have nk : ¬ K < 0 := by omega
  have p0 : w9.cell? ⟨w5.heap.size, 0, none⟩ = some (.int .i64 x2) := (HG9.out).cell 0
  have p1 : w9.cell? ⟨w5.heap.size, 1, none⟩ = some (.int .i64 y2) := (HG9.out).cell 1
  have p2 : w9.cell? ⟨w5.heap.size, 2, none⟩ = some (.slice a2 n2 c2) := (HG9.out).cell 2
  have q0 : w9.cell? ⟨w3.heap.size, 0, none⟩ = some (.int .i64 x2) := (HW1.out.below HB9.out zw).cell 0
  have q1 : w9.cell? ⟨w3.heap.size, 1, none⟩ = some (.int .i64 y2) := (HW1.out.below HB9.out zw).cell 1
  have q2 : w9.cell? ⟨w3.heap.size, 2, none⟩ = some (.slice a1 n1 c1) := (HW1.out.below HB9.out zw).cell 2
  go_wp2_with fail
  refine (eqTable_same x2 y2 _ _ _ l2 _ _ _ _ HO9.out.tab (HT1.out.below HB9.out)).mono ?_
  rintro e w10 ⟨rfl, hb10⟩
  have s13 := hb10.size
  clear p0 p1 p2 q0 q1 q2
  have HB10 : Hid (Below v3.heap.size v3 w10) := HB9.out.trans (hb10.mono (by omega))
  have HG10 : Hid (RowAt w10 w5.heap.size #[.int .i64 x2, .int .i64 y2, .slice a2 n2 c2] 28) := HG9.out.below hb10 (by omega)
  have HO10 : Hid (OwnT w10 v4.heap.size (.slice a2 n2 c2) rs2 l2) := HO9.out.below hb10
  clear hb10
  have p0 : w10.cell? ⟨w5.heap.size, 0, none⟩ = some (.int .i64 x2) := (HG10.out).cell 0
  have p1 : w10.cell? ⟨w5.heap.size, 1, none⟩ = some (.int .i64 y2) := (HG10.out).cell 1
  have p2 : w10.cell? ⟨w5.heap.size, 2, none⟩ = some (.slice a2 n2 c2) := (HG10.out).cell 2
  go_wp2_with fail
  refine (markTable_any x2 y2 a2 n2 c2 rs2 l2 1 v4.heap.size _ HO10.out (by omega) (by omega) (by omega) (by omega)).mono ?_
  rintro e w11 ⟨rfl, ⟨rs4, ho11⟩, hb11, hs11⟩
  have s14 := hb11.size
  clear p0 p1 p2
  have HB11 : Hid (Below v3.heap.size v3 w11) := HB10.out.trans (hb11.mono (by omega))
  have HG11 : Hid (RowAt w11 w5.heap.size #[.int .i64 x2, .int .i64 y2, .slice a2 n2 c2] 28) := hs11 _ _ HG10.out
  have HM11 : Hid (Tab w11 a2 n2 c2 (markL 1 l2)) := ho11.tab
  clear ho11 hb11 hs11
  obtain ⟨M, HM⟩ : ∃ M, Hid (kAt 1 l2 l2.length = M) := ⟨_, rfl⟩
  have mge : 0 ≤ M := by rw [← HM.out]; exact kAt_ge 1 l2 _ (by omega)
  rw [HM.out]
  have nm : ¬ M < 0 := by omega
  have ne : (M != M) = false := by simp
  have p0 : w11.cell? ⟨w5.heap.size, 0, none⟩ = some (.int .i64 x2) := (HG11.out).cell 0
  have p1 : w11.cell? ⟨w5.heap.size, 1, none⟩ = some (.int .i64 y2) := (HG11.out).cell 1
  have p2 : w11.cell? ⟨w5.heap.size, 2, none⟩ = some (.slice a2 n2 c2) := (HG11.out).cell 2
  go_wp2_with fail
  refine (heldTable_any x2 y2 a2 n2 c2 l2 1 _ HM11.out (by omega) (by omega) (by omega)).mono ?_
  rintro e w12 ⟨rfl, hb12⟩
  have s15 := hb12.size
  rw [HM.out]
  clear p0 p1 p2
  have HB12 : Hid (Below v3.heap.size v3 w12) := HB11.out.trans (hb12.mono (by omega))
  have HG12 : Hid (RowAt w12 w5.heap.size #[.int .i64 x2, .int .i64 y2, .slice a2 n2 c2] 28) := HG11.out.below hb12 (by omega)
  have HM12 : Hid (Tab w12 a2 n2 c2 (markL 1 l2)) := HM11.out.below hb12
  clear hb12
  have i0 : w12.cell? ⟨w.heap.size, 0, none⟩ = some (.int .i64 R) := (HG3.out.below HB12.out z3).cell 0
  have i1 : w12.cell? ⟨w.heap.size, 1, none⟩ = some (.int .i64 C) := (HG3.out.below HB12.out z3).cell 1
  have i2 : w12.cell? ⟨w.heap.size, 2, none⟩ = some (.slice a n cap) := (HG3.out.below HB12.out z3).cell 2
  go_wp2_with fail
  refine (toTable_any R C a n cap l _ (T3.out.below HB12.out) hle).mono ?_
  rintro e w13 ⟨⟨b13, r13, -, rfl, ho13⟩, hb13⟩
  have s16 := hb13.size
  go_wp2_with fail
  refine (implTableColOut_any R C t' _ _ _ l _ ho13.tab).mono ?_
  intro e w14 hr
  obtain ⟨⟨x3, y3, a3, n3, c3, l3, g3, rfl, hR3⟩, hb14⟩ := fRes_of hr
  clear hr i0 i1 i2
  obtain rfl : x3 = x2 := hR3.2.1.trans HX1.out.1.symm
  obtain rfl : y3 = y2 := hR3.2.2.1.trans HX1.out.2.1.symm
  obtain rfl : l3 = l2 := hR3.2.2.2.1.trans HX1.out.2.2.1.symm
  obtain rfl : g3 = g2 := hR3.2.2.2.2.trans HX1.out.2.2.2.symm
  obtain ⟨rs3, ho3⟩ := hR3.1
  have s17 := hb14.size
  have b24 : Below w12.heap.size w12 w14 := hb13.trans (hb14.mono s16)
  clear hR3 hb13 hb14 ho13
  go_upto_region 25 with fail
  have W14 : RowAt (w14.alloc (.cells #[.int .i64 x3, .int .i64 y3, .slice a3 n3 c3] 28)) w14.heap.size #[.int .i64 x3, .int .i64 y3, .slice a3 n3 c3] 28 := rowAt_new _ _ _
  have T14 : Tab (w14.alloc (.cells #[.int .i64 x3, .int .i64 y3, .slice a3 n3 c3] 28)) a3 n3 c3 l3 := ho3.tab.below ((Below.refl _ _).alloc (Nat.le_refl _) _)
  have B14 : Below w12.heap.size w12 (w14.alloc (.cells #[.int .i64 x3, .int .i64 y3, .slice a3 n3 c3] 28)) := b24.alloc (by omega) _
  generalize (w14.alloc (.cells #[.int .i64 x3, .int .i64 y3, .slice a3 n3 c3] 28)) = v14 at W14 T14 B14 ⊢
  have zh := W14.lt
  have s18 := B14.size
  have HW14 : Hid (RowAt v14 w14.heap.size #[.int .i64 x3, .int .i64 y3, .slice a3 n3 c3] 28) := W14
  have HT14 : Hid (Tab v14 a3 n3 c3 l3) := T14
  have HG14 : Hid (RowAt v14 w5.heap.size #[.int .i64 x3, .int .i64 y3, .slice a2 n2 c2] 28) := HG12.out.below B14 (by omega)
  have HM14 : Hid (Tab v14 a2 n2 c2 (markL 1 l3)) := HM12.out.below B14
  have HB14 : Hid (Below v3.heap.size v3 v14) := HB12.out.trans (B14.mono (by omega))
  clear W14 T14 B14 ho3 b24
  have p0 : v14.cell? ⟨w14.heap.size, 0, none⟩ = some (.int .i64 x3) := HW14.out.cell 0
  have p1 : v14.cell? ⟨w14.heap.size, 1, none⟩ = some (.int .i64 y3) := HW14.out.cell 1
  have p2 : v14.cell? ⟨w14.heap.size, 2, none⟩ = some (.slice a3 n3 c3) := HW14.out.cell 2
  have q0 : v14.cell? ⟨w3.heap.size, 0, none⟩ = some (.int .i64 x3) := (HW1.out.below HB14.out zw).cell 0
  have q1 : v14.cell? ⟨w3.heap.size, 1, none⟩ = some (.int .i64 y3) := (HW1.out.below HB14.out zw).cell 1
  have q2 : v14.cell? ⟨w3.heap.size, 2, none⟩ = some (.slice a1 n1 c1) := (HW1.out.below HB14.out zw).cell 2
  go_wp2_with fail
  refine (eqTable_same x3 y3 _ _ _ l3 _ _ _ _ HT14.out (HT1.out.below HB14.out)).mono ?_
  rintro e w15 ⟨rfl, hb15⟩
  have s19 := hb15.size
  clear p0 p1 p2 q0 q1 q2
  have HG15 : Hid (RowAt w15 w5.heap.size #[.int .i64 x3, .int .i64 y3, .slice a2 n2 c2] 28) := HG14.out.below hb15 (by omega)
  have HM15 : Hid (Tab w15 a2 n2 c2 (markL 1 l3)) := HM14.out.below hb15
  have p0 : w15.cell? ⟨w5.heap.size, 0, none⟩ = some (.int .i64 x3) := HG15.out.cell 0
  have p1 : w15.cell? ⟨w5.heap.size, 1, none⟩ = some (.int .i64 y3) := HG15.out.cell 1
  have p2 : w15.cell? ⟨w5.heap.size, 2, none⟩ = some (.slice a2 n2 c2) := HG15.out.cell 2
  go_wp2_with fail
  refine (heldTable_any x3 y3 a2 n2 c2 l3 1 _ HM15.out (by omega) (by omega) (by omega)).mono ?_
  rintro e w16 ⟨rfl, hb16⟩
  rw [HM.out]
  clear p0 p1 p2
  go_wp2_with fail
  go_ret
  exact ⟨rfl, ((HB3.out.trans (HB14.out.mono (by omega))).trans (hb15.mono (by omega))).trans (hb16.mono (by omega))⟩
end Go.Proofs.Yteghidjbcpmfbaa
