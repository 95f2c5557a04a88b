import Derived.Test.YtbigbbfbikhjdabBA2
import Derived.Test.YtbigbbfbikhjdabBI1
namespace Go.Proofs.Ytbigbbfbikhjdab
open Go.RowKit

set_option maxRecDepth 100000 in
set_option maxHeartbeats 8000000 in
theorem implTableColIn_any (R C t' : Int) (a : Option Addr) (n cap : Nat) (l : List Cl) (w : World) (h : Tab w a n cap l) :
    Calls Try.prog 12 #[.agg #[.int .i64 R, .int .i64 C, .slice a n cap], .int .i64 t'] w fun z w' => TabRes w.heap.size (rowInB (tX R C l) (tY R C l) (tL R C l) t') (tY R C l) ((tX R C l) + 1) (turnL (inL t' (tY R C l) (tL R C l))) z w' ∧ Below w.heap.size w w' := by
  have H : Hid (Tab w a n cap l) := h
  clear h
  go_enter Try.func12, Try.ntmps12
  go_upto_region 1 with fail
  have B0 : Below w.heap.size w ((w.alloc (.cells #[.int .i64 R, .int .i64 C, .slice a n cap] 25)).alloc (.cells #[.int .i64 0, .int .i64 0, .slice none 0 0] 25)) := ((Below.refl _ _).alloc (Nat.le_refl _) _).alloc (by simp) _
  have G0 : RowAt ((w.alloc (.cells #[.int .i64 R, .int .i64 C, .slice a n cap] 25)).alloc (.cells #[.int .i64 0, .int .i64 0, .slice none 0 0] 25)) w.heap.size #[.int .i64 R, .int .i64 C, .slice a n cap] 25 := (rowAt_new w _ _).alloc _
  have G1 : RowAt ((w.alloc (.cells #[.int .i64 R, .int .i64 C, .slice a n cap] 25)).alloc (.cells #[.int .i64 0, .int .i64 0, .slice none 0 0] 25)) (w.heap.size + 1) #[.int .i64 0, .int .i64 0, .slice none 0 0] 25 := by
    have := rowAt_new (w.alloc (.cells #[.int .i64 R, .int .i64 C, .slice a n cap] 25)) #[.int .i64 0, .int .i64 0, .slice none 0 0] 25
    simpa using this
  have HT : Hid (Tab ((w.alloc (.cells #[.int .i64 R, .int .i64 C, .slice a n cap] 25)).alloc (.cells #[.int .i64 0, .int .i64 0, .slice none 0 0] 25)) a n cap l) := H.out.below B0
  generalize ((w.alloc (.cells #[.int .i64 R, .int .i64 C, .slice a n cap] 25)).alloc (.cells #[.int .i64 0, .int .i64 0, .slice none 0 0] 25)) = v at B0 G0 G1 HT ⊢
  have k0 : v.cell? ⟨w.heap.size, 0, none⟩ = some (.int .i64 R) := G0.cell 0
  have k1 : v.cell? ⟨w.heap.size, 1, none⟩ = some (.int .i64 C) := G0.cell 1
  have k2 : v.cell? ⟨w.heap.size, 2, none⟩ = some (.slice a n cap) := G0.cell 2
  have z1 := G1.lt
  have s0 := B0.size
  have HG1 : Hid (RowAt v (w.heap.size + 1) #[.int .i64 0, .int .i64 0, .slice none 0 0] 25) := G1
  have HB0 : Hid (Below w.heap.size w v) := B0
  clear G0 G1 B0
  go_wp2_with fail
  refine (implTableTurn_any R C a n cap l _ HT.out).mono ?_
  intro e w1 hr
  obtain ⟨⟨x, y, a1, n1, c1, l1, rs1, rfl, ho1, hx, hy, hl⟩, hb1⟩ := tRes_of hr
  have s1 := hb1.size
  have HO1 : Hid (OwnT w1 v.heap.size (.slice a1 n1 c1) rs1 l1) := ho1
  have HXY : Hid (x = tX R C l ∧ y = tY R C l ∧ l1 = tL R C l) := ⟨hx, hy, hl⟩
  clear hr ho1 hx hy hl k0 k1 k2
  go_wp2_with fail
  refine (implTableRowIn_any x y t' a1 n1 c1 l1 _ HO1.out.tab).mono ?_
  rintro e w2 ⟨hres, hb2⟩
  have s2 := hb2.size
  have B2 : Below v.heap.size v w2 := hb1.trans (hb2.mono s1)
  rcases hres with ⟨hno, rfl⟩ | ⟨hyes, a2, c2, rs2, rfl, ho2⟩
  · have HNB : Hid (rowInB (tX R C l) (tY R C l) (tL R C l) t' = false) := by
      show rowInB (tX R C l) (tY R C l) (tL R C l) t' = false
      rw [← HXY.out.1, ← HXY.out.2.1, ← HXY.out.2.2]
      exact hno
    clear hno
    go_upto_region 2 with fail
    have B3 : Below v.heap.size v (w2.alloc (.cells #[.int .i64 0, .int .i64 0, .slice none 0 0] 25)) := B2.alloc (by omega) _
    have W3 : RowAt (w2.alloc (.cells #[.int .i64 0, .int .i64 0, .slice none 0 0] 25)) w2.heap.size #[.int .i64 0, .int .i64 0, .slice none 0 0] 25 := rowAt_new _ _ _
    generalize (w2.alloc (.cells #[.int .i64 0, .int .i64 0, .slice none 0 0] 25)) = v3 at B3 W3 ⊢
    have s3 := B3.size
    have u0 : v3.cell? ⟨w2.heap.size, 0, none⟩ = some (.int .i64 0) := W3.cell 0
    have u1 : v3.cell? ⟨w2.heap.size, 1, none⟩ = some (.int .i64 0) := W3.cell 1
    have u2 : v3.cell? ⟨w2.heap.size, 2, none⟩ = some (.slice none 0 0) := W3.cell 2
    have HG3 : Hid (RowAt v3 (w.heap.size + 1) #[.int .i64 0, .int .i64 0, .slice none 0 0] 25) := HG1.out.below B3 z1
    go_wp2_with fail
    refine (implTableTurn_any 0 0 none 0 0 [] _ (tab_nil _)).mono ?_
    rintro e w4 ⟨(⟨-, rfl⟩ | ⟨hbad, -⟩), hb4⟩
    case inr =>
      rw [okB_nil] at hbad
      exact absurd hbad (by simp)
    have s4 := hb4.size
    have HG4 : Hid (RowAt w4 (w.heap.size + 1) #[.int .i64 0, .int .i64 0, .slice none 0 0] 25) := HG3.out.below hb4 (by omega)
    go_wp2_with (refine wpList_store_row rfl 25 (.tmp 4) (.tmp 16) rfl (w.heap.size + 1) #[.int .i64 0, .int .i64 0, .slice none 0 0] rfl rfl 25 _ HG4.out tab_info rfl (cells3_one _ _ _ _ _) ?_)
    refine bodyPost_ret (v := .tuple #[.agg #[.int .i64 0, .int .i64 0, .slice none 0 0], .bool false]) ?_ rfl ⟨.inl ⟨HNB.out, rfl⟩, below_row ((HB0.out.trans (B3.mono s0)).trans (hb4.mono (by omega))) (by omega) _⟩
    rw [results_cell_tmp rfl]
    simp [asAddr, Result.andThen, run_tabOf (RowAt.setRow HG4.out #[.int .i64 0, .int .i64 0, .slice none 0 0])]
  · have HYB : Hid (rowInB x y l1 t' = true) := hyes
    obtain ⟨L2, HL2⟩ : ∃ L2, Hid ((inL t' y l1) = L2) := ⟨_, rfl⟩
    obtain ⟨N2, HN2⟩ : ∃ N2, Hid (L2.length = N2) := ⟨_, rfl⟩
    obtain ⟨X2, HX2⟩ : ∃ X2, Hid ((x + 1) = X2) := ⟨_, rfl⟩
    have HOK : Hid (okB X2 y L2 = true) := by
      show okB X2 y L2 = true
      rw [← HL2.out, ← HX2.out]
      exact ok_in hyes
    rw [HL2.out, HN2.out] at ho2
    rw [HL2.out, HN2.out, HX2.out]
    clear hyes
    go_upto_region 2 with fail
    have B3 : Below v.heap.size v (w2.alloc (.cells #[.int .i64 X2, .int .i64 y, .slice a2 N2 c2] 25)) := B2.alloc (by omega) _
    have W3 : RowAt (w2.alloc (.cells #[.int .i64 X2, .int .i64 y, .slice a2 N2 c2] 25)) w2.heap.size #[.int .i64 X2, .int .i64 y, .slice a2 N2 c2] 25 := rowAt_new _ _ _
    have O3 : Hid (OwnT (w2.alloc (.cells #[.int .i64 X2, .int .i64 y, .slice a2 N2 c2] 25)) w1.heap.size (.slice a2 N2 c2) rs2 L2) := ho2.below ((Below.refl _ _).alloc (Nat.le_refl _) _)
    generalize (w2.alloc (.cells #[.int .i64 X2, .int .i64 y, .slice a2 N2 c2] 25)) = v3 at B3 W3 O3 ⊢
    have s3 := B3.size
    have u0 : v3.cell? ⟨w2.heap.size, 0, none⟩ = some (.int .i64 X2) := W3.cell 0
    have u1 : v3.cell? ⟨w2.heap.size, 1, none⟩ = some (.int .i64 y) := W3.cell 1
    have u2 : v3.cell? ⟨w2.heap.size, 2, none⟩ = some (.slice a2 N2 c2) := W3.cell 2
    have HG3 : Hid (RowAt v3 (w.heap.size + 1) #[.int .i64 0, .int .i64 0, .slice none 0 0] 25) := HG1.out.below B3 z1
    clear ho2
    go_wp2_with fail
    refine (implTableTurn_any X2 y a2 N2 c2 L2 _ O3.out.tab).mono ?_
    rintro e w4 ⟨(⟨hbad, -⟩ | ⟨-, a4, c4, rs4, rfl, ho4⟩), hb4⟩
    case inl =>
      rw [HOK.out] at hbad
      exact absurd hbad (by simp)
    rw [HN2.out] at ho4 ⊢
    have s4 := hb4.size
    have HO4 : Hid (OwnT w4 v3.heap.size (.slice a4 N2 c4) rs4 (turnL L2)) := ho4
    have HG4 : Hid (RowAt w4 (w.heap.size + 1) #[.int .i64 0, .int .i64 0, .slice none 0 0] 25) := HG3.out.below hb4 (by omega)
    clear ho4
    go_wp2_with (refine wpList_store_row rfl 25 (.tmp 4) (.tmp 16) rfl (w.heap.size + 1) #[.int .i64 y, .int .i64 X2, .slice a4 N2 c4] rfl rfl 25 _ HG4.out tab_info rfl (cells3_one _ _ _ _ _) ?_)
    have e1 : turnL (inL t' (tY R C l) (tL R C l)) = turnL L2 := by rw [← HL2.out, HXY.out.2.2, HXY.out.2.1]
    have e2 : (turnL (inL t' (tY R C l) (tL R C l))).length = N2 := by rw [e1, turnL_len, HN2.out]
    refine bodyPost_ret (v := .tuple #[.agg #[.int .i64 y, .int .i64 X2, .slice a4 N2 c4], .bool true]) ?_ rfl ⟨.inr ⟨?_, a4, c4, rs4, ?_, ?_⟩, below_row ((HB0.out.trans (B3.mono s0)).trans (hb4.mono (by omega))) (by omega) _⟩
    · rw [results_cell_tmp rfl]
      simp [asAddr, Result.andThen, run_tabOf (RowAt.setRow HG4.out #[.int .i64 y, .int .i64 X2, .slice a4 N2 c4])]
    · rw [← HXY.out.1, ← HXY.out.2.1, ← HXY.out.2.2]
      exact HYB.out
    · rw [e2, ← HXY.out.1, ← HXY.out.2.1, HX2.out]
    · rw [e2, e1]
      exact OwnT.less (B' := v3.heap.size) ⟨own_row HO4.out.1 _ _ (fun e => by have := (own_lt HO4.out.1.row e).1; omega), HO4.out.2.rowLow _ _ (by omega)⟩ (by omega)
end Go.Proofs.Ytbigbbfbikhjdab
namespace Go.Proofs.Ytbigbbfbikhjdab
open Go.RowKit

set_option maxRecDepth 100000 in
set_option maxHeartbeats 8000000 in
theorem specTableColIn_any (R C t' : Int) (a : Option Addr) (n cap : Nat) (l : List Cl) (w : World) (h : Tab w a n cap l) :
    Calls Try.prog 17 #[.agg #[.int .i64 R, .int .i64 C, .slice a n cap], .int .i64 t'] w fun z w' => TabRes w.heap.size (rowInB (tX R C l) (tY R C l) (tL R C l) t') (tY R C l) ((tX R C l) + 1) (turnL (inL t' (tY R C l) (tL R C l))) z w' ∧ Below w.heap.size w w' := by
  have H : Hid (Tab w a n cap l) := h
  clear h
  go_enter Try.func17, Try.ntmps17
  go_upto_region 1 with fail
  have B0 : Below w.heap.size w ((w.alloc (.cells #[.int .i64 R, .int .i64 C, .slice a n cap] 25)).alloc (.cells #[.int .i64 0, .int .i64 0, .slice none 0 0] 25)) := ((Below.refl _ _).alloc (Nat.le_refl _) _).alloc (by simp) _
  have G0 : RowAt ((w.alloc (.cells #[.int .i64 R, .int .i64 C, .slice a n cap] 25)).alloc (.cells #[.int .i64 0, .int .i64 0, .slice none 0 0] 25)) w.heap.size #[.int .i64 R, .int .i64 C, .slice a n cap] 25 := (rowAt_new w _ _).alloc _
  have G1 : RowAt ((w.alloc (.cells #[.int .i64 R, .int .i64 C, .slice a n cap] 25)).alloc (.cells #[.int .i64 0, .int .i64 0, .slice none 0 0] 25)) (w.heap.size + 1) #[.int .i64 0, .int .i64 0, .slice none 0 0] 25 := by
    have := rowAt_new (w.alloc (.cells #[.int .i64 R, .int .i64 C, .slice a n cap] 25)) #[.int .i64 0, .int .i64 0, .slice none 0 0] 25
    simpa using this
  have HT : Hid (Tab ((w.alloc (.cells #[.int .i64 R, .int .i64 C, .slice a n cap] 25)).alloc (.cells #[.int .i64 0, .int .i64 0, .slice none 0 0] 25)) a n cap l) := H.out.below B0
  generalize ((w.alloc (.cells #[.int .i64 R, .int .i64 C, .slice a n cap] 25)).alloc (.cells #[.int .i64 0, .int .i64 0, .slice none 0 0] 25)) = v at B0 G0 G1 HT ⊢
  have k0 : v.cell? ⟨w.heap.size, 0, none⟩ = some (.int .i64 R) := G0.cell 0
  have k1 : v.cell? ⟨w.heap.size, 1, none⟩ = some (.int .i64 C) := G0.cell 1
  have k2 : v.cell? ⟨w.heap.size, 2, none⟩ = some (.slice a n cap) := G0.cell 2
  have z1 := G1.lt
  have s0 := B0.size
  have HG1 : Hid (RowAt v (w.heap.size + 1) #[.int .i64 0, .int .i64 0, .slice none 0 0] 25) := G1
  have HB0 : Hid (Below w.heap.size w v) := B0
  clear G0 G1 B0
  go_wp2_with fail
  refine (specTableTurn_any R C a n cap l _ HT.out).mono ?_
  intro e w1 hr
  obtain ⟨⟨x, y, a1, n1, c1, l1, rs1, rfl, ho1, hx, hy, hl⟩, hb1⟩ := tRes_of hr
  have s1 := hb1.size
  have HO1 : Hid (OwnT w1 v.heap.size (.slice a1 n1 c1) rs1 l1) := ho1
  have HXY : Hid (x = tX R C l ∧ y = tY R C l ∧ l1 = tL R C l) := ⟨hx, hy, hl⟩
  clear hr ho1 hx hy hl k0 k1 k2
  go_wp2_with fail
  refine (specTableRowIn_any x y t' a1 n1 c1 l1 _ HO1.out.tab).mono ?_
  rintro e w2 ⟨hres, hb2⟩
  have s2 := hb2.size
  have B2 : Below v.heap.size v w2 := hb1.trans (hb2.mono s1)
  rcases hres with ⟨hno, rfl⟩ | ⟨hyes, a2, c2, rs2, rfl, ho2⟩
  · have HNB : Hid (rowInB (tX R C l) (tY R C l) (tL R C l) t' = false) := by
      show rowInB (tX R C l) (tY R C l) (tL R C l) t' = false
      rw [← HXY.out.1, ← HXY.out.2.1, ← HXY.out.2.2]
      exact hno
    clear hno
    go_upto_region 2 with fail
    have B3 : Below v.heap.size v (w2.alloc (.cells #[.int .i64 0, .int .i64 0, .slice none 0 0] 25)) := B2.alloc (by omega) _
    have W3 : RowAt (w2.alloc (.cells #[.int .i64 0, .int .i64 0, .slice none 0 0] 25)) w2.heap.size #[.int .i64 0, .int .i64 0, .slice none 0 0] 25 := rowAt_new _ _ _
    generalize (w2.alloc (.cells #[.int .i64 0, .int .i64 0, .slice none 0 0] 25)) = v3 at B3 W3 ⊢
    have s3 := B3.size
    have HG3 : Hid (RowAt v3 (w.heap.size + 1) #[.int .i64 0, .int .i64 0, .slice none 0 0] 25) := HG1.out.below B3 z1
    go_wp2_with (refine wpList_store_row rfl 25 (.tmp 4) (.tmp 17) rfl (w.heap.size + 1) #[.int .i64 0, .int .i64 0, .slice none 0 0] rfl rfl 25 _ HG3.out tab_info rfl (cells3_one _ _ _ _ _) ?_)
    refine bodyPost_ret (v := .tuple #[.agg #[.int .i64 0, .int .i64 0, .slice none 0 0], .bool false]) ?_ rfl ⟨.inl ⟨HNB.out, rfl⟩, below_row (HB0.out.trans (B3.mono s0)) (by omega) _⟩
    rw [results_cell_tmp rfl]
    simp [asAddr, Result.andThen, run_tabOf (RowAt.setRow HG3.out #[.int .i64 0, .int .i64 0, .slice none 0 0])]
  · have HYB : Hid (rowInB x y l1 t' = true) := hyes
    obtain ⟨L2, HL2⟩ : ∃ L2, Hid ((inL t' y l1) = L2) := ⟨_, rfl⟩
    obtain ⟨N2, HN2⟩ : ∃ N2, Hid (L2.length = N2) := ⟨_, rfl⟩
    obtain ⟨X2, HX2⟩ : ∃ X2, Hid ((x + 1) = X2) := ⟨_, rfl⟩
    have HOK : Hid (okB X2 y L2 = true) := by
      show okB X2 y L2 = true
      rw [← HL2.out, ← HX2.out]
      exact ok_in hyes
    rw [HL2.out, HN2.out] at ho2
    rw [HL2.out, HN2.out, HX2.out]
    clear hyes
    go_upto_region 2 with fail
    have B3 : Below v.heap.size v (w2.alloc (.cells #[.int .i64 X2, .int .i64 y, .slice a2 N2 c2] 25)) := B2.alloc (by omega) _
    have W3 : RowAt (w2.alloc (.cells #[.int .i64 X2, .int .i64 y, .slice a2 N2 c2] 25)) w2.heap.size #[.int .i64 X2, .int .i64 y, .slice a2 N2 c2] 25 := rowAt_new _ _ _
    have O3 : Hid (OwnT (w2.alloc (.cells #[.int .i64 X2, .int .i64 y, .slice a2 N2 c2] 25)) w1.heap.size (.slice a2 N2 c2) rs2 L2) := ho2.below ((Below.refl _ _).alloc (Nat.le_refl _) _)
    generalize (w2.alloc (.cells #[.int .i64 X2, .int .i64 y, .slice a2 N2 c2] 25)) = v3 at B3 W3 O3 ⊢
    have s3 := B3.size
    have u0 : v3.cell? ⟨w2.heap.size, 0, none⟩ = some (.int .i64 X2) := W3.cell 0
    have u1 : v3.cell? ⟨w2.heap.size, 1, none⟩ = some (.int .i64 y) := W3.cell 1
    have u2 : v3.cell? ⟨w2.heap.size, 2, none⟩ = some (.slice a2 N2 c2) := W3.cell 2
    have HG3 : Hid (RowAt v3 (w.heap.size + 1) #[.int .i64 0, .int .i64 0, .slice none 0 0] 25) := HG1.out.below B3 z1
    clear ho2
    go_wp2_with fail
    refine (specTableTurn_any X2 y a2 N2 c2 L2 _ O3.out.tab).mono ?_
    rintro e w4 ⟨(⟨hbad, -⟩ | ⟨-, a4, c4, rs4, rfl, ho4⟩), hb4⟩
    case inl =>
      rw [HOK.out] at hbad
      exact absurd hbad (by simp)
    rw [HN2.out] at ho4 ⊢
    have s4 := hb4.size
    have HO4 : Hid (OwnT w4 v3.heap.size (.slice a4 N2 c4) rs4 (turnL L2)) := ho4
    have HG4 : Hid (RowAt w4 (w.heap.size + 1) #[.int .i64 0, .int .i64 0, .slice none 0 0] 25) := HG3.out.below hb4 (by omega)
    clear ho4
    go_wp2_with (refine wpList_store_row rfl 25 (.tmp 4) (.tmp 19) rfl (w.heap.size + 1) #[.int .i64 y, .int .i64 X2, .slice a4 N2 c4] rfl rfl 25 _ HG4.out tab_info rfl (cells3_one _ _ _ _ _) ?_)
    have e1 : turnL (inL t' (tY R C l) (tL R C l)) = turnL L2 := by rw [← HL2.out, HXY.out.2.2, HXY.out.2.1]
    have e2 : (turnL (inL t' (tY R C l) (tL R C l))).length = N2 := by rw [e1, turnL_len, HN2.out]
    refine bodyPost_ret (v := .tuple #[.agg #[.int .i64 y, .int .i64 X2, .slice a4 N2 c4], .bool true]) ?_ rfl ⟨.inr ⟨?_, a4, c4, rs4, ?_, ?_⟩, below_row ((HB0.out.trans (B3.mono s0)).trans (hb4.mono (by omega))) (by omega) _⟩
    · rw [results_cell_tmp rfl]
      simp [asAddr, Result.andThen, run_tabOf (RowAt.setRow HG4.out #[.int .i64 y, .int .i64 X2, .slice a4 N2 c4])]
    · rw [← HXY.out.1, ← HXY.out.2.1, ← HXY.out.2.2]
      exact HYB.out
    · rw [e2, ← HXY.out.1, ← HXY.out.2.1, HX2.out]
    · rw [e2, e1]
      exact OwnT.less (B' := v3.heap.size) ⟨own_row HO4.out.1 _ _ (fun e => by have := (own_lt HO4.out.1.row e).1; omega), HO4.out.2.rowLow _ _ (by omega)⟩ (by omega)
end Go.Proofs.Ytbigbbfbikhjdab
