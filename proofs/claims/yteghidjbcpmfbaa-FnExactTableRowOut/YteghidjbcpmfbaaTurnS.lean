import Derived.Test.YteghidjbcpmfbaaCopyS
import Derived.Test.YteghidjbcpmfbaaSortS
import Derived.Test.YteghidjbcpmfbaaTabOk
import Derived.Test.YteghidjbcpmfbaaTurnR
namespace Go.Proofs.Yteghidjbcpmfbaa
open Go.RowKit

/-- A row turned. -/
def turnR (x : Rw) : Rw := (x.2.1, x.1, x.2.2.2.1, x.2.2.1, x.2.2.2.2)
theorem TxtOwn.turn {w : World} {B : Nat} {q : Option Nat} {rs : List Rw} {l : List Cl} (h : TxtOwn w B q rs l) : TxtOwn w B q (rs.map turnR) (l.map turnC) := by
  obtain ⟨e, h1, h2, h3⟩ := h
  refine ⟨by simpa using e, fun k hk => ?_, fun k hk => ?_, fun i k hik hk => ?_⟩
  · have hk' : k < rs.length := by simpa using hk
    rw [map_getD turnR rs k rw0 rw0 hk', map_getD turnC l k cl0 cl0 (by omega)]
    obtain ⟨a0, a1, a2, a3, a4⟩ := h1 k hk'
    exact ⟨a1, a0, a3, a2, a4⟩
  · have hk' : k < rs.length := by simpa using hk
    rw [map_getD turnR rs k rw0 rw0 hk']
    exact h2 k hk'
  · have hk' : k < rs.length := by simpa using hk
    rw [map_getD turnR rs k rw0 rw0 hk', map_getD turnR rs i rw0 rw0 (by omega)]
    exact h3 i k hik hk'
theorem wpList_fieldCells {w : World} {ops : Array Oper} {rest : List Oper} {o : Oper} {a : Act} {Q : Exit → Act → World → Prop} (hgd : o.guard = none) (x : Operand) (ho : o.op = .field 28 x 2) (R C : Int) (p : Option Addr) (n c : Nat) (hx : a.eval x = .agg #[.int .i64 R, .int .i64 C, .slice p n c])
    (h : wpList Try.prog ops Q rest (a.put o.dst (.slice p n c)) w) : wpList Try.prog ops Q (o :: rest) a w := by
  refine wpList_plain hgd fun K hK => ?_
  have hr : (Instr.field 28 (.agg #[.int .i64 R, .int .i64 C, .slice p n c]) 2).run Try.prog w = .ok (.slice p n c) w := by
    simp [Instr.field, run_underlying Try.underlying28 w, part, asAgg, isAgg, run_underlying Try.underlying26 w]
  unfold Oper.wp execOp
  simp only [ho, hx, hr, Sem.run_bind, Sem.run_pure, Result.andThen_ok]
  exact hK _ _ h
set_option maxRecDepth 100000 in
set_option maxHeartbeats 8000000 in
theorem specTableTurn_any (R C : Int) (a : Option Addr) (n cap : Nat) (l : List Cl) (w : World) (h : Tab w a n cap l) :
    Calls Try.prog 41 #[.agg #[.int .i64 R, .int .i64 C, .slice a n cap]] w fun z w' => ((okB R C l = false ∧ z = .returned (.agg #[.int .i64 0, .int .i64 0, .slice none 0 0])) ∨ (okB R C l = true ∧ ∃ a' c' rs, z = .returned (.agg #[.int .i64 C, .int .i64 R, .slice a' l.length c']) ∧ OwnT w' w.heap.size (.slice a' l.length c') rs (turnL l))) ∧ Below w.heap.size w w' := by
  obtain ⟨i0, hi, hz0, hz1, hz2⟩ := info_parts Try.info44
  have H : Hid (Tab w a n cap l) := h
  clear h
  obtain ⟨ok, HX⟩ : ∃ x, Hid (okB R C l = x) := ⟨_, rfl⟩
  go_enter Try.func41, Try.ntmps41
  go_upto_region 1 with fail
  have B0 : Below w.heap.size w ((w.alloc (.cells #[.int .i64 R, .int .i64 C, .slice a n cap] 28)).alloc (.cells #[.int .i64 0, .int .i64 0, .slice none 0 0] 28)) := ((Below.refl _ _).alloc (Nat.le_refl _) _).alloc (by simp) _
  have G0 : RowAt ((w.alloc (.cells #[.int .i64 R, .int .i64 C, .slice a n cap] 28)).alloc (.cells #[.int .i64 0, .int .i64 0, .slice none 0 0] 28)) w.heap.size #[.int .i64 R, .int .i64 C, .slice a n cap] 28 := (rowAt_new w _ _).alloc _
  have G1 : RowAt ((w.alloc (.cells #[.int .i64 R, .int .i64 C, .slice a n cap] 28)).alloc (.cells #[.int .i64 0, .int .i64 0, .slice none 0 0] 28)) (w.heap.size + 1) #[.int .i64 0, .int .i64 0, .slice none 0 0] 28 := by
    have := rowAt_new (w.alloc (.cells #[.int .i64 R, .int .i64 C, .slice a n cap] 28)) #[.int .i64 0, .int .i64 0, .slice none 0 0] 28
    simpa using this
  have HT : Hid (Tab ((w.alloc (.cells #[.int .i64 R, .int .i64 C, .slice a n cap] 28)).alloc (.cells #[.int .i64 0, .int .i64 0, .slice none 0 0] 28)) a n cap l) := H.out.below B0
  generalize ((w.alloc (.cells #[.int .i64 R, .int .i64 C, .slice a n cap] 28)).alloc (.cells #[.int .i64 0, .int .i64 0, .slice none 0 0] 28)) = v at B0 G0 G1 HT ⊢
  have k0 : v.cell? ⟨w.heap.size, 0, none⟩ = some (.int .i64 R) := G0.cell 0
  have k1 : v.cell? ⟨w.heap.size, 1, none⟩ = some (.int .i64 C) := G0.cell 1
  have k2 : v.cell? ⟨w.heap.size, 2, none⟩ = some (.slice a n cap) := G0.cell 2
  have s0 := B0.size
  have z0 := G0.lt
  have z1 := G1.lt
  have HG0 : Hid (RowAt v w.heap.size #[.int .i64 R, .int .i64 C, .slice a n cap] 28) := G0
  have HG1 : Hid (RowAt v (w.heap.size + 1) #[.int .i64 0, .int .i64 0, .slice none 0 0] 28) := G1
  have HB0 : Hid (Below w.heap.size w v) := B0
  clear G0 G1 B0
  cases ok
  · go_wp2_with (first | (go_at_call 27; refine (specTableOk_any R C a n cap l _ HT.out).mono ?_; rw [HX.out]; rintro e w1 ⟨rfl, hb1⟩; have HG2 : Hid (RowAt w1 (w.heap.size + 1) #[.int .i64 0, .int .i64 0, .slice none 0 0] 28) := HG1.out.below hb1 z1) | (refine wpList_store_row rfl 28 (.tmp 2) (.tmp 10) rfl (w.heap.size + 1) #[.int .i64 0, .int .i64 0, .slice none 0 0] rfl rfl 28 _ HG2.out tab_info rfl (cells3_one _ _ _ _ _) ?_))
    refine bodyPost_ret (v := .agg #[.int .i64 0, .int .i64 0, .slice none 0 0]) (results_cell_row (p := 2) (ty := 28) rfl _ _ (w.heap.size + 1) 28 _ _ _ rfl (RowAt.setRow HG2.out _) Try.underlying28 rfl tab_info) rfl ⟨.inl ⟨HX.out, rfl⟩, below_row (HB0.out.trans (hb1.mono s0)) (by omega) _⟩
  · have hg := gridP_of_okB HX.out
    have hl25 : l.length ≤ 25 := (formB_of (show formB R C l = true by have := HX.out; simp only [okB, Bool.and_eq_true] at this; exact this.1)).2.2.1
    have HTL : Hid (∀ k, k < l.length → (l.getD k cl0).2.2.2.2.length ≤ 1000000) := fun k hk => by
      have := (stepB_of (hg.2.2.1 k hk)).2.2
      simp only [textB, Bool.and_eq_true, decide_eq_true_eq] at this
      omega
    have HN : Hid (n = l.length) := H.out.1
    clear hg
    go_upto_region 3 with (go_at_call 27; refine (specTableOk_any R C a n cap l _ HT.out).mono ?_; rw [HX.out]; rintro e w1 ⟨rfl, hb1⟩; have q0 := (hb1.cell (p := ⟨w.heap.size, 0, none⟩) z0).trans k0; have q1 := (hb1.cell (p := ⟨w.heap.size, 1, none⟩) z0).trans k1; have q2 := (hb1.cell (p := ⟨w.heap.size, 2, none⟩) z0).trans k2)
    clear k0 k1 k2
    have s1 := hb1.size
    go_upto_region 4 with fail
    have B2 : Below w1.heap.size w1 (w1.alloc (.cells #[.int .i64 C, .int .i64 R, .slice none 0 0] 28)) := (Below.refl _ _).alloc (Nat.le_refl _) _
    have G2 : RowAt (w1.alloc (.cells #[.int .i64 C, .int .i64 R, .slice none 0 0] 28)) w1.heap.size #[.int .i64 C, .int .i64 R, .slice none 0 0] 28 := rowAt_new _ _ _
    generalize (w1.alloc (.cells #[.int .i64 C, .int .i64 R, .slice none 0 0] 28)) = v2 at B2 G2 ⊢
    have z2 := G2.lt
    have s2 := B2.size
    have r0 := (B2.cell (p := ⟨w.heap.size, 0, none⟩) (by show w.heap.size < w1.heap.size; omega)).trans q0
    have r1 := (B2.cell (p := ⟨w.heap.size, 1, none⟩) (by show w.heap.size < w1.heap.size; omega)).trans q1
    have r2 := (B2.cell (p := ⟨w.heap.size, 2, none⟩) (by show w.heap.size < w1.heap.size; omega)).trans q2
    have HT2 : Hid (Tab v2 a n cap l) := (HT.out.below hb1).below B2
    clear q0 q1 q2
    go_upto_region 6 with (first | (go_at_call 29; refine (l2Copy_any R C a n cap l _ HT2.out (by omega) HTL.out).mono ?_; rintro e w2 ⟨⟨al, cl, rs, rfl, hOl⟩, hb2⟩) | (refine wpList_fieldCells rfl (.tmp 17) rfl R C al l.length cl rfl ?_))
    clear r0 r1 r2
    have s3 := hb2.size
    have G3 : RowAt w2 w1.heap.size #[.int .i64 C, .int .i64 R, .slice none 0 0] 28 := G2.below hb2 z2
    have B3 : Below w1.heap.size w1 w2 := B2.trans (hb2.mono s2)
    have HLB : Hid (∀ g, (Value.slice al l.length cl).ownBlock = some g → g < w2.heap.size) := fun g hg => (own_lt hOl.1.row hg).2
    have HLT : Hid (∀ k, k < rs.length → ∀ g, (rwT (rs.getD k rw0)).ownBlock = some g → g < w2.heap.size) := fun k hk g hg => hOl.2.blockLt k hk g hg
    have HRL : Hid (rs.length = l.length) := hOl.2.1
    obtain ⟨N, hN⟩ : ∃ N, l.length = N := ⟨_, rfl⟩
    have HNN : Hid (l.length = N) := hN
    rw [hN] at hOl hl25 HLB ⊢
    clear hN G2 B2 hb2
    go_wp2_with fail
    go_loopw [5] (fun iv wr => ∃ (i : Nat) (a' : Option Addr) (c' : Nat), i ≤ N ∧ iv = .int .i64 i ∧ RowAt wr w1.heap.size #[.int .i64 C, .int .i64 R, .slice a' i c'] 28 ∧ OwnR wr w2.heap.size (.slice a' i c') ((rs.take i).map turnR) ∧ OwnT wr v2.heap.size (.slice al N cl) rs l ∧ Below w1.heap.size w1 wr ∧ w2.heap.size ≤ wr.heap.size) (fun iv _ => N - (intOf iv).toNat)
    case atStart => exact ⟨0, none, 0, Nat.zero_le _, rfl, G3, OwnR.nil _ _, hOl, B3, Nat.le_refl _⟩
    case round =>
      clear G3 B3 hOl
      obtain ⟨i, a', c', hin, rfl, hT, hO, hL, hb, hs⟩ := hrel
      have HTb : Hid (RowAt wr w1.heap.size #[.int .i64 C, .int .i64 R, .slice a' i c'] 28) := hT
      have HO : Hid (OwnR wr w2.heap.size (.slice a' i c') ((rs.take i).map turnR)) := hO
      have HL : Hid (OwnT wr v2.heap.size (.slice al N cl) rs l) := hL
      have HB : Hid (Below w1.heap.size w1 wr) := hb
      have hcl := hL.1.rws.2.1
      have hcm := hL.1.rws.2.2.1
      unfold maxLen at hcm
      clear hT hO hL hb
      by_cases hlt : i < N
      · have hir : i < rs.length := by have := HRL.out; have := HNN.out; omega
        obtain ⟨⟨xr, xc, xd, xg, xa, xn, xq⟩, hx⟩ : ∃ x, x = rs.getD i rw0 := ⟨_, rfl⟩
        have HXr : Hid ((xr, xc, xd, xg, xa, xn, xq) = rs.getD i rw0) := hx
        rcases HL.out.1.rws.2.2.2 with e | ⟨b, off, rfl, hbw, hat⟩
        · rw [e] at hir
          exact absurd hir (by simp)
        have hxa : RwAt wr b (off + i * 5) (xr, xc, xd, xg, xa, xn, xq) := by rw [hx]; exact hat i hir
        obtain ⟨x0, x1, x2, x3, x4⟩ := hxa
        simp only at x0 x1 x2 x3 x4
        clear hx hat
        go_upto_region 9 with fail
        have bA : Below wr.heap.size wr (wr.alloc (.cells #[.int .i64 xr, .int .i64 xc, .int .i64 xd, .int .i64 xg, .slice xa xn xq] 44)) := (Below.refl _ _).alloc (Nat.le_refl _) _
        have RA : RowAt (wr.alloc (.cells #[.int .i64 xr, .int .i64 xc, .int .i64 xd, .int .i64 xg, .slice xa xn xq] 44)) wr.heap.size #[.int .i64 xr, .int .i64 xc, .int .i64 xd, .int .i64 xg, .slice xa xn xq] 44 := rowAt_new _ _ _
        clear x0 x1 x2 x3 x4
        generalize (wr.alloc (.cells #[.int .i64 xr, .int .i64 xc, .int .i64 xd, .int .i64 xg, .slice xa xn xq] 44)) = w3 at bA RA ⊢
        have s4 := bA.size
        have y0 : w3.cell? ⟨wr.heap.size, 0, none⟩ = some (.int .i64 xr) := RA.cell 0
        have y1 : w3.cell? ⟨wr.heap.size, 1, none⟩ = some (.int .i64 xc) := RA.cell 1
        have y2 : w3.cell? ⟨wr.heap.size, 2, none⟩ = some (.int .i64 xd) := RA.cell 2
        have y3 : w3.cell? ⟨wr.heap.size, 3, none⟩ = some (.int .i64 xg) := RA.cell 3
        have y4 : w3.cell? ⟨wr.heap.size, 4, none⟩ = some (.slice xa xn xq) := RA.cell 4
        have HT3 : Hid (RowAt w3 w1.heap.size #[.int .i64 C, .int .i64 R, .slice a' i c'] 28) := HTb.out.below bA (by omega)
        have HO3 : Hid (OwnR w3 w2.heap.size (.slice a' i c') ((rs.take i).map turnR)) := HO.out.below bA
        have HL3 : Hid (OwnT w3 v2.heap.size (.slice (some ⟨b, off, none⟩) N cl) rs l) := HL.out.below bA
        have HB3 : Hid (Below w1.heap.size w1 w3) := HB.out.trans (bA.mono (by omega))
        have t2 : w3.cell? ⟨w1.heap.size, 2, none⟩ = some (.slice a' i c') := HT3.out.cell 2
        have hci := HO3.out.rws.2.1
        have hcim := HO3.out.rws.2.2.1
        unfold maxLen at hcim
        clear bA RA
        go_wp2_with (at_builtin; refine wpList_append_own _ rfl (.tmp 30) (.tmp 42) 26 rfl w2.heap.size 44 i0 _ 5 56 Try.underlying26 hi hz0 hz1 hz2 rfl (by decide) (.slice a' i c') _ _ rfl (HO3.out.row.alloc _) ⟨w3.heap.size, 0, none⟩ 1 1 [.int .i64 xc, .int .i64 xr, .int .i64 xg, .int .i64 xd, .slice xa xn xq] rfl rfl (cell_five_new _ _ _ _ _ _ _) (five_oneCell _ _ _ _ _ _ _) (by unfold maxLen; omega) (by omega) (by simp; omega) ?_; intro v' w5 hown' hgrow _; obtain ⟨a5, c5, rfl, ho5, hb5⟩ := ownR_step (B := w2.heap.size) (w := w3) (s := (xc, xr, xg, xd, xa, xn, xq)) HO3.out (Below.refl _ _) (by omega) hown' hgrow; have R5 := RowAt.grown (HT3.out.alloc _) hgrow (fun e => by have := (own_lt HO3.out.row e).1; omega); have q2 : w5.cell? ⟨w1.heap.size, 2, none⟩ = some (.slice a' i c') := R5.cell 2; have q3 := R5.frozen 2)
        go_roundw
        case rel =>
          have hb6 : Below w3.heap.size w3 (w3.alloc (.cells #[.int .i64 xc, .int .i64 xr, .int .i64 xg, .int .i64 xd, .slice xa xn xq] 44)) := (Below.refl _ _).alloc (Nat.le_refl _) _
          have hL5 : OwnT w5 v2.heap.size (.slice (some ⟨b, off, none⟩) N cl) rs l := by
            have hL4 := HL3.out.below hb6
            refine ⟨own_grown hL4.1 hgrow (fun g hg e => ?_), hL4.2.grown hgrow (fun k hk g hg e => ?_)⟩
            · have p1 := HLB.out g hg
              have p2 := (own_lt HO3.out.row e).1
              omega
            · have p1 := HLT.out k hk g hg
              have p2 := (own_lt HO3.out.row e).1
              omega
          have B5 : Below w1.heap.size w1 w5 := ((HB3.out).alloc (by omega) _).grown hgrow (by simp; omega) (fun k hk => by have := (own_lt HO3.out.row hk).1; omega)
          have s5 := hgrow.size
          simp at s5
          refine ⟨i + 1, a5, c5, by omega, by go_num, R5.setCell 2 (.slice a5 (i + 1) c5), ?_, ?_, B5.setCell (p := ⟨w1.heap.size, 2, none⟩) (Nat.le_refl _) (.slice a5 (i + 1) c5), by simp [World.setCell]; omega⟩
          · rw [List.take_succ_eq_append_getElem hir, List.map_append, show [rs[i]].map turnR = [(xc, xr, xg, xd, xa, xn, xq)] from by
              rw [show rs[i] = (xr, xc, xd, xg, xa, xn, xq) from by rw [HXr.out]; simp [List.getD, hir]]
              rfl]
            exact own_set ho5 _ _ (fun e => by have := (own_lt ho5.row e).1; simp at this; omega)
          · exact ⟨own_set hL5.1 _ _ (fun e => by have := (own_lt hL5.1.row e).1; simp at this; omega), hL5.2.setLow _ _ (by simp; omega)⟩
        case measure => simp [intOf]; omega
      · have e : i = N := by omega
        subst e
        have hT := HO.out
        rw [List.take_of_length_le (by have := HRL.out; have := HNN.out; omega)] at hT
        have HO1 : Hid (OwnR wr w2.heap.size (.slice a' i c') (rs.map turnR)) := hT
        have k2 : wr.cell? ⟨w1.heap.size, 2, none⟩ = some (.slice a' i c') := HTb.out.cell 2
        clear hT
        go_upto_region 11 with (go_at_call 30; refine (l2Sort_any a' i c' (rs.map turnR) _ HO1.out.rws (by omega)).mono ?_; rintro e w3 ⟨⟨a3, c3, rfl, ho3⟩, hb3⟩; have R3 := HTb.out.below hb3 (by omega); have q2 : w3.cell? ⟨w1.heap.size, 2, none⟩ = some (.slice a' i c') := R3.cell 2; have q3 := R3.frozen 2)
        have sz3 := hb3.size
        have R4 : RowAt (w3.setCell ⟨w1.heap.size, 2, none⟩ (.slice a3 i c3)) w1.heap.size #[.int .i64 C, .int .i64 R, .slice a3 i c3] 28 := R3.setCell 2 (.slice a3 i c3)
        have B4 : Below w1.heap.size w1 (w3.setCell ⟨w1.heap.size, 2, none⟩ (.slice a3 i c3)) := (HB.out.trans (hb3.mono (by omega))).setCell (p := ⟨w1.heap.size, 2, none⟩) (Nat.le_refl _) _
        have O4 : OwnR (w3.setCell ⟨w1.heap.size, 2, none⟩ (.slice a3 i c3)) w2.heap.size (.slice a3 i c3) (sortR (rs.map turnR)) := own_set (own_less ho3 (by omega)) _ _ (fun e => by have := (own_lt ho3.row e).1; simp at this; omega)
        have T4 : TxtOwn (w3.setCell ⟨w1.heap.size, 2, none⟩ (.slice a3 i c3)) v2.heap.size (Value.slice a3 i c3).ownBlock (sortR (rs.map turnR)) (turnL l) := by
          have := ((HL.out.2.turn.sort).below hb3).setLow ⟨w1.heap.size, 2, none⟩ (.slice a3 i c3) (by simp; omega)
          exact this.anew O4
        clear q2 q3 R3 k2 ho3
        generalize (w3.setCell ⟨w1.heap.size, 2, none⟩ (.slice a3 i c3)) = w4 at R4 B4 O4 T4 ⊢
        have HO4 : Hid (OwnR w4 w2.heap.size (.slice a3 i c3) (sortR (rs.map turnR))) := O4
        have HT4 : Hid (TxtOwn w4 v2.heap.size (Value.slice a3 i c3).ownBlock (sortR (rs.map turnR)) (turnL l)) := T4
        have HB4 : Hid (Below w1.heap.size w1 w4) := B4
        have k0 : w4.cell? ⟨w1.heap.size, 0, none⟩ = some (.int .i64 C) := R4.cell 0
        have k1 : w4.cell? ⟨w1.heap.size, 1, none⟩ = some (.int .i64 R) := R4.cell 1
        have k2 : w4.cell? ⟨w1.heap.size, 2, none⟩ = some (.slice a3 i c3) := R4.cell 2
        have HG2 : Hid (RowAt w4 (w.heap.size + 1) #[.int .i64 0, .int .i64 0, .slice none 0 0] 28) := (HG1.out.below hb1 z1).below B4 (by omega)
        clear O4 T4 B4 R4
        go_wp2_with (refine wpList_store_row rfl 28 (.tmp 2) (.tmp 49) rfl (w.heap.size + 1) #[.int .i64 C, .int .i64 R, .slice a3 i c3] rfl rfl 28 _ HG2.out tab_info rfl (cells3_one _ _ _ _ _) ?_)
        refine bodyPost_ret (v := .agg #[.int .i64 C, .int .i64 R, .slice a3 i c3]) (results_cell_row (p := 2) (ty := 28) rfl _ _ (w.heap.size + 1) 28 _ _ _ rfl (RowAt.setRow HG2.out _) Try.underlying28 rfl tab_info) rfl ⟨.inr ⟨HX.out, a3, c3, sortR (rs.map turnR), by rw [HNN.out], ?_⟩, below_row ((HB0.out.trans (hb1.mono s0)).trans (HB4.out.mono (by omega))) (by omega) _⟩
        rw [HNN.out]
        exact OwnT.less (B' := v2.heap.size) ⟨own_row (own_less HO4.out (by omega)) _ _ (fun e => by have := (own_lt HO4.out.row e).1; omega), HT4.out.rowLow _ _ (by omega)⟩ (by omega)
end Go.Proofs.Yteghidjbcpmfbaa
