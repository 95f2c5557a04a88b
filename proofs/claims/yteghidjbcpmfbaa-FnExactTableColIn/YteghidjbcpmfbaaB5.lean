import Derived.Test.YteghidjbcpmfbaaB4
import Derived.Test.YteghidjbcpmfbaaB2
import Derived.OwnWalk
namespace Go.Proofs.Yteghidjbcpmfbaa
open Go.RowKit

theorem bool_info : (Try.prog.info? 4).map (fun i => (i.zero, i.size, i.bytes)) = some (some (.bool false), 1, 1) := by kernel_rfl
/-- A row when a row of the table is put in. -/
def inRw (at' : Int) (x : Rw) : Rw := if at' ≤ x.1 then (x.1 + 1, x.2.1, x.2.2.1, x.2.2.2.1, x.2.2.2.2) else if at' < x.1 + x.2.2.1 then (x.1, x.2.1, x.2.2.1 + 1, x.2.2.2.1, x.2.2.2.2) else x
def newRw (at' : Int) (p : Nat → Bool) (j : Nat) : List Rw := ((List.range j).filter (fun c => !p c)).map (fun c : Nat => (at', (c : Int), 1, 1, none, 0, 0))
def newCl (at' : Int) (p : Nat → Bool) (j : Nat) : List Cl := ((List.range j).filter (fun c => !p c)).map (fun c : Nat => (at', (c : Int), 1, 1, []))
theorem newRw_put (at' : Int) (p : Nat → Bool) (j : Nat) (h : p j = false) : newRw at' p (j + 1) = newRw at' p j ++ [(at', (j : Int), 1, 1, none, 0, 0)] := by
  simp [newRw, List.range_succ, List.filter_append, h]
theorem newRw_skip (at' : Int) (p : Nat → Bool) (j : Nat) (h : p j = true) : newRw at' p (j + 1) = newRw at' p j := by
  simp [newRw, List.range_succ, List.filter_append, h]
theorem newCl_put (at' : Int) (p : Nat → Bool) (j : Nat) (h : p j = false) : newCl at' p (j + 1) = newCl at' p j ++ [(at', (j : Int), 1, 1, [])] := by
  simp [newCl, List.range_succ, List.filter_append, h]
theorem newCl_skip (at' : Int) (p : Nat → Bool) (j : Nat) (h : p j = true) : newCl at' p (j + 1) = newCl at' p j := by
  simp [newCl, List.range_succ, List.filter_append, h]
theorem newRw_len (at' : Int) (p : Nat → Bool) (j : Nat) : (newRw at' p j).length ≤ j := by
  unfold newRw
  rw [List.length_map]
  exact Nat.le_trans (List.length_filter_le _ _) (by simp)
theorem taken_take (t' : Int) (l : List Cl) (i : Nat) (h : i < l.length) (c : Int) : takenB t' (l.take (i + 1)) c = (takenB t' (l.take i) c || overB t' (l.getD i cl0) c) := by
  unfold takenB
  rw [List.take_succ_eq_append_getElem h, List.any_append]
  simp [List.getD, h]
theorem txt_nil_cell (w : World) (B : Nat) (t' : Int) (j : Nat) : RwOwn w B (t', (j : Int), 1, 1, none, 0, 0) (t', (j : Int), 1, 1, []) := ⟨rfl, rfl, rfl, rfl, World.ownsRow_nil _ _ _ _⟩

set_option maxRecDepth 100000 in
set_option maxHeartbeats 8000000 in
theorem specTableRowIn_any (R C t' : Int) (a : Option Addr) (n cap : Nat) (l : List Cl) (w : World) (h : Tab w a n cap l) :
    Calls Try.prog 10 #[.agg #[.int .i64 R, .int .i64 C, .slice a n cap], .int .i64 t'] w fun z w' => TabRes w.heap.size (rowInB R C l t') (R + 1) C (inL t' C l) z w' ∧ Below w.heap.size w w' := by
  obtain ⟨i0, hi, hz0, hz1, hz2⟩ := info_parts Try.info44
  obtain ⟨ib, hbi, hbz, hbs, hbb⟩ := info_parts bool_info
  have H : Hid (Tab w a n cap l) := h
  clear h
  obtain ⟨ok, HX⟩ : ∃ x, Hid (okB R C l = x) := ⟨_, rfl⟩
  go_enter Try.func10, Try.ntmps10
  go_upto_region 1 with fail
  have B0 : Below w.heap.size w ((w.alloc (.cells #[.int .i64 R, .int .i64 C, .slice a n cap] 28)).alloc (.cells #[.int .i64 0, .int .i64 0, .slice none 0 0] 28)) := ((Below.refl _ _).alloc (Nat.le_refl _) _).alloc (by simp) _
  have G0 : RowAt ((w.alloc (.cells #[.int .i64 R, .int .i64 C, .slice a n cap] 28)).alloc (.cells #[.int .i64 0, .int .i64 0, .slice none 0 0] 28)) w.heap.size #[.int .i64 R, .int .i64 C, .slice a n cap] 28 := (rowAt_new w _ _).alloc _
  have G1 : RowAt ((w.alloc (.cells #[.int .i64 R, .int .i64 C, .slice a n cap] 28)).alloc (.cells #[.int .i64 0, .int .i64 0, .slice none 0 0] 28)) (w.heap.size + 1) #[.int .i64 0, .int .i64 0, .slice none 0 0] 28 := by
    have := rowAt_new (w.alloc (.cells #[.int .i64 R, .int .i64 C, .slice a n cap] 28)) #[.int .i64 0, .int .i64 0, .slice none 0 0] 28
    simpa using this
  have HT : Hid (Tab ((w.alloc (.cells #[.int .i64 R, .int .i64 C, .slice a n cap] 28)).alloc (.cells #[.int .i64 0, .int .i64 0, .slice none 0 0] 28)) a n cap l) := H.out.below B0
  generalize ((w.alloc (.cells #[.int .i64 R, .int .i64 C, .slice a n cap] 28)).alloc (.cells #[.int .i64 0, .int .i64 0, .slice none 0 0] 28)) = v at B0 G0 G1 HT ⊢
  have k0 : v.cell? ⟨w.heap.size, 0, none⟩ = some (.int .i64 R) := G0.cell 0
  have k1 : v.cell? ⟨w.heap.size, 1, none⟩ = some (.int .i64 C) := G0.cell 1
  have k2 : v.cell? ⟨w.heap.size, 2, none⟩ = some (.slice a n cap) := G0.cell 2
  have s0 := B0.size
  have z0 := G0.lt
  have z1 := G1.lt
  have HG0 : Hid (RowAt v w.heap.size #[.int .i64 R, .int .i64 C, .slice a n cap] 28) := G0
  have HG1 : Hid (RowAt v (w.heap.size + 1) #[.int .i64 0, .int .i64 0, .slice none 0 0] 28) := G1
  have HB0 : Hid (Below w.heap.size w v) := B0
  clear G0 G1 B0
  cases ok
  · have HNB : Hid (rowInB R C l t' = false) := by
      show rowInB R C l t' = false
      simp only [rowInB, HX.out, Bool.false_and]
    go_wp2_with (first | (go_at_call 27; refine (specTableOk_any R C a n cap l _ HT.out).mono ?_; rw [HX.out]; rintro e w1 ⟨rfl, hb1⟩; have HG2 : Hid (RowAt w1 (w.heap.size + 1) #[.int .i64 0, .int .i64 0, .slice none 0 0] 28) := HG1.out.below hb1 z1; have q0 := (hb1.cell (p := ⟨w.heap.size, 0, none⟩) z0).trans k0; have q1 := (hb1.cell (p := ⟨w.heap.size, 1, none⟩) z0).trans k1; have q2 := (hb1.cell (p := ⟨w.heap.size, 2, none⟩) z0).trans k2) | (refine wpList_store_row rfl 28 (.tmp 4) (.tmp 27) rfl (w.heap.size + 1) #[.int .i64 0, .int .i64 0, .slice none 0 0] rfl rfl 28 _ HG2.out tab_info rfl (cells3_one _ _ _ _ _) ?_))
    refine bodyPost_ret (v := .tuple #[.agg #[.int .i64 0, .int .i64 0, .slice none 0 0], .bool false]) ?_ rfl ⟨.inl ⟨HNB.out, rfl⟩, below_row (HB0.out.trans (hb1.mono s0)) (by omega) _⟩
    rw [results_cell_tmp rfl]
    simp [asAddr, Result.andThen, run_tabOf (RowAt.setRow HG2.out #[.int .i64 0, .int .i64 0, .slice none 0 0])]
  · have hg := gridP_of_okB HX.out
    obtain ⟨hR, hC, -, -⟩ := hg
    have hl25 : l.length ≤ 25 := (formB_of (show formB R C l = true by have := HX.out; simp only [okB, Bool.and_eq_true] at this; exact this.1)).2.2.1
    have HTL : Hid (∀ k, k < l.length → (l.getD k cl0).2.2.2.2.length ≤ 1000000) := fun k hk => by
      have := (stepB_of ((gridP_of_okB HX.out).2.2.1 k hk)).2.2
      simp only [textB, Bool.and_eq_true, decide_eq_true_eq] at this
      omega
    have HN : Hid (n = l.length) := H.out.1
    by_cases hin : 0 ≤ t' ∧ t' ≤ R
    case neg =>
      have HS0 : Hid (decide (0 ≤ t' ∧ t' ≤ R) = false) := decide_eq_false hin
      have HNB : Hid (rowInB R C l t' = false) := by
        show rowInB R C l t' = false
        simp only [rowInB, Bool.and_eq_false_iff, decide_eq_false_iff_not]
        omega
      go_wp2_with (first | (go_at_call 27; refine (specTableOk_any R C a n cap l _ HT.out).mono ?_; rw [HX.out]; rintro e w1 ⟨rfl, hb1⟩; have HG2 : Hid (RowAt w1 (w.heap.size + 1) #[.int .i64 0, .int .i64 0, .slice none 0 0] 28) := HG1.out.below hb1 z1; have q0 := (hb1.cell (p := ⟨w.heap.size, 0, none⟩) z0).trans k0; have q1 := (hb1.cell (p := ⟨w.heap.size, 1, none⟩) z0).trans k1; have q2 := (hb1.cell (p := ⟨w.heap.size, 2, none⟩) z0).trans k2) | (go_at_call 28; refine (l6In_of HS0.out _).mono ?_; rintro e w9 ⟨rfl, hw9⟩; subst w9) | (refine wpList_store_row rfl 28 (.tmp 4) (.tmp 27) rfl (w.heap.size + 1) #[.int .i64 0, .int .i64 0, .slice none 0 0] rfl rfl 28 _ HG2.out tab_info rfl (cells3_one _ _ _ _ _) ?_))
      refine bodyPost_ret (v := .tuple #[.agg #[.int .i64 0, .int .i64 0, .slice none 0 0], .bool false]) ?_ rfl ⟨.inl ⟨HNB.out, rfl⟩, below_row (HB0.out.trans (hb1.mono s0)) (by omega) _⟩
      rw [results_cell_tmp rfl]
      simp [asAddr, Result.andThen, run_tabOf (RowAt.setRow HG2.out #[.int .i64 0, .int .i64 0, .slice none 0 0])]
    have HS0 : Hid (decide (0 ≤ t' ∧ t' ≤ R) = true) := decide_eq_true hin
    by_cases hR2 : 5 ≤ R
    · have HNB : Hid (rowInB R C l t' = false) := by
        show rowInB R C l t' = false
        simp only [rowInB, Bool.and_eq_false_iff, decide_eq_false_iff_not]
        omega
      go_wp2_with (first | (go_at_call 27; refine (specTableOk_any R C a n cap l _ HT.out).mono ?_; rw [HX.out]; rintro e w1 ⟨rfl, hb1⟩; have HG2 : Hid (RowAt w1 (w.heap.size + 1) #[.int .i64 0, .int .i64 0, .slice none 0 0] 28) := HG1.out.below hb1 z1; have q0 := (hb1.cell (p := ⟨w.heap.size, 0, none⟩) z0).trans k0; have q1 := (hb1.cell (p := ⟨w.heap.size, 1, none⟩) z0).trans k1; have q2 := (hb1.cell (p := ⟨w.heap.size, 2, none⟩) z0).trans k2) | (go_at_call 28; refine (l6In_of HS0.out _).mono ?_; rintro e w9 ⟨rfl, hw9⟩; subst w9) | (refine wpList_store_row rfl 28 (.tmp 4) (.tmp 27) rfl (w.heap.size + 1) #[.int .i64 0, .int .i64 0, .slice none 0 0] rfl rfl 28 _ HG2.out tab_info rfl (cells3_one _ _ _ _ _) ?_))
      refine bodyPost_ret (v := .tuple #[.agg #[.int .i64 0, .int .i64 0, .slice none 0 0], .bool false]) ?_ rfl ⟨.inl ⟨HNB.out, rfl⟩, below_row (HB0.out.trans (hb1.mono s0)) (by omega) _⟩
      rw [results_cell_tmp rfl]
      simp [asAddr, Result.andThen, run_tabOf (RowAt.setRow HG2.out #[.int .i64 0, .int .i64 0, .slice none 0 0])]
    have HYB : Hid (rowInB R C l t' = true) := by
      show rowInB R C l t' = true
      simp only [rowInB, HX.out, Bool.true_and, Bool.and_eq_true, decide_eq_true_eq]
      omega
    have hok := HX.out
    obtain ⟨C, rfl⟩ : ∃ C' : Nat, C = C' := ⟨C.toNat, by omega⟩
    clear hok
    have HT1 := HT
    go_upto_region 3 with (first | (go_at_call 27; refine (specTableOk_any R C a n cap l _ HT.out).mono ?_; rw [HX.out]; rintro e w1 ⟨rfl, hb1⟩; have HG2 : Hid (RowAt w1 (w.heap.size + 1) #[.int .i64 0, .int .i64 0, .slice none 0 0] 28) := HG1.out.below hb1 z1; have q0 := (hb1.cell (p := ⟨w.heap.size, 0, none⟩) z0).trans k0; have q1 := (hb1.cell (p := ⟨w.heap.size, 1, none⟩) z0).trans k1; have q2 := (hb1.cell (p := ⟨w.heap.size, 2, none⟩) z0).trans k2) | (go_at_call 28; refine (l6In_of HS0.out _).mono ?_; rintro e w9 ⟨rfl, hw9⟩; subst w9))
    clear k0 k1 k2
    have s1 := hb1.size
    have HT2 : Hid (Tab w1 a n cap l) := HT.out.below hb1
    go_upto_region 4 with (go_at_call 29; refine (l2Copy_any R C a n cap l _ HT2.out (by omega) HTL.out).mono ?_; rintro e w2 ⟨⟨al, cl, rs, rfl, hOl⟩, hb2⟩)
    have s2 := hb2.size
    have HRL : Hid (rs.length = l.length) := hOl.2.1
    have HRN : Hid (∀ k, k < rs.length → (0 ≤ (rs.getD k rw0).1 ∧ (rs.getD k rw0).1 ≤ 5) ∧ (1 ≤ (rs.getD k rw0).2.2.1 ∧ (rs.getD k rw0).2.2.1 ≤ 5) ∧ (0 ≤ (rs.getD k rw0).2.1 ∧ 1 ≤ (rs.getD k rw0).2.2.2.1 ∧ (rs.getD k rw0).2.1 + (rs.getD k rw0).2.2.2.1 ≤ C)) := fun k hk => by
      obtain ⟨e0, e1, e2, e3, -⟩ := hOl.2.2.1 k hk
      have hk' : k < l.length := by rw [← HRL.out]; exact hk
      have := wiB_of (stepB_of ((gridP_of_okB HX.out).2.2.1 k hk')).1
      rw [e0, e1, e2, e3]
      omega
    have HRE : Hid (∀ k, k < rs.length → (rs.getD k rw0).1 = (l.getD k cl0).1 ∧ (rs.getD k rw0).2.1 = (l.getD k cl0).2.1 ∧ (rs.getD k rw0).2.2.1 = (l.getD k cl0).2.2.1 ∧ (rs.getD k rw0).2.2.2.1 = (l.getD k cl0).2.2.2.1) := fun k hk => by
      obtain ⟨e0, e1, e2, e3, -⟩ := hOl.2.2.1 k hk
      exact ⟨e0, e1, e2, e3⟩
    obtain ⟨N, hN⟩ : ∃ N, l.length = N := ⟨_, rfl⟩
    have HNN : Hid (l.length = N) := hN
    rw [hN] at hOl hl25 ⊢
    clear hN
    have R2 : RowAt (w2.alloc (.cells #[.int .i64 R, .int .i64 C, .slice al N cl] 28)) w2.heap.size #[.int .i64 R, .int .i64 C, .slice al N cl] 28 := rowAt_new _ _ _
    have B2 : Below w1.heap.size w1 (w2.alloc (.cells #[.int .i64 R, .int .i64 C, .slice al N cl] 28)) := hb2.alloc s2 _
    have O2 : OwnT (w2.alloc (.cells #[.int .i64 R, .int .i64 C, .slice al N cl] 28)) w1.heap.size (.slice al N cl) rs l := hOl.below ((Below.refl _ _).alloc (Nat.le_refl _) _)
    generalize (w2.alloc (.cells #[.int .i64 R, .int .i64 C, .slice al N cl] 28)) = v2 at R2 B2 O2 ⊢
    have r0 := (B2.cell (p := ⟨w.heap.size, 0, none⟩) (by show w.heap.size < w1.heap.size; omega)).trans q0
    have r1 := (B2.cell (p := ⟨w.heap.size, 1, none⟩) (by show w.heap.size < w1.heap.size; omega)).trans q1
    have f0 := R2.cell 0
    have f1 := R2.frozen 0
    have sv2 := B2.size
    have z2 := R2.lt
    have HQ1 : Hid (w1.cell? ⟨w.heap.size, 1, none⟩ = some (.int .i64 C)) := q1
    clear q0 q1 q2 hb2 hOl
    have f0' : v2.cell? ⟨w2.heap.size, 0, none⟩ = some (.int .i64 R) := f0
    clear f0
    go_upto_region 5 with fail
    have R3 : RowAt (v2.setCell ⟨w2.heap.size, 0, none⟩ (.int .i64 (R + 1))) w2.heap.size #[.int .i64 (R + 1), .int .i64 C, .slice al N cl] 28 := R2.setCell 0 (.int .i64 (R + 1))
    have B3 : Below w1.heap.size w1 (v2.setCell ⟨w2.heap.size, 0, none⟩ (.int .i64 (R + 1))) := B2.setCell (p := ⟨w2.heap.size, 0, none⟩) s2 _
    have hneG : (Value.slice al N cl).ownBlock ≠ some w2.heap.size := rowAt_ne R2 O2.1.row (by decide)
    have O3 : OwnT (v2.setCell ⟨w2.heap.size, 0, none⟩ (.int .i64 (R + 1))) w1.heap.size (.slice al N cl) rs l := ⟨own_set O2.1 _ _ hneG, O2.2.1, fun k hk => by
      obtain ⟨h0, h1, h2, h3, h4⟩ := O2.2.2.1 k hk
      exact ⟨h0, h1, h2, h3, own_set h4 _ _ (rowAt_ne R2 h4 (by decide))⟩, O2.2.2.2⟩
    have r3 : (v2.setCell ⟨w2.heap.size, 0, none⟩ (.int .i64 (R + 1))).cell? ⟨w.heap.size, 1, none⟩ = some (.int .i64 C) := (World.cell?_of_block (w := v2) (Below.heap_setCell v2 ⟨w2.heap.size, 0, none⟩ _ w.heap.size (by show w.heap.size ≠ w2.heap.size; omega))).trans r1
    clear f0' f1 r0 r1 R2 B2 O2
    generalize (v2.setCell ⟨w2.heap.size, 0, none⟩ (.int .i64 (R + 1))) = v3 at R3 B3 O3 r3 ⊢
    have sv3 := B3.size
    have z3 := R3.lt
    go_upto_region 7 with (at_make; refine wpList_make_full _ rfl (.tmp 35) (.tmp 35) 41 rfl w1.heap.size 4 ib (.bool false) 1 Try.underlying41 hbi hbz hbs .i64 .i64 C C C rfl rfl rfl rfl (by rw [hbb]; omega) (by unfold maxLen; omega) sv3 ?_; intro w4 hmk hgk)
    rw [made_bools] at hmk
    have B4 : Below v3.heap.size v3 w4 := ⟨hgk.os, hgk.tape, hgk.output, hgk.size, fun k hk => hgk.block k hk (by simp)⟩
    have sv4 := B4.size
    have R4 : RowAt w4 w2.heap.size #[.int .i64 (R + 1), .int .i64 C, .slice al N cl] 28 := R3.below B4 z3
    have O4 : OwnT w4 w1.heap.size (.slice al N cl) rs l := O3.below B4
    have W4 : Below w1.heap.size w1 w4 := B3.trans (B4.mono sv3)
    have r4 : w4.cell? ⟨w.heap.size, 1, none⟩ = some (.int .i64 C) := (B4.cell (p := ⟨w.heap.size, 1, none⟩) (by show w.heap.size < v3.heap.size; omega)).trans r3
    obtain ⟨T, hTe⟩ : ∃ T, v3.heap.size = T := ⟨_, rfl⟩
    rw [hTe] at hmk ⊢
    have hTw : w2.heap.size < T := by omega
    clear R3 B3 O3 r3 r4 B4 hgk
    go_wp2_with fail
    go_loopw [8] (fun iv wr => ∃ i : Nat, i ≤ N ∧ iv = .int .i64 i ∧ RowAt wr w2.heap.size #[.int .i64 (R + 1), .int .i64 C, .slice al N cl] 28 ∧ OwnT wr w1.heap.size (.slice al N cl) (mix (inRw t') rs i) (mix (inC t') l i) ∧ wr.ownsRow w1.heap.size 4 1 (.slice (some ⟨T, 0, none⟩) C C) C (boolL C (fun c : Nat => takenB t' (l.take i) c)) ∧ Below w1.heap.size w1 wr ∧ w4.heap.size ≤ wr.heap.size) (fun iv _ => N - (intOf iv).toNat)
    case atStart => exact ⟨0, Nat.zero_le _, rfl, R4, by rw [mix_zero, mix_zero]; exact O4, by simpa [takenB] using hmk, W4, Nat.le_refl _⟩
    case round =>
      clear R4 O4 hmk W4
      obtain ⟨i, hin', rfl, hR', hO', hK', hb', hs'⟩ := hrel
      have HRo : Hid (RowAt wr w2.heap.size #[.int .i64 (R + 1), .int .i64 C, .slice al N cl] 28) := hR'
      have HO : Hid (OwnT wr w1.heap.size (.slice al N cl) (mix (inRw t') rs i) (mix (inC t') l i)) := hO'
      have HK : Hid (wr.ownsRow w1.heap.size 4 1 (.slice (some ⟨T, 0, none⟩) C C) C (boolL C (fun c : Nat => takenB t' (l.take i) c))) := hK'
      have HB : Hid (Below w1.heap.size w1 wr) := hb'
      have hTl : T < wr.heap.size := (own_lt hK' rfl).2
      have zG := hR'.lt
      by_cases hlt : i < N
      · have hir : i < rs.length := by have := HRL.out; have := HNN.out; omega
        have hil : i < l.length := by have := HNN.out; omega
        obtain ⟨⟨n0, n1⟩, ⟨n2, n3⟩, n4, n5, n6⟩ := HRN.out i hir
        have hre := HRE.out i hir
        obtain ⟨⟨xr, xc, xd, xg, xa, xn, xq⟩, hx⟩ : ∃ x, x = rs.getD i rw0 := ⟨_, rfl⟩
        have HXr : Hid (rs.getD i rw0 = (xr, xc, xd, xg, xa, xn, xq)) := hx.symm
        rw [← hx] at n0 n1 n2 n3 n4 n5 n6 hre
        simp only at n0 n1 n2 n3 n4 n5 n6 hre
        have HRe : Hid (xr = (l.getD i cl0).1 ∧ xc = (l.getD i cl0).2.1 ∧ xd = (l.getD i cl0).2.2.1 ∧ xg = (l.getD i cl0).2.2.2.1) := hre
        clear hre
        obtain ⟨xc, rfl⟩ : ∃ c' : Nat, xc = c' := ⟨xc.toNat, by omega⟩
        obtain ⟨xg, rfl⟩ : ∃ c' : Nat, xg = c' := ⟨xg.toNat, by omega⟩
        rcases hO'.1.row.2 with ⟨hv, hz⟩ | ⟨g, cap', cur, hv, hgB, -⟩
        · exfalso; omega
        simp only [Value.slice.injEq, true_and] at hv
        obtain ⟨rfl, hcc⟩ := hv
        clear hcc
        have hrow := hO'.1.row
        have hml : i < (mix (inRw t') rs i).length := by rw [mix_len]; exact hir
        have hxl := hrow.1
        have hgT : g ≠ T := fun e => own_kinds hrow hK' (by decide) T rfl (by rw [e]; rfl)
        have hgG : g ≠ w2.heap.size := fun e => rowAt_ne hR' hrow (by decide) (by rw [e]; rfl)
        have hglt : g < wr.heap.size := (own_lt hrow rfl).2
        have hcl := hO'.1.rws.2.1
        have hcm := hO'.1.rws.2.2.1
        unfold maxLen at hcm
        have cell : ∀ j, j < 5 → wr.cell? ⟨g, i * 5 + j, none⟩ = (rwCells (xr, (xc : Int), xd, (xg : Int), xa, xn, xq))[j]? := fun j hj => by
          rw [hrow.cellAt (i * 5 + j) (by omega), flat5_get _ i j hml hj, mix_at _ _ _ _ hir, ← hx]
        have x0 : wr.cell? ⟨g, i * 5, none⟩ = some (.int .i64 xr) := cell 0 (by omega)
        have x1 : wr.cell? ⟨g, i * 5 + 1, none⟩ = some (.int .i64 xc) := cell 1 (by omega)
        have x2 : wr.cell? ⟨g, i * 5 + 2, none⟩ = some (.int .i64 xd) := cell 2 (by omega)
        have x3 : wr.cell? ⟨g, i * 5 + 3, none⟩ = some (.int .i64 xg) := cell 3 (by omega)
        have x4 : wr.cell? ⟨g, i * 5 + 4, none⟩ = some (.slice xa xn xq) := cell 4 (by omega)
        have fz0 := hrow.frozenAt (i * 5)
        have fz2 := hrow.frozenAt (i * 5 + 2)
        have k2 : wr.cell? ⟨w2.heap.size, 2, none⟩ = some (.slice (some ⟨g, 0, none⟩) N cl) := hR'.cell 2
        clear cell hR' hO' hK' hb' hrow hx hxl
        go_upto_region 10 with fail
        have bA : Below wr.heap.size wr (wr.alloc (.cells #[.int .i64 xr, .int .i64 xc, .int .i64 xd, .int .i64 xg, .slice xa xn xq] 44)) := (Below.refl _ _).alloc (Nat.le_refl _) _
        have RA : RowAt (wr.alloc (.cells #[.int .i64 xr, .int .i64 xc, .int .i64 xd, .int .i64 xg, .slice xa xn xq] 44)) wr.heap.size #[.int .i64 xr, .int .i64 xc, .int .i64 xd, .int .i64 xg, .slice xa xn xq] 44 := rowAt_new _ _ _
        generalize (wr.alloc (.cells #[.int .i64 xr, .int .i64 xc, .int .i64 xd, .int .i64 xg, .slice xa xn xq] 44)) = w5 at bA RA ⊢
        have s5 := bA.size
        have x0' := (bA.cell (p := ⟨g, i * 5, none⟩) hglt).trans x0
        have x2' := (bA.cell (p := ⟨g, i * 5 + 2, none⟩) hglt).trans x2
        have fz0' := (bA.frozen (p := ⟨g, i * 5, none⟩) hglt).trans fz0
        have fz2' := (bA.frozen (p := ⟨g, i * 5 + 2, none⟩) hglt).trans fz2
        have k2' := (bA.cell (p := ⟨w2.heap.size, 2, none⟩) zG).trans k2
        have y0 : w5.cell? ⟨wr.heap.size, 0, none⟩ = some (.int .i64 xr) := RA.cell 0
        have y2 : w5.cell? ⟨wr.heap.size, 2, none⟩ = some (.int .i64 xd) := RA.cell 2
        have HR5 : Hid (RowAt w5 w2.heap.size #[.int .i64 (R + 1), .int .i64 C, .slice (some ⟨g, 0, none⟩) N cl] 28) := HRo.out.below bA zG
        have HO5 : Hid (OwnT w5 w1.heap.size (.slice (some ⟨g, 0, none⟩) N cl) (mix (inRw t') rs i) (mix (inC t') l i)) := HO.out.below bA
        have HK5 : Hid (w5.ownsRow w1.heap.size 4 1 (.slice (some ⟨T, 0, none⟩) C C) C (boolL C (fun c : Nat => takenB t' (l.take i) c))) := own_below HK.out bA
        have HB5 : Hid (Below w1.heap.size w1 w5) := HB.out.trans (bA.mono (by omega))
        have HRA : Hid (RowAt w5 wr.heap.size #[.int .i64 xr, .int .i64 xc, .int .i64 xd, .int .i64 xg, .slice xa xn xq] 44) := RA
        have hgw : g ≠ wr.heap.size := by omega
        clear x0 x1 x2 x3 x4 fz0 fz2 k2 bA RA
        by_cases d1 : t' ≤ xr
        · have hin1 : inRw t' (rs.getD i rw0) = (xr + 1, (xc : Int), xd, (xg : Int), xa, xn, xq) := by
            rw [HXr.out]
            unfold inRw
            rw [if_pos (show t' ≤ xr from d1)]
          have hin2 : inC t' (l.getD i cl0) = ((l.getD i cl0).1 + 1, (l.getD i cl0).2.1, (l.getD i cl0).2.2.1, (l.getD i cl0).2.2.2.1, (l.getD i cl0).2.2.2.2) := by
            unfold inC
            rw [if_pos (by rw [← HRe.out.1]; exact d1)]
          have HP : Hid (OwnT (w5.setCell ⟨g, i * 5 + 0, none⟩ (.int .i64 (xr + 1))) w1.heap.size (.slice (some ⟨g, 0, none⟩) N cl) (mix (inRw t') rs (i + 1)) (mix (inC t') l (i + 1))) := by
            show OwnT _ _ _ _ _
            rw [mix_succ (inRw t') rs i rw0 hir, mix_succ (inC t') l i cl0 hil, hin1, hin2]
            refine HO5.out.put i 0 hml (by omega) _ _ _ ?_ ?_ ?_ ?_
            · rw [mix_at _ _ _ _ hir, HXr.out]; rfl
            · rw [mix_at _ _ _ _ hir, HXr.out]; rfl
            · rw [mix_at _ _ _ _ hil]
            · have := HRe.out
              simp only
              omega
          have HQ : Hid (boolL C (fun c : Nat => takenB t' (l.take (i + 1)) c) = boolL C (fun c : Nat => takenB t' (l.take i) c)) := boolL_same (fun c _ => by
            rw [taken_take t' l i hil]
            have : overB t' (l.getD i cl0) c = false := decide_eq_false (by rw [← HRe.out.1]; omega)
            rw [this, Bool.or_false])
          clear hin1 hin2
          go_wp2_with fail
          go_roundw
          case rel =>
            refine ⟨i + 1, by omega, by go_num, HR5.out.other _ _ (by show w2.heap.size ≠ g; omega), HP.out, ?_, HB5.out.setCell (p := ⟨g, i * 5, none⟩) hgB _, by simp [World.setCell]; omega⟩
            rw [HQ.out]
            exact own_set HK5.out _ _ (fun e => by simp [Value.ownBlock] at e; omega)
          case measure => simp [intOf]; omega
        by_cases d2 : t' < xr + xd
        · have hin1 : inRw t' (rs.getD i rw0) = (xr, (xc : Int), xd + 1, (xg : Int), xa, xn, xq) := by
            rw [HXr.out]
            unfold inRw
            rw [if_neg (show ¬ t' ≤ xr from d1), if_pos (show t' < xr + xd from d2)]
          have hin2 : inC t' (l.getD i cl0) = ((l.getD i cl0).1, (l.getD i cl0).2.1, (l.getD i cl0).2.2.1 + 1, (l.getD i cl0).2.2.2.1, (l.getD i cl0).2.2.2.2) := by
            unfold inC
            rw [if_neg (by rw [← HRe.out.1]; exact d1), if_pos (by rw [← HRe.out.1, ← HRe.out.2.2.1]; exact d2)]
          have HP : Hid (OwnT (w5.setCell ⟨g, i * 5 + 2, none⟩ (.int .i64 (xd + 1))) w1.heap.size (.slice (some ⟨g, 0, none⟩) N cl) (mix (inRw t') rs (i + 1)) (mix (inC t') l (i + 1))) := by
            show OwnT _ _ _ _ _
            rw [mix_succ (inRw t') rs i rw0 hir, mix_succ (inC t') l i cl0 hil, hin1, hin2]
            refine HO5.out.put i 2 hml (by omega) _ _ _ ?_ ?_ ?_ ?_
            · rw [mix_at _ _ _ _ hir, HXr.out]; rfl
            · rw [mix_at _ _ _ _ hir, HXr.out]; rfl
            · rw [mix_at _ _ _ _ hil]
            · have := HRe.out
              simp only
              omega
          have HQ : Hid (boolL C (fun c : Nat => takenB t' (l.take (i + 1)) c) = boolL C (fun c : Nat => takenB t' (l.take i) c || decide (xc ≤ c ∧ c < xc + xg))) := boolL_same (fun c _ => by
            rw [taken_take t' l i hil]
            congr 1
            unfold overB
            have := HRe.out
            rw [decide_eq_decide, ← this.1, ← this.2.1, ← this.2.2.1, ← this.2.2.2]
            omega)
          clear hin1 hin2
          go_upto_region 14 with fail
          have HR6 : Hid (RowAt (w5.setCell ⟨g, i * 5 + 2, none⟩ (.int .i64 (xd + 1))) w2.heap.size #[.int .i64 (R + 1), .int .i64 C, .slice (some ⟨g, 0, none⟩) N cl] 28) := HR5.out.other _ _ (by show w2.heap.size ≠ g; omega)
          have HA6 : Hid (RowAt (w5.setCell ⟨g, i * 5 + 2, none⟩ (.int .i64 (xd + 1))) wr.heap.size #[.int .i64 xr, .int .i64 xc, .int .i64 xd, .int .i64 xg, .slice xa xn xq] 44) := HRA.out.other _ _ (by show wr.heap.size ≠ g; omega)
          have HK6 : Hid ((w5.setCell ⟨g, i * 5 + 2, none⟩ (.int .i64 (xd + 1))).ownsRow w1.heap.size 4 1 (.slice (some ⟨T, 0, none⟩) C C) C (boolL C (fun c : Nat => takenB t' (l.take i) c))) := own_set HK5.out _ _ (fun e => by simp [Value.ownBlock] at e; omega)
          have HB6 : Hid (Below w1.heap.size w1 (w5.setCell ⟨g, i * 5 + 2, none⟩ (.int .i64 (xd + 1)))) := HB5.out.setCell (p := ⟨g, i * 5 + 2, none⟩) hgB _
          have sz6 : wr.heap.size < (w5.setCell ⟨g, i * 5 + 2, none⟩ (.int .i64 (xd + 1))).heap.size := HA6.out.lt
          clear x0' x2' fz0' fz2' k2' y0 y2
          generalize (w5.setCell ⟨g, i * 5 + 2, none⟩ (.int .i64 (xd + 1))) = w6 at HP HR6 HA6 HK6 HB6 sz6 ⊢
          obtain ⟨S, hSe⟩ : ∃ S, wr.heap.size = S := ⟨_, rfl⟩
          rw [hSe] at HA6 sz6 hTl hglt hs' zG hgw ⊢
          clear HR5 HO5 HK5 HB5 HRA HRo HO HK HB s5 hSe
          go_wp2_with fail
          go_loopw [10] (fun kv wq => ∃ k : Nat, k ≤ xg ∧ kv = .int .i64 k ∧ RowAt wq S #[.int .i64 xr, .int .i64 xc, .int .i64 xd, .int .i64 xg, .slice xa xn xq] 44 ∧ RowAt wq w2.heap.size #[.int .i64 (R + 1), .int .i64 C, .slice (some ⟨g, 0, none⟩) N cl] 28 ∧ OwnT wq w1.heap.size (.slice (some ⟨g, 0, none⟩) N cl) (mix (inRw t') rs (i + 1)) (mix (inC t') l (i + 1)) ∧ wq.ownsRow w1.heap.size 4 1 (.slice (some ⟨T, 0, none⟩) C C) C (boolL C (fun c : Nat => takenB t' (l.take i) c || decide (xc ≤ c ∧ c < xc + k))) ∧ Below w1.heap.size w1 wq ∧ S < wq.heap.size) (fun kv _ => xg - (intOf kv).toNat)
          case atStart => exact ⟨0, Nat.zero_le _, rfl, HA6.out, HR6.out, HP.out, by
            rw [boolL_same (q := fun c : Nat => takenB t' (l.take i) c) (fun c _ => by rw [decide_eq_false (by omega), Bool.or_false])]
            exact HK6.out, HB6.out, sz6⟩
          case round =>
            clear HA6 HR6 HP HK6 HB6
            obtain ⟨k, hk, rfl, hA7, hR7, hO7, hK7, hb7, hs7⟩ := hrel
            have HA7 : Hid (RowAt wr S #[.int .i64 xr, .int .i64 xc, .int .i64 xd, .int .i64 xg, .slice xa xn xq] 44) := hA7
            have HR7 : Hid (RowAt wr w2.heap.size #[.int .i64 (R + 1), .int .i64 C, .slice (some ⟨g, 0, none⟩) N cl] 28) := hR7
            have HO7 : Hid (OwnT wr w1.heap.size (.slice (some ⟨g, 0, none⟩) N cl) (mix (inRw t') rs (i + 1)) (mix (inC t') l (i + 1))) := hO7
            have HK7 : Hid (wr.ownsRow w1.heap.size 4 1 (.slice (some ⟨T, 0, none⟩) C C) C (boolL C (fun c : Nat => takenB t' (l.take i) c || decide (xc ≤ c ∧ c < xc + k)))) := hK7
            have HB7 : Hid (Below w1.heap.size w1 wr) := hb7
            have u1 : wr.cell? ⟨S, 1, none⟩ = some (.int .i64 xc) := hA7.cell 1
            have u3 : wr.cell? ⟨S, 3, none⟩ = some (.int .i64 xg) := hA7.cell 3
            have hTl7 : w1.heap.size ≤ T := (own_lt hK7 rfl).1
            by_cases hlk : k < xg
            · have hck : (xc : Int) + k < C := by omega
              obtain ⟨b7, hb7c⟩ : ∃ b : Bool, wr.cell? ⟨T, xc + k, none⟩ = some (.bool b) := ⟨_, (hK7.cellAt (xc + k) (by omega)).trans (boolL_get C _ (xc + k) (by omega))⟩
              have hb7f := hK7.frozenAt (xc + k)
              clear hA7 hR7 hO7 hK7 hb7
              go_wp2_with fail
              go_roundw
              case rel =>
                obtain ⟨p1, -⟩ := HK7.out.stored (xc + k) (.bool true)
                rw [boolL_set] at p1
                refine ⟨k + 1, by omega, by go_num, HA7.out.other _ _ (by show S ≠ T; omega), HR7.out.other _ _ (by show w2.heap.size ≠ T; omega), ⟨own_set HO7.out.1 _ _ (fun e => by simp [Value.ownBlock] at e; omega), HO7.out.2.1, fun q hq => by
                  obtain ⟨h0, h1, h2, h3, h4⟩ := HO7.out.2.2.1 q hq
                  exact ⟨h0, h1, h2, h3, own_set h4 _ _ (fun e => own_kinds h4 HK7.out (by decide) T rfl e)⟩, HO7.out.2.2.2⟩, ?_, HB7.out.setCell (p := ⟨T, xc + k, none⟩) hTl7 _, by simp [World.setCell]; omega⟩
                rw [boolL_same (q := fun c : Nat => if c = xc + k then true else (takenB t' (l.take i) c || decide (xc ≤ c ∧ c < xc + k))) (fun c _ => by
                  by_cases hc : c = xc + k
                  · rw [if_pos hc, decide_eq_true (by omega), Bool.or_true]
                  · rw [if_neg hc]
                    congr 1
                    exact decide_eq_decide.2 (by omega))]
                exact p1
              case measure => simp [intOf]; omega
            · have ek : k = xg := by omega
              clear hA7 hR7 hO7 hK7 hb7
              go_wp2_with fail
              go_roundw
              case rel =>
                refine ⟨i + 1, by omega, by go_num, HR7.out, HO7.out, ?_, HB7.out, by omega⟩
                rw [HQ.out, ← ek]
                exact HK7.out
              case measure => simp [intOf]; omega
        · have hin1 : inRw t' (rs.getD i rw0) = rs.getD i rw0 := by
            rw [HXr.out]
            unfold inRw
            rw [if_neg (show ¬ t' ≤ xr from d1), if_neg (show ¬ t' < xr + xd from d2)]
          have hin2 : inC t' (l.getD i cl0) = l.getD i cl0 := by
            unfold inC
            rw [if_neg (by rw [← HRe.out.1]; exact d1), if_neg (by rw [← HRe.out.1, ← HRe.out.2.2.1]; exact d2)]
          have HM1 : Hid (mix (inRw t') rs (i + 1) = mix (inRw t') rs i) := mix_same _ _ _ rw0 hir hin1
          have HM2 : Hid (mix (inC t') l (i + 1) = mix (inC t') l i) := mix_same _ _ _ cl0 hil hin2
          have HQ : Hid (boolL C (fun c : Nat => takenB t' (l.take (i + 1)) c) = boolL C (fun c : Nat => takenB t' (l.take i) c)) := boolL_same (fun c _ => by
            rw [taken_take t' l i hil]
            have : overB t' (l.getD i cl0) c = false := decide_eq_false (by rw [← HRe.out.1, ← HRe.out.2.2.1]; omega)
            rw [this, Bool.or_false])
          clear hin1 hin2
          go_wp2_with fail
          go_roundw
          case rel =>
            refine ⟨i + 1, by omega, by go_num, HR5.out, ?_, ?_, HB5.out, by omega⟩
            · rw [HM1.out, HM2.out]
              exact HO5.out
            · rw [HQ.out]
              exact HK5.out
          case measure => simp [intOf]; omega
      · have e : i = N := by omega
        subst e
        have k2 : wr.cell? ⟨w2.heap.size, 2, none⟩ = some (.slice al i cl) := hR'.cell 2
        rw [mix_all _ _ _ (by have := HRL.out; have := HNN.out; omega), mix_all _ _ _ (by have := HNN.out; omega)] at hO'
        rw [List.take_of_length_le (by have := HNN.out; omega)] at hK'
        have HO1 : Hid (OwnT wr w1.heap.size (.slice al i cl) (rs.map (inRw t')) (l.map (inC t'))) := hO'
        have HK1 : Hid (wr.ownsRow w1.heap.size 4 1 (.slice (some ⟨T, 0, none⟩) C C) C (boolL C (fun c : Nat => takenB t' l c))) := hK'
        obtain ⟨p, HPd⟩ : ∃ p : Nat → Bool, Hid ((fun c : Nat => takenB t' l c) = p) := ⟨_, rfl⟩
        rw [HPd.out] at HK1
        have k1 : wr.cell? ⟨w.heap.size, 1, none⟩ = some (.int .i64 C) := (HB.out.cell (p := ⟨w.heap.size, 1, none⟩) (by show w.heap.size < w1.heap.size; omega)).trans HQ1.out
        clear hR' hO' hK' hb' HO HK
        obtain ⟨rs1, HRS⟩ : ∃ rs1, Hid (rs.map (inRw t') = rs1) := ⟨_, rfl⟩
        obtain ⟨l1, HLS⟩ : ∃ l1, Hid (l.map (inC t') = l1) := ⟨_, rfl⟩
        rw [HRS.out, HLS.out] at HO1
        have HNi : Hid (i = rs1.length) := HO1.out.1.len
        go_wp2_with fail
        clear k2
        go_loopw [11] (fun jv wr => ∃ (j : Nat) (a' : Option Addr) (c' m' : Nat), j ≤ C ∧ jv = .int .i64 j ∧ m' = i + (newRw t' p j).length ∧ RowAt wr w2.heap.size #[.int .i64 (R + 1), .int .i64 C, .slice a' m' c'] 28 ∧ OwnR wr w1.heap.size (.slice a' m' c') (rs1 ++ newRw t' p j) ∧ TxtOwn wr w1.heap.size (Value.slice a' m' c').ownBlock (rs1 ++ newRw t' p j) (l1 ++ newCl t' p j) ∧ wr.ownsRow w1.heap.size 4 1 (.slice (some ⟨T, 0, none⟩) C C) C (boolL C p) ∧ Below w1.heap.size w1 wr ∧ w4.heap.size ≤ wr.heap.size) (fun jv _ => C - (intOf jv).toNat)
        case atStart => exact ⟨0, al, cl, i, Nat.zero_le _, rfl, by simp [newRw], HRo.out, by simpa [newRw] using HO1.out.1, by simpa [newRw, newCl] using HO1.out.2, HK1.out, HB.out, hs'⟩
        case round =>
          clear HO1 HK1 HB HRo k1 hTl zG hs'
          obtain ⟨j, a', c', m', hj, rfl, hm', hR', hO', hX', hK', hb', hs'⟩ := hrel
          have hml := newRw_len t' p j
          have HM' : Hid (m' = i + (newRw t' p j).length) := hm'
          have HRo : Hid (RowAt wr w2.heap.size #[.int .i64 (R + 1), .int .i64 C, .slice a' m' c'] 28) := hR'
          have HO : Hid (OwnR wr w1.heap.size (.slice a' m' c') (rs1 ++ newRw t' p j)) := hO'
          have HXt : Hid (TxtOwn wr w1.heap.size (Value.slice a' m' c').ownBlock (rs1 ++ newRw t' p j) (l1 ++ newCl t' p j)) := hX'
          have HK : Hid (wr.ownsRow w1.heap.size 4 1 (.slice (some ⟨T, 0, none⟩) C C) C (boolL C p)) := hK'
          have HB : Hid (Below w1.heap.size w1 wr) := hb'
          have k1 : wr.cell? ⟨w.heap.size, 1, none⟩ = some (.int .i64 C) := (hb'.cell (p := ⟨w.heap.size, 1, none⟩) (by show w.heap.size < w1.heap.size; omega)).trans HQ1.out
          have k2 : wr.cell? ⟨w2.heap.size, 2, none⟩ = some (.slice a' m' c') := hR'.cell 2
          have zG := hR'.lt
          have hcap := hO'.rws.2.1
          have hcm := hO'.rws.2.2.1
          unfold maxLen at hcm
          have hm30 : m' ≤ 30 := by omega
          by_cases hlj : j < C
          · have t1 : wr.cell? ⟨T, j, none⟩ = some (.bool (p j)) := (hK'.cellAt j (by omega)).trans (boolL_get C p j hlj)
            clear hR' hO' hX' hK' hb' hm' hml
            cases hpj : p j
            · rw [hpj] at t1
              have HPj : Hid (p j = false) := hpj
              clear hpj
              go_wp2_with (at_builtin; refine wpList_append_own _ rfl (.tmp 102) (.tmp 106) 26 rfl w1.heap.size 44 i0 _ 5 56 Try.underlying26 hi hz0 hz1 hz2 rfl (by decide) (.slice a' m' c') _ _ rfl (HO.out.row.alloc _) ⟨wr.heap.size, 0, none⟩ 1 1 [.int .i64 t', .int .i64 (j : Int), .int .i64 1, .int .i64 1, .slice none 0 0] rfl rfl (cell_five_new _ _ _ _ _ _ _) (five_oneCell _ _ _ _ _ _ _) (by unfold maxLen; omega) (by omega) (by simp; omega) ?_; intro v' w5 hown' hgrow _; obtain ⟨a5, c5, rfl, ho5, hb5⟩ := ownR_step (B := w1.heap.size) (w := wr) (s := (t', (j : Int), 1, 1, none, 0, 0)) HO.out (Below.refl _ _) (by omega) hown' hgrow; have R5 := RowAt.grown (HRo.out.alloc _) hgrow (rowAt_ne HRo.out HO.out.row (by decide)); have q2 : w5.cell? ⟨w2.heap.size, 2, none⟩ = some (.slice a' m' c') := R5.cell 2; have q3 := R5.frozen 2)
              go_roundw
              case rel =>
                have s5 := hgrow.size
                simp at s5
                have eR : rs1 ++ newRw t' p (j + 1) = (rs1 ++ newRw t' p j) ++ [(t', (j : Int), 1, 1, none, 0, 0)] := by rw [newRw_put t' p j HPj.out, List.append_assoc]
                have eC : l1 ++ newCl t' p (j + 1) = (l1 ++ newCl t' p j) ++ [(t', (j : Int), 1, 1, [])] := by rw [newCl_put t' p j HPj.out, List.append_assoc]
                have t5 : TxtOwn w5 w1.heap.size (Value.slice a' m' c').ownBlock (rs1 ++ newRw t' p j) (l1 ++ newCl t' p j) := (HXt.out.below ((Below.refl _ _).alloc (Nat.le_refl _) _)).grown hgrow (fun k hk b hb => HXt.out.2.2.1 k hk b hb)
                have t6 := t5.snoc (C := wr.heap.size) (x := (t', (j : Int), 1, 1, none, 0, 0)) (y := (t', (j : Int), 1, 1, [])) (txt_nil_cell _ _ _ _) (fun b hb => by simp [rwT, Value.ownBlock] at hb) (fun k hk b hb => HXt.out.blockLt k hk b hb) (fun b hb => by simp [rwT, Value.ownBlock] at hb)
                have B5 : Below w1.heap.size w1 w5 := ((HB.out).alloc (by omega) _).grown hgrow (by simp; omega) (fun k hk => (own_lt HO.out.row hk).1)
                have hneG : (Value.slice a5 (m' + 1) c5).ownBlock ≠ some w2.heap.size := rowAt_ne R5 ho5.row (by decide)
                refine ⟨j + 1, a5, c5, m' + 1, by omega, by go_num, ?_, R5.setCell 2 (.slice a5 (m' + 1) c5), ?_, ?_, ?_, B5.setCell (p := ⟨w2.heap.size, 2, none⟩) s2 (.slice a5 (m' + 1) c5), by simp [World.setCell]; omega⟩
                · have e9 := HM'.out
                  rw [newRw_put t' p j HPj.out, List.length_append]
                  simp only [List.length_cons, List.length_nil]
                  omega
                · rw [eR]
                  exact own_set ho5 _ _ hneG
                · rw [eR, eC]
                  have t7 := t6.anew ho5
                  exact ⟨t7.1, fun q hq => by
                    obtain ⟨h0, h1, h2, h3, h4⟩ := t7.2.1 q hq
                    exact ⟨h0, h1, h2, h3, own_set h4 _ _ (rowAt_ne R5 h4 (by decide))⟩, t7.2.2⟩
                · exact own_set (own_grown (own_below HK.out ((Below.refl _ _).alloc (Nat.le_refl _) _)) hgrow (fun g hg e => own_kinds HO.out.row HK.out (by decide) g hg e)) _ _ (fun e => by simp [Value.ownBlock] at e; omega)
              case measure => simp [intOf]; omega
            · rw [hpj] at t1
              have HPj : Hid (p j = true) := hpj
              clear hpj
              go_wp2_with fail
              go_roundw
              case rel =>
                refine ⟨j + 1, a', c', m', by omega, by go_num, ?_, HRo.out, ?_, ?_, HK.out, HB.out, hs'⟩
                · rw [newRw_skip t' p j HPj.out]
                  exact HM'.out
                · rw [newRw_skip t' p j HPj.out]
                  exact HO.out
                · rw [newRw_skip t' p j HPj.out, newCl_skip t' p j HPj.out]
                  exact HXt.out
              case measure => simp [intOf]; omega
          · have e : j = C := by omega
            subst e
            clear hR' hO' hX' hK' hb' hm' hml
            go_upto_region 24 with (go_at_call 30; refine (l2Sort_any a' m' c' (rs1 ++ newRw t' p j) _ HO.out.rws (by omega)).mono ?_; rintro e w3 ⟨⟨a3, c3, rfl, ho3⟩, hb3⟩; have R3 := HRo.out.below hb3 zG; have q2 : w3.cell? ⟨w2.heap.size, 2, none⟩ = some (.slice a' m' c') := R3.cell 2; have q3 := R3.frozen 2)
            have sz3 := hb3.size
            have R4 : RowAt (w3.setCell ⟨w2.heap.size, 2, none⟩ (.slice a3 m' c3)) w2.heap.size #[.int .i64 (R + 1), .int .i64 j, .slice a3 m' c3] 28 := R3.setCell 2 (.slice a3 m' c3)
            have B4 : Below w1.heap.size w1 (w3.setCell ⟨w2.heap.size, 2, none⟩ (.slice a3 m' c3)) := (HB.out.trans (hb3.mono (by omega))).setCell (p := ⟨w2.heap.size, 2, none⟩) s2 _
            have O4 : OwnR (w3.setCell ⟨w2.heap.size, 2, none⟩ (.slice a3 m' c3)) w1.heap.size (.slice a3 m' c3) (sortR (rs1 ++ newRw t' p j)) := own_set (own_less ho3 (by omega)) _ _ (rowAt_ne R3 ho3.row (by decide))
            have T4 : TxtOwn (w3.setCell ⟨w2.heap.size, 2, none⟩ (.slice a3 m' c3)) w1.heap.size (Value.slice a3 m' c3).ownBlock (sortR (rs1 ++ newRw t' p j)) (sortC (l1 ++ newCl t' p j)) := by
              have t7 := (HXt.out.sort).below hb3
              have t8 : TxtOwn (w3.setCell ⟨w2.heap.size, 2, none⟩ (.slice a3 m' c3)) w1.heap.size (Value.slice a' m' c').ownBlock (sortR (rs1 ++ newRw t' p j)) (sortC (l1 ++ newCl t' p j)) := ⟨t7.1, fun q hq => by
                obtain ⟨h0, h1, h2, h3, h4⟩ := t7.2.1 q hq
                exact ⟨h0, h1, h2, h3, own_set h4 _ _ (rowAt_ne R3 h4 (by decide))⟩, t7.2.2⟩
              exact t8.anew O4
            have HEL : Hid (sortC (l1 ++ newCl t' p j) = inL t' j l) := by
              show sortC (l1 ++ newCl t' p j) = sortC (inM t' j l)
              unfold inM newI newCl
              rw [← HLS.out, ← HPd.out, Int.toNat_natCast]
            rw [HEL.out] at T4
            have HML : Hid (m' = (inL t' j l).length) := by
              show m' = (inL t' j l).length
              have e1 := O4.len
              have e2 := T4.1
              omega
            clear q2 q3 R3 k1 k2 ho3
            generalize (w3.setCell ⟨w2.heap.size, 2, none⟩ (.slice a3 m' c3)) = w5 at R4 B4 O4 T4 ⊢
            have HO4 : Hid (OwnR w5 w1.heap.size (.slice a3 m' c3) (sortR (rs1 ++ newRw t' p j))) := O4
            have HT4 : Hid (TxtOwn w5 w1.heap.size (Value.slice a3 m' c3).ownBlock (sortR (rs1 ++ newRw t' p j)) (inL t' j l)) := T4
            have HB4 : Hid (Below w1.heap.size w1 w5) := B4
            have k0 : w5.cell? ⟨w2.heap.size, 0, none⟩ = some (.int .i64 (R + 1)) := R4.cell 0
            have k1 : w5.cell? ⟨w2.heap.size, 1, none⟩ = some (.int .i64 j) := R4.cell 1
            have k2 : w5.cell? ⟨w2.heap.size, 2, none⟩ = some (.slice a3 m' c3) := R4.cell 2
            have HG4 : Hid (RowAt w5 (w.heap.size + 1) #[.int .i64 0, .int .i64 0, .slice none 0 0] 28) := HG2.out.below B4 (by omega)
            clear O4 T4 B4 R4
            go_wp2_with (refine wpList_store_row rfl 28 (.tmp 4) (.tmp 113) rfl (w.heap.size + 1) #[.int .i64 (R + 1), .int .i64 j, .slice a3 m' c3] rfl rfl 28 _ HG4.out tab_info rfl (cells3_one _ _ _ _ _) ?_)
            refine bodyPost_ret (v := .tuple #[.agg #[.int .i64 (R + 1), .int .i64 j, .slice a3 m' c3], .bool true]) ?_ rfl ⟨.inr ⟨HYB.out, a3, c3, sortR (rs1 ++ newRw t' p j), by rw [← HML.out], ?_⟩, below_row ((HB0.out.trans (hb1.mono s0)).trans (HB4.out.mono (by omega))) (by omega) _⟩
            · rw [results_cell_tmp rfl]
              simp [asAddr, Result.andThen, run_tabOf (RowAt.setRow HG4.out #[.int .i64 (R + 1), .int .i64 j, .slice a3 m' c3])]
            · rw [← HML.out]
              exact OwnT.less (B' := w1.heap.size) ⟨own_row HO4.out _ _ (fun e => by have := (own_lt HO4.out.row e).1; omega), HT4.out.rowLow _ _ (by omega)⟩ (by omega)
end Go.Proofs.Yteghidjbcpmfbaa
namespace Go.Proofs.Yteghidjbcpmfbaa
open Go.RowKit

set_option maxRecDepth 100000 in
set_option maxHeartbeats 8000000 in
theorem specTableColIn_any (R C t' : Int) (a : Option Addr) (n cap : Nat) (l : List Cl) (w : World) (h : Tab w a n cap l) :
    Calls Try.prog 18 #[.agg #[.int .i64 R, .int .i64 C, .slice a n cap], .int .i64 t'] w fun z w' => TabRes w.heap.size (rowInB (tX R C l) (tY R C l) (tL R C l) t') (tY R C l) ((tX R C l) + 1) (turnL (inL t' (tY R C l) (tL R C l))) z w' ∧ Below w.heap.size w w' := by
  have H : Hid (Tab w a n cap l) := h
  clear h
  go_enter Try.func18, Try.ntmps18
  go_upto_region 1 with fail
  have B0 : Below w.heap.size w ((w.alloc (.cells #[.int .i64 R, .int .i64 C, .slice a n cap] 28)).alloc (.cells #[.int .i64 0, .int .i64 0, .slice none 0 0] 28)) := ((Below.refl _ _).alloc (Nat.le_refl _) _).alloc (by simp) _
  have G0 : RowAt ((w.alloc (.cells #[.int .i64 R, .int .i64 C, .slice a n cap] 28)).alloc (.cells #[.int .i64 0, .int .i64 0, .slice none 0 0] 28)) w.heap.size #[.int .i64 R, .int .i64 C, .slice a n cap] 28 := (rowAt_new w _ _).alloc _
  have G1 : RowAt ((w.alloc (.cells #[.int .i64 R, .int .i64 C, .slice a n cap] 28)).alloc (.cells #[.int .i64 0, .int .i64 0, .slice none 0 0] 28)) (w.heap.size + 1) #[.int .i64 0, .int .i64 0, .slice none 0 0] 28 := by
    have := rowAt_new (w.alloc (.cells #[.int .i64 R, .int .i64 C, .slice a n cap] 28)) #[.int .i64 0, .int .i64 0, .slice none 0 0] 28
    simpa using this
  have HT : Hid (Tab ((w.alloc (.cells #[.int .i64 R, .int .i64 C, .slice a n cap] 28)).alloc (.cells #[.int .i64 0, .int .i64 0, .slice none 0 0] 28)) a n cap l) := H.out.below B0
  generalize ((w.alloc (.cells #[.int .i64 R, .int .i64 C, .slice a n cap] 28)).alloc (.cells #[.int .i64 0, .int .i64 0, .slice none 0 0] 28)) = v at B0 G0 G1 HT ⊢
  have k0 : v.cell? ⟨w.heap.size, 0, none⟩ = some (.int .i64 R) := G0.cell 0
  have k1 : v.cell? ⟨w.heap.size, 1, none⟩ = some (.int .i64 C) := G0.cell 1
  have k2 : v.cell? ⟨w.heap.size, 2, none⟩ = some (.slice a n cap) := G0.cell 2
  have z1 := G1.lt
  have s0 := B0.size
  have HG1 : Hid (RowAt v (w.heap.size + 1) #[.int .i64 0, .int .i64 0, .slice none 0 0] 28) := G1
  have HB0 : Hid (Below w.heap.size w v) := B0
  clear G0 G1 B0
  go_wp2_with fail
  refine (specTableTurn_any R C a n cap l _ HT.out).mono ?_
  intro e w1 hr
  obtain ⟨⟨x, y, a1, n1, c1, l1, rs1, rfl, ho1, hx, hy, hl⟩, hb1⟩ := tRes_of hr
  have s1 := hb1.size
  have HO1 : Hid (OwnT w1 v.heap.size (.slice a1 n1 c1) rs1 l1) := ho1
  have HXY : Hid (x = tX R C l ∧ y = tY R C l ∧ l1 = tL R C l) := ⟨hx, hy, hl⟩
  clear hr ho1 hx hy hl k0 k1 k2
  go_wp2_with fail
  refine (specTableRowIn_any x y t' a1 n1 c1 l1 _ HO1.out.tab).mono ?_
  rintro e w2 ⟨hres, hb2⟩
  have s2 := hb2.size
  have B2 : Below v.heap.size v w2 := hb1.trans (hb2.mono s1)
  rcases hres with ⟨hno, rfl⟩ | ⟨hyes, a2, c2, rs2, rfl, ho2⟩
  · have HNB : Hid (rowInB (tX R C l) (tY R C l) (tL R C l) t' = false) := by
      show rowInB (tX R C l) (tY R C l) (tL R C l) t' = false
      rw [← HXY.out.1, ← HXY.out.2.1, ← HXY.out.2.2]
      exact hno
    clear hno
    go_upto_region 2 with fail
    have B3 : Below v.heap.size v (w2.alloc (.cells #[.int .i64 0, .int .i64 0, .slice none 0 0] 28)) := B2.alloc (by omega) _
    have W3 : RowAt (w2.alloc (.cells #[.int .i64 0, .int .i64 0, .slice none 0 0] 28)) w2.heap.size #[.int .i64 0, .int .i64 0, .slice none 0 0] 28 := rowAt_new _ _ _
    generalize (w2.alloc (.cells #[.int .i64 0, .int .i64 0, .slice none 0 0] 28)) = v3 at B3 W3 ⊢
    have s3 := B3.size
    have HG3 : Hid (RowAt v3 (w.heap.size + 1) #[.int .i64 0, .int .i64 0, .slice none 0 0] 28) := HG1.out.below B3 z1
    go_wp2_with (refine wpList_store_row rfl 28 (.tmp 4) (.tmp 17) rfl (w.heap.size + 1) #[.int .i64 0, .int .i64 0, .slice none 0 0] rfl rfl 28 _ HG3.out tab_info rfl (cells3_one _ _ _ _ _) ?_)
    refine bodyPost_ret (v := .tuple #[.agg #[.int .i64 0, .int .i64 0, .slice none 0 0], .bool false]) ?_ rfl ⟨.inl ⟨HNB.out, rfl⟩, below_row (HB0.out.trans (B3.mono s0)) (by omega) _⟩
    rw [results_cell_tmp rfl]
    simp [asAddr, Result.andThen, run_tabOf (RowAt.setRow HG3.out #[.int .i64 0, .int .i64 0, .slice none 0 0])]
  · have HYB : Hid (rowInB x y l1 t' = true) := hyes
    obtain ⟨L2, HL2⟩ : ∃ L2, Hid ((inL t' y l1) = L2) := ⟨_, rfl⟩
    obtain ⟨N2, HN2⟩ : ∃ N2, Hid (L2.length = N2) := ⟨_, rfl⟩
    obtain ⟨X2, HX2⟩ : ∃ X2, Hid ((x + 1) = X2) := ⟨_, rfl⟩
    have HOK : Hid (okB X2 y L2 = true) := by
      show okB X2 y L2 = true
      rw [← HL2.out, ← HX2.out]
      exact ok_in hyes
    rw [HL2.out, HN2.out] at ho2
    rw [HL2.out, HN2.out, HX2.out]
    clear hyes
    go_upto_region 2 with fail
    have B3 : Below v.heap.size v (w2.alloc (.cells #[.int .i64 X2, .int .i64 y, .slice a2 N2 c2] 28)) := B2.alloc (by omega) _
    have W3 : RowAt (w2.alloc (.cells #[.int .i64 X2, .int .i64 y, .slice a2 N2 c2] 28)) w2.heap.size #[.int .i64 X2, .int .i64 y, .slice a2 N2 c2] 28 := rowAt_new _ _ _
    have O3 : Hid (OwnT (w2.alloc (.cells #[.int .i64 X2, .int .i64 y, .slice a2 N2 c2] 28)) w1.heap.size (.slice a2 N2 c2) rs2 L2) := ho2.below ((Below.refl _ _).alloc (Nat.le_refl _) _)
    generalize (w2.alloc (.cells #[.int .i64 X2, .int .i64 y, .slice a2 N2 c2] 28)) = v3 at B3 W3 O3 ⊢
    have s3 := B3.size
    have u0 : v3.cell? ⟨w2.heap.size, 0, none⟩ = some (.int .i64 X2) := W3.cell 0
    have u1 : v3.cell? ⟨w2.heap.size, 1, none⟩ = some (.int .i64 y) := W3.cell 1
    have u2 : v3.cell? ⟨w2.heap.size, 2, none⟩ = some (.slice a2 N2 c2) := W3.cell 2
    have HG3 : Hid (RowAt v3 (w.heap.size + 1) #[.int .i64 0, .int .i64 0, .slice none 0 0] 28) := HG1.out.below B3 z1
    clear ho2
    go_wp2_with fail
    refine (specTableTurn_any X2 y a2 N2 c2 L2 _ O3.out.tab).mono ?_
    rintro e w4 ⟨(⟨hbad, -⟩ | ⟨-, a4, c4, rs4, rfl, ho4⟩), hb4⟩
    case inl =>
      rw [HOK.out] at hbad
      exact absurd hbad (by simp)
    rw [HN2.out] at ho4 ⊢
    have s4 := hb4.size
    have HO4 : Hid (OwnT w4 v3.heap.size (.slice a4 N2 c4) rs4 (turnL L2)) := ho4
    have HG4 : Hid (RowAt w4 (w.heap.size + 1) #[.int .i64 0, .int .i64 0, .slice none 0 0] 28) := HG3.out.below hb4 (by omega)
    clear ho4
    go_wp2_with (refine wpList_store_row rfl 28 (.tmp 4) (.tmp 19) rfl (w.heap.size + 1) #[.int .i64 y, .int .i64 X2, .slice a4 N2 c4] rfl rfl 28 _ HG4.out tab_info rfl (cells3_one _ _ _ _ _) ?_)
    have e1 : turnL (inL t' (tY R C l) (tL R C l)) = turnL L2 := by rw [← HL2.out, HXY.out.2.2, HXY.out.2.1]
    have e2 : (turnL (inL t' (tY R C l) (tL R C l))).length = N2 := by rw [e1, turnL_len, HN2.out]
    refine bodyPost_ret (v := .tuple #[.agg #[.int .i64 y, .int .i64 X2, .slice a4 N2 c4], .bool true]) ?_ rfl ⟨.inr ⟨?_, a4, c4, rs4, ?_, ?_⟩, below_row ((HB0.out.trans (B3.mono s0)).trans (hb4.mono (by omega))) (by omega) _⟩
    · rw [results_cell_tmp rfl]
      simp [asAddr, Result.andThen, run_tabOf (RowAt.setRow HG4.out #[.int .i64 y, .int .i64 X2, .slice a4 N2 c4])]
    · rw [← HXY.out.1, ← HXY.out.2.1, ← HXY.out.2.2]
      exact HYB.out
    · rw [e2, ← HXY.out.1, ← HXY.out.2.1, HX2.out]
    · rw [e2, e1]
      exact OwnT.less (B' := v3.heap.size) ⟨own_row HO4.out.1 _ _ (fun e => by have := (own_lt HO4.out.1.row e).1; omega), HO4.out.2.rowLow _ _ (by omega)⟩ (by omega)
end Go.Proofs.Yteghidjbcpmfbaa
namespace Go.Proofs.Yteghidjbcpmfbaa
open Go.RowKit

set_option maxRecDepth 100000 in
set_option maxHeartbeats 8000000 in
theorem lawTableColIn_walk (R C : Int) (a : Option Addr) (n cap : Nat) (l : List Cl) (t' : Int) (w : World) (h : Tab w a n cap l) (_ : (Lit.int .i64 t').wf = true) :
    Calls Try.prog 5 #[.agg #[.int .i64 R, .int .i64 C, .slice a n cap], .int .i64 t'] w fun e w' => e = .returned (.bool true) ∧ Below w.heap.size w w' := by
  have H : Hid (Tab w a n cap l) := h
  clear h
  have hsm := @small_colIn R C l t'
  go_enter Try.func5, Try.ntmps5
  go_upto_region 1 with fail
  have B0 : Below w.heap.size w (w.alloc (.cells #[.int .i64 R, .int .i64 C, .slice a n cap] 24)) := (Below.refl _ _).alloc (Nat.le_refl _) _
  have G2 : RowAt (w.alloc (.cells #[.int .i64 R, .int .i64 C, .slice a n cap] 24)) w.heap.size #[.int .i64 R, .int .i64 C, .slice a n cap] 24 := rowAt_new w _ _
  generalize (w.alloc (.cells #[.int .i64 R, .int .i64 C, .slice a n cap] 24)) = v0 at B0 G2 ⊢
  have k0 : v0.cell? ⟨w.heap.size, 0, none⟩ = some (.int .i64 R) := G2.cell 0
  have k1 : v0.cell? ⟨w.heap.size, 1, none⟩ = some (.int .i64 C) := G2.cell 1
  have k2 : v0.cell? ⟨w.heap.size, 2, none⟩ = some (.slice a n cap) := G2.cell 2
  have z0 := G2.lt
  have HG : Hid (RowAt v0 w.heap.size #[.int .i64 R, .int .i64 C, .slice a n cap] 24) := G2
  have T0 : Hid (Tab v0 a n cap l) := H.out.below B0
  clear G2
  go_wp2_with fail
  refine (szTable_any R C a n cap l _ T0.out).mono ?_
  rintro e w1 ⟨(rfl | ⟨hle, rfl⟩), hb1⟩
  · go_wp2_with fail
    go_ret
    exact ⟨rfl, B0.trans (hb1.mono B0.size)⟩
  have T1 : Hid (Tab w1 a n cap l) := T0.out.below hb1
  have s0 := B0.size
  have s1 := hb1.size
  have HB1 : Hid (Below w.heap.size w w1) := B0.trans (hb1.mono s0)
  have j0 := (hb1.cell (p := ⟨w.heap.size, 0, none⟩) z0).trans k0
  have j1 := (hb1.cell (p := ⟨w.heap.size, 1, none⟩) z0).trans k1
  have j2 := (hb1.cell (p := ⟨w.heap.size, 2, none⟩) z0).trans k2
  have HG1 : Hid (RowAt w1 w.heap.size #[.int .i64 R, .int .i64 C, .slice a n cap] 24) := HG.out.below hb1 z0
  have n0 : ¬ (1048576 - (l.length : Int) - (totT l : Int)) < 0 := by omega
  have z1 : w.heap.size < w1.heap.size := by omega
  clear k0 k1 k2 HG hb1 B0
  go_wp2_with fail
  refine (toTable_any R C a n cap l _ T1.out hle).mono ?_
  rintro e w2 ⟨⟨b2, r2, -, rfl, ho2⟩, hb2⟩
  have s2 := hb2.size
  go_wp2_with fail
  refine (specTableColIn_any R C t' _ _ _ l _ ho2.tab).mono ?_
  intro e w3 hr
  obtain ⟨⟨x1, y1, a1, n1, c1, l1, g1, rfl, hR1⟩, hb3⟩ := fRes_of hr
  clear hr
  have s3 := hb3.size
  have b13 : Below w1.heap.size w1 w3 := hb2.trans (hb3.mono s2)
  clear hb2 hb3 ho2 j0 j1 j2
  go_upto_region 6 with fail
  have W1 : RowAt (w3.alloc (.cells #[.int .i64 x1, .int .i64 y1, .slice a1 n1 c1] 28)) w3.heap.size #[.int .i64 x1, .int .i64 y1, .slice a1 n1 c1] 28 := rowAt_new _ _ _
  have T1' : Tab (w3.alloc (.cells #[.int .i64 x1, .int .i64 y1, .slice a1 n1 c1] 28)) a1 n1 c1 l1 := by
    obtain ⟨rs, ho⟩ := hR1.1
    exact ho.tab.below ((Below.refl _ _).alloc (Nat.le_refl _) _)
  have B3 : Below w1.heap.size w1 (w3.alloc (.cells #[.int .i64 x1, .int .i64 y1, .slice a1 n1 c1] 28)) := b13.alloc (by omega) _
  generalize (w3.alloc (.cells #[.int .i64 x1, .int .i64 y1, .slice a1 n1 c1] 28)) = v3 at W1 T1' B3 ⊢
  have zw := W1.lt
  have s4 := B3.size
  have z3 : w.heap.size < v3.heap.size := by omega
  have HG3 : Hid (RowAt v3 w.heap.size #[.int .i64 R, .int .i64 C, .slice a n cap] 24) := HG1.out.below B3 z1
  have T3 : Hid (Tab v3 a n cap l) := T1.out.below B3
  have HB3 : Hid (Below w.heap.size w v3) := HB1.out.trans (B3.mono (by omega))
  have HT1 : Hid (Tab v3 a1 n1 c1 l1) := T1'
  have HX1 : Hid (x1 = (if rowInB (tX R C l) (tY R C l) (tL R C l) t' then (tY R C l) else 0) ∧ y1 = (if rowInB (tX R C l) (tY R C l) (tL R C l) t' then (tX R C l + 1) else 0) ∧ l1 = (if rowInB (tX R C l) (tY R C l) (tL R C l) t' then turnL (inL t' (tY R C l) (tL R C l)) else []) ∧ g1 = rowInB (tX R C l) (tY R C l) (tL R C l) t') := hR1.2
  obtain ⟨hl1, hl2⟩ := fRes_small hR1 hsm
  have HW1 : Hid (RowAt v3 w3.heap.size #[.int .i64 x1, .int .i64 y1, .slice a1 n1 c1] 28) := W1
  clear hR1 W1 T1' B3 b13 HG1 T1 HB1
  have i0 : v3.cell? ⟨w.heap.size, 0, none⟩ = some (.int .i64 R) := (HG3.out).cell 0
  have i1 : v3.cell? ⟨w.heap.size, 1, none⟩ = some (.int .i64 C) := (HG3.out).cell 1
  have i2 : v3.cell? ⟨w.heap.size, 2, none⟩ = some (.slice a n cap) := (HG3.out).cell 2
  go_wp2_with fail
  refine (toTable_any R C a n cap l _ T3.out hle).mono ?_
  rintro e w4 ⟨⟨b4, r4, -, rfl, ho4⟩, hb4⟩
  clear i0 i1 i2
  have s5 := hb4.size
  go_upto_region 7 with fail
  have X4 : RowAt (w4.alloc (.cells #[.int .i64 R, .int .i64 C, .slice (some ⟨b4, 0, none⟩) n n] 28)) w4.heap.size #[.int .i64 R, .int .i64 C, .slice (some ⟨b4, 0, none⟩) n n] 28 := rowAt_new _ _ _
  have O4 : OwnT (w4.alloc (.cells #[.int .i64 R, .int .i64 C, .slice (some ⟨b4, 0, none⟩) n n] 28)) v3.heap.size (.slice (some ⟨b4, 0, none⟩) n n) r4 l := ho4.below ((Below.refl _ _).alloc (Nat.le_refl _) _)
  have B4 : Below v3.heap.size v3 (w4.alloc (.cells #[.int .i64 R, .int .i64 C, .slice (some ⟨b4, 0, none⟩) n n] 28)) := hb4.alloc s5 _
  generalize (w4.alloc (.cells #[.int .i64 R, .int .i64 C, .slice (some ⟨b4, 0, none⟩) n n] 28)) = v4 at X4 O4 B4 ⊢
  have zx := X4.lt
  have s6 := B4.size
  have HX4 : Hid (RowAt v4 w4.heap.size #[.int .i64 R, .int .i64 C, .slice (some ⟨b4, 0, none⟩) n n] 28) := X4
  have HO4 : Hid (OwnT v4 v3.heap.size (.slice (some ⟨b4, 0, none⟩) n n) r4 l) := O4
  have HB4 : Hid (Below v3.heap.size v3 v4) := B4
  clear X4 O4 B4 ho4 hb4
  have e0 : v4.cell? ⟨w4.heap.size, 0, none⟩ = some (.int .i64 R) := (HX4.out).cell 0
  have e1 : v4.cell? ⟨w4.heap.size, 1, none⟩ = some (.int .i64 C) := (HX4.out).cell 1
  have e2 : v4.cell? ⟨w4.heap.size, 2, none⟩ = some (.slice (some ⟨b4, 0, none⟩) n n) := (HX4.out).cell 2
  go_wp2_with fail
  refine (implTableColIn_any R C t' _ _ _ l _ HO4.out.tab).mono ?_
  intro e w5 hr
  obtain ⟨⟨x2, y2, a2, n2, c2, l2, g2, rfl, hR2⟩, hb5⟩ := fRes_of hr
  clear hr e0 e1 e2
  obtain rfl : x2 = x1 := hR2.2.1.trans HX1.out.1.symm
  obtain rfl : y2 = y1 := hR2.2.2.1.trans HX1.out.2.1.symm
  obtain rfl : l2 = l1 := hR2.2.2.2.1.trans HX1.out.2.2.1.symm
  obtain rfl : g2 = g1 := hR2.2.2.2.2.trans HX1.out.2.2.2.symm
  obtain ⟨rs2, ho2⟩ := hR2.1
  have nb : (g2 != g2) = false := by simp
  clear hR2
  have s7 := hb5.size
  go_upto_region 8 with fail
  have W5 : RowAt (w5.alloc (.cells #[.int .i64 x2, .int .i64 y2, .slice a2 n2 c2] 28)) w5.heap.size #[.int .i64 x2, .int .i64 y2, .slice a2 n2 c2] 28 := rowAt_new _ _ _
  have O5 : OwnT (w5.alloc (.cells #[.int .i64 x2, .int .i64 y2, .slice a2 n2 c2] 28)) v4.heap.size (.slice a2 n2 c2) rs2 l2 := ho2.below ((Below.refl _ _).alloc (Nat.le_refl _) _)
  have B5 : Below v4.heap.size v4 (w5.alloc (.cells #[.int .i64 x2, .int .i64 y2, .slice a2 n2 c2] 28)) := hb5.alloc s7 _
  generalize (w5.alloc (.cells #[.int .i64 x2, .int .i64 y2, .slice a2 n2 c2] 28)) = v5 at W5 O5 B5 ⊢
  have zg := W5.lt
  have s8 := B5.size
  have HG5 : Hid (RowAt v5 w5.heap.size #[.int .i64 x2, .int .i64 y2, .slice a2 n2 c2] 28) := W5
  have HO5 : Hid (OwnT v5 v4.heap.size (.slice a2 n2 c2) rs2 l2) := O5
  have HX5 : Hid (RowAt v5 w4.heap.size #[.int .i64 R, .int .i64 C, .slice (some ⟨b4, 0, none⟩) n n] 28) := HX4.out.below B5 zx
  have HP5 : Hid (OwnT v5 v3.heap.size (.slice (some ⟨b4, 0, none⟩) n n) r4 l) := HO4.out.below B5
  have HB5 : Hid (Below v3.heap.size v3 v5) := HB4.out.trans (B5.mono s6)
  clear W5 O5 B5 ho2 hb5
  have p0 : v5.cell? ⟨w5.heap.size, 0, none⟩ = some (.int .i64 x2) := (HG5.out).cell 0
  have p1 : v5.cell? ⟨w5.heap.size, 1, none⟩ = some (.int .i64 y2) := (HG5.out).cell 1
  have p2 : v5.cell? ⟨w5.heap.size, 2, none⟩ = some (.slice a2 n2 c2) := (HG5.out).cell 2
  have q0 : v5.cell? ⟨w3.heap.size, 0, none⟩ = some (.int .i64 x2) := (HW1.out.below HB5.out zw).cell 0
  have q1 : v5.cell? ⟨w3.heap.size, 1, none⟩ = some (.int .i64 y2) := (HW1.out.below HB5.out zw).cell 1
  have q2 : v5.cell? ⟨w3.heap.size, 2, none⟩ = some (.slice a1 n1 c1) := (HW1.out.below HB5.out zw).cell 2
  go_wp2_with fail
  refine (eqTable_same x2 y2 _ _ _ l2 _ _ _ _ HO5.out.tab (HT1.out.below HB5.out)).mono ?_
  rintro e w6 ⟨rfl, hb6⟩
  have s9 := hb6.size
  clear p0 p1 p2 q0 q1 q2
  have HB6 : Hid (Below v3.heap.size v3 w6) := HB5.out.trans (hb6.mono (by omega))
  have HG6 : Hid (RowAt w6 w5.heap.size #[.int .i64 x2, .int .i64 y2, .slice a2 n2 c2] 28) := HG5.out.below hb6 zg
  have HX6 : Hid (RowAt w6 w4.heap.size #[.int .i64 R, .int .i64 C, .slice (some ⟨b4, 0, none⟩) n n] 28) := HX5.out.below hb6 (by omega)
  have HO6 : Hid (OwnT w6 v4.heap.size (.slice a2 n2 c2) rs2 l2) := HO5.out.below hb6
  have HP6 : Hid (OwnT w6 v3.heap.size (.slice (some ⟨b4, 0, none⟩) n n) r4 l) := HP5.out.below hb6
  clear hb6
  have e0 : w6.cell? ⟨w4.heap.size, 0, none⟩ = some (.int .i64 R) := (HX6.out).cell 0
  have e1 : w6.cell? ⟨w4.heap.size, 1, none⟩ = some (.int .i64 C) := (HX6.out).cell 1
  have e2 : w6.cell? ⟨w4.heap.size, 2, none⟩ = some (.slice (some ⟨b4, 0, none⟩) n n) := (HX6.out).cell 2
  have i0 : w6.cell? ⟨w.heap.size, 0, none⟩ = some (.int .i64 R) := (HG3.out.below HB6.out z3).cell 0
  have i1 : w6.cell? ⟨w.heap.size, 1, none⟩ = some (.int .i64 C) := (HG3.out.below HB6.out z3).cell 1
  have i2 : w6.cell? ⟨w.heap.size, 2, none⟩ = some (.slice a n cap) := (HG3.out.below HB6.out z3).cell 2
  have y6 : w.heap.size < w6.heap.size := by omega
  have z6 : w4.heap.size < w6.heap.size := by omega
  go_wp2_with fail
  go_region_held3 (fun w' => w'.cell? ⟨w.heap.size, 0, none⟩ = some (.int .i64 R) ∧ w'.cell? ⟨w.heap.size, 1, none⟩ = some (.int .i64 C) ∧ w'.cell? ⟨w.heap.size, 2, none⟩ = some (.slice a n cap) ∧ w'.cell? ⟨w4.heap.size, 0, none⟩ = some (.int .i64 R) ∧ w'.cell? ⟨w4.heap.size, 1, none⟩ = some (.int .i64 C) ∧ w'.cell? ⟨w4.heap.size, 2, none⟩ = some (.slice (some ⟨b4, 0, none⟩) n n))
    (first
      | go_keep
      | (go_split_ands
         refine ⟨?_, ?_, ?_, ?_, ?_, ?_⟩
         · (rw [hb8.cell (p := ⟨w.heap.size, 0, none⟩) (by have := hb7.size; simp at this; show w.heap.size < _; omega)]; assumption)
         · (rw [hb8.cell (p := ⟨w.heap.size, 1, none⟩) (by have := hb7.size; simp at this; show w.heap.size < _; omega)]; assumption)
         · (rw [hb8.cell (p := ⟨w.heap.size, 2, none⟩) (by have := hb7.size; simp at this; show w.heap.size < _; omega)]; assumption)
         · (rw [hb8.cell (p := ⟨w4.heap.size, 0, none⟩) (by have := hb7.size; simp at this; show w4.heap.size < _; omega)]; assumption)
         · (rw [hb8.cell (p := ⟨w4.heap.size, 1, none⟩) (by have := hb7.size; simp at this; show w4.heap.size < _; omega)]; assumption)
         · (rw [hb8.cell (p := ⟨w4.heap.size, 2, none⟩) (by have := hb7.size; simp at this; show w4.heap.size < _; omega)]; assumption))
      | (go_split_ands
         refine ⟨?_, ?_, ?_, ?_, ?_, ?_⟩
         · (rw [hb7.cell (p := ⟨w.heap.size, 0, none⟩) (by simpa using y6)]; assumption)
         · (rw [hb7.cell (p := ⟨w.heap.size, 1, none⟩) (by simpa using y6)]; assumption)
         · (rw [hb7.cell (p := ⟨w.heap.size, 2, none⟩) (by simpa using y6)]; assumption)
         · (rw [hb7.cell (p := ⟨w4.heap.size, 0, none⟩) (by simpa using z6)]; assumption)
         · (rw [hb7.cell (p := ⟨w4.heap.size, 1, none⟩) (by simpa using z6)]; assumption)
         · (rw [hb7.cell (p := ⟨w4.heap.size, 2, none⟩) (by simpa using z6)]; assumption)))
    ((first
      | (go_at_call 11; refine (toTable_any R C a n cap l _ ((T3.out.below HB6.out).below (Below.refl _ _).drew) hle).mono ?_; rintro e w7 ⟨⟨b7, r7, -, rfl, ho7⟩, hb7⟩)
      | (go_at_call 13; refine (eqTable_same R C _ _ _ l _ _ _ _ ((HP6.out.tab.below (Below.refl _ _).drew).below hb7) ho7.tab).mono ?_; rintro e w8 ⟨rfl, hb8⟩)))
  have s10 := hb7.size
  simp only [World.size_drew] at s10
  have s11 := hb8.size
  have b68 : Below w6.heap.size w6 w8 := ((Below.refl w6.heap.size w6).drew.trans (hb7.mono (by simp only [World.size_drew]; omega))).trans (hb8.mono (by omega))
  clear e0 e1 e2 i0 i1 i2
  have HB8 : Hid (Below v3.heap.size v3 w8) := HB6.out.trans (b68.mono (by omega))
  have HG8 : Hid (RowAt w8 w5.heap.size #[.int .i64 x2, .int .i64 y2, .slice a2 n2 c2] 28) := HG6.out.below b68 (by omega)
  have HX8 : Hid (RowAt w8 w4.heap.size #[.int .i64 R, .int .i64 C, .slice (some ⟨b4, 0, none⟩) n n] 28) := HX6.out.below b68 (by omega)
  have HO8 : Hid (OwnT w8 v4.heap.size (.slice a2 n2 c2) rs2 l2) := HO6.out.below b68
  have HP8 : Hid (OwnT w8 v3.heap.size (.slice (some ⟨b4, 0, none⟩) n n) r4 l) := HP6.out.below b68
  clear hb7 hb8 ho7 b68
  have e0 : w8.cell? ⟨w4.heap.size, 0, none⟩ = some (.int .i64 R) := (HX8.out).cell 0
  have e1 : w8.cell? ⟨w4.heap.size, 1, none⟩ = some (.int .i64 C) := (HX8.out).cell 1
  have e2 : w8.cell? ⟨w4.heap.size, 2, none⟩ = some (.slice (some ⟨b4, 0, none⟩) n n) := (HX8.out).cell 2
  go_wp2_with fail
  refine (markTable_over R C _ n n r4 l 1 v3.heap.size v4.heap.size _ HP8.out (fun g hg => (own_lt HO4.out.1.row hg).2) (fun k hk g hg => HO4.out.2.blockLt k hk g hg) (by omega) (by omega) (by omega) (by omega)).mono ?_
  rintro e w9 ⟨rfl, -, hb9, hs9, hov⟩
  have s12 := hb9.size
  clear e0 e1 e2
  have HB9 : Hid (Below v3.heap.size v3 w9) := HB8.out.trans hb9
  have HG9 : Hid (RowAt w9 w5.heap.size #[.int .i64 x2, .int .i64 y2, .slice a2 n2 c2] 28) := hs9 _ _ HG8.out
  have HO9 : Hid (OwnT w9 v4.heap.size (.slice a2 n2 c2) rs2 l2) := HO8.out.over (Nat.le_refl _) hov
  clear hb9 hs9 hov
  obtain ⟨K, HK⟩ : ∃ K, Hid (kAt 1 l l.length = K) := ⟨_, rfl⟩
  have kge : 0 ≤ K := by rw [← HK.out]; exact kAt_ge 1 l _ (by omega)
  rw [HK.out]
  have nk : ¬ K < 0 := by omega
  have p0 : w9.cell? ⟨w5.heap.size, 0, none⟩ = some (.int .i64 x2) := (HG9.out).cell 0
  have p1 : w9.cell? ⟨w5.heap.size, 1, none⟩ = some (.int .i64 y2) := (HG9.out).cell 1
  have p2 : w9.cell? ⟨w5.heap.size, 2, none⟩ = some (.slice a2 n2 c2) := (HG9.out).cell 2
  have q0 : w9.cell? ⟨w3.heap.size, 0, none⟩ = some (.int .i64 x2) := (HW1.out.below HB9.out zw).cell 0
  have q1 : w9.cell? ⟨w3.heap.size, 1, none⟩ = some (.int .i64 y2) := (HW1.out.below HB9.out zw).cell 1
  have q2 : w9.cell? ⟨w3.heap.size, 2, none⟩ = some (.slice a1 n1 c1) := (HW1.out.below HB9.out zw).cell 2
  go_wp2_with fail
  refine (eqTable_same x2 y2 _ _ _ l2 _ _ _ _ HO9.out.tab (HT1.out.below HB9.out)).mono ?_
  rintro e w10 ⟨rfl, hb10⟩
  have s13 := hb10.size
  clear p0 p1 p2 q0 q1 q2
  have HB10 : Hid (Below v3.heap.size v3 w10) := HB9.out.trans (hb10.mono (by omega))
  have HG10 : Hid (RowAt w10 w5.heap.size #[.int .i64 x2, .int .i64 y2, .slice a2 n2 c2] 28) := HG9.out.below hb10 (by omega)
  have HO10 : Hid (OwnT w10 v4.heap.size (.slice a2 n2 c2) rs2 l2) := HO9.out.below hb10
  clear hb10
  have p0 : w10.cell? ⟨w5.heap.size, 0, none⟩ = some (.int .i64 x2) := (HG10.out).cell 0
  have p1 : w10.cell? ⟨w5.heap.size, 1, none⟩ = some (.int .i64 y2) := (HG10.out).cell 1
  have p2 : w10.cell? ⟨w5.heap.size, 2, none⟩ = some (.slice a2 n2 c2) := (HG10.out).cell 2
  go_wp2_with fail
  refine (markTable_any x2 y2 a2 n2 c2 rs2 l2 1 v4.heap.size _ HO10.out (by omega) (by omega) (by omega) (by omega)).mono ?_
  rintro e w11 ⟨rfl, ⟨rs4, ho11⟩, hb11, hs11⟩
  have s14 := hb11.size
  clear p0 p1 p2
  have HB11 : Hid (Below v3.heap.size v3 w11) := HB10.out.trans (hb11.mono (by omega))
  have HG11 : Hid (RowAt w11 w5.heap.size #[.int .i64 x2, .int .i64 y2, .slice a2 n2 c2] 28) := hs11 _ _ HG10.out
  have HM11 : Hid (Tab w11 a2 n2 c2 (markL 1 l2)) := ho11.tab
  clear ho11 hb11 hs11
  obtain ⟨M, HM⟩ : ∃ M, Hid (kAt 1 l2 l2.length = M) := ⟨_, rfl⟩
  have mge : 0 ≤ M := by rw [← HM.out]; exact kAt_ge 1 l2 _ (by omega)
  rw [HM.out]
  have nm : ¬ M < 0 := by omega
  have ne : (M != M) = false := by simp
  have p0 : w11.cell? ⟨w5.heap.size, 0, none⟩ = some (.int .i64 x2) := (HG11.out).cell 0
  have p1 : w11.cell? ⟨w5.heap.size, 1, none⟩ = some (.int .i64 y2) := (HG11.out).cell 1
  have p2 : w11.cell? ⟨w5.heap.size, 2, none⟩ = some (.slice a2 n2 c2) := (HG11.out).cell 2
  go_wp2_with fail
  refine (heldTable_any x2 y2 a2 n2 c2 l2 1 _ HM11.out (by omega) (by omega) (by omega)).mono ?_
  rintro e w12 ⟨rfl, hb12⟩
  have s15 := hb12.size
  rw [HM.out]
  clear p0 p1 p2
  have HB12 : Hid (Below v3.heap.size v3 w12) := HB11.out.trans (hb12.mono (by omega))
  have HG12 : Hid (RowAt w12 w5.heap.size #[.int .i64 x2, .int .i64 y2, .slice a2 n2 c2] 28) := HG11.out.below hb12 (by omega)
  have HM12 : Hid (Tab w12 a2 n2 c2 (markL 1 l2)) := HM11.out.below hb12
  clear hb12
  have i0 : w12.cell? ⟨w.heap.size, 0, none⟩ = some (.int .i64 R) := (HG3.out.below HB12.out z3).cell 0
  have i1 : w12.cell? ⟨w.heap.size, 1, none⟩ = some (.int .i64 C) := (HG3.out.below HB12.out z3).cell 1
  have i2 : w12.cell? ⟨w.heap.size, 2, none⟩ = some (.slice a n cap) := (HG3.out.below HB12.out z3).cell 2
  go_wp2_with fail
  refine (toTable_any R C a n cap l _ (T3.out.below HB12.out) hle).mono ?_
  rintro e w13 ⟨⟨b13, r13, -, rfl, ho13⟩, hb13⟩
  have s16 := hb13.size
  go_wp2_with fail
  refine (implTableColIn_any R C t' _ _ _ l _ ho13.tab).mono ?_
  intro e w14 hr
  obtain ⟨⟨x3, y3, a3, n3, c3, l3, g3, rfl, hR3⟩, hb14⟩ := fRes_of hr
  clear hr i0 i1 i2
  obtain rfl : x3 = x2 := hR3.2.1.trans HX1.out.1.symm
  obtain rfl : y3 = y2 := hR3.2.2.1.trans HX1.out.2.1.symm
  obtain rfl : l3 = l2 := hR3.2.2.2.1.trans HX1.out.2.2.1.symm
  obtain rfl : g3 = g2 := hR3.2.2.2.2.trans HX1.out.2.2.2.symm
  obtain ⟨rs3, ho3⟩ := hR3.1
  have s17 := hb14.size
  have b24 : Below w12.heap.size w12 w14 := hb13.trans (hb14.mono s16)
  clear hR3 hb13 hb14 ho13
  go_upto_region 25 with fail
  have W14 : RowAt (w14.alloc (.cells #[.int .i64 x3, .int .i64 y3, .slice a3 n3 c3] 28)) w14.heap.size #[.int .i64 x3, .int .i64 y3, .slice a3 n3 c3] 28 := rowAt_new _ _ _
  have T14 : Tab (w14.alloc (.cells #[.int .i64 x3, .int .i64 y3, .slice a3 n3 c3] 28)) a3 n3 c3 l3 := ho3.tab.below ((Below.refl _ _).alloc (Nat.le_refl _) _)
  have B14 : Below w12.heap.size w12 (w14.alloc (.cells #[.int .i64 x3, .int .i64 y3, .slice a3 n3 c3] 28)) := b24.alloc (by omega) _
  generalize (w14.alloc (.cells #[.int .i64 x3, .int .i64 y3, .slice a3 n3 c3] 28)) = v14 at W14 T14 B14 ⊢
  have zh := W14.lt
  have s18 := B14.size
  have HW14 : Hid (RowAt v14 w14.heap.size #[.int .i64 x3, .int .i64 y3, .slice a3 n3 c3] 28) := W14
  have HT14 : Hid (Tab v14 a3 n3 c3 l3) := T14
  have HG14 : Hid (RowAt v14 w5.heap.size #[.int .i64 x3, .int .i64 y3, .slice a2 n2 c2] 28) := HG12.out.below B14 (by omega)
  have HM14 : Hid (Tab v14 a2 n2 c2 (markL 1 l3)) := HM12.out.below B14
  have HB14 : Hid (Below v3.heap.size v3 v14) := HB12.out.trans (B14.mono (by omega))
  clear W14 T14 B14 ho3 b24
  have p0 : v14.cell? ⟨w14.heap.size, 0, none⟩ = some (.int .i64 x3) := HW14.out.cell 0
  have p1 : v14.cell? ⟨w14.heap.size, 1, none⟩ = some (.int .i64 y3) := HW14.out.cell 1
  have p2 : v14.cell? ⟨w14.heap.size, 2, none⟩ = some (.slice a3 n3 c3) := HW14.out.cell 2
  have q0 : v14.cell? ⟨w3.heap.size, 0, none⟩ = some (.int .i64 x3) := (HW1.out.below HB14.out zw).cell 0
  have q1 : v14.cell? ⟨w3.heap.size, 1, none⟩ = some (.int .i64 y3) := (HW1.out.below HB14.out zw).cell 1
  have q2 : v14.cell? ⟨w3.heap.size, 2, none⟩ = some (.slice a1 n1 c1) := (HW1.out.below HB14.out zw).cell 2
  go_wp2_with fail
  refine (eqTable_same x3 y3 _ _ _ l3 _ _ _ _ HT14.out (HT1.out.below HB14.out)).mono ?_
  rintro e w15 ⟨rfl, hb15⟩
  have s19 := hb15.size
  clear p0 p1 p2 q0 q1 q2
  have HG15 : Hid (RowAt w15 w5.heap.size #[.int .i64 x3, .int .i64 y3, .slice a2 n2 c2] 28) := HG14.out.below hb15 (by omega)
  have HM15 : Hid (Tab w15 a2 n2 c2 (markL 1 l3)) := HM14.out.below hb15
  have p0 : w15.cell? ⟨w5.heap.size, 0, none⟩ = some (.int .i64 x3) := HG15.out.cell 0
  have p1 : w15.cell? ⟨w5.heap.size, 1, none⟩ = some (.int .i64 y3) := HG15.out.cell 1
  have p2 : w15.cell? ⟨w5.heap.size, 2, none⟩ = some (.slice a2 n2 c2) := HG15.out.cell 2
  go_wp2_with fail
  refine (heldTable_any x3 y3 a2 n2 c2 l3 1 _ HM15.out (by omega) (by omega) (by omega)).mono ?_
  rintro e w16 ⟨rfl, hb16⟩
  rw [HM.out]
  clear p0 p1 p2
  go_wp2_with fail
  go_ret
  exact ⟨rfl, ((HB3.out.trans (HB14.out.mono (by omega))).trans (hb15.mono (by omega))).trans (hb16.mono (by omega))⟩
end Go.Proofs.Yteghidjbcpmfbaa
