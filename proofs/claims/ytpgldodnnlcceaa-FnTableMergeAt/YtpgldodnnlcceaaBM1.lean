import Derived.Test.YtpgldodnnlcceaaBA2
import Derived.Test.YtpgldodnnlcceaaBS1
namespace Go.Proofs.Ytpgldodnnlcceaa
open Go.RowKit

set_option maxRecDepth 100000 in
set_option maxHeartbeats 8000000 in
theorem implTableMerge_any (R C r c d g : Int) (a : Option Addr) (n cap : Nat) (l : List Cl) (w : World) (h : Tab w a n cap l) :
    Calls Try.prog 15 #[.agg #[.int .i64 R, .int .i64 C, .slice a n cap], .int .i64 r, .int .i64 c, .int .i64 d, .int .i64 g] w fun z w' => TabRes w.heap.size (mergeB R C l r c d g) R C (mergeL l r c d g) z w' ∧ Below w.heap.size w w' := by
  have H : Hid (Tab w a n cap l) := h
  clear h
  obtain ⟨ok, HX⟩ : ∃ x, Hid (okB R C l = x) := ⟨_, rfl⟩
  go_enter Try.func15, Try.ntmps15
  go_upto_region 1 with fail
  have B0 : Below w.heap.size w ((w.alloc (.cells #[.int .i64 R, .int .i64 C, .slice a n cap] 25)).alloc (.cells #[.int .i64 0, .int .i64 0, .slice none 0 0] 25)) := ((Below.refl _ _).alloc (Nat.le_refl _) _).alloc (by simp) _
  have G0 : RowAt ((w.alloc (.cells #[.int .i64 R, .int .i64 C, .slice a n cap] 25)).alloc (.cells #[.int .i64 0, .int .i64 0, .slice none 0 0] 25)) w.heap.size #[.int .i64 R, .int .i64 C, .slice a n cap] 25 := (rowAt_new w _ _).alloc _
  have G1 : RowAt ((w.alloc (.cells #[.int .i64 R, .int .i64 C, .slice a n cap] 25)).alloc (.cells #[.int .i64 0, .int .i64 0, .slice none 0 0] 25)) (w.heap.size + 1) #[.int .i64 0, .int .i64 0, .slice none 0 0] 25 := by
    have := rowAt_new (w.alloc (.cells #[.int .i64 R, .int .i64 C, .slice a n cap] 25)) #[.int .i64 0, .int .i64 0, .slice none 0 0] 25
    simpa using this
  have HT : Hid (Tab ((w.alloc (.cells #[.int .i64 R, .int .i64 C, .slice a n cap] 25)).alloc (.cells #[.int .i64 0, .int .i64 0, .slice none 0 0] 25)) a n cap l) := H.out.below B0
  generalize ((w.alloc (.cells #[.int .i64 R, .int .i64 C, .slice a n cap] 25)).alloc (.cells #[.int .i64 0, .int .i64 0, .slice none 0 0] 25)) = v at B0 G0 G1 HT ⊢
  have k0 : v.cell? ⟨w.heap.size, 0, none⟩ = some (.int .i64 R) := G0.cell 0
  have k1 : v.cell? ⟨w.heap.size, 1, none⟩ = some (.int .i64 C) := G0.cell 1
  have k2 : v.cell? ⟨w.heap.size, 2, none⟩ = some (.slice a n cap) := G0.cell 2
  have z0 := G0.lt
  have z1 := G1.lt
  have s0 := B0.size
  have HG0 : Hid (RowAt v w.heap.size #[.int .i64 R, .int .i64 C, .slice a n cap] 25) := G0
  have HG1 : Hid (RowAt v (w.heap.size + 1) #[.int .i64 0, .int .i64 0, .slice none 0 0] 25) := G1
  have HB0 : Hid (Below w.heap.size w v) := B0
  clear G0 G1 B0
  cases ok
  · go_upto_region 2 with (first | (go_at_call 23; refine (gridOf_is HX.out HT.out).mono ?_; rintro e w1 ⟨hres, hb1⟩; rcases hres.symm with ⟨hno, -⟩ | ⟨-, rfl⟩; exact absurd hno (by simp)) | (rw [← grid_zero]; refine wpList_store_row rfl 48 (.tmp 12) (.tmp 22) rfl w1.heap.size (gridA 0 0 0 (fun _ => 0) (fun _ => sl0)) rfl rfl 48 _ (gridAt_new _ _ _ _ _ _) (grid_infoA _ _ _ _ _) (by rw [gridA_size]) (gridA_one _ _ _ _ _) ?_))
    have s1 := hb1.size
    have B2 : Below v.heap.size v ((w1.alloc (.cells (gridA 0 0 0 (fun _ => 0) (fun _ => sl0)) 48)).setRow w1.heap.size (gridA 0 0 0 (fun _ => 0) (fun _ => sl0))) := below_row (hb1.alloc s1 _) s1 _
    generalize ((w1.alloc (.cells (gridA 0 0 0 (fun _ => 0) (fun _ => sl0)) 48)).setRow w1.heap.size (gridA 0 0 0 (fun _ => 0) (fun _ => sl0))) = v2 at B2 ⊢
    have HG2 : Hid (RowAt v2 (w.heap.size + 1) #[.int .i64 0, .int .i64 0, .slice none 0 0] 25) := HG1.out.below B2 z1
    have HNB : Hid (mergeB R C l r c d g = false) := by
      show mergeB R C l r c d g = false
      simp only [mergeB, HX.out, Bool.false_and]
    clear k0 k1 k2
    go_wp2_with (refine wpList_store_row rfl 25 (.tmp 10) (.tmp 40) rfl (w.heap.size + 1) #[.int .i64 0, .int .i64 0, .slice none 0 0] rfl rfl 25 _ (HG2.out.alloc _) tab_info rfl (cells3_one _ _ _ _ _) ?_)
    refine bodyPost_ret (v := .tuple #[.agg #[.int .i64 0, .int .i64 0, .slice none 0 0], .bool false]) ?_ rfl ⟨.inl ⟨HNB.out, rfl⟩, below_row ((HB0.out.trans (B2.mono s0)).alloc (by have := B2.size; omega) _) (by omega) _⟩
    rw [results_cell_tmp rfl]
    simp [asAddr, Result.andThen, run_tabOf (RowAt.setRow (HG2.out.alloc _) #[.int .i64 0, .int .i64 0, .slice none 0 0])]
  · obtain ⟨hR, hC, hst, -⟩ := gridP_of_okB HX.out
    obtain ⟨R, rfl⟩ : ∃ R' : Nat, R = R' := ⟨R.toNat, by omega⟩
    obtain ⟨C, rfl⟩ : ∃ C' : Nat, C = C' := ⟨C.toNat, by omega⟩
    have hn25 : l.length ≤ 25 := step_le (l := l) (K := l.length) (R := R) (C := C) (by omega) (by omega) hst
    have HST : Hid (∀ k, k < l.length → (l.getD k cl0).2.2.2.2.length ≤ 24) := fun k hk => by
      have := (stepB_of (hst k hk)).2.2
      simp only [textB, Bool.and_eq_true, decide_eq_true_eq] at this
      exact this.1
    clear hst
    go_upto_region 2 with (first | (go_at_call 23; refine (gridOf_is HX.out HT.out).mono ?_; rintro e w1 ⟨(⟨hno, -⟩ | ⟨-, t, rfl, ht1⟩), hb1⟩; exact absurd hno (by simp)) | (rw [← grid_zero]; refine wpList_store_row rfl 48 (.tmp 12) (.tmp 22) rfl w1.heap.size (gridA R C l.length (numF l l.length) t) rfl rfl 48 _ (gridAt_new _ _ _ _ _ _) (grid_infoA _ _ _ _ _) (by rw [gridA_size, gridA_size]) (gridA_one _ _ _ _ _) ?_))
    have s1 := hb1.size
    have B2 : Below v.heap.size v ((w1.alloc (.cells (gridA 0 0 0 (fun _ => 0) (fun _ => sl0)) 48)).setRow w1.heap.size (gridA R C l.length (numF l l.length) t)) := below_row (hb1.alloc s1 _) s1 _
    have B3 : Below w1.heap.size w1 ((w1.alloc (.cells (gridA 0 0 0 (fun _ => 0) (fun _ => sl0)) 48)).setRow w1.heap.size (gridA R C l.length (numF l l.length) t)) := below_row ((Below.refl _ _).alloc (Nat.le_refl _) _) (Nat.le_refl _) _
    have HG : Hid (GridAt ((w1.alloc (.cells (gridA 0 0 0 (fun _ => 0) (fun _ => sl0)) 48)).setRow w1.heap.size (gridA R C l.length (numF l l.length) t)) w1.heap.size R C l.length (numF l l.length) t) := RowAt.setRow (gridAt_new _ _ _ _ _ _) _
    generalize ((w1.alloc (.cells (gridA 0 0 0 (fun _ => 0) (fun _ => sl0)) 48)).setRow w1.heap.size (gridA R C l.length (numF l l.length) t)) = v2 at B2 B3 HG ⊢
    have HTx : Hid (∀ i, i < l.length → Txt v2 (t (i + 1)).1 (t (i + 1)).2.1 (t (i + 1)).2.2 (l.getD i cl0).2.2.2.2) := fun i hi => (ht1 i hi).below B3
    have HG2 : Hid (RowAt v2 (w.heap.size + 1) #[.int .i64 0, .int .i64 0, .slice none 0 0] 25) := HG1.out.below B2 z1
    have q0 : v2.cell? ⟨w.heap.size, 0, none⟩ = some (.int .i64 R) := (HG0.out.below B2 z0).cell 0
    have q1 : v2.cell? ⟨w.heap.size, 1, none⟩ = some (.int .i64 C) := (HG0.out.below B2 z0).cell 1
    have s2 := B2.size
    have HTw : Hid (∀ i, i < l.length → Txt w1 (t (i + 1)).1 (t (i + 1)).2.1 (t (i + 1)).2.2 (l.getD i cl0).2.2.2.2) := ht1
    have HBw : Hid (Below w1.heap.size w1 v2) := B3
    clear k0 k1 k2 ht1 hb1 B3
    obtain ⟨N, HN⟩ : ∃ N, Hid (l.length = N) := ⟨_, rfl⟩
    obtain ⟨f, HF⟩ : ∃ f, Hid (numF l l.length = f) := ⟨_, rfl⟩
    rw [HF.out] at HG
    rw [HN.out] at HG hn25
    have HB2 : Hid (Below v.heap.size v v2) := B2
    go_upto_region 3 with fail
    have B3 : Below v2.heap.size v2 (v2.alloc (.cells #[.int .i64 r, .int .i64 c, .int .i64 d, .int .i64 g] 63)) := (Below.refl _ _).alloc (Nat.le_refl _) _
    have HQ3 : Hid (RowAt (v2.alloc (.cells #[.int .i64 r, .int .i64 c, .int .i64 d, .int .i64 g] 63)) v2.heap.size #[.int .i64 r, .int .i64 c, .int .i64 d, .int .i64 g] 63) := rowAt_new _ _ _
    have HG3 : Hid (GridAt (v2.alloc (.cells #[.int .i64 r, .int .i64 c, .int .i64 d, .int .i64 g] 63)) w1.heap.size R C N f t) := HG.out.alloc _
    have HZ3 : Hid (RowAt (v2.alloc (.cells #[.int .i64 r, .int .i64 c, .int .i64 d, .int .i64 g] 63)) (w.heap.size + 1) #[.int .i64 0, .int .i64 0, .slice none 0 0] 25) := HG2.out.alloc _
    have k0 : (v2.alloc (.cells #[.int .i64 r, .int .i64 c, .int .i64 d, .int .i64 g] 63)).cell? ⟨w.heap.size, 0, none⟩ = some (.int .i64 R) := (B3.cell (p := ⟨w.heap.size, 0, none⟩) (by show w.heap.size < v2.heap.size; omega)).trans q0
    have k1 : (v2.alloc (.cells #[.int .i64 r, .int .i64 c, .int .i64 d, .int .i64 g] 63)).cell? ⟨w.heap.size, 1, none⟩ = some (.int .i64 C) := (B3.cell (p := ⟨w.heap.size, 1, none⟩) (by show w.heap.size < v2.heap.size; omega)).trans q1
    have hlt3 : v2.heap.size < (v2.alloc (.cells #[.int .i64 r, .int .i64 c, .int .i64 d, .int .i64 g] 63)).heap.size := HQ3.out.lt
    generalize (v2.alloc (.cells #[.int .i64 r, .int .i64 c, .int .i64 d, .int .i64 g] 63)) = v3 at B3 HQ3 HG3 HZ3 k0 k1 hlt3 ⊢
    have HB3 : Hid (Below v2.heap.size v2 v3) := B3
    have s3 := B3.size
    clear B3 B2 q0 q1
    obtain ⟨wi, HWi⟩ : ∃ x, Hid (withB r c d g R C = x) := ⟨_, rfl⟩
    cases wi
    · have HNB : Hid (mergeB R C l r c d g = false) := by
        show mergeB R C l r c d g = false
        have : bndB R C r c d g = false := by
          have := HWi.out
          simp only [withB, spanB, Bool.and_eq_false_iff, decide_eq_false_iff_not] at this
          simp only [bndB, Bool.and_eq_false_iff, decide_eq_false_iff_not]
          omega
        simp only [mergeB, this, Bool.and_false, Bool.false_and]
      go_wp2_with (first | (refine wpList_load_rowG (by rfl) 63 (.tmp 14) rfl v2.heap.size rfl 63 #[.int .i64 r, .int .i64 c, .int .i64 d, .int .i64 g] (0, 0) _ HQ3.out Try.underlying63 rfl rec_info ?_) | (go_at_call 37; refine (within_is HWi.out hR hC _).mono ?_; rintro e w4 ⟨rfl, hb4⟩; have HZ4 : Hid (RowAt w4 (w.heap.size + 1) #[.int .i64 0, .int .i64 0, .slice none 0 0] 25) := HZ3.out.below hb4 HZ3.out.lt) | (refine wpList_store_row rfl 25 (.tmp 10) (.tmp 40) rfl (w.heap.size + 1) #[.int .i64 0, .int .i64 0, .slice none 0 0] rfl rfl 25 _ HZ4.out tab_info rfl (cells3_one _ _ _ _ _) ?_))
      refine bodyPost_ret (v := .tuple #[.agg #[.int .i64 0, .int .i64 0, .slice none 0 0], .bool false]) ?_ rfl ⟨.inl ⟨HNB.out, rfl⟩, below_row (((HB0.out.trans (HB2.out.mono s0)).trans (HB3.out.mono (by omega))).trans (hb4.mono (by omega))) (by omega) _⟩
      rw [results_cell_tmp rfl]
      simp [asAddr, Result.andThen, run_tabOf (RowAt.setRow HZ4.out #[.int .i64 0, .int .i64 0, .slice none 0 0])]
    have hwi := HWi.out
    simp only [withB, spanB, Bool.and_eq_true, decide_eq_true_eq] at hwi
    obtain ⟨r, rfl⟩ : ∃ z : Nat, r = z := ⟨r.toNat, by omega⟩
    obtain ⟨c, rfl⟩ : ∃ z : Nat, c = z := ⟨c.toNat, by omega⟩
    obtain ⟨d, rfl⟩ : ∃ z : Nat, d = z := ⟨d.toNat, by omega⟩
    obtain ⟨g, rfl⟩ : ∃ z : Nat, g = z := ⟨g.toNat, by omega⟩
    have hd1 : 1 ≤ d := by omega
    have hg1 : 1 ≤ g := by omega
    have hrR : r + d ≤ R := by omega
    have hcC : c + g ≤ C := by omega
    have HBD : Hid (bndB R C r c d g = true) := by
      show bndB R C r c d g = true
      simp only [bndB, Bool.and_eq_true, decide_eq_true_eq]
      omega
    clear hwi
    go_upto_region 5 with (first | (refine wpList_load_rowG (by rfl) 63 (.tmp 14) rfl v2.heap.size rfl 63 #[.int .i64 r, .int .i64 c, .int .i64 d, .int .i64 g] (0, 0) _ HQ3.out Try.underlying63 rfl rec_info ?_) | (go_at_call 37; refine (within_is HWi.out hR hC _).mono ?_; rintro e w4 ⟨rfl, hb4⟩; have HZ4 : Hid (RowAt w4 (w.heap.size + 1) #[.int .i64 0, .int .i64 0, .slice none 0 0] 25) := HZ3.out.below hb4 HZ3.out.lt))
    clear k0 k1
    have HG4 : Hid (GridAt w4 w1.heap.size R C N f t) := HG3.out.below hb4 HG3.out.lt
    have HQ4 : Hid (RowAt w4 v2.heap.size #[.int .i64 r, .int .i64 c, .int .i64 d, .int .i64 g] 63) := HQ3.out.below hb4 hlt3
    have HB4 : Hid (Below v2.heap.size v2 w4) := HB3.out.trans (hb4.mono s3)
    have s4 := HB4.out.size
    have hl4 : v2.heap.size < w4.heap.size := HQ4.out.lt
    have HFL : Hid (∀ k, f k ≤ 25) := fun k => by
      have := numF_le l l.length k
      have := HN.out
      rw [← HF.out]
      omega
    clear hb4 HG3 HQ3 HZ3 HB3
    go_upto_region 6 with (first | (refine wpList_load_row rfl 48 (.tmp 12) rfl w1.heap.size rfl 48 (gridA R C N f t) (0, 0) _ HG4.out Try.underlying48 rfl (grid_infoA _ _ _ _ _) ?_) | (refine wpList_load_row rfl 63 (.tmp 14) rfl v2.heap.size rfl 63 #[.int .i64 r, .int .i64 c, .int .i64 d, .int .i64 g] (0, 0) _ HQ4.out Try.underlying63 rfl rec_info ?_) | (go_at_call 38; refine (parted_any R C N f t r c d g _ (by omega) (by omega) (by omega) (by omega) HFL.out).mono ?_; rintro e w5 ⟨⟨x, y, rfl, hx, hy⟩, hb5⟩))
    have HG5 : Hid (GridAt w5 w1.heap.size R C N f t) := HG4.out.below hb5 HG4.out.lt
    have HQ5 : Hid (RowAt w5 v2.heap.size #[.int .i64 r, .int .i64 c, .int .i64 d, .int .i64 g] 63) := HQ4.out.below hb5 hl4
    have HZ5 : Hid (RowAt w5 (w.heap.size + 1) #[.int .i64 0, .int .i64 0, .slice none 0 0] 25) := HZ4.out.below hb5 HZ4.out.lt
    have HB5 : Hid (Below v2.heap.size v2 w5) := HB4.out.trans (hb5.mono s4)
    have s5 := HB5.out.size
    have HX5 : Hid (Mask x (numF l l.length) (fun a b => vis R 0 C a b ∧ inR r c d g a b)) := by rw [HF.out]; exact hx
    have HY5 : Hid (Mask y (numF l l.length) (fun a b => vis R 0 C a b ∧ ¬ inR r c d g a b)) := by rw [HF.out]; exact hy
    have hx26 := hx.1
    have hy26 := hy.1
    clear hx hy hb5 HG4 HQ4 HZ4 HB4
    obtain ⟨ls, HLS⟩ : ∃ ls : Nat → List Sg, Hid ((fun k => (l.getD (k - 1) cl0).2.2.2.2) = ls) := ⟨_, rfl⟩
    have HT5 : Hid (∀ k, 1 ≤ k → k ≤ N → Txt w5 (t k).1 (t k).2.1 (t k).2.2 (ls k)) := fun k k1 k2 => by
      have := (HTx.out (k - 1) (by have := HN.out; omega)).below HB5.out
      rw [show k - 1 + 1 = k by omega] at this
      rw [← HLS.out]
      exact this
    have HL5 : Hid (∀ k, (ls k).length ≤ 24) := fun k => by
      rw [← HLS.out]
      simp only
      by_cases hk : k - 1 < l.length
      · exact HST.out _ hk
      · rw [List.getD_eq_getElem?_getD, List.getElem?_eq_none (by omega)]
        simp [cl0]
    go_upto_region 7 with (first | (refine wpList_load_row rfl 48 (.tmp 12) rfl w1.heap.size rfl 48 (gridA R C N f t) (0, 0) _ HG5.out Try.underlying48 rfl (grid_infoA _ _ _ _ _) ?_) | (go_at_call 39; refine (written_any R C N x f t ls _ hx26 hn25 HT5.out HL5.out).mono ?_; rintro e w6 ⟨⟨pa, pn, pc, rfl, hO6⟩, hb6⟩))
    have HG6 : Hid (GridAt w6 w1.heap.size R C N f t) := HG5.out.below hb6 HG5.out.lt
    have HQ6 : Hid (RowAt w6 v2.heap.size #[.int .i64 r, .int .i64 c, .int .i64 d, .int .i64 g] 63) := HQ5.out.below hb6 HQ5.out.lt
    have HZ6 : Hid (RowAt w6 (w.heap.size + 1) #[.int .i64 0, .int .i64 0, .slice none 0 0] 25) := HZ5.out.below hb6 HZ5.out.lt
    have HB6 : Hid (Below v2.heap.size v2 w6) := HB5.out.trans (hb6.mono s5)
    have s6 := HB6.out.size
    have HO6 : Hid (Own w6 w5.heap.size (.slice pa pn pc) (wrT x ls N)) := hO6
    clear hO6 hb6 HG5 HQ5 HZ5
    have HAN : Hid (bits .and .u32 (x : Int) (y : Int) = ((x &&& y : Nat) : Int)) := and_nat x y hx26 hy26
    have bF6 : Below w.heap.size w w6 := (HB0.out.trans (HB2.out.mono s0)).trans (HB6.out.mono (by omega))
    have HF6 : Hid (Below w.heap.size w w6) := bF6
    clear bF6
    by_cases hxy : x &&& y = 0
    case neg =>
      have n0 : (bits .and .u32 (x : Int) (y : Int) != 0) = true := by
        rw [HAN.out]
        simp
        omega
      have HNB : Hid (mergeB R C l r c d g = false) := by
        show mergeB R C l r c d g = false
        have : l.all (fun z => !cutB r c d g z) = false := by
          rw [← Bool.not_eq_true, ← cut_and HX.out HX5.out HY5.out]
          exact hxy
        simp only [mergeB, Int.toNat_natCast, this, Bool.and_false, Bool.false_and]
      go_wp2_with (refine wpList_store_row rfl 25 (.tmp 10) (.tmp 64) rfl (w.heap.size + 1) #[.int .i64 0, .int .i64 0, .slice none 0 0] rfl rfl 25 _ HZ6.out tab_info rfl (cells3_one _ _ _ _ _) ?_)
      refine bodyPost_ret (v := .tuple #[.agg #[.int .i64 0, .int .i64 0, .slice none 0 0], .bool false]) ?_ rfl ⟨.inl ⟨HNB.out, rfl⟩, below_row HF6.out (by omega) _⟩
      rw [results_cell_tmp rfl]
      simp [asAddr, Result.andThen, run_tabOf (RowAt.setRow HZ6.out #[.int .i64 0, .int .i64 0, .slice none 0 0])]
    have n0 : (bits .and .u32 (x : Int) (y : Int) != 0) = false := by
      rw [HAN.out, hxy]
      rfl
    have HALL : Hid (l.all (fun z => !cutB r c d g z) = true) := (cut_and HX.out HX5.out HY5.out).1 hxy
    have HSZ : Hid (bitsN x 32 = mN r c d g l) := bits_mN HX.out HX5.out HALL.out (by have := HN.out; omega)
    have HWT : Hid (wrT x ls N = mTx r c d g l) := by
      show wrT x ls N = mTx r c d g l
      rw [← HLS.out, ← HN.out]
      exact wr_mTx HX.out HX5.out HALL.out
    rw [HWT.out] at HO6
    clear hxy
    obtain ⟨nb, HNb⟩ : ∃ q : Nat, Hid (bitsN x 32 = q) := ⟨_, rfl⟩
    have HSX : Hid (∀ w : World, Calls Try.prog 40 #[.int .u32 x] w fun e w' => e = .returned (.int .i64 nb) ∧ Below w.heap.size w w') := fun w => by rw [← HNb.out]; exact size_any x hx26 w
    by_cases hn2 : nb < 2
    · have n1 : (nb : Int) < 2 := by omega
      have HNB : Hid (mergeB R C l r c d g = false) := by
        show mergeB R C l r c d g = false
        have : decide (2 ≤ mN r c d g l) = false := decide_eq_false (by rw [← HSZ.out, HNb.out]; omega)
        simp only [mergeB, Int.toNat_natCast, this, Bool.and_false, Bool.false_and]
      go_wp2_with (first | (go_at_call 40; refine (HSX.out _).mono ?_; rintro e w7 ⟨rfl, hb7⟩; have HZ7 : Hid (RowAt w7 (w.heap.size + 1) #[.int .i64 0, .int .i64 0, .slice none 0 0] 25) := HZ6.out.below hb7 HZ6.out.lt) | (refine wpList_store_row rfl 25 (.tmp 10) (.tmp 64) rfl (w.heap.size + 1) #[.int .i64 0, .int .i64 0, .slice none 0 0] rfl rfl 25 _ HZ7.out tab_info rfl (cells3_one _ _ _ _ _) ?_))
      refine bodyPost_ret (v := .tuple #[.agg #[.int .i64 0, .int .i64 0, .slice none 0 0], .bool false]) ?_ rfl ⟨.inl ⟨HNB.out, rfl⟩, below_row (HF6.out.trans (hb7.mono (by omega))) (by omega) _⟩
      rw [results_cell_tmp rfl]
      simp [asAddr, Result.andThen, run_tabOf (RowAt.setRow HZ7.out #[.int .i64 0, .int .i64 0, .slice none 0 0])]
    have n1 : ¬ (nb : Int) < 2 := by omega
    obtain ⟨tb, HTb⟩ : ∃ x, Hid (textB (mTx r c d g l) = x) := ⟨_, rfl⟩
    cases tb
    · have HNB : Hid (mergeB R C l r c d g = false) := by
        show mergeB R C l r c d g = false
        simp only [mergeB, Int.toNat_natCast, HTb.out, Bool.and_false]
      go_wp2_with (first | (go_at_call 40; refine (HSX.out _).mono ?_; rintro e w7 ⟨rfl, hb7⟩; have HT7 : Hid (Txt w7 pa pn pc (mTx r c d g l)) := HO6.out.txt.below hb7) | (go_at_call 41; refine (implTextOk_isG HT7.out HTb.out).mono ?_; rintro e w8 ⟨rfl, hb8⟩; have HZ8 : Hid (RowAt w8 (w.heap.size + 1) #[.int .i64 0, .int .i64 0, .slice none 0 0] 25) := (HZ6.out.below hb7 HZ6.out.lt).below hb8 (by have := hb7.size; have := HZ6.out.lt; omega)) | (refine wpList_store_row rfl 25 (.tmp 10) (.tmp 64) rfl (w.heap.size + 1) #[.int .i64 0, .int .i64 0, .slice none 0 0] rfl rfl 25 _ HZ8.out tab_info rfl (cells3_one _ _ _ _ _) ?_))
      refine bodyPost_ret (v := .tuple #[.agg #[.int .i64 0, .int .i64 0, .slice none 0 0], .bool false]) ?_ rfl ⟨.inl ⟨HNB.out, rfl⟩, below_row ((HF6.out.trans (hb7.mono (by omega))).trans (hb8.mono (by have := hb7.size; omega))) (by omega) _⟩
      rw [results_cell_tmp rfl]
      simp [asAddr, Result.andThen, run_tabOf (RowAt.setRow HZ8.out #[.int .i64 0, .int .i64 0, .slice none 0 0])]
    have HYB : Hid (mergeB R C l r c d g = true) := by
      show mergeB R C l r c d g = true
      have : decide (2 ≤ mN r c d g l) = true := decide_eq_true (by rw [← HSZ.out, HNb.out]; omega)
      simp only [mergeB, Int.toNat_natCast, this, HX.out, HBD.out, HALL.out, HTb.out, Bool.and_self]
    go_upto_region 9 with (first | (go_at_call 40; refine (HSX.out _).mono ?_; rintro e w7 ⟨rfl, hb7⟩; have HT7 : Hid (Txt w7 pa pn pc (mTx r c d g l)) := HO6.out.txt.below hb7) | (go_at_call 41; refine (implTextOk_isG HT7.out HTb.out).mono ?_; rintro e w8 ⟨rfl, hb8⟩))
    have b68 : Below w6.heap.size w6 w8 := hb7.trans (hb8.mono hb7.size)
    have s8 := b68.size
    have HB68 : Hid (Below w6.heap.size w6 w8) := b68
    have HG8 : Hid (GridAt w8 w1.heap.size R C N f t) := HG6.out.below b68 HG6.out.lt
    have HQ8 : Hid (RowAt w8 v2.heap.size #[.int .i64 r, .int .i64 c, .int .i64 d, .int .i64 g] 63) := HQ6.out.below b68 HQ6.out.lt
    have HZ8 : Hid (RowAt w8 (w.heap.size + 1) #[.int .i64 0, .int .i64 0, .slice none 0 0] 25) := HZ6.out.below b68 HZ6.out.lt
    have HO8 : Hid (Own w8 w5.heap.size (.slice pa pn pc) (mTx r c d g l)) := HO6.out.below b68
    have HB8 : Hid (Below v2.heap.size v2 w8) := HB6.out.trans (b68.mono s6)
    clear hb7 hb8 b68 HG6 HQ6 HZ6 HO6 HB6 HT7 n0 n1
    have b0 : (r : Int) < 5 := by omega
    have b1 : (c : Int) < 5 := by omega
    have kn := HG8.out.num (r * 5 + c) (by omega)
    obtain ⟨m, HM⟩ : ∃ m, Hid (f (r * 5 + c) = m) := ⟨_, rfl⟩
    have hm25 := HFL.out (r * 5 + c)
    rw [← Nat.add_assoc, HM.out] at kn
    rw [HM.out] at hm25
    have bm0 : (0 : Int) ≤ m := by omega
    have bm1 : (m : Int) < 26 := by omega
    go_upto_region 10 with fail
    clear kn
    have kt := HG8.out.txt m (by omega)
    simp only [slV] at kt
    have kf := HG8.out.frozen (28 + m)
    go_upto_region 11 with fail
    have hneW : (Value.slice pa pn pc).ownBlock ≠ some w1.heap.size := rowAt_ne HG8.out HO8.out.row (by decide)
    have HG9 : Hid (GridAt (w8.setCell ⟨w1.heap.size, 28 + m, none⟩ (.slice pa pn pc)) w1.heap.size R C N f (updS t m (pa, pn, pc))) := HG8.out.setTxt m (pa, pn, pc) (by omega)
    have HQ9 : Hid (RowAt (w8.setCell ⟨w1.heap.size, 28 + m, none⟩ (.slice pa pn pc)) v2.heap.size #[.int .i64 r, .int .i64 c, .int .i64 d, .int .i64 g] 63) := HQ8.out.other _ _ (by show v2.heap.size ≠ w1.heap.size; have := HG.out.lt; omega)
    have HZ9 : Hid (RowAt (w8.setCell ⟨w1.heap.size, 28 + m, none⟩ (.slice pa pn pc)) (w.heap.size + 1) #[.int .i64 0, .int .i64 0, .slice none 0 0] 25) := HZ8.out.other _ _ (by show w.heap.size + 1 ≠ w1.heap.size; omega)
    have HO9 : Hid (Own (w8.setCell ⟨w1.heap.size, 28 + m, none⟩ (.slice pa pn pc)) w5.heap.size (.slice pa pn pc) (mTx r c d g l)) := own_set HO8.out _ _ hneW
    have hw12 : w1.heap.size ≤ v2.heap.size := HBw.out.size
    have HB9w : Hid (Below w1.heap.size w1 (w8.setCell ⟨w1.heap.size, 28 + m, none⟩ (.slice pa pn pc))) := (HBw.out.trans (HB8.out.mono hw12)).setCell (p := ⟨w1.heap.size, 28 + m, none⟩) (Nat.le_refl _) _
    have HB9 : Hid (Below w.heap.size w (w8.setCell ⟨w1.heap.size, 28 + m, none⟩ (.slice pa pn pc))) := ((HF6.out).trans ((show Below w6.heap.size w6 w8 from HB68.out).mono (by omega))).setCell (p := ⟨w1.heap.size, 28 + m, none⟩) (by show w.heap.size ≤ w1.heap.size; omega) _
    have s9 : w8.heap.size = (w8.setCell ⟨w1.heap.size, 28 + m, none⟩ (.slice pa pn pc)).heap.size := by simp [World.setCell]
    clear kt kf HG8 HQ8 HZ8 HO8
    generalize (w8.setCell ⟨w1.heap.size, 28 + m, none⟩ (.slice pa pn pc)) = v9 at HG9 HQ9 HZ9 HO9 HB9w HB9 s9 ⊢
    obtain ⟨t9, HT9⟩ : ∃ t9, Hid (updS t m (pa, pn, pc) = t9) := ⟨_, rfl⟩
    rw [HT9.out] at HG9
    go_wp2_with (first | (refine wpList_load_row rfl 48 (.tmp 12) rfl w1.heap.size rfl 48 (gridA R C N f t9) (0, 0) _ HG9.out Try.underlying48 rfl (grid_infoA _ _ _ _ _) ?_) | (refine wpList_load_row rfl 63 (.tmp 14) rfl v2.heap.size rfl 63 #[.int .i64 r, .int .i64 c, .int .i64 d, .int .i64 g] (0, 0) _ HQ9.out Try.underlying63 rfl rec_info ?_) | (go_at_call 42; refine (give_any R C N f t9 r c d g m _ (by omega) (by omega)).mono ?_; rintro e w10 ⟨rfl, hb10⟩))
    have hfe : giveF f r c d g m = giveF (numF l l.length) r c d g (numF l l.length (r * 5 + c)) := by rw [HF.out, HM.out]
    have htl := tiles_merge HX.out hd1 hg1 hrR hcC HALL.out
    have hrep : Rep R C (giveF f r c d g m) (mergeL l r c d g) := by rw [hfe]; exact rep_sort htl
    have hlen2 : (mergeL l r c d g).length ≤ 25 := by
      show (sortC (mergeM l r c d g)).length ≤ 25
      rw [(sortC_perm _).length_eq]
      exact htl.few (by omega) (by omega)
    have hle : ∀ k, giveF f r c d g m k ≤ 25 := fun k => by
      have := HFL.out k
      unfold giveF
      split <;> omega
    have ht : ∀ k, k < (mergeL l r c d g).length → Txt w10 (t9 (giveF f r c d g m (stR ((mergeL l r c d g).getD k cl0) * 5 + stC ((mergeL l r c d g).getD k cl0)))).1 (t9 (giveF f r c d g m (stR ((mergeL l r c d g).getD k cl0) * 5 + stC ((mergeL l r c d g).getD k cl0)))).2.1 (t9 (giveF f r c d g m (stR ((mergeL l r c d g).getD k cl0) * 5 + stC ((mergeL l r c d g).getD k cl0)))).2.2 ((mergeL l r c d g).getD k cl0).2.2.2.2 ∧ ((mergeL l r c d g).getD k cl0).2.2.2.2.length ≤ 1048576 := by
      intro k hk
      have hmem := (sortC_perm (mergeM l r c d g)).mem_iff.1 (getD_mem hk)
      obtain ⟨z, hz⟩ : ∃ z, (mergeL l r c d g).getD k cl0 = z := ⟨_, rfl⟩
      have hmem' : z ∈ mergeM l r c d g := by rw [← hz]; exact hmem
      rw [hz, hfe, ← HT9.out]
      clear hmem
      unfold mergeM at hmem'
      simp only [Int.toNat_natCast] at hmem'
      rcases List.mem_append.1 hmem' with hq | hq
      · obtain ⟨i, hi, rfl, ho⟩ := mOut_mem.1 hq
        obtain ⟨e1, e2⟩ := merge_numC HX.out hd1 hg1 hrR hcC i hi ho
        rw [e1.start]
        rw [HF.out, HM.out] at e2
        simp only [updS, if_neg (Ne.symm e2)]
        have hL := HST.out i hi
        exact ⟨((HTw.out i hi).below HB9w.out).below hb10, by omega⟩
      · rw [List.mem_singleton] at hq
        subst hq
        have e1 := (merged_numC HX.out hd1 hg1 hrR hcC HALL.out (mTx r c d g l)).start
        rw [e1, HF.out, HM.out]
        simp only [updS, if_true]
        refine ⟨(HO9.out.txt).below hb10, ?_⟩
        have := HTb.out
        simp only [textB, Bool.and_eq_true, decide_eq_true_eq] at this
        omega
    refine (table_any R C N (giveF f r c d g m) t9 (mergeL l r c d g) _ (by omega) (by omega) hle hrep hlen2 ht).mono ?_
    rintro e w11 ⟨⟨a', c', rs, rfl, hO⟩, hb11⟩
    have s10 := hb10.size
    have s11 := hb11.size
    have HZ11 : Hid (RowAt w11 (w.heap.size + 1) #[.int .i64 0, .int .i64 0, .slice none 0 0] 25) := (HZ9.out.below hb10 HZ9.out.lt).below hb11 (by have := HZ9.out.lt; omega)
    have zz := HZ9.out.lt
    have HO : Hid (OwnT w11 w10.heap.size (.slice a' (mergeL l r c d g).length c') rs (mergeL l r c d g)) := hO
    obtain ⟨M, HML⟩ : ∃ M, Hid ((mergeL l r c d g).length = M) := ⟨_, rfl⟩
    rw [HML.out]
    rw [HML.out] at HO
    clear hO hrep ht hlen2 hle htl hfe
    go_wp2_with (refine wpList_store_row rfl 25 (.tmp 10) (.tmp 79) rfl (w.heap.size + 1) #[.int .i64 R, .int .i64 C, .slice a' M c'] rfl rfl 25 _ HZ11.out tab_info rfl (cells3_one _ _ _ _ _) ?_)
    have bF : Below w.heap.size w w11 := (HB9.out.trans (hb10.mono (by omega))).trans (hb11.mono (by omega))
    refine bodyPost_ret (v := .tuple #[.agg #[.int .i64 R, .int .i64 C, .slice a' M c'], .bool true]) ?_ rfl ⟨.inr ⟨HYB.out, a', c', rs, ?_, ?_⟩, below_row bF (by omega) _⟩
    · rw [results_cell_tmp rfl]
      simp [asAddr, Result.andThen, run_tabOf (RowAt.setRow HZ11.out #[.int .i64 R, .int .i64 C, .slice a' M c'])]
    · rw [HML.out]
    · rw [HML.out]
      exact OwnT.less (B' := w10.heap.size) ⟨own_row HO.out.1 _ _ (fun e => by have := (own_lt HO.out.1.row e).1; omega), HO.out.2.rowLow _ _ (by omega)⟩ (by omega)
end Go.Proofs.Ytpgldodnnlcceaa
