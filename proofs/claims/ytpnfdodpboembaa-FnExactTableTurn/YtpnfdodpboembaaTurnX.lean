import Derived.Test.YtpnfdodpboembaaTurnR
import Derived.Test.YtpnfdodpboembaaGridOf
namespace Go.Proofs.Ytpnfdodpboembaa
open Go.RowKit

set_option maxRecDepth 100000 in
set_option maxHeartbeats 8000000 in
theorem implTableTurn_any (R C : Int) (a : Option Addr) (n cap : Nat) (l : List Cl) (w : World) (h : Tab w a n cap l) :
    Calls Try.prog 7 #[.agg #[.int .i64 R, .int .i64 C, .slice a n cap]] w fun z w' => ((okB R C l = false ∧ z = .returned (.agg #[.int .i64 0, .int .i64 0, .slice none 0 0])) ∨ (okB R C l = true ∧ ∃ a' c' rs, z = .returned (.agg #[.int .i64 C, .int .i64 R, .slice a' l.length c']) ∧ OwnT w' w.heap.size (.slice a' l.length c') rs (turnL l))) ∧ Below w.heap.size w w' := by
  have H : Hid (Tab w a n cap l) := h
  clear h
  obtain ⟨ok, HX⟩ : ∃ x, Hid (okB R C l = x) := ⟨_, rfl⟩
  go_enter Try.func7, Try.ntmps7
  go_upto_region 1 with fail
  have B0 : Below w.heap.size w ((w.alloc (.cells #[.int .i64 R, .int .i64 C, .slice a n cap] 28)).alloc (.cells #[.int .i64 0, .int .i64 0, .slice none 0 0] 28)) := ((Below.refl _ _).alloc (Nat.le_refl _) _).alloc (by simp) _
  have G0 : RowAt ((w.alloc (.cells #[.int .i64 R, .int .i64 C, .slice a n cap] 28)).alloc (.cells #[.int .i64 0, .int .i64 0, .slice none 0 0] 28)) w.heap.size #[.int .i64 R, .int .i64 C, .slice a n cap] 28 := (rowAt_new w _ _).alloc _
  have G1 : RowAt ((w.alloc (.cells #[.int .i64 R, .int .i64 C, .slice a n cap] 28)).alloc (.cells #[.int .i64 0, .int .i64 0, .slice none 0 0] 28)) (w.heap.size + 1) #[.int .i64 0, .int .i64 0, .slice none 0 0] 28 := by
    have := rowAt_new (w.alloc (.cells #[.int .i64 R, .int .i64 C, .slice a n cap] 28)) #[.int .i64 0, .int .i64 0, .slice none 0 0] 28
    simpa using this
  have HT : Hid (Tab ((w.alloc (.cells #[.int .i64 R, .int .i64 C, .slice a n cap] 28)).alloc (.cells #[.int .i64 0, .int .i64 0, .slice none 0 0] 28)) a n cap l) := H.out.below B0
  generalize ((w.alloc (.cells #[.int .i64 R, .int .i64 C, .slice a n cap] 28)).alloc (.cells #[.int .i64 0, .int .i64 0, .slice none 0 0] 28)) = v at B0 G0 G1 HT ⊢
  have k0 : v.cell? ⟨w.heap.size, 0, none⟩ = some (.int .i64 R) := G0.cell 0
  have k1 : v.cell? ⟨w.heap.size, 1, none⟩ = some (.int .i64 C) := G0.cell 1
  have k2 : v.cell? ⟨w.heap.size, 2, none⟩ = some (.slice a n cap) := G0.cell 2
  have z1 := G1.lt
  have s0 := B0.size
  have HG1 : Hid (RowAt v (w.heap.size + 1) #[.int .i64 0, .int .i64 0, .slice none 0 0] 28) := G1
  have HB0 : Hid (Below w.heap.size w v) := B0
  clear G0 G1 B0
  cases ok
  · go_upto_region 2 with (first | (go_at_call 16; refine (gridOf_is HX.out HT.out).mono ?_; rintro e w1 ⟨hres, hb1⟩; rcases hres.symm with ⟨hno, -⟩ | ⟨-, rfl⟩; exact absurd hno (by simp)) | (rw [← grid_zero]; refine wpList_store_row rfl 45 (.tmp 3) (.tmp 8) rfl w1.heap.size (gridA 0 0 0 (fun _ => 0) (fun _ => sl0)) rfl rfl 45 _ (gridAt_new _ _ _ _ _ _) (grid_infoA _ _ _ _ _) (by rw [gridA_size]) (gridA_one _ _ _ _ _) ?_))
    have s1 := hb1.size
    have B2 : Below v.heap.size v ((w1.alloc (.cells (gridA 0 0 0 (fun _ => 0) (fun _ => sl0)) 45)).setRow w1.heap.size (gridA 0 0 0 (fun _ => 0) (fun _ => sl0))) := below_row (hb1.alloc s1 _) s1 _
    generalize ((w1.alloc (.cells (gridA 0 0 0 (fun _ => 0) (fun _ => sl0)) 45)).setRow w1.heap.size (gridA 0 0 0 (fun _ => 0) (fun _ => sl0))) = v2 at B2 ⊢
    have HG2 : Hid (RowAt v2 (w.heap.size + 1) #[.int .i64 0, .int .i64 0, .slice none 0 0] 28) := HG1.out.below B2 z1
    clear k0 k1 k2
    go_wp2_with (refine wpList_store_row rfl 28 (.tmp 2) (.tmp 12) rfl (w.heap.size + 1) #[.int .i64 0, .int .i64 0, .slice none 0 0] rfl rfl 28 _ HG2.out tab_info rfl (cells3_one _ _ _ _ _) ?_)
    refine bodyPost_ret (v := .agg #[.int .i64 0, .int .i64 0, .slice none 0 0]) (results_cell_row (p := 2) (ty := 28) rfl _ _ (w.heap.size + 1) 28 _ _ _ rfl (RowAt.setRow HG2.out _) Try.underlying28 rfl tab_info) rfl ⟨.inl ⟨HX.out, rfl⟩, below_row (HB0.out.trans (B2.mono s0)) (by omega) _⟩
  · obtain ⟨hR, hC, hst, -⟩ := gridP_of_okB HX.out
    obtain ⟨R, rfl⟩ : ∃ R' : Nat, R = R' := ⟨R.toNat, by omega⟩
    obtain ⟨C, rfl⟩ : ∃ C' : Nat, C = C' := ⟨C.toNat, by omega⟩
    have hn25 : l.length ≤ 25 := step_le (l := l) (K := l.length) (R := R) (C := C) (by omega) (by omega) hst
    have HST : Hid (∀ k, k < l.length → (l.getD k cl0).2.2.2.2.length ≤ 24) := fun k hk => by
      have := (stepB_of (hst k hk)).2.2
      simp only [textB, Bool.and_eq_true, decide_eq_true_eq] at this
      exact this.1
    clear hst
    go_upto_region 2 with (first | (go_at_call 16; refine (gridOf_is HX.out HT.out).mono ?_; rintro e w1 ⟨(⟨hno, -⟩ | ⟨-, t, rfl, ht1⟩), hb1⟩; exact absurd hno (by simp)) | (rw [← grid_zero]; refine wpList_store_row rfl 45 (.tmp 3) (.tmp 8) rfl w1.heap.size (gridA R C l.length (numF l l.length) t) rfl rfl 45 _ (gridAt_new _ _ _ _ _ _) (grid_infoA _ _ _ _ _) (by rw [gridA_size, gridA_size]) (gridA_one _ _ _ _ _) ?_))
    have s1 := hb1.size
    have B2 : Below v.heap.size v ((w1.alloc (.cells (gridA 0 0 0 (fun _ => 0) (fun _ => sl0)) 45)).setRow w1.heap.size (gridA R C l.length (numF l l.length) t)) := below_row (hb1.alloc s1 _) s1 _
    have B3 : Below w1.heap.size w1 ((w1.alloc (.cells (gridA 0 0 0 (fun _ => 0) (fun _ => sl0)) 45)).setRow w1.heap.size (gridA R C l.length (numF l l.length) t)) := below_row ((Below.refl _ _).alloc (Nat.le_refl _) _) (Nat.le_refl _) _
    have HG : Hid (GridAt ((w1.alloc (.cells (gridA 0 0 0 (fun _ => 0) (fun _ => sl0)) 45)).setRow w1.heap.size (gridA R C l.length (numF l l.length) t)) w1.heap.size R C l.length (numF l l.length) t) := RowAt.setRow (gridAt_new _ _ _ _ _ _) _
    generalize ((w1.alloc (.cells (gridA 0 0 0 (fun _ => 0) (fun _ => sl0)) 45)).setRow w1.heap.size (gridA R C l.length (numF l l.length) t)) = v2 at B2 B3 HG ⊢
    have HTx : Hid (∀ i, i < l.length → Txt v2 (t (i + 1)).1 (t (i + 1)).2.1 (t (i + 1)).2.2 (l.getD i cl0).2.2.2.2) := fun i hi => (ht1 i hi).below B3
    have HB2 : Hid (Below v.heap.size v v2) := B2
    have s2 := B2.size
    clear k0 k1 k2 ht1 hb1 B2 B3
    obtain ⟨N, HN⟩ : ∃ N, Hid (l.length = N) := ⟨_, rfl⟩
    obtain ⟨f, HF⟩ : ∃ f, Hid (numF l l.length = f) := ⟨_, rfl⟩
    rw [HF.out] at HG
    rw [HN.out] at HG hn25
    go_wp2_with (first | (refine wpList_load_row rfl 45 (.tmp 3) rfl w1.heap.size rfl 45 (gridA R C N f t) (0, 0) _ HG.out Try.underlying45 rfl (grid_infoA _ _ _ _ _) ?_) | (go_at_call 17; refine (turn_any R C N f t _).mono ?_; rintro e w3 ⟨rfl, hb3⟩))
    have hle : ∀ k, f k ≤ 25 := fun k => by rw [← HF.out]; have q1 := numF_le l l.length k; have q2 := HN.out; omega
    have hrep : Rep C R (turnF f) (turnL l) := by rw [← HF.out]; exact rep_turn HX.out
    have hlen2 : (turnL l).length ≤ 25 := by rw [turnL_len, HN.out]; exact hn25
    have ht : ∀ k, k < (turnL l).length → Txt w3 (t (turnF f (stR ((turnL l).getD k cl0) * 5 + stC ((turnL l).getD k cl0)))).1 (t (turnF f (stR ((turnL l).getD k cl0) * 5 + stC ((turnL l).getD k cl0)))).2.1 (t (turnF f (stR ((turnL l).getD k cl0) * 5 + stC ((turnL l).getD k cl0)))).2.2 ((turnL l).getD k cl0).2.2.2.2 ∧ ((turnL l).getD k cl0).2.2.2.2.length ≤ 1048576 := by
      intro k hk
      obtain ⟨m, a, b, d, g, hm, e1, e2, h1, h2, h3, h4⟩ := turn_data HX.out k hk
      have hin : inB (l.getD m cl0) a b = true := by
        rw [e1]
        exact (inB_cell a b).2 ⟨by omega, by omega, by omega, by omega⟩
      have hnum := (num_iff HX.out a b m (by omega)).2 ⟨hm, hin⟩
      have hL := HST.out m hm
      have h5 := (HTx.out m hm).below hb3
      rw [e2]
      show Txt w3 (t (turnF f (b * 5 + a))).1 (t (turnF f (b * 5 + a))).2.1 (t (turnF f (b * 5 + a))).2.2 (l.getD m cl0).2.2.2.2 ∧ (l.getD m cl0).2.2.2.2.length ≤ 1048576
      rw [turn_atF f b a (by omega), ← HF.out, hnum]
      exact ⟨h5, by omega⟩
    refine (table_any C R N (turnF f) t (turnL l) _ (by omega) (by omega) (fun k => hle _) hrep hlen2 ht).mono ?_
    rintro e w4 ⟨⟨a', c', rs, rfl, hO⟩, hb4⟩
    have s3 := hb3.size
    have s4 := hb4.size
    have HG4 : Hid (RowAt w4 (w.heap.size + 1) #[.int .i64 0, .int .i64 0, .slice none 0 0] 28) := ((HG1.out.below HB2.out z1).below hb3 (by omega)).below hb4 (by omega)
    rw [turnL_len] at hO ⊢
    have HO : Hid (OwnT w4 w3.heap.size (.slice a' l.length c') rs (turnL l)) := hO
    clear hO hrep ht hlen2 hle
    go_wp2_with (refine wpList_store_row rfl 28 (.tmp 2) (.tmp 15) rfl (w.heap.size + 1) #[.int .i64 C, .int .i64 R, .slice a' l.length c'] rfl rfl 28 _ HG4.out tab_info rfl (cells3_one _ _ _ _ _) ?_)
    have bF : Below w.heap.size w w4 := ((HB0.out.trans (HB2.out.mono s0)).trans (hb3.mono (by omega))).trans (hb4.mono (by omega))
    refine bodyPost_ret (v := .agg #[.int .i64 C, .int .i64 R, .slice a' l.length c']) (results_cell_row (p := 2) (ty := 28) rfl _ _ (w.heap.size + 1) 28 _ _ _ rfl (RowAt.setRow HG4.out _) Try.underlying28 rfl tab_info) rfl ⟨.inr ⟨HX.out, a', c', rs, rfl, ?_⟩, below_row bF (by omega) _⟩
    exact OwnT.less (B' := w3.heap.size) ⟨own_row HO.out.1 _ _ (fun e => by have := (own_lt HO.out.1.row e).1; omega), HO.out.2.rowLow _ _ (by omega)⟩ (by omega)
end Go.Proofs.Ytpnfdodpboembaa
