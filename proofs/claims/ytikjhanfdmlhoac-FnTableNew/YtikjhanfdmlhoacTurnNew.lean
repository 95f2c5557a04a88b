import Derived.Test.YtikjhanfdmlhoacNewI
import Derived.Test.YtikjhanfdmlhoacTurnI
import Derived.Test.YtikjhanfdmlhoacImplOk
namespace Go.Proofs.Ytikjhanfdmlhoac
open Go.RowKit

theorem st_new (R C k : Nat) (hC : 0 < C) (hk : k < R * C) : k / C < R ∧ k % C < C := ⟨Nat.div_lt_of_lt_mul (by rw [Nat.mul_comm]; exact hk), Nat.mod_lt _ hC⟩
theorem inB_one (a b p q : Nat) : inB (clOne a b) p q = true ↔ p = a ∧ q = b := by
  show decide ((a : Int) ≤ (p : Int) ∧ (p : Int) < (a : Int) + 1 ∧ (b : Int) ≤ (q : Int) ∧ (q : Int) < (b : Int) + 1) = true ↔ _
  rw [decide_eq_true_eq]
  omega
theorem cellB_one (R C a b : Nat) (ha : a < R) (hb : b < C) : cellB R C (clOne a b) = true := by
  show (decide (0 ≤ (a : Int) ∧ (a : Int) ≤ (R : Int) - 1) && decide (0 ≤ (b : Int) ∧ (b : Int) ≤ (C : Int) - 1) && decide (1 ≤ (1 : Int) ∧ (1 : Int) ≤ (R : Int) - a) && decide (1 ≤ (1 : Int) ∧ (1 : Int) ≤ (C : Int) - b) && textB []) = true
  rw [decide_eq_true (show 0 ≤ (a : Int) ∧ (a : Int) ≤ (R : Int) - 1 by omega), decide_eq_true (show 0 ≤ (b : Int) ∧ (b : Int) ≤ (C : Int) - 1 by omega), decide_eq_true (show 1 ≤ (1 : Int) ∧ (1 : Int) ≤ (R : Int) - a by omega), decide_eq_true (show 1 ≤ (1 : Int) ∧ (1 : Int) ≤ (C : Int) - b by omega)]
  rfl
theorem ahead_one (a b p q : Nat) (h : a < p ∨ a = p ∧ b < q) : ahead (clOne a b) (clOne p q) = true := by
  show decide ((a : Int) < (p : Int) ∨ (a : Int) = (p : Int) ∧ (b : Int) < (q : Int)) = true
  exact decide_eq_true (by omega)
theorem okB_new (R C : Nat) (hR : 1 ≤ R ∧ R ≤ 5) (hC : 1 ≤ C ∧ C ≤ 5) : okB R C (newL R C) = true := by
  have hlen := newL_len R C
  have h25 : R * C ≤ 25 := Nat.mul_le_mul hR.2 hC.2
  simp only [okB, formB, Bool.and_eq_true, decide_eq_true_eq, List.all_eq_true, List.mem_range, colB]
  refine ⟨⟨⟨⟨by omega, by omega⟩, by omega⟩, fun k hk => ?_⟩, fun a ha b hb => ?_⟩
  · rw [hlen] at hk
    obtain ⟨h1, h2⟩ := st_new R C k (by omega) hk
    simp only [atB, Bool.and_eq_true, Bool.or_eq_true, decide_eq_true_eq]
    rw [newL_get R C k (by omega) hk]
    refine ⟨?_, ?_⟩
    · exact cellB_one R C _ _ h1 h2
    · by_cases h0 : k = 0
      · exact .inl h0
      · right
        rw [newL_get R C (k - 1) (by omega) (by omega)]
        refine ahead_one _ _ _ _ ?_
        have d1 := Nat.div_add_mod k C
        have d2 := Nat.div_add_mod (k - 1) C
        have dle : (k - 1) / C ≤ k / C := Nat.div_le_div_right (by omega)
        rcases Nat.lt_or_eq_of_le dle with h | h
        · left; omega
        · right
          refine ⟨by omega, ?_⟩
          rw [h] at d2
          omega
  · have ha' : a < R := by omega
    have hb' : b < C := by omega
    have hlt : a * C + b < R * C := by
      have : (a + 1) * C ≤ R * C := Nat.mul_le_mul_right C (by omega)
      rw [Nat.succ_mul] at this
      omega
    have e1 : (a * C + b) / C = a := by rw [Nat.mul_comm, Nat.mul_add_div (by omega), Nat.div_eq_of_lt hb']; rfl
    have e2 : (a * C + b) % C = b := by rw [Nat.mul_comm, Nat.mul_add_mod, Nat.mod_eq_of_lt hb']
    have hl2 : a * C + b < (newL R C).length := by rw [hlen]; exact hlt
    unfold cnt
    refine countP_one _ (newL R C) (a * C + b) hl2 ?_ ?_
    · rw [← getD_get hl2, newL_get R C _ (by omega) hlt, e1, e2]
      exact (inB_one a b a b).2 ⟨rfl, rfl⟩
    · intro i hi hp
      have hi' : i < R * C := by rw [← hlen]; exact hi
      rw [← getD_get hi, newL_get R C i (by omega) hi'] at hp
      obtain ⟨q1, q2⟩ := (inB_one _ _ a b).1 hp
      have d1 := Nat.div_add_mod i C
      rw [← q1, ← q2, Nat.mul_comm] at d1
      exact d1.symm
theorem num_new (R C : Nat) (hR : 1 ≤ R ∧ R ≤ 5) (hC : 1 ≤ C ∧ C ≤ 5) (a b : Nat) (hv : vis R 0 C a b) : ∃ m, numF (newL R C) (newL R C).length (a * 5 + b) = m + 1 ∧ m < R * C ∧ m / C = a ∧ m % C = b := by
  obtain ⟨_, _, hs, ht⟩ := gridP_of_okB (okB_new R C hR hC)
  have hw : ∀ i, i < (newL R C).length → wiB R C ((newL R C).getD i cl0) = true := fun j hj => (stepB_of (hs j hj)).1
  have h1 := (ht a b (by simpa using hv)).1
  obtain ⟨m, hm⟩ : ∃ m, numF (newL R C) (newL R C).length (a * 5 + b) = m + 1 := ⟨numF (newL R C) (newL R C).length (a * 5 + b) - 1, by omega⟩
  have hb5 : b < 5 := by unfold vis at hv; omega
  obtain ⟨h2, h3⟩ := numF_pos (newL R C) R C _ hw a b m hb5 hm
  rw [newL_len] at h2
  rw [newL_get R C m (by omega) h2] at h3
  obtain ⟨e1, e2⟩ := (inB_one _ _ a b).1 h3
  exact ⟨m, hm, h2, e1.symm, e2.symm⟩
theorem turn_at (f : Nat → Nat) (a b : Nat) (hb : b < 5) : turnF f (a * 5 + b) = f (b * 5 + a) := by
  unfold turnF
  rw [show (a * 5 + b) % 5 = b from by omega, show (a * 5 + b) / 5 = a from by omega]

set_option maxRecDepth 100000 in
set_option maxHeartbeats 4000000 in
theorem implTurnNew_any (R C : Nat) (a : Option Addr) (n cap : Nat) (w : World) (hR : 1 ≤ R ∧ R ≤ 5) (hC : 1 ≤ C ∧ C ≤ 5) (h : Tab w a n cap (newL R C)) :
    Calls Try.prog 17 #[.agg #[.int .i64 R, .int .i64 C, .slice a n cap]] w fun z w' => (∃ a' n' c' rs, z = .returned (.agg #[.int .i64 C, .int .i64 R, .slice a' n' c']) ∧ OwnT w' w.heap.size (.slice a' n' c') rs (newL C R)) ∧ Below w.heap.size w w' := by
  have HX : Hid (okB R C (newL R C) = true) := okB_new R C hR hC
  have H : Hid (Tab w a n cap (newL R C)) := h
  clear h
  go_enter Try.func17, Try.ntmps17
  go_upto_region 1 with fail
  have B0 : Below w.heap.size w ((w.alloc (.cells #[.int .i64 R, .int .i64 C, .slice a n cap] 25)).alloc (.cells #[.int .i64 0, .int .i64 0, .slice none 0 0] 25)) := ((Below.refl _ _).alloc (Nat.le_refl _) _).alloc (by simp) _
  have G0 : RowAt ((w.alloc (.cells #[.int .i64 R, .int .i64 C, .slice a n cap] 25)).alloc (.cells #[.int .i64 0, .int .i64 0, .slice none 0 0] 25)) w.heap.size #[.int .i64 R, .int .i64 C, .slice a n cap] 25 := (rowAt_new w _ _).alloc _
  have G1 : RowAt ((w.alloc (.cells #[.int .i64 R, .int .i64 C, .slice a n cap] 25)).alloc (.cells #[.int .i64 0, .int .i64 0, .slice none 0 0] 25)) (w.heap.size + 1) #[.int .i64 0, .int .i64 0, .slice none 0 0] 25 := by
    have := rowAt_new (w.alloc (.cells #[.int .i64 R, .int .i64 C, .slice a n cap] 25)) #[.int .i64 0, .int .i64 0, .slice none 0 0] 25
    simpa using this
  have HT : Hid (Tab ((w.alloc (.cells #[.int .i64 R, .int .i64 C, .slice a n cap] 25)).alloc (.cells #[.int .i64 0, .int .i64 0, .slice none 0 0] 25)) a n cap (newL R C)) := H.out.below B0
  generalize ((w.alloc (.cells #[.int .i64 R, .int .i64 C, .slice a n cap] 25)).alloc (.cells #[.int .i64 0, .int .i64 0, .slice none 0 0] 25)) = v at B0 G0 G1 HT ⊢
  have k0 : v.cell? ⟨w.heap.size, 0, none⟩ = some (.int .i64 R) := G0.cell 0
  have k1 : v.cell? ⟨w.heap.size, 1, none⟩ = some (.int .i64 C) := G0.cell 1
  have k2 : v.cell? ⟨w.heap.size, 2, none⟩ = some (.slice a n cap) := G0.cell 2
  have z1 := G1.lt
  have s0 := B0.size
  have HG1 : Hid (RowAt v (w.heap.size + 1) #[.int .i64 0, .int .i64 0, .slice none 0 0] 25) := G1
  clear G0 G1
  go_upto_region 2 with (first | (go_at_call 32; refine (gridOf_is HX.out HT.out).mono ?_; rintro e w1 ⟨(⟨hno, -⟩ | ⟨-, t, rfl, ht1⟩), hb1⟩; exact absurd hno (by simp)) | (rw [← grid_zero]; refine wpList_store_row rfl 55 (.tmp 3) (.tmp 8) rfl w1.heap.size (gridA R C (newL R C).length (numF (newL R C) (newL R C).length) t) rfl rfl 55 _ (gridAt_new _ _ _ _ _ _) (grid_infoA _ _ _ _ _) (by rw [gridA_size, gridA_size]) (gridA_one _ _ _ _ _) ?_))
  have s1 := hb1.size
  have B2 : Below v.heap.size v ((w1.alloc (.cells (gridA 0 0 0 (fun _ => 0) (fun _ => sl0)) 55)).setRow w1.heap.size (gridA R C (newL R C).length (numF (newL R C) (newL R C).length) t)) := below_row (hb1.alloc s1 _) s1 _
  have B3 : Below w1.heap.size w1 ((w1.alloc (.cells (gridA 0 0 0 (fun _ => 0) (fun _ => sl0)) 55)).setRow w1.heap.size (gridA R C (newL R C).length (numF (newL R C) (newL R C).length) t)) := below_row ((Below.refl _ _).alloc (Nat.le_refl _) _) (Nat.le_refl _) _
  have HG : Hid (GridAt ((w1.alloc (.cells (gridA 0 0 0 (fun _ => 0) (fun _ => sl0)) 55)).setRow w1.heap.size (gridA R C (newL R C).length (numF (newL R C) (newL R C).length) t)) w1.heap.size R C (newL R C).length (numF (newL R C) (newL R C).length) t) := RowAt.setRow (gridAt_new _ _ _ _ _ _) _
  generalize ((w1.alloc (.cells (gridA 0 0 0 (fun _ => 0) (fun _ => sl0)) 55)).setRow w1.heap.size (gridA R C (newL R C).length (numF (newL R C) (newL R C).length) t)) = v2 at B2 B3 HG ⊢
  have HTx : Hid (∀ i, i < (newL R C).length → Txt v2 (t (i + 1)).1 (t (i + 1)).2.1 (t (i + 1)).2.2 ((newL R C).getD i cl0).2.2.2.2) := fun i hi => (ht1 i hi).below B3
  have HB2 : Hid (Below v.heap.size v v2) := B2
  have s2 := B2.size
  have hn25 := step_le (l := newL R C) (K := (newL R C).length) (R := R) (C := C) (by omega) (by omega) (gridP_of_okB HX.out).2.2.1
  clear k0 k1 k2 ht1 hb1 B2 B3
  obtain ⟨N, HN⟩ : ∃ N, Hid ((newL R C).length = N) := ⟨_, rfl⟩
  obtain ⟨f, HF⟩ : ∃ f, Hid (numF (newL R C) (newL R C).length = f) := ⟨_, rfl⟩
  rw [HF.out] at HG
  rw [HN.out] at HG hn25
  go_wp2_with (first | (refine wpList_load_row rfl 55 (.tmp 3) rfl w1.heap.size rfl 55 (gridA R C N f t) (0, 0) _ HG.out Try.underlying55 rfl (grid_infoA _ _ _ _ _) ?_) | (go_at_call 40; refine (turn_any R C N f t _).mono ?_; rintro e w3 ⟨rfl, hb3⟩))
  have hle : ∀ k, f k ≤ 25 := fun k => by rw [← HF.out]; have q1 := numF_le (newL R C) (newL R C).length k; have q2 := HN.out; omega
  have hrep : Rep C R (turnF f) (newL C R) := rep_new C R (turnF f) (by omega) (fun p q p' q' hv hv' e => by
    have hq : q < 5 ∧ q' < 5 := by unfold vis at hv hv'; omega
    rw [turn_at f p q hq.1, turn_at f p' q' hq.2, ← HF.out] at e
    obtain ⟨m, e1, _, e3, e4⟩ := num_new R C hR hC q p (by unfold vis at hv ⊢; omega)
    obtain ⟨m', e1', _, e3', e4'⟩ := num_new R C hR hC q' p' (by unfold vis at hv' ⊢; omega)
    have : m = m' := by omega
    subst this
    omega)
  have hlen2 : (newL C R).length ≤ 25 := by
    rw [newL_len]
    exact Nat.mul_le_mul (show C ≤ 5 by omega) (show R ≤ 5 by omega)
  have ht : ∀ k, k < (newL C R).length → Txt w3 (t (turnF f (stR ((newL C R).getD k cl0) * 5 + stC ((newL C R).getD k cl0)))).1 (t (turnF f (stR ((newL C R).getD k cl0) * 5 + stC ((newL C R).getD k cl0)))).2.1 (t (turnF f (stR ((newL C R).getD k cl0) * 5 + stC ((newL C R).getD k cl0)))).2.2 ((newL C R).getD k cl0).2.2.2.2 ∧ ((newL C R).getD k cl0).2.2.2.2.length ≤ 1048576 := by
    intro k hk
    rw [newL_len] at hk
    rw [newL_get C R k (by omega) hk, (st_one _ _).1, (st_one _ _).2]
    obtain ⟨q1, q2⟩ := st_new C R k (by omega) hk
    rw [turn_at f _ _ (by omega)]
    obtain ⟨m, e1, e2, _, _⟩ := num_new R C hR hC (k % R) (k / R) (by unfold vis; omega)
    rw [← HF.out, e1]
    have h3 := (HTx.out m (by rw [newL_len]; exact e2)).below hb3
    rw [newL_get R C m (by omega) e2] at h3
    exact ⟨h3, Nat.zero_le _⟩
  refine (table_any C R N (turnF f) t (newL C R) _ (by omega) (by omega) (fun k => hle _) hrep hlen2 ht).mono ?_
  rintro e w4 ⟨⟨a', c', rs, rfl, hO⟩, hb4⟩
  have s3 := hb3.size
  have s4 := hb4.size
  have HG4 : Hid (RowAt w4 (w.heap.size + 1) #[.int .i64 0, .int .i64 0, .slice none 0 0] 25) := ((HG1.out.below HB2.out z1).below hb3 (by omega)).below hb4 (by omega)
  have HO : Hid (OwnT w4 w3.heap.size (.slice a' (newL C R).length c') rs (newL C R)) := hO
  obtain ⟨M, HM⟩ : ∃ M, Hid ((newL C R).length = M) := ⟨_, rfl⟩
  rw [HM.out] at HO ⊢
  clear hO hrep ht hlen2 hle
  go_wp2_with (refine wpList_store_row rfl 25 (.tmp 2) (.tmp 15) rfl (w.heap.size + 1) #[.int .i64 C, .int .i64 R, .slice a' M c'] rfl rfl 25 _ HG4.out tab_info rfl (cells3_one _ _ _ _ _) ?_)
  have bF : Below w.heap.size w w4 := ((B0.trans (HB2.out.mono s0)).trans (hb3.mono (by omega))).trans (hb4.mono (by omega))
  refine bodyPost_ret (v := .agg #[.int .i64 C, .int .i64 R, .slice a' M c']) (results_cell_row (p := 2) (ty := 25) rfl _ _ (w.heap.size + 1) 25 _ _ _ rfl (RowAt.setRow HG4.out _) Try.underlying25 rfl tab_info) rfl ⟨⟨a', M, c', rs, rfl, ?_⟩, below_row bF (by omega) _⟩
  exact OwnT.less (B' := w3.heap.size) ⟨own_row HO.out.1 _ _ (fun e => by have := (own_lt HO.out.1.row e).1; omega), HO.out.2.rowLow _ _ (by omega)⟩ (by omega)
end Go.Proofs.Ytikjhanfdmlhoac
