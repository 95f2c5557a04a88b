import Derived.Test.YtikjhanfdmlhoacTableW
namespace Go.Proofs.Ytikjhanfdmlhoac
open Go.RowKit

theorem newC_len (C i j : Nat) : (newC C i j).length = i * C + j := by rw [newC_map, List.length_map, newR_len]
theorem newC_get (C : Nat) (hC : 0 < C) : ∀ i j, j ≤ C → ∀ k, k < i * C + j → (newC C i j).getD k cl0 = clOne (k / C) (k % C)
  | 0, 0, _, k, hk => by omega
  | i + 1, 0, _, k, hk => by
    rw [← newC_row]
    exact newC_get C hC i C (Nat.le_refl _) k (by rw [Nat.succ_mul] at hk; omega)
  | i, j + 1, hj, k, hk => by
    rw [newC_succ]
    by_cases h : k < i * C + j
    · rw [getD_snoc_lt _ _ _ _ (by rw [newC_len]; exact h)]
      exact newC_get C hC i j (by omega) k h
    · have e : k = i * C + j := by omega
      rw [getD_snoc_eq _ _ _ _ (by rw [newC_len]; exact e), e]
      have e1 : (i * C + j) / C = i := by
        rw [Nat.mul_comm, Nat.mul_add_div hC, Nat.div_eq_of_lt (by omega)]
        rfl
      have e2 : (i * C + j) % C = j := by
        rw [Nat.mul_comm, Nat.mul_add_mod, Nat.mod_eq_of_lt (by omega)]
      rw [e1, e2]
  termination_by i j => (i, j)
theorem newL_len (R C : Nat) : (newL R C).length = R * C := by
  unfold newL
  rw [newC_len]
  omega
theorem newL_get (R C k : Nat) (hC : 0 < C) (hk : k < R * C) : (newL R C).getD k cl0 = clOne (k / C) (k % C) := newC_get C hC R 0 (Nat.zero_le _) k (by omega)
theorem st_one (a b : Nat) : stR (clOne a b) = a ∧ stC (clOne a b) = b := by simp [stR, stC, clOne]
/-- Numbers that are all different are read as cells of one square each. -/
theorem rep_new (R C : Nat) (f : Nat → Nat) (hC0 : 0 < C) (hinj : ∀ a b a' b', vis R 0 C a b → vis R 0 C a' b' → f (a * 5 + b) = f (a' * 5 + b') → a = a' ∧ b = b') : Rep R C f (newL R C) := by
  have hv : ∀ k, k < R * C → k / C < R ∧ k % C < C := fun k hk => ⟨Nat.div_lt_of_lt_mul (by rw [Nat.mul_comm]; exact hk), Nat.mod_lt _ hC0⟩
  have hst : ∀ k, k < (newL R C).length → stR ((newL R C).getD k cl0) = k / C ∧ stC ((newL R C).getD k cl0) = k % C := by
    intro k hk
    rw [newL_len] at hk
    rw [newL_get R C k hC0 hk]
    exact st_one _ _
  constructor
  · intro k hk
    rw [newL_len] at hk
    rw [newL_get R C k hC0 hk]
    obtain ⟨h1, h2⟩ := hv k hk
    generalize k / C = a at h1
    generalize k % C = b at h2
    refine ⟨a, b, 1, 1, rfl, h1, h2, ⟨fun i hi => ?_, ?_⟩, fun j hj => ?_, ?_⟩
    · obtain rfl : i = 0 := by omega
      exact ⟨h1, rfl⟩
    · rintro ⟨h3, h4⟩
      have := hinj (a + 1) b a b (by unfold vis; omega) (by unfold vis; omega) h4
      omega
    · obtain rfl : j = 0 := by omega
      exact ⟨h2, rfl⟩
    · rintro ⟨h3, h4⟩
      have := hinj a (b + 1) a b (by unfold vis; omega) (by unfold vis; omega) h4
      omega
  · intro i k hik hk
    obtain ⟨e1, e2⟩ := hst i (by omega)
    obtain ⟨e3, e4⟩ := hst k hk
    rw [e1, e2, e3, e4]
    unfold vis
    have m1 := Nat.mod_lt i hC0
    have d1 := Nat.div_add_mod i C
    have d2 := Nat.div_add_mod k C
    have dle : i / C ≤ k / C := Nat.div_le_div_right (Nat.le_of_lt hik)
    refine ⟨m1, ?_⟩
    rcases Nat.lt_or_eq_of_le dle with h | h
    · exact .inl h
    · refine .inr ⟨h, ?_⟩
      rw [h] at d1
      omega
  · intro k hk a b hvis
    obtain ⟨e3, e4⟩ := hst k hk
    rw [e3, e4] at hvis ⊢
    rw [newL_len] at hk
    obtain ⟨h1, h2⟩ := hv k hk
    intro e
    have := hinj a b (k / C) (k % C) (by unfold vis at hvis ⊢; omega) (by unfold vis; omega) e
    unfold vis at hvis
    omega
  · intro a b hvis
    have hab : a < R ∧ b < C := by unfold vis at hvis; omega
    have hlt : a * C + b < R * C := by
      have : (a + 1) * C ≤ R * C := Nat.mul_le_mul_right C (by omega)
      rw [Nat.succ_mul] at this
      omega
    obtain ⟨e1, e2⟩ := hst (a * C + b) (by rw [newL_len]; exact hlt)
    refine .inl ⟨a * C + b, by rw [newL_len]; exact hlt, ?_, ?_⟩
    · rw [e1, Nat.mul_comm, Nat.mul_add_div hC0, Nat.div_eq_of_lt hab.2]
      rfl
    · rw [e2, Nat.mul_comm, Nat.mul_add_mod, Nat.mod_eq_of_lt hab.2]

set_option maxRecDepth 100000 in
set_option maxHeartbeats 4000000 in
theorem implTableNew_any (R C : Int) (w : World) :
    Calls Try.prog 14 #[.int .i64 R, .int .i64 C] w fun z w' => ((newOk R C = false ∧ z = .returned (.agg #[.int .i64 0, .int .i64 0, .slice none 0 0])) ∨ (newOk R C = true ∧ ∃ a n c rs, z = .returned (.agg #[.int .i64 R, .int .i64 C, .slice a n c]) ∧ OwnT w' w.heap.size (.slice a n c) rs (newL R.toNat C.toNat))) ∧ Below w.heap.size w w' := by
  cases h0 : sizeB R
  · have H0 : Hid (sizeB R = false) := h0
    clear h0
    go_enter Try.func14, Try.ntmps14
    go_wp2_with (go_at_call 36; refine (sizeOk_is H0.out _).mono ?_; rintro e w1 ⟨rfl, hw1⟩; subst w1)
    refine bodyPost_ret (v := .agg #[.int .i64 0, .int .i64 0, .slice none 0 0]) (by simp [results, Try.results14, go_sem]) rfl ⟨.inl ⟨by simp only [newOk, show decide (1 ≤ R ∧ R ≤ 5) = false from H0.out, Bool.false_and], rfl⟩, ?_⟩
    exact (Below.refl _ _).alloc (Nat.le_refl _) _
  cases h1 : sizeB C
  · have H0 : Hid (sizeB R = true) := h0
    have H1 : Hid (sizeB C = false) := h1
    clear h0 h1
    go_enter Try.func14, Try.ntmps14
    go_wp2_with (first | (go_at_call_of 36 (Value.int IntKind.i64 R); refine (sizeOk_is H0.out _).mono ?_; rintro e w1 ⟨rfl, hw1⟩; subst w1) | (go_at_call_of 36 (Value.int IntKind.i64 C); refine (sizeOk_is H1.out _).mono ?_; rintro e w1 ⟨rfl, hw1⟩; subst w1))
    refine bodyPost_ret (v := .agg #[.int .i64 0, .int .i64 0, .slice none 0 0]) (by simp [results, Try.results14, go_sem]) rfl ⟨.inl ⟨by simp only [newOk, show decide (1 ≤ C ∧ C ≤ 5) = false from H1.out, Bool.and_false], rfl⟩, ?_⟩
    exact (Below.refl _ _).alloc (Nat.le_refl _) _
  have hR : 1 ≤ R ∧ R ≤ 5 := of_decide_eq_true h0
  have hC : 1 ≤ C ∧ C ≤ 5 := of_decide_eq_true h1
  have HN : Hid (newOk R C = true) := by show newOk R C = true; simp only [newOk, decide_eq_true hR, decide_eq_true hC, Bool.and_self]
  have H0 : Hid (sizeB R = true) := h0
  have H1 : Hid (sizeB C = true) := h1
  clear h0 h1
  obtain ⟨R, rfl⟩ : ∃ R' : Nat, R = R' := ⟨R.toNat, by omega⟩
  obtain ⟨C, rfl⟩ : ∃ C' : Nat, C = C' := ⟨C.toNat, by omega⟩
  go_enter Try.func14, Try.ntmps14
  go_upto_region 3 with (first | (go_at_call_of 36 (Value.int IntKind.i64 R); refine (sizeOk_is H0.out _).mono ?_; rintro e w1 ⟨rfl, hw1⟩; subst w1) | (go_at_call_of 36 (Value.int IntKind.i64 C); refine (sizeOk_is H1.out _).mono ?_; rintro e w1 ⟨rfl, hw1⟩; subst w1))
  have B0 : Below w.heap.size w (w.alloc (.cells #[.int .i64 0, .int .i64 0, .slice none 0 0] 25)) := (Below.refl _ _).alloc (Nat.le_refl _) _
  have HG : Hid (RowAt (w.alloc (.cells #[.int .i64 0, .int .i64 0, .slice none 0 0] 25)) w.heap.size #[.int .i64 0, .int .i64 0, .slice none 0 0] 25) := rowAt_new w _ _
  generalize (w.alloc (.cells #[.int .i64 0, .int .i64 0, .slice none 0 0] 25)) = v0 at B0 HG ⊢
  have z0 := HG.out.lt
  have s0 := B0.size
  clear H0 H1
  have hlen : (newL R C).length ≤ 25 := by
    rw [newL_len]
    exact Nat.mul_le_mul (show R ≤ 5 by omega) (show C ≤ 5 by omega)
  go_wp2_with (first | (refine wpList_grid2 rfl (.tmp 14) (.tmp 15) rfl R C rfl rfl ?_) | (go_at_call 37; refine (fillUp_any R C 0 (fun _ => 0) (fun _ => sl0) _ (by omega) (by omega) (by omega) (fun _ => Nat.le_refl _) (fun k k1 k2 => by omega)).mono ?_; rintro e w1 ⟨⟨f', t', n', rfl, hfl⟩, hb1⟩))
  have hinj : ∀ a b a' b', vis R 0 C a b → vis R 0 C a' b' → f' (a * 5 + b) = f' (a' * 5 + b') → a = a' ∧ b = b' := fun a b a' b' hv hv' e => hfl.2.2.2.2.2.2.2.1 a b a' b' hv hv' rfl e
  have ht : ∀ k, k < (newL R C).length → Txt w1 (t' (f' (stR ((newL R C).getD k cl0) * 5 + stC ((newL R C).getD k cl0)))).1 (t' (f' (stR ((newL R C).getD k cl0) * 5 + stC ((newL R C).getD k cl0)))).2.1 (t' (f' (stR ((newL R C).getD k cl0) * 5 + stC ((newL R C).getD k cl0)))).2.2 ((newL R C).getD k cl0).2.2.2.2 ∧ ((newL R C).getD k cl0).2.2.2.2.length ≤ 1048576 := by
    intro k hk
    rw [newL_len] at hk
    rw [newL_get R C k (by omega) hk, (st_one _ _).1, (st_one _ _).2]
    have hv : vis R 0 C (k / C) (k % C) := by
      have h1 : k / C < R := Nat.div_lt_of_lt_mul (by rw [Nat.mul_comm]; exact hk)
      have h2 : k % C < C := Nat.mod_lt _ (by omega)
      unfold vis
      omega
    rw [(hfl.2.2.2.2.2.2.1 _ _ hv rfl).2]
    exact ⟨⟨rfl, Nat.le_refl _, Nat.zero_le _, .inl rfl⟩, Nat.zero_le _⟩
  refine (table_any R C n' f' t' (newL R C) _ (by omega) (by omega) (fun k => Nat.le_trans (hfl.2.2.1 k) hfl.2.1) (rep_new R C f' (by omega) hinj) hlen ht).mono ?_
  rintro e w2 ⟨⟨a, c, rs, rfl, hO⟩, hb2⟩
  have s1 := hb1.size
  have s2 := hb2.size
  have HG2 : Hid (RowAt w2 w.heap.size #[.int .i64 0, .int .i64 0, .slice none 0 0] 25) := (HG.out.below hb1 z0).below hb2 (by omega)
  have HO : Hid (OwnT w2 w1.heap.size (.slice a (newL R C).length c) rs (newL R C)) := hO
  obtain ⟨m, HM⟩ : ∃ m, Hid ((newL R C).length = m) := ⟨_, rfl⟩
  rw [HM.out] at HO ⊢
  clear hO hinj ht hfl hlen
  go_wp2_with (refine wpList_store_row rfl 25 (.tmp 4) (.tmp 18) rfl w.heap.size #[.int .i64 R, .int .i64 C, .slice a m c] rfl rfl 25 _ HG2.out tab_info rfl (cells3_one _ _ _ _ _) ?_)
  have bF : Below w.heap.size w w2 := (B0.trans (hb1.mono s0)).trans (hb2.mono (by omega))
  refine bodyPost_ret (v := .agg #[.int .i64 R, .int .i64 C, .slice a m c]) (results_cell_row (p := 4) (ty := 25) rfl _ _ w.heap.size 25 _ _ _ rfl (RowAt.setRow HG2.out _) Try.underlying25 rfl tab_info) rfl ⟨.inr ⟨HN.out, a, m, c, rs, rfl, ?_⟩, below_row bF (Nat.le_refl _) _⟩
  exact OwnT.less (B' := w1.heap.size) ⟨own_row HO.out.1 _ _ (fun e => by have := (own_lt HO.out.1.row e).1; omega), by simpa using HO.out.2.rowLow _ _ (by omega)⟩ (by omega)
end Go.Proofs.Ytikjhanfdmlhoac
