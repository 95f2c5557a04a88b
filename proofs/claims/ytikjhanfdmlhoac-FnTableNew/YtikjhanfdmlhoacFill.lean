import Derived.Test.YtikjhanfdmlhoacGridOf
namespace Go.Proofs.Ytikjhanfdmlhoac
open Go.RowKit

/-- A grid's squares, filled up as far as (i, j): what was of a cell stays, each other square is a new cell. -/
def Filled (C : Nat) (f : Nat → Nat) (t : Nat → Sl) (n i j : Nat) (f' : Nat → Nat) (t' : Nat → Sl) (n' : Nat) : Prop :=
  n ≤ n' ∧ n' ≤ 25 ∧ (∀ s, f' s ≤ n') ∧ (∀ k, k ≤ n → t' k = t k) ∧ (∀ k, 1 ≤ k → k ≤ n' → ∃ s, s < 25 ∧ f' s = k) ∧
  (∀ a b, vis i j C a b → f (a * 5 + b) ≠ 0 → f' (a * 5 + b) = f (a * 5 + b)) ∧
  (∀ a b, vis i j C a b → f (a * 5 + b) = 0 → n < f' (a * 5 + b) ∧ t' (f' (a * 5 + b)) = sl0) ∧
  (∀ a b a' b', vis i j C a b → vis i j C a' b' → f (a * 5 + b) = 0 → f' (a * 5 + b) = f' (a' * 5 + b') → a = a' ∧ b = b') ∧
  (∀ a b, b < 5 → ¬ vis i j C a b → f' (a * 5 + b) = f (a * 5 + b))

theorem Filled.row {C : Nat} {f f' : Nat → Nat} {t t' : Nat → Sl} {n n' i : Nat} (h : Filled C f t n i C f' t' n') : Filled C f t n (i + 1) 0 f' t' n' := by
  have e : ∀ a b, vis i C C a b ↔ vis (i + 1) 0 C a b := by
    intro a b
    unfold vis
    omega
  obtain ⟨h1, h2, h3, h4, h5, h6, h7, h8, h9⟩ := h
  refine ⟨h1, h2, h3, h4, h5, ?_, ?_, ?_, ?_⟩
  · intro a b hv
    exact h6 a b ((e a b).2 hv)
  · intro a b hv
    exact h7 a b ((e a b).2 hv)
  · intro a b a' b' hv hv'
    exact h8 a b a' b' ((e a b).2 hv) ((e a' b').2 hv')
  · intro a b hb hv
    exact h9 a b hb (fun hh => hv ((e a b).1 hh))
theorem Filled.skip {C : Nat} {f f' : Nat → Nat} {t t' : Nat → Sl} {n n' i j : Nat} (h : Filled C f t n i j f' t' n') (hC : C ≤ 5) (hj : j < C) (hf : ∀ s, f s ≤ n) (hz : f' (i * 5 + j) ≠ 0) : Filled C f t n i (j + 1) f' t' n' := by
  obtain ⟨h1, h2, h3, h4, h5, h6, h7, h8, h9⟩ := h
  have hnow : f' (i * 5 + j) = f (i * 5 + j) := h9 i j (by omega) (by unfold vis; omega)
  have hv : ∀ a b, vis i (j + 1) C a b → vis i j C a b ∨ (a = i ∧ b = j) := by
    intro a b hh
    unfold vis at hh ⊢
    omega
  refine ⟨h1, h2, h3, h4, h5, ?_, ?_, ?_, ?_⟩
  · intro a b hh hne
    rcases hv a b hh with h | ⟨rfl, rfl⟩
    · exact h6 a b h hne
    · exact hnow
  · intro a b hh he
    rcases hv a b hh with h | ⟨rfl, rfl⟩
    · exact h7 a b h he
    · rw [hnow] at hz
      exact absurd he hz
  · intro a b a' b' hh hh' he hq
    rcases hv a b hh with h | ⟨rfl, rfl⟩
    · rcases hv a' b' hh' with h' | ⟨rfl, rfl⟩
      · exact h8 a b a' b' h h' he hq
      · have := (h7 a b h he).1
        have := hf (a' * 5 + b')
        rw [hnow] at hq
        omega
    · rw [hnow] at hz
      exact absurd he hz
  · intro a b hb hh
    exact h9 a b hb (fun h => hh (by unfold vis at h ⊢; omega))
theorem Filled.lay {C : Nat} {f f' : Nat → Nat} {t t' : Nat → Sl} {n n' i j : Nat} (h : Filled C f t n i j f' t' n') (hC : C ≤ 5) (hi : i < 5) (hj : j < C) (_ : ∀ s, f s ≤ n) (hz : f' (i * 5 + j) = 0) :
    n' < 25 ∧ Filled C f t n i (j + 1) (giveF f' i j 1 1 (n' + 1)) (updS t' (n' + 1) sl0) (n' + 1) := by
  obtain ⟨h1, h2, h3, h4, h5, h6, h7, h8, h9⟩ := h
  have hnow : f' (i * 5 + j) = f (i * 5 + j) := h9 i j (by omega) (by unfold vis; omega)
  have hlt : n' < 25 := by
    have := pigeon f' 25 (List.range (n' + 1)) List.nodup_range (by
      intro x hx
      have hx' : x < n' + 1 := by simpa using hx
      by_cases h0 : x = 0
      · exact ⟨i * 5 + j, by omega, by rw [h0]; exact hz⟩
      · exact h5 x (by omega) (by omega))
    simp at this
    omega
  have hg : ∀ a b, b < 5 → ¬ (a = i ∧ b = j) → giveF f' i j 1 1 (n' + 1) (a * 5 + b) = f' (a * 5 + b) := by
    intro a b hb hne
    unfold giveF
    rw [show (a * 5 + b) / 5 = a from by omega, show (a * 5 + b) % 5 = b from by omega, if_neg (by omega)]
  have hg0 : giveF f' i j 1 1 (n' + 1) (i * 5 + j) = n' + 1 := by
    unfold giveF
    rw [show (i * 5 + j) / 5 = i from by omega, show (i * 5 + j) % 5 = j from by omega, if_pos (by omega)]
  have hv : ∀ a b, vis i (j + 1) C a b → (vis i j C a b ∧ ¬ (a = i ∧ b = j) ∧ b < 5) ∨ (a = i ∧ b = j) := by
    intro a b hh
    unfold vis at hh ⊢
    omega
  refine ⟨hlt, by omega, by omega, ?_, ?_, ?_, ?_, ?_, ?_, ?_⟩
  · intro s
    unfold giveF
    split
    · exact Nat.le_refl _
    · exact Nat.le_succ_of_le (h3 s)
  · intro k hk
    simp only [updS, show ¬ k = n' + 1 from by omega, if_false]
    exact h4 k hk
  · intro k k1 k2
    by_cases hk : k = n' + 1
    · exact ⟨i * 5 + j, by omega, by rw [hg0, hk]⟩
    · obtain ⟨s, s1, s2⟩ := h5 k k1 (by omega)
      refine ⟨s, s1, ?_⟩
      have hne : ¬ (s / 5 = i ∧ s % 5 = j) := by
        rintro ⟨e1, e2⟩
        have : s = i * 5 + j := by omega
        rw [this, hz] at s2
        omega
      have := hg (s / 5) (s % 5) (by omega) hne
      rw [show s / 5 * 5 + s % 5 = s from by omega] at this
      rw [this]
      exact s2
  · intro a b hh hne
    rcases hv a b hh with ⟨h, h', hb⟩ | ⟨rfl, rfl⟩
    · rw [hg a b hb h']
      exact h6 a b h hne
    · rw [← hnow] at hne
      exact absurd hz hne
  · intro a b hh he
    rcases hv a b hh with ⟨h, h', hb⟩ | ⟨rfl, rfl⟩
    · rw [hg a b hb h']
      obtain ⟨q1, q2⟩ := h7 a b h he
      refine ⟨q1, ?_⟩
      have := h3 (a * 5 + b)
      simp only [updS, show ¬ f' (a * 5 + b) = n' + 1 from by omega, if_false]
      exact q2
    · rw [hg0]
      refine ⟨by omega, ?_⟩
      simp only [updS, if_true]
  · intro a b a' b' hh hh' he hq
    rcases hv a b hh with ⟨h, h', hb⟩ | ⟨rfl, rfl⟩
    · rw [hg a b hb h'] at hq
      rcases hv a' b' hh' with ⟨g, g', gb⟩ | ⟨rfl, rfl⟩
      · rw [hg a' b' gb g'] at hq
        exact h8 a b a' b' h g he hq
      · rw [hg0] at hq
        have := h3 (a * 5 + b)
        omega
    · rw [hg0] at hq
      rcases hv a' b' hh' with ⟨g, g', gb⟩ | ⟨rfl, rfl⟩
      · rw [hg a' b' gb g'] at hq
        have := h3 (a' * 5 + b')
        omega
      · exact ⟨rfl, rfl⟩
  · intro a b hb hh
    have hne : ¬ (a = i ∧ b = j) := by
      rintro ⟨rfl, rfl⟩
      exact hh (by unfold vis; omega)
    rw [hg a b hb hne]
    exact h9 a b hb (fun h => hh (by unfold vis at h ⊢; omega))
theorem Filled.start {C : Nat} {f : Nat → Nat} {t : Nat → Sl} {n : Nat} (hn : n ≤ 25) (hf : ∀ s, f s ≤ n) (hs : ∀ k, 1 ≤ k → k ≤ n → ∃ s, s < 25 ∧ f s = k) : Filled C f t n 0 0 f t n := by
  have hv : ∀ a b, ¬ vis 0 0 C a b := by
    intro a b hh
    unfold vis at hh
    omega
  exact ⟨Nat.le_refl _, hn, hf, fun _ _ => rfl, hs, fun a b h => absurd h (hv a b), fun a b h => absurd h (hv a b), fun a b a' b' h => absurd h (hv a b), fun _ _ _ _ => rfl⟩

set_option maxRecDepth 100000 in
set_option maxHeartbeats 4000000 in
theorem fillUp_any (R C n : Nat) (f : Nat → Nat) (t : Nat → Sl) (w : World) (hR : R ≤ 5) (hC : C ≤ 5) (hn : n ≤ 25) (hf : ∀ s, f s ≤ n) (hs : ∀ k, 1 ≤ k → k ≤ n → ∃ s, s < 25 ∧ f s = k) :
    Calls Try.prog 37 #[.agg (gridA R C n f t)] w fun z w' => (∃ f' t' n', z = .returned (.agg (gridA R C n' f' t')) ∧ Filled C f t n R 0 f' t' n') ∧ Below w.heap.size w w' := by
  have HF : Hid (∀ s, f s ≤ n) := hf
  have HS : Hid (Filled C f t n 0 0 f t n) := Filled.start hn hf hs
  clear hf hs
  go_enter Try.func37, Try.ntmps37
  go_upto_region 1 with fail
  rw [← grid_zero]
  have B0 : Below w.heap.size w ((w.alloc (.cells (gridA R C n f t) 55)).alloc (.cells (gridA 0 0 0 (fun _ => 0) (fun _ => sl0)) 55)) := ((Below.refl _ _).alloc (Nat.le_refl _) _).alloc (by simp) _
  have G0 : GridAt ((w.alloc (.cells (gridA R C n f t) 55)).alloc (.cells (gridA 0 0 0 (fun _ => 0) (fun _ => sl0)) 55)) w.heap.size R C n f t := (gridAt_new w R C n f t).alloc _
  have G1 : GridAt ((w.alloc (.cells (gridA R C n f t) 55)).alloc (.cells (gridA 0 0 0 (fun _ => 0) (fun _ => sl0)) 55)) (w.heap.size + 1) 0 0 0 (fun _ => 0) (fun _ => sl0) := by
    have := gridAt_new (w.alloc (.cells (gridA R C n f t) 55)) 0 0 0 (fun _ => 0) (fun _ => sl0)
    simpa using this
  generalize ((w.alloc (.cells (gridA R C n f t) 55)).alloc (.cells (gridA 0 0 0 (fun _ => 0) (fun _ => sl0)) 55)) = v0 at B0 G0 G1 ⊢
  have k0 := G0.rows
  go_wp2_with fail
  go_loopw [7] (fun iv wr => ∃ (i : Nat) (f' : Nat → Nat) (t' : Nat → Sl) (n' : Nat), i ≤ R ∧ iv = .int .i64 i ∧ Filled C f t n i 0 f' t' n' ∧ GridAt wr w.heap.size R C n' f' t' ∧ GridAt wr (w.heap.size + 1) 0 0 0 (fun _ => 0) (fun _ => sl0) ∧ Below w.heap.size w wr) (fun iv _ => R - (intOf iv).toNat)
  case atStart => exact ⟨0, f, t, n, Nat.zero_le _, rfl, HS.out, G0, G1, B0⟩
  case round =>
    clear k0 G0 G1 B0
    obtain ⟨i, f', t', n', hi, rfl, hfl, hg, hz, hb⟩ := hrel
    have HL : Hid (Filled C f t n i 0 f' t' n') := hfl
    have HG : Hid (GridAt wr w.heap.size R C n' f' t') := hg
    have HZ : Hid (GridAt wr (w.heap.size + 1) 0 0 0 (fun _ => 0) (fun _ => sl0)) := hz
    have HB : Hid (Below w.heap.size w wr) := hb
    have g1 := hg.cols
    clear hfl hg hz hb
    by_cases hlt : i < R
    · go_wp2_with fail
      go_loopw [12] (fun jv wr => ∃ (j : Nat) (f' : Nat → Nat) (t' : Nat → Sl) (n' : Nat), j ≤ C ∧ jv = .int .i64 j ∧ Filled C f t n i j f' t' n' ∧ GridAt wr w.heap.size R C n' f' t' ∧ GridAt wr (w.heap.size + 1) 0 0 0 (fun _ => 0) (fun _ => sl0) ∧ Below w.heap.size w wr) (fun jv _ => C - (intOf jv).toNat)
      case atStart => exact ⟨0, f', t', n', Nat.zero_le _, rfl, HL.out, HG.out, HZ.out, HB.out⟩
      case round =>
        clear HL HG HZ HB g1
        obtain ⟨j, f', t', n', hj, rfl, hfl, hg, hz, hb⟩ := hrel
        have HL : Hid (Filled C f t n i j f' t' n') := hfl
        have HG : Hid (GridAt wr w.heap.size R C n' f' t') := hg
        have HZ : Hid (GridAt wr (w.heap.size + 1) 0 0 0 (fun _ => 0) (fun _ => sl0)) := hz
        have HB : Hid (Below w.heap.size w wr) := hb
        have zl := hz.lt
        by_cases hlj : j < C
        · have k1 := hg.num (i * 5 + j) (by omega)
          obtain ⟨x, hx⟩ : ∃ x, f' (i * 5 + j) = x := ⟨_, rfl⟩
          have HX : Hid (f' (i * 5 + j) = x) := hx
          rw [← Nat.add_assoc, hx] at k1
          have b0 : (i : Int) < 5 := by omega
          have b1 : (j : Int) < 5 := by omega
          clear hfl hg hz hb hx
          by_cases h0 : x = 0
          · subst h0
            obtain ⟨hn25, hL⟩ := HL.out.lay hC (by omega) hlj HF.out HX.out
            have HL2 : Hid (Filled C f t n i (j + 1) (giveF f' i j 1 1 (n' + 1)) (updS t' (n' + 1) sl0) (n' + 1)) := hL
            clear hL
            go_wp2_with (first | (refine wpList_load_row rfl 55 (.tmp 1) rfl w.heap.size rfl 55 (gridA R C n' f' t') (0, 0) _ HG.out Try.underlying55 rfl (grid_infoA _ _ _ _ _) ?_) | (go_at_call 53; refine (lay_any R C n' f' t' i j 1 1 sl0 _ (by omega) (by omega) hn25).mono ?_; rintro e w4 ⟨rfl, hb4⟩) | (refine wpList_store_row rfl 55 (.tmp 1) (.tmp 26) rfl w.heap.size (gridA R C (n' + 1) (giveF f' i j 1 1 (n' + 1)) (updS t' (n' + 1) sl0)) rfl rfl 55 _ (HG.out.below hb4 (by omega)) (grid_infoA _ _ _ _ _) (by rw [gridA_size, gridA_size]) (gridA_one _ _ _ _ _) ?_))
            go_roundw
            case rel => exact ⟨j + 1, _, _, n' + 1, by omega, by go_num, HL2.out, RowAt.setRow (HG.out.below hb4 (by omega)) _, RowAt.setRowOther (HZ.out.below hb4 zl) _ _ (by omega), below_row (HB.out.trans (hb4.mono (by omega))) (Nat.le_refl _) _⟩
            case measure => simp [intOf]; omega
          · have n0 : ((x : Int) == 0) = false := by simp; omega
            have HL2 : Hid (Filled C f t n i (j + 1) f' t' n') := HL.out.skip hC hlj HF.out (by rw [HX.out]; exact h0)
            go_wp2_with fail
            go_roundw
            case rel => exact ⟨j + 1, f', t', n', by omega, by go_num, HL2.out, HG.out, HZ.out, HB.out⟩
            case measure => simp [intOf]; omega
        · clear hfl hg hz hb
          go_wp2_with fail
          go_roundw
          case rel =>
            have hh := HL.out
            rw [show j = C from by omega] at hh
            exact ⟨i + 1, f', t', n', by omega, by go_num, hh.row, HG.out, HZ.out, HB.out⟩
          case measure => simp [intOf]; omega
    · have hid : i = R := by omega
      subst hid
      go_wp2_with (first | (refine wpList_load_row rfl 55 (.tmp 1) rfl w.heap.size rfl 55 (gridA i C n' f' t') (0, 0) _ HG.out Try.underlying55 rfl (grid_infoA _ _ _ _ _) ?_) | (refine wpList_store_row rfl 55 (.tmp 2) (.tmp 29) rfl (w.heap.size + 1) (gridA i C n' f' t') rfl rfl 55 _ HZ.out (grid_infoA _ _ _ _ _) (by rw [gridA_size, gridA_size]) (gridA_one _ _ _ _ _) ?_))
      refine bodyPost_ret (v := .agg (gridA i C n' f' t')) (results_cell_row (p := 2) (ty := 55) rfl _ _ (w.heap.size + 1) 55 _ _ _ rfl (RowAt.setRow HZ.out _) Try.underlying55 rfl (grid_infoA _ _ _ _ _)) rfl ⟨⟨f', t', n', rfl, HL.out⟩, ?_⟩
      exact below_row HB.out (by omega) _
end Go.Proofs.Ytikjhanfdmlhoac
