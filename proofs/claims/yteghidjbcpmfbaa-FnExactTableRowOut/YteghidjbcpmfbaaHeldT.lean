import Derived.Test.YteghidjbcpmfbaaMarkT
namespace Go.Proofs.Yteghidjbcpmfbaa
open Go.RowKit

set_option maxRecDepth 100000 in
set_option maxHeartbeats 4000000 in
theorem heldCellS_any (a : Option Addr) (n c : Nat) (l : List Cl) (k0 : Int) (w : World) (h : Tab w a n c (markL k0 l)) (h0 : 0 ≤ k0) (h1 : k0 + 4 * l.length + 3 * (totT l : Nat) ≤ 50000000) (h2 : totT l ≤ 1048576) :
    Calls Try.prog 39 #[.slice a n c, .int .i64 k0] w fun e w' => e = .returned (.int .i64 (kAt k0 l l.length)) ∧ w' = w := by
  obtain ⟨hn, hc, hm, hl⟩ := h
  rw [markL_len] at hn
  subst hn
  unfold maxLen at hm
  have HL : Hid (markL k0 l = [] ∨ ∃ b off, a = some ⟨b, off, none⟩ ∧ b < w.heap.size ∧ ∀ k, k < (markL k0 l).length → CellAt w b (off + k * 5) ((markL k0 l).getD k cl0)) := hl
  clear hl
  go_enter Try.func39, Try.ntmps39
  go_wp2_with fail
  go_loop [1, 5] (fun kk iv => ∃ (i : Nat), i ≤ l.length ∧ iv = .int .i64 i ∧ kk = .int .i64 (kAt k0 l i)) (fun _ iv => l.length - (intOf iv).toNat)
  case atStart => exact ⟨0, Nat.zero_le _, rfl, by simp [kAt, totT]⟩
  case round =>
    obtain ⟨i, hi, rfl, rfl⟩ := hrel
    by_cases hlt : i < l.length
    · have kge := kAt_ge k0 l i h0
      have kle := kAt_le k0 l i (by omega)
      have HSU : Hid (kAt k0 l (i + 1) = kAt k0 l i + 4 + 3 * ((l.getD i cl0).2.2.2.2.length : Nat)) := kAt_succ k0 l i hlt
      have hlt2 : i < (markL k0 l).length := by rw [markL_len]; exact hlt
      rcases HL.out with e | ⟨b, off, rfl, hbw, hl⟩
      · rw [e] at hlt2
        exact absurd hlt2 (by simp)
      have hcell := hl i hlt2
      rw [markL_get k0 l i hlt] at hcell
      obtain ⟨K, HK⟩ : ∃ K, Hid (kAt k0 l i = K) := ⟨_, rfl⟩
      rw [HK.out] at kge kle hcell ⊢
      obtain ⟨m, HM⟩ : ∃ m, Hid ((l.getD i cl0).2.2.2.2.length = m) := ⟨_, rfl⟩
      rw [HM.out] at hcell
      have hm6 : m ≤ 1048576 := by
        have := totT_le l i hlt
        rw [← HM.out]
        omega
      obtain ⟨c0, c1, c2, c3, p, tn, q, c4, htx⟩ := hcell
      simp only [mkC] at c0 c1 c2 c3 htx
      have HTN : Hid (tn = m) := htx.1.trans (marked_len _ _)
      have htx' := htx
      rw [HTN.out] at htx' c4
      have HTX : Hid (Txt w p m q (marked (K + 1 + 1 + 1 + 1) m)) := by
        show Txt w p m q (marked (K + 1 + 1 + 1 + 1) m)
        rw [show K + 1 + 1 + 1 + 1 = K + 4 from by omega]
        exact htx'
      rw [show K + 2 = K + 1 + 1 from by omega] at c2
      rw [show K + 3 = K + 1 + 1 + 1 from by omega] at c3
      have hK2 : K ≤ 50000000 := by omega
      have nk : ¬ K + 1 + 1 + 1 + 1 + 3 * (m : Int) < 0 := by omega
      clear hl htx htx' kle
      go_wp2_with (go_at_call 63; refine (heldSignS_any p m q _ _ HTX.out hm6 (by omega) (by omega)).mono ?_; rintro e w2 ⟨rfl, hw2⟩; subst w2)
      go_round
      case rel =>
        refine ⟨i + 1, by omega, by go_num, ?_⟩
        rw [HSU.out, HK.out, HM.out]
        congr 1
        omega
      case measure => simp [intOf]; omega
    · have e : i = l.length := by omega
      subst e
      go_wp2_with fail
      go_ret
      exact ⟨rfl, rfl⟩
set_option maxHeartbeats 1000000 in
theorem markTable_any (R C : Int) (a : Option Addr) (n c : Nat) (rs : List Rw) (l : List Cl) (k0 : Int) (B : Nat) (w : World) (h : OwnT w B (.slice a n c) rs l) (hB : B ≤ w.heap.size) (h0 : 0 ≤ k0) (h1 : k0 + 4 * l.length + 3 * (totT l : Nat) ≤ 50000000) (h2 : totT l ≤ 1048576) :
    Calls Try.prog 14 #[.agg #[.int .i64 R, .int .i64 C, .slice a n c], .int .i64 k0] w fun e w' => e = .returned (.int .i64 (kAt k0 l l.length)) ∧ (∃ rs', OwnT w' B (.slice a n c) rs' (markL k0 l)) ∧ Below B w w' ∧ Stay w w' := by
  have H : Hid (OwnT w B (.slice a n c) rs l) := h
  clear h
  go_enter Try.func14, Try.ntmps14
  go_wp2_with (go_at_call 38; refine (markCellS_any _ _ _ rs l _ B _ (H.out.below ((Below.refl _ _).alloc (Nat.le_refl _) _)) h0 h1 h2).mono ?_; rintro e w1 ⟨rfl, ⟨rs', ho1⟩, hb1, hs1⟩)
  go_ret
  exact ⟨rfl, ⟨rs', ho1⟩, ((Below.refl _ _).alloc hB _).trans hb1, fun b cs hh => hs1 b cs (hh.alloc _)⟩
set_option maxHeartbeats 1000000 in
theorem markTable_over (R C : Int) (a : Option Addr) (n c : Nat) (rs : List Rw) (l : List Cl) (k0 : Int) (B E : Nat) (w : World) (h : OwnT w B (.slice a n c) rs l) (hE : ∀ g, (Value.slice a n c).ownBlock = some g → g < E) (hT : ∀ k, k < rs.length → ∀ g, (rwT (rs.getD k rw0)).ownBlock = some g → g < E) (hB : B ≤ w.heap.size) (h0 : 0 ≤ k0) (h1 : k0 + 4 * l.length + 3 * (totT l : Nat) ≤ 50000000) (h2 : totT l ≤ 1048576) :
    Calls Try.prog 14 #[.agg #[.int .i64 R, .int .i64 C, .slice a n c], .int .i64 k0] w fun e w' => e = .returned (.int .i64 (kAt k0 l l.length)) ∧ (∃ rs', OwnT w' B (.slice a n c) rs' (markL k0 l)) ∧ Below B w w' ∧ Stay w w' ∧ Over E w w' := by
  have H : Hid (OwnT w B (.slice a n c) rs l) := h
  have HE : Hid (∀ g, (Value.slice a n c).ownBlock = some g → g < E) := hE
  have HTE : Hid (∀ k, k < rs.length → ∀ g, (rwT (rs.getD k rw0)).ownBlock = some g → g < E) := hT
  clear h hE hT
  go_enter Try.func14, Try.ntmps14
  go_wp2_with (go_at_call 38; refine (markCellS_over _ _ _ rs l _ B E _ (H.out.below ((Below.refl _ _).alloc (Nat.le_refl _) _)) HE.out HTE.out h0 h1 h2).mono ?_; rintro e w1 ⟨rfl, ⟨rs', ho1⟩, hb1, hs1, ho⟩)
  go_ret
  exact ⟨rfl, ⟨rs', ho1⟩, ((Below.refl _ _).alloc hB _).trans hb1, fun b cs hh => hs1 b cs (hh.alloc _), fun b hb1' hb2' => (ho b hb1' (by simp; omega)).trans (Below.heap_alloc _ _ _ hb2')⟩
set_option maxHeartbeats 1000000 in
theorem heldTable_any (R C : Int) (a : Option Addr) (n c : Nat) (l : List Cl) (k0 : Int) (w : World) (h : Tab w a n c (markL k0 l)) (h0 : 0 ≤ k0) (h1 : k0 + 4 * l.length + 3 * (totT l : Nat) ≤ 50000000) (h2 : totT l ≤ 1048576) :
    Calls Try.prog 15 #[.agg #[.int .i64 R, .int .i64 C, .slice a n c], .int .i64 k0] w fun e w' => e = .returned (.int .i64 (kAt k0 l l.length)) ∧ Below w.heap.size w w' := by
  have H : Hid (Tab w a n c (markL k0 l)) := h
  have kge := kAt_ge k0 l l.length h0
  have nk : ¬ kAt k0 l l.length < 0 := by omega
  clear h
  go_enter Try.func15, Try.ntmps15
  go_wp2_with (go_at_call 39; refine (heldCellS_any _ _ _ l _ _ (H.out.below ((Below.refl _ _).alloc (Nat.le_refl _) _)) h0 h1 h2).mono ?_; rintro e w1 ⟨rfl, hw1⟩; subst w1)
  go_ret
  exact ⟨rfl, (Below.refl _ _).alloc (Nat.le_refl _) _⟩
end Go.Proofs.Yteghidjbcpmfbaa
