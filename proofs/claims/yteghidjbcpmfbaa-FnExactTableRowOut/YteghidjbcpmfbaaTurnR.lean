import Derived.Test.YteghidjbcpmfbaaTableW
import Derived.Test.YteghidjbcpmfbaaTurnI
import Derived.Test.YteghidjbcpmfbaaSortP
namespace Go.Proofs.Yteghidjbcpmfbaa
open Go.RowKit

/-- A cell turned. -/
def turnC (x : Cl) : Cl := (x.2.1, x.1, x.2.2.2.1, x.2.2.1, x.2.2.2.2)
/-- A table's cells, turned. -/
def turnL (l : List Cl) : List Cl := sortC (l.map turnC)
theorem turnL_mem (l : List Cl) (y : Cl) : y ∈ turnL l ↔ ∃ x ∈ l, turnC x = y := by
  unfold turnL
  rw [(sortC_perm _).mem_iff, List.mem_map]
theorem turnL_len (l : List Cl) : (turnL l).length = l.length := by
  unfold turnL
  rw [(sortC_perm _).length_eq, List.length_map]
/-- Behind, or at the same place. -/
def leC (x y : Cl) : Prop := gtC x y = false
theorem gtC_iff (y x : Cl) : gtC y x = true ↔ (x.1 < y.1 ∨ y.1 = x.1 ∧ x.2.1 < y.2.1) := decide_eq_true_iff
theorem leC_iff (x y : Cl) : leC x y ↔ ¬ (y.1 < x.1 ∨ x.1 = y.1 ∧ y.2.1 < x.2.1) := by
  unfold leC
  rw [← Bool.not_eq_true, gtC_iff]
theorem insC_sorted (x : Cl) : ∀ l : List Cl, l.Pairwise leC → (insC x l).Pairwise leC
  | [], _ => by simp [insC]
  | y :: ys, h => by
    obtain ⟨h1, h2⟩ := List.pairwise_cons.1 h
    unfold insC
    split
    · rename_i hg
      rw [gtC_iff] at hg
      refine List.pairwise_cons.2 ⟨fun z hz => ?_, h⟩
      rcases List.mem_cons.1 hz with rfl | hz
      · rw [leC_iff]; omega
      · have := h1 z hz
        rw [leC_iff] at this ⊢
        omega
    · rename_i hg
      rw [gtC_iff] at hg
      refine List.pairwise_cons.2 ⟨fun z hz => ?_, insC_sorted x ys h2⟩
      rcases List.mem_cons.1 ((insC_perm x ys).mem_iff.1 hz) with rfl | hz
      · rw [leC_iff]; omega
      · exact h1 z hz
theorem sortC_sorted (l : List Cl) : (sortC l).Pairwise leC := by
  have key : ∀ (l o : List Cl), o.Pairwise leC → (l.foldl (fun o x => insC x o) o).Pairwise leC := by
    intro l
    induction l with
    | nil => intro o h; exact h
    | cons x l ih => intro o h; exact ih _ (insC_sorted x o h)
  exact key l [] List.Pairwise.nil
theorem turn_atF (f : Nat → Nat) (a b : Nat) (hb : b < 5) : turnF f (a * 5 + b) = f (b * 5 + a) := by
  unfold turnF
  rw [show (a * 5 + b) % 5 = b from by omega, show (a * 5 + b) / 5 = a from by omega]
section
variable {R C : Nat} {l : List Cl}
/-- A square has the number m + 1 just if it is of cell m. -/
theorem num_iff (h : okB R C l = true) (a b m : Nat) (hb : b < C) : numF l l.length (a * 5 + b) = m + 1 ↔ m < l.length ∧ inB (l.getD m cl0) a b = true := by
  obtain ⟨hR, hC, hs, _⟩ := gridP_of_okB h
  have hw : ∀ i, i < l.length → wiB R C (l.getD i cl0) = true := fun j hj => (stepB_of (hs j hj)).1
  constructor
  · intro e
    exact numF_pos l R C l.length hw a b m (by omega) e
  · rintro ⟨h1, h2⟩
    exact numF_of hC.2 hs h1 a b h2
theorem cell_nat (h : okB R C l = true) (m : Nat) (hm : m < l.length) : ∃ a b d g : Nat, l.getD m cl0 = ((a : Int), (b : Int), (d : Int), (g : Int), (l.getD m cl0).2.2.2.2) ∧ 1 ≤ d ∧ 1 ≤ g ∧ a + d ≤ R ∧ b + g ≤ C := by
  obtain ⟨_, _, hs, _⟩ := gridP_of_okB h
  obtain ⟨w1, w2, w3⟩ := wiB_of (stepB_of (hs m hm)).1
  obtain ⟨⟨x1, x2, x3, x4, x5⟩, hx⟩ : ∃ x, l.getD m cl0 = x := ⟨_, rfl⟩
  rw [hx] at w1 w2 w3 ⊢
  simp only at w1 w2 w3
  refine ⟨x1.toNat, x2.toNat, x3.toNat, x4.toNat, ?_, by omega, by omega, by omega, by omega⟩
  simp only [Prod.mk.injEq]
  refine ⟨by omega, by omega, by omega, by omega, trivial⟩
theorem inB_cell {a b d g : Nat} {t : List Sg} (p q : Nat) : inB ((a : Int), (b : Int), (d : Int), (g : Int), t) p q = true ↔ a ≤ p ∧ p < a + d ∧ b ≤ q ∧ q < b + g := by
  show decide ((a : Int) ≤ (p : Int) ∧ (p : Int) < (a : Int) + (d : Int) ∧ (b : Int) ≤ (q : Int) ∧ (q : Int) < (b : Int) + (g : Int)) = true ↔ _
  rw [decide_eq_true_eq]
  omega
theorem turnL_get (k : Nat) (hk : k < (turnL l).length) : ∃ m, m < l.length ∧ (turnL l).getD k cl0 = turnC (l.getD m cl0) := by
  have h1 : (turnL l).getD k cl0 ∈ turnL l := by simp [List.getD, hk]
  obtain ⟨x, hx, e⟩ := (turnL_mem l _).1 h1
  obtain ⟨m, hm, rfl⟩ := List.getElem_of_mem hx
  exact ⟨m, hm, by rw [← e]; simp [List.getD, hm]⟩
theorem starts_apart (h : okB R C l = true) : (turnL l).Pairwise (fun x y => ¬ (x.1 = y.1 ∧ x.2.1 = y.2.1)) := by
  have hf : formB R C l = true := by
    simp only [okB, Bool.and_eq_true] at h
    exact h.1
  obtain ⟨_, _, _, hat⟩ := formB_of hf
  have h1 : l.Pairwise (fun x y => ¬ (x.2.1 = y.2.1 ∧ x.1 = y.1)) := by
    rw [List.pairwise_iff_getElem]
    intro i j hi hj hij
    have := ahead_of (ahead_far hat j i hj hij)
    rw [getD_get hi, getD_get hj] at this
    omega
  have h2 : (l.map turnC).Pairwise (fun x y => ¬ (x.1 = y.1 ∧ x.2.1 = y.2.1)) := by
    rw [List.pairwise_map]
    exact h1
  exact (sortC_perm _).symm.pairwise h2 (fun hab hba => hab ⟨hba.1.symm, hba.2.symm⟩)
theorem turn_data (h : okB R C l = true) (k : Nat) (hk : k < (turnL l).length) : ∃ m a b d g : Nat, m < l.length ∧ l.getD m cl0 = ((a : Int), (b : Int), (d : Int), (g : Int), (l.getD m cl0).2.2.2.2) ∧ (turnL l).getD k cl0 = ((b : Int), (a : Int), (g : Int), (d : Int), (l.getD m cl0).2.2.2.2) ∧ 1 ≤ d ∧ 1 ≤ g ∧ a + d ≤ R ∧ b + g ≤ C := by
  obtain ⟨m, hm, e⟩ := turnL_get k hk
  obtain ⟨a, b, d, g, e2, h1, h2, h3, h4⟩ := cell_nat h m hm
  refine ⟨m, a, b, d, g, hm, e2, ?_, h1, h2, h3, h4⟩
  rw [e]
  generalize (l.getD m cl0).2.2.2.2 = t at e2 ⊢
  rw [e2]
  rfl
theorem rep_turn (h : okB R C l = true) : Rep C R (turnF (numF l l.length)) (turnL l) := by
  obtain ⟨hR, hC, hs, ht⟩ := gridP_of_okB h
  have hR5 : R ≤ 5 := by omega
  have hC5 : C ≤ 5 := by omega
  have key : ∀ k, k < (turnL l).length → ∃ m a b d g : Nat, m < l.length ∧ (turnL l).getD k cl0 = ((b : Int), (a : Int), (g : Int), (d : Int), (l.getD m cl0).2.2.2.2) ∧ 1 ≤ d ∧ 1 ≤ g ∧ a + d ≤ R ∧ b + g ≤ C ∧ stR ((turnL l).getD k cl0) = b ∧ stC ((turnL l).getD k cl0) = a ∧ ∀ p q, q < C → (numF l l.length (p * 5 + q) = m + 1 ↔ a ≤ p ∧ p < a + d ∧ b ≤ q ∧ q < b + g) := by
    intro k hk
    obtain ⟨m, a, b, d, g, hm, e2, e3, h1, h2, h3, h4⟩ := turn_data h k hk
    refine ⟨m, a, b, d, g, hm, e3, h1, h2, h3, h4, by rw [e3]; simp [stR], by rw [e3]; simp [stC], ?_⟩
    intro p q hq
    rw [num_iff h p q m hq, e2, inB_cell]
    exact ⟨fun hh => hh.2, fun hh => ⟨hm, hh⟩⟩
  constructor
  · intro k hk
    obtain ⟨m, a, b, d, g, hm, e3, h1, h2, h3, h4, _, _, hnum⟩ := key k hk
    have n0 := (hnum a b (by omega)).2 (by omega)
    refine ⟨b, a, g, d, by rw [e3], by omega, by omega, ⟨fun i hi => ⟨by omega, ?_⟩, ?_⟩, fun j hj => ⟨by omega, ?_⟩, ?_⟩
    · rw [turn_atF _ _ _ (by omega), turn_atF _ _ _ (by omega), n0]
      exact (hnum a (b + i) (by omega)).2 (by omega)
    · rintro ⟨q1, q2⟩
      rw [turn_atF _ _ _ (by omega), turn_atF _ _ _ (by omega), n0] at q2
      have := (hnum a (b + g) q1).1 q2
      omega
    · rw [turn_atF _ _ _ (by omega), turn_atF _ _ _ (by omega), n0]
      exact (hnum (a + j) b (by omega)).2 (by omega)
    · rintro ⟨q1, q2⟩
      rw [turn_atF _ _ _ (by omega), turn_atF _ _ _ (by omega), n0] at q2
      have := (hnum (a + d) b (by omega)).1 q2
      omega
  · intro i k hik hk
    obtain ⟨m, a, b, d, g, hm, e3, h1, h2, h3, h4, s1, s2, _⟩ := key k hk
    obtain ⟨m', a', b', d', g', hm', e3', h1', h2', h3', h4', s1', s2', _⟩ := key i (by omega)
    have hle := List.pairwise_iff_getElem.1 (sortC_sorted (l.map turnC)) i k (show i < (turnL l).length by omega) hk hik
    have hne := List.pairwise_iff_getElem.1 (starts_apart h) i k (by omega) hk hik
    rw [leC_iff] at hle
    have g1 : (turnL l)[i]'(by omega) = (turnL l).getD i cl0 := (getD_get (by omega)).symm
    have g2 : (turnL l)[k] = (turnL l).getD k cl0 := (getD_get hk).symm
    have hle' : ¬ (((turnL l).getD k cl0).1 < ((turnL l).getD i cl0).1 ∨ ((turnL l).getD i cl0).1 = ((turnL l).getD k cl0).1 ∧ ((turnL l).getD k cl0).2.1 < ((turnL l).getD i cl0).2.1) := by
      rw [← g1, ← g2]
      exact hle
    rw [g1, g2] at hne
    rw [s1, s2, s1', s2']
    rw [e3, e3'] at hle' hne
    simp only at hle' hne
    unfold vis
    omega
  · intro k hk p q hv
    obtain ⟨m, a, b, d, g, hm, e3, h1, h2, h3, h4, s1, s2, hnum⟩ := key k hk
    rw [s1, s2] at hv ⊢
    have n0 := (hnum a b (by omega)).2 (by omega)
    have hq : q < 5 ∧ p < C := by unfold vis at hv; omega
    rw [turn_atF _ _ _ hq.1, turn_atF _ _ _ (by omega), n0]
    intro e
    have := (hnum q p hq.2).1 e
    unfold vis at hv
    omega
  · intro p q hv
    have hpq : p < C ∧ q < R := by unfold vis at hv; omega
    have h1 := (ht q p (by unfold vis; simp; omega)).1
    obtain ⟨m, hm⟩ : ∃ m, numF l l.length (q * 5 + p) = m + 1 := ⟨numF l l.length (q * 5 + p) - 1, by omega⟩
    obtain ⟨hml, hin⟩ := (num_iff h q p m hpq.1).1 hm
    obtain ⟨a, b, d, g, e2, q1, q2, q3, q4⟩ := cell_nat h m hml
    rw [e2, inB_cell] at hin
    by_cases hst : b = p ∧ a = q
    · left
      have hmem : turnC (l.getD m cl0) ∈ turnL l := (turnL_mem l _).2 ⟨l.getD m cl0, by simp [List.getD, hml], rfl⟩
      obtain ⟨k, hk, e⟩ := List.getElem_of_mem hmem
      refine ⟨k, hk, ?_, ?_⟩
      · rw [getD_get hk, e, e2]
        simp [turnC, stR, hst.1]
      · rw [getD_get hk, e, e2]
        simp [turnC, stC, hst.2]
    · right
      refine ⟨b, a, by unfold vis; omega, ?_⟩
      rw [turn_atF _ _ _ (by omega), turn_atF _ _ _ (by omega), hm]
      rw [num_iff h a b m (by omega), e2, inB_cell]
      exact ⟨hml, by omega⟩
end
end Go.Proofs.Yteghidjbcpmfbaa
