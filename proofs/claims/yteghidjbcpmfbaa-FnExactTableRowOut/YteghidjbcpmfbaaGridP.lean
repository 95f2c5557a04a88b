import Derived.Test.YteghidjbcpmfbaaTiled
import Derived.Test.YteghidjbcpmfbaaFree
import Derived.Test.YteghidjbcpmfbaaLay
import Derived.Test.YteghidjbcpmfbaaTabOk
namespace Go.Proofs.Yteghidjbcpmfbaa
open Go.RowKit

/-- The squares' numbers when k cells are laid. -/
def numF (l : List Cl) : Nat → Nat → Nat
  | 0 => fun _ => 0
  | k + 1 => giveF (numF l k) (l.getD k cl0).1.toNat (l.getD k cl0).2.1.toNat (l.getD k cl0).2.2.1.toNat (l.getD k cl0).2.2.2.1.toNat (k + 1)
def wiB (R C : Int) (x : Cl) : Bool := withB x.1 x.2.1 x.2.2.1 x.2.2.2.1 R C
def frB (f : Nat → Nat) (x : Cl) : Bool := freeB f x.1.toNat x.2.1.toNat x.2.2.1.toNat x.2.2.2.1.toNat
/-- The cell k may be laid. -/
def stepB (R C : Int) (l : List Cl) (k : Nat) : Bool := wiB R C (l.getD k cl0) && frB (numF l k) (l.getD k cl0) && textB (l.getD k cl0).2.2.2.2
def gridP (R C : Int) (l : List Cl) : Prop := (1 ≤ R ∧ R ≤ 5) ∧ (1 ≤ C ∧ C ≤ 5) ∧ (∀ k, k < l.length → stepB R C l k = true) ∧ Tiles R.toNat C.toNat (numF l l.length)

theorem numF_le (l : List Cl) : ∀ k s, numF l k s ≤ k
  | 0, s => Nat.le_refl _
  | k + 1, s => by
    show giveF _ _ _ _ _ _ s ≤ _
    unfold giveF
    split
    · exact Nat.le_refl _
    · exact Nat.le_succ_of_le (numF_le l k s)
theorem wiB_of {R C : Int} {x : Cl} (h : wiB R C x = true) : (0 ≤ x.1 ∧ 0 ≤ x.2.1 ∧ 1 ≤ x.2.2.1 ∧ 1 ≤ x.2.2.2.1) ∧ x.1 + x.2.2.1 ≤ R ∧ x.2.1 + x.2.2.2.1 ≤ C := by
  simp only [wiB, withB, spanB, Bool.and_eq_true, decide_eq_true_eq] at h
  omega
theorem stepB_of {R C : Int} {l : List Cl} {k : Nat} (h : stepB R C l k = true) : wiB R C (l.getD k cl0) = true ∧ frB (numF l k) (l.getD k cl0) = true ∧ textB (l.getD k cl0).2.2.2.2 = true := by
  simp only [stepB, Bool.and_eq_true] at h
  exact ⟨h.1.1, h.1.2, h.2⟩
theorem stepB_mk {R C : Int} {l : List Cl} {k r c d g : Nat} {tx : List Sg} (hx : ((r : Int), (c : Int), (d : Int), (g : Int), tx) = l.getD k cl0) (q0 : withB r c d g R C = true) (q1 : freeB (numF l k) r c d g = true) (q2 : textB tx = true) : stepB R C l k = true := by
  simp only [stepB, wiB, frB, ← hx, Int.toNat_natCast, q0, q1, q2, Bool.and_self]
theorem stepB_0 {R C : Int} {l : List Cl} {k : Nat} {r c d g : Int} {tx : List Sg} (hx : (r, c, d, g, tx) = l.getD k cl0) (q0 : withB r c d g R C = false) : stepB R C l k = false := by
  simp only [stepB, wiB, ← hx, q0, Bool.false_and]
theorem stepB_1 {R C : Int} {l : List Cl} {k r c d g : Nat} {tx : List Sg} (hx : ((r : Int), (c : Int), (d : Int), (g : Int), tx) = l.getD k cl0) (q1 : freeB (numF l k) r c d g = false) : stepB R C l k = false := by
  simp only [stepB, frB, ← hx, Int.toNat_natCast, q1, Bool.false_and, Bool.and_false]
theorem stepB_2 {R C : Int} {l : List Cl} {k : Nat} {r c d g : Int} {tx : List Sg} (hx : (r, c, d, g, tx) = l.getD k cl0) (q2 : textB tx = false) : stepB R C l k = false := by
  simp only [stepB, ← hx, q2, Bool.and_false]
theorem inB_nat {x : Cl} {a b : Nat} (h : 0 ≤ x.1 ∧ 0 ≤ x.2.1 ∧ 1 ≤ x.2.2.1 ∧ 1 ≤ x.2.2.2.1) : inB x a b = true ↔ inR x.1.toNat x.2.1.toNat x.2.2.1.toNat x.2.2.2.1.toNat a b := by
  simp only [inB, decide_eq_true_eq, inR]
  omega
/-- What the numbers say. -/
theorem numF_pos (l : List Cl) (R C : Int) : ∀ K, (∀ i, i < K → wiB R C (l.getD i cl0) = true) → ∀ a b m, b < 5 → numF l K (a * 5 + b) = m + 1 → m < K ∧ inB (l.getD m cl0) a b = true
  | 0, _, a, b, m, _, h => by simp [numF] at h
  | K + 1, hw, a, b, m, hb, h => by
    have h' : giveF (numF l K) (l.getD K cl0).1.toNat (l.getD K cl0).2.1.toNat (l.getD K cl0).2.2.1.toNat (l.getD K cl0).2.2.2.1.toNat (K + 1) (a * 5 + b) = m + 1 := h
    unfold giveF at h'
    rw [show (a * 5 + b) / 5 = a from by omega, show (a * 5 + b) % 5 = b from by omega] at h'
    split at h'
    · rename_i hh
      obtain rfl : K = m := by omega
      exact ⟨by omega, (inB_nat (wiB_of (hw K (by omega))).1).2 hh⟩
    · obtain ⟨h1, h2⟩ := numF_pos l R C K (fun i hi => hw i (by omega)) a b m hb h'
      exact ⟨by omega, h2⟩
theorem numF_zero (l : List Cl) (R C : Int) : ∀ K, (∀ i, i < K → wiB R C (l.getD i cl0) = true) → ∀ a b, b < 5 → numF l K (a * 5 + b) = 0 → ∀ i, i < K → inB (l.getD i cl0) a b = false
  | 0, _, a, b, _, h => by intro i hi; omega
  | K + 1, hw, a, b, hb, h => by
    have h' : giveF (numF l K) (l.getD K cl0).1.toNat (l.getD K cl0).2.1.toNat (l.getD K cl0).2.2.1.toNat (l.getD K cl0).2.2.2.1.toNat (K + 1) (a * 5 + b) = 0 := h
    unfold giveF at h'
    rw [show (a * 5 + b) / 5 = a from by omega, show (a * 5 + b) % 5 = b from by omega] at h'
    split at h'
    · omega
    · rename_i hh
      intro i hi
      by_cases hiK : i = K
      · subst hiK
        rw [← Bool.not_eq_true, inB_nat (wiB_of (hw i (by omega))).1]
        exact hh
      · exact numF_zero l R C K (fun i hi => hw i (by omega)) a b hb h' i (by omega)
/-- No square is of two cells. -/
theorem step_apart {R C : Int} {l : List Cl} {K : Nat} (hC : C ≤ 5) (hs : ∀ i, i < K → stepB R C l i = true) {i k : Nat} (hik : i < k) (hk : k < K) (a b : Nat) (h1 : inB (l.getD i cl0) a b = true) (h2 : inB (l.getD k cl0) a b = true) : False := by
  obtain ⟨w1, w2, _⟩ := stepB_of (hs k hk)
  obtain ⟨w3, w4, w5⟩ := wiB_of w1
  have hz := (freeB_iff.1 w2) a b ((inB_nat w3).1 h2)
  have hb : b < 5 := by
    have := (inB_nat w3).1 h2
    unfold inR at this
    omega
  have := numF_zero l R C k (fun j hj => (stepB_of (hs j (by omega))).1) a b hb hz i hik
  rw [this] at h1
  exact absurd h1 (by simp)
/-- A square that is of a cell has its number. -/
theorem numF_of {R C : Int} {l : List Cl} {K : Nat} (hC : C ≤ 5) (hs : ∀ i, i < K → stepB R C l i = true) {i : Nat} (hi : i < K) (a b : Nat) (h : inB (l.getD i cl0) a b = true) : numF l K (a * 5 + b) = i + 1 := by
  have hw : ∀ i, i < K → wiB R C (l.getD i cl0) = true := fun j hj => (stepB_of (hs j hj)).1
  have hb : b < 5 := by
    have := (inB_nat (wiB_of (hw i hi)).1).1 h
    have := (wiB_of (hw i hi))
    unfold inR at *
    omega
  cases hm : numF l K (a * 5 + b) with
  | zero =>
    have := numF_zero l R C K hw a b hb hm i hi
    rw [this] at h
    exact absurd h (by simp)
  | succ m =>
    obtain ⟨h1, h2⟩ := numF_pos l R C K hw a b m hb hm
    rcases Nat.lt_trichotomy m i with h3 | h3 | h3
    · exact (step_apart hC hs h3 hi a b h2 h).elim
    · rw [h3]
    · exact (step_apart hC hs h3 h1 a b h h2).elim
theorem inB_start {R C : Int} {x : Cl} (h : wiB R C x = true) : inB x (x.1.toNat : Nat) (x.2.1.toNat : Nat) = true := by
  have := wiB_of h
  simp only [inB, decide_eq_true_eq]
  omega
/-- Just so many numbers as squares. -/
theorem pigeon (f : Nat → Nat) : ∀ (N : Nat) (L : List Nat), L.Nodup → (∀ x ∈ L, ∃ s, s < N ∧ f s = x) → L.length ≤ N
  | 0, L, _, h => by
    cases L with
    | nil => exact Nat.le_refl _
    | cons x L =>
      obtain ⟨s, hs, _⟩ := h x (by simp)
      omega
  | N + 1, L, hn, h => by
    have := pigeon f N (L.erase (f N)) (hn.erase _) (fun x hx => by
      have hx1 := List.mem_of_mem_erase hx
      obtain ⟨s, hs, e⟩ := h x hx1
      refine ⟨s, ?_, e⟩
      rcases Nat.lt_or_ge s N with h1 | h1
      · exact h1
      · obtain rfl : s = N := by omega
        rw [← e] at hx
        exact absurd hx (hn.not_mem_erase))
    rw [List.length_erase] at this
    split at this <;> omega
theorem step_le {R C : Int} {l : List Cl} {K : Nat} (hR : R ≤ 5) (hC : C ≤ 5) (hs : ∀ i, i < K → stepB R C l i = true) : K ≤ 25 := by
  have := pigeon (fun s => numF l K s) 25 ((List.range K).map (· + 1)) (by
    rw [List.nodup_iff_pairwise_ne, List.pairwise_map]
    exact List.nodup_range.imp (fun h => by omega)) (by
    intro x hx
    obtain ⟨i, hi, rfl⟩ := List.mem_map.1 hx
    have hi' : i < K := by simpa using hi
    have w := (stepB_of (hs i hi')).1
    have hh := wiB_of w
    exact ⟨(l.getD i cl0).1.toNat * 5 + (l.getD i cl0).2.1.toNat, by omega, numF_of hC hs hi' _ _ (inB_start w)⟩)
  simpa using this
end Go.Proofs.Yteghidjbcpmfbaa
