import Derived.Test.YteghidjbcpmfbaaTurnR
namespace Go.Proofs.Yteghidjbcpmfbaa
open Go.RowKit

/-- Cells that tile a grid of numbers, in whatever order. -/
structure TilesM (R C : Nat) (f : Nat → Nat) (M : List Cl) : Prop where
  cell : ∀ x ∈ M, ∃ (a b d g : Nat) (t : List Sg), x = ((a : Int), (b : Int), (d : Int), (g : Int), t) ∧ 1 ≤ d ∧ 1 ≤ g ∧ a + d ≤ R ∧ b + g ≤ C ∧ ∀ p q, p < R → q < C → (f (p * 5 + q) = f (a * 5 + b) ↔ a ≤ p ∧ p < a + d ∧ b ≤ q ∧ q < b + g)
  all : ∀ p q, p < R → q < C → ∃ x ∈ M, inB x p q = true
  apart : M.Pairwise (fun x y => ¬ (x.1 = y.1 ∧ x.2.1 = y.2.1))

theorem TilesM.perm {R C : Nat} {f : Nat → Nat} {M N : List Cl} (h : TilesM R C f M) (hp : N.Perm M) : TilesM R C f N where
  cell := fun x hx => h.cell x (hp.mem_iff.1 hx)
  all := fun p q hp' hq => by
    obtain ⟨x, hx, hi⟩ := h.all p q hp' hq
    exact ⟨x, hp.mem_iff.2 hx, hi⟩
  apart := hp.symm.pairwise h.apart (fun hab hba => hab ⟨hba.1.symm, hba.2.symm⟩)
theorem getD_mem {l : List Cl} {k : Nat} (hk : k < l.length) : l.getD k cl0 ∈ l := by
  rw [getD_get hk]
  exact List.getElem_mem hk
theorem TilesM.sort {R C : Nat} {f : Nat → Nat} {M : List Cl} (h : TilesM R C f M) : TilesM R C f (sortC M) := h.perm (sortC_perm M)
/-- Sorted and apart is in order. -/
theorem TilesM.ahead {R C : Nat} {f : Nat → Nat} {M : List Cl} (h : TilesM R C f M) (i k : Nat) (hik : i < k) (hk : k < (sortC M).length) :
    ((sortC M).getD i cl0).1 < ((sortC M).getD k cl0).1 ∨ ((sortC M).getD i cl0).1 = ((sortC M).getD k cl0).1 ∧ ((sortC M).getD i cl0).2.1 < ((sortC M).getD k cl0).2.1 := by
  have hle := List.pairwise_iff_getElem.1 (sortC_sorted M) i k (by omega) hk hik
  have hne := List.pairwise_iff_getElem.1 h.sort.apart i k (by omega) hk hik
  rw [leC_iff] at hle
  rw [getD_get hk, getD_get (show i < (sortC M).length by omega)]
  omega
theorem rep_sort {R C : Nat} {f : Nat → Nat} {M : List Cl} (h : TilesM R C f M) : Rep R C f (sortC M) := by
  have hs := h.sort
  have key : ∀ k, k < (sortC M).length → ∃ (a b d g : Nat) (t : List Sg), (sortC M).getD k cl0 = ((a : Int), (b : Int), (d : Int), (g : Int), t) ∧ 1 ≤ d ∧ 1 ≤ g ∧ a + d ≤ R ∧ b + g ≤ C ∧ stR ((sortC M).getD k cl0) = a ∧ stC ((sortC M).getD k cl0) = b ∧ ∀ p q, p < R → q < C → (f (p * 5 + q) = f (a * 5 + b) ↔ a ≤ p ∧ p < a + d ∧ b ≤ q ∧ q < b + g) := by
    intro k hk
    obtain ⟨a, b, d, g, t, e, h1, h2, h3, h4, h5⟩ := hs.cell _ (getD_mem hk)
    exact ⟨a, b, d, g, t, e, h1, h2, h3, h4, by rw [e]; simp [stR], by rw [e]; simp [stC], h5⟩
  constructor
  · intro k hk
    obtain ⟨a, b, d, g, t, e, h1, h2, h3, h4, _, _, hn⟩ := key k hk
    refine ⟨a, b, d, g, by rw [e], by omega, by omega, ⟨fun i hi => ⟨by omega, (hn _ _ (by omega) (by omega)).2 (by omega)⟩, ?_⟩, fun j hj => ⟨by omega, (hn _ _ (by omega) (by omega)).2 (by omega)⟩, ?_⟩
    · rintro ⟨q1, q2⟩
      have := (hn _ _ q1 (by omega)).1 q2
      omega
    · rintro ⟨q1, q2⟩
      have := (hn _ _ (by omega) q1).1 q2
      omega
  · intro i k hik hk
    obtain ⟨a, b, d, g, t, e, h1, h2, h3, h4, s1, s2, _⟩ := key k hk
    obtain ⟨a', b', d', g', t', e', h1', h2', h3', h4', s1', s2', _⟩ := key i (by omega)
    have := h.ahead i k hik hk
    rw [s1, s2, s1', s2']
    rw [e, e'] at this
    simp only at this
    unfold vis
    omega
  · intro k hk p q hv
    obtain ⟨a, b, d, g, t, e, h1, h2, h3, h4, s1, s2, hn⟩ := key k hk
    rw [s1, s2] at hv ⊢
    have hpq : p < R ∧ q < C := by unfold vis at hv; omega
    intro e'
    have := (hn p q hpq.1 hpq.2).1 e'
    unfold vis at hv
    omega
  · intro p q hv
    have hpq : p < R ∧ q < C := by unfold vis at hv; omega
    obtain ⟨x, hx, hi⟩ := hs.all p q hpq.1 hpq.2
    obtain ⟨k, hk, e⟩ := List.getElem_of_mem hx
    rw [← getD_get hk] at e
    subst e
    obtain ⟨a, b, d, g, t, e, h1, h2, h3, h4, s1, s2, hn⟩ := key k hk
    rw [e, inB_cell] at hi
    by_cases hst : a = p ∧ b = q
    · exact .inl ⟨k, hk, by rw [s1, hst.1], by rw [s2, hst.2]⟩
    · exact .inr ⟨a, b, by unfold vis; omega, ((hn p q hpq.1 hpq.2).2 hi).symm⟩
/-- Such cells, in order, are a table that is ok. -/
theorem okB_sort {R C : Nat} {f : Nat → Nat} {M : List Cl} (h : TilesM R C f M) (hR : 1 ≤ R ∧ R ≤ 5) (hC : 1 ≤ C ∧ C ≤ 5) (hl : M.length ≤ 25) (ht : ∀ x ∈ M, textB x.2.2.2.2 = true) : okB R C (sortC M) = true := by
  have hs := h.sort
  have hlen : (sortC M).length = M.length := (sortC_perm M).length_eq
  have hform : formB R C (sortC M) = true := by
    simp only [formB, Bool.and_eq_true, decide_eq_true_eq, List.all_eq_true, List.mem_range]
    refine ⟨⟨⟨by omega, by omega⟩, by omega⟩, ?_⟩
    intro k hk
    obtain ⟨a, b, d, g, t, e, h1, h2, h3, h4, _⟩ := hs.cell _ (getD_mem hk)
    have htx := ht _ ((sortC_perm M).mem_iff.1 (getD_mem hk))
    simp only [atB, Bool.and_eq_true, Bool.or_eq_true, cellB, decide_eq_true_eq]
    refine ⟨⟨?_, htx⟩, ?_⟩
    · rw [e]
      simp only
      omega
    · by_cases hk0 : k = 0
      · exact .inl hk0
      · exact .inr (decide_eq_true (h.ahead (k - 1) k (by omega) hk))
  simp only [okB, hform, Bool.true_and, List.all_eq_true, List.mem_range, colB, decide_eq_true_eq]
  intro p hp q hq
  have hp' : p < R := by omega
  have hq' : q < C := by omega
  obtain ⟨x, hx, hi⟩ := hs.all p q hp' hq'
  obtain ⟨k, hk, e⟩ := List.getElem_of_mem hx
  subst e
  unfold cnt
  refine countP_one _ (sortC M) k hk hi ?_
  intro i hi' hp2
  obtain ⟨a, b, d, g, t, e, h1, h2, h3, h4, hn⟩ := hs.cell _ hx
  obtain ⟨a', b', d', g', t', e', h1', h2', h3', h4', hn'⟩ := hs.cell _ (List.getElem_mem hi')
  rw [e, inB_cell] at hi
  rw [e', inB_cell] at hp2
  have f1 := (hn p q hp' hq').2 hi
  have f2 := (hn' p q hp' hq').2 hp2
  have g1 := (hn a' b' (by omega) (by omega)).1 (by omega)
  have g2 := (hn' a b (by omega) (by omega)).1 (by omega)
  rcases Nat.lt_trichotomy i k with h7 | h7 | h7
  · have := List.pairwise_iff_getElem.1 hs.apart i k hi' hk h7
    rw [e, e'] at this
    simp only at this
    omega
  · exact h7
  · have := List.pairwise_iff_getElem.1 hs.apart k i hk hi' h7
    rw [e, e'] at this
    simp only at this
    omega
/-- A cell whose squares are just those of a number. -/
def NumC (R C : Nat) (f : Nat → Nat) (x : Cl) (m : Nat) : Prop := ∃ (a b d g : Nat) (t : List Sg), x = ((a : Int), (b : Int), (d : Int), (g : Int), t) ∧ 1 ≤ d ∧ 1 ≤ g ∧ a + d ≤ R ∧ b + g ≤ C ∧ ∀ p q, p < R → q < C → (f (p * 5 + q) = m ↔ a ≤ p ∧ p < a + d ∧ b ≤ q ∧ q < b + g)
theorem NumC.start {R C : Nat} {f : Nat → Nat} {x : Cl} {m : Nat} (h : NumC R C f x m) : f (stR x * 5 + stC x) = m := by
  obtain ⟨a, b, d, g, t, rfl, h1, h2, h3, h4, h5⟩ := h
  simp only [stR, stC, Int.toNat_natCast]
  exact (h5 a b (by omega) (by omega)).2 (by omega)
theorem tilesM_of {R C : Nat} {f : Nat → Nat} {M : List Cl} (h1 : ∀ x ∈ M, ∃ m, NumC R C f x m) (h2 : ∀ p q, p < R → q < C → ∃ x ∈ M, inB x p q = true)
    (h3 : M.Pairwise (fun x y => ∃ m m', m ≠ m' ∧ NumC R C f x m ∧ NumC R C f y m')) : TilesM R C f M where
  cell := fun x hx => by
    obtain ⟨m, hm⟩ := h1 x hx
    have hs := hm.start
    obtain ⟨a, b, d, g, t, rfl, q1, q2, q3, q4, q5⟩ := hm
    simp only [stR, stC, Int.toNat_natCast] at hs
    exact ⟨a, b, d, g, t, rfl, q1, q2, q3, q4, by rw [hs]; exact q5⟩
  all := h2
  apart := h3.imp (by
    rintro x y ⟨m, m', hne, hx, hy⟩ ⟨e1, e2⟩
    have s1 := hx.start
    have s2 := hy.start
    simp only [stR, stC, e1, e2] at s1 s2
    exact hne (s1.symm.trans s2))
end Go.Proofs.Yteghidjbcpmfbaa
