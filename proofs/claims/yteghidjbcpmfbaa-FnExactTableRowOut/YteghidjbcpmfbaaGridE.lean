import Derived.Test.YteghidjbcpmfbaaGridP
namespace Go.Proofs.Yteghidjbcpmfbaa
open Go.RowKit

theorem countP_two {α : Type} (p : α → Bool) (l : List α) (i j : Nat) (hij : i < j) (hj : j < l.length) (h1 : p (l[i]'(by omega)) = true) (h2 : p l[j] = true) : 2 ≤ l.countP p := by
  have e : l = l.take (i + 1) ++ l.drop (i + 1) := (List.take_append_drop _ _).symm
  rw [e, List.countP_append]
  have c1 : 0 < (l.take (i + 1)).countP p := List.countP_pos_iff.2 ⟨l[i], by
    rw [List.mem_take_iff_getElem]
    exact ⟨i, by omega, rfl⟩, h1⟩
  have c2 : 0 < (l.drop (i + 1)).countP p := List.countP_pos_iff.2 ⟨l[j], by
    rw [List.mem_drop_iff_getElem]
    exact ⟨j - (i + 1), by omega, by congr 1; omega⟩, h2⟩
  omega
theorem getD_get {l : List Cl} {k : Nat} (hk : k < l.length) : l.getD k cl0 = l[k] := by simp [List.getD, hk]
theorem countP_one {α : Type} (p : α → Bool) (l : List α) (k : Nat) (hk : k < l.length) (h : p l[k] = true) (hu : ∀ i (hi : i < l.length), p l[i] = true → i = k) : l.countP p = 1 := by
  have h1 : 0 < l.countP p := List.countP_pos_iff.2 ⟨l[k], List.getElem_mem hk, h⟩
  induction l generalizing k with
  | nil => simp at hk
  | cons x l ih =>
    cases k with
    | zero =>
      have hx : p x = true := h
      rw [List.countP_cons_of_pos hx]
      have : l.countP p = 0 := List.countP_eq_zero.2 (by
        intro y hy hpy
        obtain ⟨i, hi, rfl⟩ := List.getElem_of_mem hy
        have := hu (i + 1) (by simpa using hi) (by simpa using hpy)
        omega)
      omega
    | succ k =>
      have hx : ¬ p x = true := fun hx => by
        have := hu 0 (by simp) hx
        omega
      rw [List.countP_cons_of_neg hx]
      have hk' : k < l.length := by simpa using hk
      refine ih k hk' h (fun i hi hp => ?_) (List.countP_pos_iff.2 ⟨l[k], List.getElem_mem hk', h⟩)
      have := hu (i + 1) (by simpa using hi) (by simpa using hp)
      omega
theorem ahead_of {x y : Cl} (h : ahead x y = true) : x.1 < y.1 ∨ x.1 = y.1 ∧ x.2.1 < y.2.1 := of_decide_eq_true h
theorem ahead_far {R C : Int} {l : List Cl} (h : ∀ k, k < l.length → atB R C l k = true) : ∀ (k i : Nat), k < l.length → i < k → ahead (l.getD i cl0) (l.getD k cl0) = true
  | 0, i, _, hi => by omega
  | k + 1, i, hk, hi => by
    have h1 : ahead (l.getD k cl0) (l.getD (k + 1) cl0) = true := by
      have := h (k + 1) hk
      simp only [atB, Bool.and_eq_true, Bool.or_eq_true, decide_eq_true_eq] at this
      rcases this.2 with h2 | h2
      · omega
      · exact h2
    by_cases hik : i = k
    · subst hik
      exact h1
    · have h2 := ahead_of (ahead_far h k i (by omega) (by omega))
      have h3 := ahead_of h1
      exact decide_eq_true (by omega)

theorem okB_of_gridP {R C : Int} {l : List Cl} (h : gridP R C l) : okB R C l = true := by
  obtain ⟨hR, hC, hs, ht⟩ := h
  have hw : ∀ i, i < l.length → wiB R C (l.getD i cl0) = true := fun j hj => (stepB_of (hs j hj)).1
  have hform : formB R C l = true := by
    have hlen := step_le hR.2 hC.2 hs
    simp only [formB, Bool.and_eq_true, decide_eq_true_eq, List.all_eq_true, List.mem_range]
    refine ⟨⟨⟨hR, hC⟩, hlen⟩, ?_⟩
    intro k hk
    obtain ⟨w1, _, w3⟩ := stepB_of (hs k hk)
    have w4 := wiB_of w1
    simp only [atB, Bool.and_eq_true, Bool.or_eq_true, cellB, decide_eq_true_eq]
    refine ⟨⟨⟨⟨⟨by omega, by omega⟩, by omega, by omega⟩, by omega, by omega⟩, w3⟩, ?_⟩
    by_cases hk0 : k = 0
    · exact .inl hk0
    · right
      have e := numF_of hC.2 hs hk _ _ (inB_start w1)
      obtain ⟨_, t2⟩ := ht (l.getD k cl0).1.toNat (l.getD k cl0).2.1.toNat (by unfold vis; omega)
      obtain ⟨a, b, h3, h4⟩ := t2 k (by omega) (by omega)
      have hb : b < 5 := by unfold vis at h3; omega
      obtain ⟨_, h5⟩ := numF_pos l R C l.length hw a b (k - 1) hb (by omega)
      simp only [inB, decide_eq_true_eq] at h5
      refine decide_eq_true ?_
      unfold vis at h3
      omega
  simp only [okB, hform, Bool.true_and, List.all_eq_true, List.mem_range, colB, decide_eq_true_eq]
  intro a ha b hb
  obtain ⟨t1, _⟩ := ht a b (by unfold vis; omega)
  obtain ⟨h1, h2⟩ := numF_pos l R C l.length hw a b (numF l l.length (a * 5 + b) - 1) (by omega) (by omega)
  generalize numF l l.length (a * 5 + b) - 1 = m at h1 h2
  unfold cnt
  rw [getD_get h1] at h2
  refine countP_one _ l m h1 h2 ?_
  intro i hi hp
  rw [← getD_get hi] at hp
  rw [← getD_get h1] at h2
  rcases Nat.lt_trichotomy i m with h3 | h3 | h3
  · exact (step_apart hC.2 hs h3 h1 a b hp h2).elim
  · exact h3
  · exact (step_apart hC.2 hs h3 hi a b h2 hp).elim
theorem okB_cnt {R C : Int} {l : List Cl} (h : okB R C l = true) (a b : Nat) (ha : (a : Int) < R) (hb : (b : Int) < C) : cnt l a b = 1 := by
  simp only [okB, Bool.and_eq_true, List.all_eq_true, List.mem_range, colB, decide_eq_true_eq] at h
  exact h.2 a (by omega) b (by omega)
theorem okB_apart {R C : Int} {l : List Cl} (h : okB R C l = true) (a b : Nat) (ha : (a : Int) < R) (hb : (b : Int) < C) {i k : Nat} (hik : i < k) (hk : k < l.length) (h1 : inB (l.getD i cl0) a b = true) (h2 : inB (l.getD k cl0) a b = true) : False := by
  have := okB_cnt h a b ha hb
  rw [getD_get (by omega)] at h1
  rw [getD_get hk] at h2
  have c := countP_two (fun x => inB x a b) l i k hik hk h1 h2
  unfold cnt at this
  omega
theorem gridP_of_okB {R C : Int} {l : List Cl} (h : okB R C l = true) : gridP R C l := by
  have hf : formB R C l = true := by
    simp only [okB, Bool.and_eq_true] at h
    exact h.1
  obtain ⟨hR, hC, hlen, hat⟩ := formB_of hf
  have hw : ∀ i, i < l.length → wiB R C (l.getD i cl0) = true := by
    intro i hi
    have := cellB_of (atB_cell (hat i hi))
    simp only [wiB, withB, spanB, Bool.and_eq_true, decide_eq_true_eq]
    omega
  have hs : ∀ k, k < l.length → stepB R C l k = true := by
    intro k hk
    have w := hw k hk
    obtain ⟨w1, w2, w3⟩ := wiB_of w
    simp only [stepB, Bool.and_eq_true]
    refine ⟨⟨w, ?_⟩, (cellB_of (atB_cell (hat k hk))).2.2.2.2⟩
    refine freeB_iff.2 ?_
    intro a b hab
    have hb : b < 5 := by unfold inR at hab; omega
    have ha' : (a : Int) < R := by unfold inR at hab; omega
    have hb' : (b : Int) < C := by unfold inR at hab; omega
    cases hm : numF l k (a * 5 + b) with
    | zero => rfl
    | succ m =>
      obtain ⟨h1, h2⟩ := numF_pos l R C k (fun i hi => hw i (by omega)) a b m hb hm
      exact (okB_apart h a b ha' hb' h1 hk h2 ((inB_nat w1).2 hab)).elim
  refine ⟨hR, hC, hs, ?_⟩
  intro a b hv
  have ha' : (a : Int) < R := by unfold vis at hv; omega
  have hb' : (b : Int) < C := by unfold vis at hv; omega
  have hb : b < 5 := by omega
  constructor
  · have hc := okB_cnt h a b ha' hb'
    rcases Nat.eq_zero_or_pos (numF l l.length (a * 5 + b)) with h0 | h0
    · have hz := numF_zero l R C l.length hw a b hb h0
      have : cnt l a b = 0 := List.countP_eq_zero.2 (by
        intro x hx hp
        obtain ⟨i, hi, rfl⟩ := List.getElem_of_mem hx
        have := hz i hi
        rw [getD_get hi] at this
        rw [this] at hp
        exact absurd hp (by simp))
      omega
    · exact h0
  · intro k k1 k2
    obtain ⟨h1, h2⟩ := numF_pos l R C l.length hw a b (numF l l.length (a * 5 + b) - 1) hb (by omega)
    have hk : k - 1 < numF l l.length (a * 5 + b) - 1 := by omega
    generalize numF l l.length (a * 5 + b) - 1 = m at h1 h2 hk
    have h3 := ahead_of (ahead_far hat m (k - 1) h1 hk)
    have w := hw (k - 1) (by omega)
    have w' := wiB_of w
    refine ⟨(l.getD (k - 1) cl0).1.toNat, (l.getD (k - 1) cl0).2.1.toNat, ?_, ?_⟩
    · simp only [inB, decide_eq_true_eq] at h2
      unfold vis
      omega
    · rw [numF_of hC.2 hs (show k - 1 < l.length by omega) _ _ (inB_start w)]
      omega
theorem gridP_iff {R C : Int} {l : List Cl} : gridP R C l ↔ okB R C l = true := ⟨okB_of_gridP, gridP_of_okB⟩
end Go.Proofs.Yteghidjbcpmfbaa
