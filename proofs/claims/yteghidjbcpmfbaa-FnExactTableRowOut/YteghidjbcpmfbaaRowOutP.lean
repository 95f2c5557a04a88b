import Derived.Test.YteghidjbcpmfbaaRepG
import Derived.Test.YteghidjbcpmfbaaRowOutI
namespace Go.Proofs.Yteghidjbcpmfbaa
open Go.RowKit

/-- A cell when a row is taken out. -/
def outC (at' : Int) (x : Cl) : Cl := if at' < x.1 then (x.1 - 1, x.2.1, x.2.2.1, x.2.2.2.1, x.2.2.2.2) else if at' < x.1 + x.2.2.1 then (x.1, x.2.1, x.2.2.1 - 1, x.2.2.2.1, x.2.2.2.2) else x
def tallB (x : Cl) : Bool := decide (0 < x.2.2.1)
def outM (at' : Int) (l : List Cl) : List Cl := (l.map (outC at')).filter tallB
/-- Whether a row can be taken out. -/
def rowOutB (R C : Int) (l : List Cl) (t' : Int) : Bool := okB R C l && decide (0 ≤ t' ∧ t' ≤ R - 1) && decide (2 ≤ R)
def outL (at' : Int) (l : List Cl) : List Cl := sortC (outM at' l)
theorem outC_txt (at' : Int) (x : Cl) : (outC at' x).2.2.2.2 = x.2.2.2.2 := by
  unfold outC
  split
  · rfl
  · split <;> rfl
section
variable {R C : Nat} {l : List Cl}
theorem outF_at (f : Nat → Nat) (a p q : Nat) (hp : p + 1 < R) (hq : q < 5) : outF R a f (p * 5 + q) = if a ≤ p then f ((p + 1) * 5 + q) else f (p * 5 + q) := by
  unfold outF
  rw [show (p * 5 + q) / 5 = p by omega]
  by_cases h : a ≤ p
  · rw [if_pos ⟨h, hp⟩, if_pos h, show p * 5 + q + 5 = (p + 1) * 5 + q by omega]
  · rw [if_neg (fun hh => h hh.1), if_neg h]
theorem out_num (h : okB R C l = true) (a m : Nat) (ha : a < R) (hm : m < l.length) (ht : tallB (outC a (l.getD m cl0)) = true) : NumC (R - 1) C (outF R a (numF l l.length)) (outC a (l.getD m cl0)) (m + 1) := by
  obtain ⟨hR, hC, _, _⟩ := gridP_of_okB h
  obtain ⟨r, b, d, g, e, h1, h2, h3, h4⟩ := cell_nat h m hm
  have hn : ∀ p q, p < R - 1 → q < C → (outF R a (numF l l.length) (p * 5 + q) = m + 1 ↔ (if a ≤ p then inB (l.getD m cl0) ((p + 1 : Nat) : Int) q else inB (l.getD m cl0) (p : Int) q) = true) := by
    intro p q hp hq
    rw [outF_at _ a p q (by omega) (by omega)]
    split
    · rw [num_iff h (p + 1) q m hq]
      exact ⟨fun hh => hh.2, fun hh => ⟨hm, hh⟩⟩
    · rw [num_iff h p q m hq]
      exact ⟨fun hh => hh.2, fun hh => ⟨hm, hh⟩⟩
  generalize (l.getD m cl0).2.2.2.2 = t at e
  rw [e] at ht hn ⊢
  unfold outC tallB at ht
  unfold outC
  simp only at ht ⊢
  by_cases c1 : a < r
  · rw [if_pos (by omega)]
    refine ⟨r - 1, b, d, g, t, by simp; omega, h1, h2, by omega, h4, fun p q hp hq => ?_⟩
    rw [hn p q hp hq]
    split
    · rw [inB_cell]; omega
    · rw [inB_cell]; omega
  · rw [if_neg (by omega)] at ht ⊢
    by_cases c2 : a < r + d
    · rw [if_pos (by omega)] at ht ⊢
      have ht' := of_decide_eq_true ht
      simp only at ht'
      refine ⟨r, b, d - 1, g, t, by simp; omega, by omega, h2, by omega, h4, fun p q hp hq => ?_⟩
      rw [hn p q hp hq]
      split
      · rw [inB_cell]; omega
      · rw [inB_cell]; omega
    · rw [if_neg (by omega)]
      refine ⟨r, b, d, g, t, rfl, h1, h2, by omega, h4, fun p q hp hq => ?_⟩
      rw [hn p q hp hq]
      split
      · rw [inB_cell]; omega
      · rw [inB_cell]
theorem outM_mem {a : Int} {x : Cl} : x ∈ outM a l ↔ ∃ m, m < l.length ∧ outC a (l.getD m cl0) = x ∧ tallB x = true := by
  unfold outM
  rw [List.mem_filter, List.mem_map]
  constructor
  · rintro ⟨⟨y, hy, rfl⟩, ht⟩
    obtain ⟨m, hm, e⟩ := List.getElem_of_mem hy
    exact ⟨m, hm, by rw [getD_get hm, e], ht⟩
  · rintro ⟨m, hm, rfl, ht⟩
    exact ⟨⟨_, getD_mem hm, rfl⟩, ht⟩
theorem tiles_out (h : okB R C l = true) (a : Nat) (ha : a < R) : TilesM (R - 1) C (outF R a (numF l l.length)) (outM a l) := by
  obtain ⟨hR, hC, _, htl⟩ := gridP_of_okB h
  refine tilesM_of ?_ ?_ ?_
  · intro x hx
    obtain ⟨m, hm, rfl, ht⟩ := outM_mem.1 hx
    exact ⟨m + 1, out_num h a m ha hm ht⟩
  · intro p q hp hq
    obtain ⟨r, hr⟩ : ∃ r, r = if a ≤ p then p + 1 else p := ⟨_, rfl⟩
    have hrR : r < R := by rw [hr]; split <;> omega
    have h1 := (htl r q (by unfold vis; simp; omega)).1
    obtain ⟨m, hm⟩ : ∃ m, numF l l.length (r * 5 + q) = m + 1 := ⟨numF l l.length (r * 5 + q) - 1, by omega⟩
    obtain ⟨hml, hin⟩ := (num_iff h r q m hq).1 hm
    obtain ⟨r0, b, d, g, e, q1, q2, q3, q4⟩ := cell_nat h m hml
    have key : tallB (outC a (l.getD m cl0)) = true ∧ inB (outC a (l.getD m cl0)) p q = true := by
      generalize (l.getD m cl0).2.2.2.2 = t at e
      rw [e] at hin ⊢
      rw [inB_cell] at hin
      unfold outC tallB
      simp only
      have hr' : (a ≤ p ∧ r = p + 1) ∨ (¬ a ≤ p ∧ r = p) := by
        by_cases hap : a ≤ p
        · exact .inl ⟨hap, by rw [hr, if_pos hap]⟩
        · exact .inr ⟨hap, by rw [hr, if_neg hap]⟩
      by_cases c1 : (a : Int) < (r0 : Int)
      · rw [if_pos c1]
        simp only [decide_eq_true_eq, inB]
        omega
      · rw [if_neg c1]
        by_cases c2 : (a : Int) < (r0 : Int) + (d : Int)
        · rw [if_pos c2]
          simp only [decide_eq_true_eq, inB]
          omega
        · rw [if_neg c2]
          simp only [decide_eq_true_eq, inB]
          omega
    exact ⟨_, outM_mem.2 ⟨m, hml, rfl, key.1⟩, key.2⟩
  · unfold outM
    rw [List.pairwise_filter, List.pairwise_map, List.pairwise_iff_getElem]
    intro i k hi hk hik t1 t2
    rw [← getD_get hi] at t1 ⊢
    rw [← getD_get hk] at t2 ⊢
    exact ⟨i + 1, k + 1, by omega, out_num h a i ha hi t1, out_num h a k ha hk t2⟩
theorem out_txt (h : okB R C l = true) (a : Nat) (ha : a < R) (k : Nat) (hk : k < (outL a l).length) : ∃ m, m < l.length ∧ ((outL a l).getD k cl0).2.2.2.2 = (l.getD m cl0).2.2.2.2 ∧ outF R a (numF l l.length) (stR ((outL a l).getD k cl0) * 5 + stC ((outL a l).getD k cl0)) = m + 1 := by
  obtain ⟨m, hm, e, ht⟩ := outM_mem.1 ((sortC_perm (outM a l)).mem_iff.1 (getD_mem hk))
  refine ⟨m, hm, ?_, ?_⟩
  · show ((sortC (outM a l)).getD k cl0).2.2.2.2 = _
    rw [← e, outC_txt]
  · have := (out_num h a m ha hm (by rw [e]; exact ht)).start
    rw [e] at this
    exact this
theorem outM_len (a : Int) : (outM a l).length ≤ l.length := by
  unfold outM
  exact Nat.le_trans (List.length_filter_le _ _) (by simp)
theorem outL_len (a : Int) : (outL a l).length ≤ l.length := by
  unfold outL
  rw [(sortC_perm _).length_eq]
  exact outM_len a
end
end Go.Proofs.Yteghidjbcpmfbaa
