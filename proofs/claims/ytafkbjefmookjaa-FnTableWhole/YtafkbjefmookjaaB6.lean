import Derived.Test.YtafkbjefmookjaaB5
import Derived.Test.YtafkbjefmookjaaB1
import Derived.Test.YtafkbjefmookjaaB2
import Derived.Test.YtafkbjefmookjaaB4
import Derived.Test.YtafkbjefmookjaaB3
namespace Go.Proofs.Ytafkbjefmookjaa
open Go.RowKit

theorem cntI_zero_iff (s k r d : Nat) : cntI s k r d = 0 ↔ ∀ i, i < k → ¬ (r ≤ s + i ∧ s + i < r + d) := by
  unfold cntI
  rw [List.length_eq_zero_iff, List.filter_eq_nil_iff]
  simp only [List.mem_range, decide_eq_true_eq]
theorem cntI_full_iff (s k r d : Nat) : cntI s k r d = k ↔ ∀ i, i < k → (r ≤ s + i ∧ s + i < r + d) := by
  unfold cntI
  have := List.length_filter_eq_length_iff (l := List.range k) (p := fun i => decide (r ≤ s + i ∧ s + i < r + d))
  rw [List.length_range] at this
  rw [this]
  simp only [List.mem_range, decide_eq_true_eq]
theorem mul_full {a b m n : Nat} (h1 : a ≤ m) (h2 : b ≤ n) (hm : 1 ≤ m) (hn : 1 ≤ n) : a * b = m * n ↔ a = m ∧ b = n := by
  constructor
  · intro e
    have h3 : a * b ≤ a * n := Nat.mul_le_mul_left a h2
    have h4 : a * n ≤ m * n := Nat.mul_le_mul_right n h1
    have h5 : a * n = m * n := by omega
    have ha : a = m := Nat.eq_of_mul_eq_mul_right hn h5
    refine ⟨ha, ?_⟩
    rw [ha] at e
    exact Nat.eq_of_mul_eq_mul_left hm e
  · rintro ⟨rfl, rfl⟩
    rfl
section
variable {R C : Nat} {l : List Cl} {r c d g : Nat} {x y : Nat}
/-- No square of a cell is in the rectangle. -/
theorem outs_iff {a b e h : Nat} {t : List Sg} : outsB r c d g ((a : Int), (b : Int), (e : Int), (h : Int), t) = true ↔ ∀ p q, a ≤ p → p < a + e → b ≤ q → q < b + h → ¬ inR r c d g p q := by
  unfold outsB sqN
  simp only [Int.toNat_natCast, decide_eq_true_eq, Nat.mul_eq_zero, cntI_zero_iff]
  constructor
  · rintro (h1 | h1) p q q1 q2 q3 q4 hin
    · exact h1 (p - a) (by omega) (by unfold inR at hin; omega)
    · exact h1 (q - b) (by omega) (by unfold inR at hin; omega)
  · intro hno
    by_cases hz : ∀ i, i < e → ¬ (r ≤ a + i ∧ a + i < r + d)
    · exact .inl hz
    · refine .inr fun j hj hin => hz fun i hi hin' => ?_
      exact hno (a + i) (b + j) (by omega) (by omega) (by omega) (by omega) (by unfold inR; omega)
theorem full_iff {a b e h : Nat} {t : List Sg} (he : 1 ≤ e) (hh : 1 ≤ h) : fullB r c d g ((a : Int), (b : Int), (e : Int), (h : Int), t) = true ↔ ∀ p q, a ≤ p → p < a + e → b ≤ q → q < b + h → inR r c d g p q := by
  unfold fullB sqN
  simp only [Int.toNat_natCast, decide_eq_true_eq]
  rw [mul_full (cntI_le _ _ _ _) (cntI_le _ _ _ _) he hh, cntI_full_iff, cntI_full_iff]
  constructor
  · rintro ⟨_, h1, h2⟩ p q q1 q2 q3 q4
    have := h1 (p - a) (by omega)
    have := h2 (q - b) (by omega)
    unfold inR
    omega
  · intro hall
    have h1 : ∀ i, i < e → (r ≤ a + i ∧ a + i < r + d) := fun i hi => by
      have := hall (a + i) b (by omega) (by omega) (by omega) (by omega)
      unfold inR at this
      omega
    have h2 : ∀ i, i < h → (c ≤ b + i ∧ b + i < c + g) := fun i hi => by
      have := hall a (b + i) (by omega) (by omega) (by omega) (by omega)
      unfold inR at this
      omega
    refine ⟨?_, h1, h2⟩
    rw [(cntI_full_iff a e r d).2 h1, (cntI_full_iff b h c g).2 h2]
    have := Nat.mul_le_mul he hh
    omega
theorem in_bit (h : okB R C l = true) (hx : Mask x (numF l l.length) (fun a b => vis R 0 C a b ∧ inR r c d g a b)) (m : Nat) (hm : m < l.length) : x.testBit (m + 1) = !outsB r c d g (l.getD m cl0) := by
  obtain ⟨a, b, e, w, ec, h1, h2, h3, h4⟩ := cell_nat h m hm
  rw [Bool.eq_iff_iff, hx.2, Bool.not_eq_true', ← Bool.not_eq_true, ec, outs_iff]
  constructor
  · rintro ⟨p, q, ⟨hv, hin⟩, hn⟩ hno
    have hv' : p < R ∧ q < C := by unfold vis at hv; omega
    have := (num_iff h p q m hv'.2).1 hn
    rw [ec, inB_cell] at this
    exact hno p q (by omega) (by omega) (by omega) (by omega) hin
  · intro hno
    refine Classical.byContradiction fun hne => hno fun p q q1 q2 q3 q4 hin => hne ⟨p, q, ⟨by unfold vis; omega, hin⟩, ?_⟩
    exact (num_iff h p q m (by omega)).2 ⟨hm, by rw [ec, inB_cell]; omega⟩
theorem out_bit (h : okB R C l = true) (hy : Mask y (numF l l.length) (fun a b => vis R 0 C a b ∧ ¬ inR r c d g a b)) (m : Nat) (hm : m < l.length) : y.testBit (m + 1) = !fullB r c d g (l.getD m cl0) := by
  obtain ⟨a, b, e, w, ec, h1, h2, h3, h4⟩ := cell_nat h m hm
  rw [Bool.eq_iff_iff, hy.2, Bool.not_eq_true', ← Bool.not_eq_true, ec, full_iff h1 h2]
  constructor
  · rintro ⟨p, q, ⟨hv, hin⟩, hn⟩ hno
    have hv' : p < R ∧ q < C := by unfold vis at hv; omega
    have := (num_iff h p q m hv'.2).1 hn
    rw [ec, inB_cell] at this
    exact hin (hno p q (by omega) (by omega) (by omega) (by omega))
  · intro hno
    refine Classical.byContradiction fun hne => hno fun p q q1 q2 q3 q4 => Classical.byContradiction fun hin => hne ⟨p, q, ⟨by unfold vis; omega, hin⟩, ?_⟩
    exact (num_iff h p q m (by omega)).2 ⟨hm, by rw [ec, inB_cell]; omega⟩
theorem mask_low (h : okB R C l = true) {P : Nat → Nat → Prop} (hx : Mask x (numF l l.length) (fun a b => vis R 0 C a b ∧ P a b)) (k : Nat) (hk : k = 0 ∨ l.length < k) : x.testBit k = false := by
  rw [← Bool.not_eq_true, hx.2]
  rintro ⟨a, b, ⟨hv, _⟩, e⟩
  have h0 := ((gridP_of_okB h).2.2.2 a b (by simpa using hv)).1
  have h1 := numF_le l l.length (a * 5 + b)
  omega
/-- A cell that is cut is in both sets. -/
theorem cut_and (h : okB R C l = true) (hx : Mask x (numF l l.length) (fun a b => vis R 0 C a b ∧ inR r c d g a b)) (hy : Mask y (numF l l.length) (fun a b => vis R 0 C a b ∧ ¬ inR r c d g a b)) :
    (x &&& y = 0) ↔ l.all (fun z => !cutB r c d g z) = true := by
  rw [List.all_eq_true]
  constructor
  · intro e z hz
    obtain ⟨m, hm, ez⟩ := List.getElem_of_mem hz
    rw [← getD_get hm] at ez
    have hb : (x &&& y).testBit (m + 1) = false := by rw [e, Nat.zero_testBit]
    rw [Nat.testBit_and, in_bit h hx m hm, out_bit h hy m hm, ez] at hb
    rw [cutB, hb]
    rfl
  · intro hall
    apply Nat.eq_of_testBit_eq
    intro k
    rw [Nat.testBit_and, Nat.zero_testBit]
    by_cases hk : k = 0 ∨ l.length < k
    · rw [mask_low h hx k hk, Bool.false_and]
    · obtain ⟨m, rfl⟩ : ∃ m, k = m + 1 := ⟨k - 1, by omega⟩
      have hm : m < l.length := by omega
      rw [in_bit h hx m hm, out_bit h hy m hm]
      have := hall _ (getD_mem hm)
      rw [cutB] at this
      generalize l.getD m cl0 = z at this ⊢
      revert this
      cases outsB r c d g z <;> cases fullB r c d g z <;> decide
theorem list_range (l : List Cl) : l = (List.range l.length).map (fun k => l.getD k cl0) := by
  apply List.ext_getElem?
  intro k
  by_cases hk : k < l.length
  · rw [List.getElem?_map, List.getElem?_range hk, List.getElem?_eq_getElem hk]
    simp [List.getD, hk]
  · rw [List.getElem?_eq_none (by omega), List.getElem?_eq_none (by simp; omega)]
/-- Where no cell is cut: which are in the rectangle. -/
theorem in_full (h : okB R C l = true) (hx : Mask x (numF l l.length) (fun a b => vis R 0 C a b ∧ inR r c d g a b)) (hall : l.all (fun z => !cutB r c d g z) = true) (m : Nat) (hm : m < l.length) : x.testBit (m + 1) = fullB r c d g (l.getD m cl0) := by
  rw [in_bit h hx m hm]
  have hc := List.all_eq_true.1 hall _ (getD_mem hm)
  rw [cutB] at hc
  have hno : ¬ (outsB r c d g (l.getD m cl0) = true ∧ fullB r c d g (l.getD m cl0) = true) := by
    rintro ⟨h1, h2⟩
    exact (of_decide_eq_true h2).1 (of_decide_eq_true h1)
  cases h1 : outsB r c d g (l.getD m cl0) <;> cases h2 : fullB r c d g (l.getD m cl0) <;> simp_all
theorem wr_mTx (h : okB R C l = true) (hx : Mask x (numF l l.length) (fun a b => vis R 0 C a b ∧ inR r c d g a b)) (hall : l.all (fun z => !cutB r c d g z) = true) : wrT x (fun k => (l.getD (k - 1) cl0).2.2.2.2) l.length = mTx r c d g l := by
  unfold wrT mTx
  have e : l.filter (fullB r c d g) = ((List.range l.length).filter (fun k => fullB r c d g (l.getD k cl0))).map (fun k => l.getD k cl0) := by
    conv => lhs; rw [list_range l]
    rw [List.filter_map]
    rfl
  rw [e, List.flatMap_map]
  congr 1
  apply List.filter_congr
  intro k hk
  rw [in_full h hx hall k (by simpa using hk)]
theorem bits_mN (h : okB R C l = true) (hx : Mask x (numF l l.length) (fun a b => vis R 0 C a b ∧ inR r c d g a b)) (hall : l.all (fun z => !cutB r c d g z) = true) (hl : l.length ≤ 25) : bitsN x 32 = mN r c d g l := by
  obtain ⟨k, hk⟩ : ∃ k, 31 = l.length + k := ⟨31 - l.length, by omega⟩
  have e1 : bitsN x 1 = 0 := by
    unfold bitsN
    simp [List.range_succ, mask_low h hx 0 (.inl rfl)]
  have e3 : bitsN (x >>> 1 >>> l.length) k = 0 := by
    unfold bitsN
    rw [List.length_eq_zero_iff, List.filter_eq_nil_iff]
    intro i hi
    rw [Nat.testBit_shiftRight, Nat.testBit_shiftRight, mask_low h hx _ (.inr (by omega))]
    simp
  rw [show (32 : Nat) = 1 + 31 from rfl, bitsN_add, hk, bitsN_add, e1, e3]
  unfold bitsN mN
  have e : l.filter (fullB r c d g) = ((List.range l.length).filter (fun k => fullB r c d g (l.getD k cl0))).map (fun k => l.getD k cl0) := by
    conv => lhs; rw [list_range l]
    rw [List.filter_map]
    rfl
  rw [e, List.length_map, Nat.zero_add, Nat.add_zero]
  congr 1
  apply List.filter_congr
  intro i hi
  rw [Nat.testBit_shiftRight, Nat.add_comm, in_full h hx hall i (by simpa using hi)]
theorem giveF_at (f : Nat → Nat) (v a b : Nat) (hb : b < 5) : giveF f r c d g v (a * 5 + b) = if r ≤ a ∧ a < r + d ∧ c ≤ b ∧ b < c + g then v else f (a * 5 + b) := by
  unfold giveF
  rw [show (a * 5 + b) / 5 = a by omega, show (a * 5 + b) % 5 = b by omega]
/-- The cell of the rectangle's first square. -/
theorem first_cell (h : okB R C l = true) (hd : 1 ≤ d) (hg : 1 ≤ g) (hr : r + d ≤ R) (hc : c + g ≤ C) : ∃ m, m < l.length ∧ numF l l.length (r * 5 + c) = m + 1 ∧ outsB r c d g (l.getD m cl0) = false := by
  have h0 := ((gridP_of_okB h).2.2.2 r c (by unfold vis; simp; omega)).1
  obtain ⟨m, hm⟩ : ∃ m, numF l l.length (r * 5 + c) = m + 1 := ⟨numF l l.length (r * 5 + c) - 1, by omega⟩
  obtain ⟨hml, hin⟩ := (num_iff h r c m (by omega)).1 hm
  refine ⟨m, hml, hm, ?_⟩
  obtain ⟨a, b, e, w, ec, h1, h2, h3, h4⟩ := cell_nat h m hml
  rw [ec, inB_cell] at hin
  rw [← Bool.not_eq_true, ec, outs_iff]
  intro hno
  exact hno r c (by omega) (by omega) (by omega) (by omega) (by unfold inR; omega)
theorem not_outs (hall : l.all (fun z => !cutB r c d g z) = true) {m : Nat} (hm : m < l.length) (ho : outsB r c d g (l.getD m cl0) = false) : fullB r c d g (l.getD m cl0) = true := by
  have hc := List.all_eq_true.1 hall _ (getD_mem hm)
  rw [cutB, ho] at hc
  simpa using hc
theorem merge_numC (h : okB R C l = true) (hd : 1 ≤ d) (hg : 1 ≤ g) (hr : r + d ≤ R) (hc : c + g ≤ C) (m : Nat) (hm : m < l.length) (ho : outsB r c d g (l.getD m cl0) = true) :
    NumC R C (giveF (numF l l.length) r c d g (numF l l.length (r * 5 + c))) (l.getD m cl0) (m + 1) ∧ numF l l.length (r * 5 + c) ≠ m + 1 := by
  obtain ⟨hR, hC, _, _⟩ := gridP_of_okB h
  obtain ⟨m0, hm0, e0, ho0⟩ := first_cell h hd hg hr hc
  have hne : m0 ≠ m := by
    rintro rfl
    rw [ho] at ho0
    exact absurd ho0 (by simp)
  obtain ⟨a, b, e, w, ec, h1, h2, h3, h4⟩ := cell_nat h m hm
  refine ⟨⟨a, b, e, w, _, ec, h1, h2, h3, h4, fun p q hp hq => ?_⟩, by omega⟩
  rw [giveF_at _ _ p q (by omega)]
  have hn := num_iff h p q m hq
  rw [ec, inB_cell] at hn
  rw [ec, outs_iff] at ho
  by_cases hin : r ≤ p ∧ p < r + d ∧ c ≤ q ∧ q < c + g
  · rw [if_pos hin, e0]
    constructor
    · intro q'
      omega
    · intro q'
      exact absurd hin (ho p q (by omega) (by omega) (by omega) (by omega))
  · rw [if_neg hin, hn]
    exact ⟨fun q' => q'.2, fun q' => ⟨hm, q'⟩⟩
theorem merged_numC (h : okB R C l = true) (hd : 1 ≤ d) (hg : 1 ≤ g) (hr : r + d ≤ R) (hc : c + g ≤ C) (hall : l.all (fun z => !cutB r c d g z) = true) (tx : List Sg) :
    NumC R C (giveF (numF l l.length) r c d g (numF l l.length (r * 5 + c))) ((r : Int), (c : Int), (d : Int), (g : Int), tx) (numF l l.length (r * 5 + c)) := by
  obtain ⟨hR, hC, _, _⟩ := gridP_of_okB h
  obtain ⟨m0, hm0, e0, ho0⟩ := first_cell h hd hg hr hc
  have hf := not_outs hall hm0 ho0
  obtain ⟨a, b, e, w, ec, h1, h2, h3, h4⟩ := cell_nat h m0 hm0
  rw [ec, full_iff h1 h2] at hf
  refine ⟨r, c, d, g, tx, rfl, hd, hg, hr, hc, fun p q hp hq => ?_⟩
  rw [giveF_at _ _ p q (by omega)]
  by_cases hin : r ≤ p ∧ p < r + d ∧ c ≤ q ∧ q < c + g
  · rw [if_pos hin]
    exact ⟨fun _ => hin, fun _ => rfl⟩
  · rw [if_neg hin, e0, num_iff h p q m0 hq, ec, inB_cell]
    constructor
    · rintro ⟨_, q'⟩
      exact absurd (hf p q (by omega) (by omega) (by omega) (by omega)) hin
    · intro q'
      exact absurd q' hin
theorem mOut_mem {z : Cl} : z ∈ mOut r c d g l ↔ ∃ m, m < l.length ∧ l.getD m cl0 = z ∧ outsB r c d g z = true := by
  unfold mOut
  rw [List.mem_filter]
  constructor
  · rintro ⟨hz, ho⟩
    obtain ⟨m, hm, e⟩ := List.getElem_of_mem hz
    exact ⟨m, hm, by rw [getD_get hm, e], ho⟩
  · rintro ⟨m, hm, rfl, ho⟩
    exact ⟨getD_mem hm, ho⟩
theorem tiles_merge (h : okB R C l = true) (hd : 1 ≤ d) (hg : 1 ≤ g) (hr : r + d ≤ R) (hc : c + g ≤ C) (hall : l.all (fun z => !cutB r c d g z) = true) :
    TilesM R C (giveF (numF l l.length) r c d g (numF l l.length (r * 5 + c))) (mergeM l r c d g) := by
  unfold mergeM
  simp only [Int.toNat_natCast]
  refine tilesM_of ?_ ?_ ?_
  · intro z hz
    rcases List.mem_append.1 hz with hz | hz
    · obtain ⟨m, hm, rfl, ho⟩ := mOut_mem.1 hz
      exact ⟨m + 1, (merge_numC h hd hg hr hc m hm ho).1⟩
    · rw [List.mem_singleton] at hz
      subst hz
      exact ⟨_, merged_numC h hd hg hr hc hall _⟩
  · intro p q hp hq
    by_cases hin : r ≤ p ∧ p < r + d ∧ c ≤ q ∧ q < c + g
    · exact ⟨_, List.mem_append.2 (.inr (List.mem_singleton.2 rfl)), by rw [inB_cell]; exact hin⟩
    · have h0 := ((gridP_of_okB h).2.2.2 p q (by unfold vis; simp; omega)).1
      obtain ⟨m, hm⟩ : ∃ m, numF l l.length (p * 5 + q) = m + 1 := ⟨numF l l.length (p * 5 + q) - 1, by omega⟩
      obtain ⟨hml, hi⟩ := (num_iff h p q m hq).1 hm
      refine ⟨_, List.mem_append.2 (.inl (mOut_mem.2 ⟨m, hml, rfl, ?_⟩)), hi⟩
      cases ho : outsB r c d g (l.getD m cl0)
      · have hf := not_outs hall hml ho
        obtain ⟨a, b, e, w, ec, h1, h2, h3, h4⟩ := cell_nat h m hml
        rw [ec, full_iff h1 h2] at hf
        rw [ec, inB_cell] at hi
        exact absurd (hf p q (by omega) (by omega) (by omega) (by omega)) hin
      · rfl
  · rw [List.pairwise_append]
    refine ⟨?_, List.pairwise_singleton _ _, ?_⟩
    · unfold mOut
      rw [List.pairwise_filter, List.pairwise_iff_getElem]
      intro i k hi hk hik o1 o2
      rw [← getD_get hi] at o1 ⊢
      rw [← getD_get hk] at o2 ⊢
      exact ⟨i + 1, k + 1, by omega, (merge_numC h hd hg hr hc i hi o1).1, (merge_numC h hd hg hr hc k hk o2).1⟩
    · intro z hz y hy
      obtain ⟨m, hm, rfl, ho⟩ := mOut_mem.1 hz
      rw [List.mem_singleton] at hy
      subst hy
      have := merge_numC h hd hg hr hc m hm ho
      exact ⟨m + 1, _, Ne.symm this.2, this.1, merged_numC h hd hg hr hc hall _⟩
end
end Go.Proofs.Ytafkbjefmookjaa
namespace Go.Proofs.Ytafkbjefmookjaa
open Go.RowKit

/-- All that is written in a table. -/
def allT (l : List Cl) : List Sg := l.flatMap (fun x => x.2.2.2.2)
def manyN (l : List Cl) : Nat := (allT l).length
theorem manyN_take (l : List Cl) (i : Nat) (h : i < l.length) : manyN (l.take (i + 1)) = manyN (l.take i) + (l.getD i cl0).2.2.2.2.length := by
  unfold manyN allT
  rw [List.take_succ_eq_append_getElem h, List.flatMap_append, List.length_append]
  simp [List.getD, h]
theorem manyN_le (k : Nat) : ∀ l : List Cl, (∀ x ∈ l, x.2.2.2.2.length ≤ k) → manyN l ≤ k * l.length
  | [], _ => by simp [manyN, allT]
  | x :: l, h => by
    have h1 := manyN_le k l (fun y hy => h y (List.mem_cons_of_mem _ hy))
    have h2 := h x (List.mem_cons_self ..)
    unfold manyN allT at h1 ⊢
    rw [List.flatMap_cons, List.length_append, List.length_cons, Nat.mul_succ]
    omega
section
variable {R C : Nat} {l : List Cl}
theorem whole_full (h : okB R C l = true) (x : Cl) (hx : x ∈ l) : fullB 0 0 R C x = true := by
  obtain ⟨m, hm, e⟩ := List.getElem_of_mem hx
  rw [← getD_get hm] at e
  obtain ⟨a, b, d, g, ec, h1, h2, h3, h4⟩ := cell_nat h m hm
  rw [← e, ec, full_iff h1 h2]
  intro p q p1 p2 q1 q2
  unfold inR
  omega
theorem whole_outs (h : okB R C l = true) (x : Cl) (hx : x ∈ l) : outsB 0 0 R C x = false := by
  have hf := of_decide_eq_true (whole_full h x hx)
  exact decide_eq_false hf.1
theorem whole_filter (h : okB R C l = true) : l.filter (fullB 0 0 R C) = l := List.filter_eq_self.2 (fun x hx => whole_full h x hx)
theorem whole_mTx (h : okB R C l = true) : mTx 0 0 R C l = allT l := by
  unfold mTx allT
  rw [whole_filter h]
theorem whole_mN (h : okB R C l = true) : mN 0 0 R C l = l.length := by
  unfold mN
  rw [whole_filter h]
theorem whole_mOut (h : okB R C l = true) : mOut 0 0 R C l = [] := by
  unfold mOut
  rw [List.filter_eq_nil_iff]
  intro x hx
  rw [whole_outs h x hx]
  simp
theorem whole_textB (h : okB R C l = true) : textB (allT l) = decide (manyN l ≤ 24) := by
  have hall : ∀ x ∈ l, textB x.2.2.2.2 = true := by
    intro x hx
    obtain ⟨m, hm, e⟩ := List.getElem_of_mem hx
    rw [← getD_get hm] at e
    subst e
    exact (stepB_of ((gridP_of_okB h).2.2.1 m hm)).2.2
  unfold textB manyN
  have : (allT l).all sgB = true := by
    rw [List.all_eq_true]
    intro s hs
    unfold allT at hs
    obtain ⟨x, hx, hsx⟩ := List.mem_flatMap.1 hs
    have := hall x hx
    unfold textB at this
    rw [Bool.and_eq_true] at this
    exact List.all_eq_true.1 this.2 s hsx
  rw [this, Bool.and_true]
theorem whole_merge (h : okB R C l = true) : mergeB R C l 0 0 R C = (decide (2 ≤ l.length) && decide (manyN l ≤ 24)) := by
  obtain ⟨hR, hC, _, _⟩ := gridP_of_okB h
  have hb : bndB R C 0 0 R C = true := by
    simp only [bndB, Bool.and_eq_true, decide_eq_true_eq]
    omega
  have hc : l.all (fun z => !cutB 0 0 R C z) = true := by
    rw [List.all_eq_true]
    intro x hx
    rw [cutB, whole_full h x hx]
    simp
  have e0 : (0 : Int).toNat = 0 := rfl
  simp only [mergeB, h, hb, e0, Int.toNat_natCast, hc, whole_mN h, whole_mTx h, whole_textB h, Bool.true_and]
theorem whole_mergeL (h : okB R C l = true) : mergeL l 0 0 R C = [(0, 0, (R : Int), (C : Int), allT l)] := by
  have e0 : (0 : Int).toNat = 0 := rfl
  unfold mergeL mergeM
  simp only [e0, Int.toNat_natCast, whole_mOut h, whole_mTx h, List.nil_append]
  rfl
end
end Go.Proofs.Ytafkbjefmookjaa
namespace Go.Proofs.Ytafkbjefmookjaa
open Go.RowKit

set_option maxRecDepth 100000 in
set_option maxHeartbeats 4000000 in
theorem lmMany_is {R C : Int} {a : Option Addr} {n cap : Nat} {l : List Cl} {w : World} {x : Nat} (hx : manyN l = x) (h : Tab w a n cap l) (hl : l.length ≤ 30) (ht : ∀ y ∈ l, y.2.2.2.2.length ≤ 30) :
    Calls Try.prog 19 #[.agg #[.int .i64 R, .int .i64 C, .slice a n cap]] w fun e w' => e = .returned (.int .i64 x) ∧ Below w.heap.size w w' := by
  have HX : Hid (manyN l = x) := hx
  have H : Hid (Tab w a n cap l) := h
  have HT : Hid (∀ y ∈ l, y.2.2.2.2.length ≤ 30) := ht
  have hn : n ≤ 30 := by have := h.1; omega
  have HN : Hid (n = l.length) := h.1
  have hc := h.2.1
  have hm := h.2.2.1
  unfold maxLen at hm
  clear h hx ht
  go_enter Try.func19, Try.ntmps19
  go_upto_region 1 with fail
  have B0 : Below w.heap.size w (w.alloc (.cells #[.int .i64 R, .int .i64 C, .slice a n cap] 25)) := (Below.refl _ _).alloc (Nat.le_refl _) _
  have k2 : (w.alloc (.cells #[.int .i64 R, .int .i64 C, .slice a n cap] 25)).cell? ⟨w.heap.size, 2, none⟩ = some (.slice a n cap) := by simp
  have HT0 : Hid (Tab (w.alloc (.cells #[.int .i64 R, .int .i64 C, .slice a n cap] 25)) a n cap l) := H.out.below B0
  generalize (w.alloc (.cells #[.int .i64 R, .int .i64 C, .slice a n cap] 25)) = v0 at B0 k2 HT0 ⊢
  go_wp2_with fail
  go_loop [3, 4] (fun sv iv => ∃ (i s : Nat), i ≤ n ∧ iv = .int .i64 i ∧ sv = .int .i64 s ∧ s = manyN (l.take i)) (fun _ iv => n - (intOf iv).toNat)
  case atStart => exact ⟨0, 0, Nat.zero_le _, rfl, rfl, rfl⟩
  case round =>
    obtain ⟨i, s, hi, rfl, rfl, hs⟩ := hrel
    have HS : Hid (s = manyN (l.take i)) := hs
    have hsb : s ≤ 30 * 30 := by
      have h1 := manyN_le 30 (l.take i) (fun y hy => HT.out y (List.mem_of_mem_take hy))
      have h2 : (l.take i).length ≤ 30 := by rw [List.length_take]; omega
      have h3 : 30 * (l.take i).length ≤ 30 * 30 := Nat.mul_le_mul_left 30 h2
      omega
    clear hs
    by_cases hlt : i < n
    · have hil : i < l.length := by have := HN.out; omega
      have hib : (i : Int) < (n : Int) := by omega
      have hi0 : (0 : Int) ≤ (i : Int) := by omega
      rcases HT0.out.2.2.2 with e | ⟨b, off, rfl, hbv, hcl⟩
      · rw [e] at hil
        exact absurd hil (by simp)
      obtain ⟨-, -, -, -, ta, tn, tc, x4, ht4⟩ := hcl i hil
      have HTN : Hid (tn = (l.getD i cl0).2.2.2.2.length) := ht4.1
      have htn : tn ≤ 30 := by
        have := HT.out (l.getD i cl0) (getD_mem hil)
        rw [HTN.out]
        exact this
      clear hcl ht4
      go_wp2_with fail
      go_round
      case rel => exact ⟨i + 1, s + tn, by omega, by go_num, by go_num, by rw [manyN_take l i hil, HS.out, HTN.out]⟩
      case measure => simp [intOf]; omega
    · have hib : ¬ (i : Int) < (n : Int) := by omega
      go_wp2_with fail
      go_ret
      refine ⟨?_, B0⟩
      have e : s = x := by
        rw [HS.out, ← HX.out, List.take_of_length_le (by have := HN.out; omega)]
      rw [e]
      rfl
end Go.Proofs.Ytafkbjefmookjaa
namespace Go.Proofs.Ytafkbjefmookjaa
open Go.RowKit

def rcEq (a b c d a' b' c' d' : Int) : Bool := decide (a = a' ∧ b = b' ∧ c = c' ∧ d = d')
theorem eqRct (a b c d a' b' c' d' : Int) (w : World) : (Op.equalIn 10000 55 (.agg #[.int .i64 a, .int .i64 b, .int .i64 c, .int .i64 d]) (.agg #[.int .i64 a', .int .i64 b', .int .i64 c', .int .i64 d'])).run Try.prog w = .ok (rcEq a b c d a' b' c' d') w := by
  have u3 := Try.underlying3
  have a3 := Try.isAgg3
  have z3 := Try.sizeOf3
  have hS : Try.prog.underlying 55 = some (.struct (Try.prog.fieldsOf 55)) := by kernel_rfl
  have hp : Try.prog.stoodInHeld 55 = false := by kernel_rfl
  rw [show (10000 : Nat) = 9999 + 1 from rfl, run_equalIn_agg w 9999 55 _ _ hS hp]
  simp only [Program.fieldsOf, Try.underlying55]
  go_simp
  by_cases h1 : a = a' <;> by_cases h2 : b = b' <;> by_cases h3 : c = c' <;> by_cases h4 : d = d' <;> simp [rcEq, h1, h2, h3, h4]
theorem eqRct_is {a b c d a' b' c' d' : Int} {x : Bool} (h : rcEq a b c d a' b' c' d' = x) (w : World) : (Op.equalIn 10000 55 (.agg #[.int .i64 a, .int .i64 b, .int .i64 c, .int .i64 d]) (.agg #[.int .i64 a', .int .i64 b', .int .i64 c', .int .i64 d'])).run Try.prog w = .ok x w := h ▸ eqRct a b c d a' b' c' d' w
theorem noGuardR : Try.prog.eqGuardType Try.prog.depth 55 = false := by kernel_rfl
theorem rec_info : (Try.prog.info? 55).map (·.size) = some 4 := by kernel_rfl
end Go.Proofs.Ytafkbjefmookjaa
namespace Go.Proofs.Ytafkbjefmookjaa
open Go.RowKit

set_option maxRecDepth 100000 in
set_option maxHeartbeats 8000000 in
theorem implTableMerge_any (R C r c d g : Int) (a : Option Addr) (n cap : Nat) (l : List Cl) (w : World) (h : Tab w a n cap l) :
    Calls Try.prog 18 #[.agg #[.int .i64 R, .int .i64 C, .slice a n cap], .int .i64 r, .int .i64 c, .int .i64 d, .int .i64 g] w fun z w' => TabRes w.heap.size (mergeB R C l r c d g) R C (mergeL l r c d g) z w' ∧ Below w.heap.size w w' := by
  have H : Hid (Tab w a n cap l) := h
  clear h
  obtain ⟨ok, HX⟩ : ∃ x, Hid (okB R C l = x) := ⟨_, rfl⟩
  go_enter Try.func18, Try.ntmps18
  go_upto_region 1 with fail
  have B0 : Below w.heap.size w ((w.alloc (.cells #[.int .i64 R, .int .i64 C, .slice a n cap] 25)).alloc (.cells #[.int .i64 0, .int .i64 0, .slice none 0 0] 25)) := ((Below.refl _ _).alloc (Nat.le_refl _) _).alloc (by simp) _
  have G0 : RowAt ((w.alloc (.cells #[.int .i64 R, .int .i64 C, .slice a n cap] 25)).alloc (.cells #[.int .i64 0, .int .i64 0, .slice none 0 0] 25)) w.heap.size #[.int .i64 R, .int .i64 C, .slice a n cap] 25 := (rowAt_new w _ _).alloc _
  have G1 : RowAt ((w.alloc (.cells #[.int .i64 R, .int .i64 C, .slice a n cap] 25)).alloc (.cells #[.int .i64 0, .int .i64 0, .slice none 0 0] 25)) (w.heap.size + 1) #[.int .i64 0, .int .i64 0, .slice none 0 0] 25 := by
    have := rowAt_new (w.alloc (.cells #[.int .i64 R, .int .i64 C, .slice a n cap] 25)) #[.int .i64 0, .int .i64 0, .slice none 0 0] 25
    simpa using this
  have HT : Hid (Tab ((w.alloc (.cells #[.int .i64 R, .int .i64 C, .slice a n cap] 25)).alloc (.cells #[.int .i64 0, .int .i64 0, .slice none 0 0] 25)) a n cap l) := H.out.below B0
  generalize ((w.alloc (.cells #[.int .i64 R, .int .i64 C, .slice a n cap] 25)).alloc (.cells #[.int .i64 0, .int .i64 0, .slice none 0 0] 25)) = v at B0 G0 G1 HT ⊢
  have k0 : v.cell? ⟨w.heap.size, 0, none⟩ = some (.int .i64 R) := G0.cell 0
  have k1 : v.cell? ⟨w.heap.size, 1, none⟩ = some (.int .i64 C) := G0.cell 1
  have k2 : v.cell? ⟨w.heap.size, 2, none⟩ = some (.slice a n cap) := G0.cell 2
  have z0 := G0.lt
  have z1 := G1.lt
  have s0 := B0.size
  have HG0 : Hid (RowAt v w.heap.size #[.int .i64 R, .int .i64 C, .slice a n cap] 25) := G0
  have HG1 : Hid (RowAt v (w.heap.size + 1) #[.int .i64 0, .int .i64 0, .slice none 0 0] 25) := G1
  have HB0 : Hid (Below w.heap.size w v) := B0
  clear G0 G1 B0
  cases ok
  · go_upto_region 2 with (first | (go_at_call 24; refine (gridOf_is HX.out HT.out).mono ?_; rintro e w1 ⟨hres, hb1⟩; rcases hres.symm with ⟨hno, -⟩ | ⟨-, rfl⟩; exact absurd hno (by simp)) | (rw [← grid_zero]; refine wpList_store_row rfl 50 (.tmp 12) (.tmp 22) rfl w1.heap.size (gridA 0 0 0 (fun _ => 0) (fun _ => sl0)) rfl rfl 50 _ (gridAt_new _ _ _ _ _ _) (grid_infoA _ _ _ _ _) (by rw [gridA_size]) (gridA_one _ _ _ _ _) ?_))
    have s1 := hb1.size
    have B2 : Below v.heap.size v ((w1.alloc (.cells (gridA 0 0 0 (fun _ => 0) (fun _ => sl0)) 50)).setRow w1.heap.size (gridA 0 0 0 (fun _ => 0) (fun _ => sl0))) := below_row (hb1.alloc s1 _) s1 _
    generalize ((w1.alloc (.cells (gridA 0 0 0 (fun _ => 0) (fun _ => sl0)) 50)).setRow w1.heap.size (gridA 0 0 0 (fun _ => 0) (fun _ => sl0))) = v2 at B2 ⊢
    have HG2 : Hid (RowAt v2 (w.heap.size + 1) #[.int .i64 0, .int .i64 0, .slice none 0 0] 25) := HG1.out.below B2 z1
    have HNB : Hid (mergeB R C l r c d g = false) := by
      show mergeB R C l r c d g = false
      simp only [mergeB, HX.out, Bool.false_and]
    clear k0 k1 k2
    go_wp2_with (refine wpList_store_row rfl 25 (.tmp 10) (.tmp 40) rfl (w.heap.size + 1) #[.int .i64 0, .int .i64 0, .slice none 0 0] rfl rfl 25 _ (HG2.out.alloc _) tab_info rfl (cells3_one _ _ _ _ _) ?_)
    refine bodyPost_ret (v := .tuple #[.agg #[.int .i64 0, .int .i64 0, .slice none 0 0], .bool false]) ?_ rfl ⟨.inl ⟨HNB.out, rfl⟩, below_row ((HB0.out.trans (B2.mono s0)).alloc (by have := B2.size; omega) _) (by omega) _⟩
    rw [results_cell_tmp rfl]
    simp [asAddr, Result.andThen, run_tabOf (RowAt.setRow (HG2.out.alloc _) #[.int .i64 0, .int .i64 0, .slice none 0 0])]
  · obtain ⟨hR, hC, hst, -⟩ := gridP_of_okB HX.out
    obtain ⟨R, rfl⟩ : ∃ R' : Nat, R = R' := ⟨R.toNat, by omega⟩
    obtain ⟨C, rfl⟩ : ∃ C' : Nat, C = C' := ⟨C.toNat, by omega⟩
    have hn25 : l.length ≤ 25 := step_le (l := l) (K := l.length) (R := R) (C := C) (by omega) (by omega) hst
    have HST : Hid (∀ k, k < l.length → (l.getD k cl0).2.2.2.2.length ≤ 24) := fun k hk => by
      have := (stepB_of (hst k hk)).2.2
      simp only [textB, Bool.and_eq_true, decide_eq_true_eq] at this
      exact this.1
    clear hst
    go_upto_region 2 with (first | (go_at_call 24; refine (gridOf_is HX.out HT.out).mono ?_; rintro e w1 ⟨(⟨hno, -⟩ | ⟨-, t, rfl, ht1⟩), hb1⟩; exact absurd hno (by simp)) | (rw [← grid_zero]; refine wpList_store_row rfl 50 (.tmp 12) (.tmp 22) rfl w1.heap.size (gridA R C l.length (numF l l.length) t) rfl rfl 50 _ (gridAt_new _ _ _ _ _ _) (grid_infoA _ _ _ _ _) (by rw [gridA_size, gridA_size]) (gridA_one _ _ _ _ _) ?_))
    have s1 := hb1.size
    have B2 : Below v.heap.size v ((w1.alloc (.cells (gridA 0 0 0 (fun _ => 0) (fun _ => sl0)) 50)).setRow w1.heap.size (gridA R C l.length (numF l l.length) t)) := below_row (hb1.alloc s1 _) s1 _
    have B3 : Below w1.heap.size w1 ((w1.alloc (.cells (gridA 0 0 0 (fun _ => 0) (fun _ => sl0)) 50)).setRow w1.heap.size (gridA R C l.length (numF l l.length) t)) := below_row ((Below.refl _ _).alloc (Nat.le_refl _) _) (Nat.le_refl _) _
    have HG : Hid (GridAt ((w1.alloc (.cells (gridA 0 0 0 (fun _ => 0) (fun _ => sl0)) 50)).setRow w1.heap.size (gridA R C l.length (numF l l.length) t)) w1.heap.size R C l.length (numF l l.length) t) := RowAt.setRow (gridAt_new _ _ _ _ _ _) _
    generalize ((w1.alloc (.cells (gridA 0 0 0 (fun _ => 0) (fun _ => sl0)) 50)).setRow w1.heap.size (gridA R C l.length (numF l l.length) t)) = v2 at B2 B3 HG ⊢
    have HTx : Hid (∀ i, i < l.length → Txt v2 (t (i + 1)).1 (t (i + 1)).2.1 (t (i + 1)).2.2 (l.getD i cl0).2.2.2.2) := fun i hi => (ht1 i hi).below B3
    have HG2 : Hid (RowAt v2 (w.heap.size + 1) #[.int .i64 0, .int .i64 0, .slice none 0 0] 25) := HG1.out.below B2 z1
    have q0 : v2.cell? ⟨w.heap.size, 0, none⟩ = some (.int .i64 R) := (HG0.out.below B2 z0).cell 0
    have q1 : v2.cell? ⟨w.heap.size, 1, none⟩ = some (.int .i64 C) := (HG0.out.below B2 z0).cell 1
    have s2 := B2.size
    have HTw : Hid (∀ i, i < l.length → Txt w1 (t (i + 1)).1 (t (i + 1)).2.1 (t (i + 1)).2.2 (l.getD i cl0).2.2.2.2) := ht1
    have HBw : Hid (Below w1.heap.size w1 v2) := B3
    clear k0 k1 k2 ht1 hb1 B3
    obtain ⟨N, HN⟩ : ∃ N, Hid (l.length = N) := ⟨_, rfl⟩
    obtain ⟨f, HF⟩ : ∃ f, Hid (numF l l.length = f) := ⟨_, rfl⟩
    rw [HF.out] at HG
    rw [HN.out] at HG hn25
    have HB2 : Hid (Below v.heap.size v v2) := B2
    go_upto_region 3 with fail
    have B3 : Below v2.heap.size v2 (v2.alloc (.cells #[.int .i64 r, .int .i64 c, .int .i64 d, .int .i64 g] 55)) := (Below.refl _ _).alloc (Nat.le_refl _) _
    have HQ3 : Hid (RowAt (v2.alloc (.cells #[.int .i64 r, .int .i64 c, .int .i64 d, .int .i64 g] 55)) v2.heap.size #[.int .i64 r, .int .i64 c, .int .i64 d, .int .i64 g] 55) := rowAt_new _ _ _
    have HG3 : Hid (GridAt (v2.alloc (.cells #[.int .i64 r, .int .i64 c, .int .i64 d, .int .i64 g] 55)) w1.heap.size R C N f t) := HG.out.alloc _
    have HZ3 : Hid (RowAt (v2.alloc (.cells #[.int .i64 r, .int .i64 c, .int .i64 d, .int .i64 g] 55)) (w.heap.size + 1) #[.int .i64 0, .int .i64 0, .slice none 0 0] 25) := HG2.out.alloc _
    have k0 : (v2.alloc (.cells #[.int .i64 r, .int .i64 c, .int .i64 d, .int .i64 g] 55)).cell? ⟨w.heap.size, 0, none⟩ = some (.int .i64 R) := (B3.cell (p := ⟨w.heap.size, 0, none⟩) (by show w.heap.size < v2.heap.size; omega)).trans q0
    have k1 : (v2.alloc (.cells #[.int .i64 r, .int .i64 c, .int .i64 d, .int .i64 g] 55)).cell? ⟨w.heap.size, 1, none⟩ = some (.int .i64 C) := (B3.cell (p := ⟨w.heap.size, 1, none⟩) (by show w.heap.size < v2.heap.size; omega)).trans q1
    have hlt3 : v2.heap.size < (v2.alloc (.cells #[.int .i64 r, .int .i64 c, .int .i64 d, .int .i64 g] 55)).heap.size := HQ3.out.lt
    generalize (v2.alloc (.cells #[.int .i64 r, .int .i64 c, .int .i64 d, .int .i64 g] 55)) = v3 at B3 HQ3 HG3 HZ3 k0 k1 hlt3 ⊢
    have HB3 : Hid (Below v2.heap.size v2 v3) := B3
    have s3 := B3.size
    clear B3 B2 q0 q1
    obtain ⟨wi, HWi⟩ : ∃ x, Hid (withB r c d g R C = x) := ⟨_, rfl⟩
    cases wi
    · have HNB : Hid (mergeB R C l r c d g = false) := by
        show mergeB R C l r c d g = false
        have : bndB R C r c d g = false := by
          have := HWi.out
          simp only [withB, spanB, Bool.and_eq_false_iff, decide_eq_false_iff_not] at this
          simp only [bndB, Bool.and_eq_false_iff, decide_eq_false_iff_not]
          omega
        simp only [mergeB, this, Bool.and_false, Bool.false_and]
      go_wp2_with (first | (refine wpList_load_rowG (by rfl) 55 (.tmp 14) rfl v2.heap.size rfl 55 #[.int .i64 r, .int .i64 c, .int .i64 d, .int .i64 g] (0, 0) _ HQ3.out Try.underlying55 rfl rec_info ?_) | (go_at_call 27; refine (within_is HWi.out hR hC _).mono ?_; rintro e w4 ⟨rfl, hb4⟩; have HZ4 : Hid (RowAt w4 (w.heap.size + 1) #[.int .i64 0, .int .i64 0, .slice none 0 0] 25) := HZ3.out.below hb4 HZ3.out.lt) | (refine wpList_store_row rfl 25 (.tmp 10) (.tmp 40) rfl (w.heap.size + 1) #[.int .i64 0, .int .i64 0, .slice none 0 0] rfl rfl 25 _ HZ4.out tab_info rfl (cells3_one _ _ _ _ _) ?_))
      refine bodyPost_ret (v := .tuple #[.agg #[.int .i64 0, .int .i64 0, .slice none 0 0], .bool false]) ?_ rfl ⟨.inl ⟨HNB.out, rfl⟩, below_row (((HB0.out.trans (HB2.out.mono s0)).trans (HB3.out.mono (by omega))).trans (hb4.mono (by omega))) (by omega) _⟩
      rw [results_cell_tmp rfl]
      simp [asAddr, Result.andThen, run_tabOf (RowAt.setRow HZ4.out #[.int .i64 0, .int .i64 0, .slice none 0 0])]
    have hwi := HWi.out
    simp only [withB, spanB, Bool.and_eq_true, decide_eq_true_eq] at hwi
    obtain ⟨r, rfl⟩ : ∃ z : Nat, r = z := ⟨r.toNat, by omega⟩
    obtain ⟨c, rfl⟩ : ∃ z : Nat, c = z := ⟨c.toNat, by omega⟩
    obtain ⟨d, rfl⟩ : ∃ z : Nat, d = z := ⟨d.toNat, by omega⟩
    obtain ⟨g, rfl⟩ : ∃ z : Nat, g = z := ⟨g.toNat, by omega⟩
    have hd1 : 1 ≤ d := by omega
    have hg1 : 1 ≤ g := by omega
    have hrR : r + d ≤ R := by omega
    have hcC : c + g ≤ C := by omega
    have HBD : Hid (bndB R C r c d g = true) := by
      show bndB R C r c d g = true
      simp only [bndB, Bool.and_eq_true, decide_eq_true_eq]
      omega
    clear hwi
    go_upto_region 5 with (first | (refine wpList_load_rowG (by rfl) 55 (.tmp 14) rfl v2.heap.size rfl 55 #[.int .i64 r, .int .i64 c, .int .i64 d, .int .i64 g] (0, 0) _ HQ3.out Try.underlying55 rfl rec_info ?_) | (go_at_call 27; refine (within_is HWi.out hR hC _).mono ?_; rintro e w4 ⟨rfl, hb4⟩; have HZ4 : Hid (RowAt w4 (w.heap.size + 1) #[.int .i64 0, .int .i64 0, .slice none 0 0] 25) := HZ3.out.below hb4 HZ3.out.lt))
    clear k0 k1
    have HG4 : Hid (GridAt w4 w1.heap.size R C N f t) := HG3.out.below hb4 HG3.out.lt
    have HQ4 : Hid (RowAt w4 v2.heap.size #[.int .i64 r, .int .i64 c, .int .i64 d, .int .i64 g] 55) := HQ3.out.below hb4 hlt3
    have HB4 : Hid (Below v2.heap.size v2 w4) := HB3.out.trans (hb4.mono s3)
    have s4 := HB4.out.size
    have hl4 : v2.heap.size < w4.heap.size := HQ4.out.lt
    have HFL : Hid (∀ k, f k ≤ 25) := fun k => by
      have := numF_le l l.length k
      have := HN.out
      rw [← HF.out]
      omega
    clear hb4 HG3 HQ3 HZ3 HB3
    go_upto_region 6 with (first | (refine wpList_load_row rfl 50 (.tmp 12) rfl w1.heap.size rfl 50 (gridA R C N f t) (0, 0) _ HG4.out Try.underlying50 rfl (grid_infoA _ _ _ _ _) ?_) | (refine wpList_load_row rfl 55 (.tmp 14) rfl v2.heap.size rfl 55 #[.int .i64 r, .int .i64 c, .int .i64 d, .int .i64 g] (0, 0) _ HQ4.out Try.underlying55 rfl rec_info ?_) | (go_at_call 33; refine (parted_any R C N f t r c d g _ (by omega) (by omega) (by omega) (by omega) HFL.out).mono ?_; rintro e w5 ⟨⟨x, y, rfl, hx, hy⟩, hb5⟩))
    have HG5 : Hid (GridAt w5 w1.heap.size R C N f t) := HG4.out.below hb5 HG4.out.lt
    have HQ5 : Hid (RowAt w5 v2.heap.size #[.int .i64 r, .int .i64 c, .int .i64 d, .int .i64 g] 55) := HQ4.out.below hb5 hl4
    have HZ5 : Hid (RowAt w5 (w.heap.size + 1) #[.int .i64 0, .int .i64 0, .slice none 0 0] 25) := HZ4.out.below hb5 HZ4.out.lt
    have HB5 : Hid (Below v2.heap.size v2 w5) := HB4.out.trans (hb5.mono s4)
    have s5 := HB5.out.size
    have HX5 : Hid (Mask x (numF l l.length) (fun a b => vis R 0 C a b ∧ inR r c d g a b)) := by rw [HF.out]; exact hx
    have HY5 : Hid (Mask y (numF l l.length) (fun a b => vis R 0 C a b ∧ ¬ inR r c d g a b)) := by rw [HF.out]; exact hy
    have hx26 := hx.1
    have hy26 := hy.1
    clear hx hy hb5 HG4 HQ4 HZ4 HB4
    obtain ⟨ls, HLS⟩ : ∃ ls : Nat → List Sg, Hid ((fun k => (l.getD (k - 1) cl0).2.2.2.2) = ls) := ⟨_, rfl⟩
    have HT5 : Hid (∀ k, 1 ≤ k → k ≤ N → Txt w5 (t k).1 (t k).2.1 (t k).2.2 (ls k)) := fun k k1 k2 => by
      have := (HTx.out (k - 1) (by have := HN.out; omega)).below HB5.out
      rw [show k - 1 + 1 = k by omega] at this
      rw [← HLS.out]
      exact this
    have HL5 : Hid (∀ k, (ls k).length ≤ 24) := fun k => by
      rw [← HLS.out]
      simp only
      by_cases hk : k - 1 < l.length
      · exact HST.out _ hk
      · rw [List.getD_eq_getElem?_getD, List.getElem?_eq_none (by omega)]
        simp [cl0]
    go_upto_region 7 with (first | (refine wpList_load_row rfl 50 (.tmp 12) rfl w1.heap.size rfl 50 (gridA R C N f t) (0, 0) _ HG5.out Try.underlying50 rfl (grid_infoA _ _ _ _ _) ?_) | (go_at_call 34; refine (written_any R C N x f t ls _ hx26 hn25 HT5.out HL5.out).mono ?_; rintro e w6 ⟨⟨pa, pn, pc, rfl, hO6⟩, hb6⟩))
    have HG6 : Hid (GridAt w6 w1.heap.size R C N f t) := HG5.out.below hb6 HG5.out.lt
    have HQ6 : Hid (RowAt w6 v2.heap.size #[.int .i64 r, .int .i64 c, .int .i64 d, .int .i64 g] 55) := HQ5.out.below hb6 HQ5.out.lt
    have HZ6 : Hid (RowAt w6 (w.heap.size + 1) #[.int .i64 0, .int .i64 0, .slice none 0 0] 25) := HZ5.out.below hb6 HZ5.out.lt
    have HB6 : Hid (Below v2.heap.size v2 w6) := HB5.out.trans (hb6.mono s5)
    have s6 := HB6.out.size
    have HO6 : Hid (Own w6 w5.heap.size (.slice pa pn pc) (wrT x ls N)) := hO6
    clear hO6 hb6 HG5 HQ5 HZ5
    have HAN : Hid (bits .and .u32 (x : Int) (y : Int) = ((x &&& y : Nat) : Int)) := and_nat x y hx26 hy26
    have bF6 : Below w.heap.size w w6 := (HB0.out.trans (HB2.out.mono s0)).trans (HB6.out.mono (by omega))
    have HF6 : Hid (Below w.heap.size w w6) := bF6
    clear bF6
    by_cases hxy : x &&& y = 0
    case neg =>
      have n0 : (bits .and .u32 (x : Int) (y : Int) != 0) = true := by
        rw [HAN.out]
        simp
        omega
      have HNB : Hid (mergeB R C l r c d g = false) := by
        show mergeB R C l r c d g = false
        have : l.all (fun z => !cutB r c d g z) = false := by
          rw [← Bool.not_eq_true, ← cut_and HX.out HX5.out HY5.out]
          exact hxy
        simp only [mergeB, Int.toNat_natCast, this, Bool.and_false, Bool.false_and]
      go_wp2_with (refine wpList_store_row rfl 25 (.tmp 10) (.tmp 64) rfl (w.heap.size + 1) #[.int .i64 0, .int .i64 0, .slice none 0 0] rfl rfl 25 _ HZ6.out tab_info rfl (cells3_one _ _ _ _ _) ?_)
      refine bodyPost_ret (v := .tuple #[.agg #[.int .i64 0, .int .i64 0, .slice none 0 0], .bool false]) ?_ rfl ⟨.inl ⟨HNB.out, rfl⟩, below_row HF6.out (by omega) _⟩
      rw [results_cell_tmp rfl]
      simp [asAddr, Result.andThen, run_tabOf (RowAt.setRow HZ6.out #[.int .i64 0, .int .i64 0, .slice none 0 0])]
    have n0 : (bits .and .u32 (x : Int) (y : Int) != 0) = false := by
      rw [HAN.out, hxy]
      rfl
    have HALL : Hid (l.all (fun z => !cutB r c d g z) = true) := (cut_and HX.out HX5.out HY5.out).1 hxy
    have HSZ : Hid (bitsN x 32 = mN r c d g l) := bits_mN HX.out HX5.out HALL.out (by have := HN.out; omega)
    have HWT : Hid (wrT x ls N = mTx r c d g l) := by
      show wrT x ls N = mTx r c d g l
      rw [← HLS.out, ← HN.out]
      exact wr_mTx HX.out HX5.out HALL.out
    rw [HWT.out] at HO6
    clear hxy
    obtain ⟨nb, HNb⟩ : ∃ q : Nat, Hid (bitsN x 32 = q) := ⟨_, rfl⟩
    have HSX : Hid (∀ w : World, Calls Try.prog 35 #[.int .u32 x] w fun e w' => e = .returned (.int .i64 nb) ∧ Below w.heap.size w w') := fun w => by rw [← HNb.out]; exact size_any x hx26 w
    by_cases hn2 : nb < 2
    · have n1 : (nb : Int) < 2 := by omega
      have HNB : Hid (mergeB R C l r c d g = false) := by
        show mergeB R C l r c d g = false
        have : decide (2 ≤ mN r c d g l) = false := decide_eq_false (by rw [← HSZ.out, HNb.out]; omega)
        simp only [mergeB, Int.toNat_natCast, this, Bool.and_false, Bool.false_and]
      go_wp2_with (first | (go_at_call 35; refine (HSX.out _).mono ?_; rintro e w7 ⟨rfl, hb7⟩; have HZ7 : Hid (RowAt w7 (w.heap.size + 1) #[.int .i64 0, .int .i64 0, .slice none 0 0] 25) := HZ6.out.below hb7 HZ6.out.lt) | (refine wpList_store_row rfl 25 (.tmp 10) (.tmp 64) rfl (w.heap.size + 1) #[.int .i64 0, .int .i64 0, .slice none 0 0] rfl rfl 25 _ HZ7.out tab_info rfl (cells3_one _ _ _ _ _) ?_))
      refine bodyPost_ret (v := .tuple #[.agg #[.int .i64 0, .int .i64 0, .slice none 0 0], .bool false]) ?_ rfl ⟨.inl ⟨HNB.out, rfl⟩, below_row (HF6.out.trans (hb7.mono (by omega))) (by omega) _⟩
      rw [results_cell_tmp rfl]
      simp [asAddr, Result.andThen, run_tabOf (RowAt.setRow HZ7.out #[.int .i64 0, .int .i64 0, .slice none 0 0])]
    have n1 : ¬ (nb : Int) < 2 := by omega
    obtain ⟨tb, HTb⟩ : ∃ x, Hid (textB (mTx r c d g l) = x) := ⟨_, rfl⟩
    cases tb
    · have HNB : Hid (mergeB R C l r c d g = false) := by
        show mergeB R C l r c d g = false
        simp only [mergeB, Int.toNat_natCast, HTb.out, Bool.and_false]
      go_wp2_with (first | (go_at_call 35; refine (HSX.out _).mono ?_; rintro e w7 ⟨rfl, hb7⟩; have HT7 : Hid (Txt w7 pa pn pc (mTx r c d g l)) := HO6.out.txt.below hb7) | (go_at_call 36; refine (implTextOk_isG HT7.out HTb.out).mono ?_; rintro e w8 ⟨rfl, hb8⟩; have HZ8 : Hid (RowAt w8 (w.heap.size + 1) #[.int .i64 0, .int .i64 0, .slice none 0 0] 25) := (HZ6.out.below hb7 HZ6.out.lt).below hb8 (by have := hb7.size; have := HZ6.out.lt; omega)) | (refine wpList_store_row rfl 25 (.tmp 10) (.tmp 64) rfl (w.heap.size + 1) #[.int .i64 0, .int .i64 0, .slice none 0 0] rfl rfl 25 _ HZ8.out tab_info rfl (cells3_one _ _ _ _ _) ?_))
      refine bodyPost_ret (v := .tuple #[.agg #[.int .i64 0, .int .i64 0, .slice none 0 0], .bool false]) ?_ rfl ⟨.inl ⟨HNB.out, rfl⟩, below_row ((HF6.out.trans (hb7.mono (by omega))).trans (hb8.mono (by have := hb7.size; omega))) (by omega) _⟩
      rw [results_cell_tmp rfl]
      simp [asAddr, Result.andThen, run_tabOf (RowAt.setRow HZ8.out #[.int .i64 0, .int .i64 0, .slice none 0 0])]
    have HYB : Hid (mergeB R C l r c d g = true) := by
      show mergeB R C l r c d g = true
      have : decide (2 ≤ mN r c d g l) = true := decide_eq_true (by rw [← HSZ.out, HNb.out]; omega)
      simp only [mergeB, Int.toNat_natCast, this, HX.out, HBD.out, HALL.out, HTb.out, Bool.and_self]
    go_upto_region 9 with (first | (go_at_call 35; refine (HSX.out _).mono ?_; rintro e w7 ⟨rfl, hb7⟩; have HT7 : Hid (Txt w7 pa pn pc (mTx r c d g l)) := HO6.out.txt.below hb7) | (go_at_call 36; refine (implTextOk_isG HT7.out HTb.out).mono ?_; rintro e w8 ⟨rfl, hb8⟩))
    have b68 : Below w6.heap.size w6 w8 := hb7.trans (hb8.mono hb7.size)
    have s8 := b68.size
    have HB68 : Hid (Below w6.heap.size w6 w8) := b68
    have HG8 : Hid (GridAt w8 w1.heap.size R C N f t) := HG6.out.below b68 HG6.out.lt
    have HQ8 : Hid (RowAt w8 v2.heap.size #[.int .i64 r, .int .i64 c, .int .i64 d, .int .i64 g] 55) := HQ6.out.below b68 HQ6.out.lt
    have HZ8 : Hid (RowAt w8 (w.heap.size + 1) #[.int .i64 0, .int .i64 0, .slice none 0 0] 25) := HZ6.out.below b68 HZ6.out.lt
    have HO8 : Hid (Own w8 w5.heap.size (.slice pa pn pc) (mTx r c d g l)) := HO6.out.below b68
    have HB8 : Hid (Below v2.heap.size v2 w8) := HB6.out.trans (b68.mono s6)
    clear hb7 hb8 b68 HG6 HQ6 HZ6 HO6 HB6 HT7 n0 n1
    have b0 : (r : Int) < 5 := by omega
    have b1 : (c : Int) < 5 := by omega
    have kn := HG8.out.num (r * 5 + c) (by omega)
    obtain ⟨m, HM⟩ : ∃ m, Hid (f (r * 5 + c) = m) := ⟨_, rfl⟩
    have hm25 := HFL.out (r * 5 + c)
    rw [← Nat.add_assoc, HM.out] at kn
    rw [HM.out] at hm25
    have bm0 : (0 : Int) ≤ m := by omega
    have bm1 : (m : Int) < 26 := by omega
    go_upto_region 10 with fail
    clear kn
    have kt := HG8.out.txt m (by omega)
    simp only [slV] at kt
    have kf := HG8.out.frozen (28 + m)
    go_upto_region 11 with fail
    have hneW : (Value.slice pa pn pc).ownBlock ≠ some w1.heap.size := rowAt_ne HG8.out HO8.out.row (by decide)
    have HG9 : Hid (GridAt (w8.setCell ⟨w1.heap.size, 28 + m, none⟩ (.slice pa pn pc)) w1.heap.size R C N f (updS t m (pa, pn, pc))) := HG8.out.setTxt m (pa, pn, pc) (by omega)
    have HQ9 : Hid (RowAt (w8.setCell ⟨w1.heap.size, 28 + m, none⟩ (.slice pa pn pc)) v2.heap.size #[.int .i64 r, .int .i64 c, .int .i64 d, .int .i64 g] 55) := HQ8.out.other _ _ (by show v2.heap.size ≠ w1.heap.size; have := HG.out.lt; omega)
    have HZ9 : Hid (RowAt (w8.setCell ⟨w1.heap.size, 28 + m, none⟩ (.slice pa pn pc)) (w.heap.size + 1) #[.int .i64 0, .int .i64 0, .slice none 0 0] 25) := HZ8.out.other _ _ (by show w.heap.size + 1 ≠ w1.heap.size; omega)
    have HO9 : Hid (Own (w8.setCell ⟨w1.heap.size, 28 + m, none⟩ (.slice pa pn pc)) w5.heap.size (.slice pa pn pc) (mTx r c d g l)) := own_set HO8.out _ _ hneW
    have hw12 : w1.heap.size ≤ v2.heap.size := HBw.out.size
    have HB9w : Hid (Below w1.heap.size w1 (w8.setCell ⟨w1.heap.size, 28 + m, none⟩ (.slice pa pn pc))) := (HBw.out.trans (HB8.out.mono hw12)).setCell (p := ⟨w1.heap.size, 28 + m, none⟩) (Nat.le_refl _) _
    have HB9 : Hid (Below w.heap.size w (w8.setCell ⟨w1.heap.size, 28 + m, none⟩ (.slice pa pn pc))) := ((HF6.out).trans ((show Below w6.heap.size w6 w8 from HB68.out).mono (by omega))).setCell (p := ⟨w1.heap.size, 28 + m, none⟩) (by show w.heap.size ≤ w1.heap.size; omega) _
    have s9 : w8.heap.size = (w8.setCell ⟨w1.heap.size, 28 + m, none⟩ (.slice pa pn pc)).heap.size := by simp [World.setCell]
    clear kt kf HG8 HQ8 HZ8 HO8
    generalize (w8.setCell ⟨w1.heap.size, 28 + m, none⟩ (.slice pa pn pc)) = v9 at HG9 HQ9 HZ9 HO9 HB9w HB9 s9 ⊢
    obtain ⟨t9, HT9⟩ : ∃ t9, Hid (updS t m (pa, pn, pc) = t9) := ⟨_, rfl⟩
    rw [HT9.out] at HG9
    go_wp2_with (first | (refine wpList_load_row rfl 50 (.tmp 12) rfl w1.heap.size rfl 50 (gridA R C N f t9) (0, 0) _ HG9.out Try.underlying50 rfl (grid_infoA _ _ _ _ _) ?_) | (refine wpList_load_row rfl 55 (.tmp 14) rfl v2.heap.size rfl 55 #[.int .i64 r, .int .i64 c, .int .i64 d, .int .i64 g] (0, 0) _ HQ9.out Try.underlying55 rfl rec_info ?_) | (go_at_call 37; refine (give_any R C N f t9 r c d g m _ (by omega) (by omega)).mono ?_; rintro e w10 ⟨rfl, hb10⟩))
    have hfe : giveF f r c d g m = giveF (numF l l.length) r c d g (numF l l.length (r * 5 + c)) := by rw [HF.out, HM.out]
    have htl := tiles_merge HX.out hd1 hg1 hrR hcC HALL.out
    have hrep : Rep R C (giveF f r c d g m) (mergeL l r c d g) := by rw [hfe]; exact rep_sort htl
    have hlen2 : (mergeL l r c d g).length ≤ 25 := by
      show (sortC (mergeM l r c d g)).length ≤ 25
      rw [(sortC_perm _).length_eq]
      exact htl.few (by omega) (by omega)
    have hle : ∀ k, giveF f r c d g m k ≤ 25 := fun k => by
      have := HFL.out k
      unfold giveF
      split <;> omega
    have ht : ∀ k, k < (mergeL l r c d g).length → Txt w10 (t9 (giveF f r c d g m (stR ((mergeL l r c d g).getD k cl0) * 5 + stC ((mergeL l r c d g).getD k cl0)))).1 (t9 (giveF f r c d g m (stR ((mergeL l r c d g).getD k cl0) * 5 + stC ((mergeL l r c d g).getD k cl0)))).2.1 (t9 (giveF f r c d g m (stR ((mergeL l r c d g).getD k cl0) * 5 + stC ((mergeL l r c d g).getD k cl0)))).2.2 ((mergeL l r c d g).getD k cl0).2.2.2.2 ∧ ((mergeL l r c d g).getD k cl0).2.2.2.2.length ≤ 1048576 := by
      intro k hk
      have hmem := (sortC_perm (mergeM l r c d g)).mem_iff.1 (getD_mem hk)
      obtain ⟨z, hz⟩ : ∃ z, (mergeL l r c d g).getD k cl0 = z := ⟨_, rfl⟩
      have hmem' : z ∈ mergeM l r c d g := by rw [← hz]; exact hmem
      rw [hz, hfe, ← HT9.out]
      clear hmem
      unfold mergeM at hmem'
      simp only [Int.toNat_natCast] at hmem'
      rcases List.mem_append.1 hmem' with hq | hq
      · obtain ⟨i, hi, rfl, ho⟩ := mOut_mem.1 hq
        obtain ⟨e1, e2⟩ := merge_numC HX.out hd1 hg1 hrR hcC i hi ho
        rw [e1.start]
        rw [HF.out, HM.out] at e2
        simp only [updS, if_neg (Ne.symm e2)]
        have hL := HST.out i hi
        exact ⟨((HTw.out i hi).below HB9w.out).below hb10, by omega⟩
      · rw [List.mem_singleton] at hq
        subst hq
        have e1 := (merged_numC HX.out hd1 hg1 hrR hcC HALL.out (mTx r c d g l)).start
        rw [e1, HF.out, HM.out]
        simp only [updS, if_true]
        refine ⟨(HO9.out.txt).below hb10, ?_⟩
        have := HTb.out
        simp only [textB, Bool.and_eq_true, decide_eq_true_eq] at this
        omega
    refine (table_any R C N (giveF f r c d g m) t9 (mergeL l r c d g) _ (by omega) (by omega) hle hrep hlen2 ht).mono ?_
    rintro e w11 ⟨⟨a', c', rs, rfl, hO⟩, hb11⟩
    have s10 := hb10.size
    have s11 := hb11.size
    have HZ11 : Hid (RowAt w11 (w.heap.size + 1) #[.int .i64 0, .int .i64 0, .slice none 0 0] 25) := (HZ9.out.below hb10 HZ9.out.lt).below hb11 (by have := HZ9.out.lt; omega)
    have zz := HZ9.out.lt
    have HO : Hid (OwnT w11 w10.heap.size (.slice a' (mergeL l r c d g).length c') rs (mergeL l r c d g)) := hO
    obtain ⟨M, HML⟩ : ∃ M, Hid ((mergeL l r c d g).length = M) := ⟨_, rfl⟩
    rw [HML.out]
    rw [HML.out] at HO
    clear hO hrep ht hlen2 hle htl hfe
    go_wp2_with (refine wpList_store_row rfl 25 (.tmp 10) (.tmp 79) rfl (w.heap.size + 1) #[.int .i64 R, .int .i64 C, .slice a' M c'] rfl rfl 25 _ HZ11.out tab_info rfl (cells3_one _ _ _ _ _) ?_)
    have bF : Below w.heap.size w w11 := (HB9.out.trans (hb10.mono (by omega))).trans (hb11.mono (by omega))
    refine bodyPost_ret (v := .tuple #[.agg #[.int .i64 R, .int .i64 C, .slice a' M c'], .bool true]) ?_ rfl ⟨.inr ⟨HYB.out, a', c', rs, ?_, ?_⟩, below_row bF (by omega) _⟩
    · rw [results_cell_tmp rfl]
      simp [asAddr, Result.andThen, run_tabOf (RowAt.setRow HZ11.out #[.int .i64 R, .int .i64 C, .slice a' M c'])]
    · rw [HML.out]
    · rw [HML.out]
      exact OwnT.less (B' := w10.heap.size) ⟨own_row HO.out.1 _ _ (fun e => by have := (own_lt HO.out.1.row e).1; omega), HO.out.2.rowLow _ _ (by omega)⟩ (by omega)
end Go.Proofs.Ytafkbjefmookjaa
namespace Go.Proofs.Ytafkbjefmookjaa
open Go.RowKit

/-- The number of the first cell that a square is of. -/
def atN (R C : Int) (l : List Cl) (r c : Int) : Int := if okB R C l then (match l.findIdx? fun x => inB x r c with | some i => (i : Int) | none => -1) else -1
theorem okB_form {R C : Int} {l : List Cl} (h : okB R C l = true) : formB R C l = true := by
  simp only [okB, Bool.and_eq_true] at h
  exact h.1
theorem specTableOk_is {R C : Int} {a : Option Addr} {n cap : Nat} {l : List Cl} {w : World} {x : Bool} (hx : okB R C l = x) (h : Tab w a n cap l) :
    Calls Try.prog 9 #[.agg #[.int .i64 R, .int .i64 C, .slice a n cap]] w fun e w' => e = .returned (.bool x) ∧ Below w.heap.size w w' := hx ▸ specTableOk_any R C a n cap l w h
theorem findIdx_some (l : List Cl) (k : Nat) (r c : Int) (hk : k < l.length) (h0 : ∀ j, j < k → inB (l.getD j cl0) r c = false) (h1 : inB (l.getD k cl0) r c = true) : (l.findIdx? fun x => inB x r c) = some k := by
  rw [List.findIdx?_eq_some_iff_getElem]
  refine ⟨hk, by simpa [List.getD, hk] using h1, ?_⟩
  intro j hj
  have := h0 j hj
  simpa [List.getD, show j < l.length from by omega] using this
theorem findIdx_none (l : List Cl) (r c : Int) (h0 : ∀ j, j < l.length → inB (l.getD j cl0) r c = false) : (l.findIdx? fun x => inB x r c) = none := by
  rw [List.findIdx?_eq_none_iff]
  intro x hx
  obtain ⟨j, hj, rfl⟩ := List.getElem_of_mem hx
  have := h0 j hj
  simpa [List.getD, hj] using this

end Go.Proofs.Ytafkbjefmookjaa
namespace Go.Proofs.Ytafkbjefmookjaa
open Go.RowKit

/-- What merging all squares gives. -/
theorem wRes_of {R C : Nat} {l : List Cl} {w w' : World} {z : Ending} {b : Bool} (hok : okB R C l = true) (hb : mergeB R C l 0 0 R C = b) (h : TabRes w.heap.size (mergeB R C l 0 0 R C) R C (mergeL l 0 0 R C) z w' ∧ Below w.heap.size w w') :
    (∃ X Y a n c l', z = .returned (.tuple #[.agg #[.int .i64 X, .int .i64 Y, .slice a n c], .bool b]) ∧ Tab w' a n c l' ∧ (b = true → l' = [(0, 0, (R : Int), (C : Int), allT l)])) ∧ Below w.heap.size w w' := by
  obtain ⟨h1 | h1, hbl⟩ := h
  · obtain ⟨h2, rfl⟩ := h1
    rw [hb] at h2
    subst h2
    exact ⟨⟨0, 0, none, 0, 0, [], rfl, tab_nil _, fun e => absurd e (by simp)⟩, hbl⟩
  · obtain ⟨h2, a, c, rs, rfl, ho⟩ := h1
    rw [hb] at h2
    subst h2
    exact ⟨⟨R, C, a, _, c, _, rfl, ho.tab, fun _ => whole_mergeL hok⟩, hbl⟩

set_option maxRecDepth 100000 in
set_option maxHeartbeats 8000000 in
theorem lawTabWhole_walk (a : Option Addr) (n cap : Nat) (zs : List Int) (w : World) (h : Byt w.heap.size w a n cap zs) :
    Calls Try.prog 6 #[.slice a n cap] w fun e w' => e = .returned (.bool true) ∧ Below w.heap.size w w' := by
  have HY : Hid (Byt w.heap.size w a n cap zs) := h
  have hc := h.2.1
  have hm := h.2.2.1
  unfold maxLen at hm
  clear h
  by_cases hn : 1048576 < n
  · have hd : decide ((1048576 : Int) < (n : Int)) = true := by simp; omega
    go_enter Try.func6, Try.ntmps6
    go_wp2_with fail
    go_ret
    exact ⟨rfl, Below.refl _ _⟩
  have hd : decide ((1048576 : Int) < (n : Int)) = false := by simp; omega
  go_enter Try.func6, Try.ntmps6
  go_upto_region 4 with (go_at_call 13; refine (drawTableTurn_any w.heap.size a n cap zs _ HY.out (Nat.le_refl _)).mono ?_; rintro e w1 ⟨⟨R, C, a', n', c', l, rfl, hT1, hS1⟩, hb1⟩)
  have s1 := hb1.size
  have G2 : RowAt (w1.alloc (.cells #[.int .i64 R, .int .i64 C, .slice a' n' c'] 25)) w1.heap.size #[.int .i64 R, .int .i64 C, .slice a' n' c'] 25 := rowAt_new _ _ _
  have T2 : Tab (w1.alloc (.cells #[.int .i64 R, .int .i64 C, .slice a' n' c'] 25)) a' n' c' l := hT1.below ((Below.refl _ _).alloc (Nat.le_refl _) _)
  have B2 : Below w.heap.size w (w1.alloc (.cells #[.int .i64 R, .int .i64 C, .slice a' n' c'] 25)) := hb1.alloc s1 _
  generalize (w1.alloc (.cells #[.int .i64 R, .int .i64 C, .slice a' n' c'] 25)) = v2 at G2 T2 B2 ⊢
  obtain ⟨Tb, hTe⟩ : ∃ T, w1.heap.size = T := ⟨_, rfl⟩
  rw [hTe] at G2 ⊢
  have s2 := B2.size
  have HT2 : Hid (Tab v2 a' n' c' l) := T2
  have HB2 : Hid (Below w.heap.size w v2) := B2
  have HG2 : Hid (RowAt v2 Tb #[.int .i64 R, .int .i64 C, .slice a' n' c'] 25) := G2
  obtain ⟨hRb, hCb, hLb, hXb⟩ := hS1
  have HLX : Hid (∀ z ∈ l, z.2.2.2.2.length ≤ 30) := fun z hz => by have := hXb z hz; omega
  clear hT1 hb1 T2 B2 G2 hTe hXb
  obtain ⟨ok, HO⟩ : ∃ o, Hid (okB R C l = o) := ⟨_, rfl⟩
  refine wp_region_noPanic ?_
  refine wp_region_held_drew (S := fun w' => RowAt w' Tb #[.int .i64 R, .int .i64 C, .slice a' n' c'] 25) (by kernel_rfl) HG2.out (fun hHeld => ?_)
  refine take_at 0 12 (.agg #[.int .i64 R, .int .i64 C, .slice a' n' c']) rfl rfl (by kernel_rfl) (by kernel_rfl) (by kernel_rfl) (fun _ _ _ h => h) (yieldsIf_load_row (by kernel_rfl) 25 (.tmp 3) rfl Tb rfl 25 #[.int .i64 R, .int .i64 C, .slice a' n' c'] (0, 0) _ (fun w' h => h) Try.underlying25 rfl tab_info) hHeld ?_
  (try simp only [Act.put, List.setIfInBounds_toArray, List.set_cons_zero, List.set_cons_succ])
  refine take_at 2 14 (.agg #[.int .i64 R, .int .i64 C, .slice a' n' c']) rfl rfl (by kernel_rfl) (by kernel_rfl) (by kernel_rfl) (fun _ _ _ h => h) (yieldsIf_load_row (by kernel_rfl) 25 (.tmp 3) rfl Tb rfl 25 #[.int .i64 R, .int .i64 C, .slice a' n' c'] (0, 0) _ (fun w' h => h) Try.underlying25 rfl tab_info) hHeld ?_
  (try simp only [Act.put, List.setIfInBounds_toArray, List.set_cons_zero, List.set_cons_succ])
  have HTa : Hid (Tab v2.drew a' n' c' l) := HT2.out.below ((Below.refl _ _).drew)
  have HBa : Hid (Below w.heap.size w v2.drew) := HB2.out.drew
  have sda : v2.heap.size = v2.drew.heap.size := rfl
  generalize v2.drew = u0 at HTa HBa sda hHeld ⊢
  refine wpAnyH_ready (rs := [1]) (by kernel_rfl) (by simp) ?_
  refine AllReadyH.cons rfl (fun K hK => ?_) AllReadyH.nil
  go_simp
  go_at_call 14
  refine (implTableTurn_any R C a' n' c' l _ HTa.out).mono ?_
  intro e p1 hr
  obtain ⟨⟨x1, y1, a1, n1, c1, l1, rs1, rfl, hO1, hx1, hy1, hl1⟩, hbp1⟩ := tRes_of hr
  have HDX : Hid (x1 = tX R C l ∧ y1 = tY R C l ∧ l1 = tL R C l) := ⟨hx1, hy1, hl1⟩
  have sp1 := hbp1.size
  have HTp1 : Hid (Tab p1 a' n' c' l) := HTa.out.below hbp1
  have HUp1 : Hid (Tab p1 a1 n1 c1 l1) := hO1.tab
  clear hr hO1 hx1 hy1 hl1
  go_wp2_with fail
  refine hK.out _ _ (hHeld.below hbp1 hHeld.lt) (fun hHeld => ?_)
  clear hK K
  (try simp only [Act.put, List.setIfInBounds_toArray, List.set_cons_zero, List.set_cons_succ])
  refine wpAnyH_ready (rs := [3]) (by kernel_rfl) (by simp) ?_
  refine AllReadyH.cons rfl (fun K hK => ?_) AllReadyH.nil
  go_simp
  go_at_call 16
  refine (specTableTurn_any R C a' n' c' l _ HTp1.out).mono ?_
  intro e p2 hr
  obtain ⟨⟨x5, y5, a5, n5, c5, l5, rs5, rfl, hO5, hx5, hy5, hl5⟩, hbp2⟩ := tRes_of hr
  obtain rfl : x5 = x1 := hx5.trans HDX.out.1.symm
  obtain rfl : y5 = y1 := hy5.trans HDX.out.2.1.symm
  obtain rfl : l5 = l1 := hl5.trans HDX.out.2.2.symm
  have sp2 := hbp2.size
  have HTp2 : Hid (Tab p2 a' n' c' l) := HTp1.out.below hbp2
  have HUp2 : Hid (Tab p2 a1 n1 c1 l5) := HUp1.out.below hbp2
  have HVp2 : Hid (Tab p2 a5 n5 c5 l5) := hO5.tab
  clear hr hO5 hx5 hy5 hl5
  go_wp2_with fail
  refine hK.out _ _ (hHeld.below hbp2 hHeld.lt) (fun hHeld => ?_)
  clear hK K
  (try simp only [Act.put, List.setIfInBounds_toArray, List.set_cons_zero, List.set_cons_succ])
  refine wpAnyH_ready (rs := [4]) (by kernel_rfl) (by simp) ?_
  refine AllReadyH.cons rfl (fun K hK => ?_) AllReadyH.nil
  go_simp
  go_at_call 15
  refine (lmTable_same x5 y5 a1 n1 c1 l5 a5 n5 c5 _ HUp2.out HVp2.out).mono ?_
  rintro e p3 ⟨rfl, hbp3⟩
  have sp3 := hbp3.size
  have HTp3 : Hid (Tab p3 a' n' c' l) := HTp2.out.below hbp3
  go_wp2_with fail
  refine hK.out _ _ (hHeld.below hbp3 hHeld.lt) (fun hHeld => ?_)
  clear hK K
  (try simp only [Act.put, List.setIfInBounds_toArray, List.set_cons_zero, List.set_cons_succ])
  refine take_at 5 17 (.bool false) rfl rfl (by kernel_rfl) (by kernel_rfl) (by kernel_rfl) (fun _ _ _ h => h) (Or.inl ⟨by kernel_rfl, fun w' hS' => by go_simp⟩) hHeld ?_
  (try simp only [Act.put, List.setIfInBounds_toArray, List.set_cons_zero, List.set_cons_succ])
  refine take_at 6 18 (.bool false) rfl rfl (by kernel_rfl) (by kernel_rfl) (by kernel_rfl) (fun _ _ _ h => h) (Or.inl ⟨by kernel_rfl, fun w' hS' => by go_simp⟩) hHeld ?_
  (try simp only [Act.put, List.setIfInBounds_toArray, List.set_cons_zero, List.set_cons_succ])
  refine take_at 7 19 (.agg #[.int .i64 R, .int .i64 C, .slice a' n' c']) rfl rfl (by kernel_rfl) (by kernel_rfl) (by kernel_rfl) (fun _ _ _ h => h) (yieldsIf_load_row (by kernel_rfl) 25 (.tmp 3) rfl Tb rfl 25 #[.int .i64 R, .int .i64 C, .slice a' n' c'] (0, 0) _ (fun w' h => h) Try.underlying25 rfl tab_info) hHeld ?_
  (try simp only [Act.put, List.setIfInBounds_toArray, List.set_cons_zero, List.set_cons_succ])
  refine wpAnyH_ready (rs := [8]) (by kernel_rfl) (by simp) ?_
  refine AllReadyH.cons rfl (fun K hK => ?_) AllReadyH.nil
  go_simp
  go_at_call 9
  refine (specTableOk_is HO.out HTp3.out).mono ?_
  rintro e u7 ⟨rfl, hb7⟩
  have s7 := hb7.size
  have HT7 : Hid (Tab u7 a' n' c' l) := HTp3.out.below hb7
  have HB7 : Hid (Below w.heap.size w u7) := (((HBa.out.trans (hbp1.mono (by omega))).trans (hbp2.mono (by omega))).trans (hbp3.mono (by omega))).trans (hb7.mono (by omega))
  go_wp2_with fail
  refine hK.out _ _ (hHeld.below hb7 hHeld.lt) (fun hHeld => ?_)
  clear hK K
  (try simp only [Act.put, List.setIfInBounds_toArray, List.set_cons_zero, List.set_cons_succ])
  cases ok
  · refine take_at 9 21 (.bool true) rfl rfl (by kernel_rfl) (by kernel_rfl) (by kernel_rfl) (fun _ _ _ h => h) (Or.inl ⟨by kernel_rfl, fun w' hS' => by go_simp⟩) hHeld ?_
    (try simp only [Act.put, List.setIfInBounds_toArray, List.set_cons_zero, List.set_cons_succ])
    refine take_at 10 22 (.bool true) rfl rfl (by kernel_rfl) (by kernel_rfl) (by kernel_rfl) (fun _ _ _ h => h) (Or.inl ⟨by kernel_rfl, fun w' hS' => by go_simp⟩) hHeld ?_
    (try simp only [Act.put, List.setIfInBounds_toArray, List.set_cons_zero, List.set_cons_succ])
    refine wpAnyH_done (by kernel_rfl) ?_ _
    refine NoPanic.normal ?_
    have HG7 : Hid (RowAt u7 Tb #[.int .i64 R, .int .i64 C, .slice a' n' c'] 25) := hHeld
    clear hHeld HT2 HB2 HG2 hbp1 hbp2 hbp3 hb7 HDX
    go_upto_region 5 with fail
    refine wp_region_noPanic ?_
    refine wp_region_held_drew (S := fun w' => RowAt w' Tb #[.int .i64 R, .int .i64 C, .slice a' n' c'] 25) (by kernel_rfl) HG7.out (fun hHeld => ?_)
    refine take_at 0 23 (.agg #[.int .i64 R, .int .i64 C, .slice a' n' c']) rfl rfl (by kernel_rfl) (by kernel_rfl) (by kernel_rfl) (fun _ _ _ h => h) (yieldsIf_load_row (by kernel_rfl) 25 (.tmp 3) rfl Tb rfl 25 #[.int .i64 R, .int .i64 C, .slice a' n' c'] (0, 0) _ (fun w' h => h) Try.underlying25 rfl tab_info) hHeld ?_
    (try simp only [Act.put, List.setIfInBounds_toArray, List.set_cons_zero, List.set_cons_succ])
    refine take_at 2 25 (.agg #[.int .i64 R, .int .i64 C, .slice a' n' c']) rfl rfl (by kernel_rfl) (by kernel_rfl) (by kernel_rfl) (fun _ _ _ h => h) (yieldsIf_load_row (by kernel_rfl) 25 (.tmp 3) rfl Tb rfl 25 #[.int .i64 R, .int .i64 C, .slice a' n' c'] (0, 0) _ (fun w' h => h) Try.underlying25 rfl tab_info) hHeld ?_
    (try simp only [Act.put, List.setIfInBounds_toArray, List.set_cons_zero, List.set_cons_succ])
    have HTc : Hid (Tab u7.drew a' n' c' l) := HT7.out.below ((Below.refl _ _).drew)
    have HBc : Hid (Below w.heap.size w u7.drew) := HB7.out.drew
    have sdc : u7.heap.size = u7.drew.heap.size := rfl
    generalize u7.drew = u8 at HTc HBc sdc hHeld ⊢
    refine wpAnyH_ready (rs := [1]) (by kernel_rfl) (by simp) ?_
    refine AllReadyH.cons rfl (fun K hK => ?_) AllReadyH.nil
    go_simp
    go_at_call 14
    refine (implTableTurn_any R C a' n' c' l _ HTc.out).mono ?_
    intro e q1 hr
    obtain ⟨⟨x1, y1, a1, n1, c1, l1, rs1, rfl, hO1, hx1, hy1, hl1⟩, hbq1⟩ := tRes_of hr
    have HDX : Hid (x1 = tX R C l ∧ y1 = tY R C l ∧ l1 = tL R C l) := ⟨hx1, hy1, hl1⟩
    have sq1 := hbq1.size
    have HTq1 : Hid (Tab q1 a' n' c' l) := HTc.out.below hbq1
    have HUq1 : Hid (Tab q1 a1 n1 c1 l1) := hO1.tab
    clear hr hO1 hx1 hy1 hl1
    go_wp2_with fail
    refine hK.out _ _ (hHeld.below hbq1 hHeld.lt) (fun hHeld => ?_)
    clear hK K
    (try simp only [Act.put, List.setIfInBounds_toArray, List.set_cons_zero, List.set_cons_succ])
    refine wpAnyH_ready (rs := [3]) (by kernel_rfl) (by simp) ?_
    refine AllReadyH.cons rfl (fun K hK => ?_) AllReadyH.nil
    go_simp
    go_at_call 16
    refine (specTableTurn_any R C a' n' c' l _ HTq1.out).mono ?_
    intro e q2 hr
    obtain ⟨⟨x5, y5, a5, n5, c5, l5, rs5, rfl, hO5, hx5, hy5, hl5⟩, hbq2⟩ := tRes_of hr
    obtain rfl : x5 = x1 := hx5.trans HDX.out.1.symm
    obtain rfl : y5 = y1 := hy5.trans HDX.out.2.1.symm
    obtain rfl : l5 = l1 := hl5.trans HDX.out.2.2.symm
    have sq2 := hbq2.size
    have HTq2 : Hid (Tab q2 a' n' c' l) := HTq1.out.below hbq2
    have HUq2 : Hid (Tab q2 a1 n1 c1 l5) := HUq1.out.below hbq2
    have HVq2 : Hid (Tab q2 a5 n5 c5 l5) := hO5.tab
    clear hr hO5 hx5 hy5 hl5
    go_wp2_with fail
    refine hK.out _ _ (hHeld.below hbq2 hHeld.lt) (fun hHeld => ?_)
    clear hK K
    (try simp only [Act.put, List.setIfInBounds_toArray, List.set_cons_zero, List.set_cons_succ])
    refine wpAnyH_ready (rs := [4]) (by kernel_rfl) (by simp) ?_
    refine AllReadyH.cons rfl (fun K hK => ?_) AllReadyH.nil
    go_simp
    go_at_call 15
    refine (lmTable_same x5 y5 a1 n1 c1 l5 a5 n5 c5 _ HUq2.out HVq2.out).mono ?_
    rintro e q3 ⟨rfl, hbq3⟩
    have sq3 := hbq3.size
    have HTq3 : Hid (Tab q3 a' n' c' l) := HTq2.out.below hbq3
    go_wp2_with fail
    refine hK.out _ _ (hHeld.below hbq3 hHeld.lt) (fun hHeld => ?_)
    clear hK K
    (try simp only [Act.put, List.setIfInBounds_toArray, List.set_cons_zero, List.set_cons_succ])
    refine take_at 5 2 (.bool true) rfl rfl (by kernel_rfl) (by kernel_rfl) (by kernel_rfl) (fun _ _ _ h => h) (Or.inl ⟨by kernel_rfl, fun w' hS' => by go_simp⟩) hHeld ?_
    (try simp only [Act.put, List.setIfInBounds_toArray, List.set_cons_zero, List.set_cons_succ])
    refine wpAnyH_done (by kernel_rfl) ?_ _
    refine NoPanic.normal ?_
    go_wp2_with fail
    go_ret
    exact ⟨rfl, ((HBc.out.trans (hbq1.mono (by omega))).trans (hbq2.mono (by omega))).trans (hbq3.mono (by omega))⟩
  · refine take_at 9 21 (.bool false) rfl rfl (by kernel_rfl) (by kernel_rfl) (by kernel_rfl) (fun _ _ _ h => h) (Or.inl ⟨by kernel_rfl, fun w' hS' => by go_simp⟩) hHeld ?_
    (try simp only [Act.put, List.setIfInBounds_toArray, List.set_cons_zero, List.set_cons_succ])
    refine take_at 10 22 (.bool false) rfl rfl (by kernel_rfl) (by kernel_rfl) (by kernel_rfl) (fun _ _ _ h => h) (Or.inl ⟨by kernel_rfl, fun w' hS' => by go_simp⟩) hHeld ?_
    (try simp only [Act.put, List.setIfInBounds_toArray, List.set_cons_zero, List.set_cons_succ])
    refine wpAnyH_done (by kernel_rfl) ?_ _
    refine NoPanic.normal ?_
    have HG7 : Hid (RowAt u7 Tb #[.int .i64 R, .int .i64 C, .slice a' n' c'] 25) := hHeld
    have zT7 := hHeld.lt
    have sB7 := HB7.out.size
    clear hHeld HT2 HB2 HG2 hbp1 hbp2 hbp3 hb7 HDX HTp1 HTp2 HTp3 HUp1 HUp2 HVp2 HTa HBa
    obtain ⟨hR, hC, -, -⟩ := gridP_of_okB HO.out
    obtain ⟨R, rfl⟩ : ∃ z : Nat, R = z := ⟨R.toNat, by omega⟩
    obtain ⟨C, rfl⟩ : ∃ z : Nat, C = z := ⟨C.toNat, by omega⟩
    have HMB : Hid (mergeB R C l 0 0 R C = (decide (2 ≤ l.length) && decide (manyN l ≤ 24))) := whole_merge HO.out
    have HN : Hid (n' = l.length) := HT7.out.1
    have hn26 : n' ≤ 26 := by have := HN.out; omega
    obtain ⟨my, HMY⟩ : ∃ m, Hid (manyN l = m) := ⟨_, rfl⟩
    have q0 : u7.cell? ⟨Tb, 0, none⟩ = some (.int .i64 R) := HG7.out.cell 0
    have q1 : u7.cell? ⟨Tb, 1, none⟩ = some (.int .i64 C) := HG7.out.cell 1
    obtain ⟨can, HCan⟩ : ∃ b, Hid (mergeB R C l 0 0 R C = b) := ⟨_, rfl⟩
    go_upto_region 7 with (first | (refine wpList_load_row rfl 25 (.tmp 3) rfl Tb rfl 25 #[.int .i64 R, .int .i64 C, .slice a' n' c'] (0, 0) _ HG7.out Try.underlying25 rfl tab_info ?_) | (go_at_call 18; refine (implTableMerge_any R C 0 0 R C a' n' c' l _ HT7.out).mono ?_; intro e w8 hr; obtain ⟨⟨X, Y, a3, n3, c3, l3, rfl, hF8⟩, hb8⟩ := wRes_of HO.out HCan.out hr; clear hr))
    have s8 := hb8.size
    clear q0 q1
    have G9 : RowAt (w8.alloc (.cells #[.int .i64 X, .int .i64 Y, .slice a3 n3 c3] 25)) w8.heap.size #[.int .i64 X, .int .i64 Y, .slice a3 n3 c3] 25 := rowAt_new _ _ _
    have GT9 : RowAt (w8.alloc (.cells #[.int .i64 X, .int .i64 Y, .slice a3 n3 c3] 25)) Tb #[.int .i64 R, .int .i64 C, .slice a' n' c'] 25 := (HG7.out.below hb8 zT7).alloc _
    have T9 : Tab (w8.alloc (.cells #[.int .i64 X, .int .i64 Y, .slice a3 n3 c3] 25)) a' n' c' l := (HT7.out.below hb8).below ((Below.refl _ _).alloc (Nat.le_refl _) _)
    have X9 : Tab (w8.alloc (.cells #[.int .i64 X, .int .i64 Y, .slice a3 n3 c3] 25)) a3 n3 c3 l3 := hF8.1.below ((Below.refl _ _).alloc (Nat.le_refl _) _)
    have B9 : Below w.heap.size w (w8.alloc (.cells #[.int .i64 X, .int .i64 Y, .slice a3 n3 c3] 25)) := (HB7.out.trans (hb8.mono (by omega))).alloc (by omega) _
    have HF8 : Hid (can = true → l3 = [(0, 0, (R : Int), (C : Int), allT l)]) := hF8.2
    generalize (w8.alloc (.cells #[.int .i64 X, .int .i64 Y, .slice a3 n3 c3] 25)) = v9 at G9 GT9 T9 X9 B9 ⊢
    obtain ⟨Xb, hXe⟩ : ∃ T, w8.heap.size = T := ⟨_, rfl⟩
    rw [hXe] at G9 ⊢
    have HT9 : Hid (Tab v9 a' n' c' l) := T9
    have HX9 : Hid (Tab v9 a3 n3 c3 l3) := X9
    have HB9 : Hid (Below w.heap.size w v9) := B9
    have HGT9 : Hid (RowAt v9 Tb #[.int .i64 R, .int .i64 C, .slice a' n' c'] 25) := GT9
    have HGX9 : Hid (RowAt v9 Xb #[.int .i64 X, .int .i64 Y, .slice a3 n3 c3] 25) := G9
    have zT9 := GT9.lt
    have sB9 := B9.size
    have q2 : v9.cell? ⟨Tb, 2, none⟩ = some (.slice a' n' c') := GT9.cell 2
    clear hF8 hb8 G9 GT9 T9 X9 B9 hXe HT7 HG7 HB7
    by_cases hl2 : 2 ≤ n'
    · have hl2' : (1 : Int) < (n' : Int) := by omega
      by_cases hmy : my ≤ 24
      · have hmy' : (my : Int) ≤ 24 := by omega
        have hcan : can = true := by
          rw [← HCan.out, HMB.out, HMY.out]
          have := HN.out
          simp
          omega
        subst hcan
        have hl3 := HF8.out rfl
        go_upto_region 8 with (first | (refine wpList_load_rowG (by rfl) 25 (.tmp 3) rfl Tb rfl 25 #[.int .i64 R, .int .i64 C, .slice a' n' c'] (0, 0) _ HGT9.out Try.underlying25 rfl tab_info ?_) | (go_at_call 19; refine (lmMany_is HMY.out HT9.out (by omega) HLX.out).mono ?_; rintro e w10 ⟨rfl, hb10⟩))
        have HX10 : Hid (Tab w10 a3 n3 c3 l3) := HX9.out.below hb10
        have HT10 : Hid (Tab w10 a' n' c' l) := HT9.out.below hb10
        have HGT10 : Hid (RowAt w10 Tb #[.int .i64 R, .int .i64 C, .slice a' n' c'] 25) := HGT9.out.below hb10 HGT9.out.lt
        have HGX10 : Hid (RowAt w10 Xb #[.int .i64 X, .int .i64 Y, .slice a3 n3 c3] 25) := HGX9.out.below hb10 HGX9.out.lt
        have HB10 : Hid (Below w.heap.size w w10) := HB9.out.trans (hb10.mono sB9)
        have s10 := hb10.size
        subst hl3
        rcases HX10.out.2.2.2 with e | ⟨b3, off3, rfl, hbv, hcl⟩
        · exact absurd e (by simp)
        obtain ⟨-, -, -, -, ta, tn, tc, x4, ht4⟩ := hcl 0 (by simp)
        have hn3 : n3 = 1 := HX10.out.1
        subst hn3
        have htn : tn = my := by
          rw [ht4.1, ← HMY.out]
          rfl
        subst htn
        have x4' : w10.cell? ⟨b3, off3 + 4, none⟩ = some (.slice ta tn tc) := by simpa using x4
        have HX4 : Hid (w10.cell? ⟨b3, off3 + 4, none⟩ = some (.slice ta tn tc)) := x4'
        clear x4'
        have hc3 := HX10.out.2.1
        have hcm3 := HX10.out.2.2.1
        unfold maxLen at hcm3
        have see : ((tn : Int) == (tn : Int)) = true := by simp
        clear hcl x4 ht4 hb10 HX9 HGX9 HGT9 HB9 q2
        refine wp_region_noPanic ?_
        refine wp_region_held_drew (S := fun w' => RowAt w' Tb #[.int .i64 R, .int .i64 C, .slice a' n' c'] 25 ∧ RowAt w' Xb #[.int .i64 X, .int .i64 Y, .slice (some ⟨b3, off3, none⟩) 1 c3] 25 ∧ w'.cell? ⟨b3, off3 + 4, none⟩ = some (.slice ta tn tc)) (by kernel_rfl) ⟨HGT10.out, HGX10.out, HX4.out⟩ (fun hHeld => ?_)
        refine take_at 0 46 (.bool true) rfl rfl (by kernel_rfl) (by kernel_rfl) (by kernel_rfl) (fun _ _ _ h => h) (Or.inl ⟨by kernel_rfl, fun w' hS' => by go_simp⟩) hHeld ?_
        (try simp only [Act.put, List.setIfInBounds_toArray, List.set_cons_zero, List.set_cons_succ])
        refine take_at 1 47 (.bool true) rfl rfl (by kernel_rfl) (by kernel_rfl) (by kernel_rfl) (fun _ _ _ h => h) (Or.inl ⟨by kernel_rfl, fun w' hS' => by go_simp⟩) hHeld ?_
        (try simp only [Act.put, List.setIfInBounds_toArray, List.set_cons_zero, List.set_cons_succ])
        refine take_at 2 48 (.bool true) rfl rfl (by kernel_rfl) (by kernel_rfl) (by kernel_rfl) (fun _ _ _ h => h) (Or.inl ⟨by kernel_rfl, fun w' hS' => by go_simp⟩) hHeld ?_
        (try simp only [Act.put, List.setIfInBounds_toArray, List.set_cons_zero, List.set_cons_succ])
        refine take_at 3 49 (.bool true) rfl rfl (by kernel_rfl) (by kernel_rfl) (by kernel_rfl) (fun _ _ _ h => h) (Or.inl ⟨by kernel_rfl, fun w' hS' => by go_simp⟩) hHeld ?_
        (try simp only [Act.put, List.setIfInBounds_toArray, List.set_cons_zero, List.set_cons_succ])
        refine take_at 4 50 (.bool true) rfl rfl (by kernel_rfl) (by kernel_rfl) (by kernel_rfl) (fun _ _ _ h => h) (Or.inl ⟨by kernel_rfl, fun w' hS' => by go_simp⟩) hHeld ?_
        (try simp only [Act.put, List.setIfInBounds_toArray, List.set_cons_zero, List.set_cons_succ])
        refine take_at 5 51 (.bool false) rfl rfl (by kernel_rfl) (by kernel_rfl) (by kernel_rfl) (fun _ _ _ h => h) (Or.inl ⟨by kernel_rfl, fun w' hS' => by go_simp⟩) hHeld ?_
        (try simp only [Act.put, List.setIfInBounds_toArray, List.set_cons_zero, List.set_cons_succ])
        refine take_at 6 52 (.bool false) rfl rfl (by kernel_rfl) (by kernel_rfl) (by kernel_rfl) (fun _ _ _ h => h) (Or.inl ⟨by kernel_rfl, fun w' hS' => by go_simp⟩) hHeld ?_
        (try simp only [Act.put, List.setIfInBounds_toArray, List.set_cons_zero, List.set_cons_succ])
        refine take_at 7 53 (.pointer (some ⟨Xb, 2, none⟩)) rfl rfl (by kernel_rfl) (by kernel_rfl) (by kernel_rfl) (fun _ _ _ h => h) (Or.inl ⟨by kernel_rfl, fun w' hS' => by go_simp⟩) hHeld ?_
        (try simp only [Act.put, List.setIfInBounds_toArray, List.set_cons_zero, List.set_cons_succ])
        refine take_at 8 54 (.slice (some ⟨b3, off3, none⟩) 1 c3) rfl rfl (by kernel_rfl) (by kernel_rfl) (by kernel_rfl) (fun _ _ _ h => h) (Or.inl ⟨by kernel_rfl, fun w' hS' => by have hc := RowAt.cell hS'.2.1 2; go_simp⟩) hHeld ?_
        (try simp only [Act.put, List.setIfInBounds_toArray, List.set_cons_zero, List.set_cons_succ])
        refine take_at 9 55 (.int .i64 1) rfl rfl (by kernel_rfl) (by kernel_rfl) (by kernel_rfl) (fun _ _ _ h => h) (Or.inl ⟨by kernel_rfl, fun w' hS' => by go_simp⟩) hHeld ?_
        (try simp only [Act.put, List.setIfInBounds_toArray, List.set_cons_zero, List.set_cons_succ])
        refine take_at 10 56 (.bool true) rfl rfl (by kernel_rfl) (by kernel_rfl) (by kernel_rfl) (fun _ _ _ h => h) (Or.inl ⟨by kernel_rfl, fun w' hS' => by go_simp⟩) hHeld ?_
        (try simp only [Act.put, List.setIfInBounds_toArray, List.set_cons_zero, List.set_cons_succ])
        refine take_at 11 57 (.bool true) rfl rfl (by kernel_rfl) (by kernel_rfl) (by kernel_rfl) (fun _ _ _ h => h) (Or.inl ⟨by kernel_rfl, fun w' hS' => by go_simp⟩) hHeld ?_
        (try simp only [Act.put, List.setIfInBounds_toArray, List.set_cons_zero, List.set_cons_succ])
        refine take_at 12 58 (.pointer (some ⟨Xb, 2, none⟩)) rfl rfl (by kernel_rfl) (by kernel_rfl) (by kernel_rfl) (fun _ _ _ h => h) (Or.inl ⟨by kernel_rfl, fun w' hS' => by go_simp⟩) hHeld ?_
        (try simp only [Act.put, List.setIfInBounds_toArray, List.set_cons_zero, List.set_cons_succ])
        refine take_at 13 59 (.slice (some ⟨b3, off3, none⟩) 1 c3) rfl rfl (by kernel_rfl) (by kernel_rfl) (by kernel_rfl) (fun _ _ _ h => h) (Or.inl ⟨by kernel_rfl, fun w' hS' => by have hc := RowAt.cell hS'.2.1 2; go_simp⟩) hHeld ?_
        (try simp only [Act.put, List.setIfInBounds_toArray, List.set_cons_zero, List.set_cons_succ])
        refine take_at 14 60 (.pointer (some ⟨b3, off3, none⟩)) rfl rfl (by kernel_rfl) (by kernel_rfl) (by kernel_rfl) (fun _ _ _ h => h) (Or.inl ⟨by kernel_rfl, fun w' hS' => by go_simp⟩) hHeld ?_
        (try simp only [Act.put, List.setIfInBounds_toArray, List.set_cons_zero, List.set_cons_succ])
        refine take_at 15 61 (.pointer (some ⟨b3, off3 + 4, none⟩)) rfl rfl (by kernel_rfl) (by kernel_rfl) (by kernel_rfl) (fun _ _ _ h => h) (Or.inl ⟨by kernel_rfl, fun w' hS' => by go_simp⟩) hHeld ?_
        (try simp only [Act.put, List.setIfInBounds_toArray, List.set_cons_zero, List.set_cons_succ])
        refine take_at 16 62 (.slice ta tn tc) rfl rfl (by kernel_rfl) (by kernel_rfl) (by kernel_rfl) (fun _ _ _ h => h) (Or.inl ⟨by kernel_rfl, fun w' hS' => by have hc := hS'.2.2; go_simp⟩) hHeld ?_
        (try simp only [Act.put, List.setIfInBounds_toArray, List.set_cons_zero, List.set_cons_succ])
        refine take_at 17 63 (.int .i64 tn) rfl rfl (by kernel_rfl) (by kernel_rfl) (by kernel_rfl) (fun _ _ _ h => h) (Or.inl ⟨by kernel_rfl, fun w' hS' => by go_simp⟩) hHeld ?_
        (try simp only [Act.put, List.setIfInBounds_toArray, List.set_cons_zero, List.set_cons_succ])
        refine take_at 18 64 (.agg #[.int .i64 R, .int .i64 C, .slice a' n' c']) rfl rfl (by kernel_rfl) (by kernel_rfl) (by kernel_rfl) (fun _ _ _ h => h) (yieldsIf_load_row (by kernel_rfl) 25 (.tmp 3) rfl Tb rfl 25 #[.int .i64 R, .int .i64 C, .slice a' n' c'] (0, 0) _ (fun w' h => h.1) Try.underlying25 rfl tab_info) hHeld ?_
        (try simp only [Act.put, List.setIfInBounds_toArray, List.set_cons_zero, List.set_cons_succ])
        have HT11 : Hid (Tab w10.drew a' n' c' l) := HT10.out.below ((Below.refl _ _).drew)
        have HB11 : Hid (Below w.heap.size w w10.drew) := HB10.out.drew
        have sd11 : w10.heap.size = w10.drew.heap.size := rfl
        generalize w10.drew = u11 at HT11 HB11 sd11 hHeld ⊢
        refine wpAnyH_ready (rs := [19]) (by kernel_rfl) (by simp) ?_
        refine AllReadyH.cons rfl (fun K hK => ?_) AllReadyH.nil
        go_simp
        go_at_call 19
        refine (lmMany_is HMY.out HT11.out (by omega) HLX.out).mono ?_
        rintro e u12 ⟨rfl, hb12⟩
        have s12 := hb12.size
        go_wp2_with fail
        refine hK.out _ _ ⟨hHeld.1.below hb12 hHeld.1.lt, hHeld.2.1.below hb12 hHeld.2.1.lt, (hb12.cell (p := ⟨b3, off3 + 4, none⟩) (by show b3 < _; omega)).trans hHeld.2.2⟩ (fun hHeld => ?_)
        clear hK K
        (try simp only [Act.put, List.setIfInBounds_toArray, List.set_cons_zero, List.set_cons_succ])
        refine take_at 20 66 (.bool true) rfl rfl (by kernel_rfl) (by kernel_rfl) (by kernel_rfl) (fun _ _ _ h => h) (Or.inl ⟨by kernel_rfl, fun w' hS' => by go_simp⟩) hHeld ?_
        (try simp only [Act.put, List.setIfInBounds_toArray, List.set_cons_zero, List.set_cons_succ])
        refine take_at 21 67 (.bool true) rfl rfl (by kernel_rfl) (by kernel_rfl) (by kernel_rfl) (fun _ _ _ h => h) (Or.inl ⟨by kernel_rfl, fun w' hS' => by go_simp⟩) hHeld ?_
        (try simp only [Act.put, List.setIfInBounds_toArray, List.set_cons_zero, List.set_cons_succ])
        refine take_at 22 68 (.bool true) rfl rfl (by kernel_rfl) (by kernel_rfl) (by kernel_rfl) (fun _ _ _ h => h) (Or.inl ⟨by kernel_rfl, fun w' hS' => by go_simp⟩) hHeld ?_
        (try simp only [Act.put, List.setIfInBounds_toArray, List.set_cons_zero, List.set_cons_succ])
        refine take_at 23 69 (.bool true) rfl rfl (by kernel_rfl) (by kernel_rfl) (by kernel_rfl) (fun _ _ _ h => h) (Or.inl ⟨by kernel_rfl, fun w' hS' => by go_simp⟩) hHeld ?_
        (try simp only [Act.put, List.setIfInBounds_toArray, List.set_cons_zero, List.set_cons_succ])
        refine take_at 24 2 (.bool true) rfl rfl (by kernel_rfl) (by kernel_rfl) (by kernel_rfl) (fun _ _ _ h => h) (Or.inl ⟨by kernel_rfl, fun w' hS' => by go_simp⟩) hHeld ?_
        (try simp only [Act.put, List.setIfInBounds_toArray, List.set_cons_zero, List.set_cons_succ])
        refine wpAnyH_done (by kernel_rfl) ?_ _
        refine NoPanic.normal ?_
        go_wp2_with fail
        go_ret
        exact ⟨rfl, HB11.out.trans (hb12.mono (by omega))⟩
      · have hmy' : ¬ (my : Int) ≤ 24 := by omega
        have hcan : can = false := by
          rw [← HCan.out, HMB.out, HMY.out]
          simp
          omega
        subst hcan
        go_upto_region 8 with (first | (refine wpList_load_rowG (by rfl) 25 (.tmp 3) rfl Tb rfl 25 #[.int .i64 R, .int .i64 C, .slice a' n' c'] (0, 0) _ HGT9.out Try.underlying25 rfl tab_info ?_) | (go_at_call 19; refine (lmMany_is HMY.out HT9.out (by omega) HLX.out).mono ?_; rintro e w10 ⟨rfl, hb10⟩))
        refine wp_region_noPanic ?_
        refine wp_region_held_drew (S := fun _ => True) (by kernel_rfl) trivial (fun hHeld => ?_)
        refine take_at 0 46 (.bool false) rfl rfl (by kernel_rfl) (by kernel_rfl) (by kernel_rfl) (fun _ _ _ h => h) (Or.inl ⟨by kernel_rfl, fun w' hS' => by go_simp⟩) hHeld ?_
        (try simp only [Act.put, List.setIfInBounds_toArray, List.set_cons_zero, List.set_cons_succ])
        refine take_at 1 47 (.bool false) rfl rfl (by kernel_rfl) (by kernel_rfl) (by kernel_rfl) (fun _ _ _ h => h) (Or.inl ⟨by kernel_rfl, fun w' hS' => by go_simp⟩) hHeld ?_
        (try simp only [Act.put, List.setIfInBounds_toArray, List.set_cons_zero, List.set_cons_succ])
        refine take_at 2 48 (.bool true) rfl rfl (by kernel_rfl) (by kernel_rfl) (by kernel_rfl) (fun _ _ _ h => h) (Or.inl ⟨by kernel_rfl, fun w' hS' => by go_simp⟩) hHeld ?_
        (try simp only [Act.put, List.setIfInBounds_toArray, List.set_cons_zero, List.set_cons_succ])
        refine take_at 3 49 (.bool true) rfl rfl (by kernel_rfl) (by kernel_rfl) (by kernel_rfl) (fun _ _ _ h => h) (Or.inl ⟨by kernel_rfl, fun w' hS' => by go_simp⟩) hHeld ?_
        (try simp only [Act.put, List.setIfInBounds_toArray, List.set_cons_zero, List.set_cons_succ])
        refine take_at 4 50 (.bool false) rfl rfl (by kernel_rfl) (by kernel_rfl) (by kernel_rfl) (fun _ _ _ h => h) (Or.inl ⟨by kernel_rfl, fun w' hS' => by go_simp⟩) hHeld ?_
        (try simp only [Act.put, List.setIfInBounds_toArray, List.set_cons_zero, List.set_cons_succ])
        refine take_at 5 51 (.bool true) rfl rfl (by kernel_rfl) (by kernel_rfl) (by kernel_rfl) (fun _ _ _ h => h) (Or.inl ⟨by kernel_rfl, fun w' hS' => by go_simp⟩) hHeld ?_
        (try simp only [Act.put, List.setIfInBounds_toArray, List.set_cons_zero, List.set_cons_succ])
        refine take_at 6 52 (.bool true) rfl rfl (by kernel_rfl) (by kernel_rfl) (by kernel_rfl) (fun _ _ _ h => h) (Or.inl ⟨by kernel_rfl, fun w' hS' => by go_simp⟩) hHeld ?_
        (try simp only [Act.put, List.setIfInBounds_toArray, List.set_cons_zero, List.set_cons_succ])
        refine take_at 7 53 (undef) rfl rfl (by kernel_rfl) (by kernel_rfl) (by kernel_rfl) (fun _ _ _ h => h) (Or.inr ⟨by kernel_rfl, rfl⟩) hHeld ?_
        (try simp only [Act.put, List.setIfInBounds_toArray, List.set_cons_zero, List.set_cons_succ])
        refine take_at 8 54 (undef) rfl rfl (by kernel_rfl) (by kernel_rfl) (by kernel_rfl) (fun _ _ _ h => h) (Or.inr ⟨by kernel_rfl, rfl⟩) hHeld ?_
        (try simp only [Act.put, List.setIfInBounds_toArray, List.set_cons_zero, List.set_cons_succ])
        refine take_at 9 55 (undef) rfl rfl (by kernel_rfl) (by kernel_rfl) (by kernel_rfl) (fun _ _ _ h => h) (Or.inr ⟨by kernel_rfl, rfl⟩) hHeld ?_
        (try simp only [Act.put, List.setIfInBounds_toArray, List.set_cons_zero, List.set_cons_succ])
        refine take_at 10 56 (undef) rfl rfl (by kernel_rfl) (by kernel_rfl) (by kernel_rfl) (fun _ _ _ h => h) (Or.inr ⟨by kernel_rfl, rfl⟩) hHeld ?_
        (try simp only [Act.put, List.setIfInBounds_toArray, List.set_cons_zero, List.set_cons_succ])
        refine take_at 11 57 (undef) rfl rfl (by kernel_rfl) (by kernel_rfl) (by kernel_rfl) (fun _ _ _ h => h) (Or.inr ⟨by kernel_rfl, rfl⟩) hHeld ?_
        (try simp only [Act.put, List.setIfInBounds_toArray, List.set_cons_zero, List.set_cons_succ])
        refine take_at 12 58 (undef) rfl rfl (by kernel_rfl) (by kernel_rfl) (by kernel_rfl) (fun _ _ _ h => h) (Or.inr ⟨by kernel_rfl, rfl⟩) hHeld ?_
        (try simp only [Act.put, List.setIfInBounds_toArray, List.set_cons_zero, List.set_cons_succ])
        refine take_at 13 59 (undef) rfl rfl (by kernel_rfl) (by kernel_rfl) (by kernel_rfl) (fun _ _ _ h => h) (Or.inr ⟨by kernel_rfl, rfl⟩) hHeld ?_
        (try simp only [Act.put, List.setIfInBounds_toArray, List.set_cons_zero, List.set_cons_succ])
        refine take_at 14 60 (undef) rfl rfl (by kernel_rfl) (by kernel_rfl) (by kernel_rfl) (fun _ _ _ h => h) (Or.inr ⟨by kernel_rfl, rfl⟩) hHeld ?_
        (try simp only [Act.put, List.setIfInBounds_toArray, List.set_cons_zero, List.set_cons_succ])
        refine take_at 15 61 (undef) rfl rfl (by kernel_rfl) (by kernel_rfl) (by kernel_rfl) (fun _ _ _ h => h) (Or.inr ⟨by kernel_rfl, rfl⟩) hHeld ?_
        (try simp only [Act.put, List.setIfInBounds_toArray, List.set_cons_zero, List.set_cons_succ])
        refine take_at 16 62 (undef) rfl rfl (by kernel_rfl) (by kernel_rfl) (by kernel_rfl) (fun _ _ _ h => h) (Or.inr ⟨by kernel_rfl, rfl⟩) hHeld ?_
        (try simp only [Act.put, List.setIfInBounds_toArray, List.set_cons_zero, List.set_cons_succ])
        refine take_at 17 63 (undef) rfl rfl (by kernel_rfl) (by kernel_rfl) (by kernel_rfl) (fun _ _ _ h => h) (Or.inr ⟨by kernel_rfl, rfl⟩) hHeld ?_
        (try simp only [Act.put, List.setIfInBounds_toArray, List.set_cons_zero, List.set_cons_succ])
        refine take_at 18 64 (undef) rfl rfl (by kernel_rfl) (by kernel_rfl) (by kernel_rfl) (fun _ _ _ h => h) (Or.inr ⟨by kernel_rfl, rfl⟩) hHeld ?_
        (try simp only [Act.put, List.setIfInBounds_toArray, List.set_cons_zero, List.set_cons_succ])
        refine take_at 19 65 (undef) rfl rfl (by kernel_rfl) (by kernel_rfl) (by kernel_rfl) (fun _ _ _ h => h) (Or.inr ⟨by kernel_rfl, rfl⟩) hHeld ?_
        (try simp only [Act.put, List.setIfInBounds_toArray, List.set_cons_zero, List.set_cons_succ])
        refine take_at 20 66 (undef) rfl rfl (by kernel_rfl) (by kernel_rfl) (by kernel_rfl) (fun _ _ _ h => h) (Or.inr ⟨by kernel_rfl, rfl⟩) hHeld ?_
        (try simp only [Act.put, List.setIfInBounds_toArray, List.set_cons_zero, List.set_cons_succ])
        refine take_at 21 67 (undef) rfl rfl (by kernel_rfl) (by kernel_rfl) (by kernel_rfl) (fun _ _ _ h => h) (Or.inr ⟨by kernel_rfl, rfl⟩) hHeld ?_
        (try simp only [Act.put, List.setIfInBounds_toArray, List.set_cons_zero, List.set_cons_succ])
        refine take_at 22 68 (.bool true) rfl rfl (by kernel_rfl) (by kernel_rfl) (by kernel_rfl) (fun _ _ _ h => h) (Or.inl ⟨by kernel_rfl, fun w' hS' => by go_simp⟩) hHeld ?_
        (try simp only [Act.put, List.setIfInBounds_toArray, List.set_cons_zero, List.set_cons_succ])
        refine take_at 23 69 (.bool true) rfl rfl (by kernel_rfl) (by kernel_rfl) (by kernel_rfl) (fun _ _ _ h => h) (Or.inl ⟨by kernel_rfl, fun w' hS' => by go_simp⟩) hHeld ?_
        (try simp only [Act.put, List.setIfInBounds_toArray, List.set_cons_zero, List.set_cons_succ])
        refine take_at 24 2 (.bool true) rfl rfl (by kernel_rfl) (by kernel_rfl) (by kernel_rfl) (fun _ _ _ h => h) (Or.inl ⟨by kernel_rfl, fun w' hS' => by go_simp⟩) hHeld ?_
        (try simp only [Act.put, List.setIfInBounds_toArray, List.set_cons_zero, List.set_cons_succ])
        refine wpAnyH_done (by kernel_rfl) ?_ _
        refine NoPanic.normal ?_
        go_wp2_with fail
        go_ret
        exact ⟨rfl, (HB9.out.trans (hb10.mono sB9)).drew⟩
    · have hl2' : ¬ (1 : Int) < (n' : Int) := by omega
      have hcan : can = false := by
        rw [← HCan.out, HMB.out]
        have := HN.out
        simp
        omega
      subst hcan
      go_upto_region 8 with fail
      refine wp_region_noPanic ?_
      refine wp_region_held_drew (S := fun _ => True) (by kernel_rfl) trivial (fun hHeld => ?_)
      refine take_at 0 46 (.bool false) rfl rfl (by kernel_rfl) (by kernel_rfl) (by kernel_rfl) (fun _ _ _ h => h) (Or.inl ⟨by kernel_rfl, fun w' hS' => by go_simp⟩) hHeld ?_
      (try simp only [Act.put, List.setIfInBounds_toArray, List.set_cons_zero, List.set_cons_succ])
      refine take_at 1 47 (.bool false) rfl rfl (by kernel_rfl) (by kernel_rfl) (by kernel_rfl) (fun _ _ _ h => h) (Or.inl ⟨by kernel_rfl, fun w' hS' => by go_simp⟩) hHeld ?_
      (try simp only [Act.put, List.setIfInBounds_toArray, List.set_cons_zero, List.set_cons_succ])
      refine take_at 2 48 (.bool true) rfl rfl (by kernel_rfl) (by kernel_rfl) (by kernel_rfl) (fun _ _ _ h => h) (Or.inl ⟨by kernel_rfl, fun w' hS' => by go_simp⟩) hHeld ?_
      (try simp only [Act.put, List.setIfInBounds_toArray, List.set_cons_zero, List.set_cons_succ])
      refine take_at 3 49 (.bool true) rfl rfl (by kernel_rfl) (by kernel_rfl) (by kernel_rfl) (fun _ _ _ h => h) (Or.inl ⟨by kernel_rfl, fun w' hS' => by go_simp⟩) hHeld ?_
      (try simp only [Act.put, List.setIfInBounds_toArray, List.set_cons_zero, List.set_cons_succ])
      refine take_at 4 50 (.bool false) rfl rfl (by kernel_rfl) (by kernel_rfl) (by kernel_rfl) (fun _ _ _ h => h) (Or.inl ⟨by kernel_rfl, fun w' hS' => by go_simp⟩) hHeld ?_
      (try simp only [Act.put, List.setIfInBounds_toArray, List.set_cons_zero, List.set_cons_succ])
      refine take_at 5 51 (.bool true) rfl rfl (by kernel_rfl) (by kernel_rfl) (by kernel_rfl) (fun _ _ _ h => h) (Or.inl ⟨by kernel_rfl, fun w' hS' => by go_simp⟩) hHeld ?_
      (try simp only [Act.put, List.setIfInBounds_toArray, List.set_cons_zero, List.set_cons_succ])
      refine take_at 6 52 (.bool true) rfl rfl (by kernel_rfl) (by kernel_rfl) (by kernel_rfl) (fun _ _ _ h => h) (Or.inl ⟨by kernel_rfl, fun w' hS' => by go_simp⟩) hHeld ?_
      (try simp only [Act.put, List.setIfInBounds_toArray, List.set_cons_zero, List.set_cons_succ])
      refine take_at 7 53 (undef) rfl rfl (by kernel_rfl) (by kernel_rfl) (by kernel_rfl) (fun _ _ _ h => h) (Or.inr ⟨by kernel_rfl, rfl⟩) hHeld ?_
      (try simp only [Act.put, List.setIfInBounds_toArray, List.set_cons_zero, List.set_cons_succ])
      refine take_at 8 54 (undef) rfl rfl (by kernel_rfl) (by kernel_rfl) (by kernel_rfl) (fun _ _ _ h => h) (Or.inr ⟨by kernel_rfl, rfl⟩) hHeld ?_
      (try simp only [Act.put, List.setIfInBounds_toArray, List.set_cons_zero, List.set_cons_succ])
      refine take_at 9 55 (undef) rfl rfl (by kernel_rfl) (by kernel_rfl) (by kernel_rfl) (fun _ _ _ h => h) (Or.inr ⟨by kernel_rfl, rfl⟩) hHeld ?_
      (try simp only [Act.put, List.setIfInBounds_toArray, List.set_cons_zero, List.set_cons_succ])
      refine take_at 10 56 (undef) rfl rfl (by kernel_rfl) (by kernel_rfl) (by kernel_rfl) (fun _ _ _ h => h) (Or.inr ⟨by kernel_rfl, rfl⟩) hHeld ?_
      (try simp only [Act.put, List.setIfInBounds_toArray, List.set_cons_zero, List.set_cons_succ])
      refine take_at 11 57 (undef) rfl rfl (by kernel_rfl) (by kernel_rfl) (by kernel_rfl) (fun _ _ _ h => h) (Or.inr ⟨by kernel_rfl, rfl⟩) hHeld ?_
      (try simp only [Act.put, List.setIfInBounds_toArray, List.set_cons_zero, List.set_cons_succ])
      refine take_at 12 58 (undef) rfl rfl (by kernel_rfl) (by kernel_rfl) (by kernel_rfl) (fun _ _ _ h => h) (Or.inr ⟨by kernel_rfl, rfl⟩) hHeld ?_
      (try simp only [Act.put, List.setIfInBounds_toArray, List.set_cons_zero, List.set_cons_succ])
      refine take_at 13 59 (undef) rfl rfl (by kernel_rfl) (by kernel_rfl) (by kernel_rfl) (fun _ _ _ h => h) (Or.inr ⟨by kernel_rfl, rfl⟩) hHeld ?_
      (try simp only [Act.put, List.setIfInBounds_toArray, List.set_cons_zero, List.set_cons_succ])
      refine take_at 14 60 (undef) rfl rfl (by kernel_rfl) (by kernel_rfl) (by kernel_rfl) (fun _ _ _ h => h) (Or.inr ⟨by kernel_rfl, rfl⟩) hHeld ?_
      (try simp only [Act.put, List.setIfInBounds_toArray, List.set_cons_zero, List.set_cons_succ])
      refine take_at 15 61 (undef) rfl rfl (by kernel_rfl) (by kernel_rfl) (by kernel_rfl) (fun _ _ _ h => h) (Or.inr ⟨by kernel_rfl, rfl⟩) hHeld ?_
      (try simp only [Act.put, List.setIfInBounds_toArray, List.set_cons_zero, List.set_cons_succ])
      refine take_at 16 62 (undef) rfl rfl (by kernel_rfl) (by kernel_rfl) (by kernel_rfl) (fun _ _ _ h => h) (Or.inr ⟨by kernel_rfl, rfl⟩) hHeld ?_
      (try simp only [Act.put, List.setIfInBounds_toArray, List.set_cons_zero, List.set_cons_succ])
      refine take_at 17 63 (undef) rfl rfl (by kernel_rfl) (by kernel_rfl) (by kernel_rfl) (fun _ _ _ h => h) (Or.inr ⟨by kernel_rfl, rfl⟩) hHeld ?_
      (try simp only [Act.put, List.setIfInBounds_toArray, List.set_cons_zero, List.set_cons_succ])
      refine take_at 18 64 (undef) rfl rfl (by kernel_rfl) (by kernel_rfl) (by kernel_rfl) (fun _ _ _ h => h) (Or.inr ⟨by kernel_rfl, rfl⟩) hHeld ?_
      (try simp only [Act.put, List.setIfInBounds_toArray, List.set_cons_zero, List.set_cons_succ])
      refine take_at 19 65 (undef) rfl rfl (by kernel_rfl) (by kernel_rfl) (by kernel_rfl) (fun _ _ _ h => h) (Or.inr ⟨by kernel_rfl, rfl⟩) hHeld ?_
      (try simp only [Act.put, List.setIfInBounds_toArray, List.set_cons_zero, List.set_cons_succ])
      refine take_at 20 66 (undef) rfl rfl (by kernel_rfl) (by kernel_rfl) (by kernel_rfl) (fun _ _ _ h => h) (Or.inr ⟨by kernel_rfl, rfl⟩) hHeld ?_
      (try simp only [Act.put, List.setIfInBounds_toArray, List.set_cons_zero, List.set_cons_succ])
      refine take_at 21 67 (undef) rfl rfl (by kernel_rfl) (by kernel_rfl) (by kernel_rfl) (fun _ _ _ h => h) (Or.inr ⟨by kernel_rfl, rfl⟩) hHeld ?_
      (try simp only [Act.put, List.setIfInBounds_toArray, List.set_cons_zero, List.set_cons_succ])
      refine take_at 22 68 (.bool true) rfl rfl (by kernel_rfl) (by kernel_rfl) (by kernel_rfl) (fun _ _ _ h => h) (Or.inl ⟨by kernel_rfl, fun w' hS' => by go_simp⟩) hHeld ?_
      (try simp only [Act.put, List.setIfInBounds_toArray, List.set_cons_zero, List.set_cons_succ])
      refine take_at 23 69 (.bool true) rfl rfl (by kernel_rfl) (by kernel_rfl) (by kernel_rfl) (fun _ _ _ h => h) (Or.inl ⟨by kernel_rfl, fun w' hS' => by go_simp⟩) hHeld ?_
      (try simp only [Act.put, List.setIfInBounds_toArray, List.set_cons_zero, List.set_cons_succ])
      refine take_at 24 2 (.bool true) rfl rfl (by kernel_rfl) (by kernel_rfl) (by kernel_rfl) (fun _ _ _ h => h) (Or.inl ⟨by kernel_rfl, fun w' hS' => by go_simp⟩) hHeld ?_
      (try simp only [Act.put, List.setIfInBounds_toArray, List.set_cons_zero, List.set_cons_succ])
      refine wpAnyH_done (by kernel_rfl) ?_ _
      refine NoPanic.normal ?_
      go_wp2_with fail
      go_ret
      exact ⟨rfl, HB9.out.drew⟩
end Go.Proofs.Ytafkbjefmookjaa
