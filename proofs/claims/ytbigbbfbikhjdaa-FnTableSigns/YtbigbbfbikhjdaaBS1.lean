import Derived.Test.YtbigbbfbikhjdaaBA1
import Derived.Test.YtbigbbfbikhjdaaBA2
import Derived.Test.YtbigbbfbikhjdaaBD1
import Derived.Test.YtbigbbfbikhjdaaBI1
namespace Go.Proofs.Ytbigbbfbikhjdaa
open Go.RowKit

/-- All squares of a cell but its first. -/
def restL (r c d g : Nat) : List (Nat × Nat) := ((List.range d).flatMap (fun a => (List.range g).map (fun b => (r + a, c + b)))).filter (fun p => decide (p.1 ≠ r ∨ p.2 ≠ c))
/-- The rows of the first k whole rows of squares, and j squares of the next one, without the first. -/
def restK (r c g k j : Nat) : List (Nat × Nat) := (((List.range k).flatMap (fun a => (List.range g).map (fun b => (r + a, c + b)))) ++ (List.range j).map (fun b => (r + k, c + b))).filter (fun p => decide (p.1 ≠ r ∨ p.2 ≠ c))
theorem restK_row (r c g k : Nat) : restK r c g k g = restK r c g (k + 1) 0 := by
  unfold restK
  rw [List.range_succ, List.flatMap_append]
  simp
theorem restK_end (r c d g : Nat) : restK r c g d 0 = restL r c d g := by
  unfold restK restL
  simp
theorem restK_put (r c g k j : Nat) (h : r + k ≠ r ∨ c + j ≠ c) : restK r c g k (j + 1) = restK r c g k j ++ [(r + k, c + j)] := by
  unfold restK
  rw [List.range_succ, List.map_append, ← List.append_assoc, List.filter_append]
  congr 1
  simp only [List.map_cons, List.map_nil, List.filter_cons, List.filter_nil]
  rw [if_pos (decide_eq_true h)]
theorem restK_skip (r c g k j : Nat) (h : ¬ (r + k ≠ r ∨ c + j ≠ c)) : restK r c g k (j + 1) = restK r c g k j := by
  unfold restK
  rw [List.range_succ, List.map_append, ← List.append_assoc, List.filter_append]
  simp only [List.map_cons, List.map_nil, List.filter_cons, List.filter_nil]
  rw [decide_eq_false h]
  simp
theorem restK_len (r c g k j : Nat) : (restK r c g k j).length ≤ k * g + j := by
  unfold restK
  refine Nat.le_trans (List.length_filter_le _ _) ?_
  rw [List.length_append, List.length_flatMap]
  have hc : ∀ k : Nat, ((List.range k).map (fun _ => g)).sum = k * g := by
    intro k
    induction k with
    | zero => simp
    | succ k ih =>
      rw [List.range_succ, List.map_append, List.sum_append, ih]
      simp [Nat.succ_mul]
  simp only [List.length_map, List.length_range, hc]
  omega
def sqC (p : Nat × Nat) : Cl := ((p.1 : Int), (p.2 : Int), 1, 1, [])
def sqR (p : Nat × Nat) : Rw := ((p.1 : Int), (p.2 : Int), 1, 1, none, 0, 0)
/-- A cell of one square that keeps its text. -/
def oneC (x : Cl) : Cl := (x.1, x.2.1, 1, 1, x.2.2.2.2)
def splitB (R C : Int) (l : List Cl) (t' : Int) : Bool := okB R C l && decide (0 ≤ t' ∧ t' ≤ l.length - 1) && decide (2 ≤ (l.getD t'.toNat cl0).2.2.1.toNat * (l.getD t'.toNat cl0).2.2.2.1.toNat)
def splitM (l : List Cl) (t' : Int) : List Cl := l.set t'.toNat (oneC (l.getD t'.toNat cl0)) ++ (restL (l.getD t'.toNat cl0).1.toNat (l.getD t'.toNat cl0).2.1.toNat (l.getD t'.toNat cl0).2.2.1.toNat (l.getD t'.toNat cl0).2.2.2.1.toNat).map sqC
def splitL (l : List Cl) (t' : Int) : List Cl := sortC (splitM l t')
theorem splitB_cell {R C xr xc xd xg q : Int} {l : List Cl} {p : Nat} {tx : List Sg} (hx : l.getD p cl0 = (xr, xc, xd, xg, tx)) (hd : 1 ≤ xd) (hg : 1 ≤ xg) (ho : okB R C l = true) (hp : p < l.length) (hq : xd * xg = q) : splitB R C l p = decide (2 ≤ q) := by
  obtain ⟨d, rfl⟩ : ∃ d : Nat, xd = d := ⟨xd.toNat, by omega⟩
  obtain ⟨g, rfl⟩ : ∃ g : Nat, xg = g := ⟨xg.toNat, by omega⟩
  have h1 : decide (0 ≤ (p : Int) ∧ (p : Int) ≤ l.length - 1) = true := decide_eq_true (by omega)
  simp only [splitB, ho, h1, Bool.true_and, Int.toNat_natCast, hx]
  rw [decide_eq_decide, ← hq, ← Int.natCast_mul]
  omega
end Go.Proofs.Ytbigbbfbikhjdaa
namespace Go.Proofs.Ytbigbbfbikhjdaa
open Go.RowKit

theorem restL_mem {r c d g a b : Nat} : (a, b) ∈ restL r c d g ↔ (r ≤ a ∧ a < r + d ∧ c ≤ b ∧ b < c + g) ∧ ¬ (a = r ∧ b = c) := by
  unfold restL
  simp only [List.mem_filter, List.mem_flatMap, List.mem_map, List.mem_range, decide_eq_true_eq, Prod.mk.injEq]
  constructor
  · rintro ⟨⟨i, hi, j, hj, rfl, rfl⟩, h⟩
    omega
  · rintro ⟨h1, h2⟩
    exact ⟨⟨a - r, by omega, b - c, by omega, by omega, by omega⟩, by omega⟩
theorem restL_nodup (r c d g : Nat) : (restL r c d g).Pairwise (fun x y => x ≠ y) := by
  unfold restL
  refine List.Pairwise.filter _ ?_
  rw [List.pairwise_flatMap]
  refine ⟨fun i _ => ?_, ?_⟩
  · rw [List.pairwise_map]
    refine List.Pairwise.imp ?_ (List.nodup_range (n := g))
    intro x y hne e
    simp only [Prod.mk.injEq] at e
    exact hne (by omega)
  · refine List.Pairwise.imp ?_ (List.nodup_range (n := d))
    intro x y hne u hu v hv e
    obtain ⟨j, _, rfl⟩ := List.mem_map.1 hu
    obtain ⟨k, _, rfl⟩ := List.mem_map.1 hv
    simp only [Prod.mk.injEq] at e
    exact hne (by omega)
/-- The squares' numbers when a cell is split: its first square keeps its number, the others have none. -/
def spF (l : List Cl) (p r c d g : Nat) : Nat → Nat := giveF (giveF (numF l l.length) r c d g 0) r c 1 1 (p + 1)
section
variable {R C : Nat} {l : List Cl} {p r c d g : Nat} {tx : List Sg}
theorem spF_at (a b : Nat) (hb : b < 5) : spF l p r c d g (a * 5 + b) = if a = r ∧ b = c then p + 1 else if r ≤ a ∧ a < r + d ∧ c ≤ b ∧ b < c + g then 0 else numF l l.length (a * 5 + b) := by
  unfold spF giveF
  rw [show (a * 5 + b) / 5 = a by omega, show (a * 5 + b) % 5 = b by omega]
  by_cases h1 : a = r ∧ b = c
  · rw [if_pos (by omega), if_pos h1]
  · rw [if_neg (by omega), if_neg h1]
theorem spF_le (hp : p < l.length) (s : Nat) : spF l p r c d g s ≤ l.length := by
  unfold spF giveF
  have := numF_le l l.length s
  split
  · omega
  · split <;> omega
/-- The cells that are there when a cell is split, the new ones aside. -/
theorem sp_cell (hp : p < l.length) (e : l.getD p cl0 = ((r : Int), (c : Int), (d : Int), (g : Int), tx)) (m : Nat) : (l.set p (oneC (l.getD p cl0))).getD m cl0 = if m = p then ((r : Int), (c : Int), 1, 1, tx) else l.getD m cl0 := by
  by_cases h : m = p
  · rw [if_pos h, h, getD_setE _ _ _ _ hp, e]
    rfl
  · rw [if_neg h, getD_setN _ _ _ _ _ (Ne.symm h)]
theorem sp_iff (h : okB R C l = true) (hp : p < l.length) (e : l.getD p cl0 = ((r : Int), (c : Int), (d : Int), (g : Int), tx)) (m a b : Nat) (hm : m < l.length) (hb : b < C) :
    spF l p r c d g (a * 5 + b) = m + 1 ↔ inB ((l.set p (oneC (l.getD p cl0))).getD m cl0) a b = true := by
  obtain ⟨hR, hC, _, _⟩ := gridP_of_okB h
  obtain ⟨r', c', d', g', e', h1, h2, h3, h4⟩ := cell_nat h p hp
  rw [e] at e'
  simp only [Prod.mk.injEq] at e'
  obtain ⟨i1, i2, i3, i4, -⟩ := e'
  rw [spF_at a b (by omega), sp_cell hp e]
  have hn := num_iff h a b m hb
  have hpn := num_iff h a b p hb
  rw [e, inB_cell] at hpn
  by_cases hmp : m = p
  · rw [if_pos hmp]
    show _ ↔ inB ((r : Int), (c : Int), ((1 : Nat) : Int), ((1 : Nat) : Int), tx) a b = true
    rw [inB_cell]
    by_cases c1 : a = r ∧ b = c
    · rw [if_pos c1]; omega
    · rw [if_neg c1]
      by_cases c2 : r ≤ a ∧ a < r + d ∧ c ≤ b ∧ b < c + g
      · rw [if_pos c2]; omega
      · rw [if_neg c2, hmp]
        constructor
        · intro q
          exact absurd (hpn.1 q).2 c2
        · intro q
          exact absurd (show a = r ∧ b = c by omega) c1
  · rw [if_neg hmp]
    by_cases c2 : r ≤ a ∧ a < r + d ∧ c ≤ b ∧ b < c + g
    · have hq := hpn.2 ⟨hp, c2⟩
      have hno : ¬ inB (l.getD m cl0) a b = true := fun hi => by
        have := hn.2 ⟨hm, hi⟩
        omega
      by_cases c1 : a = r ∧ b = c
      · rw [if_pos c1]
        exact ⟨fun q => by omega, fun q => absurd q hno⟩
      · rw [if_neg c1, if_pos c2]
        exact ⟨fun q => by omega, fun q => absurd q hno⟩
    · rw [if_neg (by omega), if_neg c2, hn]
      exact ⟨fun q => q.2, fun q => ⟨hm, q⟩⟩
theorem sp_zero (h : okB R C l = true) (_ : p < l.length) (_ : l.getD p cl0 = ((r : Int), (c : Int), (d : Int), (g : Int), tx)) (a b : Nat) (ha : a < R) (hb : b < C) : spF l p r c d g (a * 5 + b) = 0 ↔ (a, b) ∈ restL r c d g := by
  obtain ⟨hR, hC, _, ht⟩ := gridP_of_okB h
  rw [spF_at a b (by omega), restL_mem]
  have h0 := (ht a b (by unfold vis; simp; omega)).1
  by_cases c1 : a = r ∧ b = c
  · rw [if_pos c1]; omega
  · rw [if_neg c1]
    by_cases c2 : r ≤ a ∧ a < r + d ∧ c ≤ b ∧ b < c + g
    · rw [if_pos c2]; exact ⟨fun _ => ⟨c2, c1⟩, fun _ => rfl⟩
    · rw [if_neg c2]
      exact ⟨fun q => by omega, fun q => absurd q.1 c2⟩
theorem sp_shape (h : okB R C l = true) (hp : p < l.length) (e : l.getD p cl0 = ((r : Int), (c : Int), (d : Int), (g : Int), tx)) (m : Nat) (hm : m < l.length) : ∃ (r' b' d' g' : Nat) (t : List Sg), (l.set p (oneC (l.getD p cl0))).getD m cl0 = ((r' : Int), (b' : Int), (d' : Int), (g' : Int), t) ∧ 1 ≤ d' ∧ 1 ≤ g' ∧ r' + d' ≤ R ∧ b' + g' ≤ C := by
  rw [sp_cell hp e]
  obtain ⟨r', c', d', g', e', h1, h2, h3, h4⟩ := cell_nat h m hm
  by_cases hmp : m = p
  · rw [if_pos hmp]
    subst hmp
    rw [e] at e'
    simp only [Prod.mk.injEq] at e'
    exact ⟨r, c, 1, 1, tx, rfl, Nat.le_refl _, Nat.le_refl _, by omega, by omega⟩
  · rw [if_neg hmp]
    exact ⟨r', c', d', g', _, e', h1, h2, h3, h4⟩
theorem sp_used (h : okB R C l = true) (hp : p < l.length) (e : l.getD p cl0 = ((r : Int), (c : Int), (d : Int), (g : Int), tx)) : ∀ k, 1 ≤ k → k ≤ l.length → ∃ s, s < 25 ∧ spF l p r c d g s = k := by
  obtain ⟨hR, hC, _, _⟩ := gridP_of_okB h
  intro k h1 h2
  obtain ⟨r', b', d', g', t, e2, q1, q2, q3, q4⟩ := sp_shape h hp e (k - 1) (by omega)
  refine ⟨r' * 5 + b', by omega, ?_⟩
  have := (sp_iff h hp e (k - 1) r' b' (by omega) (by omega)).2 (by rw [e2, inB_cell]; omega)
  omega
variable {f2 : Nat → Nat}
theorem sp_numC (h : okB R C l = true) (hp : p < l.length) (e : l.getD p cl0 = ((r : Int), (c : Int), (d : Int), (g : Int), tx)) (hF : FillP C (spF l p r c d g) l.length R f2) (m : Nat) (hm : m < l.length) : NumC R C f2 ((l.set p (oneC (l.getD p cl0))).getD m cl0) (m + 1) := by
  obtain ⟨r', b', d', g', t, e2, q1, q2, q3, q4⟩ := sp_shape h hp e m hm
  refine ⟨r', b', d', g', t, e2, q1, q2, q3, q4, fun a b ha hb => ?_⟩
  have key := sp_iff h hp e m a b hm hb
  rw [e2, inB_cell] at key
  rw [← key]
  obtain ⟨h6, h7, h8⟩ := hF
  have hv : vis R 0 C a b := by unfold vis; omega
  by_cases h0 : spF l p r c d g (a * 5 + b) = 0
  · have := h7 a b hv h0
    omega
  · rw [h6 a b hv h0]
theorem rest_numC (h : okB R C l = true) (hp : p < l.length) (e : l.getD p cl0 = ((r : Int), (c : Int), (d : Int), (g : Int), tx)) (hF : FillP C (spF l p r c d g) l.length R f2) (a b : Nat) (hab : (a, b) ∈ restL r c d g) (ha : a < R) (hb : b < C) : NumC R C f2 (sqC (a, b)) (f2 (a * 5 + b)) := by
  refine ⟨a, b, 1, 1, [], rfl, Nat.le_refl _, Nat.le_refl _, by omega, by omega, fun x y hx hy => ?_⟩
  obtain ⟨h6, h7, h8⟩ := hF
  have h0 := (sp_zero h hp e a b ha hb).2 hab
  constructor
  · intro q
    have := h8 a b x y (by unfold vis; omega) (by unfold vis; omega) h0 q.symm
    omega
  · intro hh
    obtain rfl : x = a := by omega
    obtain rfl : y = b := by omega
    rfl
theorem splitM_nat (e : l.getD p cl0 = ((r : Int), (c : Int), (d : Int), (g : Int), tx)) : splitM l p = l.set p (oneC (l.getD p cl0)) ++ (restL r c d g).map sqC := by
  unfold splitM
  rw [Int.toNat_natCast, e]
  simp only [Int.toNat_natCast]
theorem tiles_split (h : okB R C l = true) (hp : p < l.length) (e : l.getD p cl0 = ((r : Int), (c : Int), (d : Int), (g : Int), tx)) (hF : FillP C (spF l p r c d g) l.length R f2) : TilesM R C f2 (splitM l p) := by
  have hin : ∀ a b, (a, b) ∈ restL r c d g → a < R ∧ b < C := by
    intro a b hab
    rw [restL_mem] at hab
    obtain ⟨r', c', d', g', e', h1, h2, h3, h4⟩ := cell_nat h p hp
    rw [e] at e'
    simp only [Prod.mk.injEq] at e'
    omega
  rw [splitM_nat e]
  refine tilesM_of ?_ ?_ ?_
  · intro x hx
    rcases List.mem_append.1 hx with hx | hx
    · obtain ⟨m, hm, ee⟩ := List.getElem_of_mem hx
      rw [← getD_get hm] at ee
      subst ee
      exact ⟨m + 1, sp_numC h hp e hF m (by simpa using hm)⟩
    · obtain ⟨⟨a, b⟩, hab, rfl⟩ := List.mem_map.1 hx
      exact ⟨_, rest_numC h hp e hF a b hab (hin a b hab).1 (hin a b hab).2⟩
  · intro a b ha hb
    by_cases h0 : spF l p r c d g (a * 5 + b) = 0
    · refine ⟨sqC (a, b), List.mem_append.2 (.inr (List.mem_map.2 ⟨(a, b), (sp_zero h hp e a b ha hb).1 h0, rfl⟩)), ?_⟩
      simp [inB, sqC]
      omega
    · have hle := spF_le (r := r) (c := c) (d := d) (g := g) hp (a * 5 + b)
      obtain ⟨m, hm⟩ : ∃ m, spF l p r c d g (a * 5 + b) = m + 1 := ⟨_, (Nat.succ_pred h0).symm⟩
      have hml : m < l.length := by omega
      exact ⟨_, List.mem_append.2 (.inl (getD_mem (by simpa using hml))), (sp_iff h hp e m a b hml hb).1 hm⟩
  · rw [List.pairwise_append]
    refine ⟨?_, ?_, ?_⟩
    · rw [List.pairwise_iff_getElem]
      intro i k hi hk hik
      rw [← getD_get hi, ← getD_get hk]
      exact ⟨i + 1, k + 1, by omega, sp_numC h hp e hF i (by simpa using hi), sp_numC h hp e hF k (by simpa using hk)⟩
    · rw [List.pairwise_map]
      refine List.Pairwise.imp_of_mem ?_ (restL_nodup r c d g)
      rintro ⟨a, b⟩ ⟨a', b'⟩ hc hc' hne
      have q1 := hin a b hc
      have q2 := hin a' b' hc'
      refine ⟨_, _, ?_, rest_numC h hp e hF a b hc q1.1 q1.2, rest_numC h hp e hF a' b' hc' q2.1 q2.2⟩
      intro ee
      obtain ⟨h6, h7, h8⟩ := hF
      have := h8 a b a' b' (by unfold vis; omega) (by unfold vis; omega) ((sp_zero h hp e a b q1.1 q1.2).2 hc) ee
      exact hne (by rw [this.1, this.2])
    · intro x hx y hy
      obtain ⟨m, hm, ee⟩ := List.getElem_of_mem hx
      rw [← getD_get hm] at ee
      subst ee
      obtain ⟨⟨a, b⟩, hab, rfl⟩ := List.mem_map.1 hy
      have q1 := hin a b hab
      refine ⟨m + 1, _, ?_, sp_numC h hp e hF m (by simpa using hm), rest_numC h hp e hF a b hab q1.1 q1.2⟩
      obtain ⟨h6, h7, h8⟩ := hF
      have := h7 a b (by unfold vis; omega) ((sp_zero h hp e a b q1.1 q1.2).2 hab)
      simp only [List.length_set] at hm
      omega
end
end Go.Proofs.Ytbigbbfbikhjdaa
namespace Go.Proofs.Ytbigbbfbikhjdaa
open Go.RowKit

def rcEq (a b c d a' b' c' d' : Int) : Bool := decide (a = a' ∧ b = b' ∧ c = c' ∧ d = d')
theorem eqRct (a b c d a' b' c' d' : Int) (w : World) : (Op.equalIn 10000 62 (.agg #[.int .i64 a, .int .i64 b, .int .i64 c, .int .i64 d]) (.agg #[.int .i64 a', .int .i64 b', .int .i64 c', .int .i64 d'])).run Try.prog w = .ok (rcEq a b c d a' b' c' d') w := by
  have u3 := Try.underlying3
  have a3 := Try.isAgg3
  have z3 := Try.sizeOf3
  have hS : Try.prog.underlying 62 = some (.struct (Try.prog.fieldsOf 62)) := by kernel_rfl
  have hp : Try.prog.stoodInHeld 62 = false := by kernel_rfl
  rw [show (10000 : Nat) = 9999 + 1 from rfl, run_equalIn_agg w 9999 62 _ _ hS hp]
  simp only [Program.fieldsOf, Try.underlying62]
  go_simp
  by_cases h1 : a = a' <;> by_cases h2 : b = b' <;> by_cases h3 : c = c' <;> by_cases h4 : d = d' <;> simp [rcEq, h1, h2, h3, h4]
theorem eqRct_is {a b c d a' b' c' d' : Int} {x : Bool} (h : rcEq a b c d a' b' c' d' = x) (w : World) : (Op.equalIn 10000 62 (.agg #[.int .i64 a, .int .i64 b, .int .i64 c, .int .i64 d]) (.agg #[.int .i64 a', .int .i64 b', .int .i64 c', .int .i64 d'])).run Try.prog w = .ok x w := h ▸ eqRct a b c d a' b' c' d' w
theorem noGuardR : Try.prog.eqGuardType Try.prog.depth 62 = false := by kernel_rfl
theorem rec_info : (Try.prog.info? 62).map (·.size) = some 4 := by kernel_rfl
end Go.Proofs.Ytbigbbfbikhjdaa
namespace Go.Proofs.Ytbigbbfbikhjdaa
open Go.RowKit

set_option maxRecDepth 100000 in
set_option maxHeartbeats 8000000 in
theorem implTableSplit_any (R C t' : Int) (a : Option Addr) (n cap : Nat) (l : List Cl) (w : World) (h : Tab w a n cap l) :
    Calls Try.prog 26 #[.agg #[.int .i64 R, .int .i64 C, .slice a n cap], .int .i64 t'] w fun z w' => TabRes w.heap.size (splitB R C l t') R C (splitL l t') z w' ∧ Below w.heap.size w w' := by
  have H : Hid (Tab w a n cap l) := h
  clear h
  obtain ⟨ok, HX⟩ : ∃ x, Hid (okB R C l = x) := ⟨_, rfl⟩
  go_enter Try.func26, Try.ntmps26
  go_upto_region 1 with fail
  have B0 : Below w.heap.size w ((w.alloc (.cells #[.int .i64 R, .int .i64 C, .slice a n cap] 25)).alloc (.cells #[.int .i64 0, .int .i64 0, .slice none 0 0] 25)) := ((Below.refl _ _).alloc (Nat.le_refl _) _).alloc (by simp) _
  have G0 : RowAt ((w.alloc (.cells #[.int .i64 R, .int .i64 C, .slice a n cap] 25)).alloc (.cells #[.int .i64 0, .int .i64 0, .slice none 0 0] 25)) w.heap.size #[.int .i64 R, .int .i64 C, .slice a n cap] 25 := (rowAt_new w _ _).alloc _
  have G1 : RowAt ((w.alloc (.cells #[.int .i64 R, .int .i64 C, .slice a n cap] 25)).alloc (.cells #[.int .i64 0, .int .i64 0, .slice none 0 0] 25)) (w.heap.size + 1) #[.int .i64 0, .int .i64 0, .slice none 0 0] 25 := by
    have := rowAt_new (w.alloc (.cells #[.int .i64 R, .int .i64 C, .slice a n cap] 25)) #[.int .i64 0, .int .i64 0, .slice none 0 0] 25
    simpa using this
  have HT : Hid (Tab ((w.alloc (.cells #[.int .i64 R, .int .i64 C, .slice a n cap] 25)).alloc (.cells #[.int .i64 0, .int .i64 0, .slice none 0 0] 25)) a n cap l) := H.out.below B0
  generalize ((w.alloc (.cells #[.int .i64 R, .int .i64 C, .slice a n cap] 25)).alloc (.cells #[.int .i64 0, .int .i64 0, .slice none 0 0] 25)) = v at B0 G0 G1 HT ⊢
  have k0 : v.cell? ⟨w.heap.size, 0, none⟩ = some (.int .i64 R) := G0.cell 0
  have k1 : v.cell? ⟨w.heap.size, 1, none⟩ = some (.int .i64 C) := G0.cell 1
  have k2 : v.cell? ⟨w.heap.size, 2, none⟩ = some (.slice a n cap) := G0.cell 2
  have z0 := G0.lt
  have z1 := G1.lt
  have s0 := B0.size
  have HG0 : Hid (RowAt v w.heap.size #[.int .i64 R, .int .i64 C, .slice a n cap] 25) := G0
  have HG1 : Hid (RowAt v (w.heap.size + 1) #[.int .i64 0, .int .i64 0, .slice none 0 0] 25) := G1
  have HB0 : Hid (Below w.heap.size w v) := B0
  clear G0 G1 B0
  cases ok
  · go_upto_region 2 with (first | (go_at_call 34; refine (gridOf_is HX.out HT.out).mono ?_; rintro e w1 ⟨hres, hb1⟩; rcases hres.symm with ⟨hno, -⟩ | ⟨-, rfl⟩; exact absurd hno (by simp)) | (rw [← grid_zero]; refine wpList_store_row rfl 51 (.tmp 6) (.tmp 13) rfl w1.heap.size (gridA 0 0 0 (fun _ => 0) (fun _ => sl0)) rfl rfl 51 _ (gridAt_new _ _ _ _ _ _) (grid_infoA _ _ _ _ _) (by rw [gridA_size]) (gridA_one _ _ _ _ _) ?_))
    have s1 := hb1.size
    have B2 : Below v.heap.size v ((w1.alloc (.cells (gridA 0 0 0 (fun _ => 0) (fun _ => sl0)) 51)).setRow w1.heap.size (gridA 0 0 0 (fun _ => 0) (fun _ => sl0))) := below_row (hb1.alloc s1 _) s1 _
    generalize ((w1.alloc (.cells (gridA 0 0 0 (fun _ => 0) (fun _ => sl0)) 51)).setRow w1.heap.size (gridA 0 0 0 (fun _ => 0) (fun _ => sl0))) = v2 at B2 ⊢
    have HG2 : Hid (RowAt v2 (w.heap.size + 1) #[.int .i64 0, .int .i64 0, .slice none 0 0] 25) := HG1.out.below B2 z1
    have HNB : Hid (splitB R C l t' = false) := by
      show splitB R C l t' = false
      simp only [splitB, HX.out, Bool.false_and]
    clear k0 k1 k2
    go_wp2_with ((refine wpList_store_row rfl 25 (.tmp 4) (.tmp 28) rfl (w.heap.size + 1) #[.int .i64 0, .int .i64 0, .slice none 0 0] rfl rfl 25 _ HG2.out tab_info rfl (cells3_one _ _ _ _ _) ?_))
    refine bodyPost_ret (v := .tuple #[.agg #[.int .i64 0, .int .i64 0, .slice none 0 0], .bool false]) ?_ rfl ⟨.inl ⟨HNB.out, rfl⟩, below_row (HB0.out.trans (B2.mono s0)) (by omega) _⟩
    rw [results_cell_tmp rfl]
    simp [asAddr, Result.andThen, run_tabOf (RowAt.setRow HG2.out #[.int .i64 0, .int .i64 0, .slice none 0 0])]

  · obtain ⟨hR, hC, hst, -⟩ := gridP_of_okB HX.out
    obtain ⟨R, rfl⟩ : ∃ R' : Nat, R = R' := ⟨R.toNat, by omega⟩
    obtain ⟨C, rfl⟩ : ∃ C' : Nat, C = C' := ⟨C.toNat, by omega⟩
    have hn25 : l.length ≤ 25 := step_le (l := l) (K := l.length) (R := R) (C := C) (by omega) (by omega) hst
    have HST : Hid (∀ k, k < l.length → (l.getD k cl0).2.2.2.2.length ≤ 24) := fun k hk => by
      have := (stepB_of (hst k hk)).2.2
      simp only [textB, Bool.and_eq_true, decide_eq_true_eq] at this
      exact this.1
    clear hst
    go_upto_region 2 with (first | (go_at_call 34; refine (gridOf_is HX.out HT.out).mono ?_; rintro e w1 ⟨(⟨hno, -⟩ | ⟨-, t, rfl, ht1⟩), hb1⟩; exact absurd hno (by simp)) | (rw [← grid_zero]; refine wpList_store_row rfl 51 (.tmp 6) (.tmp 13) rfl w1.heap.size (gridA R C l.length (numF l l.length) t) rfl rfl 51 _ (gridAt_new _ _ _ _ _ _) (grid_infoA _ _ _ _ _) (by rw [gridA_size, gridA_size]) (gridA_one _ _ _ _ _) ?_))
    have s1 := hb1.size
    have B2 : Below v.heap.size v ((w1.alloc (.cells (gridA 0 0 0 (fun _ => 0) (fun _ => sl0)) 51)).setRow w1.heap.size (gridA R C l.length (numF l l.length) t)) := below_row (hb1.alloc s1 _) s1 _
    have B3 : Below w1.heap.size w1 ((w1.alloc (.cells (gridA 0 0 0 (fun _ => 0) (fun _ => sl0)) 51)).setRow w1.heap.size (gridA R C l.length (numF l l.length) t)) := below_row ((Below.refl _ _).alloc (Nat.le_refl _) _) (Nat.le_refl _) _
    have HG : Hid (GridAt ((w1.alloc (.cells (gridA 0 0 0 (fun _ => 0) (fun _ => sl0)) 51)).setRow w1.heap.size (gridA R C l.length (numF l l.length) t)) w1.heap.size R C l.length (numF l l.length) t) := RowAt.setRow (gridAt_new _ _ _ _ _ _) _
    generalize ((w1.alloc (.cells (gridA 0 0 0 (fun _ => 0) (fun _ => sl0)) 51)).setRow w1.heap.size (gridA R C l.length (numF l l.length) t)) = v2 at B2 B3 HG ⊢
    have HTx : Hid (∀ i, i < l.length → Txt v2 (t (i + 1)).1 (t (i + 1)).2.1 (t (i + 1)).2.2 (l.getD i cl0).2.2.2.2) := fun i hi => (ht1 i hi).below B3
    have HG2 : Hid (RowAt v2 (w.heap.size + 1) #[.int .i64 0, .int .i64 0, .slice none 0 0] 25) := HG1.out.below B2 z1
    have s2 := B2.size
    have q2 : v2.cell? ⟨w.heap.size, 2, none⟩ = some (.slice a n cap) := (HG0.out.below B2 z0).cell 2
    clear k0 k1 k2 ht1 hb1 B3
    obtain ⟨N, HN⟩ : ∃ N, Hid (l.length = N) := ⟨_, rfl⟩
    obtain ⟨f, HF⟩ : ∃ f, Hid (numF l l.length = f) := ⟨_, rfl⟩
    rw [HF.out] at HG
    rw [HN.out] at HG hn25
    have HNl : Hid (n = l.length) := H.out.1
    have hncap := H.out.2.1
    have hcapm := H.out.2.2.1
    unfold maxLen at hcapm
    by_cases ht0 : t' < 0
    · have HNB : Hid (splitB R C l t' = false) := by
        show splitB R C l t' = false
        simp only [splitB, Bool.and_eq_false_iff, decide_eq_false_iff_not]
        omega
      go_wp2_with (refine wpList_store_row rfl 25 (.tmp 4) (.tmp 28) rfl (w.heap.size + 1) #[.int .i64 0, .int .i64 0, .slice none 0 0] rfl rfl 25 _ HG2.out tab_info rfl (cells3_one _ _ _ _ _) ?_)
      refine bodyPost_ret (v := .tuple #[.agg #[.int .i64 0, .int .i64 0, .slice none 0 0], .bool false]) ?_ rfl ⟨.inl ⟨HNB.out, rfl⟩, below_row (HB0.out.trans (B2.mono s0)) (by omega) _⟩
      rw [results_cell_tmp rfl]
      simp [asAddr, Result.andThen, run_tabOf (RowAt.setRow HG2.out #[.int .i64 0, .int .i64 0, .slice none 0 0])]
    by_cases ht1 : (n : Int) ≤ t'
    · have HNB : Hid (splitB R C l t' = false) := by
        show splitB R C l t' = false
        have := HNl.out
        simp only [splitB, Bool.and_eq_false_iff, decide_eq_false_iff_not]
        omega
      go_wp2_with (refine wpList_store_row rfl 25 (.tmp 4) (.tmp 28) rfl (w.heap.size + 1) #[.int .i64 0, .int .i64 0, .slice none 0 0] rfl rfl 25 _ HG2.out tab_info rfl (cells3_one _ _ _ _ _) ?_)
      refine bodyPost_ret (v := .tuple #[.agg #[.int .i64 0, .int .i64 0, .slice none 0 0], .bool false]) ?_ rfl ⟨.inl ⟨HNB.out, rfl⟩, below_row (HB0.out.trans (B2.mono s0)) (by omega) _⟩
      rw [results_cell_tmp rfl]
      simp [asAddr, Result.andThen, run_tabOf (RowAt.setRow HG2.out #[.int .i64 0, .int .i64 0, .slice none 0 0])]
    obtain ⟨p, rfl⟩ : ∃ p : Nat, t' = p := ⟨t'.toNat, by omega⟩
    have hpn : p < n := by omega
    have hpl : p < l.length := by have := HNl.out; omega
    have hpN : p < N := by have := HN.out; omega
    have bp0 : (0 : Int) ≤ (p : Int) := by omega
    have bp1 : (p : Int) < (n : Int) := by omega
    rcases (HT.out.below B2).2.2.2 with e | ⟨b, off, rfl, hbv, hcl⟩
    · rw [e] at hpl
      exact absurd hpl (by simp)
    obtain ⟨x0, x1, x2, x3, ta, tn, tc, x4, -⟩ := hcl p hpl
    obtain ⟨xr, xc, xd, xg, hx, u1, u2, u3, u4⟩ := cell_nat HX.out p hpl
    obtain ⟨tx, htx⟩ : ∃ tx, (l.getD p cl0).2.2.2.2 = tx := ⟨_, rfl⟩
    rw [htx] at hx
    rw [hx] at x0 x1 x2 x3
    simp only at x0 x1 x2 x3
    have HXr : Hid (l.getD p cl0 = ((xr : Int), (xc : Int), (xd : Int), (xg : Int), tx)) := hx
    have HB2 : Hid (Below v.heap.size v v2) := B2
    clear hx htx hcl B2
    go_upto_region 5 with (go_at_call 43; refine (rectOf_any _ _ _ _ _ _ _ _).mono ?_; rintro e w3 ⟨rfl, hb3⟩)
    have s3 := hb3.size
    have B4 : Below v2.heap.size v2 ((w3.alloc (.cells #[.int .i64 xr, .int .i64 xc, .int .i64 xd, .int .i64 xg] 62)).alloc (.cells #[.int .i64 xr, .int .i64 xc, .int .i64 1, .int .i64 1] 62)) := (hb3.alloc s3 _).alloc (by simp; omega) _
    have RA : RowAt ((w3.alloc (.cells #[.int .i64 xr, .int .i64 xc, .int .i64 xd, .int .i64 xg] 62)).alloc (.cells #[.int .i64 xr, .int .i64 xc, .int .i64 1, .int .i64 1] 62)) w3.heap.size #[.int .i64 xr, .int .i64 xc, .int .i64 xd, .int .i64 xg] 62 := (rowAt_new w3 _ _).alloc _
    have RB : RowAt ((w3.alloc (.cells #[.int .i64 xr, .int .i64 xc, .int .i64 xd, .int .i64 xg] 62)).alloc (.cells #[.int .i64 xr, .int .i64 xc, .int .i64 1, .int .i64 1] 62)) (w3.heap.size + 1) #[.int .i64 xr, .int .i64 xc, .int .i64 1, .int .i64 1] 62 := by
      have := rowAt_new (w3.alloc (.cells #[.int .i64 xr, .int .i64 xc, .int .i64 xd, .int .i64 xg] 62)) #[.int .i64 xr, .int .i64 xc, .int .i64 1, .int .i64 1] 62
      simpa using this
    go_upto_region 6 with fail
    clear x0 x1 x2 x3 x4 q2
    generalize ((w3.alloc (.cells #[.int .i64 xr, .int .i64 xc, .int .i64 xd, .int .i64 xg] 62)).alloc (.cells #[.int .i64 xr, .int .i64 xc, .int .i64 1, .int .i64 1] 62)) = v4 at B4 RA RB ⊢
    have s4 := B4.size
    have HG4 : Hid (GridAt v4 w1.heap.size R C N f t) := HG.out.below B4 HG.out.lt
    have HZ4 : Hid (RowAt v4 (w.heap.size + 1) #[.int .i64 0, .int .i64 0, .slice none 0 0] 25) := HG2.out.below B4 (by omega)
    have HB4 : Hid (Below v2.heap.size v2 v4) := B4
    have HRA : Hid (RowAt v4 w3.heap.size #[.int .i64 xr, .int .i64 xc, .int .i64 xd, .int .i64 xg] 62) := RA
    have HRB : Hid (RowAt v4 (w3.heap.size + 1) #[.int .i64 xr, .int .i64 xc, .int .i64 1, .int .i64 1] 62) := RB
    have hng := noGuardR
    have hs3 : v2.heap.size ≤ w3.heap.size := by simpa using s3
    clear RA RB B4 hb3
    obtain ⟨eq, HE⟩ : ∃ x, Hid (rcEq xr xc xd xg xr xc 1 1 = x) := ⟨_, rfl⟩
    cases eq
    case true =>
      have hq := fun w => eqRct_is HE.out w
      have hdg : xd = 1 ∧ xg = 1 := by
        have := of_decide_eq_true HE.out
        omega
      have HNB : Hid (splitB R C l p = false) := by
        show splitB R C l p = false
        rw [splitB_cell HXr.out (by omega) (by omega) HX.out hpl rfl, hdg.1, hdg.2]
        rfl
      clear hdg
      go_wp2_with (first | (refine wpList_load_row rfl 62 (.tmp 8) rfl w3.heap.size rfl 62 #[.int .i64 xr, .int .i64 xc, .int .i64 xd, .int .i64 xg] (0, 0) _ HRA.out Try.underlying62 rfl rec_info ?_) | (refine wpList_load_row rfl 62 (.tmp 9) rfl (w3.heap.size + 1) rfl 62 #[.int .i64 xr, .int .i64 xc, .int .i64 1, .int .i64 1] (0, 0) _ HRB.out Try.underlying62 rfl rec_info ?_) | (refine wpList_store_row rfl 25 (.tmp 4) (.tmp 43) rfl (w.heap.size + 1) #[.int .i64 0, .int .i64 0, .slice none 0 0] rfl rfl 25 _ HZ4.out tab_info rfl (cells3_one _ _ _ _ _) ?_))
      refine bodyPost_ret (v := .tuple #[.agg #[.int .i64 0, .int .i64 0, .slice none 0 0], .bool false]) ?_ rfl ⟨.inl ⟨HNB.out, rfl⟩, below_row ((HB0.out.trans (HB2.out.mono s0)).trans (HB4.out.mono (by omega))) (by omega) _⟩
      rw [results_cell_tmp rfl]
      simp [asAddr, Result.andThen, run_tabOf (RowAt.setRow HZ4.out #[.int .i64 0, .int .i64 0, .slice none 0 0])]
    have hq := fun w => eqRct_is HE.out w
    have HYB : Hid (splitB R C l p = true) := by
      show splitB R C l p = true
      have hdg : ¬ (xd = 1 ∧ xg = 1) := fun e => by
        have := of_decide_eq_false HE.out
        omega
      rw [splitB_cell HXr.out (by omega) (by omega) HX.out hpl rfl]
      refine decide_eq_true ?_
      rw [← Int.natCast_mul]
      have : 2 ≤ xd * xg := by
        rcases (show 2 ≤ xd ∨ 2 ≤ xg by omega) with h | h
        · exact Nat.mul_le_mul h u2
        · exact Nat.le_trans (by omega) (Nat.mul_le_mul u1 h)
      omega
    go_upto_region 8 with (first | (refine wpList_load_row rfl 62 (.tmp 8) rfl w3.heap.size rfl 62 #[.int .i64 xr, .int .i64 xc, .int .i64 xd, .int .i64 xg] (0, 0) _ HRA.out Try.underlying62 rfl rec_info ?_) | (refine wpList_load_row rfl 62 (.tmp 9) rfl (w3.heap.size + 1) rfl 62 #[.int .i64 xr, .int .i64 xc, .int .i64 1, .int .i64 1] (0, 0) _ HRB.out Try.underlying62 rfl rec_info ?_))
    clear hq hng
    refine wp_region_noPanic ?_
    refine wp_region_held_drew (S := fun w' => GridAt w' w1.heap.size R C N f t ∧ RowAt w' w3.heap.size #[.int .i64 xr, .int .i64 xc, .int .i64 xd, .int .i64 xg] 62 ∧ RowAt w' (w3.heap.size + 1) #[.int .i64 xr, .int .i64 xc, .int .i64 1, .int .i64 1] 62) (by kernel_rfl) ⟨HG4.out, HRA.out, HRB.out⟩ (fun hHeld => ?_)
    refine take_at 0 44 (.agg (gridA R C N f t)) rfl rfl (by kernel_rfl) (by kernel_rfl) (by kernel_rfl) (fun _ _ _ h => h) (yieldsIf_load_row (by kernel_rfl) 51 (.tmp 6) rfl w1.heap.size rfl 51 (gridA R C N f t) (0, 0) _ (fun w' h => h.1) Try.underlying51 rfl (grid_infoA _ _ _ _ _)) hHeld ?_
    (try simp only [Act.put, List.setIfInBounds_toArray, List.set_cons_zero, List.set_cons_succ])
    refine take_at 1 45 (.agg #[.int .i64 xr, .int .i64 xc, .int .i64 xd, .int .i64 xg]) rfl rfl (by kernel_rfl) (by kernel_rfl) (by kernel_rfl) (fun _ _ _ h => h) (yieldsIf_load_row (by kernel_rfl) 62 (.tmp 8) rfl w3.heap.size rfl 62 #[.int .i64 xr, .int .i64 xc, .int .i64 xd, .int .i64 xg] (0, 0) _ (fun w' h => h.2.1) Try.underlying62 rfl rec_info) hHeld ?_
    (try simp only [Act.put, List.setIfInBounds_toArray, List.set_cons_zero, List.set_cons_succ])
    refine take_at 3 47 (.agg #[.int .i64 xr, .int .i64 xc, .int .i64 1, .int .i64 1]) rfl rfl (by kernel_rfl) (by kernel_rfl) (by kernel_rfl) (fun _ _ _ h => h) (yieldsIf_load_row (by kernel_rfl) 62 (.tmp 9) rfl (w3.heap.size + 1) rfl 62 #[.int .i64 xr, .int .i64 xc, .int .i64 1, .int .i64 1] (0, 0) _ (fun w' h => h.2.2) Try.underlying62 rfl rec_info) hHeld ?_
    (try simp only [Act.put, List.setIfInBounds_toArray, List.set_cons_zero, List.set_cons_succ])
    refine take_at 4 48 (.int .i64 p) rfl rfl (by kernel_rfl) (by kernel_rfl) (by kernel_rfl) (fun _ _ _ h => h) (Or.inl ⟨by kernel_rfl, fun w' hS' => by go_simp⟩) hHeld ?_
    (try simp only [Act.put, List.setIfInBounds_toArray, List.set_cons_zero, List.set_cons_succ])
    refine take_at 5 49 (.int .i64 ((p + 1 : Nat) : Int)) rfl rfl (by kernel_rfl) (by kernel_rfl) (by kernel_rfl) (fun _ _ _ h => h) (Or.inl ⟨by kernel_rfl, fun w' hS' => by go_simp; rw [IntKind.wrap_i64]; omega⟩) hHeld ?_
    (try simp only [Act.put, List.setIfInBounds_toArray, List.set_cons_zero, List.set_cons_succ])
    obtain ⟨v5, hv5⟩ : ∃ x, v4.drew = x := ⟨_, rfl⟩
    have HB5 : Hid (Below v2.heap.size v2 v5) := by rw [← hv5]; exact HB4.out.drew
    have HZ5 : Hid (RowAt v5 (w.heap.size + 1) #[.int .i64 0, .int .i64 0, .slice none 0 0] 25) := by rw [← hv5]; exact HZ4.out
    rw [hv5] at hHeld ⊢
    have c1 := hHeld.1.lt
    have c2 := hHeld.2.1.lt
    have c3 := hHeld.2.2.lt
    clear hv5
    refine wpAnyH_ready (rs := [2]) (by kernel_rfl) (by simp) ?_
    refine AllReadyH.cons rfl (fun K hK => ?_) AllReadyH.nil
    go_simp
    go_at_call 44
    refine (give_any R C N f t xr xc xd xg 0 _ (by omega) (by omega)).mono ?_
    rintro e w6 ⟨rfl, hb6⟩
    go_wp2_with fail
    refine hK.out _ _ ⟨hHeld.1.below hb6 c1, hHeld.2.1.below hb6 c2, hHeld.2.2.below hb6 c3⟩ (fun hHeld => ?_)
    clear hK K
    (try simp only [Act.put, List.setIfInBounds_toArray, List.set_cons_zero, List.set_cons_succ])
    have s6 := hb6.size
    refine wpAnyH_ready (rs := [6]) (by kernel_rfl) (by simp) ?_
    refine AllReadyH.cons rfl (fun K hK => ?_) AllReadyH.nil
    go_simp
    go_at_call 44
    refine (give_any R C N (giveF f xr xc xd xg 0) t xr xc 1 1 (p + 1) _ (by omega) (by omega)).mono ?_
    rintro e w7 ⟨rfl, hb7⟩
    go_wp2_with fail
    refine hK.out _ _ ⟨hHeld.1.below hb7 (by omega), hHeld.2.1.below hb7 (by omega), hHeld.2.2.below hb7 (by omega)⟩ (fun hHeld => ?_)
    clear hK K
    (try simp only [Act.put, List.setIfInBounds_toArray, List.set_cons_zero, List.set_cons_succ])
    have s7 := hb7.size
    have HFE : Hid (giveF (giveF f xr xc xd xg 0) xr xc 1 1 (p + 1) = spF l p xr xc xd xg) := by
      show _ = _
      rw [← HF.out]
      rfl
    rw [HFE.out]
    have HFL : Hid (∀ s, spF l p xr xc xd xg s ≤ N) := fun s => by rw [← HN.out]; exact spF_le hpl s
    have HFU : Hid (∀ k, 1 ≤ k → k ≤ N → ∃ s, s < 25 ∧ spF l p xr xc xd xg s = k) := by
      show ∀ k, 1 ≤ k → k ≤ N → ∃ s, s < 25 ∧ spF l p xr xc xd xg s = k
      rw [← HN.out]
      exact sp_used HX.out hpl HXr.out
    refine wpAnyH_ready (rs := [7]) (by kernel_rfl) (by simp) ?_
    refine AllReadyH.cons rfl (fun K hK => ?_) AllReadyH.nil
    go_simp
    go_at_call 37
    refine (fillUp_any R C N (spF l p xr xc xd xg) t _ (by omega) (by omega) hn25 HFL.out HFU.out).mono ?_
    rintro e w8 ⟨⟨f2, t2, n2, rfl, hF2⟩, hb8⟩
    go_wp2_with fail
    refine hK.out _ _ ⟨hHeld.1.below hb8 (by omega), hHeld.2.1.below hb8 (by omega), hHeld.2.2.below hb8 (by omega)⟩ (fun hHeld => ?_)
    clear hK K
    (try simp only [Act.put, List.setIfInBounds_toArray, List.set_cons_zero, List.set_cons_succ])
    have s8 := hb8.size
    have hF3 : Filled C (spF l p xr xc xd xg) t l.length R 0 f2 t2 n2 := by rw [HN.out]; exact hF2
    have hFP := hF3.fillP
    have htl := tiles_split HX.out hpl HXr.out hFP
    have hrep : Rep R C f2 (splitL l p) := rep_sort htl
    have hlen2 : (splitL l p).length ≤ 25 := by
      show (sortC (splitM l p)).length ≤ 25
      rw [(sortC_perm _).length_eq]
      exact htl.few (by omega) (by omega)
    have hle : ∀ k, f2 k ≤ 25 := fun k => Nat.le_trans (hF2.2.2.1 k) hF2.2.1
    have ht : ∀ k, k < (splitL l p).length → Txt w8 (t2 (f2 (stR ((splitL l p).getD k cl0) * 5 + stC ((splitL l p).getD k cl0)))).1 (t2 (f2 (stR ((splitL l p).getD k cl0) * 5 + stC ((splitL l p).getD k cl0)))).2.1 (t2 (f2 (stR ((splitL l p).getD k cl0) * 5 + stC ((splitL l p).getD k cl0)))).2.2 ((splitL l p).getD k cl0).2.2.2.2 ∧ ((splitL l p).getD k cl0).2.2.2.2.length ≤ 1048576 := by
      intro k hk
      have hmem := (sortC_perm (splitM l p)).mem_iff.1 (getD_mem hk)
      obtain ⟨y, hy⟩ : ∃ y, (splitL l p).getD k cl0 = y := ⟨_, rfl⟩
      have hmem' : y ∈ splitM l p := by rw [← hy]; exact hmem
      rw [splitM_nat HXr.out] at hmem'
      rw [hy]
      clear hmem
      rcases List.mem_append.1 hmem' with hx | hx
      · obtain ⟨m, hm, e'⟩ := List.getElem_of_mem hx
        rw [← getD_get hm] at e'
        have hml : m < l.length := by simpa using hm
        have e2 := (sp_numC HX.out hpl HXr.out hFP m hml).start
        have e3 : y.2.2.2.2 = (l.getD m cl0).2.2.2.2 := by
          rw [← e', sp_cell hpl HXr.out]
          split
          · rename_i hmp
            rw [hmp, HXr.out]
          · rfl
        rw [e'] at e2
        have hmN : m + 1 ≤ N := by have := HN.out; omega
        rw [e3, e2, hF2.2.2.2.1 (m + 1) hmN]
        have hL := HST.out m hml
        exact ⟨((((HTx.out m hml).below HB5.out).below hb6).below hb7).below hb8, by omega⟩
      · obtain ⟨⟨a, b⟩, hab, e⟩ := List.mem_map.1 hx
        rw [← e]
        simp only [stR, stC, sqC, Int.toNat_natCast]
        have hin := restL_mem.1 hab
        have h0 := (sp_zero HX.out hpl HXr.out a b (by omega) (by omega)).2 hab
        have := (hF3.2.2.2.2.2.2.1 a b (by unfold vis; omega) h0).2
        rw [this]
        exact ⟨⟨rfl, Nat.le_refl _, Nat.zero_le _, .inl rfl⟩, by simp⟩
    refine wpAnyH_ready (rs := [8]) (by kernel_rfl) (by simp) ?_
    refine AllReadyH.cons rfl (fun K hK => ?_) AllReadyH.nil
    go_simp
    go_at_call 38
    refine (table_any R C n2 f2 t2 (splitL l p) _ (by omega) (by omega) hle hrep hlen2 ht).mono ?_
    rintro e w9 ⟨⟨a', c', rs, rfl, hO⟩, hb9⟩
    go_wp2_with fail
    refine hK.out _ _ ⟨hHeld.1.below hb9 (by omega), hHeld.2.1.below hb9 (by omega), hHeld.2.2.below hb9 (by omega)⟩ (fun hHeld => ?_)
    clear hK K
    (try simp only [Act.put, List.setIfInBounds_toArray, List.set_cons_zero, List.set_cons_succ])
    have s9 := hb9.size
    have HZ9 : Hid (RowAt w9 (w.heap.size + 1) #[.int .i64 0, .int .i64 0, .slice none 0 0] 25) := (((HZ5.out.below hb6 (by omega)).below hb7 (by omega)).below hb8 (by omega)).below hb9 (by omega)
    have HO : Hid (OwnT w9 w8.heap.size (.slice a' (splitL l p).length c') rs (splitL l p)) := hO
    obtain ⟨M, HM⟩ : ∃ M, Hid ((splitL l p).length = M) := ⟨_, rfl⟩
    rw [HM.out]
    rw [HM.out] at HO
    have bF : Below w.heap.size w w9 := (((((HB0.out.trans (HB2.out.mono s0)).trans (HB5.out.mono (by omega))).trans (hb6.mono (by omega))).trans (hb7.mono (by omega))).trans (hb8.mono (by omega))).trans (hb9.mono (by omega))
    have HBF : Hid (Below w.heap.size w w9) := bF
    clear hO hrep ht hlen2 hle hF2 hF3 hFP htl bF
    refine wpAnyH_ready (rs := [9]) (by kernel_rfl) (by simp) ?_
    refine AllReadyH.cons rfl (fun K hK => ?_) AllReadyH.nil
    rw [if_pos (by kernel_rfl)]
    refine wp_store_row 25 (.tmp 4) (.tmp 52) rfl (w.heap.size + 1) #[.int .i64 R, .int .i64 C, .slice a' M c'] rfl rfl 25 _ HZ9.out tab_info rfl (cells3_one _ _ _ _ _) ?_
    have HZF : Hid (RowAt (w9.setRow (w.heap.size + 1) #[.int .i64 R, .int .i64 C, .slice a' M c']) (w.heap.size + 1) #[.int .i64 R, .int .i64 C, .slice a' M c'] 25) := HZ9.out.setRow _
    have HOF : Hid (OwnT (w9.setRow (w.heap.size + 1) #[.int .i64 R, .int .i64 C, .slice a' M c']) w8.heap.size (.slice a' M c') rs (splitL l p)) := ⟨own_row HO.out.1 _ _ (fun e => by have := (own_lt HO.out.1.row e).1; omega), HO.out.2.rowLow _ _ (by omega)⟩
    have HBG : Hid (Below w.heap.size w (w9.setRow (w.heap.size + 1) #[.int .i64 R, .int .i64 C, .slice a' M c'])) := below_row HBF.out (by omega) _
    refine hK.out _ _ ⟨RowAt.setRowOther hHeld.1 _ _ (by omega), RowAt.setRowOther hHeld.2.1 _ _ (by omega), RowAt.setRowOther hHeld.2.2 _ _ (by omega)⟩ (fun hHeld => ?_)
    clear hK K
    simp only [Act.put]
    generalize (w9.setRow (w.heap.size + 1) #[.int .i64 R, .int .i64 C, .slice a' M c']) = w10 at HZF HOF HBG hHeld ⊢
    refine take_at 10 5 (.bool true) rfl rfl (by kernel_rfl) (by kernel_rfl) (by kernel_rfl) (fun _ _ _ h => h) (Or.inl ⟨by kernel_rfl, fun w' hS' => by go_simp⟩) hHeld ?_
    (try simp only [Act.put, List.setIfInBounds_toArray])
    refine wpAnyH_done (by kernel_rfl) ?_ _
    refine NoPanic.normal ?_
    go_wp2_with fail
    refine bodyPost_ret (v := .tuple #[.agg #[.int .i64 R, .int .i64 C, .slice a' M c'], .bool true]) ?_ rfl ⟨.inr ⟨HYB.out, a', c', rs, ?_, ?_⟩, HBG.out⟩
    · rw [results_cell_tmp rfl]
      simp [asAddr, Result.andThen, run_tabOf HZF.out]
    · rw [HM.out]
    · rw [HM.out]
      exact OwnT.less HOF.out (by omega)
end Go.Proofs.Ytbigbbfbikhjdaa
