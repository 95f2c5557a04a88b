import Derived.Test.YtpgldodnnlcceaaBA1
import Derived.Test.YtpgldodnnlcceaaBA2
import Derived.Test.YtpgldodnnlcceaaBD1
import Derived.Test.YtpgldodnnlcceaaBQ1
import Derived.Lib.BitFns
namespace Go.Proofs.Ytpgldodnnlcceaa
open Go.RowKit

/-- All squares of a cell but its first. -/
def restL (r c d g : Nat) : List (Nat × Nat) := ((List.range d).flatMap (fun a => (List.range g).map (fun b => (r + a, c + b)))).filter (fun p => decide (p.1 ≠ r ∨ p.2 ≠ c))
/-- The rows of the first k whole rows of squares, and j squares of the next one, without the first. -/
def restK (r c g k j : Nat) : List (Nat × Nat) := (((List.range k).flatMap (fun a => (List.range g).map (fun b => (r + a, c + b)))) ++ (List.range j).map (fun b => (r + k, c + b))).filter (fun p => decide (p.1 ≠ r ∨ p.2 ≠ c))
theorem restK_row (r c g k : Nat) : restK r c g k g = restK r c g (k + 1) 0 := by
  unfold restK
  rw [List.range_succ, List.flatMap_append]
  simp
theorem restK_end (r c d g : Nat) : restK r c g d 0 = restL r c d g := by
  unfold restK restL
  simp
theorem restK_put (r c g k j : Nat) (h : r + k ≠ r ∨ c + j ≠ c) : restK r c g k (j + 1) = restK r c g k j ++ [(r + k, c + j)] := by
  unfold restK
  rw [List.range_succ, List.map_append, ← List.append_assoc, List.filter_append]
  congr 1
  simp only [List.map_cons, List.map_nil, List.filter_cons, List.filter_nil]
  rw [if_pos (decide_eq_true h)]
theorem restK_skip (r c g k j : Nat) (h : ¬ (r + k ≠ r ∨ c + j ≠ c)) : restK r c g k (j + 1) = restK r c g k j := by
  unfold restK
  rw [List.range_succ, List.map_append, ← List.append_assoc, List.filter_append]
  simp only [List.map_cons, List.map_nil, List.filter_cons, List.filter_nil]
  rw [decide_eq_false h]
  simp
theorem restK_len (r c g k j : Nat) : (restK r c g k j).length ≤ k * g + j := by
  unfold restK
  refine Nat.le_trans (List.length_filter_le _ _) ?_
  rw [List.length_append, List.length_flatMap]
  have hc : ∀ k : Nat, ((List.range k).map (fun _ => g)).sum = k * g := by
    intro k
    induction k with
    | zero => simp
    | succ k ih =>
      rw [List.range_succ, List.map_append, List.sum_append, ih]
      simp [Nat.succ_mul]
  simp only [List.length_map, List.length_range, hc]
  omega
def sqC (p : Nat × Nat) : Cl := ((p.1 : Int), (p.2 : Int), 1, 1, [])
def sqR (p : Nat × Nat) : Rw := ((p.1 : Int), (p.2 : Int), 1, 1, none, 0, 0)
/-- A cell of one square that keeps its text. -/
def oneC (x : Cl) : Cl := (x.1, x.2.1, 1, 1, x.2.2.2.2)
def splitB (R C : Int) (l : List Cl) (t' : Int) : Bool := okB R C l && decide (0 ≤ t' ∧ t' ≤ l.length - 1) && decide (2 ≤ (l.getD t'.toNat cl0).2.2.1.toNat * (l.getD t'.toNat cl0).2.2.2.1.toNat)
def splitM (l : List Cl) (t' : Int) : List Cl := l.set t'.toNat (oneC (l.getD t'.toNat cl0)) ++ (restL (l.getD t'.toNat cl0).1.toNat (l.getD t'.toNat cl0).2.1.toNat (l.getD t'.toNat cl0).2.2.1.toNat (l.getD t'.toNat cl0).2.2.2.1.toNat).map sqC
def splitL (l : List Cl) (t' : Int) : List Cl := sortC (splitM l t')
theorem splitB_cell {R C xr xc xd xg q : Int} {l : List Cl} {p : Nat} {tx : List Sg} (hx : l.getD p cl0 = (xr, xc, xd, xg, tx)) (hd : 1 ≤ xd) (hg : 1 ≤ xg) (ho : okB R C l = true) (hp : p < l.length) (hq : xd * xg = q) : splitB R C l p = decide (2 ≤ q) := by
  obtain ⟨d, rfl⟩ : ∃ d : Nat, xd = d := ⟨xd.toNat, by omega⟩
  obtain ⟨g, rfl⟩ : ∃ g : Nat, xg = g := ⟨xg.toNat, by omega⟩
  have h1 : decide (0 ≤ (p : Int) ∧ (p : Int) ≤ l.length - 1) = true := decide_eq_true (by omega)
  simp only [splitB, ho, h1, Bool.true_and, Int.toNat_natCast, hx]
  rw [decide_eq_decide, ← hq, ← Int.natCast_mul]
  omega
end Go.Proofs.Ytpgldodnnlcceaa
namespace Go.Proofs.Ytpgldodnnlcceaa
open Go.RowKit

theorem restL_mem {r c d g a b : Nat} : (a, b) ∈ restL r c d g ↔ (r ≤ a ∧ a < r + d ∧ c ≤ b ∧ b < c + g) ∧ ¬ (a = r ∧ b = c) := by
  unfold restL
  simp only [List.mem_filter, List.mem_flatMap, List.mem_map, List.mem_range, decide_eq_true_eq, Prod.mk.injEq]
  constructor
  · rintro ⟨⟨i, hi, j, hj, rfl, rfl⟩, h⟩
    omega
  · rintro ⟨h1, h2⟩
    exact ⟨⟨a - r, by omega, b - c, by omega, by omega, by omega⟩, by omega⟩
theorem restL_nodup (r c d g : Nat) : (restL r c d g).Pairwise (fun x y => x ≠ y) := by
  unfold restL
  refine List.Pairwise.filter _ ?_
  rw [List.pairwise_flatMap]
  refine ⟨fun i _ => ?_, ?_⟩
  · rw [List.pairwise_map]
    refine List.Pairwise.imp ?_ (List.nodup_range (n := g))
    intro x y hne e
    simp only [Prod.mk.injEq] at e
    exact hne (by omega)
  · refine List.Pairwise.imp ?_ (List.nodup_range (n := d))
    intro x y hne u hu v hv e
    obtain ⟨j, _, rfl⟩ := List.mem_map.1 hu
    obtain ⟨k, _, rfl⟩ := List.mem_map.1 hv
    simp only [Prod.mk.injEq] at e
    exact hne (by omega)
/-- The squares' numbers when a cell is split: its first square keeps its number, the others have none. -/
def spF (l : List Cl) (p r c d g : Nat) : Nat → Nat := giveF (giveF (numF l l.length) r c d g 0) r c 1 1 (p + 1)
section
variable {R C : Nat} {l : List Cl} {p r c d g : Nat} {tx : List Sg}
theorem spF_at (a b : Nat) (hb : b < 5) : spF l p r c d g (a * 5 + b) = if a = r ∧ b = c then p + 1 else if r ≤ a ∧ a < r + d ∧ c ≤ b ∧ b < c + g then 0 else numF l l.length (a * 5 + b) := by
  unfold spF giveF
  rw [show (a * 5 + b) / 5 = a by omega, show (a * 5 + b) % 5 = b by omega]
  by_cases h1 : a = r ∧ b = c
  · rw [if_pos (by omega), if_pos h1]
  · rw [if_neg (by omega), if_neg h1]
theorem spF_le (hp : p < l.length) (s : Nat) : spF l p r c d g s ≤ l.length := by
  unfold spF giveF
  have := numF_le l l.length s
  split
  · omega
  · split <;> omega
/-- The cells that are there when a cell is split, the new ones aside. -/
theorem sp_cell (hp : p < l.length) (e : l.getD p cl0 = ((r : Int), (c : Int), (d : Int), (g : Int), tx)) (m : Nat) : (l.set p (oneC (l.getD p cl0))).getD m cl0 = if m = p then ((r : Int), (c : Int), 1, 1, tx) else l.getD m cl0 := by
  by_cases h : m = p
  · rw [if_pos h, h, getD_setE _ _ _ _ hp, e]
    rfl
  · rw [if_neg h, getD_setN _ _ _ _ _ (Ne.symm h)]
theorem sp_iff (h : okB R C l = true) (hp : p < l.length) (e : l.getD p cl0 = ((r : Int), (c : Int), (d : Int), (g : Int), tx)) (m a b : Nat) (hm : m < l.length) (hb : b < C) :
    spF l p r c d g (a * 5 + b) = m + 1 ↔ inB ((l.set p (oneC (l.getD p cl0))).getD m cl0) a b = true := by
  obtain ⟨hR, hC, _, _⟩ := gridP_of_okB h
  obtain ⟨r', c', d', g', e', h1, h2, h3, h4⟩ := cell_nat h p hp
  rw [e] at e'
  simp only [Prod.mk.injEq] at e'
  obtain ⟨i1, i2, i3, i4, -⟩ := e'
  rw [spF_at a b (by omega), sp_cell hp e]
  have hn := num_iff h a b m hb
  have hpn := num_iff h a b p hb
  rw [e, inB_cell] at hpn
  by_cases hmp : m = p
  · rw [if_pos hmp]
    show _ ↔ inB ((r : Int), (c : Int), ((1 : Nat) : Int), ((1 : Nat) : Int), tx) a b = true
    rw [inB_cell]
    by_cases c1 : a = r ∧ b = c
    · rw [if_pos c1]; omega
    · rw [if_neg c1]
      by_cases c2 : r ≤ a ∧ a < r + d ∧ c ≤ b ∧ b < c + g
      · rw [if_pos c2]; omega
      · rw [if_neg c2, hmp]
        constructor
        · intro q
          exact absurd (hpn.1 q).2 c2
        · intro q
          exact absurd (show a = r ∧ b = c by omega) c1
  · rw [if_neg hmp]
    by_cases c2 : r ≤ a ∧ a < r + d ∧ c ≤ b ∧ b < c + g
    · have hq := hpn.2 ⟨hp, c2⟩
      have hno : ¬ inB (l.getD m cl0) a b = true := fun hi => by
        have := hn.2 ⟨hm, hi⟩
        omega
      by_cases c1 : a = r ∧ b = c
      · rw [if_pos c1]
        exact ⟨fun q => by omega, fun q => absurd q hno⟩
      · rw [if_neg c1, if_pos c2]
        exact ⟨fun q => by omega, fun q => absurd q hno⟩
    · rw [if_neg (by omega), if_neg c2, hn]
      exact ⟨fun q => q.2, fun q => ⟨hm, q⟩⟩
theorem sp_zero (h : okB R C l = true) (_ : p < l.length) (_ : l.getD p cl0 = ((r : Int), (c : Int), (d : Int), (g : Int), tx)) (a b : Nat) (ha : a < R) (hb : b < C) : spF l p r c d g (a * 5 + b) = 0 ↔ (a, b) ∈ restL r c d g := by
  obtain ⟨hR, hC, _, ht⟩ := gridP_of_okB h
  rw [spF_at a b (by omega), restL_mem]
  have h0 := (ht a b (by unfold vis; simp; omega)).1
  by_cases c1 : a = r ∧ b = c
  · rw [if_pos c1]; omega
  · rw [if_neg c1]
    by_cases c2 : r ≤ a ∧ a < r + d ∧ c ≤ b ∧ b < c + g
    · rw [if_pos c2]; exact ⟨fun _ => ⟨c2, c1⟩, fun _ => rfl⟩
    · rw [if_neg c2]
      exact ⟨fun q => by omega, fun q => absurd q.1 c2⟩
theorem sp_shape (h : okB R C l = true) (hp : p < l.length) (e : l.getD p cl0 = ((r : Int), (c : Int), (d : Int), (g : Int), tx)) (m : Nat) (hm : m < l.length) : ∃ (r' b' d' g' : Nat) (t : List Sg), (l.set p (oneC (l.getD p cl0))).getD m cl0 = ((r' : Int), (b' : Int), (d' : Int), (g' : Int), t) ∧ 1 ≤ d' ∧ 1 ≤ g' ∧ r' + d' ≤ R ∧ b' + g' ≤ C := by
  rw [sp_cell hp e]
  obtain ⟨r', c', d', g', e', h1, h2, h3, h4⟩ := cell_nat h m hm
  by_cases hmp : m = p
  · rw [if_pos hmp]
    subst hmp
    rw [e] at e'
    simp only [Prod.mk.injEq] at e'
    exact ⟨r, c, 1, 1, tx, rfl, Nat.le_refl _, Nat.le_refl _, by omega, by omega⟩
  · rw [if_neg hmp]
    exact ⟨r', c', d', g', _, e', h1, h2, h3, h4⟩
theorem sp_used (h : okB R C l = true) (hp : p < l.length) (e : l.getD p cl0 = ((r : Int), (c : Int), (d : Int), (g : Int), tx)) : ∀ k, 1 ≤ k → k ≤ l.length → ∃ s, s < 25 ∧ spF l p r c d g s = k := by
  obtain ⟨hR, hC, _, _⟩ := gridP_of_okB h
  intro k h1 h2
  obtain ⟨r', b', d', g', t, e2, q1, q2, q3, q4⟩ := sp_shape h hp e (k - 1) (by omega)
  refine ⟨r' * 5 + b', by omega, ?_⟩
  have := (sp_iff h hp e (k - 1) r' b' (by omega) (by omega)).2 (by rw [e2, inB_cell]; omega)
  omega
variable {f2 : Nat → Nat}
theorem sp_numC (h : okB R C l = true) (hp : p < l.length) (e : l.getD p cl0 = ((r : Int), (c : Int), (d : Int), (g : Int), tx)) (hF : FillP C (spF l p r c d g) l.length R f2) (m : Nat) (hm : m < l.length) : NumC R C f2 ((l.set p (oneC (l.getD p cl0))).getD m cl0) (m + 1) := by
  obtain ⟨r', b', d', g', t, e2, q1, q2, q3, q4⟩ := sp_shape h hp e m hm
  refine ⟨r', b', d', g', t, e2, q1, q2, q3, q4, fun a b ha hb => ?_⟩
  have key := sp_iff h hp e m a b hm hb
  rw [e2, inB_cell] at key
  rw [← key]
  obtain ⟨h6, h7, h8⟩ := hF
  have hv : vis R 0 C a b := by unfold vis; omega
  by_cases h0 : spF l p r c d g (a * 5 + b) = 0
  · have := h7 a b hv h0
    omega
  · rw [h6 a b hv h0]
theorem rest_numC (h : okB R C l = true) (hp : p < l.length) (e : l.getD p cl0 = ((r : Int), (c : Int), (d : Int), (g : Int), tx)) (hF : FillP C (spF l p r c d g) l.length R f2) (a b : Nat) (hab : (a, b) ∈ restL r c d g) (ha : a < R) (hb : b < C) : NumC R C f2 (sqC (a, b)) (f2 (a * 5 + b)) := by
  refine ⟨a, b, 1, 1, [], rfl, Nat.le_refl _, Nat.le_refl _, by omega, by omega, fun x y hx hy => ?_⟩
  obtain ⟨h6, h7, h8⟩ := hF
  have h0 := (sp_zero h hp e a b ha hb).2 hab
  constructor
  · intro q
    have := h8 a b x y (by unfold vis; omega) (by unfold vis; omega) h0 q.symm
    omega
  · intro hh
    obtain rfl : x = a := by omega
    obtain rfl : y = b := by omega
    rfl
theorem splitM_nat (e : l.getD p cl0 = ((r : Int), (c : Int), (d : Int), (g : Int), tx)) : splitM l p = l.set p (oneC (l.getD p cl0)) ++ (restL r c d g).map sqC := by
  unfold splitM
  rw [Int.toNat_natCast, e]
  simp only [Int.toNat_natCast]
theorem tiles_split (h : okB R C l = true) (hp : p < l.length) (e : l.getD p cl0 = ((r : Int), (c : Int), (d : Int), (g : Int), tx)) (hF : FillP C (spF l p r c d g) l.length R f2) : TilesM R C f2 (splitM l p) := by
  have hin : ∀ a b, (a, b) ∈ restL r c d g → a < R ∧ b < C := by
    intro a b hab
    rw [restL_mem] at hab
    obtain ⟨r', c', d', g', e', h1, h2, h3, h4⟩ := cell_nat h p hp
    rw [e] at e'
    simp only [Prod.mk.injEq] at e'
    omega
  rw [splitM_nat e]
  refine tilesM_of ?_ ?_ ?_
  · intro x hx
    rcases List.mem_append.1 hx with hx | hx
    · obtain ⟨m, hm, ee⟩ := List.getElem_of_mem hx
      rw [← getD_get hm] at ee
      subst ee
      exact ⟨m + 1, sp_numC h hp e hF m (by simpa using hm)⟩
    · obtain ⟨⟨a, b⟩, hab, rfl⟩ := List.mem_map.1 hx
      exact ⟨_, rest_numC h hp e hF a b hab (hin a b hab).1 (hin a b hab).2⟩
  · intro a b ha hb
    by_cases h0 : spF l p r c d g (a * 5 + b) = 0
    · refine ⟨sqC (a, b), List.mem_append.2 (.inr (List.mem_map.2 ⟨(a, b), (sp_zero h hp e a b ha hb).1 h0, rfl⟩)), ?_⟩
      simp [inB, sqC]
      omega
    · have hle := spF_le (r := r) (c := c) (d := d) (g := g) hp (a * 5 + b)
      obtain ⟨m, hm⟩ : ∃ m, spF l p r c d g (a * 5 + b) = m + 1 := ⟨_, (Nat.succ_pred h0).symm⟩
      have hml : m < l.length := by omega
      exact ⟨_, List.mem_append.2 (.inl (getD_mem (by simpa using hml))), (sp_iff h hp e m a b hml hb).1 hm⟩
  · rw [List.pairwise_append]
    refine ⟨?_, ?_, ?_⟩
    · rw [List.pairwise_iff_getElem]
      intro i k hi hk hik
      rw [← getD_get hi, ← getD_get hk]
      exact ⟨i + 1, k + 1, by omega, sp_numC h hp e hF i (by simpa using hi), sp_numC h hp e hF k (by simpa using hk)⟩
    · rw [List.pairwise_map]
      refine List.Pairwise.imp_of_mem ?_ (restL_nodup r c d g)
      rintro ⟨a, b⟩ ⟨a', b'⟩ hc hc' hne
      have q1 := hin a b hc
      have q2 := hin a' b' hc'
      refine ⟨_, _, ?_, rest_numC h hp e hF a b hc q1.1 q1.2, rest_numC h hp e hF a' b' hc' q2.1 q2.2⟩
      intro ee
      obtain ⟨h6, h7, h8⟩ := hF
      have := h8 a b a' b' (by unfold vis; omega) (by unfold vis; omega) ((sp_zero h hp e a b q1.1 q1.2).2 hc) ee
      exact hne (by rw [this.1, this.2])
    · intro x hx y hy
      obtain ⟨m, hm, ee⟩ := List.getElem_of_mem hx
      rw [← getD_get hm] at ee
      subst ee
      obtain ⟨⟨a, b⟩, hab, rfl⟩ := List.mem_map.1 hy
      have q1 := hin a b hab
      refine ⟨m + 1, _, ?_, sp_numC h hp e hF m (by simpa using hm), rest_numC h hp e hF a b hab q1.1 q1.2⟩
      obtain ⟨h6, h7, h8⟩ := hF
      have := h7 a b (by unfold vis; omega) ((sp_zero h hp e a b q1.1 q1.2).2 hab)
      simp only [List.length_set] at hm
      omega
end
end Go.Proofs.Ytpgldodnnlcceaa
namespace Go.Proofs.Ytpgldodnnlcceaa
open Go.RowKit

def rcEq (a b c d a' b' c' d' : Int) : Bool := decide (a = a' ∧ b = b' ∧ c = c' ∧ d = d')
theorem eqRct (a b c d a' b' c' d' : Int) (w : World) : (Op.equalIn 10000 63 (.agg #[.int .i64 a, .int .i64 b, .int .i64 c, .int .i64 d]) (.agg #[.int .i64 a', .int .i64 b', .int .i64 c', .int .i64 d'])).run Try.prog w = .ok (rcEq a b c d a' b' c' d') w := by
  have u3 := Try.underlying3
  have a3 := Try.isAgg3
  have z3 := Try.sizeOf3
  have hS : Try.prog.underlying 63 = some (.struct (Try.prog.fieldsOf 63)) := by kernel_rfl
  have hp : Try.prog.stoodInHeld 63 = false := by kernel_rfl
  rw [show (10000 : Nat) = 9999 + 1 from rfl, run_equalIn_agg w 9999 63 _ _ hS hp]
  simp only [Program.fieldsOf, Try.underlying63]
  go_simp
  by_cases h1 : a = a' <;> by_cases h2 : b = b' <;> by_cases h3 : c = c' <;> by_cases h4 : d = d' <;> simp [rcEq, h1, h2, h3, h4]
theorem eqRct_is {a b c d a' b' c' d' : Int} {x : Bool} (h : rcEq a b c d a' b' c' d' = x) (w : World) : (Op.equalIn 10000 63 (.agg #[.int .i64 a, .int .i64 b, .int .i64 c, .int .i64 d]) (.agg #[.int .i64 a', .int .i64 b', .int .i64 c', .int .i64 d'])).run Try.prog w = .ok x w := h ▸ eqRct a b c d a' b' c' d' w
theorem noGuardR : Try.prog.eqGuardType Try.prog.depth 63 = false := by kernel_rfl
theorem rec_info : (Try.prog.info? 63).map (·.size) = some 4 := by kernel_rfl
end Go.Proofs.Ytpgldodnnlcceaa
namespace Go.Proofs.Ytpgldodnnlcceaa
open Go.RowKit

set_option maxRecDepth 100000 in
set_option maxHeartbeats 8000000 in
theorem implTableSplit_any (R C t' : Int) (a : Option Addr) (n cap : Nat) (l : List Cl) (w : World) (h : Tab w a n cap l) :
    Calls Try.prog 16 #[.agg #[.int .i64 R, .int .i64 C, .slice a n cap], .int .i64 t'] w fun z w' => TabRes w.heap.size (splitB R C l t') R C (splitL l t') z w' ∧ Below w.heap.size w w' := by
  have H : Hid (Tab w a n cap l) := h
  clear h
  obtain ⟨ok, HX⟩ : ∃ x, Hid (okB R C l = x) := ⟨_, rfl⟩
  go_enter Try.func16, Try.ntmps16
  go_upto_region 1 with fail
  have B0 : Below w.heap.size w ((w.alloc (.cells #[.int .i64 R, .int .i64 C, .slice a n cap] 25)).alloc (.cells #[.int .i64 0, .int .i64 0, .slice none 0 0] 25)) := ((Below.refl _ _).alloc (Nat.le_refl _) _).alloc (by simp) _
  have G0 : RowAt ((w.alloc (.cells #[.int .i64 R, .int .i64 C, .slice a n cap] 25)).alloc (.cells #[.int .i64 0, .int .i64 0, .slice none 0 0] 25)) w.heap.size #[.int .i64 R, .int .i64 C, .slice a n cap] 25 := (rowAt_new w _ _).alloc _
  have G1 : RowAt ((w.alloc (.cells #[.int .i64 R, .int .i64 C, .slice a n cap] 25)).alloc (.cells #[.int .i64 0, .int .i64 0, .slice none 0 0] 25)) (w.heap.size + 1) #[.int .i64 0, .int .i64 0, .slice none 0 0] 25 := by
    have := rowAt_new (w.alloc (.cells #[.int .i64 R, .int .i64 C, .slice a n cap] 25)) #[.int .i64 0, .int .i64 0, .slice none 0 0] 25
    simpa using this
  have HT : Hid (Tab ((w.alloc (.cells #[.int .i64 R, .int .i64 C, .slice a n cap] 25)).alloc (.cells #[.int .i64 0, .int .i64 0, .slice none 0 0] 25)) a n cap l) := H.out.below B0
  generalize ((w.alloc (.cells #[.int .i64 R, .int .i64 C, .slice a n cap] 25)).alloc (.cells #[.int .i64 0, .int .i64 0, .slice none 0 0] 25)) = v at B0 G0 G1 HT ⊢
  have k0 : v.cell? ⟨w.heap.size, 0, none⟩ = some (.int .i64 R) := G0.cell 0
  have k1 : v.cell? ⟨w.heap.size, 1, none⟩ = some (.int .i64 C) := G0.cell 1
  have k2 : v.cell? ⟨w.heap.size, 2, none⟩ = some (.slice a n cap) := G0.cell 2
  have z0 := G0.lt
  have z1 := G1.lt
  have s0 := B0.size
  have HG0 : Hid (RowAt v w.heap.size #[.int .i64 R, .int .i64 C, .slice a n cap] 25) := G0
  have HG1 : Hid (RowAt v (w.heap.size + 1) #[.int .i64 0, .int .i64 0, .slice none 0 0] 25) := G1
  have HB0 : Hid (Below w.heap.size w v) := B0
  clear G0 G1 B0
  cases ok
  · go_upto_region 2 with (first | (go_at_call 23; refine (gridOf_is HX.out HT.out).mono ?_; rintro e w1 ⟨hres, hb1⟩; rcases hres.symm with ⟨hno, -⟩ | ⟨-, rfl⟩; exact absurd hno (by simp)) | (rw [← grid_zero]; refine wpList_store_row rfl 48 (.tmp 6) (.tmp 13) rfl w1.heap.size (gridA 0 0 0 (fun _ => 0) (fun _ => sl0)) rfl rfl 48 _ (gridAt_new _ _ _ _ _ _) (grid_infoA _ _ _ _ _) (by rw [gridA_size]) (gridA_one _ _ _ _ _) ?_))
    have s1 := hb1.size
    have B2 : Below v.heap.size v ((w1.alloc (.cells (gridA 0 0 0 (fun _ => 0) (fun _ => sl0)) 48)).setRow w1.heap.size (gridA 0 0 0 (fun _ => 0) (fun _ => sl0))) := below_row (hb1.alloc s1 _) s1 _
    generalize ((w1.alloc (.cells (gridA 0 0 0 (fun _ => 0) (fun _ => sl0)) 48)).setRow w1.heap.size (gridA 0 0 0 (fun _ => 0) (fun _ => sl0))) = v2 at B2 ⊢
    have HG2 : Hid (RowAt v2 (w.heap.size + 1) #[.int .i64 0, .int .i64 0, .slice none 0 0] 25) := HG1.out.below B2 z1
    have HNB : Hid (splitB R C l t' = false) := by
      show splitB R C l t' = false
      simp only [splitB, HX.out, Bool.false_and]
    clear k0 k1 k2
    go_wp2_with ((refine wpList_store_row rfl 25 (.tmp 4) (.tmp 28) rfl (w.heap.size + 1) #[.int .i64 0, .int .i64 0, .slice none 0 0] rfl rfl 25 _ HG2.out tab_info rfl (cells3_one _ _ _ _ _) ?_))
    refine bodyPost_ret (v := .tuple #[.agg #[.int .i64 0, .int .i64 0, .slice none 0 0], .bool false]) ?_ rfl ⟨.inl ⟨HNB.out, rfl⟩, below_row (HB0.out.trans (B2.mono s0)) (by omega) _⟩
    rw [results_cell_tmp rfl]
    simp [asAddr, Result.andThen, run_tabOf (RowAt.setRow HG2.out #[.int .i64 0, .int .i64 0, .slice none 0 0])]

  · obtain ⟨hR, hC, hst, -⟩ := gridP_of_okB HX.out
    obtain ⟨R, rfl⟩ : ∃ R' : Nat, R = R' := ⟨R.toNat, by omega⟩
    obtain ⟨C, rfl⟩ : ∃ C' : Nat, C = C' := ⟨C.toNat, by omega⟩
    have hn25 : l.length ≤ 25 := step_le (l := l) (K := l.length) (R := R) (C := C) (by omega) (by omega) hst
    have HST : Hid (∀ k, k < l.length → (l.getD k cl0).2.2.2.2.length ≤ 24) := fun k hk => by
      have := (stepB_of (hst k hk)).2.2
      simp only [textB, Bool.and_eq_true, decide_eq_true_eq] at this
      exact this.1
    clear hst
    go_upto_region 2 with (first | (go_at_call 23; refine (gridOf_is HX.out HT.out).mono ?_; rintro e w1 ⟨(⟨hno, -⟩ | ⟨-, t, rfl, ht1⟩), hb1⟩; exact absurd hno (by simp)) | (rw [← grid_zero]; refine wpList_store_row rfl 48 (.tmp 6) (.tmp 13) rfl w1.heap.size (gridA R C l.length (numF l l.length) t) rfl rfl 48 _ (gridAt_new _ _ _ _ _ _) (grid_infoA _ _ _ _ _) (by rw [gridA_size, gridA_size]) (gridA_one _ _ _ _ _) ?_))
    have s1 := hb1.size
    have B2 : Below v.heap.size v ((w1.alloc (.cells (gridA 0 0 0 (fun _ => 0) (fun _ => sl0)) 48)).setRow w1.heap.size (gridA R C l.length (numF l l.length) t)) := below_row (hb1.alloc s1 _) s1 _
    have B3 : Below w1.heap.size w1 ((w1.alloc (.cells (gridA 0 0 0 (fun _ => 0) (fun _ => sl0)) 48)).setRow w1.heap.size (gridA R C l.length (numF l l.length) t)) := below_row ((Below.refl _ _).alloc (Nat.le_refl _) _) (Nat.le_refl _) _
    have HG : Hid (GridAt ((w1.alloc (.cells (gridA 0 0 0 (fun _ => 0) (fun _ => sl0)) 48)).setRow w1.heap.size (gridA R C l.length (numF l l.length) t)) w1.heap.size R C l.length (numF l l.length) t) := RowAt.setRow (gridAt_new _ _ _ _ _ _) _
    generalize ((w1.alloc (.cells (gridA 0 0 0 (fun _ => 0) (fun _ => sl0)) 48)).setRow w1.heap.size (gridA R C l.length (numF l l.length) t)) = v2 at B2 B3 HG ⊢
    have HTx : Hid (∀ i, i < l.length → Txt v2 (t (i + 1)).1 (t (i + 1)).2.1 (t (i + 1)).2.2 (l.getD i cl0).2.2.2.2) := fun i hi => (ht1 i hi).below B3
    have HG2 : Hid (RowAt v2 (w.heap.size + 1) #[.int .i64 0, .int .i64 0, .slice none 0 0] 25) := HG1.out.below B2 z1
    have s2 := B2.size
    have q2 : v2.cell? ⟨w.heap.size, 2, none⟩ = some (.slice a n cap) := (HG0.out.below B2 z0).cell 2
    clear k0 k1 k2 ht1 hb1 B3
    obtain ⟨N, HN⟩ : ∃ N, Hid (l.length = N) := ⟨_, rfl⟩
    obtain ⟨f, HF⟩ : ∃ f, Hid (numF l l.length = f) := ⟨_, rfl⟩
    rw [HF.out] at HG
    rw [HN.out] at HG hn25
    have HNl : Hid (n = l.length) := H.out.1
    have hncap := H.out.2.1
    have hcapm := H.out.2.2.1
    unfold maxLen at hcapm
    by_cases ht0 : t' < 0
    · have HNB : Hid (splitB R C l t' = false) := by
        show splitB R C l t' = false
        simp only [splitB, Bool.and_eq_false_iff, decide_eq_false_iff_not]
        omega
      go_wp2_with (refine wpList_store_row rfl 25 (.tmp 4) (.tmp 28) rfl (w.heap.size + 1) #[.int .i64 0, .int .i64 0, .slice none 0 0] rfl rfl 25 _ HG2.out tab_info rfl (cells3_one _ _ _ _ _) ?_)
      refine bodyPost_ret (v := .tuple #[.agg #[.int .i64 0, .int .i64 0, .slice none 0 0], .bool false]) ?_ rfl ⟨.inl ⟨HNB.out, rfl⟩, below_row (HB0.out.trans (B2.mono s0)) (by omega) _⟩
      rw [results_cell_tmp rfl]
      simp [asAddr, Result.andThen, run_tabOf (RowAt.setRow HG2.out #[.int .i64 0, .int .i64 0, .slice none 0 0])]
    by_cases ht1 : (n : Int) ≤ t'
    · have HNB : Hid (splitB R C l t' = false) := by
        show splitB R C l t' = false
        have := HNl.out
        simp only [splitB, Bool.and_eq_false_iff, decide_eq_false_iff_not]
        omega
      go_wp2_with (refine wpList_store_row rfl 25 (.tmp 4) (.tmp 28) rfl (w.heap.size + 1) #[.int .i64 0, .int .i64 0, .slice none 0 0] rfl rfl 25 _ HG2.out tab_info rfl (cells3_one _ _ _ _ _) ?_)
      refine bodyPost_ret (v := .tuple #[.agg #[.int .i64 0, .int .i64 0, .slice none 0 0], .bool false]) ?_ rfl ⟨.inl ⟨HNB.out, rfl⟩, below_row (HB0.out.trans (B2.mono s0)) (by omega) _⟩
      rw [results_cell_tmp rfl]
      simp [asAddr, Result.andThen, run_tabOf (RowAt.setRow HG2.out #[.int .i64 0, .int .i64 0, .slice none 0 0])]
    obtain ⟨p, rfl⟩ : ∃ p : Nat, t' = p := ⟨t'.toNat, by omega⟩
    have hpn : p < n := by omega
    have hpl : p < l.length := by have := HNl.out; omega
    have hpN : p < N := by have := HN.out; omega
    have bp0 : (0 : Int) ≤ (p : Int) := by omega
    have bp1 : (p : Int) < (n : Int) := by omega
    rcases (HT.out.below B2).2.2.2 with e | ⟨b, off, rfl, hbv, hcl⟩
    · rw [e] at hpl
      exact absurd hpl (by simp)
    obtain ⟨x0, x1, x2, x3, ta, tn, tc, x4, -⟩ := hcl p hpl
    obtain ⟨xr, xc, xd, xg, hx, u1, u2, u3, u4⟩ := cell_nat HX.out p hpl
    obtain ⟨tx, htx⟩ : ∃ tx, (l.getD p cl0).2.2.2.2 = tx := ⟨_, rfl⟩
    rw [htx] at hx
    rw [hx] at x0 x1 x2 x3
    simp only at x0 x1 x2 x3
    have HXr : Hid (l.getD p cl0 = ((xr : Int), (xc : Int), (xd : Int), (xg : Int), tx)) := hx
    have HB2 : Hid (Below v.heap.size v v2) := B2
    clear hx htx hcl B2
    go_upto_region 5 with (go_at_call 43; refine (rectOf_any _ _ _ _ _ _ _ _).mono ?_; rintro e w3 ⟨rfl, hb3⟩)
    have s3 := hb3.size
    have B4 : Below v2.heap.size v2 ((w3.alloc (.cells #[.int .i64 xr, .int .i64 xc, .int .i64 xd, .int .i64 xg] 63)).alloc (.cells #[.int .i64 xr, .int .i64 xc, .int .i64 1, .int .i64 1] 63)) := (hb3.alloc s3 _).alloc (by simp; omega) _
    have RA : RowAt ((w3.alloc (.cells #[.int .i64 xr, .int .i64 xc, .int .i64 xd, .int .i64 xg] 63)).alloc (.cells #[.int .i64 xr, .int .i64 xc, .int .i64 1, .int .i64 1] 63)) w3.heap.size #[.int .i64 xr, .int .i64 xc, .int .i64 xd, .int .i64 xg] 63 := (rowAt_new w3 _ _).alloc _
    have RB : RowAt ((w3.alloc (.cells #[.int .i64 xr, .int .i64 xc, .int .i64 xd, .int .i64 xg] 63)).alloc (.cells #[.int .i64 xr, .int .i64 xc, .int .i64 1, .int .i64 1] 63)) (w3.heap.size + 1) #[.int .i64 xr, .int .i64 xc, .int .i64 1, .int .i64 1] 63 := by
      have := rowAt_new (w3.alloc (.cells #[.int .i64 xr, .int .i64 xc, .int .i64 xd, .int .i64 xg] 63)) #[.int .i64 xr, .int .i64 xc, .int .i64 1, .int .i64 1] 63
      simpa using this
    go_upto_region 6 with fail
    clear x0 x1 x2 x3 x4 q2
    generalize ((w3.alloc (.cells #[.int .i64 xr, .int .i64 xc, .int .i64 xd, .int .i64 xg] 63)).alloc (.cells #[.int .i64 xr, .int .i64 xc, .int .i64 1, .int .i64 1] 63)) = v4 at B4 RA RB ⊢
    have s4 := B4.size
    have HG4 : Hid (GridAt v4 w1.heap.size R C N f t) := HG.out.below B4 HG.out.lt
    have HZ4 : Hid (RowAt v4 (w.heap.size + 1) #[.int .i64 0, .int .i64 0, .slice none 0 0] 25) := HG2.out.below B4 (by omega)
    have HB4 : Hid (Below v2.heap.size v2 v4) := B4
    have HRA : Hid (RowAt v4 w3.heap.size #[.int .i64 xr, .int .i64 xc, .int .i64 xd, .int .i64 xg] 63) := RA
    have HRB : Hid (RowAt v4 (w3.heap.size + 1) #[.int .i64 xr, .int .i64 xc, .int .i64 1, .int .i64 1] 63) := RB
    have hng := noGuardR
    have hs3 : v2.heap.size ≤ w3.heap.size := by simpa using s3
    clear RA RB B4 hb3
    obtain ⟨eq, HE⟩ : ∃ x, Hid (rcEq xr xc xd xg xr xc 1 1 = x) := ⟨_, rfl⟩
    cases eq
    case true =>
      have hq := fun w => eqRct_is HE.out w
      have hdg : xd = 1 ∧ xg = 1 := by
        have := of_decide_eq_true HE.out
        omega
      have HNB : Hid (splitB R C l p = false) := by
        show splitB R C l p = false
        rw [splitB_cell HXr.out (by omega) (by omega) HX.out hpl rfl, hdg.1, hdg.2]
        rfl
      clear hdg
      go_wp2_with (first | (refine wpList_load_row rfl 63 (.tmp 8) rfl w3.heap.size rfl 63 #[.int .i64 xr, .int .i64 xc, .int .i64 xd, .int .i64 xg] (0, 0) _ HRA.out Try.underlying63 rfl rec_info ?_) | (refine wpList_load_row rfl 63 (.tmp 9) rfl (w3.heap.size + 1) rfl 63 #[.int .i64 xr, .int .i64 xc, .int .i64 1, .int .i64 1] (0, 0) _ HRB.out Try.underlying63 rfl rec_info ?_) | (refine wpList_store_row rfl 25 (.tmp 4) (.tmp 43) rfl (w.heap.size + 1) #[.int .i64 0, .int .i64 0, .slice none 0 0] rfl rfl 25 _ HZ4.out tab_info rfl (cells3_one _ _ _ _ _) ?_))
      refine bodyPost_ret (v := .tuple #[.agg #[.int .i64 0, .int .i64 0, .slice none 0 0], .bool false]) ?_ rfl ⟨.inl ⟨HNB.out, rfl⟩, below_row ((HB0.out.trans (HB2.out.mono s0)).trans (HB4.out.mono (by omega))) (by omega) _⟩
      rw [results_cell_tmp rfl]
      simp [asAddr, Result.andThen, run_tabOf (RowAt.setRow HZ4.out #[.int .i64 0, .int .i64 0, .slice none 0 0])]
    have hq := fun w => eqRct_is HE.out w
    have HYB : Hid (splitB R C l p = true) := by
      show splitB R C l p = true
      have hdg : ¬ (xd = 1 ∧ xg = 1) := fun e => by
        have := of_decide_eq_false HE.out
        omega
      rw [splitB_cell HXr.out (by omega) (by omega) HX.out hpl rfl]
      refine decide_eq_true ?_
      rw [← Int.natCast_mul]
      have : 2 ≤ xd * xg := by
        rcases (show 2 ≤ xd ∨ 2 ≤ xg by omega) with h | h
        · exact Nat.mul_le_mul h u2
        · exact Nat.le_trans (by omega) (Nat.mul_le_mul u1 h)
      omega
    go_upto_region 8 with (first | (refine wpList_load_row rfl 63 (.tmp 8) rfl w3.heap.size rfl 63 #[.int .i64 xr, .int .i64 xc, .int .i64 xd, .int .i64 xg] (0, 0) _ HRA.out Try.underlying63 rfl rec_info ?_) | (refine wpList_load_row rfl 63 (.tmp 9) rfl (w3.heap.size + 1) rfl 63 #[.int .i64 xr, .int .i64 xc, .int .i64 1, .int .i64 1] (0, 0) _ HRB.out Try.underlying63 rfl rec_info ?_))
    clear hq hng
    refine wp_region_noPanic ?_
    refine wp_region_held_drew (S := fun w' => GridAt w' w1.heap.size R C N f t ∧ RowAt w' w3.heap.size #[.int .i64 xr, .int .i64 xc, .int .i64 xd, .int .i64 xg] 63 ∧ RowAt w' (w3.heap.size + 1) #[.int .i64 xr, .int .i64 xc, .int .i64 1, .int .i64 1] 63) (by kernel_rfl) ⟨HG4.out, HRA.out, HRB.out⟩ (fun hHeld => ?_)
    refine take_at 0 44 (.agg (gridA R C N f t)) rfl rfl (by kernel_rfl) (by kernel_rfl) (by kernel_rfl) (fun _ _ _ h => h) (yieldsIf_load_row (by kernel_rfl) 48 (.tmp 6) rfl w1.heap.size rfl 48 (gridA R C N f t) (0, 0) _ (fun w' h => h.1) Try.underlying48 rfl (grid_infoA _ _ _ _ _)) hHeld ?_
    (try simp only [Act.put, List.setIfInBounds_toArray, List.set_cons_zero, List.set_cons_succ])
    refine take_at 1 45 (.agg #[.int .i64 xr, .int .i64 xc, .int .i64 xd, .int .i64 xg]) rfl rfl (by kernel_rfl) (by kernel_rfl) (by kernel_rfl) (fun _ _ _ h => h) (yieldsIf_load_row (by kernel_rfl) 63 (.tmp 8) rfl w3.heap.size rfl 63 #[.int .i64 xr, .int .i64 xc, .int .i64 xd, .int .i64 xg] (0, 0) _ (fun w' h => h.2.1) Try.underlying63 rfl rec_info) hHeld ?_
    (try simp only [Act.put, List.setIfInBounds_toArray, List.set_cons_zero, List.set_cons_succ])
    refine take_at 3 47 (.agg #[.int .i64 xr, .int .i64 xc, .int .i64 1, .int .i64 1]) rfl rfl (by kernel_rfl) (by kernel_rfl) (by kernel_rfl) (fun _ _ _ h => h) (yieldsIf_load_row (by kernel_rfl) 63 (.tmp 9) rfl (w3.heap.size + 1) rfl 63 #[.int .i64 xr, .int .i64 xc, .int .i64 1, .int .i64 1] (0, 0) _ (fun w' h => h.2.2) Try.underlying63 rfl rec_info) hHeld ?_
    (try simp only [Act.put, List.setIfInBounds_toArray, List.set_cons_zero, List.set_cons_succ])
    refine take_at 4 48 (.int .i64 p) rfl rfl (by kernel_rfl) (by kernel_rfl) (by kernel_rfl) (fun _ _ _ h => h) (Or.inl ⟨by kernel_rfl, fun w' hS' => by go_simp⟩) hHeld ?_
    (try simp only [Act.put, List.setIfInBounds_toArray, List.set_cons_zero, List.set_cons_succ])
    refine take_at 5 49 (.int .i64 ((p + 1 : Nat) : Int)) rfl rfl (by kernel_rfl) (by kernel_rfl) (by kernel_rfl) (fun _ _ _ h => h) (Or.inl ⟨by kernel_rfl, fun w' hS' => by go_simp; rw [IntKind.wrap_i64]; omega⟩) hHeld ?_
    (try simp only [Act.put, List.setIfInBounds_toArray, List.set_cons_zero, List.set_cons_succ])
    obtain ⟨v5, hv5⟩ : ∃ x, v4.drew = x := ⟨_, rfl⟩
    have HB5 : Hid (Below v2.heap.size v2 v5) := by rw [← hv5]; exact HB4.out.drew
    have HZ5 : Hid (RowAt v5 (w.heap.size + 1) #[.int .i64 0, .int .i64 0, .slice none 0 0] 25) := by rw [← hv5]; exact HZ4.out
    rw [hv5] at hHeld ⊢
    have c1 := hHeld.1.lt
    have c2 := hHeld.2.1.lt
    have c3 := hHeld.2.2.lt
    clear hv5
    refine wpAnyH_ready (rs := [2]) (by kernel_rfl) (by simp) ?_
    refine AllReadyH.cons rfl (fun K hK => ?_) AllReadyH.nil
    go_simp
    go_at_call 42
    refine (give_any R C N f t xr xc xd xg 0 _ (by omega) (by omega)).mono ?_
    rintro e w6 ⟨rfl, hb6⟩
    go_wp2_with fail
    refine hK.out _ _ ⟨hHeld.1.below hb6 c1, hHeld.2.1.below hb6 c2, hHeld.2.2.below hb6 c3⟩ (fun hHeld => ?_)
    clear hK K
    (try simp only [Act.put, List.setIfInBounds_toArray, List.set_cons_zero, List.set_cons_succ])
    have s6 := hb6.size
    refine wpAnyH_ready (rs := [6]) (by kernel_rfl) (by simp) ?_
    refine AllReadyH.cons rfl (fun K hK => ?_) AllReadyH.nil
    go_simp
    go_at_call 42
    refine (give_any R C N (giveF f xr xc xd xg 0) t xr xc 1 1 (p + 1) _ (by omega) (by omega)).mono ?_
    rintro e w7 ⟨rfl, hb7⟩
    go_wp2_with fail
    refine hK.out _ _ ⟨hHeld.1.below hb7 (by omega), hHeld.2.1.below hb7 (by omega), hHeld.2.2.below hb7 (by omega)⟩ (fun hHeld => ?_)
    clear hK K
    (try simp only [Act.put, List.setIfInBounds_toArray, List.set_cons_zero, List.set_cons_succ])
    have s7 := hb7.size
    have HFE : Hid (giveF (giveF f xr xc xd xg 0) xr xc 1 1 (p + 1) = spF l p xr xc xd xg) := by
      show _ = _
      rw [← HF.out]
      rfl
    rw [HFE.out]
    have HFL : Hid (∀ s, spF l p xr xc xd xg s ≤ N) := fun s => by rw [← HN.out]; exact spF_le hpl s
    have HFU : Hid (∀ k, 1 ≤ k → k ≤ N → ∃ s, s < 25 ∧ spF l p xr xc xd xg s = k) := by
      show ∀ k, 1 ≤ k → k ≤ N → ∃ s, s < 25 ∧ spF l p xr xc xd xg s = k
      rw [← HN.out]
      exact sp_used HX.out hpl HXr.out
    refine wpAnyH_ready (rs := [7]) (by kernel_rfl) (by simp) ?_
    refine AllReadyH.cons rfl (fun K hK => ?_) AllReadyH.nil
    go_simp
    go_at_call 29
    refine (fillUp_any R C N (spF l p xr xc xd xg) t _ (by omega) (by omega) hn25 HFL.out HFU.out).mono ?_
    rintro e w8 ⟨⟨f2, t2, n2, rfl, hF2⟩, hb8⟩
    go_wp2_with fail
    refine hK.out _ _ ⟨hHeld.1.below hb8 (by omega), hHeld.2.1.below hb8 (by omega), hHeld.2.2.below hb8 (by omega)⟩ (fun hHeld => ?_)
    clear hK K
    (try simp only [Act.put, List.setIfInBounds_toArray, List.set_cons_zero, List.set_cons_succ])
    have s8 := hb8.size
    have hF3 : Filled C (spF l p xr xc xd xg) t l.length R 0 f2 t2 n2 := by rw [HN.out]; exact hF2
    have hFP := hF3.fillP
    have htl := tiles_split HX.out hpl HXr.out hFP
    have hrep : Rep R C f2 (splitL l p) := rep_sort htl
    have hlen2 : (splitL l p).length ≤ 25 := by
      show (sortC (splitM l p)).length ≤ 25
      rw [(sortC_perm _).length_eq]
      exact htl.few (by omega) (by omega)
    have hle : ∀ k, f2 k ≤ 25 := fun k => Nat.le_trans (hF2.2.2.1 k) hF2.2.1
    have ht : ∀ k, k < (splitL l p).length → Txt w8 (t2 (f2 (stR ((splitL l p).getD k cl0) * 5 + stC ((splitL l p).getD k cl0)))).1 (t2 (f2 (stR ((splitL l p).getD k cl0) * 5 + stC ((splitL l p).getD k cl0)))).2.1 (t2 (f2 (stR ((splitL l p).getD k cl0) * 5 + stC ((splitL l p).getD k cl0)))).2.2 ((splitL l p).getD k cl0).2.2.2.2 ∧ ((splitL l p).getD k cl0).2.2.2.2.length ≤ 1048576 := by
      intro k hk
      have hmem := (sortC_perm (splitM l p)).mem_iff.1 (getD_mem hk)
      obtain ⟨y, hy⟩ : ∃ y, (splitL l p).getD k cl0 = y := ⟨_, rfl⟩
      have hmem' : y ∈ splitM l p := by rw [← hy]; exact hmem
      rw [splitM_nat HXr.out] at hmem'
      rw [hy]
      clear hmem
      rcases List.mem_append.1 hmem' with hx | hx
      · obtain ⟨m, hm, e'⟩ := List.getElem_of_mem hx
        rw [← getD_get hm] at e'
        have hml : m < l.length := by simpa using hm
        have e2 := (sp_numC HX.out hpl HXr.out hFP m hml).start
        have e3 : y.2.2.2.2 = (l.getD m cl0).2.2.2.2 := by
          rw [← e', sp_cell hpl HXr.out]
          split
          · rename_i hmp
            rw [hmp, HXr.out]
          · rfl
        rw [e'] at e2
        have hmN : m + 1 ≤ N := by have := HN.out; omega
        rw [e3, e2, hF2.2.2.2.1 (m + 1) hmN]
        have hL := HST.out m hml
        exact ⟨((((HTx.out m hml).below HB5.out).below hb6).below hb7).below hb8, by omega⟩
      · obtain ⟨⟨a, b⟩, hab, e⟩ := List.mem_map.1 hx
        rw [← e]
        simp only [stR, stC, sqC, Int.toNat_natCast]
        have hin := restL_mem.1 hab
        have h0 := (sp_zero HX.out hpl HXr.out a b (by omega) (by omega)).2 hab
        have := (hF3.2.2.2.2.2.2.1 a b (by unfold vis; omega) h0).2
        rw [this]
        exact ⟨⟨rfl, Nat.le_refl _, Nat.zero_le _, .inl rfl⟩, by simp⟩
    refine wpAnyH_ready (rs := [8]) (by kernel_rfl) (by simp) ?_
    refine AllReadyH.cons rfl (fun K hK => ?_) AllReadyH.nil
    go_simp
    go_at_call 26
    refine (table_any R C n2 f2 t2 (splitL l p) _ (by omega) (by omega) hle hrep hlen2 ht).mono ?_
    rintro e w9 ⟨⟨a', c', rs, rfl, hO⟩, hb9⟩
    go_wp2_with fail
    refine hK.out _ _ ⟨hHeld.1.below hb9 (by omega), hHeld.2.1.below hb9 (by omega), hHeld.2.2.below hb9 (by omega)⟩ (fun hHeld => ?_)
    clear hK K
    (try simp only [Act.put, List.setIfInBounds_toArray, List.set_cons_zero, List.set_cons_succ])
    have s9 := hb9.size
    have HZ9 : Hid (RowAt w9 (w.heap.size + 1) #[.int .i64 0, .int .i64 0, .slice none 0 0] 25) := (((HZ5.out.below hb6 (by omega)).below hb7 (by omega)).below hb8 (by omega)).below hb9 (by omega)
    have HO : Hid (OwnT w9 w8.heap.size (.slice a' (splitL l p).length c') rs (splitL l p)) := hO
    obtain ⟨M, HM⟩ : ∃ M, Hid ((splitL l p).length = M) := ⟨_, rfl⟩
    rw [HM.out]
    rw [HM.out] at HO
    have bF : Below w.heap.size w w9 := (((((HB0.out.trans (HB2.out.mono s0)).trans (HB5.out.mono (by omega))).trans (hb6.mono (by omega))).trans (hb7.mono (by omega))).trans (hb8.mono (by omega))).trans (hb9.mono (by omega))
    have HBF : Hid (Below w.heap.size w w9) := bF
    clear hO hrep ht hlen2 hle hF2 hF3 hFP htl bF
    refine wpAnyH_ready (rs := [9]) (by kernel_rfl) (by simp) ?_
    refine AllReadyH.cons rfl (fun K hK => ?_) AllReadyH.nil
    rw [if_pos (by kernel_rfl)]
    refine wp_store_row 25 (.tmp 4) (.tmp 52) rfl (w.heap.size + 1) #[.int .i64 R, .int .i64 C, .slice a' M c'] rfl rfl 25 _ HZ9.out tab_info rfl (cells3_one _ _ _ _ _) ?_
    have HZF : Hid (RowAt (w9.setRow (w.heap.size + 1) #[.int .i64 R, .int .i64 C, .slice a' M c']) (w.heap.size + 1) #[.int .i64 R, .int .i64 C, .slice a' M c'] 25) := HZ9.out.setRow _
    have HOF : Hid (OwnT (w9.setRow (w.heap.size + 1) #[.int .i64 R, .int .i64 C, .slice a' M c']) w8.heap.size (.slice a' M c') rs (splitL l p)) := ⟨own_row HO.out.1 _ _ (fun e => by have := (own_lt HO.out.1.row e).1; omega), HO.out.2.rowLow _ _ (by omega)⟩
    have HBG : Hid (Below w.heap.size w (w9.setRow (w.heap.size + 1) #[.int .i64 R, .int .i64 C, .slice a' M c'])) := below_row HBF.out (by omega) _
    refine hK.out _ _ ⟨RowAt.setRowOther hHeld.1 _ _ (by omega), RowAt.setRowOther hHeld.2.1 _ _ (by omega), RowAt.setRowOther hHeld.2.2 _ _ (by omega)⟩ (fun hHeld => ?_)
    clear hK K
    simp only [Act.put]
    generalize (w9.setRow (w.heap.size + 1) #[.int .i64 R, .int .i64 C, .slice a' M c']) = w10 at HZF HOF HBG hHeld ⊢
    refine take_at 10 5 (.bool true) rfl rfl (by kernel_rfl) (by kernel_rfl) (by kernel_rfl) (fun _ _ _ h => h) (Or.inl ⟨by kernel_rfl, fun w' hS' => by go_simp⟩) hHeld ?_
    (try simp only [Act.put, List.setIfInBounds_toArray])
    refine wpAnyH_done (by kernel_rfl) ?_ _
    refine NoPanic.normal ?_
    go_wp2_with fail
    refine bodyPost_ret (v := .tuple #[.agg #[.int .i64 R, .int .i64 C, .slice a' M c'], .bool true]) ?_ rfl ⟨.inr ⟨HYB.out, a', c', rs, ?_, ?_⟩, HBG.out⟩
    · rw [results_cell_tmp rfl]
      simp [asAddr, Result.andThen, run_tabOf HZF.out]
    · rw [HM.out]
    · rw [HM.out]
      exact OwnT.less HOF.out (by omega)
end Go.Proofs.Ytpgldodnnlcceaa
namespace Go.Proofs.Ytpgldodnnlcceaa
open Go.RowKit

theorem restK_count (r c g : Nat) (hg : 1 ≤ g) : ∀ k j, j ≤ g → (restK r c g k j).length + 1 = k * g + j ∨ (k = 0 ∧ j = 0 ∧ (restK r c g k j).length = 0)
  | 0, 0, _ => Or.inr ⟨rfl, rfl, rfl⟩
  | 0, j + 1, h => by
    refine Or.inl ?_
    by_cases hj : j = 0
    · subst hj
      rw [restK_skip r c g 0 0 (by omega)]
      simp [restK]
    · rw [restK_put r c g 0 j (by omega), List.length_append]
      rcases restK_count r c g hg 0 j (by omega) with e | ⟨_, e, _⟩
      · simp only [List.length_cons, List.length_nil]
        omega
      · omega
  | k + 1, 0, h => by
    refine Or.inl ?_
    rw [← restK_row r c g k]
    rcases restK_count r c g hg k g (Nat.le_refl _) with e | ⟨_, e, _⟩
    · rw [e, Nat.succ_mul]
      omega
    · omega
  | k + 1, j + 1, h => by
    refine Or.inl ?_
    rw [restK_put r c g (k + 1) j (by omega), List.length_append]
    rcases restK_count r c g hg (k + 1) j (by omega) with e | ⟨e, _, _⟩
    · simp only [List.length_cons, List.length_nil]
      omega
    · omega
theorem restL_len (r c d g : Nat) (hd : 1 ≤ d) (hg : 1 ≤ g) : (restL r c d g).length + 1 = d * g := by
  rw [← restK_end]
  rcases restK_count r c g hg d 0 (Nat.zero_le _) with e | ⟨e, _, _⟩
  · omega
  · omega
/-- What a cell that can be split is. -/
theorem split_data {R C t' : Int} {l : List Cl} (h : splitB R C l t' = true) : ∃ (p r c d g : Nat) (tx : List Sg), t' = p ∧ p < l.length ∧ okB R C l = true ∧ l.getD p cl0 = ((r : Int), (c : Int), (d : Int), (g : Int), tx) ∧ 1 ≤ d ∧ 1 ≤ g ∧ (r : Int) + d ≤ R ∧ (c : Int) + g ≤ C ∧ 2 ≤ d * g := by
  simp only [splitB, Bool.and_eq_true, decide_eq_true_eq] at h
  obtain ⟨⟨h1, h2⟩, h3⟩ := h
  obtain ⟨p, rfl⟩ : ∃ p : Nat, t' = p := ⟨t'.toNat, by omega⟩
  have hp : p < l.length := by omega
  rw [Int.toNat_natCast] at h3
  have hw := ok_cell h1 (getD_mem hp)
  obtain ⟨r, hr⟩ : ∃ r : Nat, (l.getD p cl0).1 = r := ⟨(l.getD p cl0).1.toNat, by omega⟩
  obtain ⟨c, hc⟩ : ∃ r : Nat, (l.getD p cl0).2.1 = r := ⟨(l.getD p cl0).2.1.toNat, by omega⟩
  obtain ⟨d, hd⟩ : ∃ r : Nat, (l.getD p cl0).2.2.1 = r := ⟨(l.getD p cl0).2.2.1.toNat, by omega⟩
  obtain ⟨g, hg⟩ : ∃ r : Nat, (l.getD p cl0).2.2.2.1 = r := ⟨(l.getD p cl0).2.2.2.1.toNat, by omega⟩
  rw [hd, hg, Int.toNat_natCast, Int.toNat_natCast] at h3
  refine ⟨p, r, c, d, g, (l.getD p cl0).2.2.2.2, rfl, hp, h1, ?_, by omega, by omega, by omega, by omega, h3⟩
  rw [← hr, ← hc, ← hd, ← hg]
section
variable {R C : Int} {l : List Cl} {p r c d g : Nat} {tx : List Sg}
theorem splitL_iff (hp : p < l.length) (e : l.getD p cl0 = ((r : Int), (c : Int), (d : Int), (g : Int), tx)) {z : Cl} : z ∈ splitL l p ↔ (∃ m, m < l.length ∧ m ≠ p ∧ z = l.getD m cl0) ∨ z = ((r : Int), (c : Int), 1, 1, tx) ∨ ∃ a b, (a, b) ∈ restL r c d g ∧ z = sqC (a, b) := by
  unfold splitL
  rw [(sortC_perm _).mem_iff, splitM_nat e, List.mem_append, List.mem_map]
  have hone : oneC (l.getD p cl0) = ((r : Int), (c : Int), 1, 1, tx) := by rw [e]; rfl
  constructor
  · rintro (hz | ⟨⟨a, b⟩, hab, rfl⟩)
    · obtain ⟨m, hm, rfl⟩ := List.getElem_of_mem hz
      rw [List.length_set] at hm
      by_cases hmp : m = p
      · subst hmp
        exact Or.inr (Or.inl (by rw [List.getElem_set_self, hone]))
      · exact Or.inl ⟨m, hm, hmp, by rw [List.getElem_set_ne (Ne.symm hmp), getD_get hm]⟩
    · exact Or.inr (Or.inr ⟨a, b, hab, rfl⟩)
  · rintro (⟨m, hm, hmp, rfl⟩ | rfl | ⟨a, b, hab, rfl⟩)
    · refine Or.inl (List.mem_iff_getElem.2 ⟨m, by rw [List.length_set]; exact hm, ?_⟩)
      rw [List.getElem_set_ne (Ne.symm hmp), getD_get hm]
    · refine Or.inl (List.mem_iff_getElem.2 ⟨p, by rw [List.length_set]; exact hp, ?_⟩)
      rw [List.getElem_set_self, hone]
    · exact Or.inr ⟨(a, b), hab, rfl⟩
theorem splitL_len (e : l.getD p cl0 = ((r : Int), (c : Int), (d : Int), (g : Int), tx)) (hd : 1 ≤ d) (hg : 1 ≤ g) : (splitL l p).length + 1 = l.length + d * g := by
  unfold splitL
  rw [(sortC_perm _).length_eq, splitM_nat e, List.length_append, List.length_set, List.length_map, ← restL_len r c d g hd hg]
  omega
theorem ok_split (h : okB R C l = true) (hp : p < l.length) (e : l.getD p cl0 = ((r : Int), (c : Int), (d : Int), (g : Int), tx)) : okB R C (splitL l p) = true := by
  obtain ⟨hR, hC, _, _⟩ := gridP_of_okB h
  obtain ⟨R, rfl⟩ : ∃ z : Nat, R = z := ⟨R.toNat, by omega⟩
  obtain ⟨C, rfl⟩ : ∃ z : Nat, C = z := ⟨C.toNat, by omega⟩
  have ht := tiles_split h hp e (fillP_any C l.length R _ (by omega) (ok_small h).1 (fun s => spF_le hp s))
  refine okB_sort ht (by omega) (by omega) (ht.few (by omega) (by omega)) ?_
  intro x hx
  have hx' := (splitL_iff hp e).1 ((sortC_perm _).mem_iff.2 hx)
  rcases hx' with ⟨m, hm, _, rfl⟩ | rfl | ⟨a, b, _, rfl⟩
  · exact ok_txt h _ (getD_mem hm)
  · have := ok_txt h _ (getD_mem hp)
    rw [e] at this
    exact this
  · rfl
/-- The square that keeps the text of what was split. -/
theorem split_at (h : okB R C l = true) (hp : p < l.length) (e : l.getD p cl0 = ((r : Int), (c : Int), (d : Int), (g : Int), tx)) : ∃ k, k < (splitL l p).length ∧ atN R C (splitL l p) r c = (k : Int) ∧ (splitL l p).getD k cl0 = ((r : Int), (c : Int), 1, 1, tx) :=
  at_of (ok_split h hp e) ((splitL_iff hp e).2 (Or.inr (Or.inl rfl))) r c (inB_is.2 (by simp only; omega))
end
end Go.Proofs.Ytpgldodnnlcceaa
namespace Go.Proofs.Ytpgldodnnlcceaa
open Go.RowKit

/-- How many of the first n bits are set. -/
def bitsN (x n : Nat) : Nat := ((List.range n).filter (fun i => x.testBit i)).length
theorem bitsN_add (x m n : Nat) : bitsN x (m + n) = bitsN x m + bitsN (x >>> m) n := by
  unfold bitsN
  rw [List.range_add, List.filter_append, List.length_append, List.filter_map, List.length_map]
  congr 3
  funext i
  simp [Nat.testBit_shiftRight]
theorem bitsN_8 : ∀ n : Fin 256, Lib.onesCount n.val = bitsN n.val 8 := by decide +kernel
theorem bitsN_mod (x : Nat) : bitsN (x % 256) 8 = bitsN x 8 := by
  unfold bitsN
  congr 1
  apply List.filter_congr
  intro i hi
  have : i < 8 := by simpa using hi
  rw [show (256 : Nat) = 2 ^ 8 from rfl, Nat.testBit_mod_two_pow]
  simp [this]
theorem ones8 (x : Nat) : Lib.onesCount (x % 256) = bitsN x 8 := by
  rw [bitsN_8 ⟨x % 256, by omega⟩, bitsN_mod]
theorem ones_bits (x : Nat) (h : x < 2 ^ 32) : Lib.onesCount (x / 16777216) + Lib.onesCount (x / 65536 % 256) + Lib.onesCount (x / 256 % 256) + Lib.onesCount (x % 256) = bitsN x 32 := by
  have e0 : x / 16777216 = x / 16777216 % 256 := by omega
  rw [e0, ones8, ones8, ones8, ones8, show (32 : Nat) = 8 + (8 + (8 + 8)) from rfl, bitsN_add, bitsN_add, bitsN_add, ← Nat.shiftRight_add, ← Nat.shiftRight_add, Nat.shiftRight_eq_div_pow, Nat.shiftRight_eq_div_pow, Nat.shiftRight_eq_div_pow]
  simp only [Nat.reduceAdd, Nat.reducePow]
  omega
theorem pop8_at (n : Nat) (h : n < 256) : Lib.pop8 (n : Int) = ((Lib.onesCount n : Nat) : Int) := Lib.pop8_eq ⟨n, h⟩
theorem and255 (y : Nat) (h : y < 2 ^ 26) : bits .and .u32 (y : Int) 255 = ((y % 256 : Nat) : Int) := by
  have := and_nat y 255 h (by decide)
  rw [show ((255 : Nat) : Int) = 255 from rfl] at this
  rw [this, show (255 : Nat) = 2 ^ 8 - 1 from rfl, Nat.and_two_pow_sub_one_eq_mod]

set_option maxRecDepth 100000 in
set_option maxHeartbeats 4000000 in
theorem ones_any (x : Nat) (hx : x < 2 ^ 26) (w : World) :
    Calls Try.prog 57 #[.int .u32 x] w fun e w' => e = .returned (.int .i64 (bitsN x 32)) ∧ ∃ q, w' = w.drewN q := by
  have HE : Hid (Lib.onesCount (x / 16777216) + Lib.onesCount (x / 65536 % 256) + Lib.onesCount (x / 256 % 256) + Lib.onesCount (x % 256) = bitsN x 32) := ones_bits x (by omega)
  obtain ⟨A, hA⟩ : ∃ A, x / 16777216 = A := ⟨_, rfl⟩
  obtain ⟨B, hB⟩ : ∃ A, x / 65536 % 256 = A := ⟨_, rfl⟩
  obtain ⟨C, hC⟩ : ∃ A, x / 256 % 256 = A := ⟨_, rfl⟩
  obtain ⟨D, hD⟩ : ∃ A, x % 256 = A := ⟨_, rfl⟩
  rw [hA, hB, hC, hD] at HE
  have HA : Hid (x / 16777216 = A) := hA
  have HB : Hid (bits .and .u32 ((x / 65536 : Nat) : Int) 255 = (B : Int)) := by
    show bits .and .u32 ((x / 65536 : Nat) : Int) 255 = (B : Int)
    rw [and255 _ (by omega), hB]
  have HC : Hid (bits .and .u32 ((x / 256 : Nat) : Int) 255 = (C : Int)) := by
    show bits .and .u32 ((x / 256 : Nat) : Int) 255 = (C : Int)
    rw [and255 _ (by omega), hC]
  have HD : Hid (bits .and .u32 (x : Int) 255 = (D : Int)) := by
    show bits .and .u32 (x : Int) 255 = (D : Int)
    rw [and255 _ (by omega), hD]
  have a0 : A < 256 := by omega
  have b0 : B < 256 := by omega
  have c0 : C < 256 := by omega
  have d0 : D < 256 := by omega
  have PA : Hid (Lib.pop8 (A : Int) = ((Lib.onesCount A : Nat) : Int)) := pop8_at A a0
  have PB : Hid (Lib.pop8 (B : Int) = ((Lib.onesCount B : Nat) : Int)) := pop8_at B b0
  have PC : Hid (Lib.pop8 (C : Int) = ((Lib.onesCount C : Nat) : Int)) := pop8_at C c0
  have PD : Hid (Lib.pop8 (D : Int) = ((Lib.onesCount D : Nat) : Int)) := pop8_at D d0
  have l1 := Lib.onesCount_le8 ⟨A, a0⟩
  have l2 := Lib.onesCount_le8 ⟨B, b0⟩
  have l3 := Lib.onesCount_le8 ⟨C, c0⟩
  have l4 := Lib.onesCount_le8 ⟨D, d0⟩
  simp only at l1 l2 l3 l4
  have i1 : (0 : Int) ≤ A := by omega
  have i2 : (A : Int) ≤ 255 := by omega
  have i3 : (0 : Int) ≤ B := by omega
  have i4 : (B : Int) ≤ 255 := by omega
  have i5 : (0 : Int) ≤ C := by omega
  have i6 : (C : Int) ≤ 255 := by omega
  have i7 : (0 : Int) ≤ D := by omega
  have i8 : (D : Int) ≤ 255 := by omega
  obtain ⟨p, hp⟩ : ∃ p, Lib.onesCount A = p := ⟨_, rfl⟩
  obtain ⟨q, hq⟩ : ∃ p, Lib.onesCount B = p := ⟨_, rfl⟩
  obtain ⟨r, hr⟩ : ∃ p, Lib.onesCount C = p := ⟨_, rfl⟩
  obtain ⟨s, hs⟩ : ∃ p, Lib.onesCount D = p := ⟨_, rfl⟩
  rw [hp, hq, hr, hs] at HE
  rw [hp] at PA l1
  rw [hq] at PB l2
  rw [hr] at PC l3
  rw [hs] at PD l4
  clear hA hB hC hD hp hq hr hs
  go_enter Try.func57, Try.ntmps57
  go_wp2_with fail
  refine wp_region_noPanic ?_
  refine wp_region_held_drew (S := fun _ => True) (by kernel_rfl) trivial (fun hHeld => ?_)
  refine take_at 0 3 (.int .u32 x) rfl rfl (by kernel_rfl) (by kernel_rfl) (by kernel_rfl) (fun _ _ _ h => h) (Or.inl ⟨by kernel_rfl, fun w' hS' => by go_simp⟩) hHeld ?_
  (try simp only [Act.put, List.setIfInBounds_toArray, List.set_cons_zero, List.set_cons_succ])
  refine take_at 1 4 (.int .u32 A) rfl rfl (by kernel_rfl) (by kernel_rfl) (by kernel_rfl) (fun _ _ _ h => h) (Or.inl ⟨by kernel_rfl, fun w' hS' => by rw [← HA.out]; go_simp⟩) hHeld ?_
  (try simp only [Act.put, List.setIfInBounds_toArray, List.set_cons_zero, List.set_cons_succ])
  refine take_at 2 5 (.int .u8 p) rfl rfl (by kernel_rfl) (by kernel_rfl) (by kernel_rfl) (fun _ _ _ h => h) (Or.inl ⟨by kernel_rfl, fun w' hS' => by rw [← PA.out]; go_simp⟩) hHeld ?_
  (try simp only [Act.put, List.setIfInBounds_toArray, List.set_cons_zero, List.set_cons_succ])
  refine take_at 3 6 (.int .u32 x) rfl rfl (by kernel_rfl) (by kernel_rfl) (by kernel_rfl) (fun _ _ _ h => h) (Or.inl ⟨by kernel_rfl, fun w' hS' => by go_simp⟩) hHeld ?_
  (try simp only [Act.put, List.setIfInBounds_toArray, List.set_cons_zero, List.set_cons_succ])
  refine take_at 4 7 (.int .u32 ((x / 65536 : Nat) : Int)) rfl rfl (by kernel_rfl) (by kernel_rfl) (by kernel_rfl) (fun _ _ _ h => h) (Or.inl ⟨by kernel_rfl, fun w' hS' => by go_simp⟩) hHeld ?_
  (try simp only [Act.put, List.setIfInBounds_toArray, List.set_cons_zero, List.set_cons_succ])
  refine take_at 5 8 (.int .u32 B) rfl rfl (by kernel_rfl) (by kernel_rfl) (by kernel_rfl) (fun _ _ _ h => h) (Or.inl ⟨by kernel_rfl, fun w' hS' => by rw [← HB.out]; go_simp⟩) hHeld ?_
  (try simp only [Act.put, List.setIfInBounds_toArray, List.set_cons_zero, List.set_cons_succ])
  refine take_at 6 9 (.int .u8 q) rfl rfl (by kernel_rfl) (by kernel_rfl) (by kernel_rfl) (fun _ _ _ h => h) (Or.inl ⟨by kernel_rfl, fun w' hS' => by rw [← PB.out]; go_simp⟩) hHeld ?_
  (try simp only [Act.put, List.setIfInBounds_toArray, List.set_cons_zero, List.set_cons_succ])
  refine take_at 7 10 (.int .u8 ((p + q : Nat) : Int)) rfl rfl (by kernel_rfl) (by kernel_rfl) (by kernel_rfl) (fun _ _ _ h => h) (Or.inl ⟨by kernel_rfl, fun w' hS' => by go_simp; simp only [IntKind.wrap, IntKind.bits, IntKind.signed]; simp; omega⟩) hHeld ?_
  (try simp only [Act.put, List.setIfInBounds_toArray, List.set_cons_zero, List.set_cons_succ])
  refine take_at 8 11 (.int .u32 x) rfl rfl (by kernel_rfl) (by kernel_rfl) (by kernel_rfl) (fun _ _ _ h => h) (Or.inl ⟨by kernel_rfl, fun w' hS' => by go_simp⟩) hHeld ?_
  (try simp only [Act.put, List.setIfInBounds_toArray, List.set_cons_zero, List.set_cons_succ])
  refine take_at 9 12 (.int .u32 ((x / 256 : Nat) : Int)) rfl rfl (by kernel_rfl) (by kernel_rfl) (by kernel_rfl) (fun _ _ _ h => h) (Or.inl ⟨by kernel_rfl, fun w' hS' => by go_simp⟩) hHeld ?_
  (try simp only [Act.put, List.setIfInBounds_toArray, List.set_cons_zero, List.set_cons_succ])
  refine take_at 10 13 (.int .u32 C) rfl rfl (by kernel_rfl) (by kernel_rfl) (by kernel_rfl) (fun _ _ _ h => h) (Or.inl ⟨by kernel_rfl, fun w' hS' => by rw [← HC.out]; go_simp⟩) hHeld ?_
  (try simp only [Act.put, List.setIfInBounds_toArray, List.set_cons_zero, List.set_cons_succ])
  refine take_at 11 14 (.int .u8 r) rfl rfl (by kernel_rfl) (by kernel_rfl) (by kernel_rfl) (fun _ _ _ h => h) (Or.inl ⟨by kernel_rfl, fun w' hS' => by rw [← PC.out]; go_simp⟩) hHeld ?_
  (try simp only [Act.put, List.setIfInBounds_toArray, List.set_cons_zero, List.set_cons_succ])
  refine take_at 12 15 (.int .u8 ((p + q + r : Nat) : Int)) rfl rfl (by kernel_rfl) (by kernel_rfl) (by kernel_rfl) (fun _ _ _ h => h) (Or.inl ⟨by kernel_rfl, fun w' hS' => by go_simp; simp only [IntKind.wrap, IntKind.bits, IntKind.signed]; simp; omega⟩) hHeld ?_
  (try simp only [Act.put, List.setIfInBounds_toArray, List.set_cons_zero, List.set_cons_succ])
  refine take_at 13 16 (.int .u32 x) rfl rfl (by kernel_rfl) (by kernel_rfl) (by kernel_rfl) (fun _ _ _ h => h) (Or.inl ⟨by kernel_rfl, fun w' hS' => by go_simp⟩) hHeld ?_
  (try simp only [Act.put, List.setIfInBounds_toArray, List.set_cons_zero, List.set_cons_succ])
  refine take_at 14 17 (.int .u32 D) rfl rfl (by kernel_rfl) (by kernel_rfl) (by kernel_rfl) (fun _ _ _ h => h) (Or.inl ⟨by kernel_rfl, fun w' hS' => by rw [← HD.out]; go_simp⟩) hHeld ?_
  (try simp only [Act.put, List.setIfInBounds_toArray, List.set_cons_zero, List.set_cons_succ])
  refine take_at 15 18 (.int .u8 s) rfl rfl (by kernel_rfl) (by kernel_rfl) (by kernel_rfl) (fun _ _ _ h => h) (Or.inl ⟨by kernel_rfl, fun w' hS' => by rw [← PD.out]; go_simp⟩) hHeld ?_
  (try simp only [Act.put, List.setIfInBounds_toArray, List.set_cons_zero, List.set_cons_succ])
  refine take_at 16 19 (.int .u8 ((p + q + r + s : Nat) : Int)) rfl rfl (by kernel_rfl) (by kernel_rfl) (by kernel_rfl) (fun _ _ _ h => h) (Or.inl ⟨by kernel_rfl, fun w' hS' => by go_simp; simp only [IntKind.wrap, IntKind.bits, IntKind.signed]; simp; omega⟩) hHeld ?_
  (try simp only [Act.put, List.setIfInBounds_toArray, List.set_cons_zero, List.set_cons_succ])
  refine take_at 17 20 (.int .i64 ((p + q + r + s : Nat) : Int)) rfl rfl (by kernel_rfl) (by kernel_rfl) (by kernel_rfl) (fun _ _ _ h => h) (Or.inl ⟨by kernel_rfl, fun w' hS' => by go_simp; simp only [IntKind.wrap, IntKind.bits, IntKind.signed]; simp; omega⟩) hHeld ?_
  (try simp only [Act.put, List.setIfInBounds_toArray, List.set_cons_zero, List.set_cons_succ])
  refine take_at 18 2 (.int .i64 ((p + q + r + s : Nat) : Int)) rfl rfl (by kernel_rfl) (by kernel_rfl) (by kernel_rfl) (fun _ _ _ h => h) (Or.inl ⟨by kernel_rfl, fun w' hS' => by go_simp⟩) hHeld ?_
  (try simp only [Act.put, List.setIfInBounds_toArray, List.set_cons_zero, List.set_cons_succ])
  refine wpAnyH_done (by kernel_rfl) ?_ _
  refine NoPanic.normal ?_
  go_wp2_with fail
  go_ret
  exact ⟨by rw [HE.out]; rfl, 1, rfl⟩
end Go.Proofs.Ytpgldodnnlcceaa
namespace Go.Proofs.Ytpgldodnnlcceaa
open Go.RowKit

/-- The texts of the numbers in a set, the first n. -/
def wrT (x : Nat) (ls : Nat → List Sg) (n : Nat) : List Sg := ((List.range n).filter (fun k => x.testBit (k + 1))).flatMap (fun k => ls (k + 1))
theorem wrT_put (x : Nat) (ls : Nat → List Sg) (k : Nat) (h : x.testBit (k + 1) = true) : wrT x ls (k + 1) = wrT x ls k ++ ls (k + 1) := by
  unfold wrT
  rw [List.range_succ, List.filter_append, List.flatMap_append]
  simp [h]
theorem wrT_skip (x : Nat) (ls : Nat → List Sg) (k : Nat) (h : x.testBit (k + 1) = false) : wrT x ls (k + 1) = wrT x ls k := by
  unfold wrT
  rw [List.range_succ, List.filter_append, List.flatMap_append]
  simp [h]
theorem wrT_len (x : Nat) (ls : Nat → List Sg) (hl : ∀ k, (ls k).length ≤ 24) : ∀ n, (wrT x ls n).length ≤ 24 * n
  | 0 => by simp [wrT]
  | n + 1 => by
    have h1 := wrT_len x ls hl n
    have h2 := hl (n + 1)
    cases h : x.testBit (n + 1)
    · rw [wrT_skip x ls n h]; omega
    · rw [wrT_put x ls n h, List.length_append]; omega

set_option maxRecDepth 100000 in
set_option maxHeartbeats 4000000 in
theorem size_any (x : Nat) (hx : x < 2 ^ 26) (w : World) :
    Calls Try.prog 40 #[.int .u32 x] w fun e w' => e = .returned (.int .i64 (bitsN x 32)) ∧ Below w.heap.size w w' := by
  go_enter Try.func40, Try.ntmps40
  go_wp2_with (go_at_call 57; refine (ones_any x hx _).mono ?_; rintro e w1 ⟨rfl, q, rfl⟩)
  go_ret
  exact ⟨rfl, below_drewN (Below.refl _ _) _⟩

set_option maxRecDepth 100000 in
set_option maxHeartbeats 4000000 in
theorem written_any (R C : Int) (n x : Nat) (f : Nat → Nat) (t : Nat → Sl) (ls : Nat → List Sg) (w : World) (hx : x < 2 ^ 26) (hn : n ≤ 25) (ht : ∀ k, 1 ≤ k → k ≤ n → Txt w (t k).1 (t k).2.1 (t k).2.2 (ls k)) (hl : ∀ k, (ls k).length ≤ 24) :
    Calls Try.prog 39 #[.agg (gridA R C n f t), .int .u32 x] w fun z w' => (∃ a m c, z = .returned (.slice a m c) ∧ Own w' w.heap.size (.slice a m c) (wrT x ls n)) ∧ Below w.heap.size w w' := by
  have HT : Hid (∀ k, 1 ≤ k → k ≤ n → Txt w (t k).1 (t k).2.1 (t k).2.2 (ls k)) := ht
  have HL : Hid (∀ k, (ls k).length ≤ 24) := hl
  clear ht hl
  go_enter Try.func39, Try.ntmps39
  go_upto_region 1 with fail
  have B0 : Below w.heap.size w (w.alloc (.cells (gridA R C n f t) 48)) := (Below.refl _ _).alloc (Nat.le_refl _) _
  have G0 : GridAt (w.alloc (.cells (gridA R C n f t) 48)) w.heap.size R C n f t := gridAt_new w R C n f t
  generalize (w.alloc (.cells (gridA R C n f t) 48)) = v0 at B0 G0 ⊢
  have s0 := B0.size
  have z0 := G0.lt
  go_wp2_with fail
  go_loopw [5, 6] (fun sv kv wr => ∃ (k : Nat) (a : Option Addr) (m c : Nat), k ≤ n ∧ kv = .int .i64 ((k + 1 : Nat) : Int) ∧ sv = .slice a m c ∧ Own wr v0.heap.size (.slice a m c) (wrT x ls k) ∧ Below v0.heap.size v0 wr) (fun _ kv _ => n + 1 - (intOf kv).toNat)
  case atStart => exact ⟨0, none, 0, 0, Nat.zero_le _, rfl, rfl, World.ownsRow_nil _ _ _ _, Below.refl _ _⟩
  case round =>
    obtain ⟨k, a, m, c, hk, rfl, rfl, ho, hb⟩ := hrel
    have HO : Hid (Own wr v0.heap.size (.slice a m c) (wrT x ls k)) := ho
    have HB : Hid (Below v0.heap.size v0 wr) := hb
    have HW : Hid (Below w.heap.size w wr) := B0.trans (hb.mono s0)
    have hml := wrT_len x ls HL.out k
    have hmn : m ≤ 24 * k := by have := ho.txt.1; omega
    have k2 := (G0.below hb z0).cells
    have szr := hb.size
    obtain ⟨K, hK⟩ : ∃ K : Nat, k + 1 = K := ⟨_, rfl⟩
    rw [hK]
    by_cases hlt : k < n
    · have hKn : (K : Int) ≤ n := by omega
      have hK0 : (0 : Int) ≤ K := by omega
      have hK26 : (K : Int) < 26 := by omega
      have kt := (G0.below hb z0).txt K (by omega)
      obtain ⟨⟨ta, tn, tc⟩, hts⟩ : ∃ s, t K = s := ⟨_, rfl⟩
      rw [hts] at kt
      simp only [slV] at kt
      have HTX : Hid (Txt wr ta tn tc (ls K)) := by
        have := (HT.out K (by omega) (by omega)).below HW.out
        rw [hts] at this
        exact this
      have hln := HL.out K
      have htn : tn ≤ 24 := by have := HTX.out.1; omega
      cases hbt : x.testBit K
      · have HBt : Hid (x.testBit K = false) := hbt
        have HKK : Hid (k + 1 = K) := hK
        clear ho hb hbt hK hts hml
        go_wp2_with (go_at_call 48; refine (numHas_is HBt.out hx (by omega) _).mono ?_; rintro e w4 ⟨rfl, hw4⟩; subst w4)
        go_roundw
        case rel =>
          refine ⟨k + 1, a, m, c, by omega, ?_, rfl, ?_, HB.out⟩
          · rw [HKK.out]; go_num
          · rw [wrT_skip x ls k (by rw [HKK.out]; exact HBt.out)]; exact HO.out
        case measure => have := HKK.out; simp [intOf]; omega
      · have HBt : Hid (x.testBit K = true) := hbt
        have HKK : Hid (k + 1 = K) := hK
        clear ho hb hbt hK hts hml
        go_wp2_with (first | (go_at_call 48; refine (numHas_is HBt.out hx (by omega) _).mono ?_; rintro e w4 ⟨rfl, hw4⟩; subst w4) | (at_builtin; refine wpList_append_txt rfl (.tmp 16) (.tmp 20) rfl v0.heap.size (.slice a m c) m _ rfl HO.out.row ta tn tc (ls K) rfl HTX.out (by omega) szr ?_; intro v' w5 hown hgrow; obtain ⟨p, q, rfl⟩ := Own.shapeN (n := m + tn) (show Own w5 v0.heap.size v' (wrT x ls k ++ ls K) by (unfold Own; rw [flat_append, List.length_append, ← HO.out.len, ← HTX.out.1]; exact hown)) (by rw [List.length_append, ← HO.out.len, ← HTX.out.1])))
        go_roundw
        case rel =>
          refine ⟨k + 1, p, m + tn, q, by omega, ?_, rfl, ?_, ?_⟩
          · rw [HKK.out]; go_num
          · rw [wrT_put x ls k (by rw [HKK.out]; exact HBt.out), HKK.out]
            unfold Own
            rw [flat_append, List.length_append, ← HO.out.len, ← HTX.out.1]
            exact hown
          · exact HB.out.grown hgrow szr (fun g hg => (own_lt HO.out.row hg).1)
        case measure => have := HKK.out; simp [intOf]; omega
    · have hkn : k = n := by omega
      subst hkn
      have hKn : ¬ (K : Int) ≤ k := by omega
      clear ho hb hml hK
      go_wp2_with fail
      go_ret
      exact ⟨⟨a, m, c, rfl, own_less HO.out s0⟩, HW.out⟩
end Go.Proofs.Ytpgldodnnlcceaa
namespace Go.Proofs.Ytpgldodnnlcceaa
open Go.RowKit

theorem cntI_zero_iff (s k r d : Nat) : cntI s k r d = 0 ↔ ∀ i, i < k → ¬ (r ≤ s + i ∧ s + i < r + d) := by
  unfold cntI
  rw [List.length_eq_zero_iff, List.filter_eq_nil_iff]
  simp only [List.mem_range, decide_eq_true_eq]
theorem cntI_full_iff (s k r d : Nat) : cntI s k r d = k ↔ ∀ i, i < k → (r ≤ s + i ∧ s + i < r + d) := by
  unfold cntI
  have := List.length_filter_eq_length_iff (l := List.range k) (p := fun i => decide (r ≤ s + i ∧ s + i < r + d))
  rw [List.length_range] at this
  rw [this]
  simp only [List.mem_range, decide_eq_true_eq]
theorem mul_full {a b m n : Nat} (h1 : a ≤ m) (h2 : b ≤ n) (hm : 1 ≤ m) (hn : 1 ≤ n) : a * b = m * n ↔ a = m ∧ b = n := by
  constructor
  · intro e
    have h3 : a * b ≤ a * n := Nat.mul_le_mul_left a h2
    have h4 : a * n ≤ m * n := Nat.mul_le_mul_right n h1
    have h5 : a * n = m * n := by omega
    have ha : a = m := Nat.eq_of_mul_eq_mul_right hn h5
    refine ⟨ha, ?_⟩
    rw [ha] at e
    exact Nat.eq_of_mul_eq_mul_left hm e
  · rintro ⟨rfl, rfl⟩
    rfl
section
variable {R C : Nat} {l : List Cl} {r c d g : Nat} {x y : Nat}
/-- No square of a cell is in the rectangle. -/
theorem outs_iff {a b e h : Nat} {t : List Sg} : outsB r c d g ((a : Int), (b : Int), (e : Int), (h : Int), t) = true ↔ ∀ p q, a ≤ p → p < a + e → b ≤ q → q < b + h → ¬ inR r c d g p q := by
  unfold outsB sqN
  simp only [Int.toNat_natCast, decide_eq_true_eq, Nat.mul_eq_zero, cntI_zero_iff]
  constructor
  · rintro (h1 | h1) p q q1 q2 q3 q4 hin
    · exact h1 (p - a) (by omega) (by unfold inR at hin; omega)
    · exact h1 (q - b) (by omega) (by unfold inR at hin; omega)
  · intro hno
    by_cases hz : ∀ i, i < e → ¬ (r ≤ a + i ∧ a + i < r + d)
    · exact .inl hz
    · refine .inr fun j hj hin => hz fun i hi hin' => ?_
      exact hno (a + i) (b + j) (by omega) (by omega) (by omega) (by omega) (by unfold inR; omega)
theorem full_iff {a b e h : Nat} {t : List Sg} (he : 1 ≤ e) (hh : 1 ≤ h) : fullB r c d g ((a : Int), (b : Int), (e : Int), (h : Int), t) = true ↔ ∀ p q, a ≤ p → p < a + e → b ≤ q → q < b + h → inR r c d g p q := by
  unfold fullB sqN
  simp only [Int.toNat_natCast, decide_eq_true_eq]
  rw [mul_full (cntI_le _ _ _ _) (cntI_le _ _ _ _) he hh, cntI_full_iff, cntI_full_iff]
  constructor
  · rintro ⟨_, h1, h2⟩ p q q1 q2 q3 q4
    have := h1 (p - a) (by omega)
    have := h2 (q - b) (by omega)
    unfold inR
    omega
  · intro hall
    have h1 : ∀ i, i < e → (r ≤ a + i ∧ a + i < r + d) := fun i hi => by
      have := hall (a + i) b (by omega) (by omega) (by omega) (by omega)
      unfold inR at this
      omega
    have h2 : ∀ i, i < h → (c ≤ b + i ∧ b + i < c + g) := fun i hi => by
      have := hall a (b + i) (by omega) (by omega) (by omega) (by omega)
      unfold inR at this
      omega
    refine ⟨?_, h1, h2⟩
    rw [(cntI_full_iff a e r d).2 h1, (cntI_full_iff b h c g).2 h2]
    have := Nat.mul_le_mul he hh
    omega
theorem in_bit (h : okB R C l = true) (hx : Mask x (numF l l.length) (fun a b => vis R 0 C a b ∧ inR r c d g a b)) (m : Nat) (hm : m < l.length) : x.testBit (m + 1) = !outsB r c d g (l.getD m cl0) := by
  obtain ⟨a, b, e, w, ec, h1, h2, h3, h4⟩ := cell_nat h m hm
  rw [Bool.eq_iff_iff, hx.2, Bool.not_eq_true', ← Bool.not_eq_true, ec, outs_iff]
  constructor
  · rintro ⟨p, q, ⟨hv, hin⟩, hn⟩ hno
    have hv' : p < R ∧ q < C := by unfold vis at hv; omega
    have := (num_iff h p q m hv'.2).1 hn
    rw [ec, inB_cell] at this
    exact hno p q (by omega) (by omega) (by omega) (by omega) hin
  · intro hno
    refine Classical.byContradiction fun hne => hno fun p q q1 q2 q3 q4 hin => hne ⟨p, q, ⟨by unfold vis; omega, hin⟩, ?_⟩
    exact (num_iff h p q m (by omega)).2 ⟨hm, by rw [ec, inB_cell]; omega⟩
theorem out_bit (h : okB R C l = true) (hy : Mask y (numF l l.length) (fun a b => vis R 0 C a b ∧ ¬ inR r c d g a b)) (m : Nat) (hm : m < l.length) : y.testBit (m + 1) = !fullB r c d g (l.getD m cl0) := by
  obtain ⟨a, b, e, w, ec, h1, h2, h3, h4⟩ := cell_nat h m hm
  rw [Bool.eq_iff_iff, hy.2, Bool.not_eq_true', ← Bool.not_eq_true, ec, full_iff h1 h2]
  constructor
  · rintro ⟨p, q, ⟨hv, hin⟩, hn⟩ hno
    have hv' : p < R ∧ q < C := by unfold vis at hv; omega
    have := (num_iff h p q m hv'.2).1 hn
    rw [ec, inB_cell] at this
    exact hin (hno p q (by omega) (by omega) (by omega) (by omega))
  · intro hno
    refine Classical.byContradiction fun hne => hno fun p q q1 q2 q3 q4 => Classical.byContradiction fun hin => hne ⟨p, q, ⟨by unfold vis; omega, hin⟩, ?_⟩
    exact (num_iff h p q m (by omega)).2 ⟨hm, by rw [ec, inB_cell]; omega⟩
theorem mask_low (h : okB R C l = true) {P : Nat → Nat → Prop} (hx : Mask x (numF l l.length) (fun a b => vis R 0 C a b ∧ P a b)) (k : Nat) (hk : k = 0 ∨ l.length < k) : x.testBit k = false := by
  rw [← Bool.not_eq_true, hx.2]
  rintro ⟨a, b, ⟨hv, _⟩, e⟩
  have h0 := ((gridP_of_okB h).2.2.2 a b (by simpa using hv)).1
  have h1 := numF_le l l.length (a * 5 + b)
  omega
/-- A cell that is cut is in both sets. -/
theorem cut_and (h : okB R C l = true) (hx : Mask x (numF l l.length) (fun a b => vis R 0 C a b ∧ inR r c d g a b)) (hy : Mask y (numF l l.length) (fun a b => vis R 0 C a b ∧ ¬ inR r c d g a b)) :
    (x &&& y = 0) ↔ l.all (fun z => !cutB r c d g z) = true := by
  rw [List.all_eq_true]
  constructor
  · intro e z hz
    obtain ⟨m, hm, ez⟩ := List.getElem_of_mem hz
    rw [← getD_get hm] at ez
    have hb : (x &&& y).testBit (m + 1) = false := by rw [e, Nat.zero_testBit]
    rw [Nat.testBit_and, in_bit h hx m hm, out_bit h hy m hm, ez] at hb
    rw [cutB, hb]
    rfl
  · intro hall
    apply Nat.eq_of_testBit_eq
    intro k
    rw [Nat.testBit_and, Nat.zero_testBit]
    by_cases hk : k = 0 ∨ l.length < k
    · rw [mask_low h hx k hk, Bool.false_and]
    · obtain ⟨m, rfl⟩ : ∃ m, k = m + 1 := ⟨k - 1, by omega⟩
      have hm : m < l.length := by omega
      rw [in_bit h hx m hm, out_bit h hy m hm]
      have := hall _ (getD_mem hm)
      rw [cutB] at this
      generalize l.getD m cl0 = z at this ⊢
      revert this
      cases outsB r c d g z <;> cases fullB r c d g z <;> decide
theorem list_range (l : List Cl) : l = (List.range l.length).map (fun k => l.getD k cl0) := by
  apply List.ext_getElem?
  intro k
  by_cases hk : k < l.length
  · rw [List.getElem?_map, List.getElem?_range hk, List.getElem?_eq_getElem hk]
    simp [List.getD, hk]
  · rw [List.getElem?_eq_none (by omega), List.getElem?_eq_none (by simp; omega)]
/-- Where no cell is cut: which are in the rectangle. -/
theorem in_full (h : okB R C l = true) (hx : Mask x (numF l l.length) (fun a b => vis R 0 C a b ∧ inR r c d g a b)) (hall : l.all (fun z => !cutB r c d g z) = true) (m : Nat) (hm : m < l.length) : x.testBit (m + 1) = fullB r c d g (l.getD m cl0) := by
  rw [in_bit h hx m hm]
  have hc := List.all_eq_true.1 hall _ (getD_mem hm)
  rw [cutB] at hc
  have hno : ¬ (outsB r c d g (l.getD m cl0) = true ∧ fullB r c d g (l.getD m cl0) = true) := by
    rintro ⟨h1, h2⟩
    exact (of_decide_eq_true h2).1 (of_decide_eq_true h1)
  cases h1 : outsB r c d g (l.getD m cl0) <;> cases h2 : fullB r c d g (l.getD m cl0) <;> simp_all
theorem wr_mTx (h : okB R C l = true) (hx : Mask x (numF l l.length) (fun a b => vis R 0 C a b ∧ inR r c d g a b)) (hall : l.all (fun z => !cutB r c d g z) = true) : wrT x (fun k => (l.getD (k - 1) cl0).2.2.2.2) l.length = mTx r c d g l := by
  unfold wrT mTx
  have e : l.filter (fullB r c d g) = ((List.range l.length).filter (fun k => fullB r c d g (l.getD k cl0))).map (fun k => l.getD k cl0) := by
    conv => lhs; rw [list_range l]
    rw [List.filter_map]
    rfl
  rw [e, List.flatMap_map]
  congr 1
  apply List.filter_congr
  intro k hk
  rw [in_full h hx hall k (by simpa using hk)]
theorem bits_mN (h : okB R C l = true) (hx : Mask x (numF l l.length) (fun a b => vis R 0 C a b ∧ inR r c d g a b)) (hall : l.all (fun z => !cutB r c d g z) = true) (hl : l.length ≤ 25) : bitsN x 32 = mN r c d g l := by
  obtain ⟨k, hk⟩ : ∃ k, 31 = l.length + k := ⟨31 - l.length, by omega⟩
  have e1 : bitsN x 1 = 0 := by
    unfold bitsN
    simp [List.range_succ, mask_low h hx 0 (.inl rfl)]
  have e3 : bitsN (x >>> 1 >>> l.length) k = 0 := by
    unfold bitsN
    rw [List.length_eq_zero_iff, List.filter_eq_nil_iff]
    intro i hi
    rw [Nat.testBit_shiftRight, Nat.testBit_shiftRight, mask_low h hx _ (.inr (by omega))]
    simp
  rw [show (32 : Nat) = 1 + 31 from rfl, bitsN_add, hk, bitsN_add, e1, e3]
  unfold bitsN mN
  have e : l.filter (fullB r c d g) = ((List.range l.length).filter (fun k => fullB r c d g (l.getD k cl0))).map (fun k => l.getD k cl0) := by
    conv => lhs; rw [list_range l]
    rw [List.filter_map]
    rfl
  rw [e, List.length_map, Nat.zero_add, Nat.add_zero]
  congr 1
  apply List.filter_congr
  intro i hi
  rw [Nat.testBit_shiftRight, Nat.add_comm, in_full h hx hall i (by simpa using hi)]
theorem giveF_at (f : Nat → Nat) (v a b : Nat) (hb : b < 5) : giveF f r c d g v (a * 5 + b) = if r ≤ a ∧ a < r + d ∧ c ≤ b ∧ b < c + g then v else f (a * 5 + b) := by
  unfold giveF
  rw [show (a * 5 + b) / 5 = a by omega, show (a * 5 + b) % 5 = b by omega]
/-- The cell of the rectangle's first square. -/
theorem first_cell (h : okB R C l = true) (hd : 1 ≤ d) (hg : 1 ≤ g) (hr : r + d ≤ R) (hc : c + g ≤ C) : ∃ m, m < l.length ∧ numF l l.length (r * 5 + c) = m + 1 ∧ outsB r c d g (l.getD m cl0) = false := by
  have h0 := ((gridP_of_okB h).2.2.2 r c (by unfold vis; simp; omega)).1
  obtain ⟨m, hm⟩ : ∃ m, numF l l.length (r * 5 + c) = m + 1 := ⟨numF l l.length (r * 5 + c) - 1, by omega⟩
  obtain ⟨hml, hin⟩ := (num_iff h r c m (by omega)).1 hm
  refine ⟨m, hml, hm, ?_⟩
  obtain ⟨a, b, e, w, ec, h1, h2, h3, h4⟩ := cell_nat h m hml
  rw [ec, inB_cell] at hin
  rw [← Bool.not_eq_true, ec, outs_iff]
  intro hno
  exact hno r c (by omega) (by omega) (by omega) (by omega) (by unfold inR; omega)
theorem not_outs (hall : l.all (fun z => !cutB r c d g z) = true) {m : Nat} (hm : m < l.length) (ho : outsB r c d g (l.getD m cl0) = false) : fullB r c d g (l.getD m cl0) = true := by
  have hc := List.all_eq_true.1 hall _ (getD_mem hm)
  rw [cutB, ho] at hc
  simpa using hc
theorem merge_numC (h : okB R C l = true) (hd : 1 ≤ d) (hg : 1 ≤ g) (hr : r + d ≤ R) (hc : c + g ≤ C) (m : Nat) (hm : m < l.length) (ho : outsB r c d g (l.getD m cl0) = true) :
    NumC R C (giveF (numF l l.length) r c d g (numF l l.length (r * 5 + c))) (l.getD m cl0) (m + 1) ∧ numF l l.length (r * 5 + c) ≠ m + 1 := by
  obtain ⟨hR, hC, _, _⟩ := gridP_of_okB h
  obtain ⟨m0, hm0, e0, ho0⟩ := first_cell h hd hg hr hc
  have hne : m0 ≠ m := by
    rintro rfl
    rw [ho] at ho0
    exact absurd ho0 (by simp)
  obtain ⟨a, b, e, w, ec, h1, h2, h3, h4⟩ := cell_nat h m hm
  refine ⟨⟨a, b, e, w, _, ec, h1, h2, h3, h4, fun p q hp hq => ?_⟩, by omega⟩
  rw [giveF_at _ _ p q (by omega)]
  have hn := num_iff h p q m hq
  rw [ec, inB_cell] at hn
  rw [ec, outs_iff] at ho
  by_cases hin : r ≤ p ∧ p < r + d ∧ c ≤ q ∧ q < c + g
  · rw [if_pos hin, e0]
    constructor
    · intro q'
      omega
    · intro q'
      exact absurd hin (ho p q (by omega) (by omega) (by omega) (by omega))
  · rw [if_neg hin, hn]
    exact ⟨fun q' => q'.2, fun q' => ⟨hm, q'⟩⟩
theorem merged_numC (h : okB R C l = true) (hd : 1 ≤ d) (hg : 1 ≤ g) (hr : r + d ≤ R) (hc : c + g ≤ C) (hall : l.all (fun z => !cutB r c d g z) = true) (tx : List Sg) :
    NumC R C (giveF (numF l l.length) r c d g (numF l l.length (r * 5 + c))) ((r : Int), (c : Int), (d : Int), (g : Int), tx) (numF l l.length (r * 5 + c)) := by
  obtain ⟨hR, hC, _, _⟩ := gridP_of_okB h
  obtain ⟨m0, hm0, e0, ho0⟩ := first_cell h hd hg hr hc
  have hf := not_outs hall hm0 ho0
  obtain ⟨a, b, e, w, ec, h1, h2, h3, h4⟩ := cell_nat h m0 hm0
  rw [ec, full_iff h1 h2] at hf
  refine ⟨r, c, d, g, tx, rfl, hd, hg, hr, hc, fun p q hp hq => ?_⟩
  rw [giveF_at _ _ p q (by omega)]
  by_cases hin : r ≤ p ∧ p < r + d ∧ c ≤ q ∧ q < c + g
  · rw [if_pos hin]
    exact ⟨fun _ => hin, fun _ => rfl⟩
  · rw [if_neg hin, e0, num_iff h p q m0 hq, ec, inB_cell]
    constructor
    · rintro ⟨_, q'⟩
      exact absurd (hf p q (by omega) (by omega) (by omega) (by omega)) hin
    · intro q'
      exact absurd q' hin
theorem mOut_mem {z : Cl} : z ∈ mOut r c d g l ↔ ∃ m, m < l.length ∧ l.getD m cl0 = z ∧ outsB r c d g z = true := by
  unfold mOut
  rw [List.mem_filter]
  constructor
  · rintro ⟨hz, ho⟩
    obtain ⟨m, hm, e⟩ := List.getElem_of_mem hz
    exact ⟨m, hm, by rw [getD_get hm, e], ho⟩
  · rintro ⟨m, hm, rfl, ho⟩
    exact ⟨getD_mem hm, ho⟩
theorem tiles_merge (h : okB R C l = true) (hd : 1 ≤ d) (hg : 1 ≤ g) (hr : r + d ≤ R) (hc : c + g ≤ C) (hall : l.all (fun z => !cutB r c d g z) = true) :
    TilesM R C (giveF (numF l l.length) r c d g (numF l l.length (r * 5 + c))) (mergeM l r c d g) := by
  unfold mergeM
  simp only [Int.toNat_natCast]
  refine tilesM_of ?_ ?_ ?_
  · intro z hz
    rcases List.mem_append.1 hz with hz | hz
    · obtain ⟨m, hm, rfl, ho⟩ := mOut_mem.1 hz
      exact ⟨m + 1, (merge_numC h hd hg hr hc m hm ho).1⟩
    · rw [List.mem_singleton] at hz
      subst hz
      exact ⟨_, merged_numC h hd hg hr hc hall _⟩
  · intro p q hp hq
    by_cases hin : r ≤ p ∧ p < r + d ∧ c ≤ q ∧ q < c + g
    · exact ⟨_, List.mem_append.2 (.inr (List.mem_singleton.2 rfl)), by rw [inB_cell]; exact hin⟩
    · have h0 := ((gridP_of_okB h).2.2.2 p q (by unfold vis; simp; omega)).1
      obtain ⟨m, hm⟩ : ∃ m, numF l l.length (p * 5 + q) = m + 1 := ⟨numF l l.length (p * 5 + q) - 1, by omega⟩
      obtain ⟨hml, hi⟩ := (num_iff h p q m hq).1 hm
      refine ⟨_, List.mem_append.2 (.inl (mOut_mem.2 ⟨m, hml, rfl, ?_⟩)), hi⟩
      cases ho : outsB r c d g (l.getD m cl0)
      · have hf := not_outs hall hml ho
        obtain ⟨a, b, e, w, ec, h1, h2, h3, h4⟩ := cell_nat h m hml
        rw [ec, full_iff h1 h2] at hf
        rw [ec, inB_cell] at hi
        exact absurd (hf p q (by omega) (by omega) (by omega) (by omega)) hin
      · rfl
  · rw [List.pairwise_append]
    refine ⟨?_, List.pairwise_singleton _ _, ?_⟩
    · unfold mOut
      rw [List.pairwise_filter, List.pairwise_iff_getElem]
      intro i k hi hk hik o1 o2
      rw [← getD_get hi] at o1 ⊢
      rw [← getD_get hk] at o2 ⊢
      exact ⟨i + 1, k + 1, by omega, (merge_numC h hd hg hr hc i hi o1).1, (merge_numC h hd hg hr hc k hk o2).1⟩
    · intro z hz y hy
      obtain ⟨m, hm, rfl, ho⟩ := mOut_mem.1 hz
      rw [List.mem_singleton] at hy
      subst hy
      have := merge_numC h hd hg hr hc m hm ho
      exact ⟨m + 1, _, Ne.symm this.2, this.1, merged_numC h hd hg hr hc hall _⟩
end
end Go.Proofs.Ytpgldodnnlcceaa
namespace Go.Proofs.Ytpgldodnnlcceaa
open Go.RowKit

/-- Of a list with one member that has a text the texts are that. -/
theorem one_text {F : List Cl} {y : Cl} (hn : F.Nodup) (hy : y ∈ F) (h : ∀ x ∈ F, x ≠ y → x.2.2.2.2 = []) : F.flatMap (fun x => x.2.2.2.2) = y.2.2.2.2 := by
  induction F with
  | nil => cases hy
  | cons a F ih =>
    rw [List.flatMap_cons]
    rw [List.nodup_cons] at hn
    rcases List.mem_cons.1 hy with rfl | hy'
    · have : F.flatMap (fun x => x.2.2.2.2) = [] := by
        rw [List.flatMap_eq_nil_iff]
        intro x hx
        exact h x (List.mem_cons_of_mem _ hx) (fun e => hn.1 (e ▸ hx))
      rw [this, List.append_nil]
    · rw [h a (List.mem_cons_self ..) (fun e => hn.1 (e ▸ hy')), List.nil_append]
      exact ih hn.2 hy' (fun x hx => h x (List.mem_cons_of_mem _ hx))
theorem two_len {F : List Cl} {x y : Cl} (hx : x ∈ F) (hy : y ∈ F) (hne : x ≠ y) : 2 ≤ F.length := by
  rcases F with _ | ⟨a, _ | ⟨b, F⟩⟩
  · cases hx
  · rw [List.mem_singleton] at hx hy
    exact absurd (hx.trans hy.symm) hne
  · simp
section
variable {R C : Int} {l : List Cl} {r c d g : Nat}
theorem ok_mergeN (h : mergeB R C l r c d g = true) : okB R C (mergeL l r c d g) = true := by
  simp only [mergeB, Bool.and_eq_true, decide_eq_true_eq, bndB] at h
  obtain ⟨⟨⟨⟨h1, h2⟩, h3⟩, h4⟩, h5⟩ := h
  simp only [Int.toNat_natCast] at h3 h4 h5
  obtain ⟨hR, hC, _, _⟩ := gridP_of_okB h1
  obtain ⟨R, rfl⟩ : ∃ z : Nat, R = z := ⟨R.toNat, by omega⟩
  obtain ⟨C, rfl⟩ : ∃ z : Nat, C = z := ⟨C.toNat, by omega⟩
  have ht := tiles_merge h1 (r := r) (c := c) (d := d) (g := g) (by omega) (by omega) (by omega) (by omega) h3
  refine okB_sort ht (by omega) (by omega) (ht.few (by omega) (by omega)) ?_
  intro x hx
  unfold mergeM at hx
  simp only [Int.toNat_natCast] at hx
  rcases List.mem_append.1 hx with hx | hx
  · obtain ⟨m, hm, rfl, _⟩ := mOut_mem.1 hx
    exact ok_txt h1 _ (getD_mem hm)
  · rw [List.mem_singleton] at hx
    subst hx
    exact h5
theorem mergeL_iff {z : Cl} : z ∈ mergeL l r c d g ↔ (z ∈ l ∧ outsB r c d g z = true) ∨ z = ((r : Int), (c : Int), (d : Int), (g : Int), mTx r c d g l) := by
  unfold mergeL
  rw [(sortC_perm _).mem_iff]
  unfold mergeM
  simp only [Int.toNat_natCast]
  rw [List.mem_append, List.mem_singleton]
  unfold mOut
  rw [List.mem_filter]
end
section
variable {R C : Int} {l : List Cl} {p r c d g : Nat} {tx : List Sg}
theorem apart_outs (h : okB R C l = true) (hp : p < l.length) (e : l.getD p cl0 = ((r : Int), (c : Int), (d : Int), (g : Int), tx)) (m : Nat) (hm : m < l.length) (hmp : m ≠ p) : outsB r c d g (l.getD m cl0) = true := by
  have hw := ok_cell h (getD_mem hm)
  have hwp := ok_cell h (getD_mem hp)
  rw [e] at hwp
  obtain ⟨a, ha⟩ : ∃ r : Nat, (l.getD m cl0).1 = r := ⟨(l.getD m cl0).1.toNat, by omega⟩
  obtain ⟨b, hb⟩ : ∃ r : Nat, (l.getD m cl0).2.1 = r := ⟨(l.getD m cl0).2.1.toNat, by omega⟩
  obtain ⟨f, hf⟩ : ∃ r : Nat, (l.getD m cl0).2.2.1 = r := ⟨(l.getD m cl0).2.2.1.toNat, by omega⟩
  obtain ⟨k, hk⟩ : ∃ r : Nat, (l.getD m cl0).2.2.2.1 = r := ⟨(l.getD m cl0).2.2.2.1.toNat, by omega⟩
  have em : l.getD m cl0 = ((a : Int), (b : Int), (f : Int), (k : Int), (l.getD m cl0).2.2.2.2) := by rw [← ha, ← hb, ← hf, ← hk]
  rw [em, outs_iff]
  intro x y h1 h2 h3 h4 hin
  unfold inR at hin
  simp only at hwp
  have i1 : inB (l.getD m cl0) x y = true := inB_is.2 (by omega)
  have i2 : inB (l.getD p cl0) x y = true := by rw [e]; exact inB_is.2 (by simp only; omega)
  rcases Nat.lt_or_gt_of_ne hmp with q | q
  · exact okB_apart h x y (by omega) (by omega) q hp i1 i2
  · exact okB_apart h x y (by omega) (by omega) q hm i2 i1
theorem full_not_outs {a b e h : Nat} {t : List Sg} (he : 1 ≤ e) (hh : 1 ≤ h) (hf : fullB r c d g ((a : Int), (b : Int), (e : Int), (h : Int), t) = true) : outsB r c d g ((a : Int), (b : Int), (e : Int), (h : Int), t) = false := by
  cases ho : outsB r c d g ((a : Int), (b : Int), (e : Int), (h : Int), t)
  · rfl
  · exact absurd ((full_iff he hh).1 hf a b (Nat.le_refl _) (by omega) (Nat.le_refl _) (by omega)) (outs_iff.1 ho a b (Nat.le_refl _) (by omega) (Nat.le_refl _) (by omega))
/-- What was split is merged again. -/
theorem split_back (h : okB R C l = true) (hp : p < l.length) (e : l.getD p cl0 = ((r : Int), (c : Int), (d : Int), (g : Int), tx)) (hd : 1 ≤ d) (hg : 1 ≤ g) (h2 : 2 ≤ d * g) :
    mergeB R C (splitL l p) r c d g = true ∧ mergeL (splitL l p) r c d g = l := by
  have hos := ok_split h hp e
  have hwp := ok_cell h (getD_mem hp)
  have htx := ok_txt h _ (getD_mem hp)
  rw [e] at hwp htx
  simp only at hwp htx
  have f1 : fullB r c d g ((r : Int), (c : Int), ((1 : Nat) : Int), ((1 : Nat) : Int), tx) = true := by
    rw [full_iff (Nat.le_refl _) (Nat.le_refl _)]
    intro x y h1 h2 h3 h4
    unfold inR
    omega
  have f2 : ∀ a b, (a, b) ∈ restL r c d g → fullB r c d g ((a : Int), (b : Int), ((1 : Nat) : Int), ((1 : Nat) : Int), []) = true := by
    intro a b hab
    rw [restL_mem] at hab
    rw [full_iff (Nat.le_refl _) (Nat.le_refl _)]
    intro x y h1 h2 h3 h4
    unfold inR
    omega
  have m1 : ((r : Int), (c : Int), ((1 : Nat) : Int), ((1 : Nat) : Int), tx) ∈ splitL l p := (splitL_iff hp e).2 (Or.inr (Or.inl rfl))
  have hout : ∀ z ∈ splitL l p, fullB r c d g z = true → z = ((r : Int), (c : Int), ((1 : Nat) : Int), ((1 : Nat) : Int), tx) ∨ ∃ a b, (a, b) ∈ restL r c d g ∧ z = ((a : Int), (b : Int), ((1 : Nat) : Int), ((1 : Nat) : Int), []) := by
    intro z hz hf
    rcases (splitL_iff hp e).1 hz with ⟨m, hm, hmp, rfl⟩ | rfl | ⟨a, b, hab, rfl⟩
    · have ho := apart_outs h hp e m hm hmp
      unfold fullB at hf
      unfold outsB at ho
      simp only [decide_eq_true_eq] at hf ho
      exact absurd ho hf.1
    · exact Or.inl rfl
    · exact Or.inr ⟨a, b, hab, rfl⟩
  have hmt : mTx r c d g (splitL l p) = tx := by
    unfold mTx
    refine one_text (y := ((r : Int), (c : Int), ((1 : Nat) : Int), ((1 : Nat) : Int), tx)) ((ok_nodup hos).filter _) (List.mem_filter.2 ⟨m1, f1⟩) ?_
    intro x hx hne
    rw [List.mem_filter] at hx
    rcases hout x hx.1 hx.2 with rfl | ⟨a, b, _, rfl⟩
    · exact absurd rfl hne
    · rfl
  obtain ⟨⟨a, b⟩, hab⟩ : ∃ q, q ∈ restL r c d g := by
    have hl := restL_len r c d g hd hg
    exact List.exists_mem_of_length_pos (by omega)
  have hmb : mergeB R C (splitL l p) r c d g = true := by
    simp only [mergeB, bndB, hos, Bool.true_and, Bool.and_eq_true, decide_eq_true_eq, Int.toNat_natCast]
    refine ⟨⟨⟨⟨⟨⟨by omega, by omega⟩, by omega⟩, by omega⟩, ?_⟩, ?_⟩, ?_⟩
    · rw [List.all_eq_true]
      intro z hz
      rcases (splitL_iff hp e).1 hz with ⟨m, hm, hmp, rfl⟩ | rfl | ⟨a, b, hab, rfl⟩
      · unfold cutB
        rw [apart_outs h hp e m hm hmp]
        rfl
      · unfold cutB
        rw [show fullB r c d g ((r : Int), (c : Int), 1, 1, tx) = true from f1]
        simp
      · unfold cutB
        rw [show fullB r c d g (sqC (a, b)) = true from f2 a b hab]
        simp
    · unfold mN
      refine two_len (List.mem_filter.2 ⟨m1, f1⟩) (List.mem_filter.2 ⟨(splitL_iff hp e).2 (Or.inr (Or.inr ⟨a, b, hab, rfl⟩)), f2 a b hab⟩) ?_
      intro hh
      have := (restL_mem.1 hab).2
      simp only [sqC, Prod.mk.injEq] at hh
      omega
    · rw [hmt]
      exact htx
  refine ⟨hmb, same_of_sub (ok_mergeN hmb) h ?_⟩
  intro z hz
  rcases mergeL_iff.1 hz with ⟨hz, ho⟩ | rfl
  · rcases (splitL_iff hp e).1 hz with ⟨m, hm, hmp, rfl⟩ | rfl | ⟨a, b, hab, rfl⟩
    · exact getD_mem hm
    · rw [show outsB r c d g ((r : Int), (c : Int), 1, 1, tx) = false from full_not_outs (Nat.le_refl _) (Nat.le_refl _) f1] at ho
      cases ho
    · rw [show outsB r c d g (sqC (a, b)) = false from full_not_outs (Nat.le_refl _) (Nat.le_refl _) (f2 a b hab)] at ho
      cases ho
  · rw [hmt, ← e]
    exact getD_mem hp
end
end Go.Proofs.Ytpgldodnnlcceaa
