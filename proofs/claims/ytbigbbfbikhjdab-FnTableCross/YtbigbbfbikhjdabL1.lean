import Derived.Test.YtbigbbfbikhjdabBD2
import Derived.Test.YtbigbbfbikhjdabBA2
import Derived.Test.YtbigbbfbikhjdabBI1
import Derived.Test.YtbigbbfbikhjdabBO1
import Derived.Test.YtbigbbfbikhjdabBA3
import Derived.Test.YtbigbbfbikhjdabBA1
import Derived.Test.YtbigbbfbikhjdabBC1
namespace Go.Proofs.Ytbigbbfbikhjdab
open Go.RowKit

set_option maxRecDepth 100000 in
set_option maxHeartbeats 8000000 in
theorem drawTableRowIn_any (B : Nat) (a : Option Addr) (n cap : Nat) (zs : List Int) (w : World) (h : Byt B w a n cap zs) (hB : B ≤ w.heap.size) :
    Calls Try.prog 8 #[.slice a n cap] w fun e w' => (∃ (R C : Int) (a' : Option Addr) (n' c' : Nat) (l : List Cl) (at' : Int), e = .returned (.tuple #[.agg #[.int .i64 R, .int .i64 C, .slice a' n' c'], .int .i64 at']) ∧ Tab w' a' n' c' l ∧ TabSp R C l ∧ (-20 ≤ at' ∧ at' ≤ 20)) ∧ Below w.heap.size w w' := by
  have HY : Hid (Byt B w a n cap zs) := h
  clear h
  go_enter Try.func8, Try.ntmps8
  go_upto_region 1 with fail
  have B0 : Below w.heap.size w (w.alloc (.cells #[.int .i64 0, .int .i64 0, .slice none 0 0] 25)) := (Below.refl _ _).alloc (Nat.le_refl _) _
  have Z0 : RowAt (w.alloc (.cells #[.int .i64 0, .int .i64 0, .slice none 0 0] 25)) w.heap.size #[.int .i64 0, .int .i64 0, .slice none 0 0] 25 := rowAt_new _ _ _
  have HY0 : Hid (Byt B (w.alloc (.cells #[.int .i64 0, .int .i64 0, .slice none 0 0] 25)) a n cap zs) := HY.out.belowC B0 hB
  generalize (w.alloc (.cells #[.int .i64 0, .int .i64 0, .slice none 0 0] 25)) = v0 at B0 Z0 HY0 ⊢
  have s0 := B0.size
  have zz := Z0.lt
  go_wp2_with fail
  refine (l6Open_any B a n cap zs _ HY0.out (by omega)).mono ?_
  rintro e w1 ⟨rfl, hr1, hb1⟩
  have s1 := hb1.size
  have HR1 : Hid (Rd B w1 v0.heap.size 0) := hr1
  clear hr1
  go_wp2_with fail
  refine (l71Row_any B _ 0 _ HR1.out (by omega)).mono ?_
  rintro e w2 ⟨R, C, a', n', c', l, q, at', rfl, ⟨rs, hX2⟩, hS2, hat, hr2, hq2, hf2⟩
  have HX2 : Hid (OwnX w2 w1.heap.size (.slice a' n' c') rs l) := hX2
  have HZ2 : Hid (RowAt w2 w.heap.size #[.int .i64 0, .int .i64 0, .slice none 0 0] 25) := (Z0.below hb1 zz).fr hf2 (by omega)
  have HB2 : Hid (Below w.heap.size w w2) := below_of_fr3 B0 hb1 hf2 (by omega) s0
  have HS : Hid (TabSp R C l) := hS2
  clear hX2 hr2 hS2
  go_wp2_with (refine wpList_store_row rfl 25 (.tmp 2) (.tmp 7) rfl w.heap.size #[.int .i64 R, .int .i64 C, .slice a' n' c'] rfl rfl 25 _ HZ2.out tab_info rfl (cells3_one _ _ _ _ _) ?_)
  refine bodyPost_ret (v := .tuple #[.agg #[.int .i64 R, .int .i64 C, .slice a' n' c'], .int .i64 at']) ?_ rfl ⟨⟨R, C, a', n', c', l, at', rfl, (HX2.out.setRowT HZ2.out _).tab, HS.out, hat⟩, below_row HB2.out (Nat.le_refl _) _⟩
  rw [results_cell_tmp rfl]
  simp [asAddr, Result.andThen, run_tabOf (RowAt.setRow HZ2.out #[.int .i64 R, .int .i64 C, .slice a' n' c'])]
end Go.Proofs.Ytbigbbfbikhjdab
namespace Go.Proofs.Ytbigbbfbikhjdab
open Go.RowKit

theorem ok_turnI {R C : Int} {l : List Cl} (h : okB R C l = true) : okB C R (turnL l) = true := by
  obtain ⟨hR, hC, _, _⟩ := gridP_of_okB h
  obtain ⟨R, rfl⟩ : ∃ z : Nat, R = z := ⟨R.toNat, by omega⟩
  obtain ⟨C, rfl⟩ : ∃ z : Nat, C = z := ⟨C.toNat, by omega⟩
  exact ok_turn h
theorem turn_turnI {R C : Int} {l : List Cl} (h : okB R C l = true) : turnL (turnL l) = l := by
  obtain ⟨hR, hC, _, _⟩ := gridP_of_okB h
  obtain ⟨R, rfl⟩ : ∃ z : Nat, R = z := ⟨R.toNat, by omega⟩
  obtain ⟨C, rfl⟩ : ∃ z : Nat, C = z := ⟨C.toNat, by omega⟩
  exact turn_turn h
theorem t_of {R C : Int} {l : List Cl} (h : okB R C l = true) : tX R C l = C ∧ tY R C l = R ∧ tL R C l = turnL l := by
  simp [tX, tY, tL, h]
theorem t_back {R C : Int} {l : List Cl} (h : okB R C l = true) : tX C R (turnL l) = R ∧ tY C R (turnL l) = C ∧ tL C R (turnL l) = l := by
  obtain ⟨h1, h2, h3⟩ := t_of (ok_turnI h)
  exact ⟨h1, h2, h3.trans (turn_turnI h)⟩
theorem ok_of_t {R C : Int} {l : List Cl} (h : okB (tX R C l) (tY R C l) (tL R C l) = true) : okB R C l = true := by
  by_cases ho : okB R C l = true
  · exact ho
  · unfold tX tY tL at h
    rw [if_neg ho, if_neg ho, if_neg ho, okB_nil] at h
    cases h
theorem rowIn_ok {R C t' : Int} {l : List Cl} (h : rowInB R C l t' = true) : okB R C l = true := by
  simp only [rowInB, Bool.and_eq_true] at h
  exact h.1.1
theorem rowOut_ok {R C t' : Int} {l : List Cl} (h : rowOutB R C l t' = true) : okB R C l = true := by
  simp only [rowOutB, Bool.and_eq_true] at h
  exact h.1.1
theorem rowOut_of_in {R C t' : Int} {l : List Cl} (h : rowInB R C l t' = true) : rowOutB (R + 1) C (inL t' C l) t' = true := by
  have h1 := ok_in h
  obtain ⟨hR, _, _, _⟩ := gridP_of_okB (rowIn_ok h)
  simp only [rowInB, Bool.and_eq_true, decide_eq_true_eq] at h
  simp only [rowOutB, h1, Bool.true_and, Bool.and_eq_true, decide_eq_true_eq]
  omega
end Go.Proofs.Ytbigbbfbikhjdab
namespace Go.Proofs.Ytbigbbfbikhjdab
open Go.RowKit

/-- The text of a square. -/
def sqT (R C : Int) (l : List Cl) (r c : Int) : List Sg := if atN R C l r c < 0 then [] else (l.getD (atN R C l r c).toNat cl0).2.2.2.2
section
variable {R C : Int} {l : List Cl}
theorem ok_cell (h : okB R C l = true) {x : Cl} (hx : x ∈ l) : (0 ≤ x.1 ∧ 0 ≤ x.2.1 ∧ 1 ≤ x.2.2.1 ∧ 1 ≤ x.2.2.2.1) ∧ x.1 + x.2.2.1 ≤ R ∧ x.2.1 + x.2.2.2.1 ≤ C := by
  obtain ⟨m, hm, e⟩ := List.getElem_of_mem hx
  rw [← getD_get hm] at e
  subst e
  exact wiB_of (stepB_of ((gridP_of_okB h).2.2.1 m hm)).1
theorem inB_is {x : Cl} {r c : Int} : inB x r c = true ↔ x.1 ≤ r ∧ r < x.1 + x.2.2.1 ∧ x.2.1 ≤ c ∧ c < x.2.1 + x.2.2.2.1 := by
  unfold inB
  simp only [decide_eq_true_eq]
/-- A square is of the one cell that has it. -/
theorem at_of (h : okB R C l = true) {x : Cl} (hx : x ∈ l) (r c : Nat) (hi : inB x r c = true) : ∃ k, k < l.length ∧ atN R C l r c = (k : Int) ∧ l.getD k cl0 = x := by
  obtain ⟨k, hk, e⟩ := List.getElem_of_mem hx
  rw [← getD_get hk] at e
  have hw := ok_cell h hx
  have hi' := inB_is.1 hi
  refine ⟨k, hk, ?_, e⟩
  unfold atN
  rw [if_pos h, findIdx_some l k r c hk ?_ (by rw [e]; exact hi)]
  intro j hj
  cases hq : inB (l.getD j cl0) r c
  · rfl
  · exact (okB_apart h r c (by omega) (by omega) hj hk hq (by rw [e]; exact hi)).elim
theorem sqT_of (h : okB R C l = true) {x : Cl} (hx : x ∈ l) (r c : Nat) (hi : inB x r c = true) : sqT R C l r c = x.2.2.2.2 := by
  obtain ⟨k, hk, e, e2⟩ := at_of h hx r c hi
  unfold sqT
  rw [e, if_neg (by omega)]
  rw [show ((k : Int)).toNat = k by omega, e2]
theorem sq_has (h : okB R C l = true) (r c : Nat) (hr : (r : Int) < R) (hc : (c : Int) < C) : ∃ x ∈ l, inB x r c = true := by
  have h1 := okB_cnt h r c hr hc
  unfold cnt at h1
  obtain ⟨x, hx, hi⟩ := List.countP_pos_iff.1 (show 0 < l.countP (fun x => inB x r c) by omega)
  exact ⟨x, hx, hi⟩
/-- Two cells that have one square are one. -/
theorem one_cell (h : okB R C l = true) {x y : Cl} (hx : x ∈ l) (hy : y ∈ l) (r c : Nat) (h1 : inB x r c = true) (h2 : inB y r c = true) : x = y := by
  obtain ⟨k, _, e, ek⟩ := at_of h hx r c h1
  obtain ⟨m, _, e', em⟩ := at_of h hy r c h2
  have : k = m := by omega
  subst this
  rw [← ek, em]
theorem inL_mem {t' : Int} {x : Cl} (hx : x ∈ l) : inC t' x ∈ inL t' C l := (sortC_perm _).mem_iff.2 (List.mem_append.2 (Or.inl (List.mem_map_of_mem hx)))
theorem inC_has {t' : Int} {x : Cl} {r c : Int} (h : inB x r c = true) : inB (inC t' x) (if t' ≤ r then r + 1 else r) c = true := by
  obtain ⟨a, b, d, g, t⟩ := x
  have h' := inB_is.1 h
  simp only at h'
  rw [inB_is]
  unfold inC
  simp only
  by_cases c1 : t' ≤ a
  · rw [if_pos c1, if_pos (show t' ≤ r by omega)]
    simp only
    omega
  · rw [if_neg c1]
    by_cases c2 : t' < a + d
    · rw [if_pos c2]
      simp only
      split <;> omega
    · rw [if_neg c2, if_neg (show ¬ t' ≤ r by omega)]
      simp only
      omega
theorem sq_in {t' : Int} (h : rowInB R C l t' = true) (r c : Nat) (hr : (r : Int) < R) (hc : (c : Int) < C) (tq : Nat) (htq : (tq : Int) = if t' ≤ (r : Int) then (r : Int) + 1 else r) : sqT (R + 1) C (inL t' C l) tq c = sqT R C l r c := by
  obtain ⟨x, hx, hi⟩ := sq_has (rowIn_ok h) r c hr hc
  have h2 : inB (inC t' x) tq c = true := by rw [htq]; exact inC_has hi
  rw [sqT_of (ok_in h) (inL_mem hx) tq c h2, sqT_of (rowIn_ok h) hx r c hi, inC_txt]
theorem outC_has {t' : Int} {x : Cl} {r c : Int} (h : inB x (if t' ≤ r then r + 1 else r) c = true) : inB (outC t' x) r c = true := by
  obtain ⟨a, b, d, g, t⟩ := x
  have h' := inB_is.1 h
  simp only at h'
  rw [inB_is]
  unfold outC
  simp only
  by_cases c0 : t' ≤ r
  · rw [if_pos c0] at h'
    by_cases c1 : t' < a
    · rw [if_pos c1]
      simp only
      omega
    · rw [if_neg c1]
      by_cases c2 : t' < a + d
      · rw [if_pos c2]
        simp only
        omega
      · rw [if_neg c2]
        simp only
        omega
  · rw [if_neg c0] at h'
    rw [if_neg (show ¬ t' < a by omega)]
    by_cases c2 : t' < a + d
    · rw [if_pos c2]
      simp only
      omega
    · rw [if_neg c2]
      simp only
      omega
theorem sq_out {t' : Int} (h : rowOutB R C l t' = true) (r c : Nat) (hr : (r : Int) < R - 1) (hc : (c : Int) < C) (fr : Nat) (hfr : (fr : Int) = if t' ≤ (r : Int) then (r : Int) + 1 else r) : sqT (R - 1) C (outL t' l) r c = sqT R C l fr c := by
  have hfR : (fr : Int) < R := by rw [hfr]; split <;> omega
  obtain ⟨x, hx, hi⟩ := sq_has (rowOut_ok h) fr c hfR hc
  have h2 : inB (outC t' x) r c = true := outC_has (by rw [← hfr]; exact hi)
  have hm : outC t' x ∈ outL t' l := by
    refine (sortC_perm _).mem_iff.2 (List.mem_filter.2 ⟨List.mem_map_of_mem hx, ?_⟩)
    have := inB_is.1 h2
    exact decide_eq_true (by omega)
  rw [sqT_of (ok_out h) hm r c h2, sqT_of (rowOut_ok h) hx fr c hi, outC_txt]
theorem inL_len (t' : Int) : (inL t' C l).length = l.length + (newI t' C l).length := by
  unfold inL
  rw [(sortC_perm _).length_eq]
  unfold inM
  rw [List.length_append, List.length_map]
/-- A square of the table turned. -/
theorem sq_turn (h : okB R C l = true) (r c : Nat) (hr : (r : Int) < R) (hc : (c : Int) < C) : sqT C R (turnL l) c r = sqT R C l r c := by
  obtain ⟨x, hx, hi⟩ := sq_has h r c hr hc
  have hm : turnC x ∈ turnL l := (turnL_mem l _).2 ⟨x, hx, rfl⟩
  have h2 : inB (turnC x) c r = true := by
    rw [inB_is] at hi ⊢
    unfold turnC
    simp only
    omega
  rw [sqT_of (ok_turnI h) hm c r h2, sqT_of h hx r c hi]
  rfl
theorem sq_in1 {t' : Int} (h : rowInB R C l t' = true) (r c : Nat) (hr : (r : Int) < R) (hc : (c : Int) < C) (ht : t' ≤ (r : Int)) : sqT (R + 1) C (inL t' C l) ((r : Int) + 1) c = sqT R C l r c :=
  sq_in h r c hr hc (r + 1) (by rw [if_pos ht]; omega)
theorem sq_in0 {t' : Int} (h : rowInB R C l t' = true) (r c : Nat) (hr : (r : Int) < R) (hc : (c : Int) < C) (ht : ¬ t' ≤ (r : Int)) : sqT (R + 1) C (inL t' C l) r c = sqT R C l r c :=
  sq_in h r c hr hc r (by rw [if_neg ht])
theorem sq_out1 {t' : Int} (h : rowOutB R C l t' = true) (r c : Nat) (hr : (r : Int) < R - 1) (hc : (c : Int) < C) (ht : t' ≤ (r : Int)) : sqT (R - 1) C (outL t' l) r c = sqT R C l ((r : Int) + 1) c :=
  sq_out h r c hr hc (r + 1) (by rw [if_pos ht]; omega)
theorem sq_out0 {t' : Int} (h : rowOutB R C l t' = true) (r c : Nat) (hr : (r : Int) < R - 1) (hc : (c : Int) < C) (ht : ¬ t' ≤ (r : Int)) : sqT (R - 1) C (outL t' l) r c = sqT R C l r c :=
  sq_out h r c hr hc r (by rw [if_neg ht])
theorem sq_col1 {t' : Int} (h : okB R C l = true) (hi : rowInB C R (turnL l) t' = true) (r c : Nat) (hr : (r : Int) < R) (hc : (c : Int) < C) (ht : t' ≤ (c : Int)) : sqT R (C + 1) (turnL (inL t' R (turnL l))) r ((c : Int) + 1) = sqT R C l r c := by
  have h1 := sq_turn (ok_in hi) (c + 1) r (by omega) hr
  have h2 := sq_in hi c r hc hr (c + 1) (by rw [if_pos ht]; omega)
  rw [show ((c : Int) + 1) = ((c + 1 : Nat) : Int) by omega, h1, h2, sq_turn h r c hr hc]
theorem sq_col0 {t' : Int} (h : okB R C l = true) (hi : rowInB C R (turnL l) t' = true) (r c : Nat) (hr : (r : Int) < R) (hc : (c : Int) < C) (ht : ¬ t' ≤ (c : Int)) : sqT R (C + 1) (turnL (inL t' R (turnL l))) r c = sqT R C l r c := by
  have h1 := sq_turn (ok_in hi) c r (by omega) hr
  have h2 := sq_in hi c r hc hr c (by rw [if_neg ht])
  rw [h1, h2, sq_turn h r c hr hc]
end
end Go.Proofs.Ytbigbbfbikhjdab
namespace Go.Proofs.Ytbigbbfbikhjdab
open Go.RowKit

section
variable {R C : Int} {l : List Cl}
theorem ok_nodup (h : okB R C l = true) : l.Nodup := by
  refine List.pairwise_iff_getElem.2 ?_
  intro i k hi hk hik e
  have := okAhead h i k hik hk
  rw [getD_get hi, getD_get hk, e] at this
  omega
/-- Of two tables that are ok, and of one size, one whose cells are all of the other is the other. -/
theorem same_of_sub {l2 : List Cl} (h : okB R C l = true) (h2 : okB R C l2 = true) (hs : ∀ x ∈ l, x ∈ l2) : l = l2 := by
  have hp : l.Perm l2 := by
    refine (List.perm_ext_iff_of_nodup (ok_nodup h) (ok_nodup h2)).2 fun y => ⟨hs y, fun hy => ?_⟩
    have hc := ok_cell h2 hy
    obtain ⟨a, ha⟩ : ∃ a : Nat, y.1 = a := ⟨y.1.toNat, by omega⟩
    obtain ⟨b, hb⟩ : ∃ b : Nat, y.2.1 = b := ⟨y.2.1.toNat, by omega⟩
    obtain ⟨x, hx, hi⟩ := sq_has h a b (by omega) (by omega)
    have : x = y := one_cell h2 (hs x hx) hy a b hi (inB_is.2 (by omega))
    rw [← this]
    exact hx
  exact (sort_ok h (List.Perm.refl l)).symm.trans (sort_ok h2 hp)
theorem takenB_iff {t' c : Int} : takenB t' l c = true ↔ ∃ x ∈ l, x.1 < t' ∧ t' < x.1 + x.2.2.1 ∧ x.2.1 ≤ c ∧ c < x.2.1 + x.2.2.2.1 := by
  unfold takenB overB
  simp only [List.any_eq_true, decide_eq_true_eq]
theorem taken_not {t' c : Int} : takenB t' l c = false ↔ ∀ x ∈ l, ¬ (x.1 < t' ∧ t' < x.1 + x.2.2.1 ∧ x.2.1 ≤ c ∧ c < x.2.1 + x.2.2.2.1) := by
  rw [← Bool.not_eq_true, takenB_iff]
  constructor
  · intro h x hx hh
    exact h ⟨x, hx, hh⟩
  · rintro h ⟨x, hx, hh⟩
    exact h x hx hh
theorem inL_iff {t' : Int} {z : Cl} : z ∈ inL t' C l ↔ (∃ x ∈ l, z = inC t' x) ∨ ∃ c : Nat, (c : Int) < C ∧ takenB t' l c = false ∧ z = (t', (c : Int), 1, 1, []) := by
  unfold inL
  rw [(sortC_perm _).mem_iff]
  unfold inM newI
  rw [List.mem_append, List.mem_map, List.mem_map]
  constructor
  · rintro (⟨x, hx, rfl⟩ | ⟨c, hc, rfl⟩)
    · exact Or.inl ⟨x, hx, rfl⟩
    · rw [List.mem_filter, List.mem_range] at hc
      refine Or.inr ⟨c, by omega, ?_, rfl⟩
      have := hc.2
      simpa using this
  · rintro (⟨x, hx, rfl⟩ | ⟨c, hc, ht, rfl⟩)
    · exact Or.inl ⟨x, hx, rfl⟩
    · refine Or.inr ⟨c, ?_, rfl⟩
      rw [List.mem_filter, List.mem_range]
      exact ⟨by omega, by simp [ht]⟩
theorem inC_two {a o : Int} (hao : a ≤ o) {x : Cl} (hd : 1 ≤ x.2.2.1) : inC (o + 1) (inC a x) = inC a (inC o x) := by
  obtain ⟨r, b, d, g, t⟩ := x
  simp only at hd
  unfold inC
  simp only
  by_cases c1 : a ≤ r <;> by_cases c2 : o ≤ r <;> by_cases c3 : a < r + d <;> by_cases c4 : o < r + d <;> simp only [c1, c2, c3, c4, if_true, if_false] <;> first | omega | (repeat' split) <;> first | rfl | omega | (simp only [Prod.mk.injEq, and_true, true_and]; omega)
/-- Two rows put in, in either order. -/
theorem in_two {a o : Int} (h : rowInB R C l a = true) (hao : a ≤ o) (hoR : o ≤ R) (h5 : R + 1 < 5) : inL (o + 1) C (inL a C l) = inL a C (inL o C l) := by
  have hok := rowIn_ok h
  have h' := h
  simp only [rowInB, Bool.and_eq_true, decide_eq_true_eq] at h'
  have ho : rowInB R C l o = true := by
    simp only [rowInB, hok, Bool.true_and, Bool.and_eq_true, decide_eq_true_eq]
    omega
  have h1 : rowInB (R + 1) C (inL a C l) (o + 1) = true := by
    simp only [rowInB, ok_in h, Bool.true_and, Bool.and_eq_true, decide_eq_true_eq]
    omega
  have h2 : rowInB (R + 1) C (inL o C l) a = true := by
    simp only [rowInB, ok_in ho, Bool.true_and, Bool.and_eq_true, decide_eq_true_eq]
    omega
  refine same_of_sub (ok_in h1) (ok_in h2) ?_
  intro z hz
  rcases inL_iff.1 hz with ⟨y, hy, rfl⟩ | ⟨c, hc, ht, rfl⟩
  · rcases inL_iff.1 hy with ⟨x, hx, rfl⟩ | ⟨c, hc, ht, rfl⟩
    · rw [inC_two hao (ok_cell hok hx).1.2.2.1]
      exact inL_iff.2 (Or.inl ⟨_, inL_iff.2 (Or.inl ⟨x, hx, rfl⟩), rfl⟩)
    · refine inL_iff.2 (Or.inr ⟨c, hc, ?_, ?_⟩)
      · rw [taken_not] at ht ⊢
        intro y hy hh
        rcases inL_iff.1 hy with ⟨x, hx, rfl⟩ | ⟨c', hc', ht', rfl⟩
        · have hw := ok_cell hok hx
          refine ht x hx ?_
          obtain ⟨r, b, d, g, t⟩ := x
          unfold inC at hh
          simp only at hh hw ⊢
          by_cases c1 : o ≤ r
          · rw [if_pos c1] at hh
            simp only at hh
            omega
          · rw [if_neg c1] at hh
            by_cases c2 : o < r + d
            · rw [if_pos c2] at hh
              simp only at hh
              omega
            · rw [if_neg c2] at hh
              simp only at hh
              omega
        · simp only at hh
          omega
      · unfold inC
        simp only
        rw [if_neg (by omega), if_neg (by omega)]
  · refine inL_iff.2 (Or.inl ⟨(o, (c : Int), 1, 1, []), inL_iff.2 (Or.inr ⟨c, hc, ?_, rfl⟩), ?_⟩)
    · rw [taken_not] at ht ⊢
      intro x hx hh
      have hw := ok_cell hok hx
      refine ht _ (inL_iff.2 (Or.inl ⟨x, hx, rfl⟩)) ?_
      obtain ⟨r, b, d, g, t⟩ := x
      unfold inC
      simp only at hh hw ⊢
      by_cases c1 : a ≤ r
      · rw [if_pos c1]
        simp only
        omega
      · rw [if_neg c1, if_pos (show a < r + d by omega)]
        simp only
        omega
    · unfold inC
      simp only
      rw [if_pos (by omega)]
theorem in_two_B {a o : Int} (h : rowInB R C l a = true) (hao : a ≤ o) (hoR : o ≤ R) : rowInB R C l o = true ∧ rowInB (R + 1) C (inL a C l) (o + 1) = decide (R + 1 < 5) ∧ rowInB (R + 1) C (inL o C l) a = decide (R + 1 < 5) := by
  have hok := rowIn_ok h
  have h' := h
  simp only [rowInB, Bool.and_eq_true, decide_eq_true_eq] at h'
  have ho : rowInB R C l o = true := by
    simp only [rowInB, hok, Bool.true_and, Bool.and_eq_true, decide_eq_true_eq]
    omega
  refine ⟨ho, ?_, ?_⟩
  · simp only [rowInB, ok_in h, Bool.true_and]
    rw [decide_eq_true (show 0 ≤ o + 1 ∧ o + 1 ≤ R + 1 by omega), Bool.true_and]
  · simp only [rowInB, ok_in ho, Bool.true_and]
    rw [decide_eq_true (show 0 ≤ a ∧ a ≤ R + 1 by omega), Bool.true_and]
theorem outC_two {a o : Int} (hao : a < o) {x : Cl} (hd : 1 ≤ x.2.2.1) : outC (o - 1) (outC a x) = outC a (outC o x) := by
  obtain ⟨r, b, d, g, t⟩ := x
  simp only at hd
  unfold outC
  simp only
  by_cases c1 : a < r <;> by_cases c2 : o < r <;> by_cases c3 : a < r + d <;> by_cases c4 : o < r + d <;> simp only [c1, c2, c3, c4, if_true, if_false] <;> first | omega | (repeat' split) <;> first | rfl | omega | (simp only [Prod.mk.injEq, and_true, true_and]; omega)
theorem outC_low {a : Int} {x : Cl} (h : tallB x = false) : tallB (outC a x) = false := by
  obtain ⟨r, b, d, g, t⟩ := x
  unfold tallB at h ⊢
  simp only [decide_eq_false_iff_not] at h ⊢
  unfold outC
  simp only
  by_cases c1 : a < r
  · rw [if_pos c1]
    exact h
  · rw [if_neg c1]
    by_cases c2 : a < r + d
    · omega
    · rw [if_neg c2]
      exact h
theorem filter_low (a : Int) (M : List Cl) : ((M.filter tallB).map (outC a)).filter tallB = (M.map (outC a)).filter tallB := by
  induction M with
  | nil => rfl
  | cons x M ih =>
    cases hx : tallB x
    · rw [List.filter_cons_of_neg (by simp [hx]), List.map_cons, List.filter_cons_of_neg (by simp [outC_low hx])]
      exact ih
    · rw [List.filter_cons_of_pos hx, List.map_cons, List.map_cons, List.filter_cons, List.filter_cons, ih]
theorem out_perm (a b : Int) : (outM a (outL b l)).Perm ((l.map (outC a ∘ outC b)).filter tallB) := by
  have h1 : (outL b l).Perm ((l.map (outC b)).filter tallB) := sortC_perm _
  unfold outM
  refine ((h1.map (outC a)).filter tallB).trans ?_
  rw [filter_low, List.map_map]
/-- Two rows taken out, in either order. -/
theorem out_two {a o : Int} (h : rowOutB R C l o = true) (h0 : 0 ≤ a) (hao : a < o) (h3 : 3 ≤ R) : outL (o - 1) (outL a l) = outL a (outL o l) := by
  have hok := rowOut_ok h
  have h' := h
  simp only [rowOutB, Bool.and_eq_true, decide_eq_true_eq] at h'
  have h2 : rowOutB (R - 1) C (outL o l) a = true := by
    simp only [rowOutB, ok_out h, Bool.true_and, Bool.and_eq_true, decide_eq_true_eq]
    omega
  have e : l.map (outC (o - 1) ∘ outC a) = l.map (outC a ∘ outC o) := List.map_congr_left (fun x hx => outC_two hao (ok_cell hok hx).1.2.2.1)
  refine sort_ok (ok_out h2) ?_
  refine (out_perm (o - 1) a).trans ?_
  rw [e]
  exact (out_perm a o).symm.trans (sortC_perm _).symm
theorem out_two_B {a o : Int} (h : rowOutB R C l a = true) (hao : a < o) (hoR : o ≤ R - 1) : rowOutB R C l o = true ∧ rowOutB (R - 1) C (outL a l) (o - 1) = decide (3 ≤ R) ∧ rowOutB (R - 1) C (outL o l) a = decide (3 ≤ R) := by
  have hok := rowOut_ok h
  have h' := h
  simp only [rowOutB, Bool.and_eq_true, decide_eq_true_eq] at h'
  have ho : rowOutB R C l o = true := by
    simp only [rowOutB, hok, Bool.true_and, Bool.and_eq_true, decide_eq_true_eq]
    omega
  refine ⟨ho, ?_, ?_⟩
  · simp only [rowOutB, ok_out h, Bool.true_and]
    rw [decide_eq_true (show 0 ≤ o - 1 ∧ o - 1 ≤ R - 1 - 1 by omega), Bool.true_and, decide_eq_decide]
    omega
  · simp only [rowOutB, ok_out ho, Bool.true_and]
    rw [decide_eq_true (show 0 ≤ a ∧ a ≤ R - 1 - 1 by omega), Bool.true_and, decide_eq_decide]
    omega
end
end Go.Proofs.Ytbigbbfbikhjdab
namespace Go.Proofs.Ytbigbbfbikhjdab
open Go.RowKit

/-- A cell behind a column put in. -/
def colC (k : Int) (x : Cl) : Cl := turnC (inC k (turnC x))
section
variable {R C : Int} {l : List Cl}
theorem colC_is (k r b d g : Int) (t : List Sg) : colC k (r, b, d, g, t) = if k ≤ b then (r, b + 1, d, g, t) else if k < b + g then (r, b, d, g + 1, t) else (r, b, d, g, t) := by
  unfold colC turnC inC
  simp only
  split
  · rfl
  · split <;> rfl
theorem ciL_iff {k : Int} {z : Cl} : z ∈ turnL (inL k R (turnL l)) ↔ (∃ x ∈ l, z = colC k x) ∨ ∃ r : Nat, (r : Int) < R ∧ (∀ x ∈ l, ¬ (x.2.1 < k ∧ k < x.2.1 + x.2.2.2.1 ∧ x.1 ≤ (r : Int) ∧ (r : Int) < x.1 + x.2.2.1)) ∧ z = ((r : Int), k, 1, 1, []) := by
  rw [turnL_mem]
  constructor
  · rintro ⟨y, hy, rfl⟩
    rcases inL_iff.1 hy with ⟨x, hx, rfl⟩ | ⟨r, hr, ht, rfl⟩
    · obtain ⟨x0, hx0, rfl⟩ := (turnL_mem l x).1 hx
      exact Or.inl ⟨x0, hx0, rfl⟩
    · refine Or.inr ⟨r, hr, ?_, rfl⟩
      rw [taken_not] at ht
      intro x hx hh
      exact ht (turnC x) ((turnL_mem l _).2 ⟨x, hx, rfl⟩) hh
  · rintro (⟨x, hx, rfl⟩ | ⟨r, hr, ht, rfl⟩)
    · exact ⟨inC k (turnC x), inL_iff.2 (Or.inl ⟨_, (turnL_mem l _).2 ⟨x, hx, rfl⟩, rfl⟩), rfl⟩
    · refine ⟨(k, (r : Int), 1, 1, []), inL_iff.2 (Or.inr ⟨r, hr, ?_, rfl⟩), rfl⟩
      rw [taken_not]
      intro y hy hh
      obtain ⟨x, hx, rfl⟩ := (turnL_mem l y).1 hy
      exact ht x hx hh
theorem in_col {a k : Int} (x : Cl) : inC a (colC k x) = colC k (inC a x) := by
  obtain ⟨r, b, d, g, t⟩ := x
  rw [colC_is]
  unfold inC
  by_cases c1 : k ≤ b <;> by_cases c2 : k < b + g <;> by_cases c3 : a ≤ r <;> by_cases c4 : a < r + d <;> simp only [c1, c2, c3, c4, if_true, if_false] <;> rw [colC_is] <;> simp only [c1, c2, if_true, if_false]
/-- A row and a column put in, in either order. -/
theorem cross {a k : Int} (h : rowInB R C l a = true) (hk : rowInB C R (turnL l) k = true) :
    inL a (C + 1) (turnL (inL k R (turnL l))) = turnL (inL k (R + 1) (turnL (inL a C l))) := by
  have hok := rowIn_ok h
  have h' := h
  have hk' := hk
  simp only [rowInB, Bool.and_eq_true, decide_eq_true_eq] at h' hk'
  have h1 : rowInB R (C + 1) (turnL (inL k R (turnL l))) a = true := by
    simp only [rowInB, ok_turnI (ok_in hk), Bool.true_and, Bool.and_eq_true, decide_eq_true_eq]
    omega
  have h2 : rowInB C (R + 1) (turnL (inL a C l)) k = true := by
    simp only [rowInB, ok_turnI (ok_in h), Bool.true_and, Bool.and_eq_true, decide_eq_true_eq]
    omega
  refine same_of_sub (ok_in h1) (ok_turnI (ok_in h2)) ?_
  intro z hz
  rcases inL_iff.1 hz with ⟨y, hy, rfl⟩ | ⟨c, hc, ht, rfl⟩
  · rcases ciL_iff.1 hy with ⟨x, hx, rfl⟩ | ⟨r, hr, ht, rfl⟩
    · rw [in_col]
      exact ciL_iff.2 (Or.inl ⟨_, inL_iff.2 (Or.inl ⟨x, hx, rfl⟩), rfl⟩)
    · by_cases ca : a ≤ (r : Int)
      · refine ciL_iff.2 (Or.inr ⟨r + 1, by omega, ?_, ?_⟩)
        · intro y hy hh
          rcases inL_iff.1 hy with ⟨x, hx, rfl⟩ | ⟨c', hc', ht', rfl⟩
          · refine ht x hx ?_
            have hw := ok_cell hok hx
            obtain ⟨r0, b, d, g, t⟩ := x
            unfold inC at hh
            simp only at hh hw ⊢
            by_cases c1 : a ≤ r0
            · rw [if_pos c1] at hh
              simp only at hh
              omega
            · rw [if_neg c1] at hh
              by_cases c2 : a < r0 + d
              · rw [if_pos c2] at hh
                simp only at hh
                omega
              · rw [if_neg c2] at hh
                simp only at hh
                omega
          · simp only at hh
            omega
        · unfold inC
          simp only
          rw [if_pos ca]
          simp
      · refine ciL_iff.2 (Or.inr ⟨r, by omega, ?_, ?_⟩)
        · intro y hy hh
          rcases inL_iff.1 hy with ⟨x, hx, rfl⟩ | ⟨c', hc', ht', rfl⟩
          · refine ht x hx ?_
            have hw := ok_cell hok hx
            obtain ⟨r0, b, d, g, t⟩ := x
            unfold inC at hh
            simp only at hh hw ⊢
            by_cases c1 : a ≤ r0
            · rw [if_pos c1] at hh
              simp only at hh
              omega
            · rw [if_neg c1] at hh
              by_cases c2 : a < r0 + d
              · rw [if_pos c2] at hh
                simp only at hh
                omega
              · rw [if_neg c2] at hh
                simp only at hh
                omega
          · simp only at hh
            omega
        · unfold inC
          simp only
          rw [if_neg ca, if_neg (by omega)]
  · rw [taken_not] at ht
    obtain ⟨p, rfl⟩ : ∃ p : Nat, a = p := ⟨a.toNat, by omega⟩
    rcases Int.lt_trichotomy (c : Int) k with hck | hck | hck
    · refine ciL_iff.2 (Or.inl ⟨((p : Int), (c : Int), 1, 1, []), inL_iff.2 (Or.inr ⟨c, by omega, ?_, rfl⟩), ?_⟩)
      · rw [taken_not]
        intro x hx hh
        refine ht (colC k x) (ciL_iff.2 (Or.inl ⟨x, hx, rfl⟩)) ?_
        obtain ⟨r0, b, d, g, t⟩ := x
        rw [colC_is]
        simp only at hh ⊢
        rw [if_neg (by omega)]
        by_cases c2 : k < b + g
        · rw [if_pos c2]
          simp only
          omega
        · rw [if_neg c2]
          simp only
          omega
      · rw [colC_is, if_neg (by omega), if_neg (by omega)]
    · rw [hck]
      refine ciL_iff.2 (Or.inr ⟨p, by omega, ?_, rfl⟩)
      intro y hy hh
      rcases inL_iff.1 hy with ⟨x, hx, rfl⟩ | ⟨c', hc', ht', rfl⟩
      · have hw := ok_cell hok hx
        refine ht (colC k x) (ciL_iff.2 (Or.inl ⟨x, hx, rfl⟩)) ?_
        obtain ⟨r0, b, d, g, t⟩ := x
        rw [colC_is]
        unfold inC at hh
        simp only at hh hw ⊢
        by_cases c1 : (p : Int) ≤ r0
        · rw [if_pos c1] at hh
          simp only at hh
          omega
        · rw [if_neg c1] at hh
          by_cases c2 : (p : Int) < r0 + d
          · rw [if_pos c2] at hh
            simp only at hh
            rw [if_neg (by omega), if_pos (by omega)]
            simp only
            omega
          · rw [if_neg c2] at hh
            simp only at hh
            omega
      · simp only at hh
        omega
    · obtain ⟨c', rfl⟩ : ∃ c' : Nat, c = c' + 1 := ⟨c - 1, by omega⟩
      refine ciL_iff.2 (Or.inl ⟨((p : Int), (c' : Int), 1, 1, []), inL_iff.2 (Or.inr ⟨c', by omega, ?_, rfl⟩), ?_⟩)
      · rw [taken_not]
        intro x hx hh
        refine ht (colC k x) (ciL_iff.2 (Or.inl ⟨x, hx, rfl⟩)) ?_
        obtain ⟨r0, b, d, g, t⟩ := x
        rw [colC_is]
        simp only at hh ⊢
        by_cases c1 : k ≤ b
        · rw [if_pos c1]
          simp only
          omega
        · rw [if_neg c1, if_pos (by omega)]
          simp only
          omega
      · rw [colC_is, if_pos (by omega)]
        simp
theorem cross_B {a k : Int} (h : rowInB R C l a = true) (h0 : 0 ≤ k) (h1 : k ≤ C) : rowInB C R (turnL l) k = decide (C < 5) ∧ rowInB C (R + 1) (turnL (inL a C l)) k = decide (C < 5) := by
  have hok := rowIn_ok h
  constructor
  · simp only [rowInB, ok_turnI hok, Bool.true_and]
    rw [decide_eq_true (show 0 ≤ k ∧ k ≤ C from ⟨h0, h1⟩), Bool.true_and]
  · simp only [rowInB, ok_turnI (ok_in h), Bool.true_and]
    rw [decide_eq_true (show 0 ≤ k ∧ k ≤ C from ⟨h0, h1⟩), Bool.true_and]
theorem cross_in {a k : Int} (h : rowInB R C l a = true) (hk : rowInB C R (turnL l) k = true) : rowInB R (C + 1) (turnL (inL k R (turnL l))) a = true := by
  simp only [rowInB, Bool.and_eq_true, decide_eq_true_eq] at h
  simp only [rowInB, ok_turnI (ok_in hk), Bool.true_and, Bool.and_eq_true, decide_eq_true_eq]
  omega
theorem rowIn_nil (a : Int) : rowInB 0 0 [] a = false := by
  simp only [rowInB, okB_nil, Bool.false_and]
end
end Go.Proofs.Ytbigbbfbikhjdab
namespace Go.Proofs.Ytbigbbfbikhjdab
open Go.RowKit

set_option maxRecDepth 100000 in
set_option maxHeartbeats 8000000 in
theorem lawTabCross_walk (a : Option Addr) (n cap : Nat) (zs : List Int) (b : Option Addr) (nb capb : Nat) (zb : List Int) (w : World) (h : Byt w.heap.size w a n cap zs) (h' : Byt w.heap.size w b nb capb zb) :
    Calls Try.prog 3 #[.slice a n cap, .slice b nb capb] w fun e w' => e = .returned (.bool true) ∧ Below w.heap.size w w' := by
  have HY : Hid (Byt w.heap.size w a n cap zs) := h
  have hc := h.2.1
  have hm := h.2.2.1
  have hc' := h'.2.1
  have hm' := h'.2.2.1
  unfold maxLen at hm hm'
  clear h h'
  by_cases hn : 1048576 < n
  · have hd : decide ((1048576 : Int) < (n : Int)) = true := by simp; omega
    go_enter Try.func3, Try.ntmps3
    go_wp2_with fail
    go_ret
    exact ⟨rfl, Below.refl _ _⟩
  have hd : decide ((1048576 : Int) < (n : Int)) = false := by simp; omega
  by_cases hn' : 1048576 < nb
  · have hd' : decide ((1048576 : Int) < (nb : Int)) = true := by simp; omega
    go_enter Try.func3, Try.ntmps3
    go_wp2_with fail
    go_ret
    exact ⟨rfl, Below.refl _ _⟩
  have hd' : decide ((1048576 : Int) < (nb : Int)) = false := by simp; omega
  go_enter Try.func3, Try.ntmps3
  go_upto_region 4 with (go_at_call 8; refine (drawTableRowIn_any w.heap.size a n cap zs _ HY.out (Nat.le_refl _)).mono ?_; rintro e w1 ⟨⟨R, C, a', n', c', l, t', rfl, hT1, hS1, hat⟩, hb1⟩)
  have H0 := Hold.first hb1 hT1 #[.int .i64 R, .int .i64 C, .slice a' n' c'] 25
  generalize (w1.alloc (.cells #[.int .i64 R, .int .i64 C, .slice a' n' c'] 25)) = v0 at H0 ⊢
  obtain ⟨Tb, hTe⟩ : ∃ T, w1.heap.size = T := ⟨_, rfl⟩
  rw [hTe] at H0 ⊢
  have HH : Hid (Hold w [(Tb, #[.int .i64 R, .int .i64 C, .slice a' n' c'], 25)] [(a', n', c', l)] v0) := H0
  obtain ⟨hRb, hCb, hLb, hXb⟩ := hS1
  have HLX : Hid (∀ z ∈ l, z.2.2.2.2.length ≤ 25) := hXb
  clear hT1 hb1 H0 hTe hXb
  obtain ⟨can, HC⟩ : ∃ o, Hid (rowInB R C l t' = o) := ⟨_, rfl⟩
  cases can
  · go_upto_region 5 with (first | (refine wpList_load_row rfl 25 (.tmp 5) rfl Tb rfl 25 #[.int .i64 R, .int .i64 C, .slice a' n' c'] (0, 0) _ (HH.out.row 0 rfl) Try.underlying25 rfl tab_info ?_) | (go_at_call 9; refine (specTableRowIn_any R C t' a' n' c' l _ (HH.out.tab 0 rfl)).mono ?_; intro e w1' hr; obtain ⟨hr1, hb⟩ := hr; obtain ⟨Wa, Wn, Wc, rfl, hT⟩ := tabRes_f HC.out hr1; clear hr1))
    have H0 := HH.out.res hb hT #[.int .i64 0, .int .i64 0, .slice Wa Wn Wc] 25
    generalize (w1'.alloc (.cells #[.int .i64 0, .int .i64 0, .slice Wa Wn Wc] 25)) = v1 at H0 ⊢
    obtain ⟨Wb, hTe⟩ : ∃ T, w1'.heap.size = T := ⟨_, rfl⟩
    rw [hTe] at H0 ⊢
    replace HH : Hid (Hold w [(Wb, #[.int .i64 0, .int .i64 0, .slice Wa Wn Wc], 25), (Tb, #[.int .i64 R, .int .i64 C, .slice a' n' c'], 25)] [(Wa, Wn, Wc, []), (a', n', c', l)] v1) := H0
    clear hT hb H0 hTe
    go_upto_region 6 with (first | (refine wpList_load_row rfl 25 (.tmp 7) rfl Wb rfl 25 #[.int .i64 0, .int .i64 0, .slice Wa Wn Wc] (0, 0) _ (HH.out.row 0 rfl) Try.underlying25 rfl tab_info ?_) | (refine wpList_load_row rfl 25 (.tmp 5) rfl Tb rfl 25 #[.int .i64 R, .int .i64 C, .slice a' n' c'] (0, 0) _ (HH.out.row 1 rfl) Try.underlying25 rfl tab_info ?_) | (go_at_call 10; refine (implTableRowIn_any R C t' a' n' c' l _ (HH.out.tab 1 rfl)).mono ?_; intro e w2' hr; obtain ⟨hr1, hb⟩ := hr; obtain ⟨Xa, Xn, Xc, rfl, hT⟩ := tabRes_f HC.out hr1; clear hr1))
    have H0 := HH.out.res hb hT #[.int .i64 0, .int .i64 0, .slice Xa Xn Xc] 25
    generalize (w2'.alloc (.cells #[.int .i64 0, .int .i64 0, .slice Xa Xn Xc] 25)) = v2 at H0 ⊢
    obtain ⟨Xb, hTe⟩ : ∃ T, w2'.heap.size = T := ⟨_, rfl⟩
    rw [hTe] at H0 ⊢
    replace HH : Hid (Hold w [(Xb, #[.int .i64 0, .int .i64 0, .slice Xa Xn Xc], 25), (Wb, #[.int .i64 0, .int .i64 0, .slice Wa Wn Wc], 25), (Tb, #[.int .i64 R, .int .i64 C, .slice a' n' c'], 25)] [(Xa, Xn, Xc, []), (Wa, Wn, Wc, []), (a', n', c', l)] v2) := H0
    clear hT hb H0 hTe
    go_wp2_with (first | (refine wpList_load_rowG (by rfl) 25 (.tmp 9) rfl Xb rfl 25 #[.int .i64 0, .int .i64 0, .slice Xa Xn Xc] (0, 0) _ (HH.out.row 0 rfl) Try.underlying25 rfl tab_info ?_) | (refine wpList_load_rowG (by rfl) 25 (.tmp 7) rfl Wb rfl 25 #[.int .i64 0, .int .i64 0, .slice Wa Wn Wc] (0, 0) _ (HH.out.row 1 rfl) Try.underlying25 rfl tab_info ?_) | (refine wpList_load_rowG (by rfl) 25 (.tmp 5) rfl Tb rfl 25 #[.int .i64 R, .int .i64 C, .slice a' n' c'] (0, 0) _ (HH.out.row 2 rfl) Try.underlying25 rfl tab_info ?_) | (go_at_call 11; refine (lmTable_same (0) (0) Xa Xn Xc [] Wa Wn Wc _ (HH.out.tab 0 rfl) (HH.out.tab 1 rfl)).mono ?_; rintro e uu ⟨rfl, hb⟩; replace HH : Hid (Hold w [(Xb, #[.int .i64 0, .int .i64 0, .slice Xa Xn Xc], 25), (Wb, #[.int .i64 0, .int .i64 0, .slice Wa Wn Wc], 25), (Tb, #[.int .i64 R, .int .i64 C, .slice a' n' c'], 25)] [(Xa, Xn, Xc, []), (Wa, Wn, Wc, []), (a', n', c', l)] uu) := HH.out.go hb; clear hb))
    go_ret
    exact ⟨rfl, HH.out.1⟩
  · have HOK : Hid (okB R C l = true) := rowIn_ok HC.out
    obtain ⟨hR1, hC1, -, -⟩ := gridP_of_okB HOK.out
    obtain ⟨hat0, hat1, hR2⟩ : 0 ≤ t' ∧ t' ≤ R ∧ R < 5 := by
      have h := HC.out
      simp only [rowInB, Bool.and_eq_true, decide_eq_true_eq] at h
      omega
    obtain ⟨N, HN⟩ : ∃ N : Int, Hid (R + 1 = N) := ⟨_, rfl⟩
    have hNb : N ≤ 10 ∧ 0 ≤ N := by have := HN.out; omega
    go_upto_region 5 with (first | (refine wpList_load_row rfl 25 (.tmp 5) rfl Tb rfl 25 #[.int .i64 R, .int .i64 C, .slice a' n' c'] (0, 0) _ (HH.out.row 0 rfl) Try.underlying25 rfl tab_info ?_) | (go_at_call 9; refine (specTableRowIn_any R C t' a' n' c' l _ (HH.out.tab 0 rfl)).mono ?_; intro e w1' hr; obtain ⟨hr1, hb⟩ := hr; rw [HN.out] at hr1; obtain ⟨Wa, Wn, Wc, rfl, hT⟩ := tabRes_t HC.out hr1; clear hr1))
    have H0 := HH.out.res hb hT #[.int .i64 N, .int .i64 C, .slice Wa Wn Wc] 25
    generalize (w1'.alloc (.cells #[.int .i64 N, .int .i64 C, .slice Wa Wn Wc] 25)) = v1 at H0 ⊢
    obtain ⟨Wb, hTe⟩ : ∃ T, w1'.heap.size = T := ⟨_, rfl⟩
    rw [hTe] at H0 ⊢
    replace HH : Hid (Hold w [(Wb, #[.int .i64 N, .int .i64 C, .slice Wa Wn Wc], 25), (Tb, #[.int .i64 R, .int .i64 C, .slice a' n' c'], 25)] [(Wa, Wn, Wc, (inL t' C l)), (a', n', c', l)] v1) := H0
    clear hT hb H0 hTe
    go_upto_region 6 with (first | (refine wpList_load_row rfl 25 (.tmp 7) rfl Wb rfl 25 #[.int .i64 N, .int .i64 C, .slice Wa Wn Wc] (0, 0) _ (HH.out.row 0 rfl) Try.underlying25 rfl tab_info ?_) | (refine wpList_load_row rfl 25 (.tmp 5) rfl Tb rfl 25 #[.int .i64 R, .int .i64 C, .slice a' n' c'] (0, 0) _ (HH.out.row 1 rfl) Try.underlying25 rfl tab_info ?_) | (go_at_call 10; refine (implTableRowIn_any R C t' a' n' c' l _ (HH.out.tab 1 rfl)).mono ?_; intro e w2' hr; obtain ⟨hr1, hb⟩ := hr; rw [HN.out] at hr1; obtain ⟨Xa, Xn, Xc, rfl, hT⟩ := tabRes_t HC.out hr1; clear hr1))
    have H0 := HH.out.res hb hT #[.int .i64 N, .int .i64 C, .slice Xa Xn Xc] 25
    generalize (w2'.alloc (.cells #[.int .i64 N, .int .i64 C, .slice Xa Xn Xc] 25)) = v2 at H0 ⊢
    obtain ⟨Xb, hTe⟩ : ∃ T, w2'.heap.size = T := ⟨_, rfl⟩
    rw [hTe] at H0 ⊢
    replace HH : Hid (Hold w [(Xb, #[.int .i64 N, .int .i64 C, .slice Xa Xn Xc], 25), (Wb, #[.int .i64 N, .int .i64 C, .slice Wa Wn Wc], 25), (Tb, #[.int .i64 R, .int .i64 C, .slice a' n' c'], 25)] [(Xa, Xn, Xc, (inL t' C l)), (Wa, Wn, Wc, (inL t' C l)), (a', n', c', l)] v2) := H0
    clear hT hb H0 hTe
    have hdv : C + 1 ≠ 0 := by omega
    have e1 : 0 ≤ (nb : Int) % (C + 1) := Int.emod_nonneg _ hdv
    have e2 : (nb : Int) % (C + 1) < C + 1 := Int.emod_lt_of_pos _ (by omega)
    go_upto_region 9 with (first | (refine wpList_load_rowG (by rfl) 25 (.tmp 9) rfl Xb rfl 25 #[.int .i64 N, .int .i64 C, .slice Xa Xn Xc] (0, 0) _ (HH.out.row 0 rfl) Try.underlying25 rfl tab_info ?_) | (refine wpList_load_rowG (by rfl) 25 (.tmp 7) rfl Wb rfl 25 #[.int .i64 N, .int .i64 C, .slice Wa Wn Wc] (0, 0) _ (HH.out.row 1 rfl) Try.underlying25 rfl tab_info ?_) | (refine wpList_load_rowG (by rfl) 25 (.tmp 5) rfl Tb rfl 25 #[.int .i64 R, .int .i64 C, .slice a' n' c'] (0, 0) _ (HH.out.row 2 rfl) Try.underlying25 rfl tab_info ?_) | (go_at_call 11; refine (lmTable_same (N) (C) Xa Xn Xc (inL t' C l) Wa Wn Wc _ (HH.out.tab 0 rfl) (HH.out.tab 1 rfl)).mono ?_; rintro e uu ⟨rfl, hb⟩; replace HH : Hid (Hold w [(Xb, #[.int .i64 N, .int .i64 C, .slice Xa Xn Xc], 25), (Wb, #[.int .i64 N, .int .i64 C, .slice Wa Wn Wc], 25), (Tb, #[.int .i64 R, .int .i64 C, .slice a' n' c'], 25)] [(Xa, Xn, Xc, (inL t' C l)), (Wa, Wn, Wc, (inL t' C l)), (a', n', c', l)] uu) := HH.out.go hb; clear hb; have qTb1 : uu.cell? ⟨Tb, 1, none⟩ = some (.int .i64 C) := (HH.out.row 2 rfl).cell 1))
    obtain ⟨k, HQ⟩ : ∃ o : Int, Hid ((nb : Int) % (C + 1) = o) := ⟨_, rfl⟩
    rw [HQ.out]
    have ho : 0 ≤ k ∧ k ≤ C := by have := HQ.out; omega
    obtain ⟨ho1, ho2⟩ := ho
    have HB := cross_B HC.out ho1 ho2
    have HON := ok_in HC.out
    rw [HN.out] at HB HON
    have HB2 : Hid (rowInB C R (turnL l) k = decide (C < 5)) := HB.1
    have HB1 : Hid (rowInB C N (turnL (inL t' C l)) k = decide (C < 5)) := HB.2
    have HT1 : Hid (tX R C l = C ∧ tY R C l = R ∧ tL R C l = turnL l) := t_of HOK.out
    have HT2 : Hid (tX N C (inL t' C l) = C ∧ tY N C (inL t' C l) = N ∧ tL N C (inL t' C l) = turnL (inL t' C l)) := t_of HON
    clear HB e1 e2 hdv HQ HON
    by_cases h3 : C < 5
    · have HD : Hid (decide (C < 5) = true) := decide_eq_true h3
      have HE : Hid (inL t' (C + 1) (turnL (inL k R (turnL l))) = (turnL (inL k N (turnL (inL t' C l))))) := by
        have := cross HC.out (HB2.out.trans HD.out)
        rw [HN.out] at this
        exact this
      have HB3 : Hid (rowInB R (C + 1) (turnL (inL k R (turnL l))) t' = true) := cross_in HC.out (HB2.out.trans HD.out)
      go_upto_region 10 with (first | (refine wpList_load_row rfl 25 (.tmp 9) rfl Xb rfl 25 #[.int .i64 N, .int .i64 C, .slice Xa Xn Xc] (0, 0) _ (HH.out.row 0 rfl) Try.underlying25 rfl tab_info ?_) | (refine wpList_load_row rfl 25 (.tmp 7) rfl Wb rfl 25 #[.int .i64 N, .int .i64 C, .slice Wa Wn Wc] (0, 0) _ (HH.out.row 1 rfl) Try.underlying25 rfl tab_info ?_) | (refine wpList_load_row rfl 25 (.tmp 5) rfl Tb rfl 25 #[.int .i64 R, .int .i64 C, .slice a' n' c'] (0, 0) _ (HH.out.row 2 rfl) Try.underlying25 rfl tab_info ?_) | (go_at_call 12; refine (implTableColIn_any N C k Xa Xn Xc (inL t' C l) _ (HH.out.tab 0 rfl)).mono ?_; intro e w3' hr; obtain ⟨hr1, hb⟩ := hr; rw [HT2.out.1, HT2.out.2.1, HT2.out.2.2] at hr1; obtain ⟨Ya, Yn, Yc, rfl, hT⟩ := tabRes_t (HB1.out.trans HD.out) hr1; clear hr1))
      have H0 := HH.out.res hb hT #[.int .i64 N, .int .i64 (C + 1), .slice Ya Yn Yc] 25
      generalize (w3'.alloc (.cells #[.int .i64 N, .int .i64 (C + 1), .slice Ya Yn Yc] 25)) = v3 at H0 ⊢
      obtain ⟨Yb, hTe⟩ : ∃ T, w3'.heap.size = T := ⟨_, rfl⟩
      rw [hTe] at H0 ⊢
      replace HH : Hid (Hold w [(Yb, #[.int .i64 N, .int .i64 (C + 1), .slice Ya Yn Yc], 25), (Xb, #[.int .i64 N, .int .i64 C, .slice Xa Xn Xc], 25), (Wb, #[.int .i64 N, .int .i64 C, .slice Wa Wn Wc], 25), (Tb, #[.int .i64 R, .int .i64 C, .slice a' n' c'], 25)] [(Ya, Yn, Yc, (turnL (inL k N (turnL (inL t' C l))))), (Xa, Xn, Xc, (inL t' C l)), (Wa, Wn, Wc, (inL t' C l)), (a', n', c', l)] v3) := H0
      clear hT hb H0 hTe
      go_upto_region 11 with (first | (refine wpList_load_row rfl 25 (.tmp 12) rfl Yb rfl 25 #[.int .i64 N, .int .i64 (C + 1), .slice Ya Yn Yc] (0, 0) _ (HH.out.row 0 rfl) Try.underlying25 rfl tab_info ?_) | (refine wpList_load_row rfl 25 (.tmp 9) rfl Xb rfl 25 #[.int .i64 N, .int .i64 C, .slice Xa Xn Xc] (0, 0) _ (HH.out.row 1 rfl) Try.underlying25 rfl tab_info ?_) | (refine wpList_load_row rfl 25 (.tmp 7) rfl Wb rfl 25 #[.int .i64 N, .int .i64 C, .slice Wa Wn Wc] (0, 0) _ (HH.out.row 2 rfl) Try.underlying25 rfl tab_info ?_) | (refine wpList_load_row rfl 25 (.tmp 5) rfl Tb rfl 25 #[.int .i64 R, .int .i64 C, .slice a' n' c'] (0, 0) _ (HH.out.row 3 rfl) Try.underlying25 rfl tab_info ?_) | (go_at_call 12; refine (implTableColIn_any R C k a' n' c' l _ (HH.out.tab 3 rfl)).mono ?_; intro e w4' hr; obtain ⟨hr1, hb⟩ := hr; rw [HT1.out.1, HT1.out.2.1, HT1.out.2.2] at hr1; obtain ⟨Za, Zn, Zc, rfl, hT⟩ := tabRes_t (HB2.out.trans HD.out) hr1; clear hr1))
      have H0 := HH.out.res hb hT #[.int .i64 R, .int .i64 (C + 1), .slice Za Zn Zc] 25
      generalize (w4'.alloc (.cells #[.int .i64 R, .int .i64 (C + 1), .slice Za Zn Zc] 25)) = v4 at H0 ⊢
      obtain ⟨Zb, hTe⟩ : ∃ T, w4'.heap.size = T := ⟨_, rfl⟩
      rw [hTe] at H0 ⊢
      replace HH : Hid (Hold w [(Zb, #[.int .i64 R, .int .i64 (C + 1), .slice Za Zn Zc], 25), (Yb, #[.int .i64 N, .int .i64 (C + 1), .slice Ya Yn Yc], 25), (Xb, #[.int .i64 N, .int .i64 C, .slice Xa Xn Xc], 25), (Wb, #[.int .i64 N, .int .i64 C, .slice Wa Wn Wc], 25), (Tb, #[.int .i64 R, .int .i64 C, .slice a' n' c'], 25)] [(Za, Zn, Zc, (turnL (inL k R (turnL l)))), (Ya, Yn, Yc, (turnL (inL k N (turnL (inL t' C l))))), (Xa, Xn, Xc, (inL t' C l)), (Wa, Wn, Wc, (inL t' C l)), (a', n', c', l)] v4) := H0
      clear hT hb H0 hTe
      go_upto_region 12 with (first | (refine wpList_load_row rfl 25 (.tmp 14) rfl Zb rfl 25 #[.int .i64 R, .int .i64 (C + 1), .slice Za Zn Zc] (0, 0) _ (HH.out.row 0 rfl) Try.underlying25 rfl tab_info ?_) | (refine wpList_load_row rfl 25 (.tmp 12) rfl Yb rfl 25 #[.int .i64 N, .int .i64 (C + 1), .slice Ya Yn Yc] (0, 0) _ (HH.out.row 1 rfl) Try.underlying25 rfl tab_info ?_) | (refine wpList_load_row rfl 25 (.tmp 9) rfl Xb rfl 25 #[.int .i64 N, .int .i64 C, .slice Xa Xn Xc] (0, 0) _ (HH.out.row 2 rfl) Try.underlying25 rfl tab_info ?_) | (refine wpList_load_row rfl 25 (.tmp 7) rfl Wb rfl 25 #[.int .i64 N, .int .i64 C, .slice Wa Wn Wc] (0, 0) _ (HH.out.row 3 rfl) Try.underlying25 rfl tab_info ?_) | (refine wpList_load_row rfl 25 (.tmp 5) rfl Tb rfl 25 #[.int .i64 R, .int .i64 C, .slice a' n' c'] (0, 0) _ (HH.out.row 4 rfl) Try.underlying25 rfl tab_info ?_) | (go_at_call 10; refine (implTableRowIn_any R (C + 1) t' Za Zn Zc (turnL (inL k R (turnL l))) _ (HH.out.tab 0 rfl)).mono ?_; intro e w5' hr; obtain ⟨hr1, hb⟩ := hr; rw [HE.out, HN.out] at hr1; obtain ⟨Va, Vn, Vc, rfl, hT⟩ := tabRes_t HB3.out hr1; clear hr1))
      have H0 := HH.out.res hb hT #[.int .i64 N, .int .i64 (C + 1), .slice Va Vn Vc] 25
      generalize (w5'.alloc (.cells #[.int .i64 N, .int .i64 (C + 1), .slice Va Vn Vc] 25)) = v5 at H0 ⊢
      obtain ⟨Vb, hTe⟩ : ∃ T, w5'.heap.size = T := ⟨_, rfl⟩
      rw [hTe] at H0 ⊢
      replace HH : Hid (Hold w [(Vb, #[.int .i64 N, .int .i64 (C + 1), .slice Va Vn Vc], 25), (Zb, #[.int .i64 R, .int .i64 (C + 1), .slice Za Zn Zc], 25), (Yb, #[.int .i64 N, .int .i64 (C + 1), .slice Ya Yn Yc], 25), (Xb, #[.int .i64 N, .int .i64 C, .slice Xa Xn Xc], 25), (Wb, #[.int .i64 N, .int .i64 C, .slice Wa Wn Wc], 25), (Tb, #[.int .i64 R, .int .i64 C, .slice a' n' c'], 25)] [(Va, Vn, Vc, (turnL (inL k N (turnL (inL t' C l))))), (Za, Zn, Zc, (turnL (inL k R (turnL l)))), (Ya, Yn, Yc, (turnL (inL k N (turnL (inL t' C l))))), (Xa, Xn, Xc, (inL t' C l)), (Wa, Wn, Wc, (inL t' C l)), (a', n', c', l)] v5) := H0
      clear hT hb H0 hTe
      go_wp2_with (first | (refine wpList_load_rowG (by rfl) 25 (.tmp 16) rfl Vb rfl 25 #[.int .i64 N, .int .i64 (C + 1), .slice Va Vn Vc] (0, 0) _ (HH.out.row 0 rfl) Try.underlying25 rfl tab_info ?_) | (refine wpList_load_rowG (by rfl) 25 (.tmp 14) rfl Zb rfl 25 #[.int .i64 R, .int .i64 (C + 1), .slice Za Zn Zc] (0, 0) _ (HH.out.row 1 rfl) Try.underlying25 rfl tab_info ?_) | (refine wpList_load_rowG (by rfl) 25 (.tmp 12) rfl Yb rfl 25 #[.int .i64 N, .int .i64 (C + 1), .slice Ya Yn Yc] (0, 0) _ (HH.out.row 2 rfl) Try.underlying25 rfl tab_info ?_) | (refine wpList_load_rowG (by rfl) 25 (.tmp 9) rfl Xb rfl 25 #[.int .i64 N, .int .i64 C, .slice Xa Xn Xc] (0, 0) _ (HH.out.row 3 rfl) Try.underlying25 rfl tab_info ?_) | (refine wpList_load_rowG (by rfl) 25 (.tmp 7) rfl Wb rfl 25 #[.int .i64 N, .int .i64 C, .slice Wa Wn Wc] (0, 0) _ (HH.out.row 4 rfl) Try.underlying25 rfl tab_info ?_) | (refine wpList_load_rowG (by rfl) 25 (.tmp 5) rfl Tb rfl 25 #[.int .i64 R, .int .i64 C, .slice a' n' c'] (0, 0) _ (HH.out.row 5 rfl) Try.underlying25 rfl tab_info ?_) | (go_at_call 11; refine (lmTable_same (N) (C + 1) Va Vn Vc (turnL (inL k N (turnL (inL t' C l)))) Ya Yn Yc _ (HH.out.tab 0 rfl) (HH.out.tab 2 rfl)).mono ?_; rintro e uu ⟨rfl, hb⟩; replace HH : Hid (Hold w [(Vb, #[.int .i64 N, .int .i64 (C + 1), .slice Va Vn Vc], 25), (Zb, #[.int .i64 R, .int .i64 (C + 1), .slice Za Zn Zc], 25), (Yb, #[.int .i64 N, .int .i64 (C + 1), .slice Ya Yn Yc], 25), (Xb, #[.int .i64 N, .int .i64 C, .slice Xa Xn Xc], 25), (Wb, #[.int .i64 N, .int .i64 C, .slice Wa Wn Wc], 25), (Tb, #[.int .i64 R, .int .i64 C, .slice a' n' c'], 25)] [(Va, Vn, Vc, (turnL (inL k N (turnL (inL t' C l))))), (Za, Zn, Zc, (turnL (inL k R (turnL l)))), (Ya, Yn, Yc, (turnL (inL k N (turnL (inL t' C l))))), (Xa, Xn, Xc, (inL t' C l)), (Wa, Wn, Wc, (inL t' C l)), (a', n', c', l)] uu) := HH.out.go hb; clear hb))
      go_ret
      exact ⟨rfl, HH.out.1⟩
    · have HD : Hid (decide (C < 5) = false) := decide_eq_false h3
      have HB3 : Hid (rowInB 0 0 [] t' = false) := rowIn_nil t'
      go_upto_region 10 with (first | (refine wpList_load_row rfl 25 (.tmp 9) rfl Xb rfl 25 #[.int .i64 N, .int .i64 C, .slice Xa Xn Xc] (0, 0) _ (HH.out.row 0 rfl) Try.underlying25 rfl tab_info ?_) | (refine wpList_load_row rfl 25 (.tmp 7) rfl Wb rfl 25 #[.int .i64 N, .int .i64 C, .slice Wa Wn Wc] (0, 0) _ (HH.out.row 1 rfl) Try.underlying25 rfl tab_info ?_) | (refine wpList_load_row rfl 25 (.tmp 5) rfl Tb rfl 25 #[.int .i64 R, .int .i64 C, .slice a' n' c'] (0, 0) _ (HH.out.row 2 rfl) Try.underlying25 rfl tab_info ?_) | (go_at_call 12; refine (implTableColIn_any N C k Xa Xn Xc (inL t' C l) _ (HH.out.tab 0 rfl)).mono ?_; intro e w3' hr; obtain ⟨hr1, hb⟩ := hr; rw [HT2.out.1, HT2.out.2.1, HT2.out.2.2] at hr1; obtain ⟨Ya, Yn, Yc, rfl, hT⟩ := tabRes_f (HB1.out.trans HD.out) hr1; clear hr1))
      have H0 := HH.out.res hb hT #[.int .i64 0, .int .i64 0, .slice Ya Yn Yc] 25
      generalize (w3'.alloc (.cells #[.int .i64 0, .int .i64 0, .slice Ya Yn Yc] 25)) = v3 at H0 ⊢
      obtain ⟨Yb, hTe⟩ : ∃ T, w3'.heap.size = T := ⟨_, rfl⟩
      rw [hTe] at H0 ⊢
      replace HH : Hid (Hold w [(Yb, #[.int .i64 0, .int .i64 0, .slice Ya Yn Yc], 25), (Xb, #[.int .i64 N, .int .i64 C, .slice Xa Xn Xc], 25), (Wb, #[.int .i64 N, .int .i64 C, .slice Wa Wn Wc], 25), (Tb, #[.int .i64 R, .int .i64 C, .slice a' n' c'], 25)] [(Ya, Yn, Yc, []), (Xa, Xn, Xc, (inL t' C l)), (Wa, Wn, Wc, (inL t' C l)), (a', n', c', l)] v3) := H0
      clear hT hb H0 hTe
      go_upto_region 11 with (first | (refine wpList_load_row rfl 25 (.tmp 12) rfl Yb rfl 25 #[.int .i64 0, .int .i64 0, .slice Ya Yn Yc] (0, 0) _ (HH.out.row 0 rfl) Try.underlying25 rfl tab_info ?_) | (refine wpList_load_row rfl 25 (.tmp 9) rfl Xb rfl 25 #[.int .i64 N, .int .i64 C, .slice Xa Xn Xc] (0, 0) _ (HH.out.row 1 rfl) Try.underlying25 rfl tab_info ?_) | (refine wpList_load_row rfl 25 (.tmp 7) rfl Wb rfl 25 #[.int .i64 N, .int .i64 C, .slice Wa Wn Wc] (0, 0) _ (HH.out.row 2 rfl) Try.underlying25 rfl tab_info ?_) | (refine wpList_load_row rfl 25 (.tmp 5) rfl Tb rfl 25 #[.int .i64 R, .int .i64 C, .slice a' n' c'] (0, 0) _ (HH.out.row 3 rfl) Try.underlying25 rfl tab_info ?_) | (go_at_call 12; refine (implTableColIn_any R C k a' n' c' l _ (HH.out.tab 3 rfl)).mono ?_; intro e w4' hr; obtain ⟨hr1, hb⟩ := hr; rw [HT1.out.1, HT1.out.2.1, HT1.out.2.2] at hr1; obtain ⟨Za, Zn, Zc, rfl, hT⟩ := tabRes_f (HB2.out.trans HD.out) hr1; clear hr1))
      have H0 := HH.out.res hb hT #[.int .i64 0, .int .i64 0, .slice Za Zn Zc] 25
      generalize (w4'.alloc (.cells #[.int .i64 0, .int .i64 0, .slice Za Zn Zc] 25)) = v4 at H0 ⊢
      obtain ⟨Zb, hTe⟩ : ∃ T, w4'.heap.size = T := ⟨_, rfl⟩
      rw [hTe] at H0 ⊢
      replace HH : Hid (Hold w [(Zb, #[.int .i64 0, .int .i64 0, .slice Za Zn Zc], 25), (Yb, #[.int .i64 0, .int .i64 0, .slice Ya Yn Yc], 25), (Xb, #[.int .i64 N, .int .i64 C, .slice Xa Xn Xc], 25), (Wb, #[.int .i64 N, .int .i64 C, .slice Wa Wn Wc], 25), (Tb, #[.int .i64 R, .int .i64 C, .slice a' n' c'], 25)] [(Za, Zn, Zc, []), (Ya, Yn, Yc, []), (Xa, Xn, Xc, (inL t' C l)), (Wa, Wn, Wc, (inL t' C l)), (a', n', c', l)] v4) := H0
      clear hT hb H0 hTe
      go_upto_region 12 with (first | (refine wpList_load_row rfl 25 (.tmp 14) rfl Zb rfl 25 #[.int .i64 0, .int .i64 0, .slice Za Zn Zc] (0, 0) _ (HH.out.row 0 rfl) Try.underlying25 rfl tab_info ?_) | (refine wpList_load_row rfl 25 (.tmp 12) rfl Yb rfl 25 #[.int .i64 0, .int .i64 0, .slice Ya Yn Yc] (0, 0) _ (HH.out.row 1 rfl) Try.underlying25 rfl tab_info ?_) | (refine wpList_load_row rfl 25 (.tmp 9) rfl Xb rfl 25 #[.int .i64 N, .int .i64 C, .slice Xa Xn Xc] (0, 0) _ (HH.out.row 2 rfl) Try.underlying25 rfl tab_info ?_) | (refine wpList_load_row rfl 25 (.tmp 7) rfl Wb rfl 25 #[.int .i64 N, .int .i64 C, .slice Wa Wn Wc] (0, 0) _ (HH.out.row 3 rfl) Try.underlying25 rfl tab_info ?_) | (refine wpList_load_row rfl 25 (.tmp 5) rfl Tb rfl 25 #[.int .i64 R, .int .i64 C, .slice a' n' c'] (0, 0) _ (HH.out.row 4 rfl) Try.underlying25 rfl tab_info ?_) | (go_at_call 10; refine (implTableRowIn_any 0 0 t' Za Zn Zc [] _ (HH.out.tab 0 rfl)).mono ?_; intro e w5' hr; obtain ⟨hr1, hb⟩ := hr; obtain ⟨Va, Vn, Vc, rfl, hT⟩ := tabRes_f HB3.out hr1; clear hr1))
      have H0 := HH.out.res hb hT #[.int .i64 0, .int .i64 0, .slice Va Vn Vc] 25
      generalize (w5'.alloc (.cells #[.int .i64 0, .int .i64 0, .slice Va Vn Vc] 25)) = v5 at H0 ⊢
      obtain ⟨Vb, hTe⟩ : ∃ T, w5'.heap.size = T := ⟨_, rfl⟩
      rw [hTe] at H0 ⊢
      replace HH : Hid (Hold w [(Vb, #[.int .i64 0, .int .i64 0, .slice Va Vn Vc], 25), (Zb, #[.int .i64 0, .int .i64 0, .slice Za Zn Zc], 25), (Yb, #[.int .i64 0, .int .i64 0, .slice Ya Yn Yc], 25), (Xb, #[.int .i64 N, .int .i64 C, .slice Xa Xn Xc], 25), (Wb, #[.int .i64 N, .int .i64 C, .slice Wa Wn Wc], 25), (Tb, #[.int .i64 R, .int .i64 C, .slice a' n' c'], 25)] [(Va, Vn, Vc, []), (Za, Zn, Zc, []), (Ya, Yn, Yc, []), (Xa, Xn, Xc, (inL t' C l)), (Wa, Wn, Wc, (inL t' C l)), (a', n', c', l)] v5) := H0
      clear hT hb H0 hTe
      go_wp2_with (first | (refine wpList_load_rowG (by rfl) 25 (.tmp 16) rfl Vb rfl 25 #[.int .i64 0, .int .i64 0, .slice Va Vn Vc] (0, 0) _ (HH.out.row 0 rfl) Try.underlying25 rfl tab_info ?_) | (refine wpList_load_rowG (by rfl) 25 (.tmp 14) rfl Zb rfl 25 #[.int .i64 0, .int .i64 0, .slice Za Zn Zc] (0, 0) _ (HH.out.row 1 rfl) Try.underlying25 rfl tab_info ?_) | (refine wpList_load_rowG (by rfl) 25 (.tmp 12) rfl Yb rfl 25 #[.int .i64 0, .int .i64 0, .slice Ya Yn Yc] (0, 0) _ (HH.out.row 2 rfl) Try.underlying25 rfl tab_info ?_) | (refine wpList_load_rowG (by rfl) 25 (.tmp 9) rfl Xb rfl 25 #[.int .i64 N, .int .i64 C, .slice Xa Xn Xc] (0, 0) _ (HH.out.row 3 rfl) Try.underlying25 rfl tab_info ?_) | (refine wpList_load_rowG (by rfl) 25 (.tmp 7) rfl Wb rfl 25 #[.int .i64 N, .int .i64 C, .slice Wa Wn Wc] (0, 0) _ (HH.out.row 4 rfl) Try.underlying25 rfl tab_info ?_) | (refine wpList_load_rowG (by rfl) 25 (.tmp 5) rfl Tb rfl 25 #[.int .i64 R, .int .i64 C, .slice a' n' c'] (0, 0) _ (HH.out.row 5 rfl) Try.underlying25 rfl tab_info ?_) | (go_at_call 11; refine (lmTable_same (0) (0) Va Vn Vc [] Ya Yn Yc _ (HH.out.tab 0 rfl) (HH.out.tab 2 rfl)).mono ?_; rintro e uu ⟨rfl, hb⟩; replace HH : Hid (Hold w [(Vb, #[.int .i64 0, .int .i64 0, .slice Va Vn Vc], 25), (Zb, #[.int .i64 0, .int .i64 0, .slice Za Zn Zc], 25), (Yb, #[.int .i64 0, .int .i64 0, .slice Ya Yn Yc], 25), (Xb, #[.int .i64 N, .int .i64 C, .slice Xa Xn Xc], 25), (Wb, #[.int .i64 N, .int .i64 C, .slice Wa Wn Wc], 25), (Tb, #[.int .i64 R, .int .i64 C, .slice a' n' c'], 25)] [(Va, Vn, Vc, []), (Za, Zn, Zc, []), (Ya, Yn, Yc, []), (Xa, Xn, Xc, (inL t' C l)), (Wa, Wn, Wc, (inL t' C l)), (a', n', c', l)] uu) := HH.out.go hb; clear hb))
      go_ret
      exact ⟨rfl, HH.out.1⟩
end Go.Proofs.Ytbigbbfbikhjdab
