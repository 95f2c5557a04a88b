import Derived.Test.YtbigbbfbikhjdabBD2
import Derived.Test.YtbigbbfbikhjdabBA2
import Derived.Test.YtbigbbfbikhjdabBI1
import Derived.Test.YtbigbbfbikhjdabBO1
import Derived.Test.YtbigbbfbikhjdabBA3
import Derived.Test.YtbigbbfbikhjdabBA1
namespace Go.Proofs.Ytbigbbfbikhjdab
open Go.RowKit

set_option maxRecDepth 100000 in
set_option maxHeartbeats 8000000 in
theorem drawTableRowIn_any (B : Nat) (a : Option Addr) (n cap : Nat) (zs : List Int) (w : World) (h : Byt B w a n cap zs) (hB : B ≤ w.heap.size) :
    Calls Try.prog 8 #[.slice a n cap] w fun e w' => (∃ (R C : Int) (a' : Option Addr) (n' c' : Nat) (l : List Cl) (at' : Int), e = .returned (.tuple #[.agg #[.int .i64 R, .int .i64 C, .slice a' n' c'], .int .i64 at']) ∧ Tab w' a' n' c' l ∧ TabSp R C l ∧ (-20 ≤ at' ∧ at' ≤ 20)) ∧ Below w.heap.size w w' := by
  have HY : Hid (Byt B w a n cap zs) := h
  clear h
  go_enter Try.func8, Try.ntmps8
  go_upto_region 1 with fail
  have B0 : Below w.heap.size w (w.alloc (.cells #[.int .i64 0, .int .i64 0, .slice none 0 0] 25)) := (Below.refl _ _).alloc (Nat.le_refl _) _
  have Z0 : RowAt (w.alloc (.cells #[.int .i64 0, .int .i64 0, .slice none 0 0] 25)) w.heap.size #[.int .i64 0, .int .i64 0, .slice none 0 0] 25 := rowAt_new _ _ _
  have HY0 : Hid (Byt B (w.alloc (.cells #[.int .i64 0, .int .i64 0, .slice none 0 0] 25)) a n cap zs) := HY.out.belowC B0 hB
  generalize (w.alloc (.cells #[.int .i64 0, .int .i64 0, .slice none 0 0] 25)) = v0 at B0 Z0 HY0 ⊢
  have s0 := B0.size
  have zz := Z0.lt
  go_wp2_with fail
  refine (l6Open_any B a n cap zs _ HY0.out (by omega)).mono ?_
  rintro e w1 ⟨rfl, hr1, hb1⟩
  have s1 := hb1.size
  have HR1 : Hid (Rd B w1 v0.heap.size 0) := hr1
  clear hr1
  go_wp2_with fail
  refine (l71Row_any B _ 0 _ HR1.out (by omega)).mono ?_
  rintro e w2 ⟨R, C, a', n', c', l, q, at', rfl, ⟨rs, hX2⟩, hS2, hat, hr2, hq2, hf2⟩
  have HX2 : Hid (OwnX w2 w1.heap.size (.slice a' n' c') rs l) := hX2
  have HZ2 : Hid (RowAt w2 w.heap.size #[.int .i64 0, .int .i64 0, .slice none 0 0] 25) := (Z0.below hb1 zz).fr hf2 (by omega)
  have HB2 : Hid (Below w.heap.size w w2) := below_of_fr3 B0 hb1 hf2 (by omega) s0
  have HS : Hid (TabSp R C l) := hS2
  clear hX2 hr2 hS2
  go_wp2_with (refine wpList_store_row rfl 25 (.tmp 2) (.tmp 7) rfl w.heap.size #[.int .i64 R, .int .i64 C, .slice a' n' c'] rfl rfl 25 _ HZ2.out tab_info rfl (cells3_one _ _ _ _ _) ?_)
  refine bodyPost_ret (v := .tuple #[.agg #[.int .i64 R, .int .i64 C, .slice a' n' c'], .int .i64 at']) ?_ rfl ⟨⟨R, C, a', n', c', l, at', rfl, (HX2.out.setRowT HZ2.out _).tab, HS.out, hat⟩, below_row HB2.out (Nat.le_refl _) _⟩
  rw [results_cell_tmp rfl]
  simp [asAddr, Result.andThen, run_tabOf (RowAt.setRow HZ2.out #[.int .i64 R, .int .i64 C, .slice a' n' c'])]
end Go.Proofs.Ytbigbbfbikhjdab
namespace Go.Proofs.Ytbigbbfbikhjdab
open Go.RowKit

theorem ok_turnI {R C : Int} {l : List Cl} (h : okB R C l = true) : okB C R (turnL l) = true := by
  obtain ⟨hR, hC, _, _⟩ := gridP_of_okB h
  obtain ⟨R, rfl⟩ : ∃ z : Nat, R = z := ⟨R.toNat, by omega⟩
  obtain ⟨C, rfl⟩ : ∃ z : Nat, C = z := ⟨C.toNat, by omega⟩
  exact ok_turn h
theorem turn_turnI {R C : Int} {l : List Cl} (h : okB R C l = true) : turnL (turnL l) = l := by
  obtain ⟨hR, hC, _, _⟩ := gridP_of_okB h
  obtain ⟨R, rfl⟩ : ∃ z : Nat, R = z := ⟨R.toNat, by omega⟩
  obtain ⟨C, rfl⟩ : ∃ z : Nat, C = z := ⟨C.toNat, by omega⟩
  exact turn_turn h
theorem t_of {R C : Int} {l : List Cl} (h : okB R C l = true) : tX R C l = C ∧ tY R C l = R ∧ tL R C l = turnL l := by
  simp [tX, tY, tL, h]
theorem t_back {R C : Int} {l : List Cl} (h : okB R C l = true) : tX C R (turnL l) = R ∧ tY C R (turnL l) = C ∧ tL C R (turnL l) = l := by
  obtain ⟨h1, h2, h3⟩ := t_of (ok_turnI h)
  exact ⟨h1, h2, h3.trans (turn_turnI h)⟩
theorem ok_of_t {R C : Int} {l : List Cl} (h : okB (tX R C l) (tY R C l) (tL R C l) = true) : okB R C l = true := by
  by_cases ho : okB R C l = true
  · exact ho
  · unfold tX tY tL at h
    rw [if_neg ho, if_neg ho, if_neg ho, okB_nil] at h
    cases h
theorem rowIn_ok {R C t' : Int} {l : List Cl} (h : rowInB R C l t' = true) : okB R C l = true := by
  simp only [rowInB, Bool.and_eq_true] at h
  exact h.1.1
theorem rowOut_ok {R C t' : Int} {l : List Cl} (h : rowOutB R C l t' = true) : okB R C l = true := by
  simp only [rowOutB, Bool.and_eq_true] at h
  exact h.1.1
theorem rowOut_of_in {R C t' : Int} {l : List Cl} (h : rowInB R C l t' = true) : rowOutB (R + 1) C (inL t' C l) t' = true := by
  have h1 := ok_in h
  obtain ⟨hR, _, _, _⟩ := gridP_of_okB (rowIn_ok h)
  simp only [rowInB, Bool.and_eq_true, decide_eq_true_eq] at h
  simp only [rowOutB, h1, Bool.true_and, Bool.and_eq_true, decide_eq_true_eq]
  omega
end Go.Proofs.Ytbigbbfbikhjdab
namespace Go.Proofs.Ytbigbbfbikhjdab
open Go.RowKit

/-- The text of a square. -/
def sqT (R C : Int) (l : List Cl) (r c : Int) : List Sg := if atN R C l r c < 0 then [] else (l.getD (atN R C l r c).toNat cl0).2.2.2.2
section
variable {R C : Int} {l : List Cl}
theorem ok_cell (h : okB R C l = true) {x : Cl} (hx : x ∈ l) : (0 ≤ x.1 ∧ 0 ≤ x.2.1 ∧ 1 ≤ x.2.2.1 ∧ 1 ≤ x.2.2.2.1) ∧ x.1 + x.2.2.1 ≤ R ∧ x.2.1 + x.2.2.2.1 ≤ C := by
  obtain ⟨m, hm, e⟩ := List.getElem_of_mem hx
  rw [← getD_get hm] at e
  subst e
  exact wiB_of (stepB_of ((gridP_of_okB h).2.2.1 m hm)).1
theorem inB_is {x : Cl} {r c : Int} : inB x r c = true ↔ x.1 ≤ r ∧ r < x.1 + x.2.2.1 ∧ x.2.1 ≤ c ∧ c < x.2.1 + x.2.2.2.1 := by
  unfold inB
  simp only [decide_eq_true_eq]
/-- A square is of the one cell that has it. -/
theorem at_of (h : okB R C l = true) {x : Cl} (hx : x ∈ l) (r c : Nat) (hi : inB x r c = true) : ∃ k, k < l.length ∧ atN R C l r c = (k : Int) ∧ l.getD k cl0 = x := by
  obtain ⟨k, hk, e⟩ := List.getElem_of_mem hx
  rw [← getD_get hk] at e
  have hw := ok_cell h hx
  have hi' := inB_is.1 hi
  refine ⟨k, hk, ?_, e⟩
  unfold atN
  rw [if_pos h, findIdx_some l k r c hk ?_ (by rw [e]; exact hi)]
  intro j hj
  cases hq : inB (l.getD j cl0) r c
  · rfl
  · exact (okB_apart h r c (by omega) (by omega) hj hk hq (by rw [e]; exact hi)).elim
theorem sqT_of (h : okB R C l = true) {x : Cl} (hx : x ∈ l) (r c : Nat) (hi : inB x r c = true) : sqT R C l r c = x.2.2.2.2 := by
  obtain ⟨k, hk, e, e2⟩ := at_of h hx r c hi
  unfold sqT
  rw [e, if_neg (by omega)]
  rw [show ((k : Int)).toNat = k by omega, e2]
theorem sq_has (h : okB R C l = true) (r c : Nat) (hr : (r : Int) < R) (hc : (c : Int) < C) : ∃ x ∈ l, inB x r c = true := by
  have h1 := okB_cnt h r c hr hc
  unfold cnt at h1
  obtain ⟨x, hx, hi⟩ := List.countP_pos_iff.1 (show 0 < l.countP (fun x => inB x r c) by omega)
  exact ⟨x, hx, hi⟩
/-- Two cells that have one square are one. -/
theorem one_cell (h : okB R C l = true) {x y : Cl} (hx : x ∈ l) (hy : y ∈ l) (r c : Nat) (h1 : inB x r c = true) (h2 : inB y r c = true) : x = y := by
  obtain ⟨k, _, e, ek⟩ := at_of h hx r c h1
  obtain ⟨m, _, e', em⟩ := at_of h hy r c h2
  have : k = m := by omega
  subst this
  rw [← ek, em]
theorem inL_mem {t' : Int} {x : Cl} (hx : x ∈ l) : inC t' x ∈ inL t' C l := (sortC_perm _).mem_iff.2 (List.mem_append.2 (Or.inl (List.mem_map_of_mem hx)))
theorem inC_has {t' : Int} {x : Cl} {r c : Int} (h : inB x r c = true) : inB (inC t' x) (if t' ≤ r then r + 1 else r) c = true := by
  obtain ⟨a, b, d, g, t⟩ := x
  have h' := inB_is.1 h
  simp only at h'
  rw [inB_is]
  unfold inC
  simp only
  by_cases c1 : t' ≤ a
  · rw [if_pos c1, if_pos (show t' ≤ r by omega)]
    simp only
    omega
  · rw [if_neg c1]
    by_cases c2 : t' < a + d
    · rw [if_pos c2]
      simp only
      split <;> omega
    · rw [if_neg c2, if_neg (show ¬ t' ≤ r by omega)]
      simp only
      omega
theorem sq_in {t' : Int} (h : rowInB R C l t' = true) (r c : Nat) (hr : (r : Int) < R) (hc : (c : Int) < C) (tq : Nat) (htq : (tq : Int) = if t' ≤ (r : Int) then (r : Int) + 1 else r) : sqT (R + 1) C (inL t' C l) tq c = sqT R C l r c := by
  obtain ⟨x, hx, hi⟩ := sq_has (rowIn_ok h) r c hr hc
  have h2 : inB (inC t' x) tq c = true := by rw [htq]; exact inC_has hi
  rw [sqT_of (ok_in h) (inL_mem hx) tq c h2, sqT_of (rowIn_ok h) hx r c hi, inC_txt]
theorem outC_has {t' : Int} {x : Cl} {r c : Int} (h : inB x (if t' ≤ r then r + 1 else r) c = true) : inB (outC t' x) r c = true := by
  obtain ⟨a, b, d, g, t⟩ := x
  have h' := inB_is.1 h
  simp only at h'
  rw [inB_is]
  unfold outC
  simp only
  by_cases c0 : t' ≤ r
  · rw [if_pos c0] at h'
    by_cases c1 : t' < a
    · rw [if_pos c1]
      simp only
      omega
    · rw [if_neg c1]
      by_cases c2 : t' < a + d
      · rw [if_pos c2]
        simp only
        omega
      · rw [if_neg c2]
        simp only
        omega
  · rw [if_neg c0] at h'
    rw [if_neg (show ¬ t' < a by omega)]
    by_cases c2 : t' < a + d
    · rw [if_pos c2]
      simp only
      omega
    · rw [if_neg c2]
      simp only
      omega
theorem sq_out {t' : Int} (h : rowOutB R C l t' = true) (r c : Nat) (hr : (r : Int) < R - 1) (hc : (c : Int) < C) (fr : Nat) (hfr : (fr : Int) = if t' ≤ (r : Int) then (r : Int) + 1 else r) : sqT (R - 1) C (outL t' l) r c = sqT R C l fr c := by
  have hfR : (fr : Int) < R := by rw [hfr]; split <;> omega
  obtain ⟨x, hx, hi⟩ := sq_has (rowOut_ok h) fr c hfR hc
  have h2 : inB (outC t' x) r c = true := outC_has (by rw [← hfr]; exact hi)
  have hm : outC t' x ∈ outL t' l := by
    refine (sortC_perm _).mem_iff.2 (List.mem_filter.2 ⟨List.mem_map_of_mem hx, ?_⟩)
    have := inB_is.1 h2
    exact decide_eq_true (by omega)
  rw [sqT_of (ok_out h) hm r c h2, sqT_of (rowOut_ok h) hx fr c hi, outC_txt]
theorem inL_len (t' : Int) : (inL t' C l).length = l.length + (newI t' C l).length := by
  unfold inL
  rw [(sortC_perm _).length_eq]
  unfold inM
  rw [List.length_append, List.length_map]
/-- A square of the table turned. -/
theorem sq_turn (h : okB R C l = true) (r c : Nat) (hr : (r : Int) < R) (hc : (c : Int) < C) : sqT C R (turnL l) c r = sqT R C l r c := by
  obtain ⟨x, hx, hi⟩ := sq_has h r c hr hc
  have hm : turnC x ∈ turnL l := (turnL_mem l _).2 ⟨x, hx, rfl⟩
  have h2 : inB (turnC x) c r = true := by
    rw [inB_is] at hi ⊢
    unfold turnC
    simp only
    omega
  rw [sqT_of (ok_turnI h) hm c r h2, sqT_of h hx r c hi]
  rfl
theorem sq_in1 {t' : Int} (h : rowInB R C l t' = true) (r c : Nat) (hr : (r : Int) < R) (hc : (c : Int) < C) (ht : t' ≤ (r : Int)) : sqT (R + 1) C (inL t' C l) ((r : Int) + 1) c = sqT R C l r c :=
  sq_in h r c hr hc (r + 1) (by rw [if_pos ht]; omega)
theorem sq_in0 {t' : Int} (h : rowInB R C l t' = true) (r c : Nat) (hr : (r : Int) < R) (hc : (c : Int) < C) (ht : ¬ t' ≤ (r : Int)) : sqT (R + 1) C (inL t' C l) r c = sqT R C l r c :=
  sq_in h r c hr hc r (by rw [if_neg ht])
theorem sq_out1 {t' : Int} (h : rowOutB R C l t' = true) (r c : Nat) (hr : (r : Int) < R - 1) (hc : (c : Int) < C) (ht : t' ≤ (r : Int)) : sqT (R - 1) C (outL t' l) r c = sqT R C l ((r : Int) + 1) c :=
  sq_out h r c hr hc (r + 1) (by rw [if_pos ht]; omega)
theorem sq_out0 {t' : Int} (h : rowOutB R C l t' = true) (r c : Nat) (hr : (r : Int) < R - 1) (hc : (c : Int) < C) (ht : ¬ t' ≤ (r : Int)) : sqT (R - 1) C (outL t' l) r c = sqT R C l r c :=
  sq_out h r c hr hc r (by rw [if_neg ht])
theorem sq_col1 {t' : Int} (h : okB R C l = true) (hi : rowInB C R (turnL l) t' = true) (r c : Nat) (hr : (r : Int) < R) (hc : (c : Int) < C) (ht : t' ≤ (c : Int)) : sqT R (C + 1) (turnL (inL t' R (turnL l))) r ((c : Int) + 1) = sqT R C l r c := by
  have h1 := sq_turn (ok_in hi) (c + 1) r (by omega) hr
  have h2 := sq_in hi c r hc hr (c + 1) (by rw [if_pos ht]; omega)
  rw [show ((c : Int) + 1) = ((c + 1 : Nat) : Int) by omega, h1, h2, sq_turn h r c hr hc]
theorem sq_col0 {t' : Int} (h : okB R C l = true) (hi : rowInB C R (turnL l) t' = true) (r c : Nat) (hr : (r : Int) < R) (hc : (c : Int) < C) (ht : ¬ t' ≤ (c : Int)) : sqT R (C + 1) (turnL (inL t' R (turnL l))) r c = sqT R C l r c := by
  have h1 := sq_turn (ok_in hi) c r (by omega) hr
  have h2 := sq_in hi c r hc hr c (by rw [if_neg ht])
  rw [h1, h2, sq_turn h r c hr hc]
end
end Go.Proofs.Ytbigbbfbikhjdab
namespace Go.Proofs.Ytbigbbfbikhjdab
open Go.RowKit

section
variable {R C : Int} {l : List Cl}
theorem ok_nodup (h : okB R C l = true) : l.Nodup := by
  refine List.pairwise_iff_getElem.2 ?_
  intro i k hi hk hik e
  have := okAhead h i k hik hk
  rw [getD_get hi, getD_get hk, e] at this
  omega
/-- Of two tables that are ok, and of one size, one whose cells are all of the other is the other. -/
theorem same_of_sub {l2 : List Cl} (h : okB R C l = true) (h2 : okB R C l2 = true) (hs : ∀ x ∈ l, x ∈ l2) : l = l2 := by
  have hp : l.Perm l2 := by
    refine (List.perm_ext_iff_of_nodup (ok_nodup h) (ok_nodup h2)).2 fun y => ⟨hs y, fun hy => ?_⟩
    have hc := ok_cell h2 hy
    obtain ⟨a, ha⟩ : ∃ a : Nat, y.1 = a := ⟨y.1.toNat, by omega⟩
    obtain ⟨b, hb⟩ : ∃ b : Nat, y.2.1 = b := ⟨y.2.1.toNat, by omega⟩
    obtain ⟨x, hx, hi⟩ := sq_has h a b (by omega) (by omega)
    have : x = y := one_cell h2 (hs x hx) hy a b hi (inB_is.2 (by omega))
    rw [← this]
    exact hx
  exact (sort_ok h (List.Perm.refl l)).symm.trans (sort_ok h2 hp)
theorem takenB_iff {t' c : Int} : takenB t' l c = true ↔ ∃ x ∈ l, x.1 < t' ∧ t' < x.1 + x.2.2.1 ∧ x.2.1 ≤ c ∧ c < x.2.1 + x.2.2.2.1 := by
  unfold takenB overB
  simp only [List.any_eq_true, decide_eq_true_eq]
theorem taken_not {t' c : Int} : takenB t' l c = false ↔ ∀ x ∈ l, ¬ (x.1 < t' ∧ t' < x.1 + x.2.2.1 ∧ x.2.1 ≤ c ∧ c < x.2.1 + x.2.2.2.1) := by
  rw [← Bool.not_eq_true, takenB_iff]
  constructor
  · intro h x hx hh
    exact h ⟨x, hx, hh⟩
  · rintro h ⟨x, hx, hh⟩
    exact h x hx hh
theorem inL_iff {t' : Int} {z : Cl} : z ∈ inL t' C l ↔ (∃ x ∈ l, z = inC t' x) ∨ ∃ c : Nat, (c : Int) < C ∧ takenB t' l c = false ∧ z = (t', (c : Int), 1, 1, []) := by
  unfold inL
  rw [(sortC_perm _).mem_iff]
  unfold inM newI
  rw [List.mem_append, List.mem_map, List.mem_map]
  constructor
  · rintro (⟨x, hx, rfl⟩ | ⟨c, hc, rfl⟩)
    · exact Or.inl ⟨x, hx, rfl⟩
    · rw [List.mem_filter, List.mem_range] at hc
      refine Or.inr ⟨c, by omega, ?_, rfl⟩
      have := hc.2
      simpa using this
  · rintro (⟨x, hx, rfl⟩ | ⟨c, hc, ht, rfl⟩)
    · exact Or.inl ⟨x, hx, rfl⟩
    · refine Or.inr ⟨c, ?_, rfl⟩
      rw [List.mem_filter, List.mem_range]
      exact ⟨by omega, by simp [ht]⟩
theorem inC_two {a o : Int} (hao : a ≤ o) {x : Cl} (hd : 1 ≤ x.2.2.1) : inC (o + 1) (inC a x) = inC a (inC o x) := by
  obtain ⟨r, b, d, g, t⟩ := x
  simp only at hd
  unfold inC
  simp only
  by_cases c1 : a ≤ r <;> by_cases c2 : o ≤ r <;> by_cases c3 : a < r + d <;> by_cases c4 : o < r + d <;> simp only [c1, c2, c3, c4, if_true, if_false] <;> first | omega | (repeat' split) <;> first | rfl | omega | (simp only [Prod.mk.injEq, and_true, true_and]; omega)
/-- Two rows put in, in either order. -/
theorem in_two {a o : Int} (h : rowInB R C l a = true) (hao : a ≤ o) (hoR : o ≤ R) (h5 : R + 1 < 5) : inL (o + 1) C (inL a C l) = inL a C (inL o C l) := by
  have hok := rowIn_ok h
  have h' := h
  simp only [rowInB, Bool.and_eq_true, decide_eq_true_eq] at h'
  have ho : rowInB R C l o = true := by
    simp only [rowInB, hok, Bool.true_and, Bool.and_eq_true, decide_eq_true_eq]
    omega
  have h1 : rowInB (R + 1) C (inL a C l) (o + 1) = true := by
    simp only [rowInB, ok_in h, Bool.true_and, Bool.and_eq_true, decide_eq_true_eq]
    omega
  have h2 : rowInB (R + 1) C (inL o C l) a = true := by
    simp only [rowInB, ok_in ho, Bool.true_and, Bool.and_eq_true, decide_eq_true_eq]
    omega
  refine same_of_sub (ok_in h1) (ok_in h2) ?_
  intro z hz
  rcases inL_iff.1 hz with ⟨y, hy, rfl⟩ | ⟨c, hc, ht, rfl⟩
  · rcases inL_iff.1 hy with ⟨x, hx, rfl⟩ | ⟨c, hc, ht, rfl⟩
    · rw [inC_two hao (ok_cell hok hx).1.2.2.1]
      exact inL_iff.2 (Or.inl ⟨_, inL_iff.2 (Or.inl ⟨x, hx, rfl⟩), rfl⟩)
    · refine inL_iff.2 (Or.inr ⟨c, hc, ?_, ?_⟩)
      · rw [taken_not] at ht ⊢
        intro y hy hh
        rcases inL_iff.1 hy with ⟨x, hx, rfl⟩ | ⟨c', hc', ht', rfl⟩
        · have hw := ok_cell hok hx
          refine ht x hx ?_
          obtain ⟨r, b, d, g, t⟩ := x
          unfold inC at hh
          simp only at hh hw ⊢
          by_cases c1 : o ≤ r
          · rw [if_pos c1] at hh
            simp only at hh
            omega
          · rw [if_neg c1] at hh
            by_cases c2 : o < r + d
            · rw [if_pos c2] at hh
              simp only at hh
              omega
            · rw [if_neg c2] at hh
              simp only at hh
              omega
        · simp only at hh
          omega
      · unfold inC
        simp only
        rw [if_neg (by omega), if_neg (by omega)]
  · refine inL_iff.2 (Or.inl ⟨(o, (c : Int), 1, 1, []), inL_iff.2 (Or.inr ⟨c, hc, ?_, rfl⟩), ?_⟩)
    · rw [taken_not] at ht ⊢
      intro x hx hh
      have hw := ok_cell hok hx
      refine ht _ (inL_iff.2 (Or.inl ⟨x, hx, rfl⟩)) ?_
      obtain ⟨r, b, d, g, t⟩ := x
      unfold inC
      simp only at hh hw ⊢
      by_cases c1 : a ≤ r
      · rw [if_pos c1]
        simp only
        omega
      · rw [if_neg c1, if_pos (show a < r + d by omega)]
        simp only
        omega
    · unfold inC
      simp only
      rw [if_pos (by omega)]
theorem in_two_B {a o : Int} (h : rowInB R C l a = true) (hao : a ≤ o) (hoR : o ≤ R) : rowInB R C l o = true ∧ rowInB (R + 1) C (inL a C l) (o + 1) = decide (R + 1 < 5) ∧ rowInB (R + 1) C (inL o C l) a = decide (R + 1 < 5) := by
  have hok := rowIn_ok h
  have h' := h
  simp only [rowInB, Bool.and_eq_true, decide_eq_true_eq] at h'
  have ho : rowInB R C l o = true := by
    simp only [rowInB, hok, Bool.true_and, Bool.and_eq_true, decide_eq_true_eq]
    omega
  refine ⟨ho, ?_, ?_⟩
  · simp only [rowInB, ok_in h, Bool.true_and]
    rw [decide_eq_true (show 0 ≤ o + 1 ∧ o + 1 ≤ R + 1 by omega), Bool.true_and]
  · simp only [rowInB, ok_in ho, Bool.true_and]
    rw [decide_eq_true (show 0 ≤ a ∧ a ≤ R + 1 by omega), Bool.true_and]
theorem outC_two {a o : Int} (hao : a < o) {x : Cl} (hd : 1 ≤ x.2.2.1) : outC (o - 1) (outC a x) = outC a (outC o x) := by
  obtain ⟨r, b, d, g, t⟩ := x
  simp only at hd
  unfold outC
  simp only
  by_cases c1 : a < r <;> by_cases c2 : o < r <;> by_cases c3 : a < r + d <;> by_cases c4 : o < r + d <;> simp only [c1, c2, c3, c4, if_true, if_false] <;> first | omega | (repeat' split) <;> first | rfl | omega | (simp only [Prod.mk.injEq, and_true, true_and]; omega)
theorem outC_low {a : Int} {x : Cl} (h : tallB x = false) : tallB (outC a x) = false := by
  obtain ⟨r, b, d, g, t⟩ := x
  unfold tallB at h ⊢
  simp only [decide_eq_false_iff_not] at h ⊢
  unfold outC
  simp only
  by_cases c1 : a < r
  · rw [if_pos c1]
    exact h
  · rw [if_neg c1]
    by_cases c2 : a < r + d
    · omega
    · rw [if_neg c2]
      exact h
theorem filter_low (a : Int) (M : List Cl) : ((M.filter tallB).map (outC a)).filter tallB = (M.map (outC a)).filter tallB := by
  induction M with
  | nil => rfl
  | cons x M ih =>
    cases hx : tallB x
    · rw [List.filter_cons_of_neg (by simp [hx]), List.map_cons, List.filter_cons_of_neg (by simp [outC_low hx])]
      exact ih
    · rw [List.filter_cons_of_pos hx, List.map_cons, List.map_cons, List.filter_cons, List.filter_cons, ih]
theorem out_perm (a b : Int) : (outM a (outL b l)).Perm ((l.map (outC a ∘ outC b)).filter tallB) := by
  have h1 : (outL b l).Perm ((l.map (outC b)).filter tallB) := sortC_perm _
  unfold outM
  refine ((h1.map (outC a)).filter tallB).trans ?_
  rw [filter_low, List.map_map]
/-- Two rows taken out, in either order. -/
theorem out_two {a o : Int} (h : rowOutB R C l o = true) (h0 : 0 ≤ a) (hao : a < o) (h3 : 3 ≤ R) : outL (o - 1) (outL a l) = outL a (outL o l) := by
  have hok := rowOut_ok h
  have h' := h
  simp only [rowOutB, Bool.and_eq_true, decide_eq_true_eq] at h'
  have h2 : rowOutB (R - 1) C (outL o l) a = true := by
    simp only [rowOutB, ok_out h, Bool.true_and, Bool.and_eq_true, decide_eq_true_eq]
    omega
  have e : l.map (outC (o - 1) ∘ outC a) = l.map (outC a ∘ outC o) := List.map_congr_left (fun x hx => outC_two hao (ok_cell hok hx).1.2.2.1)
  refine sort_ok (ok_out h2) ?_
  refine (out_perm (o - 1) a).trans ?_
  rw [e]
  exact (out_perm a o).symm.trans (sortC_perm _).symm
theorem out_two_B {a o : Int} (h : rowOutB R C l a = true) (hao : a < o) (hoR : o ≤ R - 1) : rowOutB R C l o = true ∧ rowOutB (R - 1) C (outL a l) (o - 1) = decide (3 ≤ R) ∧ rowOutB (R - 1) C (outL o l) a = decide (3 ≤ R) := by
  have hok := rowOut_ok h
  have h' := h
  simp only [rowOutB, Bool.and_eq_true, decide_eq_true_eq] at h'
  have ho : rowOutB R C l o = true := by
    simp only [rowOutB, hok, Bool.true_and, Bool.and_eq_true, decide_eq_true_eq]
    omega
  refine ⟨ho, ?_, ?_⟩
  · simp only [rowOutB, ok_out h, Bool.true_and]
    rw [decide_eq_true (show 0 ≤ o - 1 ∧ o - 1 ≤ R - 1 - 1 by omega), Bool.true_and, decide_eq_decide]
    omega
  · simp only [rowOutB, ok_out ho, Bool.true_and]
    rw [decide_eq_true (show 0 ≤ a ∧ a ≤ R - 1 - 1 by omega), Bool.true_and, decide_eq_decide]
    omega
end
end Go.Proofs.Ytbigbbfbikhjdab
namespace Go.Proofs.Ytbigbbfbikhjdab
open Go.RowKit

section
variable {R C t' : Int} {l : List Cl}
theorem taken_edge (h : okB R C l = true) (he : t' = 0 ∨ t' = R) (c : Int) : takenB t' l c = false := by
  rw [taken_not]
  intro x hx hh
  have := ok_cell h hx
  omega
theorem taken_mid (h : okB R C l = true) (h0 : 0 < t') (h1 : t' < R) (c : Nat) (hc : (c : Int) < C) : takenB t' l c = true ↔ atN R C l (t' - 1) c = atN R C l t' c := by
  obtain ⟨p, rfl⟩ : ∃ p : Nat, t' = (p : Int) + 1 := ⟨(t' - 1).toNat, by omega⟩
  rw [show (p : Int) + 1 - 1 = (p : Int) by omega, show (p : Int) + 1 = ((p + 1 : Nat) : Int) by omega, takenB_iff]
  constructor
  · rintro ⟨x, hx, hh⟩
    obtain ⟨k, _, e, ek⟩ := at_of h hx p c (inB_is.2 (by omega))
    obtain ⟨m, _, e', em⟩ := at_of h hx (p + 1) c (inB_is.2 (by omega))
    rw [e, e']
    have hk := ek.trans em.symm
    obtain ⟨k', hk', f, fk⟩ := at_of h hx p c (inB_is.2 (by omega))
    rcases Nat.lt_trichotomy k m with q | q | q
    · exact (okB_apart h p c (by omega) hc q ‹m < l.length› (by rw [ek]; exact inB_is.2 (by omega)) (by rw [em]; exact inB_is.2 (by omega))).elim
    · rw [q]
    · exact (okB_apart h p c (by omega) hc q ‹k < l.length› (by rw [em]; exact inB_is.2 (by omega)) (by rw [ek]; exact inB_is.2 (by omega))).elim
  · intro hh
    obtain ⟨x, hx, hi⟩ := sq_has h p c (by omega) hc
    obtain ⟨y, hy, hj⟩ := sq_has h (p + 1) c (by omega) hc
    obtain ⟨k, _, e, ek⟩ := at_of h hx p c hi
    obtain ⟨m, _, e', em⟩ := at_of h hy (p + 1) c hj
    rw [e, e'] at hh
    have hkm : k = m := by omega
    subst hkm
    have hxy : x = y := ek.symm.trans em
    subst hxy
    have h1 := inB_is.1 hi
    have h2 := inB_is.1 hj
    exact ⟨x, hx, by omega⟩
end
/-- How many columns up to one have a square of a row that is put in that is of no cell. -/
def freeN (t' : Int) (l : List Cl) (c : Nat) : Nat := ((List.range c).filter (fun c : Nat => !takenB t' l c)).length
theorem freeN_le (t' : Int) (l : List Cl) (c : Nat) : freeN t' l c ≤ c := by
  unfold freeN
  exact Nat.le_trans (List.length_filter_le _ _) (by simp)
theorem freeN_yes {t' : Int} {l : List Cl} {c : Nat} (h : takenB t' l c = true) : freeN t' l (c + 1) = freeN t' l c := by
  unfold freeN
  rw [List.range_succ, List.filter_append]
  simp [h]
theorem freeN_no {t' : Int} {l : List Cl} {c : Nat} (h : takenB t' l c = false) : freeN t' l (c + 1) = freeN t' l c + 1 := by
  unfold freeN
  rw [List.range_succ, List.filter_append]
  simp [h]
theorem inL_free (t' : Int) (C : Nat) (l : List Cl) : (inL t' C l).length = l.length + freeN t' l C := by
  rw [inL_len]
  unfold newI freeN
  rw [List.length_map]
  simp
end Go.Proofs.Ytbigbbfbikhjdab
namespace Go.Proofs.Ytbigbbfbikhjdab
open Go.RowKit

set_option maxRecDepth 100000 in
set_option maxHeartbeats 8000000 in
theorem lawTabCells_walk (a : Option Addr) (n cap : Nat) (zs : List Int) (w : World) (h : Byt w.heap.size w a n cap zs) :
    Calls Try.prog 7 #[.slice a n cap] w fun e w' => e = .returned (.bool true) ∧ Below w.heap.size w w' := by
  have HY : Hid (Byt w.heap.size w a n cap zs) := h
  have hc := h.2.1
  have hm := h.2.2.1
  unfold maxLen at hm
  clear h
  by_cases hn : 1048576 < n
  · have hd : decide ((1048576 : Int) < (n : Int)) = true := by simp; omega
    go_enter Try.func7, Try.ntmps7
    go_wp2_with fail
    go_ret
    exact ⟨rfl, Below.refl _ _⟩
  have hd : decide ((1048576 : Int) < (n : Int)) = false := by simp; omega
  go_enter Try.func7, Try.ntmps7
  go_upto_region 4 with (go_at_call 8; refine (drawTableRowIn_any w.heap.size a n cap zs _ HY.out (Nat.le_refl _)).mono ?_; rintro e w1 ⟨⟨R, C, a', n', c', l, t', rfl, hT1, hS1, hat⟩, hb1⟩)
  have H0 := Hold.first hb1 hT1 #[.int .i64 R, .int .i64 C, .slice a' n' c'] 25
  generalize (w1.alloc (.cells #[.int .i64 R, .int .i64 C, .slice a' n' c'] 25)) = v0 at H0 ⊢
  obtain ⟨Tb, hTe⟩ : ∃ T, w1.heap.size = T := ⟨_, rfl⟩
  rw [hTe] at H0 ⊢
  have HH : Hid (Hold w [(Tb, #[.int .i64 R, .int .i64 C, .slice a' n' c'], 25)] [(a', n', c', l)] v0) := H0
  obtain ⟨hRb, hCb, hLb, hXb⟩ := hS1
  have HLX : Hid (∀ z ∈ l, z.2.2.2.2.length ≤ 25) := hXb
  clear hT1 hb1 H0 hTe hXb
  obtain ⟨can, HC⟩ : ∃ o, Hid (rowInB R C l t' = o) := ⟨_, rfl⟩
  cases can
  · go_upto_region 5 with (first | (refine wpList_load_row rfl 25 (.tmp 3) rfl Tb rfl 25 #[.int .i64 R, .int .i64 C, .slice a' n' c'] (0, 0) _ (HH.out.row 0 rfl) Try.underlying25 rfl tab_info ?_) | (go_at_call 9; refine (specTableRowIn_any R C t' a' n' c' l _ (HH.out.tab 0 rfl)).mono ?_; intro e w1' hr; obtain ⟨hr1, hb⟩ := hr; obtain ⟨Wa, Wn, Wc, rfl, hT⟩ := tabRes_f HC.out hr1; clear hr1))
    have H0 := HH.out.res hb hT #[.int .i64 0, .int .i64 0, .slice Wa Wn Wc] 25
    generalize (w1'.alloc (.cells #[.int .i64 0, .int .i64 0, .slice Wa Wn Wc] 25)) = v1 at H0 ⊢
    obtain ⟨Wb, hTe⟩ : ∃ T, w1'.heap.size = T := ⟨_, rfl⟩
    rw [hTe] at H0 ⊢
    replace HH : Hid (Hold w [(Wb, #[.int .i64 0, .int .i64 0, .slice Wa Wn Wc], 25), (Tb, #[.int .i64 R, .int .i64 C, .slice a' n' c'], 25)] [(Wa, Wn, Wc, []), (a', n', c', l)] v1) := H0
    clear hT hb H0 hTe
    go_upto_region 6 with (first | (refine wpList_load_row rfl 25 (.tmp 5) rfl Wb rfl 25 #[.int .i64 0, .int .i64 0, .slice Wa Wn Wc] (0, 0) _ (HH.out.row 0 rfl) Try.underlying25 rfl tab_info ?_) | (refine wpList_load_row rfl 25 (.tmp 3) rfl Tb rfl 25 #[.int .i64 R, .int .i64 C, .slice a' n' c'] (0, 0) _ (HH.out.row 1 rfl) Try.underlying25 rfl tab_info ?_) | (go_at_call 10; refine (implTableRowIn_any R C t' a' n' c' l _ (HH.out.tab 1 rfl)).mono ?_; intro e w2' hr; obtain ⟨hr1, hb⟩ := hr; obtain ⟨Xa, Xn, Xc, rfl, hT⟩ := tabRes_f HC.out hr1; clear hr1))
    have H0 := HH.out.res hb hT #[.int .i64 0, .int .i64 0, .slice Xa Xn Xc] 25
    generalize (w2'.alloc (.cells #[.int .i64 0, .int .i64 0, .slice Xa Xn Xc] 25)) = v2 at H0 ⊢
    obtain ⟨Xb, hTe⟩ : ∃ T, w2'.heap.size = T := ⟨_, rfl⟩
    rw [hTe] at H0 ⊢
    replace HH : Hid (Hold w [(Xb, #[.int .i64 0, .int .i64 0, .slice Xa Xn Xc], 25), (Wb, #[.int .i64 0, .int .i64 0, .slice Wa Wn Wc], 25), (Tb, #[.int .i64 R, .int .i64 C, .slice a' n' c'], 25)] [(Xa, Xn, Xc, []), (Wa, Wn, Wc, []), (a', n', c', l)] v2) := H0
    clear hT hb H0 hTe
    go_wp2_with (first | (refine wpList_load_rowG (by rfl) 25 (.tmp 7) rfl Xb rfl 25 #[.int .i64 0, .int .i64 0, .slice Xa Xn Xc] (0, 0) _ (HH.out.row 0 rfl) Try.underlying25 rfl tab_info ?_) | (refine wpList_load_rowG (by rfl) 25 (.tmp 5) rfl Wb rfl 25 #[.int .i64 0, .int .i64 0, .slice Wa Wn Wc] (0, 0) _ (HH.out.row 1 rfl) Try.underlying25 rfl tab_info ?_) | (refine wpList_load_rowG (by rfl) 25 (.tmp 3) rfl Tb rfl 25 #[.int .i64 R, .int .i64 C, .slice a' n' c'] (0, 0) _ (HH.out.row 2 rfl) Try.underlying25 rfl tab_info ?_) | (go_at_call 11; refine (lmTable_same (0) (0) Xa Xn Xc [] Wa Wn Wc _ (HH.out.tab 0 rfl) (HH.out.tab 1 rfl)).mono ?_; rintro e uu ⟨rfl, hb⟩; replace HH : Hid (Hold w [(Xb, #[.int .i64 0, .int .i64 0, .slice Xa Xn Xc], 25), (Wb, #[.int .i64 0, .int .i64 0, .slice Wa Wn Wc], 25), (Tb, #[.int .i64 R, .int .i64 C, .slice a' n' c'], 25)] [(Xa, Xn, Xc, []), (Wa, Wn, Wc, []), (a', n', c', l)] uu) := HH.out.go hb; clear hb))
    go_ret
    exact ⟨rfl, HH.out.1⟩
  · go_upto_region 5 with (first | (refine wpList_load_row rfl 25 (.tmp 3) rfl Tb rfl 25 #[.int .i64 R, .int .i64 C, .slice a' n' c'] (0, 0) _ (HH.out.row 0 rfl) Try.underlying25 rfl tab_info ?_) | (go_at_call 9; refine (specTableRowIn_any R C t' a' n' c' l _ (HH.out.tab 0 rfl)).mono ?_; intro e w1' hr; obtain ⟨hr1, hb⟩ := hr; obtain ⟨Wa, Wn, Wc, rfl, hT⟩ := tabRes_t HC.out hr1; clear hr1))
    have H0 := HH.out.res hb hT #[.int .i64 (R + 1), .int .i64 C, .slice Wa Wn Wc] 25
    generalize (w1'.alloc (.cells #[.int .i64 (R + 1), .int .i64 C, .slice Wa Wn Wc] 25)) = v1 at H0 ⊢
    obtain ⟨Wb, hTe⟩ : ∃ T, w1'.heap.size = T := ⟨_, rfl⟩
    rw [hTe] at H0 ⊢
    replace HH : Hid (Hold w [(Wb, #[.int .i64 (R + 1), .int .i64 C, .slice Wa Wn Wc], 25), (Tb, #[.int .i64 R, .int .i64 C, .slice a' n' c'], 25)] [(Wa, Wn, Wc, (inL t' C l)), (a', n', c', l)] v1) := H0
    clear hT hb H0 hTe
    go_upto_region 6 with (first | (refine wpList_load_row rfl 25 (.tmp 5) rfl Wb rfl 25 #[.int .i64 (R + 1), .int .i64 C, .slice Wa Wn Wc] (0, 0) _ (HH.out.row 0 rfl) Try.underlying25 rfl tab_info ?_) | (refine wpList_load_row rfl 25 (.tmp 3) rfl Tb rfl 25 #[.int .i64 R, .int .i64 C, .slice a' n' c'] (0, 0) _ (HH.out.row 1 rfl) Try.underlying25 rfl tab_info ?_) | (go_at_call 10; refine (implTableRowIn_any R C t' a' n' c' l _ (HH.out.tab 1 rfl)).mono ?_; intro e w2' hr; obtain ⟨hr1, hb⟩ := hr; obtain ⟨Xa, Xn, Xc, rfl, hT⟩ := tabRes_t HC.out hr1; clear hr1))
    have H0 := HH.out.res hb hT #[.int .i64 (R + 1), .int .i64 C, .slice Xa Xn Xc] 25
    generalize (w2'.alloc (.cells #[.int .i64 (R + 1), .int .i64 C, .slice Xa Xn Xc] 25)) = v2 at H0 ⊢
    obtain ⟨Xb, hTe⟩ : ∃ T, w2'.heap.size = T := ⟨_, rfl⟩
    rw [hTe] at H0 ⊢
    replace HH : Hid (Hold w [(Xb, #[.int .i64 (R + 1), .int .i64 C, .slice Xa Xn Xc], 25), (Wb, #[.int .i64 (R + 1), .int .i64 C, .slice Wa Wn Wc], 25), (Tb, #[.int .i64 R, .int .i64 C, .slice a' n' c'], 25)] [(Xa, Xn, Xc, (inL t' C l)), (Wa, Wn, Wc, (inL t' C l)), (a', n', c', l)] v2) := H0
    clear hT hb H0 hTe
    go_upto_region 8 with (first | (refine wpList_load_rowG (by rfl) 25 (.tmp 7) rfl Xb rfl 25 #[.int .i64 (R + 1), .int .i64 C, .slice Xa Xn Xc] (0, 0) _ (HH.out.row 0 rfl) Try.underlying25 rfl tab_info ?_) | (refine wpList_load_rowG (by rfl) 25 (.tmp 5) rfl Wb rfl 25 #[.int .i64 (R + 1), .int .i64 C, .slice Wa Wn Wc] (0, 0) _ (HH.out.row 1 rfl) Try.underlying25 rfl tab_info ?_) | (refine wpList_load_rowG (by rfl) 25 (.tmp 3) rfl Tb rfl 25 #[.int .i64 R, .int .i64 C, .slice a' n' c'] (0, 0) _ (HH.out.row 2 rfl) Try.underlying25 rfl tab_info ?_) | (go_at_call 11; refine (lmTable_same (R + 1) (C) Xa Xn Xc (inL t' C l) Wa Wn Wc _ (HH.out.tab 0 rfl) (HH.out.tab 1 rfl)).mono ?_; rintro e uu ⟨rfl, hb⟩; replace HH : Hid (Hold w [(Xb, #[.int .i64 (R + 1), .int .i64 C, .slice Xa Xn Xc], 25), (Wb, #[.int .i64 (R + 1), .int .i64 C, .slice Wa Wn Wc], 25), (Tb, #[.int .i64 R, .int .i64 C, .slice a' n' c'], 25)] [(Xa, Xn, Xc, (inL t' C l)), (Wa, Wn, Wc, (inL t' C l)), (a', n', c', l)] uu) := HH.out.go hb; clear hb))
    have HOK : Hid (okB R C l = true) := rowIn_ok HC.out
    obtain ⟨hR1, hC1, -, -⟩ := gridP_of_okB HOK.out
    obtain ⟨hat0, hat1⟩ : 0 ≤ t' ∧ t' ≤ R := by
      have h := HC.out
      simp only [rowInB, Bool.and_eq_true, decide_eq_true_eq] at h
      omega
    obtain ⟨C, rfl⟩ : ∃ z : Nat, C = z := ⟨C.toNat, by omega⟩
    have HLE : Hid (Xn = n' + freeN t' l C) := by
      have e1 := (HH.out.tab 2 rfl).1
      have e2 := (HH.out.tab 0 rfl).1
      show Xn = n' + freeN t' l C
      rw [e1, e2, inL_free]
    have hn26 : n' ≤ 26 := by have := (HH.out.tab 2 rfl).1; omega
    go_wp2_with fail
    go_loopw [9, 10] (fun nv cv wr => ∃ (q n : Nat), q ≤ C ∧ nv = .int .i64 n ∧ cv = .int .i64 q ∧ n = freeN t' l q ∧ Hold w [(Xb, #[.int .i64 (R + 1), .int .i64 C, .slice Xa Xn Xc], 25), (Wb, #[.int .i64 (R + 1), .int .i64 C, .slice Wa Wn Wc], 25), (Tb, #[.int .i64 R, .int .i64 C, .slice a' n' c'], 25)] [(Xa, Xn, Xc, (inL t' C l)), (Wa, Wn, Wc, (inL t' C l)), (a', n', c', l)] wr) (fun _ cv _ => C - (intOf cv).toNat)
    case atStart => exact ⟨0, 0, Nat.zero_le _, rfl, rfl, rfl, HH.out⟩
    case round =>
      clear HH
      obtain ⟨q, m, hq, rfl, rfl, hm, hb⟩ := hrel
      have HM : Hid (m = freeN t' l q) := hm
      have hmq : m ≤ q := by rw [hm]; exact freeN_le _ _ _
      have HH : Hid (Hold w [(Xb, #[.int .i64 (R + 1), .int .i64 C, .slice Xa Xn Xc], 25), (Wb, #[.int .i64 (R + 1), .int .i64 C, .slice Wa Wn Wc], 25), (Tb, #[.int .i64 R, .int .i64 C, .slice a' n' c'], 25)] [(Xa, Xn, Xc, (inL t' C l)), (Wa, Wn, Wc, (inL t' C l)), (a', n', c', l)] wr) := hb
      have q1 : wr.cell? ⟨Tb, 1, none⟩ = some (.int .i64 (C : Int)) := (HH.out.row 2 rfl).cell 1
      clear hb hm
      by_cases hlq : q < C
      · have hqb : (q : Int) < (C : Int) := by omega
        go_upto_region 12 with fail
        clear q1
        by_cases hz : t' = 0
        · have hzd : decide (t' = 0) = true := decide_eq_true hz
          have HTK : Hid (takenB t' l q = false) := taken_edge HOK.out (Or.inl hz) _
          refine wp_region_noPanic ?_
          refine wp_region_held_drew (S := fun w' => Hold w [(Xb, #[.int .i64 (R + 1), .int .i64 C, .slice Xa Xn Xc], 25), (Wb, #[.int .i64 (R + 1), .int .i64 C, .slice Wa Wn Wc], 25), (Tb, #[.int .i64 R, .int .i64 C, .slice a' n' c'], 25)] [(Xa, Xn, Xc, (inL t' C l)), (Wa, Wn, Wc, (inL t' C l)), (a', n', c', l)] w') (by kernel_rfl) HH.out.drew (fun hHeld => ?_)
          refine take_at 0 58 (.int .i64 t') rfl rfl (by kernel_rfl) (by kernel_rfl) (by kernel_rfl) (fun _ _ _ h => h) (Or.inl ⟨by kernel_rfl, fun w' hS' => by go_simp⟩) hHeld ?_
          (try simp only [Act.put, List.setIfInBounds_toArray, List.set_cons_zero, List.set_cons_succ])
          refine take_at 1 59 (.bool true) rfl rfl (by kernel_rfl) (by kernel_rfl) (by kernel_rfl) (fun _ _ _ h => h) (Or.inl ⟨by kernel_rfl, fun w' hS' => by go_simp⟩) hHeld ?_
          (try simp only [Act.put, List.setIfInBounds_toArray, List.set_cons_zero, List.set_cons_succ])
          refine take_at 2 60 (.bool true) rfl rfl (by kernel_rfl) (by kernel_rfl) (by kernel_rfl) (fun _ _ _ h => h) (Or.inl ⟨by kernel_rfl, fun w' hS' => by go_simp⟩) hHeld ?_
          (try simp only [Act.put, List.setIfInBounds_toArray, List.set_cons_zero, List.set_cons_succ])
          refine take_at 3 61 (undef) rfl rfl (by kernel_rfl) (by kernel_rfl) (by kernel_rfl) (fun _ _ _ h => h) (Or.inr ⟨by kernel_rfl, rfl⟩) hHeld ?_
          (try simp only [Act.put, List.setIfInBounds_toArray, List.set_cons_zero, List.set_cons_succ])
          refine take_at 4 62 (undef) rfl rfl (by kernel_rfl) (by kernel_rfl) (by kernel_rfl) (fun _ _ _ h => h) (Or.inr ⟨by kernel_rfl, rfl⟩) hHeld ?_
          (try simp only [Act.put, List.setIfInBounds_toArray, List.set_cons_zero, List.set_cons_succ])
          refine take_at 5 63 (undef) rfl rfl (by kernel_rfl) (by kernel_rfl) (by kernel_rfl) (fun _ _ _ h => h) (Or.inr ⟨by kernel_rfl, rfl⟩) hHeld ?_
          (try simp only [Act.put, List.setIfInBounds_toArray, List.set_cons_zero, List.set_cons_succ])
          refine take_at 6 64 (undef) rfl rfl (by kernel_rfl) (by kernel_rfl) (by kernel_rfl) (fun _ _ _ h => h) (Or.inr ⟨by kernel_rfl, rfl⟩) hHeld ?_
          (try simp only [Act.put, List.setIfInBounds_toArray, List.set_cons_zero, List.set_cons_succ])
          refine take_at 7 65 (.bool true) rfl rfl (by kernel_rfl) (by kernel_rfl) (by kernel_rfl) (fun _ _ _ h => h) (Or.inl ⟨by kernel_rfl, fun w' hS' => by go_simp⟩) hHeld ?_
          (try simp only [Act.put, List.setIfInBounds_toArray, List.set_cons_zero, List.set_cons_succ])
          refine take_at 8 66 (.bool true) rfl rfl (by kernel_rfl) (by kernel_rfl) (by kernel_rfl) (fun _ _ _ h => h) (Or.inl ⟨by kernel_rfl, fun w' hS' => by go_simp⟩) hHeld ?_
          (try simp only [Act.put, List.setIfInBounds_toArray, List.set_cons_zero, List.set_cons_succ])
          refine take_at 9 67 (undef) rfl rfl (by kernel_rfl) (by kernel_rfl) (by kernel_rfl) (fun _ _ _ h => h) (Or.inr ⟨by kernel_rfl, rfl⟩) hHeld ?_
          (try simp only [Act.put, List.setIfInBounds_toArray, List.set_cons_zero, List.set_cons_succ])
          refine take_at 10 68 (undef) rfl rfl (by kernel_rfl) (by kernel_rfl) (by kernel_rfl) (fun _ _ _ h => h) (Or.inr ⟨by kernel_rfl, rfl⟩) hHeld ?_
          (try simp only [Act.put, List.setIfInBounds_toArray, List.set_cons_zero, List.set_cons_succ])
          refine take_at 11 69 (undef) rfl rfl (by kernel_rfl) (by kernel_rfl) (by kernel_rfl) (fun _ _ _ h => h) (Or.inr ⟨by kernel_rfl, rfl⟩) hHeld ?_
          (try simp only [Act.put, List.setIfInBounds_toArray, List.set_cons_zero, List.set_cons_succ])
          refine take_at 12 70 (undef) rfl rfl (by kernel_rfl) (by kernel_rfl) (by kernel_rfl) (fun _ _ _ h => h) (Or.inr ⟨by kernel_rfl, rfl⟩) hHeld ?_
          (try simp only [Act.put, List.setIfInBounds_toArray, List.set_cons_zero, List.set_cons_succ])
          refine take_at 13 71 (undef) rfl rfl (by kernel_rfl) (by kernel_rfl) (by kernel_rfl) (fun _ _ _ h => h) (Or.inr ⟨by kernel_rfl, rfl⟩) hHeld ?_
          (try simp only [Act.put, List.setIfInBounds_toArray, List.set_cons_zero, List.set_cons_succ])
          refine take_at 14 72 (undef) rfl rfl (by kernel_rfl) (by kernel_rfl) (by kernel_rfl) (fun _ _ _ h => h) (Or.inr ⟨by kernel_rfl, rfl⟩) hHeld ?_
          (try simp only [Act.put, List.setIfInBounds_toArray, List.set_cons_zero, List.set_cons_succ])
          refine take_at 15 73 (undef) rfl rfl (by kernel_rfl) (by kernel_rfl) (by kernel_rfl) (fun _ _ _ h => h) (Or.inr ⟨by kernel_rfl, rfl⟩) hHeld ?_
          (try simp only [Act.put, List.setIfInBounds_toArray, List.set_cons_zero, List.set_cons_succ])
          refine take_at 16 74 (undef) rfl rfl (by kernel_rfl) (by kernel_rfl) (by kernel_rfl) (fun _ _ _ h => h) (Or.inr ⟨by kernel_rfl, rfl⟩) hHeld ?_
          (try simp only [Act.put, List.setIfInBounds_toArray, List.set_cons_zero, List.set_cons_succ])
          refine take_at 17 75 (undef) rfl rfl (by kernel_rfl) (by kernel_rfl) (by kernel_rfl) (fun _ _ _ h => h) (Or.inr ⟨by kernel_rfl, rfl⟩) hHeld ?_
          (try simp only [Act.put, List.setIfInBounds_toArray, List.set_cons_zero, List.set_cons_succ])
          refine take_at 18 76 (undef) rfl rfl (by kernel_rfl) (by kernel_rfl) (by kernel_rfl) (fun _ _ _ h => h) (Or.inr ⟨by kernel_rfl, rfl⟩) hHeld ?_
          (try simp only [Act.put, List.setIfInBounds_toArray, List.set_cons_zero, List.set_cons_succ])
          refine take_at 19 77 (.bool true) rfl rfl (by kernel_rfl) (by kernel_rfl) (by kernel_rfl) (fun _ _ _ h => h) (Or.inl ⟨by kernel_rfl, fun w' hS' => by go_simp⟩) hHeld ?_
          (try simp only [Act.put, List.setIfInBounds_toArray, List.set_cons_zero, List.set_cons_succ])
          refine wpAnyH_done (by kernel_rfl) ?_ _
          refine NoPanic.normal ?_
          replace HH : Hid (Hold w [(Xb, #[.int .i64 (R + 1), .int .i64 C, .slice Xa Xn Xc], 25), (Wb, #[.int .i64 (R + 1), .int .i64 C, .slice Wa Wn Wc], 25), (Tb, #[.int .i64 R, .int .i64 C, .slice a' n' c'], 25)] [(Xa, Xn, Xc, (inL t' C l)), (Wa, Wn, Wc, (inL t' C l)), (a', n', c', l)] _) := hHeld
          clear hHeld
          go_wp2_with fail
          go_roundw
          case rel => exact ⟨q + 1, m + 1, by omega, by go_num, by go_num, by rw [freeN_no HTK.out, ← HM.out], HH.out⟩
          case measure => simp [intOf]; omega
        · have hzd : decide (t' = 0) = false := decide_eq_false hz
          by_cases he : t' = R
          · have hed : decide (t' = R) = true := decide_eq_true he
            have HTK : Hid (takenB t' l q = false) := taken_edge HOK.out (Or.inr he) _
            refine wp_region_noPanic ?_
            refine wp_region_held_drew (S := fun w' => Hold w [(Xb, #[.int .i64 (R + 1), .int .i64 C, .slice Xa Xn Xc], 25), (Wb, #[.int .i64 (R + 1), .int .i64 C, .slice Wa Wn Wc], 25), (Tb, #[.int .i64 R, .int .i64 C, .slice a' n' c'], 25)] [(Xa, Xn, Xc, (inL t' C l)), (Wa, Wn, Wc, (inL t' C l)), (a', n', c', l)] w') (by kernel_rfl) HH.out.drew (fun hHeld => ?_)
            refine take_at 0 58 (.int .i64 t') rfl rfl (by kernel_rfl) (by kernel_rfl) (by kernel_rfl) (fun _ _ _ h => h) (Or.inl ⟨by kernel_rfl, fun w' hS' => by go_simp⟩) hHeld ?_
            (try simp only [Act.put, List.setIfInBounds_toArray, List.set_cons_zero, List.set_cons_succ])
            refine take_at 1 59 (.bool false) rfl rfl (by kernel_rfl) (by kernel_rfl) (by kernel_rfl) (fun _ _ _ h => h) (Or.inl ⟨by kernel_rfl, fun w' hS' => by go_simp <;> omega⟩) hHeld ?_
            (try simp only [Act.put, List.setIfInBounds_toArray, List.set_cons_zero, List.set_cons_succ])
            refine take_at 2 60 (.bool false) rfl rfl (by kernel_rfl) (by kernel_rfl) (by kernel_rfl) (fun _ _ _ h => h) (Or.inl ⟨by kernel_rfl, fun w' hS' => by go_simp⟩) hHeld ?_
            (try simp only [Act.put, List.setIfInBounds_toArray, List.set_cons_zero, List.set_cons_succ])
            refine take_at 3 61 (.int .i64 t') rfl rfl (by kernel_rfl) (by kernel_rfl) (by kernel_rfl) (fun _ _ _ h => h) (Or.inl ⟨by kernel_rfl, fun w' hS' => by go_simp⟩) hHeld ?_
            (try simp only [Act.put, List.setIfInBounds_toArray, List.set_cons_zero, List.set_cons_succ])
            refine take_at 4 62 (.pointer (some ⟨Tb, 0, none⟩)) rfl rfl (by kernel_rfl) (by kernel_rfl) (by kernel_rfl) (fun _ _ _ h => h) (Or.inl ⟨by kernel_rfl, fun w' hS' => by go_simp⟩) hHeld ?_
            (try simp only [Act.put, List.setIfInBounds_toArray, List.set_cons_zero, List.set_cons_succ])
            refine take_at 5 63 (.int .i64 R) rfl rfl (by kernel_rfl) (by kernel_rfl) (by kernel_rfl) (fun _ _ _ h => h) (Or.inl ⟨by kernel_rfl, fun w' hS' => by have hc := RowAt.cell (hS'.row 2 rfl) 0; go_simp⟩) hHeld ?_
            (try simp only [Act.put, List.setIfInBounds_toArray, List.set_cons_zero, List.set_cons_succ])
            refine take_at 6 64 (.bool true) rfl rfl (by kernel_rfl) (by kernel_rfl) (by kernel_rfl) (fun _ _ _ h => h) (Or.inl ⟨by kernel_rfl, fun w' hS' => by go_simp⟩) hHeld ?_
            (try simp only [Act.put, List.setIfInBounds_toArray, List.set_cons_zero, List.set_cons_succ])
            refine take_at 7 65 (.bool true) rfl rfl (by kernel_rfl) (by kernel_rfl) (by kernel_rfl) (fun _ _ _ h => h) (Or.inl ⟨by kernel_rfl, fun w' hS' => by go_simp⟩) hHeld ?_
            (try simp only [Act.put, List.setIfInBounds_toArray, List.set_cons_zero, List.set_cons_succ])
            refine take_at 8 66 (.bool true) rfl rfl (by kernel_rfl) (by kernel_rfl) (by kernel_rfl) (fun _ _ _ h => h) (Or.inl ⟨by kernel_rfl, fun w' hS' => by go_simp⟩) hHeld ?_
            (try simp only [Act.put, List.setIfInBounds_toArray, List.set_cons_zero, List.set_cons_succ])
            refine take_at 9 67 (undef) rfl rfl (by kernel_rfl) (by kernel_rfl) (by kernel_rfl) (fun _ _ _ h => h) (Or.inr ⟨by kernel_rfl, rfl⟩) hHeld ?_
            (try simp only [Act.put, List.setIfInBounds_toArray, List.set_cons_zero, List.set_cons_succ])
            refine take_at 10 68 (undef) rfl rfl (by kernel_rfl) (by kernel_rfl) (by kernel_rfl) (fun _ _ _ h => h) (Or.inr ⟨by kernel_rfl, rfl⟩) hHeld ?_
            (try simp only [Act.put, List.setIfInBounds_toArray, List.set_cons_zero, List.set_cons_succ])
            refine take_at 11 69 (undef) rfl rfl (by kernel_rfl) (by kernel_rfl) (by kernel_rfl) (fun _ _ _ h => h) (Or.inr ⟨by kernel_rfl, rfl⟩) hHeld ?_
            (try simp only [Act.put, List.setIfInBounds_toArray, List.set_cons_zero, List.set_cons_succ])
            refine take_at 12 70 (undef) rfl rfl (by kernel_rfl) (by kernel_rfl) (by kernel_rfl) (fun _ _ _ h => h) (Or.inr ⟨by kernel_rfl, rfl⟩) hHeld ?_
            (try simp only [Act.put, List.setIfInBounds_toArray, List.set_cons_zero, List.set_cons_succ])
            refine take_at 13 71 (undef) rfl rfl (by kernel_rfl) (by kernel_rfl) (by kernel_rfl) (fun _ _ _ h => h) (Or.inr ⟨by kernel_rfl, rfl⟩) hHeld ?_
            (try simp only [Act.put, List.setIfInBounds_toArray, List.set_cons_zero, List.set_cons_succ])
            refine take_at 14 72 (undef) rfl rfl (by kernel_rfl) (by kernel_rfl) (by kernel_rfl) (fun _ _ _ h => h) (Or.inr ⟨by kernel_rfl, rfl⟩) hHeld ?_
            (try simp only [Act.put, List.setIfInBounds_toArray, List.set_cons_zero, List.set_cons_succ])
            refine take_at 15 73 (undef) rfl rfl (by kernel_rfl) (by kernel_rfl) (by kernel_rfl) (fun _ _ _ h => h) (Or.inr ⟨by kernel_rfl, rfl⟩) hHeld ?_
            (try simp only [Act.put, List.setIfInBounds_toArray, List.set_cons_zero, List.set_cons_succ])
            refine take_at 16 74 (undef) rfl rfl (by kernel_rfl) (by kernel_rfl) (by kernel_rfl) (fun _ _ _ h => h) (Or.inr ⟨by kernel_rfl, rfl⟩) hHeld ?_
            (try simp only [Act.put, List.setIfInBounds_toArray, List.set_cons_zero, List.set_cons_succ])
            refine take_at 17 75 (undef) rfl rfl (by kernel_rfl) (by kernel_rfl) (by kernel_rfl) (fun _ _ _ h => h) (Or.inr ⟨by kernel_rfl, rfl⟩) hHeld ?_
            (try simp only [Act.put, List.setIfInBounds_toArray, List.set_cons_zero, List.set_cons_succ])
            refine take_at 18 76 (undef) rfl rfl (by kernel_rfl) (by kernel_rfl) (by kernel_rfl) (fun _ _ _ h => h) (Or.inr ⟨by kernel_rfl, rfl⟩) hHeld ?_
            (try simp only [Act.put, List.setIfInBounds_toArray, List.set_cons_zero, List.set_cons_succ])
            refine take_at 19 77 (.bool true) rfl rfl (by kernel_rfl) (by kernel_rfl) (by kernel_rfl) (fun _ _ _ h => h) (Or.inl ⟨by kernel_rfl, fun w' hS' => by go_simp⟩) hHeld ?_
            (try simp only [Act.put, List.setIfInBounds_toArray, List.set_cons_zero, List.set_cons_succ])
            refine wpAnyH_done (by kernel_rfl) ?_ _
            refine NoPanic.normal ?_
            replace HH : Hid (Hold w [(Xb, #[.int .i64 (R + 1), .int .i64 C, .slice Xa Xn Xc], 25), (Wb, #[.int .i64 (R + 1), .int .i64 C, .slice Wa Wn Wc], 25), (Tb, #[.int .i64 R, .int .i64 C, .slice a' n' c'], 25)] [(Xa, Xn, Xc, (inL t' C l)), (Wa, Wn, Wc, (inL t' C l)), (a', n', c', l)] _) := hHeld
            clear hHeld
            go_wp2_with fail
            go_roundw
            case rel => exact ⟨q + 1, m + 1, by omega, by go_num, by go_num, by rw [freeN_no HTK.out, ← HM.out], HH.out⟩
            case measure => simp [intOf]; omega
          · have hed : decide (t' = R) = false := decide_eq_false he
            obtain ⟨x1, HX1⟩ : ∃ x, Hid (atN R C l (t' - 1) q = x) := ⟨_, rfl⟩
            obtain ⟨x2, HX2⟩ : ∃ x, Hid (atN R C l t' q = x) := ⟨_, rfl⟩
            have HTI : Hid (takenB t' l q = true ↔ x1 = x2) := by
              have := taken_mid HOK.out (t' := t') (by omega) (by omega) q hqb
              rw [HX1.out, HX2.out] at this
              exact this
            by_cases hx : x1 = x2
            · have hxd : decide (x1 = x2) = true := decide_eq_true hx
              have HTK : Hid (takenB t' l q = true) := HTI.out.2 hx
              refine wp_region_noPanic ?_
              refine wp_region_held_drew (S := fun w' => Hold w [(Xb, #[.int .i64 (R + 1), .int .i64 C, .slice Xa Xn Xc], 25), (Wb, #[.int .i64 (R + 1), .int .i64 C, .slice Wa Wn Wc], 25), (Tb, #[.int .i64 R, .int .i64 C, .slice a' n' c'], 25)] [(Xa, Xn, Xc, (inL t' C l)), (Wa, Wn, Wc, (inL t' C l)), (a', n', c', l)] w') (by kernel_rfl) HH.out.drew (fun hHeld => ?_)
              refine take_at 0 58 (.int .i64 t') rfl rfl (by kernel_rfl) (by kernel_rfl) (by kernel_rfl) (fun _ _ _ h => h) (Or.inl ⟨by kernel_rfl, fun w' hS' => by go_simp⟩) hHeld ?_
              (try simp only [Act.put, List.setIfInBounds_toArray, List.set_cons_zero, List.set_cons_succ])
              refine take_at 1 59 (.bool false) rfl rfl (by kernel_rfl) (by kernel_rfl) (by kernel_rfl) (fun _ _ _ h => h) (Or.inl ⟨by kernel_rfl, fun w' hS' => by go_simp <;> omega⟩) hHeld ?_
              (try simp only [Act.put, List.setIfInBounds_toArray, List.set_cons_zero, List.set_cons_succ])
              refine take_at 2 60 (.bool false) rfl rfl (by kernel_rfl) (by kernel_rfl) (by kernel_rfl) (fun _ _ _ h => h) (Or.inl ⟨by kernel_rfl, fun w' hS' => by go_simp⟩) hHeld ?_
              (try simp only [Act.put, List.setIfInBounds_toArray, List.set_cons_zero, List.set_cons_succ])
              refine take_at 3 61 (.int .i64 t') rfl rfl (by kernel_rfl) (by kernel_rfl) (by kernel_rfl) (fun _ _ _ h => h) (Or.inl ⟨by kernel_rfl, fun w' hS' => by go_simp⟩) hHeld ?_
              (try simp only [Act.put, List.setIfInBounds_toArray, List.set_cons_zero, List.set_cons_succ])
              refine take_at 4 62 (.pointer (some ⟨Tb, 0, none⟩)) rfl rfl (by kernel_rfl) (by kernel_rfl) (by kernel_rfl) (fun _ _ _ h => h) (Or.inl ⟨by kernel_rfl, fun w' hS' => by go_simp⟩) hHeld ?_
              (try simp only [Act.put, List.setIfInBounds_toArray, List.set_cons_zero, List.set_cons_succ])
              refine take_at 5 63 (.int .i64 R) rfl rfl (by kernel_rfl) (by kernel_rfl) (by kernel_rfl) (fun _ _ _ h => h) (Or.inl ⟨by kernel_rfl, fun w' hS' => by have hc := RowAt.cell (hS'.row 2 rfl) 0; go_simp⟩) hHeld ?_
              (try simp only [Act.put, List.setIfInBounds_toArray, List.set_cons_zero, List.set_cons_succ])
              refine take_at 6 64 (.bool false) rfl rfl (by kernel_rfl) (by kernel_rfl) (by kernel_rfl) (fun _ _ _ h => h) (Or.inl ⟨by kernel_rfl, fun w' hS' => by go_simp⟩) hHeld ?_
              (try simp only [Act.put, List.setIfInBounds_toArray, List.set_cons_zero, List.set_cons_succ])
              refine take_at 7 65 (.bool false) rfl rfl (by kernel_rfl) (by kernel_rfl) (by kernel_rfl) (fun _ _ _ h => h) (Or.inl ⟨by kernel_rfl, fun w' hS' => by go_simp⟩) hHeld ?_
              (try simp only [Act.put, List.setIfInBounds_toArray, List.set_cons_zero, List.set_cons_succ])
              refine take_at 8 66 (.bool false) rfl rfl (by kernel_rfl) (by kernel_rfl) (by kernel_rfl) (fun _ _ _ h => h) (Or.inl ⟨by kernel_rfl, fun w' hS' => by go_simp⟩) hHeld ?_
              (try simp only [Act.put, List.setIfInBounds_toArray, List.set_cons_zero, List.set_cons_succ])
              refine take_at 9 67 (.agg #[.int .i64 R, .int .i64 C, .slice a' n' c']) rfl rfl (by kernel_rfl) (by kernel_rfl) (by kernel_rfl) (fun _ _ _ h => h) (yieldsIf_load_row (by kernel_rfl) 25 (.tmp 3) rfl Tb rfl 25 #[.int .i64 R, .int .i64 C, .slice a' n' c'] (0, 0) _ (fun w' h => h.row 2 rfl) Try.underlying25 rfl tab_info) hHeld ?_
              (try simp only [Act.put, List.setIfInBounds_toArray, List.set_cons_zero, List.set_cons_succ])
              refine take_at 10 68 (.int .i64 t') rfl rfl (by kernel_rfl) (by kernel_rfl) (by kernel_rfl) (fun _ _ _ h => h) (Or.inl ⟨by kernel_rfl, fun w' hS' => by go_simp⟩) hHeld ?_
              (try simp only [Act.put, List.setIfInBounds_toArray, List.set_cons_zero, List.set_cons_succ])
              refine take_at 11 69 (.int .i64 (t' - 1)) rfl rfl (by kernel_rfl) (by kernel_rfl) (by kernel_rfl) (fun _ _ _ h => h) (Or.inl ⟨by kernel_rfl, fun w' hS' => by go_simp; rw [IntKind.wrap_i64]; omega⟩) hHeld ?_
              (try simp only [Act.put, List.setIfInBounds_toArray, List.set_cons_zero, List.set_cons_succ])
              refine take_at 12 70 (.int .i64 q) rfl rfl (by kernel_rfl) (by kernel_rfl) (by kernel_rfl) (fun _ _ _ h => h) (Or.inl ⟨by kernel_rfl, fun w' hS' => by go_simp⟩) hHeld ?_
              (try simp only [Act.put, List.setIfInBounds_toArray, List.set_cons_zero, List.set_cons_succ])
              refine take_at 14 72 (.agg #[.int .i64 R, .int .i64 C, .slice a' n' c']) rfl rfl (by kernel_rfl) (by kernel_rfl) (by kernel_rfl) (fun _ _ _ h => h) (yieldsIf_load_row (by kernel_rfl) 25 (.tmp 3) rfl Tb rfl 25 #[.int .i64 R, .int .i64 C, .slice a' n' c'] (0, 0) _ (fun w' h => h.row 2 rfl) Try.underlying25 rfl tab_info) hHeld ?_
              (try simp only [Act.put, List.setIfInBounds_toArray, List.set_cons_zero, List.set_cons_succ])
              refine take_at 15 73 (.int .i64 t') rfl rfl (by kernel_rfl) (by kernel_rfl) (by kernel_rfl) (fun _ _ _ h => h) (Or.inl ⟨by kernel_rfl, fun w' hS' => by go_simp⟩) hHeld ?_
              (try simp only [Act.put, List.setIfInBounds_toArray, List.set_cons_zero, List.set_cons_succ])
              refine take_at 16 74 (.int .i64 q) rfl rfl (by kernel_rfl) (by kernel_rfl) (by kernel_rfl) (fun _ _ _ h => h) (Or.inl ⟨by kernel_rfl, fun w' hS' => by go_simp⟩) hHeld ?_
              (try simp only [Act.put, List.setIfInBounds_toArray, List.set_cons_zero, List.set_cons_succ])
              refine wpAnyH_ready (rs := [13]) (by kernel_rfl) (by simp) ?_
              refine AllReadyH.cons rfl (fun K hK => ?_) AllReadyH.nil
              go_simp
              go_at_call 20
              refine (implTableAt_is HX1.out (hHeld.tab 2 rfl)).mono ?_
              rintro e u1 ⟨rfl, hb⟩
              go_wp2_with fail
              refine hK.out _ _ (hHeld.go hb) (fun hHeld => ?_)
              clear hK K
              (try simp only [Act.put, List.setIfInBounds_toArray, List.set_cons_zero, List.set_cons_succ])
              refine wpAnyH_ready (rs := [17]) (by kernel_rfl) (by simp) ?_
              refine AllReadyH.cons rfl (fun K hK => ?_) AllReadyH.nil
              go_simp
              go_at_call 20
              refine (implTableAt_is HX2.out (hHeld.tab 2 rfl)).mono ?_
              rintro e u2 ⟨rfl, hb⟩
              go_wp2_with fail
              refine hK.out _ _ (hHeld.go hb) (fun hHeld => ?_)
              clear hK K
              (try simp only [Act.put, List.setIfInBounds_toArray, List.set_cons_zero, List.set_cons_succ])
              refine take_at 18 76 (.bool false) rfl rfl (by kernel_rfl) (by kernel_rfl) (by kernel_rfl) (fun _ _ _ h => h) (Or.inl ⟨by kernel_rfl, fun w' hS' => by go_simp⟩) hHeld ?_
              (try simp only [Act.put, List.setIfInBounds_toArray, List.set_cons_zero, List.set_cons_succ])
              refine take_at 19 77 (.bool false) rfl rfl (by kernel_rfl) (by kernel_rfl) (by kernel_rfl) (fun _ _ _ h => h) (Or.inl ⟨by kernel_rfl, fun w' hS' => by go_simp⟩) hHeld ?_
              (try simp only [Act.put, List.setIfInBounds_toArray, List.set_cons_zero, List.set_cons_succ])
              refine wpAnyH_done (by kernel_rfl) ?_ _
              refine NoPanic.normal ?_
              replace HH : Hid (Hold w [(Xb, #[.int .i64 (R + 1), .int .i64 C, .slice Xa Xn Xc], 25), (Wb, #[.int .i64 (R + 1), .int .i64 C, .slice Wa Wn Wc], 25), (Tb, #[.int .i64 R, .int .i64 C, .slice a' n' c'], 25)] [(Xa, Xn, Xc, (inL t' C l)), (Wa, Wn, Wc, (inL t' C l)), (a', n', c', l)] _) := hHeld
              clear hHeld
              go_wp2_with fail
              go_roundw
              case rel => exact ⟨q + 1, m, by omega, rfl, by go_num, by rw [freeN_yes HTK.out, ← HM.out], HH.out⟩
              case measure => simp [intOf]; omega
            · have hxd : decide (x1 = x2) = false := decide_eq_false hx
              have HTK : Hid (takenB t' l q = false) := by
                cases hk : takenB t' l q
                · rfl
                · exact absurd (HTI.out.1 hk) hx
              refine wp_region_noPanic ?_
              refine wp_region_held_drew (S := fun w' => Hold w [(Xb, #[.int .i64 (R + 1), .int .i64 C, .slice Xa Xn Xc], 25), (Wb, #[.int .i64 (R + 1), .int .i64 C, .slice Wa Wn Wc], 25), (Tb, #[.int .i64 R, .int .i64 C, .slice a' n' c'], 25)] [(Xa, Xn, Xc, (inL t' C l)), (Wa, Wn, Wc, (inL t' C l)), (a', n', c', l)] w') (by kernel_rfl) HH.out.drew (fun hHeld => ?_)
              refine take_at 0 58 (.int .i64 t') rfl rfl (by kernel_rfl) (by kernel_rfl) (by kernel_rfl) (fun _ _ _ h => h) (Or.inl ⟨by kernel_rfl, fun w' hS' => by go_simp⟩) hHeld ?_
              (try simp only [Act.put, List.setIfInBounds_toArray, List.set_cons_zero, List.set_cons_succ])
              refine take_at 1 59 (.bool false) rfl rfl (by kernel_rfl) (by kernel_rfl) (by kernel_rfl) (fun _ _ _ h => h) (Or.inl ⟨by kernel_rfl, fun w' hS' => by go_simp <;> omega⟩) hHeld ?_
              (try simp only [Act.put, List.setIfInBounds_toArray, List.set_cons_zero, List.set_cons_succ])
              refine take_at 2 60 (.bool false) rfl rfl (by kernel_rfl) (by kernel_rfl) (by kernel_rfl) (fun _ _ _ h => h) (Or.inl ⟨by kernel_rfl, fun w' hS' => by go_simp⟩) hHeld ?_
              (try simp only [Act.put, List.setIfInBounds_toArray, List.set_cons_zero, List.set_cons_succ])
              refine take_at 3 61 (.int .i64 t') rfl rfl (by kernel_rfl) (by kernel_rfl) (by kernel_rfl) (fun _ _ _ h => h) (Or.inl ⟨by kernel_rfl, fun w' hS' => by go_simp⟩) hHeld ?_
              (try simp only [Act.put, List.setIfInBounds_toArray, List.set_cons_zero, List.set_cons_succ])
              refine take_at 4 62 (.pointer (some ⟨Tb, 0, none⟩)) rfl rfl (by kernel_rfl) (by kernel_rfl) (by kernel_rfl) (fun _ _ _ h => h) (Or.inl ⟨by kernel_rfl, fun w' hS' => by go_simp⟩) hHeld ?_
              (try simp only [Act.put, List.setIfInBounds_toArray, List.set_cons_zero, List.set_cons_succ])
              refine take_at 5 63 (.int .i64 R) rfl rfl (by kernel_rfl) (by kernel_rfl) (by kernel_rfl) (fun _ _ _ h => h) (Or.inl ⟨by kernel_rfl, fun w' hS' => by have hc := RowAt.cell (hS'.row 2 rfl) 0; go_simp⟩) hHeld ?_
              (try simp only [Act.put, List.setIfInBounds_toArray, List.set_cons_zero, List.set_cons_succ])
              refine take_at 6 64 (.bool false) rfl rfl (by kernel_rfl) (by kernel_rfl) (by kernel_rfl) (fun _ _ _ h => h) (Or.inl ⟨by kernel_rfl, fun w' hS' => by go_simp⟩) hHeld ?_
              (try simp only [Act.put, List.setIfInBounds_toArray, List.set_cons_zero, List.set_cons_succ])
              refine take_at 7 65 (.bool false) rfl rfl (by kernel_rfl) (by kernel_rfl) (by kernel_rfl) (fun _ _ _ h => h) (Or.inl ⟨by kernel_rfl, fun w' hS' => by go_simp⟩) hHeld ?_
              (try simp only [Act.put, List.setIfInBounds_toArray, List.set_cons_zero, List.set_cons_succ])
              refine take_at 8 66 (.bool false) rfl rfl (by kernel_rfl) (by kernel_rfl) (by kernel_rfl) (fun _ _ _ h => h) (Or.inl ⟨by kernel_rfl, fun w' hS' => by go_simp⟩) hHeld ?_
              (try simp only [Act.put, List.setIfInBounds_toArray, List.set_cons_zero, List.set_cons_succ])
              refine take_at 9 67 (.agg #[.int .i64 R, .int .i64 C, .slice a' n' c']) rfl rfl (by kernel_rfl) (by kernel_rfl) (by kernel_rfl) (fun _ _ _ h => h) (yieldsIf_load_row (by kernel_rfl) 25 (.tmp 3) rfl Tb rfl 25 #[.int .i64 R, .int .i64 C, .slice a' n' c'] (0, 0) _ (fun w' h => h.row 2 rfl) Try.underlying25 rfl tab_info) hHeld ?_
              (try simp only [Act.put, List.setIfInBounds_toArray, List.set_cons_zero, List.set_cons_succ])
              refine take_at 10 68 (.int .i64 t') rfl rfl (by kernel_rfl) (by kernel_rfl) (by kernel_rfl) (fun _ _ _ h => h) (Or.inl ⟨by kernel_rfl, fun w' hS' => by go_simp⟩) hHeld ?_
              (try simp only [Act.put, List.setIfInBounds_toArray, List.set_cons_zero, List.set_cons_succ])
              refine take_at 11 69 (.int .i64 (t' - 1)) rfl rfl (by kernel_rfl) (by kernel_rfl) (by kernel_rfl) (fun _ _ _ h => h) (Or.inl ⟨by kernel_rfl, fun w' hS' => by go_simp; rw [IntKind.wrap_i64]; omega⟩) hHeld ?_
              (try simp only [Act.put, List.setIfInBounds_toArray, List.set_cons_zero, List.set_cons_succ])
              refine take_at 12 70 (.int .i64 q) rfl rfl (by kernel_rfl) (by kernel_rfl) (by kernel_rfl) (fun _ _ _ h => h) (Or.inl ⟨by kernel_rfl, fun w' hS' => by go_simp⟩) hHeld ?_
              (try simp only [Act.put, List.setIfInBounds_toArray, List.set_cons_zero, List.set_cons_succ])
              refine take_at 14 72 (.agg #[.int .i64 R, .int .i64 C, .slice a' n' c']) rfl rfl (by kernel_rfl) (by kernel_rfl) (by kernel_rfl) (fun _ _ _ h => h) (yieldsIf_load_row (by kernel_rfl) 25 (.tmp 3) rfl Tb rfl 25 #[.int .i64 R, .int .i64 C, .slice a' n' c'] (0, 0) _ (fun w' h => h.row 2 rfl) Try.underlying25 rfl tab_info) hHeld ?_
              (try simp only [Act.put, List.setIfInBounds_toArray, List.set_cons_zero, List.set_cons_succ])
              refine take_at 15 73 (.int .i64 t') rfl rfl (by kernel_rfl) (by kernel_rfl) (by kernel_rfl) (fun _ _ _ h => h) (Or.inl ⟨by kernel_rfl, fun w' hS' => by go_simp⟩) hHeld ?_
              (try simp only [Act.put, List.setIfInBounds_toArray, List.set_cons_zero, List.set_cons_succ])
              refine take_at 16 74 (.int .i64 q) rfl rfl (by kernel_rfl) (by kernel_rfl) (by kernel_rfl) (fun _ _ _ h => h) (Or.inl ⟨by kernel_rfl, fun w' hS' => by go_simp⟩) hHeld ?_
              (try simp only [Act.put, List.setIfInBounds_toArray, List.set_cons_zero, List.set_cons_succ])
              refine wpAnyH_ready (rs := [13]) (by kernel_rfl) (by simp) ?_
              refine AllReadyH.cons rfl (fun K hK => ?_) AllReadyH.nil
              go_simp
              go_at_call 20
              refine (implTableAt_is HX1.out (hHeld.tab 2 rfl)).mono ?_
              rintro e u1 ⟨rfl, hb⟩
              go_wp2_with fail
              refine hK.out _ _ (hHeld.go hb) (fun hHeld => ?_)
              clear hK K
              (try simp only [Act.put, List.setIfInBounds_toArray, List.set_cons_zero, List.set_cons_succ])
              refine wpAnyH_ready (rs := [17]) (by kernel_rfl) (by simp) ?_
              refine AllReadyH.cons rfl (fun K hK => ?_) AllReadyH.nil
              go_simp
              go_at_call 20
              refine (implTableAt_is HX2.out (hHeld.tab 2 rfl)).mono ?_
              rintro e u2 ⟨rfl, hb⟩
              go_wp2_with fail
              refine hK.out _ _ (hHeld.go hb) (fun hHeld => ?_)
              clear hK K
              (try simp only [Act.put, List.setIfInBounds_toArray, List.set_cons_zero, List.set_cons_succ])
              refine take_at 18 76 (.bool true) rfl rfl (by kernel_rfl) (by kernel_rfl) (by kernel_rfl) (fun _ _ _ h => h) (Or.inl ⟨by kernel_rfl, fun w' hS' => by go_simp⟩) hHeld ?_
              (try simp only [Act.put, List.setIfInBounds_toArray, List.set_cons_zero, List.set_cons_succ])
              refine take_at 19 77 (.bool true) rfl rfl (by kernel_rfl) (by kernel_rfl) (by kernel_rfl) (fun _ _ _ h => h) (Or.inl ⟨by kernel_rfl, fun w' hS' => by go_simp⟩) hHeld ?_
              (try simp only [Act.put, List.setIfInBounds_toArray, List.set_cons_zero, List.set_cons_succ])
              refine wpAnyH_done (by kernel_rfl) ?_ _
              refine NoPanic.normal ?_
              replace HH : Hid (Hold w [(Xb, #[.int .i64 (R + 1), .int .i64 C, .slice Xa Xn Xc], 25), (Wb, #[.int .i64 (R + 1), .int .i64 C, .slice Wa Wn Wc], 25), (Tb, #[.int .i64 R, .int .i64 C, .slice a' n' c'], 25)] [(Xa, Xn, Xc, (inL t' C l)), (Wa, Wn, Wc, (inL t' C l)), (a', n', c', l)] _) := hHeld
              clear hHeld
              go_wp2_with fail
              go_roundw
              case rel => exact ⟨q + 1, m + 1, by omega, by go_num, by go_num, by rw [freeN_no HTK.out, ← HM.out], HH.out⟩
              case measure => simp [intOf]; omega
      · have hqb : ¬ (q : Int) < (C : Int) := by omega
        have qX : wr.cell? ⟨Xb, 2, none⟩ = some (.slice Xa Xn Xc) := (HH.out.row 0 rfl).cell 2
        have qT : wr.cell? ⟨Tb, 2, none⟩ = some (.slice a' n' c') := (HH.out.row 2 rfl).cell 2
        obtain rfl : q = C := by omega
        have hle : (Xn : Int) = (n' : Int) + (m : Int) := by have := HLE.out; have := HM.out; omega
        go_wp2_with fail
        go_ret
        refine ⟨?_, HH.out.1⟩
        simp
end Go.Proofs.Ytbigbbfbikhjdab
