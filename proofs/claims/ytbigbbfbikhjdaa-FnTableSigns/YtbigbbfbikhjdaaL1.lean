import Derived.Test.YtbigbbfbikhjdaaBD2
import Derived.Test.YtbigbbfbikhjdaaBA1
import Derived.Test.YtbigbbfbikhjdaaBA2
import Derived.Test.YtbigbbfbikhjdaaBI1
import Derived.Test.YtbigbbfbikhjdaaBO1
import Derived.Test.YtbigbbfbikhjdaaBS1
import Derived.Test.YtbigbbfbikhjdaaBA3
namespace Go.Proofs.Ytbigbbfbikhjdaa
open Go.RowKit

set_option maxRecDepth 100000 in
set_option maxHeartbeats 8000000 in
theorem drawTableRowIn_any (B : Nat) (a : Option Addr) (n cap : Nat) (zs : List Int) (w : World) (h : Byt B w a n cap zs) (hB : B ≤ w.heap.size) :
    Calls Try.prog 9 #[.slice a n cap] w fun e w' => (∃ (R C : Int) (a' : Option Addr) (n' c' : Nat) (l : List Cl) (at' : Int), e = .returned (.tuple #[.agg #[.int .i64 R, .int .i64 C, .slice a' n' c'], .int .i64 at']) ∧ Tab w' a' n' c' l ∧ TabSp R C l ∧ (-20 ≤ at' ∧ at' ≤ 20)) ∧ Below w.heap.size w w' := by
  have HY : Hid (Byt B w a n cap zs) := h
  clear h
  go_enter Try.func9, Try.ntmps9
  go_upto_region 1 with fail
  have B0 : Below w.heap.size w (w.alloc (.cells #[.int .i64 0, .int .i64 0, .slice none 0 0] 25)) := (Below.refl _ _).alloc (Nat.le_refl _) _
  have Z0 : RowAt (w.alloc (.cells #[.int .i64 0, .int .i64 0, .slice none 0 0] 25)) w.heap.size #[.int .i64 0, .int .i64 0, .slice none 0 0] 25 := rowAt_new _ _ _
  have HY0 : Hid (Byt B (w.alloc (.cells #[.int .i64 0, .int .i64 0, .slice none 0 0] 25)) a n cap zs) := HY.out.belowC B0 hB
  generalize (w.alloc (.cells #[.int .i64 0, .int .i64 0, .slice none 0 0] 25)) = v0 at B0 Z0 HY0 ⊢
  have s0 := B0.size
  have zz := Z0.lt
  go_wp2_with fail
  refine (l6Open_any B a n cap zs _ HY0.out (by omega)).mono ?_
  rintro e w1 ⟨rfl, hr1, hb1⟩
  have s1 := hb1.size
  have HR1 : Hid (Rd B w1 v0.heap.size 0) := hr1
  clear hr1
  go_wp2_with fail
  refine (l71Row_any B _ 0 _ HR1.out (by omega)).mono ?_
  rintro e w2 ⟨R, C, a', n', c', l, q, at', rfl, ⟨rs, hX2⟩, hS2, hat, hr2, hq2, hf2⟩
  have HX2 : Hid (OwnX w2 w1.heap.size (.slice a' n' c') rs l) := hX2
  have HZ2 : Hid (RowAt w2 w.heap.size #[.int .i64 0, .int .i64 0, .slice none 0 0] 25) := (Z0.below hb1 zz).fr hf2 (by omega)
  have HB2 : Hid (Below w.heap.size w w2) := below_of_fr3 B0 hb1 hf2 (by omega) s0
  have HS : Hid (TabSp R C l) := hS2
  clear hX2 hr2 hS2
  go_wp2_with (refine wpList_store_row rfl 25 (.tmp 2) (.tmp 7) rfl w.heap.size #[.int .i64 R, .int .i64 C, .slice a' n' c'] rfl rfl 25 _ HZ2.out tab_info rfl (cells3_one _ _ _ _ _) ?_)
  refine bodyPost_ret (v := .tuple #[.agg #[.int .i64 R, .int .i64 C, .slice a' n' c'], .int .i64 at']) ?_ rfl ⟨⟨R, C, a', n', c', l, at', rfl, (HX2.out.setRowT HZ2.out _).tab, HS.out, hat⟩, below_row HB2.out (Nat.le_refl _) _⟩
  rw [results_cell_tmp rfl]
  simp [asAddr, Result.andThen, run_tabOf (RowAt.setRow HZ2.out #[.int .i64 R, .int .i64 C, .slice a' n' c'])]
end Go.Proofs.Ytbigbbfbikhjdaa
namespace Go.Proofs.Ytbigbbfbikhjdaa
open Go.RowKit

/-- All that is written in a table. -/
def allT (l : List Cl) : List Sg := l.flatMap (fun x => x.2.2.2.2)
def manyN (l : List Cl) : Nat := (allT l).length
theorem manyN_take (l : List Cl) (i : Nat) (h : i < l.length) : manyN (l.take (i + 1)) = manyN (l.take i) + (l.getD i cl0).2.2.2.2.length := by
  unfold manyN allT
  rw [List.take_succ_eq_append_getElem h, List.flatMap_append, List.length_append]
  simp [List.getD, h]
theorem manyN_le (k : Nat) : ∀ l : List Cl, (∀ x ∈ l, x.2.2.2.2.length ≤ k) → manyN l ≤ k * l.length
  | [], _ => by simp [manyN, allT]
  | x :: l, h => by
    have h1 := manyN_le k l (fun y hy => h y (List.mem_cons_of_mem _ hy))
    have h2 := h x (List.mem_cons_self ..)
    unfold manyN allT at h1 ⊢
    rw [List.flatMap_cons, List.length_append, List.length_cons, Nat.mul_succ]
    omega
end Go.Proofs.Ytbigbbfbikhjdaa
namespace Go.Proofs.Ytbigbbfbikhjdaa
open Go.RowKit

theorem ok_turnI {R C : Int} {l : List Cl} (h : okB R C l = true) : okB C R (turnL l) = true := by
  obtain ⟨hR, hC, _, _⟩ := gridP_of_okB h
  obtain ⟨R, rfl⟩ : ∃ z : Nat, R = z := ⟨R.toNat, by omega⟩
  obtain ⟨C, rfl⟩ : ∃ z : Nat, C = z := ⟨C.toNat, by omega⟩
  exact ok_turn h
theorem turn_turnI {R C : Int} {l : List Cl} (h : okB R C l = true) : turnL (turnL l) = l := by
  obtain ⟨hR, hC, _, _⟩ := gridP_of_okB h
  obtain ⟨R, rfl⟩ : ∃ z : Nat, R = z := ⟨R.toNat, by omega⟩
  obtain ⟨C, rfl⟩ : ∃ z : Nat, C = z := ⟨C.toNat, by omega⟩
  exact turn_turn h
theorem t_of {R C : Int} {l : List Cl} (h : okB R C l = true) : tX R C l = C ∧ tY R C l = R ∧ tL R C l = turnL l := by
  simp [tX, tY, tL, h]
theorem t_back {R C : Int} {l : List Cl} (h : okB R C l = true) : tX C R (turnL l) = R ∧ tY C R (turnL l) = C ∧ tL C R (turnL l) = l := by
  obtain ⟨h1, h2, h3⟩ := t_of (ok_turnI h)
  exact ⟨h1, h2, h3.trans (turn_turnI h)⟩
theorem ok_of_t {R C : Int} {l : List Cl} (h : okB (tX R C l) (tY R C l) (tL R C l) = true) : okB R C l = true := by
  by_cases ho : okB R C l = true
  · exact ho
  · unfold tX tY tL at h
    rw [if_neg ho, if_neg ho, if_neg ho, okB_nil] at h
    cases h
theorem rowIn_ok {R C t' : Int} {l : List Cl} (h : rowInB R C l t' = true) : okB R C l = true := by
  simp only [rowInB, Bool.and_eq_true] at h
  exact h.1.1
theorem rowOut_ok {R C t' : Int} {l : List Cl} (h : rowOutB R C l t' = true) : okB R C l = true := by
  simp only [rowOutB, Bool.and_eq_true] at h
  exact h.1.1
theorem rowOut_of_in {R C t' : Int} {l : List Cl} (h : rowInB R C l t' = true) : rowOutB (R + 1) C (inL t' C l) t' = true := by
  have h1 := ok_in h
  obtain ⟨hR, _, _, _⟩ := gridP_of_okB (rowIn_ok h)
  simp only [rowInB, Bool.and_eq_true, decide_eq_true_eq] at h
  simp only [rowOutB, h1, Bool.true_and, Bool.and_eq_true, decide_eq_true_eq]
  omega
end Go.Proofs.Ytbigbbfbikhjdaa
namespace Go.Proofs.Ytbigbbfbikhjdaa
open Go.RowKit

theorem manyN_nil : manyN [] = 0 := rfl
theorem manyN_cons (x : Cl) (l : List Cl) : manyN (x :: l) = x.2.2.2.2.length + manyN l := by
  unfold manyN allT
  rw [List.flatMap_cons, List.length_append]
theorem manyN_append (l m : List Cl) : manyN (l ++ m) = manyN l + manyN m := by
  unfold manyN allT
  rw [List.flatMap_append, List.length_append]
theorem manyN_perm {l m : List Cl} (h : l.Perm m) : manyN l = manyN m := by
  induction h with
  | nil => rfl
  | cons x _ ih => rw [manyN_cons, manyN_cons, ih]
  | swap x y l => rw [manyN_cons, manyN_cons, manyN_cons, manyN_cons]; omega
  | trans _ _ h1 h2 => exact h1.trans h2
theorem manyN_map (f : Cl → Cl) (hf : ∀ x, (f x).2.2.2.2 = x.2.2.2.2) : ∀ l : List Cl, manyN (l.map f) = manyN l
  | [] => rfl
  | x :: l => by rw [List.map_cons, manyN_cons, manyN_cons, hf, manyN_map f hf l]
theorem manyN_none : ∀ l : List Cl, (∀ x ∈ l, x.2.2.2.2 = []) → manyN l = 0
  | [], _ => rfl
  | x :: l, h => by rw [manyN_cons, h x (List.mem_cons_self ..), manyN_none l (fun y hy => h y (List.mem_cons_of_mem _ hy))]; rfl
theorem manyN_filter (p : Cl → Bool) : ∀ l : List Cl, manyN (l.filter p) ≤ manyN l
  | [] => Nat.le_refl _
  | x :: l => by
    have := manyN_filter p l
    rw [List.filter_cons, manyN_cons]
    split
    · rw [manyN_cons]
      omega
    · omega
theorem many_in (t' C : Int) (l : List Cl) : manyN (inL t' C l) = manyN l := by
  unfold inL
  rw [manyN_perm (sortC_perm _)]
  unfold inM
  rw [manyN_append, manyN_map _ (inC_txt t'), manyN_none (newI t' C l) ?_]
  · rfl
  · intro x hx
    unfold newI at hx
    obtain ⟨c, _, rfl⟩ := List.mem_map.1 hx
    rfl
theorem many_out (t' : Int) (l : List Cl) : manyN (outL t' l) ≤ manyN l := by
  unfold outL
  rw [manyN_perm (sortC_perm _)]
  unfold outM
  refine Nat.le_trans (manyN_filter _ _) ?_
  rw [manyN_map _ (outC_txt t')]
  exact Nat.le_refl _
theorem many_turn (l : List Cl) : manyN (turnL l) = manyN l := by
  unfold turnL
  rw [manyN_perm (sortC_perm _), manyN_map turnC (fun _ => rfl)]
theorem manyN_set : ∀ (l : List Cl) (p : Nat) (y : Cl), p < l.length → y.2.2.2.2 = (l.getD p cl0).2.2.2.2 → manyN (l.set p y) = manyN l
  | x :: l, 0, y, _, h => by
    rw [List.set_cons_zero, manyN_cons, manyN_cons, h]
    rfl
  | x :: l, p + 1, y, hp, h => by
    rw [List.set_cons_succ, manyN_cons, manyN_cons, manyN_set l p y (by simpa using hp) (by simpa using h)]
theorem many_split {R C t' : Int} {l : List Cl} (h : splitB R C l t' = true) : manyN (splitL l t') = manyN l := by
  simp only [splitB, Bool.and_eq_true, decide_eq_true_eq] at h
  have hp : t'.toNat < l.length := by
    have h1 := h.1.2
    clear h
    omega
  unfold splitL
  rw [manyN_perm (sortC_perm _)]
  unfold splitM
  rw [manyN_append, manyN_set l _ (oneC (l.getD t'.toNat cl0)) hp rfl, manyN_none (List.map sqC _) ?_]
  · rfl
  · intro x hx
    obtain ⟨q, _, rfl⟩ := List.mem_map.1 hx
    rfl
end Go.Proofs.Ytbigbbfbikhjdaa
namespace Go.Proofs.Ytbigbbfbikhjdaa
open Go.RowKit

/-- The text of a square. -/
def sqT (R C : Int) (l : List Cl) (r c : Int) : List Sg := if atN R C l r c < 0 then [] else (l.getD (atN R C l r c).toNat cl0).2.2.2.2
section
variable {R C : Int} {l : List Cl}
theorem ok_cell (h : okB R C l = true) {x : Cl} (hx : x ∈ l) : (0 ≤ x.1 ∧ 0 ≤ x.2.1 ∧ 1 ≤ x.2.2.1 ∧ 1 ≤ x.2.2.2.1) ∧ x.1 + x.2.2.1 ≤ R ∧ x.2.1 + x.2.2.2.1 ≤ C := by
  obtain ⟨m, hm, e⟩ := List.getElem_of_mem hx
  rw [← getD_get hm] at e
  subst e
  exact wiB_of (stepB_of ((gridP_of_okB h).2.2.1 m hm)).1
theorem inB_is {x : Cl} {r c : Int} : inB x r c = true ↔ x.1 ≤ r ∧ r < x.1 + x.2.2.1 ∧ x.2.1 ≤ c ∧ c < x.2.1 + x.2.2.2.1 := by
  unfold inB
  simp only [decide_eq_true_eq]
/-- A square is of the one cell that has it. -/
theorem at_of (h : okB R C l = true) {x : Cl} (hx : x ∈ l) (r c : Nat) (hi : inB x r c = true) : ∃ k, k < l.length ∧ atN R C l r c = (k : Int) ∧ l.getD k cl0 = x := by
  obtain ⟨k, hk, e⟩ := List.getElem_of_mem hx
  rw [← getD_get hk] at e
  have hw := ok_cell h hx
  have hi' := inB_is.1 hi
  refine ⟨k, hk, ?_, e⟩
  unfold atN
  rw [if_pos h, findIdx_some l k r c hk ?_ (by rw [e]; exact hi)]
  intro j hj
  cases hq : inB (l.getD j cl0) r c
  · rfl
  · exact (okB_apart h r c (by omega) (by omega) hj hk hq (by rw [e]; exact hi)).elim
theorem sqT_of (h : okB R C l = true) {x : Cl} (hx : x ∈ l) (r c : Nat) (hi : inB x r c = true) : sqT R C l r c = x.2.2.2.2 := by
  obtain ⟨k, hk, e, e2⟩ := at_of h hx r c hi
  unfold sqT
  rw [e, if_neg (by omega)]
  rw [show ((k : Int)).toNat = k by omega, e2]
theorem sq_has (h : okB R C l = true) (r c : Nat) (hr : (r : Int) < R) (hc : (c : Int) < C) : ∃ x ∈ l, inB x r c = true := by
  have h1 := okB_cnt h r c hr hc
  unfold cnt at h1
  obtain ⟨x, hx, hi⟩ := List.countP_pos_iff.1 (show 0 < l.countP (fun x => inB x r c) by omega)
  exact ⟨x, hx, hi⟩
/-- Two cells that have one square are one. -/
theorem one_cell (h : okB R C l = true) {x y : Cl} (hx : x ∈ l) (hy : y ∈ l) (r c : Nat) (h1 : inB x r c = true) (h2 : inB y r c = true) : x = y := by
  obtain ⟨k, _, e, ek⟩ := at_of h hx r c h1
  obtain ⟨m, _, e', em⟩ := at_of h hy r c h2
  have : k = m := by omega
  subst this
  rw [← ek, em]
theorem inL_mem {t' : Int} {x : Cl} (hx : x ∈ l) : inC t' x ∈ inL t' C l := (sortC_perm _).mem_iff.2 (List.mem_append.2 (Or.inl (List.mem_map_of_mem hx)))
theorem inC_has {t' : Int} {x : Cl} {r c : Int} (h : inB x r c = true) : inB (inC t' x) (if t' ≤ r then r + 1 else r) c = true := by
  obtain ⟨a, b, d, g, t⟩ := x
  have h' := inB_is.1 h
  simp only at h'
  rw [inB_is]
  unfold inC
  simp only
  by_cases c1 : t' ≤ a
  · rw [if_pos c1, if_pos (show t' ≤ r by omega)]
    simp only
    omega
  · rw [if_neg c1]
    by_cases c2 : t' < a + d
    · rw [if_pos c2]
      simp only
      split <;> omega
    · rw [if_neg c2, if_neg (show ¬ t' ≤ r by omega)]
      simp only
      omega
theorem sq_in {t' : Int} (h : rowInB R C l t' = true) (r c : Nat) (hr : (r : Int) < R) (hc : (c : Int) < C) (tq : Nat) (htq : (tq : Int) = if t' ≤ (r : Int) then (r : Int) + 1 else r) : sqT (R + 1) C (inL t' C l) tq c = sqT R C l r c := by
  obtain ⟨x, hx, hi⟩ := sq_has (rowIn_ok h) r c hr hc
  have h2 : inB (inC t' x) tq c = true := by rw [htq]; exact inC_has hi
  rw [sqT_of (ok_in h) (inL_mem hx) tq c h2, sqT_of (rowIn_ok h) hx r c hi, inC_txt]
theorem outC_has {t' : Int} {x : Cl} {r c : Int} (h : inB x (if t' ≤ r then r + 1 else r) c = true) : inB (outC t' x) r c = true := by
  obtain ⟨a, b, d, g, t⟩ := x
  have h' := inB_is.1 h
  simp only at h'
  rw [inB_is]
  unfold outC
  simp only
  by_cases c0 : t' ≤ r
  · rw [if_pos c0] at h'
    by_cases c1 : t' < a
    · rw [if_pos c1]
      simp only
      omega
    · rw [if_neg c1]
      by_cases c2 : t' < a + d
      · rw [if_pos c2]
        simp only
        omega
      · rw [if_neg c2]
        simp only
        omega
  · rw [if_neg c0] at h'
    rw [if_neg (show ¬ t' < a by omega)]
    by_cases c2 : t' < a + d
    · rw [if_pos c2]
      simp only
      omega
    · rw [if_neg c2]
      simp only
      omega
theorem sq_out {t' : Int} (h : rowOutB R C l t' = true) (r c : Nat) (hr : (r : Int) < R - 1) (hc : (c : Int) < C) (fr : Nat) (hfr : (fr : Int) = if t' ≤ (r : Int) then (r : Int) + 1 else r) : sqT (R - 1) C (outL t' l) r c = sqT R C l fr c := by
  have hfR : (fr : Int) < R := by rw [hfr]; split <;> omega
  obtain ⟨x, hx, hi⟩ := sq_has (rowOut_ok h) fr c hfR hc
  have h2 : inB (outC t' x) r c = true := outC_has (by rw [← hfr]; exact hi)
  have hm : outC t' x ∈ outL t' l := by
    refine (sortC_perm _).mem_iff.2 (List.mem_filter.2 ⟨List.mem_map_of_mem hx, ?_⟩)
    have := inB_is.1 h2
    exact decide_eq_true (by omega)
  rw [sqT_of (ok_out h) hm r c h2, sqT_of (rowOut_ok h) hx fr c hi, outC_txt]
theorem inL_len (t' : Int) : (inL t' C l).length = l.length + (newI t' C l).length := by
  unfold inL
  rw [(sortC_perm _).length_eq]
  unfold inM
  rw [List.length_append, List.length_map]
/-- A square of the table turned. -/
theorem sq_turn (h : okB R C l = true) (r c : Nat) (hr : (r : Int) < R) (hc : (c : Int) < C) : sqT C R (turnL l) c r = sqT R C l r c := by
  obtain ⟨x, hx, hi⟩ := sq_has h r c hr hc
  have hm : turnC x ∈ turnL l := (turnL_mem l _).2 ⟨x, hx, rfl⟩
  have h2 : inB (turnC x) c r = true := by
    rw [inB_is] at hi ⊢
    unfold turnC
    simp only
    omega
  rw [sqT_of (ok_turnI h) hm c r h2, sqT_of h hx r c hi]
  rfl
theorem sq_in1 {t' : Int} (h : rowInB R C l t' = true) (r c : Nat) (hr : (r : Int) < R) (hc : (c : Int) < C) (ht : t' ≤ (r : Int)) : sqT (R + 1) C (inL t' C l) ((r : Int) + 1) c = sqT R C l r c :=
  sq_in h r c hr hc (r + 1) (by rw [if_pos ht]; omega)
theorem sq_in0 {t' : Int} (h : rowInB R C l t' = true) (r c : Nat) (hr : (r : Int) < R) (hc : (c : Int) < C) (ht : ¬ t' ≤ (r : Int)) : sqT (R + 1) C (inL t' C l) r c = sqT R C l r c :=
  sq_in h r c hr hc r (by rw [if_neg ht])
theorem sq_out1 {t' : Int} (h : rowOutB R C l t' = true) (r c : Nat) (hr : (r : Int) < R - 1) (hc : (c : Int) < C) (ht : t' ≤ (r : Int)) : sqT (R - 1) C (outL t' l) r c = sqT R C l ((r : Int) + 1) c :=
  sq_out h r c hr hc (r + 1) (by rw [if_pos ht]; omega)
theorem sq_out0 {t' : Int} (h : rowOutB R C l t' = true) (r c : Nat) (hr : (r : Int) < R - 1) (hc : (c : Int) < C) (ht : ¬ t' ≤ (r : Int)) : sqT (R - 1) C (outL t' l) r c = sqT R C l r c :=
  sq_out h r c hr hc r (by rw [if_neg ht])
theorem sq_col1 {t' : Int} (h : okB R C l = true) (hi : rowInB C R (turnL l) t' = true) (r c : Nat) (hr : (r : Int) < R) (hc : (c : Int) < C) (ht : t' ≤ (c : Int)) : sqT R (C + 1) (turnL (inL t' R (turnL l))) r ((c : Int) + 1) = sqT R C l r c := by
  have h1 := sq_turn (ok_in hi) (c + 1) r (by omega) hr
  have h2 := sq_in hi c r hc hr (c + 1) (by rw [if_pos ht]; omega)
  rw [show ((c : Int) + 1) = ((c + 1 : Nat) : Int) by omega, h1, h2, sq_turn h r c hr hc]
theorem sq_col0 {t' : Int} (h : okB R C l = true) (hi : rowInB C R (turnL l) t' = true) (r c : Nat) (hr : (r : Int) < R) (hc : (c : Int) < C) (ht : ¬ t' ≤ (c : Int)) : sqT R (C + 1) (turnL (inL t' R (turnL l))) r c = sqT R C l r c := by
  have h1 := sq_turn (ok_in hi) c r (by omega) hr
  have h2 := sq_in hi c r hc hr c (by rw [if_neg ht])
  rw [h1, h2, sq_turn h r c hr hc]
end
end Go.Proofs.Ytbigbbfbikhjdaa
namespace Go.Proofs.Ytbigbbfbikhjdaa
open Go.RowKit

section
variable {R C : Int} {l : List Cl}
theorem ok_nodup (h : okB R C l = true) : l.Nodup := by
  refine List.pairwise_iff_getElem.2 ?_
  intro i k hi hk hik e
  have := okAhead h i k hik hk
  rw [getD_get hi, getD_get hk, e] at this
  omega
/-- Of two tables that are ok, and of one size, one whose cells are all of the other is the other. -/
theorem same_of_sub {l2 : List Cl} (h : okB R C l = true) (h2 : okB R C l2 = true) (hs : ∀ x ∈ l, x ∈ l2) : l = l2 := by
  have hp : l.Perm l2 := by
    refine (List.perm_ext_iff_of_nodup (ok_nodup h) (ok_nodup h2)).2 fun y => ⟨hs y, fun hy => ?_⟩
    have hc := ok_cell h2 hy
    obtain ⟨a, ha⟩ : ∃ a : Nat, y.1 = a := ⟨y.1.toNat, by omega⟩
    obtain ⟨b, hb⟩ : ∃ b : Nat, y.2.1 = b := ⟨y.2.1.toNat, by omega⟩
    obtain ⟨x, hx, hi⟩ := sq_has h a b (by omega) (by omega)
    have : x = y := one_cell h2 (hs x hx) hy a b hi (inB_is.2 (by omega))
    rw [← this]
    exact hx
  exact (sort_ok h (List.Perm.refl l)).symm.trans (sort_ok h2 hp)
theorem takenB_iff {t' c : Int} : takenB t' l c = true ↔ ∃ x ∈ l, x.1 < t' ∧ t' < x.1 + x.2.2.1 ∧ x.2.1 ≤ c ∧ c < x.2.1 + x.2.2.2.1 := by
  unfold takenB overB
  simp only [List.any_eq_true, decide_eq_true_eq]
theorem taken_not {t' c : Int} : takenB t' l c = false ↔ ∀ x ∈ l, ¬ (x.1 < t' ∧ t' < x.1 + x.2.2.1 ∧ x.2.1 ≤ c ∧ c < x.2.1 + x.2.2.2.1) := by
  rw [← Bool.not_eq_true, takenB_iff]
  constructor
  · intro h x hx hh
    exact h ⟨x, hx, hh⟩
  · rintro h ⟨x, hx, hh⟩
    exact h x hx hh
theorem inL_iff {t' : Int} {z : Cl} : z ∈ inL t' C l ↔ (∃ x ∈ l, z = inC t' x) ∨ ∃ c : Nat, (c : Int) < C ∧ takenB t' l c = false ∧ z = (t', (c : Int), 1, 1, []) := by
  unfold inL
  rw [(sortC_perm _).mem_iff]
  unfold inM newI
  rw [List.mem_append, List.mem_map, List.mem_map]
  constructor
  · rintro (⟨x, hx, rfl⟩ | ⟨c, hc, rfl⟩)
    · exact Or.inl ⟨x, hx, rfl⟩
    · rw [List.mem_filter, List.mem_range] at hc
      refine Or.inr ⟨c, by omega, ?_, rfl⟩
      have := hc.2
      simpa using this
  · rintro (⟨x, hx, rfl⟩ | ⟨c, hc, ht, rfl⟩)
    · exact Or.inl ⟨x, hx, rfl⟩
    · refine Or.inr ⟨c, ?_, rfl⟩
      rw [List.mem_filter, List.mem_range]
      exact ⟨by omega, by simp [ht]⟩
theorem inC_two {a o : Int} (hao : a ≤ o) {x : Cl} (hd : 1 ≤ x.2.2.1) : inC (o + 1) (inC a x) = inC a (inC o x) := by
  obtain ⟨r, b, d, g, t⟩ := x
  simp only at hd
  unfold inC
  simp only
  by_cases c1 : a ≤ r <;> by_cases c2 : o ≤ r <;> by_cases c3 : a < r + d <;> by_cases c4 : o < r + d <;> simp only [c1, c2, c3, c4, if_true, if_false] <;> first | omega | (repeat' split) <;> first | rfl | omega | (simp only [Prod.mk.injEq, and_true, true_and]; omega)
/-- Two rows put in, in either order. -/
theorem in_two {a o : Int} (h : rowInB R C l a = true) (hao : a ≤ o) (hoR : o ≤ R) (h5 : R + 1 < 5) : inL (o + 1) C (inL a C l) = inL a C (inL o C l) := by
  have hok := rowIn_ok h
  have h' := h
  simp only [rowInB, Bool.and_eq_true, decide_eq_true_eq] at h'
  have ho : rowInB R C l o = true := by
    simp only [rowInB, hok, Bool.true_and, Bool.and_eq_true, decide_eq_true_eq]
    omega
  have h1 : rowInB (R + 1) C (inL a C l) (o + 1) = true := by
    simp only [rowInB, ok_in h, Bool.true_and, Bool.and_eq_true, decide_eq_true_eq]
    omega
  have h2 : rowInB (R + 1) C (inL o C l) a = true := by
    simp only [rowInB, ok_in ho, Bool.true_and, Bool.and_eq_true, decide_eq_true_eq]
    omega
  refine same_of_sub (ok_in h1) (ok_in h2) ?_
  intro z hz
  rcases inL_iff.1 hz with ⟨y, hy, rfl⟩ | ⟨c, hc, ht, rfl⟩
  · rcases inL_iff.1 hy with ⟨x, hx, rfl⟩ | ⟨c, hc, ht, rfl⟩
    · rw [inC_two hao (ok_cell hok hx).1.2.2.1]
      exact inL_iff.2 (Or.inl ⟨_, inL_iff.2 (Or.inl ⟨x, hx, rfl⟩), rfl⟩)
    · refine inL_iff.2 (Or.inr ⟨c, hc, ?_, ?_⟩)
      · rw [taken_not] at ht ⊢
        intro y hy hh
        rcases inL_iff.1 hy with ⟨x, hx, rfl⟩ | ⟨c', hc', ht', rfl⟩
        · have hw := ok_cell hok hx
          refine ht x hx ?_
          obtain ⟨r, b, d, g, t⟩ := x
          unfold inC at hh
          simp only at hh hw ⊢
          by_cases c1 : o ≤ r
          · rw [if_pos c1] at hh
            simp only at hh
            omega
          · rw [if_neg c1] at hh
            by_cases c2 : o < r + d
            · rw [if_pos c2] at hh
              simp only at hh
              omega
            · rw [if_neg c2] at hh
              simp only at hh
              omega
        · simp only at hh
          omega
      · unfold inC
        simp only
        rw [if_neg (by omega), if_neg (by omega)]
  · refine inL_iff.2 (Or.inl ⟨(o, (c : Int), 1, 1, []), inL_iff.2 (Or.inr ⟨c, hc, ?_, rfl⟩), ?_⟩)
    · rw [taken_not] at ht ⊢
      intro x hx hh
      have hw := ok_cell hok hx
      refine ht _ (inL_iff.2 (Or.inl ⟨x, hx, rfl⟩)) ?_
      obtain ⟨r, b, d, g, t⟩ := x
      unfold inC
      simp only at hh hw ⊢
      by_cases c1 : a ≤ r
      · rw [if_pos c1]
        simp only
        omega
      · rw [if_neg c1, if_pos (show a < r + d by omega)]
        simp only
        omega
    · unfold inC
      simp only
      rw [if_pos (by omega)]
theorem in_two_B {a o : Int} (h : rowInB R C l a = true) (hao : a ≤ o) (hoR : o ≤ R) : rowInB R C l o = true ∧ rowInB (R + 1) C (inL a C l) (o + 1) = decide (R + 1 < 5) ∧ rowInB (R + 1) C (inL o C l) a = decide (R + 1 < 5) := by
  have hok := rowIn_ok h
  have h' := h
  simp only [rowInB, Bool.and_eq_true, decide_eq_true_eq] at h'
  have ho : rowInB R C l o = true := by
    simp only [rowInB, hok, Bool.true_and, Bool.and_eq_true, decide_eq_true_eq]
    omega
  refine ⟨ho, ?_, ?_⟩
  · simp only [rowInB, ok_in h, Bool.true_and]
    rw [decide_eq_true (show 0 ≤ o + 1 ∧ o + 1 ≤ R + 1 by omega), Bool.true_and]
  · simp only [rowInB, ok_in ho, Bool.true_and]
    rw [decide_eq_true (show 0 ≤ a ∧ a ≤ R + 1 by omega), Bool.true_and]
theorem outC_two {a o : Int} (hao : a < o) {x : Cl} (hd : 1 ≤ x.2.2.1) : outC (o - 1) (outC a x) = outC a (outC o x) := by
  obtain ⟨r, b, d, g, t⟩ := x
  simp only at hd
  unfold outC
  simp only
  by_cases c1 : a < r <;> by_cases c2 : o < r <;> by_cases c3 : a < r + d <;> by_cases c4 : o < r + d <;> simp only [c1, c2, c3, c4, if_true, if_false] <;> first | omega | (repeat' split) <;> first | rfl | omega | (simp only [Prod.mk.injEq, and_true, true_and]; omega)
theorem outC_low {a : Int} {x : Cl} (h : tallB x = false) : tallB (outC a x) = false := by
  obtain ⟨r, b, d, g, t⟩ := x
  unfold tallB at h ⊢
  simp only [decide_eq_false_iff_not] at h ⊢
  unfold outC
  simp only
  by_cases c1 : a < r
  · rw [if_pos c1]
    exact h
  · rw [if_neg c1]
    by_cases c2 : a < r + d
    · omega
    · rw [if_neg c2]
      exact h
theorem filter_low (a : Int) (M : List Cl) : ((M.filter tallB).map (outC a)).filter tallB = (M.map (outC a)).filter tallB := by
  induction M with
  | nil => rfl
  | cons x M ih =>
    cases hx : tallB x
    · rw [List.filter_cons_of_neg (by simp [hx]), List.map_cons, List.filter_cons_of_neg (by simp [outC_low hx])]
      exact ih
    · rw [List.filter_cons_of_pos hx, List.map_cons, List.map_cons, List.filter_cons, List.filter_cons, ih]
theorem out_perm (a b : Int) : (outM a (outL b l)).Perm ((l.map (outC a ∘ outC b)).filter tallB) := by
  have h1 : (outL b l).Perm ((l.map (outC b)).filter tallB) := sortC_perm _
  unfold outM
  refine ((h1.map (outC a)).filter tallB).trans ?_
  rw [filter_low, List.map_map]
/-- Two rows taken out, in either order. -/
theorem out_two {a o : Int} (h : rowOutB R C l o = true) (h0 : 0 ≤ a) (hao : a < o) (h3 : 3 ≤ R) : outL (o - 1) (outL a l) = outL a (outL o l) := by
  have hok := rowOut_ok h
  have h' := h
  simp only [rowOutB, Bool.and_eq_true, decide_eq_true_eq] at h'
  have h2 : rowOutB (R - 1) C (outL o l) a = true := by
    simp only [rowOutB, ok_out h, Bool.true_and, Bool.and_eq_true, decide_eq_true_eq]
    omega
  have e : l.map (outC (o - 1) ∘ outC a) = l.map (outC a ∘ outC o) := List.map_congr_left (fun x hx => outC_two hao (ok_cell hok hx).1.2.2.1)
  refine sort_ok (ok_out h2) ?_
  refine (out_perm (o - 1) a).trans ?_
  rw [e]
  exact (out_perm a o).symm.trans (sortC_perm _).symm
theorem out_two_B {a o : Int} (h : rowOutB R C l a = true) (hao : a < o) (hoR : o ≤ R - 1) : rowOutB R C l o = true ∧ rowOutB (R - 1) C (outL a l) (o - 1) = decide (3 ≤ R) ∧ rowOutB (R - 1) C (outL o l) a = decide (3 ≤ R) := by
  have hok := rowOut_ok h
  have h' := h
  simp only [rowOutB, Bool.and_eq_true, decide_eq_true_eq] at h'
  have ho : rowOutB R C l o = true := by
    simp only [rowOutB, hok, Bool.true_and, Bool.and_eq_true, decide_eq_true_eq]
    omega
  refine ⟨ho, ?_, ?_⟩
  · simp only [rowOutB, ok_out h, Bool.true_and]
    rw [decide_eq_true (show 0 ≤ o - 1 ∧ o - 1 ≤ R - 1 - 1 by omega), Bool.true_and, decide_eq_decide]
    omega
  · simp only [rowOutB, ok_out ho, Bool.true_and]
    rw [decide_eq_true (show 0 ≤ a ∧ a ≤ R - 1 - 1 by omega), Bool.true_and, decide_eq_decide]
    omega
end
end Go.Proofs.Ytbigbbfbikhjdaa
namespace Go.Proofs.Ytbigbbfbikhjdaa
open Go.RowKit

theorem restK_count (r c g : Nat) (hg : 1 ≤ g) : ∀ k j, j ≤ g → (restK r c g k j).length + 1 = k * g + j ∨ (k = 0 ∧ j = 0 ∧ (restK r c g k j).length = 0)
  | 0, 0, _ => Or.inr ⟨rfl, rfl, rfl⟩
  | 0, j + 1, h => by
    refine Or.inl ?_
    by_cases hj : j = 0
    · subst hj
      rw [restK_skip r c g 0 0 (by omega)]
      simp [restK]
    · rw [restK_put r c g 0 j (by omega), List.length_append]
      rcases restK_count r c g hg 0 j (by omega) with e | ⟨_, e, _⟩
      · simp only [List.length_cons, List.length_nil]
        omega
      · omega
  | k + 1, 0, h => by
    refine Or.inl ?_
    rw [← restK_row r c g k]
    rcases restK_count r c g hg k g (Nat.le_refl _) with e | ⟨_, e, _⟩
    · rw [e, Nat.succ_mul]
      omega
    · omega
  | k + 1, j + 1, h => by
    refine Or.inl ?_
    rw [restK_put r c g (k + 1) j (by omega), List.length_append]
    rcases restK_count r c g hg (k + 1) j (by omega) with e | ⟨e, _, _⟩
    · simp only [List.length_cons, List.length_nil]
      omega
    · omega
theorem restL_len (r c d g : Nat) (hd : 1 ≤ d) (hg : 1 ≤ g) : (restL r c d g).length + 1 = d * g := by
  rw [← restK_end]
  rcases restK_count r c g hg d 0 (Nat.zero_le _) with e | ⟨e, _, _⟩
  · omega
  · omega
/-- What a cell that can be split is. -/
theorem split_data {R C t' : Int} {l : List Cl} (h : splitB R C l t' = true) : ∃ (p r c d g : Nat) (tx : List Sg), t' = p ∧ p < l.length ∧ okB R C l = true ∧ l.getD p cl0 = ((r : Int), (c : Int), (d : Int), (g : Int), tx) ∧ 1 ≤ d ∧ 1 ≤ g ∧ (r : Int) + d ≤ R ∧ (c : Int) + g ≤ C ∧ 2 ≤ d * g := by
  simp only [splitB, Bool.and_eq_true, decide_eq_true_eq] at h
  obtain ⟨⟨h1, h2⟩, h3⟩ := h
  obtain ⟨p, rfl⟩ : ∃ p : Nat, t' = p := ⟨t'.toNat, by omega⟩
  have hp : p < l.length := by omega
  rw [Int.toNat_natCast] at h3
  have hw := ok_cell h1 (getD_mem hp)
  obtain ⟨r, hr⟩ : ∃ r : Nat, (l.getD p cl0).1 = r := ⟨(l.getD p cl0).1.toNat, by omega⟩
  obtain ⟨c, hc⟩ : ∃ r : Nat, (l.getD p cl0).2.1 = r := ⟨(l.getD p cl0).2.1.toNat, by omega⟩
  obtain ⟨d, hd⟩ : ∃ r : Nat, (l.getD p cl0).2.2.1 = r := ⟨(l.getD p cl0).2.2.1.toNat, by omega⟩
  obtain ⟨g, hg⟩ : ∃ r : Nat, (l.getD p cl0).2.2.2.1 = r := ⟨(l.getD p cl0).2.2.2.1.toNat, by omega⟩
  rw [hd, hg, Int.toNat_natCast, Int.toNat_natCast] at h3
  refine ⟨p, r, c, d, g, (l.getD p cl0).2.2.2.2, rfl, hp, h1, ?_, by omega, by omega, by omega, by omega, h3⟩
  rw [← hr, ← hc, ← hd, ← hg]
section
variable {R C : Int} {l : List Cl} {p r c d g : Nat} {tx : List Sg}
theorem splitL_iff (hp : p < l.length) (e : l.getD p cl0 = ((r : Int), (c : Int), (d : Int), (g : Int), tx)) {z : Cl} : z ∈ splitL l p ↔ (∃ m, m < l.length ∧ m ≠ p ∧ z = l.getD m cl0) ∨ z = ((r : Int), (c : Int), 1, 1, tx) ∨ ∃ a b, (a, b) ∈ restL r c d g ∧ z = sqC (a, b) := by
  unfold splitL
  rw [(sortC_perm _).mem_iff, splitM_nat e, List.mem_append, List.mem_map]
  have hone : oneC (l.getD p cl0) = ((r : Int), (c : Int), 1, 1, tx) := by rw [e]; rfl
  constructor
  · rintro (hz | ⟨⟨a, b⟩, hab, rfl⟩)
    · obtain ⟨m, hm, rfl⟩ := List.getElem_of_mem hz
      rw [List.length_set] at hm
      by_cases hmp : m = p
      · subst hmp
        exact Or.inr (Or.inl (by rw [List.getElem_set_self, hone]))
      · exact Or.inl ⟨m, hm, hmp, by rw [List.getElem_set_ne (Ne.symm hmp), getD_get hm]⟩
    · exact Or.inr (Or.inr ⟨a, b, hab, rfl⟩)
  · rintro (⟨m, hm, hmp, rfl⟩ | rfl | ⟨a, b, hab, rfl⟩)
    · refine Or.inl (List.mem_iff_getElem.2 ⟨m, by rw [List.length_set]; exact hm, ?_⟩)
      rw [List.getElem_set_ne (Ne.symm hmp), getD_get hm]
    · refine Or.inl (List.mem_iff_getElem.2 ⟨p, by rw [List.length_set]; exact hp, ?_⟩)
      rw [List.getElem_set_self, hone]
    · exact Or.inr ⟨(a, b), hab, rfl⟩
theorem splitL_len (e : l.getD p cl0 = ((r : Int), (c : Int), (d : Int), (g : Int), tx)) (hd : 1 ≤ d) (hg : 1 ≤ g) : (splitL l p).length + 1 = l.length + d * g := by
  unfold splitL
  rw [(sortC_perm _).length_eq, splitM_nat e, List.length_append, List.length_set, List.length_map, ← restL_len r c d g hd hg]
  omega
theorem ok_split (h : okB R C l = true) (hp : p < l.length) (e : l.getD p cl0 = ((r : Int), (c : Int), (d : Int), (g : Int), tx)) : okB R C (splitL l p) = true := by
  obtain ⟨hR, hC, _, _⟩ := gridP_of_okB h
  obtain ⟨R, rfl⟩ : ∃ z : Nat, R = z := ⟨R.toNat, by omega⟩
  obtain ⟨C, rfl⟩ : ∃ z : Nat, C = z := ⟨C.toNat, by omega⟩
  have ht := tiles_split h hp e (fillP_any C l.length R _ (by omega) (ok_small h).1 (fun s => spF_le hp s))
  refine okB_sort ht (by omega) (by omega) (ht.few (by omega) (by omega)) ?_
  intro x hx
  have hx' := (splitL_iff hp e).1 ((sortC_perm _).mem_iff.2 hx)
  rcases hx' with ⟨m, hm, _, rfl⟩ | rfl | ⟨a, b, _, rfl⟩
  · exact ok_txt h _ (getD_mem hm)
  · have := ok_txt h _ (getD_mem hp)
    rw [e] at this
    exact this
  · rfl
/-- The square that keeps the text of what was split. -/
theorem split_at (h : okB R C l = true) (hp : p < l.length) (e : l.getD p cl0 = ((r : Int), (c : Int), (d : Int), (g : Int), tx)) : ∃ k, k < (splitL l p).length ∧ atN R C (splitL l p) r c = (k : Int) ∧ (splitL l p).getD k cl0 = ((r : Int), (c : Int), 1, 1, tx) :=
  at_of (ok_split h hp e) ((splitL_iff hp e).2 (Or.inr (Or.inl rfl))) r c (inB_is.2 (by simp only; omega))
end
end Go.Proofs.Ytbigbbfbikhjdaa
namespace Go.Proofs.Ytbigbbfbikhjdaa
open Go.RowKit

set_option maxRecDepth 100000 in
set_option maxHeartbeats 4000000 in
theorem lmMany_is {R C : Int} {a : Option Addr} {n cap : Nat} {l : List Cl} {w : World} {x : Nat} (hx : manyN l = x) (h : Tab w a n cap l) (hl : l.length ≤ 30) (ht : ∀ y ∈ l, y.2.2.2.2.length ≤ 30) :
    Calls Try.prog 27 #[.agg #[.int .i64 R, .int .i64 C, .slice a n cap]] w fun e w' => e = .returned (.int .i64 x) ∧ Below w.heap.size w w' := by
  have HX : Hid (manyN l = x) := hx
  have H : Hid (Tab w a n cap l) := h
  have HT : Hid (∀ y ∈ l, y.2.2.2.2.length ≤ 30) := ht
  have hn : n ≤ 30 := by have := h.1; omega
  have HN : Hid (n = l.length) := h.1
  have hc := h.2.1
  have hm := h.2.2.1
  unfold maxLen at hm
  clear h hx ht
  go_enter Try.func27, Try.ntmps27
  go_upto_region 1 with fail
  have B0 : Below w.heap.size w (w.alloc (.cells #[.int .i64 R, .int .i64 C, .slice a n cap] 25)) := (Below.refl _ _).alloc (Nat.le_refl _) _
  have k2 : (w.alloc (.cells #[.int .i64 R, .int .i64 C, .slice a n cap] 25)).cell? ⟨w.heap.size, 2, none⟩ = some (.slice a n cap) := by simp
  have HT0 : Hid (Tab (w.alloc (.cells #[.int .i64 R, .int .i64 C, .slice a n cap] 25)) a n cap l) := H.out.below B0
  generalize (w.alloc (.cells #[.int .i64 R, .int .i64 C, .slice a n cap] 25)) = v0 at B0 k2 HT0 ⊢
  go_wp2_with fail
  go_loop [3, 4] (fun sv iv => ∃ (i s : Nat), i ≤ n ∧ iv = .int .i64 i ∧ sv = .int .i64 s ∧ s = manyN (l.take i)) (fun _ iv => n - (intOf iv).toNat)
  case atStart => exact ⟨0, 0, Nat.zero_le _, rfl, rfl, rfl⟩
  case round =>
    obtain ⟨i, s, hi, rfl, rfl, hs⟩ := hrel
    have HS : Hid (s = manyN (l.take i)) := hs
    have hsb : s ≤ 30 * 30 := by
      have h1 := manyN_le 30 (l.take i) (fun y hy => HT.out y (List.mem_of_mem_take hy))
      have h2 : (l.take i).length ≤ 30 := by rw [List.length_take]; omega
      have h3 : 30 * (l.take i).length ≤ 30 * 30 := Nat.mul_le_mul_left 30 h2
      omega
    clear hs
    by_cases hlt : i < n
    · have hil : i < l.length := by have := HN.out; omega
      have hib : (i : Int) < (n : Int) := by omega
      have hi0 : (0 : Int) ≤ (i : Int) := by omega
      rcases HT0.out.2.2.2 with e | ⟨b, off, rfl, hbv, hcl⟩
      · rw [e] at hil
        exact absurd hil (by simp)
      obtain ⟨-, -, -, -, ta, tn, tc, x4, ht4⟩ := hcl i hil
      have HTN : Hid (tn = (l.getD i cl0).2.2.2.2.length) := ht4.1
      have htn : tn ≤ 30 := by
        have := HT.out (l.getD i cl0) (getD_mem hil)
        rw [HTN.out]
        exact this
      clear hcl ht4
      go_wp2_with fail
      go_round
      case rel => exact ⟨i + 1, s + tn, by omega, by go_num, by go_num, by rw [manyN_take l i hil, HS.out, HTN.out]⟩
      case measure => simp [intOf]; omega
    · have hib : ¬ (i : Int) < (n : Int) := by omega
      go_wp2_with fail
      go_ret
      refine ⟨?_, B0⟩
      have e : s = x := by
        rw [HS.out, ← HX.out, List.take_of_length_le (by have := HN.out; omega)]
      rw [e]
      rfl
end Go.Proofs.Ytbigbbfbikhjdaa
namespace Go.Proofs.Ytbigbbfbikhjdaa
open Go.RowKit

section
variable {w0 u u' : World} {rs : List (Nat × Array Value × TypeId)} {ts : List (Option Addr × Nat × Nat × List Cl)} {a : Option Addr} {n c : Nat} {l : List Cl}
/-- A call's answer, laid into a block that is made behind the call. -/
theorem Hold.behind (h : Hold w0 rs ts u) (ht : Tab u a n c l) (Z cs : Array Value) (ty : TypeId) : Hold w0 ((u.heap.size, cs, ty) :: rs) ((a, n, c, l) :: ts) ((u.alloc (.cells Z ty)).setRow u.heap.size cs) := by
  have hb : Below u.heap.size u ((u.alloc (.cells Z ty)).setRow u.heap.size cs) := below_row ((Below.refl _ _).alloc (Nat.le_refl _) _) (Nat.le_refl _) _
  have k := (h.add ht).go hb
  refine ⟨k.1, fun r hm => ?_, k.2.2⟩
  rcases List.mem_cons.1 hm with rfl | hm
  · exact (rowAt_new u Z ty).setRow cs
  · exact k.2.1 r hm
/-- A call's answer, laid into a block that is made ahead of the call. -/
theorem Hold.ahead (h : Hold w0 rs ts u) {Z cs : Array Value} {os : List Rw} (hb : Below (u.alloc (.cells Z 25)).heap.size (u.alloc (.cells Z 25)) u') (ho : OwnT u' (u.alloc (.cells Z 25)).heap.size (.slice a n c) os l) :
    Hold w0 ((u.heap.size, cs, 25) :: rs) ((a, n, c, l) :: ts) (u'.setRow u.heap.size cs) := by
  have z : RowAt u' u.heap.size Z 25 := (rowAt_new u Z 25).below hb (by simp)
  have b2 : Below u.heap.size u u' := ((Below.refl _ _).alloc (Nat.le_refl _) _).trans (hb.mono (by simp))
  have k := h.go (below_row b2 (Nat.le_refl _) cs)
  refine ⟨k.1, fun r hm => ?_, fun t hm => ?_⟩
  · rcases List.mem_cons.1 hm with rfl | hm
    · exact z.setRow cs
    · exact k.2.1 r hm
  · rcases List.mem_cons.1 hm with rfl | hm
    · exact (ho.setRowT z _).tab
    · exact k.2.2 t hm
theorem rowOf_ahead {Z : Array Value} (hb : Below (u.alloc (.cells Z 25)).heap.size (u.alloc (.cells Z 25)) u') : RowAt u' u.heap.size Z 25 := (rowAt_new u Z 25).below hb (by simp)
end
theorem tabRes_ot {B : Nat} {ok : Bool} {X Y : Int} {L : List Cl} {z : Ending} {w' : World} (hok : ok = true) (h : TabRes B ok X Y L z w') :
    ∃ a n c os, z = .returned (.tuple #[.agg #[.int .i64 X, .int .i64 Y, .slice a n c], .bool true]) ∧ OwnT w' B (.slice a n c) os L := by
  rcases h with ⟨h2, _⟩ | ⟨_, a, c, rs, rfl, ho⟩
  · rw [hok] at h2
    cases h2
  · exact ⟨a, _, c, rs, rfl, ho⟩
theorem tabRes_of {B : Nat} {ok : Bool} {X Y : Int} {L : List Cl} {z : Ending} {w' : World} (hok : ok = false) (h : TabRes B ok X Y L z w') :
    ∃ a n c os, z = .returned (.tuple #[.agg #[.int .i64 0, .int .i64 0, .slice a n c], .bool false]) ∧ OwnT w' B (.slice a n c) os [] := by
  rcases h with ⟨_, rfl⟩ | ⟨h2, _⟩
  · exact ⟨none, 0, 0, [], rfl, OwnR.nil _ _, TxtOwn.nil _ _ _⟩
  · rw [hok] at h2
    cases h2
end Go.Proofs.Ytbigbbfbikhjdaa
namespace Go.Proofs.Ytbigbbfbikhjdaa
open Go.RowKit

set_option maxRecDepth 100000 in
set_option maxHeartbeats 8000000 in
theorem lawTabSigns_walk (a : Option Addr) (n cap : Nat) (zs : List Int) (b : Option Addr) (nb capb : Nat) (zb : List Int) (w : World) (h : Byt w.heap.size w a n cap zs) (h' : Byt w.heap.size w b nb capb zb) :
    Calls Try.prog 8 #[.slice a n cap, .slice b nb capb] w fun e w' => e = .returned (.bool true) ∧ Below w.heap.size w w' := by
  have HY : Hid (Byt w.heap.size w a n cap zs) := h
  have hc := h.2.1
  have hm := h.2.2.1
  have hc' := h'.2.1
  have hm' := h'.2.2.1
  unfold maxLen at hm hm'
  clear h h'
  by_cases hn : 1048576 < n
  · have hd : decide ((1048576 : Int) < (n : Int)) = true := by simp; omega
    go_enter Try.func8, Try.ntmps8
    go_wp2_with fail
    go_ret
    exact ⟨rfl, Below.refl _ _⟩
  have hd : decide ((1048576 : Int) < (n : Int)) = false := by simp; omega
  by_cases hn' : 1048576 < nb
  · have hd' : decide ((1048576 : Int) < (nb : Int)) = true := by simp; omega
    go_enter Try.func8, Try.ntmps8
    go_wp2_with fail
    go_ret
    exact ⟨rfl, Below.refl _ _⟩
  have hd' : decide ((1048576 : Int) < (nb : Int)) = false := by simp; omega
  go_enter Try.func8, Try.ntmps8
  go_upto_region 4 with (go_at_call 9; refine (drawTableRowIn_any w.heap.size a n cap zs _ HY.out (Nat.le_refl _)).mono ?_; rintro e w1 ⟨⟨R, C, a', n', c', l, t', rfl, hT1, hS1, hat⟩, hb1⟩)
  have H0 := Hold.first hb1 hT1 #[.int .i64 R, .int .i64 C, .slice a' n' c'] 25
  generalize (w1.alloc (.cells #[.int .i64 R, .int .i64 C, .slice a' n' c'] 25)) = v0 at H0 ⊢
  obtain ⟨Tb, hTe⟩ : ∃ T, w1.heap.size = T := ⟨_, rfl⟩
  rw [hTe] at H0 ⊢
  have HH : Hid (Hold w [(Tb, #[.int .i64 R, .int .i64 C, .slice a' n' c'], 25)] [(a', n', c', l)] v0) := H0
  obtain ⟨hRb, hCb, hLb, hXb⟩ := hS1
  have HLX : Hid (∀ z ∈ l, z.2.2.2.2.length ≤ 25) := hXb
  clear hT1 hb1 H0 hTe hXb
  obtain ⟨can, HC⟩ : ∃ o, Hid (rowInB R C l t' = o) := ⟨_, rfl⟩
  cases can
  · go_upto_region 5 with (first | (refine wpList_load_row rfl 25 (.tmp 5) rfl Tb rfl 25 #[.int .i64 R, .int .i64 C, .slice a' n' c'] (0, 0) _ (HH.out.row 0 rfl) Try.underlying25 rfl tab_info ?_) | (go_at_call 10; refine (specTableRowIn_any R C t' a' n' c' l _ (HH.out.tab 0 rfl)).mono ?_; intro e w1' hr; obtain ⟨hr1, hb⟩ := hr; obtain ⟨Wa, Wn, Wc, rfl, hT⟩ := tabRes_f HC.out hr1; clear hr1))
    have H0 := HH.out.res hb hT #[.int .i64 0, .int .i64 0, .slice Wa Wn Wc] 25
    generalize (w1'.alloc (.cells #[.int .i64 0, .int .i64 0, .slice Wa Wn Wc] 25)) = v1 at H0 ⊢
    obtain ⟨Wb, hTe⟩ : ∃ T, w1'.heap.size = T := ⟨_, rfl⟩
    rw [hTe] at H0 ⊢
    replace HH : Hid (Hold w [(Wb, #[.int .i64 0, .int .i64 0, .slice Wa Wn Wc], 25), (Tb, #[.int .i64 R, .int .i64 C, .slice a' n' c'], 25)] [(Wa, Wn, Wc, []), (a', n', c', l)] v1) := H0
    clear hT hb H0 hTe
    go_upto_region 6 with (first | (refine wpList_load_row rfl 25 (.tmp 7) rfl Wb rfl 25 #[.int .i64 0, .int .i64 0, .slice Wa Wn Wc] (0, 0) _ (HH.out.row 0 rfl) Try.underlying25 rfl tab_info ?_) | (refine wpList_load_row rfl 25 (.tmp 5) rfl Tb rfl 25 #[.int .i64 R, .int .i64 C, .slice a' n' c'] (0, 0) _ (HH.out.row 1 rfl) Try.underlying25 rfl tab_info ?_) | (go_at_call 11; refine (implTableRowIn_any R C t' a' n' c' l _ (HH.out.tab 1 rfl)).mono ?_; intro e w2' hr; obtain ⟨hr1, hb⟩ := hr; obtain ⟨Xa, Xn, Xc, rfl, hT⟩ := tabRes_f HC.out hr1; clear hr1))
    have H0 := HH.out.res hb hT #[.int .i64 0, .int .i64 0, .slice Xa Xn Xc] 25
    generalize (w2'.alloc (.cells #[.int .i64 0, .int .i64 0, .slice Xa Xn Xc] 25)) = v2 at H0 ⊢
    obtain ⟨Xb, hTe⟩ : ∃ T, w2'.heap.size = T := ⟨_, rfl⟩
    rw [hTe] at H0 ⊢
    replace HH : Hid (Hold w [(Xb, #[.int .i64 0, .int .i64 0, .slice Xa Xn Xc], 25), (Wb, #[.int .i64 0, .int .i64 0, .slice Wa Wn Wc], 25), (Tb, #[.int .i64 R, .int .i64 C, .slice a' n' c'], 25)] [(Xa, Xn, Xc, []), (Wa, Wn, Wc, []), (a', n', c', l)] v2) := H0
    clear hT hb H0 hTe
    go_wp2_with (first | (refine wpList_load_rowG (by rfl) 25 (.tmp 9) rfl Xb rfl 25 #[.int .i64 0, .int .i64 0, .slice Xa Xn Xc] (0, 0) _ (HH.out.row 0 rfl) Try.underlying25 rfl tab_info ?_) | (refine wpList_load_rowG (by rfl) 25 (.tmp 7) rfl Wb rfl 25 #[.int .i64 0, .int .i64 0, .slice Wa Wn Wc] (0, 0) _ (HH.out.row 1 rfl) Try.underlying25 rfl tab_info ?_) | (refine wpList_load_rowG (by rfl) 25 (.tmp 5) rfl Tb rfl 25 #[.int .i64 R, .int .i64 C, .slice a' n' c'] (0, 0) _ (HH.out.row 2 rfl) Try.underlying25 rfl tab_info ?_) | (go_at_call 12; refine (lmTable_same (0) (0) Xa Xn Xc [] Wa Wn Wc _ (HH.out.tab 0 rfl) (HH.out.tab 1 rfl)).mono ?_; rintro e uu ⟨rfl, hb⟩; replace HH : Hid (Hold w [(Xb, #[.int .i64 0, .int .i64 0, .slice Xa Xn Xc], 25), (Wb, #[.int .i64 0, .int .i64 0, .slice Wa Wn Wc], 25), (Tb, #[.int .i64 R, .int .i64 C, .slice a' n' c'], 25)] [(Xa, Xn, Xc, []), (Wa, Wn, Wc, []), (a', n', c', l)] uu) := HH.out.go hb; clear hb))
    go_ret
    exact ⟨rfl, HH.out.1⟩
  · have HOK : Hid (okB R C l = true) := rowIn_ok HC.out
    obtain ⟨hR1, hC1, -, -⟩ := gridP_of_okB HOK.out
    obtain ⟨m, HM⟩ : ∃ m, Hid (manyN l = m) := ⟨_, rfl⟩
    have hm9 : m ≤ 900 := by
      have h1 := manyN_le 25 l HLX.out
      have h2 : 25 * l.length ≤ 25 * 26 := Nat.mul_le_mul_left 25 hLb
      have h3 := HM.out
      omega
    have hl30 : l.length ≤ 30 := by omega
    have HLT : Hid (∀ y ∈ l, y.2.2.2.2.length ≤ 30) := fun y hy => by have := HLX.out y hy; omega
    go_upto_region 5 with (first | (refine wpList_load_row rfl 25 (.tmp 5) rfl Tb rfl 25 #[.int .i64 R, .int .i64 C, .slice a' n' c'] (0, 0) _ (HH.out.row 0 rfl) Try.underlying25 rfl tab_info ?_) | (go_at_call 10; refine (specTableRowIn_any R C t' a' n' c' l _ (HH.out.tab 0 rfl)).mono ?_; intro e w1' hr; obtain ⟨hr1, hb⟩ := hr; obtain ⟨Wa, Wn, Wc, rfl, hT⟩ := tabRes_t HC.out hr1; clear hr1))
    have H0 := HH.out.res hb hT #[.int .i64 (R + 1), .int .i64 C, .slice Wa Wn Wc] 25
    generalize (w1'.alloc (.cells #[.int .i64 (R + 1), .int .i64 C, .slice Wa Wn Wc] 25)) = v1 at H0 ⊢
    obtain ⟨Wb, hTe⟩ : ∃ T, w1'.heap.size = T := ⟨_, rfl⟩
    rw [hTe] at H0 ⊢
    replace HH : Hid (Hold w [(Wb, #[.int .i64 (R + 1), .int .i64 C, .slice Wa Wn Wc], 25), (Tb, #[.int .i64 R, .int .i64 C, .slice a' n' c'], 25)] [(Wa, Wn, Wc, (inL t' C l)), (a', n', c', l)] v1) := H0
    clear hT hb H0 hTe
    go_upto_region 6 with (first | (refine wpList_load_row rfl 25 (.tmp 7) rfl Wb rfl 25 #[.int .i64 (R + 1), .int .i64 C, .slice Wa Wn Wc] (0, 0) _ (HH.out.row 0 rfl) Try.underlying25 rfl tab_info ?_) | (refine wpList_load_row rfl 25 (.tmp 5) rfl Tb rfl 25 #[.int .i64 R, .int .i64 C, .slice a' n' c'] (0, 0) _ (HH.out.row 1 rfl) Try.underlying25 rfl tab_info ?_) | (go_at_call 11; refine (implTableRowIn_any R C t' a' n' c' l _ (HH.out.tab 1 rfl)).mono ?_; intro e w2' hr; obtain ⟨hr1, hb⟩ := hr; obtain ⟨Xa, Xn, Xc, rfl, hT⟩ := tabRes_t HC.out hr1; clear hr1))
    have H0 := HH.out.res hb hT #[.int .i64 (R + 1), .int .i64 C, .slice Xa Xn Xc] 25
    generalize (w2'.alloc (.cells #[.int .i64 (R + 1), .int .i64 C, .slice Xa Xn Xc] 25)) = v2 at H0 ⊢
    obtain ⟨Xb, hTe⟩ : ∃ T, w2'.heap.size = T := ⟨_, rfl⟩
    rw [hTe] at H0 ⊢
    replace HH : Hid (Hold w [(Xb, #[.int .i64 (R + 1), .int .i64 C, .slice Xa Xn Xc], 25), (Wb, #[.int .i64 (R + 1), .int .i64 C, .slice Wa Wn Wc], 25), (Tb, #[.int .i64 R, .int .i64 C, .slice a' n' c'], 25)] [(Xa, Xn, Xc, (inL t' C l)), (Wa, Wn, Wc, (inL t' C l)), (a', n', c', l)] v2) := H0
    clear hT hb H0 hTe
    have hnl : 0 < l.length := by
      obtain ⟨x, hx, -⟩ := sq_has HOK.out 0 0 (by omega) (by omega)
      exact List.length_pos_of_mem hx
    have hn0 : (n' : Int) ≠ 0 := by have := (HH.out.tab 2 rfl).1; omega
    have hnp : (0 : Int) < (n' : Int) := by omega
    have hnN : ¬ n' = 0 := by omega
    have e1 : 0 ≤ (nb : Int) % (n' : Int) := Int.emod_nonneg _ hn0
    have e2 : (nb : Int) % (n' : Int) < (n' : Int) := Int.emod_lt_of_pos _ hnp
    have hR0 : R ≠ 0 := by omega
    have f1 : 0 ≤ (nb : Int) % R := Int.emod_nonneg _ hR0
    have f2 : (nb : Int) % R < R := Int.emod_lt_of_pos _ (by omega)
    have hn26 : n' ≤ 26 := by have := (HH.out.tab 2 rfl).1; omega
    go_upto_region 8 with (first | (refine wpList_load_rowG (by rfl) 25 (.tmp 9) rfl Xb rfl 25 #[.int .i64 (R + 1), .int .i64 C, .slice Xa Xn Xc] (0, 0) _ (HH.out.row 0 rfl) Try.underlying25 rfl tab_info ?_) | (refine wpList_load_rowG (by rfl) 25 (.tmp 7) rfl Wb rfl 25 #[.int .i64 (R + 1), .int .i64 C, .slice Wa Wn Wc] (0, 0) _ (HH.out.row 1 rfl) Try.underlying25 rfl tab_info ?_) | (refine wpList_load_rowG (by rfl) 25 (.tmp 5) rfl Tb rfl 25 #[.int .i64 R, .int .i64 C, .slice a' n' c'] (0, 0) _ (HH.out.row 2 rfl) Try.underlying25 rfl tab_info ?_) | (go_at_call 12; refine (lmTable_same (R + 1) (C) Xa Xn Xc (inL t' C l) Wa Wn Wc _ (HH.out.tab 0 rfl) (HH.out.tab 1 rfl)).mono ?_; rintro e uu ⟨rfl, hb⟩; replace HH : Hid (Hold w [(Xb, #[.int .i64 (R + 1), .int .i64 C, .slice Xa Xn Xc], 25), (Wb, #[.int .i64 (R + 1), .int .i64 C, .slice Wa Wn Wc], 25), (Tb, #[.int .i64 R, .int .i64 C, .slice a' n' c'], 25)] [(Xa, Xn, Xc, (inL t' C l)), (Wa, Wn, Wc, (inL t' C l)), (a', n', c', l)] uu) := HH.out.go hb; clear hb))
    obtain ⟨spl, HSP⟩ : ∃ o, Hid (splitB R C l ((nb : Int) % (n' : Int)) = o) := ⟨_, rfl⟩
    obtain ⟨can, HCN⟩ : ∃ o, Hid (rowOutB R C l ((nb : Int) % R) = o) := ⟨_, rfl⟩
    cases spl
    · go_cut [11, 12] (fun yv bv wx => ∃ (Yb : Nat) (Ya : Option Addr) (Yn Yc : Nat), yv = .pointer (some ⟨Yb, 0, none⟩) ∧ bv = .bool false ∧ Hold w [(Yb, #[.int .i64 0, .int .i64 0, .slice Ya Yn Yc], 25), (Xb, #[.int .i64 (R + 1), .int .i64 C, .slice Xa Xn Xc], 25), (Wb, #[.int .i64 (R + 1), .int .i64 C, .slice Wa Wn Wc], 25), (Tb, #[.int .i64 R, .int .i64 C, .slice a' n' c'], 25)] [(Ya, Yn, Yc, []), (Xa, Xn, Xc, (inL t' C l)), (Wa, Wn, Wc, (inL t' C l)), (a', n', c', l)] wx)
      case first =>
        refine wp_region_noPanic ?_
        refine wp_region_held_drew (S := fun w' => Hold w [(Xb, #[.int .i64 (R + 1), .int .i64 C, .slice Xa Xn Xc], 25), (Wb, #[.int .i64 (R + 1), .int .i64 C, .slice Wa Wn Wc], 25), (Tb, #[.int .i64 R, .int .i64 C, .slice a' n' c'], 25)] [(Xa, Xn, Xc, (inL t' C l)), (Wa, Wn, Wc, (inL t' C l)), (a', n', c', l)] w') (by kernel_rfl) HH.out.drew (fun hHeld => ?_)
        refine take_at 0 62 (.agg #[.int .i64 R, .int .i64 C, .slice a' n' c']) rfl rfl (by kernel_rfl) (by kernel_rfl) (by kernel_rfl) (fun _ _ _ h => h) (yieldsIf_load_row (by kernel_rfl) 25 (.tmp 5) rfl Tb rfl 25 #[.int .i64 R, .int .i64 C, .slice a' n' c'] (0, 0) _ (fun w' h => h.row 2 rfl) Try.underlying25 rfl tab_info) hHeld ?_
        (try simp only [Act.put, List.setIfInBounds_toArray, List.set_cons_zero, List.set_cons_succ])
        refine take_at 1 63 (.slice b nb capb) rfl rfl (by kernel_rfl) (by kernel_rfl) (by kernel_rfl) (fun _ _ _ h => h) (Or.inl ⟨by kernel_rfl, fun w' hS' => by go_simp⟩) hHeld ?_
        (try simp only [Act.put, List.setIfInBounds_toArray, List.set_cons_zero, List.set_cons_succ])
        refine take_at 2 64 (.int .i64 nb) rfl rfl (by kernel_rfl) (by kernel_rfl) (by kernel_rfl) (fun _ _ _ h => h) (Or.inl ⟨by kernel_rfl, fun w' hS' => by go_simp⟩) hHeld ?_
        (try simp only [Act.put, List.setIfInBounds_toArray, List.set_cons_zero, List.set_cons_succ])
        refine take_at 3 65 (.pointer (some ⟨Tb, 2, none⟩)) rfl rfl (by kernel_rfl) (by kernel_rfl) (by kernel_rfl) (fun _ _ _ h => h) (Or.inl ⟨by kernel_rfl, fun w' hS' => by go_simp⟩) hHeld ?_
        (try simp only [Act.put, List.setIfInBounds_toArray, List.set_cons_zero, List.set_cons_succ])
        refine take_at 4 66 (.slice a' n' c') rfl rfl (by kernel_rfl) (by kernel_rfl) (by kernel_rfl) (fun _ _ _ h => h) (Or.inl ⟨by kernel_rfl, fun w' hS' => by have hc := RowAt.cell (hS'.row 2 rfl) 2; go_simp⟩) hHeld ?_
        (try simp only [Act.put, List.setIfInBounds_toArray, List.set_cons_zero, List.set_cons_succ])
        refine take_at 5 67 (.int .i64 n') rfl rfl (by kernel_rfl) (by kernel_rfl) (by kernel_rfl) (fun _ _ _ h => h) (Or.inl ⟨by kernel_rfl, fun w' hS' => by go_simp⟩) hHeld ?_
        (try simp only [Act.put, List.setIfInBounds_toArray, List.set_cons_zero, List.set_cons_succ])
        refine take_at 6 68 (.int .i64 ((nb : Int) % (n' : Int))) rfl rfl (by kernel_rfl) (by kernel_rfl) (by kernel_rfl) (fun _ _ _ h => h) (Or.inl ⟨by kernel_rfl, fun w' hS' => by go_simp <;> exact Int.tmod_eq_emod_of_nonneg (by omega)⟩) hHeld ?_
        (try simp only [Act.put, List.setIfInBounds_toArray, List.set_cons_zero, List.set_cons_succ])
        generalize uu.drew = u0 at hHeld ⊢
        refine wpAnyH_ready (rs := [7, 11]) (by kernel_rfl) (by simp) ?_
        refine AllReadyH.cons rfl (fun K hK => ?_) (AllReadyH.cons rfl (fun K hK => ?_) AllReadyH.nil)
        · go_simp
          go_at_call 26
          refine (implTableSplit_any R C ((nb : Int) % (n' : Int)) a' n' c' l _ (hHeld.tab 2 rfl)).mono ?_
          intro e u1 hr
          obtain ⟨hr1, hb⟩ := hr
          obtain ⟨Ya, Yn, Yc, rfl, hT⟩ := tabRes_f HSP.out hr1
          clear hr1
          have HB1 := (hHeld.go hb).behind hT #[.int .i64 0, .int .i64 0, .slice none 0 0] #[.int .i64 0, .int .i64 0, .slice Ya Yn Yc] 25
          clear hT
          go_wp2_with fail
          refine hK.out _ _ (hHeld.go hb) (fun hHeld => ?_)
          clear hK K hb
          (try simp only [Act.put, List.setIfInBounds_toArray, List.set_cons_zero, List.set_cons_succ])
          refine take_at 8 61 (.tuple #[.agg #[.int .i64 0, .int .i64 0, .slice Ya Yn Yc], .bool false]) rfl rfl (by kernel_rfl) (by kernel_rfl) (by kernel_rfl) (fun _ _ _ h => h) (Or.inl ⟨by kernel_rfl, fun w' hS' => by go_simp⟩) hHeld ?_
          (try simp only [Act.put, List.setIfInBounds_toArray, List.set_cons_zero, List.set_cons_succ])
          refine take_at 9 70 (.agg #[.int .i64 0, .int .i64 0, .slice Ya Yn Yc]) rfl rfl (by kernel_rfl) (by kernel_rfl) (by kernel_rfl) (fun _ _ _ h => h) (Or.inl ⟨by kernel_rfl, fun w' hS' => by go_simp⟩) hHeld ?_
          (try simp only [Act.put, List.setIfInBounds_toArray, List.set_cons_zero, List.set_cons_succ])
          refine take_at 10 71 (.bool false) rfl rfl (by kernel_rfl) (by kernel_rfl) (by kernel_rfl) (fun _ _ _ h => h) (Or.inl ⟨by kernel_rfl, fun w' hS' => by go_simp⟩) hHeld ?_
          (try simp only [Act.put, List.setIfInBounds_toArray, List.set_cons_zero, List.set_cons_succ])
          refine wpAnyH_ready (rs := [11]) (by kernel_rfl) (by simp) ?_
          refine AllReadyH.cons rfl (fun K hK => ?_) AllReadyH.nil
          go_simp
          refine hK.out _ _ (hHeld.go ((Below.refl _ _).alloc (Nat.le_refl _) _)) (fun hHeld => ?_)
          clear hK K
          (try simp only [Act.put, List.setIfInBounds_toArray, List.set_cons_zero, List.set_cons_succ])
          refine wpAnyH_ready (rs := [12]) (by kernel_rfl) (by simp) ?_
          refine AllReadyH.cons rfl (fun K hK => ?_) AllReadyH.nil
          rw [if_pos (by kernel_rfl)]
          refine wp_store_row 25 (.tmp 11) (.tmp 70) rfl u1.heap.size #[.int .i64 0, .int .i64 0, .slice Ya Yn Yc] rfl rfl 25 _ (rowAt_new u1 #[.int .i64 0, .int .i64 0, .slice none 0 0] 25) tab_info rfl (cells3_one _ _ _ _ _) ?_
          have HF : Hid (Hold w [(u1.heap.size, #[.int .i64 0, .int .i64 0, .slice Ya Yn Yc], 25), (Xb, #[.int .i64 (R + 1), .int .i64 C, .slice Xa Xn Xc], 25), (Wb, #[.int .i64 (R + 1), .int .i64 C, .slice Wa Wn Wc], 25), (Tb, #[.int .i64 R, .int .i64 C, .slice a' n' c'], 25)] [(Ya, Yn, Yc, []), (Xa, Xn, Xc, (inL t' C l)), (Wa, Wn, Wc, (inL t' C l)), (a', n', c', l)] ((u1.alloc (.cells #[.int .i64 0, .int .i64 0, .slice none 0 0] 25)).setRow u1.heap.size #[.int .i64 0, .int .i64 0, .slice Ya Yn Yc])) := HB1
          refine hK.out _ _ ⟨HF.out.1, fun r hr => HF.out.2.1 r (List.mem_cons_of_mem _ hr), fun t ht => HF.out.2.2 t (List.mem_cons_of_mem _ ht)⟩ (fun hHeld => ?_)
          clear hK K
          simp only [Act.put]
          refine take_at 13 12 (.bool false) rfl rfl (by kernel_rfl) (by kernel_rfl) (by kernel_rfl) (fun _ _ _ h => h) (Or.inl ⟨by kernel_rfl, fun w' hS' => by go_simp⟩) hHeld ?_
          (try simp only [Act.put, List.setIfInBounds_toArray])
          refine wpAnyH_done (by kernel_rfl) ?_ _
          refine NoPanic.normal ?_
          go_wp2_with fail
          go_meet
          exact ⟨_, Ya, Yn, Yc, rfl, rfl, HF.out⟩
        · go_simp
          have HA0 := hHeld
          refine hK.out _ _ (hHeld.go ((Below.refl _ _).alloc (Nat.le_refl _) _)) (fun hHeld => ?_)
          clear hK K
          (try simp only [Act.put, List.setIfInBounds_toArray, List.set_cons_zero, List.set_cons_succ])
          refine wpAnyH_ready (rs := [7]) (by kernel_rfl) (by simp) ?_
          refine AllReadyH.cons rfl (fun K hK => ?_) AllReadyH.nil
          go_simp
          go_at_call 26
          refine (implTableSplit_any R C ((nb : Int) % (n' : Int)) a' n' c' l _ (hHeld.tab 2 rfl)).mono ?_
          intro e u1 hr
          obtain ⟨hr1, hb⟩ := hr
          obtain ⟨Ya, Yn, Yc, os, rfl, hO⟩ := tabRes_of HSP.out hr1
          clear hr1
          have HB1 := HA0.ahead (cs := #[.int .i64 0, .int .i64 0, .slice Ya Yn Yc]) hb hO
          have HR1 := rowOf_ahead hb
          go_wp2_with fail
          refine hK.out _ _ (hHeld.go hb) (fun hHeld => ?_)
          clear hK K hb hO
          (try simp only [Act.put, List.setIfInBounds_toArray, List.set_cons_zero, List.set_cons_succ])
          refine take_at 8 61 (.tuple #[.agg #[.int .i64 0, .int .i64 0, .slice Ya Yn Yc], .bool false]) rfl rfl (by kernel_rfl) (by kernel_rfl) (by kernel_rfl) (fun _ _ _ h => h) (Or.inl ⟨by kernel_rfl, fun w' hS' => by go_simp⟩) hHeld ?_
          (try simp only [Act.put, List.setIfInBounds_toArray, List.set_cons_zero, List.set_cons_succ])
          refine take_at 9 70 (.agg #[.int .i64 0, .int .i64 0, .slice Ya Yn Yc]) rfl rfl (by kernel_rfl) (by kernel_rfl) (by kernel_rfl) (fun _ _ _ h => h) (Or.inl ⟨by kernel_rfl, fun w' hS' => by go_simp⟩) hHeld ?_
          (try simp only [Act.put, List.setIfInBounds_toArray, List.set_cons_zero, List.set_cons_succ])
          refine take_at 10 71 (.bool false) rfl rfl (by kernel_rfl) (by kernel_rfl) (by kernel_rfl) (fun _ _ _ h => h) (Or.inl ⟨by kernel_rfl, fun w' hS' => by go_simp⟩) hHeld ?_
          (try simp only [Act.put, List.setIfInBounds_toArray, List.set_cons_zero, List.set_cons_succ])
          refine wpAnyH_ready (rs := [12]) (by kernel_rfl) (by simp) ?_
          refine AllReadyH.cons rfl (fun K hK => ?_) AllReadyH.nil
          rw [if_pos (by kernel_rfl)]
          refine wp_store_row 25 (.tmp 11) (.tmp 70) rfl u0.heap.size #[.int .i64 0, .int .i64 0, .slice Ya Yn Yc] rfl rfl 25 _ HR1 tab_info rfl (cells3_one _ _ _ _ _) ?_
          have HF : Hid (Hold w [(u0.heap.size, #[.int .i64 0, .int .i64 0, .slice Ya Yn Yc], 25), (Xb, #[.int .i64 (R + 1), .int .i64 C, .slice Xa Xn Xc], 25), (Wb, #[.int .i64 (R + 1), .int .i64 C, .slice Wa Wn Wc], 25), (Tb, #[.int .i64 R, .int .i64 C, .slice a' n' c'], 25)] [(Ya, Yn, Yc, []), (Xa, Xn, Xc, (inL t' C l)), (Wa, Wn, Wc, (inL t' C l)), (a', n', c', l)] (u1.setRow u0.heap.size #[.int .i64 0, .int .i64 0, .slice Ya Yn Yc])) := HB1
          refine hK.out _ _ ⟨HF.out.1, fun r hr => HF.out.2.1 r (List.mem_cons_of_mem _ hr), fun t ht => HF.out.2.2 t (List.mem_cons_of_mem _ ht)⟩ (fun hHeld => ?_)
          clear hK K
          simp only [Act.put]
          refine take_at 13 12 (.bool false) rfl rfl (by kernel_rfl) (by kernel_rfl) (by kernel_rfl) (fun _ _ _ h => h) (Or.inl ⟨by kernel_rfl, fun w' hS' => by go_simp⟩) hHeld ?_
          (try simp only [Act.put, List.setIfInBounds_toArray])
          refine wpAnyH_done (by kernel_rfl) ?_ _
          refine NoPanic.normal ?_
          go_wp2_with fail
          go_meet
          exact ⟨_, Ya, Yn, Yc, rfl, rfl, HF.out⟩
      case rest =>
        clear HH
        obtain ⟨Yb, Ya, Yn, Yc, rfl, rfl, hh⟩ := hcut
        have HH : Hid (Hold w [(Yb, #[.int .i64 0, .int .i64 0, .slice Ya Yn Yc], 25), (Xb, #[.int .i64 (R + 1), .int .i64 C, .slice Xa Xn Xc], 25), (Wb, #[.int .i64 (R + 1), .int .i64 C, .slice Wa Wn Wc], 25), (Tb, #[.int .i64 R, .int .i64 C, .slice a' n' c'], 25)] [(Ya, Yn, Yc, []), (Xa, Xn, Xc, (inL t' C l)), (Wa, Wn, Wc, (inL t' C l)), (a', n', c', l)] wc) := hh
        clear hh
        go_upto_region 9 with fail
        cases can
        · go_cut [13, 14] (fun yv bv wx => ∃ (Ob : Nat) (Oa : Option Addr) (On Oc : Nat), yv = .pointer (some ⟨Ob, 0, none⟩) ∧ bv = .bool false ∧ Hold w [(Ob, #[.int .i64 0, .int .i64 0, .slice Oa On Oc], 25), (Yb, #[.int .i64 0, .int .i64 0, .slice Ya Yn Yc], 25), (Xb, #[.int .i64 (R + 1), .int .i64 C, .slice Xa Xn Xc], 25), (Wb, #[.int .i64 (R + 1), .int .i64 C, .slice Wa Wn Wc], 25), (Tb, #[.int .i64 R, .int .i64 C, .slice a' n' c'], 25)] [(Oa, On, Oc, []), (Ya, Yn, Yc, []), (Xa, Xn, Xc, (inL t' C l)), (Wa, Wn, Wc, (inL t' C l)), (a', n', c', l)] wx)
          case first =>
            refine wp_region_noPanic ?_
            refine wp_region_held_drew (S := fun w' => Hold w [(Yb, #[.int .i64 0, .int .i64 0, .slice Ya Yn Yc], 25), (Xb, #[.int .i64 (R + 1), .int .i64 C, .slice Xa Xn Xc], 25), (Wb, #[.int .i64 (R + 1), .int .i64 C, .slice Wa Wn Wc], 25), (Tb, #[.int .i64 R, .int .i64 C, .slice a' n' c'], 25)] [(Ya, Yn, Yc, []), (Xa, Xn, Xc, (inL t' C l)), (Wa, Wn, Wc, (inL t' C l)), (a', n', c', l)] w') (by kernel_rfl) HH.out.drew (fun hHeld => ?_)
            refine take_at 0 73 (.agg #[.int .i64 R, .int .i64 C, .slice a' n' c']) rfl rfl (by kernel_rfl) (by kernel_rfl) (by kernel_rfl) (fun _ _ _ h => h) (yieldsIf_load_row (by kernel_rfl) 25 (.tmp 5) rfl Tb rfl 25 #[.int .i64 R, .int .i64 C, .slice a' n' c'] (0, 0) _ (fun w' h => h.row 3 rfl) Try.underlying25 rfl tab_info) hHeld ?_
            (try simp only [Act.put, List.setIfInBounds_toArray, List.set_cons_zero, List.set_cons_succ])
            refine take_at 1 74 (.slice b nb capb) rfl rfl (by kernel_rfl) (by kernel_rfl) (by kernel_rfl) (fun _ _ _ h => h) (Or.inl ⟨by kernel_rfl, fun w' hS' => by go_simp⟩) hHeld ?_
            (try simp only [Act.put, List.setIfInBounds_toArray, List.set_cons_zero, List.set_cons_succ])
            refine take_at 2 75 (.int .i64 nb) rfl rfl (by kernel_rfl) (by kernel_rfl) (by kernel_rfl) (fun _ _ _ h => h) (Or.inl ⟨by kernel_rfl, fun w' hS' => by go_simp⟩) hHeld ?_
            (try simp only [Act.put, List.setIfInBounds_toArray, List.set_cons_zero, List.set_cons_succ])
            refine take_at 3 76 (.pointer (some ⟨Tb, 0, none⟩)) rfl rfl (by kernel_rfl) (by kernel_rfl) (by kernel_rfl) (fun _ _ _ h => h) (Or.inl ⟨by kernel_rfl, fun w' hS' => by go_simp⟩) hHeld ?_
            (try simp only [Act.put, List.setIfInBounds_toArray, List.set_cons_zero, List.set_cons_succ])
            refine take_at 4 77 (.int .i64 R) rfl rfl (by kernel_rfl) (by kernel_rfl) (by kernel_rfl) (fun _ _ _ h => h) (Or.inl ⟨by kernel_rfl, fun w' hS' => by have hc := RowAt.cell (hS'.row 3 rfl) 0; go_simp⟩) hHeld ?_
            (try simp only [Act.put, List.setIfInBounds_toArray, List.set_cons_zero, List.set_cons_succ])
            refine take_at 5 78 (.int .i64 ((nb : Int) % R)) rfl rfl (by kernel_rfl) (by kernel_rfl) (by kernel_rfl) (fun _ _ _ h => h) (Or.inl ⟨by kernel_rfl, fun w' hS' => by go_simp <;> exact Int.tmod_eq_emod_of_nonneg (by omega)⟩) hHeld ?_
            (try simp only [Act.put, List.setIfInBounds_toArray, List.set_cons_zero, List.set_cons_succ])
            generalize wc.drew = u0 at hHeld ⊢
            refine wpAnyH_ready (rs := [6, 10]) (by kernel_rfl) (by simp) ?_
            refine AllReadyH.cons rfl (fun K hK => ?_) (AllReadyH.cons rfl (fun K hK => ?_) AllReadyH.nil)
            · go_simp
              go_at_call 13
              refine (implTableRowOut_any R C ((nb : Int) % R) a' n' c' l _ (hHeld.tab 3 rfl)).mono ?_
              intro e u1 hr
              obtain ⟨hr1, hb⟩ := hr
              obtain ⟨Oa, On, Oc, rfl, hT⟩ := tabRes_f HCN.out hr1
              clear hr1
              have HB1 := (hHeld.go hb).behind hT #[.int .i64 0, .int .i64 0, .slice none 0 0] #[.int .i64 0, .int .i64 0, .slice Oa On Oc] 25
              clear hT
              go_wp2_with fail
              refine hK.out _ _ (hHeld.go hb) (fun hHeld => ?_)
              clear hK K hb
              (try simp only [Act.put, List.setIfInBounds_toArray, List.set_cons_zero, List.set_cons_succ])
              refine take_at 7 72 (.tuple #[.agg #[.int .i64 0, .int .i64 0, .slice Oa On Oc], .bool false]) rfl rfl (by kernel_rfl) (by kernel_rfl) (by kernel_rfl) (fun _ _ _ h => h) (Or.inl ⟨by kernel_rfl, fun w' hS' => by go_simp⟩) hHeld ?_
              (try simp only [Act.put, List.setIfInBounds_toArray, List.set_cons_zero, List.set_cons_succ])
              refine take_at 8 80 (.agg #[.int .i64 0, .int .i64 0, .slice Oa On Oc]) rfl rfl (by kernel_rfl) (by kernel_rfl) (by kernel_rfl) (fun _ _ _ h => h) (Or.inl ⟨by kernel_rfl, fun w' hS' => by go_simp⟩) hHeld ?_
              (try simp only [Act.put, List.setIfInBounds_toArray, List.set_cons_zero, List.set_cons_succ])
              refine take_at 9 81 (.bool false) rfl rfl (by kernel_rfl) (by kernel_rfl) (by kernel_rfl) (fun _ _ _ h => h) (Or.inl ⟨by kernel_rfl, fun w' hS' => by go_simp⟩) hHeld ?_
              (try simp only [Act.put, List.setIfInBounds_toArray, List.set_cons_zero, List.set_cons_succ])
              refine wpAnyH_ready (rs := [10]) (by kernel_rfl) (by simp) ?_
              refine AllReadyH.cons rfl (fun K hK => ?_) AllReadyH.nil
              go_simp
              refine hK.out _ _ (hHeld.go ((Below.refl _ _).alloc (Nat.le_refl _) _)) (fun hHeld => ?_)
              clear hK K
              (try simp only [Act.put, List.setIfInBounds_toArray, List.set_cons_zero, List.set_cons_succ])
              refine wpAnyH_ready (rs := [11]) (by kernel_rfl) (by simp) ?_
              refine AllReadyH.cons rfl (fun K hK => ?_) AllReadyH.nil
              rw [if_pos (by kernel_rfl)]
              refine wp_store_row 25 (.tmp 13) (.tmp 80) rfl u1.heap.size #[.int .i64 0, .int .i64 0, .slice Oa On Oc] rfl rfl 25 _ (rowAt_new u1 #[.int .i64 0, .int .i64 0, .slice none 0 0] 25) tab_info rfl (cells3_one _ _ _ _ _) ?_
              have HF : Hid (Hold w [(u1.heap.size, #[.int .i64 0, .int .i64 0, .slice Oa On Oc], 25), (Yb, #[.int .i64 0, .int .i64 0, .slice Ya Yn Yc], 25), (Xb, #[.int .i64 (R + 1), .int .i64 C, .slice Xa Xn Xc], 25), (Wb, #[.int .i64 (R + 1), .int .i64 C, .slice Wa Wn Wc], 25), (Tb, #[.int .i64 R, .int .i64 C, .slice a' n' c'], 25)] [(Oa, On, Oc, []), (Ya, Yn, Yc, []), (Xa, Xn, Xc, (inL t' C l)), (Wa, Wn, Wc, (inL t' C l)), (a', n', c', l)] ((u1.alloc (.cells #[.int .i64 0, .int .i64 0, .slice none 0 0] 25)).setRow u1.heap.size #[.int .i64 0, .int .i64 0, .slice Oa On Oc])) := HB1
              refine hK.out _ _ ⟨HF.out.1, fun r hr => HF.out.2.1 r (List.mem_cons_of_mem _ hr), fun t ht => HF.out.2.2 t (List.mem_cons_of_mem _ ht)⟩ (fun hHeld => ?_)
              clear hK K
              simp only [Act.put]
              refine take_at 12 14 (.bool false) rfl rfl (by kernel_rfl) (by kernel_rfl) (by kernel_rfl) (fun _ _ _ h => h) (Or.inl ⟨by kernel_rfl, fun w' hS' => by go_simp⟩) hHeld ?_
              (try simp only [Act.put, List.setIfInBounds_toArray])
              refine wpAnyH_done (by kernel_rfl) ?_ _
              refine NoPanic.normal ?_
              go_wp2_with fail
              go_meet
              exact ⟨_, Oa, On, Oc, rfl, rfl, HF.out⟩
            · go_simp
              have HA0 := hHeld
              refine hK.out _ _ (hHeld.go ((Below.refl _ _).alloc (Nat.le_refl _) _)) (fun hHeld => ?_)
              clear hK K
              (try simp only [Act.put, List.setIfInBounds_toArray, List.set_cons_zero, List.set_cons_succ])
              refine wpAnyH_ready (rs := [6]) (by kernel_rfl) (by simp) ?_
              refine AllReadyH.cons rfl (fun K hK => ?_) AllReadyH.nil
              go_simp
              go_at_call 13
              refine (implTableRowOut_any R C ((nb : Int) % R) a' n' c' l _ (hHeld.tab 3 rfl)).mono ?_
              intro e u1 hr
              obtain ⟨hr1, hb⟩ := hr
              obtain ⟨Oa, On, Oc, os, rfl, hO⟩ := tabRes_of HCN.out hr1
              clear hr1
              have HB1 := HA0.ahead (cs := #[.int .i64 0, .int .i64 0, .slice Oa On Oc]) hb hO
              have HR1 := rowOf_ahead hb
              go_wp2_with fail
              refine hK.out _ _ (hHeld.go hb) (fun hHeld => ?_)
              clear hK K hb hO
              (try simp only [Act.put, List.setIfInBounds_toArray, List.set_cons_zero, List.set_cons_succ])
              refine take_at 7 72 (.tuple #[.agg #[.int .i64 0, .int .i64 0, .slice Oa On Oc], .bool false]) rfl rfl (by kernel_rfl) (by kernel_rfl) (by kernel_rfl) (fun _ _ _ h => h) (Or.inl ⟨by kernel_rfl, fun w' hS' => by go_simp⟩) hHeld ?_
              (try simp only [Act.put, List.setIfInBounds_toArray, List.set_cons_zero, List.set_cons_succ])
              refine take_at 8 80 (.agg #[.int .i64 0, .int .i64 0, .slice Oa On Oc]) rfl rfl (by kernel_rfl) (by kernel_rfl) (by kernel_rfl) (fun _ _ _ h => h) (Or.inl ⟨by kernel_rfl, fun w' hS' => by go_simp⟩) hHeld ?_
              (try simp only [Act.put, List.setIfInBounds_toArray, List.set_cons_zero, List.set_cons_succ])
              refine take_at 9 81 (.bool false) rfl rfl (by kernel_rfl) (by kernel_rfl) (by kernel_rfl) (fun _ _ _ h => h) (Or.inl ⟨by kernel_rfl, fun w' hS' => by go_simp⟩) hHeld ?_
              (try simp only [Act.put, List.setIfInBounds_toArray, List.set_cons_zero, List.set_cons_succ])
              refine wpAnyH_ready (rs := [11]) (by kernel_rfl) (by simp) ?_
              refine AllReadyH.cons rfl (fun K hK => ?_) AllReadyH.nil
              rw [if_pos (by kernel_rfl)]
              refine wp_store_row 25 (.tmp 13) (.tmp 80) rfl u0.heap.size #[.int .i64 0, .int .i64 0, .slice Oa On Oc] rfl rfl 25 _ HR1 tab_info rfl (cells3_one _ _ _ _ _) ?_
              have HF : Hid (Hold w [(u0.heap.size, #[.int .i64 0, .int .i64 0, .slice Oa On Oc], 25), (Yb, #[.int .i64 0, .int .i64 0, .slice Ya Yn Yc], 25), (Xb, #[.int .i64 (R + 1), .int .i64 C, .slice Xa Xn Xc], 25), (Wb, #[.int .i64 (R + 1), .int .i64 C, .slice Wa Wn Wc], 25), (Tb, #[.int .i64 R, .int .i64 C, .slice a' n' c'], 25)] [(Oa, On, Oc, []), (Ya, Yn, Yc, []), (Xa, Xn, Xc, (inL t' C l)), (Wa, Wn, Wc, (inL t' C l)), (a', n', c', l)] (u1.setRow u0.heap.size #[.int .i64 0, .int .i64 0, .slice Oa On Oc])) := HB1
              refine hK.out _ _ ⟨HF.out.1, fun r hr => HF.out.2.1 r (List.mem_cons_of_mem _ hr), fun t ht => HF.out.2.2 t (List.mem_cons_of_mem _ ht)⟩ (fun hHeld => ?_)
              clear hK K
              simp only [Act.put]
              refine take_at 12 14 (.bool false) rfl rfl (by kernel_rfl) (by kernel_rfl) (by kernel_rfl) (fun _ _ _ h => h) (Or.inl ⟨by kernel_rfl, fun w' hS' => by go_simp⟩) hHeld ?_
              (try simp only [Act.put, List.setIfInBounds_toArray])
              refine wpAnyH_done (by kernel_rfl) ?_ _
              refine NoPanic.normal ?_
              go_wp2_with fail
              go_meet
              exact ⟨_, Oa, On, Oc, rfl, rfl, HF.out⟩
          case rest =>
            clear HH
            obtain ⟨Ob, Oa, On, Oc, rfl, rfl, hh⟩ := hcut
            have HH : Hid (Hold w [(Ob, #[.int .i64 0, .int .i64 0, .slice Oa On Oc], 25), (Yb, #[.int .i64 0, .int .i64 0, .slice Ya Yn Yc], 25), (Xb, #[.int .i64 (R + 1), .int .i64 C, .slice Xa Xn Xc], 25), (Wb, #[.int .i64 (R + 1), .int .i64 C, .slice Wa Wn Wc], 25), (Tb, #[.int .i64 R, .int .i64 C, .slice a' n' c'], 25)] [(Oa, On, Oc, []), (Ya, Yn, Yc, []), (Xa, Xn, Xc, (inL t' C l)), (Wa, Wn, Wc, (inL t' C l)), (a', n', c', l)] wc) := hh
            clear hh
            have HXI : Hid (manyN (inL t' C l) = m) := (many_in t' C l).trans HM.out
            have HXS := ok_small (ok_in HC.out)
            have HXT : Hid (∀ y ∈ inL t' C l, y.2.2.2.2.length ≤ 30) := fun y hy => by have := HXS.2 y hy; omega
            have hxl : (inL t' C l).length ≤ 30 := by have := HXS.1; omega
            have HTI : Hid (manyN (turnL l) = m) := (many_turn l).trans HM.out
            have htl : (turnL l).length ≤ 30 := by rw [turnL_len]; exact hl30
            have HTT : Hid (∀ y ∈ turnL l, y.2.2.2.2.length ≤ 30) := turnL_txt HLT.out
            clear HXS
            go_upto_region 10 with fail
            refine wp_region_noPanic ?_
            refine wp_region_held_drew (S := fun w' => Hold w [(Ob, #[.int .i64 0, .int .i64 0, .slice Oa On Oc], 25), (Yb, #[.int .i64 0, .int .i64 0, .slice Ya Yn Yc], 25), (Xb, #[.int .i64 (R + 1), .int .i64 C, .slice Xa Xn Xc], 25), (Wb, #[.int .i64 (R + 1), .int .i64 C, .slice Wa Wn Wc], 25), (Tb, #[.int .i64 R, .int .i64 C, .slice a' n' c'], 25)] [(Oa, On, Oc, []), (Ya, Yn, Yc, []), (Xa, Xn, Xc, (inL t' C l)), (Wa, Wn, Wc, (inL t' C l)), (a', n', c', l)] w') (by kernel_rfl) HH.out.drew (fun hHeld => ?_)
            refine take_at 0 82 (.agg #[.int .i64 (R + 1), .int .i64 C, .slice Xa Xn Xc]) rfl rfl (by kernel_rfl) (by kernel_rfl) (by kernel_rfl) (fun _ _ _ h => h) (yieldsIf_load_row (by kernel_rfl) 25 (.tmp 9) rfl Xb rfl 25 #[.int .i64 (R + 1), .int .i64 C, .slice Xa Xn Xc] (0, 0) _ (fun w' h => h.row 2 rfl) Try.underlying25 rfl tab_info) hHeld ?_
            (try simp only [Act.put, List.setIfInBounds_toArray, List.set_cons_zero, List.set_cons_succ])
            refine take_at 2 84 (.agg #[.int .i64 R, .int .i64 C, .slice a' n' c']) rfl rfl (by kernel_rfl) (by kernel_rfl) (by kernel_rfl) (fun _ _ _ h => h) (yieldsIf_load_row (by kernel_rfl) 25 (.tmp 5) rfl Tb rfl 25 #[.int .i64 R, .int .i64 C, .slice a' n' c'] (0, 0) _ (fun w' h => h.row 4 rfl) Try.underlying25 rfl tab_info) hHeld ?_
            (try simp only [Act.put, List.setIfInBounds_toArray, List.set_cons_zero, List.set_cons_succ])
            refine wpAnyH_ready (rs := [1]) (by kernel_rfl) (by simp) ?_
            refine AllReadyH.cons rfl (fun K hK => ?_) AllReadyH.nil
            go_simp
            go_at_call 27
            refine (lmMany_is HXI.out (hHeld.tab 2 rfl) hxl HXT.out).mono ?_
            rintro e m1 ⟨rfl, hb⟩
            go_wp2_with fail
            refine hK.out _ _ (hHeld.go hb) (fun hHeld => ?_)
            clear hK K
            (try simp only [Act.put, List.setIfInBounds_toArray, List.set_cons_zero, List.set_cons_succ])
            refine wpAnyH_ready (rs := [3]) (by kernel_rfl) (by simp) ?_
            refine AllReadyH.cons rfl (fun K hK => ?_) AllReadyH.nil
            go_simp
            go_at_call 27
            refine (lmMany_is HM.out (hHeld.tab 4 rfl) hl30 HLT.out).mono ?_
            rintro e m2 ⟨rfl, hb⟩
            go_wp2_with fail
            refine hK.out _ _ (hHeld.go hb) (fun hHeld => ?_)
            clear hK K
            (try simp only [Act.put, List.setIfInBounds_toArray, List.set_cons_zero, List.set_cons_succ])
            refine take_at 4 86 (.bool true) rfl rfl (by kernel_rfl) (by kernel_rfl) (by kernel_rfl) (fun _ _ _ h => h) (Or.inl ⟨by kernel_rfl, fun w' hS' => by go_simp⟩) hHeld ?_
            (try simp only [Act.put, List.setIfInBounds_toArray, List.set_cons_zero, List.set_cons_succ])
            refine take_at 5 87 (.bool true) rfl rfl (by kernel_rfl) (by kernel_rfl) (by kernel_rfl) (fun _ _ _ h => h) (Or.inl ⟨by kernel_rfl, fun w' hS' => by go_simp⟩) hHeld ?_
            (try simp only [Act.put, List.setIfInBounds_toArray, List.set_cons_zero, List.set_cons_succ])
            refine take_at 6 88 (.bool false) rfl rfl (by kernel_rfl) (by kernel_rfl) (by kernel_rfl) (fun _ _ _ h => h) (Or.inl ⟨by kernel_rfl, fun w' hS' => by go_simp⟩) hHeld ?_
            (try simp only [Act.put, List.setIfInBounds_toArray, List.set_cons_zero, List.set_cons_succ])
            refine take_at 7 89 (.bool true) rfl rfl (by kernel_rfl) (by kernel_rfl) (by kernel_rfl) (fun _ _ _ h => h) (Or.inl ⟨by kernel_rfl, fun w' hS' => by go_simp⟩) hHeld ?_
            (try simp only [Act.put, List.setIfInBounds_toArray, List.set_cons_zero, List.set_cons_succ])
            refine take_at 8 90 (.bool true) rfl rfl (by kernel_rfl) (by kernel_rfl) (by kernel_rfl) (fun _ _ _ h => h) (Or.inl ⟨by kernel_rfl, fun w' hS' => by go_simp⟩) hHeld ?_
            (try simp only [Act.put, List.setIfInBounds_toArray, List.set_cons_zero, List.set_cons_succ])
            refine take_at 9 91 (undef) rfl rfl (by kernel_rfl) (by kernel_rfl) (by kernel_rfl) (fun _ _ _ h => h) (Or.inr ⟨by kernel_rfl, rfl⟩) hHeld ?_
            (try simp only [Act.put, List.setIfInBounds_toArray, List.set_cons_zero, List.set_cons_succ])
            refine take_at 10 92 (undef) rfl rfl (by kernel_rfl) (by kernel_rfl) (by kernel_rfl) (fun _ _ _ h => h) (Or.inr ⟨by kernel_rfl, rfl⟩) hHeld ?_
            (try simp only [Act.put, List.setIfInBounds_toArray, List.set_cons_zero, List.set_cons_succ])
            refine take_at 11 93 (undef) rfl rfl (by kernel_rfl) (by kernel_rfl) (by kernel_rfl) (fun _ _ _ h => h) (Or.inr ⟨by kernel_rfl, rfl⟩) hHeld ?_
            (try simp only [Act.put, List.setIfInBounds_toArray, List.set_cons_zero, List.set_cons_succ])
            refine take_at 12 94 (undef) rfl rfl (by kernel_rfl) (by kernel_rfl) (by kernel_rfl) (fun _ _ _ h => h) (Or.inr ⟨by kernel_rfl, rfl⟩) hHeld ?_
            (try simp only [Act.put, List.setIfInBounds_toArray, List.set_cons_zero, List.set_cons_succ])
            refine take_at 13 95 (undef) rfl rfl (by kernel_rfl) (by kernel_rfl) (by kernel_rfl) (fun _ _ _ h => h) (Or.inr ⟨by kernel_rfl, rfl⟩) hHeld ?_
            (try simp only [Act.put, List.setIfInBounds_toArray, List.set_cons_zero, List.set_cons_succ])
            refine take_at 14 96 (.bool true) rfl rfl (by kernel_rfl) (by kernel_rfl) (by kernel_rfl) (fun _ _ _ h => h) (Or.inl ⟨by kernel_rfl, fun w' hS' => by go_simp⟩) hHeld ?_
            (try simp only [Act.put, List.setIfInBounds_toArray, List.set_cons_zero, List.set_cons_succ])
            refine take_at 15 97 (.bool true) rfl rfl (by kernel_rfl) (by kernel_rfl) (by kernel_rfl) (fun _ _ _ h => h) (Or.inl ⟨by kernel_rfl, fun w' hS' => by go_simp⟩) hHeld ?_
            (try simp only [Act.put, List.setIfInBounds_toArray, List.set_cons_zero, List.set_cons_succ])
            refine take_at 16 98 (.bool true) rfl rfl (by kernel_rfl) (by kernel_rfl) (by kernel_rfl) (fun _ _ _ h => h) (Or.inl ⟨by kernel_rfl, fun w' hS' => by go_simp⟩) hHeld ?_
            (try simp only [Act.put, List.setIfInBounds_toArray, List.set_cons_zero, List.set_cons_succ])
            refine take_at 17 99 (.bool false) rfl rfl (by kernel_rfl) (by kernel_rfl) (by kernel_rfl) (fun _ _ _ h => h) (Or.inl ⟨by kernel_rfl, fun w' hS' => by go_simp⟩) hHeld ?_
            (try simp only [Act.put, List.setIfInBounds_toArray, List.set_cons_zero, List.set_cons_succ])
            refine take_at 18 100 (.bool true) rfl rfl (by kernel_rfl) (by kernel_rfl) (by kernel_rfl) (fun _ _ _ h => h) (Or.inl ⟨by kernel_rfl, fun w' hS' => by go_simp⟩) hHeld ?_
            (try simp only [Act.put, List.setIfInBounds_toArray, List.set_cons_zero, List.set_cons_succ])
            refine take_at 19 101 (.bool true) rfl rfl (by kernel_rfl) (by kernel_rfl) (by kernel_rfl) (fun _ _ _ h => h) (Or.inl ⟨by kernel_rfl, fun w' hS' => by go_simp⟩) hHeld ?_
            (try simp only [Act.put, List.setIfInBounds_toArray, List.set_cons_zero, List.set_cons_succ])
            refine take_at 20 102 (undef) rfl rfl (by kernel_rfl) (by kernel_rfl) (by kernel_rfl) (fun _ _ _ h => h) (Or.inr ⟨by kernel_rfl, rfl⟩) hHeld ?_
            (try simp only [Act.put, List.setIfInBounds_toArray, List.set_cons_zero, List.set_cons_succ])
            refine take_at 21 103 (undef) rfl rfl (by kernel_rfl) (by kernel_rfl) (by kernel_rfl) (fun _ _ _ h => h) (Or.inr ⟨by kernel_rfl, rfl⟩) hHeld ?_
            (try simp only [Act.put, List.setIfInBounds_toArray, List.set_cons_zero, List.set_cons_succ])
            refine take_at 22 104 (undef) rfl rfl (by kernel_rfl) (by kernel_rfl) (by kernel_rfl) (fun _ _ _ h => h) (Or.inr ⟨by kernel_rfl, rfl⟩) hHeld ?_
            (try simp only [Act.put, List.setIfInBounds_toArray, List.set_cons_zero, List.set_cons_succ])
            refine take_at 23 105 (undef) rfl rfl (by kernel_rfl) (by kernel_rfl) (by kernel_rfl) (fun _ _ _ h => h) (Or.inr ⟨by kernel_rfl, rfl⟩) hHeld ?_
            (try simp only [Act.put, List.setIfInBounds_toArray, List.set_cons_zero, List.set_cons_succ])
            refine take_at 24 106 (undef) rfl rfl (by kernel_rfl) (by kernel_rfl) (by kernel_rfl) (fun _ _ _ h => h) (Or.inr ⟨by kernel_rfl, rfl⟩) hHeld ?_
            (try simp only [Act.put, List.setIfInBounds_toArray, List.set_cons_zero, List.set_cons_succ])
            refine take_at 25 107 (.bool true) rfl rfl (by kernel_rfl) (by kernel_rfl) (by kernel_rfl) (fun _ _ _ h => h) (Or.inl ⟨by kernel_rfl, fun w' hS' => by go_simp⟩) hHeld ?_
            (try simp only [Act.put, List.setIfInBounds_toArray, List.set_cons_zero, List.set_cons_succ])
            refine take_at 26 108 (.bool true) rfl rfl (by kernel_rfl) (by kernel_rfl) (by kernel_rfl) (fun _ _ _ h => h) (Or.inl ⟨by kernel_rfl, fun w' hS' => by go_simp⟩) hHeld ?_
            (try simp only [Act.put, List.setIfInBounds_toArray, List.set_cons_zero, List.set_cons_succ])
            refine take_at 27 109 (.bool true) rfl rfl (by kernel_rfl) (by kernel_rfl) (by kernel_rfl) (fun _ _ _ h => h) (Or.inl ⟨by kernel_rfl, fun w' hS' => by go_simp⟩) hHeld ?_
            (try simp only [Act.put, List.setIfInBounds_toArray, List.set_cons_zero, List.set_cons_succ])
            refine take_at 28 110 (.agg #[.int .i64 R, .int .i64 C, .slice a' n' c']) rfl rfl (by kernel_rfl) (by kernel_rfl) (by kernel_rfl) (fun _ _ _ h => h) (yieldsIf_load_row (by kernel_rfl) 25 (.tmp 5) rfl Tb rfl 25 #[.int .i64 R, .int .i64 C, .slice a' n' c'] (0, 0) _ (fun w' h => h.row 4 rfl) Try.underlying25 rfl tab_info) hHeld ?_
            (try simp only [Act.put, List.setIfInBounds_toArray, List.set_cons_zero, List.set_cons_succ])
            refine take_at 31 113 (.agg #[.int .i64 R, .int .i64 C, .slice a' n' c']) rfl rfl (by kernel_rfl) (by kernel_rfl) (by kernel_rfl) (fun _ _ _ h => h) (yieldsIf_load_row (by kernel_rfl) 25 (.tmp 5) rfl Tb rfl 25 #[.int .i64 R, .int .i64 C, .slice a' n' c'] (0, 0) _ (fun w' h => h.row 4 rfl) Try.underlying25 rfl tab_info) hHeld ?_
            (try simp only [Act.put, List.setIfInBounds_toArray, List.set_cons_zero, List.set_cons_succ])
            refine wpAnyH_ready (rs := [29]) (by kernel_rfl) (by simp) ?_
            refine AllReadyH.cons rfl (fun K hK => ?_) AllReadyH.nil
            go_simp
            go_at_call 22
            refine (implTableTurn_any R C a' n' c' l _ (hHeld.tab 4 rfl)).mono ?_
            intro e t1 hr
            obtain ⟨h1 | h1, hb⟩ := hr
            · exact absurd (h1.1.symm.trans HOK.out) (by simp)
            obtain ⟨-, ma, mc, ms, rfl, hO⟩ := h1
            obtain ⟨M, hM⟩ : ∃ M, l.length = M := ⟨_, rfl⟩
            rw [hM] at hO ⊢
            have HTU : Hid (Tab t1 ma M mc (turnL l)) := hO.tab
            clear hO hM
            go_wp2_with fail
            refine hK.out _ _ (hHeld.go hb) (fun hHeld => ?_)
            clear hK K
            (try simp only [Act.put, List.setIfInBounds_toArray, List.set_cons_zero, List.set_cons_succ])
            refine wpAnyH_ready (rs := [30]) (by kernel_rfl) (by simp) ?_
            refine AllReadyH.cons rfl (fun K hK => ?_) AllReadyH.nil
            go_simp
            go_at_call 27
            refine (lmMany_is HTI.out HTU.out htl HTT.out).mono ?_
            rintro e t2 ⟨rfl, hb⟩
            go_wp2_with fail
            refine hK.out _ _ (hHeld.go hb) (fun hHeld => ?_)
            clear hK K
            (try simp only [Act.put, List.setIfInBounds_toArray, List.set_cons_zero, List.set_cons_succ])
            refine wpAnyH_ready (rs := [32]) (by kernel_rfl) (by simp) ?_
            refine AllReadyH.cons rfl (fun K hK => ?_) AllReadyH.nil
            go_simp
            go_at_call 27
            refine (lmMany_is HM.out (hHeld.tab 4 rfl) hl30 HLT.out).mono ?_
            rintro e m3 ⟨rfl, hb⟩
            go_wp2_with fail
            refine hK.out _ _ (hHeld.go hb) (fun hHeld => ?_)
            clear hK K
            (try simp only [Act.put, List.setIfInBounds_toArray, List.set_cons_zero, List.set_cons_succ])
            refine take_at 33 115 (.bool true) rfl rfl (by kernel_rfl) (by kernel_rfl) (by kernel_rfl) (fun _ _ _ h => h) (Or.inl ⟨by kernel_rfl, fun w' hS' => by go_simp⟩) hHeld ?_
            (try simp only [Act.put, List.setIfInBounds_toArray, List.set_cons_zero, List.set_cons_succ])
            refine take_at 34 116 (.bool true) rfl rfl (by kernel_rfl) (by kernel_rfl) (by kernel_rfl) (fun _ _ _ h => h) (Or.inl ⟨by kernel_rfl, fun w' hS' => by go_simp⟩) hHeld ?_
            (try simp only [Act.put, List.setIfInBounds_toArray, List.set_cons_zero, List.set_cons_succ])
            refine take_at 35 4 (.bool true) rfl rfl (by kernel_rfl) (by kernel_rfl) (by kernel_rfl) (fun _ _ _ h => h) (Or.inl ⟨by kernel_rfl, fun w' hS' => by go_simp⟩) hHeld ?_
            (try simp only [Act.put, List.setIfInBounds_toArray, List.set_cons_zero, List.set_cons_succ])
            refine wpAnyH_done (by kernel_rfl) ?_ _
            refine NoPanic.normal ?_
            replace HH : Hid (Hold w [(Ob, #[.int .i64 0, .int .i64 0, .slice Oa On Oc], 25), (Yb, #[.int .i64 0, .int .i64 0, .slice Ya Yn Yc], 25), (Xb, #[.int .i64 (R + 1), .int .i64 C, .slice Xa Xn Xc], 25), (Wb, #[.int .i64 (R + 1), .int .i64 C, .slice Wa Wn Wc], 25), (Tb, #[.int .i64 R, .int .i64 C, .slice a' n' c'], 25)] [(Oa, On, Oc, []), (Ya, Yn, Yc, []), (Xa, Xn, Xc, (inL t' C l)), (Wa, Wn, Wc, (inL t' C l)), (a', n', c', l)] _) := hHeld
            clear hHeld
            go_wp2_with fail
            go_ret
            exact ⟨rfl, HH.out.1⟩
        · go_cut [13, 14] (fun yv bv wx => ∃ (Ob : Nat) (Oa : Option Addr) (On Oc : Nat), yv = .pointer (some ⟨Ob, 0, none⟩) ∧ bv = .bool true ∧ Hold w [(Ob, #[.int .i64 (R - 1), .int .i64 C, .slice Oa On Oc], 25), (Yb, #[.int .i64 0, .int .i64 0, .slice Ya Yn Yc], 25), (Xb, #[.int .i64 (R + 1), .int .i64 C, .slice Xa Xn Xc], 25), (Wb, #[.int .i64 (R + 1), .int .i64 C, .slice Wa Wn Wc], 25), (Tb, #[.int .i64 R, .int .i64 C, .slice a' n' c'], 25)] [(Oa, On, Oc, (outL ((nb : Int) % R) l)), (Ya, Yn, Yc, []), (Xa, Xn, Xc, (inL t' C l)), (Wa, Wn, Wc, (inL t' C l)), (a', n', c', l)] wx)
          case first =>
            refine wp_region_noPanic ?_
            refine wp_region_held_drew (S := fun w' => Hold w [(Yb, #[.int .i64 0, .int .i64 0, .slice Ya Yn Yc], 25), (Xb, #[.int .i64 (R + 1), .int .i64 C, .slice Xa Xn Xc], 25), (Wb, #[.int .i64 (R + 1), .int .i64 C, .slice Wa Wn Wc], 25), (Tb, #[.int .i64 R, .int .i64 C, .slice a' n' c'], 25)] [(Ya, Yn, Yc, []), (Xa, Xn, Xc, (inL t' C l)), (Wa, Wn, Wc, (inL t' C l)), (a', n', c', l)] w') (by kernel_rfl) HH.out.drew (fun hHeld => ?_)
            refine take_at 0 73 (.agg #[.int .i64 R, .int .i64 C, .slice a' n' c']) rfl rfl (by kernel_rfl) (by kernel_rfl) (by kernel_rfl) (fun _ _ _ h => h) (yieldsIf_load_row (by kernel_rfl) 25 (.tmp 5) rfl Tb rfl 25 #[.int .i64 R, .int .i64 C, .slice a' n' c'] (0, 0) _ (fun w' h => h.row 3 rfl) Try.underlying25 rfl tab_info) hHeld ?_
            (try simp only [Act.put, List.setIfInBounds_toArray, List.set_cons_zero, List.set_cons_succ])
            refine take_at 1 74 (.slice b nb capb) rfl rfl (by kernel_rfl) (by kernel_rfl) (by kernel_rfl) (fun _ _ _ h => h) (Or.inl ⟨by kernel_rfl, fun w' hS' => by go_simp⟩) hHeld ?_
            (try simp only [Act.put, List.setIfInBounds_toArray, List.set_cons_zero, List.set_cons_succ])
            refine take_at 2 75 (.int .i64 nb) rfl rfl (by kernel_rfl) (by kernel_rfl) (by kernel_rfl) (fun _ _ _ h => h) (Or.inl ⟨by kernel_rfl, fun w' hS' => by go_simp⟩) hHeld ?_
            (try simp only [Act.put, List.setIfInBounds_toArray, List.set_cons_zero, List.set_cons_succ])
            refine take_at 3 76 (.pointer (some ⟨Tb, 0, none⟩)) rfl rfl (by kernel_rfl) (by kernel_rfl) (by kernel_rfl) (fun _ _ _ h => h) (Or.inl ⟨by kernel_rfl, fun w' hS' => by go_simp⟩) hHeld ?_
            (try simp only [Act.put, List.setIfInBounds_toArray, List.set_cons_zero, List.set_cons_succ])
            refine take_at 4 77 (.int .i64 R) rfl rfl (by kernel_rfl) (by kernel_rfl) (by kernel_rfl) (fun _ _ _ h => h) (Or.inl ⟨by kernel_rfl, fun w' hS' => by have hc := RowAt.cell (hS'.row 3 rfl) 0; go_simp⟩) hHeld ?_
            (try simp only [Act.put, List.setIfInBounds_toArray, List.set_cons_zero, List.set_cons_succ])
            refine take_at 5 78 (.int .i64 ((nb : Int) % R)) rfl rfl (by kernel_rfl) (by kernel_rfl) (by kernel_rfl) (fun _ _ _ h => h) (Or.inl ⟨by kernel_rfl, fun w' hS' => by go_simp <;> exact Int.tmod_eq_emod_of_nonneg (by omega)⟩) hHeld ?_
            (try simp only [Act.put, List.setIfInBounds_toArray, List.set_cons_zero, List.set_cons_succ])
            generalize wc.drew = u0 at hHeld ⊢
            refine wpAnyH_ready (rs := [6, 10]) (by kernel_rfl) (by simp) ?_
            refine AllReadyH.cons rfl (fun K hK => ?_) (AllReadyH.cons rfl (fun K hK => ?_) AllReadyH.nil)
            · go_simp
              go_at_call 13
              refine (implTableRowOut_any R C ((nb : Int) % R) a' n' c' l _ (hHeld.tab 3 rfl)).mono ?_
              intro e u1 hr
              obtain ⟨hr1, hb⟩ := hr
              obtain ⟨Oa, On, Oc, rfl, hT⟩ := tabRes_t HCN.out hr1
              clear hr1
              have HB1 := (hHeld.go hb).behind hT #[.int .i64 0, .int .i64 0, .slice none 0 0] #[.int .i64 (R - 1), .int .i64 C, .slice Oa On Oc] 25
              clear hT
              go_wp2_with fail
              refine hK.out _ _ (hHeld.go hb) (fun hHeld => ?_)
              clear hK K hb
              (try simp only [Act.put, List.setIfInBounds_toArray, List.set_cons_zero, List.set_cons_succ])
              refine take_at 7 72 (.tuple #[.agg #[.int .i64 (R - 1), .int .i64 C, .slice Oa On Oc], .bool true]) rfl rfl (by kernel_rfl) (by kernel_rfl) (by kernel_rfl) (fun _ _ _ h => h) (Or.inl ⟨by kernel_rfl, fun w' hS' => by go_simp⟩) hHeld ?_
              (try simp only [Act.put, List.setIfInBounds_toArray, List.set_cons_zero, List.set_cons_succ])
              refine take_at 8 80 (.agg #[.int .i64 (R - 1), .int .i64 C, .slice Oa On Oc]) rfl rfl (by kernel_rfl) (by kernel_rfl) (by kernel_rfl) (fun _ _ _ h => h) (Or.inl ⟨by kernel_rfl, fun w' hS' => by go_simp⟩) hHeld ?_
              (try simp only [Act.put, List.setIfInBounds_toArray, List.set_cons_zero, List.set_cons_succ])
              refine take_at 9 81 (.bool true) rfl rfl (by kernel_rfl) (by kernel_rfl) (by kernel_rfl) (fun _ _ _ h => h) (Or.inl ⟨by kernel_rfl, fun w' hS' => by go_simp⟩) hHeld ?_
              (try simp only [Act.put, List.setIfInBounds_toArray, List.set_cons_zero, List.set_cons_succ])
              refine wpAnyH_ready (rs := [10]) (by kernel_rfl) (by simp) ?_
              refine AllReadyH.cons rfl (fun K hK => ?_) AllReadyH.nil
              go_simp
              refine hK.out _ _ (hHeld.go ((Below.refl _ _).alloc (Nat.le_refl _) _)) (fun hHeld => ?_)
              clear hK K
              (try simp only [Act.put, List.setIfInBounds_toArray, List.set_cons_zero, List.set_cons_succ])
              refine wpAnyH_ready (rs := [11]) (by kernel_rfl) (by simp) ?_
              refine AllReadyH.cons rfl (fun K hK => ?_) AllReadyH.nil
              rw [if_pos (by kernel_rfl)]
              refine wp_store_row 25 (.tmp 13) (.tmp 80) rfl u1.heap.size #[.int .i64 (R - 1), .int .i64 C, .slice Oa On Oc] rfl rfl 25 _ (rowAt_new u1 #[.int .i64 0, .int .i64 0, .slice none 0 0] 25) tab_info rfl (cells3_one _ _ _ _ _) ?_
              have HF : Hid (Hold w [(u1.heap.size, #[.int .i64 (R - 1), .int .i64 C, .slice Oa On Oc], 25), (Yb, #[.int .i64 0, .int .i64 0, .slice Ya Yn Yc], 25), (Xb, #[.int .i64 (R + 1), .int .i64 C, .slice Xa Xn Xc], 25), (Wb, #[.int .i64 (R + 1), .int .i64 C, .slice Wa Wn Wc], 25), (Tb, #[.int .i64 R, .int .i64 C, .slice a' n' c'], 25)] [(Oa, On, Oc, (outL ((nb : Int) % R) l)), (Ya, Yn, Yc, []), (Xa, Xn, Xc, (inL t' C l)), (Wa, Wn, Wc, (inL t' C l)), (a', n', c', l)] ((u1.alloc (.cells #[.int .i64 0, .int .i64 0, .slice none 0 0] 25)).setRow u1.heap.size #[.int .i64 (R - 1), .int .i64 C, .slice Oa On Oc])) := HB1
              refine hK.out _ _ ⟨HF.out.1, fun r hr => HF.out.2.1 r (List.mem_cons_of_mem _ hr), fun t ht => HF.out.2.2 t (List.mem_cons_of_mem _ ht)⟩ (fun hHeld => ?_)
              clear hK K
              simp only [Act.put]
              refine take_at 12 14 (.bool true) rfl rfl (by kernel_rfl) (by kernel_rfl) (by kernel_rfl) (fun _ _ _ h => h) (Or.inl ⟨by kernel_rfl, fun w' hS' => by go_simp⟩) hHeld ?_
              (try simp only [Act.put, List.setIfInBounds_toArray])
              refine wpAnyH_done (by kernel_rfl) ?_ _
              refine NoPanic.normal ?_
              go_wp2_with fail
              go_meet
              exact ⟨_, Oa, On, Oc, rfl, rfl, HF.out⟩
            · go_simp
              have HA0 := hHeld
              refine hK.out _ _ (hHeld.go ((Below.refl _ _).alloc (Nat.le_refl _) _)) (fun hHeld => ?_)
              clear hK K
              (try simp only [Act.put, List.setIfInBounds_toArray, List.set_cons_zero, List.set_cons_succ])
              refine wpAnyH_ready (rs := [6]) (by kernel_rfl) (by simp) ?_
              refine AllReadyH.cons rfl (fun K hK => ?_) AllReadyH.nil
              go_simp
              go_at_call 13
              refine (implTableRowOut_any R C ((nb : Int) % R) a' n' c' l _ (hHeld.tab 3 rfl)).mono ?_
              intro e u1 hr
              obtain ⟨hr1, hb⟩ := hr
              obtain ⟨Oa, On, Oc, os, rfl, hO⟩ := tabRes_ot HCN.out hr1
              clear hr1
              have HB1 := HA0.ahead (cs := #[.int .i64 (R - 1), .int .i64 C, .slice Oa On Oc]) hb hO
              have HR1 := rowOf_ahead hb
              go_wp2_with fail
              refine hK.out _ _ (hHeld.go hb) (fun hHeld => ?_)
              clear hK K hb hO
              (try simp only [Act.put, List.setIfInBounds_toArray, List.set_cons_zero, List.set_cons_succ])
              refine take_at 7 72 (.tuple #[.agg #[.int .i64 (R - 1), .int .i64 C, .slice Oa On Oc], .bool true]) rfl rfl (by kernel_rfl) (by kernel_rfl) (by kernel_rfl) (fun _ _ _ h => h) (Or.inl ⟨by kernel_rfl, fun w' hS' => by go_simp⟩) hHeld ?_
              (try simp only [Act.put, List.setIfInBounds_toArray, List.set_cons_zero, List.set_cons_succ])
              refine take_at 8 80 (.agg #[.int .i64 (R - 1), .int .i64 C, .slice Oa On Oc]) rfl rfl (by kernel_rfl) (by kernel_rfl) (by kernel_rfl) (fun _ _ _ h => h) (Or.inl ⟨by kernel_rfl, fun w' hS' => by go_simp⟩) hHeld ?_
              (try simp only [Act.put, List.setIfInBounds_toArray, List.set_cons_zero, List.set_cons_succ])
              refine take_at 9 81 (.bool true) rfl rfl (by kernel_rfl) (by kernel_rfl) (by kernel_rfl) (fun _ _ _ h => h) (Or.inl ⟨by kernel_rfl, fun w' hS' => by go_simp⟩) hHeld ?_
              (try simp only [Act.put, List.setIfInBounds_toArray, List.set_cons_zero, List.set_cons_succ])
              refine wpAnyH_ready (rs := [11]) (by kernel_rfl) (by simp) ?_
              refine AllReadyH.cons rfl (fun K hK => ?_) AllReadyH.nil
              rw [if_pos (by kernel_rfl)]
              refine wp_store_row 25 (.tmp 13) (.tmp 80) rfl u0.heap.size #[.int .i64 (R - 1), .int .i64 C, .slice Oa On Oc] rfl rfl 25 _ HR1 tab_info rfl (cells3_one _ _ _ _ _) ?_
              have HF : Hid (Hold w [(u0.heap.size, #[.int .i64 (R - 1), .int .i64 C, .slice Oa On Oc], 25), (Yb, #[.int .i64 0, .int .i64 0, .slice Ya Yn Yc], 25), (Xb, #[.int .i64 (R + 1), .int .i64 C, .slice Xa Xn Xc], 25), (Wb, #[.int .i64 (R + 1), .int .i64 C, .slice Wa Wn Wc], 25), (Tb, #[.int .i64 R, .int .i64 C, .slice a' n' c'], 25)] [(Oa, On, Oc, (outL ((nb : Int) % R) l)), (Ya, Yn, Yc, []), (Xa, Xn, Xc, (inL t' C l)), (Wa, Wn, Wc, (inL t' C l)), (a', n', c', l)] (u1.setRow u0.heap.size #[.int .i64 (R - 1), .int .i64 C, .slice Oa On Oc])) := HB1
              refine hK.out _ _ ⟨HF.out.1, fun r hr => HF.out.2.1 r (List.mem_cons_of_mem _ hr), fun t ht => HF.out.2.2 t (List.mem_cons_of_mem _ ht)⟩ (fun hHeld => ?_)
              clear hK K
              simp only [Act.put]
              refine take_at 12 14 (.bool true) rfl rfl (by kernel_rfl) (by kernel_rfl) (by kernel_rfl) (fun _ _ _ h => h) (Or.inl ⟨by kernel_rfl, fun w' hS' => by go_simp⟩) hHeld ?_
              (try simp only [Act.put, List.setIfInBounds_toArray])
              refine wpAnyH_done (by kernel_rfl) ?_ _
              refine NoPanic.normal ?_
              go_wp2_with fail
              go_meet
              exact ⟨_, Oa, On, Oc, rfl, rfl, HF.out⟩
          case rest =>
            clear HH
            obtain ⟨Ob, Oa, On, Oc, rfl, rfl, hh⟩ := hcut
            have HH : Hid (Hold w [(Ob, #[.int .i64 (R - 1), .int .i64 C, .slice Oa On Oc], 25), (Yb, #[.int .i64 0, .int .i64 0, .slice Ya Yn Yc], 25), (Xb, #[.int .i64 (R + 1), .int .i64 C, .slice Xa Xn Xc], 25), (Wb, #[.int .i64 (R + 1), .int .i64 C, .slice Wa Wn Wc], 25), (Tb, #[.int .i64 R, .int .i64 C, .slice a' n' c'], 25)] [(Oa, On, Oc, (outL ((nb : Int) % R) l)), (Ya, Yn, Yc, []), (Xa, Xn, Xc, (inL t' C l)), (Wa, Wn, Wc, (inL t' C l)), (a', n', c', l)] wc) := hh
            clear hh
            have HXI : Hid (manyN (inL t' C l) = m) := (many_in t' C l).trans HM.out
            have HXS := ok_small (ok_in HC.out)
            have HXT : Hid (∀ y ∈ inL t' C l, y.2.2.2.2.length ≤ 30) := fun y hy => by have := HXS.2 y hy; omega
            have hxl : (inL t' C l).length ≤ 30 := by have := HXS.1; omega
            have HTI : Hid (manyN (turnL l) = m) := (many_turn l).trans HM.out
            have htl : (turnL l).length ≤ 30 := by rw [turnL_len]; exact hl30
            have HTT : Hid (∀ y ∈ turnL l, y.2.2.2.2.length ≤ 30) := turnL_txt HLT.out
            clear HXS
            obtain ⟨mo, HOI⟩ : ∃ m, Hid (manyN (outL ((nb : Int) % R) l) = m) := ⟨_, rfl⟩
            have hmo : mo ≤ m := by have h1 := many_out ((nb : Int) % R) l; have h2 := HOI.out; have h3 := HM.out; omega
            have hmo' : (mo : Int) ≤ (m : Int) := by omega
            have HOS := ok_small (ok_out HCN.out)
            have HOT : Hid (∀ y ∈ outL ((nb : Int) % R) l, y.2.2.2.2.length ≤ 30) := fun y hy => by have := HOS.2 y hy; omega
            have hol : (outL ((nb : Int) % R) l).length ≤ 30 := by have := HOS.1; omega
            clear HOS
            go_upto_region 10 with fail
            refine wp_region_noPanic ?_
            refine wp_region_held_drew (S := fun w' => Hold w [(Ob, #[.int .i64 (R - 1), .int .i64 C, .slice Oa On Oc], 25), (Yb, #[.int .i64 0, .int .i64 0, .slice Ya Yn Yc], 25), (Xb, #[.int .i64 (R + 1), .int .i64 C, .slice Xa Xn Xc], 25), (Wb, #[.int .i64 (R + 1), .int .i64 C, .slice Wa Wn Wc], 25), (Tb, #[.int .i64 R, .int .i64 C, .slice a' n' c'], 25)] [(Oa, On, Oc, (outL ((nb : Int) % R) l)), (Ya, Yn, Yc, []), (Xa, Xn, Xc, (inL t' C l)), (Wa, Wn, Wc, (inL t' C l)), (a', n', c', l)] w') (by kernel_rfl) HH.out.drew (fun hHeld => ?_)
            refine take_at 0 82 (.agg #[.int .i64 (R + 1), .int .i64 C, .slice Xa Xn Xc]) rfl rfl (by kernel_rfl) (by kernel_rfl) (by kernel_rfl) (fun _ _ _ h => h) (yieldsIf_load_row (by kernel_rfl) 25 (.tmp 9) rfl Xb rfl 25 #[.int .i64 (R + 1), .int .i64 C, .slice Xa Xn Xc] (0, 0) _ (fun w' h => h.row 2 rfl) Try.underlying25 rfl tab_info) hHeld ?_
            (try simp only [Act.put, List.setIfInBounds_toArray, List.set_cons_zero, List.set_cons_succ])
            refine take_at 2 84 (.agg #[.int .i64 R, .int .i64 C, .slice a' n' c']) rfl rfl (by kernel_rfl) (by kernel_rfl) (by kernel_rfl) (fun _ _ _ h => h) (yieldsIf_load_row (by kernel_rfl) 25 (.tmp 5) rfl Tb rfl 25 #[.int .i64 R, .int .i64 C, .slice a' n' c'] (0, 0) _ (fun w' h => h.row 4 rfl) Try.underlying25 rfl tab_info) hHeld ?_
            (try simp only [Act.put, List.setIfInBounds_toArray, List.set_cons_zero, List.set_cons_succ])
            refine wpAnyH_ready (rs := [1]) (by kernel_rfl) (by simp) ?_
            refine AllReadyH.cons rfl (fun K hK => ?_) AllReadyH.nil
            go_simp
            go_at_call 27
            refine (lmMany_is HXI.out (hHeld.tab 2 rfl) hxl HXT.out).mono ?_
            rintro e m1 ⟨rfl, hb⟩
            go_wp2_with fail
            refine hK.out _ _ (hHeld.go hb) (fun hHeld => ?_)
            clear hK K
            (try simp only [Act.put, List.setIfInBounds_toArray, List.set_cons_zero, List.set_cons_succ])
            refine wpAnyH_ready (rs := [3]) (by kernel_rfl) (by simp) ?_
            refine AllReadyH.cons rfl (fun K hK => ?_) AllReadyH.nil
            go_simp
            go_at_call 27
            refine (lmMany_is HM.out (hHeld.tab 4 rfl) hl30 HLT.out).mono ?_
            rintro e m2 ⟨rfl, hb⟩
            go_wp2_with fail
            refine hK.out _ _ (hHeld.go hb) (fun hHeld => ?_)
            clear hK K
            (try simp only [Act.put, List.setIfInBounds_toArray, List.set_cons_zero, List.set_cons_succ])
            refine take_at 4 86 (.bool true) rfl rfl (by kernel_rfl) (by kernel_rfl) (by kernel_rfl) (fun _ _ _ h => h) (Or.inl ⟨by kernel_rfl, fun w' hS' => by go_simp⟩) hHeld ?_
            (try simp only [Act.put, List.setIfInBounds_toArray, List.set_cons_zero, List.set_cons_succ])
            refine take_at 5 87 (.bool true) rfl rfl (by kernel_rfl) (by kernel_rfl) (by kernel_rfl) (fun _ _ _ h => h) (Or.inl ⟨by kernel_rfl, fun w' hS' => by go_simp⟩) hHeld ?_
            (try simp only [Act.put, List.setIfInBounds_toArray, List.set_cons_zero, List.set_cons_succ])
            refine take_at 6 88 (.bool false) rfl rfl (by kernel_rfl) (by kernel_rfl) (by kernel_rfl) (fun _ _ _ h => h) (Or.inl ⟨by kernel_rfl, fun w' hS' => by go_simp⟩) hHeld ?_
            (try simp only [Act.put, List.setIfInBounds_toArray, List.set_cons_zero, List.set_cons_succ])
            refine take_at 7 89 (.bool true) rfl rfl (by kernel_rfl) (by kernel_rfl) (by kernel_rfl) (fun _ _ _ h => h) (Or.inl ⟨by kernel_rfl, fun w' hS' => by go_simp⟩) hHeld ?_
            (try simp only [Act.put, List.setIfInBounds_toArray, List.set_cons_zero, List.set_cons_succ])
            refine take_at 8 90 (.bool true) rfl rfl (by kernel_rfl) (by kernel_rfl) (by kernel_rfl) (fun _ _ _ h => h) (Or.inl ⟨by kernel_rfl, fun w' hS' => by go_simp⟩) hHeld ?_
            (try simp only [Act.put, List.setIfInBounds_toArray, List.set_cons_zero, List.set_cons_succ])
            refine take_at 9 91 (undef) rfl rfl (by kernel_rfl) (by kernel_rfl) (by kernel_rfl) (fun _ _ _ h => h) (Or.inr ⟨by kernel_rfl, rfl⟩) hHeld ?_
            (try simp only [Act.put, List.setIfInBounds_toArray, List.set_cons_zero, List.set_cons_succ])
            refine take_at 10 92 (undef) rfl rfl (by kernel_rfl) (by kernel_rfl) (by kernel_rfl) (fun _ _ _ h => h) (Or.inr ⟨by kernel_rfl, rfl⟩) hHeld ?_
            (try simp only [Act.put, List.setIfInBounds_toArray, List.set_cons_zero, List.set_cons_succ])
            refine take_at 11 93 (undef) rfl rfl (by kernel_rfl) (by kernel_rfl) (by kernel_rfl) (fun _ _ _ h => h) (Or.inr ⟨by kernel_rfl, rfl⟩) hHeld ?_
            (try simp only [Act.put, List.setIfInBounds_toArray, List.set_cons_zero, List.set_cons_succ])
            refine take_at 12 94 (undef) rfl rfl (by kernel_rfl) (by kernel_rfl) (by kernel_rfl) (fun _ _ _ h => h) (Or.inr ⟨by kernel_rfl, rfl⟩) hHeld ?_
            (try simp only [Act.put, List.setIfInBounds_toArray, List.set_cons_zero, List.set_cons_succ])
            refine take_at 13 95 (undef) rfl rfl (by kernel_rfl) (by kernel_rfl) (by kernel_rfl) (fun _ _ _ h => h) (Or.inr ⟨by kernel_rfl, rfl⟩) hHeld ?_
            (try simp only [Act.put, List.setIfInBounds_toArray, List.set_cons_zero, List.set_cons_succ])
            refine take_at 14 96 (.bool true) rfl rfl (by kernel_rfl) (by kernel_rfl) (by kernel_rfl) (fun _ _ _ h => h) (Or.inl ⟨by kernel_rfl, fun w' hS' => by go_simp⟩) hHeld ?_
            (try simp only [Act.put, List.setIfInBounds_toArray, List.set_cons_zero, List.set_cons_succ])
            refine take_at 15 97 (.bool true) rfl rfl (by kernel_rfl) (by kernel_rfl) (by kernel_rfl) (fun _ _ _ h => h) (Or.inl ⟨by kernel_rfl, fun w' hS' => by go_simp⟩) hHeld ?_
            (try simp only [Act.put, List.setIfInBounds_toArray, List.set_cons_zero, List.set_cons_succ])
            refine take_at 16 98 (.bool true) rfl rfl (by kernel_rfl) (by kernel_rfl) (by kernel_rfl) (fun _ _ _ h => h) (Or.inl ⟨by kernel_rfl, fun w' hS' => by go_simp⟩) hHeld ?_
            (try simp only [Act.put, List.setIfInBounds_toArray, List.set_cons_zero, List.set_cons_succ])
            refine take_at 17 99 (.bool true) rfl rfl (by kernel_rfl) (by kernel_rfl) (by kernel_rfl) (fun _ _ _ h => h) (Or.inl ⟨by kernel_rfl, fun w' hS' => by go_simp⟩) hHeld ?_
            (try simp only [Act.put, List.setIfInBounds_toArray, List.set_cons_zero, List.set_cons_succ])
            refine take_at 18 100 (.bool false) rfl rfl (by kernel_rfl) (by kernel_rfl) (by kernel_rfl) (fun _ _ _ h => h) (Or.inl ⟨by kernel_rfl, fun w' hS' => by go_simp⟩) hHeld ?_
            (try simp only [Act.put, List.setIfInBounds_toArray, List.set_cons_zero, List.set_cons_succ])
            refine take_at 19 101 (.bool false) rfl rfl (by kernel_rfl) (by kernel_rfl) (by kernel_rfl) (fun _ _ _ h => h) (Or.inl ⟨by kernel_rfl, fun w' hS' => by go_simp⟩) hHeld ?_
            (try simp only [Act.put, List.setIfInBounds_toArray, List.set_cons_zero, List.set_cons_succ])
            refine take_at 20 102 (.agg #[.int .i64 (R - 1), .int .i64 C, .slice Oa On Oc]) rfl rfl (by kernel_rfl) (by kernel_rfl) (by kernel_rfl) (fun _ _ _ h => h) (yieldsIf_load_row (by kernel_rfl) 25 (.tmp 13) rfl Ob rfl 25 #[.int .i64 (R - 1), .int .i64 C, .slice Oa On Oc] (0, 0) _ (fun w' h => h.row 0 rfl) Try.underlying25 rfl tab_info) hHeld ?_
            (try simp only [Act.put, List.setIfInBounds_toArray, List.set_cons_zero, List.set_cons_succ])
            refine take_at 22 104 (.agg #[.int .i64 R, .int .i64 C, .slice a' n' c']) rfl rfl (by kernel_rfl) (by kernel_rfl) (by kernel_rfl) (fun _ _ _ h => h) (yieldsIf_load_row (by kernel_rfl) 25 (.tmp 5) rfl Tb rfl 25 #[.int .i64 R, .int .i64 C, .slice a' n' c'] (0, 0) _ (fun w' h => h.row 4 rfl) Try.underlying25 rfl tab_info) hHeld ?_
            (try simp only [Act.put, List.setIfInBounds_toArray, List.set_cons_zero, List.set_cons_succ])
            refine wpAnyH_ready (rs := [21]) (by kernel_rfl) (by simp) ?_
            refine AllReadyH.cons rfl (fun K hK => ?_) AllReadyH.nil
            go_simp
            go_at_call 27
            refine (lmMany_is HOI.out (hHeld.tab 0 rfl) hol HOT.out).mono ?_
            rintro e m3 ⟨rfl, hb⟩
            go_wp2_with fail
            refine hK.out _ _ (hHeld.go hb) (fun hHeld => ?_)
            clear hK K
            (try simp only [Act.put, List.setIfInBounds_toArray, List.set_cons_zero, List.set_cons_succ])
            refine wpAnyH_ready (rs := [23]) (by kernel_rfl) (by simp) ?_
            refine AllReadyH.cons rfl (fun K hK => ?_) AllReadyH.nil
            go_simp
            go_at_call 27
            refine (lmMany_is HM.out (hHeld.tab 4 rfl) hl30 HLT.out).mono ?_
            rintro e m4 ⟨rfl, hb⟩
            go_wp2_with fail
            refine hK.out _ _ (hHeld.go hb) (fun hHeld => ?_)
            clear hK K
            (try simp only [Act.put, List.setIfInBounds_toArray, List.set_cons_zero, List.set_cons_succ])
            refine take_at 24 106 (.bool true) rfl rfl (by kernel_rfl) (by kernel_rfl) (by kernel_rfl) (fun _ _ _ h => h) (Or.inl ⟨by kernel_rfl, fun w' hS' => by go_simp⟩) hHeld ?_
            (try simp only [Act.put, List.setIfInBounds_toArray, List.set_cons_zero, List.set_cons_succ])
            refine take_at 25 107 (.bool true) rfl rfl (by kernel_rfl) (by kernel_rfl) (by kernel_rfl) (fun _ _ _ h => h) (Or.inl ⟨by kernel_rfl, fun w' hS' => by go_simp⟩) hHeld ?_
            (try simp only [Act.put, List.setIfInBounds_toArray, List.set_cons_zero, List.set_cons_succ])
            refine take_at 26 108 (.bool true) rfl rfl (by kernel_rfl) (by kernel_rfl) (by kernel_rfl) (fun _ _ _ h => h) (Or.inl ⟨by kernel_rfl, fun w' hS' => by go_simp⟩) hHeld ?_
            (try simp only [Act.put, List.setIfInBounds_toArray, List.set_cons_zero, List.set_cons_succ])
            refine take_at 27 109 (.bool true) rfl rfl (by kernel_rfl) (by kernel_rfl) (by kernel_rfl) (fun _ _ _ h => h) (Or.inl ⟨by kernel_rfl, fun w' hS' => by go_simp⟩) hHeld ?_
            (try simp only [Act.put, List.setIfInBounds_toArray, List.set_cons_zero, List.set_cons_succ])
            refine take_at 28 110 (.agg #[.int .i64 R, .int .i64 C, .slice a' n' c']) rfl rfl (by kernel_rfl) (by kernel_rfl) (by kernel_rfl) (fun _ _ _ h => h) (yieldsIf_load_row (by kernel_rfl) 25 (.tmp 5) rfl Tb rfl 25 #[.int .i64 R, .int .i64 C, .slice a' n' c'] (0, 0) _ (fun w' h => h.row 4 rfl) Try.underlying25 rfl tab_info) hHeld ?_
            (try simp only [Act.put, List.setIfInBounds_toArray, List.set_cons_zero, List.set_cons_succ])
            refine take_at 31 113 (.agg #[.int .i64 R, .int .i64 C, .slice a' n' c']) rfl rfl (by kernel_rfl) (by kernel_rfl) (by kernel_rfl) (fun _ _ _ h => h) (yieldsIf_load_row (by kernel_rfl) 25 (.tmp 5) rfl Tb rfl 25 #[.int .i64 R, .int .i64 C, .slice a' n' c'] (0, 0) _ (fun w' h => h.row 4 rfl) Try.underlying25 rfl tab_info) hHeld ?_
            (try simp only [Act.put, List.setIfInBounds_toArray, List.set_cons_zero, List.set_cons_succ])
            refine wpAnyH_ready (rs := [29]) (by kernel_rfl) (by simp) ?_
            refine AllReadyH.cons rfl (fun K hK => ?_) AllReadyH.nil
            go_simp
            go_at_call 22
            refine (implTableTurn_any R C a' n' c' l _ (hHeld.tab 4 rfl)).mono ?_
            intro e t1 hr
            obtain ⟨h1 | h1, hb⟩ := hr
            · exact absurd (h1.1.symm.trans HOK.out) (by simp)
            obtain ⟨-, ma, mc, ms, rfl, hO⟩ := h1
            obtain ⟨M, hM⟩ : ∃ M, l.length = M := ⟨_, rfl⟩
            rw [hM] at hO ⊢
            have HTU : Hid (Tab t1 ma M mc (turnL l)) := hO.tab
            clear hO hM
            go_wp2_with fail
            refine hK.out _ _ (hHeld.go hb) (fun hHeld => ?_)
            clear hK K
            (try simp only [Act.put, List.setIfInBounds_toArray, List.set_cons_zero, List.set_cons_succ])
            refine wpAnyH_ready (rs := [30]) (by kernel_rfl) (by simp) ?_
            refine AllReadyH.cons rfl (fun K hK => ?_) AllReadyH.nil
            go_simp
            go_at_call 27
            refine (lmMany_is HTI.out HTU.out htl HTT.out).mono ?_
            rintro e t2 ⟨rfl, hb⟩
            go_wp2_with fail
            refine hK.out _ _ (hHeld.go hb) (fun hHeld => ?_)
            clear hK K
            (try simp only [Act.put, List.setIfInBounds_toArray, List.set_cons_zero, List.set_cons_succ])
            refine wpAnyH_ready (rs := [32]) (by kernel_rfl) (by simp) ?_
            refine AllReadyH.cons rfl (fun K hK => ?_) AllReadyH.nil
            go_simp
            go_at_call 27
            refine (lmMany_is HM.out (hHeld.tab 4 rfl) hl30 HLT.out).mono ?_
            rintro e m5 ⟨rfl, hb⟩
            go_wp2_with fail
            refine hK.out _ _ (hHeld.go hb) (fun hHeld => ?_)
            clear hK K
            (try simp only [Act.put, List.setIfInBounds_toArray, List.set_cons_zero, List.set_cons_succ])
            refine take_at 33 115 (.bool true) rfl rfl (by kernel_rfl) (by kernel_rfl) (by kernel_rfl) (fun _ _ _ h => h) (Or.inl ⟨by kernel_rfl, fun w' hS' => by go_simp⟩) hHeld ?_
            (try simp only [Act.put, List.setIfInBounds_toArray, List.set_cons_zero, List.set_cons_succ])
            refine take_at 34 116 (.bool true) rfl rfl (by kernel_rfl) (by kernel_rfl) (by kernel_rfl) (fun _ _ _ h => h) (Or.inl ⟨by kernel_rfl, fun w' hS' => by go_simp⟩) hHeld ?_
            (try simp only [Act.put, List.setIfInBounds_toArray, List.set_cons_zero, List.set_cons_succ])
            refine take_at 35 4 (.bool true) rfl rfl (by kernel_rfl) (by kernel_rfl) (by kernel_rfl) (fun _ _ _ h => h) (Or.inl ⟨by kernel_rfl, fun w' hS' => by go_simp⟩) hHeld ?_
            (try simp only [Act.put, List.setIfInBounds_toArray, List.set_cons_zero, List.set_cons_succ])
            refine wpAnyH_done (by kernel_rfl) ?_ _
            refine NoPanic.normal ?_
            replace HH : Hid (Hold w [(Ob, #[.int .i64 (R - 1), .int .i64 C, .slice Oa On Oc], 25), (Yb, #[.int .i64 0, .int .i64 0, .slice Ya Yn Yc], 25), (Xb, #[.int .i64 (R + 1), .int .i64 C, .slice Xa Xn Xc], 25), (Wb, #[.int .i64 (R + 1), .int .i64 C, .slice Wa Wn Wc], 25), (Tb, #[.int .i64 R, .int .i64 C, .slice a' n' c'], 25)] [(Oa, On, Oc, (outL ((nb : Int) % R) l)), (Ya, Yn, Yc, []), (Xa, Xn, Xc, (inL t' C l)), (Wa, Wn, Wc, (inL t' C l)), (a', n', c', l)] _) := hHeld
            clear hHeld
            go_wp2_with fail
            go_ret
            exact ⟨rfl, HH.out.1⟩
    · go_cut [11, 12] (fun yv bv wx => ∃ (Yb : Nat) (Ya : Option Addr) (Yn Yc : Nat), yv = .pointer (some ⟨Yb, 0, none⟩) ∧ bv = .bool true ∧ Hold w [(Yb, #[.int .i64 R, .int .i64 C, .slice Ya Yn Yc], 25), (Xb, #[.int .i64 (R + 1), .int .i64 C, .slice Xa Xn Xc], 25), (Wb, #[.int .i64 (R + 1), .int .i64 C, .slice Wa Wn Wc], 25), (Tb, #[.int .i64 R, .int .i64 C, .slice a' n' c'], 25)] [(Ya, Yn, Yc, (splitL l ((nb : Int) % (n' : Int)))), (Xa, Xn, Xc, (inL t' C l)), (Wa, Wn, Wc, (inL t' C l)), (a', n', c', l)] wx)
      case first =>
        refine wp_region_noPanic ?_
        refine wp_region_held_drew (S := fun w' => Hold w [(Xb, #[.int .i64 (R + 1), .int .i64 C, .slice Xa Xn Xc], 25), (Wb, #[.int .i64 (R + 1), .int .i64 C, .slice Wa Wn Wc], 25), (Tb, #[.int .i64 R, .int .i64 C, .slice a' n' c'], 25)] [(Xa, Xn, Xc, (inL t' C l)), (Wa, Wn, Wc, (inL t' C l)), (a', n', c', l)] w') (by kernel_rfl) HH.out.drew (fun hHeld => ?_)
        refine take_at 0 62 (.agg #[.int .i64 R, .int .i64 C, .slice a' n' c']) rfl rfl (by kernel_rfl) (by kernel_rfl) (by kernel_rfl) (fun _ _ _ h => h) (yieldsIf_load_row (by kernel_rfl) 25 (.tmp 5) rfl Tb rfl 25 #[.int .i64 R, .int .i64 C, .slice a' n' c'] (0, 0) _ (fun w' h => h.row 2 rfl) Try.underlying25 rfl tab_info) hHeld ?_
        (try simp only [Act.put, List.setIfInBounds_toArray, List.set_cons_zero, List.set_cons_succ])
        refine take_at 1 63 (.slice b nb capb) rfl rfl (by kernel_rfl) (by kernel_rfl) (by kernel_rfl) (fun _ _ _ h => h) (Or.inl ⟨by kernel_rfl, fun w' hS' => by go_simp⟩) hHeld ?_
        (try simp only [Act.put, List.setIfInBounds_toArray, List.set_cons_zero, List.set_cons_succ])
        refine take_at 2 64 (.int .i64 nb) rfl rfl (by kernel_rfl) (by kernel_rfl) (by kernel_rfl) (fun _ _ _ h => h) (Or.inl ⟨by kernel_rfl, fun w' hS' => by go_simp⟩) hHeld ?_
        (try simp only [Act.put, List.setIfInBounds_toArray, List.set_cons_zero, List.set_cons_succ])
        refine take_at 3 65 (.pointer (some ⟨Tb, 2, none⟩)) rfl rfl (by kernel_rfl) (by kernel_rfl) (by kernel_rfl) (fun _ _ _ h => h) (Or.inl ⟨by kernel_rfl, fun w' hS' => by go_simp⟩) hHeld ?_
        (try simp only [Act.put, List.setIfInBounds_toArray, List.set_cons_zero, List.set_cons_succ])
        refine take_at 4 66 (.slice a' n' c') rfl rfl (by kernel_rfl) (by kernel_rfl) (by kernel_rfl) (fun _ _ _ h => h) (Or.inl ⟨by kernel_rfl, fun w' hS' => by have hc := RowAt.cell (hS'.row 2 rfl) 2; go_simp⟩) hHeld ?_
        (try simp only [Act.put, List.setIfInBounds_toArray, List.set_cons_zero, List.set_cons_succ])
        refine take_at 5 67 (.int .i64 n') rfl rfl (by kernel_rfl) (by kernel_rfl) (by kernel_rfl) (fun _ _ _ h => h) (Or.inl ⟨by kernel_rfl, fun w' hS' => by go_simp⟩) hHeld ?_
        (try simp only [Act.put, List.setIfInBounds_toArray, List.set_cons_zero, List.set_cons_succ])
        refine take_at 6 68 (.int .i64 ((nb : Int) % (n' : Int))) rfl rfl (by kernel_rfl) (by kernel_rfl) (by kernel_rfl) (fun _ _ _ h => h) (Or.inl ⟨by kernel_rfl, fun w' hS' => by go_simp <;> exact Int.tmod_eq_emod_of_nonneg (by omega)⟩) hHeld ?_
        (try simp only [Act.put, List.setIfInBounds_toArray, List.set_cons_zero, List.set_cons_succ])
        generalize uu.drew = u0 at hHeld ⊢
        refine wpAnyH_ready (rs := [7, 11]) (by kernel_rfl) (by simp) ?_
        refine AllReadyH.cons rfl (fun K hK => ?_) (AllReadyH.cons rfl (fun K hK => ?_) AllReadyH.nil)
        · go_simp
          go_at_call 26
          refine (implTableSplit_any R C ((nb : Int) % (n' : Int)) a' n' c' l _ (hHeld.tab 2 rfl)).mono ?_
          intro e u1 hr
          obtain ⟨hr1, hb⟩ := hr
          obtain ⟨Ya, Yn, Yc, rfl, hT⟩ := tabRes_t HSP.out hr1
          clear hr1
          have HB1 := (hHeld.go hb).behind hT #[.int .i64 0, .int .i64 0, .slice none 0 0] #[.int .i64 R, .int .i64 C, .slice Ya Yn Yc] 25
          clear hT
          go_wp2_with fail
          refine hK.out _ _ (hHeld.go hb) (fun hHeld => ?_)
          clear hK K hb
          (try simp only [Act.put, List.setIfInBounds_toArray, List.set_cons_zero, List.set_cons_succ])
          refine take_at 8 61 (.tuple #[.agg #[.int .i64 R, .int .i64 C, .slice Ya Yn Yc], .bool true]) rfl rfl (by kernel_rfl) (by kernel_rfl) (by kernel_rfl) (fun _ _ _ h => h) (Or.inl ⟨by kernel_rfl, fun w' hS' => by go_simp⟩) hHeld ?_
          (try simp only [Act.put, List.setIfInBounds_toArray, List.set_cons_zero, List.set_cons_succ])
          refine take_at 9 70 (.agg #[.int .i64 R, .int .i64 C, .slice Ya Yn Yc]) rfl rfl (by kernel_rfl) (by kernel_rfl) (by kernel_rfl) (fun _ _ _ h => h) (Or.inl ⟨by kernel_rfl, fun w' hS' => by go_simp⟩) hHeld ?_
          (try simp only [Act.put, List.setIfInBounds_toArray, List.set_cons_zero, List.set_cons_succ])
          refine take_at 10 71 (.bool true) rfl rfl (by kernel_rfl) (by kernel_rfl) (by kernel_rfl) (fun _ _ _ h => h) (Or.inl ⟨by kernel_rfl, fun w' hS' => by go_simp⟩) hHeld ?_
          (try simp only [Act.put, List.setIfInBounds_toArray, List.set_cons_zero, List.set_cons_succ])
          refine wpAnyH_ready (rs := [11]) (by kernel_rfl) (by simp) ?_
          refine AllReadyH.cons rfl (fun K hK => ?_) AllReadyH.nil
          go_simp
          refine hK.out _ _ (hHeld.go ((Below.refl _ _).alloc (Nat.le_refl _) _)) (fun hHeld => ?_)
          clear hK K
          (try simp only [Act.put, List.setIfInBounds_toArray, List.set_cons_zero, List.set_cons_succ])
          refine wpAnyH_ready (rs := [12]) (by kernel_rfl) (by simp) ?_
          refine AllReadyH.cons rfl (fun K hK => ?_) AllReadyH.nil
          rw [if_pos (by kernel_rfl)]
          refine wp_store_row 25 (.tmp 11) (.tmp 70) rfl u1.heap.size #[.int .i64 R, .int .i64 C, .slice Ya Yn Yc] rfl rfl 25 _ (rowAt_new u1 #[.int .i64 0, .int .i64 0, .slice none 0 0] 25) tab_info rfl (cells3_one _ _ _ _ _) ?_
          have HF : Hid (Hold w [(u1.heap.size, #[.int .i64 R, .int .i64 C, .slice Ya Yn Yc], 25), (Xb, #[.int .i64 (R + 1), .int .i64 C, .slice Xa Xn Xc], 25), (Wb, #[.int .i64 (R + 1), .int .i64 C, .slice Wa Wn Wc], 25), (Tb, #[.int .i64 R, .int .i64 C, .slice a' n' c'], 25)] [(Ya, Yn, Yc, (splitL l ((nb : Int) % (n' : Int)))), (Xa, Xn, Xc, (inL t' C l)), (Wa, Wn, Wc, (inL t' C l)), (a', n', c', l)] ((u1.alloc (.cells #[.int .i64 0, .int .i64 0, .slice none 0 0] 25)).setRow u1.heap.size #[.int .i64 R, .int .i64 C, .slice Ya Yn Yc])) := HB1
          refine hK.out _ _ ⟨HF.out.1, fun r hr => HF.out.2.1 r (List.mem_cons_of_mem _ hr), fun t ht => HF.out.2.2 t (List.mem_cons_of_mem _ ht)⟩ (fun hHeld => ?_)
          clear hK K
          simp only [Act.put]
          refine take_at 13 12 (.bool true) rfl rfl (by kernel_rfl) (by kernel_rfl) (by kernel_rfl) (fun _ _ _ h => h) (Or.inl ⟨by kernel_rfl, fun w' hS' => by go_simp⟩) hHeld ?_
          (try simp only [Act.put, List.setIfInBounds_toArray])
          refine wpAnyH_done (by kernel_rfl) ?_ _
          refine NoPanic.normal ?_
          go_wp2_with fail
          go_meet
          exact ⟨_, Ya, Yn, Yc, rfl, rfl, HF.out⟩
        · go_simp
          have HA0 := hHeld
          refine hK.out _ _ (hHeld.go ((Below.refl _ _).alloc (Nat.le_refl _) _)) (fun hHeld => ?_)
          clear hK K
          (try simp only [Act.put, List.setIfInBounds_toArray, List.set_cons_zero, List.set_cons_succ])
          refine wpAnyH_ready (rs := [7]) (by kernel_rfl) (by simp) ?_
          refine AllReadyH.cons rfl (fun K hK => ?_) AllReadyH.nil
          go_simp
          go_at_call 26
          refine (implTableSplit_any R C ((nb : Int) % (n' : Int)) a' n' c' l _ (hHeld.tab 2 rfl)).mono ?_
          intro e u1 hr
          obtain ⟨hr1, hb⟩ := hr
          obtain ⟨Ya, Yn, Yc, os, rfl, hO⟩ := tabRes_ot HSP.out hr1
          clear hr1
          have HB1 := HA0.ahead (cs := #[.int .i64 R, .int .i64 C, .slice Ya Yn Yc]) hb hO
          have HR1 := rowOf_ahead hb
          go_wp2_with fail
          refine hK.out _ _ (hHeld.go hb) (fun hHeld => ?_)
          clear hK K hb hO
          (try simp only [Act.put, List.setIfInBounds_toArray, List.set_cons_zero, List.set_cons_succ])
          refine take_at 8 61 (.tuple #[.agg #[.int .i64 R, .int .i64 C, .slice Ya Yn Yc], .bool true]) rfl rfl (by kernel_rfl) (by kernel_rfl) (by kernel_rfl) (fun _ _ _ h => h) (Or.inl ⟨by kernel_rfl, fun w' hS' => by go_simp⟩) hHeld ?_
          (try simp only [Act.put, List.setIfInBounds_toArray, List.set_cons_zero, List.set_cons_succ])
          refine take_at 9 70 (.agg #[.int .i64 R, .int .i64 C, .slice Ya Yn Yc]) rfl rfl (by kernel_rfl) (by kernel_rfl) (by kernel_rfl) (fun _ _ _ h => h) (Or.inl ⟨by kernel_rfl, fun w' hS' => by go_simp⟩) hHeld ?_
          (try simp only [Act.put, List.setIfInBounds_toArray, List.set_cons_zero, List.set_cons_succ])
          refine take_at 10 71 (.bool true) rfl rfl (by kernel_rfl) (by kernel_rfl) (by kernel_rfl) (fun _ _ _ h => h) (Or.inl ⟨by kernel_rfl, fun w' hS' => by go_simp⟩) hHeld ?_
          (try simp only [Act.put, List.setIfInBounds_toArray, List.set_cons_zero, List.set_cons_succ])
          refine wpAnyH_ready (rs := [12]) (by kernel_rfl) (by simp) ?_
          refine AllReadyH.cons rfl (fun K hK => ?_) AllReadyH.nil
          rw [if_pos (by kernel_rfl)]
          refine wp_store_row 25 (.tmp 11) (.tmp 70) rfl u0.heap.size #[.int .i64 R, .int .i64 C, .slice Ya Yn Yc] rfl rfl 25 _ HR1 tab_info rfl (cells3_one _ _ _ _ _) ?_
          have HF : Hid (Hold w [(u0.heap.size, #[.int .i64 R, .int .i64 C, .slice Ya Yn Yc], 25), (Xb, #[.int .i64 (R + 1), .int .i64 C, .slice Xa Xn Xc], 25), (Wb, #[.int .i64 (R + 1), .int .i64 C, .slice Wa Wn Wc], 25), (Tb, #[.int .i64 R, .int .i64 C, .slice a' n' c'], 25)] [(Ya, Yn, Yc, (splitL l ((nb : Int) % (n' : Int)))), (Xa, Xn, Xc, (inL t' C l)), (Wa, Wn, Wc, (inL t' C l)), (a', n', c', l)] (u1.setRow u0.heap.size #[.int .i64 R, .int .i64 C, .slice Ya Yn Yc])) := HB1
          refine hK.out _ _ ⟨HF.out.1, fun r hr => HF.out.2.1 r (List.mem_cons_of_mem _ hr), fun t ht => HF.out.2.2 t (List.mem_cons_of_mem _ ht)⟩ (fun hHeld => ?_)
          clear hK K
          simp only [Act.put]
          refine take_at 13 12 (.bool true) rfl rfl (by kernel_rfl) (by kernel_rfl) (by kernel_rfl) (fun _ _ _ h => h) (Or.inl ⟨by kernel_rfl, fun w' hS' => by go_simp⟩) hHeld ?_
          (try simp only [Act.put, List.setIfInBounds_toArray])
          refine wpAnyH_done (by kernel_rfl) ?_ _
          refine NoPanic.normal ?_
          go_wp2_with fail
          go_meet
          exact ⟨_, Ya, Yn, Yc, rfl, rfl, HF.out⟩
      case rest =>
        clear HH
        obtain ⟨Yb, Ya, Yn, Yc, rfl, rfl, hh⟩ := hcut
        have HH : Hid (Hold w [(Yb, #[.int .i64 R, .int .i64 C, .slice Ya Yn Yc], 25), (Xb, #[.int .i64 (R + 1), .int .i64 C, .slice Xa Xn Xc], 25), (Wb, #[.int .i64 (R + 1), .int .i64 C, .slice Wa Wn Wc], 25), (Tb, #[.int .i64 R, .int .i64 C, .slice a' n' c'], 25)] [(Ya, Yn, Yc, (splitL l ((nb : Int) % (n' : Int)))), (Xa, Xn, Xc, (inL t' C l)), (Wa, Wn, Wc, (inL t' C l)), (a', n', c', l)] wc) := hh
        clear hh
        go_upto_region 9 with fail
        cases can
        · go_cut [13, 14] (fun yv bv wx => ∃ (Ob : Nat) (Oa : Option Addr) (On Oc : Nat), yv = .pointer (some ⟨Ob, 0, none⟩) ∧ bv = .bool false ∧ Hold w [(Ob, #[.int .i64 0, .int .i64 0, .slice Oa On Oc], 25), (Yb, #[.int .i64 R, .int .i64 C, .slice Ya Yn Yc], 25), (Xb, #[.int .i64 (R + 1), .int .i64 C, .slice Xa Xn Xc], 25), (Wb, #[.int .i64 (R + 1), .int .i64 C, .slice Wa Wn Wc], 25), (Tb, #[.int .i64 R, .int .i64 C, .slice a' n' c'], 25)] [(Oa, On, Oc, []), (Ya, Yn, Yc, (splitL l ((nb : Int) % (n' : Int)))), (Xa, Xn, Xc, (inL t' C l)), (Wa, Wn, Wc, (inL t' C l)), (a', n', c', l)] wx)
          case first =>
            refine wp_region_noPanic ?_
            refine wp_region_held_drew (S := fun w' => Hold w [(Yb, #[.int .i64 R, .int .i64 C, .slice Ya Yn Yc], 25), (Xb, #[.int .i64 (R + 1), .int .i64 C, .slice Xa Xn Xc], 25), (Wb, #[.int .i64 (R + 1), .int .i64 C, .slice Wa Wn Wc], 25), (Tb, #[.int .i64 R, .int .i64 C, .slice a' n' c'], 25)] [(Ya, Yn, Yc, (splitL l ((nb : Int) % (n' : Int)))), (Xa, Xn, Xc, (inL t' C l)), (Wa, Wn, Wc, (inL t' C l)), (a', n', c', l)] w') (by kernel_rfl) HH.out.drew (fun hHeld => ?_)
            refine take_at 0 73 (.agg #[.int .i64 R, .int .i64 C, .slice a' n' c']) rfl rfl (by kernel_rfl) (by kernel_rfl) (by kernel_rfl) (fun _ _ _ h => h) (yieldsIf_load_row (by kernel_rfl) 25 (.tmp 5) rfl Tb rfl 25 #[.int .i64 R, .int .i64 C, .slice a' n' c'] (0, 0) _ (fun w' h => h.row 3 rfl) Try.underlying25 rfl tab_info) hHeld ?_
            (try simp only [Act.put, List.setIfInBounds_toArray, List.set_cons_zero, List.set_cons_succ])
            refine take_at 1 74 (.slice b nb capb) rfl rfl (by kernel_rfl) (by kernel_rfl) (by kernel_rfl) (fun _ _ _ h => h) (Or.inl ⟨by kernel_rfl, fun w' hS' => by go_simp⟩) hHeld ?_
            (try simp only [Act.put, List.setIfInBounds_toArray, List.set_cons_zero, List.set_cons_succ])
            refine take_at 2 75 (.int .i64 nb) rfl rfl (by kernel_rfl) (by kernel_rfl) (by kernel_rfl) (fun _ _ _ h => h) (Or.inl ⟨by kernel_rfl, fun w' hS' => by go_simp⟩) hHeld ?_
            (try simp only [Act.put, List.setIfInBounds_toArray, List.set_cons_zero, List.set_cons_succ])
            refine take_at 3 76 (.pointer (some ⟨Tb, 0, none⟩)) rfl rfl (by kernel_rfl) (by kernel_rfl) (by kernel_rfl) (fun _ _ _ h => h) (Or.inl ⟨by kernel_rfl, fun w' hS' => by go_simp⟩) hHeld ?_
            (try simp only [Act.put, List.setIfInBounds_toArray, List.set_cons_zero, List.set_cons_succ])
            refine take_at 4 77 (.int .i64 R) rfl rfl (by kernel_rfl) (by kernel_rfl) (by kernel_rfl) (fun _ _ _ h => h) (Or.inl ⟨by kernel_rfl, fun w' hS' => by have hc := RowAt.cell (hS'.row 3 rfl) 0; go_simp⟩) hHeld ?_
            (try simp only [Act.put, List.setIfInBounds_toArray, List.set_cons_zero, List.set_cons_succ])
            refine take_at 5 78 (.int .i64 ((nb : Int) % R)) rfl rfl (by kernel_rfl) (by kernel_rfl) (by kernel_rfl) (fun _ _ _ h => h) (Or.inl ⟨by kernel_rfl, fun w' hS' => by go_simp <;> exact Int.tmod_eq_emod_of_nonneg (by omega)⟩) hHeld ?_
            (try simp only [Act.put, List.setIfInBounds_toArray, List.set_cons_zero, List.set_cons_succ])
            generalize wc.drew = u0 at hHeld ⊢
            refine wpAnyH_ready (rs := [6, 10]) (by kernel_rfl) (by simp) ?_
            refine AllReadyH.cons rfl (fun K hK => ?_) (AllReadyH.cons rfl (fun K hK => ?_) AllReadyH.nil)
            · go_simp
              go_at_call 13
              refine (implTableRowOut_any R C ((nb : Int) % R) a' n' c' l _ (hHeld.tab 3 rfl)).mono ?_
              intro e u1 hr
              obtain ⟨hr1, hb⟩ := hr
              obtain ⟨Oa, On, Oc, rfl, hT⟩ := tabRes_f HCN.out hr1
              clear hr1
              have HB1 := (hHeld.go hb).behind hT #[.int .i64 0, .int .i64 0, .slice none 0 0] #[.int .i64 0, .int .i64 0, .slice Oa On Oc] 25
              clear hT
              go_wp2_with fail
              refine hK.out _ _ (hHeld.go hb) (fun hHeld => ?_)
              clear hK K hb
              (try simp only [Act.put, List.setIfInBounds_toArray, List.set_cons_zero, List.set_cons_succ])
              refine take_at 7 72 (.tuple #[.agg #[.int .i64 0, .int .i64 0, .slice Oa On Oc], .bool false]) rfl rfl (by kernel_rfl) (by kernel_rfl) (by kernel_rfl) (fun _ _ _ h => h) (Or.inl ⟨by kernel_rfl, fun w' hS' => by go_simp⟩) hHeld ?_
              (try simp only [Act.put, List.setIfInBounds_toArray, List.set_cons_zero, List.set_cons_succ])
              refine take_at 8 80 (.agg #[.int .i64 0, .int .i64 0, .slice Oa On Oc]) rfl rfl (by kernel_rfl) (by kernel_rfl) (by kernel_rfl) (fun _ _ _ h => h) (Or.inl ⟨by kernel_rfl, fun w' hS' => by go_simp⟩) hHeld ?_
              (try simp only [Act.put, List.setIfInBounds_toArray, List.set_cons_zero, List.set_cons_succ])
              refine take_at 9 81 (.bool false) rfl rfl (by kernel_rfl) (by kernel_rfl) (by kernel_rfl) (fun _ _ _ h => h) (Or.inl ⟨by kernel_rfl, fun w' hS' => by go_simp⟩) hHeld ?_
              (try simp only [Act.put, List.setIfInBounds_toArray, List.set_cons_zero, List.set_cons_succ])
              refine wpAnyH_ready (rs := [10]) (by kernel_rfl) (by simp) ?_
              refine AllReadyH.cons rfl (fun K hK => ?_) AllReadyH.nil
              go_simp
              refine hK.out _ _ (hHeld.go ((Below.refl _ _).alloc (Nat.le_refl _) _)) (fun hHeld => ?_)
              clear hK K
              (try simp only [Act.put, List.setIfInBounds_toArray, List.set_cons_zero, List.set_cons_succ])
              refine wpAnyH_ready (rs := [11]) (by kernel_rfl) (by simp) ?_
              refine AllReadyH.cons rfl (fun K hK => ?_) AllReadyH.nil
              rw [if_pos (by kernel_rfl)]
              refine wp_store_row 25 (.tmp 13) (.tmp 80) rfl u1.heap.size #[.int .i64 0, .int .i64 0, .slice Oa On Oc] rfl rfl 25 _ (rowAt_new u1 #[.int .i64 0, .int .i64 0, .slice none 0 0] 25) tab_info rfl (cells3_one _ _ _ _ _) ?_
              have HF : Hid (Hold w [(u1.heap.size, #[.int .i64 0, .int .i64 0, .slice Oa On Oc], 25), (Yb, #[.int .i64 R, .int .i64 C, .slice Ya Yn Yc], 25), (Xb, #[.int .i64 (R + 1), .int .i64 C, .slice Xa Xn Xc], 25), (Wb, #[.int .i64 (R + 1), .int .i64 C, .slice Wa Wn Wc], 25), (Tb, #[.int .i64 R, .int .i64 C, .slice a' n' c'], 25)] [(Oa, On, Oc, []), (Ya, Yn, Yc, (splitL l ((nb : Int) % (n' : Int)))), (Xa, Xn, Xc, (inL t' C l)), (Wa, Wn, Wc, (inL t' C l)), (a', n', c', l)] ((u1.alloc (.cells #[.int .i64 0, .int .i64 0, .slice none 0 0] 25)).setRow u1.heap.size #[.int .i64 0, .int .i64 0, .slice Oa On Oc])) := HB1
              refine hK.out _ _ ⟨HF.out.1, fun r hr => HF.out.2.1 r (List.mem_cons_of_mem _ hr), fun t ht => HF.out.2.2 t (List.mem_cons_of_mem _ ht)⟩ (fun hHeld => ?_)
              clear hK K
              simp only [Act.put]
              refine take_at 12 14 (.bool false) rfl rfl (by kernel_rfl) (by kernel_rfl) (by kernel_rfl) (fun _ _ _ h => h) (Or.inl ⟨by kernel_rfl, fun w' hS' => by go_simp⟩) hHeld ?_
              (try simp only [Act.put, List.setIfInBounds_toArray])
              refine wpAnyH_done (by kernel_rfl) ?_ _
              refine NoPanic.normal ?_
              go_wp2_with fail
              go_meet
              exact ⟨_, Oa, On, Oc, rfl, rfl, HF.out⟩
            · go_simp
              have HA0 := hHeld
              refine hK.out _ _ (hHeld.go ((Below.refl _ _).alloc (Nat.le_refl _) _)) (fun hHeld => ?_)
              clear hK K
              (try simp only [Act.put, List.setIfInBounds_toArray, List.set_cons_zero, List.set_cons_succ])
              refine wpAnyH_ready (rs := [6]) (by kernel_rfl) (by simp) ?_
              refine AllReadyH.cons rfl (fun K hK => ?_) AllReadyH.nil
              go_simp
              go_at_call 13
              refine (implTableRowOut_any R C ((nb : Int) % R) a' n' c' l _ (hHeld.tab 3 rfl)).mono ?_
              intro e u1 hr
              obtain ⟨hr1, hb⟩ := hr
              obtain ⟨Oa, On, Oc, os, rfl, hO⟩ := tabRes_of HCN.out hr1
              clear hr1
              have HB1 := HA0.ahead (cs := #[.int .i64 0, .int .i64 0, .slice Oa On Oc]) hb hO
              have HR1 := rowOf_ahead hb
              go_wp2_with fail
              refine hK.out _ _ (hHeld.go hb) (fun hHeld => ?_)
              clear hK K hb hO
              (try simp only [Act.put, List.setIfInBounds_toArray, List.set_cons_zero, List.set_cons_succ])
              refine take_at 7 72 (.tuple #[.agg #[.int .i64 0, .int .i64 0, .slice Oa On Oc], .bool false]) rfl rfl (by kernel_rfl) (by kernel_rfl) (by kernel_rfl) (fun _ _ _ h => h) (Or.inl ⟨by kernel_rfl, fun w' hS' => by go_simp⟩) hHeld ?_
              (try simp only [Act.put, List.setIfInBounds_toArray, List.set_cons_zero, List.set_cons_succ])
              refine take_at 8 80 (.agg #[.int .i64 0, .int .i64 0, .slice Oa On Oc]) rfl rfl (by kernel_rfl) (by kernel_rfl) (by kernel_rfl) (fun _ _ _ h => h) (Or.inl ⟨by kernel_rfl, fun w' hS' => by go_simp⟩) hHeld ?_
              (try simp only [Act.put, List.setIfInBounds_toArray, List.set_cons_zero, List.set_cons_succ])
              refine take_at 9 81 (.bool false) rfl rfl (by kernel_rfl) (by kernel_rfl) (by kernel_rfl) (fun _ _ _ h => h) (Or.inl ⟨by kernel_rfl, fun w' hS' => by go_simp⟩) hHeld ?_
              (try simp only [Act.put, List.setIfInBounds_toArray, List.set_cons_zero, List.set_cons_succ])
              refine wpAnyH_ready (rs := [11]) (by kernel_rfl) (by simp) ?_
              refine AllReadyH.cons rfl (fun K hK => ?_) AllReadyH.nil
              rw [if_pos (by kernel_rfl)]
              refine wp_store_row 25 (.tmp 13) (.tmp 80) rfl u0.heap.size #[.int .i64 0, .int .i64 0, .slice Oa On Oc] rfl rfl 25 _ HR1 tab_info rfl (cells3_one _ _ _ _ _) ?_
              have HF : Hid (Hold w [(u0.heap.size, #[.int .i64 0, .int .i64 0, .slice Oa On Oc], 25), (Yb, #[.int .i64 R, .int .i64 C, .slice Ya Yn Yc], 25), (Xb, #[.int .i64 (R + 1), .int .i64 C, .slice Xa Xn Xc], 25), (Wb, #[.int .i64 (R + 1), .int .i64 C, .slice Wa Wn Wc], 25), (Tb, #[.int .i64 R, .int .i64 C, .slice a' n' c'], 25)] [(Oa, On, Oc, []), (Ya, Yn, Yc, (splitL l ((nb : Int) % (n' : Int)))), (Xa, Xn, Xc, (inL t' C l)), (Wa, Wn, Wc, (inL t' C l)), (a', n', c', l)] (u1.setRow u0.heap.size #[.int .i64 0, .int .i64 0, .slice Oa On Oc])) := HB1
              refine hK.out _ _ ⟨HF.out.1, fun r hr => HF.out.2.1 r (List.mem_cons_of_mem _ hr), fun t ht => HF.out.2.2 t (List.mem_cons_of_mem _ ht)⟩ (fun hHeld => ?_)
              clear hK K
              simp only [Act.put]
              refine take_at 12 14 (.bool false) rfl rfl (by kernel_rfl) (by kernel_rfl) (by kernel_rfl) (fun _ _ _ h => h) (Or.inl ⟨by kernel_rfl, fun w' hS' => by go_simp⟩) hHeld ?_
              (try simp only [Act.put, List.setIfInBounds_toArray])
              refine wpAnyH_done (by kernel_rfl) ?_ _
              refine NoPanic.normal ?_
              go_wp2_with fail
              go_meet
              exact ⟨_, Oa, On, Oc, rfl, rfl, HF.out⟩
          case rest =>
            clear HH
            obtain ⟨Ob, Oa, On, Oc, rfl, rfl, hh⟩ := hcut
            have HH : Hid (Hold w [(Ob, #[.int .i64 0, .int .i64 0, .slice Oa On Oc], 25), (Yb, #[.int .i64 R, .int .i64 C, .slice Ya Yn Yc], 25), (Xb, #[.int .i64 (R + 1), .int .i64 C, .slice Xa Xn Xc], 25), (Wb, #[.int .i64 (R + 1), .int .i64 C, .slice Wa Wn Wc], 25), (Tb, #[.int .i64 R, .int .i64 C, .slice a' n' c'], 25)] [(Oa, On, Oc, []), (Ya, Yn, Yc, (splitL l ((nb : Int) % (n' : Int)))), (Xa, Xn, Xc, (inL t' C l)), (Wa, Wn, Wc, (inL t' C l)), (a', n', c', l)] wc) := hh
            clear hh
            have HXI : Hid (manyN (inL t' C l) = m) := (many_in t' C l).trans HM.out
            have HXS := ok_small (ok_in HC.out)
            have HXT : Hid (∀ y ∈ inL t' C l, y.2.2.2.2.length ≤ 30) := fun y hy => by have := HXS.2 y hy; omega
            have hxl : (inL t' C l).length ≤ 30 := by have := HXS.1; omega
            have HTI : Hid (manyN (turnL l) = m) := (many_turn l).trans HM.out
            have htl : (turnL l).length ≤ 30 := by rw [turnL_len]; exact hl30
            have HTT : Hid (∀ y ∈ turnL l, y.2.2.2.2.length ≤ 30) := turnL_txt HLT.out
            clear HXS
            have HYI : Hid (manyN (splitL l ((nb : Int) % (n' : Int))) = m) := (many_split HSP.out).trans HM.out
            have HYS : (splitL l ((nb : Int) % (n' : Int))).length ≤ 25 ∧ ∀ x ∈ splitL l ((nb : Int) % (n' : Int)), x.2.2.2.2.length ≤ 24 := by
              obtain ⟨p0, r0, c0, d0, g0, tx0, e0, hp0, hok0, E0, -⟩ := split_data HSP.out
              rw [e0]
              exact ok_small (ok_split hok0 hp0 E0)
            have HYT : Hid (∀ y ∈ splitL l ((nb : Int) % (n' : Int)), y.2.2.2.2.length ≤ 30) := fun y hy => by have := HYS.2 y hy; omega
            have hyl : (splitL l ((nb : Int) % (n' : Int))).length ≤ 30 := by have := HYS.1; omega
            clear HYS
            go_upto_region 10 with fail
            refine wp_region_noPanic ?_
            refine wp_region_held_drew (S := fun w' => Hold w [(Ob, #[.int .i64 0, .int .i64 0, .slice Oa On Oc], 25), (Yb, #[.int .i64 R, .int .i64 C, .slice Ya Yn Yc], 25), (Xb, #[.int .i64 (R + 1), .int .i64 C, .slice Xa Xn Xc], 25), (Wb, #[.int .i64 (R + 1), .int .i64 C, .slice Wa Wn Wc], 25), (Tb, #[.int .i64 R, .int .i64 C, .slice a' n' c'], 25)] [(Oa, On, Oc, []), (Ya, Yn, Yc, (splitL l ((nb : Int) % (n' : Int)))), (Xa, Xn, Xc, (inL t' C l)), (Wa, Wn, Wc, (inL t' C l)), (a', n', c', l)] w') (by kernel_rfl) HH.out.drew (fun hHeld => ?_)
            refine take_at 0 82 (.agg #[.int .i64 (R + 1), .int .i64 C, .slice Xa Xn Xc]) rfl rfl (by kernel_rfl) (by kernel_rfl) (by kernel_rfl) (fun _ _ _ h => h) (yieldsIf_load_row (by kernel_rfl) 25 (.tmp 9) rfl Xb rfl 25 #[.int .i64 (R + 1), .int .i64 C, .slice Xa Xn Xc] (0, 0) _ (fun w' h => h.row 2 rfl) Try.underlying25 rfl tab_info) hHeld ?_
            (try simp only [Act.put, List.setIfInBounds_toArray, List.set_cons_zero, List.set_cons_succ])
            refine take_at 2 84 (.agg #[.int .i64 R, .int .i64 C, .slice a' n' c']) rfl rfl (by kernel_rfl) (by kernel_rfl) (by kernel_rfl) (fun _ _ _ h => h) (yieldsIf_load_row (by kernel_rfl) 25 (.tmp 5) rfl Tb rfl 25 #[.int .i64 R, .int .i64 C, .slice a' n' c'] (0, 0) _ (fun w' h => h.row 4 rfl) Try.underlying25 rfl tab_info) hHeld ?_
            (try simp only [Act.put, List.setIfInBounds_toArray, List.set_cons_zero, List.set_cons_succ])
            refine wpAnyH_ready (rs := [1]) (by kernel_rfl) (by simp) ?_
            refine AllReadyH.cons rfl (fun K hK => ?_) AllReadyH.nil
            go_simp
            go_at_call 27
            refine (lmMany_is HXI.out (hHeld.tab 2 rfl) hxl HXT.out).mono ?_
            rintro e m1 ⟨rfl, hb⟩
            go_wp2_with fail
            refine hK.out _ _ (hHeld.go hb) (fun hHeld => ?_)
            clear hK K
            (try simp only [Act.put, List.setIfInBounds_toArray, List.set_cons_zero, List.set_cons_succ])
            refine wpAnyH_ready (rs := [3]) (by kernel_rfl) (by simp) ?_
            refine AllReadyH.cons rfl (fun K hK => ?_) AllReadyH.nil
            go_simp
            go_at_call 27
            refine (lmMany_is HM.out (hHeld.tab 4 rfl) hl30 HLT.out).mono ?_
            rintro e m2 ⟨rfl, hb⟩
            go_wp2_with fail
            refine hK.out _ _ (hHeld.go hb) (fun hHeld => ?_)
            clear hK K
            (try simp only [Act.put, List.setIfInBounds_toArray, List.set_cons_zero, List.set_cons_succ])
            refine take_at 4 86 (.bool true) rfl rfl (by kernel_rfl) (by kernel_rfl) (by kernel_rfl) (fun _ _ _ h => h) (Or.inl ⟨by kernel_rfl, fun w' hS' => by go_simp⟩) hHeld ?_
            (try simp only [Act.put, List.setIfInBounds_toArray, List.set_cons_zero, List.set_cons_succ])
            refine take_at 5 87 (.bool true) rfl rfl (by kernel_rfl) (by kernel_rfl) (by kernel_rfl) (fun _ _ _ h => h) (Or.inl ⟨by kernel_rfl, fun w' hS' => by go_simp⟩) hHeld ?_
            (try simp only [Act.put, List.setIfInBounds_toArray, List.set_cons_zero, List.set_cons_succ])
            refine take_at 6 88 (.bool true) rfl rfl (by kernel_rfl) (by kernel_rfl) (by kernel_rfl) (fun _ _ _ h => h) (Or.inl ⟨by kernel_rfl, fun w' hS' => by go_simp⟩) hHeld ?_
            (try simp only [Act.put, List.setIfInBounds_toArray, List.set_cons_zero, List.set_cons_succ])
            refine take_at 7 89 (.bool false) rfl rfl (by kernel_rfl) (by kernel_rfl) (by kernel_rfl) (fun _ _ _ h => h) (Or.inl ⟨by kernel_rfl, fun w' hS' => by go_simp⟩) hHeld ?_
            (try simp only [Act.put, List.setIfInBounds_toArray, List.set_cons_zero, List.set_cons_succ])
            refine take_at 8 90 (.bool false) rfl rfl (by kernel_rfl) (by kernel_rfl) (by kernel_rfl) (fun _ _ _ h => h) (Or.inl ⟨by kernel_rfl, fun w' hS' => by go_simp⟩) hHeld ?_
            (try simp only [Act.put, List.setIfInBounds_toArray, List.set_cons_zero, List.set_cons_succ])
            refine take_at 9 91 (.agg #[.int .i64 R, .int .i64 C, .slice Ya Yn Yc]) rfl rfl (by kernel_rfl) (by kernel_rfl) (by kernel_rfl) (fun _ _ _ h => h) (yieldsIf_load_row (by kernel_rfl) 25 (.tmp 11) rfl Yb rfl 25 #[.int .i64 R, .int .i64 C, .slice Ya Yn Yc] (0, 0) _ (fun w' h => h.row 1 rfl) Try.underlying25 rfl tab_info) hHeld ?_
            (try simp only [Act.put, List.setIfInBounds_toArray, List.set_cons_zero, List.set_cons_succ])
            refine take_at 11 93 (.agg #[.int .i64 R, .int .i64 C, .slice a' n' c']) rfl rfl (by kernel_rfl) (by kernel_rfl) (by kernel_rfl) (fun _ _ _ h => h) (yieldsIf_load_row (by kernel_rfl) 25 (.tmp 5) rfl Tb rfl 25 #[.int .i64 R, .int .i64 C, .slice a' n' c'] (0, 0) _ (fun w' h => h.row 4 rfl) Try.underlying25 rfl tab_info) hHeld ?_
            (try simp only [Act.put, List.setIfInBounds_toArray, List.set_cons_zero, List.set_cons_succ])
            refine wpAnyH_ready (rs := [10]) (by kernel_rfl) (by simp) ?_
            refine AllReadyH.cons rfl (fun K hK => ?_) AllReadyH.nil
            go_simp
            go_at_call 27
            refine (lmMany_is HYI.out (hHeld.tab 1 rfl) hyl HYT.out).mono ?_
            rintro e m3 ⟨rfl, hb⟩
            go_wp2_with fail
            refine hK.out _ _ (hHeld.go hb) (fun hHeld => ?_)
            clear hK K
            (try simp only [Act.put, List.setIfInBounds_toArray, List.set_cons_zero, List.set_cons_succ])
            refine wpAnyH_ready (rs := [12]) (by kernel_rfl) (by simp) ?_
            refine AllReadyH.cons rfl (fun K hK => ?_) AllReadyH.nil
            go_simp
            go_at_call 27
            refine (lmMany_is HM.out (hHeld.tab 4 rfl) hl30 HLT.out).mono ?_
            rintro e m4 ⟨rfl, hb⟩
            go_wp2_with fail
            refine hK.out _ _ (hHeld.go hb) (fun hHeld => ?_)
            clear hK K
            (try simp only [Act.put, List.setIfInBounds_toArray, List.set_cons_zero, List.set_cons_succ])
            refine take_at 13 95 (.bool true) rfl rfl (by kernel_rfl) (by kernel_rfl) (by kernel_rfl) (fun _ _ _ h => h) (Or.inl ⟨by kernel_rfl, fun w' hS' => by go_simp⟩) hHeld ?_
            (try simp only [Act.put, List.setIfInBounds_toArray, List.set_cons_zero, List.set_cons_succ])
            refine take_at 14 96 (.bool true) rfl rfl (by kernel_rfl) (by kernel_rfl) (by kernel_rfl) (fun _ _ _ h => h) (Or.inl ⟨by kernel_rfl, fun w' hS' => by go_simp⟩) hHeld ?_
            (try simp only [Act.put, List.setIfInBounds_toArray, List.set_cons_zero, List.set_cons_succ])
            refine take_at 15 97 (.bool true) rfl rfl (by kernel_rfl) (by kernel_rfl) (by kernel_rfl) (fun _ _ _ h => h) (Or.inl ⟨by kernel_rfl, fun w' hS' => by go_simp⟩) hHeld ?_
            (try simp only [Act.put, List.setIfInBounds_toArray, List.set_cons_zero, List.set_cons_succ])
            refine take_at 16 98 (.bool true) rfl rfl (by kernel_rfl) (by kernel_rfl) (by kernel_rfl) (fun _ _ _ h => h) (Or.inl ⟨by kernel_rfl, fun w' hS' => by go_simp⟩) hHeld ?_
            (try simp only [Act.put, List.setIfInBounds_toArray, List.set_cons_zero, List.set_cons_succ])
            refine take_at 17 99 (.bool false) rfl rfl (by kernel_rfl) (by kernel_rfl) (by kernel_rfl) (fun _ _ _ h => h) (Or.inl ⟨by kernel_rfl, fun w' hS' => by go_simp⟩) hHeld ?_
            (try simp only [Act.put, List.setIfInBounds_toArray, List.set_cons_zero, List.set_cons_succ])
            refine take_at 18 100 (.bool true) rfl rfl (by kernel_rfl) (by kernel_rfl) (by kernel_rfl) (fun _ _ _ h => h) (Or.inl ⟨by kernel_rfl, fun w' hS' => by go_simp⟩) hHeld ?_
            (try simp only [Act.put, List.setIfInBounds_toArray, List.set_cons_zero, List.set_cons_succ])
            refine take_at 19 101 (.bool true) rfl rfl (by kernel_rfl) (by kernel_rfl) (by kernel_rfl) (fun _ _ _ h => h) (Or.inl ⟨by kernel_rfl, fun w' hS' => by go_simp⟩) hHeld ?_
            (try simp only [Act.put, List.setIfInBounds_toArray, List.set_cons_zero, List.set_cons_succ])
            refine take_at 20 102 (undef) rfl rfl (by kernel_rfl) (by kernel_rfl) (by kernel_rfl) (fun _ _ _ h => h) (Or.inr ⟨by kernel_rfl, rfl⟩) hHeld ?_
            (try simp only [Act.put, List.setIfInBounds_toArray, List.set_cons_zero, List.set_cons_succ])
            refine take_at 21 103 (undef) rfl rfl (by kernel_rfl) (by kernel_rfl) (by kernel_rfl) (fun _ _ _ h => h) (Or.inr ⟨by kernel_rfl, rfl⟩) hHeld ?_
            (try simp only [Act.put, List.setIfInBounds_toArray, List.set_cons_zero, List.set_cons_succ])
            refine take_at 22 104 (undef) rfl rfl (by kernel_rfl) (by kernel_rfl) (by kernel_rfl) (fun _ _ _ h => h) (Or.inr ⟨by kernel_rfl, rfl⟩) hHeld ?_
            (try simp only [Act.put, List.setIfInBounds_toArray, List.set_cons_zero, List.set_cons_succ])
            refine take_at 23 105 (undef) rfl rfl (by kernel_rfl) (by kernel_rfl) (by kernel_rfl) (fun _ _ _ h => h) (Or.inr ⟨by kernel_rfl, rfl⟩) hHeld ?_
            (try simp only [Act.put, List.setIfInBounds_toArray, List.set_cons_zero, List.set_cons_succ])
            refine take_at 24 106 (undef) rfl rfl (by kernel_rfl) (by kernel_rfl) (by kernel_rfl) (fun _ _ _ h => h) (Or.inr ⟨by kernel_rfl, rfl⟩) hHeld ?_
            (try simp only [Act.put, List.setIfInBounds_toArray, List.set_cons_zero, List.set_cons_succ])
            refine take_at 25 107 (.bool true) rfl rfl (by kernel_rfl) (by kernel_rfl) (by kernel_rfl) (fun _ _ _ h => h) (Or.inl ⟨by kernel_rfl, fun w' hS' => by go_simp⟩) hHeld ?_
            (try simp only [Act.put, List.setIfInBounds_toArray, List.set_cons_zero, List.set_cons_succ])
            refine take_at 26 108 (.bool true) rfl rfl (by kernel_rfl) (by kernel_rfl) (by kernel_rfl) (fun _ _ _ h => h) (Or.inl ⟨by kernel_rfl, fun w' hS' => by go_simp⟩) hHeld ?_
            (try simp only [Act.put, List.setIfInBounds_toArray, List.set_cons_zero, List.set_cons_succ])
            refine take_at 27 109 (.bool true) rfl rfl (by kernel_rfl) (by kernel_rfl) (by kernel_rfl) (fun _ _ _ h => h) (Or.inl ⟨by kernel_rfl, fun w' hS' => by go_simp⟩) hHeld ?_
            (try simp only [Act.put, List.setIfInBounds_toArray, List.set_cons_zero, List.set_cons_succ])
            refine take_at 28 110 (.agg #[.int .i64 R, .int .i64 C, .slice a' n' c']) rfl rfl (by kernel_rfl) (by kernel_rfl) (by kernel_rfl) (fun _ _ _ h => h) (yieldsIf_load_row (by kernel_rfl) 25 (.tmp 5) rfl Tb rfl 25 #[.int .i64 R, .int .i64 C, .slice a' n' c'] (0, 0) _ (fun w' h => h.row 4 rfl) Try.underlying25 rfl tab_info) hHeld ?_
            (try simp only [Act.put, List.setIfInBounds_toArray, List.set_cons_zero, List.set_cons_succ])
            refine take_at 31 113 (.agg #[.int .i64 R, .int .i64 C, .slice a' n' c']) rfl rfl (by kernel_rfl) (by kernel_rfl) (by kernel_rfl) (fun _ _ _ h => h) (yieldsIf_load_row (by kernel_rfl) 25 (.tmp 5) rfl Tb rfl 25 #[.int .i64 R, .int .i64 C, .slice a' n' c'] (0, 0) _ (fun w' h => h.row 4 rfl) Try.underlying25 rfl tab_info) hHeld ?_
            (try simp only [Act.put, List.setIfInBounds_toArray, List.set_cons_zero, List.set_cons_succ])
            refine wpAnyH_ready (rs := [29]) (by kernel_rfl) (by simp) ?_
            refine AllReadyH.cons rfl (fun K hK => ?_) AllReadyH.nil
            go_simp
            go_at_call 22
            refine (implTableTurn_any R C a' n' c' l _ (hHeld.tab 4 rfl)).mono ?_
            intro e t1 hr
            obtain ⟨h1 | h1, hb⟩ := hr
            · exact absurd (h1.1.symm.trans HOK.out) (by simp)
            obtain ⟨-, ma, mc, ms, rfl, hO⟩ := h1
            obtain ⟨M, hM⟩ : ∃ M, l.length = M := ⟨_, rfl⟩
            rw [hM] at hO ⊢
            have HTU : Hid (Tab t1 ma M mc (turnL l)) := hO.tab
            clear hO hM
            go_wp2_with fail
            refine hK.out _ _ (hHeld.go hb) (fun hHeld => ?_)
            clear hK K
            (try simp only [Act.put, List.setIfInBounds_toArray, List.set_cons_zero, List.set_cons_succ])
            refine wpAnyH_ready (rs := [30]) (by kernel_rfl) (by simp) ?_
            refine AllReadyH.cons rfl (fun K hK => ?_) AllReadyH.nil
            go_simp
            go_at_call 27
            refine (lmMany_is HTI.out HTU.out htl HTT.out).mono ?_
            rintro e t2 ⟨rfl, hb⟩
            go_wp2_with fail
            refine hK.out _ _ (hHeld.go hb) (fun hHeld => ?_)
            clear hK K
            (try simp only [Act.put, List.setIfInBounds_toArray, List.set_cons_zero, List.set_cons_succ])
            refine wpAnyH_ready (rs := [32]) (by kernel_rfl) (by simp) ?_
            refine AllReadyH.cons rfl (fun K hK => ?_) AllReadyH.nil
            go_simp
            go_at_call 27
            refine (lmMany_is HM.out (hHeld.tab 4 rfl) hl30 HLT.out).mono ?_
            rintro e m5 ⟨rfl, hb⟩
            go_wp2_with fail
            refine hK.out _ _ (hHeld.go hb) (fun hHeld => ?_)
            clear hK K
            (try simp only [Act.put, List.setIfInBounds_toArray, List.set_cons_zero, List.set_cons_succ])
            refine take_at 33 115 (.bool true) rfl rfl (by kernel_rfl) (by kernel_rfl) (by kernel_rfl) (fun _ _ _ h => h) (Or.inl ⟨by kernel_rfl, fun w' hS' => by go_simp⟩) hHeld ?_
            (try simp only [Act.put, List.setIfInBounds_toArray, List.set_cons_zero, List.set_cons_succ])
            refine take_at 34 116 (.bool true) rfl rfl (by kernel_rfl) (by kernel_rfl) (by kernel_rfl) (fun _ _ _ h => h) (Or.inl ⟨by kernel_rfl, fun w' hS' => by go_simp⟩) hHeld ?_
            (try simp only [Act.put, List.setIfInBounds_toArray, List.set_cons_zero, List.set_cons_succ])
            refine take_at 35 4 (.bool true) rfl rfl (by kernel_rfl) (by kernel_rfl) (by kernel_rfl) (fun _ _ _ h => h) (Or.inl ⟨by kernel_rfl, fun w' hS' => by go_simp⟩) hHeld ?_
            (try simp only [Act.put, List.setIfInBounds_toArray, List.set_cons_zero, List.set_cons_succ])
            refine wpAnyH_done (by kernel_rfl) ?_ _
            refine NoPanic.normal ?_
            replace HH : Hid (Hold w [(Ob, #[.int .i64 0, .int .i64 0, .slice Oa On Oc], 25), (Yb, #[.int .i64 R, .int .i64 C, .slice Ya Yn Yc], 25), (Xb, #[.int .i64 (R + 1), .int .i64 C, .slice Xa Xn Xc], 25), (Wb, #[.int .i64 (R + 1), .int .i64 C, .slice Wa Wn Wc], 25), (Tb, #[.int .i64 R, .int .i64 C, .slice a' n' c'], 25)] [(Oa, On, Oc, []), (Ya, Yn, Yc, (splitL l ((nb : Int) % (n' : Int)))), (Xa, Xn, Xc, (inL t' C l)), (Wa, Wn, Wc, (inL t' C l)), (a', n', c', l)] _) := hHeld
            clear hHeld
            go_wp2_with fail
            go_ret
            exact ⟨rfl, HH.out.1⟩
        · go_cut [13, 14] (fun yv bv wx => ∃ (Ob : Nat) (Oa : Option Addr) (On Oc : Nat), yv = .pointer (some ⟨Ob, 0, none⟩) ∧ bv = .bool true ∧ Hold w [(Ob, #[.int .i64 (R - 1), .int .i64 C, .slice Oa On Oc], 25), (Yb, #[.int .i64 R, .int .i64 C, .slice Ya Yn Yc], 25), (Xb, #[.int .i64 (R + 1), .int .i64 C, .slice Xa Xn Xc], 25), (Wb, #[.int .i64 (R + 1), .int .i64 C, .slice Wa Wn Wc], 25), (Tb, #[.int .i64 R, .int .i64 C, .slice a' n' c'], 25)] [(Oa, On, Oc, (outL ((nb : Int) % R) l)), (Ya, Yn, Yc, (splitL l ((nb : Int) % (n' : Int)))), (Xa, Xn, Xc, (inL t' C l)), (Wa, Wn, Wc, (inL t' C l)), (a', n', c', l)] wx)
          case first =>
            refine wp_region_noPanic ?_
            refine wp_region_held_drew (S := fun w' => Hold w [(Yb, #[.int .i64 R, .int .i64 C, .slice Ya Yn Yc], 25), (Xb, #[.int .i64 (R + 1), .int .i64 C, .slice Xa Xn Xc], 25), (Wb, #[.int .i64 (R + 1), .int .i64 C, .slice Wa Wn Wc], 25), (Tb, #[.int .i64 R, .int .i64 C, .slice a' n' c'], 25)] [(Ya, Yn, Yc, (splitL l ((nb : Int) % (n' : Int)))), (Xa, Xn, Xc, (inL t' C l)), (Wa, Wn, Wc, (inL t' C l)), (a', n', c', l)] w') (by kernel_rfl) HH.out.drew (fun hHeld => ?_)
            refine take_at 0 73 (.agg #[.int .i64 R, .int .i64 C, .slice a' n' c']) rfl rfl (by kernel_rfl) (by kernel_rfl) (by kernel_rfl) (fun _ _ _ h => h) (yieldsIf_load_row (by kernel_rfl) 25 (.tmp 5) rfl Tb rfl 25 #[.int .i64 R, .int .i64 C, .slice a' n' c'] (0, 0) _ (fun w' h => h.row 3 rfl) Try.underlying25 rfl tab_info) hHeld ?_
            (try simp only [Act.put, List.setIfInBounds_toArray, List.set_cons_zero, List.set_cons_succ])
            refine take_at 1 74 (.slice b nb capb) rfl rfl (by kernel_rfl) (by kernel_rfl) (by kernel_rfl) (fun _ _ _ h => h) (Or.inl ⟨by kernel_rfl, fun w' hS' => by go_simp⟩) hHeld ?_
            (try simp only [Act.put, List.setIfInBounds_toArray, List.set_cons_zero, List.set_cons_succ])
            refine take_at 2 75 (.int .i64 nb) rfl rfl (by kernel_rfl) (by kernel_rfl) (by kernel_rfl) (fun _ _ _ h => h) (Or.inl ⟨by kernel_rfl, fun w' hS' => by go_simp⟩) hHeld ?_
            (try simp only [Act.put, List.setIfInBounds_toArray, List.set_cons_zero, List.set_cons_succ])
            refine take_at 3 76 (.pointer (some ⟨Tb, 0, none⟩)) rfl rfl (by kernel_rfl) (by kernel_rfl) (by kernel_rfl) (fun _ _ _ h => h) (Or.inl ⟨by kernel_rfl, fun w' hS' => by go_simp⟩) hHeld ?_
            (try simp only [Act.put, List.setIfInBounds_toArray, List.set_cons_zero, List.set_cons_succ])
            refine take_at 4 77 (.int .i64 R) rfl rfl (by kernel_rfl) (by kernel_rfl) (by kernel_rfl) (fun _ _ _ h => h) (Or.inl ⟨by kernel_rfl, fun w' hS' => by have hc := RowAt.cell (hS'.row 3 rfl) 0; go_simp⟩) hHeld ?_
            (try simp only [Act.put, List.setIfInBounds_toArray, List.set_cons_zero, List.set_cons_succ])
            refine take_at 5 78 (.int .i64 ((nb : Int) % R)) rfl rfl (by kernel_rfl) (by kernel_rfl) (by kernel_rfl) (fun _ _ _ h => h) (Or.inl ⟨by kernel_rfl, fun w' hS' => by go_simp <;> exact Int.tmod_eq_emod_of_nonneg (by omega)⟩) hHeld ?_
            (try simp only [Act.put, List.setIfInBounds_toArray, List.set_cons_zero, List.set_cons_succ])
            generalize wc.drew = u0 at hHeld ⊢
            refine wpAnyH_ready (rs := [6, 10]) (by kernel_rfl) (by simp) ?_
            refine AllReadyH.cons rfl (fun K hK => ?_) (AllReadyH.cons rfl (fun K hK => ?_) AllReadyH.nil)
            · go_simp
              go_at_call 13
              refine (implTableRowOut_any R C ((nb : Int) % R) a' n' c' l _ (hHeld.tab 3 rfl)).mono ?_
              intro e u1 hr
              obtain ⟨hr1, hb⟩ := hr
              obtain ⟨Oa, On, Oc, rfl, hT⟩ := tabRes_t HCN.out hr1
              clear hr1
              have HB1 := (hHeld.go hb).behind hT #[.int .i64 0, .int .i64 0, .slice none 0 0] #[.int .i64 (R - 1), .int .i64 C, .slice Oa On Oc] 25
              clear hT
              go_wp2_with fail
              refine hK.out _ _ (hHeld.go hb) (fun hHeld => ?_)
              clear hK K hb
              (try simp only [Act.put, List.setIfInBounds_toArray, List.set_cons_zero, List.set_cons_succ])
              refine take_at 7 72 (.tuple #[.agg #[.int .i64 (R - 1), .int .i64 C, .slice Oa On Oc], .bool true]) rfl rfl (by kernel_rfl) (by kernel_rfl) (by kernel_rfl) (fun _ _ _ h => h) (Or.inl ⟨by kernel_rfl, fun w' hS' => by go_simp⟩) hHeld ?_
              (try simp only [Act.put, List.setIfInBounds_toArray, List.set_cons_zero, List.set_cons_succ])
              refine take_at 8 80 (.agg #[.int .i64 (R - 1), .int .i64 C, .slice Oa On Oc]) rfl rfl (by kernel_rfl) (by kernel_rfl) (by kernel_rfl) (fun _ _ _ h => h) (Or.inl ⟨by kernel_rfl, fun w' hS' => by go_simp⟩) hHeld ?_
              (try simp only [Act.put, List.setIfInBounds_toArray, List.set_cons_zero, List.set_cons_succ])
              refine take_at 9 81 (.bool true) rfl rfl (by kernel_rfl) (by kernel_rfl) (by kernel_rfl) (fun _ _ _ h => h) (Or.inl ⟨by kernel_rfl, fun w' hS' => by go_simp⟩) hHeld ?_
              (try simp only [Act.put, List.setIfInBounds_toArray, List.set_cons_zero, List.set_cons_succ])
              refine wpAnyH_ready (rs := [10]) (by kernel_rfl) (by simp) ?_
              refine AllReadyH.cons rfl (fun K hK => ?_) AllReadyH.nil
              go_simp
              refine hK.out _ _ (hHeld.go ((Below.refl _ _).alloc (Nat.le_refl _) _)) (fun hHeld => ?_)
              clear hK K
              (try simp only [Act.put, List.setIfInBounds_toArray, List.set_cons_zero, List.set_cons_succ])
              refine wpAnyH_ready (rs := [11]) (by kernel_rfl) (by simp) ?_
              refine AllReadyH.cons rfl (fun K hK => ?_) AllReadyH.nil
              rw [if_pos (by kernel_rfl)]
              refine wp_store_row 25 (.tmp 13) (.tmp 80) rfl u1.heap.size #[.int .i64 (R - 1), .int .i64 C, .slice Oa On Oc] rfl rfl 25 _ (rowAt_new u1 #[.int .i64 0, .int .i64 0, .slice none 0 0] 25) tab_info rfl (cells3_one _ _ _ _ _) ?_
              have HF : Hid (Hold w [(u1.heap.size, #[.int .i64 (R - 1), .int .i64 C, .slice Oa On Oc], 25), (Yb, #[.int .i64 R, .int .i64 C, .slice Ya Yn Yc], 25), (Xb, #[.int .i64 (R + 1), .int .i64 C, .slice Xa Xn Xc], 25), (Wb, #[.int .i64 (R + 1), .int .i64 C, .slice Wa Wn Wc], 25), (Tb, #[.int .i64 R, .int .i64 C, .slice a' n' c'], 25)] [(Oa, On, Oc, (outL ((nb : Int) % R) l)), (Ya, Yn, Yc, (splitL l ((nb : Int) % (n' : Int)))), (Xa, Xn, Xc, (inL t' C l)), (Wa, Wn, Wc, (inL t' C l)), (a', n', c', l)] ((u1.alloc (.cells #[.int .i64 0, .int .i64 0, .slice none 0 0] 25)).setRow u1.heap.size #[.int .i64 (R - 1), .int .i64 C, .slice Oa On Oc])) := HB1
              refine hK.out _ _ ⟨HF.out.1, fun r hr => HF.out.2.1 r (List.mem_cons_of_mem _ hr), fun t ht => HF.out.2.2 t (List.mem_cons_of_mem _ ht)⟩ (fun hHeld => ?_)
              clear hK K
              simp only [Act.put]
              refine take_at 12 14 (.bool true) rfl rfl (by kernel_rfl) (by kernel_rfl) (by kernel_rfl) (fun _ _ _ h => h) (Or.inl ⟨by kernel_rfl, fun w' hS' => by go_simp⟩) hHeld ?_
              (try simp only [Act.put, List.setIfInBounds_toArray])
              refine wpAnyH_done (by kernel_rfl) ?_ _
              refine NoPanic.normal ?_
              go_wp2_with fail
              go_meet
              exact ⟨_, Oa, On, Oc, rfl, rfl, HF.out⟩
            · go_simp
              have HA0 := hHeld
              refine hK.out _ _ (hHeld.go ((Below.refl _ _).alloc (Nat.le_refl _) _)) (fun hHeld => ?_)
              clear hK K
              (try simp only [Act.put, List.setIfInBounds_toArray, List.set_cons_zero, List.set_cons_succ])
              refine wpAnyH_ready (rs := [6]) (by kernel_rfl) (by simp) ?_
              refine AllReadyH.cons rfl (fun K hK => ?_) AllReadyH.nil
              go_simp
              go_at_call 13
              refine (implTableRowOut_any R C ((nb : Int) % R) a' n' c' l _ (hHeld.tab 3 rfl)).mono ?_
              intro e u1 hr
              obtain ⟨hr1, hb⟩ := hr
              obtain ⟨Oa, On, Oc, os, rfl, hO⟩ := tabRes_ot HCN.out hr1
              clear hr1
              have HB1 := HA0.ahead (cs := #[.int .i64 (R - 1), .int .i64 C, .slice Oa On Oc]) hb hO
              have HR1 := rowOf_ahead hb
              go_wp2_with fail
              refine hK.out _ _ (hHeld.go hb) (fun hHeld => ?_)
              clear hK K hb hO
              (try simp only [Act.put, List.setIfInBounds_toArray, List.set_cons_zero, List.set_cons_succ])
              refine take_at 7 72 (.tuple #[.agg #[.int .i64 (R - 1), .int .i64 C, .slice Oa On Oc], .bool true]) rfl rfl (by kernel_rfl) (by kernel_rfl) (by kernel_rfl) (fun _ _ _ h => h) (Or.inl ⟨by kernel_rfl, fun w' hS' => by go_simp⟩) hHeld ?_
              (try simp only [Act.put, List.setIfInBounds_toArray, List.set_cons_zero, List.set_cons_succ])
              refine take_at 8 80 (.agg #[.int .i64 (R - 1), .int .i64 C, .slice Oa On Oc]) rfl rfl (by kernel_rfl) (by kernel_rfl) (by kernel_rfl) (fun _ _ _ h => h) (Or.inl ⟨by kernel_rfl, fun w' hS' => by go_simp⟩) hHeld ?_
              (try simp only [Act.put, List.setIfInBounds_toArray, List.set_cons_zero, List.set_cons_succ])
              refine take_at 9 81 (.bool true) rfl rfl (by kernel_rfl) (by kernel_rfl) (by kernel_rfl) (fun _ _ _ h => h) (Or.inl ⟨by kernel_rfl, fun w' hS' => by go_simp⟩) hHeld ?_
              (try simp only [Act.put, List.setIfInBounds_toArray, List.set_cons_zero, List.set_cons_succ])
              refine wpAnyH_ready (rs := [11]) (by kernel_rfl) (by simp) ?_
              refine AllReadyH.cons rfl (fun K hK => ?_) AllReadyH.nil
              rw [if_pos (by kernel_rfl)]
              refine wp_store_row 25 (.tmp 13) (.tmp 80) rfl u0.heap.size #[.int .i64 (R - 1), .int .i64 C, .slice Oa On Oc] rfl rfl 25 _ HR1 tab_info rfl (cells3_one _ _ _ _ _) ?_
              have HF : Hid (Hold w [(u0.heap.size, #[.int .i64 (R - 1), .int .i64 C, .slice Oa On Oc], 25), (Yb, #[.int .i64 R, .int .i64 C, .slice Ya Yn Yc], 25), (Xb, #[.int .i64 (R + 1), .int .i64 C, .slice Xa Xn Xc], 25), (Wb, #[.int .i64 (R + 1), .int .i64 C, .slice Wa Wn Wc], 25), (Tb, #[.int .i64 R, .int .i64 C, .slice a' n' c'], 25)] [(Oa, On, Oc, (outL ((nb : Int) % R) l)), (Ya, Yn, Yc, (splitL l ((nb : Int) % (n' : Int)))), (Xa, Xn, Xc, (inL t' C l)), (Wa, Wn, Wc, (inL t' C l)), (a', n', c', l)] (u1.setRow u0.heap.size #[.int .i64 (R - 1), .int .i64 C, .slice Oa On Oc])) := HB1
              refine hK.out _ _ ⟨HF.out.1, fun r hr => HF.out.2.1 r (List.mem_cons_of_mem _ hr), fun t ht => HF.out.2.2 t (List.mem_cons_of_mem _ ht)⟩ (fun hHeld => ?_)
              clear hK K
              simp only [Act.put]
              refine take_at 12 14 (.bool true) rfl rfl (by kernel_rfl) (by kernel_rfl) (by kernel_rfl) (fun _ _ _ h => h) (Or.inl ⟨by kernel_rfl, fun w' hS' => by go_simp⟩) hHeld ?_
              (try simp only [Act.put, List.setIfInBounds_toArray])
              refine wpAnyH_done (by kernel_rfl) ?_ _
              refine NoPanic.normal ?_
              go_wp2_with fail
              go_meet
              exact ⟨_, Oa, On, Oc, rfl, rfl, HF.out⟩
          case rest =>
            clear HH
            obtain ⟨Ob, Oa, On, Oc, rfl, rfl, hh⟩ := hcut
            have HH : Hid (Hold w [(Ob, #[.int .i64 (R - 1), .int .i64 C, .slice Oa On Oc], 25), (Yb, #[.int .i64 R, .int .i64 C, .slice Ya Yn Yc], 25), (Xb, #[.int .i64 (R + 1), .int .i64 C, .slice Xa Xn Xc], 25), (Wb, #[.int .i64 (R + 1), .int .i64 C, .slice Wa Wn Wc], 25), (Tb, #[.int .i64 R, .int .i64 C, .slice a' n' c'], 25)] [(Oa, On, Oc, (outL ((nb : Int) % R) l)), (Ya, Yn, Yc, (splitL l ((nb : Int) % (n' : Int)))), (Xa, Xn, Xc, (inL t' C l)), (Wa, Wn, Wc, (inL t' C l)), (a', n', c', l)] wc) := hh
            clear hh
            have HXI : Hid (manyN (inL t' C l) = m) := (many_in t' C l).trans HM.out
            have HXS := ok_small (ok_in HC.out)
            have HXT : Hid (∀ y ∈ inL t' C l, y.2.2.2.2.length ≤ 30) := fun y hy => by have := HXS.2 y hy; omega
            have hxl : (inL t' C l).length ≤ 30 := by have := HXS.1; omega
            have HTI : Hid (manyN (turnL l) = m) := (many_turn l).trans HM.out
            have htl : (turnL l).length ≤ 30 := by rw [turnL_len]; exact hl30
            have HTT : Hid (∀ y ∈ turnL l, y.2.2.2.2.length ≤ 30) := turnL_txt HLT.out
            clear HXS
            have HYI : Hid (manyN (splitL l ((nb : Int) % (n' : Int))) = m) := (many_split HSP.out).trans HM.out
            have HYS : (splitL l ((nb : Int) % (n' : Int))).length ≤ 25 ∧ ∀ x ∈ splitL l ((nb : Int) % (n' : Int)), x.2.2.2.2.length ≤ 24 := by
              obtain ⟨p0, r0, c0, d0, g0, tx0, e0, hp0, hok0, E0, -⟩ := split_data HSP.out
              rw [e0]
              exact ok_small (ok_split hok0 hp0 E0)
            have HYT : Hid (∀ y ∈ splitL l ((nb : Int) % (n' : Int)), y.2.2.2.2.length ≤ 30) := fun y hy => by have := HYS.2 y hy; omega
            have hyl : (splitL l ((nb : Int) % (n' : Int))).length ≤ 30 := by have := HYS.1; omega
            clear HYS
            obtain ⟨mo, HOI⟩ : ∃ m, Hid (manyN (outL ((nb : Int) % R) l) = m) := ⟨_, rfl⟩
            have hmo : mo ≤ m := by have h1 := many_out ((nb : Int) % R) l; have h2 := HOI.out; have h3 := HM.out; omega
            have hmo' : (mo : Int) ≤ (m : Int) := by omega
            have HOS := ok_small (ok_out HCN.out)
            have HOT : Hid (∀ y ∈ outL ((nb : Int) % R) l, y.2.2.2.2.length ≤ 30) := fun y hy => by have := HOS.2 y hy; omega
            have hol : (outL ((nb : Int) % R) l).length ≤ 30 := by have := HOS.1; omega
            clear HOS
            go_upto_region 10 with fail
            refine wp_region_noPanic ?_
            refine wp_region_held_drew (S := fun w' => Hold w [(Ob, #[.int .i64 (R - 1), .int .i64 C, .slice Oa On Oc], 25), (Yb, #[.int .i64 R, .int .i64 C, .slice Ya Yn Yc], 25), (Xb, #[.int .i64 (R + 1), .int .i64 C, .slice Xa Xn Xc], 25), (Wb, #[.int .i64 (R + 1), .int .i64 C, .slice Wa Wn Wc], 25), (Tb, #[.int .i64 R, .int .i64 C, .slice a' n' c'], 25)] [(Oa, On, Oc, (outL ((nb : Int) % R) l)), (Ya, Yn, Yc, (splitL l ((nb : Int) % (n' : Int)))), (Xa, Xn, Xc, (inL t' C l)), (Wa, Wn, Wc, (inL t' C l)), (a', n', c', l)] w') (by kernel_rfl) HH.out.drew (fun hHeld => ?_)
            refine take_at 0 82 (.agg #[.int .i64 (R + 1), .int .i64 C, .slice Xa Xn Xc]) rfl rfl (by kernel_rfl) (by kernel_rfl) (by kernel_rfl) (fun _ _ _ h => h) (yieldsIf_load_row (by kernel_rfl) 25 (.tmp 9) rfl Xb rfl 25 #[.int .i64 (R + 1), .int .i64 C, .slice Xa Xn Xc] (0, 0) _ (fun w' h => h.row 2 rfl) Try.underlying25 rfl tab_info) hHeld ?_
            (try simp only [Act.put, List.setIfInBounds_toArray, List.set_cons_zero, List.set_cons_succ])
            refine take_at 2 84 (.agg #[.int .i64 R, .int .i64 C, .slice a' n' c']) rfl rfl (by kernel_rfl) (by kernel_rfl) (by kernel_rfl) (fun _ _ _ h => h) (yieldsIf_load_row (by kernel_rfl) 25 (.tmp 5) rfl Tb rfl 25 #[.int .i64 R, .int .i64 C, .slice a' n' c'] (0, 0) _ (fun w' h => h.row 4 rfl) Try.underlying25 rfl tab_info) hHeld ?_
            (try simp only [Act.put, List.setIfInBounds_toArray, List.set_cons_zero, List.set_cons_succ])
            refine wpAnyH_ready (rs := [1]) (by kernel_rfl) (by simp) ?_
            refine AllReadyH.cons rfl (fun K hK => ?_) AllReadyH.nil
            go_simp
            go_at_call 27
            refine (lmMany_is HXI.out (hHeld.tab 2 rfl) hxl HXT.out).mono ?_
            rintro e m1 ⟨rfl, hb⟩
            go_wp2_with fail
            refine hK.out _ _ (hHeld.go hb) (fun hHeld => ?_)
            clear hK K
            (try simp only [Act.put, List.setIfInBounds_toArray, List.set_cons_zero, List.set_cons_succ])
            refine wpAnyH_ready (rs := [3]) (by kernel_rfl) (by simp) ?_
            refine AllReadyH.cons rfl (fun K hK => ?_) AllReadyH.nil
            go_simp
            go_at_call 27
            refine (lmMany_is HM.out (hHeld.tab 4 rfl) hl30 HLT.out).mono ?_
            rintro e m2 ⟨rfl, hb⟩
            go_wp2_with fail
            refine hK.out _ _ (hHeld.go hb) (fun hHeld => ?_)
            clear hK K
            (try simp only [Act.put, List.setIfInBounds_toArray, List.set_cons_zero, List.set_cons_succ])
            refine take_at 4 86 (.bool true) rfl rfl (by kernel_rfl) (by kernel_rfl) (by kernel_rfl) (fun _ _ _ h => h) (Or.inl ⟨by kernel_rfl, fun w' hS' => by go_simp⟩) hHeld ?_
            (try simp only [Act.put, List.setIfInBounds_toArray, List.set_cons_zero, List.set_cons_succ])
            refine take_at 5 87 (.bool true) rfl rfl (by kernel_rfl) (by kernel_rfl) (by kernel_rfl) (fun _ _ _ h => h) (Or.inl ⟨by kernel_rfl, fun w' hS' => by go_simp⟩) hHeld ?_
            (try simp only [Act.put, List.setIfInBounds_toArray, List.set_cons_zero, List.set_cons_succ])
            refine take_at 6 88 (.bool true) rfl rfl (by kernel_rfl) (by kernel_rfl) (by kernel_rfl) (fun _ _ _ h => h) (Or.inl ⟨by kernel_rfl, fun w' hS' => by go_simp⟩) hHeld ?_
            (try simp only [Act.put, List.setIfInBounds_toArray, List.set_cons_zero, List.set_cons_succ])
            refine take_at 7 89 (.bool false) rfl rfl (by kernel_rfl) (by kernel_rfl) (by kernel_rfl) (fun _ _ _ h => h) (Or.inl ⟨by kernel_rfl, fun w' hS' => by go_simp⟩) hHeld ?_
            (try simp only [Act.put, List.setIfInBounds_toArray, List.set_cons_zero, List.set_cons_succ])
            refine take_at 8 90 (.bool false) rfl rfl (by kernel_rfl) (by kernel_rfl) (by kernel_rfl) (fun _ _ _ h => h) (Or.inl ⟨by kernel_rfl, fun w' hS' => by go_simp⟩) hHeld ?_
            (try simp only [Act.put, List.setIfInBounds_toArray, List.set_cons_zero, List.set_cons_succ])
            refine take_at 9 91 (.agg #[.int .i64 R, .int .i64 C, .slice Ya Yn Yc]) rfl rfl (by kernel_rfl) (by kernel_rfl) (by kernel_rfl) (fun _ _ _ h => h) (yieldsIf_load_row (by kernel_rfl) 25 (.tmp 11) rfl Yb rfl 25 #[.int .i64 R, .int .i64 C, .slice Ya Yn Yc] (0, 0) _ (fun w' h => h.row 1 rfl) Try.underlying25 rfl tab_info) hHeld ?_
            (try simp only [Act.put, List.setIfInBounds_toArray, List.set_cons_zero, List.set_cons_succ])
            refine take_at 11 93 (.agg #[.int .i64 R, .int .i64 C, .slice a' n' c']) rfl rfl (by kernel_rfl) (by kernel_rfl) (by kernel_rfl) (fun _ _ _ h => h) (yieldsIf_load_row (by kernel_rfl) 25 (.tmp 5) rfl Tb rfl 25 #[.int .i64 R, .int .i64 C, .slice a' n' c'] (0, 0) _ (fun w' h => h.row 4 rfl) Try.underlying25 rfl tab_info) hHeld ?_
            (try simp only [Act.put, List.setIfInBounds_toArray, List.set_cons_zero, List.set_cons_succ])
            refine wpAnyH_ready (rs := [10]) (by kernel_rfl) (by simp) ?_
            refine AllReadyH.cons rfl (fun K hK => ?_) AllReadyH.nil
            go_simp
            go_at_call 27
            refine (lmMany_is HYI.out (hHeld.tab 1 rfl) hyl HYT.out).mono ?_
            rintro e m3 ⟨rfl, hb⟩
            go_wp2_with fail
            refine hK.out _ _ (hHeld.go hb) (fun hHeld => ?_)
            clear hK K
            (try simp only [Act.put, List.setIfInBounds_toArray, List.set_cons_zero, List.set_cons_succ])
            refine wpAnyH_ready (rs := [12]) (by kernel_rfl) (by simp) ?_
            refine AllReadyH.cons rfl (fun K hK => ?_) AllReadyH.nil
            go_simp
            go_at_call 27
            refine (lmMany_is HM.out (hHeld.tab 4 rfl) hl30 HLT.out).mono ?_
            rintro e m4 ⟨rfl, hb⟩
            go_wp2_with fail
            refine hK.out _ _ (hHeld.go hb) (fun hHeld => ?_)
            clear hK K
            (try simp only [Act.put, List.setIfInBounds_toArray, List.set_cons_zero, List.set_cons_succ])
            refine take_at 13 95 (.bool true) rfl rfl (by kernel_rfl) (by kernel_rfl) (by kernel_rfl) (fun _ _ _ h => h) (Or.inl ⟨by kernel_rfl, fun w' hS' => by go_simp⟩) hHeld ?_
            (try simp only [Act.put, List.setIfInBounds_toArray, List.set_cons_zero, List.set_cons_succ])
            refine take_at 14 96 (.bool true) rfl rfl (by kernel_rfl) (by kernel_rfl) (by kernel_rfl) (fun _ _ _ h => h) (Or.inl ⟨by kernel_rfl, fun w' hS' => by go_simp⟩) hHeld ?_
            (try simp only [Act.put, List.setIfInBounds_toArray, List.set_cons_zero, List.set_cons_succ])
            refine take_at 15 97 (.bool true) rfl rfl (by kernel_rfl) (by kernel_rfl) (by kernel_rfl) (fun _ _ _ h => h) (Or.inl ⟨by kernel_rfl, fun w' hS' => by go_simp⟩) hHeld ?_
            (try simp only [Act.put, List.setIfInBounds_toArray, List.set_cons_zero, List.set_cons_succ])
            refine take_at 16 98 (.bool true) rfl rfl (by kernel_rfl) (by kernel_rfl) (by kernel_rfl) (fun _ _ _ h => h) (Or.inl ⟨by kernel_rfl, fun w' hS' => by go_simp⟩) hHeld ?_
            (try simp only [Act.put, List.setIfInBounds_toArray, List.set_cons_zero, List.set_cons_succ])
            refine take_at 17 99 (.bool true) rfl rfl (by kernel_rfl) (by kernel_rfl) (by kernel_rfl) (fun _ _ _ h => h) (Or.inl ⟨by kernel_rfl, fun w' hS' => by go_simp⟩) hHeld ?_
            (try simp only [Act.put, List.setIfInBounds_toArray, List.set_cons_zero, List.set_cons_succ])
            refine take_at 18 100 (.bool false) rfl rfl (by kernel_rfl) (by kernel_rfl) (by kernel_rfl) (fun _ _ _ h => h) (Or.inl ⟨by kernel_rfl, fun w' hS' => by go_simp⟩) hHeld ?_
            (try simp only [Act.put, List.setIfInBounds_toArray, List.set_cons_zero, List.set_cons_succ])
            refine take_at 19 101 (.bool false) rfl rfl (by kernel_rfl) (by kernel_rfl) (by kernel_rfl) (fun _ _ _ h => h) (Or.inl ⟨by kernel_rfl, fun w' hS' => by go_simp⟩) hHeld ?_
            (try simp only [Act.put, List.setIfInBounds_toArray, List.set_cons_zero, List.set_cons_succ])
            refine take_at 20 102 (.agg #[.int .i64 (R - 1), .int .i64 C, .slice Oa On Oc]) rfl rfl (by kernel_rfl) (by kernel_rfl) (by kernel_rfl) (fun _ _ _ h => h) (yieldsIf_load_row (by kernel_rfl) 25 (.tmp 13) rfl Ob rfl 25 #[.int .i64 (R - 1), .int .i64 C, .slice Oa On Oc] (0, 0) _ (fun w' h => h.row 0 rfl) Try.underlying25 rfl tab_info) hHeld ?_
            (try simp only [Act.put, List.setIfInBounds_toArray, List.set_cons_zero, List.set_cons_succ])
            refine take_at 22 104 (.agg #[.int .i64 R, .int .i64 C, .slice a' n' c']) rfl rfl (by kernel_rfl) (by kernel_rfl) (by kernel_rfl) (fun _ _ _ h => h) (yieldsIf_load_row (by kernel_rfl) 25 (.tmp 5) rfl Tb rfl 25 #[.int .i64 R, .int .i64 C, .slice a' n' c'] (0, 0) _ (fun w' h => h.row 4 rfl) Try.underlying25 rfl tab_info) hHeld ?_
            (try simp only [Act.put, List.setIfInBounds_toArray, List.set_cons_zero, List.set_cons_succ])
            refine wpAnyH_ready (rs := [21]) (by kernel_rfl) (by simp) ?_
            refine AllReadyH.cons rfl (fun K hK => ?_) AllReadyH.nil
            go_simp
            go_at_call 27
            refine (lmMany_is HOI.out (hHeld.tab 0 rfl) hol HOT.out).mono ?_
            rintro e m5 ⟨rfl, hb⟩
            go_wp2_with fail
            refine hK.out _ _ (hHeld.go hb) (fun hHeld => ?_)
            clear hK K
            (try simp only [Act.put, List.setIfInBounds_toArray, List.set_cons_zero, List.set_cons_succ])
            refine wpAnyH_ready (rs := [23]) (by kernel_rfl) (by simp) ?_
            refine AllReadyH.cons rfl (fun K hK => ?_) AllReadyH.nil
            go_simp
            go_at_call 27
            refine (lmMany_is HM.out (hHeld.tab 4 rfl) hl30 HLT.out).mono ?_
            rintro e m6 ⟨rfl, hb⟩
            go_wp2_with fail
            refine hK.out _ _ (hHeld.go hb) (fun hHeld => ?_)
            clear hK K
            (try simp only [Act.put, List.setIfInBounds_toArray, List.set_cons_zero, List.set_cons_succ])
            refine take_at 24 106 (.bool true) rfl rfl (by kernel_rfl) (by kernel_rfl) (by kernel_rfl) (fun _ _ _ h => h) (Or.inl ⟨by kernel_rfl, fun w' hS' => by go_simp⟩) hHeld ?_
            (try simp only [Act.put, List.setIfInBounds_toArray, List.set_cons_zero, List.set_cons_succ])
            refine take_at 25 107 (.bool true) rfl rfl (by kernel_rfl) (by kernel_rfl) (by kernel_rfl) (fun _ _ _ h => h) (Or.inl ⟨by kernel_rfl, fun w' hS' => by go_simp⟩) hHeld ?_
            (try simp only [Act.put, List.setIfInBounds_toArray, List.set_cons_zero, List.set_cons_succ])
            refine take_at 26 108 (.bool true) rfl rfl (by kernel_rfl) (by kernel_rfl) (by kernel_rfl) (fun _ _ _ h => h) (Or.inl ⟨by kernel_rfl, fun w' hS' => by go_simp⟩) hHeld ?_
            (try simp only [Act.put, List.setIfInBounds_toArray, List.set_cons_zero, List.set_cons_succ])
            refine take_at 27 109 (.bool true) rfl rfl (by kernel_rfl) (by kernel_rfl) (by kernel_rfl) (fun _ _ _ h => h) (Or.inl ⟨by kernel_rfl, fun w' hS' => by go_simp⟩) hHeld ?_
            (try simp only [Act.put, List.setIfInBounds_toArray, List.set_cons_zero, List.set_cons_succ])
            refine take_at 28 110 (.agg #[.int .i64 R, .int .i64 C, .slice a' n' c']) rfl rfl (by kernel_rfl) (by kernel_rfl) (by kernel_rfl) (fun _ _ _ h => h) (yieldsIf_load_row (by kernel_rfl) 25 (.tmp 5) rfl Tb rfl 25 #[.int .i64 R, .int .i64 C, .slice a' n' c'] (0, 0) _ (fun w' h => h.row 4 rfl) Try.underlying25 rfl tab_info) hHeld ?_
            (try simp only [Act.put, List.setIfInBounds_toArray, List.set_cons_zero, List.set_cons_succ])
            refine take_at 31 113 (.agg #[.int .i64 R, .int .i64 C, .slice a' n' c']) rfl rfl (by kernel_rfl) (by kernel_rfl) (by kernel_rfl) (fun _ _ _ h => h) (yieldsIf_load_row (by kernel_rfl) 25 (.tmp 5) rfl Tb rfl 25 #[.int .i64 R, .int .i64 C, .slice a' n' c'] (0, 0) _ (fun w' h => h.row 4 rfl) Try.underlying25 rfl tab_info) hHeld ?_
            (try simp only [Act.put, List.setIfInBounds_toArray, List.set_cons_zero, List.set_cons_succ])
            refine wpAnyH_ready (rs := [29]) (by kernel_rfl) (by simp) ?_
            refine AllReadyH.cons rfl (fun K hK => ?_) AllReadyH.nil
            go_simp
            go_at_call 22
            refine (implTableTurn_any R C a' n' c' l _ (hHeld.tab 4 rfl)).mono ?_
            intro e t1 hr
            obtain ⟨h1 | h1, hb⟩ := hr
            · exact absurd (h1.1.symm.trans HOK.out) (by simp)
            obtain ⟨-, ma, mc, ms, rfl, hO⟩ := h1
            obtain ⟨M, hM⟩ : ∃ M, l.length = M := ⟨_, rfl⟩
            rw [hM] at hO ⊢
            have HTU : Hid (Tab t1 ma M mc (turnL l)) := hO.tab
            clear hO hM
            go_wp2_with fail
            refine hK.out _ _ (hHeld.go hb) (fun hHeld => ?_)
            clear hK K
            (try simp only [Act.put, List.setIfInBounds_toArray, List.set_cons_zero, List.set_cons_succ])
            refine wpAnyH_ready (rs := [30]) (by kernel_rfl) (by simp) ?_
            refine AllReadyH.cons rfl (fun K hK => ?_) AllReadyH.nil
            go_simp
            go_at_call 27
            refine (lmMany_is HTI.out HTU.out htl HTT.out).mono ?_
            rintro e t2 ⟨rfl, hb⟩
            go_wp2_with fail
            refine hK.out _ _ (hHeld.go hb) (fun hHeld => ?_)
            clear hK K
            (try simp only [Act.put, List.setIfInBounds_toArray, List.set_cons_zero, List.set_cons_succ])
            refine wpAnyH_ready (rs := [32]) (by kernel_rfl) (by simp) ?_
            refine AllReadyH.cons rfl (fun K hK => ?_) AllReadyH.nil
            go_simp
            go_at_call 27
            refine (lmMany_is HM.out (hHeld.tab 4 rfl) hl30 HLT.out).mono ?_
            rintro e m7 ⟨rfl, hb⟩
            go_wp2_with fail
            refine hK.out _ _ (hHeld.go hb) (fun hHeld => ?_)
            clear hK K
            (try simp only [Act.put, List.setIfInBounds_toArray, List.set_cons_zero, List.set_cons_succ])
            refine take_at 33 115 (.bool true) rfl rfl (by kernel_rfl) (by kernel_rfl) (by kernel_rfl) (fun _ _ _ h => h) (Or.inl ⟨by kernel_rfl, fun w' hS' => by go_simp⟩) hHeld ?_
            (try simp only [Act.put, List.setIfInBounds_toArray, List.set_cons_zero, List.set_cons_succ])
            refine take_at 34 116 (.bool true) rfl rfl (by kernel_rfl) (by kernel_rfl) (by kernel_rfl) (fun _ _ _ h => h) (Or.inl ⟨by kernel_rfl, fun w' hS' => by go_simp⟩) hHeld ?_
            (try simp only [Act.put, List.setIfInBounds_toArray, List.set_cons_zero, List.set_cons_succ])
            refine take_at 35 4 (.bool true) rfl rfl (by kernel_rfl) (by kernel_rfl) (by kernel_rfl) (fun _ _ _ h => h) (Or.inl ⟨by kernel_rfl, fun w' hS' => by go_simp⟩) hHeld ?_
            (try simp only [Act.put, List.setIfInBounds_toArray, List.set_cons_zero, List.set_cons_succ])
            refine wpAnyH_done (by kernel_rfl) ?_ _
            refine NoPanic.normal ?_
            replace HH : Hid (Hold w [(Ob, #[.int .i64 (R - 1), .int .i64 C, .slice Oa On Oc], 25), (Yb, #[.int .i64 R, .int .i64 C, .slice Ya Yn Yc], 25), (Xb, #[.int .i64 (R + 1), .int .i64 C, .slice Xa Xn Xc], 25), (Wb, #[.int .i64 (R + 1), .int .i64 C, .slice Wa Wn Wc], 25), (Tb, #[.int .i64 R, .int .i64 C, .slice a' n' c'], 25)] [(Oa, On, Oc, (outL ((nb : Int) % R) l)), (Ya, Yn, Yc, (splitL l ((nb : Int) % (n' : Int)))), (Xa, Xn, Xc, (inL t' C l)), (Wa, Wn, Wc, (inL t' C l)), (a', n', c', l)] _) := hHeld
            clear hHeld
            go_wp2_with fail
            go_ret
            exact ⟨rfl, HH.out.1⟩
end Go.Proofs.Ytbigbbfbikhjdaa
