import Derived.Test.YtbigbbfbikhjdabBD2
import Derived.Test.YtbigbbfbikhjdabBA2
import Derived.Test.YtbigbbfbikhjdabBI1
import Derived.Test.YtbigbbfbikhjdabBO1
import Derived.Test.YtbigbbfbikhjdabBA3
import Derived.Test.YtbigbbfbikhjdabBC1
import Derived.Test.YtbigbbfbikhjdabBA1
namespace Go.Proofs.Ytbigbbfbikhjdab
open Go.RowKit

theorem tabSp_turn {R C : Int} {l : List Cl} (h : TabSp R C l) : TabSp (tX R C l) (tY R C l) (tL R C l) := by
  obtain ⟨h1, h2, h3, h4⟩ := h
  unfold tX tY tL
  by_cases ho : okB R C l = true
  · rw [if_pos ho, if_pos ho, if_pos ho]
    exact ⟨h2, h1, by rw [turnL_len]; exact h3, turnL_txt h4⟩
  · rw [if_neg ho, if_neg ho, if_neg ho]
    exact ⟨by omega, by omega, by simp, by simp⟩
end Go.Proofs.Ytbigbbfbikhjdab
namespace Go.Proofs.Ytbigbbfbikhjdab
open Go.RowKit

set_option maxRecDepth 100000 in
set_option maxHeartbeats 8000000 in
theorem drawTableColIn_any (B : Nat) (a : Option Addr) (n cap : Nat) (zs : List Int) (w : World) (h : Byt B w a n cap zs) (hB : B ≤ w.heap.size) :
    Calls Try.prog 16 #[.slice a n cap] w fun e w' => (∃ (R C : Int) (a' : Option Addr) (n' c' : Nat) (l : List Cl) (at' : Int), e = .returned (.tuple #[.agg #[.int .i64 R, .int .i64 C, .slice a' n' c'], .int .i64 at']) ∧ Tab w' a' n' c' l ∧ TabSp R C l ∧ (-20 ≤ at' ∧ at' ≤ 20)) ∧ Below w.heap.size w w' := by
  have HY : Hid (Byt B w a n cap zs) := h
  clear h
  go_enter Try.func16, Try.ntmps16
  go_upto_region 1 with fail
  have B0 : Below w.heap.size w (w.alloc (.cells #[.int .i64 0, .int .i64 0, .slice none 0 0] 25)) := (Below.refl _ _).alloc (Nat.le_refl _) _
  have Z0 : RowAt (w.alloc (.cells #[.int .i64 0, .int .i64 0, .slice none 0 0] 25)) w.heap.size #[.int .i64 0, .int .i64 0, .slice none 0 0] 25 := rowAt_new _ _ _
  have HY0 : Hid (Byt B (w.alloc (.cells #[.int .i64 0, .int .i64 0, .slice none 0 0] 25)) a n cap zs) := HY.out.belowC B0 hB
  generalize (w.alloc (.cells #[.int .i64 0, .int .i64 0, .slice none 0 0] 25)) = v0 at B0 Z0 HY0 ⊢
  have s0 := B0.size
  have zz := Z0.lt
  go_wp2_with fail
  refine (l6Open_any B a n cap zs _ HY0.out (by omega)).mono ?_
  rintro e w1 ⟨rfl, hr1, hb1⟩
  have s1 := hb1.size
  have HR1 : Hid (Rd B w1 v0.heap.size 0) := hr1
  clear hr1
  go_wp2_with fail
  refine (l71Row_any B _ 0 _ HR1.out (by omega)).mono ?_
  rintro e w2 ⟨R, C, a', n', c', l, q, at', rfl, ⟨rs, hX2⟩, hS2, hat, hr2, hq2, hf2⟩
  have HX2 : Hid (OwnX w2 w1.heap.size (.slice a' n' c') rs l) := hX2
  have HZ2 : Hid (RowAt w2 w.heap.size #[.int .i64 0, .int .i64 0, .slice none 0 0] 25) := (Z0.below hb1 zz).fr hf2 (by omega)
  have HB2 : Hid (Below w.heap.size w w2) := below_of_fr3 B0 hb1 hf2 (by omega) s0
  have HS : Hid (TabSp R C l) := hS2
  clear hX2 hr2 hS2
  go_upto_region 3 with fail
  have G3 : RowAt (w2.alloc (.cells #[.int .i64 R, .int .i64 C, .slice a' n' c'] 25)) w2.heap.size #[.int .i64 R, .int .i64 C, .slice a' n' c'] 25 := rowAt_new _ _ _
  have Z3 : RowAt (w2.alloc (.cells #[.int .i64 R, .int .i64 C, .slice a' n' c'] 25)) w.heap.size #[.int .i64 0, .int .i64 0, .slice none 0 0] 25 := HZ2.out.alloc _
  have T3 : Tab (w2.alloc (.cells #[.int .i64 R, .int .i64 C, .slice a' n' c'] 25)) a' n' c' l := HX2.out.tab.below ((Below.refl _ _).alloc (Nat.le_refl _) _)
  have B3 : Below w.heap.size w (w2.alloc (.cells #[.int .i64 R, .int .i64 C, .slice a' n' c'] 25)) := HB2.out.alloc HB2.out.size _
  generalize (w2.alloc (.cells #[.int .i64 R, .int .i64 C, .slice a' n' c'] 25)) = v3 at G3 Z3 T3 B3 ⊢
  obtain ⟨Tb, hTe⟩ : ∃ T, w2.heap.size = T := ⟨_, rfl⟩
  rw [hTe] at G3 ⊢
  have HG3 : Hid (RowAt v3 Tb #[.int .i64 R, .int .i64 C, .slice a' n' c'] 25) := G3
  have HZ3 : Hid (RowAt v3 w.heap.size #[.int .i64 0, .int .i64 0, .slice none 0 0] 25) := Z3
  have HT3 : Hid (Tab v3 a' n' c' l) := T3
  have HB3 : Hid (Below w.heap.size w v3) := B3
  have s3 := B3.size
  have z3 := Z3.lt
  clear G3 Z3 T3 B3 HX2 HZ2 HB2 hTe hf2
  go_wp2_with (first | (refine wpList_load_row rfl 25 (.tmp 5) rfl Tb rfl 25 #[.int .i64 R, .int .i64 C, .slice a' n' c'] (0, 0) _ HG3.out Try.underlying25 rfl tab_info ?_) | (go_at_call 34; refine (specTableTurn_any R C a' n' c' l _ HT3.out).mono ?_; intro e w4 hr; obtain ⟨⟨x, y, a4, n4, c4, l4, rs4, rfl, hO4, hx4, hy4, hl4⟩, hb4⟩ := tRes_of hr; have HO4 : Hid (OwnT w4 v3.heap.size (.slice a4 n4 c4) rs4 l4) := hO4; have HZ4 : Hid (RowAt w4 w.heap.size #[.int .i64 0, .int .i64 0, .slice none 0 0] 25) := HZ3.out.below hb4 z3; have HB4 : Hid (Below w.heap.size w w4) := HB3.out.trans (hb4.mono s3); have HDX : Hid (x = tX R C l ∧ y = tY R C l ∧ l4 = tL R C l) := ⟨hx4, hy4, hl4⟩; clear hr hx4 hy4 hl4 hO4 hb4) | (refine wpList_store_row rfl 25 (.tmp 2) (.tmp 15) rfl w.heap.size #[.int .i64 x, .int .i64 y, .slice a4 n4 c4] rfl rfl 25 _ HZ4.out tab_info rfl (cells3_one _ _ _ _ _) ?_))
  have hsp : TabSp x y l4 := by
    obtain ⟨e1, e2, e3⟩ := HDX.out
    rw [e1, e2, e3]
    exact tabSp_turn HS.out
  refine bodyPost_ret (v := .tuple #[.agg #[.int .i64 x, .int .i64 y, .slice a4 n4 c4], .int .i64 at']) ?_ rfl ⟨⟨x, y, a4, n4, c4, l4, at', rfl, (HO4.out.setRowT HZ4.out _).tab, hsp, hat⟩, below_row HB4.out (Nat.le_refl _) _⟩
  rw [results_cell_tmp rfl]
  simp [asAddr, Result.andThen, run_tabOf (RowAt.setRow HZ4.out #[.int .i64 x, .int .i64 y, .slice a4 n4 c4])]
end Go.Proofs.Ytbigbbfbikhjdab
namespace Go.Proofs.Ytbigbbfbikhjdab
open Go.RowKit

theorem ok_turnI {R C : Int} {l : List Cl} (h : okB R C l = true) : okB C R (turnL l) = true := by
  obtain ⟨hR, hC, _, _⟩ := gridP_of_okB h
  obtain ⟨R, rfl⟩ : ∃ z : Nat, R = z := ⟨R.toNat, by omega⟩
  obtain ⟨C, rfl⟩ : ∃ z : Nat, C = z := ⟨C.toNat, by omega⟩
  exact ok_turn h
theorem turn_turnI {R C : Int} {l : List Cl} (h : okB R C l = true) : turnL (turnL l) = l := by
  obtain ⟨hR, hC, _, _⟩ := gridP_of_okB h
  obtain ⟨R, rfl⟩ : ∃ z : Nat, R = z := ⟨R.toNat, by omega⟩
  obtain ⟨C, rfl⟩ : ∃ z : Nat, C = z := ⟨C.toNat, by omega⟩
  exact turn_turn h
theorem t_of {R C : Int} {l : List Cl} (h : okB R C l = true) : tX R C l = C ∧ tY R C l = R ∧ tL R C l = turnL l := by
  simp [tX, tY, tL, h]
theorem t_back {R C : Int} {l : List Cl} (h : okB R C l = true) : tX C R (turnL l) = R ∧ tY C R (turnL l) = C ∧ tL C R (turnL l) = l := by
  obtain ⟨h1, h2, h3⟩ := t_of (ok_turnI h)
  exact ⟨h1, h2, h3.trans (turn_turnI h)⟩
theorem ok_of_t {R C : Int} {l : List Cl} (h : okB (tX R C l) (tY R C l) (tL R C l) = true) : okB R C l = true := by
  by_cases ho : okB R C l = true
  · exact ho
  · unfold tX tY tL at h
    rw [if_neg ho, if_neg ho, if_neg ho, okB_nil] at h
    cases h
theorem rowIn_ok {R C t' : Int} {l : List Cl} (h : rowInB R C l t' = true) : okB R C l = true := by
  simp only [rowInB, Bool.and_eq_true] at h
  exact h.1.1
theorem rowOut_ok {R C t' : Int} {l : List Cl} (h : rowOutB R C l t' = true) : okB R C l = true := by
  simp only [rowOutB, Bool.and_eq_true] at h
  exact h.1.1
theorem rowOut_of_in {R C t' : Int} {l : List Cl} (h : rowInB R C l t' = true) : rowOutB (R + 1) C (inL t' C l) t' = true := by
  have h1 := ok_in h
  obtain ⟨hR, _, _, _⟩ := gridP_of_okB (rowIn_ok h)
  simp only [rowInB, Bool.and_eq_true, decide_eq_true_eq] at h
  simp only [rowOutB, h1, Bool.true_and, Bool.and_eq_true, decide_eq_true_eq]
  omega
end Go.Proofs.Ytbigbbfbikhjdab
namespace Go.Proofs.Ytbigbbfbikhjdab
open Go.RowKit

/-- The text of a square. -/
def sqT (R C : Int) (l : List Cl) (r c : Int) : List Sg := if atN R C l r c < 0 then [] else (l.getD (atN R C l r c).toNat cl0).2.2.2.2
section
variable {R C : Int} {l : List Cl}
theorem ok_cell (h : okB R C l = true) {x : Cl} (hx : x ∈ l) : (0 ≤ x.1 ∧ 0 ≤ x.2.1 ∧ 1 ≤ x.2.2.1 ∧ 1 ≤ x.2.2.2.1) ∧ x.1 + x.2.2.1 ≤ R ∧ x.2.1 + x.2.2.2.1 ≤ C := by
  obtain ⟨m, hm, e⟩ := List.getElem_of_mem hx
  rw [← getD_get hm] at e
  subst e
  exact wiB_of (stepB_of ((gridP_of_okB h).2.2.1 m hm)).1
theorem inB_is {x : Cl} {r c : Int} : inB x r c = true ↔ x.1 ≤ r ∧ r < x.1 + x.2.2.1 ∧ x.2.1 ≤ c ∧ c < x.2.1 + x.2.2.2.1 := by
  unfold inB
  simp only [decide_eq_true_eq]
/-- A square is of the one cell that has it. -/
theorem at_of (h : okB R C l = true) {x : Cl} (hx : x ∈ l) (r c : Nat) (hi : inB x r c = true) : ∃ k, k < l.length ∧ atN R C l r c = (k : Int) ∧ l.getD k cl0 = x := by
  obtain ⟨k, hk, e⟩ := List.getElem_of_mem hx
  rw [← getD_get hk] at e
  have hw := ok_cell h hx
  have hi' := inB_is.1 hi
  refine ⟨k, hk, ?_, e⟩
  unfold atN
  rw [if_pos h, findIdx_some l k r c hk ?_ (by rw [e]; exact hi)]
  intro j hj
  cases hq : inB (l.getD j cl0) r c
  · rfl
  · exact (okB_apart h r c (by omega) (by omega) hj hk hq (by rw [e]; exact hi)).elim
theorem sqT_of (h : okB R C l = true) {x : Cl} (hx : x ∈ l) (r c : Nat) (hi : inB x r c = true) : sqT R C l r c = x.2.2.2.2 := by
  obtain ⟨k, hk, e, e2⟩ := at_of h hx r c hi
  unfold sqT
  rw [e, if_neg (by omega)]
  rw [show ((k : Int)).toNat = k by omega, e2]
theorem sq_has (h : okB R C l = true) (r c : Nat) (hr : (r : Int) < R) (hc : (c : Int) < C) : ∃ x ∈ l, inB x r c = true := by
  have h1 := okB_cnt h r c hr hc
  unfold cnt at h1
  obtain ⟨x, hx, hi⟩ := List.countP_pos_iff.1 (show 0 < l.countP (fun x => inB x r c) by omega)
  exact ⟨x, hx, hi⟩
/-- Two cells that have one square are one. -/
theorem one_cell (h : okB R C l = true) {x y : Cl} (hx : x ∈ l) (hy : y ∈ l) (r c : Nat) (h1 : inB x r c = true) (h2 : inB y r c = true) : x = y := by
  obtain ⟨k, _, e, ek⟩ := at_of h hx r c h1
  obtain ⟨m, _, e', em⟩ := at_of h hy r c h2
  have : k = m := by omega
  subst this
  rw [← ek, em]
theorem inL_mem {t' : Int} {x : Cl} (hx : x ∈ l) : inC t' x ∈ inL t' C l := (sortC_perm _).mem_iff.2 (List.mem_append.2 (Or.inl (List.mem_map_of_mem hx)))
theorem inC_has {t' : Int} {x : Cl} {r c : Int} (h : inB x r c = true) : inB (inC t' x) (if t' ≤ r then r + 1 else r) c = true := by
  obtain ⟨a, b, d, g, t⟩ := x
  have h' := inB_is.1 h
  simp only at h'
  rw [inB_is]
  unfold inC
  simp only
  by_cases c1 : t' ≤ a
  · rw [if_pos c1, if_pos (show t' ≤ r by omega)]
    simp only
    omega
  · rw [if_neg c1]
    by_cases c2 : t' < a + d
    · rw [if_pos c2]
      simp only
      split <;> omega
    · rw [if_neg c2, if_neg (show ¬ t' ≤ r by omega)]
      simp only
      omega
theorem sq_in {t' : Int} (h : rowInB R C l t' = true) (r c : Nat) (hr : (r : Int) < R) (hc : (c : Int) < C) (tq : Nat) (htq : (tq : Int) = if t' ≤ (r : Int) then (r : Int) + 1 else r) : sqT (R + 1) C (inL t' C l) tq c = sqT R C l r c := by
  obtain ⟨x, hx, hi⟩ := sq_has (rowIn_ok h) r c hr hc
  have h2 : inB (inC t' x) tq c = true := by rw [htq]; exact inC_has hi
  rw [sqT_of (ok_in h) (inL_mem hx) tq c h2, sqT_of (rowIn_ok h) hx r c hi, inC_txt]
theorem outC_has {t' : Int} {x : Cl} {r c : Int} (h : inB x (if t' ≤ r then r + 1 else r) c = true) : inB (outC t' x) r c = true := by
  obtain ⟨a, b, d, g, t⟩ := x
  have h' := inB_is.1 h
  simp only at h'
  rw [inB_is]
  unfold outC
  simp only
  by_cases c0 : t' ≤ r
  · rw [if_pos c0] at h'
    by_cases c1 : t' < a
    · rw [if_pos c1]
      simp only
      omega
    · rw [if_neg c1]
      by_cases c2 : t' < a + d
      · rw [if_pos c2]
        simp only
        omega
      · rw [if_neg c2]
        simp only
        omega
  · rw [if_neg c0] at h'
    rw [if_neg (show ¬ t' < a by omega)]
    by_cases c2 : t' < a + d
    · rw [if_pos c2]
      simp only
      omega
    · rw [if_neg c2]
      simp only
      omega
theorem sq_out {t' : Int} (h : rowOutB R C l t' = true) (r c : Nat) (hr : (r : Int) < R - 1) (hc : (c : Int) < C) (fr : Nat) (hfr : (fr : Int) = if t' ≤ (r : Int) then (r : Int) + 1 else r) : sqT (R - 1) C (outL t' l) r c = sqT R C l fr c := by
  have hfR : (fr : Int) < R := by rw [hfr]; split <;> omega
  obtain ⟨x, hx, hi⟩ := sq_has (rowOut_ok h) fr c hfR hc
  have h2 : inB (outC t' x) r c = true := outC_has (by rw [← hfr]; exact hi)
  have hm : outC t' x ∈ outL t' l := by
    refine (sortC_perm _).mem_iff.2 (List.mem_filter.2 ⟨List.mem_map_of_mem hx, ?_⟩)
    have := inB_is.1 h2
    exact decide_eq_true (by omega)
  rw [sqT_of (ok_out h) hm r c h2, sqT_of (rowOut_ok h) hx fr c hi, outC_txt]
theorem inL_len (t' : Int) : (inL t' C l).length = l.length + (newI t' C l).length := by
  unfold inL
  rw [(sortC_perm _).length_eq]
  unfold inM
  rw [List.length_append, List.length_map]
/-- A square of the table turned. -/
theorem sq_turn (h : okB R C l = true) (r c : Nat) (hr : (r : Int) < R) (hc : (c : Int) < C) : sqT C R (turnL l) c r = sqT R C l r c := by
  obtain ⟨x, hx, hi⟩ := sq_has h r c hr hc
  have hm : turnC x ∈ turnL l := (turnL_mem l _).2 ⟨x, hx, rfl⟩
  have h2 : inB (turnC x) c r = true := by
    rw [inB_is] at hi ⊢
    unfold turnC
    simp only
    omega
  rw [sqT_of (ok_turnI h) hm c r h2, sqT_of h hx r c hi]
  rfl
theorem sq_in1 {t' : Int} (h : rowInB R C l t' = true) (r c : Nat) (hr : (r : Int) < R) (hc : (c : Int) < C) (ht : t' ≤ (r : Int)) : sqT (R + 1) C (inL t' C l) ((r : Int) + 1) c = sqT R C l r c :=
  sq_in h r c hr hc (r + 1) (by rw [if_pos ht]; omega)
theorem sq_in0 {t' : Int} (h : rowInB R C l t' = true) (r c : Nat) (hr : (r : Int) < R) (hc : (c : Int) < C) (ht : ¬ t' ≤ (r : Int)) : sqT (R + 1) C (inL t' C l) r c = sqT R C l r c :=
  sq_in h r c hr hc r (by rw [if_neg ht])
theorem sq_out1 {t' : Int} (h : rowOutB R C l t' = true) (r c : Nat) (hr : (r : Int) < R - 1) (hc : (c : Int) < C) (ht : t' ≤ (r : Int)) : sqT (R - 1) C (outL t' l) r c = sqT R C l ((r : Int) + 1) c :=
  sq_out h r c hr hc (r + 1) (by rw [if_pos ht]; omega)
theorem sq_out0 {t' : Int} (h : rowOutB R C l t' = true) (r c : Nat) (hr : (r : Int) < R - 1) (hc : (c : Int) < C) (ht : ¬ t' ≤ (r : Int)) : sqT (R - 1) C (outL t' l) r c = sqT R C l r c :=
  sq_out h r c hr hc r (by rw [if_neg ht])
theorem sq_col1 {t' : Int} (h : okB R C l = true) (hi : rowInB C R (turnL l) t' = true) (r c : Nat) (hr : (r : Int) < R) (hc : (c : Int) < C) (ht : t' ≤ (c : Int)) : sqT R (C + 1) (turnL (inL t' R (turnL l))) r ((c : Int) + 1) = sqT R C l r c := by
  have h1 := sq_turn (ok_in hi) (c + 1) r (by omega) hr
  have h2 := sq_in hi c r hc hr (c + 1) (by rw [if_pos ht]; omega)
  rw [show ((c : Int) + 1) = ((c + 1 : Nat) : Int) by omega, h1, h2, sq_turn h r c hr hc]
theorem sq_col0 {t' : Int} (h : okB R C l = true) (hi : rowInB C R (turnL l) t' = true) (r c : Nat) (hr : (r : Int) < R) (hc : (c : Int) < C) (ht : ¬ t' ≤ (c : Int)) : sqT R (C + 1) (turnL (inL t' R (turnL l))) r c = sqT R C l r c := by
  have h1 := sq_turn (ok_in hi) c r (by omega) hr
  have h2 := sq_in hi c r hc hr c (by rw [if_neg ht])
  rw [h1, h2, sq_turn h r c hr hc]
end
end Go.Proofs.Ytbigbbfbikhjdab
namespace Go.Proofs.Ytbigbbfbikhjdab
open Go.RowKit

theorem atN_cases (R C r c : Int) (l : List Cl) : atN R C l r c = -1 ∨ ∃ k : Nat, k < l.length ∧ atN R C l r c = (k : Int) := by
  unfold atN
  by_cases h : okB R C l = true
  · rw [if_pos h]
    cases hq : l.findIdx? (fun x => inB x r c) with
    | none => exact Or.inl rfl
    | some i =>
      obtain ⟨hi, _⟩ := List.findIdx?_eq_some_iff_getElem.1 hq
      exact Or.inr ⟨i, hi, rfl⟩
  · rw [if_neg h]
    exact Or.inl rfl
set_option maxRecDepth 100000 in
set_option maxHeartbeats 4000000 in
theorem lmSquare_any (R C r c : Int) (a : Option Addr) (n cap : Nat) (l : List Cl) (w : World) (h : Tab w a n cap l) :
    Calls Try.prog 19 #[.agg #[.int .i64 R, .int .i64 C, .slice a n cap], .int .i64 r, .int .i64 c] w fun e w' => (∃ ta tn tc, e = .returned (.slice ta tn tc) ∧ Txt w' ta tn tc (sqT R C l r c)) ∧ Below w.heap.size w w' := by
  have H : Hid (Tab w a n cap l) := h
  clear h
  obtain ⟨x, HX⟩ : ∃ x, Hid (atN R C l r c = x) := ⟨_, rfl⟩
  go_enter Try.func19, Try.ntmps19
  go_upto_region 1 with fail
  have H0 := Hold.first (Below.refl w.heap.size w) H.out #[.int .i64 R, .int .i64 C, .slice a n cap] 25
  generalize (w.alloc (.cells #[.int .i64 R, .int .i64 C, .slice a n cap] 25)) = v0 at H0 ⊢
  obtain ⟨Tb, hTe⟩ : ∃ T, w.heap.size = T := ⟨_, rfl⟩
  have HH : Hid (Hold w [(Tb, #[.int .i64 R, .int .i64 C, .slice a n cap], 25)] [(a, n, cap, l)] v0) := by rw [← hTe]; exact H0
  rw [hTe]
  clear H0
  go_upto_region 2 with (first | (refine wpList_load_row rfl 25 (.tmp 3) rfl Tb rfl 25 #[.int .i64 R, .int .i64 C, .slice a n cap] (0, 0) _ (HH.out.row 0 rfl) Try.underlying25 rfl tab_info ?_) | (go_at_call 20; refine (implTableAt_is HX.out (HH.out.tab 0 rfl)).mono ?_; rintro e u1 ⟨rfl, hb⟩; replace HH : Hid (Hold w [(Tb, #[.int .i64 R, .int .i64 C, .slice a n cap], 25)] [(a, n, cap, l)] u1) := HH.out.go hb; clear hb))
  rcases atN_cases R C r c l with e | ⟨k, hk, e⟩
  · have hxe : x = -1 := HX.out.symm.trans e
    subst hxe
    go_wp2_with fail
    go_ret
    refine ⟨⟨none, 0, 0, rfl, ?_⟩, HH.out.1⟩
    unfold sqT
    rw [e, if_pos (by omega)]
    exact ⟨rfl, Nat.le_refl _, Nat.zero_le _, .inl rfl⟩
  · have hxe : x = k := HX.out.symm.trans e
    subst hxe
    have HT := HH.out.tab 0 rfl
    have hn := HT.1
    have hnc := HT.2.1
    have hm := HT.2.2.1
    unfold maxLen at hm
    rcases HT.2.2.2 with e0 | ⟨b, off, rfl, hbv, hcl⟩
    · rw [e0] at hk
      exact absurd hk (by simp)
    obtain ⟨-, -, -, -, ta, tn, tc, x4, ht4⟩ := hcl k hk
    have q2 : u1.cell? ⟨Tb, 2, none⟩ = some (.slice (some ⟨b, off, none⟩) n cap) := (HH.out.row 0 rfl).cell 2
    have HX4 : Hid (Txt u1 ta tn tc (l.getD k cl0).2.2.2.2) := ht4
    have hk0 : (0 : Int) ≤ (k : Int) := by omega
    have hk1 : (k : Int) < (n : Int) := by omega
    have HN : Hid (n = l.length) := hn
    clear hcl ht4 HT hn
    go_wp2_with fail
    go_ret
    refine ⟨⟨ta, tn, tc, rfl, ?_⟩, HH.out.1⟩
    unfold sqT
    rw [e, if_neg (by omega)]
    exact HX4.out
end Go.Proofs.Ytbigbbfbikhjdab
namespace Go.Proofs.Ytbigbbfbikhjdab
open Go.RowKit

set_option maxRecDepth 100000 in
set_option maxHeartbeats 8000000 in
theorem lawTabColIn_walk (a : Option Addr) (n cap : Nat) (zs : List Int) (w : World) (h : Byt w.heap.size w a n cap zs) :
    Calls Try.prog 6 #[.slice a n cap] w fun e w' => e = .returned (.bool true) ∧ Below w.heap.size w w' := by
  have HY : Hid (Byt w.heap.size w a n cap zs) := h
  have hc := h.2.1
  have hm := h.2.2.1
  unfold maxLen at hm
  clear h
  by_cases hn : 1048576 < n
  · have hd : decide ((1048576 : Int) < (n : Int)) = true := by simp; omega
    go_enter Try.func6, Try.ntmps6
    go_wp2_with fail
    go_ret
    exact ⟨rfl, Below.refl _ _⟩
  have hd : decide ((1048576 : Int) < (n : Int)) = false := by simp; omega
  go_enter Try.func6, Try.ntmps6
  go_upto_region 4 with (go_at_call 16; refine (drawTableColIn_any w.heap.size a n cap zs _ HY.out (Nat.le_refl _)).mono ?_; rintro e w1 ⟨⟨R, C, a', n', c', l, t', rfl, hT1, hS1, hat⟩, hb1⟩)
  have H0 := Hold.first hb1 hT1 #[.int .i64 R, .int .i64 C, .slice a' n' c'] 25
  generalize (w1.alloc (.cells #[.int .i64 R, .int .i64 C, .slice a' n' c'] 25)) = v0 at H0 ⊢
  obtain ⟨Tb, hTe⟩ : ∃ T, w1.heap.size = T := ⟨_, rfl⟩
  rw [hTe] at H0 ⊢
  have HH : Hid (Hold w [(Tb, #[.int .i64 R, .int .i64 C, .slice a' n' c'], 25)] [(a', n', c', l)] v0) := H0
  obtain ⟨hRb, hCb, hLb, hXb⟩ := hS1
  have HLX : Hid (∀ z ∈ l, z.2.2.2.2.length ≤ 25) := hXb
  clear hT1 hb1 H0 hTe hXb
  obtain ⟨can, HC⟩ : ∃ o, Hid (rowInB (tX R C l) (tY R C l) (tL R C l) t' = o) := ⟨_, rfl⟩
  cases can
  · go_upto_region 5 with (first | (refine wpList_load_row rfl 25 (.tmp 3) rfl Tb rfl 25 #[.int .i64 R, .int .i64 C, .slice a' n' c'] (0, 0) _ (HH.out.row 0 rfl) Try.underlying25 rfl tab_info ?_) | (go_at_call 17; refine (specTableColIn_any R C t' a' n' c' l _ (HH.out.tab 0 rfl)).mono ?_; intro e w1' hr; obtain ⟨hr1, hb⟩ := hr; obtain ⟨Wa, Wn, Wc, rfl, hT⟩ := tabRes_f HC.out hr1; clear hr1))
    have H0 := HH.out.res hb hT #[.int .i64 0, .int .i64 0, .slice Wa Wn Wc] 25
    generalize (w1'.alloc (.cells #[.int .i64 0, .int .i64 0, .slice Wa Wn Wc] 25)) = v1 at H0 ⊢
    obtain ⟨Wb, hTe⟩ : ∃ T, w1'.heap.size = T := ⟨_, rfl⟩
    rw [hTe] at H0 ⊢
    replace HH : Hid (Hold w [(Wb, #[.int .i64 0, .int .i64 0, .slice Wa Wn Wc], 25), (Tb, #[.int .i64 R, .int .i64 C, .slice a' n' c'], 25)] [(Wa, Wn, Wc, []), (a', n', c', l)] v1) := H0
    clear hT hb H0 hTe
    go_upto_region 6 with (first | (refine wpList_load_row rfl 25 (.tmp 5) rfl Wb rfl 25 #[.int .i64 0, .int .i64 0, .slice Wa Wn Wc] (0, 0) _ (HH.out.row 0 rfl) Try.underlying25 rfl tab_info ?_) | (refine wpList_load_row rfl 25 (.tmp 3) rfl Tb rfl 25 #[.int .i64 R, .int .i64 C, .slice a' n' c'] (0, 0) _ (HH.out.row 1 rfl) Try.underlying25 rfl tab_info ?_) | (go_at_call 12; refine (implTableColIn_any R C t' a' n' c' l _ (HH.out.tab 1 rfl)).mono ?_; intro e w2' hr; obtain ⟨hr1, hb⟩ := hr; obtain ⟨Xa, Xn, Xc, rfl, hT⟩ := tabRes_f HC.out hr1; clear hr1))
    have H0 := HH.out.res hb hT #[.int .i64 0, .int .i64 0, .slice Xa Xn Xc] 25
    generalize (w2'.alloc (.cells #[.int .i64 0, .int .i64 0, .slice Xa Xn Xc] 25)) = v2 at H0 ⊢
    obtain ⟨Xb, hTe⟩ : ∃ T, w2'.heap.size = T := ⟨_, rfl⟩
    rw [hTe] at H0 ⊢
    replace HH : Hid (Hold w [(Xb, #[.int .i64 0, .int .i64 0, .slice Xa Xn Xc], 25), (Wb, #[.int .i64 0, .int .i64 0, .slice Wa Wn Wc], 25), (Tb, #[.int .i64 R, .int .i64 C, .slice a' n' c'], 25)] [(Xa, Xn, Xc, []), (Wa, Wn, Wc, []), (a', n', c', l)] v2) := H0
    clear hT hb H0 hTe
    go_wp2_with (first | (refine wpList_load_rowG (by rfl) 25 (.tmp 7) rfl Xb rfl 25 #[.int .i64 0, .int .i64 0, .slice Xa Xn Xc] (0, 0) _ (HH.out.row 0 rfl) Try.underlying25 rfl tab_info ?_) | (refine wpList_load_rowG (by rfl) 25 (.tmp 5) rfl Wb rfl 25 #[.int .i64 0, .int .i64 0, .slice Wa Wn Wc] (0, 0) _ (HH.out.row 1 rfl) Try.underlying25 rfl tab_info ?_) | (refine wpList_load_rowG (by rfl) 25 (.tmp 3) rfl Tb rfl 25 #[.int .i64 R, .int .i64 C, .slice a' n' c'] (0, 0) _ (HH.out.row 2 rfl) Try.underlying25 rfl tab_info ?_) | (go_at_call 11; refine (lmTable_same (0) (0) Xa Xn Xc [] Wa Wn Wc _ (HH.out.tab 0 rfl) (HH.out.tab 1 rfl)).mono ?_; rintro e uu ⟨rfl, hb⟩; replace HH : Hid (Hold w [(Xb, #[.int .i64 0, .int .i64 0, .slice Xa Xn Xc], 25), (Wb, #[.int .i64 0, .int .i64 0, .slice Wa Wn Wc], 25), (Tb, #[.int .i64 R, .int .i64 C, .slice a' n' c'], 25)] [(Xa, Xn, Xc, []), (Wa, Wn, Wc, []), (a', n', c', l)] uu) := HH.out.go hb; clear hb))
    go_ret
    exact ⟨rfl, HH.out.1⟩
  · have HO : Hid (okB R C l = true) := ok_of_t (rowIn_ok HC.out)
    have HTX : Hid (tX R C l = C ∧ tY R C l = R ∧ tL R C l = turnL l) := t_of HO.out
    have HC2 : Hid (rowInB C R (turnL l) t' = true) := by
      have := HC.out
      rw [HTX.out.1, HTX.out.2.1, HTX.out.2.2] at this
      exact this
    obtain ⟨hR1, hC1, -, -⟩ := gridP_of_okB HO.out
    go_upto_region 5 with (first | (refine wpList_load_row rfl 25 (.tmp 3) rfl Tb rfl 25 #[.int .i64 R, .int .i64 C, .slice a' n' c'] (0, 0) _ (HH.out.row 0 rfl) Try.underlying25 rfl tab_info ?_) | (go_at_call 17; refine (specTableColIn_any R C t' a' n' c' l _ (HH.out.tab 0 rfl)).mono ?_; intro e w1' hr; obtain ⟨hr1, hb⟩ := hr; rw [HTX.out.1, HTX.out.2.1, HTX.out.2.2] at hr1; obtain ⟨Wa, Wn, Wc, rfl, hT⟩ := tabRes_t HC2.out hr1; clear hr1))
    have H0 := HH.out.res hb hT #[.int .i64 R, .int .i64 (C + 1), .slice Wa Wn Wc] 25
    generalize (w1'.alloc (.cells #[.int .i64 R, .int .i64 (C + 1), .slice Wa Wn Wc] 25)) = v1 at H0 ⊢
    obtain ⟨Wb, hTe⟩ : ∃ T, w1'.heap.size = T := ⟨_, rfl⟩
    rw [hTe] at H0 ⊢
    replace HH : Hid (Hold w [(Wb, #[.int .i64 R, .int .i64 (C + 1), .slice Wa Wn Wc], 25), (Tb, #[.int .i64 R, .int .i64 C, .slice a' n' c'], 25)] [(Wa, Wn, Wc, (turnL (inL t' R (turnL l)))), (a', n', c', l)] v1) := H0
    clear hT hb H0 hTe
    go_upto_region 6 with (first | (refine wpList_load_row rfl 25 (.tmp 5) rfl Wb rfl 25 #[.int .i64 R, .int .i64 (C + 1), .slice Wa Wn Wc] (0, 0) _ (HH.out.row 0 rfl) Try.underlying25 rfl tab_info ?_) | (refine wpList_load_row rfl 25 (.tmp 3) rfl Tb rfl 25 #[.int .i64 R, .int .i64 C, .slice a' n' c'] (0, 0) _ (HH.out.row 1 rfl) Try.underlying25 rfl tab_info ?_) | (go_at_call 12; refine (implTableColIn_any R C t' a' n' c' l _ (HH.out.tab 1 rfl)).mono ?_; intro e w2' hr; obtain ⟨hr1, hb⟩ := hr; rw [HTX.out.1, HTX.out.2.1, HTX.out.2.2] at hr1; obtain ⟨Xa, Xn, Xc, rfl, hT⟩ := tabRes_t HC2.out hr1; clear hr1))
    have H0 := HH.out.res hb hT #[.int .i64 R, .int .i64 (C + 1), .slice Xa Xn Xc] 25
    generalize (w2'.alloc (.cells #[.int .i64 R, .int .i64 (C + 1), .slice Xa Xn Xc] 25)) = v2 at H0 ⊢
    obtain ⟨Xb, hTe⟩ : ∃ T, w2'.heap.size = T := ⟨_, rfl⟩
    rw [hTe] at H0 ⊢
    replace HH : Hid (Hold w [(Xb, #[.int .i64 R, .int .i64 (C + 1), .slice Xa Xn Xc], 25), (Wb, #[.int .i64 R, .int .i64 (C + 1), .slice Wa Wn Wc], 25), (Tb, #[.int .i64 R, .int .i64 C, .slice a' n' c'], 25)] [(Xa, Xn, Xc, (turnL (inL t' R (turnL l)))), (Wa, Wn, Wc, (turnL (inL t' R (turnL l)))), (a', n', c', l)] v2) := H0
    clear hT hb H0 hTe
    go_upto_region 8 with (first | (refine wpList_load_rowG (by rfl) 25 (.tmp 7) rfl Xb rfl 25 #[.int .i64 R, .int .i64 (C + 1), .slice Xa Xn Xc] (0, 0) _ (HH.out.row 0 rfl) Try.underlying25 rfl tab_info ?_) | (refine wpList_load_rowG (by rfl) 25 (.tmp 5) rfl Wb rfl 25 #[.int .i64 R, .int .i64 (C + 1), .slice Wa Wn Wc] (0, 0) _ (HH.out.row 1 rfl) Try.underlying25 rfl tab_info ?_) | (refine wpList_load_rowG (by rfl) 25 (.tmp 3) rfl Tb rfl 25 #[.int .i64 R, .int .i64 C, .slice a' n' c'] (0, 0) _ (HH.out.row 2 rfl) Try.underlying25 rfl tab_info ?_) | (go_at_call 11; refine (lmTable_same (R) (C + 1) Xa Xn Xc (turnL (inL t' R (turnL l))) Wa Wn Wc _ (HH.out.tab 0 rfl) (HH.out.tab 1 rfl)).mono ?_; rintro e uu ⟨rfl, hb⟩; replace HH : Hid (Hold w [(Xb, #[.int .i64 R, .int .i64 (C + 1), .slice Xa Xn Xc], 25), (Wb, #[.int .i64 R, .int .i64 (C + 1), .slice Wa Wn Wc], 25), (Tb, #[.int .i64 R, .int .i64 C, .slice a' n' c'], 25)] [(Xa, Xn, Xc, (turnL (inL t' R (turnL l)))), (Wa, Wn, Wc, (turnL (inL t' R (turnL l)))), (a', n', c', l)] uu) := HH.out.go hb; clear hb))
    obtain ⟨R, rfl⟩ : ∃ z : Nat, R = z := ⟨R.toNat, by omega⟩
    obtain ⟨C, rfl⟩ : ∃ z : Nat, C = z := ⟨C.toNat, by omega⟩
    go_wp2_with fail
    go_loopw [9] (fun pv wr => ∃ p : Nat, p ≤ C ∧ pv = .int .i64 p ∧ Hold w [(Xb, #[.int .i64 R, .int .i64 (C + 1), .slice Xa Xn Xc], 25), (Wb, #[.int .i64 R, .int .i64 (C + 1), .slice Wa Wn Wc], 25), (Tb, #[.int .i64 R, .int .i64 C, .slice a' n' c'], 25)] [(Xa, Xn, Xc, (turnL (inL t' R (turnL l)))), (Wa, Wn, Wc, (turnL (inL t' R (turnL l)))), (a', n', c', l)] wr) (fun pv _ => C - (intOf pv).toNat)
    case atStart => exact ⟨0, Nat.zero_le _, rfl, HH.out⟩
    case round =>
      clear HH
      obtain ⟨p, hp, rfl, hb⟩ := hrel
      have HH : Hid (Hold w [(Xb, #[.int .i64 R, .int .i64 (C + 1), .slice Xa Xn Xc], 25), (Wb, #[.int .i64 R, .int .i64 (C + 1), .slice Wa Wn Wc], 25), (Tb, #[.int .i64 R, .int .i64 C, .slice a' n' c'], 25)] [(Xa, Xn, Xc, (turnL (inL t' R (turnL l)))), (Wa, Wn, Wc, (turnL (inL t' R (turnL l)))), (a', n', c', l)] wr) := hb
      have q0 : wr.cell? ⟨Tb, 1, none⟩ = some (.int .i64 (C : Int)) := (HH.out.row 2 rfl).cell 1
      clear hb
      by_cases hlp : p < C
      · have hpb : (p : Int) < (C : Int) := by omega
        by_cases hpt : t' ≤ (p : Int)
        · go_wp2_with fail
          clear q0
          go_loopw [11] (fun qv wr => ∃ q : Nat, q ≤ R ∧ qv = .int .i64 q ∧ Hold w [(Xb, #[.int .i64 R, .int .i64 (C + 1), .slice Xa Xn Xc], 25), (Wb, #[.int .i64 R, .int .i64 (C + 1), .slice Wa Wn Wc], 25), (Tb, #[.int .i64 R, .int .i64 C, .slice a' n' c'], 25)] [(Xa, Xn, Xc, (turnL (inL t' R (turnL l)))), (Wa, Wn, Wc, (turnL (inL t' R (turnL l)))), (a', n', c', l)] wr) (fun qv _ => R - (intOf qv).toNat)
          case atStart => exact ⟨0, Nat.zero_le _, rfl, HH.out⟩
          case round =>
            clear HH
            obtain ⟨q, hq, rfl, hb⟩ := hrel
            have HH : Hid (Hold w [(Xb, #[.int .i64 R, .int .i64 (C + 1), .slice Xa Xn Xc], 25), (Wb, #[.int .i64 R, .int .i64 (C + 1), .slice Wa Wn Wc], 25), (Tb, #[.int .i64 R, .int .i64 C, .slice a' n' c'], 25)] [(Xa, Xn, Xc, (turnL (inL t' R (turnL l)))), (Wa, Wn, Wc, (turnL (inL t' R (turnL l)))), (a', n', c', l)] wr) := hb
            have q1 : wr.cell? ⟨Tb, 0, none⟩ = some (.int .i64 (R : Int)) := (HH.out.row 2 rfl).cell 0
            clear hb
            by_cases hlq : q < R
            · have hqb : (q : Int) < (R : Int) := by omega
              have HSQ : Hid (sqT R ((C : Int) + 1) (turnL (inL t' R (turnL l))) q ((p : Int) + 1) = sqT R C l q p) := sq_col1 HO.out HC2.out q p hqb hpb (by omega)
              go_upto_region 17 with fail
              clear q1
              refine wp_region_noPanic ?_
              refine wp_region_held_drew (S := fun w' => Hold w [(Xb, #[.int .i64 R, .int .i64 (C + 1), .slice Xa Xn Xc], 25), (Wb, #[.int .i64 R, .int .i64 (C + 1), .slice Wa Wn Wc], 25), (Tb, #[.int .i64 R, .int .i64 C, .slice a' n' c'], 25)] [(Xa, Xn, Xc, (turnL (inL t' R (turnL l)))), (Wa, Wn, Wc, (turnL (inL t' R (turnL l)))), (a', n', c', l)] w') (by kernel_rfl) HH.out.drew (fun hHeld => ?_)
              refine take_at 0 71 (.agg #[.int .i64 R, .int .i64 C, .slice a' n' c']) rfl rfl (by kernel_rfl) (by kernel_rfl) (by kernel_rfl) (fun _ _ _ h => h) (yieldsIf_load_row (by kernel_rfl) 25 (.tmp 3) rfl Tb rfl 25 #[.int .i64 R, .int .i64 C, .slice a' n' c'] (0, 0) _ (fun w' h => h.row 2 rfl) Try.underlying25 rfl tab_info) hHeld ?_
              (try simp only [Act.put, List.setIfInBounds_toArray, List.set_cons_zero, List.set_cons_succ])
              refine take_at 1 72 (.int .i64 (q : Int)) rfl rfl (by kernel_rfl) (by kernel_rfl) (by kernel_rfl) (fun _ _ _ h => h) (Or.inl ⟨by kernel_rfl, fun w' hS' => by go_simp⟩) hHeld ?_
              (try simp only [Act.put, List.setIfInBounds_toArray, List.set_cons_zero, List.set_cons_succ])
              refine take_at 2 73 (.int .i64 (p : Int)) rfl rfl (by kernel_rfl) (by kernel_rfl) (by kernel_rfl) (fun _ _ _ h => h) (Or.inl ⟨by kernel_rfl, fun w' hS' => by go_simp⟩) hHeld ?_
              (try simp only [Act.put, List.setIfInBounds_toArray, List.set_cons_zero, List.set_cons_succ])
              refine take_at 4 75 (.agg #[.int .i64 R, .int .i64 (C + 1), .slice Xa Xn Xc]) rfl rfl (by kernel_rfl) (by kernel_rfl) (by kernel_rfl) (fun _ _ _ h => h) (yieldsIf_load_row (by kernel_rfl) 25 (.tmp 7) rfl Xb rfl 25 #[.int .i64 R, .int .i64 (C + 1), .slice Xa Xn Xc] (0, 0) _ (fun w' h => h.row 0 rfl) Try.underlying25 rfl tab_info) hHeld ?_
              (try simp only [Act.put, List.setIfInBounds_toArray, List.set_cons_zero, List.set_cons_succ])
              refine take_at 5 76 (.int .i64 (q : Int)) rfl rfl (by kernel_rfl) (by kernel_rfl) (by kernel_rfl) (fun _ _ _ h => h) (Or.inl ⟨by kernel_rfl, fun w' hS' => by go_simp⟩) hHeld ?_
              (try simp only [Act.put, List.setIfInBounds_toArray, List.set_cons_zero, List.set_cons_succ])
              refine take_at 6 77 (.int .i64 ((p : Int) + 1)) rfl rfl (by kernel_rfl) (by kernel_rfl) (by kernel_rfl) (fun _ _ _ h => h) (Or.inl ⟨by kernel_rfl, fun w' hS' => by go_simp⟩) hHeld ?_
              (try simp only [Act.put, List.setIfInBounds_toArray, List.set_cons_zero, List.set_cons_succ])
              refine wpAnyH_ready (rs := [3]) (by kernel_rfl) (by simp) ?_
              refine AllReadyH.cons rfl (fun K hK => ?_) AllReadyH.nil
              go_simp
              go_at_call 19
              refine (lmSquare_any _ _ (q : Int) (p : Int) a' n' c' l _ (hHeld.tab 2 rfl)).mono ?_
              rintro e u1 ⟨⟨ta, tn, tc, rfl, ht⟩, hb⟩
              have HA1 := ht
              clear ht
              go_wp2_with fail
              refine hK.out _ _ (hHeld.go hb) (fun hHeld => ?_)
              clear hK K
              (try simp only [Act.put, List.setIfInBounds_toArray, List.set_cons_zero, List.set_cons_succ])
              refine wpAnyH_ready (rs := [7]) (by kernel_rfl) (by simp) ?_
              refine AllReadyH.cons rfl (fun K hK => ?_) AllReadyH.nil
              go_simp
              go_at_call 19
              refine (lmSquare_any _ _ (q : Int) ((p : Int) + 1) Xa Xn Xc (turnL (inL t' R (turnL l))) _ (hHeld.tab 0 rfl)).mono ?_
              rintro e u2 ⟨⟨tb, tm, td, rfl, ht⟩, hb⟩
              have HA2 := HA1.below hb
              rw [HSQ.out] at ht
              have HA3 := ht
              clear ht HA1
              go_wp2_with fail
              refine hK.out _ _ (hHeld.go hb) (fun hHeld => ?_)
              clear hK K
              (try simp only [Act.put, List.setIfInBounds_toArray, List.set_cons_zero, List.set_cons_succ])
              refine wpAnyH_ready (rs := [8]) (by kernel_rfl) (by simp) ?_
              refine AllReadyH.cons rfl (fun K hK => ?_) AllReadyH.nil
              go_simp
              go_at_call 18
              refine (lmSigns_eq HA2 HA3).mono ?_
              rintro e u3 ⟨rfl, hb⟩
              clear HA2 HA3
              go_wp2_with fail
              refine hK.out _ _ (hHeld.go hb) (fun hHeld => ?_)
              clear hK K
              (try simp only [Act.put, List.setIfInBounds_toArray, List.set_cons_zero, List.set_cons_succ])
              refine take_at 9 80 (.bool false) rfl rfl (by kernel_rfl) (by kernel_rfl) (by kernel_rfl) (fun _ _ _ h => h) (Or.inl ⟨by kernel_rfl, fun w' hS' => by go_simp⟩) hHeld ?_
              (try simp only [Act.put, List.setIfInBounds_toArray, List.set_cons_zero, List.set_cons_succ])
              refine wpAnyH_done (by kernel_rfl) ?_ _
              refine NoPanic.normal ?_
              replace HH : Hid (Hold w [(Xb, #[.int .i64 R, .int .i64 (C + 1), .slice Xa Xn Xc], 25), (Wb, #[.int .i64 R, .int .i64 (C + 1), .slice Wa Wn Wc], 25), (Tb, #[.int .i64 R, .int .i64 C, .slice a' n' c'], 25)] [(Xa, Xn, Xc, (turnL (inL t' R (turnL l)))), (Wa, Wn, Wc, (turnL (inL t' R (turnL l)))), (a', n', c', l)] _) := hHeld
              clear hHeld
              go_wp2_with fail
              go_roundw
              case rel => exact ⟨q + 1, by omega, by go_num, HH.out⟩
              case measure => simp [intOf]; omega
            · have hqb : ¬ (q : Int) < (R : Int) := by omega
              go_wp2_with fail
              go_roundw
              case rel => exact ⟨p + 1, by omega, by go_num, HH.out⟩
              case measure => simp [intOf]; omega
        · go_wp2_with fail
          clear q0
          go_loopw [11] (fun qv wr => ∃ q : Nat, q ≤ R ∧ qv = .int .i64 q ∧ Hold w [(Xb, #[.int .i64 R, .int .i64 (C + 1), .slice Xa Xn Xc], 25), (Wb, #[.int .i64 R, .int .i64 (C + 1), .slice Wa Wn Wc], 25), (Tb, #[.int .i64 R, .int .i64 C, .slice a' n' c'], 25)] [(Xa, Xn, Xc, (turnL (inL t' R (turnL l)))), (Wa, Wn, Wc, (turnL (inL t' R (turnL l)))), (a', n', c', l)] wr) (fun qv _ => R - (intOf qv).toNat)
          case atStart => exact ⟨0, Nat.zero_le _, rfl, HH.out⟩
          case round =>
            clear HH
            obtain ⟨q, hq, rfl, hb⟩ := hrel
            have HH : Hid (Hold w [(Xb, #[.int .i64 R, .int .i64 (C + 1), .slice Xa Xn Xc], 25), (Wb, #[.int .i64 R, .int .i64 (C + 1), .slice Wa Wn Wc], 25), (Tb, #[.int .i64 R, .int .i64 C, .slice a' n' c'], 25)] [(Xa, Xn, Xc, (turnL (inL t' R (turnL l)))), (Wa, Wn, Wc, (turnL (inL t' R (turnL l)))), (a', n', c', l)] wr) := hb
            have q1 : wr.cell? ⟨Tb, 0, none⟩ = some (.int .i64 (R : Int)) := (HH.out.row 2 rfl).cell 0
            clear hb
            by_cases hlq : q < R
            · have hqb : (q : Int) < (R : Int) := by omega
              have HSQ : Hid (sqT R ((C : Int) + 1) (turnL (inL t' R (turnL l))) q p = sqT R C l q p) := sq_col0 HO.out HC2.out q p hqb hpb (by omega)
              go_upto_region 17 with fail
              clear q1
              refine wp_region_noPanic ?_
              refine wp_region_held_drew (S := fun w' => Hold w [(Xb, #[.int .i64 R, .int .i64 (C + 1), .slice Xa Xn Xc], 25), (Wb, #[.int .i64 R, .int .i64 (C + 1), .slice Wa Wn Wc], 25), (Tb, #[.int .i64 R, .int .i64 C, .slice a' n' c'], 25)] [(Xa, Xn, Xc, (turnL (inL t' R (turnL l)))), (Wa, Wn, Wc, (turnL (inL t' R (turnL l)))), (a', n', c', l)] w') (by kernel_rfl) HH.out.drew (fun hHeld => ?_)
              refine take_at 0 71 (.agg #[.int .i64 R, .int .i64 C, .slice a' n' c']) rfl rfl (by kernel_rfl) (by kernel_rfl) (by kernel_rfl) (fun _ _ _ h => h) (yieldsIf_load_row (by kernel_rfl) 25 (.tmp 3) rfl Tb rfl 25 #[.int .i64 R, .int .i64 C, .slice a' n' c'] (0, 0) _ (fun w' h => h.row 2 rfl) Try.underlying25 rfl tab_info) hHeld ?_
              (try simp only [Act.put, List.setIfInBounds_toArray, List.set_cons_zero, List.set_cons_succ])
              refine take_at 1 72 (.int .i64 (q : Int)) rfl rfl (by kernel_rfl) (by kernel_rfl) (by kernel_rfl) (fun _ _ _ h => h) (Or.inl ⟨by kernel_rfl, fun w' hS' => by go_simp⟩) hHeld ?_
              (try simp only [Act.put, List.setIfInBounds_toArray, List.set_cons_zero, List.set_cons_succ])
              refine take_at 2 73 (.int .i64 (p : Int)) rfl rfl (by kernel_rfl) (by kernel_rfl) (by kernel_rfl) (fun _ _ _ h => h) (Or.inl ⟨by kernel_rfl, fun w' hS' => by go_simp⟩) hHeld ?_
              (try simp only [Act.put, List.setIfInBounds_toArray, List.set_cons_zero, List.set_cons_succ])
              refine take_at 4 75 (.agg #[.int .i64 R, .int .i64 (C + 1), .slice Xa Xn Xc]) rfl rfl (by kernel_rfl) (by kernel_rfl) (by kernel_rfl) (fun _ _ _ h => h) (yieldsIf_load_row (by kernel_rfl) 25 (.tmp 7) rfl Xb rfl 25 #[.int .i64 R, .int .i64 (C + 1), .slice Xa Xn Xc] (0, 0) _ (fun w' h => h.row 0 rfl) Try.underlying25 rfl tab_info) hHeld ?_
              (try simp only [Act.put, List.setIfInBounds_toArray, List.set_cons_zero, List.set_cons_succ])
              refine take_at 5 76 (.int .i64 (q : Int)) rfl rfl (by kernel_rfl) (by kernel_rfl) (by kernel_rfl) (fun _ _ _ h => h) (Or.inl ⟨by kernel_rfl, fun w' hS' => by go_simp⟩) hHeld ?_
              (try simp only [Act.put, List.setIfInBounds_toArray, List.set_cons_zero, List.set_cons_succ])
              refine take_at 6 77 (.int .i64 (p : Int)) rfl rfl (by kernel_rfl) (by kernel_rfl) (by kernel_rfl) (fun _ _ _ h => h) (Or.inl ⟨by kernel_rfl, fun w' hS' => by go_simp⟩) hHeld ?_
              (try simp only [Act.put, List.setIfInBounds_toArray, List.set_cons_zero, List.set_cons_succ])
              refine wpAnyH_ready (rs := [3]) (by kernel_rfl) (by simp) ?_
              refine AllReadyH.cons rfl (fun K hK => ?_) AllReadyH.nil
              go_simp
              go_at_call 19
              refine (lmSquare_any _ _ (q : Int) (p : Int) a' n' c' l _ (hHeld.tab 2 rfl)).mono ?_
              rintro e u1 ⟨⟨ta, tn, tc, rfl, ht⟩, hb⟩
              have HA1 := ht
              clear ht
              go_wp2_with fail
              refine hK.out _ _ (hHeld.go hb) (fun hHeld => ?_)
              clear hK K
              (try simp only [Act.put, List.setIfInBounds_toArray, List.set_cons_zero, List.set_cons_succ])
              refine wpAnyH_ready (rs := [7]) (by kernel_rfl) (by simp) ?_
              refine AllReadyH.cons rfl (fun K hK => ?_) AllReadyH.nil
              go_simp
              go_at_call 19
              refine (lmSquare_any _ _ (q : Int) (p : Int) Xa Xn Xc (turnL (inL t' R (turnL l))) _ (hHeld.tab 0 rfl)).mono ?_
              rintro e u2 ⟨⟨tb, tm, td, rfl, ht⟩, hb⟩
              have HA2 := HA1.below hb
              rw [HSQ.out] at ht
              have HA3 := ht
              clear ht HA1
              go_wp2_with fail
              refine hK.out _ _ (hHeld.go hb) (fun hHeld => ?_)
              clear hK K
              (try simp only [Act.put, List.setIfInBounds_toArray, List.set_cons_zero, List.set_cons_succ])
              refine wpAnyH_ready (rs := [8]) (by kernel_rfl) (by simp) ?_
              refine AllReadyH.cons rfl (fun K hK => ?_) AllReadyH.nil
              go_simp
              go_at_call 18
              refine (lmSigns_eq HA2 HA3).mono ?_
              rintro e u3 ⟨rfl, hb⟩
              clear HA2 HA3
              go_wp2_with fail
              refine hK.out _ _ (hHeld.go hb) (fun hHeld => ?_)
              clear hK K
              (try simp only [Act.put, List.setIfInBounds_toArray, List.set_cons_zero, List.set_cons_succ])
              refine take_at 9 80 (.bool false) rfl rfl (by kernel_rfl) (by kernel_rfl) (by kernel_rfl) (fun _ _ _ h => h) (Or.inl ⟨by kernel_rfl, fun w' hS' => by go_simp⟩) hHeld ?_
              (try simp only [Act.put, List.setIfInBounds_toArray, List.set_cons_zero, List.set_cons_succ])
              refine wpAnyH_done (by kernel_rfl) ?_ _
              refine NoPanic.normal ?_
              replace HH : Hid (Hold w [(Xb, #[.int .i64 R, .int .i64 (C + 1), .slice Xa Xn Xc], 25), (Wb, #[.int .i64 R, .int .i64 (C + 1), .slice Wa Wn Wc], 25), (Tb, #[.int .i64 R, .int .i64 C, .slice a' n' c'], 25)] [(Xa, Xn, Xc, (turnL (inL t' R (turnL l)))), (Wa, Wn, Wc, (turnL (inL t' R (turnL l)))), (a', n', c', l)] _) := hHeld
              clear hHeld
              go_wp2_with fail
              go_roundw
              case rel => exact ⟨q + 1, by omega, by go_num, HH.out⟩
              case measure => simp [intOf]; omega
            · have hqb : ¬ (q : Int) < (R : Int) := by omega
              go_wp2_with fail
              go_roundw
              case rel => exact ⟨p + 1, by omega, by go_num, HH.out⟩
              case measure => simp [intOf]; omega
      · have hpb : ¬ (p : Int) < (C : Int) := by omega
        have qX : wr.cell? ⟨Xb, 0, none⟩ = some (.int .i64 (R : Int)) := (HH.out.row 0 rfl).cell 0
        have qT : wr.cell? ⟨Tb, 0, none⟩ = some (.int .i64 (R : Int)) := (HH.out.row 2 rfl).cell 0
        go_wp2_with fail
        go_ret
        exact ⟨rfl, HH.out.1⟩
end Go.Proofs.Ytbigbbfbikhjdab
