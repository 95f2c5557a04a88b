import Derived.Test.YtbigbbfbikhjdaaBD2
import Derived.Test.YtbigbbfbikhjdaaBA2
import Derived.Test.YtbigbbfbikhjdaaBI1
import Derived.Test.YtbigbbfbikhjdaaBO1
import Derived.Test.YtbigbbfbikhjdaaBC1
import Derived.Test.YtbigbbfbikhjdaaBA1
import Derived.Test.YtbigbbfbikhjdaaBA3
namespace Go.Proofs.Ytbigbbfbikhjdaa
open Go.RowKit

theorem tabSp_turn {R C : Int} {l : List Cl} (h : TabSp R C l) : TabSp (tX R C l) (tY R C l) (tL R C l) := by
  obtain ⟨h1, h2, h3, h4⟩ := h
  unfold tX tY tL
  by_cases ho : okB R C l = true
  · rw [if_pos ho, if_pos ho, if_pos ho]
    exact ⟨h2, h1, by rw [turnL_len]; exact h3, turnL_txt h4⟩
  · rw [if_neg ho, if_neg ho, if_neg ho]
    exact ⟨by omega, by omega, by simp, by simp⟩
end Go.Proofs.Ytbigbbfbikhjdaa
namespace Go.Proofs.Ytbigbbfbikhjdaa
open Go.RowKit

set_option maxRecDepth 100000 in
set_option maxHeartbeats 8000000 in
theorem drawTableColIn_any (B : Nat) (a : Option Addr) (n cap : Nat) (zs : List Int) (w : World) (h : Byt B w a n cap zs) (hB : B ≤ w.heap.size) :
    Calls Try.prog 24 #[.slice a n cap] w fun e w' => (∃ (R C : Int) (a' : Option Addr) (n' c' : Nat) (l : List Cl) (at' : Int), e = .returned (.tuple #[.agg #[.int .i64 R, .int .i64 C, .slice a' n' c'], .int .i64 at']) ∧ Tab w' a' n' c' l ∧ TabSp R C l ∧ (-20 ≤ at' ∧ at' ≤ 20)) ∧ Below w.heap.size w w' := by
  have HY : Hid (Byt B w a n cap zs) := h
  clear h
  go_enter Try.func24, Try.ntmps24
  go_upto_region 1 with fail
  have B0 : Below w.heap.size w (w.alloc (.cells #[.int .i64 0, .int .i64 0, .slice none 0 0] 25)) := (Below.refl _ _).alloc (Nat.le_refl _) _
  have Z0 : RowAt (w.alloc (.cells #[.int .i64 0, .int .i64 0, .slice none 0 0] 25)) w.heap.size #[.int .i64 0, .int .i64 0, .slice none 0 0] 25 := rowAt_new _ _ _
  have HY0 : Hid (Byt B (w.alloc (.cells #[.int .i64 0, .int .i64 0, .slice none 0 0] 25)) a n cap zs) := HY.out.belowC B0 hB
  generalize (w.alloc (.cells #[.int .i64 0, .int .i64 0, .slice none 0 0] 25)) = v0 at B0 Z0 HY0 ⊢
  have s0 := B0.size
  have zz := Z0.lt
  go_wp2_with fail
  refine (l6Open_any B a n cap zs _ HY0.out (by omega)).mono ?_
  rintro e w1 ⟨rfl, hr1, hb1⟩
  have s1 := hb1.size
  have HR1 : Hid (Rd B w1 v0.heap.size 0) := hr1
  clear hr1
  go_wp2_with fail
  refine (l71Row_any B _ 0 _ HR1.out (by omega)).mono ?_
  rintro e w2 ⟨R, C, a', n', c', l, q, at', rfl, ⟨rs, hX2⟩, hS2, hat, hr2, hq2, hf2⟩
  have HX2 : Hid (OwnX w2 w1.heap.size (.slice a' n' c') rs l) := hX2
  have HZ2 : Hid (RowAt w2 w.heap.size #[.int .i64 0, .int .i64 0, .slice none 0 0] 25) := (Z0.below hb1 zz).fr hf2 (by omega)
  have HB2 : Hid (Below w.heap.size w w2) := below_of_fr3 B0 hb1 hf2 (by omega) s0
  have HS : Hid (TabSp R C l) := hS2
  clear hX2 hr2 hS2
  go_upto_region 3 with fail
  have G3 : RowAt (w2.alloc (.cells #[.int .i64 R, .int .i64 C, .slice a' n' c'] 25)) w2.heap.size #[.int .i64 R, .int .i64 C, .slice a' n' c'] 25 := rowAt_new _ _ _
  have Z3 : RowAt (w2.alloc (.cells #[.int .i64 R, .int .i64 C, .slice a' n' c'] 25)) w.heap.size #[.int .i64 0, .int .i64 0, .slice none 0 0] 25 := HZ2.out.alloc _
  have T3 : Tab (w2.alloc (.cells #[.int .i64 R, .int .i64 C, .slice a' n' c'] 25)) a' n' c' l := HX2.out.tab.below ((Below.refl _ _).alloc (Nat.le_refl _) _)
  have B3 : Below w.heap.size w (w2.alloc (.cells #[.int .i64 R, .int .i64 C, .slice a' n' c'] 25)) := HB2.out.alloc HB2.out.size _
  generalize (w2.alloc (.cells #[.int .i64 R, .int .i64 C, .slice a' n' c'] 25)) = v3 at G3 Z3 T3 B3 ⊢
  obtain ⟨Tb, hTe⟩ : ∃ T, w2.heap.size = T := ⟨_, rfl⟩
  rw [hTe] at G3 ⊢
  have HG3 : Hid (RowAt v3 Tb #[.int .i64 R, .int .i64 C, .slice a' n' c'] 25) := G3
  have HZ3 : Hid (RowAt v3 w.heap.size #[.int .i64 0, .int .i64 0, .slice none 0 0] 25) := Z3
  have HT3 : Hid (Tab v3 a' n' c' l) := T3
  have HB3 : Hid (Below w.heap.size w v3) := B3
  have s3 := B3.size
  have z3 := Z3.lt
  clear G3 Z3 T3 B3 HX2 HZ2 HB2 hTe hf2
  go_wp2_with (first | (refine wpList_load_row rfl 25 (.tmp 5) rfl Tb rfl 25 #[.int .i64 R, .int .i64 C, .slice a' n' c'] (0, 0) _ HG3.out Try.underlying25 rfl tab_info ?_) | (go_at_call 41; refine (specTableTurn_any R C a' n' c' l _ HT3.out).mono ?_; intro e w4 hr; obtain ⟨⟨x, y, a4, n4, c4, l4, rs4, rfl, hO4, hx4, hy4, hl4⟩, hb4⟩ := tRes_of hr; have HO4 : Hid (OwnT w4 v3.heap.size (.slice a4 n4 c4) rs4 l4) := hO4; have HZ4 : Hid (RowAt w4 w.heap.size #[.int .i64 0, .int .i64 0, .slice none 0 0] 25) := HZ3.out.below hb4 z3; have HB4 : Hid (Below w.heap.size w w4) := HB3.out.trans (hb4.mono s3); have HDX : Hid (x = tX R C l ∧ y = tY R C l ∧ l4 = tL R C l) := ⟨hx4, hy4, hl4⟩; clear hr hx4 hy4 hl4 hO4 hb4) | (refine wpList_store_row rfl 25 (.tmp 2) (.tmp 15) rfl w.heap.size #[.int .i64 x, .int .i64 y, .slice a4 n4 c4] rfl rfl 25 _ HZ4.out tab_info rfl (cells3_one _ _ _ _ _) ?_))
  have hsp : TabSp x y l4 := by
    obtain ⟨e1, e2, e3⟩ := HDX.out
    rw [e1, e2, e3]
    exact tabSp_turn HS.out
  refine bodyPost_ret (v := .tuple #[.agg #[.int .i64 x, .int .i64 y, .slice a4 n4 c4], .int .i64 at']) ?_ rfl ⟨⟨x, y, a4, n4, c4, l4, at', rfl, (HO4.out.setRowT HZ4.out _).tab, hsp, hat⟩, below_row HB4.out (Nat.le_refl _) _⟩
  rw [results_cell_tmp rfl]
  simp [asAddr, Result.andThen, run_tabOf (RowAt.setRow HZ4.out #[.int .i64 x, .int .i64 y, .slice a4 n4 c4])]
end Go.Proofs.Ytbigbbfbikhjdaa
namespace Go.Proofs.Ytbigbbfbikhjdaa
open Go.RowKit

theorem ok_turnI {R C : Int} {l : List Cl} (h : okB R C l = true) : okB C R (turnL l) = true := by
  obtain ⟨hR, hC, _, _⟩ := gridP_of_okB h
  obtain ⟨R, rfl⟩ : ∃ z : Nat, R = z := ⟨R.toNat, by omega⟩
  obtain ⟨C, rfl⟩ : ∃ z : Nat, C = z := ⟨C.toNat, by omega⟩
  exact ok_turn h
theorem turn_turnI {R C : Int} {l : List Cl} (h : okB R C l = true) : turnL (turnL l) = l := by
  obtain ⟨hR, hC, _, _⟩ := gridP_of_okB h
  obtain ⟨R, rfl⟩ : ∃ z : Nat, R = z := ⟨R.toNat, by omega⟩
  obtain ⟨C, rfl⟩ : ∃ z : Nat, C = z := ⟨C.toNat, by omega⟩
  exact turn_turn h
theorem t_of {R C : Int} {l : List Cl} (h : okB R C l = true) : tX R C l = C ∧ tY R C l = R ∧ tL R C l = turnL l := by
  simp [tX, tY, tL, h]
theorem t_back {R C : Int} {l : List Cl} (h : okB R C l = true) : tX C R (turnL l) = R ∧ tY C R (turnL l) = C ∧ tL C R (turnL l) = l := by
  obtain ⟨h1, h2, h3⟩ := t_of (ok_turnI h)
  exact ⟨h1, h2, h3.trans (turn_turnI h)⟩
theorem ok_of_t {R C : Int} {l : List Cl} (h : okB (tX R C l) (tY R C l) (tL R C l) = true) : okB R C l = true := by
  by_cases ho : okB R C l = true
  · exact ho
  · unfold tX tY tL at h
    rw [if_neg ho, if_neg ho, if_neg ho, okB_nil] at h
    cases h
theorem rowIn_ok {R C t' : Int} {l : List Cl} (h : rowInB R C l t' = true) : okB R C l = true := by
  simp only [rowInB, Bool.and_eq_true] at h
  exact h.1.1
theorem rowOut_ok {R C t' : Int} {l : List Cl} (h : rowOutB R C l t' = true) : okB R C l = true := by
  simp only [rowOutB, Bool.and_eq_true] at h
  exact h.1.1
theorem rowOut_of_in {R C t' : Int} {l : List Cl} (h : rowInB R C l t' = true) : rowOutB (R + 1) C (inL t' C l) t' = true := by
  have h1 := ok_in h
  obtain ⟨hR, _, _, _⟩ := gridP_of_okB (rowIn_ok h)
  simp only [rowInB, Bool.and_eq_true, decide_eq_true_eq] at h
  simp only [rowOutB, h1, Bool.true_and, Bool.and_eq_true, decide_eq_true_eq]
  omega
end Go.Proofs.Ytbigbbfbikhjdaa
namespace Go.Proofs.Ytbigbbfbikhjdaa
open Go.RowKit

set_option maxRecDepth 100000 in
set_option maxHeartbeats 8000000 in
theorem lawTabColBack_walk (a : Option Addr) (n cap : Nat) (zs : List Int) (w : World) (h : Byt w.heap.size w a n cap zs) :
    Calls Try.prog 7 #[.slice a n cap] w fun e w' => e = .returned (.bool true) ∧ Below w.heap.size w w' := by
  have HY : Hid (Byt w.heap.size w a n cap zs) := h
  have hc := h.2.1
  have hm := h.2.2.1
  unfold maxLen at hm
  clear h
  by_cases hn : 1048576 < n
  · have hd : decide ((1048576 : Int) < (n : Int)) = true := by simp; omega
    go_enter Try.func7, Try.ntmps7
    go_wp2_with fail
    go_ret
    exact ⟨rfl, Below.refl _ _⟩
  have hd : decide ((1048576 : Int) < (n : Int)) = false := by simp; omega
  go_enter Try.func7, Try.ntmps7
  go_upto_region 4 with (go_at_call 24; refine (drawTableColIn_any w.heap.size a n cap zs _ HY.out (Nat.le_refl _)).mono ?_; rintro e w1 ⟨⟨R, C, a', n', c', l, t', rfl, hT1, hS1, hat⟩, hb1⟩)
  have H0 := Hold.first hb1 hT1 #[.int .i64 R, .int .i64 C, .slice a' n' c'] 25
  generalize (w1.alloc (.cells #[.int .i64 R, .int .i64 C, .slice a' n' c'] 25)) = v0 at H0 ⊢
  obtain ⟨Tb, hTe⟩ : ∃ T, w1.heap.size = T := ⟨_, rfl⟩
  rw [hTe] at H0 ⊢
  have HH : Hid (Hold w [(Tb, #[.int .i64 R, .int .i64 C, .slice a' n' c'], 25)] [(a', n', c', l)] v0) := H0
  obtain ⟨hRb, hCb, hLb, hXb⟩ := hS1
  have HLX : Hid (∀ z ∈ l, z.2.2.2.2.length ≤ 25) := hXb
  clear hT1 hb1 H0 hTe hXb
  obtain ⟨can, HC⟩ : ∃ o, Hid (rowInB (tX R C l) (tY R C l) (tL R C l) t' = o) := ⟨_, rfl⟩
  cases can
  · go_upto_region 5 with (first | (refine wpList_load_row rfl 25 (.tmp 3) rfl Tb rfl 25 #[.int .i64 R, .int .i64 C, .slice a' n' c'] (0, 0) _ (HH.out.row 0 rfl) Try.underlying25 rfl tab_info ?_) | (go_at_call 25; refine (specTableColIn_any R C t' a' n' c' l _ (HH.out.tab 0 rfl)).mono ?_; intro e w1' hr; obtain ⟨hr1, hb⟩ := hr; obtain ⟨Wa, Wn, Wc, rfl, hT⟩ := tabRes_f HC.out hr1; clear hr1))
    have H0 := HH.out.res hb hT #[.int .i64 0, .int .i64 0, .slice Wa Wn Wc] 25
    generalize (w1'.alloc (.cells #[.int .i64 0, .int .i64 0, .slice Wa Wn Wc] 25)) = v1 at H0 ⊢
    obtain ⟨Wb, hTe⟩ : ∃ T, w1'.heap.size = T := ⟨_, rfl⟩
    rw [hTe] at H0 ⊢
    replace HH : Hid (Hold w [(Wb, #[.int .i64 0, .int .i64 0, .slice Wa Wn Wc], 25), (Tb, #[.int .i64 R, .int .i64 C, .slice a' n' c'], 25)] [(Wa, Wn, Wc, []), (a', n', c', l)] v1) := H0
    clear hT hb H0 hTe
    go_upto_region 6 with (first | (refine wpList_load_row rfl 25 (.tmp 5) rfl Wb rfl 25 #[.int .i64 0, .int .i64 0, .slice Wa Wn Wc] (0, 0) _ (HH.out.row 0 rfl) Try.underlying25 rfl tab_info ?_) | (refine wpList_load_row rfl 25 (.tmp 3) rfl Tb rfl 25 #[.int .i64 R, .int .i64 C, .slice a' n' c'] (0, 0) _ (HH.out.row 1 rfl) Try.underlying25 rfl tab_info ?_) | (go_at_call 23; refine (implTableColIn_any R C t' a' n' c' l _ (HH.out.tab 1 rfl)).mono ?_; intro e w2' hr; obtain ⟨hr1, hb⟩ := hr; obtain ⟨Xa, Xn, Xc, rfl, hT⟩ := tabRes_f HC.out hr1; clear hr1))
    have H0 := HH.out.res hb hT #[.int .i64 0, .int .i64 0, .slice Xa Xn Xc] 25
    generalize (w2'.alloc (.cells #[.int .i64 0, .int .i64 0, .slice Xa Xn Xc] 25)) = v2 at H0 ⊢
    obtain ⟨Xb, hTe⟩ : ∃ T, w2'.heap.size = T := ⟨_, rfl⟩
    rw [hTe] at H0 ⊢
    replace HH : Hid (Hold w [(Xb, #[.int .i64 0, .int .i64 0, .slice Xa Xn Xc], 25), (Wb, #[.int .i64 0, .int .i64 0, .slice Wa Wn Wc], 25), (Tb, #[.int .i64 R, .int .i64 C, .slice a' n' c'], 25)] [(Xa, Xn, Xc, []), (Wa, Wn, Wc, []), (a', n', c', l)] v2) := H0
    clear hT hb H0 hTe
    go_wp2_with (first | (refine wpList_load_rowG (by rfl) 25 (.tmp 7) rfl Xb rfl 25 #[.int .i64 0, .int .i64 0, .slice Xa Xn Xc] (0, 0) _ (HH.out.row 0 rfl) Try.underlying25 rfl tab_info ?_) | (refine wpList_load_rowG (by rfl) 25 (.tmp 5) rfl Wb rfl 25 #[.int .i64 0, .int .i64 0, .slice Wa Wn Wc] (0, 0) _ (HH.out.row 1 rfl) Try.underlying25 rfl tab_info ?_) | (refine wpList_load_rowG (by rfl) 25 (.tmp 3) rfl Tb rfl 25 #[.int .i64 R, .int .i64 C, .slice a' n' c'] (0, 0) _ (HH.out.row 2 rfl) Try.underlying25 rfl tab_info ?_) | (go_at_call 12; refine (lmTable_same (0) (0) Xa Xn Xc [] Wa Wn Wc _ (HH.out.tab 0 rfl) (HH.out.tab 1 rfl)).mono ?_; rintro e uu ⟨rfl, hb⟩; replace HH : Hid (Hold w [(Xb, #[.int .i64 0, .int .i64 0, .slice Xa Xn Xc], 25), (Wb, #[.int .i64 0, .int .i64 0, .slice Wa Wn Wc], 25), (Tb, #[.int .i64 R, .int .i64 C, .slice a' n' c'], 25)] [(Xa, Xn, Xc, []), (Wa, Wn, Wc, []), (a', n', c', l)] uu) := HH.out.go hb; clear hb))
    go_ret
    exact ⟨rfl, HH.out.1⟩
  · have HO : Hid (okB R C l = true) := ok_of_t (rowIn_ok HC.out)
    have HTX : Hid (tX R C l = C ∧ tY R C l = R ∧ tL R C l = turnL l) := t_of HO.out
    have HC2 : Hid (rowInB C R (turnL l) t' = true) := by
      have := HC.out
      rw [HTX.out.1, HTX.out.2.1, HTX.out.2.2] at this
      exact this
    go_upto_region 5 with (first | (refine wpList_load_row rfl 25 (.tmp 3) rfl Tb rfl 25 #[.int .i64 R, .int .i64 C, .slice a' n' c'] (0, 0) _ (HH.out.row 0 rfl) Try.underlying25 rfl tab_info ?_) | (go_at_call 25; refine (specTableColIn_any R C t' a' n' c' l _ (HH.out.tab 0 rfl)).mono ?_; intro e w1' hr; obtain ⟨hr1, hb⟩ := hr; rw [HTX.out.1, HTX.out.2.1, HTX.out.2.2] at hr1; obtain ⟨Wa, Wn, Wc, rfl, hT⟩ := tabRes_t HC2.out hr1; clear hr1))
    have H0 := HH.out.res hb hT #[.int .i64 R, .int .i64 (C + 1), .slice Wa Wn Wc] 25
    generalize (w1'.alloc (.cells #[.int .i64 R, .int .i64 (C + 1), .slice Wa Wn Wc] 25)) = v1 at H0 ⊢
    obtain ⟨Wb, hTe⟩ : ∃ T, w1'.heap.size = T := ⟨_, rfl⟩
    rw [hTe] at H0 ⊢
    replace HH : Hid (Hold w [(Wb, #[.int .i64 R, .int .i64 (C + 1), .slice Wa Wn Wc], 25), (Tb, #[.int .i64 R, .int .i64 C, .slice a' n' c'], 25)] [(Wa, Wn, Wc, (turnL (inL t' R (turnL l)))), (a', n', c', l)] v1) := H0
    clear hT hb H0 hTe
    go_upto_region 6 with (first | (refine wpList_load_row rfl 25 (.tmp 5) rfl Wb rfl 25 #[.int .i64 R, .int .i64 (C + 1), .slice Wa Wn Wc] (0, 0) _ (HH.out.row 0 rfl) Try.underlying25 rfl tab_info ?_) | (refine wpList_load_row rfl 25 (.tmp 3) rfl Tb rfl 25 #[.int .i64 R, .int .i64 C, .slice a' n' c'] (0, 0) _ (HH.out.row 1 rfl) Try.underlying25 rfl tab_info ?_) | (go_at_call 23; refine (implTableColIn_any R C t' a' n' c' l _ (HH.out.tab 1 rfl)).mono ?_; intro e w2' hr; obtain ⟨hr1, hb⟩ := hr; rw [HTX.out.1, HTX.out.2.1, HTX.out.2.2] at hr1; obtain ⟨Xa, Xn, Xc, rfl, hT⟩ := tabRes_t HC2.out hr1; clear hr1))
    have H0 := HH.out.res hb hT #[.int .i64 R, .int .i64 (C + 1), .slice Xa Xn Xc] 25
    generalize (w2'.alloc (.cells #[.int .i64 R, .int .i64 (C + 1), .slice Xa Xn Xc] 25)) = v2 at H0 ⊢
    obtain ⟨Xb, hTe⟩ : ∃ T, w2'.heap.size = T := ⟨_, rfl⟩
    rw [hTe] at H0 ⊢
    replace HH : Hid (Hold w [(Xb, #[.int .i64 R, .int .i64 (C + 1), .slice Xa Xn Xc], 25), (Wb, #[.int .i64 R, .int .i64 (C + 1), .slice Wa Wn Wc], 25), (Tb, #[.int .i64 R, .int .i64 C, .slice a' n' c'], 25)] [(Xa, Xn, Xc, (turnL (inL t' R (turnL l)))), (Wa, Wn, Wc, (turnL (inL t' R (turnL l)))), (a', n', c', l)] v2) := H0
    clear hT hb H0 hTe
    go_upto_region 8 with (first | (refine wpList_load_rowG (by rfl) 25 (.tmp 7) rfl Xb rfl 25 #[.int .i64 R, .int .i64 (C + 1), .slice Xa Xn Xc] (0, 0) _ (HH.out.row 0 rfl) Try.underlying25 rfl tab_info ?_) | (refine wpList_load_rowG (by rfl) 25 (.tmp 5) rfl Wb rfl 25 #[.int .i64 R, .int .i64 (C + 1), .slice Wa Wn Wc] (0, 0) _ (HH.out.row 1 rfl) Try.underlying25 rfl tab_info ?_) | (refine wpList_load_rowG (by rfl) 25 (.tmp 3) rfl Tb rfl 25 #[.int .i64 R, .int .i64 C, .slice a' n' c'] (0, 0) _ (HH.out.row 2 rfl) Try.underlying25 rfl tab_info ?_) | (go_at_call 12; refine (lmTable_same (R) (C + 1) Xa Xn Xc (turnL (inL t' R (turnL l))) Wa Wn Wc _ (HH.out.tab 0 rfl) (HH.out.tab 1 rfl)).mono ?_; rintro e uu ⟨rfl, hb⟩; replace HH : Hid (Hold w [(Xb, #[.int .i64 R, .int .i64 (C + 1), .slice Xa Xn Xc], 25), (Wb, #[.int .i64 R, .int .i64 (C + 1), .slice Wa Wn Wc], 25), (Tb, #[.int .i64 R, .int .i64 C, .slice a' n' c'], 25)] [(Xa, Xn, Xc, (turnL (inL t' R (turnL l)))), (Wa, Wn, Wc, (turnL (inL t' R (turnL l)))), (a', n', c', l)] uu) := HH.out.go hb; clear hb))
    have HOM : Hid (okB (C + 1) R (inL t' R (turnL l)) = true) := ok_in HC2.out
    have HOI : Hid (okB R (C + 1) (turnL (inL t' R (turnL l))) = true) := ok_turnI HOM.out
    have HF : Hid (tX R (C + 1) (turnL (inL t' R (turnL l))) = C + 1 ∧ tY R (C + 1) (turnL (inL t' R (turnL l))) = R ∧ tL R (C + 1) (turnL (inL t' R (turnL l))) = (inL t' R (turnL l)) ∧ outL t' (inL t' R (turnL l)) = turnL l ∧ turnL (turnL l) = l ∧ C + 1 - 1 = C) :=
      ⟨(t_back HOM.out).1, (t_back HOM.out).2.1, (t_back HOM.out).2.2, in_out HC2.out, turn_turnI HO.out, by omega⟩
    have HRO : Hid (rowOutB (C + 1) R (inL t' R (turnL l)) t' = true) := rowOut_of_in HC2.out
    go_upto_region 9 with (first | (refine wpList_load_row rfl 25 (.tmp 7) rfl Xb rfl 25 #[.int .i64 R, .int .i64 (C + 1), .slice Xa Xn Xc] (0, 0) _ (HH.out.row 0 rfl) Try.underlying25 rfl tab_info ?_) | (refine wpList_load_row rfl 25 (.tmp 5) rfl Wb rfl 25 #[.int .i64 R, .int .i64 (C + 1), .slice Wa Wn Wc] (0, 0) _ (HH.out.row 1 rfl) Try.underlying25 rfl tab_info ?_) | (refine wpList_load_row rfl 25 (.tmp 3) rfl Tb rfl 25 #[.int .i64 R, .int .i64 C, .slice a' n' c'] (0, 0) _ (HH.out.row 2 rfl) Try.underlying25 rfl tab_info ?_) | (go_at_call 21; refine (implTableColOut_any R (C + 1) t' Xa Xn Xc (turnL (inL t' R (turnL l))) _ (HH.out.tab 0 rfl)).mono ?_; intro e w3' hr; obtain ⟨hr1, hb⟩ := hr; rw [HF.out.1, HF.out.2.1, HF.out.2.2.1, HF.out.2.2.2.1, HF.out.2.2.2.2.1, HF.out.2.2.2.2.2] at hr1; obtain ⟨Ya, Yn, Yc, rfl, hT⟩ := tabRes_t HRO.out hr1; clear hr1))
    have H0 := HH.out.res hb hT #[.int .i64 R, .int .i64 C, .slice Ya Yn Yc] 25
    generalize (w3'.alloc (.cells #[.int .i64 R, .int .i64 C, .slice Ya Yn Yc] 25)) = v3 at H0 ⊢
    obtain ⟨Yb, hTe⟩ : ∃ T, w3'.heap.size = T := ⟨_, rfl⟩
    rw [hTe] at H0 ⊢
    replace HH : Hid (Hold w [(Yb, #[.int .i64 R, .int .i64 C, .slice Ya Yn Yc], 25), (Xb, #[.int .i64 R, .int .i64 (C + 1), .slice Xa Xn Xc], 25), (Wb, #[.int .i64 R, .int .i64 (C + 1), .slice Wa Wn Wc], 25), (Tb, #[.int .i64 R, .int .i64 C, .slice a' n' c'], 25)] [(Ya, Yn, Yc, l), (Xa, Xn, Xc, (turnL (inL t' R (turnL l)))), (Wa, Wn, Wc, (turnL (inL t' R (turnL l)))), (a', n', c', l)] v3) := H0
    clear hT hb H0 hTe
    go_wp2_with (first | (refine wpList_load_rowG (by rfl) 25 (.tmp 9) rfl Yb rfl 25 #[.int .i64 R, .int .i64 C, .slice Ya Yn Yc] (0, 0) _ (HH.out.row 0 rfl) Try.underlying25 rfl tab_info ?_) | (refine wpList_load_rowG (by rfl) 25 (.tmp 7) rfl Xb rfl 25 #[.int .i64 R, .int .i64 (C + 1), .slice Xa Xn Xc] (0, 0) _ (HH.out.row 1 rfl) Try.underlying25 rfl tab_info ?_) | (refine wpList_load_rowG (by rfl) 25 (.tmp 5) rfl Wb rfl 25 #[.int .i64 R, .int .i64 (C + 1), .slice Wa Wn Wc] (0, 0) _ (HH.out.row 2 rfl) Try.underlying25 rfl tab_info ?_) | (refine wpList_load_rowG (by rfl) 25 (.tmp 3) rfl Tb rfl 25 #[.int .i64 R, .int .i64 C, .slice a' n' c'] (0, 0) _ (HH.out.row 3 rfl) Try.underlying25 rfl tab_info ?_) | (go_at_call 14; refine (implTableOk_is HOI.out (HH.out.tab 1 rfl)).mono ?_; rintro e uu ⟨rfl, hb⟩; replace HH : Hid (Hold w [(Yb, #[.int .i64 R, .int .i64 C, .slice Ya Yn Yc], 25), (Xb, #[.int .i64 R, .int .i64 (C + 1), .slice Xa Xn Xc], 25), (Wb, #[.int .i64 R, .int .i64 (C + 1), .slice Wa Wn Wc], 25), (Tb, #[.int .i64 R, .int .i64 C, .slice a' n' c'], 25)] [(Ya, Yn, Yc, l), (Xa, Xn, Xc, (turnL (inL t' R (turnL l)))), (Wa, Wn, Wc, (turnL (inL t' R (turnL l)))), (a', n', c', l)] uu) := HH.out.go hb; clear hb; have qXb1 : uu.cell? ⟨Xb, 1, none⟩ = some (.int .i64 (C + 1)) := (HH.out.row 1 rfl).cell 1; have qTb1 : uu.cell? ⟨Tb, 1, none⟩ = some (.int .i64 C) := (HH.out.row 3 rfl).cell 1) | (go_at_call 12; refine (lmTable_same (R) (C) Ya Yn Yc l a' n' c' _ (HH.out.tab 0 rfl) (HH.out.tab 3 rfl)).mono ?_; rintro e uu ⟨rfl, hb⟩; replace HH : Hid (Hold w [(Yb, #[.int .i64 R, .int .i64 C, .slice Ya Yn Yc], 25), (Xb, #[.int .i64 R, .int .i64 (C + 1), .slice Xa Xn Xc], 25), (Wb, #[.int .i64 R, .int .i64 (C + 1), .slice Wa Wn Wc], 25), (Tb, #[.int .i64 R, .int .i64 C, .slice a' n' c'], 25)] [(Ya, Yn, Yc, l), (Xa, Xn, Xc, (turnL (inL t' R (turnL l)))), (Wa, Wn, Wc, (turnL (inL t' R (turnL l)))), (a', n', c', l)] uu) := HH.out.go hb; clear hb))
    go_ret
    exact ⟨rfl, HH.out.1⟩
end Go.Proofs.Ytbigbbfbikhjdaa
