import Derived.Test.YtbigbbfbikhjdaaBD2
import Derived.Test.YtbigbbfbikhjdaaBI1
import Derived.Test.YtbigbbfbikhjdaaBA1
import Derived.Test.YtbigbbfbikhjdaaBA2
import Derived.Test.YtbigbbfbikhjdaaBA3
import Derived.Test.YtbigbbfbikhjdaaBO1
namespace Go.Proofs.Ytbigbbfbikhjdaa
open Go.RowKit

set_option maxRecDepth 100000 in
set_option maxHeartbeats 8000000 in
theorem drawTableRowIn_any (B : Nat) (a : Option Addr) (n cap : Nat) (zs : List Int) (w : World) (h : Byt B w a n cap zs) (hB : B ≤ w.heap.size) :
    Calls Try.prog 9 #[.slice a n cap] w fun e w' => (∃ (R C : Int) (a' : Option Addr) (n' c' : Nat) (l : List Cl) (at' : Int), e = .returned (.tuple #[.agg #[.int .i64 R, .int .i64 C, .slice a' n' c'], .int .i64 at']) ∧ Tab w' a' n' c' l ∧ TabSp R C l ∧ (-20 ≤ at' ∧ at' ≤ 20)) ∧ Below w.heap.size w w' := by
  have HY : Hid (Byt B w a n cap zs) := h
  clear h
  go_enter Try.func9, Try.ntmps9
  go_upto_region 1 with fail
  have B0 : Below w.heap.size w (w.alloc (.cells #[.int .i64 0, .int .i64 0, .slice none 0 0] 25)) := (Below.refl _ _).alloc (Nat.le_refl _) _
  have Z0 : RowAt (w.alloc (.cells #[.int .i64 0, .int .i64 0, .slice none 0 0] 25)) w.heap.size #[.int .i64 0, .int .i64 0, .slice none 0 0] 25 := rowAt_new _ _ _
  have HY0 : Hid (Byt B (w.alloc (.cells #[.int .i64 0, .int .i64 0, .slice none 0 0] 25)) a n cap zs) := HY.out.belowC B0 hB
  generalize (w.alloc (.cells #[.int .i64 0, .int .i64 0, .slice none 0 0] 25)) = v0 at B0 Z0 HY0 ⊢
  have s0 := B0.size
  have zz := Z0.lt
  go_wp2_with fail
  refine (l6Open_any B a n cap zs _ HY0.out (by omega)).mono ?_
  rintro e w1 ⟨rfl, hr1, hb1⟩
  have s1 := hb1.size
  have HR1 : Hid (Rd B w1 v0.heap.size 0) := hr1
  clear hr1
  go_wp2_with fail
  refine (l71Row_any B _ 0 _ HR1.out (by omega)).mono ?_
  rintro e w2 ⟨R, C, a', n', c', l, q, at', rfl, ⟨rs, hX2⟩, hS2, hat, hr2, hq2, hf2⟩
  have HX2 : Hid (OwnX w2 w1.heap.size (.slice a' n' c') rs l) := hX2
  have HZ2 : Hid (RowAt w2 w.heap.size #[.int .i64 0, .int .i64 0, .slice none 0 0] 25) := (Z0.below hb1 zz).fr hf2 (by omega)
  have HB2 : Hid (Below w.heap.size w w2) := below_of_fr3 B0 hb1 hf2 (by omega) s0
  have HS : Hid (TabSp R C l) := hS2
  clear hX2 hr2 hS2
  go_wp2_with (refine wpList_store_row rfl 25 (.tmp 2) (.tmp 7) rfl w.heap.size #[.int .i64 R, .int .i64 C, .slice a' n' c'] rfl rfl 25 _ HZ2.out tab_info rfl (cells3_one _ _ _ _ _) ?_)
  refine bodyPost_ret (v := .tuple #[.agg #[.int .i64 R, .int .i64 C, .slice a' n' c'], .int .i64 at']) ?_ rfl ⟨⟨R, C, a', n', c', l, at', rfl, (HX2.out.setRowT HZ2.out _).tab, HS.out, hat⟩, below_row HB2.out (Nat.le_refl _) _⟩
  rw [results_cell_tmp rfl]
  simp [asAddr, Result.andThen, run_tabOf (RowAt.setRow HZ2.out #[.int .i64 R, .int .i64 C, .slice a' n' c'])]
end Go.Proofs.Ytbigbbfbikhjdaa
namespace Go.Proofs.Ytbigbbfbikhjdaa
open Go.RowKit

set_option maxRecDepth 100000 in
set_option maxHeartbeats 8000000 in
theorem lawTabRow_walk (a : Option Addr) (n cap : Nat) (zs : List Int) (w : World) (h : Byt w.heap.size w a n cap zs) :
    Calls Try.prog 3 #[.slice a n cap] w fun e w' => e = .returned (.bool true) ∧ Below w.heap.size w w' := by
  have HY : Hid (Byt w.heap.size w a n cap zs) := h
  have hc := h.2.1
  have hm := h.2.2.1
  unfold maxLen at hm
  clear h
  by_cases hn : 1048576 < n
  · have hd : decide ((1048576 : Int) < (n : Int)) = true := by simp; omega
    go_enter Try.func3, Try.ntmps3
    go_wp2_with fail
    go_ret
    exact ⟨rfl, Below.refl _ _⟩
  have hd : decide ((1048576 : Int) < (n : Int)) = false := by simp; omega
  go_enter Try.func3, Try.ntmps3
  go_upto_region 4 with (go_at_call 9; refine (drawTableRowIn_any w.heap.size a n cap zs _ HY.out (Nat.le_refl _)).mono ?_; rintro e w1 ⟨⟨R, C, a', n', c', l, t', rfl, hT1, hS1, hat⟩, hb1⟩)
  have H0 := Hold.first hb1 hT1 #[.int .i64 R, .int .i64 C, .slice a' n' c'] 25
  generalize (w1.alloc (.cells #[.int .i64 R, .int .i64 C, .slice a' n' c'] 25)) = v0 at H0 ⊢
  obtain ⟨Tb, hTe⟩ : ∃ T, w1.heap.size = T := ⟨_, rfl⟩
  rw [hTe] at H0 ⊢
  have HH : Hid (Hold w [(Tb, #[.int .i64 R, .int .i64 C, .slice a' n' c'], 25)] [(a', n', c', l)] v0) := H0
  obtain ⟨hRb, hCb, hLb, hXb⟩ := hS1
  have HLX : Hid (∀ z ∈ l, z.2.2.2.2.length ≤ 25) := hXb
  clear hT1 hb1 H0 hTe hXb
  obtain ⟨can, HC⟩ : ∃ o, Hid (rowInB R C l t' = o) := ⟨_, rfl⟩
  cases can
  · go_upto_region 5 with (first | (refine wpList_load_row rfl 25 (.tmp 3) rfl Tb rfl 25 #[.int .i64 R, .int .i64 C, .slice a' n' c'] (0, 0) _ (HH.out.row 0 rfl) Try.underlying25 rfl tab_info ?_) | (go_at_call 10; refine (specTableRowIn_any R C t' a' n' c' l _ (HH.out.tab 0 rfl)).mono ?_; intro e w1' hr; obtain ⟨hr1, hb⟩ := hr; obtain ⟨Wa, Wn, Wc, rfl, hT⟩ := tabRes_f HC.out hr1; clear hr1))
    have H0 := HH.out.res hb hT #[.int .i64 0, .int .i64 0, .slice Wa Wn Wc] 25
    generalize (w1'.alloc (.cells #[.int .i64 0, .int .i64 0, .slice Wa Wn Wc] 25)) = v1 at H0 ⊢
    obtain ⟨Wb, hTe⟩ : ∃ T, w1'.heap.size = T := ⟨_, rfl⟩
    rw [hTe] at H0 ⊢
    replace HH : Hid (Hold w [(Wb, #[.int .i64 0, .int .i64 0, .slice Wa Wn Wc], 25), (Tb, #[.int .i64 R, .int .i64 C, .slice a' n' c'], 25)] [(Wa, Wn, Wc, []), (a', n', c', l)] v1) := H0
    clear hT hb H0 hTe
    go_upto_region 6 with (first | (refine wpList_load_row rfl 25 (.tmp 5) rfl Wb rfl 25 #[.int .i64 0, .int .i64 0, .slice Wa Wn Wc] (0, 0) _ (HH.out.row 0 rfl) Try.underlying25 rfl tab_info ?_) | (refine wpList_load_row rfl 25 (.tmp 3) rfl Tb rfl 25 #[.int .i64 R, .int .i64 C, .slice a' n' c'] (0, 0) _ (HH.out.row 1 rfl) Try.underlying25 rfl tab_info ?_) | (go_at_call 11; refine (implTableRowIn_any R C t' a' n' c' l _ (HH.out.tab 1 rfl)).mono ?_; intro e w2' hr; obtain ⟨hr1, hb⟩ := hr; obtain ⟨Xa, Xn, Xc, rfl, hT⟩ := tabRes_f HC.out hr1; clear hr1))
    have H0 := HH.out.res hb hT #[.int .i64 0, .int .i64 0, .slice Xa Xn Xc] 25
    generalize (w2'.alloc (.cells #[.int .i64 0, .int .i64 0, .slice Xa Xn Xc] 25)) = v2 at H0 ⊢
    obtain ⟨Xb, hTe⟩ : ∃ T, w2'.heap.size = T := ⟨_, rfl⟩
    rw [hTe] at H0 ⊢
    replace HH : Hid (Hold w [(Xb, #[.int .i64 0, .int .i64 0, .slice Xa Xn Xc], 25), (Wb, #[.int .i64 0, .int .i64 0, .slice Wa Wn Wc], 25), (Tb, #[.int .i64 R, .int .i64 C, .slice a' n' c'], 25)] [(Xa, Xn, Xc, []), (Wa, Wn, Wc, []), (a', n', c', l)] v2) := H0
    clear hT hb H0 hTe
    go_wp2_with (first | (refine wpList_load_rowG (by rfl) 25 (.tmp 7) rfl Xb rfl 25 #[.int .i64 0, .int .i64 0, .slice Xa Xn Xc] (0, 0) _ (HH.out.row 0 rfl) Try.underlying25 rfl tab_info ?_) | (refine wpList_load_rowG (by rfl) 25 (.tmp 5) rfl Wb rfl 25 #[.int .i64 0, .int .i64 0, .slice Wa Wn Wc] (0, 0) _ (HH.out.row 1 rfl) Try.underlying25 rfl tab_info ?_) | (refine wpList_load_rowG (by rfl) 25 (.tmp 3) rfl Tb rfl 25 #[.int .i64 R, .int .i64 C, .slice a' n' c'] (0, 0) _ (HH.out.row 2 rfl) Try.underlying25 rfl tab_info ?_) | (go_at_call 12; refine (lmTable_same (0) (0) Xa Xn Xc [] Wa Wn Wc _ (HH.out.tab 0 rfl) (HH.out.tab 1 rfl)).mono ?_; rintro e uu ⟨rfl, hb⟩; replace HH : Hid (Hold w [(Xb, #[.int .i64 0, .int .i64 0, .slice Xa Xn Xc], 25), (Wb, #[.int .i64 0, .int .i64 0, .slice Wa Wn Wc], 25), (Tb, #[.int .i64 R, .int .i64 C, .slice a' n' c'], 25)] [(Xa, Xn, Xc, []), (Wa, Wn, Wc, []), (a', n', c', l)] uu) := HH.out.go hb; clear hb))
    go_ret
    exact ⟨rfl, HH.out.1⟩
  · go_upto_region 5 with (first | (refine wpList_load_row rfl 25 (.tmp 3) rfl Tb rfl 25 #[.int .i64 R, .int .i64 C, .slice a' n' c'] (0, 0) _ (HH.out.row 0 rfl) Try.underlying25 rfl tab_info ?_) | (go_at_call 10; refine (specTableRowIn_any R C t' a' n' c' l _ (HH.out.tab 0 rfl)).mono ?_; intro e w1' hr; obtain ⟨hr1, hb⟩ := hr; obtain ⟨Wa, Wn, Wc, rfl, hT⟩ := tabRes_t HC.out hr1; clear hr1))
    have H0 := HH.out.res hb hT #[.int .i64 (R + 1), .int .i64 C, .slice Wa Wn Wc] 25
    generalize (w1'.alloc (.cells #[.int .i64 (R + 1), .int .i64 C, .slice Wa Wn Wc] 25)) = v1 at H0 ⊢
    obtain ⟨Wb, hTe⟩ : ∃ T, w1'.heap.size = T := ⟨_, rfl⟩
    rw [hTe] at H0 ⊢
    replace HH : Hid (Hold w [(Wb, #[.int .i64 (R + 1), .int .i64 C, .slice Wa Wn Wc], 25), (Tb, #[.int .i64 R, .int .i64 C, .slice a' n' c'], 25)] [(Wa, Wn, Wc, (inL t' C l)), (a', n', c', l)] v1) := H0
    clear hT hb H0 hTe
    go_upto_region 6 with (first | (refine wpList_load_row rfl 25 (.tmp 5) rfl Wb rfl 25 #[.int .i64 (R + 1), .int .i64 C, .slice Wa Wn Wc] (0, 0) _ (HH.out.row 0 rfl) Try.underlying25 rfl tab_info ?_) | (refine wpList_load_row rfl 25 (.tmp 3) rfl Tb rfl 25 #[.int .i64 R, .int .i64 C, .slice a' n' c'] (0, 0) _ (HH.out.row 1 rfl) Try.underlying25 rfl tab_info ?_) | (go_at_call 11; refine (implTableRowIn_any R C t' a' n' c' l _ (HH.out.tab 1 rfl)).mono ?_; intro e w2' hr; obtain ⟨hr1, hb⟩ := hr; obtain ⟨Xa, Xn, Xc, rfl, hT⟩ := tabRes_t HC.out hr1; clear hr1))
    have H0 := HH.out.res hb hT #[.int .i64 (R + 1), .int .i64 C, .slice Xa Xn Xc] 25
    generalize (w2'.alloc (.cells #[.int .i64 (R + 1), .int .i64 C, .slice Xa Xn Xc] 25)) = v2 at H0 ⊢
    obtain ⟨Xb, hTe⟩ : ∃ T, w2'.heap.size = T := ⟨_, rfl⟩
    rw [hTe] at H0 ⊢
    replace HH : Hid (Hold w [(Xb, #[.int .i64 (R + 1), .int .i64 C, .slice Xa Xn Xc], 25), (Wb, #[.int .i64 (R + 1), .int .i64 C, .slice Wa Wn Wc], 25), (Tb, #[.int .i64 R, .int .i64 C, .slice a' n' c'], 25)] [(Xa, Xn, Xc, (inL t' C l)), (Wa, Wn, Wc, (inL t' C l)), (a', n', c', l)] v2) := H0
    clear hT hb H0 hTe
    go_upto_region 8 with (first | (refine wpList_load_rowG (by rfl) 25 (.tmp 7) rfl Xb rfl 25 #[.int .i64 (R + 1), .int .i64 C, .slice Xa Xn Xc] (0, 0) _ (HH.out.row 0 rfl) Try.underlying25 rfl tab_info ?_) | (refine wpList_load_rowG (by rfl) 25 (.tmp 5) rfl Wb rfl 25 #[.int .i64 (R + 1), .int .i64 C, .slice Wa Wn Wc] (0, 0) _ (HH.out.row 1 rfl) Try.underlying25 rfl tab_info ?_) | (refine wpList_load_rowG (by rfl) 25 (.tmp 3) rfl Tb rfl 25 #[.int .i64 R, .int .i64 C, .slice a' n' c'] (0, 0) _ (HH.out.row 2 rfl) Try.underlying25 rfl tab_info ?_) | (go_at_call 12; refine (lmTable_same (R + 1) (C) Xa Xn Xc (inL t' C l) Wa Wn Wc _ (HH.out.tab 0 rfl) (HH.out.tab 1 rfl)).mono ?_; rintro e uu ⟨rfl, hb⟩; replace HH : Hid (Hold w [(Xb, #[.int .i64 (R + 1), .int .i64 C, .slice Xa Xn Xc], 25), (Wb, #[.int .i64 (R + 1), .int .i64 C, .slice Wa Wn Wc], 25), (Tb, #[.int .i64 R, .int .i64 C, .slice a' n' c'], 25)] [(Xa, Xn, Xc, (inL t' C l)), (Wa, Wn, Wc, (inL t' C l)), (a', n', c', l)] uu) := HH.out.go hb; clear hb))
    have hrb := HC.out
    simp only [rowInB, Bool.and_eq_true, decide_eq_true_eq] at hrb
    have HOI : Hid (okB (R + 1) C (inL t' C l) = true) := ok_in HC.out
    obtain ⟨hR1, -, -, -⟩ := gridP_of_okB hrb.1.1
    have HRO : Hid (rowOutB (R + 1) C (inL t' C l) t' = true) := by
      show rowOutB (R + 1) C (inL t' C l) t' = true
      simp only [rowOutB, HOI.out, Bool.true_and, Bool.and_eq_true, decide_eq_true_eq]
      omega
    obtain ⟨-, ht2⟩ := hrb
    have HF : Hid (outL t' (inL t' C l) = l ∧ R + 1 - 1 = R) := ⟨in_out HC.out, by omega⟩
    go_upto_region 9 with (first | (refine wpList_load_row rfl 25 (.tmp 7) rfl Xb rfl 25 #[.int .i64 (R + 1), .int .i64 C, .slice Xa Xn Xc] (0, 0) _ (HH.out.row 0 rfl) Try.underlying25 rfl tab_info ?_) | (refine wpList_load_row rfl 25 (.tmp 5) rfl Wb rfl 25 #[.int .i64 (R + 1), .int .i64 C, .slice Wa Wn Wc] (0, 0) _ (HH.out.row 1 rfl) Try.underlying25 rfl tab_info ?_) | (refine wpList_load_row rfl 25 (.tmp 3) rfl Tb rfl 25 #[.int .i64 R, .int .i64 C, .slice a' n' c'] (0, 0) _ (HH.out.row 2 rfl) Try.underlying25 rfl tab_info ?_) | (go_at_call 13; refine (implTableRowOut_any (R + 1) C t' Xa Xn Xc (inL t' C l) _ (HH.out.tab 0 rfl)).mono ?_; intro e w3' hr; obtain ⟨hr1, hb⟩ := hr; rw [HF.out.1, HF.out.2] at hr1; obtain ⟨Ya, Yn, Yc, rfl, hT⟩ := tabRes_t HRO.out hr1; clear hr1))
    have H0 := HH.out.res hb hT #[.int .i64 R, .int .i64 C, .slice Ya Yn Yc] 25
    generalize (w3'.alloc (.cells #[.int .i64 R, .int .i64 C, .slice Ya Yn Yc] 25)) = v3 at H0 ⊢
    obtain ⟨Yb, hTe⟩ : ∃ T, w3'.heap.size = T := ⟨_, rfl⟩
    rw [hTe] at H0 ⊢
    replace HH : Hid (Hold w [(Yb, #[.int .i64 R, .int .i64 C, .slice Ya Yn Yc], 25), (Xb, #[.int .i64 (R + 1), .int .i64 C, .slice Xa Xn Xc], 25), (Wb, #[.int .i64 (R + 1), .int .i64 C, .slice Wa Wn Wc], 25), (Tb, #[.int .i64 R, .int .i64 C, .slice a' n' c'], 25)] [(Ya, Yn, Yc, l), (Xa, Xn, Xc, (inL t' C l)), (Wa, Wn, Wc, (inL t' C l)), (a', n', c', l)] v3) := H0
    clear hT hb H0 hTe
    go_wp2_with (first | (refine wpList_load_rowG (by rfl) 25 (.tmp 9) rfl Yb rfl 25 #[.int .i64 R, .int .i64 C, .slice Ya Yn Yc] (0, 0) _ (HH.out.row 0 rfl) Try.underlying25 rfl tab_info ?_) | (refine wpList_load_rowG (by rfl) 25 (.tmp 7) rfl Xb rfl 25 #[.int .i64 (R + 1), .int .i64 C, .slice Xa Xn Xc] (0, 0) _ (HH.out.row 1 rfl) Try.underlying25 rfl tab_info ?_) | (refine wpList_load_rowG (by rfl) 25 (.tmp 5) rfl Wb rfl 25 #[.int .i64 (R + 1), .int .i64 C, .slice Wa Wn Wc] (0, 0) _ (HH.out.row 2 rfl) Try.underlying25 rfl tab_info ?_) | (refine wpList_load_rowG (by rfl) 25 (.tmp 3) rfl Tb rfl 25 #[.int .i64 R, .int .i64 C, .slice a' n' c'] (0, 0) _ (HH.out.row 3 rfl) Try.underlying25 rfl tab_info ?_) | (go_at_call 14; refine (implTableOk_is HOI.out (HH.out.tab 1 rfl)).mono ?_; rintro e uu ⟨rfl, hb⟩; replace HH : Hid (Hold w [(Yb, #[.int .i64 R, .int .i64 C, .slice Ya Yn Yc], 25), (Xb, #[.int .i64 (R + 1), .int .i64 C, .slice Xa Xn Xc], 25), (Wb, #[.int .i64 (R + 1), .int .i64 C, .slice Wa Wn Wc], 25), (Tb, #[.int .i64 R, .int .i64 C, .slice a' n' c'], 25)] [(Ya, Yn, Yc, l), (Xa, Xn, Xc, (inL t' C l)), (Wa, Wn, Wc, (inL t' C l)), (a', n', c', l)] uu) := HH.out.go hb; clear hb; have qXb0 : uu.cell? ⟨Xb, 0, none⟩ = some (.int .i64 (R + 1)) := (HH.out.row 1 rfl).cell 0; have qTb0 : uu.cell? ⟨Tb, 0, none⟩ = some (.int .i64 R) := (HH.out.row 3 rfl).cell 0) | (go_at_call 12; refine (lmTable_same (R) (C) Ya Yn Yc l a' n' c' _ (HH.out.tab 0 rfl) (HH.out.tab 3 rfl)).mono ?_; rintro e uu ⟨rfl, hb⟩; replace HH : Hid (Hold w [(Yb, #[.int .i64 R, .int .i64 C, .slice Ya Yn Yc], 25), (Xb, #[.int .i64 (R + 1), .int .i64 C, .slice Xa Xn Xc], 25), (Wb, #[.int .i64 (R + 1), .int .i64 C, .slice Wa Wn Wc], 25), (Tb, #[.int .i64 R, .int .i64 C, .slice a' n' c'], 25)] [(Ya, Yn, Yc, l), (Xa, Xn, Xc, (inL t' C l)), (Wa, Wn, Wc, (inL t' C l)), (a', n', c', l)] uu) := HH.out.go hb; clear hb))
    go_ret
    exact ⟨rfl, HH.out.1⟩
end Go.Proofs.Ytbigbbfbikhjdaa
