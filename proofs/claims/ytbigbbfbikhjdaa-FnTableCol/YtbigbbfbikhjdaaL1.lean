import Derived.Test.YtbigbbfbikhjdaaBD2
import Derived.Test.YtbigbbfbikhjdaaBA2
import Derived.Test.YtbigbbfbikhjdaaBI1
import Derived.Test.YtbigbbfbikhjdaaBO1
import Derived.Test.YtbigbbfbikhjdaaBC1
import Derived.Test.YtbigbbfbikhjdaaBA1
import Derived.Test.YtbigbbfbikhjdaaBA3
namespace Go.Proofs.Ytbigbbfbikhjdaa
open Go.RowKit

theorem tabSp_turn {R C : Int} {l : List Cl} (h : TabSp R C l) : TabSp (tX R C l) (tY R C l) (tL R C l) := by
  obtain ⟨h1, h2, h3, h4⟩ := h
  unfold tX tY tL
  by_cases ho : okB R C l = true
  · rw [if_pos ho, if_pos ho, if_pos ho]
    exact ⟨h2, h1, by rw [turnL_len]; exact h3, turnL_txt h4⟩
  · rw [if_neg ho, if_neg ho, if_neg ho]
    exact ⟨by omega, by omega, by simp, by simp⟩
end Go.Proofs.Ytbigbbfbikhjdaa
namespace Go.Proofs.Ytbigbbfbikhjdaa
open Go.RowKit

set_option maxRecDepth 100000 in
set_option maxHeartbeats 8000000 in
theorem drawTableColOut_any (B : Nat) (a : Option Addr) (n cap : Nat) (zs : List Int) (w : World) (h : Byt B w a n cap zs) (hB : B ≤ w.heap.size) :
    Calls Try.prog 19 #[.slice a n cap] w fun e w' => (∃ (R C : Int) (a' : Option Addr) (n' c' : Nat) (l : List Cl) (at' : Int), e = .returned (.tuple #[.agg #[.int .i64 R, .int .i64 C, .slice a' n' c'], .int .i64 at']) ∧ Tab w' a' n' c' l ∧ TabSp R C l ∧ (-20 ≤ at' ∧ at' ≤ 20)) ∧ Below w.heap.size w w' := by
  have HY : Hid (Byt B w a n cap zs) := h
  clear h
  go_enter Try.func19, Try.ntmps19
  go_upto_region 1 with fail
  have B0 : Below w.heap.size w (w.alloc (.cells #[.int .i64 0, .int .i64 0, .slice none 0 0] 25)) := (Below.refl _ _).alloc (Nat.le_refl _) _
  have Z0 : RowAt (w.alloc (.cells #[.int .i64 0, .int .i64 0, .slice none 0 0] 25)) w.heap.size #[.int .i64 0, .int .i64 0, .slice none 0 0] 25 := rowAt_new _ _ _
  have HY0 : Hid (Byt B (w.alloc (.cells #[.int .i64 0, .int .i64 0, .slice none 0 0] 25)) a n cap zs) := HY.out.belowC B0 hB
  generalize (w.alloc (.cells #[.int .i64 0, .int .i64 0, .slice none 0 0] 25)) = v0 at B0 Z0 HY0 ⊢
  have s0 := B0.size
  have zz := Z0.lt
  go_wp2_with fail
  refine (l6Open_any B a n cap zs _ HY0.out (by omega)).mono ?_
  rintro e w1 ⟨rfl, hr1, hb1⟩
  have s1 := hb1.size
  have HR1 : Hid (Rd B w1 v0.heap.size 0) := hr1
  clear hr1
  go_wp2_with fail
  refine (l71Row_any B _ 0 _ HR1.out (by omega)).mono ?_
  rintro e w2 ⟨R, C, a', n', c', l, q, at', rfl, ⟨rs, hX2⟩, hS2, hat, hr2, hq2, hf2⟩
  have HX2 : Hid (OwnX w2 w1.heap.size (.slice a' n' c') rs l) := hX2
  have HZ2 : Hid (RowAt w2 w.heap.size #[.int .i64 0, .int .i64 0, .slice none 0 0] 25) := (Z0.below hb1 zz).fr hf2 (by omega)
  have HB2 : Hid (Below w.heap.size w w2) := below_of_fr3 B0 hb1 hf2 (by omega) s0
  have HS : Hid (TabSp R C l) := hS2
  clear hX2 hr2 hS2
  go_upto_region 3 with fail
  have G3 : RowAt (w2.alloc (.cells #[.int .i64 R, .int .i64 C, .slice a' n' c'] 25)) w2.heap.size #[.int .i64 R, .int .i64 C, .slice a' n' c'] 25 := rowAt_new _ _ _
  have Z3 : RowAt (w2.alloc (.cells #[.int .i64 R, .int .i64 C, .slice a' n' c'] 25)) w.heap.size #[.int .i64 0, .int .i64 0, .slice none 0 0] 25 := HZ2.out.alloc _
  have T3 : Tab (w2.alloc (.cells #[.int .i64 R, .int .i64 C, .slice a' n' c'] 25)) a' n' c' l := HX2.out.tab.below ((Below.refl _ _).alloc (Nat.le_refl _) _)
  have B3 : Below w.heap.size w (w2.alloc (.cells #[.int .i64 R, .int .i64 C, .slice a' n' c'] 25)) := HB2.out.alloc HB2.out.size _
  generalize (w2.alloc (.cells #[.int .i64 R, .int .i64 C, .slice a' n' c'] 25)) = v3 at G3 Z3 T3 B3 ⊢
  obtain ⟨Tb, hTe⟩ : ∃ T, w2.heap.size = T := ⟨_, rfl⟩
  rw [hTe] at G3 ⊢
  have HG3 : Hid (RowAt v3 Tb #[.int .i64 R, .int .i64 C, .slice a' n' c'] 25) := G3
  have HZ3 : Hid (RowAt v3 w.heap.size #[.int .i64 0, .int .i64 0, .slice none 0 0] 25) := Z3
  have HT3 : Hid (Tab v3 a' n' c' l) := T3
  have HB3 : Hid (Below w.heap.size w v3) := B3
  have s3 := B3.size
  have z3 := Z3.lt
  clear G3 Z3 T3 B3 HX2 HZ2 HB2 hTe hf2
  go_wp2_with (first | (refine wpList_load_row rfl 25 (.tmp 5) rfl Tb rfl 25 #[.int .i64 R, .int .i64 C, .slice a' n' c'] (0, 0) _ HG3.out Try.underlying25 rfl tab_info ?_) | (go_at_call 41; refine (specTableTurn_any R C a' n' c' l _ HT3.out).mono ?_; intro e w4 hr; obtain ⟨⟨x, y, a4, n4, c4, l4, rs4, rfl, hO4, hx4, hy4, hl4⟩, hb4⟩ := tRes_of hr; have HO4 : Hid (OwnT w4 v3.heap.size (.slice a4 n4 c4) rs4 l4) := hO4; have HZ4 : Hid (RowAt w4 w.heap.size #[.int .i64 0, .int .i64 0, .slice none 0 0] 25) := HZ3.out.below hb4 z3; have HB4 : Hid (Below w.heap.size w w4) := HB3.out.trans (hb4.mono s3); have HDX : Hid (x = tX R C l ∧ y = tY R C l ∧ l4 = tL R C l) := ⟨hx4, hy4, hl4⟩; clear hr hx4 hy4 hl4 hO4 hb4) | (refine wpList_store_row rfl 25 (.tmp 2) (.tmp 15) rfl w.heap.size #[.int .i64 x, .int .i64 y, .slice a4 n4 c4] rfl rfl 25 _ HZ4.out tab_info rfl (cells3_one _ _ _ _ _) ?_))
  have hsp : TabSp x y l4 := by
    obtain ⟨e1, e2, e3⟩ := HDX.out
    rw [e1, e2, e3]
    exact tabSp_turn HS.out
  refine bodyPost_ret (v := .tuple #[.agg #[.int .i64 x, .int .i64 y, .slice a4 n4 c4], .int .i64 at']) ?_ rfl ⟨⟨x, y, a4, n4, c4, l4, at', rfl, (HO4.out.setRowT HZ4.out _).tab, hsp, hat⟩, below_row HB4.out (Nat.le_refl _) _⟩
  rw [results_cell_tmp rfl]
  simp [asAddr, Result.andThen, run_tabOf (RowAt.setRow HZ4.out #[.int .i64 x, .int .i64 y, .slice a4 n4 c4])]
end Go.Proofs.Ytbigbbfbikhjdaa
namespace Go.Proofs.Ytbigbbfbikhjdaa
open Go.RowKit

theorem ok_turnI {R C : Int} {l : List Cl} (h : okB R C l = true) : okB C R (turnL l) = true := by
  obtain ⟨hR, hC, _, _⟩ := gridP_of_okB h
  obtain ⟨R, rfl⟩ : ∃ z : Nat, R = z := ⟨R.toNat, by omega⟩
  obtain ⟨C, rfl⟩ : ∃ z : Nat, C = z := ⟨C.toNat, by omega⟩
  exact ok_turn h
theorem turn_turnI {R C : Int} {l : List Cl} (h : okB R C l = true) : turnL (turnL l) = l := by
  obtain ⟨hR, hC, _, _⟩ := gridP_of_okB h
  obtain ⟨R, rfl⟩ : ∃ z : Nat, R = z := ⟨R.toNat, by omega⟩
  obtain ⟨C, rfl⟩ : ∃ z : Nat, C = z := ⟨C.toNat, by omega⟩
  exact turn_turn h
theorem t_of {R C : Int} {l : List Cl} (h : okB R C l = true) : tX R C l = C ∧ tY R C l = R ∧ tL R C l = turnL l := by
  simp [tX, tY, tL, h]
theorem t_back {R C : Int} {l : List Cl} (h : okB R C l = true) : tX C R (turnL l) = R ∧ tY C R (turnL l) = C ∧ tL C R (turnL l) = l := by
  obtain ⟨h1, h2, h3⟩ := t_of (ok_turnI h)
  exact ⟨h1, h2, h3.trans (turn_turnI h)⟩
theorem ok_of_t {R C : Int} {l : List Cl} (h : okB (tX R C l) (tY R C l) (tL R C l) = true) : okB R C l = true := by
  by_cases ho : okB R C l = true
  · exact ho
  · unfold tX tY tL at h
    rw [if_neg ho, if_neg ho, if_neg ho, okB_nil] at h
    cases h
theorem rowIn_ok {R C t' : Int} {l : List Cl} (h : rowInB R C l t' = true) : okB R C l = true := by
  simp only [rowInB, Bool.and_eq_true] at h
  exact h.1.1
theorem rowOut_ok {R C t' : Int} {l : List Cl} (h : rowOutB R C l t' = true) : okB R C l = true := by
  simp only [rowOutB, Bool.and_eq_true] at h
  exact h.1.1
theorem rowOut_of_in {R C t' : Int} {l : List Cl} (h : rowInB R C l t' = true) : rowOutB (R + 1) C (inL t' C l) t' = true := by
  have h1 := ok_in h
  obtain ⟨hR, _, _, _⟩ := gridP_of_okB (rowIn_ok h)
  simp only [rowInB, Bool.and_eq_true, decide_eq_true_eq] at h
  simp only [rowOutB, h1, Bool.true_and, Bool.and_eq_true, decide_eq_true_eq]
  omega
end Go.Proofs.Ytbigbbfbikhjdaa
namespace Go.Proofs.Ytbigbbfbikhjdaa
open Go.RowKit

set_option maxRecDepth 100000 in
set_option maxHeartbeats 8000000 in
theorem lawTabCol_walk (a : Option Addr) (n cap : Nat) (zs : List Int) (w : World) (h : Byt w.heap.size w a n cap zs) :
    Calls Try.prog 6 #[.slice a n cap] w fun e w' => e = .returned (.bool true) ∧ Below w.heap.size w w' := by
  have HY : Hid (Byt w.heap.size w a n cap zs) := h
  have hc := h.2.1
  have hm := h.2.2.1
  unfold maxLen at hm
  clear h
  by_cases hn : 1048576 < n
  · have hd : decide ((1048576 : Int) < (n : Int)) = true := by simp; omega
    go_enter Try.func6, Try.ntmps6
    go_wp2_with fail
    go_ret
    exact ⟨rfl, Below.refl _ _⟩
  have hd : decide ((1048576 : Int) < (n : Int)) = false := by simp; omega
  go_enter Try.func6, Try.ntmps6
  go_upto_region 4 with (go_at_call 19; refine (drawTableColOut_any w.heap.size a n cap zs _ HY.out (Nat.le_refl _)).mono ?_; rintro e w1 ⟨⟨R, C, a', n', c', l, t', rfl, hT1, hS1, hat⟩, hb1⟩)
  have H0 := Hold.first hb1 hT1 #[.int .i64 R, .int .i64 C, .slice a' n' c'] 25
  generalize (w1.alloc (.cells #[.int .i64 R, .int .i64 C, .slice a' n' c'] 25)) = v0 at H0 ⊢
  obtain ⟨Tb, hTe⟩ : ∃ T, w1.heap.size = T := ⟨_, rfl⟩
  rw [hTe] at H0 ⊢
  have HH : Hid (Hold w [(Tb, #[.int .i64 R, .int .i64 C, .slice a' n' c'], 25)] [(a', n', c', l)] v0) := H0
  obtain ⟨hRb, hCb, hLb, hXb⟩ := hS1
  have HLX : Hid (∀ z ∈ l, z.2.2.2.2.length ≤ 25) := hXb
  clear hT1 hb1 H0 hTe hXb
  obtain ⟨can, HC⟩ : ∃ o, Hid (rowOutB (tX R C l) (tY R C l) (tL R C l) t' = o) := ⟨_, rfl⟩
  obtain ⟨inn, HI⟩ : ∃ o, Hid (rowInB (tX R C l) (tY R C l) (tL R C l) t' = o) := ⟨_, rfl⟩
  cases can
  · go_upto_region 5 with (first | (refine wpList_load_row rfl 25 (.tmp 3) rfl Tb rfl 25 #[.int .i64 R, .int .i64 C, .slice a' n' c'] (0, 0) _ (HH.out.row 0 rfl) Try.underlying25 rfl tab_info ?_) | (go_at_call 20; refine (specTableColOut_any R C t' a' n' c' l _ (HH.out.tab 0 rfl)).mono ?_; intro e w1' hr; obtain ⟨hr1, hb⟩ := hr; obtain ⟨Wa, Wn, Wc, rfl, hT⟩ := tabRes_f HC.out hr1; clear hr1))
    have H0 := HH.out.res hb hT #[.int .i64 0, .int .i64 0, .slice Wa Wn Wc] 25
    generalize (w1'.alloc (.cells #[.int .i64 0, .int .i64 0, .slice Wa Wn Wc] 25)) = v1 at H0 ⊢
    obtain ⟨Wb, hTe⟩ : ∃ T, w1'.heap.size = T := ⟨_, rfl⟩
    rw [hTe] at H0 ⊢
    replace HH : Hid (Hold w [(Wb, #[.int .i64 0, .int .i64 0, .slice Wa Wn Wc], 25), (Tb, #[.int .i64 R, .int .i64 C, .slice a' n' c'], 25)] [(Wa, Wn, Wc, []), (a', n', c', l)] v1) := H0
    clear hT hb H0 hTe
    go_upto_region 6 with (first | (refine wpList_load_row rfl 25 (.tmp 5) rfl Wb rfl 25 #[.int .i64 0, .int .i64 0, .slice Wa Wn Wc] (0, 0) _ (HH.out.row 0 rfl) Try.underlying25 rfl tab_info ?_) | (refine wpList_load_row rfl 25 (.tmp 3) rfl Tb rfl 25 #[.int .i64 R, .int .i64 C, .slice a' n' c'] (0, 0) _ (HH.out.row 1 rfl) Try.underlying25 rfl tab_info ?_) | (go_at_call 21; refine (implTableColOut_any R C t' a' n' c' l _ (HH.out.tab 1 rfl)).mono ?_; intro e w2' hr; obtain ⟨hr1, hb⟩ := hr; obtain ⟨Xa, Xn, Xc, rfl, hT⟩ := tabRes_f HC.out hr1; clear hr1))
    have H0 := HH.out.res hb hT #[.int .i64 0, .int .i64 0, .slice Xa Xn Xc] 25
    generalize (w2'.alloc (.cells #[.int .i64 0, .int .i64 0, .slice Xa Xn Xc] 25)) = v2 at H0 ⊢
    obtain ⟨Xb, hTe⟩ : ∃ T, w2'.heap.size = T := ⟨_, rfl⟩
    rw [hTe] at H0 ⊢
    replace HH : Hid (Hold w [(Xb, #[.int .i64 0, .int .i64 0, .slice Xa Xn Xc], 25), (Wb, #[.int .i64 0, .int .i64 0, .slice Wa Wn Wc], 25), (Tb, #[.int .i64 R, .int .i64 C, .slice a' n' c'], 25)] [(Xa, Xn, Xc, []), (Wa, Wn, Wc, []), (a', n', c', l)] v2) := H0
    clear hT hb H0 hTe
    go_upto_region 8 with (first | (refine wpList_load_rowG (by rfl) 25 (.tmp 7) rfl Xb rfl 25 #[.int .i64 0, .int .i64 0, .slice Xa Xn Xc] (0, 0) _ (HH.out.row 0 rfl) Try.underlying25 rfl tab_info ?_) | (refine wpList_load_rowG (by rfl) 25 (.tmp 5) rfl Wb rfl 25 #[.int .i64 0, .int .i64 0, .slice Wa Wn Wc] (0, 0) _ (HH.out.row 1 rfl) Try.underlying25 rfl tab_info ?_) | (refine wpList_load_rowG (by rfl) 25 (.tmp 3) rfl Tb rfl 25 #[.int .i64 R, .int .i64 C, .slice a' n' c'] (0, 0) _ (HH.out.row 2 rfl) Try.underlying25 rfl tab_info ?_) | (go_at_call 12; refine (lmTable_same (0) (0) Xa Xn Xc [] Wa Wn Wc _ (HH.out.tab 0 rfl) (HH.out.tab 1 rfl)).mono ?_; rintro e uu ⟨rfl, hb⟩; replace HH : Hid (Hold w [(Xb, #[.int .i64 0, .int .i64 0, .slice Xa Xn Xc], 25), (Wb, #[.int .i64 0, .int .i64 0, .slice Wa Wn Wc], 25), (Tb, #[.int .i64 R, .int .i64 C, .slice a' n' c'], 25)] [(Xa, Xn, Xc, []), (Wa, Wn, Wc, []), (a', n', c', l)] uu) := HH.out.go hb; clear hb))
    go_upto_region 9 with (first | (refine wpList_load_row rfl 25 (.tmp 7) rfl Xb rfl 25 #[.int .i64 0, .int .i64 0, .slice Xa Xn Xc] (0, 0) _ (HH.out.row 0 rfl) Try.underlying25 rfl tab_info ?_) | (refine wpList_load_row rfl 25 (.tmp 5) rfl Wb rfl 25 #[.int .i64 0, .int .i64 0, .slice Wa Wn Wc] (0, 0) _ (HH.out.row 1 rfl) Try.underlying25 rfl tab_info ?_) | (refine wpList_load_row rfl 25 (.tmp 3) rfl Tb rfl 25 #[.int .i64 R, .int .i64 C, .slice a' n' c'] (0, 0) _ (HH.out.row 2 rfl) Try.underlying25 rfl tab_info ?_) | (go_at_call 22; refine (implTableTurn_any R C a' n' c' l _ (HH.out.tab 2 rfl)).mono ?_; intro e Uu hr; obtain ⟨⟨Ux, Uy, Ua, Un, Uc, Ul, rs, rfl, hO, rfl, rfl, rfl⟩, hb⟩ := tRes_of hr; replace HH : Hid (Hold w [(Xb, #[.int .i64 0, .int .i64 0, .slice Xa Xn Xc], 25), (Wb, #[.int .i64 0, .int .i64 0, .slice Wa Wn Wc], 25), (Tb, #[.int .i64 R, .int .i64 C, .slice a' n' c'], 25)] [(Ua, Un, Uc, (tL R C l)), (Xa, Xn, Xc, []), (Wa, Wn, Wc, []), (a', n', c', l)] Uu) := (HH.out.go hb).add hO.tab; clear hr hO hb) | (go_at_call 13; refine (implTableRowOut_any (tX R C l) (tY R C l) t' Ua Un Uc (tL R C l) _ (HH.out.tab 0 rfl)).mono ?_; intro e w3' hr; obtain ⟨hr1, hb⟩ := hr; obtain ⟨Ya, Yn, Yc, rfl, hT⟩ := tabRes_f HC.out hr1; clear hr1))
    have H0 := HH.out.res hb hT #[.int .i64 0, .int .i64 0, .slice Ya Yn Yc] 25
    generalize (w3'.alloc (.cells #[.int .i64 0, .int .i64 0, .slice Ya Yn Yc] 25)) = v3 at H0 ⊢
    obtain ⟨Yb, hTe⟩ : ∃ T, w3'.heap.size = T := ⟨_, rfl⟩
    rw [hTe] at H0 ⊢
    replace HH : Hid (Hold w [(Yb, #[.int .i64 0, .int .i64 0, .slice Ya Yn Yc], 25), (Xb, #[.int .i64 0, .int .i64 0, .slice Xa Xn Xc], 25), (Wb, #[.int .i64 0, .int .i64 0, .slice Wa Wn Wc], 25), (Tb, #[.int .i64 R, .int .i64 C, .slice a' n' c'], 25)] [(Ya, Yn, Yc, []), (Ua, Un, Uc, (tL R C l)), (Xa, Xn, Xc, []), (Wa, Wn, Wc, []), (a', n', c', l)] v3) := H0
    clear hT hb H0 hTe
    cases inn
    · go_upto_region 10 with (first | (refine wpList_load_row rfl 25 (.tmp 9) rfl Yb rfl 25 #[.int .i64 0, .int .i64 0, .slice Ya Yn Yc] (0, 0) _ (HH.out.row 0 rfl) Try.underlying25 rfl tab_info ?_) | (refine wpList_load_row rfl 25 (.tmp 7) rfl Xb rfl 25 #[.int .i64 0, .int .i64 0, .slice Xa Xn Xc] (0, 0) _ (HH.out.row 1 rfl) Try.underlying25 rfl tab_info ?_) | (refine wpList_load_row rfl 25 (.tmp 5) rfl Wb rfl 25 #[.int .i64 0, .int .i64 0, .slice Wa Wn Wc] (0, 0) _ (HH.out.row 2 rfl) Try.underlying25 rfl tab_info ?_) | (refine wpList_load_row rfl 25 (.tmp 3) rfl Tb rfl 25 #[.int .i64 R, .int .i64 C, .slice a' n' c'] (0, 0) _ (HH.out.row 3 rfl) Try.underlying25 rfl tab_info ?_) | (go_at_call 23; refine (implTableColIn_any R C t' a' n' c' l _ (HH.out.tab 4 rfl)).mono ?_; intro e w4' hr; obtain ⟨hr1, hb⟩ := hr; obtain ⟨Za, Zn, Zc, rfl, hT⟩ := tabRes_f HI.out hr1; clear hr1))
      have H0 := HH.out.res hb hT #[.int .i64 0, .int .i64 0, .slice Za Zn Zc] 25
      generalize (w4'.alloc (.cells #[.int .i64 0, .int .i64 0, .slice Za Zn Zc] 25)) = v4 at H0 ⊢
      obtain ⟨Zb, hTe⟩ : ∃ T, w4'.heap.size = T := ⟨_, rfl⟩
      rw [hTe] at H0 ⊢
      replace HH : Hid (Hold w [(Zb, #[.int .i64 0, .int .i64 0, .slice Za Zn Zc], 25), (Yb, #[.int .i64 0, .int .i64 0, .slice Ya Yn Yc], 25), (Xb, #[.int .i64 0, .int .i64 0, .slice Xa Xn Xc], 25), (Wb, #[.int .i64 0, .int .i64 0, .slice Wa Wn Wc], 25), (Tb, #[.int .i64 R, .int .i64 C, .slice a' n' c'], 25)] [(Za, Zn, Zc, []), (Ya, Yn, Yc, []), (Ua, Un, Uc, (tL R C l)), (Xa, Xn, Xc, []), (Wa, Wn, Wc, []), (a', n', c', l)] v4) := H0
      clear hT hb H0 hTe
      go_upto_region 11 with (first | (refine wpList_load_row rfl 25 (.tmp 11) rfl Zb rfl 25 #[.int .i64 0, .int .i64 0, .slice Za Zn Zc] (0, 0) _ (HH.out.row 0 rfl) Try.underlying25 rfl tab_info ?_) | (refine wpList_load_row rfl 25 (.tmp 9) rfl Yb rfl 25 #[.int .i64 0, .int .i64 0, .slice Ya Yn Yc] (0, 0) _ (HH.out.row 1 rfl) Try.underlying25 rfl tab_info ?_) | (refine wpList_load_row rfl 25 (.tmp 7) rfl Xb rfl 25 #[.int .i64 0, .int .i64 0, .slice Xa Xn Xc] (0, 0) _ (HH.out.row 2 rfl) Try.underlying25 rfl tab_info ?_) | (refine wpList_load_row rfl 25 (.tmp 5) rfl Wb rfl 25 #[.int .i64 0, .int .i64 0, .slice Wa Wn Wc] (0, 0) _ (HH.out.row 3 rfl) Try.underlying25 rfl tab_info ?_) | (refine wpList_load_row rfl 25 (.tmp 3) rfl Tb rfl 25 #[.int .i64 R, .int .i64 C, .slice a' n' c'] (0, 0) _ (HH.out.row 4 rfl) Try.underlying25 rfl tab_info ?_) | (go_at_call 22; refine (implTableTurn_any R C a' n' c' l _ (HH.out.tab 5 rfl)).mono ?_; intro e Vu hr; obtain ⟨⟨Vx, Vy, Va, Vn, Vc, Vl, rs, rfl, hO, rfl, rfl, rfl⟩, hb⟩ := tRes_of hr; replace HH : Hid (Hold w [(Zb, #[.int .i64 0, .int .i64 0, .slice Za Zn Zc], 25), (Yb, #[.int .i64 0, .int .i64 0, .slice Ya Yn Yc], 25), (Xb, #[.int .i64 0, .int .i64 0, .slice Xa Xn Xc], 25), (Wb, #[.int .i64 0, .int .i64 0, .slice Wa Wn Wc], 25), (Tb, #[.int .i64 R, .int .i64 C, .slice a' n' c'], 25)] [(Va, Vn, Vc, (tL R C l)), (Za, Zn, Zc, []), (Ya, Yn, Yc, []), (Ua, Un, Uc, (tL R C l)), (Xa, Xn, Xc, []), (Wa, Wn, Wc, []), (a', n', c', l)] Vu) := (HH.out.go hb).add hO.tab; clear hr hO hb) | (go_at_call 11; refine (implTableRowIn_any (tX R C l) (tY R C l) t' Va Vn Vc (tL R C l) _ (HH.out.tab 0 rfl)).mono ?_; intro e w5' hr; obtain ⟨hr1, hb⟩ := hr; obtain ⟨Qa, Qn, Qc, rfl, hT⟩ := tabRes_f HI.out hr1; clear hr1))
      have H0 := HH.out.res hb hT #[.int .i64 0, .int .i64 0, .slice Qa Qn Qc] 25
      generalize (w5'.alloc (.cells #[.int .i64 0, .int .i64 0, .slice Qa Qn Qc] 25)) = v5 at H0 ⊢
      obtain ⟨Qb, hTe⟩ : ∃ T, w5'.heap.size = T := ⟨_, rfl⟩
      rw [hTe] at H0 ⊢
      replace HH : Hid (Hold w [(Qb, #[.int .i64 0, .int .i64 0, .slice Qa Qn Qc], 25), (Zb, #[.int .i64 0, .int .i64 0, .slice Za Zn Zc], 25), (Yb, #[.int .i64 0, .int .i64 0, .slice Ya Yn Yc], 25), (Xb, #[.int .i64 0, .int .i64 0, .slice Xa Xn Xc], 25), (Wb, #[.int .i64 0, .int .i64 0, .slice Wa Wn Wc], 25), (Tb, #[.int .i64 R, .int .i64 C, .slice a' n' c'], 25)] [(Qa, Qn, Qc, []), (Va, Vn, Vc, (tL R C l)), (Za, Zn, Zc, []), (Ya, Yn, Yc, []), (Ua, Un, Uc, (tL R C l)), (Xa, Xn, Xc, []), (Wa, Wn, Wc, []), (a', n', c', l)] v5) := H0
      clear hT hb H0 hTe
      refine wp_region_noPanic ?_
      refine wp_region_held_drew (S := fun w' => Hold w [(Qb, #[.int .i64 0, .int .i64 0, .slice Qa Qn Qc], 25), (Zb, #[.int .i64 0, .int .i64 0, .slice Za Zn Zc], 25), (Yb, #[.int .i64 0, .int .i64 0, .slice Ya Yn Yc], 25), (Xb, #[.int .i64 0, .int .i64 0, .slice Xa Xn Xc], 25), (Wb, #[.int .i64 0, .int .i64 0, .slice Wa Wn Wc], 25), (Tb, #[.int .i64 R, .int .i64 C, .slice a' n' c'], 25)] [(Qa, Qn, Qc, []), (Va, Vn, Vc, (tL R C l)), (Za, Zn, Zc, []), (Ya, Yn, Yc, []), (Ua, Un, Uc, (tL R C l)), (Xa, Xn, Xc, []), (Wa, Wn, Wc, []), (a', n', c', l)] w') (by kernel_rfl) HH.out.drew (fun hHeld => ?_)
      refine take_at 0 64 (.bool false) rfl rfl (by kernel_rfl) (by kernel_rfl) (by kernel_rfl) (fun _ _ _ h => h) (Or.inl ⟨by kernel_rfl, fun w' hS' => by go_simp⟩) hHeld ?_
      (try simp only [Act.put, List.setIfInBounds_toArray, List.set_cons_zero, List.set_cons_succ])
      refine take_at 1 65 (.bool false) rfl rfl (by kernel_rfl) (by kernel_rfl) (by kernel_rfl) (fun _ _ _ h => h) (Or.inl ⟨by kernel_rfl, fun w' hS' => by go_simp⟩) hHeld ?_
      (try simp only [Act.put, List.setIfInBounds_toArray, List.set_cons_zero, List.set_cons_succ])
      refine take_at 2 66 (.bool true) rfl rfl (by kernel_rfl) (by kernel_rfl) (by kernel_rfl) (fun _ _ _ h => h) (Or.inl ⟨by kernel_rfl, fun w' hS' => by go_simp⟩) hHeld ?_
      (try simp only [Act.put, List.setIfInBounds_toArray, List.set_cons_zero, List.set_cons_succ])
      refine take_at 3 67 (.bool true) rfl rfl (by kernel_rfl) (by kernel_rfl) (by kernel_rfl) (fun _ _ _ h => h) (Or.inl ⟨by kernel_rfl, fun w' hS' => by go_simp⟩) hHeld ?_
      (try simp only [Act.put, List.setIfInBounds_toArray, List.set_cons_zero, List.set_cons_succ])
      refine take_at 4 68 (.bool false) rfl rfl (by kernel_rfl) (by kernel_rfl) (by kernel_rfl) (fun _ _ _ h => h) (Or.inl ⟨by kernel_rfl, fun w' hS' => by go_simp⟩) hHeld ?_
      (try simp only [Act.put, List.setIfInBounds_toArray, List.set_cons_zero, List.set_cons_succ])
      refine take_at 5 69 (.bool true) rfl rfl (by kernel_rfl) (by kernel_rfl) (by kernel_rfl) (fun _ _ _ h => h) (Or.inl ⟨by kernel_rfl, fun w' hS' => by go_simp⟩) hHeld ?_
      (try simp only [Act.put, List.setIfInBounds_toArray, List.set_cons_zero, List.set_cons_succ])
      refine take_at 6 70 (.bool true) rfl rfl (by kernel_rfl) (by kernel_rfl) (by kernel_rfl) (fun _ _ _ h => h) (Or.inl ⟨by kernel_rfl, fun w' hS' => by go_simp⟩) hHeld ?_
      (try simp only [Act.put, List.setIfInBounds_toArray, List.set_cons_zero, List.set_cons_succ])
      refine take_at 7 71 (undef) rfl rfl (by kernel_rfl) (by kernel_rfl) (by kernel_rfl) (fun _ _ _ h => h) (Or.inr ⟨by kernel_rfl, rfl⟩) hHeld ?_
      (try simp only [Act.put, List.setIfInBounds_toArray, List.set_cons_zero, List.set_cons_succ])
      refine take_at 8 72 (undef) rfl rfl (by kernel_rfl) (by kernel_rfl) (by kernel_rfl) (fun _ _ _ h => h) (Or.inr ⟨by kernel_rfl, rfl⟩) hHeld ?_
      (try simp only [Act.put, List.setIfInBounds_toArray, List.set_cons_zero, List.set_cons_succ])
      refine take_at 9 73 (undef) rfl rfl (by kernel_rfl) (by kernel_rfl) (by kernel_rfl) (fun _ _ _ h => h) (Or.inr ⟨by kernel_rfl, rfl⟩) hHeld ?_
      (try simp only [Act.put, List.setIfInBounds_toArray, List.set_cons_zero, List.set_cons_succ])
      refine take_at 10 74 (undef) rfl rfl (by kernel_rfl) (by kernel_rfl) (by kernel_rfl) (fun _ _ _ h => h) (Or.inr ⟨by kernel_rfl, rfl⟩) hHeld ?_
      (try simp only [Act.put, List.setIfInBounds_toArray, List.set_cons_zero, List.set_cons_succ])
      refine take_at 11 75 (.bool true) rfl rfl (by kernel_rfl) (by kernel_rfl) (by kernel_rfl) (fun _ _ _ h => h) (Or.inl ⟨by kernel_rfl, fun w' hS' => by go_simp⟩) hHeld ?_
      (try simp only [Act.put, List.setIfInBounds_toArray, List.set_cons_zero, List.set_cons_succ])
      refine take_at 12 76 (.bool true) rfl rfl (by kernel_rfl) (by kernel_rfl) (by kernel_rfl) (fun _ _ _ h => h) (Or.inl ⟨by kernel_rfl, fun w' hS' => by go_simp⟩) hHeld ?_
      (try simp only [Act.put, List.setIfInBounds_toArray, List.set_cons_zero, List.set_cons_succ])
      refine take_at 13 77 (.bool true) rfl rfl (by kernel_rfl) (by kernel_rfl) (by kernel_rfl) (fun _ _ _ h => h) (Or.inl ⟨by kernel_rfl, fun w' hS' => by go_simp⟩) hHeld ?_
      (try simp only [Act.put, List.setIfInBounds_toArray, List.set_cons_zero, List.set_cons_succ])
      refine take_at 14 78 (.bool false) rfl rfl (by kernel_rfl) (by kernel_rfl) (by kernel_rfl) (fun _ _ _ h => h) (Or.inl ⟨by kernel_rfl, fun w' hS' => by go_simp⟩) hHeld ?_
      (try simp only [Act.put, List.setIfInBounds_toArray, List.set_cons_zero, List.set_cons_succ])
      refine take_at 15 79 (.bool false) rfl rfl (by kernel_rfl) (by kernel_rfl) (by kernel_rfl) (fun _ _ _ h => h) (Or.inl ⟨by kernel_rfl, fun w' hS' => by go_simp⟩) hHeld ?_
      (try simp only [Act.put, List.setIfInBounds_toArray, List.set_cons_zero, List.set_cons_succ])
      refine take_at 16 80 (.bool true) rfl rfl (by kernel_rfl) (by kernel_rfl) (by kernel_rfl) (fun _ _ _ h => h) (Or.inl ⟨by kernel_rfl, fun w' hS' => by go_simp⟩) hHeld ?_
      (try simp only [Act.put, List.setIfInBounds_toArray, List.set_cons_zero, List.set_cons_succ])
      refine take_at 17 81 (.bool true) rfl rfl (by kernel_rfl) (by kernel_rfl) (by kernel_rfl) (fun _ _ _ h => h) (Or.inl ⟨by kernel_rfl, fun w' hS' => by go_simp⟩) hHeld ?_
      (try simp only [Act.put, List.setIfInBounds_toArray, List.set_cons_zero, List.set_cons_succ])
      refine take_at 18 82 (.bool true) rfl rfl (by kernel_rfl) (by kernel_rfl) (by kernel_rfl) (fun _ _ _ h => h) (Or.inl ⟨by kernel_rfl, fun w' hS' => by go_simp⟩) hHeld ?_
      (try simp only [Act.put, List.setIfInBounds_toArray, List.set_cons_zero, List.set_cons_succ])
      refine take_at 19 83 (.bool false) rfl rfl (by kernel_rfl) (by kernel_rfl) (by kernel_rfl) (fun _ _ _ h => h) (Or.inl ⟨by kernel_rfl, fun w' hS' => by go_simp⟩) hHeld ?_
      (try simp only [Act.put, List.setIfInBounds_toArray, List.set_cons_zero, List.set_cons_succ])
      refine take_at 20 84 (.bool true) rfl rfl (by kernel_rfl) (by kernel_rfl) (by kernel_rfl) (fun _ _ _ h => h) (Or.inl ⟨by kernel_rfl, fun w' hS' => by go_simp⟩) hHeld ?_
      (try simp only [Act.put, List.setIfInBounds_toArray, List.set_cons_zero, List.set_cons_succ])
      refine take_at 21 85 (.bool true) rfl rfl (by kernel_rfl) (by kernel_rfl) (by kernel_rfl) (fun _ _ _ h => h) (Or.inl ⟨by kernel_rfl, fun w' hS' => by go_simp⟩) hHeld ?_
      (try simp only [Act.put, List.setIfInBounds_toArray, List.set_cons_zero, List.set_cons_succ])
      refine take_at 22 86 (undef) rfl rfl (by kernel_rfl) (by kernel_rfl) (by kernel_rfl) (fun _ _ _ h => h) (Or.inr ⟨by kernel_rfl, rfl⟩) hHeld ?_
      (try simp only [Act.put, List.setIfInBounds_toArray, List.set_cons_zero, List.set_cons_succ])
      refine take_at 23 87 (undef) rfl rfl (by kernel_rfl) (by kernel_rfl) (by kernel_rfl) (fun _ _ _ h => h) (Or.inr ⟨by kernel_rfl, rfl⟩) hHeld ?_
      (try simp only [Act.put, List.setIfInBounds_toArray, List.set_cons_zero, List.set_cons_succ])
      refine take_at 24 88 (undef) rfl rfl (by kernel_rfl) (by kernel_rfl) (by kernel_rfl) (fun _ _ _ h => h) (Or.inr ⟨by kernel_rfl, rfl⟩) hHeld ?_
      (try simp only [Act.put, List.setIfInBounds_toArray, List.set_cons_zero, List.set_cons_succ])
      refine take_at 25 89 (undef) rfl rfl (by kernel_rfl) (by kernel_rfl) (by kernel_rfl) (fun _ _ _ h => h) (Or.inr ⟨by kernel_rfl, rfl⟩) hHeld ?_
      (try simp only [Act.put, List.setIfInBounds_toArray, List.set_cons_zero, List.set_cons_succ])
      refine take_at 26 90 (.bool true) rfl rfl (by kernel_rfl) (by kernel_rfl) (by kernel_rfl) (fun _ _ _ h => h) (Or.inl ⟨by kernel_rfl, fun w' hS' => by go_simp⟩) hHeld ?_
      (try simp only [Act.put, List.setIfInBounds_toArray, List.set_cons_zero, List.set_cons_succ])
      refine take_at 27 91 (.bool true) rfl rfl (by kernel_rfl) (by kernel_rfl) (by kernel_rfl) (fun _ _ _ h => h) (Or.inl ⟨by kernel_rfl, fun w' hS' => by go_simp⟩) hHeld ?_
      (try simp only [Act.put, List.setIfInBounds_toArray, List.set_cons_zero, List.set_cons_succ])
      refine take_at 28 2 (.bool true) rfl rfl (by kernel_rfl) (by kernel_rfl) (by kernel_rfl) (fun _ _ _ h => h) (Or.inl ⟨by kernel_rfl, fun w' hS' => by go_simp⟩) hHeld ?_
      (try simp only [Act.put, List.setIfInBounds_toArray, List.set_cons_zero, List.set_cons_succ])
      refine wpAnyH_done (by kernel_rfl) ?_ _
      refine NoPanic.normal ?_
      replace HH : Hid (Hold w [(Qb, #[.int .i64 0, .int .i64 0, .slice Qa Qn Qc], 25), (Zb, #[.int .i64 0, .int .i64 0, .slice Za Zn Zc], 25), (Yb, #[.int .i64 0, .int .i64 0, .slice Ya Yn Yc], 25), (Xb, #[.int .i64 0, .int .i64 0, .slice Xa Xn Xc], 25), (Wb, #[.int .i64 0, .int .i64 0, .slice Wa Wn Wc], 25), (Tb, #[.int .i64 R, .int .i64 C, .slice a' n' c'], 25)] [(Qa, Qn, Qc, []), (Va, Vn, Vc, (tL R C l)), (Za, Zn, Zc, []), (Ya, Yn, Yc, []), (Ua, Un, Uc, (tL R C l)), (Xa, Xn, Xc, []), (Wa, Wn, Wc, []), (a', n', c', l)] _) := hHeld
      clear hHeld
      go_wp2_with fail
      go_ret
      exact ⟨rfl, HH.out.1⟩
    · go_upto_region 10 with (first | (refine wpList_load_row rfl 25 (.tmp 9) rfl Yb rfl 25 #[.int .i64 0, .int .i64 0, .slice Ya Yn Yc] (0, 0) _ (HH.out.row 0 rfl) Try.underlying25 rfl tab_info ?_) | (refine wpList_load_row rfl 25 (.tmp 7) rfl Xb rfl 25 #[.int .i64 0, .int .i64 0, .slice Xa Xn Xc] (0, 0) _ (HH.out.row 1 rfl) Try.underlying25 rfl tab_info ?_) | (refine wpList_load_row rfl 25 (.tmp 5) rfl Wb rfl 25 #[.int .i64 0, .int .i64 0, .slice Wa Wn Wc] (0, 0) _ (HH.out.row 2 rfl) Try.underlying25 rfl tab_info ?_) | (refine wpList_load_row rfl 25 (.tmp 3) rfl Tb rfl 25 #[.int .i64 R, .int .i64 C, .slice a' n' c'] (0, 0) _ (HH.out.row 3 rfl) Try.underlying25 rfl tab_info ?_) | (go_at_call 23; refine (implTableColIn_any R C t' a' n' c' l _ (HH.out.tab 4 rfl)).mono ?_; intro e w4' hr; obtain ⟨hr1, hb⟩ := hr; obtain ⟨Za, Zn, Zc, rfl, hT⟩ := tabRes_t HI.out hr1; clear hr1))
      have H0 := HH.out.res hb hT #[.int .i64 ((tY R C l)), .int .i64 ((tX R C l) + 1), .slice Za Zn Zc] 25
      generalize (w4'.alloc (.cells #[.int .i64 ((tY R C l)), .int .i64 ((tX R C l) + 1), .slice Za Zn Zc] 25)) = v4 at H0 ⊢
      obtain ⟨Zb, hTe⟩ : ∃ T, w4'.heap.size = T := ⟨_, rfl⟩
      rw [hTe] at H0 ⊢
      replace HH : Hid (Hold w [(Zb, #[.int .i64 ((tY R C l)), .int .i64 ((tX R C l) + 1), .slice Za Zn Zc], 25), (Yb, #[.int .i64 0, .int .i64 0, .slice Ya Yn Yc], 25), (Xb, #[.int .i64 0, .int .i64 0, .slice Xa Xn Xc], 25), (Wb, #[.int .i64 0, .int .i64 0, .slice Wa Wn Wc], 25), (Tb, #[.int .i64 R, .int .i64 C, .slice a' n' c'], 25)] [(Za, Zn, Zc, (turnL (inL t' (tY R C l) (tL R C l)))), (Ya, Yn, Yc, []), (Ua, Un, Uc, (tL R C l)), (Xa, Xn, Xc, []), (Wa, Wn, Wc, []), (a', n', c', l)] v4) := H0
      clear hT hb H0 hTe
      go_upto_region 11 with (first | (refine wpList_load_row rfl 25 (.tmp 11) rfl Zb rfl 25 #[.int .i64 ((tY R C l)), .int .i64 ((tX R C l) + 1), .slice Za Zn Zc] (0, 0) _ (HH.out.row 0 rfl) Try.underlying25 rfl tab_info ?_) | (refine wpList_load_row rfl 25 (.tmp 9) rfl Yb rfl 25 #[.int .i64 0, .int .i64 0, .slice Ya Yn Yc] (0, 0) _ (HH.out.row 1 rfl) Try.underlying25 rfl tab_info ?_) | (refine wpList_load_row rfl 25 (.tmp 7) rfl Xb rfl 25 #[.int .i64 0, .int .i64 0, .slice Xa Xn Xc] (0, 0) _ (HH.out.row 2 rfl) Try.underlying25 rfl tab_info ?_) | (refine wpList_load_row rfl 25 (.tmp 5) rfl Wb rfl 25 #[.int .i64 0, .int .i64 0, .slice Wa Wn Wc] (0, 0) _ (HH.out.row 3 rfl) Try.underlying25 rfl tab_info ?_) | (refine wpList_load_row rfl 25 (.tmp 3) rfl Tb rfl 25 #[.int .i64 R, .int .i64 C, .slice a' n' c'] (0, 0) _ (HH.out.row 4 rfl) Try.underlying25 rfl tab_info ?_) | (go_at_call 22; refine (implTableTurn_any R C a' n' c' l _ (HH.out.tab 5 rfl)).mono ?_; intro e Vu hr; obtain ⟨⟨Vx, Vy, Va, Vn, Vc, Vl, rs, rfl, hO, rfl, rfl, rfl⟩, hb⟩ := tRes_of hr; replace HH : Hid (Hold w [(Zb, #[.int .i64 ((tY R C l)), .int .i64 ((tX R C l) + 1), .slice Za Zn Zc], 25), (Yb, #[.int .i64 0, .int .i64 0, .slice Ya Yn Yc], 25), (Xb, #[.int .i64 0, .int .i64 0, .slice Xa Xn Xc], 25), (Wb, #[.int .i64 0, .int .i64 0, .slice Wa Wn Wc], 25), (Tb, #[.int .i64 R, .int .i64 C, .slice a' n' c'], 25)] [(Va, Vn, Vc, (tL R C l)), (Za, Zn, Zc, (turnL (inL t' (tY R C l) (tL R C l)))), (Ya, Yn, Yc, []), (Ua, Un, Uc, (tL R C l)), (Xa, Xn, Xc, []), (Wa, Wn, Wc, []), (a', n', c', l)] Vu) := (HH.out.go hb).add hO.tab; clear hr hO hb) | (go_at_call 11; refine (implTableRowIn_any (tX R C l) (tY R C l) t' Va Vn Vc (tL R C l) _ (HH.out.tab 0 rfl)).mono ?_; intro e w5' hr; obtain ⟨hr1, hb⟩ := hr; obtain ⟨Qa, Qn, Qc, rfl, hT⟩ := tabRes_t HI.out hr1; clear hr1))
      have H0 := HH.out.res hb hT #[.int .i64 ((tX R C l) + 1), .int .i64 ((tY R C l)), .slice Qa Qn Qc] 25
      generalize (w5'.alloc (.cells #[.int .i64 ((tX R C l) + 1), .int .i64 ((tY R C l)), .slice Qa Qn Qc] 25)) = v5 at H0 ⊢
      obtain ⟨Qb, hTe⟩ : ∃ T, w5'.heap.size = T := ⟨_, rfl⟩
      rw [hTe] at H0 ⊢
      replace HH : Hid (Hold w [(Qb, #[.int .i64 ((tX R C l) + 1), .int .i64 ((tY R C l)), .slice Qa Qn Qc], 25), (Zb, #[.int .i64 ((tY R C l)), .int .i64 ((tX R C l) + 1), .slice Za Zn Zc], 25), (Yb, #[.int .i64 0, .int .i64 0, .slice Ya Yn Yc], 25), (Xb, #[.int .i64 0, .int .i64 0, .slice Xa Xn Xc], 25), (Wb, #[.int .i64 0, .int .i64 0, .slice Wa Wn Wc], 25), (Tb, #[.int .i64 R, .int .i64 C, .slice a' n' c'], 25)] [(Qa, Qn, Qc, (inL t' (tY R C l) (tL R C l))), (Va, Vn, Vc, (tL R C l)), (Za, Zn, Zc, (turnL (inL t' (tY R C l) (tL R C l)))), (Ya, Yn, Yc, []), (Ua, Un, Uc, (tL R C l)), (Xa, Xn, Xc, []), (Wa, Wn, Wc, []), (a', n', c', l)] v5) := H0
      clear hT hb H0 hTe
      refine wp_region_noPanic ?_
      refine wp_region_held_drew (S := fun w' => Hold w [(Qb, #[.int .i64 ((tX R C l) + 1), .int .i64 ((tY R C l)), .slice Qa Qn Qc], 25), (Zb, #[.int .i64 ((tY R C l)), .int .i64 ((tX R C l) + 1), .slice Za Zn Zc], 25), (Yb, #[.int .i64 0, .int .i64 0, .slice Ya Yn Yc], 25), (Xb, #[.int .i64 0, .int .i64 0, .slice Xa Xn Xc], 25), (Wb, #[.int .i64 0, .int .i64 0, .slice Wa Wn Wc], 25), (Tb, #[.int .i64 R, .int .i64 C, .slice a' n' c'], 25)] [(Qa, Qn, Qc, (inL t' (tY R C l) (tL R C l))), (Va, Vn, Vc, (tL R C l)), (Za, Zn, Zc, (turnL (inL t' (tY R C l) (tL R C l)))), (Ya, Yn, Yc, []), (Ua, Un, Uc, (tL R C l)), (Xa, Xn, Xc, []), (Wa, Wn, Wc, []), (a', n', c', l)] w') (by kernel_rfl) HH.out.drew (fun hHeld => ?_)
      refine take_at 0 64 (.bool false) rfl rfl (by kernel_rfl) (by kernel_rfl) (by kernel_rfl) (fun _ _ _ h => h) (Or.inl ⟨by kernel_rfl, fun w' hS' => by go_simp⟩) hHeld ?_
      (try simp only [Act.put, List.setIfInBounds_toArray, List.set_cons_zero, List.set_cons_succ])
      refine take_at 1 65 (.bool false) rfl rfl (by kernel_rfl) (by kernel_rfl) (by kernel_rfl) (fun _ _ _ h => h) (Or.inl ⟨by kernel_rfl, fun w' hS' => by go_simp⟩) hHeld ?_
      (try simp only [Act.put, List.setIfInBounds_toArray, List.set_cons_zero, List.set_cons_succ])
      refine take_at 2 66 (.bool true) rfl rfl (by kernel_rfl) (by kernel_rfl) (by kernel_rfl) (fun _ _ _ h => h) (Or.inl ⟨by kernel_rfl, fun w' hS' => by go_simp⟩) hHeld ?_
      (try simp only [Act.put, List.setIfInBounds_toArray, List.set_cons_zero, List.set_cons_succ])
      refine take_at 3 67 (.bool true) rfl rfl (by kernel_rfl) (by kernel_rfl) (by kernel_rfl) (fun _ _ _ h => h) (Or.inl ⟨by kernel_rfl, fun w' hS' => by go_simp⟩) hHeld ?_
      (try simp only [Act.put, List.setIfInBounds_toArray, List.set_cons_zero, List.set_cons_succ])
      refine take_at 4 68 (.bool false) rfl rfl (by kernel_rfl) (by kernel_rfl) (by kernel_rfl) (fun _ _ _ h => h) (Or.inl ⟨by kernel_rfl, fun w' hS' => by go_simp⟩) hHeld ?_
      (try simp only [Act.put, List.setIfInBounds_toArray, List.set_cons_zero, List.set_cons_succ])
      refine take_at 5 69 (.bool true) rfl rfl (by kernel_rfl) (by kernel_rfl) (by kernel_rfl) (fun _ _ _ h => h) (Or.inl ⟨by kernel_rfl, fun w' hS' => by go_simp⟩) hHeld ?_
      (try simp only [Act.put, List.setIfInBounds_toArray, List.set_cons_zero, List.set_cons_succ])
      refine take_at 6 70 (.bool true) rfl rfl (by kernel_rfl) (by kernel_rfl) (by kernel_rfl) (fun _ _ _ h => h) (Or.inl ⟨by kernel_rfl, fun w' hS' => by go_simp⟩) hHeld ?_
      (try simp only [Act.put, List.setIfInBounds_toArray, List.set_cons_zero, List.set_cons_succ])
      refine take_at 7 71 (undef) rfl rfl (by kernel_rfl) (by kernel_rfl) (by kernel_rfl) (fun _ _ _ h => h) (Or.inr ⟨by kernel_rfl, rfl⟩) hHeld ?_
      (try simp only [Act.put, List.setIfInBounds_toArray, List.set_cons_zero, List.set_cons_succ])
      refine take_at 8 72 (undef) rfl rfl (by kernel_rfl) (by kernel_rfl) (by kernel_rfl) (fun _ _ _ h => h) (Or.inr ⟨by kernel_rfl, rfl⟩) hHeld ?_
      (try simp only [Act.put, List.setIfInBounds_toArray, List.set_cons_zero, List.set_cons_succ])
      refine take_at 9 73 (undef) rfl rfl (by kernel_rfl) (by kernel_rfl) (by kernel_rfl) (fun _ _ _ h => h) (Or.inr ⟨by kernel_rfl, rfl⟩) hHeld ?_
      (try simp only [Act.put, List.setIfInBounds_toArray, List.set_cons_zero, List.set_cons_succ])
      refine take_at 10 74 (undef) rfl rfl (by kernel_rfl) (by kernel_rfl) (by kernel_rfl) (fun _ _ _ h => h) (Or.inr ⟨by kernel_rfl, rfl⟩) hHeld ?_
      (try simp only [Act.put, List.setIfInBounds_toArray, List.set_cons_zero, List.set_cons_succ])
      refine take_at 11 75 (.bool true) rfl rfl (by kernel_rfl) (by kernel_rfl) (by kernel_rfl) (fun _ _ _ h => h) (Or.inl ⟨by kernel_rfl, fun w' hS' => by go_simp⟩) hHeld ?_
      (try simp only [Act.put, List.setIfInBounds_toArray, List.set_cons_zero, List.set_cons_succ])
      refine take_at 12 76 (.bool true) rfl rfl (by kernel_rfl) (by kernel_rfl) (by kernel_rfl) (fun _ _ _ h => h) (Or.inl ⟨by kernel_rfl, fun w' hS' => by go_simp⟩) hHeld ?_
      (try simp only [Act.put, List.setIfInBounds_toArray, List.set_cons_zero, List.set_cons_succ])
      refine take_at 13 77 (.bool true) rfl rfl (by kernel_rfl) (by kernel_rfl) (by kernel_rfl) (fun _ _ _ h => h) (Or.inl ⟨by kernel_rfl, fun w' hS' => by go_simp⟩) hHeld ?_
      (try simp only [Act.put, List.setIfInBounds_toArray, List.set_cons_zero, List.set_cons_succ])
      refine take_at 14 78 (.bool true) rfl rfl (by kernel_rfl) (by kernel_rfl) (by kernel_rfl) (fun _ _ _ h => h) (Or.inl ⟨by kernel_rfl, fun w' hS' => by go_simp⟩) hHeld ?_
      (try simp only [Act.put, List.setIfInBounds_toArray, List.set_cons_zero, List.set_cons_succ])
      refine take_at 15 79 (.bool true) rfl rfl (by kernel_rfl) (by kernel_rfl) (by kernel_rfl) (fun _ _ _ h => h) (Or.inl ⟨by kernel_rfl, fun w' hS' => by go_simp⟩) hHeld ?_
      (try simp only [Act.put, List.setIfInBounds_toArray, List.set_cons_zero, List.set_cons_succ])
      refine take_at 16 80 (.bool true) rfl rfl (by kernel_rfl) (by kernel_rfl) (by kernel_rfl) (fun _ _ _ h => h) (Or.inl ⟨by kernel_rfl, fun w' hS' => by go_simp⟩) hHeld ?_
      (try simp only [Act.put, List.setIfInBounds_toArray, List.set_cons_zero, List.set_cons_succ])
      refine take_at 17 81 (.bool true) rfl rfl (by kernel_rfl) (by kernel_rfl) (by kernel_rfl) (fun _ _ _ h => h) (Or.inl ⟨by kernel_rfl, fun w' hS' => by go_simp⟩) hHeld ?_
      (try simp only [Act.put, List.setIfInBounds_toArray, List.set_cons_zero, List.set_cons_succ])
      refine take_at 18 82 (.bool true) rfl rfl (by kernel_rfl) (by kernel_rfl) (by kernel_rfl) (fun _ _ _ h => h) (Or.inl ⟨by kernel_rfl, fun w' hS' => by go_simp⟩) hHeld ?_
      (try simp only [Act.put, List.setIfInBounds_toArray, List.set_cons_zero, List.set_cons_succ])
      refine take_at 19 83 (.bool true) rfl rfl (by kernel_rfl) (by kernel_rfl) (by kernel_rfl) (fun _ _ _ h => h) (Or.inl ⟨by kernel_rfl, fun w' hS' => by go_simp⟩) hHeld ?_
      (try simp only [Act.put, List.setIfInBounds_toArray, List.set_cons_zero, List.set_cons_succ])
      refine take_at 20 84 (.bool false) rfl rfl (by kernel_rfl) (by kernel_rfl) (by kernel_rfl) (fun _ _ _ h => h) (Or.inl ⟨by kernel_rfl, fun w' hS' => by go_simp⟩) hHeld ?_
      (try simp only [Act.put, List.setIfInBounds_toArray, List.set_cons_zero, List.set_cons_succ])
      refine take_at 21 85 (.bool false) rfl rfl (by kernel_rfl) (by kernel_rfl) (by kernel_rfl) (fun _ _ _ h => h) (Or.inl ⟨by kernel_rfl, fun w' hS' => by go_simp⟩) hHeld ?_
      (try simp only [Act.put, List.setIfInBounds_toArray, List.set_cons_zero, List.set_cons_succ])
      refine take_at 22 86 (.agg #[.int .i64 ((tX R C l) + 1), .int .i64 ((tY R C l)), .slice Qa Qn Qc]) rfl rfl (by kernel_rfl) (by kernel_rfl) (by kernel_rfl) (fun _ _ _ h => h) (yieldsIf_load_row (by kernel_rfl) 25 (.tmp 13) rfl Qb rfl 25 #[.int .i64 ((tX R C l) + 1), .int .i64 ((tY R C l)), .slice Qa Qn Qc] (0, 0) _ (fun w' h => h.row 0 rfl) Try.underlying25 rfl tab_info) hHeld ?_
      (try simp only [Act.put, List.setIfInBounds_toArray, List.set_cons_zero, List.set_cons_succ])
      refine take_at 24 88 (.agg #[.int .i64 ((tY R C l)), .int .i64 ((tX R C l) + 1), .slice Za Zn Zc]) rfl rfl (by kernel_rfl) (by kernel_rfl) (by kernel_rfl) (fun _ _ _ h => h) (yieldsIf_load_row (by kernel_rfl) 25 (.tmp 11) rfl Zb rfl 25 #[.int .i64 ((tY R C l)), .int .i64 ((tX R C l) + 1), .slice Za Zn Zc] (0, 0) _ (fun w' h => h.row 1 rfl) Try.underlying25 rfl tab_info) hHeld ?_
      (try simp only [Act.put, List.setIfInBounds_toArray, List.set_cons_zero, List.set_cons_succ])
      refine wpAnyH_ready (rs := [23]) (by kernel_rfl) (by simp) ?_
      refine AllReadyH.cons rfl (fun K hK => ?_) AllReadyH.nil
      go_simp
      go_at_call 22
      refine (implTableTurn_any ((tX R C l) + 1) (tY R C l) Qa Qn Qc (inL t' (tY R C l) (tL R C l)) _ (hHeld.tab 0 rfl)).mono ?_
      intro e u3 hr
      obtain ⟨h1 | h1, hb⟩ := hr
      · exact absurd (h1.1.symm.trans (ok_in HI.out)) (by simp)
      obtain ⟨-, na, nc, ns, rfl, hO⟩ := h1
      obtain ⟨N, hN⟩ : ∃ M, (inL t' (tY R C l) (tL R C l)).length = M := ⟨_, rfl⟩
      rw [hN] at hO ⊢
      have HN : Hid (Tab u3 na N nc (turnL (inL t' (tY R C l) (tL R C l)))) := hO.tab
      clear hO hN
      go_wp2_with fail
      refine hK.out _ _ (hHeld.go hb) (fun hHeld => ?_)
      clear hK K
      (try simp only [Act.put, List.setIfInBounds_toArray, List.set_cons_zero, List.set_cons_succ])
      refine wpAnyH_ready (rs := [25]) (by kernel_rfl) (by simp) ?_
      refine AllReadyH.cons rfl (fun K hK => ?_) AllReadyH.nil
      go_simp
      go_at_call 12
      refine (lmTable_same (tY R C l) ((tX R C l) + 1) na N nc (turnL (inL t' (tY R C l) (tL R C l))) Za Zn Zc _ HN.out (hHeld.tab 2 rfl)).mono ?_
      rintro e u4 ⟨rfl, hb⟩
      go_wp2_with fail
      refine hK.out _ _ (hHeld.go hb) (fun hHeld => ?_)
      clear hK K
      (try simp only [Act.put, List.setIfInBounds_toArray, List.set_cons_zero, List.set_cons_succ])
      refine take_at 26 90 (.bool true) rfl rfl (by kernel_rfl) (by kernel_rfl) (by kernel_rfl) (fun _ _ _ h => h) (Or.inl ⟨by kernel_rfl, fun w' hS' => by go_simp⟩) hHeld ?_
      (try simp only [Act.put, List.setIfInBounds_toArray, List.set_cons_zero, List.set_cons_succ])
      refine take_at 27 91 (.bool true) rfl rfl (by kernel_rfl) (by kernel_rfl) (by kernel_rfl) (fun _ _ _ h => h) (Or.inl ⟨by kernel_rfl, fun w' hS' => by go_simp⟩) hHeld ?_
      (try simp only [Act.put, List.setIfInBounds_toArray, List.set_cons_zero, List.set_cons_succ])
      refine take_at 28 2 (.bool true) rfl rfl (by kernel_rfl) (by kernel_rfl) (by kernel_rfl) (fun _ _ _ h => h) (Or.inl ⟨by kernel_rfl, fun w' hS' => by go_simp⟩) hHeld ?_
      (try simp only [Act.put, List.setIfInBounds_toArray, List.set_cons_zero, List.set_cons_succ])
      refine wpAnyH_done (by kernel_rfl) ?_ _
      refine NoPanic.normal ?_
      replace HH : Hid (Hold w [(Qb, #[.int .i64 ((tX R C l) + 1), .int .i64 ((tY R C l)), .slice Qa Qn Qc], 25), (Zb, #[.int .i64 ((tY R C l)), .int .i64 ((tX R C l) + 1), .slice Za Zn Zc], 25), (Yb, #[.int .i64 0, .int .i64 0, .slice Ya Yn Yc], 25), (Xb, #[.int .i64 0, .int .i64 0, .slice Xa Xn Xc], 25), (Wb, #[.int .i64 0, .int .i64 0, .slice Wa Wn Wc], 25), (Tb, #[.int .i64 R, .int .i64 C, .slice a' n' c'], 25)] [(Qa, Qn, Qc, (inL t' (tY R C l) (tL R C l))), (Va, Vn, Vc, (tL R C l)), (Za, Zn, Zc, (turnL (inL t' (tY R C l) (tL R C l)))), (Ya, Yn, Yc, []), (Ua, Un, Uc, (tL R C l)), (Xa, Xn, Xc, []), (Wa, Wn, Wc, []), (a', n', c', l)] _) := hHeld
      clear hHeld
      go_wp2_with fail
      go_ret
      exact ⟨rfl, HH.out.1⟩
  · go_upto_region 5 with (first | (refine wpList_load_row rfl 25 (.tmp 3) rfl Tb rfl 25 #[.int .i64 R, .int .i64 C, .slice a' n' c'] (0, 0) _ (HH.out.row 0 rfl) Try.underlying25 rfl tab_info ?_) | (go_at_call 20; refine (specTableColOut_any R C t' a' n' c' l _ (HH.out.tab 0 rfl)).mono ?_; intro e w1' hr; obtain ⟨hr1, hb⟩ := hr; obtain ⟨Wa, Wn, Wc, rfl, hT⟩ := tabRes_t HC.out hr1; clear hr1))
    have H0 := HH.out.res hb hT #[.int .i64 ((tY R C l)), .int .i64 ((tX R C l) - 1), .slice Wa Wn Wc] 25
    generalize (w1'.alloc (.cells #[.int .i64 ((tY R C l)), .int .i64 ((tX R C l) - 1), .slice Wa Wn Wc] 25)) = v1 at H0 ⊢
    obtain ⟨Wb, hTe⟩ : ∃ T, w1'.heap.size = T := ⟨_, rfl⟩
    rw [hTe] at H0 ⊢
    replace HH : Hid (Hold w [(Wb, #[.int .i64 ((tY R C l)), .int .i64 ((tX R C l) - 1), .slice Wa Wn Wc], 25), (Tb, #[.int .i64 R, .int .i64 C, .slice a' n' c'], 25)] [(Wa, Wn, Wc, (turnL (outL t' (tL R C l)))), (a', n', c', l)] v1) := H0
    clear hT hb H0 hTe
    go_upto_region 6 with (first | (refine wpList_load_row rfl 25 (.tmp 5) rfl Wb rfl 25 #[.int .i64 ((tY R C l)), .int .i64 ((tX R C l) - 1), .slice Wa Wn Wc] (0, 0) _ (HH.out.row 0 rfl) Try.underlying25 rfl tab_info ?_) | (refine wpList_load_row rfl 25 (.tmp 3) rfl Tb rfl 25 #[.int .i64 R, .int .i64 C, .slice a' n' c'] (0, 0) _ (HH.out.row 1 rfl) Try.underlying25 rfl tab_info ?_) | (go_at_call 21; refine (implTableColOut_any R C t' a' n' c' l _ (HH.out.tab 1 rfl)).mono ?_; intro e w2' hr; obtain ⟨hr1, hb⟩ := hr; obtain ⟨Xa, Xn, Xc, rfl, hT⟩ := tabRes_t HC.out hr1; clear hr1))
    have H0 := HH.out.res hb hT #[.int .i64 ((tY R C l)), .int .i64 ((tX R C l) - 1), .slice Xa Xn Xc] 25
    generalize (w2'.alloc (.cells #[.int .i64 ((tY R C l)), .int .i64 ((tX R C l) - 1), .slice Xa Xn Xc] 25)) = v2 at H0 ⊢
    obtain ⟨Xb, hTe⟩ : ∃ T, w2'.heap.size = T := ⟨_, rfl⟩
    rw [hTe] at H0 ⊢
    replace HH : Hid (Hold w [(Xb, #[.int .i64 ((tY R C l)), .int .i64 ((tX R C l) - 1), .slice Xa Xn Xc], 25), (Wb, #[.int .i64 ((tY R C l)), .int .i64 ((tX R C l) - 1), .slice Wa Wn Wc], 25), (Tb, #[.int .i64 R, .int .i64 C, .slice a' n' c'], 25)] [(Xa, Xn, Xc, (turnL (outL t' (tL R C l)))), (Wa, Wn, Wc, (turnL (outL t' (tL R C l)))), (a', n', c', l)] v2) := H0
    clear hT hb H0 hTe
    go_upto_region 8 with (first | (refine wpList_load_rowG (by rfl) 25 (.tmp 7) rfl Xb rfl 25 #[.int .i64 ((tY R C l)), .int .i64 ((tX R C l) - 1), .slice Xa Xn Xc] (0, 0) _ (HH.out.row 0 rfl) Try.underlying25 rfl tab_info ?_) | (refine wpList_load_rowG (by rfl) 25 (.tmp 5) rfl Wb rfl 25 #[.int .i64 ((tY R C l)), .int .i64 ((tX R C l) - 1), .slice Wa Wn Wc] (0, 0) _ (HH.out.row 1 rfl) Try.underlying25 rfl tab_info ?_) | (refine wpList_load_rowG (by rfl) 25 (.tmp 3) rfl Tb rfl 25 #[.int .i64 R, .int .i64 C, .slice a' n' c'] (0, 0) _ (HH.out.row 2 rfl) Try.underlying25 rfl tab_info ?_) | (go_at_call 12; refine (lmTable_same ((tY R C l)) ((tX R C l) - 1) Xa Xn Xc (turnL (outL t' (tL R C l))) Wa Wn Wc _ (HH.out.tab 0 rfl) (HH.out.tab 1 rfl)).mono ?_; rintro e uu ⟨rfl, hb⟩; replace HH : Hid (Hold w [(Xb, #[.int .i64 ((tY R C l)), .int .i64 ((tX R C l) - 1), .slice Xa Xn Xc], 25), (Wb, #[.int .i64 ((tY R C l)), .int .i64 ((tX R C l) - 1), .slice Wa Wn Wc], 25), (Tb, #[.int .i64 R, .int .i64 C, .slice a' n' c'], 25)] [(Xa, Xn, Xc, (turnL (outL t' (tL R C l)))), (Wa, Wn, Wc, (turnL (outL t' (tL R C l)))), (a', n', c', l)] uu) := HH.out.go hb; clear hb))
    go_upto_region 9 with (first | (refine wpList_load_row rfl 25 (.tmp 7) rfl Xb rfl 25 #[.int .i64 ((tY R C l)), .int .i64 ((tX R C l) - 1), .slice Xa Xn Xc] (0, 0) _ (HH.out.row 0 rfl) Try.underlying25 rfl tab_info ?_) | (refine wpList_load_row rfl 25 (.tmp 5) rfl Wb rfl 25 #[.int .i64 ((tY R C l)), .int .i64 ((tX R C l) - 1), .slice Wa Wn Wc] (0, 0) _ (HH.out.row 1 rfl) Try.underlying25 rfl tab_info ?_) | (refine wpList_load_row rfl 25 (.tmp 3) rfl Tb rfl 25 #[.int .i64 R, .int .i64 C, .slice a' n' c'] (0, 0) _ (HH.out.row 2 rfl) Try.underlying25 rfl tab_info ?_) | (go_at_call 22; refine (implTableTurn_any R C a' n' c' l _ (HH.out.tab 2 rfl)).mono ?_; intro e Uu hr; obtain ⟨⟨Ux, Uy, Ua, Un, Uc, Ul, rs, rfl, hO, rfl, rfl, rfl⟩, hb⟩ := tRes_of hr; replace HH : Hid (Hold w [(Xb, #[.int .i64 ((tY R C l)), .int .i64 ((tX R C l) - 1), .slice Xa Xn Xc], 25), (Wb, #[.int .i64 ((tY R C l)), .int .i64 ((tX R C l) - 1), .slice Wa Wn Wc], 25), (Tb, #[.int .i64 R, .int .i64 C, .slice a' n' c'], 25)] [(Ua, Un, Uc, (tL R C l)), (Xa, Xn, Xc, (turnL (outL t' (tL R C l)))), (Wa, Wn, Wc, (turnL (outL t' (tL R C l)))), (a', n', c', l)] Uu) := (HH.out.go hb).add hO.tab; clear hr hO hb) | (go_at_call 13; refine (implTableRowOut_any (tX R C l) (tY R C l) t' Ua Un Uc (tL R C l) _ (HH.out.tab 0 rfl)).mono ?_; intro e w3' hr; obtain ⟨hr1, hb⟩ := hr; obtain ⟨Ya, Yn, Yc, rfl, hT⟩ := tabRes_t HC.out hr1; clear hr1))
    have H0 := HH.out.res hb hT #[.int .i64 ((tX R C l) - 1), .int .i64 ((tY R C l)), .slice Ya Yn Yc] 25
    generalize (w3'.alloc (.cells #[.int .i64 ((tX R C l) - 1), .int .i64 ((tY R C l)), .slice Ya Yn Yc] 25)) = v3 at H0 ⊢
    obtain ⟨Yb, hTe⟩ : ∃ T, w3'.heap.size = T := ⟨_, rfl⟩
    rw [hTe] at H0 ⊢
    replace HH : Hid (Hold w [(Yb, #[.int .i64 ((tX R C l) - 1), .int .i64 ((tY R C l)), .slice Ya Yn Yc], 25), (Xb, #[.int .i64 ((tY R C l)), .int .i64 ((tX R C l) - 1), .slice Xa Xn Xc], 25), (Wb, #[.int .i64 ((tY R C l)), .int .i64 ((tX R C l) - 1), .slice Wa Wn Wc], 25), (Tb, #[.int .i64 R, .int .i64 C, .slice a' n' c'], 25)] [(Ya, Yn, Yc, (outL t' (tL R C l))), (Ua, Un, Uc, (tL R C l)), (Xa, Xn, Xc, (turnL (outL t' (tL R C l)))), (Wa, Wn, Wc, (turnL (outL t' (tL R C l)))), (a', n', c', l)] v3) := H0
    clear hT hb H0 hTe
    cases inn
    · go_upto_region 10 with (first | (refine wpList_load_row rfl 25 (.tmp 9) rfl Yb rfl 25 #[.int .i64 ((tX R C l) - 1), .int .i64 ((tY R C l)), .slice Ya Yn Yc] (0, 0) _ (HH.out.row 0 rfl) Try.underlying25 rfl tab_info ?_) | (refine wpList_load_row rfl 25 (.tmp 7) rfl Xb rfl 25 #[.int .i64 ((tY R C l)), .int .i64 ((tX R C l) - 1), .slice Xa Xn Xc] (0, 0) _ (HH.out.row 1 rfl) Try.underlying25 rfl tab_info ?_) | (refine wpList_load_row rfl 25 (.tmp 5) rfl Wb rfl 25 #[.int .i64 ((tY R C l)), .int .i64 ((tX R C l) - 1), .slice Wa Wn Wc] (0, 0) _ (HH.out.row 2 rfl) Try.underlying25 rfl tab_info ?_) | (refine wpList_load_row rfl 25 (.tmp 3) rfl Tb rfl 25 #[.int .i64 R, .int .i64 C, .slice a' n' c'] (0, 0) _ (HH.out.row 3 rfl) Try.underlying25 rfl tab_info ?_) | (go_at_call 23; refine (implTableColIn_any R C t' a' n' c' l _ (HH.out.tab 4 rfl)).mono ?_; intro e w4' hr; obtain ⟨hr1, hb⟩ := hr; obtain ⟨Za, Zn, Zc, rfl, hT⟩ := tabRes_f HI.out hr1; clear hr1))
      have H0 := HH.out.res hb hT #[.int .i64 0, .int .i64 0, .slice Za Zn Zc] 25
      generalize (w4'.alloc (.cells #[.int .i64 0, .int .i64 0, .slice Za Zn Zc] 25)) = v4 at H0 ⊢
      obtain ⟨Zb, hTe⟩ : ∃ T, w4'.heap.size = T := ⟨_, rfl⟩
      rw [hTe] at H0 ⊢
      replace HH : Hid (Hold w [(Zb, #[.int .i64 0, .int .i64 0, .slice Za Zn Zc], 25), (Yb, #[.int .i64 ((tX R C l) - 1), .int .i64 ((tY R C l)), .slice Ya Yn Yc], 25), (Xb, #[.int .i64 ((tY R C l)), .int .i64 ((tX R C l) - 1), .slice Xa Xn Xc], 25), (Wb, #[.int .i64 ((tY R C l)), .int .i64 ((tX R C l) - 1), .slice Wa Wn Wc], 25), (Tb, #[.int .i64 R, .int .i64 C, .slice a' n' c'], 25)] [(Za, Zn, Zc, []), (Ya, Yn, Yc, (outL t' (tL R C l))), (Ua, Un, Uc, (tL R C l)), (Xa, Xn, Xc, (turnL (outL t' (tL R C l)))), (Wa, Wn, Wc, (turnL (outL t' (tL R C l)))), (a', n', c', l)] v4) := H0
      clear hT hb H0 hTe
      go_upto_region 11 with (first | (refine wpList_load_row rfl 25 (.tmp 11) rfl Zb rfl 25 #[.int .i64 0, .int .i64 0, .slice Za Zn Zc] (0, 0) _ (HH.out.row 0 rfl) Try.underlying25 rfl tab_info ?_) | (refine wpList_load_row rfl 25 (.tmp 9) rfl Yb rfl 25 #[.int .i64 ((tX R C l) - 1), .int .i64 ((tY R C l)), .slice Ya Yn Yc] (0, 0) _ (HH.out.row 1 rfl) Try.underlying25 rfl tab_info ?_) | (refine wpList_load_row rfl 25 (.tmp 7) rfl Xb rfl 25 #[.int .i64 ((tY R C l)), .int .i64 ((tX R C l) - 1), .slice Xa Xn Xc] (0, 0) _ (HH.out.row 2 rfl) Try.underlying25 rfl tab_info ?_) | (refine wpList_load_row rfl 25 (.tmp 5) rfl Wb rfl 25 #[.int .i64 ((tY R C l)), .int .i64 ((tX R C l) - 1), .slice Wa Wn Wc] (0, 0) _ (HH.out.row 3 rfl) Try.underlying25 rfl tab_info ?_) | (refine wpList_load_row rfl 25 (.tmp 3) rfl Tb rfl 25 #[.int .i64 R, .int .i64 C, .slice a' n' c'] (0, 0) _ (HH.out.row 4 rfl) Try.underlying25 rfl tab_info ?_) | (go_at_call 22; refine (implTableTurn_any R C a' n' c' l _ (HH.out.tab 5 rfl)).mono ?_; intro e Vu hr; obtain ⟨⟨Vx, Vy, Va, Vn, Vc, Vl, rs, rfl, hO, rfl, rfl, rfl⟩, hb⟩ := tRes_of hr; replace HH : Hid (Hold w [(Zb, #[.int .i64 0, .int .i64 0, .slice Za Zn Zc], 25), (Yb, #[.int .i64 ((tX R C l) - 1), .int .i64 ((tY R C l)), .slice Ya Yn Yc], 25), (Xb, #[.int .i64 ((tY R C l)), .int .i64 ((tX R C l) - 1), .slice Xa Xn Xc], 25), (Wb, #[.int .i64 ((tY R C l)), .int .i64 ((tX R C l) - 1), .slice Wa Wn Wc], 25), (Tb, #[.int .i64 R, .int .i64 C, .slice a' n' c'], 25)] [(Va, Vn, Vc, (tL R C l)), (Za, Zn, Zc, []), (Ya, Yn, Yc, (outL t' (tL R C l))), (Ua, Un, Uc, (tL R C l)), (Xa, Xn, Xc, (turnL (outL t' (tL R C l)))), (Wa, Wn, Wc, (turnL (outL t' (tL R C l)))), (a', n', c', l)] Vu) := (HH.out.go hb).add hO.tab; clear hr hO hb) | (go_at_call 11; refine (implTableRowIn_any (tX R C l) (tY R C l) t' Va Vn Vc (tL R C l) _ (HH.out.tab 0 rfl)).mono ?_; intro e w5' hr; obtain ⟨hr1, hb⟩ := hr; obtain ⟨Qa, Qn, Qc, rfl, hT⟩ := tabRes_f HI.out hr1; clear hr1))
      have H0 := HH.out.res hb hT #[.int .i64 0, .int .i64 0, .slice Qa Qn Qc] 25
      generalize (w5'.alloc (.cells #[.int .i64 0, .int .i64 0, .slice Qa Qn Qc] 25)) = v5 at H0 ⊢
      obtain ⟨Qb, hTe⟩ : ∃ T, w5'.heap.size = T := ⟨_, rfl⟩
      rw [hTe] at H0 ⊢
      replace HH : Hid (Hold w [(Qb, #[.int .i64 0, .int .i64 0, .slice Qa Qn Qc], 25), (Zb, #[.int .i64 0, .int .i64 0, .slice Za Zn Zc], 25), (Yb, #[.int .i64 ((tX R C l) - 1), .int .i64 ((tY R C l)), .slice Ya Yn Yc], 25), (Xb, #[.int .i64 ((tY R C l)), .int .i64 ((tX R C l) - 1), .slice Xa Xn Xc], 25), (Wb, #[.int .i64 ((tY R C l)), .int .i64 ((tX R C l) - 1), .slice Wa Wn Wc], 25), (Tb, #[.int .i64 R, .int .i64 C, .slice a' n' c'], 25)] [(Qa, Qn, Qc, []), (Va, Vn, Vc, (tL R C l)), (Za, Zn, Zc, []), (Ya, Yn, Yc, (outL t' (tL R C l))), (Ua, Un, Uc, (tL R C l)), (Xa, Xn, Xc, (turnL (outL t' (tL R C l)))), (Wa, Wn, Wc, (turnL (outL t' (tL R C l)))), (a', n', c', l)] v5) := H0
      clear hT hb H0 hTe
      refine wp_region_noPanic ?_
      refine wp_region_held_drew (S := fun w' => Hold w [(Qb, #[.int .i64 0, .int .i64 0, .slice Qa Qn Qc], 25), (Zb, #[.int .i64 0, .int .i64 0, .slice Za Zn Zc], 25), (Yb, #[.int .i64 ((tX R C l) - 1), .int .i64 ((tY R C l)), .slice Ya Yn Yc], 25), (Xb, #[.int .i64 ((tY R C l)), .int .i64 ((tX R C l) - 1), .slice Xa Xn Xc], 25), (Wb, #[.int .i64 ((tY R C l)), .int .i64 ((tX R C l) - 1), .slice Wa Wn Wc], 25), (Tb, #[.int .i64 R, .int .i64 C, .slice a' n' c'], 25)] [(Qa, Qn, Qc, []), (Va, Vn, Vc, (tL R C l)), (Za, Zn, Zc, []), (Ya, Yn, Yc, (outL t' (tL R C l))), (Ua, Un, Uc, (tL R C l)), (Xa, Xn, Xc, (turnL (outL t' (tL R C l)))), (Wa, Wn, Wc, (turnL (outL t' (tL R C l)))), (a', n', c', l)] w') (by kernel_rfl) HH.out.drew (fun hHeld => ?_)
      refine take_at 0 64 (.bool true) rfl rfl (by kernel_rfl) (by kernel_rfl) (by kernel_rfl) (fun _ _ _ h => h) (Or.inl ⟨by kernel_rfl, fun w' hS' => by go_simp⟩) hHeld ?_
      (try simp only [Act.put, List.setIfInBounds_toArray, List.set_cons_zero, List.set_cons_succ])
      refine take_at 1 65 (.bool true) rfl rfl (by kernel_rfl) (by kernel_rfl) (by kernel_rfl) (fun _ _ _ h => h) (Or.inl ⟨by kernel_rfl, fun w' hS' => by go_simp⟩) hHeld ?_
      (try simp only [Act.put, List.setIfInBounds_toArray, List.set_cons_zero, List.set_cons_succ])
      refine take_at 2 66 (.bool true) rfl rfl (by kernel_rfl) (by kernel_rfl) (by kernel_rfl) (fun _ _ _ h => h) (Or.inl ⟨by kernel_rfl, fun w' hS' => by go_simp⟩) hHeld ?_
      (try simp only [Act.put, List.setIfInBounds_toArray, List.set_cons_zero, List.set_cons_succ])
      refine take_at 3 67 (.bool true) rfl rfl (by kernel_rfl) (by kernel_rfl) (by kernel_rfl) (fun _ _ _ h => h) (Or.inl ⟨by kernel_rfl, fun w' hS' => by go_simp⟩) hHeld ?_
      (try simp only [Act.put, List.setIfInBounds_toArray, List.set_cons_zero, List.set_cons_succ])
      refine take_at 4 68 (.bool true) rfl rfl (by kernel_rfl) (by kernel_rfl) (by kernel_rfl) (fun _ _ _ h => h) (Or.inl ⟨by kernel_rfl, fun w' hS' => by go_simp⟩) hHeld ?_
      (try simp only [Act.put, List.setIfInBounds_toArray, List.set_cons_zero, List.set_cons_succ])
      refine take_at 5 69 (.bool false) rfl rfl (by kernel_rfl) (by kernel_rfl) (by kernel_rfl) (fun _ _ _ h => h) (Or.inl ⟨by kernel_rfl, fun w' hS' => by go_simp⟩) hHeld ?_
      (try simp only [Act.put, List.setIfInBounds_toArray, List.set_cons_zero, List.set_cons_succ])
      refine take_at 6 70 (.bool false) rfl rfl (by kernel_rfl) (by kernel_rfl) (by kernel_rfl) (fun _ _ _ h => h) (Or.inl ⟨by kernel_rfl, fun w' hS' => by go_simp⟩) hHeld ?_
      (try simp only [Act.put, List.setIfInBounds_toArray, List.set_cons_zero, List.set_cons_succ])
      refine take_at 7 71 (.agg #[.int .i64 ((tX R C l) - 1), .int .i64 ((tY R C l)), .slice Ya Yn Yc]) rfl rfl (by kernel_rfl) (by kernel_rfl) (by kernel_rfl) (fun _ _ _ h => h) (yieldsIf_load_row (by kernel_rfl) 25 (.tmp 9) rfl Yb rfl 25 #[.int .i64 ((tX R C l) - 1), .int .i64 ((tY R C l)), .slice Ya Yn Yc] (0, 0) _ (fun w' h => h.row 2 rfl) Try.underlying25 rfl tab_info) hHeld ?_
      (try simp only [Act.put, List.setIfInBounds_toArray, List.set_cons_zero, List.set_cons_succ])
      refine take_at 9 73 (.agg #[.int .i64 ((tY R C l)), .int .i64 ((tX R C l) - 1), .slice Xa Xn Xc]) rfl rfl (by kernel_rfl) (by kernel_rfl) (by kernel_rfl) (fun _ _ _ h => h) (yieldsIf_load_row (by kernel_rfl) 25 (.tmp 7) rfl Xb rfl 25 #[.int .i64 ((tY R C l)), .int .i64 ((tX R C l) - 1), .slice Xa Xn Xc] (0, 0) _ (fun w' h => h.row 3 rfl) Try.underlying25 rfl tab_info) hHeld ?_
      (try simp only [Act.put, List.setIfInBounds_toArray, List.set_cons_zero, List.set_cons_succ])
      refine wpAnyH_ready (rs := [8]) (by kernel_rfl) (by simp) ?_
      refine AllReadyH.cons rfl (fun K hK => ?_) AllReadyH.nil
      go_simp
      go_at_call 22
      refine (implTableTurn_any ((tX R C l) - 1) (tY R C l) Ya Yn Yc (outL t' (tL R C l)) _ (hHeld.tab 3 rfl)).mono ?_
      intro e u1 hr
      obtain ⟨h1 | h1, hb⟩ := hr
      · exact absurd (h1.1.symm.trans (ok_out HC.out)) (by simp)
      obtain ⟨-, ma, mc, ms, rfl, hO⟩ := h1
      obtain ⟨M, hM⟩ : ∃ M, (outL t' (tL R C l)).length = M := ⟨_, rfl⟩
      rw [hM] at hO ⊢
      have HM : Hid (Tab u1 ma M mc (turnL (outL t' (tL R C l)))) := hO.tab
      clear hO hM
      go_wp2_with fail
      refine hK.out _ _ (hHeld.go hb) (fun hHeld => ?_)
      clear hK K
      (try simp only [Act.put, List.setIfInBounds_toArray, List.set_cons_zero, List.set_cons_succ])
      refine wpAnyH_ready (rs := [10]) (by kernel_rfl) (by simp) ?_
      refine AllReadyH.cons rfl (fun K hK => ?_) AllReadyH.nil
      go_simp
      go_at_call 12
      refine (lmTable_same (tY R C l) ((tX R C l) - 1) ma M mc (turnL (outL t' (tL R C l))) Xa Xn Xc _ HM.out (hHeld.tab 5 rfl)).mono ?_
      rintro e u2 ⟨rfl, hb⟩
      go_wp2_with fail
      refine hK.out _ _ (hHeld.go hb) (fun hHeld => ?_)
      clear hK K
      (try simp only [Act.put, List.setIfInBounds_toArray, List.set_cons_zero, List.set_cons_succ])
      refine take_at 11 75 (.bool true) rfl rfl (by kernel_rfl) (by kernel_rfl) (by kernel_rfl) (fun _ _ _ h => h) (Or.inl ⟨by kernel_rfl, fun w' hS' => by go_simp⟩) hHeld ?_
      (try simp only [Act.put, List.setIfInBounds_toArray, List.set_cons_zero, List.set_cons_succ])
      refine take_at 12 76 (.bool true) rfl rfl (by kernel_rfl) (by kernel_rfl) (by kernel_rfl) (fun _ _ _ h => h) (Or.inl ⟨by kernel_rfl, fun w' hS' => by go_simp⟩) hHeld ?_
      (try simp only [Act.put, List.setIfInBounds_toArray, List.set_cons_zero, List.set_cons_succ])
      refine take_at 13 77 (.bool true) rfl rfl (by kernel_rfl) (by kernel_rfl) (by kernel_rfl) (fun _ _ _ h => h) (Or.inl ⟨by kernel_rfl, fun w' hS' => by go_simp⟩) hHeld ?_
      (try simp only [Act.put, List.setIfInBounds_toArray, List.set_cons_zero, List.set_cons_succ])
      refine take_at 14 78 (.bool false) rfl rfl (by kernel_rfl) (by kernel_rfl) (by kernel_rfl) (fun _ _ _ h => h) (Or.inl ⟨by kernel_rfl, fun w' hS' => by go_simp⟩) hHeld ?_
      (try simp only [Act.put, List.setIfInBounds_toArray, List.set_cons_zero, List.set_cons_succ])
      refine take_at 15 79 (.bool false) rfl rfl (by kernel_rfl) (by kernel_rfl) (by kernel_rfl) (fun _ _ _ h => h) (Or.inl ⟨by kernel_rfl, fun w' hS' => by go_simp⟩) hHeld ?_
      (try simp only [Act.put, List.setIfInBounds_toArray, List.set_cons_zero, List.set_cons_succ])
      refine take_at 16 80 (.bool true) rfl rfl (by kernel_rfl) (by kernel_rfl) (by kernel_rfl) (fun _ _ _ h => h) (Or.inl ⟨by kernel_rfl, fun w' hS' => by go_simp⟩) hHeld ?_
      (try simp only [Act.put, List.setIfInBounds_toArray, List.set_cons_zero, List.set_cons_succ])
      refine take_at 17 81 (.bool true) rfl rfl (by kernel_rfl) (by kernel_rfl) (by kernel_rfl) (fun _ _ _ h => h) (Or.inl ⟨by kernel_rfl, fun w' hS' => by go_simp⟩) hHeld ?_
      (try simp only [Act.put, List.setIfInBounds_toArray, List.set_cons_zero, List.set_cons_succ])
      refine take_at 18 82 (.bool true) rfl rfl (by kernel_rfl) (by kernel_rfl) (by kernel_rfl) (fun _ _ _ h => h) (Or.inl ⟨by kernel_rfl, fun w' hS' => by go_simp⟩) hHeld ?_
      (try simp only [Act.put, List.setIfInBounds_toArray, List.set_cons_zero, List.set_cons_succ])
      refine take_at 19 83 (.bool false) rfl rfl (by kernel_rfl) (by kernel_rfl) (by kernel_rfl) (fun _ _ _ h => h) (Or.inl ⟨by kernel_rfl, fun w' hS' => by go_simp⟩) hHeld ?_
      (try simp only [Act.put, List.setIfInBounds_toArray, List.set_cons_zero, List.set_cons_succ])
      refine take_at 20 84 (.bool true) rfl rfl (by kernel_rfl) (by kernel_rfl) (by kernel_rfl) (fun _ _ _ h => h) (Or.inl ⟨by kernel_rfl, fun w' hS' => by go_simp⟩) hHeld ?_
      (try simp only [Act.put, List.setIfInBounds_toArray, List.set_cons_zero, List.set_cons_succ])
      refine take_at 21 85 (.bool true) rfl rfl (by kernel_rfl) (by kernel_rfl) (by kernel_rfl) (fun _ _ _ h => h) (Or.inl ⟨by kernel_rfl, fun w' hS' => by go_simp⟩) hHeld ?_
      (try simp only [Act.put, List.setIfInBounds_toArray, List.set_cons_zero, List.set_cons_succ])
      refine take_at 22 86 (undef) rfl rfl (by kernel_rfl) (by kernel_rfl) (by kernel_rfl) (fun _ _ _ h => h) (Or.inr ⟨by kernel_rfl, rfl⟩) hHeld ?_
      (try simp only [Act.put, List.setIfInBounds_toArray, List.set_cons_zero, List.set_cons_succ])
      refine take_at 23 87 (undef) rfl rfl (by kernel_rfl) (by kernel_rfl) (by kernel_rfl) (fun _ _ _ h => h) (Or.inr ⟨by kernel_rfl, rfl⟩) hHeld ?_
      (try simp only [Act.put, List.setIfInBounds_toArray, List.set_cons_zero, List.set_cons_succ])
      refine take_at 24 88 (undef) rfl rfl (by kernel_rfl) (by kernel_rfl) (by kernel_rfl) (fun _ _ _ h => h) (Or.inr ⟨by kernel_rfl, rfl⟩) hHeld ?_
      (try simp only [Act.put, List.setIfInBounds_toArray, List.set_cons_zero, List.set_cons_succ])
      refine take_at 25 89 (undef) rfl rfl (by kernel_rfl) (by kernel_rfl) (by kernel_rfl) (fun _ _ _ h => h) (Or.inr ⟨by kernel_rfl, rfl⟩) hHeld ?_
      (try simp only [Act.put, List.setIfInBounds_toArray, List.set_cons_zero, List.set_cons_succ])
      refine take_at 26 90 (.bool true) rfl rfl (by kernel_rfl) (by kernel_rfl) (by kernel_rfl) (fun _ _ _ h => h) (Or.inl ⟨by kernel_rfl, fun w' hS' => by go_simp⟩) hHeld ?_
      (try simp only [Act.put, List.setIfInBounds_toArray, List.set_cons_zero, List.set_cons_succ])
      refine take_at 27 91 (.bool true) rfl rfl (by kernel_rfl) (by kernel_rfl) (by kernel_rfl) (fun _ _ _ h => h) (Or.inl ⟨by kernel_rfl, fun w' hS' => by go_simp⟩) hHeld ?_
      (try simp only [Act.put, List.setIfInBounds_toArray, List.set_cons_zero, List.set_cons_succ])
      refine take_at 28 2 (.bool true) rfl rfl (by kernel_rfl) (by kernel_rfl) (by kernel_rfl) (fun _ _ _ h => h) (Or.inl ⟨by kernel_rfl, fun w' hS' => by go_simp⟩) hHeld ?_
      (try simp only [Act.put, List.setIfInBounds_toArray, List.set_cons_zero, List.set_cons_succ])
      refine wpAnyH_done (by kernel_rfl) ?_ _
      refine NoPanic.normal ?_
      replace HH : Hid (Hold w [(Qb, #[.int .i64 0, .int .i64 0, .slice Qa Qn Qc], 25), (Zb, #[.int .i64 0, .int .i64 0, .slice Za Zn Zc], 25), (Yb, #[.int .i64 ((tX R C l) - 1), .int .i64 ((tY R C l)), .slice Ya Yn Yc], 25), (Xb, #[.int .i64 ((tY R C l)), .int .i64 ((tX R C l) - 1), .slice Xa Xn Xc], 25), (Wb, #[.int .i64 ((tY R C l)), .int .i64 ((tX R C l) - 1), .slice Wa Wn Wc], 25), (Tb, #[.int .i64 R, .int .i64 C, .slice a' n' c'], 25)] [(Qa, Qn, Qc, []), (Va, Vn, Vc, (tL R C l)), (Za, Zn, Zc, []), (Ya, Yn, Yc, (outL t' (tL R C l))), (Ua, Un, Uc, (tL R C l)), (Xa, Xn, Xc, (turnL (outL t' (tL R C l)))), (Wa, Wn, Wc, (turnL (outL t' (tL R C l)))), (a', n', c', l)] _) := hHeld
      clear hHeld
      go_wp2_with fail
      go_ret
      exact ⟨rfl, HH.out.1⟩
    · go_upto_region 10 with (first | (refine wpList_load_row rfl 25 (.tmp 9) rfl Yb rfl 25 #[.int .i64 ((tX R C l) - 1), .int .i64 ((tY R C l)), .slice Ya Yn Yc] (0, 0) _ (HH.out.row 0 rfl) Try.underlying25 rfl tab_info ?_) | (refine wpList_load_row rfl 25 (.tmp 7) rfl Xb rfl 25 #[.int .i64 ((tY R C l)), .int .i64 ((tX R C l) - 1), .slice Xa Xn Xc] (0, 0) _ (HH.out.row 1 rfl) Try.underlying25 rfl tab_info ?_) | (refine wpList_load_row rfl 25 (.tmp 5) rfl Wb rfl 25 #[.int .i64 ((tY R C l)), .int .i64 ((tX R C l) - 1), .slice Wa Wn Wc] (0, 0) _ (HH.out.row 2 rfl) Try.underlying25 rfl tab_info ?_) | (refine wpList_load_row rfl 25 (.tmp 3) rfl Tb rfl 25 #[.int .i64 R, .int .i64 C, .slice a' n' c'] (0, 0) _ (HH.out.row 3 rfl) Try.underlying25 rfl tab_info ?_) | (go_at_call 23; refine (implTableColIn_any R C t' a' n' c' l _ (HH.out.tab 4 rfl)).mono ?_; intro e w4' hr; obtain ⟨hr1, hb⟩ := hr; obtain ⟨Za, Zn, Zc, rfl, hT⟩ := tabRes_t HI.out hr1; clear hr1))
      have H0 := HH.out.res hb hT #[.int .i64 ((tY R C l)), .int .i64 ((tX R C l) + 1), .slice Za Zn Zc] 25
      generalize (w4'.alloc (.cells #[.int .i64 ((tY R C l)), .int .i64 ((tX R C l) + 1), .slice Za Zn Zc] 25)) = v4 at H0 ⊢
      obtain ⟨Zb, hTe⟩ : ∃ T, w4'.heap.size = T := ⟨_, rfl⟩
      rw [hTe] at H0 ⊢
      replace HH : Hid (Hold w [(Zb, #[.int .i64 ((tY R C l)), .int .i64 ((tX R C l) + 1), .slice Za Zn Zc], 25), (Yb, #[.int .i64 ((tX R C l) - 1), .int .i64 ((tY R C l)), .slice Ya Yn Yc], 25), (Xb, #[.int .i64 ((tY R C l)), .int .i64 ((tX R C l) - 1), .slice Xa Xn Xc], 25), (Wb, #[.int .i64 ((tY R C l)), .int .i64 ((tX R C l) - 1), .slice Wa Wn Wc], 25), (Tb, #[.int .i64 R, .int .i64 C, .slice a' n' c'], 25)] [(Za, Zn, Zc, (turnL (inL t' (tY R C l) (tL R C l)))), (Ya, Yn, Yc, (outL t' (tL R C l))), (Ua, Un, Uc, (tL R C l)), (Xa, Xn, Xc, (turnL (outL t' (tL R C l)))), (Wa, Wn, Wc, (turnL (outL t' (tL R C l)))), (a', n', c', l)] v4) := H0
      clear hT hb H0 hTe
      go_upto_region 11 with (first | (refine wpList_load_row rfl 25 (.tmp 11) rfl Zb rfl 25 #[.int .i64 ((tY R C l)), .int .i64 ((tX R C l) + 1), .slice Za Zn Zc] (0, 0) _ (HH.out.row 0 rfl) Try.underlying25 rfl tab_info ?_) | (refine wpList_load_row rfl 25 (.tmp 9) rfl Yb rfl 25 #[.int .i64 ((tX R C l) - 1), .int .i64 ((tY R C l)), .slice Ya Yn Yc] (0, 0) _ (HH.out.row 1 rfl) Try.underlying25 rfl tab_info ?_) | (refine wpList_load_row rfl 25 (.tmp 7) rfl Xb rfl 25 #[.int .i64 ((tY R C l)), .int .i64 ((tX R C l) - 1), .slice Xa Xn Xc] (0, 0) _ (HH.out.row 2 rfl) Try.underlying25 rfl tab_info ?_) | (refine wpList_load_row rfl 25 (.tmp 5) rfl Wb rfl 25 #[.int .i64 ((tY R C l)), .int .i64 ((tX R C l) - 1), .slice Wa Wn Wc] (0, 0) _ (HH.out.row 3 rfl) Try.underlying25 rfl tab_info ?_) | (refine wpList_load_row rfl 25 (.tmp 3) rfl Tb rfl 25 #[.int .i64 R, .int .i64 C, .slice a' n' c'] (0, 0) _ (HH.out.row 4 rfl) Try.underlying25 rfl tab_info ?_) | (go_at_call 22; refine (implTableTurn_any R C a' n' c' l _ (HH.out.tab 5 rfl)).mono ?_; intro e Vu hr; obtain ⟨⟨Vx, Vy, Va, Vn, Vc, Vl, rs, rfl, hO, rfl, rfl, rfl⟩, hb⟩ := tRes_of hr; replace HH : Hid (Hold w [(Zb, #[.int .i64 ((tY R C l)), .int .i64 ((tX R C l) + 1), .slice Za Zn Zc], 25), (Yb, #[.int .i64 ((tX R C l) - 1), .int .i64 ((tY R C l)), .slice Ya Yn Yc], 25), (Xb, #[.int .i64 ((tY R C l)), .int .i64 ((tX R C l) - 1), .slice Xa Xn Xc], 25), (Wb, #[.int .i64 ((tY R C l)), .int .i64 ((tX R C l) - 1), .slice Wa Wn Wc], 25), (Tb, #[.int .i64 R, .int .i64 C, .slice a' n' c'], 25)] [(Va, Vn, Vc, (tL R C l)), (Za, Zn, Zc, (turnL (inL t' (tY R C l) (tL R C l)))), (Ya, Yn, Yc, (outL t' (tL R C l))), (Ua, Un, Uc, (tL R C l)), (Xa, Xn, Xc, (turnL (outL t' (tL R C l)))), (Wa, Wn, Wc, (turnL (outL t' (tL R C l)))), (a', n', c', l)] Vu) := (HH.out.go hb).add hO.tab; clear hr hO hb) | (go_at_call 11; refine (implTableRowIn_any (tX R C l) (tY R C l) t' Va Vn Vc (tL R C l) _ (HH.out.tab 0 rfl)).mono ?_; intro e w5' hr; obtain ⟨hr1, hb⟩ := hr; obtain ⟨Qa, Qn, Qc, rfl, hT⟩ := tabRes_t HI.out hr1; clear hr1))
      have H0 := HH.out.res hb hT #[.int .i64 ((tX R C l) + 1), .int .i64 ((tY R C l)), .slice Qa Qn Qc] 25
      generalize (w5'.alloc (.cells #[.int .i64 ((tX R C l) + 1), .int .i64 ((tY R C l)), .slice Qa Qn Qc] 25)) = v5 at H0 ⊢
      obtain ⟨Qb, hTe⟩ : ∃ T, w5'.heap.size = T := ⟨_, rfl⟩
      rw [hTe] at H0 ⊢
      replace HH : Hid (Hold w [(Qb, #[.int .i64 ((tX R C l) + 1), .int .i64 ((tY R C l)), .slice Qa Qn Qc], 25), (Zb, #[.int .i64 ((tY R C l)), .int .i64 ((tX R C l) + 1), .slice Za Zn Zc], 25), (Yb, #[.int .i64 ((tX R C l) - 1), .int .i64 ((tY R C l)), .slice Ya Yn Yc], 25), (Xb, #[.int .i64 ((tY R C l)), .int .i64 ((tX R C l) - 1), .slice Xa Xn Xc], 25), (Wb, #[.int .i64 ((tY R C l)), .int .i64 ((tX R C l) - 1), .slice Wa Wn Wc], 25), (Tb, #[.int .i64 R, .int .i64 C, .slice a' n' c'], 25)] [(Qa, Qn, Qc, (inL t' (tY R C l) (tL R C l))), (Va, Vn, Vc, (tL R C l)), (Za, Zn, Zc, (turnL (inL t' (tY R C l) (tL R C l)))), (Ya, Yn, Yc, (outL t' (tL R C l))), (Ua, Un, Uc, (tL R C l)), (Xa, Xn, Xc, (turnL (outL t' (tL R C l)))), (Wa, Wn, Wc, (turnL (outL t' (tL R C l)))), (a', n', c', l)] v5) := H0
      clear hT hb H0 hTe
      refine wp_region_noPanic ?_
      refine wp_region_held_drew (S := fun w' => Hold w [(Qb, #[.int .i64 ((tX R C l) + 1), .int .i64 ((tY R C l)), .slice Qa Qn Qc], 25), (Zb, #[.int .i64 ((tY R C l)), .int .i64 ((tX R C l) + 1), .slice Za Zn Zc], 25), (Yb, #[.int .i64 ((tX R C l) - 1), .int .i64 ((tY R C l)), .slice Ya Yn Yc], 25), (Xb, #[.int .i64 ((tY R C l)), .int .i64 ((tX R C l) - 1), .slice Xa Xn Xc], 25), (Wb, #[.int .i64 ((tY R C l)), .int .i64 ((tX R C l) - 1), .slice Wa Wn Wc], 25), (Tb, #[.int .i64 R, .int .i64 C, .slice a' n' c'], 25)] [(Qa, Qn, Qc, (inL t' (tY R C l) (tL R C l))), (Va, Vn, Vc, (tL R C l)), (Za, Zn, Zc, (turnL (inL t' (tY R C l) (tL R C l)))), (Ya, Yn, Yc, (outL t' (tL R C l))), (Ua, Un, Uc, (tL R C l)), (Xa, Xn, Xc, (turnL (outL t' (tL R C l)))), (Wa, Wn, Wc, (turnL (outL t' (tL R C l)))), (a', n', c', l)] w') (by kernel_rfl) HH.out.drew (fun hHeld => ?_)
      refine take_at 0 64 (.bool true) rfl rfl (by kernel_rfl) (by kernel_rfl) (by kernel_rfl) (fun _ _ _ h => h) (Or.inl ⟨by kernel_rfl, fun w' hS' => by go_simp⟩) hHeld ?_
      (try simp only [Act.put, List.setIfInBounds_toArray, List.set_cons_zero, List.set_cons_succ])
      refine take_at 1 65 (.bool true) rfl rfl (by kernel_rfl) (by kernel_rfl) (by kernel_rfl) (fun _ _ _ h => h) (Or.inl ⟨by kernel_rfl, fun w' hS' => by go_simp⟩) hHeld ?_
      (try simp only [Act.put, List.setIfInBounds_toArray, List.set_cons_zero, List.set_cons_succ])
      refine take_at 2 66 (.bool true) rfl rfl (by kernel_rfl) (by kernel_rfl) (by kernel_rfl) (fun _ _ _ h => h) (Or.inl ⟨by kernel_rfl, fun w' hS' => by go_simp⟩) hHeld ?_
      (try simp only [Act.put, List.setIfInBounds_toArray, List.set_cons_zero, List.set_cons_succ])
      refine take_at 3 67 (.bool true) rfl rfl (by kernel_rfl) (by kernel_rfl) (by kernel_rfl) (fun _ _ _ h => h) (Or.inl ⟨by kernel_rfl, fun w' hS' => by go_simp⟩) hHeld ?_
      (try simp only [Act.put, List.setIfInBounds_toArray, List.set_cons_zero, List.set_cons_succ])
      refine take_at 4 68 (.bool true) rfl rfl (by kernel_rfl) (by kernel_rfl) (by kernel_rfl) (fun _ _ _ h => h) (Or.inl ⟨by kernel_rfl, fun w' hS' => by go_simp⟩) hHeld ?_
      (try simp only [Act.put, List.setIfInBounds_toArray, List.set_cons_zero, List.set_cons_succ])
      refine take_at 5 69 (.bool false) rfl rfl (by kernel_rfl) (by kernel_rfl) (by kernel_rfl) (fun _ _ _ h => h) (Or.inl ⟨by kernel_rfl, fun w' hS' => by go_simp⟩) hHeld ?_
      (try simp only [Act.put, List.setIfInBounds_toArray, List.set_cons_zero, List.set_cons_succ])
      refine take_at 6 70 (.bool false) rfl rfl (by kernel_rfl) (by kernel_rfl) (by kernel_rfl) (fun _ _ _ h => h) (Or.inl ⟨by kernel_rfl, fun w' hS' => by go_simp⟩) hHeld ?_
      (try simp only [Act.put, List.setIfInBounds_toArray, List.set_cons_zero, List.set_cons_succ])
      refine take_at 7 71 (.agg #[.int .i64 ((tX R C l) - 1), .int .i64 ((tY R C l)), .slice Ya Yn Yc]) rfl rfl (by kernel_rfl) (by kernel_rfl) (by kernel_rfl) (fun _ _ _ h => h) (yieldsIf_load_row (by kernel_rfl) 25 (.tmp 9) rfl Yb rfl 25 #[.int .i64 ((tX R C l) - 1), .int .i64 ((tY R C l)), .slice Ya Yn Yc] (0, 0) _ (fun w' h => h.row 2 rfl) Try.underlying25 rfl tab_info) hHeld ?_
      (try simp only [Act.put, List.setIfInBounds_toArray, List.set_cons_zero, List.set_cons_succ])
      refine take_at 9 73 (.agg #[.int .i64 ((tY R C l)), .int .i64 ((tX R C l) - 1), .slice Xa Xn Xc]) rfl rfl (by kernel_rfl) (by kernel_rfl) (by kernel_rfl) (fun _ _ _ h => h) (yieldsIf_load_row (by kernel_rfl) 25 (.tmp 7) rfl Xb rfl 25 #[.int .i64 ((tY R C l)), .int .i64 ((tX R C l) - 1), .slice Xa Xn Xc] (0, 0) _ (fun w' h => h.row 3 rfl) Try.underlying25 rfl tab_info) hHeld ?_
      (try simp only [Act.put, List.setIfInBounds_toArray, List.set_cons_zero, List.set_cons_succ])
      refine wpAnyH_ready (rs := [8]) (by kernel_rfl) (by simp) ?_
      refine AllReadyH.cons rfl (fun K hK => ?_) AllReadyH.nil
      go_simp
      go_at_call 22
      refine (implTableTurn_any ((tX R C l) - 1) (tY R C l) Ya Yn Yc (outL t' (tL R C l)) _ (hHeld.tab 3 rfl)).mono ?_
      intro e u1 hr
      obtain ⟨h1 | h1, hb⟩ := hr
      · exact absurd (h1.1.symm.trans (ok_out HC.out)) (by simp)
      obtain ⟨-, ma, mc, ms, rfl, hO⟩ := h1
      obtain ⟨M, hM⟩ : ∃ M, (outL t' (tL R C l)).length = M := ⟨_, rfl⟩
      rw [hM] at hO ⊢
      have HM : Hid (Tab u1 ma M mc (turnL (outL t' (tL R C l)))) := hO.tab
      clear hO hM
      go_wp2_with fail
      refine hK.out _ _ (hHeld.go hb) (fun hHeld => ?_)
      clear hK K
      (try simp only [Act.put, List.setIfInBounds_toArray, List.set_cons_zero, List.set_cons_succ])
      refine wpAnyH_ready (rs := [10]) (by kernel_rfl) (by simp) ?_
      refine AllReadyH.cons rfl (fun K hK => ?_) AllReadyH.nil
      go_simp
      go_at_call 12
      refine (lmTable_same (tY R C l) ((tX R C l) - 1) ma M mc (turnL (outL t' (tL R C l))) Xa Xn Xc _ HM.out (hHeld.tab 5 rfl)).mono ?_
      rintro e u2 ⟨rfl, hb⟩
      go_wp2_with fail
      refine hK.out _ _ (hHeld.go hb) (fun hHeld => ?_)
      clear hK K
      (try simp only [Act.put, List.setIfInBounds_toArray, List.set_cons_zero, List.set_cons_succ])
      refine take_at 11 75 (.bool true) rfl rfl (by kernel_rfl) (by kernel_rfl) (by kernel_rfl) (fun _ _ _ h => h) (Or.inl ⟨by kernel_rfl, fun w' hS' => by go_simp⟩) hHeld ?_
      (try simp only [Act.put, List.setIfInBounds_toArray, List.set_cons_zero, List.set_cons_succ])
      refine take_at 12 76 (.bool true) rfl rfl (by kernel_rfl) (by kernel_rfl) (by kernel_rfl) (fun _ _ _ h => h) (Or.inl ⟨by kernel_rfl, fun w' hS' => by go_simp⟩) hHeld ?_
      (try simp only [Act.put, List.setIfInBounds_toArray, List.set_cons_zero, List.set_cons_succ])
      refine take_at 13 77 (.bool true) rfl rfl (by kernel_rfl) (by kernel_rfl) (by kernel_rfl) (fun _ _ _ h => h) (Or.inl ⟨by kernel_rfl, fun w' hS' => by go_simp⟩) hHeld ?_
      (try simp only [Act.put, List.setIfInBounds_toArray, List.set_cons_zero, List.set_cons_succ])
      refine take_at 14 78 (.bool true) rfl rfl (by kernel_rfl) (by kernel_rfl) (by kernel_rfl) (fun _ _ _ h => h) (Or.inl ⟨by kernel_rfl, fun w' hS' => by go_simp⟩) hHeld ?_
      (try simp only [Act.put, List.setIfInBounds_toArray, List.set_cons_zero, List.set_cons_succ])
      refine take_at 15 79 (.bool true) rfl rfl (by kernel_rfl) (by kernel_rfl) (by kernel_rfl) (fun _ _ _ h => h) (Or.inl ⟨by kernel_rfl, fun w' hS' => by go_simp⟩) hHeld ?_
      (try simp only [Act.put, List.setIfInBounds_toArray, List.set_cons_zero, List.set_cons_succ])
      refine take_at 16 80 (.bool true) rfl rfl (by kernel_rfl) (by kernel_rfl) (by kernel_rfl) (fun _ _ _ h => h) (Or.inl ⟨by kernel_rfl, fun w' hS' => by go_simp⟩) hHeld ?_
      (try simp only [Act.put, List.setIfInBounds_toArray, List.set_cons_zero, List.set_cons_succ])
      refine take_at 17 81 (.bool true) rfl rfl (by kernel_rfl) (by kernel_rfl) (by kernel_rfl) (fun _ _ _ h => h) (Or.inl ⟨by kernel_rfl, fun w' hS' => by go_simp⟩) hHeld ?_
      (try simp only [Act.put, List.setIfInBounds_toArray, List.set_cons_zero, List.set_cons_succ])
      refine take_at 18 82 (.bool true) rfl rfl (by kernel_rfl) (by kernel_rfl) (by kernel_rfl) (fun _ _ _ h => h) (Or.inl ⟨by kernel_rfl, fun w' hS' => by go_simp⟩) hHeld ?_
      (try simp only [Act.put, List.setIfInBounds_toArray, List.set_cons_zero, List.set_cons_succ])
      refine take_at 19 83 (.bool true) rfl rfl (by kernel_rfl) (by kernel_rfl) (by kernel_rfl) (fun _ _ _ h => h) (Or.inl ⟨by kernel_rfl, fun w' hS' => by go_simp⟩) hHeld ?_
      (try simp only [Act.put, List.setIfInBounds_toArray, List.set_cons_zero, List.set_cons_succ])
      refine take_at 20 84 (.bool false) rfl rfl (by kernel_rfl) (by kernel_rfl) (by kernel_rfl) (fun _ _ _ h => h) (Or.inl ⟨by kernel_rfl, fun w' hS' => by go_simp⟩) hHeld ?_
      (try simp only [Act.put, List.setIfInBounds_toArray, List.set_cons_zero, List.set_cons_succ])
      refine take_at 21 85 (.bool false) rfl rfl (by kernel_rfl) (by kernel_rfl) (by kernel_rfl) (fun _ _ _ h => h) (Or.inl ⟨by kernel_rfl, fun w' hS' => by go_simp⟩) hHeld ?_
      (try simp only [Act.put, List.setIfInBounds_toArray, List.set_cons_zero, List.set_cons_succ])
      refine take_at 22 86 (.agg #[.int .i64 ((tX R C l) + 1), .int .i64 ((tY R C l)), .slice Qa Qn Qc]) rfl rfl (by kernel_rfl) (by kernel_rfl) (by kernel_rfl) (fun _ _ _ h => h) (yieldsIf_load_row (by kernel_rfl) 25 (.tmp 13) rfl Qb rfl 25 #[.int .i64 ((tX R C l) + 1), .int .i64 ((tY R C l)), .slice Qa Qn Qc] (0, 0) _ (fun w' h => h.row 0 rfl) Try.underlying25 rfl tab_info) hHeld ?_
      (try simp only [Act.put, List.setIfInBounds_toArray, List.set_cons_zero, List.set_cons_succ])
      refine take_at 24 88 (.agg #[.int .i64 ((tY R C l)), .int .i64 ((tX R C l) + 1), .slice Za Zn Zc]) rfl rfl (by kernel_rfl) (by kernel_rfl) (by kernel_rfl) (fun _ _ _ h => h) (yieldsIf_load_row (by kernel_rfl) 25 (.tmp 11) rfl Zb rfl 25 #[.int .i64 ((tY R C l)), .int .i64 ((tX R C l) + 1), .slice Za Zn Zc] (0, 0) _ (fun w' h => h.row 1 rfl) Try.underlying25 rfl tab_info) hHeld ?_
      (try simp only [Act.put, List.setIfInBounds_toArray, List.set_cons_zero, List.set_cons_succ])
      refine wpAnyH_ready (rs := [23]) (by kernel_rfl) (by simp) ?_
      refine AllReadyH.cons rfl (fun K hK => ?_) AllReadyH.nil
      go_simp
      go_at_call 22
      refine (implTableTurn_any ((tX R C l) + 1) (tY R C l) Qa Qn Qc (inL t' (tY R C l) (tL R C l)) _ (hHeld.tab 0 rfl)).mono ?_
      intro e u3 hr
      obtain ⟨h1 | h1, hb⟩ := hr
      · exact absurd (h1.1.symm.trans (ok_in HI.out)) (by simp)
      obtain ⟨-, na, nc, ns, rfl, hO⟩ := h1
      obtain ⟨N, hN⟩ : ∃ M, (inL t' (tY R C l) (tL R C l)).length = M := ⟨_, rfl⟩
      rw [hN] at hO ⊢
      have HN : Hid (Tab u3 na N nc (turnL (inL t' (tY R C l) (tL R C l)))) := hO.tab
      clear hO hN
      go_wp2_with fail
      refine hK.out _ _ (hHeld.go hb) (fun hHeld => ?_)
      clear hK K
      (try simp only [Act.put, List.setIfInBounds_toArray, List.set_cons_zero, List.set_cons_succ])
      refine wpAnyH_ready (rs := [25]) (by kernel_rfl) (by simp) ?_
      refine AllReadyH.cons rfl (fun K hK => ?_) AllReadyH.nil
      go_simp
      go_at_call 12
      refine (lmTable_same (tY R C l) ((tX R C l) + 1) na N nc (turnL (inL t' (tY R C l) (tL R C l))) Za Zn Zc _ HN.out (hHeld.tab 2 rfl)).mono ?_
      rintro e u4 ⟨rfl, hb⟩
      go_wp2_with fail
      refine hK.out _ _ (hHeld.go hb) (fun hHeld => ?_)
      clear hK K
      (try simp only [Act.put, List.setIfInBounds_toArray, List.set_cons_zero, List.set_cons_succ])
      refine take_at 26 90 (.bool true) rfl rfl (by kernel_rfl) (by kernel_rfl) (by kernel_rfl) (fun _ _ _ h => h) (Or.inl ⟨by kernel_rfl, fun w' hS' => by go_simp⟩) hHeld ?_
      (try simp only [Act.put, List.setIfInBounds_toArray, List.set_cons_zero, List.set_cons_succ])
      refine take_at 27 91 (.bool true) rfl rfl (by kernel_rfl) (by kernel_rfl) (by kernel_rfl) (fun _ _ _ h => h) (Or.inl ⟨by kernel_rfl, fun w' hS' => by go_simp⟩) hHeld ?_
      (try simp only [Act.put, List.setIfInBounds_toArray, List.set_cons_zero, List.set_cons_succ])
      refine take_at 28 2 (.bool true) rfl rfl (by kernel_rfl) (by kernel_rfl) (by kernel_rfl) (fun _ _ _ h => h) (Or.inl ⟨by kernel_rfl, fun w' hS' => by go_simp⟩) hHeld ?_
      (try simp only [Act.put, List.setIfInBounds_toArray, List.set_cons_zero, List.set_cons_succ])
      refine wpAnyH_done (by kernel_rfl) ?_ _
      refine NoPanic.normal ?_
      replace HH : Hid (Hold w [(Qb, #[.int .i64 ((tX R C l) + 1), .int .i64 ((tY R C l)), .slice Qa Qn Qc], 25), (Zb, #[.int .i64 ((tY R C l)), .int .i64 ((tX R C l) + 1), .slice Za Zn Zc], 25), (Yb, #[.int .i64 ((tX R C l) - 1), .int .i64 ((tY R C l)), .slice Ya Yn Yc], 25), (Xb, #[.int .i64 ((tY R C l)), .int .i64 ((tX R C l) - 1), .slice Xa Xn Xc], 25), (Wb, #[.int .i64 ((tY R C l)), .int .i64 ((tX R C l) - 1), .slice Wa Wn Wc], 25), (Tb, #[.int .i64 R, .int .i64 C, .slice a' n' c'], 25)] [(Qa, Qn, Qc, (inL t' (tY R C l) (tL R C l))), (Va, Vn, Vc, (tL R C l)), (Za, Zn, Zc, (turnL (inL t' (tY R C l) (tL R C l)))), (Ya, Yn, Yc, (outL t' (tL R C l))), (Ua, Un, Uc, (tL R C l)), (Xa, Xn, Xc, (turnL (outL t' (tL R C l)))), (Wa, Wn, Wc, (turnL (outL t' (tL R C l)))), (a', n', c', l)] _) := hHeld
      clear hHeld
      go_wp2_with fail
      go_ret
      exact ⟨rfl, HH.out.1⟩
end Go.Proofs.Ytbigbbfbikhjdaa
