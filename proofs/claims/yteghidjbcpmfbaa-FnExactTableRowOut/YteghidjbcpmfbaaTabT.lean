import Derived.Test.YteghidjbcpmfbaaTabW
import Derived.Test.YteghidjbcpmfbaaExact
import Derived.Test.YteghidjbcpmfbaaRowAt
import Derived.Deep.Cut
namespace Go.Proofs.Yteghidjbcpmfbaa
open Go.RowKit


set_option maxHeartbeats 1000000 in
theorem szSignS_l (a : Option Addr) (n cap : Nat) (left : Int) (w : World) (hn : n ≤ cap) (hc : cap ≤ maxLen) (h0 : 0 ≤ left) (h1 : left ≤ 1048576) {x : Int} (hx : (if (n : Int) ≤ left then left - n else -1) = x) :
    Calls Try.prog 70 #[.slice a n cap, .int .i64 left] w fun e w' => e = .returned (.int .i64 x) ∧ w' = w := by
  unfold maxLen at hc
  subst hx
  by_cases h : (n : Int) ≤ left
  · rw [if_pos h]
    have k0 : ¬ left - n < 0 := by omega
    go_enter Try.func70, Try.ntmps70
    go_wp2
    go_ret
    exact ⟨rfl, rfl⟩
  · rw [if_neg h]
    have k0 : left - n < 0 := by omega
    go_enter Try.func70, Try.ntmps70
    go_wp2
    go_ret
    exact ⟨rfl, rfl⟩
set_option maxHeartbeats 1000000 in
theorem szCell_l (r c d g : Int) (a : Option Addr) (n cap : Nat) (left : Int) (w : World) (hn : n ≤ cap) (hc : cap ≤ maxLen) (h0 : 0 ≤ left) (h1 : left ≤ 1048576) {x : Int} (hx : (if (n : Int) ≤ left then left - n else -1) = x) :
    Calls Try.prog 52 #[.agg #[.int .i64 r, .int .i64 c, .int .i64 d, .int .i64 g, .slice a n cap], .int .i64 left] w fun e w' => e = .returned (.int .i64 x) ∧ Below w.heap.size w w' := by
  have HX : Hid ((if (n : Int) ≤ left then left - n else -1) = x) := hx
  by_cases hneg : x < 0
  · have hx1 : x = -1 := by split at hx <;> omega
    subst hx1
    clear hx
    go_enter Try.func52, Try.ntmps52
    go_wp2_with (go_at_call 70; refine (szSignS_l _ _ _ _ _ hn hc h0 h1 HX.out).mono ?_; rintro e w1 ⟨rfl, rfl⟩)
    go_ret
    exact ⟨rfl, (Below.refl _ _).alloc (Nat.le_refl _) _⟩
  · clear hx
    go_enter Try.func52, Try.ntmps52
    go_wp2_with (go_at_call 70; refine (szSignS_l _ _ _ _ _ hn hc h0 h1 HX.out).mono ?_; rintro e w1 ⟨rfl, rfl⟩)
    go_ret
    exact ⟨rfl, (Below.refl _ _).alloc (Nat.le_refl _) _⟩

/-- How many signs the cells have. -/
def totT (l : List Cl) : Nat := (l.map fun x => x.2.2.2.2.length).sum
theorem totT_append (a b : List Cl) : totT (a ++ b) = totT a + totT b := by
  unfold totT
  rw [List.map_append, List.sum_append]
theorem totT_take (l : List Cl) (k : Nat) (hk : k < l.length) : totT (l.take (k + 1)) = totT (l.take k) + (l.getD k cl0).2.2.2.2.length := by
  rw [List.take_succ_eq_append_getElem hk, totT_append, show l.getD k cl0 = l[k] from by simp [List.getD, hk]]
  rfl
theorem totT_le (l : List Cl) (k : Nat) (hk : k < l.length) : (l.getD k cl0).2.2.2.2.length ≤ totT l := by
  have h1 := totT_take l k hk
  have h2 := totT_append (l.take (k + 1)) (l.drop (k + 1))
  rw [List.take_append_drop] at h2
  omega
set_option maxHeartbeats 2000000 in
theorem szCellS_any (a : Option Addr) (n cap : Nat) (l : List Cl) (w : World) (h : Tab w a n cap l) :
    Calls Try.prog 26 #[.slice a n cap, .int .i64 1048576] w fun e w' => (e = .returned (.int .i64 (-1)) ∨ (l.length + totT l ≤ 1048576 ∧ e = .returned (.int .i64 (1048576 - l.length - totT l)))) ∧ Below w.heap.size w w' := by
  obtain ⟨rfl, hc, hm, hl⟩ := h
  have hmm := hm
  unfold maxLen at hm
  by_cases h0 : l.length ≤ 1048576
  · go_enter Try.func26, Try.ntmps26
    go_wp2_with fail
    go_loopw [1, 5] (fun lv i wr => ∃ k : Nat, k ≤ l.length ∧ i = .int .i64 k ∧ l.length + totT (l.take k) ≤ 1048576 ∧ lv = .int .i64 (1048576 - (l.length : Int) - (totT (l.take k) : Nat)) ∧ Below w.heap.size w wr) (fun _ i _ => l.length - (intOf i).toNat)
    case atStart => exact ⟨0, Nat.zero_le _, rfl, by simpa [totT] using h0, by simp [totT], Below.refl _ _⟩
    case round =>
      obtain ⟨k, hk, rfl, ht, rfl, hb⟩ := hrel
      have HB : Hid (Below w.heap.size w wr) := hb
      by_cases hlt : k < l.length
      · rcases hl with e | ⟨b, off, rfl, hbw, hl⟩
        · rw [e] at hlt
          exact absurd hlt (by simp)
        obtain ⟨c0, c1, c2, c3, ta, tn, tc, c4, htx⟩ := (hl k hlt).below hb hbw
        obtain ⟨e1, e2, e3, -⟩ := htx
        have HT := totT_take l k hlt
        rw [← e1] at HT
        have HT' : Hid (totT (l.take (k + 1)) = totT (l.take k) + tn) := HT
        have sz := hb.size
        clear hl HT hb e1
        generalize totT (l.take k) = m at ht HT' ⊢
        by_cases hle : (tn : Int) ≤ 1048576 - (l.length : Int) - m
        · have HX : Hid ((if (tn : Int) ≤ 1048576 - (l.length : Int) - m then 1048576 - (l.length : Int) - m - tn else -1) = 1048576 - (l.length : Int) - m - tn) := if_pos hle
          have n0 : ¬ 1048576 - (l.length : Int) - m - tn < 0 := by omega
          go_wp2_with (go_at_call 52; refine (szCell_l _ _ _ _ _ _ _ _ _ e2 e3 (by omega) (by omega) HX.out).mono ?_; rintro e w1 ⟨rfl, hb1⟩)
          go_roundw
          case rel => exact ⟨k + 1, by omega, by go_num, by rw [HT'.out]; omega, by rw [HT'.out]; congr 1; omega, HB.out.trans (hb1.mono sz)⟩
          case measure => simp [intOf]; omega
        · have HX : Hid ((if (tn : Int) ≤ 1048576 - (l.length : Int) - m then 1048576 - (l.length : Int) - m - tn else -1) = -1) := if_neg hle
          go_wp2_with (go_at_call 52; refine (szCell_l _ _ _ _ _ _ _ _ _ e2 e3 (by omega) (by omega) HX.out).mono ?_; rintro e w1 ⟨rfl, hb1⟩)
          go_ret
          exact ⟨.inl rfl, HB.out.trans (hb1.mono sz)⟩
      · have e : l.take k = l := List.take_of_length_le (by omega)
        rw [e] at ht ⊢
        go_wp2_with fail
        go_ret
        exact ⟨.inr ⟨ht, rfl⟩, HB.out⟩
  · go_enter Try.func26, Try.ntmps26
    go_wp2_with fail
    go_ret
    exact ⟨.inl rfl, Below.refl _ _⟩
set_option maxHeartbeats 1000000 in
theorem szTable_any (R C : Int) (a : Option Addr) (n cap : Nat) (l : List Cl) (w : World) (h : Tab w a n cap l) :
    Calls Try.prog 9 #[.agg #[.int .i64 R, .int .i64 C, .slice a n cap], .int .i64 1048576] w fun e w' => (e = .returned (.int .i64 (-1)) ∨ (l.length + totT l ≤ 1048576 ∧ e = .returned (.int .i64 (1048576 - l.length - totT l)))) ∧ Below w.heap.size w w' := by
  have H : Hid (Tab w a n cap l) := h
  clear h
  go_enter Try.func9, Try.ntmps9
  go_wp2_with (go_at_call 26; refine (szCellS_any _ _ _ l _ (H.out.below ((Below.refl _ _).alloc (Nat.le_refl _) _))).mono ?_; rintro e w1 ⟨(rfl | ⟨hle, rfl⟩), hb1⟩)
  · go_ret
    exact ⟨.inl rfl, ((Below.refl _ _).alloc (Nat.le_refl _) _).trans (hb1.mono (by simp))⟩
  · go_ret
    exact ⟨.inr ⟨hle, rfl⟩, ((Below.refl _ _).alloc (Nat.le_refl _) _).trans (hb1.mono (by simp))⟩

set_option maxHeartbeats 2000000 in
theorem toCell_any (r c d g : Int) (a : Option Addr) (n cap : Nat) (l : List Sg) (w : World) (h : Txt w a n cap l) (hn : n ≤ 1048576) :
    Calls Try.prog 54 #[.agg #[.int .i64 r, .int .i64 c, .int .i64 d, .int .i64 g, .slice a n cap]] w fun e w' => (∃ b, w.heap.size ≤ b ∧ e = .returned (.agg #[.int .i64 r, .int .i64 c, .int .i64 d, .int .i64 g, .slice (some ⟨b, 0, none⟩) n n]) ∧ Own w' w.heap.size (.slice (some ⟨b, 0, none⟩) n n) l) ∧ Below w.heap.size w w' := by
  have H : Hid (Txt w a n cap l) := h
  clear h
  go_enter Try.func54, Try.ntmps54
  go_upto_region 6 with fail
  have B0 : Below w.heap.size w (((w.alloc (.cells #[.int .i64 r, .int .i64 c, .int .i64 d, .int .i64 g, .slice a n cap] 76)).alloc (.cells #[.int .i64 0, .int .i64 0, .int .i64 0, .int .i64 0, .slice none 0 0] 44)).alloc (.cells #[.int .i64 r, .int .i64 c, .int .i64 d, .int .i64 g, .slice none 0 0] 44)) := (((Below.refl _ _).alloc (Nat.le_refl _) _).alloc (by simp) _).alloc (by simp; omega) _
  have G0 : RowAt (((w.alloc (.cells #[.int .i64 r, .int .i64 c, .int .i64 d, .int .i64 g, .slice a n cap] 76)).alloc (.cells #[.int .i64 0, .int .i64 0, .int .i64 0, .int .i64 0, .slice none 0 0] 44)).alloc (.cells #[.int .i64 r, .int .i64 c, .int .i64 d, .int .i64 g, .slice none 0 0] 44)) w.heap.size #[.int .i64 r, .int .i64 c, .int .i64 d, .int .i64 g, .slice a n cap] 76 := ((rowAt_new w _ _).alloc _).alloc _
  have G1 : RowAt (((w.alloc (.cells #[.int .i64 r, .int .i64 c, .int .i64 d, .int .i64 g, .slice a n cap] 76)).alloc (.cells #[.int .i64 0, .int .i64 0, .int .i64 0, .int .i64 0, .slice none 0 0] 44)).alloc (.cells #[.int .i64 r, .int .i64 c, .int .i64 d, .int .i64 g, .slice none 0 0] 44)) (w.heap.size + 1) #[.int .i64 0, .int .i64 0, .int .i64 0, .int .i64 0, .slice none 0 0] 44 := by
    have := (rowAt_new (w.alloc (.cells #[.int .i64 r, .int .i64 c, .int .i64 d, .int .i64 g, .slice a n cap] 76)) #[.int .i64 0, .int .i64 0, .int .i64 0, .int .i64 0, .slice none 0 0] 44).alloc (.cells #[.int .i64 r, .int .i64 c, .int .i64 d, .int .i64 g, .slice none 0 0] 44)
    simpa using this
  have G2 : RowAt (((w.alloc (.cells #[.int .i64 r, .int .i64 c, .int .i64 d, .int .i64 g, .slice a n cap] 76)).alloc (.cells #[.int .i64 0, .int .i64 0, .int .i64 0, .int .i64 0, .slice none 0 0] 44)).alloc (.cells #[.int .i64 r, .int .i64 c, .int .i64 d, .int .i64 g, .slice none 0 0] 44)) (w.heap.size + 1 + 1) #[.int .i64 r, .int .i64 c, .int .i64 d, .int .i64 g, .slice none 0 0] 44 := by
    have := (rowAt_new ((w.alloc (.cells #[.int .i64 r, .int .i64 c, .int .i64 d, .int .i64 g, .slice a n cap] 76)).alloc (.cells #[.int .i64 0, .int .i64 0, .int .i64 0, .int .i64 0, .slice none 0 0] 44)) #[.int .i64 r, .int .i64 c, .int .i64 d, .int .i64 g, .slice none 0 0] 44)
    simpa using this
  generalize (((w.alloc (.cells #[.int .i64 r, .int .i64 c, .int .i64 d, .int .i64 g, .slice a n cap] 76)).alloc (.cells #[.int .i64 0, .int .i64 0, .int .i64 0, .int .i64 0, .slice none 0 0] 44)).alloc (.cells #[.int .i64 r, .int .i64 c, .int .i64 d, .int .i64 g, .slice none 0 0] 44)) = v0 at B0 G0 G1 G2 ⊢
  have k4 : v0.cell? ⟨w.heap.size, 4, none⟩ = some (.slice a n cap) := G0.cell 4
  have l2 := G2.lt
  have l1 := G1.lt
  have H1 : Hid (RowAt v0 (w.heap.size + 1) #[.int .i64 0, .int .i64 0, .int .i64 0, .int .i64 0, .slice none 0 0] 44) := G1
  have H2 : Hid (RowAt v0 (w.heap.size + 1 + 1) #[.int .i64 r, .int .i64 c, .int .i64 d, .int .i64 g, .slice none 0 0] 44) := G2
  clear G0 G1 G2
  go_upto_region 7 with (go_at_call 71; refine (toSignS_any _ _ _ l _ (H.out.below B0) hn).mono ?_; rintro e w1 ⟨rfl, ho1, hb1⟩; have q1 : w1.cell? ⟨w.heap.size + 1 + 1, 4, none⟩ = some (.slice none 0 0) := (H2.out.below hb1 l2).cell 4; have q2 := (H2.out.below hb1 l2).frozen 4)
  have lt1 := own_lt ho1 rfl
  have G2 := (H2.out.below hb1 l2).setCell 4 (.slice (some ⟨v0.heap.size, 0, none⟩) n n)
  have G1 := (H1.out.below hb1 l1).other ⟨w.heap.size + 1 + 1, 4, none⟩ (.slice (some ⟨v0.heap.size, 0, none⟩) n n) (by simp <;> omega)
  have O1 := own_set ho1 ⟨w.heap.size + 1 + 1, 4, none⟩ (.slice (some ⟨v0.heap.size, 0, none⟩) n n) (by simp [Value.ownBlock]; omega)
  have B1 : Below w.heap.size w (w1.setCell ⟨w.heap.size + 1 + 1, 4, none⟩ (.slice (some ⟨v0.heap.size, 0, none⟩) n n)) := (B0.trans (hb1.mono B0.size)).setCell (by show _ ≤ w.heap.size + 1 + 1; omega) _
  clear q1 q2 ho1 hb1
  generalize (w1.setCell ⟨w.heap.size + 1 + 1, 4, none⟩ (.slice (some ⟨v0.heap.size, 0, none⟩) n n)) = w2 at G2 G1 O1 B1 ⊢
  have e0 : w2.cell? ⟨w.heap.size + 1 + 1, 0, none⟩ = some (.int .i64 r) := G2.cell 0
  have e1 : w2.cell? ⟨w.heap.size + 1 + 1, 1, none⟩ = some (.int .i64 c) := G2.cell 1
  have e2 : w2.cell? ⟨w.heap.size + 1 + 1, 2, none⟩ = some (.int .i64 d) := G2.cell 2
  have e3 : w2.cell? ⟨w.heap.size + 1 + 1, 3, none⟩ = some (.int .i64 g) := G2.cell 3
  have e4 : w2.cell? ⟨w.heap.size + 1 + 1, 4, none⟩ = some (.slice (some ⟨v0.heap.size, 0, none⟩) n n) := G2.cell 4
  have cell_info : (Try.prog.info? 44).map (·.size) = some 5 := by kernel_rfl
  have HR : Hid (RowAt w2 (w.heap.size + 1) #[.int .i64 0, .int .i64 0, .int .i64 0, .int .i64 0, .slice none 0 0] 44) := G1
  have HL := G2.lt
  have s0 := B0.size
  clear G1 G2
  go_wp2_with ((refine wpList_store_row rfl 44 (.tmp 2) (.tmp 20) rfl (w.heap.size + 1) #[.int .i64 r, .int .i64 c, .int .i64 d, .int .i64 g, .slice (some ⟨v0.heap.size, 0, none⟩) n n] rfl rfl 44 _ HR.out cell_info rfl (cells5_one _ _ _ _ _ _ _) ?_))
  refine bodyPost_ret (v := .agg #[.int .i64 r, .int .i64 c, .int .i64 d, .int .i64 g, .slice (some ⟨v0.heap.size, 0, none⟩) n n]) (results_cell_row (p := 2) (ty := 44) rfl _ _ (w.heap.size + 1) 44 _ _ _ rfl (RowAt.setRow HR.out _) Try.underlying44 rfl cell_info) rfl ⟨⟨v0.heap.size, by omega, rfl, ?_⟩, below_row B1 (by omega) _⟩
  have hn' : n = l.length := H.out.1
  subst hn'
  exact own_less (own_row O1 _ _ (by simp [Value.ownBlock]; omega)) (by omega)

theorem take_set5 (xs : List Value) (k : Nat) (a b c d e : Value) (h : k * 5 + 5 ≤ xs.length) :
    (((((xs.set (k * 5) a).set (k * 5 + 1) b).set (k * 5 + 2) c).set (k * 5 + 3) d).set (k * 5 + 4) e).take ((k + 1) * 5) = xs.take (k * 5) ++ [a, b, c, d, e] := by
  apply List.ext_getElem?
  intro j
  by_cases h1 : j < k * 5
  · rw [List.getElem?_take, if_pos (by omega), List.getElem?_set_ne (by omega), List.getElem?_set_ne (by omega), List.getElem?_set_ne (by omega), List.getElem?_set_ne (by omega), List.getElem?_set_ne (by omega), List.getElem?_append_left (by simp; omega), List.getElem?_take, if_pos h1]
  · rw [List.getElem?_append_right (by simp; omega)]
    have e' : (xs.take (k * 5)).length = k * 5 := by simp; omega
    rw [e', List.getElem?_take]
    rcases (show j = k * 5 ∨ j = k * 5 + 1 ∨ j = k * 5 + 2 ∨ j = k * 5 + 3 ∨ j = k * 5 + 4 ∨ k * 5 + 5 ≤ j from by omega) with rfl | rfl | rfl | rfl | rfl | hj
    · rw [if_pos (by omega), List.getElem?_set_ne (by omega), List.getElem?_set_ne (by omega), List.getElem?_set_ne (by omega), List.getElem?_set_ne (by omega), List.getElem?_set_self (by omega)]; simp
    · rw [if_pos (by omega), List.getElem?_set_ne (by omega), List.getElem?_set_ne (by omega), List.getElem?_set_ne (by omega), List.getElem?_set_self (by simp; omega), show k * 5 + 1 - k * 5 = 1 by omega]; simp
    · rw [if_pos (by omega), List.getElem?_set_ne (by omega), List.getElem?_set_ne (by omega), List.getElem?_set_self (by simp; omega), show k * 5 + 2 - k * 5 = 2 by omega]; simp
    · rw [if_pos (by omega), List.getElem?_set_ne (by omega), List.getElem?_set_self (by simp; omega), show k * 5 + 3 - k * 5 = 3 by omega]; simp
    · rw [if_pos (by omega), List.getElem?_set_self (by simp; omega), show k * 5 + 4 - k * 5 = 4 by omega]; simp
    · rw [if_neg (by omega), List.getElem?_eq_none (by simp; omega)]

set_option maxHeartbeats 4000000 in
theorem toCellS_any (a : Option Addr) (n cap : Nat) (l : List Cl) (w : World) (h : Tab w a n cap l) (hn : l.length + totT l ≤ 1048576) :
    Calls Try.prog 31 #[.slice a n cap] w fun e w' => e = .returned (.slice (some ⟨w.heap.size, 0, none⟩) n n) ∧ (∃ rs, OwnT w' w.heap.size (.slice (some ⟨w.heap.size, 0, none⟩) n n) rs l) ∧ Below w.heap.size w w' := by
  obtain ⟨rfl, hc, hm, hl⟩ := h
  unfold maxLen at hm
  obtain ⟨i0, hi, hz0, hz1, hz2⟩ := info_parts Try.info44
  go_enter Try.func31, Try.ntmps31
  go_wp2_with (at_make; refine wpList_make_full _ rfl (.tmp 6) (.tmp 6) 26 rfl w.heap.size 44 i0 _ 5 Try.underlying26 hi hz0 hz1 .i64 .i64 _ _ l.length rfl rfl rfl rfl (by rw [hz2]; omega) (by unfold maxLen; omega) (Nat.le_refl _) ?_; intro w1 hown hgrow)
  have hb1 : Below w.heap.size w w1 := (Below.refl _ _).grown hgrow (Nat.le_refl _) (fun k hk => by simp at hk)
  clear hgrow
  obtain ⟨xs0, hown⟩ : ∃ xs, w1.ownsRow w.heap.size 44 5 (.slice (some ⟨w.heap.size, 0, none⟩) l.length l.length) l.length xs := ⟨_, hown⟩
  go_loopw [4] (fun i wr => ∃ (k : Nat) (xs : List Value) (rs : List Rw), k ≤ l.length ∧ i = .int .i64 k ∧ wr.ownsRow w.heap.size 44 5 (.slice (some ⟨w.heap.size, 0, none⟩) l.length l.length) l.length xs ∧ xs.take (k * 5) = flat5 rs ∧ TxtOwn wr w.heap.size (some w.heap.size) rs (l.take k) ∧ Below w.heap.size w wr) (fun i _ => l.length - (intOf i).toNat)
  case atStart => exact ⟨0, xs0, [], Nat.zero_le _, rfl, hown, by simp [flat5], TxtOwn.nil _ _ _, hb1⟩
  case round =>
    obtain ⟨k, xs, rs, hk, rfl, ho, hx, ht, hbl⟩ := hrel
    have hsz := hbl.size
    have HX : Hid (xs.take (k * 5) = flat5 rs) := hx
    have HO : Hid (wr.ownsRow w.heap.size 44 5 (.slice (some ⟨w.heap.size, 0, none⟩) l.length l.length) l.length xs) := ho
    have HT : Hid (TxtOwn wr w.heap.size (some w.heap.size) rs (l.take k)) := ht
    have lto := (own_lt ho rfl).2
    clear hx ho hown hb1 ht
    by_cases hlt : k < l.length
    · rcases hl with e | ⟨b, off, rfl, hbw, hl⟩
      · rw [e] at hlt
        exact absurd hlt (by simp)
      obtain ⟨c0, c1, c2, c3, ta, tn, tc, c4, htx⟩ := (hl k hlt).below hbl hbw
      have hle := totT_le l k hlt
      have htn : tn ≤ 1048576 := by rw [htx.1]; omega
      clear hl hle
      obtain ⟨⟨r, c, d, g, tx⟩, hxx⟩ : ∃ x, x = l.getD k cl0 := ⟨_, rfl⟩
      rw [← hxx] at c0 c1 c2 c3 htx
      simp only at c0 c1 c2 c3 htx
      have HXX : Hid ((r, c, d, g, tx) = l.getD k cl0) := hxx
      have HTX : Hid (Txt wr ta tn tc tx) := htx
      clear hxx htx
      go_wp2_with fail
      refine (toCell_any _ _ _ _ _ _ _ tx _ HTX.out htn).mono ?_
      rintro e w2 ⟨⟨tb, htb, rfl, how⟩, hb2⟩
      have ho2 := own_below HO.out hb2
      have f0 := ho2.frozenAt (k * 5)
      have f1 := ho2.frozenAt (k * 5 + 1)
      have f2 := ho2.frozenAt (k * 5 + 2)
      have f3 := ho2.frozenAt (k * 5 + 3)
      have f4 := ho2.frozenAt (k * 5 + 4)
      have hxl := ho2.1
      obtain ⟨u0, d0⟩ : ∃ u, w2.cell? ⟨w.heap.size, k * 5, none⟩ = some u := ⟨_, (ho2.cellAt (k * 5) (by omega)).trans (List.getElem?_eq_getElem (by omega))⟩
      obtain ⟨u1, d1⟩ : ∃ u, w2.cell? ⟨w.heap.size, k * 5 + 1, none⟩ = some u := ⟨_, (ho2.cellAt (k * 5 + 1) (by omega)).trans (List.getElem?_eq_getElem (by omega))⟩
      obtain ⟨u2, d2⟩ : ∃ u, w2.cell? ⟨w.heap.size, k * 5 + 2, none⟩ = some u := ⟨_, (ho2.cellAt (k * 5 + 2) (by omega)).trans (List.getElem?_eq_getElem (by omega))⟩
      obtain ⟨u3, d3⟩ : ∃ u, w2.cell? ⟨w.heap.size, k * 5 + 3, none⟩ = some u := ⟨_, (ho2.cellAt (k * 5 + 3) (by omega)).trans (List.getElem?_eq_getElem (by omega))⟩
      obtain ⟨u4, d4⟩ : ∃ u, w2.cell? ⟨w.heap.size, k * 5 + 4, none⟩ = some u := ⟨_, (ho2.cellAt (k * 5 + 4) (by omega)).trans (List.getElem?_eq_getElem (by omega))⟩
      have HO2 : Hid (w2.ownsRow w.heap.size 44 5 (.slice (some ⟨w.heap.size, 0, none⟩) l.length l.length) l.length xs) := ho2
      have HT2 : Hid (TxtOwn w2 w.heap.size (some w.heap.size) rs (l.take k)) := HT.out.below hb2
      have HW : Hid (Own w2 w.heap.size (.slice (some ⟨tb, 0, none⟩) tn tn) tx) := own_less how hsz
      clear ho2 HO hxl how
      go_wp2_with fail
      go_roundw
      case rel =>
        obtain ⟨p0, _⟩ := HO2.out.stored (k * 5) (.int .i64 r)
        obtain ⟨p1, _⟩ := p0.stored (k * 5 + 1) (.int .i64 c)
        obtain ⟨p2, _⟩ := p1.stored (k * 5 + 2) (.int .i64 d)
        obtain ⟨p3, _⟩ := p2.stored (k * 5 + 3) (.int .i64 g)
        obtain ⟨p4, _⟩ := p3.stored (k * 5 + 4) (.slice (some ⟨tb, 0, none⟩) tn tn)
        have hT := HT2.out.snoc (C := wr.heap.size) (x := (r, c, d, g, some ⟨tb, 0, none⟩, tn, tn)) (y := (r, c, d, g, tx)) ⟨rfl, rfl, rfl, rfl, HW.out⟩ (fun q hq => by simp [rwT, Value.ownBlock] at hq; simp; omega) (fun j hj q hq => HT.out.blockLt j hj q hq) (fun q hq => by simp [rwT, Value.ownBlock] at hq; omega)
        have e1 : l.take k ++ [(r, c, d, g, tx)] = l.take (k + 1) := by rw [List.take_succ_eq_append_getElem hlt, HXX.out]; simp [List.getD, hlt]
        rw [e1] at hT
        refine ⟨k + 1, _, rs ++ [(r, c, d, g, some ⟨tb, 0, none⟩, tn, tn)], by omega, by go_num, p4, ?_, ?_, ?_⟩
        · rw [take_set5 _ _ _ _ _ _ _ (by have := HO2.out.1; omega), HX.out, flat5_append]
          simp [flat5, rwCells]
        · exact ((((hT.set _ _ rfl).set _ _ rfl).set _ _ rfl).set _ _ rfl).set _ _ rfl
        · exact (((((hbl.trans (hb2.mono hsz)).setCell (Nat.le_refl _) _).setCell (Nat.le_refl _) _).setCell (Nat.le_refl _) _).setCell (Nat.le_refl _) _).setCell (Nat.le_refl _) _
      case measure => simp [intOf]; omega
    · go_wp2_with fail
      go_ret
      have e1 : l.take k = l := List.take_of_length_le (by omega)
      have hT := HT.out
      rw [e1] at hT
      have hxx : xs = flat5 rs := by
        have h1 := HX.out
        have h2 := HO.out.1
        rw [List.take_of_length_le (by omega)] at h1
        exact h1
      refine ⟨rfl, ⟨rs, ?_, hT⟩, hbl⟩
      have := HO.out
      rw [hxx] at this
      unfold OwnR
      rw [hT.1]
      exact this
end Go.Proofs.Yteghidjbcpmfbaa
