import Derived.Test.YtmemhmndfcdmbaoDrawWas
import Derived.Test.YtmemhmndfcdmbaoSpecTextWas
namespace Go.Proofs.Ytmemhmndfcdmbao
open Go.RowKit

def isIn (s : Sg) : Bool := decide (0 < s.2.1)
def isOut (s : Sg) : Bool := decide (0 < s.2.2)
def cnt (q : Sg → Bool) (l : List Sg) : Nat := (l.filter q).length
theorem cnt_le (q : Sg → Bool) (l : List Sg) : cnt q l ≤ l.length := List.length_filter_le _ _
theorem cnt_yes (q : Sg → Bool) (l : List Sg) (k : Nat) (hk : k < l.length) (h : q (l.getD k (0, 0, 0)) = true) : cnt q (l.take (k + 1)) = cnt q (l.take k) + 1 := by
  have e : l.getD k (0, 0, 0) = l[k] := by simp [List.getD, hk]
  rw [e] at h
  unfold cnt
  rw [List.take_succ_eq_append_getElem hk, List.filter_append]
  simp [h]
theorem cnt_no (q : Sg → Bool) (l : List Sg) (k : Nat) (hk : k < l.length) (h : q (l.getD k (0, 0, 0)) = false) : cnt q (l.take (k + 1)) = cnt q (l.take k) := by
  have e : l.getD k (0, 0, 0) = l[k] := by simp [List.getD, hk]
  rw [e] at h
  unfold cnt
  rw [List.take_succ_eq_append_getElem hk, List.filter_append]
  simp [h]
theorem cnt_two {p q : Sg → Bool} {l : List Sg} (h : ∀ s ∈ l, p s = !q s) : cnt p l + cnt q l = l.length := by
  induction l with
  | nil => rfl
  | cons s l ih =>
    have ih' := ih (fun t ht => h t (by simp [ht]))
    have hs := h s (by simp)
    unfold cnt at ih' ⊢
    cases hq : q s
    · rw [hq] at hs
      rw [List.filter_cons_of_pos (by simpa using hs), List.filter_cons_of_neg (by simp [hq])]
      simp only [List.length_cons]
      omega
    · rw [hq] at hs
      rw [List.filter_cons_of_neg (by simp [hs]), List.filter_cons_of_pos hq]
      simp only [List.length_cons]
      omega
theorem len_was {l : List Sg} (h : textB l = true) : (pickL noIn l).length + cnt isIn l = l.length := by
  unfold pickL
  rw [h, if_pos rfl]
  unfold bytesOf
  rw [List.length_map]
  refine cnt_two (p := noIn) (q := isIn) (fun s hs => ?_)
  have hw := (sgB_parts (textB_all h s hs)).2.1
  simp [whoB] at hw
  by_cases h0 : s.2.1 = 0
  · simp [noIn, isIn, h0]
  · have : 0 < s.2.1 := by omega
    simp [noIn, isIn, h0, this]
theorem len_now {l : List Sg} (h : textB l = true) : (pickL noOut l).length + cnt isOut l = l.length := by
  unfold pickL
  rw [h, if_pos rfl]
  unfold bytesOf
  rw [List.length_map]
  refine cnt_two (p := noOut) (q := isOut) (fun s hs => ?_)
  have hw := (sgB_parts (textB_all h s hs)).2.2.1
  simp [whoB] at hw
  by_cases h0 : s.2.2 = 0
  · simp [noOut, isOut, h0]
  · have : 0 < s.2.2 := by omega
    simp [noOut, isOut, h0, this]

set_option maxHeartbeats 2000000 in
theorem fnTextLen_walk (a : Option Addr) (n cap : Nat) (zs : List Int) (w : World) (h : Byt w.heap.size w a n cap zs) :
    Calls Try.prog 3 #[.slice a n cap] w fun e w' => e = .returned (.bool true) ∧ Below w.heap.size w w' := by
  have hc := h.2.1
  have hm := h.2.2.1
  unfold maxLen at hm
  by_cases hn : n ≤ 1048576
  · have hd : decide ((1048576 : Int) < (n : Int)) = false := by simp; omega
    have HY : Hid (Byt w.heap.size w a n cap zs) := h
    clear h
    go_enter Try.func3, Try.ntmps3
    go_wp2_with fail
    refine (drawTextWas_any w.heap.size a n cap zs _ HY.out (Nat.le_refl _)).mono ?_
    rintro e w1 ⟨v, l, rfl, ho1, hl1, hb1⟩
    have s1 := hb1.size
    obtain ⟨a1, n1, c1, rfl, hn1⟩ := ho1.shapeL
    have hn25 : n1 ≤ 25 := by omega
    have HL : Hid (n1 = l.length) := hn1
    have HT1 : Hid (Txt w1 a1 n1 c1 l) := ho1.txt
    have hcap := ho1.txt.2.1
    have hcm := ho1.txt.2.2.1
    unfold maxLen at hcm
    clear ho1 hn1
    obtain ⟨S, hS⟩ : ∃ S, strOfNums (pickL noIn l) = S := ⟨_, rfl⟩
    have HS : Hid (strOfNums (pickL noIn l) = S) := hS
    obtain ⟨U, hU⟩ : ∃ S, strOfNums (pickL noOut l) = S := ⟨_, rfl⟩
    have HU : Hid (strOfNums (pickL noOut l) = U) := hU
    clear hS hU
    go_wp2_with fail
    refine (implTextWas_is HT1.out HS.out).mono ?_
    rintro e w2 ⟨rfl, hb2⟩
    have s2 := hb2.size
    go_wp2_with fail
    refine (specTextWas_is (HT1.out.below hb2) HS.out).mono ?_
    rintro e w3 ⟨rfl, hb3⟩
    have s3 := hb3.size
    have HT3 : Hid (Txt w3 a1 n1 c1 l) := (HT1.out.below hb2).below hb3
    have HB3 : Hid (Below w.heap.size w w3) := (hb1.trans (hb2.mono (by omega))).trans (hb3.mono (by omega))
    cases htb : textB l
    · have HB : Hid (textB l = false) := htb
      clear htb
      go_wp2_with fail
      refine (specTextOk_is HT3.out HB.out).mono ?_
      rintro e w4 ⟨rfl, hb4⟩
      have s4 := hb4.size
      go_wp2_with fail
      refine (implTextWas_is (HT3.out.below hb4) HS.out).mono ?_
      rintro e w5 ⟨rfl, hb5⟩
      have s5 := hb5.size
      go_wp2_with fail
      refine (specTextWas_is ((HT3.out.below hb4).below hb5) HS.out).mono ?_
      rintro e w6 ⟨rfl, hb6⟩
      go_wp2_with fail
      go_ret
      exact ⟨rfl, ((HB3.out.trans (hb4.mono (by omega))).trans (hb5.mono (by omega))).trans (hb6.mono (by omega))⟩
    · have HB : Hid (textB l = true) := htb
      clear htb
      go_wp2_with fail
      refine (specTextOk_is HT3.out HB.out).mono ?_
      rintro e w4 ⟨rfl, hb4⟩
      have s4 := hb4.size
      have HT4 : Hid (Txt w4 a1 n1 c1 l) := HT3.out.below hb4
      have HB4 : Hid (Below w.heap.size w w4) := HB3.out.trans (hb4.mono (by omega))
      clear hb1 hb2 hb3 hb4
      go_wp2_with fail
      go_loop [4, 5, 6] (fun iv ov i => ∃ k : Nat, k ≤ n1 ∧ i = .int .i64 (k : Int) ∧ iv = .int .i64 (cnt isIn (l.take k) : Nat) ∧ ov = .int .i64 (cnt isOut (l.take k) : Nat)) (fun _ _ i => n1 - (intOf i).toNat)
      case atStart => exact ⟨0, Nat.zero_le _, rfl, rfl, rfl⟩
      case round =>
        obtain ⟨k, hk, rfl, rfl, rfl⟩ := hrel
        have hci : cnt isIn (l.take k) ≤ k := Nat.le_trans (cnt_le _ _) (by simp; omega)
        have hco : cnt isOut (l.take k) ≤ k := Nat.le_trans (cnt_le _ _) (by simp; omega)
        by_cases hlt : k < n1
        · have hlt' : k < l.length := by rw [← HL.out]; exact hlt
          obtain ⟨ci, hci'⟩ : ∃ c, cnt isIn (l.take k) = c := ⟨_, rfl⟩
          obtain ⟨co, hco'⟩ : ∃ c, cnt isOut (l.take k) = c := ⟨_, rfl⟩
          have HCI : Hid (cnt isIn (l.take k) = ci) := hci'
          have HCO : Hid (cnt isOut (l.take k) = co) := hco'
          rw [hci'] at hci ⊢
          rw [hco'] at hco ⊢
          clear hci' hco'
          rcases HT4.out.2.2.2 with hnil | ⟨b, off, rfl, hbw, hcells⟩
          · rw [hnil] at hlt'; exact absurd hlt' (by simp)
          · obtain ⟨c0, c1', c2⟩ := hcells k hlt'
            clear hcells
            obtain ⟨s, hs⟩ : ∃ s, s = l.getD k (0, 0, 0) := ⟨_, rfl⟩
            rw [← hs] at c0 c1' c2
            have HSg : Hid (s = l.getD k (0, 0, 0)) := hs
            clear hs
            by_cases hi : 0 < s.2.1
            · have Hi : Hid (cnt isIn (l.take (k + 1)) = ci + 1) := by
                show cnt isIn (l.take (k + 1)) = ci + 1
                rw [cnt_yes isIn l k hlt' (by rw [← HSg.out]; simp [isIn, hi]), HCI.out]
              by_cases ho : 0 < s.2.2
              · have Ho : Hid (cnt isOut (l.take (k + 1)) = co + 1) := by
                  show cnt isOut (l.take (k + 1)) = co + 1
                  rw [cnt_yes isOut l k hlt' (by rw [← HSg.out]; simp [isOut, ho]), HCO.out]
                go_wp2_with fail
                go_round
                case rel => exact ⟨k + 1, by omega, by go_num, by rw [Hi.out]; go_num, by rw [Ho.out]; go_num⟩
                case measure => simp [intOf]; omega
              · have Ho : Hid (cnt isOut (l.take (k + 1)) = co) := by
                  show cnt isOut (l.take (k + 1)) = co
                  rw [cnt_no isOut l k hlt' (by rw [← HSg.out]; simp [isOut]; omega), HCO.out]
                go_wp2_with fail
                go_round
                case rel => exact ⟨k + 1, by omega, by go_num, by rw [Hi.out]; go_num, by rw [Ho.out]⟩
                case measure => simp [intOf]; omega
            · have Hi : Hid (cnt isIn (l.take (k + 1)) = ci) := by
                show cnt isIn (l.take (k + 1)) = ci
                rw [cnt_no isIn l k hlt' (by rw [← HSg.out]; simp [isIn]; omega), HCI.out]
              by_cases ho : 0 < s.2.2
              · have Ho : Hid (cnt isOut (l.take (k + 1)) = co + 1) := by
                  show cnt isOut (l.take (k + 1)) = co + 1
                  rw [cnt_yes isOut l k hlt' (by rw [← HSg.out]; simp [isOut, ho]), HCO.out]
                go_wp2_with fail
                go_round
                case rel => exact ⟨k + 1, by omega, by go_num, by rw [Hi.out], by rw [Ho.out]; go_num⟩
                case measure => simp [intOf]; omega
              · have Ho : Hid (cnt isOut (l.take (k + 1)) = co) := by
                  show cnt isOut (l.take (k + 1)) = co
                  rw [cnt_no isOut l k hlt' (by rw [← HSg.out]; simp [isOut]; omega), HCO.out]
                go_wp2_with fail
                go_round
                case rel => exact ⟨k + 1, by omega, by go_num, by rw [Hi.out], by rw [Ho.out]⟩
                case measure => simp [intOf]; omega
        · obtain rfl : k = n1 := by omega
          have eL : l.take k = l := List.take_of_length_le (by rw [← HL.out]; exact Nat.le_refl _)
          rw [eL] at hci hco ⊢
          have e1 : S.size + cnt isIn l = k := by rw [← HS.out, strOfNums_size, len_was HB.out, ← HL.out]
          have e2 : U.size + cnt isOut l = k := by rw [← HU.out, strOfNums_size, len_now HB.out, ← HL.out]
          obtain ⟨ci, hci'⟩ : ∃ c, cnt isIn l = c := ⟨_, rfl⟩
          obtain ⟨co, hco'⟩ : ∃ c, cnt isOut l = c := ⟨_, rfl⟩
          rw [hci'] at hci e1 ⊢
          rw [hco'] at hco e2 ⊢
          clear hci' hco' eL
          have f1 : ((S.size : Int) == (k : Int) - (ci : Int)) = true := by simp; omega
          have f2 : ((U.size : Int) == (k : Int) - (co : Int)) = true := by simp; omega
          clear e1 e2
          go_wp2_with fail
          refine (implTextWas_is HT4.out HS.out).mono ?_
          rintro e w5 ⟨rfl, hb5⟩
          have s5 := hb5.size
          go_wp2_with fail
          refine (implTextNow_is (HT4.out.below hb5) HU.out).mono ?_
          rintro e w6 ⟨rfl, hb6⟩
          go_wp2_with fail
          go_ret
          exact ⟨rfl, (HB4.out.trans (hb5.mono (by omega))).trans (hb6.mono (by omega))⟩
  · have hd : decide ((1048576 : Int) < (n : Int)) = true := by simp; omega
    go_enter Try.func3, Try.ntmps3
    go_wp2_with fail
    go_ret
    exact ⟨rfl, Below.refl _ _⟩
end Go.Proofs.Ytmemhmndfcdmbao
