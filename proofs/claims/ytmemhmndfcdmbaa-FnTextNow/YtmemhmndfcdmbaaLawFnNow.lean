import Derived.Test.YtmemhmndfcdmbaaNowFacts
namespace Go.Proofs.Ytmemhmndfcdmbaa
open Go.RowKit

set_option maxHeartbeats 2000000 in
theorem fnTextNow_walk (a : Option Addr) (n cap : Nat) (zs : List Int) (w : World) (h : Byt w.heap.size w a n cap zs) :
    Calls Try.prog 4 #[.slice a n cap] w fun e w' => e = .returned (.bool true) ∧ Below w.heap.size w w' := by
  have hc := h.2.1
  have hm := h.2.2.1
  unfold maxLen at hm
  by_cases hn : n ≤ 1048576
  · have hd : decide ((1048576 : Int) < (n : Int)) = false := by simp; omega
    have HY : Hid (Byt w.heap.size w a n cap zs) := h
    clear h
    go_enter Try.func4, Try.ntmps4
    go_wp2_with fail
    refine (drawTextNow_any w.heap.size a n cap zs _ HY.out (Nat.le_refl _)).mono ?_
    rintro e w1 ⟨v, l, rfl, ho1, hl1, hb1⟩
    have s1 := hb1.size
    obtain ⟨a1, n1, c1, rfl, hn1⟩ := ho1.shapeL
    have hn25 : n1 ≤ 25 := by omega
    have HL : Hid (n1 = l.length) := hn1
    have HT1 : Hid (Txt w1 a1 n1 c1 l) := ho1.txt
    have hcap := ho1.txt.2.1
    have hcm := ho1.txt.2.2.1
    unfold maxLen at hcm
    clear ho1 hn1
    obtain ⟨S, hS⟩ : ∃ S, strOfNums (pickL noOut l) = S := ⟨_, rfl⟩
    have HS : Hid (strOfNums (pickL noOut l) = S) := hS
    have hSl : S.size ≤ n1 := by rw [← hS, strOfNums_size, HL.out]; exact pickL_len
    have hSl' : (S.size : Int) ≤ (n1 : Int) := by omega
    clear hS
    go_wp2_with fail
    refine (implTextNow_is HT1.out HS.out).mono ?_
    rintro e w2 ⟨rfl, hb2⟩
    have s2 := hb2.size
    go_wp2_with fail
    refine (specTextNow_is (HT1.out.below hb2) HS.out).mono ?_
    rintro e w3 ⟨rfl, hb3⟩
    have s3 := hb3.size
    have HT3 : Hid (Txt w3 a1 n1 c1 l) := (HT1.out.below hb2).below hb3
    have hb03 : Below w.heap.size w w3 := (hb1.trans (hb2.mono (by omega))).trans (hb3.mono (by omega))
    cases htb : textB l
    · have HB : Hid (textB l = false) := htb
      clear htb
      go_wp2_with fail
      refine (specTextOk_is HT3.out HB.out).mono ?_
      rintro e w4 ⟨rfl, hb4⟩
      have s4 := hb4.size
      go_wp2_with fail
      refine (specTextNow_is (HT3.out.below hb4) HS.out).mono ?_
      rintro e w5 ⟨rfl, hb5⟩
      go_wp2_with fail
      go_ret
      exact ⟨rfl, (hb03.trans (hb4.mono (by omega))).trans (hb5.mono (by omega))⟩
    · have HB : Hid (textB l = true) := htb
      clear htb
      have HA : Hid (allTo true l 3 = ofS S.data.toList) := by
        show allTo true l 3 = ofS S.data.toList
        rw [← HS.out, ofS_strOfNums _ pickL_len24 pickL_mem, allTo_take HB.out, fm_plainOut]
        unfold pickL
        rw [HB.out, if_pos rfl]
      go_wp2_with fail
      refine (specTextOk_is HT3.out HB.out).mono ?_
      rintro e w4 ⟨rfl, hb4⟩
      have s4 := hb4.size
      go_wp2_with fail
      refine (lmAll_any true _ _ _ l _ (HT3.out.below hb4)).mono ?_
      rintro e w5 ⟨a5, n5, c5, rfl, ht5, hb5⟩
      have s5 := hb5.size
      have HT5 : Hid (Txt w5 a5 n5 c5 (ofS S.data.toList)) := by have := ht5; rw [HA.out] at this; exact this
      clear ht5
      go_wp2_with fail
      refine (implTextOf_any S _ (by omega)).mono ?_
      rintro e w6 ⟨v, rfl, ho6, hb6⟩
      have s6 := hb6.size
      obtain ⟨a6, c6, rfl, ht6⟩ := ho6.shape
      go_wp2_with fail
      refine (lmSigns_same (HT5.out.below hb6) ht6).mono ?_
      rintro e w7 ⟨rfl, hb7⟩
      go_wp2_with fail
      go_ret
      exact ⟨rfl, (((hb03.trans (hb4.mono (by omega))).trans (hb5.mono (by omega))).trans (hb6.mono (by omega))).trans (hb7.mono (by omega))⟩
  · have hd : decide ((1048576 : Int) < (n : Int)) = true := by simp; omega
    go_enter Try.func4, Try.ntmps4
    go_wp2_with fail
    go_ret
    exact ⟨rfl, Below.refl _ _⟩

set_option maxHeartbeats 2000000 in
theorem fnTextWas_walk (a : Option Addr) (n cap : Nat) (zs : List Int) (w : World) (h : Byt w.heap.size w a n cap zs) :
    Calls Try.prog 5 #[.slice a n cap] w fun e w' => e = .returned (.bool true) ∧ Below w.heap.size w w' := by
  have hc := h.2.1
  have hm := h.2.2.1
  unfold maxLen at hm
  by_cases hn : n ≤ 1048576
  · have hd : decide ((1048576 : Int) < (n : Int)) = false := by simp; omega
    have HY : Hid (Byt w.heap.size w a n cap zs) := h
    clear h
    go_enter Try.func5, Try.ntmps5
    go_wp2_with fail
    refine (drawTextWas_any w.heap.size a n cap zs _ HY.out (Nat.le_refl _)).mono ?_
    rintro e w1 ⟨v, l, rfl, ho1, hl1, hb1⟩
    have s1 := hb1.size
    obtain ⟨a1, n1, c1, rfl, hn1⟩ := ho1.shapeL
    have hn25 : n1 ≤ 25 := by omega
    have HL : Hid (n1 = l.length) := hn1
    have HT1 : Hid (Txt w1 a1 n1 c1 l) := ho1.txt
    have hcap := ho1.txt.2.1
    have hcm := ho1.txt.2.2.1
    unfold maxLen at hcm
    clear ho1 hn1
    obtain ⟨S, hS⟩ : ∃ S, strOfNums (pickL noIn l) = S := ⟨_, rfl⟩
    have HS : Hid (strOfNums (pickL noIn l) = S) := hS
    have hSl : S.size ≤ n1 := by rw [← hS, strOfNums_size, HL.out]; exact pickL_len
    have hSl' : (S.size : Int) ≤ (n1 : Int) := by omega
    clear hS
    go_wp2_with fail
    refine (implTextWas_is HT1.out HS.out).mono ?_
    rintro e w2 ⟨rfl, hb2⟩
    have s2 := hb2.size
    go_wp2_with fail
    refine (specTextWas_is (HT1.out.below hb2) HS.out).mono ?_
    rintro e w3 ⟨rfl, hb3⟩
    have s3 := hb3.size
    have HT3 : Hid (Txt w3 a1 n1 c1 l) := (HT1.out.below hb2).below hb3
    have hb03 : Below w.heap.size w w3 := (hb1.trans (hb2.mono (by omega))).trans (hb3.mono (by omega))
    cases htb : textB l
    · have HB : Hid (textB l = false) := htb
      clear htb
      go_wp2_with fail
      refine (specTextOk_is HT3.out HB.out).mono ?_
      rintro e w4 ⟨rfl, hb4⟩
      have s4 := hb4.size
      go_wp2_with fail
      refine (specTextWas_is (HT3.out.below hb4) HS.out).mono ?_
      rintro e w5 ⟨rfl, hb5⟩
      go_wp2_with fail
      go_ret
      exact ⟨rfl, (hb03.trans (hb4.mono (by omega))).trans (hb5.mono (by omega))⟩
    · have HB : Hid (textB l = true) := htb
      clear htb
      have HA : Hid (allTo false l 3 = ofS S.data.toList) := by
        show allTo false l 3 = ofS S.data.toList
        rw [← HS.out, ofS_strOfNums _ pickL_len24 pickL_mem, allTo_drop HB.out, fm_plainIn]
        unfold pickL
        rw [HB.out, if_pos rfl]
      go_wp2_with fail
      refine (specTextOk_is HT3.out HB.out).mono ?_
      rintro e w4 ⟨rfl, hb4⟩
      have s4 := hb4.size
      go_wp2_with fail
      refine (lmAll_any false _ _ _ l _ (HT3.out.below hb4)).mono ?_
      rintro e w5 ⟨a5, n5, c5, rfl, ht5, hb5⟩
      have s5 := hb5.size
      have HT5 : Hid (Txt w5 a5 n5 c5 (ofS S.data.toList)) := by have := ht5; rw [HA.out] at this; exact this
      clear ht5
      go_wp2_with fail
      refine (implTextOf_any S _ (by omega)).mono ?_
      rintro e w6 ⟨v, rfl, ho6, hb6⟩
      have s6 := hb6.size
      obtain ⟨a6, c6, rfl, ht6⟩ := ho6.shape
      go_wp2_with fail
      refine (lmSigns_same (HT5.out.below hb6) ht6).mono ?_
      rintro e w7 ⟨rfl, hb7⟩
      go_wp2_with fail
      go_ret
      exact ⟨rfl, (((hb03.trans (hb4.mono (by omega))).trans (hb5.mono (by omega))).trans (hb6.mono (by omega))).trans (hb7.mono (by omega))⟩
  · have hd : decide ((1048576 : Int) < (n : Int)) = true := by simp; omega
    go_enter Try.func5, Try.ntmps5
    go_wp2_with fail
    go_ret
    exact ⟨rfl, Below.refl _ _⟩

end Go.Proofs.Ytmemhmndfcdmbaa
