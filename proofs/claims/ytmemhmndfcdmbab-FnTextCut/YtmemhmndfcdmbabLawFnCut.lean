import Derived.Test.YtmemhmndfcdmbabPiece
import Derived.Test.YtmemhmndfcdmbabDrawNow
import Derived.Test.YtmemhmndfcdmbabSpecTextNow
import Derived.Deep.RegionWith
import Derived.Deep.RegionHeld3
namespace Go.Proofs.Ytmemhmndfcdmbab
open Go.RowKit

theorem pickL_cut {q : Sg → Bool} {l : List Sg} (h : textB l = true) (k : Nat) : pickL q (l.take k) ++ pickL q (l.drop k) = pickL q l := by
  unfold pickL
  rw [h, textB_take h, textB_drop h, if_pos rfl, if_pos rfl, if_pos rfl]
  unfold bytesOf
  rw [← List.map_append, ← List.filter_append, List.take_append_drop]
theorem strOfNums_append (a b : List Int) : strOfNums a ++ strOfNums b = strOfNums (a ++ b) := by
  apply ByteArray.ext
  simp [strOfNums, ByteArray.data_append]
theorem pickL_len' {q : Sg → Bool} {l : List Sg} : (pickL q l).length ≤ l.length := by
  unfold pickL
  cases h : textB l
  · simp
  · rw [if_pos rfl]
    unfold bytesOf
    rw [List.length_map]
    exact List.length_filter_le _ _

theorem Txt.drew {w : World} {a : Option Addr} {n cap : Nat} {l : List Sg} (h : Txt w a n cap l) : Txt w.drew a n cap l := h.below ((Below.refl w.heap.size w).drew)

set_option maxHeartbeats 1000000 in
theorem fnTextCut_walk (a : Option Addr) (n cap : Nat) (zs : List Int) (b : Option Addr) (m cap' : Nat) (ys : List Int) (w : World) (h : Byt w.heap.size w a n cap zs) (h' : Byt w.heap.size w b m cap' ys) :
    Calls Try.prog 4 #[.slice a n cap, .slice b m cap'] w fun e w' => e = .returned (.bool true) ∧ Below w.heap.size w w' := by
  have hc := h.2.1
  have hm := h.2.2.1
  have hc' := h'.2.1
  have hm' := h'.2.2.1
  unfold maxLen at hm hm'
  have HY : Hid (Byt w.heap.size w a n cap zs) := h
  clear h h'
  by_cases hn : n ≤ 1048576
  · have hd : decide ((1048576 : Int) < (n : Int)) = false := by simp; omega
    by_cases hn' : m ≤ 1048576
    · have hd' : decide ((1048576 : Int) < (m : Int)) = false := by simp; omega
      go_enter Try.func4, Try.ntmps4
      go_wp2_with fail
      refine (drawTextNow_any w.heap.size a n cap zs _ HY.out (Nat.le_refl _)).mono ?_
      rintro e w1 ⟨v, l, rfl, ho1, hl1, hb1⟩
      have s1 := hb1.size
      obtain ⟨a1, n1, c1, rfl, hn1⟩ := ho1.shapeL
      have hn25 : n1 ≤ 25 := by omega
      have HL : Hid (n1 = l.length) := hn1
      have HT1 : Hid (Txt w1 a1 n1 c1 l) := ho1.txt
      have hcap := ho1.txt.2.1
      have hcm := ho1.txt.2.2.1
      unfold maxLen at hcm
      clear ho1 hn1
      obtain ⟨S, hS⟩ : ∃ S, strOfNums (pickL noOut l) = S := ⟨_, rfl⟩
      have HS : Hid (strOfNums (pickL noOut l) = S) := hS
      clear hS
      cases htb : textB l
      · have HB : Hid (textB l = false) := htb
        clear htb
        go_wp2_with fail
        refine (implTextNow_is HT1.out HS.out).mono ?_
        rintro e w2 ⟨rfl, hb2⟩
        have s2 := hb2.size
        go_wp2_with fail
        refine (specTextNow_is (HT1.out.below hb2) HS.out).mono ?_
        rintro e w3 ⟨rfl, hb3⟩
        have s3 := hb3.size
        go_wp2_with fail
        refine (specTextOk_is ((HT1.out.below hb2).below hb3) HB.out).mono ?_
        rintro e w4 ⟨rfl, hb4⟩
        have s4 := hb4.size
        go_wp2_with fail
        refine (specTextNow_is (((HT1.out.below hb2).below hb3).below hb4) HS.out).mono ?_
        rintro e w5 ⟨rfl, hb5⟩
        go_wp2_with fail
        go_ret
        exact ⟨rfl, (((hb1.trans (hb2.mono (by omega))).trans (hb3.mono (by omega))).trans (hb4.mono (by omega))).trans (hb5.mono (by omega))⟩
      · have HB : Hid (textB l = true) := htb
        clear htb
        go_wp2_with fail
        refine (implTextNow_is HT1.out HS.out).mono ?_
        rintro e w2 ⟨rfl, hb2⟩
        have s2 := hb2.size
        go_wp2_with fail
        refine (specTextNow_is (HT1.out.below hb2) HS.out).mono ?_
        rintro e w3 ⟨rfl, hb3⟩
        have s3 := hb3.size
        go_wp2_with fail
        refine (specTextOk_is ((HT1.out.below hb2).below hb3) HB.out).mono ?_
        rintro e w4 ⟨rfl, hb4⟩
        have s4 := hb4.size
        have HT4 : Hid (Txt w4 a1 n1 c1 l) := ((HT1.out.below hb2).below hb3).below hb4
        have HB4 : Hid (Below w.heap.size w w4) := ((hb1.trans (hb2.mono (by omega))).trans (hb3.mono (by omega))).trans (hb4.mono (by omega))
        have hk : m % (n1 + 1) ≤ n1 := by have := Nat.mod_lt m (show 0 < n1 + 1 by omega); omega
        have hKe : (m : Int) % ((n1 : Int) + 1) = ((m % (n1 + 1) : Nat) : Int) := by simp
        obtain ⟨K, hKK⟩ : ∃ K, K = m % (n1 + 1) := ⟨_, rfl⟩
        rw [← hKK] at hk hKe
        clear hKK
        have HKe : Hid ((m : Int) % ((n1 : Int) + 1) = (K : Int)) := hKe
        clear hKe
        obtain ⟨S1, hS1⟩ : ∃ S, strOfNums (pickL noOut (l.take K)) = S := ⟨_, rfl⟩
        obtain ⟨S2, hS2⟩ : ∃ S, strOfNums (pickL noOut (l.drop K)) = S := ⟨_, rfl⟩
        obtain ⟨U, hU⟩ : ∃ S, strOfNums (pickL noIn l) = S := ⟨_, rfl⟩
        obtain ⟨U1, hU1⟩ : ∃ S, strOfNums (pickL noIn (l.take K)) = S := ⟨_, rfl⟩
        obtain ⟨U2, hU2⟩ : ∃ S, strOfNums (pickL noIn (l.drop K)) = S := ⟨_, rfl⟩
        have hcat : S1 ++ S2 = S := by rw [← hS1, ← hS2, ← HS.out, strOfNums_append, pickL_cut HB.out]
        have hcatU : U1 ++ U2 = U := by rw [← hU1, ← hU2, ← hU, strOfNums_append, pickL_cut HB.out]
        have z1 : S1.size ≤ 25 := by rw [← hS1, strOfNums_size]; refine Nat.le_trans pickL_len' ?_; simp; omega
        have z2 : S2.size ≤ 25 := by rw [← hS2, strOfNums_size]; refine Nat.le_trans pickL_len' ?_; simp; omega
        have z3 : U1.size ≤ 25 := by rw [← hU1, strOfNums_size]; refine Nat.le_trans pickL_len' ?_; simp; omega
        have z4 : U2.size ≤ 25 := by rw [← hU2, strOfNums_size]; refine Nat.le_trans pickL_len' ?_; simp; omega
        have HS1 : Hid (strOfNums (pickL noOut (l.take K)) = S1) := hS1
        have HS2 : Hid (strOfNums (pickL noOut (l.drop K)) = S2) := hS2
        have HU : Hid (strOfNums (pickL noIn l) = U) := hU
        have HU1 : Hid (strOfNums (pickL noIn (l.take K)) = U1) := hU1
        have HU2 : Hid (strOfNums (pickL noIn (l.drop K)) = U2) := hU2
        clear hS1 hS2 hU hU1 hU2
        have i0 : (0 : Int) ≤ (K : Int) := by omega
        have i1 : (K : Int) ≤ (n1 : Int) := by omega
        have i2 : (K : Int) ≤ (c1 : Int) := by omega
        have HTk : Hid (Txt w4 a1 K c1 (l.take K)) := HT4.out.take _ hk
        have t1 : ¬ 9223372036854775807 < S1.size + S2.size := by omega
        have t2 : ¬ 9223372036854775807 < U1.size + U2.size := by omega
        by_cases hcc : K = c1
        · subst hcc
          have HTd : Hid (Txt w4 a1 0 0 (l.drop K)) := by have e := HT4.out.dropEnd; rw [show n1 - K = 0 by omega] at e; exact e
          go_wp2_with fail
          rw [HKe.out]
          go_region_held3 (fun _ => True) (first | trivial | go_keep)
            ((first
              | (go_at_call_of 12 (Value.slice a1 K K); refine (implTextNow_is HTk.out.drew HS1.out).mono ?_; rintro e w5 ⟨rfl, hb5⟩)
              | (go_at_call 12; refine (implTextNow_is (HTd.out.drew.below hb5) HS2.out).mono ?_; rintro e w6 ⟨rfl, hb6⟩)
              | (go_at_call_of 13 (Value.slice a1 K K); refine (implTextWas_is ((HTk.out.drew.below hb5).below hb6) HU1.out).mono ?_; rintro e w7 ⟨rfl, hb7⟩)
              | (go_at_call_of 13 (Value.slice a1 n1 K); refine (implTextWas_is ((((HT4.out.drew.below hb5).below hb6).below hb7).below hb8) HU.out).mono ?_; rintro e w9 ⟨rfl, hb9⟩)
              | (go_at_call 13; refine (implTextWas_is (((HTd.out.drew.below hb5).below hb6).below hb7) HU2.out).mono ?_; rintro e w8 ⟨rfl, hb8⟩)))
          have s5 := hb5.size
          have s6 := hb6.size
          have s7 := hb7.size
          have s8 := hb8.size
          simp only [World.size_drew] at s5
          go_wp2_with fail
          go_ret
          exact ⟨rfl, ((((HB4.out.drew.trans (hb5.mono (by simp only [World.size_drew]; omega))).trans (hb6.mono (by omega))).trans (hb7.mono (by omega))).trans (hb8.mono (by omega))).trans (hb9.mono (by omega))⟩
        · have HTd : Hid (Txt w4 (Option.map (fun x => x.add (K * 3)) a1) (n1 - K) (c1 - K) (l.drop K)) := HT4.out.drop _ hk
          go_wp2_with fail
          rw [HKe.out]
          go_region_held3 (fun _ => True) (first | trivial | go_keep)
            ((first
              | (go_at_call_of 12 (Value.slice a1 K c1); refine (implTextNow_is HTk.out.drew HS1.out).mono ?_; rintro e w5 ⟨rfl, hb5⟩)
              | (go_at_call 12; refine (implTextNow_is (HTd.out.drew.below hb5) HS2.out).mono ?_; rintro e w6 ⟨rfl, hb6⟩)
              | (go_at_call_of 13 (Value.slice a1 K c1); refine (implTextWas_is ((HTk.out.drew.below hb5).below hb6) HU1.out).mono ?_; rintro e w7 ⟨rfl, hb7⟩)
              | (go_at_call_of 13 (Value.slice a1 n1 c1); refine (implTextWas_is ((((HT4.out.drew.below hb5).below hb6).below hb7).below hb8) HU.out).mono ?_; rintro e w9 ⟨rfl, hb9⟩)
              | (go_at_call 13; refine (implTextWas_is (((HTd.out.drew.below hb5).below hb6).below hb7) HU2.out).mono ?_; rintro e w8 ⟨rfl, hb8⟩)))
          have s5 := hb5.size
          have s6 := hb6.size
          have s7 := hb7.size
          have s8 := hb8.size
          simp only [World.size_drew] at s5
          go_wp2_with fail
          go_ret
          exact ⟨rfl, ((((HB4.out.drew.trans (hb5.mono (by simp only [World.size_drew]; omega))).trans (hb6.mono (by omega))).trans (hb7.mono (by omega))).trans (hb8.mono (by omega))).trans (hb9.mono (by omega))⟩
    · have hd' : decide ((1048576 : Int) < (m : Int)) = true := by simp; omega
      go_enter Try.func4, Try.ntmps4
      go_wp2_with fail
      go_ret
      exact ⟨rfl, Below.refl _ _⟩
  · have hd : decide ((1048576 : Int) < (n : Int)) = true := by simp; omega
    go_enter Try.func4, Try.ntmps4
    go_wp2_with fail
    go_ret
    exact ⟨rfl, Below.refl _ _⟩
end Go.Proofs.Ytmemhmndfcdmbab
