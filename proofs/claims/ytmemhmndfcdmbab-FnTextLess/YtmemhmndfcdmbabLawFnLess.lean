import Derived.Test.YtmemhmndfcdmbabDrawOk
namespace Go.Proofs.Ytmemhmndfcdmbab
open Go.RowKit

theorem SignsAt.drop {w : World} {b off : Nat} {l : List Sg} (h : SignsAt w b off l) (k : Nat) : SignsAt w b (off + k * 3) (l.drop k) := by
  intro j hj
  have hj' : k + j < l.length := by simp at hj; omega
  have e : (l.drop k).getD j (0, 0, 0) = l.getD (k + j) (0, 0, 0) := by simp [List.getD]
  rw [e]
  have := h (k + j) hj'
  rw [show off + (k + j) * 3 = off + k * 3 + j * 3 by omega] at this
  exact this
theorem SignsAt.take {w : World} {b off : Nat} {l : List Sg} (h : SignsAt w b off l) (k : Nat) : SignsAt w b off (l.take k) := by
  intro j hj
  have hj' : j < l.length := by simp at hj; omega
  have hjk : j < k := by simp at hj; omega
  have e : (l.take k).getD j (0, 0, 0) = l.getD j (0, 0, 0) := by simp [List.getD, hjk]
  rw [e]
  exact h j hj'
theorem Txt.take {w : World} {a : Option Addr} {n cap : Nat} {l : List Sg} (h : Txt w a n cap l) (k : Nat) (hk : k ≤ n) : Txt w a k cap (l.take k) := by
  obtain ⟨h1, h2, h3, h4⟩ := h
  refine ⟨by simp; omega, by omega, h3, ?_⟩
  rcases h4 with rfl | ⟨b, off, h5, h6, h7⟩
  · exact .inl (by simp)
  · exact .inr ⟨b, off, h5, h6, h7.take k⟩
theorem Txt.drop {w : World} {a : Option Addr} {n cap : Nat} {l : List Sg} (h : Txt w a n cap l) (k : Nat) (hk : k ≤ n) : Txt w (Option.map (fun x => x.add (k * 3)) a) (n - k) (cap - k) (l.drop k) := by
  obtain ⟨h1, h2, h3, h4⟩ := h
  refine ⟨by simp; omega, by omega, by unfold maxLen at *; omega, ?_⟩
  rcases h4 with rfl | ⟨b, off, rfl, h6, h7⟩
  · exact .inl (by simp)
  · exact .inr ⟨b, off + k * 3, by simp [Addr.add_lit], h6, h7.drop k⟩
theorem Txt.dropEnd {w : World} {a : Option Addr} {n k : Nat} {l : List Sg} (h : Txt w a n k l) : Txt w a (n - k) 0 (l.drop k) := by
  obtain ⟨h1, h2, h3, h4⟩ := h
  have e : l.drop k = [] := List.drop_of_length_le (by omega)
  rw [e]
  exact ⟨by simp; omega, by omega, Nat.zero_le _, .inl rfl⟩
theorem textB_take {l : List Sg} (h : textB l = true) (k : Nat) : textB (l.take k) = true := by
  simp only [textB, Bool.and_eq_true, decide_eq_true_eq, List.all_eq_true] at h ⊢
  exact ⟨by have := h.1; simp; omega, fun s hs => h.2 s (List.mem_of_mem_take hs)⟩
theorem textB_drop {l : List Sg} (h : textB l = true) (k : Nat) : textB (l.drop k) = true := by
  simp only [textB, Bool.and_eq_true, decide_eq_true_eq, List.all_eq_true] at h ⊢
  exact ⟨by have := h.1; simp; omega, fun s hs => h.2 s (List.mem_of_mem_drop hs)⟩

set_option maxHeartbeats 400000 in
theorem fnTextLess_walk (a : Option Addr) (n cap : Nat) (zs : List Int) (b : Option Addr) (m cap' : Nat) (ys : List Int) (w : World) (h : Byt w.heap.size w a n cap zs) (h' : Byt w.heap.size w b m cap' ys) :
    Calls Try.prog 5 #[.slice a n cap, .slice b m cap'] w fun e w' => e = .returned (.bool true) ∧ Below w.heap.size w w' := by
  have hc := h.2.1
  have hm := h.2.2.1
  have hc' := h'.2.1
  have hm' := h'.2.2.1
  unfold maxLen at hm hm'
  have HY : Hid (Byt w.heap.size w a n cap zs) := h
  clear h h'
  by_cases hn : n ≤ 1048576
  · have hd : decide ((1048576 : Int) < (n : Int)) = false := by simp; omega
    by_cases hn' : m ≤ 1048576
    · have hd' : decide ((1048576 : Int) < (m : Int)) = false := by simp; omega
      go_enter Try.func5, Try.ntmps5
      go_wp2_with fail
      refine (drawTextOk_any w.heap.size a n cap zs _ HY.out (Nat.le_refl _)).mono ?_
      rintro e w1 ⟨v, l, rfl, ho1, hl1, hb1⟩
      have s1 := hb1.size
      obtain ⟨a1, n1, c1, rfl, hn1⟩ := ho1.shapeL
      have hn25 : n1 ≤ 25 := by omega
      have HL : Hid (n1 = l.length) := hn1
      have HT1 : Hid (Txt w1 a1 n1 c1 l) := ho1.txt
      have hcap := ho1.txt.2.1
      have hcm := ho1.txt.2.2.1
      unfold maxLen at hcm
      clear ho1 hn1
      cases htb : textB l
      · have HB : Hid (textB l = false) := htb
        clear htb
        go_wp2_with fail
        refine (implTextOk_is HT1.out HB.out).mono ?_
        rintro e w2 ⟨rfl, hb2⟩
        have s2 := hb2.size
        go_wp2_with fail
        refine (specTextOk_is (HT1.out.below hb2) HB.out).mono ?_
        rintro e w3 ⟨rfl, hb3⟩
        have s3 := hb3.size
        go_wp2_with fail
        refine (specTextOk_is ((HT1.out.below hb2).below hb3) HB.out).mono ?_
        rintro e w4 ⟨rfl, hb4⟩
        go_wp2_with fail
        go_ret
        exact ⟨rfl, ((hb1.trans (hb2.mono (by omega))).trans (hb3.mono (by omega))).trans (hb4.mono (by omega))⟩
      · have HB : Hid (textB l = true) := htb
        clear htb
        go_wp2_with fail
        refine (implTextOk_is HT1.out HB.out).mono ?_
        rintro e w2 ⟨rfl, hb2⟩
        have s2 := hb2.size
        go_wp2_with fail
        refine (specTextOk_is (HT1.out.below hb2) HB.out).mono ?_
        rintro e w3 ⟨rfl, hb3⟩
        have s3 := hb3.size
        have HT3 : Hid (Txt w3 a1 n1 c1 l) := (HT1.out.below hb2).below hb3
        have q1 : 0 ≤ (m : Int) % ((n1 : Int) + 1) := Int.emod_nonneg _ (by omega)
        have q2 : (m : Int) % ((n1 : Int) + 1) < (n1 : Int) + 1 := Int.emod_lt_of_pos _ (by omega)
        have hk : m % (n1 + 1) ≤ n1 := by have := Nat.mod_lt m (show 0 < n1 + 1 by omega); omega
        go_wp2_with fail
        refine (implTextOk_is (HT3.out.take (m % (n1 + 1)) hk) (textB_take HB.out _)).mono ?_
        rintro e w4 ⟨rfl, hb4⟩
        have s4 := hb4.size
        have HB4 : Hid (Below w.heap.size w w4) := ((hb1.trans (hb2.mono (by omega))).trans (hb3.mono (by omega))).trans (hb4.mono (by omega))
        go_wp2_with fail
        case inl =>
          have hcc : c1 = m % (n1 + 1) := by first | assumption | omega
          have HD : Txt w4 a1 (n1 - m % (n1 + 1)) 0 (l.drop (m % (n1 + 1))) := by have e := HT3.out.below hb4; rw [hcc] at e; exact e.dropEnd
          refine (implTextOk_is HD (textB_drop HB.out _)).mono ?_
          rintro e w5 ⟨rfl, hb5⟩
          go_wp2_with fail
          go_ret
          exact ⟨rfl, HB4.out.trans (hb5.mono (by omega))⟩
        case inr =>
          refine (implTextOk_is ((HT3.out.below hb4).drop _ hk) (textB_drop HB.out _)).mono ?_
          rintro e w5 ⟨rfl, hb5⟩
          go_wp2_with fail
          go_ret
          exact ⟨rfl, HB4.out.trans (hb5.mono (by omega))⟩
    · have hd' : decide ((1048576 : Int) < (m : Int)) = true := by simp; omega
      go_enter Try.func5, Try.ntmps5
      go_wp2_with fail
      go_ret
      exact ⟨rfl, Below.refl _ _⟩
  · have hd : decide ((1048576 : Int) < (n : Int)) = true := by simp; omega
    go_enter Try.func5, Try.ntmps5
    go_wp2_with fail
    go_ret
    exact ⟨rfl, Below.refl _ _⟩
end Go.Proofs.Ytmemhmndfcdmbab
