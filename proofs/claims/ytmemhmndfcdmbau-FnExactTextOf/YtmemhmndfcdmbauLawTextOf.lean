import Derived.Test.YtmemhmndfcdmbauMark
namespace Go.Proofs.Ytmemhmndfcdmbau
open Go.RowKit

theorem ofS_le (s : ByteArray) : (ofS s.data.toList).length ≤ 24 := by
  unfold ofS
  cases h : textB (ofL s.data.toList)
  · simp
  · simp [textB] at h
    simpa using h.1

theorem eqSignS_same (a : Option Addr) (n cap : Nat) (l : List Sg) (a' : Option Addr) (n' cap' : Nat) (w : World) (h : Txt w a n cap l) (h' : Txt w a' n' cap' l) :
    Calls Try.prog 22 #[.slice a n cap, .slice a' n' cap'] w fun e w' => e = .returned (.bool true) ∧ Below w.heap.size w w' := by
  have := eqSignS_any a n cap l a' n' cap' l w h h'
  rwa [decide_eq_true (rfl : l = l)] at this

set_option maxHeartbeats 2000000 in
theorem lawTextOf_walk (s : ByteArray) (w : World) (hsm : s.size ≤ maxLen) :
    Calls Try.prog 6 #[.string s] w fun e w' => e = .returned (.bool true) ∧ Below w.heap.size w w' := by
  have hs : s.size ≤ 9223372036854775807 := by unfold maxLen at hsm; omega
  clear hsm
  by_cases hn : s.size ≤ 1048576
  · obtain ⟨L, hL⟩ : ∃ L, L = ofS s.data.toList := ⟨_, rfl⟩
    have hLe : L.length ≤ 24 := by rw [hL]; exact ofS_le s
    have c1 := fun w => specTextOf_any s w hs
    have c2 := fun w => implTextOf_any s w hs
    rw [← hL] at c1 c2
    have C1 : Hid (∀ (w : World), Calls Try.prog 23 #[.string s] w fun e w' => ∃ v, e = .returned v ∧ Own w' w.heap.size v L ∧ Below w.heap.size w w') := c1
    have C2 : Hid (∀ (w : World), Calls Try.prog 24 #[.string s] w fun e w' => ∃ v, e = .returned v ∧ Own w' w.heap.size v L ∧ Below w.heap.size w w') := c2
    clear c1 c2 hL
    have hn' : decide ((1048576 : Int) < (s.size : Int)) = false := by simp; omega
    go_enter Try.func6, Try.ntmps6
    go_wp2_with fail
    refine (C1.out _).mono ?_
    rintro e w1 ⟨v, rfl, ho1, hb1⟩
    obtain ⟨a1, p1, rfl, ht1⟩ := ho1.shape
    go_wp2_with fail
    refine (C2.out _).mono ?_
    rintro e w2 ⟨v, rfl, ho2, hb2⟩
    obtain ⟨a2, p2, rfl, ht2⟩ := ho2.shape
    go_wp2_with fail
    refine (eqSignS_same _ _ _ L _ _ _ _ ht2 (ht1.below hb2)).mono ?_
    rintro e w3 ⟨rfl, hb3⟩
    go_wp2_with fail
    refine (markSignS_any _ _ _ L 1 _ _ (ho2.below hb3) (by omega) (by omega) (by omega)).mono ?_
    rintro e w4 ⟨rfl, ho4, hg4⟩
    have s1 := hb1.size
    have s2 := hb2.size
    have s3 := hb3.size
    have hb4 : Below w1.heap.size w1 w4 := (hb2.trans (hb3.mono s2)).grown hg4 (by omega) (fun k hk => ((ho2.below hb3).row.lt k hk).1)
    have s4 := hb4.size
    have s4' := hg4.size
    go_wp2_with fail
    refine (heldSignS_any _ _ _ 1 _ ho4.txt (by omega) (by omega) (by omega)).mono ?_
    rintro e w5 ⟨rfl, rfl⟩
    go_wp2_with fail
    refine (C2.out _).mono ?_
    rintro e w6 ⟨v, rfl, ho6, hb6⟩
    obtain ⟨a6, p6, rfl, ht6⟩ := ho6.shape
    have s6 := hb6.size
    go_wp2_with fail
    refine (eqSignS_same _ _ _ L _ _ _ _ ht6 (ht1.below (hb4.trans (hb6.mono (by omega))))).mono ?_
    rintro e w7 ⟨rfl, hb7⟩
    have s7 := hb7.size
    go_wp2_with fail
    refine (heldSignS_any _ _ _ 1 _ ((ho4.below hb6).below hb7).txt (by omega) (by omega) (by omega)).mono ?_
    rintro e w8 ⟨rfl, rfl⟩
    go_wp2_with fail
    go_ret
    exact ⟨rfl, ((hb1.trans (hb4.mono (by omega))).trans (hb6.mono (by omega))).trans (hb7.mono (by omega))⟩
  · have hn' : decide ((1048576 : Int) < (s.size : Int)) = true := by simp; omega
    go_enter Try.func6, Try.ntmps6
    go_wp2_with fail
    go_ret
    exact ⟨rfl, Below.refl _ _⟩
end Go.Proofs.Ytmemhmndfcdmbau
