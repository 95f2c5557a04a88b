import Derived.Test.YtmemhmndfcdmbaoDrawA
namespace Go.Proofs.Ytmemhmndfcdmbao
open Go.RowKit

set_option maxHeartbeats 1000000 in
theorem drawTextOk_any (B : Nat) (a : Option Addr) (n cap : Nat) (zs : List Int) (w : World) (h : Byt B w a n cap zs) (hB : B ≤ w.heap.size) :
    Calls Try.prog 10 #[.slice a n cap] w fun e w' => ∃ (v : Value) (l : List Sg), e = .returned v ∧ Own w' w.heap.size v l ∧ l.length ≤ 25 ∧ Below w.heap.size w w' := by
  go_enter Try.func10, Try.ntmps10
  go_wp2_with fail
  refine (l6Open_any B a n cap zs _ h hB).mono ?_
  rintro e w0 ⟨rfl, hr0, hb0⟩
  have s0 := hb0.size
  have hlt0 := hr0.lt
  have HR0 : Hid (Rd B w0 w.heap.size 0) := hr0
  clear hr0
  go_wp2_with fail
  refine (l71Text_any B w.heap.size 0 8 _ HR0.out (by omega) (by omega)).mono ?_
  rintro e w1 ⟨v, l, q, rfl, ho1, hl1, hr1, hq1, hf1⟩
  obtain ⟨a1, n1, c1, rfl, hn1⟩ := ho1.shapeL
  have HN : Hid (n1 = l.length) := hn1
  have hn8 : n1 ≤ 8 := by omega
  have HO1 : Hid (Own w1 w0.heap.size (.slice a1 n1 c1) l) := ho1
  have HR1 : Hid (Rd B w1 w.heap.size q) := hr1
  have s1 := hf1.size
  clear hn1 ho1 hr1
  go_wp2_with fail
  refine (pick_any B w.heap.size q 2 _ HR1.out (by omega) (by omega) (by omega)).mono ?_
  rintro e w2 ⟨x, rfl, hx0, hx1, hr2, hg2⟩
  have s2 := hg2.size
  have hf2 : Fr w1.heap.size w.heap.size w1 w2 := (Fr.refl _ _ w1).grown hg2 (Nat.le_refl _)
  have HO2 : Hid (Own w2 w0.heap.size (.slice a1 n1 c1) l) := HO1.out.fr hf2 hlt0
  have HR2 : Hid (Rd B w2 w.heap.size (q + 1)) := hr2
  clear hr2
  by_cases h0 : x = 0
  · subst h0
    go_wp2_with fail
    refine (l71Bad_any B w.heap.size (q + 1) w0.heap.size a1 n1 c1 l _ HR2.out (by omega) HO2.out hlt0 (by omega) (by omega)).mono ?_
    rintro e w3 ⟨v, l', q', rfl, ho3, hl3, hr3, hq3, hf3⟩
    obtain ⟨a3, n3, c3, rfl, hn3⟩ := ho3.shapeL
    have HO3 : Hid (Own w3 w.heap.size (.slice a3 n3 c3) l') := Own.base ho3 s0
    clear ho3 hn3
    go_wp2_with fail
    go_ret
    exact ⟨_, l', rfl, HO3.out, hl3, below_of_fr hb0 ((hf1.trans (hf2.mono s1)).trans hf3)⟩
  · have g0 : (x == 0) = false := by simp; omega
    go_wp2_with fail
    go_ret
    exact ⟨_, l, rfl, Own.base HO2.out s0, by omega, below_of_fr hb0 (hf1.trans (hf2.mono s1))⟩
end Go.Proofs.Ytmemhmndfcdmbao
