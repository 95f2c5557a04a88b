import Derived.Test.YtmemhmndfcdmbabDrawB
namespace Go.Proofs.Ytmemhmndfcdmbab
open Go.RowKit

theorem Own.shapeL {w : World} {B : Nat} {v : Value} {l : List Sg} (h : Own w B v l) : ∃ a n cap, v = .slice a n cap ∧ n = l.length := by
  obtain ⟨a, cap, rfl, _⟩ := h.shape
  exact ⟨a, _, cap, rfl, rfl⟩

set_option maxHeartbeats 1000000 in
theorem l71Any_any (B g p : Nat) (w : World) (h : Rd B w g p) (hp : p ≤ 5000) :
    Calls Try.prog 18 #[.pointer (some ⟨g, 0, none⟩)] w fun e w' => ∃ (v : Value) (l : List Sg) (q : Nat), e = .returned v ∧ Own w' w.heap.size v l ∧ l.length ≤ 25 ∧ Rd B w' g q ∧ q ≤ p + 100 ∧ Fr w.heap.size g w w' := by
  have hlt := h.lt
  have HR : Hid (Rd B w g p) := h
  clear h
  go_enter Try.func18, Try.ntmps18
  go_wp2_with fail
  refine (l71Text_any B g p 8 _ HR.out (by omega) (by omega)).mono ?_
  rintro e w1 ⟨v, l, q, rfl, ho1, hl1, hr1, hq1, hf1⟩
  obtain ⟨a1, n1, c1, rfl, hn1⟩ := ho1.shapeL
  have HN : Hid (n1 = l.length) := hn1
  have hn8 : n1 ≤ 8 := by omega
  have HO1 : Hid (Own w1 w.heap.size (.slice a1 n1 c1) l) := ho1
  have HR1 : Hid (Rd B w1 g q) := hr1
  have s1 := hf1.size
  clear hn1 ho1 hr1
  go_wp2_with fail
  refine (pick_any B g q 6 _ HR1.out (by omega) (by omega) (by omega)).mono ?_
  rintro e w2 ⟨x, rfl, hx0, hx1, hr2, hg2⟩
  have s2 := hg2.size
  have hf2 : Fr w1.heap.size g w1 w2 := (Fr.refl _ _ w1).grown hg2 (Nat.le_refl _)
  have HO2 : Hid (Own w2 w.heap.size (.slice a1 n1 c1) l) := HO1.out.fr hf2 hlt
  have HR2 : Hid (Rd B w2 g (q + 1)) := hr2
  clear hr2
  by_cases h0 : x = 0
  · subst h0
    go_wp2_with fail
    refine (l71Bad_any B g (q + 1) w.heap.size a1 n1 c1 l _ HR2.out (by omega) HO2.out hlt (by omega) (by omega)).mono ?_
    rintro e w3 ⟨v, l', q', rfl, ho3, hl3, hr3, hq3, hf3⟩
    obtain ⟨a3, n3, c3, rfl, hn3⟩ := ho3.shapeL
    have HO3 : Hid (Own w3 w.heap.size (.slice a3 n3 c3) l') := ho3
    clear ho3 hn3
    go_wp2_with fail
    go_ret
    exact ⟨_, l', q', rfl, HO3.out, hl3, hr3, by omega, (hf1.trans (hf2.mono s1)).trans hf3⟩
  · have g0 : (x == 0) = false := by simp; omega
    go_wp2_with fail
    go_ret
    exact ⟨_, l, q + 1, rfl, HO2.out, by omega, HR2.out, by omega, hf1.trans (hf2.mono s1)⟩

/-- From a reader of one's own to what was there. -/
theorem below_of_fr {w w1 w2 : World} (hb : Below w.heap.size w w1) (hf : Fr w1.heap.size w.heap.size w1 w2) : Below w.heap.size w w2 :=
  hb.trans ⟨hf.os, hf.tape, hf.output, hf.size, fun k hk => hf.block k (Nat.lt_of_lt_of_le hk hb.size) (by omega)⟩
end Go.Proofs.Ytmemhmndfcdmbab
