import Derived.Test.YtmemhmndfcdmbabDrawA
namespace Go.Proofs.Ytmemhmndfcdmbab
open Go.RowKit

set_option maxHeartbeats 400000 in
theorem drawTextBy_any (B : Nat) (a : Option Addr) (n cap : Nat) (zs : List Int) (w : World) (h : Byt B w a n cap zs) (hB : B ≤ w.heap.size) :
    Calls Try.prog 6 #[.slice a n cap] w fun e w' => ∃ (v : Value) (l : List Sg), e = .returned v ∧ Own w' w.heap.size v l ∧ l.length ≤ 25 ∧ Below w.heap.size w w' := by
  go_enter Try.func6, Try.ntmps6
  go_wp2_with fail
  refine (l6Open_any B a n cap zs _ h hB).mono ?_
  rintro e w1 ⟨rfl, hr1, hb1⟩
  have s1 := hb1.size
  go_wp2_with fail
  refine (l71Any_any B _ 0 _ hr1 (by omega)).mono ?_
  rintro e w2 ⟨v, l, q, rfl, ho2, hl2, hr2, hq2, hf2⟩
  obtain ⟨a2, n2, c2, rfl, hn2⟩ := ho2.shapeL
  have HO : Hid (Own w2 w.heap.size (.slice a2 n2 c2) l) := Own.base ho2 s1
  clear ho2 hn2 hr2
  go_wp2_with fail
  go_ret
  exact ⟨_, l, rfl, HO.out, hl2, below_of_fr hb1 hf2⟩
end Go.Proofs.Ytmemhmndfcdmbab
