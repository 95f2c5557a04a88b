import Derived.Test.YtmemhmndfcdmbauExact
namespace Go.Proofs.Ytmemhmndfcdmbau
open Go.RowKit

theorem szSignS_is (a : Option Addr) (n cap : Nat) (w : World) (hn : n ≤ cap) (hc : cap ≤ maxLen) {x : Int} (h : (if n ≤ 1048576 then 1048576 - (n : Int) else -1) = x) :
    Calls Try.prog 18 #[.slice a n cap, .int .i64 1048576] w fun e w' => e = .returned (.int .i64 x) ∧ w' = w := h ▸ szSignS_any a n cap w hn hc

set_option maxHeartbeats 1000000 in
theorem lawTextOk_walk (a : Option Addr) (n cap : Nat) (l : List Sg) (w : World) (h : Txt w a n cap l) :
    Calls Try.prog 5 #[.slice a n cap] w fun e w' => e = .returned (.bool true) ∧ Below w.heap.size w w' := by
  by_cases hn : n ≤ 1048576
  · go_enter Try.func5, Try.ntmps5
    go_wp2_with fail
    refine (szSignS_is a n cap _ h.2.1 h.2.2.1 (x := 1048576 - (n : Int)) (by rw [if_pos hn])).mono ?_
    rintro e w1 ⟨rfl, rfl⟩
    go_wp2_with fail
    refine (toSignS_any a n cap l _ h hn).mono ?_
    rintro e w1 ⟨rfl, ho1, hb1⟩
    go_wp2_with fail
    refine (specTextOk_any _ _ _ l _ (txt_of_own ho1)).mono ?_
    rintro e w2 ⟨rfl, hb2⟩
    go_wp2_with fail
    refine (toSignS_any a n cap l _ ((h.below hb1).below hb2) hn).mono ?_
    rintro e w3 ⟨rfl, ho3, hb3⟩
    go_wp2_with fail
    refine (implTextOk_any _ _ _ l _ (txt_of_own ho3)).mono ?_
    rintro e w4 ⟨rfl, hb4⟩
    go_wp2_with fail
    refine (toSignS_any a n cap l _ ((((h.below hb1).below hb2).below hb3).below hb4) hn).mono ?_
    rintro e w5 ⟨rfl, ho5, hb5⟩
    go_wp2_with fail
    refine (eqSignS_any _ _ _ l _ _ _ l _ (((txt_of_own ho3).below hb4).below hb5) (txt_of_own ho5)).mono ?_
    rintro e w6 ⟨rfl, hb6⟩
    rw [decide_eq_true (rfl : l = l)]
    go_wp2_with fail
    go_ret
    have s1 := hb1.size
    have s2 := hb2.size
    have s3 := hb3.size
    have s4 := hb4.size
    have s5 := hb5.size
    exact ⟨rfl, ((((hb1.trans (hb2.mono (by omega))).trans (hb3.mono (by omega))).trans (hb4.mono (by omega))).trans (hb5.mono (by omega))).trans (hb6.mono (by omega))⟩
  · go_enter Try.func5, Try.ntmps5
    go_wp2_with fail
    refine (szSignS_is a n cap _ h.2.1 h.2.2.1 (x := -1) (by rw [if_neg hn])).mono ?_
    rintro e w1 ⟨rfl, rfl⟩
    go_wp2_with fail
    go_ret
    exact ⟨rfl, Below.refl _ _⟩
end Go.Proofs.Ytmemhmndfcdmbau
