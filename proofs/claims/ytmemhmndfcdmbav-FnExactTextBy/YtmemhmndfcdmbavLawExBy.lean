import Derived.Test.YtmemhmndfcdmbavEqInts
import Derived.Test.YtmemhmndfcdmbavMarkI
import Derived.Test.YtmemhmndfcdmbavExact
namespace Go.Proofs.Ytmemhmndfcdmbav
open Go.RowKit

theorem implTextBy_is {a : Option Addr} {n cap : Nat} {l : List Sg} {w : World} (h : Txt w a n cap l) {L : List Int} (hL : specByL l = L) :
    Calls Try.prog 10 #[.slice a n cap] w fun e w' => ∃ v, e = .returned v ∧ OwnI w' w.heap.size v L ∧ Below w.heap.size w w' := by
  rw [← hL, ← by_eq]; exact implTextBy_any a n cap l w h
theorem specTextBy_is {a : Option Addr} {n cap : Nat} {l : List Sg} {w : World} (h : Txt w a n cap l) {L : List Int} (hL : specByL l = L) :
    Calls Try.prog 8 #[.slice a n cap] w fun e w' => ∃ v, e = .returned v ∧ OwnI w' w.heap.size v L ∧ Below w.heap.size w w' := by
  rw [← hL]; exact specTextBy_any a n cap l w h
theorem own_of_flat {w : World} {B g n cap : Nat} {l : List Sg} (h : w.ownsRow B 56 3 (.slice (some ⟨g, 0, none⟩) n cap) n (flat l)) : Own w B (.slice (some ⟨g, 0, none⟩) n cap) l := by
  have hl := h.1
  rw [flat_length] at hl
  have : n = l.length := by omega
  subst this
  exact h

set_option maxRecDepth 100000 in
set_option maxHeartbeats 2000000 in
theorem lawTextBy_walk (a : Option Addr) (n cap : Nat) (l : List Sg) (w : World) (h : Txt w a n cap l) :
    Calls Try.prog 3 #[.slice a n cap] w fun e w' => e = .returned (.bool true) ∧ Below w.heap.size w w' := by
  by_cases hn : n ≤ 1048576
  · obtain ⟨L, hLL⟩ : ∃ L, specByL l = L := ⟨_, rfl⟩
    have HLL : Hid (specByL l = L) := hLL
    have hL3 : L.length ≤ 3 := by rw [← hLL]; exact by_le l
    clear hLL
    go_enter Try.func3, Try.ntmps3
    go_wp2_with fail
    refine (szSignS_is a n cap _ h.2.1 h.2.2.1 (x := 1048576 - (n : Int)) (by rw [if_pos hn])).mono ?_
    rintro e w0 ⟨rfl, rfl⟩
    go_wp2_with fail
    refine (toSignS_any a n cap l _ h hn).mono ?_
    rintro e w1 ⟨rfl, ho1, hb1⟩
    have s1 := hb1.size
    go_wp2_with fail
    refine (specTextBy_is (txt_of_own ho1) HLL.out).mono ?_
    rintro e w2 ⟨v, rfl, ho2, hb2⟩
    have s2 := hb2.size
    obtain ⟨a2, n2, c2, rfl, hn2⟩ := ho2.shapeL
    have HI2 : Hid (Ints w2 a2 n2 c2 L) := ho2.ints
    clear ho2 hn2
    go_wp2_with fail
    refine (toSignS_any a n cap l _ ((h.below hb1).below hb2) hn).mono ?_
    rintro e w3 ⟨rfl, ho3, hb3⟩
    have s3 := hb3.size
    have HO3 : Hid (Own w3 w2.heap.size (.slice (some ⟨w2.heap.size, 0, none⟩) n n) l) := own_of_flat ho3
    clear ho3
    go_wp2_with fail
    refine (implTextBy_is HO3.out.txt HLL.out).mono ?_
    rintro e w4 ⟨v, rfl, ho4, hb4⟩
    have s4 := hb4.size
    obtain ⟨a4, n4, c4, rfl, hn4⟩ := ho4.shapeL
    have hn43 : n4 ≤ 3 := by omega
    have HO4 : Hid (OwnI w4 w3.heap.size (.slice a4 n4 c4) L) := ho4
    clear ho4 hn4
    go_wp2_with fail
    refine (eqIntS_same HO4.out.ints ((HI2.out.below hb3).below hb4)).mono ?_
    rintro e w5 ⟨rfl, hb5⟩
    have s5 := hb5.size
    go_wp2_with fail
    refine (toSignS_any a n cap l _ (((((h.below hb1).below hb2).below hb3).below hb4).below hb5) hn).mono ?_
    rintro e w6 ⟨rfl, ho6, hb6⟩
    have s6 := hb6.size
    go_wp2_with fail
    refine (eqSignS_same _ _ _ l _ _ _ _ (((HO3.out.txt.below hb4).below hb5).below hb6) (txt_of_own ho6)).mono ?_
    rintro e w7 ⟨rfl, hb7⟩
    have s7 := hb7.size
    have HO7 : Hid (Own w7 w2.heap.size (.slice (some ⟨w2.heap.size, 0, none⟩) n n) l) := (((HO3.out.below hb4).below hb5).below hb6).below hb7
    have HI7 : Hid (OwnI w7 w3.heap.size (.slice a4 n4 c4) L) := ((HO4.out.below hb5).below hb6).below hb7
    have hb27 : Below w2.heap.size w2 w7 := (((hb3.trans (hb4.mono (by omega))).trans (hb5.mono (by omega))).trans (hb6.mono (by omega))).trans (hb7.mono (by omega))
    have hb07 : Below w0.heap.size w0 w7 := (hb1.trans (hb2.mono (by omega))).trans (hb27.mono (by omega))
    clear ho6
    go_wp2_with fail
    refine (markSignS_any _ _ _ l 1 _ _ HO7.out hn (by omega) (by omega)).mono ?_
    rintro e w8 ⟨rfl, _, hg8⟩
    have s8 := hg8.size
    have hw3 : w2.heap.size < w3.heap.size := by
      have := (HO3.out.row.lt w2.heap.size rfl).2
      exact this
    have HI8 : Hid (OwnI w8 w3.heap.size (.slice a4 n4 c4) L) := World.ownsRow.kept HI7.out hg8 (by
      rcases hv : (Value.slice a4 n4 c4).ownBlock with _ | k
      · exact .inl rfl
      · refine .inr (fun e => ?_)
        have := (HI7.out.row.lt k hv).1
        simp [Value.ownBlock] at e
        omega)
    have hb28 : Below w2.heap.size w2 w8 := hb27.grown hg8 (by omega) (fun k hk => by simp [Value.ownBlock] at hk; omega)
    have HI2' : Hid (Ints w8 a2 n2 c2 L) := HI2.out.below hb28
    go_wp2_with fail
    refine (eqIntS_same HI8.out.ints HI2'.out).mono ?_
    rintro e w9 ⟨rfl, hb9⟩
    have s9 := hb9.size
    have HI9 : Hid (OwnI w9 w3.heap.size (.slice a4 n4 c4) L) := HI8.out.below hb9
    go_wp2_with fail
    refine (markIntS_any _ _ _ L 1 _ _ HI9.out (by omega) (by omega) (by omega)).mono ?_
    rintro e w10 ⟨rfl, ho10, hg10⟩
    have s10 := hg10.size
    have HO10 : Hid (OwnI w10 w3.heap.size (.slice a4 n4 c4) (markedI 1 n4)) := ho10
    clear ho10
    have hb210 : Below w2.heap.size w2 w10 := (hb28.trans (hb9.mono (by omega))).grown hg10 (by omega) (fun k hk => by have := (HI9.out.row.lt k hk).1; omega)
    have hb010 : Below w0.heap.size w0 w10 := (hb1.trans (hb2.mono (by omega))).trans (hb210.mono (by omega))
    go_wp2_with fail
    refine (heldIntS_any _ _ _ 1 _ HO10.out.ints (by omega) (by omega) (by omega)).mono ?_
    rintro e w11 ⟨rfl, rfl⟩
    go_wp2_with fail
    refine (toSignS_any a n cap l _ (h.below hb010) hn).mono ?_
    rintro e w12 ⟨rfl, ho12, hb12⟩
    have s12 := hb12.size
    go_wp2_with fail
    refine (implTextBy_is (txt_of_own ho12) HLL.out).mono ?_
    rintro e w13 ⟨v, rfl, ho13, hb13⟩
    have s13 := hb13.size
    obtain ⟨a13, n13, c13, rfl, hn13⟩ := ho13.shapeL
    have HI13 : Hid (Ints w13 a13 n13 c13 L) := ho13.ints
    clear ho13 hn13
    go_wp2_with fail
    refine (eqIntS_same HI13.out (HI2.out.below ((hb210.trans (hb12.mono (by omega))).trans (hb13.mono (by omega))))).mono ?_
    rintro e w14 ⟨rfl, hb14⟩
    have s14 := hb14.size
    go_wp2_with fail
    refine (heldIntS_any _ _ _ 1 _ (((HO10.out.below hb12).below hb13).below hb14).ints (by omega) (by omega) (by omega)).mono ?_
    rintro e w15 ⟨rfl, rfl⟩
    go_wp2_with fail
    go_ret
    exact ⟨rfl, ((hb010.trans (hb12.mono (by omega))).trans (hb13.mono (by omega))).trans (hb14.mono (by omega))⟩
  · go_enter Try.func3, Try.ntmps3
    go_wp2_with fail
    refine (szSignS_is a n cap _ h.2.1 h.2.2.1 (x := -1) (by rw [if_neg hn])).mono ?_
    rintro e w1 ⟨rfl, rfl⟩
    go_wp2_with fail
    go_ret
    exact ⟨rfl, Below.refl _ _⟩
end Go.Proofs.Ytmemhmndfcdmbav
