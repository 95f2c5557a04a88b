import Derived.Test.YtmemhmndfcdmbaaLm
import Derived.Test.YtmemhmndfcdmbaaBy
import Derived.Test.YtmemhmndfcdmbaaDrawP
import Derived.Test.YtmemhmndfcdmbaaTextOf
import Derived.Test.YtmemhmndfcdmbaaSpecNow
namespace Go.Proofs.Ytmemhmndfcdmbaa
open Go.RowKit

theorem ofS_le (s : ByteArray) : (ofS s.data.toList).length ≤ 24 := by
  unfold ofS
  cases h : textB (ofL s.data.toList)
  · simp
  · simp [textB] at h
    simpa using h.1
theorem ofS_pos {s : ByteArray} (h : ofS s.data.toList ≠ []) : ofS s.data.toList = ofL s.data.toList ∧ textB (ofL s.data.toList) = true := by
  unfold ofS at h ⊢
  cases hb : textB (ofL s.data.toList)
  · rw [hb] at h; exact absurd rfl h
  · exact ⟨by simp, rfl⟩
theorem bytesOf_ofL (l : List UInt8) : bytesOf (ofL l) = l.map (fun c => (c.toNat : Int)) := by
  unfold bytesOf ofL
  rw [List.map_map]
  rfl
theorem filter_ofL (q : Sg → Bool) (hq : ∀ c : UInt8, q (sgOf c) = true) (l : List UInt8) : (ofL l).filter q = ofL l := by
  rw [List.filter_eq_self]
  intro s hs
  obtain ⟨c, _, rfl⟩ := List.mem_map.1 hs
  exact hq c
theorem strOfNums_nat (l : List UInt8) : strOfNums (l.map (fun c => (c.toNat : Int))) = ⟨l.toArray⟩ := by
  unfold strOfNums
  congr 2
  rw [List.map_map]
  have : (fun n : Int => UInt8.ofNat n.toNat) ∘ (fun c : UInt8 => (c.toNat : Int)) = id := by
    funext c
    simp
  rw [this, List.map_id]
theorem now_ofL {s : ByteArray} (h : textB (ofL s.data.toList) = true) (q : Sg → Bool) (hq : ∀ c : UInt8, q (sgOf c) = true) : strOfNums (pickL q (ofL s.data.toList)) = s := by
  unfold pickL
  rw [h, if_pos rfl, filter_ofL q hq, bytesOf_ofL, strOfNums_nat]
theorem mask_ofL (l : List UInt8) : maskL (ofL l) = 0 := by
  unfold maskL ofL
  rw [List.foldl_map]
  have : ∀ l : List UInt8, List.foldl (fun m c => orB m (orB (personN (sgOf c).2.1) (personN (sgOf c).2.2))) 0 l = 0 := by
    intro l
    induction l with
    | nil => rfl
    | cons c l ih =>
      rw [List.foldl_cons]
      have : orB 0 (orB (personN (sgOf c).2.1) (personN (sgOf c).2.2)) = 0 := by
        show orB 0 (orB (personN 0) (personN 0)) = 0
        decide
      rw [this]
      exact ih
  exact this l
theorem by_ofL (l : List UInt8) : byL (ofL l) = [] := by
  unfold byL
  rw [mask_ofL]
  cases textB (ofL l)
  · rfl
  · show peopleL 0 = []
    decide

theorem implTextNow_is {a : Option Addr} {n cap : Nat} {l : List Sg} {w : World} (h : Txt w a n cap l) {S : ByteArray} (hS : strOfNums (pickL noOut l) = S) :
    Calls Try.prog 11 #[.slice a n cap] w fun e w' => e = .returned (.string S) ∧ Below w.heap.size w w' := by
  rw [← hS, ← nowL_eq]; exact implTextNow_any a n cap l w h
theorem implTextWas_is {a : Option Addr} {n cap : Nat} {l : List Sg} {w : World} (h : Txt w a n cap l) {S : ByteArray} (hS : strOfNums (pickL noIn l) = S) :
    Calls Try.prog 12 #[.slice a n cap] w fun e w' => e = .returned (.string S) ∧ Below w.heap.size w w' := by
  rw [← hS, ← wasL_eq]; exact implTextWas_any a n cap l w h
theorem implTextBy_is {a : Option Addr} {n cap : Nat} {l : List Sg} {w : World} (h : Txt w a n cap l) {L : List Int} (hL : byL l = L) :
    Calls Try.prog 13 #[.slice a n cap] w fun e w' => ∃ v, e = .returned v ∧ OwnI w' w.heap.size v L ∧ Below w.heap.size w w' := by
  rw [← hL]; exact implTextBy_any a n cap l w h

set_option maxHeartbeats 2000000 in
theorem fnTextOf_walk (a : Option Addr) (n cap : Nat) (zs : List Int) (w : World) (h : Byt w.heap.size w a n cap zs) :
    Calls Try.prog 3 #[.slice a n cap] w fun e w' => e = .returned (.bool true) ∧ Below w.heap.size w w' := by
  have hc := h.2.1
  have hm := h.2.2.1
  unfold maxLen at hm
  by_cases hn : n ≤ 1048576
  · have hd : decide ((1048576 : Int) < (n : Int)) = false := by simp; omega
    have HY : Hid (Byt w.heap.size w a n cap zs) := h
    clear h
    go_enter Try.func3, Try.ntmps3
    go_wp2_with fail
    refine (drawTextOf_any w.heap.size a n cap zs _ HY.out (Nat.le_refl _)).mono ?_
    rintro e w1 ⟨⟨s, rfl, hs⟩, hb1⟩
    have s1 := hb1.size
    obtain ⟨L, hL⟩ : ∃ L, L = ofS s.data.toList := ⟨_, rfl⟩
    have hLe : L.length ≤ 24 := by rw [hL]; exact ofS_le s
    have c1 := fun w => specTextOf_any s w (by omega)
    have c2 := fun w => implTextOf_any s w (by omega)
    rw [← hL] at c1 c2
    have C1 : Hid (∀ (w : World), Calls Try.prog 9 #[.string s] w fun e w' => ∃ v, e = .returned v ∧ Own w' w.heap.size v L ∧ Below w.heap.size w w') := c1
    have C2 : Hid (∀ (w : World), Calls Try.prog 7 #[.string s] w fun e w' => ∃ v, e = .returned v ∧ Own w' w.heap.size v L ∧ Below w.heap.size w w') := c2
    have HL : Hid (L = ofS s.data.toList) := hL
    clear c1 c2 hL
    go_wp2_with fail
    refine (C2.out _).mono ?_
    rintro e w2 ⟨v, rfl, ho2, hb2⟩
    obtain ⟨a2, p2, rfl, ht2⟩ := ho2.shape
    have s2 := hb2.size
    go_wp2_with fail
    refine (C1.out _).mono ?_
    rintro e w3 ⟨v, rfl, ho3, hb3⟩
    obtain ⟨a3, p3, rfl, ht3⟩ := ho3.shape
    have s3 := hb3.size
    go_wp2_with fail
    refine (lmSigns_same (l := L) (ht2.below hb3) ht3).mono ?_
    rintro e w4 ⟨rfl, hb4⟩
    have s4 := hb4.size
    go_wp2_with fail
    refine (C1.out _).mono ?_
    rintro e w5 ⟨v, rfl, ho5, hb5⟩
    obtain ⟨a5, p5, rfl, ht5⟩ := ho5.shape
    have s5 := hb5.size
    have hb : Below w.heap.size w w5 := (((hb1.trans (hb2.mono (by omega))).trans (hb3.mono (by omega))).trans (hb4.mono (by omega))).trans (hb5.mono (by omega))
    by_cases h0 : L = []
    · subst h0
      go_wp2_with fail
      go_ret
      exact ⟨rfl, hb⟩
    · have hpos : ((L.length : Int) == 0) = false := by
        simp
        exact h0
      obtain ⟨e1, e2⟩ := ofS_pos (s := s) (by rw [← HL.out]; exact h0)
      have e3 : L = ofL s.data.toList := HL.out.trans e1
      have HB : Hid (textB L = true) := by show textB L = true; rw [e3]; exact e2
      have HN : Hid (strOfNums (pickL noOut L) = s) := by show strOfNums (pickL noOut L) = s; rw [e3]; exact now_ofL e2 noOut (fun _ => rfl)
      have HW : Hid (strOfNums (pickL noIn L) = s) := by show strOfNums (pickL noIn L) = s; rw [e3]; exact now_ofL e2 noIn (fun _ => rfl)
      have HZ : Hid (byL L = []) := by show byL L = []; rw [e3]; exact by_ofL _
      have HT2 : Hid (Txt w5 a2 L.length p2 L) := ((ht2.below hb3).below hb4).below hb5
      clear e1 e2 e3 h0
      go_wp2_with fail
      refine (implTextOk_is HT2.out HB.out).mono ?_
      rintro e w6 ⟨rfl, hb6⟩
      have s6 := hb6.size
      go_wp2_with fail
      refine (implTextNow_is (HT2.out.below hb6) HN.out).mono ?_
      rintro e w7 ⟨rfl, hb7⟩
      have s7 := hb7.size
      go_wp2_with fail
      refine (implTextWas_is ((HT2.out.below hb6).below hb7) HW.out).mono ?_
      rintro e w8 ⟨rfl, hb8⟩
      have s8 := hb8.size
      go_wp2_with fail
      refine (implTextBy_is (((HT2.out.below hb6).below hb7).below hb8) HZ.out).mono ?_
      rintro e w9 ⟨v, rfl, ho9, hb9⟩
      obtain ⟨a9, p9, rfl⟩ := ho9.shape
      go_wp2_with fail
      go_ret
      exact ⟨rfl, (((hb.trans (hb6.mono (by omega))).trans (hb7.mono (by omega))).trans (hb8.mono (by omega))).trans (hb9.mono (by omega))⟩
  · have hd : decide ((1048576 : Int) < (n : Int)) = true := by simp; omega
    go_enter Try.func3, Try.ntmps3
    go_wp2_with fail
    go_ret
    exact ⟨rfl, Below.refl _ _⟩
end Go.Proofs.Ytmemhmndfcdmbaa
