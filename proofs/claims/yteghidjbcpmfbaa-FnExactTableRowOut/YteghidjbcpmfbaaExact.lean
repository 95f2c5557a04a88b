import Derived.Test.YteghidjbcpmfbaaOwn
namespace Go.Proofs.Yteghidjbcpmfbaa
open Go.RowKit

set_option maxHeartbeats 2000000 in
theorem eqSign_any (b i o b' i' o' : Int) (w : World) :
    Calls Try.prog 77 #[.agg #[.int .u8 b, .int .i64 i, .int .i64 o], .agg #[.int .u8 b', .int .i64 i', .int .i64 o']] w fun e w' => e = .returned (.bool (decide (b = b' ∧ i = i' ∧ o = o'))) ∧ Below w.heap.size w w' := by
  by_cases h : b = b' ∧ i = i' ∧ o = o'
  · obtain ⟨rfl, rfl, rfl⟩ := h
    rw [decide_eq_true ⟨rfl, rfl, rfl⟩]
    go_enter Try.func77, Try.ntmps77
    go_wp2
    go_ret
    exact ⟨rfl, ((Below.refl _ _).alloc (Nat.le_refl _) _).alloc (by simp) _⟩
  · rw [decide_eq_false h]
    go_enter Try.func77, Try.ntmps77
    go_wp2
    · go_ret
      exact ⟨rfl, ((Below.refl _ _).alloc (Nat.le_refl _) _).alloc (by simp) _⟩
    · go_ret
      exact ⟨rfl, ((Below.refl _ _).alloc (Nat.le_refl _) _).alloc (by simp) _⟩
    · go_ret
      exact ⟨rfl, ((Below.refl _ _).alloc (Nat.le_refl _) _).alloc (by simp) _⟩
set_option maxHeartbeats 1000000 in
theorem toSign_any (b i o : Int) (w : World) :
    Calls Try.prog 76 #[.agg #[.int .u8 b, .int .i64 i, .int .i64 o]] w fun e w' => e = .returned (.agg #[.int .u8 b, .int .i64 i, .int .i64 o]) ∧ Below w.heap.size w w' := by
  go_enter Try.func76, Try.ntmps76
  go_wp2
  refine bodyPost_ret (v := .agg #[.int .u8 b, .int .i64 i, .int .i64 o]) (by simp [results, Try.results76, go_sem]) rfl ⟨rfl, ?_⟩
  exact (((Below.refl _ _).alloc (Nat.le_refl _) _).alloc (by simp) _).alloc (by simp; omega) _

set_option maxHeartbeats 1000000 in
theorem szSignS_any (a : Option Addr) (n cap : Nat) (w : World) (hn : n ≤ cap) (hc : cap ≤ maxLen) :
    Calls Try.prog 70 #[.slice a n cap, .int .i64 1048576] w fun e w' => e = .returned (.int .i64 (if n ≤ 1048576 then 1048576 - n else -1)) ∧ w' = w := by
  unfold maxLen at hc
  by_cases h : n ≤ 1048576
  · rw [if_pos h]
    go_enter Try.func70, Try.ntmps70
    go_wp2
    go_ret
    exact ⟨rfl, rfl⟩
  · rw [if_neg h]
    go_enter Try.func70, Try.ntmps70
    go_wp2
    go_ret
    exact ⟨rfl, rfl⟩

set_option maxHeartbeats 1000000 in
theorem toSignS_any (a : Option Addr) (n cap : Nat) (l : List Sg) (w : World) (h : Txt w a n cap l) (hn : n ≤ 1048576) :
    Calls Try.prog 71 #[.slice a n cap] w fun e w' => e = .returned (.slice (some ⟨w.heap.size, 0, none⟩) n n) ∧ w'.ownsRow w.heap.size 89 3 (.slice (some ⟨w.heap.size, 0, none⟩) n n) n (flat l) ∧ Below w.heap.size w w' := by
  obtain ⟨rfl, hc, hm, hl⟩ := h
  unfold maxLen at hm
  obtain ⟨i0, hi, hz0, hz1, hz2⟩ := info_parts Try.info89
  rcases hl with rfl | ⟨b, off, rfl, hbw, hl⟩
  · go_enter Try.func71, Try.ntmps71
    go_wp2_with (at_make; refine wpList_make_full _ rfl (.tmp 6) (.tmp 6) 42 rfl w.heap.size 89 i0 _ 3 Try.underlying42 hi hz0 hz1 .i64 .i64 _ _ 0 rfl rfl rfl rfl (by rw [hz2]; omega) (by unfold maxLen; omega) (Nat.le_refl _) ?_; intro w1 hown hgrow)
    have hb1 : Below w.heap.size w w1 := (Below.refl _ _).grown hgrow (Nat.le_refl _) (fun k hk => by simp at hk)
    refine wp_loop_rounds 1 ?_
    rw [rounds_succ]
    go_wp2_with fail
    go_ret
    exact ⟨rfl, by simpa [flat, madeCells] using hown, hb1⟩
  · go_enter Try.func71, Try.ntmps71
    go_wp2_with (at_make; refine wpList_make_full _ rfl (.tmp 6) (.tmp 6) 42 rfl w.heap.size 89 i0 _ 3 Try.underlying42 hi hz0 hz1 .i64 .i64 _ _ l.length rfl rfl rfl rfl (by rw [hz2]; omega) (by unfold maxLen; omega) (Nat.le_refl _) ?_; intro w1 hown hgrow)
    have hb1 : Below w.heap.size w w1 := (Below.refl _ _).grown hgrow (Nat.le_refl _) (fun k hk => by simp at hk)
    clear hgrow
    obtain ⟨xs0, hown⟩ : ∃ xs, w1.ownsRow w.heap.size 89 3 (.slice (some ⟨w.heap.size, 0, none⟩) l.length l.length) l.length xs := ⟨_, hown⟩
    go_loopw [4] (fun i wr => ∃ (k : Nat) (xs : List Value), k ≤ l.length ∧ i = .int .i64 k ∧ wr.ownsRow w.heap.size 89 3 (.slice (some ⟨w.heap.size, 0, none⟩) l.length l.length) l.length xs ∧ xs.take (k * 3) = flat (l.take k) ∧ Below w.heap.size w wr) (fun i _ => l.length - (intOf i).toNat)
    case atStart => exact ⟨0, xs0, Nat.zero_le _, rfl, hown, by simp [flat], hb1⟩
    case round =>
      obtain ⟨k, xs, hk, rfl, ho, hx, hbl⟩ := hrel
      have hsz := hbl.size
      have HX : Hid (xs.take (k * 3) = flat (l.take k)) := hx
      have HO : Hid (wr.ownsRow w.heap.size 89 3 (.slice (some ⟨w.heap.size, 0, none⟩) l.length l.length) l.length xs) := ho
      clear hx ho hown hb1
      by_cases hlt : k < l.length
      · obtain ⟨c0, c1, c2⟩ := (hl.below hbl hbw) k hlt
        clear hl
        obtain ⟨s, hs⟩ : ∃ s, s = l.getD k (0, 0, 0) := ⟨_, rfl⟩
        rw [← hs] at c0 c1 c2
        have HS : Hid (s = l.getD k (0, 0, 0)) := hs
        clear hs
        go_wp2_with fail
        refine (toSign_any _ _ _ _).mono ?_
        rintro e w2 ⟨rfl, hb2⟩
        have ho2 := own_below HO.out hb2
        have f0 := ho2.frozenAt (k * 3)
        have f1 := ho2.frozenAt (k * 3 + 1)
        have f2 := ho2.frozenAt (k * 3 + 2)
        have hxl := ho2.1
        obtain ⟨u0, d0⟩ : ∃ u, w2.cell? ⟨w.heap.size, k * 3, none⟩ = some u := ⟨_, (ho2.cellAt (k * 3) (by omega)).trans (List.getElem?_eq_getElem (by omega))⟩
        obtain ⟨u1, d1⟩ : ∃ u, w2.cell? ⟨w.heap.size, k * 3 + 1, none⟩ = some u := ⟨_, (ho2.cellAt (k * 3 + 1) (by omega)).trans (List.getElem?_eq_getElem (by omega))⟩
        obtain ⟨u2, d2⟩ : ∃ u, w2.cell? ⟨w.heap.size, k * 3 + 2, none⟩ = some u := ⟨_, (ho2.cellAt (k * 3 + 2) (by omega)).trans (List.getElem?_eq_getElem (by omega))⟩
        have HO2 : Hid (w2.ownsRow w.heap.size 89 3 (.slice (some ⟨w.heap.size, 0, none⟩) l.length l.length) l.length xs) := ho2
        clear ho2 HO hxl
        go_wp2_with fail
        go_roundw
        case rel =>
          obtain ⟨p0, _⟩ := HO2.out.stored (k * 3) (.int .u8 s.1)
          obtain ⟨p1, _⟩ := p0.stored (k * 3 + 1) (.int .i64 s.2.1)
          obtain ⟨p2, _⟩ := p1.stored (k * 3 + 2) (.int .i64 s.2.2)
          refine ⟨k + 1, _, by omega, by go_num, p2, ?_, ?_⟩
          · rw [take_set3 _ _ _ _ _ (by have := HO2.out.1; omega), HX.out, flat_take_succ l k hlt, ← HS.out]; rfl
          · exact (((hbl.trans (hb2.mono hsz)).setCell (Nat.le_refl _) _).setCell (Nat.le_refl _) _).setCell (Nat.le_refl _) _
        case measure => simp [intOf]; omega
      · go_wp2_with fail
        go_ret
        have hxx : xs = flat l := by
          have h1 := HX.out
          have h2 := HO.out.1
          rw [List.take_of_length_le (by omega), List.take_of_length_le (by omega)] at h1
          exact h1
        exact ⟨rfl, hxx ▸ HO.out, hbl⟩

theorem sg_eq (s t : Sg) : (s = t) ↔ (s.1 = t.1 ∧ s.2.1 = t.2.1 ∧ s.2.2 = t.2.2) := by
  obtain ⟨a, b, c⟩ := s
  obtain ⟨a', b', c'⟩ := t
  simp

theorem list_ne_at (l m : List Sg) (k : Nat) (hne : ¬ ((l.getD k (0, 0, 0)).1 = (m.getD k (0, 0, 0)).1 ∧ (l.getD k (0, 0, 0)).2.1 = (m.getD k (0, 0, 0)).2.1 ∧ (l.getD k (0, 0, 0)).2.2 = (m.getD k (0, 0, 0)).2.2)) : l ≠ m := by
  rintro rfl
  exact hne ⟨rfl, rfl, rfl⟩

theorem take_eq_succ (l m : List Sg) (k : Nat) (h : k < l.length) (hl : l.length = m.length) (he : l.take k = m.take k) (hs : l.getD k (0, 0, 0) = m.getD k (0, 0, 0)) : l.take (k + 1) = m.take (k + 1) := by
  rw [List.take_succ_eq_append_getElem h, List.take_succ_eq_append_getElem (by omega), he]
  simp [List.getD, h, show k < m.length by omega] at hs
  rw [hs]

theorem eqSign_is {s t : Sg} {x : Bool} (h : decide (s.1 = t.1 ∧ s.2.1 = t.2.1 ∧ s.2.2 = t.2.2) = x) (w : World) :
    Calls Try.prog 77 #[.agg #[.int .u8 s.1, .int .i64 s.2.1, .int .i64 s.2.2], .agg #[.int .u8 t.1, .int .i64 t.2.1, .int .i64 t.2.2]] w fun e w' => e = .returned (.bool x) ∧ Below w.heap.size w w' := h ▸ eqSign_any s.1 s.2.1 s.2.2 t.1 t.2.1 t.2.2 w

set_option maxHeartbeats 1000000 in
theorem eqSignS_any (a : Option Addr) (n cap : Nat) (l : List Sg) (a' : Option Addr) (n' cap' : Nat) (m : List Sg) (w : World) (h : Txt w a n cap l) (h' : Txt w a' n' cap' m) :
    Calls Try.prog 72 #[.slice a n cap, .slice a' n' cap'] w fun e w' => e = .returned (.bool (decide (l = m))) ∧ Below w.heap.size w w' := by
  obtain ⟨rfl, hc, hm, hl⟩ := h
  obtain ⟨rfl, hc', hm', hl'⟩ := h'
  unfold maxLen at hm hm'
  by_cases hlen : l.length = m.length
  · have hbq : ((l.length : Int) != (m.length : Int)) = false := by simp [hlen]
    rcases hl with rfl | ⟨b, off, rfl, hbw, hl⟩
    · obtain rfl : m = [] := List.eq_nil_of_length_eq_zero (by simpa using hlen.symm)
      go_enter Try.func72, Try.ntmps72
      go_wp2_with fail
      refine wp_loop_rounds 1 ?_
      rw [rounds_succ]
      go_wp2_with fail
      go_ret
      exact ⟨rfl, Below.refl _ _⟩
    · rcases hl' with rfl | ⟨b', off', rfl, hbw', hl'⟩
      · obtain rfl : l = [] := List.eq_nil_of_length_eq_zero (by simpa using hlen)
        go_enter Try.func72, Try.ntmps72
        go_wp2_with fail
        refine wp_loop_rounds 1 ?_
        rw [rounds_succ]
        go_wp2_with fail
        go_ret
        exact ⟨rfl, Below.refl _ _⟩
      · have HL : Hid (l.length = m.length) := hlen
        have hl1 : l.length ≤ m.length := by omega
        have hl2 : m.length ≤ l.length := by omega
        clear hlen
        go_enter Try.func72, Try.ntmps72
        go_wp2_with fail
        go_loopw [5] (fun i wr => ∃ (k : Nat), k ≤ l.length ∧ i = .int .i64 k ∧ l.take k = m.take k ∧ Below w.heap.size w wr) (fun i _ => l.length - (intOf i).toNat)
        case atStart => exact ⟨0, Nat.zero_le _, rfl, by simp, Below.refl _ _⟩
        case round =>
          obtain ⟨k, hk, rfl, ht, hbl⟩ := hrel
          have hsz := hbl.size
          have HT : Hid (l.take k = m.take k) := ht
          clear ht
          by_cases hlt : k < l.length
          · have hlt' : k < m.length := by omega
            obtain ⟨c0, c1, c2⟩ := (hl.below hbl hbw) k hlt
            obtain ⟨d0, d1, d2⟩ := (hl'.below hbl hbw') k hlt'
            clear hl hl'
            obtain ⟨s, hs⟩ : ∃ s, s = l.getD k (0, 0, 0) := ⟨_, rfl⟩
            obtain ⟨t, ht⟩ : ∃ t, t = m.getD k (0, 0, 0) := ⟨_, rfl⟩
            rw [← hs] at c0 c1 c2
            rw [← ht] at d0 d1 d2
            have HS : Hid (s = l.getD k (0, 0, 0)) := hs
            have HM : Hid (t = m.getD k (0, 0, 0)) := ht
            clear hs ht
            cases hb : decide (s.1 = t.1 ∧ s.2.1 = t.2.1 ∧ s.2.2 = t.2.2)
            · have HF : Hid (decide (l = m) = false) := by
                refine decide_eq_false (list_ne_at l m k ?_)
                rw [← HS.out, ← HM.out]
                exact of_decide_eq_false hb
              have HB : Hid (decide (s.1 = t.1 ∧ s.2.1 = t.2.1 ∧ s.2.2 = t.2.2) = false) := hb
              clear hb
              go_wp2_with fail
              go_region_with (go_at_call 77; refine (eqSign_is (s := s) (t := t) HB.out _).mono ?_; rintro e w1 ⟨rfl, hb1⟩)
              all_goals
                go_wp2_with fail
                go_ret
                exact ⟨by rw [HF.out]; rfl, hbl.drew.trans (hb1.mono hsz)⟩
            · have HB : Hid (decide (s.1 = t.1 ∧ s.2.1 = t.2.1 ∧ s.2.2 = t.2.2) = true) := hb
              clear hb
              go_wp2_with fail
              go_region_with (go_at_call 77; refine (eqSign_is (s := s) (t := t) HB.out _).mono ?_; rintro e w1 ⟨rfl, hb1⟩)
              all_goals
                go_wp2_with fail
                go_roundw
                case rel => exact ⟨k + 1, by omega, by go_num, take_eq_succ l m k hlt HL.out HT.out (by rw [← HS.out, ← HM.out]; exact (sg_eq s t).2 (of_decide_eq_true HB.out)), hbl.drew.trans (hb1.mono hsz)⟩
                case measure => simp [intOf]; omega
          · go_wp2_with fail
            go_ret
            refine ⟨?_, hbl⟩
            have := HT.out
            rw [List.take_of_length_le (by omega), List.take_of_length_le (by omega)] at this
            rw [decide_eq_true this]; rfl
  · have hbq : ((l.length : Int) != (m.length : Int)) = true := by simp; omega
    rw [decide_eq_false (fun e => hlen (by rw [e]))]
    go_enter Try.func72, Try.ntmps72
    go_wp2_with fail
    go_ret
    exact ⟨rfl, Below.refl _ _⟩
theorem szSignS_is (a : Option Addr) (n cap : Nat) (w : World) (hn : n ≤ cap) (hc : cap ≤ maxLen) {x : Int} (h : (if n ≤ 1048576 then 1048576 - (n : Int) else -1) = x) :
    Calls Try.prog 70 #[.slice a n cap, .int .i64 1048576] w fun e w' => e = .returned (.int .i64 x) ∧ w' = w := h ▸ szSignS_any a n cap w hn hc

theorem eqSignS_same (a : Option Addr) (n cap : Nat) (l : List Sg) (a' : Option Addr) (n' cap' : Nat) (w : World) (h : Txt w a n cap l) (h' : Txt w a' n' cap' l) :
    Calls Try.prog 72 #[.slice a n cap, .slice a' n' cap'] w fun e w' => e = .returned (.bool true) ∧ Below w.heap.size w w' := by
  have := eqSignS_any a n cap l a' n' cap' l w h h'
  rwa [decide_eq_true (rfl : l = l)] at this

end Go.Proofs.Yteghidjbcpmfbaa
