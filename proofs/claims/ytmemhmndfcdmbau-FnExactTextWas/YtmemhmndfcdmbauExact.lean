import Derived.Test.YtmemhmndfcdmbauPlain
import Derived.Deep.LoopGhost
namespace Go.Proofs.Ytmemhmndfcdmbau
open Go.RowKit

set_option maxHeartbeats 1000000 in
theorem toSign_any (b i o : Int) (w : World) :
    Calls Try.prog 46 #[.agg #[.int .u8 b, .int .i64 i, .int .i64 o]] w fun e w' => e = .returned (.agg #[.int .u8 b, .int .i64 i, .int .i64 o]) ∧ Below w.heap.size w w' := by
  go_enter Try.func46, Try.ntmps46
  go_wp2
  refine bodyPost_ret (v := .agg #[.int .u8 b, .int .i64 i, .int .i64 o]) (by simp [results, Try.results46, go_sem]) rfl ⟨rfl, ?_⟩
  exact (((Below.refl _ _).alloc (Nat.le_refl _) _).alloc (by simp) _).alloc (by simp; omega) _

set_option maxHeartbeats 1000000 in
theorem szSignS_any (a : Option Addr) (n cap : Nat) (w : World) (hn : n ≤ cap) (hc : cap ≤ maxLen) :
    Calls Try.prog 18 #[.slice a n cap, .int .i64 1048576] w fun e w' => e = .returned (.int .i64 (if n ≤ 1048576 then 1048576 - n else -1)) ∧ w' = w := by
  unfold maxLen at hc
  by_cases h : n ≤ 1048576
  · rw [if_pos h]
    go_enter Try.func18, Try.ntmps18
    go_wp2
    go_ret
    exact ⟨rfl, rfl⟩
  · rw [if_neg h]
    go_enter Try.func18, Try.ntmps18
    go_wp2
    go_ret
    exact ⟨rfl, rfl⟩

/-- What is owned stays owned where all that was there is as it was. -/
theorem own_below {w w' : World} {B e size n : Nat} {v : Value} {xs : List Value} (h : w.ownsRow B e size v n xs) (hb : Below w.heap.size w w') : w'.ownsRow B e size v n xs := by
  refine ⟨h.1, ?_⟩
  rcases h.2 with hn | ⟨g, cap, cur, rfl, hg, hgg, rest⟩
  · exact .inl hn
  · exact .inr ⟨g, cap, cur, rfl, hg, by rw [hb.block g (Array.getElem?_eq_some_iff.1 hgg).1]; exact hgg, rest⟩

/-- The cells of a list of signs, one behind the other. -/
def sgCells (s : Sg) : List Value := [.int .u8 s.1, .int .i64 s.2.1, .int .i64 s.2.2]
def flat (l : List Sg) : List Value := l.flatMap sgCells

theorem flat_length (l : List Sg) : (flat l).length = l.length * 3 := by
  induction l with
  | nil => rfl
  | cons s l ih =>
    show (sgCells s ++ flat l).length = _
    rw [List.length_append, ih]
    simp [sgCells]; omega

theorem flat_append (a b : List Sg) : flat (a ++ b) = flat a ++ flat b := by simp [flat]

theorem flat_get (l : List Sg) : ∀ (k : Nat), k < l.length → (flat l)[k * 3]? = some (.int .u8 (l.getD k (0, 0, 0)).1) ∧ (flat l)[k * 3 + 1]? = some (.int .i64 (l.getD k (0, 0, 0)).2.1) ∧ (flat l)[k * 3 + 2]? = some (.int .i64 (l.getD k (0, 0, 0)).2.2) := by
  induction l with
  | nil => intro k h; simp at h
  | cons s l ih =>
    intro k hk
    show (sgCells s ++ flat l)[k * 3]? = _ ∧ (sgCells s ++ flat l)[k * 3 + 1]? = _ ∧ (sgCells s ++ flat l)[k * 3 + 2]? = _
    cases k with
    | zero => simp [sgCells]
    | succ k =>
      have := ih k (by simpa using hk)
      rw [show (k + 1) * 3 = k * 3 + 3 by omega, show k * 3 + 3 + 1 = k * 3 + 1 + 3 by omega, show k * 3 + 3 + 2 = k * 3 + 2 + 3 by omega]
      rw [List.getElem?_append_right (by simp [sgCells]), List.getElem?_append_right (by simp [sgCells]), List.getElem?_append_right (by simp [sgCells])]
      simpa [sgCells] using this

/-- A row that owns a list of signs reads as it. -/
theorem txt_of_own {w : World} {B g n cap e : Nat} {l : List Sg} (h : w.ownsRow B e 3 (.slice (some ⟨g, 0, none⟩) n cap) n (flat l)) : Txt w (some ⟨g, 0, none⟩) n cap l := by
  have hlen := h.1
  rw [flat_length] at hlen
  have hn : n = l.length := by omega
  rcases h.2 with ⟨h', _⟩ | ⟨g', cap', cur, h', _, hg, hnc, hcm, _, _⟩
  · simp at h'
  · simp only [Value.slice.injEq, Option.some.injEq, Addr.mk.injEq, and_true, true_and] at h'
    obtain ⟨rfl, rfl⟩ := h'
    refine ⟨hn, hnc, hcm, .inr ⟨g, 0, rfl, (Array.getElem?_eq_some_iff.1 hg).1, ?_⟩⟩
    intro k hk
    obtain ⟨a, b, c⟩ := flat_get l k hk
    rw [Nat.zero_add]
    exact ⟨(h.cellAt (k * 3) (by omega)).trans a, (h.cellAt (k * 3 + 1) (by omega)).trans b, (h.cellAt (k * 3 + 2) (by omega)).trans c⟩

theorem take_set3 (xs : List Value) (k : Nat) (a b c : Value) (h : k * 3 + 3 ≤ xs.length) :
    (((xs.set (k * 3) a).set (k * 3 + 1) b).set (k * 3 + 2) c).take ((k + 1) * 3) = xs.take (k * 3) ++ [a, b, c] := by
  apply List.ext_getElem?
  intro j
  by_cases h1 : j < k * 3
  · rw [List.getElem?_take, if_pos (by omega), List.getElem?_set_ne (by omega), List.getElem?_set_ne (by omega), List.getElem?_set_ne (by omega), List.getElem?_append_left (by simp; omega), List.getElem?_take, if_pos h1]
  · rw [List.getElem?_append_right (by simp; omega)]
    have e : (xs.take (k * 3)).length = k * 3 := by simp; omega
    rw [e, List.getElem?_take]
    rcases (show j = k * 3 ∨ j = k * 3 + 1 ∨ j = k * 3 + 2 ∨ k * 3 + 3 ≤ j from by omega) with rfl | rfl | rfl | hj
    · rw [if_pos (by omega), List.getElem?_set_ne (by omega), List.getElem?_set_ne (by omega), List.getElem?_set_self (by omega)]; simp
    · rw [if_pos (by omega), List.getElem?_set_ne (by omega), List.getElem?_set_self (by simp; omega), show k * 3 + 1 - k * 3 = 1 by omega]; simp
    · rw [if_pos (by omega), List.getElem?_set_self (by simp; omega), show k * 3 + 2 - k * 3 = 2 by omega]; simp
    · rw [if_neg (by omega), List.getElem?_eq_none (by simp; omega)]

theorem flat_take_succ (l : List Sg) (k : Nat) (hk : k < l.length) : flat (l.take (k + 1)) = flat (l.take k) ++ sgCells (l.getD k (0, 0, 0)) := by
  rw [List.take_succ_eq_append_getElem hk, flat_append]
  simp [flat, List.getD, hk]

theorem Try.info76 : (Try.prog.info? 76).map (fun i => (i.zero, i.size, i.bytes)) = some (some (.agg #[.int .u8 0, .int .i64 0, .int .i64 0]), 3, 24) := by kernel_rfl

set_option maxHeartbeats 1000000 in
theorem toSignS_any (a : Option Addr) (n cap : Nat) (l : List Sg) (w : World) (h : Txt w a n cap l) (hn : n ≤ 1048576) :
    Calls Try.prog 20 #[.slice a n cap] w fun e w' => e = .returned (.slice (some ⟨w.heap.size, 0, none⟩) n n) ∧ w'.ownsRow w.heap.size 76 3 (.slice (some ⟨w.heap.size, 0, none⟩) n n) n (flat l) ∧ Below w.heap.size w w' := by
  obtain ⟨rfl, hc, hm, hl⟩ := h
  unfold maxLen at hm
  obtain ⟨i0, hi, hz0, hz1, hz2⟩ := info_parts Try.info76
  rcases hl with rfl | ⟨b, off, rfl, hbw, hl⟩
  · go_enter Try.func20, Try.ntmps20
    go_wp2_with (at_make; refine wpList_make_full _ rfl (.tmp 6) (.tmp 6) 44 rfl w.heap.size 76 i0 _ 3 Try.underlying44 hi hz0 hz1 .i64 .i64 _ _ 0 rfl rfl rfl rfl (by rw [hz2]; omega) (by unfold maxLen; omega) (Nat.le_refl _) ?_; intro w1 hown hgrow)
    have hb1 : Below w.heap.size w w1 := (Below.refl _ _).grown hgrow (Nat.le_refl _) (fun k hk => by simp at hk)
    refine wp_loop_rounds 1 ?_
    rw [rounds_succ]
    go_wp2_with fail
    go_ret
    exact ⟨rfl, by simpa [flat, madeCells] using hown, hb1⟩
  · go_enter Try.func20, Try.ntmps20
    go_wp2_with (at_make; refine wpList_make_full _ rfl (.tmp 6) (.tmp 6) 44 rfl w.heap.size 76 i0 _ 3 Try.underlying44 hi hz0 hz1 .i64 .i64 _ _ l.length rfl rfl rfl rfl (by rw [hz2]; omega) (by unfold maxLen; omega) (Nat.le_refl _) ?_; intro w1 hown hgrow)
    have hb1 : Below w.heap.size w w1 := (Below.refl _ _).grown hgrow (Nat.le_refl _) (fun k hk => by simp at hk)
    clear hgrow
    obtain ⟨xs0, hown⟩ : ∃ xs, w1.ownsRow w.heap.size 76 3 (.slice (some ⟨w.heap.size, 0, none⟩) l.length l.length) l.length xs := ⟨_, hown⟩
    go_loopw [4] (fun i wr => ∃ (k : Nat) (xs : List Value), k ≤ l.length ∧ i = .int .i64 k ∧ wr.ownsRow w.heap.size 76 3 (.slice (some ⟨w.heap.size, 0, none⟩) l.length l.length) l.length xs ∧ xs.take (k * 3) = flat (l.take k) ∧ Below w.heap.size w wr) (fun i _ => l.length - (intOf i).toNat)
    case atStart => exact ⟨0, xs0, Nat.zero_le _, rfl, hown, by simp [flat], hb1⟩
    case round =>
      obtain ⟨k, xs, hk, rfl, ho, hx, hbl⟩ := hrel
      have hsz := hbl.size
      have HX : Hid (xs.take (k * 3) = flat (l.take k)) := hx
      have HO : Hid (wr.ownsRow w.heap.size 76 3 (.slice (some ⟨w.heap.size, 0, none⟩) l.length l.length) l.length xs) := ho
      clear hx ho hown hb1
      by_cases hlt : k < l.length
      · obtain ⟨c0, c1, c2⟩ := (hl.below hbl hbw) k hlt
        clear hl
        obtain ⟨s, hs⟩ : ∃ s, s = l.getD k (0, 0, 0) := ⟨_, rfl⟩
        rw [← hs] at c0 c1 c2
        have HS : Hid (s = l.getD k (0, 0, 0)) := hs
        clear hs
        go_wp2_with fail
        refine (toSign_any _ _ _ _).mono ?_
        rintro e w2 ⟨rfl, hb2⟩
        have ho2 := own_below HO.out hb2
        have f0 := ho2.frozenAt (k * 3)
        have f1 := ho2.frozenAt (k * 3 + 1)
        have f2 := ho2.frozenAt (k * 3 + 2)
        have hxl := ho2.1
        obtain ⟨u0, d0⟩ : ∃ u, w2.cell? ⟨w.heap.size, k * 3, none⟩ = some u := ⟨_, (ho2.cellAt (k * 3) (by omega)).trans (List.getElem?_eq_getElem (by omega))⟩
        obtain ⟨u1, d1⟩ : ∃ u, w2.cell? ⟨w.heap.size, k * 3 + 1, none⟩ = some u := ⟨_, (ho2.cellAt (k * 3 + 1) (by omega)).trans (List.getElem?_eq_getElem (by omega))⟩
        obtain ⟨u2, d2⟩ : ∃ u, w2.cell? ⟨w.heap.size, k * 3 + 2, none⟩ = some u := ⟨_, (ho2.cellAt (k * 3 + 2) (by omega)).trans (List.getElem?_eq_getElem (by omega))⟩
        have HO2 : Hid (w2.ownsRow w.heap.size 76 3 (.slice (some ⟨w.heap.size, 0, none⟩) l.length l.length) l.length xs) := ho2
        clear ho2 HO hxl
        go_wp2_with fail
        go_roundw
        case rel =>
          obtain ⟨p0, _⟩ := HO2.out.stored (k * 3) (.int .u8 s.1)
          obtain ⟨p1, _⟩ := p0.stored (k * 3 + 1) (.int .i64 s.2.1)
          obtain ⟨p2, _⟩ := p1.stored (k * 3 + 2) (.int .i64 s.2.2)
          refine ⟨k + 1, _, by omega, by go_num, p2, ?_, ?_⟩
          · rw [take_set3 _ _ _ _ _ (by have := HO2.out.1; omega), HX.out, flat_take_succ l k hlt, ← HS.out]; rfl
          · exact (((hbl.trans (hb2.mono hsz)).setCell (Nat.le_refl _) _).setCell (Nat.le_refl _) _).setCell (Nat.le_refl _) _
        case measure => simp [intOf]; omega
      · go_wp2_with fail
        go_ret
        have hxx : xs = flat l := by
          have h1 := HX.out
          have h2 := HO.out.1
          rw [List.take_of_length_le (by omega), List.take_of_length_le (by omega)] at h1
          exact h1
        exact ⟨rfl, hxx ▸ HO.out, hbl⟩

theorem sg_eq (s t : Sg) : (s = t) ↔ (s.1 = t.1 ∧ s.2.1 = t.2.1 ∧ s.2.2 = t.2.2) := by
  obtain ⟨a, b, c⟩ := s
  obtain ⟨a', b', c'⟩ := t
  simp

theorem list_ne_at (l m : List Sg) (k : Nat) (hne : ¬ ((l.getD k (0, 0, 0)).1 = (m.getD k (0, 0, 0)).1 ∧ (l.getD k (0, 0, 0)).2.1 = (m.getD k (0, 0, 0)).2.1 ∧ (l.getD k (0, 0, 0)).2.2 = (m.getD k (0, 0, 0)).2.2)) : l ≠ m := by
  rintro rfl
  exact hne ⟨rfl, rfl, rfl⟩

theorem take_eq_succ (l m : List Sg) (k : Nat) (h : k < l.length) (hl : l.length = m.length) (he : l.take k = m.take k) (hs : l.getD k (0, 0, 0) = m.getD k (0, 0, 0)) : l.take (k + 1) = m.take (k + 1) := by
  rw [List.take_succ_eq_append_getElem h, List.take_succ_eq_append_getElem (by omega), he]
  simp [List.getD, h, show k < m.length by omega] at hs
  rw [hs]

theorem eqSign_is {s t : Sg} {x : Bool} (h : decide (s.1 = t.1 ∧ s.2.1 = t.2.1 ∧ s.2.2 = t.2.2) = x) (w : World) :
    Calls Try.prog 48 #[.agg #[.int .u8 s.1, .int .i64 s.2.1, .int .i64 s.2.2], .agg #[.int .u8 t.1, .int .i64 t.2.1, .int .i64 t.2.2]] w fun e w' => e = .returned (.bool x) ∧ Below w.heap.size w w' := h ▸ eqSign_any s.1 s.2.1 s.2.2 t.1 t.2.1 t.2.2 w

set_option maxHeartbeats 1000000 in
theorem eqSignS_any (a : Option Addr) (n cap : Nat) (l : List Sg) (a' : Option Addr) (n' cap' : Nat) (m : List Sg) (w : World) (h : Txt w a n cap l) (h' : Txt w a' n' cap' m) :
    Calls Try.prog 22 #[.slice a n cap, .slice a' n' cap'] w fun e w' => e = .returned (.bool (decide (l = m))) ∧ Below w.heap.size w w' := by
  obtain ⟨rfl, hc, hm, hl⟩ := h
  obtain ⟨rfl, hc', hm', hl'⟩ := h'
  unfold maxLen at hm hm'
  by_cases hlen : l.length = m.length
  · have hbq : ((l.length : Int) != (m.length : Int)) = false := by simp [hlen]
    rcases hl with rfl | ⟨b, off, rfl, hbw, hl⟩
    · obtain rfl : m = [] := List.eq_nil_of_length_eq_zero (by simpa using hlen.symm)
      go_enter Try.func22, Try.ntmps22
      go_wp2_with fail
      refine wp_loop_rounds 1 ?_
      rw [rounds_succ]
      go_wp2_with fail
      go_ret
      exact ⟨rfl, Below.refl _ _⟩
    · rcases hl' with rfl | ⟨b', off', rfl, hbw', hl'⟩
      · obtain rfl : l = [] := List.eq_nil_of_length_eq_zero (by simpa using hlen)
        go_enter Try.func22, Try.ntmps22
        go_wp2_with fail
        refine wp_loop_rounds 1 ?_
        rw [rounds_succ]
        go_wp2_with fail
        go_ret
        exact ⟨rfl, Below.refl _ _⟩
      · have HL : Hid (l.length = m.length) := hlen
        have hl1 : l.length ≤ m.length := by omega
        have hl2 : m.length ≤ l.length := by omega
        clear hlen
        go_enter Try.func22, Try.ntmps22
        go_wp2_with fail
        go_loopw [5] (fun i wr => ∃ (k : Nat), k ≤ l.length ∧ i = .int .i64 k ∧ l.take k = m.take k ∧ Below w.heap.size w wr) (fun i _ => l.length - (intOf i).toNat)
        case atStart => exact ⟨0, Nat.zero_le _, rfl, by simp, Below.refl _ _⟩
        case round =>
          obtain ⟨k, hk, rfl, ht, hbl⟩ := hrel
          have hsz := hbl.size
          have HT : Hid (l.take k = m.take k) := ht
          clear ht
          by_cases hlt : k < l.length
          · have hlt' : k < m.length := by omega
            obtain ⟨c0, c1, c2⟩ := (hl.below hbl hbw) k hlt
            obtain ⟨d0, d1, d2⟩ := (hl'.below hbl hbw') k hlt'
            clear hl hl'
            obtain ⟨s, hs⟩ : ∃ s, s = l.getD k (0, 0, 0) := ⟨_, rfl⟩
            obtain ⟨t, ht⟩ : ∃ t, t = m.getD k (0, 0, 0) := ⟨_, rfl⟩
            rw [← hs] at c0 c1 c2
            rw [← ht] at d0 d1 d2
            have HS : Hid (s = l.getD k (0, 0, 0)) := hs
            have HM : Hid (t = m.getD k (0, 0, 0)) := ht
            clear hs ht
            cases hb : decide (s.1 = t.1 ∧ s.2.1 = t.2.1 ∧ s.2.2 = t.2.2)
            · have HF : Hid (decide (l = m) = false) := by
                refine decide_eq_false (list_ne_at l m k ?_)
                rw [← HS.out, ← HM.out]
                exact of_decide_eq_false hb
              have HB : Hid (decide (s.1 = t.1 ∧ s.2.1 = t.2.1 ∧ s.2.2 = t.2.2) = false) := hb
              clear hb
              go_wp2_with fail
              go_region_with (go_at_call 48; refine (eqSign_is (s := s) (t := t) HB.out _).mono ?_; rintro e w1 ⟨rfl, hb1⟩)
              all_goals
                go_wp2_with fail
                go_ret
                exact ⟨by rw [HF.out]; rfl, hbl.drew.trans (hb1.mono hsz)⟩
            · have HB : Hid (decide (s.1 = t.1 ∧ s.2.1 = t.2.1 ∧ s.2.2 = t.2.2) = true) := hb
              clear hb
              go_wp2_with fail
              go_region_with (go_at_call 48; refine (eqSign_is (s := s) (t := t) HB.out _).mono ?_; rintro e w1 ⟨rfl, hb1⟩)
              all_goals
                go_wp2_with fail
                go_roundw
                case rel => exact ⟨k + 1, by omega, by go_num, take_eq_succ l m k hlt HL.out HT.out (by rw [← HS.out, ← HM.out]; exact (sg_eq s t).2 (of_decide_eq_true HB.out)), hbl.drew.trans (hb1.mono hsz)⟩
                case measure => simp [intOf]; omega
          · go_wp2_with fail
            go_ret
            refine ⟨?_, hbl⟩
            have := HT.out
            rw [List.take_of_length_le (by omega), List.take_of_length_le (by omega)] at this
            rw [decide_eq_true this]; rfl
  · have hbq : ((l.length : Int) != (m.length : Int)) = true := by simp; omega
    rw [decide_eq_false (fun e => hlen (by rw [e]))]
    go_enter Try.func22, Try.ntmps22
    go_wp2_with fail
    go_ret
    exact ⟨rfl, Below.refl _ _⟩
end Go.Proofs.Ytmemhmndfcdmbau
