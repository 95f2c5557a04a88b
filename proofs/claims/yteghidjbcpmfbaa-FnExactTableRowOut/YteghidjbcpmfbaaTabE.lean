import Derived.Test.YteghidjbcpmfbaaTabT
namespace Go.Proofs.Yteghidjbcpmfbaa
open Go.RowKit

set_option maxHeartbeats 2000000 in
theorem toTable_any (R C : Int) (a : Option Addr) (n cap : Nat) (l : List Cl) (w : World) (h : Tab w a n cap l) (hn : l.length + totT l ≤ 1048576) :
    Calls Try.prog 11 #[.agg #[.int .i64 R, .int .i64 C, .slice a n cap]] w fun e w' => (∃ b rs, w.heap.size ≤ b ∧ e = .returned (.agg #[.int .i64 R, .int .i64 C, .slice (some ⟨b, 0, none⟩) n n]) ∧ OwnT w' w.heap.size (.slice (some ⟨b, 0, none⟩) n n) rs l) ∧ Below w.heap.size w w' := by
  have H : Hid (Tab w a n cap l) := h
  clear h
  go_enter Try.func11, Try.ntmps11
  go_upto_region 4 with fail
  have B0 : Below w.heap.size w (((w.alloc (.cells #[.int .i64 R, .int .i64 C, .slice a n cap] 24)).alloc (.cells #[.int .i64 0, .int .i64 0, .slice none 0 0] 28)).alloc (.cells #[.int .i64 R, .int .i64 C, .slice none 0 0] 28)) := (((Below.refl _ _).alloc (Nat.le_refl _) _).alloc (by simp) _).alloc (by simp; omega) _
  have G0 : RowAt (((w.alloc (.cells #[.int .i64 R, .int .i64 C, .slice a n cap] 24)).alloc (.cells #[.int .i64 0, .int .i64 0, .slice none 0 0] 28)).alloc (.cells #[.int .i64 R, .int .i64 C, .slice none 0 0] 28)) w.heap.size #[.int .i64 R, .int .i64 C, .slice a n cap] 24 := ((rowAt_new w _ _).alloc _).alloc _
  have G1 : RowAt (((w.alloc (.cells #[.int .i64 R, .int .i64 C, .slice a n cap] 24)).alloc (.cells #[.int .i64 0, .int .i64 0, .slice none 0 0] 28)).alloc (.cells #[.int .i64 R, .int .i64 C, .slice none 0 0] 28)) (w.heap.size + 1) #[.int .i64 0, .int .i64 0, .slice none 0 0] 28 := by
    have := (rowAt_new (w.alloc (.cells #[.int .i64 R, .int .i64 C, .slice a n cap] 24)) #[.int .i64 0, .int .i64 0, .slice none 0 0] 28).alloc (.cells #[.int .i64 R, .int .i64 C, .slice none 0 0] 28)
    simpa using this
  have G2 : RowAt (((w.alloc (.cells #[.int .i64 R, .int .i64 C, .slice a n cap] 24)).alloc (.cells #[.int .i64 0, .int .i64 0, .slice none 0 0] 28)).alloc (.cells #[.int .i64 R, .int .i64 C, .slice none 0 0] 28)) (w.heap.size + 1 + 1) #[.int .i64 R, .int .i64 C, .slice none 0 0] 28 := by
    have := (rowAt_new ((w.alloc (.cells #[.int .i64 R, .int .i64 C, .slice a n cap] 24)).alloc (.cells #[.int .i64 0, .int .i64 0, .slice none 0 0] 28)) #[.int .i64 R, .int .i64 C, .slice none 0 0] 28)
    simpa using this
  generalize (((w.alloc (.cells #[.int .i64 R, .int .i64 C, .slice a n cap] 24)).alloc (.cells #[.int .i64 0, .int .i64 0, .slice none 0 0] 28)).alloc (.cells #[.int .i64 R, .int .i64 C, .slice none 0 0] 28)) = v0 at B0 G0 G1 G2 ⊢
  have k2 : v0.cell? ⟨w.heap.size, 2, none⟩ = some (.slice a n cap) := G0.cell 2
  have l2 := G2.lt
  have l1 := G1.lt
  have H1 : Hid (RowAt v0 (w.heap.size + 1) #[.int .i64 0, .int .i64 0, .slice none 0 0] 28) := G1
  have H2 : Hid (RowAt v0 (w.heap.size + 1 + 1) #[.int .i64 R, .int .i64 C, .slice none 0 0] 28) := G2
  clear G0 G1 G2
  go_upto_region 5 with (go_at_call 31; refine (toCellS_any _ _ _ l _ (H.out.below B0) hn).mono ?_; rintro e w1 ⟨rfl, ⟨rs, ho1⟩, hb1⟩; have q1 : w1.cell? ⟨w.heap.size + 1 + 1, 2, none⟩ = some (.slice none 0 0) := (H2.out.below hb1 l2).cell 2; have q2 := (H2.out.below hb1 l2).frozen 2)
  have G2 := (H2.out.below hb1 l2).setCell 2 (.slice (some ⟨v0.heap.size, 0, none⟩) n n)
  have G1 := (H1.out.below hb1 l1).other ⟨w.heap.size + 1 + 1, 2, none⟩ (.slice (some ⟨v0.heap.size, 0, none⟩) n n) (by simp <;> omega)
  have bk : ∀ k, k < rs.length → ∀ g, (rwT (rs.getD k rw0)).ownBlock = some g → v0.heap.size ≤ g := fun k hk g hg => (own_lt (ho1.2.2.1 k hk).2.2.2.2 hg).1
  have O1 : OwnT (w1.setCell ⟨w.heap.size + 1 + 1, 2, none⟩ (.slice (some ⟨v0.heap.size, 0, none⟩) n n)) v0.heap.size (.slice (some ⟨v0.heap.size, 0, none⟩) n n) rs l :=
    ⟨own_set ho1.1 _ _ (by simp [Value.ownBlock]; omega), ho1.2.1, fun k hk => by
      obtain ⟨h0, h1, h2, h3, h4⟩ := ho1.2.2.1 k hk
      exact ⟨h0, h1, h2, h3, own_set h4 _ _ (fun e => by have := bk k hk _ e; simp at this; omega)⟩, ho1.2.2.2⟩
  have B1 : Below w.heap.size w (w1.setCell ⟨w.heap.size + 1 + 1, 2, none⟩ (.slice (some ⟨v0.heap.size, 0, none⟩) n n)) := (B0.trans (hb1.mono B0.size)).setCell (by show _ ≤ w.heap.size + 1 + 1; omega) _
  clear q1 q2 ho1 hb1
  generalize (w1.setCell ⟨w.heap.size + 1 + 1, 2, none⟩ (.slice (some ⟨v0.heap.size, 0, none⟩) n n)) = w2 at G2 G1 O1 B1 ⊢
  have e0 : w2.cell? ⟨w.heap.size + 1 + 1, 0, none⟩ = some (.int .i64 R) := G2.cell 0
  have e1 : w2.cell? ⟨w.heap.size + 1 + 1, 1, none⟩ = some (.int .i64 C) := G2.cell 1
  have e2 : w2.cell? ⟨w.heap.size + 1 + 1, 2, none⟩ = some (.slice (some ⟨v0.heap.size, 0, none⟩) n n) := G2.cell 2
  have HR : Hid (RowAt w2 (w.heap.size + 1) #[.int .i64 0, .int .i64 0, .slice none 0 0] 28) := G1
  have HL := G2.lt
  have s0 := B0.size
  have HO : Hid (OwnT w2 v0.heap.size (.slice (some ⟨v0.heap.size, 0, none⟩) n n) rs l) := O1
  have HK : Hid (∀ k, k < rs.length → ∀ g, (rwT (rs.getD k rw0)).ownBlock = some g → v0.heap.size ≤ g) := bk
  clear G1 G2 O1 bk
  go_wp2_with ((refine wpList_store_row rfl 28 (.tmp 2) (.tmp 14) rfl (w.heap.size + 1) #[.int .i64 R, .int .i64 C, .slice (some ⟨v0.heap.size, 0, none⟩) n n] rfl rfl 28 _ HR.out tab_info rfl (cells3_one _ _ _ _ _) ?_))
  refine bodyPost_ret (v := .agg #[.int .i64 R, .int .i64 C, .slice (some ⟨v0.heap.size, 0, none⟩) n n]) (results_cell_row (p := 2) (ty := 28) rfl _ _ (w.heap.size + 1) 28 _ _ _ rfl (RowAt.setRow HR.out _) Try.underlying28 rfl tab_info) rfl ⟨⟨v0.heap.size, rs, by omega, rfl, ?_⟩, below_row B1 (by omega) _⟩
  refine OwnT.less (B' := v0.heap.size) ⟨own_row HO.out.1 _ _ (by simp [Value.ownBlock]; omega), HO.out.2.1, fun k hk => ?_, HO.out.2.2.2⟩ (by omega)
  obtain ⟨h0, h1, h2, h3, h4⟩ := HO.out.2.2.1 k hk
  exact ⟨h0, h1, h2, h3, own_row h4 _ _ (fun e => by have := HK.out k hk _ e; omega)⟩

theorem cl_eq (x y : Cl) : (x = y) ↔ (x.1 = y.1 ∧ x.2.1 = y.2.1 ∧ x.2.2.1 = y.2.2.1 ∧ x.2.2.2.1 = y.2.2.2.1 ∧ x.2.2.2.2 = y.2.2.2.2) := by
  obtain ⟨a, b, c, d, e⟩ := x
  obtain ⟨a', b', c', d', e'⟩ := y
  simp
theorem eqSignS_is {a : Option Addr} {n cap : Nat} {l : List Sg} {a' : Option Addr} {n' cap' : Nat} {m : List Sg} {w : World} {x : Bool} (hx : decide (l = m) = x) (h : Txt w a n cap l) (h' : Txt w a' n' cap' m) :
    Calls Try.prog 72 #[.slice a n cap, .slice a' n' cap'] w fun e w' => e = .returned (.bool x) ∧ Below w.heap.size w w' := hx ▸ eqSignS_any a n cap l a' n' cap' m w h h'
set_option maxHeartbeats 4000000 in
theorem eqCell_is (r c d g : Int) (a : Option Addr) (n cap : Nat) (l : List Sg) (r' c' d' g' : Int) (a' : Option Addr) (n' cap' : Nat) (m : List Sg) (w : World) (h : Txt w a n cap l) (h' : Txt w a' n' cap' m) {x : Bool} (hx : x = true ↔ ((r, c, d, g, l) : Cl) = (r', c', d', g', m)) :
    Calls Try.prog 61 #[.agg #[.int .i64 r, .int .i64 c, .int .i64 d, .int .i64 g, .slice a n cap], .agg #[.int .i64 r', .int .i64 c', .int .i64 d', .int .i64 g', .slice a' n' cap']] w fun e w' => e = .returned (.bool x) ∧ Below w.heap.size w w' := by
  have H : Hid (Txt w a n cap l) := h
  have H' : Hid (Txt w a' n' cap' m) := h'
  clear h h'
  have bb : Below w.heap.size w ((w.alloc (.cells #[.int .i64 r, .int .i64 c, .int .i64 d, .int .i64 g, .slice a n cap] 44)).alloc (.cells #[.int .i64 r', .int .i64 c', .int .i64 d', .int .i64 g', .slice a' n' cap'] 44)) := ((Below.refl _ _).alloc (Nat.le_refl _) _).alloc (by simp) _
  by_cases h0 : r = r'
  · by_cases h1 : c = c'
    · by_cases h2 : d = d'
      · by_cases h3 : g = g'
        · subst h0 h1 h2 h3
          have HX : Hid (decide (l = m) = x) := by
            show decide (l = m) = x
            rw [Bool.eq_iff_iff, hx, decide_eq_true_eq]
            simp
          clear hx
          cases x
          · go_enter Try.func61, Try.ntmps61
            go_wp2_with (go_at_call 72; refine (eqSignS_is HX.out (H.out.below bb) (H'.out.below bb)).mono ?_; rintro e w1 ⟨rfl, hb1⟩)
            go_ret
            exact ⟨rfl, bb.trans (hb1.mono (by simp; omega))⟩
          · go_enter Try.func61, Try.ntmps61
            go_wp2_with (go_at_call 72; refine (eqSignS_is HX.out (H.out.below bb) (H'.out.below bb)).mono ?_; rintro e w1 ⟨rfl, hb1⟩)
            go_ret
            exact ⟨rfl, bb.trans (hb1.mono (by simp; omega))⟩
        · subst h0 h1 h2
          obtain rfl : x = false := by
              rw [← Bool.not_eq_true, hx]
              exact fun e => h3 (by simp at e; exact e.1)
          have k : (g != g') = true := by simp; exact h3
          go_enter Try.func61, Try.ntmps61
          go_wp2_with fail
          go_ret
          exact ⟨rfl, bb⟩
      · subst h0 h1
        obtain rfl : x = false := by
              rw [← Bool.not_eq_true, hx]
              exact fun e => h2 (by simp at e; exact e.1)
        have k : (d != d') = true := by simp; exact h2
        go_enter Try.func61, Try.ntmps61
        go_wp2_with fail
        go_ret
        exact ⟨rfl, bb⟩
    · subst h0
      obtain rfl : x = false := by
              rw [← Bool.not_eq_true, hx]
              exact fun e => h1 (by simp at e; exact e.1)
      have k : (c != c') = true := by simp; exact h1
      go_enter Try.func61, Try.ntmps61
      go_wp2_with fail
      go_ret
      exact ⟨rfl, bb⟩
  · obtain rfl : x = false := by
              rw [← Bool.not_eq_true, hx]
              exact fun e => h0 (by simp at e; exact e.1)
    have k : (r != r') = true := by simp; exact h0
    go_enter Try.func61, Try.ntmps61
    go_wp2_with fail
    go_ret
    exact ⟨rfl, bb⟩
theorem take_eq_succC (l m : List Cl) (k : Nat) (h : k < l.length) (hl : l.length = m.length) (he : l.take k = m.take k) (hs : l.getD k cl0 = m.getD k cl0) : l.take (k + 1) = m.take (k + 1) := by
  rw [List.take_succ_eq_append_getElem h, List.take_succ_eq_append_getElem (by omega), he]
  simp only [List.getD, List.getElem?_eq_getElem h, List.getElem?_eq_getElem (show k < m.length by omega), Option.getD_some] at hs
  rw [hs]
set_option maxHeartbeats 4000000 in
theorem eqCellS_is {a : Option Addr} {n cap : Nat} {l : List Cl} {a' : Option Addr} {n' cap' : Nat} {m : List Cl} {w : World} {x : Bool} (hx : x = true ↔ l = m) (h : Tab w a n cap l) (h' : Tab w a' n' cap' m) :
    Calls Try.prog 37 #[.slice a n cap, .slice a' n' cap'] w fun e w' => e = .returned (.bool x) ∧ Below w.heap.size w w' := by
  have HXX : Hid (x = true ↔ l = m) := hx
  clear hx
  obtain ⟨rfl, hc, hm, hl⟩ := h
  obtain ⟨rfl, hc', hm', hl'⟩ := h'
  unfold maxLen at hm hm'
  by_cases hlen : l.length = m.length
  · have hbq : ((l.length : Int) != (m.length : Int)) = false := by simp [hlen]
    have HL : Hid (l.length = m.length) := hlen
    have hl1 : l.length ≤ m.length := by omega
    have hl2 : m.length ≤ l.length := by omega
    clear hlen
    go_enter Try.func37, Try.ntmps37
    go_wp2_with fail
    go_loopw [5] (fun i wr => ∃ (k : Nat), k ≤ l.length ∧ i = .int .i64 k ∧ l.take k = m.take k ∧ Below w.heap.size w wr) (fun i _ => l.length - (intOf i).toNat)
    case atStart => exact ⟨0, Nat.zero_le _, rfl, by simp, Below.refl _ _⟩
    case round =>
      obtain ⟨k, hk, rfl, ht, hbl⟩ := hrel
      have hsz := hbl.size
      have HT : Hid (l.take k = m.take k) := ht
      have HB : Hid (Below w.heap.size w wr) := hbl
      clear ht
      by_cases hlt : k < l.length
      · have hlt' : k < m.length := by omega
        rcases hl with e | ⟨b, off, rfl, hbw, hl⟩
        · rw [e] at hlt
          exact absurd hlt (by simp)
        rcases hl' with e | ⟨b', off', rfl, hbw', hl'⟩
        · rw [e] at hlt'
          exact absurd hlt' (by simp)
        obtain ⟨c0, c1, c2, c3, ta, tn, tc, c4, htx⟩ := (hl k hlt).below hbl hbw
        obtain ⟨d0, d1, d2, d3, ta', tn', tc', d4, htx'⟩ := (hl' k hlt').below hbl hbw'
        clear hl hl'
        obtain ⟨⟨r, c, d, g, tx⟩, hs⟩ : ∃ s, s = l.getD k cl0 := ⟨_, rfl⟩
        obtain ⟨⟨r', c', d', g', tx'⟩, hs'⟩ : ∃ t, t = m.getD k cl0 := ⟨_, rfl⟩
        rw [← hs] at c0 c1 c2 c3 htx
        rw [← hs'] at d0 d1 d2 d3 htx'
        simp only at c0 c1 c2 c3 htx d0 d1 d2 d3 htx'
        have HS : Hid ((r, c, d, g, tx) = l.getD k cl0) := hs
        have HM : Hid ((r', c', d', g', tx') = m.getD k cl0) := hs'
        have HX : Hid (Txt wr ta tn tc tx) := htx
        have HX' : Hid (Txt wr ta' tn' tc' tx') := htx'
        clear hs hs' htx htx' hbl
        by_cases hb : ((r, c, d, g, tx) : Cl) = (r', c', d', g', tx')
        rotate_left
        · have HF : Hid (x = false) := by
            show x = false
            rw [← Bool.not_eq_true, HXX.out]
            intro e
            rw [HS.out, HM.out, e] at hb
            exact hb rfl
          have HBQ : Hid (false = true ↔ ((r, c, d, g, tx) : Cl) = (r', c', d', g', tx')) := ⟨fun e => by simp at e, fun e => absurd e hb⟩
          clear hb
          go_wp2_with fail
          go_region_with (go_at_call 61; refine (eqCell_is _ _ _ _ _ _ _ tx _ _ _ _ _ _ _ tx' _ (HX.out.below (Below.refl _ _).drew) (HX'.out.below (Below.refl _ _).drew) HBQ.out).mono ?_; rintro e w1 ⟨rfl, hb1⟩)
          all_goals
            go_wp2_with fail
            go_ret
            exact ⟨by rw [HF.out]; rfl, HB.out.drew.trans (hb1.mono hsz)⟩
        · have HBQ : Hid (((r, c, d, g, tx) : Cl) = (r', c', d', g', tx')) := hb
          clear hb
          go_wp2_with fail
          go_region_with (go_at_call 61; refine (eqCell_is (x := true) _ _ _ _ _ _ _ tx _ _ _ _ _ _ _ tx' _ (HX.out.below (Below.refl _ _).drew) (HX'.out.below (Below.refl _ _).drew) ⟨fun _ => HBQ.out, fun _ => rfl⟩).mono ?_; rintro e w1 ⟨rfl, hb1⟩)
          all_goals
            go_wp2_with fail
            go_roundw
            case rel => exact ⟨k + 1, by omega, by go_num, take_eq_succC l m k hlt HL.out HT.out (by rw [← HS.out, ← HM.out]; exact HBQ.out), HB.out.drew.trans (hb1.mono hsz)⟩
            case measure => simp [intOf]; omega
      · go_wp2_with fail
        go_ret
        refine ⟨?_, HB.out⟩
        have := HT.out
        rw [List.take_of_length_le (by omega), List.take_of_length_le (by omega)] at this
        rw [HXX.out.2 this]; rfl
  · have hbq : ((l.length : Int) != (m.length : Int)) = true := by simp; omega
    obtain rfl : x = false := by
      rw [← Bool.not_eq_true, HXX.out]
      exact fun e => hlen (by rw [e])
    go_enter Try.func37, Try.ntmps37
    go_wp2_with fail
    go_ret
    exact ⟨rfl, Below.refl _ _⟩
set_option maxHeartbeats 4000000 in
theorem eqTable_same (R C : Int) (a : Option Addr) (n cap : Nat) (l : List Cl) (a' : Option Addr) (n' cap' : Nat) (w : World) (h : Tab w a n cap l) (h' : Tab w a' n' cap' l) :
    Calls Try.prog 13 #[.agg #[.int .i64 R, .int .i64 C, .slice a n cap], .agg #[.int .i64 R, .int .i64 C, .slice a' n' cap']] w fun e w' => e = .returned (.bool true) ∧ Below w.heap.size w w' := by
  have H : Hid (Tab w a n cap l) := h
  have H' : Hid (Tab w a' n' cap' l) := h'
  clear h h'
  have bb : Below w.heap.size w ((w.alloc (.cells #[.int .i64 R, .int .i64 C, .slice a n cap] 28)).alloc (.cells #[.int .i64 R, .int .i64 C, .slice a' n' cap'] 28)) := ((Below.refl _ _).alloc (Nat.le_refl _) _).alloc (by simp) _
  go_enter Try.func13, Try.ntmps13
  go_wp2_with (go_at_call 37; refine (eqCellS_is (x := true) ⟨fun _ => rfl, fun _ => rfl⟩ (H.out.below bb) (H'.out.below bb)).mono ?_; rintro e w1 ⟨rfl, hb1⟩)
  go_ret
  exact ⟨rfl, bb.trans (hb1.mono (by simp; omega))⟩
end Go.Proofs.Yteghidjbcpmfbaa
