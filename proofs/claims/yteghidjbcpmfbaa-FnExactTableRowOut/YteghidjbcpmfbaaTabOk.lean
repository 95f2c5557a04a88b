import Derived.Test.YteghidjbcpmfbaaTabS
namespace Go.Proofs.Yteghidjbcpmfbaa
open Go.RowKit

theorem formB_of {R C : Int} {l : List Cl} (h : formB R C l = true) : (1 ≤ R ∧ R ≤ 5) ∧ (1 ≤ C ∧ C ≤ 5) ∧ l.length ≤ 25 ∧ ∀ k, k < l.length → atB R C l k = true := by
  simp only [formB, Bool.and_eq_true, decide_eq_true_eq, List.all_eq_true, List.mem_range] at h
  obtain ⟨⟨⟨h0, h1⟩, h2⟩, h3⟩ := h
  exact ⟨h0, h1, h2, h3⟩
theorem cellB_of {R C : Int} {x : Cl} (h : cellB R C x = true) : (0 ≤ x.1 ∧ x.1 ≤ R - 1) ∧ (0 ≤ x.2.1 ∧ x.2.1 ≤ C - 1) ∧ (1 ≤ x.2.2.1 ∧ x.2.2.1 ≤ R - x.1) ∧ (1 ≤ x.2.2.2.1 ∧ x.2.2.2.1 ≤ C - x.2.1) ∧ textB x.2.2.2.2 = true := by
  simp only [cellB, Bool.and_eq_true, decide_eq_true_eq] at h
  obtain ⟨⟨⟨⟨h0, h1⟩, h2⟩, h3⟩, h4⟩ := h
  exact ⟨h0, h1, h2, h3, h4⟩
theorem atB_cell {R C : Int} {l : List Cl} {k : Nat} (h : atB R C l k = true) : cellB R C (l.getD k cl0) = true := by
  simp only [atB, Bool.and_eq_true] at h
  exact h.1

/-- How many of the cells a square is of. -/
def cnt (l : List Cl) (r c : Int) : Nat := l.countP fun x => inB x r c
def colB (C : Int) (l : List Cl) (r : Nat) : Bool := (List.range C.toNat).all fun c => decide (cnt l r c = 1)
def okB (R C : Int) (l : List Cl) : Bool := formB R C l && (List.range R.toNat).all (colB C l)
theorem cnt_take_succ (l : List Cl) (r c : Int) (k : Nat) (hk : k < l.length) : cnt (l.take (k + 1)) r c = cnt (l.take k) r c + (inB (l.getD k cl0) r c).toNat := by
  have e : l.getD k cl0 = l[k] := by simp [List.getD, hk]
  unfold cnt
  rw [e, List.take_succ_eq_append_getElem hk, List.countP_append]
  cases h : inB l[k] r c <;> simp [h]
theorem cnt_le (l : List Cl) (r c : Int) : cnt l r c ≤ l.length := List.countP_le_length

theorem l2In_is {r c d h : Int} {t : List Sg} {a b : Int} {z : Bool} (hz : inB (r, c, d, h, t) a b = z) (ta : Option Addr) (tn tc : Nat) (w : World) (hr : sml r) (hc : sml c) (hd : sml d) (hh : sml h) :
    Calls Try.prog 43 #[.agg #[.int .i64 r, .int .i64 c, .int .i64 d, .int .i64 h, .slice ta tn tc], .int .i64 a, .int .i64 b] w fun e w' => e = .returned (.bool z) ∧ Below w.heap.size w w' := by
  subst hz
  exact l2In_any r c d h ta tn tc a b w hr hc hd hh
theorem l2Form_is {R C : Int} {a : Option Addr} {n cap : Nat} {l : List Cl} {w : World} {x : Bool} (hx : formB R C l = x) (h : Tab w a n cap l) :
    Calls Try.prog 53 #[.agg #[.int .i64 R, .int .i64 C, .slice a n cap]] w fun e w' => e = .returned (.bool x) ∧ Below w.heap.size w w' := hx ▸ l2Form_any R C a n cap l w h

set_option maxRecDepth 100000 in
set_option maxHeartbeats 4000000 in
theorem specTableOk_any (R C : Int) (a : Option Addr) (n cap : Nat) (l : List Cl) (w : World) (h : Tab w a n cap l) :
    Calls Try.prog 27 #[.agg #[.int .i64 R, .int .i64 C, .slice a n cap]] w fun e w' => e = .returned (.bool (okB R C l)) ∧ Below w.heap.size w w' := by
  have H : Hid (Tab w a n cap l) := h
  obtain ⟨rfl, hc, hm, hl⟩ := h
  unfold maxLen at hm
  cases hf : formB R C l
  · rw [show okB R C l = false from by simp only [okB, hf, Bool.false_and]]
    have HF : Hid (formB R C l = false) := hf
    clear hf hl
    go_enter Try.func27, Try.ntmps27
    go_wp2_with (go_at_call 53; refine (l2Form_is HF.out (H.out.below ((Below.refl _ _).alloc (Nat.le_refl _) _))).mono ?_; rintro e w1 ⟨rfl, hb1⟩)
    go_ret
    exact ⟨rfl, ((Below.refl _ _).alloc (Nat.le_refl _) _).trans (hb1.mono (by simp))⟩
  rw [show okB R C l = (List.range R.toNat).all (colB C l) from by simp only [okB, hf, Bool.true_and]]
  obtain ⟨hR, hC, hlen, hat⟩ := formB_of hf
  have HF : Hid (formB R C l = true) := hf
  have HT : Hid (∀ k, k < l.length → atB R C l k = true) := hat
  have HL : Hid (l = [] ∨ ∃ b off, a = some ⟨b, off, none⟩ ∧ b < w.heap.size ∧ ∀ k, k < l.length → CellAt w b (off + k * 5) (l.getD k cl0)) := hl
  clear hf hl hat
  go_enter Try.func27, Try.ntmps27
  go_wp2_with (go_at_call 53; refine (l2Form_is HF.out (H.out.below ((Below.refl _ _).alloc (Nat.le_refl _) _))).mono ?_; rintro e w1 ⟨rfl, hb1⟩)
  have k0 : w1.cell? ⟨w.heap.size, 0, none⟩ = some (.int .i64 R) := (hb1.cell (p := ⟨w.heap.size, 0, none⟩) (by simp)).trans (by simp)
  have k1 : w1.cell? ⟨w.heap.size, 1, none⟩ = some (.int .i64 C) := (hb1.cell (p := ⟨w.heap.size, 1, none⟩) (by simp)).trans (by simp)
  have k2 : w1.cell? ⟨w.heap.size, 2, none⟩ = some (.slice a l.length cap) := (hb1.cell (p := ⟨w.heap.size, 2, none⟩) (by simp)).trans (by simp)
  have z0 : w.heap.size < w1.heap.size := by have := hb1.size; simp at this; omega
  have B0 : Hid (Below w.heap.size w w1) := ((Below.refl _ _).alloc (Nat.le_refl _) _).trans (hb1.mono (by simp))
  clear hb1
  go_loopw [3] (fun i wr => ∃ k : Nat, (k : Int) ≤ R ∧ i = .int .i64 k ∧ (List.range k).all (colB C l) = true ∧ Below w1.heap.size w1 wr) (fun i _ => R.toNat - (intOf i).toNat)
  case atStart => exact ⟨0, by omega, rfl, by simp, Below.refl _ _⟩
  case round =>
    obtain ⟨p, hp, rfl, hall, hbl⟩ := hrel
    have HA : Hid ((List.range p).all (colB C l) = true) := hall
    have HB : Hid (Below w1.heap.size w1 wr) := hbl
    have j0 := (hbl.cell (p := ⟨w.heap.size, 0, none⟩) z0).trans k0
    have j1 := (hbl.cell (p := ⟨w.heap.size, 1, none⟩) z0).trans k1
    have j2 := (hbl.cell (p := ⟨w.heap.size, 2, none⟩) z0).trans k2
    have zr : w.heap.size < wr.heap.size := Nat.lt_of_lt_of_le z0 hbl.size
    have sr := hbl.size
    clear hall hbl
    by_cases hlt : (p : Int) < R
    · clear k0 k1 k2
      go_wp2_with fail
      go_loopw [4] (fun i wq => ∃ k : Nat, (k : Int) ≤ C ∧ i = .int .i64 k ∧ ((List.range k).all fun c => decide (cnt l p c = 1)) = true ∧ Below wr.heap.size wr wq) (fun i _ => C.toNat - (intOf i).toNat)
      case atStart => exact ⟨0, by omega, rfl, by simp, Below.refl _ _⟩
      case round =>
        obtain ⟨q, hq, rfl, hall, hbl⟩ := hrel
        have HA2 : Hid (((List.range q).all fun c => decide (cnt l p c = 1)) = true) := hall
        have HB2 : Hid _ := hbl
        have i0 := (hbl.cell (p := ⟨w.heap.size, 0, none⟩) zr).trans j0
        have i1 := (hbl.cell (p := ⟨w.heap.size, 1, none⟩) zr).trans j1
        have i2 := (hbl.cell (p := ⟨w.heap.size, 2, none⟩) zr).trans j2
        have zq := Nat.lt_of_lt_of_le zr hbl.size
        have sq := hbl.size
        clear hall hbl
        by_cases hlq : (q : Int) < C
        · clear j0 j1 j2
          go_wp2_with fail
          go_loopw [5, 6] (fun nv i wi => ∃ k : Nat, k ≤ l.length ∧ i = .int .i64 k ∧ nv = .int .i64 (cnt (l.take k) p q : Nat) ∧ Below wr.heap.size wr wi) (fun _ i _ => l.length - (intOf i).toNat)
          case atStart => exact ⟨0, by omega, rfl, rfl, Below.refl _ _⟩
          case round =>
            obtain ⟨k, hk, rfl, rfl, hbl⟩ := hrel
            have HB3 : Hid _ := hbl
            have g0 := (hbl.cell (p := ⟨w.heap.size, 0, none⟩) zq).trans i0
            have g1 := (hbl.cell (p := ⟨w.heap.size, 1, none⟩) zq).trans i1
            have g2 := (hbl.cell (p := ⟨w.heap.size, 2, none⟩) zq).trans i2
            have zi := Nat.lt_of_lt_of_le zq hbl.size
            have si := hbl.size
            clear hbl i0 i1 i2
            have HW : Hid (Below w.heap.size w wr) := B0.out.trans ((HB.out.trans ((HB2.out.trans (HB3.out.mono sq)).mono sr)).mono (Nat.le_of_lt z0))
            by_cases hlk : k < l.length
            · rcases HL.out with e | ⟨b, off, rfl, hbw, hl⟩
              · rw [e] at hlk
                exact absurd hlk (by simp)
              obtain ⟨c0, c1, c2, c3, ta, tn, tc, c4, -⟩ := (hl k hlk).below HW.out hbw
              obtain ⟨⟨s0, s1⟩, ⟨s2, s3⟩, ⟨s4, s5⟩, ⟨s6, s7⟩, -⟩ := cellB_of (atB_cell (HT.out k hlk))
              have hn := cnt_take_succ l p q k hlk
              have hle := cnt_le (l.take k) p q
              obtain ⟨⟨r, c, d, g, t⟩, hx⟩ : ∃ x, x = l.getD k cl0 := ⟨_, rfl⟩
              rw [← hx] at c0 c1 c2 c3 s0 s1 s2 s3 s4 s5 s6 s7 hn
              simp only at c0 c1 c2 c3 s0 s1 s2 s3 s4 s5 s6 s7
              rw [List.length_take] at hle
              generalize cnt (l.take k) p q = m at hn hle ⊢
              have hm25 : m ≤ 25 := by omega
              clear hle hx hl
              have y0 : sml r := ⟨by omega, by omega⟩
              have y1 : sml c := ⟨by omega, by omega⟩
              have y2 : sml d := ⟨by omega, by omega⟩
              have y3 : sml g := ⟨by omega, by omega⟩
              clear s0 s1 s2 s3 s4 s5 s6 s7
              cases hz : inB (r, c, d, g, t) p q
              · rw [hz] at hn
                have HN : Hid (cnt (l.take (k + 1)) p q = m) := hn
                have HZ : Hid (inB (r, c, d, g, t) p q = false) := hz
                clear hn hz
                go_wp2_with (go_at_call 43; refine (l2In_is (t := t) HZ.out ta tn tc _ y0 y1 y2 y3).mono ?_; rintro e w3 ⟨rfl, hb3⟩)
                go_roundw
                case rel => exact ⟨k + 1, by omega, by go_num, by rw [HN.out], HB3.out.trans (hb3.mono si)⟩
                case measure => simp [intOf]; omega
              · rw [hz] at hn
                have HN : Hid (cnt (l.take (k + 1)) p q = m + 1) := hn
                have HZ : Hid (inB (r, c, d, g, t) p q = true) := hz
                clear hn hz
                go_wp2_with (go_at_call 43; refine (l2In_is (t := t) HZ.out ta tn tc _ y0 y1 y2 y3).mono ?_; rintro e w3 ⟨rfl, hb3⟩)
                go_roundw
                case rel => exact ⟨k + 1, by omega, by go_num, by rw [HN.out]; go_num, HB3.out.trans (hb3.mono si)⟩
                case measure => simp [intOf]; omega
            · have e : l.take k = l := List.take_of_length_le (by omega)
              rw [e]
              have hle := cnt_le l p q
              by_cases h1 : cnt l p q = 1
              · have HC1 : Hid (cnt l p q = 1) := h1
                rw [h1]
                clear e hle h1
                go_wp2_with fail
                go_roundw
                case rel => exact ⟨q + 1, by omega, by go_num, by rw [range_all_succ, HA2.out, HC1.out]; rfl, HB2.out.trans (HB3.out.mono sq)⟩
                case measure => simp [intOf]; omega
              · have HF : Hid ((List.range R.toNat).all (colB C l) = false) := range_all_false (k := p) (by omega) (range_all_false (k := q) (by omega) (decide_eq_false h1))
                generalize cnt l p q = m at h1 hle ⊢
                have hb : ((m : Int) != 1) = true := by simp; omega
                clear e
                go_wp2_with fail
                go_ret
                exact ⟨by rw [HF.out]; rfl, HW.out⟩
        · clear j1 j2
          go_wp2_with fail
          go_roundw
          case rel => exact ⟨p + 1, by omega, by go_num, by rw [range_all_succ, HA.out]; have hh := HA2.out; rw [show q = C.toNat from by omega] at hh; simp only [colB, hh]; rfl, HB.out.trans (HB2.out.mono sr)⟩
          case measure => simp [intOf]; omega
    · go_wp2_with fail
      go_ret
      exact ⟨by have hh := HA.out; rw [show p = R.toNat from by omega] at hh; rw [hh]; rfl, B0.out.trans (HB.out.mono (Nat.le_of_lt z0))⟩
end Go.Proofs.Yteghidjbcpmfbaa
