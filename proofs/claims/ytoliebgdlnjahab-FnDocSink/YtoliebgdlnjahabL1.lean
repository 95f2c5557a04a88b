import Derived.Test.YtoliebgdlnjahabBA5
import Derived.Test.YtoliebgdlnjahabBD1
import Derived.Test.YtoliebgdlnjahabBA6
import Derived.Test.YtoliebgdlnjahabBA1
namespace Go.Proofs.Ytoliebgdlnjahab
open Go.RowKit

/-- What stands in a round of the drawing. -/
def SiInv (B g : Nat) (w : World) (B0 X q1 : Nat) (a : Option Addr) (m c : Nat) (d : List Bl) (q : Nat) (wr : World) : Prop := ∃ rbs, m = d.length ∧ DocSp d ∧ q ≤ q1 ∧ X < wr.heap.size ∧ RowAt wr w.heap.size #[.slice none 0 0] 25 ∧ RowAt wr X #[.slice a m c] 25 ∧ DocX wr B0 (.slice a m c) rbs d ∧ Rd B wr g q ∧ Below w.heap.size w wr
theorem rd_row {B g p X : Nat} {w : World} {cs : Array Value} (h : Rd B w g p) (hX : g < X) : Rd B (w.setRow X cs) g p := by
  have hlt := h.lt
  exact h.below (below_row (B := g + 1) (Below.refl _ _) (by omega) _) (by omega)
set_option maxRecDepth 100000 in
set_option maxHeartbeats 16000000 in
theorem drDrawDocSink_any (B : Nat) (a : Option Addr) (n cap : Nat) (zs : List Int) (w : World) (h : Byt B w a n cap zs) (hB : B ≤ w.heap.size) :
    Calls Try.prog 9 #[.slice a n cap] w fun e w' => (∃ (a' : Option Addr) (m' c' : Nat) (d' : List Bl) (z : Int), e = .returned (.tuple #[.agg #[.slice a' m' c'], .int .i64 z]) ∧ Dc w' a' m' c' d' ∧ DocSp d' ∧ -1 ≤ z ∧ z ≤ 11) ∧ Below w.heap.size w w' := by
  have HY : Hid (Byt B w a n cap zs) := h
  clear h
  go_enter Try.func9, Try.ntmps9
  go_upto_region 1 with fail
  have B0 : Below w.heap.size w (w.alloc (.cells #[.slice none 0 0] 25)) := (Below.refl _ _).alloc (Nat.le_refl _) _
  have Z0 : RowAt (w.alloc (.cells #[.slice none 0 0] 25)) w.heap.size #[.slice none 0 0] 25 := rowAt_new _ _ _
  have HY0 : Hid (Byt B (w.alloc (.cells #[.slice none 0 0] 25)) a n cap zs) := HY.out.belowC B0 hB
  generalize (w.alloc (.cells #[.slice none 0 0] 25)) = v0 at B0 Z0 HY0 ⊢
  have s0 := B0.size
  have zz := Z0.lt
  go_wp2_with fail
  refine (l6Open_any B a n cap zs _ HY0.out (by omega)).mono ?_
  rintro e w1 ⟨rfl, hr1, hb1⟩
  have s1 := hb1.size
  have HR1 : Hid (Rd B w1 v0.heap.size 0) := hr1
  have hlt := hr1.lt
  clear hr1
  obtain ⟨g, hg⟩ : ∃ g, v0.heap.size = g := ⟨_, rfl⟩
  rw [hg] at HR1 hlt s1 ⊢
  have hgw : w.heap.size < g := by omega
  go_wp2_with fail
  refine (l71Kinds_any B g 0 2 _ HR1.out (by omega)).mono ?_
  rintro e w2 ⟨a, m, c, d, z, q, rfl, ⟨rbs, hX⟩, hS, hz0, hz1, hr2, hq2, hf2⟩
  have s2 := hf2.size
  have HGw2 : Hid (RowAt w2 w.heap.size #[.slice none 0 0] 25) := (Z0.below hb1 (by omega)).fr hf2 (by omega)
  have HBww2 : Hid (Below w.heap.size w w2) := below_of_fr3 B0 hb1 hf2 (by omega) s0
  have HXw2 : Hid (DocX w2 w1.heap.size (.slice a m c) rbs d) := hX
  have HS : Hid (DocSp d) := hS
  have HRw2 : Hid (Rd B w2 g q) := hr2
  clear hX hS hr2 hf2 hb1 Z0 B0 HR1 HY0 HY hg
  go_upto_region 3 with fail
  have T3 : RowAt (w2.alloc (.cells #[.slice a m c] 25)) w2.heap.size #[.slice a m c] 25 := rowAt_new _ _ _
  have HX3 : Hid (DocX (w2.alloc (.cells #[.slice a m c] 25)) w1.heap.size (.slice a m c) rbs d) := HXw2.out.alloc _
  have HG3 : Hid (RowAt (w2.alloc (.cells #[.slice a m c] 25)) w.heap.size #[.slice none 0 0] 25) := HGw2.out.alloc _
  have HB3 : Hid (Below w.heap.size w (w2.alloc (.cells #[.slice a m c] 25))) := HBww2.out.alloc (by omega) _
  have HR3 : Hid (Rd B (w2.alloc (.cells #[.slice a m c] 25)) g q) := HRw2.out.alloc _
  have sv3 : w2.heap.size < (w2.alloc (.cells #[.slice a m c] 25)).heap.size := by simp
  generalize (w2.alloc (.cells #[.slice a m c] 25)) = v3 at T3 HX3 HG3 HB3 HR3 sv3 ⊢
  obtain ⟨X, hX⟩ : ∃ X, w2.heap.size = X := ⟨_, rfl⟩
  rw [hX] at T3 s2 sv3 ⊢
  have HT3 : Hid (RowAt v3 X #[.slice a m c] 25) := T3
  clear T3 hX HXw2 HGw2 HBww2 HRw2
  go_wp2_with fail
  go_loopw [6, 7, 8, 9] (fun zv iv _ _ wr => ∃ (i : Nat) (a : Option Addr) (m c : Nat) (d : List Bl) (z : Int) (q : Nat), i ≤ 8 ∧ iv = .int .i64 (i : Int) ∧ zv = .int .i64 z ∧ -1 ≤ z ∧ z ≤ 11 ∧ wr.cell? ⟨X, 0, none⟩ = some (.slice a m c) ∧ SiInv B g w w1.heap.size X (30000 + 30100 * i) a m c d q wr) (fun _ iv _ _ _ => 8 - (intOf iv).toNat)
  case atStart => exact ⟨0, a, m, c, d, z, q, by omega, rfl, rfl, hz0, hz1, HT3.out.cell 0, rbs, HX3.out.len, HS.out, by omega, by omega, HG3.out, HT3.out, HX3.out, HR3.out, HB3.out⟩
  case round =>
    clear HS hq2 HX3 HG3 HB3 HR3 HT3 hz0 hz1
    obtain ⟨i, a, m, c, d, z, q, hi, rfl, rfl, hz0, hz1, k6, rbs, hml, hS, hq, hsz, hG, hT, hX, hR, hF⟩ := hrel
    have HS : Hid (DocSp d) := hS
    have HG : Hid (RowAt wr w.heap.size #[.slice none 0 0] 25) := hG
    have HT : Hid (RowAt wr X #[.slice a m c] 25) := hT
    have HX : Hid (DocX wr w1.heap.size (.slice a m c) rbs d) := hX
    have HR : Hid (Rd B wr g q) := hR
    have HBw : Hid (Below w.heap.size w wr) := hF
    have zX := hT.lt
    clear hG hT hX hR hF hml hS
    by_cases hi8 : i < 8
    · have hib : (i : Int) < 8 := by omega
      go_wp2_with fail
      refine (pick_any B g q 10 _ HR.out (by omega) (by omega) (by omega)).mono ?_
      rintro e w4 ⟨x, rfl, hx0, hx1, hr4, hg4⟩
      have f4 := fr_grown hg4
      have s4 := f4.size
      have HRw4 : Hid (Rd B w4 g (q + 1)) := hr4
      have HGw4 : Hid (RowAt w4 w.heap.size #[.slice none 0 0] 25) := HG.out.fr f4 (by omega)
      have HTw4 : Hid (RowAt w4 X #[.slice a m c] 25) := HT.out.fr f4 (by omega)
      have HXw4 : Hid (DocX w4 w1.heap.size (.slice a m c) rbs d) := HX.out.fr f4 hlt
      have HBww4 : Hid (Below w.heap.size w w4) := HBw.out.trans (below_of_frG f4 (by omega) (by omega))
      have k4 : w4.cell? ⟨X, 0, none⟩ = some (.slice a m c) := HTw4.out.cell 0
      clear hr4 hg4 f4 HG HT HX HBw HR k6
      by_cases hx : 0 < x
      · go_wp2_with fail
        refine (specDocSink_any HXw4.out.dc).mono ?_
        rintro e w5 ⟨hres, hb5⟩
        obtain ⟨p5, m5, q5, _, rfl, -⟩ := docRes_of hres
        generalize (docF sinkF d z).isSome = ok
        have s5 := hb5.size
        have HGw5 : Hid (RowAt w5 w.heap.size #[.slice none 0 0] 25) := HGw4.out.below hb5 (by omega)
        have HTw5 : Hid (RowAt w5 X #[.slice a m c] 25) := HTw4.out.below hb5 (by omega)
        have HXw5 : Hid (DocX w5 w1.heap.size (.slice a m c) rbs d) := HXw4.out.below hb5
        have HBww5 : Hid (Below w.heap.size w w5) := HBww4.out.trans (hb5.mono (by omega))
        have HRw5 : Hid (Rd B w5 g (q + 1)) := HRw4.out.below hb5 HRw4.out.lt
        clear hb5 hres HGw4 HTw4 HXw4 HBww4 HRw4 k4
        go_upto_region 7 with fail
        have HGw7 : Hid (RowAt (w5.alloc (.cells #[.slice p5 m5 q5] 25)) w.heap.size #[.slice none 0 0] 25) := HGw5.out.alloc _
        have HTw7 : Hid (RowAt (w5.alloc (.cells #[.slice p5 m5 q5] 25)) X #[.slice a m c] 25) := HTw5.out.alloc _
        have HXw7 : Hid (DocX (w5.alloc (.cells #[.slice p5 m5 q5] 25)) w1.heap.size (.slice a m c) rbs d) := HXw5.out.alloc _
        have HBww7 : Hid (Below w.heap.size w (w5.alloc (.cells #[.slice p5 m5 q5] 25))) := HBww5.out.alloc (by omega) _
        have HRw7 : Hid (Rd B (w5.alloc (.cells #[.slice p5 m5 q5] 25)) g (q + 1)) := HRw5.out.alloc _
        have sv7 : w5.heap.size < (w5.alloc (.cells #[.slice p5 m5 q5] 25)).heap.size := by simp
        generalize (w5.alloc (.cells #[.slice p5 m5 q5] 25)) = w7 at HGw7 HTw7 HXw7 HBww7 HRw7 sv7 ⊢
        have k7 : w7.cell? ⟨X, 0, none⟩ = some (.slice a m c) := HTw7.out.cell 0
        clear HGw5 HTw5 HXw5 HBww5 HRw5
        cases ok
        · go_wp2_with (first | (go_at_call 32; refine (l71Kinds_any B g (q + 1) 2 _ HRw7.out (by omega)).mono ?_; rintro e w6 ⟨a6, m6, c6, d6, z6, q6, rfl, ⟨rbs6, hX6⟩, hS6, hz60, hz61, hr6, hq6, hf6⟩; have s6 := hf6.size; have HX6 : Hid (DocX w6 w7.heap.size (.slice a6 m6 c6) rbs6 d6) := hX6; have HS6 : Hid (DocSp d6) := hS6; have HR6 : Hid (Rd B w6 g q6) := hr6; have HT6 : Hid (RowAt w6 X #[.slice a m c] 25) := HTw7.out.fr hf6 (by omega); have HG6 : Hid (RowAt w6 w.heap.size #[.slice none 0 0] 25) := HGw7.out.fr hf6 (by omega); have HB6 : Hid (Below w.heap.size w w6) := HBww7.out.trans (below_of_frG hf6 (by omega) (by omega)); clear hX6 hS6 hr6 hf6) | (refine wpList_store_row rfl 25 (.tmp 5) (.tmp 38) rfl X #[.slice a6 m6 c6] rfl rfl 25 _ HT6.out drdoc_info rfl (drcells1_one _ _ _) ?_))
          have bT : Below w.heap.size w6 (w6.setRow X #[.slice a6 m6 c6]) := below_row (Below.refl _ _) (by omega) _
          have sz : (w6.setRow X #[.slice a6 m6 c6]).heap.size = w6.heap.size := by simp [World.setRow]
          go_roundw
          case rel => exact ⟨i + 1, a6, m6, c6, d6, z6, q6, by omega, by go_num, rfl, hz60, hz61, (HT6.out.setRow _).cell 0, rbs6, HX6.out.len, HS6.out, by omega, by rw [sz]; omega, HG6.out.setRowOther _ _ (by omega), HT6.out.setRow _, (docX_row HX6.out HT6.out _).less (by omega), rd_row HR6.out (by omega), HB6.out.trans bT⟩
          case measure => simp [intOf]; omega
        · go_wp2_with (refine wpList_store_row rfl 25 (.tmp 2) (.tmp 33) rfl w.heap.size #[.slice a m c] rfl rfl 25 _ HGw7.out drdoc_info rfl (drcells1_one _ _ _) ?_)
          refine bodyPost_ret (v := .tuple #[.agg #[.slice a m c], .int .i64 z]) ?_ rfl ⟨⟨a, m, c, d, z, rfl, (docX_row HXw7.out HGw7.out _).dc, HS.out, hz0, hz1⟩, below_row HBww7.out (Nat.le_refl _) _⟩
          rw [results_cell_tmp rfl]
          simp [asAddr, Result.andThen, run_docK (RowAt.setRow HGw7.out _)]
      · have hx2 : x = 0 := by omega
        subst hx2
        go_wp2_with (refine wpList_store_row rfl 25 (.tmp 2) (.tmp 40) rfl w.heap.size #[.slice a m c] rfl rfl 25 _ HGw4.out drdoc_info rfl (drcells1_one _ _ _) ?_)
        refine bodyPost_ret (v := .tuple #[.agg #[.slice a m c], .int .i64 z]) ?_ rfl ⟨⟨a, m, c, d, z, rfl, (docX_row HXw4.out HGw4.out _).dc, HS.out, hz0, hz1⟩, below_row HBww4.out (Nat.le_refl _) _⟩
        rw [results_cell_tmp rfl]
        simp [asAddr, Result.andThen, run_docK (RowAt.setRow HGw4.out _)]
    · have hib : ¬ (i : Int) < 8 := by omega
      go_wp2_with (refine wpList_store_row rfl 25 (.tmp 2) (.tmp 40) rfl w.heap.size #[.slice a m c] rfl rfl 25 _ HG.out drdoc_info rfl (drcells1_one _ _ _) ?_)
      refine bodyPost_ret (v := .tuple #[.agg #[.slice a m c], .int .i64 z]) ?_ rfl ⟨⟨a, m, c, d, z, rfl, (docX_row HX.out HG.out _).dc, HS.out, hz0, hz1⟩, below_row HBw.out (Nat.le_refl _) _⟩
      rw [results_cell_tmp rfl]
      simp [asAddr, Result.andThen, run_docK (RowAt.setRow HG.out _)]
end Go.Proofs.Ytoliebgdlnjahab
namespace Go.Proofs.Ytoliebgdlnjahab
open Go.RowKit

set_option maxRecDepth 100000 in
set_option maxHeartbeats 16000000 in
theorem lawDocSink_walk (a : Option Addr) (n cap : Nat) (zs : List Int) (w : World) (h : Byt w.heap.size w a n cap zs) :
    Calls Try.prog 3 #[.slice a n cap] w fun e w' => e = .returned (.bool true) ∧ Below w.heap.size w w' := by
  have HY : Hid (Byt w.heap.size w a n cap zs) := h
  have hc := h.2.1
  have hm := h.2.2.1
  unfold maxLen at hm
  clear h
  by_cases hn : 1048576 < n
  · have hd : decide ((1048576 : Int) < (n : Int)) = true := by simp; omega
    go_enter Try.func3, Try.ntmps3
    go_wp2_with fail
    go_ret
    exact ⟨rfl, Below.refl _ _⟩
  have hd : decide ((1048576 : Int) < (n : Int)) = false := by simp; omega
  go_enter Try.func3, Try.ntmps3
  go_wp2_with fail
  refine (drDrawDocSink_any w.heap.size a n cap zs _ HY.out (Nat.le_refl _)).mono ?_
  rintro e w1 ⟨⟨a0, m0, c0, d, z, rfl, hT1, hS1, hz0, hz1⟩, hb1⟩
  have sw1 := hb1.size
  have HBw1 : Hid (Below w.heap.size w w1) := hb1
  have HDw1 : Hid (Dc w1 a0 m0 c0 d) := hT1
  have HSP0 : Hid (DocSp d) := hS1
  clear hT1 hb1 hS1 hn hd HY
  obtain ⟨r, HRR⟩ : ∃ r, Hid (docF sinkF d z = r) := ⟨_, rfl⟩
  obtain ⟨dr, HDR⟩ : ∃ dr, Hid (r.getD [] = dr) := ⟨_, rfl⟩
  obtain ⟨gg, HGB⟩ : ∃ g, Hid (r.isSome = g) := ⟨_, rfl⟩
  have HSP : Hid (∀ {a : Option Addr} {n cap : Nat} {u : World}, Dc u a n cap d → Calls Try.prog 10 #[.agg #[.slice a n cap], .int .i64 z] u fun e w' => (∃ p m q, e = .returned (.tuple #[.agg #[.slice p m q], .bool gg]) ∧ Dc w' p m q dr) ∧ Below u.heap.size u w') := fun hu => (specDocSink_any hu).mono fun e w' hr => by
    obtain ⟨h1, h2⟩ := hr
    rw [HRR.out] at h1
    obtain ⟨p, m, q, rbs, h3, h4⟩ := docRes_of h1
    rw [HGB.out] at h3
    rw [HDR.out] at h4
    exact ⟨⟨p, m, q, h3, h4.dc⟩, h2⟩
  have HIM : Hid (∀ {a : Option Addr} {n cap : Nat} {u : World}, Dc u a n cap d → Calls Try.prog 11 #[.agg #[.slice a n cap], .int .i64 z] u fun e w' => (∃ p m q, e = .returned (.tuple #[.agg #[.slice p m q], .bool gg]) ∧ Dc w' p m q dr) ∧ Below u.heap.size u w') := fun hu => (implDocSink_any hu).mono fun e w' hr => by
    obtain ⟨h1, h2⟩ := hr
    rw [HRR.out] at h1
    obtain ⟨p, m, q, rbs, h3, h4⟩ := docRes_of h1
    rw [HGB.out] at h3
    rw [HDR.out] at h4
    exact ⟨⟨p, m, q, h3, h4.dc⟩, h2⟩
  go_upto_region 4 with fail
  have hbw2 : Below w1.heap.size w1 (w1.alloc (.cells #[.slice a0 m0 c0] 25)) := (Below.refl _ _).alloc (Nat.le_refl _) _
  have hgw2 : RowAt (w1.alloc (.cells #[.slice a0 m0 c0] 25)) w1.heap.size #[.slice a0 m0 c0] 25 := rowAt_new _ _ _
  have hzw2 : w1.heap.size < (w1.alloc (.cells #[.slice a0 m0 c0] 25)).heap.size := by simp
  generalize hqw2 : (w1.alloc (.cells #[.slice a0 m0 c0] 25)) = w2 at hbw2 hgw2 hzw2 ⊢
  clear hqw2
  have sw2 := hbw2.size
  have HDw2 : Hid (Dc w2 a0 m0 c0 d) := HDw1.out.below hbw2
  have HBw2 : Hid (Below w.heap.size w w2) := HBw1.out.trans (hbw2.mono HBw1.out.size)
  clear HDw1 HBw1
  obtain ⟨X, hX⟩ : ∃ X, w1.heap.size = X := ⟨_, rfl⟩
  rw [hX] at hgw2 hzw2 ⊢
  have HGw2 : Hid (RowAt w2 X #[.slice a0 m0 c0] 25) := hgw2
  have kGw2 : w2.cell? ⟨X, 0, none⟩ = some (.slice a0 m0 c0) := hgw2.cell 0
  clear hgw2 hbw2 hX
  go_wp2_with fail
  refine (HSP.out HDw2.out).mono ?_
  rintro e w3 ⟨⟨p1, m1, q1, rfl, hO3⟩, hb3⟩
  have HEw3 : Hid (Dc w3 p1 m1 q1 dr) := hO3
  clear hO3
  have sw3 := hb3.size
  have HGw3 : Hid (RowAt w3 X #[.slice a0 m0 c0] 25) := HGw2.out.below hb3 HGw2.out.lt
  have kGw3 : w3.cell? ⟨X, 0, none⟩ = some (.slice a0 m0 c0) := HGw3.out.cell 0
  have HDw3 : Hid (Dc w3 a0 m0 c0 d) := HDw2.out.below hb3
  have HBw3 : Hid (Below w.heap.size w w3) := HBw2.out.trans (hb3.mono HBw2.out.size)
  clear HGw2 kGw2 HDw2 HBw2
  clear hb3
  go_upto_region 5 with fail
  have hbw4 : Below w3.heap.size w3 (w3.alloc (.cells #[.slice p1 m1 q1] 25)) := (Below.refl _ _).alloc (Nat.le_refl _) _
  have hgw4 : RowAt (w3.alloc (.cells #[.slice p1 m1 q1] 25)) w3.heap.size #[.slice p1 m1 q1] 25 := rowAt_new _ _ _
  have hzw4 : w3.heap.size < (w3.alloc (.cells #[.slice p1 m1 q1] 25)).heap.size := by simp
  generalize hqw4 : (w3.alloc (.cells #[.slice p1 m1 q1] 25)) = w4 at hbw4 hgw4 hzw4 ⊢
  clear hqw4
  have sw4 := hbw4.size
  have HGw4 : Hid (RowAt w4 X #[.slice a0 m0 c0] 25) := HGw3.out.below hbw4 HGw3.out.lt
  have kGw4 : w4.cell? ⟨X, 0, none⟩ = some (.slice a0 m0 c0) := HGw4.out.cell 0
  have HDw4 : Hid (Dc w4 a0 m0 c0 d) := HDw3.out.below hbw4
  have HEw4 : Hid (Dc w4 p1 m1 q1 dr) := HEw3.out.below hbw4
  have HBw4 : Hid (Below w.heap.size w w4) := HBw3.out.trans (hbw4.mono HBw3.out.size)
  clear HGw3 kGw3 HDw3 HEw3 HBw3
  obtain ⟨XV, hXV⟩ : ∃ X, w3.heap.size = X := ⟨_, rfl⟩
  rw [hXV] at hgw4 hzw4 ⊢
  have HVw4 : Hid (RowAt w4 XV #[.slice p1 m1 q1] 25) := hgw4
  have kVw4 : w4.cell? ⟨XV, 0, none⟩ = some (.slice p1 m1 q1) := hgw4.cell 0
  clear hgw4 hbw4 hXV
  go_wp2_with fail
  refine (HIM.out HDw4.out).mono ?_
  rintro e w5 ⟨⟨p2, m2, q2, rfl, hO5⟩, hb5⟩
  have HFw5 : Hid (Dc w5 p2 m2 q2 dr) := hO5
  clear hO5
  have sw5 := hb5.size
  have HGw5 : Hid (RowAt w5 X #[.slice a0 m0 c0] 25) := HGw4.out.below hb5 HGw4.out.lt
  have kGw5 : w5.cell? ⟨X, 0, none⟩ = some (.slice a0 m0 c0) := HGw5.out.cell 0
  have HVw5 : Hid (RowAt w5 XV #[.slice p1 m1 q1] 25) := HVw4.out.below hb5 HVw4.out.lt
  have kVw5 : w5.cell? ⟨XV, 0, none⟩ = some (.slice p1 m1 q1) := HVw5.out.cell 0
  have HDw5 : Hid (Dc w5 a0 m0 c0 d) := HDw4.out.below hb5
  have HEw5 : Hid (Dc w5 p1 m1 q1 dr) := HEw4.out.below hb5
  have HBw5 : Hid (Below w.heap.size w w5) := HBw4.out.trans (hb5.mono HBw4.out.size)
  clear HGw4 kGw4 HVw4 kVw4 HDw4 HEw4 HBw4
  clear hb5
  go_upto_region 6 with fail
  have hbw6 : Below w5.heap.size w5 (w5.alloc (.cells #[.slice p2 m2 q2] 25)) := (Below.refl _ _).alloc (Nat.le_refl _) _
  have hgw6 : RowAt (w5.alloc (.cells #[.slice p2 m2 q2] 25)) w5.heap.size #[.slice p2 m2 q2] 25 := rowAt_new _ _ _
  have hzw6 : w5.heap.size < (w5.alloc (.cells #[.slice p2 m2 q2] 25)).heap.size := by simp
  generalize hqw6 : (w5.alloc (.cells #[.slice p2 m2 q2] 25)) = w6 at hbw6 hgw6 hzw6 ⊢
  clear hqw6
  have sw6 := hbw6.size
  have HGw6 : Hid (RowAt w6 X #[.slice a0 m0 c0] 25) := HGw5.out.below hbw6 HGw5.out.lt
  have kGw6 : w6.cell? ⟨X, 0, none⟩ = some (.slice a0 m0 c0) := HGw6.out.cell 0
  have HVw6 : Hid (RowAt w6 XV #[.slice p1 m1 q1] 25) := HVw5.out.below hbw6 HVw5.out.lt
  have kVw6 : w6.cell? ⟨XV, 0, none⟩ = some (.slice p1 m1 q1) := HVw6.out.cell 0
  have HDw6 : Hid (Dc w6 a0 m0 c0 d) := HDw5.out.below hbw6
  have HEw6 : Hid (Dc w6 p1 m1 q1 dr) := HEw5.out.below hbw6
  have HFw6 : Hid (Dc w6 p2 m2 q2 dr) := HFw5.out.below hbw6
  have HBw6 : Hid (Below w.heap.size w w6) := HBw5.out.trans (hbw6.mono HBw5.out.size)
  clear HGw5 kGw5 HVw5 kVw5 HDw5 HEw5 HFw5 HBw5
  obtain ⟨XU, hXU⟩ : ∃ X, w5.heap.size = X := ⟨_, rfl⟩
  rw [hXU] at hgw6 hzw6 ⊢
  have HUw6 : Hid (RowAt w6 XU #[.slice p2 m2 q2] 25) := hgw6
  have kUw6 : w6.cell? ⟨XU, 0, none⟩ = some (.slice p2 m2 q2) := hgw6.cell 0
  clear hgw6 hbw6 hXU
  have gne : (gg != gg) = false := by cases gg <;> rfl
  have geq : (gg == gg) = true := by cases gg <;> rfl
  go_wp2_with fail
  refine (lmDoc_same HFw6.out HEw6.out).mono ?_
  rintro e w7 ⟨rfl, hb7⟩
  have sw7 := hb7.size
  have HGw7 : Hid (RowAt w7 X #[.slice a0 m0 c0] 25) := HGw6.out.below hb7 HGw6.out.lt
  have kGw7 : w7.cell? ⟨X, 0, none⟩ = some (.slice a0 m0 c0) := HGw7.out.cell 0
  have HVw7 : Hid (RowAt w7 XV #[.slice p1 m1 q1] 25) := HVw6.out.below hb7 HVw6.out.lt
  have kVw7 : w7.cell? ⟨XV, 0, none⟩ = some (.slice p1 m1 q1) := HVw7.out.cell 0
  have HUw7 : Hid (RowAt w7 XU #[.slice p2 m2 q2] 25) := HUw6.out.below hb7 HUw6.out.lt
  have kUw7 : w7.cell? ⟨XU, 0, none⟩ = some (.slice p2 m2 q2) := HUw7.out.cell 0
  have HDw7 : Hid (Dc w7 a0 m0 c0 d) := HDw6.out.below hb7
  have HEw7 : Hid (Dc w7 p1 m1 q1 dr) := HEw6.out.below hb7
  have HFw7 : Hid (Dc w7 p2 m2 q2 dr) := HFw6.out.below hb7
  have HBw7 : Hid (Below w.heap.size w w7) := HBw6.out.trans (hb7.mono HBw6.out.size)
  clear HGw6 kGw6 HVw6 kVw6 HUw6 kUw6 HDw6 HEw6 HFw6 HBw6
  clear hb7
  cases gg
  · go_wp2_with fail
    refine (lmDoc_same HFw7.out HEw7.out).mono ?_
    rintro e w8 ⟨rfl, hb8⟩
    have sw8 := hb8.size
    have HGw8 : Hid (RowAt w8 X #[.slice a0 m0 c0] 25) := HGw7.out.below hb8 HGw7.out.lt
    have kGw8 : w8.cell? ⟨X, 0, none⟩ = some (.slice a0 m0 c0) := HGw8.out.cell 0
    have HVw8 : Hid (RowAt w8 XV #[.slice p1 m1 q1] 25) := HVw7.out.below hb8 HVw7.out.lt
    have kVw8 : w8.cell? ⟨XV, 0, none⟩ = some (.slice p1 m1 q1) := HVw8.out.cell 0
    have HUw8 : Hid (RowAt w8 XU #[.slice p2 m2 q2] 25) := HUw7.out.below hb8 HUw7.out.lt
    have kUw8 : w8.cell? ⟨XU, 0, none⟩ = some (.slice p2 m2 q2) := HUw8.out.cell 0
    have HDw8 : Hid (Dc w8 a0 m0 c0 d) := HDw7.out.below hb8
    have HEw8 : Hid (Dc w8 p1 m1 q1 dr) := HEw7.out.below hb8
    have HFw8 : Hid (Dc w8 p2 m2 q2 dr) := HFw7.out.below hb8
    have HBw8 : Hid (Below w.heap.size w w8) := HBw7.out.trans (hb8.mono HBw7.out.size)
    clear HGw7 kGw7 HVw7 kVw7 HUw7 kUw7 HDw7 HEw7 HFw7 HBw7
    clear hb8
    go_wp2_with fail
    go_ret
    exact ⟨rfl, HBw8.out⟩
  · obtain ⟨x, hx⟩ := Option.isSome_iff_exists.1 HGB.out
    have hdx : dr = x := by rw [← HDR.out, hx]; rfl
    have hEL := sink_lift (HRR.out.trans hx)
    rw [← hdx] at hEL
    obtain ⟨hl1, hl2⟩ := hEL
    have HL2 : Hid (docB dr = true) := hl2
    have HLI : Hid (∀ {a : Option Addr} {n cap : Nat} {u : World}, Dc u a n cap dr → Calls Try.prog 13 #[.agg #[.slice a n cap], .int .i64 z] u fun e w' => (∃ p m q, e = .returned (.tuple #[.agg #[.slice p m q], .bool true]) ∧ Dc w' p m q d) ∧ Below u.heap.size u w') := fun hu => (implDocLift_any hu).mono fun e w' hr => by
      obtain ⟨h1, h2⟩ := hr
      rw [hl1] at h1
      obtain ⟨p, m, q, rbs, h3, h4⟩ := docRes_of h1
      exact ⟨⟨p, m, q, h3, h4.dc⟩, h2⟩
    clear hl1 hl2 hx hdx
    go_wp2_with fail
    refine (HLI.out HFw7.out).mono ?_
    rintro e w8 ⟨⟨p3, m3, q3, rfl, hO8⟩, hb8⟩
    have HWw8 : Hid (Dc w8 p3 m3 q3 d) := hO8
    clear hO8
    have sw8 := hb8.size
    have HGw8 : Hid (RowAt w8 X #[.slice a0 m0 c0] 25) := HGw7.out.below hb8 HGw7.out.lt
    have kGw8 : w8.cell? ⟨X, 0, none⟩ = some (.slice a0 m0 c0) := HGw8.out.cell 0
    have HVw8 : Hid (RowAt w8 XV #[.slice p1 m1 q1] 25) := HVw7.out.below hb8 HVw7.out.lt
    have kVw8 : w8.cell? ⟨XV, 0, none⟩ = some (.slice p1 m1 q1) := HVw8.out.cell 0
    have HUw8 : Hid (RowAt w8 XU #[.slice p2 m2 q2] 25) := HUw7.out.below hb8 HUw7.out.lt
    have kUw8 : w8.cell? ⟨XU, 0, none⟩ = some (.slice p2 m2 q2) := HUw8.out.cell 0
    have HDw8 : Hid (Dc w8 a0 m0 c0 d) := HDw7.out.below hb8
    have HEw8 : Hid (Dc w8 p1 m1 q1 dr) := HEw7.out.below hb8
    have HFw8 : Hid (Dc w8 p2 m2 q2 dr) := HFw7.out.below hb8
    have HBw8 : Hid (Below w.heap.size w w8) := HBw7.out.trans (hb8.mono HBw7.out.size)
    clear HGw7 kGw7 HVw7 kVw7 HUw7 kUw7 HDw7 HEw7 HFw7 HBw7
    clear hb8
    go_upto_region 9 with fail
    have hbw9 : Below w8.heap.size w8 (w8.alloc (.cells #[.slice p3 m3 q3] 25)) := (Below.refl _ _).alloc (Nat.le_refl _) _
    have hgw9 : RowAt (w8.alloc (.cells #[.slice p3 m3 q3] 25)) w8.heap.size #[.slice p3 m3 q3] 25 := rowAt_new _ _ _
    have hzw9 : w8.heap.size < (w8.alloc (.cells #[.slice p3 m3 q3] 25)).heap.size := by simp
    generalize hqw9 : (w8.alloc (.cells #[.slice p3 m3 q3] 25)) = w9 at hbw9 hgw9 hzw9 ⊢
    clear hqw9
    have sw9 := hbw9.size
    have HGw9 : Hid (RowAt w9 X #[.slice a0 m0 c0] 25) := HGw8.out.below hbw9 HGw8.out.lt
    have kGw9 : w9.cell? ⟨X, 0, none⟩ = some (.slice a0 m0 c0) := HGw9.out.cell 0
    have HVw9 : Hid (RowAt w9 XV #[.slice p1 m1 q1] 25) := HVw8.out.below hbw9 HVw8.out.lt
    have kVw9 : w9.cell? ⟨XV, 0, none⟩ = some (.slice p1 m1 q1) := HVw9.out.cell 0
    have HUw9 : Hid (RowAt w9 XU #[.slice p2 m2 q2] 25) := HUw8.out.below hbw9 HUw8.out.lt
    have kUw9 : w9.cell? ⟨XU, 0, none⟩ = some (.slice p2 m2 q2) := HUw9.out.cell 0
    have HDw9 : Hid (Dc w9 a0 m0 c0 d) := HDw8.out.below hbw9
    have HEw9 : Hid (Dc w9 p1 m1 q1 dr) := HEw8.out.below hbw9
    have HFw9 : Hid (Dc w9 p2 m2 q2 dr) := HFw8.out.below hbw9
    have HWw9 : Hid (Dc w9 p3 m3 q3 d) := HWw8.out.below hbw9
    have HBw9 : Hid (Below w.heap.size w w9) := HBw8.out.trans (hbw9.mono HBw8.out.size)
    clear HGw8 kGw8 HVw8 kVw8 HUw8 kUw8 HDw8 HEw8 HFw8 HWw8 HBw8
    obtain ⟨XR, hXR⟩ : ∃ X, w8.heap.size = X := ⟨_, rfl⟩
    rw [hXR] at hgw9 hzw9 ⊢
    have HRw9 : Hid (RowAt w9 XR #[.slice p3 m3 q3] 25) := hgw9
    have kRw9 : w9.cell? ⟨XR, 0, none⟩ = some (.slice p3 m3 q3) := hgw9.cell 0
    clear hgw9 hbw9 hXR
    go_wp2_with fail
    refine (implDocOk_is HL2.out HFw9.out).mono ?_
    rintro e w10 ⟨rfl, hb10⟩
    have sw10 := hb10.size
    have HGw10 : Hid (RowAt w10 X #[.slice a0 m0 c0] 25) := HGw9.out.below hb10 HGw9.out.lt
    have kGw10 : w10.cell? ⟨X, 0, none⟩ = some (.slice a0 m0 c0) := HGw10.out.cell 0
    have HVw10 : Hid (RowAt w10 XV #[.slice p1 m1 q1] 25) := HVw9.out.below hb10 HVw9.out.lt
    have kVw10 : w10.cell? ⟨XV, 0, none⟩ = some (.slice p1 m1 q1) := HVw10.out.cell 0
    have HUw10 : Hid (RowAt w10 XU #[.slice p2 m2 q2] 25) := HUw9.out.below hb10 HUw9.out.lt
    have kUw10 : w10.cell? ⟨XU, 0, none⟩ = some (.slice p2 m2 q2) := HUw10.out.cell 0
    have HRw10 : Hid (RowAt w10 XR #[.slice p3 m3 q3] 25) := HRw9.out.below hb10 HRw9.out.lt
    have kRw10 : w10.cell? ⟨XR, 0, none⟩ = some (.slice p3 m3 q3) := HRw10.out.cell 0
    have HDw10 : Hid (Dc w10 a0 m0 c0 d) := HDw9.out.below hb10
    have HEw10 : Hid (Dc w10 p1 m1 q1 dr) := HEw9.out.below hb10
    have HFw10 : Hid (Dc w10 p2 m2 q2 dr) := HFw9.out.below hb10
    have HWw10 : Hid (Dc w10 p3 m3 q3 d) := HWw9.out.below hb10
    have HBw10 : Hid (Below w.heap.size w w10) := HBw9.out.trans (hb10.mono HBw9.out.size)
    clear HGw9 kGw9 HVw9 kVw9 HUw9 kUw9 HRw9 kRw9 HDw9 HEw9 HFw9 HWw9 HBw9
    clear hb10
    go_wp2_with fail
    refine (lmDoc_same HWw10.out HDw10.out).mono ?_
    rintro e w11 ⟨rfl, hb11⟩
    have sw11 := hb11.size
    have HGw11 : Hid (RowAt w11 X #[.slice a0 m0 c0] 25) := HGw10.out.below hb11 HGw10.out.lt
    have kGw11 : w11.cell? ⟨X, 0, none⟩ = some (.slice a0 m0 c0) := HGw11.out.cell 0
    have HVw11 : Hid (RowAt w11 XV #[.slice p1 m1 q1] 25) := HVw10.out.below hb11 HVw10.out.lt
    have kVw11 : w11.cell? ⟨XV, 0, none⟩ = some (.slice p1 m1 q1) := HVw11.out.cell 0
    have HUw11 : Hid (RowAt w11 XU #[.slice p2 m2 q2] 25) := HUw10.out.below hb11 HUw10.out.lt
    have kUw11 : w11.cell? ⟨XU, 0, none⟩ = some (.slice p2 m2 q2) := HUw11.out.cell 0
    have HRw11 : Hid (RowAt w11 XR #[.slice p3 m3 q3] 25) := HRw10.out.below hb11 HRw10.out.lt
    have kRw11 : w11.cell? ⟨XR, 0, none⟩ = some (.slice p3 m3 q3) := HRw11.out.cell 0
    have HDw11 : Hid (Dc w11 a0 m0 c0 d) := HDw10.out.below hb11
    have HEw11 : Hid (Dc w11 p1 m1 q1 dr) := HEw10.out.below hb11
    have HFw11 : Hid (Dc w11 p2 m2 q2 dr) := HFw10.out.below hb11
    have HWw11 : Hid (Dc w11 p3 m3 q3 d) := HWw10.out.below hb11
    have HBw11 : Hid (Below w.heap.size w w11) := HBw10.out.trans (hb11.mono HBw10.out.size)
    clear HGw10 kGw10 HVw10 kVw10 HUw10 kUw10 HRw10 kRw10 HDw10 HEw10 HFw10 HWw10 HBw10
    clear hb11
    go_wp2_with fail
    go_ret
    exact ⟨rfl, HBw11.out⟩
end Go.Proofs.Ytoliebgdlnjahab
