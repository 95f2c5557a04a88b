import Derived.Test.YteghidjbcpmfbaaB2
import Derived.Test.YteghidjbcpmfbaaB4
namespace Go.Proofs.Yteghidjbcpmfbaa
open Go.RowKit

set_option maxRecDepth 100000 in
set_option maxHeartbeats 8000000 in
theorem lawTableRowIn_walk (R C : Int) (a : Option Addr) (n cap : Nat) (l : List Cl) (t' : Int) (w : World) (h : Tab w a n cap l) (_ : (Lit.int .i64 t').wf = true) :
    Calls Try.prog 3 #[.agg #[.int .i64 R, .int .i64 C, .slice a n cap], .int .i64 t'] w fun e w' => e = .returned (.bool true) ∧ Below w.heap.size w w' := by
  have H : Hid (Tab w a n cap l) := h
  clear h
  have hsm := @small_in R C l t'
  go_enter Try.func3, Try.ntmps3
  go_upto_region 1 with fail
  have B0 : Below w.heap.size w (w.alloc (.cells #[.int .i64 R, .int .i64 C, .slice a n cap] 24)) := (Below.refl _ _).alloc (Nat.le_refl _) _
  have G2 : RowAt (w.alloc (.cells #[.int .i64 R, .int .i64 C, .slice a n cap] 24)) w.heap.size #[.int .i64 R, .int .i64 C, .slice a n cap] 24 := rowAt_new w _ _
  generalize (w.alloc (.cells #[.int .i64 R, .int .i64 C, .slice a n cap] 24)) = v0 at B0 G2 ⊢
  have k0 : v0.cell? ⟨w.heap.size, 0, none⟩ = some (.int .i64 R) := G2.cell 0
  have k1 : v0.cell? ⟨w.heap.size, 1, none⟩ = some (.int .i64 C) := G2.cell 1
  have k2 : v0.cell? ⟨w.heap.size, 2, none⟩ = some (.slice a n cap) := G2.cell 2
  have z0 := G2.lt
  have HG : Hid (RowAt v0 w.heap.size #[.int .i64 R, .int .i64 C, .slice a n cap] 24) := G2
  have T0 : Hid (Tab v0 a n cap l) := H.out.below B0
  clear G2
  go_wp2_with fail
  refine (szTable_any R C a n cap l _ T0.out).mono ?_
  rintro e w1 ⟨(rfl | ⟨hle, rfl⟩), hb1⟩
  · go_wp2_with fail
    go_ret
    exact ⟨rfl, B0.trans (hb1.mono B0.size)⟩
  have T1 : Hid (Tab w1 a n cap l) := T0.out.below hb1
  have s0 := B0.size
  have s1 := hb1.size
  have HB1 : Hid (Below w.heap.size w w1) := B0.trans (hb1.mono s0)
  have j0 := (hb1.cell (p := ⟨w.heap.size, 0, none⟩) z0).trans k0
  have j1 := (hb1.cell (p := ⟨w.heap.size, 1, none⟩) z0).trans k1
  have j2 := (hb1.cell (p := ⟨w.heap.size, 2, none⟩) z0).trans k2
  have HG1 : Hid (RowAt w1 w.heap.size #[.int .i64 R, .int .i64 C, .slice a n cap] 24) := HG.out.below hb1 z0
  have n0 : ¬ (1048576 - (l.length : Int) - (totT l : Int)) < 0 := by omega
  have z1 : w.heap.size < w1.heap.size := by omega
  clear k0 k1 k2 HG hb1 B0
  go_wp2_with fail
  refine (toTable_any R C a n cap l _ T1.out hle).mono ?_
  rintro e w2 ⟨⟨b2, r2, -, rfl, ho2⟩, hb2⟩
  have s2 := hb2.size
  go_wp2_with fail
  refine (specTableRowIn_any R C t' _ _ _ l _ ho2.tab).mono ?_
  intro e w3 hr
  obtain ⟨⟨x1, y1, a1, n1, c1, l1, g1, rfl, hR1⟩, hb3⟩ := fRes_of hr
  clear hr
  have s3 := hb3.size
  have b13 : Below w1.heap.size w1 w3 := hb2.trans (hb3.mono s2)
  clear hb2 hb3 ho2 j0 j1 j2
  go_upto_region 6 with fail
  have W1 : RowAt (w3.alloc (.cells #[.int .i64 x1, .int .i64 y1, .slice a1 n1 c1] 28)) w3.heap.size #[.int .i64 x1, .int .i64 y1, .slice a1 n1 c1] 28 := rowAt_new _ _ _
  have T1' : Tab (w3.alloc (.cells #[.int .i64 x1, .int .i64 y1, .slice a1 n1 c1] 28)) a1 n1 c1 l1 := by
    obtain ⟨rs, ho⟩ := hR1.1
    exact ho.tab.below ((Below.refl _ _).alloc (Nat.le_refl _) _)
  have B3 : Below w1.heap.size w1 (w3.alloc (.cells #[.int .i64 x1, .int .i64 y1, .slice a1 n1 c1] 28)) := b13.alloc (by omega) _
  generalize (w3.alloc (.cells #[.int .i64 x1, .int .i64 y1, .slice a1 n1 c1] 28)) = v3 at W1 T1' B3 ⊢
  have zw := W1.lt
  have s4 := B3.size
  have z3 : w.heap.size < v3.heap.size := by omega
  have HG3 : Hid (RowAt v3 w.heap.size #[.int .i64 R, .int .i64 C, .slice a n cap] 24) := HG1.out.below B3 z1
  have T3 : Hid (Tab v3 a n cap l) := T1.out.below B3
  have HB3 : Hid (Below w.heap.size w v3) := HB1.out.trans (B3.mono (by omega))
  have HT1 : Hid (Tab v3 a1 n1 c1 l1) := T1'
  have HX1 : Hid (x1 = (if rowInB R C l t' then R + 1 else 0) ∧ y1 = (if rowInB R C l t' then C else 0) ∧ l1 = (if rowInB R C l t' then inL t' C l else []) ∧ g1 = rowInB R C l t') := hR1.2
  obtain ⟨hl1, hl2⟩ := fRes_small hR1 hsm
  have HW1 : Hid (RowAt v3 w3.heap.size #[.int .i64 x1, .int .i64 y1, .slice a1 n1 c1] 28) := W1
  clear hR1 W1 T1' B3 b13 HG1 T1 HB1
  have i0 : v3.cell? ⟨w.heap.size, 0, none⟩ = some (.int .i64 R) := (HG3.out).cell 0
  have i1 : v3.cell? ⟨w.heap.size, 1, none⟩ = some (.int .i64 C) := (HG3.out).cell 1
  have i2 : v3.cell? ⟨w.heap.size, 2, none⟩ = some (.slice a n cap) := (HG3.out).cell 2
  go_wp2_with fail
  refine (toTable_any R C a n cap l _ T3.out hle).mono ?_
  rintro e w4 ⟨⟨b4, r4, -, rfl, ho4⟩, hb4⟩
  clear i0 i1 i2
  have s5 := hb4.size
  go_upto_region 7 with fail
  have X4 : RowAt (w4.alloc (.cells #[.int .i64 R, .int .i64 C, .slice (some ⟨b4, 0, none⟩) n n] 28)) w4.heap.size #[.int .i64 R, .int .i64 C, .slice (some ⟨b4, 0, none⟩) n n] 28 := rowAt_new _ _ _
  have O4 : OwnT (w4.alloc (.cells #[.int .i64 R, .int .i64 C, .slice (some ⟨b4, 0, none⟩) n n] 28)) v3.heap.size (.slice (some ⟨b4, 0, none⟩) n n) r4 l := ho4.below ((Below.refl _ _).alloc (Nat.le_refl _) _)
  have B4 : Below v3.heap.size v3 (w4.alloc (.cells #[.int .i64 R, .int .i64 C, .slice (some ⟨b4, 0, none⟩) n n] 28)) := hb4.alloc s5 _
  generalize (w4.alloc (.cells #[.int .i64 R, .int .i64 C, .slice (some ⟨b4, 0, none⟩) n n] 28)) = v4 at X4 O4 B4 ⊢
  have zx := X4.lt
  have s6 := B4.size
  have HX4 : Hid (RowAt v4 w4.heap.size #[.int .i64 R, .int .i64 C, .slice (some ⟨b4, 0, none⟩) n n] 28) := X4
  have HO4 : Hid (OwnT v4 v3.heap.size (.slice (some ⟨b4, 0, none⟩) n n) r4 l) := O4
  have HB4 : Hid (Below v3.heap.size v3 v4) := B4
  clear X4 O4 B4 ho4 hb4
  have e0 : v4.cell? ⟨w4.heap.size, 0, none⟩ = some (.int .i64 R) := (HX4.out).cell 0
  have e1 : v4.cell? ⟨w4.heap.size, 1, none⟩ = some (.int .i64 C) := (HX4.out).cell 1
  have e2 : v4.cell? ⟨w4.heap.size, 2, none⟩ = some (.slice (some ⟨b4, 0, none⟩) n n) := (HX4.out).cell 2
  go_wp2_with fail
  refine (implTableRowIn_any R C t' _ _ _ l _ HO4.out.tab).mono ?_
  intro e w5 hr
  obtain ⟨⟨x2, y2, a2, n2, c2, l2, g2, rfl, hR2⟩, hb5⟩ := fRes_of hr
  clear hr e0 e1 e2
  obtain rfl : x2 = x1 := hR2.2.1.trans HX1.out.1.symm
  obtain rfl : y2 = y1 := hR2.2.2.1.trans HX1.out.2.1.symm
  obtain rfl : l2 = l1 := hR2.2.2.2.1.trans HX1.out.2.2.1.symm
  obtain rfl : g2 = g1 := hR2.2.2.2.2.trans HX1.out.2.2.2.symm
  obtain ⟨rs2, ho2⟩ := hR2.1
  have nb : (g2 != g2) = false := by simp
  clear hR2
  have s7 := hb5.size
  go_upto_region 8 with fail
  have W5 : RowAt (w5.alloc (.cells #[.int .i64 x2, .int .i64 y2, .slice a2 n2 c2] 28)) w5.heap.size #[.int .i64 x2, .int .i64 y2, .slice a2 n2 c2] 28 := rowAt_new _ _ _
  have O5 : OwnT (w5.alloc (.cells #[.int .i64 x2, .int .i64 y2, .slice a2 n2 c2] 28)) v4.heap.size (.slice a2 n2 c2) rs2 l2 := ho2.below ((Below.refl _ _).alloc (Nat.le_refl _) _)
  have B5 : Below v4.heap.size v4 (w5.alloc (.cells #[.int .i64 x2, .int .i64 y2, .slice a2 n2 c2] 28)) := hb5.alloc s7 _
  generalize (w5.alloc (.cells #[.int .i64 x2, .int .i64 y2, .slice a2 n2 c2] 28)) = v5 at W5 O5 B5 ⊢
  have zg := W5.lt
  have s8 := B5.size
  have HG5 : Hid (RowAt v5 w5.heap.size #[.int .i64 x2, .int .i64 y2, .slice a2 n2 c2] 28) := W5
  have HO5 : Hid (OwnT v5 v4.heap.size (.slice a2 n2 c2) rs2 l2) := O5
  have HX5 : Hid (RowAt v5 w4.heap.size #[.int .i64 R, .int .i64 C, .slice (some ⟨b4, 0, none⟩) n n] 28) := HX4.out.below B5 zx
  have HP5 : Hid (OwnT v5 v3.heap.size (.slice (some ⟨b4, 0, none⟩) n n) r4 l) := HO4.out.below B5
  have HB5 : Hid (Below v3.heap.size v3 v5) := HB4.out.trans (B5.mono s6)
  clear W5 O5 B5 ho2 hb5
  have p0 : v5.cell? ⟨w5.heap.size, 0, none⟩ = some (.int .i64 x2) := (HG5.out).cell 0
  have p1 : v5.cell? ⟨w5.heap.size, 1, none⟩ = some (.int .i64 y2) := (HG5.out).cell 1
  have p2 : v5.cell? ⟨w5.heap.size, 2, none⟩ = some (.slice a2 n2 c2) := (HG5.out).cell 2
  have q0 : v5.cell? ⟨w3.heap.size, 0, none⟩ = some (.int .i64 x2) := (HW1.out.below HB5.out zw).cell 0
  have q1 : v5.cell? ⟨w3.heap.size, 1, none⟩ = some (.int .i64 y2) := (HW1.out.below HB5.out zw).cell 1
  have q2 : v5.cell? ⟨w3.heap.size, 2, none⟩ = some (.slice a1 n1 c1) := (HW1.out.below HB5.out zw).cell 2
  go_wp2_with fail
  refine (eqTable_same x2 y2 _ _ _ l2 _ _ _ _ HO5.out.tab (HT1.out.below HB5.out)).mono ?_
  rintro e w6 ⟨rfl, hb6⟩
  have s9 := hb6.size
  clear p0 p1 p2 q0 q1 q2
  have HB6 : Hid (Below v3.heap.size v3 w6) := HB5.out.trans (hb6.mono (by omega))
  have HG6 : Hid (RowAt w6 w5.heap.size #[.int .i64 x2, .int .i64 y2, .slice a2 n2 c2] 28) := HG5.out.below hb6 zg
  have HX6 : Hid (RowAt w6 w4.heap.size #[.int .i64 R, .int .i64 C, .slice (some ⟨b4, 0, none⟩) n n] 28) := HX5.out.below hb6 (by omega)
  have HO6 : Hid (OwnT w6 v4.heap.size (.slice a2 n2 c2) rs2 l2) := HO5.out.below hb6
  have HP6 : Hid (OwnT w6 v3.heap.size (.slice (some ⟨b4, 0, none⟩) n n) r4 l) := HP5.out.below hb6
  clear hb6
  have e0 : w6.cell? ⟨w4.heap.size, 0, none⟩ = some (.int .i64 R) := (HX6.out).cell 0
  have e1 : w6.cell? ⟨w4.heap.size, 1, none⟩ = some (.int .i64 C) := (HX6.out).cell 1
  have e2 : w6.cell? ⟨w4.heap.size, 2, none⟩ = some (.slice (some ⟨b4, 0, none⟩) n n) := (HX6.out).cell 2
  have i0 : w6.cell? ⟨w.heap.size, 0, none⟩ = some (.int .i64 R) := (HG3.out.below HB6.out z3).cell 0
  have i1 : w6.cell? ⟨w.heap.size, 1, none⟩ = some (.int .i64 C) := (HG3.out.below HB6.out z3).cell 1
  have i2 : w6.cell? ⟨w.heap.size, 2, none⟩ = some (.slice a n cap) := (HG3.out.below HB6.out z3).cell 2
  have y6 : w.heap.size < w6.heap.size := by omega
  have z6 : w4.heap.size < w6.heap.size := by omega
  go_wp2_with fail
  go_region_held3 (fun w' => w'.cell? ⟨w.heap.size, 0, none⟩ = some (.int .i64 R) ∧ w'.cell? ⟨w.heap.size, 1, none⟩ = some (.int .i64 C) ∧ w'.cell? ⟨w.heap.size, 2, none⟩ = some (.slice a n cap) ∧ w'.cell? ⟨w4.heap.size, 0, none⟩ = some (.int .i64 R) ∧ w'.cell? ⟨w4.heap.size, 1, none⟩ = some (.int .i64 C) ∧ w'.cell? ⟨w4.heap.size, 2, none⟩ = some (.slice (some ⟨b4, 0, none⟩) n n))
    (first
      | go_keep
      | (go_split_ands
         refine ⟨?_, ?_, ?_, ?_, ?_, ?_⟩
         · (rw [hb8.cell (p := ⟨w.heap.size, 0, none⟩) (by have := hb7.size; simp at this; show w.heap.size < _; omega)]; assumption)
         · (rw [hb8.cell (p := ⟨w.heap.size, 1, none⟩) (by have := hb7.size; simp at this; show w.heap.size < _; omega)]; assumption)
         · (rw [hb8.cell (p := ⟨w.heap.size, 2, none⟩) (by have := hb7.size; simp at this; show w.heap.size < _; omega)]; assumption)
         · (rw [hb8.cell (p := ⟨w4.heap.size, 0, none⟩) (by have := hb7.size; simp at this; show w4.heap.size < _; omega)]; assumption)
         · (rw [hb8.cell (p := ⟨w4.heap.size, 1, none⟩) (by have := hb7.size; simp at this; show w4.heap.size < _; omega)]; assumption)
         · (rw [hb8.cell (p := ⟨w4.heap.size, 2, none⟩) (by have := hb7.size; simp at this; show w4.heap.size < _; omega)]; assumption))
      | (go_split_ands
         refine ⟨?_, ?_, ?_, ?_, ?_, ?_⟩
         · (rw [hb7.cell (p := ⟨w.heap.size, 0, none⟩) (by simpa using y6)]; assumption)
         · (rw [hb7.cell (p := ⟨w.heap.size, 1, none⟩) (by simpa using y6)]; assumption)
         · (rw [hb7.cell (p := ⟨w.heap.size, 2, none⟩) (by simpa using y6)]; assumption)
         · (rw [hb7.cell (p := ⟨w4.heap.size, 0, none⟩) (by simpa using z6)]; assumption)
         · (rw [hb7.cell (p := ⟨w4.heap.size, 1, none⟩) (by simpa using z6)]; assumption)
         · (rw [hb7.cell (p := ⟨w4.heap.size, 2, none⟩) (by simpa using z6)]; assumption)))
    ((first
      | (go_at_call 11; refine (toTable_any R C a n cap l _ ((T3.out.below HB6.out).below (Below.refl _ _).drew) hle).mono ?_; rintro e w7 ⟨⟨b7, r7, -, rfl, ho7⟩, hb7⟩)
      | (go_at_call 13; refine (eqTable_same R C _ _ _ l _ _ _ _ ((HP6.out.tab.below (Below.refl _ _).drew).below hb7) ho7.tab).mono ?_; rintro e w8 ⟨rfl, hb8⟩)))
  have s10 := hb7.size
  simp only [World.size_drew] at s10
  have s11 := hb8.size
  have b68 : Below w6.heap.size w6 w8 := ((Below.refl w6.heap.size w6).drew.trans (hb7.mono (by simp only [World.size_drew]; omega))).trans (hb8.mono (by omega))
  clear e0 e1 e2 i0 i1 i2
  have HB8 : Hid (Below v3.heap.size v3 w8) := HB6.out.trans (b68.mono (by omega))
  have HG8 : Hid (RowAt w8 w5.heap.size #[.int .i64 x2, .int .i64 y2, .slice a2 n2 c2] 28) := HG6.out.below b68 (by omega)
  have HX8 : Hid (RowAt w8 w4.heap.size #[.int .i64 R, .int .i64 C, .slice (some ⟨b4, 0, none⟩) n n] 28) := HX6.out.below b68 (by omega)
  have HO8 : Hid (OwnT w8 v4.heap.size (.slice a2 n2 c2) rs2 l2) := HO6.out.below b68
  have HP8 : Hid (OwnT w8 v3.heap.size (.slice (some ⟨b4, 0, none⟩) n n) r4 l) := HP6.out.below b68
  clear hb7 hb8 ho7 b68
  have e0 : w8.cell? ⟨w4.heap.size, 0, none⟩ = some (.int .i64 R) := (HX8.out).cell 0
  have e1 : w8.cell? ⟨w4.heap.size, 1, none⟩ = some (.int .i64 C) := (HX8.out).cell 1
  have e2 : w8.cell? ⟨w4.heap.size, 2, none⟩ = some (.slice (some ⟨b4, 0, none⟩) n n) := (HX8.out).cell 2
  go_wp2_with fail
  refine (markTable_over R C _ n n r4 l 1 v3.heap.size v4.heap.size _ HP8.out (fun g hg => (own_lt HO4.out.1.row hg).2) (fun k hk g hg => HO4.out.2.blockLt k hk g hg) (by omega) (by omega) (by omega) (by omega)).mono ?_
  rintro e w9 ⟨rfl, -, hb9, hs9, hov⟩
  have s12 := hb9.size
  clear e0 e1 e2
  have HB9 : Hid (Below v3.heap.size v3 w9) := HB8.out.trans hb9
  have HG9 : Hid (RowAt w9 w5.heap.size #[.int .i64 x2, .int .i64 y2, .slice a2 n2 c2] 28) := hs9 _ _ HG8.out
  have HO9 : Hid (OwnT w9 v4.heap.size (.slice a2 n2 c2) rs2 l2) := HO8.out.over (Nat.le_refl _) hov
  clear hb9 hs9 hov
  obtain ⟨K, HK⟩ : ∃ K, Hid (kAt 1 l l.length = K) := ⟨_, rfl⟩
  have kge : 0 ≤ K := by rw [← HK.out]; exact kAt_ge 1 l _ (by omega)
  rw [HK.out]
  have nk : ¬ K < 0 := by omega
  have p0 : w9.cell? ⟨w5.heap.size, 0, none⟩ = some (.int .i64 x2) := (HG9.out).cell 0
  have p1 : w9.cell? ⟨w5.heap.size, 1, none⟩ = some (.int .i64 y2) := (HG9.out).cell 1
  have p2 : w9.cell? ⟨w5.heap.size, 2, none⟩ = some (.slice a2 n2 c2) := (HG9.out).cell 2
  have q0 : w9.cell? ⟨w3.heap.size, 0, none⟩ = some (.int .i64 x2) := (HW1.out.below HB9.out zw).cell 0
  have q1 : w9.cell? ⟨w3.heap.size, 1, none⟩ = some (.int .i64 y2) := (HW1.out.below HB9.out zw).cell 1
  have q2 : w9.cell? ⟨w3.heap.size, 2, none⟩ = some (.slice a1 n1 c1) := (HW1.out.below HB9.out zw).cell 2
  go_wp2_with fail
  refine (eqTable_same x2 y2 _ _ _ l2 _ _ _ _ HO9.out.tab (HT1.out.below HB9.out)).mono ?_
  rintro e w10 ⟨rfl, hb10⟩
  have s13 := hb10.size
  clear p0 p1 p2 q0 q1 q2
  have HB10 : Hid (Below v3.heap.size v3 w10) := HB9.out.trans (hb10.mono (by omega))
  have HG10 : Hid (RowAt w10 w5.heap.size #[.int .i64 x2, .int .i64 y2, .slice a2 n2 c2] 28) := HG9.out.below hb10 (by omega)
  have HO10 : Hid (OwnT w10 v4.heap.size (.slice a2 n2 c2) rs2 l2) := HO9.out.below hb10
  clear hb10
  have p0 : w10.cell? ⟨w5.heap.size, 0, none⟩ = some (.int .i64 x2) := (HG10.out).cell 0
  have p1 : w10.cell? ⟨w5.heap.size, 1, none⟩ = some (.int .i64 y2) := (HG10.out).cell 1
  have p2 : w10.cell? ⟨w5.heap.size, 2, none⟩ = some (.slice a2 n2 c2) := (HG10.out).cell 2
  go_wp2_with fail
  refine (markTable_any x2 y2 a2 n2 c2 rs2 l2 1 v4.heap.size _ HO10.out (by omega) (by omega) (by omega) (by omega)).mono ?_
  rintro e w11 ⟨rfl, ⟨rs4, ho11⟩, hb11, hs11⟩
  have s14 := hb11.size
  clear p0 p1 p2
  have HB11 : Hid (Below v3.heap.size v3 w11) := HB10.out.trans (hb11.mono (by omega))
  have HG11 : Hid (RowAt w11 w5.heap.size #[.int .i64 x2, .int .i64 y2, .slice a2 n2 c2] 28) := hs11 _ _ HG10.out
  have HM11 : Hid (Tab w11 a2 n2 c2 (markL 1 l2)) := ho11.tab
  clear ho11 hb11 hs11
  obtain ⟨M, HM⟩ : ∃ M, Hid (kAt 1 l2 l2.length = M) := ⟨_, rfl⟩
  have mge : 0 ≤ M := by rw [← HM.out]; exact kAt_ge 1 l2 _ (by omega)
  rw [HM.out]
  have nm : ¬ M < 0 := by omega
  have ne : (M != M) = false := by simp
  have p0 : w11.cell? ⟨w5.heap.size, 0, none⟩ = some (.int .i64 x2) := (HG11.out).cell 0
  have p1 : w11.cell? ⟨w5.heap.size, 1, none⟩ = some (.int .i64 y2) := (HG11.out).cell 1
  have p2 : w11.cell? ⟨w5.heap.size, 2, none⟩ = some (.slice a2 n2 c2) := (HG11.out).cell 2
  go_wp2_with fail
  refine (heldTable_any x2 y2 a2 n2 c2 l2 1 _ HM11.out (by omega) (by omega) (by omega)).mono ?_
  rintro e w12 ⟨rfl, hb12⟩
  have s15 := hb12.size
  rw [HM.out]
  clear p0 p1 p2
  have HB12 : Hid (Below v3.heap.size v3 w12) := HB11.out.trans (hb12.mono (by omega))
  have HG12 : Hid (RowAt w12 w5.heap.size #[.int .i64 x2, .int .i64 y2, .slice a2 n2 c2] 28) := HG11.out.below hb12 (by omega)
  have HM12 : Hid (Tab w12 a2 n2 c2 (markL 1 l2)) := HM11.out.below hb12
  clear hb12
  have i0 : w12.cell? ⟨w.heap.size, 0, none⟩ = some (.int .i64 R) := (HG3.out.below HB12.out z3).cell 0
  have i1 : w12.cell? ⟨w.heap.size, 1, none⟩ = some (.int .i64 C) := (HG3.out.below HB12.out z3).cell 1
  have i2 : w12.cell? ⟨w.heap.size, 2, none⟩ = some (.slice a n cap) := (HG3.out.below HB12.out z3).cell 2
  go_wp2_with fail
  refine (toTable_any R C a n cap l _ (T3.out.below HB12.out) hle).mono ?_
  rintro e w13 ⟨⟨b13, r13, -, rfl, ho13⟩, hb13⟩
  have s16 := hb13.size
  go_wp2_with fail
  refine (implTableRowIn_any R C t' _ _ _ l _ ho13.tab).mono ?_
  intro e w14 hr
  obtain ⟨⟨x3, y3, a3, n3, c3, l3, g3, rfl, hR3⟩, hb14⟩ := fRes_of hr
  clear hr i0 i1 i2
  obtain rfl : x3 = x2 := hR3.2.1.trans HX1.out.1.symm
  obtain rfl : y3 = y2 := hR3.2.2.1.trans HX1.out.2.1.symm
  obtain rfl : l3 = l2 := hR3.2.2.2.1.trans HX1.out.2.2.1.symm
  obtain rfl : g3 = g2 := hR3.2.2.2.2.trans HX1.out.2.2.2.symm
  obtain ⟨rs3, ho3⟩ := hR3.1
  have s17 := hb14.size
  have b24 : Below w12.heap.size w12 w14 := hb13.trans (hb14.mono s16)
  clear hR3 hb13 hb14 ho13
  go_upto_region 25 with fail
  have W14 : RowAt (w14.alloc (.cells #[.int .i64 x3, .int .i64 y3, .slice a3 n3 c3] 28)) w14.heap.size #[.int .i64 x3, .int .i64 y3, .slice a3 n3 c3] 28 := rowAt_new _ _ _
  have T14 : Tab (w14.alloc (.cells #[.int .i64 x3, .int .i64 y3, .slice a3 n3 c3] 28)) a3 n3 c3 l3 := ho3.tab.below ((Below.refl _ _).alloc (Nat.le_refl _) _)
  have B14 : Below w12.heap.size w12 (w14.alloc (.cells #[.int .i64 x3, .int .i64 y3, .slice a3 n3 c3] 28)) := b24.alloc (by omega) _
  generalize (w14.alloc (.cells #[.int .i64 x3, .int .i64 y3, .slice a3 n3 c3] 28)) = v14 at W14 T14 B14 ⊢
  have zh := W14.lt
  have s18 := B14.size
  have HW14 : Hid (RowAt v14 w14.heap.size #[.int .i64 x3, .int .i64 y3, .slice a3 n3 c3] 28) := W14
  have HT14 : Hid (Tab v14 a3 n3 c3 l3) := T14
  have HG14 : Hid (RowAt v14 w5.heap.size #[.int .i64 x3, .int .i64 y3, .slice a2 n2 c2] 28) := HG12.out.below B14 (by omega)
  have HM14 : Hid (Tab v14 a2 n2 c2 (markL 1 l3)) := HM12.out.below B14
  have HB14 : Hid (Below v3.heap.size v3 v14) := HB12.out.trans (B14.mono (by omega))
  clear W14 T14 B14 ho3 b24
  have p0 : v14.cell? ⟨w14.heap.size, 0, none⟩ = some (.int .i64 x3) := HW14.out.cell 0
  have p1 : v14.cell? ⟨w14.heap.size, 1, none⟩ = some (.int .i64 y3) := HW14.out.cell 1
  have p2 : v14.cell? ⟨w14.heap.size, 2, none⟩ = some (.slice a3 n3 c3) := HW14.out.cell 2
  have q0 : v14.cell? ⟨w3.heap.size, 0, none⟩ = some (.int .i64 x3) := (HW1.out.below HB14.out zw).cell 0
  have q1 : v14.cell? ⟨w3.heap.size, 1, none⟩ = some (.int .i64 y3) := (HW1.out.below HB14.out zw).cell 1
  have q2 : v14.cell? ⟨w3.heap.size, 2, none⟩ = some (.slice a1 n1 c1) := (HW1.out.below HB14.out zw).cell 2
  go_wp2_with fail
  refine (eqTable_same x3 y3 _ _ _ l3 _ _ _ _ HT14.out (HT1.out.below HB14.out)).mono ?_
  rintro e w15 ⟨rfl, hb15⟩
  have s19 := hb15.size
  clear p0 p1 p2 q0 q1 q2
  have HG15 : Hid (RowAt w15 w5.heap.size #[.int .i64 x3, .int .i64 y3, .slice a2 n2 c2] 28) := HG14.out.below hb15 (by omega)
  have HM15 : Hid (Tab w15 a2 n2 c2 (markL 1 l3)) := HM14.out.below hb15
  have p0 : w15.cell? ⟨w5.heap.size, 0, none⟩ = some (.int .i64 x3) := HG15.out.cell 0
  have p1 : w15.cell? ⟨w5.heap.size, 1, none⟩ = some (.int .i64 y3) := HG15.out.cell 1
  have p2 : w15.cell? ⟨w5.heap.size, 2, none⟩ = some (.slice a2 n2 c2) := HG15.out.cell 2
  go_wp2_with fail
  refine (heldTable_any x3 y3 a2 n2 c2 l3 1 _ HM15.out (by omega) (by omega) (by omega)).mono ?_
  rintro e w16 ⟨rfl, hb16⟩
  rw [HM.out]
  clear p0 p1 p2
  go_wp2_with fail
  go_ret
  exact ⟨rfl, ((HB3.out.trans (HB14.out.mono (by omega))).trans (hb15.mono (by omega))).trans (hb16.mono (by omega))⟩
end Go.Proofs.Yteghidjbcpmfbaa
