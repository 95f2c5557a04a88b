import Derived.Test.YtlpfflcogefbjaaBA2
import Derived.Test.YtlpfflcogefbjaaBA1
import Derived.Test.YtlpfflcogefbjaaBA3
namespace Go.Proofs.Ytlpfflcogefbjaa
open Go.RowKit

set_option maxRecDepth 100000 in
set_option maxHeartbeats 4000000 in
theorem lawXDocOk_walk (a : Option Addr) (n cap : Nat) (l : List Bl) (w : World) (h : Dc w a n cap l) :
    Calls Try.prog 3 #[.agg #[.slice a n cap]] w fun e w' => e = .returned (.bool true) ∧ Below w.heap.size w w' := by
  have H : Hid (Dc w a n cap l) := h
  clear h
  go_enter Try.func3, Try.ntmps3
  go_upto_region 1 with fail
  have B0 : Below w.heap.size w (w.alloc (.cells #[.slice a n cap] 24)) := (Below.refl _ _).alloc (Nat.le_refl _) _
  have G2 : RowAt (w.alloc (.cells #[.slice a n cap] 24)) w.heap.size #[.slice a n cap] 24 := rowAt_new w _ _
  generalize (w.alloc (.cells #[.slice a n cap] 24)) = v0 at B0 G2 ⊢
  have k2 : v0.cell? ⟨w.heap.size, 0, none⟩ = some (.slice a n cap) := G2.cell 0
  have z0 := G2.lt
  have HG : Hid (RowAt v0 w.heap.size #[.slice a n cap] 24) := G2
  have T0 : Hid (Dc v0 a n cap l) := H.out.below B0
  clear G2
  go_wp2_with fail
  refine (szDoc_any T0.out).mono ?_
  rintro e w1 ⟨(rfl | ⟨hle, rfl⟩), hb1⟩
  · go_wp2_with fail
    go_ret
    exact ⟨rfl, B0.trans (hb1.mono B0.size)⟩
  have T1 : Hid (Dc w1 a n cap l) := T0.out.below hb1
  have s0 := B0.size
  have s1 := hb1.size
  have B1 : Below w.heap.size w w1 := B0.trans (hb1.mono s0)
  have j2 := (hb1.cell (p := ⟨w.heap.size, 0, none⟩) z0).trans k2
  have HG1 : Hid (RowAt w1 w.heap.size #[.slice a n cap] 24) := HG.out.below hb1 z0
  have n0 : ¬ (1048576 - (l.length : Int) - (totD l : Int)) < 0 := by omega
  clear k2 HG hb1 B0
  obtain ⟨x, HX⟩ : ∃ x, Hid (docB l = x) := ⟨_, rfl⟩
  go_wp2_with fail
  refine (toDoc_any T1.out hle).mono ?_
  rintro e w2 ⟨⟨b2, r2, rfl, ho2⟩, hb2⟩
  have s2 := hb2.size
  go_wp2_with fail
  refine (specDocOk_is HX.out ho2.dc).mono ?_
  rintro e w3 ⟨rfl, hb3⟩
  have s3 := hb3.size
  have b13 : Below w1.heap.size w1 w3 := hb2.trans (hb3.mono s2)
  have T3 : Hid (Dc w3 a n cap l) := T1.out.below b13
  have z1 : w.heap.size < w1.heap.size := by omega
  have i2 := (b13.cell (p := ⟨w.heap.size, 0, none⟩) z1).trans j2
  have B3 : Below w.heap.size w w3 := B1.trans (b13.mono (by omega))
  have HG3 : Hid (RowAt w3 w.heap.size #[.slice a n cap] 24) := HG1.out.below b13 z1
  clear j2 HG1 hb2 hb3 b13 ho2 B1
  go_wp2_with fail
  refine (toDoc_any T3.out hle).mono ?_
  rintro e w4 ⟨⟨b4, r4, rfl, ho4⟩, hb4⟩
  go_upto_region 7 with fail
  have s4 := hb4.size
  have b34 : Below w3.heap.size w3 (w4.alloc (.cells #[.slice (some ⟨b4, 0, none⟩) n n] 29)) := hb4.alloc s4 _
  have T5 : Hid (Dc (w4.alloc (.cells #[.slice (some ⟨b4, 0, none⟩) n n] 29)) a n cap l) := T3.out.below b34
  have O5 : Hid (Dc (w4.alloc (.cells #[.slice (some ⟨b4, 0, none⟩) n n] 29)) (some ⟨b4, 0, none⟩) n n l) := ho4.dc.below ((Below.refl _ _).alloc (Nat.le_refl _) _)
  have z3 : w.heap.size < w3.heap.size := by omega
  have j2 := (b34.cell (p := ⟨w.heap.size, 0, none⟩) z3).trans i2
  have B5 : Below w.heap.size w (w4.alloc (.cells #[.slice (some ⟨b4, 0, none⟩) n n] 29)) := B3.trans (b34.mono (by omega))
  have G5 : RowAt (w4.alloc (.cells #[.slice (some ⟨b4, 0, none⟩) n n] 29)) w4.heap.size #[.slice (some ⟨b4, 0, none⟩) n n] 29 := rowAt_new _ _ _
  have s5 := b34.size
  clear i2 HG3 hb4 b34 ho4 B3
  generalize (w4.alloc (.cells #[.slice (some ⟨b4, 0, none⟩) n n] 29)) = w5 at T5 O5 j2 B5 G5 s5 ⊢
  have e2 : w5.cell? ⟨w4.heap.size, 0, none⟩ = some (.slice (some ⟨b4, 0, none⟩) n n) := G5.cell 0
  have z5 := G5.lt
  have y5 : w.heap.size < w5.heap.size := by omega
  clear G5
  go_upto_region 8 with (go_at_call 12; refine (implDocOk_is HX.out O5.out).mono ?_; rintro e w6 ⟨rfl, hb6⟩)
  have s6 := hb6.size
  have B6 : Below w.heap.size w w6 := B5.trans (hb6.mono (by omega))
  have T6 : Hid (Dc w6 a n cap l) := T5.out.below hb6
  have O6 : Hid (Dc w6 (some ⟨b4, 0, none⟩) n n l) := O5.out.below hb6
  have i2 := (hb6.cell (p := ⟨w.heap.size, 0, none⟩) y5).trans j2
  have d2 := (hb6.cell (p := ⟨w4.heap.size, 0, none⟩) z5).trans e2
  have y6 : w.heap.size < w6.heap.size := by omega
  have z6 : w4.heap.size < w6.heap.size := by omega
  have xx : (x != x) = false := by cases x <;> rfl
  clear j2 e2 hb6 T5 O5
  go_wp2_with fail
  go_region_held3 (fun w' => w'.cell? ⟨w.heap.size, 0, none⟩ = some (.slice a n cap) ∧ w'.cell? ⟨w4.heap.size, 0, none⟩ = some (.slice (some ⟨b4, 0, none⟩) n n))
    (first
      | go_keep
      | (go_split_ands
         refine ⟨?_, ?_⟩
         · (rw [hb8.cell (p := ⟨w.heap.size, 0, none⟩) (by have := hb7.size; simp at this; show w.heap.size < _; omega)]; assumption)
         · (rw [hb8.cell (p := ⟨w4.heap.size, 0, none⟩) (by have := hb7.size; simp at this; show w4.heap.size < _; omega)]; assumption))
      | (go_split_ands
         refine ⟨?_, ?_⟩
         · (rw [hb7.cell (p := ⟨w.heap.size, 0, none⟩) (by simpa using y6)]; assumption)
         · (rw [hb7.cell (p := ⟨w4.heap.size, 0, none⟩) (by simpa using z6)]; assumption)))
    ((first
      | (go_at_call 11; refine (toDoc_any (T6.out.below (Below.refl _ _).drew) hle).mono ?_; rintro e w7 ⟨⟨b7, r7, rfl, ho7⟩, hb7⟩)
      | (go_at_call 13; refine (eqDoc_same ((O6.out.below (Below.refl _ _).drew).below hb7) ho7.dc).mono ?_; rintro e w8 ⟨rfl, hb8⟩)))
  have s7 := hb7.size
  simp only [World.size_drew] at s7
  go_wp2_with fail
  go_ret
  exact ⟨rfl, (B6.drew.trans (hb7.mono (by simp only [World.size_drew]; omega))).trans (hb8.mono (by omega))⟩
end Go.Proofs.Ytlpfflcogefbjaa
