import Derived.Test.YtikjhanfdmlhoacTabW
import Derived.Test.YtikjhanfdmlhoacLm
import Derived.Deep.Cut
namespace Go.Proofs.Ytikjhanfdmlhoac
open Go.RowKit

theorem lmSigns_eq {a : Option Addr} {n cap : Nat} {l : List Sg} {a' : Option Addr} {n' cap' : Nat} {w : World} (h : Txt w a n cap l) (h' : Txt w a' n' cap' l) :
    Calls Try.prog 22 #[.slice a n cap, .slice a' n' cap'] w fun e w' => e = .returned (.bool true) ∧ Below w.heap.size w w' := by
  refine (lmSigns_any a n cap l a' n' cap' l w h h').mono ?_
  rintro e w' ⟨rfl, q, rfl⟩
  exact ⟨by rw [decide_eq_true rfl], below_drewN (Below.refl _ _) _⟩
set_option maxRecDepth 100000 in
set_option maxHeartbeats 4000000 in
theorem lmTable_same (R C : Int) (a : Option Addr) (n cap : Nat) (l : List Cl) (a' : Option Addr) (n' cap' : Nat) (w : World) (h : Tab w a n cap l) (h' : Tab w a' n' cap' l) :
    Calls Try.prog 15 #[.agg #[.int .i64 R, .int .i64 C, .slice a n cap], .agg #[.int .i64 R, .int .i64 C, .slice a' n' cap']] w fun e w' => e = .returned (.bool true) ∧ Below w.heap.size w w' := by
  have H : Hid (Tab w a n cap l) := h
  have H' : Hid (Tab w a' n' cap' l) := h'
  obtain ⟨rfl, hc, hm, -⟩ := h
  obtain ⟨rfl, hc', hm', -⟩ := h'
  unfold maxLen at hm hm'
  go_enter Try.func15, Try.ntmps15
  go_upto_region 1 with fail
  have B0 : Below w.heap.size w ((w.alloc (.cells #[.int .i64 R, .int .i64 C, .slice a l.length cap] 25)).alloc (.cells #[.int .i64 R, .int .i64 C, .slice a' l.length cap'] 25)) := ((Below.refl _ _).alloc (Nat.le_refl _) _).alloc (by simp) _
  have G0 : RowAt ((w.alloc (.cells #[.int .i64 R, .int .i64 C, .slice a l.length cap] 25)).alloc (.cells #[.int .i64 R, .int .i64 C, .slice a' l.length cap'] 25)) w.heap.size #[.int .i64 R, .int .i64 C, .slice a l.length cap] 25 := (rowAt_new w _ _).alloc _
  have G1 : RowAt ((w.alloc (.cells #[.int .i64 R, .int .i64 C, .slice a l.length cap] 25)).alloc (.cells #[.int .i64 R, .int .i64 C, .slice a' l.length cap'] 25)) (w.heap.size + 1) #[.int .i64 R, .int .i64 C, .slice a' l.length cap'] 25 := by
    have := rowAt_new (w.alloc (.cells #[.int .i64 R, .int .i64 C, .slice a l.length cap] 25)) #[.int .i64 R, .int .i64 C, .slice a' l.length cap'] 25
    simpa using this
  generalize ((w.alloc (.cells #[.int .i64 R, .int .i64 C, .slice a l.length cap] 25)).alloc (.cells #[.int .i64 R, .int .i64 C, .slice a' l.length cap'] 25)) = v at B0 G0 G1 ⊢
  have k0 : v.cell? ⟨w.heap.size, 0, none⟩ = some (.int .i64 R) := G0.cell 0
  have k1 : v.cell? ⟨w.heap.size, 1, none⟩ = some (.int .i64 C) := G0.cell 1
  have k2 : v.cell? ⟨w.heap.size, 2, none⟩ = some (.slice a l.length cap) := G0.cell 2
  have j0 : v.cell? ⟨w.heap.size + 1, 0, none⟩ = some (.int .i64 R) := G1.cell 0
  have j1 : v.cell? ⟨w.heap.size + 1, 1, none⟩ = some (.int .i64 C) := G1.cell 1
  have j2 : v.cell? ⟨w.heap.size + 1, 2, none⟩ = some (.slice a' l.length cap') := G1.cell 2
  have z0 := G0.lt
  have z1 := G1.lt
  have s0 := B0.size
  have HG0 : Hid (RowAt v w.heap.size #[.int .i64 R, .int .i64 C, .slice a l.length cap] 25) := G0
  have HG1 : Hid (RowAt v (w.heap.size + 1) #[.int .i64 R, .int .i64 C, .slice a' l.length cap'] 25) := G1
  clear G0 G1
  go_wp2_with fail
  go_loopw [5] (fun iv wr => ∃ i : Nat, i ≤ l.length ∧ iv = .int .i64 i ∧ Below v.heap.size v wr) (fun iv _ => l.length - (intOf iv).toNat)
  case atStart => exact ⟨0, Nat.zero_le _, rfl, Below.refl _ _⟩
  case round =>
    clear k0 k1 k2 j0 j1 j2
    obtain ⟨i, hi, rfl, hb⟩ := hrel
    have HB : Hid (Below v.heap.size v wr) := hb
    have HW : Hid (Below w.heap.size w wr) := B0.trans (hb.mono s0)
    have k2 : wr.cell? ⟨w.heap.size, 2, none⟩ = some (.slice a l.length cap) := (HG0.out.below hb z0).cell 2
    have j2 : wr.cell? ⟨w.heap.size + 1, 2, none⟩ = some (.slice a' l.length cap') := (HG1.out.below hb z1).cell 2
    have sz := hb.size
    clear hb
    by_cases hlt : i < l.length
    · rcases H.out.2.2.2 with e | ⟨b, off, rfl, hbw, hl⟩
      · rw [e] at hlt
        exact absurd hlt (by simp)
      rcases H'.out.2.2.2 with e | ⟨b', off', rfl, hbw', hl'⟩
      · rw [e] at hlt
        exact absurd hlt (by simp)
      obtain ⟨c0, c1, c2, c3, ta, tn, tc, c4, htx⟩ := (hl i hlt).below HW.out hbw
      have hcell' := (hl' i hlt)
      obtain ⟨⟨r, c, d, g, tx⟩, hx⟩ : ∃ x, x = l.getD i cl0 := ⟨_, rfl⟩
      rw [← hx] at c0 c1 c2 c3 htx hcell'
      simp only at c0 c1 c2 c3 htx
      have HTX : Hid (Txt wr ta tn tc tx) := htx
      have HC' : Hid (CellAt w b' (off' + i * 5) (r, c, d, g, tx)) := hcell'
      clear hl hl' hx htx hcell'
      go_upto_region 7 with fail
      have bA : Below wr.heap.size wr (wr.alloc (Obj.cells #[.int .i64 r, .int .i64 c, .int .i64 d, .int .i64 g, .slice ta tn tc] 30)) := (Below.refl _ _).alloc (Nat.le_refl _) _
      have RA : RowAt (wr.alloc (Obj.cells #[.int .i64 r, .int .i64 c, .int .i64 d, .int .i64 g, .slice ta tn tc] 30)) wr.heap.size #[.int .i64 r, .int .i64 c, .int .i64 d, .int .i64 g, .slice ta tn tc] 30 := rowAt_new _ _ _
      clear c0 c1 c2 c3 c4 k2
      generalize (wr.alloc (Obj.cells #[.int .i64 r, .int .i64 c, .int .i64 d, .int .i64 g, .slice ta tn tc] 30)) = w1 at bA RA ⊢
      have zr : w.heap.size + 1 < wr.heap.size := by omega
      have m2 := (bA.cell (p := ⟨w.heap.size + 1, 2, none⟩) zr).trans j2
      have s1 := bA.size
      obtain ⟨c0, c1, c2, c3, ua, un, uc, c4, hux⟩ := HC'.out.below (HW.out.trans (bA.mono (by omega))) hbw'
      simp only at c0 c1 c2 c3 hux
      have HUX : Hid (Txt w1 ua un uc tx) := hux
      clear hux j2
      go_upto_region 8 with fail
      have bB : Below wr.heap.size wr (w1.alloc (Obj.cells #[.int .i64 r, .int .i64 c, .int .i64 d, .int .i64 g, .slice ua un uc] 30)) := bA.alloc s1 _
      have RB : RowAt (w1.alloc (Obj.cells #[.int .i64 r, .int .i64 c, .int .i64 d, .int .i64 g, .slice ua un uc] 30)) w1.heap.size #[.int .i64 r, .int .i64 c, .int .i64 d, .int .i64 g, .slice ua un uc] 30 := rowAt_new _ _ _
      have RA2 : RowAt (w1.alloc (Obj.cells #[.int .i64 r, .int .i64 c, .int .i64 d, .int .i64 g, .slice ua un uc] 30)) wr.heap.size #[.int .i64 r, .int .i64 c, .int .i64 d, .int .i64 g, .slice ta tn tc] 30 := RA.alloc _
      have HU2 : Hid (Txt (w1.alloc (Obj.cells #[.int .i64 r, .int .i64 c, .int .i64 d, .int .i64 g, .slice ua un uc] 30)) ua un uc tx) := HUX.out.below ((Below.refl _ _).alloc (Nat.le_refl _) _)
      clear c0 c1 c2 c3 c4 m2 RA
      generalize (w1.alloc (Obj.cells #[.int .i64 r, .int .i64 c, .int .i64 d, .int .i64 g, .slice ua un uc] 30)) = w2 at bB RB RA2 HU2 ⊢
      have a0 : w2.cell? ⟨wr.heap.size, 0, none⟩ = some (.int .i64 r) := RA2.cell 0
      have a1 : w2.cell? ⟨wr.heap.size, 1, none⟩ = some (.int .i64 c) := RA2.cell 1
      have a2 : w2.cell? ⟨wr.heap.size, 2, none⟩ = some (.int .i64 d) := RA2.cell 2
      have a3 : w2.cell? ⟨wr.heap.size, 3, none⟩ = some (.int .i64 g) := RA2.cell 3
      have a4 : w2.cell? ⟨wr.heap.size, 4, none⟩ = some (.slice ta tn tc) := RA2.cell 4
      have b0 : w2.cell? ⟨w1.heap.size, 0, none⟩ = some (.int .i64 r) := RB.cell 0
      have b1 : w2.cell? ⟨w1.heap.size, 1, none⟩ = some (.int .i64 c) := RB.cell 1
      have b2 : w2.cell? ⟨w1.heap.size, 2, none⟩ = some (.int .i64 d) := RB.cell 2
      have b3 : w2.cell? ⟨w1.heap.size, 3, none⟩ = some (.int .i64 g) := RB.cell 3
      have b4 : w2.cell? ⟨w1.heap.size, 4, none⟩ = some (.slice ua un uc) := RB.cell 4
      clear RB RA2
      go_wp2_with (go_at_call 22; refine (lmSigns_eq (HTX.out.below bB) HU2.out).mono ?_; rintro e w3 ⟨rfl, hb3⟩)
      go_roundw
      case rel => exact ⟨i + 1, by omega, by go_num, HB.out.trans ((bB.trans (hb3.mono bB.size)).mono sz)⟩
      case measure => simp [intOf]; omega
    · go_wp2_with fail
      go_ret
      exact ⟨rfl, HW.out⟩
end Go.Proofs.Ytikjhanfdmlhoac
