import Derived.Test.YteghidjbcpmfbaaGive
import Derived.Deep.Cut
namespace Go.Proofs.Yteghidjbcpmfbaa
open Go.RowKit

theorem give_is {R C : Int} {n : Nat} {f : Nat → Nat} {t : Nat → Sl} {r c d h v : Nat} {w : World} {G : Array Value} (hG : gridA R C n f t = G) (hr : r + d ≤ 5) (hc : c + h ≤ 5) :
    Calls Try.prog 50 #[.agg G, .agg #[.int .i64 r, .int .i64 c, .int .i64 d, .int .i64 h], .int .i64 v] w fun z w' => z = .returned (.agg (gridA R C n (giveF f r c d h v) t)) ∧ Below w.heap.size w w' := hG ▸ give_any R C n f t r c d h v w hr hc

set_option maxRecDepth 100000 in
set_option maxHeartbeats 4000000 in
theorem lay_any (R C : Int) (n : Nat) (f : Nat → Nat) (t : Nat → Sl) (r c d h : Nat) (s : Sl) (w : World) (hr : r + d ≤ 5) (hc : c + h ≤ 5) (hn : n < 25) :
    Calls Try.prog 56 #[.agg (gridA R C n f t), .agg #[.int .i64 r, .int .i64 c, .int .i64 d, .int .i64 h], slV s] w fun z w' => z = .returned (.agg (gridA R C (n + 1) (giveF f r c d h (n + 1)) (updS t (n + 1) s))) ∧ Below w.heap.size w w' := by
  obtain ⟨sa, sn, sc⟩ := s
  unfold slV
  go_enter Try.func56, Try.ntmps56
  go_upto_region 1 with fail
  rw [← grid_zero]
  have B0 : Below w.heap.size w (((w.alloc (.cells (gridA R C n f t) 51)).alloc (.cells #[.int .i64 r, .int .i64 c, .int .i64 d, .int .i64 h] 63)).alloc (.cells (gridA 0 0 0 (fun _ => 0) (fun _ => sl0)) 51)) := (((Below.refl _ _).alloc (Nat.le_refl _) _).alloc (by simp) _).alloc (by simp; omega) _
  have G0 : GridAt (((w.alloc (.cells (gridA R C n f t) 51)).alloc (.cells #[.int .i64 r, .int .i64 c, .int .i64 d, .int .i64 h] 63)).alloc (.cells (gridA 0 0 0 (fun _ => 0) (fun _ => sl0)) 51)) w.heap.size R C n f t := ((gridAt_new w R C n f t).alloc _).alloc _
  have G1 : GridAt (((w.alloc (.cells (gridA R C n f t) 51)).alloc (.cells #[.int .i64 r, .int .i64 c, .int .i64 d, .int .i64 h] 63)).alloc (.cells (gridA 0 0 0 (fun _ => 0) (fun _ => sl0)) 51)) (w.heap.size + 1 + 1) 0 0 0 (fun _ => 0) (fun _ => sl0) := by
    have := gridAt_new ((w.alloc (.cells (gridA R C n f t) 51)).alloc (.cells #[.int .i64 r, .int .i64 c, .int .i64 d, .int .i64 h] 63)) 0 0 0 (fun _ => 0) (fun _ => sl0)
    simpa using this
  have G2 : RectAt (((w.alloc (.cells (gridA R C n f t) 51)).alloc (.cells #[.int .i64 r, .int .i64 c, .int .i64 d, .int .i64 h] 63)).alloc (.cells (gridA 0 0 0 (fun _ => 0) (fun _ => sl0)) 51)) (w.heap.size + 1) r c d h := by
    have := (rowAt_new (w.alloc (.cells (gridA R C n f t) 51)) #[.int .i64 r, .int .i64 c, .int .i64 d, .int .i64 h] 63).alloc (.cells (gridA 0 0 0 (fun _ => 0) (fun _ => sl0)) 51)
    simpa [RectAt] using this
  generalize (((w.alloc (.cells (gridA R C n f t) 51)).alloc (.cells #[.int .i64 r, .int .i64 c, .int .i64 d, .int .i64 h] 63)).alloc (.cells (gridA 0 0 0 (fun _ => 0) (fun _ => sl0)) 51)) = w1 at B0 G0 G1 G2 ⊢
  have p0 := G0.cells
  have p1 := G0.frozen 2
  go_upto_region 2 with fail
  rw [show (n : Int) + 1 = ((n + 1 : Nat) : Int) from by omega]
  have X0 := G0.setCells (n + 1)
  have X1 := G1.other ⟨w.heap.size, 2, none⟩ (.int .i64 ((n + 1 : Nat) : Int)) (by simp <;> omega)
  have X2 : RectAt _ _ _ _ _ _ := RowAt.other G2 ⟨w.heap.size, 2, none⟩ (.int .i64 ((n + 1 : Nat) : Int)) (by simp)
  have X3 := B0.setCell (p := ⟨w.heap.size, 2, none⟩) (Nat.le_refl _) (.int .i64 ((n + 1 : Nat) : Int))
  clear p0 p1 G0 G1 G2 B0
  generalize (w1.setCell ⟨w.heap.size, 2, none⟩ (.int .i64 ((n + 1 : Nat) : Int))) = w2 at X0 X1 X2 X3 ⊢
  obtain ⟨m, hm⟩ : ∃ m, n + 1 = m := ⟨_, rfl⟩
  rw [hm] at X0 ⊢
  have p0 := X0.cells
  have p1 := X0.txt m (by omega)
  have p2 := X0.frozen (28 + m)
  have p3 : (m : Int) < 26 := by omega
  go_upto_region 3 with fail
  have Y0 := X0.setTxt m (sa, sn, sc) (by omega)
  have Y1 := X1.other ⟨w.heap.size, 28 + m, none⟩ (slV (sa, sn, sc)) (by simp <;> omega)
  have Y2 : RectAt _ _ _ _ _ _ := RowAt.other X2 ⟨w.heap.size, 28 + m, none⟩ (slV (sa, sn, sc)) (by simp)
  have Y3 := X3.setCell (p := ⟨w.heap.size, 28 + m, none⟩) (Nat.le_refl _) (slV (sa, sn, sc))
  clear p0 p1 p2 X0 X1 X2 X3
  generalize hgen : (w2.setCell ⟨w.heap.size, 28 + m, none⟩ (slV (sa, sn, sc))) = w3 at Y0 Y1 Y2 Y3
  rw [show w2.setCell ⟨w.heap.size, 28 + m, none⟩ (Value.slice sa sn sc) = w3 from hgen]
  clear hgen
  have q0 := Y0.cells
  have e0 := Y2.c0
  have e1 := Y2.c1
  have e2 := Y2.c2
  have e3 := Y2.c3
  have HG : Hid (GridAt w3 w.heap.size R C m f (updS t m (sa, sn, sc))) := Y0
  have HZ : Hid (GridAt w3 (w.heap.size + 1 + 1) 0 0 0 (fun _ => 0) (fun _ => sl0)) := Y1
  have HB : Hid (Below w.heap.size w w3) := Y3
  have hlt := Y1.lt
  clear Y0 Y1 Y2 Y3
  go_wp2_with (first | (refine wpList_load_row rfl 51 (.tmp 3) rfl w.heap.size rfl 51 (gridA R C m f (updS t m (sa, sn, sc))) (0, 0) _ HG.out Try.underlying51 rfl (grid_infoA _ _ _ _ _) ?_) | (go_at_call 50; refine (give_any R C m f (updS t m (sa, sn, sc)) r c d h m _ hr hc).mono ?_; rintro e w4 ⟨rfl, hb4⟩) | (refine wpList_store_row rfl 51 (.tmp 6) (.tmp 20) rfl (w.heap.size + 1 + 1) (gridA R C m (giveF f r c d h m) (updS t m (sa, sn, sc))) rfl rfl 51 _ (HZ.out.below hb4 hlt) (grid_infoA _ _ _ _ _) (by rw [gridA_size, gridA_size]) (gridA_one _ _ _ _ _) ?_))
  have hz := RowAt.setRow (HZ.out.below hb4 hlt) (gridA R C m (giveF f r c d h m) (updS t m (sa, sn, sc)))
  refine bodyPost_ret (v := .agg (gridA R C m (giveF f r c d h m) (updS t m (sa, sn, sc)))) (results_cell_row (p := 6) (ty := 51) rfl _ _ (w.heap.size + 1 + 1) 51 _ _ _ rfl hz Try.underlying51 rfl (grid_infoA _ _ _ _ _)) rfl ⟨by rw [hm], ?_⟩
  exact below_row (HB.out.trans (hb4.mono (by omega))) (by omega) _
end Go.Proofs.Yteghidjbcpmfbaa
