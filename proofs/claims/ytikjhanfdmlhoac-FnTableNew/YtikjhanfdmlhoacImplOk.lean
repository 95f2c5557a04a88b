import Derived.Test.YtikjhanfdmlhoacGridOf
namespace Go.Proofs.Ytikjhanfdmlhoac
open Go.RowKit

set_option maxRecDepth 100000 in
set_option maxHeartbeats 4000000 in
theorem implTableOk_is {R C : Int} {a : Option Addr} {n cap : Nat} {l : List Cl} {w : World} {x : Bool} (hx : okB R C l = x) (h : Tab w a n cap l) :
    Calls Try.prog 10 #[.agg #[.int .i64 R, .int .i64 C, .slice a n cap]] w fun z w' => z = .returned (.bool x) ∧ Below w.heap.size w w' := by
  have HX : Hid (okB R C l = x) := hx
  have H : Hid (Tab w a n cap l) := h
  clear hx h
  go_enter Try.func10, Try.ntmps10
  go_upto_region 1 with fail
  have B0 : Below w.heap.size w (w.alloc (.cells #[.int .i64 R, .int .i64 C, .slice a n cap] 25)) := (Below.refl _ _).alloc (Nat.le_refl _) _
  have HT : Hid (Tab (w.alloc (.cells #[.int .i64 R, .int .i64 C, .slice a n cap] 25)) a n cap l) := H.out.below B0
  have G2 : RowAt (w.alloc (.cells #[.int .i64 R, .int .i64 C, .slice a n cap] 25)) w.heap.size #[.int .i64 R, .int .i64 C, .slice a n cap] 25 := rowAt_new w _ _
  generalize (w.alloc (.cells #[.int .i64 R, .int .i64 C, .slice a n cap] 25)) = v0 at B0 HT G2 ⊢
  have k0 : v0.cell? ⟨w.heap.size, 0, none⟩ = some (.int .i64 R) := G2.cell 0
  have k1 : v0.cell? ⟨w.heap.size, 1, none⟩ = some (.int .i64 C) := G2.cell 1
  have k2 : v0.cell? ⟨w.heap.size, 2, none⟩ = some (.slice a n cap) := G2.cell 2
  clear G2
  cases x
  · go_wp2_with (first | (go_at_call 32; refine (gridOf_is HX.out HT.out).mono ?_; rintro e w1 ⟨(⟨-, rfl⟩ | ⟨hno, -⟩), hb1⟩; rotate_left; exact absurd hno (by simp)) | (rw [← grid_zero]; refine wpList_store_row rfl 55 (.tmp 3) (.tmp 8) rfl w1.heap.size (gridA 0 0 0 (fun _ => 0) (fun _ => sl0)) rfl rfl 55 _ (gridAt_new _ _ _ _ _ _) (grid_infoA _ _ _ _ _) (by rw [gridA_size]) (gridA_one _ _ _ _ _) ?_))
    go_ret
    exact ⟨rfl, below_row ((B0.trans (hb1.mono B0.size)).alloc (Nat.le_trans B0.size hb1.size) _) (Nat.le_trans B0.size hb1.size) _⟩
  · go_wp2_with (first | (go_at_call 32; refine (gridOf_is HX.out HT.out).mono ?_; rintro e w1 ⟨(⟨hno, -⟩ | ⟨-, t, rfl, -⟩), hb1⟩; exact absurd hno (by simp)) | (rw [← grid_zero]; refine wpList_store_row rfl 55 (.tmp 3) (.tmp 8) rfl w1.heap.size (gridA R C l.length (numF l l.length) t) rfl rfl 55 _ (gridAt_new _ _ _ _ _ _) (grid_infoA _ _ _ _ _) (by rw [gridA_size, gridA_size]) (gridA_one _ _ _ _ _) ?_))
    go_ret
    exact ⟨rfl, below_row ((B0.trans (hb1.mono B0.size)).alloc (Nat.le_trans B0.size hb1.size) _) (Nat.le_trans B0.size hb1.size) _⟩
end Go.Proofs.Ytikjhanfdmlhoac
