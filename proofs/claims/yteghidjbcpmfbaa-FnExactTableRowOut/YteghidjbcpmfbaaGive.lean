import Derived.Test.YteghidjbcpmfbaaGridA
import Derived.Deep.RegionHeld3
import Derived.Deep.LoopGhost
namespace Go.Proofs.Yteghidjbcpmfbaa
open Go.RowKit

/-- All squares of a rectangle have the number v. -/
def giveF (f : Nat → Nat) (r c d h v : Nat) : Nat → Nat := fun k => if r ≤ k / 5 ∧ k / 5 < r + d ∧ c ≤ k % 5 ∧ k % 5 < c + h then v else f k
def giveI (f : Nat → Nat) (r c h v i j : Nat) : Nat → Nat := fun k => if (r ≤ k / 5 ∧ k / 5 < r + i ∧ c ≤ k % 5 ∧ k % 5 < c + h) ∨ (k / 5 = r + i ∧ c ≤ k % 5 ∧ k % 5 < c + j) then v else f k
theorem giveI_zero (f : Nat → Nat) (r c h v : Nat) : giveI f r c h v 0 0 = f := by
  funext k
  unfold giveI
  rw [if_neg (by omega)]
theorem giveI_end (f : Nat → Nat) (r c d h v : Nat) : giveI f r c h v d 0 = giveF f r c d h v := by
  funext k
  unfold giveI giveF
  by_cases hh : r ≤ k / 5 ∧ k / 5 < r + d ∧ c ≤ k % 5 ∧ k % 5 < c + h
  · rw [if_pos (by omega), if_pos hh]
  · rw [if_neg (by omega), if_neg hh]
theorem giveI_row (f : Nat → Nat) (r c h v i : Nat) : giveI f r c h v i h = giveI f r c h v (i + 1) 0 := by
  funext k
  unfold giveI
  by_cases hh : (r ≤ k / 5 ∧ k / 5 < r + i ∧ c ≤ k % 5 ∧ k % 5 < c + h) ∨ (k / 5 = r + i ∧ c ≤ k % 5 ∧ k % 5 < c + h)
  · rw [if_pos hh, if_pos (by omega)]
  · rw [if_neg hh, if_neg (by omega)]
theorem giveI_upd (f : Nat → Nat) (r c h v i j : Nat) (hj : c + j < 5) : upd (giveI f r c h v i j) ((r + i) * 5 + (c + j)) v = giveI f r c h v i (j + 1) := by
  funext k
  unfold upd giveI
  by_cases h0 : k = (r + i) * 5 + (c + j)
  · rw [if_pos h0, if_pos (by omega)]
  · rw [if_neg h0]
    by_cases hh : (r ≤ k / 5 ∧ k / 5 < r + i ∧ c ≤ k % 5 ∧ k % 5 < c + h) ∨ (k / 5 = r + i ∧ c ≤ k % 5 ∧ k % 5 < c + j)
    · rw [if_pos hh, if_pos (by omega)]
    · rw [if_neg hh, if_neg (by omega)]
theorem grid_zero : gridA 0 0 0 (fun _ => 0) (fun _ => sl0) = #[.int .i64 0, .int .i64 0, .int .i64 0, .int .i64 0, .int .i64 0, .int .i64 0, .int .i64 0, .int .i64 0, .int .i64 0, .int .i64 0, .int .i64 0, .int .i64 0, .int .i64 0, .int .i64 0, .int .i64 0, .int .i64 0, .int .i64 0, .int .i64 0, .int .i64 0, .int .i64 0, .int .i64 0, .int .i64 0, .int .i64 0, .int .i64 0, .int .i64 0, .int .i64 0, .int .i64 0, .int .i64 0, .slice none 0 0, .slice none 0 0, .slice none 0 0, .slice none 0 0, .slice none 0 0, .slice none 0 0, .slice none 0 0, .slice none 0 0, .slice none 0 0, .slice none 0 0, .slice none 0 0, .slice none 0 0, .slice none 0 0, .slice none 0 0, .slice none 0 0, .slice none 0 0, .slice none 0 0, .slice none 0 0, .slice none 0 0, .slice none 0 0, .slice none 0 0, .slice none 0 0, .slice none 0 0, .slice none 0 0, .slice none 0 0, .slice none 0 0] := rfl

set_option maxRecDepth 100000 in
set_option maxHeartbeats 4000000 in
theorem give_any (R C : Int) (n : Nat) (f : Nat → Nat) (t : Nat → Sl) (r c d h v : Nat) (w : World) (hr : r + d ≤ 5) (hc : c + h ≤ 5) :
    Calls Try.prog 50 #[.agg (gridA R C n f t), .agg #[.int .i64 r, .int .i64 c, .int .i64 d, .int .i64 h], .int .i64 v] w fun z w' => z = .returned (.agg (gridA R C n (giveF f r c d h v) t)) ∧ Below w.heap.size w w' := by
  go_enter Try.func50, Try.ntmps50
  go_wp2_with fail
  rw [← grid_zero]
  have B0 : Below w.heap.size w (((w.alloc (.cells (gridA R C n f t) 51)).alloc (.cells #[.int .i64 r, .int .i64 c, .int .i64 d, .int .i64 h] 63)).alloc (.cells (gridA 0 0 0 (fun _ => 0) (fun _ => sl0)) 51)) := (((Below.refl _ _).alloc (Nat.le_refl _) _).alloc (by simp) _).alloc (by simp; omega) _
  have G0 : GridAt (((w.alloc (.cells (gridA R C n f t) 51)).alloc (.cells #[.int .i64 r, .int .i64 c, .int .i64 d, .int .i64 h] 63)).alloc (.cells (gridA 0 0 0 (fun _ => 0) (fun _ => sl0)) 51)) w.heap.size R C n f t := ((gridAt_new w R C n f t).alloc _).alloc _
  have G1 : GridAt (((w.alloc (.cells (gridA R C n f t) 51)).alloc (.cells #[.int .i64 r, .int .i64 c, .int .i64 d, .int .i64 h] 63)).alloc (.cells (gridA 0 0 0 (fun _ => 0) (fun _ => sl0)) 51)) (w.heap.size + 1 + 1) 0 0 0 (fun _ => 0) (fun _ => sl0) := by
    have := gridAt_new ((w.alloc (.cells (gridA R C n f t) 51)).alloc (.cells #[.int .i64 r, .int .i64 c, .int .i64 d, .int .i64 h] 63)) 0 0 0 (fun _ => 0) (fun _ => sl0)
    simpa using this
  have G2 : RectAt (((w.alloc (.cells (gridA R C n f t) 51)).alloc (.cells #[.int .i64 r, .int .i64 c, .int .i64 d, .int .i64 h] 63)).alloc (.cells (gridA 0 0 0 (fun _ => 0) (fun _ => sl0)) 51)) (w.heap.size + 1) r c d h := by
    have := (rowAt_new (w.alloc (.cells (gridA R C n f t) 51)) #[.int .i64 r, .int .i64 c, .int .i64 d, .int .i64 h] 63).alloc (.cells (gridA 0 0 0 (fun _ => 0) (fun _ => sl0)) 51)
    simpa [RectAt] using this
  generalize (((w.alloc (.cells (gridA R C n f t) 51)).alloc (.cells #[.int .i64 r, .int .i64 c, .int .i64 d, .int .i64 h] 63)).alloc (.cells (gridA 0 0 0 (fun _ => 0) (fun _ => sl0)) 51)) = v0 at B0 G0 G1 G2 ⊢
  go_loopw [11] (fun i wr => ∃ k : Nat, k ≤ d ∧ i = .int .i64 k ∧ GridAt wr w.heap.size R C n (giveI f r c h v k 0) t ∧ GridAt wr (w.heap.size + 1 + 1) 0 0 0 (fun _ => 0) (fun _ => sl0) ∧ RectAt wr (w.heap.size + 1) r c d h ∧ Below w.heap.size w wr) (fun i _ => d - (intOf i).toNat)
  case atStart => exact ⟨0, Nat.zero_le _, rfl, by rw [giveI_zero]; exact G0, G1, G2, B0⟩
  case round =>
    clear B0 G0 G1 G2
    obtain ⟨i, hi, rfl, hg, hz, hq, hb⟩ := hrel
    have HG : Hid (GridAt wr w.heap.size R C n (giveI f r c h v i 0) t) := hg
    have HZ : Hid (GridAt wr (w.heap.size + 1 + 1) 0 0 0 (fun _ => 0) (fun _ => sl0)) := hz
    have HQ : Hid (RectAt wr (w.heap.size + 1) r c d h) := hq
    have HB : Hid (Below w.heap.size w wr) := hb
    have k3 := hq.c3
    clear hg hz hb hq
    by_cases hlt : i < d
    · go_wp2_with fail
      go_loopw [16] (fun jj wq => ∃ j : Nat, j ≤ h ∧ jj = .int .i64 j ∧ GridAt wq w.heap.size R C n (giveI f r c h v i j) t ∧ GridAt wq (w.heap.size + 1 + 1) 0 0 0 (fun _ => 0) (fun _ => sl0) ∧ RectAt wq (w.heap.size + 1) r c d h ∧ Below w.heap.size w wq) (fun jj _ => h - (intOf jj).toNat)
      case atStart => exact ⟨0, Nat.zero_le _, rfl, HG.out, HZ.out, HQ.out, HB.out⟩
      case round =>
        clear HG HZ k3 HB HQ
        obtain ⟨j, hj, rfl, hg, hz, hq, hb⟩ := hrel
        have HG : Hid (GridAt wr w.heap.size R C n (giveI f r c h v i j) t) := hg
        have HZ : Hid (GridAt wr (w.heap.size + 1 + 1) 0 0 0 (fun _ => 0) (fun _ => sl0)) := hz
        have HQ : Hid (RectAt wr (w.heap.size + 1) r c d h) := hq
        have HB : Hid (Below w.heap.size w wr) := hb
        by_cases hlj : j < h
        · have q := hg.num ((r + i) * 5 + (c + j)) (by omega)
          have fz := hg.frozen (3 + ((r + i) * 5 + (c + j)))
          have k0 := hq.c0
          have k1 := hq.c1
          rw [← Nat.add_assoc] at q fz
          have b0 : (r : Int) + i < 5 := by omega
          have b1 : (c : Int) + j < 5 := by omega
          clear hg hz hb hq
          go_wp2_with fail
          go_region
          all_goals go_wp2_with fail
          all_goals go_roundw
          case rel =>
            have sN := HG.out.setNum ((r + i) * 5 + (c + j)) v (by omega)
            rw [giveI_upd f r c h v i j (by omega), ← Nat.add_assoc] at sN
            exact ⟨j + 1, by omega, by go_num, sN, HZ.out.other _ _ (by simp <;> omega), RowAt.other HQ.out _ _ (by simp), HB.out.drew.setCell (Nat.le_refl _) _⟩
          case measure => simp [intOf]; omega
        · clear hg hz hb hq
          go_wp2_with fail
          go_roundw
          case rel =>
            have hh := HG.out
            rw [show j = h from by omega, giveI_row] at hh
            exact ⟨i + 1, by omega, by go_num, hh, HZ.out, HQ.out, HB.out⟩
          case measure => simp [intOf]; omega
    · have hid : i = d := by omega
      subst hid
      go_wp2_with (first | (refine wpList_load_row rfl 51 (.tmp 3) rfl w.heap.size rfl 51 (gridA R C n (giveI f r c h v i 0) t) (0, 0) _ HG.out Try.underlying51 rfl (grid_infoA _ _ _ _ _) ?_) | (refine wpList_store_row rfl 51 (.tmp 6) (.tmp 33) rfl (w.heap.size + 1 + 1) (gridA R C n (giveI f r c h v i 0) t) rfl rfl 51 _ HZ.out (grid_infoA _ _ _ _ _) (by rw [gridA_size, gridA_size]) (gridA_one _ _ _ _ _) ?_))
      have hz := RowAt.setRow HZ.out (gridA R C n (giveI f r c h v i 0) t)
      refine bodyPost_ret (v := .agg (gridA R C n (giveI f r c h v i 0) t)) (results_cell_row (p := 6) (ty := 51) rfl _ _ (w.heap.size + 1 + 1) 51 _ _ _ rfl hz Try.underlying51 rfl (grid_infoA _ _ _ _ _)) rfl ⟨by rw [giveI_end], ?_⟩
      exact below_row HB.out (by omega) _
end Go.Proofs.Yteghidjbcpmfbaa
