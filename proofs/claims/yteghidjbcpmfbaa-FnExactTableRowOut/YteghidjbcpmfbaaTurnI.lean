import Derived.Test.YteghidjbcpmfbaaTableW
import Derived.Deep.MidRow
namespace Go.Proofs.Yteghidjbcpmfbaa
open Go.RowKit

/-- The squares turned. -/
def turnF (f : Nat → Nat) : Nat → Nat := fun k => f (k % 5 * 5 + k / 5)
def turnP (f : Nat → Nat) (i j : Nat) : Nat → Nat := fun k => if k % 5 < i ∨ (k % 5 = i ∧ k / 5 < j) then f (k % 5 * 5 + k / 5) else f k
theorem turnP_zero (f : Nat → Nat) : turnP f 0 0 = f := by
  funext k
  unfold turnP
  rw [if_neg (by omega)]
theorem turnP_row (f : Nat → Nat) (i : Nat) (n n' : Nat) (R C : Int) (t : Nat → Sl) (_ : n = n') : gridA R C n (turnP f i 5) t = gridA R C n (turnP f (i + 1) 0) t := by
  apply Array.ext_getElem?
  intro k
  rw [gridA_get, gridA_get]
  by_cases h : k < 28
  · by_cases h3 : k < 3
    · match k, h3 with
      | 0, _ => rfl
      | 1, _ => rfl
      | 2, _ => rfl
    · have e : turnP f i 5 (k - 3) = turnP f (i + 1) 0 (k - 3) := by
        unfold turnP
        by_cases hh : (k - 3) % 5 < i ∨ ((k - 3) % 5 = i ∧ (k - 3) / 5 < 5)
        · rw [if_pos hh, if_pos (by omega)]
        · rw [if_neg hh, if_neg (by omega)]
      rw [e]
  · rw [if_neg (show ¬ k = 0 by omega), if_neg (show ¬ k = 1 by omega), if_neg (show ¬ k = 2 by omega), if_neg h, if_neg (show ¬ k = 0 by omega), if_neg (show ¬ k = 1 by omega), if_neg (show ¬ k = 2 by omega), if_neg h]
theorem turnP_end (f : Nat → Nat) : turnP f 5 0 = turnF f := by
  funext k
  unfold turnP turnF
  rw [if_pos (by omega)]
theorem turnP_upd (f : Nat → Nat) (i j : Nat) (hi : i < 5) : upd (turnP f i j) (j * 5 + i) (f (i * 5 + j)) = turnP f i (j + 1) := by
  funext k
  unfold upd turnP
  by_cases h0 : k = j * 5 + i
  · rw [if_pos h0, if_pos (by omega), show k % 5 * 5 + k / 5 = i * 5 + j from by omega]
  · rw [if_neg h0]
    by_cases hh : k % 5 < i ∨ (k % 5 = i ∧ k / 5 < j)
    · rw [if_pos hh, if_pos (by omega)]
    · rw [if_neg hh, if_neg (by omega)]
def wasL (f : Nat → Nat) : List Value := (List.range 25).map fun k => Value.int .i64 (f k)
theorem wasL_len (f : Nat → Nat) : (wasL f).length = 25 := by simp [wasL]
theorem wasL_get (f : Nat → Nat) (k : Nat) (h : k < 25) : (wasL f).toArray[k]? = some (.int .i64 (f k)) := by simp [wasL, h]
theorem wasL_one (f : Nat → Nat) : (wasL f).toArray.all (·.oneCell') = true := by
  refine Array.all_eq_true_iff_forall_mem.2 ?_
  intro v hv
  simp only [wasL, List.mem_toArray, List.mem_map] at hv
  obtain ⟨k, _, rfl⟩ := hv
  rfl
theorem was_range {w : World} {b : Nat} {R C : Int} {n : Nat} {f : Nat → Nat} {t : Nat → Sl} (h : GridAt w b R C n f t) : w.rangeAt b 3 (wasL f) := by
  intro j v hv
  have hj : j < 25 := by
    have := (List.getElem?_eq_some_iff.1 hv).1
    rwa [wasL_len] at this
  rw [h.num j hj]
  simpa [wasL, hj] using hv
theorem was_zero : (wasL fun _ => 0).toArray = #[.int .i64 0, .int .i64 0, .int .i64 0, .int .i64 0, .int .i64 0, .int .i64 0, .int .i64 0, .int .i64 0, .int .i64 0, .int .i64 0, .int .i64 0, .int .i64 0, .int .i64 0, .int .i64 0, .int .i64 0, .int .i64 0, .int .i64 0, .int .i64 0, .int .i64 0, .int .i64 0, .int .i64 0, .int .i64 0, .int .i64 0, .int .i64 0, .int .i64 0] := rfl
theorem was_info (f : Nat → Nat) : (Try.prog.info? 48).map (·.size) = some (wasL f).length := by rw [wasL_len]; kernel_rfl
theorem gridA_set_rows (R R' C : Int) (n : Nat) (f : Nat → Nat) (t : Nat → Sl) : (gridA R C n f t).setIfInBounds 0 (.int .i64 R') = gridA R' C n f t := by
  apply Array.ext_getElem?
  intro i
  rw [Array.getElem?_setIfInBounds, gridA_get, gridA_get, gridA_size]
  by_cases h : 0 = i
  · subst h; rfl
  · rw [if_neg h]
    by_cases h3 : i = 0
    · exact absurd h3.symm h
    · simp only [if_neg h3]
theorem gridA_set_cols (R C C' : Int) (n : Nat) (f : Nat → Nat) (t : Nat → Sl) : (gridA R C n f t).setIfInBounds 1 (.int .i64 C') = gridA R C' n f t := by
  apply Array.ext_getElem?
  intro i
  rw [Array.getElem?_setIfInBounds, gridA_get, gridA_get, gridA_size]
  by_cases h : 1 = i
  · subst h; rfl
  · rw [if_neg h]
    by_cases h3 : i = 1
    · exact absurd h3.symm h
    · simp only [if_neg h3]

set_option maxRecDepth 100000 in
set_option maxHeartbeats 4000000 in
theorem turn_any (R C : Int) (n : Nat) (f : Nat → Nat) (t : Nat → Sl) (w : World) :
    Calls Try.prog 64 #[.agg (gridA R C n f t)] w fun z w' => z = .returned (.agg (gridA C R n (turnF f) t)) ∧ Below w.heap.size w w' := by
  go_enter Try.func64, Try.ntmps64
  go_upto_region 1 with fail
  rw [← grid_zero]
  have B0 : Below w.heap.size w ((w.alloc (.cells (gridA R C n f t) 51)).alloc (.cells (gridA 0 0 0 (fun _ => 0) (fun _ => sl0)) 51)) := ((Below.refl _ _).alloc (Nat.le_refl _) _).alloc (by simp) _
  have G0 : GridAt ((w.alloc (.cells (gridA R C n f t) 51)).alloc (.cells (gridA 0 0 0 (fun _ => 0) (fun _ => sl0)) 51)) w.heap.size R C n f t := (gridAt_new w R C n f t).alloc _
  have G1 : GridAt ((w.alloc (.cells (gridA R C n f t) 51)).alloc (.cells (gridA 0 0 0 (fun _ => 0) (fun _ => sl0)) 51)) (w.heap.size + 1) 0 0 0 (fun _ => 0) (fun _ => sl0) := by
    have := gridAt_new (w.alloc (.cells (gridA R C n f t) 51)) 0 0 0 (fun _ => 0) (fun _ => sl0)
    simpa using this
  generalize ((w.alloc (.cells (gridA R C n f t) 51)).alloc (.cells (gridA 0 0 0 (fun _ => 0) (fun _ => sl0)) 51)) = v at B0 G0 G1 ⊢
  have HR : Hid (v.rangeAt w.heap.size 3 (wasL f)) := was_range G0
  go_upto_region 2 with (first | (refine wpList_load_mid rfl 48 (.tmp 6) rfl w.heap.size 3 rfl (wasL f) _ HR.out Try.underlying48 rfl (was_info f) ?_) | (rw [← was_zero]; refine wpList_store_row rfl 48 (.tmp 3) (.tmp 7) rfl v.heap.size (wasL f).toArray rfl rfl 48 _ (rowAt_new _ _ _) (by rw [List.size_toArray]; exact was_info f) (by simp [wasL_len]) (wasL_one f) ?_))
  have W0 : RowAt ((v.alloc (.cells (wasL fun _ => 0).toArray 48)).setRow v.heap.size (wasL f).toArray) v.heap.size (wasL f).toArray 48 := RowAt.setRow (rowAt_new _ _ _) _
  have z0 := G0.lt
  have z1 := G1.lt
  have B1 : Below w.heap.size w ((v.alloc (.cells (wasL fun _ => 0).toArray 48)).setRow v.heap.size (wasL f).toArray) := below_row (B0.alloc B0.size _) B0.size _
  have G2 : GridAt ((v.alloc (.cells (wasL fun _ => 0).toArray 48)).setRow v.heap.size (wasL f).toArray) w.heap.size R C n f t := RowAt.setRowOther (G0.alloc _) _ _ (by omega)
  have G3 : GridAt ((v.alloc (.cells (wasL fun _ => 0).toArray 48)).setRow v.heap.size (wasL f).toArray) (w.heap.size + 1) 0 0 0 (fun _ => 0) (fun _ => sl0) := RowAt.setRowOther (G1.alloc _) _ _ (by omega)
  clear G0 G1 B0 HR
  generalize ((v.alloc (.cells (wasL fun _ => 0).toArray 48)).setRow v.heap.size (wasL f).toArray) = v1 at W0 B1 G2 G3 ⊢
  go_wp2_with fail
  go_loopw [8] (fun iv wr => ∃ i : Nat, i ≤ 5 ∧ iv = .int .i64 i ∧ GridAt wr w.heap.size R C n (turnP f i 0) t ∧ GridAt wr (w.heap.size + 1) 0 0 0 (fun _ => 0) (fun _ => sl0) ∧ RowAt wr v.heap.size (wasL f).toArray 48 ∧ Below w.heap.size w wr) (fun iv _ => 5 - (intOf iv).toNat)
  case atStart => exact ⟨0, Nat.zero_le _, rfl, by rw [turnP_zero]; exact G2, G3, W0, B1⟩
  case round =>
    clear W0 B1 G2 G3
    obtain ⟨i, hi, rfl, hg, hz, hw, hb⟩ := hrel
    have HG : Hid (GridAt wr w.heap.size R C n (turnP f i 0) t) := hg
    have HZ : Hid (GridAt wr (w.heap.size + 1) 0 0 0 (fun _ => 0) (fun _ => sl0)) := hz
    have HW : Hid (RowAt wr v.heap.size (wasL f).toArray 48) := hw
    have HB : Hid (Below w.heap.size w wr) := hb
    clear hg hz hw hb
    by_cases hlt : i < 5
    · go_wp2_with fail
      go_loopw [11] (fun jv wr => ∃ j : Nat, j ≤ 5 ∧ jv = .int .i64 j ∧ GridAt wr w.heap.size R C n (turnP f i j) t ∧ GridAt wr (w.heap.size + 1) 0 0 0 (fun _ => 0) (fun _ => sl0) ∧ RowAt wr v.heap.size (wasL f).toArray 48 ∧ Below w.heap.size w wr) (fun jv _ => 5 - (intOf jv).toNat)
      case atStart => exact ⟨0, Nat.zero_le _, rfl, HG.out, HZ.out, HW.out, HB.out⟩
      case round =>
        clear HG HZ HW HB
        obtain ⟨j, hj, rfl, hg, hz, hw, hb⟩ := hrel
        have HG : Hid (GridAt wr w.heap.size R C n (turnP f i j) t) := hg
        have HZ : Hid (GridAt wr (w.heap.size + 1) 0 0 0 (fun _ => 0) (fun _ => sl0)) := hz
        have HW : Hid (RowAt wr v.heap.size (wasL f).toArray 48) := hw
        have HB : Hid (Below w.heap.size w wr) := hb
        by_cases hlj : j < 5
        · have q := hg.num (j * 5 + i) (by omega)
          have fz := hg.frozen (3 + (j * 5 + i))
          rw [← Nat.add_assoc] at q fz
          have k0 : wr.cell? ⟨v.heap.size, i * 5 + j, none⟩ = some (.int .i64 (f (i * 5 + j))) := (hw.cell _).trans (wasL_get f _ (by omega))
          have b0 : (i : Int) < 5 := by omega
          have b1 : (j : Int) < 5 := by omega
          obtain ⟨m, HM⟩ : ∃ m, Hid (f (i * 5 + j) = m) := ⟨_, rfl⟩
          rw [HM.out] at k0
          clear hg hz hw hb
          go_wp2_with fail
          go_region
          all_goals go_wp2_with fail
          all_goals go_roundw
          case rel =>
            have sN := HG.out.setNum (j * 5 + i) m (by omega)
            rw [← HM.out, turnP_upd f i j hlt, ← Nat.add_assoc, HM.out] at sN
            exact ⟨j + 1, by omega, by go_num, sN, HZ.out.other _ _ (by simp <;> omega), HW.out.other _ _ (by simp <;> omega), HB.out.drew.setCell (Nat.le_refl _) _⟩
          case measure => simp [intOf]; omega
        · clear hg hz hw hb
          go_wp2_with fail
          go_roundw
          case rel =>
            have hh := HG.out
            rw [show j = 5 from by omega] at hh
            unfold GridAt at hh
            rw [turnP_row f i n n R C t rfl] at hh
            exact ⟨i + 1, by omega, by go_num, hh, HZ.out, HW.out, HB.out⟩
          case measure => simp [intOf]; omega
    · have e5 : i = 5 := by omega
      subst e5
      have g0 := HG.out
      rw [turnP_end] at g0
      have p0 := g0.rows
      have p1 := g0.cols
      have p2 := g0.frozen 0
      have p3 := g0.frozen 1
      have HG5 : Hid (GridAt wr w.heap.size R C n (turnF f) t) := g0
      clear g0 HG HW
      go_upto_region 12 with fail
      have GA : GridAt ((wr.setCell ⟨w.heap.size, 0, none⟩ (.int .i64 C)).setCell ⟨w.heap.size, 1, none⟩ (.int .i64 R)) w.heap.size C R n (turnF f) t := by
        have h1 : GridAt (wr.setCell ⟨w.heap.size, 0, none⟩ (.int .i64 C)) w.heap.size C C n (turnF f) t := by
          unfold GridAt
          rw [← gridA_set_rows R C C]
          exact RowAt.setCell HG5.out 0 _
        unfold GridAt
        rw [← gridA_set_cols C C R]
        exact RowAt.setCell h1 1 _
      have GB : GridAt ((wr.setCell ⟨w.heap.size, 0, none⟩ (.int .i64 C)).setCell ⟨w.heap.size, 1, none⟩ (.int .i64 R)) (w.heap.size + 1) 0 0 0 (fun _ => 0) (fun _ => sl0) := (HZ.out.other ⟨w.heap.size, 0, none⟩ (.int .i64 C) (by simp)).other ⟨w.heap.size, 1, none⟩ (.int .i64 R) (by simp)
      have BC : Below w.heap.size w ((wr.setCell ⟨w.heap.size, 0, none⟩ (.int .i64 C)).setCell ⟨w.heap.size, 1, none⟩ (.int .i64 R)) := (HB.out.setCell (p := ⟨w.heap.size, 0, none⟩) (Nat.le_refl _) (.int .i64 C)).setCell (p := ⟨w.heap.size, 1, none⟩) (Nat.le_refl _) (.int .i64 R)
      clear p0 p1 p2 p3
      generalize ((wr.setCell ⟨w.heap.size, 0, none⟩ (.int .i64 C)).setCell ⟨w.heap.size, 1, none⟩ (.int .i64 R)) = w2 at GA GB BC ⊢
      have HGA : Hid (GridAt w2 w.heap.size C R n (turnF f) t) := GA
      have HGB : Hid (GridAt w2 (w.heap.size + 1) 0 0 0 (fun _ => 0) (fun _ => sl0)) := GB
      clear GA GB
      go_wp2_with (first | (refine wpList_load_row rfl 51 (.tmp 1) rfl w.heap.size rfl 51 (gridA C R n (turnF f) t) (0, 0) _ HGA.out Try.underlying51 rfl (grid_infoA _ _ _ _ _) ?_) | (refine wpList_store_row rfl 51 (.tmp 2) (.tmp 32) rfl (w.heap.size + 1) (gridA C R n (turnF f) t) rfl rfl 51 _ HGB.out (grid_infoA _ _ _ _ _) (by rw [gridA_size, gridA_size]) (gridA_one _ _ _ _ _) ?_))
      refine bodyPost_ret (v := .agg (gridA C R n (turnF f) t)) (results_cell_row (p := 2) (ty := 51) rfl _ _ (w.heap.size + 1) 51 _ _ _ rfl (RowAt.setRow HGB.out _) Try.underlying51 rfl (grid_infoA _ _ _ _ _)) rfl ⟨rfl, below_row BC (by omega) _⟩
end Go.Proofs.Yteghidjbcpmfbaa
