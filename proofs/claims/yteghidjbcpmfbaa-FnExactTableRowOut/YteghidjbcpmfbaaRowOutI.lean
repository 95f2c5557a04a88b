import Derived.Test.YteghidjbcpmfbaaCopyG
import Derived.Test.YteghidjbcpmfbaaRegK
namespace Go.Proofs.Yteghidjbcpmfbaa
open Go.RowKit

/-- The squares' numbers without a row. -/
def outF (R a : Nat) (f : Nat → Nat) : Nat → Nat := fun s => if a ≤ s / 5 ∧ s / 5 + 1 < R then f (s + 5) else f s
/-- The numbers of the rows behind one. -/
def tailV (R a : Nat) (f : Nat → Nat) : List Value := (List.range ((R - (a + 1)) * 5)).map (fun j => Value.int .i64 (f ((a + 1) * 5 + j)))
theorem tailV_length (R a : Nat) (f : Nat → Nat) : (tailV R a f).length = (R - (a + 1)) * 5 := by simp [tailV]
theorem tailV_one (R a : Nat) (f : Nat → Nat) : ∀ v ∈ tailV R a f, v.oneCell' = true := by
  intro v hv
  simp only [tailV, List.mem_map] at hv
  obtain ⟨j, _, rfl⟩ := hv
  rfl
theorem gridA_out (R C n a : Nat) (f : Nat → Nat) (t : Nat → Sl) (ha : a < R) (hR : R ≤ 5) : (splice (gridL R C n f t) (3 + a * 5) (tailV R a f)).toArray = gridA R C n (outF R a f) t := by
  apply Array.ext_getElem?
  intro i
  have hG : (gridL (R : Int) (C : Int) n f t)[i]? = (gridA (R : Int) (C : Int) n f t)[i]? := by simp [gridA]
  rw [List.getElem?_toArray, splice_get _ _ _ (by rw [gridL_length, tailV_length]; omega), tailV_length, hG, gridA_get, gridA_get]
  by_cases h1 : i < 3 + a * 5
  · rw [if_pos h1]
    by_cases h3 : i < 3
    · match i, h3 with
      | 0, _ => rfl
      | 1, _ => rfl
      | 2, _ => rfl
    · have : outF R a f (i - 3) = f (i - 3) := by
        unfold outF
        rw [if_neg (by omega)]
      rw [this]
  · rw [if_neg h1]
    by_cases h2 : i < 3 + a * 5 + (R - (a + 1)) * 5
    · rw [if_pos h2, if_neg (show ¬ i = 0 by omega), if_neg (show ¬ i = 1 by omega), if_neg (show ¬ i = 2 by omega), if_pos (show i < 28 by omega)]
      have : outF R a f (i - 3) = f (i - 3 + 5) := by
        unfold outF
        rw [if_pos (by omega)]
      rw [this]
      unfold tailV
      rw [List.getElem?_map, List.getElem?_range (by omega)]
      simp only [Option.map_some]
      rw [show (a + 1) * 5 + (i - (3 + a * 5)) = i - 3 + 5 by omega]
    · rw [if_neg h2]
      by_cases h3 : i < 28
      · have : outF R a f (i - 3) = f (i - 3) := by
          unfold outF
          rw [if_neg (by omega)]
        rw [this]
      · simp only [if_neg h3, show ¬ i = 0 by omega, show ¬ i = 1 by omega, show ¬ i = 2 by omega, if_false]
theorem gridA_set_rowsO (R C : Int) (n : Nat) (R' : Int) (f : Nat → Nat) (t : Nat → Sl) : (gridA R C n f t).setIfInBounds 0 (.int .i64 R') = gridA R' C n f t := by
  apply Array.ext_getElem?
  intro i
  rw [Array.getElem?_setIfInBounds, gridA_get, gridA_get, gridA_size]
  by_cases h : 0 = i
  · subst h; rfl
  · rw [if_neg h]
    by_cases h3 : i = 0
    · exact absurd h3.symm h
    · simp only [if_neg h3]
theorem GridAt.setRowsO {w : World} {b : Nat} {R C : Int} {n : Nat} {f : Nat → Nat} {t : Nat → Sl} (h : GridAt w b R C n f t) (R' : Int) : GridAt (w.setCell ⟨b, 0, none⟩ (.int .i64 R')) b R' C n f t := by
  unfold GridAt
  rw [← gridA_set_rowsO R C n R']
  exact RowAt.setCell h _ _
theorem row_info : (Try.prog.info? 47).map (·.size) = some 5 := by kernel_rfl
theorem tail_cells {w : World} {b : Nat} {R C n a : Nat} {f : Nat → Nat} {t : Nat → Sl} (h : GridAt w b R C n f t) (ha : a < R) (hR : R ≤ 5) (o : Nat) (ho : o = 3 + (a + 1) * 5) : ∀ j v, (tailV R a f)[j]? = some v → w.cell? ((⟨b, o, none⟩ : Addr).add j) = some v := by
  intro j v hv
  subst ho
  have hj : j < (R - (a + 1)) * 5 := by
    have := (List.getElem?_eq_some_iff.1 hv).1
    rwa [tailV_length] at this
  have hadd : (⟨b, 3 + (a + 1) * 5, none⟩ : Addr).add j = ⟨b, 3 + ((a + 1) * 5 + j), none⟩ := by
    unfold Addr.add
    simp only [Nat.add_assoc]
    split
    · simp_all
    · rfl
  rw [hadd, h.num _ (by omega)]
  unfold tailV at hv
  rw [List.getElem?_map, List.getElem?_range hj] at hv
  simpa using hv

set_option maxRecDepth 100000 in
set_option maxHeartbeats 4000000 in
theorem rowOut_any (R C n a : Nat) (f : Nat → Nat) (t : Nat → Sl) (w : World) (ha : a < R) (hR : R ≤ 5) :
    Calls Try.prog 40 #[.agg (gridA R C n f t), .int .i64 a] w fun z w' => z = .returned (.agg (gridA ((R - 1 : Nat) : Int) C n (outF R a f) t)) ∧ Below w.heap.size w w' := by
  go_enter Try.func40, Try.ntmps40
  go_upto_region 1 with fail
  rw [← grid_zero]
  have B0 : Below w.heap.size w ((w.alloc (.cells (gridA R C n f t) 51)).alloc (.cells (gridA 0 0 0 (fun _ => 0) (fun _ => sl0)) 51)) := (((Below.refl _ _).alloc (Nat.le_refl _) _).alloc (by simp) _)
  have G0 : GridAt ((w.alloc (.cells (gridA R C n f t) 51)).alloc (.cells (gridA 0 0 0 (fun _ => 0) (fun _ => sl0)) 51)) w.heap.size R C n f t := (gridAt_new w R C n f t).alloc _
  have G1 : GridAt ((w.alloc (.cells (gridA R C n f t) 51)).alloc (.cells (gridA 0 0 0 (fun _ => 0) (fun _ => sl0)) 51)) (w.heap.size + 1) 0 0 0 (fun _ => 0) (fun _ => sl0) := by
    have := gridAt_new (w.alloc (.cells (gridA R C n f t) 51)) 0 0 0 (fun _ => 0) (fun _ => sl0)
    simpa using this
  generalize ((w.alloc (.cells (gridA R C n f t) 51)).alloc (.cells (gridA 0 0 0 (fun _ => 0) (fun _ => sl0)) 51)) = v at B0 G0 G1 ⊢
  have k0 := G0.rows
  have hb0 : (a : Int) ≤ 5 := by omega
  have hb1 : (a : Int) + 1 ≤ R := by omega
  have hb2 : (R : Int) ≤ 5 := by omega
  have hb3 : (0 : Int) ≤ (a : Int) + 1 := by omega
  have hw : IntKind.i64.wrap ((a : Int) + 1) = (a : Int) + 1 := by rw [IntKind.wrap_i64]; omega
  have HG : Hid (GridAt v w.heap.size R C n f t) := G0
  have HZ : Hid (GridAt v (w.heap.size + 1) 0 0 0 (fun _ => 0) (fun _ => sl0)) := G1
  have HB0 : Hid (Below w.heap.size w v) := B0
  have z1 := G1.lt
  have h5 : ¬ 5 = a := by omega
  have ht : ((a : Int) + 1).toNat = a + 1 := by omega
  have HS : Hid (GridAt (v.drew.setRow w.heap.size (splice (gridL R C n f t) (3 + a * 5) (tailV R a f)).toArray) w.heap.size R C n (outF R a f) t) := by
    show GridAt _ _ _ _ _ _ _
    rw [gridA_out R C n a f t ha hR]
    exact RowAt.setRow (cs := gridA R C n f t) G0 _
  have HBS : Hid (Below w.heap.size w (v.drew.setRow w.heap.size (splice (gridL R C n f t) (3 + a * 5) (tailV R a f)).toArray)) := below_row (B0.trans ((Below.refl _ _).drew)) (Nat.le_refl _) _
  have HZS : Hid (GridAt (v.drew.setRow w.heap.size (splice (gridL R C n f t) (3 + a * 5) (tailV R a f)).toArray) (w.heap.size + 1) 0 0 0 (fun _ => 0) (fun _ => sl0)) := (setRow_other v.drew w.heap.size (w.heap.size + 1) _ (by omega)).trans G1
  clear G0 G1 B0
  by_cases h4 : a = 4
  · have h4' : a + 1 = 5 := by omega
    have hw5 : IntKind.i64.wrap 5 = 5 := by decide
    have h4r : (5 : Int) ≤ R := by omega
    go_wp2_with fail
    go_region_held3 (fun w' => w'.cell? ⟨w.heap.size, 0, none⟩ = some (.int .i64 R)) (first | exact HS.out.rows | go_keep)
      (refine step_copy_rows (by rfl) (.tmp 7) (.tmp 13) _ _ (by rfl) 47 5 Try.underlying82 row_info _ _ _ _ _ _ (by rfl) (by rfl) w.heap.size (3 + a * 5) (gridL R C n f t) 51 HG.out (tailV R a f) 0 (by simp only [Nat.min_def]; split <;> omega) (by rw [tailV_length]; omega) (fun hh => absurd hh (by simp)) (by rw [gridL_length, tailV_length]; omega) (tailV_one _ _ _) ?_)
    generalize (v.drew.setRow w.heap.size (splice (gridL R C n f t) (3 + a * 5) (tailV R a f)).toArray) = v1 at HS HBS HZS ⊢
    have k1 := HS.out.rows
    have k2 := HS.out.frozen 0
    clear k0
    go_upto_region 3 with fail
    have Y0 := HS.out.setRowsO ((R : Int) - 1)
    have Y1 := HBS.out.setCell (p := ⟨w.heap.size, 0, none⟩) (Nat.le_refl _) (.int .i64 ((R : Int) - 1))
    have Y2 := HZS.out.other ⟨w.heap.size, 0, none⟩ (.int .i64 ((R : Int) - 1)) (by simp)
    generalize (v1.setCell ⟨w.heap.size, 0, none⟩ (.int .i64 ((R : Int) - 1))) = v2 at Y0 Y1 Y2 ⊢
    have HY0 : Hid (GridAt v2 w.heap.size ((R : Int) - 1) C n (outF R a f) t) := Y0
    have HY2 : Hid (GridAt v2 (w.heap.size + 1) 0 0 0 (fun _ => 0) (fun _ => sl0)) := Y2
    clear Y0 Y2 k1 k2
    go_wp2_with (first | (refine wpList_load_row rfl 51 (.tmp 2) rfl w.heap.size rfl 51 (gridA ((R : Int) - 1) C n (outF R a f) t) (0, 0) _ HY0.out Try.underlying51 rfl (grid_infoA _ _ _ _ _) ?_) | (refine wpList_store_row rfl 51 (.tmp 4) (.tmp 19) rfl (w.heap.size + 1) (gridA ((R : Int) - 1) C n (outF R a f) t) rfl rfl 51 _ HY2.out (grid_infoA _ _ _ _ _) (by rw [gridA_size, gridA_size]) (gridA_one _ _ _ _ _) ?_))
    refine bodyPost_ret (v := .agg (gridA ((R : Int) - 1) C n (outF R a f) t)) (results_cell_row (p := 4) (ty := 51) rfl _ _ (w.heap.size + 1) 51 _ _ _ rfl (RowAt.setRow HY2.out _) Try.underlying51 rfl (grid_infoA _ _ _ _ _)) rfl ⟨?_, below_row Y1 (by omega) _⟩
    rw [show ((R - 1 : Nat) : Int) = (R : Int) - 1 by omega]
  · have h4' : ¬ 5 = a + 1 := by omega
    go_wp2_with fail
    go_region_held3 (fun w' => w'.cell? ⟨w.heap.size, 0, none⟩ = some (.int .i64 R)) (first | exact HS.out.rows | go_keep)
      (refine step_copy_rows (by rfl) (.tmp 7) (.tmp 13) _ _ (by rfl) 47 5 Try.underlying82 row_info _ _ _ _ _ _ (by rfl) (by rfl) w.heap.size (3 + a * 5) (gridL R C n f t) 51 HG.out (tailV R a f) (R - (a + 1)) (Nat.min_eq_left (by omega)) (by rw [tailV_length]) (fun _ => ⟨rfl, _, rfl, tail_cells HG.out ha hR _ rfl⟩) (by rw [gridL_length, tailV_length]; omega) (tailV_one _ _ _) ?_)
    generalize (v.drew.setRow w.heap.size (splice (gridL R C n f t) (3 + a * 5) (tailV R a f)).toArray) = v1 at HS HBS HZS ⊢
    have k1 := HS.out.rows
    have k2 := HS.out.frozen 0
    clear k0
    go_upto_region 3 with fail
    have Y0 := HS.out.setRowsO ((R : Int) - 1)
    have Y1 := HBS.out.setCell (p := ⟨w.heap.size, 0, none⟩) (Nat.le_refl _) (.int .i64 ((R : Int) - 1))
    have Y2 := HZS.out.other ⟨w.heap.size, 0, none⟩ (.int .i64 ((R : Int) - 1)) (by simp)
    generalize (v1.setCell ⟨w.heap.size, 0, none⟩ (.int .i64 ((R : Int) - 1))) = v2 at Y0 Y1 Y2 ⊢
    have HY0 : Hid (GridAt v2 w.heap.size ((R : Int) - 1) C n (outF R a f) t) := Y0
    have HY2 : Hid (GridAt v2 (w.heap.size + 1) 0 0 0 (fun _ => 0) (fun _ => sl0)) := Y2
    clear Y0 Y2 k1 k2
    go_wp2_with (first | (refine wpList_load_row rfl 51 (.tmp 2) rfl w.heap.size rfl 51 (gridA ((R : Int) - 1) C n (outF R a f) t) (0, 0) _ HY0.out Try.underlying51 rfl (grid_infoA _ _ _ _ _) ?_) | (refine wpList_store_row rfl 51 (.tmp 4) (.tmp 19) rfl (w.heap.size + 1) (gridA ((R : Int) - 1) C n (outF R a f) t) rfl rfl 51 _ HY2.out (grid_infoA _ _ _ _ _) (by rw [gridA_size, gridA_size]) (gridA_one _ _ _ _ _) ?_))
    refine bodyPost_ret (v := .agg (gridA ((R : Int) - 1) C n (outF R a f) t)) (results_cell_row (p := 4) (ty := 51) rfl _ _ (w.heap.size + 1) 51 _ _ _ rfl (RowAt.setRow HY2.out _) Try.underlying51 rfl (grid_infoA _ _ _ _ _)) rfl ⟨?_, below_row Y1 (by omega) _⟩
    rw [show ((R - 1 : Nat) : Int) = (R : Int) - 1 by omega]
end Go.Proofs.Yteghidjbcpmfbaa
