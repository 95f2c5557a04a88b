import Derived.Test.YteghidjbcpmfbaaB4
import Derived.Test.YteghidjbcpmfbaaB2
import Derived.Deep.RegionHeld3
import Derived.OwnWalk
import Derived.Maps.AppendAt
import Derived.Test.YteghidjbcpmfbaaB3
namespace Go.Proofs.Yteghidjbcpmfbaa
open Go.RowKit

set_option maxRecDepth 100000 in
set_option maxHeartbeats 8000000 in
theorem specTableSplit_any (R C t' : Int) (a : Option Addr) (n cap : Nat) (l : List Cl) (w : World) (h : Tab w a n cap l) :
    Calls Try.prog 24 #[.agg #[.int .i64 R, .int .i64 C, .slice a n cap], .int .i64 t'] w fun z w' => TabRes w.heap.size (splitB R C l t') R C (splitL l t') z w' ∧ Below w.heap.size w w' := by
  obtain ⟨i0, hi, hz0, hz1, hz2⟩ := info_parts Try.info44
  have H : Hid (Tab w a n cap l) := h
  clear h
  obtain ⟨ok, HX⟩ : ∃ x, Hid (okB R C l = x) := ⟨_, rfl⟩
  have hncap := H.out.2.1
  have hcapm := H.out.2.2.1
  unfold maxLen at hcapm
  go_enter Try.func24, Try.ntmps24
  go_upto_region 1 with fail
  have B0 : Below w.heap.size w ((w.alloc (.cells #[.int .i64 R, .int .i64 C, .slice a n cap] 28)).alloc (.cells #[.int .i64 0, .int .i64 0, .slice none 0 0] 28)) := ((Below.refl _ _).alloc (Nat.le_refl _) _).alloc (by simp) _
  have G0 : RowAt ((w.alloc (.cells #[.int .i64 R, .int .i64 C, .slice a n cap] 28)).alloc (.cells #[.int .i64 0, .int .i64 0, .slice none 0 0] 28)) w.heap.size #[.int .i64 R, .int .i64 C, .slice a n cap] 28 := (rowAt_new w _ _).alloc _
  have G1 : RowAt ((w.alloc (.cells #[.int .i64 R, .int .i64 C, .slice a n cap] 28)).alloc (.cells #[.int .i64 0, .int .i64 0, .slice none 0 0] 28)) (w.heap.size + 1) #[.int .i64 0, .int .i64 0, .slice none 0 0] 28 := by
    have := rowAt_new (w.alloc (.cells #[.int .i64 R, .int .i64 C, .slice a n cap] 28)) #[.int .i64 0, .int .i64 0, .slice none 0 0] 28
    simpa using this
  have HT : Hid (Tab ((w.alloc (.cells #[.int .i64 R, .int .i64 C, .slice a n cap] 28)).alloc (.cells #[.int .i64 0, .int .i64 0, .slice none 0 0] 28)) a n cap l) := H.out.below B0
  generalize ((w.alloc (.cells #[.int .i64 R, .int .i64 C, .slice a n cap] 28)).alloc (.cells #[.int .i64 0, .int .i64 0, .slice none 0 0] 28)) = v at B0 G0 G1 HT ⊢
  have k0 : v.cell? ⟨w.heap.size, 0, none⟩ = some (.int .i64 R) := G0.cell 0
  have k1 : v.cell? ⟨w.heap.size, 1, none⟩ = some (.int .i64 C) := G0.cell 1
  have k2 : v.cell? ⟨w.heap.size, 2, none⟩ = some (.slice a n cap) := G0.cell 2
  have s0 := B0.size
  have z0 := G0.lt
  have z1 := G1.lt
  have HG0 : Hid (RowAt v w.heap.size #[.int .i64 R, .int .i64 C, .slice a n cap] 28) := G0
  have HG1 : Hid (RowAt v (w.heap.size + 1) #[.int .i64 0, .int .i64 0, .slice none 0 0] 28) := G1
  have HB0 : Hid (Below w.heap.size w v) := B0
  clear G0 G1 B0
  cases ok
  · have HNB : Hid (splitB R C l t' = false) := by
      show splitB R C l t' = false
      simp only [splitB, HX.out, Bool.false_and]
    refine wp_region_noPanic ?_
    refine wp_region_held_drew (S := fun w' => RowAt w' w.heap.size #[.int .i64 R, .int .i64 C, .slice a n cap] 28) (by kernel_rfl) HG0.out (fun hHeld => ?_)
    refine take_at 0 10 (.agg #[.int .i64 R, .int .i64 C, .slice a n cap]) rfl rfl (by kernel_rfl) (by kernel_rfl) (by kernel_rfl) (fun _ _ _ h => h) (yieldsIf_load_row (by rfl) 28 (.tmp 2) rfl w.heap.size rfl 28 #[.int .i64 R, .int .i64 C, .slice a n cap] (0, 0) _ (fun w' h => h) Try.underlying28 rfl tab_info) hHeld ?_
    (try simp only [Act.put, List.setIfInBounds_toArray, List.set_cons_zero, List.set_cons_succ])
    refine wpAnyH_ready (rs := [1]) (by kernel_rfl) (by simp) ?_
    refine AllReadyH.cons rfl (fun K hK => ?_) AllReadyH.nil
    go_simp
    go_at_call 27
    refine (specTableOk_any R C a n cap l _ (HT.out.below ((Below.refl _ _).drew))).mono ?_
    rw [HX.out]
    rintro e w1 ⟨rfl, hb1⟩
    have hb1 : Below v.heap.size v w1 := (Below.refl _ _).drew.trans hb1
    go_wp2_with fail
    refine hK.out _ _ (HG0.out.below hb1 z0) (fun hHeld => ?_)
    clear hK K
    (try simp only [Act.put, List.setIfInBounds_toArray, List.set_cons_zero, List.set_cons_succ])
    refine take_at 2 12 (.bool true) rfl rfl (by kernel_rfl) (by kernel_rfl) (by kernel_rfl) (fun _ _ _ h => h) (Or.inl ⟨by kernel_rfl, fun w' hS' => by go_simp⟩) hHeld ?_
    (try simp only [Act.put, List.setIfInBounds_toArray, List.set_cons_zero, List.set_cons_succ])
    refine take_at 3 13 (.bool true) rfl rfl (by kernel_rfl) (by kernel_rfl) (by kernel_rfl) (fun _ _ _ h => h) (Or.inl ⟨by kernel_rfl, fun w' hS' => by go_simp⟩) hHeld ?_
    (try simp only [Act.put, List.setIfInBounds_toArray, List.set_cons_zero, List.set_cons_succ])
    refine take_at 4 14 (undef) rfl rfl (by kernel_rfl) (by kernel_rfl) (by kernel_rfl) (fun _ _ _ h => h) (Or.inr ⟨by kernel_rfl, rfl⟩) hHeld ?_
    (try simp only [Act.put, List.setIfInBounds_toArray, List.set_cons_zero, List.set_cons_succ])
    refine take_at 5 15 (undef) rfl rfl (by kernel_rfl) (by kernel_rfl) (by kernel_rfl) (fun _ _ _ h => h) (Or.inr ⟨by kernel_rfl, rfl⟩) hHeld ?_
    (try simp only [Act.put, List.setIfInBounds_toArray, List.set_cons_zero, List.set_cons_succ])
    refine take_at 6 16 (undef) rfl rfl (by kernel_rfl) (by kernel_rfl) (by kernel_rfl) (fun _ _ _ h => h) (Or.inr ⟨by kernel_rfl, rfl⟩) hHeld ?_
    (try simp only [Act.put, List.setIfInBounds_toArray, List.set_cons_zero, List.set_cons_succ])
    refine take_at 7 17 (undef) rfl rfl (by kernel_rfl) (by kernel_rfl) (by kernel_rfl) (fun _ _ _ h => h) (Or.inr ⟨by kernel_rfl, rfl⟩) hHeld ?_
    (try simp only [Act.put, List.setIfInBounds_toArray, List.set_cons_zero, List.set_cons_succ])
    refine take_at 8 18 (undef) rfl rfl (by kernel_rfl) (by kernel_rfl) (by kernel_rfl) (fun _ _ _ h => h) (Or.inr ⟨by kernel_rfl, rfl⟩) hHeld ?_
    (try simp only [Act.put, List.setIfInBounds_toArray, List.set_cons_zero, List.set_cons_succ])
    refine take_at 9 19 (undef) rfl rfl (by kernel_rfl) (by kernel_rfl) (by kernel_rfl) (fun _ _ _ h => h) (Or.inr ⟨by kernel_rfl, rfl⟩) hHeld ?_
    (try simp only [Act.put, List.setIfInBounds_toArray, List.set_cons_zero, List.set_cons_succ])
    refine take_at 10 20 (undef) rfl rfl (by kernel_rfl) (by kernel_rfl) (by kernel_rfl) (fun _ _ _ h => h) (Or.inr ⟨by kernel_rfl, rfl⟩) hHeld ?_
    (try simp only [Act.put, List.setIfInBounds_toArray, List.set_cons_zero, List.set_cons_succ])
    refine take_at 11 21 (.bool true) rfl rfl (by kernel_rfl) (by kernel_rfl) (by kernel_rfl) (fun _ _ _ h => h) (Or.inl ⟨by kernel_rfl, fun w' hS' => by go_simp⟩) hHeld ?_
    (try simp only [Act.put, List.setIfInBounds_toArray, List.set_cons_zero, List.set_cons_succ])
    refine take_at 12 22 (.bool true) rfl rfl (by kernel_rfl) (by kernel_rfl) (by kernel_rfl) (fun _ _ _ h => h) (Or.inl ⟨by kernel_rfl, fun w' hS' => by go_simp⟩) hHeld ?_
    (try simp only [Act.put, List.setIfInBounds_toArray, List.set_cons_zero, List.set_cons_succ])
    refine take_at 13 23 (undef) rfl rfl (by kernel_rfl) (by kernel_rfl) (by kernel_rfl) (fun _ _ _ h => h) (Or.inr ⟨by kernel_rfl, rfl⟩) hHeld ?_
    (try simp only [Act.put, List.setIfInBounds_toArray, List.set_cons_zero, List.set_cons_succ])
    refine take_at 14 24 (undef) rfl rfl (by kernel_rfl) (by kernel_rfl) (by kernel_rfl) (fun _ _ _ h => h) (Or.inr ⟨by kernel_rfl, rfl⟩) hHeld ?_
    (try simp only [Act.put, List.setIfInBounds_toArray, List.set_cons_zero, List.set_cons_succ])
    refine take_at 15 25 (undef) rfl rfl (by kernel_rfl) (by kernel_rfl) (by kernel_rfl) (fun _ _ _ h => h) (Or.inr ⟨by kernel_rfl, rfl⟩) hHeld ?_
    (try simp only [Act.put, List.setIfInBounds_toArray, List.set_cons_zero, List.set_cons_succ])
    refine take_at 16 26 (undef) rfl rfl (by kernel_rfl) (by kernel_rfl) (by kernel_rfl) (fun _ _ _ h => h) (Or.inr ⟨by kernel_rfl, rfl⟩) hHeld ?_
    (try simp only [Act.put, List.setIfInBounds_toArray, List.set_cons_zero, List.set_cons_succ])
    refine take_at 17 27 (undef) rfl rfl (by kernel_rfl) (by kernel_rfl) (by kernel_rfl) (fun _ _ _ h => h) (Or.inr ⟨by kernel_rfl, rfl⟩) hHeld ?_
    (try simp only [Act.put, List.setIfInBounds_toArray, List.set_cons_zero, List.set_cons_succ])
    refine take_at 18 28 (undef) rfl rfl (by kernel_rfl) (by kernel_rfl) (by kernel_rfl) (fun _ _ _ h => h) (Or.inr ⟨by kernel_rfl, rfl⟩) hHeld ?_
    (try simp only [Act.put, List.setIfInBounds_toArray, List.set_cons_zero, List.set_cons_succ])
    refine take_at 19 29 (undef) rfl rfl (by kernel_rfl) (by kernel_rfl) (by kernel_rfl) (fun _ _ _ h => h) (Or.inr ⟨by kernel_rfl, rfl⟩) hHeld ?_
    (try simp only [Act.put, List.setIfInBounds_toArray, List.set_cons_zero, List.set_cons_succ])
    refine take_at 20 30 (undef) rfl rfl (by kernel_rfl) (by kernel_rfl) (by kernel_rfl) (fun _ _ _ h => h) (Or.inr ⟨by kernel_rfl, rfl⟩) hHeld ?_
    (try simp only [Act.put, List.setIfInBounds_toArray, List.set_cons_zero, List.set_cons_succ])
    refine take_at 21 31 (undef) rfl rfl (by kernel_rfl) (by kernel_rfl) (by kernel_rfl) (fun _ _ _ h => h) (Or.inr ⟨by kernel_rfl, rfl⟩) hHeld ?_
    (try simp only [Act.put, List.setIfInBounds_toArray, List.set_cons_zero, List.set_cons_succ])
    refine take_at 22 32 (undef) rfl rfl (by kernel_rfl) (by kernel_rfl) (by kernel_rfl) (fun _ _ _ h => h) (Or.inr ⟨by kernel_rfl, rfl⟩) hHeld ?_
    (try simp only [Act.put, List.setIfInBounds_toArray, List.set_cons_zero, List.set_cons_succ])
    refine take_at 23 33 (undef) rfl rfl (by kernel_rfl) (by kernel_rfl) (by kernel_rfl) (fun _ _ _ h => h) (Or.inr ⟨by kernel_rfl, rfl⟩) hHeld ?_
    (try simp only [Act.put, List.setIfInBounds_toArray, List.set_cons_zero, List.set_cons_succ])
    refine take_at 24 34 (undef) rfl rfl (by kernel_rfl) (by kernel_rfl) (by kernel_rfl) (fun _ _ _ h => h) (Or.inr ⟨by kernel_rfl, rfl⟩) hHeld ?_
    (try simp only [Act.put, List.setIfInBounds_toArray, List.set_cons_zero, List.set_cons_succ])
    refine take_at 25 35 (undef) rfl rfl (by kernel_rfl) (by kernel_rfl) (by kernel_rfl) (fun _ _ _ h => h) (Or.inr ⟨by kernel_rfl, rfl⟩) hHeld ?_
    (try simp only [Act.put, List.setIfInBounds_toArray, List.set_cons_zero, List.set_cons_succ])
    refine take_at 26 36 (undef) rfl rfl (by kernel_rfl) (by kernel_rfl) (by kernel_rfl) (fun _ _ _ h => h) (Or.inr ⟨by kernel_rfl, rfl⟩) hHeld ?_
    (try simp only [Act.put, List.setIfInBounds_toArray, List.set_cons_zero, List.set_cons_succ])
    refine take_at 27 37 (.bool true) rfl rfl (by kernel_rfl) (by kernel_rfl) (by kernel_rfl) (fun _ _ _ h => h) (Or.inl ⟨by kernel_rfl, fun w' hS' => by go_simp⟩) hHeld ?_
    (try simp only [Act.put, List.setIfInBounds_toArray, List.set_cons_zero, List.set_cons_succ])
    (try simp only [Act.put, List.setIfInBounds_toArray, List.set_cons_zero, List.set_cons_succ])
    refine wpAnyH_done (by kernel_rfl) ?_ _
    refine NoPanic.normal ?_
    have HG2 : Hid (RowAt w1 (w.heap.size + 1) #[.int .i64 0, .int .i64 0, .slice none 0 0] 28) := HG1.out.below hb1 z1
    go_wp2_with (refine wpList_store_row rfl 28 (.tmp 4) (.tmp 38) rfl (w.heap.size + 1) #[.int .i64 0, .int .i64 0, .slice none 0 0] rfl rfl 28 _ HG2.out tab_info rfl (cells3_one _ _ _ _ _) ?_)
    refine bodyPost_ret (v := .tuple #[.agg #[.int .i64 0, .int .i64 0, .slice none 0 0], .bool false]) ?_ rfl ⟨.inl ⟨HNB.out, rfl⟩, below_row (HB0.out.trans (hb1.mono s0)) (by omega) _⟩
    rw [results_cell_tmp rfl]
    simp [asAddr, Result.andThen, run_tabOf (RowAt.setRow HG2.out #[.int .i64 0, .int .i64 0, .slice none 0 0])]
  · obtain ⟨hR, hC, hst, -⟩ := gridP_of_okB HX.out
    have HN : Hid (n = l.length) := H.out.1
    have hn0 : (0 : Int) ≤ (n : Int) := by omega
    by_cases hin : 0 ≤ t' ∧ t' ≤ (n : Int) - 1
    case neg =>
      have HS0 : Hid (decide (0 ≤ t' ∧ t' ≤ (n : Int) - 1) = false) := decide_eq_false hin
      have HNB : Hid (splitB R C l t' = false) := by
        show splitB R C l t' = false
        have := HN.out
        simp only [splitB, Bool.and_eq_false_iff, decide_eq_false_iff_not]
        omega
      refine wp_region_noPanic ?_
      refine wp_region_held_drew (S := fun w' => RowAt w' w.heap.size #[.int .i64 R, .int .i64 C, .slice a n cap] 28) (by kernel_rfl) HG0.out (fun hHeld => ?_)
      refine take_at 0 10 (.agg #[.int .i64 R, .int .i64 C, .slice a n cap]) rfl rfl (by kernel_rfl) (by kernel_rfl) (by kernel_rfl) (fun _ _ _ h => h) (yieldsIf_load_row (by rfl) 28 (.tmp 2) rfl w.heap.size rfl 28 #[.int .i64 R, .int .i64 C, .slice a n cap] (0, 0) _ (fun w' h => h) Try.underlying28 rfl tab_info) hHeld ?_
      (try simp only [Act.put, List.setIfInBounds_toArray, List.set_cons_zero, List.set_cons_succ])
      refine wpAnyH_ready (rs := [1]) (by kernel_rfl) (by simp) ?_
      refine AllReadyH.cons rfl (fun K hK => ?_) AllReadyH.nil
      go_simp
      go_at_call 27
      refine (specTableOk_any R C a n cap l _ (HT.out.below ((Below.refl _ _).drew))).mono ?_
      rw [HX.out]
      rintro e w1 ⟨rfl, hb1⟩
      have hb1 : Below v.heap.size v w1 := (Below.refl _ _).drew.trans hb1
      go_wp2_with fail
      refine hK.out _ _ (HG0.out.below hb1 z0) (fun hHeld => ?_)
      clear hK K
      (try simp only [Act.put, List.setIfInBounds_toArray, List.set_cons_zero, List.set_cons_succ])
      refine take_at 2 12 (.bool false) rfl rfl (by kernel_rfl) (by kernel_rfl) (by kernel_rfl) (fun _ _ _ h => h) (Or.inl ⟨by kernel_rfl, fun w' hS' => by go_simp⟩) hHeld ?_
      (try simp only [Act.put, List.setIfInBounds_toArray, List.set_cons_zero, List.set_cons_succ])
      refine take_at 3 13 (.bool false) rfl rfl (by kernel_rfl) (by kernel_rfl) (by kernel_rfl) (fun _ _ _ h => h) (Or.inl ⟨by kernel_rfl, fun w' hS' => by go_simp⟩) hHeld ?_
      (try simp only [Act.put, List.setIfInBounds_toArray, List.set_cons_zero, List.set_cons_succ])
      refine take_at 4 14 (.int .i64 t') rfl rfl (by kernel_rfl) (by kernel_rfl) (by kernel_rfl) (fun _ _ _ h => h) (Or.inl ⟨by kernel_rfl, fun w' hS' => by go_simp⟩) hHeld ?_
      (try simp only [Act.put, List.setIfInBounds_toArray, List.set_cons_zero, List.set_cons_succ])
      refine take_at 5 15 (.pointer (some ⟨w.heap.size, 2, none⟩)) rfl rfl (by kernel_rfl) (by kernel_rfl) (by kernel_rfl) (fun _ _ _ h => h) (Or.inl ⟨by kernel_rfl, fun w' hS' => by go_simp⟩) hHeld ?_
      (try simp only [Act.put, List.setIfInBounds_toArray, List.set_cons_zero, List.set_cons_succ])
      refine take_at 6 16 (.slice a n cap) rfl rfl (by kernel_rfl) (by kernel_rfl) (by kernel_rfl) (fun _ _ _ h => h) (Or.inl ⟨by kernel_rfl, fun w' hS' => by have hc := RowAt.cell hS' 2; go_simp⟩) hHeld ?_
      (try simp only [Act.put, List.setIfInBounds_toArray, List.set_cons_zero, List.set_cons_succ])
      refine take_at 7 17 (.int .i64 n) rfl rfl (by kernel_rfl) (by kernel_rfl) (by kernel_rfl) (fun _ _ _ h => h) (Or.inl ⟨by kernel_rfl, fun w' hS' => by go_simp⟩) hHeld ?_
      (try simp only [Act.put, List.setIfInBounds_toArray, List.set_cons_zero, List.set_cons_succ])
      refine take_at 8 18 (.int .i64 ((n : Int) - 1)) rfl rfl (by kernel_rfl) (by kernel_rfl) (by kernel_rfl) (fun _ _ _ h => h) (Or.inl ⟨by kernel_rfl, fun w' hS' => by go_simp; rw [IntKind.wrap_i64]; omega⟩) hHeld ?_
      (try simp only [Act.put, List.setIfInBounds_toArray, List.set_cons_zero, List.set_cons_succ])
      (try simp only [Act.put, List.setIfInBounds_toArray, List.set_cons_zero, List.set_cons_succ])
      refine wpAnyH_ready (rs := [9]) (by kernel_rfl) (by simp) ?_
      refine AllReadyH.cons rfl (fun K hK => ?_) AllReadyH.nil
      go_simp
      go_at_call 28
      refine (l6In_of HS0.out _).mono ?_
      rintro e w9 ⟨rfl, hw9⟩
      subst w9
      go_wp2_with fail
      refine hK.out _ _ hHeld (fun _ => ?_)
      clear hK K
      (try simp only [Act.put, List.setIfInBounds_toArray, List.set_cons_zero, List.set_cons_succ])
      refine take_at 10 20 (.bool true) rfl rfl (by kernel_rfl) (by kernel_rfl) (by kernel_rfl) (fun _ _ _ h => h) (Or.inl ⟨by kernel_rfl, fun w' hS' => by go_simp⟩) hHeld ?_
      (try simp only [Act.put, List.setIfInBounds_toArray, List.set_cons_zero, List.set_cons_succ])
      refine take_at 11 21 (.bool true) rfl rfl (by kernel_rfl) (by kernel_rfl) (by kernel_rfl) (fun _ _ _ h => h) (Or.inl ⟨by kernel_rfl, fun w' hS' => by go_simp⟩) hHeld ?_
      (try simp only [Act.put, List.setIfInBounds_toArray, List.set_cons_zero, List.set_cons_succ])
      refine take_at 12 22 (.bool true) rfl rfl (by kernel_rfl) (by kernel_rfl) (by kernel_rfl) (fun _ _ _ h => h) (Or.inl ⟨by kernel_rfl, fun w' hS' => by go_simp⟩) hHeld ?_
      (try simp only [Act.put, List.setIfInBounds_toArray, List.set_cons_zero, List.set_cons_succ])
      refine take_at 13 23 (undef) rfl rfl (by kernel_rfl) (by kernel_rfl) (by kernel_rfl) (fun _ _ _ h => h) (Or.inr ⟨by kernel_rfl, rfl⟩) hHeld ?_
      (try simp only [Act.put, List.setIfInBounds_toArray, List.set_cons_zero, List.set_cons_succ])
      refine take_at 14 24 (undef) rfl rfl (by kernel_rfl) (by kernel_rfl) (by kernel_rfl) (fun _ _ _ h => h) (Or.inr ⟨by kernel_rfl, rfl⟩) hHeld ?_
      (try simp only [Act.put, List.setIfInBounds_toArray, List.set_cons_zero, List.set_cons_succ])
      refine take_at 15 25 (undef) rfl rfl (by kernel_rfl) (by kernel_rfl) (by kernel_rfl) (fun _ _ _ h => h) (Or.inr ⟨by kernel_rfl, rfl⟩) hHeld ?_
      (try simp only [Act.put, List.setIfInBounds_toArray, List.set_cons_zero, List.set_cons_succ])
      refine take_at 16 26 (undef) rfl rfl (by kernel_rfl) (by kernel_rfl) (by kernel_rfl) (fun _ _ _ h => h) (Or.inr ⟨by kernel_rfl, rfl⟩) hHeld ?_
      (try simp only [Act.put, List.setIfInBounds_toArray, List.set_cons_zero, List.set_cons_succ])
      refine take_at 17 27 (undef) rfl rfl (by kernel_rfl) (by kernel_rfl) (by kernel_rfl) (fun _ _ _ h => h) (Or.inr ⟨by kernel_rfl, rfl⟩) hHeld ?_
      (try simp only [Act.put, List.setIfInBounds_toArray, List.set_cons_zero, List.set_cons_succ])
      refine take_at 18 28 (undef) rfl rfl (by kernel_rfl) (by kernel_rfl) (by kernel_rfl) (fun _ _ _ h => h) (Or.inr ⟨by kernel_rfl, rfl⟩) hHeld ?_
      (try simp only [Act.put, List.setIfInBounds_toArray, List.set_cons_zero, List.set_cons_succ])
      refine take_at 19 29 (undef) rfl rfl (by kernel_rfl) (by kernel_rfl) (by kernel_rfl) (fun _ _ _ h => h) (Or.inr ⟨by kernel_rfl, rfl⟩) hHeld ?_
      (try simp only [Act.put, List.setIfInBounds_toArray, List.set_cons_zero, List.set_cons_succ])
      refine take_at 20 30 (undef) rfl rfl (by kernel_rfl) (by kernel_rfl) (by kernel_rfl) (fun _ _ _ h => h) (Or.inr ⟨by kernel_rfl, rfl⟩) hHeld ?_
      (try simp only [Act.put, List.setIfInBounds_toArray, List.set_cons_zero, List.set_cons_succ])
      refine take_at 21 31 (undef) rfl rfl (by kernel_rfl) (by kernel_rfl) (by kernel_rfl) (fun _ _ _ h => h) (Or.inr ⟨by kernel_rfl, rfl⟩) hHeld ?_
      (try simp only [Act.put, List.setIfInBounds_toArray, List.set_cons_zero, List.set_cons_succ])
      refine take_at 22 32 (undef) rfl rfl (by kernel_rfl) (by kernel_rfl) (by kernel_rfl) (fun _ _ _ h => h) (Or.inr ⟨by kernel_rfl, rfl⟩) hHeld ?_
      (try simp only [Act.put, List.setIfInBounds_toArray, List.set_cons_zero, List.set_cons_succ])
      refine take_at 23 33 (undef) rfl rfl (by kernel_rfl) (by kernel_rfl) (by kernel_rfl) (fun _ _ _ h => h) (Or.inr ⟨by kernel_rfl, rfl⟩) hHeld ?_
      (try simp only [Act.put, List.setIfInBounds_toArray, List.set_cons_zero, List.set_cons_succ])
      refine take_at 24 34 (undef) rfl rfl (by kernel_rfl) (by kernel_rfl) (by kernel_rfl) (fun _ _ _ h => h) (Or.inr ⟨by kernel_rfl, rfl⟩) hHeld ?_
      (try simp only [Act.put, List.setIfInBounds_toArray, List.set_cons_zero, List.set_cons_succ])
      refine take_at 25 35 (undef) rfl rfl (by kernel_rfl) (by kernel_rfl) (by kernel_rfl) (fun _ _ _ h => h) (Or.inr ⟨by kernel_rfl, rfl⟩) hHeld ?_
      (try simp only [Act.put, List.setIfInBounds_toArray, List.set_cons_zero, List.set_cons_succ])
      refine take_at 26 36 (undef) rfl rfl (by kernel_rfl) (by kernel_rfl) (by kernel_rfl) (fun _ _ _ h => h) (Or.inr ⟨by kernel_rfl, rfl⟩) hHeld ?_
      (try simp only [Act.put, List.setIfInBounds_toArray, List.set_cons_zero, List.set_cons_succ])
      refine take_at 27 37 (.bool true) rfl rfl (by kernel_rfl) (by kernel_rfl) (by kernel_rfl) (fun _ _ _ h => h) (Or.inl ⟨by kernel_rfl, fun w' hS' => by go_simp⟩) hHeld ?_
      (try simp only [Act.put, List.setIfInBounds_toArray, List.set_cons_zero, List.set_cons_succ])
      (try simp only [Act.put, List.setIfInBounds_toArray, List.set_cons_zero, List.set_cons_succ])
      refine wpAnyH_done (by kernel_rfl) ?_ _
      refine NoPanic.normal ?_
      have HG2 : Hid (RowAt w1 (w.heap.size + 1) #[.int .i64 0, .int .i64 0, .slice none 0 0] 28) := HG1.out.below hb1 z1
      go_wp2_with (refine wpList_store_row rfl 28 (.tmp 4) (.tmp 38) rfl (w.heap.size + 1) #[.int .i64 0, .int .i64 0, .slice none 0 0] rfl rfl 28 _ HG2.out tab_info rfl (cells3_one _ _ _ _ _) ?_)
      refine bodyPost_ret (v := .tuple #[.agg #[.int .i64 0, .int .i64 0, .slice none 0 0], .bool false]) ?_ rfl ⟨.inl ⟨HNB.out, rfl⟩, below_row (HB0.out.trans (hb1.mono s0)) (by omega) _⟩
      rw [results_cell_tmp rfl]
      simp [asAddr, Result.andThen, run_tabOf (RowAt.setRow HG2.out #[.int .i64 0, .int .i64 0, .slice none 0 0])]
    have HS0 : Hid (decide (0 ≤ t' ∧ t' ≤ (n : Int) - 1) = true) := decide_eq_true hin
    obtain ⟨p, rfl⟩ : ∃ p : Nat, t' = p := ⟨t'.toNat, by omega⟩
    have hpn : p < n := by omega
    have hpl : p < l.length := by have := HN.out; omega
    obtain ⟨u0, u1, u2⟩ := wiB_of (stepB_of (hst p hpl)).1
    rcases HT.out.2.2.2 with e | ⟨b, off, rfl, hbv, hcl⟩
    · rw [e] at hpl
      exact absurd hpl (by simp)
    obtain ⟨x0, x1, x2, x3, ta, tn, tc, x4, -⟩ := hcl p hpl
    obtain ⟨⟨xr, xc, xd, xg, tx⟩, hx⟩ : ∃ x, x = l.getD p cl0 := ⟨_, rfl⟩
    have HXr : Hid (l.getD p cl0 = (xr, xc, xd, xg, tx)) := hx.symm
    rw [← hx] at x0 x1 x2 x3 u0 u1 u2
    simp only at x0 x1 x2 x3 u0 u1 u2
    have hl25 : l.length ≤ 25 := step_le (l := l) (K := l.length) (R := R) (C := C) (by omega) (by omega) hst
    have HTL : Hid (∀ k, k < l.length → (l.getD k cl0).2.2.2.2.length ≤ 1000000) := fun k hk => by
      have := (stepB_of (hst k hk)).2.2
      simp only [textB, Bool.and_eq_true, decide_eq_true_eq] at this
      omega
    clear hx hcl hst
    have bp0 : (0 : Int) ≤ (p : Int) := by omega
    have bp1 : (p : Int) < (n : Int) := by omega
    obtain ⟨q, HQ⟩ : ∃ q, Hid (xd * xg = q) := ⟨_, rfl⟩
    have hqb : 0 ≤ q ∧ q ≤ 25 := by
      rw [← HQ.out]
      have h1 : xd * xg ≤ 5 * 5 := Int.mul_le_mul (show xd ≤ 5 by omega) (show xg ≤ 5 by omega) (show 0 ≤ xg by omega) (by decide)
      have h2 : 0 ≤ xd * xg := Int.mul_nonneg (show 0 ≤ xd by omega) (show 0 ≤ xg by omega)
      exact ⟨h2, h1⟩
    by_cases hq : q < 2
    · have HNB : Hid (splitB R C l p = false) := by
        show splitB R C l p = false
        rw [splitB_cell HXr.out (by omega) (by omega) HX.out hpl HQ.out]
        exact decide_eq_false (by omega)
      refine wp_region_noPanic ?_
      refine wp_region_held_drew (S := fun w' => RowAt w' w.heap.size #[.int .i64 R, .int .i64 C, .slice (some ⟨b, off, none⟩) n cap] 28 ∧ w'.cell? ⟨b, off + p * 5 + 2, none⟩ = some (.int .i64 xd) ∧ w'.cell? ⟨b, off + p * 5 + 3, none⟩ = some (.int .i64 xg)) (by kernel_rfl) ⟨HG0.out, x2, x3⟩ (fun hHeld => ?_)
      refine take_at 0 10 (.agg #[.int .i64 R, .int .i64 C, .slice (some ⟨b, off, none⟩) n cap]) rfl rfl (by kernel_rfl) (by kernel_rfl) (by kernel_rfl) (fun _ _ _ h => h) (yieldsIf_load_row (by rfl) 28 (.tmp 2) rfl w.heap.size rfl 28 #[.int .i64 R, .int .i64 C, .slice (some ⟨b, off, none⟩) n cap] (0, 0) _ (fun w' h => h.1) Try.underlying28 rfl tab_info) hHeld ?_
      (try simp only [Act.put, List.setIfInBounds_toArray, List.set_cons_zero, List.set_cons_succ])
      refine wpAnyH_ready (rs := [1]) (by kernel_rfl) (by simp) ?_
      refine AllReadyH.cons rfl (fun K hK => ?_) AllReadyH.nil
      go_simp
      go_at_call 27
      refine (specTableOk_any R C _ n cap l _ (HT.out.below ((Below.refl _ _).drew))).mono ?_
      rw [HX.out]
      rintro e w1 ⟨rfl, hb1⟩
      have hb1 : Below v.heap.size v w1 := (Below.refl _ _).drew.trans hb1
      go_wp2_with fail
      refine hK.out _ _ ⟨HG0.out.below hb1 z0, (hb1.cell (p := ⟨b, off + p * 5 + 2, none⟩) hbv).trans x2, (hb1.cell (p := ⟨b, off + p * 5 + 3, none⟩) hbv).trans x3⟩ (fun hHeld => ?_)
      clear hK K
      (try simp only [Act.put, List.setIfInBounds_toArray, List.set_cons_zero, List.set_cons_succ])
      refine take_at 2 12 (.bool false) rfl rfl (by kernel_rfl) (by kernel_rfl) (by kernel_rfl) (fun _ _ _ h => h) (Or.inl ⟨by kernel_rfl, fun w' hS' => by go_simp⟩) hHeld ?_
      (try simp only [Act.put, List.setIfInBounds_toArray, List.set_cons_zero, List.set_cons_succ])
      refine take_at 3 13 (.bool false) rfl rfl (by kernel_rfl) (by kernel_rfl) (by kernel_rfl) (fun _ _ _ h => h) (Or.inl ⟨by kernel_rfl, fun w' hS' => by go_simp⟩) hHeld ?_
      (try simp only [Act.put, List.setIfInBounds_toArray, List.set_cons_zero, List.set_cons_succ])
      refine take_at 4 14 (.int .i64 p) rfl rfl (by kernel_rfl) (by kernel_rfl) (by kernel_rfl) (fun _ _ _ h => h) (Or.inl ⟨by kernel_rfl, fun w' hS' => by go_simp⟩) hHeld ?_
      (try simp only [Act.put, List.setIfInBounds_toArray, List.set_cons_zero, List.set_cons_succ])
      refine take_at 5 15 (.pointer (some ⟨w.heap.size, 2, none⟩)) rfl rfl (by kernel_rfl) (by kernel_rfl) (by kernel_rfl) (fun _ _ _ h => h) (Or.inl ⟨by kernel_rfl, fun w' hS' => by go_simp⟩) hHeld ?_
      (try simp only [Act.put, List.setIfInBounds_toArray, List.set_cons_zero, List.set_cons_succ])
      refine take_at 6 16 (.slice (some ⟨b, off, none⟩) n cap) rfl rfl (by kernel_rfl) (by kernel_rfl) (by kernel_rfl) (fun _ _ _ h => h) (Or.inl ⟨by kernel_rfl, fun w' hS' => by have hc := RowAt.cell hS'.1 2; go_simp⟩) hHeld ?_
      (try simp only [Act.put, List.setIfInBounds_toArray, List.set_cons_zero, List.set_cons_succ])
      refine take_at 7 17 (.int .i64 n) rfl rfl (by kernel_rfl) (by kernel_rfl) (by kernel_rfl) (fun _ _ _ h => h) (Or.inl ⟨by kernel_rfl, fun w' hS' => by go_simp⟩) hHeld ?_
      (try simp only [Act.put, List.setIfInBounds_toArray, List.set_cons_zero, List.set_cons_succ])
      refine take_at 8 18 (.int .i64 ((n : Int) - 1)) rfl rfl (by kernel_rfl) (by kernel_rfl) (by kernel_rfl) (fun _ _ _ h => h) (Or.inl ⟨by kernel_rfl, fun w' hS' => by go_simp; rw [IntKind.wrap_i64]; omega⟩) hHeld ?_
      (try simp only [Act.put, List.setIfInBounds_toArray, List.set_cons_zero, List.set_cons_succ])
      (try simp only [Act.put, List.setIfInBounds_toArray, List.set_cons_zero, List.set_cons_succ])
      refine wpAnyH_ready (rs := [9]) (by kernel_rfl) (by simp) ?_
      refine AllReadyH.cons rfl (fun K hK => ?_) AllReadyH.nil
      go_simp
      go_at_call 28
      refine (l6In_of HS0.out _).mono ?_
      rintro e w9 ⟨rfl, hw9⟩
      subst w9
      go_wp2_with fail
      refine hK.out _ _ hHeld (fun _ => ?_)
      clear hK K
      (try simp only [Act.put, List.setIfInBounds_toArray, List.set_cons_zero, List.set_cons_succ])
      refine take_at 10 20 (.bool false) rfl rfl (by kernel_rfl) (by kernel_rfl) (by kernel_rfl) (fun _ _ _ h => h) (Or.inl ⟨by kernel_rfl, fun w' hS' => by go_simp⟩) hHeld ?_
      (try simp only [Act.put, List.setIfInBounds_toArray, List.set_cons_zero, List.set_cons_succ])
      refine take_at 11 21 (.bool false) rfl rfl (by kernel_rfl) (by kernel_rfl) (by kernel_rfl) (fun _ _ _ h => h) (Or.inl ⟨by kernel_rfl, fun w' hS' => by go_simp⟩) hHeld ?_
      (try simp only [Act.put, List.setIfInBounds_toArray, List.set_cons_zero, List.set_cons_succ])
      refine take_at 12 22 (.bool false) rfl rfl (by kernel_rfl) (by kernel_rfl) (by kernel_rfl) (fun _ _ _ h => h) (Or.inl ⟨by kernel_rfl, fun w' hS' => by go_simp⟩) hHeld ?_
      (try simp only [Act.put, List.setIfInBounds_toArray, List.set_cons_zero, List.set_cons_succ])
      refine take_at 13 23 (.pointer (some ⟨w.heap.size, 2, none⟩)) rfl rfl (by kernel_rfl) (by kernel_rfl) (by kernel_rfl) (fun _ _ _ h => h) (Or.inl ⟨by kernel_rfl, fun w' hS' => by go_simp⟩) hHeld ?_
      (try simp only [Act.put, List.setIfInBounds_toArray, List.set_cons_zero, List.set_cons_succ])
      refine take_at 14 24 (.slice (some ⟨b, off, none⟩) n cap) rfl rfl (by kernel_rfl) (by kernel_rfl) (by kernel_rfl) (fun _ _ _ h => h) (Or.inl ⟨by kernel_rfl, fun w' hS' => by have hc := RowAt.cell hS'.1 2; go_simp⟩) hHeld ?_
      (try simp only [Act.put, List.setIfInBounds_toArray, List.set_cons_zero, List.set_cons_succ])
      refine take_at 15 25 (.int .i64 p) rfl rfl (by kernel_rfl) (by kernel_rfl) (by kernel_rfl) (fun _ _ _ h => h) (Or.inl ⟨by kernel_rfl, fun w' hS' => by go_simp⟩) hHeld ?_
      (try simp only [Act.put, List.setIfInBounds_toArray, List.set_cons_zero, List.set_cons_succ])
      refine take_at 16 26 (.pointer (some ⟨b, off + p * 5, none⟩)) rfl rfl (by kernel_rfl) (by kernel_rfl) (by kernel_rfl) (fun _ _ _ h => h) (Or.inl ⟨by kernel_rfl, fun w' hS' => by go_simp⟩) hHeld ?_
      (try simp only [Act.put, List.setIfInBounds_toArray, List.set_cons_zero, List.set_cons_succ])
      refine take_at 17 27 (.pointer (some ⟨b, off + p * 5 + 2, none⟩)) rfl rfl (by kernel_rfl) (by kernel_rfl) (by kernel_rfl) (fun _ _ _ h => h) (Or.inl ⟨by kernel_rfl, fun w' hS' => by go_simp⟩) hHeld ?_
      (try simp only [Act.put, List.setIfInBounds_toArray, List.set_cons_zero, List.set_cons_succ])
      refine take_at 18 28 (.int .i64 xd) rfl rfl (by kernel_rfl) (by kernel_rfl) (by kernel_rfl) (fun _ _ _ h => h) (Or.inl ⟨by kernel_rfl, fun w' hS' => by have hc := hS'.2.1; go_simp⟩) hHeld ?_
      (try simp only [Act.put, List.setIfInBounds_toArray, List.set_cons_zero, List.set_cons_succ])
      refine take_at 19 29 (.pointer (some ⟨w.heap.size, 2, none⟩)) rfl rfl (by kernel_rfl) (by kernel_rfl) (by kernel_rfl) (fun _ _ _ h => h) (Or.inl ⟨by kernel_rfl, fun w' hS' => by go_simp⟩) hHeld ?_
      (try simp only [Act.put, List.setIfInBounds_toArray, List.set_cons_zero, List.set_cons_succ])
      refine take_at 20 30 (.slice (some ⟨b, off, none⟩) n cap) rfl rfl (by kernel_rfl) (by kernel_rfl) (by kernel_rfl) (fun _ _ _ h => h) (Or.inl ⟨by kernel_rfl, fun w' hS' => by have hc := RowAt.cell hS'.1 2; go_simp⟩) hHeld ?_
      (try simp only [Act.put, List.setIfInBounds_toArray, List.set_cons_zero, List.set_cons_succ])
      refine take_at 21 31 (.int .i64 p) rfl rfl (by kernel_rfl) (by kernel_rfl) (by kernel_rfl) (fun _ _ _ h => h) (Or.inl ⟨by kernel_rfl, fun w' hS' => by go_simp⟩) hHeld ?_
      (try simp only [Act.put, List.setIfInBounds_toArray, List.set_cons_zero, List.set_cons_succ])
      refine take_at 22 32 (.pointer (some ⟨b, off + p * 5, none⟩)) rfl rfl (by kernel_rfl) (by kernel_rfl) (by kernel_rfl) (fun _ _ _ h => h) (Or.inl ⟨by kernel_rfl, fun w' hS' => by go_simp⟩) hHeld ?_
      (try simp only [Act.put, List.setIfInBounds_toArray, List.set_cons_zero, List.set_cons_succ])
      refine take_at 23 33 (.pointer (some ⟨b, off + p * 5 + 3, none⟩)) rfl rfl (by kernel_rfl) (by kernel_rfl) (by kernel_rfl) (fun _ _ _ h => h) (Or.inl ⟨by kernel_rfl, fun w' hS' => by go_simp⟩) hHeld ?_
      (try simp only [Act.put, List.setIfInBounds_toArray, List.set_cons_zero, List.set_cons_succ])
      refine take_at 24 34 (.int .i64 xg) rfl rfl (by kernel_rfl) (by kernel_rfl) (by kernel_rfl) (fun _ _ _ h => h) (Or.inl ⟨by kernel_rfl, fun w' hS' => by have hc := hS'.2.2; go_simp⟩) hHeld ?_
      (try simp only [Act.put, List.setIfInBounds_toArray, List.set_cons_zero, List.set_cons_succ])
      refine take_at 25 35 (.int .i64 q) rfl rfl (by kernel_rfl) (by kernel_rfl) (by kernel_rfl) (fun _ _ _ h => h) (Or.inl ⟨by kernel_rfl, fun w' hS' => by go_simp; rw [HQ.out, IntKind.wrap_i64]; omega⟩) hHeld ?_
      (try simp only [Act.put, List.setIfInBounds_toArray, List.set_cons_zero, List.set_cons_succ])
      refine take_at 26 36 (.bool true) rfl rfl (by kernel_rfl) (by kernel_rfl) (by kernel_rfl) (fun _ _ _ h => h) (Or.inl ⟨by kernel_rfl, fun w' hS' => by go_simp⟩) hHeld ?_
      (try simp only [Act.put, List.setIfInBounds_toArray, List.set_cons_zero, List.set_cons_succ])
      refine take_at 27 37 (.bool true) rfl rfl (by kernel_rfl) (by kernel_rfl) (by kernel_rfl) (fun _ _ _ h => h) (Or.inl ⟨by kernel_rfl, fun w' hS' => by go_simp⟩) hHeld ?_
      (try simp only [Act.put, List.setIfInBounds_toArray, List.set_cons_zero, List.set_cons_succ])
      (try simp only [Act.put, List.setIfInBounds_toArray, List.set_cons_zero, List.set_cons_succ])
      refine wpAnyH_done (by kernel_rfl) ?_ _
      refine NoPanic.normal ?_
      have HG2 : Hid (RowAt w1 (w.heap.size + 1) #[.int .i64 0, .int .i64 0, .slice none 0 0] 28) := HG1.out.below hb1 z1
      go_wp2_with (refine wpList_store_row rfl 28 (.tmp 4) (.tmp 38) rfl (w.heap.size + 1) #[.int .i64 0, .int .i64 0, .slice none 0 0] rfl rfl 28 _ HG2.out tab_info rfl (cells3_one _ _ _ _ _) ?_)
      refine bodyPost_ret (v := .tuple #[.agg #[.int .i64 0, .int .i64 0, .slice none 0 0], .bool false]) ?_ rfl ⟨.inl ⟨HNB.out, rfl⟩, below_row (HB0.out.trans (hb1.mono s0)) (by omega) _⟩
      rw [results_cell_tmp rfl]
      simp [asAddr, Result.andThen, run_tabOf (RowAt.setRow HG2.out #[.int .i64 0, .int .i64 0, .slice none 0 0])]
    have HYB : Hid (splitB R C l p = true) := by
      show splitB R C l p = true
      rw [splitB_cell HXr.out (by omega) (by omega) HX.out hpl HQ.out]
      exact decide_eq_true (by omega)
    refine wp_region_noPanic ?_
    refine wp_region_held_drew (S := fun w' => RowAt w' w.heap.size #[.int .i64 R, .int .i64 C, .slice (some ⟨b, off, none⟩) n cap] 28 ∧ w'.cell? ⟨b, off + p * 5 + 2, none⟩ = some (.int .i64 xd) ∧ w'.cell? ⟨b, off + p * 5 + 3, none⟩ = some (.int .i64 xg)) (by kernel_rfl) ⟨HG0.out, x2, x3⟩ (fun hHeld => ?_)
    refine take_at 0 10 (.agg #[.int .i64 R, .int .i64 C, .slice (some ⟨b, off, none⟩) n cap]) rfl rfl (by kernel_rfl) (by kernel_rfl) (by kernel_rfl) (fun _ _ _ h => h) (yieldsIf_load_row (by rfl) 28 (.tmp 2) rfl w.heap.size rfl 28 #[.int .i64 R, .int .i64 C, .slice (some ⟨b, off, none⟩) n cap] (0, 0) _ (fun w' h => h.1) Try.underlying28 rfl tab_info) hHeld ?_
    (try simp only [Act.put, List.setIfInBounds_toArray, List.set_cons_zero, List.set_cons_succ])
    refine wpAnyH_ready (rs := [1]) (by kernel_rfl) (by simp) ?_
    refine AllReadyH.cons rfl (fun K hK => ?_) AllReadyH.nil
    go_simp
    go_at_call 27
    refine (specTableOk_any R C _ n cap l _ (HT.out.below ((Below.refl _ _).drew))).mono ?_
    rw [HX.out]
    rintro e w1 ⟨rfl, hb1⟩
    have hb1 : Below v.heap.size v w1 := (Below.refl _ _).drew.trans hb1
    go_wp2_with fail
    refine hK.out _ _ ⟨HG0.out.below hb1 z0, (hb1.cell (p := ⟨b, off + p * 5 + 2, none⟩) hbv).trans x2, (hb1.cell (p := ⟨b, off + p * 5 + 3, none⟩) hbv).trans x3⟩ (fun hHeld => ?_)
    clear hK K
    (try simp only [Act.put, List.setIfInBounds_toArray, List.set_cons_zero, List.set_cons_succ])
    refine take_at 2 12 (.bool false) rfl rfl (by kernel_rfl) (by kernel_rfl) (by kernel_rfl) (fun _ _ _ h => h) (Or.inl ⟨by kernel_rfl, fun w' hS' => by go_simp⟩) hHeld ?_
    (try simp only [Act.put, List.setIfInBounds_toArray, List.set_cons_zero, List.set_cons_succ])
    refine take_at 3 13 (.bool false) rfl rfl (by kernel_rfl) (by kernel_rfl) (by kernel_rfl) (fun _ _ _ h => h) (Or.inl ⟨by kernel_rfl, fun w' hS' => by go_simp⟩) hHeld ?_
    (try simp only [Act.put, List.setIfInBounds_toArray, List.set_cons_zero, List.set_cons_succ])
    refine take_at 4 14 (.int .i64 p) rfl rfl (by kernel_rfl) (by kernel_rfl) (by kernel_rfl) (fun _ _ _ h => h) (Or.inl ⟨by kernel_rfl, fun w' hS' => by go_simp⟩) hHeld ?_
    (try simp only [Act.put, List.setIfInBounds_toArray, List.set_cons_zero, List.set_cons_succ])
    refine take_at 5 15 (.pointer (some ⟨w.heap.size, 2, none⟩)) rfl rfl (by kernel_rfl) (by kernel_rfl) (by kernel_rfl) (fun _ _ _ h => h) (Or.inl ⟨by kernel_rfl, fun w' hS' => by go_simp⟩) hHeld ?_
    (try simp only [Act.put, List.setIfInBounds_toArray, List.set_cons_zero, List.set_cons_succ])
    refine take_at 6 16 (.slice (some ⟨b, off, none⟩) n cap) rfl rfl (by kernel_rfl) (by kernel_rfl) (by kernel_rfl) (fun _ _ _ h => h) (Or.inl ⟨by kernel_rfl, fun w' hS' => by have hc := RowAt.cell hS'.1 2; go_simp⟩) hHeld ?_
    (try simp only [Act.put, List.setIfInBounds_toArray, List.set_cons_zero, List.set_cons_succ])
    refine take_at 7 17 (.int .i64 n) rfl rfl (by kernel_rfl) (by kernel_rfl) (by kernel_rfl) (fun _ _ _ h => h) (Or.inl ⟨by kernel_rfl, fun w' hS' => by go_simp⟩) hHeld ?_
    (try simp only [Act.put, List.setIfInBounds_toArray, List.set_cons_zero, List.set_cons_succ])
    refine take_at 8 18 (.int .i64 ((n : Int) - 1)) rfl rfl (by kernel_rfl) (by kernel_rfl) (by kernel_rfl) (fun _ _ _ h => h) (Or.inl ⟨by kernel_rfl, fun w' hS' => by go_simp; rw [IntKind.wrap_i64]; omega⟩) hHeld ?_
    (try simp only [Act.put, List.setIfInBounds_toArray, List.set_cons_zero, List.set_cons_succ])
    (try simp only [Act.put, List.setIfInBounds_toArray, List.set_cons_zero, List.set_cons_succ])
    refine wpAnyH_ready (rs := [9]) (by kernel_rfl) (by simp) ?_
    refine AllReadyH.cons rfl (fun K hK => ?_) AllReadyH.nil
    go_simp
    go_at_call 28
    refine (l6In_of HS0.out _).mono ?_
    rintro e w9 ⟨rfl, hw9⟩
    subst w9
    go_wp2_with fail
    refine hK.out _ _ hHeld (fun _ => ?_)
    clear hK K
    (try simp only [Act.put, List.setIfInBounds_toArray, List.set_cons_zero, List.set_cons_succ])
    refine take_at 10 20 (.bool false) rfl rfl (by kernel_rfl) (by kernel_rfl) (by kernel_rfl) (fun _ _ _ h => h) (Or.inl ⟨by kernel_rfl, fun w' hS' => by go_simp⟩) hHeld ?_
    (try simp only [Act.put, List.setIfInBounds_toArray, List.set_cons_zero, List.set_cons_succ])
    refine take_at 11 21 (.bool false) rfl rfl (by kernel_rfl) (by kernel_rfl) (by kernel_rfl) (fun _ _ _ h => h) (Or.inl ⟨by kernel_rfl, fun w' hS' => by go_simp⟩) hHeld ?_
    (try simp only [Act.put, List.setIfInBounds_toArray, List.set_cons_zero, List.set_cons_succ])
    refine take_at 12 22 (.bool false) rfl rfl (by kernel_rfl) (by kernel_rfl) (by kernel_rfl) (fun _ _ _ h => h) (Or.inl ⟨by kernel_rfl, fun w' hS' => by go_simp⟩) hHeld ?_
    (try simp only [Act.put, List.setIfInBounds_toArray, List.set_cons_zero, List.set_cons_succ])
    refine take_at 13 23 (.pointer (some ⟨w.heap.size, 2, none⟩)) rfl rfl (by kernel_rfl) (by kernel_rfl) (by kernel_rfl) (fun _ _ _ h => h) (Or.inl ⟨by kernel_rfl, fun w' hS' => by go_simp⟩) hHeld ?_
    (try simp only [Act.put, List.setIfInBounds_toArray, List.set_cons_zero, List.set_cons_succ])
    refine take_at 14 24 (.slice (some ⟨b, off, none⟩) n cap) rfl rfl (by kernel_rfl) (by kernel_rfl) (by kernel_rfl) (fun _ _ _ h => h) (Or.inl ⟨by kernel_rfl, fun w' hS' => by have hc := RowAt.cell hS'.1 2; go_simp⟩) hHeld ?_
    (try simp only [Act.put, List.setIfInBounds_toArray, List.set_cons_zero, List.set_cons_succ])
    refine take_at 15 25 (.int .i64 p) rfl rfl (by kernel_rfl) (by kernel_rfl) (by kernel_rfl) (fun _ _ _ h => h) (Or.inl ⟨by kernel_rfl, fun w' hS' => by go_simp⟩) hHeld ?_
    (try simp only [Act.put, List.setIfInBounds_toArray, List.set_cons_zero, List.set_cons_succ])
    refine take_at 16 26 (.pointer (some ⟨b, off + p * 5, none⟩)) rfl rfl (by kernel_rfl) (by kernel_rfl) (by kernel_rfl) (fun _ _ _ h => h) (Or.inl ⟨by kernel_rfl, fun w' hS' => by go_simp⟩) hHeld ?_
    (try simp only [Act.put, List.setIfInBounds_toArray, List.set_cons_zero, List.set_cons_succ])
    refine take_at 17 27 (.pointer (some ⟨b, off + p * 5 + 2, none⟩)) rfl rfl (by kernel_rfl) (by kernel_rfl) (by kernel_rfl) (fun _ _ _ h => h) (Or.inl ⟨by kernel_rfl, fun w' hS' => by go_simp⟩) hHeld ?_
    (try simp only [Act.put, List.setIfInBounds_toArray, List.set_cons_zero, List.set_cons_succ])
    refine take_at 18 28 (.int .i64 xd) rfl rfl (by kernel_rfl) (by kernel_rfl) (by kernel_rfl) (fun _ _ _ h => h) (Or.inl ⟨by kernel_rfl, fun w' hS' => by have hc := hS'.2.1; go_simp⟩) hHeld ?_
    (try simp only [Act.put, List.setIfInBounds_toArray, List.set_cons_zero, List.set_cons_succ])
    refine take_at 19 29 (.pointer (some ⟨w.heap.size, 2, none⟩)) rfl rfl (by kernel_rfl) (by kernel_rfl) (by kernel_rfl) (fun _ _ _ h => h) (Or.inl ⟨by kernel_rfl, fun w' hS' => by go_simp⟩) hHeld ?_
    (try simp only [Act.put, List.setIfInBounds_toArray, List.set_cons_zero, List.set_cons_succ])
    refine take_at 20 30 (.slice (some ⟨b, off, none⟩) n cap) rfl rfl (by kernel_rfl) (by kernel_rfl) (by kernel_rfl) (fun _ _ _ h => h) (Or.inl ⟨by kernel_rfl, fun w' hS' => by have hc := RowAt.cell hS'.1 2; go_simp⟩) hHeld ?_
    (try simp only [Act.put, List.setIfInBounds_toArray, List.set_cons_zero, List.set_cons_succ])
    refine take_at 21 31 (.int .i64 p) rfl rfl (by kernel_rfl) (by kernel_rfl) (by kernel_rfl) (fun _ _ _ h => h) (Or.inl ⟨by kernel_rfl, fun w' hS' => by go_simp⟩) hHeld ?_
    (try simp only [Act.put, List.setIfInBounds_toArray, List.set_cons_zero, List.set_cons_succ])
    refine take_at 22 32 (.pointer (some ⟨b, off + p * 5, none⟩)) rfl rfl (by kernel_rfl) (by kernel_rfl) (by kernel_rfl) (fun _ _ _ h => h) (Or.inl ⟨by kernel_rfl, fun w' hS' => by go_simp⟩) hHeld ?_
    (try simp only [Act.put, List.setIfInBounds_toArray, List.set_cons_zero, List.set_cons_succ])
    refine take_at 23 33 (.pointer (some ⟨b, off + p * 5 + 3, none⟩)) rfl rfl (by kernel_rfl) (by kernel_rfl) (by kernel_rfl) (fun _ _ _ h => h) (Or.inl ⟨by kernel_rfl, fun w' hS' => by go_simp⟩) hHeld ?_
    (try simp only [Act.put, List.setIfInBounds_toArray, List.set_cons_zero, List.set_cons_succ])
    refine take_at 24 34 (.int .i64 xg) rfl rfl (by kernel_rfl) (by kernel_rfl) (by kernel_rfl) (fun _ _ _ h => h) (Or.inl ⟨by kernel_rfl, fun w' hS' => by have hc := hS'.2.2; go_simp⟩) hHeld ?_
    (try simp only [Act.put, List.setIfInBounds_toArray, List.set_cons_zero, List.set_cons_succ])
    refine take_at 25 35 (.int .i64 q) rfl rfl (by kernel_rfl) (by kernel_rfl) (by kernel_rfl) (fun _ _ _ h => h) (Or.inl ⟨by kernel_rfl, fun w' hS' => by go_simp; rw [HQ.out, IntKind.wrap_i64]; omega⟩) hHeld ?_
    (try simp only [Act.put, List.setIfInBounds_toArray, List.set_cons_zero, List.set_cons_succ])
    refine take_at 26 36 (.bool false) rfl rfl (by kernel_rfl) (by kernel_rfl) (by kernel_rfl) (fun _ _ _ h => h) (Or.inl ⟨by kernel_rfl, fun w' hS' => by go_simp⟩) hHeld ?_
    (try simp only [Act.put, List.setIfInBounds_toArray, List.set_cons_zero, List.set_cons_succ])
    refine take_at 27 37 (.bool false) rfl rfl (by kernel_rfl) (by kernel_rfl) (by kernel_rfl) (fun _ _ _ h => h) (Or.inl ⟨by kernel_rfl, fun w' hS' => by go_simp⟩) hHeld ?_
    (try simp only [Act.put, List.setIfInBounds_toArray, List.set_cons_zero, List.set_cons_succ])
    (try simp only [Act.put, List.setIfInBounds_toArray, List.set_cons_zero, List.set_cons_succ])
    refine wpAnyH_done (by kernel_rfl) ?_ _
    refine NoPanic.normal ?_
    have s1 := hb1.size
    have HG2 : Hid (RowAt w1 (w.heap.size + 1) #[.int .i64 0, .int .i64 0, .slice none 0 0] 28) := HG1.out.below hb1 z1
    have HT2 : Hid (Tab w1 (some ⟨b, off, none⟩) n cap l) := HT.out.below hb1
    have q0 := (hb1.cell (p := ⟨w.heap.size, 0, none⟩) z0).trans k0
    have q1 := (hb1.cell (p := ⟨w.heap.size, 1, none⟩) z0).trans k1
    have q2 := (hb1.cell (p := ⟨w.heap.size, 2, none⟩) z0).trans k2
    obtain ⟨R, rfl⟩ : ∃ R' : Nat, R = R' := ⟨R.toNat, by omega⟩
    obtain ⟨C, rfl⟩ : ∃ C' : Nat, C = C' := ⟨C.toNat, by omega⟩
    obtain ⟨xr, rfl⟩ : ∃ z : Nat, xr = z := ⟨xr.toNat, by omega⟩
    obtain ⟨xc, rfl⟩ : ∃ z : Nat, xc = z := ⟨xc.toNat, by omega⟩
    obtain ⟨xd, rfl⟩ : ∃ z : Nat, xd = z := ⟨xd.toNat, by omega⟩
    obtain ⟨xg, rfl⟩ : ∃ z : Nat, xg = z := ⟨xg.toNat, by omega⟩
    clear k0 k1 k2 x0 x1 x2 x3 x4 HG0
    go_upto_region 4 with (go_at_call 29; refine (l2Copy_any R C _ n cap l _ HT2.out (by omega) HTL.out).mono ?_; rintro e w2 ⟨⟨al, cl, rs, rfl, hOl⟩, hb2⟩)
    have s2 := hb2.size
    have HRL : Hid (rs.length = l.length) := hOl.2.1
    have hpr : p < rs.length := by have := HRL.out; omega
    have hre : (rs.getD p rw0).1 = xr ∧ (rs.getD p rw0).2.1 = xc ∧ (rs.getD p rw0).2.2.1 = xd ∧ (rs.getD p rw0).2.2.2.1 = xg := by
      obtain ⟨e0, e1, e2, e3, -⟩ := hOl.2.2.1 p hpr
      rw [HXr.out] at e0 e1 e2 e3
      exact ⟨e0, e1, e2, e3⟩
    obtain ⟨⟨yr, yc, yd, yg, xa, xn, xq⟩, hx⟩ : ∃ x, x = rs.getD p rw0 := ⟨_, rfl⟩
    rw [← hx] at hre
    simp only at hre
    obtain ⟨rfl, rfl, rfl, rfl⟩ := hre
    have HRr : Hid (rs.getD p rw0 = ((xr : Int), (xc : Int), (xd : Int), (xg : Int), xa, xn, xq)) := hx.symm
    obtain ⟨N, hN⟩ : ∃ N, l.length = N := ⟨_, rfl⟩
    have HNN : Hid (l.length = N) := hN
    rw [hN] at hOl hl25 ⊢
    have hpN : (p : Int) < (N : Int) := by omega
    clear hN
    have R2 : RowAt (w2.alloc (.cells #[.int .i64 R, .int .i64 C, .slice al N cl] 28)) w2.heap.size #[.int .i64 R, .int .i64 C, .slice al N cl] 28 := rowAt_new _ _ _
    have B2 : Below w1.heap.size w1 (w2.alloc (.cells #[.int .i64 R, .int .i64 C, .slice al N cl] 28)) := hb2.alloc s2 _
    have O2 : OwnT (w2.alloc (.cells #[.int .i64 R, .int .i64 C, .slice al N cl] 28)) w1.heap.size (.slice al N cl) rs l := hOl.below ((Below.refl _ _).alloc (Nat.le_refl _) _)
    generalize (w2.alloc (.cells #[.int .i64 R, .int .i64 C, .slice al N cl] 28)) = v2 at R2 B2 O2 ⊢
    have sv2 := B2.size
    have z2 := R2.lt
    clear q0 q1 q2 hb2 hOl
    rcases O2.1.row.2 with ⟨hv, hz⟩ | ⟨g, cap', cur, hv, hgB, -⟩
    · exfalso; omega
    simp only [Value.slice.injEq, true_and] at hv
    obtain ⟨rfl, hcc⟩ := hv
    clear hcc
    have hrow := O2.1.row
    have hcl := O2.1.rws.2.1
    have hcm := O2.1.rws.2.2.1
    unfold maxLen at hcm
    have hgG : g ≠ w2.heap.size := fun e => rowAt_ne R2 hrow (by decide) (by rw [e]; rfl)
    have hglt : g < v2.heap.size := (own_lt hrow rfl).2
    have hxl := hrow.1
    have cell : ∀ j, j < 5 → v2.cell? ⟨g, p * 5 + j, none⟩ = (rwCells ((xr : Int), (xc : Int), (xd : Int), (xg : Int), xa, xn, xq))[j]? := fun j hj => by
      rw [hrow.cellAt (p * 5 + j) (by omega), flat5_get _ p j hpr hj, HRr.out]
    have x0 : v2.cell? ⟨g, p * 5, none⟩ = some (.int .i64 xr) := cell 0 (by omega)
    have x1 : v2.cell? ⟨g, p * 5 + 1, none⟩ = some (.int .i64 xc) := cell 1 (by omega)
    have x2 : v2.cell? ⟨g, p * 5 + 2, none⟩ = some (.int .i64 xd) := cell 2 (by omega)
    have x3 : v2.cell? ⟨g, p * 5 + 3, none⟩ = some (.int .i64 xg) := cell 3 (by omega)
    have x4 : v2.cell? ⟨g, p * 5 + 4, none⟩ = some (.slice xa xn xq) := cell 4 (by omega)
    have fz2 := hrow.frozenAt (p * 5 + 2)
    have fz3 := hrow.frozenAt (p * 5 + 3)
    have k2 : v2.cell? ⟨w2.heap.size, 2, none⟩ = some (.slice (some ⟨g, 0, none⟩) N cl) := R2.cell 2
    clear cell hxl hrow hx
    go_upto_region 5 with fail
    have bA : Below v2.heap.size v2 (v2.alloc (.cells #[.int .i64 xr, .int .i64 xc, .int .i64 xd, .int .i64 xg, .slice xa xn xq] 44)) := (Below.refl _ _).alloc (Nat.le_refl _) _
    have RA : RowAt (v2.alloc (.cells #[.int .i64 xr, .int .i64 xc, .int .i64 xd, .int .i64 xg, .slice xa xn xq] 44)) v2.heap.size #[.int .i64 xr, .int .i64 xc, .int .i64 xd, .int .i64 xg, .slice xa xn xq] 44 := rowAt_new _ _ _
    generalize (v2.alloc (.cells #[.int .i64 xr, .int .i64 xc, .int .i64 xd, .int .i64 xg, .slice xa xn xq] 44)) = w5 at bA RA ⊢
    have s5 := bA.size
    have x2' := (bA.cell (p := ⟨g, p * 5 + 2, none⟩) hglt).trans x2
    have x3' := (bA.cell (p := ⟨g, p * 5 + 3, none⟩) hglt).trans x3
    have fz2' := (bA.frozen (p := ⟨g, p * 5 + 2, none⟩) hglt).trans fz2
    have fz3' := (bA.frozen (p := ⟨g, p * 5 + 3, none⟩) hglt).trans fz3
    have k2' := (bA.cell (p := ⟨w2.heap.size, 2, none⟩) z2).trans k2
    have R5 : RowAt w5 w2.heap.size #[.int .i64 R, .int .i64 C, .slice (some ⟨g, 0, none⟩) N cl] 28 := R2.below bA z2
    have O5 : OwnT w5 w1.heap.size (.slice (some ⟨g, 0, none⟩) N cl) rs l := O2.below bA
    have B5 : Below w1.heap.size w1 w5 := B2.trans (bA.mono sv2)
    obtain ⟨S, hSe⟩ : ∃ S, v2.heap.size = S := ⟨_, rfl⟩
    rw [hSe] at RA hglt z2 sv2 s5 ⊢
    have hgS : g ≠ S := by omega
    have hSw : w2.heap.size < S := z2
    have zS := RA.lt
    clear x0 x1 x2 x3 x4 fz2 fz3 k2 bA R2 B2 O2 hSe
    have P1 := O5.put p 2 hpr (by omega) (.int .i64 1) ((xr : Int), (xc : Int), 1, (xg : Int), xa, xn, xq) ((xr : Int), (xc : Int), 1, (xg : Int), (l.getD p cl0).2.2.2.2) (by rw [HRr.out]; rfl) (by rw [HRr.out]; rfl) rfl ⟨rfl, rfl, rfl, rfl⟩
    have P2 := P1.put p 3 (by rw [List.length_set]; exact hpr) (by omega) (.int .i64 1) ((xr : Int), (xc : Int), 1, 1, xa, xn, xq) (oneC (l.getD p cl0)) (by rw [getD_setE _ _ _ _ hpr]; rfl) (by rw [getD_setE _ _ _ _ hpr]; rfl) (by rw [getD_setE _ _ _ _ hpl]; rfl) (by rw [HXr.out]; exact ⟨rfl, rfl, rfl, rfl⟩)
    rw [List.set_set, List.set_set] at P2
    have R6 := (R5.other ⟨g, p * 5 + 2, none⟩ (.int .i64 1) (by show w2.heap.size ≠ g; omega)).other ⟨g, p * 5 + 3, none⟩ (.int .i64 1) (by show w2.heap.size ≠ g; omega)
    have A6 := (RA.other ⟨g, p * 5 + 2, none⟩ (.int .i64 1) (by show S ≠ g; omega)).other ⟨g, p * 5 + 3, none⟩ (.int .i64 1) (by show S ≠ g; omega)
    have B6 := (B5.setCell (p := ⟨g, p * 5 + 2, none⟩) hgB (.int .i64 1)).setCell (p := ⟨g, p * 5 + 3, none⟩) hgB (.int .i64 1)
    have HP2 : Hid (OwnT _ _ _ _ _) := P2
    clear R5 O5 B5 P1 P2
    go_upto_region 7 with fail
    have HR6 : Hid (RowAt _ _ _ _) := R6
    have HA6 : Hid (RowAt _ _ _ _) := A6
    have HB6 : Hid (Below _ _ _) := B6
    have z6 : S < ((w5.setCell ⟨g, p * 5 + 2, none⟩ (.int .i64 1)).setCell ⟨g, p * 5 + 3, none⟩ (.int .i64 1)).heap.size := A6.lt
    clear R6 A6 B6 x2' x3' fz2' fz3' k2' RA
    generalize ((w5.setCell ⟨g, p * 5 + 2, none⟩ (.int .i64 1)).setCell ⟨g, p * 5 + 3, none⟩ (.int .i64 1)) = v6 at HR6 HA6 HB6 HP2 z6 ⊢
    obtain ⟨rs1, HRS⟩ : ∃ rs1, Hid (rs.set p ((xr : Int), (xc : Int), 1, 1, xa, xn, xq) = rs1) := ⟨_, rfl⟩
    obtain ⟨l1, HLS⟩ : ∃ l1, Hid (l.set p (oneC (l.getD p cl0)) = l1) := ⟨_, rfl⟩
    rw [HRS.out, HLS.out] at HP2
    have y0 : v6.cell? ⟨S, 0, none⟩ = some (.int .i64 xr) := HA6.out.cell 0
    go_wp2_with fail
    clear y0
    go_loopw [8] (fun av wr => ∃ (k A : Nat) (a' : Option Addr) (c' m' : Nat), k ≤ xd ∧ A = xr + k ∧ av = .int .i64 A ∧ m' = N + (restK xr xc xg k 0).length ∧ RowAt wr w2.heap.size #[.int .i64 R, .int .i64 C, .slice a' m' c'] 28 ∧ OwnR wr w1.heap.size (.slice a' m' c') (rs1 ++ (restK xr xc xg k 0).map sqR) ∧ TxtOwn wr w1.heap.size (Value.slice a' m' c').ownBlock (rs1 ++ (restK xr xc xg k 0).map sqR) (l1 ++ (restK xr xc xg k 0).map sqC) ∧ RowAt wr S #[.int .i64 xr, .int .i64 xc, .int .i64 xd, .int .i64 xg, .slice xa xn xq] 44 ∧ (Value.slice a' m' c').ownBlock ≠ some S ∧ Below w1.heap.size w1 wr ∧ S < wr.heap.size) (fun av _ => (xr + xd) - (intOf av).toNat)
    case atStart => exact ⟨0, xr, some ⟨g, 0, none⟩, cl, N, Nat.zero_le _, by omega, rfl, by simp [restK], HR6.out, by simpa [restK] using HP2.out.1, by simpa [restK] using HP2.out.2, HA6.out, by simp [Value.ownBlock]; omega, HB6.out, z6⟩
    case round =>
      clear HR6 HA6 HB6 HP2 z6
      obtain ⟨k, A, a', c', m', hk, hA, rfl, hm', hR', hO', hX', hA', hg', hb', hs'⟩ := hrel
      have HA : Hid (A = xr + k) := hA
      have hml := restK_len xr xc xg k 0
      have hkg : k * xg ≤ 5 * 5 := Nat.mul_le_mul (by omega) (by omega)
      have HM' : Hid (m' = N + (restK xr xc xg k 0).length) := hm'
      have hm30 : m' ≤ 50 := by omega
      have HRo : Hid (RowAt wr w2.heap.size #[.int .i64 R, .int .i64 C, .slice a' m' c'] 28) := hR'
      have HO : Hid (OwnR wr w1.heap.size (.slice a' m' c') (rs1 ++ (restK xr xc xg k 0).map sqR)) := hO'
      have HXt : Hid (TxtOwn wr w1.heap.size (Value.slice a' m' c').ownBlock (rs1 ++ (restK xr xc xg k 0).map sqR) (l1 ++ (restK xr xc xg k 0).map sqC)) := hX'
      have HAo : Hid (RowAt wr S #[.int .i64 xr, .int .i64 xc, .int .i64 xd, .int .i64 xg, .slice xa xn xq] 44) := hA'
      have HGS : Hid ((Value.slice a' m' c').ownBlock ≠ some S) := hg'
      have HB : Hid (Below w1.heap.size w1 wr) := hb'
      have y0 : wr.cell? ⟨S, 0, none⟩ = some (.int .i64 xr) := hA'.cell 0
      have y1 : wr.cell? ⟨S, 1, none⟩ = some (.int .i64 xc) := hA'.cell 1
      have y2 : wr.cell? ⟨S, 2, none⟩ = some (.int .i64 xd) := hA'.cell 2
      by_cases hlk : k < xd
      · have hAl : (A : Int) < xr + xd := by omega
        clear hR' hO' hX' hA' hg' hb' hm' hml hA
        go_wp2_with fail
        clear y0 y1 y2
        go_loopw [9] (fun bv wr => ∃ (j D : Nat) (a' : Option Addr) (c' m' : Nat), j ≤ xg ∧ D = xc + j ∧ bv = .int .i64 D ∧ m' = N + (restK xr xc xg k j).length ∧ RowAt wr w2.heap.size #[.int .i64 R, .int .i64 C, .slice a' m' c'] 28 ∧ OwnR wr w1.heap.size (.slice a' m' c') (rs1 ++ (restK xr xc xg k j).map sqR) ∧ TxtOwn wr w1.heap.size (Value.slice a' m' c').ownBlock (rs1 ++ (restK xr xc xg k j).map sqR) (l1 ++ (restK xr xc xg k j).map sqC) ∧ RowAt wr S #[.int .i64 xr, .int .i64 xc, .int .i64 xd, .int .i64 xg, .slice xa xn xq] 44 ∧ (Value.slice a' m' c').ownBlock ≠ some S ∧ Below w1.heap.size w1 wr ∧ S < wr.heap.size) (fun bv _ => (xc + xg) - (intOf bv).toNat)
        case atStart => exact ⟨0, xc, a', c', m', Nat.zero_le _, by omega, rfl, HM'.out, HRo.out, HO.out, HXt.out, HAo.out, HGS.out, HB.out, hs'⟩
        case round =>
          clear HRo HO HXt HAo HGS HB HM' hm30 hs'
          clear a' c' m'
          obtain ⟨j, D, a', c', m', hj, hD, rfl, hm', hR', hO', hX', hA', hg', hb', hs'⟩ := hrel
          have HD : Hid (D = xc + j) := hD
          have hml := restK_len xr xc xg k j
          have HM' : Hid (m' = N + (restK xr xc xg k j).length) := hm'
          have hm30 : m' ≤ 60 := by omega
          have HRo : Hid (RowAt wr w2.heap.size #[.int .i64 R, .int .i64 C, .slice a' m' c'] 28) := hR'
          have HO : Hid (OwnR wr w1.heap.size (.slice a' m' c') (rs1 ++ (restK xr xc xg k j).map sqR)) := hO'
          have HXt : Hid (TxtOwn wr w1.heap.size (Value.slice a' m' c').ownBlock (rs1 ++ (restK xr xc xg k j).map sqR) (l1 ++ (restK xr xc xg k j).map sqC)) := hX'
          have HAo : Hid (RowAt wr S #[.int .i64 xr, .int .i64 xc, .int .i64 xd, .int .i64 xg, .slice xa xn xq] 44) := hA'
          have HGS : Hid ((Value.slice a' m' c').ownBlock ≠ some S) := hg'
          have HB : Hid (Below w1.heap.size w1 wr) := hb'
          have y0 : wr.cell? ⟨S, 0, none⟩ = some (.int .i64 xr) := hA'.cell 0
          have y1 : wr.cell? ⟨S, 1, none⟩ = some (.int .i64 xc) := hA'.cell 1
          have y3 : wr.cell? ⟨S, 3, none⟩ = some (.int .i64 xg) := hA'.cell 3
          have k2 : wr.cell? ⟨w2.heap.size, 2, none⟩ = some (.slice a' m' c') := hR'.cell 2
          have hcap := hO'.rws.2.1
          have hcm' := hO'.rws.2.2.1
          unfold maxLen at hcm'
          by_cases hlj : j < xg
          · have hDl : (D : Int) < xc + xg := by omega
            clear hR' hO' hX' hA' hg' hb' hm' hml hD
            by_cases hAx : A = xr
            · by_cases hDx : D = xc
              · have HAx : Hid (A = xr) := hAx
                have HDx : Hid (D = xc) := hDx
                have n0 : ((A : Int) != (xr : Int)) = false := by simp; omega
                have n1 : ((D : Int) != (xc : Int)) = false := by simp; omega
                clear hAx hDx
                go_wp2_with fail
                go_roundw
                case rel =>
                  have e : restK xr xc xg k (j + 1) = restK xr xc xg k j := restK_skip xr xc xg k j (by have := HA.out; have := HD.out; have := HAx.out; have := HDx.out; omega)
                  refine ⟨j + 1, D + 1, a', c', m', by omega, by have := HD.out; omega, by go_num, ?_, HRo.out, ?_, ?_, HAo.out, HGS.out, HB.out, hs'⟩
                  · rw [e]; exact HM'.out
                  · rw [e]; exact HO.out
                  · rw [e]; exact HXt.out
                case measure => simp [intOf]; omega
              · have n0 : ((A : Int) != (xr : Int)) = false := by simp; omega
                have n1 : ((D : Int) != (xc : Int)) = true := by simp; omega
                have hne : ¬ (xr + k = xr ∧ xc + j = xc) := by have := HA.out; have := HD.out; omega
                clear hAx hDx
                go_wp2_with (at_builtin; refine wpList_append_own_at _ rfl (.tmp 89) (.tmp 93) 26 rfl w1.heap.size 44 i0 _ 5 56 Try.underlying26 hi hz0 hz1 hz2 rfl (by decide) (.slice a' m' c') _ _ rfl (HO.out.row.alloc _) ⟨wr.heap.size, 0, none⟩ 1 1 [.int .i64 (A : Int), .int .i64 (D : Int), .int .i64 1, .int .i64 1, .slice none 0 0] rfl rfl (cell_five_new _ _ _ _ _ _ _) (five_oneCell _ _ _ _ _ _ _) (by unfold maxLen; omega) (by omega) (by simp; omega) ?_; intro v' w8 hown' hgrow _ hat; obtain ⟨a5, c5, rfl, ho5, hb5⟩ := ownR_step (B := w1.heap.size) (w := wr) (s := ((A : Int), (D : Int), 1, 1, none, 0, 0)) HO.out (Below.refl _ _) (by omega) hown' hgrow; have R8 := RowAt.grown (HRo.out.alloc _) hgrow (rowAt_ne HRo.out HO.out.row (by decide)); have q2 : w8.cell? ⟨w2.heap.size, 2, none⟩ = some (.slice a' m' c') := R8.cell 2; have q3 := R8.frozen 2)
                go_roundw
                case rel =>
                  have s8 := hgrow.size
                  simp at s8
                  have eR : rs1 ++ (restK xr xc xg k (j + 1)).map sqR = (rs1 ++ (restK xr xc xg k j).map sqR) ++ [((A : Int), (D : Int), 1, 1, none, 0, 0)] := by
                    rw [restK_put xr xc xg k j (by omega), List.map_append, List.append_assoc, ← HA.out, ← HD.out]
                    rfl
                  have eC : l1 ++ (restK xr xc xg k (j + 1)).map sqC = (l1 ++ (restK xr xc xg k j).map sqC) ++ [((A : Int), (D : Int), 1, 1, [])] := by
                    rw [restK_put xr xc xg k j (by omega), List.map_append, List.append_assoc, ← HA.out, ← HD.out]
                    rfl
                  have t5 : TxtOwn w8 w1.heap.size (Value.slice a' m' c').ownBlock (rs1 ++ (restK xr xc xg k j).map sqR) (l1 ++ (restK xr xc xg k j).map sqC) := (HXt.out.below ((Below.refl _ _).alloc (Nat.le_refl _) _)).grown hgrow (fun k hk b hb => HXt.out.2.2.1 k hk b hb)
                  have t6 := t5.snoc (C := wr.heap.size) (x := ((A : Int), (D : Int), 1, 1, none, 0, 0)) (y := ((A : Int), (D : Int), 1, 1, [])) ⟨rfl, rfl, rfl, rfl, World.ownsRow_nil _ _ _ _⟩ (fun b hb => by simp [rwT, Value.ownBlock] at hb) (fun k hk b hb => HXt.out.blockLt k hk b hb) (fun b hb => by simp [rwT, Value.ownBlock] at hb)
                  have B8 : Below w1.heap.size w1 w8 := ((HB.out).alloc (by omega) _).grown hgrow (by simp; omega) (fun k hk => (own_lt HO.out.row hk).1)
                  have A8 := RowAt.grown (HAo.out.alloc _) hgrow HGS.out
                  have hg5 : (Value.slice a5 (m' + 1) c5).ownBlock ≠ some S := by
                    rcases hat with e | e
                    · rw [e]; exact HGS.out
                    · rw [e]; simp; omega
                  have hneG : (Value.slice a5 (m' + 1) c5).ownBlock ≠ some w2.heap.size := rowAt_ne R8 ho5.row (by decide)
                  refine ⟨j + 1, D + 1, a5, c5, m' + 1, by omega, by have := HD.out; omega, by go_num, ?_, R8.setCell 2 (.slice a5 (m' + 1) c5), ?_, ?_, A8.other ⟨w2.heap.size, 2, none⟩ (.slice a5 (m' + 1) c5) (by show S ≠ w2.heap.size; omega), hg5, B8.setCell (p := ⟨w2.heap.size, 2, none⟩) s2 (.slice a5 (m' + 1) c5), by simp [World.setCell]; omega⟩
                  · have e9 := HM'.out
                    rw [restK_put xr xc xg k j (by omega), List.length_append]
                    simp only [List.length_cons, List.length_nil]
                    omega
                  · rw [eR]
                    exact own_set ho5 _ _ hneG
                  · rw [eR, eC]
                    have t7 := t6.anew ho5
                    exact ⟨t7.1, fun q hq => by
                      obtain ⟨h0, h1, h2, h3, h4⟩ := t7.2.1 q hq
                      exact ⟨h0, h1, h2, h3, own_set h4 _ _ (rowAt_ne R8 h4 (by decide))⟩, t7.2.2⟩
                case measure => simp [intOf]; omega
            · have n0 : ((A : Int) != (xr : Int)) = true := by simp; omega
              have hne : ¬ (xr + k = xr ∧ xc + j = xc) := by have := HA.out; have := HD.out; omega
              clear hAx
              go_wp2_with (at_builtin; refine wpList_append_own_at _ rfl (.tmp 89) (.tmp 93) 26 rfl w1.heap.size 44 i0 _ 5 56 Try.underlying26 hi hz0 hz1 hz2 rfl (by decide) (.slice a' m' c') _ _ rfl (HO.out.row.alloc _) ⟨wr.heap.size, 0, none⟩ 1 1 [.int .i64 (A : Int), .int .i64 (D : Int), .int .i64 1, .int .i64 1, .slice none 0 0] rfl rfl (cell_five_new _ _ _ _ _ _ _) (five_oneCell _ _ _ _ _ _ _) (by unfold maxLen; omega) (by omega) (by simp; omega) ?_; intro v' w8 hown' hgrow _ hat; obtain ⟨a5, c5, rfl, ho5, hb5⟩ := ownR_step (B := w1.heap.size) (w := wr) (s := ((A : Int), (D : Int), 1, 1, none, 0, 0)) HO.out (Below.refl _ _) (by omega) hown' hgrow; have R8 := RowAt.grown (HRo.out.alloc _) hgrow (rowAt_ne HRo.out HO.out.row (by decide)); have q2 : w8.cell? ⟨w2.heap.size, 2, none⟩ = some (.slice a' m' c') := R8.cell 2; have q3 := R8.frozen 2)
              go_roundw
              case rel =>
                have s8 := hgrow.size
                simp at s8
                have eR : rs1 ++ (restK xr xc xg k (j + 1)).map sqR = (rs1 ++ (restK xr xc xg k j).map sqR) ++ [((A : Int), (D : Int), 1, 1, none, 0, 0)] := by
                  rw [restK_put xr xc xg k j (by omega), List.map_append, List.append_assoc, ← HA.out, ← HD.out]
                  rfl
                have eC : l1 ++ (restK xr xc xg k (j + 1)).map sqC = (l1 ++ (restK xr xc xg k j).map sqC) ++ [((A : Int), (D : Int), 1, 1, [])] := by
                  rw [restK_put xr xc xg k j (by omega), List.map_append, List.append_assoc, ← HA.out, ← HD.out]
                  rfl
                have t5 : TxtOwn w8 w1.heap.size (Value.slice a' m' c').ownBlock (rs1 ++ (restK xr xc xg k j).map sqR) (l1 ++ (restK xr xc xg k j).map sqC) := (HXt.out.below ((Below.refl _ _).alloc (Nat.le_refl _) _)).grown hgrow (fun k hk b hb => HXt.out.2.2.1 k hk b hb)
                have t6 := t5.snoc (C := wr.heap.size) (x := ((A : Int), (D : Int), 1, 1, none, 0, 0)) (y := ((A : Int), (D : Int), 1, 1, [])) ⟨rfl, rfl, rfl, rfl, World.ownsRow_nil _ _ _ _⟩ (fun b hb => by simp [rwT, Value.ownBlock] at hb) (fun k hk b hb => HXt.out.blockLt k hk b hb) (fun b hb => by simp [rwT, Value.ownBlock] at hb)
                have B8 : Below w1.heap.size w1 w8 := ((HB.out).alloc (by omega) _).grown hgrow (by simp; omega) (fun k hk => (own_lt HO.out.row hk).1)
                have A8 := RowAt.grown (HAo.out.alloc _) hgrow HGS.out
                have hg5 : (Value.slice a5 (m' + 1) c5).ownBlock ≠ some S := by
                  rcases hat with e | e
                  · rw [e]; exact HGS.out
                  · rw [e]; simp; omega
                have hneG : (Value.slice a5 (m' + 1) c5).ownBlock ≠ some w2.heap.size := rowAt_ne R8 ho5.row (by decide)
                refine ⟨j + 1, D + 1, a5, c5, m' + 1, by omega, by have := HD.out; omega, by go_num, ?_, R8.setCell 2 (.slice a5 (m' + 1) c5), ?_, ?_, A8.other ⟨w2.heap.size, 2, none⟩ (.slice a5 (m' + 1) c5) (by show S ≠ w2.heap.size; omega), hg5, B8.setCell (p := ⟨w2.heap.size, 2, none⟩) s2 (.slice a5 (m' + 1) c5), by simp [World.setCell]; omega⟩
                · have e9 := HM'.out
                  rw [restK_put xr xc xg k j (by omega), List.length_append]
                  simp only [List.length_cons, List.length_nil]
                  omega
                · rw [eR]
                  exact own_set ho5 _ _ hneG
                · rw [eR, eC]
                  have t7 := t6.anew ho5
                  exact ⟨t7.1, fun q hq => by
                    obtain ⟨h0, h1, h2, h3, h4⟩ := t7.2.1 q hq
                    exact ⟨h0, h1, h2, h3, own_set h4 _ _ (rowAt_ne R8 h4 (by decide))⟩, t7.2.2⟩
              case measure => simp [intOf]; omega
          · have e : j = xg := by omega
            subst e
            clear hR' hO' hX' hA' hg' hb' hm' hml hD
            have hDl : ¬ (D : Int) < xc + j := by have := HD.out; omega
            go_wp2_with fail
            go_roundw
            case rel =>
              refine ⟨k + 1, A + 1, a', c', m', by omega, by have := HA.out; omega, by go_num, ?_, HRo.out, ?_, ?_, HAo.out, HGS.out, HB.out, hs'⟩
              · rw [← restK_row]; exact HM'.out
              · rw [← restK_row]; exact HO.out
              · rw [← restK_row]; exact HXt.out
            case measure => simp [intOf]; omega
      · have e : k = xd := by omega
        subst e
        have hAl : ¬ (A : Int) < xr + k := by omega
        rw [restK_end] at HO HXt
        have k2 : wr.cell? ⟨w2.heap.size, 2, none⟩ = some (.slice a' m' c') := hR'.cell 2
        have zG := hR'.lt
        clear hR' hO' hX' hA' hg' hb' hm' hml hA
        go_upto_region 16 with (go_at_call 30; refine (l2Sort_any a' m' c' (rs1 ++ (restL xr xc k xg).map sqR) _ HO.out.rws (by omega)).mono ?_; rintro e w3 ⟨⟨a3, c3, rfl, ho3⟩, hb3⟩; have R3 := HRo.out.below hb3 zG; have q2 : w3.cell? ⟨w2.heap.size, 2, none⟩ = some (.slice a' m' c') := R3.cell 2; have q3 := R3.frozen 2)
        have sz3 := hb3.size
        have R4 : RowAt (w3.setCell ⟨w2.heap.size, 2, none⟩ (.slice a3 m' c3)) w2.heap.size #[.int .i64 R, .int .i64 C, .slice a3 m' c3] 28 := R3.setCell 2 (.slice a3 m' c3)
        have B4 : Below w1.heap.size w1 (w3.setCell ⟨w2.heap.size, 2, none⟩ (.slice a3 m' c3)) := (HB.out.trans (hb3.mono (by omega))).setCell (p := ⟨w2.heap.size, 2, none⟩) s2 _
        have O4 : OwnR (w3.setCell ⟨w2.heap.size, 2, none⟩ (.slice a3 m' c3)) w1.heap.size (.slice a3 m' c3) (sortR (rs1 ++ (restL xr xc k xg).map sqR)) := own_set (own_less ho3 (by omega)) _ _ (rowAt_ne R3 ho3.row (by decide))
        have T4 : TxtOwn (w3.setCell ⟨w2.heap.size, 2, none⟩ (.slice a3 m' c3)) w1.heap.size (Value.slice a3 m' c3).ownBlock (sortR (rs1 ++ (restL xr xc k xg).map sqR)) (sortC (l1 ++ (restL xr xc k xg).map sqC)) := by
          have t7 := (HXt.out.sort).below hb3
          have t8 : TxtOwn (w3.setCell ⟨w2.heap.size, 2, none⟩ (.slice a3 m' c3)) w1.heap.size (Value.slice a' m' c').ownBlock (sortR (rs1 ++ (restL xr xc k xg).map sqR)) (sortC (l1 ++ (restL xr xc k xg).map sqC)) := ⟨t7.1, fun q hq => by
            obtain ⟨h0, h1, h2, h3, h4⟩ := t7.2.1 q hq
            exact ⟨h0, h1, h2, h3, own_set h4 _ _ (rowAt_ne R3 h4 (by decide))⟩, t7.2.2⟩
          exact t8.anew O4
        have HEL : Hid (sortC (l1 ++ (restL xr xc k xg).map sqC) = splitL l p) := by
          show sortC (l1 ++ (restL xr xc k xg).map sqC) = sortC (splitM l p)
          unfold splitM
          rw [← HLS.out, Int.toNat_natCast, HXr.out]
          simp only [Int.toNat_natCast]
        rw [HEL.out] at T4
        have HML : Hid (m' = (splitL l p).length) := by
          show m' = (splitL l p).length
          have e1 := O4.len
          have e2 := T4.1
          omega
        clear q2 q3 R3 y0 y1 y2 k2 ho3
        generalize (w3.setCell ⟨w2.heap.size, 2, none⟩ (.slice a3 m' c3)) = w9 at R4 B4 O4 T4 ⊢
        have HO4 : Hid (OwnR w9 w1.heap.size (.slice a3 m' c3) (sortR (rs1 ++ (restL xr xc k xg).map sqR))) := O4
        have HT4 : Hid (TxtOwn w9 w1.heap.size (Value.slice a3 m' c3).ownBlock (sortR (rs1 ++ (restL xr xc k xg).map sqR)) (splitL l p)) := T4
        have HB4 : Hid (Below w1.heap.size w1 w9) := B4
        have k0 : w9.cell? ⟨w2.heap.size, 0, none⟩ = some (.int .i64 R) := R4.cell 0
        have k1 : w9.cell? ⟨w2.heap.size, 1, none⟩ = some (.int .i64 C) := R4.cell 1
        have k2 : w9.cell? ⟨w2.heap.size, 2, none⟩ = some (.slice a3 m' c3) := R4.cell 2
        have HG4 : Hid (RowAt w9 (w.heap.size + 1) #[.int .i64 0, .int .i64 0, .slice none 0 0] 28) := HG2.out.below B4 (by omega)
        clear O4 T4 B4 R4
        go_wp2_with (refine wpList_store_row rfl 28 (.tmp 4) (.tmp 100) rfl (w.heap.size + 1) #[.int .i64 R, .int .i64 C, .slice a3 m' c3] rfl rfl 28 _ HG4.out tab_info rfl (cells3_one _ _ _ _ _) ?_)
        refine bodyPost_ret (v := .tuple #[.agg #[.int .i64 R, .int .i64 C, .slice a3 m' c3], .bool true]) ?_ rfl ⟨.inr ⟨HYB.out, a3, c3, sortR (rs1 ++ (restL xr xc k xg).map sqR), by rw [← HML.out], ?_⟩, below_row ((HB0.out.trans (hb1.mono s0)).trans (HB4.out.mono (by omega))) (by omega) _⟩
        · rw [results_cell_tmp rfl]
          simp [asAddr, Result.andThen, run_tabOf (RowAt.setRow HG4.out #[.int .i64 R, .int .i64 C, .slice a3 m' c3])]
        · rw [← HML.out]
          exact OwnT.less (B' := w1.heap.size) ⟨own_row HO4.out _ _ (fun e => by have := (own_lt HO4.out.row e).1; omega), HT4.out.rowLow _ _ (by omega)⟩ (by omega)
end Go.Proofs.Yteghidjbcpmfbaa
namespace Go.Proofs.Yteghidjbcpmfbaa
open Go.RowKit

def rcEq (a b c d a' b' c' d' : Int) : Bool := decide (a = a' ∧ b = b' ∧ c = c' ∧ d = d')
theorem eqRct (a b c d a' b' c' d' : Int) (w : World) : (Op.equalIn 10000 63 (.agg #[.int .i64 a, .int .i64 b, .int .i64 c, .int .i64 d]) (.agg #[.int .i64 a', .int .i64 b', .int .i64 c', .int .i64 d'])).run Try.prog w = .ok (rcEq a b c d a' b' c' d') w := by
  have u3 := Try.underlying3
  have a3 := Try.isAgg3
  have z3 := Try.sizeOf3
  have hS : Try.prog.underlying 63 = some (.struct (Try.prog.fieldsOf 63)) := by kernel_rfl
  have hp : Try.prog.stoodInHeld 63 = false := by kernel_rfl
  rw [show (10000 : Nat) = 9999 + 1 from rfl, run_equalIn_agg w 9999 63 _ _ hS hp]
  simp only [Program.fieldsOf, Try.underlying63]
  go_simp
  by_cases h1 : a = a' <;> by_cases h2 : b = b' <;> by_cases h3 : c = c' <;> by_cases h4 : d = d' <;> simp [rcEq, h1, h2, h3, h4]
theorem eqRct_is {a b c d a' b' c' d' : Int} {x : Bool} (h : rcEq a b c d a' b' c' d' = x) (w : World) : (Op.equalIn 10000 63 (.agg #[.int .i64 a, .int .i64 b, .int .i64 c, .int .i64 d]) (.agg #[.int .i64 a', .int .i64 b', .int .i64 c', .int .i64 d'])).run Try.prog w = .ok x w := h ▸ eqRct a b c d a' b' c' d' w
theorem noGuardR : Try.prog.eqGuardType Try.prog.depth 63 = false := by kernel_rfl
theorem rec_info : (Try.prog.info? 63).map (·.size) = some 4 := by kernel_rfl
end Go.Proofs.Yteghidjbcpmfbaa
namespace Go.Proofs.Yteghidjbcpmfbaa
open Go.RowKit

set_option maxRecDepth 100000 in
set_option maxHeartbeats 8000000 in
theorem implTableSplit_any (R C t' : Int) (a : Option Addr) (n cap : Nat) (l : List Cl) (w : World) (h : Tab w a n cap l) :
    Calls Try.prog 25 #[.agg #[.int .i64 R, .int .i64 C, .slice a n cap], .int .i64 t'] w fun z w' => TabRes w.heap.size (splitB R C l t') R C (splitL l t') z w' ∧ Below w.heap.size w w' := by
  have H : Hid (Tab w a n cap l) := h
  clear h
  obtain ⟨ok, HX⟩ : ∃ x, Hid (okB R C l = x) := ⟨_, rfl⟩
  go_enter Try.func25, Try.ntmps25
  go_upto_region 1 with fail
  have B0 : Below w.heap.size w ((w.alloc (.cells #[.int .i64 R, .int .i64 C, .slice a n cap] 28)).alloc (.cells #[.int .i64 0, .int .i64 0, .slice none 0 0] 28)) := ((Below.refl _ _).alloc (Nat.le_refl _) _).alloc (by simp) _
  have G0 : RowAt ((w.alloc (.cells #[.int .i64 R, .int .i64 C, .slice a n cap] 28)).alloc (.cells #[.int .i64 0, .int .i64 0, .slice none 0 0] 28)) w.heap.size #[.int .i64 R, .int .i64 C, .slice a n cap] 28 := (rowAt_new w _ _).alloc _
  have G1 : RowAt ((w.alloc (.cells #[.int .i64 R, .int .i64 C, .slice a n cap] 28)).alloc (.cells #[.int .i64 0, .int .i64 0, .slice none 0 0] 28)) (w.heap.size + 1) #[.int .i64 0, .int .i64 0, .slice none 0 0] 28 := by
    have := rowAt_new (w.alloc (.cells #[.int .i64 R, .int .i64 C, .slice a n cap] 28)) #[.int .i64 0, .int .i64 0, .slice none 0 0] 28
    simpa using this
  have HT : Hid (Tab ((w.alloc (.cells #[.int .i64 R, .int .i64 C, .slice a n cap] 28)).alloc (.cells #[.int .i64 0, .int .i64 0, .slice none 0 0] 28)) a n cap l) := H.out.below B0
  generalize ((w.alloc (.cells #[.int .i64 R, .int .i64 C, .slice a n cap] 28)).alloc (.cells #[.int .i64 0, .int .i64 0, .slice none 0 0] 28)) = v at B0 G0 G1 HT ⊢
  have k0 : v.cell? ⟨w.heap.size, 0, none⟩ = some (.int .i64 R) := G0.cell 0
  have k1 : v.cell? ⟨w.heap.size, 1, none⟩ = some (.int .i64 C) := G0.cell 1
  have k2 : v.cell? ⟨w.heap.size, 2, none⟩ = some (.slice a n cap) := G0.cell 2
  have z0 := G0.lt
  have z1 := G1.lt
  have s0 := B0.size
  have HG0 : Hid (RowAt v w.heap.size #[.int .i64 R, .int .i64 C, .slice a n cap] 28) := G0
  have HG1 : Hid (RowAt v (w.heap.size + 1) #[.int .i64 0, .int .i64 0, .slice none 0 0] 28) := G1
  have HB0 : Hid (Below w.heap.size w v) := B0
  clear G0 G1 B0
  cases ok
  · go_upto_region 2 with (first | (go_at_call 32; refine (gridOf_is HX.out HT.out).mono ?_; rintro e w1 ⟨hres, hb1⟩; rcases hres.symm with ⟨hno, -⟩ | ⟨-, rfl⟩; exact absurd hno (by simp)) | (rw [← grid_zero]; refine wpList_store_row rfl 51 (.tmp 6) (.tmp 13) rfl w1.heap.size (gridA 0 0 0 (fun _ => 0) (fun _ => sl0)) rfl rfl 51 _ (gridAt_new _ _ _ _ _ _) (grid_infoA _ _ _ _ _) (by rw [gridA_size]) (gridA_one _ _ _ _ _) ?_))
    have s1 := hb1.size
    have B2 : Below v.heap.size v ((w1.alloc (.cells (gridA 0 0 0 (fun _ => 0) (fun _ => sl0)) 51)).setRow w1.heap.size (gridA 0 0 0 (fun _ => 0) (fun _ => sl0))) := below_row (hb1.alloc s1 _) s1 _
    generalize ((w1.alloc (.cells (gridA 0 0 0 (fun _ => 0) (fun _ => sl0)) 51)).setRow w1.heap.size (gridA 0 0 0 (fun _ => 0) (fun _ => sl0))) = v2 at B2 ⊢
    have HG2 : Hid (RowAt v2 (w.heap.size + 1) #[.int .i64 0, .int .i64 0, .slice none 0 0] 28) := HG1.out.below B2 z1
    have HNB : Hid (splitB R C l t' = false) := by
      show splitB R C l t' = false
      simp only [splitB, HX.out, Bool.false_and]
    clear k0 k1 k2
    go_wp2_with ((refine wpList_store_row rfl 28 (.tmp 4) (.tmp 28) rfl (w.heap.size + 1) #[.int .i64 0, .int .i64 0, .slice none 0 0] rfl rfl 28 _ HG2.out tab_info rfl (cells3_one _ _ _ _ _) ?_))
    refine bodyPost_ret (v := .tuple #[.agg #[.int .i64 0, .int .i64 0, .slice none 0 0], .bool false]) ?_ rfl ⟨.inl ⟨HNB.out, rfl⟩, below_row (HB0.out.trans (B2.mono s0)) (by omega) _⟩
    rw [results_cell_tmp rfl]
    simp [asAddr, Result.andThen, run_tabOf (RowAt.setRow HG2.out #[.int .i64 0, .int .i64 0, .slice none 0 0])]

  · obtain ⟨hR, hC, hst, -⟩ := gridP_of_okB HX.out
    obtain ⟨R, rfl⟩ : ∃ R' : Nat, R = R' := ⟨R.toNat, by omega⟩
    obtain ⟨C, rfl⟩ : ∃ C' : Nat, C = C' := ⟨C.toNat, by omega⟩
    have hn25 : l.length ≤ 25 := step_le (l := l) (K := l.length) (R := R) (C := C) (by omega) (by omega) hst
    have HST : Hid (∀ k, k < l.length → (l.getD k cl0).2.2.2.2.length ≤ 24) := fun k hk => by
      have := (stepB_of (hst k hk)).2.2
      simp only [textB, Bool.and_eq_true, decide_eq_true_eq] at this
      exact this.1
    clear hst
    go_upto_region 2 with (first | (go_at_call 32; refine (gridOf_is HX.out HT.out).mono ?_; rintro e w1 ⟨(⟨hno, -⟩ | ⟨-, t, rfl, ht1⟩), hb1⟩; exact absurd hno (by simp)) | (rw [← grid_zero]; refine wpList_store_row rfl 51 (.tmp 6) (.tmp 13) rfl w1.heap.size (gridA R C l.length (numF l l.length) t) rfl rfl 51 _ (gridAt_new _ _ _ _ _ _) (grid_infoA _ _ _ _ _) (by rw [gridA_size, gridA_size]) (gridA_one _ _ _ _ _) ?_))
    have s1 := hb1.size
    have B2 : Below v.heap.size v ((w1.alloc (.cells (gridA 0 0 0 (fun _ => 0) (fun _ => sl0)) 51)).setRow w1.heap.size (gridA R C l.length (numF l l.length) t)) := below_row (hb1.alloc s1 _) s1 _
    have B3 : Below w1.heap.size w1 ((w1.alloc (.cells (gridA 0 0 0 (fun _ => 0) (fun _ => sl0)) 51)).setRow w1.heap.size (gridA R C l.length (numF l l.length) t)) := below_row ((Below.refl _ _).alloc (Nat.le_refl _) _) (Nat.le_refl _) _
    have HG : Hid (GridAt ((w1.alloc (.cells (gridA 0 0 0 (fun _ => 0) (fun _ => sl0)) 51)).setRow w1.heap.size (gridA R C l.length (numF l l.length) t)) w1.heap.size R C l.length (numF l l.length) t) := RowAt.setRow (gridAt_new _ _ _ _ _ _) _
    generalize ((w1.alloc (.cells (gridA 0 0 0 (fun _ => 0) (fun _ => sl0)) 51)).setRow w1.heap.size (gridA R C l.length (numF l l.length) t)) = v2 at B2 B3 HG ⊢
    have HTx : Hid (∀ i, i < l.length → Txt v2 (t (i + 1)).1 (t (i + 1)).2.1 (t (i + 1)).2.2 (l.getD i cl0).2.2.2.2) := fun i hi => (ht1 i hi).below B3
    have HG2 : Hid (RowAt v2 (w.heap.size + 1) #[.int .i64 0, .int .i64 0, .slice none 0 0] 28) := HG1.out.below B2 z1
    have s2 := B2.size
    have q2 : v2.cell? ⟨w.heap.size, 2, none⟩ = some (.slice a n cap) := (HG0.out.below B2 z0).cell 2
    clear k0 k1 k2 ht1 hb1 B3
    obtain ⟨N, HN⟩ : ∃ N, Hid (l.length = N) := ⟨_, rfl⟩
    obtain ⟨f, HF⟩ : ∃ f, Hid (numF l l.length = f) := ⟨_, rfl⟩
    rw [HF.out] at HG
    rw [HN.out] at HG hn25
    have HNl : Hid (n = l.length) := H.out.1
    have hncap := H.out.2.1
    have hcapm := H.out.2.2.1
    unfold maxLen at hcapm
    by_cases ht0 : t' < 0
    · have HNB : Hid (splitB R C l t' = false) := by
        show splitB R C l t' = false
        simp only [splitB, Bool.and_eq_false_iff, decide_eq_false_iff_not]
        omega
      go_wp2_with (refine wpList_store_row rfl 28 (.tmp 4) (.tmp 28) rfl (w.heap.size + 1) #[.int .i64 0, .int .i64 0, .slice none 0 0] rfl rfl 28 _ HG2.out tab_info rfl (cells3_one _ _ _ _ _) ?_)
      refine bodyPost_ret (v := .tuple #[.agg #[.int .i64 0, .int .i64 0, .slice none 0 0], .bool false]) ?_ rfl ⟨.inl ⟨HNB.out, rfl⟩, below_row (HB0.out.trans (B2.mono s0)) (by omega) _⟩
      rw [results_cell_tmp rfl]
      simp [asAddr, Result.andThen, run_tabOf (RowAt.setRow HG2.out #[.int .i64 0, .int .i64 0, .slice none 0 0])]
    by_cases ht1 : (n : Int) ≤ t'
    · have HNB : Hid (splitB R C l t' = false) := by
        show splitB R C l t' = false
        have := HNl.out
        simp only [splitB, Bool.and_eq_false_iff, decide_eq_false_iff_not]
        omega
      go_wp2_with (refine wpList_store_row rfl 28 (.tmp 4) (.tmp 28) rfl (w.heap.size + 1) #[.int .i64 0, .int .i64 0, .slice none 0 0] rfl rfl 28 _ HG2.out tab_info rfl (cells3_one _ _ _ _ _) ?_)
      refine bodyPost_ret (v := .tuple #[.agg #[.int .i64 0, .int .i64 0, .slice none 0 0], .bool false]) ?_ rfl ⟨.inl ⟨HNB.out, rfl⟩, below_row (HB0.out.trans (B2.mono s0)) (by omega) _⟩
      rw [results_cell_tmp rfl]
      simp [asAddr, Result.andThen, run_tabOf (RowAt.setRow HG2.out #[.int .i64 0, .int .i64 0, .slice none 0 0])]
    obtain ⟨p, rfl⟩ : ∃ p : Nat, t' = p := ⟨t'.toNat, by omega⟩
    have hpn : p < n := by omega
    have hpl : p < l.length := by have := HNl.out; omega
    have hpN : p < N := by have := HN.out; omega
    have bp0 : (0 : Int) ≤ (p : Int) := by omega
    have bp1 : (p : Int) < (n : Int) := by omega
    rcases (HT.out.below B2).2.2.2 with e | ⟨b, off, rfl, hbv, hcl⟩
    · rw [e] at hpl
      exact absurd hpl (by simp)
    obtain ⟨x0, x1, x2, x3, ta, tn, tc, x4, -⟩ := hcl p hpl
    obtain ⟨xr, xc, xd, xg, hx, u1, u2, u3, u4⟩ := cell_nat HX.out p hpl
    obtain ⟨tx, htx⟩ : ∃ tx, (l.getD p cl0).2.2.2.2 = tx := ⟨_, rfl⟩
    rw [htx] at hx
    rw [hx] at x0 x1 x2 x3
    simp only at x0 x1 x2 x3
    have HXr : Hid (l.getD p cl0 = ((xr : Int), (xc : Int), (xd : Int), (xg : Int), tx)) := hx
    have HB2 : Hid (Below v.heap.size v v2) := B2
    clear hx htx hcl B2
    go_upto_region 5 with (go_at_call 51; refine (rectOf_any _ _ _ _ _ _ _ _).mono ?_; rintro e w3 ⟨rfl, hb3⟩)
    have s3 := hb3.size
    have B4 : Below v2.heap.size v2 ((w3.alloc (.cells #[.int .i64 xr, .int .i64 xc, .int .i64 xd, .int .i64 xg] 63)).alloc (.cells #[.int .i64 xr, .int .i64 xc, .int .i64 1, .int .i64 1] 63)) := (hb3.alloc s3 _).alloc (by simp; omega) _
    have RA : RowAt ((w3.alloc (.cells #[.int .i64 xr, .int .i64 xc, .int .i64 xd, .int .i64 xg] 63)).alloc (.cells #[.int .i64 xr, .int .i64 xc, .int .i64 1, .int .i64 1] 63)) w3.heap.size #[.int .i64 xr, .int .i64 xc, .int .i64 xd, .int .i64 xg] 63 := (rowAt_new w3 _ _).alloc _
    have RB : RowAt ((w3.alloc (.cells #[.int .i64 xr, .int .i64 xc, .int .i64 xd, .int .i64 xg] 63)).alloc (.cells #[.int .i64 xr, .int .i64 xc, .int .i64 1, .int .i64 1] 63)) (w3.heap.size + 1) #[.int .i64 xr, .int .i64 xc, .int .i64 1, .int .i64 1] 63 := by
      have := rowAt_new (w3.alloc (.cells #[.int .i64 xr, .int .i64 xc, .int .i64 xd, .int .i64 xg] 63)) #[.int .i64 xr, .int .i64 xc, .int .i64 1, .int .i64 1] 63
      simpa using this
    go_upto_region 6 with fail
    clear x0 x1 x2 x3 x4 q2
    generalize ((w3.alloc (.cells #[.int .i64 xr, .int .i64 xc, .int .i64 xd, .int .i64 xg] 63)).alloc (.cells #[.int .i64 xr, .int .i64 xc, .int .i64 1, .int .i64 1] 63)) = v4 at B4 RA RB ⊢
    have s4 := B4.size
    have HG4 : Hid (GridAt v4 w1.heap.size R C N f t) := HG.out.below B4 HG.out.lt
    have HZ4 : Hid (RowAt v4 (w.heap.size + 1) #[.int .i64 0, .int .i64 0, .slice none 0 0] 28) := HG2.out.below B4 (by omega)
    have HB4 : Hid (Below v2.heap.size v2 v4) := B4
    have HRA : Hid (RowAt v4 w3.heap.size #[.int .i64 xr, .int .i64 xc, .int .i64 xd, .int .i64 xg] 63) := RA
    have HRB : Hid (RowAt v4 (w3.heap.size + 1) #[.int .i64 xr, .int .i64 xc, .int .i64 1, .int .i64 1] 63) := RB
    have hng := noGuardR
    have hs3 : v2.heap.size ≤ w3.heap.size := by simpa using s3
    clear RA RB B4 hb3
    obtain ⟨eq, HE⟩ : ∃ x, Hid (rcEq xr xc xd xg xr xc 1 1 = x) := ⟨_, rfl⟩
    cases eq
    case true =>
      have hq := fun w => eqRct_is HE.out w
      have hdg : xd = 1 ∧ xg = 1 := by
        have := of_decide_eq_true HE.out
        omega
      have HNB : Hid (splitB R C l p = false) := by
        show splitB R C l p = false
        rw [splitB_cell HXr.out (by omega) (by omega) HX.out hpl rfl, hdg.1, hdg.2]
        rfl
      clear hdg
      go_wp2_with (first | (refine wpList_load_row rfl 63 (.tmp 8) rfl w3.heap.size rfl 63 #[.int .i64 xr, .int .i64 xc, .int .i64 xd, .int .i64 xg] (0, 0) _ HRA.out Try.underlying63 rfl rec_info ?_) | (refine wpList_load_row rfl 63 (.tmp 9) rfl (w3.heap.size + 1) rfl 63 #[.int .i64 xr, .int .i64 xc, .int .i64 1, .int .i64 1] (0, 0) _ HRB.out Try.underlying63 rfl rec_info ?_) | (refine wpList_store_row rfl 28 (.tmp 4) (.tmp 43) rfl (w.heap.size + 1) #[.int .i64 0, .int .i64 0, .slice none 0 0] rfl rfl 28 _ HZ4.out tab_info rfl (cells3_one _ _ _ _ _) ?_))
      refine bodyPost_ret (v := .tuple #[.agg #[.int .i64 0, .int .i64 0, .slice none 0 0], .bool false]) ?_ rfl ⟨.inl ⟨HNB.out, rfl⟩, below_row ((HB0.out.trans (HB2.out.mono s0)).trans (HB4.out.mono (by omega))) (by omega) _⟩
      rw [results_cell_tmp rfl]
      simp [asAddr, Result.andThen, run_tabOf (RowAt.setRow HZ4.out #[.int .i64 0, .int .i64 0, .slice none 0 0])]
    have hq := fun w => eqRct_is HE.out w
    have HYB : Hid (splitB R C l p = true) := by
      show splitB R C l p = true
      have hdg : ¬ (xd = 1 ∧ xg = 1) := fun e => by
        have := of_decide_eq_false HE.out
        omega
      rw [splitB_cell HXr.out (by omega) (by omega) HX.out hpl rfl]
      refine decide_eq_true ?_
      rw [← Int.natCast_mul]
      have : 2 ≤ xd * xg := by
        rcases (show 2 ≤ xd ∨ 2 ≤ xg by omega) with h | h
        · exact Nat.mul_le_mul h u2
        · exact Nat.le_trans (by omega) (Nat.mul_le_mul u1 h)
      omega
    go_upto_region 8 with (first | (refine wpList_load_row rfl 63 (.tmp 8) rfl w3.heap.size rfl 63 #[.int .i64 xr, .int .i64 xc, .int .i64 xd, .int .i64 xg] (0, 0) _ HRA.out Try.underlying63 rfl rec_info ?_) | (refine wpList_load_row rfl 63 (.tmp 9) rfl (w3.heap.size + 1) rfl 63 #[.int .i64 xr, .int .i64 xc, .int .i64 1, .int .i64 1] (0, 0) _ HRB.out Try.underlying63 rfl rec_info ?_))
    clear hq hng
    refine wp_region_noPanic ?_
    refine wp_region_held_drew (S := fun w' => GridAt w' w1.heap.size R C N f t ∧ RowAt w' w3.heap.size #[.int .i64 xr, .int .i64 xc, .int .i64 xd, .int .i64 xg] 63 ∧ RowAt w' (w3.heap.size + 1) #[.int .i64 xr, .int .i64 xc, .int .i64 1, .int .i64 1] 63) (by kernel_rfl) ⟨HG4.out, HRA.out, HRB.out⟩ (fun hHeld => ?_)
    refine take_at 0 44 (.agg (gridA R C N f t)) rfl rfl (by kernel_rfl) (by kernel_rfl) (by kernel_rfl) (fun _ _ _ h => h) (yieldsIf_load_row (by kernel_rfl) 51 (.tmp 6) rfl w1.heap.size rfl 51 (gridA R C N f t) (0, 0) _ (fun w' h => h.1) Try.underlying51 rfl (grid_infoA _ _ _ _ _)) hHeld ?_
    (try simp only [Act.put, List.setIfInBounds_toArray, List.set_cons_zero, List.set_cons_succ])
    refine take_at 1 45 (.agg #[.int .i64 xr, .int .i64 xc, .int .i64 xd, .int .i64 xg]) rfl rfl (by kernel_rfl) (by kernel_rfl) (by kernel_rfl) (fun _ _ _ h => h) (yieldsIf_load_row (by kernel_rfl) 63 (.tmp 8) rfl w3.heap.size rfl 63 #[.int .i64 xr, .int .i64 xc, .int .i64 xd, .int .i64 xg] (0, 0) _ (fun w' h => h.2.1) Try.underlying63 rfl rec_info) hHeld ?_
    (try simp only [Act.put, List.setIfInBounds_toArray, List.set_cons_zero, List.set_cons_succ])
    refine take_at 3 47 (.agg #[.int .i64 xr, .int .i64 xc, .int .i64 1, .int .i64 1]) rfl rfl (by kernel_rfl) (by kernel_rfl) (by kernel_rfl) (fun _ _ _ h => h) (yieldsIf_load_row (by kernel_rfl) 63 (.tmp 9) rfl (w3.heap.size + 1) rfl 63 #[.int .i64 xr, .int .i64 xc, .int .i64 1, .int .i64 1] (0, 0) _ (fun w' h => h.2.2) Try.underlying63 rfl rec_info) hHeld ?_
    (try simp only [Act.put, List.setIfInBounds_toArray, List.set_cons_zero, List.set_cons_succ])
    refine take_at 4 48 (.int .i64 p) rfl rfl (by kernel_rfl) (by kernel_rfl) (by kernel_rfl) (fun _ _ _ h => h) (Or.inl ⟨by kernel_rfl, fun w' hS' => by go_simp⟩) hHeld ?_
    (try simp only [Act.put, List.setIfInBounds_toArray, List.set_cons_zero, List.set_cons_succ])
    refine take_at 5 49 (.int .i64 ((p + 1 : Nat) : Int)) rfl rfl (by kernel_rfl) (by kernel_rfl) (by kernel_rfl) (fun _ _ _ h => h) (Or.inl ⟨by kernel_rfl, fun w' hS' => by go_simp; rw [IntKind.wrap_i64]; omega⟩) hHeld ?_
    (try simp only [Act.put, List.setIfInBounds_toArray, List.set_cons_zero, List.set_cons_succ])
    obtain ⟨v5, hv5⟩ : ∃ x, v4.drew = x := ⟨_, rfl⟩
    have HB5 : Hid (Below v2.heap.size v2 v5) := by rw [← hv5]; exact HB4.out.drew
    have HZ5 : Hid (RowAt v5 (w.heap.size + 1) #[.int .i64 0, .int .i64 0, .slice none 0 0] 28) := by rw [← hv5]; exact HZ4.out
    rw [hv5] at hHeld ⊢
    have c1 := hHeld.1.lt
    have c2 := hHeld.2.1.lt
    have c3 := hHeld.2.2.lt
    clear hv5
    refine wpAnyH_ready (rs := [2]) (by kernel_rfl) (by simp) ?_
    refine AllReadyH.cons rfl (fun K hK => ?_) AllReadyH.nil
    go_simp
    go_at_call 50
    refine (give_any R C N f t xr xc xd xg 0 _ (by omega) (by omega)).mono ?_
    rintro e w6 ⟨rfl, hb6⟩
    go_wp2_with fail
    refine hK.out _ _ ⟨hHeld.1.below hb6 c1, hHeld.2.1.below hb6 c2, hHeld.2.2.below hb6 c3⟩ (fun hHeld => ?_)
    clear hK K
    (try simp only [Act.put, List.setIfInBounds_toArray, List.set_cons_zero, List.set_cons_succ])
    have s6 := hb6.size
    refine wpAnyH_ready (rs := [6]) (by kernel_rfl) (by simp) ?_
    refine AllReadyH.cons rfl (fun K hK => ?_) AllReadyH.nil
    go_simp
    go_at_call 50
    refine (give_any R C N (giveF f xr xc xd xg 0) t xr xc 1 1 (p + 1) _ (by omega) (by omega)).mono ?_
    rintro e w7 ⟨rfl, hb7⟩
    go_wp2_with fail
    refine hK.out _ _ ⟨hHeld.1.below hb7 (by omega), hHeld.2.1.below hb7 (by omega), hHeld.2.2.below hb7 (by omega)⟩ (fun hHeld => ?_)
    clear hK K
    (try simp only [Act.put, List.setIfInBounds_toArray, List.set_cons_zero, List.set_cons_succ])
    have s7 := hb7.size
    have HFE : Hid (giveF (giveF f xr xc xd xg 0) xr xc 1 1 (p + 1) = spF l p xr xc xd xg) := by
      show _ = _
      rw [← HF.out]
      rfl
    rw [HFE.out]
    have HFL : Hid (∀ s, spF l p xr xc xd xg s ≤ N) := fun s => by rw [← HN.out]; exact spF_le hpl s
    have HFU : Hid (∀ k, 1 ≤ k → k ≤ N → ∃ s, s < 25 ∧ spF l p xr xc xd xg s = k) := by
      show ∀ k, 1 ≤ k → k ≤ N → ∃ s, s < 25 ∧ spF l p xr xc xd xg s = k
      rw [← HN.out]
      exact sp_used HX.out hpl HXr.out
    refine wpAnyH_ready (rs := [7]) (by kernel_rfl) (by simp) ?_
    refine AllReadyH.cons rfl (fun K hK => ?_) AllReadyH.nil
    go_simp
    go_at_call 35
    refine (fillUp_any R C N (spF l p xr xc xd xg) t _ (by omega) (by omega) hn25 HFL.out HFU.out).mono ?_
    rintro e w8 ⟨⟨f2, t2, n2, rfl, hF2⟩, hb8⟩
    go_wp2_with fail
    refine hK.out _ _ ⟨hHeld.1.below hb8 (by omega), hHeld.2.1.below hb8 (by omega), hHeld.2.2.below hb8 (by omega)⟩ (fun hHeld => ?_)
    clear hK K
    (try simp only [Act.put, List.setIfInBounds_toArray, List.set_cons_zero, List.set_cons_succ])
    have s8 := hb8.size
    have hF3 : Filled C (spF l p xr xc xd xg) t l.length R 0 f2 t2 n2 := by rw [HN.out]; exact hF2
    have hFP := hF3.fillP
    have htl := tiles_split HX.out hpl HXr.out hFP
    have hrep : Rep R C f2 (splitL l p) := rep_sort htl
    have hlen2 : (splitL l p).length ≤ 25 := by
      show (sortC (splitM l p)).length ≤ 25
      rw [(sortC_perm _).length_eq]
      exact htl.few (by omega) (by omega)
    have hle : ∀ k, f2 k ≤ 25 := fun k => Nat.le_trans (hF2.2.2.1 k) hF2.2.1
    have ht : ∀ k, k < (splitL l p).length → Txt w8 (t2 (f2 (stR ((splitL l p).getD k cl0) * 5 + stC ((splitL l p).getD k cl0)))).1 (t2 (f2 (stR ((splitL l p).getD k cl0) * 5 + stC ((splitL l p).getD k cl0)))).2.1 (t2 (f2 (stR ((splitL l p).getD k cl0) * 5 + stC ((splitL l p).getD k cl0)))).2.2 ((splitL l p).getD k cl0).2.2.2.2 ∧ ((splitL l p).getD k cl0).2.2.2.2.length ≤ 1048576 := by
      intro k hk
      have hmem := (sortC_perm (splitM l p)).mem_iff.1 (getD_mem hk)
      obtain ⟨y, hy⟩ : ∃ y, (splitL l p).getD k cl0 = y := ⟨_, rfl⟩
      have hmem' : y ∈ splitM l p := by rw [← hy]; exact hmem
      rw [splitM_nat HXr.out] at hmem'
      rw [hy]
      clear hmem
      rcases List.mem_append.1 hmem' with hx | hx
      · obtain ⟨m, hm, e'⟩ := List.getElem_of_mem hx
        rw [← getD_get hm] at e'
        have hml : m < l.length := by simpa using hm
        have e2 := (sp_numC HX.out hpl HXr.out hFP m hml).start
        have e3 : y.2.2.2.2 = (l.getD m cl0).2.2.2.2 := by
          rw [← e', sp_cell hpl HXr.out]
          split
          · rename_i hmp
            rw [hmp, HXr.out]
          · rfl
        rw [e'] at e2
        have hmN : m + 1 ≤ N := by have := HN.out; omega
        rw [e3, e2, hF2.2.2.2.1 (m + 1) hmN]
        have hL := HST.out m hml
        exact ⟨((((HTx.out m hml).below HB5.out).below hb6).below hb7).below hb8, by omega⟩
      · obtain ⟨⟨a, b⟩, hab, e⟩ := List.mem_map.1 hx
        rw [← e]
        simp only [stR, stC, sqC, Int.toNat_natCast]
        have hin := restL_mem.1 hab
        have h0 := (sp_zero HX.out hpl HXr.out a b (by omega) (by omega)).2 hab
        have := (hF3.2.2.2.2.2.2.1 a b (by unfold vis; omega) h0).2
        rw [this]
        exact ⟨⟨rfl, Nat.le_refl _, Nat.zero_le _, .inl rfl⟩, by simp⟩
    refine wpAnyH_ready (rs := [8]) (by kernel_rfl) (by simp) ?_
    refine AllReadyH.cons rfl (fun K hK => ?_) AllReadyH.nil
    go_simp
    go_at_call 36
    refine (table_any R C n2 f2 t2 (splitL l p) _ (by omega) (by omega) hle hrep hlen2 ht).mono ?_
    rintro e w9 ⟨⟨a', c', rs, rfl, hO⟩, hb9⟩
    go_wp2_with fail
    refine hK.out _ _ ⟨hHeld.1.below hb9 (by omega), hHeld.2.1.below hb9 (by omega), hHeld.2.2.below hb9 (by omega)⟩ (fun hHeld => ?_)
    clear hK K
    (try simp only [Act.put, List.setIfInBounds_toArray, List.set_cons_zero, List.set_cons_succ])
    have s9 := hb9.size
    have HZ9 : Hid (RowAt w9 (w.heap.size + 1) #[.int .i64 0, .int .i64 0, .slice none 0 0] 28) := (((HZ5.out.below hb6 (by omega)).below hb7 (by omega)).below hb8 (by omega)).below hb9 (by omega)
    have HO : Hid (OwnT w9 w8.heap.size (.slice a' (splitL l p).length c') rs (splitL l p)) := hO
    obtain ⟨M, HM⟩ : ∃ M, Hid ((splitL l p).length = M) := ⟨_, rfl⟩
    rw [HM.out]
    rw [HM.out] at HO
    have bF : Below w.heap.size w w9 := (((((HB0.out.trans (HB2.out.mono s0)).trans (HB5.out.mono (by omega))).trans (hb6.mono (by omega))).trans (hb7.mono (by omega))).trans (hb8.mono (by omega))).trans (hb9.mono (by omega))
    have HBF : Hid (Below w.heap.size w w9) := bF
    clear hO hrep ht hlen2 hle hF2 hF3 hFP htl bF
    refine wpAnyH_ready (rs := [9]) (by kernel_rfl) (by simp) ?_
    refine AllReadyH.cons rfl (fun K hK => ?_) AllReadyH.nil
    rw [if_pos (by kernel_rfl)]
    refine wp_store_row 28 (.tmp 4) (.tmp 52) rfl (w.heap.size + 1) #[.int .i64 R, .int .i64 C, .slice a' M c'] rfl rfl 28 _ HZ9.out tab_info rfl (cells3_one _ _ _ _ _) ?_
    have HZF : Hid (RowAt (w9.setRow (w.heap.size + 1) #[.int .i64 R, .int .i64 C, .slice a' M c']) (w.heap.size + 1) #[.int .i64 R, .int .i64 C, .slice a' M c'] 28) := HZ9.out.setRow _
    have HOF : Hid (OwnT (w9.setRow (w.heap.size + 1) #[.int .i64 R, .int .i64 C, .slice a' M c']) w8.heap.size (.slice a' M c') rs (splitL l p)) := ⟨own_row HO.out.1 _ _ (fun e => by have := (own_lt HO.out.1.row e).1; omega), HO.out.2.rowLow _ _ (by omega)⟩
    have HBG : Hid (Below w.heap.size w (w9.setRow (w.heap.size + 1) #[.int .i64 R, .int .i64 C, .slice a' M c'])) := below_row HBF.out (by omega) _
    refine hK.out _ _ ⟨RowAt.setRowOther hHeld.1 _ _ (by omega), RowAt.setRowOther hHeld.2.1 _ _ (by omega), RowAt.setRowOther hHeld.2.2 _ _ (by omega)⟩ (fun hHeld => ?_)
    clear hK K
    simp only [Act.put]
    generalize (w9.setRow (w.heap.size + 1) #[.int .i64 R, .int .i64 C, .slice a' M c']) = w10 at HZF HOF HBG hHeld ⊢
    refine take_at 10 5 (.bool true) rfl rfl (by kernel_rfl) (by kernel_rfl) (by kernel_rfl) (fun _ _ _ h => h) (Or.inl ⟨by kernel_rfl, fun w' hS' => by go_simp⟩) hHeld ?_
    (try simp only [Act.put, List.setIfInBounds_toArray])
    refine wpAnyH_done (by kernel_rfl) ?_ _
    refine NoPanic.normal ?_
    go_wp2_with fail
    refine bodyPost_ret (v := .tuple #[.agg #[.int .i64 R, .int .i64 C, .slice a' M c'], .bool true]) ?_ rfl ⟨.inr ⟨HYB.out, a', c', rs, ?_, ?_⟩, HBG.out⟩
    · rw [results_cell_tmp rfl]
      simp [asAddr, Result.andThen, run_tabOf HZF.out]
    · rw [HM.out]
    · rw [HM.out]
      exact OwnT.less HOF.out (by omega)
end Go.Proofs.Yteghidjbcpmfbaa
namespace Go.Proofs.Yteghidjbcpmfbaa
open Go.RowKit

set_option maxRecDepth 100000 in
set_option maxHeartbeats 8000000 in
theorem lawTableSplit_walk (R C : Int) (a : Option Addr) (n cap : Nat) (l : List Cl) (t' : Int) (w : World) (h : Tab w a n cap l) (_ : (Lit.int .i64 t').wf = true) :
    Calls Try.prog 8 #[.agg #[.int .i64 R, .int .i64 C, .slice a n cap], .int .i64 t'] w fun e w' => e = .returned (.bool true) ∧ Below w.heap.size w w' := by
  have H : Hid (Tab w a n cap l) := h
  clear h
  have hsm := @small_split R C l t'
  go_enter Try.func8, Try.ntmps8
  go_upto_region 1 with fail
  have B0 : Below w.heap.size w (w.alloc (.cells #[.int .i64 R, .int .i64 C, .slice a n cap] 24)) := (Below.refl _ _).alloc (Nat.le_refl _) _
  have G2 : RowAt (w.alloc (.cells #[.int .i64 R, .int .i64 C, .slice a n cap] 24)) w.heap.size #[.int .i64 R, .int .i64 C, .slice a n cap] 24 := rowAt_new w _ _
  generalize (w.alloc (.cells #[.int .i64 R, .int .i64 C, .slice a n cap] 24)) = v0 at B0 G2 ⊢
  have k0 : v0.cell? ⟨w.heap.size, 0, none⟩ = some (.int .i64 R) := G2.cell 0
  have k1 : v0.cell? ⟨w.heap.size, 1, none⟩ = some (.int .i64 C) := G2.cell 1
  have k2 : v0.cell? ⟨w.heap.size, 2, none⟩ = some (.slice a n cap) := G2.cell 2
  have z0 := G2.lt
  have HG : Hid (RowAt v0 w.heap.size #[.int .i64 R, .int .i64 C, .slice a n cap] 24) := G2
  have T0 : Hid (Tab v0 a n cap l) := H.out.below B0
  clear G2
  go_wp2_with fail
  refine (szTable_any R C a n cap l _ T0.out).mono ?_
  rintro e w1 ⟨(rfl | ⟨hle, rfl⟩), hb1⟩
  · go_wp2_with fail
    go_ret
    exact ⟨rfl, B0.trans (hb1.mono B0.size)⟩
  have T1 : Hid (Tab w1 a n cap l) := T0.out.below hb1
  have s0 := B0.size
  have s1 := hb1.size
  have HB1 : Hid (Below w.heap.size w w1) := B0.trans (hb1.mono s0)
  have j0 := (hb1.cell (p := ⟨w.heap.size, 0, none⟩) z0).trans k0
  have j1 := (hb1.cell (p := ⟨w.heap.size, 1, none⟩) z0).trans k1
  have j2 := (hb1.cell (p := ⟨w.heap.size, 2, none⟩) z0).trans k2
  have HG1 : Hid (RowAt w1 w.heap.size #[.int .i64 R, .int .i64 C, .slice a n cap] 24) := HG.out.below hb1 z0
  have n0 : ¬ (1048576 - (l.length : Int) - (totT l : Int)) < 0 := by omega
  have z1 : w.heap.size < w1.heap.size := by omega
  clear k0 k1 k2 HG hb1 B0
  go_wp2_with fail
  refine (toTable_any R C a n cap l _ T1.out hle).mono ?_
  rintro e w2 ⟨⟨b2, r2, -, rfl, ho2⟩, hb2⟩
  have s2 := hb2.size
  go_wp2_with fail
  refine (specTableSplit_any R C t' _ _ _ l _ ho2.tab).mono ?_
  intro e w3 hr
  obtain ⟨⟨x1, y1, a1, n1, c1, l1, g1, rfl, hR1⟩, hb3⟩ := fRes_of hr
  clear hr
  have s3 := hb3.size
  have b13 : Below w1.heap.size w1 w3 := hb2.trans (hb3.mono s2)
  clear hb2 hb3 ho2 j0 j1 j2
  go_upto_region 6 with fail
  have W1 : RowAt (w3.alloc (.cells #[.int .i64 x1, .int .i64 y1, .slice a1 n1 c1] 28)) w3.heap.size #[.int .i64 x1, .int .i64 y1, .slice a1 n1 c1] 28 := rowAt_new _ _ _
  have T1' : Tab (w3.alloc (.cells #[.int .i64 x1, .int .i64 y1, .slice a1 n1 c1] 28)) a1 n1 c1 l1 := by
    obtain ⟨rs, ho⟩ := hR1.1
    exact ho.tab.below ((Below.refl _ _).alloc (Nat.le_refl _) _)
  have B3 : Below w1.heap.size w1 (w3.alloc (.cells #[.int .i64 x1, .int .i64 y1, .slice a1 n1 c1] 28)) := b13.alloc (by omega) _
  generalize (w3.alloc (.cells #[.int .i64 x1, .int .i64 y1, .slice a1 n1 c1] 28)) = v3 at W1 T1' B3 ⊢
  have zw := W1.lt
  have s4 := B3.size
  have z3 : w.heap.size < v3.heap.size := by omega
  have HG3 : Hid (RowAt v3 w.heap.size #[.int .i64 R, .int .i64 C, .slice a n cap] 24) := HG1.out.below B3 z1
  have T3 : Hid (Tab v3 a n cap l) := T1.out.below B3
  have HB3 : Hid (Below w.heap.size w v3) := HB1.out.trans (B3.mono (by omega))
  have HT1 : Hid (Tab v3 a1 n1 c1 l1) := T1'
  have HX1 : Hid (x1 = (if splitB R C l t' then R else 0) ∧ y1 = (if splitB R C l t' then C else 0) ∧ l1 = (if splitB R C l t' then splitL l t' else []) ∧ g1 = splitB R C l t') := hR1.2
  obtain ⟨hl1, hl2⟩ := fRes_small hR1 hsm
  have HW1 : Hid (RowAt v3 w3.heap.size #[.int .i64 x1, .int .i64 y1, .slice a1 n1 c1] 28) := W1
  clear hR1 W1 T1' B3 b13 HG1 T1 HB1
  have i0 : v3.cell? ⟨w.heap.size, 0, none⟩ = some (.int .i64 R) := (HG3.out).cell 0
  have i1 : v3.cell? ⟨w.heap.size, 1, none⟩ = some (.int .i64 C) := (HG3.out).cell 1
  have i2 : v3.cell? ⟨w.heap.size, 2, none⟩ = some (.slice a n cap) := (HG3.out).cell 2
  go_wp2_with fail
  refine (toTable_any R C a n cap l _ T3.out hle).mono ?_
  rintro e w4 ⟨⟨b4, r4, -, rfl, ho4⟩, hb4⟩
  clear i0 i1 i2
  have s5 := hb4.size
  go_upto_region 7 with fail
  have X4 : RowAt (w4.alloc (.cells #[.int .i64 R, .int .i64 C, .slice (some ⟨b4, 0, none⟩) n n] 28)) w4.heap.size #[.int .i64 R, .int .i64 C, .slice (some ⟨b4, 0, none⟩) n n] 28 := rowAt_new _ _ _
  have O4 : OwnT (w4.alloc (.cells #[.int .i64 R, .int .i64 C, .slice (some ⟨b4, 0, none⟩) n n] 28)) v3.heap.size (.slice (some ⟨b4, 0, none⟩) n n) r4 l := ho4.below ((Below.refl _ _).alloc (Nat.le_refl _) _)
  have B4 : Below v3.heap.size v3 (w4.alloc (.cells #[.int .i64 R, .int .i64 C, .slice (some ⟨b4, 0, none⟩) n n] 28)) := hb4.alloc s5 _
  generalize (w4.alloc (.cells #[.int .i64 R, .int .i64 C, .slice (some ⟨b4, 0, none⟩) n n] 28)) = v4 at X4 O4 B4 ⊢
  have zx := X4.lt
  have s6 := B4.size
  have HX4 : Hid (RowAt v4 w4.heap.size #[.int .i64 R, .int .i64 C, .slice (some ⟨b4, 0, none⟩) n n] 28) := X4
  have HO4 : Hid (OwnT v4 v3.heap.size (.slice (some ⟨b4, 0, none⟩) n n) r4 l) := O4
  have HB4 : Hid (Below v3.heap.size v3 v4) := B4
  clear X4 O4 B4 ho4 hb4
  have e0 : v4.cell? ⟨w4.heap.size, 0, none⟩ = some (.int .i64 R) := (HX4.out).cell 0
  have e1 : v4.cell? ⟨w4.heap.size, 1, none⟩ = some (.int .i64 C) := (HX4.out).cell 1
  have e2 : v4.cell? ⟨w4.heap.size, 2, none⟩ = some (.slice (some ⟨b4, 0, none⟩) n n) := (HX4.out).cell 2
  go_wp2_with fail
  refine (implTableSplit_any R C t' _ _ _ l _ HO4.out.tab).mono ?_
  intro e w5 hr
  obtain ⟨⟨x2, y2, a2, n2, c2, l2, g2, rfl, hR2⟩, hb5⟩ := fRes_of hr
  clear hr e0 e1 e2
  obtain rfl : x2 = x1 := hR2.2.1.trans HX1.out.1.symm
  obtain rfl : y2 = y1 := hR2.2.2.1.trans HX1.out.2.1.symm
  obtain rfl : l2 = l1 := hR2.2.2.2.1.trans HX1.out.2.2.1.symm
  obtain rfl : g2 = g1 := hR2.2.2.2.2.trans HX1.out.2.2.2.symm
  obtain ⟨rs2, ho2⟩ := hR2.1
  have nb : (g2 != g2) = false := by simp
  clear hR2
  have s7 := hb5.size
  go_upto_region 8 with fail
  have W5 : RowAt (w5.alloc (.cells #[.int .i64 x2, .int .i64 y2, .slice a2 n2 c2] 28)) w5.heap.size #[.int .i64 x2, .int .i64 y2, .slice a2 n2 c2] 28 := rowAt_new _ _ _
  have O5 : OwnT (w5.alloc (.cells #[.int .i64 x2, .int .i64 y2, .slice a2 n2 c2] 28)) v4.heap.size (.slice a2 n2 c2) rs2 l2 := ho2.below ((Below.refl _ _).alloc (Nat.le_refl _) _)
  have B5 : Below v4.heap.size v4 (w5.alloc (.cells #[.int .i64 x2, .int .i64 y2, .slice a2 n2 c2] 28)) := hb5.alloc s7 _
  generalize (w5.alloc (.cells #[.int .i64 x2, .int .i64 y2, .slice a2 n2 c2] 28)) = v5 at W5 O5 B5 ⊢
  have zg := W5.lt
  have s8 := B5.size
  have HG5 : Hid (RowAt v5 w5.heap.size #[.int .i64 x2, .int .i64 y2, .slice a2 n2 c2] 28) := W5
  have HO5 : Hid (OwnT v5 v4.heap.size (.slice a2 n2 c2) rs2 l2) := O5
  have HX5 : Hid (RowAt v5 w4.heap.size #[.int .i64 R, .int .i64 C, .slice (some ⟨b4, 0, none⟩) n n] 28) := HX4.out.below B5 zx
  have HP5 : Hid (OwnT v5 v3.heap.size (.slice (some ⟨b4, 0, none⟩) n n) r4 l) := HO4.out.below B5
  have HB5 : Hid (Below v3.heap.size v3 v5) := HB4.out.trans (B5.mono s6)
  clear W5 O5 B5 ho2 hb5
  have p0 : v5.cell? ⟨w5.heap.size, 0, none⟩ = some (.int .i64 x2) := (HG5.out).cell 0
  have p1 : v5.cell? ⟨w5.heap.size, 1, none⟩ = some (.int .i64 y2) := (HG5.out).cell 1
  have p2 : v5.cell? ⟨w5.heap.size, 2, none⟩ = some (.slice a2 n2 c2) := (HG5.out).cell 2
  have q0 : v5.cell? ⟨w3.heap.size, 0, none⟩ = some (.int .i64 x2) := (HW1.out.below HB5.out zw).cell 0
  have q1 : v5.cell? ⟨w3.heap.size, 1, none⟩ = some (.int .i64 y2) := (HW1.out.below HB5.out zw).cell 1
  have q2 : v5.cell? ⟨w3.heap.size, 2, none⟩ = some (.slice a1 n1 c1) := (HW1.out.below HB5.out zw).cell 2
  go_wp2_with fail
  refine (eqTable_same x2 y2 _ _ _ l2 _ _ _ _ HO5.out.tab (HT1.out.below HB5.out)).mono ?_
  rintro e w6 ⟨rfl, hb6⟩
  have s9 := hb6.size
  clear p0 p1 p2 q0 q1 q2
  have HB6 : Hid (Below v3.heap.size v3 w6) := HB5.out.trans (hb6.mono (by omega))
  have HG6 : Hid (RowAt w6 w5.heap.size #[.int .i64 x2, .int .i64 y2, .slice a2 n2 c2] 28) := HG5.out.below hb6 zg
  have HX6 : Hid (RowAt w6 w4.heap.size #[.int .i64 R, .int .i64 C, .slice (some ⟨b4, 0, none⟩) n n] 28) := HX5.out.below hb6 (by omega)
  have HO6 : Hid (OwnT w6 v4.heap.size (.slice a2 n2 c2) rs2 l2) := HO5.out.below hb6
  have HP6 : Hid (OwnT w6 v3.heap.size (.slice (some ⟨b4, 0, none⟩) n n) r4 l) := HP5.out.below hb6
  clear hb6
  have e0 : w6.cell? ⟨w4.heap.size, 0, none⟩ = some (.int .i64 R) := (HX6.out).cell 0
  have e1 : w6.cell? ⟨w4.heap.size, 1, none⟩ = some (.int .i64 C) := (HX6.out).cell 1
  have e2 : w6.cell? ⟨w4.heap.size, 2, none⟩ = some (.slice (some ⟨b4, 0, none⟩) n n) := (HX6.out).cell 2
  have i0 : w6.cell? ⟨w.heap.size, 0, none⟩ = some (.int .i64 R) := (HG3.out.below HB6.out z3).cell 0
  have i1 : w6.cell? ⟨w.heap.size, 1, none⟩ = some (.int .i64 C) := (HG3.out.below HB6.out z3).cell 1
  have i2 : w6.cell? ⟨w.heap.size, 2, none⟩ = some (.slice a n cap) := (HG3.out.below HB6.out z3).cell 2
  have y6 : w.heap.size < w6.heap.size := by omega
  have z6 : w4.heap.size < w6.heap.size := by omega
  go_wp2_with fail
  go_region_held3 (fun w' => w'.cell? ⟨w.heap.size, 0, none⟩ = some (.int .i64 R) ∧ w'.cell? ⟨w.heap.size, 1, none⟩ = some (.int .i64 C) ∧ w'.cell? ⟨w.heap.size, 2, none⟩ = some (.slice a n cap) ∧ w'.cell? ⟨w4.heap.size, 0, none⟩ = some (.int .i64 R) ∧ w'.cell? ⟨w4.heap.size, 1, none⟩ = some (.int .i64 C) ∧ w'.cell? ⟨w4.heap.size, 2, none⟩ = some (.slice (some ⟨b4, 0, none⟩) n n))
    (first
      | go_keep
      | (go_split_ands
         refine ⟨?_, ?_, ?_, ?_, ?_, ?_⟩
         · (rw [hb8.cell (p := ⟨w.heap.size, 0, none⟩) (by have := hb7.size; simp at this; show w.heap.size < _; omega)]; assumption)
         · (rw [hb8.cell (p := ⟨w.heap.size, 1, none⟩) (by have := hb7.size; simp at this; show w.heap.size < _; omega)]; assumption)
         · (rw [hb8.cell (p := ⟨w.heap.size, 2, none⟩) (by have := hb7.size; simp at this; show w.heap.size < _; omega)]; assumption)
         · (rw [hb8.cell (p := ⟨w4.heap.size, 0, none⟩) (by have := hb7.size; simp at this; show w4.heap.size < _; omega)]; assumption)
         · (rw [hb8.cell (p := ⟨w4.heap.size, 1, none⟩) (by have := hb7.size; simp at this; show w4.heap.size < _; omega)]; assumption)
         · (rw [hb8.cell (p := ⟨w4.heap.size, 2, none⟩) (by have := hb7.size; simp at this; show w4.heap.size < _; omega)]; assumption))
      | (go_split_ands
         refine ⟨?_, ?_, ?_, ?_, ?_, ?_⟩
         · (rw [hb7.cell (p := ⟨w.heap.size, 0, none⟩) (by simpa using y6)]; assumption)
         · (rw [hb7.cell (p := ⟨w.heap.size, 1, none⟩) (by simpa using y6)]; assumption)
         · (rw [hb7.cell (p := ⟨w.heap.size, 2, none⟩) (by simpa using y6)]; assumption)
         · (rw [hb7.cell (p := ⟨w4.heap.size, 0, none⟩) (by simpa using z6)]; assumption)
         · (rw [hb7.cell (p := ⟨w4.heap.size, 1, none⟩) (by simpa using z6)]; assumption)
         · (rw [hb7.cell (p := ⟨w4.heap.size, 2, none⟩) (by simpa using z6)]; assumption)))
    ((first
      | (go_at_call 11; refine (toTable_any R C a n cap l _ ((T3.out.below HB6.out).below (Below.refl _ _).drew) hle).mono ?_; rintro e w7 ⟨⟨b7, r7, -, rfl, ho7⟩, hb7⟩)
      | (go_at_call 13; refine (eqTable_same R C _ _ _ l _ _ _ _ ((HP6.out.tab.below (Below.refl _ _).drew).below hb7) ho7.tab).mono ?_; rintro e w8 ⟨rfl, hb8⟩)))
  have s10 := hb7.size
  simp only [World.size_drew] at s10
  have s11 := hb8.size
  have b68 : Below w6.heap.size w6 w8 := ((Below.refl w6.heap.size w6).drew.trans (hb7.mono (by simp only [World.size_drew]; omega))).trans (hb8.mono (by omega))
  clear e0 e1 e2 i0 i1 i2
  have HB8 : Hid (Below v3.heap.size v3 w8) := HB6.out.trans (b68.mono (by omega))
  have HG8 : Hid (RowAt w8 w5.heap.size #[.int .i64 x2, .int .i64 y2, .slice a2 n2 c2] 28) := HG6.out.below b68 (by omega)
  have HX8 : Hid (RowAt w8 w4.heap.size #[.int .i64 R, .int .i64 C, .slice (some ⟨b4, 0, none⟩) n n] 28) := HX6.out.below b68 (by omega)
  have HO8 : Hid (OwnT w8 v4.heap.size (.slice a2 n2 c2) rs2 l2) := HO6.out.below b68
  have HP8 : Hid (OwnT w8 v3.heap.size (.slice (some ⟨b4, 0, none⟩) n n) r4 l) := HP6.out.below b68
  clear hb7 hb8 ho7 b68
  have e0 : w8.cell? ⟨w4.heap.size, 0, none⟩ = some (.int .i64 R) := (HX8.out).cell 0
  have e1 : w8.cell? ⟨w4.heap.size, 1, none⟩ = some (.int .i64 C) := (HX8.out).cell 1
  have e2 : w8.cell? ⟨w4.heap.size, 2, none⟩ = some (.slice (some ⟨b4, 0, none⟩) n n) := (HX8.out).cell 2
  go_wp2_with fail
  refine (markTable_over R C _ n n r4 l 1 v3.heap.size v4.heap.size _ HP8.out (fun g hg => (own_lt HO4.out.1.row hg).2) (fun k hk g hg => HO4.out.2.blockLt k hk g hg) (by omega) (by omega) (by omega) (by omega)).mono ?_
  rintro e w9 ⟨rfl, -, hb9, hs9, hov⟩
  have s12 := hb9.size
  clear e0 e1 e2
  have HB9 : Hid (Below v3.heap.size v3 w9) := HB8.out.trans hb9
  have HG9 : Hid (RowAt w9 w5.heap.size #[.int .i64 x2, .int .i64 y2, .slice a2 n2 c2] 28) := hs9 _ _ HG8.out
  have HO9 : Hid (OwnT w9 v4.heap.size (.slice a2 n2 c2) rs2 l2) := HO8.out.over (Nat.le_refl _) hov
  clear hb9 hs9 hov
  obtain ⟨K, HK⟩ : ∃ K, Hid (kAt 1 l l.length = K) := ⟨_, rfl⟩
  have kge : 0 ≤ K := by rw [← HK.out]; exact kAt_ge 1 l _ (by omega)
  rw [HK.out]
  have nk : ¬ K < 0 := by omega
  have p0 : w9.cell? ⟨w5.heap.size, 0, none⟩ = some (.int .i64 x2) := (HG9.out).cell 0
  have p1 : w9.cell? ⟨w5.heap.size, 1, none⟩ = some (.int .i64 y2) := (HG9.out).cell 1
  have p2 : w9.cell? ⟨w5.heap.size, 2, none⟩ = some (.slice a2 n2 c2) := (HG9.out).cell 2
  have q0 : w9.cell? ⟨w3.heap.size, 0, none⟩ = some (.int .i64 x2) := (HW1.out.below HB9.out zw).cell 0
  have q1 : w9.cell? ⟨w3.heap.size, 1, none⟩ = some (.int .i64 y2) := (HW1.out.below HB9.out zw).cell 1
  have q2 : w9.cell? ⟨w3.heap.size, 2, none⟩ = some (.slice a1 n1 c1) := (HW1.out.below HB9.out zw).cell 2
  go_wp2_with fail
  refine (eqTable_same x2 y2 _ _ _ l2 _ _ _ _ HO9.out.tab (HT1.out.below HB9.out)).mono ?_
  rintro e w10 ⟨rfl, hb10⟩
  have s13 := hb10.size
  clear p0 p1 p2 q0 q1 q2
  have HB10 : Hid (Below v3.heap.size v3 w10) := HB9.out.trans (hb10.mono (by omega))
  have HG10 : Hid (RowAt w10 w5.heap.size #[.int .i64 x2, .int .i64 y2, .slice a2 n2 c2] 28) := HG9.out.below hb10 (by omega)
  have HO10 : Hid (OwnT w10 v4.heap.size (.slice a2 n2 c2) rs2 l2) := HO9.out.below hb10
  clear hb10
  have p0 : w10.cell? ⟨w5.heap.size, 0, none⟩ = some (.int .i64 x2) := (HG10.out).cell 0
  have p1 : w10.cell? ⟨w5.heap.size, 1, none⟩ = some (.int .i64 y2) := (HG10.out).cell 1
  have p2 : w10.cell? ⟨w5.heap.size, 2, none⟩ = some (.slice a2 n2 c2) := (HG10.out).cell 2
  go_wp2_with fail
  refine (markTable_any x2 y2 a2 n2 c2 rs2 l2 1 v4.heap.size _ HO10.out (by omega) (by omega) (by omega) (by omega)).mono ?_
  rintro e w11 ⟨rfl, ⟨rs4, ho11⟩, hb11, hs11⟩
  have s14 := hb11.size
  clear p0 p1 p2
  have HB11 : Hid (Below v3.heap.size v3 w11) := HB10.out.trans (hb11.mono (by omega))
  have HG11 : Hid (RowAt w11 w5.heap.size #[.int .i64 x2, .int .i64 y2, .slice a2 n2 c2] 28) := hs11 _ _ HG10.out
  have HM11 : Hid (Tab w11 a2 n2 c2 (markL 1 l2)) := ho11.tab
  clear ho11 hb11 hs11
  obtain ⟨M, HM⟩ : ∃ M, Hid (kAt 1 l2 l2.length = M) := ⟨_, rfl⟩
  have mge : 0 ≤ M := by rw [← HM.out]; exact kAt_ge 1 l2 _ (by omega)
  rw [HM.out]
  have nm : ¬ M < 0 := by omega
  have ne : (M != M) = false := by simp
  have p0 : w11.cell? ⟨w5.heap.size, 0, none⟩ = some (.int .i64 x2) := (HG11.out).cell 0
  have p1 : w11.cell? ⟨w5.heap.size, 1, none⟩ = some (.int .i64 y2) := (HG11.out).cell 1
  have p2 : w11.cell? ⟨w5.heap.size, 2, none⟩ = some (.slice a2 n2 c2) := (HG11.out).cell 2
  go_wp2_with fail
  refine (heldTable_any x2 y2 a2 n2 c2 l2 1 _ HM11.out (by omega) (by omega) (by omega)).mono ?_
  rintro e w12 ⟨rfl, hb12⟩
  have s15 := hb12.size
  rw [HM.out]
  clear p0 p1 p2
  have HB12 : Hid (Below v3.heap.size v3 w12) := HB11.out.trans (hb12.mono (by omega))
  have HG12 : Hid (RowAt w12 w5.heap.size #[.int .i64 x2, .int .i64 y2, .slice a2 n2 c2] 28) := HG11.out.below hb12 (by omega)
  have HM12 : Hid (Tab w12 a2 n2 c2 (markL 1 l2)) := HM11.out.below hb12
  clear hb12
  have i0 : w12.cell? ⟨w.heap.size, 0, none⟩ = some (.int .i64 R) := (HG3.out.below HB12.out z3).cell 0
  have i1 : w12.cell? ⟨w.heap.size, 1, none⟩ = some (.int .i64 C) := (HG3.out.below HB12.out z3).cell 1
  have i2 : w12.cell? ⟨w.heap.size, 2, none⟩ = some (.slice a n cap) := (HG3.out.below HB12.out z3).cell 2
  go_wp2_with fail
  refine (toTable_any R C a n cap l _ (T3.out.below HB12.out) hle).mono ?_
  rintro e w13 ⟨⟨b13, r13, -, rfl, ho13⟩, hb13⟩
  have s16 := hb13.size
  go_wp2_with fail
  refine (implTableSplit_any R C t' _ _ _ l _ ho13.tab).mono ?_
  intro e w14 hr
  obtain ⟨⟨x3, y3, a3, n3, c3, l3, g3, rfl, hR3⟩, hb14⟩ := fRes_of hr
  clear hr i0 i1 i2
  obtain rfl : x3 = x2 := hR3.2.1.trans HX1.out.1.symm
  obtain rfl : y3 = y2 := hR3.2.2.1.trans HX1.out.2.1.symm
  obtain rfl : l3 = l2 := hR3.2.2.2.1.trans HX1.out.2.2.1.symm
  obtain rfl : g3 = g2 := hR3.2.2.2.2.trans HX1.out.2.2.2.symm
  obtain ⟨rs3, ho3⟩ := hR3.1
  have s17 := hb14.size
  have b24 : Below w12.heap.size w12 w14 := hb13.trans (hb14.mono s16)
  clear hR3 hb13 hb14 ho13
  go_upto_region 25 with fail
  have W14 : RowAt (w14.alloc (.cells #[.int .i64 x3, .int .i64 y3, .slice a3 n3 c3] 28)) w14.heap.size #[.int .i64 x3, .int .i64 y3, .slice a3 n3 c3] 28 := rowAt_new _ _ _
  have T14 : Tab (w14.alloc (.cells #[.int .i64 x3, .int .i64 y3, .slice a3 n3 c3] 28)) a3 n3 c3 l3 := ho3.tab.below ((Below.refl _ _).alloc (Nat.le_refl _) _)
  have B14 : Below w12.heap.size w12 (w14.alloc (.cells #[.int .i64 x3, .int .i64 y3, .slice a3 n3 c3] 28)) := b24.alloc (by omega) _
  generalize (w14.alloc (.cells #[.int .i64 x3, .int .i64 y3, .slice a3 n3 c3] 28)) = v14 at W14 T14 B14 ⊢
  have zh := W14.lt
  have s18 := B14.size
  have HW14 : Hid (RowAt v14 w14.heap.size #[.int .i64 x3, .int .i64 y3, .slice a3 n3 c3] 28) := W14
  have HT14 : Hid (Tab v14 a3 n3 c3 l3) := T14
  have HG14 : Hid (RowAt v14 w5.heap.size #[.int .i64 x3, .int .i64 y3, .slice a2 n2 c2] 28) := HG12.out.below B14 (by omega)
  have HM14 : Hid (Tab v14 a2 n2 c2 (markL 1 l3)) := HM12.out.below B14
  have HB14 : Hid (Below v3.heap.size v3 v14) := HB12.out.trans (B14.mono (by omega))
  clear W14 T14 B14 ho3 b24
  have p0 : v14.cell? ⟨w14.heap.size, 0, none⟩ = some (.int .i64 x3) := HW14.out.cell 0
  have p1 : v14.cell? ⟨w14.heap.size, 1, none⟩ = some (.int .i64 y3) := HW14.out.cell 1
  have p2 : v14.cell? ⟨w14.heap.size, 2, none⟩ = some (.slice a3 n3 c3) := HW14.out.cell 2
  have q0 : v14.cell? ⟨w3.heap.size, 0, none⟩ = some (.int .i64 x3) := (HW1.out.below HB14.out zw).cell 0
  have q1 : v14.cell? ⟨w3.heap.size, 1, none⟩ = some (.int .i64 y3) := (HW1.out.below HB14.out zw).cell 1
  have q2 : v14.cell? ⟨w3.heap.size, 2, none⟩ = some (.slice a1 n1 c1) := (HW1.out.below HB14.out zw).cell 2
  go_wp2_with fail
  refine (eqTable_same x3 y3 _ _ _ l3 _ _ _ _ HT14.out (HT1.out.below HB14.out)).mono ?_
  rintro e w15 ⟨rfl, hb15⟩
  have s19 := hb15.size
  clear p0 p1 p2 q0 q1 q2
  have HG15 : Hid (RowAt w15 w5.heap.size #[.int .i64 x3, .int .i64 y3, .slice a2 n2 c2] 28) := HG14.out.below hb15 (by omega)
  have HM15 : Hid (Tab w15 a2 n2 c2 (markL 1 l3)) := HM14.out.below hb15
  have p0 : w15.cell? ⟨w5.heap.size, 0, none⟩ = some (.int .i64 x3) := HG15.out.cell 0
  have p1 : w15.cell? ⟨w5.heap.size, 1, none⟩ = some (.int .i64 y3) := HG15.out.cell 1
  have p2 : w15.cell? ⟨w5.heap.size, 2, none⟩ = some (.slice a2 n2 c2) := HG15.out.cell 2
  go_wp2_with fail
  refine (heldTable_any x3 y3 a2 n2 c2 l3 1 _ HM15.out (by omega) (by omega) (by omega)).mono ?_
  rintro e w16 ⟨rfl, hb16⟩
  rw [HM.out]
  clear p0 p1 p2
  go_wp2_with fail
  go_ret
  exact ⟨rfl, ((HB3.out.trans (HB14.out.mono (by omega))).trans (hb15.mono (by omega))).trans (hb16.mono (by omega))⟩
end Go.Proofs.Yteghidjbcpmfbaa
