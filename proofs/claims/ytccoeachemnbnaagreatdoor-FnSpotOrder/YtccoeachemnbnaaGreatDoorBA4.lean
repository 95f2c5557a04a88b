import Derived.Test.YtccoeachemnbnaaGreatDoorBA3
import Derived.Test.YtccoeachemnbnaaGreatDoorBA2
import Derived.Test.YtccoeachemnbnaaGreatDoorBA1
import Derived.Deep.Cut
import Derived.Deep.QuietTactic
import Derived.BigQuiet
namespace Go.Proofs.YtccoeachemnbnaaGreatDoor
open Go.RowKit

set_option maxRecDepth 100000 in
set_option maxHeartbeats 16000000 in
theorem specSpotNow_no {a : Option Addr} {n cap : Nat} {d : List Bl} {pb pc pa : Int} {w : World} (h : Dc w a n cap d) (hp : plT d pb pc pa = none) :
    Calls Tryz.prog 13 #[.agg #[.slice a n cap], .agg #[.int .i64 pb, .int .i64 pc, .int .i64 pa]] w fun e w' => e = .returned (.agg #[.int .i64 0, .int .i64 0, .int .i64 0]) ∧ Below w.heap.size w w' := by
  have HX : Hid ((plT d pb pc pa).isSome = false) := by
    show (plT d pb pc _).isSome = _
    rw [hp]
    rfl
  have HH := hd_add (hd_start w) (fun u => Dc u a n cap d) (mono_dc _ _ _ _) h
  clear h hp
  go_enter Tryz.func13, Tryz.ntmps13
  go_upto_region 1 with fail
  replace HH := hd_box HH #[.slice a n cap] 25
  replace HH := hd_box HH #[.int .i64 pb, .int .i64 pc, .int .i64 pa] 27
  replace HH := hd_box HH #[.int .i64 0, .int .i64 0, .int .i64 0] 27
  have fv3 : ((w.alloc (.cells #[.slice a n cap] 25)).alloc (.cells #[.int .i64 pb, .int .i64 pc, .int .i64 pa] 27)).heap.size = w.heap.size + 2 := by simp
  have ev3 : (w.alloc (.cells #[.slice a n cap] 25)).heap.size = w.heap.size + 1 := by simp
  rw [fv3, ev3] at HH
  have sv3 : w.heap.size + 2 < (((w.alloc (.cells #[.slice a n cap] 25)).alloc (.cells #[.int .i64 pb, .int .i64 pc, .int .i64 pa] 27)).alloc (.cells #[.int .i64 0, .int .i64 0, .int .i64 0] 27)).heap.size := by simp
  generalize (((w.alloc (.cells #[.slice a n cap] 25)).alloc (.cells #[.int .i64 pb, .int .i64 pc, .int .i64 pa] 27)).alloc (.cells #[.int .i64 0, .int .i64 0, .int .i64 0] 27)) = v3 at HH sv3 ⊢
  clear ev3 fv3
  have kP_0 : v3.cell? ⟨w.heap.size + 1, 0, none⟩ = some (.int .i64 pb) := RowAt.cell (HH.out.row _ (List.Mem.tail _ (List.Mem.head _))) 0
  have kP_1 : v3.cell? ⟨w.heap.size + 1, 1, none⟩ = some (.int .i64 pc) := RowAt.cell (HH.out.row _ (List.Mem.tail _ (List.Mem.head _))) 1
  have kP_2 : v3.cell? ⟨w.heap.size + 1, 2, none⟩ = some (.int .i64 pa) := RowAt.cell (HH.out.row _ (List.Mem.tail _ (List.Mem.head _))) 2
  have kA_0 : v3.cell? ⟨w.heap.size, 0, none⟩ = some (.slice a n cap) := RowAt.cell (HH.out.row _ (List.Mem.tail _ (List.Mem.tail _ (List.Mem.head _)))) 0
  have sA := HH.out.below.size
  go_wp2_with (refine wpList_load_row rfl 27 (.tmp 3) rfl (w.heap.size + 1) rfl 27 #[.int .i64 pb, .int .i64 pc, .int .i64 pa] (0, 0) _ ((HH.out.row _ (List.Mem.tail _ (List.Mem.head _)))) Tryz.underlying27 rfl (by kernel_rfl) ?_)
  refine (specPlaceOk_is HX.out ((HH.out.fact _ (List.Mem.head _)).2)).mono ?_
  rintro e v4 ⟨rfl, hb⟩
  have sv4 := hb.size
  replace HH := hd_go HH hb
  clear kP_0 kP_1 kP_2 kA_0
  have kP_0 : v4.cell? ⟨w.heap.size + 1, 0, none⟩ = some (.int .i64 pb) := RowAt.cell (HH.out.row _ (List.Mem.tail _ (List.Mem.head _))) 0
  have kP_1 : v4.cell? ⟨w.heap.size + 1, 1, none⟩ = some (.int .i64 pc) := RowAt.cell (HH.out.row _ (List.Mem.tail _ (List.Mem.head _))) 1
  have kP_2 : v4.cell? ⟨w.heap.size + 1, 2, none⟩ = some (.int .i64 pa) := RowAt.cell (HH.out.row _ (List.Mem.tail _ (List.Mem.head _))) 2
  have kA_0 : v4.cell? ⟨w.heap.size, 0, none⟩ = some (.slice a n cap) := RowAt.cell (HH.out.row _ (List.Mem.tail _ (List.Mem.tail _ (List.Mem.head _)))) 0
  clear hb
  go_wp2_with (refine wpList_store_row rfl 27 (.tmp 4) (.tmp 9) rfl (w.heap.size + 2) #[.int .i64 0, .int .i64 0, .int .i64 0] rfl rfl 27 _ ((HH.out.row _ (List.Mem.head _))) (by kernel_rfl) rfl (by simp [Value.oneCell']) ?_)
  refine bodyPost_ret (v := .agg #[.int .i64 0, .int .i64 0, .int .i64 0]) (results_cell_row (p := 4) (ty := 27) rfl _ _ (w.heap.size + 2) 27 _ _ _ rfl (RowAt.setRow ((HH.out.row _ (List.Mem.head _))) _) Tryz.underlying27 rfl (by kernel_rfl)) rfl ⟨rfl, below_row HH.out.below (by omega) _⟩
set_option maxRecDepth 100000 in
set_option maxHeartbeats 16000000 in
theorem specSpotNow_yes {a : Option Addr} {n cap : Nat} {d : List Bl} {pb pc : Int} {s : List Sg} {j : Nat} {w : World} (h : Dc w a n cap d) (hp : plT d pb pc j = some s) (hj : j ≤ s.length) :
    Calls Tryz.prog 13 #[.agg #[.slice a n cap], .agg #[.int .i64 pb, .int .i64 pc, .int .i64 (j : Int)]] w fun e w' => e = .returned (.agg #[.int .i64 pb, .int .i64 pc, .int .i64 ((nowL (s.take j)).length : Int)]) ∧ Below w.heap.size w w' := by
  have HX : Hid ((plT d pb pc j).isSome = true) := by
    show (plT d pb pc _).isSome = _
    rw [hp]
    rfl
  have HTX : Hid ((plT d pb pc j).getD [] = s) := by
    show (plT d pb pc j).getD [] = s
    rw [hp]
    rfl
  have HJ : Hid (j ≤ s.length) := hj
  have HH := hd_add (hd_start w) (fun u => Dc u a n cap d) (mono_dc _ _ _ _) h
  clear h hp hj
  go_enter Tryz.func13, Tryz.ntmps13
  go_upto_region 1 with fail
  replace HH := hd_box HH #[.slice a n cap] 25
  replace HH := hd_box HH #[.int .i64 pb, .int .i64 pc, .int .i64 (j : Int)] 27
  replace HH := hd_box HH #[.int .i64 0, .int .i64 0, .int .i64 0] 27
  have fv3 : ((w.alloc (.cells #[.slice a n cap] 25)).alloc (.cells #[.int .i64 pb, .int .i64 pc, .int .i64 (j : Int)] 27)).heap.size = w.heap.size + 2 := by simp
  have ev3 : (w.alloc (.cells #[.slice a n cap] 25)).heap.size = w.heap.size + 1 := by simp
  rw [fv3, ev3] at HH
  have sv3 : w.heap.size + 2 < (((w.alloc (.cells #[.slice a n cap] 25)).alloc (.cells #[.int .i64 pb, .int .i64 pc, .int .i64 (j : Int)] 27)).alloc (.cells #[.int .i64 0, .int .i64 0, .int .i64 0] 27)).heap.size := by simp
  generalize (((w.alloc (.cells #[.slice a n cap] 25)).alloc (.cells #[.int .i64 pb, .int .i64 pc, .int .i64 (j : Int)] 27)).alloc (.cells #[.int .i64 0, .int .i64 0, .int .i64 0] 27)) = v3 at HH sv3 ⊢
  clear ev3 fv3
  have kP_0 : v3.cell? ⟨w.heap.size + 1, 0, none⟩ = some (.int .i64 pb) := RowAt.cell (HH.out.row _ (List.Mem.tail _ (List.Mem.head _))) 0
  have kP_1 : v3.cell? ⟨w.heap.size + 1, 1, none⟩ = some (.int .i64 pc) := RowAt.cell (HH.out.row _ (List.Mem.tail _ (List.Mem.head _))) 1
  have kP_2 : v3.cell? ⟨w.heap.size + 1, 2, none⟩ = some (.int .i64 (j : Int)) := RowAt.cell (HH.out.row _ (List.Mem.tail _ (List.Mem.head _))) 2
  have kA_0 : v3.cell? ⟨w.heap.size, 0, none⟩ = some (.slice a n cap) := RowAt.cell (HH.out.row _ (List.Mem.tail _ (List.Mem.tail _ (List.Mem.head _)))) 0
  have sA := HH.out.below.size
  go_wp2_with (refine wpList_load_row rfl 27 (.tmp 3) rfl (w.heap.size + 1) rfl 27 #[.int .i64 pb, .int .i64 pc, .int .i64 (j : Int)] (0, 0) _ ((HH.out.row _ (List.Mem.tail _ (List.Mem.head _)))) Tryz.underlying27 rfl (by kernel_rfl) ?_)
  refine (specPlaceOk_is HX.out ((HH.out.fact _ (List.Mem.head _)).2)).mono ?_
  rintro e v4 ⟨rfl, hb⟩
  have sv4 := hb.size
  replace HH := hd_go HH hb
  clear kP_0 kP_1 kP_2 kA_0
  have kP_0 : v4.cell? ⟨w.heap.size + 1, 0, none⟩ = some (.int .i64 pb) := RowAt.cell (HH.out.row _ (List.Mem.tail _ (List.Mem.head _))) 0
  have kP_1 : v4.cell? ⟨w.heap.size + 1, 1, none⟩ = some (.int .i64 pc) := RowAt.cell (HH.out.row _ (List.Mem.tail _ (List.Mem.head _))) 1
  have kP_2 : v4.cell? ⟨w.heap.size + 1, 2, none⟩ = some (.int .i64 (j : Int)) := RowAt.cell (HH.out.row _ (List.Mem.tail _ (List.Mem.head _))) 2
  have kA_0 : v4.cell? ⟨w.heap.size, 0, none⟩ = some (.slice a n cap) := RowAt.cell (HH.out.row _ (List.Mem.tail _ (List.Mem.tail _ (List.Mem.head _)))) 0
  clear hb
  go_upto_region 3 with fail
  clear kP_0 kP_1 kP_2 kA_0
  refine wp_region_noPanic ?_
  refine wp_region_L (fun w' => Hd w [(w.heap.size + 2, #[.int .i64 0, .int .i64 0, .int .i64 0], 27), (w.heap.size + 1, #[.int .i64 pb, .int .i64 pc, .int .i64 (j : Int)], 27), (w.heap.size, #[.slice a n cap], 25)] [fun u => Dc u a n cap d] w') 13 (by kernel_rfl) ((HH.out.go (Below.refl _ _).drew)) (fun hHeld => ?_)
  clear HH
  have sv5 : v4.heap.size ≤ v4.drew.heap.size := Nat.le_refl _
  generalize v4.drew = v5 at hHeld sv5 ⊢
  refine takeL 0 10 (.pointer (some ⟨w.heap.size + 1, 0, none⟩)) rfl rfl (by kernel_rfl) (by kernel_rfl) (by kernel_rfl) (by kernel_rfl) (by kernel_rfl) (fun _ _ _ h => h) (Or.inl ⟨by kernel_rfl, fun w' hS' => by go_simp⟩) hHeld ?_
  (try simp only [Act.put, List.setIfInBounds_toArray, List.set_cons_zero, List.set_cons_succ])
  refine takeL 1 11 (.int .i64 pb) rfl rfl (by kernel_rfl) (by kernel_rfl) (by kernel_rfl) (by kernel_rfl) (by kernel_rfl) (fun _ _ _ h => h) (Or.inl ⟨by kernel_rfl, fun w' hS' => by have hc := RowAt.cell (hS'.row _ (List.Mem.tail _ (List.Mem.head _))) 0; go_simp⟩) hHeld ?_
  (try simp only [Act.put, List.setIfInBounds_toArray, List.set_cons_zero, List.set_cons_succ])
  refine takeL 2 12 (.pointer (some ⟨w.heap.size + 1, 1, none⟩)) rfl rfl (by kernel_rfl) (by kernel_rfl) (by kernel_rfl) (by kernel_rfl) (by kernel_rfl) (fun _ _ _ h => h) (Or.inl ⟨by kernel_rfl, fun w' hS' => by go_simp⟩) hHeld ?_
  (try simp only [Act.put, List.setIfInBounds_toArray, List.set_cons_zero, List.set_cons_succ])
  refine takeL 3 13 (.int .i64 pc) rfl rfl (by kernel_rfl) (by kernel_rfl) (by kernel_rfl) (by kernel_rfl) (by kernel_rfl) (fun _ _ _ h => h) (Or.inl ⟨by kernel_rfl, fun w' hS' => by have hc := RowAt.cell (hS'.row _ (List.Mem.tail _ (List.Mem.head _))) 1; go_simp⟩) hHeld ?_
  (try simp only [Act.put, List.setIfInBounds_toArray, List.set_cons_zero, List.set_cons_succ])
  refine takeL 4 14 (.agg #[.slice a n cap]) rfl rfl (by kernel_rfl) (by kernel_rfl) (by kernel_rfl) (by kernel_rfl) (by kernel_rfl) (fun _ _ _ h => h) (yieldsIf_load_row (by kernel_rfl) 25 (.tmp 2) rfl (w.heap.size) rfl 25 #[.slice a n cap] (0, 0) _ (fun w' h => h.row _ (List.Mem.tail _ (List.Mem.tail _ (List.Mem.head _)))) Tryz.underlying25 rfl (by kernel_rfl)) hHeld ?_
  (try simp only [Act.put, List.setIfInBounds_toArray, List.set_cons_zero, List.set_cons_succ])
  refine takeL 5 15 (.agg #[.int .i64 pb, .int .i64 pc, .int .i64 (j : Int)]) rfl rfl (by kernel_rfl) (by kernel_rfl) (by kernel_rfl) (by kernel_rfl) (by kernel_rfl) (fun _ _ _ h => h) (yieldsIf_load_row (by kernel_rfl) 27 (.tmp 3) rfl (w.heap.size + 1) rfl 27 #[.int .i64 pb, .int .i64 pc, .int .i64 (j : Int)] (0, 0) _ (fun w' h => h.row _ (List.Mem.tail _ (List.Mem.head _))) Tryz.underlying27 rfl (by kernel_rfl)) hHeld ?_
  (try simp only [Act.put, List.setIfInBounds_toArray, List.set_cons_zero, List.set_cons_succ])
  refine takeL 7 17 (.pointer (some ⟨w.heap.size + 1, 2, none⟩)) rfl rfl (by kernel_rfl) (by kernel_rfl) (by kernel_rfl) (by kernel_rfl) (by kernel_rfl) (fun _ _ _ h => h) (Or.inl ⟨by kernel_rfl, fun w' hS' => by go_simp⟩) hHeld ?_
  (try simp only [Act.put, List.setIfInBounds_toArray, List.set_cons_zero, List.set_cons_succ])
  refine takeL 8 18 (.int .i64 (j : Int)) rfl rfl (by kernel_rfl) (by kernel_rfl) (by kernel_rfl) (by kernel_rfl) (by kernel_rfl) (fun _ _ _ h => h) (Or.inl ⟨by kernel_rfl, fun w' hS' => by have hc := RowAt.cell (hS'.row _ (List.Mem.tail _ (List.Mem.head _))) 2; go_simp⟩) hHeld ?_
  (try simp only [Act.put, List.setIfInBounds_toArray, List.set_cons_zero, List.set_cons_succ])
  refine wpAnyL_ready (rs := [6]) (by kernel_rfl) (by simp) ?_
  refine AllReadyL.cons rfl (fun K hK => ?_) AllReadyL.nil
  go_simp
  go_at_call 24
  refine (specPlaceText_any ((hHeld.fact _ (List.Mem.head _)).2)).mono ?_
  rintro _ v6 ⟨⟨p1, m1, r1, rfl, hox⟩, hb⟩
  have sv6 := hb.size
  rw [HTX.out] at hox
  have hm1 : m1 = s.length := hox.len
  have hmr : m1 ≤ r1 := hox.txt.2.1
  have hrm : r1 ≤ maxLen := hox.txt.2.2.1
  unfold maxLen at hrm
  have hjm : j ≤ m1 := by have := HJ.out; omega
  have hjr : j ≤ r1 := by omega
  clear hm1
  have HX : Hid (Txt v6 p1 m1 r1 s) := (hox.txt : Txt v6 p1 m1 r1 s)
  go_wp2_with fail
  refine hK.out _ _ (fun _ => hHeld.go hb) (fun hHeld => ?_)
  replace hHeld := hHeld (by decide)
  clear hK K hb
  (try simp only [Act.put, List.setIfInBounds_toArray, List.set_cons_zero, List.set_cons_succ])
  refine takeL 9 19 (.slice p1 j r1) rfl rfl (by kernel_rfl) (by kernel_rfl) (by kernel_rfl) (by kernel_rfl) (by kernel_rfl) (fun _ _ _ h => h) (Or.inl ⟨by kernel_rfl, fun w' hS' => by go_simp⟩) hHeld ?_
  (try simp only [Act.put, List.setIfInBounds_toArray, List.set_cons_zero, List.set_cons_succ])
  refine wpAnyL_ready (rs := [10]) (by kernel_rfl) (by simp) ?_
  refine AllReadyL.cons rfl (fun K hK => ?_) AllReadyL.nil
  go_simp
  go_at_call 31
  refine (specTextNow_any _ _ _ _ _ (txt_take HX.out hjm)).mono ?_
  rintro _ v7 ⟨rfl, hb⟩
  have sv7 := hb.size
  obtain ⟨N, HN⟩ : ∃ N, Hid ((nowL (s.take j)).length = N) := ⟨_, rfl⟩
  obtain ⟨S, HS⟩ : ∃ S, Hid (strOfNums (pickL noOut (s.take j)) = S) := ⟨_, rfl⟩
  have hSN : S.size = N := by rw [← HS.out, strSize, ← nowL_eq, HN.out]
  rw [HS.out]
  replace HX : Hid (Txt v7 p1 m1 r1 s) := (mono_txt _ _ _ _ : Mono _) _ _ HX.out hb
  go_wp2_with fail
  refine hK.out _ _ (fun _ => hHeld.go hb) (fun hHeld => ?_)
  replace hHeld := hHeld (by decide)
  clear hK K hb
  (try simp only [Act.put, List.setIfInBounds_toArray, List.set_cons_zero, List.set_cons_succ])
  refine takeL 11 21 (.int .i64 (N : Int)) rfl rfl (by kernel_rfl) (by kernel_rfl) (by kernel_rfl) (by kernel_rfl) (by kernel_rfl) (fun _ _ _ h => h) (Or.inl ⟨by kernel_rfl, fun w' hS' => by have hSN' := hSN; go_simp⟩) hHeld ?_
  (try simp only [Act.put, List.setIfInBounds_toArray, List.set_cons_zero, List.set_cons_succ])
  refine takeL 12 22 (.agg #[.int .i64 pb, .int .i64 pc, .int .i64 (N : Int)]) rfl rfl (by kernel_rfl) (by kernel_rfl) (by kernel_rfl) (by kernel_rfl) (by kernel_rfl) (fun _ _ _ h => h) (Or.inl ⟨by kernel_rfl, fun w' hS' => by go_simp⟩) hHeld ?_
  (try simp only [Act.put, List.setIfInBounds_toArray, List.set_cons_zero, List.set_cons_succ])
  refine wpAnyL_ready (rs := [13]) (by kernel_rfl) (by simp) ?_
  refine AllReadyL.cons rfl (fun K hK => ?_) AllReadyL.nil
  rw [if_pos (by kernel_rfl)]
  refine wp_store_row 27 (.tmp 4) (.tmp 22) rfl (w.heap.size + 2) #[.int .i64 pb, .int .i64 pc, .int .i64 (N : Int)] rfl rfl 27 _ ((hHeld.row _ (List.Mem.head _))) (by kernel_rfl) rfl (by simp [Value.oneCell']) ?_
  refine hK.out _ _ (fun h => absurd rfl h) (fun _ => ?_)
  clear hK K
  (try simp only [Act.put, List.setIfInBounds_toArray])
  refine wpAnyL_done (by kernel_rfl) ?_ _
  refine NoPanic.normal ?_
  have HH : Hid (Hd w _ _ v7) := hHeld
  clear hHeld
  replace HH := hd_add HH (fun u => Txt u p1 m1 r1 s) (mono_txt _ _ _ _) HX.out
  clear HX
  have kP_0 : v7.cell? ⟨w.heap.size + 1, 0, none⟩ = some (.int .i64 pb) := RowAt.cell (HH.out.row _ (List.Mem.tail _ (List.Mem.head _))) 0
  have kP_1 : v7.cell? ⟨w.heap.size + 1, 1, none⟩ = some (.int .i64 pc) := RowAt.cell (HH.out.row _ (List.Mem.tail _ (List.Mem.head _))) 1
  have kP_2 : v7.cell? ⟨w.heap.size + 1, 2, none⟩ = some (.int .i64 (j : Int)) := RowAt.cell (HH.out.row _ (List.Mem.tail _ (List.Mem.head _))) 2
  have kA_0 : v7.cell? ⟨w.heap.size, 0, none⟩ = some (.slice a n cap) := RowAt.cell (HH.out.row _ (List.Mem.tail _ (List.Mem.tail _ (List.Mem.head _)))) 0
  go_wp2_with fail
  rw [HN.out]
  refine bodyPost_ret (v := .agg #[.int .i64 pb, .int .i64 pc, .int .i64 (N : Int)]) (results_cell_row (p := 4) (ty := 27) rfl _ _ (w.heap.size + 2) 27 _ _ _ rfl (RowAt.setRow ((HH.out.row _ (List.Mem.head _))) _) Tryz.underlying27 rfl (by kernel_rfl)) rfl ⟨rfl, below_row HH.out.below (by omega) _⟩
theorem specSpotNow_any {a : Option Addr} {n cap : Nat} {d : List Bl} {pb pc pa x y z : Int} {w : World} (hx : spotF nowL d pb pc pa = (x, y, z)) (h : Dc w a n cap d) :
    Calls Tryz.prog 13 #[.agg #[.slice a n cap], .agg #[.int .i64 pb, .int .i64 pc, .int .i64 pa]] w fun e w' => e = .returned (.agg #[.int .i64 x, .int .i64 y, .int .i64 z]) ∧ Below w.heap.size w w' := by
  unfold spotF at hx
  cases hp : plT d pb pc pa with
  | none =>
    rw [hp] at hx
    simp only [Prod.mk.injEq] at hx
    obtain ⟨rfl, rfl, rfl⟩ := hx
    exact specSpotNow_no h hp
  | some s =>
    rw [hp] at hx
    simp only [Prod.mk.injEq] at hx
    obtain ⟨rfl, rfl, rfl⟩ := hx
    have h2 := hp
    unfold plT at h2
    split at h2
    · obtain ⟨i, rfl, -, -, h0, h1⟩ := placeT_parts2 h2
      obtain ⟨j, rfl⟩ : ∃ j : Nat, pa = j := ⟨pa.toNat, by omega⟩
      rw [Int.toNat_natCast]
      exact specSpotNow_yes h hp (by omega)
    · cases h2
set_option maxRecDepth 100000 in
set_option maxHeartbeats 16000000 in
theorem specSpotWas_no {a : Option Addr} {n cap : Nat} {d : List Bl} {pb pc pa : Int} {w : World} (h : Dc w a n cap d) (hp : plT d pb pc pa = none) :
    Calls Tryz.prog 9 #[.agg #[.slice a n cap], .agg #[.int .i64 pb, .int .i64 pc, .int .i64 pa]] w fun e w' => e = .returned (.agg #[.int .i64 0, .int .i64 0, .int .i64 0]) ∧ Below w.heap.size w w' := by
  have HX : Hid ((plT d pb pc pa).isSome = false) := by
    show (plT d pb pc _).isSome = _
    rw [hp]
    rfl
  have HH := hd_add (hd_start w) (fun u => Dc u a n cap d) (mono_dc _ _ _ _) h
  clear h hp
  go_enter Tryz.func9, Tryz.ntmps9
  go_upto_region 1 with fail
  replace HH := hd_box HH #[.slice a n cap] 25
  replace HH := hd_box HH #[.int .i64 pb, .int .i64 pc, .int .i64 pa] 27
  replace HH := hd_box HH #[.int .i64 0, .int .i64 0, .int .i64 0] 27
  have fv3 : ((w.alloc (.cells #[.slice a n cap] 25)).alloc (.cells #[.int .i64 pb, .int .i64 pc, .int .i64 pa] 27)).heap.size = w.heap.size + 2 := by simp
  have ev3 : (w.alloc (.cells #[.slice a n cap] 25)).heap.size = w.heap.size + 1 := by simp
  rw [fv3, ev3] at HH
  have sv3 : w.heap.size + 2 < (((w.alloc (.cells #[.slice a n cap] 25)).alloc (.cells #[.int .i64 pb, .int .i64 pc, .int .i64 pa] 27)).alloc (.cells #[.int .i64 0, .int .i64 0, .int .i64 0] 27)).heap.size := by simp
  generalize (((w.alloc (.cells #[.slice a n cap] 25)).alloc (.cells #[.int .i64 pb, .int .i64 pc, .int .i64 pa] 27)).alloc (.cells #[.int .i64 0, .int .i64 0, .int .i64 0] 27)) = v3 at HH sv3 ⊢
  clear ev3 fv3
  have kP_0 : v3.cell? ⟨w.heap.size + 1, 0, none⟩ = some (.int .i64 pb) := RowAt.cell (HH.out.row _ (List.Mem.tail _ (List.Mem.head _))) 0
  have kP_1 : v3.cell? ⟨w.heap.size + 1, 1, none⟩ = some (.int .i64 pc) := RowAt.cell (HH.out.row _ (List.Mem.tail _ (List.Mem.head _))) 1
  have kP_2 : v3.cell? ⟨w.heap.size + 1, 2, none⟩ = some (.int .i64 pa) := RowAt.cell (HH.out.row _ (List.Mem.tail _ (List.Mem.head _))) 2
  have kA_0 : v3.cell? ⟨w.heap.size, 0, none⟩ = some (.slice a n cap) := RowAt.cell (HH.out.row _ (List.Mem.tail _ (List.Mem.tail _ (List.Mem.head _)))) 0
  have sA := HH.out.below.size
  go_wp2_with (refine wpList_load_row rfl 27 (.tmp 3) rfl (w.heap.size + 1) rfl 27 #[.int .i64 pb, .int .i64 pc, .int .i64 pa] (0, 0) _ ((HH.out.row _ (List.Mem.tail _ (List.Mem.head _)))) Tryz.underlying27 rfl (by kernel_rfl) ?_)
  refine (specPlaceOk_is HX.out ((HH.out.fact _ (List.Mem.head _)).2)).mono ?_
  rintro e v4 ⟨rfl, hb⟩
  have sv4 := hb.size
  replace HH := hd_go HH hb
  clear kP_0 kP_1 kP_2 kA_0
  have kP_0 : v4.cell? ⟨w.heap.size + 1, 0, none⟩ = some (.int .i64 pb) := RowAt.cell (HH.out.row _ (List.Mem.tail _ (List.Mem.head _))) 0
  have kP_1 : v4.cell? ⟨w.heap.size + 1, 1, none⟩ = some (.int .i64 pc) := RowAt.cell (HH.out.row _ (List.Mem.tail _ (List.Mem.head _))) 1
  have kP_2 : v4.cell? ⟨w.heap.size + 1, 2, none⟩ = some (.int .i64 pa) := RowAt.cell (HH.out.row _ (List.Mem.tail _ (List.Mem.head _))) 2
  have kA_0 : v4.cell? ⟨w.heap.size, 0, none⟩ = some (.slice a n cap) := RowAt.cell (HH.out.row _ (List.Mem.tail _ (List.Mem.tail _ (List.Mem.head _)))) 0
  clear hb
  go_wp2_with (refine wpList_store_row rfl 27 (.tmp 4) (.tmp 9) rfl (w.heap.size + 2) #[.int .i64 0, .int .i64 0, .int .i64 0] rfl rfl 27 _ ((HH.out.row _ (List.Mem.head _))) (by kernel_rfl) rfl (by simp [Value.oneCell']) ?_)
  refine bodyPost_ret (v := .agg #[.int .i64 0, .int .i64 0, .int .i64 0]) (results_cell_row (p := 4) (ty := 27) rfl _ _ (w.heap.size + 2) 27 _ _ _ rfl (RowAt.setRow ((HH.out.row _ (List.Mem.head _))) _) Tryz.underlying27 rfl (by kernel_rfl)) rfl ⟨rfl, below_row HH.out.below (by omega) _⟩
set_option maxRecDepth 100000 in
set_option maxHeartbeats 16000000 in
theorem specSpotWas_yes {a : Option Addr} {n cap : Nat} {d : List Bl} {pb pc : Int} {s : List Sg} {j : Nat} {w : World} (h : Dc w a n cap d) (hp : plT d pb pc j = some s) (hj : j ≤ s.length) :
    Calls Tryz.prog 9 #[.agg #[.slice a n cap], .agg #[.int .i64 pb, .int .i64 pc, .int .i64 (j : Int)]] w fun e w' => e = .returned (.agg #[.int .i64 pb, .int .i64 pc, .int .i64 ((wasL (s.take j)).length : Int)]) ∧ Below w.heap.size w w' := by
  have HX : Hid ((plT d pb pc j).isSome = true) := by
    show (plT d pb pc _).isSome = _
    rw [hp]
    rfl
  have HTX : Hid ((plT d pb pc j).getD [] = s) := by
    show (plT d pb pc j).getD [] = s
    rw [hp]
    rfl
  have HJ : Hid (j ≤ s.length) := hj
  have HH := hd_add (hd_start w) (fun u => Dc u a n cap d) (mono_dc _ _ _ _) h
  clear h hp hj
  go_enter Tryz.func9, Tryz.ntmps9
  go_upto_region 1 with fail
  replace HH := hd_box HH #[.slice a n cap] 25
  replace HH := hd_box HH #[.int .i64 pb, .int .i64 pc, .int .i64 (j : Int)] 27
  replace HH := hd_box HH #[.int .i64 0, .int .i64 0, .int .i64 0] 27
  have fv3 : ((w.alloc (.cells #[.slice a n cap] 25)).alloc (.cells #[.int .i64 pb, .int .i64 pc, .int .i64 (j : Int)] 27)).heap.size = w.heap.size + 2 := by simp
  have ev3 : (w.alloc (.cells #[.slice a n cap] 25)).heap.size = w.heap.size + 1 := by simp
  rw [fv3, ev3] at HH
  have sv3 : w.heap.size + 2 < (((w.alloc (.cells #[.slice a n cap] 25)).alloc (.cells #[.int .i64 pb, .int .i64 pc, .int .i64 (j : Int)] 27)).alloc (.cells #[.int .i64 0, .int .i64 0, .int .i64 0] 27)).heap.size := by simp
  generalize (((w.alloc (.cells #[.slice a n cap] 25)).alloc (.cells #[.int .i64 pb, .int .i64 pc, .int .i64 (j : Int)] 27)).alloc (.cells #[.int .i64 0, .int .i64 0, .int .i64 0] 27)) = v3 at HH sv3 ⊢
  clear ev3 fv3
  have kP_0 : v3.cell? ⟨w.heap.size + 1, 0, none⟩ = some (.int .i64 pb) := RowAt.cell (HH.out.row _ (List.Mem.tail _ (List.Mem.head _))) 0
  have kP_1 : v3.cell? ⟨w.heap.size + 1, 1, none⟩ = some (.int .i64 pc) := RowAt.cell (HH.out.row _ (List.Mem.tail _ (List.Mem.head _))) 1
  have kP_2 : v3.cell? ⟨w.heap.size + 1, 2, none⟩ = some (.int .i64 (j : Int)) := RowAt.cell (HH.out.row _ (List.Mem.tail _ (List.Mem.head _))) 2
  have kA_0 : v3.cell? ⟨w.heap.size, 0, none⟩ = some (.slice a n cap) := RowAt.cell (HH.out.row _ (List.Mem.tail _ (List.Mem.tail _ (List.Mem.head _)))) 0
  have sA := HH.out.below.size
  go_wp2_with (refine wpList_load_row rfl 27 (.tmp 3) rfl (w.heap.size + 1) rfl 27 #[.int .i64 pb, .int .i64 pc, .int .i64 (j : Int)] (0, 0) _ ((HH.out.row _ (List.Mem.tail _ (List.Mem.head _)))) Tryz.underlying27 rfl (by kernel_rfl) ?_)
  refine (specPlaceOk_is HX.out ((HH.out.fact _ (List.Mem.head _)).2)).mono ?_
  rintro e v4 ⟨rfl, hb⟩
  have sv4 := hb.size
  replace HH := hd_go HH hb
  clear kP_0 kP_1 kP_2 kA_0
  have kP_0 : v4.cell? ⟨w.heap.size + 1, 0, none⟩ = some (.int .i64 pb) := RowAt.cell (HH.out.row _ (List.Mem.tail _ (List.Mem.head _))) 0
  have kP_1 : v4.cell? ⟨w.heap.size + 1, 1, none⟩ = some (.int .i64 pc) := RowAt.cell (HH.out.row _ (List.Mem.tail _ (List.Mem.head _))) 1
  have kP_2 : v4.cell? ⟨w.heap.size + 1, 2, none⟩ = some (.int .i64 (j : Int)) := RowAt.cell (HH.out.row _ (List.Mem.tail _ (List.Mem.head _))) 2
  have kA_0 : v4.cell? ⟨w.heap.size, 0, none⟩ = some (.slice a n cap) := RowAt.cell (HH.out.row _ (List.Mem.tail _ (List.Mem.tail _ (List.Mem.head _)))) 0
  clear hb
  go_upto_region 3 with fail
  clear kP_0 kP_1 kP_2 kA_0
  refine wp_region_noPanic ?_
  refine wp_region_L (fun w' => Hd w [(w.heap.size + 2, #[.int .i64 0, .int .i64 0, .int .i64 0], 27), (w.heap.size + 1, #[.int .i64 pb, .int .i64 pc, .int .i64 (j : Int)], 27), (w.heap.size, #[.slice a n cap], 25)] [fun u => Dc u a n cap d] w') 13 (by kernel_rfl) ((HH.out.go (Below.refl _ _).drew)) (fun hHeld => ?_)
  clear HH
  have sv5 : v4.heap.size ≤ v4.drew.heap.size := Nat.le_refl _
  generalize v4.drew = v5 at hHeld sv5 ⊢
  refine takeL 0 10 (.pointer (some ⟨w.heap.size + 1, 0, none⟩)) rfl rfl (by kernel_rfl) (by kernel_rfl) (by kernel_rfl) (by kernel_rfl) (by kernel_rfl) (fun _ _ _ h => h) (Or.inl ⟨by kernel_rfl, fun w' hS' => by go_simp⟩) hHeld ?_
  (try simp only [Act.put, List.setIfInBounds_toArray, List.set_cons_zero, List.set_cons_succ])
  refine takeL 1 11 (.int .i64 pb) rfl rfl (by kernel_rfl) (by kernel_rfl) (by kernel_rfl) (by kernel_rfl) (by kernel_rfl) (fun _ _ _ h => h) (Or.inl ⟨by kernel_rfl, fun w' hS' => by have hc := RowAt.cell (hS'.row _ (List.Mem.tail _ (List.Mem.head _))) 0; go_simp⟩) hHeld ?_
  (try simp only [Act.put, List.setIfInBounds_toArray, List.set_cons_zero, List.set_cons_succ])
  refine takeL 2 12 (.pointer (some ⟨w.heap.size + 1, 1, none⟩)) rfl rfl (by kernel_rfl) (by kernel_rfl) (by kernel_rfl) (by kernel_rfl) (by kernel_rfl) (fun _ _ _ h => h) (Or.inl ⟨by kernel_rfl, fun w' hS' => by go_simp⟩) hHeld ?_
  (try simp only [Act.put, List.setIfInBounds_toArray, List.set_cons_zero, List.set_cons_succ])
  refine takeL 3 13 (.int .i64 pc) rfl rfl (by kernel_rfl) (by kernel_rfl) (by kernel_rfl) (by kernel_rfl) (by kernel_rfl) (fun _ _ _ h => h) (Or.inl ⟨by kernel_rfl, fun w' hS' => by have hc := RowAt.cell (hS'.row _ (List.Mem.tail _ (List.Mem.head _))) 1; go_simp⟩) hHeld ?_
  (try simp only [Act.put, List.setIfInBounds_toArray, List.set_cons_zero, List.set_cons_succ])
  refine takeL 4 14 (.agg #[.slice a n cap]) rfl rfl (by kernel_rfl) (by kernel_rfl) (by kernel_rfl) (by kernel_rfl) (by kernel_rfl) (fun _ _ _ h => h) (yieldsIf_load_row (by kernel_rfl) 25 (.tmp 2) rfl (w.heap.size) rfl 25 #[.slice a n cap] (0, 0) _ (fun w' h => h.row _ (List.Mem.tail _ (List.Mem.tail _ (List.Mem.head _)))) Tryz.underlying25 rfl (by kernel_rfl)) hHeld ?_
  (try simp only [Act.put, List.setIfInBounds_toArray, List.set_cons_zero, List.set_cons_succ])
  refine takeL 5 15 (.agg #[.int .i64 pb, .int .i64 pc, .int .i64 (j : Int)]) rfl rfl (by kernel_rfl) (by kernel_rfl) (by kernel_rfl) (by kernel_rfl) (by kernel_rfl) (fun _ _ _ h => h) (yieldsIf_load_row (by kernel_rfl) 27 (.tmp 3) rfl (w.heap.size + 1) rfl 27 #[.int .i64 pb, .int .i64 pc, .int .i64 (j : Int)] (0, 0) _ (fun w' h => h.row _ (List.Mem.tail _ (List.Mem.head _))) Tryz.underlying27 rfl (by kernel_rfl)) hHeld ?_
  (try simp only [Act.put, List.setIfInBounds_toArray, List.set_cons_zero, List.set_cons_succ])
  refine takeL 7 17 (.pointer (some ⟨w.heap.size + 1, 2, none⟩)) rfl rfl (by kernel_rfl) (by kernel_rfl) (by kernel_rfl) (by kernel_rfl) (by kernel_rfl) (fun _ _ _ h => h) (Or.inl ⟨by kernel_rfl, fun w' hS' => by go_simp⟩) hHeld ?_
  (try simp only [Act.put, List.setIfInBounds_toArray, List.set_cons_zero, List.set_cons_succ])
  refine takeL 8 18 (.int .i64 (j : Int)) rfl rfl (by kernel_rfl) (by kernel_rfl) (by kernel_rfl) (by kernel_rfl) (by kernel_rfl) (fun _ _ _ h => h) (Or.inl ⟨by kernel_rfl, fun w' hS' => by have hc := RowAt.cell (hS'.row _ (List.Mem.tail _ (List.Mem.head _))) 2; go_simp⟩) hHeld ?_
  (try simp only [Act.put, List.setIfInBounds_toArray, List.set_cons_zero, List.set_cons_succ])
  refine wpAnyL_ready (rs := [6]) (by kernel_rfl) (by simp) ?_
  refine AllReadyL.cons rfl (fun K hK => ?_) AllReadyL.nil
  go_simp
  go_at_call 24
  refine (specPlaceText_any ((hHeld.fact _ (List.Mem.head _)).2)).mono ?_
  rintro _ v6 ⟨⟨p1, m1, r1, rfl, hox⟩, hb⟩
  have sv6 := hb.size
  rw [HTX.out] at hox
  have hm1 : m1 = s.length := hox.len
  have hmr : m1 ≤ r1 := hox.txt.2.1
  have hrm : r1 ≤ maxLen := hox.txt.2.2.1
  unfold maxLen at hrm
  have hjm : j ≤ m1 := by have := HJ.out; omega
  have hjr : j ≤ r1 := by omega
  clear hm1
  have HX : Hid (Txt v6 p1 m1 r1 s) := (hox.txt : Txt v6 p1 m1 r1 s)
  go_wp2_with fail
  refine hK.out _ _ (fun _ => hHeld.go hb) (fun hHeld => ?_)
  replace hHeld := hHeld (by decide)
  clear hK K hb
  (try simp only [Act.put, List.setIfInBounds_toArray, List.set_cons_zero, List.set_cons_succ])
  refine takeL 9 19 (.slice p1 j r1) rfl rfl (by kernel_rfl) (by kernel_rfl) (by kernel_rfl) (by kernel_rfl) (by kernel_rfl) (fun _ _ _ h => h) (Or.inl ⟨by kernel_rfl, fun w' hS' => by go_simp⟩) hHeld ?_
  (try simp only [Act.put, List.setIfInBounds_toArray, List.set_cons_zero, List.set_cons_succ])
  refine wpAnyL_ready (rs := [10]) (by kernel_rfl) (by simp) ?_
  refine AllReadyL.cons rfl (fun K hK => ?_) AllReadyL.nil
  go_simp
  go_at_call 23
  refine (specTextWas_any _ _ _ _ _ (txt_take HX.out hjm)).mono ?_
  rintro _ v7 ⟨rfl, hb⟩
  have sv7 := hb.size
  obtain ⟨N, HN⟩ : ∃ N, Hid ((wasL (s.take j)).length = N) := ⟨_, rfl⟩
  obtain ⟨S, HS⟩ : ∃ S, Hid (strOfNums (pickL noIn (s.take j)) = S) := ⟨_, rfl⟩
  have hSN : S.size = N := by rw [← HS.out, strSize, ← wasL_eq, HN.out]
  rw [HS.out]
  replace HX : Hid (Txt v7 p1 m1 r1 s) := (mono_txt _ _ _ _ : Mono _) _ _ HX.out hb
  go_wp2_with fail
  refine hK.out _ _ (fun _ => hHeld.go hb) (fun hHeld => ?_)
  replace hHeld := hHeld (by decide)
  clear hK K hb
  (try simp only [Act.put, List.setIfInBounds_toArray, List.set_cons_zero, List.set_cons_succ])
  refine takeL 11 21 (.int .i64 (N : Int)) rfl rfl (by kernel_rfl) (by kernel_rfl) (by kernel_rfl) (by kernel_rfl) (by kernel_rfl) (fun _ _ _ h => h) (Or.inl ⟨by kernel_rfl, fun w' hS' => by have hSN' := hSN; go_simp⟩) hHeld ?_
  (try simp only [Act.put, List.setIfInBounds_toArray, List.set_cons_zero, List.set_cons_succ])
  refine takeL 12 22 (.agg #[.int .i64 pb, .int .i64 pc, .int .i64 (N : Int)]) rfl rfl (by kernel_rfl) (by kernel_rfl) (by kernel_rfl) (by kernel_rfl) (by kernel_rfl) (fun _ _ _ h => h) (Or.inl ⟨by kernel_rfl, fun w' hS' => by go_simp⟩) hHeld ?_
  (try simp only [Act.put, List.setIfInBounds_toArray, List.set_cons_zero, List.set_cons_succ])
  refine wpAnyL_ready (rs := [13]) (by kernel_rfl) (by simp) ?_
  refine AllReadyL.cons rfl (fun K hK => ?_) AllReadyL.nil
  rw [if_pos (by kernel_rfl)]
  refine wp_store_row 27 (.tmp 4) (.tmp 22) rfl (w.heap.size + 2) #[.int .i64 pb, .int .i64 pc, .int .i64 (N : Int)] rfl rfl 27 _ ((hHeld.row _ (List.Mem.head _))) (by kernel_rfl) rfl (by simp [Value.oneCell']) ?_
  refine hK.out _ _ (fun h => absurd rfl h) (fun _ => ?_)
  clear hK K
  (try simp only [Act.put, List.setIfInBounds_toArray])
  refine wpAnyL_done (by kernel_rfl) ?_ _
  refine NoPanic.normal ?_
  have HH : Hid (Hd w _ _ v7) := hHeld
  clear hHeld
  replace HH := hd_add HH (fun u => Txt u p1 m1 r1 s) (mono_txt _ _ _ _) HX.out
  clear HX
  have kP_0 : v7.cell? ⟨w.heap.size + 1, 0, none⟩ = some (.int .i64 pb) := RowAt.cell (HH.out.row _ (List.Mem.tail _ (List.Mem.head _))) 0
  have kP_1 : v7.cell? ⟨w.heap.size + 1, 1, none⟩ = some (.int .i64 pc) := RowAt.cell (HH.out.row _ (List.Mem.tail _ (List.Mem.head _))) 1
  have kP_2 : v7.cell? ⟨w.heap.size + 1, 2, none⟩ = some (.int .i64 (j : Int)) := RowAt.cell (HH.out.row _ (List.Mem.tail _ (List.Mem.head _))) 2
  have kA_0 : v7.cell? ⟨w.heap.size, 0, none⟩ = some (.slice a n cap) := RowAt.cell (HH.out.row _ (List.Mem.tail _ (List.Mem.tail _ (List.Mem.head _)))) 0
  go_wp2_with fail
  rw [HN.out]
  refine bodyPost_ret (v := .agg #[.int .i64 pb, .int .i64 pc, .int .i64 (N : Int)]) (results_cell_row (p := 4) (ty := 27) rfl _ _ (w.heap.size + 2) 27 _ _ _ rfl (RowAt.setRow ((HH.out.row _ (List.Mem.head _))) _) Tryz.underlying27 rfl (by kernel_rfl)) rfl ⟨rfl, below_row HH.out.below (by omega) _⟩
theorem specSpotWas_any {a : Option Addr} {n cap : Nat} {d : List Bl} {pb pc pa x y z : Int} {w : World} (hx : spotF wasL d pb pc pa = (x, y, z)) (h : Dc w a n cap d) :
    Calls Tryz.prog 9 #[.agg #[.slice a n cap], .agg #[.int .i64 pb, .int .i64 pc, .int .i64 pa]] w fun e w' => e = .returned (.agg #[.int .i64 x, .int .i64 y, .int .i64 z]) ∧ Below w.heap.size w w' := by
  unfold spotF at hx
  cases hp : plT d pb pc pa with
  | none =>
    rw [hp] at hx
    simp only [Prod.mk.injEq] at hx
    obtain ⟨rfl, rfl, rfl⟩ := hx
    exact specSpotWas_no h hp
  | some s =>
    rw [hp] at hx
    simp only [Prod.mk.injEq] at hx
    obtain ⟨rfl, rfl, rfl⟩ := hx
    have h2 := hp
    unfold plT at h2
    split at h2
    · obtain ⟨i, rfl, -, -, h0, h1⟩ := placeT_parts2 h2
      obtain ⟨j, rfl⟩ : ∃ j : Nat, pa = j := ⟨pa.toNat, by omega⟩
      rw [Int.toNat_natCast]
      exact specSpotWas_yes h hp (by omega)
    · cases h2
end Go.Proofs.YtccoeachemnbnaaGreatDoor
namespace Go.Proofs.YtccoeachemnbnaaGreatDoor
open Go.RowKit

set_option maxHeartbeats 2000000 in
theorem eqSign_any (b i o b' i' o' : Int) (w : World) :
    Calls Tryz.prog 87 #[.agg #[.int .u8 b, .int .i64 i, .int .i64 o], .agg #[.int .u8 b', .int .i64 i', .int .i64 o']] w fun e w' => e = .returned (.bool (decide (b = b' ∧ i = i' ∧ o = o'))) ∧ Below w.heap.size w w' := by
  by_cases h : b = b' ∧ i = i' ∧ o = o'
  · obtain ⟨rfl, rfl, rfl⟩ := h
    rw [decide_eq_true ⟨rfl, rfl, rfl⟩]
    go_enter Tryz.func87, Tryz.ntmps87
    go_wp2
    go_ret
    exact ⟨rfl, ((Below.refl _ _).alloc (Nat.le_refl _) _).alloc (by simp) _⟩
  · rw [decide_eq_false h]
    go_enter Tryz.func87, Tryz.ntmps87
    go_wp2
    · go_ret
      exact ⟨rfl, ((Below.refl _ _).alloc (Nat.le_refl _) _).alloc (by simp) _⟩
    · go_ret
      exact ⟨rfl, ((Below.refl _ _).alloc (Nat.le_refl _) _).alloc (by simp) _⟩
    · go_ret
      exact ⟨rfl, ((Below.refl _ _).alloc (Nat.le_refl _) _).alloc (by simp) _⟩
set_option maxHeartbeats 1000000 in
theorem toSign_any (b i o : Int) (w : World) :
    Calls Tryz.prog 85 #[.agg #[.int .u8 b, .int .i64 i, .int .i64 o]] w fun e w' => e = .returned (.agg #[.int .u8 b, .int .i64 i, .int .i64 o]) ∧ Below w.heap.size w w' := by
  go_enter Tryz.func85, Tryz.ntmps85
  go_wp2
  refine bodyPost_ret (v := .agg #[.int .u8 b, .int .i64 i, .int .i64 o]) (by simp [results, Tryz.results85, go_sem]) rfl ⟨rfl, ?_⟩
  exact (((Below.refl _ _).alloc (Nat.le_refl _) _).alloc (by simp) _).alloc (by simp; omega) _

set_option maxHeartbeats 1000000 in
theorem szSignS_any (a : Option Addr) (n cap : Nat) (w : World) (hn : n ≤ cap) (hc : cap ≤ maxLen) :
    Calls Tryz.prog 68 #[.slice a n cap, .int .i64 1048576] w fun e w' => e = .returned (.int .i64 (if n ≤ 1048576 then 1048576 - n else -1)) ∧ w' = w := by
  unfold maxLen at hc
  by_cases h : n ≤ 1048576
  · rw [if_pos h]
    go_enter Tryz.func68, Tryz.ntmps68
    go_wp2
    go_ret
    exact ⟨rfl, rfl⟩
  · rw [if_neg h]
    go_enter Tryz.func68, Tryz.ntmps68
    go_wp2
    go_ret
    exact ⟨rfl, rfl⟩

set_option maxHeartbeats 1000000 in
theorem toSignS_any (a : Option Addr) (n cap : Nat) (l : List Sg) (w : World) (h : Txt w a n cap l) (hn : n ≤ 1048576) :
    Calls Tryz.prog 70 #[.slice a n cap] w fun e w' => e = .returned (.slice (some ⟨w.heap.size, 0, none⟩) n n) ∧ w'.ownsRow w.heap.size 82 3 (.slice (some ⟨w.heap.size, 0, none⟩) n n) n (flat l) ∧ Below w.heap.size w w' := by
  obtain ⟨rfl, hc, hm, hl⟩ := h
  unfold maxLen at hm
  obtain ⟨i0, hi, hz0, hz1, hz2⟩ := info_parts Tryz.info82
  rcases hl with rfl | ⟨b, off, rfl, hbw, hl⟩
  · go_enter Tryz.func70, Tryz.ntmps70
    go_wp2_with (at_make; refine wpList_make_full _ rfl (.tmp 6) (.tmp 6) 47 rfl w.heap.size 82 i0 _ 3 Tryz.underlying47 hi hz0 hz1 .i64 .i64 _ _ 0 rfl rfl rfl rfl (by rw [hz2]; omega) (by unfold maxLen; omega) (Nat.le_refl _) ?_; intro w1 hown hgrow)
    have hb1 : Below w.heap.size w w1 := (Below.refl _ _).grown hgrow (Nat.le_refl _) (fun k hk => by simp at hk)
    refine wp_loop_rounds 1 ?_
    rw [rounds_succ]
    go_wp2_with fail
    go_ret
    exact ⟨rfl, by simpa [flat, madeCells] using hown, hb1⟩
  · go_enter Tryz.func70, Tryz.ntmps70
    go_wp2_with (at_make; refine wpList_make_full _ rfl (.tmp 6) (.tmp 6) 47 rfl w.heap.size 82 i0 _ 3 Tryz.underlying47 hi hz0 hz1 .i64 .i64 _ _ l.length rfl rfl rfl rfl (by rw [hz2]; omega) (by unfold maxLen; omega) (Nat.le_refl _) ?_; intro w1 hown hgrow)
    have hb1 : Below w.heap.size w w1 := (Below.refl _ _).grown hgrow (Nat.le_refl _) (fun k hk => by simp at hk)
    clear hgrow
    obtain ⟨xs0, hown⟩ : ∃ xs, w1.ownsRow w.heap.size 82 3 (.slice (some ⟨w.heap.size, 0, none⟩) l.length l.length) l.length xs := ⟨_, hown⟩
    go_loopw [4] (fun i wr => ∃ (k : Nat) (xs : List Value), k ≤ l.length ∧ i = .int .i64 k ∧ wr.ownsRow w.heap.size 82 3 (.slice (some ⟨w.heap.size, 0, none⟩) l.length l.length) l.length xs ∧ xs.take (k * 3) = flat (l.take k) ∧ Below w.heap.size w wr) (fun i _ => l.length - (intOf i).toNat)
    case atStart => exact ⟨0, xs0, Nat.zero_le _, rfl, hown, by simp [flat], hb1⟩
    case round =>
      obtain ⟨k, xs, hk, rfl, ho, hx, hbl⟩ := hrel
      have hsz := hbl.size
      have HX : Hid (xs.take (k * 3) = flat (l.take k)) := hx
      have HO : Hid (wr.ownsRow w.heap.size 82 3 (.slice (some ⟨w.heap.size, 0, none⟩) l.length l.length) l.length xs) := ho
      clear hx ho hown hb1
      by_cases hlt : k < l.length
      · obtain ⟨c0, c1, c2⟩ := (hl.below hbl hbw) k hlt
        clear hl
        obtain ⟨s, hs⟩ : ∃ s, s = l.getD k (0, 0, 0) := ⟨_, rfl⟩
        rw [← hs] at c0 c1 c2
        have HS : Hid (s = l.getD k (0, 0, 0)) := hs
        clear hs
        go_wp2_with fail
        refine (toSign_any _ _ _ _).mono ?_
        rintro e w2 ⟨rfl, hb2⟩
        have ho2 := own_below HO.out hb2
        have f0 := ho2.frozenAt (k * 3)
        have f1 := ho2.frozenAt (k * 3 + 1)
        have f2 := ho2.frozenAt (k * 3 + 2)
        have hxl := ho2.1
        obtain ⟨u0, d0⟩ : ∃ u, w2.cell? ⟨w.heap.size, k * 3, none⟩ = some u := ⟨_, (ho2.cellAt (k * 3) (by omega)).trans (List.getElem?_eq_getElem (by omega))⟩
        obtain ⟨u1, d1⟩ : ∃ u, w2.cell? ⟨w.heap.size, k * 3 + 1, none⟩ = some u := ⟨_, (ho2.cellAt (k * 3 + 1) (by omega)).trans (List.getElem?_eq_getElem (by omega))⟩
        obtain ⟨u2, d2⟩ : ∃ u, w2.cell? ⟨w.heap.size, k * 3 + 2, none⟩ = some u := ⟨_, (ho2.cellAt (k * 3 + 2) (by omega)).trans (List.getElem?_eq_getElem (by omega))⟩
        have HO2 : Hid (w2.ownsRow w.heap.size 82 3 (.slice (some ⟨w.heap.size, 0, none⟩) l.length l.length) l.length xs) := ho2
        clear ho2 HO hxl
        go_wp2_with fail
        go_roundw
        case rel =>
          obtain ⟨p0, _⟩ := HO2.out.stored (k * 3) (.int .u8 s.1)
          obtain ⟨p1, _⟩ := p0.stored (k * 3 + 1) (.int .i64 s.2.1)
          obtain ⟨p2, _⟩ := p1.stored (k * 3 + 2) (.int .i64 s.2.2)
          refine ⟨k + 1, _, by omega, by go_num, p2, ?_, ?_⟩
          · rw [take_set3 _ _ _ _ _ (by have := HO2.out.1; omega), HX.out, flat_take_succ l k hlt, ← HS.out]; rfl
          · exact (((hbl.trans (hb2.mono hsz)).setCell (Nat.le_refl _) _).setCell (Nat.le_refl _) _).setCell (Nat.le_refl _) _
        case measure => simp [intOf]; omega
      · go_wp2_with fail
        go_ret
        have hxx : xs = flat l := by
          have h1 := HX.out
          have h2 := HO.out.1
          rw [List.take_of_length_le (by omega), List.take_of_length_le (by omega)] at h1
          exact h1
        exact ⟨rfl, hxx ▸ HO.out, hbl⟩

theorem sg_eq (s t : Sg) : (s = t) ↔ (s.1 = t.1 ∧ s.2.1 = t.2.1 ∧ s.2.2 = t.2.2) := by
  obtain ⟨a, b, c⟩ := s
  obtain ⟨a', b', c'⟩ := t
  simp

theorem list_ne_at (l m : List Sg) (k : Nat) (hne : ¬ ((l.getD k (0, 0, 0)).1 = (m.getD k (0, 0, 0)).1 ∧ (l.getD k (0, 0, 0)).2.1 = (m.getD k (0, 0, 0)).2.1 ∧ (l.getD k (0, 0, 0)).2.2 = (m.getD k (0, 0, 0)).2.2)) : l ≠ m := by
  rintro rfl
  exact hne ⟨rfl, rfl, rfl⟩

theorem take_eq_succ (l m : List Sg) (k : Nat) (h : k < l.length) (hl : l.length = m.length) (he : l.take k = m.take k) (hs : l.getD k (0, 0, 0) = m.getD k (0, 0, 0)) : l.take (k + 1) = m.take (k + 1) := by
  rw [List.take_succ_eq_append_getElem h, List.take_succ_eq_append_getElem (by omega), he]
  simp [List.getD, h, show k < m.length by omega] at hs
  rw [hs]

theorem eqSign_is {s t : Sg} {x : Bool} (h : decide (s.1 = t.1 ∧ s.2.1 = t.2.1 ∧ s.2.2 = t.2.2) = x) (w : World) :
    Calls Tryz.prog 87 #[.agg #[.int .u8 s.1, .int .i64 s.2.1, .int .i64 s.2.2], .agg #[.int .u8 t.1, .int .i64 t.2.1, .int .i64 t.2.2]] w fun e w' => e = .returned (.bool x) ∧ Below w.heap.size w w' := h ▸ eqSign_any s.1 s.2.1 s.2.2 t.1 t.2.1 t.2.2 w

set_option maxHeartbeats 1000000 in
theorem eqSignS_any (a : Option Addr) (n cap : Nat) (l : List Sg) (a' : Option Addr) (n' cap' : Nat) (m : List Sg) (w : World) (h : Txt w a n cap l) (h' : Txt w a' n' cap' m) :
    Calls Tryz.prog 72 #[.slice a n cap, .slice a' n' cap'] w fun e w' => e = .returned (.bool (decide (l = m))) ∧ Below w.heap.size w w' := by
  obtain ⟨rfl, hc, hm, hl⟩ := h
  obtain ⟨rfl, hc', hm', hl'⟩ := h'
  unfold maxLen at hm hm'
  by_cases hlen : l.length = m.length
  · have hbq : ((l.length : Int) != (m.length : Int)) = false := by simp [hlen]
    rcases hl with rfl | ⟨b, off, rfl, hbw, hl⟩
    · obtain rfl : m = [] := List.eq_nil_of_length_eq_zero (by simpa using hlen.symm)
      go_enter Tryz.func72, Tryz.ntmps72
      go_wp2_with fail
      refine wp_loop_rounds 1 ?_
      rw [rounds_succ]
      go_wp2_with fail
      go_ret
      exact ⟨rfl, Below.refl _ _⟩
    · rcases hl' with rfl | ⟨b', off', rfl, hbw', hl'⟩
      · obtain rfl : l = [] := List.eq_nil_of_length_eq_zero (by simpa using hlen)
        go_enter Tryz.func72, Tryz.ntmps72
        go_wp2_with fail
        refine wp_loop_rounds 1 ?_
        rw [rounds_succ]
        go_wp2_with fail
        go_ret
        exact ⟨rfl, Below.refl _ _⟩
      · have HL : Hid (l.length = m.length) := hlen
        have hl1 : l.length ≤ m.length := by omega
        have hl2 : m.length ≤ l.length := by omega
        clear hlen
        go_enter Tryz.func72, Tryz.ntmps72
        go_wp2_with fail
        go_loopw [5] (fun i wr => ∃ (k : Nat), k ≤ l.length ∧ i = .int .i64 k ∧ l.take k = m.take k ∧ Below w.heap.size w wr) (fun i _ => l.length - (intOf i).toNat)
        case atStart => exact ⟨0, Nat.zero_le _, rfl, by simp, Below.refl _ _⟩
        case round =>
          obtain ⟨k, hk, rfl, ht, hbl⟩ := hrel
          have hsz := hbl.size
          have HT : Hid (l.take k = m.take k) := ht
          clear ht
          by_cases hlt : k < l.length
          · have hlt' : k < m.length := by omega
            obtain ⟨c0, c1, c2⟩ := (hl.below hbl hbw) k hlt
            obtain ⟨d0, d1, d2⟩ := (hl'.below hbl hbw') k hlt'
            clear hl hl'
            obtain ⟨s, hs⟩ : ∃ s, s = l.getD k (0, 0, 0) := ⟨_, rfl⟩
            obtain ⟨t, ht⟩ : ∃ t, t = m.getD k (0, 0, 0) := ⟨_, rfl⟩
            rw [← hs] at c0 c1 c2
            rw [← ht] at d0 d1 d2
            have HS : Hid (s = l.getD k (0, 0, 0)) := hs
            have HM : Hid (t = m.getD k (0, 0, 0)) := ht
            clear hs ht
            cases hb : decide (s.1 = t.1 ∧ s.2.1 = t.2.1 ∧ s.2.2 = t.2.2)
            · have HF : Hid (decide (l = m) = false) := by
                refine decide_eq_false (list_ne_at l m k ?_)
                rw [← HS.out, ← HM.out]
                exact of_decide_eq_false hb
              have HB : Hid (decide (s.1 = t.1 ∧ s.2.1 = t.2.1 ∧ s.2.2 = t.2.2) = false) := hb
              clear hb
              go_wp2_with fail
              go_region_with (go_at_call 87; refine (eqSign_is (s := s) (t := t) HB.out _).mono ?_; rintro e w1 ⟨rfl, hb1⟩)
              all_goals
                go_wp2_with fail
                go_ret
                exact ⟨by rw [HF.out]; rfl, hbl.drew.trans (hb1.mono hsz)⟩
            · have HB : Hid (decide (s.1 = t.1 ∧ s.2.1 = t.2.1 ∧ s.2.2 = t.2.2) = true) := hb
              clear hb
              go_wp2_with fail
              go_region_with (go_at_call 87; refine (eqSign_is (s := s) (t := t) HB.out _).mono ?_; rintro e w1 ⟨rfl, hb1⟩)
              all_goals
                go_wp2_with fail
                go_roundw
                case rel => exact ⟨k + 1, by omega, by go_num, take_eq_succ l m k hlt HL.out HT.out (by rw [← HS.out, ← HM.out]; exact (sg_eq s t).2 (of_decide_eq_true HB.out)), hbl.drew.trans (hb1.mono hsz)⟩
                case measure => simp [intOf]; omega
          · go_wp2_with fail
            go_ret
            refine ⟨?_, hbl⟩
            have := HT.out
            rw [List.take_of_length_le (by omega), List.take_of_length_le (by omega)] at this
            rw [decide_eq_true this]; rfl
  · have hbq : ((l.length : Int) != (m.length : Int)) = true := by simp; omega
    rw [decide_eq_false (fun e => hlen (by rw [e]))]
    go_enter Tryz.func72, Tryz.ntmps72
    go_wp2_with fail
    go_ret
    exact ⟨rfl, Below.refl _ _⟩
theorem szSignS_is (a : Option Addr) (n cap : Nat) (w : World) (hn : n ≤ cap) (hc : cap ≤ maxLen) {x : Int} (h : (if n ≤ 1048576 then 1048576 - (n : Int) else -1) = x) :
    Calls Tryz.prog 68 #[.slice a n cap, .int .i64 1048576] w fun e w' => e = .returned (.int .i64 x) ∧ w' = w := h ▸ szSignS_any a n cap w hn hc

theorem eqSignS_same (a : Option Addr) (n cap : Nat) (l : List Sg) (a' : Option Addr) (n' cap' : Nat) (w : World) (h : Txt w a n cap l) (h' : Txt w a' n' cap' l) :
    Calls Tryz.prog 72 #[.slice a n cap, .slice a' n' cap'] w fun e w' => e = .returned (.bool true) ∧ Below w.heap.size w w' := by
  have := eqSignS_any a n cap l a' n' cap' l w h h'
  rwa [decide_eq_true (rfl : l = l)] at this

end Go.Proofs.YtccoeachemnbnaaGreatDoor
namespace Go.Proofs.YtccoeachemnbnaaGreatDoor
open Go.RowKit


set_option maxHeartbeats 1000000 in
theorem szSignS_l (a : Option Addr) (n cap : Nat) (left : Int) (w : World) (hn : n ≤ cap) (hc : cap ≤ maxLen) (h0 : 0 ≤ left) (h1 : left ≤ 1048576) {x : Int} (hx : (if (n : Int) ≤ left then left - n else -1) = x) :
    Calls Tryz.prog 68 #[.slice a n cap, .int .i64 left] w fun e w' => e = .returned (.int .i64 x) ∧ w' = w := by
  unfold maxLen at hc
  subst hx
  by_cases h : (n : Int) ≤ left
  · rw [if_pos h]
    have k0 : ¬ left - n < 0 := by omega
    go_enter Tryz.func68, Tryz.ntmps68
    go_wp2
    go_ret
    exact ⟨rfl, rfl⟩
  · rw [if_neg h]
    have k0 : left - n < 0 := by omega
    go_enter Tryz.func68, Tryz.ntmps68
    go_wp2
    go_ret
    exact ⟨rfl, rfl⟩
set_option maxHeartbeats 1000000 in
theorem szCell_l (r c d g : Int) (a : Option Addr) (n cap : Nat) (left : Int) (w : World) (hn : n ≤ cap) (hc : cap ≤ maxLen) (h0 : 0 ≤ left) (h1 : left ≤ 1048576) {x : Int} (hx : (if (n : Int) ≤ left then left - n else -1) = x) :
    Calls Tryz.prog 95 #[.agg #[.int .i64 r, .int .i64 c, .int .i64 d, .int .i64 g, .slice a n cap], .int .i64 left] w fun e w' => e = .returned (.int .i64 x) ∧ Below w.heap.size w w' := by
  have HX : Hid ((if (n : Int) ≤ left then left - n else -1) = x) := hx
  by_cases hneg : x < 0
  · have hx1 : x = -1 := by split at hx <;> omega
    subst hx1
    clear hx
    go_enter Tryz.func95, Tryz.ntmps95
    go_wp2_with (go_at_call 68; refine (szSignS_l _ _ _ _ _ hn hc h0 h1 HX.out).mono ?_; rintro e w1 ⟨rfl, rfl⟩)
    go_ret
    exact ⟨rfl, (Below.refl _ _).alloc (Nat.le_refl _) _⟩
  · clear hx
    go_enter Tryz.func95, Tryz.ntmps95
    go_wp2_with (go_at_call 68; refine (szSignS_l _ _ _ _ _ hn hc h0 h1 HX.out).mono ?_; rintro e w1 ⟨rfl, rfl⟩)
    go_ret
    exact ⟨rfl, (Below.refl _ _).alloc (Nat.le_refl _) _⟩

/-- How many signs the cells have. -/
def totT (l : List Cl) : Nat := (l.map fun x => x.2.2.2.2.length).sum
theorem totT_append (a b : List Cl) : totT (a ++ b) = totT a + totT b := by
  unfold totT
  rw [List.map_append, List.sum_append]
theorem totT_take (l : List Cl) (k : Nat) (hk : k < l.length) : totT (l.take (k + 1)) = totT (l.take k) + (l.getD k cl0).2.2.2.2.length := by
  rw [List.take_succ_eq_append_getElem hk, totT_append, show l.getD k cl0 = l[k] from by simp [List.getD, hk]]
  rfl
theorem totT_le (l : List Cl) (k : Nat) (hk : k < l.length) : (l.getD k cl0).2.2.2.2.length ≤ totT l := by
  have h1 := totT_take l k hk
  have h2 := totT_append (l.take (k + 1)) (l.drop (k + 1))
  rw [List.take_append_drop] at h2
  omega
set_option maxHeartbeats 2000000 in
theorem szCellS_any (a : Option Addr) (n cap : Nat) (l : List Cl) (w : World) (h : Tab w a n cap l) :
    Calls Tryz.prog 84 #[.slice a n cap, .int .i64 1048576] w fun e w' => (e = .returned (.int .i64 (-1)) ∨ (l.length + totT l ≤ 1048576 ∧ e = .returned (.int .i64 (1048576 - l.length - totT l)))) ∧ Below w.heap.size w w' := by
  obtain ⟨rfl, hc, hm, hl⟩ := h
  have hmm := hm
  unfold maxLen at hm
  by_cases h0 : l.length ≤ 1048576
  · go_enter Tryz.func84, Tryz.ntmps84
    go_wp2_with fail
    go_loopw [1, 5] (fun lv i wr => ∃ k : Nat, k ≤ l.length ∧ i = .int .i64 k ∧ l.length + totT (l.take k) ≤ 1048576 ∧ lv = .int .i64 (1048576 - (l.length : Int) - (totT (l.take k) : Nat)) ∧ Below w.heap.size w wr) (fun _ i _ => l.length - (intOf i).toNat)
    case atStart => exact ⟨0, Nat.zero_le _, rfl, by simpa [totT] using h0, by simp [totT], Below.refl _ _⟩
    case round =>
      obtain ⟨k, hk, rfl, ht, rfl, hb⟩ := hrel
      have HB : Hid (Below w.heap.size w wr) := hb
      by_cases hlt : k < l.length
      · rcases hl with e | ⟨b, off, rfl, hbw, hl⟩
        · rw [e] at hlt
          exact absurd hlt (by simp)
        obtain ⟨c0, c1, c2, c3, ta, tn, tc, c4, htx⟩ := (hl k hlt).below hb hbw
        obtain ⟨e1, e2, e3, -⟩ := htx
        have HT := totT_take l k hlt
        rw [← e1] at HT
        have HT' : Hid (totT (l.take (k + 1)) = totT (l.take k) + tn) := HT
        have sz := hb.size
        clear hl HT hb e1
        generalize totT (l.take k) = m at ht HT' ⊢
        by_cases hle : (tn : Int) ≤ 1048576 - (l.length : Int) - m
        · have HX : Hid ((if (tn : Int) ≤ 1048576 - (l.length : Int) - m then 1048576 - (l.length : Int) - m - tn else -1) = 1048576 - (l.length : Int) - m - tn) := if_pos hle
          have n0 : ¬ 1048576 - (l.length : Int) - m - tn < 0 := by omega
          go_wp2_with (go_at_call 95; refine (szCell_l _ _ _ _ _ _ _ _ _ e2 e3 (by omega) (by omega) HX.out).mono ?_; rintro e w1 ⟨rfl, hb1⟩)
          go_roundw
          case rel => exact ⟨k + 1, by omega, by go_num, by rw [HT'.out]; omega, by rw [HT'.out]; congr 1; omega, HB.out.trans (hb1.mono sz)⟩
          case measure => simp [intOf]; omega
        · have HX : Hid ((if (tn : Int) ≤ 1048576 - (l.length : Int) - m then 1048576 - (l.length : Int) - m - tn else -1) = -1) := if_neg hle
          go_wp2_with (go_at_call 95; refine (szCell_l _ _ _ _ _ _ _ _ _ e2 e3 (by omega) (by omega) HX.out).mono ?_; rintro e w1 ⟨rfl, hb1⟩)
          go_ret
          exact ⟨.inl rfl, HB.out.trans (hb1.mono sz)⟩
      · have e : l.take k = l := List.take_of_length_le (by omega)
        rw [e] at ht ⊢
        go_wp2_with fail
        go_ret
        exact ⟨.inr ⟨ht, rfl⟩, HB.out⟩
  · go_enter Tryz.func84, Tryz.ntmps84
    go_wp2_with fail
    go_ret
    exact ⟨.inl rfl, Below.refl _ _⟩
set_option maxHeartbeats 1000000 in
theorem szTable_any (R C : Int) (a : Option Addr) (n cap : Nat) (l : List Cl) (w : World) (h : Tab w a n cap l) :
    Calls Tryz.prog 69 #[.agg #[.int .i64 R, .int .i64 C, .slice a n cap], .int .i64 1048576] w fun e w' => (e = .returned (.int .i64 (-1)) ∨ (l.length + totT l ≤ 1048576 ∧ e = .returned (.int .i64 (1048576 - l.length - totT l)))) ∧ Below w.heap.size w w' := by
  have H : Hid (Tab w a n cap l) := h
  clear h
  go_enter Tryz.func69, Tryz.ntmps69
  go_wp2_with (go_at_call 84; refine (szCellS_any _ _ _ l _ (H.out.below ((Below.refl _ _).alloc (Nat.le_refl _) _))).mono ?_; rintro e w1 ⟨(rfl | ⟨hle, rfl⟩), hb1⟩)
  · go_ret
    exact ⟨.inl rfl, ((Below.refl _ _).alloc (Nat.le_refl _) _).trans (hb1.mono (by simp))⟩
  · go_ret
    exact ⟨.inr ⟨hle, rfl⟩, ((Below.refl _ _).alloc (Nat.le_refl _) _).trans (hb1.mono (by simp))⟩

set_option maxHeartbeats 2000000 in
theorem toCell_any (r c d g : Int) (a : Option Addr) (n cap : Nat) (l : List Sg) (w : World) (h : Txt w a n cap l) (hn : n ≤ 1048576) :
    Calls Tryz.prog 96 #[.agg #[.int .i64 r, .int .i64 c, .int .i64 d, .int .i64 g, .slice a n cap]] w fun e w' => (∃ b, w.heap.size ≤ b ∧ e = .returned (.agg #[.int .i64 r, .int .i64 c, .int .i64 d, .int .i64 g, .slice (some ⟨b, 0, none⟩) n n]) ∧ Own w' w.heap.size (.slice (some ⟨b, 0, none⟩) n n) l) ∧ Below w.heap.size w w' := by
  have H : Hid (Txt w a n cap l) := h
  clear h
  go_enter Tryz.func96, Tryz.ntmps96
  go_upto_region 6 with fail
  have B0 : Below w.heap.size w (((w.alloc (.cells #[.int .i64 r, .int .i64 c, .int .i64 d, .int .i64 g, .slice a n cap] 161)).alloc (.cells #[.int .i64 0, .int .i64 0, .int .i64 0, .int .i64 0, .slice none 0 0] 86)).alloc (.cells #[.int .i64 r, .int .i64 c, .int .i64 d, .int .i64 g, .slice none 0 0] 86)) := (((Below.refl _ _).alloc (Nat.le_refl _) _).alloc (by simp) _).alloc (by simp; omega) _
  have G0 : RowAt (((w.alloc (.cells #[.int .i64 r, .int .i64 c, .int .i64 d, .int .i64 g, .slice a n cap] 161)).alloc (.cells #[.int .i64 0, .int .i64 0, .int .i64 0, .int .i64 0, .slice none 0 0] 86)).alloc (.cells #[.int .i64 r, .int .i64 c, .int .i64 d, .int .i64 g, .slice none 0 0] 86)) w.heap.size #[.int .i64 r, .int .i64 c, .int .i64 d, .int .i64 g, .slice a n cap] 161 := ((rowAt_new w _ _).alloc _).alloc _
  have G1 : RowAt (((w.alloc (.cells #[.int .i64 r, .int .i64 c, .int .i64 d, .int .i64 g, .slice a n cap] 161)).alloc (.cells #[.int .i64 0, .int .i64 0, .int .i64 0, .int .i64 0, .slice none 0 0] 86)).alloc (.cells #[.int .i64 r, .int .i64 c, .int .i64 d, .int .i64 g, .slice none 0 0] 86)) (w.heap.size + 1) #[.int .i64 0, .int .i64 0, .int .i64 0, .int .i64 0, .slice none 0 0] 86 := by
    have := (rowAt_new (w.alloc (.cells #[.int .i64 r, .int .i64 c, .int .i64 d, .int .i64 g, .slice a n cap] 161)) #[.int .i64 0, .int .i64 0, .int .i64 0, .int .i64 0, .slice none 0 0] 86).alloc (.cells #[.int .i64 r, .int .i64 c, .int .i64 d, .int .i64 g, .slice none 0 0] 86)
    simpa using this
  have G2 : RowAt (((w.alloc (.cells #[.int .i64 r, .int .i64 c, .int .i64 d, .int .i64 g, .slice a n cap] 161)).alloc (.cells #[.int .i64 0, .int .i64 0, .int .i64 0, .int .i64 0, .slice none 0 0] 86)).alloc (.cells #[.int .i64 r, .int .i64 c, .int .i64 d, .int .i64 g, .slice none 0 0] 86)) (w.heap.size + 1 + 1) #[.int .i64 r, .int .i64 c, .int .i64 d, .int .i64 g, .slice none 0 0] 86 := by
    have := (rowAt_new ((w.alloc (.cells #[.int .i64 r, .int .i64 c, .int .i64 d, .int .i64 g, .slice a n cap] 161)).alloc (.cells #[.int .i64 0, .int .i64 0, .int .i64 0, .int .i64 0, .slice none 0 0] 86)) #[.int .i64 r, .int .i64 c, .int .i64 d, .int .i64 g, .slice none 0 0] 86)
    simpa using this
  generalize (((w.alloc (.cells #[.int .i64 r, .int .i64 c, .int .i64 d, .int .i64 g, .slice a n cap] 161)).alloc (.cells #[.int .i64 0, .int .i64 0, .int .i64 0, .int .i64 0, .slice none 0 0] 86)).alloc (.cells #[.int .i64 r, .int .i64 c, .int .i64 d, .int .i64 g, .slice none 0 0] 86)) = v0 at B0 G0 G1 G2 ⊢
  have k4 : v0.cell? ⟨w.heap.size, 4, none⟩ = some (.slice a n cap) := G0.cell 4
  have l2 := G2.lt
  have l1 := G1.lt
  have H1 : Hid (RowAt v0 (w.heap.size + 1) #[.int .i64 0, .int .i64 0, .int .i64 0, .int .i64 0, .slice none 0 0] 86) := G1
  have H2 : Hid (RowAt v0 (w.heap.size + 1 + 1) #[.int .i64 r, .int .i64 c, .int .i64 d, .int .i64 g, .slice none 0 0] 86) := G2
  clear G0 G1 G2
  go_upto_region 7 with (go_at_call 70; refine (toSignS_any _ _ _ l _ (H.out.below B0) hn).mono ?_; rintro e w1 ⟨rfl, ho1, hb1⟩; have q1 : w1.cell? ⟨w.heap.size + 1 + 1, 4, none⟩ = some (.slice none 0 0) := (H2.out.below hb1 l2).cell 4; have q2 := (H2.out.below hb1 l2).frozen 4)
  have lt1 := own_lt ho1 rfl
  have G2 := (H2.out.below hb1 l2).setCell 4 (.slice (some ⟨v0.heap.size, 0, none⟩) n n)
  have G1 := (H1.out.below hb1 l1).other ⟨w.heap.size + 1 + 1, 4, none⟩ (.slice (some ⟨v0.heap.size, 0, none⟩) n n) (by simp <;> omega)
  have O1 := own_set ho1 ⟨w.heap.size + 1 + 1, 4, none⟩ (.slice (some ⟨v0.heap.size, 0, none⟩) n n) (by simp [Value.ownBlock]; omega)
  have B1 : Below w.heap.size w (w1.setCell ⟨w.heap.size + 1 + 1, 4, none⟩ (.slice (some ⟨v0.heap.size, 0, none⟩) n n)) := (B0.trans (hb1.mono B0.size)).setCell (by show _ ≤ w.heap.size + 1 + 1; omega) _
  clear q1 q2 ho1 hb1
  generalize (w1.setCell ⟨w.heap.size + 1 + 1, 4, none⟩ (.slice (some ⟨v0.heap.size, 0, none⟩) n n)) = w2 at G2 G1 O1 B1 ⊢
  have e0 : w2.cell? ⟨w.heap.size + 1 + 1, 0, none⟩ = some (.int .i64 r) := G2.cell 0
  have e1 : w2.cell? ⟨w.heap.size + 1 + 1, 1, none⟩ = some (.int .i64 c) := G2.cell 1
  have e2 : w2.cell? ⟨w.heap.size + 1 + 1, 2, none⟩ = some (.int .i64 d) := G2.cell 2
  have e3 : w2.cell? ⟨w.heap.size + 1 + 1, 3, none⟩ = some (.int .i64 g) := G2.cell 3
  have e4 : w2.cell? ⟨w.heap.size + 1 + 1, 4, none⟩ = some (.slice (some ⟨v0.heap.size, 0, none⟩) n n) := G2.cell 4
  have cell_info : (Tryz.prog.info? 86).map (·.size) = some 5 := by kernel_rfl
  have HR : Hid (RowAt w2 (w.heap.size + 1) #[.int .i64 0, .int .i64 0, .int .i64 0, .int .i64 0, .slice none 0 0] 86) := G1
  have HL := G2.lt
  have s0 := B0.size
  clear G1 G2
  go_wp2_with ((refine wpList_store_row rfl 86 (.tmp 2) (.tmp 20) rfl (w.heap.size + 1) #[.int .i64 r, .int .i64 c, .int .i64 d, .int .i64 g, .slice (some ⟨v0.heap.size, 0, none⟩) n n] rfl rfl 86 _ HR.out cell_info rfl (cells5_one _ _ _ _ _ _ _) ?_))
  refine bodyPost_ret (v := .agg #[.int .i64 r, .int .i64 c, .int .i64 d, .int .i64 g, .slice (some ⟨v0.heap.size, 0, none⟩) n n]) (results_cell_row (p := 2) (ty := 86) rfl _ _ (w.heap.size + 1) 86 _ _ _ rfl (RowAt.setRow HR.out _) Tryz.underlying86 rfl cell_info) rfl ⟨⟨v0.heap.size, by omega, rfl, ?_⟩, below_row B1 (by omega) _⟩
  have hn' : n = l.length := H.out.1
  subst hn'
  exact own_less (own_row O1 _ _ (by simp [Value.ownBlock]; omega)) (by omega)

theorem take_set5 (xs : List Value) (k : Nat) (a b c d e : Value) (h : k * 5 + 5 ≤ xs.length) :
    (((((xs.set (k * 5) a).set (k * 5 + 1) b).set (k * 5 + 2) c).set (k * 5 + 3) d).set (k * 5 + 4) e).take ((k + 1) * 5) = xs.take (k * 5) ++ [a, b, c, d, e] := by
  apply List.ext_getElem?
  intro j
  by_cases h1 : j < k * 5
  · rw [List.getElem?_take, if_pos (by omega), List.getElem?_set_ne (by omega), List.getElem?_set_ne (by omega), List.getElem?_set_ne (by omega), List.getElem?_set_ne (by omega), List.getElem?_set_ne (by omega), List.getElem?_append_left (by simp; omega), List.getElem?_take, if_pos h1]
  · rw [List.getElem?_append_right (by simp; omega)]
    have e' : (xs.take (k * 5)).length = k * 5 := by simp; omega
    rw [e', List.getElem?_take]
    rcases (show j = k * 5 ∨ j = k * 5 + 1 ∨ j = k * 5 + 2 ∨ j = k * 5 + 3 ∨ j = k * 5 + 4 ∨ k * 5 + 5 ≤ j from by omega) with rfl | rfl | rfl | rfl | rfl | hj
    · rw [if_pos (by omega), List.getElem?_set_ne (by omega), List.getElem?_set_ne (by omega), List.getElem?_set_ne (by omega), List.getElem?_set_ne (by omega), List.getElem?_set_self (by omega)]; simp
    · rw [if_pos (by omega), List.getElem?_set_ne (by omega), List.getElem?_set_ne (by omega), List.getElem?_set_ne (by omega), List.getElem?_set_self (by simp; omega), show k * 5 + 1 - k * 5 = 1 by omega]; simp
    · rw [if_pos (by omega), List.getElem?_set_ne (by omega), List.getElem?_set_ne (by omega), List.getElem?_set_self (by simp; omega), show k * 5 + 2 - k * 5 = 2 by omega]; simp
    · rw [if_pos (by omega), List.getElem?_set_ne (by omega), List.getElem?_set_self (by simp; omega), show k * 5 + 3 - k * 5 = 3 by omega]; simp
    · rw [if_pos (by omega), List.getElem?_set_self (by simp; omega), show k * 5 + 4 - k * 5 = 4 by omega]; simp
    · rw [if_neg (by omega), List.getElem?_eq_none (by simp; omega)]

set_option maxHeartbeats 4000000 in
theorem toCellS_any (a : Option Addr) (n cap : Nat) (l : List Cl) (w : World) (h : Tab w a n cap l) (hn : l.length + totT l ≤ 1048576) :
    Calls Tryz.prog 86 #[.slice a n cap] w fun e w' => e = .returned (.slice (some ⟨w.heap.size, 0, none⟩) n n) ∧ (∃ rs, OwnT w' w.heap.size (.slice (some ⟨w.heap.size, 0, none⟩) n n) rs l) ∧ Below w.heap.size w w' := by
  obtain ⟨rfl, hc, hm, hl⟩ := h
  unfold maxLen at hm
  obtain ⟨i0, hi, hz0, hz1, hz2⟩ := info_parts Tryz.info86
  go_enter Tryz.func86, Tryz.ntmps86
  go_wp2_with (at_make; refine wpList_make_full _ rfl (.tmp 6) (.tmp 6) 52 rfl w.heap.size 86 i0 _ 5 Tryz.underlying52 hi hz0 hz1 .i64 .i64 _ _ l.length rfl rfl rfl rfl (by rw [hz2]; omega) (by unfold maxLen; omega) (Nat.le_refl _) ?_; intro w1 hown hgrow)
  have hb1 : Below w.heap.size w w1 := (Below.refl _ _).grown hgrow (Nat.le_refl _) (fun k hk => by simp at hk)
  clear hgrow
  obtain ⟨xs0, hown⟩ : ∃ xs, w1.ownsRow w.heap.size 86 5 (.slice (some ⟨w.heap.size, 0, none⟩) l.length l.length) l.length xs := ⟨_, hown⟩
  go_loopw [4] (fun i wr => ∃ (k : Nat) (xs : List Value) (rs : List Rw), k ≤ l.length ∧ i = .int .i64 k ∧ wr.ownsRow w.heap.size 86 5 (.slice (some ⟨w.heap.size, 0, none⟩) l.length l.length) l.length xs ∧ xs.take (k * 5) = flat5 rs ∧ TxtOwn wr w.heap.size (some w.heap.size) rs (l.take k) ∧ Below w.heap.size w wr) (fun i _ => l.length - (intOf i).toNat)
  case atStart => exact ⟨0, xs0, [], Nat.zero_le _, rfl, hown, by simp [flat5], TxtOwn.nil _ _ _, hb1⟩
  case round =>
    obtain ⟨k, xs, rs, hk, rfl, ho, hx, ht, hbl⟩ := hrel
    have hsz := hbl.size
    have HX : Hid (xs.take (k * 5) = flat5 rs) := hx
    have HO : Hid (wr.ownsRow w.heap.size 86 5 (.slice (some ⟨w.heap.size, 0, none⟩) l.length l.length) l.length xs) := ho
    have HT : Hid (TxtOwn wr w.heap.size (some w.heap.size) rs (l.take k)) := ht
    have lto := (own_lt ho rfl).2
    clear hx ho hown hb1 ht
    by_cases hlt : k < l.length
    · rcases hl with e | ⟨b, off, rfl, hbw, hl⟩
      · rw [e] at hlt
        exact absurd hlt (by simp)
      obtain ⟨c0, c1, c2, c3, ta, tn, tc, c4, htx⟩ := (hl k hlt).below hbl hbw
      have hle := totT_le l k hlt
      have htn : tn ≤ 1048576 := by rw [htx.1]; omega
      clear hl hle
      obtain ⟨⟨r, c, d, g, tx⟩, hxx⟩ : ∃ x, x = l.getD k cl0 := ⟨_, rfl⟩
      rw [← hxx] at c0 c1 c2 c3 htx
      simp only at c0 c1 c2 c3 htx
      have HXX : Hid ((r, c, d, g, tx) = l.getD k cl0) := hxx
      have HTX : Hid (Txt wr ta tn tc tx) := htx
      clear hxx htx
      go_wp2_with fail
      refine (toCell_any _ _ _ _ _ _ _ tx _ HTX.out htn).mono ?_
      rintro e w2 ⟨⟨tb, htb, rfl, how⟩, hb2⟩
      have ho2 := own_below HO.out hb2
      have f0 := ho2.frozenAt (k * 5)
      have f1 := ho2.frozenAt (k * 5 + 1)
      have f2 := ho2.frozenAt (k * 5 + 2)
      have f3 := ho2.frozenAt (k * 5 + 3)
      have f4 := ho2.frozenAt (k * 5 + 4)
      have hxl := ho2.1
      obtain ⟨u0, d0⟩ : ∃ u, w2.cell? ⟨w.heap.size, k * 5, none⟩ = some u := ⟨_, (ho2.cellAt (k * 5) (by omega)).trans (List.getElem?_eq_getElem (by omega))⟩
      obtain ⟨u1, d1⟩ : ∃ u, w2.cell? ⟨w.heap.size, k * 5 + 1, none⟩ = some u := ⟨_, (ho2.cellAt (k * 5 + 1) (by omega)).trans (List.getElem?_eq_getElem (by omega))⟩
      obtain ⟨u2, d2⟩ : ∃ u, w2.cell? ⟨w.heap.size, k * 5 + 2, none⟩ = some u := ⟨_, (ho2.cellAt (k * 5 + 2) (by omega)).trans (List.getElem?_eq_getElem (by omega))⟩
      obtain ⟨u3, d3⟩ : ∃ u, w2.cell? ⟨w.heap.size, k * 5 + 3, none⟩ = some u := ⟨_, (ho2.cellAt (k * 5 + 3) (by omega)).trans (List.getElem?_eq_getElem (by omega))⟩
      obtain ⟨u4, d4⟩ : ∃ u, w2.cell? ⟨w.heap.size, k * 5 + 4, none⟩ = some u := ⟨_, (ho2.cellAt (k * 5 + 4) (by omega)).trans (List.getElem?_eq_getElem (by omega))⟩
      have HO2 : Hid (w2.ownsRow w.heap.size 86 5 (.slice (some ⟨w.heap.size, 0, none⟩) l.length l.length) l.length xs) := ho2
      have HT2 : Hid (TxtOwn w2 w.heap.size (some w.heap.size) rs (l.take k)) := HT.out.below hb2
      have HW : Hid (Own w2 w.heap.size (.slice (some ⟨tb, 0, none⟩) tn tn) tx) := own_less how hsz
      clear ho2 HO hxl how
      go_wp2_with fail
      go_roundw
      case rel =>
        obtain ⟨p0, _⟩ := HO2.out.stored (k * 5) (.int .i64 r)
        obtain ⟨p1, _⟩ := p0.stored (k * 5 + 1) (.int .i64 c)
        obtain ⟨p2, _⟩ := p1.stored (k * 5 + 2) (.int .i64 d)
        obtain ⟨p3, _⟩ := p2.stored (k * 5 + 3) (.int .i64 g)
        obtain ⟨p4, _⟩ := p3.stored (k * 5 + 4) (.slice (some ⟨tb, 0, none⟩) tn tn)
        have hT := HT2.out.snoc (C := wr.heap.size) (x := (r, c, d, g, some ⟨tb, 0, none⟩, tn, tn)) (y := (r, c, d, g, tx)) ⟨rfl, rfl, rfl, rfl, HW.out⟩ (fun q hq => by simp [rwT, Value.ownBlock] at hq; simp; omega) (fun j hj q hq => HT.out.blockLt j hj q hq) (fun q hq => by simp [rwT, Value.ownBlock] at hq; omega)
        have e1 : l.take k ++ [(r, c, d, g, tx)] = l.take (k + 1) := by rw [List.take_succ_eq_append_getElem hlt, HXX.out]; simp [List.getD, hlt]
        rw [e1] at hT
        refine ⟨k + 1, _, rs ++ [(r, c, d, g, some ⟨tb, 0, none⟩, tn, tn)], by omega, by go_num, p4, ?_, ?_, ?_⟩
        · rw [take_set5 _ _ _ _ _ _ _ (by have := HO2.out.1; omega), HX.out, flat5_append]
          simp [flat5, rwCells]
        · exact ((((hT.set _ _ rfl).set _ _ rfl).set _ _ rfl).set _ _ rfl).set _ _ rfl
        · exact (((((hbl.trans (hb2.mono hsz)).setCell (Nat.le_refl _) _).setCell (Nat.le_refl _) _).setCell (Nat.le_refl _) _).setCell (Nat.le_refl _) _).setCell (Nat.le_refl _) _
      case measure => simp [intOf]; omega
    · go_wp2_with fail
      go_ret
      have e1 : l.take k = l := List.take_of_length_le (by omega)
      have hT := HT.out
      rw [e1] at hT
      have hxx : xs = flat5 rs := by
        have h1 := HX.out
        have h2 := HO.out.1
        rw [List.take_of_length_le (by omega)] at h1
        exact h1
      refine ⟨rfl, ⟨rs, ?_, hT⟩, hbl⟩
      have := HO.out
      rw [hxx] at this
      unfold OwnR
      rw [hT.1]
      exact this
end Go.Proofs.YtccoeachemnbnaaGreatDoor
namespace Go.Proofs.YtccoeachemnbnaaGreatDoor
open Go.RowKit

set_option maxHeartbeats 2000000 in
theorem toTable_any (R C : Int) (a : Option Addr) (n cap : Nat) (l : List Cl) (w : World) (h : Tab w a n cap l) (hn : l.length + totT l ≤ 1048576) :
    Calls Tryz.prog 71 #[.agg #[.int .i64 R, .int .i64 C, .slice a n cap]] w fun e w' => (∃ b rs, w.heap.size ≤ b ∧ e = .returned (.agg #[.int .i64 R, .int .i64 C, .slice (some ⟨b, 0, none⟩) n n]) ∧ OwnT w' w.heap.size (.slice (some ⟨b, 0, none⟩) n n) rs l) ∧ Below w.heap.size w w' := by
  have H : Hid (Tab w a n cap l) := h
  clear h
  go_enter Tryz.func71, Tryz.ntmps71
  go_upto_region 4 with fail
  have B0 : Below w.heap.size w (((w.alloc (.cells #[.int .i64 R, .int .i64 C, .slice a n cap] 91)).alloc (.cells #[.int .i64 0, .int .i64 0, .slice none 0 0] 54)).alloc (.cells #[.int .i64 R, .int .i64 C, .slice none 0 0] 54)) := (((Below.refl _ _).alloc (Nat.le_refl _) _).alloc (by simp) _).alloc (by simp; omega) _
  have G0 : RowAt (((w.alloc (.cells #[.int .i64 R, .int .i64 C, .slice a n cap] 91)).alloc (.cells #[.int .i64 0, .int .i64 0, .slice none 0 0] 54)).alloc (.cells #[.int .i64 R, .int .i64 C, .slice none 0 0] 54)) w.heap.size #[.int .i64 R, .int .i64 C, .slice a n cap] 91 := ((rowAt_new w _ _).alloc _).alloc _
  have G1 : RowAt (((w.alloc (.cells #[.int .i64 R, .int .i64 C, .slice a n cap] 91)).alloc (.cells #[.int .i64 0, .int .i64 0, .slice none 0 0] 54)).alloc (.cells #[.int .i64 R, .int .i64 C, .slice none 0 0] 54)) (w.heap.size + 1) #[.int .i64 0, .int .i64 0, .slice none 0 0] 54 := by
    have := (rowAt_new (w.alloc (.cells #[.int .i64 R, .int .i64 C, .slice a n cap] 91)) #[.int .i64 0, .int .i64 0, .slice none 0 0] 54).alloc (.cells #[.int .i64 R, .int .i64 C, .slice none 0 0] 54)
    simpa using this
  have G2 : RowAt (((w.alloc (.cells #[.int .i64 R, .int .i64 C, .slice a n cap] 91)).alloc (.cells #[.int .i64 0, .int .i64 0, .slice none 0 0] 54)).alloc (.cells #[.int .i64 R, .int .i64 C, .slice none 0 0] 54)) (w.heap.size + 1 + 1) #[.int .i64 R, .int .i64 C, .slice none 0 0] 54 := by
    have := (rowAt_new ((w.alloc (.cells #[.int .i64 R, .int .i64 C, .slice a n cap] 91)).alloc (.cells #[.int .i64 0, .int .i64 0, .slice none 0 0] 54)) #[.int .i64 R, .int .i64 C, .slice none 0 0] 54)
    simpa using this
  generalize (((w.alloc (.cells #[.int .i64 R, .int .i64 C, .slice a n cap] 91)).alloc (.cells #[.int .i64 0, .int .i64 0, .slice none 0 0] 54)).alloc (.cells #[.int .i64 R, .int .i64 C, .slice none 0 0] 54)) = v0 at B0 G0 G1 G2 ⊢
  have k2 : v0.cell? ⟨w.heap.size, 2, none⟩ = some (.slice a n cap) := G0.cell 2
  have l2 := G2.lt
  have l1 := G1.lt
  have H1 : Hid (RowAt v0 (w.heap.size + 1) #[.int .i64 0, .int .i64 0, .slice none 0 0] 54) := G1
  have H2 : Hid (RowAt v0 (w.heap.size + 1 + 1) #[.int .i64 R, .int .i64 C, .slice none 0 0] 54) := G2
  clear G0 G1 G2
  go_upto_region 5 with (go_at_call 86; refine (toCellS_any _ _ _ l _ (H.out.below B0) hn).mono ?_; rintro e w1 ⟨rfl, ⟨rs, ho1⟩, hb1⟩; have q1 : w1.cell? ⟨w.heap.size + 1 + 1, 2, none⟩ = some (.slice none 0 0) := (H2.out.below hb1 l2).cell 2; have q2 := (H2.out.below hb1 l2).frozen 2)
  have G2 := (H2.out.below hb1 l2).setCell 2 (.slice (some ⟨v0.heap.size, 0, none⟩) n n)
  have G1 := (H1.out.below hb1 l1).other ⟨w.heap.size + 1 + 1, 2, none⟩ (.slice (some ⟨v0.heap.size, 0, none⟩) n n) (by simp <;> omega)
  have bk : ∀ k, k < rs.length → ∀ g, (rwT (rs.getD k rw0)).ownBlock = some g → v0.heap.size ≤ g := fun k hk g hg => (own_lt (ho1.2.2.1 k hk).2.2.2.2 hg).1
  have O1 : OwnT (w1.setCell ⟨w.heap.size + 1 + 1, 2, none⟩ (.slice (some ⟨v0.heap.size, 0, none⟩) n n)) v0.heap.size (.slice (some ⟨v0.heap.size, 0, none⟩) n n) rs l :=
    ⟨own_set ho1.1 _ _ (by simp [Value.ownBlock]; omega), ho1.2.1, fun k hk => by
      obtain ⟨h0, h1, h2, h3, h4⟩ := ho1.2.2.1 k hk
      exact ⟨h0, h1, h2, h3, own_set h4 _ _ (fun e => by have := bk k hk _ e; simp at this; omega)⟩, ho1.2.2.2⟩
  have B1 : Below w.heap.size w (w1.setCell ⟨w.heap.size + 1 + 1, 2, none⟩ (.slice (some ⟨v0.heap.size, 0, none⟩) n n)) := (B0.trans (hb1.mono B0.size)).setCell (by show _ ≤ w.heap.size + 1 + 1; omega) _
  clear q1 q2 ho1 hb1
  generalize (w1.setCell ⟨w.heap.size + 1 + 1, 2, none⟩ (.slice (some ⟨v0.heap.size, 0, none⟩) n n)) = w2 at G2 G1 O1 B1 ⊢
  have e0 : w2.cell? ⟨w.heap.size + 1 + 1, 0, none⟩ = some (.int .i64 R) := G2.cell 0
  have e1 : w2.cell? ⟨w.heap.size + 1 + 1, 1, none⟩ = some (.int .i64 C) := G2.cell 1
  have e2 : w2.cell? ⟨w.heap.size + 1 + 1, 2, none⟩ = some (.slice (some ⟨v0.heap.size, 0, none⟩) n n) := G2.cell 2
  have HR : Hid (RowAt w2 (w.heap.size + 1) #[.int .i64 0, .int .i64 0, .slice none 0 0] 54) := G1
  have HL := G2.lt
  have s0 := B0.size
  have HO : Hid (OwnT w2 v0.heap.size (.slice (some ⟨v0.heap.size, 0, none⟩) n n) rs l) := O1
  have HK : Hid (∀ k, k < rs.length → ∀ g, (rwT (rs.getD k rw0)).ownBlock = some g → v0.heap.size ≤ g) := bk
  clear G1 G2 O1 bk
  go_wp2_with ((refine wpList_store_row rfl 54 (.tmp 2) (.tmp 14) rfl (w.heap.size + 1) #[.int .i64 R, .int .i64 C, .slice (some ⟨v0.heap.size, 0, none⟩) n n] rfl rfl 54 _ HR.out tab_info rfl (cells3_one _ _ _ _ _) ?_))
  refine bodyPost_ret (v := .agg #[.int .i64 R, .int .i64 C, .slice (some ⟨v0.heap.size, 0, none⟩) n n]) (results_cell_row (p := 2) (ty := 54) rfl _ _ (w.heap.size + 1) 54 _ _ _ rfl (RowAt.setRow HR.out _) Tryz.underlying54 rfl tab_info) rfl ⟨⟨v0.heap.size, rs, by omega, rfl, ?_⟩, below_row B1 (by omega) _⟩
  refine OwnT.less (B' := v0.heap.size) ⟨own_row HO.out.1 _ _ (by simp [Value.ownBlock]; omega), HO.out.2.1, fun k hk => ?_, HO.out.2.2.2⟩ (by omega)
  obtain ⟨h0, h1, h2, h3, h4⟩ := HO.out.2.2.1 k hk
  exact ⟨h0, h1, h2, h3, own_row h4 _ _ (fun e => by have := HK.out k hk _ e; omega)⟩

theorem cl_eq (x y : Cl) : (x = y) ↔ (x.1 = y.1 ∧ x.2.1 = y.2.1 ∧ x.2.2.1 = y.2.2.1 ∧ x.2.2.2.1 = y.2.2.2.1 ∧ x.2.2.2.2 = y.2.2.2.2) := by
  obtain ⟨a, b, c, d, e⟩ := x
  obtain ⟨a', b', c', d', e'⟩ := y
  simp
theorem eqSignS_is {a : Option Addr} {n cap : Nat} {l : List Sg} {a' : Option Addr} {n' cap' : Nat} {m : List Sg} {w : World} {x : Bool} (hx : decide (l = m) = x) (h : Txt w a n cap l) (h' : Txt w a' n' cap' m) :
    Calls Tryz.prog 72 #[.slice a n cap, .slice a' n' cap'] w fun e w' => e = .returned (.bool x) ∧ Below w.heap.size w w' := hx ▸ eqSignS_any a n cap l a' n' cap' m w h h'
set_option maxHeartbeats 4000000 in
theorem eqCell_is (r c d g : Int) (a : Option Addr) (n cap : Nat) (l : List Sg) (r' c' d' g' : Int) (a' : Option Addr) (n' cap' : Nat) (m : List Sg) (w : World) (h : Txt w a n cap l) (h' : Txt w a' n' cap' m) {x : Bool} (hx : x = true ↔ ((r, c, d, g, l) : Cl) = (r', c', d', g', m)) :
    Calls Tryz.prog 97 #[.agg #[.int .i64 r, .int .i64 c, .int .i64 d, .int .i64 g, .slice a n cap], .agg #[.int .i64 r', .int .i64 c', .int .i64 d', .int .i64 g', .slice a' n' cap']] w fun e w' => e = .returned (.bool x) ∧ Below w.heap.size w w' := by
  have H : Hid (Txt w a n cap l) := h
  have H' : Hid (Txt w a' n' cap' m) := h'
  clear h h'
  have bb : Below w.heap.size w ((w.alloc (.cells #[.int .i64 r, .int .i64 c, .int .i64 d, .int .i64 g, .slice a n cap] 86)).alloc (.cells #[.int .i64 r', .int .i64 c', .int .i64 d', .int .i64 g', .slice a' n' cap'] 86)) := ((Below.refl _ _).alloc (Nat.le_refl _) _).alloc (by simp) _
  by_cases h0 : r = r'
  · by_cases h1 : c = c'
    · by_cases h2 : d = d'
      · by_cases h3 : g = g'
        · subst h0 h1 h2 h3
          have HX : Hid (decide (l = m) = x) := by
            show decide (l = m) = x
            rw [Bool.eq_iff_iff, hx, decide_eq_true_eq]
            simp
          clear hx
          cases x
          · go_enter Tryz.func97, Tryz.ntmps97
            go_wp2_with (go_at_call 72; refine (eqSignS_is HX.out (H.out.below bb) (H'.out.below bb)).mono ?_; rintro e w1 ⟨rfl, hb1⟩)
            go_ret
            exact ⟨rfl, bb.trans (hb1.mono (by simp; omega))⟩
          · go_enter Tryz.func97, Tryz.ntmps97
            go_wp2_with (go_at_call 72; refine (eqSignS_is HX.out (H.out.below bb) (H'.out.below bb)).mono ?_; rintro e w1 ⟨rfl, hb1⟩)
            go_ret
            exact ⟨rfl, bb.trans (hb1.mono (by simp; omega))⟩
        · subst h0 h1 h2
          obtain rfl : x = false := by
              rw [← Bool.not_eq_true, hx]
              exact fun e => h3 (by simp at e; exact e.1)
          have k : (g != g') = true := by simp; exact h3
          go_enter Tryz.func97, Tryz.ntmps97
          go_wp2_with fail
          go_ret
          exact ⟨rfl, bb⟩
      · subst h0 h1
        obtain rfl : x = false := by
              rw [← Bool.not_eq_true, hx]
              exact fun e => h2 (by simp at e; exact e.1)
        have k : (d != d') = true := by simp; exact h2
        go_enter Tryz.func97, Tryz.ntmps97
        go_wp2_with fail
        go_ret
        exact ⟨rfl, bb⟩
    · subst h0
      obtain rfl : x = false := by
              rw [← Bool.not_eq_true, hx]
              exact fun e => h1 (by simp at e; exact e.1)
      have k : (c != c') = true := by simp; exact h1
      go_enter Tryz.func97, Tryz.ntmps97
      go_wp2_with fail
      go_ret
      exact ⟨rfl, bb⟩
  · obtain rfl : x = false := by
              rw [← Bool.not_eq_true, hx]
              exact fun e => h0 (by simp at e; exact e.1)
    have k : (r != r') = true := by simp; exact h0
    go_enter Tryz.func97, Tryz.ntmps97
    go_wp2_with fail
    go_ret
    exact ⟨rfl, bb⟩
theorem take_eq_succC (l m : List Cl) (k : Nat) (h : k < l.length) (hl : l.length = m.length) (he : l.take k = m.take k) (hs : l.getD k cl0 = m.getD k cl0) : l.take (k + 1) = m.take (k + 1) := by
  rw [List.take_succ_eq_append_getElem h, List.take_succ_eq_append_getElem (by omega), he]
  simp only [List.getD, List.getElem?_eq_getElem h, List.getElem?_eq_getElem (show k < m.length by omega), Option.getD_some] at hs
  rw [hs]
set_option maxHeartbeats 4000000 in
theorem eqCellS_is {a : Option Addr} {n cap : Nat} {l : List Cl} {a' : Option Addr} {n' cap' : Nat} {m : List Cl} {w : World} {x : Bool} (hx : x = true ↔ l = m) (h : Tab w a n cap l) (h' : Tab w a' n' cap' m) :
    Calls Tryz.prog 88 #[.slice a n cap, .slice a' n' cap'] w fun e w' => e = .returned (.bool x) ∧ Below w.heap.size w w' := by
  have HXX : Hid (x = true ↔ l = m) := hx
  clear hx
  obtain ⟨rfl, hc, hm, hl⟩ := h
  obtain ⟨rfl, hc', hm', hl'⟩ := h'
  unfold maxLen at hm hm'
  by_cases hlen : l.length = m.length
  · have hbq : ((l.length : Int) != (m.length : Int)) = false := by simp [hlen]
    have HL : Hid (l.length = m.length) := hlen
    have hl1 : l.length ≤ m.length := by omega
    have hl2 : m.length ≤ l.length := by omega
    clear hlen
    go_enter Tryz.func88, Tryz.ntmps88
    go_wp2_with fail
    go_loopw [5] (fun i wr => ∃ (k : Nat), k ≤ l.length ∧ i = .int .i64 k ∧ l.take k = m.take k ∧ Below w.heap.size w wr) (fun i _ => l.length - (intOf i).toNat)
    case atStart => exact ⟨0, Nat.zero_le _, rfl, by simp, Below.refl _ _⟩
    case round =>
      obtain ⟨k, hk, rfl, ht, hbl⟩ := hrel
      have hsz := hbl.size
      have HT : Hid (l.take k = m.take k) := ht
      have HB : Hid (Below w.heap.size w wr) := hbl
      clear ht
      by_cases hlt : k < l.length
      · have hlt' : k < m.length := by omega
        rcases hl with e | ⟨b, off, rfl, hbw, hl⟩
        · rw [e] at hlt
          exact absurd hlt (by simp)
        rcases hl' with e | ⟨b', off', rfl, hbw', hl'⟩
        · rw [e] at hlt'
          exact absurd hlt' (by simp)
        obtain ⟨c0, c1, c2, c3, ta, tn, tc, c4, htx⟩ := (hl k hlt).below hbl hbw
        obtain ⟨d0, d1, d2, d3, ta', tn', tc', d4, htx'⟩ := (hl' k hlt').below hbl hbw'
        clear hl hl'
        obtain ⟨⟨r, c, d, g, tx⟩, hs⟩ : ∃ s, s = l.getD k cl0 := ⟨_, rfl⟩
        obtain ⟨⟨r', c', d', g', tx'⟩, hs'⟩ : ∃ t, t = m.getD k cl0 := ⟨_, rfl⟩
        rw [← hs] at c0 c1 c2 c3 htx
        rw [← hs'] at d0 d1 d2 d3 htx'
        simp only at c0 c1 c2 c3 htx d0 d1 d2 d3 htx'
        have HS : Hid ((r, c, d, g, tx) = l.getD k cl0) := hs
        have HM : Hid ((r', c', d', g', tx') = m.getD k cl0) := hs'
        have HX : Hid (Txt wr ta tn tc tx) := htx
        have HX' : Hid (Txt wr ta' tn' tc' tx') := htx'
        clear hs hs' htx htx' hbl
        by_cases hb : ((r, c, d, g, tx) : Cl) = (r', c', d', g', tx')
        rotate_left
        · have HF : Hid (x = false) := by
            show x = false
            rw [← Bool.not_eq_true, HXX.out]
            intro e
            rw [HS.out, HM.out, e] at hb
            exact hb rfl
          have HBQ : Hid (false = true ↔ ((r, c, d, g, tx) : Cl) = (r', c', d', g', tx')) := ⟨fun e => by simp at e, fun e => absurd e hb⟩
          clear hb
          go_wp2_with fail
          go_region_with (go_at_call 97; refine (eqCell_is _ _ _ _ _ _ _ tx _ _ _ _ _ _ _ tx' _ (HX.out.below (Below.refl _ _).drew) (HX'.out.below (Below.refl _ _).drew) HBQ.out).mono ?_; rintro e w1 ⟨rfl, hb1⟩)
          all_goals
            go_wp2_with fail
            go_ret
            exact ⟨by rw [HF.out]; rfl, HB.out.drew.trans (hb1.mono hsz)⟩
        · have HBQ : Hid (((r, c, d, g, tx) : Cl) = (r', c', d', g', tx')) := hb
          clear hb
          go_wp2_with fail
          go_region_with (go_at_call 97; refine (eqCell_is (x := true) _ _ _ _ _ _ _ tx _ _ _ _ _ _ _ tx' _ (HX.out.below (Below.refl _ _).drew) (HX'.out.below (Below.refl _ _).drew) ⟨fun _ => HBQ.out, fun _ => rfl⟩).mono ?_; rintro e w1 ⟨rfl, hb1⟩)
          all_goals
            go_wp2_with fail
            go_roundw
            case rel => exact ⟨k + 1, by omega, by go_num, take_eq_succC l m k hlt HL.out HT.out (by rw [← HS.out, ← HM.out]; exact HBQ.out), HB.out.drew.trans (hb1.mono hsz)⟩
            case measure => simp [intOf]; omega
      · go_wp2_with fail
        go_ret
        refine ⟨?_, HB.out⟩
        have := HT.out
        rw [List.take_of_length_le (by omega), List.take_of_length_le (by omega)] at this
        rw [HXX.out.2 this]; rfl
  · have hbq : ((l.length : Int) != (m.length : Int)) = true := by simp; omega
    obtain rfl : x = false := by
      rw [← Bool.not_eq_true, HXX.out]
      exact fun e => hlen (by rw [e])
    go_enter Tryz.func88, Tryz.ntmps88
    go_wp2_with fail
    go_ret
    exact ⟨rfl, Below.refl _ _⟩
set_option maxHeartbeats 4000000 in
theorem eqTable_same (R C : Int) (a : Option Addr) (n cap : Nat) (l : List Cl) (a' : Option Addr) (n' cap' : Nat) (w : World) (h : Tab w a n cap l) (h' : Tab w a' n' cap' l) :
    Calls Tryz.prog 73 #[.agg #[.int .i64 R, .int .i64 C, .slice a n cap], .agg #[.int .i64 R, .int .i64 C, .slice a' n' cap']] w fun e w' => e = .returned (.bool true) ∧ Below w.heap.size w w' := by
  have H : Hid (Tab w a n cap l) := h
  have H' : Hid (Tab w a' n' cap' l) := h'
  clear h h'
  have bb : Below w.heap.size w ((w.alloc (.cells #[.int .i64 R, .int .i64 C, .slice a n cap] 54)).alloc (.cells #[.int .i64 R, .int .i64 C, .slice a' n' cap'] 54)) := ((Below.refl _ _).alloc (Nat.le_refl _) _).alloc (by simp) _
  go_enter Tryz.func73, Tryz.ntmps73
  go_wp2_with (go_at_call 88; refine (eqCellS_is (x := true) ⟨fun _ => rfl, fun _ => rfl⟩ (H.out.below bb) (H'.out.below bb)).mono ?_; rintro e w1 ⟨rfl, hb1⟩)
  go_ret
  exact ⟨rfl, bb.trans (hb1.mono (by simp; omega))⟩
end Go.Proofs.YtccoeachemnbnaaGreatDoor
namespace Go.Proofs.YtccoeachemnbnaaGreatDoor
open Go.RowKit

set_option maxRecDepth 100000 in
set_option maxHeartbeats 4000000 in
theorem eqBlock_same {k v : Int} {ta : Option Addr} {tn tc : Nat} {R C : Int} {ca : Option Addr} {cn cc : Nat} {ta' : Option Addr} {tn' tc' : Nat} {ca' : Option Addr} {cn' cc' : Nat} {t : List Sg} {l : List Cl} {w : World} (ht : Txt w ta tn tc t) (hc : Tab w ca cn cc l) (ht' : Txt w ta' tn' tc' t) (hc' : Tab w ca' cn' cc' l) :
    Calls Tryz.prog 51 #[.agg #[.int .i64 k, .int .i64 v, .slice ta tn tc, .int .i64 R, .int .i64 C, .slice ca cn cc], .agg #[.int .i64 k, .int .i64 v, .slice ta' tn' tc', .int .i64 R, .int .i64 C, .slice ca' cn' cc']] w fun e w' => e = .returned (.bool true) ∧ Below w.heap.size w w' := by
  have HT : Hid (Txt w ta tn tc t) := ht
  have HC : Hid (Tab w ca cn cc l) := hc
  have HT' : Hid (Txt w ta' tn' tc' t) := ht'
  have HC' : Hid (Tab w ca' cn' cc' l) := hc'
  clear ht hc ht' hc'
  have HX : Hid (decide (t = t) = true) := by simp [Hid]
  have bb : Below w.heap.size w ((w.alloc (.cells #[.int .i64 k, .int .i64 v, .slice ta tn tc, .int .i64 R, .int .i64 C, .slice ca cn cc] 56)).alloc (.cells #[.int .i64 k, .int .i64 v, .slice ta' tn' tc', .int .i64 R, .int .i64 C, .slice ca' cn' cc'] 56)) := ((Below.refl _ _).alloc (Nat.le_refl _) _).alloc (by simp) _
  have q3 : ∀ w1, Below ((w.alloc (.cells #[.int .i64 k, .int .i64 v, .slice ta tn tc, .int .i64 R, .int .i64 C, .slice ca cn cc] 56)).alloc (.cells #[.int .i64 k, .int .i64 v, .slice ta' tn' tc', .int .i64 R, .int .i64 C, .slice ca' cn' cc'] 56)).heap.size ((w.alloc (.cells #[.int .i64 k, .int .i64 v, .slice ta tn tc, .int .i64 R, .int .i64 C, .slice ca cn cc] 56)).alloc (.cells #[.int .i64 k, .int .i64 v, .slice ta' tn' tc', .int .i64 R, .int .i64 C, .slice ca' cn' cc'] 56)) w1 → RowAt w1 w.heap.size #[.int .i64 k, .int .i64 v, .slice ta tn tc, .int .i64 R, .int .i64 C, .slice ca cn cc] 56 ∧ RowAt w1 (w.heap.size + 1) #[.int .i64 k, .int .i64 v, .slice ta' tn' tc', .int .i64 R, .int .i64 C, .slice ca' cn' cc'] 56 := fun w1 h => by
    refine ⟨((rowAt_new w _ _).alloc _).below h (by simp; omega), ?_⟩
    have := (rowAt_new (w.alloc (.cells #[.int .i64 k, .int .i64 v, .slice ta tn tc, .int .i64 R, .int .i64 C, .slice ca cn cc] 56)) #[.int .i64 k, .int .i64 v, .slice ta' tn' tc', .int .i64 R, .int .i64 C, .slice ca' cn' cc'] 56).below h (by simp)
    simpa using this
  have HQ : Hid _ := q3
  clear q3
  go_enter Tryz.func51, Tryz.ntmps51
  go_wp2_with (first | (go_at_call 72; refine (eqSignS_is HX.out (HT.out.below bb) (HT'.out.below bb)).mono ?_; rintro e w1 ⟨rfl, hb1⟩; have a3 := (HQ.out w1 hb1).1.cell 3; have a4 := (HQ.out w1 hb1).1.cell 4; have a5 := (HQ.out w1 hb1).1.cell 5; have b3 := (HQ.out w1 hb1).2.cell 3; have b4 := (HQ.out w1 hb1).2.cell 4; have b5 := (HQ.out w1 hb1).2.cell 5; simp at a3 a4 a5 b3 b4 b5) | (go_at_call 73; refine (eqTable_same R C _ _ _ l _ _ _ _ ((HC.out.below bb).below hb1) ((HC'.out.below bb).below hb1)).mono ?_; rintro e w2 ⟨rfl, hb2⟩))
  go_ret
  exact ⟨rfl, (bb.trans (hb1.mono bb.size)).trans (hb2.mono (Nat.le_trans bb.size hb1.size))⟩
set_option maxRecDepth 100000 in
set_option maxHeartbeats 4000000 in
theorem eqBlockS_same {a : Option Addr} {n cap : Nat} {a' : Option Addr} {n' cap' : Nat} {d : List Bl} {w : World} (h : Dc w a n cap d) (h' : Dc w a' n' cap' d) :
    Calls Tryz.prog 33 #[.slice a n cap, .slice a' n' cap'] w fun e w' => e = .returned (.bool true) ∧ Below w.heap.size w w' := by
  obtain ⟨rfl, hc, hm, hl⟩ := h
  obtain ⟨rfl, hc', hm', hl'⟩ := h'
  unfold maxLen at hm hm'
  have hbq : ((d.length : Int) != (d.length : Int)) = false := by simp
  have HL : Hid (d = [] ∨ ∃ b off, a = some ⟨b, off, none⟩ ∧ b < w.heap.size ∧ ∀ k, k < d.length → BlockAt w b (off + k * 6) (d.getD k bl0)) := hl
  have HL' : Hid (d = [] ∨ ∃ b off, a' = some ⟨b, off, none⟩ ∧ b < w.heap.size ∧ ∀ k, k < d.length → BlockAt w b (off + k * 6) (d.getD k bl0)) := hl'
  clear hl hl'
  go_enter Tryz.func33, Tryz.ntmps33
  go_wp2_with fail
  go_loopw [5] (fun i wr => ∃ (k : Nat), k ≤ d.length ∧ i = .int .i64 k ∧ Below w.heap.size w wr) (fun i _ => d.length - (intOf i).toNat)
  case atStart => exact ⟨0, Nat.zero_le _, rfl, Below.refl _ _⟩
  case round =>
    obtain ⟨k, hk, rfl, hbl⟩ := hrel
    have hsz := hbl.size
    have HB : Hid (Below w.heap.size w wr) := hbl
    by_cases hlt : k < d.length
    · rcases HL.out with e | ⟨b, off, rfl, hbw, hl⟩
      · rw [e] at hlt
        exact absurd hlt (by simp)
      rcases HL'.out with e | ⟨b', off', rfl, hbw', hl'⟩
      · rw [e] at hlt
        exact absurd hlt (by simp)
      obtain ⟨ta, tn, tc, ca, cn, cc, hblk⟩ := (hl k hlt).below hbl hbw
      obtain ⟨ta', tn', tc', ca', cn', cc', hblk'⟩ := (hl' k hlt).below hbl hbw'
      clear hl hl'
      obtain ⟨⟨K, V, t, R, C, l⟩, hs⟩ : ∃ s, s = d.getD k bl0 := ⟨_, rfl⟩
      rw [← hs] at hblk hblk'
      obtain ⟨c0, c1, c2, c3, c4, c5, htx, htb⟩ := hblk
      obtain ⟨d0, d1, d2, d3, d4, d5, htx', htb'⟩ := hblk'
      simp only at c0 c1 c3 c4 htx htb d0 d1 d3 d4 htx' htb'
      have HT : Hid (Txt wr ta tn tc t) := htx
      have HT' : Hid (Txt wr ta' tn' tc' t) := htx'
      have HC : Hid (Tab wr ca cn cc l) := htb
      have HC' : Hid (Tab wr ca' cn' cc' l) := htb'
      clear hs htx htx' htb htb' hbl
      go_wp2_with fail
      go_region_with (go_at_call 51; refine (eqBlock_same (HT.out.below (Below.refl _ _).drew) (HC.out.below (Below.refl _ _).drew) (HT'.out.below (Below.refl _ _).drew) (HC'.out.below (Below.refl _ _).drew)).mono ?_; rintro e w1 ⟨rfl, hb1⟩)
      all_goals
        go_wp2_with fail
        go_roundw
        case rel => exact ⟨k + 1, by omega, by go_num, HB.out.drew.trans (hb1.mono hsz)⟩
        case measure => simp [intOf]; omega
    · go_wp2_with fail
      go_ret
      exact ⟨rfl, HB.out⟩
set_option maxHeartbeats 4000000 in
theorem eqDoc_same {a : Option Addr} {n cap : Nat} {a' : Option Addr} {n' cap' : Nat} {d : List Bl} {w : World} (h : Dc w a n cap d) (h' : Dc w a' n' cap' d) :
    Calls Tryz.prog 17 #[.agg #[.slice a n cap], .agg #[.slice a' n' cap']] w fun e w' => e = .returned (.bool true) ∧ Below w.heap.size w w' := by
  have H : Hid (Dc w a n cap d) := h
  have H' : Hid (Dc w a' n' cap' d) := h'
  clear h h'
  have bb : Below w.heap.size w ((w.alloc (.cells #[.slice a n cap] 25)).alloc (.cells #[.slice a' n' cap'] 25)) := ((Below.refl _ _).alloc (Nat.le_refl _) _).alloc (by simp) _
  go_enter Tryz.func17, Tryz.ntmps17
  go_wp2_with (go_at_call 33; refine (eqBlockS_same (H.out.below bb) (H'.out.below bb)).mono ?_; rintro e w1 ⟨rfl, hb1⟩)
  go_ret
  exact ⟨rfl, bb.trans (hb1.mono bb.size)⟩
end Go.Proofs.YtccoeachemnbnaaGreatDoor
namespace Go.Proofs.YtccoeachemnbnaaGreatDoor
open Go.RowKit

/-- A slice's value. -/
abbrev Sl3 := Option Addr × Nat × Nat
def sl3V (s : Sl3) : Value := .slice s.1 s.2.1 s.2.2
/-- A block as it lies in memory. -/
abbrev Rb := Int × Int × Sl3 × Int × Int × Sl3
def rb0 : Rb := (0, 0, (none, 0, 0), 0, 0, (none, 0, 0))
def rbCells (x : Rb) : List Value := [.int .i64 x.1, .int .i64 x.2.1, sl3V x.2.2.1, .int .i64 x.2.2.2.1, .int .i64 x.2.2.2.2.1, sl3V x.2.2.2.2.2]
def flat6 (l : List Rb) : List Value := l.flatMap rbCells
theorem flat6_length (l : List Rb) : (flat6 l).length = l.length * 6 := by
  unfold flat6
  induction l with
  | nil => rfl
  | cons x t ih => rw [List.flatMap_cons, List.length_append, ih, List.length_cons]; simp [rbCells]; omega
theorem flat6_append (a b : List Rb) : flat6 (a ++ b) = flat6 a ++ flat6 b := by simp [flat6]
theorem flat6_get : ∀ (l : List Rb) (k : Nat), k < l.length → ∀ j, j < 6 → (flat6 l)[k * 6 + j]? = (rbCells (l.getD k rb0))[j]?
  | [], k, hk, _, _ => absurd hk (by simp)
  | x :: t, 0, _, j, hj => by
      unfold flat6
      rw [List.flatMap_cons, Nat.zero_mul, Nat.zero_add, List.getElem?_append_left (by simpa [rbCells] using hj)]
      rfl
  | x :: t, k + 1, hk, j, hj => by
      have ih := flat6_get t k (by simpa using hk) j hj
      unfold flat6 at ih ⊢
      rw [List.flatMap_cons, List.getElem?_append_right (by simp [rbCells]; omega)]
      have e : (k + 1) * 6 + j - (rbCells x).length = k * 6 + j := by simp [rbCells]; omega
      rw [e, ih]
      rfl
/-- A block whose text lies in [lo, mid) and whose table in [mid, hi), both its own. -/
def BlOwn (w : World) (lo mid hi : Nat) (x : Rb) (y : Bl) : Prop :=
  (x.1 = y.1 ∧ x.2.1 = y.2.1 ∧ x.2.2.2.1 = y.2.2.2.1 ∧ x.2.2.2.2.1 = y.2.2.2.2.1) ∧ Own w lo (sl3V x.2.2.1) y.2.2.1 ∧ (∀ g, (sl3V x.2.2.1).ownBlock = some g → g < mid) ∧
    (∃ rs, OwnT w mid (sl3V x.2.2.2.2.2) rs y.2.2.2.2.2 ∧ (∀ g, (sl3V x.2.2.2.2.2).ownBlock = some g → g < hi) ∧ ∀ k, k < rs.length → ∀ g, (rwT (rs.getD k rw0)).ownBlock = some g → g < hi) ∧ lo ≤ mid ∧ mid ≤ hi
/-- A document's blocks, all their own, between B and E. -/
def DocOwn (w : World) (B E : Nat) (v : Value) (rbs : List Rb) (d : List Bl) : Prop :=
  w.ownsRow B 56 6 v rbs.length (flat6 rbs) ∧ (∀ g, v.ownBlock = some g → g < E) ∧ rbs.length = d.length ∧
    ∃ lo mid hi : Nat → Nat, (∀ k, k < d.length → B ≤ lo k ∧ hi k ≤ E ∧ BlOwn w (lo k) (mid k) (hi k) (rbs.getD k rb0) (d.getD k bl0)) ∧ ∀ k, k + 1 < d.length → hi k ≤ lo (k + 1)
/-- Between B and E nothing has turned. -/
def Mid (B E : Nat) (w w' : World) : Prop := ∀ b, B ≤ b → b < E → w'.heap[b]? = w.heap[b]?
/-- Between B and E nothing but rows of blocks has turned. -/
def Kept (B E : Nat) (w w' : World) : Prop := ∀ b cs ty, B ≤ b → b < E → ty ≠ 56 → RowAt w b cs ty → RowAt w' b cs ty
theorem own_kept {w w' : World} {B E e size n : Nat} {v : Value} {xs : List Value} (h : w.ownsRow B e size v n xs) (he : e ≠ 56) (hv : ∀ g, v.ownBlock = some g → g < E) (ho : Kept B E w w') : w'.ownsRow B e size v n xs := by
  refine ⟨h.1, ?_⟩
  rcases h.2 with hn | ⟨g, cap, cur, rfl, hg, hgg, rest⟩
  · exact .inl hn
  · exact .inr ⟨g, cap, cur, rfl, hg, ho g cur e hg (hv g rfl) he hgg, rest⟩
theorem ownT_kept {w w' : World} {B E : Nat} {v : Value} {rs : List Rw} {l : List Cl} (h : OwnT w B v rs l) (hv : ∀ g, v.ownBlock = some g → g < E) (hr : ∀ k, k < rs.length → ∀ g, (rwT (rs.getD k rw0)).ownBlock = some g → g < E) (ho : Kept B E w w') : OwnT w' B v rs l :=
  ⟨own_kept h.1 (by decide) hv ho, h.2.1, fun k hk => by
    obtain ⟨h0, h1, h2, h3, h4⟩ := h.2.2.1 k hk
    exact ⟨h0, h1, h2, h3, own_kept h4 (by decide) (fun g hg => hr k hk g hg) ho⟩, h.2.2.2⟩
theorem BlOwn.kept {w w' : World} {lo mid hi : Nat} {x : Rb} {y : Bl} (h : BlOwn w lo mid hi x y) (ho : Kept lo hi w w') : BlOwn w' lo mid hi x y := by
  obtain ⟨h0, h1, h2, ⟨rs, h3, h4, h5⟩, h6, h7⟩ := h
  exact ⟨h0, own_kept h1 (by decide) h2 (fun b cs ty hb hb' => ho b cs ty hb (by omega)), h2, ⟨rs, ownT_kept h3 h4 h5 (fun b cs ty hb hb' => ho b cs ty (by omega) hb'), h4, h5⟩, h6, h7⟩
theorem Mid.kept {B E : Nat} {w w' : World} (h : Mid B E w w') : Kept B E w w' := fun b _ _ hb hb' _ hr => (h b hb hb').trans hr
theorem BlOwn.mid {w w' : World} {lo mid hi : Nat} {x : Rb} {y : Bl} (h : BlOwn w lo mid hi x y) (ho : Mid lo hi w w') : BlOwn w' lo mid hi x y := h.kept ho.kept
theorem kept_set {w : World} {g : Nat} {cur : Array Value} (h : RowAt w g cur 56) (B E o : Nat) (u : Value) : Kept B E w (w.setCell ⟨g, o, none⟩ u) := fun b cs ty _ _ hty hr => hr.other _ _ (fun e => by
  simp only at e
  subst e
  unfold RowAt at h hr
  rw [hr] at h
  simp only [Option.some.injEq, Obj.cells.injEq] at h
  exact hty h.2.1)
theorem kept_grown {w w' : World} {q : Option Nat} (hq : ∀ g, q = some g → ∃ cur, RowAt w g cur 56) (hg : w.grownBy w' q) (B E : Nat) : Kept B E w w' := fun b cs ty _ _ hty hr => hr.grown hg (fun e => by
  obtain ⟨cur, h⟩ := hq b e
  unfold RowAt at h hr
  rw [hr] at h
  simp only [Option.some.injEq, Obj.cells.injEq] at h
  exact hty h.2.1)
theorem Kept.trans {w w' w'' : World} {B E : Nat} (h : Kept B E w w') (h' : Kept B E w' w'') : Kept B E w w'' := fun b cs ty hb hb' ht hr => h' b cs ty hb hb' ht (h b cs ty hb hb' ht hr)
theorem own_mid {w w' : World} {B E e size n : Nat} {v : Value} {xs : List Value} (h : w.ownsRow B e size v n xs) (hv : ∀ g, v.ownBlock = some g → g < E) (ho : Mid B E w w') : w'.ownsRow B e size v n xs := by
  refine ⟨h.1, ?_⟩
  rcases h.2 with hn | ⟨g, cap, cur, rfl, hg, hgg, rest⟩
  · exact .inl hn
  · exact .inr ⟨g, cap, cur, rfl, hg, (ho g hg (hv g rfl)).trans hgg, rest⟩
theorem DocOwn.mid {w w' : World} {B E : Nat} {v : Value} {rbs : List Rb} {d : List Bl} (h : DocOwn w B E v rbs d) (ho : Mid B E w w') : DocOwn w' B E v rbs d := by
  obtain ⟨h0, h1, h2, lo, mid, hi, h3, h4⟩ := h
  refine ⟨own_mid h0 h1 ho, h1, h2, lo, mid, hi, fun k hk => ?_, h4⟩
  obtain ⟨a, b, c⟩ := h3 k hk
  exact ⟨a, b, c.mid (fun q hq hq' => ho q (by omega) (by omega))⟩
theorem DocOwn.below {w w' : World} {B E : Nat} {v : Value} {rbs : List Rb} {d : List Bl} (h : DocOwn w B E v rbs d) (hE : E ≤ w.heap.size) (hb : Below w.heap.size w w') : DocOwn w' B E v rbs d :=
  h.mid fun b _ hb' => hb.block b (by omega)
theorem BlOwn.at {w : World} {lo mid hi : Nat} {x : Rb} {y : Bl} (h : BlOwn w lo mid hi x y) {b o : Nat} (hc : ∀ j, j < 6 → w.cell? ⟨b, o + j, none⟩ = (rbCells x)[j]?) : BlockIs w b o y x.2.2.1.1 x.2.2.1.2.1 x.2.2.1.2.2 x.2.2.2.2.2.1 x.2.2.2.2.2.2.1 x.2.2.2.2.2.2.2 := by
  obtain ⟨⟨h0, h1, h2, h3⟩, h4, -, ⟨rs, h5, -, -⟩, -, -⟩ := h
  refine ⟨?_, ?_, ?_, ?_, ?_, ?_, ?_, ?_⟩
  · have := hc 0 (by omega); rw [Nat.add_zero] at this; rw [this, ← h0]; rfl
  · have := hc 1 (by omega); rw [this, ← h1]; rfl
  · have := hc 2 (by omega); rw [this]; rfl
  · have := hc 3 (by omega); rw [this, ← h2]; rfl
  · have := hc 4 (by omega); rw [this, ← h3]; rfl
  · have := hc 5 (by omega); rw [this]; rfl
  · exact Own.txt h4
  · exact OwnT.tab h5
theorem DocOwn.shape {w : World} {B E : Nat} {v : Value} {rbs : List Rb} {d : List Bl} (h : DocOwn w B E v rbs d) : ∃ a c, v = .slice a d.length c := by
  obtain ⟨h0, -, h2, -⟩ := h
  rw [← h2]
  rcases h0.2 with ⟨rfl, hz⟩ | ⟨g, cap, cur, rfl, r⟩
  · exact ⟨none, 0, by rw [hz]⟩
  · exact ⟨_, _, rfl⟩
theorem DocOwn.len {w : World} {B E : Nat} {a : Option Addr} {n c : Nat} {rbs : List Rb} {d : List Bl} (h : DocOwn w B E (.slice a n c) rbs d) : n = d.length := by
  obtain ⟨a', c', he⟩ := h.shape
  simp only [Value.slice.injEq] at he
  exact he.2.1
theorem DocOwn.dc {w : World} {B E : Nat} {a : Option Addr} {n c : Nat} {rbs : List Rb} {d : List Bl} (h : DocOwn w B E (.slice a n c) rbs d) : Dc w a n c d := by
  have hn := h.len
  obtain ⟨h0, h1, h2, lo, mid, hi, h3, -⟩ := h
  have h0' := h0
  rcases h0.2 with ⟨hv, hz⟩ | ⟨g, cap, cur, hv, hg, hgg, hr1, hr2, hr3, hr4⟩
  · cases hv
    exact ⟨hn, Nat.le_refl _, by unfold maxLen; omega, .inl (List.eq_nil_of_length_eq_zero (by omega))⟩
  · simp only [Value.slice.injEq] at hv
    obtain ⟨rfl, h6, rfl⟩ := hv
    refine ⟨hn, by omega, hr2, .inr ⟨g, 0, rfl, (Array.getElem?_eq_some_iff.1 hgg).1, fun k hk => ?_⟩⟩
    obtain ⟨-, -, hB⟩ := h3 k hk
    refine ⟨_, _, _, _, _, _, hB.at (fun j hj => ?_)⟩
    rw [h6] at h0'
    have hc := h0'.cellAt (k * 6 + j) (by omega)
    rw [Nat.zero_add, hc]
    exact flat6_get rbs k (by omega) j hj
theorem DocOwn.less {w : World} {B B' E E' : Nat} {v : Value} {rbs : List Rb} {d : List Bl} (h : DocOwn w B E v rbs d) (hB : B' ≤ B) (hE : E ≤ E') : DocOwn w B' E' v rbs d := by
  obtain ⟨h0, h1, h2, lo, mid, hi, h3, h4⟩ := h
  refine ⟨own_less h0 hB, fun g hg => Nat.lt_of_lt_of_le (h1 g hg) hE, h2, lo, mid, hi, fun k hk => ?_, h4⟩
  obtain ⟨a, b, c⟩ := h3 k hk
  exact ⟨by omega, by omega, c⟩
/-- The blocks of a document, one behind the other, without their rows. -/
def BlsOwn (w : World) (B E : Nat) (rbs : List Rb) (d : List Bl) : Prop :=
  rbs.length = d.length ∧ ∃ lo mid hi : Nat → Nat, (∀ k, k < d.length → B ≤ lo k ∧ hi k ≤ E ∧ BlOwn w (lo k) (mid k) (hi k) (rbs.getD k rb0) (d.getD k bl0)) ∧ ∀ k, k + 1 < d.length → hi k ≤ lo (k + 1)
theorem own_rowAt {w : World} {B e size n m c : Nat} {g : Nat} {xs : List Value} (h : w.ownsRow B e size (.slice (some ⟨g, 0, none⟩) m c) n xs) : ∃ cur, RowAt w g cur e := by
  rcases h.2 with ⟨hv, _⟩ | ⟨g', cap, cur, hv, _, hgg, _⟩
  · cases hv
  · simp only [Value.slice.injEq, Option.some.injEq, Addr.mk.injEq] at hv
    rw [hv.1.1]
    exact ⟨cur, hgg⟩
theorem own_rowAts {w : World} {B e size n : Nat} {v : Value} {xs : List Value} (h : w.ownsRow B e size v n xs) : ∀ g, v.ownBlock = some g → ∃ cur, RowAt w g cur e := by
  intro g hg
  rcases h.2 with ⟨rfl, _⟩ | ⟨g', cap, cur, rfl, _, hgg, _⟩
  · simp [Value.ownBlock] at hg
  · simp only [Value.ownBlock, Option.some.injEq] at hg
    subst hg
    exact ⟨cur, hgg⟩
theorem BlsOwn.nil (w : World) (B E : Nat) : BlsOwn w B E [] [] := ⟨rfl, fun _ => 0, fun _ => 0, fun _ => 0, fun k hk => absurd hk (by simp), fun k hk => absurd hk (by simp)⟩
theorem BlsOwn.kept {w w' : World} {B E : Nat} {rbs : List Rb} {d : List Bl} (h : BlsOwn w B E rbs d) (ho : Kept B E w w') : BlsOwn w' B E rbs d := by
  obtain ⟨h0, lo, mid, hi, h1, h2⟩ := h
  refine ⟨h0, lo, mid, hi, fun k hk => ?_, h2⟩
  obtain ⟨a, b, c⟩ := h1 k hk
  exact ⟨a, b, c.kept (fun g cs ty hg hg' => ho g cs ty (by omega) (by omega))⟩
theorem BlsOwn.snoc {w : World} {B E E' : Nat} {rbs : List Rb} {d : List Bl} {mid : Nat} {x : Rb} {y : Bl} (h : BlsOwn w B E rbs d) (hB : B ≤ E) (hx : BlOwn w E mid E' x y) (hE : E ≤ E') : BlsOwn w B E' (rbs ++ [x]) (d ++ [y]) := by
  obtain ⟨h0, lo, md, hi, h1, h2⟩ := h
  refine ⟨by simp [h0], fun k => if k < d.length then lo k else E, fun k => if k < d.length then md k else mid, fun k => if k < d.length then hi k else E', fun k hk => ?_, fun k hk => ?_⟩
  · by_cases hlt : k < d.length
    · have e1 : (rbs ++ [x]).getD k rb0 = rbs.getD k rb0 := by simp [List.getD, List.getElem?_append_left (show k < rbs.length by rw [h0]; exact hlt)]
      have e2 : (d ++ [y]).getD k bl0 = d.getD k bl0 := by simp [List.getD, List.getElem?_append_left hlt]
      rw [e1, e2]
      simp only [if_pos hlt]
      obtain ⟨a, b, c⟩ := h1 k hlt
      exact ⟨a, by omega, c⟩
    · have ek : k = d.length := by simp at hk; omega
      subst ek
      have e1 : (rbs ++ [x]).getD d.length rb0 = x := by simp [List.getD, ← h0]
      have e2 : (d ++ [y]).getD d.length bl0 = y := by simp [List.getD]
      rw [e1, e2]
      simp only [if_neg hlt]
      exact ⟨hB, Nat.le_refl _, hx⟩
  · by_cases hlt : k + 1 < d.length
    · simp only [if_pos hlt, if_pos (show k < d.length by omega)]
      exact h2 k hlt
    · have ek : k + 1 = d.length := by simp at hk; omega
      have hk' : k < d.length := by omega
      simp only [if_neg hlt, if_pos hk']
      exact (h1 k hk').2.1
theorem BlsOwn.grow {w : World} {B E E' : Nat} {rbs : List Rb} {d : List Bl} (h : BlsOwn w B E rbs d) (hE : E ≤ E') : BlsOwn w B E' rbs d := by
  obtain ⟨h0, lo, md, hi, h1, h2⟩ := h
  refine ⟨h0, lo, md, hi, fun k hk => ?_, h2⟩
  obtain ⟨a, b, c⟩ := h1 k hk
  exact ⟨a, by omega, c⟩
theorem DocOwn.bls {w : World} {B E : Nat} {v : Value} {rbs : List Rb} {d : List Bl} (h : DocOwn w B E v rbs d) : BlsOwn w B E rbs d := h.2.2
theorem docOwn_of {w : World} {B E : Nat} {v : Value} {rbs : List Rb} {d : List Bl} (h : w.ownsRow B 56 6 v rbs.length (flat6 rbs)) (hv : ∀ g, v.ownBlock = some g → g < E) (hb : BlsOwn w B E rbs d) : DocOwn w B E v rbs d := ⟨h, hv, hb⟩
theorem DocOwn.nil (w : World) (B E : Nat) : DocOwn w B E (.slice none 0 0) [] [] :=
  ⟨World.ownsRow_nil _ _ _ _, fun g hg => by simp [Value.ownBlock] at hg, rfl, fun _ => 0, fun _ => 0, fun _ => 0, fun k hk => absurd hk (by simp), fun k hk => absurd hk (by simp)⟩
end Go.Proofs.YtccoeachemnbnaaGreatDoor
namespace Go.Proofs.YtccoeachemnbnaaGreatDoor
open Go.RowKit

theorem block_info : (Tryz.prog.info? 56).map (·.size) = some 6 := by kernel_rfl
theorem Tryz.info56 : (Tryz.prog.info? 56).map (fun i => (i.zero, i.size, i.bytes)) = some (some (.agg #[.int .i64 0, .int .i64 0, .slice none 0 0, .int .i64 0, .int .i64 0, .slice none 0 0]), 6, 80) := by kernel_rfl
theorem cells6_one (a b : Int) (s : Option Addr) (n c : Nat) (x y : Int) (s' : Option Addr) (n' c' : Nat) : (#[Value.int .i64 a, .int .i64 b, .slice s n c, .int .i64 x, .int .i64 y, .slice s' n' c'] : Array Value).all (·.oneCell') = true := by
  simp [Value.oneCell']
theorem docI_info : (Tryz.prog.info? 25).map (·.size) = some 1 := by kernel_rfl
theorem cells1_one (a : Option Addr) (n c : Nat) : (#[Value.slice a n c] : Array Value).all (·.oneCell') = true := by simp [Value.oneCell']
end Go.Proofs.YtccoeachemnbnaaGreatDoor
namespace Go.Proofs.YtccoeachemnbnaaGreatDoor
open Go.RowKit

set_option maxRecDepth 100000 in
set_option maxHeartbeats 2000000 in
theorem szCellS_l {a : Option Addr} {n cap : Nat} {l : List Cl} {left : Int} {w : World} (h : Tab w a n cap l) (h0 : 0 ≤ left) (h1 : left ≤ 1048576) :
    Calls Tryz.prog 84 #[.slice a n cap, .int .i64 left] w fun e w' => (e = .returned (.int .i64 (-1)) ∨ ((l.length : Int) + (totT l : Nat) ≤ left ∧ e = .returned (.int .i64 (left - l.length - (totT l : Nat))))) ∧ Below w.heap.size w w' := by
  obtain ⟨rfl, hc, hm, hl⟩ := h
  have hmm := hm
  unfold maxLen at hm
  by_cases hle : (l.length : Int) ≤ left
  · have k0 : ¬ left - (l.length : Int) < 0 := by omega
    go_enter Tryz.func84, Tryz.ntmps84
    go_wp2_with fail
    go_loopw [1, 5] (fun lv i wr => ∃ k : Nat, k ≤ l.length ∧ i = .int .i64 k ∧ (l.length : Int) + (totT (l.take k) : Nat) ≤ left ∧ lv = .int .i64 (left - (l.length : Int) - (totT (l.take k) : Nat)) ∧ Below w.heap.size w wr) (fun _ i _ => l.length - (intOf i).toNat)
    case atStart => exact ⟨0, Nat.zero_le _, rfl, by simpa [totT] using hle, by simp [totT], Below.refl _ _⟩
    case round =>
      obtain ⟨k, hk, rfl, ht, rfl, hb⟩ := hrel
      have HB : Hid (Below w.heap.size w wr) := hb
      by_cases hlt : k < l.length
      · rcases hl with e | ⟨b, off, rfl, hbw, hl⟩
        · rw [e] at hlt
          exact absurd hlt (by simp)
        obtain ⟨c0, c1, c2, c3, ta, tn, tc, c4, htx⟩ := (hl k hlt).below hb hbw
        obtain ⟨e1, e2, e3, -⟩ := htx
        have HT := totT_take l k hlt
        rw [← e1] at HT
        have HT' : Hid (totT (l.take (k + 1)) = totT (l.take k) + tn) := HT
        have sz := hb.size
        clear hl HT hb e1
        generalize totT (l.take k) = m at ht HT' ⊢
        by_cases hle2 : (tn : Int) ≤ left - (l.length : Int) - m
        · have HX : Hid ((if (tn : Int) ≤ left - (l.length : Int) - m then left - (l.length : Int) - m - tn else -1) = left - (l.length : Int) - m - tn) := if_pos hle2
          have n0 : ¬ left - (l.length : Int) - m - tn < 0 := by omega
          go_wp2_with (go_at_call 95; refine (szCell_l _ _ _ _ _ _ _ _ _ e2 e3 (by omega) (by omega) HX.out).mono ?_; rintro e w1 ⟨rfl, hb1⟩)
          go_roundw
          case rel => exact ⟨k + 1, by omega, by go_num, by rw [HT'.out]; omega, by rw [HT'.out]; congr 1; omega, HB.out.trans (hb1.mono sz)⟩
          case measure => simp [intOf]; omega
        · have HX : Hid ((if (tn : Int) ≤ left - (l.length : Int) - m then left - (l.length : Int) - m - tn else -1) = -1) := if_neg hle2
          go_wp2_with (go_at_call 95; refine (szCell_l _ _ _ _ _ _ _ _ _ e2 e3 (by omega) (by omega) HX.out).mono ?_; rintro e w1 ⟨rfl, hb1⟩)
          go_ret
          exact ⟨.inl rfl, HB.out.trans (hb1.mono sz)⟩
      · have e : l.take k = l := List.take_of_length_le (by omega)
        rw [e] at ht ⊢
        go_wp2_with fail
        go_ret
        exact ⟨.inr ⟨ht, rfl⟩, HB.out⟩
  · have k0 : left - (l.length : Int) < 0 := by omega
    go_enter Tryz.func84, Tryz.ntmps84
    go_wp2_with fail
    go_ret
    exact ⟨.inl rfl, Below.refl _ _⟩
set_option maxHeartbeats 1000000 in
theorem szTable_l {R C : Int} {a : Option Addr} {n cap : Nat} {l : List Cl} {left : Int} {w : World} (h : Tab w a n cap l) (h0 : 0 ≤ left) (h1 : left ≤ 1048576) :
    Calls Tryz.prog 69 #[.agg #[.int .i64 R, .int .i64 C, .slice a n cap], .int .i64 left] w fun e w' => (e = .returned (.int .i64 (-1)) ∨ ((l.length : Int) + (totT l : Nat) ≤ left ∧ e = .returned (.int .i64 (left - l.length - (totT l : Nat))))) ∧ Below w.heap.size w w' := by
  have H : Hid (Tab w a n cap l) := h
  clear h
  go_enter Tryz.func69, Tryz.ntmps69
  go_wp2_with (go_at_call 84; refine (szCellS_l (H.out.below ((Below.refl _ _).alloc (Nat.le_refl _) _)) h0 h1).mono ?_; rintro e w1 ⟨(rfl | ⟨hle, rfl⟩), hb1⟩)
  · go_ret
    exact ⟨.inl rfl, ((Below.refl _ _).alloc (Nat.le_refl _) _).trans (hb1.mono (by simp))⟩
  · go_ret
    exact ⟨.inr ⟨hle, rfl⟩, ((Below.refl _ _).alloc (Nat.le_refl _) _).trans (hb1.mono (by simp))⟩
/-- How much a block has. -/
def szB (x : Bl) : Nat := x.2.2.1.length + (x.2.2.2.2.2.length + totT x.2.2.2.2.2)
set_option maxRecDepth 100000 in
set_option maxHeartbeats 4000000 in
theorem szBlock_l {k v : Int} {ta : Option Addr} {tn tc : Nat} {R C : Int} {ca : Option Addr} {cn cc : Nat} {t : List Sg} {l : List Cl} {left : Int} {w : World} (ht : Txt w ta tn tc t) (hc : Tab w ca cn cc l) (h0 : 0 ≤ left) (h1 : left ≤ 1048576) :
    Calls Tryz.prog 49 #[.agg #[.int .i64 k, .int .i64 v, .slice ta tn tc, .int .i64 R, .int .i64 C, .slice ca cn cc], .int .i64 left] w fun e w' => (e = .returned (.int .i64 (-1)) ∨ ((szB (k, v, t, R, C, l) : Nat) ≤ left ∧ e = .returned (.int .i64 (left - (szB (k, v, t, R, C, l) : Nat))))) ∧ Below w.heap.size w w' := by
  have e1 := ht.1
  have e2 := ht.2.1
  have e3 := ht.2.2.1
  have HE : Hid (tn = t.length) := e1
  have HC : Hid (Tab w ca cn cc l) := hc
  clear e1 ht hc
  have B0 : Below w.heap.size w (w.alloc (.cells #[.int .i64 k, .int .i64 v, .slice ta tn tc, .int .i64 R, .int .i64 C, .slice ca cn cc] 93)) := (Below.refl _ _).alloc (Nat.le_refl _) _
  by_cases hle : (tn : Int) ≤ left
  · have HX : Hid ((if (tn : Int) ≤ left then left - tn else -1) = left - tn) := if_pos hle
    have n0 : ¬ left - (tn : Int) < 0 := by omega
    go_enter Tryz.func49, Tryz.ntmps49
    go_wp2_with (first | (go_at_call 68; refine (szSignS_l _ _ _ _ _ e2 e3 h0 h1 HX.out).mono ?_; rintro e w1 ⟨rfl, hw1⟩; subst w1) | (go_at_call 69; refine (szTable_l (HC.out.below B0) (by omega) (by omega)).mono ?_; rintro e w2 ⟨(rfl | ⟨hle2, rfl⟩), hb2⟩))
    · go_ret
      exact ⟨.inl rfl, B0.trans (hb2.mono B0.size)⟩
    · have n1 : ¬ left - (tn : Int) - (l.length : Int) - (totT l : Nat) < 0 := by omega
      go_wp2_with fail
      go_ret
      refine ⟨.inr ⟨?_, ?_⟩, B0.trans (hb2.mono B0.size)⟩
      · show ((t.length + (l.length + totT l) : Nat) : Int) ≤ left
        have := HE.out
        omega
      · have := HE.out
        have e : left - (tn : Int) - (l.length : Int) - (totT l : Nat) = left - ((t.length + (l.length + totT l) : Nat) : Int) := by omega
        rw [e]
        rfl
  · have HX : Hid ((if (tn : Int) ≤ left then left - tn else -1) = -1) := if_neg hle
    go_enter Tryz.func49, Tryz.ntmps49
    go_wp2_with (go_at_call 68; refine (szSignS_l _ _ _ _ _ e2 e3 h0 h1 HX.out).mono ?_; rintro e w1 ⟨rfl, hw1⟩; subst w1)
    go_ret
    exact ⟨.inl rfl, B0⟩
/-- How much the blocks have. -/
def totD (d : List Bl) : Nat := (d.map szB).sum
theorem totD_append (a b : List Bl) : totD (a ++ b) = totD a + totD b := by
  unfold totD
  rw [List.map_append, List.sum_append]
theorem totD_take (l : List Bl) (k : Nat) (hk : k < l.length) : totD (l.take (k + 1)) = totD (l.take k) + szB (l.getD k bl0) := by
  rw [List.take_succ_eq_append_getElem hk, totD_append, show l.getD k bl0 = l[k] from by simp [List.getD, hk]]
  rfl
theorem totD_le (l : List Bl) (k : Nat) (hk : k < l.length) : szB (l.getD k bl0) ≤ totD l := by
  have h1 := totD_take l k hk
  have h2 := totD_append (l.take (k + 1)) (l.drop (k + 1))
  rw [List.take_append_drop] at h2
  omega
set_option maxRecDepth 100000 in
set_option maxHeartbeats 4000000 in
theorem szBlockS_l {a : Option Addr} {n cap : Nat} {d : List Bl} {left : Int} {w : World} (h : Dc w a n cap d) (h0 : 0 ≤ left) (h1 : left ≤ 1048576) :
    Calls Tryz.prog 30 #[.slice a n cap, .int .i64 left] w fun e w' => (e = .returned (.int .i64 (-1)) ∨ ((d.length : Int) + (totD d : Nat) ≤ left ∧ e = .returned (.int .i64 (left - d.length - (totD d : Nat))))) ∧ Below w.heap.size w w' := by
  obtain ⟨rfl, hc, hm, hl⟩ := h
  have hmm := hm
  unfold maxLen at hm
  by_cases hle : (d.length : Int) ≤ left
  · have k0 : ¬ left - (d.length : Int) < 0 := by omega
    have HL : Hid (d = [] ∨ ∃ b off, a = some ⟨b, off, none⟩ ∧ b < w.heap.size ∧ ∀ k, k < d.length → BlockAt w b (off + k * 6) (d.getD k bl0)) := hl
    clear hl
    go_enter Tryz.func30, Tryz.ntmps30
    go_wp2_with fail
    go_loopw [1, 5] (fun lv i wr => ∃ k : Nat, k ≤ d.length ∧ i = .int .i64 k ∧ (d.length : Int) + (totD (d.take k) : Nat) ≤ left ∧ lv = .int .i64 (left - (d.length : Int) - (totD (d.take k) : Nat)) ∧ Below w.heap.size w wr) (fun _ i _ => d.length - (intOf i).toNat)
    case atStart => exact ⟨0, Nat.zero_le _, rfl, by simpa [totD] using hle, by simp [totD], Below.refl _ _⟩
    case round =>
      obtain ⟨k, hk, rfl, ht, rfl, hb⟩ := hrel
      have HB : Hid (Below w.heap.size w wr) := hb
      by_cases hlt : k < d.length
      · rcases HL.out with e | ⟨b, off, rfl, hbw, hl⟩
        · rw [e] at hlt
          exact absurd hlt (by simp)
        obtain ⟨ta, tn, tc, ca, cn, cc, hblk⟩ := (hl k hlt).below hb hbw
        have HT' : Hid (totD (d.take (k + 1)) = totD (d.take k) + szB (d.getD k bl0)) := totD_take d k hlt
        obtain ⟨⟨K, V, t, R, C, l⟩, hx⟩ : ∃ x, x = d.getD k bl0 := ⟨_, rfl⟩
        rw [← hx] at hblk HT'
        obtain ⟨c0, c1, c2, c3, c4, c5, htx, htb⟩ := hblk
        simp only at c0 c1 c3 c4 htx htb
        have HTX : Hid (Txt wr ta tn tc t) := htx
        have HTB : Hid (Tab wr ca cn cc l) := htb
        have sz := hb.size
        clear hl hb hx htx htb
        generalize totD (d.take k) = m at ht HT' ⊢
        go_wp2_with (go_at_call 49; refine (szBlock_l HTX.out HTB.out (by omega) (by omega)).mono ?_; rintro e w1 ⟨(rfl | ⟨hle2, rfl⟩), hb1⟩)
        · go_ret
          exact ⟨.inl rfl, HB.out.trans (hb1.mono sz)⟩
        · generalize szB (K, V, t, R, C, l) = z at HT' hle2 ⊢
          have n0 : ¬ left - (d.length : Int) - (m : Int) - (z : Int) < 0 := by omega
          go_wp2_with fail
          go_roundw
          case rel => exact ⟨k + 1, by omega, by go_num, by rw [HT'.out]; omega, by rw [HT'.out]; congr 1; omega, HB.out.trans (hb1.mono sz)⟩
          case measure => simp [intOf]; omega
      · have e : d.take k = d := List.take_of_length_le (by omega)
        rw [e] at ht ⊢
        go_wp2_with fail
        go_ret
        exact ⟨.inr ⟨ht, rfl⟩, HB.out⟩
  · have k0 : left - (d.length : Int) < 0 := by omega
    go_enter Tryz.func30, Tryz.ntmps30
    go_wp2_with fail
    go_ret
    exact ⟨.inl rfl, Below.refl _ _⟩
set_option maxHeartbeats 1000000 in
theorem szDoc_any {a : Option Addr} {n cap : Nat} {d : List Bl} {w : World} (h : Dc w a n cap d) :
    Calls Tryz.prog 12 #[.agg #[.slice a n cap], .int .i64 1048576] w fun e w' => (e = .returned (.int .i64 (-1)) ∨ (d.length + totD d ≤ 1048576 ∧ e = .returned (.int .i64 (1048576 - d.length - (totD d : Nat))))) ∧ Below w.heap.size w w' := by
  have H : Hid (Dc w a n cap d) := h
  clear h
  have B0 : Below w.heap.size w (w.alloc (.cells #[.slice a n cap] 35)) := (Below.refl _ _).alloc (Nat.le_refl _) _
  go_enter Tryz.func12, Tryz.ntmps12
  go_wp2_with (go_at_call 30; refine (szBlockS_l (H.out.below B0) (by omega) (by omega)).mono ?_; rintro e w1 ⟨(rfl | ⟨hle, rfl⟩), hb1⟩)
  · go_ret
    exact ⟨.inl rfl, B0.trans (hb1.mono B0.size)⟩
  · generalize totD d = m at hle ⊢
    have n0 : ¬ (1048576 : Int) - (d.length : Int) - (m : Int) < 0 := by omega
    go_wp2_with fail
    go_ret
    exact ⟨.inr ⟨by omega, rfl⟩, B0.trans (hb1.mono B0.size)⟩
end Go.Proofs.YtccoeachemnbnaaGreatDoor
namespace Go.Proofs.YtccoeachemnbnaaGreatDoor
open Go.RowKit

set_option maxRecDepth 100000 in
set_option maxHeartbeats 4000000 in
theorem toBlock_any {k v : Int} {ta : Option Addr} {tn tc : Nat} {R C : Int} {ca : Option Addr} {cn cc : Nat} {t : List Sg} {l : List Cl} {w : World} (ht : Txt w ta tn tc t) (hc : Tab w ca cn cc l) (h1 : tn ≤ 1048576) (h2 : l.length + totT l ≤ 1048576) :
    Calls Tryz.prog 50 #[.agg #[.int .i64 k, .int .i64 v, .slice ta tn tc, .int .i64 R, .int .i64 C, .slice ca cn cc]] w fun e w' => (∃ tb cb mid, e = .returned (.agg #[.int .i64 k, .int .i64 v, .slice (some ⟨tb, 0, none⟩) tn tn, .int .i64 R, .int .i64 C, .slice (some ⟨cb, 0, none⟩) cn cn]) ∧ BlOwn w' w.heap.size mid w'.heap.size (k, v, (some ⟨tb, 0, none⟩, tn, tn), R, C, (some ⟨cb, 0, none⟩, cn, cn)) (k, v, t, R, C, l)) ∧ Below w.heap.size w w' := by
  have HT : Hid (Txt w ta tn tc t) := ht
  have HC : Hid (Tab w ca cn cc l) := hc
  clear ht hc
  go_enter Tryz.func50, Tryz.ntmps50
  go_upto_region 4 with fail
  have B0 : Below w.heap.size w (((w.alloc (.cells #[.int .i64 k, .int .i64 v, .slice ta tn tc, .int .i64 R, .int .i64 C, .slice ca cn cc] 93)).alloc (.cells #[.int .i64 0, .int .i64 0, .slice none 0 0, .int .i64 0, .int .i64 0, .slice none 0 0] 56)).alloc (.cells #[.int .i64 k, .int .i64 v, .slice none 0 0, .int .i64 0, .int .i64 0, .slice none 0 0] 56)) := (((Below.refl _ _).alloc (Nat.le_refl _) _).alloc (by simp) _).alloc (by simp; omega) _
  have G0 : RowAt (((w.alloc (.cells #[.int .i64 k, .int .i64 v, .slice ta tn tc, .int .i64 R, .int .i64 C, .slice ca cn cc] 93)).alloc (.cells #[.int .i64 0, .int .i64 0, .slice none 0 0, .int .i64 0, .int .i64 0, .slice none 0 0] 56)).alloc (.cells #[.int .i64 k, .int .i64 v, .slice none 0 0, .int .i64 0, .int .i64 0, .slice none 0 0] 56)) w.heap.size #[.int .i64 k, .int .i64 v, .slice ta tn tc, .int .i64 R, .int .i64 C, .slice ca cn cc] 93 := ((rowAt_new w _ _).alloc _).alloc _
  have G1 : RowAt (((w.alloc (.cells #[.int .i64 k, .int .i64 v, .slice ta tn tc, .int .i64 R, .int .i64 C, .slice ca cn cc] 93)).alloc (.cells #[.int .i64 0, .int .i64 0, .slice none 0 0, .int .i64 0, .int .i64 0, .slice none 0 0] 56)).alloc (.cells #[.int .i64 k, .int .i64 v, .slice none 0 0, .int .i64 0, .int .i64 0, .slice none 0 0] 56)) (w.heap.size + 1) #[.int .i64 0, .int .i64 0, .slice none 0 0, .int .i64 0, .int .i64 0, .slice none 0 0] 56 := by
    have := (rowAt_new (w.alloc (.cells #[.int .i64 k, .int .i64 v, .slice ta tn tc, .int .i64 R, .int .i64 C, .slice ca cn cc] 93)) #[.int .i64 0, .int .i64 0, .slice none 0 0, .int .i64 0, .int .i64 0, .slice none 0 0] 56).alloc (.cells #[.int .i64 k, .int .i64 v, .slice none 0 0, .int .i64 0, .int .i64 0, .slice none 0 0] 56)
    simpa using this
  have G2 : RowAt (((w.alloc (.cells #[.int .i64 k, .int .i64 v, .slice ta tn tc, .int .i64 R, .int .i64 C, .slice ca cn cc] 93)).alloc (.cells #[.int .i64 0, .int .i64 0, .slice none 0 0, .int .i64 0, .int .i64 0, .slice none 0 0] 56)).alloc (.cells #[.int .i64 k, .int .i64 v, .slice none 0 0, .int .i64 0, .int .i64 0, .slice none 0 0] 56)) (w.heap.size + 1 + 1) #[.int .i64 k, .int .i64 v, .slice none 0 0, .int .i64 0, .int .i64 0, .slice none 0 0] 56 := by
    have := (rowAt_new ((w.alloc (.cells #[.int .i64 k, .int .i64 v, .slice ta tn tc, .int .i64 R, .int .i64 C, .slice ca cn cc] 93)).alloc (.cells #[.int .i64 0, .int .i64 0, .slice none 0 0, .int .i64 0, .int .i64 0, .slice none 0 0] 56)) #[.int .i64 k, .int .i64 v, .slice none 0 0, .int .i64 0, .int .i64 0, .slice none 0 0] 56)
    simpa using this
  generalize (((w.alloc (.cells #[.int .i64 k, .int .i64 v, .slice ta tn tc, .int .i64 R, .int .i64 C, .slice ca cn cc] 93)).alloc (.cells #[.int .i64 0, .int .i64 0, .slice none 0 0, .int .i64 0, .int .i64 0, .slice none 0 0] 56)).alloc (.cells #[.int .i64 k, .int .i64 v, .slice none 0 0, .int .i64 0, .int .i64 0, .slice none 0 0] 56)) = v0 at B0 G0 G1 G2 ⊢
  have k2 : v0.cell? ⟨w.heap.size, 2, none⟩ = some (.slice ta tn tc) := G0.cell 2
  have l2 := G2.lt
  have l1 := G1.lt
  have l0 := G0.lt
  have H0 : Hid (RowAt v0 w.heap.size #[.int .i64 k, .int .i64 v, .slice ta tn tc, .int .i64 R, .int .i64 C, .slice ca cn cc] 93) := G0
  have H1 : Hid (RowAt v0 (w.heap.size + 1) #[.int .i64 0, .int .i64 0, .slice none 0 0, .int .i64 0, .int .i64 0, .slice none 0 0] 56) := G1
  have H2 : Hid (RowAt v0 (w.heap.size + 1 + 1) #[.int .i64 k, .int .i64 v, .slice none 0 0, .int .i64 0, .int .i64 0, .slice none 0 0] 56) := G2
  have s0 := B0.size
  have HB0 : Hid (Below w.heap.size w v0) := B0
  clear G0 G1 G2 B0
  go_upto_region 5 with (go_at_call 70; refine (toSignS_any _ _ _ t _ (HT.out.below HB0.out) h1).mono ?_; rintro e w1 ⟨rfl, ho1, hb1⟩; have q1 : w1.cell? ⟨w.heap.size + 1 + 1, 2, none⟩ = some (.slice none 0 0) := (H2.out.below hb1 l2).cell 2; have q2 := (H2.out.below hb1 l2).frozen 2)
  have lt1 := own_lt ho1 rfl
  have G2 := (H2.out.below hb1 l2).setCell 2 (.slice (some ⟨v0.heap.size, 0, none⟩) tn tn)
  have G1 := (H1.out.below hb1 l1).other ⟨w.heap.size + 1 + 1, 2, none⟩ (.slice (some ⟨v0.heap.size, 0, none⟩) tn tn) (by simp <;> omega)
  have G0 := (H0.out.below hb1 l0).other ⟨w.heap.size + 1 + 1, 2, none⟩ (.slice (some ⟨v0.heap.size, 0, none⟩) tn tn) (by simp <;> omega)
  have O1 := own_set ho1 ⟨w.heap.size + 1 + 1, 2, none⟩ (.slice (some ⟨v0.heap.size, 0, none⟩) tn tn) (by simp [Value.ownBlock]; omega)
  have B1 : Below w.heap.size w (w1.setCell ⟨w.heap.size + 1 + 1, 2, none⟩ (.slice (some ⟨v0.heap.size, 0, none⟩) tn tn)) := (HB0.out.trans (hb1.mono s0)).setCell (by show _ ≤ w.heap.size + 1 + 1; omega) _
  have ss : (w1.setCell ⟨w.heap.size + 1 + 1, 2, none⟩ (.slice (some ⟨v0.heap.size, 0, none⟩) tn tn)).heap.size = w1.heap.size := by simp
  have s1 := hb1.size
  clear q1 q2 ho1 hb1 k2 H0 H1 H2
  generalize (w1.setCell ⟨w.heap.size + 1 + 1, 2, none⟩ (.slice (some ⟨v0.heap.size, 0, none⟩) tn tn)) = w2 at G2 G1 G0 O1 B1 ss ⊢
  have g3 : w2.cell? ⟨w.heap.size, 3, none⟩ = some (.int .i64 R) := G0.cell 3
  have g4 : w2.cell? ⟨w.heap.size, 4, none⟩ = some (.int .i64 C) := G0.cell 4
  have g5 : w2.cell? ⟨w.heap.size, 5, none⟩ = some (.slice ca cn cc) := G0.cell 5
  have H1 : Hid (RowAt w2 (w.heap.size + 1) #[.int .i64 0, .int .i64 0, .slice none 0 0, .int .i64 0, .int .i64 0, .slice none 0 0] 56) := G1
  have H2 : Hid (RowAt w2 (w.heap.size + 1 + 1) #[.int .i64 k, .int .i64 v, .slice (some ⟨v0.heap.size, 0, none⟩) tn tn, .int .i64 0, .int .i64 0, .slice none 0 0] 56) := G2
  have HO1 : Hid (Own w2 v0.heap.size (.slice (some ⟨v0.heap.size, 0, none⟩) tn tn) t) := by
    have e := HT.out.1
    subst e
    exact O1
  have HB1 : Hid (Below w.heap.size w w2) := B1
  have e1 := G1.lt
  have e2 := G2.lt
  have s2 := B1.size
  clear G0 G1 G2 O1 B1
  go_upto_region 6 with (go_at_call 71; refine (toTable_any R C _ _ _ l _ (HC.out.below HB1.out) h2).mono ?_; rintro e w3 ⟨⟨cb, rs, hcb, rfl, ho3⟩, hb3⟩; have q3 : w3.cell? ⟨w.heap.size + 1 + 1, 3, none⟩ = some (.int .i64 0) := (H2.out.below hb3 e2).cell 3; have q4 : w3.cell? ⟨w.heap.size + 1 + 1, 3 + 1, none⟩ = some (.int .i64 0) := (H2.out.below hb3 e2).cell 4; have q5 : w3.cell? ⟨w.heap.size + 1 + 1, 3 + 2, none⟩ = some (.slice none 0 0) := (H2.out.below hb3 e2).cell 5; have f3 := (H2.out.below hb3 e2).frozen 3; have f4 := (H2.out.below hb3 e2).frozen (3 + 1); have f5 := (H2.out.below hb3 e2).frozen (3 + 2))
  have s3 := hb3.size
  have G2 := (((H2.out.below hb3 e2).setCell 3 (.int .i64 R)).setCell 4 (.int .i64 C)).setCell 5 (.slice (some ⟨cb, 0, none⟩) cn cn)
  have M4 : Mid (v0.heap.size) w3.heap.size w3 (((w3.setCell ⟨w.heap.size + 1 + 1, 3, none⟩ (.int .i64 R)).setCell ⟨w.heap.size + 1 + 1, 3 + 1, none⟩ (.int .i64 C)).setCell ⟨w.heap.size + 1 + 1, 3 + 2, none⟩ (.slice (some ⟨cb, 0, none⟩) cn cn)) := fun b hb hb' => by rw [Go.Deep.blk_setCell_other _ _ _ _ (by simp; omega), Go.Deep.blk_setCell_other _ _ _ _ (by simp; omega), Go.Deep.blk_setCell_other _ _ _ _ (by simp; omega)]
  have G1 := (((H1.out.below hb3 e1).other ⟨w.heap.size + 1 + 1, 3, none⟩ (.int .i64 R) (by simp <;> omega)).other ⟨w.heap.size + 1 + 1, 4, none⟩ (.int .i64 C) (by simp <;> omega)).other ⟨w.heap.size + 1 + 1, 5, none⟩ (.slice (some ⟨cb, 0, none⟩) cn cn) (by simp <;> omega)
  have B3 : Below w.heap.size w (((w3.setCell ⟨w.heap.size + 1 + 1, 3, none⟩ (.int .i64 R)).setCell ⟨w.heap.size + 1 + 1, 3 + 1, none⟩ (.int .i64 C)).setCell ⟨w.heap.size + 1 + 1, 3 + 2, none⟩ (.slice (some ⟨cb, 0, none⟩) cn cn)) := (((HB1.out.trans (hb3.mono s2)).setCell (by show _ ≤ w.heap.size + 1 + 1; omega) _).setCell (by show _ ≤ w.heap.size + 1 + 1; omega) _).setCell (by show _ ≤ w.heap.size + 1 + 1; omega) _
  have ss4 : (((w3.setCell ⟨w.heap.size + 1 + 1, 3, none⟩ (.int .i64 R)).setCell ⟨w.heap.size + 1 + 1, 3 + 1, none⟩ (.int .i64 C)).setCell ⟨w.heap.size + 1 + 1, 3 + 2, none⟩ (.slice (some ⟨cb, 0, none⟩) cn cn)).heap.size = w3.heap.size := by simp
  have lt3 : cb < w3.heap.size := (own_lt ho3.1 rfl).2
  have HBL : Hid (BlOwn w3 v0.heap.size w2.heap.size w3.heap.size (k, v, (some ⟨v0.heap.size, 0, none⟩, tn, tn), R, C, (some ⟨cb, 0, none⟩, cn, cn)) (k, v, t, R, C, l)) := by
    refine ⟨⟨rfl, rfl, rfl, rfl⟩, HO1.out.below hb3, ?_, ⟨rs, ho3, ?_, fun j hj g hg => ?_⟩, by omega, s3⟩
    · intro g hg
      simp [sl3V, Value.ownBlock] at hg
      omega
    · intro g hg
      simp [sl3V, Value.ownBlock] at hg
      omega
    · exact (own_lt (ho3.2.2.1 j hj).2.2.2.2 hg).2
  clear q3 q4 q5 f3 f4 f5 ho3 hb3 g3 g4 g5 H1 H2 HO1
  have HM4 : Hid (Mid v0.heap.size w3.heap.size w3 (((w3.setCell ⟨w.heap.size + 1 + 1, 3, none⟩ (.int .i64 R)).setCell ⟨w.heap.size + 1 + 1, 3 + 1, none⟩ (.int .i64 C)).setCell ⟨w.heap.size + 1 + 1, 3 + 2, none⟩ (.slice (some ⟨cb, 0, none⟩) cn cn))) := M4
  clear M4
  generalize (((w3.setCell ⟨w.heap.size + 1 + 1, 3, none⟩ (.int .i64 R)).setCell ⟨w.heap.size + 1 + 1, 3 + 1, none⟩ (.int .i64 C)).setCell ⟨w.heap.size + 1 + 1, 3 + 2, none⟩ (.slice (some ⟨cb, 0, none⟩) cn cn)) = w4 at G2 G1 HM4 B3 ss4 ⊢
  have e3 := G2.lt
  have j0 : w4.cell? ⟨w.heap.size + 1 + 1, 0, none⟩ = some (.int .i64 k) := G2.cell 0
  have j1 : w4.cell? ⟨w.heap.size + 1 + 1, 1, none⟩ = some (.int .i64 v) := G2.cell 1
  have j2 : w4.cell? ⟨w.heap.size + 1 + 1, 2, none⟩ = some (.slice (some ⟨v0.heap.size, 0, none⟩) tn tn) := G2.cell 2
  have j3 : w4.cell? ⟨w.heap.size + 1 + 1, 3, none⟩ = some (.int .i64 R) := G2.cell 3
  have j4 : w4.cell? ⟨w.heap.size + 1 + 1, 4, none⟩ = some (.int .i64 C) := G2.cell 4
  have j5 : w4.cell? ⟨w.heap.size + 1 + 1, 5, none⟩ = some (.slice (some ⟨cb, 0, none⟩) cn cn) := G2.cell 5
  have HR : Hid (RowAt w4 (w.heap.size + 1) #[.int .i64 0, .int .i64 0, .slice none 0 0, .int .i64 0, .int .i64 0, .slice none 0 0] 56) := G1
  have HB3 : Hid (Below w.heap.size w w4) := B3
  clear G1 G2 B3
  go_wp2_with ((refine wpList_store_row rfl 56 (.tmp 2) (.tmp 18) rfl (w.heap.size + 1) #[.int .i64 k, .int .i64 v, .slice (some ⟨v0.heap.size, 0, none⟩) tn tn, .int .i64 R, .int .i64 C, .slice (some ⟨cb, 0, none⟩) cn cn] rfl rfl 56 _ HR.out block_info rfl (cells6_one _ _ _ _ _ _ _ _ _ _) ?_))
  refine bodyPost_ret (v := .agg #[.int .i64 k, .int .i64 v, .slice (some ⟨v0.heap.size, 0, none⟩) tn tn, .int .i64 R, .int .i64 C, .slice (some ⟨cb, 0, none⟩) cn cn]) (results_cell_row (p := 2) (ty := 56) rfl _ _ (w.heap.size + 1) 56 _ _ _ rfl (RowAt.setRow HR.out _) Tryz.underlying56 rfl block_info) rfl ⟨⟨v0.heap.size, cb, w2.heap.size, rfl, ?_⟩, below_row HB3.out (by omega) _⟩
  have hh := (HBL.out.mid HM4.out).mid (w' := w4.setRow (w.heap.size + 1) #[.int .i64 k, .int .i64 v, .slice (some ⟨v0.heap.size, 0, none⟩) tn tn, .int .i64 R, .int .i64 C, .slice (some ⟨cb, 0, none⟩) cn cn]) (fun b hb hb' => setRow_other _ _ _ _ (by omega))
  obtain ⟨a1, a2, a3, a4, a5, a6⟩ := hh
  have sz : (w4.setRow (w.heap.size + 1) #[.int .i64 k, .int .i64 v, .slice (some ⟨v0.heap.size, 0, none⟩) tn tn, .int .i64 R, .int .i64 C, .slice (some ⟨cb, 0, none⟩) cn cn]).heap.size = w3.heap.size := by
    rw [← ss4]
    simp [World.setRow]
  rw [sz]
  exact ⟨a1, own_less a2 (by omega), a3, a4, by omega, a6⟩

theorem take_set6 (xs : List Value) (k : Nat) (a b c d e f : Value) (h : k * 6 + 6 ≤ xs.length) :
    ((((((xs.set (k * 6) a).set (k * 6 + 1) b).set (k * 6 + 2) c).set (k * 6 + 3) d).set (k * 6 + 4) e).set (k * 6 + 5) f).take ((k + 1) * 6) = xs.take (k * 6) ++ [a, b, c, d, e, f] := by
  apply List.ext_getElem?
  intro j
  by_cases h1 : j < k * 6
  · rw [List.getElem?_take, if_pos (by omega), List.getElem?_set_ne (by omega), List.getElem?_set_ne (by omega), List.getElem?_set_ne (by omega), List.getElem?_set_ne (by omega), List.getElem?_set_ne (by omega), List.getElem?_set_ne (by omega), List.getElem?_append_left (by simp; omega), List.getElem?_take, if_pos h1]
  · rw [List.getElem?_append_right (by simp; omega)]
    have e' : (xs.take (k * 6)).length = k * 6 := by simp; omega
    rw [e', List.getElem?_take]
    rcases (show j = k * 6 ∨ j = k * 6 + 1 ∨ j = k * 6 + 2 ∨ j = k * 6 + 3 ∨ j = k * 6 + 4 ∨ j = k * 6 + 5 ∨ k * 6 + 6 ≤ j from by omega) with rfl | rfl | rfl | rfl | rfl | rfl | hj
    · rw [if_pos (by omega), List.getElem?_set_ne (by omega), List.getElem?_set_ne (by omega), List.getElem?_set_ne (by omega), List.getElem?_set_ne (by omega), List.getElem?_set_ne (by omega), List.getElem?_set_self (by omega)]; simp
    · rw [if_pos (by omega), List.getElem?_set_ne (by omega), List.getElem?_set_ne (by omega), List.getElem?_set_ne (by omega), List.getElem?_set_ne (by omega), List.getElem?_set_self (by simp; omega), show k * 6 + 1 - k * 6 = 1 by omega]; simp
    · rw [if_pos (by omega), List.getElem?_set_ne (by omega), List.getElem?_set_ne (by omega), List.getElem?_set_ne (by omega), List.getElem?_set_self (by simp; omega), show k * 6 + 2 - k * 6 = 2 by omega]; simp
    · rw [if_pos (by omega), List.getElem?_set_ne (by omega), List.getElem?_set_ne (by omega), List.getElem?_set_self (by simp; omega), show k * 6 + 3 - k * 6 = 3 by omega]; simp
    · rw [if_pos (by omega), List.getElem?_set_ne (by omega), List.getElem?_set_self (by simp; omega), show k * 6 + 4 - k * 6 = 4 by omega]; simp
    · rw [if_pos (by omega), List.getElem?_set_self (by simp; omega), show k * 6 + 5 - k * 6 = 5 by omega]; simp
    · rw [if_neg (by omega), List.getElem?_eq_none (by simp; omega)]
set_option maxRecDepth 100000 in
set_option maxHeartbeats 4000000 in
theorem toBlockS_any {a : Option Addr} {n cap : Nat} {d : List Bl} {w : World} (h : Dc w a n cap d) (hn : d.length + totD d ≤ 1048576) :
    Calls Tryz.prog 32 #[.slice a n cap] w fun e w' => e = .returned (.slice (some ⟨w.heap.size, 0, none⟩) n n) ∧ (∃ rbs, DocOwn w' w.heap.size w'.heap.size (.slice (some ⟨w.heap.size, 0, none⟩) n n) rbs d) ∧ Below w.heap.size w w' := by
  obtain ⟨rfl, hc, hm, hl⟩ := h
  unfold maxLen at hm
  have HL : Hid (d = [] ∨ ∃ b off, a = some ⟨b, off, none⟩ ∧ b < w.heap.size ∧ ∀ k, k < d.length → BlockAt w b (off + k * 6) (d.getD k bl0)) := hl
  clear hl
  obtain ⟨i0, hi, hz0, hz1, hz2⟩ := info_parts Tryz.info56
  go_enter Tryz.func32, Tryz.ntmps32
  go_wp2_with (at_make; refine wpList_make_full _ rfl (.tmp 6) (.tmp 6) 23 rfl w.heap.size 56 i0 _ 6 Tryz.underlying23 hi hz0 hz1 .i64 .i64 _ _ d.length rfl rfl rfl rfl (by rw [hz2]; omega) (by unfold maxLen; omega) (Nat.le_refl _) ?_; intro w1 hown hgrow)
  have hb1 : Below w.heap.size w w1 := (Below.refl _ _).grown hgrow (Nat.le_refl _) (fun k hk => by simp at hk)
  clear hgrow
  obtain ⟨xs0, hown⟩ : ∃ xs, w1.ownsRow w.heap.size 56 6 (.slice (some ⟨w.heap.size, 0, none⟩) d.length d.length) d.length xs := ⟨_, hown⟩
  go_loopw [4] (fun i wr => ∃ (k : Nat) (xs : List Value) (rbs : List Rb), k ≤ d.length ∧ i = .int .i64 k ∧ wr.ownsRow w.heap.size 56 6 (.slice (some ⟨w.heap.size, 0, none⟩) d.length d.length) d.length xs ∧ xs.take (k * 6) = flat6 rbs ∧ BlsOwn wr w.heap.size wr.heap.size rbs (d.take k) ∧ Below w.heap.size w wr) (fun i _ => d.length - (intOf i).toNat)
  case atStart => exact ⟨0, xs0, [], Nat.zero_le _, rfl, hown, by simp [flat6], BlsOwn.nil _ _ _, hb1⟩
  case round =>
    obtain ⟨k, xs, rbs, hk, rfl, ho, hx, ht, hbl⟩ := hrel
    have hsz := hbl.size
    have HX : Hid (xs.take (k * 6) = flat6 rbs) := hx
    have HO : Hid (wr.ownsRow w.heap.size 56 6 (.slice (some ⟨w.heap.size, 0, none⟩) d.length d.length) d.length xs) := ho
    have HT : Hid (BlsOwn wr w.heap.size wr.heap.size rbs (d.take k)) := ht
    have lto : w.heap.size < wr.heap.size := (own_lt ho rfl).2
    have HBL : Hid (Below w.heap.size w wr) := hbl
    clear hx ho hown hb1 ht
    by_cases hlt : k < d.length
    · rcases HL.out with e | ⟨b, off, rfl, hbw, hl⟩
      · rw [e] at hlt
        exact absurd hlt (by simp)
      obtain ⟨ta, tn, tc, ca, cn, cc, hblk⟩ := (hl k hlt).below hbl hbw
      have hle := totD_le d k hlt
      have HTK : Hid (d.take (k + 1) = d.take k ++ [d.getD k bl0]) := by
        show d.take (k + 1) = d.take k ++ [d.getD k bl0]
        rw [List.take_succ_eq_append_getElem hlt]
        simp [List.getD, hlt]
      obtain ⟨⟨K, V, t, R, C, l⟩, hxx⟩ : ∃ x, x = d.getD k bl0 := ⟨_, rfl⟩
      rw [← hxx] at hblk HTK hle
      obtain ⟨c0, c1, c2, c3, c4, c5, htx, htb⟩ := hblk
      simp only at c0 c1 c3 c4 htx htb
      have htn : tn ≤ 1048576 := by
        rw [htx.1]
        have : t.length ≤ szB (K, V, t, R, C, l) := Nat.le_add_right _ _
        omega
      have hcn : l.length + totT l ≤ 1048576 := by
        have : l.length + totT l ≤ szB (K, V, t, R, C, l) := Nat.le_add_left _ _
        omega
      have HTX : Hid (Txt wr ta tn tc t) := htx
      have HTB : Hid (Tab wr ca cn cc l) := htb
      clear hl hle hxx htx htb hbl
      go_wp2_with fail
      refine (toBlock_any HTX.out HTB.out htn hcn).mono ?_
      rintro e w2 ⟨⟨tb, cb, md, rfl, how⟩, hb2⟩
      have ho2 := own_below HO.out hb2
      have f0 := ho2.frozenAt (k * 6)
      have f1 := ho2.frozenAt (k * 6 + 1)
      have f2 := ho2.frozenAt (k * 6 + 2)
      have f3 := ho2.frozenAt (k * 6 + 3)
      have f4 := ho2.frozenAt (k * 6 + 4)
      have f5 := ho2.frozenAt (k * 6 + 5)
      have hxl := ho2.1
      obtain ⟨u0, d0⟩ : ∃ u, w2.cell? ⟨w.heap.size, k * 6, none⟩ = some u := ⟨_, (ho2.cellAt (k * 6) (by omega)).trans (List.getElem?_eq_getElem (by omega))⟩
      obtain ⟨u1, d1⟩ : ∃ u, w2.cell? ⟨w.heap.size, k * 6 + 1, none⟩ = some u := ⟨_, (ho2.cellAt (k * 6 + 1) (by omega)).trans (List.getElem?_eq_getElem (by omega))⟩
      obtain ⟨u2, d2⟩ : ∃ u, w2.cell? ⟨w.heap.size, k * 6 + 2, none⟩ = some u := ⟨_, (ho2.cellAt (k * 6 + 2) (by omega)).trans (List.getElem?_eq_getElem (by omega))⟩
      obtain ⟨u3, d3⟩ : ∃ u, w2.cell? ⟨w.heap.size, k * 6 + 3, none⟩ = some u := ⟨_, (ho2.cellAt (k * 6 + 3) (by omega)).trans (List.getElem?_eq_getElem (by omega))⟩
      obtain ⟨u4, d4⟩ : ∃ u, w2.cell? ⟨w.heap.size, k * 6 + 4, none⟩ = some u := ⟨_, (ho2.cellAt (k * 6 + 4) (by omega)).trans (List.getElem?_eq_getElem (by omega))⟩
      obtain ⟨u5, d5⟩ : ∃ u, w2.cell? ⟨w.heap.size, k * 6 + 5, none⟩ = some u := ⟨_, (ho2.cellAt (k * 6 + 5) (by omega)).trans (List.getElem?_eq_getElem (by omega))⟩
      have s2 := hb2.size
      have HO2 : Hid (w2.ownsRow w.heap.size 56 6 (.slice (some ⟨w.heap.size, 0, none⟩) d.length d.length) d.length xs) := ho2
      have HT2 : Hid (BlsOwn w2 w.heap.size wr.heap.size rbs (d.take k)) := HT.out.kept (Mid.kept (fun b _ hb' => hb2.block b hb'))
      have HW : Hid (BlOwn w2 wr.heap.size md w2.heap.size (K, V, (some ⟨tb, 0, none⟩, tn, tn), R, C, (some ⟨cb, 0, none⟩, cn, cn)) (K, V, t, R, C, l)) := how
      have HB2 : Hid (Below w.heap.size w w2) := HBL.out.trans (hb2.mono hsz)
      clear ho2 HO hxl how hb2
      go_wp2_with fail
      go_roundw
      case rel =>
        obtain ⟨p0, _⟩ := HO2.out.stored (k * 6) (.int .i64 K)
        obtain ⟨p1, _⟩ := p0.stored (k * 6 + 1) (.int .i64 V)
        obtain ⟨p2, _⟩ := p1.stored (k * 6 + 2) (.slice (some ⟨tb, 0, none⟩) tn tn)
        obtain ⟨p3, _⟩ := p2.stored (k * 6 + 3) (.int .i64 R)
        obtain ⟨p4, _⟩ := p3.stored (k * 6 + 4) (.int .i64 C)
        obtain ⟨p5, _⟩ := p4.stored (k * 6 + 5) (.slice (some ⟨cb, 0, none⟩) cn cn)
        have hT := HT2.out.snoc hsz HW.out s2
        rw [← HTK.out] at hT
        refine ⟨k + 1, _, rbs ++ [(K, V, (some ⟨tb, 0, none⟩, tn, tn), R, C, (some ⟨cb, 0, none⟩, cn, cn))], by omega, by go_num, p5, ?_, ?_, ?_⟩
        · rw [take_set6 _ _ _ _ _ _ _ _ (by have := HO2.out.1; omega), HX.out, flat6_append]
          simp [flat6, rbCells, sl3V]
        · obtain ⟨r0, h0⟩ := own_rowAt HO2.out
          obtain ⟨r1, h1⟩ := own_rowAt p0
          obtain ⟨r2, h2⟩ := own_rowAt p1
          obtain ⟨r3, h3⟩ := own_rowAt p2
          obtain ⟨r4, h4⟩ := own_rowAt p3
          obtain ⟨r5, h5⟩ := own_rowAt p4
          exact ((((((hT.kept (kept_set h0 _ _ _ _)).kept (kept_set h1 _ _ _ _)).kept (kept_set h2 _ _ _ _)).kept (kept_set h3 _ _ _ _)).kept (kept_set h4 _ _ _ _)).kept (kept_set h5 _ _ _ _)).grow (by simp)
        · exact (((((HB2.out.setCell (Nat.le_refl _) _).setCell (Nat.le_refl _) _).setCell (Nat.le_refl _) _).setCell (Nat.le_refl _) _).setCell (Nat.le_refl _) _).setCell (Nat.le_refl _) _
      case measure => simp [intOf]; omega
    · go_wp2_with fail
      go_ret
      have e1 : d.take k = d := List.take_of_length_le (by omega)
      have hT := HT.out
      rw [e1] at hT
      have hxx : xs = flat6 rbs := by
        have h1 := HX.out
        have h2 := HO.out.1
        rw [List.take_of_length_le (by omega)] at h1
        exact h1
      refine ⟨rfl, ⟨rbs, ?_, ?_, hT.1, ?_⟩, HBL.out⟩
      · have := HO.out
        rw [hxx] at this
        rw [hT.1]
        exact this
      · intro g hg
        simp [Value.ownBlock] at hg
        omega
      · exact hT.2
set_option maxRecDepth 100000 in
set_option maxHeartbeats 4000000 in
theorem toDoc_any {a : Option Addr} {n cap : Nat} {d : List Bl} {w : World} (h : Dc w a n cap d) (hn : d.length + totD d ≤ 1048576) :
    Calls Tryz.prog 14 #[.agg #[.slice a n cap]] w fun e w' => (∃ b rbs, e = .returned (.agg #[.slice (some ⟨b, 0, none⟩) n n]) ∧ DocOwn w' w.heap.size w'.heap.size (.slice (some ⟨b, 0, none⟩) n n) rbs d) ∧ Below w.heap.size w w' := by
  have H : Hid (Dc w a n cap d) := h
  clear h
  go_enter Tryz.func14, Tryz.ntmps14
  go_upto_region 2 with fail
  have B0 : Below w.heap.size w (((w.alloc (.cells #[.slice a n cap] 35)).alloc (.cells #[.slice none 0 0] 25)).alloc (.cells #[.slice none 0 0] 25)) := (((Below.refl _ _).alloc (Nat.le_refl _) _).alloc (by simp) _).alloc (by simp; omega) _
  have G0 : RowAt (((w.alloc (.cells #[.slice a n cap] 35)).alloc (.cells #[.slice none 0 0] 25)).alloc (.cells #[.slice none 0 0] 25)) w.heap.size #[.slice a n cap] 35 := ((rowAt_new w _ _).alloc _).alloc _
  have G1 : RowAt (((w.alloc (.cells #[.slice a n cap] 35)).alloc (.cells #[.slice none 0 0] 25)).alloc (.cells #[.slice none 0 0] 25)) (w.heap.size + 1) #[.slice none 0 0] 25 := by
    have := (rowAt_new (w.alloc (.cells #[.slice a n cap] 35)) #[.slice none 0 0] 25).alloc (.cells #[.slice none 0 0] 25)
    simpa using this
  have G2 : RowAt (((w.alloc (.cells #[.slice a n cap] 35)).alloc (.cells #[.slice none 0 0] 25)).alloc (.cells #[.slice none 0 0] 25)) (w.heap.size + 1 + 1) #[.slice none 0 0] 25 := by
    have := (rowAt_new ((w.alloc (.cells #[.slice a n cap] 35)).alloc (.cells #[.slice none 0 0] 25)) #[.slice none 0 0] 25)
    simpa using this
  generalize (((w.alloc (.cells #[.slice a n cap] 35)).alloc (.cells #[.slice none 0 0] 25)).alloc (.cells #[.slice none 0 0] 25)) = v0 at B0 G0 G1 G2 ⊢
  have k2 : v0.cell? ⟨w.heap.size, 0, none⟩ = some (.slice a n cap) := G0.cell 0
  have l2 := G2.lt
  have l1 := G1.lt
  have H1 : Hid (RowAt v0 (w.heap.size + 1) #[.slice none 0 0] 25) := G1
  have H2 : Hid (RowAt v0 (w.heap.size + 1 + 1) #[.slice none 0 0] 25) := G2
  have s0 := B0.size
  have HB0 : Hid (Below w.heap.size w v0) := B0
  clear G0 G1 G2 B0
  go_upto_region 3 with (go_at_call 32; refine (toBlockS_any (H.out.below HB0.out) hn).mono ?_; rintro e w1 ⟨rfl, ⟨rbs, ho1⟩, hb1⟩; have q1 : w1.cell? ⟨w.heap.size + 1 + 1, 0, none⟩ = some (.slice none 0 0) := (H2.out.below hb1 l2).cell 0; have q2 := (H2.out.below hb1 l2).frozen 0)
  have G2 := (H2.out.below hb1 l2).setCell 0 (.slice (some ⟨v0.heap.size, 0, none⟩) n n)
  have G1 := (H1.out.below hb1 l1).other ⟨w.heap.size + 1 + 1, 0, none⟩ (.slice (some ⟨v0.heap.size, 0, none⟩) n n) (by simp <;> omega)
  have O1 : DocOwn (w1.setCell ⟨w.heap.size + 1 + 1, 0, none⟩ (.slice (some ⟨v0.heap.size, 0, none⟩) n n)) v0.heap.size w1.heap.size (.slice (some ⟨v0.heap.size, 0, none⟩) n n) rbs d := ho1.mid (fun b hb _ => Go.Deep.blk_setCell_other _ _ _ _ (by simp; omega))
  have B1 : Below w.heap.size w (w1.setCell ⟨w.heap.size + 1 + 1, 0, none⟩ (.slice (some ⟨v0.heap.size, 0, none⟩) n n)) := (HB0.out.trans (hb1.mono s0)).setCell (by show _ ≤ w.heap.size + 1 + 1; omega) _
  have ss : (w1.setCell ⟨w.heap.size + 1 + 1, 0, none⟩ (.slice (some ⟨v0.heap.size, 0, none⟩) n n)).heap.size = w1.heap.size := by simp
  have s1 := hb1.size
  clear q1 q2 ho1 hb1 k2 H1 H2
  generalize (w1.setCell ⟨w.heap.size + 1 + 1, 0, none⟩ (.slice (some ⟨v0.heap.size, 0, none⟩) n n)) = w2 at G2 G1 O1 B1 ss ⊢
  have e0 : w2.cell? ⟨w.heap.size + 1 + 1, 0, none⟩ = some (.slice (some ⟨v0.heap.size, 0, none⟩) n n) := G2.cell 0
  have HR : Hid (RowAt w2 (w.heap.size + 1) #[.slice none 0 0] 25) := G1
  have HO : Hid (DocOwn w2 v0.heap.size w1.heap.size (.slice (some ⟨v0.heap.size, 0, none⟩) n n) rbs d) := O1
  have HB1 : Hid (Below w.heap.size w w2) := B1
  clear G1 G2 O1 B1
  go_wp2_with ((refine wpList_store_row rfl 25 (.tmp 2) (.tmp 8) rfl (w.heap.size + 1) #[.slice (some ⟨v0.heap.size, 0, none⟩) n n] rfl rfl 25 _ HR.out docI_info rfl (cells1_one _ _ _) ?_))
  refine bodyPost_ret (v := .agg #[.slice (some ⟨v0.heap.size, 0, none⟩) n n]) (results_cell_row (p := 2) (ty := 25) rfl _ _ (w.heap.size + 1) 25 _ _ _ rfl (RowAt.setRow HR.out _) Tryz.underlying25 rfl docI_info) rfl ⟨⟨v0.heap.size, rbs, rfl, ?_⟩, below_row HB1.out (by omega) _⟩
  have sz : (w2.setRow (w.heap.size + 1) #[.slice (some ⟨v0.heap.size, 0, none⟩) n n]).heap.size = w1.heap.size := by
    rw [← ss]
    simp [World.setRow]
  rw [sz]
  exact (HO.out.mid (fun b hb hb' => setRow_other _ _ _ _ (by omega))).less (by omega) (Nat.le_refl _)
end Go.Proofs.YtccoeachemnbnaaGreatDoor
namespace Go.Proofs.YtccoeachemnbnaaGreatDoor
open Go.RowKit

theorem topl_info : (Tryz.prog.info? 27).map (·.size) = some 3 := by kernel_rfl
theorem topl_ones (a b c : Int) : (#[Value.int .i64 a, .int .i64 b, .int .i64 c] : Array Value).all (·.oneCell') = true := by simp [Value.oneCell']
set_option maxRecDepth 100000 in
set_option maxHeartbeats 4000000 in
theorem toPlace_any (pb pc pa : Int) (w : World) :
    Calls Tryz.prog 15 #[.agg #[.int .i64 pb, .int .i64 pc, .int .i64 pa]] w fun e w' => e = .returned (.agg #[.int .i64 pb, .int .i64 pc, .int .i64 pa]) ∧ Below w.heap.size w w' := by
  go_enter Tryz.func15, Tryz.ntmps15
  go_upto_region 2 with fail
  have B0 : Below w.heap.size w (((w.alloc (.cells #[.int .i64 pb, .int .i64 pc, .int .i64 pa] 36)).alloc (.cells #[.int .i64 0, .int .i64 0, .int .i64 0] 27)).alloc (.cells #[.int .i64 0, .int .i64 0, .int .i64 0] 27)) := (((Below.refl _ _).alloc (Nat.le_refl _) _).alloc (by simp) _).alloc (by simp; omega) _
  have G0 : RowAt (((w.alloc (.cells #[.int .i64 pb, .int .i64 pc, .int .i64 pa] 36)).alloc (.cells #[.int .i64 0, .int .i64 0, .int .i64 0] 27)).alloc (.cells #[.int .i64 0, .int .i64 0, .int .i64 0] 27)) w.heap.size #[.int .i64 pb, .int .i64 pc, .int .i64 pa] 36 := ((rowAt_new w _ _).alloc _).alloc _
  have G1 : RowAt (((w.alloc (.cells #[.int .i64 pb, .int .i64 pc, .int .i64 pa] 36)).alloc (.cells #[.int .i64 0, .int .i64 0, .int .i64 0] 27)).alloc (.cells #[.int .i64 0, .int .i64 0, .int .i64 0] 27)) (w.heap.size + 1) #[.int .i64 0, .int .i64 0, .int .i64 0] 27 := by
    have := rowAt_new (w.alloc (.cells #[.int .i64 pb, .int .i64 pc, .int .i64 pa] 36)) #[.int .i64 0, .int .i64 0, .int .i64 0] 27
    simp only [World.size_alloc] at this
    exact this.alloc _
  have G2 : RowAt (((w.alloc (.cells #[.int .i64 pb, .int .i64 pc, .int .i64 pa] 36)).alloc (.cells #[.int .i64 0, .int .i64 0, .int .i64 0] 27)).alloc (.cells #[.int .i64 0, .int .i64 0, .int .i64 0] 27)) (w.heap.size + 1 + 1) #[.int .i64 0, .int .i64 0, .int .i64 0] 27 := by
    have := rowAt_new ((w.alloc (.cells #[.int .i64 pb, .int .i64 pc, .int .i64 pa] 36)).alloc (.cells #[.int .i64 0, .int .i64 0, .int .i64 0] 27)) #[.int .i64 0, .int .i64 0, .int .i64 0] 27
    simpa using this
  generalize (((w.alloc (.cells #[.int .i64 pb, .int .i64 pc, .int .i64 pa] 36)).alloc (.cells #[.int .i64 0, .int .i64 0, .int .i64 0] 27)).alloc (.cells #[.int .i64 0, .int .i64 0, .int .i64 0] 27)) = v0 at B0 G0 G1 G2 ⊢
  have k : v0.cell? ⟨w.heap.size, 0, none⟩ = some (.int .i64 pb) := G0.cell 0
  have k' : v0.cell? ⟨w.heap.size + 1 + 1, 0, none⟩ = some (.int .i64 0) := G2.cell 0
  have f' := RowAt.frozen G2 0
  go_upto_region 3 with fail
  replace B0 : Below w.heap.size w (v0.setCell ⟨w.heap.size + 1 + 1, 0, none⟩ (.int .i64 pb)) := B0.setCell (by show w.heap.size ≤ w.heap.size + 1 + 1; omega) _
  replace G0 : RowAt (v0.setCell ⟨w.heap.size + 1 + 1, 0, none⟩ (.int .i64 pb)) w.heap.size #[.int .i64 pb, .int .i64 pc, .int .i64 pa] 36 := RowAt.other G0 _ _ (by show w.heap.size ≠ w.heap.size + 1 + 1; omega)
  replace G1 : RowAt (v0.setCell ⟨w.heap.size + 1 + 1, 0, none⟩ (.int .i64 pb)) (w.heap.size + 1) #[.int .i64 0, .int .i64 0, .int .i64 0] 27 := RowAt.other G1 _ _ (by show w.heap.size + 1 ≠ w.heap.size + 1 + 1; omega)
  replace G2 : RowAt (v0.setCell ⟨w.heap.size + 1 + 1, 0, none⟩ (.int .i64 pb)) (w.heap.size + 1 + 1) #[.int .i64 pb, .int .i64 0, .int .i64 0] 27 := RowAt.setCell G2 0 _
  clear k k' f'
  generalize (v0.setCell ⟨w.heap.size + 1 + 1, 0, none⟩ (.int .i64 pb)) = v1 at B0 G0 G1 G2 ⊢
  have k : v1.cell? ⟨w.heap.size, 1, none⟩ = some (.int .i64 pc) := G0.cell 1
  have k' : v1.cell? ⟨w.heap.size + 1 + 1, 1, none⟩ = some (.int .i64 0) := G2.cell 1
  have f' := RowAt.frozen G2 1
  go_upto_region 4 with fail
  replace B0 : Below w.heap.size w (v1.setCell ⟨w.heap.size + 1 + 1, 1, none⟩ (.int .i64 pc)) := B0.setCell (by show w.heap.size ≤ w.heap.size + 1 + 1; omega) _
  replace G0 : RowAt (v1.setCell ⟨w.heap.size + 1 + 1, 1, none⟩ (.int .i64 pc)) w.heap.size #[.int .i64 pb, .int .i64 pc, .int .i64 pa] 36 := RowAt.other G0 _ _ (by show w.heap.size ≠ w.heap.size + 1 + 1; omega)
  replace G1 : RowAt (v1.setCell ⟨w.heap.size + 1 + 1, 1, none⟩ (.int .i64 pc)) (w.heap.size + 1) #[.int .i64 0, .int .i64 0, .int .i64 0] 27 := RowAt.other G1 _ _ (by show w.heap.size + 1 ≠ w.heap.size + 1 + 1; omega)
  replace G2 : RowAt (v1.setCell ⟨w.heap.size + 1 + 1, 1, none⟩ (.int .i64 pc)) (w.heap.size + 1 + 1) #[.int .i64 pb, .int .i64 pc, .int .i64 0] 27 := RowAt.setCell G2 1 _
  clear k k' f'
  generalize (v1.setCell ⟨w.heap.size + 1 + 1, 1, none⟩ (.int .i64 pc)) = v2 at B0 G0 G1 G2 ⊢
  have k : v2.cell? ⟨w.heap.size, 2, none⟩ = some (.int .i64 pa) := G0.cell 2
  have k' : v2.cell? ⟨w.heap.size + 1 + 1, 2, none⟩ = some (.int .i64 0) := G2.cell 2
  have f' := RowAt.frozen G2 2
  go_upto_region 5 with fail
  replace B0 : Below w.heap.size w (v2.setCell ⟨w.heap.size + 1 + 1, 2, none⟩ (.int .i64 pa)) := B0.setCell (by show w.heap.size ≤ w.heap.size + 1 + 1; omega) _
  replace G0 : RowAt (v2.setCell ⟨w.heap.size + 1 + 1, 2, none⟩ (.int .i64 pa)) w.heap.size #[.int .i64 pb, .int .i64 pc, .int .i64 pa] 36 := RowAt.other G0 _ _ (by show w.heap.size ≠ w.heap.size + 1 + 1; omega)
  replace G1 : RowAt (v2.setCell ⟨w.heap.size + 1 + 1, 2, none⟩ (.int .i64 pa)) (w.heap.size + 1) #[.int .i64 0, .int .i64 0, .int .i64 0] 27 := RowAt.other G1 _ _ (by show w.heap.size + 1 ≠ w.heap.size + 1 + 1; omega)
  replace G2 : RowAt (v2.setCell ⟨w.heap.size + 1 + 1, 2, none⟩ (.int .i64 pa)) (w.heap.size + 1 + 1) #[.int .i64 pb, .int .i64 pc, .int .i64 pa] 27 := RowAt.setCell G2 2 _
  clear k k' f'
  generalize (v2.setCell ⟨w.heap.size + 1 + 1, 2, none⟩ (.int .i64 pa)) = v3 at B0 G0 G1 G2 ⊢
  have k0 : v3.cell? ⟨w.heap.size + 1 + 1, 0, none⟩ = some (.int .i64 pb) := G2.cell 0
  have k1 : v3.cell? ⟨w.heap.size + 1 + 1, 1, none⟩ = some (.int .i64 pc) := G2.cell 1
  have k2 : v3.cell? ⟨w.heap.size + 1 + 1, 2, none⟩ = some (.int .i64 pa) := G2.cell 2
  go_wp2_with (refine wpList_store_row rfl 27 (.tmp 2) (.tmp 13) rfl (w.heap.size + 1) #[.int .i64 pb, .int .i64 pc, .int .i64 pa] rfl rfl 27 _ G1 topl_info rfl (topl_ones _ _ _) ?_)
  exact bodyPost_ret (v := .agg #[.int .i64 pb, .int .i64 pc, .int .i64 pa]) (results_cell_row (p := 2) (ty := 27) rfl _ _ (w.heap.size + 1) 27 _ _ _ rfl (RowAt.setRow G1 _) Tryz.underlying27 rfl topl_info) rfl ⟨rfl, below_row B0 (by omega) _⟩
end Go.Proofs.YtccoeachemnbnaaGreatDoor
namespace Go.Proofs.YtccoeachemnbnaaGreatDoor
open Go.RowKit

set_option maxRecDepth 100000 in
set_option maxHeartbeats 4000000 in
theorem eqPlace_same (x y z : Int) (w : World) : Calls Tryz.prog 16 #[.agg #[.int .i64 x, .int .i64 y, .int .i64 z], .agg #[.int .i64 x, .int .i64 y, .int .i64 z]] w fun e w' => e = .returned (.bool true) ∧ Below w.heap.size w w' := by
  go_enter Tryz.func16, Tryz.ntmps16
  go_wp2_with fail
  go_ret
  exact ⟨rfl, ((Below.refl _ _).alloc (Nat.le_refl _) _).alloc (by simp) _⟩
end Go.Proofs.YtccoeachemnbnaaGreatDoor
