import Derived.Test.YtccoeachemnbnaaGreatDoorBA4
import Derived.Deep.CutBlock
import Derived.Test.YtccoeachemnbnaaGreatDoorBA3
import Derived.Deep.DeepCutAuto
namespace Go.Proofs.YtccoeachemnbnaaGreatDoor
open Go.RowKit

theorem run_placeR {w : World} {g : Nat} {a b c : Value} (h : RowAt w g #[a, b, c] 27) : (loadVar 27 ⟨g, 0, none⟩).run Tryz.prog w = .ok (.agg #[a, b, c]) w :=
  run_loadVar_row w g 27 27 #[a, b, c] (0, 0) _ h Tryz.underlying27 rfl (by kernel_rfl)
theorem run_placeAt (x y z : Int) (w : World) : (Instr.field 27 (.agg #[.int .i64 x, .int .i64 y, .int .i64 z]) 2).run Tryz.prog w = .ok (.int .i64 z) w := by kernel_rfl
/-- The first place of a text that has so many signs ahead that are there now. -/
def cntN (s : List Sg) (i : Nat) : Nat := (nowL (s.take i)).length
def rawF (s : List Sg) (a : Int) : Option Nat := (List.range (s.length + 1)).find? fun i => decide ((cntN s i : Int) = a)
def rawD (d : List Bl) (b c a : Int) : Option Nat := match plT d b c 0 with
  | some s => rawF s a
  | none => none
theorem cntN_le (s : List Sg) (i : Nat) : cntN s i ≤ s.length := by
  unfold cntN
  rw [nowL_eq]
  unfold pickL
  split
  · have h1 : (bytesOf ((s.take i).filter noOut)).length ≤ (s.take i).length := by
      unfold bytesOf
      rw [List.length_map]
      exact List.length_filter_le _ _
    have h2 : (s.take i).length ≤ s.length := by simp; omega
    omega
  · simp
theorem rawF_some {s : List Sg} {a : Int} {i : Nat} (h1 : i ≤ s.length) (h2 : (cntN s i : Int) = a) (h3 : ∀ k, k < i → ¬ (cntN s k : Int) = a) : rawF s a = some i := by
  unfold rawF
  rw [List.find?_eq_some_iff_getElem]
  refine ⟨by simpa using h2, i, by simp; omega, by simp, fun j hj => ?_⟩
  simp only [List.getElem_range, Bool.not_eq_true', decide_eq_false_iff_not]
  exact h3 j hj
theorem rawF_none {s : List Sg} {a : Int} (h : ∀ k, k ≤ s.length → ¬ (cntN s k : Int) = a) : rawF s a = none := by
  unfold rawF
  rw [List.find?_eq_none]
  intro x hx
  simp only [List.mem_range] at hx
  simpa using h x (by omega)
theorem plT_zero {d : List Bl} {b c a : Int} {s : List Sg} (h : plT d b c a = some s) : plT d b c 0 = some s := by
  unfold plT at h ⊢
  split at h
  · rename_i hd
    rw [if_pos hd]
    obtain ⟨i, rfl, hi, ht, -, -⟩ := placeT_parts2 h
    rw [placeT_in (by omega), Int.toNat_natCast, ht]
    simp only [Option.bind_some]
    rw [if_pos (by omega)]
  · cases h
theorem plT_at {d : List Bl} {b c a : Int} {s : List Sg} (h : plT d b c 0 = some s) (h0 : 0 ≤ a) (h1 : a ≤ (s.length : Int)) : plT d b c a = some s := by
  unfold plT at h ⊢
  split at h
  · rename_i hd
    rw [if_pos hd]
    obtain ⟨i, rfl, hi, ht, -, -⟩ := placeT_parts2 h
    rw [placeT_in (by omega), Int.toNat_natCast, ht]
    simp only [Option.bind_some]
    rw [if_pos ⟨h0, h1⟩]
  · cases h
theorem rawD_no {d : List Bl} {b c a : Int} (h : plT d b c a = none) : rawD d b c a = none := by
  unfold rawD
  cases hp : plT d b c 0 with
  | none => rfl
  | some s =>
    refine rawF_none (fun k hk e => ?_)
    have h1 := cntN_le s k
    rw [plT_at hp (by omega) (by omega)] at h
    cases h
/-- What is answered. -/
def rawV (r : Option Nat) (b c : Int) : Value := match r with
  | some i => .tuple #[.agg #[.int .i64 b, .int .i64 c, .int .i64 (i : Int)], .bool true]
  | none => .tuple #[.agg #[.int .i64 0, .int .i64 0, .int .i64 0], .bool false]
set_option maxRecDepth 100000 in
set_option maxHeartbeats 16000000 in
theorem implSpotRaw_any {a : Option Addr} {n cap : Nat} {d : List Bl} {pb pc pa : Int} {w : World} (h : Dc w a n cap d) (hG : GlobE w) :
    Calls Tryz.prog 19 #[.agg #[.slice a n cap], .agg #[.int .i64 pb, .int .i64 pc, .int .i64 pa]] w fun e w' => e = .returned (rawV (rawD d pb pc pa) pb pc) ∧ Below w.heap.size w w' := by
  obtain ⟨S0, HS0⟩ : ∃ S, Hid (noPl = .iface 105 (.string S)) := noPl_is
  have HH := hd_add (hd_add (hd_start w) (fun u => Dc u a n cap d) (mono_dc _ _ _ _) h) GlobE mono_globE hG
  clear h hG
  obtain ⟨pr, HPR⟩ : ∃ x, Hid (plT d pb pc pa = x) := ⟨_, rfl⟩
  obtain ⟨VV, HVV⟩ : ∃ x, Hid (rawV (rawD d pb pc pa) pb pc = x) := ⟨_, rfl⟩
  rw [HVV.out]
  go_enter Tryz.func19, Tryz.ntmps19
  go_upto_region 1 with fail
  replace HH := hd_box HH #[.slice a n cap] 25
  replace HH := hd_box HH #[.int .i64 pb, .int .i64 pc, .int .i64 pa] 27
  replace HH := hd_box HH #[.int .i64 0, .int .i64 0, .int .i64 0] 27
  have fv3 : ((w.alloc (.cells #[.slice a n cap] 25)).alloc (.cells #[.int .i64 pb, .int .i64 pc, .int .i64 pa] 27)).heap.size = w.heap.size + 2 := by simp
  have ev3 : (w.alloc (.cells #[.slice a n cap] 25)).heap.size = w.heap.size + 1 := by simp
  rw [fv3, ev3] at HH
  have sv3 : w.heap.size + 2 < (((w.alloc (.cells #[.slice a n cap] 25)).alloc (.cells #[.int .i64 pb, .int .i64 pc, .int .i64 pa] 27)).alloc (.cells #[.int .i64 0, .int .i64 0, .int .i64 0] 27)).heap.size := by simp
  generalize (((w.alloc (.cells #[.slice a n cap] 25)).alloc (.cells #[.int .i64 pb, .int .i64 pc, .int .i64 pa] 27)).alloc (.cells #[.int .i64 0, .int .i64 0, .int .i64 0] 27)) = v3 at HH sv3 ⊢
  clear ev3 fv3
  have kP_0 : v3.cell? ⟨w.heap.size + 1, 0, none⟩ = some (.int .i64 pb) := RowAt.cell (HH.out.row _ (List.Mem.tail _ (List.Mem.head _))) 0
  have kP_1 : v3.cell? ⟨w.heap.size + 1, 1, none⟩ = some (.int .i64 pc) := RowAt.cell (HH.out.row _ (List.Mem.tail _ (List.Mem.head _))) 1
  have kP_2 : v3.cell? ⟨w.heap.size + 1, 2, none⟩ = some (.int .i64 pa) := RowAt.cell (HH.out.row _ (List.Mem.tail _ (List.Mem.head _))) 2
  have kA_0 : v3.cell? ⟨w.heap.size, 0, none⟩ = some (.slice a n cap) := RowAt.cell (HH.out.row _ (List.Mem.tail _ (List.Mem.tail _ (List.Mem.head _)))) 0
  have sA := HH.out.below.size
  go_wp2_with fail
  refine (outlOf_any ((HH.out.fact _ (List.Mem.tail _ (List.Mem.head _))).2)).mono ?_
  rintro e v4 ⟨⟨ov, rfl, hov⟩, hb⟩
  have sv4 := hb.size
  replace HH := hd_go HH hb
  clear kP_0 kP_1 kP_2 kA_0
  replace HH := hd_add HH (fun u => OutlOf u d ov) (mono_outlOf _ _) hov
  have kP_0 : v4.cell? ⟨w.heap.size + 1, 0, none⟩ = some (.int .i64 pb) := RowAt.cell (HH.out.row _ (List.Mem.tail _ (List.Mem.head _))) 0
  have kP_1 : v4.cell? ⟨w.heap.size + 1, 1, none⟩ = some (.int .i64 pc) := RowAt.cell (HH.out.row _ (List.Mem.tail _ (List.Mem.head _))) 1
  have kP_2 : v4.cell? ⟨w.heap.size + 1, 2, none⟩ = some (.int .i64 pa) := RowAt.cell (HH.out.row _ (List.Mem.tail _ (List.Mem.head _))) 2
  have kA_0 : v4.cell? ⟨w.heap.size, 0, none⟩ = some (.slice a n cap) := RowAt.cell (HH.out.row _ (List.Mem.tail _ (List.Mem.tail _ (List.Mem.head _)))) 0
  clear hb hov
  go_wp2_with (refine wpList_load_row rfl 27 (.tmp 3) rfl (w.heap.size + 1) rfl 27 #[.int .i64 pb, .int .i64 pc, .int .i64 pa] (0, 0) _ ((HH.out.row _ (List.Mem.tail _ (List.Mem.head _)))) Tryz.underlying27 rfl (by kernel_rfl) ?_)
  refine (textAt_of ((HH.out.fact _ (List.Mem.head _)).2)).mono ?_
  rintro e v5 ⟨htx, hb⟩
  rw [HPR.out] at htx
  have sv5 := hb.size
  replace HH := hd_go HH hb
  clear kP_0 kP_1 kP_2 kA_0
  have kP_0 : v5.cell? ⟨w.heap.size + 1, 0, none⟩ = some (.int .i64 pb) := RowAt.cell (HH.out.row _ (List.Mem.tail _ (List.Mem.head _))) 0
  have kP_1 : v5.cell? ⟨w.heap.size + 1, 1, none⟩ = some (.int .i64 pc) := RowAt.cell (HH.out.row _ (List.Mem.tail _ (List.Mem.head _))) 1
  have kP_2 : v5.cell? ⟨w.heap.size + 1, 2, none⟩ = some (.int .i64 pa) := RowAt.cell (HH.out.row _ (List.Mem.tail _ (List.Mem.head _))) 2
  have kA_0 : v5.cell? ⟨w.heap.size, 0, none⟩ = some (.slice a n cap) := RowAt.cell (HH.out.row _ (List.Mem.tail _ (List.Mem.tail _ (List.Mem.head _)))) 0
  clear hb
  obtain ⟨ea, hea, hec⟩ := (HH.out.fact _ (List.Mem.tail _ (List.Mem.head _))).2
  have HEC : Hid (_) := hec
  have kG := hec
  rcases htx with ⟨hpr, rfl⟩ | ⟨s, va, vn, vc, hpr, rfl, htt⟩
  · subst hpr
    have HV3 : VV = .tuple #[.agg #[.int .i64 0, .int .i64 0, .int .i64 0], .bool false] := by
      rw [← HVV.out, rawD_no HPR.out]
      rfl
    subst HV3
    rw [HS0.out]
    go_wp2_with fail
    refine (isCannot_yes HEC.out).mono ?_
    rintro e v9 ⟨rfl, hw⟩
    subst hw
    clear kG hec hea
    go_wp2_with (refine wpList_store_row rfl 27 (.tmp 4) (.tmp 26) rfl (w.heap.size + 2) #[.int .i64 0, .int .i64 0, .int .i64 0] rfl rfl 27 _ ((HH.out.row _ (List.Mem.head _))) (by kernel_rfl) rfl (by simp [Value.oneCell']) ?_)
    refine bodyPost_ret (v := .tuple #[.agg #[.int .i64 0, .int .i64 0, .int .i64 0], .bool false]) ?_ rfl ⟨rfl, below_row HH.out.below (by omega) _⟩
    rw [results_cell_tmp rfl]
    simp [asAddr, Result.andThen, run_placeR (RowAt.setRow ((HH.out.row _ (List.Mem.head _))) _)]
  · subst hpr
    have h0 := plT_zero HPR.out
    have HV2 : Hid (rawV (rawF s pa) pb pc = VV) := by
      show rawV (rawF s pa) pb pc = VV
      rw [← HVV.out]
      unfold rawD
      rw [h0]
    have HVN : Hid (vn = s.length) := htt.1
    have hvc := htt.2.1
    have hvm := htt.2.2.1
    unfold maxLen at hvm
    have hv24 : vn ≤ 24 := by
      rw [htt.1]
      obtain ⟨_, -, -, hbo, hti, -, -⟩ := plT_parts h0
      exact textIn_small hbo hti
    replace HH := hd_add HH (fun u => Txt u va vn vc s) (mono_txt _ _ _ _) htt
    clear htt h0
    go_wp2_with fail
    refine (isCannot_nil ea _).mono ?_
    rintro e v9 ⟨rfl, hw⟩
    subst hw
    clear kG hea hec
    go_wp2_with fail
    refine (aheadNow).mono ?_
    rintro e v6 ⟨⟨X, Y, rfl, hX, hY⟩, hb⟩
    have sv6 := hb.size
    replace HH := hd_go HH hb
    clear kP_0 kP_1 kP_2 kA_0
    have kP_0 : v6.cell? ⟨w.heap.size + 1, 0, none⟩ = some (.int .i64 pb) := RowAt.cell (HH.out.row _ (List.Mem.tail _ (List.Mem.head _))) 0
    have kP_1 : v6.cell? ⟨w.heap.size + 1, 1, none⟩ = some (.int .i64 pc) := RowAt.cell (HH.out.row _ (List.Mem.tail _ (List.Mem.head _))) 1
    have kP_2 : v6.cell? ⟨w.heap.size + 1, 2, none⟩ = some (.int .i64 pa) := RowAt.cell (HH.out.row _ (List.Mem.tail _ (List.Mem.head _))) 2
    have kA_0 : v6.cell? ⟨w.heap.size, 0, none⟩ = some (.slice a n cap) := RowAt.cell (HH.out.row _ (List.Mem.tail _ (List.Mem.tail _ (List.Mem.head _)))) 0
    replace HH := hd_row (hd_row HH X _ _ hX) Y _ _ hY
    clear hb hX hY
    clear kP_0 kP_1 kP_2 kA_0
    have hwv : IntKind.i64.wrap ((vn : Int) + 1) = (vn : Int) + 1 := by rw [IntKind.wrap_i64]; omega
    go_upto_block 1 with fail
    go_wp2_with fail
    go_loopw [11, 32] (fun _ cv wr => ∃ i : Nat, i ≤ vn + 1 ∧ cv = .int .i64 (i : Int) ∧ (∀ k, k < i → ¬ (cntN s k : Int) = pa) ∧ v6.heap.size ≤ wr.heap.size ∧ Hd w [(Y, #[.func (.func 29) #[] #[]], 46), (X, #[.slice va vn vc], 47), (w.heap.size + 2, #[.int .i64 0, .int .i64 0, .int .i64 0], 27), (w.heap.size + 1, #[.int .i64 pb, .int .i64 pc, .int .i64 pa], 27), (w.heap.size, #[.slice a n cap], 25)] [fun u => Txt u va vn vc s, fun u => OutlOf u d ov, fun u => GlobE u, fun u => Dc u a n cap d] wr) (fun _ cv _ => 30 - (intOf cv).toNat)
    case atStart => exact ⟨0, by omega, rfl, fun k hk => absurd hk (by omega), Nat.le_refl _, HH.out⟩
    case round =>
      clear HH
      obtain ⟨i, hi, rfl, hno, hsz, hHd⟩ := hrel
      have HH : Hid (Hd w [(Y, #[.func (.func 29) #[] #[]], 46), (X, #[.slice va vn vc], 47), (w.heap.size + 2, #[.int .i64 0, .int .i64 0, .int .i64 0], 27), (w.heap.size + 1, #[.int .i64 pb, .int .i64 pc, .int .i64 pa], 27), (w.heap.size, #[.slice a n cap], 25)] [fun u => Txt u va vn vc s, fun u => OutlOf u d ov, fun u => GlobE u, fun u => Dc u a n cap d] wr) := hHd
      have HNO : Hid (∀ k, k < i → ¬ (cntN s k : Int) = pa) := hno
      clear hHd hno
      by_cases hiv : i ≤ vn
      · have hlt : (i : Int) < (vn : Int) + 1 := by omega
        go_upto_region 9 with fail
        by_cases hca : (cntN s i : Int) = pa
        · have hcb : (((nowL (s.take i)).length : Int) == pa) = true := by simpa [cntN] using hca
          refine wp_region_noPanic ?_
          refine wp_region_held_drew (S := fun w' => Hd w [(Y, #[.func (.func 29) #[] #[]], 46), (X, #[.slice va vn vc], 47), (w.heap.size + 2, #[.int .i64 0, .int .i64 0, .int .i64 0], 27), (w.heap.size + 1, #[.int .i64 pb, .int .i64 pc, .int .i64 pa], 27), (w.heap.size, #[.slice a n cap], 25)] [fun u => Txt u va vn vc s, fun u => OutlOf u d ov, fun u => GlobE u, fun u => Dc u a n cap d] w') (by kernel_rfl) (HH.out.go (Below.refl _ _).drew) (fun hHeld => ?_)
          clear HH
          have sv7 : wr.heap.size ≤ wr.drew.heap.size := Nat.le_refl _
          generalize wr.drew = v7 at hHeld sv7 ⊢
          refine take_at 0 35 (.func (.func 58) #[] #[.pointer (some ⟨Y, 0, none⟩), .pointer (some ⟨X, 0, none⟩)]) rfl rfl (by kernel_rfl) (by kernel_rfl) (by kernel_rfl) (fun _ _ _ h => h) (Or.inl ⟨by kernel_rfl, fun w' hS' => by go_simp⟩) hHeld ?_
          (try simp only [Act.put, List.setIfInBounds_toArray, List.set_cons_zero, List.set_cons_succ])
          refine take_at 1 36 (.int .i64 (i : Int)) rfl rfl (by kernel_rfl) (by kernel_rfl) (by kernel_rfl) (fun _ _ _ h => h) (Or.inl ⟨by kernel_rfl, fun w' hS' => by go_simp⟩) hHeld ?_
          (try simp only [Act.put, List.setIfInBounds_toArray, List.set_cons_zero, List.set_cons_succ])
          refine take_at 3 38 (.pointer (some ⟨w.heap.size + 1, 2, none⟩)) rfl rfl (by kernel_rfl) (by kernel_rfl) (by kernel_rfl) (fun _ _ _ h => h) (Or.inl ⟨by kernel_rfl, fun w' hS' => by go_simp⟩) hHeld ?_
          (try simp only [Act.put, List.setIfInBounds_toArray, List.set_cons_zero, List.set_cons_succ])
          refine take_at 4 39 (.int .i64 pa) rfl rfl (by kernel_rfl) (by kernel_rfl) (by kernel_rfl) (fun _ _ _ h => h) (Or.inl ⟨by kernel_rfl, fun w' hS' => by have hc := RowAt.cell (hS'.row _ (List.Mem.tail _ (List.Mem.tail _ (List.Mem.tail _ (List.Mem.head _))))) 2; go_simp⟩) hHeld ?_
          (try simp only [Act.put, List.setIfInBounds_toArray, List.set_cons_zero, List.set_cons_succ])
          refine wpAnyH_ready (rs := [2]) (by kernel_rfl) (by simp) ?_
          refine AllReadyH.cons rfl (fun K hK => ?_) AllReadyH.nil
          go_simp
          change Calls Tryz.prog 58 #[.int .i64 (i : Int), .pointer (some ⟨Y, 0, none⟩), .pointer (some ⟨X, 0, none⟩)] _ _
          refine (countNow ((hHeld.row _ (List.Mem.tail _ (List.Mem.head _)))) ((hHeld.row _ (List.Mem.head _))) ((hHeld.fact _ (List.Mem.head _)).2) hiv).mono ?_
          rintro _ v8 ⟨rfl, hb⟩
          have sv8 := hb.size
          obtain ⟨N, HN⟩ : ∃ N, Hid ((nowL (s.take i)).length = N) := ⟨_, rfl⟩
          rw [HN.out] at hcb ⊢
          go_wp2_with fail
          refine hK.out _ _ (hHeld.go hb) (fun hHeld => ?_)
          clear hK K hb
          (try simp only [Act.put, List.setIfInBounds_toArray, List.set_cons_zero, List.set_cons_succ])
          refine take_at 5 40 (.bool true) rfl rfl (by kernel_rfl) (by kernel_rfl) (by kernel_rfl) (fun _ _ _ h => h) (Or.inl ⟨by kernel_rfl, fun w' hS' => by go_simp⟩) hHeld ?_
          (try simp only [Act.put, List.setIfInBounds_toArray, List.set_cons_zero, List.set_cons_succ])
          refine wpAnyH_done (by kernel_rfl) ?_ _
          refine NoPanic.normal ?_
          have HH : Hid (Hd w _ _ v8) := hHeld
          clear hHeld
          have kP_0 : v8.cell? ⟨w.heap.size + 1, 0, none⟩ = some (.int .i64 pb) := RowAt.cell (HH.out.row _ (List.Mem.tail _ (List.Mem.tail _ (List.Mem.tail _ (List.Mem.head _))))) 0
          have kP_1 : v8.cell? ⟨w.heap.size + 1, 1, none⟩ = some (.int .i64 pc) := RowAt.cell (HH.out.row _ (List.Mem.tail _ (List.Mem.tail _ (List.Mem.tail _ (List.Mem.head _))))) 1
          have kP_2 : v8.cell? ⟨w.heap.size + 1, 2, none⟩ = some (.int .i64 pa) := RowAt.cell (HH.out.row _ (List.Mem.tail _ (List.Mem.tail _ (List.Mem.tail _ (List.Mem.head _))))) 2
          have kA_0 : v8.cell? ⟨w.heap.size, 0, none⟩ = some (.slice a n cap) := RowAt.cell (HH.out.row _ (List.Mem.tail _ (List.Mem.tail _ (List.Mem.tail _ (List.Mem.tail _ (List.Mem.head _)))))) 0
          clear kP_0 kP_1 kP_2 kA_0
          go_wp2_with (refine wpList_load_row rfl 27 (.tmp 3) rfl (w.heap.size + 1) rfl 27 #[.int .i64 pb, .int .i64 pc, .int .i64 pa] (0, 0) _ ((HH.out.row _ (List.Mem.tail _ (List.Mem.tail _ (List.Mem.tail _ (List.Mem.head _)))))) Tryz.underlying27 rfl (by kernel_rfl) ?_)
          refine (movedTo_is pb pc pa (i : Int) _).mono ?_
          rintro e v9 ⟨rfl, hb⟩
          have sv9 := hb.size
          replace HH := hd_go HH hb
          clear hb
          have HV3 : VV = .tuple #[.agg #[.int .i64 pb, .int .i64 pc, .int .i64 (i : Int)], .bool true] := by
            rw [← HV2.out, rawF_some (i := i) (by have := HVN.out; omega) hca HNO.out]
            rfl
          subst HV3
          go_wp2_with (refine wpList_store_row rfl 27 (.tmp 4) (.tmp 43) rfl (w.heap.size + 2) #[.int .i64 pb, .int .i64 pc, .int .i64 (i : Int)] rfl rfl 27 _ ((HH.out.row _ (List.Mem.tail _ (List.Mem.tail _ (List.Mem.head _))))) (by kernel_rfl) rfl (by simp [Value.oneCell']) ?_)
          refine bodyPost_ret (v := .tuple #[.agg #[.int .i64 pb, .int .i64 pc, .int .i64 (i : Int)], .bool true]) ?_ rfl ⟨rfl, below_row HH.out.below (by omega) _⟩
          rw [results_cell_tmp rfl]
          simp [asAddr, Result.andThen, run_placeR (RowAt.setRow ((HH.out.row _ (List.Mem.tail _ (List.Mem.tail _ (List.Mem.head _))))) _)]
        · have hcb : (((nowL (s.take i)).length : Int) == pa) = false := by simpa [cntN] using hca
          refine wp_region_noPanic ?_
          refine wp_region_held_drew (S := fun w' => Hd w [(Y, #[.func (.func 29) #[] #[]], 46), (X, #[.slice va vn vc], 47), (w.heap.size + 2, #[.int .i64 0, .int .i64 0, .int .i64 0], 27), (w.heap.size + 1, #[.int .i64 pb, .int .i64 pc, .int .i64 pa], 27), (w.heap.size, #[.slice a n cap], 25)] [fun u => Txt u va vn vc s, fun u => OutlOf u d ov, fun u => GlobE u, fun u => Dc u a n cap d] w') (by kernel_rfl) (HH.out.go (Below.refl _ _).drew) (fun hHeld => ?_)
          clear HH
          have sv7 : wr.heap.size ≤ wr.drew.heap.size := Nat.le_refl _
          generalize wr.drew = v7 at hHeld sv7 ⊢
          refine take_at 0 35 (.func (.func 58) #[] #[.pointer (some ⟨Y, 0, none⟩), .pointer (some ⟨X, 0, none⟩)]) rfl rfl (by kernel_rfl) (by kernel_rfl) (by kernel_rfl) (fun _ _ _ h => h) (Or.inl ⟨by kernel_rfl, fun w' hS' => by go_simp⟩) hHeld ?_
          (try simp only [Act.put, List.setIfInBounds_toArray, List.set_cons_zero, List.set_cons_succ])
          refine take_at 1 36 (.int .i64 (i : Int)) rfl rfl (by kernel_rfl) (by kernel_rfl) (by kernel_rfl) (fun _ _ _ h => h) (Or.inl ⟨by kernel_rfl, fun w' hS' => by go_simp⟩) hHeld ?_
          (try simp only [Act.put, List.setIfInBounds_toArray, List.set_cons_zero, List.set_cons_succ])
          refine take_at 3 38 (.pointer (some ⟨w.heap.size + 1, 2, none⟩)) rfl rfl (by kernel_rfl) (by kernel_rfl) (by kernel_rfl) (fun _ _ _ h => h) (Or.inl ⟨by kernel_rfl, fun w' hS' => by go_simp⟩) hHeld ?_
          (try simp only [Act.put, List.setIfInBounds_toArray, List.set_cons_zero, List.set_cons_succ])
          refine take_at 4 39 (.int .i64 pa) rfl rfl (by kernel_rfl) (by kernel_rfl) (by kernel_rfl) (fun _ _ _ h => h) (Or.inl ⟨by kernel_rfl, fun w' hS' => by have hc := RowAt.cell (hS'.row _ (List.Mem.tail _ (List.Mem.tail _ (List.Mem.tail _ (List.Mem.head _))))) 2; go_simp⟩) hHeld ?_
          (try simp only [Act.put, List.setIfInBounds_toArray, List.set_cons_zero, List.set_cons_succ])
          refine wpAnyH_ready (rs := [2]) (by kernel_rfl) (by simp) ?_
          refine AllReadyH.cons rfl (fun K hK => ?_) AllReadyH.nil
          go_simp
          change Calls Tryz.prog 58 #[.int .i64 (i : Int), .pointer (some ⟨Y, 0, none⟩), .pointer (some ⟨X, 0, none⟩)] _ _
          refine (countNow ((hHeld.row _ (List.Mem.tail _ (List.Mem.head _)))) ((hHeld.row _ (List.Mem.head _))) ((hHeld.fact _ (List.Mem.head _)).2) hiv).mono ?_
          rintro _ v8 ⟨rfl, hb⟩
          have sv8 := hb.size
          obtain ⟨N, HN⟩ : ∃ N, Hid ((nowL (s.take i)).length = N) := ⟨_, rfl⟩
          rw [HN.out] at hcb ⊢
          go_wp2_with fail
          refine hK.out _ _ (hHeld.go hb) (fun hHeld => ?_)
          clear hK K hb
          (try simp only [Act.put, List.setIfInBounds_toArray, List.set_cons_zero, List.set_cons_succ])
          refine take_at 5 40 (.bool false) rfl rfl (by kernel_rfl) (by kernel_rfl) (by kernel_rfl) (fun _ _ _ h => h) (Or.inl ⟨by kernel_rfl, fun w' hS' => by go_simp⟩) hHeld ?_
          (try simp only [Act.put, List.setIfInBounds_toArray, List.set_cons_zero, List.set_cons_succ])
          refine wpAnyH_done (by kernel_rfl) ?_ _
          refine NoPanic.normal ?_
          have HH : Hid (Hd w _ _ v8) := hHeld
          clear hHeld
          have kP_0 : v8.cell? ⟨w.heap.size + 1, 0, none⟩ = some (.int .i64 pb) := RowAt.cell (HH.out.row _ (List.Mem.tail _ (List.Mem.tail _ (List.Mem.tail _ (List.Mem.head _))))) 0
          have kP_1 : v8.cell? ⟨w.heap.size + 1, 1, none⟩ = some (.int .i64 pc) := RowAt.cell (HH.out.row _ (List.Mem.tail _ (List.Mem.tail _ (List.Mem.tail _ (List.Mem.head _))))) 1
          have kP_2 : v8.cell? ⟨w.heap.size + 1, 2, none⟩ = some (.int .i64 pa) := RowAt.cell (HH.out.row _ (List.Mem.tail _ (List.Mem.tail _ (List.Mem.tail _ (List.Mem.head _))))) 2
          have kA_0 : v8.cell? ⟨w.heap.size, 0, none⟩ = some (.slice a n cap) := RowAt.cell (HH.out.row _ (List.Mem.tail _ (List.Mem.tail _ (List.Mem.tail _ (List.Mem.tail _ (List.Mem.head _)))))) 0
          go_wp2_with fail
          go_roundw
          case rel => exact ⟨i + 1, by omega, by go_num, fun k hk => by
              by_cases e : k = i
              · subst e; exact hca
              · exact HNO.out k (by omega), by omega, HH.out⟩
          case measure => simp [intOf]; omega
      · have hlt : ¬ (i : Int) < (vn : Int) + 1 := by omega
        have HV3 : VV = .tuple #[.agg #[.int .i64 0, .int .i64 0, .int .i64 0], .bool false] := by
          rw [← HV2.out, rawF_none (fun k hk => HNO.out k (by have := HVN.out; omega))]
          rfl
        subst HV3
        go_wp2_with (refine wpList_store_row rfl 27 (.tmp 4) (.tmp 45) rfl (w.heap.size + 2) #[.int .i64 0, .int .i64 0, .int .i64 0] rfl rfl 27 _ ((HH.out.row _ (List.Mem.tail _ (List.Mem.tail _ (List.Mem.head _))))) (by kernel_rfl) rfl (by simp [Value.oneCell']) ?_)
        refine bodyPost_ret (v := .tuple #[.agg #[.int .i64 0, .int .i64 0, .int .i64 0], .bool false]) ?_ rfl ⟨rfl, below_row HH.out.below (by omega) _⟩
        rw [results_cell_tmp rfl]
        simp [asAddr, Result.andThen, run_placeR (RowAt.setRow ((HH.out.row _ (List.Mem.tail _ (List.Mem.tail _ (List.Mem.head _))))) _)]
set_option maxRecDepth 100000 in
set_option maxHeartbeats 16000000 in
theorem specSpotRaw_any {a : Option Addr} {n cap : Nat} {d : List Bl} {pb pc pa : Int} {w : World} (h : Dc w a n cap d) :
    Calls Tryz.prog 18 #[.agg #[.slice a n cap], .agg #[.int .i64 pb, .int .i64 pc, .int .i64 pa]] w fun e w' => e = .returned (rawV (rawD d pb pc pa) pb pc) ∧ Below w.heap.size w w' := by
  have HH0 := hd_add (hd_start w) (fun u => Dc u a n cap d) (mono_dc _ _ _ _) h
  clear h
  obtain ⟨pr, HPR⟩ : ∃ x, Hid (plT d pb pc 0 = x) := ⟨_, rfl⟩
  obtain ⟨ok, HX⟩ : ∃ x, Hid ((plT d pb pc 0).isSome = x) := ⟨_, rfl⟩
  obtain ⟨VV, HVV⟩ : ∃ x, Hid (rawV (rawD d pb pc pa) pb pc = x) := ⟨_, rfl⟩
  rw [HVV.out]
  go_enter Tryz.func18, Tryz.ntmps18
  go_upto_region 3 with fail
  have HH := hd_box (hd_box (hd_box HH0 #[.slice a n cap] 25) #[.int .i64 pb, .int .i64 pc, .int .i64 0] 27) #[.int .i64 0, .int .i64 0, .int .i64 0] 27
  clear HH0
  have f2 : ((w.alloc (.cells #[.slice a n cap] 25)).alloc (.cells #[.int .i64 pb, .int .i64 pc, .int .i64 0] 27)).heap.size = w.heap.size + 2 := by simp
  have f1 : (w.alloc (.cells #[.slice a n cap] 25)).heap.size = w.heap.size + 1 := by simp
  rw [f2, f1] at HH
  have sv : w.heap.size + 2 < (((w.alloc (.cells #[.slice a n cap] 25)).alloc (.cells #[.int .i64 pb, .int .i64 pc, .int .i64 0] 27)).alloc (.cells #[.int .i64 0, .int .i64 0, .int .i64 0] 27)).heap.size := by simp
  generalize (((w.alloc (.cells #[.slice a n cap] 25)).alloc (.cells #[.int .i64 pb, .int .i64 pc, .int .i64 0] 27)).alloc (.cells #[.int .i64 0, .int .i64 0, .int .i64 0] 27)) = v1 at HH sv ⊢
  clear f1 f2
  have kA_0 : v1.cell? ⟨w.heap.size, 0, none⟩ = some (.slice a n cap) := RowAt.cell (HH.out.row _ (List.Mem.tail _ (List.Mem.tail _ (List.Mem.head _)))) 0
  go_wp2_with (refine wpList_load_row rfl 27 (.tmp 3) rfl (w.heap.size + 1) rfl 27 #[.int .i64 pb, .int .i64 pc, .int .i64 0] (0, 0) _ ((HH.out.row _ (List.Mem.tail _ (List.Mem.head _)))) Tryz.underlying27 rfl (by kernel_rfl) ?_)
  refine (specPlaceOk_is HX.out ((HH.out.fact _ (List.Mem.head _)).2)).mono ?_
  rintro e v2 ⟨rfl, hb⟩
  have sv2 := hb.size
  replace HH := hd_go HH hb
  clear kA_0
  have kA_0 : v2.cell? ⟨w.heap.size, 0, none⟩ = some (.slice a n cap) := RowAt.cell (HH.out.row _ (List.Mem.tail _ (List.Mem.tail _ (List.Mem.head _)))) 0
  clear hb
  cases ok
  · have HV3 : VV = .tuple #[.agg #[.int .i64 0, .int .i64 0, .int .i64 0], .bool false] := by
      rw [← HVV.out]
      unfold rawD
      cases hp : plT d pb pc 0 with
      | none => rfl
      | some s => have := HX.out; rw [hp] at this; cases this
    subst HV3
    go_wp2_with (refine wpList_store_row rfl 27 (.tmp 4) (.tmp 16) rfl (w.heap.size + 2) #[.int .i64 0, .int .i64 0, .int .i64 0] rfl rfl 27 _ ((HH.out.row _ (List.Mem.head _))) (by kernel_rfl) rfl (by simp [Value.oneCell']) ?_)
    refine bodyPost_ret (v := .tuple #[.agg #[.int .i64 0, .int .i64 0, .int .i64 0], .bool false]) ?_ rfl ⟨rfl, below_row HH.out.below (by omega) _⟩
    rw [results_cell_tmp rfl]
    simp [asAddr, Result.andThen, run_placeR (RowAt.setRow ((HH.out.row _ (List.Mem.head _))) _)]
  · obtain ⟨s, hs⟩ : ∃ s, plT d pb pc 0 = some s := by
      cases hp : plT d pb pc 0 with
      | none => have := HX.out; rw [hp] at this; cases this
      | some s => exact ⟨s, rfl⟩
    have HPS : Hid (plT d pb pc 0 = some s) := hs
    have HV2 : Hid (rawV (rawF s pa) pb pc = VV) := by
      show rawV (rawF s pa) pb pc = VV
      rw [← HVV.out]
      unfold rawD
      rw [hs]
    have HTX : Hid ((plT d pb pc 0).getD [] = s) := by
      show (plT d pb pc 0).getD [] = s
      rw [hs]
      rfl
    obtain ⟨sl, HSL⟩ : ∃ x, Hid (s.length = x) := ⟨_, rfl⟩
    have hs24 : sl ≤ 24 := by
      obtain ⟨_, -, -, hbo, hti, -, -⟩ := plT_parts hs
      rw [← HSL.out]
      exact textIn_small hbo hti
    clear hs
    clear kA_0
    go_upto_block 1 with fail
    go_wp2_with fail
    go_loopw [7, 8] (fun iv _ wr => ∃ i : Nat, i ≤ sl + 1 ∧ iv = .int .i64 (i : Int) ∧ (∀ k, k < i → ¬ (cntN s k : Int) = pa) ∧ v2.heap.size ≤ wr.heap.size ∧ Hd w [(w.heap.size + 2, #[.int .i64 0, .int .i64 0, .int .i64 0], 27), (w.heap.size + 1, #[.int .i64 pb, .int .i64 pc, .int .i64 0], 27), (w.heap.size, #[.slice a n cap], 25)] [fun u => Dc u a n cap d] wr) (fun iv _ _ => 30 - (intOf iv).toNat)
    case atStart => exact ⟨0, by omega, rfl, fun k hk => absurd hk (by omega), Nat.le_refl _, HH.out⟩
    case round =>
      clear HH
      obtain ⟨i, hi, rfl, hno, hsz, hHd⟩ := hrel
      have HH : Hid (Hd w [(w.heap.size + 2, #[.int .i64 0, .int .i64 0, .int .i64 0], 27), (w.heap.size + 1, #[.int .i64 pb, .int .i64 pc, .int .i64 0], 27), (w.heap.size, #[.slice a n cap], 25)] [fun u => Dc u a n cap d] wr) := hHd
      have HNO : Hid (∀ k, k < i → ¬ (cntN s k : Int) = pa) := hno
      clear hHd hno
      have kA_0 : wr.cell? ⟨w.heap.size, 0, none⟩ = some (.slice a n cap) := RowAt.cell (HH.out.row _ (List.Mem.tail _ (List.Mem.tail _ (List.Mem.head _)))) 0
      go_wp2_with (refine wpList_load_row rfl 27 (.tmp 3) rfl (w.heap.size + 1) rfl 27 #[.int .i64 pb, .int .i64 pc, .int .i64 0] (0, 0) _ ((HH.out.row _ (List.Mem.tail _ (List.Mem.head _)))) Tryz.underlying27 rfl (by kernel_rfl) ?_)
      refine (specPlaceText_any ((HH.out.fact _ (List.Mem.head _)).2)).mono ?_
      rintro e v3 ⟨⟨p1, m1, r1, rfl, hox⟩, hb⟩
      rw [HTX.out] at hox
      have hm1 : m1 = sl := hox.len.trans HSL.out
      subst hm1
      have sv3 := hb.size
      replace HH := hd_go HH hb
      clear kA_0
      have kA_0 : v3.cell? ⟨w.heap.size, 0, none⟩ = some (.slice a n cap) := RowAt.cell (HH.out.row _ (List.Mem.tail _ (List.Mem.tail _ (List.Mem.head _)))) 0
      clear hb hox
      by_cases hiv : i ≤ m1
      · have hle : (i : Int) ≤ (m1 : Int) := by omega
        clear kA_0
        have kP_0 : v3.cell? ⟨w.heap.size + 1, 0, none⟩ = some (.int .i64 pb) := RowAt.cell (HH.out.row _ (List.Mem.tail _ (List.Mem.head _))) 0
        have kP_1 : v3.cell? ⟨w.heap.size + 1, 1, none⟩ = some (.int .i64 pc) := RowAt.cell (HH.out.row _ (List.Mem.tail _ (List.Mem.head _))) 1
        have kP_2 : v3.cell? ⟨w.heap.size + 1, 2, none⟩ = some (.int .i64 0) := RowAt.cell (HH.out.row _ (List.Mem.tail _ (List.Mem.head _))) 2
        go_upto_region 9 with fail
        replace HH := hd_box HH #[.int .i64 pb, .int .i64 pc, .int .i64 (i : Int)] 27
        clear kP_0 kP_1 kP_2
        have sv4 : v3.heap.size < (v3.alloc (.cells #[.int .i64 pb, .int .i64 pc, .int .i64 (i : Int)] 27)).heap.size := by simp
        generalize (v3.alloc (.cells #[.int .i64 pb, .int .i64 pc, .int .i64 (i : Int)] 27)) = v4 at HH sv4 ⊢
        have kP_0 : v4.cell? ⟨w.heap.size + 1, 0, none⟩ = some (.int .i64 pb) := RowAt.cell (HH.out.row _ (List.Mem.tail _ (List.Mem.tail _ (List.Mem.head _)))) 0
        have kP_1 : v4.cell? ⟨w.heap.size + 1, 1, none⟩ = some (.int .i64 pc) := RowAt.cell (HH.out.row _ (List.Mem.tail _ (List.Mem.tail _ (List.Mem.head _)))) 1
        have kP_2 : v4.cell? ⟨w.heap.size + 1, 2, none⟩ = some (.int .i64 0) := RowAt.cell (HH.out.row _ (List.Mem.tail _ (List.Mem.tail _ (List.Mem.head _)))) 2
        clear kP_0 kP_1 kP_2
        have kA_0 : v4.cell? ⟨w.heap.size, 0, none⟩ = some (.slice a n cap) := RowAt.cell (HH.out.row _ (List.Mem.tail _ (List.Mem.tail _ (List.Mem.tail _ (List.Mem.head _))))) 0
        have hsp : spotF nowL d pb pc (i : Int) = (pb, pc, (cntN s i : Int)) := by
          unfold spotF
          rw [plT_at HPS.out (by omega) (by have := HSL.out; omega)]
          rfl
        by_cases hca : (cntN s i : Int) = pa
        · have hcb : ((cntN s i : Int) == pa) = true := by simpa using hca
          have hfd := run_placeAt pb pc (cntN s i : Int)
          have hfd2 := run_placeAt pb pc pa
          go_wp2_with (refine wpList_load_row rfl 27 (.tmp 8) rfl (v3.heap.size) rfl 27 #[.int .i64 pb, .int .i64 pc, .int .i64 (i : Int)] (0, 0) _ ((HH.out.row _ (List.Mem.head _))) Tryz.underlying27 rfl (by kernel_rfl) ?_)
          refine (specSpotNow_any hsp ((HH.out.fact _ (List.Mem.head _)).2)).mono ?_
          rintro e v5 ⟨rfl, hb⟩
          have sv5 := hb.size
          replace HH := hd_go HH hb
          clear kA_0
          have kA_0 : v5.cell? ⟨w.heap.size, 0, none⟩ = some (.slice a n cap) := RowAt.cell (HH.out.row _ (List.Mem.tail _ (List.Mem.tail _ (List.Mem.tail _ (List.Mem.head _))))) 0
          clear hb
          have HV3 : VV = .tuple #[.agg #[.int .i64 pb, .int .i64 pc, .int .i64 (i : Int)], .bool true] := by
            rw [← HV2.out, rawF_some (i := i) (by have := HSL.out; omega) hca HNO.out]
            rfl
          subst HV3
          go_wp2_with (first | (refine wpList_load_row rfl 27 (.tmp 8) rfl (v3.heap.size) rfl 27 #[.int .i64 pb, .int .i64 pc, .int .i64 (i : Int)] (0, 0) _ ((HH.out.row _ (List.Mem.head _))) Tryz.underlying27 rfl (by kernel_rfl) ?_) | refine wpList_store_row rfl 27 (.tmp 4) (.tmp 37) rfl (w.heap.size + 2) #[.int .i64 pb, .int .i64 pc, .int .i64 (i : Int)] rfl rfl 27 _ ((HH.out.row _ (List.Mem.tail _ (List.Mem.head _)))) (by kernel_rfl) rfl (by simp [Value.oneCell']) ?_)
          refine bodyPost_ret (v := .tuple #[.agg #[.int .i64 pb, .int .i64 pc, .int .i64 (i : Int)], .bool true]) ?_ rfl ⟨rfl, below_row HH.out.below (by omega) _⟩
          rw [results_cell_tmp rfl]
          simp [asAddr, Result.andThen, run_placeR (RowAt.setRow ((HH.out.row _ (List.Mem.tail _ (List.Mem.head _)))) _)]
        · have hcb : ((cntN s i : Int) == pa) = false := by simpa using hca
          have hfd := run_placeAt pb pc (cntN s i : Int)
          have hfd2 := run_placeAt pb pc pa
          go_wp2_with (refine wpList_load_row rfl 27 (.tmp 8) rfl (v3.heap.size) rfl 27 #[.int .i64 pb, .int .i64 pc, .int .i64 (i : Int)] (0, 0) _ ((HH.out.row _ (List.Mem.head _))) Tryz.underlying27 rfl (by kernel_rfl) ?_)
          refine (specSpotNow_any hsp ((HH.out.fact _ (List.Mem.head _)).2)).mono ?_
          rintro e v5 ⟨rfl, hb⟩
          have sv5 := hb.size
          replace HH := hd_go HH hb
          clear kA_0
          have kA_0 : v5.cell? ⟨w.heap.size, 0, none⟩ = some (.slice a n cap) := RowAt.cell (HH.out.row _ (List.Mem.tail _ (List.Mem.tail _ (List.Mem.tail _ (List.Mem.head _))))) 0
          clear hb
          clear kA_0
          go_wp2_with fail
          go_roundw
          case rel => exact ⟨i + 1, by omega, by go_num, fun k hk => by
              by_cases e : k = i
              · subst e; exact hca
              · exact HNO.out k (by omega), by omega, hd_rowless HH⟩
          case measure => simp [intOf]; omega
      · have hle : ¬ (i : Int) ≤ (m1 : Int) := by omega
        have HV3 : VV = .tuple #[.agg #[.int .i64 0, .int .i64 0, .int .i64 0], .bool false] := by
          rw [← HV2.out, rawF_none (fun k hk => HNO.out k (by have := HSL.out; omega))]
          rfl
        subst HV3
        go_wp2_with (refine wpList_store_row rfl 27 (.tmp 4) (.tmp 38) rfl (w.heap.size + 2) #[.int .i64 0, .int .i64 0, .int .i64 0] rfl rfl 27 _ ((HH.out.row _ (List.Mem.head _))) (by kernel_rfl) rfl (by simp [Value.oneCell']) ?_)
        refine bodyPost_ret (v := .tuple #[.agg #[.int .i64 0, .int .i64 0, .int .i64 0], .bool false]) ?_ rfl ⟨rfl, below_row HH.out.below (by omega) _⟩
        rw [results_cell_tmp rfl]
        simp [asAddr, Result.andThen, run_placeR (RowAt.setRow ((HH.out.row _ (List.Mem.head _))) _)]
end Go.Proofs.YtccoeachemnbnaaGreatDoor
namespace Go.Proofs.YtccoeachemnbnaaGreatDoor
open Go.RowKit

theorem rawV_is (r : Option Nat) (b c : Int) : ∃ (x y z : Int) (ok : Bool), rawV r b c = .tuple #[.agg #[.int .i64 x, .int .i64 y, .int .i64 z], .bool ok] := by
  cases r with
  | none => exact ⟨_, _, _, _, rfl⟩
  | some i => exact ⟨_, _, _, _, rfl⟩
set_option maxRecDepth 100000 in
set_option maxHeartbeats 16000000 in
theorem lawXSpotRaw_walk (a : Option Addr) (n cap : Nat) (d : List Bl) (pb pc pa : Int) (w : World) (hG : GlobE w) (h : Dc w a n cap d) (_ : (Lit.int .i64 pb).wf = true ∧ (Lit.int .i64 pc).wf = true ∧ (Lit.int .i64 pa).wf = true) :
    Calls Tryz.prog 6 #[.agg #[.slice a n cap], .agg #[.int .i64 pb, .int .i64 pc, .int .i64 pa]] w fun e w' => e = .returned (.bool true) ∧ Below w.heap.size w w' := by
  have HH := hd_add (hd_add (hd_start w) (fun u => Dc u a n cap d) (mono_dc _ _ _ _) h) GlobE mono_globE hG
  clear h hG
  obtain ⟨x, y, z, ok, hx⟩ := rawV_is (rawD d pb pc pa) pb pc
  have HX : Hid (rawV (rawD d pb pc pa) pb pc = .tuple #[.agg #[.int .i64 x, .int .i64 y, .int .i64 z], .bool ok]) := hx
  have oo : (ok != ok) = false := by cases ok <;> rfl
  clear hx
  go_enter Tryz.func6, Tryz.ntmps6
  go_upto_region 1 with fail
  replace HH := hd_box HH #[.slice a n cap] 35
  replace HH := hd_box HH #[.int .i64 pb, .int .i64 pc, .int .i64 pa] 36
  have ev2 : (w.alloc (.cells #[.slice a n cap] 35)).heap.size = w.heap.size + 1 := by simp
  rw [ev2] at HH
  have sv2 : w.heap.size + 1 < ((w.alloc (.cells #[.slice a n cap] 35)).alloc (.cells #[.int .i64 pb, .int .i64 pc, .int .i64 pa] 36)).heap.size := by simp
  generalize ((w.alloc (.cells #[.slice a n cap] 35)).alloc (.cells #[.int .i64 pb, .int .i64 pc, .int .i64 pa] 36)) = v2 at HH sv2 ⊢
  clear ev2
  have kP_0 : v2.cell? ⟨w.heap.size + 1, 0, none⟩ = some (.int .i64 pb) := RowAt.cell (HH.out.row _ (List.Mem.head _)) 0
  have kP_1 : v2.cell? ⟨w.heap.size + 1, 1, none⟩ = some (.int .i64 pc) := RowAt.cell (HH.out.row _ (List.Mem.head _)) 1
  have kP_2 : v2.cell? ⟨w.heap.size + 1, 2, none⟩ = some (.int .i64 pa) := RowAt.cell (HH.out.row _ (List.Mem.head _)) 2
  have kG_0 : v2.cell? ⟨w.heap.size, 0, none⟩ = some (.slice a n cap) := RowAt.cell (HH.out.row _ (List.Mem.tail _ (List.Mem.head _))) 0
  go_wp2_with fail
  refine (szDoc_any ((HH.out.fact _ (List.Mem.tail _ (List.Mem.head _))).2)).mono ?_
  rintro e v3 ⟨(rfl | ⟨hle, rfl⟩), hb⟩
  · go_wp2_with fail
    go_ret
    exact ⟨rfl, (hd_go HH hb).out.below⟩
  replace HH := hd_go HH hb
  clear kP_0 kP_1 kP_2 kG_0
  have kP_0 : v3.cell? ⟨w.heap.size + 1, 0, none⟩ = some (.int .i64 pb) := RowAt.cell (HH.out.row _ (List.Mem.head _)) 0
  have kP_1 : v3.cell? ⟨w.heap.size + 1, 1, none⟩ = some (.int .i64 pc) := RowAt.cell (HH.out.row _ (List.Mem.head _)) 1
  have kP_2 : v3.cell? ⟨w.heap.size + 1, 2, none⟩ = some (.int .i64 pa) := RowAt.cell (HH.out.row _ (List.Mem.head _)) 2
  have kG_0 : v3.cell? ⟨w.heap.size, 0, none⟩ = some (.slice a n cap) := RowAt.cell (HH.out.row _ (List.Mem.tail _ (List.Mem.head _))) 0
  clear hb
  have n0 : ¬ (1048576 - (d.length : Int) - (totD d : Int)) < 0 := by omega
  go_upto_region 5 with fail
  clear kP_0 kP_1 kP_2 kG_0
  go_cut [6, 7] (fun sv ov7 wx => ∃ XS, sv = .pointer (some ⟨XS, 0, none⟩) ∧ ov7 = .bool ok ∧ v3.heap.size ≤ XS ∧ Hd w [(XS, #[.int .i64 x, .int .i64 y, .int .i64 z], 27), (w.heap.size + 1, #[.int .i64 pb, .int .i64 pc, .int .i64 pa], 36), (w.heap.size, #[.slice a n cap], 35)] [fun u => GlobE u, fun u => Dc u a n cap d] wx)
  case first =>
    refine wp_region_noPanic ?_
    refine wp_region_held_drew (S := fun w' => Hd w [(w.heap.size + 1, #[.int .i64 pb, .int .i64 pc, .int .i64 pa], 36), (w.heap.size, #[.slice a n cap], 35)] [fun u => GlobE u, fun u => Dc u a n cap d] w') (by kernel_rfl) (HH.out.go (Below.refl _ _).drew) (fun hHeld => ?_)
    clear HH
    have sv4 : v3.heap.size ≤ v3.drew.heap.size := Nat.le_refl _
    generalize v3.drew = v4 at hHeld sv4 ⊢
    refine take_at 0 17 (.agg #[.slice a n cap]) rfl rfl (by kernel_rfl) (by kernel_rfl) (by kernel_rfl) (fun _ _ _ h => h) (yieldsIf_load_row (by kernel_rfl) 35 (.tmp 2) rfl (w.heap.size) rfl 35 #[.slice a n cap] (0, 0) _ (fun w' h => h.row _ (List.Mem.tail _ (List.Mem.head _))) Tryz.underlying35 rfl (by kernel_rfl)) hHeld ?_
    (try simp only [Act.put, List.setIfInBounds_toArray, List.set_cons_zero, List.set_cons_succ])
    refine take_at 2 19 (.agg #[.int .i64 pb, .int .i64 pc, .int .i64 pa]) rfl rfl (by kernel_rfl) (by kernel_rfl) (by kernel_rfl) (fun _ _ _ h => h) (yieldsIf_load_row (by kernel_rfl) 36 (.tmp 3) rfl (w.heap.size + 1) rfl 36 #[.int .i64 pb, .int .i64 pc, .int .i64 pa] (0, 0) _ (fun w' h => h.row _ (List.Mem.head _)) Tryz.underlying36 rfl (by kernel_rfl)) hHeld ?_
    (try simp only [Act.put, List.setIfInBounds_toArray, List.set_cons_zero, List.set_cons_succ])
    refine wpAnyH_ready (rs := [1, 8]) (by kernel_rfl) (by simp) ?_
    refine AllReadyH.cons rfl (fun K hK => ?_) (AllReadyH.cons rfl (fun K hK => ?_) AllReadyH.nil)
    · go_simp
      go_at_call 14
      refine (toDoc_any ((hHeld.fact _ (List.Mem.tail _ (List.Mem.head _))).2) hle).mono ?_
      rintro _ v5 ⟨⟨b1, r1, rfl, ho1⟩, hb⟩
      have sv5 := hb.size
      have HE1 : Hid (Dc v5 (some ⟨b1, 0, none⟩) n n d) := (ho1.dc : Dc v5 (some ⟨b1, 0, none⟩) n n d)
      go_wp2_with fail
      refine hK.out _ _ (hHeld.go hb) (fun hHeld => ?_)
      clear hK K hb
      (try simp only [Act.put, List.setIfInBounds_toArray, List.set_cons_zero, List.set_cons_succ])
      refine wpAnyH_ready (rs := [3, 8]) (by kernel_rfl) (by simp) ?_
      refine AllReadyH.cons rfl (fun K hK => ?_) (AllReadyH.cons rfl (fun K hK => ?_) AllReadyH.nil)
      · go_simp
        go_at_call 15
        refine (toPlace_any pb pc pa _).mono ?_
        rintro _ v6 ⟨rfl, hb⟩
        have sv6 := hb.size
        replace HE1 : Hid (Dc v6 (some ⟨b1, 0, none⟩) n n d) := (mono_dc _ _ _ _ : Mono _) _ _ HE1.out hb
        go_wp2_with fail
        refine hK.out _ _ (hHeld.go hb) (fun hHeld => ?_)
        clear hK K hb
        (try simp only [Act.put, List.setIfInBounds_toArray, List.set_cons_zero, List.set_cons_succ])
        refine wpAnyH_ready (rs := [4, 8]) (by kernel_rfl) (by simp) ?_
        refine AllReadyH.cons rfl (fun K hK => ?_) (AllReadyH.cons rfl (fun K hK => ?_) AllReadyH.nil)
        · go_simp
          go_at_call 18
          refine (specSpotRaw_any (pb := pb) (pc := pc) (pa := pa) HE1.out).mono ?_
          rintro _ v7 ⟨rfl, hb⟩
          have sv7 := hb.size
          rw [HX.out]
          replace HE1 : Hid (Dc v7 (some ⟨b1, 0, none⟩) n n d) := (mono_dc _ _ _ _ : Mono _) _ _ HE1.out hb
          go_wp2_with fail
          refine hK.out _ _ (hHeld.go hb) (fun hHeld => ?_)
          clear hK K hb
          (try simp only [Act.put, List.setIfInBounds_toArray, List.set_cons_zero, List.set_cons_succ])
          refine take_at 5 16 (.tuple #[.agg #[.int .i64 x, .int .i64 y, .int .i64 z], .bool ok]) rfl rfl (by kernel_rfl) (by kernel_rfl) (by kernel_rfl) (fun _ _ _ h => h) (Or.inl ⟨by kernel_rfl, fun w' hS' => by go_simp⟩) hHeld ?_
          (try simp only [Act.put, List.setIfInBounds_toArray, List.set_cons_zero, List.set_cons_succ])
          refine take_at 6 22 (.agg #[.int .i64 x, .int .i64 y, .int .i64 z]) rfl rfl (by kernel_rfl) (by kernel_rfl) (by kernel_rfl) (fun _ _ _ h => h) (Or.inl ⟨by kernel_rfl, fun w' hS' => by go_simp⟩) hHeld ?_
          (try simp only [Act.put, List.setIfInBounds_toArray, List.set_cons_zero, List.set_cons_succ])
          refine take_at 7 23 (.bool ok) rfl rfl (by kernel_rfl) (by kernel_rfl) (by kernel_rfl) (fun _ _ _ h => h) (Or.inl ⟨by kernel_rfl, fun w' hS' => by go_simp⟩) hHeld ?_
          (try simp only [Act.put, List.setIfInBounds_toArray, List.set_cons_zero, List.set_cons_succ])
          refine wpAnyH_ready (rs := [8]) (by kernel_rfl) (by simp) ?_
          refine AllReadyH.cons rfl (fun K hK => ?_) AllReadyH.nil
          go_simp
          have HHB : Hid (Hd w _ _ v7) := hHeld
          have hbA : Below v7.heap.size v7 (v7.alloc (.cells #[.int .i64 0, .int .i64 0, .int .i64 0] 27)) := (Below.refl _ _).alloc (Nat.le_refl _) _
          have hA : RowAt (v7.alloc (.cells #[.int .i64 0, .int .i64 0, .int .i64 0] 27)) v7.heap.size #[.int .i64 0, .int .i64 0, .int .i64 0] 27 := rowAt_new _ _ _
          have sv8 : v7.heap.size < (v7.alloc (.cells #[.int .i64 0, .int .i64 0, .int .i64 0] 27)).heap.size := by simp
          have hXu : v3.heap.size ≤ v7.heap.size := by omega
          refine hK.out _ _ (hHeld.go hbA) (fun hHeld => ?_)
          clear hK K
          (try simp only [Act.put, List.setIfInBounds_toArray, List.set_cons_zero, List.set_cons_succ])
          generalize (v7.alloc (.cells #[.int .i64 0, .int .i64 0, .int .i64 0] 27)) = v8 at hHeld hbA hA sv8 ⊢
          obtain ⟨XS, heXS⟩ : ∃ X, v7.heap.size = X := ⟨_, rfl⟩
          have hXS : v7.heap.size ≤ XS := by omega
          rw [heXS] at hA ⊢
          clear heXS
          replace HE1 : Hid (Dc v8 (some ⟨b1, 0, none⟩) n n d) := (mono_dc _ _ _ _ : Mono _) _ _ HE1.out hbA
          refine wpAnyH_ready (rs := [9]) (by kernel_rfl) (by simp) ?_
          refine AllReadyH.cons rfl (fun K hK => ?_) AllReadyH.nil
          rw [if_pos (by kernel_rfl)]
          refine wp_store_row 27 (.tmp 6) (.tmp 22) rfl XS #[.int .i64 x, .int .i64 y, .int .i64 z] rfl rfl 27 _ hA (by kernel_rfl) rfl (by simp [Value.oneCell']) ?_
          have hbS : Below v7.heap.size v7 (v8.setRow XS #[.int .i64 x, .int .i64 y, .int .i64 z]) := below_row hbA hXS _
          have hRS : RowAt (v8.setRow XS #[.int .i64 x, .int .i64 y, .int .i64 z]) XS #[.int .i64 x, .int .i64 y, .int .i64 z] 27 := RowAt.setRow hA _
          refine hK.out _ _ ((hd_go HHB hbS).out) (fun hHeld => ?_)
          clear hK K
          (try simp only [Act.put])
          refine take_at 10 7 (.bool ok) rfl rfl (by kernel_rfl) (by kernel_rfl) (by kernel_rfl) (fun _ _ _ h => h) (Or.inl ⟨by kernel_rfl, fun w' hS' => by go_simp⟩) hHeld ?_
          (try simp only [Act.put, List.setIfInBounds_toArray])
          refine wpAnyH_done (by kernel_rfl) ?_ _
          refine NoPanic.normal ?_
          go_wp2_with fail
          go_meet
          exact ⟨XS, rfl, rfl, Nat.le_trans hXu hXS, (hd_row (hd_go HHB hbS) _ _ _ hRS).out⟩
        · go_simp
          have HHB : Hid (Hd w _ _ v6) := hHeld
          have hbA : Below v6.heap.size v6 (v6.alloc (.cells #[.int .i64 0, .int .i64 0, .int .i64 0] 27)) := (Below.refl _ _).alloc (Nat.le_refl _) _
          have hA : RowAt (v6.alloc (.cells #[.int .i64 0, .int .i64 0, .int .i64 0] 27)) v6.heap.size #[.int .i64 0, .int .i64 0, .int .i64 0] 27 := rowAt_new _ _ _
          have sv9 : v6.heap.size < (v6.alloc (.cells #[.int .i64 0, .int .i64 0, .int .i64 0] 27)).heap.size := by simp
          have hXu : v3.heap.size ≤ v6.heap.size := by omega
          refine hK.out _ _ (hHeld.go hbA) (fun hHeld => ?_)
          clear hK K
          (try simp only [Act.put, List.setIfInBounds_toArray, List.set_cons_zero, List.set_cons_succ])
          generalize (v6.alloc (.cells #[.int .i64 0, .int .i64 0, .int .i64 0] 27)) = v9 at hHeld hbA hA sv9 ⊢
          obtain ⟨XS, heXS⟩ : ∃ X, v6.heap.size = X := ⟨_, rfl⟩
          have hXS : v6.heap.size ≤ XS := by omega
          rw [heXS] at hA ⊢
          clear heXS
          replace HE1 : Hid (Dc v9 (some ⟨b1, 0, none⟩) n n d) := (mono_dc _ _ _ _ : Mono _) _ _ HE1.out hbA
          refine wpAnyH_ready (rs := [4]) (by kernel_rfl) (by simp) ?_
          refine AllReadyH.cons rfl (fun K hK => ?_) AllReadyH.nil
          go_simp
          go_at_call 18
          refine (specSpotRaw_any (pb := pb) (pc := pc) (pa := pa) HE1.out).mono ?_
          rintro _ v10 ⟨rfl, hb⟩
          have sv10 := hb.size
          rw [HX.out]
          replace HE1 : Hid (Dc v10 (some ⟨b1, 0, none⟩) n n d) := (mono_dc _ _ _ _ : Mono _) _ _ HE1.out hb
          replace hA := hA.below hb hA.lt
          replace hbA := hbA.trans (hb.mono hbA.size)
          go_wp2_with fail
          refine hK.out _ _ (hHeld.go hb) (fun hHeld => ?_)
          clear hK K hb
          (try simp only [Act.put, List.setIfInBounds_toArray, List.set_cons_zero, List.set_cons_succ])
          refine take_at 5 16 (.tuple #[.agg #[.int .i64 x, .int .i64 y, .int .i64 z], .bool ok]) rfl rfl (by kernel_rfl) (by kernel_rfl) (by kernel_rfl) (fun _ _ _ h => h) (Or.inl ⟨by kernel_rfl, fun w' hS' => by go_simp⟩) hHeld ?_
          (try simp only [Act.put, List.setIfInBounds_toArray, List.set_cons_zero, List.set_cons_succ])
          refine take_at 6 22 (.agg #[.int .i64 x, .int .i64 y, .int .i64 z]) rfl rfl (by kernel_rfl) (by kernel_rfl) (by kernel_rfl) (fun _ _ _ h => h) (Or.inl ⟨by kernel_rfl, fun w' hS' => by go_simp⟩) hHeld ?_
          (try simp only [Act.put, List.setIfInBounds_toArray, List.set_cons_zero, List.set_cons_succ])
          refine take_at 7 23 (.bool ok) rfl rfl (by kernel_rfl) (by kernel_rfl) (by kernel_rfl) (fun _ _ _ h => h) (Or.inl ⟨by kernel_rfl, fun w' hS' => by go_simp⟩) hHeld ?_
          (try simp only [Act.put, List.setIfInBounds_toArray, List.set_cons_zero, List.set_cons_succ])
          refine wpAnyH_ready (rs := [9]) (by kernel_rfl) (by simp) ?_
          refine AllReadyH.cons rfl (fun K hK => ?_) AllReadyH.nil
          rw [if_pos (by kernel_rfl)]
          refine wp_store_row 27 (.tmp 6) (.tmp 22) rfl XS #[.int .i64 x, .int .i64 y, .int .i64 z] rfl rfl 27 _ hA (by kernel_rfl) rfl (by simp [Value.oneCell']) ?_
          have hbS : Below v6.heap.size v6 (v10.setRow XS #[.int .i64 x, .int .i64 y, .int .i64 z]) := below_row hbA hXS _
          have hRS : RowAt (v10.setRow XS #[.int .i64 x, .int .i64 y, .int .i64 z]) XS #[.int .i64 x, .int .i64 y, .int .i64 z] 27 := RowAt.setRow hA _
          refine hK.out _ _ ((hd_go HHB hbS).out) (fun hHeld => ?_)
          clear hK K
          (try simp only [Act.put])
          refine take_at 10 7 (.bool ok) rfl rfl (by kernel_rfl) (by kernel_rfl) (by kernel_rfl) (fun _ _ _ h => h) (Or.inl ⟨by kernel_rfl, fun w' hS' => by go_simp⟩) hHeld ?_
          (try simp only [Act.put, List.setIfInBounds_toArray])
          refine wpAnyH_done (by kernel_rfl) ?_ _
          refine NoPanic.normal ?_
          go_wp2_with fail
          go_meet
          exact ⟨XS, rfl, rfl, Nat.le_trans hXu hXS, (hd_row (hd_go HHB hbS) _ _ _ hRS).out⟩
      · go_simp
        have HHB : Hid (Hd w _ _ v5) := hHeld
        have hbA : Below v5.heap.size v5 (v5.alloc (.cells #[.int .i64 0, .int .i64 0, .int .i64 0] 27)) := (Below.refl _ _).alloc (Nat.le_refl _) _
        have hA : RowAt (v5.alloc (.cells #[.int .i64 0, .int .i64 0, .int .i64 0] 27)) v5.heap.size #[.int .i64 0, .int .i64 0, .int .i64 0] 27 := rowAt_new _ _ _
        have sv11 : v5.heap.size < (v5.alloc (.cells #[.int .i64 0, .int .i64 0, .int .i64 0] 27)).heap.size := by simp
        have hXu : v3.heap.size ≤ v5.heap.size := by omega
        refine hK.out _ _ (hHeld.go hbA) (fun hHeld => ?_)
        clear hK K
        (try simp only [Act.put, List.setIfInBounds_toArray, List.set_cons_zero, List.set_cons_succ])
        generalize (v5.alloc (.cells #[.int .i64 0, .int .i64 0, .int .i64 0] 27)) = v11 at hHeld hbA hA sv11 ⊢
        obtain ⟨XS, heXS⟩ : ∃ X, v5.heap.size = X := ⟨_, rfl⟩
        have hXS : v5.heap.size ≤ XS := by omega
        rw [heXS] at hA ⊢
        clear heXS
        replace HE1 : Hid (Dc v11 (some ⟨b1, 0, none⟩) n n d) := (mono_dc _ _ _ _ : Mono _) _ _ HE1.out hbA
        refine wpAnyH_ready (rs := [3]) (by kernel_rfl) (by simp) ?_
        refine AllReadyH.cons rfl (fun K hK => ?_) AllReadyH.nil
        go_simp
        go_at_call 15
        refine (toPlace_any pb pc pa _).mono ?_
        rintro _ v12 ⟨rfl, hb⟩
        have sv12 := hb.size
        replace HE1 : Hid (Dc v12 (some ⟨b1, 0, none⟩) n n d) := (mono_dc _ _ _ _ : Mono _) _ _ HE1.out hb
        replace hA := hA.below hb hA.lt
        replace hbA := hbA.trans (hb.mono hbA.size)
        go_wp2_with fail
        refine hK.out _ _ (hHeld.go hb) (fun hHeld => ?_)
        clear hK K hb
        (try simp only [Act.put, List.setIfInBounds_toArray, List.set_cons_zero, List.set_cons_succ])
        refine wpAnyH_ready (rs := [4]) (by kernel_rfl) (by simp) ?_
        refine AllReadyH.cons rfl (fun K hK => ?_) AllReadyH.nil
        go_simp
        go_at_call 18
        refine (specSpotRaw_any (pb := pb) (pc := pc) (pa := pa) HE1.out).mono ?_
        rintro _ v13 ⟨rfl, hb⟩
        have sv13 := hb.size
        rw [HX.out]
        replace HE1 : Hid (Dc v13 (some ⟨b1, 0, none⟩) n n d) := (mono_dc _ _ _ _ : Mono _) _ _ HE1.out hb
        replace hA := hA.below hb hA.lt
        replace hbA := hbA.trans (hb.mono hbA.size)
        go_wp2_with fail
        refine hK.out _ _ (hHeld.go hb) (fun hHeld => ?_)
        clear hK K hb
        (try simp only [Act.put, List.setIfInBounds_toArray, List.set_cons_zero, List.set_cons_succ])
        refine take_at 5 16 (.tuple #[.agg #[.int .i64 x, .int .i64 y, .int .i64 z], .bool ok]) rfl rfl (by kernel_rfl) (by kernel_rfl) (by kernel_rfl) (fun _ _ _ h => h) (Or.inl ⟨by kernel_rfl, fun w' hS' => by go_simp⟩) hHeld ?_
        (try simp only [Act.put, List.setIfInBounds_toArray, List.set_cons_zero, List.set_cons_succ])
        refine take_at 6 22 (.agg #[.int .i64 x, .int .i64 y, .int .i64 z]) rfl rfl (by kernel_rfl) (by kernel_rfl) (by kernel_rfl) (fun _ _ _ h => h) (Or.inl ⟨by kernel_rfl, fun w' hS' => by go_simp⟩) hHeld ?_
        (try simp only [Act.put, List.setIfInBounds_toArray, List.set_cons_zero, List.set_cons_succ])
        refine take_at 7 23 (.bool ok) rfl rfl (by kernel_rfl) (by kernel_rfl) (by kernel_rfl) (fun _ _ _ h => h) (Or.inl ⟨by kernel_rfl, fun w' hS' => by go_simp⟩) hHeld ?_
        (try simp only [Act.put, List.setIfInBounds_toArray, List.set_cons_zero, List.set_cons_succ])
        refine wpAnyH_ready (rs := [9]) (by kernel_rfl) (by simp) ?_
        refine AllReadyH.cons rfl (fun K hK => ?_) AllReadyH.nil
        rw [if_pos (by kernel_rfl)]
        refine wp_store_row 27 (.tmp 6) (.tmp 22) rfl XS #[.int .i64 x, .int .i64 y, .int .i64 z] rfl rfl 27 _ hA (by kernel_rfl) rfl (by simp [Value.oneCell']) ?_
        have hbS : Below v5.heap.size v5 (v13.setRow XS #[.int .i64 x, .int .i64 y, .int .i64 z]) := below_row hbA hXS _
        have hRS : RowAt (v13.setRow XS #[.int .i64 x, .int .i64 y, .int .i64 z]) XS #[.int .i64 x, .int .i64 y, .int .i64 z] 27 := RowAt.setRow hA _
        refine hK.out _ _ ((hd_go HHB hbS).out) (fun hHeld => ?_)
        clear hK K
        (try simp only [Act.put])
        refine take_at 10 7 (.bool ok) rfl rfl (by kernel_rfl) (by kernel_rfl) (by kernel_rfl) (fun _ _ _ h => h) (Or.inl ⟨by kernel_rfl, fun w' hS' => by go_simp⟩) hHeld ?_
        (try simp only [Act.put, List.setIfInBounds_toArray])
        refine wpAnyH_done (by kernel_rfl) ?_ _
        refine NoPanic.normal ?_
        go_wp2_with fail
        go_meet
        exact ⟨XS, rfl, rfl, Nat.le_trans hXu hXS, (hd_row (hd_go HHB hbS) _ _ _ hRS).out⟩
    · go_simp
      have HHB : Hid (Hd w _ _ v4) := hHeld
      have hbA : Below v4.heap.size v4 (v4.alloc (.cells #[.int .i64 0, .int .i64 0, .int .i64 0] 27)) := (Below.refl _ _).alloc (Nat.le_refl _) _
      have hA : RowAt (v4.alloc (.cells #[.int .i64 0, .int .i64 0, .int .i64 0] 27)) v4.heap.size #[.int .i64 0, .int .i64 0, .int .i64 0] 27 := rowAt_new _ _ _
      have sv14 : v4.heap.size < (v4.alloc (.cells #[.int .i64 0, .int .i64 0, .int .i64 0] 27)).heap.size := by simp
      have hXu : v3.heap.size ≤ v4.heap.size := by omega
      refine hK.out _ _ (hHeld.go hbA) (fun hHeld => ?_)
      clear hK K
      (try simp only [Act.put, List.setIfInBounds_toArray, List.set_cons_zero, List.set_cons_succ])
      generalize (v4.alloc (.cells #[.int .i64 0, .int .i64 0, .int .i64 0] 27)) = v14 at hHeld hbA hA sv14 ⊢
      obtain ⟨XS, heXS⟩ : ∃ X, v4.heap.size = X := ⟨_, rfl⟩
      have hXS : v4.heap.size ≤ XS := by omega
      rw [heXS] at hA ⊢
      clear heXS
      refine wpAnyH_ready (rs := [1]) (by kernel_rfl) (by simp) ?_
      refine AllReadyH.cons rfl (fun K hK => ?_) AllReadyH.nil
      go_simp
      go_at_call 14
      refine (toDoc_any ((hHeld.fact _ (List.Mem.tail _ (List.Mem.head _))).2) hle).mono ?_
      rintro _ v15 ⟨⟨b1, r1, rfl, ho1⟩, hb⟩
      have sv15 := hb.size
      have HE1 : Hid (Dc v15 (some ⟨b1, 0, none⟩) n n d) := (ho1.dc : Dc v15 (some ⟨b1, 0, none⟩) n n d)
      replace hA := hA.below hb hA.lt
      replace hbA := hbA.trans (hb.mono hbA.size)
      go_wp2_with fail
      refine hK.out _ _ (hHeld.go hb) (fun hHeld => ?_)
      clear hK K hb
      (try simp only [Act.put, List.setIfInBounds_toArray, List.set_cons_zero, List.set_cons_succ])
      refine wpAnyH_ready (rs := [3]) (by kernel_rfl) (by simp) ?_
      refine AllReadyH.cons rfl (fun K hK => ?_) AllReadyH.nil
      go_simp
      go_at_call 15
      refine (toPlace_any pb pc pa _).mono ?_
      rintro _ v16 ⟨rfl, hb⟩
      have sv16 := hb.size
      replace HE1 : Hid (Dc v16 (some ⟨b1, 0, none⟩) n n d) := (mono_dc _ _ _ _ : Mono _) _ _ HE1.out hb
      replace hA := hA.below hb hA.lt
      replace hbA := hbA.trans (hb.mono hbA.size)
      go_wp2_with fail
      refine hK.out _ _ (hHeld.go hb) (fun hHeld => ?_)
      clear hK K hb
      (try simp only [Act.put, List.setIfInBounds_toArray, List.set_cons_zero, List.set_cons_succ])
      refine wpAnyH_ready (rs := [4]) (by kernel_rfl) (by simp) ?_
      refine AllReadyH.cons rfl (fun K hK => ?_) AllReadyH.nil
      go_simp
      go_at_call 18
      refine (specSpotRaw_any (pb := pb) (pc := pc) (pa := pa) HE1.out).mono ?_
      rintro _ v17 ⟨rfl, hb⟩
      have sv17 := hb.size
      rw [HX.out]
      replace HE1 : Hid (Dc v17 (some ⟨b1, 0, none⟩) n n d) := (mono_dc _ _ _ _ : Mono _) _ _ HE1.out hb
      replace hA := hA.below hb hA.lt
      replace hbA := hbA.trans (hb.mono hbA.size)
      go_wp2_with fail
      refine hK.out _ _ (hHeld.go hb) (fun hHeld => ?_)
      clear hK K hb
      (try simp only [Act.put, List.setIfInBounds_toArray, List.set_cons_zero, List.set_cons_succ])
      refine take_at 5 16 (.tuple #[.agg #[.int .i64 x, .int .i64 y, .int .i64 z], .bool ok]) rfl rfl (by kernel_rfl) (by kernel_rfl) (by kernel_rfl) (fun _ _ _ h => h) (Or.inl ⟨by kernel_rfl, fun w' hS' => by go_simp⟩) hHeld ?_
      (try simp only [Act.put, List.setIfInBounds_toArray, List.set_cons_zero, List.set_cons_succ])
      refine take_at 6 22 (.agg #[.int .i64 x, .int .i64 y, .int .i64 z]) rfl rfl (by kernel_rfl) (by kernel_rfl) (by kernel_rfl) (fun _ _ _ h => h) (Or.inl ⟨by kernel_rfl, fun w' hS' => by go_simp⟩) hHeld ?_
      (try simp only [Act.put, List.setIfInBounds_toArray, List.set_cons_zero, List.set_cons_succ])
      refine take_at 7 23 (.bool ok) rfl rfl (by kernel_rfl) (by kernel_rfl) (by kernel_rfl) (fun _ _ _ h => h) (Or.inl ⟨by kernel_rfl, fun w' hS' => by go_simp⟩) hHeld ?_
      (try simp only [Act.put, List.setIfInBounds_toArray, List.set_cons_zero, List.set_cons_succ])
      refine wpAnyH_ready (rs := [9]) (by kernel_rfl) (by simp) ?_
      refine AllReadyH.cons rfl (fun K hK => ?_) AllReadyH.nil
      rw [if_pos (by kernel_rfl)]
      refine wp_store_row 27 (.tmp 6) (.tmp 22) rfl XS #[.int .i64 x, .int .i64 y, .int .i64 z] rfl rfl 27 _ hA (by kernel_rfl) rfl (by simp [Value.oneCell']) ?_
      have hbS : Below v4.heap.size v4 (v17.setRow XS #[.int .i64 x, .int .i64 y, .int .i64 z]) := below_row hbA hXS _
      have hRS : RowAt (v17.setRow XS #[.int .i64 x, .int .i64 y, .int .i64 z]) XS #[.int .i64 x, .int .i64 y, .int .i64 z] 27 := RowAt.setRow hA _
      refine hK.out _ _ ((hd_go HHB hbS).out) (fun hHeld => ?_)
      clear hK K
      (try simp only [Act.put])
      refine take_at 10 7 (.bool ok) rfl rfl (by kernel_rfl) (by kernel_rfl) (by kernel_rfl) (fun _ _ _ h => h) (Or.inl ⟨by kernel_rfl, fun w' hS' => by go_simp⟩) hHeld ?_
      (try simp only [Act.put, List.setIfInBounds_toArray])
      refine wpAnyH_done (by kernel_rfl) ?_ _
      refine NoPanic.normal ?_
      go_wp2_with fail
      go_meet
      exact ⟨XS, rfl, rfl, Nat.le_trans hXu hXS, (hd_row (hd_go HHB hbS) _ _ _ hRS).out⟩
  case rest =>
  obtain ⟨XS, rfl, rfl, hXS, HH0⟩ := hcut
  have HH : Hid (Hd w _ _ wc) := HH0
  clear HH0
  have sv18 : XS < wc.heap.size := (HH.out.row _ (List.Mem.head _)).lt
  generalize wc = v18 at HH sv18 ⊢
  have kS_0 : v18.cell? ⟨XS, 0, none⟩ = some (.int .i64 x) := RowAt.cell (HH.out.row _ (List.Mem.head _)) 0
  have kS_1 : v18.cell? ⟨XS, 1, none⟩ = some (.int .i64 y) := RowAt.cell (HH.out.row _ (List.Mem.head _)) 1
  have kS_2 : v18.cell? ⟨XS, 2, none⟩ = some (.int .i64 z) := RowAt.cell (HH.out.row _ (List.Mem.head _)) 2
  have kP_0 : v18.cell? ⟨w.heap.size + 1, 0, none⟩ = some (.int .i64 pb) := RowAt.cell (HH.out.row _ (List.Mem.tail _ (List.Mem.head _))) 0
  have kP_1 : v18.cell? ⟨w.heap.size + 1, 1, none⟩ = some (.int .i64 pc) := RowAt.cell (HH.out.row _ (List.Mem.tail _ (List.Mem.head _))) 1
  have kP_2 : v18.cell? ⟨w.heap.size + 1, 2, none⟩ = some (.int .i64 pa) := RowAt.cell (HH.out.row _ (List.Mem.tail _ (List.Mem.head _))) 2
  have kG_0 : v18.cell? ⟨w.heap.size, 0, none⟩ = some (.slice a n cap) := RowAt.cell (HH.out.row _ (List.Mem.tail _ (List.Mem.tail _ (List.Mem.head _)))) 0
  go_wp2_with fail
  refine (toDoc_any ((HH.out.fact _ (List.Mem.tail _ (List.Mem.head _))).2) hle).mono ?_
  rintro e v19 ⟨⟨b2, r2, rfl, ho2⟩, hb⟩
  have sv19 := hb.size
  replace HH := hd_go HH hb
  clear kS_0 kS_1 kS_2 kP_0 kP_1 kP_2 kG_0
  replace HH := hd_add HH (fun u => Dc u (some ⟨b2, 0, none⟩) n n d) (mono_dc _ _ _ _) ho2.dc
  have kS_0 : v19.cell? ⟨XS, 0, none⟩ = some (.int .i64 x) := RowAt.cell (HH.out.row _ (List.Mem.head _)) 0
  have kS_1 : v19.cell? ⟨XS, 1, none⟩ = some (.int .i64 y) := RowAt.cell (HH.out.row _ (List.Mem.head _)) 1
  have kS_2 : v19.cell? ⟨XS, 2, none⟩ = some (.int .i64 z) := RowAt.cell (HH.out.row _ (List.Mem.head _)) 2
  have kP_0 : v19.cell? ⟨w.heap.size + 1, 0, none⟩ = some (.int .i64 pb) := RowAt.cell (HH.out.row _ (List.Mem.tail _ (List.Mem.head _))) 0
  have kP_1 : v19.cell? ⟨w.heap.size + 1, 1, none⟩ = some (.int .i64 pc) := RowAt.cell (HH.out.row _ (List.Mem.tail _ (List.Mem.head _))) 1
  have kP_2 : v19.cell? ⟨w.heap.size + 1, 2, none⟩ = some (.int .i64 pa) := RowAt.cell (HH.out.row _ (List.Mem.tail _ (List.Mem.head _))) 2
  have kG_0 : v19.cell? ⟨w.heap.size, 0, none⟩ = some (.slice a n cap) := RowAt.cell (HH.out.row _ (List.Mem.tail _ (List.Mem.tail _ (List.Mem.head _)))) 0
  clear hb ho2
  go_upto_region 7 with fail
  replace HH := hd_box HH #[.slice (some ⟨b2, 0, none⟩) n n] 25
  clear kS_0 kS_1 kS_2 kP_0 kP_1 kP_2 kG_0
  have sv20 : v19.heap.size < (v19.alloc (.cells #[.slice (some ⟨b2, 0, none⟩) n n] 25)).heap.size := by simp
  generalize (v19.alloc (.cells #[.slice (some ⟨b2, 0, none⟩) n n] 25)) = v20 at HH sv20 ⊢
  obtain ⟨XV, hXV⟩ : ∃ X, v19.heap.size = X := ⟨_, rfl⟩
  rw [hXV] at HH sv20 ⊢
  have kV_0 : v20.cell? ⟨XV, 0, none⟩ = some (.slice (some ⟨b2, 0, none⟩) n n) := RowAt.cell (HH.out.row _ (List.Mem.head _)) 0
  have kS_0 : v20.cell? ⟨XS, 0, none⟩ = some (.int .i64 x) := RowAt.cell (HH.out.row _ (List.Mem.tail _ (List.Mem.head _))) 0
  have kS_1 : v20.cell? ⟨XS, 1, none⟩ = some (.int .i64 y) := RowAt.cell (HH.out.row _ (List.Mem.tail _ (List.Mem.head _))) 1
  have kS_2 : v20.cell? ⟨XS, 2, none⟩ = some (.int .i64 z) := RowAt.cell (HH.out.row _ (List.Mem.tail _ (List.Mem.head _))) 2
  have kP_0 : v20.cell? ⟨w.heap.size + 1, 0, none⟩ = some (.int .i64 pb) := RowAt.cell (HH.out.row _ (List.Mem.tail _ (List.Mem.tail _ (List.Mem.head _)))) 0
  have kP_1 : v20.cell? ⟨w.heap.size + 1, 1, none⟩ = some (.int .i64 pc) := RowAt.cell (HH.out.row _ (List.Mem.tail _ (List.Mem.tail _ (List.Mem.head _)))) 1
  have kP_2 : v20.cell? ⟨w.heap.size + 1, 2, none⟩ = some (.int .i64 pa) := RowAt.cell (HH.out.row _ (List.Mem.tail _ (List.Mem.tail _ (List.Mem.head _)))) 2
  have kG_0 : v20.cell? ⟨w.heap.size, 0, none⟩ = some (.slice a n cap) := RowAt.cell (HH.out.row _ (List.Mem.tail _ (List.Mem.tail _ (List.Mem.tail _ (List.Mem.head _))))) 0
  clear kV_0 kS_0 kS_1 kS_2 kP_0 kP_1 kP_2 kG_0
  go_cut [9, 10] (fun sv ov10 wx => ∃ XI, sv = .pointer (some ⟨XI, 0, none⟩) ∧ ov10 = .bool ok ∧ v20.heap.size ≤ XI ∧ Hd w [(XI, #[.int .i64 x, .int .i64 y, .int .i64 z], 27), (XV, #[.slice (some ⟨b2, 0, none⟩) n n], 25), (XS, #[.int .i64 x, .int .i64 y, .int .i64 z], 27), (w.heap.size + 1, #[.int .i64 pb, .int .i64 pc, .int .i64 pa], 36), (w.heap.size, #[.slice a n cap], 35)] [fun u => Dc u (some ⟨b2, 0, none⟩) n n d, fun u => GlobE u, fun u => Dc u a n cap d] wx)
  case first =>
    refine wp_region_noPanic ?_
    refine wp_region_held_drew (S := fun w' => Hd w [(XV, #[.slice (some ⟨b2, 0, none⟩) n n], 25), (XS, #[.int .i64 x, .int .i64 y, .int .i64 z], 27), (w.heap.size + 1, #[.int .i64 pb, .int .i64 pc, .int .i64 pa], 36), (w.heap.size, #[.slice a n cap], 35)] [fun u => Dc u (some ⟨b2, 0, none⟩) n n d, fun u => GlobE u, fun u => Dc u a n cap d] w') (by kernel_rfl) (HH.out.go (Below.refl _ _).drew) (fun hHeld => ?_)
    clear HH
    have sv21 : v20.heap.size ≤ v20.drew.heap.size := Nat.le_refl _
    generalize v20.drew = v21 at hHeld sv21 ⊢
    refine take_at 0 27 (.agg #[.slice (some ⟨b2, 0, none⟩) n n]) rfl rfl (by kernel_rfl) (by kernel_rfl) (by kernel_rfl) (fun _ _ _ h => h) (yieldsIf_load_row (by kernel_rfl) 25 (.tmp 8) rfl (XV) rfl 25 #[.slice (some ⟨b2, 0, none⟩) n n] (0, 0) _ (fun w' h => h.row _ (List.Mem.head _)) Tryz.underlying25 rfl (by kernel_rfl)) hHeld ?_
    (try simp only [Act.put, List.setIfInBounds_toArray, List.set_cons_zero, List.set_cons_succ])
    refine take_at 1 28 (.agg #[.int .i64 pb, .int .i64 pc, .int .i64 pa]) rfl rfl (by kernel_rfl) (by kernel_rfl) (by kernel_rfl) (fun _ _ _ h => h) (yieldsIf_load_row (by kernel_rfl) 36 (.tmp 3) rfl (w.heap.size + 1) rfl 36 #[.int .i64 pb, .int .i64 pc, .int .i64 pa] (0, 0) _ (fun w' h => h.row _ (List.Mem.tail _ (List.Mem.tail _ (List.Mem.head _)))) Tryz.underlying36 rfl (by kernel_rfl)) hHeld ?_
    (try simp only [Act.put, List.setIfInBounds_toArray, List.set_cons_zero, List.set_cons_succ])
    refine wpAnyH_ready (rs := [2, 7]) (by kernel_rfl) (by simp) ?_
    refine AllReadyH.cons rfl (fun K hK => ?_) (AllReadyH.cons rfl (fun K hK => ?_) AllReadyH.nil)
    · go_simp
      go_at_call 15
      refine (toPlace_any pb pc pa _).mono ?_
      rintro _ v22 ⟨rfl, hb⟩
      have sv22 := hb.size
      go_wp2_with fail
      refine hK.out _ _ (hHeld.go hb) (fun hHeld => ?_)
      clear hK K hb
      (try simp only [Act.put, List.setIfInBounds_toArray, List.set_cons_zero, List.set_cons_succ])
      refine wpAnyH_ready (rs := [3, 7]) (by kernel_rfl) (by simp) ?_
      refine AllReadyH.cons rfl (fun K hK => ?_) (AllReadyH.cons rfl (fun K hK => ?_) AllReadyH.nil)
      · go_simp
        go_at_call 19
        refine (implSpotRaw_any (pb := pb) (pc := pc) (pa := pa) ((hHeld.fact _ (List.Mem.head _)).2) ((hHeld.fact _ (List.Mem.tail _ (List.Mem.head _))).2)).mono ?_
        rintro _ v23 ⟨rfl, hb⟩
        have sv23 := hb.size
        rw [HX.out]
        go_wp2_with fail
        refine hK.out _ _ (hHeld.go hb) (fun hHeld => ?_)
        clear hK K hb
        (try simp only [Act.put, List.setIfInBounds_toArray, List.set_cons_zero, List.set_cons_succ])
        refine take_at 4 26 (.tuple #[.agg #[.int .i64 x, .int .i64 y, .int .i64 z], .bool ok]) rfl rfl (by kernel_rfl) (by kernel_rfl) (by kernel_rfl) (fun _ _ _ h => h) (Or.inl ⟨by kernel_rfl, fun w' hS' => by go_simp⟩) hHeld ?_
        (try simp only [Act.put, List.setIfInBounds_toArray, List.set_cons_zero, List.set_cons_succ])
        refine take_at 5 31 (.agg #[.int .i64 x, .int .i64 y, .int .i64 z]) rfl rfl (by kernel_rfl) (by kernel_rfl) (by kernel_rfl) (fun _ _ _ h => h) (Or.inl ⟨by kernel_rfl, fun w' hS' => by go_simp⟩) hHeld ?_
        (try simp only [Act.put, List.setIfInBounds_toArray, List.set_cons_zero, List.set_cons_succ])
        refine take_at 6 32 (.bool ok) rfl rfl (by kernel_rfl) (by kernel_rfl) (by kernel_rfl) (fun _ _ _ h => h) (Or.inl ⟨by kernel_rfl, fun w' hS' => by go_simp⟩) hHeld ?_
        (try simp only [Act.put, List.setIfInBounds_toArray, List.set_cons_zero, List.set_cons_succ])
        refine wpAnyH_ready (rs := [7]) (by kernel_rfl) (by simp) ?_
        refine AllReadyH.cons rfl (fun K hK => ?_) AllReadyH.nil
        go_simp
        have HHB : Hid (Hd w _ _ v23) := hHeld
        have hbA : Below v23.heap.size v23 (v23.alloc (.cells #[.int .i64 0, .int .i64 0, .int .i64 0] 27)) := (Below.refl _ _).alloc (Nat.le_refl _) _
        have hA : RowAt (v23.alloc (.cells #[.int .i64 0, .int .i64 0, .int .i64 0] 27)) v23.heap.size #[.int .i64 0, .int .i64 0, .int .i64 0] 27 := rowAt_new _ _ _
        have sv24 : v23.heap.size < (v23.alloc (.cells #[.int .i64 0, .int .i64 0, .int .i64 0] 27)).heap.size := by simp
        have hXu : v20.heap.size ≤ v23.heap.size := by omega
        refine hK.out _ _ (hHeld.go hbA) (fun hHeld => ?_)
        clear hK K
        (try simp only [Act.put, List.setIfInBounds_toArray, List.set_cons_zero, List.set_cons_succ])
        generalize (v23.alloc (.cells #[.int .i64 0, .int .i64 0, .int .i64 0] 27)) = v24 at hHeld hbA hA sv24 ⊢
        obtain ⟨XI, heXI⟩ : ∃ X, v23.heap.size = X := ⟨_, rfl⟩
        have hXI : v23.heap.size ≤ XI := by omega
        rw [heXI] at hA ⊢
        clear heXI
        refine wpAnyH_ready (rs := [8]) (by kernel_rfl) (by simp) ?_
        refine AllReadyH.cons rfl (fun K hK => ?_) AllReadyH.nil
        rw [if_pos (by kernel_rfl)]
        refine wp_store_row 27 (.tmp 9) (.tmp 31) rfl XI #[.int .i64 x, .int .i64 y, .int .i64 z] rfl rfl 27 _ hA (by kernel_rfl) rfl (by simp [Value.oneCell']) ?_
        have hbS : Below v23.heap.size v23 (v24.setRow XI #[.int .i64 x, .int .i64 y, .int .i64 z]) := below_row hbA hXI _
        have hRS : RowAt (v24.setRow XI #[.int .i64 x, .int .i64 y, .int .i64 z]) XI #[.int .i64 x, .int .i64 y, .int .i64 z] 27 := RowAt.setRow hA _
        refine hK.out _ _ ((hd_go HHB hbS).out) (fun hHeld => ?_)
        clear hK K
        (try simp only [Act.put])
        refine take_at 9 10 (.bool ok) rfl rfl (by kernel_rfl) (by kernel_rfl) (by kernel_rfl) (fun _ _ _ h => h) (Or.inl ⟨by kernel_rfl, fun w' hS' => by go_simp⟩) hHeld ?_
        (try simp only [Act.put, List.setIfInBounds_toArray])
        refine wpAnyH_done (by kernel_rfl) ?_ _
        refine NoPanic.normal ?_
        go_wp2_with fail
        go_meet
        exact ⟨XI, rfl, rfl, Nat.le_trans hXu hXI, (hd_row (hd_go HHB hbS) _ _ _ hRS).out⟩
      · go_simp
        have HHB : Hid (Hd w _ _ v22) := hHeld
        have hbA : Below v22.heap.size v22 (v22.alloc (.cells #[.int .i64 0, .int .i64 0, .int .i64 0] 27)) := (Below.refl _ _).alloc (Nat.le_refl _) _
        have hA : RowAt (v22.alloc (.cells #[.int .i64 0, .int .i64 0, .int .i64 0] 27)) v22.heap.size #[.int .i64 0, .int .i64 0, .int .i64 0] 27 := rowAt_new _ _ _
        have sv25 : v22.heap.size < (v22.alloc (.cells #[.int .i64 0, .int .i64 0, .int .i64 0] 27)).heap.size := by simp
        have hXu : v20.heap.size ≤ v22.heap.size := by omega
        refine hK.out _ _ (hHeld.go hbA) (fun hHeld => ?_)
        clear hK K
        (try simp only [Act.put, List.setIfInBounds_toArray, List.set_cons_zero, List.set_cons_succ])
        generalize (v22.alloc (.cells #[.int .i64 0, .int .i64 0, .int .i64 0] 27)) = v25 at hHeld hbA hA sv25 ⊢
        obtain ⟨XI, heXI⟩ : ∃ X, v22.heap.size = X := ⟨_, rfl⟩
        have hXI : v22.heap.size ≤ XI := by omega
        rw [heXI] at hA ⊢
        clear heXI
        refine wpAnyH_ready (rs := [3]) (by kernel_rfl) (by simp) ?_
        refine AllReadyH.cons rfl (fun K hK => ?_) AllReadyH.nil
        go_simp
        go_at_call 19
        refine (implSpotRaw_any (pb := pb) (pc := pc) (pa := pa) ((hHeld.fact _ (List.Mem.head _)).2) ((hHeld.fact _ (List.Mem.tail _ (List.Mem.head _))).2)).mono ?_
        rintro _ v26 ⟨rfl, hb⟩
        have sv26 := hb.size
        rw [HX.out]
        replace hA := hA.below hb hA.lt
        replace hbA := hbA.trans (hb.mono hbA.size)
        go_wp2_with fail
        refine hK.out _ _ (hHeld.go hb) (fun hHeld => ?_)
        clear hK K hb
        (try simp only [Act.put, List.setIfInBounds_toArray, List.set_cons_zero, List.set_cons_succ])
        refine take_at 4 26 (.tuple #[.agg #[.int .i64 x, .int .i64 y, .int .i64 z], .bool ok]) rfl rfl (by kernel_rfl) (by kernel_rfl) (by kernel_rfl) (fun _ _ _ h => h) (Or.inl ⟨by kernel_rfl, fun w' hS' => by go_simp⟩) hHeld ?_
        (try simp only [Act.put, List.setIfInBounds_toArray, List.set_cons_zero, List.set_cons_succ])
        refine take_at 5 31 (.agg #[.int .i64 x, .int .i64 y, .int .i64 z]) rfl rfl (by kernel_rfl) (by kernel_rfl) (by kernel_rfl) (fun _ _ _ h => h) (Or.inl ⟨by kernel_rfl, fun w' hS' => by go_simp⟩) hHeld ?_
        (try simp only [Act.put, List.setIfInBounds_toArray, List.set_cons_zero, List.set_cons_succ])
        refine take_at 6 32 (.bool ok) rfl rfl (by kernel_rfl) (by kernel_rfl) (by kernel_rfl) (fun _ _ _ h => h) (Or.inl ⟨by kernel_rfl, fun w' hS' => by go_simp⟩) hHeld ?_
        (try simp only [Act.put, List.setIfInBounds_toArray, List.set_cons_zero, List.set_cons_succ])
        refine wpAnyH_ready (rs := [8]) (by kernel_rfl) (by simp) ?_
        refine AllReadyH.cons rfl (fun K hK => ?_) AllReadyH.nil
        rw [if_pos (by kernel_rfl)]
        refine wp_store_row 27 (.tmp 9) (.tmp 31) rfl XI #[.int .i64 x, .int .i64 y, .int .i64 z] rfl rfl 27 _ hA (by kernel_rfl) rfl (by simp [Value.oneCell']) ?_
        have hbS : Below v22.heap.size v22 (v26.setRow XI #[.int .i64 x, .int .i64 y, .int .i64 z]) := below_row hbA hXI _
        have hRS : RowAt (v26.setRow XI #[.int .i64 x, .int .i64 y, .int .i64 z]) XI #[.int .i64 x, .int .i64 y, .int .i64 z] 27 := RowAt.setRow hA _
        refine hK.out _ _ ((hd_go HHB hbS).out) (fun hHeld => ?_)
        clear hK K
        (try simp only [Act.put])
        refine take_at 9 10 (.bool ok) rfl rfl (by kernel_rfl) (by kernel_rfl) (by kernel_rfl) (fun _ _ _ h => h) (Or.inl ⟨by kernel_rfl, fun w' hS' => by go_simp⟩) hHeld ?_
        (try simp only [Act.put, List.setIfInBounds_toArray])
        refine wpAnyH_done (by kernel_rfl) ?_ _
        refine NoPanic.normal ?_
        go_wp2_with fail
        go_meet
        exact ⟨XI, rfl, rfl, Nat.le_trans hXu hXI, (hd_row (hd_go HHB hbS) _ _ _ hRS).out⟩
    · go_simp
      have HHB : Hid (Hd w _ _ v21) := hHeld
      have hbA : Below v21.heap.size v21 (v21.alloc (.cells #[.int .i64 0, .int .i64 0, .int .i64 0] 27)) := (Below.refl _ _).alloc (Nat.le_refl _) _
      have hA : RowAt (v21.alloc (.cells #[.int .i64 0, .int .i64 0, .int .i64 0] 27)) v21.heap.size #[.int .i64 0, .int .i64 0, .int .i64 0] 27 := rowAt_new _ _ _
      have sv27 : v21.heap.size < (v21.alloc (.cells #[.int .i64 0, .int .i64 0, .int .i64 0] 27)).heap.size := by simp
      have hXu : v20.heap.size ≤ v21.heap.size := by omega
      refine hK.out _ _ (hHeld.go hbA) (fun hHeld => ?_)
      clear hK K
      (try simp only [Act.put, List.setIfInBounds_toArray, List.set_cons_zero, List.set_cons_succ])
      generalize (v21.alloc (.cells #[.int .i64 0, .int .i64 0, .int .i64 0] 27)) = v27 at hHeld hbA hA sv27 ⊢
      obtain ⟨XI, heXI⟩ : ∃ X, v21.heap.size = X := ⟨_, rfl⟩
      have hXI : v21.heap.size ≤ XI := by omega
      rw [heXI] at hA ⊢
      clear heXI
      refine wpAnyH_ready (rs := [2]) (by kernel_rfl) (by simp) ?_
      refine AllReadyH.cons rfl (fun K hK => ?_) AllReadyH.nil
      go_simp
      go_at_call 15
      refine (toPlace_any pb pc pa _).mono ?_
      rintro _ v28 ⟨rfl, hb⟩
      have sv28 := hb.size
      replace hA := hA.below hb hA.lt
      replace hbA := hbA.trans (hb.mono hbA.size)
      go_wp2_with fail
      refine hK.out _ _ (hHeld.go hb) (fun hHeld => ?_)
      clear hK K hb
      (try simp only [Act.put, List.setIfInBounds_toArray, List.set_cons_zero, List.set_cons_succ])
      refine wpAnyH_ready (rs := [3]) (by kernel_rfl) (by simp) ?_
      refine AllReadyH.cons rfl (fun K hK => ?_) AllReadyH.nil
      go_simp
      go_at_call 19
      refine (implSpotRaw_any (pb := pb) (pc := pc) (pa := pa) ((hHeld.fact _ (List.Mem.head _)).2) ((hHeld.fact _ (List.Mem.tail _ (List.Mem.head _))).2)).mono ?_
      rintro _ v29 ⟨rfl, hb⟩
      have sv29 := hb.size
      rw [HX.out]
      replace hA := hA.below hb hA.lt
      replace hbA := hbA.trans (hb.mono hbA.size)
      go_wp2_with fail
      refine hK.out _ _ (hHeld.go hb) (fun hHeld => ?_)
      clear hK K hb
      (try simp only [Act.put, List.setIfInBounds_toArray, List.set_cons_zero, List.set_cons_succ])
      refine take_at 4 26 (.tuple #[.agg #[.int .i64 x, .int .i64 y, .int .i64 z], .bool ok]) rfl rfl (by kernel_rfl) (by kernel_rfl) (by kernel_rfl) (fun _ _ _ h => h) (Or.inl ⟨by kernel_rfl, fun w' hS' => by go_simp⟩) hHeld ?_
      (try simp only [Act.put, List.setIfInBounds_toArray, List.set_cons_zero, List.set_cons_succ])
      refine take_at 5 31 (.agg #[.int .i64 x, .int .i64 y, .int .i64 z]) rfl rfl (by kernel_rfl) (by kernel_rfl) (by kernel_rfl) (fun _ _ _ h => h) (Or.inl ⟨by kernel_rfl, fun w' hS' => by go_simp⟩) hHeld ?_
      (try simp only [Act.put, List.setIfInBounds_toArray, List.set_cons_zero, List.set_cons_succ])
      refine take_at 6 32 (.bool ok) rfl rfl (by kernel_rfl) (by kernel_rfl) (by kernel_rfl) (fun _ _ _ h => h) (Or.inl ⟨by kernel_rfl, fun w' hS' => by go_simp⟩) hHeld ?_
      (try simp only [Act.put, List.setIfInBounds_toArray, List.set_cons_zero, List.set_cons_succ])
      refine wpAnyH_ready (rs := [8]) (by kernel_rfl) (by simp) ?_
      refine AllReadyH.cons rfl (fun K hK => ?_) AllReadyH.nil
      rw [if_pos (by kernel_rfl)]
      refine wp_store_row 27 (.tmp 9) (.tmp 31) rfl XI #[.int .i64 x, .int .i64 y, .int .i64 z] rfl rfl 27 _ hA (by kernel_rfl) rfl (by simp [Value.oneCell']) ?_
      have hbS : Below v21.heap.size v21 (v29.setRow XI #[.int .i64 x, .int .i64 y, .int .i64 z]) := below_row hbA hXI _
      have hRS : RowAt (v29.setRow XI #[.int .i64 x, .int .i64 y, .int .i64 z]) XI #[.int .i64 x, .int .i64 y, .int .i64 z] 27 := RowAt.setRow hA _
      refine hK.out _ _ ((hd_go HHB hbS).out) (fun hHeld => ?_)
      clear hK K
      (try simp only [Act.put])
      refine take_at 9 10 (.bool ok) rfl rfl (by kernel_rfl) (by kernel_rfl) (by kernel_rfl) (fun _ _ _ h => h) (Or.inl ⟨by kernel_rfl, fun w' hS' => by go_simp⟩) hHeld ?_
      (try simp only [Act.put, List.setIfInBounds_toArray])
      refine wpAnyH_done (by kernel_rfl) ?_ _
      refine NoPanic.normal ?_
      go_wp2_with fail
      go_meet
      exact ⟨XI, rfl, rfl, Nat.le_trans hXu hXI, (hd_row (hd_go HHB hbS) _ _ _ hRS).out⟩
  case rest =>
  obtain ⟨XI, rfl, rfl, hXI, HH0⟩ := hcut
  have HH : Hid (Hd w _ _ wc) := HH0
  clear HH0
  have sv30 : XI < wc.heap.size := (HH.out.row _ (List.Mem.head _)).lt
  generalize wc = v30 at HH sv30 ⊢
  have kI_0 : v30.cell? ⟨XI, 0, none⟩ = some (.int .i64 x) := RowAt.cell (HH.out.row _ (List.Mem.head _)) 0
  have kI_1 : v30.cell? ⟨XI, 1, none⟩ = some (.int .i64 y) := RowAt.cell (HH.out.row _ (List.Mem.head _)) 1
  have kI_2 : v30.cell? ⟨XI, 2, none⟩ = some (.int .i64 z) := RowAt.cell (HH.out.row _ (List.Mem.head _)) 2
  have kV_0 : v30.cell? ⟨XV, 0, none⟩ = some (.slice (some ⟨b2, 0, none⟩) n n) := RowAt.cell (HH.out.row _ (List.Mem.tail _ (List.Mem.head _))) 0
  have kS_0 : v30.cell? ⟨XS, 0, none⟩ = some (.int .i64 x) := RowAt.cell (HH.out.row _ (List.Mem.tail _ (List.Mem.tail _ (List.Mem.head _)))) 0
  have kS_1 : v30.cell? ⟨XS, 1, none⟩ = some (.int .i64 y) := RowAt.cell (HH.out.row _ (List.Mem.tail _ (List.Mem.tail _ (List.Mem.head _)))) 1
  have kS_2 : v30.cell? ⟨XS, 2, none⟩ = some (.int .i64 z) := RowAt.cell (HH.out.row _ (List.Mem.tail _ (List.Mem.tail _ (List.Mem.head _)))) 2
  have kP_0 : v30.cell? ⟨w.heap.size + 1, 0, none⟩ = some (.int .i64 pb) := RowAt.cell (HH.out.row _ (List.Mem.tail _ (List.Mem.tail _ (List.Mem.tail _ (List.Mem.head _))))) 0
  have kP_1 : v30.cell? ⟨w.heap.size + 1, 1, none⟩ = some (.int .i64 pc) := RowAt.cell (HH.out.row _ (List.Mem.tail _ (List.Mem.tail _ (List.Mem.tail _ (List.Mem.head _))))) 1
  have kP_2 : v30.cell? ⟨w.heap.size + 1, 2, none⟩ = some (.int .i64 pa) := RowAt.cell (HH.out.row _ (List.Mem.tail _ (List.Mem.tail _ (List.Mem.tail _ (List.Mem.head _))))) 2
  have kG_0 : v30.cell? ⟨w.heap.size, 0, none⟩ = some (.slice a n cap) := RowAt.cell (HH.out.row _ (List.Mem.tail _ (List.Mem.tail _ (List.Mem.tail _ (List.Mem.tail _ (List.Mem.head _)))))) 0
  clear kI_0 kI_1 kI_2 kV_0 kS_0 kS_1 kS_2 kP_0 kP_1 kP_2 kG_0
  have kI_0 : v30.cell? ⟨XI, 0, none⟩ = some (.int .i64 x) := RowAt.cell (HH.out.row _ (List.Mem.head _)) 0
  have kI_1 : v30.cell? ⟨XI, 1, none⟩ = some (.int .i64 y) := RowAt.cell (HH.out.row _ (List.Mem.head _)) 1
  have kI_2 : v30.cell? ⟨XI, 2, none⟩ = some (.int .i64 z) := RowAt.cell (HH.out.row _ (List.Mem.head _)) 2
  have kS_0 : v30.cell? ⟨XS, 0, none⟩ = some (.int .i64 x) := RowAt.cell (HH.out.row _ (List.Mem.tail _ (List.Mem.tail _ (List.Mem.head _)))) 0
  have kS_1 : v30.cell? ⟨XS, 1, none⟩ = some (.int .i64 y) := RowAt.cell (HH.out.row _ (List.Mem.tail _ (List.Mem.tail _ (List.Mem.head _)))) 1
  have kS_2 : v30.cell? ⟨XS, 2, none⟩ = some (.int .i64 z) := RowAt.cell (HH.out.row _ (List.Mem.tail _ (List.Mem.tail _ (List.Mem.head _)))) 2
  go_wp2_with fail
  refine (eqPlace_same x y z _).mono ?_
  rintro e v31 ⟨rfl, hb⟩
  have sv31 := hb.size
  replace HH := hd_go HH hb
  clear kI_0 kI_1 kI_2 kS_0 kS_1 kS_2
  have kI_0 : v31.cell? ⟨XI, 0, none⟩ = some (.int .i64 x) := RowAt.cell (HH.out.row _ (List.Mem.head _)) 0
  have kI_1 : v31.cell? ⟨XI, 1, none⟩ = some (.int .i64 y) := RowAt.cell (HH.out.row _ (List.Mem.head _)) 1
  have kI_2 : v31.cell? ⟨XI, 2, none⟩ = some (.int .i64 z) := RowAt.cell (HH.out.row _ (List.Mem.head _)) 2
  have kS_0 : v31.cell? ⟨XS, 0, none⟩ = some (.int .i64 x) := RowAt.cell (HH.out.row _ (List.Mem.tail _ (List.Mem.tail _ (List.Mem.head _)))) 0
  have kS_1 : v31.cell? ⟨XS, 1, none⟩ = some (.int .i64 y) := RowAt.cell (HH.out.row _ (List.Mem.tail _ (List.Mem.tail _ (List.Mem.head _)))) 1
  have kS_2 : v31.cell? ⟨XS, 2, none⟩ = some (.int .i64 z) := RowAt.cell (HH.out.row _ (List.Mem.tail _ (List.Mem.tail _ (List.Mem.head _)))) 2
  clear hb
  clear kI_0 kI_1 kI_2 kS_0 kS_1 kS_2
  go_upto_region 10 with fail
  refine wp_region_noPanic ?_
  refine wp_region_held_drew (S := fun w' => Hd w [(XI, #[.int .i64 x, .int .i64 y, .int .i64 z], 27), (XV, #[.slice (some ⟨b2, 0, none⟩) n n], 25), (XS, #[.int .i64 x, .int .i64 y, .int .i64 z], 27), (w.heap.size + 1, #[.int .i64 pb, .int .i64 pc, .int .i64 pa], 36), (w.heap.size, #[.slice a n cap], 35)] [fun u => Dc u (some ⟨b2, 0, none⟩) n n d, fun u => GlobE u, fun u => Dc u a n cap d] w') (by kernel_rfl) (HH.out.go (Below.refl _ _).drew) (fun hHeld => ?_)
  clear HH
  have sv32 : v31.heap.size ≤ v31.drew.heap.size := Nat.le_refl _
  generalize v31.drew = v32 at hHeld sv32 ⊢
  refine take_at 0 42 (.agg #[.slice (some ⟨b2, 0, none⟩) n n]) rfl rfl (by kernel_rfl) (by kernel_rfl) (by kernel_rfl) (fun _ _ _ h => h) (yieldsIf_load_row (by kernel_rfl) 25 (.tmp 8) rfl (XV) rfl 25 #[.slice (some ⟨b2, 0, none⟩) n n] (0, 0) _ (fun w' h => h.row _ (List.Mem.tail _ (List.Mem.head _))) Tryz.underlying25 rfl (by kernel_rfl)) hHeld ?_
  (try simp only [Act.put, List.setIfInBounds_toArray, List.set_cons_zero, List.set_cons_succ])
  refine take_at 1 43 (.agg #[.slice a n cap]) rfl rfl (by kernel_rfl) (by kernel_rfl) (by kernel_rfl) (fun _ _ _ h => h) (yieldsIf_load_row (by kernel_rfl) 35 (.tmp 2) rfl (w.heap.size) rfl 35 #[.slice a n cap] (0, 0) _ (fun w' h => h.row _ (List.Mem.tail _ (List.Mem.tail _ (List.Mem.tail _ (List.Mem.tail _ (List.Mem.head _)))))) Tryz.underlying35 rfl (by kernel_rfl)) hHeld ?_
  (try simp only [Act.put, List.setIfInBounds_toArray, List.set_cons_zero, List.set_cons_succ])
  refine wpAnyH_ready (rs := [2]) (by kernel_rfl) (by simp) ?_
  refine AllReadyH.cons rfl (fun K hK => ?_) AllReadyH.nil
  go_simp
  go_at_call 14
  refine (toDoc_any ((hHeld.fact _ (List.Mem.tail _ (List.Mem.tail _ (List.Mem.head _)))).2) hle).mono ?_
  rintro _ v33 ⟨⟨b3, r3, rfl, ho3⟩, hb⟩
  have sv33 := hb.size
  have HE3 : Hid (Dc v33 (some ⟨b3, 0, none⟩) n n d) := (ho3.dc : Dc v33 (some ⟨b3, 0, none⟩) n n d)
  go_wp2_with fail
  refine hK.out _ _ (hHeld.go hb) (fun hHeld => ?_)
  clear hK K hb
  (try simp only [Act.put, List.setIfInBounds_toArray, List.set_cons_zero, List.set_cons_succ])
  refine wpAnyH_ready (rs := [3]) (by kernel_rfl) (by simp) ?_
  refine AllReadyH.cons rfl (fun K hK => ?_) AllReadyH.nil
  go_simp
  go_at_call 17
  refine (eqDoc_same ((hHeld.fact _ (List.Mem.head _)).2) HE3.out).mono ?_
  rintro _ v34 ⟨rfl, hb⟩
  have sv34 := hb.size
  replace HE3 : Hid (Dc v34 (some ⟨b3, 0, none⟩) n n d) := (mono_dc _ _ _ _ : Mono _) _ _ HE3.out hb
  go_wp2_with fail
  refine hK.out _ _ (hHeld.go hb) (fun hHeld => ?_)
  clear hK K hb
  (try simp only [Act.put, List.setIfInBounds_toArray, List.set_cons_zero, List.set_cons_succ])
  refine take_at 4 46 (.bool false) rfl rfl (by kernel_rfl) (by kernel_rfl) (by kernel_rfl) (fun _ _ _ h => h) (Or.inl ⟨by kernel_rfl, fun w' hS' => by go_simp⟩) hHeld ?_
  (try simp only [Act.put, List.setIfInBounds_toArray, List.set_cons_zero, List.set_cons_succ])
  refine wpAnyH_done (by kernel_rfl) ?_ _
  refine NoPanic.normal ?_
  have HH : Hid (Hd w _ _ v34) := hHeld
  clear hHeld
  replace HH := hd_add HH (fun u => Dc u (some ⟨b3, 0, none⟩) n n d) (mono_dc _ _ _ _) HE3.out
  clear HE3
  go_wp2_with fail
  go_ret
  exact ⟨rfl, HH.out.below⟩
end Go.Proofs.YtccoeachemnbnaaGreatDoor
