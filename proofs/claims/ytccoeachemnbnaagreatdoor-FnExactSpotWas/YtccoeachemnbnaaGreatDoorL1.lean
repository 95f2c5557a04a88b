import Derived.Test.YtccoeachemnbnaaGreatDoorBA4
import Derived.Test.YtccoeachemnbnaaGreatDoorBA3
import Derived.Deep.DeepCutAuto
namespace Go.Proofs.YtccoeachemnbnaaGreatDoor
open Go.RowKit

set_option maxRecDepth 100000 in
set_option maxHeartbeats 16000000 in
theorem lawXSpotWas_walk (a : Option Addr) (n cap : Nat) (d : List Bl) (pb pc pa : Int) (w : World) (hG : GlobE w) (h : Dc w a n cap d) (_ : (Lit.int .i64 pb).wf = true ∧ (Lit.int .i64 pc).wf = true ∧ (Lit.int .i64 pa).wf = true) :
    Calls Tryz.prog 5 #[.agg #[.slice a n cap], .agg #[.int .i64 pb, .int .i64 pc, .int .i64 pa]] w fun e w' => e = .returned (.bool true) ∧ Below w.heap.size w w' := by
  have HH := hd_add (hd_add (hd_start w) (fun u => Dc u a n cap d) (mono_dc _ _ _ _) h) GlobE mono_globE hG
  clear h hG
  obtain ⟨⟨x, y, z⟩, HX⟩ : ∃ t, Hid (spotF wasL d pb pc pa = t) := ⟨_, rfl⟩
  go_enter Tryz.func5, Tryz.ntmps5
  go_upto_region 1 with fail
  replace HH := hd_box HH #[.slice a n cap] 35
  replace HH := hd_box HH #[.int .i64 pb, .int .i64 pc, .int .i64 pa] 36
  have ev2 : (w.alloc (.cells #[.slice a n cap] 35)).heap.size = w.heap.size + 1 := by simp
  rw [ev2] at HH
  have sv2 : w.heap.size + 1 < ((w.alloc (.cells #[.slice a n cap] 35)).alloc (.cells #[.int .i64 pb, .int .i64 pc, .int .i64 pa] 36)).heap.size := by simp
  generalize ((w.alloc (.cells #[.slice a n cap] 35)).alloc (.cells #[.int .i64 pb, .int .i64 pc, .int .i64 pa] 36)) = v2 at HH sv2 ⊢
  clear ev2
  have kP_0 : v2.cell? ⟨w.heap.size + 1, 0, none⟩ = some (.int .i64 pb) := RowAt.cell (HH.out.row _ (List.Mem.head _)) 0
  have kP_1 : v2.cell? ⟨w.heap.size + 1, 1, none⟩ = some (.int .i64 pc) := RowAt.cell (HH.out.row _ (List.Mem.head _)) 1
  have kP_2 : v2.cell? ⟨w.heap.size + 1, 2, none⟩ = some (.int .i64 pa) := RowAt.cell (HH.out.row _ (List.Mem.head _)) 2
  have kG_0 : v2.cell? ⟨w.heap.size, 0, none⟩ = some (.slice a n cap) := RowAt.cell (HH.out.row _ (List.Mem.tail _ (List.Mem.head _))) 0
  go_wp2_with fail
  refine (szDoc_any ((HH.out.fact _ (List.Mem.tail _ (List.Mem.head _))).2)).mono ?_
  rintro e v3 ⟨(rfl | ⟨hle, rfl⟩), hb⟩
  · go_wp2_with fail
    go_ret
    exact ⟨rfl, (hd_go HH hb).out.below⟩
  replace HH := hd_go HH hb
  clear kP_0 kP_1 kP_2 kG_0
  have kP_0 : v3.cell? ⟨w.heap.size + 1, 0, none⟩ = some (.int .i64 pb) := RowAt.cell (HH.out.row _ (List.Mem.head _)) 0
  have kP_1 : v3.cell? ⟨w.heap.size + 1, 1, none⟩ = some (.int .i64 pc) := RowAt.cell (HH.out.row _ (List.Mem.head _)) 1
  have kP_2 : v3.cell? ⟨w.heap.size + 1, 2, none⟩ = some (.int .i64 pa) := RowAt.cell (HH.out.row _ (List.Mem.head _)) 2
  have kG_0 : v3.cell? ⟨w.heap.size, 0, none⟩ = some (.slice a n cap) := RowAt.cell (HH.out.row _ (List.Mem.tail _ (List.Mem.head _))) 0
  clear hb
  have n0 : ¬ (1048576 - (d.length : Int) - (totD d : Int)) < 0 := by omega
  go_upto_region 5 with fail
  clear kP_0 kP_1 kP_2 kG_0
  go_cut [6] (fun sv wx => ∃ XS, sv = .pointer (some ⟨XS, 0, none⟩) ∧ v3.heap.size ≤ XS ∧ Hd w [(XS, #[.int .i64 x, .int .i64 y, .int .i64 z], 27), (w.heap.size + 1, #[.int .i64 pb, .int .i64 pc, .int .i64 pa], 36), (w.heap.size, #[.slice a n cap], 35)] [fun u => GlobE u, fun u => Dc u a n cap d] wx)
  case first =>
    refine wp_region_noPanic ?_
    refine wp_region_held_drew (S := fun w' => Hd w [(w.heap.size + 1, #[.int .i64 pb, .int .i64 pc, .int .i64 pa], 36), (w.heap.size, #[.slice a n cap], 35)] [fun u => GlobE u, fun u => Dc u a n cap d] w') (by kernel_rfl) (HH.out.go (Below.refl _ _).drew) (fun hHeld => ?_)
    clear HH
    have sv4 : v3.heap.size ≤ v3.drew.heap.size := Nat.le_refl _
    generalize v3.drew = v4 at hHeld sv4 ⊢
    refine take_at 0 14 (.agg #[.slice a n cap]) rfl rfl (by kernel_rfl) (by kernel_rfl) (by kernel_rfl) (fun _ _ _ h => h) (yieldsIf_load_row (by kernel_rfl) 35 (.tmp 2) rfl (w.heap.size) rfl 35 #[.slice a n cap] (0, 0) _ (fun w' h => h.row _ (List.Mem.tail _ (List.Mem.head _))) Tryz.underlying35 rfl (by kernel_rfl)) hHeld ?_
    (try simp only [Act.put, List.setIfInBounds_toArray, List.set_cons_zero, List.set_cons_succ])
    refine take_at 2 16 (.agg #[.int .i64 pb, .int .i64 pc, .int .i64 pa]) rfl rfl (by kernel_rfl) (by kernel_rfl) (by kernel_rfl) (fun _ _ _ h => h) (yieldsIf_load_row (by kernel_rfl) 36 (.tmp 3) rfl (w.heap.size + 1) rfl 36 #[.int .i64 pb, .int .i64 pc, .int .i64 pa] (0, 0) _ (fun w' h => h.row _ (List.Mem.head _)) Tryz.underlying36 rfl (by kernel_rfl)) hHeld ?_
    (try simp only [Act.put, List.setIfInBounds_toArray, List.set_cons_zero, List.set_cons_succ])
    refine wpAnyH_ready (rs := [1, 5]) (by kernel_rfl) (by simp) ?_
    refine AllReadyH.cons rfl (fun K hK => ?_) (AllReadyH.cons rfl (fun K hK => ?_) AllReadyH.nil)
    · go_simp
      go_at_call 14
      refine (toDoc_any ((hHeld.fact _ (List.Mem.tail _ (List.Mem.head _))).2) hle).mono ?_
      rintro _ v5 ⟨⟨b1, r1, rfl, ho1⟩, hb⟩
      have sv5 := hb.size
      have HE1 : Hid (Dc v5 (some ⟨b1, 0, none⟩) n n d) := (ho1.dc : Dc v5 (some ⟨b1, 0, none⟩) n n d)
      go_wp2_with fail
      refine hK.out _ _ (hHeld.go hb) (fun hHeld => ?_)
      clear hK K hb
      (try simp only [Act.put, List.setIfInBounds_toArray, List.set_cons_zero, List.set_cons_succ])
      refine wpAnyH_ready (rs := [3, 5]) (by kernel_rfl) (by simp) ?_
      refine AllReadyH.cons rfl (fun K hK => ?_) (AllReadyH.cons rfl (fun K hK => ?_) AllReadyH.nil)
      · go_simp
        go_at_call 15
        refine (toPlace_any pb pc pa _).mono ?_
        rintro _ v6 ⟨rfl, hb⟩
        have sv6 := hb.size
        replace HE1 : Hid (Dc v6 (some ⟨b1, 0, none⟩) n n d) := (mono_dc _ _ _ _ : Mono _) _ _ HE1.out hb
        go_wp2_with fail
        refine hK.out _ _ (hHeld.go hb) (fun hHeld => ?_)
        clear hK K hb
        (try simp only [Act.put, List.setIfInBounds_toArray, List.set_cons_zero, List.set_cons_succ])
        refine wpAnyH_ready (rs := [4, 5]) (by kernel_rfl) (by simp) ?_
        refine AllReadyH.cons rfl (fun K hK => ?_) (AllReadyH.cons rfl (fun K hK => ?_) AllReadyH.nil)
        · go_simp
          go_at_call 9
          refine (specSpotWas_any HX.out HE1.out).mono ?_
          rintro _ v7 ⟨rfl, hb⟩
          have sv7 := hb.size
          replace HE1 : Hid (Dc v7 (some ⟨b1, 0, none⟩) n n d) := (mono_dc _ _ _ _ : Mono _) _ _ HE1.out hb
          go_wp2_with fail
          refine hK.out _ _ (hHeld.go hb) (fun hHeld => ?_)
          clear hK K hb
          (try simp only [Act.put, List.setIfInBounds_toArray, List.set_cons_zero, List.set_cons_succ])
          refine wpAnyH_ready (rs := [5]) (by kernel_rfl) (by simp) ?_
          refine AllReadyH.cons rfl (fun K hK => ?_) AllReadyH.nil
          go_simp
          have HHB : Hid (Hd w _ _ v7) := hHeld
          have hbA : Below v7.heap.size v7 (v7.alloc (.cells #[.int .i64 0, .int .i64 0, .int .i64 0] 27)) := (Below.refl _ _).alloc (Nat.le_refl _) _
          have hA : RowAt (v7.alloc (.cells #[.int .i64 0, .int .i64 0, .int .i64 0] 27)) v7.heap.size #[.int .i64 0, .int .i64 0, .int .i64 0] 27 := rowAt_new _ _ _
          have sv8 : v7.heap.size < (v7.alloc (.cells #[.int .i64 0, .int .i64 0, .int .i64 0] 27)).heap.size := by simp
          have hXu : v3.heap.size ≤ v7.heap.size := by omega
          refine hK.out _ _ (hHeld.go hbA) (fun hHeld => ?_)
          clear hK K
          (try simp only [Act.put, List.setIfInBounds_toArray, List.set_cons_zero, List.set_cons_succ])
          generalize (v7.alloc (.cells #[.int .i64 0, .int .i64 0, .int .i64 0] 27)) = v8 at hHeld hbA hA sv8 ⊢
          obtain ⟨XS, heXS⟩ : ∃ X, v7.heap.size = X := ⟨_, rfl⟩
          have hXS : v7.heap.size ≤ XS := by omega
          rw [heXS] at hA ⊢
          clear heXS
          replace HE1 : Hid (Dc v8 (some ⟨b1, 0, none⟩) n n d) := (mono_dc _ _ _ _ : Mono _) _ _ HE1.out hbA
          refine wpAnyH_ready (rs := [6]) (by kernel_rfl) (by simp) ?_
          refine AllReadyH.cons rfl (fun K hK => ?_) AllReadyH.nil
          rw [if_pos (by kernel_rfl)]
          refine wp_store_row 27 (.tmp 6) (.tmp 18) rfl XS #[.int .i64 x, .int .i64 y, .int .i64 z] rfl rfl 27 _ hA (by kernel_rfl) rfl (by simp [Value.oneCell']) ?_
          have hbS : Below v7.heap.size v7 (v8.setRow XS #[.int .i64 x, .int .i64 y, .int .i64 z]) := below_row hbA hXS _
          have hRS : RowAt (v8.setRow XS #[.int .i64 x, .int .i64 y, .int .i64 z]) XS #[.int .i64 x, .int .i64 y, .int .i64 z] 27 := RowAt.setRow hA _
          refine hK.out _ _ ((hd_go HHB hbS).out) (fun hHeld => ?_)
          clear hK K
          (try simp only [Act.put])
          refine wpAnyH_done (by kernel_rfl) ?_ _
          refine NoPanic.normal ?_
          go_wp2_with fail
          go_meet
          exact ⟨XS, rfl, Nat.le_trans hXu hXS, (hd_row (hd_go HHB hbS) _ _ _ hRS).out⟩
        · go_simp
          have HHB : Hid (Hd w _ _ v6) := hHeld
          have hbA : Below v6.heap.size v6 (v6.alloc (.cells #[.int .i64 0, .int .i64 0, .int .i64 0] 27)) := (Below.refl _ _).alloc (Nat.le_refl _) _
          have hA : RowAt (v6.alloc (.cells #[.int .i64 0, .int .i64 0, .int .i64 0] 27)) v6.heap.size #[.int .i64 0, .int .i64 0, .int .i64 0] 27 := rowAt_new _ _ _
          have sv9 : v6.heap.size < (v6.alloc (.cells #[.int .i64 0, .int .i64 0, .int .i64 0] 27)).heap.size := by simp
          have hXu : v3.heap.size ≤ v6.heap.size := by omega
          refine hK.out _ _ (hHeld.go hbA) (fun hHeld => ?_)
          clear hK K
          (try simp only [Act.put, List.setIfInBounds_toArray, List.set_cons_zero, List.set_cons_succ])
          generalize (v6.alloc (.cells #[.int .i64 0, .int .i64 0, .int .i64 0] 27)) = v9 at hHeld hbA hA sv9 ⊢
          obtain ⟨XS, heXS⟩ : ∃ X, v6.heap.size = X := ⟨_, rfl⟩
          have hXS : v6.heap.size ≤ XS := by omega
          rw [heXS] at hA ⊢
          clear heXS
          replace HE1 : Hid (Dc v9 (some ⟨b1, 0, none⟩) n n d) := (mono_dc _ _ _ _ : Mono _) _ _ HE1.out hbA
          refine wpAnyH_ready (rs := [4]) (by kernel_rfl) (by simp) ?_
          refine AllReadyH.cons rfl (fun K hK => ?_) AllReadyH.nil
          go_simp
          go_at_call 9
          refine (specSpotWas_any HX.out HE1.out).mono ?_
          rintro _ v10 ⟨rfl, hb⟩
          have sv10 := hb.size
          replace HE1 : Hid (Dc v10 (some ⟨b1, 0, none⟩) n n d) := (mono_dc _ _ _ _ : Mono _) _ _ HE1.out hb
          replace hA := hA.below hb hA.lt
          replace hbA := hbA.trans (hb.mono hbA.size)
          go_wp2_with fail
          refine hK.out _ _ (hHeld.go hb) (fun hHeld => ?_)
          clear hK K hb
          (try simp only [Act.put, List.setIfInBounds_toArray, List.set_cons_zero, List.set_cons_succ])
          refine wpAnyH_ready (rs := [6]) (by kernel_rfl) (by simp) ?_
          refine AllReadyH.cons rfl (fun K hK => ?_) AllReadyH.nil
          rw [if_pos (by kernel_rfl)]
          refine wp_store_row 27 (.tmp 6) (.tmp 18) rfl XS #[.int .i64 x, .int .i64 y, .int .i64 z] rfl rfl 27 _ hA (by kernel_rfl) rfl (by simp [Value.oneCell']) ?_
          have hbS : Below v6.heap.size v6 (v10.setRow XS #[.int .i64 x, .int .i64 y, .int .i64 z]) := below_row hbA hXS _
          have hRS : RowAt (v10.setRow XS #[.int .i64 x, .int .i64 y, .int .i64 z]) XS #[.int .i64 x, .int .i64 y, .int .i64 z] 27 := RowAt.setRow hA _
          refine hK.out _ _ ((hd_go HHB hbS).out) (fun hHeld => ?_)
          clear hK K
          (try simp only [Act.put])
          refine wpAnyH_done (by kernel_rfl) ?_ _
          refine NoPanic.normal ?_
          go_wp2_with fail
          go_meet
          exact ⟨XS, rfl, Nat.le_trans hXu hXS, (hd_row (hd_go HHB hbS) _ _ _ hRS).out⟩
      · go_simp
        have HHB : Hid (Hd w _ _ v5) := hHeld
        have hbA : Below v5.heap.size v5 (v5.alloc (.cells #[.int .i64 0, .int .i64 0, .int .i64 0] 27)) := (Below.refl _ _).alloc (Nat.le_refl _) _
        have hA : RowAt (v5.alloc (.cells #[.int .i64 0, .int .i64 0, .int .i64 0] 27)) v5.heap.size #[.int .i64 0, .int .i64 0, .int .i64 0] 27 := rowAt_new _ _ _
        have sv11 : v5.heap.size < (v5.alloc (.cells #[.int .i64 0, .int .i64 0, .int .i64 0] 27)).heap.size := by simp
        have hXu : v3.heap.size ≤ v5.heap.size := by omega
        refine hK.out _ _ (hHeld.go hbA) (fun hHeld => ?_)
        clear hK K
        (try simp only [Act.put, List.setIfInBounds_toArray, List.set_cons_zero, List.set_cons_succ])
        generalize (v5.alloc (.cells #[.int .i64 0, .int .i64 0, .int .i64 0] 27)) = v11 at hHeld hbA hA sv11 ⊢
        obtain ⟨XS, heXS⟩ : ∃ X, v5.heap.size = X := ⟨_, rfl⟩
        have hXS : v5.heap.size ≤ XS := by omega
        rw [heXS] at hA ⊢
        clear heXS
        replace HE1 : Hid (Dc v11 (some ⟨b1, 0, none⟩) n n d) := (mono_dc _ _ _ _ : Mono _) _ _ HE1.out hbA
        refine wpAnyH_ready (rs := [3]) (by kernel_rfl) (by simp) ?_
        refine AllReadyH.cons rfl (fun K hK => ?_) AllReadyH.nil
        go_simp
        go_at_call 15
        refine (toPlace_any pb pc pa _).mono ?_
        rintro _ v12 ⟨rfl, hb⟩
        have sv12 := hb.size
        replace HE1 : Hid (Dc v12 (some ⟨b1, 0, none⟩) n n d) := (mono_dc _ _ _ _ : Mono _) _ _ HE1.out hb
        replace hA := hA.below hb hA.lt
        replace hbA := hbA.trans (hb.mono hbA.size)
        go_wp2_with fail
        refine hK.out _ _ (hHeld.go hb) (fun hHeld => ?_)
        clear hK K hb
        (try simp only [Act.put, List.setIfInBounds_toArray, List.set_cons_zero, List.set_cons_succ])
        refine wpAnyH_ready (rs := [4]) (by kernel_rfl) (by simp) ?_
        refine AllReadyH.cons rfl (fun K hK => ?_) AllReadyH.nil
        go_simp
        go_at_call 9
        refine (specSpotWas_any HX.out HE1.out).mono ?_
        rintro _ v13 ⟨rfl, hb⟩
        have sv13 := hb.size
        replace HE1 : Hid (Dc v13 (some ⟨b1, 0, none⟩) n n d) := (mono_dc _ _ _ _ : Mono _) _ _ HE1.out hb
        replace hA := hA.below hb hA.lt
        replace hbA := hbA.trans (hb.mono hbA.size)
        go_wp2_with fail
        refine hK.out _ _ (hHeld.go hb) (fun hHeld => ?_)
        clear hK K hb
        (try simp only [Act.put, List.setIfInBounds_toArray, List.set_cons_zero, List.set_cons_succ])
        refine wpAnyH_ready (rs := [6]) (by kernel_rfl) (by simp) ?_
        refine AllReadyH.cons rfl (fun K hK => ?_) AllReadyH.nil
        rw [if_pos (by kernel_rfl)]
        refine wp_store_row 27 (.tmp 6) (.tmp 18) rfl XS #[.int .i64 x, .int .i64 y, .int .i64 z] rfl rfl 27 _ hA (by kernel_rfl) rfl (by simp [Value.oneCell']) ?_
        have hbS : Below v5.heap.size v5 (v13.setRow XS #[.int .i64 x, .int .i64 y, .int .i64 z]) := below_row hbA hXS _
        have hRS : RowAt (v13.setRow XS #[.int .i64 x, .int .i64 y, .int .i64 z]) XS #[.int .i64 x, .int .i64 y, .int .i64 z] 27 := RowAt.setRow hA _
        refine hK.out _ _ ((hd_go HHB hbS).out) (fun hHeld => ?_)
        clear hK K
        (try simp only [Act.put])
        refine wpAnyH_done (by kernel_rfl) ?_ _
        refine NoPanic.normal ?_
        go_wp2_with fail
        go_meet
        exact ⟨XS, rfl, Nat.le_trans hXu hXS, (hd_row (hd_go HHB hbS) _ _ _ hRS).out⟩
    · go_simp
      have HHB : Hid (Hd w _ _ v4) := hHeld
      have hbA : Below v4.heap.size v4 (v4.alloc (.cells #[.int .i64 0, .int .i64 0, .int .i64 0] 27)) := (Below.refl _ _).alloc (Nat.le_refl _) _
      have hA : RowAt (v4.alloc (.cells #[.int .i64 0, .int .i64 0, .int .i64 0] 27)) v4.heap.size #[.int .i64 0, .int .i64 0, .int .i64 0] 27 := rowAt_new _ _ _
      have sv14 : v4.heap.size < (v4.alloc (.cells #[.int .i64 0, .int .i64 0, .int .i64 0] 27)).heap.size := by simp
      have hXu : v3.heap.size ≤ v4.heap.size := by omega
      refine hK.out _ _ (hHeld.go hbA) (fun hHeld => ?_)
      clear hK K
      (try simp only [Act.put, List.setIfInBounds_toArray, List.set_cons_zero, List.set_cons_succ])
      generalize (v4.alloc (.cells #[.int .i64 0, .int .i64 0, .int .i64 0] 27)) = v14 at hHeld hbA hA sv14 ⊢
      obtain ⟨XS, heXS⟩ : ∃ X, v4.heap.size = X := ⟨_, rfl⟩
      have hXS : v4.heap.size ≤ XS := by omega
      rw [heXS] at hA ⊢
      clear heXS
      refine wpAnyH_ready (rs := [1]) (by kernel_rfl) (by simp) ?_
      refine AllReadyH.cons rfl (fun K hK => ?_) AllReadyH.nil
      go_simp
      go_at_call 14
      refine (toDoc_any ((hHeld.fact _ (List.Mem.tail _ (List.Mem.head _))).2) hle).mono ?_
      rintro _ v15 ⟨⟨b1, r1, rfl, ho1⟩, hb⟩
      have sv15 := hb.size
      have HE1 : Hid (Dc v15 (some ⟨b1, 0, none⟩) n n d) := (ho1.dc : Dc v15 (some ⟨b1, 0, none⟩) n n d)
      replace hA := hA.below hb hA.lt
      replace hbA := hbA.trans (hb.mono hbA.size)
      go_wp2_with fail
      refine hK.out _ _ (hHeld.go hb) (fun hHeld => ?_)
      clear hK K hb
      (try simp only [Act.put, List.setIfInBounds_toArray, List.set_cons_zero, List.set_cons_succ])
      refine wpAnyH_ready (rs := [3]) (by kernel_rfl) (by simp) ?_
      refine AllReadyH.cons rfl (fun K hK => ?_) AllReadyH.nil
      go_simp
      go_at_call 15
      refine (toPlace_any pb pc pa _).mono ?_
      rintro _ v16 ⟨rfl, hb⟩
      have sv16 := hb.size
      replace HE1 : Hid (Dc v16 (some ⟨b1, 0, none⟩) n n d) := (mono_dc _ _ _ _ : Mono _) _ _ HE1.out hb
      replace hA := hA.below hb hA.lt
      replace hbA := hbA.trans (hb.mono hbA.size)
      go_wp2_with fail
      refine hK.out _ _ (hHeld.go hb) (fun hHeld => ?_)
      clear hK K hb
      (try simp only [Act.put, List.setIfInBounds_toArray, List.set_cons_zero, List.set_cons_succ])
      refine wpAnyH_ready (rs := [4]) (by kernel_rfl) (by simp) ?_
      refine AllReadyH.cons rfl (fun K hK => ?_) AllReadyH.nil
      go_simp
      go_at_call 9
      refine (specSpotWas_any HX.out HE1.out).mono ?_
      rintro _ v17 ⟨rfl, hb⟩
      have sv17 := hb.size
      replace HE1 : Hid (Dc v17 (some ⟨b1, 0, none⟩) n n d) := (mono_dc _ _ _ _ : Mono _) _ _ HE1.out hb
      replace hA := hA.below hb hA.lt
      replace hbA := hbA.trans (hb.mono hbA.size)
      go_wp2_with fail
      refine hK.out _ _ (hHeld.go hb) (fun hHeld => ?_)
      clear hK K hb
      (try simp only [Act.put, List.setIfInBounds_toArray, List.set_cons_zero, List.set_cons_succ])
      refine wpAnyH_ready (rs := [6]) (by kernel_rfl) (by simp) ?_
      refine AllReadyH.cons rfl (fun K hK => ?_) AllReadyH.nil
      rw [if_pos (by kernel_rfl)]
      refine wp_store_row 27 (.tmp 6) (.tmp 18) rfl XS #[.int .i64 x, .int .i64 y, .int .i64 z] rfl rfl 27 _ hA (by kernel_rfl) rfl (by simp [Value.oneCell']) ?_
      have hbS : Below v4.heap.size v4 (v17.setRow XS #[.int .i64 x, .int .i64 y, .int .i64 z]) := below_row hbA hXS _
      have hRS : RowAt (v17.setRow XS #[.int .i64 x, .int .i64 y, .int .i64 z]) XS #[.int .i64 x, .int .i64 y, .int .i64 z] 27 := RowAt.setRow hA _
      refine hK.out _ _ ((hd_go HHB hbS).out) (fun hHeld => ?_)
      clear hK K
      (try simp only [Act.put])
      refine wpAnyH_done (by kernel_rfl) ?_ _
      refine NoPanic.normal ?_
      go_wp2_with fail
      go_meet
      exact ⟨XS, rfl, Nat.le_trans hXu hXS, (hd_row (hd_go HHB hbS) _ _ _ hRS).out⟩
  case rest =>
  obtain ⟨XS, rfl, hXS, HH0⟩ := hcut
  have HH : Hid (Hd w _ _ wc) := HH0
  clear HH0
  have sv18 : XS < wc.heap.size := (HH.out.row _ (List.Mem.head _)).lt
  generalize wc = v18 at HH sv18 ⊢
  have kS_0 : v18.cell? ⟨XS, 0, none⟩ = some (.int .i64 x) := RowAt.cell (HH.out.row _ (List.Mem.head _)) 0
  have kS_1 : v18.cell? ⟨XS, 1, none⟩ = some (.int .i64 y) := RowAt.cell (HH.out.row _ (List.Mem.head _)) 1
  have kS_2 : v18.cell? ⟨XS, 2, none⟩ = some (.int .i64 z) := RowAt.cell (HH.out.row _ (List.Mem.head _)) 2
  have kP_0 : v18.cell? ⟨w.heap.size + 1, 0, none⟩ = some (.int .i64 pb) := RowAt.cell (HH.out.row _ (List.Mem.tail _ (List.Mem.head _))) 0
  have kP_1 : v18.cell? ⟨w.heap.size + 1, 1, none⟩ = some (.int .i64 pc) := RowAt.cell (HH.out.row _ (List.Mem.tail _ (List.Mem.head _))) 1
  have kP_2 : v18.cell? ⟨w.heap.size + 1, 2, none⟩ = some (.int .i64 pa) := RowAt.cell (HH.out.row _ (List.Mem.tail _ (List.Mem.head _))) 2
  have kG_0 : v18.cell? ⟨w.heap.size, 0, none⟩ = some (.slice a n cap) := RowAt.cell (HH.out.row _ (List.Mem.tail _ (List.Mem.tail _ (List.Mem.head _)))) 0
  go_wp2_with fail
  refine (toDoc_any ((HH.out.fact _ (List.Mem.tail _ (List.Mem.head _))).2) hle).mono ?_
  rintro e v19 ⟨⟨b2, r2, rfl, ho2⟩, hb⟩
  have sv19 := hb.size
  replace HH := hd_go HH hb
  clear kS_0 kS_1 kS_2 kP_0 kP_1 kP_2 kG_0
  replace HH := hd_add HH (fun u => Dc u (some ⟨b2, 0, none⟩) n n d) (mono_dc _ _ _ _) ho2.dc
  have kS_0 : v19.cell? ⟨XS, 0, none⟩ = some (.int .i64 x) := RowAt.cell (HH.out.row _ (List.Mem.head _)) 0
  have kS_1 : v19.cell? ⟨XS, 1, none⟩ = some (.int .i64 y) := RowAt.cell (HH.out.row _ (List.Mem.head _)) 1
  have kS_2 : v19.cell? ⟨XS, 2, none⟩ = some (.int .i64 z) := RowAt.cell (HH.out.row _ (List.Mem.head _)) 2
  have kP_0 : v19.cell? ⟨w.heap.size + 1, 0, none⟩ = some (.int .i64 pb) := RowAt.cell (HH.out.row _ (List.Mem.tail _ (List.Mem.head _))) 0
  have kP_1 : v19.cell? ⟨w.heap.size + 1, 1, none⟩ = some (.int .i64 pc) := RowAt.cell (HH.out.row _ (List.Mem.tail _ (List.Mem.head _))) 1
  have kP_2 : v19.cell? ⟨w.heap.size + 1, 2, none⟩ = some (.int .i64 pa) := RowAt.cell (HH.out.row _ (List.Mem.tail _ (List.Mem.head _))) 2
  have kG_0 : v19.cell? ⟨w.heap.size, 0, none⟩ = some (.slice a n cap) := RowAt.cell (HH.out.row _ (List.Mem.tail _ (List.Mem.tail _ (List.Mem.head _)))) 0
  clear hb ho2
  go_upto_region 7 with fail
  replace HH := hd_box HH #[.slice (some ⟨b2, 0, none⟩) n n] 25
  clear kS_0 kS_1 kS_2 kP_0 kP_1 kP_2 kG_0
  have sv20 : v19.heap.size < (v19.alloc (.cells #[.slice (some ⟨b2, 0, none⟩) n n] 25)).heap.size := by simp
  generalize (v19.alloc (.cells #[.slice (some ⟨b2, 0, none⟩) n n] 25)) = v20 at HH sv20 ⊢
  obtain ⟨XV, hXV⟩ : ∃ X, v19.heap.size = X := ⟨_, rfl⟩
  rw [hXV] at HH sv20 ⊢
  have kV_0 : v20.cell? ⟨XV, 0, none⟩ = some (.slice (some ⟨b2, 0, none⟩) n n) := RowAt.cell (HH.out.row _ (List.Mem.head _)) 0
  have kS_0 : v20.cell? ⟨XS, 0, none⟩ = some (.int .i64 x) := RowAt.cell (HH.out.row _ (List.Mem.tail _ (List.Mem.head _))) 0
  have kS_1 : v20.cell? ⟨XS, 1, none⟩ = some (.int .i64 y) := RowAt.cell (HH.out.row _ (List.Mem.tail _ (List.Mem.head _))) 1
  have kS_2 : v20.cell? ⟨XS, 2, none⟩ = some (.int .i64 z) := RowAt.cell (HH.out.row _ (List.Mem.tail _ (List.Mem.head _))) 2
  have kP_0 : v20.cell? ⟨w.heap.size + 1, 0, none⟩ = some (.int .i64 pb) := RowAt.cell (HH.out.row _ (List.Mem.tail _ (List.Mem.tail _ (List.Mem.head _)))) 0
  have kP_1 : v20.cell? ⟨w.heap.size + 1, 1, none⟩ = some (.int .i64 pc) := RowAt.cell (HH.out.row _ (List.Mem.tail _ (List.Mem.tail _ (List.Mem.head _)))) 1
  have kP_2 : v20.cell? ⟨w.heap.size + 1, 2, none⟩ = some (.int .i64 pa) := RowAt.cell (HH.out.row _ (List.Mem.tail _ (List.Mem.tail _ (List.Mem.head _)))) 2
  have kG_0 : v20.cell? ⟨w.heap.size, 0, none⟩ = some (.slice a n cap) := RowAt.cell (HH.out.row _ (List.Mem.tail _ (List.Mem.tail _ (List.Mem.tail _ (List.Mem.head _))))) 0
  clear kV_0 kS_0 kS_1 kS_2 kP_0 kP_1 kP_2 kG_0
  go_cut [8] (fun sv wx => ∃ XI, sv = .pointer (some ⟨XI, 0, none⟩) ∧ v20.heap.size ≤ XI ∧ Hd w [(XI, #[.int .i64 x, .int .i64 y, .int .i64 z], 27), (XV, #[.slice (some ⟨b2, 0, none⟩) n n], 25), (XS, #[.int .i64 x, .int .i64 y, .int .i64 z], 27), (w.heap.size + 1, #[.int .i64 pb, .int .i64 pc, .int .i64 pa], 36), (w.heap.size, #[.slice a n cap], 35)] [fun u => Dc u (some ⟨b2, 0, none⟩) n n d, fun u => GlobE u, fun u => Dc u a n cap d] wx)
  case first =>
    refine wp_region_noPanic ?_
    refine wp_region_held_drew (S := fun w' => Hd w [(XV, #[.slice (some ⟨b2, 0, none⟩) n n], 25), (XS, #[.int .i64 x, .int .i64 y, .int .i64 z], 27), (w.heap.size + 1, #[.int .i64 pb, .int .i64 pc, .int .i64 pa], 36), (w.heap.size, #[.slice a n cap], 35)] [fun u => Dc u (some ⟨b2, 0, none⟩) n n d, fun u => GlobE u, fun u => Dc u a n cap d] w') (by kernel_rfl) (HH.out.go (Below.refl _ _).drew) (fun hHeld => ?_)
    clear HH
    have sv21 : v20.heap.size ≤ v20.drew.heap.size := Nat.le_refl _
    generalize v20.drew = v21 at hHeld sv21 ⊢
    refine take_at 0 21 (.agg #[.slice (some ⟨b2, 0, none⟩) n n]) rfl rfl (by kernel_rfl) (by kernel_rfl) (by kernel_rfl) (fun _ _ _ h => h) (yieldsIf_load_row (by kernel_rfl) 25 (.tmp 7) rfl (XV) rfl 25 #[.slice (some ⟨b2, 0, none⟩) n n] (0, 0) _ (fun w' h => h.row _ (List.Mem.head _)) Tryz.underlying25 rfl (by kernel_rfl)) hHeld ?_
    (try simp only [Act.put, List.setIfInBounds_toArray, List.set_cons_zero, List.set_cons_succ])
    refine take_at 1 22 (.agg #[.int .i64 pb, .int .i64 pc, .int .i64 pa]) rfl rfl (by kernel_rfl) (by kernel_rfl) (by kernel_rfl) (fun _ _ _ h => h) (yieldsIf_load_row (by kernel_rfl) 36 (.tmp 3) rfl (w.heap.size + 1) rfl 36 #[.int .i64 pb, .int .i64 pc, .int .i64 pa] (0, 0) _ (fun w' h => h.row _ (List.Mem.tail _ (List.Mem.tail _ (List.Mem.head _)))) Tryz.underlying36 rfl (by kernel_rfl)) hHeld ?_
    (try simp only [Act.put, List.setIfInBounds_toArray, List.set_cons_zero, List.set_cons_succ])
    refine wpAnyH_ready (rs := [2, 4]) (by kernel_rfl) (by simp) ?_
    refine AllReadyH.cons rfl (fun K hK => ?_) (AllReadyH.cons rfl (fun K hK => ?_) AllReadyH.nil)
    · go_simp
      go_at_call 15
      refine (toPlace_any pb pc pa _).mono ?_
      rintro _ v22 ⟨rfl, hb⟩
      have sv22 := hb.size
      go_wp2_with fail
      refine hK.out _ _ (hHeld.go hb) (fun hHeld => ?_)
      clear hK K hb
      (try simp only [Act.put, List.setIfInBounds_toArray, List.set_cons_zero, List.set_cons_succ])
      refine wpAnyH_ready (rs := [3, 4]) (by kernel_rfl) (by simp) ?_
      refine AllReadyH.cons rfl (fun K hK => ?_) (AllReadyH.cons rfl (fun K hK => ?_) AllReadyH.nil)
      · go_simp
        go_at_call 8
        refine (implSpotWas_any HX.out ((hHeld.fact _ (List.Mem.head _)).2) ((hHeld.fact _ (List.Mem.tail _ (List.Mem.head _))).2)).mono ?_
        rintro _ v23 ⟨rfl, hb⟩
        have sv23 := hb.size
        go_wp2_with fail
        refine hK.out _ _ (hHeld.go hb) (fun hHeld => ?_)
        clear hK K hb
        (try simp only [Act.put, List.setIfInBounds_toArray, List.set_cons_zero, List.set_cons_succ])
        refine wpAnyH_ready (rs := [4]) (by kernel_rfl) (by simp) ?_
        refine AllReadyH.cons rfl (fun K hK => ?_) AllReadyH.nil
        go_simp
        have HHB : Hid (Hd w _ _ v23) := hHeld
        have hbA : Below v23.heap.size v23 (v23.alloc (.cells #[.int .i64 0, .int .i64 0, .int .i64 0] 27)) := (Below.refl _ _).alloc (Nat.le_refl _) _
        have hA : RowAt (v23.alloc (.cells #[.int .i64 0, .int .i64 0, .int .i64 0] 27)) v23.heap.size #[.int .i64 0, .int .i64 0, .int .i64 0] 27 := rowAt_new _ _ _
        have sv24 : v23.heap.size < (v23.alloc (.cells #[.int .i64 0, .int .i64 0, .int .i64 0] 27)).heap.size := by simp
        have hXu : v20.heap.size ≤ v23.heap.size := by omega
        refine hK.out _ _ (hHeld.go hbA) (fun hHeld => ?_)
        clear hK K
        (try simp only [Act.put, List.setIfInBounds_toArray, List.set_cons_zero, List.set_cons_succ])
        generalize (v23.alloc (.cells #[.int .i64 0, .int .i64 0, .int .i64 0] 27)) = v24 at hHeld hbA hA sv24 ⊢
        obtain ⟨XI, heXI⟩ : ∃ X, v23.heap.size = X := ⟨_, rfl⟩
        have hXI : v23.heap.size ≤ XI := by omega
        rw [heXI] at hA ⊢
        clear heXI
        refine wpAnyH_ready (rs := [5]) (by kernel_rfl) (by simp) ?_
        refine AllReadyH.cons rfl (fun K hK => ?_) AllReadyH.nil
        rw [if_pos (by kernel_rfl)]
        refine wp_store_row 27 (.tmp 8) (.tmp 24) rfl XI #[.int .i64 x, .int .i64 y, .int .i64 z] rfl rfl 27 _ hA (by kernel_rfl) rfl (by simp [Value.oneCell']) ?_
        have hbS : Below v23.heap.size v23 (v24.setRow XI #[.int .i64 x, .int .i64 y, .int .i64 z]) := below_row hbA hXI _
        have hRS : RowAt (v24.setRow XI #[.int .i64 x, .int .i64 y, .int .i64 z]) XI #[.int .i64 x, .int .i64 y, .int .i64 z] 27 := RowAt.setRow hA _
        refine hK.out _ _ ((hd_go HHB hbS).out) (fun hHeld => ?_)
        clear hK K
        (try simp only [Act.put])
        refine wpAnyH_done (by kernel_rfl) ?_ _
        refine NoPanic.normal ?_
        go_wp2_with fail
        go_meet
        exact ⟨XI, rfl, Nat.le_trans hXu hXI, (hd_row (hd_go HHB hbS) _ _ _ hRS).out⟩
      · go_simp
        have HHB : Hid (Hd w _ _ v22) := hHeld
        have hbA : Below v22.heap.size v22 (v22.alloc (.cells #[.int .i64 0, .int .i64 0, .int .i64 0] 27)) := (Below.refl _ _).alloc (Nat.le_refl _) _
        have hA : RowAt (v22.alloc (.cells #[.int .i64 0, .int .i64 0, .int .i64 0] 27)) v22.heap.size #[.int .i64 0, .int .i64 0, .int .i64 0] 27 := rowAt_new _ _ _
        have sv25 : v22.heap.size < (v22.alloc (.cells #[.int .i64 0, .int .i64 0, .int .i64 0] 27)).heap.size := by simp
        have hXu : v20.heap.size ≤ v22.heap.size := by omega
        refine hK.out _ _ (hHeld.go hbA) (fun hHeld => ?_)
        clear hK K
        (try simp only [Act.put, List.setIfInBounds_toArray, List.set_cons_zero, List.set_cons_succ])
        generalize (v22.alloc (.cells #[.int .i64 0, .int .i64 0, .int .i64 0] 27)) = v25 at hHeld hbA hA sv25 ⊢
        obtain ⟨XI, heXI⟩ : ∃ X, v22.heap.size = X := ⟨_, rfl⟩
        have hXI : v22.heap.size ≤ XI := by omega
        rw [heXI] at hA ⊢
        clear heXI
        refine wpAnyH_ready (rs := [3]) (by kernel_rfl) (by simp) ?_
        refine AllReadyH.cons rfl (fun K hK => ?_) AllReadyH.nil
        go_simp
        go_at_call 8
        refine (implSpotWas_any HX.out ((hHeld.fact _ (List.Mem.head _)).2) ((hHeld.fact _ (List.Mem.tail _ (List.Mem.head _))).2)).mono ?_
        rintro _ v26 ⟨rfl, hb⟩
        have sv26 := hb.size
        replace hA := hA.below hb hA.lt
        replace hbA := hbA.trans (hb.mono hbA.size)
        go_wp2_with fail
        refine hK.out _ _ (hHeld.go hb) (fun hHeld => ?_)
        clear hK K hb
        (try simp only [Act.put, List.setIfInBounds_toArray, List.set_cons_zero, List.set_cons_succ])
        refine wpAnyH_ready (rs := [5]) (by kernel_rfl) (by simp) ?_
        refine AllReadyH.cons rfl (fun K hK => ?_) AllReadyH.nil
        rw [if_pos (by kernel_rfl)]
        refine wp_store_row 27 (.tmp 8) (.tmp 24) rfl XI #[.int .i64 x, .int .i64 y, .int .i64 z] rfl rfl 27 _ hA (by kernel_rfl) rfl (by simp [Value.oneCell']) ?_
        have hbS : Below v22.heap.size v22 (v26.setRow XI #[.int .i64 x, .int .i64 y, .int .i64 z]) := below_row hbA hXI _
        have hRS : RowAt (v26.setRow XI #[.int .i64 x, .int .i64 y, .int .i64 z]) XI #[.int .i64 x, .int .i64 y, .int .i64 z] 27 := RowAt.setRow hA _
        refine hK.out _ _ ((hd_go HHB hbS).out) (fun hHeld => ?_)
        clear hK K
        (try simp only [Act.put])
        refine wpAnyH_done (by kernel_rfl) ?_ _
        refine NoPanic.normal ?_
        go_wp2_with fail
        go_meet
        exact ⟨XI, rfl, Nat.le_trans hXu hXI, (hd_row (hd_go HHB hbS) _ _ _ hRS).out⟩
    · go_simp
      have HHB : Hid (Hd w _ _ v21) := hHeld
      have hbA : Below v21.heap.size v21 (v21.alloc (.cells #[.int .i64 0, .int .i64 0, .int .i64 0] 27)) := (Below.refl _ _).alloc (Nat.le_refl _) _
      have hA : RowAt (v21.alloc (.cells #[.int .i64 0, .int .i64 0, .int .i64 0] 27)) v21.heap.size #[.int .i64 0, .int .i64 0, .int .i64 0] 27 := rowAt_new _ _ _
      have sv27 : v21.heap.size < (v21.alloc (.cells #[.int .i64 0, .int .i64 0, .int .i64 0] 27)).heap.size := by simp
      have hXu : v20.heap.size ≤ v21.heap.size := by omega
      refine hK.out _ _ (hHeld.go hbA) (fun hHeld => ?_)
      clear hK K
      (try simp only [Act.put, List.setIfInBounds_toArray, List.set_cons_zero, List.set_cons_succ])
      generalize (v21.alloc (.cells #[.int .i64 0, .int .i64 0, .int .i64 0] 27)) = v27 at hHeld hbA hA sv27 ⊢
      obtain ⟨XI, heXI⟩ : ∃ X, v21.heap.size = X := ⟨_, rfl⟩
      have hXI : v21.heap.size ≤ XI := by omega
      rw [heXI] at hA ⊢
      clear heXI
      refine wpAnyH_ready (rs := [2]) (by kernel_rfl) (by simp) ?_
      refine AllReadyH.cons rfl (fun K hK => ?_) AllReadyH.nil
      go_simp
      go_at_call 15
      refine (toPlace_any pb pc pa _).mono ?_
      rintro _ v28 ⟨rfl, hb⟩
      have sv28 := hb.size
      replace hA := hA.below hb hA.lt
      replace hbA := hbA.trans (hb.mono hbA.size)
      go_wp2_with fail
      refine hK.out _ _ (hHeld.go hb) (fun hHeld => ?_)
      clear hK K hb
      (try simp only [Act.put, List.setIfInBounds_toArray, List.set_cons_zero, List.set_cons_succ])
      refine wpAnyH_ready (rs := [3]) (by kernel_rfl) (by simp) ?_
      refine AllReadyH.cons rfl (fun K hK => ?_) AllReadyH.nil
      go_simp
      go_at_call 8
      refine (implSpotWas_any HX.out ((hHeld.fact _ (List.Mem.head _)).2) ((hHeld.fact _ (List.Mem.tail _ (List.Mem.head _))).2)).mono ?_
      rintro _ v29 ⟨rfl, hb⟩
      have sv29 := hb.size
      replace hA := hA.below hb hA.lt
      replace hbA := hbA.trans (hb.mono hbA.size)
      go_wp2_with fail
      refine hK.out _ _ (hHeld.go hb) (fun hHeld => ?_)
      clear hK K hb
      (try simp only [Act.put, List.setIfInBounds_toArray, List.set_cons_zero, List.set_cons_succ])
      refine wpAnyH_ready (rs := [5]) (by kernel_rfl) (by simp) ?_
      refine AllReadyH.cons rfl (fun K hK => ?_) AllReadyH.nil
      rw [if_pos (by kernel_rfl)]
      refine wp_store_row 27 (.tmp 8) (.tmp 24) rfl XI #[.int .i64 x, .int .i64 y, .int .i64 z] rfl rfl 27 _ hA (by kernel_rfl) rfl (by simp [Value.oneCell']) ?_
      have hbS : Below v21.heap.size v21 (v29.setRow XI #[.int .i64 x, .int .i64 y, .int .i64 z]) := below_row hbA hXI _
      have hRS : RowAt (v29.setRow XI #[.int .i64 x, .int .i64 y, .int .i64 z]) XI #[.int .i64 x, .int .i64 y, .int .i64 z] 27 := RowAt.setRow hA _
      refine hK.out _ _ ((hd_go HHB hbS).out) (fun hHeld => ?_)
      clear hK K
      (try simp only [Act.put])
      refine wpAnyH_done (by kernel_rfl) ?_ _
      refine NoPanic.normal ?_
      go_wp2_with fail
      go_meet
      exact ⟨XI, rfl, Nat.le_trans hXu hXI, (hd_row (hd_go HHB hbS) _ _ _ hRS).out⟩
  case rest =>
  obtain ⟨XI, rfl, hXI, HH0⟩ := hcut
  have HH : Hid (Hd w _ _ wc) := HH0
  clear HH0
  have sv30 : XI < wc.heap.size := (HH.out.row _ (List.Mem.head _)).lt
  generalize wc = v30 at HH sv30 ⊢
  have kI_0 : v30.cell? ⟨XI, 0, none⟩ = some (.int .i64 x) := RowAt.cell (HH.out.row _ (List.Mem.head _)) 0
  have kI_1 : v30.cell? ⟨XI, 1, none⟩ = some (.int .i64 y) := RowAt.cell (HH.out.row _ (List.Mem.head _)) 1
  have kI_2 : v30.cell? ⟨XI, 2, none⟩ = some (.int .i64 z) := RowAt.cell (HH.out.row _ (List.Mem.head _)) 2
  have kV_0 : v30.cell? ⟨XV, 0, none⟩ = some (.slice (some ⟨b2, 0, none⟩) n n) := RowAt.cell (HH.out.row _ (List.Mem.tail _ (List.Mem.head _))) 0
  have kS_0 : v30.cell? ⟨XS, 0, none⟩ = some (.int .i64 x) := RowAt.cell (HH.out.row _ (List.Mem.tail _ (List.Mem.tail _ (List.Mem.head _)))) 0
  have kS_1 : v30.cell? ⟨XS, 1, none⟩ = some (.int .i64 y) := RowAt.cell (HH.out.row _ (List.Mem.tail _ (List.Mem.tail _ (List.Mem.head _)))) 1
  have kS_2 : v30.cell? ⟨XS, 2, none⟩ = some (.int .i64 z) := RowAt.cell (HH.out.row _ (List.Mem.tail _ (List.Mem.tail _ (List.Mem.head _)))) 2
  have kP_0 : v30.cell? ⟨w.heap.size + 1, 0, none⟩ = some (.int .i64 pb) := RowAt.cell (HH.out.row _ (List.Mem.tail _ (List.Mem.tail _ (List.Mem.tail _ (List.Mem.head _))))) 0
  have kP_1 : v30.cell? ⟨w.heap.size + 1, 1, none⟩ = some (.int .i64 pc) := RowAt.cell (HH.out.row _ (List.Mem.tail _ (List.Mem.tail _ (List.Mem.tail _ (List.Mem.head _))))) 1
  have kP_2 : v30.cell? ⟨w.heap.size + 1, 2, none⟩ = some (.int .i64 pa) := RowAt.cell (HH.out.row _ (List.Mem.tail _ (List.Mem.tail _ (List.Mem.tail _ (List.Mem.head _))))) 2
  have kG_0 : v30.cell? ⟨w.heap.size, 0, none⟩ = some (.slice a n cap) := RowAt.cell (HH.out.row _ (List.Mem.tail _ (List.Mem.tail _ (List.Mem.tail _ (List.Mem.tail _ (List.Mem.head _)))))) 0
  clear kI_0 kI_1 kI_2 kV_0 kS_0 kS_1 kS_2 kP_0 kP_1 kP_2 kG_0
  have kI_0 : v30.cell? ⟨XI, 0, none⟩ = some (.int .i64 x) := RowAt.cell (HH.out.row _ (List.Mem.head _)) 0
  have kI_1 : v30.cell? ⟨XI, 1, none⟩ = some (.int .i64 y) := RowAt.cell (HH.out.row _ (List.Mem.head _)) 1
  have kI_2 : v30.cell? ⟨XI, 2, none⟩ = some (.int .i64 z) := RowAt.cell (HH.out.row _ (List.Mem.head _)) 2
  have kS_0 : v30.cell? ⟨XS, 0, none⟩ = some (.int .i64 x) := RowAt.cell (HH.out.row _ (List.Mem.tail _ (List.Mem.tail _ (List.Mem.head _)))) 0
  have kS_1 : v30.cell? ⟨XS, 1, none⟩ = some (.int .i64 y) := RowAt.cell (HH.out.row _ (List.Mem.tail _ (List.Mem.tail _ (List.Mem.head _)))) 1
  have kS_2 : v30.cell? ⟨XS, 2, none⟩ = some (.int .i64 z) := RowAt.cell (HH.out.row _ (List.Mem.tail _ (List.Mem.tail _ (List.Mem.head _)))) 2
  go_wp2_with fail
  refine (eqPlace_same x y z _).mono ?_
  rintro e v31 ⟨rfl, hb⟩
  have sv31 := hb.size
  replace HH := hd_go HH hb
  clear kI_0 kI_1 kI_2 kS_0 kS_1 kS_2
  have kI_0 : v31.cell? ⟨XI, 0, none⟩ = some (.int .i64 x) := RowAt.cell (HH.out.row _ (List.Mem.head _)) 0
  have kI_1 : v31.cell? ⟨XI, 1, none⟩ = some (.int .i64 y) := RowAt.cell (HH.out.row _ (List.Mem.head _)) 1
  have kI_2 : v31.cell? ⟨XI, 2, none⟩ = some (.int .i64 z) := RowAt.cell (HH.out.row _ (List.Mem.head _)) 2
  have kS_0 : v31.cell? ⟨XS, 0, none⟩ = some (.int .i64 x) := RowAt.cell (HH.out.row _ (List.Mem.tail _ (List.Mem.tail _ (List.Mem.head _)))) 0
  have kS_1 : v31.cell? ⟨XS, 1, none⟩ = some (.int .i64 y) := RowAt.cell (HH.out.row _ (List.Mem.tail _ (List.Mem.tail _ (List.Mem.head _)))) 1
  have kS_2 : v31.cell? ⟨XS, 2, none⟩ = some (.int .i64 z) := RowAt.cell (HH.out.row _ (List.Mem.tail _ (List.Mem.tail _ (List.Mem.head _)))) 2
  clear hb
  clear kI_0 kI_1 kI_2 kS_0 kS_1 kS_2
  go_upto_region 10 with fail
  refine wp_region_noPanic ?_
  refine wp_region_held_drew (S := fun w' => Hd w [(XI, #[.int .i64 x, .int .i64 y, .int .i64 z], 27), (XV, #[.slice (some ⟨b2, 0, none⟩) n n], 25), (XS, #[.int .i64 x, .int .i64 y, .int .i64 z], 27), (w.heap.size + 1, #[.int .i64 pb, .int .i64 pc, .int .i64 pa], 36), (w.heap.size, #[.slice a n cap], 35)] [fun u => Dc u (some ⟨b2, 0, none⟩) n n d, fun u => GlobE u, fun u => Dc u a n cap d] w') (by kernel_rfl) (HH.out.go (Below.refl _ _).drew) (fun hHeld => ?_)
  clear HH
  have sv32 : v31.heap.size ≤ v31.drew.heap.size := Nat.le_refl _
  generalize v31.drew = v32 at hHeld sv32 ⊢
  refine take_at 0 29 (.agg #[.slice (some ⟨b2, 0, none⟩) n n]) rfl rfl (by kernel_rfl) (by kernel_rfl) (by kernel_rfl) (fun _ _ _ h => h) (yieldsIf_load_row (by kernel_rfl) 25 (.tmp 7) rfl (XV) rfl 25 #[.slice (some ⟨b2, 0, none⟩) n n] (0, 0) _ (fun w' h => h.row _ (List.Mem.tail _ (List.Mem.head _))) Tryz.underlying25 rfl (by kernel_rfl)) hHeld ?_
  (try simp only [Act.put, List.setIfInBounds_toArray, List.set_cons_zero, List.set_cons_succ])
  refine take_at 1 30 (.agg #[.slice a n cap]) rfl rfl (by kernel_rfl) (by kernel_rfl) (by kernel_rfl) (fun _ _ _ h => h) (yieldsIf_load_row (by kernel_rfl) 35 (.tmp 2) rfl (w.heap.size) rfl 35 #[.slice a n cap] (0, 0) _ (fun w' h => h.row _ (List.Mem.tail _ (List.Mem.tail _ (List.Mem.tail _ (List.Mem.tail _ (List.Mem.head _)))))) Tryz.underlying35 rfl (by kernel_rfl)) hHeld ?_
  (try simp only [Act.put, List.setIfInBounds_toArray, List.set_cons_zero, List.set_cons_succ])
  refine wpAnyH_ready (rs := [2]) (by kernel_rfl) (by simp) ?_
  refine AllReadyH.cons rfl (fun K hK => ?_) AllReadyH.nil
  go_simp
  go_at_call 14
  refine (toDoc_any ((hHeld.fact _ (List.Mem.tail _ (List.Mem.tail _ (List.Mem.head _)))).2) hle).mono ?_
  rintro _ v33 ⟨⟨b3, r3, rfl, ho3⟩, hb⟩
  have sv33 := hb.size
  have HE3 : Hid (Dc v33 (some ⟨b3, 0, none⟩) n n d) := (ho3.dc : Dc v33 (some ⟨b3, 0, none⟩) n n d)
  go_wp2_with fail
  refine hK.out _ _ (hHeld.go hb) (fun hHeld => ?_)
  clear hK K hb
  (try simp only [Act.put, List.setIfInBounds_toArray, List.set_cons_zero, List.set_cons_succ])
  refine wpAnyH_ready (rs := [3]) (by kernel_rfl) (by simp) ?_
  refine AllReadyH.cons rfl (fun K hK => ?_) AllReadyH.nil
  go_simp
  go_at_call 17
  refine (eqDoc_same ((hHeld.fact _ (List.Mem.head _)).2) HE3.out).mono ?_
  rintro _ v34 ⟨rfl, hb⟩
  have sv34 := hb.size
  replace HE3 : Hid (Dc v34 (some ⟨b3, 0, none⟩) n n d) := (mono_dc _ _ _ _ : Mono _) _ _ HE3.out hb
  go_wp2_with fail
  refine hK.out _ _ (hHeld.go hb) (fun hHeld => ?_)
  clear hK K hb
  (try simp only [Act.put, List.setIfInBounds_toArray, List.set_cons_zero, List.set_cons_succ])
  refine take_at 4 33 (.bool false) rfl rfl (by kernel_rfl) (by kernel_rfl) (by kernel_rfl) (fun _ _ _ h => h) (Or.inl ⟨by kernel_rfl, fun w' hS' => by go_simp⟩) hHeld ?_
  (try simp only [Act.put, List.setIfInBounds_toArray, List.set_cons_zero, List.set_cons_succ])
  refine wpAnyH_done (by kernel_rfl) ?_ _
  refine NoPanic.normal ?_
  have HH : Hid (Hd w _ _ v34) := hHeld
  clear hHeld
  replace HH := hd_add HH (fun u => Dc u (some ⟨b3, 0, none⟩) n n d) (mono_dc _ _ _ _) HE3.out
  clear HE3
  go_wp2_with fail
  go_ret
  exact ⟨rfl, HH.out.below⟩
end Go.Proofs.YtccoeachemnbnaaGreatDoor
