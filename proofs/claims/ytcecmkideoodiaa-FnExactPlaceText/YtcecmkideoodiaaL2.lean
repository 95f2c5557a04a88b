import Derived.Test.YtcecmkideoodiaaL1
import Derived.Test.YtcecmkideoodiaaBA5
import Derived.Test.YtcecmkideoodiaaBA6
namespace Go.Proofs.Ytcecmkideoodiaa
open Go.RowKit

theorem mono_own (B : Nat) (v : Value) (l : List Sg) : Mono fun u => Own u B v l := fun _ _ h hb => own_below h hb
theorem mono_bel (B : Nat) (b : World) (hB : B ≤ b.heap.size) : Mono fun u => Below B b u := fun _ _ h hb => h.trans (hb.mono (by have := h.size; omega))
theorem mono_down (B E : Nat) (v : Value) (r : List Rb) (d : List Bl) : Mono fun u => E ≤ u.heap.size ∧ DocOwn u B E v r d := fun _ _ h hb => ⟨Nat.le_trans h.1 hb.size, h.2.below h.1 hb⟩
theorem plT_small (d : List Bl) (pb pc pa : Int) : ((plT d pb pc pa).getD []).length ≤ 24 := by
  cases h : plT d pb pc pa with
  | none => simp
  | some s =>
    obtain ⟨_, -, -, hbo, hti, -, -⟩ := plT_parts h
    exact textIn_small hbo hti
set_option maxRecDepth 100000 in
set_option maxHeartbeats 16000000 in
theorem lawXPlaceText_walk (a : Option Addr) (n cap : Nat) (d : List Bl) (pb pc pa : Int) (w : World) (h : Dc w a n cap d) (_ : (Lit.int .i64 pb).wf = true ∧ (Lit.int .i64 pc).wf = true ∧ (Lit.int .i64 pa).wf = true) :
    Calls Try.prog 6 #[.agg #[.slice a n cap], .agg #[.int .i64 pb, .int .i64 pc, .int .i64 pa]] w fun e w' => e = .returned (.bool true) ∧ Below w.heap.size w w' := by
  have HH := hd_add (hd_start w) (fun u => Dc u a n cap d) (mono_dc _ _ _ _) h
  clear h
  have h24 := plT_small d pb pc pa
  obtain ⟨t0, HT0⟩ : ∃ t0, Hid ((plT d pb pc pa).getD [] = t0) := ⟨_, rfl⟩
  rw [HT0.out] at h24
  obtain ⟨N, HNN⟩ : ∃ N, Hid (t0.length = N) := ⟨_, rfl⟩
  rw [HNN.out] at h24
  have IT : Hid (∀ {a : Option Addr} {n c : Nat} {u : World}, Dc u a n c d → Calls Try.prog 10 #[.agg #[.slice a n c], .agg #[.int .i64 pb, .int .i64 pc, .int .i64 pa]] u fun e w' => (∃ p q, e = .returned (.slice p N q) ∧ Own w' u.heap.size (.slice p N q) t0) ∧ Below u.heap.size u w') := fun hu => by
    refine (implPlaceText_any (pb := pb) (pc := pc) (pa := pa) hu).mono ?_
    rintro e w' ⟨⟨p, m, q, rfl, ho⟩, hb⟩
    rw [HT0.out] at ho
    have e := ho.len
    rw [HNN.out] at e
    subst e
    exact ⟨⟨p, q, rfl, ho⟩, hb⟩
  have ST : Hid (∀ {a : Option Addr} {n c : Nat} {u : World}, Dc u a n c d → Calls Try.prog 13 #[.agg #[.slice a n c], .agg #[.int .i64 pb, .int .i64 pc, .int .i64 pa]] u fun e w' => (∃ p q, e = .returned (.slice p N q) ∧ Own w' u.heap.size (.slice p N q) t0) ∧ Below u.heap.size u w') := fun hu => by
    refine (specPlaceText_any (pb := pb) (pc := pc) (pa := pa) hu).mono ?_
    rintro e w' ⟨⟨p, m, q, rfl, ho⟩, hb⟩
    rw [HT0.out] at ho
    have e := ho.len
    rw [HNN.out] at e
    subst e
    exact ⟨⟨p, q, rfl, ho⟩, hb⟩
  clear HT0
  go_enter Try.func6, Try.ntmps6
  go_upto_region 1 with fail
  replace HH := hd_box HH #[.slice a n cap] 44
  replace HH := hd_box HH #[.int .i64 pb, .int .i64 pc, .int .i64 pa] 45
  have ev2 : (w.alloc (.cells #[.slice a n cap] 44)).heap.size = w.heap.size + 1 := by simp
  rw [ev2] at HH
  have sv2 : w.heap.size + 1 < ((w.alloc (.cells #[.slice a n cap] 44)).alloc (.cells #[.int .i64 pb, .int .i64 pc, .int .i64 pa] 45)).heap.size := by simp
  generalize ((w.alloc (.cells #[.slice a n cap] 44)).alloc (.cells #[.int .i64 pb, .int .i64 pc, .int .i64 pa] 45)) = v2 at HH sv2 ⊢
  clear ev2
  have kP_0 : v2.cell? ⟨w.heap.size + 1, 0, none⟩ = some (.int .i64 pb) := RowAt.cell (HH.out.row _ (List.Mem.head _)) 0
  have kP_1 : v2.cell? ⟨w.heap.size + 1, 1, none⟩ = some (.int .i64 pc) := RowAt.cell (HH.out.row _ (List.Mem.head _)) 1
  have kP_2 : v2.cell? ⟨w.heap.size + 1, 2, none⟩ = some (.int .i64 pa) := RowAt.cell (HH.out.row _ (List.Mem.head _)) 2
  have kG_0 : v2.cell? ⟨w.heap.size, 0, none⟩ = some (.slice a n cap) := RowAt.cell (HH.out.row _ (List.Mem.tail _ (List.Mem.head _))) 0
  go_wp2_with fail
  refine (szDoc_any ((HH.out.fact _ (List.Mem.head _)).2)).mono ?_
  rintro e v3 ⟨(rfl | ⟨hle, rfl⟩), hb⟩
  · go_wp2_with fail
    go_ret
    exact ⟨rfl, (hd_go HH hb).out.below⟩
  replace HH := hd_go HH hb
  clear kP_0 kP_1 kP_2 kG_0
  have kP_0 : v3.cell? ⟨w.heap.size + 1, 0, none⟩ = some (.int .i64 pb) := RowAt.cell (HH.out.row _ (List.Mem.head _)) 0
  have kP_1 : v3.cell? ⟨w.heap.size + 1, 1, none⟩ = some (.int .i64 pc) := RowAt.cell (HH.out.row _ (List.Mem.head _)) 1
  have kP_2 : v3.cell? ⟨w.heap.size + 1, 2, none⟩ = some (.int .i64 pa) := RowAt.cell (HH.out.row _ (List.Mem.head _)) 2
  have kG_0 : v3.cell? ⟨w.heap.size, 0, none⟩ = some (.slice a n cap) := RowAt.cell (HH.out.row _ (List.Mem.tail _ (List.Mem.head _))) 0
  clear hb
  have n0 : ¬ (1048576 - (d.length : Int) - (totD d : Int)) < 0 := by omega
  go_upto_region 5 with fail
  clear kP_0 kP_1 kP_2 kG_0
  refine wp_region_noPanic ?_
  refine wp_region_held_drew (S := fun w' => Hd w [(w.heap.size + 1, #[.int .i64 pb, .int .i64 pc, .int .i64 pa], 45), (w.heap.size, #[.slice a n cap], 44)] [fun u => Dc u a n cap d] w') (by kernel_rfl) (HH.out.go (Below.refl _ _).drew) (fun hHeld => ?_)
  clear HH
  have sv4 : v3.heap.size ≤ v3.drew.heap.size := Nat.le_refl _
  generalize v3.drew = v4 at hHeld sv4 ⊢
  refine take_at 0 18 (.agg #[.slice a n cap]) rfl rfl (by kernel_rfl) (by kernel_rfl) (by kernel_rfl) (fun _ _ _ h => h) (yieldsIf_load_row (by kernel_rfl) 44 (.tmp 2) rfl (w.heap.size) rfl 44 #[.slice a n cap] (0, 0) _ (fun w' h => h.row _ (List.Mem.tail _ (List.Mem.head _))) Try.underlying44 rfl (by kernel_rfl)) hHeld ?_
  (try simp only [Act.put, List.setIfInBounds_toArray, List.set_cons_zero, List.set_cons_succ])
  refine take_at 2 20 (.agg #[.int .i64 pb, .int .i64 pc, .int .i64 pa]) rfl rfl (by kernel_rfl) (by kernel_rfl) (by kernel_rfl) (fun _ _ _ h => h) (yieldsIf_load_row (by kernel_rfl) 45 (.tmp 3) rfl (w.heap.size + 1) rfl 45 #[.int .i64 pb, .int .i64 pc, .int .i64 pa] (0, 0) _ (fun w' h => h.row _ (List.Mem.head _)) Try.underlying45 rfl (by kernel_rfl)) hHeld ?_
  (try simp only [Act.put, List.setIfInBounds_toArray, List.set_cons_zero, List.set_cons_succ])
  refine wpAnyH_ready (rs := [1]) (by kernel_rfl) (by simp) ?_
  refine AllReadyH.cons rfl (fun K hK => ?_) AllReadyH.nil
  go_simp
  go_at_call 15
  refine (toDoc_any ((hHeld.fact _ (List.Mem.head _)).2) hle).mono ?_
  rintro _ v5 ⟨⟨b1, r1, rfl, ho1⟩, hb⟩
  have sv5 := hb.size
  have HE1 : Hid (Dc v5 (some ⟨b1, 0, none⟩) n n d) := ho1.dc
  go_wp2_with fail
  refine hK.out _ _ (hHeld.go hb) (fun hHeld => ?_)
  clear hK K hb
  (try simp only [Act.put, List.setIfInBounds_toArray, List.set_cons_zero, List.set_cons_succ])
  refine wpAnyH_ready (rs := [3]) (by kernel_rfl) (by simp) ?_
  refine AllReadyH.cons rfl (fun K hK => ?_) AllReadyH.nil
  go_simp
  go_at_call 16
  refine (toPlace_any pb pc pa _).mono ?_
  rintro _ v6 ⟨rfl, hb⟩
  have sv6 := hb.size
  replace HE1 : Hid (Dc v6 (some ⟨b1, 0, none⟩) n n d) := (mono_dc _ _ _ _ : Mono _) _ _ HE1.out hb
  go_wp2_with fail
  refine hK.out _ _ (hHeld.go hb) (fun hHeld => ?_)
  clear hK K hb
  (try simp only [Act.put, List.setIfInBounds_toArray, List.set_cons_zero, List.set_cons_succ])
  refine wpAnyH_ready (rs := [4]) (by kernel_rfl) (by simp) ?_
  refine AllReadyH.cons rfl (fun K hK => ?_) AllReadyH.nil
  go_simp
  go_at_call 13
  refine (ST.out HE1.out).mono ?_
  rintro _ v7 ⟨⟨p1, q1, rfl, ho⟩, hb⟩
  have sv7 := hb.size
  replace HE1 : Hid (Dc v7 (some ⟨b1, 0, none⟩) n n d) := (mono_dc _ _ _ _ : Mono _) _ _ HE1.out hb
  have HT : Hid (Txt v7 p1 N q1 t0) := Own.txt ho
  go_wp2_with fail
  refine hK.out _ _ (hHeld.go hb) (fun hHeld => ?_)
  clear hK K hb
  (try simp only [Act.put, List.setIfInBounds_toArray, List.set_cons_zero, List.set_cons_succ])
  refine take_at 5 6 (.slice p1 N q1) rfl rfl (by kernel_rfl) (by kernel_rfl) (by kernel_rfl) (fun _ _ _ h => h) (Or.inl ⟨by kernel_rfl, fun w' hS' => by go_simp⟩) hHeld ?_
  (try simp only [Act.put, List.setIfInBounds_toArray, List.set_cons_zero, List.set_cons_succ])
  refine wpAnyH_done (by kernel_rfl) ?_ _
  refine NoPanic.normal ?_
  have HH : Hid (Hd w _ _ v7) := hHeld
  clear hHeld
  replace HH := hd_add HH (fun u => Dc u (some ⟨b1, 0, none⟩) n n d) (mono_dc _ _ _ _) HE1.out
  clear HE1
  replace HH := hd_add HH (fun u => Txt u p1 N q1 t0) (mono_txt _ _ _ _) HT.out
  clear HT
  have kP_0 : v7.cell? ⟨w.heap.size + 1, 0, none⟩ = some (.int .i64 pb) := RowAt.cell (HH.out.row _ (List.Mem.head _)) 0
  have kP_1 : v7.cell? ⟨w.heap.size + 1, 1, none⟩ = some (.int .i64 pc) := RowAt.cell (HH.out.row _ (List.Mem.head _)) 1
  have kP_2 : v7.cell? ⟨w.heap.size + 1, 2, none⟩ = some (.int .i64 pa) := RowAt.cell (HH.out.row _ (List.Mem.head _)) 2
  have kG_0 : v7.cell? ⟨w.heap.size, 0, none⟩ = some (.slice a n cap) := RowAt.cell (HH.out.row _ (List.Mem.tail _ (List.Mem.head _))) 0
  clear kP_0 kP_1 kP_2 kG_0
  have HA := HH
  replace HH := hd_add HH (fun u => Below v7.heap.size v7 u) (mono_bel _ _ (Nat.le_refl _)) (Below.refl _ _)
  have kP_0 : v7.cell? ⟨w.heap.size + 1, 0, none⟩ = some (.int .i64 pb) := RowAt.cell (HH.out.row _ (List.Mem.head _)) 0
  have kP_1 : v7.cell? ⟨w.heap.size + 1, 1, none⟩ = some (.int .i64 pc) := RowAt.cell (HH.out.row _ (List.Mem.head _)) 1
  have kP_2 : v7.cell? ⟨w.heap.size + 1, 2, none⟩ = some (.int .i64 pa) := RowAt.cell (HH.out.row _ (List.Mem.head _)) 2
  have kG_0 : v7.cell? ⟨w.heap.size, 0, none⟩ = some (.slice a n cap) := RowAt.cell (HH.out.row _ (List.Mem.tail _ (List.Mem.head _))) 0
  go_wp2_with fail
  refine (toDoc_any ((HH.out.fact _ (List.Mem.tail _ (List.Mem.tail _ (List.Mem.tail _ (List.Mem.head _))))).2) hle).mono ?_
  rintro e v8 ⟨⟨b2, r2, rfl, ho2⟩, hb⟩
  have sv8 := hb.size
  replace HH := hd_go HH hb
  clear kP_0 kP_1 kP_2 kG_0
  replace HH := hd_add HH (fun u => v8.heap.size ≤ u.heap.size ∧ DocOwn u v7.heap.size v8.heap.size (.slice (some ⟨b2, 0, none⟩) n n) r2 d) (mono_down _ _ _ _ _) ⟨Nat.le_refl _, ho2⟩
  have kP_0 : v8.cell? ⟨w.heap.size + 1, 0, none⟩ = some (.int .i64 pb) := RowAt.cell (HH.out.row _ (List.Mem.head _)) 0
  have kP_1 : v8.cell? ⟨w.heap.size + 1, 1, none⟩ = some (.int .i64 pc) := RowAt.cell (HH.out.row _ (List.Mem.head _)) 1
  have kP_2 : v8.cell? ⟨w.heap.size + 1, 2, none⟩ = some (.int .i64 pa) := RowAt.cell (HH.out.row _ (List.Mem.head _)) 2
  have kG_0 : v8.cell? ⟨w.heap.size, 0, none⟩ = some (.slice a n cap) := RowAt.cell (HH.out.row _ (List.Mem.tail _ (List.Mem.head _))) 0
  clear hb ho2
  go_upto_region 7 with fail
  replace HH := hd_box HH #[.slice (some ⟨b2, 0, none⟩) n n] 25
  clear kP_0 kP_1 kP_2 kG_0
  have sv9 : v8.heap.size < (v8.alloc (.cells #[.slice (some ⟨b2, 0, none⟩) n n] 25)).heap.size := by simp
  generalize (v8.alloc (.cells #[.slice (some ⟨b2, 0, none⟩) n n] 25)) = v9 at HH sv9 ⊢
  have kV_0 : v9.cell? ⟨v8.heap.size, 0, none⟩ = some (.slice (some ⟨b2, 0, none⟩) n n) := RowAt.cell (HH.out.row _ (List.Mem.head _)) 0
  have kP_0 : v9.cell? ⟨w.heap.size + 1, 0, none⟩ = some (.int .i64 pb) := RowAt.cell (HH.out.row _ (List.Mem.tail _ (List.Mem.head _))) 0
  have kP_1 : v9.cell? ⟨w.heap.size + 1, 1, none⟩ = some (.int .i64 pc) := RowAt.cell (HH.out.row _ (List.Mem.tail _ (List.Mem.head _))) 1
  have kP_2 : v9.cell? ⟨w.heap.size + 1, 2, none⟩ = some (.int .i64 pa) := RowAt.cell (HH.out.row _ (List.Mem.tail _ (List.Mem.head _))) 2
  have kG_0 : v9.cell? ⟨w.heap.size, 0, none⟩ = some (.slice a n cap) := RowAt.cell (HH.out.row _ (List.Mem.tail _ (List.Mem.tail _ (List.Mem.head _)))) 0
  clear kV_0 kP_0 kP_1 kP_2 kG_0
  refine wp_region_noPanic ?_
  refine wp_region_held_drew (S := fun w' => Hd w [(v8.heap.size, #[.slice (some ⟨b2, 0, none⟩) n n], 25), (w.heap.size + 1, #[.int .i64 pb, .int .i64 pc, .int .i64 pa], 45), (w.heap.size, #[.slice a n cap], 44)] [fun u => v8.heap.size ≤ u.heap.size ∧ DocOwn u v7.heap.size v8.heap.size (.slice (some ⟨b2, 0, none⟩) n n) r2 d, fun u => Below v7.heap.size v7 u, fun u => Txt u p1 N q1 t0, fun u => Dc u (some ⟨b1, 0, none⟩) n n d, fun u => Dc u a n cap d] w') (by kernel_rfl) (HH.out.go (Below.refl _ _).drew) (fun hHeld => ?_)
  clear HH
  have sv10 : v9.heap.size ≤ v9.drew.heap.size := Nat.le_refl _
  generalize v9.drew = v10 at hHeld sv10 ⊢
  refine take_at 0 25 (.agg #[.slice (some ⟨b2, 0, none⟩) n n]) rfl rfl (by kernel_rfl) (by kernel_rfl) (by kernel_rfl) (fun _ _ _ h => h) (yieldsIf_load_row (by kernel_rfl) 25 (.tmp 7) rfl (v8.heap.size) rfl 25 #[.slice (some ⟨b2, 0, none⟩) n n] (0, 0) _ (fun w' h => h.row _ (List.Mem.head _)) Try.underlying25 rfl (by kernel_rfl)) hHeld ?_
  (try simp only [Act.put, List.setIfInBounds_toArray, List.set_cons_zero, List.set_cons_succ])
  refine take_at 1 26 (.agg #[.int .i64 pb, .int .i64 pc, .int .i64 pa]) rfl rfl (by kernel_rfl) (by kernel_rfl) (by kernel_rfl) (fun _ _ _ h => h) (yieldsIf_load_row (by kernel_rfl) 45 (.tmp 3) rfl (w.heap.size + 1) rfl 45 #[.int .i64 pb, .int .i64 pc, .int .i64 pa] (0, 0) _ (fun w' h => h.row _ (List.Mem.tail _ (List.Mem.head _))) Try.underlying45 rfl (by kernel_rfl)) hHeld ?_
  (try simp only [Act.put, List.setIfInBounds_toArray, List.set_cons_zero, List.set_cons_succ])
  refine wpAnyH_ready (rs := [2]) (by kernel_rfl) (by simp) ?_
  refine AllReadyH.cons rfl (fun K hK => ?_) AllReadyH.nil
  go_simp
  go_at_call 16
  refine (toPlace_any pb pc pa _).mono ?_
  rintro _ v11 ⟨rfl, hb⟩
  have sv11 := hb.size
  go_wp2_with fail
  refine hK.out _ _ (hHeld.go hb) (fun hHeld => ?_)
  clear hK K hb
  (try simp only [Act.put, List.setIfInBounds_toArray, List.set_cons_zero, List.set_cons_succ])
  refine wpAnyH_ready (rs := [3]) (by kernel_rfl) (by simp) ?_
  refine AllReadyH.cons rfl (fun K hK => ?_) AllReadyH.nil
  go_simp
  go_at_call 10
  refine (IT.out ((hHeld.fact _ (List.Mem.head _)).2).2.dc).mono ?_
  rintro _ v12 ⟨⟨p3, q3, rfl, ho3⟩, hb⟩
  have sv12 := hb.size
  have HO3 : Hid (Own v12 v8.heap.size (.slice p3 N q3) t0) := own_less ho3 (by omega)
  go_wp2_with fail
  refine hK.out _ _ (hHeld.go hb) (fun hHeld => ?_)
  clear hK K hb
  (try simp only [Act.put, List.setIfInBounds_toArray, List.set_cons_zero, List.set_cons_succ])
  refine take_at 4 8 (.slice p3 N q3) rfl rfl (by kernel_rfl) (by kernel_rfl) (by kernel_rfl) (fun _ _ _ h => h) (Or.inl ⟨by kernel_rfl, fun w' hS' => by go_simp⟩) hHeld ?_
  (try simp only [Act.put, List.setIfInBounds_toArray, List.set_cons_zero, List.set_cons_succ])
  refine wpAnyH_done (by kernel_rfl) ?_ _
  refine NoPanic.normal ?_
  have HH : Hid (Hd w _ _ v12) := hHeld
  clear hHeld
  replace HH := hd_add HH (fun u => Own u v8.heap.size (.slice p3 N q3) t0) (mono_own _ _ _) HO3.out
  clear HO3
  have kV_0 : v12.cell? ⟨v8.heap.size, 0, none⟩ = some (.slice (some ⟨b2, 0, none⟩) n n) := RowAt.cell (HH.out.row _ (List.Mem.head _)) 0
  have kP_0 : v12.cell? ⟨w.heap.size + 1, 0, none⟩ = some (.int .i64 pb) := RowAt.cell (HH.out.row _ (List.Mem.tail _ (List.Mem.head _))) 0
  have kP_1 : v12.cell? ⟨w.heap.size + 1, 1, none⟩ = some (.int .i64 pc) := RowAt.cell (HH.out.row _ (List.Mem.tail _ (List.Mem.head _))) 1
  have kP_2 : v12.cell? ⟨w.heap.size + 1, 2, none⟩ = some (.int .i64 pa) := RowAt.cell (HH.out.row _ (List.Mem.tail _ (List.Mem.head _))) 2
  have kG_0 : v12.cell? ⟨w.heap.size, 0, none⟩ = some (.slice a n cap) := RowAt.cell (HH.out.row _ (List.Mem.tail _ (List.Mem.tail _ (List.Mem.head _)))) 0
  go_wp2_with fail
  refine (eqSignS_same _ _ _ _ _ _ _ _ (Own.txt ((HH.out.fact _ (List.Mem.head _)).2)) ((HH.out.fact _ (List.Mem.tail _ (List.Mem.tail _ (List.Mem.tail _ (List.Mem.head _))))).2)).mono ?_
  rintro e v13 ⟨rfl, hb⟩
  have sv13 := hb.size
  replace HH := hd_go HH hb
  clear kV_0 kP_0 kP_1 kP_2 kG_0
  have kV_0 : v13.cell? ⟨v8.heap.size, 0, none⟩ = some (.slice (some ⟨b2, 0, none⟩) n n) := RowAt.cell (HH.out.row _ (List.Mem.head _)) 0
  have kP_0 : v13.cell? ⟨w.heap.size + 1, 0, none⟩ = some (.int .i64 pb) := RowAt.cell (HH.out.row _ (List.Mem.tail _ (List.Mem.head _))) 0
  have kP_1 : v13.cell? ⟨w.heap.size + 1, 1, none⟩ = some (.int .i64 pc) := RowAt.cell (HH.out.row _ (List.Mem.tail _ (List.Mem.head _))) 1
  have kP_2 : v13.cell? ⟨w.heap.size + 1, 2, none⟩ = some (.int .i64 pa) := RowAt.cell (HH.out.row _ (List.Mem.tail _ (List.Mem.head _))) 2
  have kG_0 : v13.cell? ⟨w.heap.size, 0, none⟩ = some (.slice a n cap) := RowAt.cell (HH.out.row _ (List.Mem.tail _ (List.Mem.tail _ (List.Mem.head _)))) 0
  clear hb
  go_upto_region 10 with fail
  clear kV_0 kP_0 kP_1 kP_2 kG_0
  refine wp_region_noPanic ?_
  refine wp_region_held_drew (S := fun w' => Hd w [(v8.heap.size, #[.slice (some ⟨b2, 0, none⟩) n n], 25), (w.heap.size + 1, #[.int .i64 pb, .int .i64 pc, .int .i64 pa], 45), (w.heap.size, #[.slice a n cap], 44)] [fun u => Own u v8.heap.size (.slice p3 N q3) t0, fun u => v8.heap.size ≤ u.heap.size ∧ DocOwn u v7.heap.size v8.heap.size (.slice (some ⟨b2, 0, none⟩) n n) r2 d, fun u => Below v7.heap.size v7 u, fun u => Txt u p1 N q1 t0, fun u => Dc u (some ⟨b1, 0, none⟩) n n d, fun u => Dc u a n cap d] w') (by kernel_rfl) (HH.out.go (Below.refl _ _).drew) (fun hHeld => ?_)
  clear HH
  have sv14 : v13.heap.size ≤ v13.drew.heap.size := Nat.le_refl _
  generalize v13.drew = v14 at hHeld sv14 ⊢
  refine take_at 0 33 (.agg #[.slice (some ⟨b2, 0, none⟩) n n]) rfl rfl (by kernel_rfl) (by kernel_rfl) (by kernel_rfl) (fun _ _ _ h => h) (yieldsIf_load_row (by kernel_rfl) 25 (.tmp 7) rfl (v8.heap.size) rfl 25 #[.slice (some ⟨b2, 0, none⟩) n n] (0, 0) _ (fun w' h => h.row _ (List.Mem.head _)) Try.underlying25 rfl (by kernel_rfl)) hHeld ?_
  (try simp only [Act.put, List.setIfInBounds_toArray, List.set_cons_zero, List.set_cons_succ])
  refine take_at 1 34 (.agg #[.slice a n cap]) rfl rfl (by kernel_rfl) (by kernel_rfl) (by kernel_rfl) (fun _ _ _ h => h) (yieldsIf_load_row (by kernel_rfl) 44 (.tmp 2) rfl (w.heap.size) rfl 44 #[.slice a n cap] (0, 0) _ (fun w' h => h.row _ (List.Mem.tail _ (List.Mem.tail _ (List.Mem.head _)))) Try.underlying44 rfl (by kernel_rfl)) hHeld ?_
  (try simp only [Act.put, List.setIfInBounds_toArray, List.set_cons_zero, List.set_cons_succ])
  refine wpAnyH_ready (rs := [2]) (by kernel_rfl) (by simp) ?_
  refine AllReadyH.cons rfl (fun K hK => ?_) AllReadyH.nil
  go_simp
  go_at_call 15
  refine (toDoc_any ((hHeld.fact _ (List.Mem.tail _ (List.Mem.tail _ (List.Mem.tail _ (List.Mem.tail _ (List.Mem.tail _ (List.Mem.head _))))))).2) hle).mono ?_
  rintro _ v15 ⟨⟨b4, r4, rfl, ho4⟩, hb⟩
  have sv15 := hb.size
  have HE4 : Hid (Dc v15 (some ⟨b4, 0, none⟩) n n d) := ho4.dc
  go_wp2_with fail
  refine hK.out _ _ (hHeld.go hb) (fun hHeld => ?_)
  clear hK K hb
  (try simp only [Act.put, List.setIfInBounds_toArray, List.set_cons_zero, List.set_cons_succ])
  refine wpAnyH_ready (rs := [3]) (by kernel_rfl) (by simp) ?_
  refine AllReadyH.cons rfl (fun K hK => ?_) AllReadyH.nil
  go_simp
  go_at_call 17
  refine (eqDoc_same ((hHeld.fact _ (List.Mem.tail _ (List.Mem.head _))).2).2.dc HE4.out).mono ?_
  rintro _ v16 ⟨rfl, hb⟩
  have sv16 := hb.size
  replace HE4 : Hid (Dc v16 (some ⟨b4, 0, none⟩) n n d) := (mono_dc _ _ _ _ : Mono _) _ _ HE4.out hb
  go_wp2_with fail
  refine hK.out _ _ (hHeld.go hb) (fun hHeld => ?_)
  clear hK K hb
  (try simp only [Act.put, List.setIfInBounds_toArray, List.set_cons_zero, List.set_cons_succ])
  refine take_at 4 37 (.bool false) rfl rfl (by kernel_rfl) (by kernel_rfl) (by kernel_rfl) (fun _ _ _ h => h) (Or.inl ⟨by kernel_rfl, fun w' hS' => by go_simp⟩) hHeld ?_
  (try simp only [Act.put, List.setIfInBounds_toArray, List.set_cons_zero, List.set_cons_succ])
  refine wpAnyH_done (by kernel_rfl) ?_ _
  refine NoPanic.normal ?_
  have HH : Hid (Hd w _ _ v16) := hHeld
  clear hHeld
  replace HH := hd_add HH (fun u => Dc u (some ⟨b4, 0, none⟩) n n d) (mono_dc _ _ _ _) HE4.out
  clear HE4
  have kV_0 : v16.cell? ⟨v8.heap.size, 0, none⟩ = some (.slice (some ⟨b2, 0, none⟩) n n) := RowAt.cell (HH.out.row _ (List.Mem.head _)) 0
  have kP_0 : v16.cell? ⟨w.heap.size + 1, 0, none⟩ = some (.int .i64 pb) := RowAt.cell (HH.out.row _ (List.Mem.tail _ (List.Mem.head _))) 0
  have kP_1 : v16.cell? ⟨w.heap.size + 1, 1, none⟩ = some (.int .i64 pc) := RowAt.cell (HH.out.row _ (List.Mem.tail _ (List.Mem.head _))) 1
  have kP_2 : v16.cell? ⟨w.heap.size + 1, 2, none⟩ = some (.int .i64 pa) := RowAt.cell (HH.out.row _ (List.Mem.tail _ (List.Mem.head _))) 2
  have kG_0 : v16.cell? ⟨w.heap.size, 0, none⟩ = some (.slice a n cap) := RowAt.cell (HH.out.row _ (List.Mem.tail _ (List.Mem.tail _ (List.Mem.head _)))) 0
  have hE := (HH.out.fact _ (List.Mem.tail _ (List.Mem.tail _ (List.Mem.head _)))).2
  have hOw := (HH.out.fact _ (List.Mem.tail _ (List.Mem.head _))).2
  have hVr := (HH.out.row _ (List.Mem.head _))
  have hBe := (HH.out.fact _ (List.Mem.tail _ (List.Mem.tail _ (List.Mem.tail _ (List.Mem.head _))))).2
  go_wp2_with fail
  refine (markDoc_over hE.2 hE.1 (by omega) (by omega) (by omega) hle).mono ?_
  rintro e v17 ⟨rfl, -, hb, hov⟩
  have sv17 := hb.size
  have hBn : Below v7.heap.size v7 v17 := hBe.trans hb
  have hOn : Own v17 v8.heap.size (.slice p3 N q3) t0 := own_over hOw (Nat.le_refl _) hov
  have hVn : RowAt v17 v8.heap.size #[.slice (some ⟨b2, 0, none⟩) n n] 25 := (hov v8.heap.size (Nat.le_refl _) hVr.lt).trans hVr
  clear HH hE hOw hVr hBe hb hov
  clear kV_0 kP_0 kP_1 kP_2 kG_0
  have HH := hd_go HA hBn
  replace HH := hd_row HH _ _ _ hVn
  replace HH := hd_add HH (fun u => Below v7.heap.size v7 u) (mono_bel _ _ (Nat.le_refl _)) hBn
  replace HH := hd_add HH (fun u => Own u v8.heap.size (.slice p3 N q3) t0) (mono_own _ _ _) hOn
  clear hBn hOn hVn
  obtain ⟨K, HK⟩ : ∃ K, Hid (kD 1 d d.length = K) := ⟨_, rfl⟩
  have kge : 0 ≤ K := by rw [← HK.out]; exact kD_ge d _ (by omega)
  rw [HK.out]
  have nk : ¬ K < 0 := by omega
  have kV_0 : v17.cell? ⟨v8.heap.size, 0, none⟩ = some (.slice (some ⟨b2, 0, none⟩) n n) := RowAt.cell (HH.out.row _ (List.Mem.head _)) 0
  have kP_0 : v17.cell? ⟨w.heap.size + 1, 0, none⟩ = some (.int .i64 pb) := RowAt.cell (HH.out.row _ (List.Mem.tail _ (List.Mem.head _))) 0
  have kP_1 : v17.cell? ⟨w.heap.size + 1, 1, none⟩ = some (.int .i64 pc) := RowAt.cell (HH.out.row _ (List.Mem.tail _ (List.Mem.head _))) 1
  have kP_2 : v17.cell? ⟨w.heap.size + 1, 2, none⟩ = some (.int .i64 pa) := RowAt.cell (HH.out.row _ (List.Mem.tail _ (List.Mem.head _))) 2
  have kG_0 : v17.cell? ⟨w.heap.size, 0, none⟩ = some (.slice a n cap) := RowAt.cell (HH.out.row _ (List.Mem.tail _ (List.Mem.tail _ (List.Mem.head _)))) 0
  go_wp2_with fail
  refine (eqSignS_same _ _ _ _ _ _ _ _ (Own.txt ((HH.out.fact _ (List.Mem.head _)).2)) ((HH.out.fact _ (List.Mem.tail _ (List.Mem.tail _ (List.Mem.head _)))).2)).mono ?_
  rintro e v18 ⟨rfl, hb⟩
  have sv18 := hb.size
  replace HH := hd_go HH hb
  clear kV_0 kP_0 kP_1 kP_2 kG_0
  have kV_0 : v18.cell? ⟨v8.heap.size, 0, none⟩ = some (.slice (some ⟨b2, 0, none⟩) n n) := RowAt.cell (HH.out.row _ (List.Mem.head _)) 0
  have kP_0 : v18.cell? ⟨w.heap.size + 1, 0, none⟩ = some (.int .i64 pb) := RowAt.cell (HH.out.row _ (List.Mem.tail _ (List.Mem.head _))) 0
  have kP_1 : v18.cell? ⟨w.heap.size + 1, 1, none⟩ = some (.int .i64 pc) := RowAt.cell (HH.out.row _ (List.Mem.tail _ (List.Mem.head _))) 1
  have kP_2 : v18.cell? ⟨w.heap.size + 1, 2, none⟩ = some (.int .i64 pa) := RowAt.cell (HH.out.row _ (List.Mem.tail _ (List.Mem.head _))) 2
  have kG_0 : v18.cell? ⟨w.heap.size, 0, none⟩ = some (.slice a n cap) := RowAt.cell (HH.out.row _ (List.Mem.tail _ (List.Mem.tail _ (List.Mem.head _)))) 0
  clear hb
  have hOw := (HH.out.fact _ (List.Mem.head _)).2
  have hBe := (HH.out.fact _ (List.Mem.tail _ (List.Mem.head _))).2
  go_wp2_with fail
  refine (markSignS_any _ _ _ _ 1 _ _ hOw (by omega) (by omega) (by omega)).mono ?_
  rintro e v19 ⟨rfl, hOm, hgw⟩
  have sv19 := hgw.size
  have hBn : Below v7.heap.size v7 v19 := hBe.grown hgw (by have := hBe.size; omega) (fun g hg => by have := (own_lt hOw hg).1; omega)
  clear HH hOw hBe hgw
  clear kV_0 kP_0 kP_1 kP_2 kG_0
  have HH := hd_go HA hBn
  replace HH := hd_add HH (fun u => Txt u p3 N q3 (marked 1 N)) (mono_txt _ _ _ _) (Own.txt hOm)
  clear hBn hOm
  have kP_0 : v19.cell? ⟨w.heap.size + 1, 0, none⟩ = some (.int .i64 pb) := RowAt.cell (HH.out.row _ (List.Mem.head _)) 0
  have kP_1 : v19.cell? ⟨w.heap.size + 1, 1, none⟩ = some (.int .i64 pc) := RowAt.cell (HH.out.row _ (List.Mem.head _)) 1
  have kP_2 : v19.cell? ⟨w.heap.size + 1, 2, none⟩ = some (.int .i64 pa) := RowAt.cell (HH.out.row _ (List.Mem.head _)) 2
  have kG_0 : v19.cell? ⟨w.heap.size, 0, none⟩ = some (.slice a n cap) := RowAt.cell (HH.out.row _ (List.Mem.tail _ (List.Mem.head _))) 0
  have nq : ¬ (1 + 3 * (N : Int)) < 0 := by omega
  have ne : ((1 + 3 * (N : Int)) != (1 + 3 * (N : Int))) = false := by simp
  go_wp2_with fail
  refine (heldSignS_any _ _ _ 1 _ ((HH.out.fact _ (List.Mem.head _)).2) (by omega) (by omega) (by omega)).mono ?_
  rintro e w5 ⟨rfl, hw⟩
  rw [hw]
  clear hw
  go_upto_region 24 with fail
  clear kP_0 kP_1 kP_2 kG_0
  refine wp_region_noPanic ?_
  refine wp_region_held_drew (S := fun w' => Hd w [(w.heap.size + 1, #[.int .i64 pb, .int .i64 pc, .int .i64 pa], 45), (w.heap.size, #[.slice a n cap], 44)] [fun u => Txt u p3 N q3 (marked 1 N), fun u => Txt u p1 N q1 t0, fun u => Dc u (some ⟨b1, 0, none⟩) n n d, fun u => Dc u a n cap d] w') (by kernel_rfl) (HH.out.go (Below.refl _ _).drew) (fun hHeld => ?_)
  clear HH
  have sv20 : v19.heap.size ≤ v19.drew.heap.size := Nat.le_refl _
  generalize v19.drew = v20 at hHeld sv20 ⊢
  refine take_at 0 60 (.agg #[.slice a n cap]) rfl rfl (by kernel_rfl) (by kernel_rfl) (by kernel_rfl) (fun _ _ _ h => h) (yieldsIf_load_row (by kernel_rfl) 44 (.tmp 2) rfl (w.heap.size) rfl 44 #[.slice a n cap] (0, 0) _ (fun w' h => h.row _ (List.Mem.tail _ (List.Mem.head _))) Try.underlying44 rfl (by kernel_rfl)) hHeld ?_
  (try simp only [Act.put, List.setIfInBounds_toArray, List.set_cons_zero, List.set_cons_succ])
  refine take_at 2 62 (.agg #[.int .i64 pb, .int .i64 pc, .int .i64 pa]) rfl rfl (by kernel_rfl) (by kernel_rfl) (by kernel_rfl) (fun _ _ _ h => h) (yieldsIf_load_row (by kernel_rfl) 45 (.tmp 3) rfl (w.heap.size + 1) rfl 45 #[.int .i64 pb, .int .i64 pc, .int .i64 pa] (0, 0) _ (fun w' h => h.row _ (List.Mem.head _)) Try.underlying45 rfl (by kernel_rfl)) hHeld ?_
  (try simp only [Act.put, List.setIfInBounds_toArray, List.set_cons_zero, List.set_cons_succ])
  refine wpAnyH_ready (rs := [1]) (by kernel_rfl) (by simp) ?_
  refine AllReadyH.cons rfl (fun K hK => ?_) AllReadyH.nil
  go_simp
  go_at_call 15
  refine (toDoc_any ((hHeld.fact _ (List.Mem.tail _ (List.Mem.tail _ (List.Mem.tail _ (List.Mem.head _))))).2) hle).mono ?_
  rintro _ v21 ⟨⟨b5, r5, rfl, ho5⟩, hb⟩
  have sv21 := hb.size
  have HE5 : Hid (Dc v21 (some ⟨b5, 0, none⟩) n n d) := ho5.dc
  go_wp2_with fail
  refine hK.out _ _ (hHeld.go hb) (fun hHeld => ?_)
  clear hK K hb
  (try simp only [Act.put, List.setIfInBounds_toArray, List.set_cons_zero, List.set_cons_succ])
  refine wpAnyH_ready (rs := [3]) (by kernel_rfl) (by simp) ?_
  refine AllReadyH.cons rfl (fun K hK => ?_) AllReadyH.nil
  go_simp
  go_at_call 16
  refine (toPlace_any pb pc pa _).mono ?_
  rintro _ v22 ⟨rfl, hb⟩
  have sv22 := hb.size
  replace HE5 : Hid (Dc v22 (some ⟨b5, 0, none⟩) n n d) := (mono_dc _ _ _ _ : Mono _) _ _ HE5.out hb
  go_wp2_with fail
  refine hK.out _ _ (hHeld.go hb) (fun hHeld => ?_)
  clear hK K hb
  (try simp only [Act.put, List.setIfInBounds_toArray, List.set_cons_zero, List.set_cons_succ])
  refine wpAnyH_ready (rs := [4]) (by kernel_rfl) (by simp) ?_
  refine AllReadyH.cons rfl (fun K hK => ?_) AllReadyH.nil
  go_simp
  go_at_call 10
  refine (IT.out HE5.out).mono ?_
  rintro _ v23 ⟨⟨p6, q6, rfl, ho6⟩, hb⟩
  have sv23 := hb.size
  replace HE5 : Hid (Dc v23 (some ⟨b5, 0, none⟩) n n d) := (mono_dc _ _ _ _ : Mono _) _ _ HE5.out hb
  have HO6 : Hid (Txt v23 p6 N q6 t0) := Own.txt ho6
  go_wp2_with fail
  refine hK.out _ _ (hHeld.go hb) (fun hHeld => ?_)
  clear hK K hb
  (try simp only [Act.put, List.setIfInBounds_toArray, List.set_cons_zero, List.set_cons_succ])
  refine take_at 5 12 (.slice p6 N q6) rfl rfl (by kernel_rfl) (by kernel_rfl) (by kernel_rfl) (fun _ _ _ h => h) (Or.inl ⟨by kernel_rfl, fun w' hS' => by go_simp⟩) hHeld ?_
  (try simp only [Act.put, List.setIfInBounds_toArray, List.set_cons_zero, List.set_cons_succ])
  refine wpAnyH_done (by kernel_rfl) ?_ _
  refine NoPanic.normal ?_
  have HH : Hid (Hd w _ _ v23) := hHeld
  clear hHeld
  replace HH := hd_add HH (fun u => Dc u (some ⟨b5, 0, none⟩) n n d) (mono_dc _ _ _ _) HE5.out
  clear HE5
  replace HH := hd_add HH (fun u => Txt u p6 N q6 t0) (mono_txt _ _ _ _) HO6.out
  clear HO6
  have kP_0 : v23.cell? ⟨w.heap.size + 1, 0, none⟩ = some (.int .i64 pb) := RowAt.cell (HH.out.row _ (List.Mem.head _)) 0
  have kP_1 : v23.cell? ⟨w.heap.size + 1, 1, none⟩ = some (.int .i64 pc) := RowAt.cell (HH.out.row _ (List.Mem.head _)) 1
  have kP_2 : v23.cell? ⟨w.heap.size + 1, 2, none⟩ = some (.int .i64 pa) := RowAt.cell (HH.out.row _ (List.Mem.head _)) 2
  have kG_0 : v23.cell? ⟨w.heap.size, 0, none⟩ = some (.slice a n cap) := RowAt.cell (HH.out.row _ (List.Mem.tail _ (List.Mem.head _))) 0
  go_wp2_with fail
  refine (eqSignS_same _ _ _ _ _ _ _ _ ((HH.out.fact _ (List.Mem.head _)).2) ((HH.out.fact _ (List.Mem.tail _ (List.Mem.tail _ (List.Mem.tail _ (List.Mem.head _))))).2)).mono ?_
  rintro e v24 ⟨rfl, hb⟩
  have sv24 := hb.size
  replace HH := hd_go HH hb
  clear kP_0 kP_1 kP_2 kG_0
  have kP_0 : v24.cell? ⟨w.heap.size + 1, 0, none⟩ = some (.int .i64 pb) := RowAt.cell (HH.out.row _ (List.Mem.head _)) 0
  have kP_1 : v24.cell? ⟨w.heap.size + 1, 1, none⟩ = some (.int .i64 pc) := RowAt.cell (HH.out.row _ (List.Mem.head _)) 1
  have kP_2 : v24.cell? ⟨w.heap.size + 1, 2, none⟩ = some (.int .i64 pa) := RowAt.cell (HH.out.row _ (List.Mem.head _)) 2
  have kG_0 : v24.cell? ⟨w.heap.size, 0, none⟩ = some (.slice a n cap) := RowAt.cell (HH.out.row _ (List.Mem.tail _ (List.Mem.head _))) 0
  clear hb
  go_wp2_with fail
  refine (heldSignS_any _ _ _ 1 _ ((HH.out.fact _ (List.Mem.tail _ (List.Mem.tail _ (List.Mem.head _)))).2) (by omega) (by omega) (by omega)).mono ?_
  rintro e w5 ⟨rfl, hw⟩
  rw [hw]
  clear hw
  go_wp2_with fail
  go_ret
  exact ⟨rfl, HH.out.below⟩
end Go.Proofs.Ytcecmkideoodiaa
