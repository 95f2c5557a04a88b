import Derived.Test.YtdcebaneobkcoaaBA5
import Derived.Test.YtdcebaneobkcoaaBA4
namespace Go.Proofs.Ytdcebaneobkcoaa
open Go.RowKit

theorem ownT_nil (w : World) (B : Nat) : OwnT w B (.slice none 0 0) [] [] := ⟨OwnR.nil _ _, TxtOwn.nil _ _ _⟩
set_option maxRecDepth 100000 in
set_option maxHeartbeats 4000000 in
theorem paraBlock_any {ta : Option Addr} {tn tc : Nat} {t : List Sg} {w : World} (h : Txt w ta tn tc t) (hn : tn ≤ 1000000) :
    Calls Try.prog 119 #[.agg #[.slice ta tn tc]] w fun e w' => (∃ p q, e = .returned (.agg #[.int .i64 1, .int .i64 0, .slice p tn q, .int .i64 0, .int .i64 0, .slice none 0 0]) ∧ BlOwn w' w.heap.size w'.heap.size w'.heap.size (1, 0, (p, tn, q), 0, 0, (none, 0, 0)) (1, 0, t, 0, 0, [])) ∧ Below w.heap.size w w' := by
  have H : Hid (Txt w ta tn tc t) := h
  clear h
  go_enter Try.func119, Try.ntmps119
  go_upto_region 1 with fail
  have B0 : Below w.heap.size w ((w.alloc (.cells #[.slice ta tn tc] 109)).alloc (.cells #[.int .i64 0, .int .i64 0, .slice none 0 0, .int .i64 0, .int .i64 0, .slice none 0 0] 40)) := ((Below.refl _ _).alloc (Nat.le_refl _) _).alloc (by simp) _
  have G0 : RowAt ((w.alloc (.cells #[.slice ta tn tc] 109)).alloc (.cells #[.int .i64 0, .int .i64 0, .slice none 0 0, .int .i64 0, .int .i64 0, .slice none 0 0] 40)) w.heap.size #[.slice ta tn tc] 109 := (rowAt_new w _ _).alloc _
  have G1 : RowAt ((w.alloc (.cells #[.slice ta tn tc] 109)).alloc (.cells #[.int .i64 0, .int .i64 0, .slice none 0 0, .int .i64 0, .int .i64 0, .slice none 0 0] 40)) (w.heap.size + 1) #[.int .i64 0, .int .i64 0, .slice none 0 0, .int .i64 0, .int .i64 0, .slice none 0 0] 40 := by
    have := rowAt_new (w.alloc (.cells #[.slice ta tn tc] 109)) #[.int .i64 0, .int .i64 0, .slice none 0 0, .int .i64 0, .int .i64 0, .slice none 0 0] 40
    simpa using this
  generalize ((w.alloc (.cells #[.slice ta tn tc] 109)).alloc (.cells #[.int .i64 0, .int .i64 0, .slice none 0 0, .int .i64 0, .int .i64 0, .slice none 0 0] 40)) = v0 at B0 G0 G1 ⊢
  have l0 := G0.lt
  have l1 := G1.lt
  have s0 := B0.size
  have H0 : Hid (RowAt v0 w.heap.size #[.slice ta tn tc] 109) := G0
  have H1 : Hid (RowAt v0 (w.heap.size + 1) #[.int .i64 0, .int .i64 0, .slice none 0 0, .int .i64 0, .int .i64 0, .slice none 0 0] 40) := G1
  have HB0 : Hid (Below w.heap.size w v0) := B0
  have k0 : v0.cell? ⟨w.heap.size, 0, none⟩ = some (.slice ta tn tc) := G0.cell 0
  clear G0 G1 B0
  go_wp2_with (first | (go_at_call 122; refine (copiedSign_any (H.out.below HB0.out) hn).mono ?_; rintro e w1 ⟨⟨p, q, rfl, ho1⟩, hb1⟩; have HZ : Hid (RowAt w1 (w.heap.size + 1) #[.int .i64 0, .int .i64 0, .slice none 0 0, .int .i64 0, .int .i64 0, .slice none 0 0] 40) := H1.out.below hb1 l1) | (refine wpList_store_row rfl 40 (.tmp 2) (.tmp 6) rfl (w.heap.size + 1) #[.int .i64 1, .int .i64 0, .slice p tn q, .int .i64 0, .int .i64 0, .slice none 0 0] rfl rfl 40 _ HZ.out block_info rfl (cells6_one _ _ _ _ _ _ _ _ _ _) ?_))
  have s1 := hb1.size
  refine bodyPost_ret (v := .agg #[.int .i64 1, .int .i64 0, .slice p tn q, .int .i64 0, .int .i64 0, .slice none 0 0]) (results_cell_row (p := 2) (ty := 40) rfl _ _ (w.heap.size + 1) 40 _ _ _ rfl (RowAt.setRow HZ.out _) Try.underlying40 rfl block_info) rfl ⟨⟨p, q, rfl, ?_⟩, below_row (HB0.out.trans (hb1.mono s0)) (by omega) _⟩
  have sz : (w1.setRow (w.heap.size + 1) #[.int .i64 1, .int .i64 0, .slice p tn q, .int .i64 0, .int .i64 0, .slice none 0 0]).heap.size = w1.heap.size := by simp [World.setRow]
  rw [sz]
  have hlt : ∀ g, (Value.slice p tn q).ownBlock = some g → g < w1.heap.size := fun g hg => (own_lt ho1 hg).2
  exact ⟨⟨rfl, rfl, rfl, rfl⟩, own_less (own_row ho1 _ _ (fun e => by have := (own_lt ho1 e).1; omega)) (by omega), hlt, ⟨[], ownT_nil _ _, fun g hg => by simp [sl3V, Value.ownBlock] at hg, fun k hk => absurd hk (by simp)⟩, by omega, Nat.le_refl _⟩
set_option maxRecDepth 100000 in
set_option maxHeartbeats 4000000 in
theorem itemBlock_any {v : Int} {ta : Option Addr} {tn tc : Nat} {t : List Sg} {w : World} (h : Txt w ta tn tc t) (hn : tn ≤ 1000000) :
    Calls Try.prog 145 #[.agg #[.int .i64 v, .slice ta tn tc]] w fun e w' => (∃ p q, e = .returned (.agg #[.int .i64 2, .int .i64 v, .slice p tn q, .int .i64 0, .int .i64 0, .slice none 0 0]) ∧ BlOwn w' w.heap.size w'.heap.size w'.heap.size (2, v, (p, tn, q), 0, 0, (none, 0, 0)) (2, v, t, 0, 0, [])) ∧ Below w.heap.size w w' := by
  have H : Hid (Txt w ta tn tc t) := h
  clear h
  go_enter Try.func145, Try.ntmps145
  go_upto_region 1 with fail
  have B0 : Below w.heap.size w ((w.alloc (.cells #[.int .i64 v, .slice ta tn tc] 111)).alloc (.cells #[.int .i64 0, .int .i64 0, .slice none 0 0, .int .i64 0, .int .i64 0, .slice none 0 0] 40)) := ((Below.refl _ _).alloc (Nat.le_refl _) _).alloc (by simp) _
  have G0 : RowAt ((w.alloc (.cells #[.int .i64 v, .slice ta tn tc] 111)).alloc (.cells #[.int .i64 0, .int .i64 0, .slice none 0 0, .int .i64 0, .int .i64 0, .slice none 0 0] 40)) w.heap.size #[.int .i64 v, .slice ta tn tc] 111 := (rowAt_new w _ _).alloc _
  have G1 : RowAt ((w.alloc (.cells #[.int .i64 v, .slice ta tn tc] 111)).alloc (.cells #[.int .i64 0, .int .i64 0, .slice none 0 0, .int .i64 0, .int .i64 0, .slice none 0 0] 40)) (w.heap.size + 1) #[.int .i64 0, .int .i64 0, .slice none 0 0, .int .i64 0, .int .i64 0, .slice none 0 0] 40 := by
    have := rowAt_new (w.alloc (.cells #[.int .i64 v, .slice ta tn tc] 111)) #[.int .i64 0, .int .i64 0, .slice none 0 0, .int .i64 0, .int .i64 0, .slice none 0 0] 40
    simpa using this
  generalize ((w.alloc (.cells #[.int .i64 v, .slice ta tn tc] 111)).alloc (.cells #[.int .i64 0, .int .i64 0, .slice none 0 0, .int .i64 0, .int .i64 0, .slice none 0 0] 40)) = v0 at B0 G0 G1 ⊢
  have l0 := G0.lt
  have l1 := G1.lt
  have s0 := B0.size
  have H0 : Hid (RowAt v0 w.heap.size #[.int .i64 v, .slice ta tn tc] 111) := G0
  have H1 : Hid (RowAt v0 (w.heap.size + 1) #[.int .i64 0, .int .i64 0, .slice none 0 0, .int .i64 0, .int .i64 0, .slice none 0 0] 40) := G1
  have HB0 : Hid (Below w.heap.size w v0) := B0
  clear G0 G1 B0
  refine wp_region_noPanic ?_
  refine wp_region_held_drew (S := fun w' => RowAt w' w.heap.size #[.int .i64 v, .slice ta tn tc] 111) (by kernel_rfl) H0.out.drew (fun hHeld => ?_)
  have H1d : Hid (RowAt v0.drew (w.heap.size + 1) #[.int .i64 0, .int .i64 0, .slice none 0 0, .int .i64 0, .int .i64 0, .slice none 0 0] 40) := H1.out.drew
  have HBd : Hid (Below w.heap.size w v0.drew) := HB0.out.drew
  have sd : v0.drew.heap.size = v0.heap.size := rfl
  clear H0 H1 HB0
  generalize v0.drew = u0 at hHeld H1d HBd sd ⊢
  refine take_at 0 3 (.pointer (some ⟨w.heap.size, 0, none⟩)) rfl rfl (by kernel_rfl) (by kernel_rfl) (by kernel_rfl) (fun _ _ _ h => h) (Or.inl ⟨by kernel_rfl, fun w' hS' => by go_simp⟩) hHeld ?_
  (try simp only [Act.put, List.setIfInBounds_toArray, List.set_cons_zero, List.set_cons_succ])
  refine take_at 1 4 (.int .i64 v) rfl rfl (by kernel_rfl) (by kernel_rfl) (by kernel_rfl) (fun _ _ _ h => h) (Or.inl ⟨by kernel_rfl, fun w' hS' => by have hc := RowAt.cell hS' 0; go_simp⟩) hHeld ?_
  (try simp only [Act.put, List.setIfInBounds_toArray, List.set_cons_zero, List.set_cons_succ])
  refine take_at 2 5 (.pointer (some ⟨w.heap.size, 1, none⟩)) rfl rfl (by kernel_rfl) (by kernel_rfl) (by kernel_rfl) (fun _ _ _ h => h) (Or.inl ⟨by kernel_rfl, fun w' hS' => by go_simp⟩) hHeld ?_
  (try simp only [Act.put, List.setIfInBounds_toArray, List.set_cons_zero, List.set_cons_succ])
  refine take_at 3 6 (.slice ta tn tc) rfl rfl (by kernel_rfl) (by kernel_rfl) (by kernel_rfl) (fun _ _ _ h => h) (Or.inl ⟨by kernel_rfl, fun w' hS' => by have hc := RowAt.cell hS' 1; go_simp⟩) hHeld ?_
  (try simp only [Act.put, List.setIfInBounds_toArray, List.set_cons_zero, List.set_cons_succ])
  refine wpAnyH_ready (rs := [4]) (by kernel_rfl) (by simp) ?_
  refine AllReadyH.cons rfl (fun K hK => ?_) AllReadyH.nil
  go_simp
  go_at_call 122
  refine (copiedSign_any (H.out.below HBd.out) hn).mono ?_
  rintro e w1 ⟨⟨p, q, rfl, ho1⟩, hb1⟩
  have HZ : Hid (RowAt w1 (w.heap.size + 1) #[.int .i64 0, .int .i64 0, .slice none 0 0, .int .i64 0, .int .i64 0, .slice none 0 0] 40) := H1d.out.below hb1 (by omega)
  go_wp2_with fail
  refine hK.out _ _ (RowAt.below hHeld hb1 (by omega)) (fun hHeld => ?_)
  clear hK K
  (try simp only [Act.put, List.setIfInBounds_toArray, List.set_cons_zero, List.set_cons_succ])
  refine take_at 5 8 (.agg #[.int .i64 2, .int .i64 v, .slice p tn q, .int .i64 0, .int .i64 0, .slice none 0 0]) rfl rfl (by kernel_rfl) (by kernel_rfl) (by kernel_rfl) (fun _ _ _ h => h) (Or.inl ⟨by kernel_rfl, fun w' hS' => by go_simp⟩) hHeld ?_
  (try simp only [Act.put, List.setIfInBounds_toArray, List.set_cons_zero, List.set_cons_succ])
  refine wpAnyH_ready (rs := [6]) (by kernel_rfl) (by simp) ?_
  refine AllReadyH.cons rfl (fun K hK => ?_) AllReadyH.nil
  rw [if_pos (by kernel_rfl)]
  refine wp_store_row 40 (.tmp 2) (.tmp 8) rfl (w.heap.size + 1) #[.int .i64 2, .int .i64 v, .slice p tn q, .int .i64 0, .int .i64 0, .slice none 0 0] rfl rfl 40 _ HZ.out block_info rfl (cells6_one _ _ _ _ _ _ _ _ _ _) ?_
  refine hK.out _ _ (RowAt.setRowOther hHeld _ _ (by omega)) (fun hHeld => ?_)
  clear hK K
  (try simp only [Act.put])
  refine wpAnyH_done (by kernel_rfl) ?_ _
  refine NoPanic.normal ?_
  clear hHeld
  have HB0 : Hid (Below w.heap.size w u0) := HBd.out
  rw [← sd] at s0
  go_wp2_with fail
  have s1 := hb1.size
  refine bodyPost_ret (v := .agg #[.int .i64 2, .int .i64 v, .slice p tn q, .int .i64 0, .int .i64 0, .slice none 0 0]) (results_cell_row (p := 2) (ty := 40) rfl _ _ (w.heap.size + 1) 40 _ _ _ rfl (RowAt.setRow HZ.out _) Try.underlying40 rfl block_info) rfl ⟨⟨p, q, rfl, ?_⟩, below_row (HB0.out.trans (hb1.mono s0)) (by omega) _⟩
  have sz : (w1.setRow (w.heap.size + 1) #[.int .i64 2, .int .i64 v, .slice p tn q, .int .i64 0, .int .i64 0, .slice none 0 0]).heap.size = w1.heap.size := by simp [World.setRow]
  rw [sz]
  have hlt : ∀ g, (Value.slice p tn q).ownBlock = some g → g < w1.heap.size := fun g hg => (own_lt ho1 hg).2
  exact ⟨⟨rfl, rfl, rfl, rfl⟩, own_less (own_row ho1 _ _ (fun e => by have := (own_lt ho1 e).1; omega)) (by omega), hlt, ⟨[], ownT_nil _ _, fun g hg => by simp [sl3V, Value.ownBlock] at hg, fun k hk => absurd hk (by simp)⟩, by omega, Nat.le_refl _⟩
set_option maxRecDepth 100000 in
set_option maxHeartbeats 4000000 in
theorem sheetBlock_any {R C : Int} {ca : Option Addr} {cn cc : Nat} {l : List Cl} {w : World} (h : Tab w ca cn cc l) (hl : l.length ≤ 1000) (hx : ∀ k, k < l.length → (l.getD k cl0).2.2.2.2.length ≤ 1000000) :
    Calls Try.prog 148 #[.agg #[.int .i64 R, .int .i64 C, .slice ca cn cc]] w fun e w' => (∃ p q, e = .returned (.agg #[.int .i64 3, .int .i64 0, .slice none 0 0, .int .i64 R, .int .i64 C, .slice p cn q]) ∧ BlOwn w' w.heap.size w.heap.size w'.heap.size (3, 0, (none, 0, 0), R, C, (p, cn, q)) (3, 0, [], R, C, l)) ∧ Below w.heap.size w w' := by
  have H : Hid (Tab w ca cn cc l) := h
  clear h
  go_enter Try.func148, Try.ntmps148
  go_upto_region 1 with fail
  have B0 : Below w.heap.size w ((w.alloc (.cells #[.int .i64 R, .int .i64 C, .slice ca cn cc] 125)).alloc (.cells #[.int .i64 0, .int .i64 0, .slice none 0 0, .int .i64 0, .int .i64 0, .slice none 0 0] 40)) := ((Below.refl _ _).alloc (Nat.le_refl _) _).alloc (by simp) _
  have G0 : RowAt ((w.alloc (.cells #[.int .i64 R, .int .i64 C, .slice ca cn cc] 125)).alloc (.cells #[.int .i64 0, .int .i64 0, .slice none 0 0, .int .i64 0, .int .i64 0, .slice none 0 0] 40)) w.heap.size #[.int .i64 R, .int .i64 C, .slice ca cn cc] 125 := (rowAt_new w _ _).alloc _
  have G1 : RowAt ((w.alloc (.cells #[.int .i64 R, .int .i64 C, .slice ca cn cc] 125)).alloc (.cells #[.int .i64 0, .int .i64 0, .slice none 0 0, .int .i64 0, .int .i64 0, .slice none 0 0] 40)) (w.heap.size + 1) #[.int .i64 0, .int .i64 0, .slice none 0 0, .int .i64 0, .int .i64 0, .slice none 0 0] 40 := by
    have := rowAt_new (w.alloc (.cells #[.int .i64 R, .int .i64 C, .slice ca cn cc] 125)) #[.int .i64 0, .int .i64 0, .slice none 0 0, .int .i64 0, .int .i64 0, .slice none 0 0] 40
    simpa using this
  generalize ((w.alloc (.cells #[.int .i64 R, .int .i64 C, .slice ca cn cc] 125)).alloc (.cells #[.int .i64 0, .int .i64 0, .slice none 0 0, .int .i64 0, .int .i64 0, .slice none 0 0] 40)) = v0 at B0 G0 G1 ⊢
  have l0 := G0.lt
  have l1 := G1.lt
  have s0 := B0.size
  have H0 : Hid (RowAt v0 w.heap.size #[.int .i64 R, .int .i64 C, .slice ca cn cc] 125) := G0
  have H1 : Hid (RowAt v0 (w.heap.size + 1) #[.int .i64 0, .int .i64 0, .slice none 0 0, .int .i64 0, .int .i64 0, .slice none 0 0] 40) := G1
  have HB0 : Hid (Below w.heap.size w v0) := B0
  have k0 : v0.cell? ⟨w.heap.size, 0, none⟩ = some (.int .i64 R) := G0.cell 0
  have k1 : v0.cell? ⟨w.heap.size, 1, none⟩ = some (.int .i64 C) := G0.cell 1
  have k2 : v0.cell? ⟨w.heap.size, 2, none⟩ = some (.slice ca cn cc) := G0.cell 2
  clear G0 G1 B0
  go_wp2_with (first | (go_at_call 151; refine (copiedTable_any (H.out.below HB0.out) hl hx).mono ?_; rintro e w1 ⟨⟨p, q, rs, rfl, ho1⟩, hb1⟩; have HZ : Hid (RowAt w1 (w.heap.size + 1) #[.int .i64 0, .int .i64 0, .slice none 0 0, .int .i64 0, .int .i64 0, .slice none 0 0] 40) := H1.out.below hb1 l1) | (refine wpList_store_row rfl 40 (.tmp 2) (.tmp 6) rfl (w.heap.size + 1) #[.int .i64 3, .int .i64 0, .slice none 0 0, .int .i64 R, .int .i64 C, .slice p cn q] rfl rfl 40 _ HZ.out block_info rfl (cells6_one _ _ _ _ _ _ _ _ _ _) ?_))
  have s1 := hb1.size
  refine bodyPost_ret (v := .agg #[.int .i64 3, .int .i64 0, .slice none 0 0, .int .i64 R, .int .i64 C, .slice p cn q]) (results_cell_row (p := 2) (ty := 40) rfl _ _ (w.heap.size + 1) 40 _ _ _ rfl (RowAt.setRow HZ.out _) Try.underlying40 rfl block_info) rfl ⟨⟨p, q, rfl, ?_⟩, below_row (HB0.out.trans (hb1.mono s0)) (by omega) _⟩
  have sz : (w1.setRow (w.heap.size + 1) #[.int .i64 3, .int .i64 0, .slice none 0 0, .int .i64 R, .int .i64 C, .slice p cn q]).heap.size = w1.heap.size := by simp [World.setRow]
  rw [sz]
  have ho2 : OwnT (w1.setRow (w.heap.size + 1) #[.int .i64 3, .int .i64 0, .slice none 0 0, .int .i64 R, .int .i64 C, .slice p cn q]) v0.heap.size (.slice p cn q) rs l := ⟨own_row ho1.1 _ _ (fun e => by have := (own_lt ho1.1 e).1; omega), ho1.2.rowLow _ _ (by omega)⟩
  exact ⟨⟨rfl, rfl, rfl, rfl⟩, Own.nil _ _, fun g hg => by simp [sl3V, Value.ownBlock] at hg, ⟨rs, ho2.less (by omega), fun g hg => (own_lt ho1.1 hg).2, fun k hk g hg => ho1.2.blockLt k hk g hg⟩, Nat.le_refl _, by omega⟩
end Go.Proofs.Ytdcebaneobkcoaa
namespace Go.Proofs.Ytdcebaneobkcoaa
open Go.RowKit

set_option maxRecDepth 100000 in
set_option maxHeartbeats 8000000 in
theorem outlineDoc_any {a : Option Addr} {n cap : Nat} {d : List Bl} {w : World} (h : Outl w a n cap d) (hp : d.all partBB = true) (ho : outlB d = true) :
    Calls Try.prog 70 #[.slice a n cap] w fun e w' => (∃ p q rbs, e = .returned (.agg #[.slice p n q]) ∧ DocOwn w' w.heap.size w'.heap.size (.slice p n q) rbs d) ∧ Below w.heap.size w w' := by
  obtain ⟨i0, hi0, hz0, hz1, hz2⟩ := info_parts Try.info40
  have HN : Hid (n = d.length) := h.1
  have hc := h.2.1
  have hm := h.2.2.1
  unfold maxLen at hm
  have hn8 : n ≤ 8 := by
    have := ho
    unfold outlB at this
    rw [Bool.and_eq_true, decide_eq_true_eq] at this
    rw [h.1]
    exact this.1
  have H : Hid (Outl w a n cap d) := h
  have HP : Hid (d.all partBB = true) := hp
  have HOu : Hid (outlB d = true) := ho
  clear h hp ho
  go_enter Try.func70, Try.ntmps70
  go_upto_region 2 with fail
  have B0 : Below w.heap.size w ((w.alloc (.cells #[.slice none 0 0] 25)).alloc (.cells #[.slice none 0 0] 25)) := ((Below.refl _ _).alloc (Nat.le_refl _) _).alloc (by simp) _
  have G0 : RowAt ((w.alloc (.cells #[.slice none 0 0] 25)).alloc (.cells #[.slice none 0 0] 25)) w.heap.size #[.slice none 0 0] 25 := (rowAt_new w _ _).alloc _
  have G1 : RowAt ((w.alloc (.cells #[.slice none 0 0] 25)).alloc (.cells #[.slice none 0 0] 25)) (w.heap.size + 1) #[.slice none 0 0] 25 := by
    have := rowAt_new (w.alloc (.cells #[.slice none 0 0] 25)) #[.slice none 0 0] 25
    simpa using this
  generalize ((w.alloc (.cells #[.slice none 0 0] 25)).alloc (.cells #[.slice none 0 0] 25)) = v0 at B0 G0 G1 ⊢
  have l0 := G0.lt
  have l1 := G1.lt
  have s0 := B0.size
  have H0 : Hid (RowAt v0 w.heap.size #[.slice none 0 0] 25) := G0
  have H1 : Hid (RowAt v0 (w.heap.size + 1) #[.slice none 0 0] 25) := G1
  have HB0 : Hid (Below w.heap.size w v0) := B0
  clear G0 G1 B0
  go_wp2_with fail
  go_loopw [8, 5] (fun iv pv wr => ∃ (i : Nat) (da : Option Addr) (dc : Nat) (rbs : List Rb), i ≤ n ∧ iv = .int .i64 i ∧ RowAt wr w.heap.size #[.slice none 0 0] 25 ∧ RowAt wr (w.heap.size + 1) #[.slice da i dc] 25 ∧ DocOwn wr v0.heap.size wr.heap.size (.slice da i dc) rbs (d.take i) ∧ v0.heap.size ≤ wr.heap.size ∧ Below w.heap.size w wr) (fun iv _ _ => n - (intOf iv).toNat)
  case atStart => exact ⟨0, none, 0, [], Nat.zero_le _, rfl, H0.out, H1.out, DocOwn.nil _ _ _, Nat.le_refl _, HB0.out⟩
  case round =>
    obtain ⟨i, da, dc, rbs, hi, rfl, hG0, hG1, hD, hss, hB⟩ := hrel
    have HG0 : Hid (RowAt wr w.heap.size #[.slice none 0 0] 25) := hG0
    have HG1 : Hid (RowAt wr (w.heap.size + 1) #[.slice da i dc] 25) := hG1
    have HD : Hid (DocOwn wr v0.heap.size wr.heap.size (.slice da i dc) rbs (d.take i)) := hD
    have HB : Hid (Below w.heap.size w wr) := hB
    have lz0 := hG0.lt
    have lz1 := hG1.lt
    have hq1 := hD.dc.2.1
    have hq2 := hD.dc.2.2.1
    unfold maxLen at hq2
    clear hG0 hG1 hD
    by_cases hlt : i < n
    · have hil : i < d.length := by have := HN.out; omega
      have hib : (i : Int) < (n : Int) := by omega
      have hi0' : (0 : Int) ≤ (i : Int) := by omega
      have HTK : Hid (d.take (i + 1) = d.take i ++ [d.getD i bl0]) := by
        show d.take (i + 1) = d.take i ++ [d.getD i bl0]
        rw [List.take_succ_eq_append_getElem hil, getD_bl hil]
      have hil2 : i = (d.take i).length := by rw [List.length_take]; omega
      have hpb : partBB (d.getD i bl0) = true := by
        rw [getD_bl hil]
        exact List.all_eq_true.1 HP.out _ (List.getElem_mem hil)
      have hpo := part_small (outlB_part HOu.out hil)
      rcases (H.out.below hB).2.2.2 with e | ⟨b, off, rfl, hbl, hcl⟩
      · rw [e] at hil
        exact absurd hil (by simp)
      obtain ⟨ta, tn, tc, ca, cn, cc, hcell, ht, htb⟩ := hcl i hil
      obtain ⟨⟨K, V, t, R, C, l⟩, hx⟩ : ∃ x, x = d.getD i bl0 := ⟨_, rfl⟩
      rw [← hx] at hcell ht htb hpb hpo HTK
      simp only at hcell ht htb hpo
      clear hcl hx hB
      have HIL : Hid (i = (d.take i).length) := hil2
      clear hil2
      rcases partB_kind hpb with hK | hK | hK
      · subst hK
        obtain ⟨rfl, rfl, rfl, rfl⟩ := partBB_para hpb
        have htn : tn ≤ 24 := by rw [ht.1]; exact hpo.1 (.inl rfl)
        have HX : Hid (Txt wr ta tn tc t) := ht
        have c0 : wr.cell? ⟨b, off + i, none⟩ = some (.iface 109 (.agg #[.slice ta tn tc])) := hcell
        clear hcell ht htb hpb hpo
        go_upto_region 5 with fail
        clear c0
        refine wp_region_noPanic ?_
        refine wp_region_held_drew (S := fun w' => True) (by kernel_rfl) trivial (fun hHeld => ?_)
        have HG0d : Hid (RowAt wr.drew w.heap.size #[.slice none 0 0] 25) := HG0.out.drew
        have HG1d : Hid (RowAt wr.drew (w.heap.size + 1) #[.slice da i dc] 25) := HG1.out.drew
        have HDd : Hid (DocOwn wr.drew v0.heap.size wr.heap.size (.slice da i dc) rbs (d.take i)) := HD.out.below (Nat.le_refl _) (Below.refl _ _).drew
        have HBd : Hid (Below w.heap.size w wr.drew) := HB.out.drew
        have HXd : Hid (Txt wr.drew ta tn tc t) := HX.out.below (Below.refl _ _).drew
        have sd : wr.heap.size = wr.drew.heap.size := rfl
        rw [sd] at HDd hss lz0 lz1
        clear HG0 HD HB HX HG1
        generalize wr.drew = u1 at HG0d HG1d HDd HBd HXd sd hss lz0 lz1 ⊢
        refine take_at 0 12 (.pointer (some ⟨(w.heap.size + 1), 0, none⟩)) rfl rfl (by kernel_rfl) (by kernel_rfl) (by kernel_rfl) (fun _ _ _ h => h) (Or.inl ⟨by kernel_rfl, fun w' hS' => by go_simp⟩) hHeld ?_
        (try simp only [Act.put, List.setIfInBounds_toArray, List.set_cons_zero, List.set_cons_succ])
        refine take_at 2 14 (.iface 109 (.agg #[.slice ta tn tc])) rfl rfl (by kernel_rfl) (by kernel_rfl) (by kernel_rfl) (fun _ _ _ h => h) (Or.inl ⟨by kernel_rfl, fun w' hS' => by go_simp⟩) hHeld ?_
        (try simp only [Act.put, List.setIfInBounds_toArray, List.set_cons_zero, List.set_cons_succ])
        refine wpAnyH_ready (rs := [1, 3]) (by kernel_rfl) (by simp) ?_
        refine AllReadyH.cons rfl (fun K hK => ?_) (AllReadyH.cons rfl (fun K hK => ?_) AllReadyH.nil)
        · have d4 := RowAt.cell HG1d.out 0
          simp at d4
          go_simp
          refine hK.out _ _ trivial (fun hHeld => ?_)
          clear hK K d4
          (try simp only [Act.put, List.setIfInBounds_toArray, List.set_cons_zero, List.set_cons_succ])
          refine wpAnyH_ready (rs := [3]) (by kernel_rfl) (by simp) ?_
          refine AllReadyH.cons rfl (fun K hK => ?_) AllReadyH.nil
          go_simp
          change Calls Try.prog 119 #[.agg #[.slice ta tn tc]] _ _
          refine (paraBlock_any HXd.out (by omega)).mono ?_
          rintro e u2 ⟨⟨p, q, rfl, how⟩, hb2⟩
          have s2 := hb2.size
          have HG02 : Hid (RowAt u2 w.heap.size #[.slice none 0 0] 25) := HG0d.out.below hb2 lz0
          have HG12 : Hid (RowAt u2 (w.heap.size + 1) #[.slice da i dc] 25) := HG1d.out.below hb2 lz1
          have HD2 : Hid (DocOwn u2 v0.heap.size u1.heap.size (.slice da i dc) rbs (d.take i)) := HDd.out.below (Nat.le_refl _) hb2
          have HB2 : Hid (Below w.heap.size w u2) := HBd.out.trans (hb2.mono (by omega))
          have HW2 : Hid (BlOwn u2 u1.heap.size u2.heap.size u2.heap.size (1, 0, (p, tn, q), 0, 0, (none, 0, 0)) (1, 0, t, 0, 0, [])) := how
          go_wp2_with fail
          refine hK.out _ _ trivial (fun hHeld => ?_)
          clear hK K how hb2 HG0d HG1d HDd HBd HXd
          (try simp only [Act.put, List.setIfInBounds_toArray, List.set_cons_zero, List.set_cons_succ])
          refine wpAnyH_ready (rs := [4]) (by kernel_rfl) (by simp) ?_
          refine AllReadyH.cons rfl (fun K hK => ?_) AllReadyH.nil
          go_simp
          have A3 : Below u2.heap.size u2 (u2.alloc (.cells #[.int .i64 1, .int .i64 0, .slice p tn q, .int .i64 0, .int .i64 0, .slice none 0 0] 40)) := (Below.refl _ _).alloc (Nat.le_refl _) _
          have HN3 : Hid (∀ j u, [.int .i64 1, .int .i64 0, .slice p tn q, .int .i64 0, .int .i64 0, .slice none 0 0][j]? = some u → (u2.alloc (.cells #[.int .i64 1, .int .i64 0, .slice p tn q, .int .i64 0, .int .i64 0, .slice none 0 0] 40)).cell? ((⟨u2.heap.size, 0, none⟩ : Addr).add j) = some u) := cells6_new _ _ _ _ _ _ _ _
          have HG03 : Hid (RowAt (u2.alloc (.cells #[.int .i64 1, .int .i64 0, .slice p tn q, .int .i64 0, .int .i64 0, .slice none 0 0] 40)) w.heap.size #[.slice none 0 0] 25) := HG02.out.alloc _
          have HG13 : Hid (RowAt (u2.alloc (.cells #[.int .i64 1, .int .i64 0, .slice p tn q, .int .i64 0, .int .i64 0, .slice none 0 0] 40)) (w.heap.size + 1) #[.slice da i dc] 25) := HG12.out.alloc _
          have HD3 : Hid (DocOwn (u2.alloc (.cells #[.int .i64 1, .int .i64 0, .slice p tn q, .int .i64 0, .int .i64 0, .slice none 0 0] 40)) v0.heap.size u1.heap.size (.slice da i dc) rbs (d.take i)) := HD2.out.mid (fun b _ hb' => A3.block b (by omega))
          have HB3 : Hid (Below w.heap.size w (u2.alloc (.cells #[.int .i64 1, .int .i64 0, .slice p tn q, .int .i64 0, .int .i64 0, .slice none 0 0] 40))) := HB2.out.alloc (by omega) _
          have HW3 : Hid (BlOwn (u2.alloc (.cells #[.int .i64 1, .int .i64 0, .slice p tn q, .int .i64 0, .int .i64 0, .slice none 0 0] 40)) u1.heap.size u2.heap.size u2.heap.size (1, 0, (p, tn, q), 0, 0, (none, 0, 0)) (1, 0, t, 0, 0, [])) := HW2.out.mid (fun b _ hb' => A3.block b hb')
          have s3 : (u2.alloc (.cells #[.int .i64 1, .int .i64 0, .slice p tn q, .int .i64 0, .int .i64 0, .slice none 0 0] 40)).heap.size = u2.heap.size + 1 := by simp
          refine hK.out _ _ trivial (fun hHeld => ?_)
          clear hK K A3 HG02 HG12 HD2 HB2 HW2
          (try simp only [Act.put, List.setIfInBounds_toArray, List.set_cons_zero, List.set_cons_succ])
          generalize (u2.alloc (.cells #[.int .i64 1, .int .i64 0, .slice p tn q, .int .i64 0, .int .i64 0, .slice none 0 0] 40)) = u3 at HN3 HG03 HG13 HD3 HB3 HW3 s3 ⊢
          refine wpAnyH_ready (rs := [5]) (by kernel_rfl) (by simp) ?_
          refine AllReadyH.cons rfl (fun K hK => ?_) AllReadyH.nil
          rw [if_pos (by kernel_rfl)]
          have HDl : Hid (rbs.length = i) := by
            have e1 := HD3.out.2.2.1
            have e2 := HIL.out
            show rbs.length = i
            omega
          have hrw : u3.ownsRow v0.heap.size 40 6 (.slice da i dc) i (flat6 rbs) := by
            have h1 := HD3.out.1
            rw [HDl.out] at h1
            exact h1
          refine wp_append_own u3 (.tmp 13) (.tmp 16) 23 rfl v0.heap.size 40 i0 _ 6 80 Try.underlying23 hi0 hz0 hz1 hz2 rfl (by decide) (.slice da i dc) i (flat6 rbs) rfl hrw ⟨u2.heap.size, 0, none⟩ 1 1 [.int .i64 1, .int .i64 0, .slice p tn q, .int .i64 0, .int .i64 0, .slice none 0 0] rfl rfl HN3.out (rb_one (1, 0, (p, tn, q), 0, 0, (none, 0, 0))) (by unfold maxLen; omega) (by omega) (by omega) ?_
          intro v' u4 hown hgrow _
          have s4 := hgrow.size
          have HD4 : Hid (DocOwn u4 v0.heap.size u4.heap.size v' (rbs ++ [(1, 0, (p, tn, q), 0, 0, (none, 0, 0))]) (d.take i ++ [(1, 0, t, 0, 0, [])])) := docOwn_snoc HD3.out HIL.out HW3.out (by omega) s2 (by omega) hown hgrow
          have hne : ∀ g, (Value.slice da i dc).ownBlock = some g → v0.heap.size ≤ g := fun g hg => (own_lt hrw hg).1
          have HG04 : Hid (RowAt u4 w.heap.size #[.slice none 0 0] 25) := HG03.out.grown hgrow (fun e => by have := hne _ e; omega)
          have HG14 : Hid (RowAt u4 (w.heap.size + 1) #[.slice da i dc] 25) := HG13.out.grown hgrow (fun e => by have := hne _ e; omega)
          have HB4 : Hid (Below w.heap.size w u4) := HB3.out.grown hgrow (by omega) (fun k hk => by have := hne _ hk; omega)
          obtain ⟨da', dc', rfl⟩ : ∃ a c, v' = .slice a (i + 1) c := by
            obtain ⟨a1, c1, e1⟩ := HD4.out.shape
            refine ⟨a1, c1, ?_⟩
            rw [e1, List.length_append, ← HIL.out]
            rfl
          refine hK.out _ _ trivial (fun hHeld => ?_)
          clear hK K hown hgrow hrw hne HN3 HG03 HG13 HD3 HB3 HW3
          (try simp only [Act.put, List.setIfInBounds_toArray])
          refine take_at 6 18 (.pointer (some ⟨w.heap.size + 1, 0, none⟩)) rfl rfl (by kernel_rfl) (by kernel_rfl) (by kernel_rfl) (fun _ _ _ h => h) (Or.inl ⟨by kernel_rfl, fun w' hS' => by go_simp⟩) hHeld ?_
          (try simp only [Act.put])
          refine wpAnyH_ready (rs := [7]) (by kernel_rfl) (by simp) ?_
          refine AllReadyH.cons rfl (fun K hK => ?_) AllReadyH.nil
          have f4 := RowAt.frozen HG14.out 0
          have d4 := RowAt.cell HG14.out 0
          simp at d4
          rw [if_pos (by kernel_rfl)]
          go_simp
          refine hK.out _ _ trivial (fun hHeld => ?_)
          clear hK K f4 d4
          (try simp only [Act.put])
          refine wpAnyH_done (by kernel_rfl) ?_ _
          refine NoPanic.normal ?_
          clear hHeld
          go_wp2_with fail
          go_roundw
          case rel =>
            refine ⟨i + 1, da', dc', rbs ++ [(1, 0, (p, tn, q), 0, 0, (none, 0, 0))], by omega, by go_num, HG04.out.other _ _ (by simp), HG14.out.setCell 0 _, ?_, by simp; omega, HB4.out.setCell (by show _ ≤ w.heap.size + 1; omega) _⟩
            rw [HTK.out]
            refine (HD4.out.mid (fun b hb hb' => Go.Deep.blk_setCell_other _ _ _ _ (by simp; omega))).less (Nat.le_refl _) (by simp)
          case measure => simp [intOf]; omega
        · go_simp
          change Calls Try.prog 119 #[.agg #[.slice ta tn tc]] _ _
          refine (paraBlock_any HXd.out (by omega)).mono ?_
          rintro e u2 ⟨⟨p, q, rfl, how⟩, hb2⟩
          have s2 := hb2.size
          have HG02 : Hid (RowAt u2 w.heap.size #[.slice none 0 0] 25) := HG0d.out.below hb2 lz0
          have HG12 : Hid (RowAt u2 (w.heap.size + 1) #[.slice da i dc] 25) := HG1d.out.below hb2 lz1
          have HD2 : Hid (DocOwn u2 v0.heap.size u1.heap.size (.slice da i dc) rbs (d.take i)) := HDd.out.below (Nat.le_refl _) hb2
          have HB2 : Hid (Below w.heap.size w u2) := HBd.out.trans (hb2.mono (by omega))
          have HW2 : Hid (BlOwn u2 u1.heap.size u2.heap.size u2.heap.size (1, 0, (p, tn, q), 0, 0, (none, 0, 0)) (1, 0, t, 0, 0, [])) := how
          go_wp2_with fail
          refine hK.out _ _ trivial (fun hHeld => ?_)
          clear hK K how hb2 HG0d HG1d HDd HBd HXd
          (try simp only [Act.put, List.setIfInBounds_toArray, List.set_cons_zero, List.set_cons_succ])
          refine wpAnyH_ready (rs := [1, 4]) (by kernel_rfl) (by simp) ?_
          refine AllReadyH.cons rfl (fun K hK => ?_) (AllReadyH.cons rfl (fun K hK => ?_) AllReadyH.nil)
          · have d4 := RowAt.cell HG12.out 0
            simp at d4
            go_simp
            refine hK.out _ _ trivial (fun hHeld => ?_)
            clear hK K d4
            (try simp only [Act.put, List.setIfInBounds_toArray, List.set_cons_zero, List.set_cons_succ])
            refine wpAnyH_ready (rs := [4]) (by kernel_rfl) (by simp) ?_
            refine AllReadyH.cons rfl (fun K hK => ?_) AllReadyH.nil
            go_simp
            have A3 : Below u2.heap.size u2 (u2.alloc (.cells #[.int .i64 1, .int .i64 0, .slice p tn q, .int .i64 0, .int .i64 0, .slice none 0 0] 40)) := (Below.refl _ _).alloc (Nat.le_refl _) _
            have HN3 : Hid (∀ j u, [.int .i64 1, .int .i64 0, .slice p tn q, .int .i64 0, .int .i64 0, .slice none 0 0][j]? = some u → (u2.alloc (.cells #[.int .i64 1, .int .i64 0, .slice p tn q, .int .i64 0, .int .i64 0, .slice none 0 0] 40)).cell? ((⟨u2.heap.size, 0, none⟩ : Addr).add j) = some u) := cells6_new _ _ _ _ _ _ _ _
            have HG03 : Hid (RowAt (u2.alloc (.cells #[.int .i64 1, .int .i64 0, .slice p tn q, .int .i64 0, .int .i64 0, .slice none 0 0] 40)) w.heap.size #[.slice none 0 0] 25) := HG02.out.alloc _
            have HG13 : Hid (RowAt (u2.alloc (.cells #[.int .i64 1, .int .i64 0, .slice p tn q, .int .i64 0, .int .i64 0, .slice none 0 0] 40)) (w.heap.size + 1) #[.slice da i dc] 25) := HG12.out.alloc _
            have HD3 : Hid (DocOwn (u2.alloc (.cells #[.int .i64 1, .int .i64 0, .slice p tn q, .int .i64 0, .int .i64 0, .slice none 0 0] 40)) v0.heap.size u1.heap.size (.slice da i dc) rbs (d.take i)) := HD2.out.mid (fun b _ hb' => A3.block b (by omega))
            have HB3 : Hid (Below w.heap.size w (u2.alloc (.cells #[.int .i64 1, .int .i64 0, .slice p tn q, .int .i64 0, .int .i64 0, .slice none 0 0] 40))) := HB2.out.alloc (by omega) _
            have HW3 : Hid (BlOwn (u2.alloc (.cells #[.int .i64 1, .int .i64 0, .slice p tn q, .int .i64 0, .int .i64 0, .slice none 0 0] 40)) u1.heap.size u2.heap.size u2.heap.size (1, 0, (p, tn, q), 0, 0, (none, 0, 0)) (1, 0, t, 0, 0, [])) := HW2.out.mid (fun b _ hb' => A3.block b hb')
            have s3 : (u2.alloc (.cells #[.int .i64 1, .int .i64 0, .slice p tn q, .int .i64 0, .int .i64 0, .slice none 0 0] 40)).heap.size = u2.heap.size + 1 := by simp
            refine hK.out _ _ trivial (fun hHeld => ?_)
            clear hK K A3 HG02 HG12 HD2 HB2 HW2
            (try simp only [Act.put, List.setIfInBounds_toArray, List.set_cons_zero, List.set_cons_succ])
            generalize (u2.alloc (.cells #[.int .i64 1, .int .i64 0, .slice p tn q, .int .i64 0, .int .i64 0, .slice none 0 0] 40)) = u3 at HN3 HG03 HG13 HD3 HB3 HW3 s3 ⊢
            refine wpAnyH_ready (rs := [5]) (by kernel_rfl) (by simp) ?_
            refine AllReadyH.cons rfl (fun K hK => ?_) AllReadyH.nil
            rw [if_pos (by kernel_rfl)]
            have HDl : Hid (rbs.length = i) := by
              have e1 := HD3.out.2.2.1
              have e2 := HIL.out
              show rbs.length = i
              omega
            have hrw : u3.ownsRow v0.heap.size 40 6 (.slice da i dc) i (flat6 rbs) := by
              have h1 := HD3.out.1
              rw [HDl.out] at h1
              exact h1
            refine wp_append_own u3 (.tmp 13) (.tmp 16) 23 rfl v0.heap.size 40 i0 _ 6 80 Try.underlying23 hi0 hz0 hz1 hz2 rfl (by decide) (.slice da i dc) i (flat6 rbs) rfl hrw ⟨u2.heap.size, 0, none⟩ 1 1 [.int .i64 1, .int .i64 0, .slice p tn q, .int .i64 0, .int .i64 0, .slice none 0 0] rfl rfl HN3.out (rb_one (1, 0, (p, tn, q), 0, 0, (none, 0, 0))) (by unfold maxLen; omega) (by omega) (by omega) ?_
            intro v' u4 hown hgrow _
            have s4 := hgrow.size
            have HD4 : Hid (DocOwn u4 v0.heap.size u4.heap.size v' (rbs ++ [(1, 0, (p, tn, q), 0, 0, (none, 0, 0))]) (d.take i ++ [(1, 0, t, 0, 0, [])])) := docOwn_snoc HD3.out HIL.out HW3.out (by omega) s2 (by omega) hown hgrow
            have hne : ∀ g, (Value.slice da i dc).ownBlock = some g → v0.heap.size ≤ g := fun g hg => (own_lt hrw hg).1
            have HG04 : Hid (RowAt u4 w.heap.size #[.slice none 0 0] 25) := HG03.out.grown hgrow (fun e => by have := hne _ e; omega)
            have HG14 : Hid (RowAt u4 (w.heap.size + 1) #[.slice da i dc] 25) := HG13.out.grown hgrow (fun e => by have := hne _ e; omega)
            have HB4 : Hid (Below w.heap.size w u4) := HB3.out.grown hgrow (by omega) (fun k hk => by have := hne _ hk; omega)
            obtain ⟨da', dc', rfl⟩ : ∃ a c, v' = .slice a (i + 1) c := by
              obtain ⟨a1, c1, e1⟩ := HD4.out.shape
              refine ⟨a1, c1, ?_⟩
              rw [e1, List.length_append, ← HIL.out]
              rfl
            refine hK.out _ _ trivial (fun hHeld => ?_)
            clear hK K hown hgrow hrw hne HN3 HG03 HG13 HD3 HB3 HW3
            (try simp only [Act.put, List.setIfInBounds_toArray])
            refine take_at 6 18 (.pointer (some ⟨w.heap.size + 1, 0, none⟩)) rfl rfl (by kernel_rfl) (by kernel_rfl) (by kernel_rfl) (fun _ _ _ h => h) (Or.inl ⟨by kernel_rfl, fun w' hS' => by go_simp⟩) hHeld ?_
            (try simp only [Act.put])
            refine wpAnyH_ready (rs := [7]) (by kernel_rfl) (by simp) ?_
            refine AllReadyH.cons rfl (fun K hK => ?_) AllReadyH.nil
            have f4 := RowAt.frozen HG14.out 0
            have d4 := RowAt.cell HG14.out 0
            simp at d4
            rw [if_pos (by kernel_rfl)]
            go_simp
            refine hK.out _ _ trivial (fun hHeld => ?_)
            clear hK K f4 d4
            (try simp only [Act.put])
            refine wpAnyH_done (by kernel_rfl) ?_ _
            refine NoPanic.normal ?_
            clear hHeld
            go_wp2_with fail
            go_roundw
            case rel =>
              refine ⟨i + 1, da', dc', rbs ++ [(1, 0, (p, tn, q), 0, 0, (none, 0, 0))], by omega, by go_num, HG04.out.other _ _ (by simp), HG14.out.setCell 0 _, ?_, by simp; omega, HB4.out.setCell (by show _ ≤ w.heap.size + 1; omega) _⟩
              rw [HTK.out]
              refine (HD4.out.mid (fun b hb hb' => Go.Deep.blk_setCell_other _ _ _ _ (by simp; omega))).less (Nat.le_refl _) (by simp)
            case measure => simp [intOf]; omega
          · go_simp
            have A3 : Below u2.heap.size u2 (u2.alloc (.cells #[.int .i64 1, .int .i64 0, .slice p tn q, .int .i64 0, .int .i64 0, .slice none 0 0] 40)) := (Below.refl _ _).alloc (Nat.le_refl _) _
            have HN3 : Hid (∀ j u, [.int .i64 1, .int .i64 0, .slice p tn q, .int .i64 0, .int .i64 0, .slice none 0 0][j]? = some u → (u2.alloc (.cells #[.int .i64 1, .int .i64 0, .slice p tn q, .int .i64 0, .int .i64 0, .slice none 0 0] 40)).cell? ((⟨u2.heap.size, 0, none⟩ : Addr).add j) = some u) := cells6_new _ _ _ _ _ _ _ _
            have HG03 : Hid (RowAt (u2.alloc (.cells #[.int .i64 1, .int .i64 0, .slice p tn q, .int .i64 0, .int .i64 0, .slice none 0 0] 40)) w.heap.size #[.slice none 0 0] 25) := HG02.out.alloc _
            have HG13 : Hid (RowAt (u2.alloc (.cells #[.int .i64 1, .int .i64 0, .slice p tn q, .int .i64 0, .int .i64 0, .slice none 0 0] 40)) (w.heap.size + 1) #[.slice da i dc] 25) := HG12.out.alloc _
            have HD3 : Hid (DocOwn (u2.alloc (.cells #[.int .i64 1, .int .i64 0, .slice p tn q, .int .i64 0, .int .i64 0, .slice none 0 0] 40)) v0.heap.size u1.heap.size (.slice da i dc) rbs (d.take i)) := HD2.out.mid (fun b _ hb' => A3.block b (by omega))
            have HB3 : Hid (Below w.heap.size w (u2.alloc (.cells #[.int .i64 1, .int .i64 0, .slice p tn q, .int .i64 0, .int .i64 0, .slice none 0 0] 40))) := HB2.out.alloc (by omega) _
            have HW3 : Hid (BlOwn (u2.alloc (.cells #[.int .i64 1, .int .i64 0, .slice p tn q, .int .i64 0, .int .i64 0, .slice none 0 0] 40)) u1.heap.size u2.heap.size u2.heap.size (1, 0, (p, tn, q), 0, 0, (none, 0, 0)) (1, 0, t, 0, 0, [])) := HW2.out.mid (fun b _ hb' => A3.block b hb')
            have s3 : (u2.alloc (.cells #[.int .i64 1, .int .i64 0, .slice p tn q, .int .i64 0, .int .i64 0, .slice none 0 0] 40)).heap.size = u2.heap.size + 1 := by simp
            refine hK.out _ _ trivial (fun hHeld => ?_)
            clear hK K A3 HG02 HG12 HD2 HB2 HW2
            (try simp only [Act.put, List.setIfInBounds_toArray, List.set_cons_zero, List.set_cons_succ])
            generalize (u2.alloc (.cells #[.int .i64 1, .int .i64 0, .slice p tn q, .int .i64 0, .int .i64 0, .slice none 0 0] 40)) = u3 at HN3 HG03 HG13 HD3 HB3 HW3 s3 ⊢
            refine wpAnyH_ready (rs := [1]) (by kernel_rfl) (by simp) ?_
            refine AllReadyH.cons rfl (fun K hK => ?_) AllReadyH.nil
            have d4 := RowAt.cell HG13.out 0
            simp at d4
            go_simp
            refine hK.out _ _ trivial (fun hHeld => ?_)
            clear hK K d4
            (try simp only [Act.put, List.setIfInBounds_toArray, List.set_cons_zero, List.set_cons_succ])
            refine wpAnyH_ready (rs := [5]) (by kernel_rfl) (by simp) ?_
            refine AllReadyH.cons rfl (fun K hK => ?_) AllReadyH.nil
            rw [if_pos (by kernel_rfl)]
            have HDl : Hid (rbs.length = i) := by
              have e1 := HD3.out.2.2.1
              have e2 := HIL.out
              show rbs.length = i
              omega
            have hrw : u3.ownsRow v0.heap.size 40 6 (.slice da i dc) i (flat6 rbs) := by
              have h1 := HD3.out.1
              rw [HDl.out] at h1
              exact h1
            refine wp_append_own u3 (.tmp 13) (.tmp 16) 23 rfl v0.heap.size 40 i0 _ 6 80 Try.underlying23 hi0 hz0 hz1 hz2 rfl (by decide) (.slice da i dc) i (flat6 rbs) rfl hrw ⟨u2.heap.size, 0, none⟩ 1 1 [.int .i64 1, .int .i64 0, .slice p tn q, .int .i64 0, .int .i64 0, .slice none 0 0] rfl rfl HN3.out (rb_one (1, 0, (p, tn, q), 0, 0, (none, 0, 0))) (by unfold maxLen; omega) (by omega) (by omega) ?_
            intro v' u4 hown hgrow _
            have s4 := hgrow.size
            have HD4 : Hid (DocOwn u4 v0.heap.size u4.heap.size v' (rbs ++ [(1, 0, (p, tn, q), 0, 0, (none, 0, 0))]) (d.take i ++ [(1, 0, t, 0, 0, [])])) := docOwn_snoc HD3.out HIL.out HW3.out (by omega) s2 (by omega) hown hgrow
            have hne : ∀ g, (Value.slice da i dc).ownBlock = some g → v0.heap.size ≤ g := fun g hg => (own_lt hrw hg).1
            have HG04 : Hid (RowAt u4 w.heap.size #[.slice none 0 0] 25) := HG03.out.grown hgrow (fun e => by have := hne _ e; omega)
            have HG14 : Hid (RowAt u4 (w.heap.size + 1) #[.slice da i dc] 25) := HG13.out.grown hgrow (fun e => by have := hne _ e; omega)
            have HB4 : Hid (Below w.heap.size w u4) := HB3.out.grown hgrow (by omega) (fun k hk => by have := hne _ hk; omega)
            obtain ⟨da', dc', rfl⟩ : ∃ a c, v' = .slice a (i + 1) c := by
              obtain ⟨a1, c1, e1⟩ := HD4.out.shape
              refine ⟨a1, c1, ?_⟩
              rw [e1, List.length_append, ← HIL.out]
              rfl
            refine hK.out _ _ trivial (fun hHeld => ?_)
            clear hK K hown hgrow hrw hne HN3 HG03 HG13 HD3 HB3 HW3
            (try simp only [Act.put, List.setIfInBounds_toArray])
            refine take_at 6 18 (.pointer (some ⟨w.heap.size + 1, 0, none⟩)) rfl rfl (by kernel_rfl) (by kernel_rfl) (by kernel_rfl) (fun _ _ _ h => h) (Or.inl ⟨by kernel_rfl, fun w' hS' => by go_simp⟩) hHeld ?_
            (try simp only [Act.put])
            refine wpAnyH_ready (rs := [7]) (by kernel_rfl) (by simp) ?_
            refine AllReadyH.cons rfl (fun K hK => ?_) AllReadyH.nil
            have f4 := RowAt.frozen HG14.out 0
            have d4 := RowAt.cell HG14.out 0
            simp at d4
            rw [if_pos (by kernel_rfl)]
            go_simp
            refine hK.out _ _ trivial (fun hHeld => ?_)
            clear hK K f4 d4
            (try simp only [Act.put])
            refine wpAnyH_done (by kernel_rfl) ?_ _
            refine NoPanic.normal ?_
            clear hHeld
            go_wp2_with fail
            go_roundw
            case rel =>
              refine ⟨i + 1, da', dc', rbs ++ [(1, 0, (p, tn, q), 0, 0, (none, 0, 0))], by omega, by go_num, HG04.out.other _ _ (by simp), HG14.out.setCell 0 _, ?_, by simp; omega, HB4.out.setCell (by show _ ≤ w.heap.size + 1; omega) _⟩
              rw [HTK.out]
              refine (HD4.out.mid (fun b hb hb' => Go.Deep.blk_setCell_other _ _ _ _ (by simp; omega))).less (Nat.le_refl _) (by simp)
            case measure => simp [intOf]; omega
      · subst hK
        obtain ⟨rfl, rfl, rfl⟩ := partBB_item hpb
        have htn : tn ≤ 24 := by rw [ht.1]; exact hpo.1 (.inr rfl)
        have HX : Hid (Txt wr ta tn tc t) := ht
        have c0 : wr.cell? ⟨b, off + i, none⟩ = some (.iface 111 (.agg #[.int .i64 V, .slice ta tn tc])) := hcell
        clear hcell ht htb hpb hpo
        go_upto_region 5 with fail
        clear c0
        refine wp_region_noPanic ?_
        refine wp_region_held_drew (S := fun w' => True) (by kernel_rfl) trivial (fun hHeld => ?_)
        have HG0d : Hid (RowAt wr.drew w.heap.size #[.slice none 0 0] 25) := HG0.out.drew
        have HG1d : Hid (RowAt wr.drew (w.heap.size + 1) #[.slice da i dc] 25) := HG1.out.drew
        have HDd : Hid (DocOwn wr.drew v0.heap.size wr.heap.size (.slice da i dc) rbs (d.take i)) := HD.out.below (Nat.le_refl _) (Below.refl _ _).drew
        have HBd : Hid (Below w.heap.size w wr.drew) := HB.out.drew
        have HXd : Hid (Txt wr.drew ta tn tc t) := HX.out.below (Below.refl _ _).drew
        have sd : wr.heap.size = wr.drew.heap.size := rfl
        rw [sd] at HDd hss lz0 lz1
        clear HG0 HD HB HX HG1
        generalize wr.drew = u1 at HG0d HG1d HDd HBd HXd sd hss lz0 lz1 ⊢
        refine take_at 0 12 (.pointer (some ⟨(w.heap.size + 1), 0, none⟩)) rfl rfl (by kernel_rfl) (by kernel_rfl) (by kernel_rfl) (fun _ _ _ h => h) (Or.inl ⟨by kernel_rfl, fun w' hS' => by go_simp⟩) hHeld ?_
        (try simp only [Act.put, List.setIfInBounds_toArray, List.set_cons_zero, List.set_cons_succ])
        refine take_at 2 14 (.iface 111 (.agg #[.int .i64 V, .slice ta tn tc])) rfl rfl (by kernel_rfl) (by kernel_rfl) (by kernel_rfl) (fun _ _ _ h => h) (Or.inl ⟨by kernel_rfl, fun w' hS' => by go_simp⟩) hHeld ?_
        (try simp only [Act.put, List.setIfInBounds_toArray, List.set_cons_zero, List.set_cons_succ])
        refine wpAnyH_ready (rs := [1, 3]) (by kernel_rfl) (by simp) ?_
        refine AllReadyH.cons rfl (fun K hK => ?_) (AllReadyH.cons rfl (fun K hK => ?_) AllReadyH.nil)
        · have d4 := RowAt.cell HG1d.out 0
          simp at d4
          go_simp
          refine hK.out _ _ trivial (fun hHeld => ?_)
          clear hK K d4
          (try simp only [Act.put, List.setIfInBounds_toArray, List.set_cons_zero, List.set_cons_succ])
          refine wpAnyH_ready (rs := [3]) (by kernel_rfl) (by simp) ?_
          refine AllReadyH.cons rfl (fun K hK => ?_) AllReadyH.nil
          go_simp
          change Calls Try.prog 145 #[.agg #[.int .i64 V, .slice ta tn tc]] _ _
          refine (itemBlock_any HXd.out (by omega)).mono ?_
          rintro e u2 ⟨⟨p, q, rfl, how⟩, hb2⟩
          have s2 := hb2.size
          have HG02 : Hid (RowAt u2 w.heap.size #[.slice none 0 0] 25) := HG0d.out.below hb2 lz0
          have HG12 : Hid (RowAt u2 (w.heap.size + 1) #[.slice da i dc] 25) := HG1d.out.below hb2 lz1
          have HD2 : Hid (DocOwn u2 v0.heap.size u1.heap.size (.slice da i dc) rbs (d.take i)) := HDd.out.below (Nat.le_refl _) hb2
          have HB2 : Hid (Below w.heap.size w u2) := HBd.out.trans (hb2.mono (by omega))
          have HW2 : Hid (BlOwn u2 u1.heap.size u2.heap.size u2.heap.size (2, V, (p, tn, q), 0, 0, (none, 0, 0)) (2, V, t, 0, 0, [])) := how
          go_wp2_with fail
          refine hK.out _ _ trivial (fun hHeld => ?_)
          clear hK K how hb2 HG0d HG1d HDd HBd HXd
          (try simp only [Act.put, List.setIfInBounds_toArray, List.set_cons_zero, List.set_cons_succ])
          refine wpAnyH_ready (rs := [4]) (by kernel_rfl) (by simp) ?_
          refine AllReadyH.cons rfl (fun K hK => ?_) AllReadyH.nil
          go_simp
          have A3 : Below u2.heap.size u2 (u2.alloc (.cells #[.int .i64 2, .int .i64 V, .slice p tn q, .int .i64 0, .int .i64 0, .slice none 0 0] 40)) := (Below.refl _ _).alloc (Nat.le_refl _) _
          have HN3 : Hid (∀ j u, [.int .i64 2, .int .i64 V, .slice p tn q, .int .i64 0, .int .i64 0, .slice none 0 0][j]? = some u → (u2.alloc (.cells #[.int .i64 2, .int .i64 V, .slice p tn q, .int .i64 0, .int .i64 0, .slice none 0 0] 40)).cell? ((⟨u2.heap.size, 0, none⟩ : Addr).add j) = some u) := cells6_new _ _ _ _ _ _ _ _
          have HG03 : Hid (RowAt (u2.alloc (.cells #[.int .i64 2, .int .i64 V, .slice p tn q, .int .i64 0, .int .i64 0, .slice none 0 0] 40)) w.heap.size #[.slice none 0 0] 25) := HG02.out.alloc _
          have HG13 : Hid (RowAt (u2.alloc (.cells #[.int .i64 2, .int .i64 V, .slice p tn q, .int .i64 0, .int .i64 0, .slice none 0 0] 40)) (w.heap.size + 1) #[.slice da i dc] 25) := HG12.out.alloc _
          have HD3 : Hid (DocOwn (u2.alloc (.cells #[.int .i64 2, .int .i64 V, .slice p tn q, .int .i64 0, .int .i64 0, .slice none 0 0] 40)) v0.heap.size u1.heap.size (.slice da i dc) rbs (d.take i)) := HD2.out.mid (fun b _ hb' => A3.block b (by omega))
          have HB3 : Hid (Below w.heap.size w (u2.alloc (.cells #[.int .i64 2, .int .i64 V, .slice p tn q, .int .i64 0, .int .i64 0, .slice none 0 0] 40))) := HB2.out.alloc (by omega) _
          have HW3 : Hid (BlOwn (u2.alloc (.cells #[.int .i64 2, .int .i64 V, .slice p tn q, .int .i64 0, .int .i64 0, .slice none 0 0] 40)) u1.heap.size u2.heap.size u2.heap.size (2, V, (p, tn, q), 0, 0, (none, 0, 0)) (2, V, t, 0, 0, [])) := HW2.out.mid (fun b _ hb' => A3.block b hb')
          have s3 : (u2.alloc (.cells #[.int .i64 2, .int .i64 V, .slice p tn q, .int .i64 0, .int .i64 0, .slice none 0 0] 40)).heap.size = u2.heap.size + 1 := by simp
          refine hK.out _ _ trivial (fun hHeld => ?_)
          clear hK K A3 HG02 HG12 HD2 HB2 HW2
          (try simp only [Act.put, List.setIfInBounds_toArray, List.set_cons_zero, List.set_cons_succ])
          generalize (u2.alloc (.cells #[.int .i64 2, .int .i64 V, .slice p tn q, .int .i64 0, .int .i64 0, .slice none 0 0] 40)) = u3 at HN3 HG03 HG13 HD3 HB3 HW3 s3 ⊢
          refine wpAnyH_ready (rs := [5]) (by kernel_rfl) (by simp) ?_
          refine AllReadyH.cons rfl (fun K hK => ?_) AllReadyH.nil
          rw [if_pos (by kernel_rfl)]
          have HDl : Hid (rbs.length = i) := by
            have e1 := HD3.out.2.2.1
            have e2 := HIL.out
            show rbs.length = i
            omega
          have hrw : u3.ownsRow v0.heap.size 40 6 (.slice da i dc) i (flat6 rbs) := by
            have h1 := HD3.out.1
            rw [HDl.out] at h1
            exact h1
          refine wp_append_own u3 (.tmp 13) (.tmp 16) 23 rfl v0.heap.size 40 i0 _ 6 80 Try.underlying23 hi0 hz0 hz1 hz2 rfl (by decide) (.slice da i dc) i (flat6 rbs) rfl hrw ⟨u2.heap.size, 0, none⟩ 1 1 [.int .i64 2, .int .i64 V, .slice p tn q, .int .i64 0, .int .i64 0, .slice none 0 0] rfl rfl HN3.out (rb_one (2, V, (p, tn, q), 0, 0, (none, 0, 0))) (by unfold maxLen; omega) (by omega) (by omega) ?_
          intro v' u4 hown hgrow _
          have s4 := hgrow.size
          have HD4 : Hid (DocOwn u4 v0.heap.size u4.heap.size v' (rbs ++ [(2, V, (p, tn, q), 0, 0, (none, 0, 0))]) (d.take i ++ [(2, V, t, 0, 0, [])])) := docOwn_snoc HD3.out HIL.out HW3.out (by omega) s2 (by omega) hown hgrow
          have hne : ∀ g, (Value.slice da i dc).ownBlock = some g → v0.heap.size ≤ g := fun g hg => (own_lt hrw hg).1
          have HG04 : Hid (RowAt u4 w.heap.size #[.slice none 0 0] 25) := HG03.out.grown hgrow (fun e => by have := hne _ e; omega)
          have HG14 : Hid (RowAt u4 (w.heap.size + 1) #[.slice da i dc] 25) := HG13.out.grown hgrow (fun e => by have := hne _ e; omega)
          have HB4 : Hid (Below w.heap.size w u4) := HB3.out.grown hgrow (by omega) (fun k hk => by have := hne _ hk; omega)
          obtain ⟨da', dc', rfl⟩ : ∃ a c, v' = .slice a (i + 1) c := by
            obtain ⟨a1, c1, e1⟩ := HD4.out.shape
            refine ⟨a1, c1, ?_⟩
            rw [e1, List.length_append, ← HIL.out]
            rfl
          refine hK.out _ _ trivial (fun hHeld => ?_)
          clear hK K hown hgrow hrw hne HN3 HG03 HG13 HD3 HB3 HW3
          (try simp only [Act.put, List.setIfInBounds_toArray])
          refine take_at 6 18 (.pointer (some ⟨w.heap.size + 1, 0, none⟩)) rfl rfl (by kernel_rfl) (by kernel_rfl) (by kernel_rfl) (fun _ _ _ h => h) (Or.inl ⟨by kernel_rfl, fun w' hS' => by go_simp⟩) hHeld ?_
          (try simp only [Act.put])
          refine wpAnyH_ready (rs := [7]) (by kernel_rfl) (by simp) ?_
          refine AllReadyH.cons rfl (fun K hK => ?_) AllReadyH.nil
          have f4 := RowAt.frozen HG14.out 0
          have d4 := RowAt.cell HG14.out 0
          simp at d4
          rw [if_pos (by kernel_rfl)]
          go_simp
          refine hK.out _ _ trivial (fun hHeld => ?_)
          clear hK K f4 d4
          (try simp only [Act.put])
          refine wpAnyH_done (by kernel_rfl) ?_ _
          refine NoPanic.normal ?_
          clear hHeld
          go_wp2_with fail
          go_roundw
          case rel =>
            refine ⟨i + 1, da', dc', rbs ++ [(2, V, (p, tn, q), 0, 0, (none, 0, 0))], by omega, by go_num, HG04.out.other _ _ (by simp), HG14.out.setCell 0 _, ?_, by simp; omega, HB4.out.setCell (by show _ ≤ w.heap.size + 1; omega) _⟩
            rw [HTK.out]
            refine (HD4.out.mid (fun b hb hb' => Go.Deep.blk_setCell_other _ _ _ _ (by simp; omega))).less (Nat.le_refl _) (by simp)
          case measure => simp [intOf]; omega
        · go_simp
          change Calls Try.prog 145 #[.agg #[.int .i64 V, .slice ta tn tc]] _ _
          refine (itemBlock_any HXd.out (by omega)).mono ?_
          rintro e u2 ⟨⟨p, q, rfl, how⟩, hb2⟩
          have s2 := hb2.size
          have HG02 : Hid (RowAt u2 w.heap.size #[.slice none 0 0] 25) := HG0d.out.below hb2 lz0
          have HG12 : Hid (RowAt u2 (w.heap.size + 1) #[.slice da i dc] 25) := HG1d.out.below hb2 lz1
          have HD2 : Hid (DocOwn u2 v0.heap.size u1.heap.size (.slice da i dc) rbs (d.take i)) := HDd.out.below (Nat.le_refl _) hb2
          have HB2 : Hid (Below w.heap.size w u2) := HBd.out.trans (hb2.mono (by omega))
          have HW2 : Hid (BlOwn u2 u1.heap.size u2.heap.size u2.heap.size (2, V, (p, tn, q), 0, 0, (none, 0, 0)) (2, V, t, 0, 0, [])) := how
          go_wp2_with fail
          refine hK.out _ _ trivial (fun hHeld => ?_)
          clear hK K how hb2 HG0d HG1d HDd HBd HXd
          (try simp only [Act.put, List.setIfInBounds_toArray, List.set_cons_zero, List.set_cons_succ])
          refine wpAnyH_ready (rs := [1, 4]) (by kernel_rfl) (by simp) ?_
          refine AllReadyH.cons rfl (fun K hK => ?_) (AllReadyH.cons rfl (fun K hK => ?_) AllReadyH.nil)
          · have d4 := RowAt.cell HG12.out 0
            simp at d4
            go_simp
            refine hK.out _ _ trivial (fun hHeld => ?_)
            clear hK K d4
            (try simp only [Act.put, List.setIfInBounds_toArray, List.set_cons_zero, List.set_cons_succ])
            refine wpAnyH_ready (rs := [4]) (by kernel_rfl) (by simp) ?_
            refine AllReadyH.cons rfl (fun K hK => ?_) AllReadyH.nil
            go_simp
            have A3 : Below u2.heap.size u2 (u2.alloc (.cells #[.int .i64 2, .int .i64 V, .slice p tn q, .int .i64 0, .int .i64 0, .slice none 0 0] 40)) := (Below.refl _ _).alloc (Nat.le_refl _) _
            have HN3 : Hid (∀ j u, [.int .i64 2, .int .i64 V, .slice p tn q, .int .i64 0, .int .i64 0, .slice none 0 0][j]? = some u → (u2.alloc (.cells #[.int .i64 2, .int .i64 V, .slice p tn q, .int .i64 0, .int .i64 0, .slice none 0 0] 40)).cell? ((⟨u2.heap.size, 0, none⟩ : Addr).add j) = some u) := cells6_new _ _ _ _ _ _ _ _
            have HG03 : Hid (RowAt (u2.alloc (.cells #[.int .i64 2, .int .i64 V, .slice p tn q, .int .i64 0, .int .i64 0, .slice none 0 0] 40)) w.heap.size #[.slice none 0 0] 25) := HG02.out.alloc _
            have HG13 : Hid (RowAt (u2.alloc (.cells #[.int .i64 2, .int .i64 V, .slice p tn q, .int .i64 0, .int .i64 0, .slice none 0 0] 40)) (w.heap.size + 1) #[.slice da i dc] 25) := HG12.out.alloc _
            have HD3 : Hid (DocOwn (u2.alloc (.cells #[.int .i64 2, .int .i64 V, .slice p tn q, .int .i64 0, .int .i64 0, .slice none 0 0] 40)) v0.heap.size u1.heap.size (.slice da i dc) rbs (d.take i)) := HD2.out.mid (fun b _ hb' => A3.block b (by omega))
            have HB3 : Hid (Below w.heap.size w (u2.alloc (.cells #[.int .i64 2, .int .i64 V, .slice p tn q, .int .i64 0, .int .i64 0, .slice none 0 0] 40))) := HB2.out.alloc (by omega) _
            have HW3 : Hid (BlOwn (u2.alloc (.cells #[.int .i64 2, .int .i64 V, .slice p tn q, .int .i64 0, .int .i64 0, .slice none 0 0] 40)) u1.heap.size u2.heap.size u2.heap.size (2, V, (p, tn, q), 0, 0, (none, 0, 0)) (2, V, t, 0, 0, [])) := HW2.out.mid (fun b _ hb' => A3.block b hb')
            have s3 : (u2.alloc (.cells #[.int .i64 2, .int .i64 V, .slice p tn q, .int .i64 0, .int .i64 0, .slice none 0 0] 40)).heap.size = u2.heap.size + 1 := by simp
            refine hK.out _ _ trivial (fun hHeld => ?_)
            clear hK K A3 HG02 HG12 HD2 HB2 HW2
            (try simp only [Act.put, List.setIfInBounds_toArray, List.set_cons_zero, List.set_cons_succ])
            generalize (u2.alloc (.cells #[.int .i64 2, .int .i64 V, .slice p tn q, .int .i64 0, .int .i64 0, .slice none 0 0] 40)) = u3 at HN3 HG03 HG13 HD3 HB3 HW3 s3 ⊢
            refine wpAnyH_ready (rs := [5]) (by kernel_rfl) (by simp) ?_
            refine AllReadyH.cons rfl (fun K hK => ?_) AllReadyH.nil
            rw [if_pos (by kernel_rfl)]
            have HDl : Hid (rbs.length = i) := by
              have e1 := HD3.out.2.2.1
              have e2 := HIL.out
              show rbs.length = i
              omega
            have hrw : u3.ownsRow v0.heap.size 40 6 (.slice da i dc) i (flat6 rbs) := by
              have h1 := HD3.out.1
              rw [HDl.out] at h1
              exact h1
            refine wp_append_own u3 (.tmp 13) (.tmp 16) 23 rfl v0.heap.size 40 i0 _ 6 80 Try.underlying23 hi0 hz0 hz1 hz2 rfl (by decide) (.slice da i dc) i (flat6 rbs) rfl hrw ⟨u2.heap.size, 0, none⟩ 1 1 [.int .i64 2, .int .i64 V, .slice p tn q, .int .i64 0, .int .i64 0, .slice none 0 0] rfl rfl HN3.out (rb_one (2, V, (p, tn, q), 0, 0, (none, 0, 0))) (by unfold maxLen; omega) (by omega) (by omega) ?_
            intro v' u4 hown hgrow _
            have s4 := hgrow.size
            have HD4 : Hid (DocOwn u4 v0.heap.size u4.heap.size v' (rbs ++ [(2, V, (p, tn, q), 0, 0, (none, 0, 0))]) (d.take i ++ [(2, V, t, 0, 0, [])])) := docOwn_snoc HD3.out HIL.out HW3.out (by omega) s2 (by omega) hown hgrow
            have hne : ∀ g, (Value.slice da i dc).ownBlock = some g → v0.heap.size ≤ g := fun g hg => (own_lt hrw hg).1
            have HG04 : Hid (RowAt u4 w.heap.size #[.slice none 0 0] 25) := HG03.out.grown hgrow (fun e => by have := hne _ e; omega)
            have HG14 : Hid (RowAt u4 (w.heap.size + 1) #[.slice da i dc] 25) := HG13.out.grown hgrow (fun e => by have := hne _ e; omega)
            have HB4 : Hid (Below w.heap.size w u4) := HB3.out.grown hgrow (by omega) (fun k hk => by have := hne _ hk; omega)
            obtain ⟨da', dc', rfl⟩ : ∃ a c, v' = .slice a (i + 1) c := by
              obtain ⟨a1, c1, e1⟩ := HD4.out.shape
              refine ⟨a1, c1, ?_⟩
              rw [e1, List.length_append, ← HIL.out]
              rfl
            refine hK.out _ _ trivial (fun hHeld => ?_)
            clear hK K hown hgrow hrw hne HN3 HG03 HG13 HD3 HB3 HW3
            (try simp only [Act.put, List.setIfInBounds_toArray])
            refine take_at 6 18 (.pointer (some ⟨w.heap.size + 1, 0, none⟩)) rfl rfl (by kernel_rfl) (by kernel_rfl) (by kernel_rfl) (fun _ _ _ h => h) (Or.inl ⟨by kernel_rfl, fun w' hS' => by go_simp⟩) hHeld ?_
            (try simp only [Act.put])
            refine wpAnyH_ready (rs := [7]) (by kernel_rfl) (by simp) ?_
            refine AllReadyH.cons rfl (fun K hK => ?_) AllReadyH.nil
            have f4 := RowAt.frozen HG14.out 0
            have d4 := RowAt.cell HG14.out 0
            simp at d4
            rw [if_pos (by kernel_rfl)]
            go_simp
            refine hK.out _ _ trivial (fun hHeld => ?_)
            clear hK K f4 d4
            (try simp only [Act.put])
            refine wpAnyH_done (by kernel_rfl) ?_ _
            refine NoPanic.normal ?_
            clear hHeld
            go_wp2_with fail
            go_roundw
            case rel =>
              refine ⟨i + 1, da', dc', rbs ++ [(2, V, (p, tn, q), 0, 0, (none, 0, 0))], by omega, by go_num, HG04.out.other _ _ (by simp), HG14.out.setCell 0 _, ?_, by simp; omega, HB4.out.setCell (by show _ ≤ w.heap.size + 1; omega) _⟩
              rw [HTK.out]
              refine (HD4.out.mid (fun b hb hb' => Go.Deep.blk_setCell_other _ _ _ _ (by simp; omega))).less (Nat.le_refl _) (by simp)
            case measure => simp [intOf]; omega
          · go_simp
            have A3 : Below u2.heap.size u2 (u2.alloc (.cells #[.int .i64 2, .int .i64 V, .slice p tn q, .int .i64 0, .int .i64 0, .slice none 0 0] 40)) := (Below.refl _ _).alloc (Nat.le_refl _) _
            have HN3 : Hid (∀ j u, [.int .i64 2, .int .i64 V, .slice p tn q, .int .i64 0, .int .i64 0, .slice none 0 0][j]? = some u → (u2.alloc (.cells #[.int .i64 2, .int .i64 V, .slice p tn q, .int .i64 0, .int .i64 0, .slice none 0 0] 40)).cell? ((⟨u2.heap.size, 0, none⟩ : Addr).add j) = some u) := cells6_new _ _ _ _ _ _ _ _
            have HG03 : Hid (RowAt (u2.alloc (.cells #[.int .i64 2, .int .i64 V, .slice p tn q, .int .i64 0, .int .i64 0, .slice none 0 0] 40)) w.heap.size #[.slice none 0 0] 25) := HG02.out.alloc _
            have HG13 : Hid (RowAt (u2.alloc (.cells #[.int .i64 2, .int .i64 V, .slice p tn q, .int .i64 0, .int .i64 0, .slice none 0 0] 40)) (w.heap.size + 1) #[.slice da i dc] 25) := HG12.out.alloc _
            have HD3 : Hid (DocOwn (u2.alloc (.cells #[.int .i64 2, .int .i64 V, .slice p tn q, .int .i64 0, .int .i64 0, .slice none 0 0] 40)) v0.heap.size u1.heap.size (.slice da i dc) rbs (d.take i)) := HD2.out.mid (fun b _ hb' => A3.block b (by omega))
            have HB3 : Hid (Below w.heap.size w (u2.alloc (.cells #[.int .i64 2, .int .i64 V, .slice p tn q, .int .i64 0, .int .i64 0, .slice none 0 0] 40))) := HB2.out.alloc (by omega) _
            have HW3 : Hid (BlOwn (u2.alloc (.cells #[.int .i64 2, .int .i64 V, .slice p tn q, .int .i64 0, .int .i64 0, .slice none 0 0] 40)) u1.heap.size u2.heap.size u2.heap.size (2, V, (p, tn, q), 0, 0, (none, 0, 0)) (2, V, t, 0, 0, [])) := HW2.out.mid (fun b _ hb' => A3.block b hb')
            have s3 : (u2.alloc (.cells #[.int .i64 2, .int .i64 V, .slice p tn q, .int .i64 0, .int .i64 0, .slice none 0 0] 40)).heap.size = u2.heap.size + 1 := by simp
            refine hK.out _ _ trivial (fun hHeld => ?_)
            clear hK K A3 HG02 HG12 HD2 HB2 HW2
            (try simp only [Act.put, List.setIfInBounds_toArray, List.set_cons_zero, List.set_cons_succ])
            generalize (u2.alloc (.cells #[.int .i64 2, .int .i64 V, .slice p tn q, .int .i64 0, .int .i64 0, .slice none 0 0] 40)) = u3 at HN3 HG03 HG13 HD3 HB3 HW3 s3 ⊢
            refine wpAnyH_ready (rs := [1]) (by kernel_rfl) (by simp) ?_
            refine AllReadyH.cons rfl (fun K hK => ?_) AllReadyH.nil
            have d4 := RowAt.cell HG13.out 0
            simp at d4
            go_simp
            refine hK.out _ _ trivial (fun hHeld => ?_)
            clear hK K d4
            (try simp only [Act.put, List.setIfInBounds_toArray, List.set_cons_zero, List.set_cons_succ])
            refine wpAnyH_ready (rs := [5]) (by kernel_rfl) (by simp) ?_
            refine AllReadyH.cons rfl (fun K hK => ?_) AllReadyH.nil
            rw [if_pos (by kernel_rfl)]
            have HDl : Hid (rbs.length = i) := by
              have e1 := HD3.out.2.2.1
              have e2 := HIL.out
              show rbs.length = i
              omega
            have hrw : u3.ownsRow v0.heap.size 40 6 (.slice da i dc) i (flat6 rbs) := by
              have h1 := HD3.out.1
              rw [HDl.out] at h1
              exact h1
            refine wp_append_own u3 (.tmp 13) (.tmp 16) 23 rfl v0.heap.size 40 i0 _ 6 80 Try.underlying23 hi0 hz0 hz1 hz2 rfl (by decide) (.slice da i dc) i (flat6 rbs) rfl hrw ⟨u2.heap.size, 0, none⟩ 1 1 [.int .i64 2, .int .i64 V, .slice p tn q, .int .i64 0, .int .i64 0, .slice none 0 0] rfl rfl HN3.out (rb_one (2, V, (p, tn, q), 0, 0, (none, 0, 0))) (by unfold maxLen; omega) (by omega) (by omega) ?_
            intro v' u4 hown hgrow _
            have s4 := hgrow.size
            have HD4 : Hid (DocOwn u4 v0.heap.size u4.heap.size v' (rbs ++ [(2, V, (p, tn, q), 0, 0, (none, 0, 0))]) (d.take i ++ [(2, V, t, 0, 0, [])])) := docOwn_snoc HD3.out HIL.out HW3.out (by omega) s2 (by omega) hown hgrow
            have hne : ∀ g, (Value.slice da i dc).ownBlock = some g → v0.heap.size ≤ g := fun g hg => (own_lt hrw hg).1
            have HG04 : Hid (RowAt u4 w.heap.size #[.slice none 0 0] 25) := HG03.out.grown hgrow (fun e => by have := hne _ e; omega)
            have HG14 : Hid (RowAt u4 (w.heap.size + 1) #[.slice da i dc] 25) := HG13.out.grown hgrow (fun e => by have := hne _ e; omega)
            have HB4 : Hid (Below w.heap.size w u4) := HB3.out.grown hgrow (by omega) (fun k hk => by have := hne _ hk; omega)
            obtain ⟨da', dc', rfl⟩ : ∃ a c, v' = .slice a (i + 1) c := by
              obtain ⟨a1, c1, e1⟩ := HD4.out.shape
              refine ⟨a1, c1, ?_⟩
              rw [e1, List.length_append, ← HIL.out]
              rfl
            refine hK.out _ _ trivial (fun hHeld => ?_)
            clear hK K hown hgrow hrw hne HN3 HG03 HG13 HD3 HB3 HW3
            (try simp only [Act.put, List.setIfInBounds_toArray])
            refine take_at 6 18 (.pointer (some ⟨w.heap.size + 1, 0, none⟩)) rfl rfl (by kernel_rfl) (by kernel_rfl) (by kernel_rfl) (fun _ _ _ h => h) (Or.inl ⟨by kernel_rfl, fun w' hS' => by go_simp⟩) hHeld ?_
            (try simp only [Act.put])
            refine wpAnyH_ready (rs := [7]) (by kernel_rfl) (by simp) ?_
            refine AllReadyH.cons rfl (fun K hK => ?_) AllReadyH.nil
            have f4 := RowAt.frozen HG14.out 0
            have d4 := RowAt.cell HG14.out 0
            simp at d4
            rw [if_pos (by kernel_rfl)]
            go_simp
            refine hK.out _ _ trivial (fun hHeld => ?_)
            clear hK K f4 d4
            (try simp only [Act.put])
            refine wpAnyH_done (by kernel_rfl) ?_ _
            refine NoPanic.normal ?_
            clear hHeld
            go_wp2_with fail
            go_roundw
            case rel =>
              refine ⟨i + 1, da', dc', rbs ++ [(2, V, (p, tn, q), 0, 0, (none, 0, 0))], by omega, by go_num, HG04.out.other _ _ (by simp), HG14.out.setCell 0 _, ?_, by simp; omega, HB4.out.setCell (by show _ ≤ w.heap.size + 1; omega) _⟩
              rw [HTK.out]
              refine (HD4.out.mid (fun b hb hb' => Go.Deep.blk_setCell_other _ _ _ _ (by simp; omega))).less (Nat.le_refl _) (by simp)
            case measure => simp [intOf]; omega
      · subst hK
        obtain ⟨rfl, rfl⟩ := partBB_sheet hpb
        have hl25 := (hpo.2 rfl).1
        have HPO : Hid (l.length ≤ 25 ∧ ∀ k, k < l.length → (l.getD k cl0).2.2.2.2.length ≤ 24) := hpo.2 rfl
        have HX : Hid (Tab wr ca cn cc l) := htb
        have c0 : wr.cell? ⟨b, off + i, none⟩ = some (.iface 125 (.agg #[.int .i64 R, .int .i64 C, .slice ca cn cc])) := hcell
        clear hcell ht htb hpb hpo
        go_upto_region 5 with fail
        clear c0
        refine wp_region_noPanic ?_
        refine wp_region_held_drew (S := fun w' => True) (by kernel_rfl) trivial (fun hHeld => ?_)
        have HG0d : Hid (RowAt wr.drew w.heap.size #[.slice none 0 0] 25) := HG0.out.drew
        have HG1d : Hid (RowAt wr.drew (w.heap.size + 1) #[.slice da i dc] 25) := HG1.out.drew
        have HDd : Hid (DocOwn wr.drew v0.heap.size wr.heap.size (.slice da i dc) rbs (d.take i)) := HD.out.below (Nat.le_refl _) (Below.refl _ _).drew
        have HBd : Hid (Below w.heap.size w wr.drew) := HB.out.drew
        have HXd : Hid (Tab wr.drew ca cn cc l) := HX.out.below (Below.refl _ _).drew
        have sd : wr.heap.size = wr.drew.heap.size := rfl
        rw [sd] at HDd hss lz0 lz1
        clear HG0 HD HB HX HG1
        generalize wr.drew = u1 at HG0d HG1d HDd HBd HXd sd hss lz0 lz1 ⊢
        refine take_at 0 12 (.pointer (some ⟨(w.heap.size + 1), 0, none⟩)) rfl rfl (by kernel_rfl) (by kernel_rfl) (by kernel_rfl) (fun _ _ _ h => h) (Or.inl ⟨by kernel_rfl, fun w' hS' => by go_simp⟩) hHeld ?_
        (try simp only [Act.put, List.setIfInBounds_toArray, List.set_cons_zero, List.set_cons_succ])
        refine take_at 2 14 (.iface 125 (.agg #[.int .i64 R, .int .i64 C, .slice ca cn cc])) rfl rfl (by kernel_rfl) (by kernel_rfl) (by kernel_rfl) (fun _ _ _ h => h) (Or.inl ⟨by kernel_rfl, fun w' hS' => by go_simp⟩) hHeld ?_
        (try simp only [Act.put, List.setIfInBounds_toArray, List.set_cons_zero, List.set_cons_succ])
        refine wpAnyH_ready (rs := [1, 3]) (by kernel_rfl) (by simp) ?_
        refine AllReadyH.cons rfl (fun K hK => ?_) (AllReadyH.cons rfl (fun K hK => ?_) AllReadyH.nil)
        · have d4 := RowAt.cell HG1d.out 0
          simp at d4
          go_simp
          refine hK.out _ _ trivial (fun hHeld => ?_)
          clear hK K d4
          (try simp only [Act.put, List.setIfInBounds_toArray, List.set_cons_zero, List.set_cons_succ])
          refine wpAnyH_ready (rs := [3]) (by kernel_rfl) (by simp) ?_
          refine AllReadyH.cons rfl (fun K hK => ?_) AllReadyH.nil
          go_simp
          change Calls Try.prog 148 #[.agg #[.int .i64 R, .int .i64 C, .slice ca cn cc]] _ _
          refine (sheetBlock_any HXd.out (by omega) (fun k hk => by have := HPO.out.2 k hk; omega)).mono ?_
          rintro e u2 ⟨⟨p, q, rfl, how⟩, hb2⟩
          have s2 := hb2.size
          have HG02 : Hid (RowAt u2 w.heap.size #[.slice none 0 0] 25) := HG0d.out.below hb2 lz0
          have HG12 : Hid (RowAt u2 (w.heap.size + 1) #[.slice da i dc] 25) := HG1d.out.below hb2 lz1
          have HD2 : Hid (DocOwn u2 v0.heap.size u1.heap.size (.slice da i dc) rbs (d.take i)) := HDd.out.below (Nat.le_refl _) hb2
          have HB2 : Hid (Below w.heap.size w u2) := HBd.out.trans (hb2.mono (by omega))
          have HW2 : Hid (BlOwn u2 u1.heap.size u1.heap.size u2.heap.size (3, 0, (none, 0, 0), R, C, (p, cn, q)) (3, 0, [], R, C, l)) := how
          go_wp2_with fail
          refine hK.out _ _ trivial (fun hHeld => ?_)
          clear hK K how hb2 HG0d HG1d HDd HBd HXd
          (try simp only [Act.put, List.setIfInBounds_toArray, List.set_cons_zero, List.set_cons_succ])
          refine wpAnyH_ready (rs := [4]) (by kernel_rfl) (by simp) ?_
          refine AllReadyH.cons rfl (fun K hK => ?_) AllReadyH.nil
          go_simp
          have A3 : Below u2.heap.size u2 (u2.alloc (.cells #[.int .i64 3, .int .i64 0, .slice none 0 0, .int .i64 R, .int .i64 C, .slice p cn q] 40)) := (Below.refl _ _).alloc (Nat.le_refl _) _
          have HN3 : Hid (∀ j u, [.int .i64 3, .int .i64 0, .slice none 0 0, .int .i64 R, .int .i64 C, .slice p cn q][j]? = some u → (u2.alloc (.cells #[.int .i64 3, .int .i64 0, .slice none 0 0, .int .i64 R, .int .i64 C, .slice p cn q] 40)).cell? ((⟨u2.heap.size, 0, none⟩ : Addr).add j) = some u) := cells6_new _ _ _ _ _ _ _ _
          have HG03 : Hid (RowAt (u2.alloc (.cells #[.int .i64 3, .int .i64 0, .slice none 0 0, .int .i64 R, .int .i64 C, .slice p cn q] 40)) w.heap.size #[.slice none 0 0] 25) := HG02.out.alloc _
          have HG13 : Hid (RowAt (u2.alloc (.cells #[.int .i64 3, .int .i64 0, .slice none 0 0, .int .i64 R, .int .i64 C, .slice p cn q] 40)) (w.heap.size + 1) #[.slice da i dc] 25) := HG12.out.alloc _
          have HD3 : Hid (DocOwn (u2.alloc (.cells #[.int .i64 3, .int .i64 0, .slice none 0 0, .int .i64 R, .int .i64 C, .slice p cn q] 40)) v0.heap.size u1.heap.size (.slice da i dc) rbs (d.take i)) := HD2.out.mid (fun b _ hb' => A3.block b (by omega))
          have HB3 : Hid (Below w.heap.size w (u2.alloc (.cells #[.int .i64 3, .int .i64 0, .slice none 0 0, .int .i64 R, .int .i64 C, .slice p cn q] 40))) := HB2.out.alloc (by omega) _
          have HW3 : Hid (BlOwn (u2.alloc (.cells #[.int .i64 3, .int .i64 0, .slice none 0 0, .int .i64 R, .int .i64 C, .slice p cn q] 40)) u1.heap.size u1.heap.size u2.heap.size (3, 0, (none, 0, 0), R, C, (p, cn, q)) (3, 0, [], R, C, l)) := HW2.out.mid (fun b _ hb' => A3.block b hb')
          have s3 : (u2.alloc (.cells #[.int .i64 3, .int .i64 0, .slice none 0 0, .int .i64 R, .int .i64 C, .slice p cn q] 40)).heap.size = u2.heap.size + 1 := by simp
          refine hK.out _ _ trivial (fun hHeld => ?_)
          clear hK K A3 HG02 HG12 HD2 HB2 HW2
          (try simp only [Act.put, List.setIfInBounds_toArray, List.set_cons_zero, List.set_cons_succ])
          generalize (u2.alloc (.cells #[.int .i64 3, .int .i64 0, .slice none 0 0, .int .i64 R, .int .i64 C, .slice p cn q] 40)) = u3 at HN3 HG03 HG13 HD3 HB3 HW3 s3 ⊢
          refine wpAnyH_ready (rs := [5]) (by kernel_rfl) (by simp) ?_
          refine AllReadyH.cons rfl (fun K hK => ?_) AllReadyH.nil
          rw [if_pos (by kernel_rfl)]
          have HDl : Hid (rbs.length = i) := by
            have e1 := HD3.out.2.2.1
            have e2 := HIL.out
            show rbs.length = i
            omega
          have hrw : u3.ownsRow v0.heap.size 40 6 (.slice da i dc) i (flat6 rbs) := by
            have h1 := HD3.out.1
            rw [HDl.out] at h1
            exact h1
          refine wp_append_own u3 (.tmp 13) (.tmp 16) 23 rfl v0.heap.size 40 i0 _ 6 80 Try.underlying23 hi0 hz0 hz1 hz2 rfl (by decide) (.slice da i dc) i (flat6 rbs) rfl hrw ⟨u2.heap.size, 0, none⟩ 1 1 [.int .i64 3, .int .i64 0, .slice none 0 0, .int .i64 R, .int .i64 C, .slice p cn q] rfl rfl HN3.out (rb_one (3, 0, (none, 0, 0), R, C, (p, cn, q))) (by unfold maxLen; omega) (by omega) (by omega) ?_
          intro v' u4 hown hgrow _
          have s4 := hgrow.size
          have HD4 : Hid (DocOwn u4 v0.heap.size u4.heap.size v' (rbs ++ [(3, 0, (none, 0, 0), R, C, (p, cn, q))]) (d.take i ++ [(3, 0, [], R, C, l)])) := docOwn_snoc HD3.out HIL.out HW3.out (by omega) s2 (by omega) hown hgrow
          have hne : ∀ g, (Value.slice da i dc).ownBlock = some g → v0.heap.size ≤ g := fun g hg => (own_lt hrw hg).1
          have HG04 : Hid (RowAt u4 w.heap.size #[.slice none 0 0] 25) := HG03.out.grown hgrow (fun e => by have := hne _ e; omega)
          have HG14 : Hid (RowAt u4 (w.heap.size + 1) #[.slice da i dc] 25) := HG13.out.grown hgrow (fun e => by have := hne _ e; omega)
          have HB4 : Hid (Below w.heap.size w u4) := HB3.out.grown hgrow (by omega) (fun k hk => by have := hne _ hk; omega)
          obtain ⟨da', dc', rfl⟩ : ∃ a c, v' = .slice a (i + 1) c := by
            obtain ⟨a1, c1, e1⟩ := HD4.out.shape
            refine ⟨a1, c1, ?_⟩
            rw [e1, List.length_append, ← HIL.out]
            rfl
          refine hK.out _ _ trivial (fun hHeld => ?_)
          clear hK K hown hgrow hrw hne HN3 HG03 HG13 HD3 HB3 HW3
          (try simp only [Act.put, List.setIfInBounds_toArray])
          refine take_at 6 18 (.pointer (some ⟨w.heap.size + 1, 0, none⟩)) rfl rfl (by kernel_rfl) (by kernel_rfl) (by kernel_rfl) (fun _ _ _ h => h) (Or.inl ⟨by kernel_rfl, fun w' hS' => by go_simp⟩) hHeld ?_
          (try simp only [Act.put])
          refine wpAnyH_ready (rs := [7]) (by kernel_rfl) (by simp) ?_
          refine AllReadyH.cons rfl (fun K hK => ?_) AllReadyH.nil
          have f4 := RowAt.frozen HG14.out 0
          have d4 := RowAt.cell HG14.out 0
          simp at d4
          rw [if_pos (by kernel_rfl)]
          go_simp
          refine hK.out _ _ trivial (fun hHeld => ?_)
          clear hK K f4 d4
          (try simp only [Act.put])
          refine wpAnyH_done (by kernel_rfl) ?_ _
          refine NoPanic.normal ?_
          clear hHeld
          go_wp2_with fail
          go_roundw
          case rel =>
            refine ⟨i + 1, da', dc', rbs ++ [(3, 0, (none, 0, 0), R, C, (p, cn, q))], by omega, by go_num, HG04.out.other _ _ (by simp), HG14.out.setCell 0 _, ?_, by simp; omega, HB4.out.setCell (by show _ ≤ w.heap.size + 1; omega) _⟩
            rw [HTK.out]
            refine (HD4.out.mid (fun b hb hb' => Go.Deep.blk_setCell_other _ _ _ _ (by simp; omega))).less (Nat.le_refl _) (by simp)
          case measure => simp [intOf]; omega
        · go_simp
          change Calls Try.prog 148 #[.agg #[.int .i64 R, .int .i64 C, .slice ca cn cc]] _ _
          refine (sheetBlock_any HXd.out (by omega) (fun k hk => by have := HPO.out.2 k hk; omega)).mono ?_
          rintro e u2 ⟨⟨p, q, rfl, how⟩, hb2⟩
          have s2 := hb2.size
          have HG02 : Hid (RowAt u2 w.heap.size #[.slice none 0 0] 25) := HG0d.out.below hb2 lz0
          have HG12 : Hid (RowAt u2 (w.heap.size + 1) #[.slice da i dc] 25) := HG1d.out.below hb2 lz1
          have HD2 : Hid (DocOwn u2 v0.heap.size u1.heap.size (.slice da i dc) rbs (d.take i)) := HDd.out.below (Nat.le_refl _) hb2
          have HB2 : Hid (Below w.heap.size w u2) := HBd.out.trans (hb2.mono (by omega))
          have HW2 : Hid (BlOwn u2 u1.heap.size u1.heap.size u2.heap.size (3, 0, (none, 0, 0), R, C, (p, cn, q)) (3, 0, [], R, C, l)) := how
          go_wp2_with fail
          refine hK.out _ _ trivial (fun hHeld => ?_)
          clear hK K how hb2 HG0d HG1d HDd HBd HXd
          (try simp only [Act.put, List.setIfInBounds_toArray, List.set_cons_zero, List.set_cons_succ])
          refine wpAnyH_ready (rs := [1, 4]) (by kernel_rfl) (by simp) ?_
          refine AllReadyH.cons rfl (fun K hK => ?_) (AllReadyH.cons rfl (fun K hK => ?_) AllReadyH.nil)
          · have d4 := RowAt.cell HG12.out 0
            simp at d4
            go_simp
            refine hK.out _ _ trivial (fun hHeld => ?_)
            clear hK K d4
            (try simp only [Act.put, List.setIfInBounds_toArray, List.set_cons_zero, List.set_cons_succ])
            refine wpAnyH_ready (rs := [4]) (by kernel_rfl) (by simp) ?_
            refine AllReadyH.cons rfl (fun K hK => ?_) AllReadyH.nil
            go_simp
            have A3 : Below u2.heap.size u2 (u2.alloc (.cells #[.int .i64 3, .int .i64 0, .slice none 0 0, .int .i64 R, .int .i64 C, .slice p cn q] 40)) := (Below.refl _ _).alloc (Nat.le_refl _) _
            have HN3 : Hid (∀ j u, [.int .i64 3, .int .i64 0, .slice none 0 0, .int .i64 R, .int .i64 C, .slice p cn q][j]? = some u → (u2.alloc (.cells #[.int .i64 3, .int .i64 0, .slice none 0 0, .int .i64 R, .int .i64 C, .slice p cn q] 40)).cell? ((⟨u2.heap.size, 0, none⟩ : Addr).add j) = some u) := cells6_new _ _ _ _ _ _ _ _
            have HG03 : Hid (RowAt (u2.alloc (.cells #[.int .i64 3, .int .i64 0, .slice none 0 0, .int .i64 R, .int .i64 C, .slice p cn q] 40)) w.heap.size #[.slice none 0 0] 25) := HG02.out.alloc _
            have HG13 : Hid (RowAt (u2.alloc (.cells #[.int .i64 3, .int .i64 0, .slice none 0 0, .int .i64 R, .int .i64 C, .slice p cn q] 40)) (w.heap.size + 1) #[.slice da i dc] 25) := HG12.out.alloc _
            have HD3 : Hid (DocOwn (u2.alloc (.cells #[.int .i64 3, .int .i64 0, .slice none 0 0, .int .i64 R, .int .i64 C, .slice p cn q] 40)) v0.heap.size u1.heap.size (.slice da i dc) rbs (d.take i)) := HD2.out.mid (fun b _ hb' => A3.block b (by omega))
            have HB3 : Hid (Below w.heap.size w (u2.alloc (.cells #[.int .i64 3, .int .i64 0, .slice none 0 0, .int .i64 R, .int .i64 C, .slice p cn q] 40))) := HB2.out.alloc (by omega) _
            have HW3 : Hid (BlOwn (u2.alloc (.cells #[.int .i64 3, .int .i64 0, .slice none 0 0, .int .i64 R, .int .i64 C, .slice p cn q] 40)) u1.heap.size u1.heap.size u2.heap.size (3, 0, (none, 0, 0), R, C, (p, cn, q)) (3, 0, [], R, C, l)) := HW2.out.mid (fun b _ hb' => A3.block b hb')
            have s3 : (u2.alloc (.cells #[.int .i64 3, .int .i64 0, .slice none 0 0, .int .i64 R, .int .i64 C, .slice p cn q] 40)).heap.size = u2.heap.size + 1 := by simp
            refine hK.out _ _ trivial (fun hHeld => ?_)
            clear hK K A3 HG02 HG12 HD2 HB2 HW2
            (try simp only [Act.put, List.setIfInBounds_toArray, List.set_cons_zero, List.set_cons_succ])
            generalize (u2.alloc (.cells #[.int .i64 3, .int .i64 0, .slice none 0 0, .int .i64 R, .int .i64 C, .slice p cn q] 40)) = u3 at HN3 HG03 HG13 HD3 HB3 HW3 s3 ⊢
            refine wpAnyH_ready (rs := [5]) (by kernel_rfl) (by simp) ?_
            refine AllReadyH.cons rfl (fun K hK => ?_) AllReadyH.nil
            rw [if_pos (by kernel_rfl)]
            have HDl : Hid (rbs.length = i) := by
              have e1 := HD3.out.2.2.1
              have e2 := HIL.out
              show rbs.length = i
              omega
            have hrw : u3.ownsRow v0.heap.size 40 6 (.slice da i dc) i (flat6 rbs) := by
              have h1 := HD3.out.1
              rw [HDl.out] at h1
              exact h1
            refine wp_append_own u3 (.tmp 13) (.tmp 16) 23 rfl v0.heap.size 40 i0 _ 6 80 Try.underlying23 hi0 hz0 hz1 hz2 rfl (by decide) (.slice da i dc) i (flat6 rbs) rfl hrw ⟨u2.heap.size, 0, none⟩ 1 1 [.int .i64 3, .int .i64 0, .slice none 0 0, .int .i64 R, .int .i64 C, .slice p cn q] rfl rfl HN3.out (rb_one (3, 0, (none, 0, 0), R, C, (p, cn, q))) (by unfold maxLen; omega) (by omega) (by omega) ?_
            intro v' u4 hown hgrow _
            have s4 := hgrow.size
            have HD4 : Hid (DocOwn u4 v0.heap.size u4.heap.size v' (rbs ++ [(3, 0, (none, 0, 0), R, C, (p, cn, q))]) (d.take i ++ [(3, 0, [], R, C, l)])) := docOwn_snoc HD3.out HIL.out HW3.out (by omega) s2 (by omega) hown hgrow
            have hne : ∀ g, (Value.slice da i dc).ownBlock = some g → v0.heap.size ≤ g := fun g hg => (own_lt hrw hg).1
            have HG04 : Hid (RowAt u4 w.heap.size #[.slice none 0 0] 25) := HG03.out.grown hgrow (fun e => by have := hne _ e; omega)
            have HG14 : Hid (RowAt u4 (w.heap.size + 1) #[.slice da i dc] 25) := HG13.out.grown hgrow (fun e => by have := hne _ e; omega)
            have HB4 : Hid (Below w.heap.size w u4) := HB3.out.grown hgrow (by omega) (fun k hk => by have := hne _ hk; omega)
            obtain ⟨da', dc', rfl⟩ : ∃ a c, v' = .slice a (i + 1) c := by
              obtain ⟨a1, c1, e1⟩ := HD4.out.shape
              refine ⟨a1, c1, ?_⟩
              rw [e1, List.length_append, ← HIL.out]
              rfl
            refine hK.out _ _ trivial (fun hHeld => ?_)
            clear hK K hown hgrow hrw hne HN3 HG03 HG13 HD3 HB3 HW3
            (try simp only [Act.put, List.setIfInBounds_toArray])
            refine take_at 6 18 (.pointer (some ⟨w.heap.size + 1, 0, none⟩)) rfl rfl (by kernel_rfl) (by kernel_rfl) (by kernel_rfl) (fun _ _ _ h => h) (Or.inl ⟨by kernel_rfl, fun w' hS' => by go_simp⟩) hHeld ?_
            (try simp only [Act.put])
            refine wpAnyH_ready (rs := [7]) (by kernel_rfl) (by simp) ?_
            refine AllReadyH.cons rfl (fun K hK => ?_) AllReadyH.nil
            have f4 := RowAt.frozen HG14.out 0
            have d4 := RowAt.cell HG14.out 0
            simp at d4
            rw [if_pos (by kernel_rfl)]
            go_simp
            refine hK.out _ _ trivial (fun hHeld => ?_)
            clear hK K f4 d4
            (try simp only [Act.put])
            refine wpAnyH_done (by kernel_rfl) ?_ _
            refine NoPanic.normal ?_
            clear hHeld
            go_wp2_with fail
            go_roundw
            case rel =>
              refine ⟨i + 1, da', dc', rbs ++ [(3, 0, (none, 0, 0), R, C, (p, cn, q))], by omega, by go_num, HG04.out.other _ _ (by simp), HG14.out.setCell 0 _, ?_, by simp; omega, HB4.out.setCell (by show _ ≤ w.heap.size + 1; omega) _⟩
              rw [HTK.out]
              refine (HD4.out.mid (fun b hb hb' => Go.Deep.blk_setCell_other _ _ _ _ (by simp; omega))).less (Nat.le_refl _) (by simp)
            case measure => simp [intOf]; omega
          · go_simp
            have A3 : Below u2.heap.size u2 (u2.alloc (.cells #[.int .i64 3, .int .i64 0, .slice none 0 0, .int .i64 R, .int .i64 C, .slice p cn q] 40)) := (Below.refl _ _).alloc (Nat.le_refl _) _
            have HN3 : Hid (∀ j u, [.int .i64 3, .int .i64 0, .slice none 0 0, .int .i64 R, .int .i64 C, .slice p cn q][j]? = some u → (u2.alloc (.cells #[.int .i64 3, .int .i64 0, .slice none 0 0, .int .i64 R, .int .i64 C, .slice p cn q] 40)).cell? ((⟨u2.heap.size, 0, none⟩ : Addr).add j) = some u) := cells6_new _ _ _ _ _ _ _ _
            have HG03 : Hid (RowAt (u2.alloc (.cells #[.int .i64 3, .int .i64 0, .slice none 0 0, .int .i64 R, .int .i64 C, .slice p cn q] 40)) w.heap.size #[.slice none 0 0] 25) := HG02.out.alloc _
            have HG13 : Hid (RowAt (u2.alloc (.cells #[.int .i64 3, .int .i64 0, .slice none 0 0, .int .i64 R, .int .i64 C, .slice p cn q] 40)) (w.heap.size + 1) #[.slice da i dc] 25) := HG12.out.alloc _
            have HD3 : Hid (DocOwn (u2.alloc (.cells #[.int .i64 3, .int .i64 0, .slice none 0 0, .int .i64 R, .int .i64 C, .slice p cn q] 40)) v0.heap.size u1.heap.size (.slice da i dc) rbs (d.take i)) := HD2.out.mid (fun b _ hb' => A3.block b (by omega))
            have HB3 : Hid (Below w.heap.size w (u2.alloc (.cells #[.int .i64 3, .int .i64 0, .slice none 0 0, .int .i64 R, .int .i64 C, .slice p cn q] 40))) := HB2.out.alloc (by omega) _
            have HW3 : Hid (BlOwn (u2.alloc (.cells #[.int .i64 3, .int .i64 0, .slice none 0 0, .int .i64 R, .int .i64 C, .slice p cn q] 40)) u1.heap.size u1.heap.size u2.heap.size (3, 0, (none, 0, 0), R, C, (p, cn, q)) (3, 0, [], R, C, l)) := HW2.out.mid (fun b _ hb' => A3.block b hb')
            have s3 : (u2.alloc (.cells #[.int .i64 3, .int .i64 0, .slice none 0 0, .int .i64 R, .int .i64 C, .slice p cn q] 40)).heap.size = u2.heap.size + 1 := by simp
            refine hK.out _ _ trivial (fun hHeld => ?_)
            clear hK K A3 HG02 HG12 HD2 HB2 HW2
            (try simp only [Act.put, List.setIfInBounds_toArray, List.set_cons_zero, List.set_cons_succ])
            generalize (u2.alloc (.cells #[.int .i64 3, .int .i64 0, .slice none 0 0, .int .i64 R, .int .i64 C, .slice p cn q] 40)) = u3 at HN3 HG03 HG13 HD3 HB3 HW3 s3 ⊢
            refine wpAnyH_ready (rs := [1]) (by kernel_rfl) (by simp) ?_
            refine AllReadyH.cons rfl (fun K hK => ?_) AllReadyH.nil
            have d4 := RowAt.cell HG13.out 0
            simp at d4
            go_simp
            refine hK.out _ _ trivial (fun hHeld => ?_)
            clear hK K d4
            (try simp only [Act.put, List.setIfInBounds_toArray, List.set_cons_zero, List.set_cons_succ])
            refine wpAnyH_ready (rs := [5]) (by kernel_rfl) (by simp) ?_
            refine AllReadyH.cons rfl (fun K hK => ?_) AllReadyH.nil
            rw [if_pos (by kernel_rfl)]
            have HDl : Hid (rbs.length = i) := by
              have e1 := HD3.out.2.2.1
              have e2 := HIL.out
              show rbs.length = i
              omega
            have hrw : u3.ownsRow v0.heap.size 40 6 (.slice da i dc) i (flat6 rbs) := by
              have h1 := HD3.out.1
              rw [HDl.out] at h1
              exact h1
            refine wp_append_own u3 (.tmp 13) (.tmp 16) 23 rfl v0.heap.size 40 i0 _ 6 80 Try.underlying23 hi0 hz0 hz1 hz2 rfl (by decide) (.slice da i dc) i (flat6 rbs) rfl hrw ⟨u2.heap.size, 0, none⟩ 1 1 [.int .i64 3, .int .i64 0, .slice none 0 0, .int .i64 R, .int .i64 C, .slice p cn q] rfl rfl HN3.out (rb_one (3, 0, (none, 0, 0), R, C, (p, cn, q))) (by unfold maxLen; omega) (by omega) (by omega) ?_
            intro v' u4 hown hgrow _
            have s4 := hgrow.size
            have HD4 : Hid (DocOwn u4 v0.heap.size u4.heap.size v' (rbs ++ [(3, 0, (none, 0, 0), R, C, (p, cn, q))]) (d.take i ++ [(3, 0, [], R, C, l)])) := docOwn_snoc HD3.out HIL.out HW3.out (by omega) s2 (by omega) hown hgrow
            have hne : ∀ g, (Value.slice da i dc).ownBlock = some g → v0.heap.size ≤ g := fun g hg => (own_lt hrw hg).1
            have HG04 : Hid (RowAt u4 w.heap.size #[.slice none 0 0] 25) := HG03.out.grown hgrow (fun e => by have := hne _ e; omega)
            have HG14 : Hid (RowAt u4 (w.heap.size + 1) #[.slice da i dc] 25) := HG13.out.grown hgrow (fun e => by have := hne _ e; omega)
            have HB4 : Hid (Below w.heap.size w u4) := HB3.out.grown hgrow (by omega) (fun k hk => by have := hne _ hk; omega)
            obtain ⟨da', dc', rfl⟩ : ∃ a c, v' = .slice a (i + 1) c := by
              obtain ⟨a1, c1, e1⟩ := HD4.out.shape
              refine ⟨a1, c1, ?_⟩
              rw [e1, List.length_append, ← HIL.out]
              rfl
            refine hK.out _ _ trivial (fun hHeld => ?_)
            clear hK K hown hgrow hrw hne HN3 HG03 HG13 HD3 HB3 HW3
            (try simp only [Act.put, List.setIfInBounds_toArray])
            refine take_at 6 18 (.pointer (some ⟨w.heap.size + 1, 0, none⟩)) rfl rfl (by kernel_rfl) (by kernel_rfl) (by kernel_rfl) (fun _ _ _ h => h) (Or.inl ⟨by kernel_rfl, fun w' hS' => by go_simp⟩) hHeld ?_
            (try simp only [Act.put])
            refine wpAnyH_ready (rs := [7]) (by kernel_rfl) (by simp) ?_
            refine AllReadyH.cons rfl (fun K hK => ?_) AllReadyH.nil
            have f4 := RowAt.frozen HG14.out 0
            have d4 := RowAt.cell HG14.out 0
            simp at d4
            rw [if_pos (by kernel_rfl)]
            go_simp
            refine hK.out _ _ trivial (fun hHeld => ?_)
            clear hK K f4 d4
            (try simp only [Act.put])
            refine wpAnyH_done (by kernel_rfl) ?_ _
            refine NoPanic.normal ?_
            clear hHeld
            go_wp2_with fail
            go_roundw
            case rel =>
              refine ⟨i + 1, da', dc', rbs ++ [(3, 0, (none, 0, 0), R, C, (p, cn, q))], by omega, by go_num, HG04.out.other _ _ (by simp), HG14.out.setCell 0 _, ?_, by simp; omega, HB4.out.setCell (by show _ ≤ w.heap.size + 1; omega) _⟩
              rw [HTK.out]
              refine (HD4.out.mid (fun b hb hb' => Go.Deep.blk_setCell_other _ _ _ _ (by simp; omega))).less (Nat.le_refl _) (by simp)
            case measure => simp [intOf]; omega
    · have hib : ¬ (i : Int) < (n : Int) := by omega
      obtain rfl : i = n := by omega
      have e1 : d.take i = d := List.take_of_length_le (by have := HN.out; omega)
      have hD := HD.out
      rw [e1] at hD
      have HDw : Hid (DocOwn wr v0.heap.size wr.heap.size (.slice da i dc) rbs d) := hD
      have k0 : wr.cell? ⟨w.heap.size + 1, 0, none⟩ = some (.slice da i dc) := HG1.out.cell 0
      clear hD e1
      go_wp2_with (refine wpList_store_row rfl 25 (.tmp 2) (.tmp 20) rfl w.heap.size #[.slice da i dc] rfl rfl 25 _ HG0.out docI_info rfl (cells1_one _ _ _) ?_)
      refine bodyPost_ret (v := .agg #[.slice da i dc]) (results_cell_row (p := 2) (ty := 25) rfl _ _ w.heap.size 25 _ _ _ rfl (RowAt.setRow HG0.out _) Try.underlying25 rfl docI_info) rfl ⟨⟨da, dc, rfl, rbs, ?_⟩, below_row HB.out (Nat.le_refl _) _⟩
      have sz : (wr.setRow w.heap.size #[.slice da i dc]).heap.size = wr.heap.size := by simp [World.setRow]
      rw [sz]
      exact (HDw.out.mid (fun b hb hb' => setRow_other _ _ _ _ (by omega))).less (by omega) (Nat.le_refl _)
end Go.Proofs.Ytdcebaneobkcoaa
namespace Go.Proofs.Ytdcebaneobkcoaa
open Go.RowKit

theorem PartsAre.set {w : World} {ps : List Value} {d : List Bl} (h : PartsAre w ps d) (i : Nat) {p : Value} {x : Bl} (hp : PartIs w p x) : PartsAre w (ps.set i p) (d.set i x) := by
  refine ⟨by simp [h.1], fun k hk => ?_⟩
  simp only [List.length_set] at hk
  by_cases e : i = k
  · subst e
    have e1 : (ps.set i p).getD i .nilIface = p := by simp [List.getD, h.1, hk]
    have e2 : (d.set i x).getD i bl0 = x := by simp [List.getD, hk]
    rw [e1, e2]
    exact hp
  · have e1 : (ps.set i p).getD k .nilIface = ps.getD k .nilIface := by simp [List.getD, List.getElem?_set_ne e]
    have e2 : (d.set i x).getD k bl0 = d.getD k bl0 := by simp [List.getD, List.getElem?_set_ne e]
    rw [e1, e2]
    exact h.2 k hk
theorem tab_none (w : World) : Tab w none 0 0 [] := ⟨rfl, Nat.le_refl _, by unfold maxLen; omega, .inl rfl⟩
theorem ownP_set {w : World} {B : Nat} {g n pc : Nat} {ps : List Value} (h : OwnP w B (.slice (some ⟨g, 0, none⟩) n pc) ps) (i : Nat) (p : Value) : OwnP (w.setCell ⟨g, i, none⟩ p) B (.slice (some ⟨g, 0, none⟩) n pc) (ps.set i p) := by
  have := (h.row.stored i p).1
  have hl := h.len
  unfold OwnP
  rw [List.length_set, ← hl]
  exact this
/-- What a change of a part answers, and what the parts are then. -/
def enlF (d : List Bl) (i : Nat) : Option (List Bl) := if (d.getD i bl0).1 = 1 then some (d.set i (2, 0, (d.getD i bl0).2.2.1, 0, 0, [])) else none
set_option maxRecDepth 100000 in
set_option maxHeartbeats 4000000 in
theorem enlist_any {w w0 : World} {B : Nat} {pa : Option Addr} {n pc : Nat} {ps : List Value} {d : List Bl} {i : Nat} (h : OwnP w B (.slice pa n pc) ps) (hp : PartsAre w0 ps d) (hk : ∀ y ∈ d, kindB y) (hi : i < n) (hB : B ≤ w.heap.size) :
    Calls Try.prog 47 #[.slice pa n pc, .int .i64 i] w fun e w' => e = .returned (.bool (enlF d i).isSome) ∧ (∃ ps', OwnP w' B (.slice pa n pc) ps' ∧ PartsAre w0 ps' ((enlF d i).getD d)) ∧ Below B w w' := by
  have hdl : i < d.length := by rw [← hp.1, ← h.len]; exact hi
  obtain ⟨g, rfl, hg1, hg2, hcell, hfz⟩ := ownP_at h hi
  have hpc : n ≤ pc ∧ pc ≤ 2 ^ 63 - 1 := by
    have hr := h.row
    rcases hr.2 with ⟨hv, h0⟩ | ⟨g, cap, cur, hv, hg, hgg, a1, a2, _⟩
    · cases hv
    · simp only [Value.slice.injEq] at hv
      unfold maxLen at a2
      omega
  obtain ⟨hpc1, hpc2⟩ := hpc
  obtain ⟨ta, tn, tc, ca, cn, cc, hpv, ht, hc⟩ := hp.2 i hdl
  have hkd := hk (d.getD i bl0) (by rw [getD_bl hdl]; exact List.getElem_mem hdl)
  have HP : Hid (PartsAre w0 ps d) := hp
  have HO : Hid (OwnP w B (.slice (some ⟨g, 0, none⟩) n pc) ps) := h
  rw [hpv] at hcell
  obtain ⟨⟨K, V, t, R, C, l⟩, hx⟩ : ∃ x, x = d.getD i bl0 := ⟨_, rfl⟩
  rw [← hx] at hcell hkd ht
  have HEN : Hid (enlF d i = if K = 1 then some (d.set i (2, 0, t, 0, 0, [])) else none) := by
    show enlF d i = _
    unfold enlF
    rw [← hx]
  have hib : (i : Int) < (n : Int) := by omega
  have hi0 : (0 : Int) ≤ (i : Int) := by omega
  unfold kindB at hkd
  simp only at hkd ht hcell
  have HT : Hid (Txt w0 ta tn tc t) := ht
  clear hx h hp hk hpv hc ht
  rcases hkd with hK | hK | hK
  · subst hK
    have c0 : w.cell? ⟨g, i, none⟩ = some (.iface 109 (.agg #[.slice ta tn tc])) := hcell
    clear hcell
    rw [HEN.out, if_pos rfl]
    go_enter Try.func47, Try.ntmps47
    go_wp2_with fail
    rw [assert_para]
    have c1 : (w.alloc (.cells #[.slice ta tn tc] 109)).cell? ⟨g, i, none⟩ = some (.iface 109 (.agg #[.slice ta tn tc])) := by
      rw [← c0]
      exact ((Below.refl w.heap.size w).alloc (Nat.le_refl _) _).cell (p := ⟨g, i, none⟩) hg2
    have f1 : (w.alloc (.cells #[.slice ta tn tc] 109)).frozen? ⟨g, i, none⟩ = false := (World.ownsRow.alloc HO.out.row (.cells #[.slice ta tn tc] 109)).frozenAt i
    go_wp2_with fail
    go_ret
    refine ⟨rfl, ⟨ps.set i (.iface 111 (.agg #[.int .i64 0, .slice ta tn tc])), ?_, ?_⟩, ?_⟩
    · exact World.ownsRow.alloc (ownP_set HO.out _ _) _
    · exact HP.out.set i ⟨ta, tn, tc, none, 0, 0, rfl, HT.out, tab_none _⟩
    · exact ((Below.refl _ _).setCell (p := ⟨g, i, none⟩) hg1 _).alloc (by simp; omega) _
  · subst hK
    have c0 : w.cell? ⟨g, i, none⟩ = some (.iface 111 (.agg #[.int .i64 V, .slice ta tn tc])) := hcell
    clear hcell
    rw [HEN.out, if_neg (by decide)]
    go_enter Try.func47, Try.ntmps47
    go_wp2_with fail
    rw [assert_noPara (by decide)]
    go_wp2_with fail
    go_ret
    exact ⟨rfl, ⟨ps, HO.out, HP.out⟩, Below.refl _ _⟩
  · subst hK
    have c0 : w.cell? ⟨g, i, none⟩ = some (.iface 125 (.agg #[.int .i64 R, .int .i64 C, .slice ca cn cc])) := hcell
    clear hcell
    rw [HEN.out, if_neg (by decide)]
    go_enter Try.func47, Try.ntmps47
    go_wp2_with fail
    rw [assert_noPara (by decide)]
    go_wp2_with fail
    go_ret
    exact ⟨rfl, ⟨ps, HO.out, HP.out⟩, Below.refl _ _⟩
/-- How many behind a part are deeper than it. -/
def belL (d : List Bl) (i : Nat) : Nat := ((d.drop (i + 1)).takeWhile fun y => decide (lvN (d.getD i bl0) < lvN y)).length
def endL (d : List Bl) (i : Nat) : Nat := i + 1 + belL d i
theorem takeWhile_len {α : Type} (p : α → Bool) : ∀ (l : List α) (k : Nat), k ≤ l.length → (∀ j (h : j < l.length), j < k → p l[j] = true) → (∀ h : k < l.length, p l[k] = false) → (l.takeWhile p).length = k
  | [], k, hk, _, _ => by simp at hk ⊢; omega
  | x :: l, 0, _, _, h => by
    have := h (by simp)
    simp only [List.getElem_cons_zero] at this
    simp [List.takeWhile, this]
  | x :: l, k + 1, hk, h1, h2 => by
    have hx := h1 0 (by simp) (by omega)
    simp only [List.getElem_cons_zero] at hx
    have ih := takeWhile_len p l k (by simpa using hk) (fun j hj hjk => by
      have := h1 (j + 1) (by simp; omega) (by omega)
      simpa using this) (fun hk' => by
      have := h2 (by simp; omega)
      simpa using this)
    simp [List.takeWhile, hx, ih]
theorem takeWhile_all {α : Type} (p : α → Bool) : ∀ (l : List α) (j : Nat) (h : j < l.length), j < (l.takeWhile p).length → p l[j] = true
  | [], j, h, _ => absurd h (by simp)
  | x :: l, 0, _, hj => by
    cases hx : p x
    · simp [List.takeWhile, hx] at hj
    · simpa using hx
  | x :: l, j + 1, h, hj => by
    cases hx : p x
    · simp [List.takeWhile, hx] at hj
    · simp only [List.takeWhile, hx, List.length_cons] at hj
      have := takeWhile_all p l j (by simpa using h) (by omega)
      simpa using this
theorem endL_of {d : List Bl} {i e : Nat} (h1 : i + 1 ≤ e) (h2 : e ≤ d.length) (h3 : ∀ k, i < k → k < e → lvN (d.getD i bl0) < lvN (d.getD k bl0)) (h4 : e < d.length → ¬ lvN (d.getD i bl0) < lvN (d.getD e bl0)) : endL d i = e := by
  unfold endL belL
  have := takeWhile_len (fun y => decide (lvN (d.getD i bl0) < lvN y)) (d.drop (i + 1)) (e - (i + 1)) (by simp; omega) (fun j hj hje => by
    have hj' : i + 1 + j < d.length := by simp at hj; omega
    have := h3 (i + 1 + j) (by omega) (by omega)
    rw [getD_bl hj'] at this
    simpa using this) (fun hk => by
    have hk' : e < d.length := by simp at hk; omega
    have := h4 hk'
    rw [getD_bl hk'] at this
    rw [List.getElem_drop]
    simp only [show i + 1 + (e - (i + 1)) = e by omega]
    simpa using this)
  omega
theorem endL_le {d : List Bl} {i : Nat} (h : i < d.length) : endL d i ≤ d.length := by
  unfold endL belL
  have := List.takeWhile_prefix (l := d.drop (i + 1)) (fun y => decide (lvN (d.getD i bl0) < lvN y))
  have := this.length_le
  rw [List.length_drop] at this
  omega
theorem endL_deeper {d : List Bl} {i k : Nat} (h : i < d.length) (h1 : i < k) (h2 : k < endL d i) : lvN (d.getD i bl0) < lvN (d.getD k bl0) := by
  have hk : k < d.length := Nat.lt_of_lt_of_le h2 (endL_le h)
  unfold endL belL at h2
  have := takeWhile_all (fun y => decide (lvN (d.getD i bl0) < lvN y)) (d.drop (i + 1)) (k - (i + 1)) (by simp; omega) (by omega)
  simp only [List.getElem_drop, show i + 1 + (k - (i + 1)) = k by omega, decide_eq_true_eq] at this
  rw [getD_bl hk]
  exact this
/-- The parts whose cells are read. -/
def Read2 (w : World) (b o1 o2 : Nat) (p1 p2 : Value) : Prop := w.cell? ⟨b, o1, none⟩ = some p1 ∧ w.cell? ⟨b, o2, none⟩ = some p2 ∧ b < w.heap.size
theorem Read2.below {w w' : World} {b o1 o2 : Nat} {p1 p2 : Value} (h : Read2 w b o1 o2 p1 p2) (hb : Below w.heap.size w w') : Read2 w' b o1 o2 p1 p2 :=
  ⟨(hb.cell (p := ⟨b, o1, none⟩) h.2.2).trans h.1, (hb.cell (p := ⟨b, o2, none⟩) h.2.2).trans h.2.1, Nat.lt_of_lt_of_le h.2.2 hb.size⟩
set_option maxRecDepth 100000 in
set_option maxHeartbeats 8000000 in
theorem endBelow_any {a : Option Addr} {n cap : Nat} {d : List Bl} {w : World} {i : Nat} (h : Outl w a n cap d) (hk : ∀ y ∈ d, kindB y) (hi : i < n) (hn : n ≤ 8) :
    Calls Try.prog 72 #[.slice a n cap, .int .i64 i] w fun e w' => e = .returned (.int .i64 (endL d i)) ∧ Below w.heap.size w w' := by
  have HN : Hid (n = d.length) := h.1
  have hc := h.2.1
  have hm := h.2.2.1
  unfold maxLen at hm
  have H : Hid (Outl w a n cap d) := h
  have HK : Hid (∀ y ∈ d, kindB y) := hk
  clear h hk
  go_enter Try.func72, Try.ntmps72
  go_wp2_with fail
  go_loopw [5] (fun ev wr => ∃ (e : Nat), i + 1 ≤ e ∧ e ≤ n ∧ ev = .int .i64 e ∧ (∀ k, i < k → k < e → lvN (d.getD i bl0) < lvN (d.getD k bl0)) ∧ Below w.heap.size w wr) (fun ev _ => n - (intOf ev).toNat)
  case atStart => exact ⟨i + 1, Nat.le_refl _, by omega, by go_num, fun k h1 h2 => by omega, Below.refl _ _⟩
  case round =>
    obtain ⟨e, he1, he2, rfl, hall, hb⟩ := hrel
    have HAll : Hid (∀ k, i < k → k < e → lvN (d.getD i bl0) < lvN (d.getD k bl0)) := hall
    have HB : Hid (Below w.heap.size w wr) := hb
    have sB := hb.size
    clear hall
    by_cases hlt : e < n
    · have hib : (i : Int) < (n : Int) := by omega
      have heb : (e : Int) < (n : Int) := by omega
      have hi0 : (0 : Int) ≤ (i : Int) := by omega
      have he0 : (0 : Int) ≤ (e : Int) := by omega
      have hid : i < d.length := by have := HN.out; omega
      have hed : e < d.length := by have := HN.out; omega
      rcases (H.out.below hb).2.2.2 with q | ⟨b, off, rfl, hbl, hcl⟩
      · rw [q] at hid
        exact absurd hid (by simp)
      obtain ⟨ta, tn, tc, ca, cn, cc, hc1, -, -⟩ := hcl i hid
      obtain ⟨ta', tn', tc', ca', cn', cc', hc2, -, -⟩ := hcl e hed
      have hk1 := HK.out (d.getD i bl0) (by rw [getD_bl hid]; exact List.getElem_mem hid)
      have hk2 := HK.out (d.getD e bl0) (by rw [getD_bl hed]; exact List.getElem_mem hed)
      obtain ⟨v1, HV1⟩ : ∃ v, Hid (lvN (d.getD i bl0) = v) := ⟨_, rfl⟩
      obtain ⟨v2, HV2⟩ : ∃ v, Hid (lvN (d.getD e bl0) = v) := ⟨_, rfl⟩
      have hv1 := HV1.out
      have hv2 := HV2.out
      obtain ⟨⟨K, V, t, R, C, l⟩, hx⟩ : ∃ x, x = d.getD i bl0 := ⟨_, rfl⟩
      obtain ⟨⟨K', V', t', R', C', l'⟩, hx'⟩ : ∃ x, x = d.getD e bl0 := ⟨_, rfl⟩
      rw [← hx] at hc1 hk1 hv1
      rw [← hx'] at hc2 hk2 hv2
      unfold lvN at hv1 hv2
      unfold kindB at hk1 hk2
      simp only at hc1 hc2 hk1 hk2 hv1 hv2
      have HV1' : Hid ((if K = 2 then V else -1) = v1) := hv1
      have HV2' : Hid ((if K' = 2 then V' else -1) = v2) := hv2
      have HK1 : Hid (K = 1 ∨ K = 2 ∨ K = 3) := hk1
      have HK2 : Hid (K' = 1 ∨ K' = 2 ∨ K' = 3) := hk2
      have HR : Hid (Read2 wr b (off + i) (off + e) (partV K V ta tn tc R C ca cn cc) (partV K' V' ta' tn' tc' R' C' ca' cn' cc')) := ⟨hc1, hc2, hbl⟩
      clear hcl hx hx' hc1 hc2 hk1 hk2 hv1 hv2 hb
      generalize hp1 : partV K V ta tn tc R C ca cn cc = p1 at HR
      generalize hp2 : partV K' V' ta' tn' tc' R' C' ca' cn' cc' = p2 at HR
      have HL1 : Hid (∀ u, Calls Try.prog 49 #[p1] u fun e w' => e = .returned (.int .i64 v1) ∧ Below u.heap.size u w') := fun u => hp1 ▸ levelOf_part HK1.out HV1'.out
      have HL2 : Hid (∀ u, Calls Try.prog 49 #[p2] u fun e w' => e = .returned (.int .i64 v2) ∧ Below u.heap.size u w') := fun u => hp2 ▸ levelOf_part HK2.out HV2'.out
      clear hp1 hp2 HK1 HK2 HV1' HV2'
      obtain ⟨x, HX⟩ : ∃ x, Hid (decide (v1 < v2) = x) := ⟨_, rfl⟩
      go_wp2_with fail
      refine wp_region_noPanic ?_
      refine wp_region_held_drew (S := fun w' => Read2 w' b (off + i) (off + e) p1 p2) (by kernel_rfl) (HR.out.below (Below.refl _ _).drew) (fun hHeld => ?_)
      have HBd : Hid (Below w.heap.size w wr.drew) := HB.out.drew
      have sd : w.heap.size ≤ wr.drew.heap.size := sB
      generalize wr.drew = u0 at hHeld HBd sd ⊢
      clear HR HB
      refine take_at 0 8 (.int .i64 e) rfl rfl (by kernel_rfl) (by kernel_rfl) (by kernel_rfl) (fun _ _ _ h => h) (Or.inl ⟨by kernel_rfl, fun w' hS' => by go_simp⟩) hHeld ?_
      (try simp only [Act.put, List.setIfInBounds_toArray, List.set_cons_zero, List.set_cons_succ])
      refine take_at 1 9 (.slice (some ⟨b, off, none⟩) n cap) rfl rfl (by kernel_rfl) (by kernel_rfl) (by kernel_rfl) (fun _ _ _ h => h) (Or.inl ⟨by kernel_rfl, fun w' hS' => by go_simp⟩) hHeld ?_
      (try simp only [Act.put, List.setIfInBounds_toArray, List.set_cons_zero, List.set_cons_succ])
      refine take_at 2 10 (.int .i64 n) rfl rfl (by kernel_rfl) (by kernel_rfl) (by kernel_rfl) (fun _ _ _ h => h) (Or.inl ⟨by kernel_rfl, fun w' hS' => by go_simp⟩) hHeld ?_
      (try simp only [Act.put, List.setIfInBounds_toArray, List.set_cons_zero, List.set_cons_succ])
      refine take_at 3 11 (.bool true) rfl rfl (by kernel_rfl) (by kernel_rfl) (by kernel_rfl) (fun _ _ _ h => h) (Or.inl ⟨by kernel_rfl, fun w' hS' => by go_simp⟩) hHeld ?_
      (try simp only [Act.put, List.setIfInBounds_toArray, List.set_cons_zero, List.set_cons_succ])
      refine take_at 4 12 (.bool true) rfl rfl (by kernel_rfl) (by kernel_rfl) (by kernel_rfl) (fun _ _ _ h => h) (Or.inl ⟨by kernel_rfl, fun w' hS' => by go_simp⟩) hHeld ?_
      (try simp only [Act.put, List.setIfInBounds_toArray, List.set_cons_zero, List.set_cons_succ])
      refine take_at 5 13 (.slice (some ⟨b, off, none⟩) n cap) rfl rfl (by kernel_rfl) (by kernel_rfl) (by kernel_rfl) (fun _ _ _ h => h) (Or.inl ⟨by kernel_rfl, fun w' hS' => by go_simp⟩) hHeld ?_
      (try simp only [Act.put, List.setIfInBounds_toArray, List.set_cons_zero, List.set_cons_succ])
      refine take_at 6 14 (.int .i64 e) rfl rfl (by kernel_rfl) (by kernel_rfl) (by kernel_rfl) (fun _ _ _ h => h) (Or.inl ⟨by kernel_rfl, fun w' hS' => by go_simp⟩) hHeld ?_
      (try simp only [Act.put, List.setIfInBounds_toArray, List.set_cons_zero, List.set_cons_succ])
      refine take_at 7 15 (.pointer (some ⟨b, off + e, none⟩)) rfl rfl (by kernel_rfl) (by kernel_rfl) (by kernel_rfl) (fun _ _ _ h => h) (Or.inl ⟨by kernel_rfl, fun w' hS' => by go_simp⟩) hHeld ?_
      (try simp only [Act.put, List.setIfInBounds_toArray, List.set_cons_zero, List.set_cons_succ])
      refine take_at 8 16 (p2) rfl rfl (by kernel_rfl) (by kernel_rfl) (by kernel_rfl) (fun _ _ _ h => h) (Or.inl ⟨by kernel_rfl, fun w' hS' => by have hc := hS'.2.1; go_simp⟩) hHeld ?_
      (try simp only [Act.put, List.setIfInBounds_toArray, List.set_cons_zero, List.set_cons_succ])
      refine take_at 10 18 (.slice (some ⟨b, off, none⟩) n cap) rfl rfl (by kernel_rfl) (by kernel_rfl) (by kernel_rfl) (fun _ _ _ h => h) (Or.inl ⟨by kernel_rfl, fun w' hS' => by go_simp⟩) hHeld ?_
      (try simp only [Act.put, List.setIfInBounds_toArray, List.set_cons_zero, List.set_cons_succ])
      refine take_at 11 19 (.int .i64 i) rfl rfl (by kernel_rfl) (by kernel_rfl) (by kernel_rfl) (fun _ _ _ h => h) (Or.inl ⟨by kernel_rfl, fun w' hS' => by go_simp⟩) hHeld ?_
      (try simp only [Act.put, List.setIfInBounds_toArray, List.set_cons_zero, List.set_cons_succ])
      refine take_at 12 20 (.pointer (some ⟨b, off + i, none⟩)) rfl rfl (by kernel_rfl) (by kernel_rfl) (by kernel_rfl) (fun _ _ _ h => h) (Or.inl ⟨by kernel_rfl, fun w' hS' => by go_simp⟩) hHeld ?_
      (try simp only [Act.put, List.setIfInBounds_toArray, List.set_cons_zero, List.set_cons_succ])
      refine take_at 13 21 (p1) rfl rfl (by kernel_rfl) (by kernel_rfl) (by kernel_rfl) (fun _ _ _ h => h) (Or.inl ⟨by kernel_rfl, fun w' hS' => by have hc := hS'.1; go_simp⟩) hHeld ?_
      (try simp only [Act.put, List.setIfInBounds_toArray, List.set_cons_zero, List.set_cons_succ])
      refine wpAnyH_ready (rs := [9]) (by kernel_rfl) (by simp) ?_
      refine AllReadyH.cons rfl (fun K hK => ?_) AllReadyH.nil
      go_simp
      go_at_call 49
      refine (HL2.out _).mono ?_
      rintro _ u1 ⟨rfl, hb⟩
      have HB1 : Hid (Below w.heap.size w u1) := HBd.out.trans (hb.mono sd)
      have su1 : w.heap.size ≤ u1.heap.size := Nat.le_trans sd hb.size
      go_wp2_with fail
      refine hK.out _ _ (hHeld.below hb) (fun hHeld => ?_)
      clear hK K hb
      (try simp only [Act.put, List.setIfInBounds_toArray, List.set_cons_zero, List.set_cons_succ])
      refine wpAnyH_ready (rs := [14]) (by kernel_rfl) (by simp) ?_
      refine AllReadyH.cons rfl (fun K hK => ?_) AllReadyH.nil
      go_simp
      go_at_call 49
      refine (HL1.out _).mono ?_
      rintro _ u2 ⟨rfl, hb⟩
      have HB2 : Hid (Below w.heap.size w u2) := HB1.out.trans (hb.mono su1)
      have su2 : w.heap.size ≤ u2.heap.size := Nat.le_trans su1 hb.size
      go_wp2_with fail
      refine hK.out _ _ (hHeld.below hb) (fun hHeld => ?_)
      clear hK K hb
      (try simp only [Act.put, List.setIfInBounds_toArray, List.set_cons_zero, List.set_cons_succ])
      refine take_at 15 23 (.bool x) rfl rfl (by kernel_rfl) (by kernel_rfl) (by kernel_rfl) (fun _ _ _ h => h) (Or.inl ⟨by kernel_rfl, fun w' hS' => by have hq := HX.out; go_simp⟩) hHeld ?_
      (try simp only [Act.put, List.setIfInBounds_toArray, List.set_cons_zero, List.set_cons_succ])
      refine take_at 16 24 (.bool x) rfl rfl (by kernel_rfl) (by kernel_rfl) (by kernel_rfl) (fun _ _ _ h => h) (Or.inl ⟨by kernel_rfl, fun w' hS' => by go_simp⟩) hHeld ?_
      (try simp only [Act.put, List.setIfInBounds_toArray, List.set_cons_zero, List.set_cons_succ])
      refine wpAnyH_done (by kernel_rfl) ?_ _
      refine NoPanic.normal ?_
      clear hHeld
      cases x
      · have hx : ¬ v1 < v2 := by have := HX.out; simp at this; omega
        go_wp2_with fail
        go_ret
        refine ⟨?_, HB2.out⟩
        rw [endL_of he1 (by have := HN.out; omega) HAll.out (fun _ => by rw [HV1.out, HV2.out]; omega)]
        rfl
      · have hx : v1 < v2 := by have := HX.out; simpa using this
        go_wp2_with fail
        go_roundw
        case rel =>
          refine ⟨e + 1, by omega, by omega, by go_num, fun k hk1 hk2 => ?_, HB2.out⟩
          by_cases hke : k = e
          · subst hke
            rw [HV1.out, HV2.out]
            exact hx
          · exact HAll.out k hk1 (by omega)
        case measure => simp [intOf]; omega
    · obtain rfl : e = n := by omega
      have heb : ¬ (e : Int) < (e : Int) := by omega
      clear hb
      go_wp2_with fail
      refine wp_region_noPanic ?_
      refine wp_region_held_drew (S := fun w' => True) (by kernel_rfl) trivial (fun hHeld => ?_)
      have HBd : Hid (Below w.heap.size w wr.drew) := HB.out.drew
      generalize wr.drew = u0 at HBd ⊢
      clear HB
      refine take_at 0 8 (.int .i64 e) rfl rfl (by kernel_rfl) (by kernel_rfl) (by kernel_rfl) (fun _ _ _ h => h) (Or.inl ⟨by kernel_rfl, fun w' hS' => by go_simp⟩) hHeld ?_
      (try simp only [Act.put, List.setIfInBounds_toArray, List.set_cons_zero, List.set_cons_succ])
      refine take_at 1 9 (.slice a e cap) rfl rfl (by kernel_rfl) (by kernel_rfl) (by kernel_rfl) (fun _ _ _ h => h) (Or.inl ⟨by kernel_rfl, fun w' hS' => by go_simp⟩) hHeld ?_
      (try simp only [Act.put, List.setIfInBounds_toArray, List.set_cons_zero, List.set_cons_succ])
      refine take_at 2 10 (.int .i64 e) rfl rfl (by kernel_rfl) (by kernel_rfl) (by kernel_rfl) (fun _ _ _ h => h) (Or.inl ⟨by kernel_rfl, fun w' hS' => by go_simp⟩) hHeld ?_
      (try simp only [Act.put, List.setIfInBounds_toArray, List.set_cons_zero, List.set_cons_succ])
      refine take_at 3 11 (.bool false) rfl rfl (by kernel_rfl) (by kernel_rfl) (by kernel_rfl) (fun _ _ _ h => h) (Or.inl ⟨by kernel_rfl, fun w' hS' => by go_simp⟩) hHeld ?_
      (try simp only [Act.put, List.setIfInBounds_toArray, List.set_cons_zero, List.set_cons_succ])
      refine take_at 4 12 (.bool false) rfl rfl (by kernel_rfl) (by kernel_rfl) (by kernel_rfl) (fun _ _ _ h => h) (Or.inl ⟨by kernel_rfl, fun w' hS' => by go_simp⟩) hHeld ?_
      (try simp only [Act.put, List.setIfInBounds_toArray, List.set_cons_zero, List.set_cons_succ])
      refine take_at 5 13 (undef) rfl rfl (by kernel_rfl) (by kernel_rfl) (by kernel_rfl) (fun _ _ _ h => h) (Or.inr ⟨by kernel_rfl, rfl⟩) hHeld ?_
      (try simp only [Act.put, List.setIfInBounds_toArray, List.set_cons_zero, List.set_cons_succ])
      refine take_at 6 14 (undef) rfl rfl (by kernel_rfl) (by kernel_rfl) (by kernel_rfl) (fun _ _ _ h => h) (Or.inr ⟨by kernel_rfl, rfl⟩) hHeld ?_
      (try simp only [Act.put, List.setIfInBounds_toArray, List.set_cons_zero, List.set_cons_succ])
      refine take_at 7 15 (undef) rfl rfl (by kernel_rfl) (by kernel_rfl) (by kernel_rfl) (fun _ _ _ h => h) (Or.inr ⟨by kernel_rfl, rfl⟩) hHeld ?_
      (try simp only [Act.put, List.setIfInBounds_toArray, List.set_cons_zero, List.set_cons_succ])
      refine take_at 8 16 (undef) rfl rfl (by kernel_rfl) (by kernel_rfl) (by kernel_rfl) (fun _ _ _ h => h) (Or.inr ⟨by kernel_rfl, rfl⟩) hHeld ?_
      (try simp only [Act.put, List.setIfInBounds_toArray, List.set_cons_zero, List.set_cons_succ])
      refine take_at 9 17 (undef) rfl rfl (by kernel_rfl) (by kernel_rfl) (by kernel_rfl) (fun _ _ _ h => h) (Or.inr ⟨by kernel_rfl, rfl⟩) hHeld ?_
      (try simp only [Act.put, List.setIfInBounds_toArray, List.set_cons_zero, List.set_cons_succ])
      refine take_at 10 18 (undef) rfl rfl (by kernel_rfl) (by kernel_rfl) (by kernel_rfl) (fun _ _ _ h => h) (Or.inr ⟨by kernel_rfl, rfl⟩) hHeld ?_
      (try simp only [Act.put, List.setIfInBounds_toArray, List.set_cons_zero, List.set_cons_succ])
      refine take_at 11 19 (undef) rfl rfl (by kernel_rfl) (by kernel_rfl) (by kernel_rfl) (fun _ _ _ h => h) (Or.inr ⟨by kernel_rfl, rfl⟩) hHeld ?_
      (try simp only [Act.put, List.setIfInBounds_toArray, List.set_cons_zero, List.set_cons_succ])
      refine take_at 12 20 (undef) rfl rfl (by kernel_rfl) (by kernel_rfl) (by kernel_rfl) (fun _ _ _ h => h) (Or.inr ⟨by kernel_rfl, rfl⟩) hHeld ?_
      (try simp only [Act.put, List.setIfInBounds_toArray, List.set_cons_zero, List.set_cons_succ])
      refine take_at 13 21 (undef) rfl rfl (by kernel_rfl) (by kernel_rfl) (by kernel_rfl) (fun _ _ _ h => h) (Or.inr ⟨by kernel_rfl, rfl⟩) hHeld ?_
      (try simp only [Act.put, List.setIfInBounds_toArray, List.set_cons_zero, List.set_cons_succ])
      refine take_at 14 22 (undef) rfl rfl (by kernel_rfl) (by kernel_rfl) (by kernel_rfl) (fun _ _ _ h => h) (Or.inr ⟨by kernel_rfl, rfl⟩) hHeld ?_
      (try simp only [Act.put, List.setIfInBounds_toArray, List.set_cons_zero, List.set_cons_succ])
      refine take_at 15 23 (undef) rfl rfl (by kernel_rfl) (by kernel_rfl) (by kernel_rfl) (fun _ _ _ h => h) (Or.inr ⟨by kernel_rfl, rfl⟩) hHeld ?_
      (try simp only [Act.put, List.setIfInBounds_toArray, List.set_cons_zero, List.set_cons_succ])
      refine take_at 16 24 (.bool false) rfl rfl (by kernel_rfl) (by kernel_rfl) (by kernel_rfl) (fun _ _ _ h => h) (Or.inl ⟨by kernel_rfl, fun w' hS' => by go_simp⟩) hHeld ?_
      (try simp only [Act.put, List.setIfInBounds_toArray, List.set_cons_zero, List.set_cons_succ])
      refine wpAnyH_done (by kernel_rfl) ?_ _
      refine NoPanic.normal ?_
      clear hHeld
      go_wp2_with fail
      go_ret
      refine ⟨?_, HBd.out⟩
      rw [endL_of he1 (by have := HN.out; omega) HAll.out (fun h => by have := HN.out; omega)]
      rfl
end Go.Proofs.Ytdcebaneobkcoaa
namespace Go.Proofs.Ytdcebaneobkcoaa
open Go.RowKit

def bump (z : Int) (x : Bl) : Bl := (x.1, x.2.1 + z, x.2.2)
/-- The parts from i up to m are z deeper. -/
def deepTo (d : List Bl) (i : Nat) (z : Int) (m : Nat) : List Bl := (List.range d.length).map fun k => if i ≤ k ∧ k < m then bump z (d.getD k bl0) else d.getD k bl0
def deepL (d : List Bl) (i : Nat) (z : Int) : List Bl := deepTo d i z (endL d i)
theorem deepTo_len (d : List Bl) (i : Nat) (z : Int) (m : Nat) : (deepTo d i z m).length = d.length := by simp [deepTo]
theorem deepTo_get {d : List Bl} {i : Nat} {z : Int} {m k : Nat} (hk : k < d.length) : (deepTo d i z m).getD k bl0 = if i ≤ k ∧ k < m then bump z (d.getD k bl0) else d.getD k bl0 := by
  simp only [deepTo, List.getD, List.getElem?_map, List.getElem?_range hk, Option.map_some, Option.getD_some]
theorem bl_ext {a b : List Bl} (hl : a.length = b.length) (h : ∀ k, k < b.length → a.getD k bl0 = b.getD k bl0) : a = b := by
  apply List.ext_getElem hl
  intro k h1 h2
  have := h k h2
  rwa [getD_bl h1, getD_bl h2] at this
theorem deepTo_start (d : List Bl) (i : Nat) (z : Int) : deepTo d i z i = d := bl_ext (deepTo_len _ _ _ _) fun k hk => by rw [deepTo_get hk, if_neg (by omega)]
theorem deepTo_succ {d : List Bl} {i : Nat} {z : Int} {m : Nat} (hi : i ≤ m) : deepTo d i z (m + 1) = (deepTo d i z m).set m (bump z (d.getD m bl0)) := by
  refine bl_ext (by simp [deepTo_len]) fun k hk => ?_
  rw [List.length_set, deepTo_len] at hk
  rw [deepTo_get hk]
  by_cases e : m = k
  · subst e
    rw [if_pos (by omega), show ((deepTo d i z m).set m (bump z (d.getD m bl0))).getD m bl0 = bump z (d.getD m bl0) by simp [List.getD, deepTo_len, hk]]
  · rw [show ((deepTo d i z m).set m (bump z (d.getD m bl0))).getD k bl0 = (deepTo d i z m).getD k bl0 by simp [List.getD, List.getElem?_set_ne e], deepTo_get hk]
    by_cases h1 : i ≤ k ∧ k < m
    · rw [if_pos h1, if_pos (by omega)]
    · rw [if_neg h1, if_neg (by omega)]
theorem ownP_cap {w : World} {B : Nat} {pa : Option Addr} {n pc : Nat} {ps : List Value} (h : OwnP w B (.slice pa n pc) ps) : n ≤ pc ∧ pc ≤ 2 ^ 63 - 1 := by
  have hr := h.row
  rcases hr.2 with ⟨hv, h0⟩ | ⟨g, cap, cur, hv, hg, hgg, a1, a2, _⟩
  · simp only [Value.slice.injEq] at hv
    omega
  · simp only [Value.slice.injEq] at hv
    unfold maxLen at a2
    omega
set_option maxRecDepth 100000 in
set_option maxHeartbeats 8000000 in
theorem deepen_any {w w0 : World} {B : Nat} {pa : Option Addr} {n pc : Nat} {ps : List Value} {d : List Bl} {i : Nat} {z : Int} (h : OwnP w B (.slice pa n pc) ps) (hp : PartsAre w0 ps d) (hk : ∀ y ∈ d, kindB y) (hi : i < n) (hn : n ≤ 8) (hB : B ≤ w.heap.size) (hb0 : Below w0.heap.size w0 w)
    (hz : z = 1 ∨ z = -1) (hit : ∀ k, i ≤ k → k < endL d i → (d.getD k bl0).1 = 2 ∧ 0 ≤ (d.getD k bl0).2.1 ∧ (d.getD k bl0).2.1 ≤ 3) :
    Calls Try.prog 71 #[.slice pa n pc, .int .i64 i, .int .i64 z] w fun e w' => (∃ v, e = .returned v) ∧ (∃ ps', OwnP w' B (.slice pa n pc) ps' ∧ PartsAre w0 ps' (deepL d i z)) ∧ Below B w w' := by
  have HND : Hid (n = d.length) := h.len.trans hp.1
  have HOU : Hid (Outl w pa n pc d) := outl_of h (hp.below hb0)
  obtain ⟨hpc1, hpc2⟩ := ownP_cap h
  have HO : Hid (OwnP w B (.slice pa n pc) ps) := h
  have HP : Hid (PartsAre w0 ps d) := hp
  have HK : Hid (∀ y ∈ d, kindB y) := hk
  have HIT : Hid (∀ k, i ≤ k → k < endL d i → (d.getD k bl0).1 = 2 ∧ 0 ≤ (d.getD k bl0).2.1 ∧ (d.getD k bl0).2.1 ≤ 3) := hit
  have hle : endL d i ≤ n := by
    rw [HND.out]
    exact endL_le (by have := HND.out; omega)
  have hge : i + 1 ≤ endL d i := by unfold endL; omega
  have HDL : Hid (deepL d i z = deepTo d i z (endL d i)) := rfl
  clear h hp hk hit hb0
  obtain ⟨E, HE⟩ : ∃ E, Hid (endL d i = E) := ⟨_, rfl⟩
  rw [HE.out] at hle hge HDL HIT
  go_enter Try.func71, Try.ntmps71
  go_upto_region 1 with (go_at_call 72; refine (endBelow_any HOU.out HK.out hi hn).mono ?_; rintro e w1 ⟨rfl, hb1⟩; rw [HE.out])
  have HO1 : Hid (OwnP w1 B (.slice pa n pc) ps) := HO.out.below hb1
  have s1 := hb1.size
  have HB1 : Hid (Below B w w1) := hb1.mono hB
  clear hb1 HO HOU
  go_wp2_with fail
  go_loopw [7] (fun mv wr => ∃ (m : Nat) (ps' : List Value), i ≤ m ∧ m ≤ E ∧ mv = .int .i64 m ∧ OwnP wr B (.slice pa n pc) ps' ∧ PartsAre w0 ps' (deepTo d i z m) ∧ B ≤ wr.heap.size ∧ Below B w wr) (fun mv _ => E - (intOf mv).toNat)
  case atStart => exact ⟨i, ps, Nat.le_refl _, by omega, rfl, HO1.out, by rw [deepTo_start]; exact HP.out, by omega, HB1.out⟩
  case round =>
    obtain ⟨m, ps', hm1, hm2, rfl, ho, hp, hs, hb⟩ := hrel
    have HOw : Hid (OwnP wr B (.slice pa n pc) ps') := ho
    have HPw : Hid (PartsAre w0 ps' (deepTo d i z m)) := hp
    have HB : Hid (Below B w wr) := hb
    clear hp hb
    by_cases hlt : m < E
    · have hmb : (m : Int) < (E : Int) := by omega
      have hmn : (m : Int) < (n : Int) := by omega
      have hm0 : (0 : Int) ≤ (m : Int) := by omega
      have hmd : m < d.length := by have := HND.out; omega
      obtain ⟨g, rfl, hg1, hg2, hcell, hfz⟩ := ownP_at ho (show m < n by omega)
      have hpm := HPw.out.2 m (by rw [deepTo_len]; exact hmd)
      rw [deepTo_get hmd, if_neg (by omega)] at hpm
      obtain ⟨ta, tn, tc, ca, cn, cc, hpv, ht, hc⟩ := hpm
      obtain ⟨k2, hv0, hv3⟩ := HIT.out m hm1 hlt
      have HSU : Hid (deepTo d i z (m + 1) = (deepTo d i z m).set m (bump z (d.getD m bl0))) := deepTo_succ hm1
      obtain ⟨⟨K, V, t, R, C, l⟩, hx⟩ : ∃ x, x = d.getD m bl0 := ⟨_, rfl⟩
      rw [← hx] at hpv ht hc k2 hv0 hv3 HSU
      simp only at hpv ht hc k2 hv0 hv3
      subst k2
      rw [hpv] at hcell
      have c0 : wr.cell? ⟨g, m, none⟩ = some (.iface 111 (.agg #[.int .i64 V, .slice ta tn tc])) := hcell
      have HPI : Hid (PartIs w0 (.iface 111 (.agg #[.int .i64 (V + z), .slice ta tn tc])) (bump z (2, V, t, R, C, l))) := ⟨ta, tn, tc, ca, cn, cc, rfl, ht, hc⟩
      clear hcell hx hpv ht hc ho
      have c1 : (wr.alloc (.cells #[.int .i64 V, .slice ta tn tc] 111)).cell? ⟨g, m, none⟩ = some (.iface 111 (.agg #[.int .i64 V, .slice ta tn tc])) := by
        rw [← c0]
        exact ((Below.refl wr.heap.size wr).alloc (Nat.le_refl _) _).cell (p := ⟨g, m, none⟩) hg2
      go_wp2_with fail
      rw [assert_item]
      go_wp2_with fail
      go_roundw
      case rel =>
        refine ⟨m + 1, ps'.set m (.iface 111 (.agg #[.int .i64 (V + z), .slice ta tn tc])), by omega, by omega, by go_num, ?_, ?_, by simp; omega, ?_⟩
        · exact World.ownsRow.alloc (ownP_set HOw.out _ _) _
        · rw [HSU.out]
          exact HPw.out.set m HPI.out
        · exact (HB.out.setCell (p := ⟨g, m, none⟩) hg1 _).alloc (by simp; omega) _
      case measure => simp [intOf]; omega
    · obtain rfl : m = E := by omega
      have hmb : ¬ (m : Int) < (m : Int) := by omega
      clear ho
      go_wp2_with fail
      go_end0
      exact ⟨⟨_, rfl⟩, ⟨ps', HOw.out, by rw [HDL.out]; exact HPw.out⟩, HB.out⟩
/-- The items of a group, in form. -/
theorem group_items {d : List Bl} {i : Nat} (hd : outlB d = true) (hi : i < d.length) (h2 : (d.getD i bl0).1 = 2) (k : Nat) (h1 : i ≤ k) (hk : k < endL d i) : (d.getD k bl0).1 = 2 ∧ 0 ≤ (d.getD k bl0).2.1 ∧ (d.getD k bl0).2.1 ≤ 3 := by
  have item : ∀ k, k < d.length → (d.getD k bl0).1 = 2 → 0 ≤ (d.getD k bl0).2.1 ∧ (d.getD k bl0).2.1 ≤ 3 := fun k hk h => by
    have := outlB_part hd hk
    unfold partOkB at this
    rw [if_neg (by omega), if_pos h, Bool.and_eq_true, decide_eq_true_eq] at this
    exact this.1
  have hkd : k < d.length := Nat.lt_of_lt_of_le hk (endL_le hi)
  by_cases e : k = i
  · subst e
    exact ⟨h2, item k hkd h2⟩
  · have hdp := endL_deeper hi (by omega) hk
    have h0 := item i hi h2
    unfold lvN at hdp
    rw [if_pos h2] at hdp
    by_cases hk2 : (d.getD k bl0).1 = 2
    · exact ⟨hk2, item k hkd hk2⟩
    · rw [if_neg hk2] at hdp
      omega
def sinkF (d : List Bl) (i : Nat) : Option (List Bl) := if (d.getD i bl0).1 = 2 then some (deepL d i 1) else none
def liftF (d : List Bl) (i : Nat) : Option (List Bl) := if (d.getD i bl0).1 = 2 then (if 0 < (d.getD i bl0).2.1 then some (deepL d i (-1)) else if endL d i = i + 1 then some (d.set i (1, 0, (d.getD i bl0).2.2.1, 0, 0, [])) else none) else none
set_option maxRecDepth 100000 in
set_option maxHeartbeats 8000000 in
theorem sink_any {w w0 : World} {B : Nat} {pa : Option Addr} {n pc : Nat} {ps : List Value} {d : List Bl} {i : Nat} (h : OwnP w B (.slice pa n pc) ps) (hp : PartsAre w0 ps d) (hk : ∀ y ∈ d, kindB y) (hi : i < n) (hB : B ≤ w.heap.size) (hb0 : Below w0.heap.size w0 w) (hd : outlB d = true) :
    Calls Try.prog 55 #[.slice pa n pc, .int .i64 i] w fun e w' => e = .returned (.bool (sinkF d i).isSome) ∧ (∃ ps', OwnP w' B (.slice pa n pc) ps' ∧ PartsAre w0 ps' ((sinkF d i).getD d)) ∧ Below B w w' := by
  have hdl : i < d.length := by rw [← hp.1, ← h.len]; exact hi
  have hn8 : n ≤ 8 := by
    have := hd
    unfold outlB at this
    rw [Bool.and_eq_true, decide_eq_true_eq] at this
    rw [h.len, hp.1]
    exact this.1
  obtain ⟨g, rfl, hg1, hg2, hcell, hfz⟩ := ownP_at h hi
  obtain ⟨hpc1, hpc2⟩ := ownP_cap h
  obtain ⟨ta, tn, tc, ca, cn, cc, hpv, ht, hc⟩ := hp.2 i hdl
  have hkd := hk (d.getD i bl0) (by rw [getD_bl hdl]; exact List.getElem_mem hdl)
  have HP : Hid (PartsAre w0 ps d) := hp
  have HO : Hid (OwnP w B (.slice (some ⟨g, 0, none⟩) n pc) ps) := h
  have HK : Hid (∀ y ∈ d, kindB y) := hk
  have HB0 : Hid (Below w0.heap.size w0 w) := hb0
  have HGI : Hid ((d.getD i bl0).1 = 2 → ∀ k, i ≤ k → k < endL d i → (d.getD k bl0).1 = 2 ∧ 0 ≤ (d.getD k bl0).2.1 ∧ (d.getD k bl0).2.1 ≤ 3) := fun h2 => group_items hd hdl h2
  rw [hpv] at hcell
  obtain ⟨⟨K, V, t, R, C, l⟩, hx⟩ : ∃ x, x = d.getD i bl0 := ⟨_, rfl⟩
  rw [← hx] at hcell hkd ht HGI
  have HEN : Hid (sinkF d i = if K = 2 then some (deepL d i 1) else none) := by
    show sinkF d i = _
    unfold sinkF
    rw [← hx]
  have hib : (i : Int) < (n : Int) := by omega
  have hi0 : (0 : Int) ≤ (i : Int) := by omega
  unfold kindB at hkd
  simp only at hkd ht hcell HGI
  have HT : Hid (Txt w0 ta tn tc t) := ht
  clear hx h hp hk hpv hc ht hb0 hd
  rcases hkd with hK | hK | hK
  · subst hK
    have c0 : w.cell? ⟨g, i, none⟩ = some (.iface 109 (.agg #[.slice ta tn tc])) := hcell
    clear hcell
    rw [HEN.out, if_neg (by decide)]
    go_enter Try.func55, Try.ntmps55
    go_wp2_with fail
    rw [assert_other (by decide)]
    go_wp2_with fail
    go_ret
    exact ⟨rfl, ⟨ps, HO.out, HP.out⟩, Below.refl _ _⟩
  rotate_left
  · subst hK
    have c0 : w.cell? ⟨g, i, none⟩ = some (.iface 125 (.agg #[.int .i64 R, .int .i64 C, .slice ca cn cc])) := hcell
    clear hcell
    rw [HEN.out, if_neg (by decide)]
    go_enter Try.func55, Try.ntmps55
    go_wp2_with fail
    rw [assert_other (by decide)]
    go_wp2_with fail
    go_ret
    exact ⟨rfl, ⟨ps, HO.out, HP.out⟩, Below.refl _ _⟩
  · subst hK
    have c0 : w.cell? ⟨g, i, none⟩ = some (.iface 111 (.agg #[.int .i64 V, .slice ta tn tc])) := hcell
    clear hcell
    have HG2 : Hid (∀ k, i ≤ k → k < endL d i → (d.getD k bl0).1 = 2 ∧ 0 ≤ (d.getD k bl0).2.1 ∧ (d.getD k bl0).2.1 ≤ 3) := HGI.out rfl
    rw [HEN.out, if_pos rfl]
    go_enter Try.func55, Try.ntmps55
    go_wp2_with fail
    rw [assert_item]
    go_wp2_with (go_at_call 71; refine (deepen_any HO.out HP.out HK.out hi hn8 hB HB0.out (.inl rfl) HG2.out).mono ?_; rintro e w1 ⟨⟨v, rfl⟩, ⟨ps', ho, hp⟩, hb⟩)
    go_ret
    exact ⟨rfl, ⟨ps', ho, hp⟩, hb⟩
set_option maxRecDepth 100000 in
set_option maxHeartbeats 8000000 in
theorem lift_any {w w0 : World} {B : Nat} {pa : Option Addr} {n pc : Nat} {ps : List Value} {d : List Bl} {i : Nat} (h : OwnP w B (.slice pa n pc) ps) (hp : PartsAre w0 ps d) (hk : ∀ y ∈ d, kindB y) (hi : i < n) (hB : B ≤ w.heap.size) (hb0 : Below w0.heap.size w0 w) (hd : outlB d = true) :
    Calls Try.prog 48 #[.slice pa n pc, .int .i64 i] w fun e w' => e = .returned (.bool (liftF d i).isSome) ∧ (∃ ps', OwnP w' B (.slice pa n pc) ps' ∧ PartsAre w0 ps' ((liftF d i).getD d)) ∧ Below B w w' := by
  have hdl : i < d.length := by rw [← hp.1, ← h.len]; exact hi
  have hn8 : n ≤ 8 := by
    have := hd
    unfold outlB at this
    rw [Bool.and_eq_true, decide_eq_true_eq] at this
    rw [h.len, hp.1]
    exact this.1
  obtain ⟨g, rfl, hg1, hg2, hcell, hfz⟩ := ownP_at h hi
  obtain ⟨hpc1, hpc2⟩ := ownP_cap h
  obtain ⟨ta, tn, tc, ca, cn, cc, hpv, ht, hc⟩ := hp.2 i hdl
  have hkd := hk (d.getD i bl0) (by rw [getD_bl hdl]; exact List.getElem_mem hdl)
  have HP : Hid (PartsAre w0 ps d) := hp
  have HO : Hid (OwnP w B (.slice (some ⟨g, 0, none⟩) n pc) ps) := h
  have HK : Hid (∀ y ∈ d, kindB y) := hk
  have HB0 : Hid (Below w0.heap.size w0 w) := hb0
  have HGI : Hid ((d.getD i bl0).1 = 2 → ∀ k, i ≤ k → k < endL d i → (d.getD k bl0).1 = 2 ∧ 0 ≤ (d.getD k bl0).2.1 ∧ (d.getD k bl0).2.1 ≤ 3) := fun h2 => group_items hd hdl h2
  rw [hpv] at hcell
  obtain ⟨⟨K, V, t, R, C, l⟩, hx⟩ : ∃ x, x = d.getD i bl0 := ⟨_, rfl⟩
  rw [← hx] at hcell hkd ht HGI
  have HEN : Hid (liftF d i = if K = 2 then (if 0 < V then some (deepL d i (-1)) else if endL d i = i + 1 then some (d.set i (1, 0, t, 0, 0, [])) else none) else none) := by
    show liftF d i = _
    unfold liftF
    rw [← hx]
  have hib : (i : Int) < (n : Int) := by omega
  have hi0 : (0 : Int) ≤ (i : Int) := by omega
  unfold kindB at hkd
  simp only at hkd ht hcell HGI
  have HT : Hid (Txt w0 ta tn tc t) := ht
  clear hx h hp hk hpv hc ht hb0 hd
  rcases hkd with hK | hK | hK
  · subst hK
    have c0 : w.cell? ⟨g, i, none⟩ = some (.iface 109 (.agg #[.slice ta tn tc])) := hcell
    clear hcell
    rw [HEN.out, if_neg (by decide)]
    go_enter Try.func48, Try.ntmps48
    go_wp2_with fail
    rw [assert_other (by decide)]
    go_wp2_with fail
    go_ret
    exact ⟨rfl, ⟨ps, HO.out, HP.out⟩, Below.refl _ _⟩
  rotate_left
  · subst hK
    have c0 : w.cell? ⟨g, i, none⟩ = some (.iface 125 (.agg #[.int .i64 R, .int .i64 C, .slice ca cn cc])) := hcell
    clear hcell
    rw [HEN.out, if_neg (by decide)]
    go_enter Try.func48, Try.ntmps48
    go_wp2_with fail
    rw [assert_other (by decide)]
    go_wp2_with fail
    go_ret
    exact ⟨rfl, ⟨ps, HO.out, HP.out⟩, Below.refl _ _⟩
  · subst hK
    have c0 : w.cell? ⟨g, i, none⟩ = some (.iface 111 (.agg #[.int .i64 V, .slice ta tn tc])) := hcell
    clear hcell
    have HG2 : Hid (∀ k, i ≤ k → k < endL d i → (d.getD k bl0).1 = 2 ∧ 0 ≤ (d.getD k bl0).2.1 ∧ (d.getD k bl0).2.1 ≤ 3) := HGI.out rfl
    rw [HEN.out, if_pos rfl]
    have B1 : Below w.heap.size w (w.alloc (.cells #[.int .i64 V, .slice ta tn tc] 111)) := (Below.refl _ _).alloc (Nat.le_refl _) _
    have HO1 : Hid (OwnP (w.alloc (.cells #[.int .i64 V, .slice ta tn tc] 111)) B (.slice (some ⟨g, 0, none⟩) n pc) ps) := HO.out.below B1
    have HB01 : Hid (Below w0.heap.size w0 (w.alloc (.cells #[.int .i64 V, .slice ta tn tc] 111))) := HB0.out.trans (B1.mono HB0.out.size)
    have s1 : B ≤ (w.alloc (.cells #[.int .i64 V, .slice ta tn tc] 111)).heap.size := by simp; omega
    by_cases hv : 0 < V
    · rw [if_pos hv]
      go_enter Try.func48, Try.ntmps48
      go_wp2_with fail
      rw [assert_item]
      go_wp2_with (go_at_call 71; refine (deepen_any HO1.out HP.out HK.out hi hn8 s1 HB01.out (.inr rfl) HG2.out).mono ?_; rintro e w1 ⟨⟨v, rfl⟩, ⟨ps', ho, hp⟩, hb⟩)
      go_ret
      exact ⟨rfl, ⟨ps', ho, hp⟩, ((Below.refl _ _).alloc hB _).trans hb⟩
    · rw [if_neg hv]
      have HOU : Hid (Outl (w.alloc (.cells #[.int .i64 V, .slice ta tn tc] 111)) (some ⟨g, 0, none⟩) n pc d) := outl_of HO1.out (HP.out.below HB01.out)
      obtain ⟨E, HE⟩ : ∃ E, Hid (endL d i = E) := ⟨_, rfl⟩
      have hle : E ≤ n := by
        rw [← HE.out, HO.out.len, HP.out.1]
        exact endL_le hdl
      rw [HE.out]
      by_cases he : E = i + 1
      · have hde : ((E : Int) == (i : Int) + 1) = true := by simp; omega
        rw [if_pos he]
        go_enter Try.func48, Try.ntmps48
        go_wp2_with fail
        rw [assert_item]
        go_upto_region 8 with (go_at_call 72; refine (endBelow_any HOU.out HK.out hi hn8).mono ?_; rintro e w1 ⟨rfl, hb1⟩; rw [HE.out])
        have s2 := hb1.size
        have q1 : w1.cell? ⟨w.heap.size, 1, none⟩ = some (.slice ta tn tc) := ((rowAt_new w #[.int .i64 V, .slice ta tn tc] 111).below hb1 (by simp)).cell 1
        have HO2 : Hid (OwnP w1 B (.slice (some ⟨g, 0, none⟩) n pc) ps) := HO1.out.below hb1
        have HB2 : Hid (Below B w w1) := ((Below.refl _ _).alloc hB _).trans (hb1.mono s1)
        obtain ⟨pv, c2⟩ : ∃ u, w1.cell? ⟨g, i, none⟩ = some u := by
          obtain ⟨g', e', -, -, c, -⟩ := ownP_at HO2.out hi
          cases e'
          exact ⟨_, c⟩
        have f2 : w1.frozen? ⟨g, i, none⟩ = false := HO2.out.row.frozenAt i
        clear hb1
        go_wp2_with fail
        go_ret
        refine ⟨rfl, ⟨ps.set i (.iface 109 (.agg #[.slice ta tn tc])), ownP_set HO2.out _ _, ?_⟩, HB2.out.setCell (p := ⟨g, i, none⟩) hg1 _⟩
        exact HP.out.set i ⟨ta, tn, tc, none, 0, 0, rfl, HT.out, tab_none _⟩
      · have hde : ((E : Int) == (i : Int) + 1) = false := by simp; omega
        rw [if_neg he]
        go_enter Try.func48, Try.ntmps48
        go_wp2_with fail
        rw [assert_item]
        go_wp2_with (go_at_call 72; refine (endBelow_any HOU.out HK.out hi hn8).mono ?_; rintro e w1 ⟨rfl, hb1⟩; rw [HE.out])
        go_ret
        exact ⟨rfl, ⟨ps, HO1.out.below hb1, HP.out⟩, ((Below.refl _ _).alloc hB _).trans (hb1.mono s1)⟩
end Go.Proofs.Ytdcebaneobkcoaa
namespace Go.Proofs.Ytdcebaneobkcoaa
open Go.RowKit

/-- The document that comes of a change of a part, if one does. -/
def docF (F : List Bl → Nat → Option (List Bl)) (d : List Bl) (z : Int) : Option (List Bl) :=
  if docB d = true ∧ 0 ≤ z ∧ z < d.length then (F d z.toNat).bind fun d' => if outlB d' = true then some d' else none else none
def DocRes (r : Option (List Bl)) (B : Nat) (e : Ending) (w' : World) : Prop :=
  (r = none ∧ e = .returned (.tuple #[.agg #[.slice none 0 0], .bool false])) ∨ (∃ d' p q rbs, r = some d' ∧ e = .returned (.tuple #[.agg #[.slice p d'.length q], .bool true]) ∧ DocOwn w' B w'.heap.size (.slice p d'.length q) rbs d')
theorem run_docOf {w : World} {g : Nat} {s : Value} (h : RowAt w g #[s] 25) : (loadVar 25 ⟨g, 0, none⟩).run Try.prog w = .ok (.agg #[s]) w :=
  run_loadVar_row w g 25 25 #[s] (0, 0) _ h Try.underlying25 rfl docI_info
theorem docB_parts {d : List Bl} (h : docB d = true) : d.length ≤ 8 ∧ d.all partBB = true ∧ outlB d = true := (doc_parts2 d).1 h
theorem all_set {d : List Bl} {i : Nat} {x : Bl} (h : d.all partBB = true) (hx : partBB x = true) : (d.set i x).all partBB = true := by
  rw [List.all_eq_true] at h ⊢
  intro y hy
  rcases List.mem_or_eq_of_mem_set hy with h1 | h1
  · exact h y h1
  · rw [h1]; exact hx
theorem all_deep {d : List Bl} {i : Nat} {z : Int} (h : d.all partBB = true) (hg : ∀ k, i ≤ k → k < endL d i → (d.getD k bl0).1 = 2) : (deepL d i z).all partBB = true := by
  rw [List.all_eq_true] at h ⊢
  intro y hy
  unfold deepL deepTo at hy
  rw [List.mem_map] at hy
  obtain ⟨k, hk, rfl⟩ := hy
  have hk' := List.mem_range.1 hk
  have hd := h (d.getD k bl0) (by rw [getD_bl hk']; exact List.getElem_mem hk')
  by_cases e : i ≤ k ∧ k < endL d i
  · rw [if_pos e]
    have h2 := hg k e.1 e.2
    unfold partBB partB at hd
    rw [if_neg (by omega), if_pos h2] at hd
    unfold partBB partB bump
    simp only
    rw [if_neg (by omega), if_pos h2]
    exact hd
  · rw [if_neg e]
    exact hd
theorem enlF_form {d d' : List Bl} {i : Nat} (h : d.all partBB = true) (_ : outlB d = true) (_ : i < d.length) (e : enlF d i = some d') : d'.all partBB = true ∧ d'.length = d.length := by
  unfold enlF at e
  by_cases h1 : (d.getD i bl0).1 = 1
  · rw [if_pos h1] at e
    cases e
    exact ⟨all_set h (by simp [partBB, partB, noneB]), by simp⟩
  · rw [if_neg h1] at e
    cases e
theorem sinkF_form {d d' : List Bl} {i : Nat} (h : d.all partBB = true) (ho : outlB d = true) (hi : i < d.length) (e : sinkF d i = some d') : d'.all partBB = true ∧ d'.length = d.length := by
  unfold sinkF at e
  by_cases h1 : (d.getD i bl0).1 = 2
  · rw [if_pos h1] at e
    cases e
    exact ⟨all_deep h (fun k a b => (group_items ho hi h1 k a b).1), by simp [deepL, deepTo_len]⟩
  · rw [if_neg h1] at e
    cases e
theorem liftF_form {d d' : List Bl} {i : Nat} (h : d.all partBB = true) (ho : outlB d = true) (hi : i < d.length) (e : liftF d i = some d') : d'.all partBB = true ∧ d'.length = d.length := by
  unfold liftF at e
  by_cases h1 : (d.getD i bl0).1 = 2
  · rw [if_pos h1] at e
    by_cases h2 : 0 < (d.getD i bl0).2.1
    · rw [if_pos h2] at e
      cases e
      exact ⟨all_deep h (fun k a b => (group_items ho hi h1 k a b).1), by simp [deepL, deepTo_len]⟩
    · rw [if_neg h2] at e
      by_cases h3 : endL d i = i + 1
      · rw [if_pos h3] at e
        cases e
        exact ⟨all_set h (by simp [partBB, partB, noneB]), by simp⟩
      · rw [if_neg h3] at e
        cases e
  · rw [if_neg h1] at e
    cases e
set_option maxRecDepth 100000 in
set_option maxHeartbeats 8000000 in
theorem docBy_enlist {a : Option Addr} {n cap : Nat} {d : List Bl} {z : Int} {w : World} (h : Dc w a n cap d) :
    Calls Try.prog 46 #[.agg #[.slice a n cap], .int .i64 z, .func (.func 47) #[] #[]] w fun e w' => DocRes (docF enlF d z) w.heap.size e w' ∧ Below w.heap.size w w' := by
  unfold DocRes
  have HN : Hid (n = d.length) := h.1
  have hc := h.2.1
  have hm := h.2.2.1
  unfold maxLen at hm
  have H : Hid (Dc w a n cap d) := h
  clear h
  obtain ⟨x, HX⟩ : ∃ x, Hid (docB d = x) := ⟨_, rfl⟩
  go_enter Try.func46, Try.ntmps46
  go_upto_region 1 with fail
  have B0 : Below w.heap.size w ((w.alloc (.cells #[.slice a n cap] 25)).alloc (.cells #[.slice none 0 0] 25)) := ((Below.refl _ _).alloc (Nat.le_refl _) _).alloc (by simp) _
  have G0 : RowAt ((w.alloc (.cells #[.slice a n cap] 25)).alloc (.cells #[.slice none 0 0] 25)) w.heap.size #[.slice a n cap] 25 := (rowAt_new w _ _).alloc _
  have G1 : RowAt ((w.alloc (.cells #[.slice a n cap] 25)).alloc (.cells #[.slice none 0 0] 25)) (w.heap.size + 1) #[.slice none 0 0] 25 := by
    have := rowAt_new (w.alloc (.cells #[.slice a n cap] 25)) #[.slice none 0 0] 25
    simpa using this
  generalize ((w.alloc (.cells #[.slice a n cap] 25)).alloc (.cells #[.slice none 0 0] 25)) = v0 at B0 G0 G1 ⊢
  have k0 : v0.cell? ⟨w.heap.size, 0, none⟩ = some (.slice a n cap) := G0.cell 0
  have l1 := G1.lt
  have s0 := B0.size
  have H1 : Hid (RowAt v0 (w.heap.size + 1) #[.slice none 0 0] 25) := G1
  have HB0 : Hid (Below w.heap.size w v0) := B0
  have HD0 : Hid (Dc v0 a n cap d) := H.out.below B0
  clear G0 G1 B0
  go_wp2_with fail
  refine (outlineOf_is HX.out HD0.out).mono ?_
  rintro e w1 ⟨(⟨hxx, rfl⟩ | ⟨hxx, pa, pc, ps, rfl, ho1, hp1⟩), hb1⟩
  · subst hxx
    have HZ : Hid (RowAt w1 (w.heap.size + 1) #[.slice none 0 0] 25) := H1.out.below hb1 l1
    have HNO : Hid (docF enlF d z = none) := by
      show docF enlF d z = none
      unfold docF
      rw [if_neg (by rw [HX.out]; simp)]
    clear k0
    go_wp2_with (refine wpList_store_row rfl 25 (.tmp 6) (.tmp 39) rfl (w.heap.size + 1) #[.slice none 0 0] rfl rfl 25 _ HZ.out docI_info rfl (cells1_one _ _ _) ?_)
    refine bodyPost_ret (v := .tuple #[.agg #[.slice none 0 0], .bool false]) ?_ rfl ⟨.inl ⟨HNO.out, rfl⟩, below_row (HB0.out.trans (hb1.mono s0)) (by omega) _⟩
    rw [results_cell_tmp rfl]
    simp [asAddr, Result.andThen, run_docOf (RowAt.setRow HZ.out _)]
  · subst hxx
    have HZ : Hid (RowAt w1 (w.heap.size + 1) #[.slice none 0 0] 25) := H1.out.below hb1 l1
    have HB1 : Hid (Below w.heap.size w w1) := HB0.out.trans (hb1.mono s0)
    have HO1 : Hid (OwnP w1 v0.heap.size (.slice pa n pc) ps) := ho1
    have HP1 : Hid (PartsAre v0 ps d) := hp1
    have hb01 : Hid (Below v0.heap.size v0 w1) := hb1
    have s1 := hb1.size
    obtain ⟨hn8', hall, hou⟩ := docB_parts HX.out
    have HALL : Hid (d.all partBB = true) := hall
    have HOU : Hid (outlB d = true) := hou
    have HK : Hid (∀ y ∈ d, kindB y) := fun y hy => partB_kind (List.all_eq_true.1 hall y hy)
    obtain ⟨hpc1, hpc2⟩ := ownP_cap ho1
    have hn8 : n ≤ 8 := by rw [HN.out]; exact hn8'
    clear k0 ho1 hp1 hb1 hall hou H1 HB0 HD0 hn8'
    by_cases hz0 : z < 0
    · have HNO : Hid (docF enlF d z = none) := by
        show docF enlF d z = none
        unfold docF
        rw [if_neg (by omega)]
      go_wp2_with (refine wpList_store_row rfl 25 (.tmp 6) (.tmp 39) rfl (w.heap.size + 1) #[.slice none 0 0] rfl rfl 25 _ HZ.out docI_info rfl (cells1_one _ _ _) ?_)
      refine bodyPost_ret (v := .tuple #[.agg #[.slice none 0 0], .bool false]) ?_ rfl ⟨.inl ⟨HNO.out, rfl⟩, below_row HB1.out (by omega) _⟩
      rw [results_cell_tmp rfl]
      simp [asAddr, Result.andThen, run_docOf (RowAt.setRow HZ.out _)]
    by_cases hzn : (n : Int) ≤ z
    · have HNO : Hid (docF enlF d z = none) := by
        show docF enlF d z = none
        unfold docF
        rw [if_neg (by have := HN.out; omega)]
      go_wp2_with (refine wpList_store_row rfl 25 (.tmp 6) (.tmp 39) rfl (w.heap.size + 1) #[.slice none 0 0] rfl rfl 25 _ HZ.out docI_info rfl (cells1_one _ _ _) ?_)
      refine bodyPost_ret (v := .tuple #[.agg #[.slice none 0 0], .bool false]) ?_ rfl ⟨.inl ⟨HNO.out, rfl⟩, below_row HB1.out (by omega) _⟩
      rw [results_cell_tmp rfl]
      simp [asAddr, Result.andThen, run_docOf (RowAt.setRow HZ.out _)]
    obtain ⟨i, rfl⟩ : ∃ i : Nat, z = i := ⟨z.toNat, by omega⟩
    have hin : i < n := by omega
    have hid : i < d.length := by have := HN.out; omega
    have HFE : Hid (docF enlF d i = (enlF d i).bind fun d' => if outlB d' = true then some d' else none) := by
      show docF enlF d i = _
      unfold docF
      rw [if_pos ⟨HX.out, by omega, by omega⟩]
      rfl
    obtain ⟨r, HR⟩ : ∃ r, Hid (enlF d i = r) := ⟨_, rfl⟩
    have HCH : Hid (Calls Try.prog 47 #[.slice pa n pc, .int .i64 i] w1 fun e w' => e = .returned (.bool r.isSome) ∧ (∃ ps', OwnP w' v0.heap.size (.slice pa n pc) ps' ∧ PartsAre v0 ps' (r.getD d)) ∧ Below v0.heap.size w1 w') := by
      have := enlist_any HO1.out HP1.out HK.out hin s1
      rw [HR.out] at this
      exact this
    cases r
    · have HNO : Hid (docF enlF d i = none) := by
        show docF enlF d i = none
        rw [HFE.out, HR.out]
        rfl
      go_wp2_with (first | (go_at_call 47; refine HCH.out.mono ?_; rintro e w2 ⟨rfl, ⟨ps', ho2, hp2⟩, hb2⟩; have s2 := hb2.size; replace HZ : Hid (RowAt w2 (w.heap.size + 1) #[.slice none 0 0] 25) := HZ.out.below hb2 l1) | (refine wpList_store_row rfl 25 (.tmp 6) (.tmp 39) rfl (w.heap.size + 1) #[.slice none 0 0] rfl rfl 25 _ HZ.out docI_info rfl (cells1_one _ _ _) ?_))
      refine bodyPost_ret (v := .tuple #[.agg #[.slice none 0 0], .bool false]) ?_ rfl ⟨.inl ⟨HNO.out, rfl⟩, below_row (HB1.out.trans (hb2.mono s0)) (by omega) _⟩
      rw [results_cell_tmp rfl]
      simp [asAddr, Result.andThen, run_docOf (RowAt.setRow HZ.out _)]
    · rename_i d'
      obtain ⟨hall', hlen'⟩ := enlF_form HALL.out HOU.out hid HR.out
      have HALL' : Hid (d'.all partBB = true) := hall'
      have HK' : Hid (∀ y ∈ d', kindB y) := fun y hy => partB_kind (List.all_eq_true.1 hall' y hy)
      have HLN : Hid (n = d'.length) := by
        show n = d'.length
        rw [hlen']
        exact HN.out
      clear hall' hlen'
      obtain ⟨q, HQ⟩ : ∃ q, Hid (outlB d' = q) := ⟨_, rfl⟩
      have HFQ : Hid (docF enlF d i = if q = true then some d' else none) := by
        show docF enlF d i = _
        rw [HFE.out, HR.out, Option.bind_some, HQ.out]
      have HIS : Hid (∀ u, Outl u pa n pc d' → Calls Try.prog 62 #[.slice pa n pc] u fun e w' => e = .returned (.bool q) ∧ Below u.heap.size u w') := fun u hu => outlineOk_is HQ.out hu HK'.out
      cases q
      · have HNO : Hid (docF enlF d i = none) := HFQ.out
        go_wp2_with (first | (go_at_call 47; refine HCH.out.mono ?_; rintro e w2 ⟨rfl, ⟨ps', ho2, hp2⟩, hb2⟩; have s2 := hb2.size; replace HZ : Hid (RowAt w2 (w.heap.size + 1) #[.slice none 0 0] 25) := HZ.out.below hb2 l1) | (go_at_call 62; refine (HIS.out _ (outl_of ho2 (hp2.below (hb01.out.trans hb2)))).mono ?_; rintro e w3 ⟨rfl, hb3⟩; replace HZ : Hid (RowAt w3 (w.heap.size + 1) #[.slice none 0 0] 25) := HZ.out.below hb3 (by omega)) | (refine wpList_store_row rfl 25 (.tmp 6) (.tmp 39) rfl (w.heap.size + 1) #[.slice none 0 0] rfl rfl 25 _ HZ.out docI_info rfl (cells1_one _ _ _) ?_))
        refine bodyPost_ret (v := .tuple #[.agg #[.slice none 0 0], .bool false]) ?_ rfl ⟨.inl ⟨HNO.out, rfl⟩, below_row ((HB1.out.trans (hb2.mono s0)).trans (hb3.mono (by omega))) (by omega) _⟩
        rw [results_cell_tmp rfl]
        simp [asAddr, Result.andThen, run_docOf (RowAt.setRow HZ.out _)]
      · have HYES : Hid (docF enlF d i = some d') := HFQ.out
        have HDC : Hid (∀ u, Outl u pa n pc d' → Calls Try.prog 70 #[.slice pa n pc] u fun e w' => (∃ p q rbs, e = .returned (.agg #[.slice p n q]) ∧ DocOwn w' u.heap.size w'.heap.size (.slice p n q) rbs d') ∧ Below u.heap.size u w') := fun u hu => outlineDoc_any hu HALL'.out HQ.out
        go_wp2_with (first | (go_at_call 47; refine HCH.out.mono ?_; rintro e w2 ⟨rfl, ⟨ps', ho2, hp2⟩, hb2⟩; have s2 := hb2.size; replace HZ : Hid (RowAt w2 (w.heap.size + 1) #[.slice none 0 0] 25) := HZ.out.below hb2 l1) | (go_at_call 62; refine (HIS.out _ (outl_of ho2 (hp2.below (hb01.out.trans hb2)))).mono ?_; rintro e w3 ⟨rfl, hb3⟩; have s3 := hb3.size; replace HZ : Hid (RowAt w3 (w.heap.size + 1) #[.slice none 0 0] 25) := HZ.out.below hb3 (by omega)) | (go_at_call 70; refine (HDC.out _ (outl_of (ho2.below hb3) ((hp2.below (hb01.out.trans hb2)).below hb3))).mono ?_; rintro e w4 ⟨⟨p, q, rbs, rfl, hd4⟩, hb4⟩; have s4 := hb4.size; replace HZ : Hid (RowAt w4 (w.heap.size + 1) #[.slice none 0 0] 25) := HZ.out.below hb4 (by omega)) | (refine wpList_store_row rfl 25 (.tmp 6) (.tmp 41) rfl (w.heap.size + 1) #[.slice p n q] rfl rfl 25 _ HZ.out docI_info rfl (cells1_one _ _ _) ?_))
        refine bodyPost_ret (v := .tuple #[.agg #[.slice p n q], .bool true]) ?_ rfl ⟨.inr ⟨d', p, q, rbs, HYES.out, by rw [← HLN.out], ?_⟩, below_row (((HB1.out.trans (hb2.mono s0)).trans (hb3.mono (by omega))).trans (hb4.mono (by omega))) (by omega) _⟩
        · rw [results_cell_tmp rfl]
          simp [asAddr, Result.andThen, run_docOf (RowAt.setRow HZ.out _)]
        · have sz : (w4.setRow (w.heap.size + 1) #[.slice p n q]).heap.size = w4.heap.size := by simp [World.setRow]
          rw [sz, ← HLN.out]
          exact (hd4.mid (fun b hb hb' => setRow_other _ _ _ _ (by omega))).less (by omega) (Nat.le_refl _)
set_option maxRecDepth 100000 in
set_option maxHeartbeats 4000000 in
theorem implDocItem_any {a : Option Addr} {n cap : Nat} {d : List Bl} {z : Int} {w : World} (h : Dc w a n cap d) :
    Calls Try.prog 18 #[.agg #[.slice a n cap], .int .i64 z] w fun e w' => DocRes (docF enlF d z) w.heap.size e w' ∧ Below w.heap.size w w' := by
  unfold DocRes
  have H : Hid (Dc w a n cap d) := h
  clear h
  go_enter Try.func18, Try.ntmps18
  go_upto_region 1 with fail
  have B0 : Below w.heap.size w ((w.alloc (.cells #[.slice a n cap] 25)).alloc (.cells #[.slice none 0 0] 25)) := ((Below.refl _ _).alloc (Nat.le_refl _) _).alloc (by simp) _
  have G0 : RowAt ((w.alloc (.cells #[.slice a n cap] 25)).alloc (.cells #[.slice none 0 0] 25)) w.heap.size #[.slice a n cap] 25 := (rowAt_new w _ _).alloc _
  have G1 : RowAt ((w.alloc (.cells #[.slice a n cap] 25)).alloc (.cells #[.slice none 0 0] 25)) (w.heap.size + 1) #[.slice none 0 0] 25 := by
    have := rowAt_new (w.alloc (.cells #[.slice a n cap] 25)) #[.slice none 0 0] 25
    simpa using this
  generalize ((w.alloc (.cells #[.slice a n cap] 25)).alloc (.cells #[.slice none 0 0] 25)) = v0 at B0 G0 G1 ⊢
  have k0 : v0.cell? ⟨w.heap.size, 0, none⟩ = some (.slice a n cap) := G0.cell 0
  have l1 := G1.lt
  have s0 := B0.size
  have H1 : Hid (RowAt v0 (w.heap.size + 1) #[.slice none 0 0] 25) := G1
  have HB0 : Hid (Below w.heap.size w v0) := B0
  have HD0 : Hid (Dc v0 a n cap d) := H.out.below B0
  clear G0 G1 B0
  go_wp2_with fail
  refine (docBy_enlist HD0.out).mono ?_
  intro e w1 hr
  unfold DocRes at hr
  obtain ⟨(⟨hf, rfl⟩ | ⟨d', p, q, rbs, hf, rfl, ho⟩), hb1⟩ := hr
  · have HZ : Hid (RowAt w1 (w.heap.size + 1) #[.slice none 0 0] 25) := H1.out.below hb1 l1
    have HF : Hid _ := hf
    clear k0 hf
    go_wp2_with (refine wpList_store_row rfl 25 (.tmp 4) (.tmp 9) rfl (w.heap.size + 1) #[.slice none 0 0] rfl rfl 25 _ HZ.out docI_info rfl (cells1_one _ _ _) ?_)
    refine bodyPost_ret (v := .tuple #[.agg #[.slice none 0 0], .bool false]) ?_ rfl ⟨.inl ⟨HF.out, rfl⟩, below_row (HB0.out.trans (hb1.mono s0)) (by omega) _⟩
    rw [results_cell_tmp rfl]
    simp [asAddr, Result.andThen, run_docOf (RowAt.setRow HZ.out _)]
  · have HZ : Hid (RowAt w1 (w.heap.size + 1) #[.slice none 0 0] 25) := H1.out.below hb1 l1
    have HF : Hid (docF enlF d z = some d') := hf
    obtain ⟨m, HM⟩ : ∃ m, Hid (d'.length = m) := ⟨_, rfl⟩
    rw [HM.out] at ho ⊢
    clear k0 hf
    go_wp2_with (refine wpList_store_row rfl 25 (.tmp 4) (.tmp 9) rfl (w.heap.size + 1) #[.slice p m q] rfl rfl 25 _ HZ.out docI_info rfl (cells1_one _ _ _) ?_)
    refine bodyPost_ret (v := .tuple #[.agg #[.slice p m q], .bool true]) ?_ rfl ⟨.inr ⟨d', p, q, rbs, HF.out, by rw [HM.out], ?_⟩, below_row (HB0.out.trans (hb1.mono s0)) (by omega) _⟩
    · rw [results_cell_tmp rfl]
      simp [asAddr, Result.andThen, run_docOf (RowAt.setRow HZ.out _)]
    · have sz : (w1.setRow (w.heap.size + 1) #[.slice p m q]).heap.size = w1.heap.size := by simp [World.setRow]
      rw [sz, HM.out]
      exact (ho.mid (fun b hb hb' => setRow_other _ _ _ _ (by omega))).less (by omega) (Nat.le_refl _)
set_option maxRecDepth 100000 in
set_option maxHeartbeats 8000000 in
theorem docBy_sink {a : Option Addr} {n cap : Nat} {d : List Bl} {z : Int} {w : World} (h : Dc w a n cap d) :
    Calls Try.prog 46 #[.agg #[.slice a n cap], .int .i64 z, .func (.func 55) #[] #[]] w fun e w' => DocRes (docF sinkF d z) w.heap.size e w' ∧ Below w.heap.size w w' := by
  unfold DocRes
  have HN : Hid (n = d.length) := h.1
  have hc := h.2.1
  have hm := h.2.2.1
  unfold maxLen at hm
  have H : Hid (Dc w a n cap d) := h
  clear h
  obtain ⟨x, HX⟩ : ∃ x, Hid (docB d = x) := ⟨_, rfl⟩
  go_enter Try.func46, Try.ntmps46
  go_upto_region 1 with fail
  have B0 : Below w.heap.size w ((w.alloc (.cells #[.slice a n cap] 25)).alloc (.cells #[.slice none 0 0] 25)) := ((Below.refl _ _).alloc (Nat.le_refl _) _).alloc (by simp) _
  have G0 : RowAt ((w.alloc (.cells #[.slice a n cap] 25)).alloc (.cells #[.slice none 0 0] 25)) w.heap.size #[.slice a n cap] 25 := (rowAt_new w _ _).alloc _
  have G1 : RowAt ((w.alloc (.cells #[.slice a n cap] 25)).alloc (.cells #[.slice none 0 0] 25)) (w.heap.size + 1) #[.slice none 0 0] 25 := by
    have := rowAt_new (w.alloc (.cells #[.slice a n cap] 25)) #[.slice none 0 0] 25
    simpa using this
  generalize ((w.alloc (.cells #[.slice a n cap] 25)).alloc (.cells #[.slice none 0 0] 25)) = v0 at B0 G0 G1 ⊢
  have k0 : v0.cell? ⟨w.heap.size, 0, none⟩ = some (.slice a n cap) := G0.cell 0
  have l1 := G1.lt
  have s0 := B0.size
  have H1 : Hid (RowAt v0 (w.heap.size + 1) #[.slice none 0 0] 25) := G1
  have HB0 : Hid (Below w.heap.size w v0) := B0
  have HD0 : Hid (Dc v0 a n cap d) := H.out.below B0
  clear G0 G1 B0
  go_wp2_with fail
  refine (outlineOf_is HX.out HD0.out).mono ?_
  rintro e w1 ⟨(⟨hxx, rfl⟩ | ⟨hxx, pa, pc, ps, rfl, ho1, hp1⟩), hb1⟩
  · subst hxx
    have HZ : Hid (RowAt w1 (w.heap.size + 1) #[.slice none 0 0] 25) := H1.out.below hb1 l1
    have HNO : Hid (docF sinkF d z = none) := by
      show docF sinkF d z = none
      unfold docF
      rw [if_neg (by rw [HX.out]; simp)]
    clear k0
    go_wp2_with (refine wpList_store_row rfl 25 (.tmp 6) (.tmp 39) rfl (w.heap.size + 1) #[.slice none 0 0] rfl rfl 25 _ HZ.out docI_info rfl (cells1_one _ _ _) ?_)
    refine bodyPost_ret (v := .tuple #[.agg #[.slice none 0 0], .bool false]) ?_ rfl ⟨.inl ⟨HNO.out, rfl⟩, below_row (HB0.out.trans (hb1.mono s0)) (by omega) _⟩
    rw [results_cell_tmp rfl]
    simp [asAddr, Result.andThen, run_docOf (RowAt.setRow HZ.out _)]
  · subst hxx
    have HZ : Hid (RowAt w1 (w.heap.size + 1) #[.slice none 0 0] 25) := H1.out.below hb1 l1
    have HB1 : Hid (Below w.heap.size w w1) := HB0.out.trans (hb1.mono s0)
    have HO1 : Hid (OwnP w1 v0.heap.size (.slice pa n pc) ps) := ho1
    have HP1 : Hid (PartsAre v0 ps d) := hp1
    have hb01 : Hid (Below v0.heap.size v0 w1) := hb1
    have s1 := hb1.size
    obtain ⟨hn8', hall, hou⟩ := docB_parts HX.out
    have HALL : Hid (d.all partBB = true) := hall
    have HOU : Hid (outlB d = true) := hou
    have HK : Hid (∀ y ∈ d, kindB y) := fun y hy => partB_kind (List.all_eq_true.1 hall y hy)
    obtain ⟨hpc1, hpc2⟩ := ownP_cap ho1
    have hn8 : n ≤ 8 := by rw [HN.out]; exact hn8'
    clear k0 ho1 hp1 hb1 hall hou H1 HB0 HD0 hn8'
    by_cases hz0 : z < 0
    · have HNO : Hid (docF sinkF d z = none) := by
        show docF sinkF d z = none
        unfold docF
        rw [if_neg (by omega)]
      go_wp2_with (refine wpList_store_row rfl 25 (.tmp 6) (.tmp 39) rfl (w.heap.size + 1) #[.slice none 0 0] rfl rfl 25 _ HZ.out docI_info rfl (cells1_one _ _ _) ?_)
      refine bodyPost_ret (v := .tuple #[.agg #[.slice none 0 0], .bool false]) ?_ rfl ⟨.inl ⟨HNO.out, rfl⟩, below_row HB1.out (by omega) _⟩
      rw [results_cell_tmp rfl]
      simp [asAddr, Result.andThen, run_docOf (RowAt.setRow HZ.out _)]
    by_cases hzn : (n : Int) ≤ z
    · have HNO : Hid (docF sinkF d z = none) := by
        show docF sinkF d z = none
        unfold docF
        rw [if_neg (by have := HN.out; omega)]
      go_wp2_with (refine wpList_store_row rfl 25 (.tmp 6) (.tmp 39) rfl (w.heap.size + 1) #[.slice none 0 0] rfl rfl 25 _ HZ.out docI_info rfl (cells1_one _ _ _) ?_)
      refine bodyPost_ret (v := .tuple #[.agg #[.slice none 0 0], .bool false]) ?_ rfl ⟨.inl ⟨HNO.out, rfl⟩, below_row HB1.out (by omega) _⟩
      rw [results_cell_tmp rfl]
      simp [asAddr, Result.andThen, run_docOf (RowAt.setRow HZ.out _)]
    obtain ⟨i, rfl⟩ : ∃ i : Nat, z = i := ⟨z.toNat, by omega⟩
    have hin : i < n := by omega
    have hid : i < d.length := by have := HN.out; omega
    have HFE : Hid (docF sinkF d i = (sinkF d i).bind fun d' => if outlB d' = true then some d' else none) := by
      show docF sinkF d i = _
      unfold docF
      rw [if_pos ⟨HX.out, by omega, by omega⟩]
      rfl
    obtain ⟨r, HR⟩ : ∃ r, Hid (sinkF d i = r) := ⟨_, rfl⟩
    have HCH : Hid (Calls Try.prog 55 #[.slice pa n pc, .int .i64 i] w1 fun e w' => e = .returned (.bool r.isSome) ∧ (∃ ps', OwnP w' v0.heap.size (.slice pa n pc) ps' ∧ PartsAre v0 ps' (r.getD d)) ∧ Below v0.heap.size w1 w') := by
      have := sink_any HO1.out HP1.out HK.out hin s1 hb01.out HOU.out
      rw [HR.out] at this
      exact this
    cases r
    · have HNO : Hid (docF sinkF d i = none) := by
        show docF sinkF d i = none
        rw [HFE.out, HR.out]
        rfl
      go_wp2_with (first | (go_at_call 55; refine HCH.out.mono ?_; rintro e w2 ⟨rfl, ⟨ps', ho2, hp2⟩, hb2⟩; have s2 := hb2.size; replace HZ : Hid (RowAt w2 (w.heap.size + 1) #[.slice none 0 0] 25) := HZ.out.below hb2 l1) | (refine wpList_store_row rfl 25 (.tmp 6) (.tmp 39) rfl (w.heap.size + 1) #[.slice none 0 0] rfl rfl 25 _ HZ.out docI_info rfl (cells1_one _ _ _) ?_))
      refine bodyPost_ret (v := .tuple #[.agg #[.slice none 0 0], .bool false]) ?_ rfl ⟨.inl ⟨HNO.out, rfl⟩, below_row (HB1.out.trans (hb2.mono s0)) (by omega) _⟩
      rw [results_cell_tmp rfl]
      simp [asAddr, Result.andThen, run_docOf (RowAt.setRow HZ.out _)]
    · rename_i d'
      obtain ⟨hall', hlen'⟩ := sinkF_form HALL.out HOU.out hid HR.out
      have HALL' : Hid (d'.all partBB = true) := hall'
      have HK' : Hid (∀ y ∈ d', kindB y) := fun y hy => partB_kind (List.all_eq_true.1 hall' y hy)
      have HLN : Hid (n = d'.length) := by
        show n = d'.length
        rw [hlen']
        exact HN.out
      clear hall' hlen'
      obtain ⟨q, HQ⟩ : ∃ q, Hid (outlB d' = q) := ⟨_, rfl⟩
      have HFQ : Hid (docF sinkF d i = if q = true then some d' else none) := by
        show docF sinkF d i = _
        rw [HFE.out, HR.out, Option.bind_some, HQ.out]
      have HIS : Hid (∀ u, Outl u pa n pc d' → Calls Try.prog 62 #[.slice pa n pc] u fun e w' => e = .returned (.bool q) ∧ Below u.heap.size u w') := fun u hu => outlineOk_is HQ.out hu HK'.out
      cases q
      · have HNO : Hid (docF sinkF d i = none) := HFQ.out
        go_wp2_with (first | (go_at_call 55; refine HCH.out.mono ?_; rintro e w2 ⟨rfl, ⟨ps', ho2, hp2⟩, hb2⟩; have s2 := hb2.size; replace HZ : Hid (RowAt w2 (w.heap.size + 1) #[.slice none 0 0] 25) := HZ.out.below hb2 l1) | (go_at_call 62; refine (HIS.out _ (outl_of ho2 (hp2.below (hb01.out.trans hb2)))).mono ?_; rintro e w3 ⟨rfl, hb3⟩; replace HZ : Hid (RowAt w3 (w.heap.size + 1) #[.slice none 0 0] 25) := HZ.out.below hb3 (by omega)) | (refine wpList_store_row rfl 25 (.tmp 6) (.tmp 39) rfl (w.heap.size + 1) #[.slice none 0 0] rfl rfl 25 _ HZ.out docI_info rfl (cells1_one _ _ _) ?_))
        refine bodyPost_ret (v := .tuple #[.agg #[.slice none 0 0], .bool false]) ?_ rfl ⟨.inl ⟨HNO.out, rfl⟩, below_row ((HB1.out.trans (hb2.mono s0)).trans (hb3.mono (by omega))) (by omega) _⟩
        rw [results_cell_tmp rfl]
        simp [asAddr, Result.andThen, run_docOf (RowAt.setRow HZ.out _)]
      · have HYES : Hid (docF sinkF d i = some d') := HFQ.out
        have HDC : Hid (∀ u, Outl u pa n pc d' → Calls Try.prog 70 #[.slice pa n pc] u fun e w' => (∃ p q rbs, e = .returned (.agg #[.slice p n q]) ∧ DocOwn w' u.heap.size w'.heap.size (.slice p n q) rbs d') ∧ Below u.heap.size u w') := fun u hu => outlineDoc_any hu HALL'.out HQ.out
        go_wp2_with (first | (go_at_call 55; refine HCH.out.mono ?_; rintro e w2 ⟨rfl, ⟨ps', ho2, hp2⟩, hb2⟩; have s2 := hb2.size; replace HZ : Hid (RowAt w2 (w.heap.size + 1) #[.slice none 0 0] 25) := HZ.out.below hb2 l1) | (go_at_call 62; refine (HIS.out _ (outl_of ho2 (hp2.below (hb01.out.trans hb2)))).mono ?_; rintro e w3 ⟨rfl, hb3⟩; have s3 := hb3.size; replace HZ : Hid (RowAt w3 (w.heap.size + 1) #[.slice none 0 0] 25) := HZ.out.below hb3 (by omega)) | (go_at_call 70; refine (HDC.out _ (outl_of (ho2.below hb3) ((hp2.below (hb01.out.trans hb2)).below hb3))).mono ?_; rintro e w4 ⟨⟨p, q, rbs, rfl, hd4⟩, hb4⟩; have s4 := hb4.size; replace HZ : Hid (RowAt w4 (w.heap.size + 1) #[.slice none 0 0] 25) := HZ.out.below hb4 (by omega)) | (refine wpList_store_row rfl 25 (.tmp 6) (.tmp 41) rfl (w.heap.size + 1) #[.slice p n q] rfl rfl 25 _ HZ.out docI_info rfl (cells1_one _ _ _) ?_))
        refine bodyPost_ret (v := .tuple #[.agg #[.slice p n q], .bool true]) ?_ rfl ⟨.inr ⟨d', p, q, rbs, HYES.out, by rw [← HLN.out], ?_⟩, below_row (((HB1.out.trans (hb2.mono s0)).trans (hb3.mono (by omega))).trans (hb4.mono (by omega))) (by omega) _⟩
        · rw [results_cell_tmp rfl]
          simp [asAddr, Result.andThen, run_docOf (RowAt.setRow HZ.out _)]
        · have sz : (w4.setRow (w.heap.size + 1) #[.slice p n q]).heap.size = w4.heap.size := by simp [World.setRow]
          rw [sz, ← HLN.out]
          exact (hd4.mid (fun b hb hb' => setRow_other _ _ _ _ (by omega))).less (by omega) (Nat.le_refl _)
set_option maxRecDepth 100000 in
set_option maxHeartbeats 4000000 in
theorem implDocSink_any {a : Option Addr} {n cap : Nat} {d : List Bl} {z : Int} {w : World} (h : Dc w a n cap d) :
    Calls Try.prog 29 #[.agg #[.slice a n cap], .int .i64 z] w fun e w' => DocRes (docF sinkF d z) w.heap.size e w' ∧ Below w.heap.size w w' := by
  unfold DocRes
  have H : Hid (Dc w a n cap d) := h
  clear h
  go_enter Try.func29, Try.ntmps29
  go_upto_region 1 with fail
  have B0 : Below w.heap.size w ((w.alloc (.cells #[.slice a n cap] 25)).alloc (.cells #[.slice none 0 0] 25)) := ((Below.refl _ _).alloc (Nat.le_refl _) _).alloc (by simp) _
  have G0 : RowAt ((w.alloc (.cells #[.slice a n cap] 25)).alloc (.cells #[.slice none 0 0] 25)) w.heap.size #[.slice a n cap] 25 := (rowAt_new w _ _).alloc _
  have G1 : RowAt ((w.alloc (.cells #[.slice a n cap] 25)).alloc (.cells #[.slice none 0 0] 25)) (w.heap.size + 1) #[.slice none 0 0] 25 := by
    have := rowAt_new (w.alloc (.cells #[.slice a n cap] 25)) #[.slice none 0 0] 25
    simpa using this
  generalize ((w.alloc (.cells #[.slice a n cap] 25)).alloc (.cells #[.slice none 0 0] 25)) = v0 at B0 G0 G1 ⊢
  have k0 : v0.cell? ⟨w.heap.size, 0, none⟩ = some (.slice a n cap) := G0.cell 0
  have l1 := G1.lt
  have s0 := B0.size
  have H1 : Hid (RowAt v0 (w.heap.size + 1) #[.slice none 0 0] 25) := G1
  have HB0 : Hid (Below w.heap.size w v0) := B0
  have HD0 : Hid (Dc v0 a n cap d) := H.out.below B0
  clear G0 G1 B0
  go_wp2_with fail
  refine (docBy_sink HD0.out).mono ?_
  intro e w1 hr
  unfold DocRes at hr
  obtain ⟨(⟨hf, rfl⟩ | ⟨d', p, q, rbs, hf, rfl, ho⟩), hb1⟩ := hr
  · have HZ : Hid (RowAt w1 (w.heap.size + 1) #[.slice none 0 0] 25) := H1.out.below hb1 l1
    have HF : Hid _ := hf
    clear k0 hf
    go_wp2_with (refine wpList_store_row rfl 25 (.tmp 4) (.tmp 9) rfl (w.heap.size + 1) #[.slice none 0 0] rfl rfl 25 _ HZ.out docI_info rfl (cells1_one _ _ _) ?_)
    refine bodyPost_ret (v := .tuple #[.agg #[.slice none 0 0], .bool false]) ?_ rfl ⟨.inl ⟨HF.out, rfl⟩, below_row (HB0.out.trans (hb1.mono s0)) (by omega) _⟩
    rw [results_cell_tmp rfl]
    simp [asAddr, Result.andThen, run_docOf (RowAt.setRow HZ.out _)]
  · have HZ : Hid (RowAt w1 (w.heap.size + 1) #[.slice none 0 0] 25) := H1.out.below hb1 l1
    have HF : Hid (docF sinkF d z = some d') := hf
    obtain ⟨m, HM⟩ : ∃ m, Hid (d'.length = m) := ⟨_, rfl⟩
    rw [HM.out] at ho ⊢
    clear k0 hf
    go_wp2_with (refine wpList_store_row rfl 25 (.tmp 4) (.tmp 9) rfl (w.heap.size + 1) #[.slice p m q] rfl rfl 25 _ HZ.out docI_info rfl (cells1_one _ _ _) ?_)
    refine bodyPost_ret (v := .tuple #[.agg #[.slice p m q], .bool true]) ?_ rfl ⟨.inr ⟨d', p, q, rbs, HF.out, by rw [HM.out], ?_⟩, below_row (HB0.out.trans (hb1.mono s0)) (by omega) _⟩
    · rw [results_cell_tmp rfl]
      simp [asAddr, Result.andThen, run_docOf (RowAt.setRow HZ.out _)]
    · have sz : (w1.setRow (w.heap.size + 1) #[.slice p m q]).heap.size = w1.heap.size := by simp [World.setRow]
      rw [sz, HM.out]
      exact (ho.mid (fun b hb hb' => setRow_other _ _ _ _ (by omega))).less (by omega) (Nat.le_refl _)
set_option maxRecDepth 100000 in
set_option maxHeartbeats 8000000 in
theorem docBy_lift {a : Option Addr} {n cap : Nat} {d : List Bl} {z : Int} {w : World} (h : Dc w a n cap d) :
    Calls Try.prog 46 #[.agg #[.slice a n cap], .int .i64 z, .func (.func 48) #[] #[]] w fun e w' => DocRes (docF liftF d z) w.heap.size e w' ∧ Below w.heap.size w w' := by
  unfold DocRes
  have HN : Hid (n = d.length) := h.1
  have hc := h.2.1
  have hm := h.2.2.1
  unfold maxLen at hm
  have H : Hid (Dc w a n cap d) := h
  clear h
  obtain ⟨x, HX⟩ : ∃ x, Hid (docB d = x) := ⟨_, rfl⟩
  go_enter Try.func46, Try.ntmps46
  go_upto_region 1 with fail
  have B0 : Below w.heap.size w ((w.alloc (.cells #[.slice a n cap] 25)).alloc (.cells #[.slice none 0 0] 25)) := ((Below.refl _ _).alloc (Nat.le_refl _) _).alloc (by simp) _
  have G0 : RowAt ((w.alloc (.cells #[.slice a n cap] 25)).alloc (.cells #[.slice none 0 0] 25)) w.heap.size #[.slice a n cap] 25 := (rowAt_new w _ _).alloc _
  have G1 : RowAt ((w.alloc (.cells #[.slice a n cap] 25)).alloc (.cells #[.slice none 0 0] 25)) (w.heap.size + 1) #[.slice none 0 0] 25 := by
    have := rowAt_new (w.alloc (.cells #[.slice a n cap] 25)) #[.slice none 0 0] 25
    simpa using this
  generalize ((w.alloc (.cells #[.slice a n cap] 25)).alloc (.cells #[.slice none 0 0] 25)) = v0 at B0 G0 G1 ⊢
  have k0 : v0.cell? ⟨w.heap.size, 0, none⟩ = some (.slice a n cap) := G0.cell 0
  have l1 := G1.lt
  have s0 := B0.size
  have H1 : Hid (RowAt v0 (w.heap.size + 1) #[.slice none 0 0] 25) := G1
  have HB0 : Hid (Below w.heap.size w v0) := B0
  have HD0 : Hid (Dc v0 a n cap d) := H.out.below B0
  clear G0 G1 B0
  go_wp2_with fail
  refine (outlineOf_is HX.out HD0.out).mono ?_
  rintro e w1 ⟨(⟨hxx, rfl⟩ | ⟨hxx, pa, pc, ps, rfl, ho1, hp1⟩), hb1⟩
  · subst hxx
    have HZ : Hid (RowAt w1 (w.heap.size + 1) #[.slice none 0 0] 25) := H1.out.below hb1 l1
    have HNO : Hid (docF liftF d z = none) := by
      show docF liftF d z = none
      unfold docF
      rw [if_neg (by rw [HX.out]; simp)]
    clear k0
    go_wp2_with (refine wpList_store_row rfl 25 (.tmp 6) (.tmp 39) rfl (w.heap.size + 1) #[.slice none 0 0] rfl rfl 25 _ HZ.out docI_info rfl (cells1_one _ _ _) ?_)
    refine bodyPost_ret (v := .tuple #[.agg #[.slice none 0 0], .bool false]) ?_ rfl ⟨.inl ⟨HNO.out, rfl⟩, below_row (HB0.out.trans (hb1.mono s0)) (by omega) _⟩
    rw [results_cell_tmp rfl]
    simp [asAddr, Result.andThen, run_docOf (RowAt.setRow HZ.out _)]
  · subst hxx
    have HZ : Hid (RowAt w1 (w.heap.size + 1) #[.slice none 0 0] 25) := H1.out.below hb1 l1
    have HB1 : Hid (Below w.heap.size w w1) := HB0.out.trans (hb1.mono s0)
    have HO1 : Hid (OwnP w1 v0.heap.size (.slice pa n pc) ps) := ho1
    have HP1 : Hid (PartsAre v0 ps d) := hp1
    have hb01 : Hid (Below v0.heap.size v0 w1) := hb1
    have s1 := hb1.size
    obtain ⟨hn8', hall, hou⟩ := docB_parts HX.out
    have HALL : Hid (d.all partBB = true) := hall
    have HOU : Hid (outlB d = true) := hou
    have HK : Hid (∀ y ∈ d, kindB y) := fun y hy => partB_kind (List.all_eq_true.1 hall y hy)
    obtain ⟨hpc1, hpc2⟩ := ownP_cap ho1
    have hn8 : n ≤ 8 := by rw [HN.out]; exact hn8'
    clear k0 ho1 hp1 hb1 hall hou H1 HB0 HD0 hn8'
    by_cases hz0 : z < 0
    · have HNO : Hid (docF liftF d z = none) := by
        show docF liftF d z = none
        unfold docF
        rw [if_neg (by omega)]
      go_wp2_with (refine wpList_store_row rfl 25 (.tmp 6) (.tmp 39) rfl (w.heap.size + 1) #[.slice none 0 0] rfl rfl 25 _ HZ.out docI_info rfl (cells1_one _ _ _) ?_)
      refine bodyPost_ret (v := .tuple #[.agg #[.slice none 0 0], .bool false]) ?_ rfl ⟨.inl ⟨HNO.out, rfl⟩, below_row HB1.out (by omega) _⟩
      rw [results_cell_tmp rfl]
      simp [asAddr, Result.andThen, run_docOf (RowAt.setRow HZ.out _)]
    by_cases hzn : (n : Int) ≤ z
    · have HNO : Hid (docF liftF d z = none) := by
        show docF liftF d z = none
        unfold docF
        rw [if_neg (by have := HN.out; omega)]
      go_wp2_with (refine wpList_store_row rfl 25 (.tmp 6) (.tmp 39) rfl (w.heap.size + 1) #[.slice none 0 0] rfl rfl 25 _ HZ.out docI_info rfl (cells1_one _ _ _) ?_)
      refine bodyPost_ret (v := .tuple #[.agg #[.slice none 0 0], .bool false]) ?_ rfl ⟨.inl ⟨HNO.out, rfl⟩, below_row HB1.out (by omega) _⟩
      rw [results_cell_tmp rfl]
      simp [asAddr, Result.andThen, run_docOf (RowAt.setRow HZ.out _)]
    obtain ⟨i, rfl⟩ : ∃ i : Nat, z = i := ⟨z.toNat, by omega⟩
    have hin : i < n := by omega
    have hid : i < d.length := by have := HN.out; omega
    have HFE : Hid (docF liftF d i = (liftF d i).bind fun d' => if outlB d' = true then some d' else none) := by
      show docF liftF d i = _
      unfold docF
      rw [if_pos ⟨HX.out, by omega, by omega⟩]
      rfl
    obtain ⟨r, HR⟩ : ∃ r, Hid (liftF d i = r) := ⟨_, rfl⟩
    have HCH : Hid (Calls Try.prog 48 #[.slice pa n pc, .int .i64 i] w1 fun e w' => e = .returned (.bool r.isSome) ∧ (∃ ps', OwnP w' v0.heap.size (.slice pa n pc) ps' ∧ PartsAre v0 ps' (r.getD d)) ∧ Below v0.heap.size w1 w') := by
      have := lift_any HO1.out HP1.out HK.out hin s1 hb01.out HOU.out
      rw [HR.out] at this
      exact this
    cases r
    · have HNO : Hid (docF liftF d i = none) := by
        show docF liftF d i = none
        rw [HFE.out, HR.out]
        rfl
      go_wp2_with (first | (go_at_call 48; refine HCH.out.mono ?_; rintro e w2 ⟨rfl, ⟨ps', ho2, hp2⟩, hb2⟩; have s2 := hb2.size; replace HZ : Hid (RowAt w2 (w.heap.size + 1) #[.slice none 0 0] 25) := HZ.out.below hb2 l1) | (refine wpList_store_row rfl 25 (.tmp 6) (.tmp 39) rfl (w.heap.size + 1) #[.slice none 0 0] rfl rfl 25 _ HZ.out docI_info rfl (cells1_one _ _ _) ?_))
      refine bodyPost_ret (v := .tuple #[.agg #[.slice none 0 0], .bool false]) ?_ rfl ⟨.inl ⟨HNO.out, rfl⟩, below_row (HB1.out.trans (hb2.mono s0)) (by omega) _⟩
      rw [results_cell_tmp rfl]
      simp [asAddr, Result.andThen, run_docOf (RowAt.setRow HZ.out _)]
    · rename_i d'
      obtain ⟨hall', hlen'⟩ := liftF_form HALL.out HOU.out hid HR.out
      have HALL' : Hid (d'.all partBB = true) := hall'
      have HK' : Hid (∀ y ∈ d', kindB y) := fun y hy => partB_kind (List.all_eq_true.1 hall' y hy)
      have HLN : Hid (n = d'.length) := by
        show n = d'.length
        rw [hlen']
        exact HN.out
      clear hall' hlen'
      obtain ⟨q, HQ⟩ : ∃ q, Hid (outlB d' = q) := ⟨_, rfl⟩
      have HFQ : Hid (docF liftF d i = if q = true then some d' else none) := by
        show docF liftF d i = _
        rw [HFE.out, HR.out, Option.bind_some, HQ.out]
      have HIS : Hid (∀ u, Outl u pa n pc d' → Calls Try.prog 62 #[.slice pa n pc] u fun e w' => e = .returned (.bool q) ∧ Below u.heap.size u w') := fun u hu => outlineOk_is HQ.out hu HK'.out
      cases q
      · have HNO : Hid (docF liftF d i = none) := HFQ.out
        go_wp2_with (first | (go_at_call 48; refine HCH.out.mono ?_; rintro e w2 ⟨rfl, ⟨ps', ho2, hp2⟩, hb2⟩; have s2 := hb2.size; replace HZ : Hid (RowAt w2 (w.heap.size + 1) #[.slice none 0 0] 25) := HZ.out.below hb2 l1) | (go_at_call 62; refine (HIS.out _ (outl_of ho2 (hp2.below (hb01.out.trans hb2)))).mono ?_; rintro e w3 ⟨rfl, hb3⟩; replace HZ : Hid (RowAt w3 (w.heap.size + 1) #[.slice none 0 0] 25) := HZ.out.below hb3 (by omega)) | (refine wpList_store_row rfl 25 (.tmp 6) (.tmp 39) rfl (w.heap.size + 1) #[.slice none 0 0] rfl rfl 25 _ HZ.out docI_info rfl (cells1_one _ _ _) ?_))
        refine bodyPost_ret (v := .tuple #[.agg #[.slice none 0 0], .bool false]) ?_ rfl ⟨.inl ⟨HNO.out, rfl⟩, below_row ((HB1.out.trans (hb2.mono s0)).trans (hb3.mono (by omega))) (by omega) _⟩
        rw [results_cell_tmp rfl]
        simp [asAddr, Result.andThen, run_docOf (RowAt.setRow HZ.out _)]
      · have HYES : Hid (docF liftF d i = some d') := HFQ.out
        have HDC : Hid (∀ u, Outl u pa n pc d' → Calls Try.prog 70 #[.slice pa n pc] u fun e w' => (∃ p q rbs, e = .returned (.agg #[.slice p n q]) ∧ DocOwn w' u.heap.size w'.heap.size (.slice p n q) rbs d') ∧ Below u.heap.size u w') := fun u hu => outlineDoc_any hu HALL'.out HQ.out
        go_wp2_with (first | (go_at_call 48; refine HCH.out.mono ?_; rintro e w2 ⟨rfl, ⟨ps', ho2, hp2⟩, hb2⟩; have s2 := hb2.size; replace HZ : Hid (RowAt w2 (w.heap.size + 1) #[.slice none 0 0] 25) := HZ.out.below hb2 l1) | (go_at_call 62; refine (HIS.out _ (outl_of ho2 (hp2.below (hb01.out.trans hb2)))).mono ?_; rintro e w3 ⟨rfl, hb3⟩; have s3 := hb3.size; replace HZ : Hid (RowAt w3 (w.heap.size + 1) #[.slice none 0 0] 25) := HZ.out.below hb3 (by omega)) | (go_at_call 70; refine (HDC.out _ (outl_of (ho2.below hb3) ((hp2.below (hb01.out.trans hb2)).below hb3))).mono ?_; rintro e w4 ⟨⟨p, q, rbs, rfl, hd4⟩, hb4⟩; have s4 := hb4.size; replace HZ : Hid (RowAt w4 (w.heap.size + 1) #[.slice none 0 0] 25) := HZ.out.below hb4 (by omega)) | (refine wpList_store_row rfl 25 (.tmp 6) (.tmp 41) rfl (w.heap.size + 1) #[.slice p n q] rfl rfl 25 _ HZ.out docI_info rfl (cells1_one _ _ _) ?_))
        refine bodyPost_ret (v := .tuple #[.agg #[.slice p n q], .bool true]) ?_ rfl ⟨.inr ⟨d', p, q, rbs, HYES.out, by rw [← HLN.out], ?_⟩, below_row (((HB1.out.trans (hb2.mono s0)).trans (hb3.mono (by omega))).trans (hb4.mono (by omega))) (by omega) _⟩
        · rw [results_cell_tmp rfl]
          simp [asAddr, Result.andThen, run_docOf (RowAt.setRow HZ.out _)]
        · have sz : (w4.setRow (w.heap.size + 1) #[.slice p n q]).heap.size = w4.heap.size := by simp [World.setRow]
          rw [sz, ← HLN.out]
          exact (hd4.mid (fun b hb hb' => setRow_other _ _ _ _ (by omega))).less (by omega) (Nat.le_refl _)
set_option maxRecDepth 100000 in
set_option maxHeartbeats 4000000 in
theorem implDocLift_any {a : Option Addr} {n cap : Nat} {d : List Bl} {z : Int} {w : World} (h : Dc w a n cap d) :
    Calls Try.prog 19 #[.agg #[.slice a n cap], .int .i64 z] w fun e w' => DocRes (docF liftF d z) w.heap.size e w' ∧ Below w.heap.size w w' := by
  unfold DocRes
  have H : Hid (Dc w a n cap d) := h
  clear h
  go_enter Try.func19, Try.ntmps19
  go_upto_region 1 with fail
  have B0 : Below w.heap.size w ((w.alloc (.cells #[.slice a n cap] 25)).alloc (.cells #[.slice none 0 0] 25)) := ((Below.refl _ _).alloc (Nat.le_refl _) _).alloc (by simp) _
  have G0 : RowAt ((w.alloc (.cells #[.slice a n cap] 25)).alloc (.cells #[.slice none 0 0] 25)) w.heap.size #[.slice a n cap] 25 := (rowAt_new w _ _).alloc _
  have G1 : RowAt ((w.alloc (.cells #[.slice a n cap] 25)).alloc (.cells #[.slice none 0 0] 25)) (w.heap.size + 1) #[.slice none 0 0] 25 := by
    have := rowAt_new (w.alloc (.cells #[.slice a n cap] 25)) #[.slice none 0 0] 25
    simpa using this
  generalize ((w.alloc (.cells #[.slice a n cap] 25)).alloc (.cells #[.slice none 0 0] 25)) = v0 at B0 G0 G1 ⊢
  have k0 : v0.cell? ⟨w.heap.size, 0, none⟩ = some (.slice a n cap) := G0.cell 0
  have l1 := G1.lt
  have s0 := B0.size
  have H1 : Hid (RowAt v0 (w.heap.size + 1) #[.slice none 0 0] 25) := G1
  have HB0 : Hid (Below w.heap.size w v0) := B0
  have HD0 : Hid (Dc v0 a n cap d) := H.out.below B0
  clear G0 G1 B0
  go_wp2_with fail
  refine (docBy_lift HD0.out).mono ?_
  intro e w1 hr
  unfold DocRes at hr
  obtain ⟨(⟨hf, rfl⟩ | ⟨d', p, q, rbs, hf, rfl, ho⟩), hb1⟩ := hr
  · have HZ : Hid (RowAt w1 (w.heap.size + 1) #[.slice none 0 0] 25) := H1.out.below hb1 l1
    have HF : Hid _ := hf
    clear k0 hf
    go_wp2_with (refine wpList_store_row rfl 25 (.tmp 4) (.tmp 9) rfl (w.heap.size + 1) #[.slice none 0 0] rfl rfl 25 _ HZ.out docI_info rfl (cells1_one _ _ _) ?_)
    refine bodyPost_ret (v := .tuple #[.agg #[.slice none 0 0], .bool false]) ?_ rfl ⟨.inl ⟨HF.out, rfl⟩, below_row (HB0.out.trans (hb1.mono s0)) (by omega) _⟩
    rw [results_cell_tmp rfl]
    simp [asAddr, Result.andThen, run_docOf (RowAt.setRow HZ.out _)]
  · have HZ : Hid (RowAt w1 (w.heap.size + 1) #[.slice none 0 0] 25) := H1.out.below hb1 l1
    have HF : Hid (docF liftF d z = some d') := hf
    obtain ⟨m, HM⟩ : ∃ m, Hid (d'.length = m) := ⟨_, rfl⟩
    rw [HM.out] at ho ⊢
    clear k0 hf
    go_wp2_with (refine wpList_store_row rfl 25 (.tmp 4) (.tmp 9) rfl (w.heap.size + 1) #[.slice p m q] rfl rfl 25 _ HZ.out docI_info rfl (cells1_one _ _ _) ?_)
    refine bodyPost_ret (v := .tuple #[.agg #[.slice p m q], .bool true]) ?_ rfl ⟨.inr ⟨d', p, q, rbs, HF.out, by rw [HM.out], ?_⟩, below_row (HB0.out.trans (hb1.mono s0)) (by omega) _⟩
    · rw [results_cell_tmp rfl]
      simp [asAddr, Result.andThen, run_docOf (RowAt.setRow HZ.out _)]
    · have sz : (w1.setRow (w.heap.size + 1) #[.slice p m q]).heap.size = w1.heap.size := by simp [World.setRow]
      rw [sz, HM.out]
      exact (ho.mid (fun b hb hb' => setRow_other _ _ _ _ (by omega))).less (by omega) (Nat.le_refl _)
end Go.Proofs.Ytdcebaneobkcoaa
namespace Go.Proofs.Ytdcebaneobkcoaa
open Go.RowKit

theorem docRes_of {r : Option (List Bl)} {B : Nat} {e : Ending} {w' : World} (h : DocRes r B e w') : ∃ p m q rbs, e = .returned (.tuple #[.agg #[.slice p m q], .bool r.isSome]) ∧ DocOwn w' B w'.heap.size (.slice p m q) rbs (r.getD []) := by
  rcases h with ⟨rfl, rfl⟩ | ⟨d', p, q, rbs, rfl, rfl, ho⟩
  · exact ⟨none, 0, 0, [], rfl, DocOwn.nil _ _ _⟩
  · exact ⟨p, _, q, rbs, rfl, ho⟩
end Go.Proofs.Ytdcebaneobkcoaa
namespace Go.Proofs.Ytdcebaneobkcoaa
open Go.RowKit

set_option maxRecDepth 100000 in
set_option maxHeartbeats 2000000 in
theorem implDocOk_is {a : Option Addr} {n cap : Nat} {d : List Bl} {w : World} {x : Bool} (hx : docB d = x) (h : Dc w a n cap d) :
    Calls Try.prog 15 #[.agg #[.slice a n cap]] w fun e w' => e = .returned (.bool x) ∧ Below w.heap.size w w' := by
  have HX : Hid (docB d = x) := hx
  have H : Hid (Dc w a n cap d) := h
  clear h hx
  go_enter Try.func15, Try.ntmps15
  go_upto_region 1 with fail
  have B0 : Below w.heap.size w (w.alloc (.cells #[.slice a n cap] 25)) := (Below.refl _ _).alloc (Nat.le_refl _) _
  have D0 : Hid (Dc (w.alloc (.cells #[.slice a n cap] 25)) a n cap d) := H.out.below B0
  have G0 : RowAt (w.alloc (.cells #[.slice a n cap] 25)) w.heap.size #[.slice a n cap] 25 := rowAt_new _ _ _
  generalize w.alloc (.cells #[.slice a n cap] 25) = v0 at B0 D0 G0 ⊢
  have k0 : v0.cell? ⟨w.heap.size, 0, none⟩ = some (.slice a n cap) := G0.cell 0
  go_wp2_with fail
  refine (outlineOf_is HX.out D0.out).mono ?_
  rintro e w1 ⟨(⟨rfl, rfl⟩ | ⟨rfl, pa, pc, ps, rfl, -, -⟩), hb1⟩
  · go_wp2_with fail
    go_ret
    exact ⟨rfl, B0.trans (hb1.mono B0.size)⟩
  · go_wp2_with fail
    go_ret
    exact ⟨rfl, B0.trans (hb1.mono B0.size)⟩
end Go.Proofs.Ytdcebaneobkcoaa
