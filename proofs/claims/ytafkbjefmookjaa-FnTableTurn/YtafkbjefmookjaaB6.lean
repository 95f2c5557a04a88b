import Derived.Test.YtafkbjefmookjaaB4
import Derived.Test.YtafkbjefmookjaaB5
import Derived.Test.YtafkbjefmookjaaB3
namespace Go.Proofs.Ytafkbjefmookjaa
open Go.RowKit

set_option maxRecDepth 100000 in
set_option maxHeartbeats 8000000 in
theorem lawTabTurn_walk (a : Option Addr) (n cap : Nat) (zs : List Int) (w : World) (h : Byt w.heap.size w a n cap zs) :
    Calls Try.prog 5 #[.slice a n cap] w fun e w' => e = .returned (.bool true) ∧ Below w.heap.size w w' := by
  have HY : Hid (Byt w.heap.size w a n cap zs) := h
  have hc := h.2.1
  have hm := h.2.2.1
  unfold maxLen at hm
  clear h
  by_cases hn : 1048576 < n
  · have hd : decide ((1048576 : Int) < (n : Int)) = true := by simp; omega
    go_enter Try.func5, Try.ntmps5
    go_wp2_with fail
    go_ret
    exact ⟨rfl, Below.refl _ _⟩
  have hd : decide ((1048576 : Int) < (n : Int)) = false := by simp; omega
  go_enter Try.func5, Try.ntmps5
  go_upto_region 4 with (go_at_call 13; refine (drawTableTurn_any w.heap.size a n cap zs _ HY.out (Nat.le_refl _)).mono ?_; rintro e w1 ⟨⟨R, C, a', n', c', l, rfl, hT1, hS1⟩, hb1⟩)
  have s1 := hb1.size
  have G2 : RowAt (w1.alloc (.cells #[.int .i64 R, .int .i64 C, .slice a' n' c'] 25)) w1.heap.size #[.int .i64 R, .int .i64 C, .slice a' n' c'] 25 := rowAt_new _ _ _
  have T2 : Tab (w1.alloc (.cells #[.int .i64 R, .int .i64 C, .slice a' n' c'] 25)) a' n' c' l := hT1.below ((Below.refl _ _).alloc (Nat.le_refl _) _)
  have B2 : Below w.heap.size w (w1.alloc (.cells #[.int .i64 R, .int .i64 C, .slice a' n' c'] 25)) := hb1.alloc s1 _
  generalize (w1.alloc (.cells #[.int .i64 R, .int .i64 C, .slice a' n' c'] 25)) = v2 at G2 T2 B2 ⊢
  obtain ⟨Tb, hTe⟩ : ∃ T, w1.heap.size = T := ⟨_, rfl⟩
  rw [hTe] at G2 ⊢
  have zT := G2.lt
  have s2 := B2.size
  have HT2 : Hid (Tab v2 a' n' c' l) := T2
  have HB2 : Hid (Below w.heap.size w v2) := B2
  have HG2 : Hid (RowAt v2 Tb #[.int .i64 R, .int .i64 C, .slice a' n' c'] 25) := G2
  obtain ⟨hRb, hCb, hLb, -⟩ := hS1
  clear hT1 hb1 T2 B2 G2 hTe
  go_upto_region 5 with (first | (refine wpList_load_row rfl 25 (.tmp 3) rfl Tb rfl 25 #[.int .i64 R, .int .i64 C, .slice a' n' c'] (0, 0) _ HG2.out Try.underlying25 rfl tab_info ?_) | (go_at_call 14; refine (implTableTurn_any R C a' n' c' l _ HT2.out).mono ?_; intro e w3 hr; obtain ⟨⟨x, y, a2, n2, c2, l2, rs2, rfl, hO3, hx3, hy3, hl3⟩, hb3⟩ := tRes_of hr; have HDX : Hid (x = tX R C l ∧ y = tY R C l ∧ l2 = tL R C l) := ⟨hx3, hy3, hl3⟩; clear hr hx3 hy3 hl3))
  have s3 := hb3.size
  have GX : RowAt (w3.alloc (.cells #[.int .i64 x, .int .i64 y, .slice a2 n2 c2] 25)) w3.heap.size #[.int .i64 x, .int .i64 y, .slice a2 n2 c2] 25 := rowAt_new _ _ _
  have GT : RowAt (w3.alloc (.cells #[.int .i64 x, .int .i64 y, .slice a2 n2 c2] 25)) Tb #[.int .i64 R, .int .i64 C, .slice a' n' c'] 25 := (HG2.out.below hb3 zT).alloc _
  have TX : Tab (w3.alloc (.cells #[.int .i64 x, .int .i64 y, .slice a2 n2 c2] 25)) a2 n2 c2 l2 := hO3.tab.below ((Below.refl _ _).alloc (Nat.le_refl _) _)
  have TT : Tab (w3.alloc (.cells #[.int .i64 x, .int .i64 y, .slice a2 n2 c2] 25)) a' n' c' l := (HT2.out.below hb3).below ((Below.refl _ _).alloc (Nat.le_refl _) _)
  have B4 : Below w.heap.size w (w3.alloc (.cells #[.int .i64 x, .int .i64 y, .slice a2 n2 c2] 25)) := (HB2.out.trans (hb3.mono s2)).alloc (by omega) _
  generalize (w3.alloc (.cells #[.int .i64 x, .int .i64 y, .slice a2 n2 c2] 25)) = v4 at GX GT TX TT B4 ⊢
  obtain ⟨Xb, hXe⟩ : ∃ T, w3.heap.size = T := ⟨_, rfl⟩
  rw [hXe] at GX ⊢
  have HTt : Hid (Tab v4 a' n' c' l) := TT
  have HTx : Hid (Tab v4 a2 n2 c2 l2) := TX
  have HB : Hid (Below w.heap.size w v4) := B4
  have HGT : Hid (RowAt v4 Tb #[.int .i64 R, .int .i64 C, .slice a' n' c'] 25) := GT
  have HGX : Hid (RowAt v4 Xb #[.int .i64 x, .int .i64 y, .slice a2 n2 c2] 25) := GX
  have sB := B4.size
  clear hO3 hb3 GX GT TX TT B4 HT2 HB2 HG2 hXe
  obtain ⟨ok, HO⟩ : ∃ o, Hid (okB R C l = o) := ⟨_, rfl⟩
  refine wp_region_noPanic ?_
  refine wp_region_held_drew (S := fun w' => RowAt w' Tb #[.int .i64 R, .int .i64 C, .slice a' n' c'] 25 ∧ RowAt w' Xb #[.int .i64 x, .int .i64 y, .slice a2 n2 c2] 25) (by kernel_rfl) ⟨HGT.out, HGX.out⟩ (fun hHeld => ?_)
  refine take_at 0 14 (.agg #[.int .i64 x, .int .i64 y, .slice a2 n2 c2]) rfl rfl (by kernel_rfl) (by kernel_rfl) (by kernel_rfl) (fun _ _ _ h => h) (yieldsIf_load_row (by kernel_rfl) 25 (.tmp 4) rfl Xb rfl 25 #[.int .i64 x, .int .i64 y, .slice a2 n2 c2] (0, 0) _ (fun w' h => h.2) Try.underlying25 rfl tab_info) hHeld ?_
  (try simp only [Act.put, List.setIfInBounds_toArray, List.set_cons_zero, List.set_cons_succ])
  refine take_at 1 15 (.agg #[.int .i64 R, .int .i64 C, .slice a' n' c']) rfl rfl (by kernel_rfl) (by kernel_rfl) (by kernel_rfl) (fun _ _ _ h => h) (yieldsIf_load_row (by kernel_rfl) 25 (.tmp 3) rfl Tb rfl 25 #[.int .i64 R, .int .i64 C, .slice a' n' c'] (0, 0) _ (fun w' h => h.1) Try.underlying25 rfl tab_info) hHeld ?_
  (try simp only [Act.put, List.setIfInBounds_toArray, List.set_cons_zero, List.set_cons_succ])
  have HTa : Hid (Tab v4.drew a' n' c' l) := HTt.out.below ((Below.refl _ _).drew)
  have HXa : Hid (Tab v4.drew a2 n2 c2 l2) := HTx.out.below ((Below.refl _ _).drew)
  have HBa : Hid (Below w.heap.size w v4.drew) := HB.out.drew
  have sda : v4.heap.size = v4.drew.heap.size := rfl
  generalize v4.drew = u4 at HTa HXa HBa sda hHeld ⊢
  refine wpAnyH_ready (rs := [2]) (by kernel_rfl) (by simp) ?_
  refine AllReadyH.cons rfl (fun K hK => ?_) AllReadyH.nil
  go_simp
  go_at_call 16
  refine (specTableTurn_any R C a' n' c' l _ HTa.out).mono ?_
  intro e u5 hr
  obtain ⟨⟨x5, y5, a5, n5, c5, l5, rs5, rfl, hO5, hx5, hy5, hl5⟩, hb5⟩ := tRes_of hr
  obtain rfl : x5 = x := hx5.trans HDX.out.1.symm
  obtain rfl : y5 = y := hy5.trans HDX.out.2.1.symm
  obtain rfl : l5 = l2 := hl5.trans HDX.out.2.2.symm
  have s5 := hb5.size
  have HSb : Hid (Tab u5 a5 n5 c5 l5) := hO5.tab
  have HXb5 : Hid (Tab u5 a2 n2 c2 l5) := HXa.out.below hb5
  have HTb5 : Hid (Tab u5 a' n' c' l) := HTa.out.below hb5
  clear hr hO5 hx5 hy5 hl5
  go_wp2_with fail
  refine hK.out _ _ ⟨hHeld.1.below hb5 hHeld.1.lt, hHeld.2.below hb5 hHeld.2.lt⟩ (fun hHeld => ?_)
  clear hK K
  (try simp only [Act.put, List.setIfInBounds_toArray, List.set_cons_zero, List.set_cons_succ])
  refine wpAnyH_ready (rs := [3]) (by kernel_rfl) (by simp) ?_
  refine AllReadyH.cons rfl (fun K hK => ?_) AllReadyH.nil
  go_simp
  go_at_call 15
  refine (lmTable_same x5 y5 a2 n2 c2 l5 a5 n5 c5 _ HXb5.out HSb.out).mono ?_
  rintro e u6 ⟨rfl, hb6⟩
  have s6 := hb6.size
  have HT6 : Hid (Tab u6 a' n' c' l) := HTb5.out.below hb6
  have HX6 : Hid (Tab u6 a2 n2 c2 l5) := HXb5.out.below hb6
  go_wp2_with fail
  refine hK.out _ _ ⟨hHeld.1.below hb6 hHeld.1.lt, hHeld.2.below hb6 hHeld.2.lt⟩ (fun hHeld => ?_)
  clear hK K
  (try simp only [Act.put, List.setIfInBounds_toArray, List.set_cons_zero, List.set_cons_succ])
  refine take_at 4 18 (.bool false) rfl rfl (by kernel_rfl) (by kernel_rfl) (by kernel_rfl) (fun _ _ _ h => h) (Or.inl ⟨by kernel_rfl, fun w' hS' => by go_simp⟩) hHeld ?_
  (try simp only [Act.put, List.setIfInBounds_toArray, List.set_cons_zero, List.set_cons_succ])
  refine take_at 5 19 (.bool false) rfl rfl (by kernel_rfl) (by kernel_rfl) (by kernel_rfl) (fun _ _ _ h => h) (Or.inl ⟨by kernel_rfl, fun w' hS' => by go_simp⟩) hHeld ?_
  (try simp only [Act.put, List.setIfInBounds_toArray, List.set_cons_zero, List.set_cons_succ])
  refine take_at 6 20 (.agg #[.int .i64 R, .int .i64 C, .slice a' n' c']) rfl rfl (by kernel_rfl) (by kernel_rfl) (by kernel_rfl) (fun _ _ _ h => h) (yieldsIf_load_row (by kernel_rfl) 25 (.tmp 3) rfl Tb rfl 25 #[.int .i64 R, .int .i64 C, .slice a' n' c'] (0, 0) _ (fun w' h => h.1) Try.underlying25 rfl tab_info) hHeld ?_
  (try simp only [Act.put, List.setIfInBounds_toArray, List.set_cons_zero, List.set_cons_succ])
  refine wpAnyH_ready (rs := [7]) (by kernel_rfl) (by simp) ?_
  refine AllReadyH.cons rfl (fun K hK => ?_) AllReadyH.nil
  go_simp
  go_at_call 9
  refine (specTableOk_is HO.out HT6.out).mono ?_
  rintro e u7 ⟨rfl, hb7⟩
  have s7 := hb7.size
  have HT7 : Hid (Tab u7 a' n' c' l) := HT6.out.below hb7
  have HX7 : Hid (Tab u7 a2 n2 c2 l5) := HX6.out.below hb7
  have HB7 : Hid (Below w.heap.size w u7) := ((HBa.out.trans (hb5.mono (by omega))).trans (hb6.mono (by omega))).trans (hb7.mono (by omega))
  go_wp2_with fail
  refine hK.out _ _ ⟨hHeld.1.below hb7 hHeld.1.lt, hHeld.2.below hb7 hHeld.2.lt⟩ (fun hHeld => ?_)
  clear hK K
  (try simp only [Act.put, List.setIfInBounds_toArray, List.set_cons_zero, List.set_cons_succ])
  cases ok
  · refine take_at 8 22 (.bool true) rfl rfl (by kernel_rfl) (by kernel_rfl) (by kernel_rfl) (fun _ _ _ h => h) (Or.inl ⟨by kernel_rfl, fun w' hS' => by go_simp⟩) hHeld ?_
    (try simp only [Act.put, List.setIfInBounds_toArray, List.set_cons_zero, List.set_cons_succ])
    refine take_at 9 23 (.bool true) rfl rfl (by kernel_rfl) (by kernel_rfl) (by kernel_rfl) (fun _ _ _ h => h) (Or.inl ⟨by kernel_rfl, fun w' hS' => by go_simp⟩) hHeld ?_
    (try simp only [Act.put, List.setIfInBounds_toArray, List.set_cons_zero, List.set_cons_succ])
    refine wpAnyH_done (by kernel_rfl) ?_ _
    refine NoPanic.normal ?_
    have HGT7 : Hid (RowAt u7 Tb #[.int .i64 R, .int .i64 C, .slice a' n' c'] 25) := hHeld.1
    have HGX7 : Hid (RowAt u7 Xb #[.int .i64 x5, .int .i64 y5, .slice a2 n2 c2] 25) := hHeld.2
    clear hHeld HTt HTx HB HGT HGX hb5 hb6 hb7 HSb
    go_upto_region 6 with fail
    refine wp_region_noPanic ?_
    refine wp_region_held_drew (S := fun w' => RowAt w' Tb #[.int .i64 R, .int .i64 C, .slice a' n' c'] 25 ∧ RowAt w' Xb #[.int .i64 x5, .int .i64 y5, .slice a2 n2 c2] 25) (by kernel_rfl) ⟨HGT7.out, HGX7.out⟩ (fun hHeld => ?_)
    refine take_at 0 24 (.agg #[.int .i64 x5, .int .i64 y5, .slice a2 n2 c2]) rfl rfl (by kernel_rfl) (by kernel_rfl) (by kernel_rfl) (fun _ _ _ h => h) (yieldsIf_load_row (by kernel_rfl) 25 (.tmp 4) rfl Xb rfl 25 #[.int .i64 x5, .int .i64 y5, .slice a2 n2 c2] (0, 0) _ (fun w' h => h.2) Try.underlying25 rfl tab_info) hHeld ?_
    (try simp only [Act.put, List.setIfInBounds_toArray, List.set_cons_zero, List.set_cons_succ])
    refine take_at 1 25 (.agg #[.int .i64 R, .int .i64 C, .slice a' n' c']) rfl rfl (by kernel_rfl) (by kernel_rfl) (by kernel_rfl) (fun _ _ _ h => h) (yieldsIf_load_row (by kernel_rfl) 25 (.tmp 3) rfl Tb rfl 25 #[.int .i64 R, .int .i64 C, .slice a' n' c'] (0, 0) _ (fun w' h => h.1) Try.underlying25 rfl tab_info) hHeld ?_
    (try simp only [Act.put, List.setIfInBounds_toArray, List.set_cons_zero, List.set_cons_succ])
    have HTc : Hid (Tab u7.drew a' n' c' l) := HT7.out.below ((Below.refl _ _).drew)
    have HXc : Hid (Tab u7.drew a2 n2 c2 l5) := HX7.out.below ((Below.refl _ _).drew)
    have HBc : Hid (Below w.heap.size w u7.drew) := HB7.out.drew
    have sdc : u7.heap.size = u7.drew.heap.size := rfl
    generalize u7.drew = u8 at HTc HXc HBc sdc hHeld ⊢
    refine wpAnyH_ready (rs := [2]) (by kernel_rfl) (by simp) ?_
    refine AllReadyH.cons rfl (fun K hK => ?_) AllReadyH.nil
    go_simp
    go_at_call 16
    refine (specTableTurn_any R C a' n' c' l _ HTc.out).mono ?_
    intro e u9 hr
    obtain ⟨⟨x9, y9, a9, n9, c9, l9, rs9, rfl, hO9, hx9, hy9, hl9⟩, hb9⟩ := tRes_of hr
    obtain rfl : x9 = x5 := hx9.trans HDX.out.1.symm
    obtain rfl : y9 = y5 := hy9.trans HDX.out.2.1.symm
    obtain rfl : l9 = l5 := hl9.trans HDX.out.2.2.symm
    have s9 := hb9.size
    have HS9 : Hid (Tab u9 a9 n9 c9 l9) := hO9.tab
    have HX9 : Hid (Tab u9 a2 n2 c2 l9) := HXc.out.below hb9
    clear hr hO9 hx9 hy9 hl9
    go_wp2_with fail
    refine hK.out _ _ ⟨hHeld.1.below hb9 hHeld.1.lt, hHeld.2.below hb9 hHeld.2.lt⟩ (fun hHeld => ?_)
    clear hK K
    (try simp only [Act.put, List.setIfInBounds_toArray, List.set_cons_zero, List.set_cons_succ])
    refine wpAnyH_ready (rs := [3]) (by kernel_rfl) (by simp) ?_
    refine AllReadyH.cons rfl (fun K hK => ?_) AllReadyH.nil
    go_simp
    go_at_call 15
    refine (lmTable_same x9 y9 a2 n2 c2 l9 a9 n9 c9 _ HX9.out HS9.out).mono ?_
    rintro e u10 ⟨rfl, hb10⟩
    have s10 := hb10.size
    go_wp2_with fail
    refine hK.out _ _ ⟨hHeld.1.below hb10 hHeld.1.lt, hHeld.2.below hb10 hHeld.2.lt⟩ (fun hHeld => ?_)
    clear hK K
    (try simp only [Act.put, List.setIfInBounds_toArray, List.set_cons_zero, List.set_cons_succ])
    refine take_at 4 2 (.bool true) rfl rfl (by kernel_rfl) (by kernel_rfl) (by kernel_rfl) (fun _ _ _ h => h) (Or.inl ⟨by kernel_rfl, fun w' hS' => by go_simp⟩) hHeld ?_
    (try simp only [Act.put, List.setIfInBounds_toArray, List.set_cons_zero, List.set_cons_succ])
    refine wpAnyH_done (by kernel_rfl) ?_ _
    refine NoPanic.normal ?_
    go_wp2_with fail
    go_ret
    exact ⟨rfl, (HBc.out.trans (hb9.mono (by omega))).trans (hb10.mono (by omega))⟩
  · refine take_at 8 22 (.bool false) rfl rfl (by kernel_rfl) (by kernel_rfl) (by kernel_rfl) (fun _ _ _ h => h) (Or.inl ⟨by kernel_rfl, fun w' hS' => by go_simp⟩) hHeld ?_
    (try simp only [Act.put, List.setIfInBounds_toArray, List.set_cons_zero, List.set_cons_succ])
    refine take_at 9 23 (.bool false) rfl rfl (by kernel_rfl) (by kernel_rfl) (by kernel_rfl) (fun _ _ _ h => h) (Or.inl ⟨by kernel_rfl, fun w' hS' => by go_simp⟩) hHeld ?_
    (try simp only [Act.put, List.setIfInBounds_toArray, List.set_cons_zero, List.set_cons_succ])
    refine wpAnyH_done (by kernel_rfl) ?_ _
    refine NoPanic.normal ?_
    have hx5 : x5 = C ∧ y5 = R ∧ l5 = turnL l := by
      obtain ⟨e1, e2, e3⟩ := HDX.out
      rw [e1, e2, e3]
      simp [tX, tY, tL, HO.out]
    obtain ⟨hx5, hy5, hl5⟩ := hx5
    subst hl5
    have HGT7 : Hid (RowAt u7 Tb #[.int .i64 R, .int .i64 C, .slice a' n' c'] 25) := hHeld.1
    have HGX7 : Hid (RowAt u7 Xb #[.int .i64 C, .int .i64 R, .slice a2 n2 c2] 25) := by
      have := hHeld.2
      rw [hx5, hy5] at this
      exact this
    have sB7 := HB7.out.size
    have zT7 := hHeld.1.lt
    have zX7 := hHeld.2.lt
    rw [hx5, hy5]
    clear hHeld HTt HTx HB HGT HGX hb5 hb6 hb7 HSb HDX HTa HXa HTb5 HXb5 HT6 HX6 HBa hx5 hy5
    obtain ⟨hR, hC, -, -⟩ := gridP_of_okB HO.out
    obtain ⟨R, rfl⟩ : ∃ z : Nat, R = z := ⟨R.toNat, by omega⟩
    obtain ⟨C, rfl⟩ : ∃ z : Nat, C = z := ⟨C.toNat, by omega⟩
    have HOX : Hid (okB C R (turnL l) = true) := ok_turn HO.out
    go_wp2_with fail
    go_loopw [5] (fun pv wr => ∃ p : Nat, p ≤ R ∧ pv = .int .i64 p ∧ Below u7.heap.size u7 wr) (fun pv _ => R - (intOf pv).toNat)
    case atStart => exact ⟨0, Nat.zero_le _, rfl, Below.refl _ _⟩
    case round =>
      obtain ⟨p, hp, rfl, hb⟩ := hrel
      have HBr : Hid (Below u7.heap.size u7 wr) := hb
      have HGr : Hid (RowAt wr Tb #[.int .i64 R, .int .i64 C, .slice a' n' c'] 25) := HGT7.out.below hb zT7
      have HXr : Hid (RowAt wr Xb #[.int .i64 C, .int .i64 R, .slice a2 n2 c2] 25) := HGX7.out.below hb zX7
      have sr := hb.size
      have q0 : wr.cell? ⟨Tb, 0, none⟩ = some (.int .i64 R) := HGr.out.cell 0
      clear hb
      by_cases hlp : p < R
      · have hpb : (p : Int) < (R : Int) := by omega
        go_wp2_with fail
        clear q0
        go_loopw [6] (fun qv wr => ∃ q : Nat, q ≤ C ∧ qv = .int .i64 q ∧ Below u7.heap.size u7 wr) (fun qv _ => C - (intOf qv).toNat)
        case atStart => exact ⟨0, Nat.zero_le _, rfl, HBr.out⟩
        case round =>
          clear HBr HGr HXr sr
          obtain ⟨q, hq, rfl, hb⟩ := hrel
          have HBr : Hid (Below u7.heap.size u7 wr) := hb
          have HGr : Hid (RowAt wr Tb #[.int .i64 R, .int .i64 C, .slice a' n' c'] 25) := HGT7.out.below hb zT7
          have HXr : Hid (RowAt wr Xb #[.int .i64 C, .int .i64 R, .slice a2 n2 c2] 25) := HGX7.out.below hb zX7
          have HTr : Hid (Tab wr a' n' c' l) := HT7.out.below hb
          have HUr : Hid (Tab wr a2 n2 c2 (turnL l)) := HX7.out.below hb
          have sr := hb.size
          have q1 : wr.cell? ⟨Tb, 1, none⟩ = some (.int .i64 C) := HGr.out.cell 1
          clear hb
          by_cases hlq : q < C
          · have hqb : (q : Int) < (C : Int) := by omega
            obtain ⟨e1, e2⟩ := atN_in HO.out p q hpb hqb
            obtain ⟨f1, f2⟩ := atN_in HOX.out q p hqb hpb
            obtain ⟨m, hm1⟩ : ∃ m, numF l l.length (p * 5 + q) = m + 1 := ⟨numF l l.length (p * 5 + q) - 1, by omega⟩
            obtain ⟨m', hm2⟩ : ∃ m, numF (turnL l) (turnL l).length (q * 5 + p) = m + 1 := ⟨numF (turnL l) (turnL l).length (q * 5 + p) - 1, by omega⟩
            have HM : Hid (atN R C l p q = (m : Int)) := by show atN R C l p q = (m : Int); rw [e1, hm1]; omega
            have HM' : Hid (atN C R (turnL l) q p = (m' : Int)) := by show atN C R (turnL l) q p = (m' : Int); rw [f1, hm2]; omega
            have HTE : Hid (((turnL l).getD m' cl0).2.2.2.2 = (l.getD m cl0).2.2.2.2) := turn_text HO.out p q m m' hlp hlq hm1 hm2
            have hml := ((num_iff HO.out p q m hlq).1 hm1).1
            have hml' := ((num_iff HOX.out q p m' hlp).1 hm2).1
            clear e1 e2 f1 f2 hm1 hm2
            rcases HTr.out.2.2.2 with e | ⟨b, off, rfl, hbv, hcl⟩
            · rw [e] at hml
              exact absurd hml (by simp)
            rcases HUr.out.2.2.2 with e | ⟨b2, off2, rfl, hbv2, hcl2⟩
            · rw [e] at hml'
              exact absurd hml' (by simp)
            obtain ⟨-, -, -, -, ta, tn, tc, x4, ht4⟩ := hcl m hml
            obtain ⟨-, -, -, -, ta2, tn2, tc2, y4, ht5⟩ := hcl2 m' hml'
            have HA4 : Hid (Txt wr ta tn tc (l.getD m cl0).2.2.2.2) := ht4
            have HA5 : Hid (Txt wr ta2 tn2 tc2 (l.getD m cl0).2.2.2.2) := by
              show Txt wr ta2 tn2 tc2 (l.getD m cl0).2.2.2.2
              rw [← HTE.out]
              exact ht5
            have hnl := HTr.out.1
            have hnl2 := HUr.out.1
            have hm0 : (0 : Int) ≤ (m : Int) := by omega
            have hm1 : (m : Int) < (n' : Int) := by omega
            have hm2 : (0 : Int) ≤ (m' : Int) := by omega
            have hm3 : (m' : Int) < (n2 : Int) := by omega
            have hcm1 := HTr.out.2.2.1
            have hcm2 := HUr.out.2.2.1
            have hnc1 := HTr.out.2.1
            have hnc2 := HUr.out.2.1
            unfold maxLen at hcm1 hcm2
            have HX4 : Hid (wr.cell? ⟨b, off + m * 5 + 4, none⟩ = some (.slice ta tn tc)) := x4
            have HY4 : Hid (wr.cell? ⟨b2, off2 + m' * 5 + 4, none⟩ = some (.slice ta2 tn2 tc2)) := y4
            clear hcl hcl2 ht4 ht5 hnl hnl2 x4 y4
            go_upto_region 13 with fail
            refine wp_region_noPanic ?_
            refine wp_region_held_drew (S := fun w' => RowAt w' Tb #[.int .i64 R, .int .i64 C, .slice (some ⟨b, off, none⟩) n' c'] 25 ∧ RowAt w' Xb #[.int .i64 C, .int .i64 R, .slice (some ⟨b2, off2, none⟩) n2 c2] 25 ∧ w'.cell? ⟨b, off + m * 5 + 4, none⟩ = some (.slice ta tn tc) ∧ w'.cell? ⟨b2, off2 + m' * 5 + 4, none⟩ = some (.slice ta2 tn2 tc2)) (by kernel_rfl) ⟨HGr.out, HXr.out, HX4.out, HY4.out⟩ (fun hHeld => ?_)
            refine take_at 0 40 (.pointer (some ⟨Tb, 2, none⟩)) rfl rfl (by kernel_rfl) (by kernel_rfl) (by kernel_rfl) (fun _ _ _ h => h) (Or.inl ⟨by kernel_rfl, fun w' hS' => by go_simp⟩) hHeld ?_
            (try simp only [Act.put, List.setIfInBounds_toArray, List.set_cons_zero, List.set_cons_succ])
            refine take_at 1 41 (.slice (some ⟨b, off, none⟩) n' c') rfl rfl (by kernel_rfl) (by kernel_rfl) (by kernel_rfl) (fun _ _ _ h => h) (Or.inl ⟨by kernel_rfl, fun w' hS' => by have hc := RowAt.cell hS'.1 2; go_simp⟩) hHeld ?_
            (try simp only [Act.put, List.setIfInBounds_toArray, List.set_cons_zero, List.set_cons_succ])
            refine take_at 2 42 (.agg #[.int .i64 R, .int .i64 C, .slice (some ⟨b, off, none⟩) n' c']) rfl rfl (by kernel_rfl) (by kernel_rfl) (by kernel_rfl) (fun _ _ _ h => h) (yieldsIf_load_row (by kernel_rfl) 25 (.tmp 3) rfl Tb rfl 25 #[.int .i64 R, .int .i64 C, .slice (some ⟨b, off, none⟩) n' c'] (0, 0) _ (fun w' h => h.1) Try.underlying25 rfl tab_info) hHeld ?_
            (try simp only [Act.put, List.setIfInBounds_toArray, List.set_cons_zero, List.set_cons_succ])
            refine take_at 3 43 (.int .i64 p) rfl rfl (by kernel_rfl) (by kernel_rfl) (by kernel_rfl) (fun _ _ _ h => h) (Or.inl ⟨by kernel_rfl, fun w' hS' => by go_simp⟩) hHeld ?_
            (try simp only [Act.put, List.setIfInBounds_toArray, List.set_cons_zero, List.set_cons_succ])
            refine take_at 4 44 (.int .i64 q) rfl rfl (by kernel_rfl) (by kernel_rfl) (by kernel_rfl) (fun _ _ _ h => h) (Or.inl ⟨by kernel_rfl, fun w' hS' => by go_simp⟩) hHeld ?_
            (try simp only [Act.put, List.setIfInBounds_toArray, List.set_cons_zero, List.set_cons_succ])
            refine take_at 9 49 (.pointer (some ⟨Xb, 2, none⟩)) rfl rfl (by kernel_rfl) (by kernel_rfl) (by kernel_rfl) (fun _ _ _ h => h) (Or.inl ⟨by kernel_rfl, fun w' hS' => by go_simp⟩) hHeld ?_
            (try simp only [Act.put, List.setIfInBounds_toArray, List.set_cons_zero, List.set_cons_succ])
            refine take_at 10 50 (.slice (some ⟨b2, off2, none⟩) n2 c2) rfl rfl (by kernel_rfl) (by kernel_rfl) (by kernel_rfl) (fun _ _ _ h => h) (Or.inl ⟨by kernel_rfl, fun w' hS' => by have hc := RowAt.cell hS'.2.1 2; go_simp⟩) hHeld ?_
            (try simp only [Act.put, List.setIfInBounds_toArray, List.set_cons_zero, List.set_cons_succ])
            refine take_at 11 51 (.agg #[.int .i64 C, .int .i64 R, .slice (some ⟨b2, off2, none⟩) n2 c2]) rfl rfl (by kernel_rfl) (by kernel_rfl) (by kernel_rfl) (fun _ _ _ h => h) (yieldsIf_load_row (by kernel_rfl) 25 (.tmp 4) rfl Xb rfl 25 #[.int .i64 C, .int .i64 R, .slice (some ⟨b2, off2, none⟩) n2 c2] (0, 0) _ (fun w' h => h.2.1) Try.underlying25 rfl tab_info) hHeld ?_
            (try simp only [Act.put, List.setIfInBounds_toArray, List.set_cons_zero, List.set_cons_succ])
            refine take_at 12 52 (.int .i64 q) rfl rfl (by kernel_rfl) (by kernel_rfl) (by kernel_rfl) (fun _ _ _ h => h) (Or.inl ⟨by kernel_rfl, fun w' hS' => by go_simp⟩) hHeld ?_
            (try simp only [Act.put, List.setIfInBounds_toArray, List.set_cons_zero, List.set_cons_succ])
            refine take_at 13 53 (.int .i64 p) rfl rfl (by kernel_rfl) (by kernel_rfl) (by kernel_rfl) (fun _ _ _ h => h) (Or.inl ⟨by kernel_rfl, fun w' hS' => by go_simp⟩) hHeld ?_
            (try simp only [Act.put, List.setIfInBounds_toArray, List.set_cons_zero, List.set_cons_succ])
            have HT8 : Hid (Tab wr.drew (some ⟨b, off, none⟩) n' c' l) := HTr.out.below ((Below.refl _ _).drew)
            have HU8 : Hid (Tab wr.drew (some ⟨b2, off2, none⟩) n2 c2 (turnL l)) := HUr.out.below ((Below.refl _ _).drew)
            have HA8 : Hid (Txt wr.drew ta tn tc (l.getD m cl0).2.2.2.2) := HA4.out.below ((Below.refl _ _).drew)
            have HC8 : Hid (Txt wr.drew ta2 tn2 tc2 (l.getD m cl0).2.2.2.2) := HA5.out.below ((Below.refl _ _).drew)
            have HB8 : Hid (Below u7.heap.size u7 wr.drew) := HBr.out.drew
            have sd8 : wr.heap.size = wr.drew.heap.size := rfl
            generalize wr.drew = u8 at HT8 HU8 HA8 HC8 HB8 sd8 hHeld ⊢
            refine wpAnyH_ready (rs := [5]) (by kernel_rfl) (by simp) ?_
            refine AllReadyH.cons rfl (fun K hK => ?_) AllReadyH.nil
            go_simp
            go_at_call 10
            refine (implTableAt_is HM.out HT8.out).mono ?_
            rintro e u9 ⟨rfl, hb9⟩
            have s9 := hb9.size
            have HU9 : Hid (Tab u9 (some ⟨b2, off2, none⟩) n2 c2 (turnL l)) := HU8.out.below hb9
            go_wp2_with fail
            refine hK.out _ _ ⟨hHeld.1.below hb9 hHeld.1.lt, hHeld.2.1.below hb9 hHeld.2.1.lt, (hb9.cell (p := ⟨b, off + m * 5 + 4, none⟩) (by show b < _; omega)).trans hHeld.2.2.1, (hb9.cell (p := ⟨b2, off2 + m' * 5 + 4, none⟩) (by show b2 < _; omega)).trans hHeld.2.2.2⟩ (fun hHeld => ?_)
            clear hK K
            (try simp only [Act.put, List.setIfInBounds_toArray, List.set_cons_zero, List.set_cons_succ])
            refine take_at 6 46 (.pointer (some ⟨b, off + m * 5, none⟩)) rfl rfl (by kernel_rfl) (by kernel_rfl) (by kernel_rfl) (fun _ _ _ h => h) (Or.inl ⟨by kernel_rfl, fun w' hS' => by go_simp⟩) hHeld ?_
            (try simp only [Act.put, List.setIfInBounds_toArray, List.set_cons_zero, List.set_cons_succ])
            refine take_at 7 47 (.pointer (some ⟨b, off + m * 5 + 4, none⟩)) rfl rfl (by kernel_rfl) (by kernel_rfl) (by kernel_rfl) (fun _ _ _ h => h) (Or.inl ⟨by kernel_rfl, fun w' hS' => by go_simp⟩) hHeld ?_
            (try simp only [Act.put, List.setIfInBounds_toArray, List.set_cons_zero, List.set_cons_succ])
            refine take_at 8 48 (.slice ta tn tc) rfl rfl (by kernel_rfl) (by kernel_rfl) (by kernel_rfl) (fun _ _ _ h => h) (Or.inl ⟨by kernel_rfl, fun w' hS' => by have hc := hS'.2.2.1; go_simp⟩) hHeld ?_
            (try simp only [Act.put, List.setIfInBounds_toArray, List.set_cons_zero, List.set_cons_succ])
            refine wpAnyH_ready (rs := [14]) (by kernel_rfl) (by simp) ?_
            refine AllReadyH.cons rfl (fun K hK => ?_) AllReadyH.nil
            go_simp
            go_at_call 10
            refine (implTableAt_is HM'.out HU9.out).mono ?_
            rintro e u10 ⟨rfl, hb10⟩
            have s10 := hb10.size
            have HA10 : Hid (Txt u10 ta tn tc (l.getD m cl0).2.2.2.2) := (HA8.out.below hb9).below hb10
            have HC10 : Hid (Txt u10 ta2 tn2 tc2 (l.getD m cl0).2.2.2.2) := (HC8.out.below hb9).below hb10
            go_wp2_with fail
            refine hK.out _ _ ⟨hHeld.1.below hb10 hHeld.1.lt, hHeld.2.1.below hb10 hHeld.2.1.lt, (hb10.cell (p := ⟨b, off + m * 5 + 4, none⟩) (by show b < _; omega)).trans hHeld.2.2.1, (hb10.cell (p := ⟨b2, off2 + m' * 5 + 4, none⟩) (by show b2 < _; omega)).trans hHeld.2.2.2⟩ (fun hHeld => ?_)
            clear hK K
            (try simp only [Act.put, List.setIfInBounds_toArray, List.set_cons_zero, List.set_cons_succ])
            refine take_at 15 55 ((.pointer (some ⟨b2, off2 + m' * 5, none⟩))) rfl rfl (by kernel_rfl) (by kernel_rfl) (by kernel_rfl) (fun _ _ _ h => h) (Or.inl ⟨by kernel_rfl, fun w' hS' => by go_simp⟩) hHeld ?_
            (try simp only [Act.put, List.setIfInBounds_toArray, List.set_cons_zero, List.set_cons_succ])
            refine take_at 16 56 ((.pointer (some ⟨b2, off2 + m' * 5 + 4, none⟩))) rfl rfl (by kernel_rfl) (by kernel_rfl) (by kernel_rfl) (fun _ _ _ h => h) (Or.inl ⟨by kernel_rfl, fun w' hS' => by go_simp⟩) hHeld ?_
            (try simp only [Act.put, List.setIfInBounds_toArray, List.set_cons_zero, List.set_cons_succ])
            refine take_at 17 57 (.slice ta2 tn2 tc2) rfl rfl (by kernel_rfl) (by kernel_rfl) (by kernel_rfl) (fun _ _ _ h => h) (Or.inl ⟨by kernel_rfl, fun w' hS' => by have hc := hS'.2.2.2; go_simp⟩) hHeld ?_
            (try simp only [Act.put, List.setIfInBounds_toArray, List.set_cons_zero, List.set_cons_succ])
            refine wpAnyH_ready (rs := [18]) (by kernel_rfl) (by simp) ?_
            refine AllReadyH.cons rfl (fun K hK => ?_) AllReadyH.nil
            go_simp
            go_at_call 17
            refine (lmSigns_eq HA10.out HC10.out).mono ?_
            rintro e u11 ⟨rfl, hb11⟩
            have s11 := hb11.size
            have HBz : Hid (Below u7.heap.size u7 u11) := ((HB8.out.trans (hb9.mono (by omega))).trans (hb10.mono (by omega))).trans (hb11.mono (by omega))
            go_wp2_with fail
            refine hK.out _ _ ⟨hHeld.1.below hb11 hHeld.1.lt, hHeld.2.1.below hb11 hHeld.2.1.lt, (hb11.cell (p := ⟨b, off + m * 5 + 4, none⟩) (by show b < _; omega)).trans hHeld.2.2.1, (hb11.cell (p := ⟨b2, off2 + m' * 5 + 4, none⟩) (by show b2 < _; omega)).trans hHeld.2.2.2⟩ (fun hHeld => ?_)
            clear hK K
            (try simp only [Act.put, List.setIfInBounds_toArray, List.set_cons_zero, List.set_cons_succ])
            refine take_at 19 59 (.bool false) rfl rfl (by kernel_rfl) (by kernel_rfl) (by kernel_rfl) (fun _ _ _ h => h) (Or.inl ⟨by kernel_rfl, fun w' hS' => by go_simp⟩) hHeld ?_
            (try simp only [Act.put, List.setIfInBounds_toArray, List.set_cons_zero, List.set_cons_succ])
            refine wpAnyH_done (by kernel_rfl) ?_ _
            refine NoPanic.normal ?_
            go_wp2_with fail
            go_roundw
            case rel => exact ⟨q + 1, by omega, by go_num, HBz.out⟩
            case measure => simp [intOf]; omega
          · have hqb : ¬ (q : Int) < (C : Int) := by omega
            go_wp2_with fail
            go_roundw
            case rel => exact ⟨p + 1, by omega, by go_num, HBr.out⟩
            case measure => simp [intOf]; omega
      · have hpb : ¬ (p : Int) < (R : Int) := by omega
        have HTr : Hid (Tab wr a' n' c' l) := HT7.out.below HBr.out
        have HUr : Hid (Tab wr a2 n2 c2 (turnL l)) := HX7.out.below HBr.out
        go_upto_region 15 with fail
        clear q0
        refine wp_region_noPanic ?_
        refine wp_region_held_drew (S := fun w' => RowAt w' Tb #[.int .i64 R, .int .i64 C, .slice a' n' c'] 25 ∧ RowAt w' Xb #[.int .i64 C, .int .i64 R, .slice a2 n2 c2] 25) (by kernel_rfl) ⟨HGr.out, HXr.out⟩ (fun hHeld => ?_)
        refine take_at 0 60 (.agg #[.int .i64 C, .int .i64 R, .slice a2 n2 c2]) rfl rfl (by kernel_rfl) (by kernel_rfl) (by kernel_rfl) (fun _ _ _ h => h) (yieldsIf_load_row (by kernel_rfl) 25 (.tmp 4) rfl Xb rfl 25 #[.int .i64 C, .int .i64 R, .slice a2 n2 c2] (0, 0) _ (fun w' h => h.2) Try.underlying25 rfl tab_info) hHeld ?_
        (try simp only [Act.put, List.setIfInBounds_toArray, List.set_cons_zero, List.set_cons_succ])
        have HT8 : Hid (Tab wr.drew a' n' c' l) := HTr.out.below ((Below.refl _ _).drew)
        have HU8 : Hid (Tab wr.drew a2 n2 c2 (turnL l)) := HUr.out.below ((Below.refl _ _).drew)
        have HB8 : Hid (Below w.heap.size w wr.drew) := (HB7.out.trans (HBr.out.mono (by omega))).drew
        have sd8 : wr.heap.size = wr.drew.heap.size := rfl
        generalize wr.drew = u8 at HT8 HU8 HB8 sd8 hHeld ⊢
        refine wpAnyH_ready (rs := [1]) (by kernel_rfl) (by simp) ?_
        refine AllReadyH.cons rfl (fun K hK => ?_) AllReadyH.nil
        go_simp
        go_at_call 8
        refine (implTableOk_is HOX.out HU8.out).mono ?_
        rintro e u9 ⟨rfl, hb9⟩
        have s9 := hb9.size
        have HT9 : Hid (Tab u9 a' n' c' l) := HT8.out.below hb9
        have HU9 : Hid (Tab u9 a2 n2 c2 (turnL l)) := HU8.out.below hb9
        go_wp2_with fail
        refine hK.out _ _ ⟨hHeld.1.below hb9 hHeld.1.lt, hHeld.2.below hb9 hHeld.2.lt⟩ (fun hHeld => ?_)
        clear hK K
        (try simp only [Act.put, List.setIfInBounds_toArray, List.set_cons_zero, List.set_cons_succ])
        refine take_at 2 62 (.bool true) rfl rfl (by kernel_rfl) (by kernel_rfl) (by kernel_rfl) (fun _ _ _ h => h) (Or.inl ⟨by kernel_rfl, fun w' hS' => by go_simp⟩) hHeld ?_
        (try simp only [Act.put, List.setIfInBounds_toArray, List.set_cons_zero, List.set_cons_succ])
        refine take_at 3 63 (.agg #[.int .i64 C, .int .i64 R, .slice a2 n2 c2]) rfl rfl (by kernel_rfl) (by kernel_rfl) (by kernel_rfl) (fun _ _ _ h => h) (yieldsIf_load_row (by kernel_rfl) 25 (.tmp 4) rfl Xb rfl 25 #[.int .i64 C, .int .i64 R, .slice a2 n2 c2] (0, 0) _ (fun w' h => h.2) Try.underlying25 rfl tab_info) hHeld ?_
        (try simp only [Act.put, List.setIfInBounds_toArray, List.set_cons_zero, List.set_cons_succ])
        refine take_at 5 65 (.agg #[.int .i64 R, .int .i64 C, .slice a' n' c']) rfl rfl (by kernel_rfl) (by kernel_rfl) (by kernel_rfl) (fun _ _ _ h => h) (yieldsIf_load_row (by kernel_rfl) 25 (.tmp 3) rfl Tb rfl 25 #[.int .i64 R, .int .i64 C, .slice a' n' c'] (0, 0) _ (fun w' h => h.1) Try.underlying25 rfl tab_info) hHeld ?_
        (try simp only [Act.put, List.setIfInBounds_toArray, List.set_cons_zero, List.set_cons_succ])
        refine wpAnyH_ready (rs := [4]) (by kernel_rfl) (by simp) ?_
        refine AllReadyH.cons rfl (fun K hK => ?_) AllReadyH.nil
        go_simp
        go_at_call 14
        refine (implTableTurn_any C R a2 n2 c2 (turnL l) _ HU9.out).mono ?_
        intro e u10 hr
        obtain ⟨h1 | h1, hb10⟩ := hr
        · exact absurd (h1.1.symm.trans HOX.out) (by simp)
        obtain ⟨-, a10, c10, rs10, rfl, hO10⟩ := h1
        rw [turn_turn HO.out] at hO10
        obtain ⟨M, hM⟩ : ∃ M, (turnL l).length = M := ⟨_, rfl⟩
        rw [hM] at hO10 ⊢
        have s10 := hb10.size
        have HT10 : Hid (Tab u10 a' n' c' l) := HT9.out.below hb10
        have HO10 : Hid (Tab u10 a10 M c10 l) := hO10.tab
        clear hO10 hM
        go_wp2_with fail
        refine hK.out _ _ ⟨hHeld.1.below hb10 hHeld.1.lt, hHeld.2.below hb10 hHeld.2.lt⟩ (fun hHeld => ?_)
        clear hK K
        (try simp only [Act.put, List.setIfInBounds_toArray, List.set_cons_zero, List.set_cons_succ])
        refine wpAnyH_ready (rs := [6]) (by kernel_rfl) (by simp) ?_
        refine AllReadyH.cons rfl (fun K hK => ?_) AllReadyH.nil
        go_simp
        go_at_call 15
        refine (lmTable_same R C a10 M c10 l a' n' c' _ HO10.out HT10.out).mono ?_
        rintro e u11 ⟨rfl, hb11⟩
        have s11 := hb11.size
        have HBz : Hid (Below w.heap.size w u11) := ((HB8.out.trans (hb9.mono (by omega))).trans (hb10.mono (by omega))).trans (hb11.mono (by omega))
        go_wp2_with fail
        refine hK.out _ _ ⟨hHeld.1.below hb11 hHeld.1.lt, hHeld.2.below hb11 hHeld.2.lt⟩ (fun hHeld => ?_)
        clear hK K
        (try simp only [Act.put, List.setIfInBounds_toArray, List.set_cons_zero, List.set_cons_succ])
        refine take_at 7 67 (.bool true) rfl rfl (by kernel_rfl) (by kernel_rfl) (by kernel_rfl) (fun _ _ _ h => h) (Or.inl ⟨by kernel_rfl, fun w' hS' => by go_simp⟩) hHeld ?_
        (try simp only [Act.put, List.setIfInBounds_toArray, List.set_cons_zero, List.set_cons_succ])
        refine take_at 8 2 (.bool true) rfl rfl (by kernel_rfl) (by kernel_rfl) (by kernel_rfl) (fun _ _ _ h => h) (Or.inl ⟨by kernel_rfl, fun w' hS' => by go_simp⟩) hHeld ?_
        (try simp only [Act.put, List.setIfInBounds_toArray, List.set_cons_zero, List.set_cons_succ])
        refine wpAnyH_done (by kernel_rfl) ?_ _
        refine NoPanic.normal ?_
        go_wp2_with fail
        go_ret
        exact ⟨rfl, HBz.out⟩
end Go.Proofs.Ytafkbjefmookjaa
