import Derived.Test.YtpgldodnnlcceaaBD2
import Derived.Test.YtpgldodnnlcceaaBD1
import Derived.Test.YtpgldodnnlcceaaBA2
import Derived.Test.YtpgldodnnlcceaaBS1
import Derived.Test.YtpgldodnnlcceaaBM1
import Derived.Test.YtpgldodnnlcceaaBA1
namespace Go.Proofs.Ytpgldodnnlcceaa
open Go.RowKit

theorem results_cell_tmp4 {fn : Func} {p u u' u2 u3 : Tmp} {ty : TypeId} (h : fn.results = #[.cell p ty, .tmp u, .tmp u', .tmp u2, .tmp u3]) (tmps : Array Value) (P : Program) (w : World) :
    (results fn tmps).run P w =
      ((asAddr (tmps.getD p undef)).run P w).andThen fun a w₁ => ((loadVar ty a).run P w₁).andThen fun v w₂ => .ok (.tuple #[v, tmps.getD u undef, tmps.getD u' undef, tmps.getD u2 undef, tmps.getD u3 undef]) w₂ := by
  simp only [results, h]
  simp [Sem.run_bind, Result.andThen]
set_option maxRecDepth 100000 in
set_option maxHeartbeats 8000000 in
theorem drawTableMerge_any (B : Nat) (a : Option Addr) (n cap : Nat) (zs : List Int) (w : World) (h : Byt B w a n cap zs) (hB : B ≤ w.heap.size) :
    Calls Try.prog 13 #[.slice a n cap] w fun e w' => (∃ (R C : Int) (a' : Option Addr) (n' c' : Nat) (l : List Cl) (r c d g : Int), e = .returned (.tuple #[.agg #[.int .i64 R, .int .i64 C, .slice a' n' c'], .int .i64 r, .int .i64 c, .int .i64 d, .int .i64 g]) ∧ Tab w' a' n' c' l ∧ TabSp R C l ∧ (-1 ≤ r ∧ r ≤ 10) ∧ (-1 ≤ c ∧ c ≤ 10) ∧ (0 ≤ d ∧ d ≤ 10) ∧ (0 ≤ g ∧ g ≤ 10)) ∧ Below w.heap.size w w' := by
  have HY : Hid (Byt B w a n cap zs) := h
  clear h
  go_enter Try.func13, Try.ntmps13
  go_upto_region 1 with fail
  have B0 : Below w.heap.size w (w.alloc (.cells #[.int .i64 0, .int .i64 0, .slice none 0 0] 25)) := (Below.refl _ _).alloc (Nat.le_refl _) _
  have Z0 : RowAt (w.alloc (.cells #[.int .i64 0, .int .i64 0, .slice none 0 0] 25)) w.heap.size #[.int .i64 0, .int .i64 0, .slice none 0 0] 25 := rowAt_new _ _ _
  have HY0 : Hid (Byt B (w.alloc (.cells #[.int .i64 0, .int .i64 0, .slice none 0 0] 25)) a n cap zs) := HY.out.belowC B0 hB
  generalize (w.alloc (.cells #[.int .i64 0, .int .i64 0, .slice none 0 0] 25)) = v0 at B0 Z0 HY0 ⊢
  have s0 := B0.size
  have zz := Z0.lt
  go_wp2_with fail
  refine (l6Open_any B a n cap zs _ HY0.out (by omega)).mono ?_
  rintro e w1 ⟨rfl, hr1, hb1⟩
  have hlt := hr1.lt
  have HR1 : Hid (Rd B w1 v0.heap.size 0) := hr1
  clear hr1
  go_wp2_with fail
  refine (l71Grid_any B _ 0 _ HR1.out (by omega)).mono ?_
  rintro e w2 ⟨R, C, a', n', c', l, q, rfl, ⟨os, hX2⟩, hS2, hr2, hq2, hf2⟩
  go_upto_region 3 with fail
  have H0 := HoldR.first (R := R) (C := C) B0 Z0 hb1 hlt hf2 hr2 hX2
  generalize (w2.alloc (.cells #[.int .i64 R, .int .i64 C, .slice a' n' c'] 25)) = v3 at H0 ⊢
  obtain ⟨Tb, hTe⟩ : ∃ T, w2.heap.size = T := ⟨_, rfl⟩
  rw [hTe] at H0 ⊢
  obtain ⟨g, hge⟩ : ∃ g, v0.heap.size = g := ⟨_, rfl⟩
  rw [hge] at H0 ⊢
  have HH : Hid (HoldR w B g q w.heap.size Tb R C a' n' c' l v3) := H0
  have HS : Hid (TabSp R C l) := hS2
  clear H0 hTe hge hS2 hr2 hX2 hf2 hb1 Z0 B0 HY HY0 HR1 s0 zz hlt
  go_wp2_with fail
  go_loopw [9] (fun nv wr => ∃ (k q : Nat) (R1 C1 : Int) (a1 : Option Addr) (n1 c1 : Nat) (l1 : List Cl), k ≤ 24 ∧ nv = .int .i64 k ∧ q ≤ 700 + 800 * k ∧ TabSp R1 C1 l1 ∧ HoldR w B g q w.heap.size Tb R1 C1 a1 n1 c1 l1 wr) (fun nv _ => 24 - (intOf nv).toNat)
  case atStart => exact ⟨0, q, R, C, a', n', c', l, by omega, rfl, by omega, HS.out, HH.out⟩
  case round =>
    clear HH HS
    obtain ⟨k, q1, R1, C1, a1, n1, c1, l1, hk, rfl, hq1, hS1, hb⟩ := hrel
    have HH : Hid (HoldR w B g q1 w.heap.size Tb R1 C1 a1 n1 c1 l1 wr) := hb
    have HS : Hid (TabSp R1 C1 l1) := hS1
    clear hb hS1
    by_cases hlk : k < 24
    · have hkb : (k : Int) < 24 := by omega
      go_wp2_with fail
      refine (pick_any B g q1 24 _ HH.out.rd (by omega) (by omega) (by omega)).mono ?_
      rintro e u3 ⟨x, rfl, hx0, hx1, hr3, hg3⟩
      replace HH : Hid (HoldR w B g (q1 + 1) w.heap.size Tb R1 C1 a1 n1 c1 l1 u3) := HH.out.pick hg3 hr3
      clear hr3 hg3
      by_cases hx : x = 0
      · subst hx
        go_upto_region 15 with fail
        refine wp_region_noPanic ?_
        refine wp_region_held_drew (S := fun w' => RowAt w' Tb #[.int .i64 R1, .int .i64 C1, .slice a1 n1 c1] 25) (by kernel_rfl) HH.out.trow (fun hHeld => ?_)
        refine take_at 0 79 (.agg #[.int .i64 R1, .int .i64 C1, .slice a1 n1 c1]) rfl rfl (by kernel_rfl) (by kernel_rfl) (by kernel_rfl) (fun _ _ _ h => h) (yieldsIf_load_row (by kernel_rfl) 25 (.tmp 8) rfl Tb rfl 25 #[.int .i64 R1, .int .i64 C1, .slice a1 n1 c1] (0, 0) _ (fun w' h => h) Try.underlying25 rfl tab_info) hHeld ?_
        (try simp only [Act.put, List.setIfInBounds_toArray, List.set_cons_zero, List.set_cons_succ])
        refine take_at 1 80 (.pointer (some ⟨g, 0, none⟩)) rfl rfl (by kernel_rfl) (by kernel_rfl) (by kernel_rfl) (fun _ _ _ h => h) (Or.inl ⟨by kernel_rfl, fun w' hS' => by go_simp⟩) hHeld ?_
        (try simp only [Act.put, List.setIfInBounds_toArray, List.set_cons_zero, List.set_cons_succ])
        refine take_at 4 83 (.pointer (some ⟨g, 0, none⟩)) rfl rfl (by kernel_rfl) (by kernel_rfl) (by kernel_rfl) (fun _ _ _ h => h) (Or.inl ⟨by kernel_rfl, fun w' hS' => by go_simp⟩) hHeld ?_
        (try simp only [Act.put, List.setIfInBounds_toArray, List.set_cons_zero, List.set_cons_succ])
        refine take_at 7 86 (.pointer (some ⟨g, 0, none⟩)) rfl rfl (by kernel_rfl) (by kernel_rfl) (by kernel_rfl) (fun _ _ _ h => h) (Or.inl ⟨by kernel_rfl, fun w' hS' => by go_simp⟩) hHeld ?_
        (try simp only [Act.put, List.setIfInBounds_toArray, List.set_cons_zero, List.set_cons_succ])
        refine take_at 9 88 (.pointer (some ⟨g, 0, none⟩)) rfl rfl (by kernel_rfl) (by kernel_rfl) (by kernel_rfl) (fun _ _ _ h => h) (Or.inl ⟨by kernel_rfl, fun w' hS' => by go_simp⟩) hHeld ?_
        (try simp only [Act.put, List.setIfInBounds_toArray, List.set_cons_zero, List.set_cons_succ])
        replace HH : Hid (HoldR w B g (q1 + 1) w.heap.size Tb R1 C1 a1 n1 c1 l1 u3.drew) := HH.out.go ((Below.refl _ _).drew)
        generalize u3.drew = u4 at HH hHeld ⊢
        refine wpAnyH_ready (rs := [2]) (by kernel_rfl) (by simp) ?_
        refine AllReadyH.cons rfl (fun K hK => ?_) AllReadyH.nil
        go_simp
        go_at_call 31
        refine (pick_any B g (q1 + 1) 6 _ HH.out.rd (by omega) (by omega) (by omega)).mono ?_
        rintro e u5 ⟨z1, rfl, hz10, hz11, hr5, hg5⟩
        replace HH : Hid (HoldR w B g ((q1 + 1) + 1) w.heap.size Tb R1 C1 a1 n1 c1 l1 u5) := HH.out.pick hg5 hr5
        clear hr5 hg5 hHeld
        go_wp2_with fail
        refine hK.out _ _ HH.out.trow (fun hHeld => ?_)
        clear hK K
        (try simp only [Act.put, List.setIfInBounds_toArray, List.set_cons_zero, List.set_cons_succ])
        obtain ⟨y1, HY1⟩ : ∃ y, Hid (z1 - 1 = y) := ⟨_, rfl⟩
        refine take_at 3 82 (.int .i64 y1) rfl rfl (by kernel_rfl) (by kernel_rfl) (by kernel_rfl) (fun _ _ _ h => h) (Or.inl ⟨by kernel_rfl, fun w' hS' => by go_simp; have e := HY1.out; rw [IntKind.wrap_i64, e]; omega⟩) hHeld ?_
        (try simp only [Act.put, List.setIfInBounds_toArray, List.set_cons_zero, List.set_cons_succ])
        refine wpAnyH_ready (rs := [5]) (by kernel_rfl) (by simp) ?_
        refine AllReadyH.cons rfl (fun K hK => ?_) AllReadyH.nil
        go_simp
        go_at_call 31
        refine (pick_any B g ((q1 + 1) + 1) 6 _ HH.out.rd (by omega) (by omega) (by omega)).mono ?_
        rintro e u6 ⟨z2, rfl, hz20, hz21, hr5, hg5⟩
        replace HH : Hid (HoldR w B g (((q1 + 1) + 1) + 1) w.heap.size Tb R1 C1 a1 n1 c1 l1 u6) := HH.out.pick hg5 hr5
        clear hr5 hg5 hHeld
        go_wp2_with fail
        refine hK.out _ _ HH.out.trow (fun hHeld => ?_)
        clear hK K
        (try simp only [Act.put, List.setIfInBounds_toArray, List.set_cons_zero, List.set_cons_succ])
        obtain ⟨y2, HY2⟩ : ∃ y, Hid (z2 - 1 = y) := ⟨_, rfl⟩
        refine take_at 6 85 (.int .i64 y2) rfl rfl (by kernel_rfl) (by kernel_rfl) (by kernel_rfl) (fun _ _ _ h => h) (Or.inl ⟨by kernel_rfl, fun w' hS' => by go_simp; have e := HY2.out; rw [IntKind.wrap_i64, e]; omega⟩) hHeld ?_
        (try simp only [Act.put, List.setIfInBounds_toArray, List.set_cons_zero, List.set_cons_succ])
        refine wpAnyH_ready (rs := [8]) (by kernel_rfl) (by simp) ?_
        refine AllReadyH.cons rfl (fun K hK => ?_) AllReadyH.nil
        go_simp
        go_at_call 31
        refine (pick_any B g ((q1 + 1) + 1 + 1) 5 _ HH.out.rd (by omega) (by omega) (by omega)).mono ?_
        rintro e u7 ⟨z3, rfl, hz30, hz31, hr5, hg5⟩
        replace HH : Hid (HoldR w B g (((q1 + 1) + 1 + 1) + 1) w.heap.size Tb R1 C1 a1 n1 c1 l1 u7) := HH.out.pick hg5 hr5
        clear hr5 hg5 hHeld
        go_wp2_with fail
        refine hK.out _ _ HH.out.trow (fun hHeld => ?_)
        clear hK K
        (try simp only [Act.put, List.setIfInBounds_toArray, List.set_cons_zero, List.set_cons_succ])
        refine wpAnyH_ready (rs := [10]) (by kernel_rfl) (by simp) ?_
        refine AllReadyH.cons rfl (fun K hK => ?_) AllReadyH.nil
        go_simp
        go_at_call 31
        refine (pick_any B g ((q1 + 1) + 1 + 1 + 1) 5 _ HH.out.rd (by omega) (by omega) (by omega)).mono ?_
        rintro e u8 ⟨z4, rfl, hz40, hz41, hr5, hg5⟩
        replace HH : Hid (HoldR w B g (((q1 + 1) + 1 + 1 + 1) + 1) w.heap.size Tb R1 C1 a1 n1 c1 l1 u8) := HH.out.pick hg5 hr5
        clear hr5 hg5 hHeld
        go_wp2_with fail
        refine hK.out _ _ HH.out.trow (fun hHeld => ?_)
        clear hK K
        (try simp only [Act.put, List.setIfInBounds_toArray, List.set_cons_zero, List.set_cons_succ])
        refine wpAnyH_ready (rs := [11]) (by kernel_rfl) (by simp) ?_
        refine AllReadyH.cons rfl (fun K hK => ?_) AllReadyH.nil
        rw [if_pos (by kernel_rfl)]
        refine wp_store_row 25 (.tmp 2) (.tmp 79) rfl w.heap.size #[.int .i64 R1, .int .i64 C1, .slice a1 n1 c1] rfl rfl 25 _ HH.out.zrow tab_info rfl (cells3_one _ _ _ _ _) ?_
        have HE : Hid (Tab (u8.setRow w.heap.size #[.int .i64 R1, .int .i64 C1, .slice a1 n1 c1]) a1 n1 c1 l1 ∧ RowAt (u8.setRow w.heap.size #[.int .i64 R1, .int .i64 C1, .slice a1 n1 c1]) w.heap.size #[.int .i64 R1, .int .i64 C1, .slice a1 n1 c1] 25 ∧ Below w.heap.size w (u8.setRow w.heap.size #[.int .i64 R1, .int .i64 C1, .slice a1 n1 c1])) := HH.out.out
        have hne : Tb ≠ w.heap.size := by have := HH.out.gt; have := HH.out.lo; omega
        refine hK.out _ _ (RowAt.setRowOther hHeld _ _ hne) (fun hHeld => ?_)
        clear hK K
        simp only [Act.put]
        generalize (u8.setRow w.heap.size #[.int .i64 R1, .int .i64 C1, .slice a1 n1 c1]) = w9 at HE hHeld ⊢
        refine take_at 12 3 (.int .i64 y1) rfl rfl (by kernel_rfl) (by kernel_rfl) (by kernel_rfl) (fun _ _ _ h => h) (Or.inl ⟨by kernel_rfl, fun w' hS' => by go_simp⟩) hHeld ?_
        (try simp only [Act.put, List.setIfInBounds_toArray])
        refine take_at 13 4 (.int .i64 y2) rfl rfl (by kernel_rfl) (by kernel_rfl) (by kernel_rfl) (fun _ _ _ h => h) (Or.inl ⟨by kernel_rfl, fun w' hS' => by go_simp⟩) hHeld ?_
        (try simp only [Act.put])
        refine take_at 14 5 (.int .i64 z3) rfl rfl (by kernel_rfl) (by kernel_rfl) (by kernel_rfl) (fun _ _ _ h => h) (Or.inl ⟨by kernel_rfl, fun w' hS' => by go_simp⟩) hHeld ?_
        (try simp only [Act.put])
        refine take_at 15 6 (.int .i64 z4) rfl rfl (by kernel_rfl) (by kernel_rfl) (by kernel_rfl) (fun _ _ _ h => h) (Or.inl ⟨by kernel_rfl, fun w' hS' => by go_simp⟩) hHeld ?_
        (try simp only [Act.put])
        refine wpAnyH_done (by kernel_rfl) ?_ _
        refine NoPanic.normal ?_
        go_wp2_with fail
        refine bodyPost_ret (v := .tuple #[.agg #[.int .i64 R1, .int .i64 C1, .slice a1 n1 c1], .int .i64 y1, .int .i64 y2, .int .i64 z3, .int .i64 z4]) ?_ rfl ⟨⟨R1, C1, a1, n1, c1, l1, y1, y2, z3, z4, rfl, HE.out.1, HS.out, by have := HY1.out; omega, by have := HY2.out; omega, by omega, by omega⟩, HE.out.2.2⟩
        rw [results_cell_tmp4 rfl]
        simp [asAddr, Result.andThen, run_tabOf HE.out.2.1]
      · have hxp : 0 < x := by omega
        obtain ⟨ok, HO⟩ : ∃ o, Hid (okB R1 C1 l1 = o) := ⟨_, rfl⟩
        go_upto_region 6 with fail
        go_wp2_with (first | (refine wpList_load_row rfl 25 (.tmp 8) rfl Tb rfl 25 #[.int .i64 R1, .int .i64 C1, .slice a1 n1 c1] (0, 0) _ HH.out.trow Try.underlying25 rfl tab_info ?_))
        refine (specTableOk_is HO.out HH.out.tab).mono ?_
        rintro e u4 ⟨rfl, hb4⟩
        replace HH : Hid (HoldR w B g (q1 + 1) w.heap.size Tb R1 C1 a1 n1 c1 l1 u4) := HH.out.go hb4
        clear hb4
        cases ok
        · go_wp2_with fail
          refine (l71Grid_any B g (q1 + 1) _ HH.out.rd (by omega)).mono ?_
          rintro e u8 ⟨R2, C2, a2, n2, c2, l2, q8, rfl, ⟨os, hX8⟩, hS8, hr8, hq8, hf8⟩
          have HT8 : Hid (RowAt u8 Tb #[.int .i64 R1, .int .i64 C1, .slice a1 n1 c1] 25) := (HH.out.fr hf8 hr8).trow
          have HN8 : Hid (HoldR w B g q8 w.heap.size Tb R2 C2 a2 n2 c2 l2 (u8.setRow Tb #[.int .i64 R2, .int .i64 C2, .slice a2 n2 c2])) := HH.out.next hf8 hr8 hX8
          have HS8 : Hid (TabSp R2 C2 l2) := hS8
          clear hX8 hf8 hr8 hS8
          go_wp2_with (refine wpList_store_row rfl 25 (.tmp 8) (.tmp 41) rfl Tb #[.int .i64 R2, .int .i64 C2, .slice a2 n2 c2] rfl rfl 25 _ HT8.out tab_info rfl (cells3_one _ _ _ _ _) ?_)
          go_roundw
          case rel => exact ⟨k + 1, q8, R2, C2, a2, n2, c2, l2, by omega, by go_num, by omega, HS8.out, HN8.out⟩
          case measure => simp [intOf]; omega
        · obtain ⟨hR1, hC1, -, -⟩ := gridP_of_okB HO.out
          have t0 : u4.cell? ⟨Tb, 0, none⟩ = some (.int .i64 R1) := HH.out.trow.cell 0
          have t1 : u4.cell? ⟨Tb, 1, none⟩ = some (.int .i64 C1) := HH.out.trow.cell 1
          by_cases hp2 : wrap64 (R1 * C1) < 2
          · go_wp2_with fail
            refine (l71Grid_any B g (q1 + 1) _ HH.out.rd (by omega)).mono ?_
            rintro e u8 ⟨R2, C2, a2, n2, c2, l2, q8, rfl, ⟨os, hX8⟩, hS8, hr8, hq8, hf8⟩
            have HT8 : Hid (RowAt u8 Tb #[.int .i64 R1, .int .i64 C1, .slice a1 n1 c1] 25) := (HH.out.fr hf8 hr8).trow
            have HN8 : Hid (HoldR w B g q8 w.heap.size Tb R2 C2 a2 n2 c2 l2 (u8.setRow Tb #[.int .i64 R2, .int .i64 C2, .slice a2 n2 c2])) := HH.out.next hf8 hr8 hX8
            have HS8 : Hid (TabSp R2 C2 l2) := hS8
            clear hX8 hf8 hr8 hS8
            go_wp2_with (refine wpList_store_row rfl 25 (.tmp 8) (.tmp 41) rfl Tb #[.int .i64 R2, .int .i64 C2, .slice a2 n2 c2] rfl rfl 25 _ HT8.out tab_info rfl (cells3_one _ _ _ _ _) ?_)
            go_roundw
            case rel => exact ⟨k + 1, q8, R2, C2, a2, n2, c2, l2, by omega, by go_num, by omega, HS8.out, HN8.out⟩
            case measure => simp [intOf]; omega
          · go_wp2_with fail
            refine (pick_any B g (q1 + 1) R1 _ HH.out.rd (by omega) (by omega) (by omega)).mono ?_
            rintro e u5 ⟨y1, rfl, hy10, hy11, hr5, hg5⟩
            replace HH : Hid (HoldR w B g ((q1 + 1) + 1) w.heap.size Tb R1 C1 a1 n1 c1 l1 u5) := HH.out.pick hg5 hr5
            clear hr5 hg5
            have t1 : u5.cell? ⟨Tb, 1, none⟩ = some (.int .i64 C1) := HH.out.trow.cell 1
            go_wp2_with fail
            refine (pick_any B g (q1 + 1 + 1) C1 _ HH.out.rd (by omega) (by omega) (by omega)).mono ?_
            rintro e u6 ⟨y2, rfl, hy20, hy21, hr5, hg5⟩
            replace HH : Hid (HoldR w B g ((q1 + 1 + 1) + 1) w.heap.size Tb R1 C1 a1 n1 c1 l1 u6) := HH.out.pick hg5 hr5
            clear hr5 hg5
            have t0 : u6.cell? ⟨Tb, 0, none⟩ = some (.int .i64 R1) := HH.out.trow.cell 0
            clear t1
            go_wp2_with fail
            refine (pick_any B g (q1 + 1 + 1 + 1) (R1 - y1) _ HH.out.rd (by omega) (by omega) (by omega)).mono ?_
            rintro e u7 ⟨y3, rfl, hy30, hy31, hr5, hg5⟩
            replace HH : Hid (HoldR w B g ((q1 + 1 + 1 + 1) + 1) w.heap.size Tb R1 C1 a1 n1 c1 l1 u7) := HH.out.pick hg5 hr5
            clear hr5 hg5
            have t1 : u7.cell? ⟨Tb, 1, none⟩ = some (.int .i64 C1) := HH.out.trow.cell 1
            go_wp2_with fail
            refine (pick_any B g (q1 + 1 + 1 + 1 + 1) (C1 - y2) _ HH.out.rd (by omega) (by omega) (by omega)).mono ?_
            rintro e u8 ⟨y4, rfl, hy40, hy41, hr5, hg5⟩
            replace HH : Hid (HoldR w B g ((q1 + 1 + 1 + 1 + 1) + 1) w.heap.size Tb R1 C1 a1 n1 c1 l1 u8) := HH.out.pick hg5 hr5
            clear hr5 hg5
            obtain ⟨d, HD⟩ : ∃ d, Hid (1 + y3 = d) := ⟨_, rfl⟩
            obtain ⟨e', HE'⟩ : ∃ d, Hid (1 + y4 = d) := ⟨_, rfl⟩
            go_upto_region 12 with fail
            rw [HD.out, HE'.out]
            have hd0 : 1 ≤ d ∧ d ≤ 10 := by have := HD.out; omega
            have he0 : 1 ≤ e' ∧ e' ≤ 10 := by have := HE'.out; omega
            obtain ⟨can, HC⟩ : ∃ o, Hid (mergeB R1 C1 l1 y1 y2 d e' = o) := ⟨_, rfl⟩
            cases can
            · go_upto_region 13 with (first | (refine wpList_load_row rfl 25 (.tmp 8) rfl Tb rfl 25 #[.int .i64 R1, .int .i64 C1, .slice a1 n1 c1] (0, 0) _ HH.out.trow Try.underlying25 rfl tab_info ?_) | (go_at_call 14; refine (specTableMerge_any R1 C1 y1 y2 d e' a1 n1 c1 l1 _ HH.out.tab).mono ?_; intro e w9 hr; obtain ⟨hr1, hb⟩ := hr; obtain ⟨ma, mn, mc, rfl, -⟩ := tabRes_f HC.out hr1; replace HH : Hid (HoldR w B g (q1 + 1 + 1 + 1 + 1 + 1) w.heap.size Tb R1 C1 a1 n1 c1 l1 w9) := HH.out.go hb; clear hr1 hb))
              replace HH : Hid (HoldR w B g (q1 + 1 + 1 + 1 + 1 + 1) w.heap.size Tb R1 C1 a1 n1 c1 l1 (w9.alloc (.cells #[.int .i64 0, .int .i64 0, .slice ma mn mc] 25))) := HH.out.go ((Below.refl _ _).alloc (Nat.le_refl _) _)
              generalize (w9.alloc (.cells #[.int .i64 0, .int .i64 0, .slice ma mn mc] 25)) = v9 at HH ⊢
              go_wp2_with fail
              go_roundw
              case rel => exact ⟨k + 1, (q1 + 1 + 1 + 1 + 1 + 1), R1, C1, a1, n1, c1, l1, by omega, by go_num, by omega, HS.out, HH.out⟩
              case measure => simp [intOf]; omega
            · go_upto_region 13 with (first | (refine wpList_load_row rfl 25 (.tmp 8) rfl Tb rfl 25 #[.int .i64 R1, .int .i64 C1, .slice a1 n1 c1] (0, 0) _ HH.out.trow Try.underlying25 rfl tab_info ?_) | (go_at_call 14; refine (specTableMerge_any R1 C1 y1 y2 d e' a1 n1 c1 l1 _ HH.out.tab).mono ?_; intro e w9 hr; obtain ⟨hr1, hb⟩ := hr; obtain ⟨ma, mn, mc, rfl, -⟩ := tabRes_t HC.out hr1; replace HH : Hid (HoldR w B g (q1 + 1 + 1 + 1 + 1 + 1) w.heap.size Tb R1 C1 a1 n1 c1 l1 w9) := HH.out.go hb; clear hr1 hb))
              replace HH : Hid (HoldR w B g (q1 + 1 + 1 + 1 + 1 + 1) w.heap.size Tb R1 C1 a1 n1 c1 l1 (w9.alloc (.cells #[.int .i64 R1, .int .i64 C1, .slice ma mn mc] 25))) := HH.out.go ((Below.refl _ _).alloc (Nat.le_refl _) _)
              generalize (w9.alloc (.cells #[.int .i64 R1, .int .i64 C1, .slice ma mn mc] 25)) = v9 at HH ⊢
              go_wp2_with (first | (refine wpList_load_row rfl 25 (.tmp 8) rfl Tb rfl 25 #[.int .i64 R1, .int .i64 C1, .slice a1 n1 c1] (0, 0) _ HH.out.trow Try.underlying25 rfl tab_info ?_) | (refine wpList_store_row rfl 25 (.tmp 2) (.tmp 74) rfl w.heap.size #[.int .i64 R1, .int .i64 C1, .slice a1 n1 c1] rfl rfl 25 _ HH.out.zrow tab_info rfl (cells3_one _ _ _ _ _) ?_))
              refine bodyPost_ret (v := .tuple #[.agg #[.int .i64 R1, .int .i64 C1, .slice a1 n1 c1], .int .i64 y1, .int .i64 y2, .int .i64 d, .int .i64 e']) ?_ rfl ⟨⟨R1, C1, a1, n1, c1, l1, y1, y2, d, e', rfl, HH.out.out.1, HS.out, by omega, by omega, by omega, by omega⟩, HH.out.out.2.2⟩
              rw [results_cell_tmp4 rfl]
              simp [asAddr, Result.andThen, run_tabOf HH.out.out.2.1]
    · have hkb : ¬ (k : Int) < 24 := by omega
      go_upto_region 15 with fail
      refine wp_region_noPanic ?_
      refine wp_region_held_drew (S := fun w' => RowAt w' Tb #[.int .i64 R1, .int .i64 C1, .slice a1 n1 c1] 25) (by kernel_rfl) HH.out.trow (fun hHeld => ?_)
      refine take_at 0 79 (.agg #[.int .i64 R1, .int .i64 C1, .slice a1 n1 c1]) rfl rfl (by kernel_rfl) (by kernel_rfl) (by kernel_rfl) (fun _ _ _ h => h) (yieldsIf_load_row (by kernel_rfl) 25 (.tmp 8) rfl Tb rfl 25 #[.int .i64 R1, .int .i64 C1, .slice a1 n1 c1] (0, 0) _ (fun w' h => h) Try.underlying25 rfl tab_info) hHeld ?_
      (try simp only [Act.put, List.setIfInBounds_toArray, List.set_cons_zero, List.set_cons_succ])
      refine take_at 1 80 (.pointer (some ⟨g, 0, none⟩)) rfl rfl (by kernel_rfl) (by kernel_rfl) (by kernel_rfl) (fun _ _ _ h => h) (Or.inl ⟨by kernel_rfl, fun w' hS' => by go_simp⟩) hHeld ?_
      (try simp only [Act.put, List.setIfInBounds_toArray, List.set_cons_zero, List.set_cons_succ])
      refine take_at 4 83 (.pointer (some ⟨g, 0, none⟩)) rfl rfl (by kernel_rfl) (by kernel_rfl) (by kernel_rfl) (fun _ _ _ h => h) (Or.inl ⟨by kernel_rfl, fun w' hS' => by go_simp⟩) hHeld ?_
      (try simp only [Act.put, List.setIfInBounds_toArray, List.set_cons_zero, List.set_cons_succ])
      refine take_at 7 86 (.pointer (some ⟨g, 0, none⟩)) rfl rfl (by kernel_rfl) (by kernel_rfl) (by kernel_rfl) (fun _ _ _ h => h) (Or.inl ⟨by kernel_rfl, fun w' hS' => by go_simp⟩) hHeld ?_
      (try simp only [Act.put, List.setIfInBounds_toArray, List.set_cons_zero, List.set_cons_succ])
      refine take_at 9 88 (.pointer (some ⟨g, 0, none⟩)) rfl rfl (by kernel_rfl) (by kernel_rfl) (by kernel_rfl) (fun _ _ _ h => h) (Or.inl ⟨by kernel_rfl, fun w' hS' => by go_simp⟩) hHeld ?_
      (try simp only [Act.put, List.setIfInBounds_toArray, List.set_cons_zero, List.set_cons_succ])
      replace HH : Hid (HoldR w B g q1 w.heap.size Tb R1 C1 a1 n1 c1 l1 wr.drew) := HH.out.go ((Below.refl _ _).drew)
      generalize wr.drew = u4 at HH hHeld ⊢
      refine wpAnyH_ready (rs := [2]) (by kernel_rfl) (by simp) ?_
      refine AllReadyH.cons rfl (fun K hK => ?_) AllReadyH.nil
      go_simp
      go_at_call 31
      refine (pick_any B g q1 6 _ HH.out.rd (by omega) (by omega) (by omega)).mono ?_
      rintro e u5 ⟨z1, rfl, hz10, hz11, hr5, hg5⟩
      replace HH : Hid (HoldR w B g (q1 + 1) w.heap.size Tb R1 C1 a1 n1 c1 l1 u5) := HH.out.pick hg5 hr5
      clear hr5 hg5 hHeld
      go_wp2_with fail
      refine hK.out _ _ HH.out.trow (fun hHeld => ?_)
      clear hK K
      (try simp only [Act.put, List.setIfInBounds_toArray, List.set_cons_zero, List.set_cons_succ])
      obtain ⟨y1, HY1⟩ : ∃ y, Hid (z1 - 1 = y) := ⟨_, rfl⟩
      refine take_at 3 82 (.int .i64 y1) rfl rfl (by kernel_rfl) (by kernel_rfl) (by kernel_rfl) (fun _ _ _ h => h) (Or.inl ⟨by kernel_rfl, fun w' hS' => by go_simp; have e := HY1.out; rw [IntKind.wrap_i64, e]; omega⟩) hHeld ?_
      (try simp only [Act.put, List.setIfInBounds_toArray, List.set_cons_zero, List.set_cons_succ])
      refine wpAnyH_ready (rs := [5]) (by kernel_rfl) (by simp) ?_
      refine AllReadyH.cons rfl (fun K hK => ?_) AllReadyH.nil
      go_simp
      go_at_call 31
      refine (pick_any B g (q1 + 1) 6 _ HH.out.rd (by omega) (by omega) (by omega)).mono ?_
      rintro e u6 ⟨z2, rfl, hz20, hz21, hr5, hg5⟩
      replace HH : Hid (HoldR w B g ((q1 + 1) + 1) w.heap.size Tb R1 C1 a1 n1 c1 l1 u6) := HH.out.pick hg5 hr5
      clear hr5 hg5 hHeld
      go_wp2_with fail
      refine hK.out _ _ HH.out.trow (fun hHeld => ?_)
      clear hK K
      (try simp only [Act.put, List.setIfInBounds_toArray, List.set_cons_zero, List.set_cons_succ])
      obtain ⟨y2, HY2⟩ : ∃ y, Hid (z2 - 1 = y) := ⟨_, rfl⟩
      refine take_at 6 85 (.int .i64 y2) rfl rfl (by kernel_rfl) (by kernel_rfl) (by kernel_rfl) (fun _ _ _ h => h) (Or.inl ⟨by kernel_rfl, fun w' hS' => by go_simp; have e := HY2.out; rw [IntKind.wrap_i64, e]; omega⟩) hHeld ?_
      (try simp only [Act.put, List.setIfInBounds_toArray, List.set_cons_zero, List.set_cons_succ])
      refine wpAnyH_ready (rs := [8]) (by kernel_rfl) (by simp) ?_
      refine AllReadyH.cons rfl (fun K hK => ?_) AllReadyH.nil
      go_simp
      go_at_call 31
      refine (pick_any B g (q1 + 1 + 1) 5 _ HH.out.rd (by omega) (by omega) (by omega)).mono ?_
      rintro e u7 ⟨z3, rfl, hz30, hz31, hr5, hg5⟩
      replace HH : Hid (HoldR w B g ((q1 + 1 + 1) + 1) w.heap.size Tb R1 C1 a1 n1 c1 l1 u7) := HH.out.pick hg5 hr5
      clear hr5 hg5 hHeld
      go_wp2_with fail
      refine hK.out _ _ HH.out.trow (fun hHeld => ?_)
      clear hK K
      (try simp only [Act.put, List.setIfInBounds_toArray, List.set_cons_zero, List.set_cons_succ])
      refine wpAnyH_ready (rs := [10]) (by kernel_rfl) (by simp) ?_
      refine AllReadyH.cons rfl (fun K hK => ?_) AllReadyH.nil
      go_simp
      go_at_call 31
      refine (pick_any B g (q1 + 1 + 1 + 1) 5 _ HH.out.rd (by omega) (by omega) (by omega)).mono ?_
      rintro e u8 ⟨z4, rfl, hz40, hz41, hr5, hg5⟩
      replace HH : Hid (HoldR w B g ((q1 + 1 + 1 + 1) + 1) w.heap.size Tb R1 C1 a1 n1 c1 l1 u8) := HH.out.pick hg5 hr5
      clear hr5 hg5 hHeld
      go_wp2_with fail
      refine hK.out _ _ HH.out.trow (fun hHeld => ?_)
      clear hK K
      (try simp only [Act.put, List.setIfInBounds_toArray, List.set_cons_zero, List.set_cons_succ])
      refine wpAnyH_ready (rs := [11]) (by kernel_rfl) (by simp) ?_
      refine AllReadyH.cons rfl (fun K hK => ?_) AllReadyH.nil
      rw [if_pos (by kernel_rfl)]
      refine wp_store_row 25 (.tmp 2) (.tmp 79) rfl w.heap.size #[.int .i64 R1, .int .i64 C1, .slice a1 n1 c1] rfl rfl 25 _ HH.out.zrow tab_info rfl (cells3_one _ _ _ _ _) ?_
      have HE : Hid (Tab (u8.setRow w.heap.size #[.int .i64 R1, .int .i64 C1, .slice a1 n1 c1]) a1 n1 c1 l1 ∧ RowAt (u8.setRow w.heap.size #[.int .i64 R1, .int .i64 C1, .slice a1 n1 c1]) w.heap.size #[.int .i64 R1, .int .i64 C1, .slice a1 n1 c1] 25 ∧ Below w.heap.size w (u8.setRow w.heap.size #[.int .i64 R1, .int .i64 C1, .slice a1 n1 c1])) := HH.out.out
      have hne : Tb ≠ w.heap.size := by have := HH.out.gt; have := HH.out.lo; omega
      refine hK.out _ _ (RowAt.setRowOther hHeld _ _ hne) (fun hHeld => ?_)
      clear hK K
      simp only [Act.put]
      generalize (u8.setRow w.heap.size #[.int .i64 R1, .int .i64 C1, .slice a1 n1 c1]) = w9 at HE hHeld ⊢
      refine take_at 12 3 (.int .i64 y1) rfl rfl (by kernel_rfl) (by kernel_rfl) (by kernel_rfl) (fun _ _ _ h => h) (Or.inl ⟨by kernel_rfl, fun w' hS' => by go_simp⟩) hHeld ?_
      (try simp only [Act.put, List.setIfInBounds_toArray])
      refine take_at 13 4 (.int .i64 y2) rfl rfl (by kernel_rfl) (by kernel_rfl) (by kernel_rfl) (fun _ _ _ h => h) (Or.inl ⟨by kernel_rfl, fun w' hS' => by go_simp⟩) hHeld ?_
      (try simp only [Act.put])
      refine take_at 14 5 (.int .i64 z3) rfl rfl (by kernel_rfl) (by kernel_rfl) (by kernel_rfl) (fun _ _ _ h => h) (Or.inl ⟨by kernel_rfl, fun w' hS' => by go_simp⟩) hHeld ?_
      (try simp only [Act.put])
      refine take_at 15 6 (.int .i64 z4) rfl rfl (by kernel_rfl) (by kernel_rfl) (by kernel_rfl) (fun _ _ _ h => h) (Or.inl ⟨by kernel_rfl, fun w' hS' => by go_simp⟩) hHeld ?_
      (try simp only [Act.put])
      refine wpAnyH_done (by kernel_rfl) ?_ _
      refine NoPanic.normal ?_
      go_wp2_with fail
      refine bodyPost_ret (v := .tuple #[.agg #[.int .i64 R1, .int .i64 C1, .slice a1 n1 c1], .int .i64 y1, .int .i64 y2, .int .i64 z3, .int .i64 z4]) ?_ rfl ⟨⟨R1, C1, a1, n1, c1, l1, y1, y2, z3, z4, rfl, HE.out.1, HS.out, by have := HY1.out; omega, by have := HY2.out; omega, by omega, by omega⟩, HE.out.2.2⟩
      rw [results_cell_tmp4 rfl]
      simp [asAddr, Result.andThen, run_tabOf HE.out.2.1]
end Go.Proofs.Ytpgldodnnlcceaa
namespace Go.Proofs.Ytpgldodnnlcceaa
open Go.RowKit

theorem merge_data {R C r c d g : Int} {l : List Cl} (h : mergeB R C l r c d g = true) : ∃ (r' c' d' g' : Nat), r = r' ∧ c = c' ∧ d = d' ∧ g = g' ∧ okB R C l = true ∧ 1 ≤ d' ∧ 1 ≤ g' ∧ (r' : Int) + d' ≤ R ∧ (c' : Int) + g' ≤ C ∧ l.all (fun z => !cutB r' c' d' g' z) = true ∧ 2 ≤ mN r' c' d' g' l ∧ textB (mTx r' c' d' g' l) = true := by
  simp only [mergeB, bndB, Bool.and_eq_true, decide_eq_true_eq] at h
  obtain ⟨⟨⟨⟨h1, h2⟩, h3⟩, h4⟩, h5⟩ := h
  obtain ⟨r, rfl⟩ : ∃ z : Nat, r = z := ⟨r.toNat, by omega⟩
  obtain ⟨c, rfl⟩ : ∃ z : Nat, c = z := ⟨c.toNat, by omega⟩
  obtain ⟨d, rfl⟩ : ∃ z : Nat, d = z := ⟨d.toNat, by omega⟩
  obtain ⟨g, rfl⟩ : ∃ z : Nat, g = z := ⟨g.toNat, by omega⟩
  simp only [Int.toNat_natCast] at h3 h4 h5
  exact ⟨r, c, d, g, rfl, rfl, rfl, rfl, h1, by omega, by omega, by omega, by omega, h3, h4, h5⟩
theorem tab_cell {u : World} {b o n c k : Nat} {L : List Cl} (h : Tab u (some ⟨b, o, none⟩) n c L) (hk : k < L.length) : u.cell? ⟨b, o + k * 5 + 2, none⟩ = some (.int .i64 (L.getD k cl0).2.2.1) ∧ u.cell? ⟨b, o + k * 5 + 3, none⟩ = some (.int .i64 (L.getD k cl0).2.2.2.1) := by
  rcases h.2.2.2 with e | ⟨b', o', e, _, hcl⟩
  · rw [e] at hk
    exact absurd hk (by simp)
  · simp only [Option.some.injEq, Addr.mk.injEq, and_true] at e
    obtain ⟨rfl, rfl⟩ := e
    obtain ⟨-, -, j2, j3, -⟩ := hcl k hk
    exact ⟨j2, j3⟩
section
variable {R C : Int} {l : List Cl}
theorem at_same (h : okB R C l = true) {x : Cl} (hx : x ∈ l) (a b a' b' : Nat) (h1 : inB x a b = true) (h2 : inB x a' b' = true) : atN R C l a b = atN R C l a' b' := by
  obtain ⟨k, hk, e, ek⟩ := at_of h hx a b h1
  obtain ⟨m, hm, e', em⟩ := at_of h hx a' b' h2
  have hw := ok_cell h hx
  have hi := inB_is.1 h1
  rw [e, e']
  rcases Nat.lt_trichotomy k m with q | q | q
  · exact (okB_apart h a b (by omega) (by omega) q hm (by rw [ek]; exact h1) (by rw [em]; exact h1)).elim
  · rw [q]
  · exact (okB_apart h a b (by omega) (by omega) q hk (by rw [em]; exact h1) (by rw [ek]; exact h1)).elim
variable {r c d g : Nat}
/-- A cell that has a square outside of a rectangle that cuts no cell is outside. -/
theorem outs_of (h : okB R C l = true) (hall : l.all (fun z => !cutB r c d g z) = true) {x : Cl} (hx : x ∈ l) (a b : Nat) (hi : inB x a b = true) (ho : ¬ inR r c d g a b) : outsB r c d g x = true := by
  have hw := ok_cell h hx
  have hi' := inB_is.1 hi
  obtain ⟨x1, x2, x3, x4, tx⟩ := x
  simp only at hw hi'
  obtain ⟨x1, rfl⟩ : ∃ z : Nat, x1 = z := ⟨x1.toNat, by omega⟩
  obtain ⟨x2, rfl⟩ : ∃ z : Nat, x2 = z := ⟨x2.toNat, by omega⟩
  obtain ⟨x3, rfl⟩ : ∃ z : Nat, x3 = z := ⟨x3.toNat, by omega⟩
  obtain ⟨x4, rfl⟩ : ∃ z : Nat, x4 = z := ⟨x4.toNat, by omega⟩
  cases hq : outsB r c d g ((x1 : Int), (x2 : Int), (x3 : Int), (x4 : Int), tx)
  · have hc := List.all_eq_true.1 hall _ hx
    unfold cutB at hc
    rw [hq] at hc
    have hf : fullB r c d g ((x1 : Int), (x2 : Int), (x3 : Int), (x4 : Int), tx) = true := by simpa using hc
    exact absurd ((full_iff (by omega) (by omega)).1 hf a b (by omega) (by omega) (by omega) (by omega)) ho
  · rfl
theorem merge_in (h : mergeB R C l r c d g = true) (hd : 1 ≤ d) (hg : 1 ≤ g) (a b : Nat) (hin : inR r c d g a b) : atN R C (mergeL l r c d g) a b = atN R C (mergeL l r c d g) r c := by
  unfold inR at hin
  exact at_same (ok_mergeN h) (mergeL_iff.2 (Or.inr rfl)) a b r c (inB_is.2 (by simp only; omega)) (inB_is.2 (by simp only; omega))
theorem merge_at (h : mergeB R C l r c d g = true) (hd : 1 ≤ d) (hg : 1 ≤ g) : ∃ k, k < (mergeL l r c d g).length ∧ atN R C (mergeL l r c d g) r c = (k : Int) ∧ (mergeL l r c d g).getD k cl0 = ((r : Int), (c : Int), (d : Int), (g : Int), mTx r c d g l) :=
  at_of (ok_mergeN h) (mergeL_iff.2 (Or.inr rfl)) r c (inB_is.2 (by simp only; omega))
theorem merge_out (h : mergeB R C l r c d g = true) (hok : okB R C l = true) (hall : l.all (fun z => !cutB r c d g z) = true) (hd : 1 ≤ d) (hg : 1 ≤ g) (a b : Nat) (ha : (a : Int) < R) (hb : (b : Int) < C) (hout : ¬ inR r c d g a b) :
    atN R C (mergeL l r c d g) a b ≠ atN R C (mergeL l r c d g) r c ∧ sqT R C (mergeL l r c d g) a b = sqT R C l a b := by
  obtain ⟨x, hx, hi⟩ := sq_has hok a b ha hb
  have ho := outs_of hok hall hx a b hi hout
  have hm : x ∈ mergeL l r c d g := mergeL_iff.2 (Or.inl ⟨hx, ho⟩)
  refine ⟨fun e => ?_, by rw [sqT_of (ok_mergeN h) hm a b hi, sqT_of hok hx a b hi]⟩
  obtain ⟨k, _, e1, ek⟩ := at_of (ok_mergeN h) hm a b hi
  obtain ⟨m, _, e2, em⟩ := merge_at h hd hg
  rw [e1, e2] at e
  have hkm : k = m := by omega
  subst hkm
  rw [ek] at em
  rw [em] at hi
  have := inB_is.1 hi
  simp only at this
  exact hout (by unfold inR; omega)
end
end Go.Proofs.Ytpgldodnnlcceaa
namespace Go.Proofs.Ytpgldodnnlcceaa
open Go.RowKit

theorem same_len {F : List Cl} {y : Cl} (hn : F.Nodup) (h : ∀ x ∈ F, x = y) : F.length ≤ 1 := by
  rcases F with _ | ⟨a, _ | ⟨b, F⟩⟩
  · simp
  · simp
  · have h1 := h a (List.mem_cons_self ..)
    have h2 := h b (List.mem_cons_of_mem _ (List.mem_cons_self ..))
    rw [List.nodup_cons] at hn
    exact absurd (List.mem_cons.2 (Or.inl (h1.trans h2.symm))) hn.1
section
variable {R C : Int} {l : List Cl} {r c d g : Nat}
/-- What is merged is not merged again. -/
theorem merge_again (h : mergeB R C l r c d g = true) : mergeB R C (mergeL l r c d g) r c d g = false := by
  cases hq : mergeB R C (mergeL l r c d g) r c d g
  · rfl
  · obtain ⟨r', c', d', g', e1, e2, e3, e4, -, -, -, -, -, -, h2, -⟩ := merge_data hq
    obtain rfl : r' = r := by omega
    obtain rfl : c' = c := by omega
    obtain rfl : d' = d := by omega
    obtain rfl : g' = g := by omega
    have hl : mN r' c' d' g' (mergeL l r' c' d' g') ≤ 1 := by
      unfold mN
      refine same_len (y := ((r' : Int), (c' : Int), (d' : Int), (g' : Int), mTx r' c' d' g' l)) ((ok_nodup (ok_mergeN h)).filter _) ?_
      intro x hx
      rw [List.mem_filter] at hx
      rcases mergeL_iff.1 hx.1 with ⟨_, ho⟩ | rfl
      · have hf := hx.2
        unfold fullB at hf
        unfold outsB at ho
        simp only [decide_eq_true_eq] at hf ho
        exact absurd ho hf.1
      · rfl
    omega
/-- A rectangle with two cells has two squares. -/
theorem two_squares (h : okB R C l = true) (hall : l.all (fun z => !cutB r c d g z) = true) (hd : 1 ≤ d) (hg : 1 ≤ g) (hr : (r : Int) + d ≤ R) (hc : (c : Int) + g ≤ C) (h2 : 2 ≤ mN r c d g l) : 2 ≤ d * g := by
  rcases Nat.lt_or_ge (d * g) 2 with hlt | hge
  · have hd1 : d = 1 := by
      rcases Nat.lt_or_ge 1 d with q | q
      · have : 2 * 1 ≤ d * g := Nat.mul_le_mul q hg
        omega
      · omega
    have hg1 : g = 1 := by
      rcases Nat.lt_or_ge 1 g with q | q
      · have : 1 * 2 ≤ d * g := Nat.mul_le_mul hd q
        omega
      · omega
    subst hd1
    subst hg1
    obtain ⟨y, hy, hi⟩ := sq_has h r c (by omega) (by omega)
    have : mN r c 1 1 l ≤ 1 := by
      unfold mN
      refine same_len (y := y) ((ok_nodup h).filter _) ?_
      intro x hx
      rw [List.mem_filter] at hx
      have hw := ok_cell h hx.1
      obtain ⟨x1, x2, x3, x4, tx⟩ := x
      simp only at hw
      obtain ⟨x1, rfl⟩ : ∃ z : Nat, x1 = z := ⟨x1.toNat, by omega⟩
      obtain ⟨x2, rfl⟩ : ∃ z : Nat, x2 = z := ⟨x2.toNat, by omega⟩
      obtain ⟨x3, rfl⟩ : ∃ z : Nat, x3 = z := ⟨x3.toNat, by omega⟩
      obtain ⟨x4, rfl⟩ : ∃ z : Nat, x4 = z := ⟨x4.toNat, by omega⟩
      have hf := (full_iff (by omega) (by omega)).1 hx.2 x1 x2 (Nat.le_refl _) (by omega) (Nat.le_refl _) (by omega)
      unfold inR at hf
      exact one_cell h hx.1 hy r c (inB_is.2 (by simp only; omega)) hi
    omega
  · exact hge
theorem merge_split (h : mergeB R C l r c d g = true) (hd : 1 ≤ d) (hg : 1 ≤ g) (h2 : 2 ≤ d * g) {k : Nat} (hk : k < (mergeL l r c d g).length) (e : (mergeL l r c d g).getD k cl0 = ((r : Int), (c : Int), (d : Int), (g : Int), mTx r c d g l)) : splitB R C (mergeL l r c d g) k = true ∧ (splitL (mergeL l r c d g) k).length + 1 = (mergeL l r c d g).length + d * g := by
  refine ⟨?_, splitL_len e hd hg⟩
  simp only [splitB, ok_mergeN h, Bool.true_and, Bool.and_eq_true, decide_eq_true_eq, Int.toNat_natCast, e]
  exact ⟨by omega, h2⟩
end
end Go.Proofs.Ytpgldodnnlcceaa
namespace Go.Proofs.Ytpgldodnnlcceaa
open Go.RowKit

section
variable {w0 u u' : World} {rs : List (Nat × Array Value × TypeId)} {ts : List (Option Addr × Nat × Nat × List Cl)} {a : Option Addr} {n c : Nat} {l : List Cl}
/-- A call's answer, laid into a block that is made behind the call. -/
theorem Hold.behind (h : Hold w0 rs ts u) (ht : Tab u a n c l) (Z cs : Array Value) (ty : TypeId) : Hold w0 ((u.heap.size, cs, ty) :: rs) ((a, n, c, l) :: ts) ((u.alloc (.cells Z ty)).setRow u.heap.size cs) := by
  have hb : Below u.heap.size u ((u.alloc (.cells Z ty)).setRow u.heap.size cs) := below_row ((Below.refl _ _).alloc (Nat.le_refl _) _) (Nat.le_refl _) _
  have k := (h.add ht).go hb
  refine ⟨k.1, fun r hm => ?_, k.2.2⟩
  rcases List.mem_cons.1 hm with rfl | hm
  · exact (rowAt_new u Z ty).setRow cs
  · exact k.2.1 r hm
/-- A call's answer, laid into a block that is made ahead of the call. -/
theorem Hold.ahead (h : Hold w0 rs ts u) {Z cs : Array Value} {os : List Rw} (hb : Below (u.alloc (.cells Z 25)).heap.size (u.alloc (.cells Z 25)) u') (ho : OwnT u' (u.alloc (.cells Z 25)).heap.size (.slice a n c) os l) :
    Hold w0 ((u.heap.size, cs, 25) :: rs) ((a, n, c, l) :: ts) (u'.setRow u.heap.size cs) := by
  have z : RowAt u' u.heap.size Z 25 := (rowAt_new u Z 25).below hb (by simp)
  have b2 : Below u.heap.size u u' := ((Below.refl _ _).alloc (Nat.le_refl _) _).trans (hb.mono (by simp))
  have k := h.go (below_row b2 (Nat.le_refl _) cs)
  refine ⟨k.1, fun r hm => ?_, fun t hm => ?_⟩
  · rcases List.mem_cons.1 hm with rfl | hm
    · exact z.setRow cs
    · exact k.2.1 r hm
  · rcases List.mem_cons.1 hm with rfl | hm
    · exact (ho.setRowT z _).tab
    · exact k.2.2 t hm
theorem rowOf_ahead {Z : Array Value} (hb : Below (u.alloc (.cells Z 25)).heap.size (u.alloc (.cells Z 25)) u') : RowAt u' u.heap.size Z 25 := (rowAt_new u Z 25).below hb (by simp)
end
theorem tabRes_ot {B : Nat} {ok : Bool} {X Y : Int} {L : List Cl} {z : Ending} {w' : World} (hok : ok = true) (h : TabRes B ok X Y L z w') :
    ∃ a n c os, z = .returned (.tuple #[.agg #[.int .i64 X, .int .i64 Y, .slice a n c], .bool true]) ∧ OwnT w' B (.slice a n c) os L := by
  rcases h with ⟨h2, _⟩ | ⟨_, a, c, rs, rfl, ho⟩
  · rw [hok] at h2
    cases h2
  · exact ⟨a, _, c, rs, rfl, ho⟩
theorem tabRes_of {B : Nat} {ok : Bool} {X Y : Int} {L : List Cl} {z : Ending} {w' : World} (hok : ok = false) (h : TabRes B ok X Y L z w') :
    ∃ a n c os, z = .returned (.tuple #[.agg #[.int .i64 0, .int .i64 0, .slice a n c], .bool false]) ∧ OwnT w' B (.slice a n c) os [] := by
  rcases h with ⟨_, rfl⟩ | ⟨h2, _⟩
  · exact ⟨none, 0, 0, [], rfl, OwnR.nil _ _, TxtOwn.nil _ _ _⟩
  · rw [hok] at h2
    cases h2
end Go.Proofs.Ytpgldodnnlcceaa
namespace Go.Proofs.Ytpgldodnnlcceaa
open Go.RowKit

set_option maxRecDepth 100000 in
set_option maxHeartbeats 8000000 in
theorem lawTabMergeAt_walk (a : Option Addr) (n cap : Nat) (zs : List Int) (w : World) (h : Byt w.heap.size w a n cap zs) :
    Calls Try.prog 4 #[.slice a n cap] w fun e w' => e = .returned (.bool true) ∧ Below w.heap.size w w' := by
  have HY : Hid (Byt w.heap.size w a n cap zs) := h
  have hc := h.2.1
  have hm := h.2.2.1
  unfold maxLen at hm
  clear h
  by_cases hn : 1048576 < n
  · have hd : decide ((1048576 : Int) < (n : Int)) = true := by simp; omega
    go_enter Try.func4, Try.ntmps4
    go_wp2_with fail
    go_ret
    exact ⟨rfl, Below.refl _ _⟩
  have hd : decide ((1048576 : Int) < (n : Int)) = false := by simp; omega
  go_enter Try.func4, Try.ntmps4
  go_upto_region 4 with (go_at_call 13; refine (drawTableMerge_any w.heap.size a n cap zs _ HY.out (Nat.le_refl _)).mono ?_; rintro e w1 ⟨⟨R, C, a', n', c', l, r, c, d, g, rfl, hT1, hS1, hrr, hcc, hdd, hgg⟩, hb1⟩)
  have H0 := Hold.first hb1 hT1 #[.int .i64 R, .int .i64 C, .slice a' n' c'] 25
  generalize (w1.alloc (.cells #[.int .i64 R, .int .i64 C, .slice a' n' c'] 25)) = v0 at H0 ⊢
  obtain ⟨Tb, hTe⟩ : ∃ T, w1.heap.size = T := ⟨_, rfl⟩
  rw [hTe] at H0 ⊢
  have HH : Hid (Hold w [(Tb, #[.int .i64 R, .int .i64 C, .slice a' n' c'], 25)] [(a', n', c', l)] v0) := H0
  obtain ⟨hRb, hCb, hLb, hXb⟩ := hS1
  have HLX : Hid (∀ z ∈ l, z.2.2.2.2.length ≤ 25) := hXb
  clear hT1 hb1 H0 hTe hXb
  obtain ⟨can, HC⟩ : ∃ o, Hid (mergeB R C l r c d g = o) := ⟨_, rfl⟩
  cases can
  · go_upto_region 5 with (first | (refine wpList_load_row rfl 25 (.tmp 3) rfl Tb rfl 25 #[.int .i64 R, .int .i64 C, .slice a' n' c'] (0, 0) _ (HH.out.row 0 rfl) Try.underlying25 rfl tab_info ?_) | (go_at_call 14; refine (specTableMerge_any R C r c d g a' n' c' l _ (HH.out.tab 0 rfl)).mono ?_; intro e w1' hr; obtain ⟨hr1, hb⟩ := hr; obtain ⟨Wa, Wn, Wc, rfl, hT⟩ := tabRes_f HC.out hr1; clear hr1))
    have H0 := HH.out.res hb hT #[.int .i64 0, .int .i64 0, .slice Wa Wn Wc] 25
    generalize (w1'.alloc (.cells #[.int .i64 0, .int .i64 0, .slice Wa Wn Wc] 25)) = v1 at H0 ⊢
    obtain ⟨Wb, hTe⟩ : ∃ T, w1'.heap.size = T := ⟨_, rfl⟩
    rw [hTe] at H0 ⊢
    replace HH : Hid (Hold w [(Wb, #[.int .i64 0, .int .i64 0, .slice Wa Wn Wc], 25), (Tb, #[.int .i64 R, .int .i64 C, .slice a' n' c'], 25)] [(Wa, Wn, Wc, []), (a', n', c', l)] v1) := H0
    clear hT hb H0 hTe
    go_upto_region 6 with (first | (refine wpList_load_row rfl 25 (.tmp 8) rfl Wb rfl 25 #[.int .i64 0, .int .i64 0, .slice Wa Wn Wc] (0, 0) _ (HH.out.row 0 rfl) Try.underlying25 rfl tab_info ?_) | (refine wpList_load_row rfl 25 (.tmp 3) rfl Tb rfl 25 #[.int .i64 R, .int .i64 C, .slice a' n' c'] (0, 0) _ (HH.out.row 1 rfl) Try.underlying25 rfl tab_info ?_) | (go_at_call 15; refine (implTableMerge_any R C r c d g a' n' c' l _ (HH.out.tab 1 rfl)).mono ?_; intro e w2' hr; obtain ⟨hr1, hb⟩ := hr; obtain ⟨Xa, Xn, Xc, rfl, hT⟩ := tabRes_f HC.out hr1; clear hr1))
    have H0 := HH.out.res hb hT #[.int .i64 0, .int .i64 0, .slice Xa Xn Xc] 25
    generalize (w2'.alloc (.cells #[.int .i64 0, .int .i64 0, .slice Xa Xn Xc] 25)) = v2 at H0 ⊢
    obtain ⟨Xb, hTe⟩ : ∃ T, w2'.heap.size = T := ⟨_, rfl⟩
    rw [hTe] at H0 ⊢
    replace HH : Hid (Hold w [(Xb, #[.int .i64 0, .int .i64 0, .slice Xa Xn Xc], 25), (Wb, #[.int .i64 0, .int .i64 0, .slice Wa Wn Wc], 25), (Tb, #[.int .i64 R, .int .i64 C, .slice a' n' c'], 25)] [(Xa, Xn, Xc, []), (Wa, Wn, Wc, []), (a', n', c', l)] v2) := H0
    clear hT hb H0 hTe
    go_wp2_with (first | (refine wpList_load_rowG (by rfl) 25 (.tmp 10) rfl Xb rfl 25 #[.int .i64 0, .int .i64 0, .slice Xa Xn Xc] (0, 0) _ (HH.out.row 0 rfl) Try.underlying25 rfl tab_info ?_) | (refine wpList_load_rowG (by rfl) 25 (.tmp 8) rfl Wb rfl 25 #[.int .i64 0, .int .i64 0, .slice Wa Wn Wc] (0, 0) _ (HH.out.row 1 rfl) Try.underlying25 rfl tab_info ?_) | (refine wpList_load_rowG (by rfl) 25 (.tmp 3) rfl Tb rfl 25 #[.int .i64 R, .int .i64 C, .slice a' n' c'] (0, 0) _ (HH.out.row 2 rfl) Try.underlying25 rfl tab_info ?_) | (go_at_call 8; refine (lmTable_same (0) (0) Xa Xn Xc [] Wa Wn Wc _ (HH.out.tab 0 rfl) (HH.out.tab 1 rfl)).mono ?_; rintro e uu ⟨rfl, hb⟩; replace HH : Hid (Hold w [(Xb, #[.int .i64 0, .int .i64 0, .slice Xa Xn Xc], 25), (Wb, #[.int .i64 0, .int .i64 0, .slice Wa Wn Wc], 25), (Tb, #[.int .i64 R, .int .i64 C, .slice a' n' c'], 25)] [(Xa, Xn, Xc, []), (Wa, Wn, Wc, []), (a', n', c', l)] uu) := HH.out.go hb; clear hb))
    go_ret
    exact ⟨rfl, HH.out.1⟩
  · obtain ⟨r, c, d, g, rfl, rfl, rfl, rfl, HOK, hd1, hg1, hrR, hcC, HAL, hmn, HTX⟩ := merge_data HC.out
    replace HOK : Hid (okB R C l = true) := HOK
    replace HAL : Hid (l.all (fun z => !cutB r c d g z) = true) := HAL
    replace HTX : Hid (textB (mTx r c d g l) = true) := HTX
    obtain ⟨hR1, hC1, -, -⟩ := gridP_of_okB HOK.out
    obtain ⟨R, rfl⟩ : ∃ z : Nat, R = z := ⟨R.toNat, by omega⟩
    obtain ⟨C, rfl⟩ : ∃ z : Nat, C = z := ⟨C.toNat, by omega⟩
    go_upto_region 5 with (first | (refine wpList_load_row rfl 25 (.tmp 3) rfl Tb rfl 25 #[.int .i64 R, .int .i64 C, .slice a' n' c'] (0, 0) _ (HH.out.row 0 rfl) Try.underlying25 rfl tab_info ?_) | (go_at_call 14; refine (specTableMerge_any R C r c d g a' n' c' l _ (HH.out.tab 0 rfl)).mono ?_; intro e w1' hr; obtain ⟨hr1, hb⟩ := hr; obtain ⟨Wa, Wn, Wc, rfl, hT⟩ := tabRes_t HC.out hr1; clear hr1))
    have H0 := HH.out.res hb hT #[.int .i64 R, .int .i64 C, .slice Wa Wn Wc] 25
    generalize (w1'.alloc (.cells #[.int .i64 R, .int .i64 C, .slice Wa Wn Wc] 25)) = v1 at H0 ⊢
    obtain ⟨Wb, hTe⟩ : ∃ T, w1'.heap.size = T := ⟨_, rfl⟩
    rw [hTe] at H0 ⊢
    replace HH : Hid (Hold w [(Wb, #[.int .i64 R, .int .i64 C, .slice Wa Wn Wc], 25), (Tb, #[.int .i64 R, .int .i64 C, .slice a' n' c'], 25)] [(Wa, Wn, Wc, (mergeL l r c d g)), (a', n', c', l)] v1) := H0
    clear hT hb H0 hTe
    go_upto_region 6 with (first | (refine wpList_load_row rfl 25 (.tmp 8) rfl Wb rfl 25 #[.int .i64 R, .int .i64 C, .slice Wa Wn Wc] (0, 0) _ (HH.out.row 0 rfl) Try.underlying25 rfl tab_info ?_) | (refine wpList_load_row rfl 25 (.tmp 3) rfl Tb rfl 25 #[.int .i64 R, .int .i64 C, .slice a' n' c'] (0, 0) _ (HH.out.row 1 rfl) Try.underlying25 rfl tab_info ?_) | (go_at_call 15; refine (implTableMerge_any R C r c d g a' n' c' l _ (HH.out.tab 1 rfl)).mono ?_; intro e w2' hr; obtain ⟨hr1, hb⟩ := hr; obtain ⟨Xa, Xn, Xc, rfl, hT⟩ := tabRes_t HC.out hr1; clear hr1))
    have H0 := HH.out.res hb hT #[.int .i64 R, .int .i64 C, .slice Xa Xn Xc] 25
    generalize (w2'.alloc (.cells #[.int .i64 R, .int .i64 C, .slice Xa Xn Xc] 25)) = v2 at H0 ⊢
    obtain ⟨Xb, hTe⟩ : ∃ T, w2'.heap.size = T := ⟨_, rfl⟩
    rw [hTe] at H0 ⊢
    replace HH : Hid (Hold w [(Xb, #[.int .i64 R, .int .i64 C, .slice Xa Xn Xc], 25), (Wb, #[.int .i64 R, .int .i64 C, .slice Wa Wn Wc], 25), (Tb, #[.int .i64 R, .int .i64 C, .slice a' n' c'], 25)] [(Xa, Xn, Xc, (mergeL l r c d g)), (Wa, Wn, Wc, (mergeL l r c d g)), (a', n', c', l)] v2) := H0
    clear hT hb H0 hTe
    go_upto_region 8 with (first | (refine wpList_load_rowG (by rfl) 25 (.tmp 10) rfl Xb rfl 25 #[.int .i64 R, .int .i64 C, .slice Xa Xn Xc] (0, 0) _ (HH.out.row 0 rfl) Try.underlying25 rfl tab_info ?_) | (refine wpList_load_rowG (by rfl) 25 (.tmp 8) rfl Wb rfl 25 #[.int .i64 R, .int .i64 C, .slice Wa Wn Wc] (0, 0) _ (HH.out.row 1 rfl) Try.underlying25 rfl tab_info ?_) | (refine wpList_load_rowG (by rfl) 25 (.tmp 3) rfl Tb rfl 25 #[.int .i64 R, .int .i64 C, .slice a' n' c'] (0, 0) _ (HH.out.row 2 rfl) Try.underlying25 rfl tab_info ?_) | (go_at_call 8; refine (lmTable_same (R) (C) Xa Xn Xc (mergeL l r c d g) Wa Wn Wc _ (HH.out.tab 0 rfl) (HH.out.tab 1 rfl)).mono ?_; rintro e uu ⟨rfl, hb⟩; replace HH : Hid (Hold w [(Xb, #[.int .i64 R, .int .i64 C, .slice Xa Xn Xc], 25), (Wb, #[.int .i64 R, .int .i64 C, .slice Wa Wn Wc], 25), (Tb, #[.int .i64 R, .int .i64 C, .slice a' n' c'], 25)] [(Xa, Xn, Xc, (mergeL l r c d g)), (Wa, Wn, Wc, (mergeL l r c d g)), (a', n', c', l)] uu) := HH.out.go hb; clear hb))
    obtain ⟨k, hk, HAT, EK⟩ := merge_at HC.out hd1 hg1
    have hdg := two_squares HOK.out HAL.out hd1 hg1 hrR hcC hmn
    have HMS := merge_split HC.out hd1 hg1 hdg hk EK
    have HSP : Hid (splitB R C (mergeL l r c d g) k = true) := HMS.1
    have HAG : Hid (mergeB R C (mergeL l r c d g) r c d g = false) := merge_again HC.out
    obtain ⟨pa, hpa⟩ : ∃ p : Nat, (r : Int) + (d : Int) - 1 = p := ⟨r + d - 1, by omega⟩
    obtain ⟨pb, hpb⟩ : ∃ p : Nat, (c : Int) + (g : Int) - 1 = p := ⟨c + g - 1, by omega⟩
    have HPA : Hid ((r : Int) + (d : Int) - 1 = (pa : Int)) := hpa
    have HPB : Hid ((c : Int) + (g : Int) - 1 = (pb : Int)) := hpb
    have HAP : Hid (atN R C (mergeL l r c d g) pa pb = (k : Int)) := (merge_in HC.out hd1 hg1 pa pb (by unfold inR; omega)).trans HAT
    obtain ⟨G, HG⟩ : ∃ G : Nat, Hid (d * g = G) := ⟨_, rfl⟩
    have hGb : G ≤ 25 := by
      have h1 := HG.out
      have h2 : d * g ≤ 5 * 5 := Nat.mul_le_mul (by omega) (by omega)
      omega
    have HGI : Hid ((d : Int) * (g : Int) = (G : Int)) := by
      show (d : Int) * (g : Int) = (G : Int)
      rw [← HG.out, Int.natCast_mul]
    have HLN : Hid ((splitL (mergeL l r c d g) k).length + 1 = (mergeL l r c d g).length + G) := by
      show (splitL (mergeL l r c d g) k).length + 1 = (mergeL l r c d g).length + G
      rw [← HG.out]
      exact HMS.2
    have hML : (mergeL l r c d g).length ≤ 25 := (ok_small (ok_mergeN HC.out)).1
    clear hpa hpb HMS HAT EK
    go_upto_region 9 with (first | (refine wpList_load_row rfl 25 (.tmp 10) rfl Xb rfl 25 #[.int .i64 R, .int .i64 C, .slice Xa Xn Xc] (0, 0) _ (HH.out.row 0 rfl) Try.underlying25 rfl tab_info ?_) | (refine wpList_load_row rfl 25 (.tmp 8) rfl Wb rfl 25 #[.int .i64 R, .int .i64 C, .slice Wa Wn Wc] (0, 0) _ (HH.out.row 1 rfl) Try.underlying25 rfl tab_info ?_) | (refine wpList_load_row rfl 25 (.tmp 3) rfl Tb rfl 25 #[.int .i64 R, .int .i64 C, .slice a' n' c'] (0, 0) _ (HH.out.row 2 rfl) Try.underlying25 rfl tab_info ?_) | (go_at_call 15; refine (implTableMerge_any R C r c d g Xa Xn Xc (mergeL l r c d g) _ (HH.out.tab 0 rfl)).mono ?_; intro e w3' hr; obtain ⟨hr1, hb⟩ := hr; obtain ⟨Va, Vn, Vc, rfl, hT⟩ := tabRes_f HAG.out hr1; clear hr1))
    have H0 := HH.out.res hb hT #[.int .i64 0, .int .i64 0, .slice Va Vn Vc] 25
    generalize (w3'.alloc (.cells #[.int .i64 0, .int .i64 0, .slice Va Vn Vc] 25)) = v3 at H0 ⊢
    obtain ⟨Vb, hTe⟩ : ∃ T, w3'.heap.size = T := ⟨_, rfl⟩
    rw [hTe] at H0 ⊢
    replace HH : Hid (Hold w [(Vb, #[.int .i64 0, .int .i64 0, .slice Va Vn Vc], 25), (Xb, #[.int .i64 R, .int .i64 C, .slice Xa Xn Xc], 25), (Wb, #[.int .i64 R, .int .i64 C, .slice Wa Wn Wc], 25), (Tb, #[.int .i64 R, .int .i64 C, .slice a' n' c'], 25)] [(Va, Vn, Vc, []), (Xa, Xn, Xc, (mergeL l r c d g)), (Wa, Wn, Wc, (mergeL l r c d g)), (a', n', c', l)] v3) := H0
    clear hT hb H0 hTe
    go_upto_region 9 with fail
    go_cut [14, 15] (fun yv bv wx => ∃ (Yb : Nat) (Ya : Option Addr) (Yn Yc : Nat), yv = .pointer (some ⟨Yb, 0, none⟩) ∧ bv = .bool true ∧ Hold w [(Yb, #[.int .i64 R, .int .i64 C, .slice Ya Yn Yc], 25), (Vb, #[.int .i64 0, .int .i64 0, .slice Va Vn Vc], 25), (Xb, #[.int .i64 R, .int .i64 C, .slice Xa Xn Xc], 25), (Wb, #[.int .i64 R, .int .i64 C, .slice Wa Wn Wc], 25), (Tb, #[.int .i64 R, .int .i64 C, .slice a' n' c'], 25)] [(Ya, Yn, Yc, (splitL (mergeL l r c d g) k)), (Va, Vn, Vc, []), (Xa, Xn, Xc, (mergeL l r c d g)), (Wa, Wn, Wc, (mergeL l r c d g)), (a', n', c', l)] wx)
    case first =>
      refine wp_region_noPanic ?_
      refine wp_region_held_drew (S := fun w' => Hold w [(Vb, #[.int .i64 0, .int .i64 0, .slice Va Vn Vc], 25), (Xb, #[.int .i64 R, .int .i64 C, .slice Xa Xn Xc], 25), (Wb, #[.int .i64 R, .int .i64 C, .slice Wa Wn Wc], 25), (Tb, #[.int .i64 R, .int .i64 C, .slice a' n' c'], 25)] [(Va, Vn, Vc, []), (Xa, Xn, Xc, (mergeL l r c d g)), (Wa, Wn, Wc, (mergeL l r c d g)), (a', n', c', l)] w') (by kernel_rfl) HH.out.drew (fun hHeld => ?_)
      refine take_at 0 76 (.agg #[.int .i64 R, .int .i64 C, .slice Xa Xn Xc]) rfl rfl (by kernel_rfl) (by kernel_rfl) (by kernel_rfl) (fun _ _ _ h => h) (yieldsIf_load_row (by kernel_rfl) 25 (.tmp 10) rfl Xb rfl 25 #[.int .i64 R, .int .i64 C, .slice Xa Xn Xc] (0, 0) _ (fun w' h => h.row 1 rfl) Try.underlying25 rfl tab_info) hHeld ?_
      (try simp only [Act.put, List.setIfInBounds_toArray, List.set_cons_zero, List.set_cons_succ])
      refine take_at 1 77 (.agg #[.int .i64 R, .int .i64 C, .slice Xa Xn Xc]) rfl rfl (by kernel_rfl) (by kernel_rfl) (by kernel_rfl) (fun _ _ _ h => h) (yieldsIf_load_row (by kernel_rfl) 25 (.tmp 10) rfl Xb rfl 25 #[.int .i64 R, .int .i64 C, .slice Xa Xn Xc] (0, 0) _ (fun w' h => h.row 1 rfl) Try.underlying25 rfl tab_info) hHeld ?_
      (try simp only [Act.put, List.setIfInBounds_toArray, List.set_cons_zero, List.set_cons_succ])
      refine take_at 2 78 (.int .i64 r) rfl rfl (by kernel_rfl) (by kernel_rfl) (by kernel_rfl) (fun _ _ _ h => h) (Or.inl ⟨by kernel_rfl, fun w' hS' => by go_simp⟩) hHeld ?_
      (try simp only [Act.put, List.setIfInBounds_toArray, List.set_cons_zero, List.set_cons_succ])
      refine take_at 3 79 (.int .i64 d) rfl rfl (by kernel_rfl) (by kernel_rfl) (by kernel_rfl) (fun _ _ _ h => h) (Or.inl ⟨by kernel_rfl, fun w' hS' => by go_simp⟩) hHeld ?_
      (try simp only [Act.put, List.setIfInBounds_toArray, List.set_cons_zero, List.set_cons_succ])
      refine take_at 4 80 (.int .i64 ((r : Int) + (d : Int))) rfl rfl (by kernel_rfl) (by kernel_rfl) (by kernel_rfl) (fun _ _ _ h => h) (Or.inl ⟨by kernel_rfl, fun w' hS' => by go_simp; rw [IntKind.wrap_i64]; omega⟩) hHeld ?_
      (try simp only [Act.put, List.setIfInBounds_toArray, List.set_cons_zero, List.set_cons_succ])
      refine take_at 5 81 (.int .i64 (pa : Int)) rfl rfl (by kernel_rfl) (by kernel_rfl) (by kernel_rfl) (fun _ _ _ h => h) (Or.inl ⟨by kernel_rfl, fun w' hS' => by go_simp; rw [HPA.out, IntKind.wrap_i64]; have := HPA.out; omega⟩) hHeld ?_
      (try simp only [Act.put, List.setIfInBounds_toArray, List.set_cons_zero, List.set_cons_succ])
      refine take_at 6 82 (.int .i64 c) rfl rfl (by kernel_rfl) (by kernel_rfl) (by kernel_rfl) (fun _ _ _ h => h) (Or.inl ⟨by kernel_rfl, fun w' hS' => by go_simp⟩) hHeld ?_
      (try simp only [Act.put, List.setIfInBounds_toArray, List.set_cons_zero, List.set_cons_succ])
      refine take_at 7 83 (.int .i64 g) rfl rfl (by kernel_rfl) (by kernel_rfl) (by kernel_rfl) (fun _ _ _ h => h) (Or.inl ⟨by kernel_rfl, fun w' hS' => by go_simp⟩) hHeld ?_
      (try simp only [Act.put, List.setIfInBounds_toArray, List.set_cons_zero, List.set_cons_succ])
      refine take_at 8 84 (.int .i64 ((c : Int) + (g : Int))) rfl rfl (by kernel_rfl) (by kernel_rfl) (by kernel_rfl) (fun _ _ _ h => h) (Or.inl ⟨by kernel_rfl, fun w' hS' => by go_simp; rw [IntKind.wrap_i64]; omega⟩) hHeld ?_
      (try simp only [Act.put, List.setIfInBounds_toArray, List.set_cons_zero, List.set_cons_succ])
      refine take_at 9 85 (.int .i64 (pb : Int)) rfl rfl (by kernel_rfl) (by kernel_rfl) (by kernel_rfl) (fun _ _ _ h => h) (Or.inl ⟨by kernel_rfl, fun w' hS' => by go_simp; rw [HPB.out, IntKind.wrap_i64]; have := HPB.out; omega⟩) hHeld ?_
      (try simp only [Act.put, List.setIfInBounds_toArray, List.set_cons_zero, List.set_cons_succ])
      generalize v3.drew = u0 at hHeld ⊢
      refine wpAnyH_ready (rs := [10, 15]) (by kernel_rfl) (by simp) ?_
      refine AllReadyH.cons rfl (fun K hK => ?_) (AllReadyH.cons rfl (fun K hK => ?_) AllReadyH.nil)
      · go_simp
        go_at_call 17
        refine (implTableAt_is HAP.out (hHeld.tab 1 rfl)).mono ?_
        rintro e u1 ⟨rfl, hb⟩
        go_wp2_with fail
        refine hK.out _ _ (hHeld.go hb) (fun hHeld => ?_)
        clear hK K hb
        (try simp only [Act.put, List.setIfInBounds_toArray, List.set_cons_zero, List.set_cons_succ])
        refine wpAnyH_ready (rs := [11, 15]) (by kernel_rfl) (by simp) ?_
        refine AllReadyH.cons rfl (fun K hK => ?_) (AllReadyH.cons rfl (fun K hK => ?_) AllReadyH.nil)
        · go_simp
          go_at_call 16
          refine (implTableSplit_any R C (k : Int) Xa Xn Xc (mergeL l r c d g) _ (hHeld.tab 1 rfl)).mono ?_
          intro e u2 hr
          obtain ⟨hr1, hb⟩ := hr
          obtain ⟨Ya, Yn, Yc, rfl, hT⟩ := tabRes_t HSP.out hr1
          clear hr1
          have HB1 := (hHeld.go hb).behind hT #[.int .i64 0, .int .i64 0, .slice none 0 0] #[.int .i64 R, .int .i64 C, .slice Ya Yn Yc] 25
          clear hT
          go_wp2_with fail
          refine hK.out _ _ (hHeld.go hb) (fun hHeld => ?_)
          clear hK K
          (try simp only [Act.put, List.setIfInBounds_toArray, List.set_cons_zero, List.set_cons_succ])
          refine take_at 12 75 (.tuple #[.agg #[.int .i64 R, .int .i64 C, .slice Ya Yn Yc], .bool true]) rfl rfl (by kernel_rfl) (by kernel_rfl) (by kernel_rfl) (fun _ _ _ h => h) (Or.inl ⟨by kernel_rfl, fun w' hS' => by go_simp⟩) hHeld ?_
          (try simp only [Act.put, List.setIfInBounds_toArray, List.set_cons_zero, List.set_cons_succ])
          refine take_at 13 88 (.agg #[.int .i64 R, .int .i64 C, .slice Ya Yn Yc]) rfl rfl (by kernel_rfl) (by kernel_rfl) (by kernel_rfl) (fun _ _ _ h => h) (Or.inl ⟨by kernel_rfl, fun w' hS' => by go_simp⟩) hHeld ?_
          (try simp only [Act.put, List.setIfInBounds_toArray, List.set_cons_zero, List.set_cons_succ])
          refine take_at 14 89 (.bool true) rfl rfl (by kernel_rfl) (by kernel_rfl) (by kernel_rfl) (fun _ _ _ h => h) (Or.inl ⟨by kernel_rfl, fun w' hS' => by go_simp⟩) hHeld ?_
          (try simp only [Act.put, List.setIfInBounds_toArray, List.set_cons_zero, List.set_cons_succ])
          refine wpAnyH_ready (rs := [15]) (by kernel_rfl) (by simp) ?_
          refine AllReadyH.cons rfl (fun K hK => ?_) AllReadyH.nil
          go_simp
          refine hK.out _ _ (hHeld.go ((Below.refl _ _).alloc (Nat.le_refl _) _)) (fun hHeld => ?_)
          clear hK K
          (try simp only [Act.put, List.setIfInBounds_toArray, List.set_cons_zero, List.set_cons_succ])
          refine wpAnyH_ready (rs := [16]) (by kernel_rfl) (by simp) ?_
          refine AllReadyH.cons rfl (fun K hK => ?_) AllReadyH.nil
          rw [if_pos (by kernel_rfl)]
          refine wp_store_row 25 (.tmp 14) (.tmp 88) rfl u2.heap.size #[.int .i64 R, .int .i64 C, .slice Ya Yn Yc] rfl rfl 25 _ (rowAt_new u2 #[.int .i64 0, .int .i64 0, .slice none 0 0] 25) tab_info rfl (cells3_one _ _ _ _ _) ?_
          have HF : Hid (Hold w [(u2.heap.size, #[.int .i64 R, .int .i64 C, .slice Ya Yn Yc], 25), (Vb, #[.int .i64 0, .int .i64 0, .slice Va Vn Vc], 25), (Xb, #[.int .i64 R, .int .i64 C, .slice Xa Xn Xc], 25), (Wb, #[.int .i64 R, .int .i64 C, .slice Wa Wn Wc], 25), (Tb, #[.int .i64 R, .int .i64 C, .slice a' n' c'], 25)] [(Ya, Yn, Yc, (splitL (mergeL l r c d g) k)), (Va, Vn, Vc, []), (Xa, Xn, Xc, (mergeL l r c d g)), (Wa, Wn, Wc, (mergeL l r c d g)), (a', n', c', l)] ((u2.alloc (.cells #[.int .i64 0, .int .i64 0, .slice none 0 0] 25)).setRow u2.heap.size #[.int .i64 R, .int .i64 C, .slice Ya Yn Yc])) := HB1
          refine hK.out _ _ ⟨HF.out.1, fun r hr => HF.out.2.1 r (List.mem_cons_of_mem _ hr), fun t ht => HF.out.2.2 t (List.mem_cons_of_mem _ ht)⟩ (fun hHeld => ?_)
          clear hK K
          simp only [Act.put]
          refine take_at 17 15 (.bool true) rfl rfl (by kernel_rfl) (by kernel_rfl) (by kernel_rfl) (fun _ _ _ h => h) (Or.inl ⟨by kernel_rfl, fun w' hS' => by go_simp⟩) hHeld ?_
          (try simp only [Act.put, List.setIfInBounds_toArray])
          refine wpAnyH_done (by kernel_rfl) ?_ _
          refine NoPanic.normal ?_
          go_wp2_with fail
          go_meet
          exact ⟨_, Ya, Yn, Yc, rfl, rfl, HF.out⟩
        · go_simp
          have HA0 := hHeld
          refine hK.out _ _ (hHeld.go ((Below.refl _ _).alloc (Nat.le_refl _) _)) (fun hHeld => ?_)
          clear hK K
          (try simp only [Act.put, List.setIfInBounds_toArray, List.set_cons_zero, List.set_cons_succ])
          refine wpAnyH_ready (rs := [11]) (by kernel_rfl) (by simp) ?_
          refine AllReadyH.cons rfl (fun K hK => ?_) AllReadyH.nil
          go_simp
          go_at_call 16
          refine (implTableSplit_any R C (k : Int) Xa Xn Xc (mergeL l r c d g) _ (hHeld.tab 1 rfl)).mono ?_
          intro e u2 hr
          obtain ⟨hr1, hb⟩ := hr
          obtain ⟨Ya, Yn, Yc, os, rfl, hO⟩ := tabRes_ot HSP.out hr1
          clear hr1
          have HB1 := HA0.ahead (cs := #[.int .i64 R, .int .i64 C, .slice Ya Yn Yc]) hb hO
          have HR1 := rowOf_ahead hb
          go_wp2_with fail
          refine hK.out _ _ (hHeld.go hb) (fun hHeld => ?_)
          clear hK K
          (try simp only [Act.put, List.setIfInBounds_toArray, List.set_cons_zero, List.set_cons_succ])
          refine take_at 12 75 (.tuple #[.agg #[.int .i64 R, .int .i64 C, .slice Ya Yn Yc], .bool true]) rfl rfl (by kernel_rfl) (by kernel_rfl) (by kernel_rfl) (fun _ _ _ h => h) (Or.inl ⟨by kernel_rfl, fun w' hS' => by go_simp⟩) hHeld ?_
          (try simp only [Act.put, List.setIfInBounds_toArray, List.set_cons_zero, List.set_cons_succ])
          refine take_at 13 88 (.agg #[.int .i64 R, .int .i64 C, .slice Ya Yn Yc]) rfl rfl (by kernel_rfl) (by kernel_rfl) (by kernel_rfl) (fun _ _ _ h => h) (Or.inl ⟨by kernel_rfl, fun w' hS' => by go_simp⟩) hHeld ?_
          (try simp only [Act.put, List.setIfInBounds_toArray, List.set_cons_zero, List.set_cons_succ])
          refine take_at 14 89 (.bool true) rfl rfl (by kernel_rfl) (by kernel_rfl) (by kernel_rfl) (fun _ _ _ h => h) (Or.inl ⟨by kernel_rfl, fun w' hS' => by go_simp⟩) hHeld ?_
          (try simp only [Act.put, List.setIfInBounds_toArray, List.set_cons_zero, List.set_cons_succ])
          refine wpAnyH_ready (rs := [16]) (by kernel_rfl) (by simp) ?_
          refine AllReadyH.cons rfl (fun K hK => ?_) AllReadyH.nil
          rw [if_pos (by kernel_rfl)]
          refine wp_store_row 25 (.tmp 14) (.tmp 88) rfl u1.heap.size #[.int .i64 R, .int .i64 C, .slice Ya Yn Yc] rfl rfl 25 _ HR1 tab_info rfl (cells3_one _ _ _ _ _) ?_
          have HF : Hid (Hold w [(u1.heap.size, #[.int .i64 R, .int .i64 C, .slice Ya Yn Yc], 25), (Vb, #[.int .i64 0, .int .i64 0, .slice Va Vn Vc], 25), (Xb, #[.int .i64 R, .int .i64 C, .slice Xa Xn Xc], 25), (Wb, #[.int .i64 R, .int .i64 C, .slice Wa Wn Wc], 25), (Tb, #[.int .i64 R, .int .i64 C, .slice a' n' c'], 25)] [(Ya, Yn, Yc, (splitL (mergeL l r c d g) k)), (Va, Vn, Vc, []), (Xa, Xn, Xc, (mergeL l r c d g)), (Wa, Wn, Wc, (mergeL l r c d g)), (a', n', c', l)] (u2.setRow u1.heap.size #[.int .i64 R, .int .i64 C, .slice Ya Yn Yc])) := HB1
          refine hK.out _ _ ⟨HF.out.1, fun r hr => HF.out.2.1 r (List.mem_cons_of_mem _ hr), fun t ht => HF.out.2.2 t (List.mem_cons_of_mem _ ht)⟩ (fun hHeld => ?_)
          clear hK K
          simp only [Act.put]
          refine take_at 17 15 (.bool true) rfl rfl (by kernel_rfl) (by kernel_rfl) (by kernel_rfl) (fun _ _ _ h => h) (Or.inl ⟨by kernel_rfl, fun w' hS' => by go_simp⟩) hHeld ?_
          (try simp only [Act.put, List.setIfInBounds_toArray])
          refine wpAnyH_done (by kernel_rfl) ?_ _
          refine NoPanic.normal ?_
          go_wp2_with fail
          go_meet
          exact ⟨_, Ya, Yn, Yc, rfl, rfl, HF.out⟩
      · go_simp
        have HA0 := hHeld
        refine hK.out _ _ (hHeld.go ((Below.refl _ _).alloc (Nat.le_refl _) _)) (fun hHeld => ?_)
        clear hK K
        (try simp only [Act.put, List.setIfInBounds_toArray, List.set_cons_zero, List.set_cons_succ])
        refine wpAnyH_ready (rs := [10]) (by kernel_rfl) (by simp) ?_
        refine AllReadyH.cons rfl (fun K hK => ?_) AllReadyH.nil
        go_simp
        go_at_call 17
        refine (implTableAt_is HAP.out (hHeld.tab 1 rfl)).mono ?_
        rintro e u1 ⟨rfl, hb⟩
        have hb0 := hb
        go_wp2_with fail
        refine hK.out _ _ (hHeld.go hb) (fun hHeld => ?_)
        clear hK K
        (try simp only [Act.put, List.setIfInBounds_toArray, List.set_cons_zero, List.set_cons_succ])
        refine wpAnyH_ready (rs := [11]) (by kernel_rfl) (by simp) ?_
        refine AllReadyH.cons rfl (fun K hK => ?_) AllReadyH.nil
        go_simp
        go_at_call 16
        refine (implTableSplit_any R C (k : Int) Xa Xn Xc (mergeL l r c d g) _ (hHeld.tab 1 rfl)).mono ?_
        intro e u2 hr
        obtain ⟨hr1, hb⟩ := hr
        obtain ⟨Ya, Yn, Yc, os, rfl, hO⟩ := tabRes_ot HSP.out hr1
        clear hr1
        have hbb := hb0.trans (hb.mono hb0.size)
        have hO2 := hO.less hb0.size
        have HB1 := HA0.ahead (cs := #[.int .i64 R, .int .i64 C, .slice Ya Yn Yc]) hbb hO2
        have HR1 := rowOf_ahead hbb
        go_wp2_with fail
        refine hK.out _ _ (hHeld.go hb) (fun hHeld => ?_)
        clear hK K
        (try simp only [Act.put, List.setIfInBounds_toArray, List.set_cons_zero, List.set_cons_succ])
        refine take_at 12 75 (.tuple #[.agg #[.int .i64 R, .int .i64 C, .slice Ya Yn Yc], .bool true]) rfl rfl (by kernel_rfl) (by kernel_rfl) (by kernel_rfl) (fun _ _ _ h => h) (Or.inl ⟨by kernel_rfl, fun w' hS' => by go_simp⟩) hHeld ?_
        (try simp only [Act.put, List.setIfInBounds_toArray, List.set_cons_zero, List.set_cons_succ])
        refine take_at 13 88 (.agg #[.int .i64 R, .int .i64 C, .slice Ya Yn Yc]) rfl rfl (by kernel_rfl) (by kernel_rfl) (by kernel_rfl) (fun _ _ _ h => h) (Or.inl ⟨by kernel_rfl, fun w' hS' => by go_simp⟩) hHeld ?_
        (try simp only [Act.put, List.setIfInBounds_toArray, List.set_cons_zero, List.set_cons_succ])
        refine take_at 14 89 (.bool true) rfl rfl (by kernel_rfl) (by kernel_rfl) (by kernel_rfl) (fun _ _ _ h => h) (Or.inl ⟨by kernel_rfl, fun w' hS' => by go_simp⟩) hHeld ?_
        (try simp only [Act.put, List.setIfInBounds_toArray, List.set_cons_zero, List.set_cons_succ])
        refine wpAnyH_ready (rs := [16]) (by kernel_rfl) (by simp) ?_
        refine AllReadyH.cons rfl (fun K hK => ?_) AllReadyH.nil
        rw [if_pos (by kernel_rfl)]
        refine wp_store_row 25 (.tmp 14) (.tmp 88) rfl u0.heap.size #[.int .i64 R, .int .i64 C, .slice Ya Yn Yc] rfl rfl 25 _ HR1 tab_info rfl (cells3_one _ _ _ _ _) ?_
        have HF : Hid (Hold w [(u0.heap.size, #[.int .i64 R, .int .i64 C, .slice Ya Yn Yc], 25), (Vb, #[.int .i64 0, .int .i64 0, .slice Va Vn Vc], 25), (Xb, #[.int .i64 R, .int .i64 C, .slice Xa Xn Xc], 25), (Wb, #[.int .i64 R, .int .i64 C, .slice Wa Wn Wc], 25), (Tb, #[.int .i64 R, .int .i64 C, .slice a' n' c'], 25)] [(Ya, Yn, Yc, (splitL (mergeL l r c d g) k)), (Va, Vn, Vc, []), (Xa, Xn, Xc, (mergeL l r c d g)), (Wa, Wn, Wc, (mergeL l r c d g)), (a', n', c', l)] (u2.setRow u0.heap.size #[.int .i64 R, .int .i64 C, .slice Ya Yn Yc])) := HB1
        refine hK.out _ _ ⟨HF.out.1, fun r hr => HF.out.2.1 r (List.mem_cons_of_mem _ hr), fun t ht => HF.out.2.2 t (List.mem_cons_of_mem _ ht)⟩ (fun hHeld => ?_)
        clear hK K
        simp only [Act.put]
        refine take_at 17 15 (.bool true) rfl rfl (by kernel_rfl) (by kernel_rfl) (by kernel_rfl) (fun _ _ _ h => h) (Or.inl ⟨by kernel_rfl, fun w' hS' => by go_simp⟩) hHeld ?_
        (try simp only [Act.put, List.setIfInBounds_toArray])
        refine wpAnyH_done (by kernel_rfl) ?_ _
        refine NoPanic.normal ?_
        go_wp2_with fail
        go_meet
        exact ⟨_, Ya, Yn, Yc, rfl, rfl, HF.out⟩
    case rest =>
      clear HH
      obtain ⟨Yb, Ya, Yn, Yc, rfl, rfl, hh⟩ := hcut
      have HH : Hid (Hold w [(Yb, #[.int .i64 R, .int .i64 C, .slice Ya Yn Yc], 25), (Vb, #[.int .i64 0, .int .i64 0, .slice Va Vn Vc], 25), (Xb, #[.int .i64 R, .int .i64 C, .slice Xa Xn Xc], 25), (Wb, #[.int .i64 R, .int .i64 C, .slice Wa Wn Wc], 25), (Tb, #[.int .i64 R, .int .i64 C, .slice a' n' c'], 25)] [(Ya, Yn, Yc, (splitL (mergeL l r c d g) k)), (Va, Vn, Vc, []), (Xa, Xn, Xc, (mergeL l r c d g)), (Wa, Wn, Wc, (mergeL l r c d g)), (a', n', c', l)] wc) := hh
      have q2 : wc.cell? ⟨Yb, 2, none⟩ = some (.slice Ya Yn Yc) := (HH.out.row 0 rfl).cell 2
      have q3 : wc.cell? ⟨Xb, 2, none⟩ = some (.slice Xa Xn Xc) := (HH.out.row 2 rfl).cell 2
      have hXl := (HH.out.tab 2 rfl).1
      have hXn : Xn ≤ 25 := by omega
      have HYl : Hid (Yn = (splitL (mergeL l r c d g) k).length) := (HH.out.tab 0 rfl).1
      have hmul : (d : Int) * (g : Int) = (G : Int) := HGI.out
      have hln : (Yn : Int) = (Xn : Int) + (G : Int) - 1 := by
        have h1 := HYl.out
        have h2 := HLN.out
        omega
      clear hh hXl
      go_wp2_with fail
      go_ret
      exact ⟨rfl, HH.out.1⟩
end Go.Proofs.Ytpgldodnnlcceaa
