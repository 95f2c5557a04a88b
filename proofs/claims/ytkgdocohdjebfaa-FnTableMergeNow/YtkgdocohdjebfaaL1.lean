import Derived.Test.YtkgdocohdjebfaaBD2
import Derived.Test.YtkgdocohdjebfaaBD1
import Derived.Test.YtkgdocohdjebfaaBA3
import Derived.Test.YtkgdocohdjebfaaBS1
import Derived.Test.YtkgdocohdjebfaaBA1
import Derived.Deep.RegionHeld3
import Derived.Deep.AppendLies
import Derived.Laws.BytesArg
import Derived.Test.YtkgdocohdjebfaaBQ1
import Derived.Test.YtkgdocohdjebfaaBM1
import Derived.Test.YtkgdocohdjebfaaBA2
namespace Go.Proofs.Ytkgdocohdjebfaa
open Go.RowKit

theorem results_cell_tmp4 {fn : Func} {p u u' u2 u3 : Tmp} {ty : TypeId} (h : fn.results = #[.cell p ty, .tmp u, .tmp u', .tmp u2, .tmp u3]) (tmps : Array Value) (P : Program) (w : World) :
    (results fn tmps).run P w =
      ((asAddr (tmps.getD p undef)).run P w).andThen fun a w₁ => ((loadVar ty a).run P w₁).andThen fun v w₂ => .ok (.tuple #[v, tmps.getD u undef, tmps.getD u' undef, tmps.getD u2 undef, tmps.getD u3 undef]) w₂ := by
  simp only [results, h]
  simp [Sem.run_bind, Result.andThen]
set_option maxRecDepth 100000 in
set_option maxHeartbeats 8000000 in
theorem drawTableMerge_any (B : Nat) (a : Option Addr) (n cap : Nat) (zs : List Int) (w : World) (h : Byt B w a n cap zs) (hB : B ≤ w.heap.size) :
    Calls Try.prog 17 #[.slice a n cap] w fun e w' => (∃ (R C : Int) (a' : Option Addr) (n' c' : Nat) (l : List Cl) (r c d g : Int), e = .returned (.tuple #[.agg #[.int .i64 R, .int .i64 C, .slice a' n' c'], .int .i64 r, .int .i64 c, .int .i64 d, .int .i64 g]) ∧ Tab w' a' n' c' l ∧ TabSp R C l ∧ (-1 ≤ r ∧ r ≤ 10) ∧ (-1 ≤ c ∧ c ≤ 10) ∧ (0 ≤ d ∧ d ≤ 10) ∧ (0 ≤ g ∧ g ≤ 10)) ∧ Below w.heap.size w w' := by
  have HY : Hid (Byt B w a n cap zs) := h
  clear h
  go_enter Try.func17, Try.ntmps17
  go_upto_region 1 with fail
  have B0 : Below w.heap.size w (w.alloc (.cells #[.int .i64 0, .int .i64 0, .slice none 0 0] 25)) := (Below.refl _ _).alloc (Nat.le_refl _) _
  have Z0 : RowAt (w.alloc (.cells #[.int .i64 0, .int .i64 0, .slice none 0 0] 25)) w.heap.size #[.int .i64 0, .int .i64 0, .slice none 0 0] 25 := rowAt_new _ _ _
  have HY0 : Hid (Byt B (w.alloc (.cells #[.int .i64 0, .int .i64 0, .slice none 0 0] 25)) a n cap zs) := HY.out.belowC B0 hB
  generalize (w.alloc (.cells #[.int .i64 0, .int .i64 0, .slice none 0 0] 25)) = v0 at B0 Z0 HY0 ⊢
  have s0 := B0.size
  have zz := Z0.lt
  go_wp2_with fail
  refine (l6Open_any B a n cap zs _ HY0.out (by omega)).mono ?_
  rintro e w1 ⟨rfl, hr1, hb1⟩
  have hlt := hr1.lt
  have HR1 : Hid (Rd B w1 v0.heap.size 0) := hr1
  clear hr1
  go_wp2_with fail
  refine (l71Grid_any B _ 0 _ HR1.out (by omega)).mono ?_
  rintro e w2 ⟨R, C, a', n', c', l, q, rfl, ⟨os, hX2⟩, hS2, hr2, hq2, hf2⟩
  go_upto_region 3 with fail
  have H0 := HoldR.first (R := R) (C := C) B0 Z0 hb1 hlt hf2 hr2 hX2
  generalize (w2.alloc (.cells #[.int .i64 R, .int .i64 C, .slice a' n' c'] 25)) = v3 at H0 ⊢
  obtain ⟨Tb, hTe⟩ : ∃ T, w2.heap.size = T := ⟨_, rfl⟩
  rw [hTe] at H0 ⊢
  obtain ⟨g, hge⟩ : ∃ g, v0.heap.size = g := ⟨_, rfl⟩
  rw [hge] at H0 ⊢
  have HH : Hid (HoldR w B g q w.heap.size Tb R C a' n' c' l v3) := H0
  have HS : Hid (TabSp R C l) := hS2
  clear H0 hTe hge hS2 hr2 hX2 hf2 hb1 Z0 B0 HY HY0 HR1 s0 zz hlt
  go_wp2_with fail
  go_loopw [9] (fun nv wr => ∃ (k q : Nat) (R1 C1 : Int) (a1 : Option Addr) (n1 c1 : Nat) (l1 : List Cl), k ≤ 24 ∧ nv = .int .i64 k ∧ q ≤ 700 + 800 * k ∧ TabSp R1 C1 l1 ∧ HoldR w B g q w.heap.size Tb R1 C1 a1 n1 c1 l1 wr) (fun nv _ => 24 - (intOf nv).toNat)
  case atStart => exact ⟨0, q, R, C, a', n', c', l, by omega, rfl, by omega, HS.out, HH.out⟩
  case round =>
    clear HH HS
    obtain ⟨k, q1, R1, C1, a1, n1, c1, l1, hk, rfl, hq1, hS1, hb⟩ := hrel
    have HH : Hid (HoldR w B g q1 w.heap.size Tb R1 C1 a1 n1 c1 l1 wr) := hb
    have HS : Hid (TabSp R1 C1 l1) := hS1
    clear hb hS1
    by_cases hlk : k < 24
    · have hkb : (k : Int) < 24 := by omega
      go_wp2_with fail
      refine (pick_any B g q1 24 _ HH.out.rd (by omega) (by omega) (by omega)).mono ?_
      rintro e u3 ⟨x, rfl, hx0, hx1, hr3, hg3⟩
      replace HH : Hid (HoldR w B g (q1 + 1) w.heap.size Tb R1 C1 a1 n1 c1 l1 u3) := HH.out.pick hg3 hr3
      clear hr3 hg3
      by_cases hx : x = 0
      · subst hx
        go_upto_region 15 with fail
        refine wp_region_noPanic ?_
        refine wp_region_held_drew (S := fun w' => RowAt w' Tb #[.int .i64 R1, .int .i64 C1, .slice a1 n1 c1] 25) (by kernel_rfl) HH.out.trow (fun hHeld => ?_)
        refine take_at 0 79 (.agg #[.int .i64 R1, .int .i64 C1, .slice a1 n1 c1]) rfl rfl (by kernel_rfl) (by kernel_rfl) (by kernel_rfl) (fun _ _ _ h => h) (yieldsIf_load_row (by kernel_rfl) 25 (.tmp 8) rfl Tb rfl 25 #[.int .i64 R1, .int .i64 C1, .slice a1 n1 c1] (0, 0) _ (fun w' h => h) Try.underlying25 rfl tab_info) hHeld ?_
        (try simp only [Act.put, List.setIfInBounds_toArray, List.set_cons_zero, List.set_cons_succ])
        refine take_at 1 80 (.pointer (some ⟨g, 0, none⟩)) rfl rfl (by kernel_rfl) (by kernel_rfl) (by kernel_rfl) (fun _ _ _ h => h) (Or.inl ⟨by kernel_rfl, fun w' hS' => by go_simp⟩) hHeld ?_
        (try simp only [Act.put, List.setIfInBounds_toArray, List.set_cons_zero, List.set_cons_succ])
        refine take_at 4 83 (.pointer (some ⟨g, 0, none⟩)) rfl rfl (by kernel_rfl) (by kernel_rfl) (by kernel_rfl) (fun _ _ _ h => h) (Or.inl ⟨by kernel_rfl, fun w' hS' => by go_simp⟩) hHeld ?_
        (try simp only [Act.put, List.setIfInBounds_toArray, List.set_cons_zero, List.set_cons_succ])
        refine take_at 7 86 (.pointer (some ⟨g, 0, none⟩)) rfl rfl (by kernel_rfl) (by kernel_rfl) (by kernel_rfl) (fun _ _ _ h => h) (Or.inl ⟨by kernel_rfl, fun w' hS' => by go_simp⟩) hHeld ?_
        (try simp only [Act.put, List.setIfInBounds_toArray, List.set_cons_zero, List.set_cons_succ])
        refine take_at 9 88 (.pointer (some ⟨g, 0, none⟩)) rfl rfl (by kernel_rfl) (by kernel_rfl) (by kernel_rfl) (fun _ _ _ h => h) (Or.inl ⟨by kernel_rfl, fun w' hS' => by go_simp⟩) hHeld ?_
        (try simp only [Act.put, List.setIfInBounds_toArray, List.set_cons_zero, List.set_cons_succ])
        replace HH : Hid (HoldR w B g (q1 + 1) w.heap.size Tb R1 C1 a1 n1 c1 l1 u3.drew) := HH.out.go ((Below.refl _ _).drew)
        generalize u3.drew = u4 at HH hHeld ⊢
        refine wpAnyH_ready (rs := [2]) (by kernel_rfl) (by simp) ?_
        refine AllReadyH.cons rfl (fun K hK => ?_) AllReadyH.nil
        go_simp
        go_at_call 41
        refine (pick_any B g (q1 + 1) 6 _ HH.out.rd (by omega) (by omega) (by omega)).mono ?_
        rintro e u5 ⟨z1, rfl, hz10, hz11, hr5, hg5⟩
        replace HH : Hid (HoldR w B g ((q1 + 1) + 1) w.heap.size Tb R1 C1 a1 n1 c1 l1 u5) := HH.out.pick hg5 hr5
        clear hr5 hg5 hHeld
        go_wp2_with fail
        refine hK.out _ _ HH.out.trow (fun hHeld => ?_)
        clear hK K
        (try simp only [Act.put, List.setIfInBounds_toArray, List.set_cons_zero, List.set_cons_succ])
        obtain ⟨y1, HY1⟩ : ∃ y, Hid (z1 - 1 = y) := ⟨_, rfl⟩
        refine take_at 3 82 (.int .i64 y1) rfl rfl (by kernel_rfl) (by kernel_rfl) (by kernel_rfl) (fun _ _ _ h => h) (Or.inl ⟨by kernel_rfl, fun w' hS' => by go_simp; have e := HY1.out; rw [IntKind.wrap_i64, e]; omega⟩) hHeld ?_
        (try simp only [Act.put, List.setIfInBounds_toArray, List.set_cons_zero, List.set_cons_succ])
        refine wpAnyH_ready (rs := [5]) (by kernel_rfl) (by simp) ?_
        refine AllReadyH.cons rfl (fun K hK => ?_) AllReadyH.nil
        go_simp
        go_at_call 41
        refine (pick_any B g ((q1 + 1) + 1) 6 _ HH.out.rd (by omega) (by omega) (by omega)).mono ?_
        rintro e u6 ⟨z2, rfl, hz20, hz21, hr5, hg5⟩
        replace HH : Hid (HoldR w B g (((q1 + 1) + 1) + 1) w.heap.size Tb R1 C1 a1 n1 c1 l1 u6) := HH.out.pick hg5 hr5
        clear hr5 hg5 hHeld
        go_wp2_with fail
        refine hK.out _ _ HH.out.trow (fun hHeld => ?_)
        clear hK K
        (try simp only [Act.put, List.setIfInBounds_toArray, List.set_cons_zero, List.set_cons_succ])
        obtain ⟨y2, HY2⟩ : ∃ y, Hid (z2 - 1 = y) := ⟨_, rfl⟩
        refine take_at 6 85 (.int .i64 y2) rfl rfl (by kernel_rfl) (by kernel_rfl) (by kernel_rfl) (fun _ _ _ h => h) (Or.inl ⟨by kernel_rfl, fun w' hS' => by go_simp; have e := HY2.out; rw [IntKind.wrap_i64, e]; omega⟩) hHeld ?_
        (try simp only [Act.put, List.setIfInBounds_toArray, List.set_cons_zero, List.set_cons_succ])
        refine wpAnyH_ready (rs := [8]) (by kernel_rfl) (by simp) ?_
        refine AllReadyH.cons rfl (fun K hK => ?_) AllReadyH.nil
        go_simp
        go_at_call 41
        refine (pick_any B g ((q1 + 1) + 1 + 1) 5 _ HH.out.rd (by omega) (by omega) (by omega)).mono ?_
        rintro e u7 ⟨z3, rfl, hz30, hz31, hr5, hg5⟩
        replace HH : Hid (HoldR w B g (((q1 + 1) + 1 + 1) + 1) w.heap.size Tb R1 C1 a1 n1 c1 l1 u7) := HH.out.pick hg5 hr5
        clear hr5 hg5 hHeld
        go_wp2_with fail
        refine hK.out _ _ HH.out.trow (fun hHeld => ?_)
        clear hK K
        (try simp only [Act.put, List.setIfInBounds_toArray, List.set_cons_zero, List.set_cons_succ])
        refine wpAnyH_ready (rs := [10]) (by kernel_rfl) (by simp) ?_
        refine AllReadyH.cons rfl (fun K hK => ?_) AllReadyH.nil
        go_simp
        go_at_call 41
        refine (pick_any B g ((q1 + 1) + 1 + 1 + 1) 5 _ HH.out.rd (by omega) (by omega) (by omega)).mono ?_
        rintro e u8 ⟨z4, rfl, hz40, hz41, hr5, hg5⟩
        replace HH : Hid (HoldR w B g (((q1 + 1) + 1 + 1 + 1) + 1) w.heap.size Tb R1 C1 a1 n1 c1 l1 u8) := HH.out.pick hg5 hr5
        clear hr5 hg5 hHeld
        go_wp2_with fail
        refine hK.out _ _ HH.out.trow (fun hHeld => ?_)
        clear hK K
        (try simp only [Act.put, List.setIfInBounds_toArray, List.set_cons_zero, List.set_cons_succ])
        refine wpAnyH_ready (rs := [11]) (by kernel_rfl) (by simp) ?_
        refine AllReadyH.cons rfl (fun K hK => ?_) AllReadyH.nil
        rw [if_pos (by kernel_rfl)]
        refine wp_store_row 25 (.tmp 2) (.tmp 79) rfl w.heap.size #[.int .i64 R1, .int .i64 C1, .slice a1 n1 c1] rfl rfl 25 _ HH.out.zrow tab_info rfl (cells3_one _ _ _ _ _) ?_
        have HE : Hid (Tab (u8.setRow w.heap.size #[.int .i64 R1, .int .i64 C1, .slice a1 n1 c1]) a1 n1 c1 l1 ∧ RowAt (u8.setRow w.heap.size #[.int .i64 R1, .int .i64 C1, .slice a1 n1 c1]) w.heap.size #[.int .i64 R1, .int .i64 C1, .slice a1 n1 c1] 25 ∧ Below w.heap.size w (u8.setRow w.heap.size #[.int .i64 R1, .int .i64 C1, .slice a1 n1 c1])) := HH.out.out
        have hne : Tb ≠ w.heap.size := by have := HH.out.gt; have := HH.out.lo; omega
        refine hK.out _ _ (RowAt.setRowOther hHeld _ _ hne) (fun hHeld => ?_)
        clear hK K
        simp only [Act.put]
        generalize (u8.setRow w.heap.size #[.int .i64 R1, .int .i64 C1, .slice a1 n1 c1]) = w9 at HE hHeld ⊢
        refine take_at 12 3 (.int .i64 y1) rfl rfl (by kernel_rfl) (by kernel_rfl) (by kernel_rfl) (fun _ _ _ h => h) (Or.inl ⟨by kernel_rfl, fun w' hS' => by go_simp⟩) hHeld ?_
        (try simp only [Act.put, List.setIfInBounds_toArray])
        refine take_at 13 4 (.int .i64 y2) rfl rfl (by kernel_rfl) (by kernel_rfl) (by kernel_rfl) (fun _ _ _ h => h) (Or.inl ⟨by kernel_rfl, fun w' hS' => by go_simp⟩) hHeld ?_
        (try simp only [Act.put])
        refine take_at 14 5 (.int .i64 z3) rfl rfl (by kernel_rfl) (by kernel_rfl) (by kernel_rfl) (fun _ _ _ h => h) (Or.inl ⟨by kernel_rfl, fun w' hS' => by go_simp⟩) hHeld ?_
        (try simp only [Act.put])
        refine take_at 15 6 (.int .i64 z4) rfl rfl (by kernel_rfl) (by kernel_rfl) (by kernel_rfl) (fun _ _ _ h => h) (Or.inl ⟨by kernel_rfl, fun w' hS' => by go_simp⟩) hHeld ?_
        (try simp only [Act.put])
        refine wpAnyH_done (by kernel_rfl) ?_ _
        refine NoPanic.normal ?_
        go_wp2_with fail
        refine bodyPost_ret (v := .tuple #[.agg #[.int .i64 R1, .int .i64 C1, .slice a1 n1 c1], .int .i64 y1, .int .i64 y2, .int .i64 z3, .int .i64 z4]) ?_ rfl ⟨⟨R1, C1, a1, n1, c1, l1, y1, y2, z3, z4, rfl, HE.out.1, HS.out, by have := HY1.out; omega, by have := HY2.out; omega, by omega, by omega⟩, HE.out.2.2⟩
        rw [results_cell_tmp4 rfl]
        simp [asAddr, Result.andThen, run_tabOf HE.out.2.1]
      · have hxp : 0 < x := by omega
        obtain ⟨ok, HO⟩ : ∃ o, Hid (okB R1 C1 l1 = o) := ⟨_, rfl⟩
        go_upto_region 6 with fail
        go_wp2_with (first | (refine wpList_load_row rfl 25 (.tmp 8) rfl Tb rfl 25 #[.int .i64 R1, .int .i64 C1, .slice a1 n1 c1] (0, 0) _ HH.out.trow Try.underlying25 rfl tab_info ?_))
        refine (specTableOk_is HO.out HH.out.tab).mono ?_
        rintro e u4 ⟨rfl, hb4⟩
        replace HH : Hid (HoldR w B g (q1 + 1) w.heap.size Tb R1 C1 a1 n1 c1 l1 u4) := HH.out.go hb4
        clear hb4
        cases ok
        · go_wp2_with fail
          refine (l71Grid_any B g (q1 + 1) _ HH.out.rd (by omega)).mono ?_
          rintro e u8 ⟨R2, C2, a2, n2, c2, l2, q8, rfl, ⟨os, hX8⟩, hS8, hr8, hq8, hf8⟩
          have HT8 : Hid (RowAt u8 Tb #[.int .i64 R1, .int .i64 C1, .slice a1 n1 c1] 25) := (HH.out.fr hf8 hr8).trow
          have HN8 : Hid (HoldR w B g q8 w.heap.size Tb R2 C2 a2 n2 c2 l2 (u8.setRow Tb #[.int .i64 R2, .int .i64 C2, .slice a2 n2 c2])) := HH.out.next hf8 hr8 hX8
          have HS8 : Hid (TabSp R2 C2 l2) := hS8
          clear hX8 hf8 hr8 hS8
          go_wp2_with (refine wpList_store_row rfl 25 (.tmp 8) (.tmp 41) rfl Tb #[.int .i64 R2, .int .i64 C2, .slice a2 n2 c2] rfl rfl 25 _ HT8.out tab_info rfl (cells3_one _ _ _ _ _) ?_)
          go_roundw
          case rel => exact ⟨k + 1, q8, R2, C2, a2, n2, c2, l2, by omega, by go_num, by omega, HS8.out, HN8.out⟩
          case measure => simp [intOf]; omega
        · obtain ⟨hR1, hC1, -, -⟩ := gridP_of_okB HO.out
          have t0 : u4.cell? ⟨Tb, 0, none⟩ = some (.int .i64 R1) := HH.out.trow.cell 0
          have t1 : u4.cell? ⟨Tb, 1, none⟩ = some (.int .i64 C1) := HH.out.trow.cell 1
          by_cases hp2 : wrap64 (R1 * C1) < 2
          · go_wp2_with fail
            refine (l71Grid_any B g (q1 + 1) _ HH.out.rd (by omega)).mono ?_
            rintro e u8 ⟨R2, C2, a2, n2, c2, l2, q8, rfl, ⟨os, hX8⟩, hS8, hr8, hq8, hf8⟩
            have HT8 : Hid (RowAt u8 Tb #[.int .i64 R1, .int .i64 C1, .slice a1 n1 c1] 25) := (HH.out.fr hf8 hr8).trow
            have HN8 : Hid (HoldR w B g q8 w.heap.size Tb R2 C2 a2 n2 c2 l2 (u8.setRow Tb #[.int .i64 R2, .int .i64 C2, .slice a2 n2 c2])) := HH.out.next hf8 hr8 hX8
            have HS8 : Hid (TabSp R2 C2 l2) := hS8
            clear hX8 hf8 hr8 hS8
            go_wp2_with (refine wpList_store_row rfl 25 (.tmp 8) (.tmp 41) rfl Tb #[.int .i64 R2, .int .i64 C2, .slice a2 n2 c2] rfl rfl 25 _ HT8.out tab_info rfl (cells3_one _ _ _ _ _) ?_)
            go_roundw
            case rel => exact ⟨k + 1, q8, R2, C2, a2, n2, c2, l2, by omega, by go_num, by omega, HS8.out, HN8.out⟩
            case measure => simp [intOf]; omega
          · go_wp2_with fail
            refine (pick_any B g (q1 + 1) R1 _ HH.out.rd (by omega) (by omega) (by omega)).mono ?_
            rintro e u5 ⟨y1, rfl, hy10, hy11, hr5, hg5⟩
            replace HH : Hid (HoldR w B g ((q1 + 1) + 1) w.heap.size Tb R1 C1 a1 n1 c1 l1 u5) := HH.out.pick hg5 hr5
            clear hr5 hg5
            have t1 : u5.cell? ⟨Tb, 1, none⟩ = some (.int .i64 C1) := HH.out.trow.cell 1
            go_wp2_with fail
            refine (pick_any B g (q1 + 1 + 1) C1 _ HH.out.rd (by omega) (by omega) (by omega)).mono ?_
            rintro e u6 ⟨y2, rfl, hy20, hy21, hr5, hg5⟩
            replace HH : Hid (HoldR w B g ((q1 + 1 + 1) + 1) w.heap.size Tb R1 C1 a1 n1 c1 l1 u6) := HH.out.pick hg5 hr5
            clear hr5 hg5
            have t0 : u6.cell? ⟨Tb, 0, none⟩ = some (.int .i64 R1) := HH.out.trow.cell 0
            clear t1
            go_wp2_with fail
            refine (pick_any B g (q1 + 1 + 1 + 1) (R1 - y1) _ HH.out.rd (by omega) (by omega) (by omega)).mono ?_
            rintro e u7 ⟨y3, rfl, hy30, hy31, hr5, hg5⟩
            replace HH : Hid (HoldR w B g ((q1 + 1 + 1 + 1) + 1) w.heap.size Tb R1 C1 a1 n1 c1 l1 u7) := HH.out.pick hg5 hr5
            clear hr5 hg5
            have t1 : u7.cell? ⟨Tb, 1, none⟩ = some (.int .i64 C1) := HH.out.trow.cell 1
            go_wp2_with fail
            refine (pick_any B g (q1 + 1 + 1 + 1 + 1) (C1 - y2) _ HH.out.rd (by omega) (by omega) (by omega)).mono ?_
            rintro e u8 ⟨y4, rfl, hy40, hy41, hr5, hg5⟩
            replace HH : Hid (HoldR w B g ((q1 + 1 + 1 + 1 + 1) + 1) w.heap.size Tb R1 C1 a1 n1 c1 l1 u8) := HH.out.pick hg5 hr5
            clear hr5 hg5
            obtain ⟨d, HD⟩ : ∃ d, Hid (1 + y3 = d) := ⟨_, rfl⟩
            obtain ⟨e', HE'⟩ : ∃ d, Hid (1 + y4 = d) := ⟨_, rfl⟩
            go_upto_region 12 with fail
            rw [HD.out, HE'.out]
            have hd0 : 1 ≤ d ∧ d ≤ 10 := by have := HD.out; omega
            have he0 : 1 ≤ e' ∧ e' ≤ 10 := by have := HE'.out; omega
            obtain ⟨can, HC⟩ : ∃ o, Hid (mergeB R1 C1 l1 y1 y2 d e' = o) := ⟨_, rfl⟩
            cases can
            · go_upto_region 13 with (first | (refine wpList_load_row rfl 25 (.tmp 8) rfl Tb rfl 25 #[.int .i64 R1, .int .i64 C1, .slice a1 n1 c1] (0, 0) _ HH.out.trow Try.underlying25 rfl tab_info ?_) | (go_at_call 18; refine (specTableMerge_any R1 C1 y1 y2 d e' a1 n1 c1 l1 _ HH.out.tab).mono ?_; intro e w9 hr; obtain ⟨hr1, hb⟩ := hr; obtain ⟨ma, mn, mc, rfl, -⟩ := tabRes_f HC.out hr1; replace HH : Hid (HoldR w B g (q1 + 1 + 1 + 1 + 1 + 1) w.heap.size Tb R1 C1 a1 n1 c1 l1 w9) := HH.out.go hb; clear hr1 hb))
              replace HH : Hid (HoldR w B g (q1 + 1 + 1 + 1 + 1 + 1) w.heap.size Tb R1 C1 a1 n1 c1 l1 (w9.alloc (.cells #[.int .i64 0, .int .i64 0, .slice ma mn mc] 25))) := HH.out.go ((Below.refl _ _).alloc (Nat.le_refl _) _)
              generalize (w9.alloc (.cells #[.int .i64 0, .int .i64 0, .slice ma mn mc] 25)) = v9 at HH ⊢
              go_wp2_with fail
              go_roundw
              case rel => exact ⟨k + 1, (q1 + 1 + 1 + 1 + 1 + 1), R1, C1, a1, n1, c1, l1, by omega, by go_num, by omega, HS.out, HH.out⟩
              case measure => simp [intOf]; omega
            · go_upto_region 13 with (first | (refine wpList_load_row rfl 25 (.tmp 8) rfl Tb rfl 25 #[.int .i64 R1, .int .i64 C1, .slice a1 n1 c1] (0, 0) _ HH.out.trow Try.underlying25 rfl tab_info ?_) | (go_at_call 18; refine (specTableMerge_any R1 C1 y1 y2 d e' a1 n1 c1 l1 _ HH.out.tab).mono ?_; intro e w9 hr; obtain ⟨hr1, hb⟩ := hr; obtain ⟨ma, mn, mc, rfl, -⟩ := tabRes_t HC.out hr1; replace HH : Hid (HoldR w B g (q1 + 1 + 1 + 1 + 1 + 1) w.heap.size Tb R1 C1 a1 n1 c1 l1 w9) := HH.out.go hb; clear hr1 hb))
              replace HH : Hid (HoldR w B g (q1 + 1 + 1 + 1 + 1 + 1) w.heap.size Tb R1 C1 a1 n1 c1 l1 (w9.alloc (.cells #[.int .i64 R1, .int .i64 C1, .slice ma mn mc] 25))) := HH.out.go ((Below.refl _ _).alloc (Nat.le_refl _) _)
              generalize (w9.alloc (.cells #[.int .i64 R1, .int .i64 C1, .slice ma mn mc] 25)) = v9 at HH ⊢
              go_wp2_with (first | (refine wpList_load_row rfl 25 (.tmp 8) rfl Tb rfl 25 #[.int .i64 R1, .int .i64 C1, .slice a1 n1 c1] (0, 0) _ HH.out.trow Try.underlying25 rfl tab_info ?_) | (refine wpList_store_row rfl 25 (.tmp 2) (.tmp 74) rfl w.heap.size #[.int .i64 R1, .int .i64 C1, .slice a1 n1 c1] rfl rfl 25 _ HH.out.zrow tab_info rfl (cells3_one _ _ _ _ _) ?_))
              refine bodyPost_ret (v := .tuple #[.agg #[.int .i64 R1, .int .i64 C1, .slice a1 n1 c1], .int .i64 y1, .int .i64 y2, .int .i64 d, .int .i64 e']) ?_ rfl ⟨⟨R1, C1, a1, n1, c1, l1, y1, y2, d, e', rfl, HH.out.out.1, HS.out, by omega, by omega, by omega, by omega⟩, HH.out.out.2.2⟩
              rw [results_cell_tmp4 rfl]
              simp [asAddr, Result.andThen, run_tabOf HH.out.out.2.1]
    · have hkb : ¬ (k : Int) < 24 := by omega
      go_upto_region 15 with fail
      refine wp_region_noPanic ?_
      refine wp_region_held_drew (S := fun w' => RowAt w' Tb #[.int .i64 R1, .int .i64 C1, .slice a1 n1 c1] 25) (by kernel_rfl) HH.out.trow (fun hHeld => ?_)
      refine take_at 0 79 (.agg #[.int .i64 R1, .int .i64 C1, .slice a1 n1 c1]) rfl rfl (by kernel_rfl) (by kernel_rfl) (by kernel_rfl) (fun _ _ _ h => h) (yieldsIf_load_row (by kernel_rfl) 25 (.tmp 8) rfl Tb rfl 25 #[.int .i64 R1, .int .i64 C1, .slice a1 n1 c1] (0, 0) _ (fun w' h => h) Try.underlying25 rfl tab_info) hHeld ?_
      (try simp only [Act.put, List.setIfInBounds_toArray, List.set_cons_zero, List.set_cons_succ])
      refine take_at 1 80 (.pointer (some ⟨g, 0, none⟩)) rfl rfl (by kernel_rfl) (by kernel_rfl) (by kernel_rfl) (fun _ _ _ h => h) (Or.inl ⟨by kernel_rfl, fun w' hS' => by go_simp⟩) hHeld ?_
      (try simp only [Act.put, List.setIfInBounds_toArray, List.set_cons_zero, List.set_cons_succ])
      refine take_at 4 83 (.pointer (some ⟨g, 0, none⟩)) rfl rfl (by kernel_rfl) (by kernel_rfl) (by kernel_rfl) (fun _ _ _ h => h) (Or.inl ⟨by kernel_rfl, fun w' hS' => by go_simp⟩) hHeld ?_
      (try simp only [Act.put, List.setIfInBounds_toArray, List.set_cons_zero, List.set_cons_succ])
      refine take_at 7 86 (.pointer (some ⟨g, 0, none⟩)) rfl rfl (by kernel_rfl) (by kernel_rfl) (by kernel_rfl) (fun _ _ _ h => h) (Or.inl ⟨by kernel_rfl, fun w' hS' => by go_simp⟩) hHeld ?_
      (try simp only [Act.put, List.setIfInBounds_toArray, List.set_cons_zero, List.set_cons_succ])
      refine take_at 9 88 (.pointer (some ⟨g, 0, none⟩)) rfl rfl (by kernel_rfl) (by kernel_rfl) (by kernel_rfl) (fun _ _ _ h => h) (Or.inl ⟨by kernel_rfl, fun w' hS' => by go_simp⟩) hHeld ?_
      (try simp only [Act.put, List.setIfInBounds_toArray, List.set_cons_zero, List.set_cons_succ])
      replace HH : Hid (HoldR w B g q1 w.heap.size Tb R1 C1 a1 n1 c1 l1 wr.drew) := HH.out.go ((Below.refl _ _).drew)
      generalize wr.drew = u4 at HH hHeld ⊢
      refine wpAnyH_ready (rs := [2]) (by kernel_rfl) (by simp) ?_
      refine AllReadyH.cons rfl (fun K hK => ?_) AllReadyH.nil
      go_simp
      go_at_call 41
      refine (pick_any B g q1 6 _ HH.out.rd (by omega) (by omega) (by omega)).mono ?_
      rintro e u5 ⟨z1, rfl, hz10, hz11, hr5, hg5⟩
      replace HH : Hid (HoldR w B g (q1 + 1) w.heap.size Tb R1 C1 a1 n1 c1 l1 u5) := HH.out.pick hg5 hr5
      clear hr5 hg5 hHeld
      go_wp2_with fail
      refine hK.out _ _ HH.out.trow (fun hHeld => ?_)
      clear hK K
      (try simp only [Act.put, List.setIfInBounds_toArray, List.set_cons_zero, List.set_cons_succ])
      obtain ⟨y1, HY1⟩ : ∃ y, Hid (z1 - 1 = y) := ⟨_, rfl⟩
      refine take_at 3 82 (.int .i64 y1) rfl rfl (by kernel_rfl) (by kernel_rfl) (by kernel_rfl) (fun _ _ _ h => h) (Or.inl ⟨by kernel_rfl, fun w' hS' => by go_simp; have e := HY1.out; rw [IntKind.wrap_i64, e]; omega⟩) hHeld ?_
      (try simp only [Act.put, List.setIfInBounds_toArray, List.set_cons_zero, List.set_cons_succ])
      refine wpAnyH_ready (rs := [5]) (by kernel_rfl) (by simp) ?_
      refine AllReadyH.cons rfl (fun K hK => ?_) AllReadyH.nil
      go_simp
      go_at_call 41
      refine (pick_any B g (q1 + 1) 6 _ HH.out.rd (by omega) (by omega) (by omega)).mono ?_
      rintro e u6 ⟨z2, rfl, hz20, hz21, hr5, hg5⟩
      replace HH : Hid (HoldR w B g ((q1 + 1) + 1) w.heap.size Tb R1 C1 a1 n1 c1 l1 u6) := HH.out.pick hg5 hr5
      clear hr5 hg5 hHeld
      go_wp2_with fail
      refine hK.out _ _ HH.out.trow (fun hHeld => ?_)
      clear hK K
      (try simp only [Act.put, List.setIfInBounds_toArray, List.set_cons_zero, List.set_cons_succ])
      obtain ⟨y2, HY2⟩ : ∃ y, Hid (z2 - 1 = y) := ⟨_, rfl⟩
      refine take_at 6 85 (.int .i64 y2) rfl rfl (by kernel_rfl) (by kernel_rfl) (by kernel_rfl) (fun _ _ _ h => h) (Or.inl ⟨by kernel_rfl, fun w' hS' => by go_simp; have e := HY2.out; rw [IntKind.wrap_i64, e]; omega⟩) hHeld ?_
      (try simp only [Act.put, List.setIfInBounds_toArray, List.set_cons_zero, List.set_cons_succ])
      refine wpAnyH_ready (rs := [8]) (by kernel_rfl) (by simp) ?_
      refine AllReadyH.cons rfl (fun K hK => ?_) AllReadyH.nil
      go_simp
      go_at_call 41
      refine (pick_any B g (q1 + 1 + 1) 5 _ HH.out.rd (by omega) (by omega) (by omega)).mono ?_
      rintro e u7 ⟨z3, rfl, hz30, hz31, hr5, hg5⟩
      replace HH : Hid (HoldR w B g ((q1 + 1 + 1) + 1) w.heap.size Tb R1 C1 a1 n1 c1 l1 u7) := HH.out.pick hg5 hr5
      clear hr5 hg5 hHeld
      go_wp2_with fail
      refine hK.out _ _ HH.out.trow (fun hHeld => ?_)
      clear hK K
      (try simp only [Act.put, List.setIfInBounds_toArray, List.set_cons_zero, List.set_cons_succ])
      refine wpAnyH_ready (rs := [10]) (by kernel_rfl) (by simp) ?_
      refine AllReadyH.cons rfl (fun K hK => ?_) AllReadyH.nil
      go_simp
      go_at_call 41
      refine (pick_any B g (q1 + 1 + 1 + 1) 5 _ HH.out.rd (by omega) (by omega) (by omega)).mono ?_
      rintro e u8 ⟨z4, rfl, hz40, hz41, hr5, hg5⟩
      replace HH : Hid (HoldR w B g ((q1 + 1 + 1 + 1) + 1) w.heap.size Tb R1 C1 a1 n1 c1 l1 u8) := HH.out.pick hg5 hr5
      clear hr5 hg5 hHeld
      go_wp2_with fail
      refine hK.out _ _ HH.out.trow (fun hHeld => ?_)
      clear hK K
      (try simp only [Act.put, List.setIfInBounds_toArray, List.set_cons_zero, List.set_cons_succ])
      refine wpAnyH_ready (rs := [11]) (by kernel_rfl) (by simp) ?_
      refine AllReadyH.cons rfl (fun K hK => ?_) AllReadyH.nil
      rw [if_pos (by kernel_rfl)]
      refine wp_store_row 25 (.tmp 2) (.tmp 79) rfl w.heap.size #[.int .i64 R1, .int .i64 C1, .slice a1 n1 c1] rfl rfl 25 _ HH.out.zrow tab_info rfl (cells3_one _ _ _ _ _) ?_
      have HE : Hid (Tab (u8.setRow w.heap.size #[.int .i64 R1, .int .i64 C1, .slice a1 n1 c1]) a1 n1 c1 l1 ∧ RowAt (u8.setRow w.heap.size #[.int .i64 R1, .int .i64 C1, .slice a1 n1 c1]) w.heap.size #[.int .i64 R1, .int .i64 C1, .slice a1 n1 c1] 25 ∧ Below w.heap.size w (u8.setRow w.heap.size #[.int .i64 R1, .int .i64 C1, .slice a1 n1 c1])) := HH.out.out
      have hne : Tb ≠ w.heap.size := by have := HH.out.gt; have := HH.out.lo; omega
      refine hK.out _ _ (RowAt.setRowOther hHeld _ _ hne) (fun hHeld => ?_)
      clear hK K
      simp only [Act.put]
      generalize (u8.setRow w.heap.size #[.int .i64 R1, .int .i64 C1, .slice a1 n1 c1]) = w9 at HE hHeld ⊢
      refine take_at 12 3 (.int .i64 y1) rfl rfl (by kernel_rfl) (by kernel_rfl) (by kernel_rfl) (fun _ _ _ h => h) (Or.inl ⟨by kernel_rfl, fun w' hS' => by go_simp⟩) hHeld ?_
      (try simp only [Act.put, List.setIfInBounds_toArray])
      refine take_at 13 4 (.int .i64 y2) rfl rfl (by kernel_rfl) (by kernel_rfl) (by kernel_rfl) (fun _ _ _ h => h) (Or.inl ⟨by kernel_rfl, fun w' hS' => by go_simp⟩) hHeld ?_
      (try simp only [Act.put])
      refine take_at 14 5 (.int .i64 z3) rfl rfl (by kernel_rfl) (by kernel_rfl) (by kernel_rfl) (fun _ _ _ h => h) (Or.inl ⟨by kernel_rfl, fun w' hS' => by go_simp⟩) hHeld ?_
      (try simp only [Act.put])
      refine take_at 15 6 (.int .i64 z4) rfl rfl (by kernel_rfl) (by kernel_rfl) (by kernel_rfl) (fun _ _ _ h => h) (Or.inl ⟨by kernel_rfl, fun w' hS' => by go_simp⟩) hHeld ?_
      (try simp only [Act.put])
      refine wpAnyH_done (by kernel_rfl) ?_ _
      refine NoPanic.normal ?_
      go_wp2_with fail
      refine bodyPost_ret (v := .tuple #[.agg #[.int .i64 R1, .int .i64 C1, .slice a1 n1 c1], .int .i64 y1, .int .i64 y2, .int .i64 z3, .int .i64 z4]) ?_ rfl ⟨⟨R1, C1, a1, n1, c1, l1, y1, y2, z3, z4, rfl, HE.out.1, HS.out, by have := HY1.out; omega, by have := HY2.out; omega, by omega, by omega⟩, HE.out.2.2⟩
      rw [results_cell_tmp4 rfl]
      simp [asAddr, Result.andThen, run_tabOf HE.out.2.1]
end Go.Proofs.Ytkgdocohdjebfaa
namespace Go.Proofs.Ytkgdocohdjebfaa
open Go.RowKit

theorem merge_data {R C r c d g : Int} {l : List Cl} (h : mergeB R C l r c d g = true) : ∃ (r' c' d' g' : Nat), r = r' ∧ c = c' ∧ d = d' ∧ g = g' ∧ okB R C l = true ∧ 1 ≤ d' ∧ 1 ≤ g' ∧ (r' : Int) + d' ≤ R ∧ (c' : Int) + g' ≤ C ∧ l.all (fun z => !cutB r' c' d' g' z) = true ∧ 2 ≤ mN r' c' d' g' l ∧ textB (mTx r' c' d' g' l) = true := by
  simp only [mergeB, bndB, Bool.and_eq_true, decide_eq_true_eq] at h
  obtain ⟨⟨⟨⟨h1, h2⟩, h3⟩, h4⟩, h5⟩ := h
  obtain ⟨r, rfl⟩ : ∃ z : Nat, r = z := ⟨r.toNat, by omega⟩
  obtain ⟨c, rfl⟩ : ∃ z : Nat, c = z := ⟨c.toNat, by omega⟩
  obtain ⟨d, rfl⟩ : ∃ z : Nat, d = z := ⟨d.toNat, by omega⟩
  obtain ⟨g, rfl⟩ : ∃ z : Nat, g = z := ⟨g.toNat, by omega⟩
  simp only [Int.toNat_natCast] at h3 h4 h5
  exact ⟨r, c, d, g, rfl, rfl, rfl, rfl, h1, by omega, by omega, by omega, by omega, h3, h4, h5⟩
theorem tab_cell {u : World} {b o n c k : Nat} {L : List Cl} (h : Tab u (some ⟨b, o, none⟩) n c L) (hk : k < L.length) : u.cell? ⟨b, o + k * 5 + 2, none⟩ = some (.int .i64 (L.getD k cl0).2.2.1) ∧ u.cell? ⟨b, o + k * 5 + 3, none⟩ = some (.int .i64 (L.getD k cl0).2.2.2.1) := by
  rcases h.2.2.2 with e | ⟨b', o', e, _, hcl⟩
  · rw [e] at hk
    exact absurd hk (by simp)
  · simp only [Option.some.injEq, Addr.mk.injEq, and_true] at e
    obtain ⟨rfl, rfl⟩ := e
    obtain ⟨-, -, j2, j3, -⟩ := hcl k hk
    exact ⟨j2, j3⟩
section
variable {R C : Int} {l : List Cl}
theorem at_same (h : okB R C l = true) {x : Cl} (hx : x ∈ l) (a b a' b' : Nat) (h1 : inB x a b = true) (h2 : inB x a' b' = true) : atN R C l a b = atN R C l a' b' := by
  obtain ⟨k, hk, e, ek⟩ := at_of h hx a b h1
  obtain ⟨m, hm, e', em⟩ := at_of h hx a' b' h2
  have hw := ok_cell h hx
  have hi := inB_is.1 h1
  rw [e, e']
  rcases Nat.lt_trichotomy k m with q | q | q
  · exact (okB_apart h a b (by omega) (by omega) q hm (by rw [ek]; exact h1) (by rw [em]; exact h1)).elim
  · rw [q]
  · exact (okB_apart h a b (by omega) (by omega) q hk (by rw [em]; exact h1) (by rw [ek]; exact h1)).elim
variable {r c d g : Nat}
/-- A cell that has a square outside of a rectangle that cuts no cell is outside. -/
theorem outs_of (h : okB R C l = true) (hall : l.all (fun z => !cutB r c d g z) = true) {x : Cl} (hx : x ∈ l) (a b : Nat) (hi : inB x a b = true) (ho : ¬ inR r c d g a b) : outsB r c d g x = true := by
  have hw := ok_cell h hx
  have hi' := inB_is.1 hi
  obtain ⟨x1, x2, x3, x4, tx⟩ := x
  simp only at hw hi'
  obtain ⟨x1, rfl⟩ : ∃ z : Nat, x1 = z := ⟨x1.toNat, by omega⟩
  obtain ⟨x2, rfl⟩ : ∃ z : Nat, x2 = z := ⟨x2.toNat, by omega⟩
  obtain ⟨x3, rfl⟩ : ∃ z : Nat, x3 = z := ⟨x3.toNat, by omega⟩
  obtain ⟨x4, rfl⟩ : ∃ z : Nat, x4 = z := ⟨x4.toNat, by omega⟩
  cases hq : outsB r c d g ((x1 : Int), (x2 : Int), (x3 : Int), (x4 : Int), tx)
  · have hc := List.all_eq_true.1 hall _ hx
    unfold cutB at hc
    rw [hq] at hc
    have hf : fullB r c d g ((x1 : Int), (x2 : Int), (x3 : Int), (x4 : Int), tx) = true := by simpa using hc
    exact absurd ((full_iff (by omega) (by omega)).1 hf a b (by omega) (by omega) (by omega) (by omega)) ho
  · rfl
theorem merge_in (h : mergeB R C l r c d g = true) (hd : 1 ≤ d) (hg : 1 ≤ g) (a b : Nat) (hin : inR r c d g a b) : atN R C (mergeL l r c d g) a b = atN R C (mergeL l r c d g) r c := by
  unfold inR at hin
  exact at_same (ok_mergeN h) (mergeL_iff.2 (Or.inr rfl)) a b r c (inB_is.2 (by simp only; omega)) (inB_is.2 (by simp only; omega))
theorem merge_at (h : mergeB R C l r c d g = true) (hd : 1 ≤ d) (hg : 1 ≤ g) : ∃ k, k < (mergeL l r c d g).length ∧ atN R C (mergeL l r c d g) r c = (k : Int) ∧ (mergeL l r c d g).getD k cl0 = ((r : Int), (c : Int), (d : Int), (g : Int), mTx r c d g l) :=
  at_of (ok_mergeN h) (mergeL_iff.2 (Or.inr rfl)) r c (inB_is.2 (by simp only; omega))
theorem merge_out (h : mergeB R C l r c d g = true) (hok : okB R C l = true) (hall : l.all (fun z => !cutB r c d g z) = true) (hd : 1 ≤ d) (hg : 1 ≤ g) (a b : Nat) (ha : (a : Int) < R) (hb : (b : Int) < C) (hout : ¬ inR r c d g a b) :
    atN R C (mergeL l r c d g) a b ≠ atN R C (mergeL l r c d g) r c ∧ sqT R C (mergeL l r c d g) a b = sqT R C l a b := by
  obtain ⟨x, hx, hi⟩ := sq_has hok a b ha hb
  have ho := outs_of hok hall hx a b hi hout
  have hm : x ∈ mergeL l r c d g := mergeL_iff.2 (Or.inl ⟨hx, ho⟩)
  refine ⟨fun e => ?_, by rw [sqT_of (ok_mergeN h) hm a b hi, sqT_of hok hx a b hi]⟩
  obtain ⟨k, _, e1, ek⟩ := at_of (ok_mergeN h) hm a b hi
  obtain ⟨m, _, e2, em⟩ := merge_at h hd hg
  rw [e1, e2] at e
  have hkm : k = m := by omega
  subst hkm
  rw [ek] at em
  rw [em] at hi
  have := inB_is.1 hi
  simp only at this
  exact hout (by unfold inR; omega)
end
end Go.Proofs.Ytkgdocohdjebfaa
namespace Go.Proofs.Ytkgdocohdjebfaa
open Go.RowKit

/-- A person is in a set of people. -/
def hasB (p n : Int) : Bool := bits BinOp.and IntKind.u8 p (personN n) != 0
def woN (p n : Int) : Int := if hasB p n then 0 else n

set_option maxHeartbeats 400000 in
theorem has_any (p n : Int) (w : World) :
    Calls Try.prog 73 #[.int .u8 p, .int .i64 n] w fun e w' => e = .returned (.bool (hasB p n)) ∧ w' = w := by
  go_enter Try.func73, Try.ntmps73
  go_wp2_with (go_at_call 79; refine (person_any _ _).mono ?_; rintro e w' ⟨rfl, rfl⟩)
  go_ret
  exact ⟨rfl, rfl⟩

theorem hasP_is {p n : Int} {x : Bool} (h : hasB p n = x) (w : World) : Calls Try.prog 73 #[.int .u8 p, .int .i64 n] w fun e w' => e = .returned (.bool x) ∧ w' = w := h ▸ has_any p n w

theorem textB_len {l : List Sg} (h : textB l = true) : l.length ≤ 24 := by
  simp [textB] at h
  exact h.1
theorem sgB_parts {s : Sg} (h : sgB s = true) : byteB s.1 = true ∧ whoB s.2.1 = true ∧ whoB s.2.2 = true ∧ (s.2.2 = 0 ∨ s.2.1 ≠ s.2.2) := by
  simp [sgB, signB] at h
  exact ⟨h.1.1.1, h.1.1.2, h.1.2, h.2⟩
theorem textB_all {l : List Sg} (h : textB l = true) : ∀ s ∈ l, sgB s = true := by
  simp [textB] at h
  exact fun s hs => h.2 s.1 s.2.1 s.2.2 hs
end Go.Proofs.Ytkgdocohdjebfaa
namespace Go.Proofs.Ytkgdocohdjebfaa
open Go.RowKit

set_option maxHeartbeats 400000 in
theorem without_any (p n : Int) (w : World) :
    Calls Try.prog 72 #[.int .u8 p, .int .i64 n] w fun e w' => e = .returned (.int .i64 (woN p n)) ∧ w' = w := by
  cases h : hasB p n
  · rw [show woN p n = n from by simp [woN, h]]
    go_enter Try.func72, Try.ntmps72
    go_wp2_with (go_at_call 73; refine (hasP_is h _).mono ?_; rintro e w' ⟨rfl, rfl⟩)
    go_ret
    exact ⟨rfl, rfl⟩
  · rw [show woN p n = 0 from by simp [woN, h]]
    go_enter Try.func72, Try.ntmps72
    go_wp2_with (go_at_call 73; refine (hasP_is h _).mono ?_; rintro e w' ⟨rfl, rfl⟩)
    go_ret
    exact ⟨rfl, rfl⟩

set_option maxHeartbeats 400000 in
theorem notTakenOut_any (b i o p : Int) (w : World) :
    Calls Try.prog 55 #[.agg #[.int .u8 b, .int .i64 i, .int .i64 o], .int .u8 p] w fun e w' => e = .returned (.bool (!hasB p o)) ∧ Below w.heap.size w w' := by
  go_enter Try.func55, Try.ntmps55
  go_wp2_with (go_at_call 73; refine (has_any _ _ _).mono ?_; rintro e w' ⟨rfl, rfl⟩)
  go_ret
  exact ⟨rfl, (Below.refl _ _).alloc (Nat.le_refl _) _⟩

/-- What stays, and how. -/
def settled (p : Int) (q : Sg → Bool) (l : List Sg) : List Sg := (l.filter q).map fun s => (s.1, woN p s.2.1, woN p s.2.2)
def outQ (p : Int) (s : Sg) : Bool := !hasB p s.2.2
def inQ (p : Int) (s : Sg) : Bool := !hasB p s.2.1
def settleL (p : Int) (q : Sg → Bool) (l : List Sg) : List Sg := if textB l then settled p q l else []

theorem settled_take_yes (p : Int) (q : Sg → Bool) (l : List Sg) (k : Nat) (hk : k < l.length) (h : q (l.getD k (0, 0, 0)) = true) :
    settled p q (l.take (k + 1)) = settled p q (l.take k) ++ [((l.getD k (0, 0, 0)).1, woN p (l.getD k (0, 0, 0)).2.1, woN p (l.getD k (0, 0, 0)).2.2)] := by
  have e : l.getD k (0, 0, 0) = l[k] := by simp [List.getD, hk]
  rw [e] at h ⊢
  unfold settled
  rw [List.take_succ_eq_append_getElem hk, List.filter_append, List.map_append]
  simp [h]
theorem settled_take_no (p : Int) (q : Sg → Bool) (l : List Sg) (k : Nat) (hk : k < l.length) (h : q (l.getD k (0, 0, 0)) = false) :
    settled p q (l.take (k + 1)) = settled p q (l.take k) := by
  have e : l.getD k (0, 0, 0) = l[k] := by simp [List.getD, hk]
  rw [e] at h
  unfold settled
  rw [List.take_succ_eq_append_getElem hk, List.filter_append, List.map_append]
  simp [h]
theorem settled_len (p : Int) (q : Sg → Bool) (l : List Sg) : (settled p q l).length ≤ l.length := by
  simp only [settled, List.length_map]
  exact List.length_filter_le _ _
theorem notTakenOut_is {s : Sg} {p : Int} {x : Bool} (h : outQ p s = x) (w : World) :
    Calls Try.prog 55 #[.agg #[.int .u8 s.1, .int .i64 s.2.1, .int .i64 s.2.2], .int .u8 p] w fun e w' => e = .returned (.bool x) ∧ Below w.heap.size w w' := h ▸ notTakenOut_any s.1 s.2.1 s.2.2 p w
set_option maxRecDepth 100000 in
set_option maxHeartbeats 2000000 in
theorem settleOut_any (a : Option Addr) (n cap : Nat) (l : List Sg) (p : Int) (w : World) (h : Txt w a n cap l) :
    Calls Try.prog 54 #[.slice a n cap, .int .u8 p, .func (.func 55) #[] #[]] w fun e w' => ∃ v, e = .returned v ∧ Own w' w.heap.size v (settleL p (outQ p) l) ∧ Below w.heap.size w w' := by
  have h0 := h
  obtain ⟨rfl, hc, hm, hl⟩ := h
  unfold maxLen at hm
  cases htb : textB l
  · rw [show settleL p (outQ p) l = [] from by simp [settleL, htb]]
    have HH : Hid (Txt w a l.length cap l) := h0
    clear h0 hl
    go_enter Try.func54, Try.ntmps54
    go_wp2_with (go_at_call 51; refine (implTextOk_is HH.out htb).mono ?_; rintro e w1 ⟨rfl, hb1⟩)
    go_ret
    exact ⟨_, rfl, Own.nil _ _, hb1⟩
  · rw [show settleL p (outQ p) l = settled p (outQ p) l from by simp [settleL, htb]]
    have HH : Hid (Txt w a l.length cap l) := h0
    have h24 := textB_len htb
    obtain ⟨i0, hi, hz0, hz1, hz2⟩ := info_parts Try.info75
    clear h0
    rcases hl with rfl | ⟨b, off, rfl, hbw, hl⟩
    · go_enter Try.func54, Try.ntmps54
      go_wp2_with (go_at_call 51; refine (implTextOk_is HH.out htb).mono ?_; rintro e w1 ⟨rfl, hb1⟩)
      refine wp_loop_rounds 1 ?_
      rw [rounds_succ]
      go_wp2_with fail
      go_ret
      exact ⟨_, rfl, by simpa [settled] using Own.nil _ _, hb1⟩
    · go_enter Try.func54, Try.ntmps54
      go_wp2_with (go_at_call 51; refine (implTextOk_is HH.out htb).mono ?_; rintro e w1 ⟨rfl, hb1⟩)
      have s1 := hb1.size
      go_loopw [7, 15] (fun v i wr => ∃ (k : Nat) (a : Option Addr) (m c : Nat), k ≤ l.length ∧ i = .int .i64 k ∧ v = .slice a m c ∧ m ≤ k ∧ Own wr w.heap.size (.slice a m c) (settled p (outQ p) (l.take k)) ∧ Below w.heap.size w wr) (fun _ i _ => l.length - (intOf i).toNat)
      case atStart => exact ⟨0, none, 0, 0, Nat.zero_le _, rfl, rfl, Nat.le_refl _, by simpa [settled] using Own.nil _ _, hb1⟩
      case round =>
        obtain ⟨k, a, m, c, hk, rfl, rfl, hmk, ho, hbl⟩ := hrel
        have hsz := hbl.size
        have HO : Hid (Own wr w.heap.size (.slice a m c) (settled p (outQ p) (l.take k))) := ho
        clear ho hb1 s1 htb
        by_cases hlt : k < l.length
        · obtain ⟨c0, c1, c2⟩ := (hl.below hbl hbw) k hlt
          clear hl
          obtain ⟨s, hs⟩ : ∃ s, s = l.getD k (0, 0, 0) := ⟨_, rfl⟩
          rw [← hs] at c0 c1 c2
          have HS : Hid (s = l.getD k (0, 0, 0)) := hs
          clear hs
          cases hq : outQ p s
          · have HQ : Hid (outQ p s = false) := hq
            clear hq
            go_wp2_with (go_at_call 55; refine (notTakenOut_is (s := s) HQ.out _).mono ?_; rintro e w2 ⟨rfl, hb2⟩)
            have ho2 : Own w2 w.heap.size (.slice a m c) (settled p (outQ p) (l.take (k + 1))) := by
              rw [settled_take_no p (outQ p) l k hlt (by rw [← HS.out]; exact HQ.out)]
              exact Own.below (Own.alloc HO.out _) hb2
            go_roundw
            case rel => exact ⟨k + 1, a, m, c, by omega, by go_num, rfl, by omega, ho2, (hbl.alloc hsz _).trans (hb2.mono (by simp; omega))⟩
            case measure => simp [intOf]; omega
          · have HQ : Hid (outQ p s = true) := hq
            clear hq
            go_wp2_with (go_at_call 55; refine (notTakenOut_is (s := s) HQ.out _).mono ?_; rintro e w2 ⟨rfl, hb2⟩)
            have z2 := hb2.size
            simp only [World.size_alloc] at z2
            have ag : (Value.slice a m c).ownBlock ≠ some wr.heap.size := fun e => by have := (HO.out.row.lt _ e).2; omega
            have d0 : w2.cell? ⟨wr.heap.size, 0, none⟩ = some (.int .u8 s.1) := (hb2.cell (p := ⟨wr.heap.size, 0, none⟩) (by simp)).trans (by simp)
            have d1 : w2.cell? ⟨wr.heap.size, 1, none⟩ = some (.int .i64 s.2.1) := (hb2.cell (p := ⟨wr.heap.size, 1, none⟩) (by simp)).trans (by simp)
            have d2 : w2.cell? ⟨wr.heap.size, 2, none⟩ = some (.int .i64 s.2.2) := (hb2.cell (p := ⟨wr.heap.size, 2, none⟩) (by simp)).trans (by simp)
            have HO2 : Hid (Own w2 w.heap.size (.slice a m c) (settled p (outQ p) (l.take k))) := Own.below (Own.alloc HO.out _) hb2
            clear c0 c1 c2
            go_region_held3 (fun w' => w'.cell? ⟨wr.heap.size, 0, none⟩ = some (.int .u8 s.1) ∧ w'.cell? ⟨wr.heap.size, 1, none⟩ = some (.int .i64 s.2.1) ∧ w'.cell? ⟨wr.heap.size, 2, none⟩ = some (.int .i64 s.2.2))
              (first
                | go_keep
                | (go_split_ands
                   refine ⟨?_, ?_, ?_⟩
                   · (rw [hgrow.cell_far _ (by simp; omega) (Ne.symm ag)]; assumption)
                   · (rw [hgrow.cell_far _ (by simp; omega) (Ne.symm ag)]; assumption)
                   · (rw [hgrow.cell_far _ (by simp; omega) (Ne.symm ag)]; assumption)))
              ((first
                | (go_at_call 72; refine (without_any _ _ _).mono ?_; rintro e w' ⟨rfl, rfl⟩)
                | (refine step_append_lies _ (by rfl) _ _ _ (by rfl) w.heap.size 75 i0 _ 3 24 Try.underlying38 hi hz0 hz1 hz2 rfl (by omega) (.slice a m c) m (flat (settled p (outQ p) (l.take k))) (by rfl) ((HO2.out.row.alloc _).drew) ⟨w2.heap.size, 0, none⟩ 1 1 [.int .u8 s.1, .int .i64 (woN p s.2.1), .int .i64 (woN p s.2.2)] (by rfl) (by rfl) (World.news_of_block (cs := #[.int .u8 s.1, .int .i64 (woN p s.2.1), .int .i64 (woN p s.2.2)]) (t := 75) (fr := (0, 0)) (heap_alloc_new w2 _)) (three_oneCell _ _ _) (by omega) (by unfold maxLen; omega) (by omega) (by simp; omega) (w2.heap.size + 1) (by simp) ?_; intro gg cc w3 hown3 hgrow hat hltg)))
            obtain ⟨a', c', hv, ho3, hb3⟩ := own_step (s := (s.1, woN p s.2.1, woN p s.2.2)) HO2.out ((hbl.alloc hsz _).trans (hb2.mono (by simp; omega))) (by omega) hown3 (grown_of_drew hgrow)
            have ho3' : Own w3 w.heap.size (.slice a' (m + 1) c') (settled p (outQ p) (l.take (k + 1))) := by
              rw [settled_take_yes p (outQ p) l k hlt (by rw [← HS.out]; exact HQ.out), ← HS.out]
              exact ho3
            have HV : Hid (Value.slice (some ⟨gg, 0, none⟩) (m + 1) cc = .slice a' (m + 1) c') := hv
            have HO3 : Hid (Own w3 w.heap.size (.slice a' (m + 1) c') (settled p (outQ p) (l.take (k + 1)))) := ho3'
            clear hv ho3 ho3' hown3 hgrow hat
            go_wp2_with fail
            go_roundw
            case rel => exact ⟨k + 1, a', m + 1, c', by omega, by go_num, HV.out, by omega, HO3.out, hb3⟩
            case measure => simp [intOf]; omega
        · obtain rfl : k = l.length := by omega
          have ho := HO.out
          rw [List.take_of_length_le (Nat.le_refl _)] at ho
          go_wp2_with fail
          go_ret
          exact ⟨_, rfl, ho, hbl⟩

end Go.Proofs.Ytkgdocohdjebfaa
namespace Go.Proofs.Ytkgdocohdjebfaa
open Go.RowKit

/-- A value that owns a list of bytes. -/
def OwnB (w : World) (B : Nat) (v : Value) (ns : List Int) : Prop := w.ownsRow B 5 1 v ns.length (ns.map (Value.int .u8))

theorem OwnB.shape {w : World} {B : Nat} {v : Value} {ns : List Int} (h : OwnB w B v ns) : ∃ a cap, v = .slice a ns.length cap := by
  have h' := h
  unfold OwnB at h'
  rcases h'.2 with ⟨rfl, h0⟩ | ⟨g, cap, cur, rfl, r⟩
  · exact ⟨none, 0, by rw [h0]⟩
  · exact ⟨_, _, rfl⟩
theorem OwnB.below {w w' : World} {B : Nat} {v : Value} {l : List Int} (h : OwnB w B v l) (hb : Below w.heap.size w w') : OwnB w' B v l := own_below h hb
theorem OwnB.nil (w : World) (B : Nat) : OwnB w B (.slice none 0 0) [] := World.ownsRow_nil _ _ _ _
theorem OwnB.alloc {w : World} {B : Nat} {v : Value} {l : List Int} (h : OwnB w B v l) (o : Obj) : OwnB (w.alloc o) B v l := World.ownsRow.alloc h o
theorem OwnB.emptyNew (w : World) (B : Nat) (hB : B ≤ w.heap.size) : OwnB (w.alloc (.cells #[] 5)) B (.slice (some ⟨w.heap.size, 0, none⟩) 0 0) [] :=
  World.ownsRow_made w #[] 0 hB (Nat.zero_le _) rfl
theorem OwnB.len {w : World} {B : Nat} {a : Option Addr} {n cap : Nat} {l : List Int} (h : OwnB w B (.slice a n cap) l) : n = l.length := by
  obtain ⟨a', c', he⟩ := h.shape
  simp only [Value.slice.injEq] at he
  exact he.2.1
theorem OwnB.row {w : World} {B : Nat} {a : Option Addr} {n cap : Nat} {l : List Int} (h : OwnB w B (.slice a n cap) l) : w.ownsRow B 5 1 (.slice a n cap) n (l.map (Value.int .u8)) := by
  have := h.len
  subst this
  exact h

theorem ownB_step {B : Nat} {w wr w1 : World} {a : Option Addr} {k c : Nat} {v' : Value} {l : List Int} {x : Int} {o : Obj} (ho : OwnB wr B (.slice a k c) l) (hbl : Below B w wr) (hB : B ≤ wr.heap.size)
    (hown : w1.ownsRow B 5 1 v' (k + 1) (l.map (Value.int .u8) ++ [.int .u8 x])) (hgrow : (wr.alloc o).grownBy w1 (Value.slice a k c).ownBlock) :
    ∃ a' c', v' = .slice a' (k + 1) c' ∧ OwnB w1 B (.slice a' (k + 1) c') (l ++ [x]) ∧ Below B w w1 := by
  have hk := ho.len
  have h1 : OwnB w1 B v' (l ++ [x]) := by
    unfold OwnB
    rw [List.length_append, List.map_append, show l.length + [x].length = k + 1 by simp; omega]
    exact hown
  obtain ⟨a', c', rfl⟩ := h1.shape
  have e : (l ++ [x]).length = k + 1 := by simp; omega
  rw [e] at h1 ⊢
  refine ⟨a', c', rfl, h1, ?_⟩
  exact (hbl.alloc hB _).grown hgrow (by simp; omega) (fun q hq => (ho.row.lt q hq).1)

theorem convert_own {w : World} {B : Nat} {a : Option Addr} {n cap : Nat} {ns : List Int} (h : OwnB w B (.slice a n cap) ns) :
    (convert 22 9 (.slice a n cap)).run Try.prog w = .ok (.string (strOfNums ns)) w := by
  have hn := h.len
  have hr := h.row
  rcases hr.2 with ⟨hv, h0⟩ | ⟨g, cap', cur, hv, r⟩
  · simp only [Value.slice.injEq] at hv
    obtain ⟨rfl, rfl, rfl⟩ := hv
    have : ns = [] := List.eq_nil_of_length_eq_zero hn.symm
    subst this
    exact run_convert_bytes_nil w 22 5 Try.underlying22 Try.underlying5 0 0 _ Try.underlying9
  · simp only [Value.slice.injEq, true_and] at hv
    obtain ⟨rfl, rfl⟩ := hv
    refine run_convert_bytes_arg w 22 5 Try.underlying22 Try.underlying5 g 0 n cap ns hn.symm ?_ _ Try.underlying9
    intro i hi
    rw [Nat.zero_add, hr.cellAt i (by omega)]
    rw [List.getElem?_map, List.getElem?_eq_getElem (by omega)]
    simp [List.getD, show i < ns.length by omega]

theorem cell_one_new' (w : World) (x : Value) (t : TypeId) : ∀ j u, [x][j]? = some u → (w.alloc (.cells #[x] t)).cell? ((⟨w.heap.size, 0, none⟩ : Addr).add j) = some u := by
  intro j u hj
  match j, hj with
  | 0, hj => simp at hj; subst hj; simp [Addr.add]
  | (j + 1), hj => simp at hj
theorem byte_oneCell (x : Int) : ∀ u ∈ [Value.int .u8 x], u.oneCell' = true := by
  intro u hu
  simp at hu
  subst hu
  rfl

theorem Try.info5 : (Try.prog.info? 5).map (fun i => (i.zero, i.size, i.bytes)) = some (some (.int .u8 0), 1, 1) := by kernel_rfl

def bytesOf (l : List Sg) : List Int := l.map (·.1)
theorem bytesOf_take_succ (l : List Sg) (k : Nat) (hk : k < l.length) : bytesOf (l.take (k + 1)) = bytesOf (l.take k) ++ [(l.getD k (0, 0, 0)).1] := by
  have e : l.getD k (0, 0, 0) = l[k] := by simp [List.getD, hk]
  rw [e]
  unfold bytesOf
  rw [List.take_succ_eq_append_getElem hk, List.map_append]
  rfl

set_option maxHeartbeats 1000000 in
theorem textBytes_any (a : Option Addr) (n cap : Nat) (l : List Sg) (w : World) (h : Txt w a n cap l) (hn : n ≤ 1048576) :
    Calls Try.prog 53 #[.slice a n cap] w fun e w' => e = .returned (.string (strOfNums (bytesOf l))) ∧ Below w.heap.size w w' := by
  obtain ⟨rfl, hc, hm, hl⟩ := h
  unfold maxLen at hm
  obtain ⟨i0, hi, hz0, hz1, hz2⟩ := info_parts Try.info5
  rcases hl with rfl | ⟨b, off, rfl, hbw, hl⟩
  · have hcv := convert_own (OwnB.nil w 0)
    go_enter Try.func53, Try.ntmps53
    go_wp2_with fail
    refine wp_loop_rounds 1 ?_
    rw [rounds_succ]
    go_wp2_with fail
    go_ret
    exact ⟨rfl, Below.refl _ _⟩
  · go_enter Try.func53, Try.ntmps53
    go_wp2_with fail
    go_loopw [3, 8] (fun v i wr => ∃ (k : Nat) (a : Option Addr) (c : Nat), k ≤ l.length ∧ i = .int .i64 k ∧ v = .slice a k c ∧ OwnB wr w.heap.size (.slice a k c) (bytesOf (l.take k)) ∧ Below w.heap.size w wr) (fun _ i _ => l.length - (intOf i).toNat)
    case atStart => exact ⟨0, none, 0, Nat.zero_le _, rfl, rfl, by simpa [bytesOf] using OwnB.nil _ _, Below.refl _ _⟩
    case round =>
      obtain ⟨k, a, c, hk, rfl, rfl, ho, hbl⟩ := hrel
      have hsz := hbl.size
      by_cases hlt : k < l.length
      · have HO : Hid (OwnB wr w.heap.size (.slice a k c) (bytesOf (l.take k))) := ho
        clear ho
        obtain ⟨c0, c1, c2⟩ := (hl.below hbl hbw) k hlt
        clear hl
        obtain ⟨s, hs⟩ : ∃ s, s = l.getD k (0, 0, 0) := ⟨_, rfl⟩
        rw [← hs] at c0 c1 c2
        have HS : Hid (s = l.getD k (0, 0, 0)) := hs
        clear hs
        go_wp2_with (at_builtin; refine wpList_append_own _ rfl (.tmp 12) (.tmp 15) 22 rfl w.heap.size 5 i0 (.int .u8 0) 1 1 Try.underlying22 hi hz0 hz1 hz2 rfl (by decide) (.slice a k c) _ _ rfl ((HO.out.row.alloc _).alloc _) ⟨wr.heap.size + 1, 0, none⟩ 1 1 [.int .u8 s.1] rfl rfl (by have e := cell_one_new' (wr.alloc (.cells #[.int .u8 s.1, .int .i64 s.2.1, .int .i64 s.2.2] 75)) (.int .u8 s.1) 5; simpa using e) (byte_oneCell _) (by unfold maxLen; omega) (by omega) (by simp; omega) ?_; intro v' w1 hown' hgrow _)
        obtain ⟨a', c', rfl, ho1, hb1⟩ := ownB_step (x := s.1) (HO.out.alloc _) (hbl.alloc hsz _) (by simp; omega) hown' hgrow
        rw [HS.out, ← bytesOf_take_succ l k hlt] at ho1
        go_roundw
        case rel => exact ⟨k + 1, a', c', by omega, by go_num, rfl, ho1, hb1⟩
        case measure => simp [intOf]; omega
      · obtain rfl : k = l.length := by omega
        rw [List.take_of_length_le (Nat.le_refl _)] at ho
        have hcv := convert_own ho
        clear ho
        go_wp2_with fail
        go_ret
        exact ⟨rfl, hbl⟩

def nowL (l : List Sg) : List Int := bytesOf (settleL 7 (outQ 7) l)
theorem settleL_len (p : Int) (q : Sg → Bool) (l : List Sg) : (settleL p q l).length ≤ 24 := by
  unfold settleL
  cases h : textB l
  · simp
  · have := settled_len p q l
    have := textB_len h
    simp
    omega

set_option maxHeartbeats 400000 in
theorem implTextNow_any (a : Option Addr) (n cap : Nat) (l : List Sg) (w : World) (h : Txt w a n cap l) :
    Calls Try.prog 24 #[.slice a n cap] w fun e w' => e = .returned (.string (strOfNums (nowL l))) ∧ Below w.heap.size w w' := by
  go_enter Try.func24, Try.ntmps24
  go_wp2_with fail
  refine (settleOut_any a n cap l 7 _ h).mono ?_
  rintro e w1 ⟨v, rfl, ho1, hb1⟩
  obtain ⟨a1, p1, rfl, ht1⟩ := ho1.shape
  have hl := settleL_len 7 (outQ 7) l
  have s1 := hb1.size
  go_wp2_with fail
  refine (textBytes_any _ _ _ _ _ ht1 (by omega)).mono ?_
  rintro e w2 ⟨rfl, hb2⟩
  go_wp2_with fail
  go_ret
  exact ⟨rfl, hb1.trans (hb2.mono s1)⟩

end Go.Proofs.Ytkgdocohdjebfaa
namespace Go.Proofs.Ytkgdocohdjebfaa
open Go.RowKit

theorem hasB7 {n : Int} (h : whoB n = true) : hasB 7 n = !(n == 0) := by
  simp [whoB] at h
  rcases (show n = 0 ∨ n = 1 ∨ n = 2 ∨ n = 3 from by omega) with rfl | rfl | rfl | rfl <;> rfl
def noOut (s : Sg) : Bool := s.2.2 == 0
def noIn (s : Sg) : Bool := s.2.1 == 0
def pickL (q : Sg → Bool) (l : List Sg) : List Int := if textB l then bytesOf (l.filter q) else []

theorem filter_congr' {q r : Sg → Bool} {l : List Sg} (h : ∀ s ∈ l, q s = r s) : l.filter q = l.filter r := List.filter_congr h

theorem nowL_eq (l : List Sg) : nowL l = pickL noOut l := by
  unfold nowL pickL settleL
  cases h : textB l
  · rfl
  · simp only [if_true]
    have e : l.filter (outQ 7) = l.filter noOut := filter_congr' (fun s hs => by
      have := sgB_parts (textB_all h s hs)
      simp [outQ, noOut, hasB7 this.2.2.1])
    unfold settled bytesOf
    rw [e, List.map_map]
    rfl
theorem picked_yes (q : Sg → Bool) (l : List Sg) (k : Nat) (hk : k < l.length) (h : q (l.getD k (0, 0, 0)) = true) :
    bytesOf ((l.take (k + 1)).filter q) = bytesOf ((l.take k).filter q) ++ [(l.getD k (0, 0, 0)).1] := by
  have e : l.getD k (0, 0, 0) = l[k] := by simp [List.getD, hk]
  rw [e] at h ⊢
  unfold bytesOf
  rw [List.take_succ_eq_append_getElem hk, List.filter_append, List.map_append]
  simp [h]
theorem picked_no (q : Sg → Bool) (l : List Sg) (k : Nat) (hk : k < l.length) (h : q (l.getD k (0, 0, 0)) = false) :
    bytesOf ((l.take (k + 1)).filter q) = bytesOf ((l.take k).filter q) := by
  have e : l.getD k (0, 0, 0) = l[k] := by simp [List.getD, hk]
  rw [e] at h
  unfold bytesOf
  rw [List.take_succ_eq_append_getElem hk, List.filter_append, List.map_append]
  simp [h]

theorem implTextNow_is {a : Option Addr} {n cap : Nat} {l : List Sg} {w : World} (h : Txt w a n cap l) {S : ByteArray} (hS : strOfNums (pickL noOut l) = S) :
    Calls Try.prog 24 #[.slice a n cap] w fun e w' => e = .returned (.string S) ∧ Below w.heap.size w w' := by
  rw [← hS, ← nowL_eq]; exact implTextNow_any a n cap l w h

end Go.Proofs.Ytkgdocohdjebfaa
namespace Go.Proofs.Ytkgdocohdjebfaa
open Go.RowKit

theorem Hold.drop {w0 u : World} {x : Nat × Array Value × TypeId} {rs : List (Nat × Array Value × TypeId)} {ts : List (Option Addr × Nat × Nat × List Cl)} (h : Hold w0 (x :: rs) ts u) : Hold w0 rs ts u := ⟨h.1, fun r hr => h.2.1 r (List.mem_cons_of_mem _ hr), h.2.2⟩
theorem strOfNums_two (a b : List Int) : strOfNums a ++ strOfNums b = strOfNums (a ++ b) := by
  apply ByteArray.ext
  simp [strOfNums, ByteArray.data_append]
/-- The bytes of what is not taken out. -/
def outB (l : List Sg) : List Int := bytesOf (l.filter noOut)
theorem outB_append (a b : List Sg) : outB (a ++ b) = outB a ++ outB b := by
  unfold outB bytesOf
  rw [List.filter_append, List.map_append]
theorem outB_len (l : List Sg) : (outB l).length ≤ l.length := by
  unfold outB bytesOf
  rw [List.length_map]
  exact List.length_filter_le _ _
theorem implTextNow_out {a : Option Addr} {n cap : Nat} {l : List Sg} {w : World} (h : Txt w a n cap l) (ht : textB l = true) {S : ByteArray} (hS : strOfNums (outB l) = S) :
    Calls Try.prog 24 #[.slice a n cap] w fun e w' => e = .returned (.string S) ∧ Below w.heap.size w w' := by
  have : nowL l = outB l := by
    rw [nowL_eq]
    unfold pickL outB
    rw [ht, if_pos rfl]
  rw [← hS, ← this]
  exact implTextNow_any a n cap l w h
section
variable {R C : Int} {l : List Cl} {r c d g : Nat}
/-- A cell that begins in a rectangle that cuts none is in it. -/
theorem full_start (h : okB R C l = true) (hall : l.all (fun z => !cutB r c d g z) = true) {x : Cl} (hx : x ∈ l) : fullB r c d g x = decide ((r : Int) ≤ x.1 ∧ x.1 < (r : Int) + d ∧ (c : Int) ≤ x.2.1 ∧ x.2.1 < (c : Int) + g) := by
  have hw := ok_cell h hx
  obtain ⟨x1, x2, x3, x4, tx⟩ := x
  simp only at hw ⊢
  obtain ⟨x1, rfl⟩ : ∃ z : Nat, x1 = z := ⟨x1.toNat, by omega⟩
  obtain ⟨x2, rfl⟩ : ∃ z : Nat, x2 = z := ⟨x2.toNat, by omega⟩
  obtain ⟨x3, rfl⟩ : ∃ z : Nat, x3 = z := ⟨x3.toNat, by omega⟩
  obtain ⟨x4, rfl⟩ : ∃ z : Nat, x4 = z := ⟨x4.toNat, by omega⟩
  by_cases hin : inR r c d g x1 x2
  · rw [decide_eq_true (by unfold inR at hin; omega)]
    have hc := List.all_eq_true.1 hall _ hx
    unfold cutB at hc
    cases hq : outsB r c d g ((x1 : Int), (x2 : Int), (x3 : Int), (x4 : Int), tx)
    · rw [hq] at hc
      simpa using hc
    · exact absurd hin (outs_iff.1 hq x1 x2 (Nat.le_refl _) (by omega) (Nat.le_refl _) (by omega))
  · rw [decide_eq_false (by unfold inR at hin; omega)]
    cases hf : fullB r c d g ((x1 : Int), (x2 : Int), (x3 : Int), (x4 : Int), tx)
    · rfl
    · exact absurd ((full_iff (by omega) (by omega)).1 hf x1 x2 (Nat.le_refl _) (by omega) (Nat.le_refl _) (by omega)) hin
end
end Go.Proofs.Ytkgdocohdjebfaa
namespace Go.Proofs.Ytkgdocohdjebfaa
open Go.RowKit

theorem atN_cases (R C r c : Int) (l : List Cl) : atN R C l r c = -1 ∨ ∃ k : Nat, k < l.length ∧ atN R C l r c = (k : Int) := by
  unfold atN
  by_cases h : okB R C l = true
  · rw [if_pos h]
    cases hq : l.findIdx? (fun x => inB x r c) with
    | none => exact Or.inl rfl
    | some i =>
      obtain ⟨hi, _⟩ := List.findIdx?_eq_some_iff_getElem.1 hq
      exact Or.inr ⟨i, hi, rfl⟩
  · rw [if_neg h]
    exact Or.inl rfl
set_option maxRecDepth 100000 in
set_option maxHeartbeats 4000000 in
theorem lmSquare_any (R C r c : Int) (a : Option Addr) (n cap : Nat) (l : List Cl) (w : World) (h : Tab w a n cap l) :
    Calls Try.prog 22 #[.agg #[.int .i64 R, .int .i64 C, .slice a n cap], .int .i64 r, .int .i64 c] w fun e w' => (∃ ta tn tc, e = .returned (.slice ta tn tc) ∧ Txt w' ta tn tc (sqT R C l r c)) ∧ Below w.heap.size w w' := by
  have H : Hid (Tab w a n cap l) := h
  clear h
  obtain ⟨x, HX⟩ : ∃ x, Hid (atN R C l r c = x) := ⟨_, rfl⟩
  go_enter Try.func22, Try.ntmps22
  go_upto_region 1 with fail
  have H0 := Hold.first (Below.refl w.heap.size w) H.out #[.int .i64 R, .int .i64 C, .slice a n cap] 25
  generalize (w.alloc (.cells #[.int .i64 R, .int .i64 C, .slice a n cap] 25)) = v0 at H0 ⊢
  obtain ⟨Tb, hTe⟩ : ∃ T, w.heap.size = T := ⟨_, rfl⟩
  have HH : Hid (Hold w [(Tb, #[.int .i64 R, .int .i64 C, .slice a n cap], 25)] [(a, n, cap, l)] v0) := by rw [← hTe]; exact H0
  rw [hTe]
  clear H0
  go_upto_region 2 with (first | (refine wpList_load_row rfl 25 (.tmp 3) rfl Tb rfl 25 #[.int .i64 R, .int .i64 C, .slice a n cap] (0, 0) _ (HH.out.row 0 rfl) Try.underlying25 rfl tab_info ?_) | (go_at_call 20; refine (implTableAt_is HX.out (HH.out.tab 0 rfl)).mono ?_; rintro e u1 ⟨rfl, hb⟩; replace HH : Hid (Hold w [(Tb, #[.int .i64 R, .int .i64 C, .slice a n cap], 25)] [(a, n, cap, l)] u1) := HH.out.go hb; clear hb))
  rcases atN_cases R C r c l with e | ⟨k, hk, e⟩
  · have hxe : x = -1 := HX.out.symm.trans e
    subst hxe
    go_wp2_with fail
    go_ret
    refine ⟨⟨none, 0, 0, rfl, ?_⟩, HH.out.1⟩
    unfold sqT
    rw [e, if_pos (by omega)]
    exact ⟨rfl, Nat.le_refl _, Nat.zero_le _, .inl rfl⟩
  · have hxe : x = k := HX.out.symm.trans e
    subst hxe
    have HT := HH.out.tab 0 rfl
    have hn := HT.1
    have hnc := HT.2.1
    have hm := HT.2.2.1
    unfold maxLen at hm
    rcases HT.2.2.2 with e0 | ⟨b, off, rfl, hbv, hcl⟩
    · rw [e0] at hk
      exact absurd hk (by simp)
    obtain ⟨-, -, -, -, ta, tn, tc, x4, ht4⟩ := hcl k hk
    have q2 : u1.cell? ⟨Tb, 2, none⟩ = some (.slice (some ⟨b, off, none⟩) n cap) := (HH.out.row 0 rfl).cell 2
    have HX4 : Hid (Txt u1 ta tn tc (l.getD k cl0).2.2.2.2) := ht4
    have hk0 : (0 : Int) ≤ (k : Int) := by omega
    have hk1 : (k : Int) < (n : Int) := by omega
    have HN : Hid (n = l.length) := hn
    clear hcl ht4 HT hn
    go_wp2_with fail
    go_ret
    refine ⟨⟨ta, tn, tc, rfl, ?_⟩, HH.out.1⟩
    unfold sqT
    rw [e, if_neg (by omega)]
    exact HX4.out
end Go.Proofs.Ytkgdocohdjebfaa
namespace Go.Proofs.Ytkgdocohdjebfaa
open Go.RowKit

set_option maxRecDepth 100000 in
set_option maxHeartbeats 8000000 in
theorem lawTabMergeNow_walk (a : Option Addr) (n cap : Nat) (zs : List Int) (w : World) (h : Byt w.heap.size w a n cap zs) :
    Calls Try.prog 5 #[.slice a n cap] w fun e w' => e = .returned (.bool true) ∧ Below w.heap.size w w' := by
  have HY : Hid (Byt w.heap.size w a n cap zs) := h
  have hc := h.2.1
  have hm := h.2.2.1
  unfold maxLen at hm
  clear h
  by_cases hn : 1048576 < n
  · have hd : decide ((1048576 : Int) < (n : Int)) = true := by simp; omega
    go_enter Try.func5, Try.ntmps5
    go_wp2_with fail
    go_ret
    exact ⟨rfl, Below.refl _ _⟩
  have hd : decide ((1048576 : Int) < (n : Int)) = false := by simp; omega
  go_enter Try.func5, Try.ntmps5
  go_upto_region 4 with (go_at_call 17; refine (drawTableMerge_any w.heap.size a n cap zs _ HY.out (Nat.le_refl _)).mono ?_; rintro e w1 ⟨⟨R, C, a', n', c', l, r, c, d, g, rfl, hT1, hS1, hrr, hcc, hdd, hgg⟩, hb1⟩)
  have H0 := Hold.first hb1 hT1 #[.int .i64 R, .int .i64 C, .slice a' n' c'] 25
  generalize (w1.alloc (.cells #[.int .i64 R, .int .i64 C, .slice a' n' c'] 25)) = v0 at H0 ⊢
  obtain ⟨Tb, hTe⟩ : ∃ T, w1.heap.size = T := ⟨_, rfl⟩
  rw [hTe] at H0 ⊢
  have HH : Hid (Hold w [(Tb, #[.int .i64 R, .int .i64 C, .slice a' n' c'], 25)] [(a', n', c', l)] v0) := H0
  obtain ⟨hRb, hCb, hLb, hXb⟩ := hS1
  have HLX : Hid (∀ z ∈ l, z.2.2.2.2.length ≤ 25) := hXb
  clear hT1 hb1 H0 hTe hXb
  obtain ⟨can, HC⟩ : ∃ o, Hid (mergeB R C l r c d g = o) := ⟨_, rfl⟩
  cases can
  · go_upto_region 5 with (first | (refine wpList_load_row rfl 25 (.tmp 3) rfl Tb rfl 25 #[.int .i64 R, .int .i64 C, .slice a' n' c'] (0, 0) _ (HH.out.row 0 rfl) Try.underlying25 rfl tab_info ?_) | (go_at_call 18; refine (specTableMerge_any R C r c d g a' n' c' l _ (HH.out.tab 0 rfl)).mono ?_; intro e w1' hr; obtain ⟨hr1, hb⟩ := hr; obtain ⟨Wa, Wn, Wc, rfl, hT⟩ := tabRes_f HC.out hr1; clear hr1))
    have H0 := HH.out.res hb hT #[.int .i64 0, .int .i64 0, .slice Wa Wn Wc] 25
    generalize (w1'.alloc (.cells #[.int .i64 0, .int .i64 0, .slice Wa Wn Wc] 25)) = v1 at H0 ⊢
    obtain ⟨Wb, hTe⟩ : ∃ T, w1'.heap.size = T := ⟨_, rfl⟩
    rw [hTe] at H0 ⊢
    replace HH : Hid (Hold w [(Wb, #[.int .i64 0, .int .i64 0, .slice Wa Wn Wc], 25), (Tb, #[.int .i64 R, .int .i64 C, .slice a' n' c'], 25)] [(Wa, Wn, Wc, []), (a', n', c', l)] v1) := H0
    clear hT hb H0 hTe
    go_upto_region 6 with (first | (refine wpList_load_row rfl 25 (.tmp 8) rfl Wb rfl 25 #[.int .i64 0, .int .i64 0, .slice Wa Wn Wc] (0, 0) _ (HH.out.row 0 rfl) Try.underlying25 rfl tab_info ?_) | (refine wpList_load_row rfl 25 (.tmp 3) rfl Tb rfl 25 #[.int .i64 R, .int .i64 C, .slice a' n' c'] (0, 0) _ (HH.out.row 1 rfl) Try.underlying25 rfl tab_info ?_) | (go_at_call 19; refine (implTableMerge_any R C r c d g a' n' c' l _ (HH.out.tab 1 rfl)).mono ?_; intro e w2' hr; obtain ⟨hr1, hb⟩ := hr; obtain ⟨Xa, Xn, Xc, rfl, hT⟩ := tabRes_f HC.out hr1; clear hr1))
    have H0 := HH.out.res hb hT #[.int .i64 0, .int .i64 0, .slice Xa Xn Xc] 25
    generalize (w2'.alloc (.cells #[.int .i64 0, .int .i64 0, .slice Xa Xn Xc] 25)) = v2 at H0 ⊢
    obtain ⟨Xb, hTe⟩ : ∃ T, w2'.heap.size = T := ⟨_, rfl⟩
    rw [hTe] at H0 ⊢
    replace HH : Hid (Hold w [(Xb, #[.int .i64 0, .int .i64 0, .slice Xa Xn Xc], 25), (Wb, #[.int .i64 0, .int .i64 0, .slice Wa Wn Wc], 25), (Tb, #[.int .i64 R, .int .i64 C, .slice a' n' c'], 25)] [(Xa, Xn, Xc, []), (Wa, Wn, Wc, []), (a', n', c', l)] v2) := H0
    clear hT hb H0 hTe
    go_wp2_with (first | (refine wpList_load_rowG (by rfl) 25 (.tmp 10) rfl Xb rfl 25 #[.int .i64 0, .int .i64 0, .slice Xa Xn Xc] (0, 0) _ (HH.out.row 0 rfl) Try.underlying25 rfl tab_info ?_) | (refine wpList_load_rowG (by rfl) 25 (.tmp 8) rfl Wb rfl 25 #[.int .i64 0, .int .i64 0, .slice Wa Wn Wc] (0, 0) _ (HH.out.row 1 rfl) Try.underlying25 rfl tab_info ?_) | (refine wpList_load_rowG (by rfl) 25 (.tmp 3) rfl Tb rfl 25 #[.int .i64 R, .int .i64 C, .slice a' n' c'] (0, 0) _ (HH.out.row 2 rfl) Try.underlying25 rfl tab_info ?_) | (go_at_call 12; refine (lmTable_same (0) (0) Xa Xn Xc [] Wa Wn Wc _ (HH.out.tab 0 rfl) (HH.out.tab 1 rfl)).mono ?_; rintro e uu ⟨rfl, hb⟩; replace HH : Hid (Hold w [(Xb, #[.int .i64 0, .int .i64 0, .slice Xa Xn Xc], 25), (Wb, #[.int .i64 0, .int .i64 0, .slice Wa Wn Wc], 25), (Tb, #[.int .i64 R, .int .i64 C, .slice a' n' c'], 25)] [(Xa, Xn, Xc, []), (Wa, Wn, Wc, []), (a', n', c', l)] uu) := HH.out.go hb; clear hb))
    go_ret
    exact ⟨rfl, HH.out.1⟩
  · obtain ⟨r, c, d, g, rfl, rfl, rfl, rfl, HOK, hd1, hg1, hrR, hcC, HAL, hmn, HTX⟩ := merge_data HC.out
    replace HOK : Hid (okB R C l = true) := HOK
    replace HAL : Hid (l.all (fun z => !cutB r c d g z) = true) := HAL
    replace HTX : Hid (textB (mTx r c d g l) = true) := HTX
    obtain ⟨hR1, hC1, -, -⟩ := gridP_of_okB HOK.out
    obtain ⟨R, rfl⟩ : ∃ z : Nat, R = z := ⟨R.toNat, by omega⟩
    obtain ⟨C, rfl⟩ : ∃ z : Nat, C = z := ⟨C.toNat, by omega⟩
    go_upto_region 5 with (first | (refine wpList_load_row rfl 25 (.tmp 3) rfl Tb rfl 25 #[.int .i64 R, .int .i64 C, .slice a' n' c'] (0, 0) _ (HH.out.row 0 rfl) Try.underlying25 rfl tab_info ?_) | (go_at_call 18; refine (specTableMerge_any R C r c d g a' n' c' l _ (HH.out.tab 0 rfl)).mono ?_; intro e w1' hr; obtain ⟨hr1, hb⟩ := hr; obtain ⟨Wa, Wn, Wc, rfl, hT⟩ := tabRes_t HC.out hr1; clear hr1))
    have H0 := HH.out.res hb hT #[.int .i64 R, .int .i64 C, .slice Wa Wn Wc] 25
    generalize (w1'.alloc (.cells #[.int .i64 R, .int .i64 C, .slice Wa Wn Wc] 25)) = v1 at H0 ⊢
    obtain ⟨Wb, hTe⟩ : ∃ T, w1'.heap.size = T := ⟨_, rfl⟩
    rw [hTe] at H0 ⊢
    replace HH : Hid (Hold w [(Wb, #[.int .i64 R, .int .i64 C, .slice Wa Wn Wc], 25), (Tb, #[.int .i64 R, .int .i64 C, .slice a' n' c'], 25)] [(Wa, Wn, Wc, (mergeL l r c d g)), (a', n', c', l)] v1) := H0
    clear hT hb H0 hTe
    go_upto_region 6 with (first | (refine wpList_load_row rfl 25 (.tmp 8) rfl Wb rfl 25 #[.int .i64 R, .int .i64 C, .slice Wa Wn Wc] (0, 0) _ (HH.out.row 0 rfl) Try.underlying25 rfl tab_info ?_) | (refine wpList_load_row rfl 25 (.tmp 3) rfl Tb rfl 25 #[.int .i64 R, .int .i64 C, .slice a' n' c'] (0, 0) _ (HH.out.row 1 rfl) Try.underlying25 rfl tab_info ?_) | (go_at_call 19; refine (implTableMerge_any R C r c d g a' n' c' l _ (HH.out.tab 1 rfl)).mono ?_; intro e w2' hr; obtain ⟨hr1, hb⟩ := hr; obtain ⟨Xa, Xn, Xc, rfl, hT⟩ := tabRes_t HC.out hr1; clear hr1))
    have H0 := HH.out.res hb hT #[.int .i64 R, .int .i64 C, .slice Xa Xn Xc] 25
    generalize (w2'.alloc (.cells #[.int .i64 R, .int .i64 C, .slice Xa Xn Xc] 25)) = v2 at H0 ⊢
    obtain ⟨Xb, hTe⟩ : ∃ T, w2'.heap.size = T := ⟨_, rfl⟩
    rw [hTe] at H0 ⊢
    replace HH : Hid (Hold w [(Xb, #[.int .i64 R, .int .i64 C, .slice Xa Xn Xc], 25), (Wb, #[.int .i64 R, .int .i64 C, .slice Wa Wn Wc], 25), (Tb, #[.int .i64 R, .int .i64 C, .slice a' n' c'], 25)] [(Xa, Xn, Xc, (mergeL l r c d g)), (Wa, Wn, Wc, (mergeL l r c d g)), (a', n', c', l)] v2) := H0
    clear hT hb H0 hTe
    go_upto_region 8 with (first | (refine wpList_load_rowG (by rfl) 25 (.tmp 10) rfl Xb rfl 25 #[.int .i64 R, .int .i64 C, .slice Xa Xn Xc] (0, 0) _ (HH.out.row 0 rfl) Try.underlying25 rfl tab_info ?_) | (refine wpList_load_rowG (by rfl) 25 (.tmp 8) rfl Wb rfl 25 #[.int .i64 R, .int .i64 C, .slice Wa Wn Wc] (0, 0) _ (HH.out.row 1 rfl) Try.underlying25 rfl tab_info ?_) | (refine wpList_load_rowG (by rfl) 25 (.tmp 3) rfl Tb rfl 25 #[.int .i64 R, .int .i64 C, .slice a' n' c'] (0, 0) _ (HH.out.row 2 rfl) Try.underlying25 rfl tab_info ?_) | (go_at_call 12; refine (lmTable_same (R) (C) Xa Xn Xc (mergeL l r c d g) Wa Wn Wc _ (HH.out.tab 0 rfl) (HH.out.tab 1 rfl)).mono ?_; rintro e uu ⟨rfl, hb⟩; replace HH : Hid (Hold w [(Xb, #[.int .i64 R, .int .i64 C, .slice Xa Xn Xc], 25), (Wb, #[.int .i64 R, .int .i64 C, .slice Wa Wn Wc], 25), (Tb, #[.int .i64 R, .int .i64 C, .slice a' n' c'], 25)] [(Xa, Xn, Xc, (mergeL l r c d g)), (Wa, Wn, Wc, (mergeL l r c d g)), (a', n', c', l)] uu) := HH.out.go hb; clear hb))
    have HTN : Hid (n' = l.length) := (HH.out.tab 2 rfl).1
    have hTc := (HH.out.tab 2 rfl).2.1
    have hTm := (HH.out.tab 2 rfl).2.2.1
    unfold maxLen at hTm
    have hn26 : n' ≤ 26 := by have := HTN.out; omega
    have HSQ : Hid (sqT R C (mergeL l r c d g) r c = mTx r c d g l) := by
      obtain ⟨k, hk, HAT, EK⟩ := merge_at HC.out hd1 hg1
      show sqT R C (mergeL l r c d g) r c = mTx r c d g l
      unfold sqT
      rw [HAT, if_neg (by omega), Int.toNat_natCast, EK]
    go_wp2_with fail
    go_loopw [12, 13] (fun sv iv wr => ∃ (p : Nat) (S : ByteArray), p ≤ n' ∧ iv = .int .i64 p ∧ sv = .string S ∧ S = strOfNums (outB (mTx r c d g (l.take p))) ∧ Hold w [(Xb, #[.int .i64 R, .int .i64 C, .slice Xa Xn Xc], 25), (Wb, #[.int .i64 R, .int .i64 C, .slice Wa Wn Wc], 25), (Tb, #[.int .i64 R, .int .i64 C, .slice a' n' c'], 25)] [(Xa, Xn, Xc, (mergeL l r c d g)), (Wa, Wn, Wc, (mergeL l r c d g)), (a', n', c', l)] wr) (fun _ iv _ => n' - (intOf iv).toNat)
    case atStart => exact ⟨0, _, Nat.zero_le _, rfl, rfl, rfl, HH.out⟩
    case round =>
      clear HH
      obtain ⟨p, S, hp, rfl, rfl, hS, hb⟩ := hrel
      have HS : Hid (S = strOfNums (outB (mTx r c d g (l.take p)))) := hS
      have hSz : S.size ≤ 700 := by
        rw [hS, strOfNums_size]
        refine Nat.le_trans (outB_len _) (Nat.le_trans (mTx_le r c d g 25 (l.take p) (fun x hx => HLX.out x (List.mem_of_mem_take hx))) ?_)
        have h2 : (l.take p).length ≤ 26 := by rw [List.length_take]; omega
        have h3 : 25 * (l.take p).length ≤ 25 * 26 := Nat.mul_le_mul_left 25 h2
        omega
      have HH : Hid (Hold w [(Xb, #[.int .i64 R, .int .i64 C, .slice Xa Xn Xc], 25), (Wb, #[.int .i64 R, .int .i64 C, .slice Wa Wn Wc], 25), (Tb, #[.int .i64 R, .int .i64 C, .slice a' n' c'], 25)] [(Xa, Xn, Xc, (mergeL l r c d g)), (Wa, Wn, Wc, (mergeL l r c d g)), (a', n', c', l)] wr) := hb
      have qT : wr.cell? ⟨Tb, 2, none⟩ = some (.slice a' n' c') := (HH.out.row 2 rfl).cell 2
      clear hb hS
      by_cases hlp : p < n'
      · have hpl : p < l.length := by have := HTN.out; omega
        have hpb : (p : Int) < (n' : Int) := by omega
        have hp0 : (0 : Int) ≤ (p : Int) := by omega
        have HTb := HH.out.tab 2 rfl
        rcases HTb.2.2.2 with e0 | ⟨b0, o0, rfl, hbv, hcl⟩
        · rw [e0] at hpl
          exact absurd hpl (by simp)
        obtain ⟨k0, k1, k2, k3, ta, tn, tc, k4, hx4⟩ := hcl p hpl
        have HF0 := full_start HOK.out HAL.out (getD_mem hpl)
        have HTO0 := ok_txt HOK.out _ (getD_mem hpl)
        have HTK0 := mTx_take r c d g l p hpl
        have HW0 := ok_cell HOK.out (getD_mem hpl)
        obtain ⟨x1, x2, x3, x4, tx, E⟩ : ∃ x1 x2 x3 x4 tx, Hid (l.getD p cl0 = (x1, x2, x3, x4, tx)) := ⟨_, _, _, _, _, rfl⟩
        rw [E.out] at k0 k1 k2 k3 hx4 HF0 HTO0 HTK0 HW0
        simp only at HW0
        have HX4 : Hid (Txt wr ta tn tc tx) := hx4
        have HF : Hid (fullB r c d g (x1, x2, x3, x4, tx) = decide ((r : Int) ≤ x1 ∧ x1 < (r : Int) + d ∧ (c : Int) ≤ x2 ∧ x2 < (c : Int) + g)) := HF0
        have HTO : Hid (textB tx = true) := HTO0
        have HTK : Hid (mTx r c d g (l.take (p + 1)) = mTx r c d g (l.take p) ++ (if fullB r c d g (x1, x2, x3, x4, tx) then tx else [])) := HTK0
        have htx24 : tx.length ≤ 24 := by
          have h1 := HTO0
          simp only [textB, Bool.and_eq_true, decide_eq_true_eq] at h1
          exact h1.1
        obtain ⟨S2, HS2⟩ : ∃ S, Hid (strOfNums (outB tx) = S) := ⟨_, rfl⟩
        have hS2 : S2.size ≤ 24 := by
          rw [← HS2.out, strOfNums_size]
          exact Nat.le_trans (outB_len _) htx24
        have HNO : Hid (fullB r c d g (x1, x2, x3, x4, tx) = false → S = strOfNums (outB (mTx r c d g (l.take (p + 1))))) := by
          intro hf
          rw [HTK.out, hf]
          simp only [Bool.false_eq_true, if_false, List.append_nil]
          exact HS.out
        have HYES : Hid (fullB r c d g (x1, x2, x3, x4, tx) = true → S ++ S2 = strOfNums (outB (mTx r c d g (l.take (p + 1))))) := by
          intro hf
          rw [HTK.out, hf, if_pos rfl, outB_append, ← strOfNums_two, ← HS.out, HS2.out]
        clear hcl hx4 HTb HF0 HTO0 HTK0
        go_upto_region 13 with fail
        clear k0 k1 k2 k3 k4 qT
        have H0 := HH.out.alloc #[.int .i64 x1, .int .i64 x2, .int .i64 x3, .int .i64 x4, .slice ta tn tc] 42
        have HX5 := HX4.out.below ((Below.refl wr.heap.size wr).alloc (Nat.le_refl _) (.cells #[.int .i64 x1, .int .i64 x2, .int .i64 x3, .int .i64 x4, .slice ta tn tc] 42))
        generalize (wr.alloc (.cells #[.int .i64 x1, .int .i64 x2, .int .i64 x3, .int .i64 x4, .slice ta tn tc] 42)) = v8 at H0 HX5 ⊢
        obtain ⟨Cb, hTe⟩ : ∃ T, wr.heap.size = T := ⟨_, rfl⟩
        rw [hTe] at H0 ⊢
        have q0 : v8.cell? ⟨Cb, 0, none⟩ = some (.int .i64 x1) := (H0.row 0 rfl).cell 0
        have q1 : v8.cell? ⟨Cb, 1, none⟩ = some (.int .i64 x2) := (H0.row 0 rfl).cell 1
        have q4 : v8.cell? ⟨Cb, 4, none⟩ = some (.slice ta tn tc) := (H0.row 0 rfl).cell 4
        replace HH : Hid (Hold w [(Xb, #[.int .i64 R, .int .i64 C, .slice Xa Xn Xc], 25), (Wb, #[.int .i64 R, .int .i64 C, .slice Wa Wn Wc], 25), (Tb, #[.int .i64 R, .int .i64 C, .slice (some ⟨b0, o0, none⟩) n' c'], 25)] [(Xa, Xn, Xc, (mergeL l r c d g)), (Wa, Wn, Wc, (mergeL l r c d g)), ((some ⟨b0, o0, none⟩), n', c', l)] v8) := H0.drop
        replace HX4 : Hid (Txt v8 ta tn tc tx) := HX5
        clear H0 hTe HX5
        by_cases i1 : (r : Int) ≤ x1
        · by_cases i2 : x1 < (r : Int) + (d : Int)
          · by_cases i3 : (c : Int) ≤ x2
            · by_cases i4 : x2 < (c : Int) + (g : Int)
              · have hf : fullB r c d g (x1, x2, x3, x4, tx) = true := HF.out.trans (decide_eq_true ⟨i1, i2, i3, i4⟩)
                go_wp2_with fail
                refine (implTextNow_out HX4.out HTO.out HS2.out).mono ?_
                rintro e u5 ⟨rfl, hb⟩
                replace HH : Hid (Hold w [(Xb, #[.int .i64 R, .int .i64 C, .slice Xa Xn Xc], 25), (Wb, #[.int .i64 R, .int .i64 C, .slice Wa Wn Wc], 25), (Tb, #[.int .i64 R, .int .i64 C, .slice (some ⟨b0, o0, none⟩) n' c'], 25)] [(Xa, Xn, Xc, (mergeL l r c d g)), (Wa, Wn, Wc, (mergeL l r c d g)), ((some ⟨b0, o0, none⟩), n', c', l)] u5) := HH.out.go hb
                clear hb q0 q1 q4
                go_wp2_with fail
                go_roundw
                case rel => exact ⟨p + 1, S ++ S2, by omega, by go_num, rfl, HYES.out hf, HH.out⟩
                case measure => simp [intOf]; omega
              · have hf : fullB r c d g (x1, x2, x3, x4, tx) = false := HF.out.trans (decide_eq_false (by omega))
                go_wp2_with fail
                go_roundw
                case rel => exact ⟨p + 1, S, by omega, by go_num, rfl, HNO.out hf, HH.out⟩
                case measure => simp [intOf]; omega
            · have hf : fullB r c d g (x1, x2, x3, x4, tx) = false := HF.out.trans (decide_eq_false (by omega))
              go_wp2_with fail
              go_roundw
              case rel => exact ⟨p + 1, S, by omega, by go_num, rfl, HNO.out hf, HH.out⟩
              case measure => simp [intOf]; omega
          · have hf : fullB r c d g (x1, x2, x3, x4, tx) = false := HF.out.trans (decide_eq_false (by omega))
            go_wp2_with fail
            go_roundw
            case rel => exact ⟨p + 1, S, by omega, by go_num, rfl, HNO.out hf, HH.out⟩
            case measure => simp [intOf]; omega
        · have hf : fullB r c d g (x1, x2, x3, x4, tx) = false := HF.out.trans (decide_eq_false (by omega))
          go_wp2_with fail
          go_roundw
          case rel => exact ⟨p + 1, S, by omega, by go_num, rfl, HNO.out hf, HH.out⟩
          case measure => simp [intOf]; omega
      · have hpb : ¬ (p : Int) < (n' : Int) := by omega
        obtain rfl : p = n' := by omega
        have HSF : Hid (strOfNums (outB (mTx r c d g l)) = S) := by
          have h1 := HS.out
          rw [List.take_of_length_le (by have := HTN.out; omega)] at h1
          exact h1.symm
        go_wp2_with (first | (refine wpList_load_row rfl 25 (.tmp 10) rfl Xb rfl 25 #[.int .i64 R, .int .i64 C, .slice Xa Xn Xc] (0, 0) _ (HH.out.row 0 rfl) Try.underlying25 rfl tab_info ?_) | (refine wpList_load_row rfl 25 (.tmp 8) rfl Wb rfl 25 #[.int .i64 R, .int .i64 C, .slice Wa Wn Wc] (0, 0) _ (HH.out.row 1 rfl) Try.underlying25 rfl tab_info ?_) | (refine wpList_load_row rfl 25 (.tmp 3) rfl Tb rfl 25 #[.int .i64 R, .int .i64 C, .slice a' p c'] (0, 0) _ (HH.out.row 2 rfl) Try.underlying25 rfl tab_info ?_) | (go_at_call 22; refine (lmSquare_any _ _ (r : Int) (c : Int) Xa Xn Xc (mergeL l r c d g) _ (HH.out.tab 0 rfl)).mono ?_; rintro e u6 ⟨⟨ya, yn, yc, rfl, ht⟩, hb⟩; rw [HSQ.out] at ht; have HY6 : Hid (Txt u6 ya yn yc (mTx r c d g l)) := ht; replace HH : Hid (Hold w [(Xb, #[.int .i64 R, .int .i64 C, .slice Xa Xn Xc], 25), (Wb, #[.int .i64 R, .int .i64 C, .slice Wa Wn Wc], 25), (Tb, #[.int .i64 R, .int .i64 C, .slice a' p c'], 25)] [(Xa, Xn, Xc, (mergeL l r c d g)), (Wa, Wn, Wc, (mergeL l r c d g)), (a', p, c', l)] u6) := HH.out.go hb; clear hb ht) | (go_at_call 24; refine (implTextNow_out HY6.out HTX.out HSF.out).mono ?_; rintro e u7 ⟨rfl, hb⟩; replace HH : Hid (Hold w [(Xb, #[.int .i64 R, .int .i64 C, .slice Xa Xn Xc], 25), (Wb, #[.int .i64 R, .int .i64 C, .slice Wa Wn Wc], 25), (Tb, #[.int .i64 R, .int .i64 C, .slice a' p c'], 25)] [(Xa, Xn, Xc, (mergeL l r c d g)), (Wa, Wn, Wc, (mergeL l r c d g)), (a', p, c', l)] u7) := HH.out.go hb; clear hb))
        go_ret
        exact ⟨rfl, HH.out.1⟩
end Go.Proofs.Ytkgdocohdjebfaa
