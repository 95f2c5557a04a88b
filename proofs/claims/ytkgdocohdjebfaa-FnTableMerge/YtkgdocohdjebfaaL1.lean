import Derived.Test.YtkgdocohdjebfaaBD2
import Derived.Test.YtkgdocohdjebfaaBD1
import Derived.Test.YtkgdocohdjebfaaBA3
import Derived.Test.YtkgdocohdjebfaaBS1
import Derived.Test.YtkgdocohdjebfaaBQ1
import Derived.Test.YtkgdocohdjebfaaBM1
import Derived.Test.YtkgdocohdjebfaaBA1
import Derived.Test.YtkgdocohdjebfaaBA2
namespace Go.Proofs.Ytkgdocohdjebfaa
open Go.RowKit

theorem results_cell_tmp4 {fn : Func} {p u u' u2 u3 : Tmp} {ty : TypeId} (h : fn.results = #[.cell p ty, .tmp u, .tmp u', .tmp u2, .tmp u3]) (tmps : Array Value) (P : Program) (w : World) :
    (results fn tmps).run P w =
      ((asAddr (tmps.getD p undef)).run P w).andThen fun a w₁ => ((loadVar ty a).run P w₁).andThen fun v w₂ => .ok (.tuple #[v, tmps.getD u undef, tmps.getD u' undef, tmps.getD u2 undef, tmps.getD u3 undef]) w₂ := by
  simp only [results, h]
  simp [Sem.run_bind, Result.andThen]
set_option maxRecDepth 100000 in
set_option maxHeartbeats 8000000 in
theorem drawTableMerge_any (B : Nat) (a : Option Addr) (n cap : Nat) (zs : List Int) (w : World) (h : Byt B w a n cap zs) (hB : B ≤ w.heap.size) :
    Calls Try.prog 17 #[.slice a n cap] w fun e w' => (∃ (R C : Int) (a' : Option Addr) (n' c' : Nat) (l : List Cl) (r c d g : Int), e = .returned (.tuple #[.agg #[.int .i64 R, .int .i64 C, .slice a' n' c'], .int .i64 r, .int .i64 c, .int .i64 d, .int .i64 g]) ∧ Tab w' a' n' c' l ∧ TabSp R C l ∧ (-1 ≤ r ∧ r ≤ 10) ∧ (-1 ≤ c ∧ c ≤ 10) ∧ (0 ≤ d ∧ d ≤ 10) ∧ (0 ≤ g ∧ g ≤ 10)) ∧ Below w.heap.size w w' := by
  have HY : Hid (Byt B w a n cap zs) := h
  clear h
  go_enter Try.func17, Try.ntmps17
  go_upto_region 1 with fail
  have B0 : Below w.heap.size w (w.alloc (.cells #[.int .i64 0, .int .i64 0, .slice none 0 0] 25)) := (Below.refl _ _).alloc (Nat.le_refl _) _
  have Z0 : RowAt (w.alloc (.cells #[.int .i64 0, .int .i64 0, .slice none 0 0] 25)) w.heap.size #[.int .i64 0, .int .i64 0, .slice none 0 0] 25 := rowAt_new _ _ _
  have HY0 : Hid (Byt B (w.alloc (.cells #[.int .i64 0, .int .i64 0, .slice none 0 0] 25)) a n cap zs) := HY.out.belowC B0 hB
  generalize (w.alloc (.cells #[.int .i64 0, .int .i64 0, .slice none 0 0] 25)) = v0 at B0 Z0 HY0 ⊢
  have s0 := B0.size
  have zz := Z0.lt
  go_wp2_with fail
  refine (l6Open_any B a n cap zs _ HY0.out (by omega)).mono ?_
  rintro e w1 ⟨rfl, hr1, hb1⟩
  have hlt := hr1.lt
  have HR1 : Hid (Rd B w1 v0.heap.size 0) := hr1
  clear hr1
  go_wp2_with fail
  refine (l71Grid_any B _ 0 _ HR1.out (by omega)).mono ?_
  rintro e w2 ⟨R, C, a', n', c', l, q, rfl, ⟨os, hX2⟩, hS2, hr2, hq2, hf2⟩
  go_upto_region 3 with fail
  have H0 := HoldR.first (R := R) (C := C) B0 Z0 hb1 hlt hf2 hr2 hX2
  generalize (w2.alloc (.cells #[.int .i64 R, .int .i64 C, .slice a' n' c'] 25)) = v3 at H0 ⊢
  obtain ⟨Tb, hTe⟩ : ∃ T, w2.heap.size = T := ⟨_, rfl⟩
  rw [hTe] at H0 ⊢
  obtain ⟨g, hge⟩ : ∃ g, v0.heap.size = g := ⟨_, rfl⟩
  rw [hge] at H0 ⊢
  have HH : Hid (HoldR w B g q w.heap.size Tb R C a' n' c' l v3) := H0
  have HS : Hid (TabSp R C l) := hS2
  clear H0 hTe hge hS2 hr2 hX2 hf2 hb1 Z0 B0 HY HY0 HR1 s0 zz hlt
  go_wp2_with fail
  go_loopw [9] (fun nv wr => ∃ (k q : Nat) (R1 C1 : Int) (a1 : Option Addr) (n1 c1 : Nat) (l1 : List Cl), k ≤ 24 ∧ nv = .int .i64 k ∧ q ≤ 700 + 800 * k ∧ TabSp R1 C1 l1 ∧ HoldR w B g q w.heap.size Tb R1 C1 a1 n1 c1 l1 wr) (fun nv _ => 24 - (intOf nv).toNat)
  case atStart => exact ⟨0, q, R, C, a', n', c', l, by omega, rfl, by omega, HS.out, HH.out⟩
  case round =>
    clear HH HS
    obtain ⟨k, q1, R1, C1, a1, n1, c1, l1, hk, rfl, hq1, hS1, hb⟩ := hrel
    have HH : Hid (HoldR w B g q1 w.heap.size Tb R1 C1 a1 n1 c1 l1 wr) := hb
    have HS : Hid (TabSp R1 C1 l1) := hS1
    clear hb hS1
    by_cases hlk : k < 24
    · have hkb : (k : Int) < 24 := by omega
      go_wp2_with fail
      refine (pick_any B g q1 24 _ HH.out.rd (by omega) (by omega) (by omega)).mono ?_
      rintro e u3 ⟨x, rfl, hx0, hx1, hr3, hg3⟩
      replace HH : Hid (HoldR w B g (q1 + 1) w.heap.size Tb R1 C1 a1 n1 c1 l1 u3) := HH.out.pick hg3 hr3
      clear hr3 hg3
      by_cases hx : x = 0
      · subst hx
        go_upto_region 15 with fail
        refine wp_region_noPanic ?_
        refine wp_region_held_drew (S := fun w' => RowAt w' Tb #[.int .i64 R1, .int .i64 C1, .slice a1 n1 c1] 25) (by kernel_rfl) HH.out.trow (fun hHeld => ?_)
        refine take_at 0 79 (.agg #[.int .i64 R1, .int .i64 C1, .slice a1 n1 c1]) rfl rfl (by kernel_rfl) (by kernel_rfl) (by kernel_rfl) (fun _ _ _ h => h) (yieldsIf_load_row (by kernel_rfl) 25 (.tmp 8) rfl Tb rfl 25 #[.int .i64 R1, .int .i64 C1, .slice a1 n1 c1] (0, 0) _ (fun w' h => h) Try.underlying25 rfl tab_info) hHeld ?_
        (try simp only [Act.put, List.setIfInBounds_toArray, List.set_cons_zero, List.set_cons_succ])
        refine take_at 1 80 (.pointer (some ⟨g, 0, none⟩)) rfl rfl (by kernel_rfl) (by kernel_rfl) (by kernel_rfl) (fun _ _ _ h => h) (Or.inl ⟨by kernel_rfl, fun w' hS' => by go_simp⟩) hHeld ?_
        (try simp only [Act.put, List.setIfInBounds_toArray, List.set_cons_zero, List.set_cons_succ])
        refine take_at 4 83 (.pointer (some ⟨g, 0, none⟩)) rfl rfl (by kernel_rfl) (by kernel_rfl) (by kernel_rfl) (fun _ _ _ h => h) (Or.inl ⟨by kernel_rfl, fun w' hS' => by go_simp⟩) hHeld ?_
        (try simp only [Act.put, List.setIfInBounds_toArray, List.set_cons_zero, List.set_cons_succ])
        refine take_at 7 86 (.pointer (some ⟨g, 0, none⟩)) rfl rfl (by kernel_rfl) (by kernel_rfl) (by kernel_rfl) (fun _ _ _ h => h) (Or.inl ⟨by kernel_rfl, fun w' hS' => by go_simp⟩) hHeld ?_
        (try simp only [Act.put, List.setIfInBounds_toArray, List.set_cons_zero, List.set_cons_succ])
        refine take_at 9 88 (.pointer (some ⟨g, 0, none⟩)) rfl rfl (by kernel_rfl) (by kernel_rfl) (by kernel_rfl) (fun _ _ _ h => h) (Or.inl ⟨by kernel_rfl, fun w' hS' => by go_simp⟩) hHeld ?_
        (try simp only [Act.put, List.setIfInBounds_toArray, List.set_cons_zero, List.set_cons_succ])
        replace HH : Hid (HoldR w B g (q1 + 1) w.heap.size Tb R1 C1 a1 n1 c1 l1 u3.drew) := HH.out.go ((Below.refl _ _).drew)
        generalize u3.drew = u4 at HH hHeld ⊢
        refine wpAnyH_ready (rs := [2]) (by kernel_rfl) (by simp) ?_
        refine AllReadyH.cons rfl (fun K hK => ?_) AllReadyH.nil
        go_simp
        go_at_call 41
        refine (pick_any B g (q1 + 1) 6 _ HH.out.rd (by omega) (by omega) (by omega)).mono ?_
        rintro e u5 ⟨z1, rfl, hz10, hz11, hr5, hg5⟩
        replace HH : Hid (HoldR w B g ((q1 + 1) + 1) w.heap.size Tb R1 C1 a1 n1 c1 l1 u5) := HH.out.pick hg5 hr5
        clear hr5 hg5 hHeld
        go_wp2_with fail
        refine hK.out _ _ HH.out.trow (fun hHeld => ?_)
        clear hK K
        (try simp only [Act.put, List.setIfInBounds_toArray, List.set_cons_zero, List.set_cons_succ])
        obtain ⟨y1, HY1⟩ : ∃ y, Hid (z1 - 1 = y) := ⟨_, rfl⟩
        refine take_at 3 82 (.int .i64 y1) rfl rfl (by kernel_rfl) (by kernel_rfl) (by kernel_rfl) (fun _ _ _ h => h) (Or.inl ⟨by kernel_rfl, fun w' hS' => by go_simp; have e := HY1.out; rw [IntKind.wrap_i64, e]; omega⟩) hHeld ?_
        (try simp only [Act.put, List.setIfInBounds_toArray, List.set_cons_zero, List.set_cons_succ])
        refine wpAnyH_ready (rs := [5]) (by kernel_rfl) (by simp) ?_
        refine AllReadyH.cons rfl (fun K hK => ?_) AllReadyH.nil
        go_simp
        go_at_call 41
        refine (pick_any B g ((q1 + 1) + 1) 6 _ HH.out.rd (by omega) (by omega) (by omega)).mono ?_
        rintro e u6 ⟨z2, rfl, hz20, hz21, hr5, hg5⟩
        replace HH : Hid (HoldR w B g (((q1 + 1) + 1) + 1) w.heap.size Tb R1 C1 a1 n1 c1 l1 u6) := HH.out.pick hg5 hr5
        clear hr5 hg5 hHeld
        go_wp2_with fail
        refine hK.out _ _ HH.out.trow (fun hHeld => ?_)
        clear hK K
        (try simp only [Act.put, List.setIfInBounds_toArray, List.set_cons_zero, List.set_cons_succ])
        obtain ⟨y2, HY2⟩ : ∃ y, Hid (z2 - 1 = y) := ⟨_, rfl⟩
        refine take_at 6 85 (.int .i64 y2) rfl rfl (by kernel_rfl) (by kernel_rfl) (by kernel_rfl) (fun _ _ _ h => h) (Or.inl ⟨by kernel_rfl, fun w' hS' => by go_simp; have e := HY2.out; rw [IntKind.wrap_i64, e]; omega⟩) hHeld ?_
        (try simp only [Act.put, List.setIfInBounds_toArray, List.set_cons_zero, List.set_cons_succ])
        refine wpAnyH_ready (rs := [8]) (by kernel_rfl) (by simp) ?_
        refine AllReadyH.cons rfl (fun K hK => ?_) AllReadyH.nil
        go_simp
        go_at_call 41
        refine (pick_any B g ((q1 + 1) + 1 + 1) 5 _ HH.out.rd (by omega) (by omega) (by omega)).mono ?_
        rintro e u7 ⟨z3, rfl, hz30, hz31, hr5, hg5⟩
        replace HH : Hid (HoldR w B g (((q1 + 1) + 1 + 1) + 1) w.heap.size Tb R1 C1 a1 n1 c1 l1 u7) := HH.out.pick hg5 hr5
        clear hr5 hg5 hHeld
        go_wp2_with fail
        refine hK.out _ _ HH.out.trow (fun hHeld => ?_)
        clear hK K
        (try simp only [Act.put, List.setIfInBounds_toArray, List.set_cons_zero, List.set_cons_succ])
        refine wpAnyH_ready (rs := [10]) (by kernel_rfl) (by simp) ?_
        refine AllReadyH.cons rfl (fun K hK => ?_) AllReadyH.nil
        go_simp
        go_at_call 41
        refine (pick_any B g ((q1 + 1) + 1 + 1 + 1) 5 _ HH.out.rd (by omega) (by omega) (by omega)).mono ?_
        rintro e u8 ⟨z4, rfl, hz40, hz41, hr5, hg5⟩
        replace HH : Hid (HoldR w B g (((q1 + 1) + 1 + 1 + 1) + 1) w.heap.size Tb R1 C1 a1 n1 c1 l1 u8) := HH.out.pick hg5 hr5
        clear hr5 hg5 hHeld
        go_wp2_with fail
        refine hK.out _ _ HH.out.trow (fun hHeld => ?_)
        clear hK K
        (try simp only [Act.put, List.setIfInBounds_toArray, List.set_cons_zero, List.set_cons_succ])
        refine wpAnyH_ready (rs := [11]) (by kernel_rfl) (by simp) ?_
        refine AllReadyH.cons rfl (fun K hK => ?_) AllReadyH.nil
        rw [if_pos (by kernel_rfl)]
        refine wp_store_row 25 (.tmp 2) (.tmp 79) rfl w.heap.size #[.int .i64 R1, .int .i64 C1, .slice a1 n1 c1] rfl rfl 25 _ HH.out.zrow tab_info rfl (cells3_one _ _ _ _ _) ?_
        have HE : Hid (Tab (u8.setRow w.heap.size #[.int .i64 R1, .int .i64 C1, .slice a1 n1 c1]) a1 n1 c1 l1 ∧ RowAt (u8.setRow w.heap.size #[.int .i64 R1, .int .i64 C1, .slice a1 n1 c1]) w.heap.size #[.int .i64 R1, .int .i64 C1, .slice a1 n1 c1] 25 ∧ Below w.heap.size w (u8.setRow w.heap.size #[.int .i64 R1, .int .i64 C1, .slice a1 n1 c1])) := HH.out.out
        have hne : Tb ≠ w.heap.size := by have := HH.out.gt; have := HH.out.lo; omega
        refine hK.out _ _ (RowAt.setRowOther hHeld _ _ hne) (fun hHeld => ?_)
        clear hK K
        simp only [Act.put]
        generalize (u8.setRow w.heap.size #[.int .i64 R1, .int .i64 C1, .slice a1 n1 c1]) = w9 at HE hHeld ⊢
        refine take_at 12 3 (.int .i64 y1) rfl rfl (by kernel_rfl) (by kernel_rfl) (by kernel_rfl) (fun _ _ _ h => h) (Or.inl ⟨by kernel_rfl, fun w' hS' => by go_simp⟩) hHeld ?_
        (try simp only [Act.put, List.setIfInBounds_toArray])
        refine take_at 13 4 (.int .i64 y2) rfl rfl (by kernel_rfl) (by kernel_rfl) (by kernel_rfl) (fun _ _ _ h => h) (Or.inl ⟨by kernel_rfl, fun w' hS' => by go_simp⟩) hHeld ?_
        (try simp only [Act.put])
        refine take_at 14 5 (.int .i64 z3) rfl rfl (by kernel_rfl) (by kernel_rfl) (by kernel_rfl) (fun _ _ _ h => h) (Or.inl ⟨by kernel_rfl, fun w' hS' => by go_simp⟩) hHeld ?_
        (try simp only [Act.put])
        refine take_at 15 6 (.int .i64 z4) rfl rfl (by kernel_rfl) (by kernel_rfl) (by kernel_rfl) (fun _ _ _ h => h) (Or.inl ⟨by kernel_rfl, fun w' hS' => by go_simp⟩) hHeld ?_
        (try simp only [Act.put])
        refine wpAnyH_done (by kernel_rfl) ?_ _
        refine NoPanic.normal ?_
        go_wp2_with fail
        refine bodyPost_ret (v := .tuple #[.agg #[.int .i64 R1, .int .i64 C1, .slice a1 n1 c1], .int .i64 y1, .int .i64 y2, .int .i64 z3, .int .i64 z4]) ?_ rfl ⟨⟨R1, C1, a1, n1, c1, l1, y1, y2, z3, z4, rfl, HE.out.1, HS.out, by have := HY1.out; omega, by have := HY2.out; omega, by omega, by omega⟩, HE.out.2.2⟩
        rw [results_cell_tmp4 rfl]
        simp [asAddr, Result.andThen, run_tabOf HE.out.2.1]
      · have hxp : 0 < x := by omega
        obtain ⟨ok, HO⟩ : ∃ o, Hid (okB R1 C1 l1 = o) := ⟨_, rfl⟩
        go_upto_region 6 with fail
        go_wp2_with (first | (refine wpList_load_row rfl 25 (.tmp 8) rfl Tb rfl 25 #[.int .i64 R1, .int .i64 C1, .slice a1 n1 c1] (0, 0) _ HH.out.trow Try.underlying25 rfl tab_info ?_))
        refine (specTableOk_is HO.out HH.out.tab).mono ?_
        rintro e u4 ⟨rfl, hb4⟩
        replace HH : Hid (HoldR w B g (q1 + 1) w.heap.size Tb R1 C1 a1 n1 c1 l1 u4) := HH.out.go hb4
        clear hb4
        cases ok
        · go_wp2_with fail
          refine (l71Grid_any B g (q1 + 1) _ HH.out.rd (by omega)).mono ?_
          rintro e u8 ⟨R2, C2, a2, n2, c2, l2, q8, rfl, ⟨os, hX8⟩, hS8, hr8, hq8, hf8⟩
          have HT8 : Hid (RowAt u8 Tb #[.int .i64 R1, .int .i64 C1, .slice a1 n1 c1] 25) := (HH.out.fr hf8 hr8).trow
          have HN8 : Hid (HoldR w B g q8 w.heap.size Tb R2 C2 a2 n2 c2 l2 (u8.setRow Tb #[.int .i64 R2, .int .i64 C2, .slice a2 n2 c2])) := HH.out.next hf8 hr8 hX8
          have HS8 : Hid (TabSp R2 C2 l2) := hS8
          clear hX8 hf8 hr8 hS8
          go_wp2_with (refine wpList_store_row rfl 25 (.tmp 8) (.tmp 41) rfl Tb #[.int .i64 R2, .int .i64 C2, .slice a2 n2 c2] rfl rfl 25 _ HT8.out tab_info rfl (cells3_one _ _ _ _ _) ?_)
          go_roundw
          case rel => exact ⟨k + 1, q8, R2, C2, a2, n2, c2, l2, by omega, by go_num, by omega, HS8.out, HN8.out⟩
          case measure => simp [intOf]; omega
        · obtain ⟨hR1, hC1, -, -⟩ := gridP_of_okB HO.out
          have t0 : u4.cell? ⟨Tb, 0, none⟩ = some (.int .i64 R1) := HH.out.trow.cell 0
          have t1 : u4.cell? ⟨Tb, 1, none⟩ = some (.int .i64 C1) := HH.out.trow.cell 1
          by_cases hp2 : wrap64 (R1 * C1) < 2
          · go_wp2_with fail
            refine (l71Grid_any B g (q1 + 1) _ HH.out.rd (by omega)).mono ?_
            rintro e u8 ⟨R2, C2, a2, n2, c2, l2, q8, rfl, ⟨os, hX8⟩, hS8, hr8, hq8, hf8⟩
            have HT8 : Hid (RowAt u8 Tb #[.int .i64 R1, .int .i64 C1, .slice a1 n1 c1] 25) := (HH.out.fr hf8 hr8).trow
            have HN8 : Hid (HoldR w B g q8 w.heap.size Tb R2 C2 a2 n2 c2 l2 (u8.setRow Tb #[.int .i64 R2, .int .i64 C2, .slice a2 n2 c2])) := HH.out.next hf8 hr8 hX8
            have HS8 : Hid (TabSp R2 C2 l2) := hS8
            clear hX8 hf8 hr8 hS8
            go_wp2_with (refine wpList_store_row rfl 25 (.tmp 8) (.tmp 41) rfl Tb #[.int .i64 R2, .int .i64 C2, .slice a2 n2 c2] rfl rfl 25 _ HT8.out tab_info rfl (cells3_one _ _ _ _ _) ?_)
            go_roundw
            case rel => exact ⟨k + 1, q8, R2, C2, a2, n2, c2, l2, by omega, by go_num, by omega, HS8.out, HN8.out⟩
            case measure => simp [intOf]; omega
          · go_wp2_with fail
            refine (pick_any B g (q1 + 1) R1 _ HH.out.rd (by omega) (by omega) (by omega)).mono ?_
            rintro e u5 ⟨y1, rfl, hy10, hy11, hr5, hg5⟩
            replace HH : Hid (HoldR w B g ((q1 + 1) + 1) w.heap.size Tb R1 C1 a1 n1 c1 l1 u5) := HH.out.pick hg5 hr5
            clear hr5 hg5
            have t1 : u5.cell? ⟨Tb, 1, none⟩ = some (.int .i64 C1) := HH.out.trow.cell 1
            go_wp2_with fail
            refine (pick_any B g (q1 + 1 + 1) C1 _ HH.out.rd (by omega) (by omega) (by omega)).mono ?_
            rintro e u6 ⟨y2, rfl, hy20, hy21, hr5, hg5⟩
            replace HH : Hid (HoldR w B g ((q1 + 1 + 1) + 1) w.heap.size Tb R1 C1 a1 n1 c1 l1 u6) := HH.out.pick hg5 hr5
            clear hr5 hg5
            have t0 : u6.cell? ⟨Tb, 0, none⟩ = some (.int .i64 R1) := HH.out.trow.cell 0
            clear t1
            go_wp2_with fail
            refine (pick_any B g (q1 + 1 + 1 + 1) (R1 - y1) _ HH.out.rd (by omega) (by omega) (by omega)).mono ?_
            rintro e u7 ⟨y3, rfl, hy30, hy31, hr5, hg5⟩
            replace HH : Hid (HoldR w B g ((q1 + 1 + 1 + 1) + 1) w.heap.size Tb R1 C1 a1 n1 c1 l1 u7) := HH.out.pick hg5 hr5
            clear hr5 hg5
            have t1 : u7.cell? ⟨Tb, 1, none⟩ = some (.int .i64 C1) := HH.out.trow.cell 1
            go_wp2_with fail
            refine (pick_any B g (q1 + 1 + 1 + 1 + 1) (C1 - y2) _ HH.out.rd (by omega) (by omega) (by omega)).mono ?_
            rintro e u8 ⟨y4, rfl, hy40, hy41, hr5, hg5⟩
            replace HH : Hid (HoldR w B g ((q1 + 1 + 1 + 1 + 1) + 1) w.heap.size Tb R1 C1 a1 n1 c1 l1 u8) := HH.out.pick hg5 hr5
            clear hr5 hg5
            obtain ⟨d, HD⟩ : ∃ d, Hid (1 + y3 = d) := ⟨_, rfl⟩
            obtain ⟨e', HE'⟩ : ∃ d, Hid (1 + y4 = d) := ⟨_, rfl⟩
            go_upto_region 12 with fail
            rw [HD.out, HE'.out]
            have hd0 : 1 ≤ d ∧ d ≤ 10 := by have := HD.out; omega
            have he0 : 1 ≤ e' ∧ e' ≤ 10 := by have := HE'.out; omega
            obtain ⟨can, HC⟩ : ∃ o, Hid (mergeB R1 C1 l1 y1 y2 d e' = o) := ⟨_, rfl⟩
            cases can
            · go_upto_region 13 with (first | (refine wpList_load_row rfl 25 (.tmp 8) rfl Tb rfl 25 #[.int .i64 R1, .int .i64 C1, .slice a1 n1 c1] (0, 0) _ HH.out.trow Try.underlying25 rfl tab_info ?_) | (go_at_call 18; refine (specTableMerge_any R1 C1 y1 y2 d e' a1 n1 c1 l1 _ HH.out.tab).mono ?_; intro e w9 hr; obtain ⟨hr1, hb⟩ := hr; obtain ⟨ma, mn, mc, rfl, -⟩ := tabRes_f HC.out hr1; replace HH : Hid (HoldR w B g (q1 + 1 + 1 + 1 + 1 + 1) w.heap.size Tb R1 C1 a1 n1 c1 l1 w9) := HH.out.go hb; clear hr1 hb))
              replace HH : Hid (HoldR w B g (q1 + 1 + 1 + 1 + 1 + 1) w.heap.size Tb R1 C1 a1 n1 c1 l1 (w9.alloc (.cells #[.int .i64 0, .int .i64 0, .slice ma mn mc] 25))) := HH.out.go ((Below.refl _ _).alloc (Nat.le_refl _) _)
              generalize (w9.alloc (.cells #[.int .i64 0, .int .i64 0, .slice ma mn mc] 25)) = v9 at HH ⊢
              go_wp2_with fail
              go_roundw
              case rel => exact ⟨k + 1, (q1 + 1 + 1 + 1 + 1 + 1), R1, C1, a1, n1, c1, l1, by omega, by go_num, by omega, HS.out, HH.out⟩
              case measure => simp [intOf]; omega
            · go_upto_region 13 with (first | (refine wpList_load_row rfl 25 (.tmp 8) rfl Tb rfl 25 #[.int .i64 R1, .int .i64 C1, .slice a1 n1 c1] (0, 0) _ HH.out.trow Try.underlying25 rfl tab_info ?_) | (go_at_call 18; refine (specTableMerge_any R1 C1 y1 y2 d e' a1 n1 c1 l1 _ HH.out.tab).mono ?_; intro e w9 hr; obtain ⟨hr1, hb⟩ := hr; obtain ⟨ma, mn, mc, rfl, -⟩ := tabRes_t HC.out hr1; replace HH : Hid (HoldR w B g (q1 + 1 + 1 + 1 + 1 + 1) w.heap.size Tb R1 C1 a1 n1 c1 l1 w9) := HH.out.go hb; clear hr1 hb))
              replace HH : Hid (HoldR w B g (q1 + 1 + 1 + 1 + 1 + 1) w.heap.size Tb R1 C1 a1 n1 c1 l1 (w9.alloc (.cells #[.int .i64 R1, .int .i64 C1, .slice ma mn mc] 25))) := HH.out.go ((Below.refl _ _).alloc (Nat.le_refl _) _)
              generalize (w9.alloc (.cells #[.int .i64 R1, .int .i64 C1, .slice ma mn mc] 25)) = v9 at HH ⊢
              go_wp2_with (first | (refine wpList_load_row rfl 25 (.tmp 8) rfl Tb rfl 25 #[.int .i64 R1, .int .i64 C1, .slice a1 n1 c1] (0, 0) _ HH.out.trow Try.underlying25 rfl tab_info ?_) | (refine wpList_store_row rfl 25 (.tmp 2) (.tmp 74) rfl w.heap.size #[.int .i64 R1, .int .i64 C1, .slice a1 n1 c1] rfl rfl 25 _ HH.out.zrow tab_info rfl (cells3_one _ _ _ _ _) ?_))
              refine bodyPost_ret (v := .tuple #[.agg #[.int .i64 R1, .int .i64 C1, .slice a1 n1 c1], .int .i64 y1, .int .i64 y2, .int .i64 d, .int .i64 e']) ?_ rfl ⟨⟨R1, C1, a1, n1, c1, l1, y1, y2, d, e', rfl, HH.out.out.1, HS.out, by omega, by omega, by omega, by omega⟩, HH.out.out.2.2⟩
              rw [results_cell_tmp4 rfl]
              simp [asAddr, Result.andThen, run_tabOf HH.out.out.2.1]
    · have hkb : ¬ (k : Int) < 24 := by omega
      go_upto_region 15 with fail
      refine wp_region_noPanic ?_
      refine wp_region_held_drew (S := fun w' => RowAt w' Tb #[.int .i64 R1, .int .i64 C1, .slice a1 n1 c1] 25) (by kernel_rfl) HH.out.trow (fun hHeld => ?_)
      refine take_at 0 79 (.agg #[.int .i64 R1, .int .i64 C1, .slice a1 n1 c1]) rfl rfl (by kernel_rfl) (by kernel_rfl) (by kernel_rfl) (fun _ _ _ h => h) (yieldsIf_load_row (by kernel_rfl) 25 (.tmp 8) rfl Tb rfl 25 #[.int .i64 R1, .int .i64 C1, .slice a1 n1 c1] (0, 0) _ (fun w' h => h) Try.underlying25 rfl tab_info) hHeld ?_
      (try simp only [Act.put, List.setIfInBounds_toArray, List.set_cons_zero, List.set_cons_succ])
      refine take_at 1 80 (.pointer (some ⟨g, 0, none⟩)) rfl rfl (by kernel_rfl) (by kernel_rfl) (by kernel_rfl) (fun _ _ _ h => h) (Or.inl ⟨by kernel_rfl, fun w' hS' => by go_simp⟩) hHeld ?_
      (try simp only [Act.put, List.setIfInBounds_toArray, List.set_cons_zero, List.set_cons_succ])
      refine take_at 4 83 (.pointer (some ⟨g, 0, none⟩)) rfl rfl (by kernel_rfl) (by kernel_rfl) (by kernel_rfl) (fun _ _ _ h => h) (Or.inl ⟨by kernel_rfl, fun w' hS' => by go_simp⟩) hHeld ?_
      (try simp only [Act.put, List.setIfInBounds_toArray, List.set_cons_zero, List.set_cons_succ])
      refine take_at 7 86 (.pointer (some ⟨g, 0, none⟩)) rfl rfl (by kernel_rfl) (by kernel_rfl) (by kernel_rfl) (fun _ _ _ h => h) (Or.inl ⟨by kernel_rfl, fun w' hS' => by go_simp⟩) hHeld ?_
      (try simp only [Act.put, List.setIfInBounds_toArray, List.set_cons_zero, List.set_cons_succ])
      refine take_at 9 88 (.pointer (some ⟨g, 0, none⟩)) rfl rfl (by kernel_rfl) (by kernel_rfl) (by kernel_rfl) (fun _ _ _ h => h) (Or.inl ⟨by kernel_rfl, fun w' hS' => by go_simp⟩) hHeld ?_
      (try simp only [Act.put, List.setIfInBounds_toArray, List.set_cons_zero, List.set_cons_succ])
      replace HH : Hid (HoldR w B g q1 w.heap.size Tb R1 C1 a1 n1 c1 l1 wr.drew) := HH.out.go ((Below.refl _ _).drew)
      generalize wr.drew = u4 at HH hHeld ⊢
      refine wpAnyH_ready (rs := [2]) (by kernel_rfl) (by simp) ?_
      refine AllReadyH.cons rfl (fun K hK => ?_) AllReadyH.nil
      go_simp
      go_at_call 41
      refine (pick_any B g q1 6 _ HH.out.rd (by omega) (by omega) (by omega)).mono ?_
      rintro e u5 ⟨z1, rfl, hz10, hz11, hr5, hg5⟩
      replace HH : Hid (HoldR w B g (q1 + 1) w.heap.size Tb R1 C1 a1 n1 c1 l1 u5) := HH.out.pick hg5 hr5
      clear hr5 hg5 hHeld
      go_wp2_with fail
      refine hK.out _ _ HH.out.trow (fun hHeld => ?_)
      clear hK K
      (try simp only [Act.put, List.setIfInBounds_toArray, List.set_cons_zero, List.set_cons_succ])
      obtain ⟨y1, HY1⟩ : ∃ y, Hid (z1 - 1 = y) := ⟨_, rfl⟩
      refine take_at 3 82 (.int .i64 y1) rfl rfl (by kernel_rfl) (by kernel_rfl) (by kernel_rfl) (fun _ _ _ h => h) (Or.inl ⟨by kernel_rfl, fun w' hS' => by go_simp; have e := HY1.out; rw [IntKind.wrap_i64, e]; omega⟩) hHeld ?_
      (try simp only [Act.put, List.setIfInBounds_toArray, List.set_cons_zero, List.set_cons_succ])
      refine wpAnyH_ready (rs := [5]) (by kernel_rfl) (by simp) ?_
      refine AllReadyH.cons rfl (fun K hK => ?_) AllReadyH.nil
      go_simp
      go_at_call 41
      refine (pick_any B g (q1 + 1) 6 _ HH.out.rd (by omega) (by omega) (by omega)).mono ?_
      rintro e u6 ⟨z2, rfl, hz20, hz21, hr5, hg5⟩
      replace HH : Hid (HoldR w B g ((q1 + 1) + 1) w.heap.size Tb R1 C1 a1 n1 c1 l1 u6) := HH.out.pick hg5 hr5
      clear hr5 hg5 hHeld
      go_wp2_with fail
      refine hK.out _ _ HH.out.trow (fun hHeld => ?_)
      clear hK K
      (try simp only [Act.put, List.setIfInBounds_toArray, List.set_cons_zero, List.set_cons_succ])
      obtain ⟨y2, HY2⟩ : ∃ y, Hid (z2 - 1 = y) := ⟨_, rfl⟩
      refine take_at 6 85 (.int .i64 y2) rfl rfl (by kernel_rfl) (by kernel_rfl) (by kernel_rfl) (fun _ _ _ h => h) (Or.inl ⟨by kernel_rfl, fun w' hS' => by go_simp; have e := HY2.out; rw [IntKind.wrap_i64, e]; omega⟩) hHeld ?_
      (try simp only [Act.put, List.setIfInBounds_toArray, List.set_cons_zero, List.set_cons_succ])
      refine wpAnyH_ready (rs := [8]) (by kernel_rfl) (by simp) ?_
      refine AllReadyH.cons rfl (fun K hK => ?_) AllReadyH.nil
      go_simp
      go_at_call 41
      refine (pick_any B g (q1 + 1 + 1) 5 _ HH.out.rd (by omega) (by omega) (by omega)).mono ?_
      rintro e u7 ⟨z3, rfl, hz30, hz31, hr5, hg5⟩
      replace HH : Hid (HoldR w B g ((q1 + 1 + 1) + 1) w.heap.size Tb R1 C1 a1 n1 c1 l1 u7) := HH.out.pick hg5 hr5
      clear hr5 hg5 hHeld
      go_wp2_with fail
      refine hK.out _ _ HH.out.trow (fun hHeld => ?_)
      clear hK K
      (try simp only [Act.put, List.setIfInBounds_toArray, List.set_cons_zero, List.set_cons_succ])
      refine wpAnyH_ready (rs := [10]) (by kernel_rfl) (by simp) ?_
      refine AllReadyH.cons rfl (fun K hK => ?_) AllReadyH.nil
      go_simp
      go_at_call 41
      refine (pick_any B g (q1 + 1 + 1 + 1) 5 _ HH.out.rd (by omega) (by omega) (by omega)).mono ?_
      rintro e u8 ⟨z4, rfl, hz40, hz41, hr5, hg5⟩
      replace HH : Hid (HoldR w B g ((q1 + 1 + 1 + 1) + 1) w.heap.size Tb R1 C1 a1 n1 c1 l1 u8) := HH.out.pick hg5 hr5
      clear hr5 hg5 hHeld
      go_wp2_with fail
      refine hK.out _ _ HH.out.trow (fun hHeld => ?_)
      clear hK K
      (try simp only [Act.put, List.setIfInBounds_toArray, List.set_cons_zero, List.set_cons_succ])
      refine wpAnyH_ready (rs := [11]) (by kernel_rfl) (by simp) ?_
      refine AllReadyH.cons rfl (fun K hK => ?_) AllReadyH.nil
      rw [if_pos (by kernel_rfl)]
      refine wp_store_row 25 (.tmp 2) (.tmp 79) rfl w.heap.size #[.int .i64 R1, .int .i64 C1, .slice a1 n1 c1] rfl rfl 25 _ HH.out.zrow tab_info rfl (cells3_one _ _ _ _ _) ?_
      have HE : Hid (Tab (u8.setRow w.heap.size #[.int .i64 R1, .int .i64 C1, .slice a1 n1 c1]) a1 n1 c1 l1 ∧ RowAt (u8.setRow w.heap.size #[.int .i64 R1, .int .i64 C1, .slice a1 n1 c1]) w.heap.size #[.int .i64 R1, .int .i64 C1, .slice a1 n1 c1] 25 ∧ Below w.heap.size w (u8.setRow w.heap.size #[.int .i64 R1, .int .i64 C1, .slice a1 n1 c1])) := HH.out.out
      have hne : Tb ≠ w.heap.size := by have := HH.out.gt; have := HH.out.lo; omega
      refine hK.out _ _ (RowAt.setRowOther hHeld _ _ hne) (fun hHeld => ?_)
      clear hK K
      simp only [Act.put]
      generalize (u8.setRow w.heap.size #[.int .i64 R1, .int .i64 C1, .slice a1 n1 c1]) = w9 at HE hHeld ⊢
      refine take_at 12 3 (.int .i64 y1) rfl rfl (by kernel_rfl) (by kernel_rfl) (by kernel_rfl) (fun _ _ _ h => h) (Or.inl ⟨by kernel_rfl, fun w' hS' => by go_simp⟩) hHeld ?_
      (try simp only [Act.put, List.setIfInBounds_toArray])
      refine take_at 13 4 (.int .i64 y2) rfl rfl (by kernel_rfl) (by kernel_rfl) (by kernel_rfl) (fun _ _ _ h => h) (Or.inl ⟨by kernel_rfl, fun w' hS' => by go_simp⟩) hHeld ?_
      (try simp only [Act.put])
      refine take_at 14 5 (.int .i64 z3) rfl rfl (by kernel_rfl) (by kernel_rfl) (by kernel_rfl) (fun _ _ _ h => h) (Or.inl ⟨by kernel_rfl, fun w' hS' => by go_simp⟩) hHeld ?_
      (try simp only [Act.put])
      refine take_at 15 6 (.int .i64 z4) rfl rfl (by kernel_rfl) (by kernel_rfl) (by kernel_rfl) (fun _ _ _ h => h) (Or.inl ⟨by kernel_rfl, fun w' hS' => by go_simp⟩) hHeld ?_
      (try simp only [Act.put])
      refine wpAnyH_done (by kernel_rfl) ?_ _
      refine NoPanic.normal ?_
      go_wp2_with fail
      refine bodyPost_ret (v := .tuple #[.agg #[.int .i64 R1, .int .i64 C1, .slice a1 n1 c1], .int .i64 y1, .int .i64 y2, .int .i64 z3, .int .i64 z4]) ?_ rfl ⟨⟨R1, C1, a1, n1, c1, l1, y1, y2, z3, z4, rfl, HE.out.1, HS.out, by have := HY1.out; omega, by have := HY2.out; omega, by omega, by omega⟩, HE.out.2.2⟩
      rw [results_cell_tmp4 rfl]
      simp [asAddr, Result.andThen, run_tabOf HE.out.2.1]
end Go.Proofs.Ytkgdocohdjebfaa
namespace Go.Proofs.Ytkgdocohdjebfaa
open Go.RowKit

theorem merge_data {R C r c d g : Int} {l : List Cl} (h : mergeB R C l r c d g = true) : ∃ (r' c' d' g' : Nat), r = r' ∧ c = c' ∧ d = d' ∧ g = g' ∧ okB R C l = true ∧ 1 ≤ d' ∧ 1 ≤ g' ∧ (r' : Int) + d' ≤ R ∧ (c' : Int) + g' ≤ C ∧ l.all (fun z => !cutB r' c' d' g' z) = true ∧ 2 ≤ mN r' c' d' g' l ∧ textB (mTx r' c' d' g' l) = true := by
  simp only [mergeB, bndB, Bool.and_eq_true, decide_eq_true_eq] at h
  obtain ⟨⟨⟨⟨h1, h2⟩, h3⟩, h4⟩, h5⟩ := h
  obtain ⟨r, rfl⟩ : ∃ z : Nat, r = z := ⟨r.toNat, by omega⟩
  obtain ⟨c, rfl⟩ : ∃ z : Nat, c = z := ⟨c.toNat, by omega⟩
  obtain ⟨d, rfl⟩ : ∃ z : Nat, d = z := ⟨d.toNat, by omega⟩
  obtain ⟨g, rfl⟩ : ∃ z : Nat, g = z := ⟨g.toNat, by omega⟩
  simp only [Int.toNat_natCast] at h3 h4 h5
  exact ⟨r, c, d, g, rfl, rfl, rfl, rfl, h1, by omega, by omega, by omega, by omega, h3, h4, h5⟩
theorem tab_cell {u : World} {b o n c k : Nat} {L : List Cl} (h : Tab u (some ⟨b, o, none⟩) n c L) (hk : k < L.length) : u.cell? ⟨b, o + k * 5 + 2, none⟩ = some (.int .i64 (L.getD k cl0).2.2.1) ∧ u.cell? ⟨b, o + k * 5 + 3, none⟩ = some (.int .i64 (L.getD k cl0).2.2.2.1) := by
  rcases h.2.2.2 with e | ⟨b', o', e, _, hcl⟩
  · rw [e] at hk
    exact absurd hk (by simp)
  · simp only [Option.some.injEq, Addr.mk.injEq, and_true] at e
    obtain ⟨rfl, rfl⟩ := e
    obtain ⟨-, -, j2, j3, -⟩ := hcl k hk
    exact ⟨j2, j3⟩
section
variable {R C : Int} {l : List Cl}
theorem at_same (h : okB R C l = true) {x : Cl} (hx : x ∈ l) (a b a' b' : Nat) (h1 : inB x a b = true) (h2 : inB x a' b' = true) : atN R C l a b = atN R C l a' b' := by
  obtain ⟨k, hk, e, ek⟩ := at_of h hx a b h1
  obtain ⟨m, hm, e', em⟩ := at_of h hx a' b' h2
  have hw := ok_cell h hx
  have hi := inB_is.1 h1
  rw [e, e']
  rcases Nat.lt_trichotomy k m with q | q | q
  · exact (okB_apart h a b (by omega) (by omega) q hm (by rw [ek]; exact h1) (by rw [em]; exact h1)).elim
  · rw [q]
  · exact (okB_apart h a b (by omega) (by omega) q hk (by rw [em]; exact h1) (by rw [ek]; exact h1)).elim
variable {r c d g : Nat}
/-- A cell that has a square outside of a rectangle that cuts no cell is outside. -/
theorem outs_of (h : okB R C l = true) (hall : l.all (fun z => !cutB r c d g z) = true) {x : Cl} (hx : x ∈ l) (a b : Nat) (hi : inB x a b = true) (ho : ¬ inR r c d g a b) : outsB r c d g x = true := by
  have hw := ok_cell h hx
  have hi' := inB_is.1 hi
  obtain ⟨x1, x2, x3, x4, tx⟩ := x
  simp only at hw hi'
  obtain ⟨x1, rfl⟩ : ∃ z : Nat, x1 = z := ⟨x1.toNat, by omega⟩
  obtain ⟨x2, rfl⟩ : ∃ z : Nat, x2 = z := ⟨x2.toNat, by omega⟩
  obtain ⟨x3, rfl⟩ : ∃ z : Nat, x3 = z := ⟨x3.toNat, by omega⟩
  obtain ⟨x4, rfl⟩ : ∃ z : Nat, x4 = z := ⟨x4.toNat, by omega⟩
  cases hq : outsB r c d g ((x1 : Int), (x2 : Int), (x3 : Int), (x4 : Int), tx)
  · have hc := List.all_eq_true.1 hall _ hx
    unfold cutB at hc
    rw [hq] at hc
    have hf : fullB r c d g ((x1 : Int), (x2 : Int), (x3 : Int), (x4 : Int), tx) = true := by simpa using hc
    exact absurd ((full_iff (by omega) (by omega)).1 hf a b (by omega) (by omega) (by omega) (by omega)) ho
  · rfl
theorem merge_in (h : mergeB R C l r c d g = true) (hd : 1 ≤ d) (hg : 1 ≤ g) (a b : Nat) (hin : inR r c d g a b) : atN R C (mergeL l r c d g) a b = atN R C (mergeL l r c d g) r c := by
  unfold inR at hin
  exact at_same (ok_mergeN h) (mergeL_iff.2 (Or.inr rfl)) a b r c (inB_is.2 (by simp only; omega)) (inB_is.2 (by simp only; omega))
theorem merge_at (h : mergeB R C l r c d g = true) (hd : 1 ≤ d) (hg : 1 ≤ g) : ∃ k, k < (mergeL l r c d g).length ∧ atN R C (mergeL l r c d g) r c = (k : Int) ∧ (mergeL l r c d g).getD k cl0 = ((r : Int), (c : Int), (d : Int), (g : Int), mTx r c d g l) :=
  at_of (ok_mergeN h) (mergeL_iff.2 (Or.inr rfl)) r c (inB_is.2 (by simp only; omega))
theorem merge_out (h : mergeB R C l r c d g = true) (hok : okB R C l = true) (hall : l.all (fun z => !cutB r c d g z) = true) (hd : 1 ≤ d) (hg : 1 ≤ g) (a b : Nat) (ha : (a : Int) < R) (hb : (b : Int) < C) (hout : ¬ inR r c d g a b) :
    atN R C (mergeL l r c d g) a b ≠ atN R C (mergeL l r c d g) r c ∧ sqT R C (mergeL l r c d g) a b = sqT R C l a b := by
  obtain ⟨x, hx, hi⟩ := sq_has hok a b ha hb
  have ho := outs_of hok hall hx a b hi hout
  have hm : x ∈ mergeL l r c d g := mergeL_iff.2 (Or.inl ⟨hx, ho⟩)
  refine ⟨fun e => ?_, by rw [sqT_of (ok_mergeN h) hm a b hi, sqT_of hok hx a b hi]⟩
  obtain ⟨k, _, e1, ek⟩ := at_of (ok_mergeN h) hm a b hi
  obtain ⟨m, _, e2, em⟩ := merge_at h hd hg
  rw [e1, e2] at e
  have hkm : k = m := by omega
  subst hkm
  rw [ek] at em
  rw [em] at hi
  have := inB_is.1 hi
  simp only at this
  exact hout (by unfold inR; omega)
end
end Go.Proofs.Ytkgdocohdjebfaa
namespace Go.Proofs.Ytkgdocohdjebfaa
open Go.RowKit

theorem atN_cases (R C r c : Int) (l : List Cl) : atN R C l r c = -1 ∨ ∃ k : Nat, k < l.length ∧ atN R C l r c = (k : Int) := by
  unfold atN
  by_cases h : okB R C l = true
  · rw [if_pos h]
    cases hq : l.findIdx? (fun x => inB x r c) with
    | none => exact Or.inl rfl
    | some i =>
      obtain ⟨hi, _⟩ := List.findIdx?_eq_some_iff_getElem.1 hq
      exact Or.inr ⟨i, hi, rfl⟩
  · rw [if_neg h]
    exact Or.inl rfl
set_option maxRecDepth 100000 in
set_option maxHeartbeats 4000000 in
theorem lmSquare_any (R C r c : Int) (a : Option Addr) (n cap : Nat) (l : List Cl) (w : World) (h : Tab w a n cap l) :
    Calls Try.prog 22 #[.agg #[.int .i64 R, .int .i64 C, .slice a n cap], .int .i64 r, .int .i64 c] w fun e w' => (∃ ta tn tc, e = .returned (.slice ta tn tc) ∧ Txt w' ta tn tc (sqT R C l r c)) ∧ Below w.heap.size w w' := by
  have H : Hid (Tab w a n cap l) := h
  clear h
  obtain ⟨x, HX⟩ : ∃ x, Hid (atN R C l r c = x) := ⟨_, rfl⟩
  go_enter Try.func22, Try.ntmps22
  go_upto_region 1 with fail
  have H0 := Hold.first (Below.refl w.heap.size w) H.out #[.int .i64 R, .int .i64 C, .slice a n cap] 25
  generalize (w.alloc (.cells #[.int .i64 R, .int .i64 C, .slice a n cap] 25)) = v0 at H0 ⊢
  obtain ⟨Tb, hTe⟩ : ∃ T, w.heap.size = T := ⟨_, rfl⟩
  have HH : Hid (Hold w [(Tb, #[.int .i64 R, .int .i64 C, .slice a n cap], 25)] [(a, n, cap, l)] v0) := by rw [← hTe]; exact H0
  rw [hTe]
  clear H0
  go_upto_region 2 with (first | (refine wpList_load_row rfl 25 (.tmp 3) rfl Tb rfl 25 #[.int .i64 R, .int .i64 C, .slice a n cap] (0, 0) _ (HH.out.row 0 rfl) Try.underlying25 rfl tab_info ?_) | (go_at_call 20; refine (implTableAt_is HX.out (HH.out.tab 0 rfl)).mono ?_; rintro e u1 ⟨rfl, hb⟩; replace HH : Hid (Hold w [(Tb, #[.int .i64 R, .int .i64 C, .slice a n cap], 25)] [(a, n, cap, l)] u1) := HH.out.go hb; clear hb))
  rcases atN_cases R C r c l with e | ⟨k, hk, e⟩
  · have hxe : x = -1 := HX.out.symm.trans e
    subst hxe
    go_wp2_with fail
    go_ret
    refine ⟨⟨none, 0, 0, rfl, ?_⟩, HH.out.1⟩
    unfold sqT
    rw [e, if_pos (by omega)]
    exact ⟨rfl, Nat.le_refl _, Nat.zero_le _, .inl rfl⟩
  · have hxe : x = k := HX.out.symm.trans e
    subst hxe
    have HT := HH.out.tab 0 rfl
    have hn := HT.1
    have hnc := HT.2.1
    have hm := HT.2.2.1
    unfold maxLen at hm
    rcases HT.2.2.2 with e0 | ⟨b, off, rfl, hbv, hcl⟩
    · rw [e0] at hk
      exact absurd hk (by simp)
    obtain ⟨-, -, -, -, ta, tn, tc, x4, ht4⟩ := hcl k hk
    have q2 : u1.cell? ⟨Tb, 2, none⟩ = some (.slice (some ⟨b, off, none⟩) n cap) := (HH.out.row 0 rfl).cell 2
    have HX4 : Hid (Txt u1 ta tn tc (l.getD k cl0).2.2.2.2) := ht4
    have hk0 : (0 : Int) ≤ (k : Int) := by omega
    have hk1 : (k : Int) < (n : Int) := by omega
    have HN : Hid (n = l.length) := hn
    clear hcl ht4 HT hn
    go_wp2_with fail
    go_ret
    refine ⟨⟨ta, tn, tc, rfl, ?_⟩, HH.out.1⟩
    unfold sqT
    rw [e, if_neg (by omega)]
    exact HX4.out
end Go.Proofs.Ytkgdocohdjebfaa
namespace Go.Proofs.Ytkgdocohdjebfaa
open Go.RowKit

set_option maxRecDepth 100000 in
set_option maxHeartbeats 8000000 in
theorem lawTabMerge_walk (a : Option Addr) (n cap : Nat) (zs : List Int) (w : World) (h : Byt w.heap.size w a n cap zs) :
    Calls Try.prog 4 #[.slice a n cap] w fun e w' => e = .returned (.bool true) ∧ Below w.heap.size w w' := by
  have HY : Hid (Byt w.heap.size w a n cap zs) := h
  have hc := h.2.1
  have hm := h.2.2.1
  unfold maxLen at hm
  clear h
  by_cases hn : 1048576 < n
  · have hd : decide ((1048576 : Int) < (n : Int)) = true := by simp; omega
    go_enter Try.func4, Try.ntmps4
    go_wp2_with fail
    go_ret
    exact ⟨rfl, Below.refl _ _⟩
  have hd : decide ((1048576 : Int) < (n : Int)) = false := by simp; omega
  go_enter Try.func4, Try.ntmps4
  go_upto_region 4 with (go_at_call 17; refine (drawTableMerge_any w.heap.size a n cap zs _ HY.out (Nat.le_refl _)).mono ?_; rintro e w1 ⟨⟨R, C, a', n', c', l, r, c, d, g, rfl, hT1, hS1, hrr, hcc, hdd, hgg⟩, hb1⟩)
  have H0 := Hold.first hb1 hT1 #[.int .i64 R, .int .i64 C, .slice a' n' c'] 25
  generalize (w1.alloc (.cells #[.int .i64 R, .int .i64 C, .slice a' n' c'] 25)) = v0 at H0 ⊢
  obtain ⟨Tb, hTe⟩ : ∃ T, w1.heap.size = T := ⟨_, rfl⟩
  rw [hTe] at H0 ⊢
  have HH : Hid (Hold w [(Tb, #[.int .i64 R, .int .i64 C, .slice a' n' c'], 25)] [(a', n', c', l)] v0) := H0
  obtain ⟨hRb, hCb, hLb, hXb⟩ := hS1
  have HLX : Hid (∀ z ∈ l, z.2.2.2.2.length ≤ 25) := hXb
  clear hT1 hb1 H0 hTe hXb
  obtain ⟨can, HC⟩ : ∃ o, Hid (mergeB R C l r c d g = o) := ⟨_, rfl⟩
  cases can
  · go_upto_region 5 with (first | (refine wpList_load_row rfl 25 (.tmp 3) rfl Tb rfl 25 #[.int .i64 R, .int .i64 C, .slice a' n' c'] (0, 0) _ (HH.out.row 0 rfl) Try.underlying25 rfl tab_info ?_) | (go_at_call 18; refine (specTableMerge_any R C r c d g a' n' c' l _ (HH.out.tab 0 rfl)).mono ?_; intro e w1' hr; obtain ⟨hr1, hb⟩ := hr; obtain ⟨Wa, Wn, Wc, rfl, hT⟩ := tabRes_f HC.out hr1; clear hr1))
    have H0 := HH.out.res hb hT #[.int .i64 0, .int .i64 0, .slice Wa Wn Wc] 25
    generalize (w1'.alloc (.cells #[.int .i64 0, .int .i64 0, .slice Wa Wn Wc] 25)) = v1 at H0 ⊢
    obtain ⟨Wb, hTe⟩ : ∃ T, w1'.heap.size = T := ⟨_, rfl⟩
    rw [hTe] at H0 ⊢
    replace HH : Hid (Hold w [(Wb, #[.int .i64 0, .int .i64 0, .slice Wa Wn Wc], 25), (Tb, #[.int .i64 R, .int .i64 C, .slice a' n' c'], 25)] [(Wa, Wn, Wc, []), (a', n', c', l)] v1) := H0
    clear hT hb H0 hTe
    go_upto_region 6 with (first | (refine wpList_load_row rfl 25 (.tmp 8) rfl Wb rfl 25 #[.int .i64 0, .int .i64 0, .slice Wa Wn Wc] (0, 0) _ (HH.out.row 0 rfl) Try.underlying25 rfl tab_info ?_) | (refine wpList_load_row rfl 25 (.tmp 3) rfl Tb rfl 25 #[.int .i64 R, .int .i64 C, .slice a' n' c'] (0, 0) _ (HH.out.row 1 rfl) Try.underlying25 rfl tab_info ?_) | (go_at_call 19; refine (implTableMerge_any R C r c d g a' n' c' l _ (HH.out.tab 1 rfl)).mono ?_; intro e w2' hr; obtain ⟨hr1, hb⟩ := hr; obtain ⟨Xa, Xn, Xc, rfl, hT⟩ := tabRes_f HC.out hr1; clear hr1))
    have H0 := HH.out.res hb hT #[.int .i64 0, .int .i64 0, .slice Xa Xn Xc] 25
    generalize (w2'.alloc (.cells #[.int .i64 0, .int .i64 0, .slice Xa Xn Xc] 25)) = v2 at H0 ⊢
    obtain ⟨Xb, hTe⟩ : ∃ T, w2'.heap.size = T := ⟨_, rfl⟩
    rw [hTe] at H0 ⊢
    replace HH : Hid (Hold w [(Xb, #[.int .i64 0, .int .i64 0, .slice Xa Xn Xc], 25), (Wb, #[.int .i64 0, .int .i64 0, .slice Wa Wn Wc], 25), (Tb, #[.int .i64 R, .int .i64 C, .slice a' n' c'], 25)] [(Xa, Xn, Xc, []), (Wa, Wn, Wc, []), (a', n', c', l)] v2) := H0
    clear hT hb H0 hTe
    go_wp2_with (first | (refine wpList_load_rowG (by rfl) 25 (.tmp 10) rfl Xb rfl 25 #[.int .i64 0, .int .i64 0, .slice Xa Xn Xc] (0, 0) _ (HH.out.row 0 rfl) Try.underlying25 rfl tab_info ?_) | (refine wpList_load_rowG (by rfl) 25 (.tmp 8) rfl Wb rfl 25 #[.int .i64 0, .int .i64 0, .slice Wa Wn Wc] (0, 0) _ (HH.out.row 1 rfl) Try.underlying25 rfl tab_info ?_) | (refine wpList_load_rowG (by rfl) 25 (.tmp 3) rfl Tb rfl 25 #[.int .i64 R, .int .i64 C, .slice a' n' c'] (0, 0) _ (HH.out.row 2 rfl) Try.underlying25 rfl tab_info ?_) | (go_at_call 12; refine (lmTable_same (0) (0) Xa Xn Xc [] Wa Wn Wc _ (HH.out.tab 0 rfl) (HH.out.tab 1 rfl)).mono ?_; rintro e uu ⟨rfl, hb⟩; replace HH : Hid (Hold w [(Xb, #[.int .i64 0, .int .i64 0, .slice Xa Xn Xc], 25), (Wb, #[.int .i64 0, .int .i64 0, .slice Wa Wn Wc], 25), (Tb, #[.int .i64 R, .int .i64 C, .slice a' n' c'], 25)] [(Xa, Xn, Xc, []), (Wa, Wn, Wc, []), (a', n', c', l)] uu) := HH.out.go hb; clear hb))
    go_ret
    exact ⟨rfl, HH.out.1⟩
  · obtain ⟨r, c, d, g, rfl, rfl, rfl, rfl, HOK, hd1, hg1, hrR, hcC, HAL, hmn, HTX⟩ := merge_data HC.out
    replace HOK : Hid (okB R C l = true) := HOK
    replace HAL : Hid (l.all (fun z => !cutB r c d g z) = true) := HAL
    replace HTX : Hid (textB (mTx r c d g l) = true) := HTX
    obtain ⟨hR1, hC1, -, -⟩ := gridP_of_okB HOK.out
    obtain ⟨R, rfl⟩ : ∃ z : Nat, R = z := ⟨R.toNat, by omega⟩
    obtain ⟨C, rfl⟩ : ∃ z : Nat, C = z := ⟨C.toNat, by omega⟩
    go_upto_region 5 with (first | (refine wpList_load_row rfl 25 (.tmp 3) rfl Tb rfl 25 #[.int .i64 R, .int .i64 C, .slice a' n' c'] (0, 0) _ (HH.out.row 0 rfl) Try.underlying25 rfl tab_info ?_) | (go_at_call 18; refine (specTableMerge_any R C r c d g a' n' c' l _ (HH.out.tab 0 rfl)).mono ?_; intro e w1' hr; obtain ⟨hr1, hb⟩ := hr; obtain ⟨Wa, Wn, Wc, rfl, hT⟩ := tabRes_t HC.out hr1; clear hr1))
    have H0 := HH.out.res hb hT #[.int .i64 R, .int .i64 C, .slice Wa Wn Wc] 25
    generalize (w1'.alloc (.cells #[.int .i64 R, .int .i64 C, .slice Wa Wn Wc] 25)) = v1 at H0 ⊢
    obtain ⟨Wb, hTe⟩ : ∃ T, w1'.heap.size = T := ⟨_, rfl⟩
    rw [hTe] at H0 ⊢
    replace HH : Hid (Hold w [(Wb, #[.int .i64 R, .int .i64 C, .slice Wa Wn Wc], 25), (Tb, #[.int .i64 R, .int .i64 C, .slice a' n' c'], 25)] [(Wa, Wn, Wc, (mergeL l r c d g)), (a', n', c', l)] v1) := H0
    clear hT hb H0 hTe
    go_upto_region 6 with (first | (refine wpList_load_row rfl 25 (.tmp 8) rfl Wb rfl 25 #[.int .i64 R, .int .i64 C, .slice Wa Wn Wc] (0, 0) _ (HH.out.row 0 rfl) Try.underlying25 rfl tab_info ?_) | (refine wpList_load_row rfl 25 (.tmp 3) rfl Tb rfl 25 #[.int .i64 R, .int .i64 C, .slice a' n' c'] (0, 0) _ (HH.out.row 1 rfl) Try.underlying25 rfl tab_info ?_) | (go_at_call 19; refine (implTableMerge_any R C r c d g a' n' c' l _ (HH.out.tab 1 rfl)).mono ?_; intro e w2' hr; obtain ⟨hr1, hb⟩ := hr; obtain ⟨Xa, Xn, Xc, rfl, hT⟩ := tabRes_t HC.out hr1; clear hr1))
    have H0 := HH.out.res hb hT #[.int .i64 R, .int .i64 C, .slice Xa Xn Xc] 25
    generalize (w2'.alloc (.cells #[.int .i64 R, .int .i64 C, .slice Xa Xn Xc] 25)) = v2 at H0 ⊢
    obtain ⟨Xb, hTe⟩ : ∃ T, w2'.heap.size = T := ⟨_, rfl⟩
    rw [hTe] at H0 ⊢
    replace HH : Hid (Hold w [(Xb, #[.int .i64 R, .int .i64 C, .slice Xa Xn Xc], 25), (Wb, #[.int .i64 R, .int .i64 C, .slice Wa Wn Wc], 25), (Tb, #[.int .i64 R, .int .i64 C, .slice a' n' c'], 25)] [(Xa, Xn, Xc, (mergeL l r c d g)), (Wa, Wn, Wc, (mergeL l r c d g)), (a', n', c', l)] v2) := H0
    clear hT hb H0 hTe
    go_upto_region 8 with (first | (refine wpList_load_rowG (by rfl) 25 (.tmp 10) rfl Xb rfl 25 #[.int .i64 R, .int .i64 C, .slice Xa Xn Xc] (0, 0) _ (HH.out.row 0 rfl) Try.underlying25 rfl tab_info ?_) | (refine wpList_load_rowG (by rfl) 25 (.tmp 8) rfl Wb rfl 25 #[.int .i64 R, .int .i64 C, .slice Wa Wn Wc] (0, 0) _ (HH.out.row 1 rfl) Try.underlying25 rfl tab_info ?_) | (refine wpList_load_rowG (by rfl) 25 (.tmp 3) rfl Tb rfl 25 #[.int .i64 R, .int .i64 C, .slice a' n' c'] (0, 0) _ (HH.out.row 2 rfl) Try.underlying25 rfl tab_info ?_) | (go_at_call 12; refine (lmTable_same (R) (C) Xa Xn Xc (mergeL l r c d g) Wa Wn Wc _ (HH.out.tab 0 rfl) (HH.out.tab 1 rfl)).mono ?_; rintro e uu ⟨rfl, hb⟩; replace HH : Hid (Hold w [(Xb, #[.int .i64 R, .int .i64 C, .slice Xa Xn Xc], 25), (Wb, #[.int .i64 R, .int .i64 C, .slice Wa Wn Wc], 25), (Tb, #[.int .i64 R, .int .i64 C, .slice a' n' c'], 25)] [(Xa, Xn, Xc, (mergeL l r c d g)), (Wa, Wn, Wc, (mergeL l r c d g)), (a', n', c', l)] uu) := HH.out.go hb; clear hb))
    obtain ⟨k, hk, HAT, EK⟩ := merge_at HC.out hd1 hg1
    replace HAT : Hid (atN R C (mergeL l r c d g) r c = (k : Int)) := HAT
    replace EK : Hid ((mergeL l r c d g).getD k cl0 = ((r : Int), (c : Int), (d : Int), (g : Int), mTx r c d g l)) := EK
    have HOM : Hid (okB R C (mergeL l r c d g) = true) := ok_mergeN HC.out
    have HTx := HH.out.tab 0 rfl
    have hXn := HTx.1
    have hXc := HTx.2.1
    have hXm := HTx.2.2.1
    unfold maxLen at hXm
    rcases HTx.2.2.2 with e0 | ⟨b2, o2, rfl, hbv2, -⟩
    · rw [e0] at hk
      exact absurd hk (by simp)
    have hk0 : (0 : Int) ≤ (k : Int) := by omega
    have hk1 : (k : Int) < (Xn : Int) := by omega
    have HXN : Hid (Xn = (mergeL l r c d g).length) := hXn
    clear HTx hXn hbv2
    go_upto_region 9 with (first | (refine wpList_load_row rfl 25 (.tmp 10) rfl Xb rfl 25 #[.int .i64 R, .int .i64 C, .slice (some ⟨b2, o2, none⟩) Xn Xc] (0, 0) _ (HH.out.row 0 rfl) Try.underlying25 rfl tab_info ?_) | (refine wpList_load_row rfl 25 (.tmp 8) rfl Wb rfl 25 #[.int .i64 R, .int .i64 C, .slice Wa Wn Wc] (0, 0) _ (HH.out.row 1 rfl) Try.underlying25 rfl tab_info ?_) | (refine wpList_load_row rfl 25 (.tmp 3) rfl Tb rfl 25 #[.int .i64 R, .int .i64 C, .slice a' n' c'] (0, 0) _ (HH.out.row 2 rfl) Try.underlying25 rfl tab_info ?_) | (go_at_call 20; refine (implTableAt_is HAT.out (HH.out.tab 0 rfl)).mono ?_; rintro e u9 ⟨rfl, hb⟩; replace HH : Hid (Hold w [(Xb, #[.int .i64 R, .int .i64 C, .slice (some ⟨b2, o2, none⟩) Xn Xc], 25), (Wb, #[.int .i64 R, .int .i64 C, .slice Wa Wn Wc], 25), (Tb, #[.int .i64 R, .int .i64 C, .slice a' n' c'], 25)] [((some ⟨b2, o2, none⟩), Xn, Xc, (mergeL l r c d g)), (Wa, Wn, Wc, (mergeL l r c d g)), (a', n', c', l)] u9) := HH.out.go hb; clear hb))
    go_wp2_with fail
    go_loopw [13] (fun pv wr => ∃ p : Nat, p ≤ R ∧ pv = .int .i64 p ∧ Hold w [(Xb, #[.int .i64 R, .int .i64 C, .slice (some ⟨b2, o2, none⟩) Xn Xc], 25), (Wb, #[.int .i64 R, .int .i64 C, .slice Wa Wn Wc], 25), (Tb, #[.int .i64 R, .int .i64 C, .slice a' n' c'], 25)] [((some ⟨b2, o2, none⟩), Xn, Xc, (mergeL l r c d g)), (Wa, Wn, Wc, (mergeL l r c d g)), (a', n', c', l)] wr) (fun pv _ => R - (intOf pv).toNat)
    case atStart => exact ⟨0, Nat.zero_le _, rfl, HH.out⟩
    case round =>
      clear HH
      obtain ⟨p, hp, rfl, hb⟩ := hrel
      have HH : Hid (Hold w [(Xb, #[.int .i64 R, .int .i64 C, .slice (some ⟨b2, o2, none⟩) Xn Xc], 25), (Wb, #[.int .i64 R, .int .i64 C, .slice Wa Wn Wc], 25), (Tb, #[.int .i64 R, .int .i64 C, .slice a' n' c'], 25)] [((some ⟨b2, o2, none⟩), Xn, Xc, (mergeL l r c d g)), (Wa, Wn, Wc, (mergeL l r c d g)), (a', n', c', l)] wr) := hb
      have q0 : wr.cell? ⟨Tb, 0, none⟩ = some (.int .i64 (R : Int)) := (HH.out.row 2 rfl).cell 0
      clear hb
      by_cases hlp : p < R
      · have hpb : (p : Int) < (R : Int) := by omega
        go_wp2_with fail
        clear q0
        go_loopw [14] (fun qv wr => ∃ q : Nat, q ≤ C ∧ qv = .int .i64 q ∧ Hold w [(Xb, #[.int .i64 R, .int .i64 C, .slice (some ⟨b2, o2, none⟩) Xn Xc], 25), (Wb, #[.int .i64 R, .int .i64 C, .slice Wa Wn Wc], 25), (Tb, #[.int .i64 R, .int .i64 C, .slice a' n' c'], 25)] [((some ⟨b2, o2, none⟩), Xn, Xc, (mergeL l r c d g)), (Wa, Wn, Wc, (mergeL l r c d g)), (a', n', c', l)] wr) (fun qv _ => C - (intOf qv).toNat)
        case atStart => exact ⟨0, Nat.zero_le _, rfl, HH.out⟩
        case round =>
          clear HH
          obtain ⟨q, hq, rfl, hb⟩ := hrel
          have HH : Hid (Hold w [(Xb, #[.int .i64 R, .int .i64 C, .slice (some ⟨b2, o2, none⟩) Xn Xc], 25), (Wb, #[.int .i64 R, .int .i64 C, .slice Wa Wn Wc], 25), (Tb, #[.int .i64 R, .int .i64 C, .slice a' n' c'], 25)] [((some ⟨b2, o2, none⟩), Xn, Xc, (mergeL l r c d g)), (Wa, Wn, Wc, (mergeL l r c d g)), (a', n', c', l)] wr) := hb
          have q1 : wr.cell? ⟨Tb, 1, none⟩ = some (.int .i64 (C : Int)) := (HH.out.row 2 rfl).cell 1
          clear hb
          by_cases hlq : q < C
          · have hqb : (q : Int) < (C : Int) := by omega
            go_upto_region 15 with fail
            clear q1
            go_cut [15] (fun bv wx => bv = .bool (decide (r ≤ p ∧ p < r + d ∧ c ≤ q ∧ q < c + g)) ∧ Hold w [(Xb, #[.int .i64 R, .int .i64 C, .slice (some ⟨b2, o2, none⟩) Xn Xc], 25), (Wb, #[.int .i64 R, .int .i64 C, .slice Wa Wn Wc], 25), (Tb, #[.int .i64 R, .int .i64 C, .slice a' n' c'], 25)] [((some ⟨b2, o2, none⟩), Xn, Xc, (mergeL l r c d g)), (Wa, Wn, Wc, (mergeL l r c d g)), (a', n', c', l)] wx)
            case first =>
              by_cases i1 : (r : Int) ≤ (p : Int)
              · by_cases i2 : (p : Int) < (r : Int) + (d : Int)
                · by_cases i3 : (c : Int) ≤ (q : Int)
                  · by_cases i4 : (q : Int) < (c : Int) + (g : Int)
                    · go_wp2_with fail
                      go_meet
                      exact ⟨congrArg Value.bool (decide_eq_true (by omega)).symm, HH.out⟩
                    · go_wp2_with fail
                      go_meet
                      exact ⟨congrArg Value.bool (decide_eq_false (by omega)).symm, HH.out⟩
                  · go_wp2_with fail
                    go_meet
                    exact ⟨congrArg Value.bool (decide_eq_false (by omega)).symm, HH.out⟩
                · go_wp2_with fail
                  go_meet
                  exact ⟨congrArg Value.bool (decide_eq_false (by omega)).symm, HH.out⟩
              · go_wp2_with fail
                go_meet
                exact ⟨congrArg Value.bool (decide_eq_false (by omega)).symm, HH.out⟩
            case rest =>
              clear HH
              obtain ⟨rfl, hh⟩ := hcut
              have HH : Hid (Hold w [(Xb, #[.int .i64 R, .int .i64 C, .slice (some ⟨b2, o2, none⟩) Xn Xc], 25), (Wb, #[.int .i64 R, .int .i64 C, .slice Wa Wn Wc], 25), (Tb, #[.int .i64 R, .int .i64 C, .slice a' n' c'], 25)] [((some ⟨b2, o2, none⟩), Xn, Xc, (mergeL l r c d g)), (Wa, Wn, Wc, (mergeL l r c d g)), (a', n', c', l)] wc) := hh
              clear hh
              by_cases hin : r ≤ p ∧ p < r + d ∧ c ≤ q ∧ q < c + g
              · rw [decide_eq_true hin]
                have HMI : Hid (atN R C (mergeL l r c d g) p q = (k : Int)) := (merge_in HC.out hd1 hg1 p q hin).trans HAT.out
                go_upto_region 16 with fail
                refine wp_region_noPanic ?_
                refine wp_region_held_drew (S := fun w' => Hold w [(Xb, #[.int .i64 R, .int .i64 C, .slice (some ⟨b2, o2, none⟩) Xn Xc], 25), (Wb, #[.int .i64 R, .int .i64 C, .slice Wa Wn Wc], 25), (Tb, #[.int .i64 R, .int .i64 C, .slice a' n' c'], 25)] [((some ⟨b2, o2, none⟩), Xn, Xc, (mergeL l r c d g)), (Wa, Wn, Wc, (mergeL l r c d g)), (a', n', c', l)] w') (by kernel_rfl) HH.out.drew (fun hHeld => ?_)
                refine take_at 0 104 (.agg #[.int .i64 R, .int .i64 C, .slice (some ⟨b2, o2, none⟩) Xn Xc]) rfl rfl (by kernel_rfl) (by kernel_rfl) (by kernel_rfl) (fun _ _ _ h => h) (yieldsIf_load_row (by kernel_rfl) 25 (.tmp 10) rfl Xb rfl 25 #[.int .i64 R, .int .i64 C, .slice (some ⟨b2, o2, none⟩) Xn Xc] (0, 0) _ (fun w' h => h.row 0 rfl) Try.underlying25 rfl tab_info) hHeld ?_
                (try simp only [Act.put, List.setIfInBounds_toArray, List.set_cons_zero, List.set_cons_succ])
                refine take_at 1 105 (.int .i64 (p : Int)) rfl rfl (by kernel_rfl) (by kernel_rfl) (by kernel_rfl) (fun _ _ _ h => h) (Or.inl ⟨by kernel_rfl, fun w' hS' => by go_simp⟩) hHeld ?_
                (try simp only [Act.put, List.setIfInBounds_toArray, List.set_cons_zero, List.set_cons_succ])
                refine take_at 2 106 (.int .i64 (q : Int)) rfl rfl (by kernel_rfl) (by kernel_rfl) (by kernel_rfl) (fun _ _ _ h => h) (Or.inl ⟨by kernel_rfl, fun w' hS' => by go_simp⟩) hHeld ?_
                (try simp only [Act.put, List.setIfInBounds_toArray, List.set_cons_zero, List.set_cons_succ])
                refine take_at 4 108 (.int .i64 (k : Int)) rfl rfl (by kernel_rfl) (by kernel_rfl) (by kernel_rfl) (fun _ _ _ h => h) (Or.inl ⟨by kernel_rfl, fun w' hS' => by go_simp⟩) hHeld ?_
                (try simp only [Act.put, List.setIfInBounds_toArray, List.set_cons_zero, List.set_cons_succ])
                refine take_at 6 110 (.bool true) rfl rfl (by kernel_rfl) (by kernel_rfl) (by kernel_rfl) (fun _ _ _ h => h) (Or.inl ⟨by kernel_rfl, fun w' hS' => by go_simp⟩) hHeld ?_
                (try simp only [Act.put, List.setIfInBounds_toArray, List.set_cons_zero, List.set_cons_succ])
                refine wpAnyH_ready (rs := [3]) (by kernel_rfl) (by simp) ?_
                refine AllReadyH.cons rfl (fun K hK => ?_) AllReadyH.nil
                go_simp
                go_at_call 20
                refine (implTableAt_is HMI.out (hHeld.tab 0 rfl)).mono ?_
                rintro e u1 ⟨rfl, hb⟩
                go_wp2_with fail
                refine hK.out _ _ (hHeld.go hb) (fun hHeld => ?_)
                clear hK K
                (try simp only [Act.put, List.setIfInBounds_toArray, List.set_cons_zero, List.set_cons_succ])
                refine take_at 5 109 (.bool true) rfl rfl (by kernel_rfl) (by kernel_rfl) (by kernel_rfl) (fun _ _ _ h => h) (Or.inl ⟨by kernel_rfl, fun w' hS' => by go_simp⟩) hHeld ?_
                (try simp only [Act.put, List.setIfInBounds_toArray, List.set_cons_zero, List.set_cons_succ])
                refine take_at 7 111 (.bool false) rfl rfl (by kernel_rfl) (by kernel_rfl) (by kernel_rfl) (fun _ _ _ h => h) (Or.inl ⟨by kernel_rfl, fun w' hS' => by go_simp⟩) hHeld ?_
                (try simp only [Act.put, List.setIfInBounds_toArray, List.set_cons_zero, List.set_cons_succ])
                refine take_at 8 112 (.bool false) rfl rfl (by kernel_rfl) (by kernel_rfl) (by kernel_rfl) (fun _ _ _ h => h) (Or.inl ⟨by kernel_rfl, fun w' hS' => by go_simp⟩) hHeld ?_
                (try simp only [Act.put, List.setIfInBounds_toArray, List.set_cons_zero, List.set_cons_succ])
                refine take_at 9 113 (.bool true) rfl rfl (by kernel_rfl) (by kernel_rfl) (by kernel_rfl) (fun _ _ _ h => h) (Or.inl ⟨by kernel_rfl, fun w' hS' => by go_simp⟩) hHeld ?_
                (try simp only [Act.put, List.setIfInBounds_toArray, List.set_cons_zero, List.set_cons_succ])
                refine take_at 10 114 (.bool false) rfl rfl (by kernel_rfl) (by kernel_rfl) (by kernel_rfl) (fun _ _ _ h => h) (Or.inl ⟨by kernel_rfl, fun w' hS' => by go_simp⟩) hHeld ?_
                (try simp only [Act.put, List.setIfInBounds_toArray, List.set_cons_zero, List.set_cons_succ])
                refine take_at 11 115 (.bool false) rfl rfl (by kernel_rfl) (by kernel_rfl) (by kernel_rfl) (fun _ _ _ h => h) (Or.inl ⟨by kernel_rfl, fun w' hS' => by go_simp⟩) hHeld ?_
                (try simp only [Act.put, List.setIfInBounds_toArray, List.set_cons_zero, List.set_cons_succ])
                refine take_at 12 116 (undef) rfl rfl (by kernel_rfl) (by kernel_rfl) (by kernel_rfl) (fun _ _ _ h => h) (Or.inr ⟨by kernel_rfl, rfl⟩) hHeld ?_
                (try simp only [Act.put, List.setIfInBounds_toArray, List.set_cons_zero, List.set_cons_succ])
                refine take_at 13 117 (undef) rfl rfl (by kernel_rfl) (by kernel_rfl) (by kernel_rfl) (fun _ _ _ h => h) (Or.inr ⟨by kernel_rfl, rfl⟩) hHeld ?_
                (try simp only [Act.put, List.setIfInBounds_toArray, List.set_cons_zero, List.set_cons_succ])
                refine take_at 14 118 (undef) rfl rfl (by kernel_rfl) (by kernel_rfl) (by kernel_rfl) (fun _ _ _ h => h) (Or.inr ⟨by kernel_rfl, rfl⟩) hHeld ?_
                (try simp only [Act.put, List.setIfInBounds_toArray, List.set_cons_zero, List.set_cons_succ])
                refine take_at 15 119 (undef) rfl rfl (by kernel_rfl) (by kernel_rfl) (by kernel_rfl) (fun _ _ _ h => h) (Or.inr ⟨by kernel_rfl, rfl⟩) hHeld ?_
                (try simp only [Act.put, List.setIfInBounds_toArray, List.set_cons_zero, List.set_cons_succ])
                refine take_at 16 120 (undef) rfl rfl (by kernel_rfl) (by kernel_rfl) (by kernel_rfl) (fun _ _ _ h => h) (Or.inr ⟨by kernel_rfl, rfl⟩) hHeld ?_
                (try simp only [Act.put, List.setIfInBounds_toArray, List.set_cons_zero, List.set_cons_succ])
                refine take_at 17 121 (undef) rfl rfl (by kernel_rfl) (by kernel_rfl) (by kernel_rfl) (fun _ _ _ h => h) (Or.inr ⟨by kernel_rfl, rfl⟩) hHeld ?_
                (try simp only [Act.put, List.setIfInBounds_toArray, List.set_cons_zero, List.set_cons_succ])
                refine take_at 18 122 (undef) rfl rfl (by kernel_rfl) (by kernel_rfl) (by kernel_rfl) (fun _ _ _ h => h) (Or.inr ⟨by kernel_rfl, rfl⟩) hHeld ?_
                (try simp only [Act.put, List.setIfInBounds_toArray, List.set_cons_zero, List.set_cons_succ])
                refine take_at 19 123 (undef) rfl rfl (by kernel_rfl) (by kernel_rfl) (by kernel_rfl) (fun _ _ _ h => h) (Or.inr ⟨by kernel_rfl, rfl⟩) hHeld ?_
                (try simp only [Act.put, List.setIfInBounds_toArray, List.set_cons_zero, List.set_cons_succ])
                refine take_at 20 124 (undef) rfl rfl (by kernel_rfl) (by kernel_rfl) (by kernel_rfl) (fun _ _ _ h => h) (Or.inr ⟨by kernel_rfl, rfl⟩) hHeld ?_
                (try simp only [Act.put, List.setIfInBounds_toArray, List.set_cons_zero, List.set_cons_succ])
                refine take_at 21 125 (undef) rfl rfl (by kernel_rfl) (by kernel_rfl) (by kernel_rfl) (fun _ _ _ h => h) (Or.inr ⟨by kernel_rfl, rfl⟩) hHeld ?_
                (try simp only [Act.put, List.setIfInBounds_toArray, List.set_cons_zero, List.set_cons_succ])
                refine take_at 22 126 (.bool false) rfl rfl (by kernel_rfl) (by kernel_rfl) (by kernel_rfl) (fun _ _ _ h => h) (Or.inl ⟨by kernel_rfl, fun w' hS' => by go_simp⟩) hHeld ?_
                (try simp only [Act.put, List.setIfInBounds_toArray, List.set_cons_zero, List.set_cons_succ])
                refine take_at 23 127 (.bool false) rfl rfl (by kernel_rfl) (by kernel_rfl) (by kernel_rfl) (fun _ _ _ h => h) (Or.inl ⟨by kernel_rfl, fun w' hS' => by go_simp⟩) hHeld ?_
                (try simp only [Act.put, List.setIfInBounds_toArray, List.set_cons_zero, List.set_cons_succ])
                refine wpAnyH_done (by kernel_rfl) ?_ _
                refine NoPanic.normal ?_
                replace HH : Hid (Hold w [(Xb, #[.int .i64 R, .int .i64 C, .slice (some ⟨b2, o2, none⟩) Xn Xc], 25), (Wb, #[.int .i64 R, .int .i64 C, .slice Wa Wn Wc], 25), (Tb, #[.int .i64 R, .int .i64 C, .slice a' n' c'], 25)] [((some ⟨b2, o2, none⟩), Xn, Xc, (mergeL l r c d g)), (Wa, Wn, Wc, (mergeL l r c d g)), (a', n', c', l)] _) := hHeld
                clear hHeld
                go_wp2_with fail
                go_roundw
                case rel => exact ⟨q + 1, by omega, by go_num, HH.out⟩
                case measure => simp [intOf]; omega
              · rw [decide_eq_false hin]
                have HMO := merge_out HC.out HOK.out HAL.out hd1 hg1 p q hpb hqb hin
                obtain ⟨km, HMI⟩ : ∃ x, Hid (atN R C (mergeL l r c d g) p q = x) := ⟨_, rfl⟩
                have hkm : ¬ km = (k : Int) := by
                  have h1 := HMO.1
                  rw [HMI.out, HAT.out] at h1
                  exact h1
                have hkd : decide (km = (k : Int)) = false := decide_eq_false hkm
                have HSQ : Hid (sqT R C l p q = sqT R C (mergeL l r c d g) p q) := HMO.2.symm
                clear HMO
                go_upto_region 16 with fail
                refine wp_region_noPanic ?_
                refine wp_region_held_drew (S := fun w' => Hold w [(Xb, #[.int .i64 R, .int .i64 C, .slice (some ⟨b2, o2, none⟩) Xn Xc], 25), (Wb, #[.int .i64 R, .int .i64 C, .slice Wa Wn Wc], 25), (Tb, #[.int .i64 R, .int .i64 C, .slice a' n' c'], 25)] [((some ⟨b2, o2, none⟩), Xn, Xc, (mergeL l r c d g)), (Wa, Wn, Wc, (mergeL l r c d g)), (a', n', c', l)] w') (by kernel_rfl) HH.out.drew (fun hHeld => ?_)
                refine take_at 0 104 (.agg #[.int .i64 R, .int .i64 C, .slice (some ⟨b2, o2, none⟩) Xn Xc]) rfl rfl (by kernel_rfl) (by kernel_rfl) (by kernel_rfl) (fun _ _ _ h => h) (yieldsIf_load_row (by kernel_rfl) 25 (.tmp 10) rfl Xb rfl 25 #[.int .i64 R, .int .i64 C, .slice (some ⟨b2, o2, none⟩) Xn Xc] (0, 0) _ (fun w' h => h.row 0 rfl) Try.underlying25 rfl tab_info) hHeld ?_
                (try simp only [Act.put, List.setIfInBounds_toArray, List.set_cons_zero, List.set_cons_succ])
                refine take_at 1 105 (.int .i64 (p : Int)) rfl rfl (by kernel_rfl) (by kernel_rfl) (by kernel_rfl) (fun _ _ _ h => h) (Or.inl ⟨by kernel_rfl, fun w' hS' => by go_simp⟩) hHeld ?_
                (try simp only [Act.put, List.setIfInBounds_toArray, List.set_cons_zero, List.set_cons_succ])
                refine take_at 2 106 (.int .i64 (q : Int)) rfl rfl (by kernel_rfl) (by kernel_rfl) (by kernel_rfl) (fun _ _ _ h => h) (Or.inl ⟨by kernel_rfl, fun w' hS' => by go_simp⟩) hHeld ?_
                (try simp only [Act.put, List.setIfInBounds_toArray, List.set_cons_zero, List.set_cons_succ])
                refine take_at 4 108 (.int .i64 (k : Int)) rfl rfl (by kernel_rfl) (by kernel_rfl) (by kernel_rfl) (fun _ _ _ h => h) (Or.inl ⟨by kernel_rfl, fun w' hS' => by go_simp⟩) hHeld ?_
                (try simp only [Act.put, List.setIfInBounds_toArray, List.set_cons_zero, List.set_cons_succ])
                refine take_at 6 110 (.bool false) rfl rfl (by kernel_rfl) (by kernel_rfl) (by kernel_rfl) (fun _ _ _ h => h) (Or.inl ⟨by kernel_rfl, fun w' hS' => by go_simp⟩) hHeld ?_
                (try simp only [Act.put, List.setIfInBounds_toArray, List.set_cons_zero, List.set_cons_succ])
                refine wpAnyH_ready (rs := [3]) (by kernel_rfl) (by simp) ?_
                refine AllReadyH.cons rfl (fun K hK => ?_) AllReadyH.nil
                go_simp
                go_at_call 20
                refine (implTableAt_is HMI.out (hHeld.tab 0 rfl)).mono ?_
                rintro e u1 ⟨rfl, hb⟩
                go_wp2_with fail
                refine hK.out _ _ (hHeld.go hb) (fun hHeld => ?_)
                clear hK K
                (try simp only [Act.put, List.setIfInBounds_toArray, List.set_cons_zero, List.set_cons_succ])
                refine take_at 5 109 (.bool false) rfl rfl (by kernel_rfl) (by kernel_rfl) (by kernel_rfl) (fun _ _ _ h => h) (Or.inl ⟨by kernel_rfl, fun w' hS' => by go_simp⟩) hHeld ?_
                (try simp only [Act.put, List.setIfInBounds_toArray, List.set_cons_zero, List.set_cons_succ])
                refine take_at 7 111 (.bool false) rfl rfl (by kernel_rfl) (by kernel_rfl) (by kernel_rfl) (fun _ _ _ h => h) (Or.inl ⟨by kernel_rfl, fun w' hS' => by go_simp⟩) hHeld ?_
                (try simp only [Act.put, List.setIfInBounds_toArray, List.set_cons_zero, List.set_cons_succ])
                refine take_at 8 112 (.bool false) rfl rfl (by kernel_rfl) (by kernel_rfl) (by kernel_rfl) (fun _ _ _ h => h) (Or.inl ⟨by kernel_rfl, fun w' hS' => by go_simp⟩) hHeld ?_
                (try simp only [Act.put, List.setIfInBounds_toArray, List.set_cons_zero, List.set_cons_succ])
                refine take_at 9 113 (.bool false) rfl rfl (by kernel_rfl) (by kernel_rfl) (by kernel_rfl) (fun _ _ _ h => h) (Or.inl ⟨by kernel_rfl, fun w' hS' => by go_simp⟩) hHeld ?_
                (try simp only [Act.put, List.setIfInBounds_toArray, List.set_cons_zero, List.set_cons_succ])
                refine take_at 10 114 (.bool true) rfl rfl (by kernel_rfl) (by kernel_rfl) (by kernel_rfl) (fun _ _ _ h => h) (Or.inl ⟨by kernel_rfl, fun w' hS' => by go_simp⟩) hHeld ?_
                (try simp only [Act.put, List.setIfInBounds_toArray, List.set_cons_zero, List.set_cons_succ])
                refine take_at 11 115 (.bool true) rfl rfl (by kernel_rfl) (by kernel_rfl) (by kernel_rfl) (fun _ _ _ h => h) (Or.inl ⟨by kernel_rfl, fun w' hS' => by go_simp⟩) hHeld ?_
                (try simp only [Act.put, List.setIfInBounds_toArray, List.set_cons_zero, List.set_cons_succ])
                refine take_at 12 116 (.agg #[.int .i64 R, .int .i64 C, .slice (some ⟨b2, o2, none⟩) Xn Xc]) rfl rfl (by kernel_rfl) (by kernel_rfl) (by kernel_rfl) (fun _ _ _ h => h) (yieldsIf_load_row (by kernel_rfl) 25 (.tmp 10) rfl Xb rfl 25 #[.int .i64 R, .int .i64 C, .slice (some ⟨b2, o2, none⟩) Xn Xc] (0, 0) _ (fun w' h => h.row 0 rfl) Try.underlying25 rfl tab_info) hHeld ?_
                (try simp only [Act.put, List.setIfInBounds_toArray, List.set_cons_zero, List.set_cons_succ])
                refine take_at 13 117 (.int .i64 (p : Int)) rfl rfl (by kernel_rfl) (by kernel_rfl) (by kernel_rfl) (fun _ _ _ h => h) (Or.inl ⟨by kernel_rfl, fun w' hS' => by go_simp⟩) hHeld ?_
                (try simp only [Act.put, List.setIfInBounds_toArray, List.set_cons_zero, List.set_cons_succ])
                refine take_at 14 118 (.int .i64 (q : Int)) rfl rfl (by kernel_rfl) (by kernel_rfl) (by kernel_rfl) (fun _ _ _ h => h) (Or.inl ⟨by kernel_rfl, fun w' hS' => by go_simp⟩) hHeld ?_
                (try simp only [Act.put, List.setIfInBounds_toArray, List.set_cons_zero, List.set_cons_succ])
                refine take_at 16 120 (.agg #[.int .i64 R, .int .i64 C, .slice a' n' c']) rfl rfl (by kernel_rfl) (by kernel_rfl) (by kernel_rfl) (fun _ _ _ h => h) (yieldsIf_load_row (by kernel_rfl) 25 (.tmp 3) rfl Tb rfl 25 #[.int .i64 R, .int .i64 C, .slice a' n' c'] (0, 0) _ (fun w' h => h.row 2 rfl) Try.underlying25 rfl tab_info) hHeld ?_
                (try simp only [Act.put, List.setIfInBounds_toArray, List.set_cons_zero, List.set_cons_succ])
                refine take_at 17 121 (.int .i64 (p : Int)) rfl rfl (by kernel_rfl) (by kernel_rfl) (by kernel_rfl) (fun _ _ _ h => h) (Or.inl ⟨by kernel_rfl, fun w' hS' => by go_simp⟩) hHeld ?_
                (try simp only [Act.put, List.setIfInBounds_toArray, List.set_cons_zero, List.set_cons_succ])
                refine take_at 18 122 (.int .i64 (q : Int)) rfl rfl (by kernel_rfl) (by kernel_rfl) (by kernel_rfl) (fun _ _ _ h => h) (Or.inl ⟨by kernel_rfl, fun w' hS' => by go_simp⟩) hHeld ?_
                (try simp only [Act.put, List.setIfInBounds_toArray, List.set_cons_zero, List.set_cons_succ])
                refine wpAnyH_ready (rs := [15]) (by kernel_rfl) (by simp) ?_
                refine AllReadyH.cons rfl (fun K hK => ?_) AllReadyH.nil
                go_simp
                go_at_call 22
                refine (lmSquare_any _ _ (p : Int) (q : Int) (some ⟨b2, o2, none⟩) Xn Xc (mergeL l r c d g) _ (hHeld.tab 0 rfl)).mono ?_
                rintro e u2 ⟨⟨ta, tn, tc, rfl, ht⟩, hb⟩
                have HA1 := ht
                clear ht
                go_wp2_with fail
                refine hK.out _ _ (hHeld.go hb) (fun hHeld => ?_)
                clear hK K
                (try simp only [Act.put, List.setIfInBounds_toArray, List.set_cons_zero, List.set_cons_succ])
                refine wpAnyH_ready (rs := [19]) (by kernel_rfl) (by simp) ?_
                refine AllReadyH.cons rfl (fun K hK => ?_) AllReadyH.nil
                go_simp
                go_at_call 22
                refine (lmSquare_any _ _ (p : Int) (q : Int) a' n' c' l _ (hHeld.tab 2 rfl)).mono ?_
                rintro e u3 ⟨⟨tb, tm, td, rfl, ht⟩, hb⟩
                have HA2 := HA1.below hb
                rw [HSQ.out] at ht
                have HA3 := ht
                clear ht HA1
                go_wp2_with fail
                refine hK.out _ _ (hHeld.go hb) (fun hHeld => ?_)
                clear hK K
                (try simp only [Act.put, List.setIfInBounds_toArray, List.set_cons_zero, List.set_cons_succ])
                refine wpAnyH_ready (rs := [20]) (by kernel_rfl) (by simp) ?_
                refine AllReadyH.cons rfl (fun K hK => ?_) AllReadyH.nil
                go_simp
                go_at_call 21
                refine (lmSigns_eq HA2 HA3).mono ?_
                rintro e u4 ⟨rfl, hb⟩
                clear HA2 HA3
                go_wp2_with fail
                refine hK.out _ _ (hHeld.go hb) (fun hHeld => ?_)
                clear hK K
                (try simp only [Act.put, List.setIfInBounds_toArray, List.set_cons_zero, List.set_cons_succ])
                refine take_at 21 125 (.bool false) rfl rfl (by kernel_rfl) (by kernel_rfl) (by kernel_rfl) (fun _ _ _ h => h) (Or.inl ⟨by kernel_rfl, fun w' hS' => by go_simp⟩) hHeld ?_
                (try simp only [Act.put, List.setIfInBounds_toArray, List.set_cons_zero, List.set_cons_succ])
                refine take_at 22 126 (.bool false) rfl rfl (by kernel_rfl) (by kernel_rfl) (by kernel_rfl) (fun _ _ _ h => h) (Or.inl ⟨by kernel_rfl, fun w' hS' => by go_simp⟩) hHeld ?_
                (try simp only [Act.put, List.setIfInBounds_toArray, List.set_cons_zero, List.set_cons_succ])
                refine take_at 23 127 (.bool false) rfl rfl (by kernel_rfl) (by kernel_rfl) (by kernel_rfl) (fun _ _ _ h => h) (Or.inl ⟨by kernel_rfl, fun w' hS' => by go_simp⟩) hHeld ?_
                (try simp only [Act.put, List.setIfInBounds_toArray, List.set_cons_zero, List.set_cons_succ])
                refine wpAnyH_done (by kernel_rfl) ?_ _
                refine NoPanic.normal ?_
                replace HH : Hid (Hold w [(Xb, #[.int .i64 R, .int .i64 C, .slice (some ⟨b2, o2, none⟩) Xn Xc], 25), (Wb, #[.int .i64 R, .int .i64 C, .slice Wa Wn Wc], 25), (Tb, #[.int .i64 R, .int .i64 C, .slice a' n' c'], 25)] [((some ⟨b2, o2, none⟩), Xn, Xc, (mergeL l r c d g)), (Wa, Wn, Wc, (mergeL l r c d g)), (a', n', c', l)] _) := hHeld
                clear hHeld
                go_wp2_with fail
                go_roundw
                case rel => exact ⟨q + 1, by omega, by go_num, HH.out⟩
                case measure => simp [intOf]; omega
          · have hqb : ¬ (q : Int) < (C : Int) := by omega
            go_wp2_with fail
            go_roundw
            case rel => exact ⟨p + 1, by omega, by go_num, HH.out⟩
            case measure => simp [intOf]; omega
      · have hpb : ¬ (p : Int) < (R : Int) := by omega
        go_wp2_with (first | (refine wpList_load_rowG (by rfl) 25 (.tmp 10) rfl Xb rfl 25 #[.int .i64 R, .int .i64 C, .slice (some ⟨b2, o2, none⟩) Xn Xc] (0, 0) _ (HH.out.row 0 rfl) Try.underlying25 rfl tab_info ?_) | (refine wpList_load_rowG (by rfl) 25 (.tmp 8) rfl Wb rfl 25 #[.int .i64 R, .int .i64 C, .slice Wa Wn Wc] (0, 0) _ (HH.out.row 1 rfl) Try.underlying25 rfl tab_info ?_) | (refine wpList_load_rowG (by rfl) 25 (.tmp 3) rfl Tb rfl 25 #[.int .i64 R, .int .i64 C, .slice a' n' c'] (0, 0) _ (HH.out.row 2 rfl) Try.underlying25 rfl tab_info ?_) | (go_at_call 23; refine (implTableOk_is HOM.out (HH.out.tab 0 rfl)).mono ?_; rintro e uu ⟨rfl, hb⟩; replace HH : Hid (Hold w [(Xb, #[.int .i64 R, .int .i64 C, .slice (some ⟨b2, o2, none⟩) Xn Xc], 25), (Wb, #[.int .i64 R, .int .i64 C, .slice Wa Wn Wc], 25), (Tb, #[.int .i64 R, .int .i64 C, .slice a' n' c'], 25)] [((some ⟨b2, o2, none⟩), Xn, Xc, (mergeL l r c d g)), (Wa, Wn, Wc, (mergeL l r c d g)), (a', n', c', l)] uu) := HH.out.go hb; clear hb; have qXb2 : uu.cell? ⟨Xb, 2, none⟩ = some (.slice (some ⟨b2, o2, none⟩) Xn Xc) := (HH.out.row 0 rfl).cell 2; have j2 := (tab_cell (HH.out.tab 0 rfl) hk).1; have j3 := (tab_cell (HH.out.tab 0 rfl) hk).2; rw [EK.out] at j2 j3))
        go_ret
        exact ⟨rfl, HH.out.1⟩
end Go.Proofs.Ytkgdocohdjebfaa
