import Derived.Test.YtkgdocohdjebfaaBD2
import Derived.Test.YtkgdocohdjebfaaBD1
import Derived.Test.YtkgdocohdjebfaaBA3
import Derived.Test.YtkgdocohdjebfaaBS1
import Derived.Test.YtkgdocohdjebfaaBA1
import Derived.Test.YtkgdocohdjebfaaBA2
import Derived.Test.YtkgdocohdjebfaaBQ1
import Derived.Test.YtkgdocohdjebfaaBM1
namespace Go.Proofs.Ytkgdocohdjebfaa
open Go.RowKit

theorem results_cell_tmp4 {fn : Func} {p u u' u2 u3 : Tmp} {ty : TypeId} (h : fn.results = #[.cell p ty, .tmp u, .tmp u', .tmp u2, .tmp u3]) (tmps : Array Value) (P : Program) (w : World) :
    (results fn tmps).run P w =
      ((asAddr (tmps.getD p undef)).run P w).andThen fun a w₁ => ((loadVar ty a).run P w₁).andThen fun v w₂ => .ok (.tuple #[v, tmps.getD u undef, tmps.getD u' undef, tmps.getD u2 undef, tmps.getD u3 undef]) w₂ := by
  simp only [results, h]
  simp [Sem.run_bind, Result.andThen]
set_option maxRecDepth 100000 in
set_option maxHeartbeats 8000000 in
theorem drawTableMerge_any (B : Nat) (a : Option Addr) (n cap : Nat) (zs : List Int) (w : World) (h : Byt B w a n cap zs) (hB : B ≤ w.heap.size) :
    Calls Try.prog 17 #[.slice a n cap] w fun e w' => (∃ (R C : Int) (a' : Option Addr) (n' c' : Nat) (l : List Cl) (r c d g : Int), e = .returned (.tuple #[.agg #[.int .i64 R, .int .i64 C, .slice a' n' c'], .int .i64 r, .int .i64 c, .int .i64 d, .int .i64 g]) ∧ Tab w' a' n' c' l ∧ TabSp R C l ∧ (-1 ≤ r ∧ r ≤ 10) ∧ (-1 ≤ c ∧ c ≤ 10) ∧ (0 ≤ d ∧ d ≤ 10) ∧ (0 ≤ g ∧ g ≤ 10)) ∧ Below w.heap.size w w' := by
  have HY : Hid (Byt B w a n cap zs) := h
  clear h
  go_enter Try.func17, Try.ntmps17
  go_upto_region 1 with fail
  have B0 : Below w.heap.size w (w.alloc (.cells #[.int .i64 0, .int .i64 0, .slice none 0 0] 25)) := (Below.refl _ _).alloc (Nat.le_refl _) _
  have Z0 : RowAt (w.alloc (.cells #[.int .i64 0, .int .i64 0, .slice none 0 0] 25)) w.heap.size #[.int .i64 0, .int .i64 0, .slice none 0 0] 25 := rowAt_new _ _ _
  have HY0 : Hid (Byt B (w.alloc (.cells #[.int .i64 0, .int .i64 0, .slice none 0 0] 25)) a n cap zs) := HY.out.belowC B0 hB
  generalize (w.alloc (.cells #[.int .i64 0, .int .i64 0, .slice none 0 0] 25)) = v0 at B0 Z0 HY0 ⊢
  have s0 := B0.size
  have zz := Z0.lt
  go_wp2_with fail
  refine (l6Open_any B a n cap zs _ HY0.out (by omega)).mono ?_
  rintro e w1 ⟨rfl, hr1, hb1⟩
  have hlt := hr1.lt
  have HR1 : Hid (Rd B w1 v0.heap.size 0) := hr1
  clear hr1
  go_wp2_with fail
  refine (l71Grid_any B _ 0 _ HR1.out (by omega)).mono ?_
  rintro e w2 ⟨R, C, a', n', c', l, q, rfl, ⟨os, hX2⟩, hS2, hr2, hq2, hf2⟩
  go_upto_region 3 with fail
  have H0 := HoldR.first (R := R) (C := C) B0 Z0 hb1 hlt hf2 hr2 hX2
  generalize (w2.alloc (.cells #[.int .i64 R, .int .i64 C, .slice a' n' c'] 25)) = v3 at H0 ⊢
  obtain ⟨Tb, hTe⟩ : ∃ T, w2.heap.size = T := ⟨_, rfl⟩
  rw [hTe] at H0 ⊢
  obtain ⟨g, hge⟩ : ∃ g, v0.heap.size = g := ⟨_, rfl⟩
  rw [hge] at H0 ⊢
  have HH : Hid (HoldR w B g q w.heap.size Tb R C a' n' c' l v3) := H0
  have HS : Hid (TabSp R C l) := hS2
  clear H0 hTe hge hS2 hr2 hX2 hf2 hb1 Z0 B0 HY HY0 HR1 s0 zz hlt
  go_wp2_with fail
  go_loopw [9] (fun nv wr => ∃ (k q : Nat) (R1 C1 : Int) (a1 : Option Addr) (n1 c1 : Nat) (l1 : List Cl), k ≤ 24 ∧ nv = .int .i64 k ∧ q ≤ 700 + 800 * k ∧ TabSp R1 C1 l1 ∧ HoldR w B g q w.heap.size Tb R1 C1 a1 n1 c1 l1 wr) (fun nv _ => 24 - (intOf nv).toNat)
  case atStart => exact ⟨0, q, R, C, a', n', c', l, by omega, rfl, by omega, HS.out, HH.out⟩
  case round =>
    clear HH HS
    obtain ⟨k, q1, R1, C1, a1, n1, c1, l1, hk, rfl, hq1, hS1, hb⟩ := hrel
    have HH : Hid (HoldR w B g q1 w.heap.size Tb R1 C1 a1 n1 c1 l1 wr) := hb
    have HS : Hid (TabSp R1 C1 l1) := hS1
    clear hb hS1
    by_cases hlk : k < 24
    · have hkb : (k : Int) < 24 := by omega
      go_wp2_with fail
      refine (pick_any B g q1 24 _ HH.out.rd (by omega) (by omega) (by omega)).mono ?_
      rintro e u3 ⟨x, rfl, hx0, hx1, hr3, hg3⟩
      replace HH : Hid (HoldR w B g (q1 + 1) w.heap.size Tb R1 C1 a1 n1 c1 l1 u3) := HH.out.pick hg3 hr3
      clear hr3 hg3
      by_cases hx : x = 0
      · subst hx
        go_upto_region 15 with fail
        refine wp_region_noPanic ?_
        refine wp_region_held_drew (S := fun w' => RowAt w' Tb #[.int .i64 R1, .int .i64 C1, .slice a1 n1 c1] 25) (by kernel_rfl) HH.out.trow (fun hHeld => ?_)
        refine take_at 0 79 (.agg #[.int .i64 R1, .int .i64 C1, .slice a1 n1 c1]) rfl rfl (by kernel_rfl) (by kernel_rfl) (by kernel_rfl) (fun _ _ _ h => h) (yieldsIf_load_row (by kernel_rfl) 25 (.tmp 8) rfl Tb rfl 25 #[.int .i64 R1, .int .i64 C1, .slice a1 n1 c1] (0, 0) _ (fun w' h => h) Try.underlying25 rfl tab_info) hHeld ?_
        (try simp only [Act.put, List.setIfInBounds_toArray, List.set_cons_zero, List.set_cons_succ])
        refine take_at 1 80 (.pointer (some ⟨g, 0, none⟩)) rfl rfl (by kernel_rfl) (by kernel_rfl) (by kernel_rfl) (fun _ _ _ h => h) (Or.inl ⟨by kernel_rfl, fun w' hS' => by go_simp⟩) hHeld ?_
        (try simp only [Act.put, List.setIfInBounds_toArray, List.set_cons_zero, List.set_cons_succ])
        refine take_at 4 83 (.pointer (some ⟨g, 0, none⟩)) rfl rfl (by kernel_rfl) (by kernel_rfl) (by kernel_rfl) (fun _ _ _ h => h) (Or.inl ⟨by kernel_rfl, fun w' hS' => by go_simp⟩) hHeld ?_
        (try simp only [Act.put, List.setIfInBounds_toArray, List.set_cons_zero, List.set_cons_succ])
        refine take_at 7 86 (.pointer (some ⟨g, 0, none⟩)) rfl rfl (by kernel_rfl) (by kernel_rfl) (by kernel_rfl) (fun _ _ _ h => h) (Or.inl ⟨by kernel_rfl, fun w' hS' => by go_simp⟩) hHeld ?_
        (try simp only [Act.put, List.setIfInBounds_toArray, List.set_cons_zero, List.set_cons_succ])
        refine take_at 9 88 (.pointer (some ⟨g, 0, none⟩)) rfl rfl (by kernel_rfl) (by kernel_rfl) (by kernel_rfl) (fun _ _ _ h => h) (Or.inl ⟨by kernel_rfl, fun w' hS' => by go_simp⟩) hHeld ?_
        (try simp only [Act.put, List.setIfInBounds_toArray, List.set_cons_zero, List.set_cons_succ])
        replace HH : Hid (HoldR w B g (q1 + 1) w.heap.size Tb R1 C1 a1 n1 c1 l1 u3.drew) := HH.out.go ((Below.refl _ _).drew)
        generalize u3.drew = u4 at HH hHeld ⊢
        refine wpAnyH_ready (rs := [2]) (by kernel_rfl) (by simp) ?_
        refine AllReadyH.cons rfl (fun K hK => ?_) AllReadyH.nil
        go_simp
        go_at_call 41
        refine (pick_any B g (q1 + 1) 6 _ HH.out.rd (by omega) (by omega) (by omega)).mono ?_
        rintro e u5 ⟨z1, rfl, hz10, hz11, hr5, hg5⟩
        replace HH : Hid (HoldR w B g ((q1 + 1) + 1) w.heap.size Tb R1 C1 a1 n1 c1 l1 u5) := HH.out.pick hg5 hr5
        clear hr5 hg5 hHeld
        go_wp2_with fail
        refine hK.out _ _ HH.out.trow (fun hHeld => ?_)
        clear hK K
        (try simp only [Act.put, List.setIfInBounds_toArray, List.set_cons_zero, List.set_cons_succ])
        obtain ⟨y1, HY1⟩ : ∃ y, Hid (z1 - 1 = y) := ⟨_, rfl⟩
        refine take_at 3 82 (.int .i64 y1) rfl rfl (by kernel_rfl) (by kernel_rfl) (by kernel_rfl) (fun _ _ _ h => h) (Or.inl ⟨by kernel_rfl, fun w' hS' => by go_simp; have e := HY1.out; rw [IntKind.wrap_i64, e]; omega⟩) hHeld ?_
        (try simp only [Act.put, List.setIfInBounds_toArray, List.set_cons_zero, List.set_cons_succ])
        refine wpAnyH_ready (rs := [5]) (by kernel_rfl) (by simp) ?_
        refine AllReadyH.cons rfl (fun K hK => ?_) AllReadyH.nil
        go_simp
        go_at_call 41
        refine (pick_any B g ((q1 + 1) + 1) 6 _ HH.out.rd (by omega) (by omega) (by omega)).mono ?_
        rintro e u6 ⟨z2, rfl, hz20, hz21, hr5, hg5⟩
        replace HH : Hid (HoldR w B g (((q1 + 1) + 1) + 1) w.heap.size Tb R1 C1 a1 n1 c1 l1 u6) := HH.out.pick hg5 hr5
        clear hr5 hg5 hHeld
        go_wp2_with fail
        refine hK.out _ _ HH.out.trow (fun hHeld => ?_)
        clear hK K
        (try simp only [Act.put, List.setIfInBounds_toArray, List.set_cons_zero, List.set_cons_succ])
        obtain ⟨y2, HY2⟩ : ∃ y, Hid (z2 - 1 = y) := ⟨_, rfl⟩
        refine take_at 6 85 (.int .i64 y2) rfl rfl (by kernel_rfl) (by kernel_rfl) (by kernel_rfl) (fun _ _ _ h => h) (Or.inl ⟨by kernel_rfl, fun w' hS' => by go_simp; have e := HY2.out; rw [IntKind.wrap_i64, e]; omega⟩) hHeld ?_
        (try simp only [Act.put, List.setIfInBounds_toArray, List.set_cons_zero, List.set_cons_succ])
        refine wpAnyH_ready (rs := [8]) (by kernel_rfl) (by simp) ?_
        refine AllReadyH.cons rfl (fun K hK => ?_) AllReadyH.nil
        go_simp
        go_at_call 41
        refine (pick_any B g ((q1 + 1) + 1 + 1) 5 _ HH.out.rd (by omega) (by omega) (by omega)).mono ?_
        rintro e u7 ⟨z3, rfl, hz30, hz31, hr5, hg5⟩
        replace HH : Hid (HoldR w B g (((q1 + 1) + 1 + 1) + 1) w.heap.size Tb R1 C1 a1 n1 c1 l1 u7) := HH.out.pick hg5 hr5
        clear hr5 hg5 hHeld
        go_wp2_with fail
        refine hK.out _ _ HH.out.trow (fun hHeld => ?_)
        clear hK K
        (try simp only [Act.put, List.setIfInBounds_toArray, List.set_cons_zero, List.set_cons_succ])
        refine wpAnyH_ready (rs := [10]) (by kernel_rfl) (by simp) ?_
        refine AllReadyH.cons rfl (fun K hK => ?_) AllReadyH.nil
        go_simp
        go_at_call 41
        refine (pick_any B g ((q1 + 1) + 1 + 1 + 1) 5 _ HH.out.rd (by omega) (by omega) (by omega)).mono ?_
        rintro e u8 ⟨z4, rfl, hz40, hz41, hr5, hg5⟩
        replace HH : Hid (HoldR w B g (((q1 + 1) + 1 + 1 + 1) + 1) w.heap.size Tb R1 C1 a1 n1 c1 l1 u8) := HH.out.pick hg5 hr5
        clear hr5 hg5 hHeld
        go_wp2_with fail
        refine hK.out _ _ HH.out.trow (fun hHeld => ?_)
        clear hK K
        (try simp only [Act.put, List.setIfInBounds_toArray, List.set_cons_zero, List.set_cons_succ])
        refine wpAnyH_ready (rs := [11]) (by kernel_rfl) (by simp) ?_
        refine AllReadyH.cons rfl (fun K hK => ?_) AllReadyH.nil
        rw [if_pos (by kernel_rfl)]
        refine wp_store_row 25 (.tmp 2) (.tmp 79) rfl w.heap.size #[.int .i64 R1, .int .i64 C1, .slice a1 n1 c1] rfl rfl 25 _ HH.out.zrow tab_info rfl (cells3_one _ _ _ _ _) ?_
        have HE : Hid (Tab (u8.setRow w.heap.size #[.int .i64 R1, .int .i64 C1, .slice a1 n1 c1]) a1 n1 c1 l1 ∧ RowAt (u8.setRow w.heap.size #[.int .i64 R1, .int .i64 C1, .slice a1 n1 c1]) w.heap.size #[.int .i64 R1, .int .i64 C1, .slice a1 n1 c1] 25 ∧ Below w.heap.size w (u8.setRow w.heap.size #[.int .i64 R1, .int .i64 C1, .slice a1 n1 c1])) := HH.out.out
        have hne : Tb ≠ w.heap.size := by have := HH.out.gt; have := HH.out.lo; omega
        refine hK.out _ _ (RowAt.setRowOther hHeld _ _ hne) (fun hHeld => ?_)
        clear hK K
        simp only [Act.put]
        generalize (u8.setRow w.heap.size #[.int .i64 R1, .int .i64 C1, .slice a1 n1 c1]) = w9 at HE hHeld ⊢
        refine take_at 12 3 (.int .i64 y1) rfl rfl (by kernel_rfl) (by kernel_rfl) (by kernel_rfl) (fun _ _ _ h => h) (Or.inl ⟨by kernel_rfl, fun w' hS' => by go_simp⟩) hHeld ?_
        (try simp only [Act.put, List.setIfInBounds_toArray])
        refine take_at 13 4 (.int .i64 y2) rfl rfl (by kernel_rfl) (by kernel_rfl) (by kernel_rfl) (fun _ _ _ h => h) (Or.inl ⟨by kernel_rfl, fun w' hS' => by go_simp⟩) hHeld ?_
        (try simp only [Act.put])
        refine take_at 14 5 (.int .i64 z3) rfl rfl (by kernel_rfl) (by kernel_rfl) (by kernel_rfl) (fun _ _ _ h => h) (Or.inl ⟨by kernel_rfl, fun w' hS' => by go_simp⟩) hHeld ?_
        (try simp only [Act.put])
        refine take_at 15 6 (.int .i64 z4) rfl rfl (by kernel_rfl) (by kernel_rfl) (by kernel_rfl) (fun _ _ _ h => h) (Or.inl ⟨by kernel_rfl, fun w' hS' => by go_simp⟩) hHeld ?_
        (try simp only [Act.put])
        refine wpAnyH_done (by kernel_rfl) ?_ _
        refine NoPanic.normal ?_
        go_wp2_with fail
        refine bodyPost_ret (v := .tuple #[.agg #[.int .i64 R1, .int .i64 C1, .slice a1 n1 c1], .int .i64 y1, .int .i64 y2, .int .i64 z3, .int .i64 z4]) ?_ rfl ⟨⟨R1, C1, a1, n1, c1, l1, y1, y2, z3, z4, rfl, HE.out.1, HS.out, by have := HY1.out; omega, by have := HY2.out; omega, by omega, by omega⟩, HE.out.2.2⟩
        rw [results_cell_tmp4 rfl]
        simp [asAddr, Result.andThen, run_tabOf HE.out.2.1]
      · have hxp : 0 < x := by omega
        obtain ⟨ok, HO⟩ : ∃ o, Hid (okB R1 C1 l1 = o) := ⟨_, rfl⟩
        go_upto_region 6 with fail
        go_wp2_with (first | (refine wpList_load_row rfl 25 (.tmp 8) rfl Tb rfl 25 #[.int .i64 R1, .int .i64 C1, .slice a1 n1 c1] (0, 0) _ HH.out.trow Try.underlying25 rfl tab_info ?_))
        refine (specTableOk_is HO.out HH.out.tab).mono ?_
        rintro e u4 ⟨rfl, hb4⟩
        replace HH : Hid (HoldR w B g (q1 + 1) w.heap.size Tb R1 C1 a1 n1 c1 l1 u4) := HH.out.go hb4
        clear hb4
        cases ok
        · go_wp2_with fail
          refine (l71Grid_any B g (q1 + 1) _ HH.out.rd (by omega)).mono ?_
          rintro e u8 ⟨R2, C2, a2, n2, c2, l2, q8, rfl, ⟨os, hX8⟩, hS8, hr8, hq8, hf8⟩
          have HT8 : Hid (RowAt u8 Tb #[.int .i64 R1, .int .i64 C1, .slice a1 n1 c1] 25) := (HH.out.fr hf8 hr8).trow
          have HN8 : Hid (HoldR w B g q8 w.heap.size Tb R2 C2 a2 n2 c2 l2 (u8.setRow Tb #[.int .i64 R2, .int .i64 C2, .slice a2 n2 c2])) := HH.out.next hf8 hr8 hX8
          have HS8 : Hid (TabSp R2 C2 l2) := hS8
          clear hX8 hf8 hr8 hS8
          go_wp2_with (refine wpList_store_row rfl 25 (.tmp 8) (.tmp 41) rfl Tb #[.int .i64 R2, .int .i64 C2, .slice a2 n2 c2] rfl rfl 25 _ HT8.out tab_info rfl (cells3_one _ _ _ _ _) ?_)
          go_roundw
          case rel => exact ⟨k + 1, q8, R2, C2, a2, n2, c2, l2, by omega, by go_num, by omega, HS8.out, HN8.out⟩
          case measure => simp [intOf]; omega
        · obtain ⟨hR1, hC1, -, -⟩ := gridP_of_okB HO.out
          have t0 : u4.cell? ⟨Tb, 0, none⟩ = some (.int .i64 R1) := HH.out.trow.cell 0
          have t1 : u4.cell? ⟨Tb, 1, none⟩ = some (.int .i64 C1) := HH.out.trow.cell 1
          by_cases hp2 : wrap64 (R1 * C1) < 2
          · go_wp2_with fail
            refine (l71Grid_any B g (q1 + 1) _ HH.out.rd (by omega)).mono ?_
            rintro e u8 ⟨R2, C2, a2, n2, c2, l2, q8, rfl, ⟨os, hX8⟩, hS8, hr8, hq8, hf8⟩
            have HT8 : Hid (RowAt u8 Tb #[.int .i64 R1, .int .i64 C1, .slice a1 n1 c1] 25) := (HH.out.fr hf8 hr8).trow
            have HN8 : Hid (HoldR w B g q8 w.heap.size Tb R2 C2 a2 n2 c2 l2 (u8.setRow Tb #[.int .i64 R2, .int .i64 C2, .slice a2 n2 c2])) := HH.out.next hf8 hr8 hX8
            have HS8 : Hid (TabSp R2 C2 l2) := hS8
            clear hX8 hf8 hr8 hS8
            go_wp2_with (refine wpList_store_row rfl 25 (.tmp 8) (.tmp 41) rfl Tb #[.int .i64 R2, .int .i64 C2, .slice a2 n2 c2] rfl rfl 25 _ HT8.out tab_info rfl (cells3_one _ _ _ _ _) ?_)
            go_roundw
            case rel => exact ⟨k + 1, q8, R2, C2, a2, n2, c2, l2, by omega, by go_num, by omega, HS8.out, HN8.out⟩
            case measure => simp [intOf]; omega
          · go_wp2_with fail
            refine (pick_any B g (q1 + 1) R1 _ HH.out.rd (by omega) (by omega) (by omega)).mono ?_
            rintro e u5 ⟨y1, rfl, hy10, hy11, hr5, hg5⟩
            replace HH : Hid (HoldR w B g ((q1 + 1) + 1) w.heap.size Tb R1 C1 a1 n1 c1 l1 u5) := HH.out.pick hg5 hr5
            clear hr5 hg5
            have t1 : u5.cell? ⟨Tb, 1, none⟩ = some (.int .i64 C1) := HH.out.trow.cell 1
            go_wp2_with fail
            refine (pick_any B g (q1 + 1 + 1) C1 _ HH.out.rd (by omega) (by omega) (by omega)).mono ?_
            rintro e u6 ⟨y2, rfl, hy20, hy21, hr5, hg5⟩
            replace HH : Hid (HoldR w B g ((q1 + 1 + 1) + 1) w.heap.size Tb R1 C1 a1 n1 c1 l1 u6) := HH.out.pick hg5 hr5
            clear hr5 hg5
            have t0 : u6.cell? ⟨Tb, 0, none⟩ = some (.int .i64 R1) := HH.out.trow.cell 0
            clear t1
            go_wp2_with fail
            refine (pick_any B g (q1 + 1 + 1 + 1) (R1 - y1) _ HH.out.rd (by omega) (by omega) (by omega)).mono ?_
            rintro e u7 ⟨y3, rfl, hy30, hy31, hr5, hg5⟩
            replace HH : Hid (HoldR w B g ((q1 + 1 + 1 + 1) + 1) w.heap.size Tb R1 C1 a1 n1 c1 l1 u7) := HH.out.pick hg5 hr5
            clear hr5 hg5
            have t1 : u7.cell? ⟨Tb, 1, none⟩ = some (.int .i64 C1) := HH.out.trow.cell 1
            go_wp2_with fail
            refine (pick_any B g (q1 + 1 + 1 + 1 + 1) (C1 - y2) _ HH.out.rd (by omega) (by omega) (by omega)).mono ?_
            rintro e u8 ⟨y4, rfl, hy40, hy41, hr5, hg5⟩
            replace HH : Hid (HoldR w B g ((q1 + 1 + 1 + 1 + 1) + 1) w.heap.size Tb R1 C1 a1 n1 c1 l1 u8) := HH.out.pick hg5 hr5
            clear hr5 hg5
            obtain ⟨d, HD⟩ : ∃ d, Hid (1 + y3 = d) := ⟨_, rfl⟩
            obtain ⟨e', HE'⟩ : ∃ d, Hid (1 + y4 = d) := ⟨_, rfl⟩
            go_upto_region 12 with fail
            rw [HD.out, HE'.out]
            have hd0 : 1 ≤ d ∧ d ≤ 10 := by have := HD.out; omega
            have he0 : 1 ≤ e' ∧ e' ≤ 10 := by have := HE'.out; omega
            obtain ⟨can, HC⟩ : ∃ o, Hid (mergeB R1 C1 l1 y1 y2 d e' = o) := ⟨_, rfl⟩
            cases can
            · go_upto_region 13 with (first | (refine wpList_load_row rfl 25 (.tmp 8) rfl Tb rfl 25 #[.int .i64 R1, .int .i64 C1, .slice a1 n1 c1] (0, 0) _ HH.out.trow Try.underlying25 rfl tab_info ?_) | (go_at_call 18; refine (specTableMerge_any R1 C1 y1 y2 d e' a1 n1 c1 l1 _ HH.out.tab).mono ?_; intro e w9 hr; obtain ⟨hr1, hb⟩ := hr; obtain ⟨ma, mn, mc, rfl, -⟩ := tabRes_f HC.out hr1; replace HH : Hid (HoldR w B g (q1 + 1 + 1 + 1 + 1 + 1) w.heap.size Tb R1 C1 a1 n1 c1 l1 w9) := HH.out.go hb; clear hr1 hb))
              replace HH : Hid (HoldR w B g (q1 + 1 + 1 + 1 + 1 + 1) w.heap.size Tb R1 C1 a1 n1 c1 l1 (w9.alloc (.cells #[.int .i64 0, .int .i64 0, .slice ma mn mc] 25))) := HH.out.go ((Below.refl _ _).alloc (Nat.le_refl _) _)
              generalize (w9.alloc (.cells #[.int .i64 0, .int .i64 0, .slice ma mn mc] 25)) = v9 at HH ⊢
              go_wp2_with fail
              go_roundw
              case rel => exact ⟨k + 1, (q1 + 1 + 1 + 1 + 1 + 1), R1, C1, a1, n1, c1, l1, by omega, by go_num, by omega, HS.out, HH.out⟩
              case measure => simp [intOf]; omega
            · go_upto_region 13 with (first | (refine wpList_load_row rfl 25 (.tmp 8) rfl Tb rfl 25 #[.int .i64 R1, .int .i64 C1, .slice a1 n1 c1] (0, 0) _ HH.out.trow Try.underlying25 rfl tab_info ?_) | (go_at_call 18; refine (specTableMerge_any R1 C1 y1 y2 d e' a1 n1 c1 l1 _ HH.out.tab).mono ?_; intro e w9 hr; obtain ⟨hr1, hb⟩ := hr; obtain ⟨ma, mn, mc, rfl, -⟩ := tabRes_t HC.out hr1; replace HH : Hid (HoldR w B g (q1 + 1 + 1 + 1 + 1 + 1) w.heap.size Tb R1 C1 a1 n1 c1 l1 w9) := HH.out.go hb; clear hr1 hb))
              replace HH : Hid (HoldR w B g (q1 + 1 + 1 + 1 + 1 + 1) w.heap.size Tb R1 C1 a1 n1 c1 l1 (w9.alloc (.cells #[.int .i64 R1, .int .i64 C1, .slice ma mn mc] 25))) := HH.out.go ((Below.refl _ _).alloc (Nat.le_refl _) _)
              generalize (w9.alloc (.cells #[.int .i64 R1, .int .i64 C1, .slice ma mn mc] 25)) = v9 at HH ⊢
              go_wp2_with (first | (refine wpList_load_row rfl 25 (.tmp 8) rfl Tb rfl 25 #[.int .i64 R1, .int .i64 C1, .slice a1 n1 c1] (0, 0) _ HH.out.trow Try.underlying25 rfl tab_info ?_) | (refine wpList_store_row rfl 25 (.tmp 2) (.tmp 74) rfl w.heap.size #[.int .i64 R1, .int .i64 C1, .slice a1 n1 c1] rfl rfl 25 _ HH.out.zrow tab_info rfl (cells3_one _ _ _ _ _) ?_))
              refine bodyPost_ret (v := .tuple #[.agg #[.int .i64 R1, .int .i64 C1, .slice a1 n1 c1], .int .i64 y1, .int .i64 y2, .int .i64 d, .int .i64 e']) ?_ rfl ⟨⟨R1, C1, a1, n1, c1, l1, y1, y2, d, e', rfl, HH.out.out.1, HS.out, by omega, by omega, by omega, by omega⟩, HH.out.out.2.2⟩
              rw [results_cell_tmp4 rfl]
              simp [asAddr, Result.andThen, run_tabOf HH.out.out.2.1]
    · have hkb : ¬ (k : Int) < 24 := by omega
      go_upto_region 15 with fail
      refine wp_region_noPanic ?_
      refine wp_region_held_drew (S := fun w' => RowAt w' Tb #[.int .i64 R1, .int .i64 C1, .slice a1 n1 c1] 25) (by kernel_rfl) HH.out.trow (fun hHeld => ?_)
      refine take_at 0 79 (.agg #[.int .i64 R1, .int .i64 C1, .slice a1 n1 c1]) rfl rfl (by kernel_rfl) (by kernel_rfl) (by kernel_rfl) (fun _ _ _ h => h) (yieldsIf_load_row (by kernel_rfl) 25 (.tmp 8) rfl Tb rfl 25 #[.int .i64 R1, .int .i64 C1, .slice a1 n1 c1] (0, 0) _ (fun w' h => h) Try.underlying25 rfl tab_info) hHeld ?_
      (try simp only [Act.put, List.setIfInBounds_toArray, List.set_cons_zero, List.set_cons_succ])
      refine take_at 1 80 (.pointer (some ⟨g, 0, none⟩)) rfl rfl (by kernel_rfl) (by kernel_rfl) (by kernel_rfl) (fun _ _ _ h => h) (Or.inl ⟨by kernel_rfl, fun w' hS' => by go_simp⟩) hHeld ?_
      (try simp only [Act.put, List.setIfInBounds_toArray, List.set_cons_zero, List.set_cons_succ])
      refine take_at 4 83 (.pointer (some ⟨g, 0, none⟩)) rfl rfl (by kernel_rfl) (by kernel_rfl) (by kernel_rfl) (fun _ _ _ h => h) (Or.inl ⟨by kernel_rfl, fun w' hS' => by go_simp⟩) hHeld ?_
      (try simp only [Act.put, List.setIfInBounds_toArray, List.set_cons_zero, List.set_cons_succ])
      refine take_at 7 86 (.pointer (some ⟨g, 0, none⟩)) rfl rfl (by kernel_rfl) (by kernel_rfl) (by kernel_rfl) (fun _ _ _ h => h) (Or.inl ⟨by kernel_rfl, fun w' hS' => by go_simp⟩) hHeld ?_
      (try simp only [Act.put, List.setIfInBounds_toArray, List.set_cons_zero, List.set_cons_succ])
      refine take_at 9 88 (.pointer (some ⟨g, 0, none⟩)) rfl rfl (by kernel_rfl) (by kernel_rfl) (by kernel_rfl) (fun _ _ _ h => h) (Or.inl ⟨by kernel_rfl, fun w' hS' => by go_simp⟩) hHeld ?_
      (try simp only [Act.put, List.setIfInBounds_toArray, List.set_cons_zero, List.set_cons_succ])
      replace HH : Hid (HoldR w B g q1 w.heap.size Tb R1 C1 a1 n1 c1 l1 wr.drew) := HH.out.go ((Below.refl _ _).drew)
      generalize wr.drew = u4 at HH hHeld ⊢
      refine wpAnyH_ready (rs := [2]) (by kernel_rfl) (by simp) ?_
      refine AllReadyH.cons rfl (fun K hK => ?_) AllReadyH.nil
      go_simp
      go_at_call 41
      refine (pick_any B g q1 6 _ HH.out.rd (by omega) (by omega) (by omega)).mono ?_
      rintro e u5 ⟨z1, rfl, hz10, hz11, hr5, hg5⟩
      replace HH : Hid (HoldR w B g (q1 + 1) w.heap.size Tb R1 C1 a1 n1 c1 l1 u5) := HH.out.pick hg5 hr5
      clear hr5 hg5 hHeld
      go_wp2_with fail
      refine hK.out _ _ HH.out.trow (fun hHeld => ?_)
      clear hK K
      (try simp only [Act.put, List.setIfInBounds_toArray, List.set_cons_zero, List.set_cons_succ])
      obtain ⟨y1, HY1⟩ : ∃ y, Hid (z1 - 1 = y) := ⟨_, rfl⟩
      refine take_at 3 82 (.int .i64 y1) rfl rfl (by kernel_rfl) (by kernel_rfl) (by kernel_rfl) (fun _ _ _ h => h) (Or.inl ⟨by kernel_rfl, fun w' hS' => by go_simp; have e := HY1.out; rw [IntKind.wrap_i64, e]; omega⟩) hHeld ?_
      (try simp only [Act.put, List.setIfInBounds_toArray, List.set_cons_zero, List.set_cons_succ])
      refine wpAnyH_ready (rs := [5]) (by kernel_rfl) (by simp) ?_
      refine AllReadyH.cons rfl (fun K hK => ?_) AllReadyH.nil
      go_simp
      go_at_call 41
      refine (pick_any B g (q1 + 1) 6 _ HH.out.rd (by omega) (by omega) (by omega)).mono ?_
      rintro e u6 ⟨z2, rfl, hz20, hz21, hr5, hg5⟩
      replace HH : Hid (HoldR w B g ((q1 + 1) + 1) w.heap.size Tb R1 C1 a1 n1 c1 l1 u6) := HH.out.pick hg5 hr5
      clear hr5 hg5 hHeld
      go_wp2_with fail
      refine hK.out _ _ HH.out.trow (fun hHeld => ?_)
      clear hK K
      (try simp only [Act.put, List.setIfInBounds_toArray, List.set_cons_zero, List.set_cons_succ])
      obtain ⟨y2, HY2⟩ : ∃ y, Hid (z2 - 1 = y) := ⟨_, rfl⟩
      refine take_at 6 85 (.int .i64 y2) rfl rfl (by kernel_rfl) (by kernel_rfl) (by kernel_rfl) (fun _ _ _ h => h) (Or.inl ⟨by kernel_rfl, fun w' hS' => by go_simp; have e := HY2.out; rw [IntKind.wrap_i64, e]; omega⟩) hHeld ?_
      (try simp only [Act.put, List.setIfInBounds_toArray, List.set_cons_zero, List.set_cons_succ])
      refine wpAnyH_ready (rs := [8]) (by kernel_rfl) (by simp) ?_
      refine AllReadyH.cons rfl (fun K hK => ?_) AllReadyH.nil
      go_simp
      go_at_call 41
      refine (pick_any B g (q1 + 1 + 1) 5 _ HH.out.rd (by omega) (by omega) (by omega)).mono ?_
      rintro e u7 ⟨z3, rfl, hz30, hz31, hr5, hg5⟩
      replace HH : Hid (HoldR w B g ((q1 + 1 + 1) + 1) w.heap.size Tb R1 C1 a1 n1 c1 l1 u7) := HH.out.pick hg5 hr5
      clear hr5 hg5 hHeld
      go_wp2_with fail
      refine hK.out _ _ HH.out.trow (fun hHeld => ?_)
      clear hK K
      (try simp only [Act.put, List.setIfInBounds_toArray, List.set_cons_zero, List.set_cons_succ])
      refine wpAnyH_ready (rs := [10]) (by kernel_rfl) (by simp) ?_
      refine AllReadyH.cons rfl (fun K hK => ?_) AllReadyH.nil
      go_simp
      go_at_call 41
      refine (pick_any B g (q1 + 1 + 1 + 1) 5 _ HH.out.rd (by omega) (by omega) (by omega)).mono ?_
      rintro e u8 ⟨z4, rfl, hz40, hz41, hr5, hg5⟩
      replace HH : Hid (HoldR w B g ((q1 + 1 + 1 + 1) + 1) w.heap.size Tb R1 C1 a1 n1 c1 l1 u8) := HH.out.pick hg5 hr5
      clear hr5 hg5 hHeld
      go_wp2_with fail
      refine hK.out _ _ HH.out.trow (fun hHeld => ?_)
      clear hK K
      (try simp only [Act.put, List.setIfInBounds_toArray, List.set_cons_zero, List.set_cons_succ])
      refine wpAnyH_ready (rs := [11]) (by kernel_rfl) (by simp) ?_
      refine AllReadyH.cons rfl (fun K hK => ?_) AllReadyH.nil
      rw [if_pos (by kernel_rfl)]
      refine wp_store_row 25 (.tmp 2) (.tmp 79) rfl w.heap.size #[.int .i64 R1, .int .i64 C1, .slice a1 n1 c1] rfl rfl 25 _ HH.out.zrow tab_info rfl (cells3_one _ _ _ _ _) ?_
      have HE : Hid (Tab (u8.setRow w.heap.size #[.int .i64 R1, .int .i64 C1, .slice a1 n1 c1]) a1 n1 c1 l1 ∧ RowAt (u8.setRow w.heap.size #[.int .i64 R1, .int .i64 C1, .slice a1 n1 c1]) w.heap.size #[.int .i64 R1, .int .i64 C1, .slice a1 n1 c1] 25 ∧ Below w.heap.size w (u8.setRow w.heap.size #[.int .i64 R1, .int .i64 C1, .slice a1 n1 c1])) := HH.out.out
      have hne : Tb ≠ w.heap.size := by have := HH.out.gt; have := HH.out.lo; omega
      refine hK.out _ _ (RowAt.setRowOther hHeld _ _ hne) (fun hHeld => ?_)
      clear hK K
      simp only [Act.put]
      generalize (u8.setRow w.heap.size #[.int .i64 R1, .int .i64 C1, .slice a1 n1 c1]) = w9 at HE hHeld ⊢
      refine take_at 12 3 (.int .i64 y1) rfl rfl (by kernel_rfl) (by kernel_rfl) (by kernel_rfl) (fun _ _ _ h => h) (Or.inl ⟨by kernel_rfl, fun w' hS' => by go_simp⟩) hHeld ?_
      (try simp only [Act.put, List.setIfInBounds_toArray])
      refine take_at 13 4 (.int .i64 y2) rfl rfl (by kernel_rfl) (by kernel_rfl) (by kernel_rfl) (fun _ _ _ h => h) (Or.inl ⟨by kernel_rfl, fun w' hS' => by go_simp⟩) hHeld ?_
      (try simp only [Act.put])
      refine take_at 14 5 (.int .i64 z3) rfl rfl (by kernel_rfl) (by kernel_rfl) (by kernel_rfl) (fun _ _ _ h => h) (Or.inl ⟨by kernel_rfl, fun w' hS' => by go_simp⟩) hHeld ?_
      (try simp only [Act.put])
      refine take_at 15 6 (.int .i64 z4) rfl rfl (by kernel_rfl) (by kernel_rfl) (by kernel_rfl) (fun _ _ _ h => h) (Or.inl ⟨by kernel_rfl, fun w' hS' => by go_simp⟩) hHeld ?_
      (try simp only [Act.put])
      refine wpAnyH_done (by kernel_rfl) ?_ _
      refine NoPanic.normal ?_
      go_wp2_with fail
      refine bodyPost_ret (v := .tuple #[.agg #[.int .i64 R1, .int .i64 C1, .slice a1 n1 c1], .int .i64 y1, .int .i64 y2, .int .i64 z3, .int .i64 z4]) ?_ rfl ⟨⟨R1, C1, a1, n1, c1, l1, y1, y2, z3, z4, rfl, HE.out.1, HS.out, by have := HY1.out; omega, by have := HY2.out; omega, by omega, by omega⟩, HE.out.2.2⟩
      rw [results_cell_tmp4 rfl]
      simp [asAddr, Result.andThen, run_tabOf HE.out.2.1]
end Go.Proofs.Ytkgdocohdjebfaa
namespace Go.Proofs.Ytkgdocohdjebfaa
open Go.RowKit

theorem merge_data {R C r c d g : Int} {l : List Cl} (h : mergeB R C l r c d g = true) : ∃ (r' c' d' g' : Nat), r = r' ∧ c = c' ∧ d = d' ∧ g = g' ∧ okB R C l = true ∧ 1 ≤ d' ∧ 1 ≤ g' ∧ (r' : Int) + d' ≤ R ∧ (c' : Int) + g' ≤ C ∧ l.all (fun z => !cutB r' c' d' g' z) = true ∧ 2 ≤ mN r' c' d' g' l ∧ textB (mTx r' c' d' g' l) = true := by
  simp only [mergeB, bndB, Bool.and_eq_true, decide_eq_true_eq] at h
  obtain ⟨⟨⟨⟨h1, h2⟩, h3⟩, h4⟩, h5⟩ := h
  obtain ⟨r, rfl⟩ : ∃ z : Nat, r = z := ⟨r.toNat, by omega⟩
  obtain ⟨c, rfl⟩ : ∃ z : Nat, c = z := ⟨c.toNat, by omega⟩
  obtain ⟨d, rfl⟩ : ∃ z : Nat, d = z := ⟨d.toNat, by omega⟩
  obtain ⟨g, rfl⟩ : ∃ z : Nat, g = z := ⟨g.toNat, by omega⟩
  simp only [Int.toNat_natCast] at h3 h4 h5
  exact ⟨r, c, d, g, rfl, rfl, rfl, rfl, h1, by omega, by omega, by omega, by omega, h3, h4, h5⟩
theorem tab_cell {u : World} {b o n c k : Nat} {L : List Cl} (h : Tab u (some ⟨b, o, none⟩) n c L) (hk : k < L.length) : u.cell? ⟨b, o + k * 5 + 2, none⟩ = some (.int .i64 (L.getD k cl0).2.2.1) ∧ u.cell? ⟨b, o + k * 5 + 3, none⟩ = some (.int .i64 (L.getD k cl0).2.2.2.1) := by
  rcases h.2.2.2 with e | ⟨b', o', e, _, hcl⟩
  · rw [e] at hk
    exact absurd hk (by simp)
  · simp only [Option.some.injEq, Addr.mk.injEq, and_true] at e
    obtain ⟨rfl, rfl⟩ := e
    obtain ⟨-, -, j2, j3, -⟩ := hcl k hk
    exact ⟨j2, j3⟩
section
variable {R C : Int} {l : List Cl}
theorem at_same (h : okB R C l = true) {x : Cl} (hx : x ∈ l) (a b a' b' : Nat) (h1 : inB x a b = true) (h2 : inB x a' b' = true) : atN R C l a b = atN R C l a' b' := by
  obtain ⟨k, hk, e, ek⟩ := at_of h hx a b h1
  obtain ⟨m, hm, e', em⟩ := at_of h hx a' b' h2
  have hw := ok_cell h hx
  have hi := inB_is.1 h1
  rw [e, e']
  rcases Nat.lt_trichotomy k m with q | q | q
  · exact (okB_apart h a b (by omega) (by omega) q hm (by rw [ek]; exact h1) (by rw [em]; exact h1)).elim
  · rw [q]
  · exact (okB_apart h a b (by omega) (by omega) q hk (by rw [em]; exact h1) (by rw [ek]; exact h1)).elim
variable {r c d g : Nat}
/-- A cell that has a square outside of a rectangle that cuts no cell is outside. -/
theorem outs_of (h : okB R C l = true) (hall : l.all (fun z => !cutB r c d g z) = true) {x : Cl} (hx : x ∈ l) (a b : Nat) (hi : inB x a b = true) (ho : ¬ inR r c d g a b) : outsB r c d g x = true := by
  have hw := ok_cell h hx
  have hi' := inB_is.1 hi
  obtain ⟨x1, x2, x3, x4, tx⟩ := x
  simp only at hw hi'
  obtain ⟨x1, rfl⟩ : ∃ z : Nat, x1 = z := ⟨x1.toNat, by omega⟩
  obtain ⟨x2, rfl⟩ : ∃ z : Nat, x2 = z := ⟨x2.toNat, by omega⟩
  obtain ⟨x3, rfl⟩ : ∃ z : Nat, x3 = z := ⟨x3.toNat, by omega⟩
  obtain ⟨x4, rfl⟩ : ∃ z : Nat, x4 = z := ⟨x4.toNat, by omega⟩
  cases hq : outsB r c d g ((x1 : Int), (x2 : Int), (x3 : Int), (x4 : Int), tx)
  · have hc := List.all_eq_true.1 hall _ hx
    unfold cutB at hc
    rw [hq] at hc
    have hf : fullB r c d g ((x1 : Int), (x2 : Int), (x3 : Int), (x4 : Int), tx) = true := by simpa using hc
    exact absurd ((full_iff (by omega) (by omega)).1 hf a b (by omega) (by omega) (by omega) (by omega)) ho
  · rfl
theorem merge_in (h : mergeB R C l r c d g = true) (hd : 1 ≤ d) (hg : 1 ≤ g) (a b : Nat) (hin : inR r c d g a b) : atN R C (mergeL l r c d g) a b = atN R C (mergeL l r c d g) r c := by
  unfold inR at hin
  exact at_same (ok_mergeN h) (mergeL_iff.2 (Or.inr rfl)) a b r c (inB_is.2 (by simp only; omega)) (inB_is.2 (by simp only; omega))
theorem merge_at (h : mergeB R C l r c d g = true) (hd : 1 ≤ d) (hg : 1 ≤ g) : ∃ k, k < (mergeL l r c d g).length ∧ atN R C (mergeL l r c d g) r c = (k : Int) ∧ (mergeL l r c d g).getD k cl0 = ((r : Int), (c : Int), (d : Int), (g : Int), mTx r c d g l) :=
  at_of (ok_mergeN h) (mergeL_iff.2 (Or.inr rfl)) r c (inB_is.2 (by simp only; omega))
theorem merge_out (h : mergeB R C l r c d g = true) (hok : okB R C l = true) (hall : l.all (fun z => !cutB r c d g z) = true) (hd : 1 ≤ d) (hg : 1 ≤ g) (a b : Nat) (ha : (a : Int) < R) (hb : (b : Int) < C) (hout : ¬ inR r c d g a b) :
    atN R C (mergeL l r c d g) a b ≠ atN R C (mergeL l r c d g) r c ∧ sqT R C (mergeL l r c d g) a b = sqT R C l a b := by
  obtain ⟨x, hx, hi⟩ := sq_has hok a b ha hb
  have ho := outs_of hok hall hx a b hi hout
  have hm : x ∈ mergeL l r c d g := mergeL_iff.2 (Or.inl ⟨hx, ho⟩)
  refine ⟨fun e => ?_, by rw [sqT_of (ok_mergeN h) hm a b hi, sqT_of hok hx a b hi]⟩
  obtain ⟨k, _, e1, ek⟩ := at_of (ok_mergeN h) hm a b hi
  obtain ⟨m, _, e2, em⟩ := merge_at h hd hg
  rw [e1, e2] at e
  have hkm : k = m := by omega
  subst hkm
  rw [ek] at em
  rw [em] at hi
  have := inB_is.1 hi
  simp only at this
  exact hout (by unfold inR; omega)
end
end Go.Proofs.Ytkgdocohdjebfaa
namespace Go.Proofs.Ytkgdocohdjebfaa
open Go.RowKit

/-- All that is written in a table. -/
def allT (l : List Cl) : List Sg := l.flatMap (fun x => x.2.2.2.2)
def manyN (l : List Cl) : Nat := (allT l).length
theorem manyN_take (l : List Cl) (i : Nat) (h : i < l.length) : manyN (l.take (i + 1)) = manyN (l.take i) + (l.getD i cl0).2.2.2.2.length := by
  unfold manyN allT
  rw [List.take_succ_eq_append_getElem h, List.flatMap_append, List.length_append]
  simp [List.getD, h]
theorem manyN_le (k : Nat) : ∀ l : List Cl, (∀ x ∈ l, x.2.2.2.2.length ≤ k) → manyN l ≤ k * l.length
  | [], _ => by simp [manyN, allT]
  | x :: l, h => by
    have h1 := manyN_le k l (fun y hy => h y (List.mem_cons_of_mem _ hy))
    have h2 := h x (List.mem_cons_self ..)
    unfold manyN allT at h1 ⊢
    rw [List.flatMap_cons, List.length_append, List.length_cons, Nat.mul_succ]
    omega
end Go.Proofs.Ytkgdocohdjebfaa
namespace Go.Proofs.Ytkgdocohdjebfaa
open Go.RowKit

theorem manyN_nil : manyN [] = 0 := rfl
theorem manyN_cons (x : Cl) (l : List Cl) : manyN (x :: l) = x.2.2.2.2.length + manyN l := by
  unfold manyN allT
  rw [List.flatMap_cons, List.length_append]
theorem manyN_append (l m : List Cl) : manyN (l ++ m) = manyN l + manyN m := by
  unfold manyN allT
  rw [List.flatMap_append, List.length_append]
theorem manyN_perm {l m : List Cl} (h : l.Perm m) : manyN l = manyN m := by
  induction h with
  | nil => rfl
  | cons x _ ih => rw [manyN_cons, manyN_cons, ih]
  | swap x y l => rw [manyN_cons, manyN_cons, manyN_cons, manyN_cons]; omega
  | trans _ _ h1 h2 => exact h1.trans h2
theorem manyN_map (f : Cl → Cl) (hf : ∀ x, (f x).2.2.2.2 = x.2.2.2.2) : ∀ l : List Cl, manyN (l.map f) = manyN l
  | [] => rfl
  | x :: l => by rw [List.map_cons, manyN_cons, manyN_cons, hf, manyN_map f hf l]
theorem manyN_none : ∀ l : List Cl, (∀ x ∈ l, x.2.2.2.2 = []) → manyN l = 0
  | [], _ => rfl
  | x :: l, h => by rw [manyN_cons, h x (List.mem_cons_self ..), manyN_none l (fun y hy => h y (List.mem_cons_of_mem _ hy))]; rfl
theorem manyN_filter (p : Cl → Bool) : ∀ l : List Cl, manyN (l.filter p) ≤ manyN l
  | [] => Nat.le_refl _
  | x :: l => by
    have := manyN_filter p l
    rw [List.filter_cons, manyN_cons]
    split
    · rw [manyN_cons]
      omega
    · omega
theorem many_in (t' C : Int) (l : List Cl) : manyN (inL t' C l) = manyN l := by
  unfold inL
  rw [manyN_perm (sortC_perm _)]
  unfold inM
  rw [manyN_append, manyN_map _ (inC_txt t'), manyN_none (newI t' C l) ?_]
  · rfl
  · intro x hx
    unfold newI at hx
    obtain ⟨c, _, rfl⟩ := List.mem_map.1 hx
    rfl
theorem many_out (t' : Int) (l : List Cl) : manyN (outL t' l) ≤ manyN l := by
  unfold outL
  rw [manyN_perm (sortC_perm _)]
  unfold outM
  refine Nat.le_trans (manyN_filter _ _) ?_
  rw [manyN_map _ (outC_txt t')]
  exact Nat.le_refl _
theorem many_turn (l : List Cl) : manyN (turnL l) = manyN l := by
  unfold turnL
  rw [manyN_perm (sortC_perm _), manyN_map turnC (fun _ => rfl)]
theorem manyN_set : ∀ (l : List Cl) (p : Nat) (y : Cl), p < l.length → y.2.2.2.2 = (l.getD p cl0).2.2.2.2 → manyN (l.set p y) = manyN l
  | x :: l, 0, y, _, h => by
    rw [List.set_cons_zero, manyN_cons, manyN_cons, h]
    rfl
  | x :: l, p + 1, y, hp, h => by
    rw [List.set_cons_succ, manyN_cons, manyN_cons, manyN_set l p y (by simpa using hp) (by simpa using h)]
theorem many_split {R C t' : Int} {l : List Cl} (h : splitB R C l t' = true) : manyN (splitL l t') = manyN l := by
  simp only [splitB, Bool.and_eq_true, decide_eq_true_eq] at h
  have hp : t'.toNat < l.length := by
    have h1 := h.1.2
    clear h
    omega
  unfold splitL
  rw [manyN_perm (sortC_perm _)]
  unfold splitM
  rw [manyN_append, manyN_set l _ (oneC (l.getD t'.toNat cl0)) hp rfl, manyN_none (List.map sqC _) ?_]
  · rfl
  · intro x hx
    obtain ⟨q, _, rfl⟩ := List.mem_map.1 hx
    rfl
end Go.Proofs.Ytkgdocohdjebfaa
namespace Go.Proofs.Ytkgdocohdjebfaa
open Go.RowKit

/-- A cell without its text. -/
def blankC (x : Cl) : Cl := (x.1, x.2.1, x.2.2.1, x.2.2.2.1, [])
section
variable {R C : Int} {l : List Cl}
theorem inB_blank (x : Cl) (a b : Int) : inB (blankC x) a b = inB x a b := rfl
theorem getD_blank (k : Nat) : (l.map blankC).getD k cl0 = blankC (l.getD k cl0) := by
  by_cases hk : k < l.length
  · rw [getD_get (by rw [List.length_map]; exact hk), getD_get hk, List.getElem_map]
  · have h1 : (l.map blankC)[k]? = none := List.getElem?_eq_none (by rw [List.length_map]; omega)
    have h2 : l[k]? = none := List.getElem?_eq_none (by omega)
    unfold List.getD
    rw [h1, h2]
    rfl
theorem numF_blank (K : Nat) : numF (l.map blankC) K = numF l K := by
  induction K with
  | zero => rfl
  | succ K ih =>
    unfold numF
    rw [ih, getD_blank]
    rfl
theorem ok_blank (h : okB R C l = true) : okB R C (l.map blankC) = true := by
  rw [← gridP_iff] at h ⊢
  obtain ⟨h1, h2, h3, h4⟩ := h
  refine ⟨h1, h2, fun k hk => ?_, ?_⟩
  · rw [List.length_map] at hk
    have hs := stepB_of (h3 k hk)
    unfold stepB
    rw [getD_blank, numF_blank]
    simp only [Bool.and_eq_true]
    exact ⟨⟨hs.1, hs.2.1⟩, rfl⟩
  · rw [List.length_map, numF_blank]
    exact h4
end
theorem sqN_turn (r c d g : Nat) (x : Cl) : sqN c r g d (turnC x) = sqN r c d g x := Nat.mul_comm _ _
theorem outs_turn (r c d g : Nat) (x : Cl) : outsB c r g d (turnC x) = outsB r c d g x := by
  unfold outsB
  rw [sqN_turn]
theorem full_turn (r c d g : Nat) (x : Cl) : fullB c r g d (turnC x) = fullB r c d g x := by
  unfold fullB
  rw [sqN_turn, show (turnC x).2.2.1.toNat * (turnC x).2.2.2.1.toNat = x.2.2.1.toNat * x.2.2.2.1.toNat from Nat.mul_comm _ _]
theorem cut_turn (r c d g : Nat) (x : Cl) : cutB c r g d (turnC x) = cutB r c d g x := by
  unfold cutB
  rw [outs_turn, full_turn]
theorem filter_full_turn (r c d g : Nat) (l : List Cl) : ((turnL l).filter (fullB c r g d)).Perm ((l.filter (fullB r c d g)).map turnC) := by
  refine ((sortC_perm (l.map turnC)).filter _).trans ?_
  rw [List.filter_map]
  have : (fullB c r g d ∘ turnC) = fullB r c d g := by
    funext x
    exact full_turn r c d g x
  rw [this]
theorem mN_turn (r c d g : Nat) (l : List Cl) : mN c r g d (turnL l) = mN r c d g l := by
  unfold mN
  rw [(filter_full_turn r c d g l).length_eq, List.length_map]
theorem flat_perm {F G : List Cl} (h : F.Perm G) : (F.flatMap (fun x => x.2.2.2.2)).Perm (G.flatMap (fun x => x.2.2.2.2)) := by
  induction h with
  | nil => exact List.Perm.refl _
  | cons x _ ih => rw [List.flatMap_cons, List.flatMap_cons]; exact List.Perm.append_left _ ih
  | swap x y l =>
    rw [List.flatMap_cons, List.flatMap_cons, List.flatMap_cons, List.flatMap_cons, ← List.append_assoc, ← List.append_assoc]
    exact List.Perm.append_right _ List.perm_append_comm
  | trans _ _ h1 h2 => exact h1.trans h2
theorem mTx_turn (r c d g : Nat) (l : List Cl) : (mTx c r g d (turnL l)).Perm (mTx r c d g l) := by
  unfold mTx
  refine (flat_perm (filter_full_turn r c d g l)).trans ?_
  rw [List.flatMap_map]
  exact List.Perm.refl _
theorem textB_perm {a b : List Sg} (h : a.Perm b) : textB a = textB b := by
  unfold textB
  rw [h.length_eq]
  congr 1
  rw [Bool.eq_iff_iff, List.all_eq_true, List.all_eq_true]
  exact ⟨fun k x hx => k x (h.mem_iff.2 hx), fun k x hx => k x (h.mem_iff.1 hx)⟩
theorem all_turn (r c d g : Nat) (l : List Cl) : (turnL l).all (fun x => !cutB c r g d x) = l.all (fun x => !cutB r c d g x) := by
  rw [Bool.eq_iff_iff, List.all_eq_true, List.all_eq_true]
  constructor
  · intro h x hx
    have := h (turnC x) ((turnL_mem l _).2 ⟨x, hx, rfl⟩)
    rw [cut_turn] at this
    exact this
  · intro h y hy
    obtain ⟨x, hx, rfl⟩ := (turnL_mem l y).1 hy
    rw [cut_turn]
    exact h x hx
theorem bnd_turn (R C r c d g : Int) : bndB C R c r g d = bndB R C r c d g := by
  unfold bndB
  simp only [Bool.and_assoc]
  rw [Bool.eq_iff_iff]
  simp only [Bool.and_eq_true, decide_eq_true_eq]
  omega
theorem merge_turn_B {R C r c d g : Int} {l : List Cl} (h : okB R C l = true) : mergeB C R (turnL l) c r g d = mergeB R C l r c d g := by
  unfold mergeB
  rw [ok_turnI h, h, bnd_turn, all_turn, mN_turn, textB_perm (mTx_turn _ _ _ _ l)]
theorem merge_t_B {R C r c d g : Int} {l : List Cl} : mergeB (tX R C l) (tY R C l) (tL R C l) c r g d = mergeB R C l r c d g := by
  by_cases h : okB R C l = true
  · obtain ⟨h1, h2, h3⟩ := t_of h
    rw [h1, h2, h3]
    exact merge_turn_B h
  · have h' : okB R C l = false := by simpa using h
    unfold tX tY tL mergeB
    rw [if_neg h, if_neg h, if_neg h, okB_nil, h']
    simp only [Bool.false_and]
theorem merge_turn_L {R C : Int} {r c d g : Nat} {l : List Cl} (h : mergeB R C l r c d g = true) : (turnL (mergeL l r c d g)).map blankC = (mergeL (turnL l) c r g d).map blankC := by
  have hok : okB R C l = true := by
    simp only [mergeB, Bool.and_eq_true] at h
    exact h.1.1.1.1
  have h2 : mergeB C R (turnL l) c r g d = true := (merge_turn_B hok).trans h
  refine same_of_sub (ok_blank (ok_turnI (ok_mergeN h))) (ok_blank (ok_mergeN h2)) ?_
  intro z hz
  obtain ⟨y, hy, rfl⟩ := List.mem_map.1 hz
  obtain ⟨x, hx, rfl⟩ := (turnL_mem _ _).1 hy
  rcases mergeL_iff.1 hx with ⟨hx, ho⟩ | rfl
  · refine List.mem_map.2 ⟨turnC x, mergeL_iff.2 (Or.inl ⟨(turnL_mem l _).2 ⟨x, hx, rfl⟩, ?_⟩), rfl⟩
    rw [outs_turn]
    exact ho
  · exact List.mem_map.2 ⟨_, mergeL_iff.2 (Or.inr rfl), rfl⟩
end Go.Proofs.Ytkgdocohdjebfaa
namespace Go.Proofs.Ytkgdocohdjebfaa
open Go.RowKit

set_option maxRecDepth 100000 in
set_option maxHeartbeats 4000000 in
theorem lmBlank_any (R C : Int) (a : Option Addr) (n cap : Nat) (l : List Cl) (w : World) (h : Tab w a n cap l) (hl : l.length ≤ 1000000) :
    Calls Try.prog 28 #[.agg #[.int .i64 R, .int .i64 C, .slice a n cap]] w fun z w' => (∃ a' c' rs, z = .returned (.agg #[.int .i64 R, .int .i64 C, .slice a' l.length c']) ∧ OwnT w' w.heap.size (.slice a' l.length c') rs (l.map blankC)) ∧ Below w.heap.size w w' := by
  obtain ⟨i0, hi, hz0, hz1, hz2⟩ := info_parts Try.info42
  have H : Hid (Tab w a n cap l) := h
  obtain ⟨hn, hc, hm, -⟩ := h
  unfold maxLen at hm
  have HN : Hid (n = l.length) := hn
  have hn6 : n ≤ 1000000 := by omega
  clear hn
  go_enter Try.func28, Try.ntmps28
  go_upto_region 1 with fail
  have B0 : Below w.heap.size w ((w.alloc (.cells #[.int .i64 R, .int .i64 C, .slice a n cap] 25)).alloc (.cells #[.int .i64 0, .int .i64 0, .slice none 0 0] 25)) := ((Below.refl _ _).alloc (Nat.le_refl _) _).alloc (by simp) _
  have G0 : RowAt ((w.alloc (.cells #[.int .i64 R, .int .i64 C, .slice a n cap] 25)).alloc (.cells #[.int .i64 0, .int .i64 0, .slice none 0 0] 25)) w.heap.size #[.int .i64 R, .int .i64 C, .slice a n cap] 25 := (rowAt_new w _ _).alloc _
  have G1 : RowAt ((w.alloc (.cells #[.int .i64 R, .int .i64 C, .slice a n cap] 25)).alloc (.cells #[.int .i64 0, .int .i64 0, .slice none 0 0] 25)) (w.heap.size + 1) #[.int .i64 0, .int .i64 0, .slice none 0 0] 25 := by
    have := rowAt_new (w.alloc (.cells #[.int .i64 R, .int .i64 C, .slice a n cap] 25)) #[.int .i64 0, .int .i64 0, .slice none 0 0] 25
    simpa using this
  generalize ((w.alloc (.cells #[.int .i64 R, .int .i64 C, .slice a n cap] 25)).alloc (.cells #[.int .i64 0, .int .i64 0, .slice none 0 0] 25)) = v at B0 G0 G1 ⊢
  have q0 : v.cell? ⟨w.heap.size, 0, none⟩ = some (.int .i64 R) := G0.cell 0
  have q1 : v.cell? ⟨w.heap.size, 1, none⟩ = some (.int .i64 C) := G0.cell 1
  go_upto_region 2 with fail
  have B1 : Below v.heap.size v (v.alloc (.cells #[.int .i64 R, .int .i64 C, .slice none 0 0] 25)) := (Below.refl _ _).alloc (Nat.le_refl _) _
  have G2 : RowAt (v.alloc (.cells #[.int .i64 R, .int .i64 C, .slice none 0 0] 25)) v.heap.size #[.int .i64 R, .int .i64 C, .slice none 0 0] 25 := rowAt_new _ _ _
  generalize (v.alloc (.cells #[.int .i64 R, .int .i64 C, .slice none 0 0] 25)) = v0 at B1 G2 ⊢
  have z0 := G0.lt
  have z1 := G1.lt
  have z2 := G2.lt
  have s01 := B0.size
  clear q0 q1
  go_wp2_with fail
  go_loopw [4] (fun iv wr => ∃ (i : Nat) (rs : List Rw) (a' : Option Addr) (c' : Nat), i ≤ n ∧ iv = .int .i64 i ∧ RowAt wr v.heap.size #[.int .i64 R, .int .i64 C, .slice a' i c'] 25 ∧ OwnR wr v0.heap.size (.slice a' i c') rs ∧ TxtOwn wr v0.heap.size (Value.slice a' i c').ownBlock rs ((l.take i).map blankC) ∧ Below v.heap.size v wr ∧ v0.heap.size ≤ wr.heap.size) (fun iv _ => n - (intOf iv).toNat)
  case atStart => exact ⟨0, [], none, 0, Nat.zero_le _, rfl, G2, OwnR.nil _ _, TxtOwn.nil _ _ _, B1, Nat.le_refl _⟩
  case round =>
    clear G2 B1
    obtain ⟨i, rs, a', c', hin, rfl, hT, hO, hX, hb, hs⟩ := hrel
    have HTb : Hid (RowAt wr v.heap.size #[.int .i64 R, .int .i64 C, .slice a' i c'] 25) := hT
    have HO : Hid (OwnR wr v0.heap.size (.slice a' i c') rs) := hO
    have HXt : Hid (TxtOwn wr v0.heap.size (Value.slice a' i c').ownBlock rs ((l.take i).map blankC)) := hX
    have HB : Hid (Below v.heap.size v wr) := hb
    have HW : Hid (Below w.heap.size w wr) := B0.trans (hb.mono s01)
    have k2 : wr.cell? ⟨w.heap.size, 2, none⟩ = some (.slice a n cap) := (G0.below hb z0).cell 2
    clear hT hO hX hb
    by_cases hlt : i < n
    · have hil : i < l.length := by rw [← HN.out]; exact hlt
      rcases H.out.2.2.2 with e | ⟨b, off, rfl, hbw, hcl⟩
      · rw [e] at hil
        exact absurd hil (by simp)
      obtain ⟨c0, c1, c2, c3, ta, tn, tc, c4, htx⟩ := (hcl i hil).below HW.out hbw
      obtain ⟨⟨r, c, d, g, tx⟩, hx⟩ : ∃ x, x = l.getD i cl0 := ⟨_, rfl⟩
      rw [← hx] at c0 c1 c2 c3
      simp only at c0 c1 c2 c3
      have HX : Hid ((r, c, d, g, tx) = l.getD i cl0) := hx
      clear hcl hx htx
      go_upto_region 6 with fail
      have bA : Below wr.heap.size wr (wr.alloc (.cells #[.int .i64 r, .int .i64 c, .int .i64 d, .int .i64 g, .slice ta tn tc] 42)) := (Below.refl _ _).alloc (Nat.le_refl _) _
      have RA : RowAt (wr.alloc (.cells #[.int .i64 r, .int .i64 c, .int .i64 d, .int .i64 g, .slice ta tn tc] 42)) wr.heap.size #[.int .i64 r, .int .i64 c, .int .i64 d, .int .i64 g, .slice ta tn tc] 42 := rowAt_new _ _ _
      clear c0 c1 c2 c3 c4 k2
      generalize (wr.alloc (.cells #[.int .i64 r, .int .i64 c, .int .i64 d, .int .i64 g, .slice ta tn tc] 42)) = w1 at bA RA ⊢
      have s1 := bA.size
      have lA := RA.lt
      have f4 : w1.frozen? ⟨wr.heap.size, 4, none⟩ = false := RA.frozen 4
      have g4 : w1.cell? ⟨wr.heap.size, 4, none⟩ = some (.slice ta tn tc) := RA.cell 4
      go_upto_region 7 with fail
      have R3 := RA.setCell 4 (.slice none 0 0)
      have b3 : Below wr.heap.size wr (w1.setCell ⟨wr.heap.size, 4, none⟩ (.slice none 0 0)) := bA.setCell (p := ⟨wr.heap.size, 4, none⟩) (Nat.le_refl _) (.slice none 0 0)
      clear f4 g4 RA bA
      generalize (w1.setCell ⟨wr.heap.size, 4, none⟩ (.slice none 0 0)) = w3 at R3 b3 ⊢
      have s3 := b3.size
      have d0 : w3.cell? ⟨wr.heap.size, 0, none⟩ = some (.int .i64 r) := R3.cell 0
      have d1 : w3.cell? ⟨wr.heap.size, 1, none⟩ = some (.int .i64 c) := R3.cell 1
      have d2 : w3.cell? ⟨wr.heap.size, 2, none⟩ = some (.int .i64 d) := R3.cell 2
      have d3 : w3.cell? ⟨wr.heap.size, 3, none⟩ = some (.int .i64 g) := R3.cell 3
      have d4 : w3.cell? ⟨wr.heap.size, 4, none⟩ = some (.slice none 0 0) := R3.cell 4
      have lv : v.heap.size < wr.heap.size := by omega
      have HT3 : Hid (RowAt w3 v.heap.size #[.int .i64 R, .int .i64 C, .slice a' i c'] 25) := HTb.out.below b3 lv
      have HO3 : Hid (OwnR w3 v0.heap.size (.slice a' i c') rs) := own_below HO.out b3
      have HX3 : Hid (TxtOwn w3 v0.heap.size (Value.slice a' i c').ownBlock rs ((l.take i).map blankC)) := HXt.out.below b3
      have HB3 : Hid (Below v.heap.size v w3) := HB.out.trans (b3.mono (by omega))
      have t2 : w3.cell? ⟨v.heap.size, 2, none⟩ = some (.slice a' i c') := HT3.out.cell 2
      clear R3 b3
      go_wp2_with (at_builtin; refine wpList_append_own _ rfl (.tmp 25) (.tmp 27) 23 rfl v0.heap.size 42 i0 _ 5 56 Try.underlying23 hi hz0 hz1 hz2 rfl (by decide) (.slice a' i c') _ _ rfl (HO3.out.row.alloc _) ⟨w3.heap.size, 0, none⟩ 1 1 [.int .i64 r, .int .i64 c, .int .i64 d, .int .i64 g, .slice none 0 0] rfl rfl (cell_five_new _ _ _ _ _ _ _) (five_oneCell _ _ _ _ _ _ _) (by unfold maxLen; omega) (by omega) (by simp; omega) ?_; intro v' w5 hown' hgrow _; obtain ⟨a5, c5, rfl, ho5, hb5⟩ := ownR_step (B := v0.heap.size) (w := w3) (s := (r, c, d, g, none, 0, 0)) HO3.out (Below.refl _ _) (by omega) hown' hgrow; have R5 := RowAt.grown (HT3.out.alloc _) hgrow (fun e => by have := (own_lt HO3.out.row e).1; omega); have q2 : w5.cell? ⟨v.heap.size, 2, none⟩ = some (.slice a' i c') := R5.cell 2; have q3 := R5.frozen 2)
      go_roundw
      case rel =>
        have t5 : TxtOwn w5 v0.heap.size (Value.slice a' i c').ownBlock rs ((l.take i).map blankC) := (HX3.out.below ((Below.refl _ _).alloc (Nat.le_refl _) _)).grown hgrow (fun k hk b hb => HX3.out.2.2.1 k hk b hb)
        have t6 := t5.snoc (C := wr.heap.size) (x := (r, c, d, g, none, 0, 0)) (y := (r, c, d, g, [])) ⟨rfl, rfl, rfl, rfl, World.ownsRow_nil _ _ _ _⟩ (fun b hb => by simp [rwT, Value.ownBlock] at hb) (fun k hk b hb => HXt.out.blockLt k hk b hb) (fun b hb => by simp [rwT, Value.ownBlock] at hb)
        rw [show (l.take i).map blankC ++ [(r, c, d, g, [])] = (l.take (i + 1)).map blankC from by rw [List.take_succ_eq_append_getElem hil, List.map_append]; simp only [List.map_cons, List.map_nil]; rw [← getD_get hil, ← HX.out]; rfl] at t6
        have B5 : Below v.heap.size v w5 := ((HB3.out).alloc (by omega) _).grown hgrow (by simp; omega) (fun k hk => by have := (own_lt HO3.out.row hk).1; omega)
        have s5 := hgrow.size
        simp at s5
        refine ⟨i + 1, _, a5, c5, by omega, by go_num, R5.setCell 2 (.slice a5 (i + 1) c5), own_set ho5 _ _ (fun e => by have := (own_lt ho5.row e).1; simp at this; omega), (t6.anew ho5).setLow _ _ (by simp; omega), B5.setCell (p := ⟨v.heap.size, 2, none⟩) (Nat.le_refl _) (.slice a5 (i + 1) c5), by simp [World.setCell]; omega⟩
      case measure => simp [intOf]; omega
    · have e : i = n := by omega
      subst e
      have k0 : wr.cell? ⟨v.heap.size, 0, none⟩ = some (.int .i64 R) := HTb.out.cell 0
      have k1 : wr.cell? ⟨v.heap.size, 1, none⟩ = some (.int .i64 C) := HTb.out.cell 1
      have k3 : wr.cell? ⟨v.heap.size, 2, none⟩ = some (.slice a' i c') := HTb.out.cell 2
      have HG1 : Hid (RowAt wr (w.heap.size + 1) #[.int .i64 0, .int .i64 0, .slice none 0 0] 25) := G1.below HB.out z1
      go_wp2_with (refine wpList_store_row rfl 25 (.tmp 2) (.tmp 30) rfl (w.heap.size + 1) #[.int .i64 R, .int .i64 C, .slice a' i c'] rfl rfl 25 _ HG1.out tab_info rfl (cells3_one _ _ _ _ _) ?_)
      have hX := HXt.out
      have hO := HO.out
      rw [HN.out] at hX hO
      rw [List.take_of_length_le (Nat.le_refl _)] at hX
      refine bodyPost_ret (v := .agg #[.int .i64 R, .int .i64 C, .slice a' i c']) (results_cell_row (p := 2) (ty := 25) rfl _ _ (w.heap.size + 1) 25 _ _ _ rfl (RowAt.setRow HG1.out _) Try.underlying25 rfl tab_info) rfl ⟨⟨a', c', rs, by rw [HN.out], ?_⟩, below_row (B0.trans (HB.out.mono s01)) (by omega) _⟩
      exact OwnT.less (B' := v0.heap.size) ⟨own_row hO _ _ (fun e => by have := (own_lt hO.row e).1; omega), hX.rowLow _ _ (by omega)⟩ (by omega)
end Go.Proofs.Ytkgdocohdjebfaa
namespace Go.Proofs.Ytkgdocohdjebfaa
open Go.RowKit

set_option maxRecDepth 100000 in
set_option maxHeartbeats 8000000 in
theorem lawTabMergeTurn_walk (a : Option Addr) (n cap : Nat) (zs : List Int) (w : World) (h : Byt w.heap.size w a n cap zs) :
    Calls Try.prog 8 #[.slice a n cap] w fun e w' => e = .returned (.bool true) ∧ Below w.heap.size w w' := by
  have HY : Hid (Byt w.heap.size w a n cap zs) := h
  have hc := h.2.1
  have hm := h.2.2.1
  unfold maxLen at hm
  clear h
  by_cases hn : 1048576 < n
  · have hd : decide ((1048576 : Int) < (n : Int)) = true := by simp; omega
    go_enter Try.func8, Try.ntmps8
    go_wp2_with fail
    go_ret
    exact ⟨rfl, Below.refl _ _⟩
  have hd : decide ((1048576 : Int) < (n : Int)) = false := by simp; omega
  go_enter Try.func8, Try.ntmps8
  go_upto_region 4 with (go_at_call 17; refine (drawTableMerge_any w.heap.size a n cap zs _ HY.out (Nat.le_refl _)).mono ?_; rintro e w1 ⟨⟨R, C, a', n', c', l, r, c, d, g, rfl, hT1, hS1, hrr, hcc, hdd, hgg⟩, hb1⟩)
  have H0 := Hold.first hb1 hT1 #[.int .i64 R, .int .i64 C, .slice a' n' c'] 25
  generalize (w1.alloc (.cells #[.int .i64 R, .int .i64 C, .slice a' n' c'] 25)) = v0 at H0 ⊢
  obtain ⟨Tb, hTe⟩ : ∃ T, w1.heap.size = T := ⟨_, rfl⟩
  rw [hTe] at H0 ⊢
  have HH : Hid (Hold w [(Tb, #[.int .i64 R, .int .i64 C, .slice a' n' c'], 25)] [(a', n', c', l)] v0) := H0
  obtain ⟨hRb, hCb, hLb, hXb⟩ := hS1
  have HLX : Hid (∀ z ∈ l, z.2.2.2.2.length ≤ 25) := hXb
  clear hT1 hb1 H0 hTe hXb
  obtain ⟨can, HC⟩ : ∃ o, Hid (mergeB R C l r c d g = o) := ⟨_, rfl⟩
  cases can
  · have HMB : Hid (mergeB (tX R C l) (tY R C l) (tL R C l) c r g d = false) := merge_t_B.trans HC.out
    go_upto_region 5 with (first | (refine wpList_load_row rfl 25 (.tmp 3) rfl Tb rfl 25 #[.int .i64 R, .int .i64 C, .slice a' n' c'] (0, 0) _ (HH.out.row 0 rfl) Try.underlying25 rfl tab_info ?_) | (go_at_call 18; refine (specTableMerge_any R C r c d g a' n' c' l _ (HH.out.tab 0 rfl)).mono ?_; intro e w1' hr; obtain ⟨hr1, hb⟩ := hr; obtain ⟨Wa, Wn, Wc, rfl, hT⟩ := tabRes_f HC.out hr1; clear hr1))
    have H0 := HH.out.res hb hT #[.int .i64 0, .int .i64 0, .slice Wa Wn Wc] 25
    generalize (w1'.alloc (.cells #[.int .i64 0, .int .i64 0, .slice Wa Wn Wc] 25)) = v1 at H0 ⊢
    obtain ⟨Wb, hTe⟩ : ∃ T, w1'.heap.size = T := ⟨_, rfl⟩
    rw [hTe] at H0 ⊢
    replace HH : Hid (Hold w [(Wb, #[.int .i64 0, .int .i64 0, .slice Wa Wn Wc], 25), (Tb, #[.int .i64 R, .int .i64 C, .slice a' n' c'], 25)] [(Wa, Wn, Wc, []), (a', n', c', l)] v1) := H0
    clear hT hb H0 hTe
    go_upto_region 6 with (first | (refine wpList_load_row rfl 25 (.tmp 8) rfl Wb rfl 25 #[.int .i64 0, .int .i64 0, .slice Wa Wn Wc] (0, 0) _ (HH.out.row 0 rfl) Try.underlying25 rfl tab_info ?_) | (refine wpList_load_row rfl 25 (.tmp 3) rfl Tb rfl 25 #[.int .i64 R, .int .i64 C, .slice a' n' c'] (0, 0) _ (HH.out.row 1 rfl) Try.underlying25 rfl tab_info ?_) | (go_at_call 19; refine (implTableMerge_any R C r c d g a' n' c' l _ (HH.out.tab 1 rfl)).mono ?_; intro e w2' hr; obtain ⟨hr1, hb⟩ := hr; obtain ⟨Xa, Xn, Xc, rfl, hT⟩ := tabRes_f HC.out hr1; clear hr1))
    have H0 := HH.out.res hb hT #[.int .i64 0, .int .i64 0, .slice Xa Xn Xc] 25
    generalize (w2'.alloc (.cells #[.int .i64 0, .int .i64 0, .slice Xa Xn Xc] 25)) = v2 at H0 ⊢
    obtain ⟨Xb, hTe⟩ : ∃ T, w2'.heap.size = T := ⟨_, rfl⟩
    rw [hTe] at H0 ⊢
    replace HH : Hid (Hold w [(Xb, #[.int .i64 0, .int .i64 0, .slice Xa Xn Xc], 25), (Wb, #[.int .i64 0, .int .i64 0, .slice Wa Wn Wc], 25), (Tb, #[.int .i64 R, .int .i64 C, .slice a' n' c'], 25)] [(Xa, Xn, Xc, []), (Wa, Wn, Wc, []), (a', n', c', l)] v2) := H0
    clear hT hb H0 hTe
    go_upto_region 8 with (first | (refine wpList_load_rowG (by rfl) 25 (.tmp 10) rfl Xb rfl 25 #[.int .i64 0, .int .i64 0, .slice Xa Xn Xc] (0, 0) _ (HH.out.row 0 rfl) Try.underlying25 rfl tab_info ?_) | (refine wpList_load_rowG (by rfl) 25 (.tmp 8) rfl Wb rfl 25 #[.int .i64 0, .int .i64 0, .slice Wa Wn Wc] (0, 0) _ (HH.out.row 1 rfl) Try.underlying25 rfl tab_info ?_) | (refine wpList_load_rowG (by rfl) 25 (.tmp 3) rfl Tb rfl 25 #[.int .i64 R, .int .i64 C, .slice a' n' c'] (0, 0) _ (HH.out.row 2 rfl) Try.underlying25 rfl tab_info ?_) | (go_at_call 12; refine (lmTable_same (0) (0) Xa Xn Xc [] Wa Wn Wc _ (HH.out.tab 0 rfl) (HH.out.tab 1 rfl)).mono ?_; rintro e uu ⟨rfl, hb⟩; replace HH : Hid (Hold w [(Xb, #[.int .i64 0, .int .i64 0, .slice Xa Xn Xc], 25), (Wb, #[.int .i64 0, .int .i64 0, .slice Wa Wn Wc], 25), (Tb, #[.int .i64 R, .int .i64 C, .slice a' n' c'], 25)] [(Xa, Xn, Xc, []), (Wa, Wn, Wc, []), (a', n', c', l)] uu) := HH.out.go hb; clear hb))
    go_upto_region 9 with (first | (refine wpList_load_row rfl 25 (.tmp 10) rfl Xb rfl 25 #[.int .i64 0, .int .i64 0, .slice Xa Xn Xc] (0, 0) _ (HH.out.row 0 rfl) Try.underlying25 rfl tab_info ?_) | (refine wpList_load_row rfl 25 (.tmp 8) rfl Wb rfl 25 #[.int .i64 0, .int .i64 0, .slice Wa Wn Wc] (0, 0) _ (HH.out.row 1 rfl) Try.underlying25 rfl tab_info ?_) | (refine wpList_load_row rfl 25 (.tmp 3) rfl Tb rfl 25 #[.int .i64 R, .int .i64 C, .slice a' n' c'] (0, 0) _ (HH.out.row 2 rfl) Try.underlying25 rfl tab_info ?_) | (go_at_call 14; refine (implTableTurn_any R C a' n' c' l _ (HH.out.tab 2 rfl)).mono ?_; intro e Uu hr; obtain ⟨⟨Ux, Uy, Ua, Un, Uc, Ul, rs, rfl, hO, rfl, rfl, rfl⟩, hb⟩ := tRes_of hr; replace HH : Hid (Hold w [(Xb, #[.int .i64 0, .int .i64 0, .slice Xa Xn Xc], 25), (Wb, #[.int .i64 0, .int .i64 0, .slice Wa Wn Wc], 25), (Tb, #[.int .i64 R, .int .i64 C, .slice a' n' c'], 25)] [(Ua, Un, Uc, (tL R C l)), (Xa, Xn, Xc, []), (Wa, Wn, Wc, []), (a', n', c', l)] Uu) := (HH.out.go hb).add hO.tab; clear hr hO hb) | (go_at_call 19; refine (implTableMerge_any (tX R C l) (tY R C l) c r g d Ua Un Uc (tL R C l) _ (HH.out.tab 0 rfl)).mono ?_; intro e w3' hr; obtain ⟨hr1, hb⟩ := hr; obtain ⟨Ya, Yn, Yc, rfl, hT⟩ := tabRes_f HMB.out hr1; clear hr1))
    have H0 := HH.out.res hb hT #[.int .i64 0, .int .i64 0, .slice Ya Yn Yc] 25
    generalize (w3'.alloc (.cells #[.int .i64 0, .int .i64 0, .slice Ya Yn Yc] 25)) = v3 at H0 ⊢
    obtain ⟨Yb, hTe⟩ : ∃ T, w3'.heap.size = T := ⟨_, rfl⟩
    rw [hTe] at H0 ⊢
    replace HH : Hid (Hold w [(Yb, #[.int .i64 0, .int .i64 0, .slice Ya Yn Yc], 25), (Xb, #[.int .i64 0, .int .i64 0, .slice Xa Xn Xc], 25), (Wb, #[.int .i64 0, .int .i64 0, .slice Wa Wn Wc], 25), (Tb, #[.int .i64 R, .int .i64 C, .slice a' n' c'], 25)] [(Ya, Yn, Yc, []), (Ua, Un, Uc, (tL R C l)), (Xa, Xn, Xc, []), (Wa, Wn, Wc, []), (a', n', c', l)] v3) := H0
    clear hT hb H0 hTe
    go_upto_region 11 with fail
    refine wp_region_noPanic ?_
    refine wp_region_held_drew (S := fun w' => Hold w [(Yb, #[.int .i64 0, .int .i64 0, .slice Ya Yn Yc], 25), (Xb, #[.int .i64 0, .int .i64 0, .slice Xa Xn Xc], 25), (Wb, #[.int .i64 0, .int .i64 0, .slice Wa Wn Wc], 25), (Tb, #[.int .i64 R, .int .i64 C, .slice a' n' c'], 25)] [(Ya, Yn, Yc, []), (Ua, Un, Uc, (tL R C l)), (Xa, Xn, Xc, []), (Wa, Wn, Wc, []), (a', n', c', l)] w') (by kernel_rfl) HH.out.drew (fun hHeld => ?_)
    refine take_at 0 65 (.bool false) rfl rfl (by kernel_rfl) (by kernel_rfl) (by kernel_rfl) (fun _ _ _ h => h) (Or.inl ⟨by kernel_rfl, fun w' hS' => by go_simp⟩) hHeld ?_
    (try simp only [Act.put, List.setIfInBounds_toArray, List.set_cons_zero, List.set_cons_succ])
    refine take_at 1 66 (.bool true) rfl rfl (by kernel_rfl) (by kernel_rfl) (by kernel_rfl) (fun _ _ _ h => h) (Or.inl ⟨by kernel_rfl, fun w' hS' => by go_simp⟩) hHeld ?_
    (try simp only [Act.put, List.setIfInBounds_toArray, List.set_cons_zero, List.set_cons_succ])
    refine take_at 2 67 (.bool true) rfl rfl (by kernel_rfl) (by kernel_rfl) (by kernel_rfl) (fun _ _ _ h => h) (Or.inl ⟨by kernel_rfl, fun w' hS' => by go_simp⟩) hHeld ?_
    (try simp only [Act.put, List.setIfInBounds_toArray, List.set_cons_zero, List.set_cons_succ])
    refine take_at 3 68 (undef) rfl rfl (by kernel_rfl) (by kernel_rfl) (by kernel_rfl) (fun _ _ _ h => h) (Or.inr ⟨by kernel_rfl, rfl⟩) hHeld ?_
    (try simp only [Act.put, List.setIfInBounds_toArray, List.set_cons_zero, List.set_cons_succ])
    refine take_at 4 69 (undef) rfl rfl (by kernel_rfl) (by kernel_rfl) (by kernel_rfl) (fun _ _ _ h => h) (Or.inr ⟨by kernel_rfl, rfl⟩) hHeld ?_
    (try simp only [Act.put, List.setIfInBounds_toArray, List.set_cons_zero, List.set_cons_succ])
    refine take_at 5 70 (undef) rfl rfl (by kernel_rfl) (by kernel_rfl) (by kernel_rfl) (fun _ _ _ h => h) (Or.inr ⟨by kernel_rfl, rfl⟩) hHeld ?_
    (try simp only [Act.put, List.setIfInBounds_toArray, List.set_cons_zero, List.set_cons_succ])
    refine take_at 6 71 (undef) rfl rfl (by kernel_rfl) (by kernel_rfl) (by kernel_rfl) (fun _ _ _ h => h) (Or.inr ⟨by kernel_rfl, rfl⟩) hHeld ?_
    (try simp only [Act.put, List.setIfInBounds_toArray, List.set_cons_zero, List.set_cons_succ])
    refine take_at 7 72 (undef) rfl rfl (by kernel_rfl) (by kernel_rfl) (by kernel_rfl) (fun _ _ _ h => h) (Or.inr ⟨by kernel_rfl, rfl⟩) hHeld ?_
    (try simp only [Act.put, List.setIfInBounds_toArray, List.set_cons_zero, List.set_cons_succ])
    refine take_at 8 73 (undef) rfl rfl (by kernel_rfl) (by kernel_rfl) (by kernel_rfl) (fun _ _ _ h => h) (Or.inr ⟨by kernel_rfl, rfl⟩) hHeld ?_
    (try simp only [Act.put, List.setIfInBounds_toArray, List.set_cons_zero, List.set_cons_succ])
    refine take_at 9 74 (.bool true) rfl rfl (by kernel_rfl) (by kernel_rfl) (by kernel_rfl) (fun _ _ _ h => h) (Or.inl ⟨by kernel_rfl, fun w' hS' => by go_simp⟩) hHeld ?_
    (try simp only [Act.put, List.setIfInBounds_toArray, List.set_cons_zero, List.set_cons_succ])
    refine take_at 10 2 (.bool true) rfl rfl (by kernel_rfl) (by kernel_rfl) (by kernel_rfl) (fun _ _ _ h => h) (Or.inl ⟨by kernel_rfl, fun w' hS' => by go_simp⟩) hHeld ?_
    (try simp only [Act.put, List.setIfInBounds_toArray, List.set_cons_zero, List.set_cons_succ])
    refine wpAnyH_done (by kernel_rfl) ?_ _
    refine NoPanic.normal ?_
    replace HH : Hid (Hold w [(Yb, #[.int .i64 0, .int .i64 0, .slice Ya Yn Yc], 25), (Xb, #[.int .i64 0, .int .i64 0, .slice Xa Xn Xc], 25), (Wb, #[.int .i64 0, .int .i64 0, .slice Wa Wn Wc], 25), (Tb, #[.int .i64 R, .int .i64 C, .slice a' n' c'], 25)] [(Ya, Yn, Yc, []), (Ua, Un, Uc, (tL R C l)), (Xa, Xn, Xc, []), (Wa, Wn, Wc, []), (a', n', c', l)] _) := hHeld
    clear hHeld
    go_wp2_with fail
    go_ret
    exact ⟨rfl, HH.out.1⟩
  · obtain ⟨r, c, d, g, rfl, rfl, rfl, rfl, HOK, hd1, hg1, hrR, hcC, HAL, hmn, HTX⟩ := merge_data HC.out
    replace HOK : Hid (okB R C l = true) := HOK
    replace HAL : Hid (l.all (fun z => !cutB r c d g z) = true) := HAL
    replace HTX : Hid (textB (mTx r c d g l) = true) := HTX
    obtain ⟨hR1, hC1, -, -⟩ := gridP_of_okB HOK.out
    obtain ⟨R, rfl⟩ : ∃ z : Nat, R = z := ⟨R.toNat, by omega⟩
    obtain ⟨C, rfl⟩ : ∃ z : Nat, C = z := ⟨C.toNat, by omega⟩
    go_upto_region 5 with (first | (refine wpList_load_row rfl 25 (.tmp 3) rfl Tb rfl 25 #[.int .i64 R, .int .i64 C, .slice a' n' c'] (0, 0) _ (HH.out.row 0 rfl) Try.underlying25 rfl tab_info ?_) | (go_at_call 18; refine (specTableMerge_any R C r c d g a' n' c' l _ (HH.out.tab 0 rfl)).mono ?_; intro e w1' hr; obtain ⟨hr1, hb⟩ := hr; obtain ⟨Wa, Wn, Wc, rfl, hT⟩ := tabRes_t HC.out hr1; clear hr1))
    have H0 := HH.out.res hb hT #[.int .i64 R, .int .i64 C, .slice Wa Wn Wc] 25
    generalize (w1'.alloc (.cells #[.int .i64 R, .int .i64 C, .slice Wa Wn Wc] 25)) = v1 at H0 ⊢
    obtain ⟨Wb, hTe⟩ : ∃ T, w1'.heap.size = T := ⟨_, rfl⟩
    rw [hTe] at H0 ⊢
    replace HH : Hid (Hold w [(Wb, #[.int .i64 R, .int .i64 C, .slice Wa Wn Wc], 25), (Tb, #[.int .i64 R, .int .i64 C, .slice a' n' c'], 25)] [(Wa, Wn, Wc, (mergeL l r c d g)), (a', n', c', l)] v1) := H0
    clear hT hb H0 hTe
    go_upto_region 6 with (first | (refine wpList_load_row rfl 25 (.tmp 8) rfl Wb rfl 25 #[.int .i64 R, .int .i64 C, .slice Wa Wn Wc] (0, 0) _ (HH.out.row 0 rfl) Try.underlying25 rfl tab_info ?_) | (refine wpList_load_row rfl 25 (.tmp 3) rfl Tb rfl 25 #[.int .i64 R, .int .i64 C, .slice a' n' c'] (0, 0) _ (HH.out.row 1 rfl) Try.underlying25 rfl tab_info ?_) | (go_at_call 19; refine (implTableMerge_any R C r c d g a' n' c' l _ (HH.out.tab 1 rfl)).mono ?_; intro e w2' hr; obtain ⟨hr1, hb⟩ := hr; obtain ⟨Xa, Xn, Xc, rfl, hT⟩ := tabRes_t HC.out hr1; clear hr1))
    have H0 := HH.out.res hb hT #[.int .i64 R, .int .i64 C, .slice Xa Xn Xc] 25
    generalize (w2'.alloc (.cells #[.int .i64 R, .int .i64 C, .slice Xa Xn Xc] 25)) = v2 at H0 ⊢
    obtain ⟨Xb, hTe⟩ : ∃ T, w2'.heap.size = T := ⟨_, rfl⟩
    rw [hTe] at H0 ⊢
    replace HH : Hid (Hold w [(Xb, #[.int .i64 R, .int .i64 C, .slice Xa Xn Xc], 25), (Wb, #[.int .i64 R, .int .i64 C, .slice Wa Wn Wc], 25), (Tb, #[.int .i64 R, .int .i64 C, .slice a' n' c'], 25)] [(Xa, Xn, Xc, (mergeL l r c d g)), (Wa, Wn, Wc, (mergeL l r c d g)), (a', n', c', l)] v2) := H0
    clear hT hb H0 hTe
    go_upto_region 8 with (first | (refine wpList_load_rowG (by rfl) 25 (.tmp 10) rfl Xb rfl 25 #[.int .i64 R, .int .i64 C, .slice Xa Xn Xc] (0, 0) _ (HH.out.row 0 rfl) Try.underlying25 rfl tab_info ?_) | (refine wpList_load_rowG (by rfl) 25 (.tmp 8) rfl Wb rfl 25 #[.int .i64 R, .int .i64 C, .slice Wa Wn Wc] (0, 0) _ (HH.out.row 1 rfl) Try.underlying25 rfl tab_info ?_) | (refine wpList_load_rowG (by rfl) 25 (.tmp 3) rfl Tb rfl 25 #[.int .i64 R, .int .i64 C, .slice a' n' c'] (0, 0) _ (HH.out.row 2 rfl) Try.underlying25 rfl tab_info ?_) | (go_at_call 12; refine (lmTable_same (R) (C) Xa Xn Xc (mergeL l r c d g) Wa Wn Wc _ (HH.out.tab 0 rfl) (HH.out.tab 1 rfl)).mono ?_; rintro e uu ⟨rfl, hb⟩; replace HH : Hid (Hold w [(Xb, #[.int .i64 R, .int .i64 C, .slice Xa Xn Xc], 25), (Wb, #[.int .i64 R, .int .i64 C, .slice Wa Wn Wc], 25), (Tb, #[.int .i64 R, .int .i64 C, .slice a' n' c'], 25)] [(Xa, Xn, Xc, (mergeL l r c d g)), (Wa, Wn, Wc, (mergeL l r c d g)), (a', n', c', l)] uu) := HH.out.go hb; clear hb))
    have HMB : Hid (mergeB (tX R C l) (tY R C l) (tL R C l) c r g d = true) := merge_t_B.trans HC.out
    have HTT : Hid (tX R C l = C ∧ tY R C l = R ∧ tL R C l = turnL l) := t_of HOK.out
    have HM2 : Hid (mergeB C R (turnL l) c r g d = true) := (merge_turn_B HOK.out).trans HC.out
    have HBL : Hid ((turnL (mergeL l r c d g)).map blankC = (mergeL (turnL l) c r g d).map blankC) := merge_turn_L HC.out
    have HOM : Hid (okB R C (mergeL l r c d g) = true) := ok_mergeN HC.out
    have HS1 : (turnL (mergeL l r c d g)).length ≤ 1000000 := by have := (ok_small (ok_turnI HOM.out)).1; omega
    have HS2 : (mergeL (turnL l) c r g d).length ≤ 1000000 := by have := (ok_small (ok_mergeN HM2.out)).1; omega
    go_upto_region 9 with (first | (refine wpList_load_row rfl 25 (.tmp 10) rfl Xb rfl 25 #[.int .i64 R, .int .i64 C, .slice Xa Xn Xc] (0, 0) _ (HH.out.row 0 rfl) Try.underlying25 rfl tab_info ?_) | (refine wpList_load_row rfl 25 (.tmp 8) rfl Wb rfl 25 #[.int .i64 R, .int .i64 C, .slice Wa Wn Wc] (0, 0) _ (HH.out.row 1 rfl) Try.underlying25 rfl tab_info ?_) | (refine wpList_load_row rfl 25 (.tmp 3) rfl Tb rfl 25 #[.int .i64 R, .int .i64 C, .slice a' n' c'] (0, 0) _ (HH.out.row 2 rfl) Try.underlying25 rfl tab_info ?_) | (go_at_call 14; refine (implTableTurn_any R C a' n' c' l _ (HH.out.tab 2 rfl)).mono ?_; intro e Uu hr; obtain ⟨⟨Ux, Uy, Ua, Un, Uc, Ul, rs, rfl, hO, rfl, rfl, rfl⟩, hb⟩ := tRes_of hr; replace HH : Hid (Hold w [(Xb, #[.int .i64 R, .int .i64 C, .slice Xa Xn Xc], 25), (Wb, #[.int .i64 R, .int .i64 C, .slice Wa Wn Wc], 25), (Tb, #[.int .i64 R, .int .i64 C, .slice a' n' c'], 25)] [(Ua, Un, Uc, (tL R C l)), (Xa, Xn, Xc, (mergeL l r c d g)), (Wa, Wn, Wc, (mergeL l r c d g)), (a', n', c', l)] Uu) := (HH.out.go hb).add hO.tab; clear hr hO hb) | (go_at_call 19; refine (implTableMerge_any (tX R C l) (tY R C l) c r g d Ua Un Uc (tL R C l) _ (HH.out.tab 0 rfl)).mono ?_; intro e w3' hr; obtain ⟨hr1, hb⟩ := hr; rw [HTT.out.1, HTT.out.2.1, HTT.out.2.2] at hr1; obtain ⟨Ya, Yn, Yc, rfl, hT⟩ := tabRes_t HM2.out hr1; clear hr1))
    have H0 := HH.out.res hb hT #[.int .i64 C, .int .i64 R, .slice Ya Yn Yc] 25
    generalize (w3'.alloc (.cells #[.int .i64 C, .int .i64 R, .slice Ya Yn Yc] 25)) = v3 at H0 ⊢
    obtain ⟨Yb, hTe⟩ : ∃ T, w3'.heap.size = T := ⟨_, rfl⟩
    rw [hTe] at H0 ⊢
    replace HH : Hid (Hold w [(Yb, #[.int .i64 C, .int .i64 R, .slice Ya Yn Yc], 25), (Xb, #[.int .i64 R, .int .i64 C, .slice Xa Xn Xc], 25), (Wb, #[.int .i64 R, .int .i64 C, .slice Wa Wn Wc], 25), (Tb, #[.int .i64 R, .int .i64 C, .slice a' n' c'], 25)] [(Ya, Yn, Yc, (mergeL (turnL l) c r g d)), (Ua, Un, Uc, (tL R C l)), (Xa, Xn, Xc, (mergeL l r c d g)), (Wa, Wn, Wc, (mergeL l r c d g)), (a', n', c', l)] v3) := H0
    clear hT hb H0 hTe
    go_upto_region 11 with fail
    refine wp_region_noPanic ?_
    refine wp_region_held_drew (S := fun w' => Hold w [(Yb, #[.int .i64 C, .int .i64 R, .slice Ya Yn Yc], 25), (Xb, #[.int .i64 R, .int .i64 C, .slice Xa Xn Xc], 25), (Wb, #[.int .i64 R, .int .i64 C, .slice Wa Wn Wc], 25), (Tb, #[.int .i64 R, .int .i64 C, .slice a' n' c'], 25)] [(Ya, Yn, Yc, (mergeL (turnL l) c r g d)), (Ua, Un, Uc, (tL R C l)), (Xa, Xn, Xc, (mergeL l r c d g)), (Wa, Wn, Wc, (mergeL l r c d g)), (a', n', c', l)] w') (by kernel_rfl) HH.out.drew (fun hHeld => ?_)
    refine take_at 0 65 (.bool true) rfl rfl (by kernel_rfl) (by kernel_rfl) (by kernel_rfl) (fun _ _ _ h => h) (Or.inl ⟨by kernel_rfl, fun w' hS' => by go_simp⟩) hHeld ?_
    (try simp only [Act.put, List.setIfInBounds_toArray, List.set_cons_zero, List.set_cons_succ])
    refine take_at 1 66 (.bool false) rfl rfl (by kernel_rfl) (by kernel_rfl) (by kernel_rfl) (fun _ _ _ h => h) (Or.inl ⟨by kernel_rfl, fun w' hS' => by go_simp⟩) hHeld ?_
    (try simp only [Act.put, List.setIfInBounds_toArray, List.set_cons_zero, List.set_cons_succ])
    refine take_at 2 67 (.bool false) rfl rfl (by kernel_rfl) (by kernel_rfl) (by kernel_rfl) (fun _ _ _ h => h) (Or.inl ⟨by kernel_rfl, fun w' hS' => by go_simp⟩) hHeld ?_
    (try simp only [Act.put, List.setIfInBounds_toArray, List.set_cons_zero, List.set_cons_succ])
    refine take_at 3 68 (.agg #[.int .i64 R, .int .i64 C, .slice Xa Xn Xc]) rfl rfl (by kernel_rfl) (by kernel_rfl) (by kernel_rfl) (fun _ _ _ h => h) (yieldsIf_load_row (by kernel_rfl) 25 (.tmp 10) rfl Xb rfl 25 #[.int .i64 R, .int .i64 C, .slice Xa Xn Xc] (0, 0) _ (fun w' h => h.row 1 rfl) Try.underlying25 rfl tab_info) hHeld ?_
    (try simp only [Act.put, List.setIfInBounds_toArray, List.set_cons_zero, List.set_cons_succ])
    refine take_at 6 71 (.agg #[.int .i64 C, .int .i64 R, .slice Ya Yn Yc]) rfl rfl (by kernel_rfl) (by kernel_rfl) (by kernel_rfl) (fun _ _ _ h => h) (yieldsIf_load_row (by kernel_rfl) 25 (.tmp 12) rfl Yb rfl 25 #[.int .i64 C, .int .i64 R, .slice Ya Yn Yc] (0, 0) _ (fun w' h => h.row 0 rfl) Try.underlying25 rfl tab_info) hHeld ?_
    (try simp only [Act.put, List.setIfInBounds_toArray, List.set_cons_zero, List.set_cons_succ])
    refine wpAnyH_ready (rs := [4]) (by kernel_rfl) (by simp) ?_
    refine AllReadyH.cons rfl (fun K hK => ?_) AllReadyH.nil
    go_simp
    go_at_call 14
    refine (implTableTurn_any R C Xa Xn Xc (mergeL l r c d g) _ (hHeld.tab 2 rfl)).mono ?_
    intro e u1 hr
    obtain ⟨h1 | h1, hb⟩ := hr
    · exact absurd (h1.1.symm.trans HOM.out) (by simp)
    obtain ⟨-, ma, mc, ms, rfl, hO⟩ := h1
    obtain ⟨M, hM⟩ : ∃ M, (mergeL l r c d g).length = M := ⟨_, rfl⟩
    rw [hM] at hO ⊢
    have HT1 : Hid (Tab u1 ma M mc (turnL (mergeL l r c d g))) := hO.tab
    clear hO hM
    go_wp2_with fail
    refine hK.out _ _ (hHeld.go hb) (fun hHeld => ?_)
    clear hK K
    (try simp only [Act.put, List.setIfInBounds_toArray, List.set_cons_zero, List.set_cons_succ])
    refine wpAnyH_ready (rs := [5]) (by kernel_rfl) (by simp) ?_
    refine AllReadyH.cons rfl (fun K hK => ?_) AllReadyH.nil
    go_simp
    go_at_call 28
    refine (lmBlank_any C R ma M mc (turnL (mergeL l r c d g)) _ HT1.out HS1).mono ?_
    intro e u2 hr
    obtain ⟨⟨ba, bc, bs, rfl, hO⟩, hb⟩ := hr
    obtain ⟨P, hP⟩ : ∃ M, (turnL (mergeL l r c d g)).length = M := ⟨_, rfl⟩
    rw [hP] at hO ⊢
    have HT2 := hO.tab
    clear hO hP
    go_wp2_with fail
    refine hK.out _ _ (hHeld.go hb) (fun hHeld => ?_)
    clear hK K
    (try simp only [Act.put, List.setIfInBounds_toArray, List.set_cons_zero, List.set_cons_succ])
    refine wpAnyH_ready (rs := [7]) (by kernel_rfl) (by simp) ?_
    refine AllReadyH.cons rfl (fun K hK => ?_) AllReadyH.nil
    go_simp
    go_at_call 28
    refine (lmBlank_any C R Ya Yn Yc (mergeL (turnL l) c r g d) _ (hHeld.tab 0 rfl) HS2).mono ?_
    intro e u3 hr
    obtain ⟨⟨ca, cc, cs, rfl, hO⟩, hb⟩ := hr
    obtain ⟨Q, hQ⟩ : ∃ M, (mergeL (turnL l) c r g d).length = M := ⟨_, rfl⟩
    rw [hQ] at hO ⊢
    have HT3 := hO.tab
    have HT4 := HT2.below hb
    rw [HBL.out] at HT4
    clear hO hQ HT2
    go_wp2_with fail
    refine hK.out _ _ (hHeld.go hb) (fun hHeld => ?_)
    clear hK K
    (try simp only [Act.put, List.setIfInBounds_toArray, List.set_cons_zero, List.set_cons_succ])
    refine wpAnyH_ready (rs := [8]) (by kernel_rfl) (by simp) ?_
    refine AllReadyH.cons rfl (fun K hK => ?_) AllReadyH.nil
    go_simp
    go_at_call 12
    refine (lmTable_same C R ba P bc ((mergeL (turnL l) c r g d).map blankC) ca Q cc _ HT4 HT3).mono ?_
    rintro e u4 ⟨rfl, hb⟩
    clear HT3 HT4
    go_wp2_with fail
    refine hK.out _ _ (hHeld.go hb) (fun hHeld => ?_)
    clear hK K
    (try simp only [Act.put, List.setIfInBounds_toArray, List.set_cons_zero, List.set_cons_succ])
    refine take_at 9 74 (.bool true) rfl rfl (by kernel_rfl) (by kernel_rfl) (by kernel_rfl) (fun _ _ _ h => h) (Or.inl ⟨by kernel_rfl, fun w' hS' => by go_simp⟩) hHeld ?_
    (try simp only [Act.put, List.setIfInBounds_toArray, List.set_cons_zero, List.set_cons_succ])
    refine take_at 10 2 (.bool true) rfl rfl (by kernel_rfl) (by kernel_rfl) (by kernel_rfl) (fun _ _ _ h => h) (Or.inl ⟨by kernel_rfl, fun w' hS' => by go_simp⟩) hHeld ?_
    (try simp only [Act.put, List.setIfInBounds_toArray, List.set_cons_zero, List.set_cons_succ])
    refine wpAnyH_done (by kernel_rfl) ?_ _
    refine NoPanic.normal ?_
    replace HH : Hid (Hold w [(Yb, #[.int .i64 C, .int .i64 R, .slice Ya Yn Yc], 25), (Xb, #[.int .i64 R, .int .i64 C, .slice Xa Xn Xc], 25), (Wb, #[.int .i64 R, .int .i64 C, .slice Wa Wn Wc], 25), (Tb, #[.int .i64 R, .int .i64 C, .slice a' n' c'], 25)] [(Ya, Yn, Yc, (mergeL (turnL l) c r g d)), (Ua, Un, Uc, (tL R C l)), (Xa, Xn, Xc, (mergeL l r c d g)), (Wa, Wn, Wc, (mergeL l r c d g)), (a', n', c', l)] _) := hHeld
    clear hHeld
    go_wp2_with fail
    go_ret
    exact ⟨rfl, HH.out.1⟩
end Go.Proofs.Ytkgdocohdjebfaa
