import Derived.Test.YtkgdocohdjebfaaBD2
import Derived.Test.YtkgdocohdjebfaaBS1
import Derived.Test.YtkgdocohdjebfaaBA1
import Derived.Test.YtkgdocohdjebfaaBA2
import Derived.Test.YtkgdocohdjebfaaBA3
namespace Go.Proofs.Ytkgdocohdjebfaa
open Go.RowKit

set_option maxRecDepth 100000 in
set_option maxHeartbeats 8000000 in
theorem drawTableSplit_any (B : Nat) (a : Option Addr) (n cap : Nat) (zs : List Int) (w : World) (h : Byt B w a n cap zs) (hB : B ≤ w.heap.size) :
    Calls Try.prog 25 #[.slice a n cap] w fun e w' => (∃ (R C : Int) (a' : Option Addr) (n' c' : Nat) (l : List Cl) (at' : Int), e = .returned (.tuple #[.agg #[.int .i64 R, .int .i64 C, .slice a' n' c'], .int .i64 at']) ∧ Tab w' a' n' c' l ∧ TabSp R C l ∧ (-20 ≤ at' ∧ at' ≤ 40)) ∧ Below w.heap.size w w' := by
  have HY : Hid (Byt B w a n cap zs) := h
  clear h
  go_enter Try.func25, Try.ntmps25
  go_upto_region 1 with fail
  have B0 : Below w.heap.size w (w.alloc (.cells #[.int .i64 0, .int .i64 0, .slice none 0 0] 25)) := (Below.refl _ _).alloc (Nat.le_refl _) _
  have Z0 : RowAt (w.alloc (.cells #[.int .i64 0, .int .i64 0, .slice none 0 0] 25)) w.heap.size #[.int .i64 0, .int .i64 0, .slice none 0 0] 25 := rowAt_new _ _ _
  have HY0 : Hid (Byt B (w.alloc (.cells #[.int .i64 0, .int .i64 0, .slice none 0 0] 25)) a n cap zs) := HY.out.belowC B0 hB
  generalize (w.alloc (.cells #[.int .i64 0, .int .i64 0, .slice none 0 0] 25)) = v0 at B0 Z0 HY0 ⊢
  have s0 := B0.size
  have zz := Z0.lt
  go_wp2_with fail
  refine (l6Open_any B a n cap zs _ HY0.out (by omega)).mono ?_
  rintro e w1 ⟨rfl, hr1, hb1⟩
  have hlt := hr1.lt
  have HR1 : Hid (Rd B w1 v0.heap.size 0) := hr1
  clear hr1
  go_wp2_with fail
  refine (l71Grid_any B _ 0 _ HR1.out (by omega)).mono ?_
  rintro e w2 ⟨R, C, a', n', c', l, q, rfl, ⟨os, hX2⟩, hS2, hr2, hq2, hf2⟩
  go_upto_region 3 with fail
  have H0 := HoldR.first (R := R) (C := C) B0 Z0 hb1 hlt hf2 hr2 hX2
  generalize (w2.alloc (.cells #[.int .i64 R, .int .i64 C, .slice a' n' c'] 25)) = v3 at H0 ⊢
  obtain ⟨Tb, hTe⟩ : ∃ T, w2.heap.size = T := ⟨_, rfl⟩
  rw [hTe] at H0 ⊢
  obtain ⟨g, hge⟩ : ∃ g, v0.heap.size = g := ⟨_, rfl⟩
  rw [hge] at H0 ⊢
  have HH : Hid (HoldR w B g q w.heap.size Tb R C a' n' c' l v3) := H0
  have HS : Hid (TabSp R C l) := hS2
  clear H0 hTe hge hS2 hr2 hX2 hf2 hb1 Z0 B0 HY HY0 HR1 s0 zz hlt
  go_wp2_with fail
  go_loopw [6] (fun nv wr => ∃ (k q : Nat) (R1 C1 : Int) (a1 : Option Addr) (n1 c1 : Nat) (l1 : List Cl), k ≤ 4 ∧ nv = .int .i64 k ∧ q ≤ 700 + 800 * k ∧ TabSp R1 C1 l1 ∧ HoldR w B g q w.heap.size Tb R1 C1 a1 n1 c1 l1 wr) (fun nv _ => 4 - (intOf nv).toNat)
  case atStart => exact ⟨0, q, R, C, a', n', c', l, by omega, rfl, by omega, HS.out, HH.out⟩
  case round =>
    clear HH HS
    obtain ⟨k, q1, R1, C1, a1, n1, c1, l1, hk, rfl, hq1, hS1, hb⟩ := hrel
    have HH : Hid (HoldR w B g q1 w.heap.size Tb R1 C1 a1 n1 c1 l1 wr) := hb
    have HS : Hid (TabSp R1 C1 l1) := hS1
    have HN : Hid (n1 = l1.length) := hb.tab.1
    have hn26 : n1 ≤ 26 := by have := hb.tab.1; have := hS1.2.2.1; omega
    clear hb hS1
    by_cases hlk : k < 4
    · have hkb : (k : Int) < 4 := by omega
      go_wp2_with fail
      go_loopw [7] (fun iv wr => ∃ (i q : Nat), i ≤ n1 ∧ iv = .int .i64 i ∧ q ≤ 700 + 800 * k + i ∧ HoldR w B g q w.heap.size Tb R1 C1 a1 n1 c1 l1 wr) (fun iv _ => n1 - (intOf iv).toNat)
      case atStart => exact ⟨0, q1, Nat.zero_le _, rfl, by omega, HH.out⟩
      case round =>
        clear HH
        obtain ⟨i, q2, hi, rfl, hq2, hb⟩ := hrel
        have HH : Hid (HoldR w B g q2 w.heap.size Tb R1 C1 a1 n1 c1 l1 wr) := hb
        have t2 : wr.cell? ⟨Tb, 2, none⟩ = some (.slice a1 n1 c1) := hb.trow.cell 2
        clear hb
        by_cases hli : i < n1
        · have hib : (i : Int) < (n1 : Int) := by omega
          go_wp2_with fail
          refine (pick_any B g q2 16 _ HH.out.rd (by omega) (by omega) (by omega)).mono ?_
          rintro e u3 ⟨x, rfl, hx0, hx1, hr3, hg3⟩
          replace HH : Hid (HoldR w B g (q2 + 1) w.heap.size Tb R1 C1 a1 n1 c1 l1 u3) := HH.out.pick hg3 hr3
          clear t2 hr3 hg3
          by_cases hx : x = 0
          · subst hx
            go_wp2_with fail
            refine (l71Grid_any B g (q2 + 1) _ HH.out.rd (by omega)).mono ?_
            rintro e u8 ⟨R2, C2, a2, n2, c2, l2, q8, rfl, ⟨os, hX8⟩, hS8, hr8, hq8, hf8⟩
            have HT8 : Hid (RowAt u8 Tb #[.int .i64 R1, .int .i64 C1, .slice a1 n1 c1] 25) := (HH.out.fr hf8 hr8).trow
            have HN8 : Hid (HoldR w B g q8 w.heap.size Tb R2 C2 a2 n2 c2 l2 (u8.setRow Tb #[.int .i64 R2, .int .i64 C2, .slice a2 n2 c2])) := HH.out.next hf8 hr8 hX8
            have HS8 : Hid (TabSp R2 C2 l2) := hS8
            clear hX8 hf8 hr8 hS8
            go_wp2_with (refine wpList_store_row rfl 25 (.tmp 5) (.tmp 45) rfl Tb #[.int .i64 R2, .int .i64 C2, .slice a2 n2 c2] rfl rfl 25 _ HT8.out tab_info rfl (cells3_one _ _ _ _ _) ?_)
            go_roundw
            case rel => exact ⟨k + 1, q8, R2, C2, a2, n2, c2, l2, by omega, by go_num, by omega, HS8.out, HN8.out⟩
            case measure => simp [intOf]; omega
          · have hxp : 0 < x := by omega
            have hil : i < l1.length := by have := HN.out; omega
            have t2 : u3.cell? ⟨Tb, 2, none⟩ = some (.slice a1 n1 c1) := HH.out.trow.cell 2
            have hT := HH.out.tab
            have hnc := hT.2.1
            have hcm := hT.2.2.1
            unfold maxLen at hcm
            rcases hT.2.2.2 with e0 | ⟨b, off, rfl, hbv, hcl⟩
            · rw [e0] at hil
              exact absurd hil (by simp)
            obtain ⟨-, -, d2, d3, -⟩ := hcl i hil
            obtain ⟨D, hD⟩ : ∃ D, (l1.getD i cl0).2.2.1 = D := ⟨_, rfl⟩
            obtain ⟨G, hG⟩ : ∃ D, (l1.getD i cl0).2.2.2.1 = D := ⟨_, rfl⟩
            rw [hD] at d2
            rw [hG] at d3
            have hi0 : (0 : Int) ≤ (i : Int) := by omega
            clear hcl hT hD hG
            go_upto_region 9 with fail
            go_quiet (fail)
            replace HH : Hid (HoldR w B g (q2 + 1) w.heap.size Tb R1 C1 (some ⟨b, off, none⟩) n1 c1 l1 (u3.drewN nq)) := HH.out.go (below_drewN (Below.refl _ _) _)
            generalize u3.drewN nq = u4 at HH ⊢
            clear d2 d3 t2
            by_cases hm : 1 < wrap64 (D * G)
            · go_wp2_with (first | (refine wpList_load_row rfl 25 (.tmp 5) rfl Tb rfl 25 #[.int .i64 R1, .int .i64 C1, .slice (some ⟨b, off, none⟩) n1 c1] (0, 0) _ HH.out.trow Try.underlying25 rfl tab_info ?_) | (refine wpList_store_row rfl 25 (.tmp 2) (.tmp 42) rfl w.heap.size #[.int .i64 R1, .int .i64 C1, .slice (some ⟨b, off, none⟩) n1 c1] rfl rfl 25 _ HH.out.zrow tab_info rfl (cells3_one _ _ _ _ _) ?_))
              refine bodyPost_ret (v := .tuple #[.agg #[.int .i64 R1, .int .i64 C1, .slice (some ⟨b, off, none⟩) n1 c1], .int .i64 i]) ?_ rfl ⟨⟨R1, C1, some ⟨b, off, none⟩, n1, c1, l1, i, rfl, HH.out.out.1, HS.out, by omega⟩, HH.out.out.2.2⟩
              rw [results_cell_tmp rfl]
              simp [asAddr, Result.andThen, run_tabOf HH.out.out.2.1]
            · go_wp2_with fail
              go_roundw
              case rel => exact ⟨i + 1, q2 + 1, by omega, by go_num, by omega, HH.out⟩
              case measure => simp [intOf]; omega
        · have hib : ¬ (i : Int) < (n1 : Int) := by omega
          go_wp2_with fail
          refine (l71Grid_any B g q2 _ HH.out.rd (by omega)).mono ?_
          rintro e u8 ⟨R2, C2, a2, n2, c2, l2, q8, rfl, ⟨os, hX8⟩, hS8, hr8, hq8, hf8⟩
          have HT8 : Hid (RowAt u8 Tb #[.int .i64 R1, .int .i64 C1, .slice a1 n1 c1] 25) := (HH.out.fr hf8 hr8).trow
          have HN8 : Hid (HoldR w B g q8 w.heap.size Tb R2 C2 a2 n2 c2 l2 (u8.setRow Tb #[.int .i64 R2, .int .i64 C2, .slice a2 n2 c2])) := HH.out.next hf8 hr8 hX8
          have HS8 : Hid (TabSp R2 C2 l2) := hS8
          clear hX8 hf8 hr8 hS8
          go_wp2_with (refine wpList_store_row rfl 25 (.tmp 5) (.tmp 45) rfl Tb #[.int .i64 R2, .int .i64 C2, .slice a2 n2 c2] rfl rfl 25 _ HT8.out tab_info rfl (cells3_one _ _ _ _ _) ?_)
          go_roundw
          case rel => exact ⟨k + 1, q8, R2, C2, a2, n2, c2, l2, by omega, by go_num, by omega, HS8.out, HN8.out⟩
          case measure => simp [intOf]; omega
    · have hkb : ¬ (k : Int) < 4 := by omega
      go_upto_region 12 with fail
      refine wp_region_noPanic ?_
      refine wp_region_held_drew (S := fun w' => RowAt w' Tb #[.int .i64 R1, .int .i64 C1, .slice a1 n1 c1] 25) (by kernel_rfl) HH.out.trow (fun hHeld => ?_)
      refine take_at 0 46 (.agg #[.int .i64 R1, .int .i64 C1, .slice a1 n1 c1]) rfl rfl (by kernel_rfl) (by kernel_rfl) (by kernel_rfl) (fun _ _ _ h => h) (yieldsIf_load_row (by kernel_rfl) 25 (.tmp 5) rfl Tb rfl 25 #[.int .i64 R1, .int .i64 C1, .slice a1 n1 c1] (0, 0) _ (fun w' h => h) Try.underlying25 rfl tab_info) hHeld ?_
      (try simp only [Act.put, List.setIfInBounds_toArray, List.set_cons_zero, List.set_cons_succ])
      refine take_at 1 47 (.pointer (some ⟨g, 0, none⟩)) rfl rfl (by kernel_rfl) (by kernel_rfl) (by kernel_rfl) (fun _ _ _ h => h) (Or.inl ⟨by kernel_rfl, fun w' hS' => by go_simp⟩) hHeld ?_
      (try simp only [Act.put, List.setIfInBounds_toArray, List.set_cons_zero, List.set_cons_succ])
      refine take_at 2 48 (.pointer (some ⟨Tb, 2, none⟩)) rfl rfl (by kernel_rfl) (by kernel_rfl) (by kernel_rfl) (fun _ _ _ h => h) (Or.inl ⟨by kernel_rfl, fun w' hS' => by go_simp⟩) hHeld ?_
      (try simp only [Act.put, List.setIfInBounds_toArray, List.set_cons_zero, List.set_cons_succ])
      refine take_at 3 49 (.slice a1 n1 c1) rfl rfl (by kernel_rfl) (by kernel_rfl) (by kernel_rfl) (fun _ _ _ h => h) (Or.inl ⟨by kernel_rfl, fun w' hS' => by have hc := RowAt.cell hS' 2; go_simp⟩) hHeld ?_
      (try simp only [Act.put, List.setIfInBounds_toArray, List.set_cons_zero, List.set_cons_succ])
      refine take_at 4 50 (.int .i64 n1) rfl rfl (by kernel_rfl) (by kernel_rfl) (by kernel_rfl) (fun _ _ _ h => h) (Or.inl ⟨by kernel_rfl, fun w' hS' => by go_simp⟩) hHeld ?_
      (try simp only [Act.put, List.setIfInBounds_toArray, List.set_cons_zero, List.set_cons_succ])
      refine take_at 5 51 (.int .i64 ((n1 : Int) + 2)) rfl rfl (by kernel_rfl) (by kernel_rfl) (by kernel_rfl) (fun _ _ _ h => h) (Or.inl ⟨by kernel_rfl, fun w' hS' => by go_simp; rw [IntKind.wrap_i64]; omega⟩) hHeld ?_
      (try simp only [Act.put, List.setIfInBounds_toArray, List.set_cons_zero, List.set_cons_succ])
      replace HH : Hid (HoldR w B g q1 w.heap.size Tb R1 C1 a1 n1 c1 l1 wr.drew) := HH.out.go ((Below.refl _ _).drew)
      generalize wr.drew = u4 at HH hHeld ⊢
      refine wpAnyH_ready (rs := [6]) (by kernel_rfl) (by simp) ?_
      refine AllReadyH.cons rfl (fun K hK => ?_) AllReadyH.nil
      go_simp
      go_at_call 41
      refine (pick_any B g q1 ((n1 : Int) + 2) _ HH.out.rd (by omega) (by omega) (by omega)).mono ?_
      rintro e u5 ⟨z, rfl, hz0, hz1, hr5, hg5⟩
      replace HH : Hid (HoldR w B g (q1 + 1) w.heap.size Tb R1 C1 a1 n1 c1 l1 u5) := HH.out.pick hg5 hr5
      clear hr5 hg5 hHeld
      go_wp2_with fail
      refine hK.out _ _ HH.out.trow (fun hHeld => ?_)
      clear hK K
      (try simp only [Act.put, List.setIfInBounds_toArray, List.set_cons_zero, List.set_cons_succ])
      obtain ⟨y, HYy⟩ : ∃ y, Hid (z - 1 = y) := ⟨_, rfl⟩
      refine take_at 7 53 (.int .i64 y) rfl rfl (by kernel_rfl) (by kernel_rfl) (by kernel_rfl) (fun _ _ _ h => h) (Or.inl ⟨by kernel_rfl, fun w' hS' => by go_simp; have e := HYy.out; rw [IntKind.wrap_i64, e]; omega⟩) hHeld ?_
      (try simp only [Act.put, List.setIfInBounds_toArray, List.set_cons_zero, List.set_cons_succ])
      refine wpAnyH_ready (rs := [8]) (by kernel_rfl) (by simp) ?_
      refine AllReadyH.cons rfl (fun K hK => ?_) AllReadyH.nil
      rw [if_pos (by kernel_rfl)]
      refine wp_store_row 25 (.tmp 2) (.tmp 46) rfl w.heap.size #[.int .i64 R1, .int .i64 C1, .slice a1 n1 c1] rfl rfl 25 _ HH.out.zrow tab_info rfl (cells3_one _ _ _ _ _) ?_
      have HE : Hid (Tab (u5.setRow w.heap.size #[.int .i64 R1, .int .i64 C1, .slice a1 n1 c1]) a1 n1 c1 l1 ∧ RowAt (u5.setRow w.heap.size #[.int .i64 R1, .int .i64 C1, .slice a1 n1 c1]) w.heap.size #[.int .i64 R1, .int .i64 C1, .slice a1 n1 c1] 25 ∧ Below w.heap.size w (u5.setRow w.heap.size #[.int .i64 R1, .int .i64 C1, .slice a1 n1 c1])) := HH.out.out
      have hne : Tb ≠ w.heap.size := by have := HH.out.gt; have := HH.out.lo; omega
      refine hK.out _ _ (RowAt.setRowOther hHeld _ _ hne) (fun hHeld => ?_)
      clear hK K
      simp only [Act.put]
      generalize (u5.setRow w.heap.size #[.int .i64 R1, .int .i64 C1, .slice a1 n1 c1]) = w9 at HE hHeld ⊢
      refine take_at 9 3 (.int .i64 y) rfl rfl (by kernel_rfl) (by kernel_rfl) (by kernel_rfl) (fun _ _ _ h => h) (Or.inl ⟨by kernel_rfl, fun w' hS' => by go_simp⟩) hHeld ?_
      (try simp only [Act.put, List.setIfInBounds_toArray])
      refine wpAnyH_done (by kernel_rfl) ?_ _
      refine NoPanic.normal ?_
      go_wp2_with fail
      refine bodyPost_ret (v := .tuple #[.agg #[.int .i64 R1, .int .i64 C1, .slice a1 n1 c1], .int .i64 y]) ?_ rfl ⟨⟨R1, C1, a1, n1, c1, l1, y, rfl, HE.out.1, HS.out, by have := HYy.out; omega⟩, HE.out.2.2⟩
      rw [results_cell_tmp rfl]
      simp [asAddr, Result.andThen, run_tabOf HE.out.2.1]
end Go.Proofs.Ytkgdocohdjebfaa
namespace Go.Proofs.Ytkgdocohdjebfaa
open Go.RowKit

set_option maxRecDepth 100000 in
set_option maxHeartbeats 8000000 in
theorem lawTabSplit_walk (a : Option Addr) (n cap : Nat) (zs : List Int) (w : World) (h : Byt w.heap.size w a n cap zs) :
    Calls Try.prog 6 #[.slice a n cap] w fun e w' => e = .returned (.bool true) ∧ Below w.heap.size w w' := by
  have HY : Hid (Byt w.heap.size w a n cap zs) := h
  have hc := h.2.1
  have hm := h.2.2.1
  unfold maxLen at hm
  clear h
  by_cases hn : 1048576 < n
  · have hd : decide ((1048576 : Int) < (n : Int)) = true := by simp; omega
    go_enter Try.func6, Try.ntmps6
    go_wp2_with fail
    go_ret
    exact ⟨rfl, Below.refl _ _⟩
  have hd : decide ((1048576 : Int) < (n : Int)) = false := by simp; omega
  go_enter Try.func6, Try.ntmps6
  go_upto_region 4 with (go_at_call 25; refine (drawTableSplit_any w.heap.size a n cap zs _ HY.out (Nat.le_refl _)).mono ?_; rintro e w1 ⟨⟨R, C, a', n', c', l, t', rfl, hT1, hS1, hat⟩, hb1⟩)
  have H0 := Hold.first hb1 hT1 #[.int .i64 R, .int .i64 C, .slice a' n' c'] 25
  generalize (w1.alloc (.cells #[.int .i64 R, .int .i64 C, .slice a' n' c'] 25)) = v0 at H0 ⊢
  obtain ⟨Tb, hTe⟩ : ∃ T, w1.heap.size = T := ⟨_, rfl⟩
  rw [hTe] at H0 ⊢
  have HH : Hid (Hold w [(Tb, #[.int .i64 R, .int .i64 C, .slice a' n' c'], 25)] [(a', n', c', l)] v0) := H0
  obtain ⟨hRb, hCb, hLb, hXb⟩ := hS1
  have HLX : Hid (∀ z ∈ l, z.2.2.2.2.length ≤ 25) := hXb
  clear hT1 hb1 H0 hTe hXb
  obtain ⟨can, HC⟩ : ∃ o, Hid (splitB R C l t' = o) := ⟨_, rfl⟩
  cases can
  · go_upto_region 5 with (first | (refine wpList_load_row rfl 25 (.tmp 3) rfl Tb rfl 25 #[.int .i64 R, .int .i64 C, .slice a' n' c'] (0, 0) _ (HH.out.row 0 rfl) Try.underlying25 rfl tab_info ?_) | (go_at_call 26; refine (specTableSplit_any R C t' a' n' c' l _ (HH.out.tab 0 rfl)).mono ?_; intro e w1' hr; obtain ⟨hr1, hb⟩ := hr; obtain ⟨Wa, Wn, Wc, rfl, hT⟩ := tabRes_f HC.out hr1; clear hr1))
    have H0 := HH.out.res hb hT #[.int .i64 0, .int .i64 0, .slice Wa Wn Wc] 25
    generalize (w1'.alloc (.cells #[.int .i64 0, .int .i64 0, .slice Wa Wn Wc] 25)) = v1 at H0 ⊢
    obtain ⟨Wb, hTe⟩ : ∃ T, w1'.heap.size = T := ⟨_, rfl⟩
    rw [hTe] at H0 ⊢
    replace HH : Hid (Hold w [(Wb, #[.int .i64 0, .int .i64 0, .slice Wa Wn Wc], 25), (Tb, #[.int .i64 R, .int .i64 C, .slice a' n' c'], 25)] [(Wa, Wn, Wc, []), (a', n', c', l)] v1) := H0
    clear hT hb H0 hTe
    go_upto_region 6 with (first | (refine wpList_load_row rfl 25 (.tmp 5) rfl Wb rfl 25 #[.int .i64 0, .int .i64 0, .slice Wa Wn Wc] (0, 0) _ (HH.out.row 0 rfl) Try.underlying25 rfl tab_info ?_) | (refine wpList_load_row rfl 25 (.tmp 3) rfl Tb rfl 25 #[.int .i64 R, .int .i64 C, .slice a' n' c'] (0, 0) _ (HH.out.row 1 rfl) Try.underlying25 rfl tab_info ?_) | (go_at_call 27; refine (implTableSplit_any R C t' a' n' c' l _ (HH.out.tab 1 rfl)).mono ?_; intro e w2' hr; obtain ⟨hr1, hb⟩ := hr; obtain ⟨Xa, Xn, Xc, rfl, hT⟩ := tabRes_f HC.out hr1; clear hr1))
    have H0 := HH.out.res hb hT #[.int .i64 0, .int .i64 0, .slice Xa Xn Xc] 25
    generalize (w2'.alloc (.cells #[.int .i64 0, .int .i64 0, .slice Xa Xn Xc] 25)) = v2 at H0 ⊢
    obtain ⟨Xb, hTe⟩ : ∃ T, w2'.heap.size = T := ⟨_, rfl⟩
    rw [hTe] at H0 ⊢
    replace HH : Hid (Hold w [(Xb, #[.int .i64 0, .int .i64 0, .slice Xa Xn Xc], 25), (Wb, #[.int .i64 0, .int .i64 0, .slice Wa Wn Wc], 25), (Tb, #[.int .i64 R, .int .i64 C, .slice a' n' c'], 25)] [(Xa, Xn, Xc, []), (Wa, Wn, Wc, []), (a', n', c', l)] v2) := H0
    clear hT hb H0 hTe
    go_wp2_with (first | (refine wpList_load_rowG (by rfl) 25 (.tmp 7) rfl Xb rfl 25 #[.int .i64 0, .int .i64 0, .slice Xa Xn Xc] (0, 0) _ (HH.out.row 0 rfl) Try.underlying25 rfl tab_info ?_) | (refine wpList_load_rowG (by rfl) 25 (.tmp 5) rfl Wb rfl 25 #[.int .i64 0, .int .i64 0, .slice Wa Wn Wc] (0, 0) _ (HH.out.row 1 rfl) Try.underlying25 rfl tab_info ?_) | (refine wpList_load_rowG (by rfl) 25 (.tmp 3) rfl Tb rfl 25 #[.int .i64 R, .int .i64 C, .slice a' n' c'] (0, 0) _ (HH.out.row 2 rfl) Try.underlying25 rfl tab_info ?_) | (go_at_call 12; refine (lmTable_same (0) (0) Xa Xn Xc [] Wa Wn Wc _ (HH.out.tab 0 rfl) (HH.out.tab 1 rfl)).mono ?_; rintro e uu ⟨rfl, hb⟩; replace HH : Hid (Hold w [(Xb, #[.int .i64 0, .int .i64 0, .slice Xa Xn Xc], 25), (Wb, #[.int .i64 0, .int .i64 0, .slice Wa Wn Wc], 25), (Tb, #[.int .i64 R, .int .i64 C, .slice a' n' c'], 25)] [(Xa, Xn, Xc, []), (Wa, Wn, Wc, []), (a', n', c', l)] uu) := HH.out.go hb; clear hb))
    go_ret
    exact ⟨rfl, HH.out.1⟩
  · obtain ⟨p, r, c, d, g, tx, rfl, hp, HOK, E, hd1, hg1, hrR, hcC, hdg⟩ := split_data HC.out
    replace HOK : Hid (okB R C l = true) := HOK
    replace E : Hid (l.getD p cl0 = ((r : Int), (c : Int), (d : Int), (g : Int), tx)) := E
    obtain ⟨hR1, hC1, -, -⟩ := gridP_of_okB HOK.out
    obtain ⟨k, hk, HAT, EK⟩ := split_at HOK.out hp E.out
    replace HAT : Hid (atN R C (splitL l p) r c = (k : Int)) := HAT
    replace EK : Hid ((splitL l p).getD k cl0 = ((r : Int), (c : Int), 1, 1, tx)) := EK
    have HOS : Hid (okB R C (splitL l p) = true) := ok_split HOK.out hp E.out
    obtain ⟨G, HG⟩ : ∃ G : Nat, Hid (d * g = G) := ⟨_, rfl⟩
    have hGb : G ≤ 25 := by
      have h1 := HG.out
      have h2 : d * g ≤ 5 * 5 := Nat.mul_le_mul (by omega) (by omega)
      omega
    have HGI : Hid ((d : Int) * (g : Int) = (G : Int)) := by
      show (d : Int) * (g : Int) = (G : Int)
      rw [← HG.out, Int.natCast_mul]
    go_upto_region 5 with (first | (refine wpList_load_row rfl 25 (.tmp 3) rfl Tb rfl 25 #[.int .i64 R, .int .i64 C, .slice a' n' c'] (0, 0) _ (HH.out.row 0 rfl) Try.underlying25 rfl tab_info ?_) | (go_at_call 26; refine (specTableSplit_any R C p a' n' c' l _ (HH.out.tab 0 rfl)).mono ?_; intro e w1' hr; obtain ⟨hr1, hb⟩ := hr; obtain ⟨Wa, Wn, Wc, rfl, hT⟩ := tabRes_t HC.out hr1; clear hr1))
    have H0 := HH.out.res hb hT #[.int .i64 R, .int .i64 C, .slice Wa Wn Wc] 25
    generalize (w1'.alloc (.cells #[.int .i64 R, .int .i64 C, .slice Wa Wn Wc] 25)) = v1 at H0 ⊢
    obtain ⟨Wb, hTe⟩ : ∃ T, w1'.heap.size = T := ⟨_, rfl⟩
    rw [hTe] at H0 ⊢
    replace HH : Hid (Hold w [(Wb, #[.int .i64 R, .int .i64 C, .slice Wa Wn Wc], 25), (Tb, #[.int .i64 R, .int .i64 C, .slice a' n' c'], 25)] [(Wa, Wn, Wc, (splitL l p)), (a', n', c', l)] v1) := H0
    clear hT hb H0 hTe
    go_upto_region 6 with (first | (refine wpList_load_row rfl 25 (.tmp 5) rfl Wb rfl 25 #[.int .i64 R, .int .i64 C, .slice Wa Wn Wc] (0, 0) _ (HH.out.row 0 rfl) Try.underlying25 rfl tab_info ?_) | (refine wpList_load_row rfl 25 (.tmp 3) rfl Tb rfl 25 #[.int .i64 R, .int .i64 C, .slice a' n' c'] (0, 0) _ (HH.out.row 1 rfl) Try.underlying25 rfl tab_info ?_) | (go_at_call 27; refine (implTableSplit_any R C p a' n' c' l _ (HH.out.tab 1 rfl)).mono ?_; intro e w2' hr; obtain ⟨hr1, hb⟩ := hr; obtain ⟨Xa, Xn, Xc, rfl, hT⟩ := tabRes_t HC.out hr1; clear hr1))
    have H0 := HH.out.res hb hT #[.int .i64 R, .int .i64 C, .slice Xa Xn Xc] 25
    generalize (w2'.alloc (.cells #[.int .i64 R, .int .i64 C, .slice Xa Xn Xc] 25)) = v2 at H0 ⊢
    obtain ⟨Xb, hTe⟩ : ∃ T, w2'.heap.size = T := ⟨_, rfl⟩
    rw [hTe] at H0 ⊢
    replace HH : Hid (Hold w [(Xb, #[.int .i64 R, .int .i64 C, .slice Xa Xn Xc], 25), (Wb, #[.int .i64 R, .int .i64 C, .slice Wa Wn Wc], 25), (Tb, #[.int .i64 R, .int .i64 C, .slice a' n' c'], 25)] [(Xa, Xn, Xc, (splitL l p)), (Wa, Wn, Wc, (splitL l p)), (a', n', c', l)] v2) := H0
    clear hT hb H0 hTe
    go_upto_region 8 with (first | (refine wpList_load_rowG (by rfl) 25 (.tmp 7) rfl Xb rfl 25 #[.int .i64 R, .int .i64 C, .slice Xa Xn Xc] (0, 0) _ (HH.out.row 0 rfl) Try.underlying25 rfl tab_info ?_) | (refine wpList_load_rowG (by rfl) 25 (.tmp 5) rfl Wb rfl 25 #[.int .i64 R, .int .i64 C, .slice Wa Wn Wc] (0, 0) _ (HH.out.row 1 rfl) Try.underlying25 rfl tab_info ?_) | (refine wpList_load_rowG (by rfl) 25 (.tmp 3) rfl Tb rfl 25 #[.int .i64 R, .int .i64 C, .slice a' n' c'] (0, 0) _ (HH.out.row 2 rfl) Try.underlying25 rfl tab_info ?_) | (go_at_call 12; refine (lmTable_same (R) (C) Xa Xn Xc (splitL l p) Wa Wn Wc _ (HH.out.tab 0 rfl) (HH.out.tab 1 rfl)).mono ?_; rintro e uu ⟨rfl, hb⟩; replace HH : Hid (Hold w [(Xb, #[.int .i64 R, .int .i64 C, .slice Xa Xn Xc], 25), (Wb, #[.int .i64 R, .int .i64 C, .slice Wa Wn Wc], 25), (Tb, #[.int .i64 R, .int .i64 C, .slice a' n' c'], 25)] [(Xa, Xn, Xc, (splitL l p)), (Wa, Wn, Wc, (splitL l p)), (a', n', c', l)] uu) := HH.out.go hb; clear hb))
    have HTb := HH.out.tab 2 rfl
    have hTn := HTb.1
    have hTc := HTb.2.1
    have hTm := HTb.2.2.1
    unfold maxLen at hTm
    rcases HTb.2.2.2 with e0 | ⟨b0, o0, rfl, hbv, hcl⟩
    · rw [e0] at hp
      exact absurd hp (by simp)
    obtain ⟨k0, k1, k2, k3, xa, xn, xc, k4, hx4⟩ := hcl p hp
    rw [E.out] at k0 k1 k2 k3 hx4
    have HX4 : Hid (Txt uu xa xn xc tx) := hx4
    have hp0 : (0 : Int) ≤ (p : Int) := by omega
    have hp1 : (p : Int) < (n' : Int) := by omega
    have HTN : Hid (n' = l.length) := hTn
    have qT : uu.cell? ⟨Tb, 2, none⟩ = some (.slice (some ⟨b0, o0, none⟩) n' c') := (HH.out.row 2 rfl).cell 2
    clear hcl hx4 HTb hTn
    go_upto_region 9 with fail
    clear k0 k1 k2 k3 k4 qT
    have H0 := HH.out.alloc #[.int .i64 r, .int .i64 c, .int .i64 d, .int .i64 g, .slice xa xn xc] 42
    have HX5 := HX4.out.below ((Below.refl uu.heap.size uu).alloc (Nat.le_refl _) (.cells #[.int .i64 r, .int .i64 c, .int .i64 d, .int .i64 g, .slice xa xn xc] 42))
    generalize (uu.alloc (.cells #[.int .i64 r, .int .i64 c, .int .i64 d, .int .i64 g, .slice xa xn xc] 42)) = v8 at H0 HX5 ⊢
    obtain ⟨Cb, hTe⟩ : ∃ T, uu.heap.size = T := ⟨_, rfl⟩
    rw [hTe] at H0 ⊢
    replace HH : Hid (Hold w [(Cb, #[.int .i64 r, .int .i64 c, .int .i64 d, .int .i64 g, .slice xa xn xc], 42), (Xb, #[.int .i64 R, .int .i64 C, .slice Xa Xn Xc], 25), (Wb, #[.int .i64 R, .int .i64 C, .slice Wa Wn Wc], 25), (Tb, #[.int .i64 R, .int .i64 C, .slice (some ⟨b0, o0, none⟩) n' c'], 25)] [(Xa, Xn, Xc, (splitL l p)), (Wa, Wn, Wc, (splitL l p)), ((some ⟨b0, o0, none⟩), n', c', l)] v8) := H0
    replace HX4 : Hid (Txt v8 xa xn xc tx) := HX5
    have q0 : v8.cell? ⟨Cb, 0, none⟩ = some (.int .i64 r) := (HH.out.row 0 rfl).cell 0
    have q1 : v8.cell? ⟨Cb, 1, none⟩ = some (.int .i64 c) := (HH.out.row 0 rfl).cell 1
    clear H0 hTe HX5
    go_upto_region 10 with (first | (refine wpList_load_row rfl 25 (.tmp 7) rfl Xb rfl 25 #[.int .i64 R, .int .i64 C, .slice Xa Xn Xc] (0, 0) _ (HH.out.row 1 rfl) Try.underlying25 rfl tab_info ?_) | (refine wpList_load_row rfl 25 (.tmp 5) rfl Wb rfl 25 #[.int .i64 R, .int .i64 C, .slice Wa Wn Wc] (0, 0) _ (HH.out.row 2 rfl) Try.underlying25 rfl tab_info ?_) | (refine wpList_load_row rfl 25 (.tmp 3) rfl Tb rfl 25 #[.int .i64 R, .int .i64 C, .slice (some ⟨b0, o0, none⟩) n' c'] (0, 0) _ (HH.out.row 3 rfl) Try.underlying25 rfl tab_info ?_) | (go_at_call 20; refine (implTableAt_is HAT.out (HH.out.tab 0 rfl)).mono ?_; rintro e u9 ⟨rfl, hb⟩; replace HX4 : Hid (Txt u9 xa xn xc tx) := HX4.out.below hb; replace HH : Hid (Hold w [(Cb, #[.int .i64 r, .int .i64 c, .int .i64 d, .int .i64 g, .slice xa xn xc], 42), (Xb, #[.int .i64 R, .int .i64 C, .slice Xa Xn Xc], 25), (Wb, #[.int .i64 R, .int .i64 C, .slice Wa Wn Wc], 25), (Tb, #[.int .i64 R, .int .i64 C, .slice (some ⟨b0, o0, none⟩) n' c'], 25)] [(Xa, Xn, Xc, (splitL l p)), (Wa, Wn, Wc, (splitL l p)), ((some ⟨b0, o0, none⟩), n', c', l)] u9) := HH.out.go hb; clear hb q0 q1))
    have HTx := HH.out.tab 0 rfl
    have hXn := HTx.1
    have hXc := HTx.2.1
    have hXm := HTx.2.2.1
    unfold maxLen at hXm
    rcases HTx.2.2.2 with e0 | ⟨b2, o2, rfl, hbv2, hcl⟩
    · rw [e0] at hk
      exact absurd hk (by simp)
    obtain ⟨-, -, j2, j3, ya, yn, yc, j4, hy4⟩ := hcl k hk
    rw [EK.out] at j2 j3 hy4
    have HY4 : Hid (Txt u9 ya yn yc tx) := hy4
    have hk0 : (0 : Int) ≤ (k : Int) := by omega
    have hk1 : (k : Int) < (Xn : Int) := by omega
    have HLN : Hid ((Xn : Int) = (n' : Int) + (G : Int) - 1) := by
      show (Xn : Int) = (n' : Int) + (G : Int) - 1
      have h1 := splitL_len (l := l) (p := p) E.out hd1 hg1
      have h2 := HTN.out
      have h3 := HG.out
      omega
    have HJ2 : Hid (u9.cell? ⟨b2, o2 + k * 5 + 2, none⟩ = some (.int .i64 1)) := j2
    have HJ3 : Hid (u9.cell? ⟨b2, o2 + k * 5 + 3, none⟩ = some (.int .i64 1)) := j3
    have HJ4 : Hid (u9.cell? ⟨b2, o2 + k * 5 + 4, none⟩ = some (.slice ya yn yc)) := j4
    have hn26 : n' ≤ 26 := by have := HTN.out; omega
    clear hcl hy4 HTx hXn j2 j3 j4
    refine wp_region_noPanic ?_
    refine wp_region_held_drew (S := fun w' => Hold w [(Cb, #[.int .i64 r, .int .i64 c, .int .i64 d, .int .i64 g, .slice xa xn xc], 42), (Xb, #[.int .i64 R, .int .i64 C, .slice (some ⟨b2, o2, none⟩) Xn Xc], 25), (Wb, #[.int .i64 R, .int .i64 C, .slice Wa Wn Wc], 25), (Tb, #[.int .i64 R, .int .i64 C, .slice (some ⟨b0, o0, none⟩) n' c'], 25)] [((some ⟨b2, o2, none⟩), Xn, Xc, (splitL l p)), (Wa, Wn, Wc, (splitL l p)), ((some ⟨b0, o0, none⟩), n', c', l)] w' ∧ w'.cell? ⟨b2, o2 + k * 5 + 2, none⟩ = some (.int .i64 1) ∧ w'.cell? ⟨b2, o2 + k * 5 + 3, none⟩ = some (.int .i64 1) ∧ w'.cell? ⟨b2, o2 + k * 5 + 4, none⟩ = some (.slice ya yn yc)) (by kernel_rfl) ⟨HH.out.drew, HJ2.out, HJ3.out, HJ4.out⟩ (fun hHeld => ?_)
    refine take_at 0 63 (.agg #[.int .i64 R, .int .i64 C, .slice (some ⟨b2, o2, none⟩) Xn Xc]) rfl rfl (by kernel_rfl) (by kernel_rfl) (by kernel_rfl) (fun _ _ _ h => h) (yieldsIf_load_row (by kernel_rfl) 25 (.tmp 7) rfl Xb rfl 25 #[.int .i64 R, .int .i64 C, .slice (some ⟨b2, o2, none⟩) Xn Xc] (0, 0) _ (fun w' h => h.1.row 1 rfl) Try.underlying25 rfl tab_info) hHeld ?_
    (try simp only [Act.put, List.setIfInBounds_toArray, List.set_cons_zero, List.set_cons_succ])
    have HY5 := HY4.out.below ((Below.refl u9.heap.size u9).drew)
    have HX5 := HX4.out.below ((Below.refl u9.heap.size u9).drew)
    have sd : u9.heap.size = u9.drew.heap.size := rfl
    generalize u9.drew = u10 at HY5 HX5 sd hHeld ⊢
    refine wpAnyH_ready (rs := [1]) (by kernel_rfl) (by simp) ?_
    refine AllReadyH.cons rfl (fun K hK => ?_) AllReadyH.nil
    go_simp
    go_at_call 23
    refine (implTableOk_is HOS.out (hHeld.1.tab 0 rfl)).mono ?_
    rintro e u11 ⟨rfl, hb⟩
    have HY6 : Hid (Txt u11 ya yn yc tx) := HY5.below hb
    have HX6 : Hid (Txt u11 xa xn xc tx) := HX5.below hb
    have s11 := hb.size
    clear HY5 HX5
    go_wp2_with fail
    refine hK.out _ _ ⟨hHeld.1.go hb, (hb.cell (p := ⟨b2, o2 + k * 5 + 2, none⟩) (by show b2 < _; omega)).trans hHeld.2.1, (hb.cell (p := ⟨b2, o2 + k * 5 + 3, none⟩) (by show b2 < _; omega)).trans hHeld.2.2.1, (hb.cell (p := ⟨b2, o2 + k * 5 + 4, none⟩) (by show b2 < _; omega)).trans hHeld.2.2.2⟩ (fun hHeld => ?_)
    clear hK K
    (try simp only [Act.put, List.setIfInBounds_toArray, List.set_cons_zero, List.set_cons_succ])
    refine take_at 2 65 (.bool true) rfl rfl (by kernel_rfl) (by kernel_rfl) (by kernel_rfl) (fun _ _ _ h => h) (Or.inl ⟨by kernel_rfl, fun w' hS' => by go_simp⟩) hHeld ?_
    (try simp only [Act.put, List.setIfInBounds_toArray, List.set_cons_zero, List.set_cons_succ])
    refine take_at 3 66 (.pointer (some ⟨Xb, 2, none⟩)) rfl rfl (by kernel_rfl) (by kernel_rfl) (by kernel_rfl) (fun _ _ _ h => h) (Or.inl ⟨by kernel_rfl, fun w' hS' => by go_simp⟩) hHeld ?_
    (try simp only [Act.put, List.setIfInBounds_toArray, List.set_cons_zero, List.set_cons_succ])
    refine take_at 4 67 (.slice (some ⟨b2, o2, none⟩) Xn Xc) rfl rfl (by kernel_rfl) (by kernel_rfl) (by kernel_rfl) (fun _ _ _ h => h) (Or.inl ⟨by kernel_rfl, fun w' hS' => by have hc := RowAt.cell (hS'.1.row 1 rfl) 2; go_simp⟩) hHeld ?_
    (try simp only [Act.put, List.setIfInBounds_toArray, List.set_cons_zero, List.set_cons_succ])
    refine take_at 5 68 (.int .i64 Xn) rfl rfl (by kernel_rfl) (by kernel_rfl) (by kernel_rfl) (fun _ _ _ h => h) (Or.inl ⟨by kernel_rfl, fun w' hS' => by go_simp⟩) hHeld ?_
    (try simp only [Act.put, List.setIfInBounds_toArray, List.set_cons_zero, List.set_cons_succ])
    refine take_at 6 69 (.pointer (some ⟨Tb, 2, none⟩)) rfl rfl (by kernel_rfl) (by kernel_rfl) (by kernel_rfl) (fun _ _ _ h => h) (Or.inl ⟨by kernel_rfl, fun w' hS' => by go_simp⟩) hHeld ?_
    (try simp only [Act.put, List.setIfInBounds_toArray, List.set_cons_zero, List.set_cons_succ])
    refine take_at 7 70 ((.slice (some ⟨b0, o0, none⟩) n' c')) rfl rfl (by kernel_rfl) (by kernel_rfl) (by kernel_rfl) (fun _ _ _ h => h) (Or.inl ⟨by kernel_rfl, fun w' hS' => by have hc := RowAt.cell (hS'.1.row 3 rfl) 2; go_simp⟩) hHeld ?_
    (try simp only [Act.put, List.setIfInBounds_toArray, List.set_cons_zero, List.set_cons_succ])
    refine take_at 8 71 (.int .i64 n') rfl rfl (by kernel_rfl) (by kernel_rfl) (by kernel_rfl) (fun _ _ _ h => h) (Or.inl ⟨by kernel_rfl, fun w' hS' => by go_simp⟩) hHeld ?_
    (try simp only [Act.put, List.setIfInBounds_toArray, List.set_cons_zero, List.set_cons_succ])
    refine take_at 9 72 (.pointer (some ⟨Cb, 2, none⟩)) rfl rfl (by kernel_rfl) (by kernel_rfl) (by kernel_rfl) (fun _ _ _ h => h) (Or.inl ⟨by kernel_rfl, fun w' hS' => by go_simp⟩) hHeld ?_
    (try simp only [Act.put, List.setIfInBounds_toArray, List.set_cons_zero, List.set_cons_succ])
    refine take_at 10 73 (.int .i64 d) rfl rfl (by kernel_rfl) (by kernel_rfl) (by kernel_rfl) (fun _ _ _ h => h) (Or.inl ⟨by kernel_rfl, fun w' hS' => by have hc := RowAt.cell (hS'.1.row 0 rfl) 2; go_simp⟩) hHeld ?_
    (try simp only [Act.put, List.setIfInBounds_toArray, List.set_cons_zero, List.set_cons_succ])
    refine take_at 11 74 (.pointer (some ⟨Cb, 3, none⟩)) rfl rfl (by kernel_rfl) (by kernel_rfl) (by kernel_rfl) (fun _ _ _ h => h) (Or.inl ⟨by kernel_rfl, fun w' hS' => by go_simp⟩) hHeld ?_
    (try simp only [Act.put, List.setIfInBounds_toArray, List.set_cons_zero, List.set_cons_succ])
    refine take_at 12 75 (.int .i64 g) rfl rfl (by kernel_rfl) (by kernel_rfl) (by kernel_rfl) (fun _ _ _ h => h) (Or.inl ⟨by kernel_rfl, fun w' hS' => by have hc := RowAt.cell (hS'.1.row 0 rfl) 3; go_simp⟩) hHeld ?_
    (try simp only [Act.put, List.setIfInBounds_toArray, List.set_cons_zero, List.set_cons_succ])
    refine take_at 13 76 (.int .i64 (G : Int)) rfl rfl (by kernel_rfl) (by kernel_rfl) (by kernel_rfl) (fun _ _ _ h => h) (Or.inl ⟨by kernel_rfl, fun w' hS' => by go_simp; rw [HGI.out, IntKind.wrap_i64]; omega⟩) hHeld ?_
    (try simp only [Act.put, List.setIfInBounds_toArray, List.set_cons_zero, List.set_cons_succ])
    refine take_at 14 77 (.int .i64 ((n' : Int) + (G : Int))) rfl rfl (by kernel_rfl) (by kernel_rfl) (by kernel_rfl) (fun _ _ _ h => h) (Or.inl ⟨by kernel_rfl, fun w' hS' => by go_simp; rw [IntKind.wrap_i64]; omega⟩) hHeld ?_
    (try simp only [Act.put, List.setIfInBounds_toArray, List.set_cons_zero, List.set_cons_succ])
    refine take_at 15 78 (.int .i64 ((n' : Int) + (G : Int) - 1)) rfl rfl (by kernel_rfl) (by kernel_rfl) (by kernel_rfl) (fun _ _ _ h => h) (Or.inl ⟨by kernel_rfl, fun w' hS' => by go_simp; rw [IntKind.wrap_i64]; omega⟩) hHeld ?_
    (try simp only [Act.put, List.setIfInBounds_toArray, List.set_cons_zero, List.set_cons_succ])
    refine take_at 16 79 (.bool true) rfl rfl (by kernel_rfl) (by kernel_rfl) (by kernel_rfl) (fun _ _ _ h => h) (Or.inl ⟨by kernel_rfl, fun w' hS' => by go_simp <;> (have e := HLN.out; omega)⟩) hHeld ?_
    (try simp only [Act.put, List.setIfInBounds_toArray, List.set_cons_zero, List.set_cons_succ])
    refine take_at 17 80 (.bool true) rfl rfl (by kernel_rfl) (by kernel_rfl) (by kernel_rfl) (fun _ _ _ h => h) (Or.inl ⟨by kernel_rfl, fun w' hS' => by go_simp⟩) hHeld ?_
    (try simp only [Act.put, List.setIfInBounds_toArray, List.set_cons_zero, List.set_cons_succ])
    refine take_at 18 81 (.bool true) rfl rfl (by kernel_rfl) (by kernel_rfl) (by kernel_rfl) (fun _ _ _ h => h) (Or.inl ⟨by kernel_rfl, fun w' hS' => by go_simp⟩) hHeld ?_
    (try simp only [Act.put, List.setIfInBounds_toArray, List.set_cons_zero, List.set_cons_succ])
    refine take_at 19 82 (.pointer (some ⟨Xb, 2, none⟩)) rfl rfl (by kernel_rfl) (by kernel_rfl) (by kernel_rfl) (fun _ _ _ h => h) (Or.inl ⟨by kernel_rfl, fun w' hS' => by go_simp⟩) hHeld ?_
    (try simp only [Act.put, List.setIfInBounds_toArray, List.set_cons_zero, List.set_cons_succ])
    refine take_at 20 83 (.slice (some ⟨b2, o2, none⟩) Xn Xc) rfl rfl (by kernel_rfl) (by kernel_rfl) (by kernel_rfl) (fun _ _ _ h => h) (Or.inl ⟨by kernel_rfl, fun w' hS' => by have hc := RowAt.cell (hS'.1.row 1 rfl) 2; go_simp⟩) hHeld ?_
    (try simp only [Act.put, List.setIfInBounds_toArray, List.set_cons_zero, List.set_cons_succ])
    refine take_at 21 84 (.int .i64 k) rfl rfl (by kernel_rfl) (by kernel_rfl) (by kernel_rfl) (fun _ _ _ h => h) (Or.inl ⟨by kernel_rfl, fun w' hS' => by go_simp⟩) hHeld ?_
    (try simp only [Act.put, List.setIfInBounds_toArray, List.set_cons_zero, List.set_cons_succ])
    refine take_at 22 85 (.pointer (some ⟨b2, o2 + k * 5, none⟩)) rfl rfl (by kernel_rfl) (by kernel_rfl) (by kernel_rfl) (fun _ _ _ h => h) (Or.inl ⟨by kernel_rfl, fun w' hS' => by go_simp⟩) hHeld ?_
    (try simp only [Act.put, List.setIfInBounds_toArray, List.set_cons_zero, List.set_cons_succ])
    refine take_at 23 86 (.pointer (some ⟨b2, o2 + k * 5 + 2, none⟩)) rfl rfl (by kernel_rfl) (by kernel_rfl) (by kernel_rfl) (fun _ _ _ h => h) (Or.inl ⟨by kernel_rfl, fun w' hS' => by go_simp⟩) hHeld ?_
    (try simp only [Act.put, List.setIfInBounds_toArray, List.set_cons_zero, List.set_cons_succ])
    refine take_at 24 87 (.int .i64 1) rfl rfl (by kernel_rfl) (by kernel_rfl) (by kernel_rfl) (fun _ _ _ h => h) (Or.inl ⟨by kernel_rfl, fun w' hS' => by have hc := hS'.2.1; go_simp⟩) hHeld ?_
    (try simp only [Act.put, List.setIfInBounds_toArray, List.set_cons_zero, List.set_cons_succ])
    refine take_at 25 88 (.pointer (some ⟨Xb, 2, none⟩)) rfl rfl (by kernel_rfl) (by kernel_rfl) (by kernel_rfl) (fun _ _ _ h => h) (Or.inl ⟨by kernel_rfl, fun w' hS' => by go_simp⟩) hHeld ?_
    (try simp only [Act.put, List.setIfInBounds_toArray, List.set_cons_zero, List.set_cons_succ])
    refine take_at 26 89 (.slice (some ⟨b2, o2, none⟩) Xn Xc) rfl rfl (by kernel_rfl) (by kernel_rfl) (by kernel_rfl) (fun _ _ _ h => h) (Or.inl ⟨by kernel_rfl, fun w' hS' => by have hc := RowAt.cell (hS'.1.row 1 rfl) 2; go_simp⟩) hHeld ?_
    (try simp only [Act.put, List.setIfInBounds_toArray, List.set_cons_zero, List.set_cons_succ])
    refine take_at 27 90 (.int .i64 k) rfl rfl (by kernel_rfl) (by kernel_rfl) (by kernel_rfl) (fun _ _ _ h => h) (Or.inl ⟨by kernel_rfl, fun w' hS' => by go_simp⟩) hHeld ?_
    (try simp only [Act.put, List.setIfInBounds_toArray, List.set_cons_zero, List.set_cons_succ])
    refine take_at 28 91 (.pointer (some ⟨b2, o2 + k * 5, none⟩)) rfl rfl (by kernel_rfl) (by kernel_rfl) (by kernel_rfl) (fun _ _ _ h => h) (Or.inl ⟨by kernel_rfl, fun w' hS' => by go_simp⟩) hHeld ?_
    (try simp only [Act.put, List.setIfInBounds_toArray, List.set_cons_zero, List.set_cons_succ])
    refine take_at 29 92 (.pointer (some ⟨b2, o2 + k * 5 + 3, none⟩)) rfl rfl (by kernel_rfl) (by kernel_rfl) (by kernel_rfl) (fun _ _ _ h => h) (Or.inl ⟨by kernel_rfl, fun w' hS' => by go_simp⟩) hHeld ?_
    (try simp only [Act.put, List.setIfInBounds_toArray, List.set_cons_zero, List.set_cons_succ])
    refine take_at 30 93 (.int .i64 1) rfl rfl (by kernel_rfl) (by kernel_rfl) (by kernel_rfl) (fun _ _ _ h => h) (Or.inl ⟨by kernel_rfl, fun w' hS' => by have hc := hS'.2.2.1; go_simp⟩) hHeld ?_
    (try simp only [Act.put, List.setIfInBounds_toArray, List.set_cons_zero, List.set_cons_succ])
    refine take_at 31 94 (.int .i64 1) rfl rfl (by kernel_rfl) (by kernel_rfl) (by kernel_rfl) (fun _ _ _ h => h) (Or.inl ⟨by kernel_rfl, fun w' hS' => by go_simp <;> rfl⟩) hHeld ?_
    (try simp only [Act.put, List.setIfInBounds_toArray, List.set_cons_zero, List.set_cons_succ])
    refine take_at 32 95 (.bool true) rfl rfl (by kernel_rfl) (by kernel_rfl) (by kernel_rfl) (fun _ _ _ h => h) (Or.inl ⟨by kernel_rfl, fun w' hS' => by go_simp⟩) hHeld ?_
    (try simp only [Act.put, List.setIfInBounds_toArray, List.set_cons_zero, List.set_cons_succ])
    refine take_at 33 96 (.bool true) rfl rfl (by kernel_rfl) (by kernel_rfl) (by kernel_rfl) (fun _ _ _ h => h) (Or.inl ⟨by kernel_rfl, fun w' hS' => by go_simp⟩) hHeld ?_
    (try simp only [Act.put, List.setIfInBounds_toArray, List.set_cons_zero, List.set_cons_succ])
    refine take_at 34 97 (.bool true) rfl rfl (by kernel_rfl) (by kernel_rfl) (by kernel_rfl) (fun _ _ _ h => h) (Or.inl ⟨by kernel_rfl, fun w' hS' => by go_simp⟩) hHeld ?_
    (try simp only [Act.put, List.setIfInBounds_toArray, List.set_cons_zero, List.set_cons_succ])
    refine take_at 35 98 (.pointer (some ⟨Xb, 2, none⟩)) rfl rfl (by kernel_rfl) (by kernel_rfl) (by kernel_rfl) (fun _ _ _ h => h) (Or.inl ⟨by kernel_rfl, fun w' hS' => by go_simp⟩) hHeld ?_
    (try simp only [Act.put, List.setIfInBounds_toArray, List.set_cons_zero, List.set_cons_succ])
    refine take_at 36 99 (.slice (some ⟨b2, o2, none⟩) Xn Xc) rfl rfl (by kernel_rfl) (by kernel_rfl) (by kernel_rfl) (fun _ _ _ h => h) (Or.inl ⟨by kernel_rfl, fun w' hS' => by have hc := RowAt.cell (hS'.1.row 1 rfl) 2; go_simp⟩) hHeld ?_
    (try simp only [Act.put, List.setIfInBounds_toArray, List.set_cons_zero, List.set_cons_succ])
    refine take_at 37 100 (.int .i64 k) rfl rfl (by kernel_rfl) (by kernel_rfl) (by kernel_rfl) (fun _ _ _ h => h) (Or.inl ⟨by kernel_rfl, fun w' hS' => by go_simp⟩) hHeld ?_
    (try simp only [Act.put, List.setIfInBounds_toArray, List.set_cons_zero, List.set_cons_succ])
    refine take_at 38 101 (.pointer (some ⟨b2, o2 + k * 5, none⟩)) rfl rfl (by kernel_rfl) (by kernel_rfl) (by kernel_rfl) (fun _ _ _ h => h) (Or.inl ⟨by kernel_rfl, fun w' hS' => by go_simp⟩) hHeld ?_
    (try simp only [Act.put, List.setIfInBounds_toArray, List.set_cons_zero, List.set_cons_succ])
    refine take_at 39 102 (.pointer (some ⟨b2, o2 + k * 5 + 4, none⟩)) rfl rfl (by kernel_rfl) (by kernel_rfl) (by kernel_rfl) (fun _ _ _ h => h) (Or.inl ⟨by kernel_rfl, fun w' hS' => by go_simp⟩) hHeld ?_
    (try simp only [Act.put, List.setIfInBounds_toArray, List.set_cons_zero, List.set_cons_succ])
    refine take_at 40 103 (.slice ya yn yc) rfl rfl (by kernel_rfl) (by kernel_rfl) (by kernel_rfl) (fun _ _ _ h => h) (Or.inl ⟨by kernel_rfl, fun w' hS' => by have hc := hS'.2.2.2; go_simp⟩) hHeld ?_
    (try simp only [Act.put, List.setIfInBounds_toArray, List.set_cons_zero, List.set_cons_succ])
    refine take_at 41 104 (.pointer (some ⟨Cb, 4, none⟩)) rfl rfl (by kernel_rfl) (by kernel_rfl) (by kernel_rfl) (fun _ _ _ h => h) (Or.inl ⟨by kernel_rfl, fun w' hS' => by go_simp⟩) hHeld ?_
    (try simp only [Act.put, List.setIfInBounds_toArray, List.set_cons_zero, List.set_cons_succ])
    refine take_at 42 105 (.slice xa xn xc) rfl rfl (by kernel_rfl) (by kernel_rfl) (by kernel_rfl) (fun _ _ _ h => h) (Or.inl ⟨by kernel_rfl, fun w' hS' => by have hc := RowAt.cell (hS'.1.row 0 rfl) 4; go_simp⟩) hHeld ?_
    (try simp only [Act.put, List.setIfInBounds_toArray, List.set_cons_zero, List.set_cons_succ])
    refine wpAnyH_ready (rs := [43]) (by kernel_rfl) (by simp) ?_
    refine AllReadyH.cons rfl (fun K hK => ?_) AllReadyH.nil
    go_simp
    go_at_call 21
    refine (lmSigns_eq HY6.out HX6.out).mono ?_
    rintro e u12 ⟨rfl, hb⟩
    go_wp2_with fail
    refine hK.out _ _ ⟨hHeld.1.go hb, (hb.cell (p := ⟨b2, o2 + k * 5 + 2, none⟩) (by show b2 < _; omega)).trans hHeld.2.1, (hb.cell (p := ⟨b2, o2 + k * 5 + 3, none⟩) (by show b2 < _; omega)).trans hHeld.2.2.1, (hb.cell (p := ⟨b2, o2 + k * 5 + 4, none⟩) (by show b2 < _; omega)).trans hHeld.2.2.2⟩ (fun hHeld => ?_)
    clear hK K
    (try simp only [Act.put, List.setIfInBounds_toArray, List.set_cons_zero, List.set_cons_succ])
    refine take_at 44 107 (.bool true) rfl rfl (by kernel_rfl) (by kernel_rfl) (by kernel_rfl) (fun _ _ _ h => h) (Or.inl ⟨by kernel_rfl, fun w' hS' => by go_simp⟩) hHeld ?_
    (try simp only [Act.put, List.setIfInBounds_toArray, List.set_cons_zero, List.set_cons_succ])
    refine take_at 45 2 (.bool true) rfl rfl (by kernel_rfl) (by kernel_rfl) (by kernel_rfl) (fun _ _ _ h => h) (Or.inl ⟨by kernel_rfl, fun w' hS' => by go_simp⟩) hHeld ?_
    (try simp only [Act.put, List.setIfInBounds_toArray, List.set_cons_zero, List.set_cons_succ])
    refine wpAnyH_done (by kernel_rfl) ?_ _
    refine NoPanic.normal ?_
    replace HH : Hid (Hold w [(Cb, #[.int .i64 r, .int .i64 c, .int .i64 d, .int .i64 g, .slice xa xn xc], 42), (Xb, #[.int .i64 R, .int .i64 C, .slice (some ⟨b2, o2, none⟩) Xn Xc], 25), (Wb, #[.int .i64 R, .int .i64 C, .slice Wa Wn Wc], 25), (Tb, #[.int .i64 R, .int .i64 C, .slice (some ⟨b0, o0, none⟩) n' c'], 25)] [((some ⟨b2, o2, none⟩), Xn, Xc, (splitL l p)), (Wa, Wn, Wc, (splitL l p)), ((some ⟨b0, o0, none⟩), n', c', l)] _) := hHeld.1
    clear hHeld
    go_wp2_with fail
    go_ret
    exact ⟨rfl, HH.out.1⟩
end Go.Proofs.Ytkgdocohdjebfaa
