import Derived.Deep.Cut
import Derived.Deep.CutRange
import Derived.Deep.CutBlock
import Derived.Deep.DeepCutAuto
import Derived.Test.YtccoeachemnbnaaGreatDoorBD1
import Derived.Test.YtccoeachemnbnaaGreatDoorBA1
import Derived.Deep.RegionHeld3
import Derived.Deep.AppendLies
import Derived.Test.YtccoeachemnbnaaGreatDoorBA2
import Derived.Test.YtccoeachemnbnaaGreatDoorBA3
import Derived.Test.YtccoeachemnbnaaGreatDoorBA4
namespace Go.Proofs.YtccoeachemnbnaaGreatDoor
open Go.RowKit

set_option maxRecDepth 100000 in
set_option maxHeartbeats 8000000 in
theorem l71Table_any (B g p : Nat) (w : World) (h : Rd B w g p) (hp : p ≤ 890000) :
    Calls Tryz.prog 79 #[.pointer (some ⟨g, 0, none⟩)] w fun e w' => ∃ (R C : Nat) (a : Option Addr) (n c : Nat) (rs : List Rw) (l : List Cl) (q : Nat), e = .returned (.agg #[.int .i64 R, .int .i64 C, .slice a n c]) ∧ OwnT w' w.heap.size (.slice a n c) rs l ∧ TabSm R C l ∧ Rd B w' g q ∧ q ≤ p + 500 ∧ Fr w.heap.size g w w' := by
  have hlt := h.lt
  have HR : Hid (Rd B w g p) := h
  clear h
  go_enter Tryz.func79, Tryz.ntmps79
  go_upto_region 1 with fail
  have F0 : Fr w.heap.size g w (w.alloc (.cells #[.int .i64 0, .int .i64 0, .slice none 0 0] 54)) := (Fr.refl _ _ w).alloc (Nat.le_refl _) _
  have Z0 : RowAt (w.alloc (.cells #[.int .i64 0, .int .i64 0, .slice none 0 0] 54)) w.heap.size #[.int .i64 0, .int .i64 0, .slice none 0 0] 54 := rowAt_new _ _ _
  have HR0 : Hid (Rd B (w.alloc (.cells #[.int .i64 0, .int .i64 0, .slice none 0 0] 54)) g p) := HR.out.alloc _
  generalize (w.alloc (.cells #[.int .i64 0, .int .i64 0, .slice none 0 0] 54)) = v0 at F0 Z0 HR0 ⊢
  have zz0 := Z0.lt
  go_wp2_with fail
  refine (pick_any B g p 4 _ HR0.out (by omega) (by omega) (by omega)).mono ?_
  rintro e w1 ⟨x, rfl, hx0, hx1, hr1, hg1⟩
  obtain ⟨x, rfl⟩ : ∃ q : Nat, x = q := ⟨x.toNat, by omega⟩
  have HR1 : Hid (Rd B w1 g (p + 1)) := hr1
  have f1 := fr_grown hg1
  have s1 := f1.size
  clear hr1 hg1
  go_wp2_with fail
  refine (pick_any B g (p + 1) 4 _ HR1.out (by omega) (by omega) (by omega)).mono ?_
  rintro e w2 ⟨y, rfl, hy0, hy1, hr2, hg2⟩
  obtain ⟨y, rfl⟩ : ∃ q : Nat, y = q := ⟨y.toNat, by omega⟩
  have HR2 : Hid (Rd B w2 g (p + 1 + 1)) := hr2
  have f2 := fr_grown hg2
  have s2 := f2.size
  clear hr2 hg2
  go_wp2_with fail
  refine (specTableNew_any (1 + (x : Int)) (1 + (y : Int)) _).mono ?_
  rintro e w3 ⟨hres, hb3⟩
  have hok : newOk (1 + (x : Int)) (1 + (y : Int)) = true := by
    unfold newOk
    simp
    omega
  rcases hres with ⟨hno, -⟩ | ⟨-, a, n, c, rs, rfl, ho⟩
  · rw [hok] at hno
    exact absurd hno (by simp)
  clear hok
  obtain ⟨R, hRx⟩ : ∃ R : Nat, 1 + (x : Int) = R := ⟨1 + x, by omega⟩
  obtain ⟨C, hCy⟩ : ∃ C : Nat, 1 + (y : Int) = C := ⟨1 + y, by omega⟩
  rw [hRx, hCy] at ho ⊢
  simp only [Int.toNat_natCast] at ho
  have hsm := tabSm_new R C (by omega) (by omega)
  have s3 := hb3.size
  have HR3 : Hid (Rd B w3 g (p + 1 + 1)) := HR2.out.below hb3 (by omega)
  have F3 : Fr w.heap.size g w w3 := ((F0.trans (f1.mono (by omega))).trans (f2.mono (by omega))).below (hb3.mono (by omega))
  have Z3 : RowAt w3 w.heap.size #[.int .i64 0, .int .i64 0, .slice none 0 0] 54 := (((Z0.fr f1 (by omega)).fr f2 (by omega))).below hb3 (by omega)
  clear hx0 hx1 hy0 hy1 hRx hCy HR HR0 HR1 HR2 F0 Z0 f1 f2
  go_upto_region 2 with fail
  have T4 : RowAt (w3.alloc (.cells #[.int .i64 R, .int .i64 C, .slice a n c] 54)) w3.heap.size #[.int .i64 R, .int .i64 C, .slice a n c] 54 := rowAt_new _ _ _
  have O4 : OwnT (w3.alloc (.cells #[.int .i64 R, .int .i64 C, .slice a n c] 54)) w2.heap.size (.slice a n c) rs (newL R C) := ho.below ((Below.refl _ _).alloc (Nat.le_refl _) _)
  have F4 : Fr w.heap.size g w (w3.alloc (.cells #[.int .i64 R, .int .i64 C, .slice a n c] 54)) := F3.alloc (by omega) _
  have Z4 : RowAt (w3.alloc (.cells #[.int .i64 R, .int .i64 C, .slice a n c] 54)) w.heap.size #[.int .i64 0, .int .i64 0, .slice none 0 0] 54 := Z3.alloc _
  have HR4 : Hid (Rd B (w3.alloc (.cells #[.int .i64 R, .int .i64 C, .slice a n c] 54)) g (p + 1 + 1)) := HR3.out.alloc _
  obtain ⟨T, hT⟩ : ∃ T, w3.heap.size = T := ⟨_, rfl⟩
  generalize (w3.alloc (.cells #[.int .i64 R, .int .i64 C, .slice a n c] 54)) = v4 at T4 O4 F4 Z4 HR4 ⊢
  rw [hT] at T4 ⊢
  have hTw : w.heap.size < T := by omega
  clear hT ho F3 Z3 HR3 hb3
  go_wp2_with fail
  refine (pick_any B g (p + 1 + 1) 4 _ HR4.out (by omega) (by omega) (by omega)).mono ?_
  rintro e w5 ⟨k, rfl, hk0, hk1, hr5, hg5⟩
  have f5 := fr_grown hg5
  have s5 := f5.size
  have zT := T4.lt
  obtain ⟨k, rfl⟩ : ∃ q : Nat, k = q := ⟨k.toNat, by omega⟩
  have hk4 : k ≤ 3 := by omega
  clear hg5 hk0 hk1
  go_wp2_with fail
  go_loopw [4] (fun kv wr => ∃ (k : Nat) (a : Option Addr) (n c : Nat) (rs : List Rw) (l : List Cl) (q : Nat), kv = .int .i64 k ∧ k ≤ 3 ∧ RowAt wr T #[.int .i64 R, .int .i64 C, .slice a n c] 54 ∧ OwnT wr w.heap.size (.slice a n c) rs l ∧ TabSm R C l ∧ Rd B wr g q ∧ q + 4 * k ≤ p + 15 ∧ RowAt wr w.heap.size #[.int .i64 0, .int .i64 0, .slice none 0 0] 54 ∧ Fr w.heap.size g w wr ∧ T < wr.heap.size) (fun kv _ => (intOf kv).toNat)
  case atStart => exact ⟨k, a, n, c, rs, newL R C, p + 1 + 1 + 1, rfl, hk4, T4.fr f5 (by omega), OwnT.less (OwnT.fr O4 f5 (by omega)) (by omega), hsm, hr5, by omega, Z4.fr f5 (by omega), F4.trans (f5.mono (by have := F4.size; omega)), by omega⟩
  case round =>
    clear T4 O4 hsm hr5 F4 Z4 HR4 f5
    obtain ⟨k, a, n, c, rs, l, q, rfl, hk3, hT', hO', hS', hr', hq', hZ', hF', hs'⟩ := hrel
    have HTb : Hid (RowAt wr T #[.int .i64 R, .int .i64 C, .slice a n c] 54) := hT'
    have HO : Hid (OwnT wr w.heap.size (.slice a n c) rs l) := hO'
    have HSm : Hid (TabSm R C l) := hS'
    have HRd : Hid (Rd B wr g q) := hr'
    have HZ : Hid (RowAt wr w.heap.size #[.int .i64 0, .int .i64 0, .slice none 0 0] 54) := hZ'
    have HF : Hid (Fr w.heap.size g w wr) := hF'
    obtain ⟨hR4, hC4, hL4, -⟩ := hS'
    have sF := hF'.size
    by_cases hk0 : k = 0
    · have hk0' : ¬ (0 : Int) < (k : Int) := by omega
      clear hT' hO' hr' hZ' hF'
      have HNn : Hid (n = l.length) := HO.out.len
      have hn25 : n ≤ 25 := by have := HNn.out; omega
      have hn1 : 1 ≤ n := by have := HNn.out; omega
      obtain ⟨gq, rfl⟩ : ∃ gq, a = some ⟨gq, 0, none⟩ := by
        rcases HO.out.1.row.2 with ⟨hv, hz⟩ | ⟨g', cap', cur, hv, -⟩
        · exfalso; omega
        · simp only [Value.slice.injEq, true_and] at hv
          exact ⟨g', hv.1⟩
      have hncap := HO.out.1.rws.2.1
      have hcm := HO.out.1.rws.2.2.1
      unfold maxLen at hcm
      have t2 : wr.cell? ⟨T, 2, none⟩ = some (.slice (some ⟨gq, 0, none⟩) n c) := HTb.out.cell 2
      go_wp2_with fail
      clear t2
      go_loopw [9] (fun iv wr => ∃ (i : Nat) (rs : List Rw) (l : List Cl) (q : Nat), iv = .int .i64 i ∧ i ≤ n ∧ RowAt wr T #[.int .i64 R, .int .i64 C, .slice (some ⟨gq, 0, none⟩) n c] 54 ∧ OwnT wr w.heap.size (.slice (some ⟨gq, 0, none⟩) n c) rs l ∧ TabSm R C l ∧ Rd B wr g q ∧ q + 17 * (n - i) ≤ p + 15 + 17 * n ∧ RowAt wr w.heap.size #[.int .i64 0, .int .i64 0, .slice none 0 0] 54 ∧ Fr w.heap.size g w wr ∧ T < wr.heap.size) (fun iv _ => n - (intOf iv).toNat)
      case atStart => exact ⟨0, rs, l, q, rfl, Nat.zero_le _, HTb.out, HO.out, HSm.out, HRd.out, by omega, HZ.out, HF.out, hs'⟩
      case round =>
        clear HTb HO HSm HRd HZ HF HNn hs' hq' hL4
        clear rs l q
        obtain ⟨i, rs, l, q, rfl, hi, hT', hO', hS', hr', hq', hZ', hF', hs'⟩ := hrel
        have HTb : Hid (RowAt wr T #[.int .i64 R, .int .i64 C, .slice (some ⟨gq, 0, none⟩) n c] 54) := hT'
        have HO : Hid (OwnT wr w.heap.size (.slice (some ⟨gq, 0, none⟩) n c) rs l) := hO'
        have HSm : Hid (TabSm R C l) := hS'
        have HRd : Hid (Rd B wr g q) := hr'
        have HZ : Hid (RowAt wr w.heap.size #[.int .i64 0, .int .i64 0, .slice none 0 0] 54) := hZ'
        have HF : Hid (Fr w.heap.size g w wr) := hF'
        have sF' := hF'.size
        have t2 : wr.cell? ⟨T, 2, none⟩ = some (.slice (some ⟨gq, 0, none⟩) n c) := hT'.cell 2
        clear hT' hO' hS' hr' hZ' hF'
        by_cases hin : i < n
        · have hib : (i : Int) < (n : Int) := by omega
          have hi0 : (0 : Int) ≤ (i : Int) := by omega
          go_wp2_with fail
          refine (pick_any B g q 2 _ HRd.out (by omega) (by omega) (by omega)).mono ?_
          rintro e w6 ⟨row, rfl, hw0, hw1, hr6, hg6⟩
          have f6 := fr_grown hg6
          have s6 := f6.size
          have HR6 : Hid (Rd B w6 g (q + 1)) := hr6
          have HT6 : Hid (RowAt w6 T #[.int .i64 R, .int .i64 C, .slice (some ⟨gq, 0, none⟩) n c] 54) := HTb.out.fr f6 (by omega)
          have HO6 : Hid (OwnT w6 w.heap.size (.slice (some ⟨gq, 0, none⟩) n c) rs l) := HO.out.fr f6 (by omega)
          have HZ6 : Hid (RowAt w6 w.heap.size #[.int .i64 0, .int .i64 0, .slice none 0 0] 54) := HZ.out.fr f6 (by omega)
          have HF6 : Hid (Fr w.heap.size g w w6) := HF.out.trans (f6.mono sF')
          clear hr6 hg6 t2 f6 HTb HO HZ HF HRd
          by_cases hrow : row = 0
          · subst hrow
            go_upto_region 14 with fail
            have f6' : Fr w6.heap.size g w6 w6.drew := (Fr.refl _ _ _).below ((Below.refl _ _).drew)
            have HT6' : Hid (RowAt w6.drew T #[.int .i64 R, .int .i64 C, .slice (some ⟨gq, 0, none⟩) n c] 54) := HT6.out.fr f6' (by omega)
            have HO6' : Hid (OwnT w6.drew w.heap.size (.slice (some ⟨gq, 0, none⟩) n c) rs l) := HO6.out.fr f6' (by omega)
            have HZ6' : Hid (RowAt w6.drew w.heap.size #[.int .i64 0, .int .i64 0, .slice none 0 0] 54) := HZ6.out.fr f6' (by omega)
            have HF6' : Hid (Fr w.heap.size g w w6.drew) := HF6.out.trans (f6'.mono (by omega))
            have HR6' : Hid (Rd B w6.drew g (q + 1)) := HR6.out.below ((Below.refl _ _).drew) HR6.out.lt
            have s6' : w6.heap.size = w6.drew.heap.size := rfl
            refine wp_region_noPanic ?_
            refine wp_region_held_drew (S := fun w' => RowAt w' T #[.int .i64 R, .int .i64 C, .slice (some ⟨gq, 0, none⟩) n c] 54) (by kernel_rfl) HT6'.out (fun hHeld => ?_)
            refine take_at 0 64 (.pointer (some ⟨T, 2, none⟩)) rfl rfl (by kernel_rfl) (by kernel_rfl) (by kernel_rfl) (fun _ _ _ h => h) (Or.inl ⟨by kernel_rfl, fun w' hS' => by go_simp⟩) hHeld ?_
            (try simp only [Act.put, List.setIfInBounds_toArray, List.set_cons_zero, List.set_cons_succ])
            refine take_at 1 65 (.slice (some ⟨gq, 0, none⟩) n c) rfl rfl (by kernel_rfl) (by kernel_rfl) (by kernel_rfl) (fun _ _ _ h => h) (Or.inl ⟨by kernel_rfl, fun w' hS' => by have hc := RowAt.cell hS' 2; go_simp⟩) hHeld ?_
            (try simp only [Act.put, List.setIfInBounds_toArray, List.set_cons_zero, List.set_cons_succ])
            refine take_at 2 66 (.int .i64 i) rfl rfl (by kernel_rfl) (by kernel_rfl) (by kernel_rfl) (fun _ _ _ h => h) (Or.inl ⟨by kernel_rfl, fun w' hS' => by go_simp⟩) hHeld ?_
            (try simp only [Act.put, List.setIfInBounds_toArray, List.set_cons_zero, List.set_cons_succ])
            refine take_at 3 67 (.pointer (some ⟨g, 0, none⟩)) rfl rfl (by kernel_rfl) (by kernel_rfl) (by kernel_rfl) (fun _ _ _ h => h) (Or.inl ⟨by kernel_rfl, fun w' hS' => by go_simp⟩) hHeld ?_
            (try simp only [Act.put, List.setIfInBounds_toArray, List.set_cons_zero, List.set_cons_succ])
            generalize w6.drew = w7 at HT6' HO6' HZ6' HF6' HR6' s6' hHeld ⊢
            clear HT6 HO6 HZ6 HF6 HR6 f6'
            refine wpAnyH_ready (rs := [4]) (by kernel_rfl) (by simp) ?_
            refine AllReadyH.cons rfl (fun K hK => ?_) AllReadyH.nil
            go_simp
            go_at_call 89
            refine (l71Text_any B g (q + 1) 5 _ HR6'.out (by omega) (by omega)).mono ?_
            rintro e w8 ⟨v, tx, q8, rfl, hO8, hl8, hr8, hq8, hf8⟩
            obtain ⟨pa, pc, rfl⟩ := Own.shapeN hO8 rfl
            obtain ⟨pn, hpn⟩ : ∃ pn, tx.length = pn := ⟨_, rfl⟩
            rw [hpn] at hO8 ⊢
            have s8 := hf8.size
            have HT8 : Hid (RowAt w8 T #[.int .i64 R, .int .i64 C, .slice (some ⟨gq, 0, none⟩) n c] 54) := HT6'.out.fr hf8 (by omega)
            have HO8 : Hid (OwnT w8 w.heap.size (.slice (some ⟨gq, 0, none⟩) n c) rs l) := HO6'.out.fr hf8 (by omega)
            have HZ8 : Hid (RowAt w8 w.heap.size #[.int .i64 0, .int .i64 0, .slice none 0 0] 54) := HZ6'.out.fr hf8 (by omega)
            have HF8 : Hid (Fr w.heap.size g w w8) := HF6'.out.trans (hf8.mono (by omega))
            have HR8 : Hid (Rd B w8 g q8) := hr8
            have HX8 : Hid (Own w8 w7.heap.size (.slice pa pn pc) tx) := hO8
            have HL8 : Hid (tx.length ≤ 5) := hl8
            have HBL : Hid (∀ k, k < rs.length → ∀ b, (rwT (rs.getD k rw0)).ownBlock = some b → b < w7.heap.size) := fun k hk b hb => HO6'.out.2.blockLt k hk b hb
            have hir : i < rs.length := by
              have := HO8.out.1.len
              omega
            have hgq : w.heap.size ≤ gq := (own_lt HO8.out.1.row rfl).1
            have hgT' : gq ≠ T := fun e => rowAt_ne HT8.out HO8.out.1.row (by decide) (by rw [e]; rfl)
            go_wp2_with fail
            refine hK.out _ _ HT8.out (fun hHeld => ?_)
            clear hK K
            (try simp only [Act.put, List.setIfInBounds_toArray, List.set_cons_zero, List.set_cons_succ])
            clear HT6' HO6' HZ6' HF6' HR6' hO8 hr8 hf8 hl8 hpn
            refine take_at 5 69 (.pointer (some ⟨gq, i * 5, none⟩)) rfl rfl (by kernel_rfl) (by kernel_rfl) (by kernel_rfl) (fun _ _ _ h => h) (Or.inl ⟨by kernel_rfl, fun w' hS' => by go_simp⟩) hHeld ?_
            (try simp only [Act.put, List.setIfInBounds_toArray, List.set_cons_zero, List.set_cons_succ])
            refine take_at 6 70 (.pointer (some ⟨gq, i * 5 + 4, none⟩)) rfl rfl (by kernel_rfl) (by kernel_rfl) (by kernel_rfl) (fun _ _ _ h => h) (Or.inl ⟨by kernel_rfl, fun w' hS' => by go_simp⟩) hHeld ?_
            (try simp only [Act.put, List.setIfInBounds_toArray, List.set_cons_zero, List.set_cons_succ])
            have x4 : ∃ u, w8.cell? ⟨gq, i * 5 + 4, none⟩ = some u := ⟨_, (HO8.out.1.row.cellAt (i * 5 + 4) (by omega)).trans (flat5_get _ i 4 hir (by omega))⟩
            obtain ⟨u4, x4⟩ := x4
            have fz4 := HO8.out.1.row.frozenAt (i * 5 + 4)
            refine wpAnyH_ready (rs := [7]) (by kernel_rfl) (by simp) ?_
            refine AllReadyH.cons rfl (fun K hK => ?_) AllReadyH.nil
            go_simp
            refine hK.out _ _ (HT8.out.other ⟨gq, i * 5 + 4, none⟩ (.slice pa pn pc) (by show T ≠ gq; omega)) (fun _ => ?_)
            clear hK K
            refine wpAnyH_done (by kernel_rfl) ?_ _
            refine NoPanic.normal ?_
            go_wp2_with fail
            go_roundw
            case rel =>
              have P := HO8.out.putT i hir pa pn pc tx (own_less HX8.out (by omega)) (fun k hk b hb e => by
                have h1 := HBL.out k hk b hb
                have h2 := (own_lt HX8.out.row e).1
                omega)
              refine ⟨i + 1, _, _, q8, by go_num, by omega, HT8.out.other ⟨gq, i * 5 + 4, none⟩ (.slice pa pn pc) (by show T ≠ gq; omega), P, ?_, HR8.out.setCell (by show g < gq; omega) _, by omega, HZ8.out.other ⟨gq, i * 5 + 4, none⟩ (.slice pa pn pc) (by
                show w.heap.size ≠ gq
                intro e
                exact rowAt_ne HZ8.out HO8.out.1.row (by decide) (by rw [e]; rfl)), HF8.out.setCell (p := ⟨gq, i * 5 + 4, none⟩) hgq _, by simp [World.setCell]; omega⟩
              obtain ⟨q1, q2, q3, q4⟩ := HSm.out
              refine ⟨q1, q2, by simpa using q3, fun z hz => ?_⟩
              rcases List.mem_or_eq_of_mem_set hz with hz | hz
              · exact q4 z hz
              · rw [hz]
                have := HL8.out
                simp only
                omega
            case measure => simp [intOf]; omega
          · have hr1 : (row == 0) = false := by simp; omega
            go_wp2_with fail
            go_roundw
            case rel => exact ⟨i + 1, rs, l, q + 1, by go_num, by omega, HT6.out, HO6.out, HSm.out, HR6.out, by omega, HZ6.out, HF6.out, by omega⟩
            case measure => simp [intOf]; omega
        · have hib : ¬ (i : Int) < (n : Int) := by omega
          go_wp2_with (first | (refine wpList_load_row rfl 54 (.tmp 3) rfl T rfl 54 #[.int .i64 R, .int .i64 C, .slice (some ⟨gq, 0, none⟩) n c] (0, 0) _ HTb.out Tryz.underlying54 rfl tab_info ?_) | (refine wpList_store_row rfl 54 (.tmp 2) (.tmp 71) rfl w.heap.size #[.int .i64 R, .int .i64 C, .slice (some ⟨gq, 0, none⟩) n c] rfl rfl 54 _ HZ.out tab_info rfl (cells3_one _ _ _ _ _) ?_))
          have bT : Below w.heap.size wr (wr.setRow w.heap.size #[.int .i64 R, .int .i64 C, .slice (some ⟨gq, 0, none⟩) n c]) := below_row (Below.refl _ _) (Nat.le_refl _) _
          refine bodyPost_ret (v := .agg #[.int .i64 R, .int .i64 C, .slice (some ⟨gq, 0, none⟩) n c]) (results_cell_row (p := 2) (ty := 54) rfl _ _ w.heap.size 54 _ _ _ rfl (RowAt.setRow HZ.out _) Tryz.underlying54 rfl tab_info) rfl ⟨R, C, some ⟨gq, 0, none⟩, n, c, rfl, rs, l, HO.out.setRowT HZ.out _, HSm.out, q, HRd.out.below bT hlt, by omega, HF.out.below bT⟩
    · have hpos : (0 : Int) < (k : Int) := by omega
      have t0 : wr.cell? ⟨T, 0, none⟩ = some (.int .i64 R) := hT'.cell 0
      have t1 : wr.cell? ⟨T, 1, none⟩ = some (.int .i64 C) := hT'.cell 1
      clear hT' hO' hr' hZ' hF'
      go_wp2_with fail
      refine (pick_any B g q R _ HRd.out (by omega) (by omega) (by omega)).mono ?_
      rintro e w6 ⟨row, rfl, hw0, hw1, hr6, hg6⟩
      have f6 := fr_grown hg6
      have s6 := f6.size
      have HR6 : Hid (Rd B w6 g (q + 1)) := hr6
      have u1 : w6.cell? ⟨T, 1, none⟩ = some (.int .i64 C) := (HTb.out.fr f6 (by omega)).cell 1
      clear hr6 hg6 t0 t1
      go_wp2_with fail
      refine (pick_any B g (q + 1) C _ HR6.out (by omega) (by omega) (by omega)).mono ?_
      rintro e w7 ⟨col, rfl, hc0, hc1, hr7, hg7⟩
      have f7 := fr_grown hg7
      have s7 := f7.size
      have f67 : Fr wr.heap.size g wr w7 := f6.trans (f7.mono s6)
      have HR7 : Hid (Rd B w7 g (q + 1 + 1)) := hr7
      have HT7 : Hid (RowAt w7 T #[.int .i64 R, .int .i64 C, .slice a n c] 54) := HTb.out.fr f67 (by omega)
      have HO7 : Hid (OwnT w7 w.heap.size (.slice a n c) rs l) := HO.out.fr f67 (by omega)
      have HZ7 : Hid (RowAt w7 w.heap.size #[.int .i64 0, .int .i64 0, .slice none 0 0] 54) := HZ.out.fr f67 (by omega)
      have HF7 : Hid (Fr w.heap.size g w w7) := HF.out.trans (f67.mono sF)
      clear hr7 hg7 u1 f6 f7 f67 HR6 HTb HO HZ HF HRd
      obtain ⟨row, rfl⟩ : ∃ q : Nat, row = q := ⟨row.toNat, by omega⟩
      obtain ⟨col, rfl⟩ : ∃ q : Nat, col = q := ⟨col.toNat, by omega⟩
      have t0 : w7.cell? ⟨T, 0, none⟩ = some (.int .i64 R) := HT7.out.cell 0
      have t1 : w7.cell? ⟨T, 1, none⟩ = some (.int .i64 C) := HT7.out.cell 1
      have t2 : w7.cell? ⟨T, 2, none⟩ = some (.slice a n c) := HT7.out.cell 2
      have zT7 : T < w7.heap.size := by omega
      have hgT : T ≠ g := by omega
      have HI7 : Hid (TInv B g T R C w a n c rs l (q + 1 + 1) w7) := ⟨HT7.out, HO7.out, HZ7.out, HR7.out, HF7.out, by omega, by omega, hlt⟩
      clear HT7 HO7 HZ7 HR7 HF7 t0 t1 t2
      go_upto_region 7 with fail
      go_cut [7, 8] (fun xv kv wx => ∃ (X : Nat) (x y : Int) (a' : Option Addr) (n' c' : Nat) (rs' : List Rw) (l' : List Cl) (b : Bool), xv = .pointer (some ⟨X, 0, none⟩) ∧ kv = .bool b ∧ RowAt wx X #[.int .i64 x, .int .i64 y, .slice a' n' c'] 54 ∧ T < X ∧ TInv B g T R C w a n c rs l (q + 1 + 1 + 1 + 1) wx ∧ OwnT wx w.heap.size (.slice a' n' c') rs' l' ∧ (b = true → x = R ∧ y = C ∧ TabSm R C l'))
      case first =>
        have HI0 : Hid (TInv B g T R C w a n c rs l (q + 1 + 1) w7.drew) := HI7.out.below ((Below.refl _ _).drew)
        have z0 : T < w7.drew.heap.size := HI0.out.2.2.2.2.2.1
        refine wp_region_noPanic ?_
        refine wp_region_held_drew (S := fun w' => RowAt w' T #[.int .i64 R, .int .i64 C, .slice a n c] 54) (by kernel_rfl) HI0.out.row (fun hHeld => ?_)
        clear HI7
        refine take_at 0 32 (.agg #[.int .i64 R, .int .i64 C, .slice a n c]) rfl rfl (by kernel_rfl) (by kernel_rfl) (by kernel_rfl) (fun _ _ _ h => h) (yieldsIf_load_row (by kernel_rfl) 54 (.tmp 3) rfl T rfl 54 #[.int .i64 R, .int .i64 C, .slice a n c] (0, 0) _ (fun w' h => h) Tryz.underlying54 rfl tab_info) hHeld ?_
        (try simp only [Act.put, List.setIfInBounds_toArray, List.set_cons_zero, List.set_cons_succ])
        refine take_at 1 33 (.int .i64 row) rfl rfl (by kernel_rfl) (by kernel_rfl) (by kernel_rfl) (fun _ _ _ h => h) (Or.inl ⟨by kernel_rfl, fun w' hS' => by go_simp⟩) hHeld ?_
        (try simp only [Act.put, List.setIfInBounds_toArray, List.set_cons_zero, List.set_cons_succ])
        refine take_at 2 34 (.int .i64 col) rfl rfl (by kernel_rfl) (by kernel_rfl) (by kernel_rfl) (fun _ _ _ h => h) (Or.inl ⟨by kernel_rfl, fun w' hS' => by go_simp⟩) hHeld ?_
        (try simp only [Act.put, List.setIfInBounds_toArray, List.set_cons_zero, List.set_cons_succ])
        refine take_at 3 35 (.pointer (some ⟨g, 0, none⟩)) rfl rfl (by kernel_rfl) (by kernel_rfl) (by kernel_rfl) (fun _ _ _ h => h) (Or.inl ⟨by kernel_rfl, fun w' hS' => by go_simp⟩) hHeld ?_
        (try simp only [Act.put, List.setIfInBounds_toArray, List.set_cons_zero, List.set_cons_succ])
        refine take_at 4 36 (.pointer (some ⟨T, 0, none⟩)) rfl rfl (by kernel_rfl) (by kernel_rfl) (by kernel_rfl) (fun _ _ _ h => h) (Or.inl ⟨by kernel_rfl, fun w' hS' => by go_simp⟩) hHeld ?_
        (try simp only [Act.put, List.setIfInBounds_toArray, List.set_cons_zero, List.set_cons_succ])
        refine take_at 5 37 (.int .i64 R) rfl rfl (by kernel_rfl) (by kernel_rfl) (by kernel_rfl) (fun _ _ _ h => h) (Or.inl ⟨by kernel_rfl, fun w' hS' => by have hc := RowAt.cell hS' 0; go_simp⟩) hHeld ?_
        (try simp only [Act.put, List.setIfInBounds_toArray, List.set_cons_zero, List.set_cons_succ])
        refine take_at 6 38 (.int .i64 row) rfl rfl (by kernel_rfl) (by kernel_rfl) (by kernel_rfl) (fun _ _ _ h => h) (Or.inl ⟨by kernel_rfl, fun w' hS' => by go_simp⟩) hHeld ?_
        (try simp only [Act.put, List.setIfInBounds_toArray, List.set_cons_zero, List.set_cons_succ])
        refine take_at 7 39 (.int .i64 ((R : Int) - row)) rfl rfl (by kernel_rfl) (by kernel_rfl) (by kernel_rfl) (fun _ _ _ h => h) (Or.inl ⟨by kernel_rfl, fun w' hS' => by go_simp; rw [IntKind.wrap_i64]; omega⟩) hHeld ?_
        (try simp only [Act.put, List.setIfInBounds_toArray, List.set_cons_zero, List.set_cons_succ])
        refine take_at 10 42 (.pointer (some ⟨g, 0, none⟩)) rfl rfl (by kernel_rfl) (by kernel_rfl) (by kernel_rfl) (fun _ _ _ h => h) (Or.inl ⟨by kernel_rfl, fun w' hS' => by go_simp⟩) hHeld ?_
        (try simp only [Act.put, List.setIfInBounds_toArray, List.set_cons_zero, List.set_cons_succ])
        refine take_at 11 43 (.pointer (some ⟨T, 1, none⟩)) rfl rfl (by kernel_rfl) (by kernel_rfl) (by kernel_rfl) (fun _ _ _ h => h) (Or.inl ⟨by kernel_rfl, fun w' hS' => by go_simp⟩) hHeld ?_
        (try simp only [Act.put, List.setIfInBounds_toArray, List.set_cons_zero, List.set_cons_succ])
        refine take_at 12 44 (.int .i64 C) rfl rfl (by kernel_rfl) (by kernel_rfl) (by kernel_rfl) (fun _ _ _ h => h) (Or.inl ⟨by kernel_rfl, fun w' hS' => by have hc := RowAt.cell hS' 1; go_simp⟩) hHeld ?_
        (try simp only [Act.put, List.setIfInBounds_toArray, List.set_cons_zero, List.set_cons_succ])
        refine take_at 13 45 (.int .i64 col) rfl rfl (by kernel_rfl) (by kernel_rfl) (by kernel_rfl) (fun _ _ _ h => h) (Or.inl ⟨by kernel_rfl, fun w' hS' => by go_simp⟩) hHeld ?_
        (try simp only [Act.put, List.setIfInBounds_toArray, List.set_cons_zero, List.set_cons_succ])
        refine take_at 14 46 (.int .i64 ((C : Int) - col)) rfl rfl (by kernel_rfl) (by kernel_rfl) (by kernel_rfl) (fun _ _ _ h => h) (Or.inl ⟨by kernel_rfl, fun w' hS' => by go_simp; rw [IntKind.wrap_i64]; omega⟩) hHeld ?_
        (try simp only [Act.put, List.setIfInBounds_toArray, List.set_cons_zero, List.set_cons_succ])
        obtain ⟨W0, hW0⟩ : ∃ W0, w7.drew = W0 := ⟨_, rfl⟩
        rw [hW0] at HI0 hHeld z0 ⊢
        clear hW0
        (try simp only [Act.put, List.setIfInBounds_toArray, List.set_cons_zero, List.set_cons_succ])
        refine wpAnyH_ready (rs := [8, 21]) (by kernel_rfl) (by simp) ?_
        refine AllReadyH.cons rfl (fun K hK => ?_) (AllReadyH.cons rfl (fun K hK => ?_) AllReadyH.nil)
        · skip
          go_simp
          go_at_call 60
          refine (pick_any B g (q + 1 + 1) ((R : Int) - row) _ HI0.out.rd (by omega) (by omega) (by omega)).mono ?_
          rintro e W1 ⟨xA, rfl, hA0, hA1, hrA, hgA⟩
          have HI1 : Hid (TInv B g T R C w a n c rs l (q + 1 + 1 + 1) W1) := HI0.out.grown hgA hrA
          have z1 : T < W1.heap.size := HI1.out.2.2.2.2.2.1
          clear hgA hrA HI0 hHeld
          go_wp2_with fail
          refine hK.out _ _ HI1.out.row (fun hHeld => ?_)
          clear hK K
          (try simp only [Act.put, List.setIfInBounds_toArray, List.set_cons_zero, List.set_cons_succ])
          refine take_at 9 41 (.int .i64 (1 + xA)) rfl rfl (by kernel_rfl) (by kernel_rfl) (by kernel_rfl) (fun _ _ _ h => h) (Or.inl ⟨by kernel_rfl, fun w' hS' => by go_simp; rw [IntKind.wrap_i64]; omega⟩) hHeld ?_
          (try simp only [Act.put, List.setIfInBounds_toArray, List.set_cons_zero, List.set_cons_succ])
          refine wpAnyH_ready (rs := [15, 21]) (by kernel_rfl) (by simp) ?_
          refine AllReadyH.cons rfl (fun K hK => ?_) (AllReadyH.cons rfl (fun K hK => ?_) AllReadyH.nil)
          · skip
            go_simp
            go_at_call 60
            refine (pick_any B g (q + 1 + 1 + 1) ((C : Int) - col) _ HI1.out.rd (by omega) (by omega) (by omega)).mono ?_
            rintro e W2 ⟨xB, rfl, hB0, hB1, hrB, hgB⟩
            have HI2 : Hid (TInv B g T R C w a n c rs l (q + 1 + 1 + 1 + 1) W2) := HI1.out.grown hgB hrB
            have z2 : T < W2.heap.size := HI2.out.2.2.2.2.2.1
            clear hgB hrB HI1 hHeld
            go_wp2_with fail
            refine hK.out _ _ HI2.out.row (fun hHeld => ?_)
            clear hK K
            (try simp only [Act.put, List.setIfInBounds_toArray, List.set_cons_zero, List.set_cons_succ])
            refine take_at 16 48 (.int .i64 (1 + xB)) rfl rfl (by kernel_rfl) (by kernel_rfl) (by kernel_rfl) (fun _ _ _ h => h) (Or.inl ⟨by kernel_rfl, fun w' hS' => by go_simp; rw [IntKind.wrap_i64]; omega⟩) hHeld ?_
            (try simp only [Act.put, List.setIfInBounds_toArray, List.set_cons_zero, List.set_cons_succ])
            refine wpAnyH_ready (rs := [17, 21]) (by kernel_rfl) (by simp) ?_
            refine AllReadyH.cons rfl (fun K hK => ?_) (AllReadyH.cons rfl (fun K hK => ?_) AllReadyH.nil)
            · skip
              go_simp
              go_at_call 92
              refine (specTableMerge_any R C row col (1 + xA) (1 + xB) a n c l _ HI2.out.own.tab).mono ?_
              rintro e W3 ⟨hresC, hbC⟩
              obtain ⟨⟨cx, cy, ca, cn, cc, cl', cg, rfl, hFC⟩, -⟩ := fResM_of ⟨hresC, hbC⟩
              have HI3 : Hid (TInv B g T R C w a n c rs l (q + 1 + 1 + 1 + 1) W3) := HI2.out.below hbC
              obtain ⟨⟨rs', hO0⟩, hF1, hF2⟩ := hFC
              have HOC : Hid (OwnT W3 w.heap.size (.slice ca cn cc) rs' cl') := OwnT.less hO0 (by omega)
              have HSC : Hid (cg = true → cx = R ∧ cy = C ∧ TabSm R C cl') := fun hg => by obtain ⟨e1, e2, e3⟩ := hF2 hg; exact ⟨e1, e2, by rw [e3]; exact tabSm_merge HSm.out (hF1.symm.trans hg)⟩
              have z3 : T < W3.heap.size := HI3.out.2.2.2.2.2.1
              clear hO0 hF1 hF2 hresC hbC HI2 hHeld
              go_wp2_with fail
              refine hK.out _ _ HI3.out.row (fun hHeld => ?_)
              clear hK K
              (try simp only [Act.put, List.setIfInBounds_toArray, List.set_cons_zero, List.set_cons_succ])
              refine take_at 18 31 (.tuple #[.agg #[.int .i64 cx, .int .i64 cy, .slice ca cn cc], .bool cg]) rfl rfl (by kernel_rfl) (by kernel_rfl) (by kernel_rfl) (fun _ _ _ h => h) (Or.inl ⟨by kernel_rfl, fun w' hS' => by go_simp⟩) hHeld ?_
              (try simp only [Act.put, List.setIfInBounds_toArray, List.set_cons_zero, List.set_cons_succ])
              refine take_at 19 50 (.agg #[.int .i64 cx, .int .i64 cy, .slice ca cn cc]) rfl rfl (by kernel_rfl) (by kernel_rfl) (by kernel_rfl) (fun _ _ _ h => h) (Or.inl ⟨by kernel_rfl, fun w' hS' => by go_simp⟩) hHeld ?_
              (try simp only [Act.put, List.setIfInBounds_toArray, List.set_cons_zero, List.set_cons_succ])
              refine take_at 20 51 (.bool cg) rfl rfl (by kernel_rfl) (by kernel_rfl) (by kernel_rfl) (fun _ _ _ h => h) (Or.inl ⟨by kernel_rfl, fun w' hS' => by go_simp⟩) hHeld ?_
              (try simp only [Act.put, List.setIfInBounds_toArray, List.set_cons_zero, List.set_cons_succ])
              refine wpAnyH_ready (rs := [21]) (by kernel_rfl) (by simp) ?_
              refine AllReadyH.cons rfl (fun K hK => ?_) AllReadyH.nil
              go_simp
              have HIx : Hid (TInv B g T R C w a n c rs l (q + 1 + 1 + 1 + 1) (W3.alloc (.cells #[.int .i64 0, .int .i64 0, .slice none 0 0] 54))) := HI3.out.alloc _
              have HXx : Hid (RowAt (W3.alloc (.cells #[.int .i64 0, .int .i64 0, .slice none 0 0] 54)) W3.heap.size #[.int .i64 0, .int .i64 0, .slice none 0 0] 54) := rowAt_new _ _ _
              refine hK.out _ _ HIx.out.row (fun hHeld => ?_)
              clear hK K
              have HOx : Hid (OwnT (W3.alloc (.cells #[.int .i64 0, .int .i64 0, .slice none 0 0] 54)) w.heap.size (.slice ca cn cc) rs' cl') := HOC.out.below ((Below.refl _ _).alloc (Nat.le_refl _) _)
              clear HOC
              have HOC := HOx
              clear HOx
              (try simp only [Act.put, List.setIfInBounds_toArray, List.set_cons_zero, List.set_cons_succ])
              obtain ⟨X, hX⟩ : ∃ X, W3.heap.size = X := ⟨_, rfl⟩
              generalize (W3.alloc (.cells #[.int .i64 0, .int .i64 0, .slice none 0 0] 54)) = WX at HIx HXx hHeld HOC ⊢
              rw [hX] at HXx ⊢
              have hTX : T < X := by omega
              have hXg : X ≠ g := by omega
              clear hX HI3
              have zX : T < WX.heap.size := HIx.out.2.2.2.2.2.1
              refine wpAnyH_ready (rs := [22]) (by kernel_rfl) (by simp) ?_
              refine AllReadyH.cons rfl (fun K hK => ?_) AllReadyH.nil
              rw [if_pos (by kernel_rfl)]
              refine wp_store_row 54 (.tmp 7) (.tmp 50) rfl X #[.int .i64 cx, .int .i64 cy, .slice ca cn cc] rfl rfl 54 _ HXx.out tab_info rfl (cells3_one _ _ _ _ _) ?_
              have HI9 : Hid (TInv B g T R C w a n c rs l (q + 1 + 1 + 1 + 1) (WX.setRow X #[.int .i64 cx, .int .i64 cy, .slice ca cn cc])) := HIx.out.setRow X HXx.out hTX _
              have HX9 : Hid (RowAt (WX.setRow X #[.int .i64 cx, .int .i64 cy, .slice ca cn cc]) X #[.int .i64 cx, .int .i64 cy, .slice ca cn cc] 54) := HXx.out.setRow _
              have HO9 : Hid (OwnT (WX.setRow X #[.int .i64 cx, .int .i64 cy, .slice ca cn cc]) w.heap.size (.slice ca cn cc) rs' cl') := HOC.out.setRowT HXx.out _
              generalize (WX.setRow X #[.int .i64 cx, .int .i64 cy, .slice ca cn cc]) = W9 at HI9 HX9 HO9 ⊢
              clear HIx HXx HOC hHeld
              refine hK.out _ _ HI9.out.row (fun hHeld => ?_)
              clear hK K
              simp only [Act.put]
              refine take_at 23 8 (.bool cg) rfl rfl (by kernel_rfl) (by kernel_rfl) (by kernel_rfl) (fun _ _ _ h => h) (Or.inl ⟨by kernel_rfl, fun w' hS' => by go_simp⟩) hHeld ?_
              (try simp only [Act.put, List.setIfInBounds_toArray])
              refine wpAnyH_done (by kernel_rfl) ?_ _
              refine NoPanic.normal ?_
              go_wp2_with fail
              go_meet
              exact ⟨X, cx, cy, ca, cn, cc, rs', cl', cg, rfl, rfl, HX9.out, hTX, HI9.out, HO9.out, HSC.out⟩
            · skip
              go_simp
              have HIx : Hid (TInv B g T R C w a n c rs l (q + 1 + 1 + 1 + 1) (W2.alloc (.cells #[.int .i64 0, .int .i64 0, .slice none 0 0] 54))) := HI2.out.alloc _
              have HXx : Hid (RowAt (W2.alloc (.cells #[.int .i64 0, .int .i64 0, .slice none 0 0] 54)) W2.heap.size #[.int .i64 0, .int .i64 0, .slice none 0 0] 54) := rowAt_new _ _ _
              refine hK.out _ _ HIx.out.row (fun hHeld => ?_)
              clear hK K
              (try simp only [Act.put, List.setIfInBounds_toArray, List.set_cons_zero, List.set_cons_succ])
              obtain ⟨X, hX⟩ : ∃ X, W2.heap.size = X := ⟨_, rfl⟩
              generalize (W2.alloc (.cells #[.int .i64 0, .int .i64 0, .slice none 0 0] 54)) = WX at HIx HXx hHeld ⊢
              rw [hX] at HXx ⊢
              have hTX : T < X := by omega
              have hXg : X ≠ g := by omega
              clear hX HI2
              have zX : T < WX.heap.size := HIx.out.2.2.2.2.2.1
              refine wpAnyH_ready (rs := [17]) (by kernel_rfl) (by simp) ?_
              refine AllReadyH.cons rfl (fun K hK => ?_) AllReadyH.nil
              go_simp
              go_at_call 92
              refine (specTableMerge_any R C row col (1 + xA) (1 + xB) a n c l _ HIx.out.own.tab).mono ?_
              rintro e W3x ⟨hresC, hbC⟩
              obtain ⟨⟨cx, cy, ca, cn, cc, cl', cg, rfl, hFC⟩, -⟩ := fResM_of ⟨hresC, hbC⟩
              have HI3x : Hid (TInv B g T R C w a n c rs l (q + 1 + 1 + 1 + 1) W3x) := HIx.out.below hbC
              have HX3 : Hid (RowAt W3x X #[.int .i64 0, .int .i64 0, .slice none 0 0] 54) := HXx.out.below hbC HXx.out.lt
              obtain ⟨⟨rs', hO0⟩, hF1, hF2⟩ := hFC
              have HOC : Hid (OwnT W3x w.heap.size (.slice ca cn cc) rs' cl') := OwnT.less hO0 (by omega)
              have HSC : Hid (cg = true → cx = R ∧ cy = C ∧ TabSm R C cl') := fun hg => by obtain ⟨e1, e2, e3⟩ := hF2 hg; exact ⟨e1, e2, by rw [e3]; exact tabSm_merge HSm.out (hF1.symm.trans hg)⟩
              have z3 : T < W3x.heap.size := HI3x.out.2.2.2.2.2.1
              clear hO0 hF1 hF2 hresC hbC HIx hHeld HXx
              go_wp2_with fail
              refine hK.out _ _ HI3x.out.row (fun hHeld => ?_)
              clear hK K
              (try simp only [Act.put, List.setIfInBounds_toArray, List.set_cons_zero, List.set_cons_succ])
              refine take_at 18 31 (.tuple #[.agg #[.int .i64 cx, .int .i64 cy, .slice ca cn cc], .bool cg]) rfl rfl (by kernel_rfl) (by kernel_rfl) (by kernel_rfl) (fun _ _ _ h => h) (Or.inl ⟨by kernel_rfl, fun w' hS' => by go_simp⟩) hHeld ?_
              (try simp only [Act.put, List.setIfInBounds_toArray, List.set_cons_zero, List.set_cons_succ])
              refine take_at 19 50 (.agg #[.int .i64 cx, .int .i64 cy, .slice ca cn cc]) rfl rfl (by kernel_rfl) (by kernel_rfl) (by kernel_rfl) (fun _ _ _ h => h) (Or.inl ⟨by kernel_rfl, fun w' hS' => by go_simp⟩) hHeld ?_
              (try simp only [Act.put, List.setIfInBounds_toArray, List.set_cons_zero, List.set_cons_succ])
              refine take_at 20 51 (.bool cg) rfl rfl (by kernel_rfl) (by kernel_rfl) (by kernel_rfl) (fun _ _ _ h => h) (Or.inl ⟨by kernel_rfl, fun w' hS' => by go_simp⟩) hHeld ?_
              (try simp only [Act.put, List.setIfInBounds_toArray, List.set_cons_zero, List.set_cons_succ])
              refine wpAnyH_ready (rs := [22]) (by kernel_rfl) (by simp) ?_
              refine AllReadyH.cons rfl (fun K hK => ?_) AllReadyH.nil
              rw [if_pos (by kernel_rfl)]
              refine wp_store_row 54 (.tmp 7) (.tmp 50) rfl X #[.int .i64 cx, .int .i64 cy, .slice ca cn cc] rfl rfl 54 _ HX3.out tab_info rfl (cells3_one _ _ _ _ _) ?_
              have HI9 : Hid (TInv B g T R C w a n c rs l (q + 1 + 1 + 1 + 1) (W3x.setRow X #[.int .i64 cx, .int .i64 cy, .slice ca cn cc])) := HI3x.out.setRow X HX3.out hTX _
              have HX9 : Hid (RowAt (W3x.setRow X #[.int .i64 cx, .int .i64 cy, .slice ca cn cc]) X #[.int .i64 cx, .int .i64 cy, .slice ca cn cc] 54) := HX3.out.setRow _
              have HO9 : Hid (OwnT (W3x.setRow X #[.int .i64 cx, .int .i64 cy, .slice ca cn cc]) w.heap.size (.slice ca cn cc) rs' cl') := HOC.out.setRowT HX3.out _
              generalize (W3x.setRow X #[.int .i64 cx, .int .i64 cy, .slice ca cn cc]) = W9 at HI9 HX9 HO9 ⊢
              clear HI3x HX3 HOC hHeld
              refine hK.out _ _ HI9.out.row (fun hHeld => ?_)
              clear hK K
              simp only [Act.put]
              refine take_at 23 8 (.bool cg) rfl rfl (by kernel_rfl) (by kernel_rfl) (by kernel_rfl) (fun _ _ _ h => h) (Or.inl ⟨by kernel_rfl, fun w' hS' => by go_simp⟩) hHeld ?_
              (try simp only [Act.put, List.setIfInBounds_toArray])
              refine wpAnyH_done (by kernel_rfl) ?_ _
              refine NoPanic.normal ?_
              go_wp2_with fail
              go_meet
              exact ⟨X, cx, cy, ca, cn, cc, rs', cl', cg, rfl, rfl, HX9.out, hTX, HI9.out, HO9.out, HSC.out⟩
          · skip
            go_simp
            have HIx : Hid (TInv B g T R C w a n c rs l (q + 1 + 1 + 1) (W1.alloc (.cells #[.int .i64 0, .int .i64 0, .slice none 0 0] 54))) := HI1.out.alloc _
            have HXx : Hid (RowAt (W1.alloc (.cells #[.int .i64 0, .int .i64 0, .slice none 0 0] 54)) W1.heap.size #[.int .i64 0, .int .i64 0, .slice none 0 0] 54) := rowAt_new _ _ _
            refine hK.out _ _ HIx.out.row (fun hHeld => ?_)
            clear hK K
            (try simp only [Act.put, List.setIfInBounds_toArray, List.set_cons_zero, List.set_cons_succ])
            obtain ⟨X, hX⟩ : ∃ X, W1.heap.size = X := ⟨_, rfl⟩
            generalize (W1.alloc (.cells #[.int .i64 0, .int .i64 0, .slice none 0 0] 54)) = WX at HIx HXx hHeld ⊢
            rw [hX] at HXx ⊢
            have hTX : T < X := by omega
            have hXg : X ≠ g := by omega
            clear hX HI1
            have zX : T < WX.heap.size := HIx.out.2.2.2.2.2.1
            refine wpAnyH_ready (rs := [15]) (by kernel_rfl) (by simp) ?_
            refine AllReadyH.cons rfl (fun K hK => ?_) AllReadyH.nil
            go_simp
            go_at_call 60
            refine (pick_any B g (q + 1 + 1 + 1) ((C : Int) - col) _ HIx.out.rd (by omega) (by omega) (by omega)).mono ?_
            rintro e W2x ⟨xB, rfl, hB0, hB1, hrB, hgB⟩
            have HI2x : Hid (TInv B g T R C w a n c rs l (q + 1 + 1 + 1 + 1) W2x) := HIx.out.grown hgB hrB
            have HX2 : Hid (RowAt W2x X #[.int .i64 0, .int .i64 0, .slice none 0 0] 54) := HXx.out.fr (fr_grown hgB) hXg
            have z2 : T < W2x.heap.size := HI2x.out.2.2.2.2.2.1
            clear hgB hrB HIx hHeld HXx
            go_wp2_with fail
            refine hK.out _ _ HI2x.out.row (fun hHeld => ?_)
            clear hK K
            (try simp only [Act.put, List.setIfInBounds_toArray, List.set_cons_zero, List.set_cons_succ])
            refine take_at 16 48 (.int .i64 (1 + xB)) rfl rfl (by kernel_rfl) (by kernel_rfl) (by kernel_rfl) (fun _ _ _ h => h) (Or.inl ⟨by kernel_rfl, fun w' hS' => by go_simp; rw [IntKind.wrap_i64]; omega⟩) hHeld ?_
            (try simp only [Act.put, List.setIfInBounds_toArray, List.set_cons_zero, List.set_cons_succ])
            refine wpAnyH_ready (rs := [17]) (by kernel_rfl) (by simp) ?_
            refine AllReadyH.cons rfl (fun K hK => ?_) AllReadyH.nil
            go_simp
            go_at_call 92
            refine (specTableMerge_any R C row col (1 + xA) (1 + xB) a n c l _ HI2x.out.own.tab).mono ?_
            rintro e W3x ⟨hresC, hbC⟩
            obtain ⟨⟨cx, cy, ca, cn, cc, cl', cg, rfl, hFC⟩, -⟩ := fResM_of ⟨hresC, hbC⟩
            have HI3x : Hid (TInv B g T R C w a n c rs l (q + 1 + 1 + 1 + 1) W3x) := HI2x.out.below hbC
            have HX3 : Hid (RowAt W3x X #[.int .i64 0, .int .i64 0, .slice none 0 0] 54) := HX2.out.below hbC HX2.out.lt
            obtain ⟨⟨rs', hO0⟩, hF1, hF2⟩ := hFC
            have HOC : Hid (OwnT W3x w.heap.size (.slice ca cn cc) rs' cl') := OwnT.less hO0 (by omega)
            have HSC : Hid (cg = true → cx = R ∧ cy = C ∧ TabSm R C cl') := fun hg => by obtain ⟨e1, e2, e3⟩ := hF2 hg; exact ⟨e1, e2, by rw [e3]; exact tabSm_merge HSm.out (hF1.symm.trans hg)⟩
            have z3 : T < W3x.heap.size := HI3x.out.2.2.2.2.2.1
            clear hO0 hF1 hF2 hresC hbC HI2x hHeld HX2
            go_wp2_with fail
            refine hK.out _ _ HI3x.out.row (fun hHeld => ?_)
            clear hK K
            (try simp only [Act.put, List.setIfInBounds_toArray, List.set_cons_zero, List.set_cons_succ])
            refine take_at 18 31 (.tuple #[.agg #[.int .i64 cx, .int .i64 cy, .slice ca cn cc], .bool cg]) rfl rfl (by kernel_rfl) (by kernel_rfl) (by kernel_rfl) (fun _ _ _ h => h) (Or.inl ⟨by kernel_rfl, fun w' hS' => by go_simp⟩) hHeld ?_
            (try simp only [Act.put, List.setIfInBounds_toArray, List.set_cons_zero, List.set_cons_succ])
            refine take_at 19 50 (.agg #[.int .i64 cx, .int .i64 cy, .slice ca cn cc]) rfl rfl (by kernel_rfl) (by kernel_rfl) (by kernel_rfl) (fun _ _ _ h => h) (Or.inl ⟨by kernel_rfl, fun w' hS' => by go_simp⟩) hHeld ?_
            (try simp only [Act.put, List.setIfInBounds_toArray, List.set_cons_zero, List.set_cons_succ])
            refine take_at 20 51 (.bool cg) rfl rfl (by kernel_rfl) (by kernel_rfl) (by kernel_rfl) (fun _ _ _ h => h) (Or.inl ⟨by kernel_rfl, fun w' hS' => by go_simp⟩) hHeld ?_
            (try simp only [Act.put, List.setIfInBounds_toArray, List.set_cons_zero, List.set_cons_succ])
            refine wpAnyH_ready (rs := [22]) (by kernel_rfl) (by simp) ?_
            refine AllReadyH.cons rfl (fun K hK => ?_) AllReadyH.nil
            rw [if_pos (by kernel_rfl)]
            refine wp_store_row 54 (.tmp 7) (.tmp 50) rfl X #[.int .i64 cx, .int .i64 cy, .slice ca cn cc] rfl rfl 54 _ HX3.out tab_info rfl (cells3_one _ _ _ _ _) ?_
            have HI9 : Hid (TInv B g T R C w a n c rs l (q + 1 + 1 + 1 + 1) (W3x.setRow X #[.int .i64 cx, .int .i64 cy, .slice ca cn cc])) := HI3x.out.setRow X HX3.out hTX _
            have HX9 : Hid (RowAt (W3x.setRow X #[.int .i64 cx, .int .i64 cy, .slice ca cn cc]) X #[.int .i64 cx, .int .i64 cy, .slice ca cn cc] 54) := HX3.out.setRow _
            have HO9 : Hid (OwnT (W3x.setRow X #[.int .i64 cx, .int .i64 cy, .slice ca cn cc]) w.heap.size (.slice ca cn cc) rs' cl') := HOC.out.setRowT HX3.out _
            generalize (W3x.setRow X #[.int .i64 cx, .int .i64 cy, .slice ca cn cc]) = W9 at HI9 HX9 HO9 ⊢
            clear HI3x HX3 HOC hHeld
            refine hK.out _ _ HI9.out.row (fun hHeld => ?_)
            clear hK K
            simp only [Act.put]
            refine take_at 23 8 (.bool cg) rfl rfl (by kernel_rfl) (by kernel_rfl) (by kernel_rfl) (fun _ _ _ h => h) (Or.inl ⟨by kernel_rfl, fun w' hS' => by go_simp⟩) hHeld ?_
            (try simp only [Act.put, List.setIfInBounds_toArray])
            refine wpAnyH_done (by kernel_rfl) ?_ _
            refine NoPanic.normal ?_
            go_wp2_with fail
            go_meet
            exact ⟨X, cx, cy, ca, cn, cc, rs', cl', cg, rfl, rfl, HX9.out, hTX, HI9.out, HO9.out, HSC.out⟩
        · skip
          go_simp
          have HIx : Hid (TInv B g T R C w a n c rs l (q + 1 + 1) (W0.alloc (.cells #[.int .i64 0, .int .i64 0, .slice none 0 0] 54))) := HI0.out.alloc _
          have HXx : Hid (RowAt (W0.alloc (.cells #[.int .i64 0, .int .i64 0, .slice none 0 0] 54)) W0.heap.size #[.int .i64 0, .int .i64 0, .slice none 0 0] 54) := rowAt_new _ _ _
          refine hK.out _ _ HIx.out.row (fun hHeld => ?_)
          clear hK K
          (try simp only [Act.put, List.setIfInBounds_toArray, List.set_cons_zero, List.set_cons_succ])
          obtain ⟨X, hX⟩ : ∃ X, W0.heap.size = X := ⟨_, rfl⟩
          generalize (W0.alloc (.cells #[.int .i64 0, .int .i64 0, .slice none 0 0] 54)) = WX at HIx HXx hHeld ⊢
          rw [hX] at HXx ⊢
          have hTX : T < X := by omega
          have hXg : X ≠ g := by omega
          clear hX HI0
          have zX : T < WX.heap.size := HIx.out.2.2.2.2.2.1
          refine wpAnyH_ready (rs := [8]) (by kernel_rfl) (by simp) ?_
          refine AllReadyH.cons rfl (fun K hK => ?_) AllReadyH.nil
          go_simp
          go_at_call 60
          refine (pick_any B g (q + 1 + 1) ((R : Int) - row) _ HIx.out.rd (by omega) (by omega) (by omega)).mono ?_
          rintro e W1x ⟨xA, rfl, hA0, hA1, hrA, hgA⟩
          have HI1x : Hid (TInv B g T R C w a n c rs l (q + 1 + 1 + 1) W1x) := HIx.out.grown hgA hrA
          have HX1 : Hid (RowAt W1x X #[.int .i64 0, .int .i64 0, .slice none 0 0] 54) := HXx.out.fr (fr_grown hgA) hXg
          have z1 : T < W1x.heap.size := HI1x.out.2.2.2.2.2.1
          clear hgA hrA HIx hHeld HXx
          go_wp2_with fail
          refine hK.out _ _ HI1x.out.row (fun hHeld => ?_)
          clear hK K
          (try simp only [Act.put, List.setIfInBounds_toArray, List.set_cons_zero, List.set_cons_succ])
          refine take_at 9 41 (.int .i64 (1 + xA)) rfl rfl (by kernel_rfl) (by kernel_rfl) (by kernel_rfl) (fun _ _ _ h => h) (Or.inl ⟨by kernel_rfl, fun w' hS' => by go_simp; rw [IntKind.wrap_i64]; omega⟩) hHeld ?_
          (try simp only [Act.put, List.setIfInBounds_toArray, List.set_cons_zero, List.set_cons_succ])
          refine wpAnyH_ready (rs := [15]) (by kernel_rfl) (by simp) ?_
          refine AllReadyH.cons rfl (fun K hK => ?_) AllReadyH.nil
          go_simp
          go_at_call 60
          refine (pick_any B g (q + 1 + 1 + 1) ((C : Int) - col) _ HI1x.out.rd (by omega) (by omega) (by omega)).mono ?_
          rintro e W2x ⟨xB, rfl, hB0, hB1, hrB, hgB⟩
          have HI2x : Hid (TInv B g T R C w a n c rs l (q + 1 + 1 + 1 + 1) W2x) := HI1x.out.grown hgB hrB
          have HX2 : Hid (RowAt W2x X #[.int .i64 0, .int .i64 0, .slice none 0 0] 54) := HX1.out.fr (fr_grown hgB) hXg
          have z2 : T < W2x.heap.size := HI2x.out.2.2.2.2.2.1
          clear hgB hrB HI1x hHeld HX1
          go_wp2_with fail
          refine hK.out _ _ HI2x.out.row (fun hHeld => ?_)
          clear hK K
          (try simp only [Act.put, List.setIfInBounds_toArray, List.set_cons_zero, List.set_cons_succ])
          refine take_at 16 48 (.int .i64 (1 + xB)) rfl rfl (by kernel_rfl) (by kernel_rfl) (by kernel_rfl) (fun _ _ _ h => h) (Or.inl ⟨by kernel_rfl, fun w' hS' => by go_simp; rw [IntKind.wrap_i64]; omega⟩) hHeld ?_
          (try simp only [Act.put, List.setIfInBounds_toArray, List.set_cons_zero, List.set_cons_succ])
          refine wpAnyH_ready (rs := [17]) (by kernel_rfl) (by simp) ?_
          refine AllReadyH.cons rfl (fun K hK => ?_) AllReadyH.nil
          go_simp
          go_at_call 92
          refine (specTableMerge_any R C row col (1 + xA) (1 + xB) a n c l _ HI2x.out.own.tab).mono ?_
          rintro e W3x ⟨hresC, hbC⟩
          obtain ⟨⟨cx, cy, ca, cn, cc, cl', cg, rfl, hFC⟩, -⟩ := fResM_of ⟨hresC, hbC⟩
          have HI3x : Hid (TInv B g T R C w a n c rs l (q + 1 + 1 + 1 + 1) W3x) := HI2x.out.below hbC
          have HX3 : Hid (RowAt W3x X #[.int .i64 0, .int .i64 0, .slice none 0 0] 54) := HX2.out.below hbC HX2.out.lt
          obtain ⟨⟨rs', hO0⟩, hF1, hF2⟩ := hFC
          have HOC : Hid (OwnT W3x w.heap.size (.slice ca cn cc) rs' cl') := OwnT.less hO0 (by omega)
          have HSC : Hid (cg = true → cx = R ∧ cy = C ∧ TabSm R C cl') := fun hg => by obtain ⟨e1, e2, e3⟩ := hF2 hg; exact ⟨e1, e2, by rw [e3]; exact tabSm_merge HSm.out (hF1.symm.trans hg)⟩
          have z3 : T < W3x.heap.size := HI3x.out.2.2.2.2.2.1
          clear hO0 hF1 hF2 hresC hbC HI2x hHeld HX2
          go_wp2_with fail
          refine hK.out _ _ HI3x.out.row (fun hHeld => ?_)
          clear hK K
          (try simp only [Act.put, List.setIfInBounds_toArray, List.set_cons_zero, List.set_cons_succ])
          refine take_at 18 31 (.tuple #[.agg #[.int .i64 cx, .int .i64 cy, .slice ca cn cc], .bool cg]) rfl rfl (by kernel_rfl) (by kernel_rfl) (by kernel_rfl) (fun _ _ _ h => h) (Or.inl ⟨by kernel_rfl, fun w' hS' => by go_simp⟩) hHeld ?_
          (try simp only [Act.put, List.setIfInBounds_toArray, List.set_cons_zero, List.set_cons_succ])
          refine take_at 19 50 (.agg #[.int .i64 cx, .int .i64 cy, .slice ca cn cc]) rfl rfl (by kernel_rfl) (by kernel_rfl) (by kernel_rfl) (fun _ _ _ h => h) (Or.inl ⟨by kernel_rfl, fun w' hS' => by go_simp⟩) hHeld ?_
          (try simp only [Act.put, List.setIfInBounds_toArray, List.set_cons_zero, List.set_cons_succ])
          refine take_at 20 51 (.bool cg) rfl rfl (by kernel_rfl) (by kernel_rfl) (by kernel_rfl) (fun _ _ _ h => h) (Or.inl ⟨by kernel_rfl, fun w' hS' => by go_simp⟩) hHeld ?_
          (try simp only [Act.put, List.setIfInBounds_toArray, List.set_cons_zero, List.set_cons_succ])
          refine wpAnyH_ready (rs := [22]) (by kernel_rfl) (by simp) ?_
          refine AllReadyH.cons rfl (fun K hK => ?_) AllReadyH.nil
          rw [if_pos (by kernel_rfl)]
          refine wp_store_row 54 (.tmp 7) (.tmp 50) rfl X #[.int .i64 cx, .int .i64 cy, .slice ca cn cc] rfl rfl 54 _ HX3.out tab_info rfl (cells3_one _ _ _ _ _) ?_
          have HI9 : Hid (TInv B g T R C w a n c rs l (q + 1 + 1 + 1 + 1) (W3x.setRow X #[.int .i64 cx, .int .i64 cy, .slice ca cn cc])) := HI3x.out.setRow X HX3.out hTX _
          have HX9 : Hid (RowAt (W3x.setRow X #[.int .i64 cx, .int .i64 cy, .slice ca cn cc]) X #[.int .i64 cx, .int .i64 cy, .slice ca cn cc] 54) := HX3.out.setRow _
          have HO9 : Hid (OwnT (W3x.setRow X #[.int .i64 cx, .int .i64 cy, .slice ca cn cc]) w.heap.size (.slice ca cn cc) rs' cl') := HOC.out.setRowT HX3.out _
          generalize (W3x.setRow X #[.int .i64 cx, .int .i64 cy, .slice ca cn cc]) = W9 at HI9 HX9 HO9 ⊢
          clear HI3x HX3 HOC hHeld
          refine hK.out _ _ HI9.out.row (fun hHeld => ?_)
          clear hK K
          simp only [Act.put]
          refine take_at 23 8 (.bool cg) rfl rfl (by kernel_rfl) (by kernel_rfl) (by kernel_rfl) (fun _ _ _ h => h) (Or.inl ⟨by kernel_rfl, fun w' hS' => by go_simp⟩) hHeld ?_
          (try simp only [Act.put, List.setIfInBounds_toArray])
          refine wpAnyH_done (by kernel_rfl) ?_ _
          refine NoPanic.normal ?_
          go_wp2_with fail
          go_meet
          exact ⟨X, cx, cy, ca, cn, cc, rs', cl', cg, rfl, rfl, HX9.out, hTX, HI9.out, HO9.out, HSC.out⟩
      case rest =>
        clear HI7
        obtain ⟨X, x', y', a', n', c', rs', l', b, rfl, rfl, hX, hTX, hI, hO', hS'⟩ := hcut
        have HX : Hid (RowAt wc X #[.int .i64 x', .int .i64 y', .slice a' n' c'] 54) := hX
        have HI : Hid (TInv B g T R C w a n c rs l (q + 1 + 1 + 1 + 1) wc) := hI
        have HO' : Hid (OwnT wc w.heap.size (.slice a' n' c') rs' l') := hO'
        have HSb : Hid (b = true → x' = R ∧ y' = C ∧ TabSm R C l') := hS'
        clear hX hI hO' hS'
        cases b
        · go_wp2_with fail
          go_roundw
          case rel => exact ⟨k - 1, a, n, c, rs, l, q + 1 + 1 + 1 + 1, congrArg (Value.int .i64) (by omega), by omega, HI.out.1, HI.out.2.1, HSm.out, HI.out.2.2.2.1, by omega, HI.out.2.2.1, HI.out.2.2.2.2.1, HI.out.2.2.2.2.2.1⟩
          case measure => simp [intOf]; omega
        · obtain ⟨rfl, rfl, hsm'⟩ := HSb.out rfl
          have HSm' : Hid (TabSm R C l') := hsm'
          have HTr : Hid (RowAt wc T #[.int .i64 R, .int .i64 C, .slice a n c] 54) := HI.out.1
          clear hsm' HSb
          go_wp2_with (first | (refine wpList_load_row rfl 54 (.tmp 7) rfl X rfl 54 #[.int .i64 R, .int .i64 C, .slice a' n' c'] (0, 0) _ HX.out Tryz.underlying54 rfl tab_info ?_) | (refine wpList_store_row rfl 54 (.tmp 3) (.tmp 53) rfl T #[.int .i64 R, .int .i64 C, .slice a' n' c'] rfl rfl 54 _ HTr.out tab_info rfl (cells3_one _ _ _ _ _) ?_))
          go_roundw
          case rel =>
            have bT : Below T wc (wc.setRow T #[.int .i64 R, .int .i64 C, .slice a' n' c']) := below_row (Below.refl _ _) (Nat.le_refl _) _
            exact ⟨k - 1, a', n', c', rs', l', q + 1 + 1 + 1 + 1, congrArg (Value.int .i64) (by omega), by omega, HTr.out.setRow _, HO'.out.setRowT HTr.out _, HSm'.out, HI.out.2.2.2.1.below bT (by omega), by omega, HI.out.2.2.1.setRowOther _ _ (by omega), HI.out.2.2.2.2.1.below (bT.mono (by omega)), Nat.lt_of_lt_of_le HI.out.2.2.2.2.2.1 bT.size⟩
          case measure => simp [intOf]; omega
end Go.Proofs.YtccoeachemnbnaaGreatDoor
namespace Go.Proofs.YtccoeachemnbnaaGreatDoor
open Go.RowKit

theorem flat_oneCell (l : List Sg) : ∀ u ∈ flat l, u.oneCell' = true := by
  intro u hu
  simp only [flat, List.mem_flatMap] at hu
  obtain ⟨s, _, hs⟩ := hu
  exact three_oneCell _ _ _ u hs

section
variable {P : Program}
/-- 'append(v, x...)', v not nil and owned, x owned (it may be nil). -/
theorem run_append_two (w : World) (t ty : TypeId) (base base' : Nat) (e : TypeId) (i : TypeInfo) (z : Value) (size bytes : Nat) (ht : P.underlying t = some (.slice e)) (hi : P.info? e = some i) (hz : i.zero = some z)
    (hsize : i.size = size) (hby : i.bytes = bytes) (hzs : z.cells.size = size) (hsz : 0 < size)
    (k n cap : Nat) (xs : List Value) (hown : w.ownsRow base e size (.slice (some ⟨k, 0, none⟩) n cap) n xs)
    (xa : Option Addr) (m c : Nat) (news : List Value) (hsrc : w.ownsRow base' e size (.slice xa m c) m news) (h1 : ∀ u ∈ news, u.oneCell' = true)
    (h63 : n + m ≤ maxLen) (hbytes : (n + m) * bytes ≤ 140737488355328) (hbase : base ≤ w.heap.size) :
    ∃ g cap' w', (Builtin.append_ #[t, t] ty #[.slice (some ⟨k, 0, none⟩) n cap, .slice xa m c]).run P w = .ok (.slice (some ⟨g, 0, none⟩) (n + m) cap') w' ∧
      w'.ownsRow base e size (.slice (some ⟨g, 0, none⟩) (n + m) cap') (n + m) (xs ++ news) ∧ w.grownBy w' (some k) := by
  rcases hsrc.2 with ⟨hv, h0⟩ | ⟨g', cap', cur, hv, r⟩
  · simp only [Value.slice.injEq] at hv
    obtain ⟨rfl, rfl, rfl⟩ := hv
    have hnil : news = [] := List.eq_nil_of_length_eq_zero (by simpa using hsrc.1)
    subst hnil
    refine ⟨k, cap, w, run_append_owned_none (P := P) w base t ty e i size ht hi _ n xs hown, by simpa using hown, ⟨rfl, rfl, rfl, Nat.le_refl _, fun _ _ _ => rfl⟩⟩
  · simp only [Value.slice.injEq, true_and] at hv
    obtain ⟨rfl, rfl⟩ := hv
    obtain ⟨v', w', hr, h2, h3, h4, _⟩ := run_append_own_at (P := P) w base t ty e i z size bytes ht hi hz hsize hby hzs hsz _ n xs hown ⟨g', 0, none⟩ m c news hsrc.1 (hsrc.cells (g := g') rfl) h1 h63 hbytes hbase
    rcases h2.2 with ⟨hnil, _⟩ | ⟨q, cq, cu, hq, _⟩
    · exact absurd (h4.1 hnil).1 (by simp)
    · subst hq
      exact ⟨q, cq, w', hr, h2, h3⟩

theorem step_append_two (w : World) {ops : Array Oper} {o : Oper} {a : Act} {K : Act → World → Prop} {Q : Exit → Act → World → Prop} {E : Prop} (hgd : o.guard = none) (s x : Operand) (t : TypeId)
    (ho : o.op = .call { callee := .builtin .append, args := #[s, x], argTypes := #[t, t] })
    (base base' : Nat) (e : TypeId) (i : TypeInfo) (z : Value) (size bytes : Nat) (ht : P.underlying t = some (.slice e)) (hi : P.info? e = some i) (hz : i.zero = some z)
    (hsize : i.size = size) (hby : i.bytes = bytes) (hzs : z.cells.size = size) (hsz : 0 < size)
    (k n cap : Nat) (xs : List Value) (hs : a.eval s = .slice (some ⟨k, 0, none⟩) n cap) (hown : w.ownsRow base e size (.slice (some ⟨k, 0, none⟩) n cap) n xs)
    (xa : Option Addr) (m c : Nat) (news : List Value) (hx : a.eval x = .slice xa m c) (hsrc : w.ownsRow base' e size (.slice xa m c) m news) (h1 : ∀ u ∈ news, u.oneCell' = true)
    (h63 : n + m ≤ maxLen) (hbytes : (n + m) * bytes ≤ 140737488355328) (hbase : base ≤ w.heap.size) (nm : Nat) (hnm : n + m = nm)
    (h : ∀ g cap' w', w'.ownsRow base e size (.slice (some ⟨g, 0, none⟩) nm cap') nm (xs ++ news) → w.grownBy w' (some k) → K (a.put o.dst (.slice (some ⟨g, 0, none⟩) nm cap')) w') :
    if Region.wanted o (yielded ops a.tmps) = true then Oper.wp P o a w K Q else E := by
  subst hnm
  have hw : Region.wanted o (yielded ops a.tmps) = true := by simp [Region.wanted, hgd]
  rw [if_pos hw]
  obtain ⟨g, cap', w', hr, h2, h3⟩ := run_append_two (P := P) w t o.type base base' e i z size bytes ht hi hz hsize hby hzs hsz k n cap xs hown xa m c news hsrc h1 h63 hbytes hbase
  unfold Oper.wp execOp
  simp only [ho, resolve, invoke, builtin, Sem.run_bind, Sem.run_pure, Result.andThen_ok, List.map_toArray, List.map_cons, List.map_nil, hs, hx, hr]
  exact h g cap' w' h2 h3
end

theorem Own.base {w : World} {B B' : Nat} {v : Value} {l : List Sg} (h : Own w B' v l) (hB : B ≤ B') : Own w B v l :=
  ⟨h.1, h.2.elim .inl (fun ⟨g, cap, cur, x, y, z⟩ => .inr ⟨g, cap, cur, x, Nat.le_trans hB y, z⟩)⟩
theorem heap_two_first (w : World) (o1 o2 : Obj) : ((w.alloc o1).alloc o2).heap[w.heap.size]? = some o1 := (Below.heap_alloc _ _ _ (by simp)).trans (heap_alloc_new w o1)
theorem heap_two_second (w : World) (o1 o2 : Obj) : ((w.alloc o1).alloc o2).heap[w.heap.size + 1]? = some o2 := by simpa using heap_alloc_new (w.alloc o1) o2
theorem own_empty_at {w : World} {C k : Nat} (hk : C ≤ k) (h : w.heap[k]? = some (.cells #[] 82 (0, 0))) : w.ownsRow C 82 3 (.slice (some ⟨k, 0, none⟩) 0 0) 0 [] :=
  ⟨rfl, .inr ⟨k, 0, #[], rfl, hk, h, Nat.le_refl _, Nat.zero_le _, rfl, rfl⟩⟩
theorem own_one_at {w : World} {C k : Nat} {s : Sg} (hk : C ≤ k) (h : w.heap[k]? = some (.cells #[.int .u8 s.1, .int .i64 s.2.1, .int .i64 s.2.2] 82 (0, 0))) : w.ownsRow C 82 3 (.slice (some ⟨k, 0, none⟩) 1 1) 1 (sgCells s) :=
  ⟨rfl, .inr ⟨k, 1, _, rfl, hk, h, Nat.le_refl _, by unfold maxLen; omega, rfl, rfl⟩⟩

def lenV : Value → Nat | .slice _ n _ => n | _ => 0

theorem five_cell (w1 w2 : World) (g : Nat) (hg : g < w1.heap.size) (h : (w1.alloc (.cells #[.int .u8 65, .int .u8 10, .int .u8 0, .int .u8 123, .int .u8 47] 5)).grownBy w2 (some g)) (x : Int) (h0 : 0 ≤ x) (h1 : x < 5) :
    ∃ z : Int, w2.cell? ⟨w1.heap.size, x.toNat, none⟩ = some (.int .u8 z) := by
  have e : ∀ o, w2.cell? ⟨w1.heap.size, o, none⟩ = (#[Value.int .u8 65, .int .u8 10, .int .u8 0, .int .u8 123, .int .u8 47])[o]? := fun o =>
    (grown_cell h (by simp) (by omega)).trans (cell_of_row _ _ _ _ _ _ (heap_alloc_new w1 _))
  rcases (show x = 0 ∨ x = 1 ∨ x = 2 ∨ x = 3 ∨ x = 4 from by omega) with rfl | rfl | rfl | rfl | rfl
  · exact ⟨65, e 0⟩
  · exact ⟨10, e 1⟩
  · exact ⟨0, e 2⟩
  · exact ⟨123, e 3⟩
  · exact ⟨47, e 4⟩
theorem two_cell (w1 w2 : World) (g : Nat) (hg : g < w1.heap.size) (h : (w1.alloc (.cells #[.int .i64 (-1), .int .i64 4] 3)).grownBy w2 (some g)) (x : Int) (h0 : 0 ≤ x) (h1 : x < 2) :
    ∃ z : Int, w2.cell? ⟨w1.heap.size, x.toNat, none⟩ = some (.int .i64 z) := by
  have e : ∀ o, w2.cell? ⟨w1.heap.size, o, none⟩ = (#[Value.int .i64 (-1), .int .i64 4])[o]? := fun o =>
    (grown_cell h (by simp) (by omega)).trans (cell_of_row _ _ _ _ _ _ (heap_alloc_new w1 _))
  rcases (show x = 0 ∨ x = 1 from by omega) with rfl | rfl
  · exact ⟨-1, e 0⟩
  · exact ⟨4, e 1⟩

set_option maxRecDepth 100000 in
set_option maxHeartbeats 4000000 in
theorem l71Bad_any (B g p C : Nat) (a : Option Addr) (n c : Nat) (l : List Sg) (w : World) (h : Rd B w g p) (hp : p ≤ 200000) (ho : Own w C (.slice a n c) l) (hgC : g < C) (hC : C ≤ w.heap.size) (hn : n ≤ 24) :
    Calls Tryz.prog 78 #[.pointer (some ⟨g, 0, none⟩), .slice a n c] w fun e w' => ∃ (v : Value) (l' : List Sg) (q : Nat), e = .returned v ∧ Own w' C v l' ∧ l'.length ≤ 25 ∧ Rd B w' g q ∧ q ≤ p + 40 ∧ Fr C g w w' := by
  have hlt := h.lt
  obtain ⟨i0, hi, hz0, hz1, hz2⟩ := info_parts Tryz.info82
  have HR : Hid (Rd B w g p) := h
  have HO : Hid (Own w C (.slice a n c) l) := ho
  have HL : Hid (n = l.length) := ho.len
  clear h ho
  go_enter Tryz.func78, Tryz.ntmps78
  go_wp2_with fail
  refine (pick_any B g p 6 _ (HR.out.alloc _) (by omega) (by omega) (by omega)).mono ?_
  rintro e w1 ⟨u, rfl, hu0, hu1, hr1, hg1⟩
  have z1 := hg1.size
  simp only [World.size_alloc] at z1
  have hf1 : Fr w.heap.size g w w1 := ((Fr.refl _ _ w).alloc (Nat.le_refl _) _).grown hg1 (by simp)
  have HE : Hid (w1.heap[w.heap.size]? = some (.cells #[.int .u8 120, .int .i64 0, .int .i64 0] 82 (0, 0))) := (hg1.block w.heap.size (by simp) (by simp; omega)).trans (heap_alloc_new w _)
  have HR1 : Hid (Rd B w1 g (p + 1)) := hr1
  clear hr1
  go_upto_block 0 with fail
  go_cut [1] (fun tv wx => tv = .slice a n c ∧ ∃ (s : Sg) (q : Nat), wx.heap[w.heap.size]? = some (.cells #[.int .u8 s.1, .int .i64 s.2.1, .int .i64 s.2.2] 82 (0, 0)) ∧ Rd B wx g q ∧ q ≤ p + 2 ∧ Fr w.heap.size g w wx ∧ w.heap.size < wx.heap.size)
  case first =>
    by_cases h0u : u = 0
    · subst h0u
      go_wp2_with fail
      refine (pick_any B g (p + 1) 5 _ (HR1.out.alloc _) (by omega) (by omega) (by omega)).mono ?_
      rintro e w2 ⟨y, rfl, hy0, hy1, hr2, hg2⟩
      obtain ⟨z, hz⟩ := five_cell w1 w2 g (by omega) hg2 y hy0 hy1
      have z2 := hg2.size
      simp only [World.size_alloc] at z2
      have e2 : w2.heap[w.heap.size]? = some (.cells #[.int .u8 120, .int .i64 0, .int .i64 0] 82 (0, 0)) := (hg2.block w.heap.size (by simp; omega) (by simp; omega)).trans ((Below.heap_alloc w1 _ w.heap.size (by omega)).trans HE.out)
      have HE2 : Hid (w2.heap[w.heap.size]? = some (.cells #[.int .u8 120, .int .i64 0, .int .i64 0] 82 (0, 0))) := e2
      obtain ⟨o0, d0⟩ : ∃ v, w2.cell? ⟨w.heap.size, 0, none⟩ = some v := ⟨_, cell_of_row w2 _ 0 _ _ _ e2⟩
      have f0 : w2.frozen? ⟨w.heap.size, 0, none⟩ = false := frozen_of_row w2 _ 0 _ _ e2
      clear e2
      have HR2 : Hid (Rd B w2 g (p + 2)) := hr2
      clear hr2
      go_wp2_with fail
      go_meet
      exact ⟨rfl, (z, 0, 0), p + 2, (heap_setCell_same w2 _ 0 _ _ _ HE2.out), HR2.out.setCell (by simp; omega) _, by omega, ((hf1.alloc (by omega) _).grown hg2 (by simp; omega)).setCell (by simp) _, by simp [World.setCell]; omega⟩
    · have g0 : (u == 0) = false := by simp; omega
      by_cases h1u : u = 1
      · subst h1u
        go_wp2_with fail
        refine (pick_any B g (p + 1) 2 _ (HR1.out.alloc _) (by omega) (by omega) (by omega)).mono ?_
        rintro e w2 ⟨y, rfl, hy0, hy1, hr2, hg2⟩
        obtain ⟨z, hz⟩ := two_cell w1 w2 g (by omega) hg2 y hy0 hy1
        have z2 := hg2.size
        simp only [World.size_alloc] at z2
        have e2 : w2.heap[w.heap.size]? = some (.cells #[.int .u8 120, .int .i64 0, .int .i64 0] 82 (0, 0)) := (hg2.block w.heap.size (by simp; omega) (by simp; omega)).trans ((Below.heap_alloc w1 _ w.heap.size (by omega)).trans HE.out)
        have HE2 : Hid (w2.heap[w.heap.size]? = some (.cells #[.int .u8 120, .int .i64 0, .int .i64 0] 82 (0, 0))) := e2
        obtain ⟨o0, d0⟩ : ∃ v, w2.cell? ⟨w.heap.size, 1, none⟩ = some v := ⟨_, cell_of_row w2 _ 1 _ _ _ e2⟩
        have f0 : w2.frozen? ⟨w.heap.size, 1, none⟩ = false := frozen_of_row w2 _ 1 _ _ e2
        clear e2
        have HR2 : Hid (Rd B w2 g (p + 2)) := hr2
        clear hr2
        go_wp2_with fail
        go_meet
        exact ⟨rfl, (120, z, 0), p + 2, (heap_setCell_same w2 _ 1 _ _ _ HE2.out), HR2.out.setCell (by simp; omega) _, by omega, ((hf1.alloc (by omega) _).grown hg2 (by simp; omega)).setCell (by simp) _, by simp [World.setCell]; omega⟩
      · have g1 : (u == 1) = false := by simp; omega
        by_cases h2u : u = 2
        · subst h2u
          go_wp2_with fail
          refine (pick_any B g (p + 1) 2 _ (HR1.out.alloc _) (by omega) (by omega) (by omega)).mono ?_
          rintro e w2 ⟨y, rfl, hy0, hy1, hr2, hg2⟩
          obtain ⟨z, hz⟩ := two_cell w1 w2 g (by omega) hg2 y hy0 hy1
          have z2 := hg2.size
          simp only [World.size_alloc] at z2
          have e2 : w2.heap[w.heap.size]? = some (.cells #[.int .u8 120, .int .i64 0, .int .i64 0] 82 (0, 0)) := (hg2.block w.heap.size (by simp; omega) (by simp; omega)).trans ((Below.heap_alloc w1 _ w.heap.size (by omega)).trans HE.out)
          have HE2 : Hid (w2.heap[w.heap.size]? = some (.cells #[.int .u8 120, .int .i64 0, .int .i64 0] 82 (0, 0))) := e2
          obtain ⟨o0, d0⟩ : ∃ v, w2.cell? ⟨w.heap.size, 2, none⟩ = some v := ⟨_, cell_of_row w2 _ 2 _ _ _ e2⟩
          have f0 : w2.frozen? ⟨w.heap.size, 2, none⟩ = false := frozen_of_row w2 _ 2 _ _ e2
          clear e2
          have HR2 : Hid (Rd B w2 g (p + 2)) := hr2
          clear hr2
          go_wp2_with fail
          go_meet
          exact ⟨rfl, (120, 0, z), p + 2, (heap_setCell_same w2 _ 2 _ _ _ HE2.out), HR2.out.setCell (by simp; omega) _, by omega, ((hf1.alloc (by omega) _).grown hg2 (by simp; omega)).setCell (by simp) _, by simp [World.setCell]; omega⟩
        · have g2 : (u == 2) = false := by simp; omega
          by_cases h3u : u = 3
          · subst h3u
            obtain ⟨o1, d1⟩ : ∃ v, w1.cell? ⟨w.heap.size, 1, none⟩ = some v := ⟨_, cell_of_row w1 _ 1 _ _ _ HE.out⟩
            obtain ⟨o2, d2⟩ : ∃ v, w1.cell? ⟨w.heap.size, 2, none⟩ = some v := ⟨_, cell_of_row w1 _ 2 _ _ _ HE.out⟩
            have f1 : w1.frozen? ⟨w.heap.size, 1, none⟩ = false := frozen_of_row w1 _ 1 _ _ HE.out
            have f2 : w1.frozen? ⟨w.heap.size, 2, none⟩ = false := frozen_of_row w1 _ 2 _ _ HE.out
            go_wp2_with fail
            go_meet
            exact ⟨rfl, (120, 2, 2), p + 1, heap_setCell_same _ _ 2 _ _ _ (heap_setCell_same w1 _ 1 _ _ _ HE.out), (HR1.out.setCell (by simp; omega) _).setCell (by simp; omega) _, by omega, (hf1.setCell (by simp) _).setCell (by simp) _, by simp [World.setCell]; omega⟩
          · have g3 : (u == 3) = false := by simp; omega
            by_cases h4u : u = 4
            · subst h4u
              go_wp2_with fail
              go_loopw [1] (fun v wr => ∃ (a : Option Addr) (m c : Nat) (l : List Sg) (q : Nat), v = .slice a m c ∧ m ≤ 25 ∧ Own wr C (.slice a m c) l ∧ (Value.slice a m c).ownBlock ≠ some w.heap.size ∧ wr.heap[w.heap.size]? = some (.cells #[.int .u8 120, .int .i64 0, .int .i64 0] 82 (0, 0)) ∧ Rd B wr g q ∧ q ≤ p + 1 + m ∧ Fr C g w wr ∧ w.heap.size < wr.heap.size) (fun v _ => 26 - lenV v)
              case atStart =>
                exact ⟨a, n, c, l, p + 1, rfl, by omega, HO.out.fr hf1 hgC, fun e => by have := (HO.out.row.lt _ e).2; omega, HE.out, HR1.out, by omega, hf1.mono hC, by omega⟩
              case round =>
                obtain ⟨a, m, c, l, q, rfl, hm, ho, hob, hbx, hr, hq, hf, hz⟩ := hrel
                have HOr : Hid (Own wr C (.slice a m c) l) := ho
                have HLr : Hid (m = l.length) := ho.len
                have HX : Hid (wr.heap[w.heap.size]? = some (.cells #[.int .u8 120, .int .i64 0, .int .i64 0] 82 (0, 0))) := hbx
                have HB : Hid ((Value.slice a m c).ownBlock ≠ some w.heap.size) := hob
                have HRr : Hid (Rd B wr g q) := hr
                have hcap := ho.txt.2.1
                have hcm := ho.txt.2.2.1
                unfold maxLen at hcm
                clear ho hob hbx hr
                go_wp2_with fail
                refine (pick_any B g q 2 _ HRr.out (by omega) (by omega) (by omega)).mono ?_
                rintro e w2 ⟨x, rfl, hx0, hx1, hr2, hg2⟩
                have z2 := hg2.size
                have hfr2 : Fr wr.heap.size g wr w2 := (Fr.refl _ _ wr).grown hg2 (Nat.le_refl _)
                have e2 : w2.heap[w.heap.size]? = some (.cells #[.int .u8 120, .int .i64 0, .int .i64 0] 82 (0, 0)) := (hg2.block w.heap.size hz (by simp; omega)).trans HX.out
                have HX2 : Hid (w2.heap[w.heap.size]? = some (.cells #[.int .u8 120, .int .i64 0, .int .i64 0] 82 (0, 0))) := e2
                have d0 : w2.cell? ⟨w.heap.size, 0, none⟩ = some (.int .u8 120) := by rw [cell_of_row w2 _ 0 _ _ _ e2]; rfl
                have d1 : w2.cell? ⟨w.heap.size, 1, none⟩ = some (.int .i64 0) := by rw [cell_of_row w2 _ 1 _ _ _ e2]; rfl
                have d2 : w2.cell? ⟨w.heap.size, 2, none⟩ = some (.int .i64 0) := by rw [cell_of_row w2 _ 2 _ _ _ e2]; rfl
                clear e2
                have HO2 : Hid (Own w2 C (.slice a m c) l) := HOr.out.fr hfr2 hgC
                have HR2 : Hid (Rd B w2 g (q + 1)) := hr2
                clear hr2
                by_cases hlt2 : (m : Int) < 24 + x
                · go_wp2_with (at_builtin; refine wpList_append_lies _ rfl (.tmp 45) (.tmp 47) 47 rfl C 82 i0 (.agg #[.int .u8 0, .int .i64 0, .int .i64 0]) 3 24 Tryz.underlying47 hi hz0 hz1 hz2 rfl (by omega) (.slice a m c) m (flat l) rfl (HO2.out.row.alloc _) ⟨w2.heap.size, 0, none⟩ 1 1 [.int .u8 120, .int .i64 0, .int .i64 0] rfl rfl (cell_three_new w2 _ _ _ _) (three_oneCell _ _ _) (by omega) (by unfold maxLen; omega) (by omega) (by simp; omega) (w2.heap.size + 1) (by simp) ?_; intro gg cc w3 hown3 hgrow hat hltg)
                  have hr3 : Rd B w3 g (q + 1) := (HR2.out.alloc _).grownAt hgrow (fun k hk => by have := (HO2.out.row.lt k hk).1; omega)
                  have hf3 : Fr C g w w3 := ((hf.trans (hfr2.mono (by omega))).alloc (by omega) _).grownAt hgrow (by simp; omega) (fun k hk => (HO2.out.row.lt k hk).1)
                  have ho3 : Own w3 C (.slice (some ⟨gg, 0, none⟩) (m + 1) cc) (l ++ [(120, 0, 0)]) := Own.snoc hown3 (by rw [HLr.out]) rfl
                  have hx3 : w3.heap[w.heap.size]? = some (.cells #[.int .u8 120, .int .i64 0, .int .i64 0] 82 (0, 0)) :=
                    (hgrow.block w.heap.size (by simp; omega) (fun e => HB.out e.symm)).trans ((Below.heap_alloc w2 _ w.heap.size (by omega)).trans HX2.out)
                  have hb3 : (Value.slice (some ⟨gg, 0, none⟩) (m + 1) cc).ownBlock ≠ some w.heap.size := by
                    intro e
                    simp only [Value.ownBlock, Option.some.injEq] at e
                    rcases hat with h | h
                    · exact HB.out (by rw [h, e])
                    · omega
                  have HH : Hid (Own w3 C (.slice (some ⟨gg, 0, none⟩) (m + 1) cc) (l ++ [(120, 0, 0)])) := ho3
                  have HB3 : Hid ((Value.slice (some ⟨gg, 0, none⟩) (m + 1) cc).ownBlock ≠ some w.heap.size) := hb3
                  have HX3 : Hid (w3.heap[w.heap.size]? = some (.cells #[.int .u8 120, .int .i64 0, .int .i64 0] 82 (0, 0))) := hx3
                  have hz3 : w.heap.size < w3.heap.size := by have := hgrow.size; simp only [World.size_alloc] at this; omega
                  clear hown3 hgrow hat ho3 hb3 hx3
                  go_wp2_with fail
                  go_roundw
                  case rel => exact ⟨some ⟨gg, 0, none⟩, m + 1, cc, l ++ [(120, 0, 0)], q + 1, rfl, by omega, HH.out, HB3.out, HX3.out, hr3, by omega, hf3, hz3⟩
                  case measure => simp [lenV]; omega
                · go_wp2_with fail
                  go_ret
                  exact ⟨_, l, q + 1, rfl, HO2.out, by rw [← HLr.out]; omega, HR2.out, by omega, hf.trans (hfr2.mono (by omega))⟩
            · have g4 : (u == 4) = false := by simp; omega
              go_wp2_with fail
              go_meet
              exact ⟨rfl, (120, 0, 0), p + 1, HE.out, HR1.out, by omega, hf1, by omega⟩
  case rest =>
    obtain ⟨rfl, s, q, hbx, hrx, hq, hfx, hzx⟩ := hcut
    have HOx : Hid (Own wc C (.slice a n c) l) := HO.out.fr hfx hgC
    have HRx : Hid (Rd B wc g q) := hrx
    have d0 : wc.cell? ⟨w.heap.size, 0, none⟩ = some (.int .u8 s.1) := by rw [cell_of_row wc _ 0 _ _ _ hbx]; rfl
    have d1 : wc.cell? ⟨w.heap.size, 1, none⟩ = some (.int .i64 s.2.1) := by rw [cell_of_row wc _ 1 _ _ _ hbx]; rfl
    have d2 : wc.cell? ⟨w.heap.size, 2, none⟩ = some (.int .i64 s.2.2) := by rw [cell_of_row wc _ 2 _ _ _ hbx]; rfl
    have hcap := HO.out.txt.2.1
    have hcm := HO.out.txt.2.2.1
    unfold maxLen at hcm
    clear hbx hrx hg1
    have tok : True := trivial
    go_wp2_with fail
    go_region_held3 (fun w' => w'.cell? ⟨w.heap.size, 0, none⟩ = some (.int .u8 s.1) ∧ w'.cell? ⟨w.heap.size, 1, none⟩ = some (.int .i64 s.2.1) ∧ w'.cell? ⟨w.heap.size, 2, none⟩ = some (.int .i64 s.2.2))
      (first
        | go_keep
        | (go_split_ands
           refine ⟨?_, ?_, ?_⟩
           · (rw [hgrow6.cell_far _ (by simp; omega) (by simp; omega)]; assumption)
           · (rw [hgrow6.cell_far _ (by simp; omega) (by simp; omega)]; assumption)
           · (rw [hgrow6.cell_far _ (by simp; omega) (by simp; omega)]; assumption))
        | (go_split_ands
           refine ⟨?_, ?_, ?_⟩
           · (rw [hgrow7.cell_far _ (by first | omega | (simp; omega)) (by simp; omega)]; assumption)
           · (rw [hgrow7.cell_far _ (by first | omega | (simp; omega)) (by simp; omega)]; assumption)
           · (rw [hgrow7.cell_far _ (by first | omega | (simp; omega)) (by simp; omega)]; assumption)))
      ((first
        | (have _t := tok; refine step_append_two _ (by rfl) (.tmp 50) (.tmp 51) _ (by rfl) wc.heap.size C 82 i0 _ 3 24 Tryz.underlying47 hi hz0 hz1 hz2 rfl (by omega) _ 0 0 [] (by rfl) (own_empty_at (by first | omega | (simp; done) | (simp; omega)) (by first | exact heap_alloc_new wc _ | exact heap_two_first wc _ _ | exact heap_two_second wc _ _)) a n c (flat l) (by rfl) (by first | exact (HOx.out.below ((Below.refl _ _).alloc (Nat.le_refl _) _)).row | exact (HOx.out.below (((Below.refl _ _).alloc (Nat.le_refl _) _).alloc (by simp) _)).row) (flat_oneCell l) (by unfold maxLen; omega) (by omega) (by first | (simp; done) | (simp; omega) | omega) n (Nat.zero_add n) ?_; intro g6 c6 w6 hown6 hgrow6; simp only [List.nil_append] at hown6; have hg6 := (hown6.lt g6 rfl).1; have hs6 := hgrow6.size; simp only [World.size_alloc, World.size_drew] at hs6; clear tok)
        | (have _t := hgrow6; refine step_append_two _ (by rfl) (.tmp 52) (.tmp 54) _ (by rfl) wc.heap.size C 82 i0 _ 3 24 Tryz.underlying47 hi hz0 hz1 hz2 rfl (by omega) g6 n c6 (flat l) (by rfl) (by first | exact hown6 | exact hown6.alloc _) _ 1 1 (sgCells s) (by rfl) (own_one_at (by first | omega | (simp; done) | (simp; omega)) (by first | exact heap_alloc_new w6 _ | exact (hgrow6.block (wc.heap.size + 1) (by first | (simp; done) | (simp; omega)) (by first | (simp; done) | (simp; omega))).trans (heap_two_second wc _ _) | exact (hgrow6.block wc.heap.size (by first | (simp; done) | (simp; omega)) (by first | (simp; done) | (simp; omega))).trans (heap_two_first wc _ _))) (three_oneCell _ _ _) (by unfold maxLen; omega) (by omega) (by first | omega | (simp; omega)) (n + 1) rfl ?_; intro g7 c7 w7 hown7 hgrow7)))
    all_goals
      have hb6 : Below wc.heap.size wc w6 := by
        first
          | exact ((Below.refl _ _).alloc (Nat.le_refl _) _).grown (grown_of_drew hgrow6) (by simp) (fun k hk => by simp at hk; omega)
          | exact (((Below.refl _ _).alloc (Nat.le_refl _) _).alloc (by simp) _).grown (grown_of_drew hgrow6) (by simp; omega) (fun k hk => by simp at hk; omega)
      have hb7 : Below wc.heap.size wc w7 := by
        first
          | exact hb6.grown hgrow7 hb6.size (fun k hk => by simp at hk; omega)
          | exact (hb6.alloc hb6.size _).grown hgrow7 (by have := hb6.size; simp; omega) (fun k hk => by simp at hk; omega)
      have ho7 : Own w7 C (.slice (some ⟨g7, 0, none⟩) (n + 1) c7) (l ++ [s]) :=
        Own.base (Own.snoc hown7 (by rw [← HL.out]) rfl) (by omega)
      have HO7 : Hid (Own w7 C (.slice (some ⟨g7, 0, none⟩) (n + 1) c7) (l ++ [s])) := ho7
      have hr7 : Rd B w7 g q := HRx.out.below hb7 HRx.out.lt
      have hf7 : Fr C g w w7 := (hfx.mono hC).below (hb7.mono (by omega))
      clear hown7 hgrow7 hown6 hgrow6 ho7
      go_wp2_with fail
      go_ret
      exact ⟨_, l ++ [s], q, rfl, HO7.out, by simp; rw [← HL.out]; omega, hr7, by omega, hf7⟩
end Go.Proofs.YtccoeachemnbnaaGreatDoor
namespace Go.Proofs.YtccoeachemnbnaaGreatDoor
open Go.RowKit

/-- What was there has not turned, but for g and for o. -/
structure Fo (g : Nat) (o : Option Nat) (w w' : World) : Prop where
  os : w'.os = w.os
  tape : w'.tape = w.tape
  output : w'.output = w.output
  size : w.heap.size ≤ w'.heap.size
  block : ∀ k, k < w.heap.size → k ≠ g → some k ≠ o → w'.heap[k]? = w.heap[k]?
theorem Fr.fo {g : Nat} {o : Option Nat} {w w' : World} (h : Fr w.heap.size g w w') : Fo g o w w' := ⟨h.os, h.tape, h.output, h.size, fun k hk hn _ => h.block k hk hn⟩
theorem Fo.trans {g : Nat} {o : Option Nat} {a b c : World} (h : Fo g o a b) (k : Fo g o b c) : Fo g o a c :=
  ⟨k.os.trans h.os, k.tape.trans h.tape, k.output.trans h.output, Nat.le_trans h.size k.size, fun i hi hn hm => (k.block i (Nat.lt_of_lt_of_le hi h.size) hn hm).trans (h.block i hi hn hm)⟩
theorem Fo.below {g : Nat} {o : Option Nat} {a b c : World} (h : Fo g o a b) (hb : Below b.heap.size b c) : Fo g o a c :=
  h.trans ((Fr.refl _ _ _).below hb).fo
theorem Fo.alloc {g : Nat} {o : Option Nat} {a b : World} (h : Fo g o a b) (x : Obj) : Fo g o a (b.alloc x) := h.below ((Below.refl _ _).alloc (Nat.le_refl _) x)
theorem Fo.grown {g : Nat} {o r : Option Nat} {a b c : World} (h : Fo g o a b) (hg : b.grownBy c r) (hr : ∀ k, k < b.heap.size → r = some k → a.heap.size ≤ k ∨ o = some k) : Fo g o a c :=
  ⟨hg.os.trans h.os, hg.tape.trans h.tape, hg.output.trans h.output, Nat.le_trans h.size hg.size, fun i hi hn hm => by
    have hib : i < b.heap.size := Nat.lt_of_lt_of_le hi h.size
    refine (hg.block i hib (fun e => ?_)).trans (h.block i hi hn hm)
    rcases hr i hib e.symm with q | q
    · omega
    · exact hm q.symm⟩
set_option maxRecDepth 100000 in
set_option maxHeartbeats 4000000 in
theorem l71Bad_fo (B g p C : Nat) (a : Option Addr) (n c : Nat) (l : List Sg) (w : World) (h : Rd B w g p) (hp : p ≤ 900000) (ho : Own w C (.slice a n c) l) (hgC : g < C) (hC : C ≤ w.heap.size) (hn : n ≤ 24) :
    Calls Tryz.prog 78 #[.pointer (some ⟨g, 0, none⟩), .slice a n c] w fun e w' => ∃ (v : Value) (l' : List Sg) (q : Nat), e = .returned v ∧ Own w' C v l' ∧ l'.length ≤ 25 ∧ Rd B w' g q ∧ q ≤ p + 40 ∧ Fo g (Value.slice a n c).ownBlock w w' ∧ (v.ownBlock = (Value.slice a n c).ownBlock ∨ ∀ b, v.ownBlock = some b → w.heap.size ≤ b) := by
  obtain ⟨o, HOo⟩ : ∃ o, Hid ((Value.slice a n c).ownBlock = o) := ⟨_, rfl⟩
  rw [HOo.out]
  have hlt := h.lt
  obtain ⟨i0, hi, hz0, hz1, hz2⟩ := info_parts Tryz.info82
  have HR : Hid (Rd B w g p) := h
  have HO : Hid (Own w C (.slice a n c) l) := ho
  have HL : Hid (n = l.length) := ho.len
  clear h ho
  go_enter Tryz.func78, Tryz.ntmps78
  go_wp2_with fail
  refine (pick_any B g p 6 _ (HR.out.alloc _) (by omega) (by omega) (by omega)).mono ?_
  rintro e w1 ⟨u, rfl, hu0, hu1, hr1, hg1⟩
  have z1 := hg1.size
  simp only [World.size_alloc] at z1
  have hf1 : Fr w.heap.size g w w1 := ((Fr.refl _ _ w).alloc (Nat.le_refl _) _).grown hg1 (by simp)
  have HE : Hid (w1.heap[w.heap.size]? = some (.cells #[.int .u8 120, .int .i64 0, .int .i64 0] 82 (0, 0))) := (hg1.block w.heap.size (by simp) (by simp; omega)).trans (heap_alloc_new w _)
  have HR1 : Hid (Rd B w1 g (p + 1)) := hr1
  clear hr1
  go_upto_block 0 with fail
  go_cut [1] (fun tv wx => tv = .slice a n c ∧ ∃ (s : Sg) (q : Nat), wx.heap[w.heap.size]? = some (.cells #[.int .u8 s.1, .int .i64 s.2.1, .int .i64 s.2.2] 82 (0, 0)) ∧ Rd B wx g q ∧ q ≤ p + 2 ∧ Fr w.heap.size g w wx ∧ w.heap.size < wx.heap.size)
  case first =>
    by_cases h0u : u = 0
    · subst h0u
      go_wp2_with fail
      refine (pick_any B g (p + 1) 5 _ (HR1.out.alloc _) (by omega) (by omega) (by omega)).mono ?_
      rintro e w2 ⟨y, rfl, hy0, hy1, hr2, hg2⟩
      obtain ⟨z, hz⟩ := five_cell w1 w2 g (by omega) hg2 y hy0 hy1
      have z2 := hg2.size
      simp only [World.size_alloc] at z2
      have e2 : w2.heap[w.heap.size]? = some (.cells #[.int .u8 120, .int .i64 0, .int .i64 0] 82 (0, 0)) := (hg2.block w.heap.size (by simp; omega) (by simp; omega)).trans ((Below.heap_alloc w1 _ w.heap.size (by omega)).trans HE.out)
      have HE2 : Hid (w2.heap[w.heap.size]? = some (.cells #[.int .u8 120, .int .i64 0, .int .i64 0] 82 (0, 0))) := e2
      obtain ⟨o0, d0⟩ : ∃ v, w2.cell? ⟨w.heap.size, 0, none⟩ = some v := ⟨_, cell_of_row w2 _ 0 _ _ _ e2⟩
      have f0 : w2.frozen? ⟨w.heap.size, 0, none⟩ = false := frozen_of_row w2 _ 0 _ _ e2
      clear e2
      have HR2 : Hid (Rd B w2 g (p + 2)) := hr2
      clear hr2
      go_wp2_with fail
      go_meet
      exact ⟨rfl, (z, 0, 0), p + 2, (heap_setCell_same w2 _ 0 _ _ _ HE2.out), HR2.out.setCell (by simp; omega) _, by omega, ((hf1.alloc (by omega) _).grown hg2 (by simp; omega)).setCell (by simp) _, by simp [World.setCell]; omega⟩
    · have g0 : (u == 0) = false := by simp; omega
      by_cases h1u : u = 1
      · subst h1u
        go_wp2_with fail
        refine (pick_any B g (p + 1) 2 _ (HR1.out.alloc _) (by omega) (by omega) (by omega)).mono ?_
        rintro e w2 ⟨y, rfl, hy0, hy1, hr2, hg2⟩
        obtain ⟨z, hz⟩ := two_cell w1 w2 g (by omega) hg2 y hy0 hy1
        have z2 := hg2.size
        simp only [World.size_alloc] at z2
        have e2 : w2.heap[w.heap.size]? = some (.cells #[.int .u8 120, .int .i64 0, .int .i64 0] 82 (0, 0)) := (hg2.block w.heap.size (by simp; omega) (by simp; omega)).trans ((Below.heap_alloc w1 _ w.heap.size (by omega)).trans HE.out)
        have HE2 : Hid (w2.heap[w.heap.size]? = some (.cells #[.int .u8 120, .int .i64 0, .int .i64 0] 82 (0, 0))) := e2
        obtain ⟨o0, d0⟩ : ∃ v, w2.cell? ⟨w.heap.size, 1, none⟩ = some v := ⟨_, cell_of_row w2 _ 1 _ _ _ e2⟩
        have f0 : w2.frozen? ⟨w.heap.size, 1, none⟩ = false := frozen_of_row w2 _ 1 _ _ e2
        clear e2
        have HR2 : Hid (Rd B w2 g (p + 2)) := hr2
        clear hr2
        go_wp2_with fail
        go_meet
        exact ⟨rfl, (120, z, 0), p + 2, (heap_setCell_same w2 _ 1 _ _ _ HE2.out), HR2.out.setCell (by simp; omega) _, by omega, ((hf1.alloc (by omega) _).grown hg2 (by simp; omega)).setCell (by simp) _, by simp [World.setCell]; omega⟩
      · have g1 : (u == 1) = false := by simp; omega
        by_cases h2u : u = 2
        · subst h2u
          go_wp2_with fail
          refine (pick_any B g (p + 1) 2 _ (HR1.out.alloc _) (by omega) (by omega) (by omega)).mono ?_
          rintro e w2 ⟨y, rfl, hy0, hy1, hr2, hg2⟩
          obtain ⟨z, hz⟩ := two_cell w1 w2 g (by omega) hg2 y hy0 hy1
          have z2 := hg2.size
          simp only [World.size_alloc] at z2
          have e2 : w2.heap[w.heap.size]? = some (.cells #[.int .u8 120, .int .i64 0, .int .i64 0] 82 (0, 0)) := (hg2.block w.heap.size (by simp; omega) (by simp; omega)).trans ((Below.heap_alloc w1 _ w.heap.size (by omega)).trans HE.out)
          have HE2 : Hid (w2.heap[w.heap.size]? = some (.cells #[.int .u8 120, .int .i64 0, .int .i64 0] 82 (0, 0))) := e2
          obtain ⟨o0, d0⟩ : ∃ v, w2.cell? ⟨w.heap.size, 2, none⟩ = some v := ⟨_, cell_of_row w2 _ 2 _ _ _ e2⟩
          have f0 : w2.frozen? ⟨w.heap.size, 2, none⟩ = false := frozen_of_row w2 _ 2 _ _ e2
          clear e2
          have HR2 : Hid (Rd B w2 g (p + 2)) := hr2
          clear hr2
          go_wp2_with fail
          go_meet
          exact ⟨rfl, (120, 0, z), p + 2, (heap_setCell_same w2 _ 2 _ _ _ HE2.out), HR2.out.setCell (by simp; omega) _, by omega, ((hf1.alloc (by omega) _).grown hg2 (by simp; omega)).setCell (by simp) _, by simp [World.setCell]; omega⟩
        · have g2 : (u == 2) = false := by simp; omega
          by_cases h3u : u = 3
          · subst h3u
            obtain ⟨o1, d1⟩ : ∃ v, w1.cell? ⟨w.heap.size, 1, none⟩ = some v := ⟨_, cell_of_row w1 _ 1 _ _ _ HE.out⟩
            obtain ⟨o2, d2⟩ : ∃ v, w1.cell? ⟨w.heap.size, 2, none⟩ = some v := ⟨_, cell_of_row w1 _ 2 _ _ _ HE.out⟩
            have f1 : w1.frozen? ⟨w.heap.size, 1, none⟩ = false := frozen_of_row w1 _ 1 _ _ HE.out
            have f2 : w1.frozen? ⟨w.heap.size, 2, none⟩ = false := frozen_of_row w1 _ 2 _ _ HE.out
            go_wp2_with fail
            go_meet
            exact ⟨rfl, (120, 2, 2), p + 1, heap_setCell_same _ _ 2 _ _ _ (heap_setCell_same w1 _ 1 _ _ _ HE.out), (HR1.out.setCell (by simp; omega) _).setCell (by simp; omega) _, by omega, (hf1.setCell (by simp) _).setCell (by simp) _, by simp [World.setCell]; omega⟩
          · have g3 : (u == 3) = false := by simp; omega
            by_cases h4u : u = 4
            · subst h4u
              go_wp2_with fail
              go_loopw [1] (fun v wr => ∃ (a : Option Addr) (m c : Nat) (l : List Sg) (q : Nat), v = .slice a m c ∧ m ≤ 25 ∧ Own wr C (.slice a m c) l ∧ (Value.slice a m c).ownBlock ≠ some w.heap.size ∧ wr.heap[w.heap.size]? = some (.cells #[.int .u8 120, .int .i64 0, .int .i64 0] 82 (0, 0)) ∧ Rd B wr g q ∧ q ≤ p + 1 + m ∧ Fo g o w wr ∧ ((Value.slice a m c).ownBlock = o ∨ ∀ b, (Value.slice a m c).ownBlock = some b → w.heap.size ≤ b) ∧ w.heap.size < wr.heap.size) (fun v _ => 26 - lenV v)
              case atStart =>
                exact ⟨a, n, c, l, p + 1, rfl, by omega, HO.out.fr hf1 hgC, fun e => by have := (HO.out.row.lt _ e).2; omega, HE.out, HR1.out, by omega, hf1.fo, .inl HOo.out, by omega⟩
              case round =>
                obtain ⟨a, m, c, l, q, rfl, hm, ho, hob, hbx, hr, hq, hf, hoo, hz⟩ := hrel
                have HOO : Hid ((Value.slice a m c).ownBlock = o ∨ ∀ b, (Value.slice a m c).ownBlock = some b → w.heap.size ≤ b) := hoo
                clear hoo
                have HOr : Hid (Own wr C (.slice a m c) l) := ho
                have HLr : Hid (m = l.length) := ho.len
                have HX : Hid (wr.heap[w.heap.size]? = some (.cells #[.int .u8 120, .int .i64 0, .int .i64 0] 82 (0, 0))) := hbx
                have HB : Hid ((Value.slice a m c).ownBlock ≠ some w.heap.size) := hob
                have HRr : Hid (Rd B wr g q) := hr
                have hcap := ho.txt.2.1
                have hcm := ho.txt.2.2.1
                unfold maxLen at hcm
                clear ho hob hbx hr
                go_wp2_with fail
                refine (pick_any B g q 2 _ HRr.out (by omega) (by omega) (by omega)).mono ?_
                rintro e w2 ⟨x, rfl, hx0, hx1, hr2, hg2⟩
                have z2 := hg2.size
                have hfr2 : Fr wr.heap.size g wr w2 := (Fr.refl _ _ wr).grown hg2 (Nat.le_refl _)
                have e2 : w2.heap[w.heap.size]? = some (.cells #[.int .u8 120, .int .i64 0, .int .i64 0] 82 (0, 0)) := (hg2.block w.heap.size hz (by simp; omega)).trans HX.out
                have HX2 : Hid (w2.heap[w.heap.size]? = some (.cells #[.int .u8 120, .int .i64 0, .int .i64 0] 82 (0, 0))) := e2
                have d0 : w2.cell? ⟨w.heap.size, 0, none⟩ = some (.int .u8 120) := by rw [cell_of_row w2 _ 0 _ _ _ e2]; rfl
                have d1 : w2.cell? ⟨w.heap.size, 1, none⟩ = some (.int .i64 0) := by rw [cell_of_row w2 _ 1 _ _ _ e2]; rfl
                have d2 : w2.cell? ⟨w.heap.size, 2, none⟩ = some (.int .i64 0) := by rw [cell_of_row w2 _ 2 _ _ _ e2]; rfl
                clear e2
                have HO2 : Hid (Own w2 C (.slice a m c) l) := HOr.out.fr hfr2 hgC
                have HR2 : Hid (Rd B w2 g (q + 1)) := hr2
                clear hr2
                by_cases hlt2 : (m : Int) < 24 + x
                · go_wp2_with (at_builtin; refine wpList_append_lies _ rfl (.tmp 45) (.tmp 47) 47 rfl C 82 i0 (.agg #[.int .u8 0, .int .i64 0, .int .i64 0]) 3 24 Tryz.underlying47 hi hz0 hz1 hz2 rfl (by omega) (.slice a m c) m (flat l) rfl (HO2.out.row.alloc _) ⟨w2.heap.size, 0, none⟩ 1 1 [.int .u8 120, .int .i64 0, .int .i64 0] rfl rfl (cell_three_new w2 _ _ _ _) (three_oneCell _ _ _) (by omega) (by unfold maxLen; omega) (by omega) (by simp; omega) (w2.heap.size + 1) (by simp) ?_; intro gg cc w3 hown3 hgrow hat hltg)
                  have hr3 : Rd B w3 g (q + 1) := (HR2.out.alloc _).grownAt hgrow (fun k hk => by have := (HO2.out.row.lt k hk).1; omega)
                  have hf3 : Fo g o w w3 := ((hf.trans hfr2.fo).alloc _).grown hgrow (fun k hk e => by
                    rcases HOO.out with h | h
                    · exact .inr (by rw [← h, e])
                    · exact .inl (h k e))
                  have hoo3 : (Value.slice (some ⟨gg, 0, none⟩) (m + 1) cc).ownBlock = o ∨ ∀ b, (Value.slice (some ⟨gg, 0, none⟩) (m + 1) cc).ownBlock = some b → w.heap.size ≤ b := by
                    rcases hat with h | h
                    · rcases HOO.out with h' | h'
                      · exact .inl (by rw [← h', h]; rfl)
                      · refine .inr fun b hb => ?_
                        simp only [Value.ownBlock, Option.some.injEq] at hb
                        exact h' b (by rw [h, hb])
                    · refine .inr fun b hb => ?_
                      simp only [Value.ownBlock, Option.some.injEq] at hb
                      omega
                  have HOO3 := (show Hid _ from hoo3)
                  clear hoo3
                  have ho3 : Own w3 C (.slice (some ⟨gg, 0, none⟩) (m + 1) cc) (l ++ [(120, 0, 0)]) := Own.snoc hown3 (by rw [HLr.out]) rfl
                  have hx3 : w3.heap[w.heap.size]? = some (.cells #[.int .u8 120, .int .i64 0, .int .i64 0] 82 (0, 0)) :=
                    (hgrow.block w.heap.size (by simp; omega) (fun e => HB.out e.symm)).trans ((Below.heap_alloc w2 _ w.heap.size (by omega)).trans HX2.out)
                  have hb3 : (Value.slice (some ⟨gg, 0, none⟩) (m + 1) cc).ownBlock ≠ some w.heap.size := by
                    intro e
                    simp only [Value.ownBlock, Option.some.injEq] at e
                    rcases hat with h | h
                    · exact HB.out (by rw [h, e])
                    · omega
                  have HH : Hid (Own w3 C (.slice (some ⟨gg, 0, none⟩) (m + 1) cc) (l ++ [(120, 0, 0)])) := ho3
                  have HB3 : Hid ((Value.slice (some ⟨gg, 0, none⟩) (m + 1) cc).ownBlock ≠ some w.heap.size) := hb3
                  have HX3 : Hid (w3.heap[w.heap.size]? = some (.cells #[.int .u8 120, .int .i64 0, .int .i64 0] 82 (0, 0))) := hx3
                  have hz3 : w.heap.size < w3.heap.size := by have := hgrow.size; simp only [World.size_alloc] at this; omega
                  clear hown3 hgrow hat ho3 hb3 hx3
                  go_wp2_with fail
                  go_roundw
                  case rel => exact ⟨some ⟨gg, 0, none⟩, m + 1, cc, l ++ [(120, 0, 0)], q + 1, rfl, by omega, HH.out, HB3.out, HX3.out, hr3, by omega, hf3, HOO3.out, hz3⟩
                  case measure => simp [lenV]; omega
                · go_wp2_with fail
                  go_ret
                  exact ⟨_, l, q + 1, rfl, HO2.out, by rw [← HLr.out]; omega, HR2.out, by omega, hf.trans hfr2.fo, HOO.out⟩
            · have g4 : (u == 4) = false := by simp; omega
              go_wp2_with fail
              go_meet
              exact ⟨rfl, (120, 0, 0), p + 1, HE.out, HR1.out, by omega, hf1, by omega⟩
  case rest =>
    obtain ⟨rfl, s, q, hbx, hrx, hq, hfx, hzx⟩ := hcut
    have HOx : Hid (Own wc C (.slice a n c) l) := HO.out.fr hfx hgC
    have HRx : Hid (Rd B wc g q) := hrx
    have d0 : wc.cell? ⟨w.heap.size, 0, none⟩ = some (.int .u8 s.1) := by rw [cell_of_row wc _ 0 _ _ _ hbx]; rfl
    have d1 : wc.cell? ⟨w.heap.size, 1, none⟩ = some (.int .i64 s.2.1) := by rw [cell_of_row wc _ 1 _ _ _ hbx]; rfl
    have d2 : wc.cell? ⟨w.heap.size, 2, none⟩ = some (.int .i64 s.2.2) := by rw [cell_of_row wc _ 2 _ _ _ hbx]; rfl
    have hcap := HO.out.txt.2.1
    have hcm := HO.out.txt.2.2.1
    unfold maxLen at hcm
    clear hbx hrx hg1
    have tok : True := trivial
    go_wp2_with fail
    go_region_held3 (fun w' => w'.cell? ⟨w.heap.size, 0, none⟩ = some (.int .u8 s.1) ∧ w'.cell? ⟨w.heap.size, 1, none⟩ = some (.int .i64 s.2.1) ∧ w'.cell? ⟨w.heap.size, 2, none⟩ = some (.int .i64 s.2.2))
      (first
        | go_keep
        | (go_split_ands
           refine ⟨?_, ?_, ?_⟩
           · (rw [hgrow6.cell_far _ (by simp; omega) (by simp; omega)]; assumption)
           · (rw [hgrow6.cell_far _ (by simp; omega) (by simp; omega)]; assumption)
           · (rw [hgrow6.cell_far _ (by simp; omega) (by simp; omega)]; assumption))
        | (go_split_ands
           refine ⟨?_, ?_, ?_⟩
           · (rw [hgrow7.cell_far _ (by first | omega | (simp; omega)) (by simp; omega)]; assumption)
           · (rw [hgrow7.cell_far _ (by first | omega | (simp; omega)) (by simp; omega)]; assumption)
           · (rw [hgrow7.cell_far _ (by first | omega | (simp; omega)) (by simp; omega)]; assumption)))
      ((first
        | (have _t := tok; refine step_append_two _ (by rfl) (.tmp 50) (.tmp 51) _ (by rfl) wc.heap.size C 82 i0 _ 3 24 Tryz.underlying47 hi hz0 hz1 hz2 rfl (by omega) _ 0 0 [] (by rfl) (own_empty_at (by first | omega | (simp; done) | (simp; omega)) (by first | exact heap_alloc_new wc _ | exact heap_two_first wc _ _ | exact heap_two_second wc _ _)) a n c (flat l) (by rfl) (by first | exact (HOx.out.below ((Below.refl _ _).alloc (Nat.le_refl _) _)).row | exact (HOx.out.below (((Below.refl _ _).alloc (Nat.le_refl _) _).alloc (by simp) _)).row) (flat_oneCell l) (by unfold maxLen; omega) (by omega) (by first | (simp; done) | (simp; omega) | omega) n (Nat.zero_add n) ?_; intro g6 c6 w6 hown6 hgrow6; simp only [List.nil_append] at hown6; have hg6 := (hown6.lt g6 rfl).1; have hs6 := hgrow6.size; simp only [World.size_alloc, World.size_drew] at hs6; clear tok)
        | (have _t := hgrow6; refine step_append_two _ (by rfl) (.tmp 52) (.tmp 54) _ (by rfl) wc.heap.size C 82 i0 _ 3 24 Tryz.underlying47 hi hz0 hz1 hz2 rfl (by omega) g6 n c6 (flat l) (by rfl) (by first | exact hown6 | exact hown6.alloc _) _ 1 1 (sgCells s) (by rfl) (own_one_at (by first | omega | (simp; done) | (simp; omega)) (by first | exact heap_alloc_new w6 _ | exact (hgrow6.block (wc.heap.size + 1) (by first | (simp; done) | (simp; omega)) (by first | (simp; done) | (simp; omega))).trans (heap_two_second wc _ _) | exact (hgrow6.block wc.heap.size (by first | (simp; done) | (simp; omega)) (by first | (simp; done) | (simp; omega))).trans (heap_two_first wc _ _))) (three_oneCell _ _ _) (by unfold maxLen; omega) (by omega) (by first | omega | (simp; omega)) (n + 1) rfl ?_; intro g7 c7 w7 hown7 hgrow7)))
    all_goals
      have hb6 : Below wc.heap.size wc w6 := by
        first
          | exact ((Below.refl _ _).alloc (Nat.le_refl _) _).grown (grown_of_drew hgrow6) (by simp) (fun k hk => by simp at hk; omega)
          | exact (((Below.refl _ _).alloc (Nat.le_refl _) _).alloc (by simp) _).grown (grown_of_drew hgrow6) (by simp; omega) (fun k hk => by simp at hk; omega)
      have hb7 : Below wc.heap.size wc w7 := by
        first
          | exact hb6.grown hgrow7 hb6.size (fun k hk => by simp at hk; omega)
          | exact (hb6.alloc hb6.size _).grown hgrow7 (by have := hb6.size; simp; omega) (fun k hk => by simp at hk; omega)
      have ho7 : Own w7 C (.slice (some ⟨g7, 0, none⟩) (n + 1) c7) (l ++ [s]) :=
        Own.base (Own.snoc hown7 (by rw [← HL.out]) rfl) (by omega)
      have HO7 : Hid (Own w7 C (.slice (some ⟨g7, 0, none⟩) (n + 1) c7) (l ++ [s])) := ho7
      have hr7 : Rd B w7 g q := HRx.out.below hb7 HRx.out.lt
      have hf7 : Fo g o w w7 := hfx.fo.below hb7
      have hoo7 : (Value.slice (some ⟨g7, 0, none⟩) (n + 1) c7).ownBlock = o ∨ ∀ b, (Value.slice (some ⟨g7, 0, none⟩) (n + 1) c7).ownBlock = some b → w.heap.size ≤ b := .inr fun b hb => by
        have := (hown7.lt b hb).1
        omega
      have HOO7 := (show Hid _ from hoo7)
      clear hoo7
      clear hown7 hgrow7 hown6 hgrow6 ho7
      go_wp2_with fail
      go_ret
      exact ⟨_, l ++ [s], q, rfl, HO7.out, by simp; rw [← HL.out]; omega, hr7, by omega, hf7, HOO7.out⟩
end Go.Proofs.YtccoeachemnbnaaGreatDoor
namespace Go.Proofs.YtccoeachemnbnaaGreatDoor
open Go.RowKit

/-- A table's cells, their texts their own, though two may share one. -/
def OwnX (w : World) (B : Nat) (v : Value) (rs : List Rw) (l : List Cl) : Prop := OwnR w B v rs ∧ rs.length = l.length ∧ ∀ k, k < rs.length → RwOwn w B (rs.getD k rw0) (l.getD k cl0)
theorem OwnT.x {w : World} {B : Nat} {v : Value} {rs : List Rw} {l : List Cl} (h : OwnT w B v rs l) : OwnX w B v rs l := ⟨h.1, h.2.1, h.2.2.1⟩
theorem OwnX.tab {w : World} {B : Nat} {a : Option Addr} {n cap : Nat} {rs : List Rw} {l : List Cl} (h : OwnX w B (.slice a n cap) rs l) : Tab w a n cap l := tab_of_rws h.1.rws ⟨h.2.1, fun k hk => (h.2.2 k hk).is⟩
theorem OwnX.setRowT {B X : Nat} {v : Value} {rs : List Rw} {l : List Cl} {old : Array Value} {w' : World} (h : OwnX w' B v rs l) (hX : RowAt w' X old 54) (cs : Array Value) : OwnX (w'.setRow X cs) B v rs l :=
  ⟨own_row h.1 X cs (rowAt_ne hX h.1 (by decide)), h.2.1, fun k hk => by
      obtain ⟨e1, e2, e3, e4, e5⟩ := h.2.2 k hk
      exact ⟨e1, e2, e3, e4, own_row e5 X cs (rowAt_ne hX e5 (by decide))⟩⟩
theorem OwnX.setT {B X : Nat} {v : Value} {rs : List Rw} {l : List Cl} {old : Array Value} {w' : World} (h : OwnX w' B v rs l) (hX : RowAt w' X old 54) (j : Nat) (u : Value) : OwnX (w'.setCell ⟨X, j, none⟩ u) B v rs l :=
  ⟨own_set h.1 _ _ (rowAt_ne hX h.1 (by decide)), h.2.1, fun k hk => by
      obtain ⟨e1, e2, e3, e4, e5⟩ := h.2.2 k hk
      exact ⟨e1, e2, e3, e4, own_set e5 _ _ (rowAt_ne hX e5 (by decide))⟩⟩
theorem OwnX.less {w : World} {B B' : Nat} {v : Value} {rs : List Rw} {l : List Cl} (h : OwnX w B' v rs l) (hB : B ≤ B') : OwnX w B v rs l :=
  ⟨own_less h.1 hB, h.2.1, fun k hk => by obtain ⟨h0, h1, h2, h3, h4⟩ := h.2.2 k hk; exact ⟨h0, h1, h2, h3, own_less h4 hB⟩⟩
theorem OwnX.fr {C g : Nat} {w w' : World} {v : Value} {rs : List Rw} {l : List Cl} (h : OwnX w C v rs l) (hf : Fr w.heap.size g w w') (hg : g < C) : OwnX w' C v rs l :=
  ⟨own_fr h.1 hf hg, h.2.1, fun k hk => by
    obtain ⟨h0, h1, h2, h3, h4⟩ := h.2.2 k hk
    exact ⟨h0, h1, h2, h3, own_fr h4 hf hg⟩⟩
theorem own_fo {w w' : World} {B e size n g : Nat} {o : Option Nat} {v : Value} {xs : List Value} (h : w.ownsRow B e size v n xs) (hf : Fo g o w w') (hg : g < B) (ho : ∀ b, v.ownBlock = some b → o ≠ some b) : w'.ownsRow B e size v n xs := by
  refine ⟨h.1, ?_⟩
  rcases h.2 with hn | ⟨q, cap, cur, rfl, hB, hqq, rest⟩
  · exact .inl hn
  · refine .inr ⟨q, cap, cur, rfl, hB, ?_, rest⟩
    rw [hf.block q (Array.getElem?_eq_some_iff.1 hqq).1 (by omega) (fun e => ho q rfl e.symm)]
    exact hqq
/-- A text of a row is written behind a call that may have written into the text that was there. -/
theorem OwnT.putBad {w w' : World} {B q n c g : Nat} {rs : List Rw} {l : List Cl} (h : OwnT w B (.slice (some ⟨q, 0, none⟩) n c) rs l) (i : Nat) (hi : i < rs.length) (hf : Fo g (rwT (rs.getD i rw0)).ownBlock w w') (hg : g < B) (pa : Option Addr) (pn pc : Nat) (tx : List Sg)
    (hO : Own w' B (.slice pa pn pc) tx) :
    OwnX (w'.setCell ⟨q, i * 5 + 4, none⟩ (.slice pa pn pc)) B (.slice (some ⟨q, 0, none⟩) n c) (rs.set i ((rs.getD i rw0).1, (rs.getD i rw0).2.1, (rs.getD i rw0).2.2.1, (rs.getD i rw0).2.2.2.1, pa, pn, pc)) (l.set i ((l.getD i cl0).1, (l.getD i cl0).2.1, (l.getD i cl0).2.2.1, (l.getD i cl0).2.2.2.1, tx)) := by
  have hl := h.2.1
  have hn := h.1.len
  have hR : OwnR w' B (.slice (some ⟨q, 0, none⟩) n c) rs := own_fo h.1 hf hg (fun b hb e => h.2.2.2.1 i hi b e hb)
  obtain ⟨p0, _⟩ := hR.row.stored (i * 5 + 4) (.slice pa pn pc)
  rw [flat5_put rs i 4 hi (by omega) _ ((rs.getD i rw0).1, (rs.getD i rw0).2.1, (rs.getD i rw0).2.2.1, (rs.getD i rw0).2.2.2.1, pa, pn, pc) rfl] at p0
  have hk0 : ∀ b, (Value.slice pa pn pc).ownBlock = some b → (Value.slice (some ⟨q, 0, none⟩) n c).ownBlock ≠ some b := own_kinds hR.row hO.row (by decide)
  have hO' : Own (w'.setCell ⟨q, i * 5 + 4, none⟩ (.slice pa pn pc)) B (.slice pa pn pc) tx := own_set hO _ _ (fun e => hk0 _ e rfl)
  refine ⟨?_, by simp [hl], fun k hk' => ?_⟩
  · unfold OwnR
    rw [List.length_set, ← hn]
    exact p0
  · simp only [List.length_set] at hk'
    by_cases hki : i = k
    · subst hki
      rw [getD_setE _ _ _ _ hi, getD_setE _ _ _ _ (by omega)]
      obtain ⟨h0, h1, h2, h3, _⟩ := h.2.2.1 i hk'
      exact ⟨h0, h1, h2, h3, hO'⟩
    · rw [getD_setN _ _ _ _ _ hki, getD_setN _ _ _ _ _ hki]
      obtain ⟨h0, h1, h2, h3, h4⟩ := h.2.2.1 k hk'
      have h5 : Own w' B (rwT (rs.getD k rw0)) (l.getD k cl0).2.2.2.2 := own_fo h4 hf hg (fun b hb e => by
        rcases Nat.lt_trichotomy i k with hlt | hlt | hlt
        · exact h.2.2.2.2 i k hlt hk' b e hb
        · exact hki hlt
        · exact h.2.2.2.2 k i hlt hi b hb e)
      exact ⟨h0, h1, h2, h3, own_set h5 _ _ (fun e => own_kinds hR.row h5 (by decide) q e rfl)⟩
theorem Fo.fr {g C : Nat} {o : Option Nat} {w w' : World} (h : Fo g o w w') (hC : C ≤ w.heap.size) (ho : ∀ b, o = some b → C ≤ b) : Fr C g w w' :=
  ⟨h.os, h.tape, h.output, h.size, fun k hk hn => h.block k (by omega) hn (fun e => by have := ho k e.symm; omega)⟩
/-- A drawn table, spoilt: few cells, short texts. -/
def TabSp (R C : Int) (l : List Cl) : Prop := (-2 ≤ R ∧ R ≤ 10) ∧ (-2 ≤ C ∧ C ≤ 10) ∧ l.length ≤ 26 ∧ ∀ x ∈ l, x.2.2.2.2.length ≤ 25
theorem TabSm.sp {R C : Nat} {l : List Cl} (h : TabSm R C l) : TabSp R C l := by
  obtain ⟨h1, h2, h3, h4⟩ := h
  exact ⟨by omega, by omega, by omega, fun x hx => by have := h4 x hx; omega⟩
theorem TabSp.set {R C : Int} {l : List Cl} (h : TabSp R C l) (i : Nat) (y : Cl) (hy : y.2.2.2.2.length ≤ 25) : TabSp R C (l.set i y) := by
  obtain ⟨h1, h2, h3, h4⟩ := h
  refine ⟨h1, h2, by simpa using h3, fun x hx => ?_⟩
  rcases List.mem_or_eq_of_mem_set hx with h | h
  · exact h4 x h
  · rw [h]; exact hy
theorem flat5_take (rs : List Rw) (k : Nat) : flat5 (rs.take k) = (flat5 rs).take (k * 5) := by
  induction k generalizing rs with
  | zero => simp [flat5]
  | succ k ih =>
    cases rs with
    | nil => simp [flat5]
    | cons x rs =>
      show rwCells x ++ flat5 (rs.take k) = (rwCells x ++ flat5 rs).take ((k + 1) * 5)
      rw [ih, show (k + 1) * 5 = (rwCells x).length + k * 5 from by simp [rwCells]; omega, List.take_length_add_append]
/-- The first rows of rows that are owned. -/
theorem OwnR.first {w : World} {B g n c : Nat} {rs : List Rw} (h : OwnR w B (.slice (some ⟨g, 0, none⟩) n c) rs) (k : Nat) (hk : k ≤ n) : w.ownsRow B 86 5 (.slice (some ⟨g, 0, none⟩) k c) k (flat5 (rs.take k)) := by
  have hr := h.row
  have hlen := h.len
  refine ⟨by rw [flat5_length, List.length_take]; omega, ?_⟩
  rcases hr.2 with ⟨hv, _⟩ | ⟨g', cap, cur, hv, hB, hg, hn, hm, hs, hp⟩
  · simp at hv
  · simp only [Value.slice.injEq, Option.some.injEq, Addr.mk.injEq, and_true, true_and] at hv
    obtain ⟨rfl, rfl⟩ := hv
    refine .inr ⟨g, c, cur, rfl, hB, hg, by omega, hm, hs, ?_⟩
    rw [flat5_take, ← hp, List.take_take, Nat.min_eq_left (by omega)]
theorem flat5_drop (rs : List Rw) (k : Nat) : flat5 (rs.drop k) = (flat5 rs).drop (k * 5) := by
  induction k generalizing rs with
  | zero => simp
  | succ k ih =>
    cases rs with
    | nil => simp [flat5]
    | cons x rs =>
      show flat5 (rs.drop k) = (rwCells x ++ flat5 rs).drop ((k + 1) * 5)
      rw [ih, show (k + 1) * 5 = (rwCells x).length + k * 5 from by simp [rwCells]; omega, List.drop_length_add_append]
theorem flat5_one (rs : List Rw) : ∀ u ∈ flat5 rs, u.oneCell' = true := by
  intro u hu
  simp only [flat5, List.mem_flatMap, rwCells] at hu
  obtain ⟨s, _, hs⟩ := hu
  simp at hs
  rcases hs with rfl | rfl | rfl | rfl | rfl <;> rfl
theorem getD_del {α : Type} (l : List α) (k j : Nat) (d : α) (hk : k < l.length) : (l.take k ++ l.drop (k + 1)).getD j d = l.getD (if j < k then j else j + 1) d := by
  simp only [List.getD_eq_getElem?_getD]
  congr 1
  by_cases h : j < k
  · rw [if_pos h, List.getElem?_append_left (by rw [List.length_take]; omega), List.getElem?_take, if_pos h]
  · rw [if_neg h, List.getElem?_append_right (by rw [List.length_take]; omega), List.length_take, Nat.min_eq_left (by omega), List.getElem?_drop]
    congr 1
    omega
theorem step_append_empty {P : Program} {w : World} {ops : Array Oper} {o : Oper} {a : Act} {K : Act → World → Prop} {Q : Exit → Act → World → Prop} {E : Prop} (hgd : o.guard = none) (s x : Operand) (t : TypeId)
    (ho : o.op = .call { callee := .builtin .append, args := #[s, x], argTypes := #[t, t] })
    (base : Nat) (e : TypeId) (i : TypeInfo) (size : Nat) (ht : P.underlying t = some (.slice e)) (hi : P.info? e = some i)
    (v : Value) (n : Nat) (xs : List Value) (hs : a.eval s = v) (hown : w.ownsRow base e size v n xs) (p : Option Addr) (c : Nat) (hx : a.eval x = .slice p 0 c)
    (d : Nat) (hd : o.dst = some d) (h : K (a.put (some d) v) w) : if Region.wanted o (yielded ops a.tmps) = true then Oper.wp P o a w K Q else E := by
  have hw : Region.wanted o (yielded ops a.tmps) = true := by simp [Region.wanted, hgd]
  have hrun := run_append_empty (P := P) (w := w) base t o.type e i size ht hi v n xs hown p c
  rw [if_pos hw]
  unfold Oper.wp
  rw [← hd] at h
  simp [execOp, ho, resolve, invoke, builtin, hs, hx, hrun, Result.andThen]
  exact h
theorem step_append_liesD {P : Program} (w : World) {ops : Array Oper} {o : Oper} {a : Act} {K : Act → World → Prop} {Q : Exit → Act → World → Prop} {E : Prop} (d : Nat) (hd : o.dst = some d) (hgd : o.guard = none) (s x : Operand) (t : TypeId)
    (ho : o.op = .call { callee := .builtin .append, args := #[s, x], argTypes := #[t, t] })
    (base : Nat) (e : TypeId) (i : TypeInfo) (z : Value) (size bytes : Nat) (ht : P.underlying t = some (.slice e)) (hi : P.info? e = some i) (hz : i.zero = some z)
    (hsize : i.size = size) (hby : i.bytes = bytes) (hzs : z.cells.size = size) (hsz : 0 < size)
    (v : Value) (n : Nat) (xs : List Value) (hs : a.eval s = v) (hown : w.ownsRow base e size v n xs)
    (ad : Addr) (m c : Nat) (news : List Value) (hx : a.eval x = .slice (some ad) m c) (hl : news.length = m * size) (hnews : ∀ j u, news[j]? = some u → w.cell? (ad.add j) = some u) (h1 : ∀ u ∈ news, u.oneCell' = true)
    (hm : 0 < m) (h63 : n + m ≤ maxLen) (hbytes : (n + m) * bytes ≤ 140737488355328) (hbase : base ≤ w.heap.size) (H : Nat) (hH : w.heap.size = H)
    (h : ∀ g cap w', w'.ownsRow base e size (.slice (some ⟨g, 0, none⟩) (n + m) cap) (n + m) (xs ++ news) → w.grownBy w' v.ownBlock → (v.ownBlock = some g ∨ g = H) → g < w'.heap.size → K (a.put (some d) (.slice (some ⟨g, 0, none⟩) (n + m) cap)) w') :
    if Region.wanted o (yielded ops a.tmps) = true then Oper.wp P o a w K Q else E :=
  step_append_lies w hgd s x t ho base e i z size bytes ht hi hz hsize hby hzs hsz v n xs hs hown ad m c news hx hl hnews h1 hm h63 hbytes hbase H hH (fun g cap w' q1 q2 q3 q4 => by rw [hd]; exact h g cap w' q1 q2 q3 q4)
/-- A row less. -/
theorem OwnX.del {w : World} {B : Nat} {v : Value} {rs : List Rw} {l : List Cl} (h : rs.length = l.length) (hr : ∀ k, k < rs.length → RwOwn w B (rs.getD k rw0) (l.getD k cl0)) (k : Nat) (hk : k < rs.length) (ho : OwnR w B v (rs.take k ++ rs.drop (k + 1))) : OwnX w B v (rs.take k ++ rs.drop (k + 1)) (l.take k ++ l.drop (k + 1)) := by
  refine ⟨ho, by simp; omega, fun j hj => ?_⟩
  have hj' : j < rs.length - 1 := by simp at hj; omega
  rw [getD_del rs k j rw0 hk, getD_del l k j cl0 (by omega)]
  by_cases h1 : j < k
  · rw [if_pos h1]
    exact hr j (by omega)
  · rw [if_neg h1]
    exact hr (j + 1) (by omega)
theorem TabSp.del {R C : Int} {l : List Cl} (h : TabSp R C l) (k : Nat) : TabSp R C (l.take k ++ l.drop (k + 1)) := by
  obtain ⟨h1, h2, h3, h4⟩ := h
  refine ⟨h1, h2, by simp; omega, fun x hx => ?_⟩
  rcases List.mem_append.1 hx with q | q
  · exact h4 x (List.mem_of_mem_take q)
  · exact h4 x (List.mem_of_mem_drop q)
end Go.Proofs.YtccoeachemnbnaaGreatDoor
namespace Go.Proofs.YtccoeachemnbnaaGreatDoor
open Go.RowKit

/-- A block whose text and whose table's cells are owned, told of nothing else. -/
def BlX (w : World) (B : Nat) (x : Rb) (y : Bl) : Prop :=
  (x.1 = y.1 ∧ x.2.1 = y.2.1 ∧ x.2.2.2.1 = y.2.2.2.1 ∧ x.2.2.2.2.1 = y.2.2.2.2.1) ∧ Own w B (sl3V x.2.2.1) y.2.2.1 ∧ ∃ rs, OwnT w B (sl3V x.2.2.2.2.2) rs y.2.2.2.2.2
/-- A document's blocks, in a row that is owned. -/
def DocX (w : World) (B : Nat) (v : Value) (rbs : List Rb) (d : List Bl) : Prop :=
  w.ownsRow B 56 6 v rbs.length (flat6 rbs) ∧ rbs.length = d.length ∧ ∀ k, k < d.length → BlX w B (rbs.getD k rb0) (d.getD k bl0)
theorem BlOwn.x {w : World} {B lo mid hi : Nat} {x : Rb} {y : Bl} (h : BlOwn w lo mid hi x y) (hB : B ≤ lo) : BlX w B x y := by
  obtain ⟨h0, h1, h2, ⟨rs, h3, h4, h5⟩, h6, h7⟩ := h
  exact ⟨h0, own_less h1 hB, rs, h3.less (by omega)⟩
theorem DocOwn.x {w : World} {B E : Nat} {v : Value} {rbs : List Rb} {d : List Bl} (h : DocOwn w B E v rbs d) : DocX w B v rbs d := by
  obtain ⟨h0, -, h2, lo, mid, hi, h3, -⟩ := h
  exact ⟨h0, h2, fun k hk => (h3 k hk).2.2.x (h3 k hk).1⟩
theorem BlX.at {w : World} {B : Nat} {x : Rb} {y : Bl} (h : BlX w B x y) {b o : Nat} (hc : ∀ j, j < 6 → w.cell? ⟨b, o + j, none⟩ = (rbCells x)[j]?) : BlockIs w b o y x.2.2.1.1 x.2.2.1.2.1 x.2.2.1.2.2 x.2.2.2.2.2.1 x.2.2.2.2.2.2.1 x.2.2.2.2.2.2.2 := by
  obtain ⟨⟨h0, h1, h2, h3⟩, h4, ⟨rs, h5⟩⟩ := h
  refine ⟨?_, ?_, ?_, ?_, ?_, ?_, ?_, ?_⟩
  · have := hc 0 (by omega); rw [Nat.add_zero] at this; rw [this, ← h0]; rfl
  · have := hc 1 (by omega); rw [this, ← h1]; rfl
  · have := hc 2 (by omega); rw [this]; rfl
  · have := hc 3 (by omega); rw [this, ← h2]; rfl
  · have := hc 4 (by omega); rw [this, ← h3]; rfl
  · have := hc 5 (by omega); rw [this]; rfl
  · exact Own.txt h4
  · exact OwnT.tab h5
theorem DocX.len {w : World} {B : Nat} {a : Option Addr} {n c : Nat} {rbs : List Rb} {d : List Bl} (h : DocX w B (.slice a n c) rbs d) : n = d.length := by
  obtain ⟨h0, h2, -⟩ := h
  rcases h0.2 with ⟨hv, hz⟩ | ⟨g, cap, cur, hv, r⟩
  · simp only [Value.slice.injEq] at hv; omega
  · simp only [Value.slice.injEq] at hv; omega
theorem DocX.shape {w : World} {B : Nat} {v : Value} {rbs : List Rb} {d : List Bl} (h : DocX w B v rbs d) : ∃ a c, v = .slice a d.length c := by
  obtain ⟨h0, h2, -⟩ := h
  rw [← h2]
  rcases h0.2 with ⟨rfl, hz⟩ | ⟨g, cap, cur, rfl, r⟩
  · exact ⟨none, 0, by rw [hz]⟩
  · exact ⟨_, _, rfl⟩
theorem DocX.dc {w : World} {B : Nat} {a : Option Addr} {n c : Nat} {rbs : List Rb} {d : List Bl} (h : DocX w B (.slice a n c) rbs d) : Dc w a n c d := by
  have hn := h.len
  obtain ⟨h0, h2, h3⟩ := h
  have h0' := h0
  rcases h0.2 with ⟨hv, hz⟩ | ⟨g, cap, cur, hv, hg, hgg, hr1, hr2, hr3, hr4⟩
  · cases hv
    exact ⟨hn, Nat.le_refl _, by unfold maxLen; omega, .inl (List.eq_nil_of_length_eq_zero (by omega))⟩
  · simp only [Value.slice.injEq] at hv
    obtain ⟨rfl, h6, rfl⟩ := hv
    refine ⟨hn, by omega, hr2, .inr ⟨g, 0, rfl, (Array.getElem?_eq_some_iff.1 hgg).1, fun k hk => ?_⟩⟩
    refine ⟨_, _, _, _, _, _, (h3 k hk).at (fun j hj => ?_)⟩
    rw [h6] at h0'
    have hc := h0'.cellAt (k * 6 + j) (by omega)
    rw [Nat.zero_add, hc]
    exact flat6_get rbs k (by omega) j hj
theorem BlX.below {w w' : World} {B : Nat} {x : Rb} {y : Bl} (h : BlX w B x y) (hb : Below w.heap.size w w') : BlX w' B x y :=
  ⟨h.1, own_below h.2.1 hb, h.2.2.elim fun rs hr => ⟨rs, hr.below hb⟩⟩
theorem DocX.below {w w' : World} {B : Nat} {v : Value} {rbs : List Rb} {d : List Bl} (h : DocX w B v rbs d) (hb : Below w.heap.size w w') : DocX w' B v rbs d :=
  ⟨own_below h.1 hb, h.2.1, fun k hk => (h.2.2 k hk).below hb⟩
theorem DocX.alloc {w : World} {B : Nat} {v : Value} {rbs : List Rb} {d : List Bl} (h : DocX w B v rbs d) (o : Obj) : DocX (w.alloc o) B v rbs d := h.below ((Below.refl _ _).alloc (Nat.le_refl _) _)
theorem BlX.fr {w w' : World} {B g : Nat} {x : Rb} {y : Bl} (h : BlX w B x y) (hf : Fr w.heap.size g w w') (hg : g < B) : BlX w' B x y :=
  ⟨h.1, own_fr h.2.1 hf hg, h.2.2.elim fun rs hr => ⟨rs, hr.fr hf hg⟩⟩
theorem DocX.fr {w w' : World} {B g : Nat} {v : Value} {rbs : List Rb} {d : List Bl} (h : DocX w B v rbs d) (hf : Fr w.heap.size g w w') (hg : g < B) : DocX w' B v rbs d :=
  ⟨own_fr h.1 hf hg, h.2.1, fun k hk => (h.2.2 k hk).fr hf hg⟩
theorem BlX.less {w : World} {B B' : Nat} {x : Rb} {y : Bl} (h : BlX w B' x y) (hB : B ≤ B') : BlX w B x y :=
  ⟨h.1, own_less h.2.1 hB, h.2.2.elim fun rs hr => ⟨rs, hr.less hB⟩⟩
theorem DocX.less {w : World} {B B' : Nat} {v : Value} {rbs : List Rb} {d : List Bl} (h : DocX w B' v rbs d) (hB : B ≤ B') : DocX w B v rbs d :=
  ⟨own_less h.1 hB, h.2.1, fun k hk => (h.2.2 k hk).less hB⟩
theorem BlX.kept {w w' : World} {B : Nat} {x : Rb} {y : Bl} (h : BlX w B x y) (hk : Kept B w.heap.size w w') : BlX w' B x y :=
  ⟨h.1, own_kept h.2.1 (by decide) (fun g hg => (own_lt h.2.1 hg).2) hk, h.2.2.elim fun rs hr => ⟨rs, ownT_kept hr (fun g hg => (own_lt hr.1 hg).2) (fun k hk' g hg => (own_lt (hr.2.2.1 k hk').2.2.2.2 hg).2) hk⟩⟩
theorem DocX.nil (w : World) (B : Nat) : DocX w B (.slice none 0 0) [] [] := ⟨World.ownsRow_nil _ _ _ _, rfl, fun k hk => absurd hk (by simp)⟩
/-- One block of a row is another one. -/
theorem docX_set {w w' : World} {B : Nat} {v : Value} {rbs : List Rb} {d : List Bl} (h : DocX w B v rbs d) (hk : Kept B w.heap.size w w') (m : Nat) (x : Rb) (y : Bl) (hrow : w'.ownsRow B 56 6 v (rbs.set m x).length (flat6 (rbs.set m x))) (hxy : BlX w' B x y) : DocX w' B v (rbs.set m x) (d.set m y) := by
  obtain ⟨-, h2, h3⟩ := h
  refine ⟨hrow, by simp [h2], fun k hk' => ?_⟩
  simp only [List.length_set] at hk'
  by_cases e : m = k
  · subst e
    rw [rb_getD_set_self (by omega), bl_getD_set_self hk']
    exact hxy
  · rw [rb_getD_set_other e, bl_getD_set_other e]
    exact (h3 k hk').kept hk
theorem bl_getD_app_l {d : List Bl} {y : Bl} {k : Nat} (h : k < d.length) : (d ++ [y]).getD k bl0 = d.getD k bl0 := by simp [List.getD, List.getElem?_append_left h]
theorem bl_getD_app_r {d : List Bl} {y : Bl} : (d ++ [y]).getD d.length bl0 = y := by simp [List.getD]
theorem rb_getD_app_l {d : List Rb} {y : Rb} {k : Nat} (h : k < d.length) : (d ++ [y]).getD k rb0 = d.getD k rb0 := by simp [List.getD, List.getElem?_append_left h]
theorem rb_getD_app_r {d : List Rb} {y : Rb} : (d ++ [y]).getD d.length rb0 = y := by simp [List.getD]
/-- A block more. -/
theorem docX_snoc {B : Nat} {u3 u4 : World} {v v' : Value} {rbs : List Rb} {d : List Bl} {x : Rb} {y : Bl} {n : Nat} (h : DocX u3 B v rbs d) (hn : n = d.length) (hx : BlX u3 B x y)
    (hown : u4.ownsRow B 56 6 v' (n + 1) (flat6 rbs ++ rbCells x)) (hgrow : u3.grownBy u4 v.ownBlock) : DocX u4 B v' (rbs ++ [x]) (d ++ [y]) := by
  have hk : Kept B u3.heap.size u3 u4 := kept_grown (own_rowAts h.1) hgrow _ _
  have hl := h.2.1
  refine ⟨?_, by simp [hl], fun k hk' => ?_⟩
  · rw [List.length_append, flat6_append, List.length_singleton, hl, ← hn]
    have e : flat6 [x] = rbCells x := by simp [flat6]
    rw [e]
    exact hown
  · by_cases e : k < d.length
    · rw [bl_getD_app_l e, rb_getD_app_l (by omega)]
      exact (h.2.2 k e).kept hk
    · have e : k = d.length := by simp at hk'; omega
      subst e
      rw [bl_getD_app_r, ← hl, rb_getD_app_r]
      exact hx.kept hk
theorem docX_kind {w : World} {B g n c : Nat} {rbs : List Rb} {d : List Bl} (h : DocX w B (.slice (some ⟨g, 0, none⟩) n c) rbs d) (m : Nat) (hm : m < d.length) (k : Int) : DocX (w.setCell ⟨g, m * 6, none⟩ (.int .i64 k)) B (.slice (some ⟨g, 0, none⟩) n c) (rbs.set m (k, (rbs.getD m rb0).2)) (d.set m (k, (d.getD m bl0).2)) := by
  obtain ⟨cur, hcur⟩ := own_rowAt h.1
  have hl := h.2.1
  have hk := kept_set hcur B w.heap.size (m * 6) (.int .i64 k)
  have hb := (h.2.2 m hm).kept hk
  refine docX_set h hk m _ _ ?_ ⟨⟨rfl, hb.1.2⟩, hb.2⟩
  have := rows_set h.1 m 0 (by omega) (by omega) (.int .i64 k) (k, (rbs.getD m rb0).2) rfl
  rwa [Nat.add_zero] at this
theorem docX_level {w : World} {B g n c : Nat} {rbs : List Rb} {d : List Bl} (h : DocX w B (.slice (some ⟨g, 0, none⟩) n c) rbs d) (m : Nat) (hm : m < d.length) (v : Int) : DocX (w.setCell ⟨g, m * 6 + 1, none⟩ (.int .i64 v)) B (.slice (some ⟨g, 0, none⟩) n c) (rbs.set m ((rbs.getD m rb0).1, v, (rbs.getD m rb0).2.2)) (d.set m ((d.getD m bl0).1, v, (d.getD m bl0).2.2)) := by
  obtain ⟨cur, hcur⟩ := own_rowAt h.1
  have hl := h.2.1
  have hk := kept_set hcur B w.heap.size (m * 6 + 1) (.int .i64 v)
  have hb := (h.2.2 m hm).kept hk
  exact docX_set h hk m _ _ (rows_set h.1 m 1 (by omega) (by omega) (.int .i64 v) _ rfl) ⟨⟨hb.1.1, rfl, hb.1.2.2⟩, hb.2⟩
/-- A text that is owned is written into a block. -/
theorem docX_text {w : World} {B g n c : Nat} {rbs : List Rb} {d : List Bl} (h : DocX w B (.slice (some ⟨g, 0, none⟩) n c) rbs d) (m : Nat) (hm : m < d.length) (s : Sl3) (t : List Sg) (ht : Own w B (sl3V s) t) : DocX (w.setCell ⟨g, m * 6 + 2, none⟩ (sl3V s)) B (.slice (some ⟨g, 0, none⟩) n c) (rbs.set m ((rbs.getD m rb0).1, (rbs.getD m rb0).2.1, s, (rbs.getD m rb0).2.2.2)) (d.set m ((d.getD m bl0).1, (d.getD m bl0).2.1, t, (d.getD m bl0).2.2.2)) := by
  obtain ⟨cur, hcur⟩ := own_rowAt h.1
  have hl := h.2.1
  have hk := kept_set hcur B w.heap.size (m * 6 + 2) (sl3V s)
  have hb := (h.2.2 m hm).kept hk
  exact docX_set h hk m _ _ (rows_set h.1 m 2 (by omega) (by omega) (sl3V s) _ rfl) ⟨hb.1, own_kept ht (by decide) (fun g hg => (own_lt ht hg).2) hk, hb.2.2⟩
/-- A table that is owned is written into a block. -/
theorem docX_table {w : World} {B g n c : Nat} {rbs : List Rb} {d : List Bl} (h : DocX w B (.slice (some ⟨g, 0, none⟩) n c) rbs d) (m : Nat) (hm : m < d.length) (R C : Int) (s : Sl3) (rs : List Rw) (l : List Cl) (ht : OwnT w B (sl3V s) rs l) : DocX (w.setCells g (m * 6 + 3) [.int .i64 R, .int .i64 C, sl3V s]) B (.slice (some ⟨g, 0, none⟩) n c) (rbs.set m ((rbs.getD m rb0).1, (rbs.getD m rb0).2.1, (rbs.getD m rb0).2.2.1, R, C, s)) (d.set m ((d.getD m bl0).1, (d.getD m bl0).2.1, (d.getD m bl0).2.2.1, R, C, l)) := by
  show DocX (((w.setCell ⟨g, m * 6 + 3, none⟩ (.int .i64 R)).setCell ⟨g, m * 6 + 4, none⟩ (.int .i64 C)).setCell ⟨g, m * 6 + 5, none⟩ (sl3V s)) _ _ _ _
  have hl := h.2.1
  have r1 := rows_set h.1 m 3 (by omega) (by omega) (.int .i64 R) ((rbs.getD m rb0).1, (rbs.getD m rb0).2.1, (rbs.getD m rb0).2.2.1, R, (rbs.getD m rb0).2.2.2.2) rfl
  have r2 := rows_set r1 m 4 (by simp; omega) (by omega) (.int .i64 C) ((rbs.getD m rb0).1, (rbs.getD m rb0).2.1, (rbs.getD m rb0).2.2.1, R, C, (rbs.getD m rb0).2.2.2.2.2) (by rw [rb_getD_set_self (by omega)]; rfl)
  rw [List.set_set] at r2
  have r3 := rows_set r2 m 5 (by simp; omega) (by omega) (sl3V s) ((rbs.getD m rb0).1, (rbs.getD m rb0).2.1, (rbs.getD m rb0).2.2.1, R, C, s) (by rw [rb_getD_set_self (by omega)]; rfl)
  rw [List.set_set] at r3
  obtain ⟨c0, hc0⟩ := own_rowAt h.1
  obtain ⟨c1, hc1⟩ := own_rowAt r1
  obtain ⟨c2, hc2⟩ := own_rowAt r2
  have hk : Kept B w.heap.size w (((w.setCell ⟨g, m * 6 + 3, none⟩ (.int .i64 R)).setCell ⟨g, m * 6 + 4, none⟩ (.int .i64 C)).setCell ⟨g, m * 6 + 5, none⟩ (sl3V s)) := ((kept_set hc0 B w.heap.size (m * 6 + 3) (.int .i64 R)).trans (kept_set hc1 B w.heap.size (m * 6 + 4) (.int .i64 C))).trans (kept_set hc2 B w.heap.size (m * 6 + 5) (sl3V s))
  have hb := (h.2.2 m hm).kept hk
  exact docX_set h hk m _ _ r3 ⟨⟨hb.1.1, hb.1.2.1, rfl, rfl⟩, hb.2.1, rs, ownT_kept ht (fun g hg => (own_lt ht.1 hg).2) (fun k hk' g hg => (own_lt (ht.2.2.1 k hk').2.2.2.2 hg).2) hk⟩
theorem chain_leX {lo mid hi : Nat → Nat} {n : Nat} (h1 : ∀ k, k < n → lo k ≤ mid k ∧ mid k ≤ hi k) (h2 : ∀ k, k + 1 < n → hi k ≤ lo (k + 1)) : ∀ {i k : Nat}, i < k → k < n → hi i ≤ lo k := by
  intro i k
  induction k with
  | zero => omega
  | succ k ih =>
    intro hik hk
    have a := h2 k hk
    by_cases e : i = k
    · subst e; exact a
    · have b := ih (by omega) (by omega)
      have c := h1 k (by omega)
      omega
theorem OwnT.fo {w w' : World} {B g : Nat} {o : Option Nat} {v : Value} {rs : List Rw} {l : List Cl} (h : OwnT w B v rs l) (hf : Fo g o w w') (hg : g < B) (ho : ∀ b, B ≤ b → o ≠ some b) : OwnT w' B v rs l :=
  ⟨own_fo h.1 hf hg (fun b hb => ho b (own_lt h.1 hb).1), h.2.1, fun k hk => by
    obtain ⟨h0, h1, h2, h3, h4⟩ := h.2.2.1 k hk
    exact ⟨h0, h1, h2, h3, own_fo h4 hf hg (fun b hb => ho b (own_lt h4 hb).1)⟩, h.2.2.2⟩
/-- Behind a call that may have written into a block's text: all but that text is as it was, and another text is written there. -/
theorem docX_bad {w w' : World} {B E g q n c : Nat} {rbs : List Rb} {d : List Bl} (h : DocOwn w B E (.slice (some ⟨q, 0, none⟩) n c) rbs d) (m : Nat) (hm : m < d.length) (hf : Fo g (sl3V (rbs.getD m rb0).2.2.1).ownBlock w w') (hg : g < B) (s : Sl3) (t : List Sg) (ht : Own w' B (sl3V s) t) :
    DocX (w'.setCell ⟨q, m * 6 + 2, none⟩ (sl3V s)) B (.slice (some ⟨q, 0, none⟩) n c) (rbs.set m ((rbs.getD m rb0).1, (rbs.getD m rb0).2.1, s, (rbs.getD m rb0).2.2.2)) (d.set m ((d.getD m bl0).1, (d.getD m bl0).2.1, t, (d.getD m bl0).2.2.2)) := by
  obtain ⟨h0, -, h2, lo, mid, hi, h3, h4⟩ := h
  have hlm : ∀ k, k < d.length → lo k ≤ mid k ∧ mid k ≤ hi k := fun k hk => ⟨(h3 k hk).2.2.2.2.2.2.1, (h3 k hk).2.2.2.2.2.2.2⟩
  have hbm := h3 m hm
  have hob : ∀ b, (sl3V (rbs.getD m rb0).2.2.1).ownBlock = some b → lo m ≤ b ∧ b < mid m := fun b hb => ⟨(own_lt hbm.2.2.2.1 hb).1, hbm.2.2.2.2.1 b hb⟩
  have hrow : w'.ownsRow B 56 6 (.slice (some ⟨q, 0, none⟩) n c) rbs.length (flat6 rbs) := own_fo h0 hf hg (fun b hb e => own_kinds h0 hbm.2.2.2.1 (by decide) b e hb)
  obtain ⟨cur, hcur⟩ := own_rowAt hrow
  have hk := kept_set hcur B w'.heap.size (m * 6 + 2) (sl3V s)
  refine ⟨rows_set hrow m 2 (by omega) (by omega) (sl3V s) _ rfl, by simp [h2], fun k hk' => ?_⟩
  simp only [List.length_set] at hk'
  obtain ⟨a, b, hb0, hb1, hb2, ⟨rs, hb3, hb4, hb5⟩, hb6, hb7⟩ := h3 k hk'
  have far : ∀ x, mid k ≤ x → x < hi k → (sl3V (rbs.getD m rb0).2.2.1).ownBlock ≠ some x := fun x hx hx' e => by
    have := hob x e
    rcases Nat.lt_trichotomy m k with hlt | rfl | hlt
    · have := chain_leX hlm h4 hlt hk'; have := hlm m hm; omega
    · omega
    · have := chain_leX hlm h4 hlt hm; omega
  have hT : OwnT w' B (sl3V (rbs.getD k rb0).2.2.2.2.2) rs (d.getD k bl0).2.2.2.2.2 :=
    ⟨own_fo (own_less hb3.1 (by omega)) hf hg (fun x hx => far x (own_lt hb3.1 hx).1 (hb4 x hx)), hb3.2.1, fun j hj => by
      obtain ⟨e0, e1, e2, e3, e4⟩ := hb3.2.2.1 j hj
      exact ⟨e0, e1, e2, e3, own_fo (own_less e4 (by omega)) hf hg (fun x hx => far x (own_lt e4 hx).1 (hb5 j hj x hx))⟩, hb3.2.2.2⟩
  by_cases e : m = k
  · subst e
    rw [rb_getD_set_self (by omega), bl_getD_set_self hk']
    exact ⟨hb0, own_kept ht (by decide) (fun g hg => (own_lt ht hg).2) hk, rs, ownT_kept hT (fun g hg => (own_lt hT.1 hg).2) (fun k hk' g hg => (own_lt (hT.2.2.1 k hk').2.2.2.2 hg).2) hk⟩
  · rw [rb_getD_set_other e, bl_getD_set_other e]
    have hO : Own w' B (sl3V (rbs.getD k rb0).2.2.1) (d.getD k bl0).2.2.1 := own_fo (own_less hb1 a) hf hg (fun x hx e2 => by
      have := hob x e2
      have h5 := (own_lt hb1 hx).1
      have h6 := hb2 x hx
      rcases Nat.lt_trichotomy m k with hlt | rfl | hlt
      · have := chain_leX hlm h4 hlt hk'; have := hlm m hm; omega
      · exact e rfl
      · have := chain_leX hlm h4 hlt hm; omega)
    exact BlX.kept ⟨hb0, hO, rs, hT⟩ hk
end Go.Proofs.YtccoeachemnbnaaGreatDoor
namespace Go.Proofs.YtccoeachemnbnaaGreatDoor
open Go.RowKit

theorem blkX_info : (Tryz.prog.info? 56).map (·.size) = some 6 := by kernel_rfl
theorem infoX_block : (Tryz.prog.info? 56).map (fun i => (i.zero, i.size, i.bytes)) = some (some (.agg #[.int .i64 0, .int .i64 0, .slice none 0 0, .int .i64 0, .int .i64 0, .slice none 0 0]), 6, 80) := by kernel_rfl
theorem cellsX_one (k v : Int) (ta : Option Addr) (tn tc : Nat) (R C : Int) (ca : Option Addr) (cn cc : Nat) : (#[.int .i64 k, .int .i64 v, .slice ta tn tc, .int .i64 R, .int .i64 C, .slice ca cn cc] : Array Value).all (·.oneCell') = true := by simp [Value.oneCell']
theorem kept_setRow {w : World} {g : Nat} {cur : Array Value} (h : RowAt w g cur 56) (B E : Nat) (cs : Array Value) : Kept B E w (w.setRow g cs) := fun b cs' ty _ _ hty hr => hr.setRowOther _ _ (fun e => by
  subst e
  unfold RowAt at h hr
  rw [hr] at h
  simp only [Option.some.injEq, Obj.cells.injEq] at h
  exact hty h.2.1)
/-- A block that was drawn: its level is one, its text and its table are small. -/
def BlDr (y : Bl) : Prop := (0 ≤ y.2.1 ∧ y.2.1 ≤ 3) ∧ y.2.2.1.length ≤ 24 ∧ y.2.2.2.2.2.length ≤ 25 ∧ ∀ x ∈ y.2.2.2.2.2, x.2.2.2.2.length ≤ 24
set_option maxRecDepth 100000 in
set_option maxHeartbeats 4000000 in
theorem l71Block_any (B g p : Nat) (lv : Int) (w : World) (h : Rd B w g p) (hp : p ≤ 888000) (hl0 : 0 ≤ lv) (hl1 : lv ≤ 100) :
    Calls Tryz.prog 76 #[.pointer (some ⟨g, 0, none⟩), .int .i64 lv] w fun e w' => ∃ (K V : Int) (ta : Option Addr) (tn tc : Nat) (R C : Int) (ca : Option Addr) (cn cc : Nat) (y : Bl) (q : Nat), e = .returned (.agg #[.int .i64 K, .int .i64 V, .slice ta tn tc, .int .i64 R, .int .i64 C, .slice ca cn cc]) ∧
      BlX w' w.heap.size (K, V, (ta, tn, tc), R, C, (ca, cn, cc)) y ∧ BlDr y ∧ Rd B w' g q ∧ q ≤ p + 502 ∧ Fr w.heap.size g w w' := by
  have hlt := h.lt
  have HR : Hid (Rd B w g p) := h
  clear h
  go_enter Tryz.func76, Tryz.ntmps76
  go_upto_region 1 with fail
  have F0 : Fr w.heap.size g w (w.alloc (.cells #[.int .i64 0, .int .i64 0, .slice none 0 0, .int .i64 0, .int .i64 0, .slice none 0 0] 56)) := (Fr.refl _ _ w).alloc (Nat.le_refl _) _
  have Z0 : RowAt (w.alloc (.cells #[.int .i64 0, .int .i64 0, .slice none 0 0, .int .i64 0, .int .i64 0, .slice none 0 0] 56)) w.heap.size #[.int .i64 0, .int .i64 0, .slice none 0 0, .int .i64 0, .int .i64 0, .slice none 0 0] 56 := rowAt_new _ _ _
  have HR0 : Hid (Rd B (w.alloc (.cells #[.int .i64 0, .int .i64 0, .slice none 0 0, .int .i64 0, .int .i64 0, .slice none 0 0] 56)) g p) := HR.out.alloc _
  generalize (w.alloc (.cells #[.int .i64 0, .int .i64 0, .slice none 0 0, .int .i64 0, .int .i64 0, .slice none 0 0] 56)) = v0 at F0 Z0 HR0 ⊢
  have zz0 := Z0.lt
  have HZ0 : Hid (RowAt v0 w.heap.size #[.int .i64 0, .int .i64 0, .slice none 0 0, .int .i64 0, .int .i64 0, .slice none 0 0] 56) := Z0
  have HF0 : Hid (Fr w.heap.size g w v0) := F0
  clear F0 Z0
  go_wp2_with fail
  refine (pick_any B g p 6 _ HR0.out (by omega) (by omega) (by omega)).mono ?_
  rintro e w1 ⟨u, rfl, hu0, hu1, hr1, hg1⟩
  have HR1 : Hid (Rd B w1 g (p + 1)) := hr1
  have f1 := fr_grown hg1
  have s1 := f1.size
  have HZ1 : Hid (RowAt w1 w.heap.size #[.int .i64 0, .int .i64 0, .slice none 0 0, .int .i64 0, .int .i64 0, .slice none 0 0] 56) := HZ0.out.fr f1 (by omega)
  have HF1 : Hid (Fr w.heap.size g w w1) := HF0.out.trans (f1.mono (by omega))
  clear hr1 hg1 f1 HZ0 HF0 HR0
  by_cases u0 : u = 0
  · subst u0
    go_wp2_with (first | (go_at_call 79; refine (l71Table_any B g (p + 1) _ HR1.out (by omega)).mono ?_; rintro e w2 ⟨R, C, a, n, c, rs, l, q, rfl, hO, hS, hr2, hq, hf2⟩; have HR2 : Hid (Rd B w2 g q) := hr2; have s2 := hf2.size; have HO : Hid (OwnT w2 w.heap.size (.slice a n c) rs l) := hO.less (by omega); have HS : Hid (TabSm R C l) := hS; have HZ : Hid (RowAt w2 w.heap.size #[.int .i64 0, .int .i64 0, .slice none 0 0, .int .i64 0, .int .i64 0, .slice none 0 0] 56) := HZ1.out.fr hf2 (by omega); have HF2 : Hid (Fr w.heap.size g w w2) := HF1.out.trans (hf2.mono (by omega)); clear hr2 hO hS hf2) | (refine wpList_store_row rfl 56 (.tmp 4) (.tmp 11) rfl w.heap.size #[.int .i64 3, .int .i64 0, .slice none 0 0, .int .i64 R, .int .i64 C, .slice a n c] rfl rfl 56 _ HZ.out blkX_info rfl (cellsX_one _ _ _ _ _ _ _ _ _ _) ?_))
    have bT : Below w.heap.size w2 (w2.setRow w.heap.size #[.int .i64 3, .int .i64 0, .slice none 0 0, .int .i64 R, .int .i64 C, .slice a n c]) := below_row (Below.refl _ _) (Nat.le_refl _) _
    refine bodyPost_ret (v := .agg #[.int .i64 3, .int .i64 0, .slice none 0 0, .int .i64 R, .int .i64 C, .slice a n c]) (results_cell_row (p := 4) (ty := 56) rfl _ _ w.heap.size 56 _ _ _ rfl (RowAt.setRow HZ.out _) Tryz.underlying56 rfl blkX_info) rfl ⟨_, _, _, _, _, _, _, _, _, _, (3, 0, [], R, C, l), q, rfl, ?_, ?_, HR2.out.below bT hlt, by omega, HF2.out.below bT⟩
    · exact BlX.kept (x := (3, 0, (none, 0, 0), R, C, (a, n, c))) ⟨⟨rfl, rfl, rfl, rfl⟩, World.ownsRow_nil _ _ _ _, rs, HO.out⟩ (kept_setRow HZ.out _ _ _)
    · obtain ⟨_, _, h3, h4⟩ := HS.out
      exact ⟨by simp, by simp, h3.2, h4⟩
  · have g0 : (u == 0) = false := by simp; omega
    by_cases u1 : u = 1
    · subst u1
      by_cases hb : 3 < lv
      · go_wp2_with (first | (go_at_call 60; refine (pick_any B g (p + 1) _ _ HR1.out (by omega) (by omega) (by omega)).mono ?_; rintro e w2 ⟨V, rfl, hV0, hV1, hr2, hg2⟩; have HR2 : Hid (Rd B w2 g (p + 1 + 1)) := hr2; have f2 := fr_grown hg2; have s2 := f2.size; have HZ2 : Hid (RowAt w2 w.heap.size #[.int .i64 0, .int .i64 0, .slice none 0 0, .int .i64 0, .int .i64 0, .slice none 0 0] 56) := HZ1.out.fr f2 (by omega); have HF2 : Hid (Fr w.heap.size g w w2) := HF1.out.trans (f2.mono (by omega)); clear hr2 hg2 f2) | (go_at_call 89; refine (l71Text_any B g (p + 1 + 1) 6 _ HR2.out (by omega) (by omega)).mono ?_; rintro e w3 ⟨v, t, q, rfl, hO, hL, hr3, hq, hf3⟩; obtain ⟨a, c, rfl⟩ := Own.shapeN hO rfl; have HR3 : Hid (Rd B w3 g q) := hr3; have s3 := hf3.size; have HO : Hid (Own w3 w.heap.size (.slice a t.length c) t) := own_less hO (by omega); have HL : Hid (t.length ≤ 6) := hL; have HZ : Hid (RowAt w3 w.heap.size #[.int .i64 0, .int .i64 0, .slice none 0 0, .int .i64 0, .int .i64 0, .slice none 0 0] 56) := HZ2.out.fr hf3 (by omega); have HF3 : Hid (Fr w.heap.size g w w3) := HF2.out.trans (hf3.mono (by omega)); clear hr3 hO hf3 hL) | (refine wpList_store_row rfl 56 (.tmp 4) (.tmp 24) rfl w.heap.size #[.int .i64 2, .int .i64 V, .slice a t.length c, .int .i64 0, .int .i64 0, .slice none 0 0] rfl rfl 56 _ HZ.out blkX_info rfl (cellsX_one _ _ _ _ _ _ _ _ _ _) ?_))
        have bT : Below w.heap.size w3 (w3.setRow w.heap.size #[.int .i64 2, .int .i64 V, .slice a t.length c, .int .i64 0, .int .i64 0, .slice none 0 0]) := below_row (Below.refl _ _) (Nat.le_refl _) _
        refine bodyPost_ret (v := .agg #[.int .i64 2, .int .i64 V, .slice a t.length c, .int .i64 0, .int .i64 0, .slice none 0 0]) (results_cell_row (p := 4) (ty := 56) rfl _ _ w.heap.size 56 _ _ _ rfl (RowAt.setRow HZ.out _) Tryz.underlying56 rfl blkX_info) rfl ⟨_, _, _, _, _, _, _, _, _, _, (2, V, t, 0, 0, []), q, rfl, ?_, ?_, HR3.out.below bT hlt, by omega, HF3.out.below bT⟩
        · exact BlX.kept (x := (2, V, (a, t.length, c), 0, 0, (none, 0, 0))) ⟨⟨rfl, rfl, rfl, rfl⟩, HO.out, [], ⟨World.ownsRow_nil _ _ _ _, TxtOwn.nil _ _ _⟩⟩ (kept_setRow HZ.out _ _ _)
        · have := HL.out
          exact ⟨by show 0 ≤ V ∧ V ≤ 3; omega, by show t.length ≤ 24; omega, by simp, by simp⟩
      · go_wp2_with (first | (go_at_call 60; refine (pick_any B g (p + 1) _ _ HR1.out (by omega) (by omega) (by omega)).mono ?_; rintro e w2 ⟨V, rfl, hV0, hV1, hr2, hg2⟩; have HR2 : Hid (Rd B w2 g (p + 1 + 1)) := hr2; have f2 := fr_grown hg2; have s2 := f2.size; have HZ2 : Hid (RowAt w2 w.heap.size #[.int .i64 0, .int .i64 0, .slice none 0 0, .int .i64 0, .int .i64 0, .slice none 0 0] 56) := HZ1.out.fr f2 (by omega); have HF2 : Hid (Fr w.heap.size g w w2) := HF1.out.trans (f2.mono (by omega)); clear hr2 hg2 f2) | (go_at_call 89; refine (l71Text_any B g (p + 1 + 1) 6 _ HR2.out (by omega) (by omega)).mono ?_; rintro e w3 ⟨v, t, q, rfl, hO, hL, hr3, hq, hf3⟩; obtain ⟨a, c, rfl⟩ := Own.shapeN hO rfl; have HR3 : Hid (Rd B w3 g q) := hr3; have s3 := hf3.size; have HO : Hid (Own w3 w.heap.size (.slice a t.length c) t) := own_less hO (by omega); have HL : Hid (t.length ≤ 6) := hL; have HZ : Hid (RowAt w3 w.heap.size #[.int .i64 0, .int .i64 0, .slice none 0 0, .int .i64 0, .int .i64 0, .slice none 0 0] 56) := HZ2.out.fr hf3 (by omega); have HF3 : Hid (Fr w.heap.size g w w3) := HF2.out.trans (hf3.mono (by omega)); clear hr3 hO hf3 hL) | (refine wpList_store_row rfl 56 (.tmp 4) (.tmp 24) rfl w.heap.size #[.int .i64 2, .int .i64 V, .slice a t.length c, .int .i64 0, .int .i64 0, .slice none 0 0] rfl rfl 56 _ HZ.out blkX_info rfl (cellsX_one _ _ _ _ _ _ _ _ _ _) ?_))
        have bT : Below w.heap.size w3 (w3.setRow w.heap.size #[.int .i64 2, .int .i64 V, .slice a t.length c, .int .i64 0, .int .i64 0, .slice none 0 0]) := below_row (Below.refl _ _) (Nat.le_refl _) _
        refine bodyPost_ret (v := .agg #[.int .i64 2, .int .i64 V, .slice a t.length c, .int .i64 0, .int .i64 0, .slice none 0 0]) (results_cell_row (p := 4) (ty := 56) rfl _ _ w.heap.size 56 _ _ _ rfl (RowAt.setRow HZ.out _) Tryz.underlying56 rfl blkX_info) rfl ⟨_, _, _, _, _, _, _, _, _, _, (2, V, t, 0, 0, []), q, rfl, ?_, ?_, HR3.out.below bT hlt, by omega, HF3.out.below bT⟩
        · exact BlX.kept (x := (2, V, (a, t.length, c), 0, 0, (none, 0, 0))) ⟨⟨rfl, rfl, rfl, rfl⟩, HO.out, [], ⟨World.ownsRow_nil _ _ _ _, TxtOwn.nil _ _ _⟩⟩ (kept_setRow HZ.out _ _ _)
        · have := HL.out
          exact ⟨by show 0 ≤ V ∧ V ≤ 3; omega, by show t.length ≤ 24; omega, by simp, by simp⟩
    · have g1 : (u == 1) = false := by simp; omega
      by_cases u2 : u = 2
      · subst u2
        by_cases hb : 3 < lv
        · go_wp2_with (first | (go_at_call 60; refine (pick_any B g (p + 1) _ _ HR1.out (by omega) (by omega) (by omega)).mono ?_; rintro e w2 ⟨V, rfl, hV0, hV1, hr2, hg2⟩; have HR2 : Hid (Rd B w2 g (p + 1 + 1)) := hr2; have f2 := fr_grown hg2; have s2 := f2.size; have HZ2 : Hid (RowAt w2 w.heap.size #[.int .i64 0, .int .i64 0, .slice none 0 0, .int .i64 0, .int .i64 0, .slice none 0 0] 56) := HZ1.out.fr f2 (by omega); have HF2 : Hid (Fr w.heap.size g w w2) := HF1.out.trans (f2.mono (by omega)); clear hr2 hg2 f2) | (go_at_call 89; refine (l71Text_any B g (p + 1 + 1) 6 _ HR2.out (by omega) (by omega)).mono ?_; rintro e w3 ⟨v, t, q, rfl, hO, hL, hr3, hq, hf3⟩; obtain ⟨a, c, rfl⟩ := Own.shapeN hO rfl; have HR3 : Hid (Rd B w3 g q) := hr3; have s3 := hf3.size; have HO : Hid (Own w3 w.heap.size (.slice a t.length c) t) := own_less hO (by omega); have HL : Hid (t.length ≤ 6) := hL; have HZ : Hid (RowAt w3 w.heap.size #[.int .i64 0, .int .i64 0, .slice none 0 0, .int .i64 0, .int .i64 0, .slice none 0 0] 56) := HZ2.out.fr hf3 (by omega); have HF3 : Hid (Fr w.heap.size g w w3) := HF2.out.trans (hf3.mono (by omega)); clear hr3 hO hf3 hL) | (refine wpList_store_row rfl 56 (.tmp 4) (.tmp 24) rfl w.heap.size #[.int .i64 2, .int .i64 V, .slice a t.length c, .int .i64 0, .int .i64 0, .slice none 0 0] rfl rfl 56 _ HZ.out blkX_info rfl (cellsX_one _ _ _ _ _ _ _ _ _ _) ?_))
          have bT : Below w.heap.size w3 (w3.setRow w.heap.size #[.int .i64 2, .int .i64 V, .slice a t.length c, .int .i64 0, .int .i64 0, .slice none 0 0]) := below_row (Below.refl _ _) (Nat.le_refl _) _
          refine bodyPost_ret (v := .agg #[.int .i64 2, .int .i64 V, .slice a t.length c, .int .i64 0, .int .i64 0, .slice none 0 0]) (results_cell_row (p := 4) (ty := 56) rfl _ _ w.heap.size 56 _ _ _ rfl (RowAt.setRow HZ.out _) Tryz.underlying56 rfl blkX_info) rfl ⟨_, _, _, _, _, _, _, _, _, _, (2, V, t, 0, 0, []), q, rfl, ?_, ?_, HR3.out.below bT hlt, by omega, HF3.out.below bT⟩
          · exact BlX.kept (x := (2, V, (a, t.length, c), 0, 0, (none, 0, 0))) ⟨⟨rfl, rfl, rfl, rfl⟩, HO.out, [], ⟨World.ownsRow_nil _ _ _ _, TxtOwn.nil _ _ _⟩⟩ (kept_setRow HZ.out _ _ _)
          · have := HL.out
            exact ⟨by show 0 ≤ V ∧ V ≤ 3; omega, by show t.length ≤ 24; omega, by simp, by simp⟩
        · go_wp2_with (first | (go_at_call 60; refine (pick_any B g (p + 1) _ _ HR1.out (by omega) (by omega) (by omega)).mono ?_; rintro e w2 ⟨V, rfl, hV0, hV1, hr2, hg2⟩; have HR2 : Hid (Rd B w2 g (p + 1 + 1)) := hr2; have f2 := fr_grown hg2; have s2 := f2.size; have HZ2 : Hid (RowAt w2 w.heap.size #[.int .i64 0, .int .i64 0, .slice none 0 0, .int .i64 0, .int .i64 0, .slice none 0 0] 56) := HZ1.out.fr f2 (by omega); have HF2 : Hid (Fr w.heap.size g w w2) := HF1.out.trans (f2.mono (by omega)); clear hr2 hg2 f2) | (go_at_call 89; refine (l71Text_any B g (p + 1 + 1) 6 _ HR2.out (by omega) (by omega)).mono ?_; rintro e w3 ⟨v, t, q, rfl, hO, hL, hr3, hq, hf3⟩; obtain ⟨a, c, rfl⟩ := Own.shapeN hO rfl; have HR3 : Hid (Rd B w3 g q) := hr3; have s3 := hf3.size; have HO : Hid (Own w3 w.heap.size (.slice a t.length c) t) := own_less hO (by omega); have HL : Hid (t.length ≤ 6) := hL; have HZ : Hid (RowAt w3 w.heap.size #[.int .i64 0, .int .i64 0, .slice none 0 0, .int .i64 0, .int .i64 0, .slice none 0 0] 56) := HZ2.out.fr hf3 (by omega); have HF3 : Hid (Fr w.heap.size g w w3) := HF2.out.trans (hf3.mono (by omega)); clear hr3 hO hf3 hL) | (refine wpList_store_row rfl 56 (.tmp 4) (.tmp 24) rfl w.heap.size #[.int .i64 2, .int .i64 V, .slice a t.length c, .int .i64 0, .int .i64 0, .slice none 0 0] rfl rfl 56 _ HZ.out blkX_info rfl (cellsX_one _ _ _ _ _ _ _ _ _ _) ?_))
          have bT : Below w.heap.size w3 (w3.setRow w.heap.size #[.int .i64 2, .int .i64 V, .slice a t.length c, .int .i64 0, .int .i64 0, .slice none 0 0]) := below_row (Below.refl _ _) (Nat.le_refl _) _
          refine bodyPost_ret (v := .agg #[.int .i64 2, .int .i64 V, .slice a t.length c, .int .i64 0, .int .i64 0, .slice none 0 0]) (results_cell_row (p := 4) (ty := 56) rfl _ _ w.heap.size 56 _ _ _ rfl (RowAt.setRow HZ.out _) Tryz.underlying56 rfl blkX_info) rfl ⟨_, _, _, _, _, _, _, _, _, _, (2, V, t, 0, 0, []), q, rfl, ?_, ?_, HR3.out.below bT hlt, by omega, HF3.out.below bT⟩
          · exact BlX.kept (x := (2, V, (a, t.length, c), 0, 0, (none, 0, 0))) ⟨⟨rfl, rfl, rfl, rfl⟩, HO.out, [], ⟨World.ownsRow_nil _ _ _ _, TxtOwn.nil _ _ _⟩⟩ (kept_setRow HZ.out _ _ _)
          · have := HL.out
            exact ⟨by show 0 ≤ V ∧ V ≤ 3; omega, by show t.length ≤ 24; omega, by simp, by simp⟩
      · have g2 : (u == 2) = false := by simp; omega
        by_cases u3 : u = 3
        · subst u3
          by_cases hb : 3 < lv
          · go_wp2_with (first | (go_at_call 60; refine (pick_any B g (p + 1) _ _ HR1.out (by omega) (by omega) (by omega)).mono ?_; rintro e w2 ⟨V, rfl, hV0, hV1, hr2, hg2⟩; have HR2 : Hid (Rd B w2 g (p + 1 + 1)) := hr2; have f2 := fr_grown hg2; have s2 := f2.size; have HZ2 : Hid (RowAt w2 w.heap.size #[.int .i64 0, .int .i64 0, .slice none 0 0, .int .i64 0, .int .i64 0, .slice none 0 0] 56) := HZ1.out.fr f2 (by omega); have HF2 : Hid (Fr w.heap.size g w w2) := HF1.out.trans (f2.mono (by omega)); clear hr2 hg2 f2) | (go_at_call 89; refine (l71Text_any B g (p + 1 + 1) 6 _ HR2.out (by omega) (by omega)).mono ?_; rintro e w3 ⟨v, t, q, rfl, hO, hL, hr3, hq, hf3⟩; obtain ⟨a, c, rfl⟩ := Own.shapeN hO rfl; have HR3 : Hid (Rd B w3 g q) := hr3; have s3 := hf3.size; have HO : Hid (Own w3 w.heap.size (.slice a t.length c) t) := own_less hO (by omega); have HL : Hid (t.length ≤ 6) := hL; have HZ : Hid (RowAt w3 w.heap.size #[.int .i64 0, .int .i64 0, .slice none 0 0, .int .i64 0, .int .i64 0, .slice none 0 0] 56) := HZ2.out.fr hf3 (by omega); have HF3 : Hid (Fr w.heap.size g w w3) := HF2.out.trans (hf3.mono (by omega)); clear hr3 hO hf3 hL) | (refine wpList_store_row rfl 56 (.tmp 4) (.tmp 24) rfl w.heap.size #[.int .i64 2, .int .i64 V, .slice a t.length c, .int .i64 0, .int .i64 0, .slice none 0 0] rfl rfl 56 _ HZ.out blkX_info rfl (cellsX_one _ _ _ _ _ _ _ _ _ _) ?_))
            have bT : Below w.heap.size w3 (w3.setRow w.heap.size #[.int .i64 2, .int .i64 V, .slice a t.length c, .int .i64 0, .int .i64 0, .slice none 0 0]) := below_row (Below.refl _ _) (Nat.le_refl _) _
            refine bodyPost_ret (v := .agg #[.int .i64 2, .int .i64 V, .slice a t.length c, .int .i64 0, .int .i64 0, .slice none 0 0]) (results_cell_row (p := 4) (ty := 56) rfl _ _ w.heap.size 56 _ _ _ rfl (RowAt.setRow HZ.out _) Tryz.underlying56 rfl blkX_info) rfl ⟨_, _, _, _, _, _, _, _, _, _, (2, V, t, 0, 0, []), q, rfl, ?_, ?_, HR3.out.below bT hlt, by omega, HF3.out.below bT⟩
            · exact BlX.kept (x := (2, V, (a, t.length, c), 0, 0, (none, 0, 0))) ⟨⟨rfl, rfl, rfl, rfl⟩, HO.out, [], ⟨World.ownsRow_nil _ _ _ _, TxtOwn.nil _ _ _⟩⟩ (kept_setRow HZ.out _ _ _)
            · have := HL.out
              exact ⟨by show 0 ≤ V ∧ V ≤ 3; omega, by show t.length ≤ 24; omega, by simp, by simp⟩
          · go_wp2_with (first | (go_at_call 60; refine (pick_any B g (p + 1) _ _ HR1.out (by omega) (by omega) (by omega)).mono ?_; rintro e w2 ⟨V, rfl, hV0, hV1, hr2, hg2⟩; have HR2 : Hid (Rd B w2 g (p + 1 + 1)) := hr2; have f2 := fr_grown hg2; have s2 := f2.size; have HZ2 : Hid (RowAt w2 w.heap.size #[.int .i64 0, .int .i64 0, .slice none 0 0, .int .i64 0, .int .i64 0, .slice none 0 0] 56) := HZ1.out.fr f2 (by omega); have HF2 : Hid (Fr w.heap.size g w w2) := HF1.out.trans (f2.mono (by omega)); clear hr2 hg2 f2) | (go_at_call 89; refine (l71Text_any B g (p + 1 + 1) 6 _ HR2.out (by omega) (by omega)).mono ?_; rintro e w3 ⟨v, t, q, rfl, hO, hL, hr3, hq, hf3⟩; obtain ⟨a, c, rfl⟩ := Own.shapeN hO rfl; have HR3 : Hid (Rd B w3 g q) := hr3; have s3 := hf3.size; have HO : Hid (Own w3 w.heap.size (.slice a t.length c) t) := own_less hO (by omega); have HL : Hid (t.length ≤ 6) := hL; have HZ : Hid (RowAt w3 w.heap.size #[.int .i64 0, .int .i64 0, .slice none 0 0, .int .i64 0, .int .i64 0, .slice none 0 0] 56) := HZ2.out.fr hf3 (by omega); have HF3 : Hid (Fr w.heap.size g w w3) := HF2.out.trans (hf3.mono (by omega)); clear hr3 hO hf3 hL) | (refine wpList_store_row rfl 56 (.tmp 4) (.tmp 24) rfl w.heap.size #[.int .i64 2, .int .i64 V, .slice a t.length c, .int .i64 0, .int .i64 0, .slice none 0 0] rfl rfl 56 _ HZ.out blkX_info rfl (cellsX_one _ _ _ _ _ _ _ _ _ _) ?_))
            have bT : Below w.heap.size w3 (w3.setRow w.heap.size #[.int .i64 2, .int .i64 V, .slice a t.length c, .int .i64 0, .int .i64 0, .slice none 0 0]) := below_row (Below.refl _ _) (Nat.le_refl _) _
            refine bodyPost_ret (v := .agg #[.int .i64 2, .int .i64 V, .slice a t.length c, .int .i64 0, .int .i64 0, .slice none 0 0]) (results_cell_row (p := 4) (ty := 56) rfl _ _ w.heap.size 56 _ _ _ rfl (RowAt.setRow HZ.out _) Tryz.underlying56 rfl blkX_info) rfl ⟨_, _, _, _, _, _, _, _, _, _, (2, V, t, 0, 0, []), q, rfl, ?_, ?_, HR3.out.below bT hlt, by omega, HF3.out.below bT⟩
            · exact BlX.kept (x := (2, V, (a, t.length, c), 0, 0, (none, 0, 0))) ⟨⟨rfl, rfl, rfl, rfl⟩, HO.out, [], ⟨World.ownsRow_nil _ _ _ _, TxtOwn.nil _ _ _⟩⟩ (kept_setRow HZ.out _ _ _)
            · have := HL.out
              exact ⟨by show 0 ≤ V ∧ V ≤ 3; omega, by show t.length ≤ 24; omega, by simp, by simp⟩
        · have g3 : (u == 3) = false := by simp; omega
          go_wp2_with (first | (go_at_call 89; refine (l71Text_any B g (p + 1) 8 _ HR1.out (by omega) (by omega)).mono ?_; rintro e w3 ⟨v, t, q, rfl, hO, hL, hr3, hq, hf3⟩; obtain ⟨a, c, rfl⟩ := Own.shapeN hO rfl; have HR3 : Hid (Rd B w3 g q) := hr3; have s3 := hf3.size; have HO : Hid (Own w3 w.heap.size (.slice a t.length c) t) := own_less hO (by omega); have HL : Hid (t.length ≤ 8) := hL; have HZ : Hid (RowAt w3 w.heap.size #[.int .i64 0, .int .i64 0, .slice none 0 0, .int .i64 0, .int .i64 0, .slice none 0 0] 56) := HZ1.out.fr hf3 (by omega); have HF3 : Hid (Fr w.heap.size g w w3) := HF1.out.trans (hf3.mono (by omega)); clear hr3 hO hf3 hL) | (refine wpList_store_row rfl 56 (.tmp 4) (.tmp 27) rfl w.heap.size #[.int .i64 1, .int .i64 0, .slice a t.length c, .int .i64 0, .int .i64 0, .slice none 0 0] rfl rfl 56 _ HZ.out blkX_info rfl (cellsX_one _ _ _ _ _ _ _ _ _ _) ?_))
          have bT : Below w.heap.size w3 (w3.setRow w.heap.size #[.int .i64 1, .int .i64 0, .slice a t.length c, .int .i64 0, .int .i64 0, .slice none 0 0]) := below_row (Below.refl _ _) (Nat.le_refl _) _
          refine bodyPost_ret (v := .agg #[.int .i64 1, .int .i64 0, .slice a t.length c, .int .i64 0, .int .i64 0, .slice none 0 0]) (results_cell_row (p := 4) (ty := 56) rfl _ _ w.heap.size 56 _ _ _ rfl (RowAt.setRow HZ.out _) Tryz.underlying56 rfl blkX_info) rfl ⟨_, _, _, _, _, _, _, _, _, _, (1, 0, t, 0, 0, []), q, rfl, ?_, ?_, HR3.out.below bT hlt, by omega, HF3.out.below bT⟩
          · exact BlX.kept (x := (1, 0, (a, t.length, c), 0, 0, (none, 0, 0))) ⟨⟨rfl, rfl, rfl, rfl⟩, HO.out, [], ⟨World.ownsRow_nil _ _ _ _, TxtOwn.nil _ _ _⟩⟩ (kept_setRow HZ.out _ _ _)
          · have := HL.out
            exact ⟨by simp, by show t.length ≤ 24; omega, by simp, by simp⟩
end Go.Proofs.YtccoeachemnbnaaGreatDoor
namespace Go.Proofs.YtccoeachemnbnaaGreatDoor
open Go.RowKit

/-- The blocks of a drawn document: levels, small texts, small tables. -/
def BlsDr (d : List Bl) : Prop := ∀ x ∈ d, BlDr x
theorem BlsDr.snoc {d : List Bl} {y : Bl} (h : BlsDr d) (hy : BlDr y) : BlsDr (d ++ [y]) := fun x hx => by
  rcases List.mem_append.1 hx with h1 | h1
  · exact h x h1
  · rw [List.mem_singleton.1 h1]; exact hy
theorem aheadN_dr {d : List Bl} (h : BlsDr d) (k : Nat) (hk : k ≤ d.length) : -1 ≤ aheadN d k ∧ aheadN d k ≤ 3 := by
  unfold aheadN
  split
  · omega
  · have hk' : k - 1 < d.length := by omega
    have := (h (d.getD (k - 1) bl0) (by simp [List.getD, hk'])).1
    unfold lvN
    split <;> omega
theorem cellsX_new (w : World) (a b c d e f : Value) (t : TypeId) : ∀ j u, [a, b, c, d, e, f][j]? = some u → (w.alloc (.cells #[a, b, c, d, e, f] t)).cell? ((⟨w.heap.size, 0, none⟩ : Addr).add j) = some u := by
  intro j u hj
  match j, hj with
  | 0, hj => simp at hj; subst hj; simp [Addr.add]
  | 1, hj => simp at hj; subst hj; simp [Addr.add]
  | 2, hj => simp at hj; subst hj; simp [Addr.add]
  | 3, hj => simp at hj; subst hj; simp [Addr.add]
  | 4, hj => simp at hj; subst hj; simp [Addr.add]
  | 5, hj => simp at hj; subst hj; simp [Addr.add]
  | (j + 6), hj => simp at hj
theorem rbX_one (x : Rb) : ∀ u ∈ rbCells x, u.oneCell' = true := by
  intro u hu
  simp only [rbCells, sl3V, List.mem_cons, List.not_mem_nil, or_false] at hu
  rcases hu with rfl | rfl | rfl | rfl | rfl | rfl <;> rfl
set_option maxRecDepth 100000 in
set_option maxHeartbeats 4000000 in
theorem l3Ahead_X {a : Option Addr} {n cap k : Nat} {d : List Bl} {w : World} {x : Int} (hx : aheadN d k = x) (h : Dc w a n cap d) (hk : k ≤ d.length) :
    Calls Tryz.prog 47 #[.agg #[.slice a n cap], .int .i64 k] w fun e w' => e = .returned (.int .i64 x) ∧ Below w.heap.size w w' := by
  have HN : Hid (n = d.length) := h.1
  have hc := h.2.1
  have hm := h.2.2.1
  unfold maxLen at hm
  rcases h.2.2.2 with e | ⟨b, off, rfl, hb, hcl⟩
  · rw [e] at hk hx
    obtain rfl : k = 0 := by simpa using hk
    have hx' : x = -1 := by rw [← hx]; rfl
    clear hx h HN
    subst hx'
    go_enter Tryz.func47, Tryz.ntmps47
    go_upto_region 1 with fail
    have B0 : Below w.heap.size w (w.alloc (.cells #[.slice a n cap] 25)) := (Below.refl _ _).alloc (Nat.le_refl _) _
    generalize (w.alloc (.cells #[.slice a n cap] 25)) = v0 at B0 ⊢
    go_wp2_with fail
    go_ret
    exact ⟨rfl, B0⟩
  go_enter Tryz.func47, Tryz.ntmps47
  go_upto_region 1 with fail
  have B0 : Below w.heap.size w (w.alloc (.cells #[.slice (some ⟨b, off, none⟩) n cap] 25)) := (Below.refl _ _).alloc (Nat.le_refl _) _
  have q0 : (w.alloc (.cells #[.slice (some ⟨b, off, none⟩) n cap] 25)).cell? ⟨w.heap.size, 0, none⟩ = some (.slice (some ⟨b, off, none⟩) n cap) := by simp
  rcases k with _ | j
  · have hx' : x = -1 := by rw [← hx]; rfl
    clear hx
    subst hx'
    generalize (w.alloc (.cells #[.slice (some ⟨b, off, none⟩) n cap] 25)) = v0 at B0 q0 ⊢
    go_wp2_with fail
    go_ret
    exact ⟨rfl, B0⟩
  · have hj : j < d.length := by omega
    obtain ⟨ta, tn, tc, ca, cn, cc, c0, c1, -⟩ := (hcl j hj).below B0 hb
    have hx' : lvN (d.getD j bl0) = x := by rw [← hx]; rfl
    obtain ⟨K, HK⟩ : ∃ K, Hid ((d.getD j bl0).1 = K) := ⟨_, rfl⟩
    obtain ⟨V, HV⟩ : ∃ K, Hid ((d.getD j bl0).2.1 = K) := ⟨_, rfl⟩
    rw [HK.out] at c0
    rw [HV.out] at c1
    unfold lvN at hx'
    rw [HK.out, HV.out] at hx'
    have HX : Hid ((if K = 2 then V else -1) = x) := hx'
    have hj0 : (0 : Int) ≤ (j : Int) := by omega
    have hj1 : (j : Int) < (n : Int) := by have := HN.out; omega
    have hj2 : (j : Int) ≤ 9223372036854775806 := by omega
    generalize (w.alloc (.cells #[.slice (some ⟨b, off, none⟩) n cap] 25)) = v0 at B0 q0 c0 c1 ⊢
    clear hcl hx hx'
    by_cases h2 : K = 2
    · subst h2
      have hxe : V = x := by have := HX.out; rw [if_pos rfl] at this; exact this
      go_wp2_with fail
      go_ret
      exact ⟨by rw [← hxe]; rfl, B0⟩
    · have hxe : -1 = x := by have := HX.out; rw [if_neg h2] at this; exact this
      have h2b : (K != 2) = true := by simp [h2]
      go_wp2_with fail
      go_ret
      exact ⟨by rw [← hxe]; rfl, B0⟩
theorem drdoc_info : (Tryz.prog.info? 25).map (·.size) = some 1 := by kernel_rfl
theorem drcells1_one (a : Option Addr) (n c : Nat) : (#[Value.slice a n c] : Array Value).all (·.oneCell') = true := by simp [Value.oneCell']
theorem BlX.set {w : World} {B X : Nat} {x : Rb} {y : Bl} {old : Array Value} {ty : TypeId} (h : BlX w B x y) (hX : RowAt w X old ty) (h1 : 82 ≠ ty) (h2 : 86 ≠ ty) (j : Nat) (u : Value) : BlX (w.setCell ⟨X, j, none⟩ u) B x y := by
  obtain ⟨h0, h3, rs, h4⟩ := h
  refine ⟨h0, own_set h3 _ _ (rowAt_ne hX h3 h1), rs, own_set h4.1 _ _ (rowAt_ne hX h4.1 h2), h4.2.1, fun k hk => ?_, h4.2.2.2⟩
  obtain ⟨e0, e1, e2, e3, e4⟩ := h4.2.2.1 k hk
  exact ⟨e0, e1, e2, e3, own_set e4 _ _ (rowAt_ne hX e4 h1)⟩
/-- A store into a block that is a document's own struct turns none of its blocks. -/
theorem docX_other {w : World} {B X : Nat} {v : Value} {rbs : List Rb} {d : List Bl} {old : Array Value} (h : DocX w B v rbs d) (hX : RowAt w X old 25) (_ : True) (j : Nat) (u : Value) : DocX (w.setCell ⟨X, j, none⟩ u) B v rbs d :=
  ⟨own_set h.1 _ _ (rowAt_ne hX h.1 (by decide)), h.2.1, fun k hk => (h.2.2 k hk).set hX (by decide) (by decide) j u⟩
theorem docX_row {w : World} {B X : Nat} {v : Value} {rbs : List Rb} {d : List Bl} {old : Array Value} (h : DocX w B v rbs d) (hX : RowAt w X old 25) (cs : Array Value) : DocX (w.setRow X cs) B v rbs d := by
  refine ⟨own_row h.1 _ _ (rowAt_ne hX h.1 (by decide)), h.2.1, fun k hk => ?_⟩
  obtain ⟨h0, h3, rs, h4⟩ := h.2.2 k hk
  refine ⟨h0, own_row h3 _ _ (rowAt_ne hX h3 (by decide)), rs, own_row h4.1 _ _ (rowAt_ne hX h4.1 (by decide)), h4.2.1, fun j hj => ?_, h4.2.2.2⟩
  obtain ⟨e0, e1, e2, e3, e4⟩ := h4.2.2.1 j hj
  exact ⟨e0, e1, e2, e3, own_row e4 _ _ (rowAt_ne hX e4 (by decide))⟩
set_option maxRecDepth 100000 in
set_option maxHeartbeats 16000000 in
theorem l71Doc_any (B g p : Nat) (w : World) (h : Rd B w g p) (hp : p ≤ 880000) :
    Calls Tryz.prog 59 #[.pointer (some ⟨g, 0, none⟩)] w fun e w' => ∃ (a : Option Addr) (m c : Nat) (d : List Bl) (q : Nat), e = .returned (.agg #[.slice a m c]) ∧ (∃ rbs, DocX w' w.heap.size (.slice a m c) rbs d) ∧ BlsDr d ∧ (1 ≤ d.length ∧ d.length ≤ 6) ∧ Rd B w' g q ∧ q ≤ p + 3013 ∧ Fr w.heap.size g w w' := by
  obtain ⟨i0, hi0, hz0, hz1, hz2⟩ := info_parts infoX_block
  have hlt := h.lt
  have HR : Hid (Rd B w g p) := h
  clear h
  go_enter Tryz.func59, Tryz.ntmps59
  go_upto_region 2 with fail
  have F0 : Fr w.heap.size g w ((w.alloc (.cells #[.slice none 0 0] 25)).alloc (.cells #[.slice none 0 0] 25)) := ((Fr.refl _ _ w).alloc (Nat.le_refl _) _).alloc (by simp) _
  have G0 : RowAt ((w.alloc (.cells #[.slice none 0 0] 25)).alloc (.cells #[.slice none 0 0] 25)) w.heap.size #[.slice none 0 0] 25 := (rowAt_new w _ _).alloc _
  have G1 : RowAt ((w.alloc (.cells #[.slice none 0 0] 25)).alloc (.cells #[.slice none 0 0] 25)) (w.heap.size + 1) #[.slice none 0 0] 25 := by
    have := rowAt_new (w.alloc (.cells #[.slice none 0 0] 25)) #[.slice none 0 0] 25
    simpa using this
  have HR0 : Hid (Rd B ((w.alloc (.cells #[.slice none 0 0] 25)).alloc (.cells #[.slice none 0 0] 25)) g p) := (HR.out.alloc _).alloc _
  generalize ((w.alloc (.cells #[.slice none 0 0] 25)).alloc (.cells #[.slice none 0 0] 25)) = v0 at F0 G0 G1 HR0 ⊢
  have s0 := F0.size
  have l0 := G0.lt
  have l1 := G1.lt
  have HG0 : Hid (RowAt v0 w.heap.size #[.slice none 0 0] 25) := G0
  have HG1 : Hid (RowAt v0 (w.heap.size + 1) #[.slice none 0 0] 25) := G1
  have HF0 : Hid (Fr w.heap.size g w v0) := F0
  clear G0 G1 F0
  go_wp2_with fail
  refine (pick_any B g p 6 _ HR0.out (by omega) (by omega) (by omega)).mono ?_
  rintro e w1 ⟨x, rfl, hx0, hx1, hr1, hg1⟩
  have f1 := fr_grown hg1
  have s1 := f1.size
  have HR1 : Hid (Rd B w1 g (p + 1)) := hr1
  have HG01 : Hid (RowAt w1 w.heap.size #[.slice none 0 0] 25) := HG0.out.fr f1 (by omega)
  have HG11 : Hid (RowAt w1 (w.heap.size + 1) #[.slice none 0 0] 25) := HG1.out.fr f1 (by omega)
  have HF1 : Hid (Fr w.heap.size g w w1) := HF0.out.trans (f1.mono (by omega))
  clear hr1 hg1 f1 HG0 HG1 HF0 HR0 HR
  go_wp2_with fail
  go_loopw [4] (fun nv wr => ∃ (k : Nat) (a : Option Addr) (m c : Nat) (rbs : List Rb) (d : List Bl) (q : Nat), nv = .int .i64 ((k : Int) - 1) ∧ v0.heap.size ≤ wr.heap.size ∧ 1 ≤ m + k ∧ m + k ≤ 6 ∧ q + 502 * k ≤ p + 3013 ∧ m = d.length ∧ RowAt wr w.heap.size #[.slice none 0 0] 25 ∧ RowAt wr (w.heap.size + 1) #[.slice a m c] 25 ∧ DocX wr v0.heap.size (.slice a m c) rbs d ∧ BlsDr d ∧ Rd B wr g q ∧ Fr w.heap.size g w wr) (fun nv _ => (intOf nv + 1).toNat)
  case atStart => exact ⟨(x + 1).toNat, none, 0, 0, [], [], p + 1, by congr 1; omega, s1, by omega, by omega, by omega, rfl, HG01.out, HG11.out, DocX.nil _ _, fun x hx => absurd hx (by simp), HR1.out, HF1.out⟩
  case round =>
    obtain ⟨k, a, m, c, rbs, d, q, rfl, hvs, hm1, hm6, hqk, hml, hG0, hG1, hD, hBD, hr, hF⟩ := hrel
    have HML : Hid (m = d.length) := hml
    have HDR : Hid (BlsDr d) := hBD
    have lz0 := hG0.lt
    have lz1 := hG1.lt
    have hc1 := hD.dc.2.1
    have hc2 := hD.dc.2.2.1
    unfold maxLen at hc2
    have HG0 : Hid (RowAt wr w.heap.size #[.slice none 0 0] 25) := hG0
    have HG1 : Hid (RowAt wr (w.heap.size + 1) #[.slice a m c] 25) := hG1
    have HD : Hid (DocX wr v0.heap.size (.slice a m c) rbs d) := hD
    have HR : Hid (Rd B wr g q) := hr
    have HF : Hid (Fr w.heap.size g w wr) := hF
    have hgw : g < w.heap.size := hlt
    clear hG0 hG1 hD hBD hr hF hml HR1 HG01 HG11 HF1
    by_cases h0 : k = 0
    · subst h0
      have k0 : wr.cell? ⟨w.heap.size + 1, 0, none⟩ = some (.slice a m c) := HG1.out.cell 0
      go_wp2_with (refine wpList_store_row rfl 25 (.tmp 2) (.tmp 25) rfl w.heap.size #[.slice a m c] rfl rfl 25 _ HG0.out drdoc_info rfl (drcells1_one _ _ _) ?_)
      have bT : Below w.heap.size wr (wr.setRow w.heap.size #[.slice a m c]) := below_row (Below.refl _ _) (Nat.le_refl _) _
      refine bodyPost_ret (v := .agg #[.slice a m c]) (results_cell_row (p := 2) (ty := 25) rfl _ _ w.heap.size 25 _ _ _ rfl (RowAt.setRow HG0.out _) Tryz.underlying25 rfl drdoc_info) rfl ⟨a, m, c, d, q, rfl, ?_, HDR.out, by have := HML.out; omega, HR.out.below bT hgw, by omega, HF.out.below bT⟩
      exact ⟨_, (docX_row HD.out HG0.out _).less (by omega)⟩
    · have hk1 : (0 : Int) ≤ (k : Int) - 1 := by omega
      obtain ⟨ah, HAH⟩ : ∃ ah, Hid (aheadN d m = ah) := ⟨_, rfl⟩
      have hah := aheadN_dr HDR.out m (by have := HML.out; omega)
      rw [HAH.out] at hah
      have HAHD : Hid (aheadN d m = ah) := HAH
      clear HAH
      go_upto_region 5 with fail
      refine wp_region_noPanic ?_
      refine wp_region_L (fun w' => RowAt w' (w.heap.size + 1) #[.slice a m c] 25) 13 (by kernel_rfl) (HG1.out.drew) (fun hHeld => ?_)
      have HG0d : Hid (RowAt wr.drew w.heap.size #[.slice none 0 0] 25) := HG0.out.drew
      have HG1d : Hid (RowAt wr.drew (w.heap.size + 1) #[.slice a m c] 25) := HG1.out.drew
      have HDd : Hid (DocX wr.drew v0.heap.size (.slice a m c) rbs d) := HD.out.below (Below.refl _ _).drew
      have HRd : Hid (Rd B wr.drew g q) := HR.out.below (Below.refl _ _).drew (by omega)
      have HFd : Hid (Fr w.heap.size g w wr.drew) := HF.out.below ((Below.refl _ _).drew)
      have sd : wr.heap.size = wr.drew.heap.size := rfl
      rw [sd] at lz0 lz1 hvs
      clear HG0 HG1 HD HR HF
      generalize wr.drew = u1 at HG0d HG1d HDd HRd HFd sd lz0 lz1 hvs hHeld ⊢
      refine takeL 0 12 (.pointer (some ⟨w.heap.size + 1, 0, none⟩)) rfl rfl (by kernel_rfl) (by kernel_rfl) (by kernel_rfl) (by kernel_rfl) (by kernel_rfl) (fun _ _ _ h => h) (Or.inl ⟨by kernel_rfl, fun w' hS' => by go_simp⟩) hHeld ?_
      (try simp only [Act.put, List.setIfInBounds_toArray, List.set_cons_zero, List.set_cons_succ])
      refine takeL 1 13 (.slice a m c) rfl rfl (by kernel_rfl) (by kernel_rfl) (by kernel_rfl) (by kernel_rfl) (by kernel_rfl) (fun _ _ _ h => h) (Or.inl ⟨by kernel_rfl, fun w' hS' => by have hc := RowAt.cell hS' 0; simp at hc; go_simp⟩) hHeld ?_
      (try simp only [Act.put, List.setIfInBounds_toArray, List.set_cons_zero, List.set_cons_succ])
      refine takeL 2 14 (.pointer (some ⟨g, 0, none⟩)) rfl rfl (by kernel_rfl) (by kernel_rfl) (by kernel_rfl) (by kernel_rfl) (by kernel_rfl) (fun _ _ _ h => h) (Or.inl ⟨by kernel_rfl, fun w' hS' => by go_simp⟩) hHeld ?_
      (try simp only [Act.put, List.setIfInBounds_toArray, List.set_cons_zero, List.set_cons_succ])
      refine takeL 3 15 (.agg #[.slice a m c]) rfl rfl (by kernel_rfl) (by kernel_rfl) (by kernel_rfl) (by kernel_rfl) (by kernel_rfl) (fun _ _ _ h => h) (yieldsIf_load_row (by kernel_rfl) 25 (.tmp 3) rfl (w.heap.size + 1) rfl 25 #[.slice a m c] (0, 0) _ (fun w' h => h) Tryz.underlying25 rfl drdoc_info) hHeld ?_
      (try simp only [Act.put, List.setIfInBounds_toArray, List.set_cons_zero, List.set_cons_succ])
      refine takeL 4 16 (.pointer (some ⟨w.heap.size + 1, 0, none⟩)) rfl rfl (by kernel_rfl) (by kernel_rfl) (by kernel_rfl) (by kernel_rfl) (by kernel_rfl) (fun _ _ _ h => h) (Or.inl ⟨by kernel_rfl, fun w' hS' => by go_simp⟩) hHeld ?_
      (try simp only [Act.put, List.setIfInBounds_toArray, List.set_cons_zero, List.set_cons_succ])
      refine takeL 5 17 (.slice a m c) rfl rfl (by kernel_rfl) (by kernel_rfl) (by kernel_rfl) (by kernel_rfl) (by kernel_rfl) (fun _ _ _ h => h) (Or.inl ⟨by kernel_rfl, fun w' hS' => by have hc := RowAt.cell hS' 0; simp at hc; go_simp⟩) hHeld ?_
      (try simp only [Act.put, List.setIfInBounds_toArray, List.set_cons_zero, List.set_cons_succ])
      refine takeL 6 18 (.int .i64 (m : Int)) rfl rfl (by kernel_rfl) (by kernel_rfl) (by kernel_rfl) (by kernel_rfl) (by kernel_rfl) (fun _ _ _ h => h) (Or.inl ⟨by kernel_rfl, fun w' hS' => by go_simp⟩) hHeld ?_
      (try simp only [Act.put, List.setIfInBounds_toArray, List.set_cons_zero, List.set_cons_succ])
      refine wpAnyL_ready (rs := [7]) (by kernel_rfl) (by simp) ?_
      refine AllReadyL.cons rfl (fun K hK => ?_) AllReadyL.nil
      go_simp
      go_at_call 47
      refine (l3Ahead_X HAHD.out HDd.out.dc (Nat.le_of_eq HML.out)).mono ?_
      rintro e u2 ⟨rfl, hb2⟩
      have s2 := hb2.size
      have HG02 : Hid (RowAt u2 w.heap.size #[.slice none 0 0] 25) := HG0d.out.below hb2 lz0
      have HG12 : Hid (RowAt u2 (w.heap.size + 1) #[.slice a m c] 25) := HG1d.out.below hb2 lz1
      have HD2 : Hid (DocX u2 v0.heap.size (.slice a m c) rbs d) := HDd.out.below hb2
      have HR2 : Hid (Rd B u2 g q) := HRd.out.below hb2 (by omega)
      have HF2 : Hid (Fr w.heap.size g w u2) := HFd.out.below (hb2.mono (by omega))
      clear hb2 HG0d HG1d HDd HRd HFd
      go_wp2_with fail
      refine hK.out _ _ (fun _ => HG12.out) (fun hHeld => ?_)
      replace hHeld := hHeld (by decide)
      clear hK K
      (try simp only [Act.put, List.setIfInBounds_toArray, List.set_cons_zero, List.set_cons_succ])
      refine takeL 8 20 (.int .i64 (ah + 1)) rfl rfl (by kernel_rfl) (by kernel_rfl) (by kernel_rfl) (by kernel_rfl) (by kernel_rfl) (fun _ _ _ h => h) (Or.inl ⟨by kernel_rfl, fun w' hS' => by go_simp; rw [IntKind.wrap_i64]; omega⟩) hHeld ?_
      (try simp only [Act.put, List.setIfInBounds_toArray, List.set_cons_zero, List.set_cons_succ])
      refine wpAnyL_ready (rs := [9]) (by kernel_rfl) (by simp) ?_
      refine AllReadyL.cons rfl (fun K hK => ?_) AllReadyL.nil
      go_simp
      go_at_call 76
      refine (l71Block_any B g q (ah + 1) _ HR2.out (by omega) (by omega) (by omega)).mono ?_
      rintro e u3 ⟨K0, V0, ta, tn, tc, R0, C0, ca, cn, cc, y, q3, rfl, hX, hY, hr3, hq3, hf3⟩
      have s3 := hf3.size
      have HG03 : Hid (RowAt u3 w.heap.size #[.slice none 0 0] 25) := HG02.out.fr hf3 (by omega)
      have HG13 : Hid (RowAt u3 (w.heap.size + 1) #[.slice a m c] 25) := HG12.out.fr hf3 (by omega)
      have HD3 : Hid (DocX u3 v0.heap.size (.slice a m c) rbs d) := HD2.out.fr hf3 (by omega)
      have HR3 : Hid (Rd B u3 g q3) := hr3
      have HF3 : Hid (Fr w.heap.size g w u3) := HF2.out.trans (hf3.mono (by omega))
      have HX3 : Hid (BlX u3 v0.heap.size (K0, V0, (ta, tn, tc), R0, C0, (ca, cn, cc)) y) := hX.less (by omega)
      have HY : Hid (BlDr y) := hY
      clear hX hY hr3 hf3 HG02 HG12 HD2 HR2 HF2
      go_wp2_with fail
      refine hK.out _ _ (fun _ => HG13.out) (fun hHeld => ?_)
      replace hHeld := hHeld (by decide)
      clear hK K
      (try simp only [Act.put, List.setIfInBounds_toArray, List.set_cons_zero, List.set_cons_succ])
      refine wpAnyL_ready (rs := [10]) (by kernel_rfl) (by simp) ?_
      refine AllReadyL.cons rfl (fun K hK => ?_) AllReadyL.nil
      go_simp
      have HN4 : Hid (∀ j u, [.int .i64 K0, .int .i64 V0, .slice ta tn tc, .int .i64 R0, .int .i64 C0, .slice ca cn cc][j]? = some u → (u3.alloc (.cells #[.int .i64 K0, .int .i64 V0, .slice ta tn tc, .int .i64 R0, .int .i64 C0, .slice ca cn cc] 56)).cell? ((⟨u3.heap.size, 0, none⟩ : Addr).add j) = some u) := cellsX_new _ _ _ _ _ _ _ _
      have HG04 : Hid (RowAt (u3.alloc (.cells #[.int .i64 K0, .int .i64 V0, .slice ta tn tc, .int .i64 R0, .int .i64 C0, .slice ca cn cc] 56)) w.heap.size #[.slice none 0 0] 25) := HG03.out.alloc _
      have HG14 : Hid (RowAt (u3.alloc (.cells #[.int .i64 K0, .int .i64 V0, .slice ta tn tc, .int .i64 R0, .int .i64 C0, .slice ca cn cc] 56)) (w.heap.size + 1) #[.slice a m c] 25) := HG13.out.alloc _
      have HD4 : Hid (DocX (u3.alloc (.cells #[.int .i64 K0, .int .i64 V0, .slice ta tn tc, .int .i64 R0, .int .i64 C0, .slice ca cn cc] 56)) v0.heap.size (.slice a m c) rbs d) := HD3.out.alloc _
      have HR4 : Hid (Rd B (u3.alloc (.cells #[.int .i64 K0, .int .i64 V0, .slice ta tn tc, .int .i64 R0, .int .i64 C0, .slice ca cn cc] 56)) g q3) := HR3.out.alloc _
      have HF4 : Hid (Fr w.heap.size g w (u3.alloc (.cells #[.int .i64 K0, .int .i64 V0, .slice ta tn tc, .int .i64 R0, .int .i64 C0, .slice ca cn cc] 56))) := HF3.out.alloc (by omega) _
      have HX4 : Hid (BlX (u3.alloc (.cells #[.int .i64 K0, .int .i64 V0, .slice ta tn tc, .int .i64 R0, .int .i64 C0, .slice ca cn cc] 56)) v0.heap.size (K0, V0, (ta, tn, tc), R0, C0, (ca, cn, cc)) y) := HX3.out.below ((Below.refl _ _).alloc (Nat.le_refl _) _)
      have s4 : (u3.alloc (.cells #[.int .i64 K0, .int .i64 V0, .slice ta tn tc, .int .i64 R0, .int .i64 C0, .slice ca cn cc] 56)).heap.size = u3.heap.size + 1 := by simp
      refine hK.out _ _ (fun _ => HG14.out) (fun hHeld => ?_)
      replace hHeld := hHeld (by decide)
      clear hK K HG03 HG13 HD3 HR3 HF3 HX3
      (try simp only [Act.put, List.setIfInBounds_toArray, List.set_cons_zero, List.set_cons_succ])
      generalize (u3.alloc (.cells #[.int .i64 K0, .int .i64 V0, .slice ta tn tc, .int .i64 R0, .int .i64 C0, .slice ca cn cc] 56)) = u4 at HN4 HG04 HG14 HD4 HR4 HF4 HX4 s4 hHeld ⊢
      refine wpAnyL_ready (rs := [11]) (by kernel_rfl) (by simp) ?_
      refine AllReadyL.cons rfl (fun K hK => ?_) AllReadyL.nil
      rw [if_pos (by kernel_rfl)]
      have hrw : u4.ownsRow v0.heap.size 56 6 (.slice a m c) m (flat6 rbs) := by
        have h1 := HD4.out.1
        have h2 := HD4.out.2.1
        have h3 := HD4.out.len
        rw [h2, ← h3] at h1
        exact h1
      refine wp_append_own u4 (.tmp 13) (.tmp 22) 23 rfl v0.heap.size 56 i0 _ 6 80 Tryz.underlying23 hi0 hz0 hz1 hz2 rfl (by decide) (.slice a m c) m (flat6 rbs) rfl hrw ⟨u3.heap.size, 0, none⟩ 1 1 [.int .i64 K0, .int .i64 V0, .slice ta tn tc, .int .i64 R0, .int .i64 C0, .slice ca cn cc] rfl rfl HN4.out (rbX_one (K0, V0, (ta, tn, tc), R0, C0, (ca, cn, cc))) (by unfold maxLen; omega) (by omega) (by omega) ?_
      intro v' u5 hown hgrow _
      have s5 := hgrow.size
      have HD5 : Hid (DocX u5 v0.heap.size v' (rbs ++ [(K0, V0, (ta, tn, tc), R0, C0, (ca, cn, cc))]) (d ++ [y])) := docX_snoc HD4.out HML.out HX4.out hown hgrow
      have hne : ∀ b, (Value.slice a m c).ownBlock = some b → v0.heap.size ≤ b := fun b hb => (own_lt hrw hb).1
      have HG05 : Hid (RowAt u5 w.heap.size #[.slice none 0 0] 25) := HG04.out.grown hgrow (fun e => by have := hne _ e; omega)
      have HG15 : Hid (RowAt u5 (w.heap.size + 1) #[.slice a m c] 25) := HG14.out.grown hgrow (fun e => by have := hne _ e; omega)
      have HR5 : Hid (Rd B u5 g q3) := HR4.out.grownAt hgrow (fun k hk => by have := hne _ hk; omega)
      have HF5 : Hid (Fr w.heap.size g w u5) := HF4.out.grownAt hgrow (by omega) (fun k hk => by have := hne _ hk; omega)
      obtain ⟨a', c', rfl⟩ : ∃ a c, v' = .slice a (m + 1) c := by
        obtain ⟨a1, c1, e1⟩ := HD5.out.shape
        refine ⟨a1, c1, ?_⟩
        rw [e1, List.length_append, ← HML.out]
        rfl
      refine hK.out _ _ (fun _ => HG15.out) (fun hHeld => ?_)
      replace hHeld := hHeld (by decide)
      clear hK K hown hgrow hrw hne HN4 HG04 HG14 HD4 HR4 HF4 HX4
      (try simp only [Act.put, List.setIfInBounds_toArray])
      refine takeL 12 24 (.pointer (some ⟨w.heap.size + 1, 0, none⟩)) rfl rfl (by kernel_rfl) (by kernel_rfl) (by kernel_rfl) (by kernel_rfl) (by kernel_rfl) (fun _ _ _ h => h) (Or.inl ⟨by kernel_rfl, fun w' hS' => by go_simp⟩) hHeld ?_
      (try simp only [Act.put])
      refine wpAnyL_ready (rs := [13]) (by kernel_rfl) (by simp) ?_
      refine AllReadyL.cons rfl (fun K hK => ?_) AllReadyL.nil
      have f5 := RowAt.frozen HG15.out 0
      have d5 := RowAt.cell HG15.out 0
      simp at d5
      rw [if_pos (by kernel_rfl)]
      go_simp
      refine hK.out _ _ (fun h => absurd rfl h) (fun _ => ?_)
      clear hK K
      (try simp only [Act.put, List.setIfInBounds_toArray, List.set_cons_zero, List.set_cons_succ])
      refine wpAnyL_done (by kernel_rfl) ?_ _
      refine NoPanic.normal ?_
      clear f5 d5
      go_wp2_with fail
      go_roundw
      case rel =>
        refine ⟨k - 1, a', m + 1, c', rbs ++ [(K0, V0, (ta, tn, tc), R0, C0, (ca, cn, cc))], d ++ [y], q3, by congr 1; omega, by simp; omega, by omega, by omega, by omega, by have := HML.out; simp; omega, HG05.out.other _ _ (by simp), HG15.out.setCell 0 _, ?_, HDR.out.snoc HY.out, HR5.out.setCell (by show g < w.heap.size + 1; omega) _, HF5.out.setCell (by show w.heap.size ≤ w.heap.size + 1; omega) _⟩
        exact docX_other HD5.out HG15.out trivial _ _
      case measure => simp [intOf]; omega
end Go.Proofs.YtccoeachemnbnaaGreatDoor
namespace Go.Proofs.YtccoeachemnbnaaGreatDoor
open Go.RowKit

theorem infoSn_block : (Tryz.prog.info? 56).map (fun i => (i.zero, i.size, i.bytes)) = some (some (.agg #[.int .i64 0, .int .i64 0, .slice none 0 0, .int .i64 0, .int .i64 0, .slice none 0 0]), 6, 80) := by kernel_rfl
theorem getD_blS {d : List Bl} {k : Nat} (hk : k < d.length) : d.getD k bl0 = d[k] := by simp [List.getD, hk]
theorem docS_info : (Tryz.prog.info? 25).map (·.size) = some 1 := by kernel_rfl
theorem cellsS_one (a : Option Addr) (n c : Nat) : (#[Value.slice a n c] : Array Value).all (·.oneCell') = true := by simp [Value.oneCell']
theorem cells6_new (w : World) (a b c d e f : Value) (t : TypeId) : ∀ j u, [a, b, c, d, e, f][j]? = some u → (w.alloc (.cells #[a, b, c, d, e, f] t)).cell? ((⟨w.heap.size, 0, none⟩ : Addr).add j) = some u := by
  intro j u hj
  match j, hj with
  | 0, hj => simp at hj; subst hj; simp [Addr.add]
  | 1, hj => simp at hj; subst hj; simp [Addr.add]
  | 2, hj => simp at hj; subst hj; simp [Addr.add]
  | 3, hj => simp at hj; subst hj; simp [Addr.add]
  | 4, hj => simp at hj; subst hj; simp [Addr.add]
  | 5, hj => simp at hj; subst hj; simp [Addr.add]
  | (j + 6), hj => simp at hj
theorem rb_one (x : Rb) : ∀ u ∈ rbCells x, u.oneCell' = true := by
  intro u hu
  simp only [rbCells, sl3V, List.mem_cons, List.not_mem_nil, or_false] at hu
  rcases hu with rfl | rfl | rfl | rfl | rfl | rfl <;> rfl
/-- A block more, behind a document's own. -/
theorem docOwn_snoc {B E E' : Nat} {u3 u4 : World} {v v' : Value} {rbs : List Rb} {d : List Bl} {mid : Nat} {x : Rb} {y : Bl} {n : Nat} (h : DocOwn u3 B E v rbs d) (hn : n = d.length) (hx : BlOwn u3 E mid E' x y) (hB : B ≤ E) (hE : E ≤ E') (hE4 : E' ≤ u4.heap.size)
    (hown : u4.ownsRow B 56 6 v' (n + 1) (flat6 rbs ++ rbCells x)) (hgrow : u3.grownBy u4 v.ownBlock) : DocOwn u4 B u4.heap.size v' (rbs ++ [x]) (d ++ [y]) := by
  have hk : ∀ B E, Kept B E u3 u4 := fun B E => kept_grown (own_rowAts h.1) hgrow B E
  refine docOwn_of ?_ (fun g hg => (own_lt hown hg).2) (((h.bls.kept (hk _ _)).snoc hB (hx.kept (hk _ _)) hE).grow hE4)
  have hl := h.2.2.1
  rw [List.length_append, flat6_append, List.length_singleton, hl, ← hn]
  have e : flat6 [x] = rbCells x := by simp [flat6]
  rw [e]
  exact hown
end Go.Proofs.YtccoeachemnbnaaGreatDoor
namespace Go.Proofs.YtccoeachemnbnaaGreatDoor
open Go.RowKit

/-- A block that is not great. -/
def SmB (x : Bl) : Prop := x.2.2.1.length ≤ 1000000 ∧ x.2.2.2.2.2.length ≤ 1000000 ∧ ∀ k, k < x.2.2.2.2.2.length → (x.2.2.2.2.2.getD k cl0).2.2.2.2.length ≤ 1000000
theorem own_shape {w : World} {B e size n : Nat} {v : Value} {xs : List Value} (h : w.ownsRow B e size v n xs) : ∃ a c, v = .slice a n c := by
  rcases h.2 with ⟨rfl, h0⟩ | ⟨g, cap, cur, rfl, r⟩
  · exact ⟨none, 0, by rw [h0]⟩
  · exact ⟨_, _, rfl⟩
set_option maxRecDepth 100000 in
set_option maxHeartbeats 8000000 in
theorem l3Copy_any {a : Option Addr} {n cap : Nat} {d : List Bl} {w : World} (h : Dc w a n cap d) (hn : n ≤ 1000) (hs : ∀ k, k < d.length → SmB (d.getD k bl0)) :
    Calls Tryz.prog 77 #[.agg #[.slice a n cap]] w fun e w' => (∃ p q rbs, e = .returned (.agg #[.slice p n q]) ∧ DocOwn w' w.heap.size w'.heap.size (.slice p n q) rbs d) ∧ Below w.heap.size w w' := by
  obtain ⟨i0, hi0, hz0, hz1, hz2⟩ := info_parts infoSn_block
  have HN : Hid (n = d.length) := h.1
  have hc := h.2.1
  have hm := h.2.2.1
  unfold maxLen at hm
  have H : Hid (Dc w a n cap d) := h
  have HS : Hid (∀ k, k < d.length → SmB (d.getD k bl0)) := hs
  clear h hs
  go_enter Tryz.func77, Tryz.ntmps77
  go_upto_region 2 with fail
  have B0 : Below w.heap.size w (((w.alloc (.cells #[.slice a n cap] 25)).alloc (.cells #[.slice none 0 0] 25)).alloc (.cells #[.slice none 0 0] 25)) := (((Below.refl _ _).alloc (Nat.le_refl _) _).alloc (by simp) _).alloc (by simp; omega) _
  have G0 : RowAt (((w.alloc (.cells #[.slice a n cap] 25)).alloc (.cells #[.slice none 0 0] 25)).alloc (.cells #[.slice none 0 0] 25)) w.heap.size #[.slice a n cap] 25 := ((rowAt_new w _ _).alloc _).alloc _
  have G1 : RowAt (((w.alloc (.cells #[.slice a n cap] 25)).alloc (.cells #[.slice none 0 0] 25)).alloc (.cells #[.slice none 0 0] 25)) (w.heap.size + 1) #[.slice none 0 0] 25 := by
    have := (rowAt_new (w.alloc (.cells #[.slice a n cap] 25)) #[.slice none 0 0] 25).alloc (.cells #[.slice none 0 0] 25)
    simpa using this
  have G2 : RowAt (((w.alloc (.cells #[.slice a n cap] 25)).alloc (.cells #[.slice none 0 0] 25)).alloc (.cells #[.slice none 0 0] 25)) (w.heap.size + 1 + 1) #[.slice none 0 0] 25 := by
    have := rowAt_new ((w.alloc (.cells #[.slice a n cap] 25)).alloc (.cells #[.slice none 0 0] 25)) #[.slice none 0 0] 25
    simpa using this
  generalize (((w.alloc (.cells #[.slice a n cap] 25)).alloc (.cells #[.slice none 0 0] 25)).alloc (.cells #[.slice none 0 0] 25)) = v0 at B0 G0 G1 G2 ⊢
  have l0 := G0.lt
  have l1 := G1.lt
  have l2 := G2.lt
  have s0 := B0.size
  have H0 : Hid (RowAt v0 w.heap.size #[.slice a n cap] 25) := G0
  have H1 : Hid (RowAt v0 (w.heap.size + 1) #[.slice none 0 0] 25) := G1
  have H2 : Hid (RowAt v0 (w.heap.size + 1 + 1) #[.slice none 0 0] 25) := G2
  have HB0 : Hid (Below w.heap.size w v0) := B0
  clear G0 G1 G2 B0
  go_wp2_with fail
  go_loopw [4] (fun iv wr => ∃ (i : Nat) (da : Option Addr) (dc : Nat) (rbs : List Rb), i ≤ n ∧ iv = .int .i64 i ∧ RowAt wr w.heap.size #[.slice a n cap] 25 ∧ RowAt wr (w.heap.size + 1) #[.slice none 0 0] 25 ∧ RowAt wr (w.heap.size + 1 + 1) #[.slice da i dc] 25 ∧ DocOwn wr v0.heap.size wr.heap.size (.slice da i dc) rbs (d.take i) ∧ v0.heap.size ≤ wr.heap.size ∧ Below w.heap.size w wr) (fun iv _ => n - (intOf iv).toNat)
  case atStart => exact ⟨0, none, 0, [], Nat.zero_le _, rfl, H0.out, H1.out, H2.out, DocOwn.nil _ _ _, Nat.le_refl _, HB0.out⟩
  case round =>
    obtain ⟨i, da, dc, rbs, hi, rfl, hG0, hG1, hG2, hD, hss, hB⟩ := hrel
    have k0 : wr.cell? ⟨w.heap.size, 0, none⟩ = some (.slice a n cap) := hG0.cell 0
    have HG0 : Hid (RowAt wr w.heap.size #[.slice a n cap] 25) := hG0
    have HG1 : Hid (RowAt wr (w.heap.size + 1) #[.slice none 0 0] 25) := hG1
    have HG2 : Hid (RowAt wr (w.heap.size + 1 + 1) #[.slice da i dc] 25) := hG2
    have HD : Hid (DocOwn wr v0.heap.size wr.heap.size (.slice da i dc) rbs (d.take i)) := hD
    have HB : Hid (Below w.heap.size w wr) := hB
    have hq1 := hD.dc.2.1
    have hq2 := hD.dc.2.2.1
    unfold maxLen at hq2
    clear hG0 hG1 hG2 hD
    by_cases hlt : i < n
    · have hil : i < d.length := by have := HN.out; omega
      have hib : (i : Int) < (n : Int) := by omega
      have hi0' : (0 : Int) ≤ (i : Int) := by omega
      have HTK : Hid (d.take (i + 1) = d.take i ++ [d.getD i bl0]) := by
        show d.take (i + 1) = d.take i ++ [d.getD i bl0]
        rw [List.take_succ_eq_append_getElem hil, getD_blS hil]
      have HIL : Hid (i = (d.take i).length) := by
        show i = (d.take i).length
        rw [List.length_take]; omega
      have hsm := HS.out i hil
      rcases H.out.2.2.2 with e | ⟨b, off, rfl, hbw, hcl⟩
      · rw [e] at hil
        exact absurd hil (by simp)
      obtain ⟨ta, tn, tc, ca, cn, cc, hblk⟩ := (hcl i hil).below hB hbw
      obtain ⟨⟨K, V, t, R, C, l⟩, hx⟩ : ∃ x, x = d.getD i bl0 := ⟨_, rfl⟩
      rw [← hx] at hblk hsm HTK
      obtain ⟨c0, c1, c2, c3, c4, c5, htx, htb⟩ := hblk
      simp only at c0 c1 c3 c4 htx htb
      obtain ⟨sm1, sm2, sm3⟩ := hsm
      simp only at sm1 sm2 sm3
      have HSM : Hid (∀ k, k < l.length → (l.getD k cl0).2.2.2.2.length ≤ 1000000) := sm3
      have htn : tn ≤ 1000000 := by rw [htx.1]; exact sm1
      have HTX : Hid (Txt wr ta tn tc t) := htx
      have HTB : Hid (Tab wr ca cn cc l) := htb
      clear hcl hx htx htb hB sm3
      go_upto_region 6 with fail
      have bA : Below wr.heap.size wr (wr.alloc (.cells #[.int .i64 K, .int .i64 V, .slice ta tn tc, .int .i64 R, .int .i64 C, .slice ca cn cc] 56)) := (Below.refl _ _).alloc (Nat.le_refl _) _
      have gA : RowAt (wr.alloc (.cells #[.int .i64 K, .int .i64 V, .slice ta tn tc, .int .i64 R, .int .i64 C, .slice ca cn cc] 56)) wr.heap.size #[.int .i64 K, .int .i64 V, .slice ta tn tc, .int .i64 R, .int .i64 C, .slice ca cn cc] 56 := rowAt_new _ _ _
      have sA : wr.heap.size < (wr.alloc (.cells #[.int .i64 K, .int .i64 V, .slice ta tn tc, .int .i64 R, .int .i64 C, .slice ca cn cc] 56)).heap.size := by simp
      clear c0 c1 c2 c3 c4 c5 k0
      generalize wr.alloc (.cells #[.int .i64 K, .int .i64 V, .slice ta tn tc, .int .i64 R, .int .i64 C, .slice ca cn cc] 56) = u0 at bA gA sA ⊢
      have HA : Hid (RowAt u0 wr.heap.size #[.int .i64 K, .int .i64 V, .slice ta tn tc, .int .i64 R, .int .i64 C, .slice ca cn cc] 56) := gA
      have HBA : Hid (Below wr.heap.size wr u0) := bA
      have HTX0 : Hid (Txt u0 ta tn tc t) := HTX.out.below bA
      have k2 : u0.cell? ⟨wr.heap.size, 2, none⟩ = some (.slice ta tn tc) := gA.cell 2
      clear bA gA
      have hE : Own (u0.alloc (.cells #[] 82)) u0.heap.size (.slice (some ⟨u0.heap.size, 0, none⟩) 0 0) [] := Own.emptyNew u0 _ (Nat.le_refl _)
      have HE : Hid (Own (u0.alloc (.cells #[] 82)) u0.heap.size (.slice (some ⟨u0.heap.size, 0, none⟩) 0 0) []) := hE
      have HTX1 : Hid (Txt (u0.alloc (.cells #[] 82)) ta tn tc t) := HTX0.out.below ((Below.refl _ _).alloc (Nat.le_refl _) _)
      have HA1 : Hid (RowAt (u0.alloc (.cells #[] 82)) wr.heap.size #[.int .i64 K, .int .i64 V, .slice ta tn tc, .int .i64 R, .int .i64 C, .slice ca cn cc] 56) := HA.out.alloc _
      have k2' : (u0.alloc (.cells #[] 82)).cell? ⟨wr.heap.size, 2, none⟩ = some (.slice ta tn tc) := HA1.out.cell 2
      clear hE
      go_upto_region 7 with (at_builtin; refine wpList_append_txt rfl (.tmp 19) (.tmp 21) rfl u0.heap.size (.slice (some ⟨u0.heap.size, 0, none⟩) 0 0) 0 [] rfl HE.out ta tn tc t rfl HTX1.out (by omega) (by simp) ?_; intro v' u2 hown hgrow; have ho2 : Own u2 u0.heap.size v' t := (by have e := HTX.out.1; subst e; unfold Own; simpa using hown); obtain ⟨p, q, rfl⟩ := ho2.shapeN HTX.out.1.symm; have A2 := HA1.out.grown hgrow (by simp [Value.ownBlock]; omega); have q1 : u2.cell? ⟨wr.heap.size, 2, none⟩ = some (.slice ta tn tc) := A2.cell 2; have q2 := A2.frozen 2)
      have B2 : Below wr.heap.size wr u2 := (HBA.out.alloc (by omega) _).grown hgrow (by simp; omega) (fun k hk => by simp [Value.ownBlock] at hk; omega)
      have lt2 : ∀ g, (Value.slice p tn q).ownBlock = some g → u0.heap.size ≤ g ∧ g < u2.heap.size := fun g hg => own_lt ho2 hg
      have A3 : RowAt (u2.setCell ⟨wr.heap.size, 2, none⟩ (.slice p tn q)) wr.heap.size #[.int .i64 K, .int .i64 V, .slice p tn q, .int .i64 R, .int .i64 C, .slice ca cn cc] 56 := A2.setCell 2 (.slice p tn q)
      have O3 : Own (u2.setCell ⟨wr.heap.size, 2, none⟩ (.slice p tn q)) u0.heap.size (.slice p tn q) t := own_set ho2 ⟨wr.heap.size, 2, none⟩ (.slice p tn q) (fun e => by have := (lt2 _ e).1; simp at this; omega)
      have B3 : Below wr.heap.size wr (u2.setCell ⟨wr.heap.size, 2, none⟩ (.slice p tn q)) := B2.setCell (Nat.le_refl _) _
      have s3 : u2.heap.size ≤ (u2.setCell ⟨wr.heap.size, 2, none⟩ (.slice p tn q)).heap.size := by simp
      clear q1 q2 A2 ho2 hown hgrow k2 k2' HE HTX1 HA1 HA HBA HTX0 B2
      generalize (u2.setCell ⟨wr.heap.size, 2, none⟩ (.slice p tn q)) = u3 at A3 O3 B3 s3 ⊢
      have HA3 : Hid (RowAt u3 wr.heap.size #[.int .i64 K, .int .i64 V, .slice p tn q, .int .i64 R, .int .i64 C, .slice ca cn cc] 56) := A3
      have HO3 : Hid (Own u3 u0.heap.size (.slice p tn q) t) := O3
      have HB3 : Hid (Below wr.heap.size wr u3) := B3
      have HL2 : Hid (∀ g, (Value.slice p tn q).ownBlock = some g → u0.heap.size ≤ g ∧ g < u2.heap.size) := lt2
      have g3 : u3.cell? ⟨wr.heap.size, 3, none⟩ = some (.int .i64 R) := A3.cell 3
      have g4 : u3.cell? ⟨wr.heap.size, 4, none⟩ = some (.int .i64 C) := A3.cell 4
      have g5 : u3.cell? ⟨wr.heap.size, 5, none⟩ = some (.slice ca cn cc) := A3.cell 5
      have e3 := A3.lt
      have s3' := B3.size
      clear A3 O3 B3 lt2
      go_upto_region 8 with (go_at_call 90; refine (l2Copy_any R C ca cn cc l _ (HTB.out.below HB3.out) sm2 HSM.out).mono ?_; rintro e u4 ⟨⟨a', c', rs, rfl, ho4⟩, hb4⟩; have q3 : u4.cell? ⟨wr.heap.size, 3, none⟩ = some (.int .i64 R) := (HA3.out.below hb4 e3).cell 3; have q4 : u4.cell? ⟨wr.heap.size, 3 + 1, none⟩ = some (.int .i64 C) := (HA3.out.below hb4 e3).cell 4; have q5 : u4.cell? ⟨wr.heap.size, 3 + 2, none⟩ = some (.slice ca cn cc) := (HA3.out.below hb4 e3).cell 5; have f3 := (HA3.out.below hb4 e3).frozen 3; have f4 := (HA3.out.below hb4 e3).frozen (3 + 1); have f5 := (HA3.out.below hb4 e3).frozen (3 + 2))
      have s4 := hb4.size
      have A5 : RowAt (((u4.setCell ⟨wr.heap.size, 3, none⟩ (.int .i64 R)).setCell ⟨wr.heap.size, 3 + 1, none⟩ (.int .i64 C)).setCell ⟨wr.heap.size, 3 + 2, none⟩ (.slice a' l.length c')) wr.heap.size #[.int .i64 K, .int .i64 V, .slice p tn q, .int .i64 R, .int .i64 C, .slice a' l.length c'] 56 := (((HA3.out.below hb4 e3).setCell 3 (.int .i64 R)).setCell 4 (.int .i64 C)).setCell 5 (.slice a' l.length c')
      have B5 : Below wr.heap.size wr (((u4.setCell ⟨wr.heap.size, 3, none⟩ (.int .i64 R)).setCell ⟨wr.heap.size, 3 + 1, none⟩ (.int .i64 C)).setCell ⟨wr.heap.size, 3 + 2, none⟩ (.slice a' l.length c')) := (((HB3.out.trans (hb4.mono s3')).setCell (Nat.le_refl _) _).setCell (Nat.le_refl _) _).setCell (Nat.le_refl _) _
      have HBL : Hid (BlOwn u4 wr.heap.size u3.heap.size u4.heap.size (K, V, (p, tn, q), R, C, (a', l.length, c')) (K, V, t, R, C, l)) := by
        refine ⟨⟨rfl, rfl, rfl, rfl⟩, own_less (HO3.out.below hb4) (by omega), fun g hg => ?_, ⟨rs, ho4, fun g hg => (own_lt ho4.1 hg).2, fun j hj g hg => ho4.2.blockLt j hj g hg⟩, by omega, s4⟩
        have := (HL2.out g hg).2
        omega
      have s5 : u4.heap.size ≤ (((u4.setCell ⟨wr.heap.size, 3, none⟩ (.int .i64 R)).setCell ⟨wr.heap.size, 3 + 1, none⟩ (.int .i64 C)).setCell ⟨wr.heap.size, 3 + 2, none⟩ (.slice a' l.length c')).heap.size := by simp
      have HK5 : Hid (Kept wr.heap.size u4.heap.size u4 (((u4.setCell ⟨wr.heap.size, 3, none⟩ (.int .i64 R)).setCell ⟨wr.heap.size, 3 + 1, none⟩ (.int .i64 C)).setCell ⟨wr.heap.size, 3 + 2, none⟩ (.slice a' l.length c'))) := by
        have r0 := HA3.out.below hb4 e3
        have r1 := r0.setCell 3 (.int .i64 R)
        have r2 := r1.setCell 4 (.int .i64 C)
        exact ((kept_set r0 _ _ _ _).trans (kept_set r1 _ _ _ _)).trans (kept_set r2 _ _ _ _)
      clear q3 q4 q5 f3 f4 f5 g3 g4 g5 ho4 hb4 HO3 HA3 HB3
      generalize (((u4.setCell ⟨wr.heap.size, 3, none⟩ (.int .i64 R)).setCell ⟨wr.heap.size, 3 + 1, none⟩ (.int .i64 C)).setCell ⟨wr.heap.size, 3 + 2, none⟩ (.slice a' l.length c')) = u5 at A5 B5 HK5 s5 ⊢
      have HA5 : Hid (RowAt u5 wr.heap.size #[.int .i64 K, .int .i64 V, .slice p tn q, .int .i64 R, .int .i64 C, .slice a' l.length c'] 56) := A5
      have HB5 : Hid (Below wr.heap.size wr u5) := B5
      have HBL5 : Hid (BlOwn u5 wr.heap.size u3.heap.size u4.heap.size (K, V, (p, tn, q), R, C, (a', l.length, c')) (K, V, t, R, C, l)) := HBL.out.kept HK5.out
      have lz0 := HG0.out.lt
      have lz1 := HG1.out.lt
      have lz2 := HG2.out.lt
      have j0 : u5.cell? ⟨wr.heap.size, 0, none⟩ = some (.int .i64 K) := A5.cell 0
      have j1 : u5.cell? ⟨wr.heap.size, 1, none⟩ = some (.int .i64 V) := A5.cell 1
      have j2 : u5.cell? ⟨wr.heap.size, 2, none⟩ = some (.slice p tn q) := A5.cell 2
      have j3 : u5.cell? ⟨wr.heap.size, 3, none⟩ = some (.int .i64 R) := A5.cell 3
      have j4 : u5.cell? ⟨wr.heap.size, 4, none⟩ = some (.int .i64 C) := A5.cell 4
      have j5 : u5.cell? ⟨wr.heap.size, 5, none⟩ = some (.slice a' l.length c') := A5.cell 5
      have HG25 : Hid (RowAt u5 (w.heap.size + 1 + 1) #[.slice da i dc] 25) := HG2.out.below B5 lz2
      have y0 : u5.cell? ⟨w.heap.size + 1 + 1, 0, none⟩ = some (.slice da i dc) := HG25.out.cell 0
      have HD5 : Hid (DocOwn u5 v0.heap.size wr.heap.size (.slice da i dc) rbs (d.take i)) := HD.out.below (Nat.le_refl _) B5
      have HG05 : Hid (RowAt u5 w.heap.size #[.slice (some ⟨b, off, none⟩) n cap] 25) := HG0.out.below B5 lz0
      have HG15 : Hid (RowAt u5 (w.heap.size + 1) #[.slice none 0 0] 25) := HG1.out.below B5 lz1
      have HW5 : Hid (Below w.heap.size w u5) := HB.out.trans (B5.mono (by omega))
      have hs5 := B5.size
      clear A5 B5 HBL HK5 HA5 HB5 HG0 HG1 HG2 HD HB
      have A6 : Below u5.heap.size u5 (u5.alloc (.cells #[.int .i64 K, .int .i64 V, .slice p tn q, .int .i64 R, .int .i64 C, .slice a' l.length c'] 56)) := (Below.refl _ _).alloc (Nat.le_refl _) _
      have HD6 : Hid (DocOwn (u5.alloc (.cells #[.int .i64 K, .int .i64 V, .slice p tn q, .int .i64 R, .int .i64 C, .slice a' l.length c'] 56)) v0.heap.size wr.heap.size (.slice da i dc) rbs (d.take i)) := HD5.out.below hs5 A6
      have HBL6 : Hid (BlOwn (u5.alloc (.cells #[.int .i64 K, .int .i64 V, .slice p tn q, .int .i64 R, .int .i64 C, .slice a' l.length c'] 56)) wr.heap.size u3.heap.size u4.heap.size (K, V, (p, tn, q), R, C, (a', l.length, c')) (K, V, t, R, C, l)) := HBL5.out.mid (fun b _ hb' => A6.block b (by omega))
      have hrw : (u5.alloc (.cells #[.int .i64 K, .int .i64 V, .slice p tn q, .int .i64 R, .int .i64 C, .slice a' l.length c'] 56)).ownsRow v0.heap.size 56 6 (.slice da i dc) i (flat6 rbs) := by
        have h1 := HD6.out.1
        have h2 := HD6.out.2.2.1
        have h3 := HIL.out
        rw [show rbs.length = i by omega] at h1
        exact h1
      have HRW : Hid ((u5.alloc (.cells #[.int .i64 K, .int .i64 V, .slice p tn q, .int .i64 R, .int .i64 C, .slice a' l.length c'] 56)).ownsRow v0.heap.size 56 6 (.slice da i dc) i (flat6 rbs)) := hrw
      have HG26 : Hid (RowAt (u5.alloc (.cells #[.int .i64 K, .int .i64 V, .slice p tn q, .int .i64 R, .int .i64 C, .slice a' l.length c'] 56)) (w.heap.size + 1 + 1) #[.slice da i dc] 25) := HG25.out.alloc _
      clear hrw
      go_wp2_with (at_builtin; refine wpList_append_own _ rfl (.tmp 29) (.tmp 31) 23 rfl v0.heap.size 56 i0 _ 6 80 Tryz.underlying23 hi0 hz0 hz1 hz2 rfl (by decide) (.slice da i dc) i (flat6 rbs) rfl HRW.out ⟨u5.heap.size, 0, none⟩ 1 1 [.int .i64 K, .int .i64 V, .slice p tn q, .int .i64 R, .int .i64 C, .slice a' l.length c'] rfl rfl (cells6_new _ _ _ _ _ _ _ _) (rb_one (K, V, (p, tn, q), R, C, (a', l.length, c'))) (by unfold maxLen; omega) (by omega) (by simp; omega) ?_; intro v' u7 hown hgrow _; obtain ⟨da', dc', rfl⟩ := own_shape hown; have hne : ∀ g, (Value.slice da i dc).ownBlock = some g → v0.heap.size ≤ g := (fun g hg => (own_lt HRW.out hg).1); have G27 := HG26.out.grown hgrow (fun e => by have := hne _ e; omega); have q7 : u7.cell? ⟨w.heap.size + 1 + 1, 0, none⟩ = some (.slice da i dc) := G27.cell 0; have f7 := G27.frozen 0)
      have s7 := hgrow.size
      simp only [World.size_alloc] at s7
      have hD7 : DocOwn u7 v0.heap.size u7.heap.size (.slice da' (i + 1) dc') (rbs ++ [(K, V, (p, tn, q), R, C, (a', l.length, c'))]) (d.take i ++ [(K, V, t, R, C, l)]) := docOwn_snoc HD6.out HIL.out HBL6.out hss (by omega) (by omega) hown hgrow
      go_roundw
      case rel =>
        refine ⟨i + 1, da', dc', rbs ++ [(K, V, (p, tn, q), R, C, (a', l.length, c'))], by omega, by go_num, ?_, ?_, G27.setCell 0 _, ?_, by simp; omega, ?_⟩
        · exact ((HG05.out.alloc _).grown hgrow (fun e => by have := hne _ e; omega)).other _ _ (by simp <;> omega)
        · exact ((HG15.out.alloc _).grown hgrow (fun e => by have := hne _ e; omega)).other _ _ (by simp <;> omega)
        · rw [HTK.out]
          exact (hD7.mid (fun b hb hb' => Go.Deep.blk_setCell_other _ _ _ _ (by simp; omega))).less (Nat.le_refl _) (by simp)
        · exact ((HW5.out.alloc (by omega) _).grown hgrow (by simp; omega) (fun k hk => by have := hne _ hk; omega)).setCell (by show _ ≤ w.heap.size + 1 + 1; omega) _
      case measure => simp [intOf]; omega
    · have hib : ¬ (i : Int) < (n : Int) := by omega
      obtain rfl : i = n := by omega
      have e1 : d.take i = d := List.take_of_length_le (by have := HN.out; omega)
      have hD := HD.out
      rw [e1] at hD
      have HDw : Hid (DocOwn wr v0.heap.size wr.heap.size (.slice da i dc) rbs d) := hD
      have k2 : wr.cell? ⟨w.heap.size + 1 + 1, 0, none⟩ = some (.slice da i dc) := HG2.out.cell 0
      clear hD e1
      go_wp2_with (refine wpList_store_row rfl 25 (.tmp 2) (.tmp 34) rfl (w.heap.size + 1) #[.slice da i dc] rfl rfl 25 _ HG1.out docS_info rfl (cellsS_one _ _ _) ?_)
      refine bodyPost_ret (v := .agg #[.slice da i dc]) (results_cell_row (p := 2) (ty := 25) rfl _ _ (w.heap.size + 1) 25 _ _ _ rfl (RowAt.setRow HG1.out _) Tryz.underlying25 rfl docS_info) rfl ⟨⟨da, dc, rfl, rbs, ?_⟩, below_row HB.out (by omega) _⟩
      have sz : (wr.setRow (w.heap.size + 1) #[.slice da i dc]).heap.size = wr.heap.size := by simp [World.setRow]
      rw [sz]
      exact (HDw.out.mid (fun b hb hb' => setRow_other _ _ _ _ (by omega))).less (by omega) (Nat.le_refl _)
end Go.Proofs.YtccoeachemnbnaaGreatDoor
