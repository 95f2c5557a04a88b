import Derived.Deep.Cut
import Derived.Deep.CutRange
import Derived.Deep.CutBlock
import Derived.Deep.DeepCutAuto
import Derived.Test.YtcecmkideoodiaaBA2
import Derived.Deep.RegionHeld3
import Derived.Deep.AppendLies
import Derived.Test.YtcecmkideoodiaaBA1
namespace Go.Proofs.Ytcecmkideoodiaa
open Go.RowKit

set_option maxRecDepth 100000 in
set_option maxHeartbeats 8000000 in
theorem l71Table_any (B g p : Nat) (w : World) (h : Rd B w g p) (hp : p ≤ 890000) :
    Calls Try.prog 56 #[.pointer (some ⟨g, 0, none⟩)] w fun e w' => ∃ (R C : Nat) (a : Option Addr) (n c : Nat) (rs : List Rw) (l : List Cl) (q : Nat), e = .returned (.agg #[.int .i64 R, .int .i64 C, .slice a n c]) ∧ OwnT w' w.heap.size (.slice a n c) rs l ∧ TabSm R C l ∧ Rd B w' g q ∧ q ≤ p + 500 ∧ Fr w.heap.size g w w' := by
  have hlt := h.lt
  have HR : Hid (Rd B w g p) := h
  clear h
  go_enter Try.func56, Try.ntmps56
  go_upto_region 1 with fail
  have F0 : Fr w.heap.size g w (w.alloc (.cells #[.int .i64 0, .int .i64 0, .slice none 0 0] 37)) := (Fr.refl _ _ w).alloc (Nat.le_refl _) _
  have Z0 : RowAt (w.alloc (.cells #[.int .i64 0, .int .i64 0, .slice none 0 0] 37)) w.heap.size #[.int .i64 0, .int .i64 0, .slice none 0 0] 37 := rowAt_new _ _ _
  have HR0 : Hid (Rd B (w.alloc (.cells #[.int .i64 0, .int .i64 0, .slice none 0 0] 37)) g p) := HR.out.alloc _
  generalize (w.alloc (.cells #[.int .i64 0, .int .i64 0, .slice none 0 0] 37)) = v0 at F0 Z0 HR0 ⊢
  have zz0 := Z0.lt
  go_wp2_with fail
  refine (pick_any B g p 4 _ HR0.out (by omega) (by omega) (by omega)).mono ?_
  rintro e w1 ⟨x, rfl, hx0, hx1, hr1, hg1⟩
  obtain ⟨x, rfl⟩ : ∃ q : Nat, x = q := ⟨x.toNat, by omega⟩
  have HR1 : Hid (Rd B w1 g (p + 1)) := hr1
  have f1 := fr_grown hg1
  have s1 := f1.size
  clear hr1 hg1
  go_wp2_with fail
  refine (pick_any B g (p + 1) 4 _ HR1.out (by omega) (by omega) (by omega)).mono ?_
  rintro e w2 ⟨y, rfl, hy0, hy1, hr2, hg2⟩
  obtain ⟨y, rfl⟩ : ∃ q : Nat, y = q := ⟨y.toNat, by omega⟩
  have HR2 : Hid (Rd B w2 g (p + 1 + 1)) := hr2
  have f2 := fr_grown hg2
  have s2 := f2.size
  clear hr2 hg2
  go_wp2_with fail
  refine (specTableNew_any (1 + (x : Int)) (1 + (y : Int)) _).mono ?_
  rintro e w3 ⟨hres, hb3⟩
  have hok : newOk (1 + (x : Int)) (1 + (y : Int)) = true := by
    unfold newOk
    simp
    omega
  rcases hres with ⟨hno, -⟩ | ⟨-, a, n, c, rs, rfl, ho⟩
  · rw [hok] at hno
    exact absurd hno (by simp)
  clear hok
  obtain ⟨R, hRx⟩ : ∃ R : Nat, 1 + (x : Int) = R := ⟨1 + x, by omega⟩
  obtain ⟨C, hCy⟩ : ∃ C : Nat, 1 + (y : Int) = C := ⟨1 + y, by omega⟩
  rw [hRx, hCy] at ho ⊢
  simp only [Int.toNat_natCast] at ho
  have hsm := tabSm_new R C (by omega) (by omega)
  have s3 := hb3.size
  have HR3 : Hid (Rd B w3 g (p + 1 + 1)) := HR2.out.below hb3 (by omega)
  have F3 : Fr w.heap.size g w w3 := ((F0.trans (f1.mono (by omega))).trans (f2.mono (by omega))).below (hb3.mono (by omega))
  have Z3 : RowAt w3 w.heap.size #[.int .i64 0, .int .i64 0, .slice none 0 0] 37 := (((Z0.fr f1 (by omega)).fr f2 (by omega))).below hb3 (by omega)
  clear hx0 hx1 hy0 hy1 hRx hCy HR HR0 HR1 HR2 F0 Z0 f1 f2
  go_upto_region 2 with fail
  have T4 : RowAt (w3.alloc (.cells #[.int .i64 R, .int .i64 C, .slice a n c] 37)) w3.heap.size #[.int .i64 R, .int .i64 C, .slice a n c] 37 := rowAt_new _ _ _
  have O4 : OwnT (w3.alloc (.cells #[.int .i64 R, .int .i64 C, .slice a n c] 37)) w2.heap.size (.slice a n c) rs (newL R C) := ho.below ((Below.refl _ _).alloc (Nat.le_refl _) _)
  have F4 : Fr w.heap.size g w (w3.alloc (.cells #[.int .i64 R, .int .i64 C, .slice a n c] 37)) := F3.alloc (by omega) _
  have Z4 : RowAt (w3.alloc (.cells #[.int .i64 R, .int .i64 C, .slice a n c] 37)) w.heap.size #[.int .i64 0, .int .i64 0, .slice none 0 0] 37 := Z3.alloc _
  have HR4 : Hid (Rd B (w3.alloc (.cells #[.int .i64 R, .int .i64 C, .slice a n c] 37)) g (p + 1 + 1)) := HR3.out.alloc _
  obtain ⟨T, hT⟩ : ∃ T, w3.heap.size = T := ⟨_, rfl⟩
  generalize (w3.alloc (.cells #[.int .i64 R, .int .i64 C, .slice a n c] 37)) = v4 at T4 O4 F4 Z4 HR4 ⊢
  rw [hT] at T4 ⊢
  have hTw : w.heap.size < T := by omega
  clear hT ho F3 Z3 HR3 hb3
  go_wp2_with fail
  refine (pick_any B g (p + 1 + 1) 4 _ HR4.out (by omega) (by omega) (by omega)).mono ?_
  rintro e w5 ⟨k, rfl, hk0, hk1, hr5, hg5⟩
  have f5 := fr_grown hg5
  have s5 := f5.size
  have zT := T4.lt
  obtain ⟨k, rfl⟩ : ∃ q : Nat, k = q := ⟨k.toNat, by omega⟩
  have hk4 : k ≤ 3 := by omega
  clear hg5 hk0 hk1
  go_wp2_with fail
  go_loopw [4] (fun kv wr => ∃ (k : Nat) (a : Option Addr) (n c : Nat) (rs : List Rw) (l : List Cl) (q : Nat), kv = .int .i64 k ∧ k ≤ 3 ∧ RowAt wr T #[.int .i64 R, .int .i64 C, .slice a n c] 37 ∧ OwnT wr w.heap.size (.slice a n c) rs l ∧ TabSm R C l ∧ Rd B wr g q ∧ q + 4 * k ≤ p + 15 ∧ RowAt wr w.heap.size #[.int .i64 0, .int .i64 0, .slice none 0 0] 37 ∧ Fr w.heap.size g w wr ∧ T < wr.heap.size) (fun kv _ => (intOf kv).toNat)
  case atStart => exact ⟨k, a, n, c, rs, newL R C, p + 1 + 1 + 1, rfl, hk4, T4.fr f5 (by omega), OwnT.less (OwnT.fr O4 f5 (by omega)) (by omega), hsm, hr5, by omega, Z4.fr f5 (by omega), F4.trans (f5.mono (by have := F4.size; omega)), by omega⟩
  case round =>
    clear T4 O4 hsm hr5 F4 Z4 HR4 f5
    obtain ⟨k, a, n, c, rs, l, q, rfl, hk3, hT', hO', hS', hr', hq', hZ', hF', hs'⟩ := hrel
    have HTb : Hid (RowAt wr T #[.int .i64 R, .int .i64 C, .slice a n c] 37) := hT'
    have HO : Hid (OwnT wr w.heap.size (.slice a n c) rs l) := hO'
    have HSm : Hid (TabSm R C l) := hS'
    have HRd : Hid (Rd B wr g q) := hr'
    have HZ : Hid (RowAt wr w.heap.size #[.int .i64 0, .int .i64 0, .slice none 0 0] 37) := hZ'
    have HF : Hid (Fr w.heap.size g w wr) := hF'
    obtain ⟨hR4, hC4, hL4, -⟩ := hS'
    have sF := hF'.size
    by_cases hk0 : k = 0
    · have hk0' : ¬ (0 : Int) < (k : Int) := by omega
      clear hT' hO' hr' hZ' hF'
      have HNn : Hid (n = l.length) := HO.out.len
      have hn25 : n ≤ 25 := by have := HNn.out; omega
      have hn1 : 1 ≤ n := by have := HNn.out; omega
      obtain ⟨gq, rfl⟩ : ∃ gq, a = some ⟨gq, 0, none⟩ := by
        rcases HO.out.1.row.2 with ⟨hv, hz⟩ | ⟨g', cap', cur, hv, -⟩
        · exfalso; omega
        · simp only [Value.slice.injEq, true_and] at hv
          exact ⟨g', hv.1⟩
      have hncap := HO.out.1.rws.2.1
      have hcm := HO.out.1.rws.2.2.1
      unfold maxLen at hcm
      have t2 : wr.cell? ⟨T, 2, none⟩ = some (.slice (some ⟨gq, 0, none⟩) n c) := HTb.out.cell 2
      go_wp2_with fail
      clear t2
      go_loopw [9] (fun iv wr => ∃ (i : Nat) (rs : List Rw) (l : List Cl) (q : Nat), iv = .int .i64 i ∧ i ≤ n ∧ RowAt wr T #[.int .i64 R, .int .i64 C, .slice (some ⟨gq, 0, none⟩) n c] 37 ∧ OwnT wr w.heap.size (.slice (some ⟨gq, 0, none⟩) n c) rs l ∧ TabSm R C l ∧ Rd B wr g q ∧ q + 17 * (n - i) ≤ p + 15 + 17 * n ∧ RowAt wr w.heap.size #[.int .i64 0, .int .i64 0, .slice none 0 0] 37 ∧ Fr w.heap.size g w wr ∧ T < wr.heap.size) (fun iv _ => n - (intOf iv).toNat)
      case atStart => exact ⟨0, rs, l, q, rfl, Nat.zero_le _, HTb.out, HO.out, HSm.out, HRd.out, by omega, HZ.out, HF.out, hs'⟩
      case round =>
        clear HTb HO HSm HRd HZ HF HNn hs' hq' hL4
        clear rs l q
        obtain ⟨i, rs, l, q, rfl, hi, hT', hO', hS', hr', hq', hZ', hF', hs'⟩ := hrel
        have HTb : Hid (RowAt wr T #[.int .i64 R, .int .i64 C, .slice (some ⟨gq, 0, none⟩) n c] 37) := hT'
        have HO : Hid (OwnT wr w.heap.size (.slice (some ⟨gq, 0, none⟩) n c) rs l) := hO'
        have HSm : Hid (TabSm R C l) := hS'
        have HRd : Hid (Rd B wr g q) := hr'
        have HZ : Hid (RowAt wr w.heap.size #[.int .i64 0, .int .i64 0, .slice none 0 0] 37) := hZ'
        have HF : Hid (Fr w.heap.size g w wr) := hF'
        have sF' := hF'.size
        have t2 : wr.cell? ⟨T, 2, none⟩ = some (.slice (some ⟨gq, 0, none⟩) n c) := hT'.cell 2
        clear hT' hO' hS' hr' hZ' hF'
        by_cases hin : i < n
        · have hib : (i : Int) < (n : Int) := by omega
          have hi0 : (0 : Int) ≤ (i : Int) := by omega
          go_wp2_with fail
          refine (pick_any B g q 2 _ HRd.out (by omega) (by omega) (by omega)).mono ?_
          rintro e w6 ⟨row, rfl, hw0, hw1, hr6, hg6⟩
          have f6 := fr_grown hg6
          have s6 := f6.size
          have HR6 : Hid (Rd B w6 g (q + 1)) := hr6
          have HT6 : Hid (RowAt w6 T #[.int .i64 R, .int .i64 C, .slice (some ⟨gq, 0, none⟩) n c] 37) := HTb.out.fr f6 (by omega)
          have HO6 : Hid (OwnT w6 w.heap.size (.slice (some ⟨gq, 0, none⟩) n c) rs l) := HO.out.fr f6 (by omega)
          have HZ6 : Hid (RowAt w6 w.heap.size #[.int .i64 0, .int .i64 0, .slice none 0 0] 37) := HZ.out.fr f6 (by omega)
          have HF6 : Hid (Fr w.heap.size g w w6) := HF.out.trans (f6.mono sF')
          clear hr6 hg6 t2 f6 HTb HO HZ HF HRd
          by_cases hrow : row = 0
          · subst hrow
            go_upto_region 14 with fail
            have f6' : Fr w6.heap.size g w6 w6.drew := (Fr.refl _ _ _).below ((Below.refl _ _).drew)
            have HT6' : Hid (RowAt w6.drew T #[.int .i64 R, .int .i64 C, .slice (some ⟨gq, 0, none⟩) n c] 37) := HT6.out.fr f6' (by omega)
            have HO6' : Hid (OwnT w6.drew w.heap.size (.slice (some ⟨gq, 0, none⟩) n c) rs l) := HO6.out.fr f6' (by omega)
            have HZ6' : Hid (RowAt w6.drew w.heap.size #[.int .i64 0, .int .i64 0, .slice none 0 0] 37) := HZ6.out.fr f6' (by omega)
            have HF6' : Hid (Fr w.heap.size g w w6.drew) := HF6.out.trans (f6'.mono (by omega))
            have HR6' : Hid (Rd B w6.drew g (q + 1)) := HR6.out.below ((Below.refl _ _).drew) HR6.out.lt
            have s6' : w6.heap.size = w6.drew.heap.size := rfl
            refine wp_region_noPanic ?_
            refine wp_region_held_drew (S := fun w' => RowAt w' T #[.int .i64 R, .int .i64 C, .slice (some ⟨gq, 0, none⟩) n c] 37) (by kernel_rfl) HT6'.out (fun hHeld => ?_)
            refine take_at 0 64 (.pointer (some ⟨T, 2, none⟩)) rfl rfl (by kernel_rfl) (by kernel_rfl) (by kernel_rfl) (fun _ _ _ h => h) (Or.inl ⟨by kernel_rfl, fun w' hS' => by go_simp⟩) hHeld ?_
            (try simp only [Act.put, List.setIfInBounds_toArray, List.set_cons_zero, List.set_cons_succ])
            refine take_at 1 65 (.slice (some ⟨gq, 0, none⟩) n c) rfl rfl (by kernel_rfl) (by kernel_rfl) (by kernel_rfl) (fun _ _ _ h => h) (Or.inl ⟨by kernel_rfl, fun w' hS' => by have hc := RowAt.cell hS' 2; go_simp⟩) hHeld ?_
            (try simp only [Act.put, List.setIfInBounds_toArray, List.set_cons_zero, List.set_cons_succ])
            refine take_at 2 66 (.int .i64 i) rfl rfl (by kernel_rfl) (by kernel_rfl) (by kernel_rfl) (fun _ _ _ h => h) (Or.inl ⟨by kernel_rfl, fun w' hS' => by go_simp⟩) hHeld ?_
            (try simp only [Act.put, List.setIfInBounds_toArray, List.set_cons_zero, List.set_cons_succ])
            refine take_at 3 67 (.pointer (some ⟨g, 0, none⟩)) rfl rfl (by kernel_rfl) (by kernel_rfl) (by kernel_rfl) (fun _ _ _ h => h) (Or.inl ⟨by kernel_rfl, fun w' hS' => by go_simp⟩) hHeld ?_
            (try simp only [Act.put, List.setIfInBounds_toArray, List.set_cons_zero, List.set_cons_succ])
            generalize w6.drew = w7 at HT6' HO6' HZ6' HF6' HR6' s6' hHeld ⊢
            clear HT6 HO6 HZ6 HF6 HR6 f6'
            refine wpAnyH_ready (rs := [4]) (by kernel_rfl) (by simp) ?_
            refine AllReadyH.cons rfl (fun K hK => ?_) AllReadyH.nil
            go_simp
            go_at_call 67
            refine (l71Text_any B g (q + 1) 5 _ HR6'.out (by omega) (by omega)).mono ?_
            rintro e w8 ⟨v, tx, q8, rfl, hO8, hl8, hr8, hq8, hf8⟩
            obtain ⟨pa, pc, rfl⟩ := Own.shapeN hO8 rfl
            obtain ⟨pn, hpn⟩ : ∃ pn, tx.length = pn := ⟨_, rfl⟩
            rw [hpn] at hO8 ⊢
            have s8 := hf8.size
            have HT8 : Hid (RowAt w8 T #[.int .i64 R, .int .i64 C, .slice (some ⟨gq, 0, none⟩) n c] 37) := HT6'.out.fr hf8 (by omega)
            have HO8 : Hid (OwnT w8 w.heap.size (.slice (some ⟨gq, 0, none⟩) n c) rs l) := HO6'.out.fr hf8 (by omega)
            have HZ8 : Hid (RowAt w8 w.heap.size #[.int .i64 0, .int .i64 0, .slice none 0 0] 37) := HZ6'.out.fr hf8 (by omega)
            have HF8 : Hid (Fr w.heap.size g w w8) := HF6'.out.trans (hf8.mono (by omega))
            have HR8 : Hid (Rd B w8 g q8) := hr8
            have HX8 : Hid (Own w8 w7.heap.size (.slice pa pn pc) tx) := hO8
            have HL8 : Hid (tx.length ≤ 5) := hl8
            have HBL : Hid (∀ k, k < rs.length → ∀ b, (rwT (rs.getD k rw0)).ownBlock = some b → b < w7.heap.size) := fun k hk b hb => HO6'.out.2.blockLt k hk b hb
            have hir : i < rs.length := by
              have := HO8.out.1.len
              omega
            have hgq : w.heap.size ≤ gq := (own_lt HO8.out.1.row rfl).1
            have hgT' : gq ≠ T := fun e => rowAt_ne HT8.out HO8.out.1.row (by decide) (by rw [e]; rfl)
            go_wp2_with fail
            refine hK.out _ _ HT8.out (fun hHeld => ?_)
            clear hK K
            (try simp only [Act.put, List.setIfInBounds_toArray, List.set_cons_zero, List.set_cons_succ])
            clear HT6' HO6' HZ6' HF6' HR6' hO8 hr8 hf8 hl8 hpn
            refine take_at 5 69 (.pointer (some ⟨gq, i * 5, none⟩)) rfl rfl (by kernel_rfl) (by kernel_rfl) (by kernel_rfl) (fun _ _ _ h => h) (Or.inl ⟨by kernel_rfl, fun w' hS' => by go_simp⟩) hHeld ?_
            (try simp only [Act.put, List.setIfInBounds_toArray, List.set_cons_zero, List.set_cons_succ])
            refine take_at 6 70 (.pointer (some ⟨gq, i * 5 + 4, none⟩)) rfl rfl (by kernel_rfl) (by kernel_rfl) (by kernel_rfl) (fun _ _ _ h => h) (Or.inl ⟨by kernel_rfl, fun w' hS' => by go_simp⟩) hHeld ?_
            (try simp only [Act.put, List.setIfInBounds_toArray, List.set_cons_zero, List.set_cons_succ])
            have x4 : ∃ u, w8.cell? ⟨gq, i * 5 + 4, none⟩ = some u := ⟨_, (HO8.out.1.row.cellAt (i * 5 + 4) (by omega)).trans (flat5_get _ i 4 hir (by omega))⟩
            obtain ⟨u4, x4⟩ := x4
            have fz4 := HO8.out.1.row.frozenAt (i * 5 + 4)
            refine wpAnyH_ready (rs := [7]) (by kernel_rfl) (by simp) ?_
            refine AllReadyH.cons rfl (fun K hK => ?_) AllReadyH.nil
            go_simp
            refine hK.out _ _ (HT8.out.other ⟨gq, i * 5 + 4, none⟩ (.slice pa pn pc) (by show T ≠ gq; omega)) (fun _ => ?_)
            clear hK K
            refine wpAnyH_done (by kernel_rfl) ?_ _
            refine NoPanic.normal ?_
            go_wp2_with fail
            go_roundw
            case rel =>
              have P := HO8.out.putT i hir pa pn pc tx (own_less HX8.out (by omega)) (fun k hk b hb e => by
                have h1 := HBL.out k hk b hb
                have h2 := (own_lt HX8.out.row e).1
                omega)
              refine ⟨i + 1, _, _, q8, by go_num, by omega, HT8.out.other ⟨gq, i * 5 + 4, none⟩ (.slice pa pn pc) (by show T ≠ gq; omega), P, ?_, HR8.out.setCell (by show g < gq; omega) _, by omega, HZ8.out.other ⟨gq, i * 5 + 4, none⟩ (.slice pa pn pc) (by
                show w.heap.size ≠ gq
                intro e
                exact rowAt_ne HZ8.out HO8.out.1.row (by decide) (by rw [e]; rfl)), HF8.out.setCell (p := ⟨gq, i * 5 + 4, none⟩) hgq _, by simp [World.setCell]; omega⟩
              obtain ⟨q1, q2, q3, q4⟩ := HSm.out
              refine ⟨q1, q2, by simpa using q3, fun z hz => ?_⟩
              rcases List.mem_or_eq_of_mem_set hz with hz | hz
              · exact q4 z hz
              · rw [hz]
                have := HL8.out
                simp only
                omega
            case measure => simp [intOf]; omega
          · have hr1 : (row == 0) = false := by simp; omega
            go_wp2_with fail
            go_roundw
            case rel => exact ⟨i + 1, rs, l, q + 1, by go_num, by omega, HT6.out, HO6.out, HSm.out, HR6.out, by omega, HZ6.out, HF6.out, by omega⟩
            case measure => simp [intOf]; omega
        · have hib : ¬ (i : Int) < (n : Int) := by omega
          go_wp2_with (first | (refine wpList_load_row rfl 37 (.tmp 3) rfl T rfl 37 #[.int .i64 R, .int .i64 C, .slice (some ⟨gq, 0, none⟩) n c] (0, 0) _ HTb.out Try.underlying37 rfl tab_info ?_) | (refine wpList_store_row rfl 37 (.tmp 2) (.tmp 71) rfl w.heap.size #[.int .i64 R, .int .i64 C, .slice (some ⟨gq, 0, none⟩) n c] rfl rfl 37 _ HZ.out tab_info rfl (cells3_one _ _ _ _ _) ?_))
          have bT : Below w.heap.size wr (wr.setRow w.heap.size #[.int .i64 R, .int .i64 C, .slice (some ⟨gq, 0, none⟩) n c]) := below_row (Below.refl _ _) (Nat.le_refl _) _
          refine bodyPost_ret (v := .agg #[.int .i64 R, .int .i64 C, .slice (some ⟨gq, 0, none⟩) n c]) (results_cell_row (p := 2) (ty := 37) rfl _ _ w.heap.size 37 _ _ _ rfl (RowAt.setRow HZ.out _) Try.underlying37 rfl tab_info) rfl ⟨R, C, some ⟨gq, 0, none⟩, n, c, rfl, rs, l, HO.out.setRowT HZ.out _, HSm.out, q, HRd.out.below bT hlt, by omega, HF.out.below bT⟩
    · have hpos : (0 : Int) < (k : Int) := by omega
      have t0 : wr.cell? ⟨T, 0, none⟩ = some (.int .i64 R) := hT'.cell 0
      have t1 : wr.cell? ⟨T, 1, none⟩ = some (.int .i64 C) := hT'.cell 1
      clear hT' hO' hr' hZ' hF'
      go_wp2_with fail
      refine (pick_any B g q R _ HRd.out (by omega) (by omega) (by omega)).mono ?_
      rintro e w6 ⟨row, rfl, hw0, hw1, hr6, hg6⟩
      have f6 := fr_grown hg6
      have s6 := f6.size
      have HR6 : Hid (Rd B w6 g (q + 1)) := hr6
      have u1 : w6.cell? ⟨T, 1, none⟩ = some (.int .i64 C) := (HTb.out.fr f6 (by omega)).cell 1
      clear hr6 hg6 t0 t1
      go_wp2_with fail
      refine (pick_any B g (q + 1) C _ HR6.out (by omega) (by omega) (by omega)).mono ?_
      rintro e w7 ⟨col, rfl, hc0, hc1, hr7, hg7⟩
      have f7 := fr_grown hg7
      have s7 := f7.size
      have f67 : Fr wr.heap.size g wr w7 := f6.trans (f7.mono s6)
      have HR7 : Hid (Rd B w7 g (q + 1 + 1)) := hr7
      have HT7 : Hid (RowAt w7 T #[.int .i64 R, .int .i64 C, .slice a n c] 37) := HTb.out.fr f67 (by omega)
      have HO7 : Hid (OwnT w7 w.heap.size (.slice a n c) rs l) := HO.out.fr f67 (by omega)
      have HZ7 : Hid (RowAt w7 w.heap.size #[.int .i64 0, .int .i64 0, .slice none 0 0] 37) := HZ.out.fr f67 (by omega)
      have HF7 : Hid (Fr w.heap.size g w w7) := HF.out.trans (f67.mono sF)
      clear hr7 hg7 u1 f6 f7 f67 HR6 HTb HO HZ HF HRd
      obtain ⟨row, rfl⟩ : ∃ q : Nat, row = q := ⟨row.toNat, by omega⟩
      obtain ⟨col, rfl⟩ : ∃ q : Nat, col = q := ⟨col.toNat, by omega⟩
      have t0 : w7.cell? ⟨T, 0, none⟩ = some (.int .i64 R) := HT7.out.cell 0
      have t1 : w7.cell? ⟨T, 1, none⟩ = some (.int .i64 C) := HT7.out.cell 1
      have t2 : w7.cell? ⟨T, 2, none⟩ = some (.slice a n c) := HT7.out.cell 2
      have zT7 : T < w7.heap.size := by omega
      have hgT : T ≠ g := by omega
      have HI7 : Hid (TInv B g T R C w a n c rs l (q + 1 + 1) w7) := ⟨HT7.out, HO7.out, HZ7.out, HR7.out, HF7.out, by omega, by omega, hlt⟩
      clear HT7 HO7 HZ7 HR7 HF7 t0 t1 t2
      go_upto_region 7 with fail
      go_cut [7, 8] (fun xv kv wx => ∃ (X : Nat) (x y : Int) (a' : Option Addr) (n' c' : Nat) (rs' : List Rw) (l' : List Cl) (b : Bool), xv = .pointer (some ⟨X, 0, none⟩) ∧ kv = .bool b ∧ RowAt wx X #[.int .i64 x, .int .i64 y, .slice a' n' c'] 37 ∧ T < X ∧ TInv B g T R C w a n c rs l (q + 1 + 1 + 1 + 1) wx ∧ OwnT wx w.heap.size (.slice a' n' c') rs' l' ∧ (b = true → x = R ∧ y = C ∧ TabSm R C l'))
      case first =>
        have HI0 : Hid (TInv B g T R C w a n c rs l (q + 1 + 1) w7.drew) := HI7.out.below ((Below.refl _ _).drew)
        have z0 : T < w7.drew.heap.size := HI0.out.2.2.2.2.2.1
        refine wp_region_noPanic ?_
        refine wp_region_held_drew (S := fun w' => RowAt w' T #[.int .i64 R, .int .i64 C, .slice a n c] 37) (by kernel_rfl) HI0.out.row (fun hHeld => ?_)
        clear HI7
        refine take_at 0 32 (.agg #[.int .i64 R, .int .i64 C, .slice a n c]) rfl rfl (by kernel_rfl) (by kernel_rfl) (by kernel_rfl) (fun _ _ _ h => h) (yieldsIf_load_row (by kernel_rfl) 37 (.tmp 3) rfl T rfl 37 #[.int .i64 R, .int .i64 C, .slice a n c] (0, 0) _ (fun w' h => h) Try.underlying37 rfl tab_info) hHeld ?_
        (try simp only [Act.put, List.setIfInBounds_toArray, List.set_cons_zero, List.set_cons_succ])
        refine take_at 1 33 (.int .i64 row) rfl rfl (by kernel_rfl) (by kernel_rfl) (by kernel_rfl) (fun _ _ _ h => h) (Or.inl ⟨by kernel_rfl, fun w' hS' => by go_simp⟩) hHeld ?_
        (try simp only [Act.put, List.setIfInBounds_toArray, List.set_cons_zero, List.set_cons_succ])
        refine take_at 2 34 (.int .i64 col) rfl rfl (by kernel_rfl) (by kernel_rfl) (by kernel_rfl) (fun _ _ _ h => h) (Or.inl ⟨by kernel_rfl, fun w' hS' => by go_simp⟩) hHeld ?_
        (try simp only [Act.put, List.setIfInBounds_toArray, List.set_cons_zero, List.set_cons_succ])
        refine take_at 3 35 (.pointer (some ⟨g, 0, none⟩)) rfl rfl (by kernel_rfl) (by kernel_rfl) (by kernel_rfl) (fun _ _ _ h => h) (Or.inl ⟨by kernel_rfl, fun w' hS' => by go_simp⟩) hHeld ?_
        (try simp only [Act.put, List.setIfInBounds_toArray, List.set_cons_zero, List.set_cons_succ])
        refine take_at 4 36 (.pointer (some ⟨T, 0, none⟩)) rfl rfl (by kernel_rfl) (by kernel_rfl) (by kernel_rfl) (fun _ _ _ h => h) (Or.inl ⟨by kernel_rfl, fun w' hS' => by go_simp⟩) hHeld ?_
        (try simp only [Act.put, List.setIfInBounds_toArray, List.set_cons_zero, List.set_cons_succ])
        refine take_at 5 37 (.int .i64 R) rfl rfl (by kernel_rfl) (by kernel_rfl) (by kernel_rfl) (fun _ _ _ h => h) (Or.inl ⟨by kernel_rfl, fun w' hS' => by have hc := RowAt.cell hS' 0; go_simp⟩) hHeld ?_
        (try simp only [Act.put, List.setIfInBounds_toArray, List.set_cons_zero, List.set_cons_succ])
        refine take_at 6 38 (.int .i64 row) rfl rfl (by kernel_rfl) (by kernel_rfl) (by kernel_rfl) (fun _ _ _ h => h) (Or.inl ⟨by kernel_rfl, fun w' hS' => by go_simp⟩) hHeld ?_
        (try simp only [Act.put, List.setIfInBounds_toArray, List.set_cons_zero, List.set_cons_succ])
        refine take_at 7 39 (.int .i64 ((R : Int) - row)) rfl rfl (by kernel_rfl) (by kernel_rfl) (by kernel_rfl) (fun _ _ _ h => h) (Or.inl ⟨by kernel_rfl, fun w' hS' => by go_simp; rw [IntKind.wrap_i64]; omega⟩) hHeld ?_
        (try simp only [Act.put, List.setIfInBounds_toArray, List.set_cons_zero, List.set_cons_succ])
        refine take_at 10 42 (.pointer (some ⟨g, 0, none⟩)) rfl rfl (by kernel_rfl) (by kernel_rfl) (by kernel_rfl) (fun _ _ _ h => h) (Or.inl ⟨by kernel_rfl, fun w' hS' => by go_simp⟩) hHeld ?_
        (try simp only [Act.put, List.setIfInBounds_toArray, List.set_cons_zero, List.set_cons_succ])
        refine take_at 11 43 (.pointer (some ⟨T, 1, none⟩)) rfl rfl (by kernel_rfl) (by kernel_rfl) (by kernel_rfl) (fun _ _ _ h => h) (Or.inl ⟨by kernel_rfl, fun w' hS' => by go_simp⟩) hHeld ?_
        (try simp only [Act.put, List.setIfInBounds_toArray, List.set_cons_zero, List.set_cons_succ])
        refine take_at 12 44 (.int .i64 C) rfl rfl (by kernel_rfl) (by kernel_rfl) (by kernel_rfl) (fun _ _ _ h => h) (Or.inl ⟨by kernel_rfl, fun w' hS' => by have hc := RowAt.cell hS' 1; go_simp⟩) hHeld ?_
        (try simp only [Act.put, List.setIfInBounds_toArray, List.set_cons_zero, List.set_cons_succ])
        refine take_at 13 45 (.int .i64 col) rfl rfl (by kernel_rfl) (by kernel_rfl) (by kernel_rfl) (fun _ _ _ h => h) (Or.inl ⟨by kernel_rfl, fun w' hS' => by go_simp⟩) hHeld ?_
        (try simp only [Act.put, List.setIfInBounds_toArray, List.set_cons_zero, List.set_cons_succ])
        refine take_at 14 46 (.int .i64 ((C : Int) - col)) rfl rfl (by kernel_rfl) (by kernel_rfl) (by kernel_rfl) (fun _ _ _ h => h) (Or.inl ⟨by kernel_rfl, fun w' hS' => by go_simp; rw [IntKind.wrap_i64]; omega⟩) hHeld ?_
        (try simp only [Act.put, List.setIfInBounds_toArray, List.set_cons_zero, List.set_cons_succ])
        obtain ⟨W0, hW0⟩ : ∃ W0, w7.drew = W0 := ⟨_, rfl⟩
        rw [hW0] at HI0 hHeld z0 ⊢
        clear hW0
        (try simp only [Act.put, List.setIfInBounds_toArray, List.set_cons_zero, List.set_cons_succ])
        refine wpAnyH_ready (rs := [8, 21]) (by kernel_rfl) (by simp) ?_
        refine AllReadyH.cons rfl (fun K hK => ?_) (AllReadyH.cons rfl (fun K hK => ?_) AllReadyH.nil)
        · skip
          go_simp
          go_at_call 25
          refine (pick_any B g (q + 1 + 1) ((R : Int) - row) _ HI0.out.rd (by omega) (by omega) (by omega)).mono ?_
          rintro e W1 ⟨xA, rfl, hA0, hA1, hrA, hgA⟩
          have HI1 : Hid (TInv B g T R C w a n c rs l (q + 1 + 1 + 1) W1) := HI0.out.grown hgA hrA
          have z1 : T < W1.heap.size := HI1.out.2.2.2.2.2.1
          clear hgA hrA HI0 hHeld
          go_wp2_with fail
          refine hK.out _ _ HI1.out.row (fun hHeld => ?_)
          clear hK K
          (try simp only [Act.put, List.setIfInBounds_toArray, List.set_cons_zero, List.set_cons_succ])
          refine take_at 9 41 (.int .i64 (1 + xA)) rfl rfl (by kernel_rfl) (by kernel_rfl) (by kernel_rfl) (fun _ _ _ h => h) (Or.inl ⟨by kernel_rfl, fun w' hS' => by go_simp; rw [IntKind.wrap_i64]; omega⟩) hHeld ?_
          (try simp only [Act.put, List.setIfInBounds_toArray, List.set_cons_zero, List.set_cons_succ])
          refine wpAnyH_ready (rs := [15, 21]) (by kernel_rfl) (by simp) ?_
          refine AllReadyH.cons rfl (fun K hK => ?_) (AllReadyH.cons rfl (fun K hK => ?_) AllReadyH.nil)
          · skip
            go_simp
            go_at_call 25
            refine (pick_any B g (q + 1 + 1 + 1) ((C : Int) - col) _ HI1.out.rd (by omega) (by omega) (by omega)).mono ?_
            rintro e W2 ⟨xB, rfl, hB0, hB1, hrB, hgB⟩
            have HI2 : Hid (TInv B g T R C w a n c rs l (q + 1 + 1 + 1 + 1) W2) := HI1.out.grown hgB hrB
            have z2 : T < W2.heap.size := HI2.out.2.2.2.2.2.1
            clear hgB hrB HI1 hHeld
            go_wp2_with fail
            refine hK.out _ _ HI2.out.row (fun hHeld => ?_)
            clear hK K
            (try simp only [Act.put, List.setIfInBounds_toArray, List.set_cons_zero, List.set_cons_succ])
            refine take_at 16 48 (.int .i64 (1 + xB)) rfl rfl (by kernel_rfl) (by kernel_rfl) (by kernel_rfl) (fun _ _ _ h => h) (Or.inl ⟨by kernel_rfl, fun w' hS' => by go_simp; rw [IntKind.wrap_i64]; omega⟩) hHeld ?_
            (try simp only [Act.put, List.setIfInBounds_toArray, List.set_cons_zero, List.set_cons_succ])
            refine wpAnyH_ready (rs := [17, 21]) (by kernel_rfl) (by simp) ?_
            refine AllReadyH.cons rfl (fun K hK => ?_) (AllReadyH.cons rfl (fun K hK => ?_) AllReadyH.nil)
            · skip
              go_simp
              go_at_call 70
              refine (specTableMerge_any R C row col (1 + xA) (1 + xB) a n c l _ HI2.out.own.tab).mono ?_
              rintro e W3 ⟨hresC, hbC⟩
              obtain ⟨⟨cx, cy, ca, cn, cc, cl', cg, rfl, hFC⟩, -⟩ := fResM_of ⟨hresC, hbC⟩
              have HI3 : Hid (TInv B g T R C w a n c rs l (q + 1 + 1 + 1 + 1) W3) := HI2.out.below hbC
              obtain ⟨⟨rs', hO0⟩, hF1, hF2⟩ := hFC
              have HOC : Hid (OwnT W3 w.heap.size (.slice ca cn cc) rs' cl') := OwnT.less hO0 (by omega)
              have HSC : Hid (cg = true → cx = R ∧ cy = C ∧ TabSm R C cl') := fun hg => by obtain ⟨e1, e2, e3⟩ := hF2 hg; exact ⟨e1, e2, by rw [e3]; exact tabSm_merge HSm.out (hF1.symm.trans hg)⟩
              have z3 : T < W3.heap.size := HI3.out.2.2.2.2.2.1
              clear hO0 hF1 hF2 hresC hbC HI2 hHeld
              go_wp2_with fail
              refine hK.out _ _ HI3.out.row (fun hHeld => ?_)
              clear hK K
              (try simp only [Act.put, List.setIfInBounds_toArray, List.set_cons_zero, List.set_cons_succ])
              refine take_at 18 31 (.tuple #[.agg #[.int .i64 cx, .int .i64 cy, .slice ca cn cc], .bool cg]) rfl rfl (by kernel_rfl) (by kernel_rfl) (by kernel_rfl) (fun _ _ _ h => h) (Or.inl ⟨by kernel_rfl, fun w' hS' => by go_simp⟩) hHeld ?_
              (try simp only [Act.put, List.setIfInBounds_toArray, List.set_cons_zero, List.set_cons_succ])
              refine take_at 19 50 (.agg #[.int .i64 cx, .int .i64 cy, .slice ca cn cc]) rfl rfl (by kernel_rfl) (by kernel_rfl) (by kernel_rfl) (fun _ _ _ h => h) (Or.inl ⟨by kernel_rfl, fun w' hS' => by go_simp⟩) hHeld ?_
              (try simp only [Act.put, List.setIfInBounds_toArray, List.set_cons_zero, List.set_cons_succ])
              refine take_at 20 51 (.bool cg) rfl rfl (by kernel_rfl) (by kernel_rfl) (by kernel_rfl) (fun _ _ _ h => h) (Or.inl ⟨by kernel_rfl, fun w' hS' => by go_simp⟩) hHeld ?_
              (try simp only [Act.put, List.setIfInBounds_toArray, List.set_cons_zero, List.set_cons_succ])
              refine wpAnyH_ready (rs := [21]) (by kernel_rfl) (by simp) ?_
              refine AllReadyH.cons rfl (fun K hK => ?_) AllReadyH.nil
              go_simp
              have HIx : Hid (TInv B g T R C w a n c rs l (q + 1 + 1 + 1 + 1) (W3.alloc (.cells #[.int .i64 0, .int .i64 0, .slice none 0 0] 37))) := HI3.out.alloc _
              have HXx : Hid (RowAt (W3.alloc (.cells #[.int .i64 0, .int .i64 0, .slice none 0 0] 37)) W3.heap.size #[.int .i64 0, .int .i64 0, .slice none 0 0] 37) := rowAt_new _ _ _
              refine hK.out _ _ HIx.out.row (fun hHeld => ?_)
              clear hK K
              have HOx : Hid (OwnT (W3.alloc (.cells #[.int .i64 0, .int .i64 0, .slice none 0 0] 37)) w.heap.size (.slice ca cn cc) rs' cl') := HOC.out.below ((Below.refl _ _).alloc (Nat.le_refl _) _)
              clear HOC
              have HOC := HOx
              clear HOx
              (try simp only [Act.put, List.setIfInBounds_toArray, List.set_cons_zero, List.set_cons_succ])
              obtain ⟨X, hX⟩ : ∃ X, W3.heap.size = X := ⟨_, rfl⟩
              generalize (W3.alloc (.cells #[.int .i64 0, .int .i64 0, .slice none 0 0] 37)) = WX at HIx HXx hHeld HOC ⊢
              rw [hX] at HXx ⊢
              have hTX : T < X := by omega
              have hXg : X ≠ g := by omega
              clear hX HI3
              have zX : T < WX.heap.size := HIx.out.2.2.2.2.2.1
              refine wpAnyH_ready (rs := [22]) (by kernel_rfl) (by simp) ?_
              refine AllReadyH.cons rfl (fun K hK => ?_) AllReadyH.nil
              rw [if_pos (by kernel_rfl)]
              refine wp_store_row 37 (.tmp 7) (.tmp 50) rfl X #[.int .i64 cx, .int .i64 cy, .slice ca cn cc] rfl rfl 37 _ HXx.out tab_info rfl (cells3_one _ _ _ _ _) ?_
              have HI9 : Hid (TInv B g T R C w a n c rs l (q + 1 + 1 + 1 + 1) (WX.setRow X #[.int .i64 cx, .int .i64 cy, .slice ca cn cc])) := HIx.out.setRow X HXx.out hTX _
              have HX9 : Hid (RowAt (WX.setRow X #[.int .i64 cx, .int .i64 cy, .slice ca cn cc]) X #[.int .i64 cx, .int .i64 cy, .slice ca cn cc] 37) := HXx.out.setRow _
              have HO9 : Hid (OwnT (WX.setRow X #[.int .i64 cx, .int .i64 cy, .slice ca cn cc]) w.heap.size (.slice ca cn cc) rs' cl') := HOC.out.setRowT HXx.out _
              generalize (WX.setRow X #[.int .i64 cx, .int .i64 cy, .slice ca cn cc]) = W9 at HI9 HX9 HO9 ⊢
              clear HIx HXx HOC hHeld
              refine hK.out _ _ HI9.out.row (fun hHeld => ?_)
              clear hK K
              simp only [Act.put]
              refine take_at 23 8 (.bool cg) rfl rfl (by kernel_rfl) (by kernel_rfl) (by kernel_rfl) (fun _ _ _ h => h) (Or.inl ⟨by kernel_rfl, fun w' hS' => by go_simp⟩) hHeld ?_
              (try simp only [Act.put, List.setIfInBounds_toArray])
              refine wpAnyH_done (by kernel_rfl) ?_ _
              refine NoPanic.normal ?_
              go_wp2_with fail
              go_meet
              exact ⟨X, cx, cy, ca, cn, cc, rs', cl', cg, rfl, rfl, HX9.out, hTX, HI9.out, HO9.out, HSC.out⟩
            · skip
              go_simp
              have HIx : Hid (TInv B g T R C w a n c rs l (q + 1 + 1 + 1 + 1) (W2.alloc (.cells #[.int .i64 0, .int .i64 0, .slice none 0 0] 37))) := HI2.out.alloc _
              have HXx : Hid (RowAt (W2.alloc (.cells #[.int .i64 0, .int .i64 0, .slice none 0 0] 37)) W2.heap.size #[.int .i64 0, .int .i64 0, .slice none 0 0] 37) := rowAt_new _ _ _
              refine hK.out _ _ HIx.out.row (fun hHeld => ?_)
              clear hK K
              (try simp only [Act.put, List.setIfInBounds_toArray, List.set_cons_zero, List.set_cons_succ])
              obtain ⟨X, hX⟩ : ∃ X, W2.heap.size = X := ⟨_, rfl⟩
              generalize (W2.alloc (.cells #[.int .i64 0, .int .i64 0, .slice none 0 0] 37)) = WX at HIx HXx hHeld ⊢
              rw [hX] at HXx ⊢
              have hTX : T < X := by omega
              have hXg : X ≠ g := by omega
              clear hX HI2
              have zX : T < WX.heap.size := HIx.out.2.2.2.2.2.1
              refine wpAnyH_ready (rs := [17]) (by kernel_rfl) (by simp) ?_
              refine AllReadyH.cons rfl (fun K hK => ?_) AllReadyH.nil
              go_simp
              go_at_call 70
              refine (specTableMerge_any R C row col (1 + xA) (1 + xB) a n c l _ HIx.out.own.tab).mono ?_
              rintro e W3x ⟨hresC, hbC⟩
              obtain ⟨⟨cx, cy, ca, cn, cc, cl', cg, rfl, hFC⟩, -⟩ := fResM_of ⟨hresC, hbC⟩
              have HI3x : Hid (TInv B g T R C w a n c rs l (q + 1 + 1 + 1 + 1) W3x) := HIx.out.below hbC
              have HX3 : Hid (RowAt W3x X #[.int .i64 0, .int .i64 0, .slice none 0 0] 37) := HXx.out.below hbC HXx.out.lt
              obtain ⟨⟨rs', hO0⟩, hF1, hF2⟩ := hFC
              have HOC : Hid (OwnT W3x w.heap.size (.slice ca cn cc) rs' cl') := OwnT.less hO0 (by omega)
              have HSC : Hid (cg = true → cx = R ∧ cy = C ∧ TabSm R C cl') := fun hg => by obtain ⟨e1, e2, e3⟩ := hF2 hg; exact ⟨e1, e2, by rw [e3]; exact tabSm_merge HSm.out (hF1.symm.trans hg)⟩
              have z3 : T < W3x.heap.size := HI3x.out.2.2.2.2.2.1
              clear hO0 hF1 hF2 hresC hbC HIx hHeld HXx
              go_wp2_with fail
              refine hK.out _ _ HI3x.out.row (fun hHeld => ?_)
              clear hK K
              (try simp only [Act.put, List.setIfInBounds_toArray, List.set_cons_zero, List.set_cons_succ])
              refine take_at 18 31 (.tuple #[.agg #[.int .i64 cx, .int .i64 cy, .slice ca cn cc], .bool cg]) rfl rfl (by kernel_rfl) (by kernel_rfl) (by kernel_rfl) (fun _ _ _ h => h) (Or.inl ⟨by kernel_rfl, fun w' hS' => by go_simp⟩) hHeld ?_
              (try simp only [Act.put, List.setIfInBounds_toArray, List.set_cons_zero, List.set_cons_succ])
              refine take_at 19 50 (.agg #[.int .i64 cx, .int .i64 cy, .slice ca cn cc]) rfl rfl (by kernel_rfl) (by kernel_rfl) (by kernel_rfl) (fun _ _ _ h => h) (Or.inl ⟨by kernel_rfl, fun w' hS' => by go_simp⟩) hHeld ?_
              (try simp only [Act.put, List.setIfInBounds_toArray, List.set_cons_zero, List.set_cons_succ])
              refine take_at 20 51 (.bool cg) rfl rfl (by kernel_rfl) (by kernel_rfl) (by kernel_rfl) (fun _ _ _ h => h) (Or.inl ⟨by kernel_rfl, fun w' hS' => by go_simp⟩) hHeld ?_
              (try simp only [Act.put, List.setIfInBounds_toArray, List.set_cons_zero, List.set_cons_succ])
              refine wpAnyH_ready (rs := [22]) (by kernel_rfl) (by simp) ?_
              refine AllReadyH.cons rfl (fun K hK => ?_) AllReadyH.nil
              rw [if_pos (by kernel_rfl)]
              refine wp_store_row 37 (.tmp 7) (.tmp 50) rfl X #[.int .i64 cx, .int .i64 cy, .slice ca cn cc] rfl rfl 37 _ HX3.out tab_info rfl (cells3_one _ _ _ _ _) ?_
              have HI9 : Hid (TInv B g T R C w a n c rs l (q + 1 + 1 + 1 + 1) (W3x.setRow X #[.int .i64 cx, .int .i64 cy, .slice ca cn cc])) := HI3x.out.setRow X HX3.out hTX _
              have HX9 : Hid (RowAt (W3x.setRow X #[.int .i64 cx, .int .i64 cy, .slice ca cn cc]) X #[.int .i64 cx, .int .i64 cy, .slice ca cn cc] 37) := HX3.out.setRow _
              have HO9 : Hid (OwnT (W3x.setRow X #[.int .i64 cx, .int .i64 cy, .slice ca cn cc]) w.heap.size (.slice ca cn cc) rs' cl') := HOC.out.setRowT HX3.out _
              generalize (W3x.setRow X #[.int .i64 cx, .int .i64 cy, .slice ca cn cc]) = W9 at HI9 HX9 HO9 ⊢
              clear HI3x HX3 HOC hHeld
              refine hK.out _ _ HI9.out.row (fun hHeld => ?_)
              clear hK K
              simp only [Act.put]
              refine take_at 23 8 (.bool cg) rfl rfl (by kernel_rfl) (by kernel_rfl) (by kernel_rfl) (fun _ _ _ h => h) (Or.inl ⟨by kernel_rfl, fun w' hS' => by go_simp⟩) hHeld ?_
              (try simp only [Act.put, List.setIfInBounds_toArray])
              refine wpAnyH_done (by kernel_rfl) ?_ _
              refine NoPanic.normal ?_
              go_wp2_with fail
              go_meet
              exact ⟨X, cx, cy, ca, cn, cc, rs', cl', cg, rfl, rfl, HX9.out, hTX, HI9.out, HO9.out, HSC.out⟩
          · skip
            go_simp
            have HIx : Hid (TInv B g T R C w a n c rs l (q + 1 + 1 + 1) (W1.alloc (.cells #[.int .i64 0, .int .i64 0, .slice none 0 0] 37))) := HI1.out.alloc _
            have HXx : Hid (RowAt (W1.alloc (.cells #[.int .i64 0, .int .i64 0, .slice none 0 0] 37)) W1.heap.size #[.int .i64 0, .int .i64 0, .slice none 0 0] 37) := rowAt_new _ _ _
            refine hK.out _ _ HIx.out.row (fun hHeld => ?_)
            clear hK K
            (try simp only [Act.put, List.setIfInBounds_toArray, List.set_cons_zero, List.set_cons_succ])
            obtain ⟨X, hX⟩ : ∃ X, W1.heap.size = X := ⟨_, rfl⟩
            generalize (W1.alloc (.cells #[.int .i64 0, .int .i64 0, .slice none 0 0] 37)) = WX at HIx HXx hHeld ⊢
            rw [hX] at HXx ⊢
            have hTX : T < X := by omega
            have hXg : X ≠ g := by omega
            clear hX HI1
            have zX : T < WX.heap.size := HIx.out.2.2.2.2.2.1
            refine wpAnyH_ready (rs := [15]) (by kernel_rfl) (by simp) ?_
            refine AllReadyH.cons rfl (fun K hK => ?_) AllReadyH.nil
            go_simp
            go_at_call 25
            refine (pick_any B g (q + 1 + 1 + 1) ((C : Int) - col) _ HIx.out.rd (by omega) (by omega) (by omega)).mono ?_
            rintro e W2x ⟨xB, rfl, hB0, hB1, hrB, hgB⟩
            have HI2x : Hid (TInv B g T R C w a n c rs l (q + 1 + 1 + 1 + 1) W2x) := HIx.out.grown hgB hrB
            have HX2 : Hid (RowAt W2x X #[.int .i64 0, .int .i64 0, .slice none 0 0] 37) := HXx.out.fr (fr_grown hgB) hXg
            have z2 : T < W2x.heap.size := HI2x.out.2.2.2.2.2.1
            clear hgB hrB HIx hHeld HXx
            go_wp2_with fail
            refine hK.out _ _ HI2x.out.row (fun hHeld => ?_)
            clear hK K
            (try simp only [Act.put, List.setIfInBounds_toArray, List.set_cons_zero, List.set_cons_succ])
            refine take_at 16 48 (.int .i64 (1 + xB)) rfl rfl (by kernel_rfl) (by kernel_rfl) (by kernel_rfl) (fun _ _ _ h => h) (Or.inl ⟨by kernel_rfl, fun w' hS' => by go_simp; rw [IntKind.wrap_i64]; omega⟩) hHeld ?_
            (try simp only [Act.put, List.setIfInBounds_toArray, List.set_cons_zero, List.set_cons_succ])
            refine wpAnyH_ready (rs := [17]) (by kernel_rfl) (by simp) ?_
            refine AllReadyH.cons rfl (fun K hK => ?_) AllReadyH.nil
            go_simp
            go_at_call 70
            refine (specTableMerge_any R C row col (1 + xA) (1 + xB) a n c l _ HI2x.out.own.tab).mono ?_
            rintro e W3x ⟨hresC, hbC⟩
            obtain ⟨⟨cx, cy, ca, cn, cc, cl', cg, rfl, hFC⟩, -⟩ := fResM_of ⟨hresC, hbC⟩
            have HI3x : Hid (TInv B g T R C w a n c rs l (q + 1 + 1 + 1 + 1) W3x) := HI2x.out.below hbC
            have HX3 : Hid (RowAt W3x X #[.int .i64 0, .int .i64 0, .slice none 0 0] 37) := HX2.out.below hbC HX2.out.lt
            obtain ⟨⟨rs', hO0⟩, hF1, hF2⟩ := hFC
            have HOC : Hid (OwnT W3x w.heap.size (.slice ca cn cc) rs' cl') := OwnT.less hO0 (by omega)
            have HSC : Hid (cg = true → cx = R ∧ cy = C ∧ TabSm R C cl') := fun hg => by obtain ⟨e1, e2, e3⟩ := hF2 hg; exact ⟨e1, e2, by rw [e3]; exact tabSm_merge HSm.out (hF1.symm.trans hg)⟩
            have z3 : T < W3x.heap.size := HI3x.out.2.2.2.2.2.1
            clear hO0 hF1 hF2 hresC hbC HI2x hHeld HX2
            go_wp2_with fail
            refine hK.out _ _ HI3x.out.row (fun hHeld => ?_)
            clear hK K
            (try simp only [Act.put, List.setIfInBounds_toArray, List.set_cons_zero, List.set_cons_succ])
            refine take_at 18 31 (.tuple #[.agg #[.int .i64 cx, .int .i64 cy, .slice ca cn cc], .bool cg]) rfl rfl (by kernel_rfl) (by kernel_rfl) (by kernel_rfl) (fun _ _ _ h => h) (Or.inl ⟨by kernel_rfl, fun w' hS' => by go_simp⟩) hHeld ?_
            (try simp only [Act.put, List.setIfInBounds_toArray, List.set_cons_zero, List.set_cons_succ])
            refine take_at 19 50 (.agg #[.int .i64 cx, .int .i64 cy, .slice ca cn cc]) rfl rfl (by kernel_rfl) (by kernel_rfl) (by kernel_rfl) (fun _ _ _ h => h) (Or.inl ⟨by kernel_rfl, fun w' hS' => by go_simp⟩) hHeld ?_
            (try simp only [Act.put, List.setIfInBounds_toArray, List.set_cons_zero, List.set_cons_succ])
            refine take_at 20 51 (.bool cg) rfl rfl (by kernel_rfl) (by kernel_rfl) (by kernel_rfl) (fun _ _ _ h => h) (Or.inl ⟨by kernel_rfl, fun w' hS' => by go_simp⟩) hHeld ?_
            (try simp only [Act.put, List.setIfInBounds_toArray, List.set_cons_zero, List.set_cons_succ])
            refine wpAnyH_ready (rs := [22]) (by kernel_rfl) (by simp) ?_
            refine AllReadyH.cons rfl (fun K hK => ?_) AllReadyH.nil
            rw [if_pos (by kernel_rfl)]
            refine wp_store_row 37 (.tmp 7) (.tmp 50) rfl X #[.int .i64 cx, .int .i64 cy, .slice ca cn cc] rfl rfl 37 _ HX3.out tab_info rfl (cells3_one _ _ _ _ _) ?_
            have HI9 : Hid (TInv B g T R C w a n c rs l (q + 1 + 1 + 1 + 1) (W3x.setRow X #[.int .i64 cx, .int .i64 cy, .slice ca cn cc])) := HI3x.out.setRow X HX3.out hTX _
            have HX9 : Hid (RowAt (W3x.setRow X #[.int .i64 cx, .int .i64 cy, .slice ca cn cc]) X #[.int .i64 cx, .int .i64 cy, .slice ca cn cc] 37) := HX3.out.setRow _
            have HO9 : Hid (OwnT (W3x.setRow X #[.int .i64 cx, .int .i64 cy, .slice ca cn cc]) w.heap.size (.slice ca cn cc) rs' cl') := HOC.out.setRowT HX3.out _
            generalize (W3x.setRow X #[.int .i64 cx, .int .i64 cy, .slice ca cn cc]) = W9 at HI9 HX9 HO9 ⊢
            clear HI3x HX3 HOC hHeld
            refine hK.out _ _ HI9.out.row (fun hHeld => ?_)
            clear hK K
            simp only [Act.put]
            refine take_at 23 8 (.bool cg) rfl rfl (by kernel_rfl) (by kernel_rfl) (by kernel_rfl) (fun _ _ _ h => h) (Or.inl ⟨by kernel_rfl, fun w' hS' => by go_simp⟩) hHeld ?_
            (try simp only [Act.put, List.setIfInBounds_toArray])
            refine wpAnyH_done (by kernel_rfl) ?_ _
            refine NoPanic.normal ?_
            go_wp2_with fail
            go_meet
            exact ⟨X, cx, cy, ca, cn, cc, rs', cl', cg, rfl, rfl, HX9.out, hTX, HI9.out, HO9.out, HSC.out⟩
        · skip
          go_simp
          have HIx : Hid (TInv B g T R C w a n c rs l (q + 1 + 1) (W0.alloc (.cells #[.int .i64 0, .int .i64 0, .slice none 0 0] 37))) := HI0.out.alloc _
          have HXx : Hid (RowAt (W0.alloc (.cells #[.int .i64 0, .int .i64 0, .slice none 0 0] 37)) W0.heap.size #[.int .i64 0, .int .i64 0, .slice none 0 0] 37) := rowAt_new _ _ _
          refine hK.out _ _ HIx.out.row (fun hHeld => ?_)
          clear hK K
          (try simp only [Act.put, List.setIfInBounds_toArray, List.set_cons_zero, List.set_cons_succ])
          obtain ⟨X, hX⟩ : ∃ X, W0.heap.size = X := ⟨_, rfl⟩
          generalize (W0.alloc (.cells #[.int .i64 0, .int .i64 0, .slice none 0 0] 37)) = WX at HIx HXx hHeld ⊢
          rw [hX] at HXx ⊢
          have hTX : T < X := by omega
          have hXg : X ≠ g := by omega
          clear hX HI0
          have zX : T < WX.heap.size := HIx.out.2.2.2.2.2.1
          refine wpAnyH_ready (rs := [8]) (by kernel_rfl) (by simp) ?_
          refine AllReadyH.cons rfl (fun K hK => ?_) AllReadyH.nil
          go_simp
          go_at_call 25
          refine (pick_any B g (q + 1 + 1) ((R : Int) - row) _ HIx.out.rd (by omega) (by omega) (by omega)).mono ?_
          rintro e W1x ⟨xA, rfl, hA0, hA1, hrA, hgA⟩
          have HI1x : Hid (TInv B g T R C w a n c rs l (q + 1 + 1 + 1) W1x) := HIx.out.grown hgA hrA
          have HX1 : Hid (RowAt W1x X #[.int .i64 0, .int .i64 0, .slice none 0 0] 37) := HXx.out.fr (fr_grown hgA) hXg
          have z1 : T < W1x.heap.size := HI1x.out.2.2.2.2.2.1
          clear hgA hrA HIx hHeld HXx
          go_wp2_with fail
          refine hK.out _ _ HI1x.out.row (fun hHeld => ?_)
          clear hK K
          (try simp only [Act.put, List.setIfInBounds_toArray, List.set_cons_zero, List.set_cons_succ])
          refine take_at 9 41 (.int .i64 (1 + xA)) rfl rfl (by kernel_rfl) (by kernel_rfl) (by kernel_rfl) (fun _ _ _ h => h) (Or.inl ⟨by kernel_rfl, fun w' hS' => by go_simp; rw [IntKind.wrap_i64]; omega⟩) hHeld ?_
          (try simp only [Act.put, List.setIfInBounds_toArray, List.set_cons_zero, List.set_cons_succ])
          refine wpAnyH_ready (rs := [15]) (by kernel_rfl) (by simp) ?_
          refine AllReadyH.cons rfl (fun K hK => ?_) AllReadyH.nil
          go_simp
          go_at_call 25
          refine (pick_any B g (q + 1 + 1 + 1) ((C : Int) - col) _ HI1x.out.rd (by omega) (by omega) (by omega)).mono ?_
          rintro e W2x ⟨xB, rfl, hB0, hB1, hrB, hgB⟩
          have HI2x : Hid (TInv B g T R C w a n c rs l (q + 1 + 1 + 1 + 1) W2x) := HI1x.out.grown hgB hrB
          have HX2 : Hid (RowAt W2x X #[.int .i64 0, .int .i64 0, .slice none 0 0] 37) := HX1.out.fr (fr_grown hgB) hXg
          have z2 : T < W2x.heap.size := HI2x.out.2.2.2.2.2.1
          clear hgB hrB HI1x hHeld HX1
          go_wp2_with fail
          refine hK.out _ _ HI2x.out.row (fun hHeld => ?_)
          clear hK K
          (try simp only [Act.put, List.setIfInBounds_toArray, List.set_cons_zero, List.set_cons_succ])
          refine take_at 16 48 (.int .i64 (1 + xB)) rfl rfl (by kernel_rfl) (by kernel_rfl) (by kernel_rfl) (fun _ _ _ h => h) (Or.inl ⟨by kernel_rfl, fun w' hS' => by go_simp; rw [IntKind.wrap_i64]; omega⟩) hHeld ?_
          (try simp only [Act.put, List.setIfInBounds_toArray, List.set_cons_zero, List.set_cons_succ])
          refine wpAnyH_ready (rs := [17]) (by kernel_rfl) (by simp) ?_
          refine AllReadyH.cons rfl (fun K hK => ?_) AllReadyH.nil
          go_simp
          go_at_call 70
          refine (specTableMerge_any R C row col (1 + xA) (1 + xB) a n c l _ HI2x.out.own.tab).mono ?_
          rintro e W3x ⟨hresC, hbC⟩
          obtain ⟨⟨cx, cy, ca, cn, cc, cl', cg, rfl, hFC⟩, -⟩ := fResM_of ⟨hresC, hbC⟩
          have HI3x : Hid (TInv B g T R C w a n c rs l (q + 1 + 1 + 1 + 1) W3x) := HI2x.out.below hbC
          have HX3 : Hid (RowAt W3x X #[.int .i64 0, .int .i64 0, .slice none 0 0] 37) := HX2.out.below hbC HX2.out.lt
          obtain ⟨⟨rs', hO0⟩, hF1, hF2⟩ := hFC
          have HOC : Hid (OwnT W3x w.heap.size (.slice ca cn cc) rs' cl') := OwnT.less hO0 (by omega)
          have HSC : Hid (cg = true → cx = R ∧ cy = C ∧ TabSm R C cl') := fun hg => by obtain ⟨e1, e2, e3⟩ := hF2 hg; exact ⟨e1, e2, by rw [e3]; exact tabSm_merge HSm.out (hF1.symm.trans hg)⟩
          have z3 : T < W3x.heap.size := HI3x.out.2.2.2.2.2.1
          clear hO0 hF1 hF2 hresC hbC HI2x hHeld HX2
          go_wp2_with fail
          refine hK.out _ _ HI3x.out.row (fun hHeld => ?_)
          clear hK K
          (try simp only [Act.put, List.setIfInBounds_toArray, List.set_cons_zero, List.set_cons_succ])
          refine take_at 18 31 (.tuple #[.agg #[.int .i64 cx, .int .i64 cy, .slice ca cn cc], .bool cg]) rfl rfl (by kernel_rfl) (by kernel_rfl) (by kernel_rfl) (fun _ _ _ h => h) (Or.inl ⟨by kernel_rfl, fun w' hS' => by go_simp⟩) hHeld ?_
          (try simp only [Act.put, List.setIfInBounds_toArray, List.set_cons_zero, List.set_cons_succ])
          refine take_at 19 50 (.agg #[.int .i64 cx, .int .i64 cy, .slice ca cn cc]) rfl rfl (by kernel_rfl) (by kernel_rfl) (by kernel_rfl) (fun _ _ _ h => h) (Or.inl ⟨by kernel_rfl, fun w' hS' => by go_simp⟩) hHeld ?_
          (try simp only [Act.put, List.setIfInBounds_toArray, List.set_cons_zero, List.set_cons_succ])
          refine take_at 20 51 (.bool cg) rfl rfl (by kernel_rfl) (by kernel_rfl) (by kernel_rfl) (fun _ _ _ h => h) (Or.inl ⟨by kernel_rfl, fun w' hS' => by go_simp⟩) hHeld ?_
          (try simp only [Act.put, List.setIfInBounds_toArray, List.set_cons_zero, List.set_cons_succ])
          refine wpAnyH_ready (rs := [22]) (by kernel_rfl) (by simp) ?_
          refine AllReadyH.cons rfl (fun K hK => ?_) AllReadyH.nil
          rw [if_pos (by kernel_rfl)]
          refine wp_store_row 37 (.tmp 7) (.tmp 50) rfl X #[.int .i64 cx, .int .i64 cy, .slice ca cn cc] rfl rfl 37 _ HX3.out tab_info rfl (cells3_one _ _ _ _ _) ?_
          have HI9 : Hid (TInv B g T R C w a n c rs l (q + 1 + 1 + 1 + 1) (W3x.setRow X #[.int .i64 cx, .int .i64 cy, .slice ca cn cc])) := HI3x.out.setRow X HX3.out hTX _
          have HX9 : Hid (RowAt (W3x.setRow X #[.int .i64 cx, .int .i64 cy, .slice ca cn cc]) X #[.int .i64 cx, .int .i64 cy, .slice ca cn cc] 37) := HX3.out.setRow _
          have HO9 : Hid (OwnT (W3x.setRow X #[.int .i64 cx, .int .i64 cy, .slice ca cn cc]) w.heap.size (.slice ca cn cc) rs' cl') := HOC.out.setRowT HX3.out _
          generalize (W3x.setRow X #[.int .i64 cx, .int .i64 cy, .slice ca cn cc]) = W9 at HI9 HX9 HO9 ⊢
          clear HI3x HX3 HOC hHeld
          refine hK.out _ _ HI9.out.row (fun hHeld => ?_)
          clear hK K
          simp only [Act.put]
          refine take_at 23 8 (.bool cg) rfl rfl (by kernel_rfl) (by kernel_rfl) (by kernel_rfl) (fun _ _ _ h => h) (Or.inl ⟨by kernel_rfl, fun w' hS' => by go_simp⟩) hHeld ?_
          (try simp only [Act.put, List.setIfInBounds_toArray])
          refine wpAnyH_done (by kernel_rfl) ?_ _
          refine NoPanic.normal ?_
          go_wp2_with fail
          go_meet
          exact ⟨X, cx, cy, ca, cn, cc, rs', cl', cg, rfl, rfl, HX9.out, hTX, HI9.out, HO9.out, HSC.out⟩
      case rest =>
        clear HI7
        obtain ⟨X, x', y', a', n', c', rs', l', b, rfl, rfl, hX, hTX, hI, hO', hS'⟩ := hcut
        have HX : Hid (RowAt wc X #[.int .i64 x', .int .i64 y', .slice a' n' c'] 37) := hX
        have HI : Hid (TInv B g T R C w a n c rs l (q + 1 + 1 + 1 + 1) wc) := hI
        have HO' : Hid (OwnT wc w.heap.size (.slice a' n' c') rs' l') := hO'
        have HSb : Hid (b = true → x' = R ∧ y' = C ∧ TabSm R C l') := hS'
        clear hX hI hO' hS'
        cases b
        · go_wp2_with fail
          go_roundw
          case rel => exact ⟨k - 1, a, n, c, rs, l, q + 1 + 1 + 1 + 1, congrArg (Value.int .i64) (by omega), by omega, HI.out.1, HI.out.2.1, HSm.out, HI.out.2.2.2.1, by omega, HI.out.2.2.1, HI.out.2.2.2.2.1, HI.out.2.2.2.2.2.1⟩
          case measure => simp [intOf]; omega
        · obtain ⟨rfl, rfl, hsm'⟩ := HSb.out rfl
          have HSm' : Hid (TabSm R C l') := hsm'
          have HTr : Hid (RowAt wc T #[.int .i64 R, .int .i64 C, .slice a n c] 37) := HI.out.1
          clear hsm' HSb
          go_wp2_with (first | (refine wpList_load_row rfl 37 (.tmp 7) rfl X rfl 37 #[.int .i64 R, .int .i64 C, .slice a' n' c'] (0, 0) _ HX.out Try.underlying37 rfl tab_info ?_) | (refine wpList_store_row rfl 37 (.tmp 3) (.tmp 53) rfl T #[.int .i64 R, .int .i64 C, .slice a' n' c'] rfl rfl 37 _ HTr.out tab_info rfl (cells3_one _ _ _ _ _) ?_))
          go_roundw
          case rel =>
            have bT : Below T wc (wc.setRow T #[.int .i64 R, .int .i64 C, .slice a' n' c']) := below_row (Below.refl _ _) (Nat.le_refl _) _
            exact ⟨k - 1, a', n', c', rs', l', q + 1 + 1 + 1 + 1, congrArg (Value.int .i64) (by omega), by omega, HTr.out.setRow _, HO'.out.setRowT HTr.out _, HSm'.out, HI.out.2.2.2.1.below bT (by omega), by omega, HI.out.2.2.1.setRowOther _ _ (by omega), HI.out.2.2.2.2.1.below (bT.mono (by omega)), Nat.lt_of_lt_of_le HI.out.2.2.2.2.2.1 bT.size⟩
          case measure => simp [intOf]; omega
end Go.Proofs.Ytcecmkideoodiaa
namespace Go.Proofs.Ytcecmkideoodiaa
open Go.RowKit

theorem flat_oneCell (l : List Sg) : ∀ u ∈ flat l, u.oneCell' = true := by
  intro u hu
  simp only [flat, List.mem_flatMap] at hu
  obtain ⟨s, _, hs⟩ := hu
  exact three_oneCell _ _ _ u hs

section
variable {P : Program}
/-- 'append(v, x...)', v not nil and owned, x owned (it may be nil). -/
theorem run_append_two (w : World) (t ty : TypeId) (base base' : Nat) (e : TypeId) (i : TypeInfo) (z : Value) (size bytes : Nat) (ht : P.underlying t = some (.slice e)) (hi : P.info? e = some i) (hz : i.zero = some z)
    (hsize : i.size = size) (hby : i.bytes = bytes) (hzs : z.cells.size = size) (hsz : 0 < size)
    (k n cap : Nat) (xs : List Value) (hown : w.ownsRow base e size (.slice (some ⟨k, 0, none⟩) n cap) n xs)
    (xa : Option Addr) (m c : Nat) (news : List Value) (hsrc : w.ownsRow base' e size (.slice xa m c) m news) (h1 : ∀ u ∈ news, u.oneCell' = true)
    (h63 : n + m ≤ maxLen) (hbytes : (n + m) * bytes ≤ 140737488355328) (hbase : base ≤ w.heap.size) :
    ∃ g cap' w', (Builtin.append_ #[t, t] ty #[.slice (some ⟨k, 0, none⟩) n cap, .slice xa m c]).run P w = .ok (.slice (some ⟨g, 0, none⟩) (n + m) cap') w' ∧
      w'.ownsRow base e size (.slice (some ⟨g, 0, none⟩) (n + m) cap') (n + m) (xs ++ news) ∧ w.grownBy w' (some k) := by
  rcases hsrc.2 with ⟨hv, h0⟩ | ⟨g', cap', cur, hv, r⟩
  · simp only [Value.slice.injEq] at hv
    obtain ⟨rfl, rfl, rfl⟩ := hv
    have hnil : news = [] := List.eq_nil_of_length_eq_zero (by simpa using hsrc.1)
    subst hnil
    refine ⟨k, cap, w, run_append_owned_none (P := P) w base t ty e i size ht hi _ n xs hown, by simpa using hown, ⟨rfl, rfl, rfl, Nat.le_refl _, fun _ _ _ => rfl⟩⟩
  · simp only [Value.slice.injEq, true_and] at hv
    obtain ⟨rfl, rfl⟩ := hv
    obtain ⟨v', w', hr, h2, h3, h4, _⟩ := run_append_own_at (P := P) w base t ty e i z size bytes ht hi hz hsize hby hzs hsz _ n xs hown ⟨g', 0, none⟩ m c news hsrc.1 (hsrc.cells (g := g') rfl) h1 h63 hbytes hbase
    rcases h2.2 with ⟨hnil, _⟩ | ⟨q, cq, cu, hq, _⟩
    · exact absurd (h4.1 hnil).1 (by simp)
    · subst hq
      exact ⟨q, cq, w', hr, h2, h3⟩

theorem step_append_two (w : World) {ops : Array Oper} {o : Oper} {a : Act} {K : Act → World → Prop} {Q : Exit → Act → World → Prop} {E : Prop} (hgd : o.guard = none) (s x : Operand) (t : TypeId)
    (ho : o.op = .call { callee := .builtin .append, args := #[s, x], argTypes := #[t, t] })
    (base base' : Nat) (e : TypeId) (i : TypeInfo) (z : Value) (size bytes : Nat) (ht : P.underlying t = some (.slice e)) (hi : P.info? e = some i) (hz : i.zero = some z)
    (hsize : i.size = size) (hby : i.bytes = bytes) (hzs : z.cells.size = size) (hsz : 0 < size)
    (k n cap : Nat) (xs : List Value) (hs : a.eval s = .slice (some ⟨k, 0, none⟩) n cap) (hown : w.ownsRow base e size (.slice (some ⟨k, 0, none⟩) n cap) n xs)
    (xa : Option Addr) (m c : Nat) (news : List Value) (hx : a.eval x = .slice xa m c) (hsrc : w.ownsRow base' e size (.slice xa m c) m news) (h1 : ∀ u ∈ news, u.oneCell' = true)
    (h63 : n + m ≤ maxLen) (hbytes : (n + m) * bytes ≤ 140737488355328) (hbase : base ≤ w.heap.size) (nm : Nat) (hnm : n + m = nm)
    (h : ∀ g cap' w', w'.ownsRow base e size (.slice (some ⟨g, 0, none⟩) nm cap') nm (xs ++ news) → w.grownBy w' (some k) → K (a.put o.dst (.slice (some ⟨g, 0, none⟩) nm cap')) w') :
    if Region.wanted o (yielded ops a.tmps) = true then Oper.wp P o a w K Q else E := by
  subst hnm
  have hw : Region.wanted o (yielded ops a.tmps) = true := by simp [Region.wanted, hgd]
  rw [if_pos hw]
  obtain ⟨g, cap', w', hr, h2, h3⟩ := run_append_two (P := P) w t o.type base base' e i z size bytes ht hi hz hsize hby hzs hsz k n cap xs hown xa m c news hsrc h1 h63 hbytes hbase
  unfold Oper.wp execOp
  simp only [ho, resolve, invoke, builtin, Sem.run_bind, Sem.run_pure, Result.andThen_ok, List.map_toArray, List.map_cons, List.map_nil, hs, hx, hr]
  exact h g cap' w' h2 h3
end

theorem Own.base {w : World} {B B' : Nat} {v : Value} {l : List Sg} (h : Own w B' v l) (hB : B ≤ B') : Own w B v l :=
  ⟨h.1, h.2.elim .inl (fun ⟨g, cap, cur, x, y, z⟩ => .inr ⟨g, cap, cur, x, Nat.le_trans hB y, z⟩)⟩
theorem heap_two_first (w : World) (o1 o2 : Obj) : ((w.alloc o1).alloc o2).heap[w.heap.size]? = some o1 := (Below.heap_alloc _ _ _ (by simp)).trans (heap_alloc_new w o1)
theorem heap_two_second (w : World) (o1 o2 : Obj) : ((w.alloc o1).alloc o2).heap[w.heap.size + 1]? = some o2 := by simpa using heap_alloc_new (w.alloc o1) o2
theorem own_empty_at {w : World} {C k : Nat} (hk : C ≤ k) (h : w.heap[k]? = some (.cells #[] 74 (0, 0))) : w.ownsRow C 74 3 (.slice (some ⟨k, 0, none⟩) 0 0) 0 [] :=
  ⟨rfl, .inr ⟨k, 0, #[], rfl, hk, h, Nat.le_refl _, Nat.zero_le _, rfl, rfl⟩⟩
theorem own_one_at {w : World} {C k : Nat} {s : Sg} (hk : C ≤ k) (h : w.heap[k]? = some (.cells #[.int .u8 s.1, .int .i64 s.2.1, .int .i64 s.2.2] 74 (0, 0))) : w.ownsRow C 74 3 (.slice (some ⟨k, 0, none⟩) 1 1) 1 (sgCells s) :=
  ⟨rfl, .inr ⟨k, 1, _, rfl, hk, h, Nat.le_refl _, by unfold maxLen; omega, rfl, rfl⟩⟩

def lenV : Value → Nat | .slice _ n _ => n | _ => 0

theorem five_cell (w1 w2 : World) (g : Nat) (hg : g < w1.heap.size) (h : (w1.alloc (.cells #[.int .u8 65, .int .u8 10, .int .u8 0, .int .u8 123, .int .u8 47] 5)).grownBy w2 (some g)) (x : Int) (h0 : 0 ≤ x) (h1 : x < 5) :
    ∃ z : Int, w2.cell? ⟨w1.heap.size, x.toNat, none⟩ = some (.int .u8 z) := by
  have e : ∀ o, w2.cell? ⟨w1.heap.size, o, none⟩ = (#[Value.int .u8 65, .int .u8 10, .int .u8 0, .int .u8 123, .int .u8 47])[o]? := fun o =>
    (grown_cell h (by simp) (by omega)).trans (cell_of_row _ _ _ _ _ _ (heap_alloc_new w1 _))
  rcases (show x = 0 ∨ x = 1 ∨ x = 2 ∨ x = 3 ∨ x = 4 from by omega) with rfl | rfl | rfl | rfl | rfl
  · exact ⟨65, e 0⟩
  · exact ⟨10, e 1⟩
  · exact ⟨0, e 2⟩
  · exact ⟨123, e 3⟩
  · exact ⟨47, e 4⟩
theorem two_cell (w1 w2 : World) (g : Nat) (hg : g < w1.heap.size) (h : (w1.alloc (.cells #[.int .i64 (-1), .int .i64 4] 3)).grownBy w2 (some g)) (x : Int) (h0 : 0 ≤ x) (h1 : x < 2) :
    ∃ z : Int, w2.cell? ⟨w1.heap.size, x.toNat, none⟩ = some (.int .i64 z) := by
  have e : ∀ o, w2.cell? ⟨w1.heap.size, o, none⟩ = (#[Value.int .i64 (-1), .int .i64 4])[o]? := fun o =>
    (grown_cell h (by simp) (by omega)).trans (cell_of_row _ _ _ _ _ _ (heap_alloc_new w1 _))
  rcases (show x = 0 ∨ x = 1 from by omega) with rfl | rfl
  · exact ⟨-1, e 0⟩
  · exact ⟨4, e 1⟩

set_option maxRecDepth 100000 in
set_option maxHeartbeats 4000000 in
theorem l71Bad_any (B g p C : Nat) (a : Option Addr) (n c : Nat) (l : List Sg) (w : World) (h : Rd B w g p) (hp : p ≤ 200000) (ho : Own w C (.slice a n c) l) (hgC : g < C) (hC : C ≤ w.heap.size) (hn : n ≤ 24) :
    Calls Try.prog 55 #[.pointer (some ⟨g, 0, none⟩), .slice a n c] w fun e w' => ∃ (v : Value) (l' : List Sg) (q : Nat), e = .returned v ∧ Own w' C v l' ∧ l'.length ≤ 25 ∧ Rd B w' g q ∧ q ≤ p + 40 ∧ Fr C g w w' := by
  have hlt := h.lt
  obtain ⟨i0, hi, hz0, hz1, hz2⟩ := info_parts Try.info74
  have HR : Hid (Rd B w g p) := h
  have HO : Hid (Own w C (.slice a n c) l) := ho
  have HL : Hid (n = l.length) := ho.len
  clear h ho
  go_enter Try.func55, Try.ntmps55
  go_wp2_with fail
  refine (pick_any B g p 6 _ (HR.out.alloc _) (by omega) (by omega) (by omega)).mono ?_
  rintro e w1 ⟨u, rfl, hu0, hu1, hr1, hg1⟩
  have z1 := hg1.size
  simp only [World.size_alloc] at z1
  have hf1 : Fr w.heap.size g w w1 := ((Fr.refl _ _ w).alloc (Nat.le_refl _) _).grown hg1 (by simp)
  have HE : Hid (w1.heap[w.heap.size]? = some (.cells #[.int .u8 120, .int .i64 0, .int .i64 0] 74 (0, 0))) := (hg1.block w.heap.size (by simp) (by simp; omega)).trans (heap_alloc_new w _)
  have HR1 : Hid (Rd B w1 g (p + 1)) := hr1
  clear hr1
  go_upto_block 0 with fail
  go_cut [1] (fun tv wx => tv = .slice a n c ∧ ∃ (s : Sg) (q : Nat), wx.heap[w.heap.size]? = some (.cells #[.int .u8 s.1, .int .i64 s.2.1, .int .i64 s.2.2] 74 (0, 0)) ∧ Rd B wx g q ∧ q ≤ p + 2 ∧ Fr w.heap.size g w wx ∧ w.heap.size < wx.heap.size)
  case first =>
    by_cases h0u : u = 0
    · subst h0u
      go_wp2_with fail
      refine (pick_any B g (p + 1) 5 _ (HR1.out.alloc _) (by omega) (by omega) (by omega)).mono ?_
      rintro e w2 ⟨y, rfl, hy0, hy1, hr2, hg2⟩
      obtain ⟨z, hz⟩ := five_cell w1 w2 g (by omega) hg2 y hy0 hy1
      have z2 := hg2.size
      simp only [World.size_alloc] at z2
      have e2 : w2.heap[w.heap.size]? = some (.cells #[.int .u8 120, .int .i64 0, .int .i64 0] 74 (0, 0)) := (hg2.block w.heap.size (by simp; omega) (by simp; omega)).trans ((Below.heap_alloc w1 _ w.heap.size (by omega)).trans HE.out)
      have HE2 : Hid (w2.heap[w.heap.size]? = some (.cells #[.int .u8 120, .int .i64 0, .int .i64 0] 74 (0, 0))) := e2
      obtain ⟨o0, d0⟩ : ∃ v, w2.cell? ⟨w.heap.size, 0, none⟩ = some v := ⟨_, cell_of_row w2 _ 0 _ _ _ e2⟩
      have f0 : w2.frozen? ⟨w.heap.size, 0, none⟩ = false := frozen_of_row w2 _ 0 _ _ e2
      clear e2
      have HR2 : Hid (Rd B w2 g (p + 2)) := hr2
      clear hr2
      go_wp2_with fail
      go_meet
      exact ⟨rfl, (z, 0, 0), p + 2, (heap_setCell_same w2 _ 0 _ _ _ HE2.out), HR2.out.setCell (by simp; omega) _, by omega, ((hf1.alloc (by omega) _).grown hg2 (by simp; omega)).setCell (by simp) _, by simp [World.setCell]; omega⟩
    · have g0 : (u == 0) = false := by simp; omega
      by_cases h1u : u = 1
      · subst h1u
        go_wp2_with fail
        refine (pick_any B g (p + 1) 2 _ (HR1.out.alloc _) (by omega) (by omega) (by omega)).mono ?_
        rintro e w2 ⟨y, rfl, hy0, hy1, hr2, hg2⟩
        obtain ⟨z, hz⟩ := two_cell w1 w2 g (by omega) hg2 y hy0 hy1
        have z2 := hg2.size
        simp only [World.size_alloc] at z2
        have e2 : w2.heap[w.heap.size]? = some (.cells #[.int .u8 120, .int .i64 0, .int .i64 0] 74 (0, 0)) := (hg2.block w.heap.size (by simp; omega) (by simp; omega)).trans ((Below.heap_alloc w1 _ w.heap.size (by omega)).trans HE.out)
        have HE2 : Hid (w2.heap[w.heap.size]? = some (.cells #[.int .u8 120, .int .i64 0, .int .i64 0] 74 (0, 0))) := e2
        obtain ⟨o0, d0⟩ : ∃ v, w2.cell? ⟨w.heap.size, 1, none⟩ = some v := ⟨_, cell_of_row w2 _ 1 _ _ _ e2⟩
        have f0 : w2.frozen? ⟨w.heap.size, 1, none⟩ = false := frozen_of_row w2 _ 1 _ _ e2
        clear e2
        have HR2 : Hid (Rd B w2 g (p + 2)) := hr2
        clear hr2
        go_wp2_with fail
        go_meet
        exact ⟨rfl, (120, z, 0), p + 2, (heap_setCell_same w2 _ 1 _ _ _ HE2.out), HR2.out.setCell (by simp; omega) _, by omega, ((hf1.alloc (by omega) _).grown hg2 (by simp; omega)).setCell (by simp) _, by simp [World.setCell]; omega⟩
      · have g1 : (u == 1) = false := by simp; omega
        by_cases h2u : u = 2
        · subst h2u
          go_wp2_with fail
          refine (pick_any B g (p + 1) 2 _ (HR1.out.alloc _) (by omega) (by omega) (by omega)).mono ?_
          rintro e w2 ⟨y, rfl, hy0, hy1, hr2, hg2⟩
          obtain ⟨z, hz⟩ := two_cell w1 w2 g (by omega) hg2 y hy0 hy1
          have z2 := hg2.size
          simp only [World.size_alloc] at z2
          have e2 : w2.heap[w.heap.size]? = some (.cells #[.int .u8 120, .int .i64 0, .int .i64 0] 74 (0, 0)) := (hg2.block w.heap.size (by simp; omega) (by simp; omega)).trans ((Below.heap_alloc w1 _ w.heap.size (by omega)).trans HE.out)
          have HE2 : Hid (w2.heap[w.heap.size]? = some (.cells #[.int .u8 120, .int .i64 0, .int .i64 0] 74 (0, 0))) := e2
          obtain ⟨o0, d0⟩ : ∃ v, w2.cell? ⟨w.heap.size, 2, none⟩ = some v := ⟨_, cell_of_row w2 _ 2 _ _ _ e2⟩
          have f0 : w2.frozen? ⟨w.heap.size, 2, none⟩ = false := frozen_of_row w2 _ 2 _ _ e2
          clear e2
          have HR2 : Hid (Rd B w2 g (p + 2)) := hr2
          clear hr2
          go_wp2_with fail
          go_meet
          exact ⟨rfl, (120, 0, z), p + 2, (heap_setCell_same w2 _ 2 _ _ _ HE2.out), HR2.out.setCell (by simp; omega) _, by omega, ((hf1.alloc (by omega) _).grown hg2 (by simp; omega)).setCell (by simp) _, by simp [World.setCell]; omega⟩
        · have g2 : (u == 2) = false := by simp; omega
          by_cases h3u : u = 3
          · subst h3u
            obtain ⟨o1, d1⟩ : ∃ v, w1.cell? ⟨w.heap.size, 1, none⟩ = some v := ⟨_, cell_of_row w1 _ 1 _ _ _ HE.out⟩
            obtain ⟨o2, d2⟩ : ∃ v, w1.cell? ⟨w.heap.size, 2, none⟩ = some v := ⟨_, cell_of_row w1 _ 2 _ _ _ HE.out⟩
            have f1 : w1.frozen? ⟨w.heap.size, 1, none⟩ = false := frozen_of_row w1 _ 1 _ _ HE.out
            have f2 : w1.frozen? ⟨w.heap.size, 2, none⟩ = false := frozen_of_row w1 _ 2 _ _ HE.out
            go_wp2_with fail
            go_meet
            exact ⟨rfl, (120, 2, 2), p + 1, heap_setCell_same _ _ 2 _ _ _ (heap_setCell_same w1 _ 1 _ _ _ HE.out), (HR1.out.setCell (by simp; omega) _).setCell (by simp; omega) _, by omega, (hf1.setCell (by simp) _).setCell (by simp) _, by simp [World.setCell]; omega⟩
          · have g3 : (u == 3) = false := by simp; omega
            by_cases h4u : u = 4
            · subst h4u
              go_wp2_with fail
              go_loopw [1] (fun v wr => ∃ (a : Option Addr) (m c : Nat) (l : List Sg) (q : Nat), v = .slice a m c ∧ m ≤ 25 ∧ Own wr C (.slice a m c) l ∧ (Value.slice a m c).ownBlock ≠ some w.heap.size ∧ wr.heap[w.heap.size]? = some (.cells #[.int .u8 120, .int .i64 0, .int .i64 0] 74 (0, 0)) ∧ Rd B wr g q ∧ q ≤ p + 1 + m ∧ Fr C g w wr ∧ w.heap.size < wr.heap.size) (fun v _ => 26 - lenV v)
              case atStart =>
                exact ⟨a, n, c, l, p + 1, rfl, by omega, HO.out.fr hf1 hgC, fun e => by have := (HO.out.row.lt _ e).2; omega, HE.out, HR1.out, by omega, hf1.mono hC, by omega⟩
              case round =>
                obtain ⟨a, m, c, l, q, rfl, hm, ho, hob, hbx, hr, hq, hf, hz⟩ := hrel
                have HOr : Hid (Own wr C (.slice a m c) l) := ho
                have HLr : Hid (m = l.length) := ho.len
                have HX : Hid (wr.heap[w.heap.size]? = some (.cells #[.int .u8 120, .int .i64 0, .int .i64 0] 74 (0, 0))) := hbx
                have HB : Hid ((Value.slice a m c).ownBlock ≠ some w.heap.size) := hob
                have HRr : Hid (Rd B wr g q) := hr
                have hcap := ho.txt.2.1
                have hcm := ho.txt.2.2.1
                unfold maxLen at hcm
                clear ho hob hbx hr
                go_wp2_with fail
                refine (pick_any B g q 2 _ HRr.out (by omega) (by omega) (by omega)).mono ?_
                rintro e w2 ⟨x, rfl, hx0, hx1, hr2, hg2⟩
                have z2 := hg2.size
                have hfr2 : Fr wr.heap.size g wr w2 := (Fr.refl _ _ wr).grown hg2 (Nat.le_refl _)
                have e2 : w2.heap[w.heap.size]? = some (.cells #[.int .u8 120, .int .i64 0, .int .i64 0] 74 (0, 0)) := (hg2.block w.heap.size hz (by simp; omega)).trans HX.out
                have HX2 : Hid (w2.heap[w.heap.size]? = some (.cells #[.int .u8 120, .int .i64 0, .int .i64 0] 74 (0, 0))) := e2
                have d0 : w2.cell? ⟨w.heap.size, 0, none⟩ = some (.int .u8 120) := by rw [cell_of_row w2 _ 0 _ _ _ e2]; rfl
                have d1 : w2.cell? ⟨w.heap.size, 1, none⟩ = some (.int .i64 0) := by rw [cell_of_row w2 _ 1 _ _ _ e2]; rfl
                have d2 : w2.cell? ⟨w.heap.size, 2, none⟩ = some (.int .i64 0) := by rw [cell_of_row w2 _ 2 _ _ _ e2]; rfl
                clear e2
                have HO2 : Hid (Own w2 C (.slice a m c) l) := HOr.out.fr hfr2 hgC
                have HR2 : Hid (Rd B w2 g (q + 1)) := hr2
                clear hr2
                by_cases hlt2 : (m : Int) < 24 + x
                · go_wp2_with (at_builtin; refine wpList_append_lies _ rfl (.tmp 45) (.tmp 47) 31 rfl C 74 i0 (.agg #[.int .u8 0, .int .i64 0, .int .i64 0]) 3 24 Try.underlying31 hi hz0 hz1 hz2 rfl (by omega) (.slice a m c) m (flat l) rfl (HO2.out.row.alloc _) ⟨w2.heap.size, 0, none⟩ 1 1 [.int .u8 120, .int .i64 0, .int .i64 0] rfl rfl (cell_three_new w2 _ _ _ _) (three_oneCell _ _ _) (by omega) (by unfold maxLen; omega) (by omega) (by simp; omega) (w2.heap.size + 1) (by simp) ?_; intro gg cc w3 hown3 hgrow hat hltg)
                  have hr3 : Rd B w3 g (q + 1) := (HR2.out.alloc _).grownAt hgrow (fun k hk => by have := (HO2.out.row.lt k hk).1; omega)
                  have hf3 : Fr C g w w3 := ((hf.trans (hfr2.mono (by omega))).alloc (by omega) _).grownAt hgrow (by simp; omega) (fun k hk => (HO2.out.row.lt k hk).1)
                  have ho3 : Own w3 C (.slice (some ⟨gg, 0, none⟩) (m + 1) cc) (l ++ [(120, 0, 0)]) := Own.snoc hown3 (by rw [HLr.out]) rfl
                  have hx3 : w3.heap[w.heap.size]? = some (.cells #[.int .u8 120, .int .i64 0, .int .i64 0] 74 (0, 0)) :=
                    (hgrow.block w.heap.size (by simp; omega) (fun e => HB.out e.symm)).trans ((Below.heap_alloc w2 _ w.heap.size (by omega)).trans HX2.out)
                  have hb3 : (Value.slice (some ⟨gg, 0, none⟩) (m + 1) cc).ownBlock ≠ some w.heap.size := by
                    intro e
                    simp only [Value.ownBlock, Option.some.injEq] at e
                    rcases hat with h | h
                    · exact HB.out (by rw [h, e])
                    · omega
                  have HH : Hid (Own w3 C (.slice (some ⟨gg, 0, none⟩) (m + 1) cc) (l ++ [(120, 0, 0)])) := ho3
                  have HB3 : Hid ((Value.slice (some ⟨gg, 0, none⟩) (m + 1) cc).ownBlock ≠ some w.heap.size) := hb3
                  have HX3 : Hid (w3.heap[w.heap.size]? = some (.cells #[.int .u8 120, .int .i64 0, .int .i64 0] 74 (0, 0))) := hx3
                  have hz3 : w.heap.size < w3.heap.size := by have := hgrow.size; simp only [World.size_alloc] at this; omega
                  clear hown3 hgrow hat ho3 hb3 hx3
                  go_wp2_with fail
                  go_roundw
                  case rel => exact ⟨some ⟨gg, 0, none⟩, m + 1, cc, l ++ [(120, 0, 0)], q + 1, rfl, by omega, HH.out, HB3.out, HX3.out, hr3, by omega, hf3, hz3⟩
                  case measure => simp [lenV]; omega
                · go_wp2_with fail
                  go_ret
                  exact ⟨_, l, q + 1, rfl, HO2.out, by rw [← HLr.out]; omega, HR2.out, by omega, hf.trans (hfr2.mono (by omega))⟩
            · have g4 : (u == 4) = false := by simp; omega
              go_wp2_with fail
              go_meet
              exact ⟨rfl, (120, 0, 0), p + 1, HE.out, HR1.out, by omega, hf1, by omega⟩
  case rest =>
    obtain ⟨rfl, s, q, hbx, hrx, hq, hfx, hzx⟩ := hcut
    have HOx : Hid (Own wc C (.slice a n c) l) := HO.out.fr hfx hgC
    have HRx : Hid (Rd B wc g q) := hrx
    have d0 : wc.cell? ⟨w.heap.size, 0, none⟩ = some (.int .u8 s.1) := by rw [cell_of_row wc _ 0 _ _ _ hbx]; rfl
    have d1 : wc.cell? ⟨w.heap.size, 1, none⟩ = some (.int .i64 s.2.1) := by rw [cell_of_row wc _ 1 _ _ _ hbx]; rfl
    have d2 : wc.cell? ⟨w.heap.size, 2, none⟩ = some (.int .i64 s.2.2) := by rw [cell_of_row wc _ 2 _ _ _ hbx]; rfl
    have hcap := HO.out.txt.2.1
    have hcm := HO.out.txt.2.2.1
    unfold maxLen at hcm
    clear hbx hrx hg1
    have tok : True := trivial
    go_wp2_with fail
    go_region_held3 (fun w' => w'.cell? ⟨w.heap.size, 0, none⟩ = some (.int .u8 s.1) ∧ w'.cell? ⟨w.heap.size, 1, none⟩ = some (.int .i64 s.2.1) ∧ w'.cell? ⟨w.heap.size, 2, none⟩ = some (.int .i64 s.2.2))
      (first
        | go_keep
        | (go_split_ands
           refine ⟨?_, ?_, ?_⟩
           · (rw [hgrow6.cell_far _ (by simp; omega) (by simp; omega)]; assumption)
           · (rw [hgrow6.cell_far _ (by simp; omega) (by simp; omega)]; assumption)
           · (rw [hgrow6.cell_far _ (by simp; omega) (by simp; omega)]; assumption))
        | (go_split_ands
           refine ⟨?_, ?_, ?_⟩
           · (rw [hgrow7.cell_far _ (by first | omega | (simp; omega)) (by simp; omega)]; assumption)
           · (rw [hgrow7.cell_far _ (by first | omega | (simp; omega)) (by simp; omega)]; assumption)
           · (rw [hgrow7.cell_far _ (by first | omega | (simp; omega)) (by simp; omega)]; assumption)))
      ((first
        | (have _t := tok; refine step_append_two _ (by rfl) (.tmp 50) (.tmp 51) _ (by rfl) wc.heap.size C 74 i0 _ 3 24 Try.underlying31 hi hz0 hz1 hz2 rfl (by omega) _ 0 0 [] (by rfl) (own_empty_at (by first | omega | (simp; done) | (simp; omega)) (by first | exact heap_alloc_new wc _ | exact heap_two_first wc _ _ | exact heap_two_second wc _ _)) a n c (flat l) (by rfl) (by first | exact (HOx.out.below ((Below.refl _ _).alloc (Nat.le_refl _) _)).row | exact (HOx.out.below (((Below.refl _ _).alloc (Nat.le_refl _) _).alloc (by simp) _)).row) (flat_oneCell l) (by unfold maxLen; omega) (by omega) (by first | (simp; done) | (simp; omega) | omega) n (Nat.zero_add n) ?_; intro g6 c6 w6 hown6 hgrow6; simp only [List.nil_append] at hown6; have hg6 := (hown6.lt g6 rfl).1; have hs6 := hgrow6.size; simp only [World.size_alloc, World.size_drew] at hs6; clear tok)
        | (have _t := hgrow6; refine step_append_two _ (by rfl) (.tmp 52) (.tmp 54) _ (by rfl) wc.heap.size C 74 i0 _ 3 24 Try.underlying31 hi hz0 hz1 hz2 rfl (by omega) g6 n c6 (flat l) (by rfl) (by first | exact hown6 | exact hown6.alloc _) _ 1 1 (sgCells s) (by rfl) (own_one_at (by first | omega | (simp; done) | (simp; omega)) (by first | exact heap_alloc_new w6 _ | exact (hgrow6.block (wc.heap.size + 1) (by first | (simp; done) | (simp; omega)) (by first | (simp; done) | (simp; omega))).trans (heap_two_second wc _ _) | exact (hgrow6.block wc.heap.size (by first | (simp; done) | (simp; omega)) (by first | (simp; done) | (simp; omega))).trans (heap_two_first wc _ _))) (three_oneCell _ _ _) (by unfold maxLen; omega) (by omega) (by first | omega | (simp; omega)) (n + 1) rfl ?_; intro g7 c7 w7 hown7 hgrow7)))
    all_goals
      have hb6 : Below wc.heap.size wc w6 := by
        first
          | exact ((Below.refl _ _).alloc (Nat.le_refl _) _).grown (grown_of_drew hgrow6) (by simp) (fun k hk => by simp at hk; omega)
          | exact (((Below.refl _ _).alloc (Nat.le_refl _) _).alloc (by simp) _).grown (grown_of_drew hgrow6) (by simp; omega) (fun k hk => by simp at hk; omega)
      have hb7 : Below wc.heap.size wc w7 := by
        first
          | exact hb6.grown hgrow7 hb6.size (fun k hk => by simp at hk; omega)
          | exact (hb6.alloc hb6.size _).grown hgrow7 (by have := hb6.size; simp; omega) (fun k hk => by simp at hk; omega)
      have ho7 : Own w7 C (.slice (some ⟨g7, 0, none⟩) (n + 1) c7) (l ++ [s]) :=
        Own.base (Own.snoc hown7 (by rw [← HL.out]) rfl) (by omega)
      have HO7 : Hid (Own w7 C (.slice (some ⟨g7, 0, none⟩) (n + 1) c7) (l ++ [s])) := ho7
      have hr7 : Rd B w7 g q := HRx.out.below hb7 HRx.out.lt
      have hf7 : Fr C g w w7 := (hfx.mono hC).below (hb7.mono (by omega))
      clear hown7 hgrow7 hown6 hgrow6 ho7
      go_wp2_with fail
      go_ret
      exact ⟨_, l ++ [s], q, rfl, HO7.out, by simp; rw [← HL.out]; omega, hr7, by omega, hf7⟩
end Go.Proofs.Ytcecmkideoodiaa
namespace Go.Proofs.Ytcecmkideoodiaa
open Go.RowKit

/-- What was there has not turned, but for g and for o. -/
structure Fo (g : Nat) (o : Option Nat) (w w' : World) : Prop where
  os : w'.os = w.os
  tape : w'.tape = w.tape
  output : w'.output = w.output
  size : w.heap.size ≤ w'.heap.size
  block : ∀ k, k < w.heap.size → k ≠ g → some k ≠ o → w'.heap[k]? = w.heap[k]?
theorem Fr.fo {g : Nat} {o : Option Nat} {w w' : World} (h : Fr w.heap.size g w w') : Fo g o w w' := ⟨h.os, h.tape, h.output, h.size, fun k hk hn _ => h.block k hk hn⟩
theorem Fo.trans {g : Nat} {o : Option Nat} {a b c : World} (h : Fo g o a b) (k : Fo g o b c) : Fo g o a c :=
  ⟨k.os.trans h.os, k.tape.trans h.tape, k.output.trans h.output, Nat.le_trans h.size k.size, fun i hi hn hm => (k.block i (Nat.lt_of_lt_of_le hi h.size) hn hm).trans (h.block i hi hn hm)⟩
theorem Fo.below {g : Nat} {o : Option Nat} {a b c : World} (h : Fo g o a b) (hb : Below b.heap.size b c) : Fo g o a c :=
  h.trans ((Fr.refl _ _ _).below hb).fo
theorem Fo.alloc {g : Nat} {o : Option Nat} {a b : World} (h : Fo g o a b) (x : Obj) : Fo g o a (b.alloc x) := h.below ((Below.refl _ _).alloc (Nat.le_refl _) x)
theorem Fo.grown {g : Nat} {o r : Option Nat} {a b c : World} (h : Fo g o a b) (hg : b.grownBy c r) (hr : ∀ k, k < b.heap.size → r = some k → a.heap.size ≤ k ∨ o = some k) : Fo g o a c :=
  ⟨hg.os.trans h.os, hg.tape.trans h.tape, hg.output.trans h.output, Nat.le_trans h.size hg.size, fun i hi hn hm => by
    have hib : i < b.heap.size := Nat.lt_of_lt_of_le hi h.size
    refine (hg.block i hib (fun e => ?_)).trans (h.block i hi hn hm)
    rcases hr i hib e.symm with q | q
    · omega
    · exact hm q.symm⟩
set_option maxRecDepth 100000 in
set_option maxHeartbeats 4000000 in
theorem l71Bad_fo (B g p C : Nat) (a : Option Addr) (n c : Nat) (l : List Sg) (w : World) (h : Rd B w g p) (hp : p ≤ 900000) (ho : Own w C (.slice a n c) l) (hgC : g < C) (hC : C ≤ w.heap.size) (hn : n ≤ 24) :
    Calls Try.prog 55 #[.pointer (some ⟨g, 0, none⟩), .slice a n c] w fun e w' => ∃ (v : Value) (l' : List Sg) (q : Nat), e = .returned v ∧ Own w' C v l' ∧ l'.length ≤ 25 ∧ Rd B w' g q ∧ q ≤ p + 40 ∧ Fo g (Value.slice a n c).ownBlock w w' ∧ (v.ownBlock = (Value.slice a n c).ownBlock ∨ ∀ b, v.ownBlock = some b → w.heap.size ≤ b) := by
  obtain ⟨o, HOo⟩ : ∃ o, Hid ((Value.slice a n c).ownBlock = o) := ⟨_, rfl⟩
  rw [HOo.out]
  have hlt := h.lt
  obtain ⟨i0, hi, hz0, hz1, hz2⟩ := info_parts Try.info74
  have HR : Hid (Rd B w g p) := h
  have HO : Hid (Own w C (.slice a n c) l) := ho
  have HL : Hid (n = l.length) := ho.len
  clear h ho
  go_enter Try.func55, Try.ntmps55
  go_wp2_with fail
  refine (pick_any B g p 6 _ (HR.out.alloc _) (by omega) (by omega) (by omega)).mono ?_
  rintro e w1 ⟨u, rfl, hu0, hu1, hr1, hg1⟩
  have z1 := hg1.size
  simp only [World.size_alloc] at z1
  have hf1 : Fr w.heap.size g w w1 := ((Fr.refl _ _ w).alloc (Nat.le_refl _) _).grown hg1 (by simp)
  have HE : Hid (w1.heap[w.heap.size]? = some (.cells #[.int .u8 120, .int .i64 0, .int .i64 0] 74 (0, 0))) := (hg1.block w.heap.size (by simp) (by simp; omega)).trans (heap_alloc_new w _)
  have HR1 : Hid (Rd B w1 g (p + 1)) := hr1
  clear hr1
  go_upto_block 0 with fail
  go_cut [1] (fun tv wx => tv = .slice a n c ∧ ∃ (s : Sg) (q : Nat), wx.heap[w.heap.size]? = some (.cells #[.int .u8 s.1, .int .i64 s.2.1, .int .i64 s.2.2] 74 (0, 0)) ∧ Rd B wx g q ∧ q ≤ p + 2 ∧ Fr w.heap.size g w wx ∧ w.heap.size < wx.heap.size)
  case first =>
    by_cases h0u : u = 0
    · subst h0u
      go_wp2_with fail
      refine (pick_any B g (p + 1) 5 _ (HR1.out.alloc _) (by omega) (by omega) (by omega)).mono ?_
      rintro e w2 ⟨y, rfl, hy0, hy1, hr2, hg2⟩
      obtain ⟨z, hz⟩ := five_cell w1 w2 g (by omega) hg2 y hy0 hy1
      have z2 := hg2.size
      simp only [World.size_alloc] at z2
      have e2 : w2.heap[w.heap.size]? = some (.cells #[.int .u8 120, .int .i64 0, .int .i64 0] 74 (0, 0)) := (hg2.block w.heap.size (by simp; omega) (by simp; omega)).trans ((Below.heap_alloc w1 _ w.heap.size (by omega)).trans HE.out)
      have HE2 : Hid (w2.heap[w.heap.size]? = some (.cells #[.int .u8 120, .int .i64 0, .int .i64 0] 74 (0, 0))) := e2
      obtain ⟨o0, d0⟩ : ∃ v, w2.cell? ⟨w.heap.size, 0, none⟩ = some v := ⟨_, cell_of_row w2 _ 0 _ _ _ e2⟩
      have f0 : w2.frozen? ⟨w.heap.size, 0, none⟩ = false := frozen_of_row w2 _ 0 _ _ e2
      clear e2
      have HR2 : Hid (Rd B w2 g (p + 2)) := hr2
      clear hr2
      go_wp2_with fail
      go_meet
      exact ⟨rfl, (z, 0, 0), p + 2, (heap_setCell_same w2 _ 0 _ _ _ HE2.out), HR2.out.setCell (by simp; omega) _, by omega, ((hf1.alloc (by omega) _).grown hg2 (by simp; omega)).setCell (by simp) _, by simp [World.setCell]; omega⟩
    · have g0 : (u == 0) = false := by simp; omega
      by_cases h1u : u = 1
      · subst h1u
        go_wp2_with fail
        refine (pick_any B g (p + 1) 2 _ (HR1.out.alloc _) (by omega) (by omega) (by omega)).mono ?_
        rintro e w2 ⟨y, rfl, hy0, hy1, hr2, hg2⟩
        obtain ⟨z, hz⟩ := two_cell w1 w2 g (by omega) hg2 y hy0 hy1
        have z2 := hg2.size
        simp only [World.size_alloc] at z2
        have e2 : w2.heap[w.heap.size]? = some (.cells #[.int .u8 120, .int .i64 0, .int .i64 0] 74 (0, 0)) := (hg2.block w.heap.size (by simp; omega) (by simp; omega)).trans ((Below.heap_alloc w1 _ w.heap.size (by omega)).trans HE.out)
        have HE2 : Hid (w2.heap[w.heap.size]? = some (.cells #[.int .u8 120, .int .i64 0, .int .i64 0] 74 (0, 0))) := e2
        obtain ⟨o0, d0⟩ : ∃ v, w2.cell? ⟨w.heap.size, 1, none⟩ = some v := ⟨_, cell_of_row w2 _ 1 _ _ _ e2⟩
        have f0 : w2.frozen? ⟨w.heap.size, 1, none⟩ = false := frozen_of_row w2 _ 1 _ _ e2
        clear e2
        have HR2 : Hid (Rd B w2 g (p + 2)) := hr2
        clear hr2
        go_wp2_with fail
        go_meet
        exact ⟨rfl, (120, z, 0), p + 2, (heap_setCell_same w2 _ 1 _ _ _ HE2.out), HR2.out.setCell (by simp; omega) _, by omega, ((hf1.alloc (by omega) _).grown hg2 (by simp; omega)).setCell (by simp) _, by simp [World.setCell]; omega⟩
      · have g1 : (u == 1) = false := by simp; omega
        by_cases h2u : u = 2
        · subst h2u
          go_wp2_with fail
          refine (pick_any B g (p + 1) 2 _ (HR1.out.alloc _) (by omega) (by omega) (by omega)).mono ?_
          rintro e w2 ⟨y, rfl, hy0, hy1, hr2, hg2⟩
          obtain ⟨z, hz⟩ := two_cell w1 w2 g (by omega) hg2 y hy0 hy1
          have z2 := hg2.size
          simp only [World.size_alloc] at z2
          have e2 : w2.heap[w.heap.size]? = some (.cells #[.int .u8 120, .int .i64 0, .int .i64 0] 74 (0, 0)) := (hg2.block w.heap.size (by simp; omega) (by simp; omega)).trans ((Below.heap_alloc w1 _ w.heap.size (by omega)).trans HE.out)
          have HE2 : Hid (w2.heap[w.heap.size]? = some (.cells #[.int .u8 120, .int .i64 0, .int .i64 0] 74 (0, 0))) := e2
          obtain ⟨o0, d0⟩ : ∃ v, w2.cell? ⟨w.heap.size, 2, none⟩ = some v := ⟨_, cell_of_row w2 _ 2 _ _ _ e2⟩
          have f0 : w2.frozen? ⟨w.heap.size, 2, none⟩ = false := frozen_of_row w2 _ 2 _ _ e2
          clear e2
          have HR2 : Hid (Rd B w2 g (p + 2)) := hr2
          clear hr2
          go_wp2_with fail
          go_meet
          exact ⟨rfl, (120, 0, z), p + 2, (heap_setCell_same w2 _ 2 _ _ _ HE2.out), HR2.out.setCell (by simp; omega) _, by omega, ((hf1.alloc (by omega) _).grown hg2 (by simp; omega)).setCell (by simp) _, by simp [World.setCell]; omega⟩
        · have g2 : (u == 2) = false := by simp; omega
          by_cases h3u : u = 3
          · subst h3u
            obtain ⟨o1, d1⟩ : ∃ v, w1.cell? ⟨w.heap.size, 1, none⟩ = some v := ⟨_, cell_of_row w1 _ 1 _ _ _ HE.out⟩
            obtain ⟨o2, d2⟩ : ∃ v, w1.cell? ⟨w.heap.size, 2, none⟩ = some v := ⟨_, cell_of_row w1 _ 2 _ _ _ HE.out⟩
            have f1 : w1.frozen? ⟨w.heap.size, 1, none⟩ = false := frozen_of_row w1 _ 1 _ _ HE.out
            have f2 : w1.frozen? ⟨w.heap.size, 2, none⟩ = false := frozen_of_row w1 _ 2 _ _ HE.out
            go_wp2_with fail
            go_meet
            exact ⟨rfl, (120, 2, 2), p + 1, heap_setCell_same _ _ 2 _ _ _ (heap_setCell_same w1 _ 1 _ _ _ HE.out), (HR1.out.setCell (by simp; omega) _).setCell (by simp; omega) _, by omega, (hf1.setCell (by simp) _).setCell (by simp) _, by simp [World.setCell]; omega⟩
          · have g3 : (u == 3) = false := by simp; omega
            by_cases h4u : u = 4
            · subst h4u
              go_wp2_with fail
              go_loopw [1] (fun v wr => ∃ (a : Option Addr) (m c : Nat) (l : List Sg) (q : Nat), v = .slice a m c ∧ m ≤ 25 ∧ Own wr C (.slice a m c) l ∧ (Value.slice a m c).ownBlock ≠ some w.heap.size ∧ wr.heap[w.heap.size]? = some (.cells #[.int .u8 120, .int .i64 0, .int .i64 0] 74 (0, 0)) ∧ Rd B wr g q ∧ q ≤ p + 1 + m ∧ Fo g o w wr ∧ ((Value.slice a m c).ownBlock = o ∨ ∀ b, (Value.slice a m c).ownBlock = some b → w.heap.size ≤ b) ∧ w.heap.size < wr.heap.size) (fun v _ => 26 - lenV v)
              case atStart =>
                exact ⟨a, n, c, l, p + 1, rfl, by omega, HO.out.fr hf1 hgC, fun e => by have := (HO.out.row.lt _ e).2; omega, HE.out, HR1.out, by omega, hf1.fo, .inl HOo.out, by omega⟩
              case round =>
                obtain ⟨a, m, c, l, q, rfl, hm, ho, hob, hbx, hr, hq, hf, hoo, hz⟩ := hrel
                have HOO : Hid ((Value.slice a m c).ownBlock = o ∨ ∀ b, (Value.slice a m c).ownBlock = some b → w.heap.size ≤ b) := hoo
                clear hoo
                have HOr : Hid (Own wr C (.slice a m c) l) := ho
                have HLr : Hid (m = l.length) := ho.len
                have HX : Hid (wr.heap[w.heap.size]? = some (.cells #[.int .u8 120, .int .i64 0, .int .i64 0] 74 (0, 0))) := hbx
                have HB : Hid ((Value.slice a m c).ownBlock ≠ some w.heap.size) := hob
                have HRr : Hid (Rd B wr g q) := hr
                have hcap := ho.txt.2.1
                have hcm := ho.txt.2.2.1
                unfold maxLen at hcm
                clear ho hob hbx hr
                go_wp2_with fail
                refine (pick_any B g q 2 _ HRr.out (by omega) (by omega) (by omega)).mono ?_
                rintro e w2 ⟨x, rfl, hx0, hx1, hr2, hg2⟩
                have z2 := hg2.size
                have hfr2 : Fr wr.heap.size g wr w2 := (Fr.refl _ _ wr).grown hg2 (Nat.le_refl _)
                have e2 : w2.heap[w.heap.size]? = some (.cells #[.int .u8 120, .int .i64 0, .int .i64 0] 74 (0, 0)) := (hg2.block w.heap.size hz (by simp; omega)).trans HX.out
                have HX2 : Hid (w2.heap[w.heap.size]? = some (.cells #[.int .u8 120, .int .i64 0, .int .i64 0] 74 (0, 0))) := e2
                have d0 : w2.cell? ⟨w.heap.size, 0, none⟩ = some (.int .u8 120) := by rw [cell_of_row w2 _ 0 _ _ _ e2]; rfl
                have d1 : w2.cell? ⟨w.heap.size, 1, none⟩ = some (.int .i64 0) := by rw [cell_of_row w2 _ 1 _ _ _ e2]; rfl
                have d2 : w2.cell? ⟨w.heap.size, 2, none⟩ = some (.int .i64 0) := by rw [cell_of_row w2 _ 2 _ _ _ e2]; rfl
                clear e2
                have HO2 : Hid (Own w2 C (.slice a m c) l) := HOr.out.fr hfr2 hgC
                have HR2 : Hid (Rd B w2 g (q + 1)) := hr2
                clear hr2
                by_cases hlt2 : (m : Int) < 24 + x
                · go_wp2_with (at_builtin; refine wpList_append_lies _ rfl (.tmp 45) (.tmp 47) 31 rfl C 74 i0 (.agg #[.int .u8 0, .int .i64 0, .int .i64 0]) 3 24 Try.underlying31 hi hz0 hz1 hz2 rfl (by omega) (.slice a m c) m (flat l) rfl (HO2.out.row.alloc _) ⟨w2.heap.size, 0, none⟩ 1 1 [.int .u8 120, .int .i64 0, .int .i64 0] rfl rfl (cell_three_new w2 _ _ _ _) (three_oneCell _ _ _) (by omega) (by unfold maxLen; omega) (by omega) (by simp; omega) (w2.heap.size + 1) (by simp) ?_; intro gg cc w3 hown3 hgrow hat hltg)
                  have hr3 : Rd B w3 g (q + 1) := (HR2.out.alloc _).grownAt hgrow (fun k hk => by have := (HO2.out.row.lt k hk).1; omega)
                  have hf3 : Fo g o w w3 := ((hf.trans hfr2.fo).alloc _).grown hgrow (fun k hk e => by
                    rcases HOO.out with h | h
                    · exact .inr (by rw [← h, e])
                    · exact .inl (h k e))
                  have hoo3 : (Value.slice (some ⟨gg, 0, none⟩) (m + 1) cc).ownBlock = o ∨ ∀ b, (Value.slice (some ⟨gg, 0, none⟩) (m + 1) cc).ownBlock = some b → w.heap.size ≤ b := by
                    rcases hat with h | h
                    · rcases HOO.out with h' | h'
                      · exact .inl (by rw [← h', h]; rfl)
                      · refine .inr fun b hb => ?_
                        simp only [Value.ownBlock, Option.some.injEq] at hb
                        exact h' b (by rw [h, hb])
                    · refine .inr fun b hb => ?_
                      simp only [Value.ownBlock, Option.some.injEq] at hb
                      omega
                  have HOO3 := (show Hid _ from hoo3)
                  clear hoo3
                  have ho3 : Own w3 C (.slice (some ⟨gg, 0, none⟩) (m + 1) cc) (l ++ [(120, 0, 0)]) := Own.snoc hown3 (by rw [HLr.out]) rfl
                  have hx3 : w3.heap[w.heap.size]? = some (.cells #[.int .u8 120, .int .i64 0, .int .i64 0] 74 (0, 0)) :=
                    (hgrow.block w.heap.size (by simp; omega) (fun e => HB.out e.symm)).trans ((Below.heap_alloc w2 _ w.heap.size (by omega)).trans HX2.out)
                  have hb3 : (Value.slice (some ⟨gg, 0, none⟩) (m + 1) cc).ownBlock ≠ some w.heap.size := by
                    intro e
                    simp only [Value.ownBlock, Option.some.injEq] at e
                    rcases hat with h | h
                    · exact HB.out (by rw [h, e])
                    · omega
                  have HH : Hid (Own w3 C (.slice (some ⟨gg, 0, none⟩) (m + 1) cc) (l ++ [(120, 0, 0)])) := ho3
                  have HB3 : Hid ((Value.slice (some ⟨gg, 0, none⟩) (m + 1) cc).ownBlock ≠ some w.heap.size) := hb3
                  have HX3 : Hid (w3.heap[w.heap.size]? = some (.cells #[.int .u8 120, .int .i64 0, .int .i64 0] 74 (0, 0))) := hx3
                  have hz3 : w.heap.size < w3.heap.size := by have := hgrow.size; simp only [World.size_alloc] at this; omega
                  clear hown3 hgrow hat ho3 hb3 hx3
                  go_wp2_with fail
                  go_roundw
                  case rel => exact ⟨some ⟨gg, 0, none⟩, m + 1, cc, l ++ [(120, 0, 0)], q + 1, rfl, by omega, HH.out, HB3.out, HX3.out, hr3, by omega, hf3, HOO3.out, hz3⟩
                  case measure => simp [lenV]; omega
                · go_wp2_with fail
                  go_ret
                  exact ⟨_, l, q + 1, rfl, HO2.out, by rw [← HLr.out]; omega, HR2.out, by omega, hf.trans hfr2.fo, HOO.out⟩
            · have g4 : (u == 4) = false := by simp; omega
              go_wp2_with fail
              go_meet
              exact ⟨rfl, (120, 0, 0), p + 1, HE.out, HR1.out, by omega, hf1, by omega⟩
  case rest =>
    obtain ⟨rfl, s, q, hbx, hrx, hq, hfx, hzx⟩ := hcut
    have HOx : Hid (Own wc C (.slice a n c) l) := HO.out.fr hfx hgC
    have HRx : Hid (Rd B wc g q) := hrx
    have d0 : wc.cell? ⟨w.heap.size, 0, none⟩ = some (.int .u8 s.1) := by rw [cell_of_row wc _ 0 _ _ _ hbx]; rfl
    have d1 : wc.cell? ⟨w.heap.size, 1, none⟩ = some (.int .i64 s.2.1) := by rw [cell_of_row wc _ 1 _ _ _ hbx]; rfl
    have d2 : wc.cell? ⟨w.heap.size, 2, none⟩ = some (.int .i64 s.2.2) := by rw [cell_of_row wc _ 2 _ _ _ hbx]; rfl
    have hcap := HO.out.txt.2.1
    have hcm := HO.out.txt.2.2.1
    unfold maxLen at hcm
    clear hbx hrx hg1
    have tok : True := trivial
    go_wp2_with fail
    go_region_held3 (fun w' => w'.cell? ⟨w.heap.size, 0, none⟩ = some (.int .u8 s.1) ∧ w'.cell? ⟨w.heap.size, 1, none⟩ = some (.int .i64 s.2.1) ∧ w'.cell? ⟨w.heap.size, 2, none⟩ = some (.int .i64 s.2.2))
      (first
        | go_keep
        | (go_split_ands
           refine ⟨?_, ?_, ?_⟩
           · (rw [hgrow6.cell_far _ (by simp; omega) (by simp; omega)]; assumption)
           · (rw [hgrow6.cell_far _ (by simp; omega) (by simp; omega)]; assumption)
           · (rw [hgrow6.cell_far _ (by simp; omega) (by simp; omega)]; assumption))
        | (go_split_ands
           refine ⟨?_, ?_, ?_⟩
           · (rw [hgrow7.cell_far _ (by first | omega | (simp; omega)) (by simp; omega)]; assumption)
           · (rw [hgrow7.cell_far _ (by first | omega | (simp; omega)) (by simp; omega)]; assumption)
           · (rw [hgrow7.cell_far _ (by first | omega | (simp; omega)) (by simp; omega)]; assumption)))
      ((first
        | (have _t := tok; refine step_append_two _ (by rfl) (.tmp 50) (.tmp 51) _ (by rfl) wc.heap.size C 74 i0 _ 3 24 Try.underlying31 hi hz0 hz1 hz2 rfl (by omega) _ 0 0 [] (by rfl) (own_empty_at (by first | omega | (simp; done) | (simp; omega)) (by first | exact heap_alloc_new wc _ | exact heap_two_first wc _ _ | exact heap_two_second wc _ _)) a n c (flat l) (by rfl) (by first | exact (HOx.out.below ((Below.refl _ _).alloc (Nat.le_refl _) _)).row | exact (HOx.out.below (((Below.refl _ _).alloc (Nat.le_refl _) _).alloc (by simp) _)).row) (flat_oneCell l) (by unfold maxLen; omega) (by omega) (by first | (simp; done) | (simp; omega) | omega) n (Nat.zero_add n) ?_; intro g6 c6 w6 hown6 hgrow6; simp only [List.nil_append] at hown6; have hg6 := (hown6.lt g6 rfl).1; have hs6 := hgrow6.size; simp only [World.size_alloc, World.size_drew] at hs6; clear tok)
        | (have _t := hgrow6; refine step_append_two _ (by rfl) (.tmp 52) (.tmp 54) _ (by rfl) wc.heap.size C 74 i0 _ 3 24 Try.underlying31 hi hz0 hz1 hz2 rfl (by omega) g6 n c6 (flat l) (by rfl) (by first | exact hown6 | exact hown6.alloc _) _ 1 1 (sgCells s) (by rfl) (own_one_at (by first | omega | (simp; done) | (simp; omega)) (by first | exact heap_alloc_new w6 _ | exact (hgrow6.block (wc.heap.size + 1) (by first | (simp; done) | (simp; omega)) (by first | (simp; done) | (simp; omega))).trans (heap_two_second wc _ _) | exact (hgrow6.block wc.heap.size (by first | (simp; done) | (simp; omega)) (by first | (simp; done) | (simp; omega))).trans (heap_two_first wc _ _))) (three_oneCell _ _ _) (by unfold maxLen; omega) (by omega) (by first | omega | (simp; omega)) (n + 1) rfl ?_; intro g7 c7 w7 hown7 hgrow7)))
    all_goals
      have hb6 : Below wc.heap.size wc w6 := by
        first
          | exact ((Below.refl _ _).alloc (Nat.le_refl _) _).grown (grown_of_drew hgrow6) (by simp) (fun k hk => by simp at hk; omega)
          | exact (((Below.refl _ _).alloc (Nat.le_refl _) _).alloc (by simp) _).grown (grown_of_drew hgrow6) (by simp; omega) (fun k hk => by simp at hk; omega)
      have hb7 : Below wc.heap.size wc w7 := by
        first
          | exact hb6.grown hgrow7 hb6.size (fun k hk => by simp at hk; omega)
          | exact (hb6.alloc hb6.size _).grown hgrow7 (by have := hb6.size; simp; omega) (fun k hk => by simp at hk; omega)
      have ho7 : Own w7 C (.slice (some ⟨g7, 0, none⟩) (n + 1) c7) (l ++ [s]) :=
        Own.base (Own.snoc hown7 (by rw [← HL.out]) rfl) (by omega)
      have HO7 : Hid (Own w7 C (.slice (some ⟨g7, 0, none⟩) (n + 1) c7) (l ++ [s])) := ho7
      have hr7 : Rd B w7 g q := HRx.out.below hb7 HRx.out.lt
      have hf7 : Fo g o w w7 := hfx.fo.below hb7
      have hoo7 : (Value.slice (some ⟨g7, 0, none⟩) (n + 1) c7).ownBlock = o ∨ ∀ b, (Value.slice (some ⟨g7, 0, none⟩) (n + 1) c7).ownBlock = some b → w.heap.size ≤ b := .inr fun b hb => by
        have := (hown7.lt b hb).1
        omega
      have HOO7 := (show Hid _ from hoo7)
      clear hoo7
      clear hown7 hgrow7 hown6 hgrow6 ho7
      go_wp2_with fail
      go_ret
      exact ⟨_, l ++ [s], q, rfl, HO7.out, by simp; rw [← HL.out]; omega, hr7, by omega, hf7, HOO7.out⟩
end Go.Proofs.Ytcecmkideoodiaa
namespace Go.Proofs.Ytcecmkideoodiaa
open Go.RowKit

/-- A table's cells, their texts their own, though two may share one. -/
def OwnX (w : World) (B : Nat) (v : Value) (rs : List Rw) (l : List Cl) : Prop := OwnR w B v rs ∧ rs.length = l.length ∧ ∀ k, k < rs.length → RwOwn w B (rs.getD k rw0) (l.getD k cl0)
theorem OwnT.x {w : World} {B : Nat} {v : Value} {rs : List Rw} {l : List Cl} (h : OwnT w B v rs l) : OwnX w B v rs l := ⟨h.1, h.2.1, h.2.2.1⟩
theorem OwnX.tab {w : World} {B : Nat} {a : Option Addr} {n cap : Nat} {rs : List Rw} {l : List Cl} (h : OwnX w B (.slice a n cap) rs l) : Tab w a n cap l := tab_of_rws h.1.rws ⟨h.2.1, fun k hk => (h.2.2 k hk).is⟩
theorem OwnX.setRowT {B X : Nat} {v : Value} {rs : List Rw} {l : List Cl} {old : Array Value} {w' : World} (h : OwnX w' B v rs l) (hX : RowAt w' X old 37) (cs : Array Value) : OwnX (w'.setRow X cs) B v rs l :=
  ⟨own_row h.1 X cs (rowAt_ne hX h.1 (by decide)), h.2.1, fun k hk => by
      obtain ⟨e1, e2, e3, e4, e5⟩ := h.2.2 k hk
      exact ⟨e1, e2, e3, e4, own_row e5 X cs (rowAt_ne hX e5 (by decide))⟩⟩
theorem OwnX.setT {B X : Nat} {v : Value} {rs : List Rw} {l : List Cl} {old : Array Value} {w' : World} (h : OwnX w' B v rs l) (hX : RowAt w' X old 37) (j : Nat) (u : Value) : OwnX (w'.setCell ⟨X, j, none⟩ u) B v rs l :=
  ⟨own_set h.1 _ _ (rowAt_ne hX h.1 (by decide)), h.2.1, fun k hk => by
      obtain ⟨e1, e2, e3, e4, e5⟩ := h.2.2 k hk
      exact ⟨e1, e2, e3, e4, own_set e5 _ _ (rowAt_ne hX e5 (by decide))⟩⟩
theorem OwnX.less {w : World} {B B' : Nat} {v : Value} {rs : List Rw} {l : List Cl} (h : OwnX w B' v rs l) (hB : B ≤ B') : OwnX w B v rs l :=
  ⟨own_less h.1 hB, h.2.1, fun k hk => by obtain ⟨h0, h1, h2, h3, h4⟩ := h.2.2 k hk; exact ⟨h0, h1, h2, h3, own_less h4 hB⟩⟩
theorem OwnX.fr {C g : Nat} {w w' : World} {v : Value} {rs : List Rw} {l : List Cl} (h : OwnX w C v rs l) (hf : Fr w.heap.size g w w') (hg : g < C) : OwnX w' C v rs l :=
  ⟨own_fr h.1 hf hg, h.2.1, fun k hk => by
    obtain ⟨h0, h1, h2, h3, h4⟩ := h.2.2 k hk
    exact ⟨h0, h1, h2, h3, own_fr h4 hf hg⟩⟩
theorem own_fo {w w' : World} {B e size n g : Nat} {o : Option Nat} {v : Value} {xs : List Value} (h : w.ownsRow B e size v n xs) (hf : Fo g o w w') (hg : g < B) (ho : ∀ b, v.ownBlock = some b → o ≠ some b) : w'.ownsRow B e size v n xs := by
  refine ⟨h.1, ?_⟩
  rcases h.2 with hn | ⟨q, cap, cur, rfl, hB, hqq, rest⟩
  · exact .inl hn
  · refine .inr ⟨q, cap, cur, rfl, hB, ?_, rest⟩
    rw [hf.block q (Array.getElem?_eq_some_iff.1 hqq).1 (by omega) (fun e => ho q rfl e.symm)]
    exact hqq
/-- A text of a row is written behind a call that may have written into the text that was there. -/
theorem OwnT.putBad {w w' : World} {B q n c g : Nat} {rs : List Rw} {l : List Cl} (h : OwnT w B (.slice (some ⟨q, 0, none⟩) n c) rs l) (i : Nat) (hi : i < rs.length) (hf : Fo g (rwT (rs.getD i rw0)).ownBlock w w') (hg : g < B) (pa : Option Addr) (pn pc : Nat) (tx : List Sg)
    (hO : Own w' B (.slice pa pn pc) tx) :
    OwnX (w'.setCell ⟨q, i * 5 + 4, none⟩ (.slice pa pn pc)) B (.slice (some ⟨q, 0, none⟩) n c) (rs.set i ((rs.getD i rw0).1, (rs.getD i rw0).2.1, (rs.getD i rw0).2.2.1, (rs.getD i rw0).2.2.2.1, pa, pn, pc)) (l.set i ((l.getD i cl0).1, (l.getD i cl0).2.1, (l.getD i cl0).2.2.1, (l.getD i cl0).2.2.2.1, tx)) := by
  have hl := h.2.1
  have hn := h.1.len
  have hR : OwnR w' B (.slice (some ⟨q, 0, none⟩) n c) rs := own_fo h.1 hf hg (fun b hb e => h.2.2.2.1 i hi b e hb)
  obtain ⟨p0, _⟩ := hR.row.stored (i * 5 + 4) (.slice pa pn pc)
  rw [flat5_put rs i 4 hi (by omega) _ ((rs.getD i rw0).1, (rs.getD i rw0).2.1, (rs.getD i rw0).2.2.1, (rs.getD i rw0).2.2.2.1, pa, pn, pc) rfl] at p0
  have hk0 : ∀ b, (Value.slice pa pn pc).ownBlock = some b → (Value.slice (some ⟨q, 0, none⟩) n c).ownBlock ≠ some b := own_kinds hR.row hO.row (by decide)
  have hO' : Own (w'.setCell ⟨q, i * 5 + 4, none⟩ (.slice pa pn pc)) B (.slice pa pn pc) tx := own_set hO _ _ (fun e => hk0 _ e rfl)
  refine ⟨?_, by simp [hl], fun k hk' => ?_⟩
  · unfold OwnR
    rw [List.length_set, ← hn]
    exact p0
  · simp only [List.length_set] at hk'
    by_cases hki : i = k
    · subst hki
      rw [getD_setE _ _ _ _ hi, getD_setE _ _ _ _ (by omega)]
      obtain ⟨h0, h1, h2, h3, _⟩ := h.2.2.1 i hk'
      exact ⟨h0, h1, h2, h3, hO'⟩
    · rw [getD_setN _ _ _ _ _ hki, getD_setN _ _ _ _ _ hki]
      obtain ⟨h0, h1, h2, h3, h4⟩ := h.2.2.1 k hk'
      have h5 : Own w' B (rwT (rs.getD k rw0)) (l.getD k cl0).2.2.2.2 := own_fo h4 hf hg (fun b hb e => by
        rcases Nat.lt_trichotomy i k with hlt | hlt | hlt
        · exact h.2.2.2.2 i k hlt hk' b e hb
        · exact hki hlt
        · exact h.2.2.2.2 k i hlt hi b hb e)
      exact ⟨h0, h1, h2, h3, own_set h5 _ _ (fun e => own_kinds hR.row h5 (by decide) q e rfl)⟩
theorem Fo.fr {g C : Nat} {o : Option Nat} {w w' : World} (h : Fo g o w w') (hC : C ≤ w.heap.size) (ho : ∀ b, o = some b → C ≤ b) : Fr C g w w' :=
  ⟨h.os, h.tape, h.output, h.size, fun k hk hn => h.block k (by omega) hn (fun e => by have := ho k e.symm; omega)⟩
/-- A drawn table, spoilt: few cells, short texts. -/
def TabSp (R C : Int) (l : List Cl) : Prop := (-2 ≤ R ∧ R ≤ 10) ∧ (-2 ≤ C ∧ C ≤ 10) ∧ l.length ≤ 26 ∧ ∀ x ∈ l, x.2.2.2.2.length ≤ 25
theorem TabSm.sp {R C : Nat} {l : List Cl} (h : TabSm R C l) : TabSp R C l := by
  obtain ⟨h1, h2, h3, h4⟩ := h
  exact ⟨by omega, by omega, by omega, fun x hx => by have := h4 x hx; omega⟩
theorem TabSp.set {R C : Int} {l : List Cl} (h : TabSp R C l) (i : Nat) (y : Cl) (hy : y.2.2.2.2.length ≤ 25) : TabSp R C (l.set i y) := by
  obtain ⟨h1, h2, h3, h4⟩ := h
  refine ⟨h1, h2, by simpa using h3, fun x hx => ?_⟩
  rcases List.mem_or_eq_of_mem_set hx with h | h
  · exact h4 x h
  · rw [h]; exact hy
theorem flat5_take (rs : List Rw) (k : Nat) : flat5 (rs.take k) = (flat5 rs).take (k * 5) := by
  induction k generalizing rs with
  | zero => simp [flat5]
  | succ k ih =>
    cases rs with
    | nil => simp [flat5]
    | cons x rs =>
      show rwCells x ++ flat5 (rs.take k) = (rwCells x ++ flat5 rs).take ((k + 1) * 5)
      rw [ih, show (k + 1) * 5 = (rwCells x).length + k * 5 from by simp [rwCells]; omega, List.take_length_add_append]
/-- The first rows of rows that are owned. -/
theorem OwnR.first {w : World} {B g n c : Nat} {rs : List Rw} (h : OwnR w B (.slice (some ⟨g, 0, none⟩) n c) rs) (k : Nat) (hk : k ≤ n) : w.ownsRow B 41 5 (.slice (some ⟨g, 0, none⟩) k c) k (flat5 (rs.take k)) := by
  have hr := h.row
  have hlen := h.len
  refine ⟨by rw [flat5_length, List.length_take]; omega, ?_⟩
  rcases hr.2 with ⟨hv, _⟩ | ⟨g', cap, cur, hv, hB, hg, hn, hm, hs, hp⟩
  · simp at hv
  · simp only [Value.slice.injEq, Option.some.injEq, Addr.mk.injEq, and_true, true_and] at hv
    obtain ⟨rfl, rfl⟩ := hv
    refine .inr ⟨g, c, cur, rfl, hB, hg, by omega, hm, hs, ?_⟩
    rw [flat5_take, ← hp, List.take_take, Nat.min_eq_left (by omega)]
theorem flat5_drop (rs : List Rw) (k : Nat) : flat5 (rs.drop k) = (flat5 rs).drop (k * 5) := by
  induction k generalizing rs with
  | zero => simp
  | succ k ih =>
    cases rs with
    | nil => simp [flat5]
    | cons x rs =>
      show flat5 (rs.drop k) = (rwCells x ++ flat5 rs).drop ((k + 1) * 5)
      rw [ih, show (k + 1) * 5 = (rwCells x).length + k * 5 from by simp [rwCells]; omega, List.drop_length_add_append]
theorem flat5_one (rs : List Rw) : ∀ u ∈ flat5 rs, u.oneCell' = true := by
  intro u hu
  simp only [flat5, List.mem_flatMap, rwCells] at hu
  obtain ⟨s, _, hs⟩ := hu
  simp at hs
  rcases hs with rfl | rfl | rfl | rfl | rfl <;> rfl
theorem getD_del {α : Type} (l : List α) (k j : Nat) (d : α) (hk : k < l.length) : (l.take k ++ l.drop (k + 1)).getD j d = l.getD (if j < k then j else j + 1) d := by
  simp only [List.getD_eq_getElem?_getD]
  congr 1
  by_cases h : j < k
  · rw [if_pos h, List.getElem?_append_left (by rw [List.length_take]; omega), List.getElem?_take, if_pos h]
  · rw [if_neg h, List.getElem?_append_right (by rw [List.length_take]; omega), List.length_take, Nat.min_eq_left (by omega), List.getElem?_drop]
    congr 1
    omega
theorem step_append_empty {P : Program} {w : World} {ops : Array Oper} {o : Oper} {a : Act} {K : Act → World → Prop} {Q : Exit → Act → World → Prop} {E : Prop} (hgd : o.guard = none) (s x : Operand) (t : TypeId)
    (ho : o.op = .call { callee := .builtin .append, args := #[s, x], argTypes := #[t, t] })
    (base : Nat) (e : TypeId) (i : TypeInfo) (size : Nat) (ht : P.underlying t = some (.slice e)) (hi : P.info? e = some i)
    (v : Value) (n : Nat) (xs : List Value) (hs : a.eval s = v) (hown : w.ownsRow base e size v n xs) (p : Option Addr) (c : Nat) (hx : a.eval x = .slice p 0 c)
    (d : Nat) (hd : o.dst = some d) (h : K (a.put (some d) v) w) : if Region.wanted o (yielded ops a.tmps) = true then Oper.wp P o a w K Q else E := by
  have hw : Region.wanted o (yielded ops a.tmps) = true := by simp [Region.wanted, hgd]
  have hrun := run_append_empty (P := P) (w := w) base t o.type e i size ht hi v n xs hown p c
  rw [if_pos hw]
  unfold Oper.wp
  rw [← hd] at h
  simp [execOp, ho, resolve, invoke, builtin, hs, hx, hrun, Result.andThen]
  exact h
theorem step_append_liesD {P : Program} (w : World) {ops : Array Oper} {o : Oper} {a : Act} {K : Act → World → Prop} {Q : Exit → Act → World → Prop} {E : Prop} (d : Nat) (hd : o.dst = some d) (hgd : o.guard = none) (s x : Operand) (t : TypeId)
    (ho : o.op = .call { callee := .builtin .append, args := #[s, x], argTypes := #[t, t] })
    (base : Nat) (e : TypeId) (i : TypeInfo) (z : Value) (size bytes : Nat) (ht : P.underlying t = some (.slice e)) (hi : P.info? e = some i) (hz : i.zero = some z)
    (hsize : i.size = size) (hby : i.bytes = bytes) (hzs : z.cells.size = size) (hsz : 0 < size)
    (v : Value) (n : Nat) (xs : List Value) (hs : a.eval s = v) (hown : w.ownsRow base e size v n xs)
    (ad : Addr) (m c : Nat) (news : List Value) (hx : a.eval x = .slice (some ad) m c) (hl : news.length = m * size) (hnews : ∀ j u, news[j]? = some u → w.cell? (ad.add j) = some u) (h1 : ∀ u ∈ news, u.oneCell' = true)
    (hm : 0 < m) (h63 : n + m ≤ maxLen) (hbytes : (n + m) * bytes ≤ 140737488355328) (hbase : base ≤ w.heap.size) (H : Nat) (hH : w.heap.size = H)
    (h : ∀ g cap w', w'.ownsRow base e size (.slice (some ⟨g, 0, none⟩) (n + m) cap) (n + m) (xs ++ news) → w.grownBy w' v.ownBlock → (v.ownBlock = some g ∨ g = H) → g < w'.heap.size → K (a.put (some d) (.slice (some ⟨g, 0, none⟩) (n + m) cap)) w') :
    if Region.wanted o (yielded ops a.tmps) = true then Oper.wp P o a w K Q else E :=
  step_append_lies w hgd s x t ho base e i z size bytes ht hi hz hsize hby hzs hsz v n xs hs hown ad m c news hx hl hnews h1 hm h63 hbytes hbase H hH (fun g cap w' q1 q2 q3 q4 => by rw [hd]; exact h g cap w' q1 q2 q3 q4)
/-- A row less. -/
theorem OwnX.del {w : World} {B : Nat} {v : Value} {rs : List Rw} {l : List Cl} (h : rs.length = l.length) (hr : ∀ k, k < rs.length → RwOwn w B (rs.getD k rw0) (l.getD k cl0)) (k : Nat) (hk : k < rs.length) (ho : OwnR w B v (rs.take k ++ rs.drop (k + 1))) : OwnX w B v (rs.take k ++ rs.drop (k + 1)) (l.take k ++ l.drop (k + 1)) := by
  refine ⟨ho, by simp; omega, fun j hj => ?_⟩
  have hj' : j < rs.length - 1 := by simp at hj; omega
  rw [getD_del rs k j rw0 hk, getD_del l k j cl0 (by omega)]
  by_cases h1 : j < k
  · rw [if_pos h1]
    exact hr j (by omega)
  · rw [if_neg h1]
    exact hr (j + 1) (by omega)
theorem TabSp.del {R C : Int} {l : List Cl} (h : TabSp R C l) (k : Nat) : TabSp R C (l.take k ++ l.drop (k + 1)) := by
  obtain ⟨h1, h2, h3, h4⟩ := h
  refine ⟨h1, h2, by simp; omega, fun x hx => ?_⟩
  rcases List.mem_append.1 hx with q | q
  · exact h4 x (List.mem_of_mem_take q)
  · exact h4 x (List.mem_of_mem_drop q)
end Go.Proofs.Ytcecmkideoodiaa
namespace Go.Proofs.Ytcecmkideoodiaa
open Go.RowKit

/-- A block whose text and whose table's cells are owned, told of nothing else. -/
def BlX (w : World) (B : Nat) (x : Rb) (y : Bl) : Prop :=
  (x.1 = y.1 ∧ x.2.1 = y.2.1 ∧ x.2.2.2.1 = y.2.2.2.1 ∧ x.2.2.2.2.1 = y.2.2.2.2.1) ∧ Own w B (sl3V x.2.2.1) y.2.2.1 ∧ ∃ rs, OwnT w B (sl3V x.2.2.2.2.2) rs y.2.2.2.2.2
/-- A document's blocks, in a row that is owned. -/
def DocX (w : World) (B : Nat) (v : Value) (rbs : List Rb) (d : List Bl) : Prop :=
  w.ownsRow B 39 6 v rbs.length (flat6 rbs) ∧ rbs.length = d.length ∧ ∀ k, k < d.length → BlX w B (rbs.getD k rb0) (d.getD k bl0)
theorem BlOwn.x {w : World} {B lo mid hi : Nat} {x : Rb} {y : Bl} (h : BlOwn w lo mid hi x y) (hB : B ≤ lo) : BlX w B x y := by
  obtain ⟨h0, h1, h2, ⟨rs, h3, h4, h5⟩, h6, h7⟩ := h
  exact ⟨h0, own_less h1 hB, rs, h3.less (by omega)⟩
theorem DocOwn.x {w : World} {B E : Nat} {v : Value} {rbs : List Rb} {d : List Bl} (h : DocOwn w B E v rbs d) : DocX w B v rbs d := by
  obtain ⟨h0, -, h2, lo, mid, hi, h3, -⟩ := h
  exact ⟨h0, h2, fun k hk => (h3 k hk).2.2.x (h3 k hk).1⟩
theorem BlX.at {w : World} {B : Nat} {x : Rb} {y : Bl} (h : BlX w B x y) {b o : Nat} (hc : ∀ j, j < 6 → w.cell? ⟨b, o + j, none⟩ = (rbCells x)[j]?) : BlockIs w b o y x.2.2.1.1 x.2.2.1.2.1 x.2.2.1.2.2 x.2.2.2.2.2.1 x.2.2.2.2.2.2.1 x.2.2.2.2.2.2.2 := by
  obtain ⟨⟨h0, h1, h2, h3⟩, h4, ⟨rs, h5⟩⟩ := h
  refine ⟨?_, ?_, ?_, ?_, ?_, ?_, ?_, ?_⟩
  · have := hc 0 (by omega); rw [Nat.add_zero] at this; rw [this, ← h0]; rfl
  · have := hc 1 (by omega); rw [this, ← h1]; rfl
  · have := hc 2 (by omega); rw [this]; rfl
  · have := hc 3 (by omega); rw [this, ← h2]; rfl
  · have := hc 4 (by omega); rw [this, ← h3]; rfl
  · have := hc 5 (by omega); rw [this]; rfl
  · exact Own.txt h4
  · exact OwnT.tab h5
theorem DocX.len {w : World} {B : Nat} {a : Option Addr} {n c : Nat} {rbs : List Rb} {d : List Bl} (h : DocX w B (.slice a n c) rbs d) : n = d.length := by
  obtain ⟨h0, h2, -⟩ := h
  rcases h0.2 with ⟨hv, hz⟩ | ⟨g, cap, cur, hv, r⟩
  · simp only [Value.slice.injEq] at hv; omega
  · simp only [Value.slice.injEq] at hv; omega
theorem DocX.shape {w : World} {B : Nat} {v : Value} {rbs : List Rb} {d : List Bl} (h : DocX w B v rbs d) : ∃ a c, v = .slice a d.length c := by
  obtain ⟨h0, h2, -⟩ := h
  rw [← h2]
  rcases h0.2 with ⟨rfl, hz⟩ | ⟨g, cap, cur, rfl, r⟩
  · exact ⟨none, 0, by rw [hz]⟩
  · exact ⟨_, _, rfl⟩
theorem DocX.dc {w : World} {B : Nat} {a : Option Addr} {n c : Nat} {rbs : List Rb} {d : List Bl} (h : DocX w B (.slice a n c) rbs d) : Dc w a n c d := by
  have hn := h.len
  obtain ⟨h0, h2, h3⟩ := h
  have h0' := h0
  rcases h0.2 with ⟨hv, hz⟩ | ⟨g, cap, cur, hv, hg, hgg, hr1, hr2, hr3, hr4⟩
  · cases hv
    exact ⟨hn, Nat.le_refl _, by unfold maxLen; omega, .inl (List.eq_nil_of_length_eq_zero (by omega))⟩
  · simp only [Value.slice.injEq] at hv
    obtain ⟨rfl, h6, rfl⟩ := hv
    refine ⟨hn, by omega, hr2, .inr ⟨g, 0, rfl, (Array.getElem?_eq_some_iff.1 hgg).1, fun k hk => ?_⟩⟩
    refine ⟨_, _, _, _, _, _, (h3 k hk).at (fun j hj => ?_)⟩
    rw [h6] at h0'
    have hc := h0'.cellAt (k * 6 + j) (by omega)
    rw [Nat.zero_add, hc]
    exact flat6_get rbs k (by omega) j hj
theorem BlX.below {w w' : World} {B : Nat} {x : Rb} {y : Bl} (h : BlX w B x y) (hb : Below w.heap.size w w') : BlX w' B x y :=
  ⟨h.1, own_below h.2.1 hb, h.2.2.elim fun rs hr => ⟨rs, hr.below hb⟩⟩
theorem DocX.below {w w' : World} {B : Nat} {v : Value} {rbs : List Rb} {d : List Bl} (h : DocX w B v rbs d) (hb : Below w.heap.size w w') : DocX w' B v rbs d :=
  ⟨own_below h.1 hb, h.2.1, fun k hk => (h.2.2 k hk).below hb⟩
theorem DocX.alloc {w : World} {B : Nat} {v : Value} {rbs : List Rb} {d : List Bl} (h : DocX w B v rbs d) (o : Obj) : DocX (w.alloc o) B v rbs d := h.below ((Below.refl _ _).alloc (Nat.le_refl _) _)
theorem BlX.fr {w w' : World} {B g : Nat} {x : Rb} {y : Bl} (h : BlX w B x y) (hf : Fr w.heap.size g w w') (hg : g < B) : BlX w' B x y :=
  ⟨h.1, own_fr h.2.1 hf hg, h.2.2.elim fun rs hr => ⟨rs, hr.fr hf hg⟩⟩
theorem DocX.fr {w w' : World} {B g : Nat} {v : Value} {rbs : List Rb} {d : List Bl} (h : DocX w B v rbs d) (hf : Fr w.heap.size g w w') (hg : g < B) : DocX w' B v rbs d :=
  ⟨own_fr h.1 hf hg, h.2.1, fun k hk => (h.2.2 k hk).fr hf hg⟩
theorem BlX.less {w : World} {B B' : Nat} {x : Rb} {y : Bl} (h : BlX w B' x y) (hB : B ≤ B') : BlX w B x y :=
  ⟨h.1, own_less h.2.1 hB, h.2.2.elim fun rs hr => ⟨rs, hr.less hB⟩⟩
theorem DocX.less {w : World} {B B' : Nat} {v : Value} {rbs : List Rb} {d : List Bl} (h : DocX w B' v rbs d) (hB : B ≤ B') : DocX w B v rbs d :=
  ⟨own_less h.1 hB, h.2.1, fun k hk => (h.2.2 k hk).less hB⟩
theorem BlX.kept {w w' : World} {B : Nat} {x : Rb} {y : Bl} (h : BlX w B x y) (hk : Kept B w.heap.size w w') : BlX w' B x y :=
  ⟨h.1, own_kept h.2.1 (by decide) (fun g hg => (own_lt h.2.1 hg).2) hk, h.2.2.elim fun rs hr => ⟨rs, ownT_kept hr (fun g hg => (own_lt hr.1 hg).2) (fun k hk' g hg => (own_lt (hr.2.2.1 k hk').2.2.2.2 hg).2) hk⟩⟩
theorem DocX.nil (w : World) (B : Nat) : DocX w B (.slice none 0 0) [] [] := ⟨World.ownsRow_nil _ _ _ _, rfl, fun k hk => absurd hk (by simp)⟩
/-- One block of a row is another one. -/
theorem docX_set {w w' : World} {B : Nat} {v : Value} {rbs : List Rb} {d : List Bl} (h : DocX w B v rbs d) (hk : Kept B w.heap.size w w') (m : Nat) (x : Rb) (y : Bl) (hrow : w'.ownsRow B 39 6 v (rbs.set m x).length (flat6 (rbs.set m x))) (hxy : BlX w' B x y) : DocX w' B v (rbs.set m x) (d.set m y) := by
  obtain ⟨-, h2, h3⟩ := h
  refine ⟨hrow, by simp [h2], fun k hk' => ?_⟩
  simp only [List.length_set] at hk'
  by_cases e : m = k
  · subst e
    rw [rb_getD_set_self (by omega), bl_getD_set_self hk']
    exact hxy
  · rw [rb_getD_set_other e, bl_getD_set_other e]
    exact (h3 k hk').kept hk
theorem bl_getD_app_l {d : List Bl} {y : Bl} {k : Nat} (h : k < d.length) : (d ++ [y]).getD k bl0 = d.getD k bl0 := by simp [List.getD, List.getElem?_append_left h]
theorem bl_getD_app_r {d : List Bl} {y : Bl} : (d ++ [y]).getD d.length bl0 = y := by simp [List.getD]
theorem rb_getD_app_l {d : List Rb} {y : Rb} {k : Nat} (h : k < d.length) : (d ++ [y]).getD k rb0 = d.getD k rb0 := by simp [List.getD, List.getElem?_append_left h]
theorem rb_getD_app_r {d : List Rb} {y : Rb} : (d ++ [y]).getD d.length rb0 = y := by simp [List.getD]
/-- A block more. -/
theorem docX_snoc {B : Nat} {u3 u4 : World} {v v' : Value} {rbs : List Rb} {d : List Bl} {x : Rb} {y : Bl} {n : Nat} (h : DocX u3 B v rbs d) (hn : n = d.length) (hx : BlX u3 B x y)
    (hown : u4.ownsRow B 39 6 v' (n + 1) (flat6 rbs ++ rbCells x)) (hgrow : u3.grownBy u4 v.ownBlock) : DocX u4 B v' (rbs ++ [x]) (d ++ [y]) := by
  have hk : Kept B u3.heap.size u3 u4 := kept_grown (own_rowAts h.1) hgrow _ _
  have hl := h.2.1
  refine ⟨?_, by simp [hl], fun k hk' => ?_⟩
  · rw [List.length_append, flat6_append, List.length_singleton, hl, ← hn]
    have e : flat6 [x] = rbCells x := by simp [flat6]
    rw [e]
    exact hown
  · by_cases e : k < d.length
    · rw [bl_getD_app_l e, rb_getD_app_l (by omega)]
      exact (h.2.2 k e).kept hk
    · have e : k = d.length := by simp at hk'; omega
      subst e
      rw [bl_getD_app_r, ← hl, rb_getD_app_r]
      exact hx.kept hk
theorem docX_kind {w : World} {B g n c : Nat} {rbs : List Rb} {d : List Bl} (h : DocX w B (.slice (some ⟨g, 0, none⟩) n c) rbs d) (m : Nat) (hm : m < d.length) (k : Int) : DocX (w.setCell ⟨g, m * 6, none⟩ (.int .i64 k)) B (.slice (some ⟨g, 0, none⟩) n c) (rbs.set m (k, (rbs.getD m rb0).2)) (d.set m (k, (d.getD m bl0).2)) := by
  obtain ⟨cur, hcur⟩ := own_rowAt h.1
  have hl := h.2.1
  have hk := kept_set hcur B w.heap.size (m * 6) (.int .i64 k)
  have hb := (h.2.2 m hm).kept hk
  refine docX_set h hk m _ _ ?_ ⟨⟨rfl, hb.1.2⟩, hb.2⟩
  have := rows_set h.1 m 0 (by omega) (by omega) (.int .i64 k) (k, (rbs.getD m rb0).2) rfl
  rwa [Nat.add_zero] at this
theorem docX_level {w : World} {B g n c : Nat} {rbs : List Rb} {d : List Bl} (h : DocX w B (.slice (some ⟨g, 0, none⟩) n c) rbs d) (m : Nat) (hm : m < d.length) (v : Int) : DocX (w.setCell ⟨g, m * 6 + 1, none⟩ (.int .i64 v)) B (.slice (some ⟨g, 0, none⟩) n c) (rbs.set m ((rbs.getD m rb0).1, v, (rbs.getD m rb0).2.2)) (d.set m ((d.getD m bl0).1, v, (d.getD m bl0).2.2)) := by
  obtain ⟨cur, hcur⟩ := own_rowAt h.1
  have hl := h.2.1
  have hk := kept_set hcur B w.heap.size (m * 6 + 1) (.int .i64 v)
  have hb := (h.2.2 m hm).kept hk
  exact docX_set h hk m _ _ (rows_set h.1 m 1 (by omega) (by omega) (.int .i64 v) _ rfl) ⟨⟨hb.1.1, rfl, hb.1.2.2⟩, hb.2⟩
/-- A text that is owned is written into a block. -/
theorem docX_text {w : World} {B g n c : Nat} {rbs : List Rb} {d : List Bl} (h : DocX w B (.slice (some ⟨g, 0, none⟩) n c) rbs d) (m : Nat) (hm : m < d.length) (s : Sl3) (t : List Sg) (ht : Own w B (sl3V s) t) : DocX (w.setCell ⟨g, m * 6 + 2, none⟩ (sl3V s)) B (.slice (some ⟨g, 0, none⟩) n c) (rbs.set m ((rbs.getD m rb0).1, (rbs.getD m rb0).2.1, s, (rbs.getD m rb0).2.2.2)) (d.set m ((d.getD m bl0).1, (d.getD m bl0).2.1, t, (d.getD m bl0).2.2.2)) := by
  obtain ⟨cur, hcur⟩ := own_rowAt h.1
  have hl := h.2.1
  have hk := kept_set hcur B w.heap.size (m * 6 + 2) (sl3V s)
  have hb := (h.2.2 m hm).kept hk
  exact docX_set h hk m _ _ (rows_set h.1 m 2 (by omega) (by omega) (sl3V s) _ rfl) ⟨hb.1, own_kept ht (by decide) (fun g hg => (own_lt ht hg).2) hk, hb.2.2⟩
/-- A table that is owned is written into a block. -/
theorem docX_table {w : World} {B g n c : Nat} {rbs : List Rb} {d : List Bl} (h : DocX w B (.slice (some ⟨g, 0, none⟩) n c) rbs d) (m : Nat) (hm : m < d.length) (R C : Int) (s : Sl3) (rs : List Rw) (l : List Cl) (ht : OwnT w B (sl3V s) rs l) : DocX (w.setCells g (m * 6 + 3) [.int .i64 R, .int .i64 C, sl3V s]) B (.slice (some ⟨g, 0, none⟩) n c) (rbs.set m ((rbs.getD m rb0).1, (rbs.getD m rb0).2.1, (rbs.getD m rb0).2.2.1, R, C, s)) (d.set m ((d.getD m bl0).1, (d.getD m bl0).2.1, (d.getD m bl0).2.2.1, R, C, l)) := by
  show DocX (((w.setCell ⟨g, m * 6 + 3, none⟩ (.int .i64 R)).setCell ⟨g, m * 6 + 4, none⟩ (.int .i64 C)).setCell ⟨g, m * 6 + 5, none⟩ (sl3V s)) _ _ _ _
  have hl := h.2.1
  have r1 := rows_set h.1 m 3 (by omega) (by omega) (.int .i64 R) ((rbs.getD m rb0).1, (rbs.getD m rb0).2.1, (rbs.getD m rb0).2.2.1, R, (rbs.getD m rb0).2.2.2.2) rfl
  have r2 := rows_set r1 m 4 (by simp; omega) (by omega) (.int .i64 C) ((rbs.getD m rb0).1, (rbs.getD m rb0).2.1, (rbs.getD m rb0).2.2.1, R, C, (rbs.getD m rb0).2.2.2.2.2) (by rw [rb_getD_set_self (by omega)]; rfl)
  rw [List.set_set] at r2
  have r3 := rows_set r2 m 5 (by simp; omega) (by omega) (sl3V s) ((rbs.getD m rb0).1, (rbs.getD m rb0).2.1, (rbs.getD m rb0).2.2.1, R, C, s) (by rw [rb_getD_set_self (by omega)]; rfl)
  rw [List.set_set] at r3
  obtain ⟨c0, hc0⟩ := own_rowAt h.1
  obtain ⟨c1, hc1⟩ := own_rowAt r1
  obtain ⟨c2, hc2⟩ := own_rowAt r2
  have hk : Kept B w.heap.size w (((w.setCell ⟨g, m * 6 + 3, none⟩ (.int .i64 R)).setCell ⟨g, m * 6 + 4, none⟩ (.int .i64 C)).setCell ⟨g, m * 6 + 5, none⟩ (sl3V s)) := ((kept_set hc0 B w.heap.size (m * 6 + 3) (.int .i64 R)).trans (kept_set hc1 B w.heap.size (m * 6 + 4) (.int .i64 C))).trans (kept_set hc2 B w.heap.size (m * 6 + 5) (sl3V s))
  have hb := (h.2.2 m hm).kept hk
  exact docX_set h hk m _ _ r3 ⟨⟨hb.1.1, hb.1.2.1, rfl, rfl⟩, hb.2.1, rs, ownT_kept ht (fun g hg => (own_lt ht.1 hg).2) (fun k hk' g hg => (own_lt (ht.2.2.1 k hk').2.2.2.2 hg).2) hk⟩
theorem chain_leX {lo mid hi : Nat → Nat} {n : Nat} (h1 : ∀ k, k < n → lo k ≤ mid k ∧ mid k ≤ hi k) (h2 : ∀ k, k + 1 < n → hi k ≤ lo (k + 1)) : ∀ {i k : Nat}, i < k → k < n → hi i ≤ lo k := by
  intro i k
  induction k with
  | zero => omega
  | succ k ih =>
    intro hik hk
    have a := h2 k hk
    by_cases e : i = k
    · subst e; exact a
    · have b := ih (by omega) (by omega)
      have c := h1 k (by omega)
      omega
theorem OwnT.fo {w w' : World} {B g : Nat} {o : Option Nat} {v : Value} {rs : List Rw} {l : List Cl} (h : OwnT w B v rs l) (hf : Fo g o w w') (hg : g < B) (ho : ∀ b, B ≤ b → o ≠ some b) : OwnT w' B v rs l :=
  ⟨own_fo h.1 hf hg (fun b hb => ho b (own_lt h.1 hb).1), h.2.1, fun k hk => by
    obtain ⟨h0, h1, h2, h3, h4⟩ := h.2.2.1 k hk
    exact ⟨h0, h1, h2, h3, own_fo h4 hf hg (fun b hb => ho b (own_lt h4 hb).1)⟩, h.2.2.2⟩
/-- Behind a call that may have written into a block's text: all but that text is as it was, and another text is written there. -/
theorem docX_bad {w w' : World} {B E g q n c : Nat} {rbs : List Rb} {d : List Bl} (h : DocOwn w B E (.slice (some ⟨q, 0, none⟩) n c) rbs d) (m : Nat) (hm : m < d.length) (hf : Fo g (sl3V (rbs.getD m rb0).2.2.1).ownBlock w w') (hg : g < B) (s : Sl3) (t : List Sg) (ht : Own w' B (sl3V s) t) :
    DocX (w'.setCell ⟨q, m * 6 + 2, none⟩ (sl3V s)) B (.slice (some ⟨q, 0, none⟩) n c) (rbs.set m ((rbs.getD m rb0).1, (rbs.getD m rb0).2.1, s, (rbs.getD m rb0).2.2.2)) (d.set m ((d.getD m bl0).1, (d.getD m bl0).2.1, t, (d.getD m bl0).2.2.2)) := by
  obtain ⟨h0, -, h2, lo, mid, hi, h3, h4⟩ := h
  have hlm : ∀ k, k < d.length → lo k ≤ mid k ∧ mid k ≤ hi k := fun k hk => ⟨(h3 k hk).2.2.2.2.2.2.1, (h3 k hk).2.2.2.2.2.2.2⟩
  have hbm := h3 m hm
  have hob : ∀ b, (sl3V (rbs.getD m rb0).2.2.1).ownBlock = some b → lo m ≤ b ∧ b < mid m := fun b hb => ⟨(own_lt hbm.2.2.2.1 hb).1, hbm.2.2.2.2.1 b hb⟩
  have hrow : w'.ownsRow B 39 6 (.slice (some ⟨q, 0, none⟩) n c) rbs.length (flat6 rbs) := own_fo h0 hf hg (fun b hb e => own_kinds h0 hbm.2.2.2.1 (by decide) b e hb)
  obtain ⟨cur, hcur⟩ := own_rowAt hrow
  have hk := kept_set hcur B w'.heap.size (m * 6 + 2) (sl3V s)
  refine ⟨rows_set hrow m 2 (by omega) (by omega) (sl3V s) _ rfl, by simp [h2], fun k hk' => ?_⟩
  simp only [List.length_set] at hk'
  obtain ⟨a, b, hb0, hb1, hb2, ⟨rs, hb3, hb4, hb5⟩, hb6, hb7⟩ := h3 k hk'
  have far : ∀ x, mid k ≤ x → x < hi k → (sl3V (rbs.getD m rb0).2.2.1).ownBlock ≠ some x := fun x hx hx' e => by
    have := hob x e
    rcases Nat.lt_trichotomy m k with hlt | rfl | hlt
    · have := chain_leX hlm h4 hlt hk'; have := hlm m hm; omega
    · omega
    · have := chain_leX hlm h4 hlt hm; omega
  have hT : OwnT w' B (sl3V (rbs.getD k rb0).2.2.2.2.2) rs (d.getD k bl0).2.2.2.2.2 :=
    ⟨own_fo (own_less hb3.1 (by omega)) hf hg (fun x hx => far x (own_lt hb3.1 hx).1 (hb4 x hx)), hb3.2.1, fun j hj => by
      obtain ⟨e0, e1, e2, e3, e4⟩ := hb3.2.2.1 j hj
      exact ⟨e0, e1, e2, e3, own_fo (own_less e4 (by omega)) hf hg (fun x hx => far x (own_lt e4 hx).1 (hb5 j hj x hx))⟩, hb3.2.2.2⟩
  by_cases e : m = k
  · subst e
    rw [rb_getD_set_self (by omega), bl_getD_set_self hk']
    exact ⟨hb0, own_kept ht (by decide) (fun g hg => (own_lt ht hg).2) hk, rs, ownT_kept hT (fun g hg => (own_lt hT.1 hg).2) (fun k hk' g hg => (own_lt (hT.2.2.1 k hk').2.2.2.2 hg).2) hk⟩
  · rw [rb_getD_set_other e, bl_getD_set_other e]
    have hO : Own w' B (sl3V (rbs.getD k rb0).2.2.1) (d.getD k bl0).2.2.1 := own_fo (own_less hb1 a) hf hg (fun x hx e2 => by
      have := hob x e2
      have h5 := (own_lt hb1 hx).1
      have h6 := hb2 x hx
      rcases Nat.lt_trichotomy m k with hlt | rfl | hlt
      · have := chain_leX hlm h4 hlt hk'; have := hlm m hm; omega
      · exact e rfl
      · have := chain_leX hlm h4 hlt hm; omega)
    exact BlX.kept ⟨hb0, hO, rs, hT⟩ hk
end Go.Proofs.Ytcecmkideoodiaa
namespace Go.Proofs.Ytcecmkideoodiaa
open Go.RowKit

theorem blkX_info : (Try.prog.info? 39).map (·.size) = some 6 := by kernel_rfl
theorem infoX_block : (Try.prog.info? 39).map (fun i => (i.zero, i.size, i.bytes)) = some (some (.agg #[.int .i64 0, .int .i64 0, .slice none 0 0, .int .i64 0, .int .i64 0, .slice none 0 0]), 6, 80) := by kernel_rfl
theorem cellsX_one (k v : Int) (ta : Option Addr) (tn tc : Nat) (R C : Int) (ca : Option Addr) (cn cc : Nat) : (#[.int .i64 k, .int .i64 v, .slice ta tn tc, .int .i64 R, .int .i64 C, .slice ca cn cc] : Array Value).all (·.oneCell') = true := by simp [Value.oneCell']
theorem kept_setRow {w : World} {g : Nat} {cur : Array Value} (h : RowAt w g cur 39) (B E : Nat) (cs : Array Value) : Kept B E w (w.setRow g cs) := fun b cs' ty _ _ hty hr => hr.setRowOther _ _ (fun e => by
  subst e
  unfold RowAt at h hr
  rw [hr] at h
  simp only [Option.some.injEq, Obj.cells.injEq] at h
  exact hty h.2.1)
/-- A block that was drawn: its level is one, its text and its table are small. -/
def BlDr (y : Bl) : Prop := (0 ≤ y.2.1 ∧ y.2.1 ≤ 3) ∧ y.2.2.1.length ≤ 24 ∧ y.2.2.2.2.2.length ≤ 25 ∧ ∀ x ∈ y.2.2.2.2.2, x.2.2.2.2.length ≤ 24
set_option maxRecDepth 100000 in
set_option maxHeartbeats 4000000 in
theorem l71Block_any (B g p : Nat) (lv : Int) (w : World) (h : Rd B w g p) (hp : p ≤ 888000) (hl0 : 0 ≤ lv) (hl1 : lv ≤ 100) :
    Calls Try.prog 53 #[.pointer (some ⟨g, 0, none⟩), .int .i64 lv] w fun e w' => ∃ (K V : Int) (ta : Option Addr) (tn tc : Nat) (R C : Int) (ca : Option Addr) (cn cc : Nat) (y : Bl) (q : Nat), e = .returned (.agg #[.int .i64 K, .int .i64 V, .slice ta tn tc, .int .i64 R, .int .i64 C, .slice ca cn cc]) ∧
      BlX w' w.heap.size (K, V, (ta, tn, tc), R, C, (ca, cn, cc)) y ∧ BlDr y ∧ Rd B w' g q ∧ q ≤ p + 502 ∧ Fr w.heap.size g w w' := by
  have hlt := h.lt
  have HR : Hid (Rd B w g p) := h
  clear h
  go_enter Try.func53, Try.ntmps53
  go_upto_region 1 with fail
  have F0 : Fr w.heap.size g w (w.alloc (.cells #[.int .i64 0, .int .i64 0, .slice none 0 0, .int .i64 0, .int .i64 0, .slice none 0 0] 39)) := (Fr.refl _ _ w).alloc (Nat.le_refl _) _
  have Z0 : RowAt (w.alloc (.cells #[.int .i64 0, .int .i64 0, .slice none 0 0, .int .i64 0, .int .i64 0, .slice none 0 0] 39)) w.heap.size #[.int .i64 0, .int .i64 0, .slice none 0 0, .int .i64 0, .int .i64 0, .slice none 0 0] 39 := rowAt_new _ _ _
  have HR0 : Hid (Rd B (w.alloc (.cells #[.int .i64 0, .int .i64 0, .slice none 0 0, .int .i64 0, .int .i64 0, .slice none 0 0] 39)) g p) := HR.out.alloc _
  generalize (w.alloc (.cells #[.int .i64 0, .int .i64 0, .slice none 0 0, .int .i64 0, .int .i64 0, .slice none 0 0] 39)) = v0 at F0 Z0 HR0 ⊢
  have zz0 := Z0.lt
  have HZ0 : Hid (RowAt v0 w.heap.size #[.int .i64 0, .int .i64 0, .slice none 0 0, .int .i64 0, .int .i64 0, .slice none 0 0] 39) := Z0
  have HF0 : Hid (Fr w.heap.size g w v0) := F0
  clear F0 Z0
  go_wp2_with fail
  refine (pick_any B g p 6 _ HR0.out (by omega) (by omega) (by omega)).mono ?_
  rintro e w1 ⟨u, rfl, hu0, hu1, hr1, hg1⟩
  have HR1 : Hid (Rd B w1 g (p + 1)) := hr1
  have f1 := fr_grown hg1
  have s1 := f1.size
  have HZ1 : Hid (RowAt w1 w.heap.size #[.int .i64 0, .int .i64 0, .slice none 0 0, .int .i64 0, .int .i64 0, .slice none 0 0] 39) := HZ0.out.fr f1 (by omega)
  have HF1 : Hid (Fr w.heap.size g w w1) := HF0.out.trans (f1.mono (by omega))
  clear hr1 hg1 f1 HZ0 HF0 HR0
  by_cases u0 : u = 0
  · subst u0
    go_wp2_with (first | (go_at_call 56; refine (l71Table_any B g (p + 1) _ HR1.out (by omega)).mono ?_; rintro e w2 ⟨R, C, a, n, c, rs, l, q, rfl, hO, hS, hr2, hq, hf2⟩; have HR2 : Hid (Rd B w2 g q) := hr2; have s2 := hf2.size; have HO : Hid (OwnT w2 w.heap.size (.slice a n c) rs l) := hO.less (by omega); have HS : Hid (TabSm R C l) := hS; have HZ : Hid (RowAt w2 w.heap.size #[.int .i64 0, .int .i64 0, .slice none 0 0, .int .i64 0, .int .i64 0, .slice none 0 0] 39) := HZ1.out.fr hf2 (by omega); have HF2 : Hid (Fr w.heap.size g w w2) := HF1.out.trans (hf2.mono (by omega)); clear hr2 hO hS hf2) | (refine wpList_store_row rfl 39 (.tmp 4) (.tmp 11) rfl w.heap.size #[.int .i64 3, .int .i64 0, .slice none 0 0, .int .i64 R, .int .i64 C, .slice a n c] rfl rfl 39 _ HZ.out blkX_info rfl (cellsX_one _ _ _ _ _ _ _ _ _ _) ?_))
    have bT : Below w.heap.size w2 (w2.setRow w.heap.size #[.int .i64 3, .int .i64 0, .slice none 0 0, .int .i64 R, .int .i64 C, .slice a n c]) := below_row (Below.refl _ _) (Nat.le_refl _) _
    refine bodyPost_ret (v := .agg #[.int .i64 3, .int .i64 0, .slice none 0 0, .int .i64 R, .int .i64 C, .slice a n c]) (results_cell_row (p := 4) (ty := 39) rfl _ _ w.heap.size 39 _ _ _ rfl (RowAt.setRow HZ.out _) Try.underlying39 rfl blkX_info) rfl ⟨_, _, _, _, _, _, _, _, _, _, (3, 0, [], R, C, l), q, rfl, ?_, ?_, HR2.out.below bT hlt, by omega, HF2.out.below bT⟩
    · exact BlX.kept (x := (3, 0, (none, 0, 0), R, C, (a, n, c))) ⟨⟨rfl, rfl, rfl, rfl⟩, World.ownsRow_nil _ _ _ _, rs, HO.out⟩ (kept_setRow HZ.out _ _ _)
    · obtain ⟨_, _, h3, h4⟩ := HS.out
      exact ⟨by simp, by simp, h3.2, h4⟩
  · have g0 : (u == 0) = false := by simp; omega
    by_cases u1 : u = 1
    · subst u1
      by_cases hb : 3 < lv
      · go_wp2_with (first | (go_at_call 25; refine (pick_any B g (p + 1) _ _ HR1.out (by omega) (by omega) (by omega)).mono ?_; rintro e w2 ⟨V, rfl, hV0, hV1, hr2, hg2⟩; have HR2 : Hid (Rd B w2 g (p + 1 + 1)) := hr2; have f2 := fr_grown hg2; have s2 := f2.size; have HZ2 : Hid (RowAt w2 w.heap.size #[.int .i64 0, .int .i64 0, .slice none 0 0, .int .i64 0, .int .i64 0, .slice none 0 0] 39) := HZ1.out.fr f2 (by omega); have HF2 : Hid (Fr w.heap.size g w w2) := HF1.out.trans (f2.mono (by omega)); clear hr2 hg2 f2) | (go_at_call 67; refine (l71Text_any B g (p + 1 + 1) 6 _ HR2.out (by omega) (by omega)).mono ?_; rintro e w3 ⟨v, t, q, rfl, hO, hL, hr3, hq, hf3⟩; obtain ⟨a, c, rfl⟩ := Own.shapeN hO rfl; have HR3 : Hid (Rd B w3 g q) := hr3; have s3 := hf3.size; have HO : Hid (Own w3 w.heap.size (.slice a t.length c) t) := own_less hO (by omega); have HL : Hid (t.length ≤ 6) := hL; have HZ : Hid (RowAt w3 w.heap.size #[.int .i64 0, .int .i64 0, .slice none 0 0, .int .i64 0, .int .i64 0, .slice none 0 0] 39) := HZ2.out.fr hf3 (by omega); have HF3 : Hid (Fr w.heap.size g w w3) := HF2.out.trans (hf3.mono (by omega)); clear hr3 hO hf3 hL) | (refine wpList_store_row rfl 39 (.tmp 4) (.tmp 24) rfl w.heap.size #[.int .i64 2, .int .i64 V, .slice a t.length c, .int .i64 0, .int .i64 0, .slice none 0 0] rfl rfl 39 _ HZ.out blkX_info rfl (cellsX_one _ _ _ _ _ _ _ _ _ _) ?_))
        have bT : Below w.heap.size w3 (w3.setRow w.heap.size #[.int .i64 2, .int .i64 V, .slice a t.length c, .int .i64 0, .int .i64 0, .slice none 0 0]) := below_row (Below.refl _ _) (Nat.le_refl _) _
        refine bodyPost_ret (v := .agg #[.int .i64 2, .int .i64 V, .slice a t.length c, .int .i64 0, .int .i64 0, .slice none 0 0]) (results_cell_row (p := 4) (ty := 39) rfl _ _ w.heap.size 39 _ _ _ rfl (RowAt.setRow HZ.out _) Try.underlying39 rfl blkX_info) rfl ⟨_, _, _, _, _, _, _, _, _, _, (2, V, t, 0, 0, []), q, rfl, ?_, ?_, HR3.out.below bT hlt, by omega, HF3.out.below bT⟩
        · exact BlX.kept (x := (2, V, (a, t.length, c), 0, 0, (none, 0, 0))) ⟨⟨rfl, rfl, rfl, rfl⟩, HO.out, [], ⟨World.ownsRow_nil _ _ _ _, TxtOwn.nil _ _ _⟩⟩ (kept_setRow HZ.out _ _ _)
        · have := HL.out
          exact ⟨by show 0 ≤ V ∧ V ≤ 3; omega, by show t.length ≤ 24; omega, by simp, by simp⟩
      · go_wp2_with (first | (go_at_call 25; refine (pick_any B g (p + 1) _ _ HR1.out (by omega) (by omega) (by omega)).mono ?_; rintro e w2 ⟨V, rfl, hV0, hV1, hr2, hg2⟩; have HR2 : Hid (Rd B w2 g (p + 1 + 1)) := hr2; have f2 := fr_grown hg2; have s2 := f2.size; have HZ2 : Hid (RowAt w2 w.heap.size #[.int .i64 0, .int .i64 0, .slice none 0 0, .int .i64 0, .int .i64 0, .slice none 0 0] 39) := HZ1.out.fr f2 (by omega); have HF2 : Hid (Fr w.heap.size g w w2) := HF1.out.trans (f2.mono (by omega)); clear hr2 hg2 f2) | (go_at_call 67; refine (l71Text_any B g (p + 1 + 1) 6 _ HR2.out (by omega) (by omega)).mono ?_; rintro e w3 ⟨v, t, q, rfl, hO, hL, hr3, hq, hf3⟩; obtain ⟨a, c, rfl⟩ := Own.shapeN hO rfl; have HR3 : Hid (Rd B w3 g q) := hr3; have s3 := hf3.size; have HO : Hid (Own w3 w.heap.size (.slice a t.length c) t) := own_less hO (by omega); have HL : Hid (t.length ≤ 6) := hL; have HZ : Hid (RowAt w3 w.heap.size #[.int .i64 0, .int .i64 0, .slice none 0 0, .int .i64 0, .int .i64 0, .slice none 0 0] 39) := HZ2.out.fr hf3 (by omega); have HF3 : Hid (Fr w.heap.size g w w3) := HF2.out.trans (hf3.mono (by omega)); clear hr3 hO hf3 hL) | (refine wpList_store_row rfl 39 (.tmp 4) (.tmp 24) rfl w.heap.size #[.int .i64 2, .int .i64 V, .slice a t.length c, .int .i64 0, .int .i64 0, .slice none 0 0] rfl rfl 39 _ HZ.out blkX_info rfl (cellsX_one _ _ _ _ _ _ _ _ _ _) ?_))
        have bT : Below w.heap.size w3 (w3.setRow w.heap.size #[.int .i64 2, .int .i64 V, .slice a t.length c, .int .i64 0, .int .i64 0, .slice none 0 0]) := below_row (Below.refl _ _) (Nat.le_refl _) _
        refine bodyPost_ret (v := .agg #[.int .i64 2, .int .i64 V, .slice a t.length c, .int .i64 0, .int .i64 0, .slice none 0 0]) (results_cell_row (p := 4) (ty := 39) rfl _ _ w.heap.size 39 _ _ _ rfl (RowAt.setRow HZ.out _) Try.underlying39 rfl blkX_info) rfl ⟨_, _, _, _, _, _, _, _, _, _, (2, V, t, 0, 0, []), q, rfl, ?_, ?_, HR3.out.below bT hlt, by omega, HF3.out.below bT⟩
        · exact BlX.kept (x := (2, V, (a, t.length, c), 0, 0, (none, 0, 0))) ⟨⟨rfl, rfl, rfl, rfl⟩, HO.out, [], ⟨World.ownsRow_nil _ _ _ _, TxtOwn.nil _ _ _⟩⟩ (kept_setRow HZ.out _ _ _)
        · have := HL.out
          exact ⟨by show 0 ≤ V ∧ V ≤ 3; omega, by show t.length ≤ 24; omega, by simp, by simp⟩
    · have g1 : (u == 1) = false := by simp; omega
      by_cases u2 : u = 2
      · subst u2
        by_cases hb : 3 < lv
        · go_wp2_with (first | (go_at_call 25; refine (pick_any B g (p + 1) _ _ HR1.out (by omega) (by omega) (by omega)).mono ?_; rintro e w2 ⟨V, rfl, hV0, hV1, hr2, hg2⟩; have HR2 : Hid (Rd B w2 g (p + 1 + 1)) := hr2; have f2 := fr_grown hg2; have s2 := f2.size; have HZ2 : Hid (RowAt w2 w.heap.size #[.int .i64 0, .int .i64 0, .slice none 0 0, .int .i64 0, .int .i64 0, .slice none 0 0] 39) := HZ1.out.fr f2 (by omega); have HF2 : Hid (Fr w.heap.size g w w2) := HF1.out.trans (f2.mono (by omega)); clear hr2 hg2 f2) | (go_at_call 67; refine (l71Text_any B g (p + 1 + 1) 6 _ HR2.out (by omega) (by omega)).mono ?_; rintro e w3 ⟨v, t, q, rfl, hO, hL, hr3, hq, hf3⟩; obtain ⟨a, c, rfl⟩ := Own.shapeN hO rfl; have HR3 : Hid (Rd B w3 g q) := hr3; have s3 := hf3.size; have HO : Hid (Own w3 w.heap.size (.slice a t.length c) t) := own_less hO (by omega); have HL : Hid (t.length ≤ 6) := hL; have HZ : Hid (RowAt w3 w.heap.size #[.int .i64 0, .int .i64 0, .slice none 0 0, .int .i64 0, .int .i64 0, .slice none 0 0] 39) := HZ2.out.fr hf3 (by omega); have HF3 : Hid (Fr w.heap.size g w w3) := HF2.out.trans (hf3.mono (by omega)); clear hr3 hO hf3 hL) | (refine wpList_store_row rfl 39 (.tmp 4) (.tmp 24) rfl w.heap.size #[.int .i64 2, .int .i64 V, .slice a t.length c, .int .i64 0, .int .i64 0, .slice none 0 0] rfl rfl 39 _ HZ.out blkX_info rfl (cellsX_one _ _ _ _ _ _ _ _ _ _) ?_))
          have bT : Below w.heap.size w3 (w3.setRow w.heap.size #[.int .i64 2, .int .i64 V, .slice a t.length c, .int .i64 0, .int .i64 0, .slice none 0 0]) := below_row (Below.refl _ _) (Nat.le_refl _) _
          refine bodyPost_ret (v := .agg #[.int .i64 2, .int .i64 V, .slice a t.length c, .int .i64 0, .int .i64 0, .slice none 0 0]) (results_cell_row (p := 4) (ty := 39) rfl _ _ w.heap.size 39 _ _ _ rfl (RowAt.setRow HZ.out _) Try.underlying39 rfl blkX_info) rfl ⟨_, _, _, _, _, _, _, _, _, _, (2, V, t, 0, 0, []), q, rfl, ?_, ?_, HR3.out.below bT hlt, by omega, HF3.out.below bT⟩
          · exact BlX.kept (x := (2, V, (a, t.length, c), 0, 0, (none, 0, 0))) ⟨⟨rfl, rfl, rfl, rfl⟩, HO.out, [], ⟨World.ownsRow_nil _ _ _ _, TxtOwn.nil _ _ _⟩⟩ (kept_setRow HZ.out _ _ _)
          · have := HL.out
            exact ⟨by show 0 ≤ V ∧ V ≤ 3; omega, by show t.length ≤ 24; omega, by simp, by simp⟩
        · go_wp2_with (first | (go_at_call 25; refine (pick_any B g (p + 1) _ _ HR1.out (by omega) (by omega) (by omega)).mono ?_; rintro e w2 ⟨V, rfl, hV0, hV1, hr2, hg2⟩; have HR2 : Hid (Rd B w2 g (p + 1 + 1)) := hr2; have f2 := fr_grown hg2; have s2 := f2.size; have HZ2 : Hid (RowAt w2 w.heap.size #[.int .i64 0, .int .i64 0, .slice none 0 0, .int .i64 0, .int .i64 0, .slice none 0 0] 39) := HZ1.out.fr f2 (by omega); have HF2 : Hid (Fr w.heap.size g w w2) := HF1.out.trans (f2.mono (by omega)); clear hr2 hg2 f2) | (go_at_call 67; refine (l71Text_any B g (p + 1 + 1) 6 _ HR2.out (by omega) (by omega)).mono ?_; rintro e w3 ⟨v, t, q, rfl, hO, hL, hr3, hq, hf3⟩; obtain ⟨a, c, rfl⟩ := Own.shapeN hO rfl; have HR3 : Hid (Rd B w3 g q) := hr3; have s3 := hf3.size; have HO : Hid (Own w3 w.heap.size (.slice a t.length c) t) := own_less hO (by omega); have HL : Hid (t.length ≤ 6) := hL; have HZ : Hid (RowAt w3 w.heap.size #[.int .i64 0, .int .i64 0, .slice none 0 0, .int .i64 0, .int .i64 0, .slice none 0 0] 39) := HZ2.out.fr hf3 (by omega); have HF3 : Hid (Fr w.heap.size g w w3) := HF2.out.trans (hf3.mono (by omega)); clear hr3 hO hf3 hL) | (refine wpList_store_row rfl 39 (.tmp 4) (.tmp 24) rfl w.heap.size #[.int .i64 2, .int .i64 V, .slice a t.length c, .int .i64 0, .int .i64 0, .slice none 0 0] rfl rfl 39 _ HZ.out blkX_info rfl (cellsX_one _ _ _ _ _ _ _ _ _ _) ?_))
          have bT : Below w.heap.size w3 (w3.setRow w.heap.size #[.int .i64 2, .int .i64 V, .slice a t.length c, .int .i64 0, .int .i64 0, .slice none 0 0]) := below_row (Below.refl _ _) (Nat.le_refl _) _
          refine bodyPost_ret (v := .agg #[.int .i64 2, .int .i64 V, .slice a t.length c, .int .i64 0, .int .i64 0, .slice none 0 0]) (results_cell_row (p := 4) (ty := 39) rfl _ _ w.heap.size 39 _ _ _ rfl (RowAt.setRow HZ.out _) Try.underlying39 rfl blkX_info) rfl ⟨_, _, _, _, _, _, _, _, _, _, (2, V, t, 0, 0, []), q, rfl, ?_, ?_, HR3.out.below bT hlt, by omega, HF3.out.below bT⟩
          · exact BlX.kept (x := (2, V, (a, t.length, c), 0, 0, (none, 0, 0))) ⟨⟨rfl, rfl, rfl, rfl⟩, HO.out, [], ⟨World.ownsRow_nil _ _ _ _, TxtOwn.nil _ _ _⟩⟩ (kept_setRow HZ.out _ _ _)
          · have := HL.out
            exact ⟨by show 0 ≤ V ∧ V ≤ 3; omega, by show t.length ≤ 24; omega, by simp, by simp⟩
      · have g2 : (u == 2) = false := by simp; omega
        by_cases u3 : u = 3
        · subst u3
          by_cases hb : 3 < lv
          · go_wp2_with (first | (go_at_call 25; refine (pick_any B g (p + 1) _ _ HR1.out (by omega) (by omega) (by omega)).mono ?_; rintro e w2 ⟨V, rfl, hV0, hV1, hr2, hg2⟩; have HR2 : Hid (Rd B w2 g (p + 1 + 1)) := hr2; have f2 := fr_grown hg2; have s2 := f2.size; have HZ2 : Hid (RowAt w2 w.heap.size #[.int .i64 0, .int .i64 0, .slice none 0 0, .int .i64 0, .int .i64 0, .slice none 0 0] 39) := HZ1.out.fr f2 (by omega); have HF2 : Hid (Fr w.heap.size g w w2) := HF1.out.trans (f2.mono (by omega)); clear hr2 hg2 f2) | (go_at_call 67; refine (l71Text_any B g (p + 1 + 1) 6 _ HR2.out (by omega) (by omega)).mono ?_; rintro e w3 ⟨v, t, q, rfl, hO, hL, hr3, hq, hf3⟩; obtain ⟨a, c, rfl⟩ := Own.shapeN hO rfl; have HR3 : Hid (Rd B w3 g q) := hr3; have s3 := hf3.size; have HO : Hid (Own w3 w.heap.size (.slice a t.length c) t) := own_less hO (by omega); have HL : Hid (t.length ≤ 6) := hL; have HZ : Hid (RowAt w3 w.heap.size #[.int .i64 0, .int .i64 0, .slice none 0 0, .int .i64 0, .int .i64 0, .slice none 0 0] 39) := HZ2.out.fr hf3 (by omega); have HF3 : Hid (Fr w.heap.size g w w3) := HF2.out.trans (hf3.mono (by omega)); clear hr3 hO hf3 hL) | (refine wpList_store_row rfl 39 (.tmp 4) (.tmp 24) rfl w.heap.size #[.int .i64 2, .int .i64 V, .slice a t.length c, .int .i64 0, .int .i64 0, .slice none 0 0] rfl rfl 39 _ HZ.out blkX_info rfl (cellsX_one _ _ _ _ _ _ _ _ _ _) ?_))
            have bT : Below w.heap.size w3 (w3.setRow w.heap.size #[.int .i64 2, .int .i64 V, .slice a t.length c, .int .i64 0, .int .i64 0, .slice none 0 0]) := below_row (Below.refl _ _) (Nat.le_refl _) _
            refine bodyPost_ret (v := .agg #[.int .i64 2, .int .i64 V, .slice a t.length c, .int .i64 0, .int .i64 0, .slice none 0 0]) (results_cell_row (p := 4) (ty := 39) rfl _ _ w.heap.size 39 _ _ _ rfl (RowAt.setRow HZ.out _) Try.underlying39 rfl blkX_info) rfl ⟨_, _, _, _, _, _, _, _, _, _, (2, V, t, 0, 0, []), q, rfl, ?_, ?_, HR3.out.below bT hlt, by omega, HF3.out.below bT⟩
            · exact BlX.kept (x := (2, V, (a, t.length, c), 0, 0, (none, 0, 0))) ⟨⟨rfl, rfl, rfl, rfl⟩, HO.out, [], ⟨World.ownsRow_nil _ _ _ _, TxtOwn.nil _ _ _⟩⟩ (kept_setRow HZ.out _ _ _)
            · have := HL.out
              exact ⟨by show 0 ≤ V ∧ V ≤ 3; omega, by show t.length ≤ 24; omega, by simp, by simp⟩
          · go_wp2_with (first | (go_at_call 25; refine (pick_any B g (p + 1) _ _ HR1.out (by omega) (by omega) (by omega)).mono ?_; rintro e w2 ⟨V, rfl, hV0, hV1, hr2, hg2⟩; have HR2 : Hid (Rd B w2 g (p + 1 + 1)) := hr2; have f2 := fr_grown hg2; have s2 := f2.size; have HZ2 : Hid (RowAt w2 w.heap.size #[.int .i64 0, .int .i64 0, .slice none 0 0, .int .i64 0, .int .i64 0, .slice none 0 0] 39) := HZ1.out.fr f2 (by omega); have HF2 : Hid (Fr w.heap.size g w w2) := HF1.out.trans (f2.mono (by omega)); clear hr2 hg2 f2) | (go_at_call 67; refine (l71Text_any B g (p + 1 + 1) 6 _ HR2.out (by omega) (by omega)).mono ?_; rintro e w3 ⟨v, t, q, rfl, hO, hL, hr3, hq, hf3⟩; obtain ⟨a, c, rfl⟩ := Own.shapeN hO rfl; have HR3 : Hid (Rd B w3 g q) := hr3; have s3 := hf3.size; have HO : Hid (Own w3 w.heap.size (.slice a t.length c) t) := own_less hO (by omega); have HL : Hid (t.length ≤ 6) := hL; have HZ : Hid (RowAt w3 w.heap.size #[.int .i64 0, .int .i64 0, .slice none 0 0, .int .i64 0, .int .i64 0, .slice none 0 0] 39) := HZ2.out.fr hf3 (by omega); have HF3 : Hid (Fr w.heap.size g w w3) := HF2.out.trans (hf3.mono (by omega)); clear hr3 hO hf3 hL) | (refine wpList_store_row rfl 39 (.tmp 4) (.tmp 24) rfl w.heap.size #[.int .i64 2, .int .i64 V, .slice a t.length c, .int .i64 0, .int .i64 0, .slice none 0 0] rfl rfl 39 _ HZ.out blkX_info rfl (cellsX_one _ _ _ _ _ _ _ _ _ _) ?_))
            have bT : Below w.heap.size w3 (w3.setRow w.heap.size #[.int .i64 2, .int .i64 V, .slice a t.length c, .int .i64 0, .int .i64 0, .slice none 0 0]) := below_row (Below.refl _ _) (Nat.le_refl _) _
            refine bodyPost_ret (v := .agg #[.int .i64 2, .int .i64 V, .slice a t.length c, .int .i64 0, .int .i64 0, .slice none 0 0]) (results_cell_row (p := 4) (ty := 39) rfl _ _ w.heap.size 39 _ _ _ rfl (RowAt.setRow HZ.out _) Try.underlying39 rfl blkX_info) rfl ⟨_, _, _, _, _, _, _, _, _, _, (2, V, t, 0, 0, []), q, rfl, ?_, ?_, HR3.out.below bT hlt, by omega, HF3.out.below bT⟩
            · exact BlX.kept (x := (2, V, (a, t.length, c), 0, 0, (none, 0, 0))) ⟨⟨rfl, rfl, rfl, rfl⟩, HO.out, [], ⟨World.ownsRow_nil _ _ _ _, TxtOwn.nil _ _ _⟩⟩ (kept_setRow HZ.out _ _ _)
            · have := HL.out
              exact ⟨by show 0 ≤ V ∧ V ≤ 3; omega, by show t.length ≤ 24; omega, by simp, by simp⟩
        · have g3 : (u == 3) = false := by simp; omega
          go_wp2_with (first | (go_at_call 67; refine (l71Text_any B g (p + 1) 8 _ HR1.out (by omega) (by omega)).mono ?_; rintro e w3 ⟨v, t, q, rfl, hO, hL, hr3, hq, hf3⟩; obtain ⟨a, c, rfl⟩ := Own.shapeN hO rfl; have HR3 : Hid (Rd B w3 g q) := hr3; have s3 := hf3.size; have HO : Hid (Own w3 w.heap.size (.slice a t.length c) t) := own_less hO (by omega); have HL : Hid (t.length ≤ 8) := hL; have HZ : Hid (RowAt w3 w.heap.size #[.int .i64 0, .int .i64 0, .slice none 0 0, .int .i64 0, .int .i64 0, .slice none 0 0] 39) := HZ1.out.fr hf3 (by omega); have HF3 : Hid (Fr w.heap.size g w w3) := HF1.out.trans (hf3.mono (by omega)); clear hr3 hO hf3 hL) | (refine wpList_store_row rfl 39 (.tmp 4) (.tmp 27) rfl w.heap.size #[.int .i64 1, .int .i64 0, .slice a t.length c, .int .i64 0, .int .i64 0, .slice none 0 0] rfl rfl 39 _ HZ.out blkX_info rfl (cellsX_one _ _ _ _ _ _ _ _ _ _) ?_))
          have bT : Below w.heap.size w3 (w3.setRow w.heap.size #[.int .i64 1, .int .i64 0, .slice a t.length c, .int .i64 0, .int .i64 0, .slice none 0 0]) := below_row (Below.refl _ _) (Nat.le_refl _) _
          refine bodyPost_ret (v := .agg #[.int .i64 1, .int .i64 0, .slice a t.length c, .int .i64 0, .int .i64 0, .slice none 0 0]) (results_cell_row (p := 4) (ty := 39) rfl _ _ w.heap.size 39 _ _ _ rfl (RowAt.setRow HZ.out _) Try.underlying39 rfl blkX_info) rfl ⟨_, _, _, _, _, _, _, _, _, _, (1, 0, t, 0, 0, []), q, rfl, ?_, ?_, HR3.out.below bT hlt, by omega, HF3.out.below bT⟩
          · exact BlX.kept (x := (1, 0, (a, t.length, c), 0, 0, (none, 0, 0))) ⟨⟨rfl, rfl, rfl, rfl⟩, HO.out, [], ⟨World.ownsRow_nil _ _ _ _, TxtOwn.nil _ _ _⟩⟩ (kept_setRow HZ.out _ _ _)
          · have := HL.out
            exact ⟨by simp, by show t.length ≤ 24; omega, by simp, by simp⟩
end Go.Proofs.Ytcecmkideoodiaa
namespace Go.Proofs.Ytcecmkideoodiaa
open Go.RowKit

set_option maxRecDepth 100000 in
set_option maxHeartbeats 4000000 in
theorem l3Block_is {k v : Int} {ta : Option Addr} {tn tc : Nat} {R C : Int} {ca : Option Addr} {cn cc : Nat} {t : List Sg} {l : List Cl} {w : World} {x : Bool} (hx : blockB (k, v, t, R, C, l) = x) (ht : Txt w ta tn tc t) (hc : Tab w ca cn cc l) :
    Calls Try.prog 47 #[.agg #[.int .i64 k, .int .i64 v, .slice ta tn tc, .int .i64 R, .int .i64 C, .slice ca cn cc]] w fun e w' => e = .returned (.bool x) ∧ Below w.heap.size w w' := by
  have HX : Hid (blockB (k, v, t, R, C, l) = x) := hx
  obtain ⟨tb, HTB⟩ : ∃ b, Hid (textB t = b) := ⟨_, rfl⟩
  obtain ⟨nb, HNB⟩ : ∃ b, Hid (noneB R C l = b) := ⟨_, rfl⟩
  obtain ⟨ob, HOB⟩ : ∃ b, Hid (okB R C l = b) := ⟨_, rfl⟩
  have HTN : Hid ((t = []) ↔ (tn = 0)) := by
    have hn := ht.1
    show (t = []) ↔ (tn = 0)
    rw [hn]
    exact List.length_eq_zero_iff.symm
  go_enter Try.func47, Try.ntmps47
  go_upto_region 1 with fail
  have B0 : Below w.heap.size w (w.alloc (.cells #[.int .i64 k, .int .i64 v, .slice ta tn tc, .int .i64 R, .int .i64 C, .slice ca cn cc] 39)) := (Below.refl _ _).alloc (Nat.le_refl _) _
  have G0 : RowAt (w.alloc (.cells #[.int .i64 k, .int .i64 v, .slice ta tn tc, .int .i64 R, .int .i64 C, .slice ca cn cc] 39)) w.heap.size #[.int .i64 k, .int .i64 v, .slice ta tn tc, .int .i64 R, .int .i64 C, .slice ca cn cc] 39 := rowAt_new _ _ _
  generalize (w.alloc (.cells #[.int .i64 k, .int .i64 v, .slice ta tn tc, .int .i64 R, .int .i64 C, .slice ca cn cc] 39)) = v0 at B0 G0 ⊢
  have HT0 : Hid (Txt v0 ta tn tc t) := ht.below B0
  have HC0 : Hid (Tab v0 ca cn cc l) := hc.below B0
  have q0 : v0.cell? ⟨w.heap.size, 0, none⟩ = some (.int .i64 k) := G0.cell 0
  have q1 : v0.cell? ⟨w.heap.size, 1, none⟩ = some (.int .i64 v) := G0.cell 1
  have q2 : v0.cell? ⟨w.heap.size, 2, none⟩ = some (.slice ta tn tc) := G0.cell 2
  have q3 : v0.cell? ⟨w.heap.size, 3, none⟩ = some (.int .i64 R) := G0.cell 3
  have q4 : v0.cell? ⟨w.heap.size, 4, none⟩ = some (.int .i64 C) := G0.cell 4
  have q5 : v0.cell? ⟨w.heap.size, 5, none⟩ = some (.slice ca cn cc) := G0.cell 5
  have HB0 : Hid (Below w.heap.size w v0) := B0
  have HG0 : Hid (RowAt v0 w.heap.size #[.int .i64 k, .int .i64 v, .slice ta tn tc, .int .i64 R, .int .i64 C, .slice ca cn cc] 39) := G0
  have z0 := G0.lt
  have s0 := B0.size
  clear B0 G0 ht hc hx
  by_cases h1 : k = 1
  · subst h1
    by_cases hv : v = 0
    · subst hv
      cases tb
      · go_wp2_with (go_at_call 59; refine (specTextOk_is HT0.out HTB.out).mono ?_; rintro e u1 ⟨rfl, hb⟩; have HC1 : Hid (Tab u1 ca cn cc l) := HC0.out.below hb; have HB1 : Hid (Below w.heap.size w u1) := HB0.out.trans (hb.mono s0); have hg := HG0.out.below hb z0; have p3 : u1.cell? ⟨w.heap.size, 3, none⟩ = some (.int .i64 R) := hg.cell 3; have p4 : u1.cell? ⟨w.heap.size, 4, none⟩ = some (.int .i64 C) := hg.cell 4; have p5 : u1.cell? ⟨w.heap.size, 5, none⟩ = some (.slice ca cn cc) := hg.cell 5; have s1 := HB1.out.size; clear hb hg)
        go_ret
        exact ⟨by rw [← HX.out]; simp [blockB, HTB.out], HB1.out⟩
      · cases nb
        · go_wp2_with (first | (go_at_call 59; refine (specTextOk_is HT0.out HTB.out).mono ?_; rintro e u1 ⟨rfl, hb⟩; have HC1 : Hid (Tab u1 ca cn cc l) := HC0.out.below hb; have HB1 : Hid (Below w.heap.size w u1) := HB0.out.trans (hb.mono s0); have hg := HG0.out.below hb z0; have p3 : u1.cell? ⟨w.heap.size, 3, none⟩ = some (.int .i64 R) := hg.cell 3; have p4 : u1.cell? ⟨w.heap.size, 4, none⟩ = some (.int .i64 C) := hg.cell 4; have p5 : u1.cell? ⟨w.heap.size, 5, none⟩ = some (.slice ca cn cc) := hg.cell 5; have s1 := HB1.out.size; clear hb hg) | (go_at_call 60; refine (l3None_is HNB.out HC1.out).mono ?_; rintro e u2 ⟨rfl, hb⟩; have HB2 : Hid (Below w.heap.size w u2) := HB1.out.trans (hb.mono s1); clear hb))
          go_ret
          exact ⟨by rw [← HX.out]; simp [blockB, HTB.out, HNB.out], HB2.out⟩
        · go_wp2_with (first | (go_at_call 59; refine (specTextOk_is HT0.out HTB.out).mono ?_; rintro e u1 ⟨rfl, hb⟩; have HC1 : Hid (Tab u1 ca cn cc l) := HC0.out.below hb; have HB1 : Hid (Below w.heap.size w u1) := HB0.out.trans (hb.mono s0); have hg := HG0.out.below hb z0; have p3 : u1.cell? ⟨w.heap.size, 3, none⟩ = some (.int .i64 R) := hg.cell 3; have p4 : u1.cell? ⟨w.heap.size, 4, none⟩ = some (.int .i64 C) := hg.cell 4; have p5 : u1.cell? ⟨w.heap.size, 5, none⟩ = some (.slice ca cn cc) := hg.cell 5; have s1 := HB1.out.size; clear hb hg) | (go_at_call 60; refine (l3None_is HNB.out HC1.out).mono ?_; rintro e u2 ⟨rfl, hb⟩; have HB2 : Hid (Below w.heap.size w u2) := HB1.out.trans (hb.mono s1); clear hb))
          go_ret
          exact ⟨by rw [← HX.out]; simp [blockB, HTB.out, HNB.out], HB2.out⟩
    · go_wp2_with fail
      go_ret
      exact ⟨by rw [← HX.out]; simp [blockB, hv], HB0.out⟩
  · by_cases h2 : k = 2
    · subst h2
      obtain ⟨lb, HL⟩ : ∃ b, Hid (decide (0 ≤ v ∧ v ≤ 3) = b) := ⟨_, rfl⟩
      cases lb
      · go_wp2_with (go_at_call 30; refine (l6In_of HL.out _).mono ?_; rintro e u0 ⟨rfl, hw0⟩; subst u0)
        go_ret
        exact ⟨by rw [← HX.out]; simp only [blockB, HL.out, Bool.false_and]; simp, HB0.out⟩
      · cases tb
        · go_wp2_with (first | (go_at_call 30; refine (l6In_of HL.out _).mono ?_; rintro e u0 ⟨rfl, hw0⟩; subst u0) | (go_at_call 59; refine (specTextOk_is HT0.out HTB.out).mono ?_; rintro e u1 ⟨rfl, hb⟩; have HC1 : Hid (Tab u1 ca cn cc l) := HC0.out.below hb; have HB1 : Hid (Below w.heap.size w u1) := HB0.out.trans (hb.mono s0); have hg := HG0.out.below hb z0; have p3 : u1.cell? ⟨w.heap.size, 3, none⟩ = some (.int .i64 R) := hg.cell 3; have p4 : u1.cell? ⟨w.heap.size, 4, none⟩ = some (.int .i64 C) := hg.cell 4; have p5 : u1.cell? ⟨w.heap.size, 5, none⟩ = some (.slice ca cn cc) := hg.cell 5; have s1 := HB1.out.size; clear hb hg))
          go_ret
          exact ⟨by rw [← HX.out]; simp [blockB, HTB.out], HB1.out⟩
        · cases nb
          · go_wp2_with (first | (go_at_call 30; refine (l6In_of HL.out _).mono ?_; rintro e u0 ⟨rfl, hw0⟩; subst u0) | (go_at_call 59; refine (specTextOk_is HT0.out HTB.out).mono ?_; rintro e u1 ⟨rfl, hb⟩; have HC1 : Hid (Tab u1 ca cn cc l) := HC0.out.below hb; have HB1 : Hid (Below w.heap.size w u1) := HB0.out.trans (hb.mono s0); have hg := HG0.out.below hb z0; have p3 : u1.cell? ⟨w.heap.size, 3, none⟩ = some (.int .i64 R) := hg.cell 3; have p4 : u1.cell? ⟨w.heap.size, 4, none⟩ = some (.int .i64 C) := hg.cell 4; have p5 : u1.cell? ⟨w.heap.size, 5, none⟩ = some (.slice ca cn cc) := hg.cell 5; have s1 := HB1.out.size; clear hb hg) | (go_at_call 60; refine (l3None_is HNB.out HC1.out).mono ?_; rintro e u2 ⟨rfl, hb⟩; have HB2 : Hid (Below w.heap.size w u2) := HB1.out.trans (hb.mono s1); clear hb))
            go_ret
            exact ⟨by rw [← HX.out]; simp [blockB, HTB.out, HNB.out], HB2.out⟩
          · go_wp2_with (first | (go_at_call 30; refine (l6In_of HL.out _).mono ?_; rintro e u0 ⟨rfl, hw0⟩; subst u0) | (go_at_call 59; refine (specTextOk_is HT0.out HTB.out).mono ?_; rintro e u1 ⟨rfl, hb⟩; have HC1 : Hid (Tab u1 ca cn cc l) := HC0.out.below hb; have HB1 : Hid (Below w.heap.size w u1) := HB0.out.trans (hb.mono s0); have hg := HG0.out.below hb z0; have p3 : u1.cell? ⟨w.heap.size, 3, none⟩ = some (.int .i64 R) := hg.cell 3; have p4 : u1.cell? ⟨w.heap.size, 4, none⟩ = some (.int .i64 C) := hg.cell 4; have p5 : u1.cell? ⟨w.heap.size, 5, none⟩ = some (.slice ca cn cc) := hg.cell 5; have s1 := HB1.out.size; clear hb hg) | (go_at_call 60; refine (l3None_is HNB.out HC1.out).mono ?_; rintro e u2 ⟨rfl, hb⟩; have HB2 : Hid (Below w.heap.size w u2) := HB1.out.trans (hb.mono s1); clear hb))
            go_ret
            exact ⟨by rw [← HX.out]; simp only [blockB, HTB.out, HNB.out, HL.out]; simp, HB2.out⟩
    · by_cases h3 : k = 3
      · subst h3
        by_cases hv : v = 0
        · subst hv
          by_cases ht0 : tn = 0
          · have hte : t = [] := HTN.out.2 ht0
            subst ht0
            cases ob
            · go_wp2_with (go_at_call 61; refine (specTableOk_is HOB.out HC0.out).mono ?_; rintro e u2 ⟨rfl, hb⟩; have HB2 : Hid (Below w.heap.size w u2) := HB0.out.trans (hb.mono s0); clear hb)
              go_ret
              exact ⟨by rw [← HX.out]; simp [blockB, HOB.out, hte], HB2.out⟩
            · go_wp2_with (go_at_call 61; refine (specTableOk_is HOB.out HC0.out).mono ?_; rintro e u2 ⟨rfl, hb⟩; have HB2 : Hid (Below w.heap.size w u2) := HB0.out.trans (hb.mono s0); clear hb)
              go_ret
              exact ⟨by rw [← HX.out]; simp [blockB, HOB.out, hte], HB2.out⟩
          · have hte : ¬ t = [] := fun e => ht0 (HTN.out.1 e)
            go_wp2_with fail
            go_ret
            exact ⟨by rw [← HX.out]; simp [blockB, hte], HB0.out⟩
        · go_wp2_with fail
          go_ret
          exact ⟨by rw [← HX.out]; simp [blockB, hv], HB0.out⟩
      · go_wp2_with fail
        go_ret
        exact ⟨by rw [← HX.out]; simp [blockB, h1, h2, h3], HB0.out⟩
end Go.Proofs.Ytcecmkideoodiaa
