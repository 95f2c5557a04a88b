import Derived.Test.YtoliebgdlnjahabBA5
import Derived.Test.YtoliebgdlnjahabBA6
import Derived.Test.YtoliebgdlnjahabBA2
import Derived.Test.YtoliebgdlnjahabBD1
import Derived.Test.YtoliebgdlnjahabBA4
import Derived.Test.YtoliebgdlnjahabBA1
namespace Go.Proofs.Ytoliebgdlnjahab
open Go.RowKit

set_option maxRecDepth 100000 in
set_option maxHeartbeats 8000000 in
theorem drDrawDocLift_any (B : Nat) (a : Option Addr) (n cap : Nat) (zs : List Int) (w : World) (h : Byt B w a n cap zs) (hB : B ≤ w.heap.size) :
    Calls Try.prog 17 #[.slice a n cap] w fun e w' => (∃ (a' : Option Addr) (m' c' : Nat) (d' : List Bl) (z : Int), e = .returned (.tuple #[.agg #[.slice a' m' c'], .int .i64 z]) ∧ Dc w' a' m' c' d' ∧ DocSp d' ∧ -1 ≤ z ∧ z ≤ 11) ∧ Below w.heap.size w w' := by
  have HY : Hid (Byt B w a n cap zs) := h
  clear h
  go_enter Try.func17, Try.ntmps17
  go_upto_region 1 with fail
  have B0 : Below w.heap.size w (w.alloc (.cells #[.slice none 0 0] 25)) := (Below.refl _ _).alloc (Nat.le_refl _) _
  have Z0 : RowAt (w.alloc (.cells #[.slice none 0 0] 25)) w.heap.size #[.slice none 0 0] 25 := rowAt_new _ _ _
  have HY0 : Hid (Byt B (w.alloc (.cells #[.slice none 0 0] 25)) a n cap zs) := HY.out.belowC B0 hB
  generalize (w.alloc (.cells #[.slice none 0 0] 25)) = v0 at B0 Z0 HY0 ⊢
  have s0 := B0.size
  have zz := Z0.lt
  go_wp2_with fail
  refine (l6Open_any B a n cap zs _ HY0.out (by omega)).mono ?_
  rintro e w1 ⟨rfl, hr1, hb1⟩
  have s1 := hb1.size
  have HR1 : Hid (Rd B w1 v0.heap.size 0) := hr1
  have hlt := hr1.lt
  clear hr1
  obtain ⟨g, hg⟩ : ∃ g, v0.heap.size = g := ⟨_, rfl⟩
  rw [hg] at HR1 hlt s1 ⊢
  have hgw : w.heap.size < g := by omega
  go_wp2_with fail
  refine (l71Kinds_any B g 0 2 _ HR1.out (by omega)).mono ?_
  rintro e w2 ⟨a', m', c', d', z, q, rfl, ⟨rbs, hX⟩, hS, hz0, hz1, hr2, hq2, hf2⟩
  have s2 := hf2.size
  have HZ2 : Hid (RowAt w2 w.heap.size #[.slice none 0 0] 25) := (Z0.below hb1 (by omega)).fr hf2 (by omega)
  have HB2 : Hid (Below w.heap.size w w2) := below_of_fr3 B0 hb1 hf2 (by omega) s0
  have HX2 : Hid (DocX w2 w1.heap.size (.slice a' m' c') rbs d') := hX
  have HS : Hid (DocSp d') := hS
  clear hX hS hr2 hf2 hb1 Z0 B0 HR1 HY0 HY hg
  go_wp2_with (refine wpList_store_row rfl 25 (.tmp 2) (.tmp 7) rfl w.heap.size #[.slice a' m' c'] rfl rfl 25 _ HZ2.out drdoc_info rfl (drcells1_one _ _ _) ?_)
  refine bodyPost_ret (v := .tuple #[.agg #[.slice a' m' c'], .int .i64 z]) ?_ rfl ⟨⟨a', m', c', d', z, rfl, (docX_row HX2.out HZ2.out _).dc, HS.out, hz0, hz1⟩, below_row HB2.out (Nat.le_refl _) _⟩
  rw [results_cell_tmp rfl]
  simp [asAddr, Result.andThen, run_docK (RowAt.setRow HZ2.out _)]
end Go.Proofs.Ytoliebgdlnjahab
namespace Go.Proofs.Ytoliebgdlnjahab
open Go.RowKit

theorem takeWhile_stop {α : Type} (p : α → Bool) (l : List α) {k : Nat} (hk : k < l.length) (h : (l.takeWhile p).length = k) : p l[k] = false := by
  induction l generalizing k with
  | nil => simp at hk
  | cons x l ih =>
    by_cases hx : p x = true
    · rw [List.takeWhile_cons, if_pos hx] at h
      rcases k with _ | k
      · simp at h
      · exact ih (by simpa using hk) (by simpa using h)
    · rw [List.takeWhile_cons, if_neg hx] at h
      subst h
      simpa using hx
/-- Whether a block is an item, or one below it. -/
def belB (d : List Bl) (i k : Nat) : Bool := decide (i ≤ k ∧ k < endL d i)
set_option maxRecDepth 100000 in
set_option maxHeartbeats 8000000 in
theorem lmBelow_is {a : Option Addr} {n cap : Nat} {d : List Bl} {w : World} {i k : Nat} {x : Bool} (h : Dc w a n cap d) (hi : i < d.length) (hk : k < d.length) (h2 : (d.getD i bl0).1 = 2) (hv : 0 ≤ (d.getD i bl0).2.1) (hx : belB d i k = x) :
    Calls Try.prog 15 #[.agg #[.slice a n cap], .int .i64 (i : Int), .int .i64 (k : Int)] w fun e w' => e = .returned (.bool x) ∧ Below w.heap.size w w' := by
  have H : Hid (Dc w a n cap d) := h
  have HN : Hid (n = d.length) := h.1
  have hc := h.2.1
  have hm := h.2.2.1
  unfold maxLen at hm
  have hin : i < n := by rw [h.1]; exact hi
  have hkn : k < n := by rw [h.1]; exact hk
  have HX : Hid (belB d i k = x) := hx
  have HV : Hid ((d.getD i bl0).1 = 2 ∧ 0 ≤ (d.getD i bl0).2.1) := ⟨h2, hv⟩
  rcases h.2.2.2 with e | ⟨b, off, rfl, hbw, hcl⟩
  · rw [e] at hi
    exact absurd hi (by simp)
  have HCL : Hid (∀ k, k < d.length → w.cell? ⟨b, off + k * 6, none⟩ = some (.int .i64 (d.getD k bl0).1) ∧ w.cell? ⟨b, off + k * 6 + 1, none⟩ = some (.int .i64 (d.getD k bl0).2.1)) := fun k hk => by
    obtain ⟨_, _, _, _, _, _, x0, x1, -⟩ := hcl k hk
    exact ⟨x0, x1⟩
  have hli : lvN (d.getD i bl0) = (d.getD i bl0).2.1 := by unfold lvN; rw [if_pos h2]
  have hEN : i + 1 ≤ endL d i := by unfold endL; omega
  have HLI : Hid (lvN (d.getD i bl0) = (d.getD i bl0).2.1) := hli
  clear h hx h2 hv hcl hli
  obtain ⟨en, HE⟩ : ∃ e, Hid (endL d i = e) := ⟨_, rfl⟩
  rw [HE.out] at hEN
  go_enter Try.func15, Try.ntmps15
  go_upto_region 1 with fail
  have B0 : Below w.heap.size w (w.alloc (.cells #[.slice (some ⟨b, off, none⟩) n cap] 25)) := (Below.refl _ _).alloc (Nat.le_refl _) _
  have G0 : RowAt (w.alloc (.cells #[.slice (some ⟨b, off, none⟩) n cap] 25)) w.heap.size #[.slice (some ⟨b, off, none⟩) n cap] 25 := rowAt_new _ _ _
  generalize (w.alloc (.cells #[.slice (some ⟨b, off, none⟩) n cap] 25)) = v0 at B0 G0 ⊢
  have HB0 : Hid (Below w.heap.size w v0) := B0
  have HG0 : Hid (RowAt v0 w.heap.size #[.slice (some ⟨b, off, none⟩) n cap] 25) := G0
  have s0 := B0.size
  have z0 := G0.lt
  clear B0 G0
  go_wp2_with fail
  go_loopw [7] (fun jv wr => ∃ (j : Nat), i + 1 ≤ j ∧ (j ≤ k + 1 ∨ j = i + 1) ∧ j ≤ en ∧ jv = .int .i64 (j : Int) ∧ Below v0.heap.size v0 wr) (fun jv _ => k + 1 - (intOf jv).toNat)
  case atStart => exact ⟨i + 1, Nat.le_refl _, .inr rfl, hEN, by congr 1, Below.refl _ _⟩
  case round =>
    obtain ⟨j, hj1, hj2, hj3, rfl, hbl⟩ := hrel
    have k0 : wr.cell? ⟨w.heap.size, 0, none⟩ = some (.slice (some ⟨b, off, none⟩) n cap) := (HG0.out.below hbl z0).cell 0
    have HB : Hid (Below v0.heap.size v0 wr) := hbl
    have hbw0 : Below w.heap.size w wr := HB0.out.trans (hbl.mono s0)
    have HW : Hid (Below w.heap.size w wr) := hbw0
    clear hbl
    by_cases hjk : j ≤ k
    · have hjd : j < d.length := by have := HN.out; omega
      have hjb : (j : Int) ≤ (k : Int) := by omega
      have hjn : (j : Int) < (n : Int) := by omega
      have hj0 : (0 : Int) ≤ (j : Int) := by omega
      have hib : (i : Int) < (n : Int) := by omega
      have hi0 : (0 : Int) ≤ (i : Int) := by omega
      have cj0 := (hbw0.cell (p := ⟨b, off + j * 6, none⟩) hbw).trans (HCL.out j hjd).1
      have cj1 := (hbw0.cell (p := ⟨b, off + j * 6 + 1, none⟩) hbw).trans (HCL.out j hjd).2
      have ci1 := (hbw0.cell (p := ⟨b, off + i * 6 + 1, none⟩) hbw).trans (HCL.out i hi).2
      obtain ⟨KJ, HKJ⟩ : ∃ K, Hid ((d.getD j bl0).1 = K) := ⟨_, rfl⟩
      obtain ⟨VJ, HVJ⟩ : ∃ K, Hid ((d.getD j bl0).2.1 = K) := ⟨_, rfl⟩
      obtain ⟨VI, HVI⟩ : ∃ K, Hid ((d.getD i bl0).2.1 = K) := ⟨_, rfl⟩
      rw [HKJ.out] at cj0
      rw [HVJ.out] at cj1
      rw [HVI.out] at ci1
      have hvi : 0 ≤ VI := by rw [← HVI.out]; exact HV.out.2
      clear hbw0
      by_cases hje : j < en
      · have hd := endL_deeper hi (show i < j by omega) (by rw [HE.out]; exact hje)
        rw [HLI.out, HVI.out] at hd
        have hK : KJ = 2 := by
          by_cases hK : KJ = 2
          · exact hK
          · unfold lvN at hd
            rw [HKJ.out, if_neg hK] at hd
            omega
        subst hK
        unfold lvN at hd
        rw [HKJ.out, if_pos rfl, HVJ.out] at hd
        have hgd : decide (VJ ≤ VI) = false := decide_eq_false (by omega)
        have hgd2 : ¬ VJ ≤ VI := by omega
        clear hd
        go_wp2_with fail
        refine wp_region_noPanic ?_
        refine wp_region_held_drew (S := fun w' => w'.cell? ⟨w.heap.size, 0, none⟩ = some (.slice (some ⟨b, off, none⟩) n cap) ∧ w'.cell? ⟨b, off + j * 6, none⟩ = some (.int .i64 2) ∧ w'.cell? ⟨b, off + j * 6 + 1, none⟩ = some (.int .i64 VJ) ∧ w'.cell? ⟨b, off + i * 6 + 1, none⟩ = some (.int .i64 VI)) (by kernel_rfl) ⟨k0, cj0, cj1, ci1⟩ (fun hHeld => ?_)
        refine take_at 0 15 (.pointer (some ⟨w.heap.size, 0, none⟩)) rfl rfl (by kernel_rfl) (by kernel_rfl) (by kernel_rfl) (fun _ _ _ h => h) (Or.inl ⟨by kernel_rfl, fun w' hS' => by go_simp⟩) hHeld ?_
        (try simp only [Act.put, List.setIfInBounds_toArray, List.set_cons_zero, List.set_cons_succ])
        refine take_at 1 16 (.slice (some ⟨b, off, none⟩) n cap) rfl rfl (by kernel_rfl) (by kernel_rfl) (by kernel_rfl) (fun _ _ _ h => h) (Or.inl ⟨by kernel_rfl, fun w' hS' => by have hd := hS'.1; go_simp⟩) hHeld ?_
        (try simp only [Act.put, List.setIfInBounds_toArray, List.set_cons_zero, List.set_cons_succ])
        refine take_at 2 17 (.int .i64 (j : Int)) rfl rfl (by kernel_rfl) (by kernel_rfl) (by kernel_rfl) (fun _ _ _ h => h) (Or.inl ⟨by kernel_rfl, fun w' hS' => by go_simp⟩) hHeld ?_
        (try simp only [Act.put, List.setIfInBounds_toArray, List.set_cons_zero, List.set_cons_succ])
        refine take_at 3 18 (.pointer (some ⟨b, off + j * 6, none⟩)) rfl rfl (by kernel_rfl) (by kernel_rfl) (by kernel_rfl) (fun _ _ _ h => h) (Or.inl ⟨by kernel_rfl, fun w' hS' => by go_simp⟩) hHeld ?_
        (try simp only [Act.put, List.setIfInBounds_toArray, List.set_cons_zero, List.set_cons_succ])
        refine take_at 4 19 (.pointer (some ⟨b, off + j * 6, none⟩)) rfl rfl (by kernel_rfl) (by kernel_rfl) (by kernel_rfl) (fun _ _ _ h => h) (Or.inl ⟨by kernel_rfl, fun w' hS' => by go_simp⟩) hHeld ?_
        (try simp only [Act.put, List.setIfInBounds_toArray, List.set_cons_zero, List.set_cons_succ])
        refine take_at 5 20 (.int .i64 2) rfl rfl (by kernel_rfl) (by kernel_rfl) (by kernel_rfl) (fun _ _ _ h => h) (Or.inl ⟨by kernel_rfl, fun w' hS' => by have hd := hS'.2.1; go_simp⟩) hHeld ?_
        (try simp only [Act.put, List.setIfInBounds_toArray, List.set_cons_zero, List.set_cons_succ])
        refine take_at 6 21 (.bool false) rfl rfl (by kernel_rfl) (by kernel_rfl) (by kernel_rfl) (fun _ _ _ h => h) (Or.inl ⟨by kernel_rfl, fun w' hS' => by go_simp⟩) hHeld ?_
        (try simp only [Act.put, List.setIfInBounds_toArray, List.set_cons_zero, List.set_cons_succ])
        refine take_at 7 22 (.bool false) rfl rfl (by kernel_rfl) (by kernel_rfl) (by kernel_rfl) (fun _ _ _ h => h) (Or.inl ⟨by kernel_rfl, fun w' hS' => by go_simp⟩) hHeld ?_
        (try simp only [Act.put, List.setIfInBounds_toArray, List.set_cons_zero, List.set_cons_succ])
        refine take_at 8 23 (.pointer (some ⟨w.heap.size, 0, none⟩)) rfl rfl (by kernel_rfl) (by kernel_rfl) (by kernel_rfl) (fun _ _ _ h => h) (Or.inl ⟨by kernel_rfl, fun w' hS' => by go_simp⟩) hHeld ?_
        (try simp only [Act.put, List.setIfInBounds_toArray, List.set_cons_zero, List.set_cons_succ])
        refine take_at 9 24 (.slice (some ⟨b, off, none⟩) n cap) rfl rfl (by kernel_rfl) (by kernel_rfl) (by kernel_rfl) (fun _ _ _ h => h) (Or.inl ⟨by kernel_rfl, fun w' hS' => by have hd := hS'.1; go_simp⟩) hHeld ?_
        (try simp only [Act.put, List.setIfInBounds_toArray, List.set_cons_zero, List.set_cons_succ])
        refine take_at 10 25 (.int .i64 (j : Int)) rfl rfl (by kernel_rfl) (by kernel_rfl) (by kernel_rfl) (fun _ _ _ h => h) (Or.inl ⟨by kernel_rfl, fun w' hS' => by go_simp⟩) hHeld ?_
        (try simp only [Act.put, List.setIfInBounds_toArray, List.set_cons_zero, List.set_cons_succ])
        refine take_at 11 26 (.pointer (some ⟨b, off + j * 6, none⟩)) rfl rfl (by kernel_rfl) (by kernel_rfl) (by kernel_rfl) (fun _ _ _ h => h) (Or.inl ⟨by kernel_rfl, fun w' hS' => by go_simp⟩) hHeld ?_
        (try simp only [Act.put, List.setIfInBounds_toArray, List.set_cons_zero, List.set_cons_succ])
        refine take_at 12 27 (.pointer (some ⟨b, off + j * 6 + 1, none⟩)) rfl rfl (by kernel_rfl) (by kernel_rfl) (by kernel_rfl) (fun _ _ _ h => h) (Or.inl ⟨by kernel_rfl, fun w' hS' => by go_simp⟩) hHeld ?_
        (try simp only [Act.put, List.setIfInBounds_toArray, List.set_cons_zero, List.set_cons_succ])
        refine take_at 13 28 (.int .i64 VJ) rfl rfl (by kernel_rfl) (by kernel_rfl) (by kernel_rfl) (fun _ _ _ h => h) (Or.inl ⟨by kernel_rfl, fun w' hS' => by have hd := hS'.2.2.1; go_simp⟩) hHeld ?_
        (try simp only [Act.put, List.setIfInBounds_toArray, List.set_cons_zero, List.set_cons_succ])
        refine take_at 14 29 (.pointer (some ⟨w.heap.size, 0, none⟩)) rfl rfl (by kernel_rfl) (by kernel_rfl) (by kernel_rfl) (fun _ _ _ h => h) (Or.inl ⟨by kernel_rfl, fun w' hS' => by go_simp⟩) hHeld ?_
        (try simp only [Act.put, List.setIfInBounds_toArray, List.set_cons_zero, List.set_cons_succ])
        refine take_at 15 30 (.slice (some ⟨b, off, none⟩) n cap) rfl rfl (by kernel_rfl) (by kernel_rfl) (by kernel_rfl) (fun _ _ _ h => h) (Or.inl ⟨by kernel_rfl, fun w' hS' => by have hd := hS'.1; go_simp⟩) hHeld ?_
        (try simp only [Act.put, List.setIfInBounds_toArray, List.set_cons_zero, List.set_cons_succ])
        refine take_at 16 31 (.int .i64 (i : Int)) rfl rfl (by kernel_rfl) (by kernel_rfl) (by kernel_rfl) (fun _ _ _ h => h) (Or.inl ⟨by kernel_rfl, fun w' hS' => by go_simp⟩) hHeld ?_
        (try simp only [Act.put, List.setIfInBounds_toArray, List.set_cons_zero, List.set_cons_succ])
        refine take_at 17 32 (.pointer (some ⟨b, off + i * 6, none⟩)) rfl rfl (by kernel_rfl) (by kernel_rfl) (by kernel_rfl) (fun _ _ _ h => h) (Or.inl ⟨by kernel_rfl, fun w' hS' => by go_simp⟩) hHeld ?_
        (try simp only [Act.put, List.setIfInBounds_toArray, List.set_cons_zero, List.set_cons_succ])
        refine take_at 18 33 (.pointer (some ⟨b, off + i * 6 + 1, none⟩)) rfl rfl (by kernel_rfl) (by kernel_rfl) (by kernel_rfl) (fun _ _ _ h => h) (Or.inl ⟨by kernel_rfl, fun w' hS' => by go_simp⟩) hHeld ?_
        (try simp only [Act.put, List.setIfInBounds_toArray, List.set_cons_zero, List.set_cons_succ])
        refine take_at 19 34 (.int .i64 VI) rfl rfl (by kernel_rfl) (by kernel_rfl) (by kernel_rfl) (fun _ _ _ h => h) (Or.inl ⟨by kernel_rfl, fun w' hS' => by have hd := hS'.2.2.2; go_simp⟩) hHeld ?_
        (try simp only [Act.put, List.setIfInBounds_toArray, List.set_cons_zero, List.set_cons_succ])
        refine take_at 20 35 (.bool false) rfl rfl (by kernel_rfl) (by kernel_rfl) (by kernel_rfl) (fun _ _ _ h => h) (Or.inl ⟨by kernel_rfl, fun w' hS' => by go_simp⟩) hHeld ?_
        (try simp only [Act.put, List.setIfInBounds_toArray, List.set_cons_zero, List.set_cons_succ])
        refine take_at 21 36 (.bool false) rfl rfl (by kernel_rfl) (by kernel_rfl) (by kernel_rfl) (fun _ _ _ h => h) (Or.inl ⟨by kernel_rfl, fun w' hS' => by go_simp⟩) hHeld ?_
        (try simp only [Act.put, List.setIfInBounds_toArray, List.set_cons_zero, List.set_cons_succ])
        refine wpAnyH_done (by kernel_rfl) ?_ _
        refine NoPanic.normal ?_
        go_wp2_with fail
        go_roundw
        case rel => exact ⟨j + 1, by omega, .inl (by omega), by omega, by go_num, HB.out.drew⟩
        case measure => simp [intOf]; omega
      · obtain rfl : j = en := by omega
        have hxf : x = false := by
          rw [← HX.out]
          unfold belB
          rw [HE.out]
          exact decide_eq_false (by omega)
        have hnd : ¬ lvN (d.getD i bl0) < lvN (d.getD j bl0) := by
          have h1 := HE.out
          unfold endL belL at h1
          intro hlt
          have hlen : j - (i + 1) < (d.drop (i + 1)).length := by rw [List.length_drop]; omega
          have h3 := takeWhile_stop (fun y => decide (lvN (d.getD i bl0) < lvN y)) (d.drop (i + 1)) hlen (by omega)
          rw [show (d.drop (i + 1))[j - (i + 1)] = d.getD j bl0 by simp [List.getD, hjd, show i + 1 + (j - (i + 1)) = j by omega]] at h3
          have h4 := of_decide_eq_false h3
          exact h4 hlt
        rw [HLI.out, HVI.out] at hnd
        subst hxf
        by_cases hK : KJ = 2
        · subst hK
          unfold lvN at hnd
          rw [HKJ.out, if_pos rfl, HVJ.out] at hnd
          have hgd : decide (VJ ≤ VI) = true := decide_eq_true (by omega)
          have hgd2 : VJ ≤ VI := by omega
          clear hnd
          go_wp2_with fail
          refine wp_region_noPanic ?_
          refine wp_region_held_drew (S := fun w' => w'.cell? ⟨w.heap.size, 0, none⟩ = some (.slice (some ⟨b, off, none⟩) n cap) ∧ w'.cell? ⟨b, off + j * 6, none⟩ = some (.int .i64 2) ∧ w'.cell? ⟨b, off + j * 6 + 1, none⟩ = some (.int .i64 VJ) ∧ w'.cell? ⟨b, off + i * 6 + 1, none⟩ = some (.int .i64 VI)) (by kernel_rfl) ⟨k0, cj0, cj1, ci1⟩ (fun hHeld => ?_)
          refine take_at 0 15 (.pointer (some ⟨w.heap.size, 0, none⟩)) rfl rfl (by kernel_rfl) (by kernel_rfl) (by kernel_rfl) (fun _ _ _ h => h) (Or.inl ⟨by kernel_rfl, fun w' hS' => by go_simp⟩) hHeld ?_
          (try simp only [Act.put, List.setIfInBounds_toArray, List.set_cons_zero, List.set_cons_succ])
          refine take_at 1 16 (.slice (some ⟨b, off, none⟩) n cap) rfl rfl (by kernel_rfl) (by kernel_rfl) (by kernel_rfl) (fun _ _ _ h => h) (Or.inl ⟨by kernel_rfl, fun w' hS' => by have hd := hS'.1; go_simp⟩) hHeld ?_
          (try simp only [Act.put, List.setIfInBounds_toArray, List.set_cons_zero, List.set_cons_succ])
          refine take_at 2 17 (.int .i64 (j : Int)) rfl rfl (by kernel_rfl) (by kernel_rfl) (by kernel_rfl) (fun _ _ _ h => h) (Or.inl ⟨by kernel_rfl, fun w' hS' => by go_simp⟩) hHeld ?_
          (try simp only [Act.put, List.setIfInBounds_toArray, List.set_cons_zero, List.set_cons_succ])
          refine take_at 3 18 (.pointer (some ⟨b, off + j * 6, none⟩)) rfl rfl (by kernel_rfl) (by kernel_rfl) (by kernel_rfl) (fun _ _ _ h => h) (Or.inl ⟨by kernel_rfl, fun w' hS' => by go_simp⟩) hHeld ?_
          (try simp only [Act.put, List.setIfInBounds_toArray, List.set_cons_zero, List.set_cons_succ])
          refine take_at 4 19 (.pointer (some ⟨b, off + j * 6, none⟩)) rfl rfl (by kernel_rfl) (by kernel_rfl) (by kernel_rfl) (fun _ _ _ h => h) (Or.inl ⟨by kernel_rfl, fun w' hS' => by go_simp⟩) hHeld ?_
          (try simp only [Act.put, List.setIfInBounds_toArray, List.set_cons_zero, List.set_cons_succ])
          refine take_at 5 20 (.int .i64 2) rfl rfl (by kernel_rfl) (by kernel_rfl) (by kernel_rfl) (fun _ _ _ h => h) (Or.inl ⟨by kernel_rfl, fun w' hS' => by have hd := hS'.2.1; go_simp⟩) hHeld ?_
          (try simp only [Act.put, List.setIfInBounds_toArray, List.set_cons_zero, List.set_cons_succ])
          refine take_at 6 21 (.bool false) rfl rfl (by kernel_rfl) (by kernel_rfl) (by kernel_rfl) (fun _ _ _ h => h) (Or.inl ⟨by kernel_rfl, fun w' hS' => by go_simp⟩) hHeld ?_
          (try simp only [Act.put, List.setIfInBounds_toArray, List.set_cons_zero, List.set_cons_succ])
          refine take_at 7 22 (.bool false) rfl rfl (by kernel_rfl) (by kernel_rfl) (by kernel_rfl) (fun _ _ _ h => h) (Or.inl ⟨by kernel_rfl, fun w' hS' => by go_simp⟩) hHeld ?_
          (try simp only [Act.put, List.setIfInBounds_toArray, List.set_cons_zero, List.set_cons_succ])
          refine take_at 8 23 (.pointer (some ⟨w.heap.size, 0, none⟩)) rfl rfl (by kernel_rfl) (by kernel_rfl) (by kernel_rfl) (fun _ _ _ h => h) (Or.inl ⟨by kernel_rfl, fun w' hS' => by go_simp⟩) hHeld ?_
          (try simp only [Act.put, List.setIfInBounds_toArray, List.set_cons_zero, List.set_cons_succ])
          refine take_at 9 24 (.slice (some ⟨b, off, none⟩) n cap) rfl rfl (by kernel_rfl) (by kernel_rfl) (by kernel_rfl) (fun _ _ _ h => h) (Or.inl ⟨by kernel_rfl, fun w' hS' => by have hd := hS'.1; go_simp⟩) hHeld ?_
          (try simp only [Act.put, List.setIfInBounds_toArray, List.set_cons_zero, List.set_cons_succ])
          refine take_at 10 25 (.int .i64 (j : Int)) rfl rfl (by kernel_rfl) (by kernel_rfl) (by kernel_rfl) (fun _ _ _ h => h) (Or.inl ⟨by kernel_rfl, fun w' hS' => by go_simp⟩) hHeld ?_
          (try simp only [Act.put, List.setIfInBounds_toArray, List.set_cons_zero, List.set_cons_succ])
          refine take_at 11 26 (.pointer (some ⟨b, off + j * 6, none⟩)) rfl rfl (by kernel_rfl) (by kernel_rfl) (by kernel_rfl) (fun _ _ _ h => h) (Or.inl ⟨by kernel_rfl, fun w' hS' => by go_simp⟩) hHeld ?_
          (try simp only [Act.put, List.setIfInBounds_toArray, List.set_cons_zero, List.set_cons_succ])
          refine take_at 12 27 (.pointer (some ⟨b, off + j * 6 + 1, none⟩)) rfl rfl (by kernel_rfl) (by kernel_rfl) (by kernel_rfl) (fun _ _ _ h => h) (Or.inl ⟨by kernel_rfl, fun w' hS' => by go_simp⟩) hHeld ?_
          (try simp only [Act.put, List.setIfInBounds_toArray, List.set_cons_zero, List.set_cons_succ])
          refine take_at 13 28 (.int .i64 VJ) rfl rfl (by kernel_rfl) (by kernel_rfl) (by kernel_rfl) (fun _ _ _ h => h) (Or.inl ⟨by kernel_rfl, fun w' hS' => by have hd := hS'.2.2.1; go_simp⟩) hHeld ?_
          (try simp only [Act.put, List.setIfInBounds_toArray, List.set_cons_zero, List.set_cons_succ])
          refine take_at 14 29 (.pointer (some ⟨w.heap.size, 0, none⟩)) rfl rfl (by kernel_rfl) (by kernel_rfl) (by kernel_rfl) (fun _ _ _ h => h) (Or.inl ⟨by kernel_rfl, fun w' hS' => by go_simp⟩) hHeld ?_
          (try simp only [Act.put, List.setIfInBounds_toArray, List.set_cons_zero, List.set_cons_succ])
          refine take_at 15 30 (.slice (some ⟨b, off, none⟩) n cap) rfl rfl (by kernel_rfl) (by kernel_rfl) (by kernel_rfl) (fun _ _ _ h => h) (Or.inl ⟨by kernel_rfl, fun w' hS' => by have hd := hS'.1; go_simp⟩) hHeld ?_
          (try simp only [Act.put, List.setIfInBounds_toArray, List.set_cons_zero, List.set_cons_succ])
          refine take_at 16 31 (.int .i64 (i : Int)) rfl rfl (by kernel_rfl) (by kernel_rfl) (by kernel_rfl) (fun _ _ _ h => h) (Or.inl ⟨by kernel_rfl, fun w' hS' => by go_simp⟩) hHeld ?_
          (try simp only [Act.put, List.setIfInBounds_toArray, List.set_cons_zero, List.set_cons_succ])
          refine take_at 17 32 (.pointer (some ⟨b, off + i * 6, none⟩)) rfl rfl (by kernel_rfl) (by kernel_rfl) (by kernel_rfl) (fun _ _ _ h => h) (Or.inl ⟨by kernel_rfl, fun w' hS' => by go_simp⟩) hHeld ?_
          (try simp only [Act.put, List.setIfInBounds_toArray, List.set_cons_zero, List.set_cons_succ])
          refine take_at 18 33 (.pointer (some ⟨b, off + i * 6 + 1, none⟩)) rfl rfl (by kernel_rfl) (by kernel_rfl) (by kernel_rfl) (fun _ _ _ h => h) (Or.inl ⟨by kernel_rfl, fun w' hS' => by go_simp⟩) hHeld ?_
          (try simp only [Act.put, List.setIfInBounds_toArray, List.set_cons_zero, List.set_cons_succ])
          refine take_at 19 34 (.int .i64 VI) rfl rfl (by kernel_rfl) (by kernel_rfl) (by kernel_rfl) (fun _ _ _ h => h) (Or.inl ⟨by kernel_rfl, fun w' hS' => by have hd := hS'.2.2.2; go_simp⟩) hHeld ?_
          (try simp only [Act.put, List.setIfInBounds_toArray, List.set_cons_zero, List.set_cons_succ])
          refine take_at 20 35 (.bool true) rfl rfl (by kernel_rfl) (by kernel_rfl) (by kernel_rfl) (fun _ _ _ h => h) (Or.inl ⟨by kernel_rfl, fun w' hS' => by go_simp⟩) hHeld ?_
          (try simp only [Act.put, List.setIfInBounds_toArray, List.set_cons_zero, List.set_cons_succ])
          refine take_at 21 36 (.bool true) rfl rfl (by kernel_rfl) (by kernel_rfl) (by kernel_rfl) (fun _ _ _ h => h) (Or.inl ⟨by kernel_rfl, fun w' hS' => by go_simp⟩) hHeld ?_
          (try simp only [Act.put, List.setIfInBounds_toArray, List.set_cons_zero, List.set_cons_succ])
          refine wpAnyH_done (by kernel_rfl) ?_ _
          refine NoPanic.normal ?_
          go_wp2_with fail
          go_ret
          exact ⟨rfl, HW.out.drew⟩
        · have hK2 : (KJ != 2) = true := by simp; exact hK
          clear hnd
          go_wp2_with fail
          refine wp_region_noPanic ?_
          refine wp_region_held_drew (S := fun w' => w'.cell? ⟨w.heap.size, 0, none⟩ = some (.slice (some ⟨b, off, none⟩) n cap) ∧ w'.cell? ⟨b, off + j * 6, none⟩ = some (.int .i64 KJ) ∧ w'.cell? ⟨b, off + j * 6 + 1, none⟩ = some (.int .i64 VJ) ∧ w'.cell? ⟨b, off + i * 6 + 1, none⟩ = some (.int .i64 VI)) (by kernel_rfl) ⟨k0, cj0, cj1, ci1⟩ (fun hHeld => ?_)
          refine take_at 0 15 (.pointer (some ⟨w.heap.size, 0, none⟩)) rfl rfl (by kernel_rfl) (by kernel_rfl) (by kernel_rfl) (fun _ _ _ h => h) (Or.inl ⟨by kernel_rfl, fun w' hS' => by go_simp⟩) hHeld ?_
          (try simp only [Act.put, List.setIfInBounds_toArray, List.set_cons_zero, List.set_cons_succ])
          refine take_at 1 16 (.slice (some ⟨b, off, none⟩) n cap) rfl rfl (by kernel_rfl) (by kernel_rfl) (by kernel_rfl) (fun _ _ _ h => h) (Or.inl ⟨by kernel_rfl, fun w' hS' => by have hd := hS'.1; go_simp⟩) hHeld ?_
          (try simp only [Act.put, List.setIfInBounds_toArray, List.set_cons_zero, List.set_cons_succ])
          refine take_at 2 17 (.int .i64 (j : Int)) rfl rfl (by kernel_rfl) (by kernel_rfl) (by kernel_rfl) (fun _ _ _ h => h) (Or.inl ⟨by kernel_rfl, fun w' hS' => by go_simp⟩) hHeld ?_
          (try simp only [Act.put, List.setIfInBounds_toArray, List.set_cons_zero, List.set_cons_succ])
          refine take_at 3 18 (.pointer (some ⟨b, off + j * 6, none⟩)) rfl rfl (by kernel_rfl) (by kernel_rfl) (by kernel_rfl) (fun _ _ _ h => h) (Or.inl ⟨by kernel_rfl, fun w' hS' => by go_simp⟩) hHeld ?_
          (try simp only [Act.put, List.setIfInBounds_toArray, List.set_cons_zero, List.set_cons_succ])
          refine take_at 4 19 (.pointer (some ⟨b, off + j * 6, none⟩)) rfl rfl (by kernel_rfl) (by kernel_rfl) (by kernel_rfl) (fun _ _ _ h => h) (Or.inl ⟨by kernel_rfl, fun w' hS' => by go_simp⟩) hHeld ?_
          (try simp only [Act.put, List.setIfInBounds_toArray, List.set_cons_zero, List.set_cons_succ])
          refine take_at 5 20 (.int .i64 KJ) rfl rfl (by kernel_rfl) (by kernel_rfl) (by kernel_rfl) (fun _ _ _ h => h) (Or.inl ⟨by kernel_rfl, fun w' hS' => by have hd := hS'.2.1; go_simp⟩) hHeld ?_
          (try simp only [Act.put, List.setIfInBounds_toArray, List.set_cons_zero, List.set_cons_succ])
          refine take_at 6 21 (.bool true) rfl rfl (by kernel_rfl) (by kernel_rfl) (by kernel_rfl) (fun _ _ _ h => h) (Or.inl ⟨by kernel_rfl, fun w' hS' => by go_simp⟩) hHeld ?_
          (try simp only [Act.put, List.setIfInBounds_toArray, List.set_cons_zero, List.set_cons_succ])
          refine take_at 7 22 (.bool true) rfl rfl (by kernel_rfl) (by kernel_rfl) (by kernel_rfl) (fun _ _ _ h => h) (Or.inl ⟨by kernel_rfl, fun w' hS' => by go_simp⟩) hHeld ?_
          (try simp only [Act.put, List.setIfInBounds_toArray, List.set_cons_zero, List.set_cons_succ])
          refine take_at 8 23 (undef) rfl rfl (by kernel_rfl) (by kernel_rfl) (by kernel_rfl) (fun _ _ _ h => h) (Or.inr ⟨by kernel_rfl, rfl⟩) hHeld ?_
          (try simp only [Act.put, List.setIfInBounds_toArray, List.set_cons_zero, List.set_cons_succ])
          refine take_at 9 24 (undef) rfl rfl (by kernel_rfl) (by kernel_rfl) (by kernel_rfl) (fun _ _ _ h => h) (Or.inr ⟨by kernel_rfl, rfl⟩) hHeld ?_
          (try simp only [Act.put, List.setIfInBounds_toArray, List.set_cons_zero, List.set_cons_succ])
          refine take_at 10 25 (undef) rfl rfl (by kernel_rfl) (by kernel_rfl) (by kernel_rfl) (fun _ _ _ h => h) (Or.inr ⟨by kernel_rfl, rfl⟩) hHeld ?_
          (try simp only [Act.put, List.setIfInBounds_toArray, List.set_cons_zero, List.set_cons_succ])
          refine take_at 11 26 (undef) rfl rfl (by kernel_rfl) (by kernel_rfl) (by kernel_rfl) (fun _ _ _ h => h) (Or.inr ⟨by kernel_rfl, rfl⟩) hHeld ?_
          (try simp only [Act.put, List.setIfInBounds_toArray, List.set_cons_zero, List.set_cons_succ])
          refine take_at 12 27 (undef) rfl rfl (by kernel_rfl) (by kernel_rfl) (by kernel_rfl) (fun _ _ _ h => h) (Or.inr ⟨by kernel_rfl, rfl⟩) hHeld ?_
          (try simp only [Act.put, List.setIfInBounds_toArray, List.set_cons_zero, List.set_cons_succ])
          refine take_at 13 28 (undef) rfl rfl (by kernel_rfl) (by kernel_rfl) (by kernel_rfl) (fun _ _ _ h => h) (Or.inr ⟨by kernel_rfl, rfl⟩) hHeld ?_
          (try simp only [Act.put, List.setIfInBounds_toArray, List.set_cons_zero, List.set_cons_succ])
          refine take_at 14 29 (undef) rfl rfl (by kernel_rfl) (by kernel_rfl) (by kernel_rfl) (fun _ _ _ h => h) (Or.inr ⟨by kernel_rfl, rfl⟩) hHeld ?_
          (try simp only [Act.put, List.setIfInBounds_toArray, List.set_cons_zero, List.set_cons_succ])
          refine take_at 15 30 (undef) rfl rfl (by kernel_rfl) (by kernel_rfl) (by kernel_rfl) (fun _ _ _ h => h) (Or.inr ⟨by kernel_rfl, rfl⟩) hHeld ?_
          (try simp only [Act.put, List.setIfInBounds_toArray, List.set_cons_zero, List.set_cons_succ])
          refine take_at 16 31 (undef) rfl rfl (by kernel_rfl) (by kernel_rfl) (by kernel_rfl) (fun _ _ _ h => h) (Or.inr ⟨by kernel_rfl, rfl⟩) hHeld ?_
          (try simp only [Act.put, List.setIfInBounds_toArray, List.set_cons_zero, List.set_cons_succ])
          refine take_at 17 32 (undef) rfl rfl (by kernel_rfl) (by kernel_rfl) (by kernel_rfl) (fun _ _ _ h => h) (Or.inr ⟨by kernel_rfl, rfl⟩) hHeld ?_
          (try simp only [Act.put, List.setIfInBounds_toArray, List.set_cons_zero, List.set_cons_succ])
          refine take_at 18 33 (undef) rfl rfl (by kernel_rfl) (by kernel_rfl) (by kernel_rfl) (fun _ _ _ h => h) (Or.inr ⟨by kernel_rfl, rfl⟩) hHeld ?_
          (try simp only [Act.put, List.setIfInBounds_toArray, List.set_cons_zero, List.set_cons_succ])
          refine take_at 19 34 (undef) rfl rfl (by kernel_rfl) (by kernel_rfl) (by kernel_rfl) (fun _ _ _ h => h) (Or.inr ⟨by kernel_rfl, rfl⟩) hHeld ?_
          (try simp only [Act.put, List.setIfInBounds_toArray, List.set_cons_zero, List.set_cons_succ])
          refine take_at 20 35 (undef) rfl rfl (by kernel_rfl) (by kernel_rfl) (by kernel_rfl) (fun _ _ _ h => h) (Or.inr ⟨by kernel_rfl, rfl⟩) hHeld ?_
          (try simp only [Act.put, List.setIfInBounds_toArray, List.set_cons_zero, List.set_cons_succ])
          refine take_at 21 36 (.bool true) rfl rfl (by kernel_rfl) (by kernel_rfl) (by kernel_rfl) (fun _ _ _ h => h) (Or.inl ⟨by kernel_rfl, fun w' hS' => by go_simp⟩) hHeld ?_
          (try simp only [Act.put, List.setIfInBounds_toArray, List.set_cons_zero, List.set_cons_succ])
          refine wpAnyH_done (by kernel_rfl) ?_ _
          refine NoPanic.normal ?_
          go_wp2_with fail
          go_ret
          exact ⟨rfl, HW.out.drew⟩
    · have hjb : ¬ (j : Int) ≤ (k : Int) := by omega
      have hxe : x = decide ((i : Int) ≤ (k : Int)) := by
        rw [← HX.out]
        unfold belB
        rw [HE.out]
        by_cases hik : i ≤ k
        · rw [decide_eq_true (show i ≤ k ∧ k < en by omega), decide_eq_true (show (i : Int) ≤ (k : Int) by omega)]
        · rw [decide_eq_false (show ¬ (i ≤ k ∧ k < en) by omega), decide_eq_false (show ¬ (i : Int) ≤ (k : Int) by omega)]
      subst hxe
      go_wp2_with fail
      go_ret
      exact ⟨rfl, HW.out⟩
end Go.Proofs.Ytoliebgdlnjahab
namespace Go.Proofs.Ytoliebgdlnjahab
open Go.RowKit

set_option maxRecDepth 100000 in
set_option maxHeartbeats 8000000 in
theorem specDocLift_any {a : Option Addr} {n cap : Nat} {d : List Bl} {z : Int} {w : World} (h : Dc w a n cap d) :
    Calls Try.prog 18 #[.agg #[.slice a n cap], .int .i64 z] w fun e w' => DocRes (docF liftF d z) w.heap.size e w' ∧ Below w.heap.size w w' := by
  unfold DocRes
  have HN : Hid (n = d.length) := h.1
  have hc := h.2.1
  have hm := h.2.2.1
  unfold maxLen at hm
  have H : Hid (Dc w a n cap d) := h
  clear h
  obtain ⟨x, HX⟩ : ∃ x, Hid (itemB d z = x) := ⟨_, rfl⟩
  go_enter Try.func18, Try.ntmps18
  go_upto_region 1 with fail
  have B0 : Below w.heap.size w ((w.alloc (.cells #[.slice a n cap] 25)).alloc (.cells #[.slice none 0 0] 25)) := ((Below.refl _ _).alloc (Nat.le_refl _) _).alloc (by simp) _
  have G0 : RowAt ((w.alloc (.cells #[.slice a n cap] 25)).alloc (.cells #[.slice none 0 0] 25)) w.heap.size #[.slice a n cap] 25 := (rowAt_new w _ _).alloc _
  have G1 : RowAt ((w.alloc (.cells #[.slice a n cap] 25)).alloc (.cells #[.slice none 0 0] 25)) (w.heap.size + 1) #[.slice none 0 0] 25 := by
    have := rowAt_new (w.alloc (.cells #[.slice a n cap] 25)) #[.slice none 0 0] 25
    simpa using this
  generalize ((w.alloc (.cells #[.slice a n cap] 25)).alloc (.cells #[.slice none 0 0] 25)) = v0 at B0 G0 G1 ⊢
  have k0 : v0.cell? ⟨w.heap.size, 0, none⟩ = some (.slice a n cap) := G0.cell 0
  have l0 := G0.lt
  have l1 := G1.lt
  have s0 := B0.size
  have H0 : Hid (RowAt v0 w.heap.size #[.slice a n cap] 25) := G0
  have H1 : Hid (RowAt v0 (w.heap.size + 1) #[.slice none 0 0] 25) := G1
  have HB0 : Hid (Below w.heap.size w v0) := B0
  have HD0 : Hid (Dc v0 a n cap d) := H.out.below B0
  clear G0 G1 B0
  cases x
  · have HNO : Hid (docF liftF d z = none) := no_item HX.out (fun d i h => by unfold liftF; rw [if_neg h])
    go_wp2_with (first | (go_at_call 34; refine (l3Item_is HX.out HD0.out).mono ?_; rintro e w1 ⟨rfl, hb1⟩; have HZ : Hid (RowAt w1 (w.heap.size + 1) #[.slice none 0 0] 25) := H1.out.below hb1 l1) | (refine wpList_store_row rfl 25 (.tmp 4) (.tmp 13) rfl (w.heap.size + 1) #[.slice none 0 0] rfl rfl 25 _ HZ.out docI_info rfl (cells1_one _ _ _) ?_))
    refine bodyPost_ret (v := .tuple #[.agg #[.slice none 0 0], .bool false]) ?_ rfl ⟨.inl ⟨HNO.out, rfl⟩, below_row (HB0.out.trans (hb1.mono s0)) (by omega) _⟩
    rw [results_cell_tmp rfl]
    simp [asAddr, Result.andThen, run_docOf (RowAt.setRow HZ.out _)]
  obtain ⟨hdb, i, rfl, hid, hk2⟩ := item_of HX.out
  obtain ⟨hn8', hall, hou⟩ := docB_parts hdb
  have hn8 : n ≤ 8 := by rw [HN.out]; exact hn8'
  have hin : i < n := by rw [HN.out]; exact hid
  have HDB : Hid (docB d = true) := hdb
  have HALL : Hid (d.all partBB = true) := hall
  have HOU : Hid (outlB d = true) := hou
  have HK2 : Hid ((d.getD i bl0).1 = 2) := hk2
  have HGR : Hid (∀ k, i ≤ k → k < endL d i → (d.getD k bl0).1 = 2 ∧ 0 ≤ (d.getD k bl0).2.1 ∧ (d.getD k bl0).2.1 ≤ 3) := group_items hou hid hk2
  have HFE : Hid (docF liftF d i = (liftF d i).bind fun d' => if outlB d' = true then some d' else none) := by
    show docF liftF d i = _
    unfold docF
    rw [if_pos ⟨hdb, by omega, by omega⟩]
    rfl
  have hEn : endL d i ≤ n := by rw [HN.out]; exact endL_le hid
  have HEB : Hid (endL d i = i + 1 + belL d i) := rfl
  have HV0 : Hid (0 ≤ (d.getD i bl0).2.1) := (group_items hou hid hk2 i (Nat.le_refl _) (by unfold endL; omega)).2.1
  clear hall hou hn8' hk2 hdb
  obtain ⟨E, HE⟩ : ∃ E, Hid (endL d i = E) := ⟨_, rfl⟩
  obtain ⟨bl, HBL⟩ : ∃ b, Hid (belL d i = b) := ⟨_, rfl⟩
  have hEb : E = i + 1 + bl := by rw [← HE.out, ← HBL.out]; exact HEB.out
  rw [HE.out] at hEn HGR
  go_upto_region 3 with (go_at_call 34; refine (l3Item_is HX.out HD0.out).mono ?_; rintro e w1 ⟨rfl, hb1⟩; have k1 := (H0.out.below hb1 l0).cell 0; simp at k1)
  have s1 := hb1.size
  have HA1 : Hid (RowAt w1 w.heap.size #[.slice a n cap] 25) := H0.out.below hb1 l0
  have HZ1 : Hid (RowAt w1 (w.heap.size + 1) #[.slice none 0 0] 25) := H1.out.below hb1 l1
  have HB1 : Hid (Below w.heap.size w w1) := HB0.out.trans (hb1.mono s0)
  have HD1 : Hid (Dc w1 a n cap d) := HD0.out.below hb1
  have HSM : Hid (∀ k, k < d.length → SmB (d.getD k bl0)) := docB_small HDB.out
  clear k0 hb1 H0 H1 HB0 HD0
  go_wp2_with fail
  refine (l3Copy_any HD1.out (by omega) HSM.out).mono ?_
  rintro e w2 ⟨⟨p, q, rbs, rfl, ho2⟩, hb2⟩
  have s2 := hb2.size
  go_upto_region 4 with fail
  have A3 : Below w2.heap.size w2 (w2.alloc (.cells #[.slice p n q] 25)) := (Below.refl _ _).alloc (Nat.le_refl _) _
  have G3 : RowAt (w2.alloc (.cells #[.slice p n q] 25)) w2.heap.size #[.slice p n q] 25 := rowAt_new _ _ _
  have O3 : DocOwn (w2.alloc (.cells #[.slice p n q] 25)) w1.heap.size w2.heap.size (.slice p n q) rbs d := ho2.below (Nat.le_refl _) A3
  have B3 : Below w1.heap.size w1 (w2.alloc (.cells #[.slice p n q] 25)) := hb2.alloc s2 _
  clear k1 ho2 hb2 A3
  generalize w2.alloc (.cells #[.slice p n q] 25) = w3 at G3 O3 B3 ⊢
  have hq1 := O3.dc.2.1
  have hq2 := O3.dc.2.2.1
  unfold maxLen at hq2
  obtain ⟨g, rfl, hg1, hg2, -, -⟩ := docOwn_at O3 hin
  have gE : g < w2.heap.size := O3.2.1 g rfl
  have HG3 : Hid (RowAt w3 w2.heap.size #[.slice (some ⟨g, 0, none⟩) n q] 25) := G3
  have HO3 : Hid (DocOwn w3 w1.heap.size w2.heap.size (.slice (some ⟨g, 0, none⟩) n q) rbs d) := O3
  have HB3 : Hid (Below w1.heap.size w1 w3) := B3
  have zz := G3.lt
  have s3 := B3.size
  have z0 := HA1.out.lt
  have z1 := HZ1.out.lt
  clear G3 O3 B3
  have a0 : w3.cell? ⟨w.heap.size, 0, none⟩ = some (.slice a n cap) := (HA1.out.below HB3.out z0).cell 0
  go_upto_region 5 with (go_at_call 36; refine (l3Below_any (HD1.out.below HB3.out) hin hn8 HK2.out HV0.out).mono ?_; rintro e w4 ⟨rfl, hb4⟩; rw [HBL.out])
  have s4 := hb4.size
  replace HG3 : Hid (RowAt w4 w2.heap.size #[.slice (some ⟨g, 0, none⟩) n q] 25) := HG3.out.below hb4 zz
  replace HO3 : Hid (DocOwn w4 w1.heap.size w2.heap.size (.slice (some ⟨g, 0, none⟩) n q) rbs d) := HO3.out.below (by omega) hb4
  replace HB3 : Hid (Below w1.heap.size w1 w4) := HB3.out.trans (hb4.mono s3)
  clear a0 hb4
  have a0 : w4.cell? ⟨w.heap.size, 0, none⟩ = some (.slice a n cap) := (HA1.out.below HB3.out z0).cell 0
  rcases (HD1.out.below HB3.out).2.2.2 with e | ⟨b, off, rfl, hbl, hcl⟩
  · rw [e] at hid
    exact absurd hid (by simp)
  obtain ⟨ta, tn, tc, ca, cn, cc, hblk⟩ := hcl i hid
  have c1 := hblk.2.1
  obtain ⟨V0, HVV⟩ : ∃ V, Hid ((d.getD i bl0).2.1 = V) := ⟨_, rfl⟩
  rw [HVV.out] at c1
  have hv0 : 0 ≤ V0 := by rw [← HVV.out]; exact HV0.out
  have hii : (i : Int) < (n : Int) := by omega
  have hi0 : (0 : Int) ≤ (i : Int) := by omega
  have HZ4 : Hid (RowAt w4 (w.heap.size + 1) #[.slice none 0 0] 25) := HZ1.out.below HB3.out z1
  have HB4 : Hid (Below w.heap.size w w4) := HB1.out.trans (HB3.out.mono (by omega))
  have hs43 : w3.heap.size ≤ w4.heap.size := s4
  clear hcl hblk
  by_cases hvz : V0 = 0
  · subst hvz
    have HLF : Hid (liftF d i = if E = i + 1 then some (d.set i (1, 0, (d.getD i bl0).2.2.1, 0, 0, [])) else none) := by
      show liftF d i = _
      unfold liftF
      rw [if_pos HK2.out, HVV.out, if_neg (by omega), HE.out]
    by_cases hbp : 0 < bl
    · have hbi : (0 : Int) < (bl : Int) := by omega
      have HNO : Hid (docF liftF d i = none) := by
        show docF liftF d i = none
        rw [HFE.out, HLF.out, if_neg (by omega)]
        rfl
      go_wp2_with (refine wpList_store_row rfl 25 (.tmp 4) (.tmp 28) rfl (w.heap.size + 1) #[.slice none 0 0] rfl rfl 25 _ HZ4.out docI_info rfl (cells1_one _ _ _) ?_)
      refine bodyPost_ret (v := .tuple #[.agg #[.slice none 0 0], .bool false]) ?_ rfl ⟨.inl ⟨HNO.out, rfl⟩, below_row HB4.out (by omega) _⟩
      rw [results_cell_tmp rfl]
      simp [asAddr, Result.andThen, run_docOf (RowAt.setRow HZ4.out _)]
    · have hbi : ¬ (0 : Int) < (bl : Int) := by omega
      obtain ⟨d', HD'⟩ : ∃ d', Hid (d.set i (1, 0, (d.getD i bl0).2.2.1, 0, 0, []) = d') := ⟨_, rfl⟩
      have HLS : Hid (liftF d i = some d') := by
        show liftF d i = some d'
        rw [HLF.out, if_pos (by omega), HD'.out]
      have HYES : Hid (docF liftF d i = some d') := by
        show docF liftF d i = some d'
        rw [HFE.out, HLS.out, Option.bind_some, if_pos (lift_ok HOU.out hid HLS.out)]
      have HSET : Hid (d.set i (1, (d.getD i bl0).2) = d') := by
        show d.set i (1, (d.getD i bl0).2) = d'
        rw [← HD'.out]
        have h2 := List.all_eq_true.1 HALL.out (d.getD i bl0) (by rw [getD_bl hid]; exact List.getElem_mem hid)
        have h3 := HK2.out
        have h4 := HVV.out
        obtain ⟨⟨K, V, t, R, C, l⟩, hx⟩ : ∃ x, x = d.getD i bl0 := ⟨_, rfl⟩
        rw [← hx] at h2 h3 h4 ⊢
        simp only at h3 h4
        subst h3 h4
        obtain ⟨rfl, rfl, rfl⟩ := partBB_item h2
        rfl
      obtain ⟨_, he, -, -, hcs, hfz⟩ := docOwn_at HO3.out hin
      cases he
      have q0 : w4.cell? ⟨g, i * 6, none⟩ = some (.int .i64 (rbs.getD i rb0).1) := hcs 0 (by omega)
      have f0 : w4.frozen? ⟨g, i * 6, none⟩ = false := hfz 0
      have k4 : w4.cell? ⟨w2.heap.size, 0, none⟩ = some (.slice (some ⟨g, 0, none⟩) n q) := HG3.out.cell 0
      have O5 := docOwn_kind HO3.out i hid 1
      rw [HSET.out] at O5
      have HO5 : Hid (DocOwn (w4.setCell ⟨g, i * 6, none⟩ (.int .i64 1)) w1.heap.size w2.heap.size (.slice (some ⟨g, 0, none⟩) n q) (rbs.set i (1, (rbs.getD i rb0).2)) d') := O5
      have G5 : RowAt (w4.setCell ⟨g, i * 6, none⟩ (.int .i64 1)) w2.heap.size #[.slice (some ⟨g, 0, none⟩) n q] 25 := HG3.out.other _ _ (by simp; omega)
      have HZ5 : Hid (RowAt (w4.setCell ⟨g, i * 6, none⟩ (.int .i64 1)) (w.heap.size + 1) #[.slice none 0 0] 25) := HZ4.out.other _ _ (by simp; omega)
      have HB5 : Hid (Below w.heap.size w (w4.setCell ⟨g, i * 6, none⟩ (.int .i64 1))) := HB4.out.setCell (by show _ ≤ g; omega) _
      have sz5 : w3.heap.size ≤ (w4.setCell ⟨g, i * 6, none⟩ (.int .i64 1)).heap.size := by simpa using s4
      clear hcs hfz O5
      go_upto_region 9 with fail
      clear q0 f0 k4 a0 c1
      generalize w4.setCell ⟨g, i * 6, none⟩ (.int .i64 1) = w5 at HO5 G5 HZ5 HB5 sz5 ⊢
      have k5 : w5.cell? ⟨w2.heap.size, 0, none⟩ = some (.slice (some ⟨g, 0, none⟩) n q) := G5.cell 0
      have HLN : Hid (n = d'.length) := HO5.out.len
      go_wp2_with (refine wpList_store_row rfl 25 (.tmp 4) (.tmp 34) rfl (w.heap.size + 1) #[.slice (some ⟨g, 0, none⟩) n q] rfl rfl 25 _ HZ5.out docI_info rfl (cells1_one _ _ _) ?_)
      refine bodyPost_ret (v := .tuple #[.agg #[.slice (some ⟨g, 0, none⟩) n q], .bool true]) ?_ rfl ⟨.inr ⟨d', HYES.out, some ⟨g, 0, none⟩, q, by rw [← HLN.out], rbs.set i (1, (rbs.getD i rb0).2), ?_⟩, below_row HB5.out (by omega) _⟩
      · rw [results_cell_tmp rfl]
        simp [asAddr, Result.andThen, run_docOf (RowAt.setRow HZ5.out _)]
      · have sz : (w5.setRow (w.heap.size + 1) #[.slice (some ⟨g, 0, none⟩) n q]).heap.size = w5.heap.size := by simp [World.setRow]
        rw [sz, ← HLN.out]
        exact (HO5.out.mid (fun b hb hb' => setRow_other _ _ _ _ (by omega))).less (by omega) (by omega)
  have hvb : (V0 == 0) = false := by simp [hvz]
  go_wp2_with fail
  clear a0 c1
  go_loopw [8] (fun mv wr => ∃ (m : Nat) (rbs' : List Rb), i ≤ m ∧ m ≤ E ∧ mv = .int .i64 m ∧ RowAt wr w2.heap.size #[.slice (some ⟨g, 0, none⟩) n q] 25 ∧ DocOwn wr w1.heap.size w2.heap.size (.slice (some ⟨g, 0, none⟩) n q) rbs' (deepTo d i (-1) m) ∧ w3.heap.size ≤ wr.heap.size ∧ Below w1.heap.size w1 wr) (fun mv _ => E - (intOf mv).toNat)
  case atStart => exact ⟨i, rbs, Nat.le_refl _, by omega, rfl, HG3.out, by rw [deepTo_start]; exact HO3.out, s4, HB3.out⟩
  case round =>
    obtain ⟨m, rbs', hm1, hm2, rfl, hG, hO, hs, hB⟩ := hrel
    have HGm : Hid (RowAt wr w2.heap.size #[.slice (some ⟨g, 0, none⟩) n q] 25) := hG
    have HOm : Hid (DocOwn wr w1.heap.size w2.heap.size (.slice (some ⟨g, 0, none⟩) n q) rbs' (deepTo d i (-1) m)) := hO
    have HBm : Hid (Below w1.heap.size w1 wr) := hB
    clear hG hB
    by_cases hlt : m < E
    · have hmd : m < d.length := by have := HN.out; omega
      have hmn : (m : Int) < (n : Int) := by omega
      have hm0 : (0 : Int) ≤ (m : Int) := by omega
      have hle : (m : Int) ≤ (i : Int) + (bl : Int) := by omega
      go_upto_region 13 with fail
      have HBc : Hid (Below w1.heap.size w1 wr) := HBm.out
      have HGc : Hid (RowAt wr w2.heap.size #[.slice (some ⟨g, 0, none⟩) n q] 25) := HGm.out
      have HOc : Hid (DocOwn wr w1.heap.size w2.heap.size (.slice (some ⟨g, 0, none⟩) n q) rbs' (deepTo d i (-1) m)) := HOm.out
      have sc : w3.heap.size ≤ wr.heap.size := hs
      clear HGm HOm HBm
      obtain ⟨_, he, -, -, hcs, hfz⟩ := docOwn_at HOc.out (show m < n by omega)
      cases he
      have hcell := hcs 1 (by omega)
      have hfr := hfz 1
      have hget : (deepTo d i (-1) m).getD m bl0 = d.getD m bl0 := by rw [deepTo_get hmd, if_neg (by omega)]
      have hbv : (rbs'.getD m rb0).2.1 = (d.getD m bl0).2.1 := by
        obtain ⟨lo, mid, hi, h1, -⟩ := HOc.out.2.2.2
        have := (h1 m (by rw [deepTo_len]; exact hmd)).2.2.1.2.1
        rw [hget] at this
        exact this
      obtain ⟨V, HV⟩ : ∃ V, Hid ((d.getD m bl0).2.1 = V) := ⟨_, rfl⟩
      have hc1 : wr.cell? ⟨g, m * 6 + 1, none⟩ = some (.int .i64 V) := by
        have h1 : (rbCells (rbs'.getD m rb0))[1]? = some (.int .i64 (rbs'.getD m rb0).2.1) := rfl
        rw [hcell, h1, hbv, HV.out]
      obtain ⟨-, hv0, hv3⟩ := HGR.out m hm1 hlt
      rw [HV.out] at hv0 hv3
      have HLV : Hid (DocOwn (wr.setCell ⟨g, m * 6 + 1, none⟩ (.int .i64 (V + -1))) w1.heap.size w2.heap.size (.slice (some ⟨g, 0, none⟩) n q) (rbs'.set m ((rbs'.getD m rb0).1, V + -1, (rbs'.getD m rb0).2.2)) (deepTo d i (-1) (m + 1))) := by
        have h1 := docOwn_level HOc.out m (by rw [deepTo_len]; exact hmd) (V + -1)
        rw [hget] at h1
        rw [deepTo_succ hm1]
        have h2 : bump (-1) (d.getD m bl0) = ((d.getD m bl0).1, V + -1, (d.getD m bl0).2.2) := by
          unfold bump
          rw [HV.out]
        rw [h2]
        exact h1
      have HC1 : Hid (wr.cell? ⟨g, m * 6 + 1, none⟩ = some (.int .i64 V)) := hc1
      have HF1 : Hid (wr.frozen? ⟨g, m * 6 + 1, none⟩ = false) := hfr
      clear hcs hfz hcell hfr hget hbv hc1 hO
      refine wp_region_noPanic ?_
      refine wp_region_held_drew (S := fun w' => RowAt w' w2.heap.size #[.slice (some ⟨g, 0, none⟩) n q] 25) (by kernel_rfl) HGc.out.drew (fun hHeld => ?_)
      have HLd : Hid (DocOwn (wr.drew.setCell ⟨g, m * 6 + 1, none⟩ (.int .i64 (V + -1))) w1.heap.size w2.heap.size (.slice (some ⟨g, 0, none⟩) n q) (rbs'.set m ((rbs'.getD m rb0).1, V + -1, (rbs'.getD m rb0).2.2)) (deepTo d i (-1) (m + 1))) := HLV.out
      have HCd : Hid (wr.drew.cell? ⟨g, m * 6 + 1, none⟩ = some (.int .i64 V)) := HC1.out
      have HFd : Hid (wr.drew.frozen? ⟨g, m * 6 + 1, none⟩ = false) := HF1.out
      have HBd : Hid (Below w1.heap.size w1 wr.drew) := HBc.out.drew
      have sd : w3.heap.size ≤ wr.drew.heap.size := sc
      generalize wr.drew = u1 at hHeld HLd HCd HFd HBd sd ⊢
      clear HLV HC1 HF1 HBc sc HGc HOc
      refine take_at 0 43 (.pointer (some ⟨w2.heap.size, 0, none⟩)) rfl rfl (by kernel_rfl) (by kernel_rfl) (by kernel_rfl) (fun _ _ _ h => h) (Or.inl ⟨by kernel_rfl, fun w' hS' => by go_simp⟩) hHeld ?_
      (try simp only [Act.put, List.setIfInBounds_toArray, List.set_cons_zero, List.set_cons_succ])
      refine take_at 1 44 (.slice (some ⟨g, 0, none⟩) n q) rfl rfl (by kernel_rfl) (by kernel_rfl) (by kernel_rfl) (fun _ _ _ h => h) (Or.inl ⟨by kernel_rfl, fun w' hS' => by have hc := RowAt.cell hS' 0; go_simp⟩) hHeld ?_
      (try simp only [Act.put, List.setIfInBounds_toArray, List.set_cons_zero, List.set_cons_succ])
      refine take_at 2 45 (.int .i64 m) rfl rfl (by kernel_rfl) (by kernel_rfl) (by kernel_rfl) (fun _ _ _ h => h) (Or.inl ⟨by kernel_rfl, fun w' hS' => by go_simp⟩) hHeld ?_
      (try simp only [Act.put, List.setIfInBounds_toArray, List.set_cons_zero, List.set_cons_succ])
      refine take_at 3 46 (.pointer (some ⟨w2.heap.size, 0, none⟩)) rfl rfl (by kernel_rfl) (by kernel_rfl) (by kernel_rfl) (fun _ _ _ h => h) (Or.inl ⟨by kernel_rfl, fun w' hS' => by go_simp⟩) hHeld ?_
      (try simp only [Act.put, List.setIfInBounds_toArray, List.set_cons_zero, List.set_cons_succ])
      refine take_at 4 47 (.slice (some ⟨g, 0, none⟩) n q) rfl rfl (by kernel_rfl) (by kernel_rfl) (by kernel_rfl) (fun _ _ _ h => h) (Or.inl ⟨by kernel_rfl, fun w' hS' => by have hc := RowAt.cell hS' 0; go_simp⟩) hHeld ?_
      (try simp only [Act.put, List.setIfInBounds_toArray, List.set_cons_zero, List.set_cons_succ])
      refine take_at 5 48 (.int .i64 m) rfl rfl (by kernel_rfl) (by kernel_rfl) (by kernel_rfl) (fun _ _ _ h => h) (Or.inl ⟨by kernel_rfl, fun w' hS' => by go_simp⟩) hHeld ?_
      (try simp only [Act.put, List.setIfInBounds_toArray, List.set_cons_zero, List.set_cons_succ])
      refine take_at 6 49 (.pointer (some ⟨g, m * 6, none⟩)) rfl rfl (by kernel_rfl) (by kernel_rfl) (by kernel_rfl) (fun _ _ _ h => h) (Or.inl ⟨by kernel_rfl, fun w' hS' => by go_simp⟩) hHeld ?_
      (try simp only [Act.put, List.setIfInBounds_toArray, List.set_cons_zero, List.set_cons_succ])
      refine take_at 7 50 (.pointer (some ⟨g, m * 6 + 1, none⟩)) rfl rfl (by kernel_rfl) (by kernel_rfl) (by kernel_rfl) (fun _ _ _ h => h) (Or.inl ⟨by kernel_rfl, fun w' hS' => by go_simp⟩) hHeld ?_
      (try simp only [Act.put, List.setIfInBounds_toArray, List.set_cons_zero, List.set_cons_succ])
      refine wpAnyH_ready (rs := [8]) (by kernel_rfl) (by simp) ?_
      refine AllReadyH.cons rfl (fun K hK => ?_) AllReadyH.nil
      have d4 := HCd.out
      go_simp
      refine hK.out _ _ hHeld (fun hHeld => ?_)
      clear hK K d4
      (try simp only [Act.put, List.setIfInBounds_toArray, List.set_cons_zero, List.set_cons_succ])
      refine take_at 9 52 (.int .i64 (V + -1)) rfl rfl (by kernel_rfl) (by kernel_rfl) (by kernel_rfl) (fun _ _ _ h => h) (Or.inl ⟨by kernel_rfl, fun w' hS' => by go_simp; rw [IntKind.wrap_i64]; omega⟩) hHeld ?_
      (try simp only [Act.put, List.setIfInBounds_toArray, List.set_cons_zero, List.set_cons_succ])
      refine take_at 10 53 (.pointer (some ⟨g, m * 6, none⟩)) rfl rfl (by kernel_rfl) (by kernel_rfl) (by kernel_rfl) (fun _ _ _ h => h) (Or.inl ⟨by kernel_rfl, fun w' hS' => by go_simp⟩) hHeld ?_
      (try simp only [Act.put, List.setIfInBounds_toArray, List.set_cons_zero, List.set_cons_succ])
      refine take_at 11 54 (.pointer (some ⟨g, m * 6 + 1, none⟩)) rfl rfl (by kernel_rfl) (by kernel_rfl) (by kernel_rfl) (fun _ _ _ h => h) (Or.inl ⟨by kernel_rfl, fun w' hS' => by go_simp⟩) hHeld ?_
      (try simp only [Act.put, List.setIfInBounds_toArray, List.set_cons_zero, List.set_cons_succ])
      refine wpAnyH_ready (rs := [12]) (by kernel_rfl) (by simp) ?_
      refine AllReadyH.cons rfl (fun K hK => ?_) AllReadyH.nil
      have d4 := HCd.out
      have f4 := HFd.out
      rw [if_pos (by kernel_rfl)]
      go_simp
      refine hK.out _ _ (RowAt.other hHeld _ _ (by simp; omega)) (fun hHeld => ?_)
      clear hK K d4 f4
      (try simp only [Act.put])
      refine wpAnyH_done (by kernel_rfl) ?_ _
      refine NoPanic.normal ?_
      have hG9 := hHeld
      clear hHeld
      go_wp2_with fail
      go_roundw
      case rel => exact ⟨m + 1, _, by omega, by omega, by go_num, hG9, HLd.out, by simpa using sd, HBd.out.setCell (p := ⟨g, m * 6 + 1, none⟩) hg1 _⟩
      case measure => simp [intOf]; omega
    · obtain rfl : m = E := by omega
      have hle : ¬ (m : Int) ≤ (i : Int) + (bl : Int) := by omega
      obtain ⟨d', HD'⟩ : ∃ d', Hid (deepL d i (-1) = d') := ⟨_, rfl⟩
      have HDE : Hid (deepTo d i (-1) m = d') := by
        show deepTo d i (-1) m = d'
        rw [← HD'.out, ← HE.out]
        rfl
      have HLS : Hid (liftF d i = some d') := by
        show liftF d i = some d'
        unfold liftF
        rw [if_pos HK2.out, HVV.out, if_pos (by omega), HD'.out]
      have HYES : Hid (docF liftF d i = some d') := by
        show docF liftF d i = some d'
        rw [HFE.out, HLS.out, Option.bind_some, if_pos (lift_ok HOU.out hid HLS.out)]
      have hOE := HOm.out
      rw [HDE.out] at hOE
      have HLN : Hid (n = d'.length) := hOE.len
      have HO5 : Hid (DocOwn wr w1.heap.size w2.heap.size (.slice (some ⟨g, 0, none⟩) n q) rbs' d') := hOE
      have HZ5 : Hid (RowAt wr (w.heap.size + 1) #[.slice none 0 0] 25) := HZ1.out.below HBm.out z1
      have HB5 : Hid (Below w.heap.size w wr) := HB1.out.trans (HBm.out.mono (by omega))
      have b5 : wr.cell? ⟨w2.heap.size, 0, none⟩ = some (.slice (some ⟨g, 0, none⟩) n q) := HGm.out.cell 0
      clear hO hOE
      go_wp2_with (refine wpList_store_row rfl 25 (.tmp 4) (.tmp 55) rfl (w.heap.size + 1) #[.slice (some ⟨g, 0, none⟩) n q] rfl rfl 25 _ HZ5.out docI_info rfl (cells1_one _ _ _) ?_)
      refine bodyPost_ret (v := .tuple #[.agg #[.slice (some ⟨g, 0, none⟩) n q], .bool true]) ?_ rfl ⟨.inr ⟨d', HYES.out, some ⟨g, 0, none⟩, q, by rw [← HLN.out], rbs', ?_⟩, below_row HB5.out (by omega) _⟩
      · rw [results_cell_tmp rfl]
        simp [asAddr, Result.andThen, run_docOf (RowAt.setRow HZ5.out _)]
      · have sz : (wr.setRow (w.heap.size + 1) #[.slice (some ⟨g, 0, none⟩) n q]).heap.size = wr.heap.size := by simp [World.setRow]
        rw [sz, ← HLN.out]
        exact (HO5.out.mid (fun b hb hb' => setRow_other _ _ _ _ (by omega))).less (by omega) (by omega)
end Go.Proofs.Ytoliebgdlnjahab
namespace Go.Proofs.Ytoliebgdlnjahab
open Go.RowKit

/-- What lifting gives, block by block. -/
theorem lift_parts {d x : List Bl} {z : Int} (h : docF liftF d z = some x) : docB x = true ∧ ∃ i : Nat, z = (i : Int) ∧ i < d.length ∧ (d.getD i bl0).1 = 2 ∧ 0 ≤ (d.getD i bl0).2.1 ∧ x.length = d.length ∧ ∀ k, k < d.length → (x.getD k bl0 = if belB d i k = true then (if (d.getD i bl0).2.1 = 0 then (1, (d.getD k bl0).2) else bump (-1) (d.getD k bl0)) else d.getD k bl0) ∧ (belB d i k = true → 0 ≤ (d.getD k bl0).2.1 ∧ (d.getD k bl0).2.1 ≤ 3) := by
  unfold docF at h
  split at h
  · rename_i hc
    obtain ⟨hd, hz0, hz1⟩ := hc
    obtain ⟨i, rfl⟩ : ∃ i : Nat, z = i := ⟨z.toNat, by omega⟩
    have hi : i < d.length := by omega
    simp only [Int.toNat_natCast] at h
    obtain ⟨h8, hall, hou⟩ := docB_parts hd
    cases he : liftF d i with
    | none => rw [he] at h; simp at h
    | some d' =>
      rw [he] at h
      simp only [Option.bind_some] at h
      split at h
      · rename_i ho
        cases h
        obtain ⟨hf, hl⟩ := liftF_form hall hou hi he
        have hx : docB x = true := (doc_parts2 x).2 ⟨by omega, hf, ho⟩
        unfold liftF at he
        split at he
        · rename_i h1
          have hpos := (group_items hou hi h1 i (Nat.le_refl _) (by unfold endL; omega)).2.1
          have hge : i + 1 ≤ endL d i := by unfold endL; omega
          refine ⟨hx, i, rfl, hi, h1, hpos, hl, fun k hk => ⟨?_, fun hb => ?_⟩⟩
          · split at he
            · rename_i h2
              cases he
              rw [deep_get hk]
              unfold belB
              by_cases hb : i ≤ k ∧ k < endL d i
              · rw [if_pos hb, if_pos (decide_eq_true hb), if_neg (by omega)]
              · rw [if_neg hb, if_neg (by rw [decide_eq_false hb]; decide)]
            · rename_i h2
              split at he
              · rename_i h3
                cases he
                have hz : (d.getD i bl0).2.1 = 0 := by omega
                unfold belB
                rw [h3]
                by_cases hki : k = i
                · subst hki
                  rw [if_pos (decide_eq_true ⟨Nat.le_refl _, by omega⟩), if_pos hz]
                  have hp : partBB (d.getD k bl0) = true := by
                    rw [getD_blS hk]
                    exact List.all_eq_true.1 hall _ (List.getElem_mem hk)
                  have e1 : (d.set k (1, 0, (d.getD k bl0).2.2.1, 0, 0, [])).getD k bl0 = (1, 0, (d.getD k bl0).2.2.1, 0, 0, []) := by simp [List.getD, hk]
                  rw [e1]
                  obtain ⟨⟨K, V, t, R, C, l⟩, hy⟩ : ∃ y, y = d.getD k bl0 := ⟨_, rfl⟩
                  rw [← hy] at hp h1 hz ⊢
                  simp only at h1 hz
                  subst h1 hz
                  obtain ⟨rfl, rfl, rfl⟩ := partBB_item hp
                  rfl
                · rw [if_neg (by rw [decide_eq_false (by omega)]; decide)]
                  simp [List.getD, List.getElem?_set_ne (Ne.symm hki)]
              · cases he
          · unfold belB at hb
            have := of_decide_eq_true hb
            exact (group_items hou hi h1 k this.1 this.2).2
        · cases he
      · cases h
  · cases h
set_option maxRecDepth 100000 in
set_option maxHeartbeats 16000000 in
theorem lawDocLift_walk (a : Option Addr) (n cap : Nat) (zs : List Int) (w : World) (h : Byt w.heap.size w a n cap zs) :
    Calls Try.prog 5 #[.slice a n cap] w fun e w' => e = .returned (.bool true) ∧ Below w.heap.size w w' := by
  have HY : Hid (Byt w.heap.size w a n cap zs) := h
  have hc := h.2.1
  have hm := h.2.2.1
  unfold maxLen at hm
  clear h
  by_cases hn : 1048576 < n
  · have hd : decide ((1048576 : Int) < (n : Int)) = true := by simp; omega
    go_enter Try.func5, Try.ntmps5
    go_wp2_with fail
    go_ret
    exact ⟨rfl, Below.refl _ _⟩
  have hd : decide ((1048576 : Int) < (n : Int)) = false := by simp; omega
  go_enter Try.func5, Try.ntmps5
  go_wp2_with fail
  refine (drDrawDocLift_any w.heap.size a n cap zs _ HY.out (Nat.le_refl _)).mono ?_
  rintro e w1 ⟨⟨a0, m0, c0, d, z, rfl, hT1, hS1, hz0, hz1⟩, hb1⟩
  have sw1 := hb1.size
  have HBw1 : Hid (Below w.heap.size w w1) := hb1
  have HDw1 : Hid (Dc w1 a0 m0 c0 d) := hT1
  have HSP0 : Hid (DocSp d) := hS1
  clear hT1 hb1 hS1 hn hd HY
  obtain ⟨r, HRR⟩ : ∃ r, Hid (docF liftF d z = r) := ⟨_, rfl⟩
  obtain ⟨dr, HDR⟩ : ∃ dr, Hid (r.getD [] = dr) := ⟨_, rfl⟩
  obtain ⟨gg, HGB⟩ : ∃ g, Hid (r.isSome = g) := ⟨_, rfl⟩
  have HSP : Hid (∀ {a : Option Addr} {n cap : Nat} {u : World}, Dc u a n cap d → Calls Try.prog 18 #[.agg #[.slice a n cap], .int .i64 z] u fun e w' => (∃ p m q, e = .returned (.tuple #[.agg #[.slice p m q], .bool gg]) ∧ Dc w' p m q dr) ∧ Below u.heap.size u w') := fun hu => (specDocLift_any hu).mono fun e w' hr => by
    obtain ⟨h1, h2⟩ := hr
    rw [HRR.out] at h1
    obtain ⟨p, m, q, rbs, h3, h4⟩ := docRes_of h1
    rw [HGB.out] at h3
    rw [HDR.out] at h4
    exact ⟨⟨p, m, q, h3, h4.dc⟩, h2⟩
  have HIM : Hid (∀ {a : Option Addr} {n cap : Nat} {u : World}, Dc u a n cap d → Calls Try.prog 13 #[.agg #[.slice a n cap], .int .i64 z] u fun e w' => (∃ p m q, e = .returned (.tuple #[.agg #[.slice p m q], .bool gg]) ∧ Dc w' p m q dr) ∧ Below u.heap.size u w') := fun hu => (implDocLift_any hu).mono fun e w' hr => by
    obtain ⟨h1, h2⟩ := hr
    rw [HRR.out] at h1
    obtain ⟨p, m, q, rbs, h3, h4⟩ := docRes_of h1
    rw [HGB.out] at h3
    rw [HDR.out] at h4
    exact ⟨⟨p, m, q, h3, h4.dc⟩, h2⟩
  go_upto_region 4 with fail
  have hbw2 : Below w1.heap.size w1 (w1.alloc (.cells #[.slice a0 m0 c0] 25)) := (Below.refl _ _).alloc (Nat.le_refl _) _
  have hgw2 : RowAt (w1.alloc (.cells #[.slice a0 m0 c0] 25)) w1.heap.size #[.slice a0 m0 c0] 25 := rowAt_new _ _ _
  have hzw2 : w1.heap.size < (w1.alloc (.cells #[.slice a0 m0 c0] 25)).heap.size := by simp
  generalize hqw2 : (w1.alloc (.cells #[.slice a0 m0 c0] 25)) = w2 at hbw2 hgw2 hzw2 ⊢
  clear hqw2
  have sw2 := hbw2.size
  have HDw2 : Hid (Dc w2 a0 m0 c0 d) := HDw1.out.below hbw2
  have HBw2 : Hid (Below w.heap.size w w2) := HBw1.out.trans (hbw2.mono HBw1.out.size)
  clear HDw1 HBw1
  obtain ⟨X, hX⟩ : ∃ X, w1.heap.size = X := ⟨_, rfl⟩
  rw [hX] at hgw2 hzw2 ⊢
  have HGw2 : Hid (RowAt w2 X #[.slice a0 m0 c0] 25) := hgw2
  have kGw2 : w2.cell? ⟨X, 0, none⟩ = some (.slice a0 m0 c0) := hgw2.cell 0
  clear hgw2 hbw2 hX
  go_wp2_with fail
  refine (HSP.out HDw2.out).mono ?_
  rintro e w3 ⟨⟨p1, m1, q1, rfl, hO3⟩, hb3⟩
  have HEw3 : Hid (Dc w3 p1 m1 q1 dr) := hO3
  clear hO3
  have sw3 := hb3.size
  have HGw3 : Hid (RowAt w3 X #[.slice a0 m0 c0] 25) := HGw2.out.below hb3 HGw2.out.lt
  have kGw3 : w3.cell? ⟨X, 0, none⟩ = some (.slice a0 m0 c0) := HGw3.out.cell 0
  have HDw3 : Hid (Dc w3 a0 m0 c0 d) := HDw2.out.below hb3
  have HBw3 : Hid (Below w.heap.size w w3) := HBw2.out.trans (hb3.mono HBw2.out.size)
  clear HGw2 kGw2 HDw2 HBw2
  clear hb3
  go_upto_region 5 with fail
  have hbw4 : Below w3.heap.size w3 (w3.alloc (.cells #[.slice p1 m1 q1] 25)) := (Below.refl _ _).alloc (Nat.le_refl _) _
  have hgw4 : RowAt (w3.alloc (.cells #[.slice p1 m1 q1] 25)) w3.heap.size #[.slice p1 m1 q1] 25 := rowAt_new _ _ _
  have hzw4 : w3.heap.size < (w3.alloc (.cells #[.slice p1 m1 q1] 25)).heap.size := by simp
  generalize hqw4 : (w3.alloc (.cells #[.slice p1 m1 q1] 25)) = w4 at hbw4 hgw4 hzw4 ⊢
  clear hqw4
  have sw4 := hbw4.size
  have HGw4 : Hid (RowAt w4 X #[.slice a0 m0 c0] 25) := HGw3.out.below hbw4 HGw3.out.lt
  have kGw4 : w4.cell? ⟨X, 0, none⟩ = some (.slice a0 m0 c0) := HGw4.out.cell 0
  have HDw4 : Hid (Dc w4 a0 m0 c0 d) := HDw3.out.below hbw4
  have HEw4 : Hid (Dc w4 p1 m1 q1 dr) := HEw3.out.below hbw4
  have HBw4 : Hid (Below w.heap.size w w4) := HBw3.out.trans (hbw4.mono HBw3.out.size)
  clear HGw3 kGw3 HDw3 HEw3 HBw3
  obtain ⟨XV, hXV⟩ : ∃ X, w3.heap.size = X := ⟨_, rfl⟩
  rw [hXV] at hgw4 hzw4 ⊢
  have HVw4 : Hid (RowAt w4 XV #[.slice p1 m1 q1] 25) := hgw4
  have kVw4 : w4.cell? ⟨XV, 0, none⟩ = some (.slice p1 m1 q1) := hgw4.cell 0
  clear hgw4 hbw4 hXV
  go_wp2_with fail
  refine (HIM.out HDw4.out).mono ?_
  rintro e w5 ⟨⟨p2, m2, q2, rfl, hO5⟩, hb5⟩
  have HFw5 : Hid (Dc w5 p2 m2 q2 dr) := hO5
  clear hO5
  have sw5 := hb5.size
  have HGw5 : Hid (RowAt w5 X #[.slice a0 m0 c0] 25) := HGw4.out.below hb5 HGw4.out.lt
  have kGw5 : w5.cell? ⟨X, 0, none⟩ = some (.slice a0 m0 c0) := HGw5.out.cell 0
  have HVw5 : Hid (RowAt w5 XV #[.slice p1 m1 q1] 25) := HVw4.out.below hb5 HVw4.out.lt
  have kVw5 : w5.cell? ⟨XV, 0, none⟩ = some (.slice p1 m1 q1) := HVw5.out.cell 0
  have HDw5 : Hid (Dc w5 a0 m0 c0 d) := HDw4.out.below hb5
  have HEw5 : Hid (Dc w5 p1 m1 q1 dr) := HEw4.out.below hb5
  have HBw5 : Hid (Below w.heap.size w w5) := HBw4.out.trans (hb5.mono HBw4.out.size)
  clear HGw4 kGw4 HVw4 kVw4 HDw4 HEw4 HBw4
  clear hb5
  go_upto_region 6 with fail
  have hbw6 : Below w5.heap.size w5 (w5.alloc (.cells #[.slice p2 m2 q2] 25)) := (Below.refl _ _).alloc (Nat.le_refl _) _
  have hgw6 : RowAt (w5.alloc (.cells #[.slice p2 m2 q2] 25)) w5.heap.size #[.slice p2 m2 q2] 25 := rowAt_new _ _ _
  have hzw6 : w5.heap.size < (w5.alloc (.cells #[.slice p2 m2 q2] 25)).heap.size := by simp
  generalize hqw6 : (w5.alloc (.cells #[.slice p2 m2 q2] 25)) = w6 at hbw6 hgw6 hzw6 ⊢
  clear hqw6
  have sw6 := hbw6.size
  have HGw6 : Hid (RowAt w6 X #[.slice a0 m0 c0] 25) := HGw5.out.below hbw6 HGw5.out.lt
  have kGw6 : w6.cell? ⟨X, 0, none⟩ = some (.slice a0 m0 c0) := HGw6.out.cell 0
  have HVw6 : Hid (RowAt w6 XV #[.slice p1 m1 q1] 25) := HVw5.out.below hbw6 HVw5.out.lt
  have kVw6 : w6.cell? ⟨XV, 0, none⟩ = some (.slice p1 m1 q1) := HVw6.out.cell 0
  have HDw6 : Hid (Dc w6 a0 m0 c0 d) := HDw5.out.below hbw6
  have HEw6 : Hid (Dc w6 p1 m1 q1 dr) := HEw5.out.below hbw6
  have HFw6 : Hid (Dc w6 p2 m2 q2 dr) := HFw5.out.below hbw6
  have HBw6 : Hid (Below w.heap.size w w6) := HBw5.out.trans (hbw6.mono HBw5.out.size)
  clear HGw5 kGw5 HVw5 kVw5 HDw5 HEw5 HFw5 HBw5
  obtain ⟨XU, hXU⟩ : ∃ X, w5.heap.size = X := ⟨_, rfl⟩
  rw [hXU] at hgw6 hzw6 ⊢
  have HUw6 : Hid (RowAt w6 XU #[.slice p2 m2 q2] 25) := hgw6
  have kUw6 : w6.cell? ⟨XU, 0, none⟩ = some (.slice p2 m2 q2) := hgw6.cell 0
  clear hgw6 hbw6 hXU
  have gne : (gg != gg) = false := by cases gg <;> rfl
  have geq : (gg == gg) = true := by cases gg <;> rfl
  go_wp2_with fail
  refine (lmDoc_same HFw6.out HEw6.out).mono ?_
  rintro e w7 ⟨rfl, hb7⟩
  have sw7 := hb7.size
  have HGw7 : Hid (RowAt w7 X #[.slice a0 m0 c0] 25) := HGw6.out.below hb7 HGw6.out.lt
  have kGw7 : w7.cell? ⟨X, 0, none⟩ = some (.slice a0 m0 c0) := HGw7.out.cell 0
  have HVw7 : Hid (RowAt w7 XV #[.slice p1 m1 q1] 25) := HVw6.out.below hb7 HVw6.out.lt
  have kVw7 : w7.cell? ⟨XV, 0, none⟩ = some (.slice p1 m1 q1) := HVw7.out.cell 0
  have HUw7 : Hid (RowAt w7 XU #[.slice p2 m2 q2] 25) := HUw6.out.below hb7 HUw6.out.lt
  have kUw7 : w7.cell? ⟨XU, 0, none⟩ = some (.slice p2 m2 q2) := HUw7.out.cell 0
  have HDw7 : Hid (Dc w7 a0 m0 c0 d) := HDw6.out.below hb7
  have HEw7 : Hid (Dc w7 p1 m1 q1 dr) := HEw6.out.below hb7
  have HFw7 : Hid (Dc w7 p2 m2 q2 dr) := HFw6.out.below hb7
  have HBw7 : Hid (Below w.heap.size w w7) := HBw6.out.trans (hb7.mono HBw6.out.size)
  clear HGw6 kGw6 HVw6 kVw6 HUw6 kUw6 HDw6 HEw6 HFw6 HBw6
  clear hb7
  cases gg
  · go_wp2_with fail
    refine (lmDoc_same HFw7.out HEw7.out).mono ?_
    rintro e w8 ⟨rfl, hb8⟩
    have sw8 := hb8.size
    have HGw8 : Hid (RowAt w8 X #[.slice a0 m0 c0] 25) := HGw7.out.below hb8 HGw7.out.lt
    have kGw8 : w8.cell? ⟨X, 0, none⟩ = some (.slice a0 m0 c0) := HGw8.out.cell 0
    have HVw8 : Hid (RowAt w8 XV #[.slice p1 m1 q1] 25) := HVw7.out.below hb8 HVw7.out.lt
    have kVw8 : w8.cell? ⟨XV, 0, none⟩ = some (.slice p1 m1 q1) := HVw8.out.cell 0
    have HUw8 : Hid (RowAt w8 XU #[.slice p2 m2 q2] 25) := HUw7.out.below hb8 HUw7.out.lt
    have kUw8 : w8.cell? ⟨XU, 0, none⟩ = some (.slice p2 m2 q2) := HUw8.out.cell 0
    have HDw8 : Hid (Dc w8 a0 m0 c0 d) := HDw7.out.below hb8
    have HEw8 : Hid (Dc w8 p1 m1 q1 dr) := HEw7.out.below hb8
    have HFw8 : Hid (Dc w8 p2 m2 q2 dr) := HFw7.out.below hb8
    have HBw8 : Hid (Below w.heap.size w w8) := HBw7.out.trans (hb8.mono HBw7.out.size)
    clear HGw7 kGw7 HVw7 kVw7 HUw7 kUw7 HDw7 HEw7 HFw7 HBw7
    clear hb8
    go_wp2_with fail
    go_ret
    exact ⟨rfl, HBw8.out⟩
  · obtain ⟨x, hx⟩ := Option.isSome_iff_exists.1 HGB.out
    have hdx : dr = x := by rw [← HDR.out, hx]; rfl
    obtain ⟨hi0, i, hzi, hi1, hi2, hi3, hi4, hi5⟩ := lift_parts (HRR.out.trans hx)
    rw [← hdx] at hi0 hi4 hi5
    have HOK : Hid (docB dr = true) := hi0
    clear hi0
    obtain ⟨VI, hVI⟩ : ∃ V, (d.getD i bl0).2.1 = V := ⟨_, rfl⟩
    rw [hVI] at hi5
    have HVI : Hid ((d.getD i bl0).2.1 = VI) := hVI
    clear hVI
    clear hx hdx HIM HSP HRR HDR HGB
    subst hzi
    have HI5 : Hid (∀ k, k < d.length → (dr.getD k bl0 = if belB d i k = true then (if VI = 0 then (1, (d.getD k bl0).2) else bump (-1) (d.getD k bl0)) else d.getD k bl0) ∧ (belB d i k = true → 0 ≤ (d.getD k bl0).2.1 ∧ (d.getD k bl0).2.1 ≤ 3)) := hi5
    have HI2 : Hid ((d.getD i bl0).1 = 2 ∧ 0 ≤ (d.getD i bl0).2.1) := ⟨hi2, hi3⟩
    have HML : Hid (m0 = d.length) := HDw7.out.1
    have HMX : Hid (m2 = dr.length) := HFw7.out.1
    have HLL : Hid (dr.length = d.length) := hi4
    have hmc := HDw7.out.2.1
    have hmx := HDw7.out.2.2.1
    have hxc := HFw7.out.2.1
    have hxx := HFw7.out.2.2.1
    unfold maxLen at hmx hxx
    clear hi2 hi3 hi4 hi5
    rcases HDw7.out.2.2.2 with e | ⟨b, off, rfl, hbw, hcl⟩
    · rw [e] at hi1
      exact absurd hi1 (by simp)
    rcases HFw7.out.2.2.2 with e | ⟨bx, offx, rfl, hbx, hcx⟩
    · have h1 := HLL.out
      rw [e] at h1
      simp at h1
      omega
    obtain ⟨q2', hq2'⟩ : ∃ q, q2 = q := ⟨_, rfl⟩
    rw [hq2'] at HUw7 HFw7 hxc hxx kUw7 ⊢
    clear hq2'
    have HCL : Hid (∀ k, k < d.length → BlockAt w7 b (off + k * 6) (d.getD k bl0)) := hcl
    have HCX : Hid (∀ k, k < dr.length → BlockAt w7 bx (offx + k * 6) (dr.getD k bl0)) := hcx
    have zX := HGw7.out.lt
    have zU := HUw7.out.lt
    clear hcl hcx
    go_wp2_with fail
    go_loopw [9, 10] (fun kv _ wr => ∃ (k : Nat), k ≤ m0 ∧ kv = .int .i64 (k : Int) ∧ Below w7.heap.size w7 wr) (fun kv _ _ => m0 - (intOf kv).toNat)
    case atStart => exact ⟨0, Nat.zero_le _, rfl, Below.refl _ _⟩
    case round =>
      obtain ⟨k, hk, rfl, hbl⟩ := hrel
      have hsz := hbl.size
      have HBL : Hid (Below w7.heap.size w7 wr) := hbl
      have kG : wr.cell? ⟨X, 0, none⟩ = some (.slice (some ⟨b, off, none⟩) m0 c0) := (HGw7.out.below hbl zX).cell 0
      have kU : wr.cell? ⟨XU, 0, none⟩ = some (.slice (some ⟨bx, offx, none⟩) m2 q2') := (HUw7.out.below hbl zU).cell 0
      clear kGw7 kUw7 kVw7
      by_cases hkm : k < m0
      · have hkd : k < d.length := by rw [← HML.out]; exact hkm
        have hkb : (k : Int) < (m0 : Int) := by omega
        have hk0 : (0 : Int) ≤ (k : Int) := by omega
        have hkx : (k : Int) < (m2 : Int) := by have h1 := HMX.out; have h2 := HLL.out; omega
        obtain ⟨ta, tn, tc, ca, cn, cc, hblk7⟩ := HCL.out k hkd
        have hblk := hblk7.below hbl hbw
        obtain ⟨⟨K, V, t, R, Cc, l⟩, hy⟩ : ∃ y, y = d.getD k bl0 := ⟨_, rfl⟩
        have HY : Hid (d.getD k bl0 = (K, V, t, R, Cc, l)) := hy.symm
        rw [← hy] at hblk hblk7
        have HTX7 : Hid (Txt w7 ta tn tc t) := hblk7.2.2.2.2.2.2.1
        have HTB7 : Hid (Tab w7 ca cn cc l) := hblk7.2.2.2.2.2.2.2
        clear hblk7
        obtain ⟨c0', c1', c2', c3', c4', c5', htx, htb⟩ := hblk
        simp only at c0' c1' c3' c4' htx htb
        clear hy htx htb hbl kU
        go_upto_region 12 with fail
        have bA : Below wr.heap.size wr (wr.alloc (.cells #[.int .i64 K, .int .i64 V, .slice ta tn tc, .int .i64 R, .int .i64 Cc, .slice ca cn cc] 38)) := (Below.refl _ _).alloc (Nat.le_refl _) _
        have gA : RowAt (wr.alloc (.cells #[.int .i64 K, .int .i64 V, .slice ta tn tc, .int .i64 R, .int .i64 Cc, .slice ca cn cc] 38)) wr.heap.size #[.int .i64 K, .int .i64 V, .slice ta tn tc, .int .i64 R, .int .i64 Cc, .slice ca cn cc] 38 := rowAt_new _ _ _
        have hA1 : wr.heap.size < (wr.alloc (.cells #[.int .i64 K, .int .i64 V, .slice ta tn tc, .int .i64 R, .int .i64 Cc, .slice ca cn cc] 38)).heap.size := by simp
        clear c0' c1' c2' c3' c4' c5' kG
        generalize (wr.alloc (.cells #[.int .i64 K, .int .i64 V, .slice ta tn tc, .int .i64 R, .int .i64 Cc, .slice ca cn cc] 38)) = u0 at bA gA hA1 ⊢
        obtain ⟨Y, hY⟩ : ∃ Y, wr.heap.size = Y := ⟨_, rfl⟩
        have bA7 : Below w7.heap.size w7 u0 := HBL.out.trans (bA.mono hsz)
        have kG : u0.cell? ⟨X, 0, none⟩ = some (.slice (some ⟨b, off, none⟩) m0 c0) := (HGw7.out.below bA7 zX).cell 0
        have hY7 : w7.heap.size ≤ Y := by omega
        rw [hY] at gA hA1 ⊢
        have HR0 : Hid (RowAt u0 Y #[.int .i64 K, .int .i64 V, .slice ta tn tc, .int .i64 R, .int .i64 Cc, .slice ca cn cc] 38) := gA
        have HB0 : Hid (Below w7.heap.size w7 u0) := bA7
        clear gA bA bA7 HBL hY
        obtain ⟨bl, HBE⟩ : ∃ y, Hid (belB d i k = y) := ⟨_, rfl⟩
        go_wp2_with fail
        refine (lmBelow_is (HDw7.out.below HB0.out) hi1 hkd HI2.out.1 HI2.out.2 HBE.out).mono ?_
        rintro e u1 ⟨rfl, hb1⟩
        have su1 := hb1.size
        have HR1 : Hid (RowAt u1 Y #[.int .i64 K, .int .i64 V, .slice ta tn tc, .int .i64 R, .int .i64 Cc, .slice ca cn cc] 38) := HR0.out.below hb1 hA1
        have HB1 : Hid (Below w7.heap.size w7 u1) := HB0.out.trans (hb1.mono (by have := HB0.out.size; omega))
        have hY1 : Y < u1.heap.size := by omega
        have hx5 := HI5.out k hkd
        rw [HBE.out, HY.out] at hx5
        have HX5 : Hid ((dr.getD k bl0 = if bl = true then (if VI = 0 then (1, V, t, R, Cc, l) else bump (-1) (K, V, t, R, Cc, l)) else (K, V, t, R, Cc, l)) ∧ (bl = true → 0 ≤ V ∧ V ≤ 3)) := hx5
        clear hb1 hx5 HR0 HB0 kG hA1
        cases bl
        · have HR9 := HR1
          have HB9 := HB1
          have HT9 : Hid (Txt u1 ta tn tc t) := HTX7.out.below HB9.out
          have HC9 : Hid (Tab u1 ca cn cc l) := HTB7.out.below HB9.out
          have HU9 : Hid (RowAt u1 XU #[.slice (some ⟨bx, offx, none⟩) m2 q2'] 25) := HUw7.out.below HB1.out zU
          have HX9 : Hid (BlockAt u1 bx (offx + k * 6) (K, V, t, R, Cc, l)) := by
            have h1 := (HCX.out k (by rw [HLL.out]; exact hkd)).below HB1.out hbx
            rw [HX5.out.1] at h1
            exact h1
          clear HR1 HB1
          have q0 := HR9.out.cell 0
          have q1 := HR9.out.cell 1
          have q2 := HR9.out.cell 2
          have q3 := HR9.out.cell 3
          have q4 := HR9.out.cell 4
          have q5 := HR9.out.cell 5
          simp at q0 q1 q2 q3 q4 q5
          have kU : u1.cell? ⟨XU, 0, none⟩ = some (.slice (some ⟨bx, offx, none⟩) m2 q2') := HU9.out.cell 0
          obtain ⟨ua, un, uc, va, vn, vc, e0, e1, e2, e3, e4, e5, hux, hvx⟩ := HX9.out
          simp only at e0 e1 e3 e4 hux hvx
          have HUX : Hid (Txt u1 ua un uc t) := hux
          have HVX : Hid (Tab u1 va vn vc l) := hvx
          clear hux hvx
          go_wp2_with fail
          go_region_with (go_at_call 16; refine (lmBlock_same (HT9.out.below (Below.refl _ _).drew) (HC9.out.below (Below.refl _ _).drew) (HUX.out.below (Below.refl _ _).drew) (HVX.out.below (Below.refl _ _).drew)).mono ?_; rintro e wz ⟨rfl, hbz⟩)
          all_goals
            go_wp2_with fail
            go_roundw
            case rel => exact ⟨k + 1, by omega, by go_num, HB9.out.drew.trans (hbz.mono HB9.out.drew.size)⟩
            case measure => simp [intOf]; omega
        · have hv := HX5.out.2 rfl
          have kG : u1.cell? ⟨X, 0, none⟩ = some (.slice (some ⟨b, off, none⟩) m0 c0) := (HGw7.out.below HB1.out zX).cell 0
          have hib : (i : Int) < (m0 : Int) := by have := HML.out; omega
          have hi0' : (0 : Int) ≤ (i : Int) := by omega
          obtain ⟨_, _, _, _, _, _, -, ci1, -⟩ := (HCL.out i hi1).below HB1.out hbw
          rw [HVI.out] at ci1
          have c0x := HR1.out.cell 0
          have c1 := HR1.out.cell 1
          simp at c0x c1
          have f0 := HR1.out.frozen 0
          have f1 := HR1.out.frozen 1
          by_cases hz : VI = 0
          · subst hz
            go_upto_region 16 with fail
            have bS : Below w7.heap.size u1 (u1.setCell ⟨Y, 0, none⟩ (.int .i64 1)) := (Below.refl _ _).setCell (by show w7.heap.size ≤ Y; omega) _
            have HR9 : Hid (RowAt (u1.setCell ⟨Y, 0, none⟩ (.int .i64 1)) Y #[.int .i64 1, .int .i64 V, .slice ta tn tc, .int .i64 R, .int .i64 Cc, .slice ca cn cc] 38) := HR1.out.setCell 0 _
            have HB9 : Hid (Below w7.heap.size w7 (u1.setCell ⟨Y, 0, none⟩ (.int .i64 1))) := HB1.out.trans bS
            generalize (u1.setCell ⟨Y, 0, none⟩ (.int .i64 1)) = u2 at bS HR9 HB9 ⊢
            have HT9 : Hid (Txt u2 ta tn tc t) := HTX7.out.below HB9.out
            have HC9 : Hid (Tab u2 ca cn cc l) := HTB7.out.below HB9.out
            have HU9 : Hid (RowAt u2 XU #[.slice (some ⟨bx, offx, none⟩) m2 q2'] 25) := HUw7.out.below HB9.out zU
            have HX9 : Hid (BlockAt u2 bx (offx + k * 6) (1, V, t, R, Cc, l)) := by
              have h1 := (HCX.out k (by rw [HLL.out]; exact hkd)).below HB9.out hbx
              rw [HX5.out.1, if_pos True.intro, if_pos True.intro] at h1
              exact h1
            clear HR1 HB1 bS c0x c1 f0 f1 kG ci1
            have q0 := HR9.out.cell 0
            have q1 := HR9.out.cell 1
            have q2 := HR9.out.cell 2
            have q3 := HR9.out.cell 3
            have q4 := HR9.out.cell 4
            have q5 := HR9.out.cell 5
            simp at q0 q1 q2 q3 q4 q5
            have kU : u2.cell? ⟨XU, 0, none⟩ = some (.slice (some ⟨bx, offx, none⟩) m2 q2') := HU9.out.cell 0
            obtain ⟨ua, un, uc, va, vn, vc, e0, e1, e2, e3, e4, e5, hux, hvx⟩ := HX9.out
            simp only at e0 e1 e3 e4 hux hvx
            have HUX : Hid (Txt u2 ua un uc t) := hux
            have HVX : Hid (Tab u2 va vn vc l) := hvx
            clear hux hvx
            go_wp2_with fail
            go_region_with (go_at_call 16; refine (lmBlock_same (HT9.out.below (Below.refl _ _).drew) (HC9.out.below (Below.refl _ _).drew) (HUX.out.below (Below.refl _ _).drew) (HVX.out.below (Below.refl _ _).drew)).mono ?_; rintro e wz ⟨rfl, hbz⟩)
            all_goals
              go_wp2_with fail
              go_roundw
              case rel => exact ⟨k + 1, by omega, by go_num, HB9.out.drew.trans (hbz.mono HB9.out.drew.size)⟩
              case measure => simp [intOf]; omega
          · have hz2 : (VI == 0) = false := by simp; exact hz
            go_upto_region 16 with fail
            have bS : Below w7.heap.size u1 (u1.setCell ⟨Y, 1, none⟩ (.int .i64 (V - 1))) := (Below.refl _ _).setCell (by show w7.heap.size ≤ Y; omega) _
            have HR9 : Hid (RowAt (u1.setCell ⟨Y, 1, none⟩ (.int .i64 (V - 1))) Y #[.int .i64 K, .int .i64 (V - 1), .slice ta tn tc, .int .i64 R, .int .i64 Cc, .slice ca cn cc] 38) := HR1.out.setCell 1 _
            have HB9 : Hid (Below w7.heap.size w7 (u1.setCell ⟨Y, 1, none⟩ (.int .i64 (V - 1)))) := HB1.out.trans bS
            generalize (u1.setCell ⟨Y, 1, none⟩ (.int .i64 (V - 1))) = u2 at bS HR9 HB9 ⊢
            have HT9 : Hid (Txt u2 ta tn tc t) := HTX7.out.below HB9.out
            have HC9 : Hid (Tab u2 ca cn cc l) := HTB7.out.below HB9.out
            have HU9 : Hid (RowAt u2 XU #[.slice (some ⟨bx, offx, none⟩) m2 q2'] 25) := HUw7.out.below HB9.out zU
            have HX9 : Hid (BlockAt u2 bx (offx + k * 6) (K, V - 1, t, R, Cc, l)) := by
              have h1 := (HCX.out k (by rw [HLL.out]; exact hkd)).below HB9.out hbx
              rw [HX5.out.1, if_pos True.intro, if_neg hz] at h1
              exact h1
            clear HR1 HB1 bS c0x c1 f0 f1 kG ci1
            have q0 := HR9.out.cell 0
            have q1 := HR9.out.cell 1
            have q2 := HR9.out.cell 2
            have q3 := HR9.out.cell 3
            have q4 := HR9.out.cell 4
            have q5 := HR9.out.cell 5
            simp at q0 q1 q2 q3 q4 q5
            have kU : u2.cell? ⟨XU, 0, none⟩ = some (.slice (some ⟨bx, offx, none⟩) m2 q2') := HU9.out.cell 0
            obtain ⟨ua, un, uc, va, vn, vc, e0, e1, e2, e3, e4, e5, hux, hvx⟩ := HX9.out
            simp only at e0 e1 e3 e4 hux hvx
            have HUX : Hid (Txt u2 ua un uc t) := hux
            have HVX : Hid (Tab u2 va vn vc l) := hvx
            clear hux hvx
            go_wp2_with fail
            go_region_with (go_at_call 16; refine (lmBlock_same (HT9.out.below (Below.refl _ _).drew) (HC9.out.below (Below.refl _ _).drew) (HUX.out.below (Below.refl _ _).drew) (HVX.out.below (Below.refl _ _).drew)).mono ?_; rintro e wz ⟨rfl, hbz⟩)
            all_goals
              go_wp2_with fail
              go_roundw
              case rel => exact ⟨k + 1, by omega, by go_num, HB9.out.drew.trans (hbz.mono HB9.out.drew.size)⟩
              case measure => simp [intOf]; omega
      · have hkb : ¬ (k : Int) < (m0 : Int) := by omega
        have hme : ((m2 : Int) == (m0 : Int)) = true := by have h1 := HMX.out; have h2 := HLL.out; have h3 := HML.out; simp; omega
        go_wp2_with fail
        refine (implDocOk_is HOK.out (HFw7.out.below HBL.out)).mono ?_
        rintro e wy ⟨rfl, hby⟩
        have kG2 : wy.cell? ⟨X, 0, none⟩ = some (.slice (some ⟨b, off, none⟩) m0 c0) := ((HGw7.out.below HBL.out zX).below hby (by have := HBL.out.size; omega)).cell 0
        have kU2 : wy.cell? ⟨XU, 0, none⟩ = some (.slice (some ⟨bx, offx, none⟩) m2 q2') := ((HUw7.out.below HBL.out zU).below hby (by have := HBL.out.size; omega)).cell 0
        go_wp2_with fail
        go_ret
        exact ⟨rfl, (HBw7.out.trans (HBL.out.mono (by have := HBw7.out.size; omega))).trans (hby.mono (by have := HBw7.out.size; have := HBL.out.size; omega))⟩
end Go.Proofs.Ytoliebgdlnjahab
