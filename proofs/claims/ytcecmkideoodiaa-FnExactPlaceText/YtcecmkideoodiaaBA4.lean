import Derived.Test.YtcecmkideoodiaaBA3
import Derived.Test.YtcecmkideoodiaaBA2
import Derived.Test.YtcecmkideoodiaaBA1
namespace Go.Proofs.Ytcecmkideoodiaa
open Go.RowKit

theorem doc_info : (Try.prog.info? 25).map (·.size) = some 1 := by kernel_rfl
set_option maxRecDepth 100000 in
set_option maxHeartbeats 4000000 in
theorem l3Ahead_is {a : Option Addr} {n cap k : Nat} {d : List Bl} {w : World} {x : Int} (hx : aheadN d k = x) (h : Dc w a n cap d) (hk : k < d.length) :
    Calls Try.prog 48 #[.agg #[.slice a n cap], .int .i64 k] w fun e w' => e = .returned (.int .i64 x) ∧ Below w.heap.size w w' := by
  have HN : Hid (n = d.length) := h.1
  have hkn : k < n := by have := h.1; omega
  have hc := h.2.1
  have hm := h.2.2.1
  unfold maxLen at hm
  rcases h.2.2.2 with e | ⟨b, off, rfl, hb, hcl⟩
  · rw [e] at hk
    exact absurd hk (by simp)
  go_enter Try.func48, Try.ntmps48
  go_upto_region 1 with fail
  have B0 : Below w.heap.size w (w.alloc (.cells #[.slice (some ⟨b, off, none⟩) n cap] 25)) := (Below.refl _ _).alloc (Nat.le_refl _) _
  have q0 : (w.alloc (.cells #[.slice (some ⟨b, off, none⟩) n cap] 25)).cell? ⟨w.heap.size, 0, none⟩ = some (.slice (some ⟨b, off, none⟩) n cap) := by simp
  rcases k with _ | j
  · have hx' : x = -1 := by rw [← hx]; rfl
    clear hx
    subst hx'
    generalize (w.alloc (.cells #[.slice (some ⟨b, off, none⟩) n cap] 25)) = v0 at B0 q0 ⊢
    go_wp2_with fail
    go_ret
    exact ⟨rfl, B0⟩
  · have hj : j < d.length := by omega
    obtain ⟨ta, tn, tc, ca, cn, cc, c0, c1, -⟩ := (hcl j hj).below B0 hb
    have hx' : lvN (d.getD j bl0) = x := by rw [← hx]; rfl
    obtain ⟨K, HK⟩ : ∃ K, Hid ((d.getD j bl0).1 = K) := ⟨_, rfl⟩
    obtain ⟨V, HV⟩ : ∃ K, Hid ((d.getD j bl0).2.1 = K) := ⟨_, rfl⟩
    rw [HK.out] at c0
    rw [HV.out] at c1
    unfold lvN at hx'
    rw [HK.out, HV.out] at hx'
    have HX : Hid ((if K = 2 then V else -1) = x) := hx'
    have hj0 : (0 : Int) ≤ (j : Int) := by omega
    have hj1 : (j : Int) < (n : Int) := by omega
    have hj2 : (j : Int) ≤ 9223372036854775806 := by omega
    generalize (w.alloc (.cells #[.slice (some ⟨b, off, none⟩) n cap] 25)) = v0 at B0 q0 c0 c1 ⊢
    clear hcl hx hx'
    by_cases h2 : K = 2
    · subst h2
      have hxe : V = x := by have := HX.out; rw [if_pos rfl] at this; exact this
      go_wp2_with fail
      go_ret
      exact ⟨by rw [← hxe]; rfl, B0⟩
    · have hxe : -1 = x := by have := HX.out; rw [if_neg h2] at this; exact this
      have h2b : (K != 2) = true := by simp [h2]
      go_wp2_with fail
      go_ret
      exact ⟨by rw [← hxe]; rfl, B0⟩
theorem ahead_small {d : List Bl} {i : Nat} (h : (List.range i).all (docK d) = true) : -1 ≤ aheadN d i ∧ aheadN d i ≤ 3 := by
  rcases i with _ | j
  · show (-1 : Int) ≤ -1 ∧ (-1 : Int) ≤ 3
    omega
  · have hj := List.all_eq_true.1 h j (List.mem_range.2 (by omega))
    unfold docK at hj
    rw [Bool.and_eq_true] at hj
    have hb := hj.1
    show -1 ≤ lvN (d.getD j bl0) ∧ lvN (d.getD j bl0) ≤ 3
    unfold lvN
    by_cases h2 : (d.getD j bl0).1 = 2
    · rw [if_pos h2]
      unfold blockB at hb
      rw [if_neg (by omega), if_pos h2] at hb
      simp only [Bool.and_eq_true, decide_eq_true_eq] at hb
      omega
    · rw [if_neg h2]
      omega
theorem docB_no {d : List Bl} {i : Nat} (hi : i < d.length) (h : docK d i = false) : docB d = false := by
  unfold docB
  have : (List.range d.length).all (docK d) = false := by
    cases hq : (List.range d.length).all (docK d)
    · rfl
    · have := List.all_eq_true.1 hq i (List.mem_range.2 hi)
      rw [h] at this
      cases this
  rw [this, Bool.and_false]
set_option maxRecDepth 100000 in
set_option maxHeartbeats 8000000 in
theorem specDocOk_is {a : Option Addr} {n cap : Nat} {d : List Bl} {w : World} {x : Bool} (hx : docB d = x) (h : Dc w a n cap d) :
    Calls Try.prog 29 #[.agg #[.slice a n cap]] w fun e w' => e = .returned (.bool x) ∧ Below w.heap.size w w' := by
  have HX : Hid (docB d = x) := hx
  have HN : Hid (n = d.length) := h.1
  have hc := h.2.1
  have hm := h.2.2.1
  unfold maxLen at hm
  have H : Hid (Dc w a n cap d) := h
  clear h hx
  go_enter Try.func29, Try.ntmps29
  go_upto_region 1 with fail
  have B0 : Below w.heap.size w (w.alloc (.cells #[.slice a n cap] 25)) := (Below.refl _ _).alloc (Nat.le_refl _) _
  have G0 : RowAt (w.alloc (.cells #[.slice a n cap] 25)) w.heap.size #[.slice a n cap] 25 := rowAt_new _ _ _
  generalize (w.alloc (.cells #[.slice a n cap] 25)) = v0 at B0 G0 ⊢
  have HG : Hid (RowAt v0 w.heap.size #[.slice a n cap] 25) := G0
  have HB0 : Hid (Below w.heap.size w v0) := B0
  have q0 : v0.cell? ⟨w.heap.size, 0, none⟩ = some (.slice a n cap) := G0.cell 0
  have z0 := G0.lt
  clear B0 G0
  by_cases h8 : 8 < n
  · have h8' : (8 : Int) < (n : Int) := by omega
    go_wp2_with fail
    go_ret
    refine ⟨?_, HB0.out⟩
    have hd : ¬ d.length ≤ 8 := by have := HN.out; omega
    rw [← HX.out]
    unfold docB
    rw [decide_eq_false hd, Bool.false_and]
    rfl
  · have h8' : ¬ (8 : Int) < (n : Int) := by omega
    go_wp2_with fail
    clear q0
    go_loopw [3] (fun iv wr => ∃ i : Nat, i ≤ n ∧ iv = .int .i64 i ∧ (List.range i).all (docK d) = true ∧ Below w.heap.size w wr ∧ RowAt wr w.heap.size #[.slice a n cap] 25) (fun iv _ => n - (intOf iv).toNat)
    case atStart => exact ⟨0, Nat.zero_le _, rfl, rfl, HB0.out, HG.out⟩
    case round =>
      obtain ⟨i, hi, rfl, hall, hb, hr⟩ := hrel
      have HAll : Hid ((List.range i).all (docK d) = true) := hall
      have HB : Hid (Below w.heap.size w wr) := hb
      have HD : Hid (Dc wr a n cap d) := H.out.below hb
      have HR : Hid (RowAt wr w.heap.size #[.slice a n cap] 25) := hr
      have q1 : wr.cell? ⟨w.heap.size, 0, none⟩ = some (.slice a n cap) := hr.cell 0
      clear hall hb hr
      by_cases hlt : i < n
      · have hil : i < d.length := by have := HN.out; omega
        have hib : (i : Int) < (n : Int) := by omega
        have hi0 : (0 : Int) ≤ (i : Int) := by omega
        rcases HD.out.2.2.2 with e | ⟨b, off, rfl, hbl, hcl⟩
        · rw [e] at hil
          exact absurd hil (by simp)
        obtain ⟨ta, tn, tc, ca, cn, cc, hbi⟩ := hcl i hil
        obtain ⟨⟨K, V, t, R, C, l⟩, hx⟩ : ∃ x, x = d.getD i bl0 := ⟨_, rfl⟩
        rw [← hx] at hbi
        have HI : Hid (BlockIs wr b (off + i * 6) (K, V, t, R, C, l) ta tn tc ca cn cc) := hbi
        have HE : Hid (d.getD i bl0 = (K, V, t, R, C, l)) := hx.symm
        obtain ⟨bb, HBL⟩ : ∃ b, Hid (blockB (K, V, t, R, C, l) = b) := ⟨_, rfl⟩
        obtain ⟨ah, HAH⟩ : ∃ x, Hid (aheadN d i = x) := ⟨_, rfl⟩
        have hah : -1 ≤ ah ∧ ah ≤ 3 := by rw [← HAH.out]; exact ahead_small HAll.out
        have HDE : Hid (docK d i = (bb && !(decide (K = 2) && decide (ah + 1 < V)))) := by
          show docK d i = _
          unfold docK
          rw [HE.out, HBL.out, HAH.out]
        clear hcl hbi hx
        go_upto_region 6 with fail
        clear q1
        cases bb
        · have HDK : Hid (docK d i = false) := by show docK d i = false; rw [HDE.out]; rfl
          refine wp_region_noPanic ?_
          refine wp_region_held_drew (S := fun w' => RowAt w' w.heap.size #[.slice (some ⟨b, off, none⟩) n cap] 25 ∧ BlockIs w' b (off + i * 6) (K, V, t, R, C, l) ta tn tc ca cn cc) (by kernel_rfl) ⟨HR.out, HI.out.below ((Below.refl _ _).drew) hbl⟩ (fun hHeld => ?_)
          refine take_at 0 15 (.pointer (some ⟨w.heap.size, 0, none⟩)) rfl rfl (by kernel_rfl) (by kernel_rfl) (by kernel_rfl) (fun _ _ _ h => h) (Or.inl ⟨by kernel_rfl, fun w' hS' => by go_simp⟩) hHeld ?_
          (try simp only [Act.put, List.setIfInBounds_toArray, List.set_cons_zero, List.set_cons_succ])
          refine take_at 1 16 (.slice (some ⟨b, off, none⟩) n cap) rfl rfl (by kernel_rfl) (by kernel_rfl) (by kernel_rfl) (fun _ _ _ h => h) (Or.inl ⟨by kernel_rfl, fun w' hS' => by have hc := RowAt.cell hS'.1 0; go_simp⟩) hHeld ?_
          (try simp only [Act.put, List.setIfInBounds_toArray, List.set_cons_zero, List.set_cons_succ])
          refine take_at 2 17 (.int .i64 i) rfl rfl (by kernel_rfl) (by kernel_rfl) (by kernel_rfl) (fun _ _ _ h => h) (Or.inl ⟨by kernel_rfl, fun w' hS' => by go_simp⟩) hHeld ?_
          (try simp only [Act.put, List.setIfInBounds_toArray, List.set_cons_zero, List.set_cons_succ])
          refine take_at 3 18 (.pointer (some ⟨b, off + i * 6, none⟩)) rfl rfl (by kernel_rfl) (by kernel_rfl) (by kernel_rfl) (fun _ _ _ h => h) (Or.inl ⟨by kernel_rfl, fun w' hS' => by go_simp⟩) hHeld ?_
          (try simp only [Act.put, List.setIfInBounds_toArray, List.set_cons_zero, List.set_cons_succ])
          refine take_at 4 19 (.agg #[.int .i64 K, .int .i64 V, .slice ta tn tc, .int .i64 R, .int .i64 C, .slice ca cn cc]) rfl rfl (by kernel_rfl) (by kernel_rfl) (by kernel_rfl) (fun _ _ _ h => h) (Or.inl ⟨by kernel_rfl, fun w' hS' => by obtain ⟨e0, e1, e2, e3, e4, e5, -, -⟩ := hS'.2; go_simp⟩) hHeld ?_
          (try simp only [Act.put, List.setIfInBounds_toArray, List.set_cons_zero, List.set_cons_succ])
          replace HB : Hid (Below w.heap.size w wr.drew) := HB.out.drew
          replace HD : Hid (Dc wr.drew (some ⟨b, off, none⟩) n cap d) := HD.out.below ((Below.refl _ _).drew)
          replace hbl : b < wr.drew.heap.size := hbl
          clear HR HI
          generalize wr.drew = u0 at HB HD hbl hHeld ⊢
          refine wpAnyH_ready (rs := [5]) (by kernel_rfl) (by simp) ?_
          refine AllReadyH.cons rfl (fun K0 hK => ?_) AllReadyH.nil
          go_simp
          go_at_call 47
          refine (l3Block_is HBL.out hHeld.2.2.2.2.2.2.2.1 hHeld.2.2.2.2.2.2.2.2).mono ?_
          rintro e u1 ⟨rfl, hb1⟩
          replace HB : Hid (Below w.heap.size w u1) := HB.out.trans (hb1.mono HB.out.size)
          have HH : Hid (RowAt u1 w.heap.size #[.slice (some ⟨b, off, none⟩) n cap] 25 ∧ BlockIs u1 b (off + i * 6) (K, V, t, R, C, l) ta tn tc ca cn cc) := ⟨hHeld.1.below hb1 hHeld.1.lt, hHeld.2.below hb1 (by have := hb1.size; omega)⟩
          replace HD : Hid (Dc u1 (some ⟨b, off, none⟩) n cap d) := HD.out.below hb1
          replace hbl : b < u1.heap.size := by have := hb1.size; omega
          clear hb1 hHeld
          go_wp2_with fail
          refine hK.out _ _ HH.out (fun hHeld => ?_)
          clear hK K0 HH
          (try simp only [Act.put, List.setIfInBounds_toArray, List.set_cons_zero, List.set_cons_succ])
          refine take_at 6 21 (.bool true) rfl rfl (by kernel_rfl) (by kernel_rfl) (by kernel_rfl) (fun _ _ _ h => h) (Or.inl ⟨by kernel_rfl, fun w' hS' => by go_simp⟩) hHeld ?_
          (try simp only [Act.put, List.setIfInBounds_toArray, List.set_cons_zero, List.set_cons_succ])
          refine take_at 7 22 (.bool true) rfl rfl (by kernel_rfl) (by kernel_rfl) (by kernel_rfl) (fun _ _ _ h => h) (Or.inl ⟨by kernel_rfl, fun w' hS' => by go_simp⟩) hHeld ?_
          (try simp only [Act.put, List.setIfInBounds_toArray, List.set_cons_zero, List.set_cons_succ])
          refine take_at 8 23 (undef) rfl rfl (by kernel_rfl) (by kernel_rfl) (by kernel_rfl) (fun _ _ _ h => h) (Or.inr ⟨by kernel_rfl, rfl⟩) hHeld ?_
          (try simp only [Act.put, List.setIfInBounds_toArray, List.set_cons_zero, List.set_cons_succ])
          refine take_at 9 24 (undef) rfl rfl (by kernel_rfl) (by kernel_rfl) (by kernel_rfl) (fun _ _ _ h => h) (Or.inr ⟨by kernel_rfl, rfl⟩) hHeld ?_
          (try simp only [Act.put, List.setIfInBounds_toArray, List.set_cons_zero, List.set_cons_succ])
          refine take_at 10 25 (undef) rfl rfl (by kernel_rfl) (by kernel_rfl) (by kernel_rfl) (fun _ _ _ h => h) (Or.inr ⟨by kernel_rfl, rfl⟩) hHeld ?_
          (try simp only [Act.put, List.setIfInBounds_toArray, List.set_cons_zero, List.set_cons_succ])
          refine take_at 11 26 (undef) rfl rfl (by kernel_rfl) (by kernel_rfl) (by kernel_rfl) (fun _ _ _ h => h) (Or.inr ⟨by kernel_rfl, rfl⟩) hHeld ?_
          (try simp only [Act.put, List.setIfInBounds_toArray, List.set_cons_zero, List.set_cons_succ])
          refine take_at 12 27 (undef) rfl rfl (by kernel_rfl) (by kernel_rfl) (by kernel_rfl) (fun _ _ _ h => h) (Or.inr ⟨by kernel_rfl, rfl⟩) hHeld ?_
          (try simp only [Act.put, List.setIfInBounds_toArray, List.set_cons_zero, List.set_cons_succ])
          refine take_at 13 28 (undef) rfl rfl (by kernel_rfl) (by kernel_rfl) (by kernel_rfl) (fun _ _ _ h => h) (Or.inr ⟨by kernel_rfl, rfl⟩) hHeld ?_
          (try simp only [Act.put, List.setIfInBounds_toArray, List.set_cons_zero, List.set_cons_succ])
          refine take_at 14 29 (undef) rfl rfl (by kernel_rfl) (by kernel_rfl) (by kernel_rfl) (fun _ _ _ h => h) (Or.inr ⟨by kernel_rfl, rfl⟩) hHeld ?_
          (try simp only [Act.put, List.setIfInBounds_toArray, List.set_cons_zero, List.set_cons_succ])
          refine take_at 15 30 (undef) rfl rfl (by kernel_rfl) (by kernel_rfl) (by kernel_rfl) (fun _ _ _ h => h) (Or.inr ⟨by kernel_rfl, rfl⟩) hHeld ?_
          (try simp only [Act.put, List.setIfInBounds_toArray, List.set_cons_zero, List.set_cons_succ])
          refine take_at 16 31 (undef) rfl rfl (by kernel_rfl) (by kernel_rfl) (by kernel_rfl) (fun _ _ _ h => h) (Or.inr ⟨by kernel_rfl, rfl⟩) hHeld ?_
          (try simp only [Act.put, List.setIfInBounds_toArray, List.set_cons_zero, List.set_cons_succ])
          refine take_at 17 32 (undef) rfl rfl (by kernel_rfl) (by kernel_rfl) (by kernel_rfl) (fun _ _ _ h => h) (Or.inr ⟨by kernel_rfl, rfl⟩) hHeld ?_
          (try simp only [Act.put, List.setIfInBounds_toArray, List.set_cons_zero, List.set_cons_succ])
          refine take_at 18 33 (undef) rfl rfl (by kernel_rfl) (by kernel_rfl) (by kernel_rfl) (fun _ _ _ h => h) (Or.inr ⟨by kernel_rfl, rfl⟩) hHeld ?_
          (try simp only [Act.put, List.setIfInBounds_toArray, List.set_cons_zero, List.set_cons_succ])
          refine take_at 19 34 (undef) rfl rfl (by kernel_rfl) (by kernel_rfl) (by kernel_rfl) (fun _ _ _ h => h) (Or.inr ⟨by kernel_rfl, rfl⟩) hHeld ?_
          (try simp only [Act.put, List.setIfInBounds_toArray, List.set_cons_zero, List.set_cons_succ])
          refine take_at 20 35 (undef) rfl rfl (by kernel_rfl) (by kernel_rfl) (by kernel_rfl) (fun _ _ _ h => h) (Or.inr ⟨by kernel_rfl, rfl⟩) hHeld ?_
          (try simp only [Act.put, List.setIfInBounds_toArray, List.set_cons_zero, List.set_cons_succ])
          refine take_at 21 36 (undef) rfl rfl (by kernel_rfl) (by kernel_rfl) (by kernel_rfl) (fun _ _ _ h => h) (Or.inr ⟨by kernel_rfl, rfl⟩) hHeld ?_
          (try simp only [Act.put, List.setIfInBounds_toArray, List.set_cons_zero, List.set_cons_succ])
          refine take_at 22 37 (undef) rfl rfl (by kernel_rfl) (by kernel_rfl) (by kernel_rfl) (fun _ _ _ h => h) (Or.inr ⟨by kernel_rfl, rfl⟩) hHeld ?_
          (try simp only [Act.put, List.setIfInBounds_toArray, List.set_cons_zero, List.set_cons_succ])
          refine take_at 23 38 (undef) rfl rfl (by kernel_rfl) (by kernel_rfl) (by kernel_rfl) (fun _ _ _ h => h) (Or.inr ⟨by kernel_rfl, rfl⟩) hHeld ?_
          (try simp only [Act.put, List.setIfInBounds_toArray, List.set_cons_zero, List.set_cons_succ])
          refine take_at 24 39 (undef) rfl rfl (by kernel_rfl) (by kernel_rfl) (by kernel_rfl) (fun _ _ _ h => h) (Or.inr ⟨by kernel_rfl, rfl⟩) hHeld ?_
          (try simp only [Act.put, List.setIfInBounds_toArray, List.set_cons_zero, List.set_cons_succ])
          refine take_at 25 40 (undef) rfl rfl (by kernel_rfl) (by kernel_rfl) (by kernel_rfl) (fun _ _ _ h => h) (Or.inr ⟨by kernel_rfl, rfl⟩) hHeld ?_
          (try simp only [Act.put, List.setIfInBounds_toArray, List.set_cons_zero, List.set_cons_succ])
          refine take_at 26 41 (undef) rfl rfl (by kernel_rfl) (by kernel_rfl) (by kernel_rfl) (fun _ _ _ h => h) (Or.inr ⟨by kernel_rfl, rfl⟩) hHeld ?_
          (try simp only [Act.put, List.setIfInBounds_toArray, List.set_cons_zero, List.set_cons_succ])
          refine take_at 27 42 (undef) rfl rfl (by kernel_rfl) (by kernel_rfl) (by kernel_rfl) (fun _ _ _ h => h) (Or.inr ⟨by kernel_rfl, rfl⟩) hHeld ?_
          (try simp only [Act.put, List.setIfInBounds_toArray, List.set_cons_zero, List.set_cons_succ])
          refine take_at 28 43 (.bool true) rfl rfl (by kernel_rfl) (by kernel_rfl) (by kernel_rfl) (fun _ _ _ h => h) (Or.inl ⟨by kernel_rfl, fun w' hS' => by go_simp⟩) hHeld ?_
          (try simp only [Act.put, List.setIfInBounds_toArray, List.set_cons_zero, List.set_cons_succ])
          refine wpAnyH_done (by kernel_rfl) ?_ _
          refine NoPanic.normal ?_
          clear hHeld
          go_wp2_with fail
          go_ret
          exact ⟨by rw [docB_no hil HDK.out] at HX; rw [← HX.out]; rfl, HB.out⟩
        · by_cases hk2 : K = 2
          · subst hk2
            by_cases hlv : ah + 1 < V
            · have HDK : Hid (docK d i = false) := by show docK d i = false; rw [HDE.out]; simp [hlv]
              refine wp_region_noPanic ?_
              refine wp_region_held_drew (S := fun w' => RowAt w' w.heap.size #[.slice (some ⟨b, off, none⟩) n cap] 25 ∧ BlockIs w' b (off + i * 6) (2, V, t, R, C, l) ta tn tc ca cn cc) (by kernel_rfl) ⟨HR.out, HI.out.below ((Below.refl _ _).drew) hbl⟩ (fun hHeld => ?_)
              refine take_at 0 15 (.pointer (some ⟨w.heap.size, 0, none⟩)) rfl rfl (by kernel_rfl) (by kernel_rfl) (by kernel_rfl) (fun _ _ _ h => h) (Or.inl ⟨by kernel_rfl, fun w' hS' => by go_simp⟩) hHeld ?_
              (try simp only [Act.put, List.setIfInBounds_toArray, List.set_cons_zero, List.set_cons_succ])
              refine take_at 1 16 (.slice (some ⟨b, off, none⟩) n cap) rfl rfl (by kernel_rfl) (by kernel_rfl) (by kernel_rfl) (fun _ _ _ h => h) (Or.inl ⟨by kernel_rfl, fun w' hS' => by have hc := RowAt.cell hS'.1 0; go_simp⟩) hHeld ?_
              (try simp only [Act.put, List.setIfInBounds_toArray, List.set_cons_zero, List.set_cons_succ])
              refine take_at 2 17 (.int .i64 i) rfl rfl (by kernel_rfl) (by kernel_rfl) (by kernel_rfl) (fun _ _ _ h => h) (Or.inl ⟨by kernel_rfl, fun w' hS' => by go_simp⟩) hHeld ?_
              (try simp only [Act.put, List.setIfInBounds_toArray, List.set_cons_zero, List.set_cons_succ])
              refine take_at 3 18 (.pointer (some ⟨b, off + i * 6, none⟩)) rfl rfl (by kernel_rfl) (by kernel_rfl) (by kernel_rfl) (fun _ _ _ h => h) (Or.inl ⟨by kernel_rfl, fun w' hS' => by go_simp⟩) hHeld ?_
              (try simp only [Act.put, List.setIfInBounds_toArray, List.set_cons_zero, List.set_cons_succ])
              refine take_at 4 19 (.agg #[.int .i64 2, .int .i64 V, .slice ta tn tc, .int .i64 R, .int .i64 C, .slice ca cn cc]) rfl rfl (by kernel_rfl) (by kernel_rfl) (by kernel_rfl) (fun _ _ _ h => h) (Or.inl ⟨by kernel_rfl, fun w' hS' => by obtain ⟨e0, e1, e2, e3, e4, e5, -, -⟩ := hS'.2; go_simp⟩) hHeld ?_
              (try simp only [Act.put, List.setIfInBounds_toArray, List.set_cons_zero, List.set_cons_succ])
              replace HB : Hid (Below w.heap.size w wr.drew) := HB.out.drew
              replace HD : Hid (Dc wr.drew (some ⟨b, off, none⟩) n cap d) := HD.out.below ((Below.refl _ _).drew)
              replace hbl : b < wr.drew.heap.size := hbl
              clear HR HI
              generalize wr.drew = u0 at HB HD hbl hHeld ⊢
              refine wpAnyH_ready (rs := [5]) (by kernel_rfl) (by simp) ?_
              refine AllReadyH.cons rfl (fun K0 hK => ?_) AllReadyH.nil
              go_simp
              go_at_call 47
              refine (l3Block_is HBL.out hHeld.2.2.2.2.2.2.2.1 hHeld.2.2.2.2.2.2.2.2).mono ?_
              rintro e u1 ⟨rfl, hb1⟩
              replace HB : Hid (Below w.heap.size w u1) := HB.out.trans (hb1.mono HB.out.size)
              have HH : Hid (RowAt u1 w.heap.size #[.slice (some ⟨b, off, none⟩) n cap] 25 ∧ BlockIs u1 b (off + i * 6) (2, V, t, R, C, l) ta tn tc ca cn cc) := ⟨hHeld.1.below hb1 hHeld.1.lt, hHeld.2.below hb1 (by have := hb1.size; omega)⟩
              replace HD : Hid (Dc u1 (some ⟨b, off, none⟩) n cap d) := HD.out.below hb1
              replace hbl : b < u1.heap.size := by have := hb1.size; omega
              clear hb1 hHeld
              go_wp2_with fail
              refine hK.out _ _ HH.out (fun hHeld => ?_)
              clear hK K0 HH
              (try simp only [Act.put, List.setIfInBounds_toArray, List.set_cons_zero, List.set_cons_succ])
              refine take_at 6 21 (.bool false) rfl rfl (by kernel_rfl) (by kernel_rfl) (by kernel_rfl) (fun _ _ _ h => h) (Or.inl ⟨by kernel_rfl, fun w' hS' => by go_simp⟩) hHeld ?_
              (try simp only [Act.put, List.setIfInBounds_toArray, List.set_cons_zero, List.set_cons_succ])
              refine take_at 7 22 (.bool false) rfl rfl (by kernel_rfl) (by kernel_rfl) (by kernel_rfl) (fun _ _ _ h => h) (Or.inl ⟨by kernel_rfl, fun w' hS' => by go_simp⟩) hHeld ?_
              (try simp only [Act.put, List.setIfInBounds_toArray, List.set_cons_zero, List.set_cons_succ])
              refine take_at 8 23 (.pointer (some ⟨w.heap.size, 0, none⟩)) rfl rfl (by kernel_rfl) (by kernel_rfl) (by kernel_rfl) (fun _ _ _ h => h) (Or.inl ⟨by kernel_rfl, fun w' hS' => by go_simp⟩) hHeld ?_
              (try simp only [Act.put, List.setIfInBounds_toArray, List.set_cons_zero, List.set_cons_succ])
              refine take_at 9 24 (.slice (some ⟨b, off, none⟩) n cap) rfl rfl (by kernel_rfl) (by kernel_rfl) (by kernel_rfl) (fun _ _ _ h => h) (Or.inl ⟨by kernel_rfl, fun w' hS' => by have hc := RowAt.cell hS'.1 0; go_simp⟩) hHeld ?_
              (try simp only [Act.put, List.setIfInBounds_toArray, List.set_cons_zero, List.set_cons_succ])
              refine take_at 10 25 (.int .i64 i) rfl rfl (by kernel_rfl) (by kernel_rfl) (by kernel_rfl) (fun _ _ _ h => h) (Or.inl ⟨by kernel_rfl, fun w' hS' => by go_simp⟩) hHeld ?_
              (try simp only [Act.put, List.setIfInBounds_toArray, List.set_cons_zero, List.set_cons_succ])
              refine take_at 11 26 (.pointer (some ⟨b, off + i * 6, none⟩)) rfl rfl (by kernel_rfl) (by kernel_rfl) (by kernel_rfl) (fun _ _ _ h => h) (Or.inl ⟨by kernel_rfl, fun w' hS' => by go_simp⟩) hHeld ?_
              (try simp only [Act.put, List.setIfInBounds_toArray, List.set_cons_zero, List.set_cons_succ])
              refine take_at 12 27 (.pointer (some ⟨b, off + i * 6, none⟩)) rfl rfl (by kernel_rfl) (by kernel_rfl) (by kernel_rfl) (fun _ _ _ h => h) (Or.inl ⟨by kernel_rfl, fun w' hS' => by go_simp⟩) hHeld ?_
              (try simp only [Act.put, List.setIfInBounds_toArray, List.set_cons_zero, List.set_cons_succ])
              refine take_at 13 28 (.int .i64 2) rfl rfl (by kernel_rfl) (by kernel_rfl) (by kernel_rfl) (fun _ _ _ h => h) (Or.inl ⟨by kernel_rfl, fun w' hS' => by have hc := hS'.2.1; go_simp⟩) hHeld ?_
              (try simp only [Act.put, List.setIfInBounds_toArray, List.set_cons_zero, List.set_cons_succ])
              refine take_at 14 29 (.bool true) rfl rfl (by kernel_rfl) (by kernel_rfl) (by kernel_rfl) (fun _ _ _ h => h) (Or.inl ⟨by kernel_rfl, fun w' hS' => by go_simp⟩) hHeld ?_
              (try simp only [Act.put, List.setIfInBounds_toArray, List.set_cons_zero, List.set_cons_succ])
              refine take_at 15 30 (.bool true) rfl rfl (by kernel_rfl) (by kernel_rfl) (by kernel_rfl) (fun _ _ _ h => h) (Or.inl ⟨by kernel_rfl, fun w' hS' => by go_simp⟩) hHeld ?_
              (try simp only [Act.put, List.setIfInBounds_toArray, List.set_cons_zero, List.set_cons_succ])
              refine take_at 16 31 (.pointer (some ⟨w.heap.size, 0, none⟩)) rfl rfl (by kernel_rfl) (by kernel_rfl) (by kernel_rfl) (fun _ _ _ h => h) (Or.inl ⟨by kernel_rfl, fun w' hS' => by go_simp⟩) hHeld ?_
              (try simp only [Act.put, List.setIfInBounds_toArray, List.set_cons_zero, List.set_cons_succ])
              refine take_at 17 32 (.slice (some ⟨b, off, none⟩) n cap) rfl rfl (by kernel_rfl) (by kernel_rfl) (by kernel_rfl) (fun _ _ _ h => h) (Or.inl ⟨by kernel_rfl, fun w' hS' => by have hc := RowAt.cell hS'.1 0; go_simp⟩) hHeld ?_
              (try simp only [Act.put, List.setIfInBounds_toArray, List.set_cons_zero, List.set_cons_succ])
              refine take_at 18 33 (.int .i64 i) rfl rfl (by kernel_rfl) (by kernel_rfl) (by kernel_rfl) (fun _ _ _ h => h) (Or.inl ⟨by kernel_rfl, fun w' hS' => by go_simp⟩) hHeld ?_
              (try simp only [Act.put, List.setIfInBounds_toArray, List.set_cons_zero, List.set_cons_succ])
              refine take_at 19 34 (.pointer (some ⟨b, off + i * 6, none⟩)) rfl rfl (by kernel_rfl) (by kernel_rfl) (by kernel_rfl) (fun _ _ _ h => h) (Or.inl ⟨by kernel_rfl, fun w' hS' => by go_simp⟩) hHeld ?_
              (try simp only [Act.put, List.setIfInBounds_toArray, List.set_cons_zero, List.set_cons_succ])
              refine take_at 20 35 (.pointer (some ⟨b, off + i * 6 + 1, none⟩)) rfl rfl (by kernel_rfl) (by kernel_rfl) (by kernel_rfl) (fun _ _ _ h => h) (Or.inl ⟨by kernel_rfl, fun w' hS' => by go_simp⟩) hHeld ?_
              (try simp only [Act.put, List.setIfInBounds_toArray, List.set_cons_zero, List.set_cons_succ])
              refine take_at 21 36 (.int .i64 V) rfl rfl (by kernel_rfl) (by kernel_rfl) (by kernel_rfl) (fun _ _ _ h => h) (Or.inl ⟨by kernel_rfl, fun w' hS' => by have hc := hS'.2.2.1; go_simp⟩) hHeld ?_
              (try simp only [Act.put, List.setIfInBounds_toArray, List.set_cons_zero, List.set_cons_succ])
              refine take_at 22 37 (.agg #[.slice (some ⟨b, off, none⟩) n cap]) rfl rfl (by kernel_rfl) (by kernel_rfl) (by kernel_rfl) (fun _ _ _ h => h) (yieldsIf_load_row (by kernel_rfl) 25 (.tmp 1) rfl w.heap.size rfl 25 #[.slice (some ⟨b, off, none⟩) n cap] (0, 0) _ (fun w' h => h.1) Try.underlying25 rfl doc_info) hHeld ?_
              (try simp only [Act.put, List.setIfInBounds_toArray, List.set_cons_zero, List.set_cons_succ])
              refine take_at 23 38 (.int .i64 i) rfl rfl (by kernel_rfl) (by kernel_rfl) (by kernel_rfl) (fun _ _ _ h => h) (Or.inl ⟨by kernel_rfl, fun w' hS' => by go_simp⟩) hHeld ?_
              (try simp only [Act.put, List.setIfInBounds_toArray, List.set_cons_zero, List.set_cons_succ])
              refine wpAnyH_ready (rs := [24]) (by kernel_rfl) (by simp) ?_
              refine AllReadyH.cons rfl (fun K0 hK => ?_) AllReadyH.nil
              go_simp
              go_at_call 48
              refine (l3Ahead_is HAH.out HD.out hil).mono ?_
              rintro e u2 ⟨rfl, hb1⟩
              replace HB : Hid (Below w.heap.size w u2) := HB.out.trans (hb1.mono HB.out.size)
              have HH : Hid (RowAt u2 w.heap.size #[.slice (some ⟨b, off, none⟩) n cap] 25 ∧ BlockIs u2 b (off + i * 6) (2, V, t, R, C, l) ta tn tc ca cn cc) := ⟨hHeld.1.below hb1 hHeld.1.lt, hHeld.2.below hb1 (by have := hb1.size; omega)⟩
              replace HD : Hid (Dc u2 (some ⟨b, off, none⟩) n cap d) := HD.out.below hb1
              replace hbl : b < u2.heap.size := by have := hb1.size; omega
              clear hb1 hHeld
              go_wp2_with fail
              refine hK.out _ _ HH.out (fun hHeld => ?_)
              clear hK K0 HH
              (try simp only [Act.put, List.setIfInBounds_toArray, List.set_cons_zero, List.set_cons_succ])
              refine take_at 25 40 (.int .i64 (ah + 1)) rfl rfl (by kernel_rfl) (by kernel_rfl) (by kernel_rfl) (fun _ _ _ h => h) (Or.inl ⟨by kernel_rfl, fun w' hS' => by go_simp; rw [IntKind.wrap_i64]; omega⟩) hHeld ?_
              (try simp only [Act.put, List.setIfInBounds_toArray, List.set_cons_zero, List.set_cons_succ])
              refine take_at 26 41 (.bool true) rfl rfl (by kernel_rfl) (by kernel_rfl) (by kernel_rfl) (fun _ _ _ h => h) (Or.inl ⟨by kernel_rfl, fun w' hS' => by go_simp <;> omega⟩) hHeld ?_
              (try simp only [Act.put, List.setIfInBounds_toArray, List.set_cons_zero, List.set_cons_succ])
              refine take_at 27 42 (.bool true) rfl rfl (by kernel_rfl) (by kernel_rfl) (by kernel_rfl) (fun _ _ _ h => h) (Or.inl ⟨by kernel_rfl, fun w' hS' => by go_simp⟩) hHeld ?_
              (try simp only [Act.put, List.setIfInBounds_toArray, List.set_cons_zero, List.set_cons_succ])
              refine take_at 28 43 (.bool true) rfl rfl (by kernel_rfl) (by kernel_rfl) (by kernel_rfl) (fun _ _ _ h => h) (Or.inl ⟨by kernel_rfl, fun w' hS' => by go_simp⟩) hHeld ?_
              (try simp only [Act.put, List.setIfInBounds_toArray, List.set_cons_zero, List.set_cons_succ])
              refine wpAnyH_done (by kernel_rfl) ?_ _
              refine NoPanic.normal ?_
              clear hHeld
              go_wp2_with fail
              go_ret
              exact ⟨by rw [docB_no hil HDK.out] at HX; rw [← HX.out]; rfl, HB.out⟩
            · have HDK : Hid (docK d i = true) := by show docK d i = true; rw [HDE.out]; simp [hlv]
              refine wp_region_noPanic ?_
              refine wp_region_held_drew (S := fun w' => RowAt w' w.heap.size #[.slice (some ⟨b, off, none⟩) n cap] 25 ∧ BlockIs w' b (off + i * 6) (2, V, t, R, C, l) ta tn tc ca cn cc) (by kernel_rfl) ⟨HR.out, HI.out.below ((Below.refl _ _).drew) hbl⟩ (fun hHeld => ?_)
              refine take_at 0 15 (.pointer (some ⟨w.heap.size, 0, none⟩)) rfl rfl (by kernel_rfl) (by kernel_rfl) (by kernel_rfl) (fun _ _ _ h => h) (Or.inl ⟨by kernel_rfl, fun w' hS' => by go_simp⟩) hHeld ?_
              (try simp only [Act.put, List.setIfInBounds_toArray, List.set_cons_zero, List.set_cons_succ])
              refine take_at 1 16 (.slice (some ⟨b, off, none⟩) n cap) rfl rfl (by kernel_rfl) (by kernel_rfl) (by kernel_rfl) (fun _ _ _ h => h) (Or.inl ⟨by kernel_rfl, fun w' hS' => by have hc := RowAt.cell hS'.1 0; go_simp⟩) hHeld ?_
              (try simp only [Act.put, List.setIfInBounds_toArray, List.set_cons_zero, List.set_cons_succ])
              refine take_at 2 17 (.int .i64 i) rfl rfl (by kernel_rfl) (by kernel_rfl) (by kernel_rfl) (fun _ _ _ h => h) (Or.inl ⟨by kernel_rfl, fun w' hS' => by go_simp⟩) hHeld ?_
              (try simp only [Act.put, List.setIfInBounds_toArray, List.set_cons_zero, List.set_cons_succ])
              refine take_at 3 18 (.pointer (some ⟨b, off + i * 6, none⟩)) rfl rfl (by kernel_rfl) (by kernel_rfl) (by kernel_rfl) (fun _ _ _ h => h) (Or.inl ⟨by kernel_rfl, fun w' hS' => by go_simp⟩) hHeld ?_
              (try simp only [Act.put, List.setIfInBounds_toArray, List.set_cons_zero, List.set_cons_succ])
              refine take_at 4 19 (.agg #[.int .i64 2, .int .i64 V, .slice ta tn tc, .int .i64 R, .int .i64 C, .slice ca cn cc]) rfl rfl (by kernel_rfl) (by kernel_rfl) (by kernel_rfl) (fun _ _ _ h => h) (Or.inl ⟨by kernel_rfl, fun w' hS' => by obtain ⟨e0, e1, e2, e3, e4, e5, -, -⟩ := hS'.2; go_simp⟩) hHeld ?_
              (try simp only [Act.put, List.setIfInBounds_toArray, List.set_cons_zero, List.set_cons_succ])
              replace HB : Hid (Below w.heap.size w wr.drew) := HB.out.drew
              replace HD : Hid (Dc wr.drew (some ⟨b, off, none⟩) n cap d) := HD.out.below ((Below.refl _ _).drew)
              replace hbl : b < wr.drew.heap.size := hbl
              clear HR HI
              generalize wr.drew = u0 at HB HD hbl hHeld ⊢
              refine wpAnyH_ready (rs := [5]) (by kernel_rfl) (by simp) ?_
              refine AllReadyH.cons rfl (fun K0 hK => ?_) AllReadyH.nil
              go_simp
              go_at_call 47
              refine (l3Block_is HBL.out hHeld.2.2.2.2.2.2.2.1 hHeld.2.2.2.2.2.2.2.2).mono ?_
              rintro e u1 ⟨rfl, hb1⟩
              replace HB : Hid (Below w.heap.size w u1) := HB.out.trans (hb1.mono HB.out.size)
              have HH : Hid (RowAt u1 w.heap.size #[.slice (some ⟨b, off, none⟩) n cap] 25 ∧ BlockIs u1 b (off + i * 6) (2, V, t, R, C, l) ta tn tc ca cn cc) := ⟨hHeld.1.below hb1 hHeld.1.lt, hHeld.2.below hb1 (by have := hb1.size; omega)⟩
              replace HD : Hid (Dc u1 (some ⟨b, off, none⟩) n cap d) := HD.out.below hb1
              replace hbl : b < u1.heap.size := by have := hb1.size; omega
              clear hb1 hHeld
              go_wp2_with fail
              refine hK.out _ _ HH.out (fun hHeld => ?_)
              clear hK K0 HH
              (try simp only [Act.put, List.setIfInBounds_toArray, List.set_cons_zero, List.set_cons_succ])
              refine take_at 6 21 (.bool false) rfl rfl (by kernel_rfl) (by kernel_rfl) (by kernel_rfl) (fun _ _ _ h => h) (Or.inl ⟨by kernel_rfl, fun w' hS' => by go_simp⟩) hHeld ?_
              (try simp only [Act.put, List.setIfInBounds_toArray, List.set_cons_zero, List.set_cons_succ])
              refine take_at 7 22 (.bool false) rfl rfl (by kernel_rfl) (by kernel_rfl) (by kernel_rfl) (fun _ _ _ h => h) (Or.inl ⟨by kernel_rfl, fun w' hS' => by go_simp⟩) hHeld ?_
              (try simp only [Act.put, List.setIfInBounds_toArray, List.set_cons_zero, List.set_cons_succ])
              refine take_at 8 23 (.pointer (some ⟨w.heap.size, 0, none⟩)) rfl rfl (by kernel_rfl) (by kernel_rfl) (by kernel_rfl) (fun _ _ _ h => h) (Or.inl ⟨by kernel_rfl, fun w' hS' => by go_simp⟩) hHeld ?_
              (try simp only [Act.put, List.setIfInBounds_toArray, List.set_cons_zero, List.set_cons_succ])
              refine take_at 9 24 (.slice (some ⟨b, off, none⟩) n cap) rfl rfl (by kernel_rfl) (by kernel_rfl) (by kernel_rfl) (fun _ _ _ h => h) (Or.inl ⟨by kernel_rfl, fun w' hS' => by have hc := RowAt.cell hS'.1 0; go_simp⟩) hHeld ?_
              (try simp only [Act.put, List.setIfInBounds_toArray, List.set_cons_zero, List.set_cons_succ])
              refine take_at 10 25 (.int .i64 i) rfl rfl (by kernel_rfl) (by kernel_rfl) (by kernel_rfl) (fun _ _ _ h => h) (Or.inl ⟨by kernel_rfl, fun w' hS' => by go_simp⟩) hHeld ?_
              (try simp only [Act.put, List.setIfInBounds_toArray, List.set_cons_zero, List.set_cons_succ])
              refine take_at 11 26 (.pointer (some ⟨b, off + i * 6, none⟩)) rfl rfl (by kernel_rfl) (by kernel_rfl) (by kernel_rfl) (fun _ _ _ h => h) (Or.inl ⟨by kernel_rfl, fun w' hS' => by go_simp⟩) hHeld ?_
              (try simp only [Act.put, List.setIfInBounds_toArray, List.set_cons_zero, List.set_cons_succ])
              refine take_at 12 27 (.pointer (some ⟨b, off + i * 6, none⟩)) rfl rfl (by kernel_rfl) (by kernel_rfl) (by kernel_rfl) (fun _ _ _ h => h) (Or.inl ⟨by kernel_rfl, fun w' hS' => by go_simp⟩) hHeld ?_
              (try simp only [Act.put, List.setIfInBounds_toArray, List.set_cons_zero, List.set_cons_succ])
              refine take_at 13 28 (.int .i64 2) rfl rfl (by kernel_rfl) (by kernel_rfl) (by kernel_rfl) (fun _ _ _ h => h) (Or.inl ⟨by kernel_rfl, fun w' hS' => by have hc := hS'.2.1; go_simp⟩) hHeld ?_
              (try simp only [Act.put, List.setIfInBounds_toArray, List.set_cons_zero, List.set_cons_succ])
              refine take_at 14 29 (.bool true) rfl rfl (by kernel_rfl) (by kernel_rfl) (by kernel_rfl) (fun _ _ _ h => h) (Or.inl ⟨by kernel_rfl, fun w' hS' => by go_simp⟩) hHeld ?_
              (try simp only [Act.put, List.setIfInBounds_toArray, List.set_cons_zero, List.set_cons_succ])
              refine take_at 15 30 (.bool true) rfl rfl (by kernel_rfl) (by kernel_rfl) (by kernel_rfl) (fun _ _ _ h => h) (Or.inl ⟨by kernel_rfl, fun w' hS' => by go_simp⟩) hHeld ?_
              (try simp only [Act.put, List.setIfInBounds_toArray, List.set_cons_zero, List.set_cons_succ])
              refine take_at 16 31 (.pointer (some ⟨w.heap.size, 0, none⟩)) rfl rfl (by kernel_rfl) (by kernel_rfl) (by kernel_rfl) (fun _ _ _ h => h) (Or.inl ⟨by kernel_rfl, fun w' hS' => by go_simp⟩) hHeld ?_
              (try simp only [Act.put, List.setIfInBounds_toArray, List.set_cons_zero, List.set_cons_succ])
              refine take_at 17 32 (.slice (some ⟨b, off, none⟩) n cap) rfl rfl (by kernel_rfl) (by kernel_rfl) (by kernel_rfl) (fun _ _ _ h => h) (Or.inl ⟨by kernel_rfl, fun w' hS' => by have hc := RowAt.cell hS'.1 0; go_simp⟩) hHeld ?_
              (try simp only [Act.put, List.setIfInBounds_toArray, List.set_cons_zero, List.set_cons_succ])
              refine take_at 18 33 (.int .i64 i) rfl rfl (by kernel_rfl) (by kernel_rfl) (by kernel_rfl) (fun _ _ _ h => h) (Or.inl ⟨by kernel_rfl, fun w' hS' => by go_simp⟩) hHeld ?_
              (try simp only [Act.put, List.setIfInBounds_toArray, List.set_cons_zero, List.set_cons_succ])
              refine take_at 19 34 (.pointer (some ⟨b, off + i * 6, none⟩)) rfl rfl (by kernel_rfl) (by kernel_rfl) (by kernel_rfl) (fun _ _ _ h => h) (Or.inl ⟨by kernel_rfl, fun w' hS' => by go_simp⟩) hHeld ?_
              (try simp only [Act.put, List.setIfInBounds_toArray, List.set_cons_zero, List.set_cons_succ])
              refine take_at 20 35 (.pointer (some ⟨b, off + i * 6 + 1, none⟩)) rfl rfl (by kernel_rfl) (by kernel_rfl) (by kernel_rfl) (fun _ _ _ h => h) (Or.inl ⟨by kernel_rfl, fun w' hS' => by go_simp⟩) hHeld ?_
              (try simp only [Act.put, List.setIfInBounds_toArray, List.set_cons_zero, List.set_cons_succ])
              refine take_at 21 36 (.int .i64 V) rfl rfl (by kernel_rfl) (by kernel_rfl) (by kernel_rfl) (fun _ _ _ h => h) (Or.inl ⟨by kernel_rfl, fun w' hS' => by have hc := hS'.2.2.1; go_simp⟩) hHeld ?_
              (try simp only [Act.put, List.setIfInBounds_toArray, List.set_cons_zero, List.set_cons_succ])
              refine take_at 22 37 (.agg #[.slice (some ⟨b, off, none⟩) n cap]) rfl rfl (by kernel_rfl) (by kernel_rfl) (by kernel_rfl) (fun _ _ _ h => h) (yieldsIf_load_row (by kernel_rfl) 25 (.tmp 1) rfl w.heap.size rfl 25 #[.slice (some ⟨b, off, none⟩) n cap] (0, 0) _ (fun w' h => h.1) Try.underlying25 rfl doc_info) hHeld ?_
              (try simp only [Act.put, List.setIfInBounds_toArray, List.set_cons_zero, List.set_cons_succ])
              refine take_at 23 38 (.int .i64 i) rfl rfl (by kernel_rfl) (by kernel_rfl) (by kernel_rfl) (fun _ _ _ h => h) (Or.inl ⟨by kernel_rfl, fun w' hS' => by go_simp⟩) hHeld ?_
              (try simp only [Act.put, List.setIfInBounds_toArray, List.set_cons_zero, List.set_cons_succ])
              refine wpAnyH_ready (rs := [24]) (by kernel_rfl) (by simp) ?_
              refine AllReadyH.cons rfl (fun K0 hK => ?_) AllReadyH.nil
              go_simp
              go_at_call 48
              refine (l3Ahead_is HAH.out HD.out hil).mono ?_
              rintro e u2 ⟨rfl, hb1⟩
              replace HB : Hid (Below w.heap.size w u2) := HB.out.trans (hb1.mono HB.out.size)
              have HH : Hid (RowAt u2 w.heap.size #[.slice (some ⟨b, off, none⟩) n cap] 25 ∧ BlockIs u2 b (off + i * 6) (2, V, t, R, C, l) ta tn tc ca cn cc) := ⟨hHeld.1.below hb1 hHeld.1.lt, hHeld.2.below hb1 (by have := hb1.size; omega)⟩
              replace HD : Hid (Dc u2 (some ⟨b, off, none⟩) n cap d) := HD.out.below hb1
              replace hbl : b < u2.heap.size := by have := hb1.size; omega
              clear hb1 hHeld
              go_wp2_with fail
              refine hK.out _ _ HH.out (fun hHeld => ?_)
              clear hK K0 HH
              (try simp only [Act.put, List.setIfInBounds_toArray, List.set_cons_zero, List.set_cons_succ])
              refine take_at 25 40 (.int .i64 (ah + 1)) rfl rfl (by kernel_rfl) (by kernel_rfl) (by kernel_rfl) (fun _ _ _ h => h) (Or.inl ⟨by kernel_rfl, fun w' hS' => by go_simp; rw [IntKind.wrap_i64]; omega⟩) hHeld ?_
              (try simp only [Act.put, List.setIfInBounds_toArray, List.set_cons_zero, List.set_cons_succ])
              refine take_at 26 41 (.bool false) rfl rfl (by kernel_rfl) (by kernel_rfl) (by kernel_rfl) (fun _ _ _ h => h) (Or.inl ⟨by kernel_rfl, fun w' hS' => by go_simp <;> omega⟩) hHeld ?_
              (try simp only [Act.put, List.setIfInBounds_toArray, List.set_cons_zero, List.set_cons_succ])
              refine take_at 27 42 (.bool false) rfl rfl (by kernel_rfl) (by kernel_rfl) (by kernel_rfl) (fun _ _ _ h => h) (Or.inl ⟨by kernel_rfl, fun w' hS' => by go_simp⟩) hHeld ?_
              (try simp only [Act.put, List.setIfInBounds_toArray, List.set_cons_zero, List.set_cons_succ])
              refine take_at 28 43 (.bool false) rfl rfl (by kernel_rfl) (by kernel_rfl) (by kernel_rfl) (fun _ _ _ h => h) (Or.inl ⟨by kernel_rfl, fun w' hS' => by go_simp⟩) hHeld ?_
              (try simp only [Act.put, List.setIfInBounds_toArray, List.set_cons_zero, List.set_cons_succ])
              refine wpAnyH_done (by kernel_rfl) ?_ _
              refine NoPanic.normal ?_
              have HRR := hHeld.1
              clear hHeld
              go_wp2_with fail
              go_roundw
              case rel => exact ⟨i + 1, by omega, by go_num, by rw [List.range_succ, List.all_append, HAll.out]; simp [HDK.out], HB.out, HRR⟩
              case measure => simp [intOf]; omega
          · have HDK : Hid (docK d i = true) := by show docK d i = true; rw [HDE.out]; simp [hk2]
            refine wp_region_noPanic ?_
            refine wp_region_held_drew (S := fun w' => RowAt w' w.heap.size #[.slice (some ⟨b, off, none⟩) n cap] 25 ∧ BlockIs w' b (off + i * 6) (K, V, t, R, C, l) ta tn tc ca cn cc) (by kernel_rfl) ⟨HR.out, HI.out.below ((Below.refl _ _).drew) hbl⟩ (fun hHeld => ?_)
            refine take_at 0 15 (.pointer (some ⟨w.heap.size, 0, none⟩)) rfl rfl (by kernel_rfl) (by kernel_rfl) (by kernel_rfl) (fun _ _ _ h => h) (Or.inl ⟨by kernel_rfl, fun w' hS' => by go_simp⟩) hHeld ?_
            (try simp only [Act.put, List.setIfInBounds_toArray, List.set_cons_zero, List.set_cons_succ])
            refine take_at 1 16 (.slice (some ⟨b, off, none⟩) n cap) rfl rfl (by kernel_rfl) (by kernel_rfl) (by kernel_rfl) (fun _ _ _ h => h) (Or.inl ⟨by kernel_rfl, fun w' hS' => by have hc := RowAt.cell hS'.1 0; go_simp⟩) hHeld ?_
            (try simp only [Act.put, List.setIfInBounds_toArray, List.set_cons_zero, List.set_cons_succ])
            refine take_at 2 17 (.int .i64 i) rfl rfl (by kernel_rfl) (by kernel_rfl) (by kernel_rfl) (fun _ _ _ h => h) (Or.inl ⟨by kernel_rfl, fun w' hS' => by go_simp⟩) hHeld ?_
            (try simp only [Act.put, List.setIfInBounds_toArray, List.set_cons_zero, List.set_cons_succ])
            refine take_at 3 18 (.pointer (some ⟨b, off + i * 6, none⟩)) rfl rfl (by kernel_rfl) (by kernel_rfl) (by kernel_rfl) (fun _ _ _ h => h) (Or.inl ⟨by kernel_rfl, fun w' hS' => by go_simp⟩) hHeld ?_
            (try simp only [Act.put, List.setIfInBounds_toArray, List.set_cons_zero, List.set_cons_succ])
            refine take_at 4 19 (.agg #[.int .i64 K, .int .i64 V, .slice ta tn tc, .int .i64 R, .int .i64 C, .slice ca cn cc]) rfl rfl (by kernel_rfl) (by kernel_rfl) (by kernel_rfl) (fun _ _ _ h => h) (Or.inl ⟨by kernel_rfl, fun w' hS' => by obtain ⟨e0, e1, e2, e3, e4, e5, -, -⟩ := hS'.2; go_simp⟩) hHeld ?_
            (try simp only [Act.put, List.setIfInBounds_toArray, List.set_cons_zero, List.set_cons_succ])
            replace HB : Hid (Below w.heap.size w wr.drew) := HB.out.drew
            replace HD : Hid (Dc wr.drew (some ⟨b, off, none⟩) n cap d) := HD.out.below ((Below.refl _ _).drew)
            replace hbl : b < wr.drew.heap.size := hbl
            clear HR HI
            generalize wr.drew = u0 at HB HD hbl hHeld ⊢
            refine wpAnyH_ready (rs := [5]) (by kernel_rfl) (by simp) ?_
            refine AllReadyH.cons rfl (fun K0 hK => ?_) AllReadyH.nil
            go_simp
            go_at_call 47
            refine (l3Block_is HBL.out hHeld.2.2.2.2.2.2.2.1 hHeld.2.2.2.2.2.2.2.2).mono ?_
            rintro e u1 ⟨rfl, hb1⟩
            replace HB : Hid (Below w.heap.size w u1) := HB.out.trans (hb1.mono HB.out.size)
            have HH : Hid (RowAt u1 w.heap.size #[.slice (some ⟨b, off, none⟩) n cap] 25 ∧ BlockIs u1 b (off + i * 6) (K, V, t, R, C, l) ta tn tc ca cn cc) := ⟨hHeld.1.below hb1 hHeld.1.lt, hHeld.2.below hb1 (by have := hb1.size; omega)⟩
            replace HD : Hid (Dc u1 (some ⟨b, off, none⟩) n cap d) := HD.out.below hb1
            replace hbl : b < u1.heap.size := by have := hb1.size; omega
            clear hb1 hHeld
            go_wp2_with fail
            refine hK.out _ _ HH.out (fun hHeld => ?_)
            clear hK K0 HH
            (try simp only [Act.put, List.setIfInBounds_toArray, List.set_cons_zero, List.set_cons_succ])
            refine take_at 6 21 (.bool false) rfl rfl (by kernel_rfl) (by kernel_rfl) (by kernel_rfl) (fun _ _ _ h => h) (Or.inl ⟨by kernel_rfl, fun w' hS' => by go_simp⟩) hHeld ?_
            (try simp only [Act.put, List.setIfInBounds_toArray, List.set_cons_zero, List.set_cons_succ])
            refine take_at 7 22 (.bool false) rfl rfl (by kernel_rfl) (by kernel_rfl) (by kernel_rfl) (fun _ _ _ h => h) (Or.inl ⟨by kernel_rfl, fun w' hS' => by go_simp⟩) hHeld ?_
            (try simp only [Act.put, List.setIfInBounds_toArray, List.set_cons_zero, List.set_cons_succ])
            refine take_at 8 23 (.pointer (some ⟨w.heap.size, 0, none⟩)) rfl rfl (by kernel_rfl) (by kernel_rfl) (by kernel_rfl) (fun _ _ _ h => h) (Or.inl ⟨by kernel_rfl, fun w' hS' => by go_simp⟩) hHeld ?_
            (try simp only [Act.put, List.setIfInBounds_toArray, List.set_cons_zero, List.set_cons_succ])
            refine take_at 9 24 (.slice (some ⟨b, off, none⟩) n cap) rfl rfl (by kernel_rfl) (by kernel_rfl) (by kernel_rfl) (fun _ _ _ h => h) (Or.inl ⟨by kernel_rfl, fun w' hS' => by have hc := RowAt.cell hS'.1 0; go_simp⟩) hHeld ?_
            (try simp only [Act.put, List.setIfInBounds_toArray, List.set_cons_zero, List.set_cons_succ])
            refine take_at 10 25 (.int .i64 i) rfl rfl (by kernel_rfl) (by kernel_rfl) (by kernel_rfl) (fun _ _ _ h => h) (Or.inl ⟨by kernel_rfl, fun w' hS' => by go_simp⟩) hHeld ?_
            (try simp only [Act.put, List.setIfInBounds_toArray, List.set_cons_zero, List.set_cons_succ])
            refine take_at 11 26 (.pointer (some ⟨b, off + i * 6, none⟩)) rfl rfl (by kernel_rfl) (by kernel_rfl) (by kernel_rfl) (fun _ _ _ h => h) (Or.inl ⟨by kernel_rfl, fun w' hS' => by go_simp⟩) hHeld ?_
            (try simp only [Act.put, List.setIfInBounds_toArray, List.set_cons_zero, List.set_cons_succ])
            refine take_at 12 27 (.pointer (some ⟨b, off + i * 6, none⟩)) rfl rfl (by kernel_rfl) (by kernel_rfl) (by kernel_rfl) (fun _ _ _ h => h) (Or.inl ⟨by kernel_rfl, fun w' hS' => by go_simp⟩) hHeld ?_
            (try simp only [Act.put, List.setIfInBounds_toArray, List.set_cons_zero, List.set_cons_succ])
            refine take_at 13 28 (.int .i64 K) rfl rfl (by kernel_rfl) (by kernel_rfl) (by kernel_rfl) (fun _ _ _ h => h) (Or.inl ⟨by kernel_rfl, fun w' hS' => by have hc := hS'.2.1; go_simp⟩) hHeld ?_
            (try simp only [Act.put, List.setIfInBounds_toArray, List.set_cons_zero, List.set_cons_succ])
            refine take_at 14 29 (.bool false) rfl rfl (by kernel_rfl) (by kernel_rfl) (by kernel_rfl) (fun _ _ _ h => h) (Or.inl ⟨by kernel_rfl, fun w' hS' => by go_simp <;> omega⟩) hHeld ?_
            (try simp only [Act.put, List.setIfInBounds_toArray, List.set_cons_zero, List.set_cons_succ])
            refine take_at 15 30 (.bool false) rfl rfl (by kernel_rfl) (by kernel_rfl) (by kernel_rfl) (fun _ _ _ h => h) (Or.inl ⟨by kernel_rfl, fun w' hS' => by go_simp⟩) hHeld ?_
            (try simp only [Act.put, List.setIfInBounds_toArray, List.set_cons_zero, List.set_cons_succ])
            refine take_at 16 31 (undef) rfl rfl (by kernel_rfl) (by kernel_rfl) (by kernel_rfl) (fun _ _ _ h => h) (Or.inr ⟨by kernel_rfl, rfl⟩) hHeld ?_
            (try simp only [Act.put, List.setIfInBounds_toArray, List.set_cons_zero, List.set_cons_succ])
            refine take_at 17 32 (undef) rfl rfl (by kernel_rfl) (by kernel_rfl) (by kernel_rfl) (fun _ _ _ h => h) (Or.inr ⟨by kernel_rfl, rfl⟩) hHeld ?_
            (try simp only [Act.put, List.setIfInBounds_toArray, List.set_cons_zero, List.set_cons_succ])
            refine take_at 18 33 (undef) rfl rfl (by kernel_rfl) (by kernel_rfl) (by kernel_rfl) (fun _ _ _ h => h) (Or.inr ⟨by kernel_rfl, rfl⟩) hHeld ?_
            (try simp only [Act.put, List.setIfInBounds_toArray, List.set_cons_zero, List.set_cons_succ])
            refine take_at 19 34 (undef) rfl rfl (by kernel_rfl) (by kernel_rfl) (by kernel_rfl) (fun _ _ _ h => h) (Or.inr ⟨by kernel_rfl, rfl⟩) hHeld ?_
            (try simp only [Act.put, List.setIfInBounds_toArray, List.set_cons_zero, List.set_cons_succ])
            refine take_at 20 35 (undef) rfl rfl (by kernel_rfl) (by kernel_rfl) (by kernel_rfl) (fun _ _ _ h => h) (Or.inr ⟨by kernel_rfl, rfl⟩) hHeld ?_
            (try simp only [Act.put, List.setIfInBounds_toArray, List.set_cons_zero, List.set_cons_succ])
            refine take_at 21 36 (undef) rfl rfl (by kernel_rfl) (by kernel_rfl) (by kernel_rfl) (fun _ _ _ h => h) (Or.inr ⟨by kernel_rfl, rfl⟩) hHeld ?_
            (try simp only [Act.put, List.setIfInBounds_toArray, List.set_cons_zero, List.set_cons_succ])
            refine take_at 22 37 (undef) rfl rfl (by kernel_rfl) (by kernel_rfl) (by kernel_rfl) (fun _ _ _ h => h) (Or.inr ⟨by kernel_rfl, rfl⟩) hHeld ?_
            (try simp only [Act.put, List.setIfInBounds_toArray, List.set_cons_zero, List.set_cons_succ])
            refine take_at 23 38 (undef) rfl rfl (by kernel_rfl) (by kernel_rfl) (by kernel_rfl) (fun _ _ _ h => h) (Or.inr ⟨by kernel_rfl, rfl⟩) hHeld ?_
            (try simp only [Act.put, List.setIfInBounds_toArray, List.set_cons_zero, List.set_cons_succ])
            refine take_at 24 39 (undef) rfl rfl (by kernel_rfl) (by kernel_rfl) (by kernel_rfl) (fun _ _ _ h => h) (Or.inr ⟨by kernel_rfl, rfl⟩) hHeld ?_
            (try simp only [Act.put, List.setIfInBounds_toArray, List.set_cons_zero, List.set_cons_succ])
            refine take_at 25 40 (undef) rfl rfl (by kernel_rfl) (by kernel_rfl) (by kernel_rfl) (fun _ _ _ h => h) (Or.inr ⟨by kernel_rfl, rfl⟩) hHeld ?_
            (try simp only [Act.put, List.setIfInBounds_toArray, List.set_cons_zero, List.set_cons_succ])
            refine take_at 26 41 (undef) rfl rfl (by kernel_rfl) (by kernel_rfl) (by kernel_rfl) (fun _ _ _ h => h) (Or.inr ⟨by kernel_rfl, rfl⟩) hHeld ?_
            (try simp only [Act.put, List.setIfInBounds_toArray, List.set_cons_zero, List.set_cons_succ])
            refine take_at 27 42 (.bool false) rfl rfl (by kernel_rfl) (by kernel_rfl) (by kernel_rfl) (fun _ _ _ h => h) (Or.inl ⟨by kernel_rfl, fun w' hS' => by go_simp⟩) hHeld ?_
            (try simp only [Act.put, List.setIfInBounds_toArray, List.set_cons_zero, List.set_cons_succ])
            refine take_at 28 43 (.bool false) rfl rfl (by kernel_rfl) (by kernel_rfl) (by kernel_rfl) (fun _ _ _ h => h) (Or.inl ⟨by kernel_rfl, fun w' hS' => by go_simp⟩) hHeld ?_
            (try simp only [Act.put, List.setIfInBounds_toArray, List.set_cons_zero, List.set_cons_succ])
            refine wpAnyH_done (by kernel_rfl) ?_ _
            refine NoPanic.normal ?_
            have HRR := hHeld.1
            clear hHeld
            go_wp2_with fail
            go_roundw
            case rel => exact ⟨i + 1, by omega, by go_num, by rw [List.range_succ, List.all_append, HAll.out]; simp [HDK.out], HB.out, HRR⟩
            case measure => simp [intOf]; omega
      · have hib : ¬ (i : Int) < (n : Int) := by omega
        obtain rfl : i = n := by omega
        go_wp2_with fail
        go_ret
        refine ⟨?_, HB.out⟩
        have hd : d.length ≤ 8 := by have := HN.out; omega
        rw [← HX.out]
        unfold docB
        rw [decide_eq_true hd, Bool.true_and, ← HN.out, HAll.out]
        rfl
end Go.Proofs.Ytcecmkideoodiaa
namespace Go.Proofs.Ytcecmkideoodiaa
open Go.RowKit

section
variable {P : Program} {ops : Array Oper} {Q : Exit → Act → World → Prop} {md : Region.Mode} {S : World → Prop} {z : Nat}

/-- Whatever order is picked from here on, and S holds behind every operation but number z. -/
def wpAnyL (P : Program) (md : Region.Mode) (ops : Array Oper) (Q : Exit → Act → World → Prop) (S : World → Prop) (z : Nat) : Nat → Array Bool → Act → World → Prop
  | 0, listed, a, w => Region.ready md ops listed = [] ∧ Q .normal a w
  | fuel + 1, listed, a, w =>
    (Region.ready md ops listed = [] → Q .normal a w) ∧
    ∀ i ∈ Region.ready md ops listed, wpOp P ops Q i (fun a' w' => (i ≠ z → S w') ∧ wpAnyL P md ops Q S z fuel (listed.setIfInBounds i true) a' w') a w
theorem wpAny_of_L : ∀ (fuel : Nat) (listed : Array Bool) (a : Act) (w : World), wpAnyL P md ops Q S z fuel listed a w → wpAny P md ops Q fuel listed a w
  | 0, _, _, _, h => h
  | fuel + 1, _, _, _, h => ⟨h.1, fun i hi => wpOp_mono (fun a' w' h' => wpAny_of_L fuel _ a' w' h'.2) (h.2 i hi)⟩
/-- Whatever is listed, all that it waits for is listed. -/
def ClosedL (md : Region.Mode) (ops : Array Oper) (listed : Array Bool) : Prop := ∀ (k : Nat) (o : Oper), ops[k]? = some o → listed.getD k false = true → ∀ e ∈ o.after, Region.binds md e = true → listed.getD e.on false = true
def closedB (md : Region.Mode) (ops : Array Oper) (listed : Array Bool) : Bool := (List.range ops.size).all fun k => !listed.getD k false || (ops[k]?.map fun o => o.after.all fun e => !Region.binds md e || listed.getD e.on false).getD true
theorem closedB_spec {listed : Array Bool} (h : closedB md ops listed = true) : ClosedL md ops listed := by
  intro k o ho hk e he hb
  unfold closedB at h
  rw [List.all_eq_true] at h
  have hlt : k < ops.size := (Array.getElem?_eq_some_iff.1 ho).1
  have := h k (List.mem_range.2 hlt)
  rw [hk, ho] at this
  simp only [Bool.not_true, Bool.false_or, Option.map_some, Option.getD_some, Array.all_eq_true_iff_forall_mem] at this
  have h2 := this e he
  rw [hb] at h2
  simpa using h2
theorem ClosedL.step {listed : Array Bool} {j : Nat} (h : ClosedL md ops listed) (hj : j ∈ Region.ready md ops listed) : ClosedL md ops (listed.setIfInBounds j true) := by
  intro k o ho hk e he hb
  by_cases hjk : j = k
  · subst hjk
    obtain ⟨-, o', ho', hall⟩ := mem_ready.1 hj
    rw [ho] at ho'
    cases ho'
    exact getD_set_true (hall e he hb)
  · rw [getD_set_ne false hjk] at hk
    exact getD_set_true (h k o ho hk e he hb)
/-- Number z waits for number i, perhaps by way of others. -/
def waitsB (md : Region.Mode) (ops : Array Oper) (i : Nat) : Nat → Nat → Bool
  | 0, _ => false
  | f + 1, j => (ops[j]?.map fun o => o.after.any fun e => Region.binds md e && (e.on == i || waitsB md ops i f e.on)).getD false
theorem waitsB_spec {i : Nat} {listed : Array Bool} (hc : ClosedL md ops listed) : ∀ (f j : Nat) (o : Oper), ops[j]? = some o → (∀ e ∈ o.after, Region.binds md e = true → listed.getD e.on false = true) → waitsB md ops i f j = true → listed.getD i false = true
  | 0, _, _, _, _, h => by simp [waitsB] at h
  | f + 1, j, o, ho, hall, h => by
    unfold waitsB at h
    rw [ho] at h
    simp only [Option.map_some, Option.getD_some] at h
    rw [← Array.any_toList, List.any_eq_true] at h
    obtain ⟨e, he, h3⟩ := h
    rw [Array.mem_toList_iff] at he
    simp only [Bool.and_eq_true, Bool.or_eq_true, beq_iff_eq] at h3
    obtain ⟨hb, h2⟩ := h3
    have hl := hall e he hb
    rcases h2 with rfl | h2
    · exact hl
    · cases ho2 : ops[e.on]? with
      | none =>
        cases f with
        | zero => simp [waitsB] at h2
        | succ f => unfold waitsB at h2; rw [ho2] at h2; simp at h2
      | some o2 => exact waitsB_spec hc f e.on o2 ho2 (hc e.on o2 ho2 hl) h2
/-- An operation that z waits for may be taken first, if it yields its value in every world that meets S. -/
theorem wpAnyL_first {i : Nat} {oi : Oper} {v : Value} (hi : ops[i]? = some oi) (hsel : ∀ (j : Nat) (o : Oper) cs b, ops[j]? = some o → o.op ≠ .select cs b)
    (hQ : ∀ c a w, Q (.panic c) (a.put oi.dst v) w → Q (.panic c) a w) (f0 : Nat) (hz : waitsB md ops i f0 z = true) :
    ∀ (fuel : Nat) (listed : Array Bool) (a : Act) (w : World), ClosedL md ops listed →
      (∀ j oj, ops[j]? = some oj → j ≠ i → listed.getD j true = false → (∀ e ∈ oj.after, Region.binds md e = true → e.on ≠ i) → oi.apart ops oj = true) →
      i ∈ Region.ready md ops listed → YieldsIf P ops S oi v a → S w →
      wpAnyL P md ops Q S z fuel (listed.setIfInBounds i true) (a.put oi.dst v) w → wpAnyL P md ops Q S z (fuel + 1) listed a w := by
  intro fuel
  induction fuel with
  | zero =>
    intro listed a w hcl _ hr hy hS H
    refine ⟨fun h => (by rw [h] at hr; cases hr), fun j hj => ?_⟩
    by_cases hji : j = i
    · subst hji; exact hy.wpOp hi hS ⟨fun _ => hS, H⟩
    · have := ready_mono hj hji
      rw [H.1] at this
      cases this
  | succ fuel ih =>
    intro listed a w hcl hfree hr hy hS H
    refine ⟨fun h => (by rw [h] at hr; cases hr), fun j hj => ?_⟩
    by_cases hji : j = i
    · subst hji; exact hy.wpOp hi hS ⟨fun _ => hS, H⟩
    · have h1 := H.2 j (ready_mono hj hji)
      obtain ⟨hjun, oj, hoj, hall⟩ := mem_ready.1 hj
      have hun := (mem_ready.1 hr).1
      have hnot : ∀ e ∈ oj.after, Region.binds md e = true → e.on ≠ i := fun e he hb heq => by
        have h1 := hall e he hb
        have h0 := (mem_ready.1 hr).1
        rw [heq] at h1
        rcases Nat.lt_or_ge i listed.size with h' | h'
        · simp [h'] at h0 h1; rw [h0] at h1; cases h1
        · simp [Array.getElem?_eq_none h'] at h1
      have hjz : j ≠ z := fun e => by
        subst e
        have h1 := waitsB_spec hcl f0 j oj hoj hall hz
        rcases Nat.lt_or_ge i listed.size with h' | h'
        · simp [h'] at hun h1; rw [hun] at h1; cases h1
        · simp [Array.getElem?_eq_none h'] at h1
      have h2 := wpOp_putIf hoj (hfree j oj hoj hji hjun hnot) (fun cs b => hsel i oi cs b hi) (fun cs b => hsel j oj cs b hoj) hQ hy h1
      have hfree' : ∀ k ok, ops[k]? = some ok → k ≠ i → (listed.setIfInBounds j true).getD k true = false →
          (∀ e ∈ ok.after, Region.binds md e = true → e.on ≠ i) → oi.apart ops ok = true := fun k ok hk hki hun hno => by
        refine hfree k ok hk hki ?_ hno
        by_cases hjk : j = k
        · subst hjk; exact hjun
        · rw [getD_set_ne true hjk] at hun; exact hun
      refine wpOp_mono (fun a' w' h3 => ⟨h3.2.1, ih (listed.setIfInBounds j true) a' w' (hcl.step hj) hfree' (ready_mono hr (Ne.symm hji)) h3.1 (h3.2.1 hjz) ?_⟩) h2
      rw [Array.setIfInBounds_comm _ _ hji]
      exact h3.2.2
/-- Take number i first, what it yields told by a slot's number; number z waits for it. -/
theorem takeL (i d : Nat) (v : Value) {oi : Oper} {fuel : Nat} {listed : Array Bool} {a : Act} {w : World} (hi : ops[i]? = some oi) (hd : oi.dst = some d)
    (hs : Region.noSelect ops = true) (hf : Region.free md ops listed i = true) (hr : (Region.ready md ops listed).contains i = true) (hc : closedB md ops listed = true) (hz : waitsB md ops i 40 z = true)
    (hQ : ∀ c a w, Q (.panic c) (a.put (some d) v) w → Q (.panic c) a w) (hy : YieldsIf P ops S oi v a) (hS : S w)
    (h : wpAnyL P md ops Q S z fuel (listed.setIfInBounds i true) (a.put (some d) v) w) : wpAnyL P md ops Q S z (fuel + 1) listed a w := by
  rw [← hd] at hQ h
  exact wpAnyL_first hi (Region.noSelect_spec hs) hQ 40 hz fuel listed a w (closedB_spec hc) (Region.free_spec hi hf) (by simpa using hr) hy hS h
def AllReadyL (P : Program) (md : Region.Mode) (ops : Array Oper) (Q : Exit → Act → World → Prop) (S : World → Prop) (z : Nat) (fuel : Nat) (listed : Array Bool) (a : Act) (w : World) (rs : List Nat) : Prop :=
  ∀ i ∈ rs, wpOp P ops Q i (fun a' w' => (i ≠ z → S w') ∧ wpAnyL P md ops Q S z fuel (listed.setIfInBounds i true) a' w') a w
theorem AllReadyL.nil {fuel : Nat} {listed : Array Bool} {a : Act} {w : World} : AllReadyL P md ops Q S z fuel listed a w [] := fun _ h => by cases h
theorem AllReadyL.cons {fuel : Nat} {listed : Array Bool} {a : Act} {w : World} {i : Nat} {o : Oper} {rs : List Nat} (ho : ops[i]? = some o)
    (h : ∀ K' : Act → World → Prop, Shut (∀ a w, (i ≠ z → S w) → ((i ≠ z → S w) → wpAnyL P md ops Q S z fuel (listed.setIfInBounds i true) a w) → K' a w) → if Region.wanted o (yielded ops a.tmps) = true then Oper.wp P o a w K' Q else K' (a.put o.dst undef) w)
    (hs : AllReadyL P md ops Q S z fuel listed a w rs) : AllReadyL P md ops Q S z fuel listed a w (i :: rs) := fun j hj => by
  rcases List.mem_cons.1 hj with rfl | hj
  · exact wpOp_step ho (fun K' hK => h K' (fun a w hS hW => hK a w ⟨hS, hW hS⟩))
  · exact hs j hj
theorem wpAnyL_ready {rs : List Nat} {fuel : Nat} {listed : Array Bool} {a : Act} {w : World} (hr : Region.ready md ops listed = rs) (hne : rs ≠ [])
    (h : AllReadyL P md ops Q S z fuel listed a w rs) : wpAnyL P md ops Q S z (fuel + 1) listed a w := ⟨fun h0 => absurd (hr ▸ h0) hne, hr ▸ h⟩
theorem wpAnyL_done {listed : Array Bool} {a : Act} {w : World} (hr : Region.ready md ops listed = []) (h : Q .normal a w) :
    ∀ fuel, wpAnyL P md ops Q S z fuel listed a w
  | 0 => ⟨hr, h⟩
  | _ + 1 => ⟨fun _ => h, by rw [hr]; simp⟩
/-- The beginning: S is shown of the world behind the draw; behind number z it is asked no more. -/
theorem wp_region_L (S : World → Prop) (z : Nat) {id : Nat} {a : Act} {w : World} (hm : P.follows .mixedOrders = true) (hS : S w.drew)
    (h : S w.drew → wpAnyL P .any ops Q S z ops.size (Array.replicate ops.size false) a w.drew) : (Code.region id ops true).wp P Q a w :=
  wp_region_any hm (wpAny_of_L _ _ _ _ (h hS))
end
end Go.Proofs.Ytcecmkideoodiaa
namespace Go.Proofs.Ytcecmkideoodiaa
open Go.RowKit

/-- The blocks of a drawn document: levels, small texts, small tables. -/
def BlsDr (d : List Bl) : Prop := ∀ x ∈ d, BlDr x
theorem BlsDr.snoc {d : List Bl} {y : Bl} (h : BlsDr d) (hy : BlDr y) : BlsDr (d ++ [y]) := fun x hx => by
  rcases List.mem_append.1 hx with h1 | h1
  · exact h x h1
  · rw [List.mem_singleton.1 h1]; exact hy
theorem aheadN_dr {d : List Bl} (h : BlsDr d) (k : Nat) (hk : k ≤ d.length) : -1 ≤ aheadN d k ∧ aheadN d k ≤ 3 := by
  unfold aheadN
  split
  · omega
  · have hk' : k - 1 < d.length := by omega
    have := (h (d.getD (k - 1) bl0) (by simp [List.getD, hk'])).1
    unfold lvN
    split <;> omega
theorem cellsX_new (w : World) (a b c d e f : Value) (t : TypeId) : ∀ j u, [a, b, c, d, e, f][j]? = some u → (w.alloc (.cells #[a, b, c, d, e, f] t)).cell? ((⟨w.heap.size, 0, none⟩ : Addr).add j) = some u := by
  intro j u hj
  match j, hj with
  | 0, hj => simp at hj; subst hj; simp [Addr.add]
  | 1, hj => simp at hj; subst hj; simp [Addr.add]
  | 2, hj => simp at hj; subst hj; simp [Addr.add]
  | 3, hj => simp at hj; subst hj; simp [Addr.add]
  | 4, hj => simp at hj; subst hj; simp [Addr.add]
  | 5, hj => simp at hj; subst hj; simp [Addr.add]
  | (j + 6), hj => simp at hj
theorem rbX_one (x : Rb) : ∀ u ∈ rbCells x, u.oneCell' = true := by
  intro u hu
  simp only [rbCells, sl3V, List.mem_cons, List.not_mem_nil, or_false] at hu
  rcases hu with rfl | rfl | rfl | rfl | rfl | rfl <;> rfl
set_option maxRecDepth 100000 in
set_option maxHeartbeats 4000000 in
theorem l3Ahead_X {a : Option Addr} {n cap k : Nat} {d : List Bl} {w : World} {x : Int} (hx : aheadN d k = x) (h : Dc w a n cap d) (hk : k ≤ d.length) :
    Calls Try.prog 48 #[.agg #[.slice a n cap], .int .i64 k] w fun e w' => e = .returned (.int .i64 x) ∧ Below w.heap.size w w' := by
  have HN : Hid (n = d.length) := h.1
  have hc := h.2.1
  have hm := h.2.2.1
  unfold maxLen at hm
  rcases h.2.2.2 with e | ⟨b, off, rfl, hb, hcl⟩
  · rw [e] at hk hx
    obtain rfl : k = 0 := by simpa using hk
    have hx' : x = -1 := by rw [← hx]; rfl
    clear hx h HN
    subst hx'
    go_enter Try.func48, Try.ntmps48
    go_upto_region 1 with fail
    have B0 : Below w.heap.size w (w.alloc (.cells #[.slice a n cap] 25)) := (Below.refl _ _).alloc (Nat.le_refl _) _
    generalize (w.alloc (.cells #[.slice a n cap] 25)) = v0 at B0 ⊢
    go_wp2_with fail
    go_ret
    exact ⟨rfl, B0⟩
  go_enter Try.func48, Try.ntmps48
  go_upto_region 1 with fail
  have B0 : Below w.heap.size w (w.alloc (.cells #[.slice (some ⟨b, off, none⟩) n cap] 25)) := (Below.refl _ _).alloc (Nat.le_refl _) _
  have q0 : (w.alloc (.cells #[.slice (some ⟨b, off, none⟩) n cap] 25)).cell? ⟨w.heap.size, 0, none⟩ = some (.slice (some ⟨b, off, none⟩) n cap) := by simp
  rcases k with _ | j
  · have hx' : x = -1 := by rw [← hx]; rfl
    clear hx
    subst hx'
    generalize (w.alloc (.cells #[.slice (some ⟨b, off, none⟩) n cap] 25)) = v0 at B0 q0 ⊢
    go_wp2_with fail
    go_ret
    exact ⟨rfl, B0⟩
  · have hj : j < d.length := by omega
    obtain ⟨ta, tn, tc, ca, cn, cc, c0, c1, -⟩ := (hcl j hj).below B0 hb
    have hx' : lvN (d.getD j bl0) = x := by rw [← hx]; rfl
    obtain ⟨K, HK⟩ : ∃ K, Hid ((d.getD j bl0).1 = K) := ⟨_, rfl⟩
    obtain ⟨V, HV⟩ : ∃ K, Hid ((d.getD j bl0).2.1 = K) := ⟨_, rfl⟩
    rw [HK.out] at c0
    rw [HV.out] at c1
    unfold lvN at hx'
    rw [HK.out, HV.out] at hx'
    have HX : Hid ((if K = 2 then V else -1) = x) := hx'
    have hj0 : (0 : Int) ≤ (j : Int) := by omega
    have hj1 : (j : Int) < (n : Int) := by have := HN.out; omega
    have hj2 : (j : Int) ≤ 9223372036854775806 := by omega
    generalize (w.alloc (.cells #[.slice (some ⟨b, off, none⟩) n cap] 25)) = v0 at B0 q0 c0 c1 ⊢
    clear hcl hx hx'
    by_cases h2 : K = 2
    · subst h2
      have hxe : V = x := by have := HX.out; rw [if_pos rfl] at this; exact this
      go_wp2_with fail
      go_ret
      exact ⟨by rw [← hxe]; rfl, B0⟩
    · have hxe : -1 = x := by have := HX.out; rw [if_neg h2] at this; exact this
      have h2b : (K != 2) = true := by simp [h2]
      go_wp2_with fail
      go_ret
      exact ⟨by rw [← hxe]; rfl, B0⟩
theorem drdoc_info : (Try.prog.info? 25).map (·.size) = some 1 := by kernel_rfl
theorem drcells1_one (a : Option Addr) (n c : Nat) : (#[Value.slice a n c] : Array Value).all (·.oneCell') = true := by simp [Value.oneCell']
theorem BlX.set {w : World} {B X : Nat} {x : Rb} {y : Bl} {old : Array Value} {ty : TypeId} (h : BlX w B x y) (hX : RowAt w X old ty) (h1 : 74 ≠ ty) (h2 : 41 ≠ ty) (j : Nat) (u : Value) : BlX (w.setCell ⟨X, j, none⟩ u) B x y := by
  obtain ⟨h0, h3, rs, h4⟩ := h
  refine ⟨h0, own_set h3 _ _ (rowAt_ne hX h3 h1), rs, own_set h4.1 _ _ (rowAt_ne hX h4.1 h2), h4.2.1, fun k hk => ?_, h4.2.2.2⟩
  obtain ⟨e0, e1, e2, e3, e4⟩ := h4.2.2.1 k hk
  exact ⟨e0, e1, e2, e3, own_set e4 _ _ (rowAt_ne hX e4 h1)⟩
/-- A store into a block that is a document's own struct turns none of its blocks. -/
theorem docX_other {w : World} {B X : Nat} {v : Value} {rbs : List Rb} {d : List Bl} {old : Array Value} (h : DocX w B v rbs d) (hX : RowAt w X old 25) (_ : True) (j : Nat) (u : Value) : DocX (w.setCell ⟨X, j, none⟩ u) B v rbs d :=
  ⟨own_set h.1 _ _ (rowAt_ne hX h.1 (by decide)), h.2.1, fun k hk => (h.2.2 k hk).set hX (by decide) (by decide) j u⟩
theorem docX_row {w : World} {B X : Nat} {v : Value} {rbs : List Rb} {d : List Bl} {old : Array Value} (h : DocX w B v rbs d) (hX : RowAt w X old 25) (cs : Array Value) : DocX (w.setRow X cs) B v rbs d := by
  refine ⟨own_row h.1 _ _ (rowAt_ne hX h.1 (by decide)), h.2.1, fun k hk => ?_⟩
  obtain ⟨h0, h3, rs, h4⟩ := h.2.2 k hk
  refine ⟨h0, own_row h3 _ _ (rowAt_ne hX h3 (by decide)), rs, own_row h4.1 _ _ (rowAt_ne hX h4.1 (by decide)), h4.2.1, fun j hj => ?_, h4.2.2.2⟩
  obtain ⟨e0, e1, e2, e3, e4⟩ := h4.2.2.1 j hj
  exact ⟨e0, e1, e2, e3, own_row e4 _ _ (rowAt_ne hX e4 (by decide))⟩
set_option maxRecDepth 100000 in
set_option maxHeartbeats 16000000 in
theorem l71Doc_any (B g p : Nat) (w : World) (h : Rd B w g p) (hp : p ≤ 880000) :
    Calls Try.prog 39 #[.pointer (some ⟨g, 0, none⟩)] w fun e w' => ∃ (a : Option Addr) (m c : Nat) (d : List Bl) (q : Nat), e = .returned (.agg #[.slice a m c]) ∧ (∃ rbs, DocX w' w.heap.size (.slice a m c) rbs d) ∧ BlsDr d ∧ (1 ≤ d.length ∧ d.length ≤ 6) ∧ Rd B w' g q ∧ q ≤ p + 3013 ∧ Fr w.heap.size g w w' := by
  obtain ⟨i0, hi0, hz0, hz1, hz2⟩ := info_parts infoX_block
  have hlt := h.lt
  have HR : Hid (Rd B w g p) := h
  clear h
  go_enter Try.func39, Try.ntmps39
  go_upto_region 2 with fail
  have F0 : Fr w.heap.size g w ((w.alloc (.cells #[.slice none 0 0] 25)).alloc (.cells #[.slice none 0 0] 25)) := ((Fr.refl _ _ w).alloc (Nat.le_refl _) _).alloc (by simp) _
  have G0 : RowAt ((w.alloc (.cells #[.slice none 0 0] 25)).alloc (.cells #[.slice none 0 0] 25)) w.heap.size #[.slice none 0 0] 25 := (rowAt_new w _ _).alloc _
  have G1 : RowAt ((w.alloc (.cells #[.slice none 0 0] 25)).alloc (.cells #[.slice none 0 0] 25)) (w.heap.size + 1) #[.slice none 0 0] 25 := by
    have := rowAt_new (w.alloc (.cells #[.slice none 0 0] 25)) #[.slice none 0 0] 25
    simpa using this
  have HR0 : Hid (Rd B ((w.alloc (.cells #[.slice none 0 0] 25)).alloc (.cells #[.slice none 0 0] 25)) g p) := (HR.out.alloc _).alloc _
  generalize ((w.alloc (.cells #[.slice none 0 0] 25)).alloc (.cells #[.slice none 0 0] 25)) = v0 at F0 G0 G1 HR0 ⊢
  have s0 := F0.size
  have l0 := G0.lt
  have l1 := G1.lt
  have HG0 : Hid (RowAt v0 w.heap.size #[.slice none 0 0] 25) := G0
  have HG1 : Hid (RowAt v0 (w.heap.size + 1) #[.slice none 0 0] 25) := G1
  have HF0 : Hid (Fr w.heap.size g w v0) := F0
  clear G0 G1 F0
  go_wp2_with fail
  refine (pick_any B g p 6 _ HR0.out (by omega) (by omega) (by omega)).mono ?_
  rintro e w1 ⟨x, rfl, hx0, hx1, hr1, hg1⟩
  have f1 := fr_grown hg1
  have s1 := f1.size
  have HR1 : Hid (Rd B w1 g (p + 1)) := hr1
  have HG01 : Hid (RowAt w1 w.heap.size #[.slice none 0 0] 25) := HG0.out.fr f1 (by omega)
  have HG11 : Hid (RowAt w1 (w.heap.size + 1) #[.slice none 0 0] 25) := HG1.out.fr f1 (by omega)
  have HF1 : Hid (Fr w.heap.size g w w1) := HF0.out.trans (f1.mono (by omega))
  clear hr1 hg1 f1 HG0 HG1 HF0 HR0 HR
  go_wp2_with fail
  go_loopw [4] (fun nv wr => ∃ (k : Nat) (a : Option Addr) (m c : Nat) (rbs : List Rb) (d : List Bl) (q : Nat), nv = .int .i64 ((k : Int) - 1) ∧ v0.heap.size ≤ wr.heap.size ∧ 1 ≤ m + k ∧ m + k ≤ 6 ∧ q + 502 * k ≤ p + 3013 ∧ m = d.length ∧ RowAt wr w.heap.size #[.slice none 0 0] 25 ∧ RowAt wr (w.heap.size + 1) #[.slice a m c] 25 ∧ DocX wr v0.heap.size (.slice a m c) rbs d ∧ BlsDr d ∧ Rd B wr g q ∧ Fr w.heap.size g w wr) (fun nv _ => (intOf nv + 1).toNat)
  case atStart => exact ⟨(x + 1).toNat, none, 0, 0, [], [], p + 1, by congr 1; omega, s1, by omega, by omega, by omega, rfl, HG01.out, HG11.out, DocX.nil _ _, fun x hx => absurd hx (by simp), HR1.out, HF1.out⟩
  case round =>
    obtain ⟨k, a, m, c, rbs, d, q, rfl, hvs, hm1, hm6, hqk, hml, hG0, hG1, hD, hBD, hr, hF⟩ := hrel
    have HML : Hid (m = d.length) := hml
    have HDR : Hid (BlsDr d) := hBD
    have lz0 := hG0.lt
    have lz1 := hG1.lt
    have hc1 := hD.dc.2.1
    have hc2 := hD.dc.2.2.1
    unfold maxLen at hc2
    have HG0 : Hid (RowAt wr w.heap.size #[.slice none 0 0] 25) := hG0
    have HG1 : Hid (RowAt wr (w.heap.size + 1) #[.slice a m c] 25) := hG1
    have HD : Hid (DocX wr v0.heap.size (.slice a m c) rbs d) := hD
    have HR : Hid (Rd B wr g q) := hr
    have HF : Hid (Fr w.heap.size g w wr) := hF
    have hgw : g < w.heap.size := hlt
    clear hG0 hG1 hD hBD hr hF hml HR1 HG01 HG11 HF1
    by_cases h0 : k = 0
    · subst h0
      have k0 : wr.cell? ⟨w.heap.size + 1, 0, none⟩ = some (.slice a m c) := HG1.out.cell 0
      go_wp2_with (refine wpList_store_row rfl 25 (.tmp 2) (.tmp 25) rfl w.heap.size #[.slice a m c] rfl rfl 25 _ HG0.out drdoc_info rfl (drcells1_one _ _ _) ?_)
      have bT : Below w.heap.size wr (wr.setRow w.heap.size #[.slice a m c]) := below_row (Below.refl _ _) (Nat.le_refl _) _
      refine bodyPost_ret (v := .agg #[.slice a m c]) (results_cell_row (p := 2) (ty := 25) rfl _ _ w.heap.size 25 _ _ _ rfl (RowAt.setRow HG0.out _) Try.underlying25 rfl drdoc_info) rfl ⟨a, m, c, d, q, rfl, ?_, HDR.out, by have := HML.out; omega, HR.out.below bT hgw, by omega, HF.out.below bT⟩
      exact ⟨_, (docX_row HD.out HG0.out _).less (by omega)⟩
    · have hk1 : (0 : Int) ≤ (k : Int) - 1 := by omega
      obtain ⟨ah, HAH⟩ : ∃ ah, Hid (aheadN d m = ah) := ⟨_, rfl⟩
      have hah := aheadN_dr HDR.out m (by have := HML.out; omega)
      rw [HAH.out] at hah
      have HAHD : Hid (aheadN d m = ah) := HAH
      clear HAH
      go_upto_region 5 with fail
      refine wp_region_noPanic ?_
      refine wp_region_L (fun w' => RowAt w' (w.heap.size + 1) #[.slice a m c] 25) 13 (by kernel_rfl) (HG1.out.drew) (fun hHeld => ?_)
      have HG0d : Hid (RowAt wr.drew w.heap.size #[.slice none 0 0] 25) := HG0.out.drew
      have HG1d : Hid (RowAt wr.drew (w.heap.size + 1) #[.slice a m c] 25) := HG1.out.drew
      have HDd : Hid (DocX wr.drew v0.heap.size (.slice a m c) rbs d) := HD.out.below (Below.refl _ _).drew
      have HRd : Hid (Rd B wr.drew g q) := HR.out.below (Below.refl _ _).drew (by omega)
      have HFd : Hid (Fr w.heap.size g w wr.drew) := HF.out.below ((Below.refl _ _).drew)
      have sd : wr.heap.size = wr.drew.heap.size := rfl
      rw [sd] at lz0 lz1 hvs
      clear HG0 HG1 HD HR HF
      generalize wr.drew = u1 at HG0d HG1d HDd HRd HFd sd lz0 lz1 hvs hHeld ⊢
      refine takeL 0 12 (.pointer (some ⟨w.heap.size + 1, 0, none⟩)) rfl rfl (by kernel_rfl) (by kernel_rfl) (by kernel_rfl) (by kernel_rfl) (by kernel_rfl) (fun _ _ _ h => h) (Or.inl ⟨by kernel_rfl, fun w' hS' => by go_simp⟩) hHeld ?_
      (try simp only [Act.put, List.setIfInBounds_toArray, List.set_cons_zero, List.set_cons_succ])
      refine takeL 1 13 (.slice a m c) rfl rfl (by kernel_rfl) (by kernel_rfl) (by kernel_rfl) (by kernel_rfl) (by kernel_rfl) (fun _ _ _ h => h) (Or.inl ⟨by kernel_rfl, fun w' hS' => by have hc := RowAt.cell hS' 0; simp at hc; go_simp⟩) hHeld ?_
      (try simp only [Act.put, List.setIfInBounds_toArray, List.set_cons_zero, List.set_cons_succ])
      refine takeL 2 14 (.pointer (some ⟨g, 0, none⟩)) rfl rfl (by kernel_rfl) (by kernel_rfl) (by kernel_rfl) (by kernel_rfl) (by kernel_rfl) (fun _ _ _ h => h) (Or.inl ⟨by kernel_rfl, fun w' hS' => by go_simp⟩) hHeld ?_
      (try simp only [Act.put, List.setIfInBounds_toArray, List.set_cons_zero, List.set_cons_succ])
      refine takeL 3 15 (.agg #[.slice a m c]) rfl rfl (by kernel_rfl) (by kernel_rfl) (by kernel_rfl) (by kernel_rfl) (by kernel_rfl) (fun _ _ _ h => h) (yieldsIf_load_row (by kernel_rfl) 25 (.tmp 3) rfl (w.heap.size + 1) rfl 25 #[.slice a m c] (0, 0) _ (fun w' h => h) Try.underlying25 rfl drdoc_info) hHeld ?_
      (try simp only [Act.put, List.setIfInBounds_toArray, List.set_cons_zero, List.set_cons_succ])
      refine takeL 4 16 (.pointer (some ⟨w.heap.size + 1, 0, none⟩)) rfl rfl (by kernel_rfl) (by kernel_rfl) (by kernel_rfl) (by kernel_rfl) (by kernel_rfl) (fun _ _ _ h => h) (Or.inl ⟨by kernel_rfl, fun w' hS' => by go_simp⟩) hHeld ?_
      (try simp only [Act.put, List.setIfInBounds_toArray, List.set_cons_zero, List.set_cons_succ])
      refine takeL 5 17 (.slice a m c) rfl rfl (by kernel_rfl) (by kernel_rfl) (by kernel_rfl) (by kernel_rfl) (by kernel_rfl) (fun _ _ _ h => h) (Or.inl ⟨by kernel_rfl, fun w' hS' => by have hc := RowAt.cell hS' 0; simp at hc; go_simp⟩) hHeld ?_
      (try simp only [Act.put, List.setIfInBounds_toArray, List.set_cons_zero, List.set_cons_succ])
      refine takeL 6 18 (.int .i64 (m : Int)) rfl rfl (by kernel_rfl) (by kernel_rfl) (by kernel_rfl) (by kernel_rfl) (by kernel_rfl) (fun _ _ _ h => h) (Or.inl ⟨by kernel_rfl, fun w' hS' => by go_simp⟩) hHeld ?_
      (try simp only [Act.put, List.setIfInBounds_toArray, List.set_cons_zero, List.set_cons_succ])
      refine wpAnyL_ready (rs := [7]) (by kernel_rfl) (by simp) ?_
      refine AllReadyL.cons rfl (fun K hK => ?_) AllReadyL.nil
      go_simp
      go_at_call 48
      refine (l3Ahead_X HAHD.out HDd.out.dc (Nat.le_of_eq HML.out)).mono ?_
      rintro e u2 ⟨rfl, hb2⟩
      have s2 := hb2.size
      have HG02 : Hid (RowAt u2 w.heap.size #[.slice none 0 0] 25) := HG0d.out.below hb2 lz0
      have HG12 : Hid (RowAt u2 (w.heap.size + 1) #[.slice a m c] 25) := HG1d.out.below hb2 lz1
      have HD2 : Hid (DocX u2 v0.heap.size (.slice a m c) rbs d) := HDd.out.below hb2
      have HR2 : Hid (Rd B u2 g q) := HRd.out.below hb2 (by omega)
      have HF2 : Hid (Fr w.heap.size g w u2) := HFd.out.below (hb2.mono (by omega))
      clear hb2 HG0d HG1d HDd HRd HFd
      go_wp2_with fail
      refine hK.out _ _ (fun _ => HG12.out) (fun hHeld => ?_)
      replace hHeld := hHeld (by decide)
      clear hK K
      (try simp only [Act.put, List.setIfInBounds_toArray, List.set_cons_zero, List.set_cons_succ])
      refine takeL 8 20 (.int .i64 (ah + 1)) rfl rfl (by kernel_rfl) (by kernel_rfl) (by kernel_rfl) (by kernel_rfl) (by kernel_rfl) (fun _ _ _ h => h) (Or.inl ⟨by kernel_rfl, fun w' hS' => by go_simp; rw [IntKind.wrap_i64]; omega⟩) hHeld ?_
      (try simp only [Act.put, List.setIfInBounds_toArray, List.set_cons_zero, List.set_cons_succ])
      refine wpAnyL_ready (rs := [9]) (by kernel_rfl) (by simp) ?_
      refine AllReadyL.cons rfl (fun K hK => ?_) AllReadyL.nil
      go_simp
      go_at_call 53
      refine (l71Block_any B g q (ah + 1) _ HR2.out (by omega) (by omega) (by omega)).mono ?_
      rintro e u3 ⟨K0, V0, ta, tn, tc, R0, C0, ca, cn, cc, y, q3, rfl, hX, hY, hr3, hq3, hf3⟩
      have s3 := hf3.size
      have HG03 : Hid (RowAt u3 w.heap.size #[.slice none 0 0] 25) := HG02.out.fr hf3 (by omega)
      have HG13 : Hid (RowAt u3 (w.heap.size + 1) #[.slice a m c] 25) := HG12.out.fr hf3 (by omega)
      have HD3 : Hid (DocX u3 v0.heap.size (.slice a m c) rbs d) := HD2.out.fr hf3 (by omega)
      have HR3 : Hid (Rd B u3 g q3) := hr3
      have HF3 : Hid (Fr w.heap.size g w u3) := HF2.out.trans (hf3.mono (by omega))
      have HX3 : Hid (BlX u3 v0.heap.size (K0, V0, (ta, tn, tc), R0, C0, (ca, cn, cc)) y) := hX.less (by omega)
      have HY : Hid (BlDr y) := hY
      clear hX hY hr3 hf3 HG02 HG12 HD2 HR2 HF2
      go_wp2_with fail
      refine hK.out _ _ (fun _ => HG13.out) (fun hHeld => ?_)
      replace hHeld := hHeld (by decide)
      clear hK K
      (try simp only [Act.put, List.setIfInBounds_toArray, List.set_cons_zero, List.set_cons_succ])
      refine wpAnyL_ready (rs := [10]) (by kernel_rfl) (by simp) ?_
      refine AllReadyL.cons rfl (fun K hK => ?_) AllReadyL.nil
      go_simp
      have HN4 : Hid (∀ j u, [.int .i64 K0, .int .i64 V0, .slice ta tn tc, .int .i64 R0, .int .i64 C0, .slice ca cn cc][j]? = some u → (u3.alloc (.cells #[.int .i64 K0, .int .i64 V0, .slice ta tn tc, .int .i64 R0, .int .i64 C0, .slice ca cn cc] 39)).cell? ((⟨u3.heap.size, 0, none⟩ : Addr).add j) = some u) := cellsX_new _ _ _ _ _ _ _ _
      have HG04 : Hid (RowAt (u3.alloc (.cells #[.int .i64 K0, .int .i64 V0, .slice ta tn tc, .int .i64 R0, .int .i64 C0, .slice ca cn cc] 39)) w.heap.size #[.slice none 0 0] 25) := HG03.out.alloc _
      have HG14 : Hid (RowAt (u3.alloc (.cells #[.int .i64 K0, .int .i64 V0, .slice ta tn tc, .int .i64 R0, .int .i64 C0, .slice ca cn cc] 39)) (w.heap.size + 1) #[.slice a m c] 25) := HG13.out.alloc _
      have HD4 : Hid (DocX (u3.alloc (.cells #[.int .i64 K0, .int .i64 V0, .slice ta tn tc, .int .i64 R0, .int .i64 C0, .slice ca cn cc] 39)) v0.heap.size (.slice a m c) rbs d) := HD3.out.alloc _
      have HR4 : Hid (Rd B (u3.alloc (.cells #[.int .i64 K0, .int .i64 V0, .slice ta tn tc, .int .i64 R0, .int .i64 C0, .slice ca cn cc] 39)) g q3) := HR3.out.alloc _
      have HF4 : Hid (Fr w.heap.size g w (u3.alloc (.cells #[.int .i64 K0, .int .i64 V0, .slice ta tn tc, .int .i64 R0, .int .i64 C0, .slice ca cn cc] 39))) := HF3.out.alloc (by omega) _
      have HX4 : Hid (BlX (u3.alloc (.cells #[.int .i64 K0, .int .i64 V0, .slice ta tn tc, .int .i64 R0, .int .i64 C0, .slice ca cn cc] 39)) v0.heap.size (K0, V0, (ta, tn, tc), R0, C0, (ca, cn, cc)) y) := HX3.out.below ((Below.refl _ _).alloc (Nat.le_refl _) _)
      have s4 : (u3.alloc (.cells #[.int .i64 K0, .int .i64 V0, .slice ta tn tc, .int .i64 R0, .int .i64 C0, .slice ca cn cc] 39)).heap.size = u3.heap.size + 1 := by simp
      refine hK.out _ _ (fun _ => HG14.out) (fun hHeld => ?_)
      replace hHeld := hHeld (by decide)
      clear hK K HG03 HG13 HD3 HR3 HF3 HX3
      (try simp only [Act.put, List.setIfInBounds_toArray, List.set_cons_zero, List.set_cons_succ])
      generalize (u3.alloc (.cells #[.int .i64 K0, .int .i64 V0, .slice ta tn tc, .int .i64 R0, .int .i64 C0, .slice ca cn cc] 39)) = u4 at HN4 HG04 HG14 HD4 HR4 HF4 HX4 s4 hHeld ⊢
      refine wpAnyL_ready (rs := [11]) (by kernel_rfl) (by simp) ?_
      refine AllReadyL.cons rfl (fun K hK => ?_) AllReadyL.nil
      rw [if_pos (by kernel_rfl)]
      have hrw : u4.ownsRow v0.heap.size 39 6 (.slice a m c) m (flat6 rbs) := by
        have h1 := HD4.out.1
        have h2 := HD4.out.2.1
        have h3 := HD4.out.len
        rw [h2, ← h3] at h1
        exact h1
      refine wp_append_own u4 (.tmp 13) (.tmp 22) 23 rfl v0.heap.size 39 i0 _ 6 80 Try.underlying23 hi0 hz0 hz1 hz2 rfl (by decide) (.slice a m c) m (flat6 rbs) rfl hrw ⟨u3.heap.size, 0, none⟩ 1 1 [.int .i64 K0, .int .i64 V0, .slice ta tn tc, .int .i64 R0, .int .i64 C0, .slice ca cn cc] rfl rfl HN4.out (rbX_one (K0, V0, (ta, tn, tc), R0, C0, (ca, cn, cc))) (by unfold maxLen; omega) (by omega) (by omega) ?_
      intro v' u5 hown hgrow _
      have s5 := hgrow.size
      have HD5 : Hid (DocX u5 v0.heap.size v' (rbs ++ [(K0, V0, (ta, tn, tc), R0, C0, (ca, cn, cc))]) (d ++ [y])) := docX_snoc HD4.out HML.out HX4.out hown hgrow
      have hne : ∀ b, (Value.slice a m c).ownBlock = some b → v0.heap.size ≤ b := fun b hb => (own_lt hrw hb).1
      have HG05 : Hid (RowAt u5 w.heap.size #[.slice none 0 0] 25) := HG04.out.grown hgrow (fun e => by have := hne _ e; omega)
      have HG15 : Hid (RowAt u5 (w.heap.size + 1) #[.slice a m c] 25) := HG14.out.grown hgrow (fun e => by have := hne _ e; omega)
      have HR5 : Hid (Rd B u5 g q3) := HR4.out.grownAt hgrow (fun k hk => by have := hne _ hk; omega)
      have HF5 : Hid (Fr w.heap.size g w u5) := HF4.out.grownAt hgrow (by omega) (fun k hk => by have := hne _ hk; omega)
      obtain ⟨a', c', rfl⟩ : ∃ a c, v' = .slice a (m + 1) c := by
        obtain ⟨a1, c1, e1⟩ := HD5.out.shape
        refine ⟨a1, c1, ?_⟩
        rw [e1, List.length_append, ← HML.out]
        rfl
      refine hK.out _ _ (fun _ => HG15.out) (fun hHeld => ?_)
      replace hHeld := hHeld (by decide)
      clear hK K hown hgrow hrw hne HN4 HG04 HG14 HD4 HR4 HF4 HX4
      (try simp only [Act.put, List.setIfInBounds_toArray])
      refine takeL 12 24 (.pointer (some ⟨w.heap.size + 1, 0, none⟩)) rfl rfl (by kernel_rfl) (by kernel_rfl) (by kernel_rfl) (by kernel_rfl) (by kernel_rfl) (fun _ _ _ h => h) (Or.inl ⟨by kernel_rfl, fun w' hS' => by go_simp⟩) hHeld ?_
      (try simp only [Act.put])
      refine wpAnyL_ready (rs := [13]) (by kernel_rfl) (by simp) ?_
      refine AllReadyL.cons rfl (fun K hK => ?_) AllReadyL.nil
      have f5 := RowAt.frozen HG15.out 0
      have d5 := RowAt.cell HG15.out 0
      simp at d5
      rw [if_pos (by kernel_rfl)]
      go_simp
      refine hK.out _ _ (fun h => absurd rfl h) (fun _ => ?_)
      clear hK K
      (try simp only [Act.put, List.setIfInBounds_toArray, List.set_cons_zero, List.set_cons_succ])
      refine wpAnyL_done (by kernel_rfl) ?_ _
      refine NoPanic.normal ?_
      clear f5 d5
      go_wp2_with fail
      go_roundw
      case rel =>
        refine ⟨k - 1, a', m + 1, c', rbs ++ [(K0, V0, (ta, tn, tc), R0, C0, (ca, cn, cc))], d ++ [y], q3, by congr 1; omega, by simp; omega, by omega, by omega, by omega, by have := HML.out; simp; omega, HG05.out.other _ _ (by simp), HG15.out.setCell 0 _, ?_, HDR.out.snoc HY.out, HR5.out.setCell (by show g < w.heap.size + 1; omega) _, HF5.out.setCell (by show w.heap.size ≤ w.heap.size + 1; omega) _⟩
        exact docX_other HD5.out HG15.out trivial _ _
      case measure => simp [intOf]; omega
end Go.Proofs.Ytcecmkideoodiaa
namespace Go.Proofs.Ytcecmkideoodiaa
open Go.RowKit

theorem infoSn_block : (Try.prog.info? 39).map (fun i => (i.zero, i.size, i.bytes)) = some (some (.agg #[.int .i64 0, .int .i64 0, .slice none 0 0, .int .i64 0, .int .i64 0, .slice none 0 0]), 6, 80) := by kernel_rfl
theorem getD_blS {d : List Bl} {k : Nat} (hk : k < d.length) : d.getD k bl0 = d[k] := by simp [List.getD, hk]
theorem docS_info : (Try.prog.info? 25).map (·.size) = some 1 := by kernel_rfl
theorem cellsS_one (a : Option Addr) (n c : Nat) : (#[Value.slice a n c] : Array Value).all (·.oneCell') = true := by simp [Value.oneCell']
theorem cells6_new (w : World) (a b c d e f : Value) (t : TypeId) : ∀ j u, [a, b, c, d, e, f][j]? = some u → (w.alloc (.cells #[a, b, c, d, e, f] t)).cell? ((⟨w.heap.size, 0, none⟩ : Addr).add j) = some u := by
  intro j u hj
  match j, hj with
  | 0, hj => simp at hj; subst hj; simp [Addr.add]
  | 1, hj => simp at hj; subst hj; simp [Addr.add]
  | 2, hj => simp at hj; subst hj; simp [Addr.add]
  | 3, hj => simp at hj; subst hj; simp [Addr.add]
  | 4, hj => simp at hj; subst hj; simp [Addr.add]
  | 5, hj => simp at hj; subst hj; simp [Addr.add]
  | (j + 6), hj => simp at hj
theorem rb_one (x : Rb) : ∀ u ∈ rbCells x, u.oneCell' = true := by
  intro u hu
  simp only [rbCells, sl3V, List.mem_cons, List.not_mem_nil, or_false] at hu
  rcases hu with rfl | rfl | rfl | rfl | rfl | rfl <;> rfl
/-- A block more, behind a document's own. -/
theorem docOwn_snoc {B E E' : Nat} {u3 u4 : World} {v v' : Value} {rbs : List Rb} {d : List Bl} {mid : Nat} {x : Rb} {y : Bl} {n : Nat} (h : DocOwn u3 B E v rbs d) (hn : n = d.length) (hx : BlOwn u3 E mid E' x y) (hB : B ≤ E) (hE : E ≤ E') (hE4 : E' ≤ u4.heap.size)
    (hown : u4.ownsRow B 39 6 v' (n + 1) (flat6 rbs ++ rbCells x)) (hgrow : u3.grownBy u4 v.ownBlock) : DocOwn u4 B u4.heap.size v' (rbs ++ [x]) (d ++ [y]) := by
  have hk : ∀ B E, Kept B E u3 u4 := fun B E => kept_grown (own_rowAts h.1) hgrow B E
  refine docOwn_of ?_ (fun g hg => (own_lt hown hg).2) (((h.bls.kept (hk _ _)).snoc hB (hx.kept (hk _ _)) hE).grow hE4)
  have hl := h.2.2.1
  rw [List.length_append, flat6_append, List.length_singleton, hl, ← hn]
  have e : flat6 [x] = rbCells x := by simp [flat6]
  rw [e]
  exact hown
end Go.Proofs.Ytcecmkideoodiaa
namespace Go.Proofs.Ytcecmkideoodiaa
open Go.RowKit

/-- A block that is not great. -/
def SmB (x : Bl) : Prop := x.2.2.1.length ≤ 1000000 ∧ x.2.2.2.2.2.length ≤ 1000000 ∧ ∀ k, k < x.2.2.2.2.2.length → (x.2.2.2.2.2.getD k cl0).2.2.2.2.length ≤ 1000000
theorem own_shape {w : World} {B e size n : Nat} {v : Value} {xs : List Value} (h : w.ownsRow B e size v n xs) : ∃ a c, v = .slice a n c := by
  rcases h.2 with ⟨rfl, h0⟩ | ⟨g, cap, cur, rfl, r⟩
  · exact ⟨none, 0, by rw [h0]⟩
  · exact ⟨_, _, rfl⟩
set_option maxRecDepth 100000 in
set_option maxHeartbeats 8000000 in
theorem l3Copy_any {a : Option Addr} {n cap : Nat} {d : List Bl} {w : World} (h : Dc w a n cap d) (hn : n ≤ 1000) (hs : ∀ k, k < d.length → SmB (d.getD k bl0)) :
    Calls Try.prog 54 #[.agg #[.slice a n cap]] w fun e w' => (∃ p q rbs, e = .returned (.agg #[.slice p n q]) ∧ DocOwn w' w.heap.size w'.heap.size (.slice p n q) rbs d) ∧ Below w.heap.size w w' := by
  obtain ⟨i0, hi0, hz0, hz1, hz2⟩ := info_parts infoSn_block
  have HN : Hid (n = d.length) := h.1
  have hc := h.2.1
  have hm := h.2.2.1
  unfold maxLen at hm
  have H : Hid (Dc w a n cap d) := h
  have HS : Hid (∀ k, k < d.length → SmB (d.getD k bl0)) := hs
  clear h hs
  go_enter Try.func54, Try.ntmps54
  go_upto_region 2 with fail
  have B0 : Below w.heap.size w (((w.alloc (.cells #[.slice a n cap] 25)).alloc (.cells #[.slice none 0 0] 25)).alloc (.cells #[.slice none 0 0] 25)) := (((Below.refl _ _).alloc (Nat.le_refl _) _).alloc (by simp) _).alloc (by simp; omega) _
  have G0 : RowAt (((w.alloc (.cells #[.slice a n cap] 25)).alloc (.cells #[.slice none 0 0] 25)).alloc (.cells #[.slice none 0 0] 25)) w.heap.size #[.slice a n cap] 25 := ((rowAt_new w _ _).alloc _).alloc _
  have G1 : RowAt (((w.alloc (.cells #[.slice a n cap] 25)).alloc (.cells #[.slice none 0 0] 25)).alloc (.cells #[.slice none 0 0] 25)) (w.heap.size + 1) #[.slice none 0 0] 25 := by
    have := (rowAt_new (w.alloc (.cells #[.slice a n cap] 25)) #[.slice none 0 0] 25).alloc (.cells #[.slice none 0 0] 25)
    simpa using this
  have G2 : RowAt (((w.alloc (.cells #[.slice a n cap] 25)).alloc (.cells #[.slice none 0 0] 25)).alloc (.cells #[.slice none 0 0] 25)) (w.heap.size + 1 + 1) #[.slice none 0 0] 25 := by
    have := rowAt_new ((w.alloc (.cells #[.slice a n cap] 25)).alloc (.cells #[.slice none 0 0] 25)) #[.slice none 0 0] 25
    simpa using this
  generalize (((w.alloc (.cells #[.slice a n cap] 25)).alloc (.cells #[.slice none 0 0] 25)).alloc (.cells #[.slice none 0 0] 25)) = v0 at B0 G0 G1 G2 ⊢
  have l0 := G0.lt
  have l1 := G1.lt
  have l2 := G2.lt
  have s0 := B0.size
  have H0 : Hid (RowAt v0 w.heap.size #[.slice a n cap] 25) := G0
  have H1 : Hid (RowAt v0 (w.heap.size + 1) #[.slice none 0 0] 25) := G1
  have H2 : Hid (RowAt v0 (w.heap.size + 1 + 1) #[.slice none 0 0] 25) := G2
  have HB0 : Hid (Below w.heap.size w v0) := B0
  clear G0 G1 G2 B0
  go_wp2_with fail
  go_loopw [4] (fun iv wr => ∃ (i : Nat) (da : Option Addr) (dc : Nat) (rbs : List Rb), i ≤ n ∧ iv = .int .i64 i ∧ RowAt wr w.heap.size #[.slice a n cap] 25 ∧ RowAt wr (w.heap.size + 1) #[.slice none 0 0] 25 ∧ RowAt wr (w.heap.size + 1 + 1) #[.slice da i dc] 25 ∧ DocOwn wr v0.heap.size wr.heap.size (.slice da i dc) rbs (d.take i) ∧ v0.heap.size ≤ wr.heap.size ∧ Below w.heap.size w wr) (fun iv _ => n - (intOf iv).toNat)
  case atStart => exact ⟨0, none, 0, [], Nat.zero_le _, rfl, H0.out, H1.out, H2.out, DocOwn.nil _ _ _, Nat.le_refl _, HB0.out⟩
  case round =>
    obtain ⟨i, da, dc, rbs, hi, rfl, hG0, hG1, hG2, hD, hss, hB⟩ := hrel
    have k0 : wr.cell? ⟨w.heap.size, 0, none⟩ = some (.slice a n cap) := hG0.cell 0
    have HG0 : Hid (RowAt wr w.heap.size #[.slice a n cap] 25) := hG0
    have HG1 : Hid (RowAt wr (w.heap.size + 1) #[.slice none 0 0] 25) := hG1
    have HG2 : Hid (RowAt wr (w.heap.size + 1 + 1) #[.slice da i dc] 25) := hG2
    have HD : Hid (DocOwn wr v0.heap.size wr.heap.size (.slice da i dc) rbs (d.take i)) := hD
    have HB : Hid (Below w.heap.size w wr) := hB
    have hq1 := hD.dc.2.1
    have hq2 := hD.dc.2.2.1
    unfold maxLen at hq2
    clear hG0 hG1 hG2 hD
    by_cases hlt : i < n
    · have hil : i < d.length := by have := HN.out; omega
      have hib : (i : Int) < (n : Int) := by omega
      have hi0' : (0 : Int) ≤ (i : Int) := by omega
      have HTK : Hid (d.take (i + 1) = d.take i ++ [d.getD i bl0]) := by
        show d.take (i + 1) = d.take i ++ [d.getD i bl0]
        rw [List.take_succ_eq_append_getElem hil, getD_blS hil]
      have HIL : Hid (i = (d.take i).length) := by
        show i = (d.take i).length
        rw [List.length_take]; omega
      have hsm := HS.out i hil
      rcases H.out.2.2.2 with e | ⟨b, off, rfl, hbw, hcl⟩
      · rw [e] at hil
        exact absurd hil (by simp)
      obtain ⟨ta, tn, tc, ca, cn, cc, hblk⟩ := (hcl i hil).below hB hbw
      obtain ⟨⟨K, V, t, R, C, l⟩, hx⟩ : ∃ x, x = d.getD i bl0 := ⟨_, rfl⟩
      rw [← hx] at hblk hsm HTK
      obtain ⟨c0, c1, c2, c3, c4, c5, htx, htb⟩ := hblk
      simp only at c0 c1 c3 c4 htx htb
      obtain ⟨sm1, sm2, sm3⟩ := hsm
      simp only at sm1 sm2 sm3
      have HSM : Hid (∀ k, k < l.length → (l.getD k cl0).2.2.2.2.length ≤ 1000000) := sm3
      have htn : tn ≤ 1000000 := by rw [htx.1]; exact sm1
      have HTX : Hid (Txt wr ta tn tc t) := htx
      have HTB : Hid (Tab wr ca cn cc l) := htb
      clear hcl hx htx htb hB sm3
      go_upto_region 6 with fail
      have bA : Below wr.heap.size wr (wr.alloc (.cells #[.int .i64 K, .int .i64 V, .slice ta tn tc, .int .i64 R, .int .i64 C, .slice ca cn cc] 39)) := (Below.refl _ _).alloc (Nat.le_refl _) _
      have gA : RowAt (wr.alloc (.cells #[.int .i64 K, .int .i64 V, .slice ta tn tc, .int .i64 R, .int .i64 C, .slice ca cn cc] 39)) wr.heap.size #[.int .i64 K, .int .i64 V, .slice ta tn tc, .int .i64 R, .int .i64 C, .slice ca cn cc] 39 := rowAt_new _ _ _
      have sA : wr.heap.size < (wr.alloc (.cells #[.int .i64 K, .int .i64 V, .slice ta tn tc, .int .i64 R, .int .i64 C, .slice ca cn cc] 39)).heap.size := by simp
      clear c0 c1 c2 c3 c4 c5 k0
      generalize wr.alloc (.cells #[.int .i64 K, .int .i64 V, .slice ta tn tc, .int .i64 R, .int .i64 C, .slice ca cn cc] 39) = u0 at bA gA sA ⊢
      have HA : Hid (RowAt u0 wr.heap.size #[.int .i64 K, .int .i64 V, .slice ta tn tc, .int .i64 R, .int .i64 C, .slice ca cn cc] 39) := gA
      have HBA : Hid (Below wr.heap.size wr u0) := bA
      have HTX0 : Hid (Txt u0 ta tn tc t) := HTX.out.below bA
      have k2 : u0.cell? ⟨wr.heap.size, 2, none⟩ = some (.slice ta tn tc) := gA.cell 2
      clear bA gA
      have hE : Own (u0.alloc (.cells #[] 74)) u0.heap.size (.slice (some ⟨u0.heap.size, 0, none⟩) 0 0) [] := Own.emptyNew u0 _ (Nat.le_refl _)
      have HE : Hid (Own (u0.alloc (.cells #[] 74)) u0.heap.size (.slice (some ⟨u0.heap.size, 0, none⟩) 0 0) []) := hE
      have HTX1 : Hid (Txt (u0.alloc (.cells #[] 74)) ta tn tc t) := HTX0.out.below ((Below.refl _ _).alloc (Nat.le_refl _) _)
      have HA1 : Hid (RowAt (u0.alloc (.cells #[] 74)) wr.heap.size #[.int .i64 K, .int .i64 V, .slice ta tn tc, .int .i64 R, .int .i64 C, .slice ca cn cc] 39) := HA.out.alloc _
      have k2' : (u0.alloc (.cells #[] 74)).cell? ⟨wr.heap.size, 2, none⟩ = some (.slice ta tn tc) := HA1.out.cell 2
      clear hE
      go_upto_region 7 with (at_builtin; refine wpList_append_txt rfl (.tmp 19) (.tmp 21) rfl u0.heap.size (.slice (some ⟨u0.heap.size, 0, none⟩) 0 0) 0 [] rfl HE.out ta tn tc t rfl HTX1.out (by omega) (by simp) ?_; intro v' u2 hown hgrow; have ho2 : Own u2 u0.heap.size v' t := (by have e := HTX.out.1; subst e; unfold Own; simpa using hown); obtain ⟨p, q, rfl⟩ := ho2.shapeN HTX.out.1.symm; have A2 := HA1.out.grown hgrow (by simp [Value.ownBlock]; omega); have q1 : u2.cell? ⟨wr.heap.size, 2, none⟩ = some (.slice ta tn tc) := A2.cell 2; have q2 := A2.frozen 2)
      have B2 : Below wr.heap.size wr u2 := (HBA.out.alloc (by omega) _).grown hgrow (by simp; omega) (fun k hk => by simp [Value.ownBlock] at hk; omega)
      have lt2 : ∀ g, (Value.slice p tn q).ownBlock = some g → u0.heap.size ≤ g ∧ g < u2.heap.size := fun g hg => own_lt ho2 hg
      have A3 : RowAt (u2.setCell ⟨wr.heap.size, 2, none⟩ (.slice p tn q)) wr.heap.size #[.int .i64 K, .int .i64 V, .slice p tn q, .int .i64 R, .int .i64 C, .slice ca cn cc] 39 := A2.setCell 2 (.slice p tn q)
      have O3 : Own (u2.setCell ⟨wr.heap.size, 2, none⟩ (.slice p tn q)) u0.heap.size (.slice p tn q) t := own_set ho2 ⟨wr.heap.size, 2, none⟩ (.slice p tn q) (fun e => by have := (lt2 _ e).1; simp at this; omega)
      have B3 : Below wr.heap.size wr (u2.setCell ⟨wr.heap.size, 2, none⟩ (.slice p tn q)) := B2.setCell (Nat.le_refl _) _
      have s3 : u2.heap.size ≤ (u2.setCell ⟨wr.heap.size, 2, none⟩ (.slice p tn q)).heap.size := by simp
      clear q1 q2 A2 ho2 hown hgrow k2 k2' HE HTX1 HA1 HA HBA HTX0 B2
      generalize (u2.setCell ⟨wr.heap.size, 2, none⟩ (.slice p tn q)) = u3 at A3 O3 B3 s3 ⊢
      have HA3 : Hid (RowAt u3 wr.heap.size #[.int .i64 K, .int .i64 V, .slice p tn q, .int .i64 R, .int .i64 C, .slice ca cn cc] 39) := A3
      have HO3 : Hid (Own u3 u0.heap.size (.slice p tn q) t) := O3
      have HB3 : Hid (Below wr.heap.size wr u3) := B3
      have HL2 : Hid (∀ g, (Value.slice p tn q).ownBlock = some g → u0.heap.size ≤ g ∧ g < u2.heap.size) := lt2
      have g3 : u3.cell? ⟨wr.heap.size, 3, none⟩ = some (.int .i64 R) := A3.cell 3
      have g4 : u3.cell? ⟨wr.heap.size, 4, none⟩ = some (.int .i64 C) := A3.cell 4
      have g5 : u3.cell? ⟨wr.heap.size, 5, none⟩ = some (.slice ca cn cc) := A3.cell 5
      have e3 := A3.lt
      have s3' := B3.size
      clear A3 O3 B3 lt2
      go_upto_region 8 with (go_at_call 68; refine (l2Copy_any R C ca cn cc l _ (HTB.out.below HB3.out) sm2 HSM.out).mono ?_; rintro e u4 ⟨⟨a', c', rs, rfl, ho4⟩, hb4⟩; have q3 : u4.cell? ⟨wr.heap.size, 3, none⟩ = some (.int .i64 R) := (HA3.out.below hb4 e3).cell 3; have q4 : u4.cell? ⟨wr.heap.size, 3 + 1, none⟩ = some (.int .i64 C) := (HA3.out.below hb4 e3).cell 4; have q5 : u4.cell? ⟨wr.heap.size, 3 + 2, none⟩ = some (.slice ca cn cc) := (HA3.out.below hb4 e3).cell 5; have f3 := (HA3.out.below hb4 e3).frozen 3; have f4 := (HA3.out.below hb4 e3).frozen (3 + 1); have f5 := (HA3.out.below hb4 e3).frozen (3 + 2))
      have s4 := hb4.size
      have A5 : RowAt (((u4.setCell ⟨wr.heap.size, 3, none⟩ (.int .i64 R)).setCell ⟨wr.heap.size, 3 + 1, none⟩ (.int .i64 C)).setCell ⟨wr.heap.size, 3 + 2, none⟩ (.slice a' l.length c')) wr.heap.size #[.int .i64 K, .int .i64 V, .slice p tn q, .int .i64 R, .int .i64 C, .slice a' l.length c'] 39 := (((HA3.out.below hb4 e3).setCell 3 (.int .i64 R)).setCell 4 (.int .i64 C)).setCell 5 (.slice a' l.length c')
      have B5 : Below wr.heap.size wr (((u4.setCell ⟨wr.heap.size, 3, none⟩ (.int .i64 R)).setCell ⟨wr.heap.size, 3 + 1, none⟩ (.int .i64 C)).setCell ⟨wr.heap.size, 3 + 2, none⟩ (.slice a' l.length c')) := (((HB3.out.trans (hb4.mono s3')).setCell (Nat.le_refl _) _).setCell (Nat.le_refl _) _).setCell (Nat.le_refl _) _
      have HBL : Hid (BlOwn u4 wr.heap.size u3.heap.size u4.heap.size (K, V, (p, tn, q), R, C, (a', l.length, c')) (K, V, t, R, C, l)) := by
        refine ⟨⟨rfl, rfl, rfl, rfl⟩, own_less (HO3.out.below hb4) (by omega), fun g hg => ?_, ⟨rs, ho4, fun g hg => (own_lt ho4.1 hg).2, fun j hj g hg => ho4.2.blockLt j hj g hg⟩, by omega, s4⟩
        have := (HL2.out g hg).2
        omega
      have s5 : u4.heap.size ≤ (((u4.setCell ⟨wr.heap.size, 3, none⟩ (.int .i64 R)).setCell ⟨wr.heap.size, 3 + 1, none⟩ (.int .i64 C)).setCell ⟨wr.heap.size, 3 + 2, none⟩ (.slice a' l.length c')).heap.size := by simp
      have HK5 : Hid (Kept wr.heap.size u4.heap.size u4 (((u4.setCell ⟨wr.heap.size, 3, none⟩ (.int .i64 R)).setCell ⟨wr.heap.size, 3 + 1, none⟩ (.int .i64 C)).setCell ⟨wr.heap.size, 3 + 2, none⟩ (.slice a' l.length c'))) := by
        have r0 := HA3.out.below hb4 e3
        have r1 := r0.setCell 3 (.int .i64 R)
        have r2 := r1.setCell 4 (.int .i64 C)
        exact ((kept_set r0 _ _ _ _).trans (kept_set r1 _ _ _ _)).trans (kept_set r2 _ _ _ _)
      clear q3 q4 q5 f3 f4 f5 g3 g4 g5 ho4 hb4 HO3 HA3 HB3
      generalize (((u4.setCell ⟨wr.heap.size, 3, none⟩ (.int .i64 R)).setCell ⟨wr.heap.size, 3 + 1, none⟩ (.int .i64 C)).setCell ⟨wr.heap.size, 3 + 2, none⟩ (.slice a' l.length c')) = u5 at A5 B5 HK5 s5 ⊢
      have HA5 : Hid (RowAt u5 wr.heap.size #[.int .i64 K, .int .i64 V, .slice p tn q, .int .i64 R, .int .i64 C, .slice a' l.length c'] 39) := A5
      have HB5 : Hid (Below wr.heap.size wr u5) := B5
      have HBL5 : Hid (BlOwn u5 wr.heap.size u3.heap.size u4.heap.size (K, V, (p, tn, q), R, C, (a', l.length, c')) (K, V, t, R, C, l)) := HBL.out.kept HK5.out
      have lz0 := HG0.out.lt
      have lz1 := HG1.out.lt
      have lz2 := HG2.out.lt
      have j0 : u5.cell? ⟨wr.heap.size, 0, none⟩ = some (.int .i64 K) := A5.cell 0
      have j1 : u5.cell? ⟨wr.heap.size, 1, none⟩ = some (.int .i64 V) := A5.cell 1
      have j2 : u5.cell? ⟨wr.heap.size, 2, none⟩ = some (.slice p tn q) := A5.cell 2
      have j3 : u5.cell? ⟨wr.heap.size, 3, none⟩ = some (.int .i64 R) := A5.cell 3
      have j4 : u5.cell? ⟨wr.heap.size, 4, none⟩ = some (.int .i64 C) := A5.cell 4
      have j5 : u5.cell? ⟨wr.heap.size, 5, none⟩ = some (.slice a' l.length c') := A5.cell 5
      have HG25 : Hid (RowAt u5 (w.heap.size + 1 + 1) #[.slice da i dc] 25) := HG2.out.below B5 lz2
      have y0 : u5.cell? ⟨w.heap.size + 1 + 1, 0, none⟩ = some (.slice da i dc) := HG25.out.cell 0
      have HD5 : Hid (DocOwn u5 v0.heap.size wr.heap.size (.slice da i dc) rbs (d.take i)) := HD.out.below (Nat.le_refl _) B5
      have HG05 : Hid (RowAt u5 w.heap.size #[.slice (some ⟨b, off, none⟩) n cap] 25) := HG0.out.below B5 lz0
      have HG15 : Hid (RowAt u5 (w.heap.size + 1) #[.slice none 0 0] 25) := HG1.out.below B5 lz1
      have HW5 : Hid (Below w.heap.size w u5) := HB.out.trans (B5.mono (by omega))
      have hs5 := B5.size
      clear A5 B5 HBL HK5 HA5 HB5 HG0 HG1 HG2 HD HB
      have A6 : Below u5.heap.size u5 (u5.alloc (.cells #[.int .i64 K, .int .i64 V, .slice p tn q, .int .i64 R, .int .i64 C, .slice a' l.length c'] 39)) := (Below.refl _ _).alloc (Nat.le_refl _) _
      have HD6 : Hid (DocOwn (u5.alloc (.cells #[.int .i64 K, .int .i64 V, .slice p tn q, .int .i64 R, .int .i64 C, .slice a' l.length c'] 39)) v0.heap.size wr.heap.size (.slice da i dc) rbs (d.take i)) := HD5.out.below hs5 A6
      have HBL6 : Hid (BlOwn (u5.alloc (.cells #[.int .i64 K, .int .i64 V, .slice p tn q, .int .i64 R, .int .i64 C, .slice a' l.length c'] 39)) wr.heap.size u3.heap.size u4.heap.size (K, V, (p, tn, q), R, C, (a', l.length, c')) (K, V, t, R, C, l)) := HBL5.out.mid (fun b _ hb' => A6.block b (by omega))
      have hrw : (u5.alloc (.cells #[.int .i64 K, .int .i64 V, .slice p tn q, .int .i64 R, .int .i64 C, .slice a' l.length c'] 39)).ownsRow v0.heap.size 39 6 (.slice da i dc) i (flat6 rbs) := by
        have h1 := HD6.out.1
        have h2 := HD6.out.2.2.1
        have h3 := HIL.out
        rw [show rbs.length = i by omega] at h1
        exact h1
      have HRW : Hid ((u5.alloc (.cells #[.int .i64 K, .int .i64 V, .slice p tn q, .int .i64 R, .int .i64 C, .slice a' l.length c'] 39)).ownsRow v0.heap.size 39 6 (.slice da i dc) i (flat6 rbs)) := hrw
      have HG26 : Hid (RowAt (u5.alloc (.cells #[.int .i64 K, .int .i64 V, .slice p tn q, .int .i64 R, .int .i64 C, .slice a' l.length c'] 39)) (w.heap.size + 1 + 1) #[.slice da i dc] 25) := HG25.out.alloc _
      clear hrw
      go_wp2_with (at_builtin; refine wpList_append_own _ rfl (.tmp 29) (.tmp 31) 23 rfl v0.heap.size 39 i0 _ 6 80 Try.underlying23 hi0 hz0 hz1 hz2 rfl (by decide) (.slice da i dc) i (flat6 rbs) rfl HRW.out ⟨u5.heap.size, 0, none⟩ 1 1 [.int .i64 K, .int .i64 V, .slice p tn q, .int .i64 R, .int .i64 C, .slice a' l.length c'] rfl rfl (cells6_new _ _ _ _ _ _ _ _) (rb_one (K, V, (p, tn, q), R, C, (a', l.length, c'))) (by unfold maxLen; omega) (by omega) (by simp; omega) ?_; intro v' u7 hown hgrow _; obtain ⟨da', dc', rfl⟩ := own_shape hown; have hne : ∀ g, (Value.slice da i dc).ownBlock = some g → v0.heap.size ≤ g := (fun g hg => (own_lt HRW.out hg).1); have G27 := HG26.out.grown hgrow (fun e => by have := hne _ e; omega); have q7 : u7.cell? ⟨w.heap.size + 1 + 1, 0, none⟩ = some (.slice da i dc) := G27.cell 0; have f7 := G27.frozen 0)
      have s7 := hgrow.size
      simp only [World.size_alloc] at s7
      have hD7 : DocOwn u7 v0.heap.size u7.heap.size (.slice da' (i + 1) dc') (rbs ++ [(K, V, (p, tn, q), R, C, (a', l.length, c'))]) (d.take i ++ [(K, V, t, R, C, l)]) := docOwn_snoc HD6.out HIL.out HBL6.out hss (by omega) (by omega) hown hgrow
      go_roundw
      case rel =>
        refine ⟨i + 1, da', dc', rbs ++ [(K, V, (p, tn, q), R, C, (a', l.length, c'))], by omega, by go_num, ?_, ?_, G27.setCell 0 _, ?_, by simp; omega, ?_⟩
        · exact ((HG05.out.alloc _).grown hgrow (fun e => by have := hne _ e; omega)).other _ _ (by simp <;> omega)
        · exact ((HG15.out.alloc _).grown hgrow (fun e => by have := hne _ e; omega)).other _ _ (by simp <;> omega)
        · rw [HTK.out]
          exact (hD7.mid (fun b hb hb' => Go.Deep.blk_setCell_other _ _ _ _ (by simp; omega))).less (Nat.le_refl _) (by simp)
        · exact ((HW5.out.alloc (by omega) _).grown hgrow (by simp; omega) (fun k hk => by have := hne _ hk; omega)).setCell (by show _ ≤ w.heap.size + 1 + 1; omega) _
      case measure => simp [intOf]; omega
    · have hib : ¬ (i : Int) < (n : Int) := by omega
      obtain rfl : i = n := by omega
      have e1 : d.take i = d := List.take_of_length_le (by have := HN.out; omega)
      have hD := HD.out
      rw [e1] at hD
      have HDw : Hid (DocOwn wr v0.heap.size wr.heap.size (.slice da i dc) rbs d) := hD
      have k2 : wr.cell? ⟨w.heap.size + 1 + 1, 0, none⟩ = some (.slice da i dc) := HG2.out.cell 0
      clear hD e1
      go_wp2_with (refine wpList_store_row rfl 25 (.tmp 2) (.tmp 34) rfl (w.heap.size + 1) #[.slice da i dc] rfl rfl 25 _ HG1.out docS_info rfl (cellsS_one _ _ _) ?_)
      refine bodyPost_ret (v := .agg #[.slice da i dc]) (results_cell_row (p := 2) (ty := 25) rfl _ _ (w.heap.size + 1) 25 _ _ _ rfl (RowAt.setRow HG1.out _) Try.underlying25 rfl docS_info) rfl ⟨⟨da, dc, rfl, rbs, ?_⟩, below_row HB.out (by omega) _⟩
      have sz : (wr.setRow (w.heap.size + 1) #[.slice da i dc]).heap.size = wr.heap.size := by simp [World.setRow]
      rw [sz]
      exact (HDw.out.mid (fun b hb hb' => setRow_other _ _ _ _ (by omega))).less (by omega) (Nat.le_refl _)
end Go.Proofs.Ytcecmkideoodiaa
namespace Go.Proofs.Ytcecmkideoodiaa
open Go.RowKit

theorem setRow_otherX (w : World) (g b : Nat) (cs : Array Value) (h : b ≠ g) : (w.setRow g cs).heap[b]? = w.heap[b]? := by
  simp only [World.setRow]
  rw [Array.getElem?_modify]
  simp [Ne.symm h]
/-- A drawn block, perhaps spoilt. -/
def BlSp (y : Bl) : Prop := (-9 ≤ y.2.1 ∧ y.2.1 ≤ 9) ∧ y.2.2.1.length ≤ 25 ∧ y.2.2.2.2.2.length ≤ 25 ∧ ∀ x ∈ y.2.2.2.2.2, x.2.2.2.2.length ≤ 24
theorem BlDr.sp {y : Bl} (h : BlDr y) : BlSp y := ⟨by have := h.1; omega, by have := h.2.1; omega, h.2.2.1, h.2.2.2⟩
theorem BlSp.smb {y : Bl} (h : BlSp y) : SmB y := by
  obtain ⟨h0, h1, h2, h3⟩ := h
  refine ⟨by omega, by omega, fun k hk => ?_⟩
  have := h3 (y.2.2.2.2.2.getD k cl0) (by simp [List.getD, hk])
  omega
theorem BlDr.smb {y : Bl} (h : BlDr y) : SmB y := h.sp.smb
/-- A drawn document, perhaps spoilt: at most nine blocks, each small. -/
def DocSp (d : List Bl) : Prop := d.length ≤ 9 ∧ ∀ x ∈ d, BlSp x
theorem blSp0 : BlSp bl0 := ⟨by decide, by decide, by decide, fun x hx => absurd hx (by simp [bl0])⟩
theorem DocSp.at {d : List Bl} (h : DocSp d) (k : Nat) : BlSp (d.getD k bl0) := by
  by_cases hk : k < d.length
  · exact h.2 _ (by simp [List.getD, hk])
  · rw [show d.getD k bl0 = bl0 by simp [List.getD, Nat.le_of_not_lt hk]]
    exact blSp0
theorem DocSp.set {d : List Bl} (h : DocSp d) (k : Nat) (y : Bl) (hy : BlSp y) : DocSp (d.set k y) := by
  refine ⟨by simpa using h.1, fun x hx => ?_⟩
  rcases List.mem_or_eq_of_mem_set hx with q | q
  · exact h.2 x q
  · rw [q]; exact hy
theorem DocSp.cons {d : List Bl} {y : Bl} (h : DocSp d) (hl : d.length ≤ 8) (hy : BlSp y) : DocSp (y :: d) := by
  refine ⟨by simpa using hl, fun x hx => ?_⟩
  rcases List.mem_cons.1 hx with q | q
  · rw [q]; exact hy
  · exact h.2 x q
theorem DocSp.del {d : List Bl} (h : DocSp d) (k : Nat) : DocSp (d.take k ++ d.drop (k + 1)) := by
  refine ⟨by have := h.1; simp; omega, fun x hx => ?_⟩
  rcases List.mem_append.1 hx with q | q
  · exact h.2 x (List.mem_of_mem_take q)
  · exact h.2 x (List.mem_of_mem_drop q)
theorem blSp_snoc {d : List Bl} (h : ∀ x ∈ d, BlSp x) : ∀ x ∈ d ++ [(1, 0, [], 0, 0, [])], BlSp x := fun x hx => by
  rcases List.mem_append.1 hx with q | q
  · exact h x q
  · rw [List.mem_singleton.1 q]; exact ⟨by decide, by decide, by decide, fun x hx => absurd hx (by simp)⟩
/-- A row of a document is read. -/
theorem docX_at {w : World} {B g n pc i : Nat} {rbs : List Rb} {d : List Bl} (h : DocX w B (.slice (some ⟨g, 0, none⟩) n pc) rbs d) (hi : i < n) : (∀ j, j < 6 → w.cell? ⟨g, i * 6 + j, none⟩ = (rbCells (rbs.getD i rb0))[j]?) ∧ (∀ j, w.frozen? ⟨g, i * 6 + j, none⟩ = false) ∧ B ≤ g ∧ g < w.heap.size := by
  have hn := h.len
  have hl := h.2.1
  have hr := h.1
  rw [hl, ← hn] at hr
  refine ⟨fun j hj => ?_, fun j => hr.frozenAt _, own_lt hr rfl⟩
  rw [hr.cellAt (i * 6 + j) (by omega)]
  exact flat6_get rbs i (by omega) j hj
theorem docX_there {w : World} {B g n pc i : Nat} {rbs : List Rb} {d : List Bl} (h : DocX w B (.slice (some ⟨g, 0, none⟩) n pc) rbs d) (hi : i < n) : w.there g (i * 6 + 3) 3 := fun j hj => by
  obtain ⟨h1, h2, -, -⟩ := docX_at h hi
  have e := h1 (3 + j) (by omega)
  have f := h2 (3 + j)
  rw [← Nat.add_assoc] at e f
  rcases (show j = 0 ∨ j = 1 ∨ j = 2 by omega) with rfl | rfl | rfl
  · exact ⟨by rw [e]; rfl, f⟩
  · exact ⟨by rw [e]; rfl, f⟩
  · exact ⟨by rw [e]; rfl, f⟩
theorem flat6_one (rs : List Rb) : ∀ u ∈ flat6 rs, u.oneCell' = true := by
  intro u hu
  unfold flat6 at hu
  rw [List.mem_flatMap] at hu
  obtain ⟨s, _, hs⟩ := hu
  exact rbX_one s u hs
theorem flat6_take (rs : List Rb) (k : Nat) : flat6 (rs.take k) = (flat6 rs).take (k * 6) := by
  induction k generalizing rs with
  | zero => simp [flat6]
  | succ k ih =>
    cases rs with
    | nil => simp [flat6]
    | cons x rs =>
      show rbCells x ++ flat6 (rs.take k) = (rbCells x ++ flat6 rs).take ((k + 1) * 6)
      rw [ih, show (k + 1) * 6 = (rbCells x).length + k * 6 from by simp [rbCells]; omega, List.take_length_add_append]
theorem flat6_drop (rs : List Rb) (k : Nat) : flat6 (rs.drop k) = (flat6 rs).drop (k * 6) := by
  induction k generalizing rs with
  | zero => simp
  | succ k ih =>
    cases rs with
    | nil => simp [flat6]
    | cons x rs =>
      show flat6 (rs.drop k) = (rbCells x ++ flat6 rs).drop ((k + 1) * 6)
      rw [ih, show (k + 1) * 6 = (rbCells x).length + k * 6 from by simp [rbCells]; omega, List.drop_length_add_append]
theorem docX_rw {w : World} {B g n pc : Nat} {rbs : List Rb} {d : List Bl} (h : DocX w B (.slice (some ⟨g, 0, none⟩) n pc) rbs d) : w.ownsRow B 39 6 (.slice (some ⟨g, 0, none⟩) n pc) n (flat6 rbs) := by
  have hr := h.1
  rw [h.2.1, ← h.len] at hr
  exact hr
theorem docX_news {w : World} {B g n pc : Nat} {rbs : List Rb} {d : List Bl} (h : DocX w B (.slice (some ⟨g, 0, none⟩) n pc) rbs d) : ∀ j u, (flat6 rbs)[j]? = some u → w.cell? ((⟨g, 0, none⟩ : Addr).add j) = some u := fun j u hj => by
  have hr := docX_rw h
  have hl := h.2.1
  have hn := h.len
  have hlt : j < n * 6 := by
    have := (List.getElem?_eq_some_iff.1 hj).1
    rw [flat6_length] at this
    omega
  have e : (⟨g, 0, none⟩ : Addr).add j = ⟨g, j, none⟩ := by simp [Addr.add]; intro h; omega
  rw [e, hr.cellAt j hlt]
  exact hj
theorem DocX.row_lt {w : World} {B g n pc : Nat} {rbs : List Rb} {d : List Bl} (h : DocX w B (.slice (some ⟨g, 0, none⟩) n pc) rbs d) : B ≤ g ∧ g < w.heap.size := own_lt h.1 rfl
theorem docX_first {w : World} {B g n pc k : Nat} {rbs : List Rb} {d : List Bl} (h : DocX w B (.slice (some ⟨g, 0, none⟩) n pc) rbs d) (hk : k < n) : w.ownsRow B 39 6 (.slice (some ⟨g, 0, none⟩) k pc) k (flat6 (rbs.take k)) := by
  have hr := docX_rw h
  have hl := h.2.1
  have hlen := h.len
  refine ⟨by rw [flat6_length, List.length_take]; omega, ?_⟩
  rcases hr.2 with ⟨hv, _⟩ | ⟨g', cap, cur, hv, hB, hg, hn, hm, hs, hp⟩
  · simp at hv
  · simp only [Value.slice.injEq, Option.some.injEq, Addr.mk.injEq, and_true, true_and] at hv
    obtain ⟨rfl, rfl⟩ := hv
    refine .inr ⟨g, pc, cur, rfl, hB, hg, by omega, hm, hs, ?_⟩
    rw [flat6_take, ← hp, List.take_take, Nat.min_eq_left (by omega)]
theorem docX_rest {w : World} {B g n pc k M : Nat} {rbs : List Rb} {d : List Bl} (h : DocX w B (.slice (some ⟨g, 0, none⟩) n pc) rbs d) (hM : n - (k + 1) = M) : (flat6 (rbs.drop (k + 1))).length = M * 6 ∧ ∀ j u, (flat6 (rbs.drop (k + 1)))[j]? = some u → w.cell? ((⟨g, (k + 1) * 6, none⟩ : Addr).add j) = some u := by
  have hr := docX_rw h
  have hl := h.2.1
  have hn := h.len
  have e0 : (flat6 (rbs.drop (k + 1))).length = M * 6 := by rw [flat6_length, List.length_drop]; congr 1; omega
  refine ⟨e0, fun j u hj => ?_⟩
  have hlt : j < M * 6 := by
    rw [← e0]
    exact (List.getElem?_eq_some_iff.1 hj).1
  have e : (⟨g, (k + 1) * 6, none⟩ : Addr).add j = ⟨g, (k + 1) * 6 + j, none⟩ := by simp [Addr.add]
  rw [e, hr.cellAt ((k + 1) * 6 + j) (by omega), ← List.getElem?_drop, ← flat6_drop]
  exact hj
theorem rb_getD_del (l : List Rb) (k j : Nat) (hk : k < l.length) : (l.take k ++ l.drop (k + 1)).getD j rb0 = l.getD (if j < k then j else j + 1) rb0 := getD_del l k j rb0 hk
theorem docX_del {w w' : World} {B : Nat} {v v' : Value} {rbs : List Rb} {d : List Bl} (h : DocX w B v rbs d) (hk : Kept B w.heap.size w w') (k : Nat) (hkd : k < d.length) (hrow : w'.ownsRow B 39 6 v' (rbs.take k ++ rbs.drop (k + 1)).length (flat6 (rbs.take k ++ rbs.drop (k + 1)))) : DocX w' B v' (rbs.take k ++ rbs.drop (k + 1)) (d.take k ++ d.drop (k + 1)) := by
  have hl := h.2.1
  refine ⟨hrow, by simp; omega, fun j hj => ?_⟩
  have hj' : j < d.length - 1 := by simp at hj; omega
  rw [getD_del rbs k j rb0 (by omega), getD_del d k j bl0 hkd]
  by_cases h1 : j < k
  · rw [if_pos h1]
    exact (h.2.2 j (by omega)).kept hk
  · rw [if_neg h1]
    exact (h.2.2 (j + 1) (by omega)).kept hk
/-- A block ahead of a document's, in a row of its own. -/
theorem docX_cons {w7 w8 : World} {B n : Nat} {y : Int} {v v' x : Value} {rbs : List Rb} {d : List Bl} (h : DocX w7 B v rbs d) (hn : n = d.length) (hx : ∀ g, x.ownBlock = some g → ∃ cur, RowAt w7 g cur 39) (hown : w8.ownsRow B 39 6 v' (1 + n) ([.int .i64 2, .int .i64 (1 + y), .slice none 0 0, .int .i64 0, .int .i64 0, .slice none 0 0] ++ flat6 rbs)) (hg : w7.grownBy w8 x.ownBlock) :
    DocX w8 B v' ((2, 1 + y, (none, 0, 0), 0, 0, (none, 0, 0)) :: rbs) ((2, 1 + y, [], 0, 0, []) :: d) := by
  have hk : Kept B w7.heap.size w7 w8 := kept_grown hx hg _ _
  have hl := h.2.1
  refine ⟨?_, by simp [hl], fun k hk' => ?_⟩
  · rw [List.length_cons, hl, ← hn, Nat.add_comm]
    exact hown
  · rcases k with _ | k
    · exact ⟨⟨rfl, rfl, rfl, rfl⟩, World.ownsRow_nil _ _ _ _, [], World.ownsRow_nil _ _ _ _, TxtOwn.nil _ _ _⟩
    · exact (h.2.2 k (by simpa using hk')).kept hk
def lenC (w : World) (X : Nat) : Nat := match w.cell? ⟨X, 0, none⟩ with
  | some (.slice _ n _) => n
  | _ => 0
def rbP : Rb := (1, 0, (none, 0, 0), 0, 0, (none, 0, 0))
def blP : Bl := (1, 0, [], 0, 0, [])
theorem case4_step {w w6 w8 : World} {B0 B g q m oc : Nat} {oa : Option Addr} {v' : Value} {rbs' : List Rb} {d' : List Bl} (hX : DocX w6 B (.slice oa m oc) rbs' d') (hm : m = d'.length) (hG : RowAt w6 w.heap.size #[.slice oa m oc] 25) (hZ : RowAt w6 (w.heap.size + 1) #[.slice none 0 0] 25) (hR : Rd B0 w6 g q) (hF : Fr w.heap.size g w w6)
    (hown : w8.ownsRow B 39 6 v' (m + 1) (flat6 rbs' ++ [.int .i64 1, .int .i64 0, .slice none 0 0, .int .i64 0, .int .i64 0, .slice none 0 0])) (hgrow : (w6.alloc (.cells #[.int .i64 1, .int .i64 0, .slice none 0 0, .int .i64 0, .int .i64 0, .slice none 0 0] 39)).grownBy w8 (Value.slice oa m oc).ownBlock)
    (h1 : w.heap.size + 2 ≤ B) (h2 : g < w.heap.size) (h3 : w.heap.size ≤ w6.heap.size) (_ : True) :
    ∃ oa' oc', Hid (DocX w8 B (.slice oa' (m + 1) oc') (rbs' ++ [rbP]) (d' ++ [blP])) ∧ v' = .slice oa' (m + 1) oc' ∧ Hid (RowAt w8 w.heap.size #[.slice oa m oc] 25) ∧ Hid (RowAt w8 (w.heap.size + 1) #[.slice none 0 0] 25) ∧ Hid (Rd B0 w8 g q) ∧ Hid (Fr w.heap.size g w w8) ∧ w6.heap.size ≤ w8.heap.size ∧ w8.cell? ⟨w.heap.size, 0, none⟩ = some (.slice oa m oc) ∧ w8.frozen? ⟨w.heap.size, 0, none⟩ = false := by
  have hne : ∀ b, (Value.slice oa m oc).ownBlock = some b → B ≤ b := fun b hb => (own_lt hX.1 hb).1
  have hX8 : DocX w8 B v' (rbs' ++ [rbP]) (d' ++ [blP]) := docX_snoc (hX.alloc _) hm (x := rbP) (y := blP) ⟨⟨rfl, rfl, rfl, rfl⟩, World.ownsRow_nil _ _ _ _, [], World.ownsRow_nil _ _ _ _, TxtOwn.nil _ _ _⟩ hown hgrow
  have hG8 : RowAt w8 w.heap.size #[.slice oa m oc] 25 := (hG.alloc _).grown hgrow (fun e => by have := hne _ e; omega)
  have hs := hgrow.size
  simp only [World.size_alloc] at hs
  obtain ⟨oa', oc', rfl⟩ : ∃ a c, v' = .slice a (m + 1) c := by
    obtain ⟨a1, c1, e1⟩ := hX8.shape
    refine ⟨a1, c1, ?_⟩
    rw [e1, List.length_append, ← hm]
    rfl
  refine ⟨oa', oc', hX8, rfl, hG8, (hZ.alloc _).grown hgrow (fun e => by have := hne _ e; omega), (hR.alloc _).grownAt hgrow (fun b hb => by have := hne _ hb; omega), (hF.alloc h3 _).grownAt hgrow (by simp; omega) (fun b hb => by have := hne _ hb; omega), by omega, by have := hG8.cell 0; simpa using this, hG8.frozen 0⟩
/-- What a drawing of a document that is perhaps spoilt gives. -/
def DrRes (B g q0 C : Nat) (w : World) (e : Ending) (w' : World) : Prop := ∃ (a' : Option Addr) (m' c' : Nat) (d' : List Bl) (q : Nat), e = .returned (.agg #[.slice a' m' c']) ∧ (∃ rbs, DocX w' C (.slice a' m' c') rbs d') ∧ DocSp d' ∧ Rd B w' g q ∧ q ≤ q0 ∧ Fr C g w w'
theorem drRes_mk {B g q0 C m' c' q : Nat} {w w' : World} {a' : Option Addr} {d' : List Bl} (h1 : ∃ rbs, DocX w' C (.slice a' m' c') rbs d') (h2 : DocSp d') (h3 : Rd B w' g q) (h4 : q ≤ q0) (h5 : Fr C g w w') : DrRes B g q0 C w (.returned (.agg #[.slice a' m' c'])) w' := ⟨a', m', c', d', q, rfl, h1, h2, h3, h4, h5⟩
set_option maxRecDepth 100000 in
set_option maxHeartbeats 16000000 in
theorem l71Odd_any (B g p : Nat) (a : Option Addr) (n cap : Nat) (d : List Bl) (w : World) (h : Rd B w g p) (hp : p ≤ 885000) (hD : Dc w a n cap d) (hsm : BlsDr d) (hn1 : 1 ≤ d.length) (hn6 : d.length ≤ 6) :
    Calls Try.prog 40 #[.pointer (some ⟨g, 0, none⟩), .agg #[.slice a n cap]] w fun e w' => DrRes B g (p + 600) w.heap.size w e w' := by
  obtain ⟨i0, hi0, hz0, hz1, hz2⟩ := info_parts infoX_block
  have hlt := h.lt
  have HR : Hid (Rd B w g p) := h
  have HDa : Hid (Dc w a n cap d) := hD
  have HN : Hid (n = d.length) := hD.1
  have hnn1 : 1 ≤ n := by rw [HN.out]; exact hn1
  have hnn6 : n ≤ 6 := by rw [HN.out]; exact hn6
  have HSP : Hid (DocSp d) := ⟨by omega, fun x hx => (hsm x hx).sp⟩
  have HDL : Hid (∀ k, k < d.length → BlDr (d.getD k bl0)) := fun k hk => hsm _ (by simp [List.getD, hk])
  clear h hD hsm hn1 hn6
  go_enter Try.func40, Try.ntmps40
  go_upto_region 1 with fail
  have B0 : Below w.heap.size w ((w.alloc (.cells #[.slice a n cap] 25)).alloc (.cells #[.slice none 0 0] 25)) := ((Below.refl _ _).alloc (Nat.le_refl _) _).alloc (by simp) _
  have G0 : RowAt ((w.alloc (.cells #[.slice a n cap] 25)).alloc (.cells #[.slice none 0 0] 25)) w.heap.size #[.slice a n cap] 25 := (rowAt_new w _ _).alloc _
  have G1 : RowAt ((w.alloc (.cells #[.slice a n cap] 25)).alloc (.cells #[.slice none 0 0] 25)) (w.heap.size + 1) #[.slice none 0 0] 25 := by
    have := rowAt_new (w.alloc (.cells #[.slice a n cap] 25)) #[.slice none 0 0] 25
    simpa using this
  have HDv : Hid (Dc ((w.alloc (.cells #[.slice a n cap] 25)).alloc (.cells #[.slice none 0 0] 25)) a n cap d) := HDa.out.below B0
  generalize ((w.alloc (.cells #[.slice a n cap] 25)).alloc (.cells #[.slice none 0 0] 25)) = v at B0 G0 G1 HDv ⊢
  have HG0 : Hid (RowAt v w.heap.size #[.slice a n cap] 25) := G0
  have HG1 : Hid (RowAt v (w.heap.size + 1) #[.slice none 0 0] 25) := G1
  have HB0 : Hid (Below w.heap.size w v) := B0
  have s0 := B0.size
  have z0 := G0.lt
  have z1 := G1.lt
  have k0 : v.cell? ⟨w.heap.size, 0, none⟩ = some (.slice a n cap) := G0.cell 0
  clear G0 G1 B0
  go_upto_region 2 with (first | (go_at_call 54; refine (l3Copy_any HDv.out (by omega) (fun k hk => (HDL.out k hk).smb)).mono ?_; rintro e w1 ⟨⟨oa, cl, rbs, rfl, hOl⟩, hb1⟩; have HG0w : Hid (RowAt w1 w.heap.size #[.slice a n cap] 25) := HG0.out.below hb1 z0) | (refine wpList_store_row rfl 25 (.tmp 3) (.tmp 7) rfl w.heap.size #[.slice oa n cl] rfl rfl 25 _ HG0w.out drdoc_info rfl (drcells1_one _ _ _) ?_))
  have s1 := hb1.size
  obtain ⟨gq, rfl⟩ : ∃ gq, oa = some ⟨gq, 0, none⟩ := by
    rcases hOl.1.2 with ⟨hv, hz⟩ | ⟨g', cap', cur, hv, -⟩
    · exfalso
      simp only [Value.slice.injEq] at hv
      omega
    · simp only [Value.slice.injEq] at hv
      exact ⟨g', hv.1⟩
  obtain ⟨E, hE⟩ : ∃ E, E = w1.heap.size := ⟨_, rfl⟩
  rw [← hE] at hOl
  have bS : Below w.heap.size w1 (w1.setRow w.heap.size #[.slice (some ⟨gq, 0, none⟩) n cl]) := below_row (Below.refl _ _) (Nat.le_refl _) _
  have T2 : RowAt (w1.setRow w.heap.size #[.slice (some ⟨gq, 0, none⟩) n cl]) w.heap.size #[.slice (some ⟨gq, 0, none⟩) n cl] 25 := HG0w.out.setRow _
  have O2 : DocOwn (w1.setRow w.heap.size #[.slice (some ⟨gq, 0, none⟩) n cl]) v.heap.size E (.slice (some ⟨gq, 0, none⟩) n cl) rbs d := hOl.mid (fun b hb hb' => setRow_otherX _ _ _ _ (by omega))
  have Z2 : RowAt (w1.setRow w.heap.size #[.slice (some ⟨gq, 0, none⟩) n cl]) (w.heap.size + 1) #[.slice none 0 0] 25 := (HG1.out.below hb1 z1).setRowOther _ _ (by omega)
  have F2 : Fr w.heap.size g w (w1.setRow w.heap.size #[.slice (some ⟨gq, 0, none⟩) n cl]) := (((Fr.refl _ _ w).below HB0.out).below (hb1.mono s0)).below bS
  have R2 : Rd B (w1.setRow w.heap.size #[.slice (some ⟨gq, 0, none⟩) n cl]) g p := ((HR.out.below HB0.out hlt).below hb1 (by omega)).below bS hlt
  have z2 : w1.heap.size ≤ (w1.setRow w.heap.size #[.slice (some ⟨gq, 0, none⟩) n cl]).heap.size := bS.size
  generalize (w1.setRow w.heap.size #[.slice (some ⟨gq, 0, none⟩) n cl]) = v2 at T2 O2 Z2 F2 R2 z2 ⊢
  have t2 : v2.cell? ⟨w.heap.size, 0, none⟩ = some (.slice (some ⟨gq, 0, none⟩) n cl) := T2.cell 0
  have HT2 : Hid (RowAt v2 w.heap.size #[.slice (some ⟨gq, 0, none⟩) n cl] 25) := T2
  have HO2 : Hid (DocOwn v2 v.heap.size E (.slice (some ⟨gq, 0, none⟩) n cl) rbs d) := O2
  have HZ2 : Hid (RowAt v2 (w.heap.size + 1) #[.slice none 0 0] 25) := Z2
  have HF2 : Hid (Fr w.heap.size g w v2) := F2
  have HR2 : Hid (Rd B v2 g p) := R2
  clear T2 O2 Z2 F2 R2 bS hOl hb1 HG0 HG1 HDv HDa HR k0 HG0w
  have hcl := HO2.out.dc.2.1
  have hcm := HO2.out.dc.2.2.1
  unfold maxLen at hcm
  have hgq := (docX_at HO2.out.x (i := 0) (by omega)).2.2
  go_wp2_with fail
  refine (pick_any B g p (n : Int) _ HR2.out (by omega) (by omega) (by omega)).mono ?_
  rintro e w3 ⟨k, rfl, hk0, hk1, hr3, hg3⟩
  obtain ⟨k, rfl⟩ : ∃ q : Nat, k = q := ⟨k.toNat, by omega⟩
  have hkn : k < n := by omega
  have hkd : k < d.length := by rw [← HN.out]; exact hkn
  have f3 := fr_grown hg3
  have s3 := f3.size
  have HT3 : Hid (RowAt w3 w.heap.size #[.slice (some ⟨gq, 0, none⟩) n cl] 25) := HT2.out.fr f3 (by omega)
  have HO3 : Hid (DocOwn w3 v.heap.size E (.slice (some ⟨gq, 0, none⟩) n cl) rbs d) := HO2.out.mid (fun b hb hb' => f3.block b (by omega) (by omega))
  have HZ3 : Hid (RowAt w3 (w.heap.size + 1) #[.slice none 0 0] 25) := HZ2.out.fr f3 (by omega)
  have HF3 : Hid (Fr w.heap.size g w w3) := HF2.out.trans (f3.mono (by omega))
  have HR3 : Hid (Rd B w3 g (p + 1)) := hr3
  clear hr3 hg3 f3 HT2 HO2 HZ2 HF2 HR2 t2
  go_wp2_with fail
  refine (pick_any B g (p + 1) 7 _ HR3.out (by omega) (by omega) (by omega)).mono ?_
  rintro e w4 ⟨sw, rfl, hs0, hs1, hr4, hg4⟩
  have f4 := fr_grown hg4
  have s4 := f4.size
  have HT4 : Hid (RowAt w4 w.heap.size #[.slice (some ⟨gq, 0, none⟩) n cl] 25) := HT3.out.fr f4 (by omega)
  have HO4 : Hid (DocOwn w4 v.heap.size E (.slice (some ⟨gq, 0, none⟩) n cl) rbs d) := HO3.out.mid (fun b hb hb' => f4.block b (by omega) (by omega))
  have HZ4 : Hid (RowAt w4 (w.heap.size + 1) #[.slice none 0 0] 25) := HZ3.out.fr f4 (by omega)
  have HF4 : Hid (Fr w.heap.size g w w4) := HF3.out.trans (f4.mono (by omega))
  have HR4 : Hid (Rd B w4 g (p + 1 + 1)) := hr4
  clear hr4 hg4 f4 HT3 HO3 HZ3 HF3 HR3
  have t2 : w4.cell? ⟨w.heap.size, 0, none⟩ = some (.slice (some ⟨gq, 0, none⟩) n cl) := HT4.out.cell 0
  have hgB : v.heap.size ≤ gq := hgq.1
  have hgl : gq < w4.heap.size := by omega
  have hEs : E ≤ w4.heap.size := by omega
  rcases (show sw = 0 ∨ sw = 1 ∨ sw = 2 ∨ sw = 3 ∨ sw = 4 ∨ sw = 5 ∨ sw = 6 by omega) with rfl | rfl | rfl | rfl | rfl | rfl | rfl
  · go_upto_region 6 with fail
    have fd : Fr w4.heap.size g w4 w4.drew := (Fr.refl _ _ _).below ((Below.refl _ _).drew)
    have HTd : Hid (RowAt w4.drew w.heap.size #[.slice (some ⟨gq, 0, none⟩) n cl] 25) := HT4.out
    have HRd : Hid (Rd B w4.drew g (p + 1 + 1)) := HR4.out.below ((Below.refl _ _).drew) HR4.out.lt
    have HOd : Hid (DocOwn w4.drew v.heap.size E (.slice (some ⟨gq, 0, none⟩) n cl) rbs d) := HO4.out.mid (fun b _ _ => rfl)
    have HZd : Hid (RowAt w4.drew (w.heap.size + 1) #[.slice none 0 0] 25) := HZ4.out
    have HFd : Hid (Fr w.heap.size g w w4.drew) := HF4.out.trans (fd.mono (by omega))
    have sd : w4.heap.size = w4.drew.heap.size := rfl
    refine wp_region_noPanic ?_
    refine wp_region_L (fun w' => RowAt w' w.heap.size #[.slice (some ⟨gq, 0, none⟩) n cl] 25) 7 (by kernel_rfl) (HTd.out) (fun hHeld => ?_)
    generalize w4.drew = w5 at HTd HRd HOd HZd HFd sd hHeld ⊢
    clear fd HT4 HO4 HZ4 HF4 HR4 t2
    refine takeL 0 28 (.pointer (some ⟨w.heap.size, 0, none⟩)) rfl rfl (by kernel_rfl) (by kernel_rfl) (by kernel_rfl) (by kernel_rfl) (by kernel_rfl) (fun _ _ _ h => h) (Or.inl ⟨by kernel_rfl, fun w' hS' => by go_simp⟩) hHeld ?_
    (try simp only [Act.put, List.setIfInBounds_toArray, List.set_cons_zero, List.set_cons_succ])
    refine takeL 1 29 (.slice (some ⟨gq, 0, none⟩) n cl) rfl rfl (by kernel_rfl) (by kernel_rfl) (by kernel_rfl) (by kernel_rfl) (by kernel_rfl) (fun _ _ _ h => h) (Or.inl ⟨by kernel_rfl, fun w' hS' => by have hc := RowAt.cell hS' 0; simp at hc; go_simp⟩) hHeld ?_
    (try simp only [Act.put, List.setIfInBounds_toArray, List.set_cons_zero, List.set_cons_succ])
    refine takeL 2 30 (.int .i64 k) rfl rfl (by kernel_rfl) (by kernel_rfl) (by kernel_rfl) (by kernel_rfl) (by kernel_rfl) (fun _ _ _ h => h) (Or.inl ⟨by kernel_rfl, fun w' hS' => by go_simp⟩) hHeld ?_
    (try simp only [Act.put, List.setIfInBounds_toArray, List.set_cons_zero, List.set_cons_succ])
    refine takeL 3 31 (.pointer (some ⟨g, 0, none⟩)) rfl rfl (by kernel_rfl) (by kernel_rfl) (by kernel_rfl) (by kernel_rfl) (by kernel_rfl) (fun _ _ _ h => h) (Or.inl ⟨by kernel_rfl, fun w' hS' => by go_simp⟩) hHeld ?_
    (try simp only [Act.put, List.setIfInBounds_toArray, List.set_cons_zero, List.set_cons_succ])
    refine wpAnyL_ready (rs := [4]) (by kernel_rfl) (by simp) ?_
    refine AllReadyL.cons rfl (fun K hK => ?_) AllReadyL.nil
    go_simp
    go_at_call 25
    refine (pick_any B g (p + 1 + 1) _ _ HRd.out (by omega) (by omega) (by omega)).mono ?_
    rintro e w6 ⟨y, rfl, hy0, hy1, hr6, hg6⟩
    have hf6 := fr_grown hg6
    have s6 := hf6.size
    have HT6 : Hid (RowAt w6 w.heap.size #[.slice (some ⟨gq, 0, none⟩) n cl] 25) := HTd.out.fr hf6 (by omega)
    have HZ6 : Hid (RowAt w6 (w.heap.size + 1) #[.slice none 0 0] 25) := HZd.out.fr hf6 (by omega)
    have HX6 : Hid (DocX w6 v.heap.size (.slice (some ⟨gq, 0, none⟩) n cl) rbs d) := HOd.out.x.fr hf6 (by omega)
    have HF6 : Hid (Fr w.heap.size g w w6) := HFd.out.trans (hf6.mono (by omega))
    have HR6 : Hid (Rd B w6 g (p + 1 + 1 + 1)) := hr6
    clear hr6 hg6 hf6 HTd HZd HOd HFd HRd
    go_wp2_with fail
    refine hK.out _ _ (fun _ => HT6.out) (fun hHeld => ?_)
    replace hHeld := hHeld (by decide)
    clear hK K
    (try simp only [Act.put, List.setIfInBounds_toArray, List.set_cons_zero, List.set_cons_succ])
    obtain ⟨x4, fz4, hgB, hgl⟩ := docX_at HX6.out (i := k) hkn
    have x4 := x4 0 (by omega)
    have fz4 := fz4 0
    simp [rbCells] at x4 fz4
    refine takeL 5 33 (.pointer (some ⟨gq, k * 6, none⟩)) rfl rfl (by kernel_rfl) (by kernel_rfl) (by kernel_rfl) (by kernel_rfl) (by kernel_rfl) (fun _ _ _ h => h) (Or.inl ⟨by kernel_rfl, fun w' hS' => by go_simp⟩) hHeld ?_
    (try simp only [Act.put, List.setIfInBounds_toArray, List.set_cons_zero, List.set_cons_succ])
    refine takeL 6 34 (.pointer (some ⟨gq, k * 6, none⟩)) rfl rfl (by kernel_rfl) (by kernel_rfl) (by kernel_rfl) (by kernel_rfl) (by kernel_rfl) (fun _ _ _ h => h) (Or.inl ⟨by kernel_rfl, fun w' hS' => by go_simp⟩) hHeld ?_
    (try simp only [Act.put, List.setIfInBounds_toArray, List.set_cons_zero, List.set_cons_succ])
    refine wpAnyL_ready (rs := [7]) (by kernel_rfl) (by simp) ?_
    refine AllReadyL.cons rfl (fun K hK => ?_) AllReadyL.nil
    go_simp
    refine hK.out _ _ (fun h => absurd rfl h) (fun _ => ?_)
    clear hK K
    (try simp only [Act.put, List.setIfInBounds_toArray, List.set_cons_zero, List.set_cons_succ])
    refine wpAnyL_done (by kernel_rfl) ?_ _
    refine NoPanic.normal ?_
    clear x4 fz4
    have HTe : Hid (RowAt (w6.setCell ⟨gq, k * 6, none⟩ (.int .i64 y)) w.heap.size #[.slice (some ⟨gq, 0, none⟩) n cl] 25) := HT6.out.other ⟨gq, k * 6, none⟩ _ (by show w.heap.size ≠ gq; omega)
    have HOe : Hid (DocX (w6.setCell ⟨gq, k * 6, none⟩ (.int .i64 y)) v.heap.size (.slice (some ⟨gq, 0, none⟩) n cl) (rbs.set k (y, (rbs.getD k rb0).2)) (d.set k (y, (d.getD k bl0).2))) := docX_kind HX6.out k hkd y
    have HZe : Hid (RowAt (w6.setCell ⟨gq, k * 6, none⟩ (.int .i64 y)) (w.heap.size + 1) #[.slice none 0 0] 25) := HZ6.out.other ⟨gq, k * 6, none⟩ _ (by show w.heap.size + 1 ≠ gq; omega)
    have HRe : Hid (Rd B (w6.setCell ⟨gq, k * 6, none⟩ (.int .i64 y)) g (p + 1 + 1 + 1)) := HR6.out.setCell (by show g < gq; omega) _
    have HFe : Hid (Fr w.heap.size g w (w6.setCell ⟨gq, k * 6, none⟩ (.int .i64 y))) := HF6.out.setCell (p := ⟨gq, k * 6, none⟩) (by show w.heap.size ≤ gq; omega) _
    clear HT6 HZ6 HX6 HF6 HR6
    generalize (w6.setCell ⟨gq, k * 6, none⟩ (.int .i64 y)) = w9 at HTe HOe HZe HRe HFe ⊢
    have te : w9.cell? ⟨w.heap.size, 0, none⟩ = some (.slice (some ⟨gq, 0, none⟩) n cl) := HTe.out.cell 0
    go_wp2_with (refine wpList_store_row rfl 25 (.tmp 4) (.tmp 95) rfl (w.heap.size + 1) #[.slice (some ⟨gq, 0, none⟩) n cl] rfl rfl 25 _ HZe.out drdoc_info rfl (drcells1_one _ _ _) ?_)
    have bT : Below (w.heap.size + 1) w9 (w9.setRow (w.heap.size + 1) #[.slice (some ⟨gq, 0, none⟩) n cl]) := below_row (Below.refl _ _) (Nat.le_refl _) _
    refine bodyPost_ret (v := .agg #[.slice (some ⟨gq, 0, none⟩) n cl]) (results_cell_row (p := 4) (ty := 25) rfl _ _ (w.heap.size + 1) 25 _ _ _ rfl (RowAt.setRow HZe.out _) Try.underlying25 rfl drdoc_info) rfl (drRes_mk (d' := (d.set k (y, (d.getD k bl0).2))) (q := (p + 1 + 1 + 1)) ⟨_, (docX_row HOe.out HZe.out _).less (by omega)⟩ (HSP.out.set k _ ⟨(HSP.out.at k).1, (HSP.out.at k).2⟩) (HRe.out.below bT (by omega)) (by omega) (HFe.out.below (bT.mono (by omega))))
  · go_upto_region 8 with fail
    have fd : Fr w4.heap.size g w4 w4.drew := (Fr.refl _ _ _).below ((Below.refl _ _).drew)
    have HTd : Hid (RowAt w4.drew w.heap.size #[.slice (some ⟨gq, 0, none⟩) n cl] 25) := HT4.out
    have HRd : Hid (Rd B w4.drew g (p + 1 + 1)) := HR4.out.below ((Below.refl _ _).drew) HR4.out.lt
    have HOd : Hid (DocOwn w4.drew v.heap.size E (.slice (some ⟨gq, 0, none⟩) n cl) rbs d) := HO4.out.mid (fun b _ _ => rfl)
    have HZd : Hid (RowAt w4.drew (w.heap.size + 1) #[.slice none 0 0] 25) := HZ4.out
    have HFd : Hid (Fr w.heap.size g w w4.drew) := HF4.out.trans (fd.mono (by omega))
    have sd : w4.heap.size = w4.drew.heap.size := rfl
    refine wp_region_noPanic ?_
    refine wp_region_L (fun w' => RowAt w' w.heap.size #[.slice (some ⟨gq, 0, none⟩) n cl] 25) 8 (by kernel_rfl) (HTd.out) (fun hHeld => ?_)
    generalize w4.drew = w5 at HTd HRd HOd HZd HFd sd hHeld ⊢
    clear fd HT4 HO4 HZ4 HF4 HR4 t2
    refine takeL 0 37 (.pointer (some ⟨w.heap.size, 0, none⟩)) rfl rfl (by kernel_rfl) (by kernel_rfl) (by kernel_rfl) (by kernel_rfl) (by kernel_rfl) (fun _ _ _ h => h) (Or.inl ⟨by kernel_rfl, fun w' hS' => by go_simp⟩) hHeld ?_
    (try simp only [Act.put, List.setIfInBounds_toArray, List.set_cons_zero, List.set_cons_succ])
    refine takeL 1 38 (.slice (some ⟨gq, 0, none⟩) n cl) rfl rfl (by kernel_rfl) (by kernel_rfl) (by kernel_rfl) (by kernel_rfl) (by kernel_rfl) (fun _ _ _ h => h) (Or.inl ⟨by kernel_rfl, fun w' hS' => by have hc := RowAt.cell hS' 0; simp at hc; go_simp⟩) hHeld ?_
    (try simp only [Act.put, List.setIfInBounds_toArray, List.set_cons_zero, List.set_cons_succ])
    refine takeL 2 39 (.int .i64 k) rfl rfl (by kernel_rfl) (by kernel_rfl) (by kernel_rfl) (by kernel_rfl) (by kernel_rfl) (fun _ _ _ h => h) (Or.inl ⟨by kernel_rfl, fun w' hS' => by go_simp⟩) hHeld ?_
    (try simp only [Act.put, List.setIfInBounds_toArray, List.set_cons_zero, List.set_cons_succ])
    refine takeL 3 40 (.pointer (some ⟨g, 0, none⟩)) rfl rfl (by kernel_rfl) (by kernel_rfl) (by kernel_rfl) (by kernel_rfl) (by kernel_rfl) (fun _ _ _ h => h) (Or.inl ⟨by kernel_rfl, fun w' hS' => by go_simp⟩) hHeld ?_
    (try simp only [Act.put, List.setIfInBounds_toArray, List.set_cons_zero, List.set_cons_succ])
    refine wpAnyL_ready (rs := [4]) (by kernel_rfl) (by simp) ?_
    refine AllReadyL.cons rfl (fun K hK => ?_) AllReadyL.nil
    go_simp
    go_at_call 25
    refine (pick_any B g (p + 1 + 1) _ _ HRd.out (by omega) (by omega) (by omega)).mono ?_
    rintro e w6 ⟨y, rfl, hy0, hy1, hr6, hg6⟩
    have hf6 := fr_grown hg6
    have s6 := hf6.size
    have HT6 : Hid (RowAt w6 w.heap.size #[.slice (some ⟨gq, 0, none⟩) n cl] 25) := HTd.out.fr hf6 (by omega)
    have HZ6 : Hid (RowAt w6 (w.heap.size + 1) #[.slice none 0 0] 25) := HZd.out.fr hf6 (by omega)
    have HX6 : Hid (DocX w6 v.heap.size (.slice (some ⟨gq, 0, none⟩) n cl) rbs d) := HOd.out.x.fr hf6 (by omega)
    have HF6 : Hid (Fr w.heap.size g w w6) := HFd.out.trans (hf6.mono (by omega))
    have HR6 : Hid (Rd B w6 g (p + 1 + 1 + 1)) := hr6
    clear hr6 hg6 hf6 HTd HZd HOd HFd HRd
    go_wp2_with fail
    refine hK.out _ _ (fun _ => HT6.out) (fun hHeld => ?_)
    replace hHeld := hHeld (by decide)
    clear hK K
    (try simp only [Act.put, List.setIfInBounds_toArray, List.set_cons_zero, List.set_cons_succ])
    refine takeL 5 42 (.int .i64 (y - 1)) rfl rfl (by kernel_rfl) (by kernel_rfl) (by kernel_rfl) (by kernel_rfl) (by kernel_rfl) (fun _ _ _ h => h) (Or.inl ⟨by kernel_rfl, fun w' hS' => by go_simp; rw [IntKind.wrap_i64]; omega⟩) hHeld ?_
    (try simp only [Act.put, List.setIfInBounds_toArray, List.set_cons_zero, List.set_cons_succ])
    obtain ⟨x4, fz4, hgB, hgl⟩ := docX_at HX6.out (i := k) hkn
    have x4 := x4 1 (by omega)
    have fz4 := fz4 1
    simp [rbCells] at x4 fz4
    refine takeL 6 43 (.pointer (some ⟨gq, k * 6, none⟩)) rfl rfl (by kernel_rfl) (by kernel_rfl) (by kernel_rfl) (by kernel_rfl) (by kernel_rfl) (fun _ _ _ h => h) (Or.inl ⟨by kernel_rfl, fun w' hS' => by go_simp⟩) hHeld ?_
    (try simp only [Act.put, List.setIfInBounds_toArray, List.set_cons_zero, List.set_cons_succ])
    refine takeL 7 44 (.pointer (some ⟨gq, k * 6 + 1, none⟩)) rfl rfl (by kernel_rfl) (by kernel_rfl) (by kernel_rfl) (by kernel_rfl) (by kernel_rfl) (fun _ _ _ h => h) (Or.inl ⟨by kernel_rfl, fun w' hS' => by go_simp⟩) hHeld ?_
    (try simp only [Act.put, List.setIfInBounds_toArray, List.set_cons_zero, List.set_cons_succ])
    refine wpAnyL_ready (rs := [8]) (by kernel_rfl) (by simp) ?_
    refine AllReadyL.cons rfl (fun K hK => ?_) AllReadyL.nil
    go_simp
    refine hK.out _ _ (fun h => absurd rfl h) (fun _ => ?_)
    clear hK K
    (try simp only [Act.put])
    refine wpAnyL_done (by kernel_rfl) ?_ _
    refine NoPanic.normal ?_
    clear x4 fz4
    have HTe : Hid (RowAt (w6.setCell ⟨gq, k * 6 + 1, none⟩ (.int .i64 (y - 1))) w.heap.size #[.slice (some ⟨gq, 0, none⟩) n cl] 25) := HT6.out.other ⟨gq, k * 6 + 1, none⟩ _ (by show w.heap.size ≠ gq; omega)
    have HOe : Hid (DocX (w6.setCell ⟨gq, k * 6 + 1, none⟩ (.int .i64 (y - 1))) v.heap.size (.slice (some ⟨gq, 0, none⟩) n cl) (rbs.set k ((rbs.getD k rb0).1, (y - 1), (rbs.getD k rb0).2.2)) (d.set k ((d.getD k bl0).1, (y - 1), (d.getD k bl0).2.2))) := docX_level HX6.out k hkd (y - 1)
    have HZe : Hid (RowAt (w6.setCell ⟨gq, k * 6 + 1, none⟩ (.int .i64 (y - 1))) (w.heap.size + 1) #[.slice none 0 0] 25) := HZ6.out.other ⟨gq, k * 6 + 1, none⟩ _ (by show w.heap.size + 1 ≠ gq; omega)
    have HRe : Hid (Rd B (w6.setCell ⟨gq, k * 6 + 1, none⟩ (.int .i64 (y - 1))) g (p + 1 + 1 + 1)) := HR6.out.setCell (by show g < gq; omega) _
    have HFe : Hid (Fr w.heap.size g w (w6.setCell ⟨gq, k * 6 + 1, none⟩ (.int .i64 (y - 1)))) := HF6.out.setCell (p := ⟨gq, k * 6 + 1, none⟩) (by show w.heap.size ≤ gq; omega) _
    clear HT6 HZ6 HX6 HF6 HR6
    generalize (w6.setCell ⟨gq, k * 6 + 1, none⟩ (.int .i64 (y - 1))) = w9 at HTe HOe HZe HRe HFe ⊢
    have te : w9.cell? ⟨w.heap.size, 0, none⟩ = some (.slice (some ⟨gq, 0, none⟩) n cl) := HTe.out.cell 0
    go_wp2_with (refine wpList_store_row rfl 25 (.tmp 4) (.tmp 95) rfl (w.heap.size + 1) #[.slice (some ⟨gq, 0, none⟩) n cl] rfl rfl 25 _ HZe.out drdoc_info rfl (drcells1_one _ _ _) ?_)
    have bT : Below (w.heap.size + 1) w9 (w9.setRow (w.heap.size + 1) #[.slice (some ⟨gq, 0, none⟩) n cl]) := below_row (Below.refl _ _) (Nat.le_refl _) _
    refine bodyPost_ret (v := .agg #[.slice (some ⟨gq, 0, none⟩) n cl]) (results_cell_row (p := 4) (ty := 25) rfl _ _ (w.heap.size + 1) 25 _ _ _ rfl (RowAt.setRow HZe.out _) Try.underlying25 rfl drdoc_info) rfl (drRes_mk (d' := (d.set k ((d.getD k bl0).1, (y - 1), (d.getD k bl0).2.2))) (q := (p + 1 + 1 + 1)) ⟨_, (docX_row HOe.out HZe.out _).less (by omega)⟩ (HSP.out.set k _ ⟨by show -9 ≤ y - 1 ∧ y - 1 ≤ 9; omega, (HSP.out.at k).2⟩) (HRe.out.below bT (by omega)) (by omega) (HFe.out.below (bT.mono (by omega))))
  · go_upto_region 10 with fail
    obtain ⟨⟨xa, xn, xq⟩, hx⟩ : ∃ x, x = (rbs.getD k rb0).2.2.1 := ⟨_, rfl⟩
    have HXr : Hid ((rbs.getD k rb0).2.2.1 = (xa, xn, xq)) := hx.symm
    clear hx
    have HXC : Hid (∀ w' : World, w'.ownsRow v.heap.size 39 6 (.slice (some ⟨gq, 0, none⟩) n cl) rbs.length (flat6 rbs) → w'.cell? ⟨gq, k * 6 + 2, none⟩ = some (.slice xa xn xq)) := fun w' ho => by
      have hl := HO4.out.2.2.1
      have hr := ho
      rw [hl, ← HN.out] at hr
      rw [hr.cellAt (k * 6 + 2) (by omega), flat6_get _ k (by omega) 2 (by omega)]
      show some (sl3V (rbs.getD k rb0).2.2.1) = _
      rw [HXr.out]
      rfl
    have x5 := HXC.out _ HO4.out.1
    have fd : Fr w4.heap.size g w4 w4.drew := (Fr.refl _ _ _).below ((Below.refl _ _).drew)
    have HTd : Hid (RowAt w4.drew w.heap.size #[.slice (some ⟨gq, 0, none⟩) n cl] 25) := HT4.out
    have HRd : Hid (Rd B w4.drew g (p + 1 + 1)) := HR4.out.below ((Below.refl _ _).drew) HR4.out.lt
    have HOd : Hid (DocOwn w4.drew v.heap.size E (.slice (some ⟨gq, 0, none⟩) n cl) rbs d) := HO4.out.mid (fun b _ _ => rfl)
    have HZd : Hid (RowAt w4.drew (w.heap.size + 1) #[.slice none 0 0] 25) := HZ4.out
    have HFd : Hid (Fr w.heap.size g w w4.drew) := HF4.out.trans (fd.mono (by omega))
    have sd : w4.heap.size = w4.drew.heap.size := rfl
    refine wp_region_noPanic ?_
    refine wp_region_L (fun w' => RowAt w' w.heap.size #[.slice (some ⟨gq, 0, none⟩) n cl] 25 ∧ w'.cell? ⟨gq, k * 6 + 2, none⟩ = some (.slice xa xn xq)) 13 (by kernel_rfl) (⟨HTd.out, x5⟩) (fun hHeld => ?_)
    generalize w4.drew = w5 at HTd HRd HOd HZd HFd sd hHeld x5 ⊢
    clear fd HT4 HO4 HZ4 HF4 HR4 t2
    refine takeL 0 47 (.pointer (some ⟨w.heap.size, 0, none⟩)) rfl rfl (by kernel_rfl) (by kernel_rfl) (by kernel_rfl) (by kernel_rfl) (by kernel_rfl) (fun _ _ _ h => h) (Or.inl ⟨by kernel_rfl, fun w' hS' => by go_simp⟩) hHeld ?_
    (try simp only [Act.put, List.setIfInBounds_toArray, List.set_cons_zero, List.set_cons_succ])
    refine takeL 1 48 (.slice (some ⟨gq, 0, none⟩) n cl) rfl rfl (by kernel_rfl) (by kernel_rfl) (by kernel_rfl) (by kernel_rfl) (by kernel_rfl) (fun _ _ _ h => h) (Or.inl ⟨by kernel_rfl, fun w' hS' => by have hc := RowAt.cell hS'.1 0; have hd := hS'.2; simp at hc; go_simp⟩) hHeld ?_
    (try simp only [Act.put, List.setIfInBounds_toArray, List.set_cons_zero, List.set_cons_succ])
    refine takeL 2 49 (.int .i64 k) rfl rfl (by kernel_rfl) (by kernel_rfl) (by kernel_rfl) (by kernel_rfl) (by kernel_rfl) (fun _ _ _ h => h) (Or.inl ⟨by kernel_rfl, fun w' hS' => by go_simp⟩) hHeld ?_
    (try simp only [Act.put, List.setIfInBounds_toArray, List.set_cons_zero, List.set_cons_succ])
    refine takeL 3 50 (.pointer (some ⟨g, 0, none⟩)) rfl rfl (by kernel_rfl) (by kernel_rfl) (by kernel_rfl) (by kernel_rfl) (by kernel_rfl) (fun _ _ _ h => h) (Or.inl ⟨by kernel_rfl, fun w' hS' => by go_simp⟩) hHeld ?_
    (try simp only [Act.put, List.setIfInBounds_toArray, List.set_cons_zero, List.set_cons_succ])
    refine takeL 4 51 (.pointer (some ⟨w.heap.size, 0, none⟩)) rfl rfl (by kernel_rfl) (by kernel_rfl) (by kernel_rfl) (by kernel_rfl) (by kernel_rfl) (fun _ _ _ h => h) (Or.inl ⟨by kernel_rfl, fun w' hS' => by go_simp⟩) hHeld ?_
    (try simp only [Act.put, List.setIfInBounds_toArray, List.set_cons_zero, List.set_cons_succ])
    refine takeL 5 52 (.slice (some ⟨gq, 0, none⟩) n cl) rfl rfl (by kernel_rfl) (by kernel_rfl) (by kernel_rfl) (by kernel_rfl) (by kernel_rfl) (fun _ _ _ h => h) (Or.inl ⟨by kernel_rfl, fun w' hS' => by have hc := RowAt.cell hS'.1 0; have hd := hS'.2; simp at hc; go_simp⟩) hHeld ?_
    (try simp only [Act.put, List.setIfInBounds_toArray, List.set_cons_zero, List.set_cons_succ])
    refine takeL 6 53 (.int .i64 k) rfl rfl (by kernel_rfl) (by kernel_rfl) (by kernel_rfl) (by kernel_rfl) (by kernel_rfl) (fun _ _ _ h => h) (Or.inl ⟨by kernel_rfl, fun w' hS' => by go_simp⟩) hHeld ?_
    (try simp only [Act.put, List.setIfInBounds_toArray, List.set_cons_zero, List.set_cons_succ])
    refine takeL 7 54 (.pointer (some ⟨gq, k * 6, none⟩)) rfl rfl (by kernel_rfl) (by kernel_rfl) (by kernel_rfl) (by kernel_rfl) (by kernel_rfl) (fun _ _ _ h => h) (Or.inl ⟨by kernel_rfl, fun w' hS' => by go_simp⟩) hHeld ?_
    (try simp only [Act.put, List.setIfInBounds_toArray, List.set_cons_zero, List.set_cons_succ])
    refine takeL 8 55 (.pointer (some ⟨gq, k * 6 + 2, none⟩)) rfl rfl (by kernel_rfl) (by kernel_rfl) (by kernel_rfl) (by kernel_rfl) (by kernel_rfl) (fun _ _ _ h => h) (Or.inl ⟨by kernel_rfl, fun w' hS' => by go_simp⟩) hHeld ?_
    (try simp only [Act.put, List.setIfInBounds_toArray, List.set_cons_zero, List.set_cons_succ])
    refine takeL 9 56 (.slice xa xn xq) rfl rfl (by kernel_rfl) (by kernel_rfl) (by kernel_rfl) (by kernel_rfl) (by kernel_rfl) (fun _ _ _ h => h) (Or.inl ⟨by kernel_rfl, fun w' hS' => by have hd := hS'.2; go_simp⟩) hHeld ?_
    (try simp only [Act.put, List.setIfInBounds_toArray, List.set_cons_zero, List.set_cons_succ])
    have HOk : Hid (Own w5 v.heap.size (.slice xa xn xq) (d.getD k bl0).2.2.1) := by
      have := (HOd.out.x.2.2 k hkd).2.1
      rw [HXr.out] at this
      exact this
    have hxn : xn ≤ 24 := by have := HOk.out.len; have := (HDL.out k hkd).2.1; omega
    refine wpAnyL_ready (rs := [10]) (by kernel_rfl) (by simp) ?_
    refine AllReadyL.cons rfl (fun K hK => ?_) AllReadyL.nil
    go_simp
    go_at_call 55
    refine (l71Bad_fo B g (p + 1 + 1) v.heap.size xa xn xq _ _ HRd.out (by omega) HOk.out (by omega) (by omega) hxn).mono ?_
    rintro e w6 ⟨vv, tx, q6, rfl, hO6, hl6, hr6, hq6, hf6, -⟩
    obtain ⟨pa, pc, rfl⟩ := Own.shapeN hO6 rfl
    obtain ⟨pn, hpn⟩ : ∃ pn, tx.length = pn := ⟨_, rfl⟩
    have HL6 : Hid (tx.length ≤ 25) := hl6
    rw [hpn] at hO6 ⊢
    have hf6' : Fo g (sl3V (rbs.getD k rb0).2.2.1).ownBlock w5 w6 := by rw [HXr.out]; exact hf6
    have s6 := hf6.size
    have HT6 : Hid (RowAt w6 w.heap.size #[.slice (some ⟨gq, 0, none⟩) n cl] 25) := (hf6.block w.heap.size HTd.out.lt (by omega) (fun e => rowAt_ne HTd.out HOk.out.row (by decide) e.symm)).trans HTd.out
    have HZ6 : Hid (RowAt w6 (w.heap.size + 1) #[.slice none 0 0] 25) := (hf6.block (w.heap.size + 1) HZd.out.lt (by omega) (fun e => rowAt_ne HZd.out HOk.out.row (by decide) e.symm)).trans HZd.out
    have HOR : Hid (w6.ownsRow v.heap.size 39 6 (.slice (some ⟨gq, 0, none⟩) n cl) rbs.length (flat6 rbs)) := own_fo HOd.out.1 hf6 (by omega) (fun b hb e => own_kinds HOd.out.1 HOk.out (by decide) b e hb)
    have HFo : Hid (Fo g (sl3V (rbs.getD k rb0).2.2.1).ownBlock w5 w6) := hf6'
    have HF6 : Hid (Fr w.heap.size g w w6) := HFd.out.trans (hf6.fr (by omega) (fun b hb => by have := (own_lt HOk.out.row hb).1; omega))
    have HR6 : Hid (Rd B w6 g q6) := hr6
    have HO6 : Hid (Own w6 v.heap.size (sl3V (pa, pn, pc)) tx) := hO6
    have x6 := HXC.out _ HOR.out
    have fz6 : w6.frozen? ⟨gq, k * 6 + 2, none⟩ = false := by
      have h1 := HOR.out
      have h2 := HOd.out.2.2.1
      rw [h2, ← HN.out] at h1
      exact h1.frozenAt (k * 6 + 2)
    clear hr6 hf6 hf6' hO6 hl6 hHeld hpn
    go_wp2_with fail
    refine hK.out _ _ (fun _ => ⟨HT6.out, x6⟩) (fun hHeld => ?_)
    replace hHeld := hHeld (by decide)
    clear hK K 
    (try simp only [Act.put, List.setIfInBounds_toArray, List.set_cons_zero, List.set_cons_succ])
    refine takeL 11 58 (.pointer (some ⟨gq, k * 6, none⟩)) rfl rfl (by kernel_rfl) (by kernel_rfl) (by kernel_rfl) (by kernel_rfl) (by kernel_rfl) (fun _ _ _ h => h) (Or.inl ⟨by kernel_rfl, fun w' hS' => by go_simp⟩) hHeld ?_
    (try simp only [Act.put, List.setIfInBounds_toArray, List.set_cons_zero, List.set_cons_succ])
    refine takeL 12 59 (.pointer (some ⟨gq, k * 6 + 2, none⟩)) rfl rfl (by kernel_rfl) (by kernel_rfl) (by kernel_rfl) (by kernel_rfl) (by kernel_rfl) (fun _ _ _ h => h) (Or.inl ⟨by kernel_rfl, fun w' hS' => by go_simp⟩) hHeld ?_
    (try simp only [Act.put, List.setIfInBounds_toArray, List.set_cons_zero, List.set_cons_succ])
    refine wpAnyL_ready (rs := [13]) (by kernel_rfl) (by simp) ?_
    refine AllReadyL.cons rfl (fun K hK => ?_) AllReadyL.nil
    go_simp
    refine hK.out _ _ (fun h => absurd rfl h) (fun _ => ?_)
    clear hK K
    (try simp only [Act.put, List.setIfInBounds_toArray, List.set_cons_zero, List.set_cons_succ])
    refine wpAnyL_done (by kernel_rfl) ?_ _
    refine NoPanic.normal ?_
    have HTe : Hid (RowAt (w6.setCell ⟨gq, k * 6 + 2, none⟩ (.slice pa pn pc)) w.heap.size #[.slice (some ⟨gq, 0, none⟩) n cl] 25) := HT6.out.other ⟨gq, k * 6 + 2, none⟩ _ (by show w.heap.size ≠ gq; omega)
    have HOe : Hid (DocX (w6.setCell ⟨gq, k * 6 + 2, none⟩ (.slice pa pn pc)) v.heap.size (.slice (some ⟨gq, 0, none⟩) n cl) (rbs.set k ((rbs.getD k rb0).1, (rbs.getD k rb0).2.1, (pa, pn, pc), (rbs.getD k rb0).2.2.2)) (d.set k ((d.getD k bl0).1, (d.getD k bl0).2.1, tx, (d.getD k bl0).2.2.2))) := docX_bad HOd.out k hkd HFo.out (by omega) (pa, pn, pc) tx HO6.out
    have HZe : Hid (RowAt (w6.setCell ⟨gq, k * 6 + 2, none⟩ (.slice pa pn pc)) (w.heap.size + 1) #[.slice none 0 0] 25) := HZ6.out.other ⟨gq, k * 6 + 2, none⟩ _ (by show w.heap.size + 1 ≠ gq; omega)
    have HRe : Hid (Rd B (w6.setCell ⟨gq, k * 6 + 2, none⟩ (.slice pa pn pc)) g (q6)) := HR6.out.setCell (by show g < gq; omega) _
    have HFe : Hid (Fr w.heap.size g w (w6.setCell ⟨gq, k * 6 + 2, none⟩ (.slice pa pn pc))) := HF6.out.setCell (p := ⟨gq, k * 6 + 2, none⟩) (by show w.heap.size ≤ gq; omega) _
    clear x6 fz6 HT6 HOR HZ6 HF6 HR6 HO6 HFo HOd HTd HZd HFd HRd
    generalize (w6.setCell ⟨gq, k * 6 + 2, none⟩ (.slice pa pn pc)) = w9 at HTe HOe HZe HRe HFe ⊢
    have te : w9.cell? ⟨w.heap.size, 0, none⟩ = some (.slice (some ⟨gq, 0, none⟩) n cl) := HTe.out.cell 0
    go_wp2_with (refine wpList_store_row rfl 25 (.tmp 4) (.tmp 95) rfl (w.heap.size + 1) #[.slice (some ⟨gq, 0, none⟩) n cl] rfl rfl 25 _ HZe.out drdoc_info rfl (drcells1_one _ _ _) ?_)
    have bT : Below (w.heap.size + 1) w9 (w9.setRow (w.heap.size + 1) #[.slice (some ⟨gq, 0, none⟩) n cl]) := below_row (Below.refl _ _) (Nat.le_refl _) _
    refine bodyPost_ret (v := .agg #[.slice (some ⟨gq, 0, none⟩) n cl]) (results_cell_row (p := 4) (ty := 25) rfl _ _ (w.heap.size + 1) 25 _ _ _ rfl (RowAt.setRow HZe.out _) Try.underlying25 rfl drdoc_info) rfl (drRes_mk (d' := (d.set k ((d.getD k bl0).1, (d.getD k bl0).2.1, tx, (d.getD k bl0).2.2.2))) (q := q6) ⟨_, (docX_row HOe.out HZe.out _).less (by omega)⟩ (HSP.out.set k _ ⟨(HSP.out.at k).1, HL6.out, (HSP.out.at k).2.2⟩) (HRe.out.below bT (by omega)) (by omega) (HFe.out.below (bT.mono (by omega))))
  · go_upto_region 12 with fail
    have fd : Fr w4.heap.size g w4 w4.drew := (Fr.refl _ _ _).below ((Below.refl _ _).drew)
    have HTd : Hid (RowAt w4.drew w.heap.size #[.slice (some ⟨gq, 0, none⟩) n cl] 25) := HT4.out
    have HRd : Hid (Rd B w4.drew g (p + 1 + 1)) := HR4.out.below ((Below.refl _ _).drew) HR4.out.lt
    have HOd : Hid (DocOwn w4.drew v.heap.size E (.slice (some ⟨gq, 0, none⟩) n cl) rbs d) := HO4.out.mid (fun b _ _ => rfl)
    have HZd : Hid (RowAt w4.drew (w.heap.size + 1) #[.slice none 0 0] 25) := HZ4.out
    have HFd : Hid (Fr w.heap.size g w w4.drew) := HF4.out.trans (fd.mono (by omega))
    have sd : w4.heap.size = w4.drew.heap.size := rfl
    refine wp_region_noPanic ?_
    refine wp_region_L (fun w' => RowAt w' w.heap.size #[.slice (some ⟨gq, 0, none⟩) n cl] 25) 7 (by kernel_rfl) (HTd.out) (fun hHeld => ?_)
    generalize w4.drew = w5 at HTd HRd HOd HZd HFd sd hHeld ⊢
    clear fd HT4 HO4 HZ4 HF4 HR4 t2
    refine takeL 0 62 (.pointer (some ⟨w.heap.size, 0, none⟩)) rfl rfl (by kernel_rfl) (by kernel_rfl) (by kernel_rfl) (by kernel_rfl) (by kernel_rfl) (fun _ _ _ h => h) (Or.inl ⟨by kernel_rfl, fun w' hS' => by go_simp⟩) hHeld ?_
    (try simp only [Act.put, List.setIfInBounds_toArray, List.set_cons_zero, List.set_cons_succ])
    refine takeL 1 63 (.slice (some ⟨gq, 0, none⟩) n cl) rfl rfl (by kernel_rfl) (by kernel_rfl) (by kernel_rfl) (by kernel_rfl) (by kernel_rfl) (fun _ _ _ h => h) (Or.inl ⟨by kernel_rfl, fun w' hS' => by have hc := RowAt.cell hS' 0; simp at hc; go_simp⟩) hHeld ?_
    (try simp only [Act.put, List.setIfInBounds_toArray, List.set_cons_zero, List.set_cons_succ])
    refine takeL 2 64 (.int .i64 k) rfl rfl (by kernel_rfl) (by kernel_rfl) (by kernel_rfl) (by kernel_rfl) (by kernel_rfl) (fun _ _ _ h => h) (Or.inl ⟨by kernel_rfl, fun w' hS' => by go_simp⟩) hHeld ?_
    (try simp only [Act.put, List.setIfInBounds_toArray, List.set_cons_zero, List.set_cons_succ])
    refine takeL 3 65 (.pointer (some ⟨g, 0, none⟩)) rfl rfl (by kernel_rfl) (by kernel_rfl) (by kernel_rfl) (by kernel_rfl) (by kernel_rfl) (fun _ _ _ h => h) (Or.inl ⟨by kernel_rfl, fun w' hS' => by go_simp⟩) hHeld ?_
    (try simp only [Act.put, List.setIfInBounds_toArray, List.set_cons_zero, List.set_cons_succ])
    refine wpAnyL_ready (rs := [4]) (by kernel_rfl) (by simp) ?_
    refine AllReadyL.cons rfl (fun K hK => ?_) AllReadyL.nil
    go_simp
    go_at_call 56
    refine (l71Table_any B g (p + 1 + 1) _ HRd.out (by omega)).mono ?_
    rintro e w6 ⟨R, C, xa, xn, xc, rs, l, q, rfl, hO6, hS6, hr6, hq6, hf6⟩
    have s6 := hf6.size
    have HT6 : Hid (RowAt w6 w.heap.size #[.slice (some ⟨gq, 0, none⟩) n cl] 25) := HTd.out.fr hf6 (by omega)
    have HZ6 : Hid (RowAt w6 (w.heap.size + 1) #[.slice none 0 0] 25) := HZd.out.fr hf6 (by omega)
    have HX6 : Hid (DocX w6 v.heap.size (.slice (some ⟨gq, 0, none⟩) n cl) rbs d) := HOd.out.x.fr hf6 (by omega)
    have HF6 : Hid (Fr w.heap.size g w w6) := HFd.out.trans (hf6.mono (by omega))
    have HR6 : Hid (Rd B w6 g q) := hr6
    have HT : Hid (OwnT w6 v.heap.size (sl3V (xa, xn, xc)) rs l) := hO6.less (by omega)
    have HS : Hid (TabSm R C l) := hS6
    clear hr6 hf6 hO6 hS6 HTd HZd HOd HFd HRd
    go_wp2_with fail
    refine hK.out _ _ (fun _ => HT6.out) (fun hHeld => ?_)
    replace hHeld := hHeld (by decide)
    clear hK K
    (try simp only [Act.put, List.setIfInBounds_toArray, List.set_cons_zero, List.set_cons_succ])
    obtain ⟨-, fz4, hgB, hgl⟩ := docX_at HX6.out (i := k) hkn
    refine takeL 5 67 (.pointer (some ⟨gq, k * 6, none⟩)) rfl rfl (by kernel_rfl) (by kernel_rfl) (by kernel_rfl) (by kernel_rfl) (by kernel_rfl) (fun _ _ _ h => h) (Or.inl ⟨by kernel_rfl, fun w' hS' => by go_simp⟩) hHeld ?_
    (try simp only [Act.put, List.setIfInBounds_toArray, List.set_cons_zero, List.set_cons_succ])
    refine takeL 6 68 (.pointer (some ⟨gq, k * 6 + 3, none⟩)) rfl rfl (by kernel_rfl) (by kernel_rfl) (by kernel_rfl) (by kernel_rfl) (by kernel_rfl) (fun _ _ _ h => h) (Or.inl ⟨by kernel_rfl, fun w' hS' => by go_simp⟩) hHeld ?_
    (try simp only [Act.put, List.setIfInBounds_toArray, List.set_cons_zero, List.set_cons_succ])
    refine wpAnyL_ready (rs := [7]) (by kernel_rfl) (by simp) ?_
    refine AllReadyL.cons rfl (fun K hK => ?_) AllReadyL.nil
    rw [if_pos (by kernel_rfl)]
    refine wp_store_mid 37 (.tmp 68) (.tmp 66) rfl gq (k * 6 + 3) #[.int .i64 (R : Int), .int .i64 (C : Int), .slice xa xn xc] rfl rfl ?_ tab_info (by simp [Value.oneCell']) ?_
    · exact docX_there HX6.out hkn
    refine hK.out _ _ (fun h => absurd rfl h) (fun _ => ?_)
    clear hK K
    (try simp only [Act.put, List.setIfInBounds_toArray])
    refine wpAnyL_done (by kernel_rfl) ?_ _
    refine NoPanic.normal ?_
    have HTe : Hid (RowAt (w6.setCells gq (k * 6 + 3) [.int .i64 (R : Int), .int .i64 (C : Int), .slice xa xn xc]) w.heap.size #[.slice (some ⟨gq, 0, none⟩) n cl] 25) := by
      show RowAt (((w6.setCell _ _).setCell _ _).setCell _ _) _ _ _
      exact (((HT6.out.other ⟨gq, k * 6 + 3, none⟩ _ (by show w.heap.size ≠ gq; omega)).other ⟨gq, k * 6 + 3 + 1, none⟩ _ (by show w.heap.size ≠ gq; omega)).other ⟨gq, k * 6 + 3 + 2, none⟩ _ (by show w.heap.size ≠ gq; omega))
    have HOe : Hid (DocX (w6.setCells gq (k * 6 + 3) [.int .i64 (R : Int), .int .i64 (C : Int), .slice xa xn xc]) v.heap.size (.slice (some ⟨gq, 0, none⟩) n cl) (rbs.set k ((rbs.getD k rb0).1, (rbs.getD k rb0).2.1, (rbs.getD k rb0).2.2.1, (R : Int), (C : Int), (xa, xn, xc))) (d.set k ((d.getD k bl0).1, (d.getD k bl0).2.1, (d.getD k bl0).2.2.1, (R : Int), (C : Int), l))) := docX_table HX6.out k hkd R C (xa, xn, xc) rs l HT.out
    have HZe : Hid (RowAt (w6.setCells gq (k * 6 + 3) [.int .i64 (R : Int), .int .i64 (C : Int), .slice xa xn xc]) (w.heap.size + 1) #[.slice none 0 0] 25) := by
      show RowAt (((w6.setCell _ _).setCell _ _).setCell _ _) _ _ _
      exact (((HZ6.out.other ⟨gq, k * 6 + 3, none⟩ _ (by show w.heap.size + 1 ≠ gq; omega)).other ⟨gq, k * 6 + 3 + 1, none⟩ _ (by show w.heap.size + 1 ≠ gq; omega)).other ⟨gq, k * 6 + 3 + 2, none⟩ _ (by show w.heap.size + 1 ≠ gq; omega))
    have HRe : Hid (Rd B (w6.setCells gq (k * 6 + 3) [.int .i64 (R : Int), .int .i64 (C : Int), .slice xa xn xc]) g (q)) := by
      show Rd B (((w6.setCell _ _).setCell _ _).setCell _ _) g q
      exact ((HR6.out.setCell (by show g < gq; omega) _).setCell (by show g < gq; omega) _).setCell (by show g < gq; omega) _
    have HFe : Hid (Fr w.heap.size g w (w6.setCells gq (k * 6 + 3) [.int .i64 (R : Int), .int .i64 (C : Int), .slice xa xn xc])) := by
      show Fr w.heap.size g w (((w6.setCell _ _).setCell _ _).setCell _ _)
      exact ((HF6.out.setCell (by show w.heap.size ≤ gq; omega) _).setCell (by show w.heap.size ≤ gq; omega) _).setCell (by show w.heap.size ≤ gq; omega) _
    clear HT6 HZ6 HX6 HF6 HR6
    generalize (w6.setCells gq (k * 6 + 3) [.int .i64 (R : Int), .int .i64 (C : Int), .slice xa xn xc]) = w9 at HTe HOe HZe HRe HFe ⊢
    have te : w9.cell? ⟨w.heap.size, 0, none⟩ = some (.slice (some ⟨gq, 0, none⟩) n cl) := HTe.out.cell 0
    go_wp2_with (refine wpList_store_row rfl 25 (.tmp 4) (.tmp 95) rfl (w.heap.size + 1) #[.slice (some ⟨gq, 0, none⟩) n cl] rfl rfl 25 _ HZe.out drdoc_info rfl (drcells1_one _ _ _) ?_)
    have bT : Below (w.heap.size + 1) w9 (w9.setRow (w.heap.size + 1) #[.slice (some ⟨gq, 0, none⟩) n cl]) := below_row (Below.refl _ _) (Nat.le_refl _) _
    refine bodyPost_ret (v := .agg #[.slice (some ⟨gq, 0, none⟩) n cl]) (results_cell_row (p := 4) (ty := 25) rfl _ _ (w.heap.size + 1) 25 _ _ _ rfl (RowAt.setRow HZe.out _) Try.underlying25 rfl drdoc_info) rfl (drRes_mk (d' := (d.set k ((d.getD k bl0).1, (d.getD k bl0).2.1, (d.getD k bl0).2.2.1, (R : Int), (C : Int), l))) (q := q) ⟨_, (docX_row HOe.out HZe.out _).less (by omega)⟩ (HSP.out.set k ((d.getD k bl0).1, (d.getD k bl0).2.1, (d.getD k bl0).2.2.1, (R : Int), (C : Int), l) ⟨(HSP.out.at k).1, (HSP.out.at k).2.1, HS.out.2.2.1.2, HS.out.2.2.2⟩) (HRe.out.below bT (by omega)) (by omega) (HFe.out.below (bT.mono (by omega))))
  · go_wp2_with fail
    go_loopw [] (fun wr => ∃ (oa : Option Addr) (m oc q : Nat) (rbs' : List Rb) (d' : List Bl), True ∧ 1 ≤ m ∧ m ≤ 9 ∧ m = d'.length ∧ q + (9 - m) ≤ p + 12 ∧ v.heap.size ≤ wr.heap.size ∧ wr.cell? ⟨w.heap.size, 0, none⟩ = some (.slice oa m oc) ∧ RowAt wr w.heap.size #[.slice oa m oc] 25 ∧ RowAt wr (w.heap.size + 1) #[.slice none 0 0] 25 ∧ DocX wr v.heap.size (.slice oa m oc) rbs' d' ∧ (∀ x ∈ d', BlSp x) ∧ Rd B wr g q ∧ Fr w.heap.size g w wr) (fun wr => 10 - lenC wr w.heap.size)
    case atStart => exact ⟨some ⟨gq, 0, none⟩, n, cl, p + 1 + 1, rbs, d, trivial, by omega, by omega, HN.out, by omega, by omega, t2, HT4.out, HZ4.out, HO4.out.x, HSP.out.2, HR4.out, HF4.out⟩
    case round =>
      obtain ⟨oa, m, oc, q, rbs', d', -, hm1, hm9, hml, hq, hvs, t5, hG, hZ, hX, hsp, hr, hF⟩ := hrel
      have hc1 := hX.dc.2.1
      have hc2 := hX.dc.2.2.1
      unfold maxLen at hc2
      have HLM : Hid (lenC wr w.heap.size = m) := by show lenC wr w.heap.size = m; unfold lenC; rw [t5]
      have HML : Hid (m = d'.length) := hml
      have HG : Hid (RowAt wr w.heap.size #[.slice oa m oc] 25) := hG
      have HZ : Hid (RowAt wr (w.heap.size + 1) #[.slice none 0 0] 25) := hZ
      have HX : Hid (DocX wr v.heap.size (.slice oa m oc) rbs' d') := hX
      have HS : Hid (∀ x ∈ d', BlSp x) := hsp
      have HR : Hid (Rd B wr g q) := hr
      have HF : Hid (Fr w.heap.size g w wr) := hF
      clear hG hZ hX hsp hr hF hml t5 t2 HT4 HO4 HZ4 HF4 HR4
      go_upto_region 14 with fail
      have fd : Fr wr.heap.size g wr wr.drew := (Fr.refl _ _ _).below ((Below.refl _ _).drew)
      have HGd : Hid (RowAt wr.drew w.heap.size #[.slice oa m oc] 25) := HG.out
      have HRd : Hid (Rd B wr.drew g q) := HR.out.below ((Below.refl _ _).drew) HR.out.lt
      have HXd : Hid (DocX wr.drew v.heap.size (.slice oa m oc) rbs' d') := HX.out.fr fd (by omega)
      have HZd : Hid (RowAt wr.drew (w.heap.size + 1) #[.slice none 0 0] 25) := HZ.out
      have HFd : Hid (Fr w.heap.size g w wr.drew) := HF.out.trans (fd.mono (by omega))
      have sd : wr.heap.size = wr.drew.heap.size := rfl
      refine wp_region_noPanic ?_
      refine wp_region_held_drew (S := fun w' => RowAt w' w.heap.size #[.slice oa m oc] 25) (by kernel_rfl) HGd.out (fun hHeld => ?_)
      generalize wr.drew = w5 at HGd HRd HXd HZd HFd sd hHeld ⊢
      clear fd HG HX HZ HF HR
      refine take_at 0 71 (.pointer (some ⟨w.heap.size, 0, none⟩)) rfl rfl (by kernel_rfl) (by kernel_rfl) (by kernel_rfl) (fun _ _ _ h => h) (Or.inl ⟨by kernel_rfl, fun w' hS' => by go_simp⟩) hHeld ?_
      (try simp only [Act.put, List.setIfInBounds_toArray, List.set_cons_zero, List.set_cons_succ])
      refine take_at 1 72 (.slice oa m oc) rfl rfl (by kernel_rfl) (by kernel_rfl) (by kernel_rfl) (fun _ _ _ h => h) (Or.inl ⟨by kernel_rfl, fun w' hS' => by have hc := RowAt.cell hS' 0; simp at hc; go_simp⟩) hHeld ?_
      (try simp only [Act.put, List.setIfInBounds_toArray, List.set_cons_zero, List.set_cons_succ])
      refine take_at 2 73 (.int .i64 (m : Int)) rfl rfl (by kernel_rfl) (by kernel_rfl) (by kernel_rfl) (fun _ _ _ h => h) (Or.inl ⟨by kernel_rfl, fun w' hS' => by go_simp⟩) hHeld ?_
      (try simp only [Act.put, List.setIfInBounds_toArray, List.set_cons_zero, List.set_cons_succ])
      refine take_at 3 74 (.pointer (some ⟨g, 0, none⟩)) rfl rfl (by kernel_rfl) (by kernel_rfl) (by kernel_rfl) (fun _ _ _ h => h) (Or.inl ⟨by kernel_rfl, fun w' hS' => by go_simp⟩) hHeld ?_
      (try simp only [Act.put, List.setIfInBounds_toArray, List.set_cons_zero, List.set_cons_succ])
      refine wpAnyH_ready (rs := [4]) (by kernel_rfl) (by simp) ?_
      refine AllReadyH.cons rfl (fun K hK => ?_) AllReadyH.nil
      go_simp
      go_at_call 25
      refine (pick_any B g q _ _ HRd.out (by omega) (by omega) (by omega)).mono ?_
      rintro e w6 ⟨y, rfl, hy0, hy1, hr6, hg6⟩
      have hf6 := fr_grown hg6
      have s6 := hf6.size
      have HG6 : Hid (RowAt w6 w.heap.size #[.slice oa m oc] 25) := HGd.out.fr hf6 (by omega)
      have HZ6 : Hid (RowAt w6 (w.heap.size + 1) #[.slice none 0 0] 25) := HZd.out.fr hf6 (by omega)
      have HX6 : Hid (DocX w6 v.heap.size (.slice oa m oc) rbs' d') := HXd.out.fr hf6 (by omega)
      have HF6 : Hid (Fr w.heap.size g w w6) := HFd.out.trans (hf6.mono (by omega))
      have HR6 : Hid (Rd B w6 g (q + 1)) := hr6
      clear hr6 hg6 hf6 HGd HZd HXd HFd HRd
      go_wp2_with fail
      refine hK.out _ _ (HG6.out) (fun hHeld => ?_)
      clear hK K
      (try simp only [Act.put, List.setIfInBounds_toArray, List.set_cons_zero, List.set_cons_succ])
      refine take_at 5 76 (.int .i64 (8 + y)) rfl rfl (by kernel_rfl) (by kernel_rfl) (by kernel_rfl) (fun _ _ _ h => h) (Or.inl ⟨by kernel_rfl, fun w' hS' => by go_simp; rw [IntKind.wrap_i64]; omega⟩) hHeld ?_
      (try simp only [Act.put, List.setIfInBounds_toArray, List.set_cons_zero, List.set_cons_succ])
      refine take_at 6 77 (.bool (decide ((m : Int) < 8 + y))) rfl rfl (by kernel_rfl) (by kernel_rfl) (by kernel_rfl) (fun _ _ _ h => h) (Or.inl ⟨by kernel_rfl, fun w' hS' => by go_simp⟩) hHeld ?_
      (try simp only [Act.put, List.setIfInBounds_toArray, List.set_cons_zero, List.set_cons_succ])
      refine wpAnyH_done (by kernel_rfl) ?_ _
      refine NoPanic.normal ?_
      by_cases hgo : (m : Int) < 8 + y
      · have hgd : decide ((m : Int) < 8 + y) = true := decide_eq_true hgo
        have d6 := RowAt.cell HG6.out 0
        simp at d6
        have f6 := RowAt.frozen HG6.out 0
        have hrw : w6.ownsRow v.heap.size 39 6 (.slice oa m oc) m (flat6 rbs') := by
          have h1 := HX6.out.1
          have h2 := HX6.out.2.1
          have h3 := HX6.out.len
          rw [h2, ← h3] at h1
          exact h1
        have HRW : Hid (w6.ownsRow v.heap.size 39 6 (.slice oa m oc) m (flat6 rbs')) := hrw
        clear hrw
        rw [hgd]
        go_wp2_with (at_builtin; refine wpList_append_own _ rfl (.tmp 79) (.tmp 81) 23 rfl v.heap.size 39 i0 _ 6 80 Try.underlying23 hi0 hz0 hz1 hz2 rfl (by decide) (.slice oa m oc) m (flat6 rbs') rfl (World.ownsRow.alloc HRW.out _) ⟨w6.heap.size, 0, none⟩ 1 1 [.int .i64 1, .int .i64 0, .slice none 0 0, .int .i64 0, .int .i64 0, .slice none 0 0] rfl rfl (cellsX_new _ _ _ _ _ _ _ _) (rbX_one rbP) (by unfold maxLen; omega) (by omega) (by simp; omega) ?_; intro v' w8 hown hgrow _; obtain ⟨oa', oc', HX8, rfl, HG8, HZ8, HR8, HF8, s8, c8, z8⟩ := case4_step HX6.out HML.out HG6.out HZ6.out HR6.out HF6.out hown hgrow (by omega) (by omega) (by omega) trivial)
        go_roundw
        case rel =>
          refine ⟨oa', m + 1, oc', q + 1, rbs' ++ [rbP], d' ++ [blP], trivial, by omega, by omega, by have := HML.out; simp; omega, by omega, by simp; omega, (HG8.out.setCell 0 _).cell 0, (HG8.out.setCell 0 _), HZ8.out.other _ _ (by simp), docX_other HX8.out HG8.out trivial _ _, ?_, HR8.out.setCell (by show g < w.heap.size; omega) _, HF8.out.setCell (by show w.heap.size ≤ w.heap.size; omega) _⟩
          exact blSp_snoc HS.out
        case measure =>
          have e1 := (HG8.out.setCell 0 (.slice oa' (m + 1) oc')).cell 0
          simp at e1
          have e2 : lenC (w8.setCell ⟨w.heap.size, 0, none⟩ (.slice oa' (m + 1) oc')) w.heap.size = m + 1 := by unfold lenC; rw [e1]
          have e3 := HLM.out
          rw [e2, e3]
          omega
      · have hgd : decide ((m : Int) < 8 + y) = false := decide_eq_false hgo
        rw [hgd]
        have HTe := HG6
        have HOe := HX6
        have HZe := HZ6
        have HRe := HR6
        have HFe := HF6
        clear HG6 HX6 HZ6 HR6 HF6
        have te : w6.cell? ⟨w.heap.size, 0, none⟩ = some (.slice oa m oc) := HTe.out.cell 0
        go_wp2_with (refine wpList_store_row rfl 25 (.tmp 4) (.tmp 95) rfl (w.heap.size + 1) #[.slice oa m oc] rfl rfl 25 _ HZe.out drdoc_info rfl (drcells1_one _ _ _) ?_)
        have bT : Below (w.heap.size + 1) w6 (w6.setRow (w.heap.size + 1) #[.slice oa m oc]) := below_row (Below.refl _ _) (Nat.le_refl _) _
        refine bodyPost_ret (v := .agg #[.slice oa m oc]) (results_cell_row (p := 4) (ty := 25) rfl _ _ (w.heap.size + 1) 25 _ _ _ rfl (RowAt.setRow HZe.out _) Try.underlying25 rfl drdoc_info) rfl (drRes_mk (d' := d') (q := (q + 1)) ⟨_, (docX_row HOe.out HZe.out _).less (by omega)⟩ (⟨by have := HML.out; omega, HS.out⟩) (HRe.out.below bT (by omega)) (by omega) (HFe.out.below (bT.mono (by omega))))
  · go_upto_region 17 with fail
    have fd : Fr w4.heap.size g w4 w4.drew := (Fr.refl _ _ _).below ((Below.refl _ _).drew)
    have HTd : Hid (RowAt w4.drew w.heap.size #[.slice (some ⟨gq, 0, none⟩) n cl] 25) := HT4.out
    have HRd : Hid (Rd B w4.drew g (p + 1 + 1)) := HR4.out.below ((Below.refl _ _).drew) HR4.out.lt
    have HOd : Hid (DocOwn w4.drew v.heap.size E (.slice (some ⟨gq, 0, none⟩) n cl) rbs d) := HO4.out.mid (fun b _ _ => rfl)
    have HZd : Hid (RowAt w4.drew (w.heap.size + 1) #[.slice none 0 0] 25) := HZ4.out
    have HFd : Hid (Fr w.heap.size g w w4.drew) := HF4.out.trans (fd.mono (by omega))
    have sd : w4.heap.size = w4.drew.heap.size := rfl
    refine wp_region_noPanic ?_
    refine wp_region_L (fun w' => RowAt w' w.heap.size #[.slice (some ⟨gq, 0, none⟩) n cl] 25) 9 (by kernel_rfl) (HTd.out) (fun hHeld => ?_)
    generalize w4.drew = w5 at HTd HRd HOd HZd HFd sd hHeld ⊢
    clear fd HT4 HO4 HZ4 HF4 HR4 t2
    refine takeL 0 86 (.pointer (some ⟨g, 0, none⟩)) rfl rfl (by kernel_rfl) (by kernel_rfl) (by kernel_rfl) (by kernel_rfl) (by kernel_rfl) (fun _ _ _ h => h) (Or.inl ⟨by kernel_rfl, fun w' hS' => by go_simp⟩) hHeld ?_
    (try simp only [Act.put, List.setIfInBounds_toArray, List.set_cons_zero, List.set_cons_succ])
    refine takeL 5 91 (.pointer (some ⟨w.heap.size, 0, none⟩)) rfl rfl (by kernel_rfl) (by kernel_rfl) (by kernel_rfl) (by kernel_rfl) (by kernel_rfl) (fun _ _ _ h => h) (Or.inl ⟨by kernel_rfl, fun w' hS' => by go_simp⟩) hHeld ?_
    (try simp only [Act.put, List.setIfInBounds_toArray, List.set_cons_zero, List.set_cons_succ])
    refine takeL 6 92 (.slice (some ⟨gq, 0, none⟩) n cl) rfl rfl (by kernel_rfl) (by kernel_rfl) (by kernel_rfl) (by kernel_rfl) (by kernel_rfl) (fun _ _ _ h => h) (Or.inl ⟨by kernel_rfl, fun w' hS' => by have hc := RowAt.cell hS' 0; simp at hc; go_simp⟩) hHeld ?_
    (try simp only [Act.put, List.setIfInBounds_toArray, List.set_cons_zero, List.set_cons_succ])
    refine wpAnyL_ready (rs := [1]) (by kernel_rfl) (by simp) ?_
    refine AllReadyL.cons rfl (fun K hK => ?_) AllReadyL.nil
    go_simp
    go_at_call 25
    refine (pick_any B g (p + 1 + 1) _ _ HRd.out (by omega) (by omega) (by omega)).mono ?_
    rintro e w6 ⟨y, rfl, hy0, hy1, hr6, hg6⟩
    have hf6 := fr_grown hg6
    have s6 := hf6.size
    have HT6 : Hid (RowAt w6 w.heap.size #[.slice (some ⟨gq, 0, none⟩) n cl] 25) := HTd.out.fr hf6 (by omega)
    have HZ6 : Hid (RowAt w6 (w.heap.size + 1) #[.slice none 0 0] 25) := HZd.out.fr hf6 (by omega)
    have HX6 : Hid (DocX w6 v.heap.size (.slice (some ⟨gq, 0, none⟩) n cl) rbs d) := HOd.out.x.fr hf6 (by omega)
    have HF6 : Hid (Fr w.heap.size g w w6) := HFd.out.trans (hf6.mono (by omega))
    have HR6 : Hid (Rd B w6 g (p + 1 + 1 + 1)) := hr6
    clear hr6 hg6 hf6 HTd HZd HOd HFd HRd
    go_wp2_with fail
    refine hK.out _ _ (fun _ => HT6.out) (fun hHeld => ?_)
    replace hHeld := hHeld (by decide)
    clear hK K
    (try simp only [Act.put, List.setIfInBounds_toArray, List.set_cons_zero, List.set_cons_succ])
    refine takeL 2 88 (.int .i64 (1 + y)) rfl rfl (by kernel_rfl) (by kernel_rfl) (by kernel_rfl) (by kernel_rfl) (by kernel_rfl) (fun _ _ _ h => h) (Or.inl ⟨by kernel_rfl, fun w' hS' => by go_simp; rw [IntKind.wrap_i64]; omega⟩) hHeld ?_
    (try simp only [Act.put, List.setIfInBounds_toArray, List.set_cons_zero, List.set_cons_succ])
    refine takeL 3 89 (.agg #[.int .i64 2, .int .i64 (1 + y), .slice none 0 0, .int .i64 0, .int .i64 0, .slice none 0 0]) rfl rfl (by kernel_rfl) (by kernel_rfl) (by kernel_rfl) (by kernel_rfl) (by kernel_rfl) (fun _ _ _ h => h) (Or.inl ⟨by kernel_rfl, fun w' hS' => by go_simp⟩) hHeld ?_
    (try simp only [Act.put, List.setIfInBounds_toArray, List.set_cons_zero, List.set_cons_succ])
    refine wpAnyL_ready (rs := [4]) (by kernel_rfl) (by simp) ?_
    refine AllReadyL.cons rfl (fun K hK => ?_) AllReadyL.nil
    go_simp
    have HO7 : Hid ((w6.alloc (.cells #[.int .i64 2, .int .i64 (1 + y), .slice none 0 0, .int .i64 0, .int .i64 0, .slice none 0 0] 39)).ownsRow v.heap.size 39 6 (.slice (some ⟨w6.heap.size, 0, none⟩) 1 1) 1 [.int .i64 2, .int .i64 (1 + y), .slice none 0 0, .int .i64 0, .int .i64 0, .slice none 0 0]) := World.ownsRow_lit w6 #[.int .i64 2, .int .i64 (1 + y), .slice none 0 0, .int .i64 0, .int .i64 0, .slice none 0 0] 1 (by omega) (by unfold maxLen; omega) rfl
    have HT7 : Hid (RowAt (w6.alloc (.cells #[.int .i64 2, .int .i64 (1 + y), .slice none 0 0, .int .i64 0, .int .i64 0, .slice none 0 0] 39)) w.heap.size #[.slice (some ⟨gq, 0, none⟩) n cl] 25) := HT6.out.alloc _
    have HZ7 : Hid (RowAt (w6.alloc (.cells #[.int .i64 2, .int .i64 (1 + y), .slice none 0 0, .int .i64 0, .int .i64 0, .slice none 0 0] 39)) (w.heap.size + 1) #[.slice none 0 0] 25) := HZ6.out.alloc _
    have HX7 : Hid (DocX (w6.alloc (.cells #[.int .i64 2, .int .i64 (1 + y), .slice none 0 0, .int .i64 0, .int .i64 0, .slice none 0 0] 39)) v.heap.size (.slice (some ⟨gq, 0, none⟩) n cl) rbs d) := HX6.out.alloc _
    have HR7 : Hid (Rd B (w6.alloc (.cells #[.int .i64 2, .int .i64 (1 + y), .slice none 0 0, .int .i64 0, .int .i64 0, .slice none 0 0] 39)) g (p + 1 + 1 + 1)) := HR6.out.alloc _
    have HF7 : Hid (Fr w.heap.size g w (w6.alloc (.cells #[.int .i64 2, .int .i64 (1 + y), .slice none 0 0, .int .i64 0, .int .i64 0, .slice none 0 0] 39))) := HF6.out.alloc (by omega) _
    have s7 : (w6.alloc (.cells #[.int .i64 2, .int .i64 (1 + y), .slice none 0 0, .int .i64 0, .int .i64 0, .slice none 0 0] 39)).heap.size = w6.heap.size + 1 := by simp
    have hlg := HX6.out.row_lt
    refine hK.out _ _ (fun _ => HT7.out) (fun hHeld => ?_)
    replace hHeld := hHeld (by decide)
    clear hK K HT6 HZ6 HX6 HR6 HF6
    (try simp only [Act.put, List.setIfInBounds_toArray, List.set_cons_zero, List.set_cons_succ])
    generalize (w6.alloc (.cells #[.int .i64 2, .int .i64 (1 + y), .slice none 0 0, .int .i64 0, .int .i64 0, .slice none 0 0] 39)) = w7 at HO7 HT7 HZ7 HX7 HR7 HF7 s7 hHeld ⊢
    refine wpAnyL_ready (rs := [7]) (by kernel_rfl) (by simp) ?_
    refine AllReadyL.cons rfl (fun K hK => ?_) AllReadyL.nil
    rw [if_pos (by kernel_rfl)]
    refine wp_append_own w7 (.tmp 90) (.tmp 92) 23 rfl v.heap.size 39 i0 _ 6 80 Try.underlying23 hi0 hz0 hz1 hz2 rfl (by decide) (.slice (some ⟨w6.heap.size, 0, none⟩) 1 1) 1 [.int .i64 2, .int .i64 (1 + y), .slice none 0 0, .int .i64 0, .int .i64 0, .slice none 0 0] rfl HO7.out ⟨gq, 0, none⟩ n cl (flat6 rbs) rfl (by rw [flat6_length]; have := HX7.out.2.1; have := HN.out; omega) (docX_news HX7.out) (flat6_one _) (by unfold maxLen; omega) (by omega) (by omega) ?_
    intro v' w8 hown hgrow _
    have s8 := hgrow.size
    have hne : ∀ b, (Value.slice (some ⟨w6.heap.size, 0, none⟩) 1 1).ownBlock = some b → b = w6.heap.size := fun b hb => by simp [Value.ownBlock] at hb; exact hb.symm
    have HX8 : Hid (DocX w8 v.heap.size v' ((2, 1 + y, (none, 0, 0), 0, 0, (none, 0, 0)) :: rbs) ((2, 1 + y, [], 0, 0, []) :: d)) := docX_cons HX7.out HN.out (own_rowAts HO7.out) hown hgrow
    have HT8 : Hid (RowAt w8 w.heap.size #[.slice (some ⟨gq, 0, none⟩) n cl] 25) := HT7.out.grown hgrow (fun e => by have := hne _ e; omega)
    have HZ8 : Hid (RowAt w8 (w.heap.size + 1) #[.slice none 0 0] 25) := HZ7.out.grown hgrow (fun e => by have := hne _ e; omega)
    have HR8 : Hid (Rd B w8 g (p + 1 + 1 + 1)) := HR7.out.grownAt hgrow (fun b hb => by have := hne _ hb; omega)
    have HF8 : Hid (Fr w.heap.size g w w8) := HF7.out.grownAt hgrow (by omega) (fun b hb => by have := hne _ hb; omega)
    obtain ⟨oa, oc, rfl⟩ : ∃ a c, v' = .slice a (1 + n) c := by
      obtain ⟨a1, c1, e1⟩ := HX8.out.shape
      refine ⟨a1, c1, ?_⟩
      rw [e1, List.length_cons, ← HN.out, Nat.add_comm]
    refine hK.out _ _ (fun _ => HT8.out) (fun hHeld => ?_)
    replace hHeld := hHeld (by decide)
    clear hK K hown hgrow hne HO7 HT7 HZ7 HX7 HR7 HF7
    (try simp only [Act.put, List.setIfInBounds_toArray])
    refine takeL 8 94 (.pointer (some ⟨w.heap.size, 0, none⟩)) rfl rfl (by kernel_rfl) (by kernel_rfl) (by kernel_rfl) (by kernel_rfl) (by kernel_rfl) (fun _ _ _ h => h) (Or.inl ⟨by kernel_rfl, fun w' hS' => by go_simp⟩) hHeld ?_
    (try simp only [Act.put])
    refine wpAnyL_ready (rs := [9]) (by kernel_rfl) (by simp) ?_
    refine AllReadyL.cons rfl (fun K hK => ?_) AllReadyL.nil
    have d8 := RowAt.cell HT8.out 0
    have f8 := RowAt.frozen HT8.out 0
    simp at d8
    rw [if_pos (by kernel_rfl)]
    go_simp
    refine hK.out _ _ (fun h => absurd rfl h) (fun _ => ?_)
    clear hK K
    (try simp only [Act.put, List.setIfInBounds_toArray, List.set_cons_zero, List.set_cons_succ])
    refine wpAnyL_done (by kernel_rfl) ?_ _
    refine NoPanic.normal ?_
    clear d8 f8
    have HTe : Hid (RowAt (w8.setCell ⟨w.heap.size, 0, none⟩ (.slice oa (1 + n) oc)) w.heap.size #[.slice oa (1 + n) oc] 25) := HT8.out.setCell 0 _
    have HOe : Hid (DocX (w8.setCell ⟨w.heap.size, 0, none⟩ (.slice oa (1 + n) oc)) v.heap.size (.slice oa (1 + n) oc) ((2, 1 + y, (none, 0, 0), 0, 0, (none, 0, 0)) :: rbs) ((2, 1 + y, [], 0, 0, []) :: d)) := docX_other HX8.out HT8.out trivial _ _
    have HZe : Hid (RowAt (w8.setCell ⟨w.heap.size, 0, none⟩ (.slice oa (1 + n) oc)) (w.heap.size + 1) #[.slice none 0 0] 25) := HZ8.out.other _ _ (by simp)
    have HRe : Hid (Rd B (w8.setCell ⟨w.heap.size, 0, none⟩ (.slice oa (1 + n) oc)) g (p + 1 + 1 + 1)) := HR8.out.setCell (by show g < w.heap.size; omega) _
    have HFe : Hid (Fr w.heap.size g w (w8.setCell ⟨w.heap.size, 0, none⟩ (.slice oa (1 + n) oc))) := HF8.out.setCell (by show w.heap.size ≤ w.heap.size; omega) _
    clear HT8 HZ8 HX8 HF8 HR8
    generalize (w8.setCell ⟨w.heap.size, 0, none⟩ (.slice oa (1 + n) oc)) = w9 at HTe HOe HZe HRe HFe ⊢
    have te : w9.cell? ⟨w.heap.size, 0, none⟩ = some (.slice oa (1 + n) oc) := HTe.out.cell 0
    go_wp2_with (refine wpList_store_row rfl 25 (.tmp 4) (.tmp 95) rfl (w.heap.size + 1) #[.slice oa (1 + n) oc] rfl rfl 25 _ HZe.out drdoc_info rfl (drcells1_one _ _ _) ?_)
    have bT : Below (w.heap.size + 1) w9 (w9.setRow (w.heap.size + 1) #[.slice oa (1 + n) oc]) := below_row (Below.refl _ _) (Nat.le_refl _) _
    refine bodyPost_ret (v := .agg #[.slice oa (1 + n) oc]) (results_cell_row (p := 4) (ty := 25) rfl _ _ (w.heap.size + 1) 25 _ _ _ rfl (RowAt.setRow HZe.out _) Try.underlying25 rfl drdoc_info) rfl (drRes_mk (d' := ((2, 1 + y, [], 0, 0, []) :: d)) (q := (p + 1 + 1 + 1)) ⟨_, (docX_row HOe.out HZe.out _).less (by omega)⟩ (HSP.out.cons (by have := HN.out; omega) ⟨by show -9 ≤ 1 + y ∧ 1 + y ≤ 9; omega, by simp, by simp, by simp⟩) (HRe.out.below bT (by omega)) (by omega) (HFe.out.below (bT.mono (by omega))))
  · go_upto_region 4 with fail
    obtain ⟨M, hM⟩ : ∃ M, n - (k + 1) = M := ⟨_, rfl⟩
    have b1 : ((k + 1 : Nat) : Int) ≤ (n : Int) := by omega
    have b2 : (0 : Int) ≤ ((k + 1 : Nat) : Int) := by omega
    have b3 : (n : Int) ≤ (cl : Int) := by omega
    have b4 : (k : Int) ≤ (cl : Int) := by omega
    have HMM : Hid (n - (k + 1) = M) := hM
    by_cases hMp : 0 < M
    · have hM25 : k + M ≤ 25 := by omega
      have hkN2 : k + 1 < n := by omega
      clear hM
      have fd : Fr w4.heap.size g w4 w4.drew := (Fr.refl _ _ _).below ((Below.refl _ _).drew)
      have HTd : Hid (RowAt w4.drew w.heap.size #[.slice (some ⟨gq, 0, none⟩) n cl] 25) := HT4.out
      have HRd : Hid (Rd B w4.drew g (p + 1 + 1)) := HR4.out.below ((Below.refl _ _).drew) HR4.out.lt
      have HOd : Hid (DocOwn w4.drew v.heap.size E (.slice (some ⟨gq, 0, none⟩) n cl) rbs d) := HO4.out.mid (fun b _ _ => rfl)
      have HZd : Hid (RowAt w4.drew (w.heap.size + 1) #[.slice none 0 0] 25) := HZ4.out
      have HFd : Hid (Fr w.heap.size g w w4.drew) := HF4.out.trans (fd.mono (by omega))
      have sd : w4.heap.size = w4.drew.heap.size := rfl
      refine wp_region_noPanic ?_
      refine wp_region_L (fun w' => RowAt w' w.heap.size #[.slice (some ⟨gq, 0, none⟩) n cl] 25) 11 (by kernel_rfl) (HTd.out) (fun hHeld => ?_)
      generalize w4.drew = w5 at HTd HRd HOd HZd HFd sd hHeld ⊢
      clear fd HT4 HO4 HZ4 HF4 HR4 t2
      refine takeL 0 15 (.pointer (some ⟨w.heap.size, 0, none⟩)) rfl rfl (by kernel_rfl) (by kernel_rfl) (by kernel_rfl) (by kernel_rfl) (by kernel_rfl) (fun _ _ _ h => h) (Or.inl ⟨by kernel_rfl, fun w' hS' => by go_simp⟩) hHeld ?_
      (try simp only [Act.put, List.setIfInBounds_toArray, List.set_cons_zero, List.set_cons_succ])
      refine takeL 1 16 (.slice (some ⟨gq, 0, none⟩) n cl) rfl rfl (by kernel_rfl) (by kernel_rfl) (by kernel_rfl) (by kernel_rfl) (by kernel_rfl) (fun _ _ _ h => h) (Or.inl ⟨by kernel_rfl, fun w' hS' => by have hc := RowAt.cell hS' 0; simp at hc; go_simp⟩) hHeld ?_
      (try simp only [Act.put, List.setIfInBounds_toArray, List.set_cons_zero, List.set_cons_succ])
      refine takeL 2 17 (.int .i64 k) rfl rfl (by kernel_rfl) (by kernel_rfl) (by kernel_rfl) (by kernel_rfl) (by kernel_rfl) (fun _ _ _ h => h) (Or.inl ⟨by kernel_rfl, fun w' hS' => by go_simp⟩) hHeld ?_
      (try simp only [Act.put, List.setIfInBounds_toArray, List.set_cons_zero, List.set_cons_succ])
      refine takeL 3 18 (.slice (some ⟨gq, 0, none⟩) k cl) rfl rfl (by kernel_rfl) (by kernel_rfl) (by kernel_rfl) (by kernel_rfl) (by kernel_rfl) (fun _ _ _ h => h) (Or.inl ⟨by kernel_rfl, fun w' hS' => by go_simp⟩) hHeld ?_
      (try simp only [Act.put, List.setIfInBounds_toArray, List.set_cons_zero, List.set_cons_succ])
      refine takeL 4 19 (.pointer (some ⟨w.heap.size, 0, none⟩)) rfl rfl (by kernel_rfl) (by kernel_rfl) (by kernel_rfl) (by kernel_rfl) (by kernel_rfl) (fun _ _ _ h => h) (Or.inl ⟨by kernel_rfl, fun w' hS' => by go_simp⟩) hHeld ?_
      (try simp only [Act.put, List.setIfInBounds_toArray, List.set_cons_zero, List.set_cons_succ])
      refine takeL 5 20 (.slice (some ⟨gq, 0, none⟩) n cl) rfl rfl (by kernel_rfl) (by kernel_rfl) (by kernel_rfl) (by kernel_rfl) (by kernel_rfl) (fun _ _ _ h => h) (Or.inl ⟨by kernel_rfl, fun w' hS' => by have hc := RowAt.cell hS' 0; simp at hc; go_simp⟩) hHeld ?_
      (try simp only [Act.put, List.setIfInBounds_toArray, List.set_cons_zero, List.set_cons_succ])
      refine takeL 6 21 (.int .i64 k) rfl rfl (by kernel_rfl) (by kernel_rfl) (by kernel_rfl) (by kernel_rfl) (by kernel_rfl) (fun _ _ _ h => h) (Or.inl ⟨by kernel_rfl, fun w' hS' => by go_simp⟩) hHeld ?_
      (try simp only [Act.put, List.setIfInBounds_toArray, List.set_cons_zero, List.set_cons_succ])
      refine takeL 7 22 (.int .i64 ((k + 1 : Nat) : Int)) rfl rfl (by kernel_rfl) (by kernel_rfl) (by kernel_rfl) (by kernel_rfl) (by kernel_rfl) (fun _ _ _ h => h) (Or.inl ⟨by kernel_rfl, fun w' hS' => by go_simp; rw [IntKind.wrap_i64]; omega⟩) hHeld ?_
      (try simp only [Act.put, List.setIfInBounds_toArray, List.set_cons_zero, List.set_cons_succ])
      refine takeL 8 23 (.slice (some ⟨gq, (k + 1) * 6, none⟩) M (cl - (k + 1))) rfl rfl (by kernel_rfl) (by kernel_rfl) (by kernel_rfl) (by kernel_rfl) (by kernel_rfl) (fun _ _ _ h => h) (Or.inl ⟨by kernel_rfl, fun w' hS' => by go_simp; rw [if_pos (by omega), if_neg (by omega), HMM.out]⟩) hHeld ?_
      (try simp only [Act.put, List.setIfInBounds_toArray, List.set_cons_zero, List.set_cons_succ])
      refine wpAnyL_ready (rs := [9]) (by kernel_rfl) (by simp) ?_
      refine AllReadyL.cons rfl (fun K hK => ?_) AllReadyL.nil
      refine step_append_liesD _ 24 (by rfl) (by rfl) _ _ _ (by rfl) v.heap.size 39 i0 _ 6 80 Try.underlying23 hi0 hz0 hz1 hz2 rfl (by omega) (.slice (some ⟨gq, 0, none⟩) k cl) k (flat6 (rbs.take k)) (by rfl) (docX_first HOd.out.x hkn) ⟨gq, (k + 1) * 6, none⟩ M (cl - (k + 1)) (flat6 (rbs.drop (k + 1))) (by rfl) (docX_rest HOd.out.x HMM.out).1 (docX_rest HOd.out.x HMM.out).2 (flat6_one _) hMp (by unfold maxLen; omega) (by omega) (by omega) w5.heap.size rfl ?_
      intro gg cc w6 hown6 hgrow6 hat6 hlt6
      have s6 := hgrow6.size
      have hob : ∀ b, (Value.slice (some ⟨gq, 0, none⟩) k cl).ownBlock = some b → b = gq := fun b hb => by simp [Value.ownBlock] at hb; exact hb.symm
      have HT6 : Hid (RowAt w6 w.heap.size #[.slice (some ⟨gq, 0, none⟩) n cl] 25) := RowAt.grown HTd.out hgrow6 (fun e => by have := hob _ e; omega)
      have HZ6 : Hid (RowAt w6 (w.heap.size + 1) #[.slice none 0 0] 25) := RowAt.grown HZd.out hgrow6 (fun e => by have := hob _ e; omega)
      have HF6 : Hid (Fr w.heap.size g w w6) := HFd.out.grownAt hgrow6 (by omega) (fun b hb => by have := hob _ hb; omega)
      have HR6 : Hid (Rd B w6 g (p + 1 + 1)) := HRd.out.grownAt hgrow6 (fun b hb => by have := hob _ hb; omega)
      have HX6 : Hid (DocX w6 v.heap.size (.slice (some ⟨gg, 0, none⟩) (k + M) cc) (rbs.take k ++ rbs.drop (k + 1)) (d.take k ++ d.drop (k + 1))) := docX_del HOd.out.x (kept_grown (own_rowAts (docX_first HOd.out.x hkn)) hgrow6 _ _) k hkd (by
        rw [flat6_append, List.length_append, List.length_take, Nat.min_eq_left (by have := HOd.out.2.2.1; have := HN.out; omega), List.length_drop, show rbs.length - (k + 1) = M by have := HOd.out.2.2.1; have := HN.out; have := HMM.out; omega]
        exact hown6)
      refine hK.out _ _ (fun _ => HT6.out) (fun hHeld => ?_)
      replace hHeld := hHeld (by decide)
      clear hK K hown6 hgrow6 hat6 hob HTd HZd HOd HFd HRd
      (try simp only [Act.put, List.setIfInBounds_toArray, List.set_cons_zero, List.set_cons_succ])
      refine takeL 10 25 (.pointer (some ⟨w.heap.size, 0, none⟩)) rfl rfl (by kernel_rfl) (by kernel_rfl) (by kernel_rfl) (by kernel_rfl) (by kernel_rfl) (fun _ _ _ h => h) (Or.inl ⟨by kernel_rfl, fun w' hS' => by go_simp⟩) hHeld ?_
      (try simp only [Act.put, List.setIfInBounds_toArray, List.set_cons_zero, List.set_cons_succ])
      refine wpAnyL_ready (rs := [11]) (by kernel_rfl) (by simp) ?_
      refine AllReadyL.cons rfl (fun K hK => ?_) AllReadyL.nil
      have d6 := RowAt.cell HT6.out 0
      have f6 := RowAt.frozen HT6.out 0
      simp at d6
      go_simp
      refine hK.out _ _ (fun h => absurd rfl h) (fun _ => ?_)
      clear hK K
      (try simp only [Act.put, List.setIfInBounds_toArray, List.set_cons_zero, List.set_cons_succ])
      refine wpAnyL_done (by kernel_rfl) ?_ _
      refine NoPanic.normal ?_
      clear d6 f6
      have HTe : Hid (RowAt (w6.setCell ⟨w.heap.size, 0, none⟩ (.slice (some ⟨gg, 0, none⟩) (k + M) cc)) w.heap.size #[.slice (some ⟨gg, 0, none⟩) (k + M) cc] 25) := HT6.out.setCell 0 _
      have HOe : Hid (DocX (w6.setCell ⟨w.heap.size, 0, none⟩ (.slice (some ⟨gg, 0, none⟩) (k + M) cc)) v.heap.size (.slice (some ⟨gg, 0, none⟩) (k + M) cc) (rbs.take k ++ rbs.drop (k + 1)) (d.take k ++ d.drop (k + 1))) := docX_other HX6.out HT6.out trivial _ _
      have HZe : Hid (RowAt (w6.setCell ⟨w.heap.size, 0, none⟩ (.slice (some ⟨gg, 0, none⟩) (k + M) cc)) (w.heap.size + 1) #[.slice none 0 0] 25) := HZ6.out.other _ _ (by simp)
      have HRe : Hid (Rd B (w6.setCell ⟨w.heap.size, 0, none⟩ (.slice (some ⟨gg, 0, none⟩) (k + M) cc)) g (p + 1 + 1)) := HR6.out.setCell (by show g < w.heap.size; omega) _
      have HFe : Hid (Fr w.heap.size g w (w6.setCell ⟨w.heap.size, 0, none⟩ (.slice (some ⟨gg, 0, none⟩) (k + M) cc))) := HF6.out.setCell (by show w.heap.size ≤ w.heap.size; omega) _
      clear HT6 HZ6 HX6 HF6 HR6
      generalize (w6.setCell ⟨w.heap.size, 0, none⟩ (.slice (some ⟨gg, 0, none⟩) (k + M) cc)) = w9 at HTe HOe HZe HRe HFe ⊢
      have te : w9.cell? ⟨w.heap.size, 0, none⟩ = some (.slice (some ⟨gg, 0, none⟩) (k + M) cc) := HTe.out.cell 0
      go_wp2_with (refine wpList_store_row rfl 25 (.tmp 4) (.tmp 95) rfl (w.heap.size + 1) #[.slice (some ⟨gg, 0, none⟩) (k + M) cc] rfl rfl 25 _ HZe.out drdoc_info rfl (drcells1_one _ _ _) ?_)
      have bT : Below (w.heap.size + 1) w9 (w9.setRow (w.heap.size + 1) #[.slice (some ⟨gg, 0, none⟩) (k + M) cc]) := below_row (Below.refl _ _) (Nat.le_refl _) _
      refine bodyPost_ret (v := .agg #[.slice (some ⟨gg, 0, none⟩) (k + M) cc]) (results_cell_row (p := 4) (ty := 25) rfl _ _ (w.heap.size + 1) 25 _ _ _ rfl (RowAt.setRow HZe.out _) Try.underlying25 rfl drdoc_info) rfl (drRes_mk (d' := (d.take k ++ d.drop (k + 1))) (q := (p + 1 + 1)) ⟨_, (docX_row HOe.out HZe.out _).less (by omega)⟩ (HSP.out.del k) (HRe.out.below bT (by omega)) (by omega) (HFe.out.below (bT.mono (by omega))))
    · have hM0 : M = 0 := by omega
      subst hM0
      clear hM
      obtain ⟨ax, HAX⟩ : ∃ ax, Hid ((if cl = k + 1 then some (⟨gq, 0, none⟩ : Addr) else some ⟨gq, (k + 1) * 6, none⟩) = ax) := ⟨_, rfl⟩
      obtain ⟨cx, HCX⟩ : ∃ cx, Hid (cl - (k + 1) = cx) := ⟨_, rfl⟩
      have fd : Fr w4.heap.size g w4 w4.drew := (Fr.refl _ _ _).below ((Below.refl _ _).drew)
      have HTd : Hid (RowAt w4.drew w.heap.size #[.slice (some ⟨gq, 0, none⟩) n cl] 25) := HT4.out
      have HRd : Hid (Rd B w4.drew g (p + 1 + 1)) := HR4.out.below ((Below.refl _ _).drew) HR4.out.lt
      have HOd : Hid (DocOwn w4.drew v.heap.size E (.slice (some ⟨gq, 0, none⟩) n cl) rbs d) := HO4.out.mid (fun b _ _ => rfl)
      have HZd : Hid (RowAt w4.drew (w.heap.size + 1) #[.slice none 0 0] 25) := HZ4.out
      have HFd : Hid (Fr w.heap.size g w w4.drew) := HF4.out.trans (fd.mono (by omega))
      have sd : w4.heap.size = w4.drew.heap.size := rfl
      refine wp_region_noPanic ?_
      refine wp_region_L (fun w' => RowAt w' w.heap.size #[.slice (some ⟨gq, 0, none⟩) n cl] 25) 11 (by kernel_rfl) (HTd.out) (fun hHeld => ?_)
      generalize w4.drew = w5 at HTd HRd HOd HZd HFd sd hHeld ⊢
      clear fd HT4 HO4 HZ4 HF4 HR4 t2
      refine takeL 0 15 (.pointer (some ⟨w.heap.size, 0, none⟩)) rfl rfl (by kernel_rfl) (by kernel_rfl) (by kernel_rfl) (by kernel_rfl) (by kernel_rfl) (fun _ _ _ h => h) (Or.inl ⟨by kernel_rfl, fun w' hS' => by go_simp⟩) hHeld ?_
      (try simp only [Act.put, List.setIfInBounds_toArray, List.set_cons_zero, List.set_cons_succ])
      refine takeL 1 16 (.slice (some ⟨gq, 0, none⟩) n cl) rfl rfl (by kernel_rfl) (by kernel_rfl) (by kernel_rfl) (by kernel_rfl) (by kernel_rfl) (fun _ _ _ h => h) (Or.inl ⟨by kernel_rfl, fun w' hS' => by have hc := RowAt.cell hS' 0; simp at hc; go_simp⟩) hHeld ?_
      (try simp only [Act.put, List.setIfInBounds_toArray, List.set_cons_zero, List.set_cons_succ])
      refine takeL 2 17 (.int .i64 k) rfl rfl (by kernel_rfl) (by kernel_rfl) (by kernel_rfl) (by kernel_rfl) (by kernel_rfl) (fun _ _ _ h => h) (Or.inl ⟨by kernel_rfl, fun w' hS' => by go_simp⟩) hHeld ?_
      (try simp only [Act.put, List.setIfInBounds_toArray, List.set_cons_zero, List.set_cons_succ])
      refine takeL 3 18 (.slice (some ⟨gq, 0, none⟩) k cl) rfl rfl (by kernel_rfl) (by kernel_rfl) (by kernel_rfl) (by kernel_rfl) (by kernel_rfl) (fun _ _ _ h => h) (Or.inl ⟨by kernel_rfl, fun w' hS' => by go_simp⟩) hHeld ?_
      (try simp only [Act.put, List.setIfInBounds_toArray, List.set_cons_zero, List.set_cons_succ])
      refine takeL 4 19 (.pointer (some ⟨w.heap.size, 0, none⟩)) rfl rfl (by kernel_rfl) (by kernel_rfl) (by kernel_rfl) (by kernel_rfl) (by kernel_rfl) (fun _ _ _ h => h) (Or.inl ⟨by kernel_rfl, fun w' hS' => by go_simp⟩) hHeld ?_
      (try simp only [Act.put, List.setIfInBounds_toArray, List.set_cons_zero, List.set_cons_succ])
      refine takeL 5 20 (.slice (some ⟨gq, 0, none⟩) n cl) rfl rfl (by kernel_rfl) (by kernel_rfl) (by kernel_rfl) (by kernel_rfl) (by kernel_rfl) (fun _ _ _ h => h) (Or.inl ⟨by kernel_rfl, fun w' hS' => by have hc := RowAt.cell hS' 0; simp at hc; go_simp⟩) hHeld ?_
      (try simp only [Act.put, List.setIfInBounds_toArray, List.set_cons_zero, List.set_cons_succ])
      refine takeL 6 21 (.int .i64 k) rfl rfl (by kernel_rfl) (by kernel_rfl) (by kernel_rfl) (by kernel_rfl) (by kernel_rfl) (fun _ _ _ h => h) (Or.inl ⟨by kernel_rfl, fun w' hS' => by go_simp⟩) hHeld ?_
      (try simp only [Act.put, List.setIfInBounds_toArray, List.set_cons_zero, List.set_cons_succ])
      refine takeL 7 22 (.int .i64 ((k + 1 : Nat) : Int)) rfl rfl (by kernel_rfl) (by kernel_rfl) (by kernel_rfl) (by kernel_rfl) (by kernel_rfl) (fun _ _ _ h => h) (Or.inl ⟨by kernel_rfl, fun w' hS' => by go_simp; rw [IntKind.wrap_i64]; omega⟩) hHeld ?_
      (try simp only [Act.put, List.setIfInBounds_toArray, List.set_cons_zero, List.set_cons_succ])
      refine takeL 8 23 (.slice ax 0 cx) rfl rfl (by kernel_rfl) (by kernel_rfl) (by kernel_rfl) (by kernel_rfl) (by kernel_rfl) (fun _ _ _ h => h) (Or.inl ⟨by kernel_rfl, fun w' hS' => by go_simp; rw [if_pos (by omega), HAX.out, HCX.out, HMM.out]⟩) hHeld ?_
      (try simp only [Act.put, List.setIfInBounds_toArray, List.set_cons_zero, List.set_cons_succ])
      refine wpAnyL_ready (rs := [9]) (by kernel_rfl) (by simp) ?_
      refine AllReadyL.cons rfl (fun K hK => ?_) AllReadyL.nil
      refine step_append_empty (by rfl) _ _ _ (by rfl) v.heap.size 39 i0 6 Try.underlying23 hi0 (.slice (some ⟨gq, 0, none⟩) k cl) k (flat6 (rbs.take k)) (by rfl) (docX_first HOd.out.x hkn) _ _ (by rfl) 24 (by rfl) ?_
      have s6 : w5.heap.size ≤ w5.heap.size := Nat.le_refl _
      have HT6 := HTd
      have HZ6 := HZd
      have HF6 := HFd
      have HR6 := HRd
      have HX6 : Hid (DocX w5 v.heap.size (.slice (some ⟨gq, 0, none⟩) k cl) (rbs.take k ++ rbs.drop (k + 1)) (d.take k ++ d.drop (k + 1))) := docX_del HOd.out.x (fun b cs ty _ _ _ h => h) k hkd (by
        rw [flat6_append, List.length_append, List.length_take, Nat.min_eq_left (by have := HOd.out.2.2.1; have := HN.out; omega), List.length_drop, show rbs.length - (k + 1) = 0 by have := HOd.out.2.2.1; have := HN.out; have := HMM.out; omega, List.drop_eq_nil_of_le (by have := HOd.out.2.2.1; have := HN.out; have := HMM.out; omega)]
        show w5.ownsRow _ _ _ _ _ (flat6 (rbs.take k) ++ [])
        rw [List.append_nil]
        exact docX_first HOd.out.x hkn)
      refine hK.out _ _ (fun _ => HT6.out) (fun hHeld => ?_)
      replace hHeld := hHeld (by decide)
      clear hK K HTd HZd HOd HFd HRd
      (try simp only [Act.put, List.setIfInBounds_toArray, List.set_cons_zero, List.set_cons_succ])
      refine takeL 10 25 (.pointer (some ⟨w.heap.size, 0, none⟩)) rfl rfl (by kernel_rfl) (by kernel_rfl) (by kernel_rfl) (by kernel_rfl) (by kernel_rfl) (fun _ _ _ h => h) (Or.inl ⟨by kernel_rfl, fun w' hS' => by go_simp⟩) hHeld ?_
      (try simp only [Act.put, List.setIfInBounds_toArray, List.set_cons_zero, List.set_cons_succ])
      refine wpAnyL_ready (rs := [11]) (by kernel_rfl) (by simp) ?_
      refine AllReadyL.cons rfl (fun K hK => ?_) AllReadyL.nil
      have d6 := RowAt.cell HT6.out 0
      have f6 := RowAt.frozen HT6.out 0
      simp at d6
      go_simp
      refine hK.out _ _ (fun h => absurd rfl h) (fun _ => ?_)
      clear hK K
      (try simp only [Act.put, List.setIfInBounds_toArray, List.set_cons_zero, List.set_cons_succ])
      refine wpAnyL_done (by kernel_rfl) ?_ _
      refine NoPanic.normal ?_
      clear d6 f6
      have HTe : Hid (RowAt (w5.setCell ⟨w.heap.size, 0, none⟩ (.slice (some ⟨gq, 0, none⟩) k cl)) w.heap.size #[.slice (some ⟨gq, 0, none⟩) k cl] 25) := HT6.out.setCell 0 _
      have HOe : Hid (DocX (w5.setCell ⟨w.heap.size, 0, none⟩ (.slice (some ⟨gq, 0, none⟩) k cl)) v.heap.size (.slice (some ⟨gq, 0, none⟩) k cl) (rbs.take k ++ rbs.drop (k + 1)) (d.take k ++ d.drop (k + 1))) := docX_other HX6.out HT6.out trivial _ _
      have HZe : Hid (RowAt (w5.setCell ⟨w.heap.size, 0, none⟩ (.slice (some ⟨gq, 0, none⟩) k cl)) (w.heap.size + 1) #[.slice none 0 0] 25) := HZ6.out.other _ _ (by simp)
      have HRe : Hid (Rd B (w5.setCell ⟨w.heap.size, 0, none⟩ (.slice (some ⟨gq, 0, none⟩) k cl)) g (p + 1 + 1)) := HR6.out.setCell (by show g < w.heap.size; omega) _
      have HFe : Hid (Fr w.heap.size g w (w5.setCell ⟨w.heap.size, 0, none⟩ (.slice (some ⟨gq, 0, none⟩) k cl))) := HF6.out.setCell (by show w.heap.size ≤ w.heap.size; omega) _
      clear HT6 HZ6 HX6 HF6 HR6
      generalize (w5.setCell ⟨w.heap.size, 0, none⟩ (.slice (some ⟨gq, 0, none⟩) k cl)) = w9 at HTe HOe HZe HRe HFe ⊢
      have te : w9.cell? ⟨w.heap.size, 0, none⟩ = some (.slice (some ⟨gq, 0, none⟩) k cl) := HTe.out.cell 0
      go_wp2_with (refine wpList_store_row rfl 25 (.tmp 4) (.tmp 95) rfl (w.heap.size + 1) #[.slice (some ⟨gq, 0, none⟩) k cl] rfl rfl 25 _ HZe.out drdoc_info rfl (drcells1_one _ _ _) ?_)
      have bT : Below (w.heap.size + 1) w9 (w9.setRow (w.heap.size + 1) #[.slice (some ⟨gq, 0, none⟩) k cl]) := below_row (Below.refl _ _) (Nat.le_refl _) _
      refine bodyPost_ret (v := .agg #[.slice (some ⟨gq, 0, none⟩) k cl]) (results_cell_row (p := 4) (ty := 25) rfl _ _ (w.heap.size + 1) 25 _ _ _ rfl (RowAt.setRow HZe.out _) Try.underlying25 rfl drdoc_info) rfl (drRes_mk (d' := (d.take k ++ d.drop (k + 1))) (q := (p + 1 + 1)) ⟨_, (docX_row HOe.out HZe.out _).less (by omega)⟩ (HSP.out.del k) (HRe.out.below bT (by omega)) (by omega) (HFe.out.below (bT.mono (by omega))))
end Go.Proofs.Ytcecmkideoodiaa
namespace Go.Proofs.Ytcecmkideoodiaa
open Go.RowKit

theorem Byt.belowC {B C : Nat} {w w' : World} {a : Option Addr} {n cap : Nat} {zs : List Int} (h : Byt B w a n cap zs) (hb : Below C w w') (hC : B ≤ C) : Byt B w' a n cap zs := by
  obtain ⟨h1, h2, h3, h4, h5⟩ := h
  refine ⟨h1, h2, h3, h4, ?_⟩
  rcases h5 with h5 | ⟨b, off, e, hlt, hc⟩
  · exact .inl h5
  · exact .inr ⟨b, off, e, hlt, fun i hi => (hb.cell (p := ⟨b, off + i, none⟩) (by show b < C; omega)).trans (hc i hi)⟩
theorem results_cell_tmp2 {fn : Func} {p u u' : Tmp} {ty : TypeId} (h : fn.results = #[.cell p ty, .tmp u, .tmp u']) (tmps : Array Value) (P : Program) (w : World) :
    (results fn tmps).run P w =
      ((asAddr (tmps.getD p undef)).run P w).andThen fun a w₁ => ((loadVar ty a).run P w₁).andThen fun v w₂ => .ok (.tuple #[v, tmps.getD u undef, tmps.getD u' undef]) w₂ := by
  simp only [results, h]
  simp [Sem.run_bind, Result.andThen]
theorem below_of_frG {C g : Nat} {a b : World} (h : Fr a.heap.size g a b) (hC : C ≤ a.heap.size) (hg : C ≤ g) : Below C a b := ⟨h.os, h.tape, h.output, h.size, fun k hk => h.block k (by omega) (by omega)⟩
theorem below_of_fr3 {C g : Nat} {w a b c : World} (h0 : Below C w a) (h1 : Below a.heap.size a b) (h2 : Fr b.heap.size g b c) (hg : C ≤ g) (hC : C ≤ a.heap.size) : Below C w c :=
  (h0.trans (h1.mono hC)).trans (below_of_frG h2 (Nat.le_trans hC h1.size) hg)

end Go.Proofs.Ytcecmkideoodiaa
