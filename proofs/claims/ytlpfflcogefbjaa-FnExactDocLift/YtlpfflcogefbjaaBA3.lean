import Derived.Test.YtlpfflcogefbjaaBA2
namespace Go.Proofs.Ytlpfflcogefbjaa
open Go.RowKit

theorem doc_info : (Try.prog.info? 29).map (·.size) = some 1 := by kernel_rfl
set_option maxRecDepth 100000 in
set_option maxHeartbeats 4000000 in
theorem l3Ahead_is {a : Option Addr} {n cap k : Nat} {d : List Bl} {w : World} {x : Int} (hx : aheadN d k = x) (h : Dc w a n cap d) (hk : k < d.length) :
    Calls Try.prog 31 #[.agg #[.slice a n cap], .int .i64 k] w fun e w' => e = .returned (.int .i64 x) ∧ Below w.heap.size w w' := by
  have HN : Hid (n = d.length) := h.1
  have hkn : k < n := by have := h.1; omega
  have hc := h.2.1
  have hm := h.2.2.1
  unfold maxLen at hm
  rcases h.2.2.2 with e | ⟨b, off, rfl, hb, hcl⟩
  · rw [e] at hk
    exact absurd hk (by simp)
  go_enter Try.func31, Try.ntmps31
  go_upto_region 1 with fail
  have B0 : Below w.heap.size w (w.alloc (.cells #[.slice (some ⟨b, off, none⟩) n cap] 29)) := (Below.refl _ _).alloc (Nat.le_refl _) _
  have q0 : (w.alloc (.cells #[.slice (some ⟨b, off, none⟩) n cap] 29)).cell? ⟨w.heap.size, 0, none⟩ = some (.slice (some ⟨b, off, none⟩) n cap) := by simp
  rcases k with _ | j
  · have hx' : x = -1 := by rw [← hx]; rfl
    clear hx
    subst hx'
    generalize (w.alloc (.cells #[.slice (some ⟨b, off, none⟩) n cap] 29)) = v0 at B0 q0 ⊢
    go_wp2_with fail
    go_ret
    exact ⟨rfl, B0⟩
  · have hj : j < d.length := by omega
    obtain ⟨ta, tn, tc, ca, cn, cc, c0, c1, -⟩ := (hcl j hj).below B0 hb
    have hx' : lvN (d.getD j bl0) = x := by rw [← hx]; rfl
    obtain ⟨K, HK⟩ : ∃ K, Hid ((d.getD j bl0).1 = K) := ⟨_, rfl⟩
    obtain ⟨V, HV⟩ : ∃ K, Hid ((d.getD j bl0).2.1 = K) := ⟨_, rfl⟩
    rw [HK.out] at c0
    rw [HV.out] at c1
    unfold lvN at hx'
    rw [HK.out, HV.out] at hx'
    have HX : Hid ((if K = 2 then V else -1) = x) := hx'
    have hj0 : (0 : Int) ≤ (j : Int) := by omega
    have hj1 : (j : Int) < (n : Int) := by omega
    have hj2 : (j : Int) ≤ 9223372036854775806 := by omega
    generalize (w.alloc (.cells #[.slice (some ⟨b, off, none⟩) n cap] 29)) = v0 at B0 q0 c0 c1 ⊢
    clear hcl hx hx'
    by_cases h2 : K = 2
    · subst h2
      have hxe : V = x := by have := HX.out; rw [if_pos rfl] at this; exact this
      go_wp2_with fail
      go_ret
      exact ⟨by rw [← hxe]; rfl, B0⟩
    · have hxe : -1 = x := by have := HX.out; rw [if_neg h2] at this; exact this
      have h2b : (K != 2) = true := by simp [h2]
      go_wp2_with fail
      go_ret
      exact ⟨by rw [← hxe]; rfl, B0⟩
theorem ahead_small {d : List Bl} {i : Nat} (h : (List.range i).all (docK d) = true) : -1 ≤ aheadN d i ∧ aheadN d i ≤ 3 := by
  rcases i with _ | j
  · show (-1 : Int) ≤ -1 ∧ (-1 : Int) ≤ 3
    omega
  · have hj := List.all_eq_true.1 h j (List.mem_range.2 (by omega))
    unfold docK at hj
    rw [Bool.and_eq_true] at hj
    have hb := hj.1
    show -1 ≤ lvN (d.getD j bl0) ∧ lvN (d.getD j bl0) ≤ 3
    unfold lvN
    by_cases h2 : (d.getD j bl0).1 = 2
    · rw [if_pos h2]
      unfold blockB at hb
      rw [if_neg (by omega), if_pos h2] at hb
      simp only [Bool.and_eq_true, decide_eq_true_eq] at hb
      omega
    · rw [if_neg h2]
      omega
theorem docB_no {d : List Bl} {i : Nat} (hi : i < d.length) (h : docK d i = false) : docB d = false := by
  unfold docB
  have : (List.range d.length).all (docK d) = false := by
    cases hq : (List.range d.length).all (docK d)
    · rfl
    · have := List.all_eq_true.1 hq i (List.mem_range.2 hi)
      rw [h] at this
      cases this
  rw [this, Bool.and_false]
set_option maxRecDepth 100000 in
set_option maxHeartbeats 8000000 in
theorem specDocOk_is {a : Option Addr} {n cap : Nat} {d : List Bl} {w : World} {x : Bool} (hx : docB d = x) (h : Dc w a n cap d) :
    Calls Try.prog 10 #[.agg #[.slice a n cap]] w fun e w' => e = .returned (.bool x) ∧ Below w.heap.size w w' := by
  have HX : Hid (docB d = x) := hx
  have HN : Hid (n = d.length) := h.1
  have hc := h.2.1
  have hm := h.2.2.1
  unfold maxLen at hm
  have H : Hid (Dc w a n cap d) := h
  clear h hx
  go_enter Try.func10, Try.ntmps10
  go_upto_region 1 with fail
  have B0 : Below w.heap.size w (w.alloc (.cells #[.slice a n cap] 29)) := (Below.refl _ _).alloc (Nat.le_refl _) _
  have G0 : RowAt (w.alloc (.cells #[.slice a n cap] 29)) w.heap.size #[.slice a n cap] 29 := rowAt_new _ _ _
  generalize (w.alloc (.cells #[.slice a n cap] 29)) = v0 at B0 G0 ⊢
  have HG : Hid (RowAt v0 w.heap.size #[.slice a n cap] 29) := G0
  have HB0 : Hid (Below w.heap.size w v0) := B0
  have q0 : v0.cell? ⟨w.heap.size, 0, none⟩ = some (.slice a n cap) := G0.cell 0
  have z0 := G0.lt
  clear B0 G0
  by_cases h8 : 8 < n
  · have h8' : (8 : Int) < (n : Int) := by omega
    go_wp2_with fail
    go_ret
    refine ⟨?_, HB0.out⟩
    have hd : ¬ d.length ≤ 8 := by have := HN.out; omega
    rw [← HX.out]
    unfold docB
    rw [decide_eq_false hd, Bool.false_and]
    rfl
  · have h8' : ¬ (8 : Int) < (n : Int) := by omega
    go_wp2_with fail
    clear q0
    go_loopw [3] (fun iv wr => ∃ i : Nat, i ≤ n ∧ iv = .int .i64 i ∧ (List.range i).all (docK d) = true ∧ Below w.heap.size w wr ∧ RowAt wr w.heap.size #[.slice a n cap] 29) (fun iv _ => n - (intOf iv).toNat)
    case atStart => exact ⟨0, Nat.zero_le _, rfl, rfl, HB0.out, HG.out⟩
    case round =>
      obtain ⟨i, hi, rfl, hall, hb, hr⟩ := hrel
      have HAll : Hid ((List.range i).all (docK d) = true) := hall
      have HB : Hid (Below w.heap.size w wr) := hb
      have HD : Hid (Dc wr a n cap d) := H.out.below hb
      have HR : Hid (RowAt wr w.heap.size #[.slice a n cap] 29) := hr
      have q1 : wr.cell? ⟨w.heap.size, 0, none⟩ = some (.slice a n cap) := hr.cell 0
      clear hall hb hr
      by_cases hlt : i < n
      · have hil : i < d.length := by have := HN.out; omega
        have hib : (i : Int) < (n : Int) := by omega
        have hi0 : (0 : Int) ≤ (i : Int) := by omega
        rcases HD.out.2.2.2 with e | ⟨b, off, rfl, hbl, hcl⟩
        · rw [e] at hil
          exact absurd hil (by simp)
        obtain ⟨ta, tn, tc, ca, cn, cc, hbi⟩ := hcl i hil
        obtain ⟨⟨K, V, t, R, C, l⟩, hx⟩ : ∃ x, x = d.getD i bl0 := ⟨_, rfl⟩
        rw [← hx] at hbi
        have HI : Hid (BlockIs wr b (off + i * 6) (K, V, t, R, C, l) ta tn tc ca cn cc) := hbi
        have HE : Hid (d.getD i bl0 = (K, V, t, R, C, l)) := hx.symm
        obtain ⟨bb, HBL⟩ : ∃ b, Hid (blockB (K, V, t, R, C, l) = b) := ⟨_, rfl⟩
        obtain ⟨ah, HAH⟩ : ∃ x, Hid (aheadN d i = x) := ⟨_, rfl⟩
        have hah : -1 ≤ ah ∧ ah ≤ 3 := by rw [← HAH.out]; exact ahead_small HAll.out
        have HDE : Hid (docK d i = (bb && !(decide (K = 2) && decide (ah + 1 < V)))) := by
          show docK d i = _
          unfold docK
          rw [HE.out, HBL.out, HAH.out]
        clear hcl hbi hx
        go_upto_region 6 with fail
        clear q1
        cases bb
        · have HDK : Hid (docK d i = false) := by show docK d i = false; rw [HDE.out]; rfl
          refine wp_region_noPanic ?_
          refine wp_region_held_drew (S := fun w' => RowAt w' w.heap.size #[.slice (some ⟨b, off, none⟩) n cap] 29 ∧ BlockIs w' b (off + i * 6) (K, V, t, R, C, l) ta tn tc ca cn cc) (by kernel_rfl) ⟨HR.out, HI.out.below ((Below.refl _ _).drew) hbl⟩ (fun hHeld => ?_)
          refine take_at 0 15 (.pointer (some ⟨w.heap.size, 0, none⟩)) rfl rfl (by kernel_rfl) (by kernel_rfl) (by kernel_rfl) (fun _ _ _ h => h) (Or.inl ⟨by kernel_rfl, fun w' hS' => by go_simp⟩) hHeld ?_
          (try simp only [Act.put, List.setIfInBounds_toArray, List.set_cons_zero, List.set_cons_succ])
          refine take_at 1 16 (.slice (some ⟨b, off, none⟩) n cap) rfl rfl (by kernel_rfl) (by kernel_rfl) (by kernel_rfl) (fun _ _ _ h => h) (Or.inl ⟨by kernel_rfl, fun w' hS' => by have hc := RowAt.cell hS'.1 0; go_simp⟩) hHeld ?_
          (try simp only [Act.put, List.setIfInBounds_toArray, List.set_cons_zero, List.set_cons_succ])
          refine take_at 2 17 (.int .i64 i) rfl rfl (by kernel_rfl) (by kernel_rfl) (by kernel_rfl) (fun _ _ _ h => h) (Or.inl ⟨by kernel_rfl, fun w' hS' => by go_simp⟩) hHeld ?_
          (try simp only [Act.put, List.setIfInBounds_toArray, List.set_cons_zero, List.set_cons_succ])
          refine take_at 3 18 (.pointer (some ⟨b, off + i * 6, none⟩)) rfl rfl (by kernel_rfl) (by kernel_rfl) (by kernel_rfl) (fun _ _ _ h => h) (Or.inl ⟨by kernel_rfl, fun w' hS' => by go_simp⟩) hHeld ?_
          (try simp only [Act.put, List.setIfInBounds_toArray, List.set_cons_zero, List.set_cons_succ])
          refine take_at 4 19 (.agg #[.int .i64 K, .int .i64 V, .slice ta tn tc, .int .i64 R, .int .i64 C, .slice ca cn cc]) rfl rfl (by kernel_rfl) (by kernel_rfl) (by kernel_rfl) (fun _ _ _ h => h) (Or.inl ⟨by kernel_rfl, fun w' hS' => by obtain ⟨e0, e1, e2, e3, e4, e5, -, -⟩ := hS'.2; go_simp⟩) hHeld ?_
          (try simp only [Act.put, List.setIfInBounds_toArray, List.set_cons_zero, List.set_cons_succ])
          replace HB : Hid (Below w.heap.size w wr.drew) := HB.out.drew
          replace HD : Hid (Dc wr.drew (some ⟨b, off, none⟩) n cap d) := HD.out.below ((Below.refl _ _).drew)
          replace hbl : b < wr.drew.heap.size := hbl
          clear HR HI
          generalize wr.drew = u0 at HB HD hbl hHeld ⊢
          refine wpAnyH_ready (rs := [5]) (by kernel_rfl) (by simp) ?_
          refine AllReadyH.cons rfl (fun K0 hK => ?_) AllReadyH.nil
          go_simp
          go_at_call 30
          refine (l3Block_is HBL.out hHeld.2.2.2.2.2.2.2.1 hHeld.2.2.2.2.2.2.2.2).mono ?_
          rintro e u1 ⟨rfl, hb1⟩
          replace HB : Hid (Below w.heap.size w u1) := HB.out.trans (hb1.mono HB.out.size)
          have HH : Hid (RowAt u1 w.heap.size #[.slice (some ⟨b, off, none⟩) n cap] 29 ∧ BlockIs u1 b (off + i * 6) (K, V, t, R, C, l) ta tn tc ca cn cc) := ⟨hHeld.1.below hb1 hHeld.1.lt, hHeld.2.below hb1 (by have := hb1.size; omega)⟩
          replace HD : Hid (Dc u1 (some ⟨b, off, none⟩) n cap d) := HD.out.below hb1
          replace hbl : b < u1.heap.size := by have := hb1.size; omega
          clear hb1 hHeld
          go_wp2_with fail
          refine hK.out _ _ HH.out (fun hHeld => ?_)
          clear hK K0 HH
          (try simp only [Act.put, List.setIfInBounds_toArray, List.set_cons_zero, List.set_cons_succ])
          refine take_at 6 21 (.bool true) rfl rfl (by kernel_rfl) (by kernel_rfl) (by kernel_rfl) (fun _ _ _ h => h) (Or.inl ⟨by kernel_rfl, fun w' hS' => by go_simp⟩) hHeld ?_
          (try simp only [Act.put, List.setIfInBounds_toArray, List.set_cons_zero, List.set_cons_succ])
          refine take_at 7 22 (.bool true) rfl rfl (by kernel_rfl) (by kernel_rfl) (by kernel_rfl) (fun _ _ _ h => h) (Or.inl ⟨by kernel_rfl, fun w' hS' => by go_simp⟩) hHeld ?_
          (try simp only [Act.put, List.setIfInBounds_toArray, List.set_cons_zero, List.set_cons_succ])
          refine take_at 8 23 (undef) rfl rfl (by kernel_rfl) (by kernel_rfl) (by kernel_rfl) (fun _ _ _ h => h) (Or.inr ⟨by kernel_rfl, rfl⟩) hHeld ?_
          (try simp only [Act.put, List.setIfInBounds_toArray, List.set_cons_zero, List.set_cons_succ])
          refine take_at 9 24 (undef) rfl rfl (by kernel_rfl) (by kernel_rfl) (by kernel_rfl) (fun _ _ _ h => h) (Or.inr ⟨by kernel_rfl, rfl⟩) hHeld ?_
          (try simp only [Act.put, List.setIfInBounds_toArray, List.set_cons_zero, List.set_cons_succ])
          refine take_at 10 25 (undef) rfl rfl (by kernel_rfl) (by kernel_rfl) (by kernel_rfl) (fun _ _ _ h => h) (Or.inr ⟨by kernel_rfl, rfl⟩) hHeld ?_
          (try simp only [Act.put, List.setIfInBounds_toArray, List.set_cons_zero, List.set_cons_succ])
          refine take_at 11 26 (undef) rfl rfl (by kernel_rfl) (by kernel_rfl) (by kernel_rfl) (fun _ _ _ h => h) (Or.inr ⟨by kernel_rfl, rfl⟩) hHeld ?_
          (try simp only [Act.put, List.setIfInBounds_toArray, List.set_cons_zero, List.set_cons_succ])
          refine take_at 12 27 (undef) rfl rfl (by kernel_rfl) (by kernel_rfl) (by kernel_rfl) (fun _ _ _ h => h) (Or.inr ⟨by kernel_rfl, rfl⟩) hHeld ?_
          (try simp only [Act.put, List.setIfInBounds_toArray, List.set_cons_zero, List.set_cons_succ])
          refine take_at 13 28 (undef) rfl rfl (by kernel_rfl) (by kernel_rfl) (by kernel_rfl) (fun _ _ _ h => h) (Or.inr ⟨by kernel_rfl, rfl⟩) hHeld ?_
          (try simp only [Act.put, List.setIfInBounds_toArray, List.set_cons_zero, List.set_cons_succ])
          refine take_at 14 29 (undef) rfl rfl (by kernel_rfl) (by kernel_rfl) (by kernel_rfl) (fun _ _ _ h => h) (Or.inr ⟨by kernel_rfl, rfl⟩) hHeld ?_
          (try simp only [Act.put, List.setIfInBounds_toArray, List.set_cons_zero, List.set_cons_succ])
          refine take_at 15 30 (undef) rfl rfl (by kernel_rfl) (by kernel_rfl) (by kernel_rfl) (fun _ _ _ h => h) (Or.inr ⟨by kernel_rfl, rfl⟩) hHeld ?_
          (try simp only [Act.put, List.setIfInBounds_toArray, List.set_cons_zero, List.set_cons_succ])
          refine take_at 16 31 (undef) rfl rfl (by kernel_rfl) (by kernel_rfl) (by kernel_rfl) (fun _ _ _ h => h) (Or.inr ⟨by kernel_rfl, rfl⟩) hHeld ?_
          (try simp only [Act.put, List.setIfInBounds_toArray, List.set_cons_zero, List.set_cons_succ])
          refine take_at 17 32 (undef) rfl rfl (by kernel_rfl) (by kernel_rfl) (by kernel_rfl) (fun _ _ _ h => h) (Or.inr ⟨by kernel_rfl, rfl⟩) hHeld ?_
          (try simp only [Act.put, List.setIfInBounds_toArray, List.set_cons_zero, List.set_cons_succ])
          refine take_at 18 33 (undef) rfl rfl (by kernel_rfl) (by kernel_rfl) (by kernel_rfl) (fun _ _ _ h => h) (Or.inr ⟨by kernel_rfl, rfl⟩) hHeld ?_
          (try simp only [Act.put, List.setIfInBounds_toArray, List.set_cons_zero, List.set_cons_succ])
          refine take_at 19 34 (undef) rfl rfl (by kernel_rfl) (by kernel_rfl) (by kernel_rfl) (fun _ _ _ h => h) (Or.inr ⟨by kernel_rfl, rfl⟩) hHeld ?_
          (try simp only [Act.put, List.setIfInBounds_toArray, List.set_cons_zero, List.set_cons_succ])
          refine take_at 20 35 (undef) rfl rfl (by kernel_rfl) (by kernel_rfl) (by kernel_rfl) (fun _ _ _ h => h) (Or.inr ⟨by kernel_rfl, rfl⟩) hHeld ?_
          (try simp only [Act.put, List.setIfInBounds_toArray, List.set_cons_zero, List.set_cons_succ])
          refine take_at 21 36 (undef) rfl rfl (by kernel_rfl) (by kernel_rfl) (by kernel_rfl) (fun _ _ _ h => h) (Or.inr ⟨by kernel_rfl, rfl⟩) hHeld ?_
          (try simp only [Act.put, List.setIfInBounds_toArray, List.set_cons_zero, List.set_cons_succ])
          refine take_at 22 37 (undef) rfl rfl (by kernel_rfl) (by kernel_rfl) (by kernel_rfl) (fun _ _ _ h => h) (Or.inr ⟨by kernel_rfl, rfl⟩) hHeld ?_
          (try simp only [Act.put, List.setIfInBounds_toArray, List.set_cons_zero, List.set_cons_succ])
          refine take_at 23 38 (undef) rfl rfl (by kernel_rfl) (by kernel_rfl) (by kernel_rfl) (fun _ _ _ h => h) (Or.inr ⟨by kernel_rfl, rfl⟩) hHeld ?_
          (try simp only [Act.put, List.setIfInBounds_toArray, List.set_cons_zero, List.set_cons_succ])
          refine take_at 24 39 (undef) rfl rfl (by kernel_rfl) (by kernel_rfl) (by kernel_rfl) (fun _ _ _ h => h) (Or.inr ⟨by kernel_rfl, rfl⟩) hHeld ?_
          (try simp only [Act.put, List.setIfInBounds_toArray, List.set_cons_zero, List.set_cons_succ])
          refine take_at 25 40 (undef) rfl rfl (by kernel_rfl) (by kernel_rfl) (by kernel_rfl) (fun _ _ _ h => h) (Or.inr ⟨by kernel_rfl, rfl⟩) hHeld ?_
          (try simp only [Act.put, List.setIfInBounds_toArray, List.set_cons_zero, List.set_cons_succ])
          refine take_at 26 41 (undef) rfl rfl (by kernel_rfl) (by kernel_rfl) (by kernel_rfl) (fun _ _ _ h => h) (Or.inr ⟨by kernel_rfl, rfl⟩) hHeld ?_
          (try simp only [Act.put, List.setIfInBounds_toArray, List.set_cons_zero, List.set_cons_succ])
          refine take_at 27 42 (undef) rfl rfl (by kernel_rfl) (by kernel_rfl) (by kernel_rfl) (fun _ _ _ h => h) (Or.inr ⟨by kernel_rfl, rfl⟩) hHeld ?_
          (try simp only [Act.put, List.setIfInBounds_toArray, List.set_cons_zero, List.set_cons_succ])
          refine take_at 28 43 (.bool true) rfl rfl (by kernel_rfl) (by kernel_rfl) (by kernel_rfl) (fun _ _ _ h => h) (Or.inl ⟨by kernel_rfl, fun w' hS' => by go_simp⟩) hHeld ?_
          (try simp only [Act.put, List.setIfInBounds_toArray, List.set_cons_zero, List.set_cons_succ])
          refine wpAnyH_done (by kernel_rfl) ?_ _
          refine NoPanic.normal ?_
          clear hHeld
          go_wp2_with fail
          go_ret
          exact ⟨by rw [docB_no hil HDK.out] at HX; rw [← HX.out]; rfl, HB.out⟩
        · by_cases hk2 : K = 2
          · subst hk2
            by_cases hlv : ah + 1 < V
            · have HDK : Hid (docK d i = false) := by show docK d i = false; rw [HDE.out]; simp [hlv]
              refine wp_region_noPanic ?_
              refine wp_region_held_drew (S := fun w' => RowAt w' w.heap.size #[.slice (some ⟨b, off, none⟩) n cap] 29 ∧ BlockIs w' b (off + i * 6) (2, V, t, R, C, l) ta tn tc ca cn cc) (by kernel_rfl) ⟨HR.out, HI.out.below ((Below.refl _ _).drew) hbl⟩ (fun hHeld => ?_)
              refine take_at 0 15 (.pointer (some ⟨w.heap.size, 0, none⟩)) rfl rfl (by kernel_rfl) (by kernel_rfl) (by kernel_rfl) (fun _ _ _ h => h) (Or.inl ⟨by kernel_rfl, fun w' hS' => by go_simp⟩) hHeld ?_
              (try simp only [Act.put, List.setIfInBounds_toArray, List.set_cons_zero, List.set_cons_succ])
              refine take_at 1 16 (.slice (some ⟨b, off, none⟩) n cap) rfl rfl (by kernel_rfl) (by kernel_rfl) (by kernel_rfl) (fun _ _ _ h => h) (Or.inl ⟨by kernel_rfl, fun w' hS' => by have hc := RowAt.cell hS'.1 0; go_simp⟩) hHeld ?_
              (try simp only [Act.put, List.setIfInBounds_toArray, List.set_cons_zero, List.set_cons_succ])
              refine take_at 2 17 (.int .i64 i) rfl rfl (by kernel_rfl) (by kernel_rfl) (by kernel_rfl) (fun _ _ _ h => h) (Or.inl ⟨by kernel_rfl, fun w' hS' => by go_simp⟩) hHeld ?_
              (try simp only [Act.put, List.setIfInBounds_toArray, List.set_cons_zero, List.set_cons_succ])
              refine take_at 3 18 (.pointer (some ⟨b, off + i * 6, none⟩)) rfl rfl (by kernel_rfl) (by kernel_rfl) (by kernel_rfl) (fun _ _ _ h => h) (Or.inl ⟨by kernel_rfl, fun w' hS' => by go_simp⟩) hHeld ?_
              (try simp only [Act.put, List.setIfInBounds_toArray, List.set_cons_zero, List.set_cons_succ])
              refine take_at 4 19 (.agg #[.int .i64 2, .int .i64 V, .slice ta tn tc, .int .i64 R, .int .i64 C, .slice ca cn cc]) rfl rfl (by kernel_rfl) (by kernel_rfl) (by kernel_rfl) (fun _ _ _ h => h) (Or.inl ⟨by kernel_rfl, fun w' hS' => by obtain ⟨e0, e1, e2, e3, e4, e5, -, -⟩ := hS'.2; go_simp⟩) hHeld ?_
              (try simp only [Act.put, List.setIfInBounds_toArray, List.set_cons_zero, List.set_cons_succ])
              replace HB : Hid (Below w.heap.size w wr.drew) := HB.out.drew
              replace HD : Hid (Dc wr.drew (some ⟨b, off, none⟩) n cap d) := HD.out.below ((Below.refl _ _).drew)
              replace hbl : b < wr.drew.heap.size := hbl
              clear HR HI
              generalize wr.drew = u0 at HB HD hbl hHeld ⊢
              refine wpAnyH_ready (rs := [5]) (by kernel_rfl) (by simp) ?_
              refine AllReadyH.cons rfl (fun K0 hK => ?_) AllReadyH.nil
              go_simp
              go_at_call 30
              refine (l3Block_is HBL.out hHeld.2.2.2.2.2.2.2.1 hHeld.2.2.2.2.2.2.2.2).mono ?_
              rintro e u1 ⟨rfl, hb1⟩
              replace HB : Hid (Below w.heap.size w u1) := HB.out.trans (hb1.mono HB.out.size)
              have HH : Hid (RowAt u1 w.heap.size #[.slice (some ⟨b, off, none⟩) n cap] 29 ∧ BlockIs u1 b (off + i * 6) (2, V, t, R, C, l) ta tn tc ca cn cc) := ⟨hHeld.1.below hb1 hHeld.1.lt, hHeld.2.below hb1 (by have := hb1.size; omega)⟩
              replace HD : Hid (Dc u1 (some ⟨b, off, none⟩) n cap d) := HD.out.below hb1
              replace hbl : b < u1.heap.size := by have := hb1.size; omega
              clear hb1 hHeld
              go_wp2_with fail
              refine hK.out _ _ HH.out (fun hHeld => ?_)
              clear hK K0 HH
              (try simp only [Act.put, List.setIfInBounds_toArray, List.set_cons_zero, List.set_cons_succ])
              refine take_at 6 21 (.bool false) rfl rfl (by kernel_rfl) (by kernel_rfl) (by kernel_rfl) (fun _ _ _ h => h) (Or.inl ⟨by kernel_rfl, fun w' hS' => by go_simp⟩) hHeld ?_
              (try simp only [Act.put, List.setIfInBounds_toArray, List.set_cons_zero, List.set_cons_succ])
              refine take_at 7 22 (.bool false) rfl rfl (by kernel_rfl) (by kernel_rfl) (by kernel_rfl) (fun _ _ _ h => h) (Or.inl ⟨by kernel_rfl, fun w' hS' => by go_simp⟩) hHeld ?_
              (try simp only [Act.put, List.setIfInBounds_toArray, List.set_cons_zero, List.set_cons_succ])
              refine take_at 8 23 (.pointer (some ⟨w.heap.size, 0, none⟩)) rfl rfl (by kernel_rfl) (by kernel_rfl) (by kernel_rfl) (fun _ _ _ h => h) (Or.inl ⟨by kernel_rfl, fun w' hS' => by go_simp⟩) hHeld ?_
              (try simp only [Act.put, List.setIfInBounds_toArray, List.set_cons_zero, List.set_cons_succ])
              refine take_at 9 24 (.slice (some ⟨b, off, none⟩) n cap) rfl rfl (by kernel_rfl) (by kernel_rfl) (by kernel_rfl) (fun _ _ _ h => h) (Or.inl ⟨by kernel_rfl, fun w' hS' => by have hc := RowAt.cell hS'.1 0; go_simp⟩) hHeld ?_
              (try simp only [Act.put, List.setIfInBounds_toArray, List.set_cons_zero, List.set_cons_succ])
              refine take_at 10 25 (.int .i64 i) rfl rfl (by kernel_rfl) (by kernel_rfl) (by kernel_rfl) (fun _ _ _ h => h) (Or.inl ⟨by kernel_rfl, fun w' hS' => by go_simp⟩) hHeld ?_
              (try simp only [Act.put, List.setIfInBounds_toArray, List.set_cons_zero, List.set_cons_succ])
              refine take_at 11 26 (.pointer (some ⟨b, off + i * 6, none⟩)) rfl rfl (by kernel_rfl) (by kernel_rfl) (by kernel_rfl) (fun _ _ _ h => h) (Or.inl ⟨by kernel_rfl, fun w' hS' => by go_simp⟩) hHeld ?_
              (try simp only [Act.put, List.setIfInBounds_toArray, List.set_cons_zero, List.set_cons_succ])
              refine take_at 12 27 (.pointer (some ⟨b, off + i * 6, none⟩)) rfl rfl (by kernel_rfl) (by kernel_rfl) (by kernel_rfl) (fun _ _ _ h => h) (Or.inl ⟨by kernel_rfl, fun w' hS' => by go_simp⟩) hHeld ?_
              (try simp only [Act.put, List.setIfInBounds_toArray, List.set_cons_zero, List.set_cons_succ])
              refine take_at 13 28 (.int .i64 2) rfl rfl (by kernel_rfl) (by kernel_rfl) (by kernel_rfl) (fun _ _ _ h => h) (Or.inl ⟨by kernel_rfl, fun w' hS' => by have hc := hS'.2.1; go_simp⟩) hHeld ?_
              (try simp only [Act.put, List.setIfInBounds_toArray, List.set_cons_zero, List.set_cons_succ])
              refine take_at 14 29 (.bool true) rfl rfl (by kernel_rfl) (by kernel_rfl) (by kernel_rfl) (fun _ _ _ h => h) (Or.inl ⟨by kernel_rfl, fun w' hS' => by go_simp⟩) hHeld ?_
              (try simp only [Act.put, List.setIfInBounds_toArray, List.set_cons_zero, List.set_cons_succ])
              refine take_at 15 30 (.bool true) rfl rfl (by kernel_rfl) (by kernel_rfl) (by kernel_rfl) (fun _ _ _ h => h) (Or.inl ⟨by kernel_rfl, fun w' hS' => by go_simp⟩) hHeld ?_
              (try simp only [Act.put, List.setIfInBounds_toArray, List.set_cons_zero, List.set_cons_succ])
              refine take_at 16 31 (.pointer (some ⟨w.heap.size, 0, none⟩)) rfl rfl (by kernel_rfl) (by kernel_rfl) (by kernel_rfl) (fun _ _ _ h => h) (Or.inl ⟨by kernel_rfl, fun w' hS' => by go_simp⟩) hHeld ?_
              (try simp only [Act.put, List.setIfInBounds_toArray, List.set_cons_zero, List.set_cons_succ])
              refine take_at 17 32 (.slice (some ⟨b, off, none⟩) n cap) rfl rfl (by kernel_rfl) (by kernel_rfl) (by kernel_rfl) (fun _ _ _ h => h) (Or.inl ⟨by kernel_rfl, fun w' hS' => by have hc := RowAt.cell hS'.1 0; go_simp⟩) hHeld ?_
              (try simp only [Act.put, List.setIfInBounds_toArray, List.set_cons_zero, List.set_cons_succ])
              refine take_at 18 33 (.int .i64 i) rfl rfl (by kernel_rfl) (by kernel_rfl) (by kernel_rfl) (fun _ _ _ h => h) (Or.inl ⟨by kernel_rfl, fun w' hS' => by go_simp⟩) hHeld ?_
              (try simp only [Act.put, List.setIfInBounds_toArray, List.set_cons_zero, List.set_cons_succ])
              refine take_at 19 34 (.pointer (some ⟨b, off + i * 6, none⟩)) rfl rfl (by kernel_rfl) (by kernel_rfl) (by kernel_rfl) (fun _ _ _ h => h) (Or.inl ⟨by kernel_rfl, fun w' hS' => by go_simp⟩) hHeld ?_
              (try simp only [Act.put, List.setIfInBounds_toArray, List.set_cons_zero, List.set_cons_succ])
              refine take_at 20 35 (.pointer (some ⟨b, off + i * 6 + 1, none⟩)) rfl rfl (by kernel_rfl) (by kernel_rfl) (by kernel_rfl) (fun _ _ _ h => h) (Or.inl ⟨by kernel_rfl, fun w' hS' => by go_simp⟩) hHeld ?_
              (try simp only [Act.put, List.setIfInBounds_toArray, List.set_cons_zero, List.set_cons_succ])
              refine take_at 21 36 (.int .i64 V) rfl rfl (by kernel_rfl) (by kernel_rfl) (by kernel_rfl) (fun _ _ _ h => h) (Or.inl ⟨by kernel_rfl, fun w' hS' => by have hc := hS'.2.2.1; go_simp⟩) hHeld ?_
              (try simp only [Act.put, List.setIfInBounds_toArray, List.set_cons_zero, List.set_cons_succ])
              refine take_at 22 37 (.agg #[.slice (some ⟨b, off, none⟩) n cap]) rfl rfl (by kernel_rfl) (by kernel_rfl) (by kernel_rfl) (fun _ _ _ h => h) (yieldsIf_load_row (by kernel_rfl) 29 (.tmp 1) rfl w.heap.size rfl 29 #[.slice (some ⟨b, off, none⟩) n cap] (0, 0) _ (fun w' h => h.1) Try.underlying29 rfl doc_info) hHeld ?_
              (try simp only [Act.put, List.setIfInBounds_toArray, List.set_cons_zero, List.set_cons_succ])
              refine take_at 23 38 (.int .i64 i) rfl rfl (by kernel_rfl) (by kernel_rfl) (by kernel_rfl) (fun _ _ _ h => h) (Or.inl ⟨by kernel_rfl, fun w' hS' => by go_simp⟩) hHeld ?_
              (try simp only [Act.put, List.setIfInBounds_toArray, List.set_cons_zero, List.set_cons_succ])
              refine wpAnyH_ready (rs := [24]) (by kernel_rfl) (by simp) ?_
              refine AllReadyH.cons rfl (fun K0 hK => ?_) AllReadyH.nil
              go_simp
              go_at_call 31
              refine (l3Ahead_is HAH.out HD.out hil).mono ?_
              rintro e u2 ⟨rfl, hb1⟩
              replace HB : Hid (Below w.heap.size w u2) := HB.out.trans (hb1.mono HB.out.size)
              have HH : Hid (RowAt u2 w.heap.size #[.slice (some ⟨b, off, none⟩) n cap] 29 ∧ BlockIs u2 b (off + i * 6) (2, V, t, R, C, l) ta tn tc ca cn cc) := ⟨hHeld.1.below hb1 hHeld.1.lt, hHeld.2.below hb1 (by have := hb1.size; omega)⟩
              replace HD : Hid (Dc u2 (some ⟨b, off, none⟩) n cap d) := HD.out.below hb1
              replace hbl : b < u2.heap.size := by have := hb1.size; omega
              clear hb1 hHeld
              go_wp2_with fail
              refine hK.out _ _ HH.out (fun hHeld => ?_)
              clear hK K0 HH
              (try simp only [Act.put, List.setIfInBounds_toArray, List.set_cons_zero, List.set_cons_succ])
              refine take_at 25 40 (.int .i64 (ah + 1)) rfl rfl (by kernel_rfl) (by kernel_rfl) (by kernel_rfl) (fun _ _ _ h => h) (Or.inl ⟨by kernel_rfl, fun w' hS' => by go_simp; rw [IntKind.wrap_i64]; omega⟩) hHeld ?_
              (try simp only [Act.put, List.setIfInBounds_toArray, List.set_cons_zero, List.set_cons_succ])
              refine take_at 26 41 (.bool true) rfl rfl (by kernel_rfl) (by kernel_rfl) (by kernel_rfl) (fun _ _ _ h => h) (Or.inl ⟨by kernel_rfl, fun w' hS' => by go_simp <;> omega⟩) hHeld ?_
              (try simp only [Act.put, List.setIfInBounds_toArray, List.set_cons_zero, List.set_cons_succ])
              refine take_at 27 42 (.bool true) rfl rfl (by kernel_rfl) (by kernel_rfl) (by kernel_rfl) (fun _ _ _ h => h) (Or.inl ⟨by kernel_rfl, fun w' hS' => by go_simp⟩) hHeld ?_
              (try simp only [Act.put, List.setIfInBounds_toArray, List.set_cons_zero, List.set_cons_succ])
              refine take_at 28 43 (.bool true) rfl rfl (by kernel_rfl) (by kernel_rfl) (by kernel_rfl) (fun _ _ _ h => h) (Or.inl ⟨by kernel_rfl, fun w' hS' => by go_simp⟩) hHeld ?_
              (try simp only [Act.put, List.setIfInBounds_toArray, List.set_cons_zero, List.set_cons_succ])
              refine wpAnyH_done (by kernel_rfl) ?_ _
              refine NoPanic.normal ?_
              clear hHeld
              go_wp2_with fail
              go_ret
              exact ⟨by rw [docB_no hil HDK.out] at HX; rw [← HX.out]; rfl, HB.out⟩
            · have HDK : Hid (docK d i = true) := by show docK d i = true; rw [HDE.out]; simp [hlv]
              refine wp_region_noPanic ?_
              refine wp_region_held_drew (S := fun w' => RowAt w' w.heap.size #[.slice (some ⟨b, off, none⟩) n cap] 29 ∧ BlockIs w' b (off + i * 6) (2, V, t, R, C, l) ta tn tc ca cn cc) (by kernel_rfl) ⟨HR.out, HI.out.below ((Below.refl _ _).drew) hbl⟩ (fun hHeld => ?_)
              refine take_at 0 15 (.pointer (some ⟨w.heap.size, 0, none⟩)) rfl rfl (by kernel_rfl) (by kernel_rfl) (by kernel_rfl) (fun _ _ _ h => h) (Or.inl ⟨by kernel_rfl, fun w' hS' => by go_simp⟩) hHeld ?_
              (try simp only [Act.put, List.setIfInBounds_toArray, List.set_cons_zero, List.set_cons_succ])
              refine take_at 1 16 (.slice (some ⟨b, off, none⟩) n cap) rfl rfl (by kernel_rfl) (by kernel_rfl) (by kernel_rfl) (fun _ _ _ h => h) (Or.inl ⟨by kernel_rfl, fun w' hS' => by have hc := RowAt.cell hS'.1 0; go_simp⟩) hHeld ?_
              (try simp only [Act.put, List.setIfInBounds_toArray, List.set_cons_zero, List.set_cons_succ])
              refine take_at 2 17 (.int .i64 i) rfl rfl (by kernel_rfl) (by kernel_rfl) (by kernel_rfl) (fun _ _ _ h => h) (Or.inl ⟨by kernel_rfl, fun w' hS' => by go_simp⟩) hHeld ?_
              (try simp only [Act.put, List.setIfInBounds_toArray, List.set_cons_zero, List.set_cons_succ])
              refine take_at 3 18 (.pointer (some ⟨b, off + i * 6, none⟩)) rfl rfl (by kernel_rfl) (by kernel_rfl) (by kernel_rfl) (fun _ _ _ h => h) (Or.inl ⟨by kernel_rfl, fun w' hS' => by go_simp⟩) hHeld ?_
              (try simp only [Act.put, List.setIfInBounds_toArray, List.set_cons_zero, List.set_cons_succ])
              refine take_at 4 19 (.agg #[.int .i64 2, .int .i64 V, .slice ta tn tc, .int .i64 R, .int .i64 C, .slice ca cn cc]) rfl rfl (by kernel_rfl) (by kernel_rfl) (by kernel_rfl) (fun _ _ _ h => h) (Or.inl ⟨by kernel_rfl, fun w' hS' => by obtain ⟨e0, e1, e2, e3, e4, e5, -, -⟩ := hS'.2; go_simp⟩) hHeld ?_
              (try simp only [Act.put, List.setIfInBounds_toArray, List.set_cons_zero, List.set_cons_succ])
              replace HB : Hid (Below w.heap.size w wr.drew) := HB.out.drew
              replace HD : Hid (Dc wr.drew (some ⟨b, off, none⟩) n cap d) := HD.out.below ((Below.refl _ _).drew)
              replace hbl : b < wr.drew.heap.size := hbl
              clear HR HI
              generalize wr.drew = u0 at HB HD hbl hHeld ⊢
              refine wpAnyH_ready (rs := [5]) (by kernel_rfl) (by simp) ?_
              refine AllReadyH.cons rfl (fun K0 hK => ?_) AllReadyH.nil
              go_simp
              go_at_call 30
              refine (l3Block_is HBL.out hHeld.2.2.2.2.2.2.2.1 hHeld.2.2.2.2.2.2.2.2).mono ?_
              rintro e u1 ⟨rfl, hb1⟩
              replace HB : Hid (Below w.heap.size w u1) := HB.out.trans (hb1.mono HB.out.size)
              have HH : Hid (RowAt u1 w.heap.size #[.slice (some ⟨b, off, none⟩) n cap] 29 ∧ BlockIs u1 b (off + i * 6) (2, V, t, R, C, l) ta tn tc ca cn cc) := ⟨hHeld.1.below hb1 hHeld.1.lt, hHeld.2.below hb1 (by have := hb1.size; omega)⟩
              replace HD : Hid (Dc u1 (some ⟨b, off, none⟩) n cap d) := HD.out.below hb1
              replace hbl : b < u1.heap.size := by have := hb1.size; omega
              clear hb1 hHeld
              go_wp2_with fail
              refine hK.out _ _ HH.out (fun hHeld => ?_)
              clear hK K0 HH
              (try simp only [Act.put, List.setIfInBounds_toArray, List.set_cons_zero, List.set_cons_succ])
              refine take_at 6 21 (.bool false) rfl rfl (by kernel_rfl) (by kernel_rfl) (by kernel_rfl) (fun _ _ _ h => h) (Or.inl ⟨by kernel_rfl, fun w' hS' => by go_simp⟩) hHeld ?_
              (try simp only [Act.put, List.setIfInBounds_toArray, List.set_cons_zero, List.set_cons_succ])
              refine take_at 7 22 (.bool false) rfl rfl (by kernel_rfl) (by kernel_rfl) (by kernel_rfl) (fun _ _ _ h => h) (Or.inl ⟨by kernel_rfl, fun w' hS' => by go_simp⟩) hHeld ?_
              (try simp only [Act.put, List.setIfInBounds_toArray, List.set_cons_zero, List.set_cons_succ])
              refine take_at 8 23 (.pointer (some ⟨w.heap.size, 0, none⟩)) rfl rfl (by kernel_rfl) (by kernel_rfl) (by kernel_rfl) (fun _ _ _ h => h) (Or.inl ⟨by kernel_rfl, fun w' hS' => by go_simp⟩) hHeld ?_
              (try simp only [Act.put, List.setIfInBounds_toArray, List.set_cons_zero, List.set_cons_succ])
              refine take_at 9 24 (.slice (some ⟨b, off, none⟩) n cap) rfl rfl (by kernel_rfl) (by kernel_rfl) (by kernel_rfl) (fun _ _ _ h => h) (Or.inl ⟨by kernel_rfl, fun w' hS' => by have hc := RowAt.cell hS'.1 0; go_simp⟩) hHeld ?_
              (try simp only [Act.put, List.setIfInBounds_toArray, List.set_cons_zero, List.set_cons_succ])
              refine take_at 10 25 (.int .i64 i) rfl rfl (by kernel_rfl) (by kernel_rfl) (by kernel_rfl) (fun _ _ _ h => h) (Or.inl ⟨by kernel_rfl, fun w' hS' => by go_simp⟩) hHeld ?_
              (try simp only [Act.put, List.setIfInBounds_toArray, List.set_cons_zero, List.set_cons_succ])
              refine take_at 11 26 (.pointer (some ⟨b, off + i * 6, none⟩)) rfl rfl (by kernel_rfl) (by kernel_rfl) (by kernel_rfl) (fun _ _ _ h => h) (Or.inl ⟨by kernel_rfl, fun w' hS' => by go_simp⟩) hHeld ?_
              (try simp only [Act.put, List.setIfInBounds_toArray, List.set_cons_zero, List.set_cons_succ])
              refine take_at 12 27 (.pointer (some ⟨b, off + i * 6, none⟩)) rfl rfl (by kernel_rfl) (by kernel_rfl) (by kernel_rfl) (fun _ _ _ h => h) (Or.inl ⟨by kernel_rfl, fun w' hS' => by go_simp⟩) hHeld ?_
              (try simp only [Act.put, List.setIfInBounds_toArray, List.set_cons_zero, List.set_cons_succ])
              refine take_at 13 28 (.int .i64 2) rfl rfl (by kernel_rfl) (by kernel_rfl) (by kernel_rfl) (fun _ _ _ h => h) (Or.inl ⟨by kernel_rfl, fun w' hS' => by have hc := hS'.2.1; go_simp⟩) hHeld ?_
              (try simp only [Act.put, List.setIfInBounds_toArray, List.set_cons_zero, List.set_cons_succ])
              refine take_at 14 29 (.bool true) rfl rfl (by kernel_rfl) (by kernel_rfl) (by kernel_rfl) (fun _ _ _ h => h) (Or.inl ⟨by kernel_rfl, fun w' hS' => by go_simp⟩) hHeld ?_
              (try simp only [Act.put, List.setIfInBounds_toArray, List.set_cons_zero, List.set_cons_succ])
              refine take_at 15 30 (.bool true) rfl rfl (by kernel_rfl) (by kernel_rfl) (by kernel_rfl) (fun _ _ _ h => h) (Or.inl ⟨by kernel_rfl, fun w' hS' => by go_simp⟩) hHeld ?_
              (try simp only [Act.put, List.setIfInBounds_toArray, List.set_cons_zero, List.set_cons_succ])
              refine take_at 16 31 (.pointer (some ⟨w.heap.size, 0, none⟩)) rfl rfl (by kernel_rfl) (by kernel_rfl) (by kernel_rfl) (fun _ _ _ h => h) (Or.inl ⟨by kernel_rfl, fun w' hS' => by go_simp⟩) hHeld ?_
              (try simp only [Act.put, List.setIfInBounds_toArray, List.set_cons_zero, List.set_cons_succ])
              refine take_at 17 32 (.slice (some ⟨b, off, none⟩) n cap) rfl rfl (by kernel_rfl) (by kernel_rfl) (by kernel_rfl) (fun _ _ _ h => h) (Or.inl ⟨by kernel_rfl, fun w' hS' => by have hc := RowAt.cell hS'.1 0; go_simp⟩) hHeld ?_
              (try simp only [Act.put, List.setIfInBounds_toArray, List.set_cons_zero, List.set_cons_succ])
              refine take_at 18 33 (.int .i64 i) rfl rfl (by kernel_rfl) (by kernel_rfl) (by kernel_rfl) (fun _ _ _ h => h) (Or.inl ⟨by kernel_rfl, fun w' hS' => by go_simp⟩) hHeld ?_
              (try simp only [Act.put, List.setIfInBounds_toArray, List.set_cons_zero, List.set_cons_succ])
              refine take_at 19 34 (.pointer (some ⟨b, off + i * 6, none⟩)) rfl rfl (by kernel_rfl) (by kernel_rfl) (by kernel_rfl) (fun _ _ _ h => h) (Or.inl ⟨by kernel_rfl, fun w' hS' => by go_simp⟩) hHeld ?_
              (try simp only [Act.put, List.setIfInBounds_toArray, List.set_cons_zero, List.set_cons_succ])
              refine take_at 20 35 (.pointer (some ⟨b, off + i * 6 + 1, none⟩)) rfl rfl (by kernel_rfl) (by kernel_rfl) (by kernel_rfl) (fun _ _ _ h => h) (Or.inl ⟨by kernel_rfl, fun w' hS' => by go_simp⟩) hHeld ?_
              (try simp only [Act.put, List.setIfInBounds_toArray, List.set_cons_zero, List.set_cons_succ])
              refine take_at 21 36 (.int .i64 V) rfl rfl (by kernel_rfl) (by kernel_rfl) (by kernel_rfl) (fun _ _ _ h => h) (Or.inl ⟨by kernel_rfl, fun w' hS' => by have hc := hS'.2.2.1; go_simp⟩) hHeld ?_
              (try simp only [Act.put, List.setIfInBounds_toArray, List.set_cons_zero, List.set_cons_succ])
              refine take_at 22 37 (.agg #[.slice (some ⟨b, off, none⟩) n cap]) rfl rfl (by kernel_rfl) (by kernel_rfl) (by kernel_rfl) (fun _ _ _ h => h) (yieldsIf_load_row (by kernel_rfl) 29 (.tmp 1) rfl w.heap.size rfl 29 #[.slice (some ⟨b, off, none⟩) n cap] (0, 0) _ (fun w' h => h.1) Try.underlying29 rfl doc_info) hHeld ?_
              (try simp only [Act.put, List.setIfInBounds_toArray, List.set_cons_zero, List.set_cons_succ])
              refine take_at 23 38 (.int .i64 i) rfl rfl (by kernel_rfl) (by kernel_rfl) (by kernel_rfl) (fun _ _ _ h => h) (Or.inl ⟨by kernel_rfl, fun w' hS' => by go_simp⟩) hHeld ?_
              (try simp only [Act.put, List.setIfInBounds_toArray, List.set_cons_zero, List.set_cons_succ])
              refine wpAnyH_ready (rs := [24]) (by kernel_rfl) (by simp) ?_
              refine AllReadyH.cons rfl (fun K0 hK => ?_) AllReadyH.nil
              go_simp
              go_at_call 31
              refine (l3Ahead_is HAH.out HD.out hil).mono ?_
              rintro e u2 ⟨rfl, hb1⟩
              replace HB : Hid (Below w.heap.size w u2) := HB.out.trans (hb1.mono HB.out.size)
              have HH : Hid (RowAt u2 w.heap.size #[.slice (some ⟨b, off, none⟩) n cap] 29 ∧ BlockIs u2 b (off + i * 6) (2, V, t, R, C, l) ta tn tc ca cn cc) := ⟨hHeld.1.below hb1 hHeld.1.lt, hHeld.2.below hb1 (by have := hb1.size; omega)⟩
              replace HD : Hid (Dc u2 (some ⟨b, off, none⟩) n cap d) := HD.out.below hb1
              replace hbl : b < u2.heap.size := by have := hb1.size; omega
              clear hb1 hHeld
              go_wp2_with fail
              refine hK.out _ _ HH.out (fun hHeld => ?_)
              clear hK K0 HH
              (try simp only [Act.put, List.setIfInBounds_toArray, List.set_cons_zero, List.set_cons_succ])
              refine take_at 25 40 (.int .i64 (ah + 1)) rfl rfl (by kernel_rfl) (by kernel_rfl) (by kernel_rfl) (fun _ _ _ h => h) (Or.inl ⟨by kernel_rfl, fun w' hS' => by go_simp; rw [IntKind.wrap_i64]; omega⟩) hHeld ?_
              (try simp only [Act.put, List.setIfInBounds_toArray, List.set_cons_zero, List.set_cons_succ])
              refine take_at 26 41 (.bool false) rfl rfl (by kernel_rfl) (by kernel_rfl) (by kernel_rfl) (fun _ _ _ h => h) (Or.inl ⟨by kernel_rfl, fun w' hS' => by go_simp <;> omega⟩) hHeld ?_
              (try simp only [Act.put, List.setIfInBounds_toArray, List.set_cons_zero, List.set_cons_succ])
              refine take_at 27 42 (.bool false) rfl rfl (by kernel_rfl) (by kernel_rfl) (by kernel_rfl) (fun _ _ _ h => h) (Or.inl ⟨by kernel_rfl, fun w' hS' => by go_simp⟩) hHeld ?_
              (try simp only [Act.put, List.setIfInBounds_toArray, List.set_cons_zero, List.set_cons_succ])
              refine take_at 28 43 (.bool false) rfl rfl (by kernel_rfl) (by kernel_rfl) (by kernel_rfl) (fun _ _ _ h => h) (Or.inl ⟨by kernel_rfl, fun w' hS' => by go_simp⟩) hHeld ?_
              (try simp only [Act.put, List.setIfInBounds_toArray, List.set_cons_zero, List.set_cons_succ])
              refine wpAnyH_done (by kernel_rfl) ?_ _
              refine NoPanic.normal ?_
              have HRR := hHeld.1
              clear hHeld
              go_wp2_with fail
              go_roundw
              case rel => exact ⟨i + 1, by omega, by go_num, by rw [List.range_succ, List.all_append, HAll.out]; simp [HDK.out], HB.out, HRR⟩
              case measure => simp [intOf]; omega
          · have HDK : Hid (docK d i = true) := by show docK d i = true; rw [HDE.out]; simp [hk2]
            refine wp_region_noPanic ?_
            refine wp_region_held_drew (S := fun w' => RowAt w' w.heap.size #[.slice (some ⟨b, off, none⟩) n cap] 29 ∧ BlockIs w' b (off + i * 6) (K, V, t, R, C, l) ta tn tc ca cn cc) (by kernel_rfl) ⟨HR.out, HI.out.below ((Below.refl _ _).drew) hbl⟩ (fun hHeld => ?_)
            refine take_at 0 15 (.pointer (some ⟨w.heap.size, 0, none⟩)) rfl rfl (by kernel_rfl) (by kernel_rfl) (by kernel_rfl) (fun _ _ _ h => h) (Or.inl ⟨by kernel_rfl, fun w' hS' => by go_simp⟩) hHeld ?_
            (try simp only [Act.put, List.setIfInBounds_toArray, List.set_cons_zero, List.set_cons_succ])
            refine take_at 1 16 (.slice (some ⟨b, off, none⟩) n cap) rfl rfl (by kernel_rfl) (by kernel_rfl) (by kernel_rfl) (fun _ _ _ h => h) (Or.inl ⟨by kernel_rfl, fun w' hS' => by have hc := RowAt.cell hS'.1 0; go_simp⟩) hHeld ?_
            (try simp only [Act.put, List.setIfInBounds_toArray, List.set_cons_zero, List.set_cons_succ])
            refine take_at 2 17 (.int .i64 i) rfl rfl (by kernel_rfl) (by kernel_rfl) (by kernel_rfl) (fun _ _ _ h => h) (Or.inl ⟨by kernel_rfl, fun w' hS' => by go_simp⟩) hHeld ?_
            (try simp only [Act.put, List.setIfInBounds_toArray, List.set_cons_zero, List.set_cons_succ])
            refine take_at 3 18 (.pointer (some ⟨b, off + i * 6, none⟩)) rfl rfl (by kernel_rfl) (by kernel_rfl) (by kernel_rfl) (fun _ _ _ h => h) (Or.inl ⟨by kernel_rfl, fun w' hS' => by go_simp⟩) hHeld ?_
            (try simp only [Act.put, List.setIfInBounds_toArray, List.set_cons_zero, List.set_cons_succ])
            refine take_at 4 19 (.agg #[.int .i64 K, .int .i64 V, .slice ta tn tc, .int .i64 R, .int .i64 C, .slice ca cn cc]) rfl rfl (by kernel_rfl) (by kernel_rfl) (by kernel_rfl) (fun _ _ _ h => h) (Or.inl ⟨by kernel_rfl, fun w' hS' => by obtain ⟨e0, e1, e2, e3, e4, e5, -, -⟩ := hS'.2; go_simp⟩) hHeld ?_
            (try simp only [Act.put, List.setIfInBounds_toArray, List.set_cons_zero, List.set_cons_succ])
            replace HB : Hid (Below w.heap.size w wr.drew) := HB.out.drew
            replace HD : Hid (Dc wr.drew (some ⟨b, off, none⟩) n cap d) := HD.out.below ((Below.refl _ _).drew)
            replace hbl : b < wr.drew.heap.size := hbl
            clear HR HI
            generalize wr.drew = u0 at HB HD hbl hHeld ⊢
            refine wpAnyH_ready (rs := [5]) (by kernel_rfl) (by simp) ?_
            refine AllReadyH.cons rfl (fun K0 hK => ?_) AllReadyH.nil
            go_simp
            go_at_call 30
            refine (l3Block_is HBL.out hHeld.2.2.2.2.2.2.2.1 hHeld.2.2.2.2.2.2.2.2).mono ?_
            rintro e u1 ⟨rfl, hb1⟩
            replace HB : Hid (Below w.heap.size w u1) := HB.out.trans (hb1.mono HB.out.size)
            have HH : Hid (RowAt u1 w.heap.size #[.slice (some ⟨b, off, none⟩) n cap] 29 ∧ BlockIs u1 b (off + i * 6) (K, V, t, R, C, l) ta tn tc ca cn cc) := ⟨hHeld.1.below hb1 hHeld.1.lt, hHeld.2.below hb1 (by have := hb1.size; omega)⟩
            replace HD : Hid (Dc u1 (some ⟨b, off, none⟩) n cap d) := HD.out.below hb1
            replace hbl : b < u1.heap.size := by have := hb1.size; omega
            clear hb1 hHeld
            go_wp2_with fail
            refine hK.out _ _ HH.out (fun hHeld => ?_)
            clear hK K0 HH
            (try simp only [Act.put, List.setIfInBounds_toArray, List.set_cons_zero, List.set_cons_succ])
            refine take_at 6 21 (.bool false) rfl rfl (by kernel_rfl) (by kernel_rfl) (by kernel_rfl) (fun _ _ _ h => h) (Or.inl ⟨by kernel_rfl, fun w' hS' => by go_simp⟩) hHeld ?_
            (try simp only [Act.put, List.setIfInBounds_toArray, List.set_cons_zero, List.set_cons_succ])
            refine take_at 7 22 (.bool false) rfl rfl (by kernel_rfl) (by kernel_rfl) (by kernel_rfl) (fun _ _ _ h => h) (Or.inl ⟨by kernel_rfl, fun w' hS' => by go_simp⟩) hHeld ?_
            (try simp only [Act.put, List.setIfInBounds_toArray, List.set_cons_zero, List.set_cons_succ])
            refine take_at 8 23 (.pointer (some ⟨w.heap.size, 0, none⟩)) rfl rfl (by kernel_rfl) (by kernel_rfl) (by kernel_rfl) (fun _ _ _ h => h) (Or.inl ⟨by kernel_rfl, fun w' hS' => by go_simp⟩) hHeld ?_
            (try simp only [Act.put, List.setIfInBounds_toArray, List.set_cons_zero, List.set_cons_succ])
            refine take_at 9 24 (.slice (some ⟨b, off, none⟩) n cap) rfl rfl (by kernel_rfl) (by kernel_rfl) (by kernel_rfl) (fun _ _ _ h => h) (Or.inl ⟨by kernel_rfl, fun w' hS' => by have hc := RowAt.cell hS'.1 0; go_simp⟩) hHeld ?_
            (try simp only [Act.put, List.setIfInBounds_toArray, List.set_cons_zero, List.set_cons_succ])
            refine take_at 10 25 (.int .i64 i) rfl rfl (by kernel_rfl) (by kernel_rfl) (by kernel_rfl) (fun _ _ _ h => h) (Or.inl ⟨by kernel_rfl, fun w' hS' => by go_simp⟩) hHeld ?_
            (try simp only [Act.put, List.setIfInBounds_toArray, List.set_cons_zero, List.set_cons_succ])
            refine take_at 11 26 (.pointer (some ⟨b, off + i * 6, none⟩)) rfl rfl (by kernel_rfl) (by kernel_rfl) (by kernel_rfl) (fun _ _ _ h => h) (Or.inl ⟨by kernel_rfl, fun w' hS' => by go_simp⟩) hHeld ?_
            (try simp only [Act.put, List.setIfInBounds_toArray, List.set_cons_zero, List.set_cons_succ])
            refine take_at 12 27 (.pointer (some ⟨b, off + i * 6, none⟩)) rfl rfl (by kernel_rfl) (by kernel_rfl) (by kernel_rfl) (fun _ _ _ h => h) (Or.inl ⟨by kernel_rfl, fun w' hS' => by go_simp⟩) hHeld ?_
            (try simp only [Act.put, List.setIfInBounds_toArray, List.set_cons_zero, List.set_cons_succ])
            refine take_at 13 28 (.int .i64 K) rfl rfl (by kernel_rfl) (by kernel_rfl) (by kernel_rfl) (fun _ _ _ h => h) (Or.inl ⟨by kernel_rfl, fun w' hS' => by have hc := hS'.2.1; go_simp⟩) hHeld ?_
            (try simp only [Act.put, List.setIfInBounds_toArray, List.set_cons_zero, List.set_cons_succ])
            refine take_at 14 29 (.bool false) rfl rfl (by kernel_rfl) (by kernel_rfl) (by kernel_rfl) (fun _ _ _ h => h) (Or.inl ⟨by kernel_rfl, fun w' hS' => by go_simp <;> omega⟩) hHeld ?_
            (try simp only [Act.put, List.setIfInBounds_toArray, List.set_cons_zero, List.set_cons_succ])
            refine take_at 15 30 (.bool false) rfl rfl (by kernel_rfl) (by kernel_rfl) (by kernel_rfl) (fun _ _ _ h => h) (Or.inl ⟨by kernel_rfl, fun w' hS' => by go_simp⟩) hHeld ?_
            (try simp only [Act.put, List.setIfInBounds_toArray, List.set_cons_zero, List.set_cons_succ])
            refine take_at 16 31 (undef) rfl rfl (by kernel_rfl) (by kernel_rfl) (by kernel_rfl) (fun _ _ _ h => h) (Or.inr ⟨by kernel_rfl, rfl⟩) hHeld ?_
            (try simp only [Act.put, List.setIfInBounds_toArray, List.set_cons_zero, List.set_cons_succ])
            refine take_at 17 32 (undef) rfl rfl (by kernel_rfl) (by kernel_rfl) (by kernel_rfl) (fun _ _ _ h => h) (Or.inr ⟨by kernel_rfl, rfl⟩) hHeld ?_
            (try simp only [Act.put, List.setIfInBounds_toArray, List.set_cons_zero, List.set_cons_succ])
            refine take_at 18 33 (undef) rfl rfl (by kernel_rfl) (by kernel_rfl) (by kernel_rfl) (fun _ _ _ h => h) (Or.inr ⟨by kernel_rfl, rfl⟩) hHeld ?_
            (try simp only [Act.put, List.setIfInBounds_toArray, List.set_cons_zero, List.set_cons_succ])
            refine take_at 19 34 (undef) rfl rfl (by kernel_rfl) (by kernel_rfl) (by kernel_rfl) (fun _ _ _ h => h) (Or.inr ⟨by kernel_rfl, rfl⟩) hHeld ?_
            (try simp only [Act.put, List.setIfInBounds_toArray, List.set_cons_zero, List.set_cons_succ])
            refine take_at 20 35 (undef) rfl rfl (by kernel_rfl) (by kernel_rfl) (by kernel_rfl) (fun _ _ _ h => h) (Or.inr ⟨by kernel_rfl, rfl⟩) hHeld ?_
            (try simp only [Act.put, List.setIfInBounds_toArray, List.set_cons_zero, List.set_cons_succ])
            refine take_at 21 36 (undef) rfl rfl (by kernel_rfl) (by kernel_rfl) (by kernel_rfl) (fun _ _ _ h => h) (Or.inr ⟨by kernel_rfl, rfl⟩) hHeld ?_
            (try simp only [Act.put, List.setIfInBounds_toArray, List.set_cons_zero, List.set_cons_succ])
            refine take_at 22 37 (undef) rfl rfl (by kernel_rfl) (by kernel_rfl) (by kernel_rfl) (fun _ _ _ h => h) (Or.inr ⟨by kernel_rfl, rfl⟩) hHeld ?_
            (try simp only [Act.put, List.setIfInBounds_toArray, List.set_cons_zero, List.set_cons_succ])
            refine take_at 23 38 (undef) rfl rfl (by kernel_rfl) (by kernel_rfl) (by kernel_rfl) (fun _ _ _ h => h) (Or.inr ⟨by kernel_rfl, rfl⟩) hHeld ?_
            (try simp only [Act.put, List.setIfInBounds_toArray, List.set_cons_zero, List.set_cons_succ])
            refine take_at 24 39 (undef) rfl rfl (by kernel_rfl) (by kernel_rfl) (by kernel_rfl) (fun _ _ _ h => h) (Or.inr ⟨by kernel_rfl, rfl⟩) hHeld ?_
            (try simp only [Act.put, List.setIfInBounds_toArray, List.set_cons_zero, List.set_cons_succ])
            refine take_at 25 40 (undef) rfl rfl (by kernel_rfl) (by kernel_rfl) (by kernel_rfl) (fun _ _ _ h => h) (Or.inr ⟨by kernel_rfl, rfl⟩) hHeld ?_
            (try simp only [Act.put, List.setIfInBounds_toArray, List.set_cons_zero, List.set_cons_succ])
            refine take_at 26 41 (undef) rfl rfl (by kernel_rfl) (by kernel_rfl) (by kernel_rfl) (fun _ _ _ h => h) (Or.inr ⟨by kernel_rfl, rfl⟩) hHeld ?_
            (try simp only [Act.put, List.setIfInBounds_toArray, List.set_cons_zero, List.set_cons_succ])
            refine take_at 27 42 (.bool false) rfl rfl (by kernel_rfl) (by kernel_rfl) (by kernel_rfl) (fun _ _ _ h => h) (Or.inl ⟨by kernel_rfl, fun w' hS' => by go_simp⟩) hHeld ?_
            (try simp only [Act.put, List.setIfInBounds_toArray, List.set_cons_zero, List.set_cons_succ])
            refine take_at 28 43 (.bool false) rfl rfl (by kernel_rfl) (by kernel_rfl) (by kernel_rfl) (fun _ _ _ h => h) (Or.inl ⟨by kernel_rfl, fun w' hS' => by go_simp⟩) hHeld ?_
            (try simp only [Act.put, List.setIfInBounds_toArray, List.set_cons_zero, List.set_cons_succ])
            refine wpAnyH_done (by kernel_rfl) ?_ _
            refine NoPanic.normal ?_
            have HRR := hHeld.1
            clear hHeld
            go_wp2_with fail
            go_roundw
            case rel => exact ⟨i + 1, by omega, by go_num, by rw [List.range_succ, List.all_append, HAll.out]; simp [HDK.out], HB.out, HRR⟩
            case measure => simp [intOf]; omega
      · have hib : ¬ (i : Int) < (n : Int) := by omega
        obtain rfl : i = n := by omega
        go_wp2_with fail
        go_ret
        refine ⟨?_, HB.out⟩
        have hd : d.length ≤ 8 := by have := HN.out; omega
        rw [← HX.out]
        unfold docB
        rw [decide_eq_true hd, Bool.true_and, ← HN.out, HAll.out]
        rfl
end Go.Proofs.Ytlpfflcogefbjaa
namespace Go.Proofs.Ytlpfflcogefbjaa
open Go.RowKit

theorem block_part (x : Bl) : blockB x = true ↔ kindB x ∧ partB x.1 x.2.1 x.2.2.1 x.2.2.2.1 x.2.2.2.2.1 x.2.2.2.2.2 = true ∧ partOkB x = true := by
  obtain ⟨k, v, t, R, C, l⟩ := x
  unfold blockB partB partOkB kindB
  simp only
  by_cases h1 : k = 1
  · subst h1
    simp [and_assoc, and_comm, and_left_comm]
  · by_cases h2 : k = 2
    · subst h2
      simp [and_assoc, and_comm, and_left_comm]
    · by_cases h3 : k = 3
      · subst h3
        simp [and_assoc, and_comm]
      · simp [h1, h2, h3]
theorem getD_bl {d : List Bl} {k : Nat} (hk : k < d.length) : d.getD k bl0 = d[k] := by simp [List.getD, hk]
/-- A document is ok just if each block is a part, and the parts are ok. -/
theorem doc_parts (d : List Bl) : docB d = true ↔ d.length ≤ 8 ∧ (∀ x ∈ d, kindB x ∧ partB x.1 x.2.1 x.2.2.1 x.2.2.2.1 x.2.2.2.2.1 x.2.2.2.2.2 = true) ∧ outlB d = true := by
  unfold docB outlB
  rw [Bool.and_eq_true, Bool.and_eq_true, decide_eq_true_eq, List.all_eq_true, List.all_eq_true]
  constructor
  · rintro ⟨h8, h⟩
    have hall : ∀ k, k < d.length → docK d k = true := fun k hk => h k (List.mem_range.2 hk)
    refine ⟨h8, fun x hx => ?_, h8, fun k hk => ?_⟩
    · obtain ⟨k, hk, e⟩ := List.getElem_of_mem hx
      have h1 := hall k hk
      unfold docK at h1
      rw [Bool.and_eq_true, block_part, getD_bl hk, e] at h1
      exact ⟨h1.1.1, h1.1.2.1⟩
    · have hk' := List.mem_range.1 hk
      have h1 := hall k hk'
      have ha := ahead_small (d := d) (i := k) (List.all_eq_true.2 fun j hj => hall j (by have := List.mem_range.1 hj; omega))
      unfold docK at h1
      rw [Bool.and_eq_true, block_part] at h1
      unfold outK
      rw [Bool.and_eq_true]
      refine ⟨h1.1.2.2, ?_⟩
      unfold lvN
      by_cases h2 : (d.getD k bl0).1 = 2
      · rw [if_pos h2]
        have h3 := h1.2
        rw [decide_eq_true h2, Bool.true_and] at h3
        exact h3
      · rw [if_neg h2, decide_eq_false (by omega)]
        rfl
  · rintro ⟨h8, hp, _, ho⟩
    refine ⟨h8, fun k hk => ?_⟩
    have hk' := List.mem_range.1 hk
    have h1 := ho k hk
    have h2 := hp (d.getD k bl0) (by rw [getD_bl hk']; exact List.getElem_mem hk')
    unfold outK at h1
    rw [Bool.and_eq_true] at h1
    unfold docK
    rw [Bool.and_eq_true, block_part]
    refine ⟨⟨h2.1, h2.2, h1.1⟩, ?_⟩
    have h3 := h1.2
    unfold lvN at h3
    by_cases hi : (d.getD k bl0).1 = 2
    · rw [if_pos hi] at h3
      rw [decide_eq_true hi, Bool.true_and]
      exact h3
    · rw [decide_eq_false hi, Bool.false_and]
      rfl
end Go.Proofs.Ytlpfflcogefbjaa
namespace Go.Proofs.Ytlpfflcogefbjaa
open Go.RowKit

/-- A value that owns a list of parts. -/
def OwnP (w : World) (B : Nat) (v : Value) (ps : List Value) : Prop := w.ownsRow B 65 1 v ps.length ps
section
variable {w w' : World} {B : Nat} {v : Value} {ps : List Value}
theorem OwnP.shape (h : OwnP w B v ps) : ∃ a cap, v = .slice a ps.length cap := by
  have h' := h
  unfold OwnP at h'
  rcases h'.2 with ⟨rfl, h0⟩ | ⟨g, cap, cur, rfl, r⟩
  · exact ⟨none, 0, by rw [h0]⟩
  · exact ⟨_, _, rfl⟩
theorem OwnP.below (h : OwnP w B v ps) (hb : Below w.heap.size w w') : OwnP w' B v ps := own_below h hb
theorem OwnP.nil (w : World) (B : Nat) : OwnP w B (.slice none 0 0) [] := World.ownsRow_nil _ _ _ _
theorem OwnP.len {a : Option Addr} {n cap : Nat} (h : OwnP w B (.slice a n cap) ps) : n = ps.length := by
  obtain ⟨a', c', he⟩ := h.shape
  simp only [Value.slice.injEq] at he
  exact he.2.1
theorem OwnP.row {a : Option Addr} {n cap : Nat} (h : OwnP w B (.slice a n cap) ps) : w.ownsRow B 65 1 (.slice a n cap) n ps := by
  have := h.len
  subst this
  exact h
end
theorem ownP_step {B : Nat} {w wr w1 : World} {a : Option Addr} {k c : Nat} {v' : Value} {l : List Value} {x : Value} {o : Obj} (ho : OwnP wr B (.slice a k c) l) (hbl : Below B w wr) (hB : B ≤ wr.heap.size)
    (hown : w1.ownsRow B 65 1 v' (k + 1) (l ++ [x])) (hgrow : (wr.alloc o).grownBy w1 (Value.slice a k c).ownBlock) :
    ∃ a' c', v' = .slice a' (k + 1) c' ∧ OwnP w1 B (.slice a' (k + 1) c') (l ++ [x]) ∧ Below B w w1 := by
  have hk := ho.len
  have h1 : OwnP w1 B v' (l ++ [x]) := by
    unfold OwnP
    rw [List.length_append, show l.length + [x].length = k + 1 by simp; omega]
    exact hown
  obtain ⟨a', c', rfl⟩ := h1.shape
  have e : (l ++ [x]).length = k + 1 := by simp; omega
  rw [e] at h1 ⊢
  refine ⟨a', c', rfl, h1, ?_⟩
  exact (hbl.alloc hB _).grown hgrow (by simp; omega) (fun q hq => (ho.row.lt q hq).1)
/-- A part that reads as a block. -/
def PartIs (w : World) (p : Value) (x : Bl) : Prop := ∃ ta tn tc ca cn cc, p = partV x.1 x.2.1 ta tn tc x.2.2.2.1 x.2.2.2.2.1 ca cn cc ∧ Txt w ta tn tc x.2.2.1 ∧ Tab w ca cn cc x.2.2.2.2.2
theorem PartIs.below {w w' : World} {p : Value} {x : Bl} (h : PartIs w p x) (hb : Below w.heap.size w w') : PartIs w' p x := by
  obtain ⟨ta, tn, tc, ca, cn, cc, h0, ht, hc⟩ := h
  exact ⟨ta, tn, tc, ca, cn, cc, h0, ht.below hb, hc.below hb⟩
theorem PartIs.belowB {w w' : World} {B : Nat} {p : Value} {x : Bl} (h : PartIs w p x) (hs : w.heap.size = B) (hb : Below B w w') : PartIs w' p x := by
  subst hs
  exact h.below hb
/-- Parts that read as blocks. -/
def PartsAre (w : World) (ps : List Value) (d : List Bl) : Prop := ps.length = d.length ∧ ∀ k, k < d.length → PartIs w (ps.getD k .nilIface) (d.getD k bl0)
theorem PartsAre.below {w w' : World} {ps : List Value} {d : List Bl} (h : PartsAre w ps d) (hb : Below w.heap.size w w') : PartsAre w' ps d := ⟨h.1, fun k hk => (h.2 k hk).below hb⟩
theorem PartsAre.nil (w : World) : PartsAre w [] [] := ⟨rfl, fun k hk => absurd hk (by simp)⟩
theorem PartsAre.snoc {w : World} {ps : List Value} {d : List Bl} {p : Value} {x : Bl} (h : PartsAre w ps d) (hp : PartIs w p x) : PartsAre w (ps ++ [p]) (d ++ [x]) := by
  refine ⟨by simp [h.1], fun k hk => ?_⟩
  by_cases hlt : k < d.length
  · have e1 : (ps ++ [p]).getD k .nilIface = ps.getD k .nilIface := by simp [List.getD, List.getElem?_append_left (show k < ps.length by rw [h.1]; exact hlt)]
    have e2 : (d ++ [x]).getD k bl0 = d.getD k bl0 := by simp [List.getD, List.getElem?_append_left hlt]
    rw [e1, e2]
    exact h.2 k hlt
  · have ek : k = d.length := by simp at hk; omega
    subst ek
    have e1 : (ps ++ [p]).getD d.length .nilIface = p := by simp [List.getD, ← h.1]
    have e2 : (d ++ [x]).getD d.length bl0 = x := by simp [List.getD]
    rw [e1, e2]
    exact hp
theorem outl_of {w : World} {B : Nat} {a : Option Addr} {n c : Nat} {ps : List Value} {d : List Bl} (h : OwnP w B (.slice a n c) ps) (hp : PartsAre w ps d) : Outl w a n c d := by
  have hn := h.len
  have h' := h.row
  rcases h'.2 with ⟨hv, h0⟩ | ⟨g, cap, cur, hv, hg, hgg, h1, h2, h3, h4⟩
  · cases hv
    exact ⟨by rw [hn, hp.1], Nat.le_refl _, by unfold maxLen; omega, .inl (List.eq_nil_of_length_eq_zero (by rw [← hp.1]; omega))⟩
  · simp only [Value.slice.injEq] at hv
    obtain ⟨rfl, -, rfl⟩ := hv
    refine ⟨by rw [hn, hp.1], h1, h2, .inr ⟨g, 0, rfl, ?_, fun k hk => ?_⟩⟩
    · exact (Array.getElem?_eq_some_iff.1 hgg).1
    · obtain ⟨ta, tn, tc, ca, cn, cc, e, ht, hc⟩ := hp.2 k hk
      refine ⟨ta, tn, tc, ca, cn, cc, ?_, ht, hc⟩
      have hk' : k < n := by rw [hn, hp.1]; exact hk
      have := h'.cellAt k (by omega)
      rw [Nat.zero_add, this, ← e]
      simp [List.getD, show k < ps.length by omega]
theorem Try.info65 : (Try.prog.info? 65).map (fun i => (i.zero, i.size, i.bytes)) = some (some .nilIface, 1, 16) := by kernel_rfl
theorem part_one (k v : Int) (ta : Option Addr) (tn tc : Nat) (R C : Int) (ca : Option Addr) (cn cc : Nat) : (partV k v ta tn tc R C ca cn cc).oneCell' = true := by
  unfold partV
  by_cases h1 : k = 1
  · rw [if_pos h1]; rfl
  · rw [if_neg h1]
    by_cases h2 : k = 2
    · rw [if_pos h2]; rfl
    · rw [if_neg h2]
      by_cases h3 : k = 3
      · rw [if_pos h3]; rfl
      · rw [if_neg h3]; rfl
theorem cell_new1p (w : World) (x : Value) (t : TypeId) : ∀ j u, [x][j]? = some u → (w.alloc (.cells #[x] t)).cell? ((⟨w.heap.size, 0, none⟩ : Addr).add j) = some u := by
  intro j u hj
  match j, hj with
  | 0, hj => simp at hj; subst hj; simp [Addr.add]
  | (j + 1), hj => simp at hj
theorem partB_kind {k v : Int} {t : List Sg} {R C : Int} {l : List Cl} (h : partB k v t R C l = true) : k = 1 ∨ k = 2 ∨ k = 3 := by
  unfold partB at h
  by_cases h1 : k = 1
  · exact .inl h1
  · by_cases h2 : k = 2
    · exact .inr (.inl h2)
    · by_cases h3 : k = 3
      · exact .inr (.inr h3)
      · simp [h1, h2, h3] at h
/-- What a block has nothing of that is not of its kind. -/
def partBB (x : Bl) : Bool := partB x.1 x.2.1 x.2.2.1 x.2.2.2.1 x.2.2.2.2.1 x.2.2.2.2.2
theorem doc_parts2 (d : List Bl) : docB d = true ↔ d.length ≤ 8 ∧ d.all partBB = true ∧ outlB d = true := by
  rw [doc_parts, List.all_eq_true]
  constructor
  · rintro ⟨h1, h2, h3⟩
    exact ⟨h1, fun x hx => (h2 x hx).2, h3⟩
  · rintro ⟨h1, h2, h3⟩
    exact ⟨h1, fun x hx => ⟨partB_kind (h2 x hx), h2 x hx⟩, h3⟩

set_option maxRecDepth 100000 in
set_option maxHeartbeats 8000000 in
theorem outlineOf_is {a : Option Addr} {n cap : Nat} {d : List Bl} {w : World} {x : Bool} (hx : docB d = x) (h : Dc w a n cap d) :
    Calls Try.prog 33 #[.agg #[.slice a n cap]] w fun e w' => ((x = false ∧ e = .returned (.tuple #[.slice none 0 0, .bool false])) ∨ (x = true ∧ ∃ pa pc ps, e = .returned (.tuple #[.slice pa n pc, .bool true]) ∧ OwnP w' w.heap.size (.slice pa n pc) ps ∧ PartsAre w ps d)) ∧ Below w.heap.size w w' := by
  have HX : Hid (docB d = x) := hx
  have hc := h.2.1
  have hm := h.2.2.1
  unfold maxLen at hm
  have HN : Hid (n = d.length) := h.1
  have H : Hid (Dc w a n cap d) := h
  clear h hx
  obtain ⟨i0, hi, hz0, hz1, hz2⟩ := info_parts Try.info65
  go_enter Try.func33, Try.ntmps33
  by_cases h8 : 8 < n
  · have h8' : (8 : Int) < (n : Int) := by omega
    go_wp2_with fail
    go_ret2
    refine ⟨.inl ⟨?_, rfl⟩, (Below.refl _ _).alloc (Nat.le_refl _) _⟩
    rw [← HX.out]
    unfold docB
    rw [decide_eq_false (by have := HN.out; omega), Bool.false_and]
  · have h8' : ¬ (8 : Int) < (n : Int) := by omega
    go_upto_region 4 with fail
    have B0 : Below w.heap.size w (w.alloc (.cells #[.slice a n cap] 29)) := (Below.refl _ _).alloc (Nat.le_refl _) _
    have D0 : Hid (Dc (w.alloc (.cells #[.slice a n cap] 29)) a n cap d) := H.out.below B0
    have G0 : RowAt (w.alloc (.cells #[.slice a n cap] 29)) w.heap.size #[.slice a n cap] 29 := rowAt_new _ _ _
    generalize w.alloc (.cells #[.slice a n cap] 29) = v0 at B0 D0 G0 ⊢
    have k0 : v0.cell? ⟨w.heap.size, 0, none⟩ = some (.slice a n cap) := G0.cell 0
    go_wp2_with fail
    clear k0
    have s0 := B0.size
    have HB0 : Hid (Below w.heap.size w v0) := B0
    clear B0
    go_loopw [4, 16] (fun pv iv wr => ∃ (i : Nat) (pa : Option Addr) (pc : Nat) (ps : List Value), i ≤ n ∧ iv = .int .i64 i ∧ pv = .slice pa i pc ∧ OwnP wr v0.heap.size (.slice pa i pc) ps ∧ PartsAre w ps (d.take i) ∧ (d.take i).all partBB = true ∧ Below v0.heap.size v0 wr) (fun _ iv _ => n - (intOf iv).toNat)
    case atStart => exact ⟨0, none, 0, [], Nat.zero_le _, rfl, rfl, OwnP.nil _ _, PartsAre.nil _, rfl, Below.refl _ _⟩
    case round =>
      obtain ⟨i, pa, pc, ps, hi', rfl, rfl, ho, hp, hall, hb⟩ := hrel
      have HO : Hid (OwnP wr v0.heap.size (.slice pa i pc) ps) := ho
      have HP : Hid (PartsAre w ps (d.take i)) := hp
      have HA : Hid ((d.take i).all partBB = true) := hall
      have HB : Hid (Below v0.heap.size v0 wr) := hb
      have sB := hb.size
      clear ho hp hall
      by_cases hlt : i < n
      · have hil : i < d.length := by have := HN.out; omega
        have hib : (i : Int) < (n : Int) := by omega
        have hi0 : (0 : Int) ≤ (i : Int) := by omega
        rcases H.out.2.2.2 with e | ⟨b, off, rfl, hbl, hcl⟩
        · rw [e] at hil
          exact absurd hil (by simp)
        obtain ⟨ta, tn, tc, ca, cn, cc, hblk0⟩ := hcl i hil
        have hblk := hblk0.below (HB0.out.trans (hb.mono s0)) hbl
        have HTK : Hid (d.take (i + 1) = d.take i ++ [d.getD i bl0]) := by
          show d.take (i + 1) = d.take i ++ [d.getD i bl0]
          rw [List.take_succ_eq_append_getElem hil, getD_bl hil]
        have HMEM : Hid (d.getD i bl0 ∈ d) := by
          show d.getD i bl0 ∈ d
          rw [getD_bl hil]
          exact List.getElem_mem hil
        obtain ⟨⟨K, V, t, R, C, l⟩, hx⟩ : ∃ x, x = d.getD i bl0 := ⟨_, rfl⟩
        rw [← hx] at hblk hblk0 HTK HMEM
        have HPI : Hid (PartIs w (partV K V ta tn tc R C ca cn cc) (K, V, t, R, C, l)) := ⟨ta, tn, tc, ca, cn, cc, rfl, hblk0.2.2.2.2.2.2.1, hblk0.2.2.2.2.2.2.2⟩
        clear hblk0
        obtain ⟨c0, c1, c2, c3, c4, c5, ht, htb⟩ := hblk
        simp only at c0 c1 c3 c4 ht htb
        obtain ⟨pb, HPB⟩ : ∃ b, Hid (partB K V t R C l = b) := ⟨_, rfl⟩
        clear hcl hx hb
        go_upto_region 7 with fail
        have hbA : Below wr.heap.size wr (wr.alloc (.cells #[.int .i64 K, .int .i64 V, .slice ta tn tc, .int .i64 R, .int .i64 C, .slice ca cn cc] 49)) := (Below.refl _ _).alloc (Nat.le_refl _) _
        have gA : RowAt (wr.alloc (.cells #[.int .i64 K, .int .i64 V, .slice ta tn tc, .int .i64 R, .int .i64 C, .slice ca cn cc] 49)) wr.heap.size #[.int .i64 K, .int .i64 V, .slice ta tn tc, .int .i64 R, .int .i64 C, .slice ca cn cc] 49 := rowAt_new _ _ _
        generalize wr.alloc (.cells #[.int .i64 K, .int .i64 V, .slice ta tn tc, .int .i64 R, .int .i64 C, .slice ca cn cc] 49) = u0 at hbA gA ⊢
        have HT : Hid (Txt u0 ta tn tc t) := ht.below hbA
        have HTB : Hid (Tab u0 ca cn cc l) := htb.below hbA
        have q0 : u0.cell? ⟨wr.heap.size, 0, none⟩ = some (.int .i64 K) := gA.cell 0
        have q1 : u0.cell? ⟨wr.heap.size, 1, none⟩ = some (.int .i64 V) := gA.cell 1
        have q2 : u0.cell? ⟨wr.heap.size, 2, none⟩ = some (.slice ta tn tc) := gA.cell 2
        have q3 : u0.cell? ⟨wr.heap.size, 3, none⟩ = some (.int .i64 R) := gA.cell 3
        have q4 : u0.cell? ⟨wr.heap.size, 4, none⟩ = some (.int .i64 C) := gA.cell 4
        have q5 : u0.cell? ⟨wr.heap.size, 5, none⟩ = some (.slice ca cn cc) := gA.cell 5
        have HBA : Hid (Below wr.heap.size wr u0) := hbA
        have sA := hbA.size
        clear ht htb c0 c1 c2 c3 c4 c5 hbA gA
        go_wp2_with fail
        refine (partOf_is HT.out HTB.out).mono ?_
        rintro e u1 ⟨rfl, hb1⟩
        rw [HPB.out]
        have hbB : Below wr.heap.size wr u1 := HBA.out.trans (hb1.mono sA)
        have s1 := hbB.size
        have HO1 : Hid (OwnP u1 v0.heap.size (.slice pa i pc) ps) := HO.out.below hbB
        have HB1 : Hid (Below v0.heap.size v0 u1) := HB.out.trans (hbB.mono sB)
        have hone := part_one K V ta tn tc R C ca cn cc
        clear q0 q1 q2 q3 q4 q5 hb1 hbB HBA
        cases pb
        · generalize partV K V ta tn tc R C ca cn cc = pv at HPI hone ⊢
          go_wp2_with fail
          go_ret2
          refine ⟨.inl ⟨?_, rfl⟩, HB0.out.trans (HB1.out.mono s0)⟩
          rw [← HX.out, ← Bool.not_eq_true, doc_parts2]
          rintro ⟨-, h2, -⟩
          have := List.all_eq_true.1 h2 _ HMEM.out
          rw [show partBB (K, V, t, R, C, l) = false from HPB.out] at this
          cases this
        · rcases partB_kind HPB.out with hK | hK | hK
          · subst hK
            have HP3 : Hid (PartIs w (.iface 111 (.agg #[.slice ta tn tc])) (1, V, t, R, C, l)) := HPI.out
            have ep : partV 1 V ta tn tc R C ca cn cc = .iface 111 (.agg #[.slice ta tn tc]) := rfl
            rw [ep]
            clear HPI hone ep
            go_wp2_with (at_builtin; refine wpList_append_own _ rfl (.tmp 27) (.tmp 29) 52 rfl v0.heap.size 65 i0 .nilIface 1 16 Try.underlying52 hi hz0 hz1 hz2 rfl (by decide) (.slice pa i pc) _ _ rfl (World.ownsRow.alloc HO1.out.row _) ⟨_, 0, none⟩ 1 1 [.iface 111 (.agg #[.slice ta tn tc])] rfl rfl (cell_new1p _ _ _) (by intro u hu; simp at hu; subst hu; rfl) (by unfold maxLen; omega) (by omega) (by simp; omega) ?_; intro v' u2 hown' hgrow _)
            obtain ⟨a', c', rfl, ho2, hb2⟩ := ownP_step (x := .iface 111 (.agg #[.slice ta tn tc])) HO1.out HB1.out (by omega) hown' hgrow
            go_roundw
            case rel =>
              refine ⟨i + 1, a', c', ps ++ [.iface 111 (.agg #[.slice ta tn tc])], by omega, by go_num, rfl, ho2, ?_, ?_, hb2⟩
              · rw [HTK.out]
                exact HP.out.snoc HP3.out
              · rw [HTK.out, List.all_append, HA.out]
                simp only [List.all_cons, List.all_nil, Bool.and_true, Bool.true_and]
                exact HPB.out
            case measure => simp [intOf]; omega
          · subst hK
            have HP3 : Hid (PartIs w (.iface 103 (.agg #[.int .i64 V, .slice ta tn tc])) (2, V, t, R, C, l)) := HPI.out
            have ep : partV 2 V ta tn tc R C ca cn cc = .iface 103 (.agg #[.int .i64 V, .slice ta tn tc]) := rfl
            rw [ep]
            clear HPI hone ep
            go_wp2_with (at_builtin; refine wpList_append_own _ rfl (.tmp 27) (.tmp 29) 52 rfl v0.heap.size 65 i0 .nilIface 1 16 Try.underlying52 hi hz0 hz1 hz2 rfl (by decide) (.slice pa i pc) _ _ rfl (World.ownsRow.alloc HO1.out.row _) ⟨_, 0, none⟩ 1 1 [.iface 103 (.agg #[.int .i64 V, .slice ta tn tc])] rfl rfl (cell_new1p _ _ _) (by intro u hu; simp at hu; subst hu; rfl) (by unfold maxLen; omega) (by omega) (by simp; omega) ?_; intro v' u2 hown' hgrow _)
            obtain ⟨a', c', rfl, ho2, hb2⟩ := ownP_step (x := .iface 103 (.agg #[.int .i64 V, .slice ta tn tc])) HO1.out HB1.out (by omega) hown' hgrow
            go_roundw
            case rel =>
              refine ⟨i + 1, a', c', ps ++ [.iface 103 (.agg #[.int .i64 V, .slice ta tn tc])], by omega, by go_num, rfl, ho2, ?_, ?_, hb2⟩
              · rw [HTK.out]
                exact HP.out.snoc HP3.out
              · rw [HTK.out, List.all_append, HA.out]
                simp only [List.all_cons, List.all_nil, Bool.and_true, Bool.true_and]
                exact HPB.out
            case measure => simp [intOf]; omega
          · subst hK
            have HP3 : Hid (PartIs w (.iface 119 (.agg #[.int .i64 R, .int .i64 C, .slice ca cn cc])) (3, V, t, R, C, l)) := HPI.out
            have ep : partV 3 V ta tn tc R C ca cn cc = .iface 119 (.agg #[.int .i64 R, .int .i64 C, .slice ca cn cc]) := rfl
            rw [ep]
            clear HPI hone ep
            go_wp2_with (at_builtin; refine wpList_append_own _ rfl (.tmp 27) (.tmp 29) 52 rfl v0.heap.size 65 i0 .nilIface 1 16 Try.underlying52 hi hz0 hz1 hz2 rfl (by decide) (.slice pa i pc) _ _ rfl (World.ownsRow.alloc HO1.out.row _) ⟨_, 0, none⟩ 1 1 [.iface 119 (.agg #[.int .i64 R, .int .i64 C, .slice ca cn cc])] rfl rfl (cell_new1p _ _ _) (by intro u hu; simp at hu; subst hu; rfl) (by unfold maxLen; omega) (by omega) (by simp; omega) ?_; intro v' u2 hown' hgrow _)
            obtain ⟨a', c', rfl, ho2, hb2⟩ := ownP_step (x := .iface 119 (.agg #[.int .i64 R, .int .i64 C, .slice ca cn cc])) HO1.out HB1.out (by omega) hown' hgrow
            go_roundw
            case rel =>
              refine ⟨i + 1, a', c', ps ++ [.iface 119 (.agg #[.int .i64 R, .int .i64 C, .slice ca cn cc])], by omega, by go_num, rfl, ho2, ?_, ?_, hb2⟩
              · rw [HTK.out]
                exact HP.out.snoc HP3.out
              · rw [HTK.out, List.all_append, HA.out]
                simp only [List.all_cons, List.all_nil, Bool.and_true, Bool.true_and]
                exact HPB.out
            case measure => simp [intOf]; omega
      · have hib : ¬ (i : Int) < (n : Int) := by omega
        obtain rfl : i = n := by omega
        have e : d.take i = d := List.take_of_length_le (by have := HN.out; omega)
        have HP2 : Hid (PartsAre w ps d) := by rw [← e]; exact HP.out
        have HA2 : Hid (d.all partBB = true) := by show d.all partBB = true; rw [← e]; exact HA.out
        have hk : ∀ y ∈ d, kindB y := fun y hy => partB_kind (List.all_eq_true.1 HA2.out y hy)
        obtain ⟨ob, HOB⟩ : ∃ b, Hid (outlB d = b) := ⟨_, rfl⟩
        have HOU : Hid (Outl wr pa i pc d) := outl_of HO.out (HP2.out.below (HB0.out.trans (hb.mono s0)))
        have HK : Hid (∀ y ∈ d, kindB y) := hk
        clear e hb hk
        cases ob
        · go_wp2_with (go_at_call 61; refine (outlineOk_is HOB.out HOU.out HK.out).mono ?_; rintro e u1 ⟨rfl, hb1⟩)
          go_ret2
          refine ⟨.inl ⟨?_, rfl⟩, HB0.out.trans ((HB.out.trans (hb1.mono sB)).mono s0)⟩
          rw [← HX.out, ← Bool.not_eq_true, doc_parts2, HOB.out]
          rintro ⟨-, -, h3⟩
          cases h3
        · go_wp2_with (go_at_call 61; refine (outlineOk_is HOB.out HOU.out HK.out).mono ?_; rintro e u1 ⟨rfl, hb1⟩)
          go_ret2
          refine ⟨.inr ⟨?_, pa, pc, ps, rfl, own_less (HO.out.below hb1) s0, HP2.out⟩, HB0.out.trans ((HB.out.trans (hb1.mono sB)).mono s0)⟩
          rw [← HX.out, doc_parts2]
          exact ⟨by have := HN.out; omega, HA2.out, HOB.out⟩
end Go.Proofs.Ytlpfflcogefbjaa
namespace Go.Proofs.Ytlpfflcogefbjaa
open Go.RowKit

set_option maxRecDepth 100000 in
set_option maxHeartbeats 2000000 in
theorem implDocOk_is {a : Option Addr} {n cap : Nat} {d : List Bl} {w : World} {x : Bool} (hx : docB d = x) (h : Dc w a n cap d) :
    Calls Try.prog 12 #[.agg #[.slice a n cap]] w fun e w' => e = .returned (.bool x) ∧ Below w.heap.size w w' := by
  have HX : Hid (docB d = x) := hx
  have H : Hid (Dc w a n cap d) := h
  clear h hx
  go_enter Try.func12, Try.ntmps12
  go_upto_region 1 with fail
  have B0 : Below w.heap.size w (w.alloc (.cells #[.slice a n cap] 29)) := (Below.refl _ _).alloc (Nat.le_refl _) _
  have D0 : Hid (Dc (w.alloc (.cells #[.slice a n cap] 29)) a n cap d) := H.out.below B0
  have G0 : RowAt (w.alloc (.cells #[.slice a n cap] 29)) w.heap.size #[.slice a n cap] 29 := rowAt_new _ _ _
  generalize w.alloc (.cells #[.slice a n cap] 29) = v0 at B0 D0 G0 ⊢
  have k0 : v0.cell? ⟨w.heap.size, 0, none⟩ = some (.slice a n cap) := G0.cell 0
  go_wp2_with fail
  refine (outlineOf_is HX.out D0.out).mono ?_
  rintro e w1 ⟨(⟨rfl, rfl⟩ | ⟨rfl, pa, pc, ps, rfl, -, -⟩), hb1⟩
  · go_wp2_with fail
    go_ret
    exact ⟨rfl, B0.trans (hb1.mono B0.size)⟩
  · go_wp2_with fail
    go_ret
    exact ⟨rfl, B0.trans (hb1.mono B0.size)⟩
end Go.Proofs.Ytlpfflcogefbjaa
