import Derived.Test.YtoliebgdlnjahaaBA5
namespace Go.Proofs.Ytoliebgdlnjahaa
open Go.RowKit

theorem Dc.first {w : World} {a : Option Addr} {n cap k : Nat} {d : List Bl} (h : Dc w a n cap d) (hk : k ≤ n) : Dc w a k cap (d.take k) := by
  obtain ⟨h1, h2, h3, h4⟩ := h
  refine ⟨by rw [List.length_take]; omega, by omega, h3, ?_⟩
  rcases h4 with h4 | ⟨b, off, h5, h6, h7⟩
  · exact .inl (by rw [h4]; simp)
  · refine .inr ⟨b, off, h5, h6, fun i hi => ?_⟩
    rw [List.length_take] at hi
    have := h7 i (by omega)
    rwa [show (d.take k).getD i bl0 = d.getD i bl0 by simp [List.getD, show i < k by omega]]
theorem dc_nil (w : World) : Dc w none 0 0 [] := ⟨rfl, Nat.le_refl _, by unfold maxLen; omega, .inl rfl⟩
theorem docB_nil : docB [] = true := by decide
theorem docB_take {d : List Bl} (h : docB d = true) (k : Nat) : docB (d.take k) = true := by
  unfold docB at h ⊢
  rw [Bool.and_eq_true, decide_eq_true_eq, List.all_eq_true] at h ⊢
  refine ⟨by rw [List.length_take]; omega, fun i hi => ?_⟩
  rw [List.mem_range, List.length_take] at hi
  have e : ∀ j, j < k → (d.take k).getD j bl0 = d.getD j bl0 := fun j hj => by simp [List.getD, hj]
  have := h.2 i (List.mem_range.2 (by omega))
  unfold docK at this ⊢
  rw [e i (by omega)]
  have ea : aheadN (d.take k) i = aheadN d i := by
    unfold aheadN
    split
    · rfl
    · rw [e (i - 1) (by omega)]
  rw [ea]
  exact this
set_option maxRecDepth 100000 in
set_option maxHeartbeats 8000000 in
theorem lawDocOk_walk (a : Option Addr) (n cap : Nat) (zs : List Int) (b : Option Addr) (n2 cap2 : Nat) (ys : List Int) (w : World) (h : Byt w.heap.size w a n cap zs) (h2 : Byt w.heap.size w b n2 cap2 ys) :
    Calls Try.prog 3 #[.slice a n cap, .slice b n2 cap2] w fun e w' => e = .returned (.bool true) ∧ Below w.heap.size w w' := by
  have HY : Hid (Byt w.heap.size w a n cap zs) := h
  have hc := h.2.1
  have hm := h.2.2.1
  have hc2 := h2.2.1
  have hm2 := h2.2.2.1
  unfold maxLen at hm hm2
  clear h h2
  by_cases hn : 1048576 < n
  · have hd : decide ((1048576 : Int) < (n : Int)) = true := by simp; omega
    go_enter Try.func3, Try.ntmps3
    go_wp2_with fail
    go_ret
    exact ⟨rfl, Below.refl _ _⟩
  have hd : decide ((1048576 : Int) < (n : Int)) = false := by simp; omega
  by_cases hn2 : 1048576 < n2
  · have hd2 : decide ((1048576 : Int) < (n2 : Int)) = true := by simp; omega
    go_enter Try.func3, Try.ntmps3
    go_wp2_with fail
    go_ret
    exact ⟨rfl, Below.refl _ _⟩
  have hd2 : decide ((1048576 : Int) < (n2 : Int)) = false := by simp; omega
  go_enter Try.func3, Try.ntmps3
  go_upto_region 4 with (go_at_call 9; refine (drDrawDocOk_any w.heap.size a n cap zs _ HY.out (Nat.le_refl _)).mono ?_; rintro e w1 ⟨⟨a', m', c', d, rfl, hT1, hS1⟩, hb1⟩)
  have s1 := hb1.size
  have G2 : RowAt (w1.alloc (.cells #[.slice a' m' c'] 25)) w1.heap.size #[.slice a' m' c'] 25 := rowAt_new _ _ _
  have T2 : Dc (w1.alloc (.cells #[.slice a' m' c'] 25)) a' m' c' d := hT1.below ((Below.refl _ _).alloc (Nat.le_refl _) _)
  have B2 : Below w.heap.size w (w1.alloc (.cells #[.slice a' m' c'] 25)) := hb1.alloc s1 _
  generalize (w1.alloc (.cells #[.slice a' m' c'] 25)) = v2 at G2 T2 B2 ⊢
  obtain ⟨T, hTe⟩ : ∃ T, w1.heap.size = T := ⟨_, rfl⟩
  rw [hTe] at G2 ⊢
  have zT := G2.lt
  have s2 := B2.size
  have HT2 : Hid (Dc v2 a' m' c' d) := T2
  have HB2 : Hid (Below w.heap.size w v2) := B2
  have HG2 : Hid (RowAt v2 T #[.slice a' m' c'] 25) := G2
  have hcm := hT1.2.1
  have hcm2 := hT1.2.2.1
  have HML : Hid (m' = d.length) := hT1.1
  unfold maxLen at hcm2
  have hm9 : m' ≤ 9 := by rw [HML.out]; exact hS1.1
  have k2 : v2.cell? ⟨T, 0, none⟩ = some (.slice a' m' c') := G2.cell 0
  clear hT1 hb1 T2 B2 G2 hTe hS1
  obtain ⟨ok, HO⟩ : ∃ o, Hid (docB d = o) := ⟨_, rfl⟩
  go_wp2_with fail
  refine (implDocOk_is HO.out HT2.out).mono ?_
  rintro e w3 ⟨rfl, hb3⟩
  have s3 := hb3.size
  have HT3 : Hid (Dc w3 a' m' c' d) := HT2.out.below hb3
  have HG3 : Hid (RowAt w3 T #[.slice a' m' c'] 25) := HG2.out.below hb3 zT
  have HB3 : Hid (Below w.heap.size w w3) := HB2.out.trans (hb3.mono s2)
  have k3 : w3.cell? ⟨T, 0, none⟩ = some (.slice a' m' c') := HG3.out.cell 0
  clear hb3 HT2 HG2 HB2 k2
  have gg : (ok != ok) = false := by cases ok <;> rfl
  go_wp2_with fail
  refine (specDocOk_is HO.out HT3.out).mono ?_
  rintro e w4 ⟨rfl, hb4⟩
  have s4 := hb4.size
  have HT4 : Hid (Dc w4 a' m' c' d) := HT3.out.below hb4
  have HG4 : Hid (RowAt w4 T #[.slice a' m' c'] 25) := HG3.out.below hb4 (by omega)
  have HB4 : Hid (Below w.heap.size w w4) := HB3.out.trans (hb4.mono (by omega))
  have k4 : w4.cell? ⟨T, 0, none⟩ = some (.slice a' m' c') := HG4.out.cell 0
  clear hb4 HT3 HG3 HB3 k3
  cases ok
  · go_wp2_with fail
    refine (specDocOk_is HO.out HT4.out).mono ?_
    rintro e w5 ⟨rfl, hb5⟩
    go_wp2_with fail
    go_ret
    exact ⟨rfl, HB4.out.trans (hb5.mono (by have := HB4.out.size; omega))⟩
  obtain ⟨k, HK⟩ : ∃ k, Hid (n2 % (m' + 1) = k) := ⟨_, rfl⟩
  have hkm : k ≤ m' := by rw [← HK.out]; have := Nat.mod_lt n2 (show 0 < m' + 1 by omega); omega
  have HTK : Hid (docB (d.take k) = true) := docB_take HO.out k
  have HKM : Hid (Int.tmod (n2 : Int) ((m' : Int) + 1) = (k : Int)) := by
    show Int.tmod (n2 : Int) ((m' : Int) + 1) = (k : Int)
    rw [← HK.out]
    rfl
  obtain ⟨w3, rfl⟩ : ∃ u, u = w4 := ⟨_, rfl⟩
  have HT3 := HT4
  have HG3 := HG4
  have HB3 := HB4
  have zT3 : T < w3.heap.size := HG3.out.lt
  clear HT4 HG4 HB4 k4
  go_wp2_with fail
  refine wp_region_noPanic ?_
  refine wp_region_held_drew (S := fun w' => RowAt w' T #[.slice a' m' c'] 25) (by kernel_rfl) HG3.out (fun hHeld => ?_)
  have HG4 : Hid (RowAt w3.drew T #[.slice a' m' c'] 25) := HG3.out
  have HB4 : Hid (Below w.heap.size w w3.drew) := HB3.out.drew
  have HF4 : Hid (Dc w3.drew a' k c' (d.take k)) := (HT3.out.below (Below.refl _ _).drew).first hkm
  have sd : w3.heap.size = w3.drew.heap.size := rfl
  have zT4 : T < w3.drew.heap.size := zT3
  generalize w3.drew = w4 at HG4 HB4 HF4 sd hHeld zT4 ⊢
  clear HG3 HB3 HT3
  refine take_at 0 31 (.pointer (some ⟨T, 0, none⟩)) rfl rfl (by kernel_rfl) (by kernel_rfl) (by kernel_rfl) (fun _ _ _ h => h) (Or.inl ⟨by kernel_rfl, fun w' hS' => by go_simp⟩) hHeld ?_
  (try simp only [Act.put, List.setIfInBounds_toArray, List.set_cons_zero, List.set_cons_succ])
  refine take_at 1 32 (.slice a' m' c') rfl rfl (by kernel_rfl) (by kernel_rfl) (by kernel_rfl) (fun _ _ _ h => h) (Or.inl ⟨by kernel_rfl, fun w' hS' => by have hc := RowAt.cell hS' 0; simp at hc; go_simp⟩) hHeld ?_
  (try simp only [Act.put, List.setIfInBounds_toArray, List.set_cons_zero, List.set_cons_succ])
  refine take_at 2 33 (.slice b n2 cap2) rfl rfl (by kernel_rfl) (by kernel_rfl) (by kernel_rfl) (fun _ _ _ h => h) (Or.inl ⟨by kernel_rfl, fun w' hS' => by go_simp⟩) hHeld ?_
  (try simp only [Act.put, List.setIfInBounds_toArray, List.set_cons_zero, List.set_cons_succ])
  refine take_at 3 34 (.int .i64 (n2 : Int)) rfl rfl (by kernel_rfl) (by kernel_rfl) (by kernel_rfl) (fun _ _ _ h => h) (Or.inl ⟨by kernel_rfl, fun w' hS' => by go_simp⟩) hHeld ?_
  (try simp only [Act.put, List.setIfInBounds_toArray, List.set_cons_zero, List.set_cons_succ])
  refine take_at 4 35 (.pointer (some ⟨T, 0, none⟩)) rfl rfl (by kernel_rfl) (by kernel_rfl) (by kernel_rfl) (fun _ _ _ h => h) (Or.inl ⟨by kernel_rfl, fun w' hS' => by go_simp⟩) hHeld ?_
  (try simp only [Act.put, List.setIfInBounds_toArray, List.set_cons_zero, List.set_cons_succ])
  refine take_at 5 36 (.slice a' m' c') rfl rfl (by kernel_rfl) (by kernel_rfl) (by kernel_rfl) (fun _ _ _ h => h) (Or.inl ⟨by kernel_rfl, fun w' hS' => by have hc := RowAt.cell hS' 0; simp at hc; go_simp⟩) hHeld ?_
  (try simp only [Act.put, List.setIfInBounds_toArray, List.set_cons_zero, List.set_cons_succ])
  refine take_at 6 37 (.int .i64 (m' : Int)) rfl rfl (by kernel_rfl) (by kernel_rfl) (by kernel_rfl) (fun _ _ _ h => h) (Or.inl ⟨by kernel_rfl, fun w' hS' => by go_simp⟩) hHeld ?_
  (try simp only [Act.put, List.setIfInBounds_toArray, List.set_cons_zero, List.set_cons_succ])
  refine take_at 7 38 (.int .i64 ((m' : Int) + 1)) rfl rfl (by kernel_rfl) (by kernel_rfl) (by kernel_rfl) (fun _ _ _ h => h) (Or.inl ⟨by kernel_rfl, fun w' hS' => by go_simp; rw [IntKind.wrap_i64]; omega⟩) hHeld ?_
  (try simp only [Act.put, List.setIfInBounds_toArray, List.set_cons_zero, List.set_cons_succ])
  refine take_at 8 39 (.int .i64 (k : Int)) rfl rfl (by kernel_rfl) (by kernel_rfl) (by kernel_rfl) (fun _ _ _ h => h) (Or.inl ⟨by kernel_rfl, fun w' hS' => by go_simp; rw [if_neg (by omega), HKM.out]⟩) hHeld ?_
  (try simp only [Act.put, List.setIfInBounds_toArray, List.set_cons_zero, List.set_cons_succ])
  refine take_at 9 40 (.slice a' k c') rfl rfl (by kernel_rfl) (by kernel_rfl) (by kernel_rfl) (fun _ _ _ h => h) (Or.inl ⟨by kernel_rfl, fun w' hS' => by go_simp; intro hh; omega⟩) hHeld ?_
  (try simp only [Act.put, List.setIfInBounds_toArray, List.set_cons_zero, List.set_cons_succ])
  refine take_at 10 41 (.agg #[.slice a' k c']) rfl rfl (by kernel_rfl) (by kernel_rfl) (by kernel_rfl) (fun _ _ _ h => h) (Or.inl ⟨by kernel_rfl, fun w' hS' => by go_simp⟩) hHeld ?_
  (try simp only [Act.put, List.setIfInBounds_toArray, List.set_cons_zero, List.set_cons_succ])
  refine wpAnyH_ready (rs := [11]) (by kernel_rfl) (by simp) ?_
  refine AllReadyH.cons rfl (fun K hK => ?_) AllReadyH.nil
  go_simp
  go_at_call 10
  refine (implDocOk_is HTK.out (HF4.out)).mono ?_
  rintro e w5 ⟨rfl, hb5⟩
  have s5 := hb5.size
  have HG5 : Hid (RowAt w5 T #[.slice a' m' c'] 25) := HG4.out.below hb5 zT4
  have HB5 : Hid (Below w.heap.size w w5) := HB4.out.trans (hb5.mono (by omega))
  clear hb5
  go_wp2_with fail
  refine hK.out _ _ (HG5.out) (fun hHeld => ?_)
  clear hK K
  (try simp only [Act.put, List.setIfInBounds_toArray, List.set_cons_zero, List.set_cons_succ])
  refine take_at 12 43 (.bool true) rfl rfl (by kernel_rfl) (by kernel_rfl) (by kernel_rfl) (fun _ _ _ h => h) (Or.inl ⟨by kernel_rfl, fun w' hS' => by go_simp⟩) hHeld ?_
  (try simp only [Act.put, List.setIfInBounds_toArray, List.set_cons_zero, List.set_cons_succ])
  refine take_at 13 44 (.agg #[.slice none 0 0]) rfl rfl (by kernel_rfl) (by kernel_rfl) (by kernel_rfl) (fun _ _ _ h => h) (Or.inl ⟨by kernel_rfl, fun w' hS' => by go_simp⟩) hHeld ?_
  (try simp only [Act.put, List.setIfInBounds_toArray, List.set_cons_zero, List.set_cons_succ])
  refine wpAnyH_ready (rs := [14]) (by kernel_rfl) (by simp) ?_
  refine AllReadyH.cons rfl (fun K hK => ?_) AllReadyH.nil
  go_simp
  go_at_call 10
  refine (implDocOk_is (d := []) (x := true) docB_nil (dc_nil _)).mono ?_
  rintro e w6 ⟨rfl, hb6⟩
  have s6 := hb6.size
  have HG6 : Hid (RowAt w6 T #[.slice a' m' c'] 25) := HG5.out.below hb6 (by omega)
  have HB6 : Hid (Below w.heap.size w w6) := HB5.out.trans (hb6.mono (by omega))
  clear hb6
  go_wp2_with fail
  refine hK.out _ _ (HG6.out) (fun hHeld => ?_)
  clear hK K
  (try simp only [Act.put, List.setIfInBounds_toArray, List.set_cons_zero, List.set_cons_succ])
  refine take_at 15 46 (.bool true) rfl rfl (by kernel_rfl) (by kernel_rfl) (by kernel_rfl) (fun _ _ _ h => h) (Or.inl ⟨by kernel_rfl, fun w' hS' => by go_simp⟩) hHeld ?_
  (try simp only [Act.put, List.setIfInBounds_toArray, List.set_cons_zero, List.set_cons_succ])
  refine take_at 16 4 (.bool true) rfl rfl (by kernel_rfl) (by kernel_rfl) (by kernel_rfl) (fun _ _ _ h => h) (Or.inl ⟨by kernel_rfl, fun w' hS' => by go_simp⟩) hHeld ?_
  (try simp only [Act.put, List.setIfInBounds_toArray, List.set_cons_zero, List.set_cons_succ])
  refine wpAnyH_done (by kernel_rfl) ?_ _
  refine NoPanic.normal ?_
  go_wp2_with fail
  go_ret
  exact ⟨rfl, HB6.out⟩
end Go.Proofs.Ytoliebgdlnjahaa
