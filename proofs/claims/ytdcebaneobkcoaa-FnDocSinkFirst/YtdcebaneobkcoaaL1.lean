import Derived.Test.YtdcebaneobkcoaaBD1
import Derived.Test.YtdcebaneobkcoaaBA5
import Derived.Test.YtdcebaneobkcoaaBA6
import Derived.Test.YtdcebaneobkcoaaBA1
namespace Go.Proofs.Ytdcebaneobkcoaa
open Go.RowKit

/-- What is sunk is behind an item that is as deep, or deeper. -/
theorem sink_first {d x : List Bl} {z : Int} (h : docF sinkF d z = some x) : ∃ j : Nat, z = ((j + 1 : Nat) : Int) ∧ j + 1 < d.length ∧ (d.getD j bl0).1 = 2 ∧ (d.getD (j + 1) bl0).2.1 ≤ (d.getD j bl0).2.1 := by
  unfold docF at h
  split at h
  · rename_i hc
    obtain ⟨hd, hz0, hz1⟩ := hc
    obtain ⟨i, rfl⟩ : ∃ i : Nat, z = i := ⟨z.toNat, by omega⟩
    have hi : i < d.length := by omega
    simp only [Int.toNat_natCast] at h ⊢
    obtain ⟨h8, hall, hou⟩ := docB_parts hd
    cases he : sinkF d i with
    | none => rw [he] at h; simp at h
    | some d' =>
      rw [he] at h
      simp only [Option.bind_some] at h
      split at h
      · rename_i ho
        cases h
        obtain ⟨hf, hl⟩ := sinkF_form hall hou hi he
        unfold sinkF at he
        split at he
        · rename_i h1
          cases he
          have hge : i + 1 ≤ endL d i := by unfold endL; omega
          have g1 : lvN ((deepL d i 1).getD i bl0) = lvN (d.getD i bl0) + 1 := by rw [deep_get hi, if_pos ⟨Nat.le_refl _, by omega⟩, lv_bump h1]
          have hpos := (group_items hou hi h1 i (Nat.le_refl _) (by omega)).2.1
          have hli : lvN (d.getD i bl0) = (d.getD i bl0).2.1 := by unfold lvN; rw [if_pos h1]
          have h2 := (((outl_iff _).1 ho).2 i (by rw [hl]; exact hi)).2
          rw [g1] at h2
          rcases i with _ | j
          · unfold aheadN at h2
            rw [if_pos rfl] at h2
            omega
          · unfold aheadN at h2
            rw [if_neg (by omega), Nat.add_sub_cancel, deep_get (by omega), if_neg (by omega)] at h2
            have hk : (d.getD j bl0).1 = 2 := by
              by_cases hk : (d.getD j bl0).1 = 2
              · exact hk
              · unfold lvN at h2
                rw [if_neg hk, if_pos h1] at h2
                omega
            refine ⟨j, rfl, hi, hk, ?_⟩
            have hlj : lvN (d.getD j bl0) = (d.getD j bl0).2.1 := by unfold lvN; rw [if_pos hk]
            omega
        · cases he
      · cases h
  · cases h
end Go.Proofs.Ytdcebaneobkcoaa
namespace Go.Proofs.Ytdcebaneobkcoaa
open Go.RowKit

set_option maxRecDepth 100000 in
set_option maxHeartbeats 16000000 in
theorem lawDocSinkFirst_walk (a : Option Addr) (n cap : Nat) (zs : List Int) (w : World) (h : Byt w.heap.size w a n cap zs) :
    Calls Try.prog 8 #[.slice a n cap] w fun e w' => e = .returned (.bool true) ∧ Below w.heap.size w w' := by
  have HY : Hid (Byt w.heap.size w a n cap zs) := h
  have hc := h.2.1
  have hm := h.2.2.1
  unfold maxLen at hm
  clear h
  by_cases hn : 1048576 < n
  · have hd : decide ((1048576 : Int) < (n : Int)) = true := by simp; omega
    go_enter Try.func8, Try.ntmps8
    go_wp2_with fail
    go_ret
    exact ⟨rfl, Below.refl _ _⟩
  have hd : decide ((1048576 : Int) < (n : Int)) = false := by simp; omega
  go_enter Try.func8, Try.ntmps8
  go_wp2_with fail
  refine (drDrawDocSink_any w.heap.size a n cap zs _ HY.out (Nat.le_refl _)).mono ?_
  rintro e w1 ⟨⟨a0, m0, c0, d, z, rfl, hT1, hS1, hz0, hz1⟩, hb1⟩
  have sw1 := hb1.size
  have HBw1 : Hid (Below w.heap.size w w1) := hb1
  have HDw1 : Hid (Dc w1 a0 m0 c0 d) := hT1
  have HSP0 : Hid (DocSp d) := hS1
  clear hT1 hb1 hS1 hn hd HY
  obtain ⟨r, HRR⟩ : ∃ r, Hid (docF sinkF d z = r) := ⟨_, rfl⟩
  obtain ⟨dr, HDR⟩ : ∃ dr, Hid (r.getD [] = dr) := ⟨_, rfl⟩
  obtain ⟨gg, HGB⟩ : ∃ g, Hid (r.isSome = g) := ⟨_, rfl⟩
  have HSP : Hid (∀ {a : Option Addr} {n cap : Nat} {u : World}, Dc u a n cap d → Calls Try.prog 28 #[.agg #[.slice a n cap], .int .i64 z] u fun e w' => (∃ p m q, e = .returned (.tuple #[.agg #[.slice p m q], .bool gg]) ∧ Dc w' p m q dr) ∧ Below u.heap.size u w') := fun hu => (specDocSink_any hu).mono fun e w' hr => by
    obtain ⟨h1, h2⟩ := hr
    rw [HRR.out] at h1
    obtain ⟨p, m, q, rbs, h3, h4⟩ := docRes_of h1
    rw [HGB.out] at h3
    rw [HDR.out] at h4
    exact ⟨⟨p, m, q, h3, h4.dc⟩, h2⟩
  have HIM : Hid (∀ {a : Option Addr} {n cap : Nat} {u : World}, Dc u a n cap d → Calls Try.prog 29 #[.agg #[.slice a n cap], .int .i64 z] u fun e w' => (∃ p m q, e = .returned (.tuple #[.agg #[.slice p m q], .bool gg]) ∧ Dc w' p m q dr) ∧ Below u.heap.size u w') := fun hu => (implDocSink_any hu).mono fun e w' hr => by
    obtain ⟨h1, h2⟩ := hr
    rw [HRR.out] at h1
    obtain ⟨p, m, q, rbs, h3, h4⟩ := docRes_of h1
    rw [HGB.out] at h3
    rw [HDR.out] at h4
    exact ⟨⟨p, m, q, h3, h4.dc⟩, h2⟩
  go_upto_region 4 with fail
  have hbw2 : Below w1.heap.size w1 (w1.alloc (.cells #[.slice a0 m0 c0] 25)) := (Below.refl _ _).alloc (Nat.le_refl _) _
  have hgw2 : RowAt (w1.alloc (.cells #[.slice a0 m0 c0] 25)) w1.heap.size #[.slice a0 m0 c0] 25 := rowAt_new _ _ _
  have hzw2 : w1.heap.size < (w1.alloc (.cells #[.slice a0 m0 c0] 25)).heap.size := by simp
  generalize hqw2 : (w1.alloc (.cells #[.slice a0 m0 c0] 25)) = w2 at hbw2 hgw2 hzw2 ⊢
  clear hqw2
  have sw2 := hbw2.size
  have HDw2 : Hid (Dc w2 a0 m0 c0 d) := HDw1.out.below hbw2
  have HBw2 : Hid (Below w.heap.size w w2) := HBw1.out.trans (hbw2.mono HBw1.out.size)
  clear HDw1 HBw1
  obtain ⟨X, hX⟩ : ∃ X, w1.heap.size = X := ⟨_, rfl⟩
  rw [hX] at hgw2 hzw2 ⊢
  have HGw2 : Hid (RowAt w2 X #[.slice a0 m0 c0] 25) := hgw2
  have kGw2 : w2.cell? ⟨X, 0, none⟩ = some (.slice a0 m0 c0) := hgw2.cell 0
  clear hgw2 hbw2 hX
  go_wp2_with fail
  refine (HSP.out HDw2.out).mono ?_
  rintro e w3 ⟨⟨p1, m1, q1, rfl, hO3⟩, hb3⟩
  have HEw3 : Hid (Dc w3 p1 m1 q1 dr) := hO3
  clear hO3
  have sw3 := hb3.size
  have HGw3 : Hid (RowAt w3 X #[.slice a0 m0 c0] 25) := HGw2.out.below hb3 HGw2.out.lt
  have kGw3 : w3.cell? ⟨X, 0, none⟩ = some (.slice a0 m0 c0) := HGw3.out.cell 0
  have HDw3 : Hid (Dc w3 a0 m0 c0 d) := HDw2.out.below hb3
  have HBw3 : Hid (Below w.heap.size w w3) := HBw2.out.trans (hb3.mono HBw2.out.size)
  clear HGw2 kGw2 HDw2 HBw2
  clear hb3
  go_upto_region 5 with fail
  have hbw4 : Below w3.heap.size w3 (w3.alloc (.cells #[.slice p1 m1 q1] 25)) := (Below.refl _ _).alloc (Nat.le_refl _) _
  have hgw4 : RowAt (w3.alloc (.cells #[.slice p1 m1 q1] 25)) w3.heap.size #[.slice p1 m1 q1] 25 := rowAt_new _ _ _
  have hzw4 : w3.heap.size < (w3.alloc (.cells #[.slice p1 m1 q1] 25)).heap.size := by simp
  generalize hqw4 : (w3.alloc (.cells #[.slice p1 m1 q1] 25)) = w4 at hbw4 hgw4 hzw4 ⊢
  clear hqw4
  have sw4 := hbw4.size
  have HGw4 : Hid (RowAt w4 X #[.slice a0 m0 c0] 25) := HGw3.out.below hbw4 HGw3.out.lt
  have kGw4 : w4.cell? ⟨X, 0, none⟩ = some (.slice a0 m0 c0) := HGw4.out.cell 0
  have HDw4 : Hid (Dc w4 a0 m0 c0 d) := HDw3.out.below hbw4
  have HEw4 : Hid (Dc w4 p1 m1 q1 dr) := HEw3.out.below hbw4
  have HBw4 : Hid (Below w.heap.size w w4) := HBw3.out.trans (hbw4.mono HBw3.out.size)
  clear HGw3 kGw3 HDw3 HEw3 HBw3
  obtain ⟨XV, hXV⟩ : ∃ X, w3.heap.size = X := ⟨_, rfl⟩
  rw [hXV] at hgw4 hzw4 ⊢
  have HVw4 : Hid (RowAt w4 XV #[.slice p1 m1 q1] 25) := hgw4
  have kVw4 : w4.cell? ⟨XV, 0, none⟩ = some (.slice p1 m1 q1) := hgw4.cell 0
  clear hgw4 hbw4 hXV
  go_wp2_with fail
  refine (HIM.out HDw4.out).mono ?_
  rintro e w5 ⟨⟨p2, m2, q2, rfl, hO5⟩, hb5⟩
  have HFw5 : Hid (Dc w5 p2 m2 q2 dr) := hO5
  clear hO5
  have sw5 := hb5.size
  have HGw5 : Hid (RowAt w5 X #[.slice a0 m0 c0] 25) := HGw4.out.below hb5 HGw4.out.lt
  have kGw5 : w5.cell? ⟨X, 0, none⟩ = some (.slice a0 m0 c0) := HGw5.out.cell 0
  have HVw5 : Hid (RowAt w5 XV #[.slice p1 m1 q1] 25) := HVw4.out.below hb5 HVw4.out.lt
  have kVw5 : w5.cell? ⟨XV, 0, none⟩ = some (.slice p1 m1 q1) := HVw5.out.cell 0
  have HDw5 : Hid (Dc w5 a0 m0 c0 d) := HDw4.out.below hb5
  have HEw5 : Hid (Dc w5 p1 m1 q1 dr) := HEw4.out.below hb5
  have HBw5 : Hid (Below w.heap.size w w5) := HBw4.out.trans (hb5.mono HBw4.out.size)
  clear HGw4 kGw4 HVw4 kVw4 HDw4 HEw4 HBw4
  clear hb5
  go_upto_region 6 with fail
  have hbw6 : Below w5.heap.size w5 (w5.alloc (.cells #[.slice p2 m2 q2] 25)) := (Below.refl _ _).alloc (Nat.le_refl _) _
  have hgw6 : RowAt (w5.alloc (.cells #[.slice p2 m2 q2] 25)) w5.heap.size #[.slice p2 m2 q2] 25 := rowAt_new _ _ _
  have hzw6 : w5.heap.size < (w5.alloc (.cells #[.slice p2 m2 q2] 25)).heap.size := by simp
  generalize hqw6 : (w5.alloc (.cells #[.slice p2 m2 q2] 25)) = w6 at hbw6 hgw6 hzw6 ⊢
  clear hqw6
  have sw6 := hbw6.size
  have HGw6 : Hid (RowAt w6 X #[.slice a0 m0 c0] 25) := HGw5.out.below hbw6 HGw5.out.lt
  have kGw6 : w6.cell? ⟨X, 0, none⟩ = some (.slice a0 m0 c0) := HGw6.out.cell 0
  have HVw6 : Hid (RowAt w6 XV #[.slice p1 m1 q1] 25) := HVw5.out.below hbw6 HVw5.out.lt
  have kVw6 : w6.cell? ⟨XV, 0, none⟩ = some (.slice p1 m1 q1) := HVw6.out.cell 0
  have HDw6 : Hid (Dc w6 a0 m0 c0 d) := HDw5.out.below hbw6
  have HEw6 : Hid (Dc w6 p1 m1 q1 dr) := HEw5.out.below hbw6
  have HFw6 : Hid (Dc w6 p2 m2 q2 dr) := HFw5.out.below hbw6
  have HBw6 : Hid (Below w.heap.size w w6) := HBw5.out.trans (hbw6.mono HBw5.out.size)
  clear HGw5 kGw5 HVw5 kVw5 HDw5 HEw5 HFw5 HBw5
  obtain ⟨XU, hXU⟩ : ∃ X, w5.heap.size = X := ⟨_, rfl⟩
  rw [hXU] at hgw6 hzw6 ⊢
  have HUw6 : Hid (RowAt w6 XU #[.slice p2 m2 q2] 25) := hgw6
  have kUw6 : w6.cell? ⟨XU, 0, none⟩ = some (.slice p2 m2 q2) := hgw6.cell 0
  clear hgw6 hbw6 hXU
  have gne : (gg != gg) = false := by cases gg <;> rfl
  have geq : (gg == gg) = true := by cases gg <;> rfl
  go_wp2_with fail
  refine (lmDoc_same HFw6.out HEw6.out).mono ?_
  rintro e w7 ⟨rfl, hb7⟩
  have sw7 := hb7.size
  have HGw7 : Hid (RowAt w7 X #[.slice a0 m0 c0] 25) := HGw6.out.below hb7 HGw6.out.lt
  have kGw7 : w7.cell? ⟨X, 0, none⟩ = some (.slice a0 m0 c0) := HGw7.out.cell 0
  have HVw7 : Hid (RowAt w7 XV #[.slice p1 m1 q1] 25) := HVw6.out.below hb7 HVw6.out.lt
  have kVw7 : w7.cell? ⟨XV, 0, none⟩ = some (.slice p1 m1 q1) := HVw7.out.cell 0
  have HUw7 : Hid (RowAt w7 XU #[.slice p2 m2 q2] 25) := HUw6.out.below hb7 HUw6.out.lt
  have kUw7 : w7.cell? ⟨XU, 0, none⟩ = some (.slice p2 m2 q2) := HUw7.out.cell 0
  have HDw7 : Hid (Dc w7 a0 m0 c0 d) := HDw6.out.below hb7
  have HEw7 : Hid (Dc w7 p1 m1 q1 dr) := HEw6.out.below hb7
  have HFw7 : Hid (Dc w7 p2 m2 q2 dr) := HFw6.out.below hb7
  have HBw7 : Hid (Below w.heap.size w w7) := HBw6.out.trans (hb7.mono HBw6.out.size)
  clear HGw6 kGw6 HVw6 kVw6 HUw6 kUw6 HDw6 HEw6 HFw6 HBw6
  clear hb7
  cases gg
  · go_wp2_with fail
    refine (lmDoc_same HFw7.out HEw7.out).mono ?_
    rintro e w8 ⟨rfl, hb8⟩
    have sw8 := hb8.size
    have HGw8 : Hid (RowAt w8 X #[.slice a0 m0 c0] 25) := HGw7.out.below hb8 HGw7.out.lt
    have kGw8 : w8.cell? ⟨X, 0, none⟩ = some (.slice a0 m0 c0) := HGw8.out.cell 0
    have HVw8 : Hid (RowAt w8 XV #[.slice p1 m1 q1] 25) := HVw7.out.below hb8 HVw7.out.lt
    have kVw8 : w8.cell? ⟨XV, 0, none⟩ = some (.slice p1 m1 q1) := HVw8.out.cell 0
    have HUw8 : Hid (RowAt w8 XU #[.slice p2 m2 q2] 25) := HUw7.out.below hb8 HUw7.out.lt
    have kUw8 : w8.cell? ⟨XU, 0, none⟩ = some (.slice p2 m2 q2) := HUw8.out.cell 0
    have HDw8 : Hid (Dc w8 a0 m0 c0 d) := HDw7.out.below hb8
    have HEw8 : Hid (Dc w8 p1 m1 q1 dr) := HEw7.out.below hb8
    have HFw8 : Hid (Dc w8 p2 m2 q2 dr) := HFw7.out.below hb8
    have HBw8 : Hid (Below w.heap.size w w8) := HBw7.out.trans (hb8.mono HBw7.out.size)
    clear HGw7 kGw7 HVw7 kVw7 HUw7 kUw7 HDw7 HEw7 HFw7 HBw7
    clear hb8
    go_wp2_with fail
    go_ret
    exact ⟨rfl, HBw8.out⟩
  · obtain ⟨x, hx⟩ := Option.isSome_iff_exists.1 HGB.out
    obtain ⟨j, hzj, hj1, hj2, hj3⟩ := sink_first (HRR.out.trans hx)
    clear hx HIM HSP HRR HDR HGB
    subst hzj
    have HML : Hid (m0 = d.length) := HDw7.out.1
    have hmc := HDw7.out.2.1
    have hmx := HDw7.out.2.2.1
    unfold maxLen at hmx
    have hjm : ((j + 1 : Nat) : Int) < (m0 : Int) := by have := HML.out; omega
    have hjm2 : (j : Int) < (m0 : Int) := by omega
    have hj0 : (0 : Int) ≤ (j : Int) := by omega
    have hj01 : (0 : Int) ≤ ((j + 1 : Nat) : Int) := by omega
    rcases HDw7.out.2.2.2 with e | ⟨b, off, rfl, hbw, hcl⟩
    · rw [e] at hj1
      exact absurd hj1 (by simp)
    obtain ⟨_, _, _, _, _, _, cj0, cj1, -⟩ := hcl j (by omega)
    obtain ⟨_, _, _, _, _, _, -, ci1, -⟩ := hcl (j + 1) hj1
    rw [hj2] at cj0
    generalize (d.getD j bl0).2.1 = VJ at cj1 hj3
    generalize (d.getD (j + 1) bl0).2.1 = VI at ci1 hj3
    clear hcl hj2
    have hge : decide (VI ≤ VJ) = true := decide_eq_true hj3
    go_wp2_with fail
    refine wp_region_noPanic ?_
    refine wp_region_held_drew (S := fun w' => w'.cell? ⟨X, 0, none⟩ = some (.slice (some ⟨b, off, none⟩) m0 c0) ∧ w'.cell? ⟨b, off + j * 6, none⟩ = some (.int .i64 2) ∧ w'.cell? ⟨b, off + j * 6 + 1, none⟩ = some (.int .i64 VJ) ∧ w'.cell? ⟨b, off + (j + 1) * 6 + 1, none⟩ = some (.int .i64 VI)) (by kernel_rfl) ⟨kGw7, cj0, cj1, ci1⟩ (fun hHeld => ?_)
    refine take_at 0 50 (.int .i64 ((j + 1 : Nat) : Int)) rfl rfl (by kernel_rfl) (by kernel_rfl) (by kernel_rfl) (fun _ _ _ h => h) (Or.inl ⟨by kernel_rfl, fun w' hS' => by go_simp⟩) hHeld ?_
    (try simp only [Act.put, List.setIfInBounds_toArray, List.set_cons_zero, List.set_cons_succ])
    refine take_at 1 51 (.bool true) rfl rfl (by kernel_rfl) (by kernel_rfl) (by kernel_rfl) (fun _ _ _ h => h) (Or.inl ⟨by kernel_rfl, fun w' hS' => by go_simp <;> omega⟩) hHeld ?_
    (try simp only [Act.put, List.setIfInBounds_toArray, List.set_cons_zero, List.set_cons_succ])
    refine take_at 2 52 (.bool true) rfl rfl (by kernel_rfl) (by kernel_rfl) (by kernel_rfl) (fun _ _ _ h => h) (Or.inl ⟨by kernel_rfl, fun w' hS' => by go_simp⟩) hHeld ?_
    (try simp only [Act.put, List.setIfInBounds_toArray, List.set_cons_zero, List.set_cons_succ])
    refine take_at 3 53 (.pointer (some ⟨X, 0, none⟩)) rfl rfl (by kernel_rfl) (by kernel_rfl) (by kernel_rfl) (fun _ _ _ h => h) (Or.inl ⟨by kernel_rfl, fun w' hS' => by go_simp⟩) hHeld ?_
    (try simp only [Act.put, List.setIfInBounds_toArray, List.set_cons_zero, List.set_cons_succ])
    refine take_at 4 54 (.slice (some ⟨b, off, none⟩) m0 c0) rfl rfl (by kernel_rfl) (by kernel_rfl) (by kernel_rfl) (fun _ _ _ h => h) (Or.inl ⟨by kernel_rfl, fun w' hS' => by have hd := hS'.1; go_simp⟩) hHeld ?_
    (try simp only [Act.put, List.setIfInBounds_toArray, List.set_cons_zero, List.set_cons_succ])
    refine take_at 5 55 (.int .i64 ((j + 1 : Nat) : Int)) rfl rfl (by kernel_rfl) (by kernel_rfl) (by kernel_rfl) (fun _ _ _ h => h) (Or.inl ⟨by kernel_rfl, fun w' hS' => by go_simp⟩) hHeld ?_
    (try simp only [Act.put, List.setIfInBounds_toArray, List.set_cons_zero, List.set_cons_succ])
    refine take_at 6 56 (.int .i64 (j : Int)) rfl rfl (by kernel_rfl) (by kernel_rfl) (by kernel_rfl) (fun _ _ _ h => h) (Or.inl ⟨by kernel_rfl, fun w' hS' => by go_simp; rw [IntKind.wrap_i64]; omega⟩) hHeld ?_
    (try simp only [Act.put, List.setIfInBounds_toArray, List.set_cons_zero, List.set_cons_succ])
    refine take_at 7 57 (.pointer (some ⟨b, off + j * 6, none⟩)) rfl rfl (by kernel_rfl) (by kernel_rfl) (by kernel_rfl) (fun _ _ _ h => h) (Or.inl ⟨by kernel_rfl, fun w' hS' => by go_simp⟩) hHeld ?_
    (try simp only [Act.put, List.setIfInBounds_toArray, List.set_cons_zero, List.set_cons_succ])
    refine take_at 8 58 (.pointer (some ⟨b, off + j * 6, none⟩)) rfl rfl (by kernel_rfl) (by kernel_rfl) (by kernel_rfl) (fun _ _ _ h => h) (Or.inl ⟨by kernel_rfl, fun w' hS' => by go_simp⟩) hHeld ?_
    (try simp only [Act.put, List.setIfInBounds_toArray, List.set_cons_zero, List.set_cons_succ])
    refine take_at 9 59 (.int .i64 2) rfl rfl (by kernel_rfl) (by kernel_rfl) (by kernel_rfl) (fun _ _ _ h => h) (Or.inl ⟨by kernel_rfl, fun w' hS' => by have hd := hS'.2.1; go_simp⟩) hHeld ?_
    (try simp only [Act.put, List.setIfInBounds_toArray, List.set_cons_zero, List.set_cons_succ])
    refine take_at 10 60 (.bool true) rfl rfl (by kernel_rfl) (by kernel_rfl) (by kernel_rfl) (fun _ _ _ h => h) (Or.inl ⟨by kernel_rfl, fun w' hS' => by go_simp⟩) hHeld ?_
    (try simp only [Act.put, List.setIfInBounds_toArray, List.set_cons_zero, List.set_cons_succ])
    refine take_at 11 61 (.bool true) rfl rfl (by kernel_rfl) (by kernel_rfl) (by kernel_rfl) (fun _ _ _ h => h) (Or.inl ⟨by kernel_rfl, fun w' hS' => by go_simp⟩) hHeld ?_
    (try simp only [Act.put, List.setIfInBounds_toArray, List.set_cons_zero, List.set_cons_succ])
    refine take_at 12 62 (.bool true) rfl rfl (by kernel_rfl) (by kernel_rfl) (by kernel_rfl) (fun _ _ _ h => h) (Or.inl ⟨by kernel_rfl, fun w' hS' => by go_simp⟩) hHeld ?_
    (try simp only [Act.put, List.setIfInBounds_toArray, List.set_cons_zero, List.set_cons_succ])
    refine take_at 13 63 (.pointer (some ⟨X, 0, none⟩)) rfl rfl (by kernel_rfl) (by kernel_rfl) (by kernel_rfl) (fun _ _ _ h => h) (Or.inl ⟨by kernel_rfl, fun w' hS' => by go_simp⟩) hHeld ?_
    (try simp only [Act.put, List.setIfInBounds_toArray, List.set_cons_zero, List.set_cons_succ])
    refine take_at 14 64 (.slice (some ⟨b, off, none⟩) m0 c0) rfl rfl (by kernel_rfl) (by kernel_rfl) (by kernel_rfl) (fun _ _ _ h => h) (Or.inl ⟨by kernel_rfl, fun w' hS' => by have hd := hS'.1; go_simp⟩) hHeld ?_
    (try simp only [Act.put, List.setIfInBounds_toArray, List.set_cons_zero, List.set_cons_succ])
    refine take_at 15 65 (.int .i64 ((j + 1 : Nat) : Int)) rfl rfl (by kernel_rfl) (by kernel_rfl) (by kernel_rfl) (fun _ _ _ h => h) (Or.inl ⟨by kernel_rfl, fun w' hS' => by go_simp⟩) hHeld ?_
    (try simp only [Act.put, List.setIfInBounds_toArray, List.set_cons_zero, List.set_cons_succ])
    refine take_at 16 66 (.int .i64 (j : Int)) rfl rfl (by kernel_rfl) (by kernel_rfl) (by kernel_rfl) (fun _ _ _ h => h) (Or.inl ⟨by kernel_rfl, fun w' hS' => by go_simp; rw [IntKind.wrap_i64]; omega⟩) hHeld ?_
    (try simp only [Act.put, List.setIfInBounds_toArray, List.set_cons_zero, List.set_cons_succ])
    refine take_at 17 67 (.pointer (some ⟨b, off + j * 6, none⟩)) rfl rfl (by kernel_rfl) (by kernel_rfl) (by kernel_rfl) (fun _ _ _ h => h) (Or.inl ⟨by kernel_rfl, fun w' hS' => by go_simp⟩) hHeld ?_
    (try simp only [Act.put, List.setIfInBounds_toArray, List.set_cons_zero, List.set_cons_succ])
    refine take_at 18 68 (.pointer (some ⟨b, off + j * 6 + 1, none⟩)) rfl rfl (by kernel_rfl) (by kernel_rfl) (by kernel_rfl) (fun _ _ _ h => h) (Or.inl ⟨by kernel_rfl, fun w' hS' => by go_simp⟩) hHeld ?_
    (try simp only [Act.put, List.setIfInBounds_toArray, List.set_cons_zero, List.set_cons_succ])
    refine take_at 19 69 (.int .i64 VJ) rfl rfl (by kernel_rfl) (by kernel_rfl) (by kernel_rfl) (fun _ _ _ h => h) (Or.inl ⟨by kernel_rfl, fun w' hS' => by have hd := hS'.2.2.1; go_simp⟩) hHeld ?_
    (try simp only [Act.put, List.setIfInBounds_toArray, List.set_cons_zero, List.set_cons_succ])
    refine take_at 20 70 (.pointer (some ⟨X, 0, none⟩)) rfl rfl (by kernel_rfl) (by kernel_rfl) (by kernel_rfl) (fun _ _ _ h => h) (Or.inl ⟨by kernel_rfl, fun w' hS' => by go_simp⟩) hHeld ?_
    (try simp only [Act.put, List.setIfInBounds_toArray, List.set_cons_zero, List.set_cons_succ])
    refine take_at 21 71 (.slice (some ⟨b, off, none⟩) m0 c0) rfl rfl (by kernel_rfl) (by kernel_rfl) (by kernel_rfl) (fun _ _ _ h => h) (Or.inl ⟨by kernel_rfl, fun w' hS' => by have hd := hS'.1; go_simp⟩) hHeld ?_
    (try simp only [Act.put, List.setIfInBounds_toArray, List.set_cons_zero, List.set_cons_succ])
    refine take_at 22 72 (.int .i64 ((j + 1 : Nat) : Int)) rfl rfl (by kernel_rfl) (by kernel_rfl) (by kernel_rfl) (fun _ _ _ h => h) (Or.inl ⟨by kernel_rfl, fun w' hS' => by go_simp⟩) hHeld ?_
    (try simp only [Act.put, List.setIfInBounds_toArray, List.set_cons_zero, List.set_cons_succ])
    refine take_at 23 73 (.pointer (some ⟨b, off + (j + 1) * 6, none⟩)) rfl rfl (by kernel_rfl) (by kernel_rfl) (by kernel_rfl) (fun _ _ _ h => h) (Or.inl ⟨by kernel_rfl, fun w' hS' => by go_simp <;> (intro hh; omega)⟩) hHeld ?_
    (try simp only [Act.put, List.setIfInBounds_toArray, List.set_cons_zero, List.set_cons_succ])
    refine take_at 24 74 (.pointer (some ⟨b, off + (j + 1) * 6 + 1, none⟩)) rfl rfl (by kernel_rfl) (by kernel_rfl) (by kernel_rfl) (fun _ _ _ h => h) (Or.inl ⟨by kernel_rfl, fun w' hS' => by go_simp⟩) hHeld ?_
    (try simp only [Act.put, List.setIfInBounds_toArray, List.set_cons_zero, List.set_cons_succ])
    refine take_at 25 75 (.int .i64 VI) rfl rfl (by kernel_rfl) (by kernel_rfl) (by kernel_rfl) (fun _ _ _ h => h) (Or.inl ⟨by kernel_rfl, fun w' hS' => by have hd := hS'.2.2.2; go_simp⟩) hHeld ?_
    (try simp only [Act.put, List.setIfInBounds_toArray, List.set_cons_zero, List.set_cons_succ])
    refine take_at 26 76 (.bool true) rfl rfl (by kernel_rfl) (by kernel_rfl) (by kernel_rfl) (fun _ _ _ h => h) (Or.inl ⟨by kernel_rfl, fun w' hS' => by go_simp⟩) hHeld ?_
    (try simp only [Act.put, List.setIfInBounds_toArray, List.set_cons_zero, List.set_cons_succ])
    refine take_at 27 77 (.bool true) rfl rfl (by kernel_rfl) (by kernel_rfl) (by kernel_rfl) (fun _ _ _ h => h) (Or.inl ⟨by kernel_rfl, fun w' hS' => by go_simp⟩) hHeld ?_
    (try simp only [Act.put, List.setIfInBounds_toArray, List.set_cons_zero, List.set_cons_succ])
    refine take_at 28 2 (.bool true) rfl rfl (by kernel_rfl) (by kernel_rfl) (by kernel_rfl) (fun _ _ _ h => h) (Or.inl ⟨by kernel_rfl, fun w' hS' => by go_simp⟩) hHeld ?_
    (try simp only [Act.put, List.setIfInBounds_toArray, List.set_cons_zero, List.set_cons_succ])
    refine wpAnyH_done (by kernel_rfl) ?_ _
    refine NoPanic.normal ?_
    go_wp2_with fail
    go_ret
    exact ⟨rfl, HBw7.out.drew⟩
end Go.Proofs.Ytdcebaneobkcoaa
