import Derived.Test.YtcecmkideoodiaaBA5
import Derived.Test.YtcecmkideoodiaaBA6
import Derived.Test.YtcecmkideoodiaaBA1
namespace Go.Proofs.Ytcecmkideoodiaa
open Go.RowKit

set_option maxRecDepth 100000 in
set_option maxHeartbeats 16000000 in
theorem lawPlaceText_walk (a : Option Addr) (n cap : Nat) (zs : List Int) (w : World) (h : Byt w.heap.size w a n cap zs) :
    Calls Try.prog 4 #[.slice a n cap] w fun e w' => e = .returned (.bool true) ∧ Below w.heap.size w w' := by
  have HY : Hid (Byt w.heap.size w a n cap zs) := h
  have hc := h.2.1
  have hm := h.2.2.1
  unfold maxLen at hm
  clear h
  by_cases hn : 1048576 < n
  · have hd : decide ((1048576 : Int) < (n : Int)) = true := by simp; omega
    go_enter Try.func4, Try.ntmps4
    go_wp2_with fail
    go_ret
    exact ⟨rfl, Below.refl _ _⟩
  have hd : decide ((1048576 : Int) < (n : Int)) = false := by simp; omega
  go_enter Try.func4, Try.ntmps4
  go_wp2_with fail
  refine (drDrawPlaceText_any w.heap.size a n cap zs _ HY.out (Nat.le_refl _)).mono ?_
  rintro e w1 ⟨⟨a0, m0, c0, d, pb, pc, pa, rfl, hT1, hS1, hpb, hpc, hpa⟩, hb1⟩
  have HH := hd_go (hd_start w) hb1
  have sw1 := hb1.size
  clear hb1 HY
  replace HH := hd_add HH (fun u => Dc u a0 m0 c0 d) (mono_dc _ _ _ _) hT1
  clear hT1 hd hn
  obtain ⟨x, HX⟩ : ∃ x, Hid ((plT d pb pc pa).isSome = x) := ⟨_, rfl⟩
  obtain ⟨t0, HT0⟩ : ∃ t0, Hid ((plT d pb pc pa).getD [] = t0) := ⟨_, rfl⟩
  have IMT : Hid (∀ u, Dc u a0 m0 c0 d → Calls Try.prog 10 #[.agg #[.slice a0 m0 c0], .agg #[.int .i64 pb, .int .i64 pc, .int .i64 pa]] u fun e w' => (∃ p m q, e = .returned (.slice p m q) ∧ Txt w' p m q t0) ∧ Below u.heap.size u w') := fun u hu => by
    refine (implPlaceText_any (pb := pb) (pc := pc) (pa := pa) hu).mono ?_
    rintro e w' ⟨⟨p, m, q, rfl, ho⟩, hb⟩
    rw [HT0.out] at ho
    exact ⟨⟨p, m, q, rfl, Own.txt ho⟩, hb⟩
  have SPT : Hid (∀ u, Dc u a0 m0 c0 d → Calls Try.prog 13 #[.agg #[.slice a0 m0 c0], .agg #[.int .i64 pb, .int .i64 pc, .int .i64 pa]] u fun e w' => (∃ p m q, e = .returned (.slice p m q) ∧ Txt w' p m q t0) ∧ Below u.heap.size u w') := fun u hu => by
    refine (specPlaceText_any (pb := pb) (pc := pc) (pa := pa) hu).mono ?_
    rintro e w' ⟨⟨p, m, q, rfl, ho⟩, hb⟩
    rw [HT0.out] at ho
    exact ⟨⟨p, m, q, rfl, Own.txt ho⟩, hb⟩
  go_upto_region 4 with fail
  replace HH := hd_box HH #[.slice a0 m0 c0] 25
  replace HH := hd_box HH #[.int .i64 pb, .int .i64 pc, .int .i64 pa] 27
  have ev3 : (w1.alloc (.cells #[.slice a0 m0 c0] 25)).heap.size = w1.heap.size + 1 := by simp
  rw [ev3] at HH
  have sv3 : w1.heap.size + 1 < ((w1.alloc (.cells #[.slice a0 m0 c0] 25)).alloc (.cells #[.int .i64 pb, .int .i64 pc, .int .i64 pa] 27)).heap.size := by simp
  generalize ((w1.alloc (.cells #[.slice a0 m0 c0] 25)).alloc (.cells #[.int .i64 pb, .int .i64 pc, .int .i64 pa] 27)) = v3 at HH sv3 ⊢
  clear ev3
  have kP_0 : v3.cell? ⟨w1.heap.size + 1, 0, none⟩ = some (.int .i64 pb) := RowAt.cell (HH.out.row _ (List.Mem.head _)) 0
  have kP_1 : v3.cell? ⟨w1.heap.size + 1, 1, none⟩ = some (.int .i64 pc) := RowAt.cell (HH.out.row _ (List.Mem.head _)) 1
  have kP_2 : v3.cell? ⟨w1.heap.size + 1, 2, none⟩ = some (.int .i64 pa) := RowAt.cell (HH.out.row _ (List.Mem.head _)) 2
  have kG_0 : v3.cell? ⟨w1.heap.size, 0, none⟩ = some (.slice a0 m0 c0) := RowAt.cell (HH.out.row _ (List.Mem.tail _ (List.Mem.head _))) 0
  go_wp2_with fail
  refine (IMT.out _ ((HH.out.fact _ (List.Mem.head _)).2)).mono ?_
  rintro e v4 ⟨⟨pT, mT, qT, rfl, ht⟩, hb⟩
  have sv4 := hb.size
  replace HH := hd_go HH hb
  clear kP_0 kP_1 kP_2 kG_0
  replace HH := hd_add HH (fun u => Txt u pT mT qT t0) (mono_txt _ _ _ _) ht
  have kP_0 : v4.cell? ⟨w1.heap.size + 1, 0, none⟩ = some (.int .i64 pb) := RowAt.cell (HH.out.row _ (List.Mem.head _)) 0
  have kP_1 : v4.cell? ⟨w1.heap.size + 1, 1, none⟩ = some (.int .i64 pc) := RowAt.cell (HH.out.row _ (List.Mem.head _)) 1
  have kP_2 : v4.cell? ⟨w1.heap.size + 1, 2, none⟩ = some (.int .i64 pa) := RowAt.cell (HH.out.row _ (List.Mem.head _)) 2
  have kG_0 : v4.cell? ⟨w1.heap.size, 0, none⟩ = some (.slice a0 m0 c0) := RowAt.cell (HH.out.row _ (List.Mem.tail _ (List.Mem.head _))) 0
  clear ht hb
  go_wp2_with fail
  refine (SPT.out _ ((HH.out.fact _ (List.Mem.tail _ (List.Mem.head _))).2)).mono ?_
  rintro e v5 ⟨⟨pS, mS, qS, rfl, ht⟩, hb⟩
  have sv5 := hb.size
  replace HH := hd_go HH hb
  clear kP_0 kP_1 kP_2 kG_0
  replace HH := hd_add HH (fun u => Txt u pS mS qS t0) (mono_txt _ _ _ _) ht
  have kP_0 : v5.cell? ⟨w1.heap.size + 1, 0, none⟩ = some (.int .i64 pb) := RowAt.cell (HH.out.row _ (List.Mem.head _)) 0
  have kP_1 : v5.cell? ⟨w1.heap.size + 1, 1, none⟩ = some (.int .i64 pc) := RowAt.cell (HH.out.row _ (List.Mem.head _)) 1
  have kP_2 : v5.cell? ⟨w1.heap.size + 1, 2, none⟩ = some (.int .i64 pa) := RowAt.cell (HH.out.row _ (List.Mem.head _)) 2
  have kG_0 : v5.cell? ⟨w1.heap.size, 0, none⟩ = some (.slice a0 m0 c0) := RowAt.cell (HH.out.row _ (List.Mem.tail _ (List.Mem.head _))) 0
  clear ht hb
  go_wp2_with fail
  refine (lmSigns_same ((HH.out.fact _ (List.Mem.tail _ (List.Mem.head _))).2) ((HH.out.fact _ (List.Mem.head _)).2)).mono ?_
  rintro e v6 ⟨rfl, hb⟩
  have sv6 := hb.size
  replace HH := hd_go HH hb
  clear kP_0 kP_1 kP_2 kG_0
  have kP_0 : v6.cell? ⟨w1.heap.size + 1, 0, none⟩ = some (.int .i64 pb) := RowAt.cell (HH.out.row _ (List.Mem.head _)) 0
  have kP_1 : v6.cell? ⟨w1.heap.size + 1, 1, none⟩ = some (.int .i64 pc) := RowAt.cell (HH.out.row _ (List.Mem.head _)) 1
  have kP_2 : v6.cell? ⟨w1.heap.size + 1, 2, none⟩ = some (.int .i64 pa) := RowAt.cell (HH.out.row _ (List.Mem.head _)) 2
  have kG_0 : v6.cell? ⟨w1.heap.size, 0, none⟩ = some (.slice a0 m0 c0) := RowAt.cell (HH.out.row _ (List.Mem.tail _ (List.Mem.head _))) 0
  clear hb
  go_wp2_with fail
  refine (specPlaceOk_is HX.out ((HH.out.fact _ (List.Mem.tail _ (List.Mem.tail _ (List.Mem.head _)))).2)).mono ?_
  rintro e v7 ⟨rfl, hb⟩
  have sv7 := hb.size
  replace HH := hd_go HH hb
  clear kP_0 kP_1 kP_2 kG_0
  have kP_0 : v7.cell? ⟨w1.heap.size + 1, 0, none⟩ = some (.int .i64 pb) := RowAt.cell (HH.out.row _ (List.Mem.head _)) 0
  have kP_1 : v7.cell? ⟨w1.heap.size + 1, 1, none⟩ = some (.int .i64 pc) := RowAt.cell (HH.out.row _ (List.Mem.head _)) 1
  have kP_2 : v7.cell? ⟨w1.heap.size + 1, 2, none⟩ = some (.int .i64 pa) := RowAt.cell (HH.out.row _ (List.Mem.head _)) 2
  have kG_0 : v7.cell? ⟨w1.heap.size, 0, none⟩ = some (.slice a0 m0 c0) := RowAt.cell (HH.out.row _ (List.Mem.tail _ (List.Mem.head _))) 0
  clear hb
  cases x
  · go_wp2_with fail
    refine (SPT.out _ ((HH.out.fact _ (List.Mem.tail _ (List.Mem.tail _ (List.Mem.head _)))).2)).mono ?_
    rintro e v8 ⟨⟨pU, mU, qU, rfl, ht⟩, hb⟩
    have sv8 := hb.size
    replace HH := hd_go HH hb
    clear kP_0 kP_1 kP_2 kG_0
    replace HH := hd_add HH (fun u => Txt u pU mU qU t0) (mono_txt _ _ _ _) ht
    have kP_0 : v8.cell? ⟨w1.heap.size + 1, 0, none⟩ = some (.int .i64 pb) := RowAt.cell (HH.out.row _ (List.Mem.head _)) 0
    have kP_1 : v8.cell? ⟨w1.heap.size + 1, 1, none⟩ = some (.int .i64 pc) := RowAt.cell (HH.out.row _ (List.Mem.head _)) 1
    have kP_2 : v8.cell? ⟨w1.heap.size + 1, 2, none⟩ = some (.int .i64 pa) := RowAt.cell (HH.out.row _ (List.Mem.head _)) 2
    have kG_0 : v8.cell? ⟨w1.heap.size, 0, none⟩ = some (.slice a0 m0 c0) := RowAt.cell (HH.out.row _ (List.Mem.tail _ (List.Mem.head _))) 0
    clear ht hb
    go_wp2_with fail
    refine (lmSigns_same ((HH.out.fact _ (List.Mem.tail _ (List.Mem.tail _ (List.Mem.head _)))).2) ((HH.out.fact _ (List.Mem.head _)).2)).mono ?_
    rintro e v9 ⟨rfl, hb⟩
    have sv9 := hb.size
    replace HH := hd_go HH hb
    clear kP_0 kP_1 kP_2 kG_0
    have kP_0 : v9.cell? ⟨w1.heap.size + 1, 0, none⟩ = some (.int .i64 pb) := RowAt.cell (HH.out.row _ (List.Mem.head _)) 0
    have kP_1 : v9.cell? ⟨w1.heap.size + 1, 1, none⟩ = some (.int .i64 pc) := RowAt.cell (HH.out.row _ (List.Mem.head _)) 1
    have kP_2 : v9.cell? ⟨w1.heap.size + 1, 2, none⟩ = some (.int .i64 pa) := RowAt.cell (HH.out.row _ (List.Mem.head _)) 2
    have kG_0 : v9.cell? ⟨w1.heap.size, 0, none⟩ = some (.slice a0 m0 c0) := RowAt.cell (HH.out.row _ (List.Mem.tail _ (List.Mem.head _))) 0
    clear hb
    go_wp2_with fail
    go_ret
    exact ⟨rfl, HH.out.below⟩
  obtain ⟨s, hs⟩ : ∃ s, plT d pb pc pa = some s := by
    cases hp : plT d pb pc pa with
    | none => have := HX.out; rw [hp] at this; cases this
    | some s => exact ⟨s, rfl⟩
  obtain rfl : s = t0 := by have := HT0.out; rw [hs] at this; exact this
  obtain ⟨i, rfl, hid, hbo, hti, -, -⟩ := plT_parts hs
  have hDx := (HH.out.fact _ (List.Mem.tail _ (List.Mem.tail _ (List.Mem.head _)))).2
  have hi0 : (0 : Int) ≤ (i : Int) := by omega
  have hin : (i : Int) < (m0 : Int) := by have : m0 = d.length := hDx.1; omega
  have hmc : m0 ≤ c0 := hDx.2.1
  have hmm : c0 ≤ maxLen := hDx.2.2.1
  unfold maxLen at hmm
  rcases hDx.2.2.2 with e | ⟨b, off, rfl, hbl, hcl⟩
  · rw [e] at hid
    exact absurd hid (by simp)
  obtain ⟨ta, tn, tc, ca, cn, cc, hblk⟩ := hcl i hid
  obtain ⟨⟨K, V, t, R, C, l⟩, hy⟩ : ∃ y, y = d.getD i bl0 := ⟨_, rfl⟩
  rw [← hy] at hblk hti
  clear hcl hDx hs hbo hy HX HT0 IMT SPT hid
  obtain ⟨c0', c1, c2, c3, c4, c5, htt, hct⟩ := hblk
  replace HH := hd_add HH (fun u => Txt u ta tn tc t) (mono_txt _ _ _ _) htt
  replace HH := hd_add HH (fun u => Tab u ca cn cc l) (mono_tab _ _ _ _) hct
  clear htt hct
  unfold textIn at hti
  simp only at hti
  clear kP_0 kP_1 kP_2 kG_0
  have kP_0 : v7.cell? ⟨w1.heap.size + 1, 0, none⟩ = some (.int .i64 i) := RowAt.cell (HH.out.row _ (List.Mem.head _)) 0
  have kP_1 : v7.cell? ⟨w1.heap.size + 1, 1, none⟩ = some (.int .i64 pc) := RowAt.cell (HH.out.row _ (List.Mem.head _)) 1
  have kP_2 : v7.cell? ⟨w1.heap.size + 1, 2, none⟩ = some (.int .i64 pa) := RowAt.cell (HH.out.row _ (List.Mem.head _)) 2
  have kG_0 : v7.cell? ⟨w1.heap.size, 0, none⟩ = some (.slice (some ⟨b, off, none⟩) m0 c0) := RowAt.cell (HH.out.row _ (List.Mem.tail _ (List.Mem.head _))) 0
  go_upto_region 8 with fail
  replace HH := hd_box HH #[.int .i64 K, .int .i64 V, .slice ta tn tc, .int .i64 R, .int .i64 C, .slice ca cn cc] 39
  clear kP_0 kP_1 kP_2 kG_0
  have sv8 : v7.heap.size < (v7.alloc (.cells #[.int .i64 K, .int .i64 V, .slice ta tn tc, .int .i64 R, .int .i64 C, .slice ca cn cc] 39)).heap.size := by simp
  generalize (v7.alloc (.cells #[.int .i64 K, .int .i64 V, .slice ta tn tc, .int .i64 R, .int .i64 C, .slice ca cn cc] 39)) = v8 at HH sv8 ⊢
  have kQ_0 : v8.cell? ⟨v7.heap.size, 0, none⟩ = some (.int .i64 K) := RowAt.cell (HH.out.row _ (List.Mem.head _)) 0
  have kQ_1 : v8.cell? ⟨v7.heap.size, 1, none⟩ = some (.int .i64 V) := RowAt.cell (HH.out.row _ (List.Mem.head _)) 1
  have kQ_2 : v8.cell? ⟨v7.heap.size, 2, none⟩ = some (.slice ta tn tc) := RowAt.cell (HH.out.row _ (List.Mem.head _)) 2
  have kQ_3 : v8.cell? ⟨v7.heap.size, 3, none⟩ = some (.int .i64 R) := RowAt.cell (HH.out.row _ (List.Mem.head _)) 3
  have kQ_4 : v8.cell? ⟨v7.heap.size, 4, none⟩ = some (.int .i64 C) := RowAt.cell (HH.out.row _ (List.Mem.head _)) 4
  have kQ_5 : v8.cell? ⟨v7.heap.size, 5, none⟩ = some (.slice ca cn cc) := RowAt.cell (HH.out.row _ (List.Mem.head _)) 5
  have kP_0 : v8.cell? ⟨w1.heap.size + 1, 0, none⟩ = some (.int .i64 i) := RowAt.cell (HH.out.row _ (List.Mem.tail _ (List.Mem.head _))) 0
  have kP_1 : v8.cell? ⟨w1.heap.size + 1, 1, none⟩ = some (.int .i64 pc) := RowAt.cell (HH.out.row _ (List.Mem.tail _ (List.Mem.head _))) 1
  have kP_2 : v8.cell? ⟨w1.heap.size + 1, 2, none⟩ = some (.int .i64 pa) := RowAt.cell (HH.out.row _ (List.Mem.tail _ (List.Mem.head _))) 2
  have kG_0 : v8.cell? ⟨w1.heap.size, 0, none⟩ = some (.slice (some ⟨b, off, none⟩) m0 c0) := RowAt.cell (HH.out.row _ (List.Mem.tail _ (List.Mem.tail _ (List.Mem.head _)))) 0
  clear c0' c1 c2 c3 c4 c5
  by_cases hK : K = 3
  · subst hK
    rw [if_pos rfl] at hti
    split at hti
    · rename_i hcc
      obtain ⟨j, rfl⟩ : ∃ j : Nat, pc = j := ⟨pc.toNat, by omega⟩
      simp only [Int.toNat_natCast] at hti
      have hjl : j < l.length := by omega
      cases hti
      clear kQ_0 kQ_1 kQ_2 kQ_3 kQ_4 kQ_5 kP_0 kP_1 kP_2 kG_0
      have kQ_0 : v8.cell? ⟨v7.heap.size, 0, none⟩ = some (.int .i64 3) := RowAt.cell (HH.out.row _ (List.Mem.head _)) 0
      have kQ_1 : v8.cell? ⟨v7.heap.size, 1, none⟩ = some (.int .i64 V) := RowAt.cell (HH.out.row _ (List.Mem.head _)) 1
      have kQ_2 : v8.cell? ⟨v7.heap.size, 2, none⟩ = some (.slice ta tn tc) := RowAt.cell (HH.out.row _ (List.Mem.head _)) 2
      have kQ_3 : v8.cell? ⟨v7.heap.size, 3, none⟩ = some (.int .i64 R) := RowAt.cell (HH.out.row _ (List.Mem.head _)) 3
      have kQ_4 : v8.cell? ⟨v7.heap.size, 4, none⟩ = some (.int .i64 C) := RowAt.cell (HH.out.row _ (List.Mem.head _)) 4
      have kQ_5 : v8.cell? ⟨v7.heap.size, 5, none⟩ = some (.slice ca cn cc) := RowAt.cell (HH.out.row _ (List.Mem.head _)) 5
      have kP_0 : v8.cell? ⟨w1.heap.size + 1, 0, none⟩ = some (.int .i64 i) := RowAt.cell (HH.out.row _ (List.Mem.tail _ (List.Mem.head _))) 0
      have kP_1 : v8.cell? ⟨w1.heap.size + 1, 1, none⟩ = some (.int .i64 j) := RowAt.cell (HH.out.row _ (List.Mem.tail _ (List.Mem.head _))) 1
      have kP_2 : v8.cell? ⟨w1.heap.size + 1, 2, none⟩ = some (.int .i64 pa) := RowAt.cell (HH.out.row _ (List.Mem.tail _ (List.Mem.head _))) 2
      have kG_0 : v8.cell? ⟨w1.heap.size, 0, none⟩ = some (.slice (some ⟨b, off, none⟩) m0 c0) := RowAt.cell (HH.out.row _ (List.Mem.tail _ (List.Mem.tail _ (List.Mem.head _)))) 0
      have hTB := (HH.out.fact _ (List.Mem.head _)).2
      have hjn : (j : Int) < (cn : Int) := by have : cn = l.length := hTB.1; omega
      have hj0 : (0 : Int) ≤ (j : Int) := by omega
      have hcc1 : cn ≤ cc := hTB.2.1
      have hcm : cc ≤ maxLen := hTB.2.2.1
      unfold maxLen at hcm
      rcases hTB.2.2.2 with q | ⟨bb, oo, rfl, hbbw, hcl⟩
      · rw [q] at hjl
        exact absurd hjl (by simp)
      obtain ⟨-, -, -, -, xa, xn, xc, x4, hxt⟩ := hcl j hjl
      have HXT : Hid (Txt v8 xa xn xc (l.getD j cl0).2.2.2.2) := hxt
      clear hcl hxt hTB hcc hjl
      clear kQ_0 kQ_1 kQ_2 kQ_3 kQ_4 kQ_5 kP_0 kP_1 kP_2 kG_0
      have kQ_0 : v8.cell? ⟨v7.heap.size, 0, none⟩ = some (.int .i64 3) := RowAt.cell (HH.out.row _ (List.Mem.head _)) 0
      have kQ_1 : v8.cell? ⟨v7.heap.size, 1, none⟩ = some (.int .i64 V) := RowAt.cell (HH.out.row _ (List.Mem.head _)) 1
      have kQ_2 : v8.cell? ⟨v7.heap.size, 2, none⟩ = some (.slice ta tn tc) := RowAt.cell (HH.out.row _ (List.Mem.head _)) 2
      have kQ_3 : v8.cell? ⟨v7.heap.size, 3, none⟩ = some (.int .i64 R) := RowAt.cell (HH.out.row _ (List.Mem.head _)) 3
      have kQ_4 : v8.cell? ⟨v7.heap.size, 4, none⟩ = some (.int .i64 C) := RowAt.cell (HH.out.row _ (List.Mem.head _)) 4
      have kQ_5 : v8.cell? ⟨v7.heap.size, 5, none⟩ = some (.slice (some ⟨bb, oo, none⟩) cn cc) := RowAt.cell (HH.out.row _ (List.Mem.head _)) 5
      have kP_0 : v8.cell? ⟨w1.heap.size + 1, 0, none⟩ = some (.int .i64 i) := RowAt.cell (HH.out.row _ (List.Mem.tail _ (List.Mem.head _))) 0
      have kP_1 : v8.cell? ⟨w1.heap.size + 1, 1, none⟩ = some (.int .i64 j) := RowAt.cell (HH.out.row _ (List.Mem.tail _ (List.Mem.head _))) 1
      have kP_2 : v8.cell? ⟨w1.heap.size + 1, 2, none⟩ = some (.int .i64 pa) := RowAt.cell (HH.out.row _ (List.Mem.tail _ (List.Mem.head _))) 2
      have kG_0 : v8.cell? ⟨w1.heap.size, 0, none⟩ = some (.slice (some ⟨b, off, none⟩) m0 c0) := RowAt.cell (HH.out.row _ (List.Mem.tail _ (List.Mem.tail _ (List.Mem.head _)))) 0
      go_wp2_with fail
      refine (lmSigns_same ((HH.out.fact _ (List.Mem.tail _ (List.Mem.tail _ (List.Mem.tail _ (List.Mem.head _))))).2) HXT.out).mono ?_
      rintro e v9 ⟨rfl, hb⟩
      have sv9 := hb.size
      replace HH := hd_go HH hb
      clear kQ_0 kQ_1 kQ_2 kQ_3 kQ_4 kQ_5 kP_0 kP_1 kP_2 kG_0
      have kQ_0 : v9.cell? ⟨v7.heap.size, 0, none⟩ = some (.int .i64 3) := RowAt.cell (HH.out.row _ (List.Mem.head _)) 0
      have kQ_1 : v9.cell? ⟨v7.heap.size, 1, none⟩ = some (.int .i64 V) := RowAt.cell (HH.out.row _ (List.Mem.head _)) 1
      have kQ_2 : v9.cell? ⟨v7.heap.size, 2, none⟩ = some (.slice ta tn tc) := RowAt.cell (HH.out.row _ (List.Mem.head _)) 2
      have kQ_3 : v9.cell? ⟨v7.heap.size, 3, none⟩ = some (.int .i64 R) := RowAt.cell (HH.out.row _ (List.Mem.head _)) 3
      have kQ_4 : v9.cell? ⟨v7.heap.size, 4, none⟩ = some (.int .i64 C) := RowAt.cell (HH.out.row _ (List.Mem.head _)) 4
      have kQ_5 : v9.cell? ⟨v7.heap.size, 5, none⟩ = some (.slice (some ⟨bb, oo, none⟩) cn cc) := RowAt.cell (HH.out.row _ (List.Mem.head _)) 5
      have kP_0 : v9.cell? ⟨w1.heap.size + 1, 0, none⟩ = some (.int .i64 i) := RowAt.cell (HH.out.row _ (List.Mem.tail _ (List.Mem.head _))) 0
      have kP_1 : v9.cell? ⟨w1.heap.size + 1, 1, none⟩ = some (.int .i64 j) := RowAt.cell (HH.out.row _ (List.Mem.tail _ (List.Mem.head _))) 1
      have kP_2 : v9.cell? ⟨w1.heap.size + 1, 2, none⟩ = some (.int .i64 pa) := RowAt.cell (HH.out.row _ (List.Mem.tail _ (List.Mem.head _))) 2
      have kG_0 : v9.cell? ⟨w1.heap.size, 0, none⟩ = some (.slice (some ⟨b, off, none⟩) m0 c0) := RowAt.cell (HH.out.row _ (List.Mem.tail _ (List.Mem.tail _ (List.Mem.head _)))) 0
      go_wp2_with fail
      go_ret
      exact ⟨rfl, HH.out.below⟩
    · cases hti
  · rw [if_neg hK] at hti
    split at hti
    · rename_i hcc
      subst hcc
      cases hti
      clear kQ_0 kQ_1 kQ_2 kQ_3 kQ_4 kQ_5 kP_0 kP_1 kP_2 kG_0
      have kQ_0 : v8.cell? ⟨v7.heap.size, 0, none⟩ = some (.int .i64 K) := RowAt.cell (HH.out.row _ (List.Mem.head _)) 0
      have kQ_1 : v8.cell? ⟨v7.heap.size, 1, none⟩ = some (.int .i64 V) := RowAt.cell (HH.out.row _ (List.Mem.head _)) 1
      have kQ_2 : v8.cell? ⟨v7.heap.size, 2, none⟩ = some (.slice ta tn tc) := RowAt.cell (HH.out.row _ (List.Mem.head _)) 2
      have kQ_3 : v8.cell? ⟨v7.heap.size, 3, none⟩ = some (.int .i64 R) := RowAt.cell (HH.out.row _ (List.Mem.head _)) 3
      have kQ_4 : v8.cell? ⟨v7.heap.size, 4, none⟩ = some (.int .i64 C) := RowAt.cell (HH.out.row _ (List.Mem.head _)) 4
      have kQ_5 : v8.cell? ⟨v7.heap.size, 5, none⟩ = some (.slice ca cn cc) := RowAt.cell (HH.out.row _ (List.Mem.head _)) 5
      have kP_0 : v8.cell? ⟨w1.heap.size + 1, 0, none⟩ = some (.int .i64 i) := RowAt.cell (HH.out.row _ (List.Mem.tail _ (List.Mem.head _))) 0
      have kP_1 : v8.cell? ⟨w1.heap.size + 1, 1, none⟩ = some (.int .i64 0) := RowAt.cell (HH.out.row _ (List.Mem.tail _ (List.Mem.head _))) 1
      have kP_2 : v8.cell? ⟨w1.heap.size + 1, 2, none⟩ = some (.int .i64 pa) := RowAt.cell (HH.out.row _ (List.Mem.tail _ (List.Mem.head _))) 2
      have kG_0 : v8.cell? ⟨w1.heap.size, 0, none⟩ = some (.slice (some ⟨b, off, none⟩) m0 c0) := RowAt.cell (HH.out.row _ (List.Mem.tail _ (List.Mem.tail _ (List.Mem.head _)))) 0
      have hkb : (K == 3) = false := by simp [hK]
      go_wp2_with fail
      refine (lmSigns_same ((HH.out.fact _ (List.Mem.tail _ (List.Mem.tail _ (List.Mem.tail _ (List.Mem.head _))))).2) ((HH.out.fact _ (List.Mem.tail _ (List.Mem.head _))).2)).mono ?_
      rintro e v9 ⟨rfl, hb⟩
      have sv9 := hb.size
      replace HH := hd_go HH hb
      clear kQ_0 kQ_1 kQ_2 kQ_3 kQ_4 kQ_5 kP_0 kP_1 kP_2 kG_0
      have kQ_0 : v9.cell? ⟨v7.heap.size, 0, none⟩ = some (.int .i64 K) := RowAt.cell (HH.out.row _ (List.Mem.head _)) 0
      have kQ_1 : v9.cell? ⟨v7.heap.size, 1, none⟩ = some (.int .i64 V) := RowAt.cell (HH.out.row _ (List.Mem.head _)) 1
      have kQ_2 : v9.cell? ⟨v7.heap.size, 2, none⟩ = some (.slice ta tn tc) := RowAt.cell (HH.out.row _ (List.Mem.head _)) 2
      have kQ_3 : v9.cell? ⟨v7.heap.size, 3, none⟩ = some (.int .i64 R) := RowAt.cell (HH.out.row _ (List.Mem.head _)) 3
      have kQ_4 : v9.cell? ⟨v7.heap.size, 4, none⟩ = some (.int .i64 C) := RowAt.cell (HH.out.row _ (List.Mem.head _)) 4
      have kQ_5 : v9.cell? ⟨v7.heap.size, 5, none⟩ = some (.slice ca cn cc) := RowAt.cell (HH.out.row _ (List.Mem.head _)) 5
      have kP_0 : v9.cell? ⟨w1.heap.size + 1, 0, none⟩ = some (.int .i64 i) := RowAt.cell (HH.out.row _ (List.Mem.tail _ (List.Mem.head _))) 0
      have kP_1 : v9.cell? ⟨w1.heap.size + 1, 1, none⟩ = some (.int .i64 0) := RowAt.cell (HH.out.row _ (List.Mem.tail _ (List.Mem.head _))) 1
      have kP_2 : v9.cell? ⟨w1.heap.size + 1, 2, none⟩ = some (.int .i64 pa) := RowAt.cell (HH.out.row _ (List.Mem.tail _ (List.Mem.head _))) 2
      have kG_0 : v9.cell? ⟨w1.heap.size, 0, none⟩ = some (.slice (some ⟨b, off, none⟩) m0 c0) := RowAt.cell (HH.out.row _ (List.Mem.tail _ (List.Mem.tail _ (List.Mem.head _)))) 0
      go_wp2_with fail
      go_ret
      exact ⟨rfl, HH.out.below⟩
    · cases hti
end Go.Proofs.Ytcecmkideoodiaa
