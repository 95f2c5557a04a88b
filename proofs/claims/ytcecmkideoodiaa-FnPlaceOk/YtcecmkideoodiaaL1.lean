import Derived.Test.YtcecmkideoodiaaBD1
import Derived.Test.YtcecmkideoodiaaBA5
import Derived.Test.YtcecmkideoodiaaBA6
import Derived.Test.YtcecmkideoodiaaBA1
namespace Go.Proofs.Ytcecmkideoodiaa
open Go.RowKit

theorem plT_at {d : List Bl} {b c a a' : Int} {s : List Sg} (h : plT d b c a = some s) (h0 : 0 ≤ a') (h1 : a' ≤ (s.length : Int)) : plT d b c a' = some s := by
  unfold plT at h ⊢
  split at h
  · rename_i hd
    unfold placeT at h ⊢
    split at h
    · rename_i hb
      cases hx : textIn (d.getD b.toNat bl0) c with
      | none => rw [hx] at h; simp at h
      | some t =>
        rw [hx] at h
        simp only [Option.bind_some] at h
        split at h
        · cases h
          simp [hb.1, hb.2, hd, h0, h1]
        · cases h
    · cases h
  · cases h
theorem plT_past {d : List Bl} {b c a a' : Int} {s : List Sg} (h : plT d b c a = some s) (h1 : (s.length : Int) < a') : plT d b c a' = none := by
  unfold plT at h ⊢
  split at h
  · rename_i hd
    unfold placeT at h ⊢
    split at h
    · rename_i hb
      cases hx : textIn (d.getD b.toNat bl0) c with
      | none => rw [hx] at h; simp at h
      | some t =>
        rw [hx] at h
        simp only [Option.bind_some] at h
        split at h
        · cases h
          simp [hb.1, hb.2, hd]
          omega
        · cases h
    · cases h
  · cases h
set_option maxRecDepth 100000 in
set_option maxHeartbeats 16000000 in
theorem lawPlaceOk_walk (a : Option Addr) (n cap : Nat) (zs : List Int) (w : World) (h : Byt w.heap.size w a n cap zs) :
    Calls Try.prog 3 #[.slice a n cap] w fun e w' => e = .returned (.bool true) ∧ Below w.heap.size w w' := by
  have HY : Hid (Byt w.heap.size w a n cap zs) := h
  have hc := h.2.1
  have hm := h.2.2.1
  unfold maxLen at hm
  clear h
  by_cases hn : 1048576 < n
  · have hd : decide ((1048576 : Int) < (n : Int)) = true := by simp; omega
    go_enter Try.func3, Try.ntmps3
    go_wp2_with fail
    go_ret
    exact ⟨rfl, Below.refl _ _⟩
  have hd : decide ((1048576 : Int) < (n : Int)) = false := by simp; omega
  go_enter Try.func3, Try.ntmps3
  go_wp2_with fail
  refine (drDrawPlaceOk_any w.heap.size a n cap zs _ HY.out (Nat.le_refl _)).mono ?_
  rintro e w1 ⟨⟨a0, m0, c0, d, pb, pc, pa, rfl, hT1, hS1, hpb, hpc, hpa⟩, hb1⟩
  have HH := hd_go (hd_start w) hb1
  have sw1 := hb1.size
  clear hb1 HY
  replace HH := hd_add HH (fun u => Dc u a0 m0 c0 d) (mono_dc _ _ _ _) hT1
  clear hT1 hd hn
  obtain ⟨x, HX⟩ : ∃ x, Hid ((plT d pb pc pa).isSome = x) := ⟨_, rfl⟩
  go_upto_region 4 with fail
  replace HH := hd_box HH #[.slice a0 m0 c0] 25
  replace HH := hd_box HH #[.int .i64 pb, .int .i64 pc, .int .i64 pa] 27
  have ev3 : (w1.alloc (.cells #[.slice a0 m0 c0] 25)).heap.size = w1.heap.size + 1 := by simp
  rw [ev3] at HH
  have sv3 : w1.heap.size + 1 < ((w1.alloc (.cells #[.slice a0 m0 c0] 25)).alloc (.cells #[.int .i64 pb, .int .i64 pc, .int .i64 pa] 27)).heap.size := by simp
  generalize ((w1.alloc (.cells #[.slice a0 m0 c0] 25)).alloc (.cells #[.int .i64 pb, .int .i64 pc, .int .i64 pa] 27)) = v3 at HH sv3 ⊢
  clear ev3
  have kP_0 : v3.cell? ⟨w1.heap.size + 1, 0, none⟩ = some (.int .i64 pb) := RowAt.cell (HH.out.row _ (List.Mem.head _)) 0
  have kP_1 : v3.cell? ⟨w1.heap.size + 1, 1, none⟩ = some (.int .i64 pc) := RowAt.cell (HH.out.row _ (List.Mem.head _)) 1
  have kP_2 : v3.cell? ⟨w1.heap.size + 1, 2, none⟩ = some (.int .i64 pa) := RowAt.cell (HH.out.row _ (List.Mem.head _)) 2
  have kG_0 : v3.cell? ⟨w1.heap.size, 0, none⟩ = some (.slice a0 m0 c0) := RowAt.cell (HH.out.row _ (List.Mem.tail _ (List.Mem.head _))) 0
  go_wp2_with fail
  refine (implPlaceOk_is HX.out ((HH.out.fact _ (List.Mem.head _)).2)).mono ?_
  rintro e v4 ⟨rfl, hb⟩
  have sv4 := hb.size
  replace HH := hd_go HH hb
  clear kP_0 kP_1 kP_2 kG_0
  have kP_0 : v4.cell? ⟨w1.heap.size + 1, 0, none⟩ = some (.int .i64 pb) := RowAt.cell (HH.out.row _ (List.Mem.head _)) 0
  have kP_1 : v4.cell? ⟨w1.heap.size + 1, 1, none⟩ = some (.int .i64 pc) := RowAt.cell (HH.out.row _ (List.Mem.head _)) 1
  have kP_2 : v4.cell? ⟨w1.heap.size + 1, 2, none⟩ = some (.int .i64 pa) := RowAt.cell (HH.out.row _ (List.Mem.head _)) 2
  have kG_0 : v4.cell? ⟨w1.heap.size, 0, none⟩ = some (.slice a0 m0 c0) := RowAt.cell (HH.out.row _ (List.Mem.tail _ (List.Mem.head _))) 0
  clear hb
  have gne : (x != x) = false := by cases x <;> rfl
  have geq : (x == x) = true := by cases x <;> rfl
  go_wp2_with fail
  refine (specPlaceOk_is HX.out ((HH.out.fact _ (List.Mem.head _)).2)).mono ?_
  rintro e v5 ⟨rfl, hb⟩
  have sv5 := hb.size
  replace HH := hd_go HH hb
  clear kP_0 kP_1 kP_2 kG_0
  have kP_0 : v5.cell? ⟨w1.heap.size + 1, 0, none⟩ = some (.int .i64 pb) := RowAt.cell (HH.out.row _ (List.Mem.head _)) 0
  have kP_1 : v5.cell? ⟨w1.heap.size + 1, 1, none⟩ = some (.int .i64 pc) := RowAt.cell (HH.out.row _ (List.Mem.head _)) 1
  have kP_2 : v5.cell? ⟨w1.heap.size + 1, 2, none⟩ = some (.int .i64 pa) := RowAt.cell (HH.out.row _ (List.Mem.head _)) 2
  have kG_0 : v5.cell? ⟨w1.heap.size, 0, none⟩ = some (.slice a0 m0 c0) := RowAt.cell (HH.out.row _ (List.Mem.tail _ (List.Mem.head _))) 0
  clear hb
  cases x
  · go_wp2_with fail
    refine (specPlaceOk_is HX.out ((HH.out.fact _ (List.Mem.head _)).2)).mono ?_
    rintro e v6 ⟨rfl, hb⟩
    have sv6 := hb.size
    replace HH := hd_go HH hb
    clear kP_0 kP_1 kP_2 kG_0
    have kP_0 : v6.cell? ⟨w1.heap.size + 1, 0, none⟩ = some (.int .i64 pb) := RowAt.cell (HH.out.row _ (List.Mem.head _)) 0
    have kP_1 : v6.cell? ⟨w1.heap.size + 1, 1, none⟩ = some (.int .i64 pc) := RowAt.cell (HH.out.row _ (List.Mem.head _)) 1
    have kP_2 : v6.cell? ⟨w1.heap.size + 1, 2, none⟩ = some (.int .i64 pa) := RowAt.cell (HH.out.row _ (List.Mem.head _)) 2
    have kG_0 : v6.cell? ⟨w1.heap.size, 0, none⟩ = some (.slice a0 m0 c0) := RowAt.cell (HH.out.row _ (List.Mem.tail _ (List.Mem.head _))) 0
    clear hb
    go_wp2_with fail
    go_ret
    exact ⟨rfl, HH.out.below⟩
  obtain ⟨s, hs⟩ : ∃ s, plT d pb pc pa = some s := by
    cases hp : plT d pb pc pa with
    | none => have := HX.out; rw [hp] at this; cases this
    | some s => exact ⟨s, rfl⟩
  obtain ⟨_, -, -, hbo, hti, ha0, ha1⟩ := plT_parts hs
  have hs24 : s.length ≤ 24 := textIn_small hbo hti
  have HS : Hid (plT d pb pc pa = some s) := hs
  clear hbo hti hs
  go_wp2_with fail
  clear kP_0 kP_1 kP_2 kG_0
  go_loopw [6] (fun iv wr => ∃ k : Nat, iv = .int .i64 k ∧ (k : Int) ≤ pa + 1 ∧ Below v5.heap.size v5 wr) (fun iv _ => (pa + 1 - intOf iv).toNat)
  case atStart => exact ⟨0, rfl, by omega, Below.refl _ _⟩
  case round =>
    obtain ⟨k, rfl, hk, hbr⟩ := hrel
    have HB : Hid (Below v5.heap.size v5 wr) := hbr
    replace HH := hd_go HH hbr
    clear hbr
    have kP_0 : wr.cell? ⟨w1.heap.size + 1, 0, none⟩ = some (.int .i64 pb) := RowAt.cell (HH.out.row _ (List.Mem.head _)) 0
    have kP_1 : wr.cell? ⟨w1.heap.size + 1, 1, none⟩ = some (.int .i64 pc) := RowAt.cell (HH.out.row _ (List.Mem.head _)) 1
    have kP_2 : wr.cell? ⟨w1.heap.size + 1, 2, none⟩ = some (.int .i64 pa) := RowAt.cell (HH.out.row _ (List.Mem.head _)) 2
    have kG_0 : wr.cell? ⟨w1.heap.size, 0, none⟩ = some (.slice a0 m0 c0) := RowAt.cell (HH.out.row _ (List.Mem.tail _ (List.Mem.head _))) 0
    by_cases hlt : (k : Int) ≤ pa
    · have HK : Hid ((plT d pb pc k).isSome = true) := by
        show (plT d pb pc k).isSome = true
        rw [plT_at HS.out (by omega) (by omega)]
        rfl
      go_wp2_with fail
      refine (implPlaceOk_is HK.out ((HH.out.fact _ (List.Mem.head _)).2)).mono ?_
      rintro e v6 ⟨rfl, hb⟩
      have HB2 : Hid (Below v5.heap.size v5 v6) := HB.out.trans (hb.mono HB.out.size)
      clear kP_0 kP_1 kP_2 kG_0
      clear hb
      go_wp2_with fail
      go_roundw
      case rel => exact ⟨k + 1, by go_num, by omega, HB2.out⟩
      case measure => simp [intOf]; omega
    · obtain ⟨t0, HT0⟩ : ∃ t0, Hid ((plT d pb pc pa).getD [] = t0) := ⟨_, rfl⟩
      have hTS : t0 = s := by have := HT0.out; rw [HS.out] at this; exact this.symm
      go_wp2_with fail
      refine (implPlaceText_any (pb := pb) (pc := pc) (pa := pa) ((HH.out.fact _ (List.Mem.head _)).2)).mono ?_
      rintro e v6 ⟨⟨p1, m1, q1, rfl, ho⟩, hb⟩
      have hm1 : m1 = s.length := by
        rw [HT0.out, hTS] at ho
        exact (Own.txt ho).1
      clear ho hTS
      replace HH := hd_go HH hb
      clear kP_0 kP_1 kP_2 kG_0
      have kP_0 : v6.cell? ⟨w1.heap.size + 1, 0, none⟩ = some (.int .i64 pb) := RowAt.cell (HH.out.row _ (List.Mem.head _)) 0
      have kP_1 : v6.cell? ⟨w1.heap.size + 1, 1, none⟩ = some (.int .i64 pc) := RowAt.cell (HH.out.row _ (List.Mem.head _)) 1
      have kP_2 : v6.cell? ⟨w1.heap.size + 1, 2, none⟩ = some (.int .i64 pa) := RowAt.cell (HH.out.row _ (List.Mem.head _)) 2
      have kG_0 : v6.cell? ⟨w1.heap.size, 0, none⟩ = some (.slice a0 m0 c0) := RowAt.cell (HH.out.row _ (List.Mem.tail _ (List.Mem.head _))) 0
      clear hb
      have HP : Hid ((plT d pb pc ((m1 : Int) + 1)).isSome = false) := by
        show (plT d pb pc ((m1 : Int) + 1)).isSome = false
        rw [plT_past HS.out (by omega)]
        rfl
      have hpm : pa ≤ (m1 : Int) := by omega
      have hm24 : m1 ≤ 24 := by omega
      clear hm1
      go_wp2_with fail
      refine (implPlaceOk_is HP.out ((HH.out.fact _ (List.Mem.head _)).2)).mono ?_
      rintro e v7 ⟨rfl, hb⟩
      have sv7 := hb.size
      replace HH := hd_go HH hb
      clear kP_0 kP_1 kP_2 kG_0
      have kP_0 : v7.cell? ⟨w1.heap.size + 1, 0, none⟩ = some (.int .i64 pb) := RowAt.cell (HH.out.row _ (List.Mem.head _)) 0
      have kP_1 : v7.cell? ⟨w1.heap.size + 1, 1, none⟩ = some (.int .i64 pc) := RowAt.cell (HH.out.row _ (List.Mem.head _)) 1
      have kP_2 : v7.cell? ⟨w1.heap.size + 1, 2, none⟩ = some (.int .i64 pa) := RowAt.cell (HH.out.row _ (List.Mem.head _)) 2
      have kG_0 : v7.cell? ⟨w1.heap.size, 0, none⟩ = some (.slice a0 m0 c0) := RowAt.cell (HH.out.row _ (List.Mem.tail _ (List.Mem.head _))) 0
      clear hb
      go_wp2_with fail
      go_ret
      exact ⟨rfl, HH.out.below⟩
end Go.Proofs.Ytcecmkideoodiaa
