import Derived.Test.YteghidjbcpmfbaaParted
namespace Go.Proofs.Yteghidjbcpmfbaa
open Go.RowKit

/-- Each square is of a cell, and going through all squares each number is met behind all lesser ones. -/
def Tiles (R C : Nat) (f : Nat → Nat) : Prop := ∀ a b, vis R 0 C a b → 1 ≤ f (a * 5 + b) ∧ ∀ k, 1 ≤ k → k < f (a * 5 + b) → ∃ a' b', vis a b C a' b' ∧ f (a' * 5 + b') = k
/-- So far, and m is the greatest number met. -/
def Met (C : Nat) (f : Nat → Nat) (i j m : Nat) : Prop :=
  (∀ a b, vis i j C a b → (1 ≤ f (a * 5 + b) ∧ f (a * 5 + b) ≤ m) ∧ ∀ k, 1 ≤ k → k < f (a * 5 + b) → ∃ a' b', vis a b C a' b' ∧ f (a' * 5 + b') = k) ∧ (∀ k, 1 ≤ k → k ≤ m → ∃ a b, vis i j C a b ∧ f (a * 5 + b) = k)
theorem Met.row {C : Nat} {f : Nat → Nat} {i m : Nat} (h : Met C f i C m) : Met C f (i + 1) 0 m := by
  refine ⟨fun a b hv => h.1 a b ?_, fun k h1 h2 => ?_⟩
  · unfold vis at hv ⊢
    omega
  · obtain ⟨a, b, h3, h4⟩ := h.2 k h1 h2
    exact ⟨a, b, by unfold vis at h3 ⊢; omega, h4⟩
theorem Met.next {C : Nat} {f : Nat → Nat} {i j m : Nat} (h : Met C f i j m) (hj : j < C) (h0 : 1 ≤ f (i * 5 + j)) (h1 : f (i * 5 + j) ≤ m + 1) : Met C f i (j + 1) (max m (f (i * 5 + j))) := by
  refine ⟨fun a b hv => ?_, fun k k1 k2 => ?_⟩
  · by_cases hh : a = i ∧ b = j
    · obtain ⟨rfl, rfl⟩ := hh
      refine ⟨⟨h0, Nat.le_max_right _ _⟩, fun k k1 k2 => ?_⟩
      exact h.2 k k1 (by omega)
    · obtain ⟨⟨h2, h3⟩, h4⟩ := h.1 a b (by unfold vis at hv ⊢; omega)
      exact ⟨⟨h2, Nat.le_trans h3 (Nat.le_max_left _ _)⟩, h4⟩
  · by_cases hk : k ≤ m
    · obtain ⟨a, b, h3, h4⟩ := h.2 k k1 hk
      exact ⟨a, b, by unfold vis at h3 ⊢; omega, h4⟩
    · exact ⟨i, j, by unfold vis; omega, by omega⟩
theorem Met.zero (C : Nat) (f : Nat → Nat) : Met C f 0 0 0 := by
  refine ⟨fun a b hv => ?_, fun k k1 k2 => by omega⟩
  unfold vis at hv
  omega
theorem Met.bad {R C : Nat} {f : Nat → Nat} {i j m : Nat} (h : Met C f i j m) (hi : i < R) (hj : j < C) (hb : f (i * 5 + j) = 0 ∨ m + 1 < f (i * 5 + j)) : ¬ Tiles R C f := by
  intro ht
  obtain ⟨h1, h2⟩ := ht i j (by unfold vis; omega)
  rcases hb with hb | hb
  · omega
  · obtain ⟨a, b, h3, h4⟩ := h2 (m + 1) (by omega) hb
    have := (h.1 a b h3).1.2
    omega
theorem Met.good {R C : Nat} {f : Nat → Nat} {m : Nat} (h : Met C f R 0 m) : Tiles R C f := fun a b hv => ⟨(h.1 a b hv).1.1, (h.1 a b hv).2⟩

set_option maxRecDepth 100000 in
set_option maxHeartbeats 4000000 in
theorem isTiled_is {R C n : Nat} {f : Nat → Nat} {t : Nat → Sl} {w : World} {x : Bool} (hx : x = true ↔ Tiles R C f) (hR : R ≤ 5) (hC : C ≤ 5) (hf : ∀ k, f k ≤ 25) :
    Calls Try.prog 57 #[.agg (gridA R C n f t)] w fun z w' => z = .returned (.bool x) ∧ Below w.heap.size w w' := by
  have HX : Hid (x = true ↔ Tiles R C f) := hx
  clear hx
  go_enter Try.func57, Try.ntmps57
  go_upto_region 1 with fail
  have B0 : Below w.heap.size w (w.alloc (.cells (gridA R C n f t) 51)) := (Below.refl _ _).alloc (Nat.le_refl _) _
  have G0 : GridAt (w.alloc (.cells (gridA R C n f t) 51)) w.heap.size R C n f t := gridAt_new w R C n f t
  generalize (w.alloc (.cells (gridA R C n f t) 51)) = v0 at B0 G0 ⊢
  have k0 := G0.rows
  go_wp2_with fail
  go_loopw [3, 9] (fun mv iv wr => ∃ i m : Nat, i ≤ R ∧ m ≤ 25 ∧ iv = .int .i64 i ∧ mv = .int .i64 m ∧ Met C f i 0 m ∧ Below v0.heap.size v0 wr) (fun _ iv _ => R - (intOf iv).toNat)
  case atStart => exact ⟨0, 0, Nat.zero_le _, Nat.zero_le _, rfl, rfl, Met.zero C f, Below.refl _ _⟩
  case round =>
    clear k0
    obtain ⟨i, m, hi, hm, rfl, rfl, hM, hb⟩ := hrel
    have HM : Hid (Met C f i 0 m) := hM
    have HB : Hid (Below v0.heap.size v0 wr) := hb
    have k1 := (G0.below hb G0.lt).cols
    clear hM hb
    by_cases hlt : i < R
    · have b0 : (i : Int) < 5 := by omega
      have b1 : (C : Int) ≤ 5 := by omega
      go_wp2_with fail
      go_quiet (fail)
      go_wp2_with fail
      go_loopw [3, 19] (fun mv jv wr => ∃ j m : Nat, j ≤ C ∧ m ≤ 25 ∧ jv = .int .i64 j ∧ mv = .int .i64 m ∧ Met C f i j m ∧ Below v0.heap.size v0 wr) (fun _ jv _ => C - (intOf jv).toNat)
      case atStart => exact ⟨0, m, Nat.zero_le _, hm, rfl, rfl, HM.out, below_drewN HB.out _⟩
      case round =>
        clear HM HB k1
        obtain ⟨j, m, hj, hm, rfl, rfl, hM, hb⟩ := hrel
        have HM : Hid (Met C f i j m) := hM
        have HB : Hid (Below v0.heap.size v0 wr) := hb
        by_cases hlj : j < C
        · have k1 := (G0.below hb G0.lt).num (i * 5 + j) (by omega)
          have hq := hf (i * 5 + j)
          obtain ⟨q, HQ⟩ : ∃ q, Hid (f (i * 5 + j) = q) := ⟨_, rfl⟩
          rw [← Nat.add_assoc, HQ.out] at k1
          rw [HQ.out] at hq
          clear hM hb
          rcases (show q = 0 ∨ (¬ q = 0 ∧ m + 1 < q) ∨ (¬ q = 0 ∧ q ≤ m + 1) from by omega) with rfl | ⟨q0, q1⟩ | ⟨q0, q1⟩
          · go_wp2_with fail
            go_ret
            refine ⟨congrArg (fun b => Ending.returned (.bool b)) ?_, B0.trans (HB.out.mono B0.size)⟩
            show false = x
            cases x
            · rfl
            · exact absurd (HX.out.1 rfl) (HM.out.bad hlt hlj (.inl HQ.out))
          · have n0 : ((q : Int) == 0) = false := by simp; omega
            have n1 : (m : Int) + 1 < (q : Int) := by omega
            go_wp2_with fail
            go_ret
            refine ⟨congrArg (fun b => Ending.returned (.bool b)) ?_, B0.trans (HB.out.mono B0.size)⟩
            show false = x
            cases x
            · rfl
            · exact absurd (HX.out.1 rfl) (HM.out.bad hlt hlj (.inr (by rw [HQ.out]; exact q1)))
          · have n0 : ((q : Int) == 0) = false := by simp; omega
            have n1 : ¬ (m : Int) + 1 < (q : Int) := by omega
            go_wp2_with fail
            go_roundw
            case rel =>
              have hN := HM.out.next hlj (by rw [HQ.out]; omega) (by rw [HQ.out]; omega)
              rw [HQ.out] at hN
              refine ⟨j + 1, max m q, by omega, by omega, by go_num, ?_, hN, HB.out⟩
              by_cases hmq : m < q
              · rw [if_pos hmq, Nat.max_eq_right (by omega)]
              · rw [if_neg hmq, Nat.max_eq_left (by omega)]
            case measure => simp [intOf]; omega
        · clear hM hb
          go_wp2_with fail
          go_roundw
          case rel =>
            have hh := HM.out
            rw [show j = C from by omega] at hh
            exact ⟨i + 1, m, by omega, hm, by go_num, rfl, hh.row, HB.out⟩
          case measure => simp [intOf]; omega
    · go_wp2_with fail
      go_ret
      refine ⟨congrArg (fun b => Ending.returned (.bool b)) ?_, B0.trans (HB.out.mono B0.size)⟩
      show true = x
      have hh := HM.out
      rw [show i = R from by omega] at hh
      exact (HX.out.2 hh.good).symm
end Go.Proofs.Yteghidjbcpmfbaa
