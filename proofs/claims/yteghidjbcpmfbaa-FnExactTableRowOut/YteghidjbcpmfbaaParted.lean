import Derived.Test.YteghidjbcpmfbaaGridA
import Derived.Deep.RegionHeld3
import Derived.Deep.LoopGhost
import Derived.Deep.QuietTactic
import Derived.BigQuiet
import Derived.Deep.Cut
namespace Go.Proofs.Yteghidjbcpmfbaa
open Go.RowKit

/-- The squares ahead of a place, going through all rows. -/
def vis (i j : Nat) (C : Nat) (a b : Nat) : Prop := b < C ∧ (a < i ∨ a = i ∧ b < j)
def inR (r c d h a b : Nat) : Prop := r ≤ a ∧ a < r + d ∧ c ≤ b ∧ b < c + h
/-- A number whose bits are the numbers of some squares. -/
def Mask (x : Nat) (f : Nat → Nat) (p : Nat → Nat → Prop) : Prop := x < 2 ^ 26 ∧ ∀ k, x.testBit k = true ↔ ∃ a b, p a b ∧ f (a * 5 + b) = k

theorem or_nat (y p : Nat) (hy : y < 2 ^ 26) (hp : p < 2 ^ 26) : bits .or .u32 (y : Int) (p : Int) = ((y ||| p : Nat) : Int) := by
  have ho : y ||| p < 2 ^ 26 := Nat.or_lt_two_pow hy hp
  show IntKind.u32.wrap (((BitVec.ofInt 32 (y : Int)) ||| (BitVec.ofInt 32 (p : Int))).toNat : Int) = _
  rw [BitVec.ofInt_natCast, BitVec.ofInt_natCast, BitVec.toNat_or, BitVec.toNat_ofNat, BitVec.toNat_ofNat, Nat.mod_eq_of_lt (a := y) (by omega), Nat.mod_eq_of_lt (a := p) (by omega)]
  generalize y ||| p = z at ho ⊢
  simp only [IntKind.wrap, IntKind.bits, IntKind.signed]
  simp
  omega
theorem pow_lt26 {m : Nat} (hm : m ≤ 25) : 2 ^ m < 2 ^ 26 := Nat.pow_lt_pow_right (by decide) (by omega)
theorem pow_mod (m : Nat) (hm : m ≤ 25) : ((2 : Int) ^ m % 4294967296) = ((2 ^ m : Nat) : Int) := by
  have hp := pow_lt26 hm
  rw [show ((2 : Int) ^ m) = ((2 ^ m : Nat) : Int) from by simp]
  generalize 2 ^ m = p at hp ⊢
  omega
theorem or_pow (y m : Nat) (hy : y < 2 ^ 26) (hm : m ≤ 25) : bits .or .u32 (y : Int) (2 ^ m % 4294967296) = ((y ||| 2 ^ m : Nat) : Int) := by
  rw [pow_mod m hm, or_nat y _ hy (pow_lt26 hm)]
theorem Mask.snoc {y m a0 b0 : Nat} {f : Nat → Nat} {p q : Nat → Nat → Prop} (h : Mask y f p) (hm : m ≤ 25) (hf : f (a0 * 5 + b0) = m) (hp : ∀ a b, q a b ↔ p a b ∨ (a = a0 ∧ b = b0)) : Mask (y ||| 2 ^ m) f q := by
  refine ⟨Nat.or_lt_two_pow h.1 (Nat.pow_lt_pow_right (by decide) (by omega)), ?_⟩
  intro k
  rw [Nat.testBit_or, Bool.or_eq_true, h.2 k, Nat.testBit_two_pow, decide_eq_true_eq]
  constructor
  · rintro (⟨a, b, h1, h2⟩ | rfl)
    · exact ⟨a, b, (hp a b).2 (.inl h1), h2⟩
    · exact ⟨a0, b0, (hp a0 b0).2 (.inr ⟨rfl, rfl⟩), hf⟩
  · rintro ⟨a, b, h1, h2⟩
    rcases (hp a b).1 h1 with h3 | ⟨rfl, rfl⟩
    · exact .inl ⟨a, b, h3, h2⟩
    · exact .inr (hf.symm.trans h2)
theorem Mask.same {y : Nat} {f : Nat → Nat} {p q : Nat → Nat → Prop} (h : Mask y f p) (hp : ∀ a b, q a b ↔ p a b) : Mask y f q := by
  refine ⟨h.1, fun k => ?_⟩
  rw [h.2 k]
  simp only [hp]
theorem Mask.zero {f : Nat → Nat} {p : Nat → Nat → Prop} (hp : ∀ a b, ¬ p a b) : Mask 0 f p := by
  refine ⟨by decide, fun k => ?_⟩
  simp only [Nat.zero_testBit, Bool.false_eq_true, false_iff]
  rintro ⟨a, b, h, _⟩
  exact hp a b h
theorem recB_true {r c d h a b : Nat} (e : recB r c d h a b = true) : inR r c d h a b := by
  have := of_decide_eq_true e
  unfold inR
  omega
theorem recB_false {r c d h a b : Nat} (e : recB r c d h a b = false) : ¬ inR r c d h a b := by
  have := of_decide_eq_false e
  unfold inR
  omega

set_option maxRecDepth 100000 in
set_option maxHeartbeats 4000000 in
theorem parted_any (R C n : Nat) (f : Nat → Nat) (t : Nat → Sl) (r c d h : Nat) (w : World) (hR : R ≤ 5) (hC : C ≤ 5) (hr : r + d ≤ 5) (hc : c + h ≤ 5) (hf : ∀ k, f k ≤ 25) :
    Calls Try.prog 46 #[.agg (gridA R C n f t), .agg #[.int .i64 r, .int .i64 c, .int .i64 d, .int .i64 h]] w fun z w' => (∃ x y : Nat, z = .returned (.tuple #[.int .u32 x, .int .u32 y]) ∧ Mask x f (fun a b => vis R 0 C a b ∧ inR r c d h a b) ∧ Mask y f (fun a b => vis R 0 C a b ∧ ¬ inR r c d h a b)) ∧ Below w.heap.size w w' := by
  go_enter Try.func46, Try.ntmps46
  go_upto_region 1 with fail
  have B0 : Below w.heap.size w ((w.alloc (.cells (gridA R C n f t) 51)).alloc (.cells #[.int .i64 r, .int .i64 c, .int .i64 d, .int .i64 h] 63)) := (((Below.refl _ _).alloc (Nat.le_refl _) _).alloc (by simp) _)
  have G0 : GridAt ((w.alloc (.cells (gridA R C n f t) 51)).alloc (.cells #[.int .i64 r, .int .i64 c, .int .i64 d, .int .i64 h] 63)) w.heap.size R C n f t := (gridAt_new w R C n f t).alloc _
  have G2 : RectAt ((w.alloc (.cells (gridA R C n f t) 51)).alloc (.cells #[.int .i64 r, .int .i64 c, .int .i64 d, .int .i64 h] 63)) (w.heap.size + 1) r c d h := by
    have := (rowAt_new (w.alloc (.cells (gridA R C n f t) 51)) #[.int .i64 r, .int .i64 c, .int .i64 d, .int .i64 h] 63)
    simpa [RectAt] using this
  generalize ((w.alloc (.cells (gridA R C n f t) 51)).alloc (.cells #[.int .i64 r, .int .i64 c, .int .i64 d, .int .i64 h] 63)) = v0 at B0 G0 G2 ⊢
  have k0 := G0.rows
  go_wp2_with fail
  go_loopw [4, 5, 11] (fun xv yv iv wr => ∃ i x y : Nat, i ≤ R ∧ iv = .int .i64 i ∧ xv = .int .u32 x ∧ yv = .int .u32 y ∧ Mask x f (fun a b => vis i 0 C a b ∧ inR r c d h a b) ∧ Mask y f (fun a b => vis i 0 C a b ∧ ¬ inR r c d h a b) ∧ Below v0.heap.size v0 wr) (fun _ _ iv _ => R - (intOf iv).toNat)
  case atStart => exact ⟨0, 0, 0, Nat.zero_le _, rfl, rfl, rfl, Mask.zero (fun a b hh => by simp [vis] at hh), Mask.zero (fun a b hh => by simp [vis] at hh), Below.refl _ _⟩
  case round =>
    clear k0
    obtain ⟨i, x, y, hi, rfl, rfl, rfl, hx, hy, hb⟩ := hrel
    have HX : Hid (Mask x f (fun a b => vis i 0 C a b ∧ inR r c d h a b)) := hx
    have HY : Hid (Mask y f (fun a b => vis i 0 C a b ∧ ¬ inR r c d h a b)) := hy
    have HG : Hid (GridAt wr w.heap.size R C n f t) := G0.below hb G0.lt
    have HQ : Hid (RectAt wr (w.heap.size + 1) r c d h) := RowAt.below G2 hb (RowAt.lt G2)
    have HB : Hid (Below v0.heap.size v0 wr) := hb
    have k1 := HG.out.cols
    clear hx hy hb
    by_cases hlt : i < R
    · have b0 : (i : Int) < 5 := by omega
      have b1 : (C : Int) ≤ 5 := by omega
      go_wp2_with fail
      go_quiet (fail)
      go_wp2_with fail
      go_loopw [4, 5, 21] (fun xv yv jv wq => ∃ j x y : Nat, j ≤ C ∧ jv = .int .i64 j ∧ xv = .int .u32 x ∧ yv = .int .u32 y ∧ Mask x f (fun a b => vis i j C a b ∧ inR r c d h a b) ∧ Mask y f (fun a b => vis i j C a b ∧ ¬ inR r c d h a b) ∧ Below v0.heap.size v0 wq) (fun _ _ jv _ => C - (intOf jv).toNat)
      case atStart => exact ⟨0, x, y, Nat.zero_le _, rfl, rfl, rfl, HX.out, HY.out, below_drewN HB.out _⟩
      case round =>
        clear HX HY HG HQ HB k1
        obtain ⟨j, x, y, hj, rfl, rfl, rfl, hx, hy, hb⟩ := hrel
        have HX : Hid (Mask x f (fun a b => vis i j C a b ∧ inR r c d h a b)) := hx
        have HY : Hid (Mask y f (fun a b => vis i j C a b ∧ ¬ inR r c d h a b)) := hy
        have HB : Hid (Below v0.heap.size v0 wr) := hb
        by_cases hlj : j < C
        · have k1 := (G0.below hb G0.lt).num (i * 5 + j) (by omega)
          have HQ : RectAt wr (w.heap.size + 1) r c d h := RowAt.below G2 hb (RowAt.lt G2)
          have hm := hf (i * 5 + j)
          obtain ⟨m, HM⟩ : ∃ m, Hid (f (i * 5 + j) = m) := ⟨_, rfl⟩
          rw [← Nat.add_assoc, HM.out] at k1
          rw [HM.out] at hm
          have e0 := HQ.c0
          have e1 := HQ.c1
          have e2 := HQ.c2
          have e3 := HQ.c3
          have sz := hb.size
          clear hx hy hb HQ
          cases hz : recB r c d h i j
          · have HH : Hid (recB r c d h i j = false) := hz
            clear hz
            go_wp2_with (go_at_call 67; refine (has_is HH.out ⟨by omega, by omega⟩ ⟨by omega, by omega⟩ ⟨by omega, by omega⟩ ⟨by omega, by omega⟩ _).mono ?_; rintro e w4 ⟨rfl, hb4⟩)
            go_roundw
            case rel =>
              refine ⟨j + 1, x, y ||| 2 ^ m, by omega, by go_num, rfl, by rw [or_pow y m HY.out.1 hm], HX.out.same ?_, HY.out.snoc hm HM.out ?_, HB.out.trans (hb4.mono sz)⟩
              · intro a b
                have hn := recB_false HH.out
                constructor
                · rintro ⟨⟨h1, h2⟩, h3⟩
                  refine ⟨⟨h1, ?_⟩, h3⟩
                  rcases h2 with h2 | ⟨rfl, h2⟩
                  · exact .inl h2
                  · refine .inr ⟨rfl, ?_⟩
                    rcases Nat.lt_or_ge b j with h4 | h4
                    · exact h4
                    · obtain rfl : b = j := by omega
                      exact absurd h3 hn
                · rintro ⟨⟨h1, h2⟩, h3⟩
                  exact ⟨⟨h1, by omega⟩, h3⟩
              · intro a b
                have hn := recB_false HH.out
                constructor
                · rintro ⟨⟨h1, h2⟩, h3⟩
                  by_cases h4 : a = i ∧ b = j
                  · exact .inr h4
                  · exact .inl ⟨⟨h1, by omega⟩, h3⟩
                · rintro (⟨⟨h1, h2⟩, h3⟩ | ⟨rfl, rfl⟩)
                  · exact ⟨⟨h1, by omega⟩, h3⟩
                  · exact ⟨⟨hlj, by omega⟩, hn⟩
            case measure => simp [intOf]; omega
          · have HH : Hid (recB r c d h i j = true) := hz
            clear hz
            go_wp2_with (go_at_call 67; refine (has_is HH.out ⟨by omega, by omega⟩ ⟨by omega, by omega⟩ ⟨by omega, by omega⟩ ⟨by omega, by omega⟩ _).mono ?_; rintro e w4 ⟨rfl, hb4⟩)
            go_roundw
            case rel =>
              refine ⟨j + 1, x ||| 2 ^ m, y, by omega, by go_num, by rw [or_pow x m HX.out.1 hm], rfl, HX.out.snoc hm HM.out ?_, HY.out.same ?_, HB.out.trans (hb4.mono sz)⟩
              · intro a b
                have hn := recB_true HH.out
                constructor
                · rintro ⟨⟨h1, h2⟩, h3⟩
                  by_cases h4 : a = i ∧ b = j
                  · exact .inr h4
                  · exact .inl ⟨⟨h1, by omega⟩, h3⟩
                · rintro (⟨⟨h1, h2⟩, h3⟩ | ⟨rfl, rfl⟩)
                  · exact ⟨⟨h1, by omega⟩, h3⟩
                  · exact ⟨⟨hlj, by omega⟩, hn⟩
              · intro a b
                have hn := recB_true HH.out
                constructor
                · rintro ⟨⟨h1, h2⟩, h3⟩
                  refine ⟨⟨h1, ?_⟩, h3⟩
                  rcases h2 with h2 | ⟨rfl, h2⟩
                  · exact .inl h2
                  · refine .inr ⟨rfl, ?_⟩
                    rcases Nat.lt_or_ge b j with h4 | h4
                    · exact h4
                    · obtain rfl : b = j := by omega
                      exact absurd hn h3
                · rintro ⟨⟨h1, h2⟩, h3⟩
                  exact ⟨⟨h1, by omega⟩, h3⟩
            case measure => simp [intOf]; omega
        · clear hx hy hb
          go_wp2_with fail
          go_roundw
          case rel =>
            refine ⟨i + 1, x, y, by omega, by go_num, rfl, rfl, HX.out.same ?_, HY.out.same ?_, HB.out⟩
            · intro a b
              exact and_congr_left' (by unfold vis; omega)
            · intro a b
              exact and_congr_left' (by unfold vis; omega)
          case measure => simp [intOf]; omega
    · go_wp2_with fail
      refine bodyPost_ret (v := .tuple #[.int .u32 x, .int .u32 y]) (by simp [results, Try.results46, go_sem]) rfl ⟨⟨x, y, rfl, ?_, ?_⟩, B0.trans (HB.out.mono B0.size)⟩
      · obtain rfl : i = R := by omega
        exact HX.out
      · obtain rfl : i = R := by omega
        exact HY.out
end Go.Proofs.Yteghidjbcpmfbaa
