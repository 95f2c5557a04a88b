import Derived.Test.YteghidjbcpmfbaaCell
import Derived.Deep.RegionHeld3
import Derived.Deep.AppendLies
namespace Go.Proofs.Yteghidjbcpmfbaa
open Go.RowKit

theorem and_nat (y p : Nat) (hy : y < 2 ^ 26) (hp : p < 2 ^ 26) : bits .and .u32 (y : Int) (p : Int) = ((y &&& p : Nat) : Int) := by
  have ho : y &&& p < 2 ^ 26 := Nat.and_lt_two_pow y hp
  show IntKind.u32.wrap (((BitVec.ofInt 32 (y : Int)) &&& (BitVec.ofInt 32 (p : Int))).toNat : Int) = _
  rw [BitVec.ofInt_natCast, BitVec.ofInt_natCast, BitVec.toNat_and, BitVec.toNat_ofNat, BitVec.toNat_ofNat, Nat.mod_eq_of_lt (a := y) (by omega), Nat.mod_eq_of_lt (a := p) (by omega)]
  generalize y &&& p = z at ho ⊢
  simp only [IntKind.wrap, IntKind.bits, IntKind.signed]
  simp
  omega
theorem and_pow_ne (x m : Nat) (hx : x < 2 ^ 26) (hm : m ≤ 25) : (bits .and .u32 (x : Int) (2 ^ m % 4294967296) != 0) = x.testBit m := by
  rw [pow_mod m hm, and_nat x _ hx (pow_lt26 hm)]
  cases ht : x.testBit m
  · have : x &&& 2 ^ m = 0 := by
      apply Nat.eq_of_testBit_eq
      intro k
      rw [Nat.testBit_and, Nat.testBit_two_pow, Nat.zero_testBit]
      by_cases hk : m = k
      · subst hk
        simp [ht]
      · simp [hk]
    simp [this]
  · have : x &&& 2 ^ m ≠ 0 := by
      intro e
      have h1 : (x &&& 2 ^ m).testBit m = true := by rw [Nat.testBit_and, ht, Nat.testBit_two_pow]; simp
      rw [e, Nat.zero_testBit] at h1
      exact absurd h1 (by simp)
    simp
    omega
set_option maxHeartbeats 800000 in
theorem numHas_is {x m : Nat} {z : Bool} (hz : x.testBit m = z) (hx : x < 2 ^ 26) (hm : m ≤ 25) (w : World) :
    Calls Try.prog 59 #[.int .u32 x, .int .i64 m] w fun e w' => e = .returned (.bool z) ∧ w' = w := by
  have HX : Hid ((bits .and .u32 (x : Int) (2 ^ m % 4294967296) != 0) = z) := by
    show (bits .and .u32 (x : Int) (2 ^ m % 4294967296) != 0) = z
    rw [and_pow_ne x m hx hm, hz]
  clear hz hx
  go_enter Try.func59, Try.ntmps59
  go_wp2
  go_ret
  exact ⟨congrArg (fun b => Ending.returned (.bool b)) HX.out, rfl⟩

/-- The start of a cell, as places. -/
def stR (x : Cl) : Nat := x.1.toNat
def stC (x : Cl) : Nat := x.2.1.toNat
/-- What a grid's cells are, in order: where each begins its number is new; any other square has a number that was met. -/
structure Rep (R C : Nat) (f : Nat → Nat) (l : List Cl) : Prop where
  cell : ∀ k, k < l.length → (∃ a b d h : Nat, l.getD k cl0 = ((a : Int), (b : Int), (d : Int), (h : Int), (l.getD k cl0).2.2.2.2) ∧ a < R ∧ b < C ∧ Dn R f a b d ∧ Rt C f a b h)
  order : ∀ i k, i < k → k < l.length → vis (stR (l.getD k cl0)) (stC (l.getD k cl0)) C (stR (l.getD i cl0)) (stC (l.getD i cl0))
  fresh : ∀ k, k < l.length → ∀ a b, vis (stR (l.getD k cl0)) (stC (l.getD k cl0)) C a b → f (a * 5 + b) ≠ f (stR (l.getD k cl0) * 5 + stC (l.getD k cl0))
  met : ∀ a b, vis R 0 C a b → (∃ k, k < l.length ∧ stR (l.getD k cl0) = a ∧ stC (l.getD k cl0) = b) ∨ (∃ a' b', vis a b C a' b' ∧ f (a' * 5 + b') = f (a * 5 + b))

theorem Dn.uniq {R : Nat} {f : Nat → Nat} {a b d d' : Nat} (h : Dn R f a b d) (h' : Dn R f a b d') : d = d' := by
  rcases Nat.lt_trichotomy d d' with hl | hl | hl
  · exact absurd (h'.1 d hl) h.2
  · exact hl
  · exact absurd (h.1 d' hl) h'.2
theorem Rt.uniq {C : Nat} {f : Nat → Nat} {a b d d' : Nat} (h : Rt C f a b d) (h' : Rt C f a b d') : d = d' := by
  rcases Nat.lt_trichotomy d d' with hl | hl | hl
  · exact absurd (h'.1 d hl) h.2
  · exact hl
  · exact absurd (h.1 d' hl) h'.2

/-- So many cells begin ahead of a square. -/
def Ahead (C : Nat) (l : List Cl) (i j k : Nat) : Prop := k ≤ l.length ∧ (∀ q, q < k → vis i j C (stR (l.getD q cl0)) (stC (l.getD q cl0))) ∧ (∀ q, k ≤ q → q < l.length → ¬ vis i j C (stR (l.getD q cl0)) (stC (l.getD q cl0)))
theorem Ahead.row {C i k : Nat} {l : List Cl} (h : Ahead C l i C k) : Ahead C l (i + 1) 0 k := by
  refine ⟨h.1, fun q hq => ?_, fun q hq hl hv => h.2.2 q hq hl ?_⟩
  · have := h.2.1 q hq
    unfold vis at this ⊢
    omega
  · unfold vis at hv ⊢
    omega
/-- At a square whose number is new the next cell begins; at another none. -/
theorem Ahead.new {R C i j k : Nat} {f : Nat → Nat} {l : List Cl} (h : Ahead C l i j k) (hr : Rep R C f l) (hi : i < R) (hj : j < C) (hn : ∀ a b, vis i j C a b → f (a * 5 + b) ≠ f (i * 5 + j)) :
    k < l.length ∧ stR (l.getD k cl0) = i ∧ stC (l.getD k cl0) = j ∧ Ahead C l i (j + 1) (k + 1) := by
  rcases hr.met i j (by unfold vis; omega) with ⟨q, hq, e1, e2⟩ | ⟨a, b, h1, h2⟩
  · have hkq : k = q := by
      rcases Nat.lt_trichotomy k q with hl | hl | hl
      · have := hr.order k q hl hq
        rw [e1, e2] at this
        exact absurd this (h.2.2 k (Nat.le_refl _) (by omega))
      · exact hl
      · have := h.2.1 q hl
        rw [e1, e2] at this
        unfold vis at this
        omega
    subst hkq
    refine ⟨hq, e1, e2, by omega, fun q' hq' => ?_, fun q' hq' hl' => ?_⟩
    · by_cases hqk : q' = k
      · subst hqk
        rw [e1, e2]
        unfold vis
        omega
      · have := h.2.1 q' (by omega)
        unfold vis at this ⊢
        omega
    · have ho := hr.order k q' (by omega) hl'
      rw [e1, e2] at ho
      intro hv
      unfold vis at ho hv
      omega
  · exact absurd h2 (hn a b h1)
theorem Ahead.old {R C i j k : Nat} {f : Nat → Nat} {l : List Cl} (h : Ahead C l i j k) (hr : Rep R C f l) (hn : ∃ a b, vis i j C a b ∧ f (a * 5 + b) = f (i * 5 + j)) : Ahead C l i (j + 1) k := by
  obtain ⟨a, b, h1, h2⟩ := hn
  refine ⟨h.1, fun q hq => ?_, fun q hq hl hv => ?_⟩
  · have := h.2.1 q hq
    unfold vis at this ⊢
    omega
  · have hno := h.2.2 q hq hl
    have e : stR (l.getD q cl0) = i ∧ stC (l.getD q cl0) = j := by
      unfold vis at hno hv
      omega
    have := hr.fresh q hl a b (by rw [e.1, e.2]; exact h1)
    rw [e.1, e.2] at this
    exact this h2
end Go.Proofs.Yteghidjbcpmfbaa
