import Derived.Test.YteghidjbcpmfbaaParted
namespace Go.Proofs.Yteghidjbcpmfbaa
open Go.RowKit

/-- No square of a rectangle is of a cell. -/
def freeB (f : Nat → Nat) (r c d h : Nat) : Bool := (List.range d).all fun i => (List.range h).all fun j => f ((r + i) * 5 + (c + j)) == 0
theorem freeB_iff {f : Nat → Nat} {r c d h : Nat} : freeB f r c d h = true ↔ ∀ a b, inR r c d h a b → f (a * 5 + b) = 0 := by
  simp only [freeB, List.all_eq_true, List.mem_range, beq_iff_eq, inR]
  constructor
  · intro hh a b ⟨h1, h2, h3, h4⟩
    have := hh (a - r) (by omega) (b - c) (by omega)
    rwa [show r + (a - r) = a from by omega, show c + (b - c) = b from by omega] at this
  · intro hh i hi j hj
    exact hh (r + i) (c + j) ⟨by omega, by omega, by omega, by omega⟩
theorem mask_one {x : Nat} {f : Nat → Nat} {R C r c d h : Nat} (hx : Mask x f (fun a b => vis R 0 C a b ∧ inR r c d h a b)) (hd : 0 < d) (hh : 0 < h) (hR : r + d ≤ R) (hC : c + h ≤ C) : decide ((x : Int) = 1) = freeB f r c d h := by
  have key : x = 1 ↔ freeB f r c d h = true := by
    rw [freeB_iff]
    constructor
    · rintro rfl a b hab
      have h1 := (hx.2 (f (a * 5 + b))).2 ⟨a, b, ⟨by unfold vis; unfold inR at hab; omega, hab⟩, rfl⟩
      rw [show (1 : Nat) = 2 ^ 0 from rfl, Nat.testBit_two_pow, decide_eq_true_eq] at h1
      exact h1.symm
    · intro hz
      apply Nat.eq_of_testBit_eq
      intro k
      rw [Bool.eq_iff_iff, hx.2 k, show (1 : Nat) = 2 ^ 0 from rfl, Nat.testBit_two_pow, decide_eq_true_eq]
      constructor
      · rintro ⟨a, b, ⟨_, h2⟩, h3⟩
        rw [hz a b h2] at h3
        exact h3
      · rintro rfl
        exact ⟨r, c, ⟨by unfold vis; omega, by unfold inR; omega⟩, hz r c (by unfold inR; omega)⟩
  cases hf : freeB f r c d h
  · rw [hf] at key
    refine decide_eq_false ?_
    intro e
    exact absurd (key.1 (by omega)) (by simp)
  · rw [hf] at key
    refine decide_eq_true ?_
    have := key.2 rfl
    omega

set_option maxRecDepth 100000 in
set_option maxHeartbeats 4000000 in
theorem isFree_is {R C n : Nat} {f : Nat → Nat} {t : Nat → Sl} {r c d h : Nat} {w : World} {x : Bool} (hx : freeB f r c d h = x) (hR : R ≤ 5) (hC : C ≤ 5) (hr : r + d ≤ R) (hc : c + h ≤ C) (hd : 0 < d) (hh : 0 < h) (hf : ∀ k, f k ≤ 25) :
    Calls Try.prog 55 #[.agg (gridA R C n f t), .agg #[.int .i64 r, .int .i64 c, .int .i64 d, .int .i64 h]] w fun z w' => z = .returned (.bool x) ∧ Below w.heap.size w w' := by
  have HX : Hid (freeB f r c d h = x) := hx
  clear hx
  go_enter Try.func55, Try.ntmps55
  go_upto_region 1 with fail
  have B0 : Below w.heap.size w ((w.alloc (.cells (gridA R C n f t) 51)).alloc (.cells #[.int .i64 r, .int .i64 c, .int .i64 d, .int .i64 h] 63)) := (((Below.refl _ _).alloc (Nat.le_refl _) _).alloc (by simp) _)
  have G0 : GridAt ((w.alloc (.cells (gridA R C n f t) 51)).alloc (.cells #[.int .i64 r, .int .i64 c, .int .i64 d, .int .i64 h] 63)) w.heap.size R C n f t := (gridAt_new w R C n f t).alloc _
  have G2 : RectAt ((w.alloc (.cells (gridA R C n f t) 51)).alloc (.cells #[.int .i64 r, .int .i64 c, .int .i64 d, .int .i64 h] 63)) (w.heap.size + 1) r c d h := by
    have := (rowAt_new (w.alloc (.cells (gridA R C n f t) 51)) #[.int .i64 r, .int .i64 c, .int .i64 d, .int .i64 h] 63)
    simpa [RectAt] using this
  generalize ((w.alloc (.cells (gridA R C n f t) 51)).alloc (.cells #[.int .i64 r, .int .i64 c, .int .i64 d, .int .i64 h] 63)) = v0 at B0 G0 G2 ⊢
  have e0 := G2.c0
  have e1 := G2.c1
  have e2 := G2.c2
  have e3 := G2.c3
  have HG : Hid (GridAt v0 w.heap.size R C n f t) := G0
  clear G0 G2
  go_wp2_with (first | (refine wpList_load_row rfl 51 (.tmp 2) rfl w.heap.size rfl 51 (gridA R C n f t) (0, 0) _ HG.out Try.underlying51 rfl (grid_infoA _ _ _ _ _) ?_) | (go_at_call 46; refine (parted_any R C n f t r c d h _ hR hC (by omega) (by omega) hf).mono ?_; rintro e w4 ⟨⟨xx, yy, rfl, hxx, -⟩, hb4⟩))
  go_ret
  refine ⟨congrArg (fun b => Ending.returned (.bool b)) ?_, B0.trans (hb4.mono B0.size)⟩
  show ((xx : Int) == 1) = x
  rw [← HX.out, ← mask_one hxx hd hh hr hc, Bool.eq_iff_iff]
  simp
end Go.Proofs.Yteghidjbcpmfbaa
