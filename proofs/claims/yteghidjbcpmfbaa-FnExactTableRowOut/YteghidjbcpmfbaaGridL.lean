import Derived.Test.YteghidjbcpmfbaaTabS
namespace Go.Proofs.Yteghidjbcpmfbaa
open Go.RowKit

def sizeB (n : Int) : Bool := decide (1 ≤ n ∧ n ≤ 5)
set_option maxHeartbeats 400000 in
theorem sizeOk_is {n : Int} {x : Bool} (h : sizeB n = x) (w : World) :
    Calls Try.prog 33 #[.int .i64 n] w fun e w' => e = .returned (.bool x) ∧ w' = w := by
  subst h
  rcases (show (1 ≤ n ∧ n ≤ 5) ∨ (1 ≤ n ∧ ¬ n ≤ 5) ∨ (¬ 1 ≤ n) from by omega) with ⟨h0, h1⟩ | ⟨h0, h1⟩ | h0
  · rw [show sizeB n = true from decide_eq_true (by omega)]
    go_enter Try.func33, Try.ntmps33
    go_wp2
    go_ret
    exact ⟨rfl, rfl⟩
  all_goals
    rw [show sizeB n = false from decide_eq_false (by omega)]
    go_enter Try.func33, Try.ntmps33
    go_wp2
    go_ret
    exact ⟨rfl, rfl⟩

def spanB (f s e : Int) : Bool := decide (1 ≤ s ∧ s ≤ e ∧ 0 ≤ f ∧ f ≤ e - s)
set_option maxHeartbeats 800000 in
theorem span_is {f s e : Int} {x : Bool} (h : spanB f s e = x) (he : 1 ≤ e ∧ e ≤ 5) (w : World) :
    Calls Try.prog 66 #[.int .i64 f, .int .i64 s, .int .i64 e] w fun z w' => z = .returned (.bool x) ∧ w' = w := by
  subst h
  obtain ⟨he0, he1⟩ := he
  rcases (show (1 ≤ s ∧ s ≤ e ∧ 0 ≤ f ∧ f ≤ e - s) ∨ (1 ≤ s ∧ s ≤ e ∧ 0 ≤ f ∧ ¬ f ≤ e - s) ∨ (1 ≤ s ∧ s ≤ e ∧ ¬ 0 ≤ f) ∨ (1 ≤ s ∧ ¬ s ≤ e) ∨ (¬ 1 ≤ s) from by omega) with ⟨h0, h1, h2, h3⟩ | ⟨h0, h1, h2, h3⟩ | ⟨h0, h1, h2⟩ | ⟨h0, h1⟩ | h0
  · rw [show spanB f s e = true from decide_eq_true (by omega)]
    go_enter Try.func66, Try.ntmps66
    go_wp2
    go_ret
    exact ⟨rfl, rfl⟩
  all_goals
    rw [show spanB f s e = false from decide_eq_false (by omega)]
    go_enter Try.func66, Try.ntmps66
    go_wp2
    go_ret
    exact ⟨rfl, rfl⟩

/-- A rectangle's value. -/
def recV (r c d h : Int) : Array Value := #[.int .i64 r, .int .i64 c, .int .i64 d, .int .i64 h]
def withB (r c d h R C : Int) : Bool := spanB r d R && spanB c h C
set_option maxHeartbeats 800000 in
theorem within_is {r c d h R C : Int} {x : Bool} (hx : withB r c d h R C = x) (hR : 1 ≤ R ∧ R ≤ 5) (hC : 1 ≤ C ∧ C ≤ 5) (w : World) :
    Calls Try.prog 45 #[.agg #[.int .i64 r, .int .i64 c, .int .i64 d, .int .i64 h], .int .i64 R, .int .i64 C] w fun z w' => z = .returned (.bool x) ∧ Below w.heap.size w w' := by
  subst hx
  cases h0 : spanB r d R
  · rw [show withB r c d h R C = false from by simp [withB, h0]]
    have H0 : Hid (spanB r d R = false) := h0
    clear h0
    go_enter Try.func45, Try.ntmps45
    go_wp2_with (go_at_call 66; refine (span_is H0.out hR _).mono ?_; rintro e w' ⟨rfl, rfl⟩)
    go_ret
    exact ⟨rfl, (Below.refl _ _).alloc (Nat.le_refl _) _⟩
  · obtain ⟨y, hy⟩ : ∃ y, spanB c h C = y := ⟨_, rfl⟩
    rw [show withB r c d h R C = y from by simp [withB, h0, hy]]
    have H0 : Hid (spanB r d R = true) := h0
    have H1 : Hid (spanB c h C = y) := hy
    clear h0 hy
    go_enter Try.func45, Try.ntmps45
    go_wp2_with (first | (go_at_call_of 66 (Value.int IntKind.i64 r); refine (span_is H0.out hR _).mono ?_; rintro e w' ⟨rfl, rfl⟩) | (go_at_call_of 66 (Value.int IntKind.i64 c); refine (span_is H1.out hC _).mono ?_; rintro e w' ⟨rfl, rfl⟩))
    go_ret
    exact ⟨rfl, (Below.refl _ _).alloc (Nat.le_refl _) _⟩

def recB (r c d h a b : Int) : Bool := decide (r ≤ a ∧ a < r + d ∧ c ≤ b ∧ b < c + h)
set_option maxHeartbeats 1600000 in
theorem has_is {r c d h a b : Int} {x : Bool} (hx : recB r c d h a b = x) (hr : sml r) (hc : sml c) (hd : sml d) (hh : sml h) (w : World) :
    Calls Try.prog 67 #[.agg #[.int .i64 r, .int .i64 c, .int .i64 d, .int .i64 h], .int .i64 a, .int .i64 b] w fun z w' => z = .returned (.bool x) ∧ Below w.heap.size w w' := by
  subst hx
  obtain ⟨r0, r1⟩ := hr
  obtain ⟨c0, c1⟩ := hc
  obtain ⟨d0, d1⟩ := hd
  obtain ⟨e0, e1⟩ := hh
  go_enter Try.func67, Try.ntmps67
  go_wp2
  all_goals go_ret
  all_goals refine ⟨congrArg (fun x => Ending.returned (.bool x)) ?_, (Below.refl _ _).alloc (Nat.le_refl _) _⟩
  all_goals show _ = decide (r ≤ a ∧ a < r + d ∧ c ≤ b ∧ b < c + h)
  all_goals first | exact decide_eq_decide.2 (by omega) | exact (decide_eq_false (by omega)).symm

set_option maxHeartbeats 800000 in
theorem rectOf_any (r c d h : Int) (ta : Option Addr) (tn tc : Nat) (w : World) :
    Calls Try.prog 51 #[.agg #[.int .i64 r, .int .i64 c, .int .i64 d, .int .i64 h, .slice ta tn tc]] w fun z w' => z = .returned (.agg #[.int .i64 r, .int .i64 c, .int .i64 d, .int .i64 h]) ∧ Below w.heap.size w w' := by
  go_enter Try.func51, Try.ntmps51
  go_wp2
  refine bodyPost_ret (v := .agg #[.int .i64 r, .int .i64 c, .int .i64 d, .int .i64 h]) (by simp [results, Try.results51, go_sem]) rfl ⟨rfl, ?_⟩
  exact ((Below.refl _ _).alloc (Nat.le_refl _) _).alloc (by simp) _
end Go.Proofs.Yteghidjbcpmfbaa
