import Derived.Test.YteghidjbcpmfbaaHeldT
import Derived.Test.YteghidjbcpmfbaaTabR
import Derived.Test.YteghidjbcpmfbaaGridE
namespace Go.Proofs.Yteghidjbcpmfbaa
open Go.RowKit

/-- What a call gives that answers a table and whether there is one. -/
def FRes (ok : Bool) (X Y : Int) (L : List Cl) (B : Nat) (x y : Int) (a : Option Addr) (n c : Nat) (l' : List Cl) (g : Bool) (w' : World) : Prop := (∃ rs, OwnT w' B (.slice a n c) rs l') ∧ x = (if ok then X else 0) ∧ y = (if ok then Y else 0) ∧ l' = (if ok then L else []) ∧ g = ok
theorem fRes_of {ok : Bool} {X Y : Int} {L : List Cl} {w w' : World} {z : Ending} (h : TabRes w.heap.size ok X Y L z w' ∧ Below w.heap.size w w') :
    (∃ x y a n c l' g, z = .returned (.tuple #[.agg #[.int .i64 x, .int .i64 y, .slice a n c], .bool g]) ∧ FRes ok X Y L w.heap.size x y a n c l' g w') ∧ Below w.heap.size w w' := by
  obtain ⟨h1 | h1, hb⟩ := h
  · obtain ⟨h2, rfl⟩ := h1
    refine ⟨⟨0, 0, none, 0, 0, [], false, rfl, ⟨[], OwnR.nil _ _, TxtOwn.nil _ _ _⟩, ?_, ?_, ?_, ?_⟩, hb⟩ <;> simp [h2]
  · obtain ⟨h2, a, c, rs, rfl, ho⟩ := h1
    refine ⟨⟨X, Y, a, _, c, _, true, rfl, ⟨rs, ho⟩, ?_, ?_, ?_, ?_⟩, hb⟩ <;> simp [h2]
theorem totT_le24 : ∀ L : List Cl, (∀ x ∈ L, x.2.2.2.2.length ≤ 24) → totT L ≤ 24 * L.length
  | [], _ => by simp [totT]
  | x :: L, h => by
    have h1 := totT_le24 L (fun y hy => h y (List.mem_cons_of_mem _ hy))
    have h2 := h x (List.mem_cons_self ..)
    unfold totT at h1 ⊢
    simp only [List.map_cons, List.sum_cons, List.length_cons]
    omega
theorem fRes_small {ok : Bool} {X Y : Int} {L : List Cl} {B : Nat} {x y : Int} {a : Option Addr} {n c : Nat} {l' : List Cl} {g : Bool} {w : World} (h : FRes ok X Y L B x y a n c l' g w) (hs : ok = true → L.length ≤ 50 ∧ ∀ x ∈ L, x.2.2.2.2.length ≤ 24) : l'.length ≤ 50 ∧ totT l' ≤ 1200 := by
  obtain ⟨_, _, _, rfl, _⟩ := h
  cases ok
  · simp [totT]
  · obtain ⟨h1, h2⟩ := hs rfl
    have := totT_le24 L h2
    simp only [if_true]
    omega
/-- The texts of a table that is ok are short, and its cells few. -/
theorem ok_small {R C : Int} {l : List Cl} (h : okB R C l = true) : l.length ≤ 25 ∧ ∀ x ∈ l, x.2.2.2.2.length ≤ 24 := by
  have hf : formB R C l = true := by
    simp only [okB, Bool.and_eq_true] at h
    exact h.1
  obtain ⟨_, _, hl, hat⟩ := formB_of hf
  refine ⟨hl, fun x hx => ?_⟩
  obtain ⟨k, hk, e⟩ := List.getElem_of_mem hx
  have := (cellB_of (atB_cell (hat k hk))).2.2.2.2
  rw [show l.getD k cl0 = x by rw [← e]; simp [List.getD, hk]] at this
  simp only [textB, Bool.and_eq_true, decide_eq_true_eq] at this
  exact this.1
end Go.Proofs.Yteghidjbcpmfbaa
