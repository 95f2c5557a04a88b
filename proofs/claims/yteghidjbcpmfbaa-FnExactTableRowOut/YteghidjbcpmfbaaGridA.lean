import Derived.Test.YteghidjbcpmfbaaGridL
import Derived.Test.YteghidjbcpmfbaaRowAt
namespace Go.Proofs.Yteghidjbcpmfbaa
open Go.RowKit

/-- A text as it lies: its slice. -/
abbrev Sl := Option Addr × Nat × Nat
def slV (s : Sl) : Value := .slice s.1 s.2.1 s.2.2
def sl0 : Sl := (none, 0, 0)
/-- A grid's value: rows, columns, cells, the squares' numbers, the numbers' texts. -/
def gridL (R C : Int) (n : Nat) (f : Nat → Nat) (t : Nat → Sl) : List Value :=
  .int .i64 R :: .int .i64 C :: .int .i64 n :: ((List.range 25).map (fun k => Value.int .i64 (f k)) ++ (List.range 26).map (fun k => slV (t k)))
def gridA (R C : Int) (n : Nat) (f : Nat → Nat) (t : Nat → Sl) : Array Value := (gridL R C n f t).toArray
def upd (f : Nat → Nat) (k v : Nat) : Nat → Nat := fun j => if j = k then v else f j
def updS (f : Nat → Sl) (k : Nat) (v : Sl) : Nat → Sl := fun j => if j = k then v else f j

theorem gridL_length (R C : Int) (n : Nat) (f : Nat → Nat) (t : Nat → Sl) : (gridL R C n f t).length = 54 := by simp [gridL]
theorem gridA_size (R C : Int) (n : Nat) (f : Nat → Nat) (t : Nat → Sl) : (gridA R C n f t).size = 54 := by simp [gridA, gridL_length]
theorem gridA_get (R C : Int) (n : Nat) (f : Nat → Nat) (t : Nat → Sl) (i : Nat) : (gridA R C n f t)[i]? = if i = 0 then some (.int .i64 R) else if i = 1 then some (.int .i64 C) else if i = 2 then some (.int .i64 n) else if i < 28 then some (.int .i64 (f (i - 3))) else if i < 54 then some (slV (t (i - 28))) else none := by
  simp only [gridA, List.getElem?_toArray, gridL]
  match i with
  | 0 => rfl
  | 1 => rfl
  | 2 => rfl
  | j + 3 =>
    simp only [List.getElem?_cons_succ]
    rw [if_neg (by omega), if_neg (by omega), if_neg (by omega)]
    by_cases h : j < 25
    · rw [List.getElem?_append_left (by simpa using h), if_pos (by omega)]
      simp [h]
    · rw [List.getElem?_append_right (by simp; omega), if_neg (by omega)]
      simp only [List.length_map, List.length_range, List.getElem?_map]
      by_cases h2 : j < 51
      · rw [if_pos (by omega), show j + 3 - 28 = j - 25 from by omega]
        simp [show j - 25 < 26 from by omega]
      · rw [if_neg (by omega), List.getElem?_eq_none (by simp; omega)]
        rfl
theorem gridA_num (R C : Int) (n : Nat) (f : Nat → Nat) (t : Nat → Sl) (k : Nat) (hk : k < 25) : (gridA R C n f t)[3 + k]? = some (.int .i64 (f k)) := by
  rw [gridA_get, if_neg (by omega), if_neg (by omega), if_neg (by omega), if_pos (by omega), show 3 + k - 3 = k from by omega]
theorem gridA_txt (R C : Int) (n : Nat) (f : Nat → Nat) (t : Nat → Sl) (k : Nat) (hk : k < 26) : (gridA R C n f t)[28 + k]? = some (slV (t k)) := by
  rw [gridA_get, if_neg (by omega), if_neg (by omega), if_neg (by omega), if_neg (by omega), if_pos (by omega), show 28 + k - 28 = k from by omega]
theorem gridA_set_num (R C : Int) (n : Nat) (f : Nat → Nat) (t : Nat → Sl) (k v : Nat) (hk : k < 25) : (gridA R C n f t).setIfInBounds (3 + k) (.int .i64 v) = gridA R C n (upd f k v) t := by
  apply Array.ext_getElem?
  intro i
  rw [Array.getElem?_setIfInBounds, gridA_get, gridA_get, gridA_size]
  by_cases h : 3 + k = i
  · subst h
    simp only [if_pos, show 3 + k < 54 from by omega, show ¬ 3 + k = 0 from by omega, show ¬ 3 + k = 1 from by omega, show ¬ 3 + k = 2 from by omega, show 3 + k < 28 from by omega, if_false, upd, show 3 + k - 3 = k from by omega]
  · rw [if_neg h]
    simp only [upd]
    by_cases h3 : i < 3
    · match i, h3 with
      | 0, _ => rfl
      | 1, _ => rfl
      | 2, _ => rfl
    · rw [if_neg (show ¬ i - 3 = k from by omega)]
theorem gridA_set_txt (R C : Int) (n : Nat) (f : Nat → Nat) (t : Nat → Sl) (k : Nat) (v : Sl) (hk : k < 26) : (gridA R C n f t).setIfInBounds (28 + k) (slV v) = gridA R C n f (updS t k v) := by
  apply Array.ext_getElem?
  intro i
  rw [Array.getElem?_setIfInBounds, gridA_get, gridA_get, gridA_size]
  by_cases h : 28 + k = i
  · subst h
    simp only [if_pos, show 28 + k < 54 from by omega, show ¬ 28 + k = 0 from by omega, show ¬ 28 + k = 1 from by omega, show ¬ 28 + k = 2 from by omega, show ¬ 28 + k < 28 from by omega, if_false, updS, show 28 + k - 28 = k from by omega]
  · rw [if_neg h]
    simp only [updS]
    by_cases h3 : i < 28
    · simp only [if_pos h3]
    · rw [if_neg (show ¬ i - 28 = k from by omega)]
theorem gridA_set_cells (R C : Int) (n m : Nat) (f : Nat → Nat) (t : Nat → Sl) : (gridA R C n f t).setIfInBounds 2 (.int .i64 m) = gridA R C m f t := by
  apply Array.ext_getElem?
  intro i
  rw [Array.getElem?_setIfInBounds, gridA_get, gridA_get, gridA_size]
  by_cases h : 2 = i
  · subst h; rfl
  · rw [if_neg h]
    by_cases h3 : i = 2
    · exact absurd h3.symm h
    · simp only [if_neg h3]
theorem gridA_one (R C : Int) (n : Nat) (f : Nat → Nat) (t : Nat → Sl) : (gridA R C n f t).all (·.oneCell') = true := by
  refine Array.all_eq_true_iff_forall_mem.2 ?_
  intro v hv
  simp only [gridA, List.mem_toArray, gridL, List.mem_cons, List.mem_append, List.mem_map] at hv
  rcases hv with rfl | rfl | rfl | ⟨k, _, rfl⟩ | ⟨k, _, rfl⟩ <;> rfl

/-- A grid that lies in a block of its own. -/
def GridAt (w : World) (b : Nat) (R C : Int) (n : Nat) (f : Nat → Nat) (t : Nat → Sl) : Prop := RowAt w b (gridA R C n f t) 51
section
variable {w w' : World} {b : Nat} {R C : Int} {n : Nat} {f : Nat → Nat} {t : Nat → Sl}
theorem GridAt.lt (h : GridAt w b R C n f t) : b < w.heap.size := RowAt.lt h
theorem GridAt.rows (h : GridAt w b R C n f t) : w.cell? ⟨b, 0, none⟩ = some (.int .i64 R) := by rw [RowAt.cell h, gridA_get]; rfl
theorem GridAt.cols (h : GridAt w b R C n f t) : w.cell? ⟨b, 1, none⟩ = some (.int .i64 C) := by rw [RowAt.cell h, gridA_get]; rfl
theorem GridAt.cells (h : GridAt w b R C n f t) : w.cell? ⟨b, 2, none⟩ = some (.int .i64 n) := by rw [RowAt.cell h, gridA_get]; rfl
theorem GridAt.num (h : GridAt w b R C n f t) (k : Nat) (hk : k < 25) : w.cell? ⟨b, 3 + k, none⟩ = some (.int .i64 (f k)) := by rw [RowAt.cell h, gridA_num _ _ _ _ _ _ hk]
theorem GridAt.txt (h : GridAt w b R C n f t) (k : Nat) (hk : k < 26) : w.cell? ⟨b, 28 + k, none⟩ = some (slV (t k)) := by rw [RowAt.cell h, gridA_txt _ _ _ _ _ _ hk]
theorem GridAt.frozen (h : GridAt w b R C n f t) (o : Nat) : w.frozen? ⟨b, o, none⟩ = false := RowAt.frozen h o
theorem GridAt.below (h : GridAt w b R C n f t) {B : Nat} (hb : Below B w w') (hB : b < B) : GridAt w' b R C n f t := RowAt.below h hb hB
theorem GridAt.alloc (h : GridAt w b R C n f t) (o : Obj) : GridAt (w.alloc o) b R C n f t := RowAt.alloc h o
theorem GridAt.setNum (h : GridAt w b R C n f t) (k v : Nat) (hk : k < 25) : GridAt (w.setCell ⟨b, 3 + k, none⟩ (.int .i64 v)) b R C n (upd f k v) t := by
  unfold GridAt
  rw [← gridA_set_num _ _ _ _ _ _ _ hk]
  exact RowAt.setCell h _ _
theorem GridAt.setTxt (h : GridAt w b R C n f t) (k : Nat) (v : Sl) (hk : k < 26) : GridAt (w.setCell ⟨b, 28 + k, none⟩ (slV v)) b R C n f (updS t k v) := by
  unfold GridAt
  rw [← gridA_set_txt _ _ _ _ _ _ _ hk]
  exact RowAt.setCell h _ _
theorem GridAt.setCells (h : GridAt w b R C n f t) (m : Nat) : GridAt (w.setCell ⟨b, 2, none⟩ (.int .i64 m)) b R C m f t := by
  unfold GridAt
  rw [← gridA_set_cells R C n m]
  exact RowAt.setCell h _ _
theorem GridAt.other (h : GridAt w b R C n f t) (a : Addr) (u : Value) (hb : b ≠ a.block) : GridAt (w.setCell a u) b R C n f t := RowAt.other h a u hb
end
theorem gridAt_new (w : World) (R C : Int) (n : Nat) (f : Nat → Nat) (t : Nat → Sl) : GridAt (w.alloc (.cells (gridA R C n f t) 51)) w.heap.size R C n f t := rowAt_new _ _ _
/-- A rectangle that lies in a block of its own. -/
def RectAt (w : World) (b : Nat) (r c d h : Int) : Prop := RowAt w b #[.int .i64 r, .int .i64 c, .int .i64 d, .int .i64 h] 63
section
variable {w w' : World} {b : Nat} {r c d g : Int}
theorem RectAt.c0 (h : RectAt w b r c d g) : w.cell? ⟨b, 0, none⟩ = some (.int .i64 r) := RowAt.cell h 0
theorem RectAt.c1 (h : RectAt w b r c d g) : w.cell? ⟨b, 1, none⟩ = some (.int .i64 c) := RowAt.cell h 1
theorem RectAt.c2 (h : RectAt w b r c d g) : w.cell? ⟨b, 2, none⟩ = some (.int .i64 d) := RowAt.cell h 2
theorem RectAt.c3 (h : RectAt w b r c d g) : w.cell? ⟨b, 3, none⟩ = some (.int .i64 g) := RowAt.cell h 3
end
theorem grid_info : (Try.prog.info? 51).map (·.size) = some 54 := by kernel_rfl
theorem grid_infoA (R C : Int) (n : Nat) (f : Nat → Nat) (t : Nat → Sl) : (Try.prog.info? 51).map (·.size) = some (gridA R C n f t).size := by rw [gridA_size]; exact grid_info
end Go.Proofs.Yteghidjbcpmfbaa
