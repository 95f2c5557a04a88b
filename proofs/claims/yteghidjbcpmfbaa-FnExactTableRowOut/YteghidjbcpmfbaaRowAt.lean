import Derived.Test.YteghidjbcpmfbaaPlainS
import Derived.Laws.Rows
import Derived.Deep.Heap
namespace Go.Proofs.Yteghidjbcpmfbaa
open Go.RowKit

/-- A block that holds just these cells. -/
def RowAt (w : World) (b : Nat) (cs : Array Value) (ty : TypeId) : Prop := w.heap[b]? = some (.cells cs ty (0, 0))
section
variable {w w' : World} {b : Nat} {cs : Array Value} {ty : TypeId}
theorem RowAt.lt (h : RowAt w b cs ty) : b < w.heap.size := (Array.getElem?_eq_some_iff.1 h).1
theorem RowAt.cell (h : RowAt w b cs ty) (j : Nat) : w.cell? ⟨b, j, none⟩ = cs[j]? := cell_of_row w b j _ _ _ h
theorem RowAt.frozen (h : RowAt w b cs ty) (o : Nat) : w.frozen? ⟨b, o, none⟩ = false := by simp [World.frozen?, show w.heap[b]? = _ from h]
theorem RowAt.below (h : RowAt w b cs ty) {B : Nat} (hb : Below B w w') (hB : b < B) : RowAt w' b cs ty := by
  unfold RowAt
  rw [hb.block b hB]
  exact h
theorem RowAt.alloc (h : RowAt w b cs ty) (o : Obj) : RowAt (w.alloc o) b cs ty := (Go.Deep.blk_alloc_lt w o b h.lt).trans h
theorem RowAt.drew (h : RowAt w b cs ty) : RowAt w.drew b cs ty := h
theorem RowAt.other (h : RowAt w b cs ty) (a : Addr) (u : Value) (hb : b ≠ a.block) : RowAt (w.setCell a u) b cs ty := by
  unfold RowAt
  rw [Go.Deep.blk_setCell_other _ _ _ _ hb]
  exact h
theorem RowAt.setCell (h : RowAt w b cs ty) (j : Nat) (v : Value) : RowAt (w.setCell ⟨b, j, none⟩ v) b (cs.setIfInBounds j v) ty := by
  unfold RowAt
  rw [setCell_eq_setRow _ _ _ _ _ _ _ h]
  exact setRow_heap _ _ _ _ _ _ h
theorem RowAt.setRow (h : RowAt w b cs ty) (cs' : Array Value) : RowAt (w.setRow b cs') b cs' ty := setRow_heap _ _ _ _ _ _ h
theorem RowAt.setRowOther (h : RowAt w b cs ty) (g : Nat) (cs' : Array Value) (hb : b ≠ g) : RowAt (w.setRow g cs') b cs ty := by
  unfold RowAt
  rw [setRow_other _ _ _ _ hb]
  exact h
end
theorem below_row {B g : Nat} {w0 w : World} (hb : Below B w0 w) (hBg : B ≤ g) (cs : Array Value) : Below B w0 (w.setRow g cs) :=
  hb.trans ⟨rfl, rfl, rfl, by simp [World.setRow], fun k hk => setRow_other w g k cs (by omega)⟩
theorem rowAt_new (w : World) (cs : Array Value) (ty : TypeId) : RowAt (w.alloc (.cells cs ty)) w.heap.size cs ty := heap_alloc_new _ _
theorem wpList_load_rowG {P : Program} {ops : Array Oper} {rest : List Oper} {o : Oper} {a : Act} {w : World} {Q : Exit → Act → World → Prop} (hgd : Region.wanted o (yielded ops a.tmps) = true) (ty : TypeId) (x : Operand) (ho : o.op = .load ty x)
    (g : Nat) (hx : a.eval x = .pointer (some ⟨g, 0, none⟩)) (t : TypeId) (cs : Array Value) (fr : Nat × Nat) (d : TypeDesc) (hg : w.heap[g]? = some (.cells cs t fr))
    (hu : P.underlying ty = some d) (hd : (match d with | .struct _ | .array _ _ => true | _ => false) = true) (hi : (P.info? ty).map (·.size) = some cs.size)
    (h : wpList P ops Q rest (a.put o.dst (.agg cs)) w) : wpList P ops Q (o :: rest) a w := by
  unfold wpList
  rw [if_pos hgd]
  exact .inl (wp_load_row ty x ho g hx t cs fr d hg hu hd hi h)
theorem cells5_one (r c d g : Int) (a : Option Addr) (n cap : Nat) : (#[Value.int .i64 r, .int .i64 c, .int .i64 d, .int .i64 g, .slice a n cap] : Array Value).all (·.oneCell') = true := by
  simp [Value.oneCell']
theorem cells3_one (r c : Int) (a : Option Addr) (n cap : Nat) : (#[Value.int .i64 r, .int .i64 c, .slice a n cap] : Array Value).all (·.oneCell') = true := by
  simp [Value.oneCell']
end Go.Proofs.Yteghidjbcpmfbaa
