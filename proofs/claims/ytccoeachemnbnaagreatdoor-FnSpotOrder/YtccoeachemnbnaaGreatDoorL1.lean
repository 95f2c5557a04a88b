import Derived.Test.YtccoeachemnbnaaGreatDoorBA1
import Derived.Test.YtccoeachemnbnaaGreatDoorBD1
import Derived.Test.YtccoeachemnbnaaGreatDoorBD2
import Derived.Test.YtccoeachemnbnaaGreatDoorBA3
import Derived.Test.YtccoeachemnbnaaGreatDoorBA4
import Derived.Deep.CutBlock
import Derived.Test.YtccoeachemnbnaaGreatDoorBD3
import Derived.Test.YtccoeachemnbnaaGreatDoorBA2
namespace Go.Proofs.YtccoeachemnbnaaGreatDoor
open Go.ChangeShapes Go.WideShapes Go.ChangeAt Go.RowKit

theorem byt_nil (W : World) : Byt W.heap.size W none 0 0 [] := ⟨rfl, Nat.le_refl _, Nat.zero_le _, fun i => by simp, .inl rfl⟩

theorem byt_of {W : World} {x : Addr} {len cap : Nat} {zs : List Int} (hl : len ≤ cap) (hm : cap ≤ maxLen) (hz : zs.length = cap) (hcell : ∀ i, i < zs.length → W.cell? (x.add i) = some (.int .u8 (zs.getD i 0)))
    (hwz : ∀ n ∈ zs, (Lit.int .u8 n).wf = true) : Byt W.heap.size W (some x) len cap (zs.take len) := by
  have e : ∀ i, i < len → (zs.take len).getD i 0 = zs.getD i 0 := fun i hi => by simp [List.getD, hi]
  refine ⟨by simp; omega, hl, hm, fun i => ?_, ?_⟩
  · by_cases hi : i < len
    · rw [e i hi]
      have hm : zs.getD i 0 ∈ zs := by
        rw [List.getD, List.getElem?_eq_getElem (by omega)]
        simp
      have := hwz _ hm
      simp [Lit.wf, IntKind.min, IntKind.max, IntKind.signed, IntKind.bits] at this
      simp only [List.getD] at *
      omega
    · have : (zs.take len)[i]? = none := List.getElem?_eq_none (by simp; omega)
      simp [List.getD, this]
  · by_cases h0 : len = 0
    · subst h0; exact .inl (by simp)
    · obtain ⟨b, off, spot⟩ := x
      have hc := hcell 0 (by omega)
      have hspot : spot = none := by simpa [Addr.add] using World.cell?_spot hc
      subst hspot
      refine .inr ⟨b, off, rfl, by have := World.block_lt_of_cell? _ _ hc; simpa [Addr.add_lit] using this, fun i hi => ?_⟩
      have hi' : i < len := by simp at hi; omega
      rw [e i hi']
      have := hcell i (by omega)
      simpa only [Addr.add_lit] using this
end Go.Proofs.YtccoeachemnbnaaGreatDoor
namespace Go.Proofs.YtccoeachemnbnaaGreatDoor
open Go.RowKit

theorem flat6_oneA (l : List Rb) : ∀ u ∈ flat6 l, u.oneCell' = true := by
  intro u hu
  simp only [flat6, List.mem_flatMap] at hu
  obtain ⟨s, _, hs⟩ := hu
  simp [rbCells, sl3V] at hs
  rcases hs with rfl | rfl | rfl | rfl | rfl | rfl <;> rfl
/-- A slice value that reads as these raw blocks. -/
def Rw6 (w : World) (a : Option Addr) (n c : Nat) (l : List Rb) : Prop :=
  n = l.length ∧ n ≤ c ∧ c ≤ maxLen ∧ (l = [] ∨ ∃ b off, a = some ⟨b, off, none⟩ ∧ b < w.heap.size ∧ ∀ j u, (flat6 l)[j]? = some u → w.cell? ⟨b, off + j, none⟩ = some u)
theorem Rw6.below {w w' : World} {a : Option Addr} {n c : Nat} {l : List Rb} (h : Rw6 w a n c l) (hb : Below w.heap.size w w') : Rw6 w' a n c l := by
  obtain ⟨h1, h2, h3, h4⟩ := h
  refine ⟨h1, h2, h3, ?_⟩
  rcases h4 with h4 | ⟨b, off, h5, h6, h7⟩
  · exact .inl h4
  · exact .inr ⟨b, off, h5, Nat.lt_of_lt_of_le h6 hb.size, fun j u hu => (hb.cell (p := ⟨b, _, none⟩) h6).trans (h7 j u hu)⟩
theorem flat6_takeA (l : List Rb) (k : Nat) : flat6 (l.take k) = (flat6 l).take (k * 6) := by
  induction l generalizing k with
  | nil => simp [flat6]
  | cons x r ih =>
    cases k with
    | zero => simp [flat6]
    | succ k =>
      have e : flat6 (x :: r) = rbCells x ++ flat6 r := by simp [flat6]
      have e2 : flat6 ((x :: r).take (k + 1)) = rbCells x ++ flat6 (r.take k) := by simp [flat6]
      have hl : (rbCells x).length = 6 := rfl
      rw [e, e2, ih, List.take_append, List.take_of_length_le (l := rbCells x) (by rw [hl]; omega), hl, show (k + 1) * 6 - 6 = k * 6 by omega]
theorem flat6_dropA (l : List Rb) (k : Nat) : flat6 (l.drop k) = (flat6 l).drop (k * 6) := by
  induction l generalizing k with
  | nil => simp [flat6]
  | cons x r ih =>
    cases k with
    | zero => simp [flat6]
    | succ k =>
      have e : flat6 (x :: r) = rbCells x ++ flat6 r := by simp [flat6]
      have hl : (rbCells x).length = 6 := rfl
      rw [e, List.drop_succ_cons, ih, List.drop_append, List.drop_of_length_le (l := rbCells x) (by rw [hl]; omega), hl, show (k + 1) * 6 - 6 = k * 6 by omega, List.nil_append]
theorem Rw6.take {w : World} {a : Option Addr} {n c : Nat} {l : List Rb} (h : Rw6 w a n c l) {k : Nat} (hk : k ≤ n) : Rw6 w a k c (l.take k) := by
  obtain ⟨h1, h2, h3, h4⟩ := h
  refine ⟨by simp; omega, by omega, h3, ?_⟩
  rcases h4 with rfl | ⟨b, off, h5, h6, h7⟩
  · exact .inl (by simp)
  · refine .inr ⟨b, off, h5, h6, fun j u hu => h7 j u ?_⟩
    rw [flat6_takeA, List.getElem?_take] at hu
    split at hu
    · exact hu
    · cases hu
/-- A slice of blocks cut at a place. -/
def cutBk (a : Option Addr) (c k : Nat) : Option Addr := if c = k then a else Option.map (fun x => x.add (k * 6)) a
theorem Rw6.cut {w : World} {a : Option Addr} {n c : Nat} {l : List Rb} (h : Rw6 w a n c l) {k : Nat} (hk : k ≤ n) : Rw6 w (cutBk a c k) (n - k) (c - k) (l.drop k) := by
  obtain ⟨h1, h2, h3, h4⟩ := h
  refine ⟨by simp; omega, by omega, by unfold maxLen at *; omega, ?_⟩
  by_cases hn : n = k
  · exact .inl (List.eq_nil_of_length_eq_zero (by simp; omega))
  rcases h4 with rfl | ⟨b, off, rfl, h6, h7⟩
  · exact .inl (by simp)
  · refine .inr ⟨b, off + k * 6, by unfold cutBk; rw [if_neg (by omega)]; simp [Addr.add_lit], h6, fun j u hu => ?_⟩
    rw [flat6_dropA, List.getElem?_drop] at hu
    rw [Nat.add_assoc]
    exact h7 _ u hu
/-- The rows of a document that is owned. -/
theorem DocX.rw {w : World} {B : Nat} {a : Option Addr} {n c : Nat} {rbs : List Rb} {d : List Bl} (h : DocX w B (.slice a n c) rbs d) : Rw6 w a n c rbs := by
  have hn := h.len
  obtain ⟨h0, h2, -⟩ := h
  rcases h0.2 with ⟨hv, hz⟩ | ⟨g, cap, cur, hv, hg, hgg, hr1, hr2, hr3, hr4⟩
  · cases hv
    exact ⟨by omega, Nat.le_refl _, by unfold maxLen; omega, .inl (List.eq_nil_of_length_eq_zero (by omega))⟩
  · simp only [Value.slice.injEq] at hv
    obtain ⟨rfl, h6, rfl⟩ := hv
    refine ⟨by omega, by omega, hr2, .inr ⟨g, 0, rfl, (Array.getElem?_eq_some_iff.1 hgg).1, fun j u hu => ?_⟩⟩
    have hj : j < rbs.length * 6 := by rw [← flat6_length]; exact (List.getElem?_eq_some_iff.1 hu).1
    have hrow : RowAt w g cur 56 := hgg
    rw [Nat.zero_add, hrow.cell, ← Array.getElem?_toList, ← hu, ← hr4, List.getElem?_take, if_pos hj]
/-- 'append(v, l...)', v the call's own, l blocks. -/
theorem wpList_append_bls {w : World} {ops : Array Oper} {rest : List Oper} {o : Oper} {a : Act} {Q : Exit → Act → World → Prop} (hgd : o.guard = none) (s x : Operand)
    (ho : o.op = .call { callee := .builtin .append, args := #[s, x], argTypes := #[23, 23] })
    (base : Nat) (v : Value) (n : Nat) (xs : List Value) (hs : a.eval s = v) (hown : w.ownsRow base 56 6 v n xs)
    (p : Option Addr) (m c : Nat) (l : List Rb) (hx : a.eval x = .slice p m c) (htx : Rw6 w p m c l) (h63 : n + m ≤ 100000000) (hbase : base ≤ w.heap.size)
    (h : ∀ v' w', w'.ownsRow base 56 6 v' (n + m) (xs ++ flat6 l) → w.grownBy w' v.ownBlock → wpList Tryz.prog ops Q rest (a.put o.dst v') w') : wpList Tryz.prog ops Q (o :: rest) a w := by
  obtain ⟨i0, hi, hz0, hz1, hz2⟩ := info_parts Tryz.info56
  obtain ⟨rfl, h2, h3, h4⟩ := htx
  rcases h4 with rfl | ⟨b, off, rfl, hb, hsn⟩
  · refine wpList_append_empty hgd s x 23 ho base 56 i0 6 Tryz.underlying23 hi v n xs hs hown p c hx ?_
    exact h v w (by simpa [flat6] using hown) (grownBy_refl _ _)
  · refine wpList_append_own w hgd s x 23 ho base 56 i0 _ 6 80 Tryz.underlying23 hi hz0 hz1 hz2 rfl (by decide) v n xs hs hown ⟨b, off, none⟩ l.length c (flat6 l) hx (by rw [flat6_length]) (fun j u hj => ?_) (flat6_oneA l) (by unfold maxLen; omega) (by omega) hbase ?_
    · have e : (⟨b, off, none⟩ : Addr).add j = ⟨b, off + j, none⟩ := by simp [Addr.add]
      rw [e]
      exact hsn j u hj
    · intro v' w' h6 h7 _
      exact h v' w' h6 h7
/-- Rows that are one behind the other, each block owned. -/
theorem DocX.append {u3 u4 : World} {B : Nat} {v v' : Value} {rbs rbs2 : List Rb} {d d2 : List Bl} {n m : Nat} (h : DocX u3 B v rbs d) (hn : n = d.length) (hl : rbs2.length = d2.length) (hm : m = d2.length) (hx : ∀ k, k < d2.length → BlX u3 B (rbs2.getD k rb0) (d2.getD k bl0))
    (hown : u4.ownsRow B 56 6 v' (n + m) (flat6 rbs ++ flat6 rbs2)) (hgrow : u3.grownBy u4 v.ownBlock) : DocX u4 B v' (rbs ++ rbs2) (d ++ d2) := by
  have hk : Kept B u3.heap.size u3 u4 := kept_grown (own_rowAts h.1) hgrow _ _
  have hl1 := h.2.1
  refine ⟨?_, by simp [hl1, hl], fun k hk' => ?_⟩
  · rw [List.length_append, flat6_append, hl1, hl, ← hn, ← hm]
    exact hown
  · by_cases e : k < d.length
    · have e1 : (d ++ d2).getD k bl0 = d.getD k bl0 := by simp [List.getD, List.getElem?_append_left e]
      have e2 : (rbs ++ rbs2).getD k rb0 = rbs.getD k rb0 := by simp [List.getD, List.getElem?_append_left (show k < rbs.length by omega)]
      rw [e1, e2]
      exact (h.2.2 k e).kept hk
    · have hk2 : k - d.length < d2.length := by simp at hk'; omega
      have e1 : (d ++ d2).getD k bl0 = d2.getD (k - d.length) bl0 := by simp [List.getD, List.getElem?_append_right (show d.length ≤ k by omega)]
      have e2 : (rbs ++ rbs2).getD k rb0 = rbs2.getD (k - d.length) rb0 := by simp [List.getD, List.getElem?_append_right (show rbs.length ≤ k by omega), hl1]
      rw [e1, e2]
      exact (hx _ hk2).kept hk
end Go.Proofs.YtccoeachemnbnaaGreatDoor
namespace Go.Proofs.YtccoeachemnbnaaGreatDoor
open Go.RowKit

theorem ne_slot {w : World} {X b o : Nat} {p : Option Addr} {m q : Nat} {ty : TypeId} {k : IntKind} {z : Int} (h : RowAt w X #[.slice p m q] ty) (hc : w.cell? ⟨b, o, none⟩ = some (.int k z)) : b ≠ X := by
  rintro rfl
  rw [h.cell] at hc
  cases o with
  | zero => simp at hc
  | succ o => simp at hc
theorem cell_row {w : World} {X b o : Nat} {cs : Array Value} (h : b ≠ X) : (w.setRow X cs).cell? ⟨b, o, none⟩ = w.cell? ⟨b, o, none⟩ := by
  unfold World.cell?
  rw [setRow_other _ _ _ _ h]
theorem size_row (w : World) (X : Nat) (cs : Array Value) : (w.setRow X cs).heap.size = w.heap.size := by simp [World.setRow]
theorem txt_row {w : World} {X : Nat} {p : Option Addr} {m q : Nat} {ty : TypeId} (h : RowAt w X #[.slice p m q] ty) {a : Option Addr} {n c : Nat} {l : List Sg} (ht : Txt w a n c l) (cs : Array Value) : Txt (w.setRow X cs) a n c l := by
  obtain ⟨h1, h2, h3, h4⟩ := ht
  refine ⟨h1, h2, h3, ?_⟩
  by_cases hl : l = []
  · exact .inl hl
  rcases h4 with h4 | ⟨b, off, rfl, hb, hc⟩
  · exact absurd h4 hl
  · have h0 : 0 < l.length := List.length_pos_iff.2 hl
    have hne := ne_slot h (hc 0 h0).1
    refine .inr ⟨b, off, rfl, by rw [size_row]; exact hb, fun k hk => ?_⟩
    obtain ⟨c0, c1, c2⟩ := hc k hk
    exact ⟨(cell_row hne).trans c0, (cell_row hne).trans c1, (cell_row hne).trans c2⟩
theorem tab_row {w : World} {X : Nat} {p : Option Addr} {m q : Nat} {ty : TypeId} (h : RowAt w X #[.slice p m q] ty) {a : Option Addr} {n c : Nat} {l : List Cl} (ht : Tab w a n c l) (cs : Array Value) : Tab (w.setRow X cs) a n c l := by
  obtain ⟨h1, h2, h3, h4⟩ := ht
  refine ⟨h1, h2, h3, ?_⟩
  by_cases hl : l = []
  · exact .inl hl
  rcases h4 with h4 | ⟨b, off, rfl, hb, hc⟩
  · exact absurd h4 hl
  · have h0 : 0 < l.length := List.length_pos_iff.2 hl
    have hne := ne_slot h (hc 0 h0).1
    refine .inr ⟨b, off, rfl, by rw [size_row]; exact hb, fun k hk => ?_⟩
    obtain ⟨c0, c1, c2, c3, ta, tn, tc, c4, htx⟩ := hc k hk
    exact ⟨(cell_row hne).trans c0, (cell_row hne).trans c1, (cell_row hne).trans c2, (cell_row hne).trans c3, ta, tn, tc, (cell_row hne).trans c4, txt_row h htx cs⟩
theorem dc_row {w : World} {X : Nat} {p : Option Addr} {m q : Nat} {ty : TypeId} (h : RowAt w X #[.slice p m q] ty) {a : Option Addr} {n c : Nat} {d : List Bl} (hd : Dc w a n c d) (cs : Array Value) : Dc (w.setRow X cs) a n c d := by
  obtain ⟨h1, h2, h3, h4⟩ := hd
  refine ⟨h1, h2, h3, ?_⟩
  by_cases hl : d = []
  · exact .inl hl
  rcases h4 with h4 | ⟨b, off, rfl, hb, hc⟩
  · exact absurd h4 hl
  · have h0 : 0 < d.length := List.length_pos_iff.2 hl
    have hne : b ≠ X := by
      obtain ⟨ta, tn, tc, ca, cn, cc, c0, -⟩ := hc 0 h0
      exact ne_slot h c0
    refine .inr ⟨b, off, rfl, by rw [size_row]; exact hb, fun k hk => ?_⟩
    obtain ⟨ta, tn, tc, ca, cn, cc, c0, c1, c2, c3, c4, c5, ht, hc⟩ := hc k hk
    exact ⟨ta, tn, tc, ca, cn, cc, (cell_row hne).trans c0, (cell_row hne).trans c1, (cell_row hne).trans c2, (cell_row hne).trans c3, (cell_row hne).trans c4, (cell_row hne).trans c5, txt_row h ht cs, tab_row h hc cs⟩
/-- A document that is owned, behind a store into a row of another type. -/
theorem BlX.other {w : World} {B : Nat} {x : Rb} {y : Bl} (h : BlX w B x y) (p : Addr) (u : Value) {cs : Array Value} (hX : RowAt w p.block cs 25) : BlX (w.setCell p u) B x y :=
  ⟨h.1, own_set h.2.1 p u (rowAt_ne hX h.2.1 (by decide)), h.2.2.elim fun rs hr => ⟨rs, own_set hr.1 p u (rowAt_ne hX hr.1 (by decide)), ⟨hr.2.1, fun k hk => by
    obtain ⟨r0, r1, r2, r3, r4⟩ := hr.2.2.1 k hk
    exact ⟨r0, r1, r2, r3, own_set r4 p u (rowAt_ne hX r4 (by decide))⟩, hr.2.2.2⟩⟩⟩
theorem DocX.other {w : World} {B : Nat} {v : Value} {rbs : List Rb} {d : List Bl} (h : DocX w B v rbs d) (p : Addr) (u : Value) {cs : Array Value} (hX : RowAt w p.block cs 25) : DocX (w.setCell p u) B v rbs d :=
  ⟨own_set h.1 p u (rowAt_ne hX h.1 (by decide)), h.2.1, fun k hk => (h.2.2 k hk).other p u hX⟩
end Go.Proofs.YtccoeachemnbnaaGreatDoor
namespace Go.Proofs.YtccoeachemnbnaaGreatDoor
open Go.RowKit

theorem txt_rowN {w : World} {X : Nat} (hu : ∀ o z, w.cell? ⟨X, o, none⟩ ≠ some (.int .u8 z)) {a : Option Addr} {n c : Nat} {l : List Sg} (ht : Txt w a n c l) (cs : Array Value) : Txt (w.setRow X cs) a n c l := by
  obtain ⟨h1, h2, h3, h4⟩ := ht
  refine ⟨h1, h2, h3, ?_⟩
  by_cases hl : l = []
  · exact .inl hl
  rcases h4 with h4 | ⟨b, off, rfl, hb, hc⟩
  · exact absurd h4 hl
  · have h0 : 0 < l.length := List.length_pos_iff.2 hl
    have hne : b ≠ X := by rintro rfl; exact hu _ _ (hc 0 h0).1
    refine .inr ⟨b, off, rfl, by rw [size_row]; exact hb, fun k hk => ?_⟩
    obtain ⟨c0, c1, c2⟩ := hc k hk
    exact ⟨(cell_row hne).trans c0, (cell_row hne).trans c1, (cell_row hne).trans c2⟩
theorem tab_rowN {w : World} {X : Nat} (hs : ∀ o p m q, w.cell? ⟨X, o, none⟩ ≠ some (.slice p m q)) (hu : ∀ o z, w.cell? ⟨X, o, none⟩ ≠ some (.int .u8 z)) {a : Option Addr} {n c : Nat} {l : List Cl} (ht : Tab w a n c l) (cs : Array Value) : Tab (w.setRow X cs) a n c l := by
  obtain ⟨h1, h2, h3, h4⟩ := ht
  refine ⟨h1, h2, h3, ?_⟩
  by_cases hl : l = []
  · exact .inl hl
  rcases h4 with h4 | ⟨b, off, rfl, hb, hc⟩
  · exact absurd h4 hl
  · have h0 : 0 < l.length := List.length_pos_iff.2 hl
    have hne : b ≠ X := by
      rintro rfl
      obtain ⟨_, _, _, _, ta, tn, tc, c4, -⟩ := hc 0 h0
      exact hs _ _ _ _ c4
    refine .inr ⟨b, off, rfl, by rw [size_row]; exact hb, fun k hk => ?_⟩
    obtain ⟨c0, c1, c2, c3, ta, tn, tc, c4, htx⟩ := hc k hk
    exact ⟨(cell_row hne).trans c0, (cell_row hne).trans c1, (cell_row hne).trans c2, (cell_row hne).trans c3, ta, tn, tc, (cell_row hne).trans c4, txt_rowN hu htx cs⟩
theorem dc_rowN {w : World} {X : Nat} (hs : ∀ o p m q, w.cell? ⟨X, o, none⟩ ≠ some (.slice p m q)) (hu : ∀ o z, w.cell? ⟨X, o, none⟩ ≠ some (.int .u8 z)) {a : Option Addr} {n c : Nat} {d : List Bl} (hd : Dc w a n c d) (cs : Array Value) : Dc (w.setRow X cs) a n c d := by
  obtain ⟨h1, h2, h3, h4⟩ := hd
  refine ⟨h1, h2, h3, ?_⟩
  by_cases hl : d = []
  · exact .inl hl
  rcases h4 with h4 | ⟨b, off, rfl, hb, hc⟩
  · exact absurd h4 hl
  · have h0 : 0 < d.length := List.length_pos_iff.2 hl
    have hne : b ≠ X := by
      rintro rfl
      obtain ⟨ta, tn, tc, ca, cn, cc, _, _, c2, -⟩ := hc 0 h0
      exact hs _ _ _ _ c2
    refine .inr ⟨b, off, rfl, by rw [size_row]; exact hb, fun k hk => ?_⟩
    obtain ⟨ta, tn, tc, ca, cn, cc, c0, c1, c2, c3, c4, c5, ht, hc⟩ := hc k hk
    exact ⟨ta, tn, tc, ca, cn, cc, (cell_row hne).trans c0, (cell_row hne).trans c1, (cell_row hne).trans c2, (cell_row hne).trans c3, (cell_row hne).trans c4, (cell_row hne).trans c5, txt_rowN hu ht cs, tab_rowN hs hu hc cs⟩
theorem dc_rowP {w : World} {X : Nat} {x y z : Int} {ty : TypeId} (h : RowAt w X #[.int .i64 x, .int .i64 y, .int .i64 z] ty) {a : Option Addr} {n c : Nat} {d : List Bl} (hd : Dc w a n c d) (cs : Array Value) : Dc (w.setRow X cs) a n c d := by
  refine dc_rowN (fun o p m q e => ?_) (fun o v e => ?_) hd cs
  · rw [h.cell] at e
    match o, e with
    | 0, e => simp at e
    | 1, e => simp at e
    | 2, e => simp at e
    | o + 3, e => simp at e
  · rw [h.cell] at e
    match o, e with
    | 0, e => simp at e
    | 1, e => simp at e
    | 2, e => simp at e
    | o + 3, e => simp at e
end Go.Proofs.YtccoeachemnbnaaGreatDoor
namespace Go.Proofs.YtccoeachemnbnaaGreatDoor
open Go.RowKit

theorem run_placeR {w : World} {g : Nat} {a b c : Value} (h : RowAt w g #[a, b, c] 27) : (loadVar 27 ⟨g, 0, none⟩).run Tryz.prog w = .ok (.agg #[a, b, c]) w :=
  run_loadVar_row w g 27 27 #[a, b, c] (0, 0) _ h Tryz.underlying27 rfl (by kernel_rfl)
theorem run_placeAt (x y z : Int) (w : World) : (Instr.field 27 (.agg #[.int .i64 x, .int .i64 y, .int .i64 z]) 2).run Tryz.prog w = .ok (.int .i64 z) w := by kernel_rfl
/-- The first place of a text that has so many signs ahead that are there now. -/
def cntN (s : List Sg) (i : Nat) : Nat := (nowL (s.take i)).length
def rawF (s : List Sg) (a : Int) : Option Nat := (List.range (s.length + 1)).find? fun i => decide ((cntN s i : Int) = a)
def rawD (d : List Bl) (b c a : Int) : Option Nat := match plT d b c 0 with
  | some s => rawF s a
  | none => none
theorem cntN_le (s : List Sg) (i : Nat) : cntN s i ≤ s.length := by
  unfold cntN
  rw [nowL_eq]
  unfold pickL
  split
  · have h1 : (bytesOf ((s.take i).filter noOut)).length ≤ (s.take i).length := by
      unfold bytesOf
      rw [List.length_map]
      exact List.length_filter_le _ _
    have h2 : (s.take i).length ≤ s.length := by simp; omega
    omega
  · simp
theorem rawF_some {s : List Sg} {a : Int} {i : Nat} (h1 : i ≤ s.length) (h2 : (cntN s i : Int) = a) (h3 : ∀ k, k < i → ¬ (cntN s k : Int) = a) : rawF s a = some i := by
  unfold rawF
  rw [List.find?_eq_some_iff_getElem]
  refine ⟨by simpa using h2, i, by simp; omega, by simp, fun j hj => ?_⟩
  simp only [List.getElem_range, Bool.not_eq_true', decide_eq_false_iff_not]
  exact h3 j hj
theorem rawF_none {s : List Sg} {a : Int} (h : ∀ k, k ≤ s.length → ¬ (cntN s k : Int) = a) : rawF s a = none := by
  unfold rawF
  rw [List.find?_eq_none]
  intro x hx
  simp only [List.mem_range] at hx
  simpa using h x (by omega)
theorem plT_zero {d : List Bl} {b c a : Int} {s : List Sg} (h : plT d b c a = some s) : plT d b c 0 = some s := by
  unfold plT at h ⊢
  split at h
  · rename_i hd
    rw [if_pos hd]
    obtain ⟨i, rfl, hi, ht, -, -⟩ := placeT_parts2 h
    rw [placeT_in (by omega), Int.toNat_natCast, ht]
    simp only [Option.bind_some]
    rw [if_pos (by omega)]
  · cases h
theorem plT_at {d : List Bl} {b c a : Int} {s : List Sg} (h : plT d b c 0 = some s) (h0 : 0 ≤ a) (h1 : a ≤ (s.length : Int)) : plT d b c a = some s := by
  unfold plT at h ⊢
  split at h
  · rename_i hd
    rw [if_pos hd]
    obtain ⟨i, rfl, hi, ht, -, -⟩ := placeT_parts2 h
    rw [placeT_in (by omega), Int.toNat_natCast, ht]
    simp only [Option.bind_some]
    rw [if_pos ⟨h0, h1⟩]
  · cases h
theorem rawD_no {d : List Bl} {b c a : Int} (h : plT d b c a = none) : rawD d b c a = none := by
  unfold rawD
  cases hp : plT d b c 0 with
  | none => rfl
  | some s =>
    refine rawF_none (fun k hk e => ?_)
    have h1 := cntN_le s k
    rw [plT_at hp (by omega) (by omega)] at h
    cases h
/-- What is answered. -/
def rawV (r : Option Nat) (b c : Int) : Value := match r with
  | some i => .tuple #[.agg #[.int .i64 b, .int .i64 c, .int .i64 (i : Int)], .bool true]
  | none => .tuple #[.agg #[.int .i64 0, .int .i64 0, .int .i64 0], .bool false]
set_option maxRecDepth 100000 in
set_option maxHeartbeats 16000000 in
theorem implSpotRaw_any {a : Option Addr} {n cap : Nat} {d : List Bl} {pb pc pa : Int} {w : World} (h : Dc w a n cap d) (hG : GlobE w) :
    Calls Tryz.prog 19 #[.agg #[.slice a n cap], .agg #[.int .i64 pb, .int .i64 pc, .int .i64 pa]] w fun e w' => e = .returned (rawV (rawD d pb pc pa) pb pc) ∧ Below w.heap.size w w' := by
  obtain ⟨S0, HS0⟩ : ∃ S, Hid (noPl = .iface 105 (.string S)) := noPl_is
  have HH := hd_add (hd_add (hd_start w) (fun u => Dc u a n cap d) (mono_dc _ _ _ _) h) GlobE mono_globE hG
  clear h hG
  obtain ⟨pr, HPR⟩ : ∃ x, Hid (plT d pb pc pa = x) := ⟨_, rfl⟩
  obtain ⟨VV, HVV⟩ : ∃ x, Hid (rawV (rawD d pb pc pa) pb pc = x) := ⟨_, rfl⟩
  rw [HVV.out]
  go_enter Tryz.func19, Tryz.ntmps19
  go_upto_region 1 with fail
  replace HH := hd_box HH #[.slice a n cap] 25
  replace HH := hd_box HH #[.int .i64 pb, .int .i64 pc, .int .i64 pa] 27
  replace HH := hd_box HH #[.int .i64 0, .int .i64 0, .int .i64 0] 27
  have fv3 : ((w.alloc (.cells #[.slice a n cap] 25)).alloc (.cells #[.int .i64 pb, .int .i64 pc, .int .i64 pa] 27)).heap.size = w.heap.size + 2 := by simp
  have ev3 : (w.alloc (.cells #[.slice a n cap] 25)).heap.size = w.heap.size + 1 := by simp
  rw [fv3, ev3] at HH
  have sv3 : w.heap.size + 2 < (((w.alloc (.cells #[.slice a n cap] 25)).alloc (.cells #[.int .i64 pb, .int .i64 pc, .int .i64 pa] 27)).alloc (.cells #[.int .i64 0, .int .i64 0, .int .i64 0] 27)).heap.size := by simp
  generalize (((w.alloc (.cells #[.slice a n cap] 25)).alloc (.cells #[.int .i64 pb, .int .i64 pc, .int .i64 pa] 27)).alloc (.cells #[.int .i64 0, .int .i64 0, .int .i64 0] 27)) = v3 at HH sv3 ⊢
  clear ev3 fv3
  have kP_0 : v3.cell? ⟨w.heap.size + 1, 0, none⟩ = some (.int .i64 pb) := RowAt.cell (HH.out.row _ (List.Mem.tail _ (List.Mem.head _))) 0
  have kP_1 : v3.cell? ⟨w.heap.size + 1, 1, none⟩ = some (.int .i64 pc) := RowAt.cell (HH.out.row _ (List.Mem.tail _ (List.Mem.head _))) 1
  have kP_2 : v3.cell? ⟨w.heap.size + 1, 2, none⟩ = some (.int .i64 pa) := RowAt.cell (HH.out.row _ (List.Mem.tail _ (List.Mem.head _))) 2
  have kA_0 : v3.cell? ⟨w.heap.size, 0, none⟩ = some (.slice a n cap) := RowAt.cell (HH.out.row _ (List.Mem.tail _ (List.Mem.tail _ (List.Mem.head _)))) 0
  have sA := HH.out.below.size
  go_wp2_with fail
  refine (outlOf_any ((HH.out.fact _ (List.Mem.tail _ (List.Mem.head _))).2)).mono ?_
  rintro e v4 ⟨⟨ov, rfl, hov⟩, hb⟩
  have sv4 := hb.size
  replace HH := hd_go HH hb
  clear kP_0 kP_1 kP_2 kA_0
  replace HH := hd_add HH (fun u => OutlOf u d ov) (mono_outlOf _ _) hov
  have kP_0 : v4.cell? ⟨w.heap.size + 1, 0, none⟩ = some (.int .i64 pb) := RowAt.cell (HH.out.row _ (List.Mem.tail _ (List.Mem.head _))) 0
  have kP_1 : v4.cell? ⟨w.heap.size + 1, 1, none⟩ = some (.int .i64 pc) := RowAt.cell (HH.out.row _ (List.Mem.tail _ (List.Mem.head _))) 1
  have kP_2 : v4.cell? ⟨w.heap.size + 1, 2, none⟩ = some (.int .i64 pa) := RowAt.cell (HH.out.row _ (List.Mem.tail _ (List.Mem.head _))) 2
  have kA_0 : v4.cell? ⟨w.heap.size, 0, none⟩ = some (.slice a n cap) := RowAt.cell (HH.out.row _ (List.Mem.tail _ (List.Mem.tail _ (List.Mem.head _)))) 0
  clear hb hov
  go_wp2_with (refine wpList_load_row rfl 27 (.tmp 3) rfl (w.heap.size + 1) rfl 27 #[.int .i64 pb, .int .i64 pc, .int .i64 pa] (0, 0) _ ((HH.out.row _ (List.Mem.tail _ (List.Mem.head _)))) Tryz.underlying27 rfl (by kernel_rfl) ?_)
  refine (textAt_of ((HH.out.fact _ (List.Mem.head _)).2)).mono ?_
  rintro e v5 ⟨htx, hb⟩
  rw [HPR.out] at htx
  have sv5 := hb.size
  replace HH := hd_go HH hb
  clear kP_0 kP_1 kP_2 kA_0
  have kP_0 : v5.cell? ⟨w.heap.size + 1, 0, none⟩ = some (.int .i64 pb) := RowAt.cell (HH.out.row _ (List.Mem.tail _ (List.Mem.head _))) 0
  have kP_1 : v5.cell? ⟨w.heap.size + 1, 1, none⟩ = some (.int .i64 pc) := RowAt.cell (HH.out.row _ (List.Mem.tail _ (List.Mem.head _))) 1
  have kP_2 : v5.cell? ⟨w.heap.size + 1, 2, none⟩ = some (.int .i64 pa) := RowAt.cell (HH.out.row _ (List.Mem.tail _ (List.Mem.head _))) 2
  have kA_0 : v5.cell? ⟨w.heap.size, 0, none⟩ = some (.slice a n cap) := RowAt.cell (HH.out.row _ (List.Mem.tail _ (List.Mem.tail _ (List.Mem.head _)))) 0
  clear hb
  obtain ⟨ea, hea, hec⟩ := (HH.out.fact _ (List.Mem.tail _ (List.Mem.head _))).2
  have HEC : Hid (_) := hec
  have kG := hec
  rcases htx with ⟨hpr, rfl⟩ | ⟨s, va, vn, vc, hpr, rfl, htt⟩
  · subst hpr
    have HV3 : VV = .tuple #[.agg #[.int .i64 0, .int .i64 0, .int .i64 0], .bool false] := by
      rw [← HVV.out, rawD_no HPR.out]
      rfl
    subst HV3
    rw [HS0.out]
    go_wp2_with fail
    refine (isCannot_yes HEC.out).mono ?_
    rintro e v9 ⟨rfl, hw⟩
    subst hw
    clear kG hec hea
    go_wp2_with (refine wpList_store_row rfl 27 (.tmp 4) (.tmp 26) rfl (w.heap.size + 2) #[.int .i64 0, .int .i64 0, .int .i64 0] rfl rfl 27 _ ((HH.out.row _ (List.Mem.head _))) (by kernel_rfl) rfl (by simp [Value.oneCell']) ?_)
    refine bodyPost_ret (v := .tuple #[.agg #[.int .i64 0, .int .i64 0, .int .i64 0], .bool false]) ?_ rfl ⟨rfl, below_row HH.out.below (by omega) _⟩
    rw [results_cell_tmp rfl]
    simp [asAddr, Result.andThen, run_placeR (RowAt.setRow ((HH.out.row _ (List.Mem.head _))) _)]
  · subst hpr
    have h0 := plT_zero HPR.out
    have HV2 : Hid (rawV (rawF s pa) pb pc = VV) := by
      show rawV (rawF s pa) pb pc = VV
      rw [← HVV.out]
      unfold rawD
      rw [h0]
    have HVN : Hid (vn = s.length) := htt.1
    have hvc := htt.2.1
    have hvm := htt.2.2.1
    unfold maxLen at hvm
    have hv24 : vn ≤ 24 := by
      rw [htt.1]
      obtain ⟨_, -, -, hbo, hti, -, -⟩ := plT_parts h0
      exact textIn_small hbo hti
    replace HH := hd_add HH (fun u => Txt u va vn vc s) (mono_txt _ _ _ _) htt
    clear htt h0
    go_wp2_with fail
    refine (isCannot_nil ea _).mono ?_
    rintro e v9 ⟨rfl, hw⟩
    subst hw
    clear kG hea hec
    go_wp2_with fail
    refine (aheadNow).mono ?_
    rintro e v6 ⟨⟨X, Y, rfl, hX, hY⟩, hb⟩
    have sv6 := hb.size
    replace HH := hd_go HH hb
    clear kP_0 kP_1 kP_2 kA_0
    have kP_0 : v6.cell? ⟨w.heap.size + 1, 0, none⟩ = some (.int .i64 pb) := RowAt.cell (HH.out.row _ (List.Mem.tail _ (List.Mem.head _))) 0
    have kP_1 : v6.cell? ⟨w.heap.size + 1, 1, none⟩ = some (.int .i64 pc) := RowAt.cell (HH.out.row _ (List.Mem.tail _ (List.Mem.head _))) 1
    have kP_2 : v6.cell? ⟨w.heap.size + 1, 2, none⟩ = some (.int .i64 pa) := RowAt.cell (HH.out.row _ (List.Mem.tail _ (List.Mem.head _))) 2
    have kA_0 : v6.cell? ⟨w.heap.size, 0, none⟩ = some (.slice a n cap) := RowAt.cell (HH.out.row _ (List.Mem.tail _ (List.Mem.tail _ (List.Mem.head _)))) 0
    replace HH := hd_row (hd_row HH X _ _ hX) Y _ _ hY
    clear hb hX hY
    clear kP_0 kP_1 kP_2 kA_0
    have hwv : IntKind.i64.wrap ((vn : Int) + 1) = (vn : Int) + 1 := by rw [IntKind.wrap_i64]; omega
    go_upto_block 1 with fail
    go_wp2_with fail
    go_loopw [11, 32] (fun _ cv wr => ∃ i : Nat, i ≤ vn + 1 ∧ cv = .int .i64 (i : Int) ∧ (∀ k, k < i → ¬ (cntN s k : Int) = pa) ∧ v6.heap.size ≤ wr.heap.size ∧ Hd w [(Y, #[.func (.func 29) #[] #[]], 46), (X, #[.slice va vn vc], 47), (w.heap.size + 2, #[.int .i64 0, .int .i64 0, .int .i64 0], 27), (w.heap.size + 1, #[.int .i64 pb, .int .i64 pc, .int .i64 pa], 27), (w.heap.size, #[.slice a n cap], 25)] [fun u => Txt u va vn vc s, fun u => OutlOf u d ov, fun u => GlobE u, fun u => Dc u a n cap d] wr) (fun _ cv _ => 30 - (intOf cv).toNat)
    case atStart => exact ⟨0, by omega, rfl, fun k hk => absurd hk (by omega), Nat.le_refl _, HH.out⟩
    case round =>
      clear HH
      obtain ⟨i, hi, rfl, hno, hsz, hHd⟩ := hrel
      have HH : Hid (Hd w [(Y, #[.func (.func 29) #[] #[]], 46), (X, #[.slice va vn vc], 47), (w.heap.size + 2, #[.int .i64 0, .int .i64 0, .int .i64 0], 27), (w.heap.size + 1, #[.int .i64 pb, .int .i64 pc, .int .i64 pa], 27), (w.heap.size, #[.slice a n cap], 25)] [fun u => Txt u va vn vc s, fun u => OutlOf u d ov, fun u => GlobE u, fun u => Dc u a n cap d] wr) := hHd
      have HNO : Hid (∀ k, k < i → ¬ (cntN s k : Int) = pa) := hno
      clear hHd hno
      by_cases hiv : i ≤ vn
      · have hlt : (i : Int) < (vn : Int) + 1 := by omega
        go_upto_region 9 with fail
        by_cases hca : (cntN s i : Int) = pa
        · have hcb : (((nowL (s.take i)).length : Int) == pa) = true := by simpa [cntN] using hca
          refine wp_region_noPanic ?_
          refine wp_region_held_drew (S := fun w' => Hd w [(Y, #[.func (.func 29) #[] #[]], 46), (X, #[.slice va vn vc], 47), (w.heap.size + 2, #[.int .i64 0, .int .i64 0, .int .i64 0], 27), (w.heap.size + 1, #[.int .i64 pb, .int .i64 pc, .int .i64 pa], 27), (w.heap.size, #[.slice a n cap], 25)] [fun u => Txt u va vn vc s, fun u => OutlOf u d ov, fun u => GlobE u, fun u => Dc u a n cap d] w') (by kernel_rfl) (HH.out.go (Below.refl _ _).drew) (fun hHeld => ?_)
          clear HH
          have sv7 : wr.heap.size ≤ wr.drew.heap.size := Nat.le_refl _
          generalize wr.drew = v7 at hHeld sv7 ⊢
          refine take_at 0 35 (.func (.func 58) #[] #[.pointer (some ⟨Y, 0, none⟩), .pointer (some ⟨X, 0, none⟩)]) rfl rfl (by kernel_rfl) (by kernel_rfl) (by kernel_rfl) (fun _ _ _ h => h) (Or.inl ⟨by kernel_rfl, fun w' hS' => by go_simp⟩) hHeld ?_
          (try simp only [Act.put, List.setIfInBounds_toArray, List.set_cons_zero, List.set_cons_succ])
          refine take_at 1 36 (.int .i64 (i : Int)) rfl rfl (by kernel_rfl) (by kernel_rfl) (by kernel_rfl) (fun _ _ _ h => h) (Or.inl ⟨by kernel_rfl, fun w' hS' => by go_simp⟩) hHeld ?_
          (try simp only [Act.put, List.setIfInBounds_toArray, List.set_cons_zero, List.set_cons_succ])
          refine take_at 3 38 (.pointer (some ⟨w.heap.size + 1, 2, none⟩)) rfl rfl (by kernel_rfl) (by kernel_rfl) (by kernel_rfl) (fun _ _ _ h => h) (Or.inl ⟨by kernel_rfl, fun w' hS' => by go_simp⟩) hHeld ?_
          (try simp only [Act.put, List.setIfInBounds_toArray, List.set_cons_zero, List.set_cons_succ])
          refine take_at 4 39 (.int .i64 pa) rfl rfl (by kernel_rfl) (by kernel_rfl) (by kernel_rfl) (fun _ _ _ h => h) (Or.inl ⟨by kernel_rfl, fun w' hS' => by have hc := RowAt.cell (hS'.row _ (List.Mem.tail _ (List.Mem.tail _ (List.Mem.tail _ (List.Mem.head _))))) 2; go_simp⟩) hHeld ?_
          (try simp only [Act.put, List.setIfInBounds_toArray, List.set_cons_zero, List.set_cons_succ])
          refine wpAnyH_ready (rs := [2]) (by kernel_rfl) (by simp) ?_
          refine AllReadyH.cons rfl (fun K hK => ?_) AllReadyH.nil
          go_simp
          change Calls Tryz.prog 58 #[.int .i64 (i : Int), .pointer (some ⟨Y, 0, none⟩), .pointer (some ⟨X, 0, none⟩)] _ _
          refine (countNow ((hHeld.row _ (List.Mem.tail _ (List.Mem.head _)))) ((hHeld.row _ (List.Mem.head _))) ((hHeld.fact _ (List.Mem.head _)).2) hiv).mono ?_
          rintro _ v8 ⟨rfl, hb⟩
          have sv8 := hb.size
          obtain ⟨N, HN⟩ : ∃ N, Hid ((nowL (s.take i)).length = N) := ⟨_, rfl⟩
          rw [HN.out] at hcb ⊢
          go_wp2_with fail
          refine hK.out _ _ (hHeld.go hb) (fun hHeld => ?_)
          clear hK K hb
          (try simp only [Act.put, List.setIfInBounds_toArray, List.set_cons_zero, List.set_cons_succ])
          refine take_at 5 40 (.bool true) rfl rfl (by kernel_rfl) (by kernel_rfl) (by kernel_rfl) (fun _ _ _ h => h) (Or.inl ⟨by kernel_rfl, fun w' hS' => by go_simp⟩) hHeld ?_
          (try simp only [Act.put, List.setIfInBounds_toArray, List.set_cons_zero, List.set_cons_succ])
          refine wpAnyH_done (by kernel_rfl) ?_ _
          refine NoPanic.normal ?_
          have HH : Hid (Hd w _ _ v8) := hHeld
          clear hHeld
          have kP_0 : v8.cell? ⟨w.heap.size + 1, 0, none⟩ = some (.int .i64 pb) := RowAt.cell (HH.out.row _ (List.Mem.tail _ (List.Mem.tail _ (List.Mem.tail _ (List.Mem.head _))))) 0
          have kP_1 : v8.cell? ⟨w.heap.size + 1, 1, none⟩ = some (.int .i64 pc) := RowAt.cell (HH.out.row _ (List.Mem.tail _ (List.Mem.tail _ (List.Mem.tail _ (List.Mem.head _))))) 1
          have kP_2 : v8.cell? ⟨w.heap.size + 1, 2, none⟩ = some (.int .i64 pa) := RowAt.cell (HH.out.row _ (List.Mem.tail _ (List.Mem.tail _ (List.Mem.tail _ (List.Mem.head _))))) 2
          have kA_0 : v8.cell? ⟨w.heap.size, 0, none⟩ = some (.slice a n cap) := RowAt.cell (HH.out.row _ (List.Mem.tail _ (List.Mem.tail _ (List.Mem.tail _ (List.Mem.tail _ (List.Mem.head _)))))) 0
          clear kP_0 kP_1 kP_2 kA_0
          go_wp2_with (refine wpList_load_row rfl 27 (.tmp 3) rfl (w.heap.size + 1) rfl 27 #[.int .i64 pb, .int .i64 pc, .int .i64 pa] (0, 0) _ ((HH.out.row _ (List.Mem.tail _ (List.Mem.tail _ (List.Mem.tail _ (List.Mem.head _)))))) Tryz.underlying27 rfl (by kernel_rfl) ?_)
          refine (movedTo_is pb pc pa (i : Int) _).mono ?_
          rintro e v9 ⟨rfl, hb⟩
          have sv9 := hb.size
          replace HH := hd_go HH hb
          clear hb
          have HV3 : VV = .tuple #[.agg #[.int .i64 pb, .int .i64 pc, .int .i64 (i : Int)], .bool true] := by
            rw [← HV2.out, rawF_some (i := i) (by have := HVN.out; omega) hca HNO.out]
            rfl
          subst HV3
          go_wp2_with (refine wpList_store_row rfl 27 (.tmp 4) (.tmp 43) rfl (w.heap.size + 2) #[.int .i64 pb, .int .i64 pc, .int .i64 (i : Int)] rfl rfl 27 _ ((HH.out.row _ (List.Mem.tail _ (List.Mem.tail _ (List.Mem.head _))))) (by kernel_rfl) rfl (by simp [Value.oneCell']) ?_)
          refine bodyPost_ret (v := .tuple #[.agg #[.int .i64 pb, .int .i64 pc, .int .i64 (i : Int)], .bool true]) ?_ rfl ⟨rfl, below_row HH.out.below (by omega) _⟩
          rw [results_cell_tmp rfl]
          simp [asAddr, Result.andThen, run_placeR (RowAt.setRow ((HH.out.row _ (List.Mem.tail _ (List.Mem.tail _ (List.Mem.head _))))) _)]
        · have hcb : (((nowL (s.take i)).length : Int) == pa) = false := by simpa [cntN] using hca
          refine wp_region_noPanic ?_
          refine wp_region_held_drew (S := fun w' => Hd w [(Y, #[.func (.func 29) #[] #[]], 46), (X, #[.slice va vn vc], 47), (w.heap.size + 2, #[.int .i64 0, .int .i64 0, .int .i64 0], 27), (w.heap.size + 1, #[.int .i64 pb, .int .i64 pc, .int .i64 pa], 27), (w.heap.size, #[.slice a n cap], 25)] [fun u => Txt u va vn vc s, fun u => OutlOf u d ov, fun u => GlobE u, fun u => Dc u a n cap d] w') (by kernel_rfl) (HH.out.go (Below.refl _ _).drew) (fun hHeld => ?_)
          clear HH
          have sv7 : wr.heap.size ≤ wr.drew.heap.size := Nat.le_refl _
          generalize wr.drew = v7 at hHeld sv7 ⊢
          refine take_at 0 35 (.func (.func 58) #[] #[.pointer (some ⟨Y, 0, none⟩), .pointer (some ⟨X, 0, none⟩)]) rfl rfl (by kernel_rfl) (by kernel_rfl) (by kernel_rfl) (fun _ _ _ h => h) (Or.inl ⟨by kernel_rfl, fun w' hS' => by go_simp⟩) hHeld ?_
          (try simp only [Act.put, List.setIfInBounds_toArray, List.set_cons_zero, List.set_cons_succ])
          refine take_at 1 36 (.int .i64 (i : Int)) rfl rfl (by kernel_rfl) (by kernel_rfl) (by kernel_rfl) (fun _ _ _ h => h) (Or.inl ⟨by kernel_rfl, fun w' hS' => by go_simp⟩) hHeld ?_
          (try simp only [Act.put, List.setIfInBounds_toArray, List.set_cons_zero, List.set_cons_succ])
          refine take_at 3 38 (.pointer (some ⟨w.heap.size + 1, 2, none⟩)) rfl rfl (by kernel_rfl) (by kernel_rfl) (by kernel_rfl) (fun _ _ _ h => h) (Or.inl ⟨by kernel_rfl, fun w' hS' => by go_simp⟩) hHeld ?_
          (try simp only [Act.put, List.setIfInBounds_toArray, List.set_cons_zero, List.set_cons_succ])
          refine take_at 4 39 (.int .i64 pa) rfl rfl (by kernel_rfl) (by kernel_rfl) (by kernel_rfl) (fun _ _ _ h => h) (Or.inl ⟨by kernel_rfl, fun w' hS' => by have hc := RowAt.cell (hS'.row _ (List.Mem.tail _ (List.Mem.tail _ (List.Mem.tail _ (List.Mem.head _))))) 2; go_simp⟩) hHeld ?_
          (try simp only [Act.put, List.setIfInBounds_toArray, List.set_cons_zero, List.set_cons_succ])
          refine wpAnyH_ready (rs := [2]) (by kernel_rfl) (by simp) ?_
          refine AllReadyH.cons rfl (fun K hK => ?_) AllReadyH.nil
          go_simp
          change Calls Tryz.prog 58 #[.int .i64 (i : Int), .pointer (some ⟨Y, 0, none⟩), .pointer (some ⟨X, 0, none⟩)] _ _
          refine (countNow ((hHeld.row _ (List.Mem.tail _ (List.Mem.head _)))) ((hHeld.row _ (List.Mem.head _))) ((hHeld.fact _ (List.Mem.head _)).2) hiv).mono ?_
          rintro _ v8 ⟨rfl, hb⟩
          have sv8 := hb.size
          obtain ⟨N, HN⟩ : ∃ N, Hid ((nowL (s.take i)).length = N) := ⟨_, rfl⟩
          rw [HN.out] at hcb ⊢
          go_wp2_with fail
          refine hK.out _ _ (hHeld.go hb) (fun hHeld => ?_)
          clear hK K hb
          (try simp only [Act.put, List.setIfInBounds_toArray, List.set_cons_zero, List.set_cons_succ])
          refine take_at 5 40 (.bool false) rfl rfl (by kernel_rfl) (by kernel_rfl) (by kernel_rfl) (fun _ _ _ h => h) (Or.inl ⟨by kernel_rfl, fun w' hS' => by go_simp⟩) hHeld ?_
          (try simp only [Act.put, List.setIfInBounds_toArray, List.set_cons_zero, List.set_cons_succ])
          refine wpAnyH_done (by kernel_rfl) ?_ _
          refine NoPanic.normal ?_
          have HH : Hid (Hd w _ _ v8) := hHeld
          clear hHeld
          have kP_0 : v8.cell? ⟨w.heap.size + 1, 0, none⟩ = some (.int .i64 pb) := RowAt.cell (HH.out.row _ (List.Mem.tail _ (List.Mem.tail _ (List.Mem.tail _ (List.Mem.head _))))) 0
          have kP_1 : v8.cell? ⟨w.heap.size + 1, 1, none⟩ = some (.int .i64 pc) := RowAt.cell (HH.out.row _ (List.Mem.tail _ (List.Mem.tail _ (List.Mem.tail _ (List.Mem.head _))))) 1
          have kP_2 : v8.cell? ⟨w.heap.size + 1, 2, none⟩ = some (.int .i64 pa) := RowAt.cell (HH.out.row _ (List.Mem.tail _ (List.Mem.tail _ (List.Mem.tail _ (List.Mem.head _))))) 2
          have kA_0 : v8.cell? ⟨w.heap.size, 0, none⟩ = some (.slice a n cap) := RowAt.cell (HH.out.row _ (List.Mem.tail _ (List.Mem.tail _ (List.Mem.tail _ (List.Mem.tail _ (List.Mem.head _)))))) 0
          go_wp2_with fail
          go_roundw
          case rel => exact ⟨i + 1, by omega, by go_num, fun k hk => by
              by_cases e : k = i
              · subst e; exact hca
              · exact HNO.out k (by omega), by omega, HH.out⟩
          case measure => simp [intOf]; omega
      · have hlt : ¬ (i : Int) < (vn : Int) + 1 := by omega
        have HV3 : VV = .tuple #[.agg #[.int .i64 0, .int .i64 0, .int .i64 0], .bool false] := by
          rw [← HV2.out, rawF_none (fun k hk => HNO.out k (by have := HVN.out; omega))]
          rfl
        subst HV3
        go_wp2_with (refine wpList_store_row rfl 27 (.tmp 4) (.tmp 45) rfl (w.heap.size + 2) #[.int .i64 0, .int .i64 0, .int .i64 0] rfl rfl 27 _ ((HH.out.row _ (List.Mem.tail _ (List.Mem.tail _ (List.Mem.head _))))) (by kernel_rfl) rfl (by simp [Value.oneCell']) ?_)
        refine bodyPost_ret (v := .tuple #[.agg #[.int .i64 0, .int .i64 0, .int .i64 0], .bool false]) ?_ rfl ⟨rfl, below_row HH.out.below (by omega) _⟩
        rw [results_cell_tmp rfl]
        simp [asAddr, Result.andThen, run_placeR (RowAt.setRow ((HH.out.row _ (List.Mem.tail _ (List.Mem.tail _ (List.Mem.head _))))) _)]
set_option maxRecDepth 100000 in
set_option maxHeartbeats 16000000 in
theorem specSpotRaw_any {a : Option Addr} {n cap : Nat} {d : List Bl} {pb pc pa : Int} {w : World} (h : Dc w a n cap d) :
    Calls Tryz.prog 18 #[.agg #[.slice a n cap], .agg #[.int .i64 pb, .int .i64 pc, .int .i64 pa]] w fun e w' => e = .returned (rawV (rawD d pb pc pa) pb pc) ∧ Below w.heap.size w w' := by
  have HH0 := hd_add (hd_start w) (fun u => Dc u a n cap d) (mono_dc _ _ _ _) h
  clear h
  obtain ⟨pr, HPR⟩ : ∃ x, Hid (plT d pb pc 0 = x) := ⟨_, rfl⟩
  obtain ⟨ok, HX⟩ : ∃ x, Hid ((plT d pb pc 0).isSome = x) := ⟨_, rfl⟩
  obtain ⟨VV, HVV⟩ : ∃ x, Hid (rawV (rawD d pb pc pa) pb pc = x) := ⟨_, rfl⟩
  rw [HVV.out]
  go_enter Tryz.func18, Tryz.ntmps18
  go_upto_region 3 with fail
  have HH := hd_box (hd_box (hd_box HH0 #[.slice a n cap] 25) #[.int .i64 pb, .int .i64 pc, .int .i64 0] 27) #[.int .i64 0, .int .i64 0, .int .i64 0] 27
  clear HH0
  have f2 : ((w.alloc (.cells #[.slice a n cap] 25)).alloc (.cells #[.int .i64 pb, .int .i64 pc, .int .i64 0] 27)).heap.size = w.heap.size + 2 := by simp
  have f1 : (w.alloc (.cells #[.slice a n cap] 25)).heap.size = w.heap.size + 1 := by simp
  rw [f2, f1] at HH
  have sv : w.heap.size + 2 < (((w.alloc (.cells #[.slice a n cap] 25)).alloc (.cells #[.int .i64 pb, .int .i64 pc, .int .i64 0] 27)).alloc (.cells #[.int .i64 0, .int .i64 0, .int .i64 0] 27)).heap.size := by simp
  generalize (((w.alloc (.cells #[.slice a n cap] 25)).alloc (.cells #[.int .i64 pb, .int .i64 pc, .int .i64 0] 27)).alloc (.cells #[.int .i64 0, .int .i64 0, .int .i64 0] 27)) = v1 at HH sv ⊢
  clear f1 f2
  have kA_0 : v1.cell? ⟨w.heap.size, 0, none⟩ = some (.slice a n cap) := RowAt.cell (HH.out.row _ (List.Mem.tail _ (List.Mem.tail _ (List.Mem.head _)))) 0
  go_wp2_with (refine wpList_load_row rfl 27 (.tmp 3) rfl (w.heap.size + 1) rfl 27 #[.int .i64 pb, .int .i64 pc, .int .i64 0] (0, 0) _ ((HH.out.row _ (List.Mem.tail _ (List.Mem.head _)))) Tryz.underlying27 rfl (by kernel_rfl) ?_)
  refine (specPlaceOk_is HX.out ((HH.out.fact _ (List.Mem.head _)).2)).mono ?_
  rintro e v2 ⟨rfl, hb⟩
  have sv2 := hb.size
  replace HH := hd_go HH hb
  clear kA_0
  have kA_0 : v2.cell? ⟨w.heap.size, 0, none⟩ = some (.slice a n cap) := RowAt.cell (HH.out.row _ (List.Mem.tail _ (List.Mem.tail _ (List.Mem.head _)))) 0
  clear hb
  cases ok
  · have HV3 : VV = .tuple #[.agg #[.int .i64 0, .int .i64 0, .int .i64 0], .bool false] := by
      rw [← HVV.out]
      unfold rawD
      cases hp : plT d pb pc 0 with
      | none => rfl
      | some s => have := HX.out; rw [hp] at this; cases this
    subst HV3
    go_wp2_with (refine wpList_store_row rfl 27 (.tmp 4) (.tmp 16) rfl (w.heap.size + 2) #[.int .i64 0, .int .i64 0, .int .i64 0] rfl rfl 27 _ ((HH.out.row _ (List.Mem.head _))) (by kernel_rfl) rfl (by simp [Value.oneCell']) ?_)
    refine bodyPost_ret (v := .tuple #[.agg #[.int .i64 0, .int .i64 0, .int .i64 0], .bool false]) ?_ rfl ⟨rfl, below_row HH.out.below (by omega) _⟩
    rw [results_cell_tmp rfl]
    simp [asAddr, Result.andThen, run_placeR (RowAt.setRow ((HH.out.row _ (List.Mem.head _))) _)]
  · obtain ⟨s, hs⟩ : ∃ s, plT d pb pc 0 = some s := by
      cases hp : plT d pb pc 0 with
      | none => have := HX.out; rw [hp] at this; cases this
      | some s => exact ⟨s, rfl⟩
    have HPS : Hid (plT d pb pc 0 = some s) := hs
    have HV2 : Hid (rawV (rawF s pa) pb pc = VV) := by
      show rawV (rawF s pa) pb pc = VV
      rw [← HVV.out]
      unfold rawD
      rw [hs]
    have HTX : Hid ((plT d pb pc 0).getD [] = s) := by
      show (plT d pb pc 0).getD [] = s
      rw [hs]
      rfl
    obtain ⟨sl, HSL⟩ : ∃ x, Hid (s.length = x) := ⟨_, rfl⟩
    have hs24 : sl ≤ 24 := by
      obtain ⟨_, -, -, hbo, hti, -, -⟩ := plT_parts hs
      rw [← HSL.out]
      exact textIn_small hbo hti
    clear hs
    clear kA_0
    go_upto_block 1 with fail
    go_wp2_with fail
    go_loopw [7, 8] (fun iv _ wr => ∃ i : Nat, i ≤ sl + 1 ∧ iv = .int .i64 (i : Int) ∧ (∀ k, k < i → ¬ (cntN s k : Int) = pa) ∧ v2.heap.size ≤ wr.heap.size ∧ Hd w [(w.heap.size + 2, #[.int .i64 0, .int .i64 0, .int .i64 0], 27), (w.heap.size + 1, #[.int .i64 pb, .int .i64 pc, .int .i64 0], 27), (w.heap.size, #[.slice a n cap], 25)] [fun u => Dc u a n cap d] wr) (fun iv _ _ => 30 - (intOf iv).toNat)
    case atStart => exact ⟨0, by omega, rfl, fun k hk => absurd hk (by omega), Nat.le_refl _, HH.out⟩
    case round =>
      clear HH
      obtain ⟨i, hi, rfl, hno, hsz, hHd⟩ := hrel
      have HH : Hid (Hd w [(w.heap.size + 2, #[.int .i64 0, .int .i64 0, .int .i64 0], 27), (w.heap.size + 1, #[.int .i64 pb, .int .i64 pc, .int .i64 0], 27), (w.heap.size, #[.slice a n cap], 25)] [fun u => Dc u a n cap d] wr) := hHd
      have HNO : Hid (∀ k, k < i → ¬ (cntN s k : Int) = pa) := hno
      clear hHd hno
      have kA_0 : wr.cell? ⟨w.heap.size, 0, none⟩ = some (.slice a n cap) := RowAt.cell (HH.out.row _ (List.Mem.tail _ (List.Mem.tail _ (List.Mem.head _)))) 0
      go_wp2_with (refine wpList_load_row rfl 27 (.tmp 3) rfl (w.heap.size + 1) rfl 27 #[.int .i64 pb, .int .i64 pc, .int .i64 0] (0, 0) _ ((HH.out.row _ (List.Mem.tail _ (List.Mem.head _)))) Tryz.underlying27 rfl (by kernel_rfl) ?_)
      refine (specPlaceText_any ((HH.out.fact _ (List.Mem.head _)).2)).mono ?_
      rintro e v3 ⟨⟨p1, m1, r1, rfl, hox⟩, hb⟩
      rw [HTX.out] at hox
      have hm1 : m1 = sl := hox.len.trans HSL.out
      subst hm1
      have sv3 := hb.size
      replace HH := hd_go HH hb
      clear kA_0
      have kA_0 : v3.cell? ⟨w.heap.size, 0, none⟩ = some (.slice a n cap) := RowAt.cell (HH.out.row _ (List.Mem.tail _ (List.Mem.tail _ (List.Mem.head _)))) 0
      clear hb hox
      by_cases hiv : i ≤ m1
      · have hle : (i : Int) ≤ (m1 : Int) := by omega
        clear kA_0
        have kP_0 : v3.cell? ⟨w.heap.size + 1, 0, none⟩ = some (.int .i64 pb) := RowAt.cell (HH.out.row _ (List.Mem.tail _ (List.Mem.head _))) 0
        have kP_1 : v3.cell? ⟨w.heap.size + 1, 1, none⟩ = some (.int .i64 pc) := RowAt.cell (HH.out.row _ (List.Mem.tail _ (List.Mem.head _))) 1
        have kP_2 : v3.cell? ⟨w.heap.size + 1, 2, none⟩ = some (.int .i64 0) := RowAt.cell (HH.out.row _ (List.Mem.tail _ (List.Mem.head _))) 2
        go_upto_region 9 with fail
        replace HH := hd_box HH #[.int .i64 pb, .int .i64 pc, .int .i64 (i : Int)] 27
        clear kP_0 kP_1 kP_2
        have sv4 : v3.heap.size < (v3.alloc (.cells #[.int .i64 pb, .int .i64 pc, .int .i64 (i : Int)] 27)).heap.size := by simp
        generalize (v3.alloc (.cells #[.int .i64 pb, .int .i64 pc, .int .i64 (i : Int)] 27)) = v4 at HH sv4 ⊢
        have kP_0 : v4.cell? ⟨w.heap.size + 1, 0, none⟩ = some (.int .i64 pb) := RowAt.cell (HH.out.row _ (List.Mem.tail _ (List.Mem.tail _ (List.Mem.head _)))) 0
        have kP_1 : v4.cell? ⟨w.heap.size + 1, 1, none⟩ = some (.int .i64 pc) := RowAt.cell (HH.out.row _ (List.Mem.tail _ (List.Mem.tail _ (List.Mem.head _)))) 1
        have kP_2 : v4.cell? ⟨w.heap.size + 1, 2, none⟩ = some (.int .i64 0) := RowAt.cell (HH.out.row _ (List.Mem.tail _ (List.Mem.tail _ (List.Mem.head _)))) 2
        clear kP_0 kP_1 kP_2
        have kA_0 : v4.cell? ⟨w.heap.size, 0, none⟩ = some (.slice a n cap) := RowAt.cell (HH.out.row _ (List.Mem.tail _ (List.Mem.tail _ (List.Mem.tail _ (List.Mem.head _))))) 0
        have hsp : spotF nowL d pb pc (i : Int) = (pb, pc, (cntN s i : Int)) := by
          unfold spotF
          rw [plT_at HPS.out (by omega) (by have := HSL.out; omega)]
          rfl
        by_cases hca : (cntN s i : Int) = pa
        · have hcb : ((cntN s i : Int) == pa) = true := by simpa using hca
          have hfd := run_placeAt pb pc (cntN s i : Int)
          have hfd2 := run_placeAt pb pc pa
          go_wp2_with (refine wpList_load_row rfl 27 (.tmp 8) rfl (v3.heap.size) rfl 27 #[.int .i64 pb, .int .i64 pc, .int .i64 (i : Int)] (0, 0) _ ((HH.out.row _ (List.Mem.head _))) Tryz.underlying27 rfl (by kernel_rfl) ?_)
          refine (specSpotNow_any hsp ((HH.out.fact _ (List.Mem.head _)).2)).mono ?_
          rintro e v5 ⟨rfl, hb⟩
          have sv5 := hb.size
          replace HH := hd_go HH hb
          clear kA_0
          have kA_0 : v5.cell? ⟨w.heap.size, 0, none⟩ = some (.slice a n cap) := RowAt.cell (HH.out.row _ (List.Mem.tail _ (List.Mem.tail _ (List.Mem.tail _ (List.Mem.head _))))) 0
          clear hb
          have HV3 : VV = .tuple #[.agg #[.int .i64 pb, .int .i64 pc, .int .i64 (i : Int)], .bool true] := by
            rw [← HV2.out, rawF_some (i := i) (by have := HSL.out; omega) hca HNO.out]
            rfl
          subst HV3
          go_wp2_with (first | (refine wpList_load_row rfl 27 (.tmp 8) rfl (v3.heap.size) rfl 27 #[.int .i64 pb, .int .i64 pc, .int .i64 (i : Int)] (0, 0) _ ((HH.out.row _ (List.Mem.head _))) Tryz.underlying27 rfl (by kernel_rfl) ?_) | refine wpList_store_row rfl 27 (.tmp 4) (.tmp 37) rfl (w.heap.size + 2) #[.int .i64 pb, .int .i64 pc, .int .i64 (i : Int)] rfl rfl 27 _ ((HH.out.row _ (List.Mem.tail _ (List.Mem.head _)))) (by kernel_rfl) rfl (by simp [Value.oneCell']) ?_)
          refine bodyPost_ret (v := .tuple #[.agg #[.int .i64 pb, .int .i64 pc, .int .i64 (i : Int)], .bool true]) ?_ rfl ⟨rfl, below_row HH.out.below (by omega) _⟩
          rw [results_cell_tmp rfl]
          simp [asAddr, Result.andThen, run_placeR (RowAt.setRow ((HH.out.row _ (List.Mem.tail _ (List.Mem.head _)))) _)]
        · have hcb : ((cntN s i : Int) == pa) = false := by simpa using hca
          have hfd := run_placeAt pb pc (cntN s i : Int)
          have hfd2 := run_placeAt pb pc pa
          go_wp2_with (refine wpList_load_row rfl 27 (.tmp 8) rfl (v3.heap.size) rfl 27 #[.int .i64 pb, .int .i64 pc, .int .i64 (i : Int)] (0, 0) _ ((HH.out.row _ (List.Mem.head _))) Tryz.underlying27 rfl (by kernel_rfl) ?_)
          refine (specSpotNow_any hsp ((HH.out.fact _ (List.Mem.head _)).2)).mono ?_
          rintro e v5 ⟨rfl, hb⟩
          have sv5 := hb.size
          replace HH := hd_go HH hb
          clear kA_0
          have kA_0 : v5.cell? ⟨w.heap.size, 0, none⟩ = some (.slice a n cap) := RowAt.cell (HH.out.row _ (List.Mem.tail _ (List.Mem.tail _ (List.Mem.tail _ (List.Mem.head _))))) 0
          clear hb
          clear kA_0
          go_wp2_with fail
          go_roundw
          case rel => exact ⟨i + 1, by omega, by go_num, fun k hk => by
              by_cases e : k = i
              · subst e; exact hca
              · exact HNO.out k (by omega), by omega, hd_rowless HH⟩
          case measure => simp [intOf]; omega
      · have hle : ¬ (i : Int) ≤ (m1 : Int) := by omega
        have HV3 : VV = .tuple #[.agg #[.int .i64 0, .int .i64 0, .int .i64 0], .bool false] := by
          rw [← HV2.out, rawF_none (fun k hk => HNO.out k (by have := HSL.out; omega))]
          rfl
        subst HV3
        go_wp2_with (refine wpList_store_row rfl 27 (.tmp 4) (.tmp 38) rfl (w.heap.size + 2) #[.int .i64 0, .int .i64 0, .int .i64 0] rfl rfl 27 _ ((HH.out.row _ (List.Mem.head _))) (by kernel_rfl) rfl (by simp [Value.oneCell']) ?_)
        refine bodyPost_ret (v := .tuple #[.agg #[.int .i64 0, .int .i64 0, .int .i64 0], .bool false]) ?_ rfl ⟨rfl, below_row HH.out.below (by omega) _⟩
        rw [results_cell_tmp rfl]
        simp [asAddr, Result.andThen, run_placeR (RowAt.setRow ((HH.out.row _ (List.Mem.head _))) _)]
end Go.Proofs.YtccoeachemnbnaaGreatDoor
namespace Go.Proofs.YtccoeachemnbnaaGreatDoor
open Go.RowKit

theorem textIn_okS {x : Bl} (h : blockB x = true) {c : Int} {s : List Sg} (hs : textIn x c = some s) : textB s = true := by
  obtain ⟨K, V, t, R, C, l⟩ := x
  unfold textIn at hs
  unfold blockB at h
  simp only at h hs
  by_cases h3 : K = 3
  · subst h3
    rw [if_pos rfl] at hs
    rw [if_neg (by decide), if_neg (by decide), if_pos rfl, Bool.and_eq_true] at h
    split at hs
    · rename_i hc
      cases hs
      have hj : c.toNat < l.length := by omega
      have hf : formB R C l = true := by
        have := h.2
        simp only [okB, Bool.and_eq_true] at this
        exact this.1
      exact (cellB_of (atB_cell ((formB_of hf).2.2.2 _ hj))).2.2.2.2
    · cases hs
  · rw [if_neg h3] at hs
    split at hs
    · cases hs
      by_cases h1 : K = 1
      · rw [if_pos h1, Bool.and_eq_true, Bool.and_eq_true] at h
        exact h.1.2
      · rw [if_neg h1] at h
        by_cases h2 : K = 2
        · rw [if_pos h2, Bool.and_eq_true, Bool.and_eq_true] at h
          exact h.1.2
        · rw [if_neg h2, if_neg h3] at h
          cases h
    · cases hs
theorem ne_place {w : World} {X b o : Nat} {x y z : Int} {ty : TypeId} {p : Option Addr} {m q : Nat} (h : RowAt w X #[.int .i64 x, .int .i64 y, .int .i64 z] ty) (hc : w.cell? ⟨b, o, none⟩ = some (.slice p m q)) : b ≠ X := by
  rintro rfl
  rw [h.cell] at hc
  match o, hc with
  | 0, hc => simp at hc
  | 1, hc => simp at hc
  | 2, hc => simp at hc
  | o + 3, hc => simp at hc
theorem eqPl (a b c a' b' c' : Int) (w : World) : (Op.equalIn 10000 27 (.agg #[.int .i64 a, .int .i64 b, .int .i64 c]) (.agg #[.int .i64 a', .int .i64 b', .int .i64 c'])).run Tryz.prog w = .ok (decide (a = a' ∧ b = b' ∧ c = c')) w := by
  have u3 := Tryz.underlying3
  have a3 := Tryz.isAgg3
  have z3 := Tryz.sizeOf3
  have hS : Tryz.prog.underlying 27 = some (.struct (Tryz.prog.fieldsOf 27)) := by kernel_rfl
  have hp : Tryz.prog.stoodInHeld 27 = false := by kernel_rfl
  rw [show (10000 : Nat) = 9999 + 1 from rfl, run_equalIn_agg w 9999 27 _ _ hS hp]
  simp only [Program.fieldsOf, Tryz.underlying27]
  go_simp
  by_cases h1 : a = a' <;> by_cases h2 : b = b' <;> by_cases h3 : c = c' <;> simp [h1, h2, h3]
theorem eqPl_same (a b c : Int) (w : World) : (Op.equalIn 10000 27 (.agg #[.int .i64 a, .int .i64 b, .int .i64 c]) (.agg #[.int .i64 a, .int .i64 b, .int .i64 c])).run Tryz.prog w = .ok true w := (eqPl _ _ _ _ _ _ w).trans (by simp)
theorem noGuardP : Tryz.prog.eqGuardType Tryz.prog.depth 27 = false := by kernel_rfl
theorem run_placeAt2 (x y z : Int) (w : World) : (Instr.field 27 (.agg #[.int .i64 x, .int .i64 y, .int .i64 z]) 2).run Tryz.prog w = .ok (.int .i64 z) w := by kernel_rfl
theorem filter_mono (q : Sg → Bool) (s : List Sg) {i j : Nat} (h : i ≤ j) : ((s.take i).filter q).length ≤ ((s.take j).filter q).length := by
  have e : s.take i = (s.take j).take i := by rw [List.take_take, Nat.min_eq_left h]
  rw [e]
  exact ((List.take_sublist i (s.take j)).filter q).length_le
theorem pick_mono (q : Sg → Bool) {s : List Sg} (hs : textB s = true) {i j : Nat} (h : i ≤ j) : (pickL q (s.take i)).length ≤ (pickL q (s.take j)).length := by
  have ht : ∀ k, textB (s.take k) = true := fun k => by
    unfold textB at hs ⊢
    simp only [Bool.and_eq_true, decide_eq_true_eq, List.all_eq_true] at hs ⊢
    exact ⟨by simp; omega, fun x hx => hs.2 x (List.mem_of_mem_take hx)⟩
  unfold pickL
  rw [if_pos (ht i), if_pos (ht j)]
  unfold bytesOf
  rw [List.length_map, List.length_map]
  exact filter_mono q s h
set_option maxRecDepth 100000 in
set_option maxHeartbeats 16000000 in
theorem drDrawSpotWas_any (B : Nat) (a : Option Addr) (n cap : Nat) (zs : List Int) (w : World) (h : Byt B w a n cap zs) (hB : B ≤ w.heap.size) :
    Calls Tryz.prog 7 #[.slice a n cap] w fun e w' => (∃ (a' : Option Addr) (m' c' : Nat) (d' : List Bl) (pb pc pa : Int), e = .returned (.tuple #[.agg #[.slice a' m' c'], .agg #[.int .i64 pb, .int .i64 pc, .int .i64 pa]]) ∧ Dc w' a' m' c' d' ∧ DocSp d' ∧ (-1 ≤ pb ∧ pb ≤ 9) ∧ (-1 ≤ pc ∧ pc ≤ 30) ∧ (-1 ≤ pa ∧ pa ≤ 30)) ∧ Below w.heap.size w w' := by
  have HY : Hid (Byt B w a n cap zs) := h
  clear h
  have HH := hd_start w
  go_enter Tryz.func7, Tryz.ntmps7
  go_upto_region 1 with fail
  replace HH := hd_box HH #[.slice none 0 0] 25
  replace HH := hd_box HH #[.int .i64 0, .int .i64 0, .int .i64 0] 27
  have ev2 : (w.alloc (.cells #[.slice none 0 0] 25)).heap.size = w.heap.size + 1 := by simp
  rw [ev2] at HH
  have sv2 : w.heap.size + 1 < ((w.alloc (.cells #[.slice none 0 0] 25)).alloc (.cells #[.int .i64 0, .int .i64 0, .int .i64 0] 27)).heap.size := by simp
  generalize ((w.alloc (.cells #[.slice none 0 0] 25)).alloc (.cells #[.int .i64 0, .int .i64 0, .int .i64 0] 27)) = v2 at HH sv2 ⊢
  clear ev2
  have HB0 : Hid (Below w.heap.size w v2) := HH.out.below
  have sB := HB0.out.size
  go_wp2_with fail
  refine (drDrawPlaceText_any B a n cap zs _ (HY.out.belowC HB0.out hB) (by omega)).mono ?_
  rintro e v3 ⟨⟨a1, m1, c1, d, pb, pc, pa, rfl, hT, hS, hpb, hpc, hpa⟩, hb⟩
  have sv3 := hb.size
  replace HH := hd_go HH hb
  have HT : Hid (Dc v3 a1 m1 c1 d) := hT
  have HSP : Hid (DocSp d) := hS
  clear hb hT hS
  have HRQ : Hid (RowAt (v3.setRow w.heap.size #[.slice a1 m1 c1]) (w.heap.size + 1) #[.int .i64 0, .int .i64 0, .int .i64 0] 27) := by
    have h := (HH.out.row _ (List.Mem.head _))
    unfold RowAt at h
    show RowAt _ _ _ _
    unfold RowAt
    rw [setRow_other _ _ _ _ (by omega)]
    exact h
  go_wp2_with (first | (refine wpList_store_row rfl 25 (.tmp 2) (.tmp 6) rfl w.heap.size #[.slice a1 m1 c1] rfl rfl 25 _ ((HH.out.row _ (List.Mem.tail _ (List.Mem.head _)))) (by kernel_rfl) rfl (by simp [Value.oneCell']) ?_) | (refine wpList_store_row rfl 27 (.tmp 3) (.tmp 7) rfl (w.heap.size + 1) #[.int .i64 pb, .int .i64 pc, .int .i64 pa] rfl rfl 27 _ HRQ.out (by kernel_rfl) rfl (by simp [Value.oneCell']) ?_))
  have hz : RowAt ((v3.setRow w.heap.size #[.slice a1 m1 c1]).setRow (w.heap.size + 1) #[.int .i64 pb, .int .i64 pc, .int .i64 pa]) w.heap.size #[.slice a1 m1 c1] 25 := by
    have h := RowAt.setRow ((HH.out.row _ (List.Mem.tail _ (List.Mem.head _)))) #[.slice a1 m1 c1]
    unfold RowAt at h ⊢
    rw [setRow_other _ _ _ _ (by omega)]
    exact h
  have hd1 := dc_row ((HH.out.row _ (List.Mem.tail _ (List.Mem.head _)))) HT.out #[.slice a1 m1 c1]
  have hd2 : Dc ((v3.setRow w.heap.size #[.slice a1 m1 c1]).setRow (w.heap.size + 1) #[.int .i64 pb, .int .i64 pc, .int .i64 pa]) a1 m1 c1 d := dc_rowP HRQ.out hd1 #[.int .i64 pb, .int .i64 pc, .int .i64 pa]
  exact bodyPost_ret (v := .tuple #[.agg #[.slice a1 m1 c1], .agg #[.int .i64 pb, .int .i64 pc, .int .i64 pa]]) (results_cell2 (p := 2) (q := 3) (ty := 25) (tz := 27) rfl _ _ _ w.heap.size (w.heap.size + 1) _ _ rfl (run_docP hz) rfl (run_place (RowAt.setRow HRQ.out _))) rfl ⟨⟨a1, m1, c1, d, pb, pc, pa, rfl, hd2, HSP.out, hpb, hpc, hpa⟩, below_row (below_row HH.out.below (by omega) _) (by omega) _⟩
set_option maxRecDepth 100000 in
set_option maxHeartbeats 16000000 in
theorem lawSpotOrder_walk (a : Option Addr) (n cap : Nat) (zs : List Int) (w : World) (hG : GlobE w) (h : Byt w.heap.size w a n cap zs) :
    Calls Tryz.prog 3 #[.slice a n cap] w fun e w' => e = .returned (.bool true) ∧ Below w.heap.size w w' := by
  have HY : Hid (Byt w.heap.size w a n cap zs) := h
  have hc := h.2.1
  have hm := h.2.2.1
  unfold maxLen at hm
  clear h
  by_cases hn : 1048576 < n
  · have hd : decide ((1048576 : Int) < (n : Int)) = true := by simp; omega
    go_enter Tryz.func3, Tryz.ntmps3
    go_wp2_with fail
    go_ret
    exact ⟨rfl, Below.refl _ _⟩
  have hd : decide ((1048576 : Int) < (n : Int)) = false := by simp; omega
  go_enter Tryz.func3, Tryz.ntmps3
  go_wp2_with fail
  refine (drDrawSpotWas_any w.heap.size a n cap zs _ HY.out (Nat.le_refl _)).mono ?_
  rintro e w1 ⟨⟨a0, m0, c0, d, pb, pc, pa, rfl, hT1, hS1, hpb, hpc, hpa⟩, hb1⟩
  have HH := hd_go (hd_start w) hb1
  have sw1 := hb1.size
  clear hb1 HY
  replace HH := hd_add HH (fun u => Dc u a0 m0 c0 d) (mono_dc _ _ _ _) hT1
  clear hT1 hd hn
  replace HH := hd_add HH GlobE mono_globE (mono_globE _ _ hG HH.out.below)
  clear hG
  obtain ⟨ok, HOK⟩ : ∃ x, Hid ((plT d pb pc pa).isSome = x) := ⟨_, rfl⟩
  obtain ⟨⟨x, y, z⟩, HX⟩ : ∃ t, Hid (spotF wasL d pb pc pa = t) := ⟨_, rfl⟩
  have hpe := eqPl_same x y z
  have hng := noGuardP
  go_upto_region 4 with fail
  replace HH := hd_box HH #[.slice a0 m0 c0] 25
  replace HH := hd_box HH #[.int .i64 pb, .int .i64 pc, .int .i64 pa] 27
  have ev3 : (w1.alloc (.cells #[.slice a0 m0 c0] 25)).heap.size = w1.heap.size + 1 := by simp
  rw [ev3] at HH
  have sv3 : w1.heap.size + 1 < ((w1.alloc (.cells #[.slice a0 m0 c0] 25)).alloc (.cells #[.int .i64 pb, .int .i64 pc, .int .i64 pa] 27)).heap.size := by simp
  generalize ((w1.alloc (.cells #[.slice a0 m0 c0] 25)).alloc (.cells #[.int .i64 pb, .int .i64 pc, .int .i64 pa] 27)) = v3 at HH sv3 ⊢
  clear ev3
  have kP_0 : v3.cell? ⟨w1.heap.size + 1, 0, none⟩ = some (.int .i64 pb) := RowAt.cell (HH.out.row _ (List.Mem.head _)) 0
  have kP_1 : v3.cell? ⟨w1.heap.size + 1, 1, none⟩ = some (.int .i64 pc) := RowAt.cell (HH.out.row _ (List.Mem.head _)) 1
  have kP_2 : v3.cell? ⟨w1.heap.size + 1, 2, none⟩ = some (.int .i64 pa) := RowAt.cell (HH.out.row _ (List.Mem.head _)) 2
  have kV_0 : v3.cell? ⟨w1.heap.size, 0, none⟩ = some (.slice a0 m0 c0) := RowAt.cell (HH.out.row _ (List.Mem.tail _ (List.Mem.head _))) 0
  go_wp2_with fail
  refine (implSpotWas_any HX.out ((HH.out.fact _ (List.Mem.tail _ (List.Mem.head _))).2) ((HH.out.fact _ (List.Mem.head _)).2)).mono ?_
  rintro e v4 ⟨rfl, hb⟩
  have sv4 := hb.size
  replace HH := hd_go HH hb
  clear kP_0 kP_1 kP_2 kV_0
  have kP_0 : v4.cell? ⟨w1.heap.size + 1, 0, none⟩ = some (.int .i64 pb) := RowAt.cell (HH.out.row _ (List.Mem.head _)) 0
  have kP_1 : v4.cell? ⟨w1.heap.size + 1, 1, none⟩ = some (.int .i64 pc) := RowAt.cell (HH.out.row _ (List.Mem.head _)) 1
  have kP_2 : v4.cell? ⟨w1.heap.size + 1, 2, none⟩ = some (.int .i64 pa) := RowAt.cell (HH.out.row _ (List.Mem.head _)) 2
  have kV_0 : v4.cell? ⟨w1.heap.size, 0, none⟩ = some (.slice a0 m0 c0) := RowAt.cell (HH.out.row _ (List.Mem.tail _ (List.Mem.head _))) 0
  clear hb
  go_upto_region 5 with fail
  replace HH := hd_box HH #[.int .i64 x, .int .i64 y, .int .i64 z] 27
  clear kP_0 kP_1 kP_2 kV_0
  have sv5 : v4.heap.size < (v4.alloc (.cells #[.int .i64 x, .int .i64 y, .int .i64 z] 27)).heap.size := by simp
  generalize (v4.alloc (.cells #[.int .i64 x, .int .i64 y, .int .i64 z] 27)) = v5 at HH sv5 ⊢
  obtain ⟨XS, hXS⟩ : ∃ X, v4.heap.size = X := ⟨_, rfl⟩
  rw [hXS] at HH sv5 ⊢
  have kS_0 : v5.cell? ⟨XS, 0, none⟩ = some (.int .i64 x) := RowAt.cell (HH.out.row _ (List.Mem.head _)) 0
  have kS_1 : v5.cell? ⟨XS, 1, none⟩ = some (.int .i64 y) := RowAt.cell (HH.out.row _ (List.Mem.head _)) 1
  have kS_2 : v5.cell? ⟨XS, 2, none⟩ = some (.int .i64 z) := RowAt.cell (HH.out.row _ (List.Mem.head _)) 2
  have kP_0 : v5.cell? ⟨w1.heap.size + 1, 0, none⟩ = some (.int .i64 pb) := RowAt.cell (HH.out.row _ (List.Mem.tail _ (List.Mem.head _))) 0
  have kP_1 : v5.cell? ⟨w1.heap.size + 1, 1, none⟩ = some (.int .i64 pc) := RowAt.cell (HH.out.row _ (List.Mem.tail _ (List.Mem.head _))) 1
  have kP_2 : v5.cell? ⟨w1.heap.size + 1, 2, none⟩ = some (.int .i64 pa) := RowAt.cell (HH.out.row _ (List.Mem.tail _ (List.Mem.head _))) 2
  have kV_0 : v5.cell? ⟨w1.heap.size, 0, none⟩ = some (.slice a0 m0 c0) := RowAt.cell (HH.out.row _ (List.Mem.tail _ (List.Mem.tail _ (List.Mem.head _)))) 0
  cases ok
  · clear kS_0 kS_1 kS_2 kP_0 kP_1 kP_2 kV_0
    refine wp_region_noPanic ?_
    refine wp_region_held_drew (S := fun w' => Hd w [(XS, #[.int .i64 x, .int .i64 y, .int .i64 z], 27), (w1.heap.size + 1, #[.int .i64 pb, .int .i64 pc, .int .i64 pa], 27), (w1.heap.size, #[.slice a0 m0 c0], 25)] [fun u => GlobE u, fun u => Dc u a0 m0 c0 d] w') (by kernel_rfl) (HH.out.go (Below.refl _ _).drew) (fun hHeld => ?_)
    clear HH
    have sv6 : v5.heap.size ≤ v5.drew.heap.size := Nat.le_refl _
    generalize v5.drew = v6 at hHeld sv6 ⊢
    refine take_at 0 19 (.agg #[.int .i64 x, .int .i64 y, .int .i64 z]) rfl rfl (by kernel_rfl) (by kernel_rfl) (by kernel_rfl) (fun _ _ _ h => h) (yieldsIf_load_row (by kernel_rfl) 27 (.tmp 5) rfl (XS) rfl 27 #[.int .i64 x, .int .i64 y, .int .i64 z] (0, 0) _ (fun w' h => h.row _ (List.Mem.head _)) Tryz.underlying27 rfl (by kernel_rfl)) hHeld ?_
    (try simp only [Act.put, List.setIfInBounds_toArray, List.set_cons_zero, List.set_cons_succ])
    refine take_at 1 20 (.agg #[.slice a0 m0 c0]) rfl rfl (by kernel_rfl) (by kernel_rfl) (by kernel_rfl) (fun _ _ _ h => h) (yieldsIf_load_row (by kernel_rfl) 25 (.tmp 3) rfl (w1.heap.size) rfl 25 #[.slice a0 m0 c0] (0, 0) _ (fun w' h => h.row _ (List.Mem.tail _ (List.Mem.tail _ (List.Mem.head _)))) Tryz.underlying25 rfl (by kernel_rfl)) hHeld ?_
    (try simp only [Act.put, List.setIfInBounds_toArray, List.set_cons_zero, List.set_cons_succ])
    refine take_at 2 21 (.agg #[.int .i64 pb, .int .i64 pc, .int .i64 pa]) rfl rfl (by kernel_rfl) (by kernel_rfl) (by kernel_rfl) (fun _ _ _ h => h) (yieldsIf_load_row (by kernel_rfl) 27 (.tmp 4) rfl (w1.heap.size + 1) rfl 27 #[.int .i64 pb, .int .i64 pc, .int .i64 pa] (0, 0) _ (fun w' h => h.row _ (List.Mem.tail _ (List.Mem.head _))) Tryz.underlying27 rfl (by kernel_rfl)) hHeld ?_
    (try simp only [Act.put, List.setIfInBounds_toArray, List.set_cons_zero, List.set_cons_succ])
    refine wpAnyH_ready (rs := [3]) (by kernel_rfl) (by simp) ?_
    refine AllReadyH.cons rfl (fun K hK => ?_) AllReadyH.nil
    go_simp
    go_at_call 9
    refine (specSpotWas_any HX.out ((hHeld.fact _ (List.Mem.tail _ (List.Mem.head _))).2)).mono ?_
    rintro _ v7 ⟨rfl, hb⟩
    have sv7 := hb.size
    go_wp2_with fail
    refine hK.out _ _ (hHeld.go hb) (fun hHeld => ?_)
    clear hK K hb
    (try simp only [Act.put, List.setIfInBounds_toArray, List.set_cons_zero, List.set_cons_succ])
    refine take_at 4 23 (.bool false) rfl rfl (by kernel_rfl) (by kernel_rfl) (by kernel_rfl) (fun _ _ _ h => h) (Or.inl ⟨by kernel_rfl, fun w' hS' => by go_simp⟩) hHeld ?_
    (try simp only [Act.put, List.setIfInBounds_toArray, List.set_cons_zero, List.set_cons_succ])
    refine take_at 5 24 (.bool false) rfl rfl (by kernel_rfl) (by kernel_rfl) (by kernel_rfl) (fun _ _ _ h => h) (Or.inl ⟨by kernel_rfl, fun w' hS' => by go_simp⟩) hHeld ?_
    (try simp only [Act.put, List.setIfInBounds_toArray, List.set_cons_zero, List.set_cons_succ])
    refine take_at 6 25 (.agg #[.slice a0 m0 c0]) rfl rfl (by kernel_rfl) (by kernel_rfl) (by kernel_rfl) (fun _ _ _ h => h) (yieldsIf_load_row (by kernel_rfl) 25 (.tmp 3) rfl (w1.heap.size) rfl 25 #[.slice a0 m0 c0] (0, 0) _ (fun w' h => h.row _ (List.Mem.tail _ (List.Mem.tail _ (List.Mem.head _)))) Tryz.underlying25 rfl (by kernel_rfl)) hHeld ?_
    (try simp only [Act.put, List.setIfInBounds_toArray, List.set_cons_zero, List.set_cons_succ])
    refine take_at 7 26 (.agg #[.int .i64 pb, .int .i64 pc, .int .i64 pa]) rfl rfl (by kernel_rfl) (by kernel_rfl) (by kernel_rfl) (fun _ _ _ h => h) (yieldsIf_load_row (by kernel_rfl) 27 (.tmp 4) rfl (w1.heap.size + 1) rfl 27 #[.int .i64 pb, .int .i64 pc, .int .i64 pa] (0, 0) _ (fun w' h => h.row _ (List.Mem.tail _ (List.Mem.head _))) Tryz.underlying27 rfl (by kernel_rfl)) hHeld ?_
    (try simp only [Act.put, List.setIfInBounds_toArray, List.set_cons_zero, List.set_cons_succ])
    refine wpAnyH_ready (rs := [8]) (by kernel_rfl) (by simp) ?_
    refine AllReadyH.cons rfl (fun K hK => ?_) AllReadyH.nil
    go_simp
    go_at_call 10
    refine (specPlaceOk_is HOK.out ((hHeld.fact _ (List.Mem.tail _ (List.Mem.head _))).2)).mono ?_
    rintro _ v8 ⟨rfl, hb⟩
    have sv8 := hb.size
    go_wp2_with fail
    refine hK.out _ _ (hHeld.go hb) (fun hHeld => ?_)
    clear hK K hb
    (try simp only [Act.put, List.setIfInBounds_toArray, List.set_cons_zero, List.set_cons_succ])
    refine take_at 9 28 (.bool true) rfl rfl (by kernel_rfl) (by kernel_rfl) (by kernel_rfl) (fun _ _ _ h => h) (Or.inl ⟨by kernel_rfl, fun w' hS' => by go_simp⟩) hHeld ?_
    (try simp only [Act.put, List.setIfInBounds_toArray, List.set_cons_zero, List.set_cons_succ])
    refine take_at 10 29 (.bool true) rfl rfl (by kernel_rfl) (by kernel_rfl) (by kernel_rfl) (fun _ _ _ h => h) (Or.inl ⟨by kernel_rfl, fun w' hS' => by go_simp⟩) hHeld ?_
    (try simp only [Act.put, List.setIfInBounds_toArray, List.set_cons_zero, List.set_cons_succ])
    refine wpAnyH_done (by kernel_rfl) ?_ _
    refine NoPanic.normal ?_
    have HH : Hid (Hd w _ _ v8) := hHeld
    clear hHeld
    have kS_0 : v8.cell? ⟨XS, 0, none⟩ = some (.int .i64 x) := RowAt.cell (HH.out.row _ (List.Mem.head _)) 0
    have kS_1 : v8.cell? ⟨XS, 1, none⟩ = some (.int .i64 y) := RowAt.cell (HH.out.row _ (List.Mem.head _)) 1
    have kS_2 : v8.cell? ⟨XS, 2, none⟩ = some (.int .i64 z) := RowAt.cell (HH.out.row _ (List.Mem.head _)) 2
    have kP_0 : v8.cell? ⟨w1.heap.size + 1, 0, none⟩ = some (.int .i64 pb) := RowAt.cell (HH.out.row _ (List.Mem.tail _ (List.Mem.head _))) 0
    have kP_1 : v8.cell? ⟨w1.heap.size + 1, 1, none⟩ = some (.int .i64 pc) := RowAt.cell (HH.out.row _ (List.Mem.tail _ (List.Mem.head _))) 1
    have kP_2 : v8.cell? ⟨w1.heap.size + 1, 2, none⟩ = some (.int .i64 pa) := RowAt.cell (HH.out.row _ (List.Mem.tail _ (List.Mem.head _))) 2
    have kV_0 : v8.cell? ⟨w1.heap.size, 0, none⟩ = some (.slice a0 m0 c0) := RowAt.cell (HH.out.row _ (List.Mem.tail _ (List.Mem.tail _ (List.Mem.head _)))) 0
    go_upto_region 6 with fail
    clear kS_0 kS_1 kS_2 kP_0 kP_1 kP_2 kV_0
    refine wp_region_noPanic ?_
    refine wp_region_held_drew (S := fun w' => Hd w [(XS, #[.int .i64 x, .int .i64 y, .int .i64 z], 27), (w1.heap.size + 1, #[.int .i64 pb, .int .i64 pc, .int .i64 pa], 27), (w1.heap.size, #[.slice a0 m0 c0], 25)] [fun u => GlobE u, fun u => Dc u a0 m0 c0 d] w') (by kernel_rfl) (HH.out.go (Below.refl _ _).drew) (fun hHeld => ?_)
    clear HH
    have sv9 : v8.heap.size ≤ v8.drew.heap.size := Nat.le_refl _
    generalize v8.drew = v9 at hHeld sv9 ⊢
    refine take_at 0 30 (.agg #[.int .i64 x, .int .i64 y, .int .i64 z]) rfl rfl (by kernel_rfl) (by kernel_rfl) (by kernel_rfl) (fun _ _ _ h => h) (yieldsIf_load_row (by kernel_rfl) 27 (.tmp 5) rfl (XS) rfl 27 #[.int .i64 x, .int .i64 y, .int .i64 z] (0, 0) _ (fun w' h => h.row _ (List.Mem.head _)) Tryz.underlying27 rfl (by kernel_rfl)) hHeld ?_
    (try simp only [Act.put, List.setIfInBounds_toArray, List.set_cons_zero, List.set_cons_succ])
    refine take_at 1 31 (.agg #[.slice a0 m0 c0]) rfl rfl (by kernel_rfl) (by kernel_rfl) (by kernel_rfl) (fun _ _ _ h => h) (yieldsIf_load_row (by kernel_rfl) 25 (.tmp 3) rfl (w1.heap.size) rfl 25 #[.slice a0 m0 c0] (0, 0) _ (fun w' h => h.row _ (List.Mem.tail _ (List.Mem.tail _ (List.Mem.head _)))) Tryz.underlying25 rfl (by kernel_rfl)) hHeld ?_
    (try simp only [Act.put, List.setIfInBounds_toArray, List.set_cons_zero, List.set_cons_succ])
    refine take_at 2 32 (.agg #[.int .i64 pb, .int .i64 pc, .int .i64 pa]) rfl rfl (by kernel_rfl) (by kernel_rfl) (by kernel_rfl) (fun _ _ _ h => h) (yieldsIf_load_row (by kernel_rfl) 27 (.tmp 4) rfl (w1.heap.size + 1) rfl 27 #[.int .i64 pb, .int .i64 pc, .int .i64 pa] (0, 0) _ (fun w' h => h.row _ (List.Mem.tail _ (List.Mem.head _))) Tryz.underlying27 rfl (by kernel_rfl)) hHeld ?_
    (try simp only [Act.put, List.setIfInBounds_toArray, List.set_cons_zero, List.set_cons_succ])
    refine wpAnyH_ready (rs := [3]) (by kernel_rfl) (by simp) ?_
    refine AllReadyH.cons rfl (fun K hK => ?_) AllReadyH.nil
    go_simp
    go_at_call 9
    refine (specSpotWas_any HX.out ((hHeld.fact _ (List.Mem.tail _ (List.Mem.head _))).2)).mono ?_
    rintro _ v10 ⟨rfl, hb⟩
    have sv10 := hb.size
    go_wp2_with fail
    refine hK.out _ _ (hHeld.go hb) (fun hHeld => ?_)
    clear hK K hb
    (try simp only [Act.put, List.setIfInBounds_toArray, List.set_cons_zero, List.set_cons_succ])
    refine take_at 4 34 (.bool true) rfl rfl (by kernel_rfl) (by kernel_rfl) (by kernel_rfl) (fun _ _ _ h => h) (Or.inl ⟨by kernel_rfl, fun w' hS' => by go_simp⟩) hHeld ?_
    (try simp only [Act.put, List.setIfInBounds_toArray, List.set_cons_zero, List.set_cons_succ])
    refine take_at 5 2 (.bool true) rfl rfl (by kernel_rfl) (by kernel_rfl) (by kernel_rfl) (fun _ _ _ h => h) (Or.inl ⟨by kernel_rfl, fun w' hS' => by go_simp⟩) hHeld ?_
    (try simp only [Act.put, List.setIfInBounds_toArray, List.set_cons_zero, List.set_cons_succ])
    refine wpAnyH_done (by kernel_rfl) ?_ _
    refine NoPanic.normal ?_
    have HH : Hid (Hd w _ _ v10) := hHeld
    clear hHeld
    have kS_0 : v10.cell? ⟨XS, 0, none⟩ = some (.int .i64 x) := RowAt.cell (HH.out.row _ (List.Mem.head _)) 0
    have kS_1 : v10.cell? ⟨XS, 1, none⟩ = some (.int .i64 y) := RowAt.cell (HH.out.row _ (List.Mem.head _)) 1
    have kS_2 : v10.cell? ⟨XS, 2, none⟩ = some (.int .i64 z) := RowAt.cell (HH.out.row _ (List.Mem.head _)) 2
    have kP_0 : v10.cell? ⟨w1.heap.size + 1, 0, none⟩ = some (.int .i64 pb) := RowAt.cell (HH.out.row _ (List.Mem.tail _ (List.Mem.head _))) 0
    have kP_1 : v10.cell? ⟨w1.heap.size + 1, 1, none⟩ = some (.int .i64 pc) := RowAt.cell (HH.out.row _ (List.Mem.tail _ (List.Mem.head _))) 1
    have kP_2 : v10.cell? ⟨w1.heap.size + 1, 2, none⟩ = some (.int .i64 pa) := RowAt.cell (HH.out.row _ (List.Mem.tail _ (List.Mem.head _))) 2
    have kV_0 : v10.cell? ⟨w1.heap.size, 0, none⟩ = some (.slice a0 m0 c0) := RowAt.cell (HH.out.row _ (List.Mem.tail _ (List.Mem.tail _ (List.Mem.head _)))) 0
    go_wp2_with fail
    go_ret
    exact ⟨rfl, HH.out.below⟩
  · clear kS_0 kS_1 kS_2 kP_0 kP_1 kP_2 kV_0
    refine wp_region_noPanic ?_
    refine wp_region_held_drew (S := fun w' => Hd w [(XS, #[.int .i64 x, .int .i64 y, .int .i64 z], 27), (w1.heap.size + 1, #[.int .i64 pb, .int .i64 pc, .int .i64 pa], 27), (w1.heap.size, #[.slice a0 m0 c0], 25)] [fun u => GlobE u, fun u => Dc u a0 m0 c0 d] w') (by kernel_rfl) (HH.out.go (Below.refl _ _).drew) (fun hHeld => ?_)
    clear HH
    have sv6 : v5.heap.size ≤ v5.drew.heap.size := Nat.le_refl _
    generalize v5.drew = v6 at hHeld sv6 ⊢
    refine take_at 0 19 (.agg #[.int .i64 x, .int .i64 y, .int .i64 z]) rfl rfl (by kernel_rfl) (by kernel_rfl) (by kernel_rfl) (fun _ _ _ h => h) (yieldsIf_load_row (by kernel_rfl) 27 (.tmp 5) rfl (XS) rfl 27 #[.int .i64 x, .int .i64 y, .int .i64 z] (0, 0) _ (fun w' h => h.row _ (List.Mem.head _)) Tryz.underlying27 rfl (by kernel_rfl)) hHeld ?_
    (try simp only [Act.put, List.setIfInBounds_toArray, List.set_cons_zero, List.set_cons_succ])
    refine take_at 1 20 (.agg #[.slice a0 m0 c0]) rfl rfl (by kernel_rfl) (by kernel_rfl) (by kernel_rfl) (fun _ _ _ h => h) (yieldsIf_load_row (by kernel_rfl) 25 (.tmp 3) rfl (w1.heap.size) rfl 25 #[.slice a0 m0 c0] (0, 0) _ (fun w' h => h.row _ (List.Mem.tail _ (List.Mem.tail _ (List.Mem.head _)))) Tryz.underlying25 rfl (by kernel_rfl)) hHeld ?_
    (try simp only [Act.put, List.setIfInBounds_toArray, List.set_cons_zero, List.set_cons_succ])
    refine take_at 2 21 (.agg #[.int .i64 pb, .int .i64 pc, .int .i64 pa]) rfl rfl (by kernel_rfl) (by kernel_rfl) (by kernel_rfl) (fun _ _ _ h => h) (yieldsIf_load_row (by kernel_rfl) 27 (.tmp 4) rfl (w1.heap.size + 1) rfl 27 #[.int .i64 pb, .int .i64 pc, .int .i64 pa] (0, 0) _ (fun w' h => h.row _ (List.Mem.tail _ (List.Mem.head _))) Tryz.underlying27 rfl (by kernel_rfl)) hHeld ?_
    (try simp only [Act.put, List.setIfInBounds_toArray, List.set_cons_zero, List.set_cons_succ])
    refine wpAnyH_ready (rs := [3]) (by kernel_rfl) (by simp) ?_
    refine AllReadyH.cons rfl (fun K hK => ?_) AllReadyH.nil
    go_simp
    go_at_call 9
    refine (specSpotWas_any HX.out ((hHeld.fact _ (List.Mem.tail _ (List.Mem.head _))).2)).mono ?_
    rintro _ v7 ⟨rfl, hb⟩
    have sv7 := hb.size
    go_wp2_with fail
    refine hK.out _ _ (hHeld.go hb) (fun hHeld => ?_)
    clear hK K hb
    (try simp only [Act.put, List.setIfInBounds_toArray, List.set_cons_zero, List.set_cons_succ])
    refine take_at 4 23 (.bool false) rfl rfl (by kernel_rfl) (by kernel_rfl) (by kernel_rfl) (fun _ _ _ h => h) (Or.inl ⟨by kernel_rfl, fun w' hS' => by go_simp⟩) hHeld ?_
    (try simp only [Act.put, List.setIfInBounds_toArray, List.set_cons_zero, List.set_cons_succ])
    refine take_at 5 24 (.bool false) rfl rfl (by kernel_rfl) (by kernel_rfl) (by kernel_rfl) (fun _ _ _ h => h) (Or.inl ⟨by kernel_rfl, fun w' hS' => by go_simp⟩) hHeld ?_
    (try simp only [Act.put, List.setIfInBounds_toArray, List.set_cons_zero, List.set_cons_succ])
    refine take_at 6 25 (.agg #[.slice a0 m0 c0]) rfl rfl (by kernel_rfl) (by kernel_rfl) (by kernel_rfl) (fun _ _ _ h => h) (yieldsIf_load_row (by kernel_rfl) 25 (.tmp 3) rfl (w1.heap.size) rfl 25 #[.slice a0 m0 c0] (0, 0) _ (fun w' h => h.row _ (List.Mem.tail _ (List.Mem.tail _ (List.Mem.head _)))) Tryz.underlying25 rfl (by kernel_rfl)) hHeld ?_
    (try simp only [Act.put, List.setIfInBounds_toArray, List.set_cons_zero, List.set_cons_succ])
    refine take_at 7 26 (.agg #[.int .i64 pb, .int .i64 pc, .int .i64 pa]) rfl rfl (by kernel_rfl) (by kernel_rfl) (by kernel_rfl) (fun _ _ _ h => h) (yieldsIf_load_row (by kernel_rfl) 27 (.tmp 4) rfl (w1.heap.size + 1) rfl 27 #[.int .i64 pb, .int .i64 pc, .int .i64 pa] (0, 0) _ (fun w' h => h.row _ (List.Mem.tail _ (List.Mem.head _))) Tryz.underlying27 rfl (by kernel_rfl)) hHeld ?_
    (try simp only [Act.put, List.setIfInBounds_toArray, List.set_cons_zero, List.set_cons_succ])
    refine wpAnyH_ready (rs := [8]) (by kernel_rfl) (by simp) ?_
    refine AllReadyH.cons rfl (fun K hK => ?_) AllReadyH.nil
    go_simp
    go_at_call 10
    refine (specPlaceOk_is HOK.out ((hHeld.fact _ (List.Mem.tail _ (List.Mem.head _))).2)).mono ?_
    rintro _ v8 ⟨rfl, hb⟩
    have sv8 := hb.size
    go_wp2_with fail
    refine hK.out _ _ (hHeld.go hb) (fun hHeld => ?_)
    clear hK K hb
    (try simp only [Act.put, List.setIfInBounds_toArray, List.set_cons_zero, List.set_cons_succ])
    refine take_at 9 28 (.bool false) rfl rfl (by kernel_rfl) (by kernel_rfl) (by kernel_rfl) (fun _ _ _ h => h) (Or.inl ⟨by kernel_rfl, fun w' hS' => by go_simp⟩) hHeld ?_
    (try simp only [Act.put, List.setIfInBounds_toArray, List.set_cons_zero, List.set_cons_succ])
    refine take_at 10 29 (.bool false) rfl rfl (by kernel_rfl) (by kernel_rfl) (by kernel_rfl) (fun _ _ _ h => h) (Or.inl ⟨by kernel_rfl, fun w' hS' => by go_simp⟩) hHeld ?_
    (try simp only [Act.put, List.setIfInBounds_toArray, List.set_cons_zero, List.set_cons_succ])
    refine wpAnyH_done (by kernel_rfl) ?_ _
    refine NoPanic.normal ?_
    have HH : Hid (Hd w _ _ v8) := hHeld
    clear hHeld
    have kS_0 : v8.cell? ⟨XS, 0, none⟩ = some (.int .i64 x) := RowAt.cell (HH.out.row _ (List.Mem.head _)) 0
    have kS_1 : v8.cell? ⟨XS, 1, none⟩ = some (.int .i64 y) := RowAt.cell (HH.out.row _ (List.Mem.head _)) 1
    have kS_2 : v8.cell? ⟨XS, 2, none⟩ = some (.int .i64 z) := RowAt.cell (HH.out.row _ (List.Mem.head _)) 2
    have kP_0 : v8.cell? ⟨w1.heap.size + 1, 0, none⟩ = some (.int .i64 pb) := RowAt.cell (HH.out.row _ (List.Mem.tail _ (List.Mem.head _))) 0
    have kP_1 : v8.cell? ⟨w1.heap.size + 1, 1, none⟩ = some (.int .i64 pc) := RowAt.cell (HH.out.row _ (List.Mem.tail _ (List.Mem.head _))) 1
    have kP_2 : v8.cell? ⟨w1.heap.size + 1, 2, none⟩ = some (.int .i64 pa) := RowAt.cell (HH.out.row _ (List.Mem.tail _ (List.Mem.head _))) 2
    have kV_0 : v8.cell? ⟨w1.heap.size, 0, none⟩ = some (.slice a0 m0 c0) := RowAt.cell (HH.out.row _ (List.Mem.tail _ (List.Mem.tail _ (List.Mem.head _)))) 0
    clear kS_0 kS_1 kS_2 kP_0 kP_1 kP_2 kV_0
    obtain ⟨s, hs⟩ : ∃ s, plT d pb pc pa = some s := by
      cases hp : plT d pb pc pa with
      | none => have := HOK.out; rw [hp] at this; cases this
      | some s => exact ⟨s, rfl⟩
    have hXX := HX.out
    unfold spotF at hXX
    rw [hs] at hXX
    simp only [Prod.mk.injEq] at hXX
    obtain ⟨rfl, rfl, hz⟩ := hXX
    obtain ⟨ib, rfl, hid, hbo, hti, h0, h1⟩ := plT_parts hs
    obtain ⟨j, rfl⟩ : ∃ j : Nat, pa = j := ⟨pa.toNat, by omega⟩
    rw [Int.toNat_natCast] at hz
    have hso : textB s = true := textIn_okS hbo hti
    have HPS : Hid (plT d ib pc j = some s) := hs
    have HJS : Hid ((j : Int) ≤ (s.length : Int)) := h1
    have HSO : Hid (textB s = true) := hso
    obtain ⟨Z, HZ⟩ : ∃ Z, Hid ((wasL (s.take j)).length = Z) := ⟨_, rfl⟩
    rw [HZ.out] at hz
    subst hz
    obtain ⟨⟨x2, y2, z2⟩, HX2⟩ : ∃ t, Hid (spotF nowL d ib pc (j : Int) = t) := ⟨_, rfl⟩
    have hX2 := HX2.out
    unfold spotF at hX2
    rw [HPS.out] at hX2
    simp only [Prod.mk.injEq, Int.toNat_natCast] at hX2
    obtain ⟨rfl, rfl, hz2⟩ := hX2
    obtain ⟨Z2, HZ2⟩ : ∃ Z, Hid ((nowL (s.take j)).length = Z) := ⟨_, rfl⟩
    rw [HZ2.out] at hz2
    subst hz2
    clear hs hso h1 hid hbo hti hpe hng
    go_upto_block 1 with fail
    go_wp2_with fail
    go_loopw [6, 7] (fun iv _ wr => ∃ i : Nat, i ≤ j ∧ iv = .int .i64 (i : Int) ∧ v8.heap.size ≤ wr.heap.size ∧ Hd w [(XS, #[.int .i64 (ib : Int), .int .i64 pc, .int .i64 (Z : Int)], 27), (w1.heap.size + 1, #[.int .i64 (ib : Int), .int .i64 pc, .int .i64 (j : Int)], 27), (w1.heap.size, #[.slice a0 m0 c0], 25)] [fun u => GlobE u, fun u => Dc u a0 m0 c0 d] wr) (fun iv _ _ => j - (intOf iv).toNat)
    case atStart => exact ⟨0, by omega, rfl, Nat.le_refl _, HH.out⟩
    case round =>
      clear HH
      obtain ⟨i, hi, rfl, hsz, hHd⟩ := hrel
      have HH : Hid (Hd w [(XS, #[.int .i64 (ib : Int), .int .i64 pc, .int .i64 (Z : Int)], 27), (w1.heap.size + 1, #[.int .i64 (ib : Int), .int .i64 pc, .int .i64 (j : Int)], 27), (w1.heap.size, #[.slice a0 m0 c0], 25)] [fun u => GlobE u, fun u => Dc u a0 m0 c0 d] wr) := hHd
      clear hHd
      have kP_0 : wr.cell? ⟨w1.heap.size + 1, 0, none⟩ = some (.int .i64 (ib : Int)) := RowAt.cell (HH.out.row _ (List.Mem.tail _ (List.Mem.head _))) 0
      have kP_1 : wr.cell? ⟨w1.heap.size + 1, 1, none⟩ = some (.int .i64 pc) := RowAt.cell (HH.out.row _ (List.Mem.tail _ (List.Mem.head _))) 1
      have kP_2 : wr.cell? ⟨w1.heap.size + 1, 2, none⟩ = some (.int .i64 (j : Int)) := RowAt.cell (HH.out.row _ (List.Mem.tail _ (List.Mem.head _))) 2
      by_cases hij : i < j
      · have hlt : (i : Int) < (j : Int) := by omega
        go_upto_region 11 with fail
        replace HH := hd_box HH #[.int .i64 (ib : Int), .int .i64 pc, .int .i64 (i : Int)] 27
        clear kP_0 kP_1 kP_2
        have sv9 : wr.heap.size < (wr.alloc (.cells #[.int .i64 (ib : Int), .int .i64 pc, .int .i64 (i : Int)] 27)).heap.size := by simp
        generalize (wr.alloc (.cells #[.int .i64 (ib : Int), .int .i64 pc, .int .i64 (i : Int)] 27)) = v9 at HH sv9 ⊢
        obtain ⟨XQ, hXQ⟩ : ∃ X, wr.heap.size = X := ⟨_, rfl⟩
        rw [hXQ] at HH sv9 ⊢
        have kP_0 : v9.cell? ⟨w1.heap.size + 1, 0, none⟩ = some (.int .i64 (ib : Int)) := RowAt.cell (HH.out.row _ (List.Mem.tail _ (List.Mem.tail _ (List.Mem.head _)))) 0
        have kP_1 : v9.cell? ⟨w1.heap.size + 1, 1, none⟩ = some (.int .i64 pc) := RowAt.cell (HH.out.row _ (List.Mem.tail _ (List.Mem.tail _ (List.Mem.head _)))) 1
        have kP_2 : v9.cell? ⟨w1.heap.size + 1, 2, none⟩ = some (.int .i64 (j : Int)) := RowAt.cell (HH.out.row _ (List.Mem.tail _ (List.Mem.tail _ (List.Mem.head _)))) 2
        obtain ⟨ZI, HZI⟩ : ∃ Z, Hid ((wasL (s.take i)).length = Z) := ⟨_, rfl⟩
        obtain ⟨NI, HNI⟩ : ∃ Z, Hid ((nowL (s.take i)).length = Z) := ⟨_, rfl⟩
        have hsw : spotF wasL d ib pc (i : Int) = ((ib : Int), pc, (ZI : Int)) := by
          unfold spotF
          rw [plT_at (plT_zero HPS.out) (by omega) (by have := HJS.out; omega)]
          simp only [Int.toNat_natCast, HZI.out]
        have hsn : spotF nowL d ib pc (i : Int) = ((ib : Int), pc, (NI : Int)) := by
          unfold spotF
          rw [plT_at (plT_zero HPS.out) (by omega) (by have := HJS.out; omega)]
          simp only [Int.toNat_natCast, HNI.out]
        have hzz : ZI ≤ Z := by
          rw [← HZI.out, ← HZ.out, wasL_eq, wasL_eq]
          exact pick_mono _ HSO.out (by omega)
        have hnn : NI ≤ Z2 := by
          rw [← HNI.out, ← HZ2.out, nowL_eq, nowL_eq]
          exact pick_mono _ HSO.out (by omega)
        have HSW : Hid (_) := hsw
        have HSN : Hid (_) := hsn
        clear hsw hsn
        clear kP_0 kP_1 kP_2
        refine wp_region_noPanic ?_
        refine wp_region_held_drew (S := fun w' => Hd w [(XQ, #[.int .i64 (ib : Int), .int .i64 pc, .int .i64 (i : Int)], 27), (XS, #[.int .i64 (ib : Int), .int .i64 pc, .int .i64 (Z : Int)], 27), (w1.heap.size + 1, #[.int .i64 (ib : Int), .int .i64 pc, .int .i64 (j : Int)], 27), (w1.heap.size, #[.slice a0 m0 c0], 25)] [fun u => GlobE u, fun u => Dc u a0 m0 c0 d] w') (by kernel_rfl) (HH.out.go (Below.refl _ _).drew) (fun hHeld => ?_)
        clear HH
        have sv10 : v9.heap.size ≤ v9.drew.heap.size := Nat.le_refl _
        generalize v9.drew = v10 at hHeld sv10 ⊢
        refine take_at 0 47 (.agg #[.slice a0 m0 c0]) rfl rfl (by kernel_rfl) (by kernel_rfl) (by kernel_rfl) (fun _ _ _ h => h) (yieldsIf_load_row (by kernel_rfl) 25 (.tmp 3) rfl (w1.heap.size) rfl 25 #[.slice a0 m0 c0] (0, 0) _ (fun w' h => h.row _ (List.Mem.tail _ (List.Mem.tail _ (List.Mem.tail _ (List.Mem.head _))))) Tryz.underlying25 rfl (by kernel_rfl)) hHeld ?_
        (try simp only [Act.put, List.setIfInBounds_toArray, List.set_cons_zero, List.set_cons_succ])
        refine take_at 1 48 (.agg #[.int .i64 (ib : Int), .int .i64 pc, .int .i64 (i : Int)]) rfl rfl (by kernel_rfl) (by kernel_rfl) (by kernel_rfl) (fun _ _ _ h => h) (yieldsIf_load_row (by kernel_rfl) 27 (.tmp 7) rfl (XQ) rfl 27 #[.int .i64 (ib : Int), .int .i64 pc, .int .i64 (i : Int)] (0, 0) _ (fun w' h => h.row _ (List.Mem.head _)) Tryz.underlying27 rfl (by kernel_rfl)) hHeld ?_
        (try simp only [Act.put, List.setIfInBounds_toArray, List.set_cons_zero, List.set_cons_succ])
        refine take_at 4 51 (.pointer (some ⟨XS, 2, none⟩)) rfl rfl (by kernel_rfl) (by kernel_rfl) (by kernel_rfl) (fun _ _ _ h => h) (Or.inl ⟨by kernel_rfl, fun w' hS' => by go_simp⟩) hHeld ?_
        (try simp only [Act.put, List.setIfInBounds_toArray, List.set_cons_zero, List.set_cons_succ])
        refine take_at 5 52 (.int .i64 (Z : Int)) rfl rfl (by kernel_rfl) (by kernel_rfl) (by kernel_rfl) (fun _ _ _ h => h) (Or.inl ⟨by kernel_rfl, fun w' hS' => by have hc := RowAt.cell (hS'.row _ (List.Mem.tail _ (List.Mem.head _))) 2; go_simp⟩) hHeld ?_
        (try simp only [Act.put, List.setIfInBounds_toArray, List.set_cons_zero, List.set_cons_succ])
        refine wpAnyH_ready (rs := [2]) (by kernel_rfl) (by simp) ?_
        refine AllReadyH.cons rfl (fun K hK => ?_) AllReadyH.nil
        go_simp
        go_at_call 8
        refine (implSpotWas_any HSW.out ((hHeld.fact _ (List.Mem.tail _ (List.Mem.head _))).2) ((hHeld.fact _ (List.Mem.head _)).2)).mono ?_
        rintro _ v11 ⟨rfl, hb⟩
        have sv11 := hb.size
        go_wp2_with fail
        refine hK.out _ _ (hHeld.go hb) (fun hHeld => ?_)
        clear hK K hb
        (try simp only [Act.put, List.setIfInBounds_toArray, List.set_cons_zero, List.set_cons_succ])
        refine take_at 3 50 (.int .i64 (ZI : Int)) rfl rfl (by kernel_rfl) (by kernel_rfl) (by kernel_rfl) (fun _ _ _ h => h) (Or.inl ⟨by kernel_rfl, fun w' hS' => by have hfd := run_placeAt2 (ib : Int) pc (ZI : Int); go_simp⟩) hHeld ?_
        (try simp only [Act.put, List.setIfInBounds_toArray, List.set_cons_zero, List.set_cons_succ])
        refine take_at 6 53 (.bool false) rfl rfl (by kernel_rfl) (by kernel_rfl) (by kernel_rfl) (fun _ _ _ h => h) (Or.inl ⟨by kernel_rfl, fun w' hS' => by go_simp⟩) hHeld ?_
        (try simp only [Act.put, List.setIfInBounds_toArray, List.set_cons_zero, List.set_cons_succ])
        refine take_at 7 54 (.bool false) rfl rfl (by kernel_rfl) (by kernel_rfl) (by kernel_rfl) (fun _ _ _ h => h) (Or.inl ⟨by kernel_rfl, fun w' hS' => by go_simp⟩) hHeld ?_
        (try simp only [Act.put, List.setIfInBounds_toArray, List.set_cons_zero, List.set_cons_succ])
        refine take_at 8 55 (.agg #[.slice a0 m0 c0]) rfl rfl (by kernel_rfl) (by kernel_rfl) (by kernel_rfl) (fun _ _ _ h => h) (yieldsIf_load_row (by kernel_rfl) 25 (.tmp 3) rfl (w1.heap.size) rfl 25 #[.slice a0 m0 c0] (0, 0) _ (fun w' h => h.row _ (List.Mem.tail _ (List.Mem.tail _ (List.Mem.tail _ (List.Mem.head _))))) Tryz.underlying25 rfl (by kernel_rfl)) hHeld ?_
        (try simp only [Act.put, List.setIfInBounds_toArray, List.set_cons_zero, List.set_cons_succ])
        refine take_at 9 56 (.agg #[.int .i64 (ib : Int), .int .i64 pc, .int .i64 (i : Int)]) rfl rfl (by kernel_rfl) (by kernel_rfl) (by kernel_rfl) (fun _ _ _ h => h) (yieldsIf_load_row (by kernel_rfl) 27 (.tmp 7) rfl (XQ) rfl 27 #[.int .i64 (ib : Int), .int .i64 pc, .int .i64 (i : Int)] (0, 0) _ (fun w' h => h.row _ (List.Mem.head _)) Tryz.underlying27 rfl (by kernel_rfl)) hHeld ?_
        (try simp only [Act.put, List.setIfInBounds_toArray, List.set_cons_zero, List.set_cons_succ])
        refine take_at 12 59 (.agg #[.slice a0 m0 c0]) rfl rfl (by kernel_rfl) (by kernel_rfl) (by kernel_rfl) (fun _ _ _ h => h) (yieldsIf_load_row (by kernel_rfl) 25 (.tmp 3) rfl (w1.heap.size) rfl 25 #[.slice a0 m0 c0] (0, 0) _ (fun w' h => h.row _ (List.Mem.tail _ (List.Mem.tail _ (List.Mem.tail _ (List.Mem.head _))))) Tryz.underlying25 rfl (by kernel_rfl)) hHeld ?_
        (try simp only [Act.put, List.setIfInBounds_toArray, List.set_cons_zero, List.set_cons_succ])
        refine take_at 13 60 (.agg #[.int .i64 (ib : Int), .int .i64 pc, .int .i64 (j : Int)]) rfl rfl (by kernel_rfl) (by kernel_rfl) (by kernel_rfl) (fun _ _ _ h => h) (yieldsIf_load_row (by kernel_rfl) 27 (.tmp 4) rfl (w1.heap.size + 1) rfl 27 #[.int .i64 (ib : Int), .int .i64 pc, .int .i64 (j : Int)] (0, 0) _ (fun w' h => h.row _ (List.Mem.tail _ (List.Mem.tail _ (List.Mem.head _)))) Tryz.underlying27 rfl (by kernel_rfl)) hHeld ?_
        (try simp only [Act.put, List.setIfInBounds_toArray, List.set_cons_zero, List.set_cons_succ])
        refine wpAnyH_ready (rs := [10]) (by kernel_rfl) (by simp) ?_
        refine AllReadyH.cons rfl (fun K hK => ?_) AllReadyH.nil
        go_simp
        go_at_call 11
        refine (implSpotNow_any HSN.out ((hHeld.fact _ (List.Mem.tail _ (List.Mem.head _))).2) ((hHeld.fact _ (List.Mem.head _)).2)).mono ?_
        rintro _ v12 ⟨rfl, hb⟩
        have sv12 := hb.size
        go_wp2_with fail
        refine hK.out _ _ (hHeld.go hb) (fun hHeld => ?_)
        clear hK K hb
        (try simp only [Act.put, List.setIfInBounds_toArray, List.set_cons_zero, List.set_cons_succ])
        refine take_at 11 58 (.int .i64 (NI : Int)) rfl rfl (by kernel_rfl) (by kernel_rfl) (by kernel_rfl) (fun _ _ _ h => h) (Or.inl ⟨by kernel_rfl, fun w' hS' => by have hfd := run_placeAt2 (ib : Int) pc (NI : Int); go_simp⟩) hHeld ?_
        (try simp only [Act.put, List.setIfInBounds_toArray, List.set_cons_zero, List.set_cons_succ])
        refine wpAnyH_ready (rs := [14]) (by kernel_rfl) (by simp) ?_
        refine AllReadyH.cons rfl (fun K hK => ?_) AllReadyH.nil
        go_simp
        go_at_call 11
        refine (implSpotNow_any HX2.out ((hHeld.fact _ (List.Mem.tail _ (List.Mem.head _))).2) ((hHeld.fact _ (List.Mem.head _)).2)).mono ?_
        rintro _ v13 ⟨rfl, hb⟩
        have sv13 := hb.size
        go_wp2_with fail
        refine hK.out _ _ (hHeld.go hb) (fun hHeld => ?_)
        clear hK K hb
        (try simp only [Act.put, List.setIfInBounds_toArray, List.set_cons_zero, List.set_cons_succ])
        refine take_at 15 62 (.int .i64 (Z2 : Int)) rfl rfl (by kernel_rfl) (by kernel_rfl) (by kernel_rfl) (fun _ _ _ h => h) (Or.inl ⟨by kernel_rfl, fun w' hS' => by have hfd := run_placeAt2 (ib : Int) pc (Z2 : Int); go_simp⟩) hHeld ?_
        (try simp only [Act.put, List.setIfInBounds_toArray, List.set_cons_zero, List.set_cons_succ])
        refine take_at 16 63 (.bool false) rfl rfl (by kernel_rfl) (by kernel_rfl) (by kernel_rfl) (fun _ _ _ h => h) (Or.inl ⟨by kernel_rfl, fun w' hS' => by go_simp⟩) hHeld ?_
        (try simp only [Act.put, List.setIfInBounds_toArray, List.set_cons_zero, List.set_cons_succ])
        refine take_at 17 64 (.bool false) rfl rfl (by kernel_rfl) (by kernel_rfl) (by kernel_rfl) (fun _ _ _ h => h) (Or.inl ⟨by kernel_rfl, fun w' hS' => by go_simp⟩) hHeld ?_
        (try simp only [Act.put, List.setIfInBounds_toArray, List.set_cons_zero, List.set_cons_succ])
        refine wpAnyH_done (by kernel_rfl) ?_ _
        refine NoPanic.normal ?_
        have HH : Hid (Hd w _ _ v13) := hHeld
        clear hHeld
        have kP_0 : v13.cell? ⟨w1.heap.size + 1, 0, none⟩ = some (.int .i64 (ib : Int)) := RowAt.cell (HH.out.row _ (List.Mem.tail _ (List.Mem.tail _ (List.Mem.head _)))) 0
        have kP_1 : v13.cell? ⟨w1.heap.size + 1, 1, none⟩ = some (.int .i64 pc) := RowAt.cell (HH.out.row _ (List.Mem.tail _ (List.Mem.tail _ (List.Mem.head _)))) 1
        have kP_2 : v13.cell? ⟨w1.heap.size + 1, 2, none⟩ = some (.int .i64 (j : Int)) := RowAt.cell (HH.out.row _ (List.Mem.tail _ (List.Mem.tail _ (List.Mem.head _)))) 2
        clear kP_0 kP_1 kP_2
        go_wp2_with fail
        go_roundw
        case rel => exact ⟨i + 1, by omega, by go_num, by omega, hd_rowless HH⟩
        case measure => simp [intOf]; omega
      · have hlt : ¬ (i : Int) < (j : Int) := by omega
        go_wp2_with fail
        go_ret
        exact ⟨rfl, HH.out.below⟩
end Go.Proofs.YtccoeachemnbnaaGreatDoor
