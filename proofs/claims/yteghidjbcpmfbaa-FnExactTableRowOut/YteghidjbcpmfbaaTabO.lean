import Derived.Test.YteghidjbcpmfbaaOwnS
import Derived.Test.YteghidjbcpmfbaaTabS
namespace Go.Proofs.Yteghidjbcpmfbaa
open Go.RowKit

/-- A table's cell as it lies: four numbers and a slice. -/
abbrev Rw := Int × Int × Int × Int × Option Addr × Nat × Nat
def rw0 : Rw := (0, 0, 0, 0, none, 0, 0)
def rwCells (x : Rw) : List Value := [.int .i64 x.1, .int .i64 x.2.1, .int .i64 x.2.2.1, .int .i64 x.2.2.2.1, .slice x.2.2.2.2.1 x.2.2.2.2.2.1 x.2.2.2.2.2.2]
def flat5 (l : List Rw) : List Value := l.flatMap rwCells

theorem flat5_length (l : List Rw) : (flat5 l).length = l.length * 5 := by
  induction l with
  | nil => rfl
  | cons s l ih =>
    show (rwCells s ++ flat5 l).length = _
    rw [List.length_append, ih]
    simp [rwCells]; omega

theorem flat5_append (a b : List Rw) : flat5 (a ++ b) = flat5 a ++ flat5 b := by simp [flat5]

theorem flat5_get (l : List Rw) : ∀ (k j : Nat), k < l.length → j < 5 → (flat5 l)[k * 5 + j]? = (rwCells (l.getD k rw0))[j]? := by
  induction l with
  | nil => intro k j h; simp at h
  | cons s l ih =>
    intro k j hk hj
    have h5 : (rwCells s).length = 5 := rfl
    show (rwCells s ++ flat5 l)[k * 5 + j]? = _
    cases k with
    | zero => rw [List.getElem?_append_left (by omega)]; simp
    | succ k =>
      rw [List.getElem?_append_right (by omega), h5, show (k + 1) * 5 + j - 5 = k * 5 + j by omega, ih k j (by simpa using hk) hj]
      simp

theorem flat5_take_succ (l : List Rw) (k : Nat) (hk : k < l.length) : flat5 (l.take (k + 1)) = flat5 (l.take k) ++ rwCells (l.getD k rw0) := by
  rw [List.take_succ_eq_append_getElem hk, flat5_append]
  simp [flat5, List.getD, hk]

/-- The cells at block b from o on. -/
def RwAt (w : World) (b o : Nat) (x : Rw) : Prop :=
  w.cell? ⟨b, o, none⟩ = some (.int .i64 x.1) ∧ w.cell? ⟨b, o + 1, none⟩ = some (.int .i64 x.2.1) ∧ w.cell? ⟨b, o + 2, none⟩ = some (.int .i64 x.2.2.1) ∧ w.cell? ⟨b, o + 3, none⟩ = some (.int .i64 x.2.2.2.1) ∧
    w.cell? ⟨b, o + 4, none⟩ = some (.slice x.2.2.2.2.1 x.2.2.2.2.2.1 x.2.2.2.2.2.2)

/-- A slice value that reads as rows. -/
def Rws (w : World) (a : Option Addr) (n cap : Nat) (l : List Rw) : Prop :=
  n = l.length ∧ n ≤ cap ∧ cap ≤ maxLen ∧ (l = [] ∨ ∃ b off, a = some ⟨b, off, none⟩ ∧ b < w.heap.size ∧ ∀ k, k < l.length → RwAt w b (off + k * 5) (l.getD k rw0))

theorem rws_of_own {w : World} {B g n cap e : Nat} {l : List Rw} (h : w.ownsRow B e 5 (.slice (some ⟨g, 0, none⟩) n cap) n (flat5 l)) : Rws w (some ⟨g, 0, none⟩) n cap l := by
  have hlen := h.1
  rw [flat5_length] at hlen
  have hn : n = l.length := by omega
  rcases h.2 with ⟨h', _⟩ | ⟨g', cap', cur, h', _, hg, hnc, hcm, _, _⟩
  · simp at h'
  · simp only [Value.slice.injEq, Option.some.injEq, Addr.mk.injEq, and_true, true_and] at h'
    obtain ⟨rfl, rfl⟩ := h'
    refine ⟨hn, hnc, hcm, .inr ⟨g, 0, rfl, (Array.getElem?_eq_some_iff.1 hg).1, ?_⟩⟩
    intro k hk
    rw [Nat.zero_add]
    exact ⟨(h.cellAt (k * 5) (by omega)).trans (flat5_get l k 0 hk (by omega)), (h.cellAt (k * 5 + 1) (by omega)).trans (flat5_get l k 1 hk (by omega)), (h.cellAt (k * 5 + 2) (by omega)).trans (flat5_get l k 2 hk (by omega)), (h.cellAt (k * 5 + 3) (by omega)).trans (flat5_get l k 3 hk (by omega)), (h.cellAt (k * 5 + 4) (by omega)).trans (flat5_get l k 4 hk (by omega))⟩

/-- A value that owns rows. -/
def OwnR (w : World) (B : Nat) (v : Value) (l : List Rw) : Prop := w.ownsRow B 44 5 v l.length (flat5 l)

theorem OwnR.shape {w : World} {B : Nat} {v : Value} {l : List Rw} (h : OwnR w B v l) : ∃ a cap, v = .slice a l.length cap ∧ Rws w a l.length cap l := by
  have h' := h
  unfold OwnR at h'
  rcases h'.2 with ⟨rfl, h0⟩ | ⟨g, cap, cur, rfl, r⟩
  · have : l = [] := List.eq_nil_of_length_eq_zero h0
    subst this
    exact ⟨none, 0, rfl, rfl, Nat.le_refl _, Nat.zero_le _, .inl rfl⟩
  · exact ⟨_, _, rfl, rws_of_own h'⟩
theorem OwnR.below {w w' : World} {B : Nat} {v : Value} {l : List Rw} (h : OwnR w B v l) (hb : Below w.heap.size w w') : OwnR w' B v l := own_below h hb
theorem OwnR.nil (w : World) (B : Nat) : OwnR w B (.slice none 0 0) [] := World.ownsRow_nil _ _ _ _
theorem OwnR.alloc {w : World} {B : Nat} {v : Value} {l : List Rw} (h : OwnR w B v l) (o : Obj) : OwnR (w.alloc o) B v l := World.ownsRow.alloc h o
theorem OwnR.rws {w : World} {B : Nat} {a : Option Addr} {n cap : Nat} {l : List Rw} (h : OwnR w B (.slice a n cap) l) : Rws w a n cap l := by
  obtain ⟨a', cap', he, ht⟩ := h.shape
  simp only [Value.slice.injEq] at he
  obtain ⟨rfl, rfl, rfl⟩ := he
  exact ht
theorem OwnR.len {w : World} {B : Nat} {a : Option Addr} {n cap : Nat} {l : List Rw} (h : OwnR w B (.slice a n cap) l) : n = l.length := h.rws.1
theorem OwnR.row {w : World} {B : Nat} {a : Option Addr} {n cap : Nat} {l : List Rw} (h : OwnR w B (.slice a n cap) l) : w.ownsRow B 44 5 (.slice a n cap) n (flat5 l) := by
  have := h.len
  subst this
  exact h
theorem OwnR.snoc {w : World} {B : Nat} {v : Value} {l : List Rw} {s : Rw} {n : Nat} {xs : List Value} (h : w.ownsRow B 44 5 v n xs) (hn : n = l.length + 1) (hx : xs = flat5 l ++ rwCells s) : OwnR w B v (l ++ [s]) := by
  subst hn hx
  unfold OwnR
  rw [flat5_append, List.length_append]
  have : flat5 [s] = rwCells s := by simp [flat5]
  rw [this]
  exact h

/-- A row more behind owned rows: what the append leaves. -/
theorem ownR_step {B : Nat} {w wr w1 : World} {a : Option Addr} {k c : Nat} {v' : Value} {l : List Rw} {s : Rw} {o : Obj} (ho : OwnR wr B (.slice a k c) l) (hbl : Below B w wr) (hB : B ≤ wr.heap.size)
    (hown : w1.ownsRow B 44 5 v' (k + 1) (flat5 l ++ rwCells s)) (hgrow : (wr.alloc o).grownBy w1 (Value.slice a k c).ownBlock) :
    ∃ a' c', v' = .slice a' (k + 1) c' ∧ OwnR w1 B (.slice a' (k + 1) c') (l ++ [s]) ∧ Below B w w1 := by
  have hk := ho.len
  have h1 : OwnR w1 B v' (l ++ [s]) := OwnR.snoc hown (by omega) rfl
  obtain ⟨a', c', rfl, -⟩ := h1.shape
  have e : (l ++ [s]).length = k + 1 := by simp; omega
  rw [e] at h1
  refine ⟨a', c', by rw [e], h1, ?_⟩
  exact (hbl.alloc hB _).grown hgrow (by simp; omega) (fun q hq => (ho.row.lt q hq).1)

/-- What a row reads as. -/
def RwIs (w : World) (x : Rw) (y : Cl) : Prop := x.1 = y.1 ∧ x.2.1 = y.2.1 ∧ x.2.2.1 = y.2.2.1 ∧ x.2.2.2.1 = y.2.2.2.1 ∧ Txt w x.2.2.2.2.1 x.2.2.2.2.2.1 x.2.2.2.2.2.2 y.2.2.2.2
def Reads (w : World) (l : List Rw) (m : List Cl) : Prop := l.length = m.length ∧ ∀ k, k < l.length → RwIs w (l.getD k rw0) (m.getD k cl0)

theorem tab_of_rws {w : World} {a : Option Addr} {n cap : Nat} {l : List Rw} {m : List Cl} (h : Rws w a n cap l) (hr : Reads w l m) : Tab w a n cap m := by
  obtain ⟨h1, h2, h3, h4⟩ := h
  obtain ⟨e, hr⟩ := hr
  refine ⟨h1.trans e, h2, h3, ?_⟩
  rcases h4 with rfl | ⟨b, off, h5, h6, h7⟩
  · exact .inl (List.eq_nil_of_length_eq_zero e.symm)
  · refine .inr ⟨b, off, h5, h6, fun k hk => ?_⟩
    obtain ⟨q0, q1, q2, q3, q4⟩ := hr k (by omega)
    obtain ⟨c0, c1, c2, c3, c4⟩ := h7 k (by omega)
    rw [q0] at c0
    rw [q1] at c1
    rw [q2] at c2
    rw [q3] at c3
    exact ⟨c0, c1, c2, c3, _, _, _, c4, q4⟩

theorem Reads.below {w w' : World} {l : List Rw} {m : List Cl} (h : Reads w l m) (hb : Below w.heap.size w w') : Reads w' l m :=
  ⟨h.1, fun k hk => by obtain ⟨q0, q1, q2, q3, q4⟩ := h.2 k hk; exact ⟨q0, q1, q2, q3, q4.below hb⟩⟩
theorem Reads.nil (w : World) : Reads w [] [] := ⟨rfl, fun k hk => by simp at hk⟩
theorem Reads.snoc {w : World} {l : List Rw} {m : List Cl} {x : Rw} {y : Cl} (h : Reads w l m) (hx : RwIs w x y) : Reads w (l ++ [x]) (m ++ [y]) := by
  obtain ⟨e, h⟩ := h
  refine ⟨by simp [e], fun k hk => ?_⟩
  by_cases hlt : k < l.length
  · have := h k hlt
    simp only [List.getD_eq_getElem?_getD] at this ⊢
    rw [List.getElem?_append_left hlt, List.getElem?_append_left (by omega)]
    exact this
  · have : k = l.length := by simp at hk; omega
    subst this
    simp only [List.getD_eq_getElem?_getD]
    rw [List.getElem?_append_right (Nat.le_refl _), List.getElem?_append_right (by omega), e, Nat.sub_self]
    exact hx
end Go.Proofs.Yteghidjbcpmfbaa
