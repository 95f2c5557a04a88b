import Derived.Test.YteghidjbcpmfbaaTabO
import Derived.Test.YteghidjbcpmfbaaRowAt
namespace Go.Proofs.Yteghidjbcpmfbaa
open Go.RowKit

theorem Try.info44 : (Try.prog.info? 44).map (fun i => (i.zero, i.size, i.bytes)) = some (some (.agg #[.int .i64 0, .int .i64 0, .int .i64 0, .int .i64 0, .slice none 0 0]), 5, 56) := by kernel_rfl
theorem tab_info : (Try.prog.info? 28).map (·.size) = some 3 := by kernel_rfl
theorem own_less {w : World} {B B' e size n : Nat} {v : Value} {xs : List Value} (h : w.ownsRow B' e size v n xs) (hB : B ≤ B') : w.ownsRow B e size v n xs := by
  refine ⟨h.1, ?_⟩
  rcases h.2 with hn | ⟨g, cap, cur, rfl, hg, rest⟩
  · exact .inl hn
  · exact .inr ⟨g, cap, cur, rfl, Nat.le_trans hB hg, rest⟩
theorem own_set {w : World} {B e size n : Nat} {v : Value} {xs : List Value} (h : w.ownsRow B e size v n xs) (p : Addr) (u : Value) (hp : v.ownBlock ≠ some p.block) : (w.setCell p u).ownsRow B e size v n xs := by
  refine ⟨h.1, ?_⟩
  rcases h.2 with hn | ⟨g, cap, cur, rfl, hg, hgg, rest⟩
  · exact .inl hn
  · refine .inr ⟨g, cap, cur, rfl, hg, ?_, rest⟩
    rw [Go.Deep.blk_setCell_other _ _ _ _ (fun e => hp (by simp [Value.ownBlock, e]))]
    exact hgg
theorem own_row {w : World} {B e size n : Nat} {v : Value} {xs : List Value} (h : w.ownsRow B e size v n xs) (g : Nat) (cs : Array Value) (hp : v.ownBlock ≠ some g) : (w.setRow g cs).ownsRow B e size v n xs := by
  refine ⟨h.1, ?_⟩
  rcases h.2 with hn | ⟨g', cap, cur, rfl, hg, hgg, rest⟩
  · exact .inl hn
  · refine .inr ⟨g', cap, cur, rfl, hg, ?_, rest⟩
    rw [setRow_other _ _ _ _ (fun e => hp (by simp [Value.ownBlock, e]))]
    exact hgg
theorem own_grown {w w' : World} {B e size n : Nat} {v : Value} {xs : List Value} {q : Option Nat} (h : w.ownsRow B e size v n xs) (hg : w.grownBy w' q) (hp : ∀ g, v.ownBlock = some g → q ≠ some g) : w'.ownsRow B e size v n xs := by
  refine ⟨h.1, ?_⟩
  rcases h.2 with hn | ⟨g, cap, cur, rfl, hg', hgg, rest⟩
  · exact .inl hn
  · refine .inr ⟨g, cap, cur, rfl, hg', ?_, rest⟩
    rw [hg.block g (Array.getElem?_eq_some_iff.1 hgg).1 (hp g (by simp [Value.ownBlock])).symm]
    exact hgg
theorem own_lt {w : World} {B e size n : Nat} {v : Value} {xs : List Value} (h : w.ownsRow B e size v n xs) {g : Nat} (hg : v.ownBlock = some g) : B ≤ g ∧ g < w.heap.size := by
  rcases h.2 with ⟨rfl, _⟩ | ⟨g', cap, cur, rfl, hg', hgg, rest⟩
  · simp [Value.ownBlock] at hg
  · simp only [Value.ownBlock, Option.some.injEq] at hg
    subst hg
    exact ⟨hg', (Array.getElem?_eq_some_iff.1 hgg).1⟩

theorem RowAt.grown {w w' : World} {b : Nat} {cs : Array Value} {ty : TypeId} {q : Option Nat} (h : RowAt w b cs ty) (hg : w.grownBy w' q) (hq : q ≠ some b) : RowAt w' b cs ty := by
  unfold RowAt
  rw [hg.block b h.lt (Ne.symm hq)]
  exact h
theorem own_kinds {w : World} {B B' e e' size size' n n' : Nat} {v v' : Value} {xs xs' : List Value} (h : w.ownsRow B e size v n xs) (h' : w.ownsRow B' e' size' v' n' xs') (he : e ≠ e') : ∀ g, v'.ownBlock = some g → v.ownBlock ≠ some g := by
  intro g hg' hg
  rcases h.2 with ⟨rfl, _⟩ | ⟨g1, cap, cur, rfl, _, hgg, _⟩
  · simp [Value.ownBlock] at hg
  · rcases h'.2 with ⟨rfl, _⟩ | ⟨g2, cap', cur', rfl, _, hgg', _⟩
    · simp [Value.ownBlock] at hg'
    · simp only [Value.ownBlock, Option.some.injEq] at hg hg'
      subst hg
      subst hg'
      rw [hgg] at hgg'
      simp only [Option.some.injEq, Obj.cells.injEq] at hgg'
      exact he hgg'.2.1
theorem rowAt_ne {w : World} {b : Nat} {cs : Array Value} {ty : TypeId} {B e size n : Nat} {v : Value} {xs : List Value} (h : RowAt w b cs ty) (ho : w.ownsRow B e size v n xs) (he : e ≠ ty) : v.ownBlock ≠ some b := by
  intro hb
  rcases ho.2 with ⟨rfl, _⟩ | ⟨g, cap, cur, rfl, _, hgg, _⟩
  · simp [Value.ownBlock] at hb
  · simp only [Value.ownBlock, Option.some.injEq] at hb
    subst hb
    rw [show w.heap[g]? = _ from h] at hgg
    simp only [Option.some.injEq, Obj.cells.injEq] at hgg
    exact he hgg.2.1.symm
/-- A row's text as a value. -/
def rwT (x : Rw) : Value := .slice x.2.2.2.2.1 x.2.2.2.2.2.1 x.2.2.2.2.2.2
/-- A row whose text is its own, and reads as a cell. -/
def RwOwn (w : World) (B : Nat) (x : Rw) (y : Cl) : Prop := x.1 = y.1 ∧ x.2.1 = y.2.1 ∧ x.2.2.1 = y.2.2.1 ∧ x.2.2.2.1 = y.2.2.2.1 ∧ Own w B (rwT x) y.2.2.2.2
/-- Rows with texts of their own, no two of which share memory, and none with a block q. -/
def TxtOwn (w : World) (B : Nat) (q : Option Nat) (rs : List Rw) (l : List Cl) : Prop :=
  rs.length = l.length ∧ (∀ k, k < rs.length → RwOwn w B (rs.getD k rw0) (l.getD k cl0)) ∧ (∀ k, k < rs.length → ∀ g, (rwT (rs.getD k rw0)).ownBlock = some g → q ≠ some g) ∧
    (∀ i k, i < k → k < rs.length → ∀ g, (rwT (rs.getD i rw0)).ownBlock = some g → (rwT (rs.getD k rw0)).ownBlock ≠ some g)
/-- A table's cells, all their own. -/
def OwnT (w : World) (B : Nat) (v : Value) (rs : List Rw) (l : List Cl) : Prop := OwnR w B v rs ∧ TxtOwn w B v.ownBlock rs l

theorem RwOwn.is {w : World} {B : Nat} {x : Rw} {y : Cl} (h : RwOwn w B x y) : RwIs w x y := by
  obtain ⟨h0, h1, h2, h3, h4⟩ := h
  exact ⟨h0, h1, h2, h3, h4.txt⟩
theorem TxtOwn.reads {w : World} {B : Nat} {q : Option Nat} {rs : List Rw} {l : List Cl} (h : TxtOwn w B q rs l) : Reads w rs l := ⟨h.1, fun k hk => (h.2.1 k hk).is⟩
theorem OwnT.tab {w : World} {B : Nat} {a : Option Addr} {n cap : Nat} {rs : List Rw} {l : List Cl} (h : OwnT w B (.slice a n cap) rs l) : Tab w a n cap l := tab_of_rws h.1.rws h.2.reads
theorem OwnT.len {w : World} {B : Nat} {a : Option Addr} {n cap : Nat} {rs : List Rw} {l : List Cl} (h : OwnT w B (.slice a n cap) rs l) : n = l.length := h.1.len.trans h.2.1
theorem OwnT.shape {w : World} {B : Nat} {v : Value} {rs : List Rw} {l : List Cl} (h : OwnT w B v rs l) : ∃ a cap, v = .slice a l.length cap := by
  obtain ⟨a, cap, e, -⟩ := h.1.shape
  exact ⟨a, cap, by rw [e, h.2.1]⟩
theorem TxtOwn.below {w w' : World} {B : Nat} {q : Option Nat} {rs : List Rw} {l : List Cl} (h : TxtOwn w B q rs l) (hb : Below w.heap.size w w') : TxtOwn w' B q rs l :=
  ⟨h.1, fun k hk => by obtain ⟨h0, h1, h2, h3, h4⟩ := h.2.1 k hk; exact ⟨h0, h1, h2, h3, h4.below hb⟩, h.2.2⟩
theorem OwnT.below {w w' : World} {B : Nat} {v : Value} {rs : List Rw} {l : List Cl} (h : OwnT w B v rs l) (hb : Below w.heap.size w w') : OwnT w' B v rs l := ⟨h.1.below hb, h.2.below hb⟩
theorem TxtOwn.less {w : World} {B B' : Nat} {q : Option Nat} {rs : List Rw} {l : List Cl} (h : TxtOwn w B' q rs l) (hB : B ≤ B') : TxtOwn w B q rs l :=
  ⟨h.1, fun k hk => by obtain ⟨h0, h1, h2, h3, h4⟩ := h.2.1 k hk; exact ⟨h0, h1, h2, h3, own_less h4 hB⟩, h.2.2⟩
theorem OwnT.less {w : World} {B B' : Nat} {v : Value} {rs : List Rw} {l : List Cl} (h : OwnT w B' v rs l) (hB : B ≤ B') : OwnT w B v rs l := ⟨own_less h.1 hB, h.2.less hB⟩
theorem TxtOwn.grown {w w' : World} {B : Nat} {q g : Option Nat} {rs : List Rw} {l : List Cl} (h : TxtOwn w B q rs l) (hg : w.grownBy w' g) (hn : ∀ k, k < rs.length → ∀ b, (rwT (rs.getD k rw0)).ownBlock = some b → g ≠ some b) : TxtOwn w' B q rs l :=
  ⟨h.1, fun k hk => by obtain ⟨h0, h1, h2, h3, h4⟩ := h.2.1 k hk; exact ⟨h0, h1, h2, h3, own_grown h4 hg (hn k hk)⟩, h.2.2⟩
theorem TxtOwn.set {w : World} {B : Nat} {q : Option Nat} {rs : List Rw} {l : List Cl} (h : TxtOwn w B q rs l) (p : Addr) (u : Value) (hq : q = some p.block) : TxtOwn (w.setCell p u) B q rs l :=
  ⟨h.1, fun k hk => by obtain ⟨h0, h1, h2, h3, h4⟩ := h.2.1 k hk; exact ⟨h0, h1, h2, h3, own_set h4 p u (fun e => h.2.2.1 k hk _ e hq)⟩, h.2.2⟩
theorem TxtOwn.anew {w : World} {B B' : Nat} {q : Option Nat} {rs rs' : List Rw} {l : List Cl} {v : Value} (h : TxtOwn w B q rs l) (ho : OwnR w B' v rs') : TxtOwn w B v.ownBlock rs l :=
  ⟨h.1, h.2.1, fun k hk g hg => own_kinds ho (h.2.1 k hk).2.2.2.2 (by decide) g hg, h.2.2.2⟩
theorem TxtOwn.setLow {w : World} {B : Nat} {q : Option Nat} {rs : List Rw} {l : List Cl} (h : TxtOwn w B q rs l) (p : Addr) (u : Value) (hp : p.block < B) : TxtOwn (w.setCell p u) B q rs l :=
  ⟨h.1, fun k hk => by obtain ⟨h0, h1, h2, h3, h4⟩ := h.2.1 k hk; exact ⟨h0, h1, h2, h3, own_set h4 p u (fun e => by have := (own_lt h4 e).1; omega)⟩, h.2.2⟩
theorem TxtOwn.rowLow {w : World} {B : Nat} {q : Option Nat} {rs : List Rw} {l : List Cl} (h : TxtOwn w B q rs l) (g : Nat) (cs : Array Value) (hp : g < B) : TxtOwn (w.setRow g cs) B q rs l :=
  ⟨h.1, fun k hk => by obtain ⟨h0, h1, h2, h3, h4⟩ := h.2.1 k hk; exact ⟨h0, h1, h2, h3, own_row h4 g cs (fun e => by have := (own_lt h4 e).1; omega)⟩, h.2.2⟩
theorem getD_snoc_lt {α : Type} (l : List α) (x d : α) (k : Nat) (h : k < l.length) : (l ++ [x]).getD k d = l.getD k d := by simp [List.getD, List.getElem?_append_left h]
theorem getD_snoc_eq {α : Type} (l : List α) (x d : α) (k : Nat) (h : k = l.length) : (l ++ [x]).getD k d = x := by subst h; simp [List.getD]
theorem TxtOwn.nil (w : World) (B : Nat) (q : Option Nat) : TxtOwn w B q [] [] := ⟨rfl, fun k hk => by simp at hk, fun k hk => by simp at hk, fun i k _ hk => by simp at hk⟩
/-- A row more, whose text lies where nothing lay. -/
theorem TxtOwn.snoc {w : World} {B C : Nat} {q : Option Nat} {rs : List Rw} {l : List Cl} {x : Rw} {y : Cl} (h : TxtOwn w B q rs l) (hx : RwOwn w B x y) (hq : ∀ g, (rwT x).ownBlock = some g → q ≠ some g)
    (hlt : ∀ k, k < rs.length → ∀ g, (rwT (rs.getD k rw0)).ownBlock = some g → g < C) (hge : ∀ g, (rwT x).ownBlock = some g → C ≤ g) : TxtOwn w B q (rs ++ [x]) (l ++ [y]) := by
  obtain ⟨e, h1, h2, h3⟩ := h
  refine ⟨by simp [e], fun k hk => ?_, fun k hk => ?_, fun i k hik hk => ?_⟩
  · by_cases hlt : k < rs.length
    · rw [getD_snoc_lt _ _ _ _ hlt, getD_snoc_lt _ _ _ _ (by omega)]
      exact h1 k hlt
    · have hk' : k = rs.length := by simp at hk; omega
      rw [getD_snoc_eq _ _ _ _ hk', getD_snoc_eq _ _ _ _ (by omega)]
      exact hx
  · by_cases hlt : k < rs.length
    · rw [getD_snoc_lt _ _ _ _ hlt]
      exact h2 k hlt
    · have hk' : k = rs.length := by simp at hk; omega
      rw [getD_snoc_eq _ _ _ _ hk']
      exact hq
  · by_cases hlt' : k < rs.length
    · rw [getD_snoc_lt _ _ _ _ hlt', getD_snoc_lt _ _ _ _ (by omega)]
      exact h3 i k hik hlt'
    · have hk' : k = rs.length := by simp at hk; omega
      rw [getD_snoc_eq _ _ _ _ hk', getD_snoc_lt _ _ _ _ (by omega)]
      exact fun _ hg hg' => absurd (hlt i (by omega) _ hg) (Nat.not_lt.2 (hge _ hg'))
theorem TxtOwn.blockLt {w : World} {B : Nat} {q : Option Nat} {rs : List Rw} {l : List Cl} (h : TxtOwn w B q rs l) : ∀ k, k < rs.length → ∀ g, (rwT (rs.getD k rw0)).ownBlock = some g → g < w.heap.size :=
  fun k hk _ hg => (own_lt (h.2.1 k hk).2.2.2.2 hg).2
end Go.Proofs.Yteghidjbcpmfbaa
