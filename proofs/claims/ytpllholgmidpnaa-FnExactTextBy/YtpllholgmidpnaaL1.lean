import Derived.Test.YtpllholgmidpnaaBA1
import Derived.Deep.LoopGhost
import Derived.Deep.RegionHeld3
import Derived.Deep.AppendLies
import Derived.Deep.QuietTactic
import Derived.BigQuiet
namespace Go.Proofs.Ytpllholgmidpnaa
open Go.RowKit

/-- What is owned stays owned where all that was there is as it was. -/
theorem own_below {w w' : World} {B e size n : Nat} {v : Value} {xs : List Value} (h : w.ownsRow B e size v n xs) (hb : Below w.heap.size w w') : w'.ownsRow B e size v n xs := by
  refine ⟨h.1, ?_⟩
  rcases h.2 with hn | ⟨g, cap, cur, rfl, hg, hgg, rest⟩
  · exact .inl hn
  · exact .inr ⟨g, cap, cur, rfl, hg, by rw [hb.block g (Array.getElem?_eq_some_iff.1 hgg).1]; exact hgg, rest⟩

/-- The cells of a list of signs, one behind the other. -/
def sgCells (s : Sg) : List Value := [.int .u8 s.1, .int .i64 s.2.1, .int .i64 s.2.2]
def flat (l : List Sg) : List Value := l.flatMap sgCells

theorem flat_length (l : List Sg) : (flat l).length = l.length * 3 := by
  induction l with
  | nil => rfl
  | cons s l ih =>
    show (sgCells s ++ flat l).length = _
    rw [List.length_append, ih]
    simp [sgCells]; omega

theorem flat_append (a b : List Sg) : flat (a ++ b) = flat a ++ flat b := by simp [flat]

theorem flat_get (l : List Sg) : ∀ (k : Nat), k < l.length → (flat l)[k * 3]? = some (.int .u8 (l.getD k (0, 0, 0)).1) ∧ (flat l)[k * 3 + 1]? = some (.int .i64 (l.getD k (0, 0, 0)).2.1) ∧ (flat l)[k * 3 + 2]? = some (.int .i64 (l.getD k (0, 0, 0)).2.2) := by
  induction l with
  | nil => intro k h; simp at h
  | cons s l ih =>
    intro k hk
    show (sgCells s ++ flat l)[k * 3]? = _ ∧ (sgCells s ++ flat l)[k * 3 + 1]? = _ ∧ (sgCells s ++ flat l)[k * 3 + 2]? = _
    cases k with
    | zero => simp [sgCells]
    | succ k =>
      have := ih k (by simpa using hk)
      rw [show (k + 1) * 3 = k * 3 + 3 by omega, show k * 3 + 3 + 1 = k * 3 + 1 + 3 by omega, show k * 3 + 3 + 2 = k * 3 + 2 + 3 by omega]
      rw [List.getElem?_append_right (by simp [sgCells]), List.getElem?_append_right (by simp [sgCells]), List.getElem?_append_right (by simp [sgCells])]
      simpa [sgCells] using this

/-- A row that owns a list of signs reads as it. -/
theorem txt_of_own {w : World} {B g n cap e : Nat} {l : List Sg} (h : w.ownsRow B e 3 (.slice (some ⟨g, 0, none⟩) n cap) n (flat l)) : Txt w (some ⟨g, 0, none⟩) n cap l := by
  have hlen := h.1
  rw [flat_length] at hlen
  have hn : n = l.length := by omega
  rcases h.2 with ⟨h', _⟩ | ⟨g', cap', cur, h', _, hg, hnc, hcm, _, _⟩
  · simp at h'
  · simp only [Value.slice.injEq, Option.some.injEq, Addr.mk.injEq, and_true, true_and] at h'
    obtain ⟨rfl, rfl⟩ := h'
    refine ⟨hn, hnc, hcm, .inr ⟨g, 0, rfl, (Array.getElem?_eq_some_iff.1 hg).1, ?_⟩⟩
    intro k hk
    obtain ⟨a, b, c⟩ := flat_get l k hk
    rw [Nat.zero_add]
    exact ⟨(h.cellAt (k * 3) (by omega)).trans a, (h.cellAt (k * 3 + 1) (by omega)).trans b, (h.cellAt (k * 3 + 2) (by omega)).trans c⟩

theorem take_set3 (xs : List Value) (k : Nat) (a b c : Value) (h : k * 3 + 3 ≤ xs.length) :
    (((xs.set (k * 3) a).set (k * 3 + 1) b).set (k * 3 + 2) c).take ((k + 1) * 3) = xs.take (k * 3) ++ [a, b, c] := by
  apply List.ext_getElem?
  intro j
  by_cases h1 : j < k * 3
  · rw [List.getElem?_take, if_pos (by omega), List.getElem?_set_ne (by omega), List.getElem?_set_ne (by omega), List.getElem?_set_ne (by omega), List.getElem?_append_left (by simp; omega), List.getElem?_take, if_pos h1]
  · rw [List.getElem?_append_right (by simp; omega)]
    have e : (xs.take (k * 3)).length = k * 3 := by simp; omega
    rw [e, List.getElem?_take]
    rcases (show j = k * 3 ∨ j = k * 3 + 1 ∨ j = k * 3 + 2 ∨ k * 3 + 3 ≤ j from by omega) with rfl | rfl | rfl | hj
    · rw [if_pos (by omega), List.getElem?_set_ne (by omega), List.getElem?_set_ne (by omega), List.getElem?_set_self (by omega)]; simp
    · rw [if_pos (by omega), List.getElem?_set_ne (by omega), List.getElem?_set_self (by simp; omega), show k * 3 + 1 - k * 3 = 1 by omega]; simp
    · rw [if_pos (by omega), List.getElem?_set_self (by simp; omega), show k * 3 + 2 - k * 3 = 2 by omega]; simp
    · rw [if_neg (by omega), List.getElem?_eq_none (by simp; omega)]

theorem flat_take_succ (l : List Sg) (k : Nat) (hk : k < l.length) : flat (l.take (k + 1)) = flat (l.take k) ++ sgCells (l.getD k (0, 0, 0)) := by
  rw [List.take_succ_eq_append_getElem hk, flat_append]
  simp [flat, List.getD, hk]

theorem Try.info30 : (Try.prog.info? 30).map (fun i => (i.zero, i.size, i.bytes)) = some (some (.agg #[.int .u8 0, .int .i64 0, .int .i64 0]), 3, 24) := by kernel_rfl

theorem cell_three_new (w : World) (x y z : Value) (t : TypeId) : ∀ j u, [x, y, z][j]? = some u → (w.alloc (.cells #[x, y, z] t)).cell? ((⟨w.heap.size, 0, none⟩ : Addr).add j) = some u := by
  intro j u hj
  match j, hj with
  | 0, hj => simp at hj; subst hj; simp [Addr.add]
  | 1, hj => simp at hj; subst hj; simp [Addr.add]
  | 2, hj => simp at hj; subst hj; simp [Addr.add]
  | (j + 3), hj => simp at hj

theorem three_oneCell (a b c : Int) : ∀ u ∈ [Value.int .u8 a, .int .i64 b, .int .i64 c], u.oneCell' = true := by
  intro u hu
  simp at hu
  rcases hu with rfl | rfl | rfl <;> rfl

/-- A value that owns a list of signs. -/
def Own (w : World) (B : Nat) (v : Value) (l : List Sg) : Prop := w.ownsRow B 30 3 v l.length (flat l)

theorem Own.shape {w : World} {B : Nat} {v : Value} {l : List Sg} (h : Own w B v l) : ∃ a cap, v = .slice a l.length cap ∧ Txt w a l.length cap l := by
  have h' := h
  unfold Own at h'
  rcases h'.2 with ⟨rfl, h0⟩ | ⟨g, cap, cur, rfl, r⟩
  · have : l = [] := List.eq_nil_of_length_eq_zero h0
    subst this
    exact ⟨none, 0, rfl, rfl, Nat.le_refl _, Nat.zero_le _, .inl rfl⟩
  · exact ⟨_, _, rfl, txt_of_own h'⟩

theorem Own.below {w w' : World} {B : Nat} {v : Value} {l : List Sg} (h : Own w B v l) (hb : Below w.heap.size w w') : Own w' B v l := own_below h hb
theorem Own.nil (w : World) (B : Nat) : Own w B (.slice none 0 0) [] := World.ownsRow_nil _ _ _ _
theorem Own.snoc {w : World} {B : Nat} {v : Value} {l : List Sg} {s : Sg} {n : Nat} {xs : List Value} (h : w.ownsRow B 30 3 v n xs) (hn : n = l.length + 1) (hx : xs = flat l ++ sgCells s) : Own w B v (l ++ [s]) := by
  subst hn hx
  unfold Own
  rw [flat_append, List.length_append]
  have : flat [s] = sgCells s := by simp [flat]
  rw [this]
  exact h

theorem Own.shapeN {w : World} {B : Nat} {v : Value} {l : List Sg} (h : Own w B v l) {n : Nat} (hn : l.length = n) : ∃ a cap, v = .slice a n cap := by
  obtain ⟨a, cap, rfl, _⟩ := h.shape
  exact ⟨a, cap, by rw [hn]⟩
theorem Own.txt {w : World} {B : Nat} {a : Option Addr} {n cap : Nat} {l : List Sg} (h : Own w B (.slice a n cap) l) : Txt w a n cap l := by
  obtain ⟨a', cap', he, ht⟩ := h.shape
  simp only [Value.slice.injEq] at he
  obtain ⟨rfl, rfl, rfl⟩ := he
  exact ht
theorem Own.len {w : World} {B : Nat} {a : Option Addr} {n cap : Nat} {l : List Sg} (h : Own w B (.slice a n cap) l) : n = l.length := h.txt.1
theorem Own.row {w : World} {B : Nat} {a : Option Addr} {n cap : Nat} {l : List Sg} (h : Own w B (.slice a n cap) l) : w.ownsRow B 30 3 (.slice a n cap) n (flat l) := by
  have := h.len
  subst this
  exact h

/-- A sign more behind an owned list: what the append leaves. -/
theorem own_step {B : Nat} {w wr w1 : World} {a : Option Addr} {k c : Nat} {v' : Value} {l : List Sg} {s : Sg} {o : Obj} (ho : Own wr B (.slice a k c) l) (hbl : Below B w wr) (hB : B ≤ wr.heap.size)
    (hown : w1.ownsRow B 30 3 v' (k + 1) (flat l ++ sgCells s)) (hgrow : (wr.alloc o).grownBy w1 (Value.slice a k c).ownBlock) :
    ∃ a' c', v' = .slice a' (k + 1) c' ∧ Own w1 B (.slice a' (k + 1) c') (l ++ [s]) ∧ Below B w w1 := by
  have hk := ho.len
  have h1 : Own w1 B v' (l ++ [s]) := Own.snoc hown (by omega) rfl
  obtain ⟨a', c', rfl⟩ := h1.shapeN (n := k + 1) (by simp; omega)
  refine ⟨a', c', rfl, h1, ?_⟩
  exact (hbl.alloc hB _).grown hgrow (by simp; omega) (fun q hq => (ho.row.lt q hq).1)

theorem Own.emptyNew (w : World) (B : Nat) (hB : B ≤ w.heap.size) : Own (w.alloc (.cells #[] 30)) B (.slice (some ⟨w.heap.size, 0, none⟩) 0 0) [] :=
  World.ownsRow_made w #[] 0 hB (Nat.zero_le _) rfl

theorem grown_of_drew {w w' : World} {r : Option Nat} (h : w.drew.grownBy w' r) : w.grownBy w' r := ⟨h.os, h.tape, h.output, h.size, h.block⟩
theorem Own.alloc {w : World} {B : Nat} {v : Value} {l : List Sg} (h : Own w B v l) (o : Obj) : Own (w.alloc o) B v l := World.ownsRow.alloc h o
end Go.Proofs.Ytpllholgmidpnaa
namespace Go.Proofs.Ytpllholgmidpnaa
open Go.RowKit

theorem implTextOk_is {a : Option Addr} {n cap : Nat} {l : List Sg} {w : World} {x : Bool} (h : Txt w a n cap l) (hx : textB l = x) :
    Calls Try.prog 26 #[.slice a n cap] w fun e w' => e = .returned (.bool x) ∧ Below w.heap.size w w' := hx ▸ implTextOk_any a n cap l w h
end Go.Proofs.Ytpllholgmidpnaa
namespace Go.Proofs.Ytpllholgmidpnaa
open Go.RowKit

/-- A person is in a set of people. -/
def hasB (p n : Int) : Bool := bits BinOp.and IntKind.u8 p (personN n) != 0
def woN (p n : Int) : Int := if hasB p n then 0 else n

set_option maxHeartbeats 400000 in
theorem has_any (p n : Int) (w : World) :
    Calls Try.prog 41 #[.int .u8 p, .int .i64 n] w fun e w' => e = .returned (.bool (hasB p n)) ∧ w' = w := by
  go_enter Try.func41, Try.ntmps41
  go_wp2_with (go_at_call 40; refine (person_any _ _).mono ?_; rintro e w' ⟨rfl, rfl⟩)
  go_ret
  exact ⟨rfl, rfl⟩

theorem has_is {p n : Int} {x : Bool} (h : hasB p n = x) (w : World) : Calls Try.prog 41 #[.int .u8 p, .int .i64 n] w fun e w' => e = .returned (.bool x) ∧ w' = w := h ▸ has_any p n w

theorem textB_len {l : List Sg} (h : textB l = true) : l.length ≤ 24 := by
  simp [textB] at h
  exact h.1
theorem sgB_parts {s : Sg} (h : sgB s = true) : byteB s.1 = true ∧ whoB s.2.1 = true ∧ whoB s.2.2 = true ∧ (s.2.2 = 0 ∨ s.2.1 ≠ s.2.2) := by
  simp [sgB, signB] at h
  exact ⟨h.1.1.1, h.1.1.2, h.1.2, h.2⟩
theorem textB_all {l : List Sg} (h : textB l = true) : ∀ s ∈ l, sgB s = true := by
  simp [textB] at h
  exact fun s hs => h.2 s.1 s.2.1 s.2.2 hs
end Go.Proofs.Ytpllholgmidpnaa
namespace Go.Proofs.Ytpllholgmidpnaa
open Go.RowKit

/-- A value that owns a list of ints. -/
def OwnI (w : World) (B : Nat) (v : Value) (ns : List Int) : Prop := w.ownsRow B 3 1 v ns.length (ns.map (Value.int .i64))
theorem OwnI.shape {w : World} {B : Nat} {v : Value} {ns : List Int} (h : OwnI w B v ns) : ∃ a cap, v = .slice a ns.length cap := by
  have h' := h
  unfold OwnI at h'
  rcases h'.2 with ⟨rfl, h0⟩ | ⟨g, cap, cur, rfl, r⟩
  · exact ⟨none, 0, by rw [h0]⟩
  · exact ⟨_, _, rfl⟩
theorem OwnI.below {w w' : World} {B : Nat} {v : Value} {l : List Int} (h : OwnI w B v l) (hb : Below w.heap.size w w') : OwnI w' B v l := own_below h hb
theorem OwnI.base {w : World} {B B' : Nat} {v : Value} {l : List Int} (h : OwnI w B' v l) (hB : B ≤ B') : OwnI w B v l :=
  ⟨h.1, h.2.elim .inl (fun ⟨g, cap, cur, x, y, z⟩ => .inr ⟨g, cap, cur, x, Nat.le_trans hB y, z⟩)⟩
theorem OwnI.nil (w : World) (B : Nat) : OwnI w B (.slice none 0 0) [] := World.ownsRow_nil _ _ _ _
theorem OwnI.alloc {w : World} {B : Nat} {v : Value} {l : List Int} (h : OwnI w B v l) (o : Obj) : OwnI (w.alloc o) B v l := World.ownsRow.alloc h o
theorem OwnI.len {w : World} {B : Nat} {a : Option Addr} {n cap : Nat} {l : List Int} (h : OwnI w B (.slice a n cap) l) : n = l.length := by
  obtain ⟨a', c', he⟩ := h.shape
  simp only [Value.slice.injEq] at he
  exact he.2.1
theorem OwnI.row {w : World} {B : Nat} {a : Option Addr} {n cap : Nat} {l : List Int} (h : OwnI w B (.slice a n cap) l) : w.ownsRow B 3 1 (.slice a n cap) n (l.map (Value.int .i64)) := by
  have := h.len
  subst this
  exact h
theorem ownI_step {B : Nat} {w wr w1 : World} {a : Option Addr} {k c : Nat} {v' : Value} {l : List Int} {x : Int} {o : Obj} (ho : OwnI wr B (.slice a k c) l) (hbl : Below B w wr) (hB : B ≤ wr.heap.size)
    (hown : w1.ownsRow B 3 1 v' (k + 1) (l.map (Value.int .i64) ++ [.int .i64 x])) (hgrow : (wr.alloc o).grownBy w1 (Value.slice a k c).ownBlock) :
    ∃ a' c', v' = .slice a' (k + 1) c' ∧ OwnI w1 B (.slice a' (k + 1) c') (l ++ [x]) ∧ Below B w w1 := by
  have hk := ho.len
  have h1 : OwnI w1 B v' (l ++ [x]) := by
    unfold OwnI
    rw [List.length_append, List.map_append, show l.length + [x].length = k + 1 by simp; omega]
    exact hown
  obtain ⟨a', c', rfl⟩ := h1.shape
  have e : (l ++ [x]).length = k + 1 := by simp; omega
  rw [e] at h1 ⊢
  refine ⟨a', c', rfl, h1, ?_⟩
  exact (hbl.alloc hB _).grown hgrow (by simp; omega) (fun q hq => (ho.row.lt q hq).1)
theorem cell_new1 (w : World) (x : Value) (t : TypeId) : ∀ j u, [x][j]? = some u → (w.alloc (.cells #[x] t)).cell? ((⟨w.heap.size, 0, none⟩ : Addr).add j) = some u := by
  intro j u hj
  match j, hj with
  | 0, hj => simp at hj; subst hj; simp [Addr.add]
  | (j + 1), hj => simp at hj
theorem int_oneCell (x : Int) : ∀ u ∈ [Value.int .i64 x], u.oneCell' = true := by
  intro u hu
  simp at hu
  subst hu
  rfl
theorem Try.info3 : (Try.prog.info? 3).map (fun i => (i.zero, i.size, i.bytes)) = some (some (.int .i64 0), 1, 8) := by kernel_rfl

/-- 1 up to k - 1, those in the set. -/
def listTo (p : Int) (k : Nat) : List Int := ((List.range (k - 1)).map fun i : Nat => ((i : Int) + 1)).filter (hasB p)
def peopleL (p : Int) : List Int := listTo p 4
theorem listTo_yes (p : Int) (k : Nat) (h1 : 1 ≤ k) (h : hasB p (k : Int) = true) : listTo p (k + 1) = listTo p k ++ [(k : Int)] := by
  unfold listTo
  obtain ⟨j, rfl⟩ : ∃ j, k = j + 1 := ⟨k - 1, by omega⟩
  rw [show j + 1 + 1 - 1 = j + 1 by omega, List.range_succ, List.map_append, List.filter_append]
  have h' : hasB p ((j : Int) + 1) = true := by simpa using h
  simp [h']
theorem listTo_no (p : Int) (k : Nat) (h1 : 1 ≤ k) (h : hasB p (k : Int) = false) : listTo p (k + 1) = listTo p k := by
  unfold listTo
  obtain ⟨j, rfl⟩ : ∃ j, k = j + 1 := ⟨k - 1, by omega⟩
  rw [show j + 1 + 1 - 1 = j + 1 by omega, List.range_succ, List.map_append, List.filter_append]
  have h' : hasB p ((j : Int) + 1) = false := by simpa using h
  simp [h']

set_option maxRecDepth 100000 in
set_option maxHeartbeats 1000000 in
theorem list_any (p : Int) (w : World) :
    Calls Try.prog 28 #[.int .u8 p] w fun e w' => ∃ v, e = .returned v ∧ OwnI w' w.heap.size v (peopleL p) ∧ Below w.heap.size w w' := by
  obtain ⟨i0, hi, hz0, hz1, hz2⟩ := info_parts Try.info3
  go_enter Try.func28, Try.ntmps28
  go_wp2_with fail
  go_loopw [3, 4] (fun v i wr => ∃ (k : Nat) (a : Option Addr) (m c : Nat), 1 ≤ k ∧ k ≤ 4 ∧ i = .int .i64 (k : Int) ∧ v = .slice a m c ∧ m ≤ k ∧ OwnI wr w.heap.size (.slice a m c) (listTo p k) ∧ Below w.heap.size w wr) (fun _ i _ => 4 - (intOf i).toNat)
  case atStart => exact ⟨1, none, 0, 0, Nat.le_refl _, by omega, rfl, rfl, by omega, by simpa [listTo] using OwnI.nil _ _, Below.refl _ _⟩
  case round =>
    obtain ⟨k, a, m, c, hk1, hk4, rfl, rfl, hmk, ho, hbl⟩ := hrel
    have hsz := hbl.size
    have HO : Hid (OwnI wr w.heap.size (.slice a m c) (listTo p k)) := ho
    clear ho
    by_cases hlt : k ≤ 3
    · cases hq : hasB p (k : Int)
      · go_wp2_with (go_at_call 41; refine (has_is hq _).mono ?_; rintro e w1 ⟨rfl, rfl⟩)
        go_roundw
        case rel => exact ⟨k + 1, a, m, c, by omega, by omega, by go_num, rfl, by omega, by rw [listTo_no p k hk1 hq]; exact HO.out, hbl⟩
        case measure => simp [intOf]; omega
      · go_wp2_with (first | (go_at_call 41; refine (has_is hq _).mono ?_; rintro e w1 ⟨rfl, rfl⟩) | (at_builtin; refine wpList_append_own _ rfl (.tmp 12) (.tmp 14) 25 rfl w.heap.size 3 i0 (.int .i64 0) 1 8 Try.underlying25 hi hz0 hz1 hz2 rfl (by decide) (.slice a m c) _ _ rfl (HO.out.row.alloc _) ⟨_, 0, none⟩ 1 1 [.int .i64 (k : Int)] rfl rfl (cell_new1 _ _ _) (int_oneCell _) (by unfold maxLen; omega) (by omega) (by simp; omega) ?_; intro v' w2 hown' hgrow _))
        obtain ⟨a', c', rfl, ho2, hb2⟩ := ownI_step (x := (k : Int)) HO.out hbl hsz hown' hgrow
        rw [← listTo_yes p k hk1 hq] at ho2
        go_roundw
        case rel => exact ⟨k + 1, a', m + 1, c', by omega, by omega, by go_num, rfl, by omega, ho2, hb2⟩
        case measure => simp [intOf]; omega
    · obtain rfl : k = 4 := by omega
      go_wp2_with fail
      go_ret
      exact ⟨_, rfl, HO.out, hbl⟩

def orB (a b : Int) : Int := bits BinOp.or IntKind.u8 a b
def maskL (l : List Sg) : Int := l.foldl (fun m s => orB m (orB (personN s.2.1) (personN s.2.2))) 0
theorem maskL_take_succ (l : List Sg) (k : Nat) (hk : k < l.length) : maskL (l.take (k + 1)) = orB (maskL (l.take k)) (orB (personN (l.getD k (0, 0, 0)).2.1) (personN (l.getD k (0, 0, 0)).2.2)) := by
  have e : l.getD k (0, 0, 0) = l[k] := by simp [List.getD, hk]
  rw [e]
  unfold maskL
  rw [List.take_succ_eq_append_getElem hk, List.foldl_append]
  rfl
def byL (l : List Sg) : List Int := if textB l then peopleL (maskL l) else []

set_option maxRecDepth 100000 in
set_option maxHeartbeats 1000000 in
theorem namedIn_any (a : Option Addr) (n cap : Nat) (l : List Sg) (w : World) (h : Txt w a n cap l) :
    Calls Try.prog 27 #[.slice a n cap] w fun e w' => e = .returned (.int .u8 (maskL l)) ∧ Below w.heap.size w w' := by
  obtain ⟨rfl, hc, hm, hl⟩ := h
  unfold maxLen at hm
  rcases hl with rfl | ⟨b, off, rfl, hbw, hl⟩
  · go_enter Try.func27, Try.ntmps27
    go_wp2_with fail
    refine wp_loop_rounds 1 ?_
    rw [rounds_succ]
    go_wp2_with fail
    go_ret
    exact ⟨rfl, Below.refl _ _⟩
  · go_enter Try.func27, Try.ntmps27
    go_wp2_with fail
    go_loopw [3, 8] (fun mv i wr => ∃ (k : Nat), k ≤ l.length ∧ i = .int .i64 (k : Int) ∧ mv = .int .u8 (maskL (l.take k)) ∧ Below w.heap.size w wr) (fun _ i _ => l.length - (intOf i).toNat)
    case atStart => exact ⟨0, Nat.zero_le _, rfl, by simp [maskL], Below.refl _ _⟩
    case round =>
      obtain ⟨k, hk, rfl, rfl, hbl⟩ := hrel
      have hsz := hbl.size
      by_cases hlt : k < l.length
      · obtain ⟨c0, c1, c2⟩ := (hl.below hbl hbw) k hlt
        clear hl
        obtain ⟨s, hs⟩ : ∃ s, s = l.getD k (0, 0, 0) := ⟨_, rfl⟩
        rw [← hs] at c0 c1 c2
        have HS : Hid (s = l.getD k (0, 0, 0)) := hs
        obtain ⟨M, hM⟩ : ∃ M, M = maskL (l.take k) := ⟨_, rfl⟩
        have HM : Hid (M = maskL (l.take k)) := hM
        rw [← hM]
        clear hs hM
        go_wp2_with fail
        go_quiet ((go_at_call 40; exact Calls.quiet_of_same (person_any _ _)))
        go_wp2_with fail
        go_roundw
        case rel => exact ⟨k + 1, by omega, by go_num, by rw [maskL_take_succ l k hlt, ← HS.out, ← HM.out]; rfl, below_drewN (hbl.alloc hsz _) _⟩
        case measure => simp [intOf]; omega
      · obtain rfl : k = l.length := by omega
        rw [List.take_of_length_le (Nat.le_refl _)]
        go_wp2_with fail
        go_ret
        exact ⟨rfl, hbl⟩

set_option maxRecDepth 100000 in
set_option maxHeartbeats 1000000 in
theorem implTextBy_any (a : Option Addr) (n cap : Nat) (l : List Sg) (w : World) (h : Txt w a n cap l) :
    Calls Try.prog 7 #[.slice a n cap] w fun e w' => ∃ v, e = .returned v ∧ OwnI w' w.heap.size v (byL l) ∧ Below w.heap.size w w' := by
  have HH : Hid (Txt w a n cap l) := h
  clear h
  cases htb : textB l
  · rw [show byL l = [] from by simp [byL, htb]]
    go_enter Try.func7, Try.ntmps7
    go_wp2_with (go_at_call 26; refine (implTextOk_is HH.out htb).mono ?_; rintro e w1 ⟨rfl, hb1⟩)
    go_ret
    exact ⟨_, rfl, OwnI.nil _ _, hb1⟩
  · rw [show byL l = peopleL (maskL l) from by simp [byL, htb]]
    go_enter Try.func7, Try.ntmps7
    go_wp2_with (go_at_call 26; refine (implTextOk_is HH.out htb).mono ?_; rintro e w1 ⟨rfl, hb1⟩)
    have s1 := hb1.size
    have H1 : Hid (Txt w1 a n cap l) := HH.out.below hb1
    go_wp2_with fail
    refine (namedIn_any _ _ _ _ _ H1.out).mono ?_
    rintro e w2 ⟨rfl, hb2⟩
    have s2 := hb2.size
    obtain ⟨M, HM⟩ : ∃ M, Hid (maskL l = M) := ⟨_, rfl⟩
    rw [HM.out]
    go_wp2_with fail
    refine (list_any _ _).mono ?_
    rintro e w3 ⟨v, rfl, ho, hb3⟩
    obtain ⟨a2, c2, rfl⟩ := ho.shape
    have HO : Hid (OwnI w3 w.heap.size (.slice a2 (peopleL M).length c2) (peopleL (maskL l))) := by
      show OwnI w3 w.heap.size (.slice a2 (peopleL M).length c2) (peopleL (maskL l))
      rw [HM.out]
      exact OwnI.base ho (by omega)
    go_wp2_with fail
    go_ret
    exact ⟨_, rfl, HO.out, (hb1.trans (hb2.mono s1)).trans (hb3.mono (by omega))⟩
end Go.Proofs.Ytpllholgmidpnaa
namespace Go.Proofs.Ytpllholgmidpnaa
open Go.RowKit

def isBy (n : Int) (s : Sg) : Bool := s.2.1 == n || s.2.2 == n
def anyL (n : Int) (l : List Sg) : Bool := l.any (isBy n)
def byTo (l : List Sg) (k : Nat) : List Int := ((List.range (k - 1)).map fun i : Nat => ((i : Int) + 1)).filter (fun n => anyL n l)
def specByL (l : List Sg) : List Int := if textB l then byTo l 4 else []
theorem byTo_yes (l : List Sg) (k : Nat) (h1 : 1 ≤ k) (h : anyL (k : Int) l = true) : byTo l (k + 1) = byTo l k ++ [(k : Int)] := by
  unfold byTo
  obtain ⟨j, rfl⟩ : ∃ j, k = j + 1 := ⟨k - 1, by omega⟩
  rw [show j + 1 + 1 - 1 = j + 1 by omega, List.range_succ, List.map_append, List.filter_append]
  have h' : anyL ((j : Int) + 1) l = true := by simpa using h
  simp [h']
theorem byTo_no (l : List Sg) (k : Nat) (h1 : 1 ≤ k) (h : anyL (k : Int) l = false) : byTo l (k + 1) = byTo l k := by
  unfold byTo
  obtain ⟨j, rfl⟩ : ∃ j, k = j + 1 := ⟨k - 1, by omega⟩
  rw [show j + 1 + 1 - 1 = j + 1 by omega, List.range_succ, List.map_append, List.filter_append]
  have h' : anyL ((j : Int) + 1) l = false := by simpa using h
  simp [h']
theorem anyL_take_succ (n : Int) (l : List Sg) (k : Nat) (hk : k < l.length) : anyL n (l.take (k + 1)) = (anyL n (l.take k) || isBy n (l.getD k (0, 0, 0))) := by
  have e : l.getD k (0, 0, 0) = l[k] := by simp [List.getD, hk]
  rw [e]
  unfold anyL
  rw [List.take_succ_eq_append_getElem hk, List.any_append]
  simp
theorem OwnI.emptyNew (w : World) (B : Nat) (hB : B ≤ w.heap.size) : OwnI (w.alloc (.cells #[] 3)) B (.slice (some ⟨w.heap.size, 0, none⟩) 0 0) [] :=
  World.ownsRow_made w #[] 0 hB (Nat.zero_le _) rfl

set_option maxRecDepth 100000 in
set_option maxHeartbeats 2000000 in
theorem specTextBy_any (a : Option Addr) (n cap : Nat) (l : List Sg) (w : World) (h : Txt w a n cap l) :
    Calls Try.prog 9 #[.slice a n cap] w fun e w' => ∃ v, e = .returned v ∧ OwnI w' w.heap.size v (specByL l) ∧ Below w.heap.size w w' := by
  have HH : Hid (Txt w a n cap l) := h
  have hcap := h.2.1
  have hcm := h.2.2.1
  unfold maxLen at hcm
  have HL : Hid (n = l.length) := h.1
  obtain ⟨i0, hi, hz0, hz1, hz2⟩ := info_parts Try.info3
  cases htb : textB l
  · rw [show specByL l = [] from by simp [specByL, htb]]
    have HB : Hid (textB l = false) := htb
    clear h htb
    go_enter Try.func9, Try.ntmps9
    go_wp2_with fail
    refine wp_loop_rounds 1 ?_
    rw [rounds_succ]
    go_wp2_with fail
    refine (specTextOk_is (HH.out.below ((Below.refl _ _).alloc (Nat.le_refl _) _)) HB.out).mono ?_
    rintro e w1 ⟨rfl, hb1⟩
    have HO : Hid (OwnI w1 w.heap.size (.slice (some ⟨w.heap.size, 0, none⟩) 0 0) []) := (OwnI.emptyNew w w.heap.size (Nat.le_refl _)).below hb1
    go_wp2_with fail
    go_ret
    exact ⟨_, rfl, HO.out, ((Below.refl _ _).alloc (Nat.le_refl _) _).trans (hb1.mono (by simp))⟩
  · rw [show specByL l = byTo l 4 from by simp [specByL, htb]]
    have HB : Hid (textB l = true) := htb
    have hn24 : n ≤ 24 := by rw [HL.out]; exact textB_len htb
    clear h htb
    go_enter Try.func9, Try.ntmps9
    go_wp2_with fail
    go_loopw [3, 4] (fun v i wr => ∃ (k : Nat) (a' : Option Addr) (m c : Nat), 1 ≤ k ∧ k ≤ 4 ∧ i = .int .i64 (k : Int) ∧ v = .slice a' m c ∧ m ≤ k ∧ OwnI wr w.heap.size (.slice a' m c) (byTo l k) ∧ Below w.heap.size w wr) (fun _ i _ => 4 - (intOf i).toNat)
    case atStart => exact ⟨1, some ⟨w.heap.size, 0, none⟩, 0, 0, Nat.le_refl _, by omega, rfl, rfl, by omega, by simpa [byTo] using OwnI.emptyNew w w.heap.size (Nat.le_refl _), (Below.refl _ _).alloc (Nat.le_refl _) _⟩
    case round =>
      obtain ⟨k, a', m, c, hk1, hk4, rfl, rfl, hmk, ho, hbl⟩ := hrel
      have hsz := hbl.size
      have HO : Hid (OwnI wr w.heap.size (.slice a' m c) (byTo l k)) := ho
      clear ho
      by_cases hlt : k ≤ 3
      · go_wp2_with fail
        refine (specTextOk_is (HH.out.below hbl) HB.out).mono ?_
        rintro e w1 ⟨rfl, hb1⟩
        have s1 := hb1.size
        have hb01 := hbl.trans (hb1.mono hsz)
        have HO1 : Hid (OwnI w1 w.heap.size (.slice a' m c) (byTo l k)) := HO.out.below hb1
        have HT1 : Hid (Txt w1 a n cap l) := HH.out.below hb01
        go_wp2_with fail
        go_loop [5, 6] (fun sv i => ∃ j : Nat, j ≤ n ∧ i = .int .i64 (j : Int) ∧ sv = .bool (anyL (k : Int) (l.take j))) (fun _ i => n - (intOf i).toNat)
        case atStart => exact ⟨0, Nat.zero_le _, rfl, rfl⟩
        case round =>
          obtain ⟨j, hj, rfl, rfl⟩ := hrel
          by_cases hjn : j < n
          · have hjl : j < l.length := by rw [← HL.out]; exact hjn
            have HSu : Hid (anyL (k : Int) (l.take (j + 1)) = (anyL (k : Int) (l.take j) || isBy (k : Int) (l.getD j (0, 0, 0)))) := anyL_take_succ _ l j hjl
            rcases HT1.out.2.2.2 with hnil | ⟨b, off, rfl, hbw, hcells⟩
            · rw [hnil] at hjl; exact absurd hjl (by simp)
            · obtain ⟨c0, c1, c2⟩ := hcells j hjl
              clear hcells
              obtain ⟨s, hs⟩ : ∃ s, s = l.getD j (0, 0, 0) := ⟨_, rfl⟩
              rw [← hs] at c0 c1 c2
              have HSg : Hid (s = l.getD j (0, 0, 0)) := hs
              clear hs
              cases hb : anyL (k : Int) (l.take j)
              · cases h1 : (s.2.1 == (k : Int))
                · cases h2 : (s.2.2 == (k : Int))
                  · have HN : Hid (anyL (k : Int) (l.take (j + 1)) = false) := by show _ = _; rw [HSu.out, hb, ← HSg.out]; simp [isBy, h1, h2]
                    clear hb
                    go_wp2_with fail
                    go_round
                    case rel => exact ⟨j + 1, by omega, by go_num, by rw [HN.out]⟩
                    case measure => simp [intOf]; omega
                  · have HN : Hid (anyL (k : Int) (l.take (j + 1)) = true) := by show _ = _; rw [HSu.out, hb, ← HSg.out]; simp [isBy, h1, h2]
                    clear hb
                    go_wp2_with fail
                    go_round
                    case rel => exact ⟨j + 1, by omega, by go_num, by rw [HN.out]⟩
                    case measure => simp [intOf]; omega
                · have HN : Hid (anyL (k : Int) (l.take (j + 1)) = true) := by show _ = _; rw [HSu.out, hb, ← HSg.out]; simp [isBy, h1]
                  clear hb
                  go_wp2_with fail
                  go_round
                  case rel => exact ⟨j + 1, by omega, by go_num, by rw [HN.out]⟩
                  case measure => simp [intOf]; omega
              · have HN : Hid (anyL (k : Int) (l.take (j + 1)) = true) := by show _ = _; rw [HSu.out, hb]; simp
                clear hb
                go_wp2_with fail
                go_round
                case rel => exact ⟨j + 1, by omega, by go_num, by rw [HN.out]⟩
                case measure => simp [intOf]; omega
          · obtain rfl : j = n := by omega
            have eL : l.take j = l := List.take_of_length_le (by rw [← HL.out]; exact Nat.le_refl _)
            rw [eL]
            clear eL
            cases hb : anyL (k : Int) l
            · have HN : Hid (byTo l (k + 1) = byTo l k) := byTo_no l k hk1 hb
              clear hb
              go_wp2_with fail
              go_roundw
              case rel => exact ⟨k + 1, a', m, c, by omega, by omega, by go_num, rfl, by omega, by rw [HN.out]; exact HO1.out, hb01⟩
              case measure => simp [intOf]; omega
            · have HN : Hid (byTo l (k + 1) = byTo l k ++ [(k : Int)]) := byTo_yes l k hk1 hb
              clear hb
              go_wp2_with (at_builtin; refine wpList_append_own _ rfl (.tmp 42) (.tmp 44) 25 rfl w.heap.size 3 i0 (.int .i64 0) 1 8 Try.underlying25 hi hz0 hz1 hz2 rfl (by decide) (.slice a' m c) _ _ rfl (HO1.out.row.alloc _) ⟨_, 0, none⟩ 1 1 [.int .i64 (k : Int)] rfl rfl (cell_new1 _ _ _) (int_oneCell _) (by unfold maxLen; omega) (by omega) (by simp; omega) ?_; intro v' w2 hown' hgrow _)
              obtain ⟨a2, c2, rfl, ho2, hb2⟩ := ownI_step (x := (k : Int)) HO1.out hb01 (by omega) hown' hgrow
              rw [← HN.out] at ho2
              go_roundw
              case rel => exact ⟨k + 1, a2, m + 1, c2, by omega, by omega, by go_num, rfl, by omega, ho2, hb2⟩
              case measure => simp [intOf]; omega
      · obtain rfl : k = 4 := by omega
        go_wp2_with fail
        go_ret
        exact ⟨_, rfl, HO.out, hbl⟩
end Go.Proofs.Ytpllholgmidpnaa
namespace Go.Proofs.Ytpllholgmidpnaa
open Go.RowKit

/-- A slice value that reads as the ints l. -/
def Ints (w : World) (a : Option Addr) (n cap : Nat) (l : List Int) : Prop :=
  n = l.length ∧ n ≤ cap ∧ cap ≤ maxLen ∧ (l = [] ∨ ∃ b off, a = some ⟨b, off, none⟩ ∧ b < w.heap.size ∧ ∀ i, i < l.length → w.cell? ⟨b, off + i, none⟩ = some (.int .i64 (l.getD i 0)))
theorem Ints.below {w w' : World} {a : Option Addr} {n cap : Nat} {l : List Int} (h : Ints w a n cap l) (hb : Below w.heap.size w w') : Ints w' a n cap l := by
  obtain ⟨h1, h2, h3, h4⟩ := h
  refine ⟨h1, h2, h3, ?_⟩
  rcases h4 with h4 | ⟨b, off, h5, h6, h7⟩
  · exact .inl h4
  · exact .inr ⟨b, off, h5, Nat.lt_of_lt_of_le h6 hb.size, fun i hi => (hb.cell (p := ⟨b, _, none⟩) h6).trans (h7 i hi)⟩
theorem OwnI.ints {w : World} {B : Nat} {a : Option Addr} {n cap : Nat} {l : List Int} (h : OwnI w B (.slice a n cap) l) : Ints w a n cap l := by
  have hn := h.len
  have hr := h.row
  rcases hr.2 with ⟨hv, h0⟩ | ⟨g, cap', cur, hv, hB, hg, hnc, hcm, _⟩
  · simp only [Value.slice.injEq] at hv
    obtain ⟨rfl, rfl, rfl⟩ := hv
    exact ⟨hn, Nat.le_refl _, Nat.zero_le _, .inl (List.eq_nil_of_length_eq_zero hn.symm)⟩
  · simp only [Value.slice.injEq, true_and] at hv
    obtain ⟨rfl, rfl⟩ := hv
    refine ⟨hn, hnc, hcm, .inr ⟨g, 0, rfl, (Array.getElem?_eq_some_iff.1 hg).1, fun i hi => ?_⟩⟩
    rw [Nat.zero_add, hr.cellAt i (by omega), List.getElem?_map, List.getElem?_eq_getElem hi]
    simp [List.getD, hi]
theorem OwnI.shapeL {w : World} {B : Nat} {v : Value} {l : List Int} (h : OwnI w B v l) : ∃ a n cap, v = .slice a n cap ∧ n = l.length := by
  obtain ⟨a, cap, rfl⟩ := h.shape
  exact ⟨a, _, cap, rfl, rfl⟩

/-! Plain facts. -/
theorem hasB_or {m i o n : Int} (hm : 0 ≤ m ∧ m ≤ 7) (hi : whoB i = true) (ho : whoB o = true) (hn : n = 1 ∨ n = 2 ∨ n = 3) :
    hasB (orB m (orB (personN i) (personN o))) n = (hasB m n || (i == n || o == n)) ∧ 0 ≤ orB m (orB (personN i) (personN o)) ∧ orB m (orB (personN i) (personN o)) ≤ 7 := by
  simp [whoB] at hi ho
  rcases (show m = 0 ∨ m = 1 ∨ m = 2 ∨ m = 3 ∨ m = 4 ∨ m = 5 ∨ m = 6 ∨ m = 7 from by omega) with rfl | rfl | rfl | rfl | rfl | rfl | rfl | rfl <;>
  rcases (show i = 0 ∨ i = 1 ∨ i = 2 ∨ i = 3 from by omega) with rfl | rfl | rfl | rfl <;>
  rcases (show o = 0 ∨ o = 1 ∨ o = 2 ∨ o = 3 from by omega) with rfl | rfl | rfl | rfl <;>
  rcases hn with rfl | rfl | rfl <;> exact ⟨by decide, by decide, by decide⟩

theorem mask_fold (l : List Sg) (hs : ∀ s ∈ l, sgB s = true) : ∀ m : Int, 0 ≤ m ∧ m ≤ 7 → ∀ n : Int, n = 1 ∨ n = 2 ∨ n = 3 →
    hasB (l.foldl (fun m s => orB m (orB (personN s.2.1) (personN s.2.2))) m) n = (hasB m n || anyL n l) := by
  induction l with
  | nil => intro m _ n _; simp [anyL]
  | cons s l ih =>
    intro m hm n hn
    obtain ⟨_, hi, ho, _⟩ := sgB_parts (hs s (by simp))
    obtain ⟨e, h0, h7⟩ := hasB_or hm hi ho hn
    rw [List.foldl_cons, ih (fun t ht => hs t (by simp [ht])) _ ⟨h0, h7⟩ n hn, e]
    simp [anyL, isBy, Bool.or_assoc]
theorem hasB_zero (n : Int) : hasB 0 n = false := by
  unfold hasB
  have : bits BinOp.and IntKind.u8 0 (personN n) = 0 := by
    unfold personN
    split
    · rfl
    · split
      · rfl
      · split <;> rfl
  rw [this]
  rfl
theorem mask_has {l : List Sg} (h : textB l = true) {n : Int} (hn : n = 1 ∨ n = 2 ∨ n = 3) : hasB (maskL l) n = anyL n l := by
  unfold maskL
  rw [mask_fold l (textB_all h) 0 ⟨by decide, by decide⟩ n hn, hasB_zero]
  rfl
theorem by_eq (l : List Sg) : byL l = specByL l := by
  unfold byL specByL
  cases h : textB l
  · rfl
  · rw [if_pos rfl, if_pos rfl]
    unfold peopleL listTo byTo
    refine List.filter_congr (fun n hn => ?_)
    have : n = 1 ∨ n = 2 ∨ n = 3 := by
      obtain ⟨i, hi, rfl⟩ := List.mem_map.1 hn
      have := List.mem_range.1 hi
      omega
    exact mask_has h this

theorem mem_by {l : List Sg} (h : textB l = true) {n : Int} (hn : n = 1 ∨ n = 2 ∨ n = 3) (ha : anyL n l = true) : n ∈ specByL l := by
  unfold specByL
  rw [h, if_pos rfl]
  unfold byTo
  refine List.mem_filter.2 ⟨?_, ha⟩
  rcases hn with rfl | rfl | rfl
  · exact List.mem_map.2 ⟨0, by decide, rfl⟩
  · exact List.mem_map.2 ⟨1, by decide, rfl⟩
  · exact List.mem_map.2 ⟨2, by decide, rfl⟩
theorem in_by {l : List Sg} (h : textB l = true) {s : Sg} (hs : s ∈ l) (h0 : 0 < s.2.1) : s.2.1 ∈ specByL l := by
  have hw := (sgB_parts (textB_all h s hs)).2.1
  simp [whoB] at hw
  exact mem_by h (by omega) (List.any_eq_true.2 ⟨s, hs, by simp [isBy]⟩)
theorem out_by {l : List Sg} (h : textB l = true) {s : Sg} (hs : s ∈ l) (h0 : 0 < s.2.2) : s.2.2 ∈ specByL l := by
  have hw := (sgB_parts (textB_all h s hs)).2.2.1
  simp [whoB] at hw
  exact mem_by h (by omega) (List.any_eq_true.2 ⟨s, hs, by simp [isBy]⟩)
theorem by_le (l : List Sg) : (specByL l).length ≤ 3 := by
  unfold specByL
  cases textB l
  · simp
  · rw [if_pos rfl]
    unfold byTo
    refine Nat.le_trans (List.length_filter_le _ _) ?_
    decide
theorem by_asc (l : List Sg) : ∀ i, i + 1 < (specByL l).length → (specByL l).getD i 0 < (specByL l).getD (i + 1) 0 := by
  unfold specByL
  cases textB l
  · intro i hi; simp at hi
  · rw [if_pos rfl]
    have e : byTo l 4 = ([1, 2, 3] : List Int).filter (fun n => anyL n l) := rfl
    rw [e]
    cases h1 : anyL 1 l <;> cases h2 : anyL 2 l <;> cases h3 : anyL 3 l <;> simp only [List.filter_cons, List.filter_nil, h1, h2, h3, if_true, Bool.false_eq_true, if_false] <;> intro i hi <;> (have hi' := hi; simp at hi') <;> (first | omega | (rcases (show i = 0 ∨ i = 1 from by omega) with rfl | rfl <;> first | decide | (exfalso; simp at hi)))

end Go.Proofs.Ytpllholgmidpnaa
namespace Go.Proofs.Ytpllholgmidpnaa
open Go.RowKit

theorem take_eq_int (l m : List Int) (k : Nat) (h : k < l.length) (hl : l.length = m.length) (he : l.take k = m.take k) (hs : l.getD k 0 = m.getD k 0) : l.take (k + 1) = m.take (k + 1) := by
  rw [List.take_succ_eq_append_getElem h, List.take_succ_eq_append_getElem (by omega), he]
  simp [List.getD, h, show k < m.length by omega] at hs
  rw [hs]

set_option maxRecDepth 100000 in
set_option maxHeartbeats 1000000 in
theorem eqIntS_any (a : Option Addr) (n cap : Nat) (l : List Int) (a' : Option Addr) (n' cap' : Nat) (m : List Int) (w : World) (h : Ints w a n cap l) (h' : Ints w a' n' cap' m) :
    Calls Try.prog 21 #[.slice a n cap, .slice a' n' cap'] w fun e w' => e = .returned (.bool (decide (l = m))) ∧ ∃ q, w' = w.drewN q := by
  obtain ⟨rfl, hc, hm, hl⟩ := h
  obtain ⟨rfl, hc', hm', hl'⟩ := h'
  unfold maxLen at hm hm'
  by_cases hlen : l.length = m.length
  · have hbq : ((l.length : Int) != (m.length : Int)) = false := by simp [hlen]
    rcases hl with rfl | ⟨b, off, rfl, hbw, hl⟩
    · obtain rfl : m = [] := List.eq_nil_of_length_eq_zero (by simpa using hlen.symm)
      go_enter Try.func21, Try.ntmps21
      go_wp2_with fail
      refine wp_loop_rounds 1 ?_
      rw [rounds_succ]
      go_wp2_with fail
      go_ret
      exact ⟨rfl, 0, rfl⟩
    · rcases hl' with rfl | ⟨b', off', rfl, hbw', hl'⟩
      · obtain rfl : l = [] := List.eq_nil_of_length_eq_zero (by simpa using hlen)
        go_enter Try.func21, Try.ntmps21
        go_wp2_with fail
        refine wp_loop_rounds 1 ?_
        rw [rounds_succ]
        go_wp2_with fail
        go_ret
        exact ⟨rfl, 0, rfl⟩
      · have HL : Hid (l.length = m.length) := hlen
        have hl1 : l.length ≤ m.length := by omega
        have hl2 : m.length ≤ l.length := by omega
        clear hlen
        go_enter Try.func21, Try.ntmps21
        go_wp2_with fail
        go_loopw [5] (fun i wr => ∃ (k q : Nat), k ≤ l.length ∧ i = .int .i64 k ∧ l.take k = m.take k ∧ wr = w.drewN q) (fun i _ => l.length - (intOf i).toNat)
        case atStart => exact ⟨0, 0, Nat.zero_le _, rfl, by simp, rfl⟩
        case round =>
          obtain ⟨k, q, hk, rfl, ht, rfl⟩ := hrel
          have HT : Hid (l.take k = m.take k) := ht
          clear ht
          by_cases hlt : k < l.length
          · have hlt' : k < m.length := by omega
            have hi1 : (k : Int) < (l.length : Int) := by omega
            have hi2 : (k : Int) < (m.length : Int) := by omega
            have c0 := hl k hlt
            have d0 := hl' k hlt'
            clear hl hl'
            obtain ⟨s, hs⟩ : ∃ s, s = l.getD k 0 := ⟨_, rfl⟩
            obtain ⟨t, ht⟩ : ∃ t, t = m.getD k 0 := ⟨_, rfl⟩
            rw [← hs] at c0
            rw [← ht] at d0
            have HS : Hid (s = l.getD k 0) := hs
            have HM : Hid (t = m.getD k 0) := ht
            clear hs ht
            by_cases hb : s = t
            · have HB : Hid (s = t) := hb
              have hbb : (s != t) = false := by simp [hb]
              clear hb
              go_wp2_with fail
              go_quiet (fail)
              go_wp2_with fail
              go_roundw
              case rel => exact ⟨k + 1, q + nq, by omega, by go_num, take_eq_int l m k hlt HL.out HT.out (by rw [← HS.out, ← HM.out]; exact HB.out), by first | rfl | rw [World.drewN_drewN]⟩
              case measure => simp [intOf]; omega
            · have HF : Hid (decide (l = m) = false) := decide_eq_false (fun e => hb (by rw [HS.out, HM.out, e]))
              have hbb : (s != t) = true := by simp [hb]
              clear hb
              go_wp2_with fail
              go_quiet (fail)
              go_wp2_with fail
              go_ret
              exact ⟨by rw [HF.out]; rfl, q + nq, by first | rfl | rw [World.drewN_drewN]⟩
          · go_wp2_with fail
            go_ret
            refine ⟨?_, q, rfl⟩
            have := HT.out
            rw [List.take_of_length_le (by omega), List.take_of_length_le (by omega)] at this
            rw [decide_eq_true this]; rfl
  · have hbq : ((l.length : Int) != (m.length : Int)) = true := by simp; omega
    rw [decide_eq_false (fun e => hlen (by rw [e]))]
    go_enter Try.func21, Try.ntmps21
    go_wp2_with fail
    go_ret
    exact ⟨rfl, 0, rfl⟩

theorem eqIntS_same {a : Option Addr} {n cap : Nat} {l : List Int} {a' : Option Addr} {n' cap' : Nat} {w : World} (h : Ints w a n cap l) (h' : Ints w a' n' cap' l) :
    Calls Try.prog 21 #[.slice a n cap, .slice a' n' cap'] w fun e w' => e = .returned (.bool true) ∧ Below w.heap.size w w' := by
  refine (eqIntS_any a n cap l a' n' cap' l w h h').mono ?_
  rintro e w' ⟨rfl, q, rfl⟩
  exact ⟨by simp, below_drewN (Below.refl _ _) _⟩

end Go.Proofs.Ytpllholgmidpnaa
namespace Go.Proofs.Ytpllholgmidpnaa
open Go.RowKit

/-- The sign that the marker lays at place i, from k on. -/
def mk (k : Int) (i : Nat) : Sg := ((k + 3 * i) % 256, k + 3 * i + 1, k + 3 * i + 1 + 1)
def marked (k : Int) (n : Nat) : List Sg := (List.range n).map (mk k)
theorem marked_len (k : Int) (n : Nat) : (marked k n).length = n := by simp [marked]
theorem marked_succ (k : Int) (n : Nat) : marked k (n + 1) = marked k n ++ [mk k n] := by simp [marked, List.range_succ]
theorem marked_get (k : Int) (n j : Nat) (h : j < n) : (marked k n).getD j (0, 0, 0) = mk k j := by simp [marked, List.getD, h]

theorem grown_refl (w : World) (r : Option Nat) : w.grownBy w r := ⟨rfl, rfl, rfl, Nat.le_refl _, fun _ _ _ => rfl⟩
theorem grown_setCell {w wr : World} {g : Nat} (h : w.grownBy wr (some g)) (o : Nat) (u : Value) : w.grownBy (wr.setCell ⟨g, o, none⟩ u) (some g) :=
  ⟨h.os, h.tape, h.output, Nat.le_trans h.size (by simp [World.setCell]), fun k hk hne => (Below.heap_setCell wr ⟨g, o, none⟩ u k (fun e => hne (by simp [e]))).trans (h.block k hk hne)⟩

theorem flat_set3 (A R : List Sg) (s t : Sg) : (((flat (A ++ s :: R)).set (A.length * 3) (.int .u8 t.1)).set (A.length * 3 + 1) (.int .i64 t.2.1)).set (A.length * 3 + 2) (.int .i64 t.2.2) = flat (A ++ [t] ++ R) := by
  have e1 : flat (A ++ s :: R) = flat A ++ (sgCells s ++ flat R) := by simp [flat]
  have e2 : flat (A ++ [t] ++ R) = flat A ++ (sgCells t ++ flat R) := by simp [flat]
  have hl := flat_length A
  rw [e1, e2, List.set_append_right _ _ (by omega), List.set_append_right _ _ (by omega), List.set_append_right _ _ (by omega), hl]
  simp [sgCells]

set_option maxHeartbeats 1000000 in
theorem markSignS_at (g n c : Nat) (l : List Sg) (k0 : Int) (B : Nat) (w : World) (h : Own w B (.slice (some ⟨g, 0, none⟩) n c) l) (hn : n ≤ 1048576) (h0 : 0 ≤ k0) (h1 : k0 ≤ 100000000) :
    Calls Try.prog 17 #[.slice (some ⟨g, 0, none⟩) n c, .int .i64 k0] w fun e w' => e = .returned (.int .i64 (k0 + 3 * n)) ∧ Own w' B (.slice (some ⟨g, 0, none⟩) n c) (marked k0 n) ∧ w.grownBy w' (some g) := by
  have hlen := h.len
  have hcap := h.txt.2.1
  have hcm := h.txt.2.2.1
  unfold maxLen at hcm
  have HO : Hid (w.ownsRow B 30 3 (.slice (some ⟨g, 0, none⟩) n c) n (flat l)) := h.row
  clear h
  subst hlen
  go_enter Try.func17, Try.ntmps17
  go_wp2_with fail
  go_loopw [1, 5] (fun kk i wr => ∃ (j : Nat), j ≤ l.length ∧ i = .int .i64 j ∧ kk = .int .i64 (k0 + 3 * j) ∧ wr.ownsRow B 30 3 (.slice (some ⟨g, 0, none⟩) l.length c) l.length (flat (marked k0 j ++ l.drop j)) ∧ w.grownBy wr (some g)) (fun _ i _ => l.length - (intOf i).toNat)
  case atStart => exact ⟨0, Nat.zero_le _, rfl, by simp, by simpa [marked] using HO.out, ⟨rfl, rfl, rfl, Nat.le_refl _, fun _ _ _ => rfl⟩⟩
  case round =>
    obtain ⟨j, hj, rfl, rfl, ho, hg⟩ := hrel
    by_cases hlt : j < l.length
    · have f0 := ho.frozenAt (j * 3)
      have f1 := ho.frozenAt (j * 3 + 1)
      have f2 := ho.frozenAt (j * 3 + 2)
      have hxl := ho.1
      obtain ⟨u0, d0⟩ : ∃ u, wr.cell? ⟨g, j * 3, none⟩ = some u := ⟨_, (ho.cellAt (j * 3) (by omega)).trans (List.getElem?_eq_getElem (by omega))⟩
      obtain ⟨u1, d1⟩ : ∃ u, wr.cell? ⟨g, j * 3 + 1, none⟩ = some u := ⟨_, (ho.cellAt (j * 3 + 1) (by omega)).trans (List.getElem?_eq_getElem (by omega))⟩
      obtain ⟨u2, d2⟩ : ∃ u, wr.cell? ⟨g, j * 3 + 2, none⟩ = some u := ⟨_, (ho.cellAt (j * 3 + 2) (by omega)).trans (List.getElem?_eq_getElem (by omega))⟩
      have HR : Hid (wr.ownsRow B 30 3 (.slice (some ⟨g, 0, none⟩) l.length c) l.length (flat (marked k0 j ++ l.drop j))) := ho
      clear ho hxl
      go_wp2_with fail
      go_roundw
      case rel =>
        obtain ⟨p0, _⟩ := HR.out.stored (j * 3) (.int .u8 (mk k0 j).1)
        obtain ⟨p1, _⟩ := p0.stored (j * 3 + 1) (.int .i64 (mk k0 j).2.1)
        obtain ⟨p2, _⟩ := p1.stored (j * 3 + 2) (.int .i64 (mk k0 j).2.2)
        refine ⟨j + 1, by omega, by go_num, ?_, ?_, grown_setCell (grown_setCell (grown_setCell hg _ _) _ _) _ _⟩
        · congr 1; omega
        · have e := flat_set3 (marked k0 j) (l.drop (j + 1)) (l[j]'hlt) (mk k0 j)
          rw [marked_len, ← List.drop_eq_getElem_cons hlt] at e
          rw [marked_succ, ← e]
          exact p2
      case measure => simp [intOf]; omega
    · obtain rfl : j = l.length := by omega
      rw [List.drop_of_length_le (Nat.le_refl _), List.append_nil] at ho
      go_wp2_with fail
      go_ret
      refine ⟨rfl, ?_, hg⟩
      unfold Own
      rw [marked_len]
      exact ho

set_option maxHeartbeats 1000000 in
theorem markSignS_nil (a : Option Addr) (c : Nat) (k0 : Int) (w : World) :
    Calls Try.prog 17 #[.slice a 0 c, .int .i64 k0] w fun e w' => e = .returned (.int .i64 k0) ∧ w' = w := by
  go_enter Try.func17, Try.ntmps17
  go_wp2_with fail
  refine wp_loop_rounds 1 ?_
  rw [rounds_succ]
  go_wp2_with fail
  go_ret
  exact ⟨rfl, rfl⟩

/-- The marker writes into what is owned alone. -/
theorem markSignS_any (a : Option Addr) (n c : Nat) (l : List Sg) (k0 : Int) (B : Nat) (w : World) (h : Own w B (.slice a n c) l) (hn : n ≤ 1048576) (h0 : 0 ≤ k0) (h1 : k0 ≤ 100000000) :
    Calls Try.prog 17 #[.slice a n c, .int .i64 k0] w fun e w' => e = .returned (.int .i64 (k0 + 3 * n)) ∧ Own w' B (.slice a n c) (marked k0 n) ∧ w.grownBy w' (Value.slice a n c).ownBlock := by
  have hl := h.len
  rcases h.row.2 with ⟨hv, h0'⟩ | ⟨g, cap, cur, hv, r⟩
  · simp only [Value.slice.injEq] at hv
    obtain ⟨rfl, rfl, rfl⟩ := hv
    refine (markSignS_nil _ _ k0 w).mono ?_
    rintro e w' ⟨rfl, rfl⟩
    exact ⟨by simp, by simpa [marked] using Own.nil _ _, grown_refl _ _⟩
  · simp only [Value.slice.injEq, true_and] at hv
    obtain ⟨rfl, rfl⟩ := hv
    exact markSignS_at g n c l k0 B w h hn h0 h1

set_option maxHeartbeats 2000000 in
theorem heldSignS_any (a : Option Addr) (n c : Nat) (k0 : Int) (w : World) (h : Txt w a n c (marked k0 n)) (hn : n ≤ 1048576) (h0 : 0 ≤ k0) (h1 : k0 ≤ 100000000) :
    Calls Try.prog 18 #[.slice a n c, .int .i64 k0] w fun e w' => e = .returned (.int .i64 (k0 + 3 * n)) ∧ w' = w := by
  obtain ⟨-, hc, hm, hl⟩ := h
  unfold maxLen at hm
  by_cases hz : n = 0
  · subst hz
    go_enter Try.func18, Try.ntmps18
    go_wp2_with fail
    refine wp_loop_rounds 1 ?_
    rw [rounds_succ]
    go_wp2_with fail
    go_ret
    exact ⟨by simp, rfl⟩
  · rcases hl with hl | ⟨b, off, rfl, hbw, hl⟩
    · exfalso
      have := marked_len k0 n
      rw [hl] at this
      exact hz this.symm
    · go_enter Try.func18, Try.ntmps18
      go_wp2_with fail
      go_loop [1, 5] (fun kk i => ∃ (j : Nat), j ≤ n ∧ i = .int .i64 j ∧ kk = .int .i64 (k0 + 3 * j)) (fun _ i => n - (intOf i).toNat)
      case atStart => exact ⟨0, Nat.zero_le _, rfl, by simp⟩
      case round =>
        obtain ⟨j, hj, rfl, rfl⟩ := hrel
        by_cases hlt : j < n
        · obtain ⟨c0, c1, c2⟩ := hl j (by rw [marked_len]; exact hlt)
          rw [marked_get k0 n j hlt] at c0 c1 c2
          clear hl
          simp only [mk] at c0 c1 c2
          go_wp2_with fail
          go_round
          case rel => exact ⟨j + 1, by omega, by go_num, by congr 1; omega⟩
          case measure => simp [intOf]; omega
        · obtain rfl : j = n := by omega
          go_wp2_with fail
          go_ret
          exact ⟨rfl, rfl⟩
end Go.Proofs.Ytpllholgmidpnaa
namespace Go.Proofs.Ytpllholgmidpnaa
open Go.RowKit

def markedI (k : Int) (n : Nat) : List Int := (List.range n).map fun i : Nat => k + i
theorem markedI_len (k : Int) (n : Nat) : (markedI k n).length = n := by simp [markedI]
theorem markedI_succ (k : Int) (n : Nat) : markedI k (n + 1) = markedI k n ++ [k + n] := by simp [markedI, List.range_succ]
theorem markedI_get (k : Int) (n j : Nat) (h : j < n) : (markedI k n).getD j 0 = k + j := by simp [markedI, List.getD, h]

theorem set_mark (k0 : Int) (j : Nat) (l : List Int) (hlt : j < l.length) :
    ((markedI k0 j ++ l.drop j).map (Value.int .i64)).set j (.int .i64 (k0 + j)) = (markedI k0 (j + 1) ++ l.drop (j + 1)).map (Value.int .i64) := by
  have e1 : (markedI k0 j ++ l.drop j).map (Value.int .i64) = (markedI k0 j).map (Value.int .i64) ++ (Value.int .i64 l[j] :: (l.drop (j + 1)).map (Value.int .i64)) := by
    rw [List.drop_eq_getElem_cons hlt, List.map_append, List.map_cons]
  have e2 : (markedI k0 (j + 1) ++ l.drop (j + 1)).map (Value.int .i64) = (markedI k0 j).map (Value.int .i64) ++ (Value.int .i64 (k0 + j) :: (l.drop (j + 1)).map (Value.int .i64)) := by
    rw [markedI_succ, List.map_append, List.map_append]
    simp
  have hl : ((markedI k0 j).map (Value.int .i64)).length = j := by rw [List.length_map, markedI_len]
  rw [e1, e2, List.set_append_right _ _ (by omega), hl, Nat.sub_self]
  rfl

set_option maxRecDepth 100000 in
set_option maxHeartbeats 1000000 in
theorem markIntS_at (g n c : Nat) (l : List Int) (k0 : Int) (B : Nat) (w : World) (h : OwnI w B (.slice (some ⟨g, 0, none⟩) n c) l) (hn : n ≤ 1048576) (h0 : 0 ≤ k0) (h1 : k0 ≤ 1048576) :
    Calls Try.prog 22 #[.slice (some ⟨g, 0, none⟩) n c, .int .i64 k0] w fun e w' => e = .returned (.int .i64 (k0 + n)) ∧ OwnI w' B (.slice (some ⟨g, 0, none⟩) n c) (markedI k0 n) ∧ w.grownBy w' (some g) := by
  have hlen := h.len
  have hcap := h.ints.2.1
  have hcm := h.ints.2.2.1
  unfold maxLen at hcm
  have HO : Hid (w.ownsRow B 3 1 (.slice (some ⟨g, 0, none⟩) n c) n (l.map (Value.int .i64))) := h.row
  clear h
  subst hlen
  go_enter Try.func22, Try.ntmps22
  go_wp2_with fail
  go_loopw [1, 5] (fun kk i wr => ∃ (j : Nat), j ≤ l.length ∧ i = .int .i64 j ∧ kk = .int .i64 (k0 + j) ∧ wr.ownsRow B 3 1 (.slice (some ⟨g, 0, none⟩) l.length c) l.length ((markedI k0 j ++ l.drop j).map (Value.int .i64)) ∧ w.grownBy wr (some g)) (fun _ i _ => l.length - (intOf i).toNat)
  case atStart => exact ⟨0, Nat.zero_le _, rfl, by simp, by simpa [markedI] using HO.out, ⟨rfl, rfl, rfl, Nat.le_refl _, fun _ _ _ => rfl⟩⟩
  case round =>
    obtain ⟨j, hj, rfl, rfl, ho, hg⟩ := hrel
    by_cases hlt : j < l.length
    · have f0 := ho.frozenAt j
      have hxl := ho.1
      obtain ⟨u0, d0⟩ : ∃ u, wr.cell? ⟨g, j, none⟩ = some u := ⟨_, (ho.cellAt j (by omega)).trans (List.getElem?_eq_getElem (by omega))⟩
      have HR : Hid (wr.ownsRow B 3 1 (.slice (some ⟨g, 0, none⟩) l.length c) l.length ((markedI k0 j ++ l.drop j).map (Value.int .i64))) := ho
      clear ho hxl
      go_wp2_with fail
      go_roundw
      case rel =>
        obtain ⟨p0, _⟩ := HR.out.stored j (.int .i64 (k0 + j))
        refine ⟨j + 1, by omega, by go_num, by congr 1; omega, ?_, grown_setCell hg _ _⟩
        have e := set_mark k0 j l hlt
        rw [← e]
        exact p0
      case measure => simp [intOf]; omega
    · obtain rfl : j = l.length := by omega
      rw [List.drop_of_length_le (Nat.le_refl _), List.append_nil] at ho
      go_wp2_with fail
      go_ret
      refine ⟨rfl, ?_, hg⟩
      unfold OwnI
      rw [markedI_len]
      exact ho

set_option maxRecDepth 100000 in
set_option maxHeartbeats 1000000 in
theorem markIntS_nil (a : Option Addr) (c : Nat) (k0 : Int) (w : World) :
    Calls Try.prog 22 #[.slice a 0 c, .int .i64 k0] w fun e w' => e = .returned (.int .i64 k0) ∧ w' = w := by
  go_enter Try.func22, Try.ntmps22
  go_wp2_with fail
  refine wp_loop_rounds 1 ?_
  rw [rounds_succ]
  go_wp2_with fail
  go_ret
  exact ⟨rfl, rfl⟩
theorem markIntS_any (a : Option Addr) (n c : Nat) (l : List Int) (k0 : Int) (B : Nat) (w : World) (h : OwnI w B (.slice a n c) l) (hn : n ≤ 1048576) (h0 : 0 ≤ k0) (h1 : k0 ≤ 1048576) :
    Calls Try.prog 22 #[.slice a n c, .int .i64 k0] w fun e w' => e = .returned (.int .i64 (k0 + n)) ∧ OwnI w' B (.slice a n c) (markedI k0 n) ∧ w.grownBy w' (Value.slice a n c).ownBlock := by
  have hl := h.len
  rcases h.row.2 with ⟨hv, h0'⟩ | ⟨g, cap, cur, hv, r⟩
  · simp only [Value.slice.injEq] at hv
    obtain ⟨rfl, rfl, rfl⟩ := hv
    refine (markIntS_nil _ _ k0 w).mono ?_
    rintro e w' ⟨rfl, rfl⟩
    exact ⟨by simp, by simpa [markedI] using OwnI.nil _ _, grown_refl _ _⟩
  · simp only [Value.slice.injEq, true_and] at hv
    obtain ⟨rfl, rfl⟩ := hv
    exact markIntS_at g n c l k0 B w h hn h0 h1

set_option maxRecDepth 100000 in
set_option maxHeartbeats 1000000 in
theorem heldIntS_any (a : Option Addr) (n c : Nat) (k0 : Int) (w : World) (h : Ints w a n c (markedI k0 n)) (hn : n ≤ 1048576) (h0 : 0 ≤ k0) (h1 : k0 ≤ 1048576) :
    Calls Try.prog 23 #[.slice a n c, .int .i64 k0] w fun e w' => e = .returned (.int .i64 (k0 + n)) ∧ w' = w := by
  obtain ⟨-, hc, hm, hl⟩ := h
  unfold maxLen at hm
  by_cases hz : n = 0
  · subst hz
    go_enter Try.func23, Try.ntmps23
    go_wp2_with fail
    refine wp_loop_rounds 1 ?_
    rw [rounds_succ]
    go_wp2_with fail
    go_ret
    exact ⟨by simp, rfl⟩
  · rcases hl with hl | ⟨b, off, rfl, hbw, hl⟩
    · exfalso
      have := markedI_len k0 n
      rw [hl] at this
      exact hz this.symm
    · go_enter Try.func23, Try.ntmps23
      go_wp2_with fail
      go_loop [1, 5] (fun kk i => ∃ (j : Nat), j ≤ n ∧ i = .int .i64 j ∧ kk = .int .i64 (k0 + j)) (fun _ i => n - (intOf i).toNat)
      case atStart => exact ⟨0, Nat.zero_le _, rfl, by simp⟩
      case round =>
        obtain ⟨j, hj, rfl, rfl⟩ := hrel
        by_cases hlt : j < n
        · have c0 := hl j (by rw [markedI_len]; exact hlt)
          rw [markedI_get k0 n j hlt] at c0
          clear hl
          go_wp2_with fail
          go_round
          case rel => exact ⟨j + 1, by omega, by go_num, by congr 1; omega⟩
          case measure => simp [intOf]; omega
        · obtain rfl : j = n := by omega
          go_wp2_with fail
          go_ret
          exact ⟨rfl, rfl⟩
end Go.Proofs.Ytpllholgmidpnaa
namespace Go.Proofs.Ytpllholgmidpnaa
open Go.RowKit

set_option maxHeartbeats 2000000 in
theorem eqSign_any (b i o b' i' o' : Int) (w : World) :
    Calls Try.prog 34 #[.agg #[.int .u8 b, .int .i64 i, .int .i64 o], .agg #[.int .u8 b', .int .i64 i', .int .i64 o']] w fun e w' => e = .returned (.bool (decide (b = b' ∧ i = i' ∧ o = o'))) ∧ Below w.heap.size w w' := by
  by_cases h : b = b' ∧ i = i' ∧ o = o'
  · obtain ⟨rfl, rfl, rfl⟩ := h
    rw [decide_eq_true ⟨rfl, rfl, rfl⟩]
    go_enter Try.func34, Try.ntmps34
    go_wp2
    go_ret
    exact ⟨rfl, ((Below.refl _ _).alloc (Nat.le_refl _) _).alloc (by simp) _⟩
  · rw [decide_eq_false h]
    go_enter Try.func34, Try.ntmps34
    go_wp2
    · go_ret
      exact ⟨rfl, ((Below.refl _ _).alloc (Nat.le_refl _) _).alloc (by simp) _⟩
    · go_ret
      exact ⟨rfl, ((Below.refl _ _).alloc (Nat.le_refl _) _).alloc (by simp) _⟩
    · go_ret
      exact ⟨rfl, ((Below.refl _ _).alloc (Nat.le_refl _) _).alloc (by simp) _⟩
set_option maxHeartbeats 1000000 in
theorem toSign_any (b i o : Int) (w : World) :
    Calls Try.prog 35 #[.agg #[.int .u8 b, .int .i64 i, .int .i64 o]] w fun e w' => e = .returned (.agg #[.int .u8 b, .int .i64 i, .int .i64 o]) ∧ Below w.heap.size w w' := by
  go_enter Try.func35, Try.ntmps35
  go_wp2
  refine bodyPost_ret (v := .agg #[.int .u8 b, .int .i64 i, .int .i64 o]) (by simp [results, Try.results35, go_sem]) rfl ⟨rfl, ?_⟩
  exact (((Below.refl _ _).alloc (Nat.le_refl _) _).alloc (by simp) _).alloc (by simp; omega) _

set_option maxHeartbeats 1000000 in
theorem szSignS_any (a : Option Addr) (n cap : Nat) (w : World) (hn : n ≤ cap) (hc : cap ≤ maxLen) :
    Calls Try.prog 19 #[.slice a n cap, .int .i64 1048576] w fun e w' => e = .returned (.int .i64 (if n ≤ 1048576 then 1048576 - n else -1)) ∧ w' = w := by
  unfold maxLen at hc
  by_cases h : n ≤ 1048576
  · rw [if_pos h]
    go_enter Try.func19, Try.ntmps19
    go_wp2
    go_ret
    exact ⟨rfl, rfl⟩
  · rw [if_neg h]
    go_enter Try.func19, Try.ntmps19
    go_wp2
    go_ret
    exact ⟨rfl, rfl⟩

set_option maxHeartbeats 1000000 in
theorem toSignS_any (a : Option Addr) (n cap : Nat) (l : List Sg) (w : World) (h : Txt w a n cap l) (hn : n ≤ 1048576) :
    Calls Try.prog 20 #[.slice a n cap] w fun e w' => e = .returned (.slice (some ⟨w.heap.size, 0, none⟩) n n) ∧ w'.ownsRow w.heap.size 30 3 (.slice (some ⟨w.heap.size, 0, none⟩) n n) n (flat l) ∧ Below w.heap.size w w' := by
  obtain ⟨rfl, hc, hm, hl⟩ := h
  unfold maxLen at hm
  obtain ⟨i0, hi, hz0, hz1, hz2⟩ := info_parts Try.info30
  rcases hl with rfl | ⟨b, off, rfl, hbw, hl⟩
  · go_enter Try.func20, Try.ntmps20
    go_wp2_with (at_make; refine wpList_make_full _ rfl (.tmp 6) (.tmp 6) 23 rfl w.heap.size 30 i0 _ 3 Try.underlying23 hi hz0 hz1 .i64 .i64 _ _ 0 rfl rfl rfl rfl (by rw [hz2]; omega) (by unfold maxLen; omega) (Nat.le_refl _) ?_; intro w1 hown hgrow)
    have hb1 : Below w.heap.size w w1 := (Below.refl _ _).grown hgrow (Nat.le_refl _) (fun k hk => by simp at hk)
    refine wp_loop_rounds 1 ?_
    rw [rounds_succ]
    go_wp2_with fail
    go_ret
    exact ⟨rfl, by simpa [flat, madeCells] using hown, hb1⟩
  · go_enter Try.func20, Try.ntmps20
    go_wp2_with (at_make; refine wpList_make_full _ rfl (.tmp 6) (.tmp 6) 23 rfl w.heap.size 30 i0 _ 3 Try.underlying23 hi hz0 hz1 .i64 .i64 _ _ l.length rfl rfl rfl rfl (by rw [hz2]; omega) (by unfold maxLen; omega) (Nat.le_refl _) ?_; intro w1 hown hgrow)
    have hb1 : Below w.heap.size w w1 := (Below.refl _ _).grown hgrow (Nat.le_refl _) (fun k hk => by simp at hk)
    clear hgrow
    obtain ⟨xs0, hown⟩ : ∃ xs, w1.ownsRow w.heap.size 30 3 (.slice (some ⟨w.heap.size, 0, none⟩) l.length l.length) l.length xs := ⟨_, hown⟩
    go_loopw [4] (fun i wr => ∃ (k : Nat) (xs : List Value), k ≤ l.length ∧ i = .int .i64 k ∧ wr.ownsRow w.heap.size 30 3 (.slice (some ⟨w.heap.size, 0, none⟩) l.length l.length) l.length xs ∧ xs.take (k * 3) = flat (l.take k) ∧ Below w.heap.size w wr) (fun i _ => l.length - (intOf i).toNat)
    case atStart => exact ⟨0, xs0, Nat.zero_le _, rfl, hown, by simp [flat], hb1⟩
    case round =>
      obtain ⟨k, xs, hk, rfl, ho, hx, hbl⟩ := hrel
      have hsz := hbl.size
      have HX : Hid (xs.take (k * 3) = flat (l.take k)) := hx
      have HO : Hid (wr.ownsRow w.heap.size 30 3 (.slice (some ⟨w.heap.size, 0, none⟩) l.length l.length) l.length xs) := ho
      clear hx ho hown hb1
      by_cases hlt : k < l.length
      · obtain ⟨c0, c1, c2⟩ := (hl.below hbl hbw) k hlt
        clear hl
        obtain ⟨s, hs⟩ : ∃ s, s = l.getD k (0, 0, 0) := ⟨_, rfl⟩
        rw [← hs] at c0 c1 c2
        have HS : Hid (s = l.getD k (0, 0, 0)) := hs
        clear hs
        go_wp2_with fail
        refine (toSign_any _ _ _ _).mono ?_
        rintro e w2 ⟨rfl, hb2⟩
        have ho2 := own_below HO.out hb2
        have f0 := ho2.frozenAt (k * 3)
        have f1 := ho2.frozenAt (k * 3 + 1)
        have f2 := ho2.frozenAt (k * 3 + 2)
        have hxl := ho2.1
        obtain ⟨u0, d0⟩ : ∃ u, w2.cell? ⟨w.heap.size, k * 3, none⟩ = some u := ⟨_, (ho2.cellAt (k * 3) (by omega)).trans (List.getElem?_eq_getElem (by omega))⟩
        obtain ⟨u1, d1⟩ : ∃ u, w2.cell? ⟨w.heap.size, k * 3 + 1, none⟩ = some u := ⟨_, (ho2.cellAt (k * 3 + 1) (by omega)).trans (List.getElem?_eq_getElem (by omega))⟩
        obtain ⟨u2, d2⟩ : ∃ u, w2.cell? ⟨w.heap.size, k * 3 + 2, none⟩ = some u := ⟨_, (ho2.cellAt (k * 3 + 2) (by omega)).trans (List.getElem?_eq_getElem (by omega))⟩
        have HO2 : Hid (w2.ownsRow w.heap.size 30 3 (.slice (some ⟨w.heap.size, 0, none⟩) l.length l.length) l.length xs) := ho2
        clear ho2 HO hxl
        go_wp2_with fail
        go_roundw
        case rel =>
          obtain ⟨p0, _⟩ := HO2.out.stored (k * 3) (.int .u8 s.1)
          obtain ⟨p1, _⟩ := p0.stored (k * 3 + 1) (.int .i64 s.2.1)
          obtain ⟨p2, _⟩ := p1.stored (k * 3 + 2) (.int .i64 s.2.2)
          refine ⟨k + 1, _, by omega, by go_num, p2, ?_, ?_⟩
          · rw [take_set3 _ _ _ _ _ (by have := HO2.out.1; omega), HX.out, flat_take_succ l k hlt, ← HS.out]; rfl
          · exact (((hbl.trans (hb2.mono hsz)).setCell (Nat.le_refl _) _).setCell (Nat.le_refl _) _).setCell (Nat.le_refl _) _
        case measure => simp [intOf]; omega
      · go_wp2_with fail
        go_ret
        have hxx : xs = flat l := by
          have h1 := HX.out
          have h2 := HO.out.1
          rw [List.take_of_length_le (by omega), List.take_of_length_le (by omega)] at h1
          exact h1
        exact ⟨rfl, hxx ▸ HO.out, hbl⟩

theorem sg_eq (s t : Sg) : (s = t) ↔ (s.1 = t.1 ∧ s.2.1 = t.2.1 ∧ s.2.2 = t.2.2) := by
  obtain ⟨a, b, c⟩ := s
  obtain ⟨a', b', c'⟩ := t
  simp

theorem list_ne_at (l m : List Sg) (k : Nat) (hne : ¬ ((l.getD k (0, 0, 0)).1 = (m.getD k (0, 0, 0)).1 ∧ (l.getD k (0, 0, 0)).2.1 = (m.getD k (0, 0, 0)).2.1 ∧ (l.getD k (0, 0, 0)).2.2 = (m.getD k (0, 0, 0)).2.2)) : l ≠ m := by
  rintro rfl
  exact hne ⟨rfl, rfl, rfl⟩

theorem take_eq_succ (l m : List Sg) (k : Nat) (h : k < l.length) (hl : l.length = m.length) (he : l.take k = m.take k) (hs : l.getD k (0, 0, 0) = m.getD k (0, 0, 0)) : l.take (k + 1) = m.take (k + 1) := by
  rw [List.take_succ_eq_append_getElem h, List.take_succ_eq_append_getElem (by omega), he]
  simp [List.getD, h, show k < m.length by omega] at hs
  rw [hs]

theorem eqSign_is {s t : Sg} {x : Bool} (h : decide (s.1 = t.1 ∧ s.2.1 = t.2.1 ∧ s.2.2 = t.2.2) = x) (w : World) :
    Calls Try.prog 34 #[.agg #[.int .u8 s.1, .int .i64 s.2.1, .int .i64 s.2.2], .agg #[.int .u8 t.1, .int .i64 t.2.1, .int .i64 t.2.2]] w fun e w' => e = .returned (.bool x) ∧ Below w.heap.size w w' := h ▸ eqSign_any s.1 s.2.1 s.2.2 t.1 t.2.1 t.2.2 w

set_option maxHeartbeats 1000000 in
theorem eqSignS_any (a : Option Addr) (n cap : Nat) (l : List Sg) (a' : Option Addr) (n' cap' : Nat) (m : List Sg) (w : World) (h : Txt w a n cap l) (h' : Txt w a' n' cap' m) :
    Calls Try.prog 16 #[.slice a n cap, .slice a' n' cap'] w fun e w' => e = .returned (.bool (decide (l = m))) ∧ Below w.heap.size w w' := by
  obtain ⟨rfl, hc, hm, hl⟩ := h
  obtain ⟨rfl, hc', hm', hl'⟩ := h'
  unfold maxLen at hm hm'
  by_cases hlen : l.length = m.length
  · have hbq : ((l.length : Int) != (m.length : Int)) = false := by simp [hlen]
    rcases hl with rfl | ⟨b, off, rfl, hbw, hl⟩
    · obtain rfl : m = [] := List.eq_nil_of_length_eq_zero (by simpa using hlen.symm)
      go_enter Try.func16, Try.ntmps16
      go_wp2_with fail
      refine wp_loop_rounds 1 ?_
      rw [rounds_succ]
      go_wp2_with fail
      go_ret
      exact ⟨rfl, Below.refl _ _⟩
    · rcases hl' with rfl | ⟨b', off', rfl, hbw', hl'⟩
      · obtain rfl : l = [] := List.eq_nil_of_length_eq_zero (by simpa using hlen)
        go_enter Try.func16, Try.ntmps16
        go_wp2_with fail
        refine wp_loop_rounds 1 ?_
        rw [rounds_succ]
        go_wp2_with fail
        go_ret
        exact ⟨rfl, Below.refl _ _⟩
      · have HL : Hid (l.length = m.length) := hlen
        have hl1 : l.length ≤ m.length := by omega
        have hl2 : m.length ≤ l.length := by omega
        clear hlen
        go_enter Try.func16, Try.ntmps16
        go_wp2_with fail
        go_loopw [5] (fun i wr => ∃ (k : Nat), k ≤ l.length ∧ i = .int .i64 k ∧ l.take k = m.take k ∧ Below w.heap.size w wr) (fun i _ => l.length - (intOf i).toNat)
        case atStart => exact ⟨0, Nat.zero_le _, rfl, by simp, Below.refl _ _⟩
        case round =>
          obtain ⟨k, hk, rfl, ht, hbl⟩ := hrel
          have hsz := hbl.size
          have HT : Hid (l.take k = m.take k) := ht
          clear ht
          by_cases hlt : k < l.length
          · have hlt' : k < m.length := by omega
            obtain ⟨c0, c1, c2⟩ := (hl.below hbl hbw) k hlt
            obtain ⟨d0, d1, d2⟩ := (hl'.below hbl hbw') k hlt'
            clear hl hl'
            obtain ⟨s, hs⟩ : ∃ s, s = l.getD k (0, 0, 0) := ⟨_, rfl⟩
            obtain ⟨t, ht⟩ : ∃ t, t = m.getD k (0, 0, 0) := ⟨_, rfl⟩
            rw [← hs] at c0 c1 c2
            rw [← ht] at d0 d1 d2
            have HS : Hid (s = l.getD k (0, 0, 0)) := hs
            have HM : Hid (t = m.getD k (0, 0, 0)) := ht
            clear hs ht
            cases hb : decide (s.1 = t.1 ∧ s.2.1 = t.2.1 ∧ s.2.2 = t.2.2)
            · have HF : Hid (decide (l = m) = false) := by
                refine decide_eq_false (list_ne_at l m k ?_)
                rw [← HS.out, ← HM.out]
                exact of_decide_eq_false hb
              have HB : Hid (decide (s.1 = t.1 ∧ s.2.1 = t.2.1 ∧ s.2.2 = t.2.2) = false) := hb
              clear hb
              go_wp2_with fail
              go_region_with (go_at_call 34; refine (eqSign_is (s := s) (t := t) HB.out _).mono ?_; rintro e w1 ⟨rfl, hb1⟩)
              all_goals
                go_wp2_with fail
                go_ret
                exact ⟨by rw [HF.out]; rfl, hbl.drew.trans (hb1.mono hsz)⟩
            · have HB : Hid (decide (s.1 = t.1 ∧ s.2.1 = t.2.1 ∧ s.2.2 = t.2.2) = true) := hb
              clear hb
              go_wp2_with fail
              go_region_with (go_at_call 34; refine (eqSign_is (s := s) (t := t) HB.out _).mono ?_; rintro e w1 ⟨rfl, hb1⟩)
              all_goals
                go_wp2_with fail
                go_roundw
                case rel => exact ⟨k + 1, by omega, by go_num, take_eq_succ l m k hlt HL.out HT.out (by rw [← HS.out, ← HM.out]; exact (sg_eq s t).2 (of_decide_eq_true HB.out)), hbl.drew.trans (hb1.mono hsz)⟩
                case measure => simp [intOf]; omega
          · go_wp2_with fail
            go_ret
            refine ⟨?_, hbl⟩
            have := HT.out
            rw [List.take_of_length_le (by omega), List.take_of_length_le (by omega)] at this
            rw [decide_eq_true this]; rfl
  · have hbq : ((l.length : Int) != (m.length : Int)) = true := by simp; omega
    rw [decide_eq_false (fun e => hlen (by rw [e]))]
    go_enter Try.func16, Try.ntmps16
    go_wp2_with fail
    go_ret
    exact ⟨rfl, Below.refl _ _⟩
theorem szSignS_is (a : Option Addr) (n cap : Nat) (w : World) (hn : n ≤ cap) (hc : cap ≤ maxLen) {x : Int} (h : (if n ≤ 1048576 then 1048576 - (n : Int) else -1) = x) :
    Calls Try.prog 19 #[.slice a n cap, .int .i64 1048576] w fun e w' => e = .returned (.int .i64 x) ∧ w' = w := h ▸ szSignS_any a n cap w hn hc

theorem eqSignS_same (a : Option Addr) (n cap : Nat) (l : List Sg) (a' : Option Addr) (n' cap' : Nat) (w : World) (h : Txt w a n cap l) (h' : Txt w a' n' cap' l) :
    Calls Try.prog 16 #[.slice a n cap, .slice a' n' cap'] w fun e w' => e = .returned (.bool true) ∧ Below w.heap.size w w' := by
  have := eqSignS_any a n cap l a' n' cap' l w h h'
  rwa [decide_eq_true (rfl : l = l)] at this

end Go.Proofs.Ytpllholgmidpnaa
namespace Go.Proofs.Ytpllholgmidpnaa
open Go.RowKit

theorem implTextBy_is {a : Option Addr} {n cap : Nat} {l : List Sg} {w : World} (h : Txt w a n cap l) {L : List Int} (hL : specByL l = L) :
    Calls Try.prog 7 #[.slice a n cap] w fun e w' => ∃ v, e = .returned v ∧ OwnI w' w.heap.size v L ∧ Below w.heap.size w w' := by
  rw [← hL, ← by_eq]; exact implTextBy_any a n cap l w h
theorem specTextBy_is {a : Option Addr} {n cap : Nat} {l : List Sg} {w : World} (h : Txt w a n cap l) {L : List Int} (hL : specByL l = L) :
    Calls Try.prog 9 #[.slice a n cap] w fun e w' => ∃ v, e = .returned v ∧ OwnI w' w.heap.size v L ∧ Below w.heap.size w w' := by
  rw [← hL]; exact specTextBy_any a n cap l w h
theorem own_of_flat {w : World} {B g n cap : Nat} {l : List Sg} (h : w.ownsRow B 30 3 (.slice (some ⟨g, 0, none⟩) n cap) n (flat l)) : Own w B (.slice (some ⟨g, 0, none⟩) n cap) l := by
  have hl := h.1
  rw [flat_length] at hl
  have : n = l.length := by omega
  subst this
  exact h

set_option maxRecDepth 100000 in
set_option maxHeartbeats 2000000 in
theorem lawTextBy_walk (a : Option Addr) (n cap : Nat) (l : List Sg) (w : World) (h : Txt w a n cap l) :
    Calls Try.prog 5 #[.slice a n cap] w fun e w' => e = .returned (.bool true) ∧ Below w.heap.size w w' := by
  by_cases hn : n ≤ 1048576
  · obtain ⟨L, hLL⟩ : ∃ L, specByL l = L := ⟨_, rfl⟩
    have HLL : Hid (specByL l = L) := hLL
    have hL3 : L.length ≤ 3 := by rw [← hLL]; exact by_le l
    clear hLL
    go_enter Try.func5, Try.ntmps5
    go_wp2_with fail
    refine (szSignS_is a n cap _ h.2.1 h.2.2.1 (x := 1048576 - (n : Int)) (by rw [if_pos hn])).mono ?_
    rintro e w0 ⟨rfl, rfl⟩
    go_wp2_with fail
    refine (toSignS_any a n cap l _ h hn).mono ?_
    rintro e w1 ⟨rfl, ho1, hb1⟩
    have s1 := hb1.size
    go_wp2_with fail
    refine (specTextBy_is (txt_of_own ho1) HLL.out).mono ?_
    rintro e w2 ⟨v, rfl, ho2, hb2⟩
    have s2 := hb2.size
    obtain ⟨a2, n2, c2, rfl, hn2⟩ := ho2.shapeL
    have HI2 : Hid (Ints w2 a2 n2 c2 L) := ho2.ints
    clear ho2 hn2
    go_wp2_with fail
    refine (toSignS_any a n cap l _ ((h.below hb1).below hb2) hn).mono ?_
    rintro e w3 ⟨rfl, ho3, hb3⟩
    have s3 := hb3.size
    have HO3 : Hid (Own w3 w2.heap.size (.slice (some ⟨w2.heap.size, 0, none⟩) n n) l) := own_of_flat ho3
    clear ho3
    go_wp2_with fail
    refine (implTextBy_is HO3.out.txt HLL.out).mono ?_
    rintro e w4 ⟨v, rfl, ho4, hb4⟩
    have s4 := hb4.size
    obtain ⟨a4, n4, c4, rfl, hn4⟩ := ho4.shapeL
    have hn43 : n4 ≤ 3 := by omega
    have HO4 : Hid (OwnI w4 w3.heap.size (.slice a4 n4 c4) L) := ho4
    clear ho4 hn4
    go_wp2_with fail
    refine (eqIntS_same HO4.out.ints ((HI2.out.below hb3).below hb4)).mono ?_
    rintro e w5 ⟨rfl, hb5⟩
    have s5 := hb5.size
    go_wp2_with fail
    refine (toSignS_any a n cap l _ (((((h.below hb1).below hb2).below hb3).below hb4).below hb5) hn).mono ?_
    rintro e w6 ⟨rfl, ho6, hb6⟩
    have s6 := hb6.size
    go_wp2_with fail
    refine (eqSignS_same _ _ _ l _ _ _ _ (((HO3.out.txt.below hb4).below hb5).below hb6) (txt_of_own ho6)).mono ?_
    rintro e w7 ⟨rfl, hb7⟩
    have s7 := hb7.size
    have HO7 : Hid (Own w7 w2.heap.size (.slice (some ⟨w2.heap.size, 0, none⟩) n n) l) := (((HO3.out.below hb4).below hb5).below hb6).below hb7
    have HI7 : Hid (OwnI w7 w3.heap.size (.slice a4 n4 c4) L) := ((HO4.out.below hb5).below hb6).below hb7
    have hb27 : Below w2.heap.size w2 w7 := (((hb3.trans (hb4.mono (by omega))).trans (hb5.mono (by omega))).trans (hb6.mono (by omega))).trans (hb7.mono (by omega))
    have hb07 : Below w0.heap.size w0 w7 := (hb1.trans (hb2.mono (by omega))).trans (hb27.mono (by omega))
    clear ho6
    go_wp2_with fail
    refine (markSignS_any _ _ _ l 1 _ _ HO7.out hn (by omega) (by omega)).mono ?_
    rintro e w8 ⟨rfl, _, hg8⟩
    have s8 := hg8.size
    have hw3 : w2.heap.size < w3.heap.size := by
      have := (HO3.out.row.lt w2.heap.size rfl).2
      exact this
    have HI8 : Hid (OwnI w8 w3.heap.size (.slice a4 n4 c4) L) := World.ownsRow.kept HI7.out hg8 (by
      rcases hv : (Value.slice a4 n4 c4).ownBlock with _ | k
      · exact .inl rfl
      · refine .inr (fun e => ?_)
        have := (HI7.out.row.lt k hv).1
        simp [Value.ownBlock] at e
        omega)
    have hb28 : Below w2.heap.size w2 w8 := hb27.grown hg8 (by omega) (fun k hk => by simp [Value.ownBlock] at hk; omega)
    have HI2' : Hid (Ints w8 a2 n2 c2 L) := HI2.out.below hb28
    go_wp2_with fail
    refine (eqIntS_same HI8.out.ints HI2'.out).mono ?_
    rintro e w9 ⟨rfl, hb9⟩
    have s9 := hb9.size
    have HI9 : Hid (OwnI w9 w3.heap.size (.slice a4 n4 c4) L) := HI8.out.below hb9
    go_wp2_with fail
    refine (markIntS_any _ _ _ L 1 _ _ HI9.out (by omega) (by omega) (by omega)).mono ?_
    rintro e w10 ⟨rfl, ho10, hg10⟩
    have s10 := hg10.size
    have HO10 : Hid (OwnI w10 w3.heap.size (.slice a4 n4 c4) (markedI 1 n4)) := ho10
    clear ho10
    have hb210 : Below w2.heap.size w2 w10 := (hb28.trans (hb9.mono (by omega))).grown hg10 (by omega) (fun k hk => by have := (HI9.out.row.lt k hk).1; omega)
    have hb010 : Below w0.heap.size w0 w10 := (hb1.trans (hb2.mono (by omega))).trans (hb210.mono (by omega))
    go_wp2_with fail
    refine (heldIntS_any _ _ _ 1 _ HO10.out.ints (by omega) (by omega) (by omega)).mono ?_
    rintro e w11 ⟨rfl, rfl⟩
    go_wp2_with fail
    refine (toSignS_any a n cap l _ (h.below hb010) hn).mono ?_
    rintro e w12 ⟨rfl, ho12, hb12⟩
    have s12 := hb12.size
    go_wp2_with fail
    refine (implTextBy_is (txt_of_own ho12) HLL.out).mono ?_
    rintro e w13 ⟨v, rfl, ho13, hb13⟩
    have s13 := hb13.size
    obtain ⟨a13, n13, c13, rfl, hn13⟩ := ho13.shapeL
    have HI13 : Hid (Ints w13 a13 n13 c13 L) := ho13.ints
    clear ho13 hn13
    go_wp2_with fail
    refine (eqIntS_same HI13.out (HI2.out.below ((hb210.trans (hb12.mono (by omega))).trans (hb13.mono (by omega))))).mono ?_
    rintro e w14 ⟨rfl, hb14⟩
    have s14 := hb14.size
    go_wp2_with fail
    refine (heldIntS_any _ _ _ 1 _ (((HO10.out.below hb12).below hb13).below hb14).ints (by omega) (by omega) (by omega)).mono ?_
    rintro e w15 ⟨rfl, rfl⟩
    go_wp2_with fail
    go_ret
    exact ⟨rfl, ((hb010.trans (hb12.mono (by omega))).trans (hb13.mono (by omega))).trans (hb14.mono (by omega))⟩
  · go_enter Try.func5, Try.ntmps5
    go_wp2_with fail
    refine (szSignS_is a n cap _ h.2.1 h.2.2.1 (x := -1) (by rw [if_neg hn])).mono ?_
    rintro e w1 ⟨rfl, rfl⟩
    go_wp2_with fail
    go_ret
    exact ⟨rfl, Below.refl _ _⟩
end Go.Proofs.Ytpllholgmidpnaa
