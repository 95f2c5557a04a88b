import Derived.Test.YtmemhmndfcdmbauExact
namespace Go.Proofs.Ytmemhmndfcdmbau
open Go.RowKit

theorem cell_three_new (w : World) (x y z : Value) (t : TypeId) : ∀ j u, [x, y, z][j]? = some u → (w.alloc (.cells #[x, y, z] t)).cell? ((⟨w.heap.size, 0, none⟩ : Addr).add j) = some u := by
  intro j u hj
  match j, hj with
  | 0, hj => simp at hj; subst hj; simp [Addr.add]
  | 1, hj => simp at hj; subst hj; simp [Addr.add]
  | 2, hj => simp at hj; subst hj; simp [Addr.add]
  | (j + 3), hj => simp at hj

theorem three_oneCell (a b c : Int) : ∀ u ∈ [Value.int .u8 a, .int .i64 b, .int .i64 c], u.oneCell' = true := by
  intro u hu
  simp at hu
  rcases hu with rfl | rfl | rfl <;> rfl

/-- A value that owns a list of signs. -/
def Own (w : World) (B : Nat) (v : Value) (l : List Sg) : Prop := w.ownsRow B 76 3 v l.length (flat l)

theorem Own.shape {w : World} {B : Nat} {v : Value} {l : List Sg} (h : Own w B v l) : ∃ a cap, v = .slice a l.length cap ∧ Txt w a l.length cap l := by
  have h' := h
  unfold Own at h'
  rcases h'.2 with ⟨rfl, h0⟩ | ⟨g, cap, cur, rfl, r⟩
  · have : l = [] := List.eq_nil_of_length_eq_zero h0
    subst this
    exact ⟨none, 0, rfl, rfl, Nat.le_refl _, Nat.zero_le _, .inl rfl⟩
  · exact ⟨_, _, rfl, txt_of_own h'⟩

theorem Own.below {w w' : World} {B : Nat} {v : Value} {l : List Sg} (h : Own w B v l) (hb : Below w.heap.size w w') : Own w' B v l := own_below h hb
theorem Own.nil (w : World) (B : Nat) : Own w B (.slice none 0 0) [] := World.ownsRow_nil _ _ _ _
theorem Own.snoc {w : World} {B : Nat} {v : Value} {l : List Sg} {s : Sg} {n : Nat} {xs : List Value} (h : w.ownsRow B 76 3 v n xs) (hn : n = l.length + 1) (hx : xs = flat l ++ sgCells s) : Own w B v (l ++ [s]) := by
  subst hn hx
  unfold Own
  rw [flat_append, List.length_append]
  have : flat [s] = sgCells s := by simp [flat]
  rw [this]
  exact h

def sgOf (c : UInt8) : Sg := (c.toNat, 0, 0)
def ofL (l : List UInt8) : List Sg := l.map sgOf
def ofS (l : List UInt8) : List Sg := if textB (ofL l) then ofL l else []

theorem ofL_take_succ (s : ByteArray) (k : Nat) (h : k < s.size) : ofL (s.data.toList.take (k + 1)) = ofL (s.data.toList.take k) ++ [((s[k].toNat : Int), 0, 0)] := by
  have h' : k < s.data.toList.length := by simpa using h
  rw [List.take_succ_eq_append_getElem h']
  simp only [ofL, List.map_append, List.map_cons, List.map_nil]
  rfl

theorem Own.shapeN {w : World} {B : Nat} {v : Value} {l : List Sg} (h : Own w B v l) {n : Nat} (hn : l.length = n) : ∃ a cap, v = .slice a n cap := by
  obtain ⟨a, cap, rfl, _⟩ := h.shape
  exact ⟨a, cap, by rw [hn]⟩
theorem Own.txt {w : World} {B : Nat} {a : Option Addr} {n cap : Nat} {l : List Sg} (h : Own w B (.slice a n cap) l) : Txt w a n cap l := by
  obtain ⟨a', cap', he, ht⟩ := h.shape
  simp only [Value.slice.injEq] at he
  obtain ⟨rfl, rfl, rfl⟩ := he
  exact ht
theorem ofL_len (l : List UInt8) (k : Nat) (h : k ≤ l.length) : (ofL (l.take k)).length = k := by simp [ofL, h]
theorem Own.len {w : World} {B : Nat} {a : Option Addr} {n cap : Nat} {l : List Sg} (h : Own w B (.slice a n cap) l) : n = l.length := h.txt.1
theorem Own.row {w : World} {B : Nat} {a : Option Addr} {n cap : Nat} {l : List Sg} (h : Own w B (.slice a n cap) l) : w.ownsRow B 76 3 (.slice a n cap) n (flat l) := by
  have := h.len
  subst this
  exact h

/-- A sign more behind an owned list: what the append leaves. -/
theorem own_step {B : Nat} {w wr w1 : World} {a : Option Addr} {k c : Nat} {v' : Value} {l : List Sg} {s : Sg} {o : Obj} (ho : Own wr B (.slice a k c) l) (hbl : Below B w wr) (hB : B ≤ wr.heap.size)
    (hown : w1.ownsRow B 76 3 v' (k + 1) (flat l ++ sgCells s)) (hgrow : (wr.alloc o).grownBy w1 (Value.slice a k c).ownBlock) :
    ∃ a' c', v' = .slice a' (k + 1) c' ∧ Own w1 B (.slice a' (k + 1) c') (l ++ [s]) ∧ Below B w w1 := by
  have hk := ho.len
  have h1 : Own w1 B v' (l ++ [s]) := Own.snoc hown (by omega) rfl
  obtain ⟨a', c', rfl⟩ := h1.shapeN (n := k + 1) (by simp; omega)
  refine ⟨a', c', rfl, h1, ?_⟩
  exact (hbl.alloc hB _).grown hgrow (by simp; omega) (fun q hq => (ho.row.lt q hq).1)

theorem not_textB_of_len {l : List Sg} (h : 24 < l.length) : textB l = false := by simp [textB]; omega

theorem ofS_long (s : ByteArray) (h : ¬ s.size ≤ 24) : ofS s.data.toList = [] := by
  unfold ofS
  rw [not_textB_of_len (by simp [ofL]; omega)]
  rfl

theorem implTextOk_is {a : Option Addr} {n cap : Nat} {l : List Sg} {w : World} {x : Bool} (h : Txt w a n cap l) (hx : textB l = x) :
    Calls Try.prog 21 #[.slice a n cap] w fun e w' => e = .returned (.bool x) ∧ Below w.heap.size w w' := hx ▸ implTextOk_any a n cap l w h
theorem specTextOk_is {a : Option Addr} {n cap : Nat} {l : List Sg} {w : World} {x : Bool} (h : Txt w a n cap l) (hx : textB l = x) :
    Calls Try.prog 19 #[.slice a n cap] w fun e w' => e = .returned (.bool x) ∧ Below w.heap.size w w' := hx ▸ specTextOk_any a n cap l w h

theorem Own.emptyNew (w : World) (B : Nat) (hB : B ≤ w.heap.size) : Own (w.alloc (.cells #[] 76)) B (.slice (some ⟨w.heap.size, 0, none⟩) 0 0) [] :=
  World.ownsRow_made w #[] 0 hB (Nat.zero_le _) rfl

set_option maxHeartbeats 1000000 in
theorem implTextOf_any (s : ByteArray) (w : World) (hs : s.size ≤ 9223372036854775807) :
    Calls Try.prog 24 #[.string s] w fun e w' => ∃ v, e = .returned v ∧ Own w' w.heap.size v (ofS s.data.toList) ∧ Below w.heap.size w w' := by
  obtain ⟨i0, hi, hz0, hz1, hz2⟩ := info_parts Try.info76
  by_cases h24 : s.size ≤ 24
  · have h24' : decide ((24 : Int) < (s.size : Int)) = false := by simp; omega
    go_enter Try.func24, Try.ntmps24
    go_wp2_with fail
    go_loopw [3, 4] (fun v i wr => ∃ (k : Nat) (a : Option Addr) (c : Nat), k ≤ s.size ∧ i = .int .i64 k ∧ v = .slice a k c ∧ Own wr w.heap.size (.slice a k c) (ofL (s.data.toList.take k)) ∧ Below w.heap.size w wr) (fun _ i _ => s.size - (intOf i).toNat)
    case atStart => exact ⟨0, none, 0, Nat.zero_le _, rfl, rfl, by simpa [ofL] using Own.nil _ _, Below.refl _ _⟩
    case round =>
      obtain ⟨k, a, c, hk, rfl, rfl, ho, hbl⟩ := hrel
      have hsz := hbl.size
      have HO : Hid (Own wr w.heap.size (.slice a k c) (ofL (s.data.toList.take k))) := ho
      clear ho
      by_cases hlt : k < s.size
      · go_wp2_with (at_builtin; refine wpList_append_own _ rfl (.tmp 14) (.tmp 19) 44 rfl w.heap.size 76 i0 (.agg #[.int .u8 0, .int .i64 0, .int .i64 0]) 3 24 Try.underlying44 hi hz0 hz1 hz2 rfl (by decide) (.slice a k c) _ _ rfl (HO.out.row.alloc _) ⟨wr.heap.size, 0, none⟩ 1 1 [.int .u8 (s[k].toNat : Int), .int .i64 0, .int .i64 0] rfl rfl (cell_three_new _ _ _ _ _) (three_oneCell _ _ _) (by unfold maxLen; omega) (by omega) (by simp; omega) ?_; intro v' w1 hown' hgrow _)
        obtain ⟨a', c', rfl, ho1, hb1⟩ := own_step (s := ((s[k].toNat : Int), 0, 0)) HO.out hbl hsz hown' hgrow
        rw [← ofL_take_succ s k hlt] at ho1
        go_roundw
        case rel => exact ⟨k + 1, a', c', by omega, by go_num, rfl, ho1, hb1⟩
        case measure => simp [intOf]; omega
      · obtain rfl : k = s.size := by omega
        have ho := HO.out
        rw [List.take_of_length_le (by simp)] at ho
        cases htb : textB (ofL s.data.toList)
        · go_wp2_with (go_at_call 21; refine (implTextOk_is ho.txt htb).mono ?_; rintro e w1 ⟨rfl, hb1⟩)
          go_ret
          refine ⟨_, rfl, ?_, ?_⟩
          · unfold ofS; rw [htb]; exact Own.nil _ _
          · exact hbl.trans (hb1.mono hsz)
        · go_wp2_with (go_at_call 21; refine (implTextOk_is ho.txt htb).mono ?_; rintro e w1 ⟨rfl, hb1⟩)
          go_ret
          refine ⟨_, rfl, ?_, ?_⟩
          · unfold ofS; rw [htb]; exact ho.below hb1
          · exact hbl.trans (hb1.mono hsz)
  · have h24' : decide ((24 : Int) < (s.size : Int)) = true := by simp; omega
    rw [ofS_long s h24]
    go_enter Try.func24, Try.ntmps24
    go_wp2_with fail
    go_ret
    exact ⟨_, rfl, Own.nil _ _, Below.refl _ _⟩

set_option maxHeartbeats 1000000 in
theorem specTextOf_any (s : ByteArray) (w : World) (hs : s.size ≤ 9223372036854775807) :
    Calls Try.prog 23 #[.string s] w fun e w' => ∃ v, e = .returned v ∧ Own w' w.heap.size v (ofS s.data.toList) ∧ Below w.heap.size w w' := by
  obtain ⟨i0, hi, hz0, hz1, hz2⟩ := info_parts Try.info76
  by_cases h24 : s.size ≤ 24
  · have h24' : decide ((24 : Int) < (s.size : Int)) = false := by simp; omega
    go_enter Try.func23, Try.ntmps23
    go_wp2_with fail
    go_loopw [3, 4] (fun v i wr => ∃ (k : Nat) (a : Option Addr) (c : Nat), k ≤ s.size ∧ i = .int .i64 k ∧ v = .slice a k c ∧ Own wr w.heap.size (.slice a k c) (ofL (s.data.toList.take k)) ∧ Below w.heap.size w wr) (fun _ i _ => s.size - (intOf i).toNat)
    case atStart => exact ⟨0, some ⟨w.heap.size, 0, none⟩, 0, Nat.zero_le _, rfl, rfl, by simpa [ofL] using Own.emptyNew w w.heap.size (Nat.le_refl _), (Below.refl _ _).alloc (Nat.le_refl _) _⟩
    case round =>
      obtain ⟨k, a, c, hk, rfl, rfl, ho, hbl⟩ := hrel
      have hsz := hbl.size
      have HO : Hid (Own wr w.heap.size (.slice a k c) (ofL (s.data.toList.take k))) := ho
      clear ho
      by_cases hlt : k < s.size
      · go_wp2_with (at_builtin; refine wpList_append_own _ rfl (.tmp 16) (.tmp 21) 44 rfl w.heap.size 76 i0 (.agg #[.int .u8 0, .int .i64 0, .int .i64 0]) 3 24 Try.underlying44 hi hz0 hz1 hz2 rfl (by decide) (.slice a k c) _ _ rfl (HO.out.row.alloc _) ⟨wr.heap.size, 0, none⟩ 1 1 [.int .u8 (s[k].toNat : Int), .int .i64 0, .int .i64 0] rfl rfl (cell_three_new _ _ _ _ _) (three_oneCell _ _ _) (by unfold maxLen; omega) (by omega) (by simp; omega) ?_; intro v' w1 hown' hgrow _)
        obtain ⟨a', c', rfl, ho1, hb1⟩ := own_step (s := ((s[k].toNat : Int), 0, 0)) HO.out hbl hsz hown' hgrow
        rw [← ofL_take_succ s k hlt] at ho1
        go_roundw
        case rel => exact ⟨k + 1, a', c', by omega, by go_num, rfl, ho1, hb1⟩
        case measure => simp [intOf]; omega
      · obtain rfl : k = s.size := by omega
        have ho := HO.out
        rw [List.take_of_length_le (by simp)] at ho
        cases htb : textB (ofL s.data.toList)
        · go_wp2_with (go_at_call 19; refine (specTextOk_is ho.txt htb).mono ?_; rintro e w1 ⟨rfl, hb1⟩)
          go_ret
          refine ⟨_, rfl, ?_, ?_⟩
          · unfold ofS; rw [htb]; exact Own.emptyNew w1 w.heap.size (by have := hb1.size; omega)
          · exact (hbl.trans (hb1.mono hsz)).alloc (by have := hb1.size; omega) _
        · go_wp2_with (go_at_call 19; refine (specTextOk_is ho.txt htb).mono ?_; rintro e w1 ⟨rfl, hb1⟩)
          go_ret
          refine ⟨_, rfl, ?_, ?_⟩
          · unfold ofS; rw [htb]; exact ho.below hb1
          · exact hbl.trans (hb1.mono hsz)
  · have h24' : decide ((24 : Int) < (s.size : Int)) = true := by simp; omega
    rw [ofS_long s h24]
    go_enter Try.func23, Try.ntmps23
    go_wp2_with fail
    go_ret
    exact ⟨_, rfl, Own.emptyNew w w.heap.size (Nat.le_refl _), (Below.refl _ _).alloc (Nat.le_refl _) _⟩

end Go.Proofs.Ytmemhmndfcdmbau
