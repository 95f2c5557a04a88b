import Derived.Test.YtoaeolpodjfbdaaBA1
import Derived.Deep.RegionHeld3
import Derived.Deep.AppendLies
import Derived.Deep.QuietTactic
import Derived.BigQuiet
import Derived.Laws.BytesArg
import Derived.Deep.Cut
import Derived.Deep.CutRange
import Derived.Deep.CutBlock
import Derived.Deep.DeepCutAuto
namespace Go.Proofs.Ytoaeolpodjfbdaa
open Go.RowKit

/-- A person is in a set of people. -/
def hasB (p n : Int) : Bool := bits BinOp.and IntKind.u8 p (personN n) != 0
def woN (p n : Int) : Int := if hasB p n then 0 else n

set_option maxHeartbeats 400000 in
theorem has_any (p n : Int) (w : World) :
    Calls Try.prog 37 #[.int .u8 p, .int .i64 n] w fun e w' => e = .returned (.bool (hasB p n)) ∧ w' = w := by
  go_enter Try.func37, Try.ntmps37
  go_wp2_with (go_at_call 36; refine (person_any _ _).mono ?_; rintro e w' ⟨rfl, rfl⟩)
  go_ret
  exact ⟨rfl, rfl⟩

theorem has_is {p n : Int} {x : Bool} (h : hasB p n = x) (w : World) : Calls Try.prog 37 #[.int .u8 p, .int .i64 n] w fun e w' => e = .returned (.bool x) ∧ w' = w := h ▸ has_any p n w

theorem textB_len {l : List Sg} (h : textB l = true) : l.length ≤ 24 := by
  simp [textB] at h
  exact h.1
theorem sgB_parts {s : Sg} (h : sgB s = true) : byteB s.1 = true ∧ whoB s.2.1 = true ∧ whoB s.2.2 = true ∧ (s.2.2 = 0 ∨ s.2.1 ≠ s.2.2) := by
  simp [sgB, signB] at h
  exact ⟨h.1.1.1, h.1.1.2, h.1.2, h.2⟩
theorem textB_all {l : List Sg} (h : textB l = true) : ∀ s ∈ l, sgB s = true := by
  simp [textB] at h
  exact fun s hs => h.2 s.1 s.2.1 s.2.2 hs
end Go.Proofs.Ytoaeolpodjfbdaa
namespace Go.Proofs.Ytoaeolpodjfbdaa
open Go.RowKit

/-- A value that owns a list of ints. -/
def OwnI (w : World) (B : Nat) (v : Value) (ns : List Int) : Prop := w.ownsRow B 3 1 v ns.length (ns.map (Value.int .i64))
theorem OwnI.shape {w : World} {B : Nat} {v : Value} {ns : List Int} (h : OwnI w B v ns) : ∃ a cap, v = .slice a ns.length cap := by
  have h' := h
  unfold OwnI at h'
  rcases h'.2 with ⟨rfl, h0⟩ | ⟨g, cap, cur, rfl, r⟩
  · exact ⟨none, 0, by rw [h0]⟩
  · exact ⟨_, _, rfl⟩
theorem OwnI.below {w w' : World} {B : Nat} {v : Value} {l : List Int} (h : OwnI w B v l) (hb : Below w.heap.size w w') : OwnI w' B v l := own_below h hb
theorem OwnI.base {w : World} {B B' : Nat} {v : Value} {l : List Int} (h : OwnI w B' v l) (hB : B ≤ B') : OwnI w B v l :=
  ⟨h.1, h.2.elim .inl (fun ⟨g, cap, cur, x, y, z⟩ => .inr ⟨g, cap, cur, x, Nat.le_trans hB y, z⟩)⟩
theorem OwnI.nil (w : World) (B : Nat) : OwnI w B (.slice none 0 0) [] := World.ownsRow_nil _ _ _ _
theorem OwnI.alloc {w : World} {B : Nat} {v : Value} {l : List Int} (h : OwnI w B v l) (o : Obj) : OwnI (w.alloc o) B v l := World.ownsRow.alloc h o
theorem OwnI.len {w : World} {B : Nat} {a : Option Addr} {n cap : Nat} {l : List Int} (h : OwnI w B (.slice a n cap) l) : n = l.length := by
  obtain ⟨a', c', he⟩ := h.shape
  simp only [Value.slice.injEq] at he
  exact he.2.1
theorem OwnI.row {w : World} {B : Nat} {a : Option Addr} {n cap : Nat} {l : List Int} (h : OwnI w B (.slice a n cap) l) : w.ownsRow B 3 1 (.slice a n cap) n (l.map (Value.int .i64)) := by
  have := h.len
  subst this
  exact h
theorem ownI_step {B : Nat} {w wr w1 : World} {a : Option Addr} {k c : Nat} {v' : Value} {l : List Int} {x : Int} {o : Obj} (ho : OwnI wr B (.slice a k c) l) (hbl : Below B w wr) (hB : B ≤ wr.heap.size)
    (hown : w1.ownsRow B 3 1 v' (k + 1) (l.map (Value.int .i64) ++ [.int .i64 x])) (hgrow : (wr.alloc o).grownBy w1 (Value.slice a k c).ownBlock) :
    ∃ a' c', v' = .slice a' (k + 1) c' ∧ OwnI w1 B (.slice a' (k + 1) c') (l ++ [x]) ∧ Below B w w1 := by
  have hk := ho.len
  have h1 : OwnI w1 B v' (l ++ [x]) := by
    unfold OwnI
    rw [List.length_append, List.map_append, show l.length + [x].length = k + 1 by simp; omega]
    exact hown
  obtain ⟨a', c', rfl⟩ := h1.shape
  have e : (l ++ [x]).length = k + 1 := by simp; omega
  rw [e] at h1 ⊢
  refine ⟨a', c', rfl, h1, ?_⟩
  exact (hbl.alloc hB _).grown hgrow (by simp; omega) (fun q hq => (ho.row.lt q hq).1)
theorem cell_new1 (w : World) (x : Value) (t : TypeId) : ∀ j u, [x][j]? = some u → (w.alloc (.cells #[x] t)).cell? ((⟨w.heap.size, 0, none⟩ : Addr).add j) = some u := by
  intro j u hj
  match j, hj with
  | 0, hj => simp at hj; subst hj; simp [Addr.add]
  | (j + 1), hj => simp at hj
theorem int_oneCell (x : Int) : ∀ u ∈ [Value.int .i64 x], u.oneCell' = true := by
  intro u hu
  simp at hu
  subst hu
  rfl
theorem Try.info3 : (Try.prog.info? 3).map (fun i => (i.zero, i.size, i.bytes)) = some (some (.int .i64 0), 1, 8) := by kernel_rfl

/-- 1 up to k - 1, those in the set. -/
def listTo (p : Int) (k : Nat) : List Int := ((List.range (k - 1)).map fun i : Nat => ((i : Int) + 1)).filter (hasB p)
def peopleL (p : Int) : List Int := listTo p 4
theorem listTo_yes (p : Int) (k : Nat) (h1 : 1 ≤ k) (h : hasB p (k : Int) = true) : listTo p (k + 1) = listTo p k ++ [(k : Int)] := by
  unfold listTo
  obtain ⟨j, rfl⟩ : ∃ j, k = j + 1 := ⟨k - 1, by omega⟩
  rw [show j + 1 + 1 - 1 = j + 1 by omega, List.range_succ, List.map_append, List.filter_append]
  have h' : hasB p ((j : Int) + 1) = true := by simpa using h
  simp [h']
theorem listTo_no (p : Int) (k : Nat) (h1 : 1 ≤ k) (h : hasB p (k : Int) = false) : listTo p (k + 1) = listTo p k := by
  unfold listTo
  obtain ⟨j, rfl⟩ : ∃ j, k = j + 1 := ⟨k - 1, by omega⟩
  rw [show j + 1 + 1 - 1 = j + 1 by omega, List.range_succ, List.map_append, List.filter_append]
  have h' : hasB p ((j : Int) + 1) = false := by simpa using h
  simp [h']

set_option maxRecDepth 100000 in
set_option maxHeartbeats 1000000 in
theorem list_any (p : Int) (w : World) :
    Calls Try.prog 24 #[.int .u8 p] w fun e w' => ∃ v, e = .returned v ∧ OwnI w' w.heap.size v (peopleL p) ∧ Below w.heap.size w w' := by
  obtain ⟨i0, hi, hz0, hz1, hz2⟩ := info_parts Try.info3
  go_enter Try.func24, Try.ntmps24
  go_wp2_with fail
  go_loopw [3, 4] (fun v i wr => ∃ (k : Nat) (a : Option Addr) (m c : Nat), 1 ≤ k ∧ k ≤ 4 ∧ i = .int .i64 (k : Int) ∧ v = .slice a m c ∧ m ≤ k ∧ OwnI wr w.heap.size (.slice a m c) (listTo p k) ∧ Below w.heap.size w wr) (fun _ i _ => 4 - (intOf i).toNat)
  case atStart => exact ⟨1, none, 0, 0, Nat.le_refl _, by omega, rfl, rfl, by omega, by simpa [listTo] using OwnI.nil _ _, Below.refl _ _⟩
  case round =>
    obtain ⟨k, a, m, c, hk1, hk4, rfl, rfl, hmk, ho, hbl⟩ := hrel
    have hsz := hbl.size
    have HO : Hid (OwnI wr w.heap.size (.slice a m c) (listTo p k)) := ho
    clear ho
    by_cases hlt : k ≤ 3
    · cases hq : hasB p (k : Int)
      · go_wp2_with (go_at_call 37; refine (has_is hq _).mono ?_; rintro e w1 ⟨rfl, rfl⟩)
        go_roundw
        case rel => exact ⟨k + 1, a, m, c, by omega, by omega, by go_num, rfl, by omega, by rw [listTo_no p k hk1 hq]; exact HO.out, hbl⟩
        case measure => simp [intOf]; omega
      · go_wp2_with (first | (go_at_call 37; refine (has_is hq _).mono ?_; rintro e w1 ⟨rfl, rfl⟩) | (at_builtin; refine wpList_append_own _ rfl (.tmp 12) (.tmp 14) 25 rfl w.heap.size 3 i0 (.int .i64 0) 1 8 Try.underlying25 hi hz0 hz1 hz2 rfl (by decide) (.slice a m c) _ _ rfl (HO.out.row.alloc _) ⟨_, 0, none⟩ 1 1 [.int .i64 (k : Int)] rfl rfl (cell_new1 _ _ _) (int_oneCell _) (by unfold maxLen; omega) (by omega) (by simp; omega) ?_; intro v' w2 hown' hgrow _))
        obtain ⟨a', c', rfl, ho2, hb2⟩ := ownI_step (x := (k : Int)) HO.out hbl hsz hown' hgrow
        rw [← listTo_yes p k hk1 hq] at ho2
        go_roundw
        case rel => exact ⟨k + 1, a', m + 1, c', by omega, by omega, by go_num, rfl, by omega, ho2, hb2⟩
        case measure => simp [intOf]; omega
    · obtain rfl : k = 4 := by omega
      go_wp2_with fail
      go_ret
      exact ⟨_, rfl, HO.out, hbl⟩

def orB (a b : Int) : Int := bits BinOp.or IntKind.u8 a b
def maskL (l : List Sg) : Int := l.foldl (fun m s => orB m (orB (personN s.2.1) (personN s.2.2))) 0
theorem maskL_take_succ (l : List Sg) (k : Nat) (hk : k < l.length) : maskL (l.take (k + 1)) = orB (maskL (l.take k)) (orB (personN (l.getD k (0, 0, 0)).2.1) (personN (l.getD k (0, 0, 0)).2.2)) := by
  have e : l.getD k (0, 0, 0) = l[k] := by simp [List.getD, hk]
  rw [e]
  unfold maskL
  rw [List.take_succ_eq_append_getElem hk, List.foldl_append]
  rfl
def byL (l : List Sg) : List Int := if textB l then peopleL (maskL l) else []

set_option maxRecDepth 100000 in
set_option maxHeartbeats 1000000 in
theorem namedIn_any (a : Option Addr) (n cap : Nat) (l : List Sg) (w : World) (h : Txt w a n cap l) :
    Calls Try.prog 23 #[.slice a n cap] w fun e w' => e = .returned (.int .u8 (maskL l)) ∧ Below w.heap.size w w' := by
  obtain ⟨rfl, hc, hm, hl⟩ := h
  unfold maxLen at hm
  rcases hl with rfl | ⟨b, off, rfl, hbw, hl⟩
  · go_enter Try.func23, Try.ntmps23
    go_wp2_with fail
    refine wp_loop_rounds 1 ?_
    rw [rounds_succ]
    go_wp2_with fail
    go_ret
    exact ⟨rfl, Below.refl _ _⟩
  · go_enter Try.func23, Try.ntmps23
    go_wp2_with fail
    go_loopw [3, 8] (fun mv i wr => ∃ (k : Nat), k ≤ l.length ∧ i = .int .i64 (k : Int) ∧ mv = .int .u8 (maskL (l.take k)) ∧ Below w.heap.size w wr) (fun _ i _ => l.length - (intOf i).toNat)
    case atStart => exact ⟨0, Nat.zero_le _, rfl, by simp [maskL], Below.refl _ _⟩
    case round =>
      obtain ⟨k, hk, rfl, rfl, hbl⟩ := hrel
      have hsz := hbl.size
      by_cases hlt : k < l.length
      · obtain ⟨c0, c1, c2⟩ := (hl.below hbl hbw) k hlt
        clear hl
        obtain ⟨s, hs⟩ : ∃ s, s = l.getD k (0, 0, 0) := ⟨_, rfl⟩
        rw [← hs] at c0 c1 c2
        have HS : Hid (s = l.getD k (0, 0, 0)) := hs
        obtain ⟨M, hM⟩ : ∃ M, M = maskL (l.take k) := ⟨_, rfl⟩
        have HM : Hid (M = maskL (l.take k)) := hM
        rw [← hM]
        clear hs hM
        go_wp2_with fail
        go_quiet ((go_at_call 36; exact Calls.quiet_of_same (person_any _ _)))
        go_wp2_with fail
        go_roundw
        case rel => exact ⟨k + 1, by omega, by go_num, by rw [maskL_take_succ l k hlt, ← HS.out, ← HM.out]; rfl, below_drewN (hbl.alloc hsz _) _⟩
        case measure => simp [intOf]; omega
      · obtain rfl : k = l.length := by omega
        rw [List.take_of_length_le (Nat.le_refl _)]
        go_wp2_with fail
        go_ret
        exact ⟨rfl, hbl⟩

set_option maxRecDepth 100000 in
set_option maxHeartbeats 1000000 in
theorem implTextBy_any (a : Option Addr) (n cap : Nat) (l : List Sg) (w : World) (h : Txt w a n cap l) :
    Calls Try.prog 6 #[.slice a n cap] w fun e w' => ∃ v, e = .returned v ∧ OwnI w' w.heap.size v (byL l) ∧ Below w.heap.size w w' := by
  have HH : Hid (Txt w a n cap l) := h
  clear h
  cases htb : textB l
  · rw [show byL l = [] from by simp [byL, htb]]
    go_enter Try.func6, Try.ntmps6
    go_wp2_with (go_at_call 22; refine (implTextOk_is HH.out htb).mono ?_; rintro e w1 ⟨rfl, hb1⟩)
    go_ret
    exact ⟨_, rfl, OwnI.nil _ _, hb1⟩
  · rw [show byL l = peopleL (maskL l) from by simp [byL, htb]]
    go_enter Try.func6, Try.ntmps6
    go_wp2_with (go_at_call 22; refine (implTextOk_is HH.out htb).mono ?_; rintro e w1 ⟨rfl, hb1⟩)
    have s1 := hb1.size
    have H1 : Hid (Txt w1 a n cap l) := HH.out.below hb1
    go_wp2_with fail
    refine (namedIn_any _ _ _ _ _ H1.out).mono ?_
    rintro e w2 ⟨rfl, hb2⟩
    have s2 := hb2.size
    obtain ⟨M, HM⟩ : ∃ M, Hid (maskL l = M) := ⟨_, rfl⟩
    rw [HM.out]
    go_wp2_with fail
    refine (list_any _ _).mono ?_
    rintro e w3 ⟨v, rfl, ho, hb3⟩
    obtain ⟨a2, c2, rfl⟩ := ho.shape
    have HO : Hid (OwnI w3 w.heap.size (.slice a2 (peopleL M).length c2) (peopleL (maskL l))) := by
      show OwnI w3 w.heap.size (.slice a2 (peopleL M).length c2) (peopleL (maskL l))
      rw [HM.out]
      exact OwnI.base ho (by omega)
    go_wp2_with fail
    go_ret
    exact ⟨_, rfl, HO.out, (hb1.trans (hb2.mono s1)).trans (hb3.mono (by omega))⟩
end Go.Proofs.Ytoaeolpodjfbdaa
namespace Go.Proofs.Ytoaeolpodjfbdaa
open Go.RowKit

def isBy (n : Int) (s : Sg) : Bool := s.2.1 == n || s.2.2 == n
def anyL (n : Int) (l : List Sg) : Bool := l.any (isBy n)
def byTo (l : List Sg) (k : Nat) : List Int := ((List.range (k - 1)).map fun i : Nat => ((i : Int) + 1)).filter (fun n => anyL n l)
def specByL (l : List Sg) : List Int := if textB l then byTo l 4 else []
theorem byTo_yes (l : List Sg) (k : Nat) (h1 : 1 ≤ k) (h : anyL (k : Int) l = true) : byTo l (k + 1) = byTo l k ++ [(k : Int)] := by
  unfold byTo
  obtain ⟨j, rfl⟩ : ∃ j, k = j + 1 := ⟨k - 1, by omega⟩
  rw [show j + 1 + 1 - 1 = j + 1 by omega, List.range_succ, List.map_append, List.filter_append]
  have h' : anyL ((j : Int) + 1) l = true := by simpa using h
  simp [h']
theorem byTo_no (l : List Sg) (k : Nat) (h1 : 1 ≤ k) (h : anyL (k : Int) l = false) : byTo l (k + 1) = byTo l k := by
  unfold byTo
  obtain ⟨j, rfl⟩ : ∃ j, k = j + 1 := ⟨k - 1, by omega⟩
  rw [show j + 1 + 1 - 1 = j + 1 by omega, List.range_succ, List.map_append, List.filter_append]
  have h' : anyL ((j : Int) + 1) l = false := by simpa using h
  simp [h']
theorem anyL_take_succ (n : Int) (l : List Sg) (k : Nat) (hk : k < l.length) : anyL n (l.take (k + 1)) = (anyL n (l.take k) || isBy n (l.getD k (0, 0, 0))) := by
  have e : l.getD k (0, 0, 0) = l[k] := by simp [List.getD, hk]
  rw [e]
  unfold anyL
  rw [List.take_succ_eq_append_getElem hk, List.any_append]
  simp
theorem OwnI.emptyNew (w : World) (B : Nat) (hB : B ≤ w.heap.size) : OwnI (w.alloc (.cells #[] 3)) B (.slice (some ⟨w.heap.size, 0, none⟩) 0 0) [] :=
  World.ownsRow_made w #[] 0 hB (Nat.zero_le _) rfl

set_option maxRecDepth 100000 in
set_option maxHeartbeats 2000000 in
theorem specTextBy_any (a : Option Addr) (n cap : Nat) (l : List Sg) (w : World) (h : Txt w a n cap l) :
    Calls Try.prog 8 #[.slice a n cap] w fun e w' => ∃ v, e = .returned v ∧ OwnI w' w.heap.size v (specByL l) ∧ Below w.heap.size w w' := by
  have HH : Hid (Txt w a n cap l) := h
  have hcap := h.2.1
  have hcm := h.2.2.1
  unfold maxLen at hcm
  have HL : Hid (n = l.length) := h.1
  obtain ⟨i0, hi, hz0, hz1, hz2⟩ := info_parts Try.info3
  cases htb : textB l
  · rw [show specByL l = [] from by simp [specByL, htb]]
    have HB : Hid (textB l = false) := htb
    clear h htb
    go_enter Try.func8, Try.ntmps8
    go_wp2_with fail
    refine wp_loop_rounds 1 ?_
    rw [rounds_succ]
    go_wp2_with fail
    refine (specTextOk_is (HH.out.below ((Below.refl _ _).alloc (Nat.le_refl _) _)) HB.out).mono ?_
    rintro e w1 ⟨rfl, hb1⟩
    have HO : Hid (OwnI w1 w.heap.size (.slice (some ⟨w.heap.size, 0, none⟩) 0 0) []) := (OwnI.emptyNew w w.heap.size (Nat.le_refl _)).below hb1
    go_wp2_with fail
    go_ret
    exact ⟨_, rfl, HO.out, ((Below.refl _ _).alloc (Nat.le_refl _) _).trans (hb1.mono (by simp))⟩
  · rw [show specByL l = byTo l 4 from by simp [specByL, htb]]
    have HB : Hid (textB l = true) := htb
    have hn24 : n ≤ 24 := by rw [HL.out]; exact textB_len htb
    clear h htb
    go_enter Try.func8, Try.ntmps8
    go_wp2_with fail
    go_loopw [3, 4] (fun v i wr => ∃ (k : Nat) (a' : Option Addr) (m c : Nat), 1 ≤ k ∧ k ≤ 4 ∧ i = .int .i64 (k : Int) ∧ v = .slice a' m c ∧ m ≤ k ∧ OwnI wr w.heap.size (.slice a' m c) (byTo l k) ∧ Below w.heap.size w wr) (fun _ i _ => 4 - (intOf i).toNat)
    case atStart => exact ⟨1, some ⟨w.heap.size, 0, none⟩, 0, 0, Nat.le_refl _, by omega, rfl, rfl, by omega, by simpa [byTo] using OwnI.emptyNew w w.heap.size (Nat.le_refl _), (Below.refl _ _).alloc (Nat.le_refl _) _⟩
    case round =>
      obtain ⟨k, a', m, c, hk1, hk4, rfl, rfl, hmk, ho, hbl⟩ := hrel
      have hsz := hbl.size
      have HO : Hid (OwnI wr w.heap.size (.slice a' m c) (byTo l k)) := ho
      clear ho
      by_cases hlt : k ≤ 3
      · go_wp2_with fail
        refine (specTextOk_is (HH.out.below hbl) HB.out).mono ?_
        rintro e w1 ⟨rfl, hb1⟩
        have s1 := hb1.size
        have hb01 := hbl.trans (hb1.mono hsz)
        have HO1 : Hid (OwnI w1 w.heap.size (.slice a' m c) (byTo l k)) := HO.out.below hb1
        have HT1 : Hid (Txt w1 a n cap l) := HH.out.below hb01
        go_wp2_with fail
        go_loop [5, 6] (fun sv i => ∃ j : Nat, j ≤ n ∧ i = .int .i64 (j : Int) ∧ sv = .bool (anyL (k : Int) (l.take j))) (fun _ i => n - (intOf i).toNat)
        case atStart => exact ⟨0, Nat.zero_le _, rfl, rfl⟩
        case round =>
          obtain ⟨j, hj, rfl, rfl⟩ := hrel
          by_cases hjn : j < n
          · have hjl : j < l.length := by rw [← HL.out]; exact hjn
            have HSu : Hid (anyL (k : Int) (l.take (j + 1)) = (anyL (k : Int) (l.take j) || isBy (k : Int) (l.getD j (0, 0, 0)))) := anyL_take_succ _ l j hjl
            rcases HT1.out.2.2.2 with hnil | ⟨b, off, rfl, hbw, hcells⟩
            · rw [hnil] at hjl; exact absurd hjl (by simp)
            · obtain ⟨c0, c1, c2⟩ := hcells j hjl
              clear hcells
              obtain ⟨s, hs⟩ : ∃ s, s = l.getD j (0, 0, 0) := ⟨_, rfl⟩
              rw [← hs] at c0 c1 c2
              have HSg : Hid (s = l.getD j (0, 0, 0)) := hs
              clear hs
              cases hb : anyL (k : Int) (l.take j)
              · cases h1 : (s.2.1 == (k : Int))
                · cases h2 : (s.2.2 == (k : Int))
                  · have HN : Hid (anyL (k : Int) (l.take (j + 1)) = false) := by show _ = _; rw [HSu.out, hb, ← HSg.out]; simp [isBy, h1, h2]
                    clear hb
                    go_wp2_with fail
                    go_round
                    case rel => exact ⟨j + 1, by omega, by go_num, by rw [HN.out]⟩
                    case measure => simp [intOf]; omega
                  · have HN : Hid (anyL (k : Int) (l.take (j + 1)) = true) := by show _ = _; rw [HSu.out, hb, ← HSg.out]; simp [isBy, h1, h2]
                    clear hb
                    go_wp2_with fail
                    go_round
                    case rel => exact ⟨j + 1, by omega, by go_num, by rw [HN.out]⟩
                    case measure => simp [intOf]; omega
                · have HN : Hid (anyL (k : Int) (l.take (j + 1)) = true) := by show _ = _; rw [HSu.out, hb, ← HSg.out]; simp [isBy, h1]
                  clear hb
                  go_wp2_with fail
                  go_round
                  case rel => exact ⟨j + 1, by omega, by go_num, by rw [HN.out]⟩
                  case measure => simp [intOf]; omega
              · have HN : Hid (anyL (k : Int) (l.take (j + 1)) = true) := by show _ = _; rw [HSu.out, hb]; simp
                clear hb
                go_wp2_with fail
                go_round
                case rel => exact ⟨j + 1, by omega, by go_num, by rw [HN.out]⟩
                case measure => simp [intOf]; omega
          · obtain rfl : j = n := by omega
            have eL : l.take j = l := List.take_of_length_le (by rw [← HL.out]; exact Nat.le_refl _)
            rw [eL]
            clear eL
            cases hb : anyL (k : Int) l
            · have HN : Hid (byTo l (k + 1) = byTo l k) := byTo_no l k hk1 hb
              clear hb
              go_wp2_with fail
              go_roundw
              case rel => exact ⟨k + 1, a', m, c, by omega, by omega, by go_num, rfl, by omega, by rw [HN.out]; exact HO1.out, hb01⟩
              case measure => simp [intOf]; omega
            · have HN : Hid (byTo l (k + 1) = byTo l k ++ [(k : Int)]) := byTo_yes l k hk1 hb
              clear hb
              go_wp2_with (at_builtin; refine wpList_append_own _ rfl (.tmp 42) (.tmp 44) 25 rfl w.heap.size 3 i0 (.int .i64 0) 1 8 Try.underlying25 hi hz0 hz1 hz2 rfl (by decide) (.slice a' m c) _ _ rfl (HO1.out.row.alloc _) ⟨_, 0, none⟩ 1 1 [.int .i64 (k : Int)] rfl rfl (cell_new1 _ _ _) (int_oneCell _) (by unfold maxLen; omega) (by omega) (by simp; omega) ?_; intro v' w2 hown' hgrow _)
              obtain ⟨a2, c2, rfl, ho2, hb2⟩ := ownI_step (x := (k : Int)) HO1.out hb01 (by omega) hown' hgrow
              rw [← HN.out] at ho2
              go_roundw
              case rel => exact ⟨k + 1, a2, m + 1, c2, by omega, by omega, by go_num, rfl, by omega, ho2, hb2⟩
              case measure => simp [intOf]; omega
      · obtain rfl : k = 4 := by omega
        go_wp2_with fail
        go_ret
        exact ⟨_, rfl, HO.out, hbl⟩
end Go.Proofs.Ytoaeolpodjfbdaa
namespace Go.Proofs.Ytoaeolpodjfbdaa
open Go.RowKit

/-- A slice value that reads as the ints l. -/
def Ints (w : World) (a : Option Addr) (n cap : Nat) (l : List Int) : Prop :=
  n = l.length ∧ n ≤ cap ∧ cap ≤ maxLen ∧ (l = [] ∨ ∃ b off, a = some ⟨b, off, none⟩ ∧ b < w.heap.size ∧ ∀ i, i < l.length → w.cell? ⟨b, off + i, none⟩ = some (.int .i64 (l.getD i 0)))
theorem Ints.below {w w' : World} {a : Option Addr} {n cap : Nat} {l : List Int} (h : Ints w a n cap l) (hb : Below w.heap.size w w') : Ints w' a n cap l := by
  obtain ⟨h1, h2, h3, h4⟩ := h
  refine ⟨h1, h2, h3, ?_⟩
  rcases h4 with h4 | ⟨b, off, h5, h6, h7⟩
  · exact .inl h4
  · exact .inr ⟨b, off, h5, Nat.lt_of_lt_of_le h6 hb.size, fun i hi => (hb.cell (p := ⟨b, _, none⟩) h6).trans (h7 i hi)⟩
theorem OwnI.ints {w : World} {B : Nat} {a : Option Addr} {n cap : Nat} {l : List Int} (h : OwnI w B (.slice a n cap) l) : Ints w a n cap l := by
  have hn := h.len
  have hr := h.row
  rcases hr.2 with ⟨hv, h0⟩ | ⟨g, cap', cur, hv, hB, hg, hnc, hcm, _⟩
  · simp only [Value.slice.injEq] at hv
    obtain ⟨rfl, rfl, rfl⟩ := hv
    exact ⟨hn, Nat.le_refl _, Nat.zero_le _, .inl (List.eq_nil_of_length_eq_zero hn.symm)⟩
  · simp only [Value.slice.injEq, true_and] at hv
    obtain ⟨rfl, rfl⟩ := hv
    refine ⟨hn, hnc, hcm, .inr ⟨g, 0, rfl, (Array.getElem?_eq_some_iff.1 hg).1, fun i hi => ?_⟩⟩
    rw [Nat.zero_add, hr.cellAt i (by omega), List.getElem?_map, List.getElem?_eq_getElem hi]
    simp [List.getD, hi]
theorem OwnI.shapeL {w : World} {B : Nat} {v : Value} {l : List Int} (h : OwnI w B v l) : ∃ a n cap, v = .slice a n cap ∧ n = l.length := by
  obtain ⟨a, cap, rfl⟩ := h.shape
  exact ⟨a, _, cap, rfl, rfl⟩

/-! Plain facts. -/
theorem hasB_or {m i o n : Int} (hm : 0 ≤ m ∧ m ≤ 7) (hi : whoB i = true) (ho : whoB o = true) (hn : n = 1 ∨ n = 2 ∨ n = 3) :
    hasB (orB m (orB (personN i) (personN o))) n = (hasB m n || (i == n || o == n)) ∧ 0 ≤ orB m (orB (personN i) (personN o)) ∧ orB m (orB (personN i) (personN o)) ≤ 7 := by
  simp [whoB] at hi ho
  rcases (show m = 0 ∨ m = 1 ∨ m = 2 ∨ m = 3 ∨ m = 4 ∨ m = 5 ∨ m = 6 ∨ m = 7 from by omega) with rfl | rfl | rfl | rfl | rfl | rfl | rfl | rfl <;>
  rcases (show i = 0 ∨ i = 1 ∨ i = 2 ∨ i = 3 from by omega) with rfl | rfl | rfl | rfl <;>
  rcases (show o = 0 ∨ o = 1 ∨ o = 2 ∨ o = 3 from by omega) with rfl | rfl | rfl | rfl <;>
  rcases hn with rfl | rfl | rfl <;> exact ⟨by decide, by decide, by decide⟩

theorem mask_fold (l : List Sg) (hs : ∀ s ∈ l, sgB s = true) : ∀ m : Int, 0 ≤ m ∧ m ≤ 7 → ∀ n : Int, n = 1 ∨ n = 2 ∨ n = 3 →
    hasB (l.foldl (fun m s => orB m (orB (personN s.2.1) (personN s.2.2))) m) n = (hasB m n || anyL n l) := by
  induction l with
  | nil => intro m _ n _; simp [anyL]
  | cons s l ih =>
    intro m hm n hn
    obtain ⟨_, hi, ho, _⟩ := sgB_parts (hs s (by simp))
    obtain ⟨e, h0, h7⟩ := hasB_or hm hi ho hn
    rw [List.foldl_cons, ih (fun t ht => hs t (by simp [ht])) _ ⟨h0, h7⟩ n hn, e]
    simp [anyL, isBy, Bool.or_assoc]
theorem hasB_zero (n : Int) : hasB 0 n = false := by
  unfold hasB
  have : bits BinOp.and IntKind.u8 0 (personN n) = 0 := by
    unfold personN
    split
    · rfl
    · split
      · rfl
      · split <;> rfl
  rw [this]
  rfl
theorem mask_has {l : List Sg} (h : textB l = true) {n : Int} (hn : n = 1 ∨ n = 2 ∨ n = 3) : hasB (maskL l) n = anyL n l := by
  unfold maskL
  rw [mask_fold l (textB_all h) 0 ⟨by decide, by decide⟩ n hn, hasB_zero]
  rfl
theorem by_eq (l : List Sg) : byL l = specByL l := by
  unfold byL specByL
  cases h : textB l
  · rfl
  · rw [if_pos rfl, if_pos rfl]
    unfold peopleL listTo byTo
    refine List.filter_congr (fun n hn => ?_)
    have : n = 1 ∨ n = 2 ∨ n = 3 := by
      obtain ⟨i, hi, rfl⟩ := List.mem_map.1 hn
      have := List.mem_range.1 hi
      omega
    exact mask_has h this

theorem mem_by {l : List Sg} (h : textB l = true) {n : Int} (hn : n = 1 ∨ n = 2 ∨ n = 3) (ha : anyL n l = true) : n ∈ specByL l := by
  unfold specByL
  rw [h, if_pos rfl]
  unfold byTo
  refine List.mem_filter.2 ⟨?_, ha⟩
  rcases hn with rfl | rfl | rfl
  · exact List.mem_map.2 ⟨0, by decide, rfl⟩
  · exact List.mem_map.2 ⟨1, by decide, rfl⟩
  · exact List.mem_map.2 ⟨2, by decide, rfl⟩
theorem in_by {l : List Sg} (h : textB l = true) {s : Sg} (hs : s ∈ l) (h0 : 0 < s.2.1) : s.2.1 ∈ specByL l := by
  have hw := (sgB_parts (textB_all h s hs)).2.1
  simp [whoB] at hw
  exact mem_by h (by omega) (List.any_eq_true.2 ⟨s, hs, by simp [isBy]⟩)
theorem out_by {l : List Sg} (h : textB l = true) {s : Sg} (hs : s ∈ l) (h0 : 0 < s.2.2) : s.2.2 ∈ specByL l := by
  have hw := (sgB_parts (textB_all h s hs)).2.2.1
  simp [whoB] at hw
  exact mem_by h (by omega) (List.any_eq_true.2 ⟨s, hs, by simp [isBy]⟩)
theorem by_le (l : List Sg) : (specByL l).length ≤ 3 := by
  unfold specByL
  cases textB l
  · simp
  · rw [if_pos rfl]
    unfold byTo
    refine Nat.le_trans (List.length_filter_le _ _) ?_
    decide
theorem by_asc (l : List Sg) : ∀ i, i + 1 < (specByL l).length → (specByL l).getD i 0 < (specByL l).getD (i + 1) 0 := by
  unfold specByL
  cases textB l
  · intro i hi; simp at hi
  · rw [if_pos rfl]
    have e : byTo l 4 = ([1, 2, 3] : List Int).filter (fun n => anyL n l) := rfl
    rw [e]
    cases h1 : anyL 1 l <;> cases h2 : anyL 2 l <;> cases h3 : anyL 3 l <;> simp only [List.filter_cons, List.filter_nil, h1, h2, h3, if_true, Bool.false_eq_true, if_false] <;> intro i hi <;> (have hi' := hi; simp at hi') <;> (first | omega | (rcases (show i = 0 ∨ i = 1 from by omega) with rfl | rfl <;> first | decide | (exfalso; simp at hi)))

end Go.Proofs.Ytoaeolpodjfbdaa
namespace Go.Proofs.Ytoaeolpodjfbdaa
open Go.RowKit

theorem take_eq_int (l m : List Int) (k : Nat) (h : k < l.length) (hl : l.length = m.length) (he : l.take k = m.take k) (hs : l.getD k 0 = m.getD k 0) : l.take (k + 1) = m.take (k + 1) := by
  rw [List.take_succ_eq_append_getElem h, List.take_succ_eq_append_getElem (by omega), he]
  simp [List.getD, h, show k < m.length by omega] at hs
  rw [hs]

set_option maxRecDepth 100000 in
set_option maxHeartbeats 1000000 in
theorem lmInts_any (a : Option Addr) (n cap : Nat) (l : List Int) (a' : Option Addr) (n' cap' : Nat) (m : List Int) (w : World) (h : Ints w a n cap l) (h' : Ints w a' n' cap' m) :
    Calls Try.prog 7 #[.slice a n cap, .slice a' n' cap'] w fun e w' => e = .returned (.bool (decide (l = m))) ∧ ∃ q, w' = w.drewN q := by
  obtain ⟨rfl, hc, hm, hl⟩ := h
  obtain ⟨rfl, hc', hm', hl'⟩ := h'
  unfold maxLen at hm hm'
  by_cases hlen : l.length = m.length
  · have hbq : ((l.length : Int) != (m.length : Int)) = false := by simp [hlen]
    rcases hl with rfl | ⟨b, off, rfl, hbw, hl⟩
    · obtain rfl : m = [] := List.eq_nil_of_length_eq_zero (by simpa using hlen.symm)
      go_enter Try.func7, Try.ntmps7
      go_wp2_with fail
      refine wp_loop_rounds 1 ?_
      rw [rounds_succ]
      go_wp2_with fail
      go_ret
      exact ⟨rfl, 0, rfl⟩
    · rcases hl' with rfl | ⟨b', off', rfl, hbw', hl'⟩
      · obtain rfl : l = [] := List.eq_nil_of_length_eq_zero (by simpa using hlen)
        go_enter Try.func7, Try.ntmps7
        go_wp2_with fail
        refine wp_loop_rounds 1 ?_
        rw [rounds_succ]
        go_wp2_with fail
        go_ret
        exact ⟨rfl, 0, rfl⟩
      · have HL : Hid (l.length = m.length) := hlen
        have hl1 : l.length ≤ m.length := by omega
        have hl2 : m.length ≤ l.length := by omega
        clear hlen
        go_enter Try.func7, Try.ntmps7
        go_wp2_with fail
        go_loopw [5] (fun i wr => ∃ (k q : Nat), k ≤ l.length ∧ i = .int .i64 k ∧ l.take k = m.take k ∧ wr = w.drewN q) (fun i _ => l.length - (intOf i).toNat)
        case atStart => exact ⟨0, 0, Nat.zero_le _, rfl, by simp, rfl⟩
        case round =>
          obtain ⟨k, q, hk, rfl, ht, rfl⟩ := hrel
          have HT : Hid (l.take k = m.take k) := ht
          clear ht
          by_cases hlt : k < l.length
          · have hlt' : k < m.length := by omega
            have hi1 : (k : Int) < (l.length : Int) := by omega
            have hi2 : (k : Int) < (m.length : Int) := by omega
            have c0 := hl k hlt
            have d0 := hl' k hlt'
            clear hl hl'
            obtain ⟨s, hs⟩ : ∃ s, s = l.getD k 0 := ⟨_, rfl⟩
            obtain ⟨t, ht⟩ : ∃ t, t = m.getD k 0 := ⟨_, rfl⟩
            rw [← hs] at c0
            rw [← ht] at d0
            have HS : Hid (s = l.getD k 0) := hs
            have HM : Hid (t = m.getD k 0) := ht
            clear hs ht
            by_cases hb : s = t
            · have HB : Hid (s = t) := hb
              have hbb : (s != t) = false := by simp [hb]
              clear hb
              go_wp2_with fail
              go_quiet (fail)
              go_wp2_with fail
              go_roundw
              case rel => exact ⟨k + 1, q + nq, by omega, by go_num, take_eq_int l m k hlt HL.out HT.out (by rw [← HS.out, ← HM.out]; exact HB.out), by first | rfl | rw [World.drewN_drewN]⟩
              case measure => simp [intOf]; omega
            · have HF : Hid (decide (l = m) = false) := decide_eq_false (fun e => hb (by rw [HS.out, HM.out, e]))
              have hbb : (s != t) = true := by simp [hb]
              clear hb
              go_wp2_with fail
              go_quiet (fail)
              go_wp2_with fail
              go_ret
              exact ⟨by rw [HF.out]; rfl, q + nq, by first | rfl | rw [World.drewN_drewN]⟩
          · go_wp2_with fail
            go_ret
            refine ⟨?_, q, rfl⟩
            have := HT.out
            rw [List.take_of_length_le (by omega), List.take_of_length_le (by omega)] at this
            rw [decide_eq_true this]; rfl
  · have hbq : ((l.length : Int) != (m.length : Int)) = true := by simp; omega
    rw [decide_eq_false (fun e => hlen (by rw [e]))]
    go_enter Try.func7, Try.ntmps7
    go_wp2_with fail
    go_ret
    exact ⟨rfl, 0, rfl⟩

theorem lmInts_same {a : Option Addr} {n cap : Nat} {l : List Int} {a' : Option Addr} {n' cap' : Nat} {w : World} (h : Ints w a n cap l) (h' : Ints w a' n' cap' l) :
    Calls Try.prog 7 #[.slice a n cap, .slice a' n' cap'] w fun e w' => e = .returned (.bool true) ∧ Below w.heap.size w w' := by
  refine (lmInts_any a n cap l a' n' cap' l w h h').mono ?_
  rintro e w' ⟨rfl, q, rfl⟩
  exact ⟨by simp, below_drewN (Below.refl _ _) _⟩

end Go.Proofs.Ytoaeolpodjfbdaa
namespace Go.Proofs.Ytoaeolpodjfbdaa
open Go.RowKit

set_option maxHeartbeats 1000000 in
theorem lmIn_yes {a : Option Addr} {n cap : Nat} {l : List Int} {x : Int} {w : World} (h : Ints w a n cap l) (hx : x ∈ l) :
    Calls Try.prog 10 #[.slice a n cap, .int .i64 x] w fun e w' => e = .returned (.bool true) ∧ w' = w := by
  obtain ⟨rfl, hc, hm, hl⟩ := h
  unfold maxLen at hm
  rcases hl with rfl | ⟨b, off, rfl, hbw, hl⟩
  · simp at hx
  · go_enter Try.func10, Try.ntmps10
    go_wp2_with fail
    go_loop [5] (fun i => ∃ k : Nat, k ≤ l.length ∧ i = .int .i64 (k : Int) ∧ x ∉ l.take k) (fun i => l.length - (intOf i).toNat)
    case atStart => exact ⟨0, Nat.zero_le _, rfl, by simp⟩
    case round =>
      obtain ⟨k, hk, rfl, hno⟩ := hrel
      have HN : Hid (x ∉ l.take k) := hno
      have HX : Hid (x ∈ l) := hx
      clear hno hx
      by_cases hlt : k < l.length
      · have c0 := hl k hlt
        clear hl
        obtain ⟨s, hs⟩ : ∃ s, s = l.getD k 0 := ⟨_, rfl⟩
        rw [← hs] at c0
        have HS : Hid (s = l.getD k 0) := hs
        clear hs
        by_cases hq : s = x
        · have hqb : (s == x) = true := by simp [hq]
          clear hq
          go_wp2_with fail
          go_ret
          exact ⟨rfl, rfl⟩
        · have hqb : (s == x) = false := by simp [hq]
          have HN2 : Hid (x ∉ l.take (k + 1)) := by
            show x ∉ l.take (k + 1)
            have e : s = l[k] := by rw [HS.out]; simp [List.getD, hlt]
            rw [List.take_succ_eq_append_getElem hlt, List.mem_append]
            rintro (h | h)
            · exact HN.out h
            · simp at h; exact hq (by rw [e, h])
          clear hq
          go_wp2_with fail
          go_round
          case rel => exact ⟨k + 1, by omega, by go_num, HN2.out⟩
          case measure => simp [intOf]; omega
      · exfalso
        have := HN.out
        rw [List.take_of_length_le (by omega)] at this
        exact this HX.out
end Go.Proofs.Ytoaeolpodjfbdaa
namespace Go.Proofs.Ytoaeolpodjfbdaa
open Go.RowKit

set_option maxHeartbeats 400000 in
theorem without_any (p n : Int) (w : World) :
    Calls Try.prog 39 #[.int .u8 p, .int .i64 n] w fun e w' => e = .returned (.int .i64 (woN p n)) ∧ w' = w := by
  cases h : hasB p n
  · rw [show woN p n = n from by simp [woN, h]]
    go_enter Try.func39, Try.ntmps39
    go_wp2_with (go_at_call 37; refine (has_is h _).mono ?_; rintro e w' ⟨rfl, rfl⟩)
    go_ret
    exact ⟨rfl, rfl⟩
  · rw [show woN p n = 0 from by simp [woN, h]]
    go_enter Try.func39, Try.ntmps39
    go_wp2_with (go_at_call 37; refine (has_is h _).mono ?_; rintro e w' ⟨rfl, rfl⟩)
    go_ret
    exact ⟨rfl, rfl⟩

set_option maxHeartbeats 400000 in
theorem notTakenOut_any (b i o p : Int) (w : World) :
    Calls Try.prog 28 #[.agg #[.int .u8 b, .int .i64 i, .int .i64 o], .int .u8 p] w fun e w' => e = .returned (.bool (!hasB p o)) ∧ Below w.heap.size w w' := by
  go_enter Try.func28, Try.ntmps28
  go_wp2_with (go_at_call 37; refine (has_any _ _ _).mono ?_; rintro e w' ⟨rfl, rfl⟩)
  go_ret
  exact ⟨rfl, (Below.refl _ _).alloc (Nat.le_refl _) _⟩

set_option maxHeartbeats 400000 in
theorem notPutIn_any (b i o p : Int) (w : World) :
    Calls Try.prog 29 #[.agg #[.int .u8 b, .int .i64 i, .int .i64 o], .int .u8 p] w fun e w' => e = .returned (.bool (!hasB p i)) ∧ Below w.heap.size w w' := by
  go_enter Try.func29, Try.ntmps29
  go_wp2_with (go_at_call 37; refine (has_any _ _ _).mono ?_; rintro e w' ⟨rfl, rfl⟩)
  go_ret
  exact ⟨rfl, (Below.refl _ _).alloc (Nat.le_refl _) _⟩

/-- What stays, and how. -/
def settled (p : Int) (q : Sg → Bool) (l : List Sg) : List Sg := (l.filter q).map fun s => (s.1, woN p s.2.1, woN p s.2.2)
def outQ (p : Int) (s : Sg) : Bool := !hasB p s.2.2
def inQ (p : Int) (s : Sg) : Bool := !hasB p s.2.1
def settleL (p : Int) (q : Sg → Bool) (l : List Sg) : List Sg := if textB l then settled p q l else []

theorem settled_take_yes (p : Int) (q : Sg → Bool) (l : List Sg) (k : Nat) (hk : k < l.length) (h : q (l.getD k (0, 0, 0)) = true) :
    settled p q (l.take (k + 1)) = settled p q (l.take k) ++ [((l.getD k (0, 0, 0)).1, woN p (l.getD k (0, 0, 0)).2.1, woN p (l.getD k (0, 0, 0)).2.2)] := by
  have e : l.getD k (0, 0, 0) = l[k] := by simp [List.getD, hk]
  rw [e] at h ⊢
  unfold settled
  rw [List.take_succ_eq_append_getElem hk, List.filter_append, List.map_append]
  simp [h]
theorem settled_take_no (p : Int) (q : Sg → Bool) (l : List Sg) (k : Nat) (hk : k < l.length) (h : q (l.getD k (0, 0, 0)) = false) :
    settled p q (l.take (k + 1)) = settled p q (l.take k) := by
  have e : l.getD k (0, 0, 0) = l[k] := by simp [List.getD, hk]
  rw [e] at h
  unfold settled
  rw [List.take_succ_eq_append_getElem hk, List.filter_append, List.map_append]
  simp [h]
theorem settled_len (p : Int) (q : Sg → Bool) (l : List Sg) : (settled p q l).length ≤ l.length := by
  simp only [settled, List.length_map]
  exact List.length_filter_le _ _
theorem notTakenOut_is {s : Sg} {p : Int} {x : Bool} (h : outQ p s = x) (w : World) :
    Calls Try.prog 28 #[.agg #[.int .u8 s.1, .int .i64 s.2.1, .int .i64 s.2.2], .int .u8 p] w fun e w' => e = .returned (.bool x) ∧ Below w.heap.size w w' := h ▸ notTakenOut_any s.1 s.2.1 s.2.2 p w
theorem notPutIn_is {s : Sg} {p : Int} {x : Bool} (h : inQ p s = x) (w : World) :
    Calls Try.prog 29 #[.agg #[.int .u8 s.1, .int .i64 s.2.1, .int .i64 s.2.2], .int .u8 p] w fun e w' => e = .returned (.bool x) ∧ Below w.heap.size w w' := h ▸ notPutIn_any s.1 s.2.1 s.2.2 p w

set_option maxRecDepth 100000 in
set_option maxHeartbeats 2000000 in
theorem settleOut_any (a : Option Addr) (n cap : Nat) (l : List Sg) (p : Int) (w : World) (h : Txt w a n cap l) :
    Calls Try.prog 27 #[.slice a n cap, .int .u8 p, .func (.func 28) #[] #[]] w fun e w' => ∃ v, e = .returned v ∧ Own w' w.heap.size v (settleL p (outQ p) l) ∧ Below w.heap.size w w' := by
  have h0 := h
  obtain ⟨rfl, hc, hm, hl⟩ := h
  unfold maxLen at hm
  cases htb : textB l
  · rw [show settleL p (outQ p) l = [] from by simp [settleL, htb]]
    have HH : Hid (Txt w a l.length cap l) := h0
    clear h0 hl
    go_enter Try.func27, Try.ntmps27
    go_wp2_with (go_at_call 22; refine (implTextOk_is HH.out htb).mono ?_; rintro e w1 ⟨rfl, hb1⟩)
    go_ret
    exact ⟨_, rfl, Own.nil _ _, hb1⟩
  · rw [show settleL p (outQ p) l = settled p (outQ p) l from by simp [settleL, htb]]
    have HH : Hid (Txt w a l.length cap l) := h0
    have h24 := textB_len htb
    obtain ⟨i0, hi, hz0, hz1, hz2⟩ := info_parts Try.info30
    clear h0
    rcases hl with rfl | ⟨b, off, rfl, hbw, hl⟩
    · go_enter Try.func27, Try.ntmps27
      go_wp2_with (go_at_call 22; refine (implTextOk_is HH.out htb).mono ?_; rintro e w1 ⟨rfl, hb1⟩)
      refine wp_loop_rounds 1 ?_
      rw [rounds_succ]
      go_wp2_with fail
      go_ret
      exact ⟨_, rfl, by simpa [settled] using Own.nil _ _, hb1⟩
    · go_enter Try.func27, Try.ntmps27
      go_wp2_with (go_at_call 22; refine (implTextOk_is HH.out htb).mono ?_; rintro e w1 ⟨rfl, hb1⟩)
      have s1 := hb1.size
      go_loopw [7, 15] (fun v i wr => ∃ (k : Nat) (a : Option Addr) (m c : Nat), k ≤ l.length ∧ i = .int .i64 k ∧ v = .slice a m c ∧ m ≤ k ∧ Own wr w.heap.size (.slice a m c) (settled p (outQ p) (l.take k)) ∧ Below w.heap.size w wr) (fun _ i _ => l.length - (intOf i).toNat)
      case atStart => exact ⟨0, none, 0, 0, Nat.zero_le _, rfl, rfl, Nat.le_refl _, by simpa [settled] using Own.nil _ _, hb1⟩
      case round =>
        obtain ⟨k, a, m, c, hk, rfl, rfl, hmk, ho, hbl⟩ := hrel
        have hsz := hbl.size
        have HO : Hid (Own wr w.heap.size (.slice a m c) (settled p (outQ p) (l.take k))) := ho
        clear ho hb1 s1 htb
        by_cases hlt : k < l.length
        · obtain ⟨c0, c1, c2⟩ := (hl.below hbl hbw) k hlt
          clear hl
          obtain ⟨s, hs⟩ : ∃ s, s = l.getD k (0, 0, 0) := ⟨_, rfl⟩
          rw [← hs] at c0 c1 c2
          have HS : Hid (s = l.getD k (0, 0, 0)) := hs
          clear hs
          cases hq : outQ p s
          · have HQ : Hid (outQ p s = false) := hq
            clear hq
            go_wp2_with (go_at_call 28; refine (notTakenOut_is (s := s) HQ.out _).mono ?_; rintro e w2 ⟨rfl, hb2⟩)
            have ho2 : Own w2 w.heap.size (.slice a m c) (settled p (outQ p) (l.take (k + 1))) := by
              rw [settled_take_no p (outQ p) l k hlt (by rw [← HS.out]; exact HQ.out)]
              exact Own.below (Own.alloc HO.out _) hb2
            go_roundw
            case rel => exact ⟨k + 1, a, m, c, by omega, by go_num, rfl, by omega, ho2, (hbl.alloc hsz _).trans (hb2.mono (by simp; omega))⟩
            case measure => simp [intOf]; omega
          · have HQ : Hid (outQ p s = true) := hq
            clear hq
            go_wp2_with (go_at_call 28; refine (notTakenOut_is (s := s) HQ.out _).mono ?_; rintro e w2 ⟨rfl, hb2⟩)
            have z2 := hb2.size
            simp only [World.size_alloc] at z2
            have ag : (Value.slice a m c).ownBlock ≠ some wr.heap.size := fun e => by have := (HO.out.row.lt _ e).2; omega
            have d0 : w2.cell? ⟨wr.heap.size, 0, none⟩ = some (.int .u8 s.1) := (hb2.cell (p := ⟨wr.heap.size, 0, none⟩) (by simp)).trans (by simp)
            have d1 : w2.cell? ⟨wr.heap.size, 1, none⟩ = some (.int .i64 s.2.1) := (hb2.cell (p := ⟨wr.heap.size, 1, none⟩) (by simp)).trans (by simp)
            have d2 : w2.cell? ⟨wr.heap.size, 2, none⟩ = some (.int .i64 s.2.2) := (hb2.cell (p := ⟨wr.heap.size, 2, none⟩) (by simp)).trans (by simp)
            have HO2 : Hid (Own w2 w.heap.size (.slice a m c) (settled p (outQ p) (l.take k))) := Own.below (Own.alloc HO.out _) hb2
            clear c0 c1 c2
            go_region_held3 (fun w' => w'.cell? ⟨wr.heap.size, 0, none⟩ = some (.int .u8 s.1) ∧ w'.cell? ⟨wr.heap.size, 1, none⟩ = some (.int .i64 s.2.1) ∧ w'.cell? ⟨wr.heap.size, 2, none⟩ = some (.int .i64 s.2.2))
              (first
                | go_keep
                | (go_split_ands
                   refine ⟨?_, ?_, ?_⟩
                   · (rw [hgrow.cell_far _ (by simp; omega) (Ne.symm ag)]; assumption)
                   · (rw [hgrow.cell_far _ (by simp; omega) (Ne.symm ag)]; assumption)
                   · (rw [hgrow.cell_far _ (by simp; omega) (Ne.symm ag)]; assumption)))
              ((first
                | (go_at_call 39; refine (without_any _ _ _).mono ?_; rintro e w' ⟨rfl, rfl⟩)
                | (refine step_append_lies _ (by rfl) _ _ _ (by rfl) w.heap.size 30 i0 _ 3 24 Try.underlying23 hi hz0 hz1 hz2 rfl (by omega) (.slice a m c) m (flat (settled p (outQ p) (l.take k))) (by rfl) ((HO2.out.row.alloc _).drew) ⟨w2.heap.size, 0, none⟩ 1 1 [.int .u8 s.1, .int .i64 (woN p s.2.1), .int .i64 (woN p s.2.2)] (by rfl) (by rfl) (World.news_of_block (cs := #[.int .u8 s.1, .int .i64 (woN p s.2.1), .int .i64 (woN p s.2.2)]) (t := 30) (fr := (0, 0)) (heap_alloc_new w2 _)) (three_oneCell _ _ _) (by omega) (by unfold maxLen; omega) (by omega) (by simp; omega) (w2.heap.size + 1) (by simp) ?_; intro gg cc w3 hown3 hgrow hat hltg)))
            obtain ⟨a', c', hv, ho3, hb3⟩ := own_step (s := (s.1, woN p s.2.1, woN p s.2.2)) HO2.out ((hbl.alloc hsz _).trans (hb2.mono (by simp; omega))) (by omega) hown3 (grown_of_drew hgrow)
            have ho3' : Own w3 w.heap.size (.slice a' (m + 1) c') (settled p (outQ p) (l.take (k + 1))) := by
              rw [settled_take_yes p (outQ p) l k hlt (by rw [← HS.out]; exact HQ.out), ← HS.out]
              exact ho3
            have HV : Hid (Value.slice (some ⟨gg, 0, none⟩) (m + 1) cc = .slice a' (m + 1) c') := hv
            have HO3 : Hid (Own w3 w.heap.size (.slice a' (m + 1) c') (settled p (outQ p) (l.take (k + 1)))) := ho3'
            clear hv ho3 ho3' hown3 hgrow hat
            go_wp2_with fail
            go_roundw
            case rel => exact ⟨k + 1, a', m + 1, c', by omega, by go_num, HV.out, by omega, HO3.out, hb3⟩
            case measure => simp [intOf]; omega
        · obtain rfl : k = l.length := by omega
          have ho := HO.out
          rw [List.take_of_length_le (Nat.le_refl _)] at ho
          go_wp2_with fail
          go_ret
          exact ⟨_, rfl, ho, hbl⟩

set_option maxRecDepth 100000 in
set_option maxHeartbeats 2000000 in
theorem settleIn_any (a : Option Addr) (n cap : Nat) (l : List Sg) (p : Int) (w : World) (h : Txt w a n cap l) :
    Calls Try.prog 27 #[.slice a n cap, .int .u8 p, .func (.func 29) #[] #[]] w fun e w' => ∃ v, e = .returned v ∧ Own w' w.heap.size v (settleL p (inQ p) l) ∧ Below w.heap.size w w' := by
  have h0 := h
  obtain ⟨rfl, hc, hm, hl⟩ := h
  unfold maxLen at hm
  cases htb : textB l
  · rw [show settleL p (inQ p) l = [] from by simp [settleL, htb]]
    have HH : Hid (Txt w a l.length cap l) := h0
    clear h0 hl
    go_enter Try.func27, Try.ntmps27
    go_wp2_with (go_at_call 22; refine (implTextOk_is HH.out htb).mono ?_; rintro e w1 ⟨rfl, hb1⟩)
    go_ret
    exact ⟨_, rfl, Own.nil _ _, hb1⟩
  · rw [show settleL p (inQ p) l = settled p (inQ p) l from by simp [settleL, htb]]
    have HH : Hid (Txt w a l.length cap l) := h0
    have h24 := textB_len htb
    obtain ⟨i0, hi, hz0, hz1, hz2⟩ := info_parts Try.info30
    clear h0
    rcases hl with rfl | ⟨b, off, rfl, hbw, hl⟩
    · go_enter Try.func27, Try.ntmps27
      go_wp2_with (go_at_call 22; refine (implTextOk_is HH.out htb).mono ?_; rintro e w1 ⟨rfl, hb1⟩)
      refine wp_loop_rounds 1 ?_
      rw [rounds_succ]
      go_wp2_with fail
      go_ret
      exact ⟨_, rfl, by simpa [settled] using Own.nil _ _, hb1⟩
    · go_enter Try.func27, Try.ntmps27
      go_wp2_with (go_at_call 22; refine (implTextOk_is HH.out htb).mono ?_; rintro e w1 ⟨rfl, hb1⟩)
      have s1 := hb1.size
      go_loopw [7, 15] (fun v i wr => ∃ (k : Nat) (a : Option Addr) (m c : Nat), k ≤ l.length ∧ i = .int .i64 k ∧ v = .slice a m c ∧ m ≤ k ∧ Own wr w.heap.size (.slice a m c) (settled p (inQ p) (l.take k)) ∧ Below w.heap.size w wr) (fun _ i _ => l.length - (intOf i).toNat)
      case atStart => exact ⟨0, none, 0, 0, Nat.zero_le _, rfl, rfl, Nat.le_refl _, by simpa [settled] using Own.nil _ _, hb1⟩
      case round =>
        obtain ⟨k, a, m, c, hk, rfl, rfl, hmk, ho, hbl⟩ := hrel
        have hsz := hbl.size
        have HO : Hid (Own wr w.heap.size (.slice a m c) (settled p (inQ p) (l.take k))) := ho
        clear ho hb1 s1 htb
        by_cases hlt : k < l.length
        · obtain ⟨c0, c1, c2⟩ := (hl.below hbl hbw) k hlt
          clear hl
          obtain ⟨s, hs⟩ : ∃ s, s = l.getD k (0, 0, 0) := ⟨_, rfl⟩
          rw [← hs] at c0 c1 c2
          have HS : Hid (s = l.getD k (0, 0, 0)) := hs
          clear hs
          cases hq : inQ p s
          · have HQ : Hid (inQ p s = false) := hq
            clear hq
            go_wp2_with (go_at_call 29; refine (notPutIn_is (s := s) HQ.out _).mono ?_; rintro e w2 ⟨rfl, hb2⟩)
            have ho2 : Own w2 w.heap.size (.slice a m c) (settled p (inQ p) (l.take (k + 1))) := by
              rw [settled_take_no p (inQ p) l k hlt (by rw [← HS.out]; exact HQ.out)]
              exact Own.below (Own.alloc HO.out _) hb2
            go_roundw
            case rel => exact ⟨k + 1, a, m, c, by omega, by go_num, rfl, by omega, ho2, (hbl.alloc hsz _).trans (hb2.mono (by simp; omega))⟩
            case measure => simp [intOf]; omega
          · have HQ : Hid (inQ p s = true) := hq
            clear hq
            go_wp2_with (go_at_call 29; refine (notPutIn_is (s := s) HQ.out _).mono ?_; rintro e w2 ⟨rfl, hb2⟩)
            have z2 := hb2.size
            simp only [World.size_alloc] at z2
            have ag : (Value.slice a m c).ownBlock ≠ some wr.heap.size := fun e => by have := (HO.out.row.lt _ e).2; omega
            have d0 : w2.cell? ⟨wr.heap.size, 0, none⟩ = some (.int .u8 s.1) := (hb2.cell (p := ⟨wr.heap.size, 0, none⟩) (by simp)).trans (by simp)
            have d1 : w2.cell? ⟨wr.heap.size, 1, none⟩ = some (.int .i64 s.2.1) := (hb2.cell (p := ⟨wr.heap.size, 1, none⟩) (by simp)).trans (by simp)
            have d2 : w2.cell? ⟨wr.heap.size, 2, none⟩ = some (.int .i64 s.2.2) := (hb2.cell (p := ⟨wr.heap.size, 2, none⟩) (by simp)).trans (by simp)
            have HO2 : Hid (Own w2 w.heap.size (.slice a m c) (settled p (inQ p) (l.take k))) := Own.below (Own.alloc HO.out _) hb2
            clear c0 c1 c2
            go_region_held3 (fun w' => w'.cell? ⟨wr.heap.size, 0, none⟩ = some (.int .u8 s.1) ∧ w'.cell? ⟨wr.heap.size, 1, none⟩ = some (.int .i64 s.2.1) ∧ w'.cell? ⟨wr.heap.size, 2, none⟩ = some (.int .i64 s.2.2))
              (first
                | go_keep
                | (go_split_ands
                   refine ⟨?_, ?_, ?_⟩
                   · (rw [hgrow.cell_far _ (by simp; omega) (Ne.symm ag)]; assumption)
                   · (rw [hgrow.cell_far _ (by simp; omega) (Ne.symm ag)]; assumption)
                   · (rw [hgrow.cell_far _ (by simp; omega) (Ne.symm ag)]; assumption)))
              ((first
                | (go_at_call 39; refine (without_any _ _ _).mono ?_; rintro e w' ⟨rfl, rfl⟩)
                | (refine step_append_lies _ (by rfl) _ _ _ (by rfl) w.heap.size 30 i0 _ 3 24 Try.underlying23 hi hz0 hz1 hz2 rfl (by omega) (.slice a m c) m (flat (settled p (inQ p) (l.take k))) (by rfl) ((HO2.out.row.alloc _).drew) ⟨w2.heap.size, 0, none⟩ 1 1 [.int .u8 s.1, .int .i64 (woN p s.2.1), .int .i64 (woN p s.2.2)] (by rfl) (by rfl) (World.news_of_block (cs := #[.int .u8 s.1, .int .i64 (woN p s.2.1), .int .i64 (woN p s.2.2)]) (t := 30) (fr := (0, 0)) (heap_alloc_new w2 _)) (three_oneCell _ _ _) (by omega) (by unfold maxLen; omega) (by omega) (by simp; omega) (w2.heap.size + 1) (by simp) ?_; intro gg cc w3 hown3 hgrow hat hltg)))
            obtain ⟨a', c', hv, ho3, hb3⟩ := own_step (s := (s.1, woN p s.2.1, woN p s.2.2)) HO2.out ((hbl.alloc hsz _).trans (hb2.mono (by simp; omega))) (by omega) hown3 (grown_of_drew hgrow)
            have ho3' : Own w3 w.heap.size (.slice a' (m + 1) c') (settled p (inQ p) (l.take (k + 1))) := by
              rw [settled_take_yes p (inQ p) l k hlt (by rw [← HS.out]; exact HQ.out), ← HS.out]
              exact ho3
            have HV : Hid (Value.slice (some ⟨gg, 0, none⟩) (m + 1) cc = .slice a' (m + 1) c') := hv
            have HO3 : Hid (Own w3 w.heap.size (.slice a' (m + 1) c') (settled p (inQ p) (l.take (k + 1)))) := ho3'
            clear hv ho3 ho3' hown3 hgrow hat
            go_wp2_with fail
            go_roundw
            case rel => exact ⟨k + 1, a', m + 1, c', by omega, by go_num, HV.out, by omega, HO3.out, hb3⟩
            case measure => simp [intOf]; omega
        · obtain rfl : k = l.length := by omega
          have ho := HO.out
          rw [List.take_of_length_le (Nat.le_refl _)] at ho
          go_wp2_with fail
          go_ret
          exact ⟨_, rfl, ho, hbl⟩
end Go.Proofs.Ytoaeolpodjfbdaa
namespace Go.Proofs.Ytoaeolpodjfbdaa
open Go.RowKit

/-- A value that owns a list of bytes. -/
def OwnB (w : World) (B : Nat) (v : Value) (ns : List Int) : Prop := w.ownsRow B 5 1 v ns.length (ns.map (Value.int .u8))

theorem OwnB.shape {w : World} {B : Nat} {v : Value} {ns : List Int} (h : OwnB w B v ns) : ∃ a cap, v = .slice a ns.length cap := by
  have h' := h
  unfold OwnB at h'
  rcases h'.2 with ⟨rfl, h0⟩ | ⟨g, cap, cur, rfl, r⟩
  · exact ⟨none, 0, by rw [h0]⟩
  · exact ⟨_, _, rfl⟩
theorem OwnB.below {w w' : World} {B : Nat} {v : Value} {l : List Int} (h : OwnB w B v l) (hb : Below w.heap.size w w') : OwnB w' B v l := own_below h hb
theorem OwnB.nil (w : World) (B : Nat) : OwnB w B (.slice none 0 0) [] := World.ownsRow_nil _ _ _ _
theorem OwnB.alloc {w : World} {B : Nat} {v : Value} {l : List Int} (h : OwnB w B v l) (o : Obj) : OwnB (w.alloc o) B v l := World.ownsRow.alloc h o
theorem OwnB.emptyNew (w : World) (B : Nat) (hB : B ≤ w.heap.size) : OwnB (w.alloc (.cells #[] 5)) B (.slice (some ⟨w.heap.size, 0, none⟩) 0 0) [] :=
  World.ownsRow_made w #[] 0 hB (Nat.zero_le _) rfl
theorem OwnB.len {w : World} {B : Nat} {a : Option Addr} {n cap : Nat} {l : List Int} (h : OwnB w B (.slice a n cap) l) : n = l.length := by
  obtain ⟨a', c', he⟩ := h.shape
  simp only [Value.slice.injEq] at he
  exact he.2.1
theorem OwnB.row {w : World} {B : Nat} {a : Option Addr} {n cap : Nat} {l : List Int} (h : OwnB w B (.slice a n cap) l) : w.ownsRow B 5 1 (.slice a n cap) n (l.map (Value.int .u8)) := by
  have := h.len
  subst this
  exact h

theorem ownB_step {B : Nat} {w wr w1 : World} {a : Option Addr} {k c : Nat} {v' : Value} {l : List Int} {x : Int} {o : Obj} (ho : OwnB wr B (.slice a k c) l) (hbl : Below B w wr) (hB : B ≤ wr.heap.size)
    (hown : w1.ownsRow B 5 1 v' (k + 1) (l.map (Value.int .u8) ++ [.int .u8 x])) (hgrow : (wr.alloc o).grownBy w1 (Value.slice a k c).ownBlock) :
    ∃ a' c', v' = .slice a' (k + 1) c' ∧ OwnB w1 B (.slice a' (k + 1) c') (l ++ [x]) ∧ Below B w w1 := by
  have hk := ho.len
  have h1 : OwnB w1 B v' (l ++ [x]) := by
    unfold OwnB
    rw [List.length_append, List.map_append, show l.length + [x].length = k + 1 by simp; omega]
    exact hown
  obtain ⟨a', c', rfl⟩ := h1.shape
  have e : (l ++ [x]).length = k + 1 := by simp; omega
  rw [e] at h1 ⊢
  refine ⟨a', c', rfl, h1, ?_⟩
  exact (hbl.alloc hB _).grown hgrow (by simp; omega) (fun q hq => (ho.row.lt q hq).1)

theorem convert_own {w : World} {B : Nat} {a : Option Addr} {n cap : Nat} {ns : List Int} (h : OwnB w B (.slice a n cap) ns) :
    (convert 22 9 (.slice a n cap)).run Try.prog w = .ok (.string (strOfNums ns)) w := by
  have hn := h.len
  have hr := h.row
  rcases hr.2 with ⟨hv, h0⟩ | ⟨g, cap', cur, hv, r⟩
  · simp only [Value.slice.injEq] at hv
    obtain ⟨rfl, rfl, rfl⟩ := hv
    have : ns = [] := List.eq_nil_of_length_eq_zero hn.symm
    subst this
    exact run_convert_bytes_nil w 22 5 Try.underlying22 Try.underlying5 0 0 _ Try.underlying9
  · simp only [Value.slice.injEq, true_and] at hv
    obtain ⟨rfl, rfl⟩ := hv
    refine run_convert_bytes_arg w 22 5 Try.underlying22 Try.underlying5 g 0 n cap ns hn.symm ?_ _ Try.underlying9
    intro i hi
    rw [Nat.zero_add, hr.cellAt i (by omega)]
    rw [List.getElem?_map, List.getElem?_eq_getElem (by omega)]
    simp [List.getD, show i < ns.length by omega]

theorem cell_one_new' (w : World) (x : Value) (t : TypeId) : ∀ j u, [x][j]? = some u → (w.alloc (.cells #[x] t)).cell? ((⟨w.heap.size, 0, none⟩ : Addr).add j) = some u := by
  intro j u hj
  match j, hj with
  | 0, hj => simp at hj; subst hj; simp [Addr.add]
  | (j + 1), hj => simp at hj
theorem byte_oneCell (x : Int) : ∀ u ∈ [Value.int .u8 x], u.oneCell' = true := by
  intro u hu
  simp at hu
  subst hu
  rfl

theorem Try.info5 : (Try.prog.info? 5).map (fun i => (i.zero, i.size, i.bytes)) = some (some (.int .u8 0), 1, 1) := by kernel_rfl

def bytesOf (l : List Sg) : List Int := l.map (·.1)
theorem bytesOf_take_succ (l : List Sg) (k : Nat) (hk : k < l.length) : bytesOf (l.take (k + 1)) = bytesOf (l.take k) ++ [(l.getD k (0, 0, 0)).1] := by
  have e : l.getD k (0, 0, 0) = l[k] := by simp [List.getD, hk]
  rw [e]
  unfold bytesOf
  rw [List.take_succ_eq_append_getElem hk, List.map_append]
  rfl

set_option maxHeartbeats 1000000 in
theorem textBytes_any (a : Option Addr) (n cap : Nat) (l : List Sg) (w : World) (h : Txt w a n cap l) (hn : n ≤ 1048576) :
    Calls Try.prog 26 #[.slice a n cap] w fun e w' => e = .returned (.string (strOfNums (bytesOf l))) ∧ Below w.heap.size w w' := by
  obtain ⟨rfl, hc, hm, hl⟩ := h
  unfold maxLen at hm
  obtain ⟨i0, hi, hz0, hz1, hz2⟩ := info_parts Try.info5
  rcases hl with rfl | ⟨b, off, rfl, hbw, hl⟩
  · have hcv := convert_own (OwnB.nil w 0)
    go_enter Try.func26, Try.ntmps26
    go_wp2_with fail
    refine wp_loop_rounds 1 ?_
    rw [rounds_succ]
    go_wp2_with fail
    go_ret
    exact ⟨rfl, Below.refl _ _⟩
  · go_enter Try.func26, Try.ntmps26
    go_wp2_with fail
    go_loopw [3, 8] (fun v i wr => ∃ (k : Nat) (a : Option Addr) (c : Nat), k ≤ l.length ∧ i = .int .i64 k ∧ v = .slice a k c ∧ OwnB wr w.heap.size (.slice a k c) (bytesOf (l.take k)) ∧ Below w.heap.size w wr) (fun _ i _ => l.length - (intOf i).toNat)
    case atStart => exact ⟨0, none, 0, Nat.zero_le _, rfl, rfl, by simpa [bytesOf] using OwnB.nil _ _, Below.refl _ _⟩
    case round =>
      obtain ⟨k, a, c, hk, rfl, rfl, ho, hbl⟩ := hrel
      have hsz := hbl.size
      by_cases hlt : k < l.length
      · have HO : Hid (OwnB wr w.heap.size (.slice a k c) (bytesOf (l.take k))) := ho
        clear ho
        obtain ⟨c0, c1, c2⟩ := (hl.below hbl hbw) k hlt
        clear hl
        obtain ⟨s, hs⟩ : ∃ s, s = l.getD k (0, 0, 0) := ⟨_, rfl⟩
        rw [← hs] at c0 c1 c2
        have HS : Hid (s = l.getD k (0, 0, 0)) := hs
        clear hs
        go_wp2_with (at_builtin; refine wpList_append_own _ rfl (.tmp 12) (.tmp 15) 22 rfl w.heap.size 5 i0 (.int .u8 0) 1 1 Try.underlying22 hi hz0 hz1 hz2 rfl (by decide) (.slice a k c) _ _ rfl ((HO.out.row.alloc _).alloc _) ⟨wr.heap.size + 1, 0, none⟩ 1 1 [.int .u8 s.1] rfl rfl (by have e := cell_one_new' (wr.alloc (.cells #[.int .u8 s.1, .int .i64 s.2.1, .int .i64 s.2.2] 30)) (.int .u8 s.1) 5; simpa using e) (byte_oneCell _) (by unfold maxLen; omega) (by omega) (by simp; omega) ?_; intro v' w1 hown' hgrow _)
        obtain ⟨a', c', rfl, ho1, hb1⟩ := ownB_step (x := s.1) (HO.out.alloc _) (hbl.alloc hsz _) (by simp; omega) hown' hgrow
        rw [HS.out, ← bytesOf_take_succ l k hlt] at ho1
        go_roundw
        case rel => exact ⟨k + 1, a', c', by omega, by go_num, rfl, ho1, hb1⟩
        case measure => simp [intOf]; omega
      · obtain rfl : k = l.length := by omega
        rw [List.take_of_length_le (Nat.le_refl _)] at ho
        have hcv := convert_own ho
        clear ho
        go_wp2_with fail
        go_ret
        exact ⟨rfl, hbl⟩

def nowL (l : List Sg) : List Int := bytesOf (settleL 7 (outQ 7) l)
def wasL (l : List Sg) : List Int := bytesOf (settleL 7 (inQ 7) l)
theorem settleL_len (p : Int) (q : Sg → Bool) (l : List Sg) : (settleL p q l).length ≤ 24 := by
  unfold settleL
  cases h : textB l
  · simp
  · have := settled_len p q l
    have := textB_len h
    simp
    omega

set_option maxHeartbeats 400000 in
theorem implTextNow_any (a : Option Addr) (n cap : Nat) (l : List Sg) (w : World) (h : Txt w a n cap l) :
    Calls Try.prog 11 #[.slice a n cap] w fun e w' => e = .returned (.string (strOfNums (nowL l))) ∧ Below w.heap.size w w' := by
  go_enter Try.func11, Try.ntmps11
  go_wp2_with fail
  refine (settleOut_any a n cap l 7 _ h).mono ?_
  rintro e w1 ⟨v, rfl, ho1, hb1⟩
  obtain ⟨a1, p1, rfl, ht1⟩ := ho1.shape
  have hl := settleL_len 7 (outQ 7) l
  have s1 := hb1.size
  go_wp2_with fail
  refine (textBytes_any _ _ _ _ _ ht1 (by omega)).mono ?_
  rintro e w2 ⟨rfl, hb2⟩
  go_wp2_with fail
  go_ret
  exact ⟨rfl, hb1.trans (hb2.mono s1)⟩

set_option maxHeartbeats 400000 in
theorem implTextWas_any (a : Option Addr) (n cap : Nat) (l : List Sg) (w : World) (h : Txt w a n cap l) :
    Calls Try.prog 12 #[.slice a n cap] w fun e w' => e = .returned (.string (strOfNums (wasL l))) ∧ Below w.heap.size w w' := by
  go_enter Try.func12, Try.ntmps12
  go_wp2_with fail
  refine (settleIn_any a n cap l 7 _ h).mono ?_
  rintro e w1 ⟨v, rfl, ho1, hb1⟩
  obtain ⟨a1, p1, rfl, ht1⟩ := ho1.shape
  have hl := settleL_len 7 (inQ 7) l
  have s1 := hb1.size
  go_wp2_with fail
  refine (textBytes_any _ _ _ _ _ ht1 (by omega)).mono ?_
  rintro e w2 ⟨rfl, hb2⟩
  go_wp2_with fail
  go_ret
  exact ⟨rfl, hb1.trans (hb2.mono s1)⟩
end Go.Proofs.Ytoaeolpodjfbdaa
namespace Go.Proofs.Ytoaeolpodjfbdaa
open Go.RowKit

theorem hasB7 {n : Int} (h : whoB n = true) : hasB 7 n = !(n == 0) := by
  simp [whoB] at h
  rcases (show n = 0 ∨ n = 1 ∨ n = 2 ∨ n = 3 from by omega) with rfl | rfl | rfl | rfl <;> rfl
def noOut (s : Sg) : Bool := s.2.2 == 0
def noIn (s : Sg) : Bool := s.2.1 == 0
def pickL (q : Sg → Bool) (l : List Sg) : List Int := if textB l then bytesOf (l.filter q) else []

theorem filter_congr' {q r : Sg → Bool} {l : List Sg} (h : ∀ s ∈ l, q s = r s) : l.filter q = l.filter r := List.filter_congr h

theorem nowL_eq (l : List Sg) : nowL l = pickL noOut l := by
  unfold nowL pickL settleL
  cases h : textB l
  · rfl
  · simp only [if_true]
    have e : l.filter (outQ 7) = l.filter noOut := filter_congr' (fun s hs => by
      have := sgB_parts (textB_all h s hs)
      simp [outQ, noOut, hasB7 this.2.2.1])
    unfold settled bytesOf
    rw [e, List.map_map]
    rfl
theorem wasL_eq (l : List Sg) : wasL l = pickL noIn l := by
  unfold wasL pickL settleL
  cases h : textB l
  · rfl
  · simp only [if_true]
    have e : l.filter (inQ 7) = l.filter noIn := filter_congr' (fun s hs => by
      have := sgB_parts (textB_all h s hs)
      simp [inQ, noIn, hasB7 this.2.1])
    unfold settled bytesOf
    rw [e, List.map_map]
    rfl

theorem picked_yes (q : Sg → Bool) (l : List Sg) (k : Nat) (hk : k < l.length) (h : q (l.getD k (0, 0, 0)) = true) :
    bytesOf ((l.take (k + 1)).filter q) = bytesOf ((l.take k).filter q) ++ [(l.getD k (0, 0, 0)).1] := by
  have e : l.getD k (0, 0, 0) = l[k] := by simp [List.getD, hk]
  rw [e] at h ⊢
  unfold bytesOf
  rw [List.take_succ_eq_append_getElem hk, List.filter_append, List.map_append]
  simp [h]
theorem picked_no (q : Sg → Bool) (l : List Sg) (k : Nat) (hk : k < l.length) (h : q (l.getD k (0, 0, 0)) = false) :
    bytesOf ((l.take (k + 1)).filter q) = bytesOf ((l.take k).filter q) := by
  have e : l.getD k (0, 0, 0) = l[k] := by simp [List.getD, hk]
  rw [e] at h
  unfold bytesOf
  rw [List.take_succ_eq_append_getElem hk, List.filter_append, List.map_append]
  simp [h]

theorem implTextNow_is {a : Option Addr} {n cap : Nat} {l : List Sg} {w : World} (h : Txt w a n cap l) {S : ByteArray} (hS : strOfNums (pickL noOut l) = S) :
    Calls Try.prog 11 #[.slice a n cap] w fun e w' => e = .returned (.string S) ∧ Below w.heap.size w w' := by
  rw [← hS, ← nowL_eq]; exact implTextNow_any a n cap l w h

theorem implTextWas_is {a : Option Addr} {n cap : Nat} {l : List Sg} {w : World} (h : Txt w a n cap l) {S : ByteArray} (hS : strOfNums (pickL noIn l) = S) :
    Calls Try.prog 12 #[.slice a n cap] w fun e w' => e = .returned (.string S) ∧ Below w.heap.size w w' := by
  rw [← hS, ← wasL_eq]; exact implTextWas_any a n cap l w h

end Go.Proofs.Ytoaeolpodjfbdaa
namespace Go.Proofs.Ytoaeolpodjfbdaa
open Go.RowKit

/-- Nobody has suggested anything just if now is all, and as it was. -/
theorem by_nil {l : List Sg} (h : textB l = true) : decide (specByL l = []) = (decide (pickL noOut l = pickL noIn l) && decide ((pickL noOut l).length = l.length)) := by
  by_cases hz : ∀ s ∈ l, s.2.1 = 0 ∧ s.2.2 = 0
  · have e1 : l.filter noOut = l := by rw [List.filter_eq_self]; intro s hs; simp [noOut, (hz s hs).2]
    have e2 : l.filter noIn = l := by rw [List.filter_eq_self]; intro s hs; simp [noIn, (hz s hs).1]
    have e3 : specByL l = [] := by
      unfold specByL
      rw [h, if_pos rfl]
      unfold byTo
      rw [List.filter_eq_nil_iff]
      intro n hn
      obtain ⟨i, _, rfl⟩ := List.mem_map.1 hn
      intro ha
      obtain ⟨s, hs, hb⟩ := List.any_eq_true.1 ha
      have := hz s hs
      simp [isBy, this.1, this.2] at hb
      omega
    unfold pickL
    rw [e3, h, if_pos rfl, if_pos rfl, e1, e2]
    simp [bytesOf]
  · have hne : specByL l ≠ [] := by
      intro e
      apply hz
      intro s hs
      have hi := (sgB_parts (textB_all h s hs)).2.1
      have ho := (sgB_parts (textB_all h s hs)).2.2.1
      simp [whoB] at hi ho
      refine ⟨?_, ?_⟩
      · by_cases h0 : s.2.1 = 0
        · exact h0
        · have := in_by h hs (by omega)
          rw [e] at this
          simp at this
      · by_cases h0 : s.2.2 = 0
        · exact h0
        · have := out_by h hs (by omega)
          rw [e] at this
          simp at this
    rw [decide_eq_false hne]
    symm
    rw [Bool.and_eq_false_iff]
    by_cases hl : (pickL noOut l).length = l.length
    · left
      refine decide_eq_false (fun e => hz ?_)
      have hl2 : (pickL noIn l).length = l.length := by rw [← e]; exact hl
      unfold pickL at hl hl2
      rw [h, if_pos rfl] at hl hl2
      unfold bytesOf at hl hl2
      rw [List.length_map] at hl hl2
      have f1 := List.length_filter_eq_length_iff.1 hl
      have f2 := List.length_filter_eq_length_iff.1 hl2
      intro s hs
      have g1 := f1 s hs
      have g2 := f2 s hs
      simp [noOut, noIn] at g1 g2
      exact ⟨g2, g1⟩
    · right
      exact decide_eq_false hl
end Go.Proofs.Ytoaeolpodjfbdaa
namespace Go.Proofs.Ytoaeolpodjfbdaa
open Go.RowKit

theorem Byt.take {B : Nat} {w : World} {a : Option Addr} {n cap : Nat} {zs : List Int} (h : Byt B w a n cap zs) (k : Nat) (hk : k ≤ n) : Byt B w a k cap (zs.take k) := by
  obtain ⟨h1, h2, h3, h4, h5⟩ := h
  have e : ∀ i, i < k → (zs.take k).getD i 0 = zs.getD i 0 := fun i hi => by simp [List.getD, hi]
  refine ⟨by simp; omega, by omega, h3, fun i => ?_, ?_⟩
  · by_cases hi : i < k
    · rw [e i hi]; exact h4 i
    · have : (zs.take k)[i]? = none := List.getElem?_eq_none (by simp; omega)
      simp [List.getD, this]
  · rcases h5 with rfl | ⟨b, off, h6, h7, h8⟩
    · exact .inl (by simp)
    · exact .inr ⟨b, off, h6, h7, fun i hi => by
        have hi' : i < k := by simp at hi; omega
        rw [e i hi']; exact h8 i (by omega)⟩

set_option maxHeartbeats 400000 in
theorem l6Open_any (B : Nat) (a : Option Addr) (n cap : Nat) (zs : List Int) (w : World) (h : Byt B w a n cap zs) (hB : B ≤ w.heap.size) :
    Calls Try.prog 21 #[.slice a n cap] w fun e w' => e = .returned (.pointer (some ⟨w.heap.size, 0, none⟩)) ∧ Rd B w' w.heap.size 0 ∧ Below w.heap.size w w' := by
  have hc := h.2.1
  have hm := h.2.2.1
  unfold maxLen at hm
  have HY : Hid (Byt B w a n cap zs) := h
  clear h
  by_cases hn : 2000 < n
  · have hd : decide ((2000 : Int) < (n : Int)) = true := by simp; omega
    go_enter Try.func21, Try.ntmps21
    go_wp2_with fail
    go_ret
    have hbl : Below w.heap.size w (w.alloc (.cells #[.slice a 2000 cap, .int .i64 0] 57)) := (Below.refl _ _).alloc (Nat.le_refl _) _
    refine ⟨rfl, ⟨hB, a, 2000, cap, zs.take 2000, heap_alloc_new w _, (HY.out.take 2000 (by omega)).same (fun k hk => hbl.block k (by omega)), Nat.le_refl _⟩, hbl⟩
  · have hd : decide ((2000 : Int) < (n : Int)) = false := by simp; omega
    go_enter Try.func21, Try.ntmps21
    go_wp2_with fail
    go_ret
    have hbl : Below w.heap.size w (w.alloc (.cells #[.slice a n cap, .int .i64 0] 57)) := (Below.refl _ _).alloc (Nat.le_refl _) _
    exact ⟨rfl, ⟨hB, a, n, cap, zs, heap_alloc_new w _, HY.out.same (fun k hk => hbl.block k (by omega)), by omega⟩, hbl⟩

theorem Rd.alloc {B : Nat} {w : World} {g p : Nat} (h : Rd B w g p) (o : Obj) : Rd B (w.alloc o) g p :=
  h.below ((Below.refl w.heap.size w).alloc (Nat.le_refl _) o) h.lt

theorem grown_trans {a b c : World} {g : Nat} (h : a.grownBy b (some g)) (k : b.grownBy c (some g)) : a.grownBy c (some g) :=
  ⟨k.os.trans h.os, k.tape.trans h.tape, k.output.trans h.output, Nat.le_trans h.size k.size, fun i hi hne => (k.block i (Nat.lt_of_lt_of_le hi h.size) hne).trans (h.block i hi hne)⟩
theorem grown_alloc {a b : World} {g : Option Nat} (h : a.grownBy b g) (o : Obj) : a.grownBy (b.alloc o) g :=
  ⟨h.os, h.tape, h.output, by have := h.size; simp; omega, fun i hi hne => by
    rw [Below.heap_alloc b o i (Nat.lt_of_lt_of_le hi h.size)]; exact h.block i hi hne⟩
theorem grown_below {a b c : World} {g : Option Nat} (h : a.grownBy b g) (k : Below b.heap.size b c) : a.grownBy c g :=
  ⟨k.os.trans h.os, k.tape.trans h.tape, k.output.trans h.output, Nat.le_trans h.size k.size, fun i hi hne => (k.block i (Nat.lt_of_lt_of_le hi h.size)).trans (h.block i hi hne)⟩
/-- A cell of a block that was there and is not the reader's. -/
theorem grown_cell {a b : World} {g : Nat} (h : a.grownBy b (some g)) {k o : Nat} (hk : k < a.heap.size) (hne : k ≠ g) : b.cell? ⟨k, o, none⟩ = a.cell? ⟨k, o, none⟩ :=
  World.cell?_of_block (w := a) (h.block k hk (by simpa using hne))

/-- One of the six letters that are drawn. -/
theorem six_cell (w1 w2 : World) (g : Nat) (hg : g < w1.heap.size) (h : (w1.alloc (.cells #[.int .u8 97, .int .u8 98, .int .u8 122, .int .u8 32, .int .u8 48, .int .u8 57] 5)).grownBy w2 (some g)) (x : Int) (h0 : 0 ≤ x) (h1 : x < 6) :
    ∃ z : Int, w2.cell? ⟨w1.heap.size, x.toNat, none⟩ = some (.int .u8 z) ∧ byteB z = true := by
  have e : ∀ o, w2.cell? ⟨w1.heap.size, o, none⟩ = (#[Value.int .u8 97, .int .u8 98, .int .u8 122, .int .u8 32, .int .u8 48, .int .u8 57])[o]? := fun o =>
    (grown_cell h (by simp) (by omega)).trans (cell_of_row _ _ _ _ _ _ (heap_alloc_new w1 _))
  rcases (show x = 0 ∨ x = 1 ∨ x = 2 ∨ x = 3 ∨ x = 4 ∨ x = 5 from by omega) with rfl | rfl | rfl | rfl | rfl | rfl
  · exact ⟨97, e 0, rfl⟩
  · exact ⟨98, e 1, rfl⟩
  · exact ⟨122, e 2, rfl⟩
  · exact ⟨32, e 3, rfl⟩
  · exact ⟨48, e 4, rfl⟩
  · exact ⟨57, e 5, rfl⟩

end Go.Proofs.Ytoaeolpodjfbdaa
namespace Go.Proofs.Ytoaeolpodjfbdaa
open Go.RowKit

/-- Below C nothing but block g has turned. -/
structure Fr (C g : Nat) (w w' : World) : Prop where
  os : w'.os = w.os
  tape : w'.tape = w.tape
  output : w'.output = w.output
  size : w.heap.size ≤ w'.heap.size
  block : ∀ k, k < C → k ≠ g → w'.heap[k]? = w.heap[k]?
theorem Fr.refl (C g : Nat) (w : World) : Fr C g w w := ⟨rfl, rfl, rfl, Nat.le_refl _, fun _ _ _ => rfl⟩
theorem Fr.trans {C g : Nat} {a b c : World} (h : Fr C g a b) (k : Fr C g b c) : Fr C g a c :=
  ⟨k.os.trans h.os, k.tape.trans h.tape, k.output.trans h.output, Nat.le_trans h.size k.size, fun i hi hn => (k.block i hi hn).trans (h.block i hi hn)⟩
theorem Fr.mono {C C' g : Nat} {a b : World} (h : Fr C g a b) (hC : C' ≤ C) : Fr C' g a b := ⟨h.os, h.tape, h.output, h.size, fun i hi hn => h.block i (by omega) hn⟩
theorem Fr.alloc {C g : Nat} {a b : World} (h : Fr C g a b) (hC : C ≤ b.heap.size) (o : Obj) : Fr C g a (b.alloc o) :=
  h.trans ⟨rfl, rfl, rfl, by simp, fun k hk _ => Below.heap_alloc _ _ _ (by omega)⟩
theorem Fr.setCell {C g : Nat} {a b : World} (h : Fr C g a b) {p : Addr} (hp : C ≤ p.block) (u : Value) : Fr C g a (b.setCell p u) :=
  h.trans ⟨rfl, rfl, rfl, by simp [World.setCell], fun k hk _ => Below.heap_setCell _ _ _ _ (by omega)⟩
theorem Fr.grown {C g : Nat} {a b c : World} (h : Fr C g a b) (hg : b.grownBy c (some g)) (hC : C ≤ b.heap.size) : Fr C g a c :=
  h.trans ⟨hg.os, hg.tape, hg.output, hg.size, fun k hk hn => hg.block k (by omega) (by simpa using hn)⟩
theorem Fr.below {C g : Nat} {a b c : World} (h : Fr C g a b) (hb : Below C b c) : Fr C g a c :=
  h.trans ⟨hb.os, hb.tape, hb.output, hb.size, fun k hk _ => hb.block k hk⟩
theorem Fr.grownAt {C g : Nat} {a b c : World} {r : Option Nat} (h : Fr C g a b) (hg : b.grownBy c r) (hC : C ≤ b.heap.size) (hr : ∀ k, r = some k → C ≤ k) : Fr C g a c :=
  h.trans ⟨hg.os, hg.tape, hg.output, hg.size, fun k hk _ => hg.block k (by omega) (fun e => by have := hr k e.symm; omega)⟩
theorem Fr.cell {C g : Nat} {a b : World} (h : Fr C g a b) {k o : Nat} (hk : k < C) (hn : k ≠ g) : b.cell? ⟨k, o, none⟩ = a.cell? ⟨k, o, none⟩ := World.cell?_of_block (w := a) (h.block k hk hn)
theorem Fr.frozen {C g : Nat} {a b : World} (h : Fr C g a b) {k o : Nat} (hk : k < C) (hn : k ≠ g) : b.frozen? ⟨k, o, none⟩ = a.frozen? ⟨k, o, none⟩ := World.frozen?_of_block (w := a) (h.block k hk hn)

theorem own_fr {C g : Nat} {w w' : World} {e size n : Nat} {v : Value} {xs : List Value} (h : w.ownsRow C e size v n xs) (hf : Fr w.heap.size g w w') (hg : g < C) : w'.ownsRow C e size v n xs := by
  refine ⟨h.1, ?_⟩
  rcases h.2 with hn | ⟨k, cap, cur, rfl, hk, hkk, rest⟩
  · exact .inl hn
  · exact .inr ⟨k, cap, cur, rfl, hk, by rw [hf.block k (Array.getElem?_eq_some_iff.1 hkk).1 (by omega)]; exact hkk, rest⟩
theorem Own.fr {C g : Nat} {w w' : World} {v : Value} {l : List Sg} (h : Own w C v l) (hf : Fr w.heap.size g w w') (hg : g < C) : Own w' C v l := own_fr h hf hg
theorem Rd.setCell {B : Nat} {w : World} {g p : Nat} (h : Rd B w g p) {q : Addr} (hq : g < q.block) (u : Value) : Rd B (w.setCell q u) g p := by
  obtain ⟨hB, a, n, c, zs, hg, hy, hn⟩ := h
  exact ⟨hB, a, n, c, zs, (Below.heap_setCell w q u g (by omega)).trans hg, hy.same (fun k hk => Below.heap_setCell w q u k (by omega)), hn⟩
theorem Rd.grownAt {B : Nat} {w w' : World} {g p : Nat} {r : Option Nat} (h : Rd B w g p) (hg : w.grownBy w' r) (hr : ∀ k, r = some k → g < k) : Rd B w' g p := by
  have hlt := h.lt
  obtain ⟨hB, a, n, c, zs, hgg, hy, hn⟩ := h
  exact ⟨hB, a, n, c, zs, (hg.block g hlt (fun e => by have := hr g e.symm; omega)).trans hgg, hy.same (fun k hk => hg.block k (by omega) (fun e => by have := hr k e.symm; omega)), hn⟩

/-- What the append of one sign leaves, in the drawing functions. -/
theorem own_step_fr {C g : Nat} {w wc w1 : World} {a : Option Addr} {k c : Nat} {v' : Value} {l : List Sg} {s : Sg} {o : Obj} (ho : Own wc C (.slice a k c) l) (hf : Fr C g w wc) (hC : C ≤ wc.heap.size)
    (hown : w1.ownsRow C 30 3 v' (k + 1) (flat l ++ sgCells s)) (hgrow : (wc.alloc o).grownBy w1 (Value.slice a k c).ownBlock) :
    ∃ a' c', v' = .slice a' (k + 1) c' ∧ Own w1 C (.slice a' (k + 1) c') (l ++ [s]) ∧ Fr C g w w1 := by
  have hk := ho.len
  have h1 : Own w1 C v' (l ++ [s]) := Own.snoc hown (by omega) rfl
  obtain ⟨a', c', rfl⟩ := h1.shapeN (n := k + 1) (by simp; omega)
  refine ⟨a', c', rfl, h1, ?_⟩
  exact (hf.alloc hC _).grownAt hgrow (by simp; omega) (fun q hq => (ho.row.lt q hq).1)

set_option maxHeartbeats 4000000 in
theorem l71Text_any (B g p most : Nat) (w : World) (h : Rd B w g p) (hp : p ≤ 200000) (hmost : most ≤ 24) :
    Calls Try.prog 32 #[.pointer (some ⟨g, 0, none⟩), .int .i64 (most : Int)] w fun e w' => ∃ (v : Value) (l : List Sg) (q : Nat), e = .returned v ∧ Own w' w.heap.size v l ∧ l.length ≤ most ∧ Rd B w' g q ∧ q ≤ p + 1 + 3 * most ∧ Fr w.heap.size g w w' := by
  have hlt := h.lt
  obtain ⟨i0, hi, hz0, hz1, hz2⟩ := info_parts Try.info30
  have HR : Hid (Rd B w g p) := h
  clear h
  go_enter Try.func32, Try.ntmps32
  go_wp2_with fail
  refine (pick_any B g p ((most : Int) + 1) _ (HR.out.alloc _) (by omega) (by omega) (by omega)).mono ?_
  rintro e w1 ⟨x, rfl, hx0, hx1, hr1, hg1⟩
  go_wp2_with fail
  go_loopw [5, 6] (fun v nv wr => ∃ (a : Option Addr) (m c k q : Nat) (l : List Sg), v = .slice a m c ∧ nv = .int .i64 (k : Int) ∧ m + k ≤ most ∧ q + 3 * k ≤ p + 1 + 3 * most ∧ Own wr w.heap.size (.slice a m c) l ∧ Rd B wr g q ∧ Fr w.heap.size g w wr) (fun _ nv _ => (intOf nv).toNat)
  case atStart =>
    have hf : Fr w.heap.size g w w1 := ((Fr.refl _ _ w).alloc (Nat.le_refl _) _).grown hg1 (by simp)
    refine ⟨some ⟨w.heap.size, 0, none⟩, 0, 0, x.toNat, p + 1, [], rfl, by congr 1; omega, by omega, by omega, ?_, hr1, hf⟩
    exact (World.ownsRow.kept (Own.emptyNew w w.heap.size (Nat.le_refl _)) hg1 (.inr (by simp [Value.ownBlock]; omega)))
  case round =>
    obtain ⟨a, m, c, k, q, l, rfl, rfl, hmk, hqk, ho, hr, hf⟩ := hrel
    have hsz := hf.size
    have hol := ho.len
    by_cases h0 : k = 0
    · subst h0
      clear hr1 hg1
      have HO : Hid (Own wr w.heap.size (.slice a m c) l) := ho
      clear ho
      go_wp2_with fail
      go_ret
      exact ⟨_, l, q, rfl, HO.out, by omega, hr, by omega, hf⟩
    · have HO : Hid (Own wr w.heap.size (.slice a m c) l) := ho
      have HRR : Hid (Rd B wr g q) := hr
      have hgw : g < wr.heap.size := by omega
      have HL : Hid (m = l.length) := hol
      clear ho hr hr1 hg1 hol
      have hpos : (0 : Int) < (k : Int) := by omega
      go_wp2_with fail
      refine (pick_any B g q 6 _ (HRR.out.alloc _) (by omega) (by omega) (by omega)).mono ?_
      rintro e w2 ⟨y, rfl, hy0, hy1, hr2, hg2⟩
      obtain ⟨z, hz, _⟩ := six_cell wr w2 g hgw hg2 y hy0 hy1
      have hf2 : Fr wr.heap.size g wr w2 := ((Fr.refl _ _ wr).alloc (Nat.le_refl _) _).grown hg2 (by simp)
      have z2 := hf2.size
      have HR2 : Hid (Rd B w2 g (q + 1)) := hr2
      clear hr2
      go_wp2_with fail
      refine (pick_any B g (q + 1) 5 _ (HR2.out.alloc _) (by omega) (by omega) (by omega)).mono ?_
      rintro e w3 ⟨u, rfl, hu0, hu1, hr3, hg3⟩
      have z3 := hg3.size
      simp only [World.size_alloc] at z3
      have hf3 : Fr wr.heap.size g wr w3 := (hf2.alloc z2 _).grown hg3 (by simp; omega)
      have e0 : w3.heap[w2.heap.size]? = some (.cells #[.int .u8 z, .int .i64 0, .int .i64 0] 30 (0, 0)) := (hg3.block w2.heap.size (by simp) (by simp; omega)).trans (heap_alloc_new w2 _)
      have HE : Hid (w3.heap[w2.heap.size]? = some (.cells #[.int .u8 z, .int .i64 0, .int .i64 0] 30 (0, 0))) := e0
      have HR3 : Hid (Rd B w3 g (q + 2)) := hr3
      clear hr3 e0 hz
      have hsb : w2.heap.size < w3.heap.size := by omega
      by_cases h0u : u = 0
      · subst h0u
        go_wp2_with fail
        refine (pick_any B g (q + 2) 3 _ HR3.out (by omega) (by omega) (by omega)).mono ?_
        rintro e w4 ⟨x4, rfl, hx40, hx41, hr4, hg4⟩
        have z4 := hg4.size
        have hf4 : Fr wr.heap.size g wr w4 := hf3.grown hg4 (by omega)
        have e4 : w4.heap[w2.heap.size]? = some (.cells #[.int .u8 z, .int .i64 0, .int .i64 0] 30 (0, 0)) := (hg4.block w2.heap.size hsb (by simp; omega)).trans HE.out
        have d0 : w4.cell? ⟨w2.heap.size, 0, none⟩ = some (.int .u8 z) := by rw [cell_of_row w4 _ 0 _ _ _ e4]; rfl
        have d1 : w4.cell? ⟨w2.heap.size, 1, none⟩ = some (.int .i64 0) := by rw [cell_of_row w4 _ 1 _ _ _ e4]; rfl
        have d2 : w4.cell? ⟨w2.heap.size, 2, none⟩ = some (.int .i64 0) := by rw [cell_of_row w4 _ 2 _ _ _ e4]; rfl
        have f1 : w4.frozen? ⟨w2.heap.size, 1, none⟩ = false := frozen_of_row w4 _ 1 _ _ e4
        have f2 : w4.frozen? ⟨w2.heap.size, 2, none⟩ = false := frozen_of_row w4 _ 2 _ _ e4
        clear e4
        have HR4 : Hid (Rd B w4 g (q + 3)) := hr4
        clear hr4
        have HO4 : Hid (Own (w4.setCell ⟨w2.heap.size, 1, none⟩ (.int .i64 (1 + x4))) w.heap.size (.slice a m c) l) := HO.out.fr (hf4.setCell (by simp; omega) _) hlt
        go_wp2_with (at_builtin; refine wpList_append_own _ rfl (.tmp 48) (.tmp 50) 23 rfl w.heap.size 30 i0 (.agg #[.int .u8 0, .int .i64 0, .int .i64 0]) 3 24 Try.underlying23 hi hz0 hz1 hz2 rfl (by decide) (.slice a m c) _ _ rfl (HO4.out.row.alloc _) ⟨_, 0, none⟩ 1 1 [.int .u8 z, .int .i64 (1 + x4), .int .i64 0] rfl rfl (by have e := cell_three_new (w4.setCell ⟨w2.heap.size, 1, none⟩ (.int .i64 (1 + x4))) (.int .u8 z) (.int .i64 (1 + x4)) (.int .i64 0) 30; simpa using e) (three_oneCell _ _ _) (by unfold maxLen; omega) (by omega) (by simp; omega) ?_; intro v' w9 hown' hgrow _)
        obtain ⟨a', c', rfl, ho9, hf9⟩ := own_step_fr (s := (z, 1 + x4, 0)) HO4.out (hf.trans ((hf4.setCell (by simp; omega) _).mono hsz)) (by simp; omega) hown' hgrow
        have hr9 : Rd B w9 g (q + 3) := ((HR4.out.setCell (by simp; omega) _).alloc _).grownAt hgrow (fun k hk => by have := ((HO4.out).row.lt k hk).1; omega)
        go_roundw
        case rel => exact ⟨a', m + 1, c', k - 1, q + 3, _, rfl, by congr 1; omega, by omega, by omega, ho9, hr9, hf9⟩
        case measure => simp [intOf]; omega
      · have g0 : (u == 0) = false := by simp; omega
        by_cases h1u : u = 1
        · subst h1u
          go_wp2_with fail
          refine (pick_any B g (q + 2) 3 _ HR3.out (by omega) (by omega) (by omega)).mono ?_
          rintro e w4 ⟨x4, rfl, hx40, hx41, hr4, hg4⟩
          have z4 := hg4.size
          have hf4 : Fr wr.heap.size g wr w4 := hf3.grown hg4 (by omega)
          have e4 : w4.heap[w2.heap.size]? = some (.cells #[.int .u8 z, .int .i64 0, .int .i64 0] 30 (0, 0)) := (hg4.block w2.heap.size hsb (by simp; omega)).trans HE.out
          have d0 : w4.cell? ⟨w2.heap.size, 0, none⟩ = some (.int .u8 z) := by rw [cell_of_row w4 _ 0 _ _ _ e4]; rfl
          have d1 : w4.cell? ⟨w2.heap.size, 1, none⟩ = some (.int .i64 0) := by rw [cell_of_row w4 _ 1 _ _ _ e4]; rfl
          have d2 : w4.cell? ⟨w2.heap.size, 2, none⟩ = some (.int .i64 0) := by rw [cell_of_row w4 _ 2 _ _ _ e4]; rfl
          have f1 : w4.frozen? ⟨w2.heap.size, 1, none⟩ = false := frozen_of_row w4 _ 1 _ _ e4
          have f2 : w4.frozen? ⟨w2.heap.size, 2, none⟩ = false := frozen_of_row w4 _ 2 _ _ e4
          clear e4
          have HR4 : Hid (Rd B w4 g (q + 3)) := hr4
          clear hr4
          have HO4 : Hid (Own (w4.setCell ⟨w2.heap.size, 2, none⟩ (.int .i64 (1 + x4))) w.heap.size (.slice a m c) l) := HO.out.fr (hf4.setCell (by simp; omega) _) hlt
          go_wp2_with (at_builtin; refine wpList_append_own _ rfl (.tmp 48) (.tmp 50) 23 rfl w.heap.size 30 i0 (.agg #[.int .u8 0, .int .i64 0, .int .i64 0]) 3 24 Try.underlying23 hi hz0 hz1 hz2 rfl (by decide) (.slice a m c) _ _ rfl (HO4.out.row.alloc _) ⟨_, 0, none⟩ 1 1 [.int .u8 z, .int .i64 0, .int .i64 (1 + x4)] rfl rfl (by have e := cell_three_new (w4.setCell ⟨w2.heap.size, 2, none⟩ (.int .i64 (1 + x4))) (.int .u8 z) (.int .i64 0) (.int .i64 (1 + x4)) 30; simpa using e) (three_oneCell _ _ _) (by unfold maxLen; omega) (by omega) (by simp; omega) ?_; intro v' w9 hown' hgrow _)
          obtain ⟨a', c', rfl, ho9, hf9⟩ := own_step_fr (s := (z, 0, 1 + x4)) HO4.out (hf.trans ((hf4.setCell (by simp; omega) _).mono hsz)) (by simp; omega) hown' hgrow
          have hr9 : Rd B w9 g (q + 3) := ((HR4.out.setCell (by simp; omega) _).alloc _).grownAt hgrow (fun k hk => by have := ((HO4.out).row.lt k hk).1; omega)
          go_roundw
          case rel => exact ⟨a', m + 1, c', k - 1, q + 3, _, rfl, by congr 1; omega, by omega, by omega, ho9, hr9, hf9⟩
          case measure => simp [intOf]; omega
        · have g1 : (u == 1) = false := by simp; omega
          by_cases h2u : u = 2
          · subst h2u
            go_wp2_with fail
            refine (pick_any B g (q + 2) 3 _ HR3.out (by omega) (by omega) (by omega)).mono ?_
            rintro e w4 ⟨x4, rfl, hx40, hx41, hr4, hg4⟩
            have z4 := hg4.size
            have hf4 : Fr wr.heap.size g wr w4 := hf3.grown hg4 (by omega)
            have e4 : w4.heap[w2.heap.size]? = some (.cells #[.int .u8 z, .int .i64 0, .int .i64 0] 30 (0, 0)) := (hg4.block w2.heap.size hsb (by simp; omega)).trans HE.out
            have d0 : w4.cell? ⟨w2.heap.size, 0, none⟩ = some (.int .u8 z) := by rw [cell_of_row w4 _ 0 _ _ _ e4]; rfl
            have d1 : w4.cell? ⟨w2.heap.size, 1, none⟩ = some (.int .i64 0) := by rw [cell_of_row w4 _ 1 _ _ _ e4]; rfl
            have d2 : w4.cell? ⟨w2.heap.size, 2, none⟩ = some (.int .i64 0) := by rw [cell_of_row w4 _ 2 _ _ _ e4]; rfl
            have f1 : w4.frozen? ⟨w2.heap.size, 1, none⟩ = false := frozen_of_row w4 _ 1 _ _ e4
            have f2 : w4.frozen? ⟨w2.heap.size, 2, none⟩ = false := frozen_of_row w4 _ 2 _ _ e4
            clear e4
            have HR4 : Hid (Rd B w4 g (q + 3)) := hr4
            clear hr4
            have HO4 : Hid (Own ((w4.setCell ⟨w2.heap.size, 1, none⟩ (.int .i64 (1 + x4))).setCell ⟨w2.heap.size, 2, none⟩ (.int .i64 ((1 + x4) % 3 + 1))) w.heap.size (.slice a m c) l) := HO.out.fr ((hf4.setCell (by simp; omega) _).setCell (by simp; omega) _) hlt
            go_wp2_with (at_builtin; refine wpList_append_own _ rfl (.tmp 48) (.tmp 50) 23 rfl w.heap.size 30 i0 (.agg #[.int .u8 0, .int .i64 0, .int .i64 0]) 3 24 Try.underlying23 hi hz0 hz1 hz2 rfl (by decide) (.slice a m c) _ _ rfl (HO4.out.row.alloc _) ⟨_, 0, none⟩ 1 1 [.int .u8 z, .int .i64 (1 + x4), .int .i64 ((1 + x4) % 3 + 1)] rfl rfl (by have e := cell_three_new ((w4.setCell ⟨w2.heap.size, 1, none⟩ (.int .i64 (1 + x4))).setCell ⟨w2.heap.size, 2, none⟩ (.int .i64 ((1 + x4) % 3 + 1))) (.int .u8 z) (.int .i64 (1 + x4)) (.int .i64 ((1 + x4) % 3 + 1)) 30; simpa using e) (three_oneCell _ _ _) (by unfold maxLen; omega) (by omega) (by simp; omega) ?_; intro v' w9 hown' hgrow _)
            obtain ⟨a', c', rfl, ho9, hf9⟩ := own_step_fr (s := (z, 1 + x4, (1 + x4) % 3 + 1)) HO4.out (hf.trans (((hf4.setCell (by simp; omega) _).setCell (by simp; omega) _).mono hsz)) (by simp; omega) hown' hgrow
            have hr9 : Rd B w9 g (q + 3) := (((HR4.out.setCell (by simp; omega) _).setCell (by simp; omega) _).alloc _).grownAt hgrow (fun k hk => by have := ((HO4.out).row.lt k hk).1; omega)
            go_roundw
            case rel => exact ⟨a', m + 1, c', k - 1, q + 3, _, rfl, by congr 1; omega, by omega, by omega, ho9, hr9, hf9⟩
            case measure => simp [intOf]; omega
          · have g2 : (u == 2) = false := by simp; omega
            have d0 : w3.cell? ⟨w2.heap.size, 0, none⟩ = some (.int .u8 z) := by rw [cell_of_row w3 _ 0 _ _ _ HE.out]; rfl
            have d1 : w3.cell? ⟨w2.heap.size, 1, none⟩ = some (.int .i64 0) := by rw [cell_of_row w3 _ 1 _ _ _ HE.out]; rfl
            have d2 : w3.cell? ⟨w2.heap.size, 2, none⟩ = some (.int .i64 0) := by rw [cell_of_row w3 _ 2 _ _ _ HE.out]; rfl
            have HO3 : Hid (Own w3 w.heap.size (.slice a m c) l) := HO.out.fr hf3 hlt
            go_wp2_with (at_builtin; refine wpList_append_own _ rfl (.tmp 48) (.tmp 50) 23 rfl w.heap.size 30 i0 (.agg #[.int .u8 0, .int .i64 0, .int .i64 0]) 3 24 Try.underlying23 hi hz0 hz1 hz2 rfl (by decide) (.slice a m c) _ _ rfl (HO3.out.row.alloc _) ⟨_, 0, none⟩ 1 1 [.int .u8 z, .int .i64 0, .int .i64 0] rfl rfl (by have e := cell_three_new (w3) (.int .u8 z) (.int .i64 0) (.int .i64 0) 30; simpa using e) (three_oneCell _ _ _) (by unfold maxLen; omega) (by omega) (by simp; omega) ?_; intro v' w9 hown' hgrow _)
            obtain ⟨a', c', rfl, ho9, hf9⟩ := own_step_fr (s := (z, 0, 0)) HO3.out (hf.trans (hf3.mono hsz)) (by omega) hown' hgrow
            have hr9 : Rd B w9 g (q + 2) := ((HR3.out).alloc _).grownAt hgrow (fun k hk => by have := ((HO3.out).row.lt k hk).1; omega)
            go_roundw
            case rel => exact ⟨a', m + 1, c', k - 1, q + 2, _, rfl, by congr 1; omega, by omega, by omega, ho9, hr9, hf9⟩
            case measure => simp [intOf]; omega
end Go.Proofs.Ytoaeolpodjfbdaa
namespace Go.Proofs.Ytoaeolpodjfbdaa
open Go.RowKit

theorem flat_oneCell (l : List Sg) : ∀ u ∈ flat l, u.oneCell' = true := by
  intro u hu
  simp only [flat, List.mem_flatMap] at hu
  obtain ⟨s, _, hs⟩ := hu
  exact three_oneCell _ _ _ u hs

section
variable {P : Program}
/-- 'append(v, x...)', v not nil and owned, x owned (it may be nil). -/
theorem run_append_two (w : World) (t ty : TypeId) (base base' : Nat) (e : TypeId) (i : TypeInfo) (z : Value) (size bytes : Nat) (ht : P.underlying t = some (.slice e)) (hi : P.info? e = some i) (hz : i.zero = some z)
    (hsize : i.size = size) (hby : i.bytes = bytes) (hzs : z.cells.size = size) (hsz : 0 < size)
    (k n cap : Nat) (xs : List Value) (hown : w.ownsRow base e size (.slice (some ⟨k, 0, none⟩) n cap) n xs)
    (xa : Option Addr) (m c : Nat) (news : List Value) (hsrc : w.ownsRow base' e size (.slice xa m c) m news) (h1 : ∀ u ∈ news, u.oneCell' = true)
    (h63 : n + m ≤ maxLen) (hbytes : (n + m) * bytes ≤ 140737488355328) (hbase : base ≤ w.heap.size) :
    ∃ g cap' w', (Builtin.append_ #[t, t] ty #[.slice (some ⟨k, 0, none⟩) n cap, .slice xa m c]).run P w = .ok (.slice (some ⟨g, 0, none⟩) (n + m) cap') w' ∧
      w'.ownsRow base e size (.slice (some ⟨g, 0, none⟩) (n + m) cap') (n + m) (xs ++ news) ∧ w.grownBy w' (some k) := by
  rcases hsrc.2 with ⟨hv, h0⟩ | ⟨g', cap', cur, hv, r⟩
  · simp only [Value.slice.injEq] at hv
    obtain ⟨rfl, rfl, rfl⟩ := hv
    have hnil : news = [] := List.eq_nil_of_length_eq_zero (by simpa using hsrc.1)
    subst hnil
    refine ⟨k, cap, w, run_append_owned_none (P := P) w base t ty e i size ht hi _ n xs hown, by simpa using hown, ⟨rfl, rfl, rfl, Nat.le_refl _, fun _ _ _ => rfl⟩⟩
  · simp only [Value.slice.injEq, true_and] at hv
    obtain ⟨rfl, rfl⟩ := hv
    obtain ⟨v', w', hr, h2, h3, h4, _⟩ := run_append_own_at (P := P) w base t ty e i z size bytes ht hi hz hsize hby hzs hsz _ n xs hown ⟨g', 0, none⟩ m c news hsrc.1 (hsrc.cells (g := g') rfl) h1 h63 hbytes hbase
    rcases h2.2 with ⟨hnil, _⟩ | ⟨q, cq, cu, hq, _⟩
    · exact absurd (h4.1 hnil).1 (by simp)
    · subst hq
      exact ⟨q, cq, w', hr, h2, h3⟩

theorem step_append_two (w : World) {ops : Array Oper} {o : Oper} {a : Act} {K : Act → World → Prop} {Q : Exit → Act → World → Prop} {E : Prop} (hgd : o.guard = none) (s x : Operand) (t : TypeId)
    (ho : o.op = .call { callee := .builtin .append, args := #[s, x], argTypes := #[t, t] })
    (base base' : Nat) (e : TypeId) (i : TypeInfo) (z : Value) (size bytes : Nat) (ht : P.underlying t = some (.slice e)) (hi : P.info? e = some i) (hz : i.zero = some z)
    (hsize : i.size = size) (hby : i.bytes = bytes) (hzs : z.cells.size = size) (hsz : 0 < size)
    (k n cap : Nat) (xs : List Value) (hs : a.eval s = .slice (some ⟨k, 0, none⟩) n cap) (hown : w.ownsRow base e size (.slice (some ⟨k, 0, none⟩) n cap) n xs)
    (xa : Option Addr) (m c : Nat) (news : List Value) (hx : a.eval x = .slice xa m c) (hsrc : w.ownsRow base' e size (.slice xa m c) m news) (h1 : ∀ u ∈ news, u.oneCell' = true)
    (h63 : n + m ≤ maxLen) (hbytes : (n + m) * bytes ≤ 140737488355328) (hbase : base ≤ w.heap.size) (nm : Nat) (hnm : n + m = nm)
    (h : ∀ g cap' w', w'.ownsRow base e size (.slice (some ⟨g, 0, none⟩) nm cap') nm (xs ++ news) → w.grownBy w' (some k) → K (a.put o.dst (.slice (some ⟨g, 0, none⟩) nm cap')) w') :
    if Region.wanted o (yielded ops a.tmps) = true then Oper.wp P o a w K Q else E := by
  subst hnm
  have hw : Region.wanted o (yielded ops a.tmps) = true := by simp [Region.wanted, hgd]
  rw [if_pos hw]
  obtain ⟨g, cap', w', hr, h2, h3⟩ := run_append_two (P := P) w t o.type base base' e i z size bytes ht hi hz hsize hby hzs hsz k n cap xs hown xa m c news hsrc h1 h63 hbytes hbase
  unfold Oper.wp execOp
  simp only [ho, resolve, invoke, builtin, Sem.run_bind, Sem.run_pure, Result.andThen_ok, List.map_toArray, List.map_cons, List.map_nil, hs, hx, hr]
  exact h g cap' w' h2 h3
end

theorem Own.base {w : World} {B B' : Nat} {v : Value} {l : List Sg} (h : Own w B' v l) (hB : B ≤ B') : Own w B v l :=
  ⟨h.1, h.2.elim .inl (fun ⟨g, cap, cur, x, y, z⟩ => .inr ⟨g, cap, cur, x, Nat.le_trans hB y, z⟩)⟩
theorem heap_two_first (w : World) (o1 o2 : Obj) : ((w.alloc o1).alloc o2).heap[w.heap.size]? = some o1 := (Below.heap_alloc _ _ _ (by simp)).trans (heap_alloc_new w o1)
theorem heap_two_second (w : World) (o1 o2 : Obj) : ((w.alloc o1).alloc o2).heap[w.heap.size + 1]? = some o2 := by simpa using heap_alloc_new (w.alloc o1) o2
theorem own_empty_at {w : World} {C k : Nat} (hk : C ≤ k) (h : w.heap[k]? = some (.cells #[] 30 (0, 0))) : w.ownsRow C 30 3 (.slice (some ⟨k, 0, none⟩) 0 0) 0 [] :=
  ⟨rfl, .inr ⟨k, 0, #[], rfl, hk, h, Nat.le_refl _, Nat.zero_le _, rfl, rfl⟩⟩
theorem own_one_at {w : World} {C k : Nat} {s : Sg} (hk : C ≤ k) (h : w.heap[k]? = some (.cells #[.int .u8 s.1, .int .i64 s.2.1, .int .i64 s.2.2] 30 (0, 0))) : w.ownsRow C 30 3 (.slice (some ⟨k, 0, none⟩) 1 1) 1 (sgCells s) :=
  ⟨rfl, .inr ⟨k, 1, _, rfl, hk, h, Nat.le_refl _, by unfold maxLen; omega, rfl, rfl⟩⟩

def lenV : Value → Nat | .slice _ n _ => n | _ => 0

theorem five_cell (w1 w2 : World) (g : Nat) (hg : g < w1.heap.size) (h : (w1.alloc (.cells #[.int .u8 65, .int .u8 10, .int .u8 0, .int .u8 123, .int .u8 47] 5)).grownBy w2 (some g)) (x : Int) (h0 : 0 ≤ x) (h1 : x < 5) :
    ∃ z : Int, w2.cell? ⟨w1.heap.size, x.toNat, none⟩ = some (.int .u8 z) := by
  have e : ∀ o, w2.cell? ⟨w1.heap.size, o, none⟩ = (#[Value.int .u8 65, .int .u8 10, .int .u8 0, .int .u8 123, .int .u8 47])[o]? := fun o =>
    (grown_cell h (by simp) (by omega)).trans (cell_of_row _ _ _ _ _ _ (heap_alloc_new w1 _))
  rcases (show x = 0 ∨ x = 1 ∨ x = 2 ∨ x = 3 ∨ x = 4 from by omega) with rfl | rfl | rfl | rfl | rfl
  · exact ⟨65, e 0⟩
  · exact ⟨10, e 1⟩
  · exact ⟨0, e 2⟩
  · exact ⟨123, e 3⟩
  · exact ⟨47, e 4⟩
theorem two_cell (w1 w2 : World) (g : Nat) (hg : g < w1.heap.size) (h : (w1.alloc (.cells #[.int .i64 (-1), .int .i64 4] 3)).grownBy w2 (some g)) (x : Int) (h0 : 0 ≤ x) (h1 : x < 2) :
    ∃ z : Int, w2.cell? ⟨w1.heap.size, x.toNat, none⟩ = some (.int .i64 z) := by
  have e : ∀ o, w2.cell? ⟨w1.heap.size, o, none⟩ = (#[Value.int .i64 (-1), .int .i64 4])[o]? := fun o =>
    (grown_cell h (by simp) (by omega)).trans (cell_of_row _ _ _ _ _ _ (heap_alloc_new w1 _))
  rcases (show x = 0 ∨ x = 1 from by omega) with rfl | rfl
  · exact ⟨-1, e 0⟩
  · exact ⟨4, e 1⟩

set_option maxRecDepth 100000 in
set_option maxHeartbeats 4000000 in
theorem l71Bad_any (B g p C : Nat) (a : Option Addr) (n c : Nat) (l : List Sg) (w : World) (h : Rd B w g p) (hp : p ≤ 200000) (ho : Own w C (.slice a n c) l) (hgC : g < C) (hC : C ≤ w.heap.size) (hn : n ≤ 24) :
    Calls Try.prog 34 #[.pointer (some ⟨g, 0, none⟩), .slice a n c] w fun e w' => ∃ (v : Value) (l' : List Sg) (q : Nat), e = .returned v ∧ Own w' C v l' ∧ l'.length ≤ 25 ∧ Rd B w' g q ∧ q ≤ p + 40 ∧ Fr C g w w' := by
  have hlt := h.lt
  obtain ⟨i0, hi, hz0, hz1, hz2⟩ := info_parts Try.info30
  have HR : Hid (Rd B w g p) := h
  have HO : Hid (Own w C (.slice a n c) l) := ho
  have HL : Hid (n = l.length) := ho.len
  clear h ho
  go_enter Try.func34, Try.ntmps34
  go_wp2_with fail
  refine (pick_any B g p 6 _ (HR.out.alloc _) (by omega) (by omega) (by omega)).mono ?_
  rintro e w1 ⟨u, rfl, hu0, hu1, hr1, hg1⟩
  have z1 := hg1.size
  simp only [World.size_alloc] at z1
  have hf1 : Fr w.heap.size g w w1 := ((Fr.refl _ _ w).alloc (Nat.le_refl _) _).grown hg1 (by simp)
  have HE : Hid (w1.heap[w.heap.size]? = some (.cells #[.int .u8 120, .int .i64 0, .int .i64 0] 30 (0, 0))) := (hg1.block w.heap.size (by simp) (by simp; omega)).trans (heap_alloc_new w _)
  have HR1 : Hid (Rd B w1 g (p + 1)) := hr1
  clear hr1
  go_upto_block 0 with fail
  go_cut [1] (fun tv wx => tv = .slice a n c ∧ ∃ (s : Sg) (q : Nat), wx.heap[w.heap.size]? = some (.cells #[.int .u8 s.1, .int .i64 s.2.1, .int .i64 s.2.2] 30 (0, 0)) ∧ Rd B wx g q ∧ q ≤ p + 2 ∧ Fr w.heap.size g w wx ∧ w.heap.size < wx.heap.size)
  case first =>
    by_cases h0u : u = 0
    · subst h0u
      go_wp2_with fail
      refine (pick_any B g (p + 1) 5 _ (HR1.out.alloc _) (by omega) (by omega) (by omega)).mono ?_
      rintro e w2 ⟨y, rfl, hy0, hy1, hr2, hg2⟩
      obtain ⟨z, hz⟩ := five_cell w1 w2 g (by omega) hg2 y hy0 hy1
      have z2 := hg2.size
      simp only [World.size_alloc] at z2
      have e2 : w2.heap[w.heap.size]? = some (.cells #[.int .u8 120, .int .i64 0, .int .i64 0] 30 (0, 0)) := (hg2.block w.heap.size (by simp; omega) (by simp; omega)).trans ((Below.heap_alloc w1 _ w.heap.size (by omega)).trans HE.out)
      have HE2 : Hid (w2.heap[w.heap.size]? = some (.cells #[.int .u8 120, .int .i64 0, .int .i64 0] 30 (0, 0))) := e2
      obtain ⟨o0, d0⟩ : ∃ v, w2.cell? ⟨w.heap.size, 0, none⟩ = some v := ⟨_, cell_of_row w2 _ 0 _ _ _ e2⟩
      have f0 : w2.frozen? ⟨w.heap.size, 0, none⟩ = false := frozen_of_row w2 _ 0 _ _ e2
      clear e2
      have HR2 : Hid (Rd B w2 g (p + 2)) := hr2
      clear hr2
      go_wp2_with fail
      go_meet
      exact ⟨rfl, (z, 0, 0), p + 2, (heap_setCell_same w2 _ 0 _ _ _ HE2.out), HR2.out.setCell (by simp; omega) _, by omega, ((hf1.alloc (by omega) _).grown hg2 (by simp; omega)).setCell (by simp) _, by simp [World.setCell]; omega⟩
    · have g0 : (u == 0) = false := by simp; omega
      by_cases h1u : u = 1
      · subst h1u
        go_wp2_with fail
        refine (pick_any B g (p + 1) 2 _ (HR1.out.alloc _) (by omega) (by omega) (by omega)).mono ?_
        rintro e w2 ⟨y, rfl, hy0, hy1, hr2, hg2⟩
        obtain ⟨z, hz⟩ := two_cell w1 w2 g (by omega) hg2 y hy0 hy1
        have z2 := hg2.size
        simp only [World.size_alloc] at z2
        have e2 : w2.heap[w.heap.size]? = some (.cells #[.int .u8 120, .int .i64 0, .int .i64 0] 30 (0, 0)) := (hg2.block w.heap.size (by simp; omega) (by simp; omega)).trans ((Below.heap_alloc w1 _ w.heap.size (by omega)).trans HE.out)
        have HE2 : Hid (w2.heap[w.heap.size]? = some (.cells #[.int .u8 120, .int .i64 0, .int .i64 0] 30 (0, 0))) := e2
        obtain ⟨o0, d0⟩ : ∃ v, w2.cell? ⟨w.heap.size, 1, none⟩ = some v := ⟨_, cell_of_row w2 _ 1 _ _ _ e2⟩
        have f0 : w2.frozen? ⟨w.heap.size, 1, none⟩ = false := frozen_of_row w2 _ 1 _ _ e2
        clear e2
        have HR2 : Hid (Rd B w2 g (p + 2)) := hr2
        clear hr2
        go_wp2_with fail
        go_meet
        exact ⟨rfl, (120, z, 0), p + 2, (heap_setCell_same w2 _ 1 _ _ _ HE2.out), HR2.out.setCell (by simp; omega) _, by omega, ((hf1.alloc (by omega) _).grown hg2 (by simp; omega)).setCell (by simp) _, by simp [World.setCell]; omega⟩
      · have g1 : (u == 1) = false := by simp; omega
        by_cases h2u : u = 2
        · subst h2u
          go_wp2_with fail
          refine (pick_any B g (p + 1) 2 _ (HR1.out.alloc _) (by omega) (by omega) (by omega)).mono ?_
          rintro e w2 ⟨y, rfl, hy0, hy1, hr2, hg2⟩
          obtain ⟨z, hz⟩ := two_cell w1 w2 g (by omega) hg2 y hy0 hy1
          have z2 := hg2.size
          simp only [World.size_alloc] at z2
          have e2 : w2.heap[w.heap.size]? = some (.cells #[.int .u8 120, .int .i64 0, .int .i64 0] 30 (0, 0)) := (hg2.block w.heap.size (by simp; omega) (by simp; omega)).trans ((Below.heap_alloc w1 _ w.heap.size (by omega)).trans HE.out)
          have HE2 : Hid (w2.heap[w.heap.size]? = some (.cells #[.int .u8 120, .int .i64 0, .int .i64 0] 30 (0, 0))) := e2
          obtain ⟨o0, d0⟩ : ∃ v, w2.cell? ⟨w.heap.size, 2, none⟩ = some v := ⟨_, cell_of_row w2 _ 2 _ _ _ e2⟩
          have f0 : w2.frozen? ⟨w.heap.size, 2, none⟩ = false := frozen_of_row w2 _ 2 _ _ e2
          clear e2
          have HR2 : Hid (Rd B w2 g (p + 2)) := hr2
          clear hr2
          go_wp2_with fail
          go_meet
          exact ⟨rfl, (120, 0, z), p + 2, (heap_setCell_same w2 _ 2 _ _ _ HE2.out), HR2.out.setCell (by simp; omega) _, by omega, ((hf1.alloc (by omega) _).grown hg2 (by simp; omega)).setCell (by simp) _, by simp [World.setCell]; omega⟩
        · have g2 : (u == 2) = false := by simp; omega
          by_cases h3u : u = 3
          · subst h3u
            obtain ⟨o1, d1⟩ : ∃ v, w1.cell? ⟨w.heap.size, 1, none⟩ = some v := ⟨_, cell_of_row w1 _ 1 _ _ _ HE.out⟩
            obtain ⟨o2, d2⟩ : ∃ v, w1.cell? ⟨w.heap.size, 2, none⟩ = some v := ⟨_, cell_of_row w1 _ 2 _ _ _ HE.out⟩
            have f1 : w1.frozen? ⟨w.heap.size, 1, none⟩ = false := frozen_of_row w1 _ 1 _ _ HE.out
            have f2 : w1.frozen? ⟨w.heap.size, 2, none⟩ = false := frozen_of_row w1 _ 2 _ _ HE.out
            go_wp2_with fail
            go_meet
            exact ⟨rfl, (120, 2, 2), p + 1, heap_setCell_same _ _ 2 _ _ _ (heap_setCell_same w1 _ 1 _ _ _ HE.out), (HR1.out.setCell (by simp; omega) _).setCell (by simp; omega) _, by omega, (hf1.setCell (by simp) _).setCell (by simp) _, by simp [World.setCell]; omega⟩
          · have g3 : (u == 3) = false := by simp; omega
            by_cases h4u : u = 4
            · subst h4u
              go_wp2_with fail
              go_loopw [1] (fun v wr => ∃ (a : Option Addr) (m c : Nat) (l : List Sg) (q : Nat), v = .slice a m c ∧ m ≤ 25 ∧ Own wr C (.slice a m c) l ∧ (Value.slice a m c).ownBlock ≠ some w.heap.size ∧ wr.heap[w.heap.size]? = some (.cells #[.int .u8 120, .int .i64 0, .int .i64 0] 30 (0, 0)) ∧ Rd B wr g q ∧ q ≤ p + 1 + m ∧ Fr C g w wr ∧ w.heap.size < wr.heap.size) (fun v _ => 26 - lenV v)
              case atStart =>
                exact ⟨a, n, c, l, p + 1, rfl, by omega, HO.out.fr hf1 hgC, fun e => by have := (HO.out.row.lt _ e).2; omega, HE.out, HR1.out, by omega, hf1.mono hC, by omega⟩
              case round =>
                obtain ⟨a, m, c, l, q, rfl, hm, ho, hob, hbx, hr, hq, hf, hz⟩ := hrel
                have HOr : Hid (Own wr C (.slice a m c) l) := ho
                have HLr : Hid (m = l.length) := ho.len
                have HX : Hid (wr.heap[w.heap.size]? = some (.cells #[.int .u8 120, .int .i64 0, .int .i64 0] 30 (0, 0))) := hbx
                have HB : Hid ((Value.slice a m c).ownBlock ≠ some w.heap.size) := hob
                have HRr : Hid (Rd B wr g q) := hr
                have hcap := ho.txt.2.1
                have hcm := ho.txt.2.2.1
                unfold maxLen at hcm
                clear ho hob hbx hr
                go_wp2_with fail
                refine (pick_any B g q 2 _ HRr.out (by omega) (by omega) (by omega)).mono ?_
                rintro e w2 ⟨x, rfl, hx0, hx1, hr2, hg2⟩
                have z2 := hg2.size
                have hfr2 : Fr wr.heap.size g wr w2 := (Fr.refl _ _ wr).grown hg2 (Nat.le_refl _)
                have e2 : w2.heap[w.heap.size]? = some (.cells #[.int .u8 120, .int .i64 0, .int .i64 0] 30 (0, 0)) := (hg2.block w.heap.size hz (by simp; omega)).trans HX.out
                have HX2 : Hid (w2.heap[w.heap.size]? = some (.cells #[.int .u8 120, .int .i64 0, .int .i64 0] 30 (0, 0))) := e2
                have d0 : w2.cell? ⟨w.heap.size, 0, none⟩ = some (.int .u8 120) := by rw [cell_of_row w2 _ 0 _ _ _ e2]; rfl
                have d1 : w2.cell? ⟨w.heap.size, 1, none⟩ = some (.int .i64 0) := by rw [cell_of_row w2 _ 1 _ _ _ e2]; rfl
                have d2 : w2.cell? ⟨w.heap.size, 2, none⟩ = some (.int .i64 0) := by rw [cell_of_row w2 _ 2 _ _ _ e2]; rfl
                clear e2
                have HO2 : Hid (Own w2 C (.slice a m c) l) := HOr.out.fr hfr2 hgC
                have HR2 : Hid (Rd B w2 g (q + 1)) := hr2
                clear hr2
                by_cases hlt2 : (m : Int) < 24 + x
                · go_wp2_with (at_builtin; refine wpList_append_lies _ rfl (.tmp 45) (.tmp 47) 23 rfl C 30 i0 (.agg #[.int .u8 0, .int .i64 0, .int .i64 0]) 3 24 Try.underlying23 hi hz0 hz1 hz2 rfl (by omega) (.slice a m c) m (flat l) rfl (HO2.out.row.alloc _) ⟨w2.heap.size, 0, none⟩ 1 1 [.int .u8 120, .int .i64 0, .int .i64 0] rfl rfl (cell_three_new w2 _ _ _ _) (three_oneCell _ _ _) (by omega) (by unfold maxLen; omega) (by omega) (by simp; omega) (w2.heap.size + 1) (by simp) ?_; intro gg cc w3 hown3 hgrow hat hltg)
                  have hr3 : Rd B w3 g (q + 1) := (HR2.out.alloc _).grownAt hgrow (fun k hk => by have := (HO2.out.row.lt k hk).1; omega)
                  have hf3 : Fr C g w w3 := ((hf.trans (hfr2.mono (by omega))).alloc (by omega) _).grownAt hgrow (by simp; omega) (fun k hk => (HO2.out.row.lt k hk).1)
                  have ho3 : Own w3 C (.slice (some ⟨gg, 0, none⟩) (m + 1) cc) (l ++ [(120, 0, 0)]) := Own.snoc hown3 (by rw [HLr.out]) rfl
                  have hx3 : w3.heap[w.heap.size]? = some (.cells #[.int .u8 120, .int .i64 0, .int .i64 0] 30 (0, 0)) :=
                    (hgrow.block w.heap.size (by simp; omega) (fun e => HB.out e.symm)).trans ((Below.heap_alloc w2 _ w.heap.size (by omega)).trans HX2.out)
                  have hb3 : (Value.slice (some ⟨gg, 0, none⟩) (m + 1) cc).ownBlock ≠ some w.heap.size := by
                    intro e
                    simp only [Value.ownBlock, Option.some.injEq] at e
                    rcases hat with h | h
                    · exact HB.out (by rw [h, e])
                    · omega
                  have HH : Hid (Own w3 C (.slice (some ⟨gg, 0, none⟩) (m + 1) cc) (l ++ [(120, 0, 0)])) := ho3
                  have HB3 : Hid ((Value.slice (some ⟨gg, 0, none⟩) (m + 1) cc).ownBlock ≠ some w.heap.size) := hb3
                  have HX3 : Hid (w3.heap[w.heap.size]? = some (.cells #[.int .u8 120, .int .i64 0, .int .i64 0] 30 (0, 0))) := hx3
                  have hz3 : w.heap.size < w3.heap.size := by have := hgrow.size; simp only [World.size_alloc] at this; omega
                  clear hown3 hgrow hat ho3 hb3 hx3
                  go_wp2_with fail
                  go_roundw
                  case rel => exact ⟨some ⟨gg, 0, none⟩, m + 1, cc, l ++ [(120, 0, 0)], q + 1, rfl, by omega, HH.out, HB3.out, HX3.out, hr3, by omega, hf3, hz3⟩
                  case measure => simp [lenV]; omega
                · go_wp2_with fail
                  go_ret
                  exact ⟨_, l, q + 1, rfl, HO2.out, by rw [← HLr.out]; omega, HR2.out, by omega, hf.trans (hfr2.mono (by omega))⟩
            · have g4 : (u == 4) = false := by simp; omega
              go_wp2_with fail
              go_meet
              exact ⟨rfl, (120, 0, 0), p + 1, HE.out, HR1.out, by omega, hf1, by omega⟩
  case rest =>
    obtain ⟨rfl, s, q, hbx, hrx, hq, hfx, hzx⟩ := hcut
    have HOx : Hid (Own wc C (.slice a n c) l) := HO.out.fr hfx hgC
    have HRx : Hid (Rd B wc g q) := hrx
    have d0 : wc.cell? ⟨w.heap.size, 0, none⟩ = some (.int .u8 s.1) := by rw [cell_of_row wc _ 0 _ _ _ hbx]; rfl
    have d1 : wc.cell? ⟨w.heap.size, 1, none⟩ = some (.int .i64 s.2.1) := by rw [cell_of_row wc _ 1 _ _ _ hbx]; rfl
    have d2 : wc.cell? ⟨w.heap.size, 2, none⟩ = some (.int .i64 s.2.2) := by rw [cell_of_row wc _ 2 _ _ _ hbx]; rfl
    have hcap := HO.out.txt.2.1
    have hcm := HO.out.txt.2.2.1
    unfold maxLen at hcm
    clear hbx hrx hg1
    have tok : True := trivial
    go_wp2_with fail
    go_region_held3 (fun w' => w'.cell? ⟨w.heap.size, 0, none⟩ = some (.int .u8 s.1) ∧ w'.cell? ⟨w.heap.size, 1, none⟩ = some (.int .i64 s.2.1) ∧ w'.cell? ⟨w.heap.size, 2, none⟩ = some (.int .i64 s.2.2))
      (first
        | go_keep
        | (go_split_ands
           refine ⟨?_, ?_, ?_⟩
           · (rw [hgrow6.cell_far _ (by simp; omega) (by simp; omega)]; assumption)
           · (rw [hgrow6.cell_far _ (by simp; omega) (by simp; omega)]; assumption)
           · (rw [hgrow6.cell_far _ (by simp; omega) (by simp; omega)]; assumption))
        | (go_split_ands
           refine ⟨?_, ?_, ?_⟩
           · (rw [hgrow7.cell_far _ (by first | omega | (simp; omega)) (by simp; omega)]; assumption)
           · (rw [hgrow7.cell_far _ (by first | omega | (simp; omega)) (by simp; omega)]; assumption)
           · (rw [hgrow7.cell_far _ (by first | omega | (simp; omega)) (by simp; omega)]; assumption)))
      ((first
        | (have _t := tok; refine step_append_two _ (by rfl) (.tmp 50) (.tmp 51) _ (by rfl) wc.heap.size C 30 i0 _ 3 24 Try.underlying23 hi hz0 hz1 hz2 rfl (by omega) _ 0 0 [] (by rfl) (own_empty_at (by first | omega | (simp; done) | (simp; omega)) (by first | exact heap_alloc_new wc _ | exact heap_two_first wc _ _ | exact heap_two_second wc _ _)) a n c (flat l) (by rfl) (by first | exact (HOx.out.below ((Below.refl _ _).alloc (Nat.le_refl _) _)).row | exact (HOx.out.below (((Below.refl _ _).alloc (Nat.le_refl _) _).alloc (by simp) _)).row) (flat_oneCell l) (by unfold maxLen; omega) (by omega) (by first | (simp; done) | (simp; omega) | omega) n (Nat.zero_add n) ?_; intro g6 c6 w6 hown6 hgrow6; simp only [List.nil_append] at hown6; have hg6 := (hown6.lt g6 rfl).1; have hs6 := hgrow6.size; simp only [World.size_alloc, World.size_drew] at hs6; clear tok)
        | (have _t := hgrow6; refine step_append_two _ (by rfl) (.tmp 52) (.tmp 54) _ (by rfl) wc.heap.size C 30 i0 _ 3 24 Try.underlying23 hi hz0 hz1 hz2 rfl (by omega) g6 n c6 (flat l) (by rfl) (by first | exact hown6 | exact hown6.alloc _) _ 1 1 (sgCells s) (by rfl) (own_one_at (by first | omega | (simp; done) | (simp; omega)) (by first | exact heap_alloc_new w6 _ | exact (hgrow6.block (wc.heap.size + 1) (by first | (simp; done) | (simp; omega)) (by first | (simp; done) | (simp; omega))).trans (heap_two_second wc _ _) | exact (hgrow6.block wc.heap.size (by first | (simp; done) | (simp; omega)) (by first | (simp; done) | (simp; omega))).trans (heap_two_first wc _ _))) (three_oneCell _ _ _) (by unfold maxLen; omega) (by omega) (by first | omega | (simp; omega)) (n + 1) rfl ?_; intro g7 c7 w7 hown7 hgrow7)))
    all_goals
      have hb6 : Below wc.heap.size wc w6 := by
        first
          | exact ((Below.refl _ _).alloc (Nat.le_refl _) _).grown (grown_of_drew hgrow6) (by simp) (fun k hk => by simp at hk; omega)
          | exact (((Below.refl _ _).alloc (Nat.le_refl _) _).alloc (by simp) _).grown (grown_of_drew hgrow6) (by simp; omega) (fun k hk => by simp at hk; omega)
      have hb7 : Below wc.heap.size wc w7 := by
        first
          | exact hb6.grown hgrow7 hb6.size (fun k hk => by simp at hk; omega)
          | exact (hb6.alloc hb6.size _).grown hgrow7 (by have := hb6.size; simp; omega) (fun k hk => by simp at hk; omega)
      have ho7 : Own w7 C (.slice (some ⟨g7, 0, none⟩) (n + 1) c7) (l ++ [s]) :=
        Own.base (Own.snoc hown7 (by rw [← HL.out]) rfl) (by omega)
      have HO7 : Hid (Own w7 C (.slice (some ⟨g7, 0, none⟩) (n + 1) c7) (l ++ [s])) := ho7
      have hr7 : Rd B w7 g q := HRx.out.below hb7 HRx.out.lt
      have hf7 : Fr C g w w7 := (hfx.mono hC).below (hb7.mono (by omega))
      clear hown7 hgrow7 hown6 hgrow6 ho7
      go_wp2_with fail
      go_ret
      exact ⟨_, l ++ [s], q, rfl, HO7.out, by simp; rw [← HL.out]; omega, hr7, by omega, hf7⟩
end Go.Proofs.Ytoaeolpodjfbdaa
namespace Go.Proofs.Ytoaeolpodjfbdaa
open Go.RowKit

theorem Own.shapeL {w : World} {B : Nat} {v : Value} {l : List Sg} (h : Own w B v l) : ∃ a n cap, v = .slice a n cap ∧ n = l.length := by
  obtain ⟨a, cap, rfl, _⟩ := h.shape
  exact ⟨a, _, cap, rfl, rfl⟩

set_option maxHeartbeats 1000000 in
theorem l71Any_any (B g p : Nat) (w : World) (h : Rd B w g p) (hp : p ≤ 110000) :
    Calls Try.prog 20 #[.pointer (some ⟨g, 0, none⟩)] w fun e w' => ∃ (v : Value) (l : List Sg) (q : Nat), e = .returned v ∧ Own w' w.heap.size v l ∧ l.length ≤ 25 ∧ Rd B w' g q ∧ q ≤ p + 100 ∧ Fr w.heap.size g w w' := by
  have hlt := h.lt
  have HR : Hid (Rd B w g p) := h
  clear h
  go_enter Try.func20, Try.ntmps20
  go_wp2_with fail
  refine (l71Text_any B g p 8 _ HR.out (by omega) (by omega)).mono ?_
  rintro e w1 ⟨v, l, q, rfl, ho1, hl1, hr1, hq1, hf1⟩
  obtain ⟨a1, n1, c1, rfl, hn1⟩ := ho1.shapeL
  have HN : Hid (n1 = l.length) := hn1
  have hn8 : n1 ≤ 8 := by omega
  have HO1 : Hid (Own w1 w.heap.size (.slice a1 n1 c1) l) := ho1
  have HR1 : Hid (Rd B w1 g q) := hr1
  have s1 := hf1.size
  clear hn1 ho1 hr1
  go_wp2_with fail
  refine (pick_any B g q 6 _ HR1.out (by omega) (by omega) (by omega)).mono ?_
  rintro e w2 ⟨x, rfl, hx0, hx1, hr2, hg2⟩
  have s2 := hg2.size
  have hf2 : Fr w1.heap.size g w1 w2 := (Fr.refl _ _ w1).grown hg2 (Nat.le_refl _)
  have HO2 : Hid (Own w2 w.heap.size (.slice a1 n1 c1) l) := HO1.out.fr hf2 hlt
  have HR2 : Hid (Rd B w2 g (q + 1)) := hr2
  clear hr2
  by_cases h0 : x = 0
  · subst h0
    go_wp2_with fail
    refine (l71Bad_any B g (q + 1) w.heap.size a1 n1 c1 l _ HR2.out (by omega) HO2.out hlt (by omega) (by omega)).mono ?_
    rintro e w3 ⟨v, l', q', rfl, ho3, hl3, hr3, hq3, hf3⟩
    obtain ⟨a3, n3, c3, rfl, hn3⟩ := ho3.shapeL
    have HO3 : Hid (Own w3 w.heap.size (.slice a3 n3 c3) l') := ho3
    clear ho3 hn3
    go_wp2_with fail
    go_ret
    exact ⟨_, l', q', rfl, HO3.out, hl3, hr3, by omega, (hf1.trans (hf2.mono s1)).trans hf3⟩
  · have g0 : (x == 0) = false := by simp; omega
    go_wp2_with fail
    go_ret
    exact ⟨_, l, q + 1, rfl, HO2.out, by omega, HR2.out, by omega, hf1.trans (hf2.mono s1)⟩

/-- From a reader of one's own to what was there. -/
theorem below_of_fr {w w1 w2 : World} (hb : Below w.heap.size w w1) (hf : Fr w1.heap.size w.heap.size w1 w2) : Below w.heap.size w w2 :=
  hb.trans ⟨hf.os, hf.tape, hf.output, hf.size, fun k hk => hf.block k (Nat.lt_of_lt_of_le hk hb.size) (by omega)⟩
end Go.Proofs.Ytoaeolpodjfbdaa
namespace Go.Proofs.Ytoaeolpodjfbdaa
open Go.RowKit

set_option maxHeartbeats 400000 in
theorem drawTextBy_any (B : Nat) (a : Option Addr) (n cap : Nat) (zs : List Int) (w : World) (h : Byt B w a n cap zs) (hB : B ≤ w.heap.size) :
    Calls Try.prog 5 #[.slice a n cap] w fun e w' => ∃ (v : Value) (l : List Sg), e = .returned v ∧ Own w' w.heap.size v l ∧ l.length ≤ 25 ∧ Below w.heap.size w w' := by
  go_enter Try.func5, Try.ntmps5
  go_wp2_with fail
  refine (l6Open_any B a n cap zs _ h hB).mono ?_
  rintro e w1 ⟨rfl, hr1, hb1⟩
  have s1 := hb1.size
  go_wp2_with fail
  refine (l71Any_any B _ 0 _ hr1 (by omega)).mono ?_
  rintro e w2 ⟨v, l, q, rfl, ho2, hl2, hr2, hq2, hf2⟩
  obtain ⟨a2, n2, c2, rfl, hn2⟩ := ho2.shapeL
  have HO : Hid (Own w2 w.heap.size (.slice a2 n2 c2) l) := Own.base ho2 s1
  clear ho2 hn2 hr2
  go_wp2_with fail
  go_ret
  exact ⟨_, l, rfl, HO.out, hl2, below_of_fr hb1 hf2⟩
end Go.Proofs.Ytoaeolpodjfbdaa
namespace Go.Proofs.Ytoaeolpodjfbdaa
open Go.RowKit

theorem implTextBy_is {a : Option Addr} {n cap : Nat} {l : List Sg} {w : World} (h : Txt w a n cap l) {L : List Int} (hL : specByL l = L) :
    Calls Try.prog 6 #[.slice a n cap] w fun e w' => ∃ v, e = .returned v ∧ OwnI w' w.heap.size v L ∧ Below w.heap.size w w' := by
  rw [← hL, ← by_eq]; exact implTextBy_any a n cap l w h
theorem specTextBy_is {a : Option Addr} {n cap : Nat} {l : List Sg} {w : World} (h : Txt w a n cap l) {L : List Int} (hL : specByL l = L) :
    Calls Try.prog 8 #[.slice a n cap] w fun e w' => ∃ v, e = .returned v ∧ OwnI w' w.heap.size v L ∧ Below w.heap.size w w' := by
  rw [← hL]; exact specTextBy_any a n cap l w h
theorem getD_mem (l : List Sg) (k : Nat) (h : k < l.length) : l.getD k (0, 0, 0) ∈ l := by simp [List.getD, h]
theorem pickL_byte {q : Sg → Bool} {l : List Sg} : ∀ n ∈ pickL q l, byteB n = true := by
  intro n hn
  unfold pickL at hn
  cases h : textB l
  · rw [h] at hn; simp at hn
  · rw [h, if_pos rfl] at hn
    obtain ⟨s, hs, rfl⟩ := List.mem_map.1 hn
    exact (sgB_parts (textB_all h s (List.mem_filter.1 hs).1)).1
/-- Two lists of bytes are the same text just if they are the same. -/
theorem strOfNums_inj {A B : List Int} (ha : ∀ n ∈ A, byteB n = true) (hb : ∀ n ∈ B, byteB n = true) (h : strOfNums A = strOfNums B) : A = B := by
  have e : A.map (fun n => UInt8.ofNat n.toNat) = B.map (fun n => UInt8.ofNat n.toNat) := by
    have := congrArg (fun s : ByteArray => s.data.toList) h
    simpa [strOfNums_data] using this
  have back : ∀ L : List Int, (∀ n ∈ L, byteB n = true) → (L.map (fun n => UInt8.ofNat n.toNat)).map (fun c => (c.toNat : Int)) = L := by
    intro L hL
    have e2 : L.map ((fun c : UInt8 => (c.toNat : Int)) ∘ (fun n : Int => UInt8.ofNat n.toNat)) = L.map id := by
      refine List.map_congr_left (fun n hn => ?_)
      have hb := hL n hn
      simp [byteB] at hb
      show ((UInt8.ofNat n.toNat).toNat : Int) = n
      rw [show (UInt8.ofNat n.toNat).toNat = n.toNat % 256 from UInt8.toNat_ofNat' ..]
      omega
    rw [List.map_map, e2, List.map_id]
  rw [← back A ha, ← back B hb, e]

set_option maxHeartbeats 4000000 in
theorem fnTextBy_walk (a : Option Addr) (n cap : Nat) (zs : List Int) (w : World) (h : Byt w.heap.size w a n cap zs) :
    Calls Try.prog 3 #[.slice a n cap] w fun e w' => e = .returned (.bool true) ∧ Below w.heap.size w w' := by
  have hc := h.2.1
  have hm := h.2.2.1
  unfold maxLen at hm
  by_cases hn : n ≤ 1048576
  · have hd : decide ((1048576 : Int) < (n : Int)) = false := by simp; omega
    have HY : Hid (Byt w.heap.size w a n cap zs) := h
    clear h
    go_enter Try.func3, Try.ntmps3
    go_wp2_with fail
    refine (drawTextBy_any w.heap.size a n cap zs _ HY.out (Nat.le_refl _)).mono ?_
    rintro e w1 ⟨v, l, rfl, ho1, hl1, hb1⟩
    have s1 := hb1.size
    obtain ⟨a1, n1, c1, rfl, hn1⟩ := ho1.shapeL
    have hn25 : n1 ≤ 25 := by omega
    have HL : Hid (n1 = l.length) := hn1
    have HT1 : Hid (Txt w1 a1 n1 c1 l) := ho1.txt
    have hcap := ho1.txt.2.1
    have hcm := ho1.txt.2.2.1
    unfold maxLen at hcm
    clear ho1 hn1
    obtain ⟨L, hLL⟩ : ∃ L, specByL l = L := ⟨_, rfl⟩
    have HLL : Hid (specByL l = L) := hLL
    have hL3 : L.length ≤ 3 := by rw [← hLL]; exact by_le l
    clear hLL
    go_wp2_with fail
    refine (implTextBy_is HT1.out HLL.out).mono ?_
    rintro e w2 ⟨v, rfl, ho2, hb2⟩
    have s2 := hb2.size
    obtain ⟨a2, n2, c2, rfl, hn2⟩ := ho2.shapeL
    have HN2 : Hid (n2 = L.length) := hn2
    have hn23 : n2 ≤ 3 := by omega
    have HI2 : Hid (Ints w2 a2 n2 c2 L) := ho2.ints
    have hcap2 := ho2.ints.2.1
    have hcm2 := ho2.ints.2.2.1
    unfold maxLen at hcm2
    clear ho2 hn2
    go_wp2_with fail
    refine (specTextBy_is (HT1.out.below hb2) HLL.out).mono ?_
    rintro e w3 ⟨v, rfl, ho3, hb3⟩
    have s3 := hb3.size
    obtain ⟨a3, n3, c3, rfl, hn3⟩ := ho3.shapeL
    have HI3 : Hid (Ints w3 a3 n3 c3 L) := ho3.ints
    clear ho3 hn3
    go_wp2_with fail
    refine (lmInts_same (HI2.out.below hb3) HI3.out).mono ?_
    rintro e w4 ⟨rfl, hb4⟩
    have s4 := hb4.size
    have HT4 : Hid (Txt w4 a1 n1 c1 l) := ((HT1.out.below hb2).below hb3).below hb4
    have HI4 : Hid (Ints w4 a2 n2 c2 L) := (HI2.out.below hb3).below hb4
    have HB4 : Hid (Below w.heap.size w w4) := ((hb1.trans (hb2.mono (by omega))).trans (hb3.mono (by omega))).trans (hb4.mono (by omega))
    clear hb1 hb2 hb3 hb4
    cases htb : textB l
    · have HB : Hid (textB l = false) := htb
      clear htb
      go_wp2_with fail
      refine (specTextOk_is HT4.out HB.out).mono ?_
      rintro e w5 ⟨rfl, hb5⟩
      have s5 := hb5.size
      go_wp2_with fail
      refine (specTextBy_is (HT4.out.below hb5) HLL.out).mono ?_
      rintro e w6 ⟨v, rfl, ho6, hb6⟩
      have s6 := hb6.size
      obtain ⟨a6, n6, c6, rfl, hn6⟩ := ho6.shapeL
      have HI6 : Hid (Ints w6 a6 n6 c6 L) := ho6.ints
      clear ho6 hn6
      go_wp2_with fail
      refine (lmInts_same ((HI4.out.below hb5).below hb6) HI6.out).mono ?_
      rintro e w7 ⟨rfl, hb7⟩
      go_wp2_with fail
      go_ret
      exact ⟨rfl, ((HB4.out.trans (hb5.mono (by omega))).trans (hb6.mono (by omega))).trans (hb7.mono (by omega))⟩
    · have HB : Hid (textB l = true) := htb
      clear htb
      go_wp2_with fail
      refine (specTextOk_is HT4.out HB.out).mono ?_
      rintro e w5 ⟨rfl, hb5⟩
      have s5 := hb5.size
      have HT5 : Hid (Txt w5 a1 n1 c1 l) := HT4.out.below hb5
      have HI5 : Hid (Ints w5 a2 n2 c2 L) := HI4.out.below hb5
      have HB5 : Hid (Below w.heap.size w w5) := HB4.out.trans (hb5.mono (by omega))
      clear hb5
      go_wp2_with fail
      go_loop [5] (fun i => ∃ k : Nat, k ≤ n1 ∧ i = .int .i64 (k : Int)) (fun i => n1 - (intOf i).toNat)
      case atStart => exact ⟨0, Nat.zero_le _, rfl⟩
      case round =>
        obtain ⟨k, hk, rfl⟩ := hrel
        by_cases hlt : k < n1
        · have hlt' : k < l.length := by rw [← HL.out]; exact hlt
          have HMem : Hid (l.getD k (0, 0, 0) ∈ l) := getD_mem l k hlt'
          rcases HT5.out.2.2.2 with hnil | ⟨b, off, rfl, hbw, hcells⟩
          · rw [hnil] at hlt'; exact absurd hlt' (by simp)
          · obtain ⟨c0, c1', c2'⟩ := hcells k hlt'
            clear hcells
            obtain ⟨s, hs⟩ : ∃ s, s = l.getD k (0, 0, 0) := ⟨_, rfl⟩
            rw [← hs] at c0 c1' c2'
            have HMs : Hid (s ∈ l) := by show s ∈ l; rw [hs]; exact HMem.out
            clear hs
            by_cases hi : 0 < s.2.1
            · by_cases ho : 0 < s.2.2
              · go_wp2_with fail
                refine (lmIn_yes HI5.out (by rw [← HLL.out]; exact in_by HB.out HMs.out hi)).mono ?_
                rintro e w6 ⟨rfl, rfl⟩
                go_wp2_with fail
                refine (lmIn_yes HI5.out (by rw [← HLL.out]; exact out_by HB.out HMs.out ho)).mono ?_
                rintro e w6 ⟨rfl, rfl⟩
                go_wp2_with fail
                go_round
                case rel => exact ⟨k + 1, by omega, by go_num⟩
                case measure => simp [intOf]; omega
              · have ho' : decide (0 < s.2.2) = false := by simp; omega
                go_wp2_with fail
                refine (lmIn_yes HI5.out (by rw [← HLL.out]; exact in_by HB.out HMs.out hi)).mono ?_
                rintro e w6 ⟨rfl, rfl⟩
                go_wp2_with fail
                go_round
                case rel => exact ⟨k + 1, by omega, by go_num⟩
                case measure => simp [intOf]; omega
            · have hi' : decide (0 < s.2.1) = false := by simp; omega
              by_cases ho : 0 < s.2.2
              · go_wp2_with fail
                refine (lmIn_yes HI5.out (by rw [← HLL.out]; exact out_by HB.out HMs.out ho)).mono ?_
                rintro e w6 ⟨rfl, rfl⟩
                go_wp2_with fail
                go_round
                case rel => exact ⟨k + 1, by omega, by go_num⟩
                case measure => simp [intOf]; omega
              · have ho' : decide (0 < s.2.2) = false := by simp; omega
                go_wp2_with fail
                go_round
                case rel => exact ⟨k + 1, by omega, by go_num⟩
                case measure => simp [intOf]; omega
        · obtain rfl : k = n1 := by omega
          go_wp2_with fail
          go_loopw [6] (fun i wr => ∃ (p q : Nat), i = .int .i64 ((p : Int) + 1) ∧ (p + 1 ≤ n2 ∨ p = 0) ∧ wr = w5.drewN q) (fun i _ => 4 - (intOf i).toNat)
          case atStart => exact ⟨0, 0, rfl, .inr rfl, rfl⟩
          case round =>
            obtain ⟨p, q, rfl, hp, rfl⟩ := hrel
            by_cases hpn : p + 1 < n2
            · have hpL : p + 1 < L.length := by rw [← HN2.out]; exact hpn
              have HAsc : Hid (L.getD p 0 < L.getD (p + 1) 0) := by show L.getD p 0 < L.getD (p + 1) 0; rw [← HLL.out]; exact by_asc l p (by rw [HLL.out]; exact hpL)
              rcases HI5.out.2.2.2 with hnil | ⟨b, off, rfl, hbw, hcells⟩
              · rw [hnil] at hpL; exact absurd hpL (by simp)
              · have d0 := hcells p (by omega)
                have d1 := hcells (p + 1) hpL
                clear hcells
                obtain ⟨x, hx⟩ : ∃ x, x = L.getD p 0 := ⟨_, rfl⟩
                obtain ⟨y, hy⟩ : ∃ y, y = L.getD (p + 1) 0 := ⟨_, rfl⟩
                rw [← hx] at d0
                rw [← hy] at d1
                have hxy : x < y := by rw [hx, hy]; exact HAsc.out
                have hxy' : decide (y ≤ x) = false := by simp; omega
                have j1 : (p : Int) < (n2 : Int) := by omega
                have j2 : (p : Int) + 1 < (n2 : Int) := by omega
                clear hx hy
                go_wp2_with fail
                go_quiet (fail)
                go_wp2_with fail
                go_roundw
                case rel => exact ⟨p + 1, q + nq, by go_num, .inl (by omega), by first | rfl | rw [World.drewN_drewN]⟩
                case measure => simp [intOf]; omega
            · have HTq : Hid (Txt (w5.drewN q) a1 k c1 l) := HT5.out.below (below_drewN (Below.refl _ _) _)
              have HBq : Hid (Below w.heap.size w (w5.drewN q)) := below_drewN HB5.out _
              have hszq : (w5.drewN q).heap.size = w5.heap.size := rfl
              obtain ⟨S, hS⟩ : ∃ S, strOfNums (pickL noOut l) = S := ⟨_, rfl⟩
              obtain ⟨U, hU⟩ : ∃ S, strOfNums (pickL noIn l) = S := ⟨_, rfl⟩
              have hnil := by_nil HB.out
              rw [HLL.out] at hnil
              have hS' : (pickL noOut l).length = S.size := by rw [← hS, strOfNums_size]
              rw [hS', ← HL.out] at hnil
              have HS : Hid (strOfNums (pickL noOut l) = S) := hS
              have HU : Hid (strOfNums (pickL noIn l) = U) := hU
              by_cases hSU : S = U
              · have e1 : pickL noOut l = pickL noIn l := strOfNums_inj pickL_byte pickL_byte (by rw [hS, hU, hSU])
                rw [decide_eq_true e1, Bool.true_and] at hnil
                subst hSU
                have hfin : (((n2 : Int) == 0) == ((S.size : Int) == (k : Int))) = true := by
                  by_cases h0 : L = []
                  · rw [decide_eq_true h0] at hnil
                    have f1 : S.size = k := of_decide_eq_true hnil.symm
                    have f2 : n2 = 0 := by rw [HN2.out, h0]; rfl
                    simp [f1, f2]
                  · rw [decide_eq_false h0] at hnil
                    have f1 : ¬ S.size = k := of_decide_eq_false hnil.symm
                    have f2 : ¬ n2 = 0 := fun e => h0 (List.eq_nil_of_length_eq_zero (by rw [← HN2.out]; exact e))
                    have g1 : ((S.size : Int) == (k : Int)) = false := by simp; omega
                    have g2 : ((n2 : Int) == 0) = false := by simp; omega
                    rw [g1, g2]; rfl
                have HF : Hid ((((n2 : Int) == 0) == ((S.size : Int) == (k : Int))) = true) := hfin
                clear hnil hS hU hS' e1 hfin
                go_wp2_with fail
                refine (implTextNow_is HTq.out HS.out).mono ?_
                rintro e w6 ⟨rfl, hb6⟩
                have s6 := hb6.size
                go_wp2_with fail
                refine (implTextWas_is (HTq.out.below hb6) HU.out).mono ?_
                rintro e w7 ⟨rfl, hb7⟩
                have s7 := hb7.size
                go_wp2_with fail
                refine (implTextNow_is ((HTq.out.below hb6).below hb7) HS.out).mono ?_
                rintro e w8 ⟨rfl, hb8⟩
                go_wp2_with fail
                go_ret
                exact ⟨congrArg (fun b => Ending.returned (Value.bool b)) HF.out, ((HBq.out.trans (hb6.mono (by omega))).trans (hb7.mono (by omega))).trans (hb8.mono (by omega))⟩
              · have e1 : ¬ pickL noOut l = pickL noIn l := fun e => hSU (by rw [← hS, ← hU, e])
                rw [decide_eq_false e1, Bool.false_and] at hnil
                have h0 : ¬ L = [] := of_decide_eq_false hnil
                have hn20 : ((n2 : Int) == 0) = false := by
                  have f2 : ¬ n2 = 0 := fun e => h0 (List.eq_nil_of_length_eq_zero (by rw [← HN2.out]; exact e))
                  simp; omega
                have hneq : (S.toList == U.toList) = false := by
                  rw [beq_eq_false_iff_ne]
                  intro e
                  apply hSU
                  rw [ByteArray.toList_eq, ByteArray.toList_eq] at e
                  apply ByteArray.ext
                  exact Array.toList_inj.1 e
                clear hnil hS hU hS' e1 h0 hSU
                go_wp2_with fail
                refine (implTextNow_is HTq.out HS.out).mono ?_
                rintro e w6 ⟨rfl, hb6⟩
                have s6 := hb6.size
                go_wp2_with fail
                refine (implTextWas_is (HTq.out.below hb6) HU.out).mono ?_
                rintro e w7 ⟨rfl, hb7⟩
                go_wp2_with fail
                go_ret
                exact ⟨rfl, (HBq.out.trans (hb6.mono (by omega))).trans (hb7.mono (by omega))⟩
  · have hd : decide ((1048576 : Int) < (n : Int)) = true := by simp; omega
    go_enter Try.func3, Try.ntmps3
    go_wp2_with fail
    go_ret
    exact ⟨rfl, Below.refl _ _⟩
end Go.Proofs.Ytoaeolpodjfbdaa
