import Derived.Test.YtmemhmndfcdmbavPeople
import Derived.Deep.QuietTactic
import Derived.BigQuiet
namespace Go.Proofs.Ytmemhmndfcdmbav
open Go.RowKit

/-- A value that owns a list of ints. -/
def OwnI (w : World) (B : Nat) (v : Value) (ns : List Int) : Prop := w.ownsRow B 3 1 v ns.length (ns.map (Value.int .i64))
theorem OwnI.shape {w : World} {B : Nat} {v : Value} {ns : List Int} (h : OwnI w B v ns) : ∃ a cap, v = .slice a ns.length cap := by
  have h' := h
  unfold OwnI at h'
  rcases h'.2 with ⟨rfl, h0⟩ | ⟨g, cap, cur, rfl, r⟩
  · exact ⟨none, 0, by rw [h0]⟩
  · exact ⟨_, _, rfl⟩
theorem OwnI.below {w w' : World} {B : Nat} {v : Value} {l : List Int} (h : OwnI w B v l) (hb : Below w.heap.size w w') : OwnI w' B v l := own_below h hb
theorem OwnI.base {w : World} {B B' : Nat} {v : Value} {l : List Int} (h : OwnI w B' v l) (hB : B ≤ B') : OwnI w B v l :=
  ⟨h.1, h.2.elim .inl (fun ⟨g, cap, cur, x, y, z⟩ => .inr ⟨g, cap, cur, x, Nat.le_trans hB y, z⟩)⟩
theorem OwnI.nil (w : World) (B : Nat) : OwnI w B (.slice none 0 0) [] := World.ownsRow_nil _ _ _ _
theorem OwnI.alloc {w : World} {B : Nat} {v : Value} {l : List Int} (h : OwnI w B v l) (o : Obj) : OwnI (w.alloc o) B v l := World.ownsRow.alloc h o
theorem OwnI.len {w : World} {B : Nat} {a : Option Addr} {n cap : Nat} {l : List Int} (h : OwnI w B (.slice a n cap) l) : n = l.length := by
  obtain ⟨a', c', he⟩ := h.shape
  simp only [Value.slice.injEq] at he
  exact he.2.1
theorem OwnI.row {w : World} {B : Nat} {a : Option Addr} {n cap : Nat} {l : List Int} (h : OwnI w B (.slice a n cap) l) : w.ownsRow B 3 1 (.slice a n cap) n (l.map (Value.int .i64)) := by
  have := h.len
  subst this
  exact h
theorem ownI_step {B : Nat} {w wr w1 : World} {a : Option Addr} {k c : Nat} {v' : Value} {l : List Int} {x : Int} {o : Obj} (ho : OwnI wr B (.slice a k c) l) (hbl : Below B w wr) (hB : B ≤ wr.heap.size)
    (hown : w1.ownsRow B 3 1 v' (k + 1) (l.map (Value.int .i64) ++ [.int .i64 x])) (hgrow : (wr.alloc o).grownBy w1 (Value.slice a k c).ownBlock) :
    ∃ a' c', v' = .slice a' (k + 1) c' ∧ OwnI w1 B (.slice a' (k + 1) c') (l ++ [x]) ∧ Below B w w1 := by
  have hk := ho.len
  have h1 : OwnI w1 B v' (l ++ [x]) := by
    unfold OwnI
    rw [List.length_append, List.map_append, show l.length + [x].length = k + 1 by simp; omega]
    exact hown
  obtain ⟨a', c', rfl⟩ := h1.shape
  have e : (l ++ [x]).length = k + 1 := by simp; omega
  rw [e] at h1 ⊢
  refine ⟨a', c', rfl, h1, ?_⟩
  exact (hbl.alloc hB _).grown hgrow (by simp; omega) (fun q hq => (ho.row.lt q hq).1)
theorem cell_new1 (w : World) (x : Value) (t : TypeId) : ∀ j u, [x][j]? = some u → (w.alloc (.cells #[x] t)).cell? ((⟨w.heap.size, 0, none⟩ : Addr).add j) = some u := by
  intro j u hj
  match j, hj with
  | 0, hj => simp at hj; subst hj; simp [Addr.add]
  | (j + 1), hj => simp at hj
theorem int_oneCell (x : Int) : ∀ u ∈ [Value.int .i64 x], u.oneCell' = true := by
  intro u hu
  simp at hu
  subst hu
  rfl
theorem Try.info3 : (Try.prog.info? 3).map (fun i => (i.zero, i.size, i.bytes)) = some (some (.int .i64 0), 1, 8) := by kernel_rfl

/-- 1 up to k - 1, those in the set. -/
def listTo (p : Int) (k : Nat) : List Int := ((List.range (k - 1)).map fun i : Nat => ((i : Int) + 1)).filter (hasB p)
def peopleL (p : Int) : List Int := listTo p 4
theorem listTo_yes (p : Int) (k : Nat) (h1 : 1 ≤ k) (h : hasB p (k : Int) = true) : listTo p (k + 1) = listTo p k ++ [(k : Int)] := by
  unfold listTo
  obtain ⟨j, rfl⟩ : ∃ j, k = j + 1 := ⟨k - 1, by omega⟩
  rw [show j + 1 + 1 - 1 = j + 1 by omega, List.range_succ, List.map_append, List.filter_append]
  have h' : hasB p ((j : Int) + 1) = true := by simpa using h
  simp [h']
theorem listTo_no (p : Int) (k : Nat) (h1 : 1 ≤ k) (h : hasB p (k : Int) = false) : listTo p (k + 1) = listTo p k := by
  unfold listTo
  obtain ⟨j, rfl⟩ : ∃ j, k = j + 1 := ⟨k - 1, by omega⟩
  rw [show j + 1 + 1 - 1 = j + 1 by omega, List.range_succ, List.map_append, List.filter_append]
  have h' : hasB p ((j : Int) + 1) = false := by simpa using h
  simp [h']

set_option maxRecDepth 100000 in
set_option maxHeartbeats 1000000 in
theorem list_any (p : Int) (w : World) :
    Calls Try.prog 32 #[.int .u8 p] w fun e w' => ∃ v, e = .returned v ∧ OwnI w' w.heap.size v (peopleL p) ∧ Below w.heap.size w w' := by
  obtain ⟨i0, hi, hz0, hz1, hz2⟩ := info_parts Try.info3
  go_enter Try.func32, Try.ntmps32
  go_wp2_with fail
  go_loopw [3, 4] (fun v i wr => ∃ (k : Nat) (a : Option Addr) (m c : Nat), 1 ≤ k ∧ k ≤ 4 ∧ i = .int .i64 (k : Int) ∧ v = .slice a m c ∧ m ≤ k ∧ OwnI wr w.heap.size (.slice a m c) (listTo p k) ∧ Below w.heap.size w wr) (fun _ i _ => 4 - (intOf i).toNat)
  case atStart => exact ⟨1, none, 0, 0, Nat.le_refl _, by omega, rfl, rfl, by omega, by simpa [listTo] using OwnI.nil _ _, Below.refl _ _⟩
  case round =>
    obtain ⟨k, a, m, c, hk1, hk4, rfl, rfl, hmk, ho, hbl⟩ := hrel
    have hsz := hbl.size
    have HO : Hid (OwnI wr w.heap.size (.slice a m c) (listTo p k)) := ho
    clear ho
    by_cases hlt : k ≤ 3
    · cases hq : hasB p (k : Int)
      · go_wp2_with (go_at_call 50; refine (has_is hq _).mono ?_; rintro e w1 ⟨rfl, rfl⟩)
        go_roundw
        case rel => exact ⟨k + 1, a, m, c, by omega, by omega, by go_num, rfl, by omega, by rw [listTo_no p k hk1 hq]; exact HO.out, hbl⟩
        case measure => simp [intOf]; omega
      · go_wp2_with (first | (go_at_call 50; refine (has_is hq _).mono ?_; rintro e w1 ⟨rfl, rfl⟩) | (at_builtin; refine wpList_append_own _ rfl (.tmp 12) (.tmp 14) 24 rfl w.heap.size 3 i0 (.int .i64 0) 1 8 Try.underlying24 hi hz0 hz1 hz2 rfl (by decide) (.slice a m c) _ _ rfl (HO.out.row.alloc _) ⟨_, 0, none⟩ 1 1 [.int .i64 (k : Int)] rfl rfl (cell_new1 _ _ _) (int_oneCell _) (by unfold maxLen; omega) (by omega) (by simp; omega) ?_; intro v' w2 hown' hgrow _))
        obtain ⟨a', c', rfl, ho2, hb2⟩ := ownI_step (x := (k : Int)) HO.out hbl hsz hown' hgrow
        rw [← listTo_yes p k hk1 hq] at ho2
        go_roundw
        case rel => exact ⟨k + 1, a', m + 1, c', by omega, by omega, by go_num, rfl, by omega, ho2, hb2⟩
        case measure => simp [intOf]; omega
    · obtain rfl : k = 4 := by omega
      go_wp2_with fail
      go_ret
      exact ⟨_, rfl, HO.out, hbl⟩

def orB (a b : Int) : Int := bits BinOp.or IntKind.u8 a b
def maskL (l : List Sg) : Int := l.foldl (fun m s => orB m (orB (personN s.2.1) (personN s.2.2))) 0
theorem maskL_take_succ (l : List Sg) (k : Nat) (hk : k < l.length) : maskL (l.take (k + 1)) = orB (maskL (l.take k)) (orB (personN (l.getD k (0, 0, 0)).2.1) (personN (l.getD k (0, 0, 0)).2.2)) := by
  have e : l.getD k (0, 0, 0) = l[k] := by simp [List.getD, hk]
  rw [e]
  unfold maskL
  rw [List.take_succ_eq_append_getElem hk, List.foldl_append]
  rfl
def byL (l : List Sg) : List Int := if textB l then peopleL (maskL l) else []

set_option maxRecDepth 100000 in
set_option maxHeartbeats 1000000 in
theorem implTextBy_any (a : Option Addr) (n cap : Nat) (l : List Sg) (w : World) (h : Txt w a n cap l) :
    Calls Try.prog 10 #[.slice a n cap] w fun e w' => ∃ v, e = .returned v ∧ OwnI w' w.heap.size v (byL l) ∧ Below w.heap.size w w' := by
  have h0 := h
  obtain ⟨rfl, hc, hm, hl⟩ := h
  unfold maxLen at hm
  have HH : Hid (Txt w a l.length cap l) := h0
  clear h0
  cases htb : textB l
  · rw [show byL l = [] from by simp [byL, htb]]
    clear hl
    go_enter Try.func10, Try.ntmps10
    go_wp2_with (go_at_call 30; refine (implTextOk_is HH.out htb).mono ?_; rintro e w1 ⟨rfl, hb1⟩)
    go_ret
    exact ⟨_, rfl, OwnI.nil _ _, hb1⟩
  · rw [show byL l = peopleL (maskL l) from by simp [byL, htb]]
    rcases hl with rfl | ⟨b, off, rfl, hbw, hl⟩
    · go_enter Try.func10, Try.ntmps10
      go_wp2_with (go_at_call 30; refine (implTextOk_is HH.out htb).mono ?_; rintro e w1 ⟨rfl, hb1⟩)
      have s1 := hb1.size
      refine wp_loop_rounds 1 ?_
      rw [rounds_succ]
      go_wp2_with fail
      refine (list_any 0 _).mono ?_
      rintro e w2 ⟨v, rfl, ho, hb2⟩
      obtain ⟨a2, c2, rfl⟩ := ho.shape
      go_wp2_with fail
      go_ret
      exact ⟨_, rfl, OwnI.base ho s1, hb1.trans (hb2.mono s1)⟩
    · go_enter Try.func10, Try.ntmps10
      go_wp2_with (go_at_call 30; refine (implTextOk_is HH.out htb).mono ?_; rintro e w1 ⟨rfl, hb1⟩)
      go_loopw [3, 11] (fun mv i wr => ∃ (k : Nat), k ≤ l.length ∧ i = .int .i64 (k : Int) ∧ mv = .int .u8 (maskL (l.take k)) ∧ Below w.heap.size w wr) (fun _ i _ => l.length - (intOf i).toNat)
      case atStart => exact ⟨0, Nat.zero_le _, rfl, by simp [maskL], hb1⟩
      case round =>
        obtain ⟨k, hk, rfl, rfl, hbl⟩ := hrel
        have hsz := hbl.size
        clear hb1 htb
        by_cases hlt : k < l.length
        · obtain ⟨c0, c1, c2⟩ := (hl.below hbl hbw) k hlt
          clear hl
          obtain ⟨s, hs⟩ : ∃ s, s = l.getD k (0, 0, 0) := ⟨_, rfl⟩
          rw [← hs] at c0 c1 c2
          have HS : Hid (s = l.getD k (0, 0, 0)) := hs
          obtain ⟨M, hM⟩ : ∃ M, M = maskL (l.take k) := ⟨_, rfl⟩
          have HM : Hid (M = maskL (l.take k)) := hM
          rw [← hM]
          clear hs hM
          go_wp2_with fail
          go_quiet ((go_at_call 31; exact Calls.quiet_of_same (person_any _ _)))
          go_wp2_with fail
          go_roundw
          case rel => exact ⟨k + 1, by omega, by go_num, by rw [maskL_take_succ l k hlt, ← HS.out, ← HM.out]; rfl, below_drewN (hbl.alloc hsz _) _⟩
          case measure => simp [intOf]; omega
        · obtain rfl : k = l.length := by omega
          rw [List.take_of_length_le (Nat.le_refl _)]
          go_wp2_with fail
          refine (list_any _ _).mono ?_
          rintro e w2 ⟨v, rfl, ho, hb2⟩
          obtain ⟨a2, c2, rfl⟩ := ho.shape
          go_wp2_with fail
          go_ret
          exact ⟨_, rfl, OwnI.base ho hsz, hbl.trans (hb2.mono hsz)⟩
end Go.Proofs.Ytmemhmndfcdmbav
