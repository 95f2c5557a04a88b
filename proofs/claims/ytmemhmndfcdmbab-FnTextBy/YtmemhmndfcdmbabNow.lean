import Derived.Test.YtmemhmndfcdmbabSettle
import Derived.Laws.BytesArg
namespace Go.Proofs.Ytmemhmndfcdmbab
open Go.RowKit

/-- A value that owns a list of bytes. -/
def OwnB (w : World) (B : Nat) (v : Value) (ns : List Int) : Prop := w.ownsRow B 5 1 v ns.length (ns.map (Value.int .u8))

theorem OwnB.shape {w : World} {B : Nat} {v : Value} {ns : List Int} (h : OwnB w B v ns) : ∃ a cap, v = .slice a ns.length cap := by
  have h' := h
  unfold OwnB at h'
  rcases h'.2 with ⟨rfl, h0⟩ | ⟨g, cap, cur, rfl, r⟩
  · exact ⟨none, 0, by rw [h0]⟩
  · exact ⟨_, _, rfl⟩
theorem OwnB.below {w w' : World} {B : Nat} {v : Value} {l : List Int} (h : OwnB w B v l) (hb : Below w.heap.size w w') : OwnB w' B v l := own_below h hb
theorem OwnB.nil (w : World) (B : Nat) : OwnB w B (.slice none 0 0) [] := World.ownsRow_nil _ _ _ _
theorem OwnB.alloc {w : World} {B : Nat} {v : Value} {l : List Int} (h : OwnB w B v l) (o : Obj) : OwnB (w.alloc o) B v l := World.ownsRow.alloc h o
theorem OwnB.emptyNew (w : World) (B : Nat) (hB : B ≤ w.heap.size) : OwnB (w.alloc (.cells #[] 5)) B (.slice (some ⟨w.heap.size, 0, none⟩) 0 0) [] :=
  World.ownsRow_made w #[] 0 hB (Nat.zero_le _) rfl
theorem OwnB.len {w : World} {B : Nat} {a : Option Addr} {n cap : Nat} {l : List Int} (h : OwnB w B (.slice a n cap) l) : n = l.length := by
  obtain ⟨a', c', he⟩ := h.shape
  simp only [Value.slice.injEq] at he
  exact he.2.1
theorem OwnB.row {w : World} {B : Nat} {a : Option Addr} {n cap : Nat} {l : List Int} (h : OwnB w B (.slice a n cap) l) : w.ownsRow B 5 1 (.slice a n cap) n (l.map (Value.int .u8)) := by
  have := h.len
  subst this
  exact h

theorem ownB_step {B : Nat} {w wr w1 : World} {a : Option Addr} {k c : Nat} {v' : Value} {l : List Int} {x : Int} {o : Obj} (ho : OwnB wr B (.slice a k c) l) (hbl : Below B w wr) (hB : B ≤ wr.heap.size)
    (hown : w1.ownsRow B 5 1 v' (k + 1) (l.map (Value.int .u8) ++ [.int .u8 x])) (hgrow : (wr.alloc o).grownBy w1 (Value.slice a k c).ownBlock) :
    ∃ a' c', v' = .slice a' (k + 1) c' ∧ OwnB w1 B (.slice a' (k + 1) c') (l ++ [x]) ∧ Below B w w1 := by
  have hk := ho.len
  have h1 : OwnB w1 B v' (l ++ [x]) := by
    unfold OwnB
    rw [List.length_append, List.map_append, show l.length + [x].length = k + 1 by simp; omega]
    exact hown
  obtain ⟨a', c', rfl⟩ := h1.shape
  have e : (l ++ [x]).length = k + 1 := by simp; omega
  rw [e] at h1 ⊢
  refine ⟨a', c', rfl, h1, ?_⟩
  exact (hbl.alloc hB _).grown hgrow (by simp; omega) (fun q hq => (ho.row.lt q hq).1)

theorem convert_own {w : World} {B : Nat} {a : Option Addr} {n cap : Nat} {ns : List Int} (h : OwnB w B (.slice a n cap) ns) :
    (convert 22 9 (.slice a n cap)).run Try.prog w = .ok (.string (strOfNums ns)) w := by
  have hn := h.len
  have hr := h.row
  rcases hr.2 with ⟨hv, h0⟩ | ⟨g, cap', cur, hv, r⟩
  · simp only [Value.slice.injEq] at hv
    obtain ⟨rfl, rfl, rfl⟩ := hv
    have : ns = [] := List.eq_nil_of_length_eq_zero hn.symm
    subst this
    exact run_convert_bytes_nil w 22 5 Try.underlying22 Try.underlying5 0 0 _ Try.underlying9
  · simp only [Value.slice.injEq, true_and] at hv
    obtain ⟨rfl, rfl⟩ := hv
    refine run_convert_bytes_arg w 22 5 Try.underlying22 Try.underlying5 g 0 n cap ns hn.symm ?_ _ Try.underlying9
    intro i hi
    rw [Nat.zero_add, hr.cellAt i (by omega)]
    rw [List.getElem?_map, List.getElem?_eq_getElem (by omega)]
    simp [List.getD, show i < ns.length by omega]

theorem cell_one_new' (w : World) (x : Value) (t : TypeId) : ∀ j u, [x][j]? = some u → (w.alloc (.cells #[x] t)).cell? ((⟨w.heap.size, 0, none⟩ : Addr).add j) = some u := by
  intro j u hj
  match j, hj with
  | 0, hj => simp at hj; subst hj; simp [Addr.add]
  | (j + 1), hj => simp at hj
theorem byte_oneCell (x : Int) : ∀ u ∈ [Value.int .u8 x], u.oneCell' = true := by
  intro u hu
  simp at hu
  subst hu
  rfl

theorem Try.info5 : (Try.prog.info? 5).map (fun i => (i.zero, i.size, i.bytes)) = some (some (.int .u8 0), 1, 1) := by kernel_rfl

def bytesOf (l : List Sg) : List Int := l.map (·.1)
theorem bytesOf_take_succ (l : List Sg) (k : Nat) (hk : k < l.length) : bytesOf (l.take (k + 1)) = bytesOf (l.take k) ++ [(l.getD k (0, 0, 0)).1] := by
  have e : l.getD k (0, 0, 0) = l[k] := by simp [List.getD, hk]
  rw [e]
  unfold bytesOf
  rw [List.take_succ_eq_append_getElem hk, List.map_append]
  rfl

set_option maxHeartbeats 1000000 in
theorem textBytes_any (a : Option Addr) (n cap : Nat) (l : List Sg) (w : World) (h : Txt w a n cap l) (hn : n ≤ 1048576) :
    Calls Try.prog 23 #[.slice a n cap] w fun e w' => e = .returned (.string (strOfNums (bytesOf l))) ∧ Below w.heap.size w w' := by
  obtain ⟨rfl, hc, hm, hl⟩ := h
  unfold maxLen at hm
  obtain ⟨i0, hi, hz0, hz1, hz2⟩ := info_parts Try.info5
  rcases hl with rfl | ⟨b, off, rfl, hbw, hl⟩
  · have hcv := convert_own (OwnB.nil w 0)
    go_enter Try.func23, Try.ntmps23
    go_wp2_with fail
    refine wp_loop_rounds 1 ?_
    rw [rounds_succ]
    go_wp2_with fail
    go_ret
    exact ⟨rfl, Below.refl _ _⟩
  · go_enter Try.func23, Try.ntmps23
    go_wp2_with fail
    go_loopw [3, 8] (fun v i wr => ∃ (k : Nat) (a : Option Addr) (c : Nat), k ≤ l.length ∧ i = .int .i64 k ∧ v = .slice a k c ∧ OwnB wr w.heap.size (.slice a k c) (bytesOf (l.take k)) ∧ Below w.heap.size w wr) (fun _ i _ => l.length - (intOf i).toNat)
    case atStart => exact ⟨0, none, 0, Nat.zero_le _, rfl, rfl, by simpa [bytesOf] using OwnB.nil _ _, Below.refl _ _⟩
    case round =>
      obtain ⟨k, a, c, hk, rfl, rfl, ho, hbl⟩ := hrel
      have hsz := hbl.size
      by_cases hlt : k < l.length
      · have HO : Hid (OwnB wr w.heap.size (.slice a k c) (bytesOf (l.take k))) := ho
        clear ho
        obtain ⟨c0, c1, c2⟩ := (hl.below hbl hbw) k hlt
        clear hl
        obtain ⟨s, hs⟩ : ∃ s, s = l.getD k (0, 0, 0) := ⟨_, rfl⟩
        rw [← hs] at c0 c1 c2
        have HS : Hid (s = l.getD k (0, 0, 0)) := hs
        clear hs
        go_wp2_with (at_builtin; refine wpList_append_own _ rfl (.tmp 12) (.tmp 15) 22 rfl w.heap.size 5 i0 (.int .u8 0) 1 1 Try.underlying22 hi hz0 hz1 hz2 rfl (by decide) (.slice a k c) _ _ rfl ((HO.out.row.alloc _).alloc _) ⟨wr.heap.size + 1, 0, none⟩ 1 1 [.int .u8 s.1] rfl rfl (by have e := cell_one_new' (wr.alloc (.cells #[.int .u8 s.1, .int .i64 s.2.1, .int .i64 s.2.2] 30)) (.int .u8 s.1) 5; simpa using e) (byte_oneCell _) (by unfold maxLen; omega) (by omega) (by simp; omega) ?_; intro v' w1 hown' hgrow _)
        obtain ⟨a', c', rfl, ho1, hb1⟩ := ownB_step (x := s.1) (HO.out.alloc _) (hbl.alloc hsz _) (by simp; omega) hown' hgrow
        rw [HS.out, ← bytesOf_take_succ l k hlt] at ho1
        go_roundw
        case rel => exact ⟨k + 1, a', c', by omega, by go_num, rfl, ho1, hb1⟩
        case measure => simp [intOf]; omega
      · obtain rfl : k = l.length := by omega
        rw [List.take_of_length_le (Nat.le_refl _)] at ho
        have hcv := convert_own ho
        clear ho
        go_wp2_with fail
        go_ret
        exact ⟨rfl, hbl⟩

def nowL (l : List Sg) : List Int := bytesOf (settleL 7 (outQ 7) l)
def wasL (l : List Sg) : List Int := bytesOf (settleL 7 (inQ 7) l)
theorem settleL_len (p : Int) (q : Sg → Bool) (l : List Sg) : (settleL p q l).length ≤ 24 := by
  unfold settleL
  cases h : textB l
  · simp
  · have := settled_len p q l
    have := textB_len h
    simp
    omega

set_option maxHeartbeats 400000 in
theorem implTextNow_any (a : Option Addr) (n cap : Nat) (l : List Sg) (w : World) (h : Txt w a n cap l) :
    Calls Try.prog 12 #[.slice a n cap] w fun e w' => e = .returned (.string (strOfNums (nowL l))) ∧ Below w.heap.size w w' := by
  go_enter Try.func12, Try.ntmps12
  go_wp2_with fail
  refine (settleOut_any a n cap l 7 _ h).mono ?_
  rintro e w1 ⟨v, rfl, ho1, hb1⟩
  obtain ⟨a1, p1, rfl, ht1⟩ := ho1.shape
  have hl := settleL_len 7 (outQ 7) l
  have s1 := hb1.size
  go_wp2_with fail
  refine (textBytes_any _ _ _ _ _ ht1 (by omega)).mono ?_
  rintro e w2 ⟨rfl, hb2⟩
  go_wp2_with fail
  go_ret
  exact ⟨rfl, hb1.trans (hb2.mono s1)⟩

set_option maxHeartbeats 400000 in
theorem implTextWas_any (a : Option Addr) (n cap : Nat) (l : List Sg) (w : World) (h : Txt w a n cap l) :
    Calls Try.prog 13 #[.slice a n cap] w fun e w' => e = .returned (.string (strOfNums (wasL l))) ∧ Below w.heap.size w w' := by
  go_enter Try.func13, Try.ntmps13
  go_wp2_with fail
  refine (settleIn_any a n cap l 7 _ h).mono ?_
  rintro e w1 ⟨v, rfl, ho1, hb1⟩
  obtain ⟨a1, p1, rfl, ht1⟩ := ho1.shape
  have hl := settleL_len 7 (inQ 7) l
  have s1 := hb1.size
  go_wp2_with fail
  refine (textBytes_any _ _ _ _ _ ht1 (by omega)).mono ?_
  rintro e w2 ⟨rfl, hb2⟩
  go_wp2_with fail
  go_ret
  exact ⟨rfl, hb1.trans (hb2.mono s1)⟩
end Go.Proofs.Ytmemhmndfcdmbab
