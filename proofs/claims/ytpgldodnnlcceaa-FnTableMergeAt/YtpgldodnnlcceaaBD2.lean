import Derived.Test.YtpgldodnnlcceaaBD1
import Derived.Deep.RegionHeld3
import Derived.Deep.AppendLies
import Derived.Deep.Cut
import Derived.Deep.CutRange
import Derived.Deep.CutBlock
import Derived.Deep.DeepCutAuto
import Derived.Test.YtpgldodnnlcceaaBA2
namespace Go.Proofs.Ytpgldodnnlcceaa
open Go.RowKit

theorem flat_oneCell (l : List Sg) : ∀ u ∈ flat l, u.oneCell' = true := by
  intro u hu
  simp only [flat, List.mem_flatMap] at hu
  obtain ⟨s, _, hs⟩ := hu
  exact three_oneCell _ _ _ u hs

section
variable {P : Program}
/-- 'append(v, x...)', v not nil and owned, x owned (it may be nil). -/
theorem run_append_two (w : World) (t ty : TypeId) (base base' : Nat) (e : TypeId) (i : TypeInfo) (z : Value) (size bytes : Nat) (ht : P.underlying t = some (.slice e)) (hi : P.info? e = some i) (hz : i.zero = some z)
    (hsize : i.size = size) (hby : i.bytes = bytes) (hzs : z.cells.size = size) (hsz : 0 < size)
    (k n cap : Nat) (xs : List Value) (hown : w.ownsRow base e size (.slice (some ⟨k, 0, none⟩) n cap) n xs)
    (xa : Option Addr) (m c : Nat) (news : List Value) (hsrc : w.ownsRow base' e size (.slice xa m c) m news) (h1 : ∀ u ∈ news, u.oneCell' = true)
    (h63 : n + m ≤ maxLen) (hbytes : (n + m) * bytes ≤ 140737488355328) (hbase : base ≤ w.heap.size) :
    ∃ g cap' w', (Builtin.append_ #[t, t] ty #[.slice (some ⟨k, 0, none⟩) n cap, .slice xa m c]).run P w = .ok (.slice (some ⟨g, 0, none⟩) (n + m) cap') w' ∧
      w'.ownsRow base e size (.slice (some ⟨g, 0, none⟩) (n + m) cap') (n + m) (xs ++ news) ∧ w.grownBy w' (some k) := by
  rcases hsrc.2 with ⟨hv, h0⟩ | ⟨g', cap', cur, hv, r⟩
  · simp only [Value.slice.injEq] at hv
    obtain ⟨rfl, rfl, rfl⟩ := hv
    have hnil : news = [] := List.eq_nil_of_length_eq_zero (by simpa using hsrc.1)
    subst hnil
    refine ⟨k, cap, w, run_append_owned_none (P := P) w base t ty e i size ht hi _ n xs hown, by simpa using hown, ⟨rfl, rfl, rfl, Nat.le_refl _, fun _ _ _ => rfl⟩⟩
  · simp only [Value.slice.injEq, true_and] at hv
    obtain ⟨rfl, rfl⟩ := hv
    obtain ⟨v', w', hr, h2, h3, h4, _⟩ := run_append_own_at (P := P) w base t ty e i z size bytes ht hi hz hsize hby hzs hsz _ n xs hown ⟨g', 0, none⟩ m c news hsrc.1 (hsrc.cells (g := g') rfl) h1 h63 hbytes hbase
    rcases h2.2 with ⟨hnil, _⟩ | ⟨q, cq, cu, hq, _⟩
    · exact absurd (h4.1 hnil).1 (by simp)
    · subst hq
      exact ⟨q, cq, w', hr, h2, h3⟩

theorem step_append_two (w : World) {ops : Array Oper} {o : Oper} {a : Act} {K : Act → World → Prop} {Q : Exit → Act → World → Prop} {E : Prop} (hgd : o.guard = none) (s x : Operand) (t : TypeId)
    (ho : o.op = .call { callee := .builtin .append, args := #[s, x], argTypes := #[t, t] })
    (base base' : Nat) (e : TypeId) (i : TypeInfo) (z : Value) (size bytes : Nat) (ht : P.underlying t = some (.slice e)) (hi : P.info? e = some i) (hz : i.zero = some z)
    (hsize : i.size = size) (hby : i.bytes = bytes) (hzs : z.cells.size = size) (hsz : 0 < size)
    (k n cap : Nat) (xs : List Value) (hs : a.eval s = .slice (some ⟨k, 0, none⟩) n cap) (hown : w.ownsRow base e size (.slice (some ⟨k, 0, none⟩) n cap) n xs)
    (xa : Option Addr) (m c : Nat) (news : List Value) (hx : a.eval x = .slice xa m c) (hsrc : w.ownsRow base' e size (.slice xa m c) m news) (h1 : ∀ u ∈ news, u.oneCell' = true)
    (h63 : n + m ≤ maxLen) (hbytes : (n + m) * bytes ≤ 140737488355328) (hbase : base ≤ w.heap.size) (nm : Nat) (hnm : n + m = nm)
    (h : ∀ g cap' w', w'.ownsRow base e size (.slice (some ⟨g, 0, none⟩) nm cap') nm (xs ++ news) → w.grownBy w' (some k) → K (a.put o.dst (.slice (some ⟨g, 0, none⟩) nm cap')) w') :
    if Region.wanted o (yielded ops a.tmps) = true then Oper.wp P o a w K Q else E := by
  subst hnm
  have hw : Region.wanted o (yielded ops a.tmps) = true := by simp [Region.wanted, hgd]
  rw [if_pos hw]
  obtain ⟨g, cap', w', hr, h2, h3⟩ := run_append_two (P := P) w t o.type base base' e i z size bytes ht hi hz hsize hby hzs hsz k n cap xs hown xa m c news hsrc h1 h63 hbytes hbase
  unfold Oper.wp execOp
  simp only [ho, resolve, invoke, builtin, Sem.run_bind, Sem.run_pure, Result.andThen_ok, List.map_toArray, List.map_cons, List.map_nil, hs, hx, hr]
  exact h g cap' w' h2 h3
end

theorem Own.base {w : World} {B B' : Nat} {v : Value} {l : List Sg} (h : Own w B' v l) (hB : B ≤ B') : Own w B v l :=
  ⟨h.1, h.2.elim .inl (fun ⟨g, cap, cur, x, y, z⟩ => .inr ⟨g, cap, cur, x, Nat.le_trans hB y, z⟩)⟩
theorem heap_two_first (w : World) (o1 o2 : Obj) : ((w.alloc o1).alloc o2).heap[w.heap.size]? = some o1 := (Below.heap_alloc _ _ _ (by simp)).trans (heap_alloc_new w o1)
theorem heap_two_second (w : World) (o1 o2 : Obj) : ((w.alloc o1).alloc o2).heap[w.heap.size + 1]? = some o2 := by simpa using heap_alloc_new (w.alloc o1) o2
theorem own_empty_at {w : World} {C k : Nat} (hk : C ≤ k) (h : w.heap[k]? = some (.cells #[] 77 (0, 0))) : w.ownsRow C 77 3 (.slice (some ⟨k, 0, none⟩) 0 0) 0 [] :=
  ⟨rfl, .inr ⟨k, 0, #[], rfl, hk, h, Nat.le_refl _, Nat.zero_le _, rfl, rfl⟩⟩
theorem own_one_at {w : World} {C k : Nat} {s : Sg} (hk : C ≤ k) (h : w.heap[k]? = some (.cells #[.int .u8 s.1, .int .i64 s.2.1, .int .i64 s.2.2] 77 (0, 0))) : w.ownsRow C 77 3 (.slice (some ⟨k, 0, none⟩) 1 1) 1 (sgCells s) :=
  ⟨rfl, .inr ⟨k, 1, _, rfl, hk, h, Nat.le_refl _, by unfold maxLen; omega, rfl, rfl⟩⟩

def lenV : Value → Nat | .slice _ n _ => n | _ => 0

theorem five_cell (w1 w2 : World) (g : Nat) (hg : g < w1.heap.size) (h : (w1.alloc (.cells #[.int .u8 65, .int .u8 10, .int .u8 0, .int .u8 123, .int .u8 47] 5)).grownBy w2 (some g)) (x : Int) (h0 : 0 ≤ x) (h1 : x < 5) :
    ∃ z : Int, w2.cell? ⟨w1.heap.size, x.toNat, none⟩ = some (.int .u8 z) := by
  have e : ∀ o, w2.cell? ⟨w1.heap.size, o, none⟩ = (#[Value.int .u8 65, .int .u8 10, .int .u8 0, .int .u8 123, .int .u8 47])[o]? := fun o =>
    (grown_cell h (by simp) (by omega)).trans (cell_of_row _ _ _ _ _ _ (heap_alloc_new w1 _))
  rcases (show x = 0 ∨ x = 1 ∨ x = 2 ∨ x = 3 ∨ x = 4 from by omega) with rfl | rfl | rfl | rfl | rfl
  · exact ⟨65, e 0⟩
  · exact ⟨10, e 1⟩
  · exact ⟨0, e 2⟩
  · exact ⟨123, e 3⟩
  · exact ⟨47, e 4⟩
theorem two_cell (w1 w2 : World) (g : Nat) (hg : g < w1.heap.size) (h : (w1.alloc (.cells #[.int .i64 (-1), .int .i64 4] 3)).grownBy w2 (some g)) (x : Int) (h0 : 0 ≤ x) (h1 : x < 2) :
    ∃ z : Int, w2.cell? ⟨w1.heap.size, x.toNat, none⟩ = some (.int .i64 z) := by
  have e : ∀ o, w2.cell? ⟨w1.heap.size, o, none⟩ = (#[Value.int .i64 (-1), .int .i64 4])[o]? := fun o =>
    (grown_cell h (by simp) (by omega)).trans (cell_of_row _ _ _ _ _ _ (heap_alloc_new w1 _))
  rcases (show x = 0 ∨ x = 1 from by omega) with rfl | rfl
  · exact ⟨-1, e 0⟩
  · exact ⟨4, e 1⟩

set_option maxRecDepth 100000 in
set_option maxHeartbeats 4000000 in
theorem l71Bad_any (B g p C : Nat) (a : Option Addr) (n c : Nat) (l : List Sg) (w : World) (h : Rd B w g p) (hp : p ≤ 200000) (ho : Own w C (.slice a n c) l) (hgC : g < C) (hC : C ≤ w.heap.size) (hn : n ≤ 24) :
    Calls Try.prog 61 #[.pointer (some ⟨g, 0, none⟩), .slice a n c] w fun e w' => ∃ (v : Value) (l' : List Sg) (q : Nat), e = .returned v ∧ Own w' C v l' ∧ l'.length ≤ 25 ∧ Rd B w' g q ∧ q ≤ p + 40 ∧ Fr C g w w' := by
  have hlt := h.lt
  obtain ⟨i0, hi, hz0, hz1, hz2⟩ := info_parts Try.info77
  have HR : Hid (Rd B w g p) := h
  have HO : Hid (Own w C (.slice a n c) l) := ho
  have HL : Hid (n = l.length) := ho.len
  clear h ho
  go_enter Try.func61, Try.ntmps61
  go_wp2_with fail
  refine (pick_any B g p 6 _ (HR.out.alloc _) (by omega) (by omega) (by omega)).mono ?_
  rintro e w1 ⟨u, rfl, hu0, hu1, hr1, hg1⟩
  have z1 := hg1.size
  simp only [World.size_alloc] at z1
  have hf1 : Fr w.heap.size g w w1 := ((Fr.refl _ _ w).alloc (Nat.le_refl _) _).grown hg1 (by simp)
  have HE : Hid (w1.heap[w.heap.size]? = some (.cells #[.int .u8 120, .int .i64 0, .int .i64 0] 77 (0, 0))) := (hg1.block w.heap.size (by simp) (by simp; omega)).trans (heap_alloc_new w _)
  have HR1 : Hid (Rd B w1 g (p + 1)) := hr1
  clear hr1
  go_upto_block 0 with fail
  go_cut [1] (fun tv wx => tv = .slice a n c ∧ ∃ (s : Sg) (q : Nat), wx.heap[w.heap.size]? = some (.cells #[.int .u8 s.1, .int .i64 s.2.1, .int .i64 s.2.2] 77 (0, 0)) ∧ Rd B wx g q ∧ q ≤ p + 2 ∧ Fr w.heap.size g w wx ∧ w.heap.size < wx.heap.size)
  case first =>
    by_cases h0u : u = 0
    · subst h0u
      go_wp2_with fail
      refine (pick_any B g (p + 1) 5 _ (HR1.out.alloc _) (by omega) (by omega) (by omega)).mono ?_
      rintro e w2 ⟨y, rfl, hy0, hy1, hr2, hg2⟩
      obtain ⟨z, hz⟩ := five_cell w1 w2 g (by omega) hg2 y hy0 hy1
      have z2 := hg2.size
      simp only [World.size_alloc] at z2
      have e2 : w2.heap[w.heap.size]? = some (.cells #[.int .u8 120, .int .i64 0, .int .i64 0] 77 (0, 0)) := (hg2.block w.heap.size (by simp; omega) (by simp; omega)).trans ((Below.heap_alloc w1 _ w.heap.size (by omega)).trans HE.out)
      have HE2 : Hid (w2.heap[w.heap.size]? = some (.cells #[.int .u8 120, .int .i64 0, .int .i64 0] 77 (0, 0))) := e2
      obtain ⟨o0, d0⟩ : ∃ v, w2.cell? ⟨w.heap.size, 0, none⟩ = some v := ⟨_, cell_of_row w2 _ 0 _ _ _ e2⟩
      have f0 : w2.frozen? ⟨w.heap.size, 0, none⟩ = false := frozen_of_row w2 _ 0 _ _ e2
      clear e2
      have HR2 : Hid (Rd B w2 g (p + 2)) := hr2
      clear hr2
      go_wp2_with fail
      go_meet
      exact ⟨rfl, (z, 0, 0), p + 2, (heap_setCell_same w2 _ 0 _ _ _ HE2.out), HR2.out.setCell (by simp; omega) _, by omega, ((hf1.alloc (by omega) _).grown hg2 (by simp; omega)).setCell (by simp) _, by simp [World.setCell]; omega⟩
    · have g0 : (u == 0) = false := by simp; omega
      by_cases h1u : u = 1
      · subst h1u
        go_wp2_with fail
        refine (pick_any B g (p + 1) 2 _ (HR1.out.alloc _) (by omega) (by omega) (by omega)).mono ?_
        rintro e w2 ⟨y, rfl, hy0, hy1, hr2, hg2⟩
        obtain ⟨z, hz⟩ := two_cell w1 w2 g (by omega) hg2 y hy0 hy1
        have z2 := hg2.size
        simp only [World.size_alloc] at z2
        have e2 : w2.heap[w.heap.size]? = some (.cells #[.int .u8 120, .int .i64 0, .int .i64 0] 77 (0, 0)) := (hg2.block w.heap.size (by simp; omega) (by simp; omega)).trans ((Below.heap_alloc w1 _ w.heap.size (by omega)).trans HE.out)
        have HE2 : Hid (w2.heap[w.heap.size]? = some (.cells #[.int .u8 120, .int .i64 0, .int .i64 0] 77 (0, 0))) := e2
        obtain ⟨o0, d0⟩ : ∃ v, w2.cell? ⟨w.heap.size, 1, none⟩ = some v := ⟨_, cell_of_row w2 _ 1 _ _ _ e2⟩
        have f0 : w2.frozen? ⟨w.heap.size, 1, none⟩ = false := frozen_of_row w2 _ 1 _ _ e2
        clear e2
        have HR2 : Hid (Rd B w2 g (p + 2)) := hr2
        clear hr2
        go_wp2_with fail
        go_meet
        exact ⟨rfl, (120, z, 0), p + 2, (heap_setCell_same w2 _ 1 _ _ _ HE2.out), HR2.out.setCell (by simp; omega) _, by omega, ((hf1.alloc (by omega) _).grown hg2 (by simp; omega)).setCell (by simp) _, by simp [World.setCell]; omega⟩
      · have g1 : (u == 1) = false := by simp; omega
        by_cases h2u : u = 2
        · subst h2u
          go_wp2_with fail
          refine (pick_any B g (p + 1) 2 _ (HR1.out.alloc _) (by omega) (by omega) (by omega)).mono ?_
          rintro e w2 ⟨y, rfl, hy0, hy1, hr2, hg2⟩
          obtain ⟨z, hz⟩ := two_cell w1 w2 g (by omega) hg2 y hy0 hy1
          have z2 := hg2.size
          simp only [World.size_alloc] at z2
          have e2 : w2.heap[w.heap.size]? = some (.cells #[.int .u8 120, .int .i64 0, .int .i64 0] 77 (0, 0)) := (hg2.block w.heap.size (by simp; omega) (by simp; omega)).trans ((Below.heap_alloc w1 _ w.heap.size (by omega)).trans HE.out)
          have HE2 : Hid (w2.heap[w.heap.size]? = some (.cells #[.int .u8 120, .int .i64 0, .int .i64 0] 77 (0, 0))) := e2
          obtain ⟨o0, d0⟩ : ∃ v, w2.cell? ⟨w.heap.size, 2, none⟩ = some v := ⟨_, cell_of_row w2 _ 2 _ _ _ e2⟩
          have f0 : w2.frozen? ⟨w.heap.size, 2, none⟩ = false := frozen_of_row w2 _ 2 _ _ e2
          clear e2
          have HR2 : Hid (Rd B w2 g (p + 2)) := hr2
          clear hr2
          go_wp2_with fail
          go_meet
          exact ⟨rfl, (120, 0, z), p + 2, (heap_setCell_same w2 _ 2 _ _ _ HE2.out), HR2.out.setCell (by simp; omega) _, by omega, ((hf1.alloc (by omega) _).grown hg2 (by simp; omega)).setCell (by simp) _, by simp [World.setCell]; omega⟩
        · have g2 : (u == 2) = false := by simp; omega
          by_cases h3u : u = 3
          · subst h3u
            obtain ⟨o1, d1⟩ : ∃ v, w1.cell? ⟨w.heap.size, 1, none⟩ = some v := ⟨_, cell_of_row w1 _ 1 _ _ _ HE.out⟩
            obtain ⟨o2, d2⟩ : ∃ v, w1.cell? ⟨w.heap.size, 2, none⟩ = some v := ⟨_, cell_of_row w1 _ 2 _ _ _ HE.out⟩
            have f1 : w1.frozen? ⟨w.heap.size, 1, none⟩ = false := frozen_of_row w1 _ 1 _ _ HE.out
            have f2 : w1.frozen? ⟨w.heap.size, 2, none⟩ = false := frozen_of_row w1 _ 2 _ _ HE.out
            go_wp2_with fail
            go_meet
            exact ⟨rfl, (120, 2, 2), p + 1, heap_setCell_same _ _ 2 _ _ _ (heap_setCell_same w1 _ 1 _ _ _ HE.out), (HR1.out.setCell (by simp; omega) _).setCell (by simp; omega) _, by omega, (hf1.setCell (by simp) _).setCell (by simp) _, by simp [World.setCell]; omega⟩
          · have g3 : (u == 3) = false := by simp; omega
            by_cases h4u : u = 4
            · subst h4u
              go_wp2_with fail
              go_loopw [1] (fun v wr => ∃ (a : Option Addr) (m c : Nat) (l : List Sg) (q : Nat), v = .slice a m c ∧ m ≤ 25 ∧ Own wr C (.slice a m c) l ∧ (Value.slice a m c).ownBlock ≠ some w.heap.size ∧ wr.heap[w.heap.size]? = some (.cells #[.int .u8 120, .int .i64 0, .int .i64 0] 77 (0, 0)) ∧ Rd B wr g q ∧ q ≤ p + 1 + m ∧ Fr C g w wr ∧ w.heap.size < wr.heap.size) (fun v _ => 26 - lenV v)
              case atStart =>
                exact ⟨a, n, c, l, p + 1, rfl, by omega, HO.out.fr hf1 hgC, fun e => by have := (HO.out.row.lt _ e).2; omega, HE.out, HR1.out, by omega, hf1.mono hC, by omega⟩
              case round =>
                obtain ⟨a, m, c, l, q, rfl, hm, ho, hob, hbx, hr, hq, hf, hz⟩ := hrel
                have HOr : Hid (Own wr C (.slice a m c) l) := ho
                have HLr : Hid (m = l.length) := ho.len
                have HX : Hid (wr.heap[w.heap.size]? = some (.cells #[.int .u8 120, .int .i64 0, .int .i64 0] 77 (0, 0))) := hbx
                have HB : Hid ((Value.slice a m c).ownBlock ≠ some w.heap.size) := hob
                have HRr : Hid (Rd B wr g q) := hr
                have hcap := ho.txt.2.1
                have hcm := ho.txt.2.2.1
                unfold maxLen at hcm
                clear ho hob hbx hr
                go_wp2_with fail
                refine (pick_any B g q 2 _ HRr.out (by omega) (by omega) (by omega)).mono ?_
                rintro e w2 ⟨x, rfl, hx0, hx1, hr2, hg2⟩
                have z2 := hg2.size
                have hfr2 : Fr wr.heap.size g wr w2 := (Fr.refl _ _ wr).grown hg2 (Nat.le_refl _)
                have e2 : w2.heap[w.heap.size]? = some (.cells #[.int .u8 120, .int .i64 0, .int .i64 0] 77 (0, 0)) := (hg2.block w.heap.size hz (by simp; omega)).trans HX.out
                have HX2 : Hid (w2.heap[w.heap.size]? = some (.cells #[.int .u8 120, .int .i64 0, .int .i64 0] 77 (0, 0))) := e2
                have d0 : w2.cell? ⟨w.heap.size, 0, none⟩ = some (.int .u8 120) := by rw [cell_of_row w2 _ 0 _ _ _ e2]; rfl
                have d1 : w2.cell? ⟨w.heap.size, 1, none⟩ = some (.int .i64 0) := by rw [cell_of_row w2 _ 1 _ _ _ e2]; rfl
                have d2 : w2.cell? ⟨w.heap.size, 2, none⟩ = some (.int .i64 0) := by rw [cell_of_row w2 _ 2 _ _ _ e2]; rfl
                clear e2
                have HO2 : Hid (Own w2 C (.slice a m c) l) := HOr.out.fr hfr2 hgC
                have HR2 : Hid (Rd B w2 g (q + 1)) := hr2
                clear hr2
                by_cases hlt2 : (m : Int) < 24 + x
                · go_wp2_with (at_builtin; refine wpList_append_lies _ rfl (.tmp 45) (.tmp 47) 40 rfl C 77 i0 (.agg #[.int .u8 0, .int .i64 0, .int .i64 0]) 3 24 Try.underlying40 hi hz0 hz1 hz2 rfl (by omega) (.slice a m c) m (flat l) rfl (HO2.out.row.alloc _) ⟨w2.heap.size, 0, none⟩ 1 1 [.int .u8 120, .int .i64 0, .int .i64 0] rfl rfl (cell_three_new w2 _ _ _ _) (three_oneCell _ _ _) (by omega) (by unfold maxLen; omega) (by omega) (by simp; omega) (w2.heap.size + 1) (by simp) ?_; intro gg cc w3 hown3 hgrow hat hltg)
                  have hr3 : Rd B w3 g (q + 1) := (HR2.out.alloc _).grownAt hgrow (fun k hk => by have := (HO2.out.row.lt k hk).1; omega)
                  have hf3 : Fr C g w w3 := ((hf.trans (hfr2.mono (by omega))).alloc (by omega) _).grownAt hgrow (by simp; omega) (fun k hk => (HO2.out.row.lt k hk).1)
                  have ho3 : Own w3 C (.slice (some ⟨gg, 0, none⟩) (m + 1) cc) (l ++ [(120, 0, 0)]) := Own.snoc hown3 (by rw [HLr.out]) rfl
                  have hx3 : w3.heap[w.heap.size]? = some (.cells #[.int .u8 120, .int .i64 0, .int .i64 0] 77 (0, 0)) :=
                    (hgrow.block w.heap.size (by simp; omega) (fun e => HB.out e.symm)).trans ((Below.heap_alloc w2 _ w.heap.size (by omega)).trans HX2.out)
                  have hb3 : (Value.slice (some ⟨gg, 0, none⟩) (m + 1) cc).ownBlock ≠ some w.heap.size := by
                    intro e
                    simp only [Value.ownBlock, Option.some.injEq] at e
                    rcases hat with h | h
                    · exact HB.out (by rw [h, e])
                    · omega
                  have HH : Hid (Own w3 C (.slice (some ⟨gg, 0, none⟩) (m + 1) cc) (l ++ [(120, 0, 0)])) := ho3
                  have HB3 : Hid ((Value.slice (some ⟨gg, 0, none⟩) (m + 1) cc).ownBlock ≠ some w.heap.size) := hb3
                  have HX3 : Hid (w3.heap[w.heap.size]? = some (.cells #[.int .u8 120, .int .i64 0, .int .i64 0] 77 (0, 0))) := hx3
                  have hz3 : w.heap.size < w3.heap.size := by have := hgrow.size; simp only [World.size_alloc] at this; omega
                  clear hown3 hgrow hat ho3 hb3 hx3
                  go_wp2_with fail
                  go_roundw
                  case rel => exact ⟨some ⟨gg, 0, none⟩, m + 1, cc, l ++ [(120, 0, 0)], q + 1, rfl, by omega, HH.out, HB3.out, HX3.out, hr3, by omega, hf3, hz3⟩
                  case measure => simp [lenV]; omega
                · go_wp2_with fail
                  go_ret
                  exact ⟨_, l, q + 1, rfl, HO2.out, by rw [← HLr.out]; omega, HR2.out, by omega, hf.trans (hfr2.mono (by omega))⟩
            · have g4 : (u == 4) = false := by simp; omega
              go_wp2_with fail
              go_meet
              exact ⟨rfl, (120, 0, 0), p + 1, HE.out, HR1.out, by omega, hf1, by omega⟩
  case rest =>
    obtain ⟨rfl, s, q, hbx, hrx, hq, hfx, hzx⟩ := hcut
    have HOx : Hid (Own wc C (.slice a n c) l) := HO.out.fr hfx hgC
    have HRx : Hid (Rd B wc g q) := hrx
    have d0 : wc.cell? ⟨w.heap.size, 0, none⟩ = some (.int .u8 s.1) := by rw [cell_of_row wc _ 0 _ _ _ hbx]; rfl
    have d1 : wc.cell? ⟨w.heap.size, 1, none⟩ = some (.int .i64 s.2.1) := by rw [cell_of_row wc _ 1 _ _ _ hbx]; rfl
    have d2 : wc.cell? ⟨w.heap.size, 2, none⟩ = some (.int .i64 s.2.2) := by rw [cell_of_row wc _ 2 _ _ _ hbx]; rfl
    have hcap := HO.out.txt.2.1
    have hcm := HO.out.txt.2.2.1
    unfold maxLen at hcm
    clear hbx hrx hg1
    have tok : True := trivial
    go_wp2_with fail
    go_region_held3 (fun w' => w'.cell? ⟨w.heap.size, 0, none⟩ = some (.int .u8 s.1) ∧ w'.cell? ⟨w.heap.size, 1, none⟩ = some (.int .i64 s.2.1) ∧ w'.cell? ⟨w.heap.size, 2, none⟩ = some (.int .i64 s.2.2))
      (first
        | go_keep
        | (go_split_ands
           refine ⟨?_, ?_, ?_⟩
           · (rw [hgrow6.cell_far _ (by simp; omega) (by simp; omega)]; assumption)
           · (rw [hgrow6.cell_far _ (by simp; omega) (by simp; omega)]; assumption)
           · (rw [hgrow6.cell_far _ (by simp; omega) (by simp; omega)]; assumption))
        | (go_split_ands
           refine ⟨?_, ?_, ?_⟩
           · (rw [hgrow7.cell_far _ (by first | omega | (simp; omega)) (by simp; omega)]; assumption)
           · (rw [hgrow7.cell_far _ (by first | omega | (simp; omega)) (by simp; omega)]; assumption)
           · (rw [hgrow7.cell_far _ (by first | omega | (simp; omega)) (by simp; omega)]; assumption)))
      ((first
        | (have _t := tok; refine step_append_two _ (by rfl) (.tmp 50) (.tmp 51) _ (by rfl) wc.heap.size C 77 i0 _ 3 24 Try.underlying40 hi hz0 hz1 hz2 rfl (by omega) _ 0 0 [] (by rfl) (own_empty_at (by first | omega | (simp; done) | (simp; omega)) (by first | exact heap_alloc_new wc _ | exact heap_two_first wc _ _ | exact heap_two_second wc _ _)) a n c (flat l) (by rfl) (by first | exact (HOx.out.below ((Below.refl _ _).alloc (Nat.le_refl _) _)).row | exact (HOx.out.below (((Below.refl _ _).alloc (Nat.le_refl _) _).alloc (by simp) _)).row) (flat_oneCell l) (by unfold maxLen; omega) (by omega) (by first | (simp; done) | (simp; omega) | omega) n (Nat.zero_add n) ?_; intro g6 c6 w6 hown6 hgrow6; simp only [List.nil_append] at hown6; have hg6 := (hown6.lt g6 rfl).1; have hs6 := hgrow6.size; simp only [World.size_alloc, World.size_drew] at hs6; clear tok)
        | (have _t := hgrow6; refine step_append_two _ (by rfl) (.tmp 52) (.tmp 54) _ (by rfl) wc.heap.size C 77 i0 _ 3 24 Try.underlying40 hi hz0 hz1 hz2 rfl (by omega) g6 n c6 (flat l) (by rfl) (by first | exact hown6 | exact hown6.alloc _) _ 1 1 (sgCells s) (by rfl) (own_one_at (by first | omega | (simp; done) | (simp; omega)) (by first | exact heap_alloc_new w6 _ | exact (hgrow6.block (wc.heap.size + 1) (by first | (simp; done) | (simp; omega)) (by first | (simp; done) | (simp; omega))).trans (heap_two_second wc _ _) | exact (hgrow6.block wc.heap.size (by first | (simp; done) | (simp; omega)) (by first | (simp; done) | (simp; omega))).trans (heap_two_first wc _ _))) (three_oneCell _ _ _) (by unfold maxLen; omega) (by omega) (by first | omega | (simp; omega)) (n + 1) rfl ?_; intro g7 c7 w7 hown7 hgrow7)))
    all_goals
      have hb6 : Below wc.heap.size wc w6 := by
        first
          | exact ((Below.refl _ _).alloc (Nat.le_refl _) _).grown (grown_of_drew hgrow6) (by simp) (fun k hk => by simp at hk; omega)
          | exact (((Below.refl _ _).alloc (Nat.le_refl _) _).alloc (by simp) _).grown (grown_of_drew hgrow6) (by simp; omega) (fun k hk => by simp at hk; omega)
      have hb7 : Below wc.heap.size wc w7 := by
        first
          | exact hb6.grown hgrow7 hb6.size (fun k hk => by simp at hk; omega)
          | exact (hb6.alloc hb6.size _).grown hgrow7 (by have := hb6.size; simp; omega) (fun k hk => by simp at hk; omega)
      have ho7 : Own w7 C (.slice (some ⟨g7, 0, none⟩) (n + 1) c7) (l ++ [s]) :=
        Own.base (Own.snoc hown7 (by rw [← HL.out]) rfl) (by omega)
      have HO7 : Hid (Own w7 C (.slice (some ⟨g7, 0, none⟩) (n + 1) c7) (l ++ [s])) := ho7
      have hr7 : Rd B w7 g q := HRx.out.below hb7 HRx.out.lt
      have hf7 : Fr C g w w7 := (hfx.mono hC).below (hb7.mono (by omega))
      clear hown7 hgrow7 hown6 hgrow6 ho7
      go_wp2_with fail
      go_ret
      exact ⟨_, l ++ [s], q, rfl, HO7.out, by simp; rw [← HL.out]; omega, hr7, by omega, hf7⟩
end Go.Proofs.Ytpgldodnnlcceaa
namespace Go.Proofs.Ytpgldodnnlcceaa
open Go.RowKit

/-- What was there has not turned, but for g and for o. -/
structure Fo (g : Nat) (o : Option Nat) (w w' : World) : Prop where
  os : w'.os = w.os
  tape : w'.tape = w.tape
  output : w'.output = w.output
  size : w.heap.size ≤ w'.heap.size
  block : ∀ k, k < w.heap.size → k ≠ g → some k ≠ o → w'.heap[k]? = w.heap[k]?
theorem Fr.fo {g : Nat} {o : Option Nat} {w w' : World} (h : Fr w.heap.size g w w') : Fo g o w w' := ⟨h.os, h.tape, h.output, h.size, fun k hk hn _ => h.block k hk hn⟩
theorem Fo.trans {g : Nat} {o : Option Nat} {a b c : World} (h : Fo g o a b) (k : Fo g o b c) : Fo g o a c :=
  ⟨k.os.trans h.os, k.tape.trans h.tape, k.output.trans h.output, Nat.le_trans h.size k.size, fun i hi hn hm => (k.block i (Nat.lt_of_lt_of_le hi h.size) hn hm).trans (h.block i hi hn hm)⟩
theorem Fo.below {g : Nat} {o : Option Nat} {a b c : World} (h : Fo g o a b) (hb : Below b.heap.size b c) : Fo g o a c :=
  h.trans ((Fr.refl _ _ _).below hb).fo
theorem Fo.alloc {g : Nat} {o : Option Nat} {a b : World} (h : Fo g o a b) (x : Obj) : Fo g o a (b.alloc x) := h.below ((Below.refl _ _).alloc (Nat.le_refl _) x)
theorem Fo.grown {g : Nat} {o r : Option Nat} {a b c : World} (h : Fo g o a b) (hg : b.grownBy c r) (hr : ∀ k, k < b.heap.size → r = some k → a.heap.size ≤ k ∨ o = some k) : Fo g o a c :=
  ⟨hg.os.trans h.os, hg.tape.trans h.tape, hg.output.trans h.output, Nat.le_trans h.size hg.size, fun i hi hn hm => by
    have hib : i < b.heap.size := Nat.lt_of_lt_of_le hi h.size
    refine (hg.block i hib (fun e => ?_)).trans (h.block i hi hn hm)
    rcases hr i hib e.symm with q | q
    · omega
    · exact hm q.symm⟩
set_option maxRecDepth 100000 in
set_option maxHeartbeats 4000000 in
theorem l71Bad_fo (B g p C : Nat) (a : Option Addr) (n c : Nat) (l : List Sg) (w : World) (h : Rd B w g p) (hp : p ≤ 200000) (ho : Own w C (.slice a n c) l) (hgC : g < C) (hC : C ≤ w.heap.size) (hn : n ≤ 24) :
    Calls Try.prog 61 #[.pointer (some ⟨g, 0, none⟩), .slice a n c] w fun e w' => ∃ (v : Value) (l' : List Sg) (q : Nat), e = .returned v ∧ Own w' C v l' ∧ l'.length ≤ 25 ∧ Rd B w' g q ∧ q ≤ p + 40 ∧ Fo g (Value.slice a n c).ownBlock w w' ∧ (v.ownBlock = (Value.slice a n c).ownBlock ∨ ∀ b, v.ownBlock = some b → w.heap.size ≤ b) := by
  obtain ⟨o, HOo⟩ : ∃ o, Hid ((Value.slice a n c).ownBlock = o) := ⟨_, rfl⟩
  rw [HOo.out]
  have hlt := h.lt
  obtain ⟨i0, hi, hz0, hz1, hz2⟩ := info_parts Try.info77
  have HR : Hid (Rd B w g p) := h
  have HO : Hid (Own w C (.slice a n c) l) := ho
  have HL : Hid (n = l.length) := ho.len
  clear h ho
  go_enter Try.func61, Try.ntmps61
  go_wp2_with fail
  refine (pick_any B g p 6 _ (HR.out.alloc _) (by omega) (by omega) (by omega)).mono ?_
  rintro e w1 ⟨u, rfl, hu0, hu1, hr1, hg1⟩
  have z1 := hg1.size
  simp only [World.size_alloc] at z1
  have hf1 : Fr w.heap.size g w w1 := ((Fr.refl _ _ w).alloc (Nat.le_refl _) _).grown hg1 (by simp)
  have HE : Hid (w1.heap[w.heap.size]? = some (.cells #[.int .u8 120, .int .i64 0, .int .i64 0] 77 (0, 0))) := (hg1.block w.heap.size (by simp) (by simp; omega)).trans (heap_alloc_new w _)
  have HR1 : Hid (Rd B w1 g (p + 1)) := hr1
  clear hr1
  go_upto_block 0 with fail
  go_cut [1] (fun tv wx => tv = .slice a n c ∧ ∃ (s : Sg) (q : Nat), wx.heap[w.heap.size]? = some (.cells #[.int .u8 s.1, .int .i64 s.2.1, .int .i64 s.2.2] 77 (0, 0)) ∧ Rd B wx g q ∧ q ≤ p + 2 ∧ Fr w.heap.size g w wx ∧ w.heap.size < wx.heap.size)
  case first =>
    by_cases h0u : u = 0
    · subst h0u
      go_wp2_with fail
      refine (pick_any B g (p + 1) 5 _ (HR1.out.alloc _) (by omega) (by omega) (by omega)).mono ?_
      rintro e w2 ⟨y, rfl, hy0, hy1, hr2, hg2⟩
      obtain ⟨z, hz⟩ := five_cell w1 w2 g (by omega) hg2 y hy0 hy1
      have z2 := hg2.size
      simp only [World.size_alloc] at z2
      have e2 : w2.heap[w.heap.size]? = some (.cells #[.int .u8 120, .int .i64 0, .int .i64 0] 77 (0, 0)) := (hg2.block w.heap.size (by simp; omega) (by simp; omega)).trans ((Below.heap_alloc w1 _ w.heap.size (by omega)).trans HE.out)
      have HE2 : Hid (w2.heap[w.heap.size]? = some (.cells #[.int .u8 120, .int .i64 0, .int .i64 0] 77 (0, 0))) := e2
      obtain ⟨o0, d0⟩ : ∃ v, w2.cell? ⟨w.heap.size, 0, none⟩ = some v := ⟨_, cell_of_row w2 _ 0 _ _ _ e2⟩
      have f0 : w2.frozen? ⟨w.heap.size, 0, none⟩ = false := frozen_of_row w2 _ 0 _ _ e2
      clear e2
      have HR2 : Hid (Rd B w2 g (p + 2)) := hr2
      clear hr2
      go_wp2_with fail
      go_meet
      exact ⟨rfl, (z, 0, 0), p + 2, (heap_setCell_same w2 _ 0 _ _ _ HE2.out), HR2.out.setCell (by simp; omega) _, by omega, ((hf1.alloc (by omega) _).grown hg2 (by simp; omega)).setCell (by simp) _, by simp [World.setCell]; omega⟩
    · have g0 : (u == 0) = false := by simp; omega
      by_cases h1u : u = 1
      · subst h1u
        go_wp2_with fail
        refine (pick_any B g (p + 1) 2 _ (HR1.out.alloc _) (by omega) (by omega) (by omega)).mono ?_
        rintro e w2 ⟨y, rfl, hy0, hy1, hr2, hg2⟩
        obtain ⟨z, hz⟩ := two_cell w1 w2 g (by omega) hg2 y hy0 hy1
        have z2 := hg2.size
        simp only [World.size_alloc] at z2
        have e2 : w2.heap[w.heap.size]? = some (.cells #[.int .u8 120, .int .i64 0, .int .i64 0] 77 (0, 0)) := (hg2.block w.heap.size (by simp; omega) (by simp; omega)).trans ((Below.heap_alloc w1 _ w.heap.size (by omega)).trans HE.out)
        have HE2 : Hid (w2.heap[w.heap.size]? = some (.cells #[.int .u8 120, .int .i64 0, .int .i64 0] 77 (0, 0))) := e2
        obtain ⟨o0, d0⟩ : ∃ v, w2.cell? ⟨w.heap.size, 1, none⟩ = some v := ⟨_, cell_of_row w2 _ 1 _ _ _ e2⟩
        have f0 : w2.frozen? ⟨w.heap.size, 1, none⟩ = false := frozen_of_row w2 _ 1 _ _ e2
        clear e2
        have HR2 : Hid (Rd B w2 g (p + 2)) := hr2
        clear hr2
        go_wp2_with fail
        go_meet
        exact ⟨rfl, (120, z, 0), p + 2, (heap_setCell_same w2 _ 1 _ _ _ HE2.out), HR2.out.setCell (by simp; omega) _, by omega, ((hf1.alloc (by omega) _).grown hg2 (by simp; omega)).setCell (by simp) _, by simp [World.setCell]; omega⟩
      · have g1 : (u == 1) = false := by simp; omega
        by_cases h2u : u = 2
        · subst h2u
          go_wp2_with fail
          refine (pick_any B g (p + 1) 2 _ (HR1.out.alloc _) (by omega) (by omega) (by omega)).mono ?_
          rintro e w2 ⟨y, rfl, hy0, hy1, hr2, hg2⟩
          obtain ⟨z, hz⟩ := two_cell w1 w2 g (by omega) hg2 y hy0 hy1
          have z2 := hg2.size
          simp only [World.size_alloc] at z2
          have e2 : w2.heap[w.heap.size]? = some (.cells #[.int .u8 120, .int .i64 0, .int .i64 0] 77 (0, 0)) := (hg2.block w.heap.size (by simp; omega) (by simp; omega)).trans ((Below.heap_alloc w1 _ w.heap.size (by omega)).trans HE.out)
          have HE2 : Hid (w2.heap[w.heap.size]? = some (.cells #[.int .u8 120, .int .i64 0, .int .i64 0] 77 (0, 0))) := e2
          obtain ⟨o0, d0⟩ : ∃ v, w2.cell? ⟨w.heap.size, 2, none⟩ = some v := ⟨_, cell_of_row w2 _ 2 _ _ _ e2⟩
          have f0 : w2.frozen? ⟨w.heap.size, 2, none⟩ = false := frozen_of_row w2 _ 2 _ _ e2
          clear e2
          have HR2 : Hid (Rd B w2 g (p + 2)) := hr2
          clear hr2
          go_wp2_with fail
          go_meet
          exact ⟨rfl, (120, 0, z), p + 2, (heap_setCell_same w2 _ 2 _ _ _ HE2.out), HR2.out.setCell (by simp; omega) _, by omega, ((hf1.alloc (by omega) _).grown hg2 (by simp; omega)).setCell (by simp) _, by simp [World.setCell]; omega⟩
        · have g2 : (u == 2) = false := by simp; omega
          by_cases h3u : u = 3
          · subst h3u
            obtain ⟨o1, d1⟩ : ∃ v, w1.cell? ⟨w.heap.size, 1, none⟩ = some v := ⟨_, cell_of_row w1 _ 1 _ _ _ HE.out⟩
            obtain ⟨o2, d2⟩ : ∃ v, w1.cell? ⟨w.heap.size, 2, none⟩ = some v := ⟨_, cell_of_row w1 _ 2 _ _ _ HE.out⟩
            have f1 : w1.frozen? ⟨w.heap.size, 1, none⟩ = false := frozen_of_row w1 _ 1 _ _ HE.out
            have f2 : w1.frozen? ⟨w.heap.size, 2, none⟩ = false := frozen_of_row w1 _ 2 _ _ HE.out
            go_wp2_with fail
            go_meet
            exact ⟨rfl, (120, 2, 2), p + 1, heap_setCell_same _ _ 2 _ _ _ (heap_setCell_same w1 _ 1 _ _ _ HE.out), (HR1.out.setCell (by simp; omega) _).setCell (by simp; omega) _, by omega, (hf1.setCell (by simp) _).setCell (by simp) _, by simp [World.setCell]; omega⟩
          · have g3 : (u == 3) = false := by simp; omega
            by_cases h4u : u = 4
            · subst h4u
              go_wp2_with fail
              go_loopw [1] (fun v wr => ∃ (a : Option Addr) (m c : Nat) (l : List Sg) (q : Nat), v = .slice a m c ∧ m ≤ 25 ∧ Own wr C (.slice a m c) l ∧ (Value.slice a m c).ownBlock ≠ some w.heap.size ∧ wr.heap[w.heap.size]? = some (.cells #[.int .u8 120, .int .i64 0, .int .i64 0] 77 (0, 0)) ∧ Rd B wr g q ∧ q ≤ p + 1 + m ∧ Fo g o w wr ∧ ((Value.slice a m c).ownBlock = o ∨ ∀ b, (Value.slice a m c).ownBlock = some b → w.heap.size ≤ b) ∧ w.heap.size < wr.heap.size) (fun v _ => 26 - lenV v)
              case atStart =>
                exact ⟨a, n, c, l, p + 1, rfl, by omega, HO.out.fr hf1 hgC, fun e => by have := (HO.out.row.lt _ e).2; omega, HE.out, HR1.out, by omega, hf1.fo, .inl HOo.out, by omega⟩
              case round =>
                obtain ⟨a, m, c, l, q, rfl, hm, ho, hob, hbx, hr, hq, hf, hoo, hz⟩ := hrel
                have HOO : Hid ((Value.slice a m c).ownBlock = o ∨ ∀ b, (Value.slice a m c).ownBlock = some b → w.heap.size ≤ b) := hoo
                clear hoo
                have HOr : Hid (Own wr C (.slice a m c) l) := ho
                have HLr : Hid (m = l.length) := ho.len
                have HX : Hid (wr.heap[w.heap.size]? = some (.cells #[.int .u8 120, .int .i64 0, .int .i64 0] 77 (0, 0))) := hbx
                have HB : Hid ((Value.slice a m c).ownBlock ≠ some w.heap.size) := hob
                have HRr : Hid (Rd B wr g q) := hr
                have hcap := ho.txt.2.1
                have hcm := ho.txt.2.2.1
                unfold maxLen at hcm
                clear ho hob hbx hr
                go_wp2_with fail
                refine (pick_any B g q 2 _ HRr.out (by omega) (by omega) (by omega)).mono ?_
                rintro e w2 ⟨x, rfl, hx0, hx1, hr2, hg2⟩
                have z2 := hg2.size
                have hfr2 : Fr wr.heap.size g wr w2 := (Fr.refl _ _ wr).grown hg2 (Nat.le_refl _)
                have e2 : w2.heap[w.heap.size]? = some (.cells #[.int .u8 120, .int .i64 0, .int .i64 0] 77 (0, 0)) := (hg2.block w.heap.size hz (by simp; omega)).trans HX.out
                have HX2 : Hid (w2.heap[w.heap.size]? = some (.cells #[.int .u8 120, .int .i64 0, .int .i64 0] 77 (0, 0))) := e2
                have d0 : w2.cell? ⟨w.heap.size, 0, none⟩ = some (.int .u8 120) := by rw [cell_of_row w2 _ 0 _ _ _ e2]; rfl
                have d1 : w2.cell? ⟨w.heap.size, 1, none⟩ = some (.int .i64 0) := by rw [cell_of_row w2 _ 1 _ _ _ e2]; rfl
                have d2 : w2.cell? ⟨w.heap.size, 2, none⟩ = some (.int .i64 0) := by rw [cell_of_row w2 _ 2 _ _ _ e2]; rfl
                clear e2
                have HO2 : Hid (Own w2 C (.slice a m c) l) := HOr.out.fr hfr2 hgC
                have HR2 : Hid (Rd B w2 g (q + 1)) := hr2
                clear hr2
                by_cases hlt2 : (m : Int) < 24 + x
                · go_wp2_with (at_builtin; refine wpList_append_lies _ rfl (.tmp 45) (.tmp 47) 40 rfl C 77 i0 (.agg #[.int .u8 0, .int .i64 0, .int .i64 0]) 3 24 Try.underlying40 hi hz0 hz1 hz2 rfl (by omega) (.slice a m c) m (flat l) rfl (HO2.out.row.alloc _) ⟨w2.heap.size, 0, none⟩ 1 1 [.int .u8 120, .int .i64 0, .int .i64 0] rfl rfl (cell_three_new w2 _ _ _ _) (three_oneCell _ _ _) (by omega) (by unfold maxLen; omega) (by omega) (by simp; omega) (w2.heap.size + 1) (by simp) ?_; intro gg cc w3 hown3 hgrow hat hltg)
                  have hr3 : Rd B w3 g (q + 1) := (HR2.out.alloc _).grownAt hgrow (fun k hk => by have := (HO2.out.row.lt k hk).1; omega)
                  have hf3 : Fo g o w w3 := ((hf.trans hfr2.fo).alloc _).grown hgrow (fun k hk e => by
                    rcases HOO.out with h | h
                    · exact .inr (by rw [← h, e])
                    · exact .inl (h k e))
                  have hoo3 : (Value.slice (some ⟨gg, 0, none⟩) (m + 1) cc).ownBlock = o ∨ ∀ b, (Value.slice (some ⟨gg, 0, none⟩) (m + 1) cc).ownBlock = some b → w.heap.size ≤ b := by
                    rcases hat with h | h
                    · rcases HOO.out with h' | h'
                      · exact .inl (by rw [← h', h]; rfl)
                      · refine .inr fun b hb => ?_
                        simp only [Value.ownBlock, Option.some.injEq] at hb
                        exact h' b (by rw [h, hb])
                    · refine .inr fun b hb => ?_
                      simp only [Value.ownBlock, Option.some.injEq] at hb
                      omega
                  have HOO3 := (show Hid _ from hoo3)
                  clear hoo3
                  have ho3 : Own w3 C (.slice (some ⟨gg, 0, none⟩) (m + 1) cc) (l ++ [(120, 0, 0)]) := Own.snoc hown3 (by rw [HLr.out]) rfl
                  have hx3 : w3.heap[w.heap.size]? = some (.cells #[.int .u8 120, .int .i64 0, .int .i64 0] 77 (0, 0)) :=
                    (hgrow.block w.heap.size (by simp; omega) (fun e => HB.out e.symm)).trans ((Below.heap_alloc w2 _ w.heap.size (by omega)).trans HX2.out)
                  have hb3 : (Value.slice (some ⟨gg, 0, none⟩) (m + 1) cc).ownBlock ≠ some w.heap.size := by
                    intro e
                    simp only [Value.ownBlock, Option.some.injEq] at e
                    rcases hat with h | h
                    · exact HB.out (by rw [h, e])
                    · omega
                  have HH : Hid (Own w3 C (.slice (some ⟨gg, 0, none⟩) (m + 1) cc) (l ++ [(120, 0, 0)])) := ho3
                  have HB3 : Hid ((Value.slice (some ⟨gg, 0, none⟩) (m + 1) cc).ownBlock ≠ some w.heap.size) := hb3
                  have HX3 : Hid (w3.heap[w.heap.size]? = some (.cells #[.int .u8 120, .int .i64 0, .int .i64 0] 77 (0, 0))) := hx3
                  have hz3 : w.heap.size < w3.heap.size := by have := hgrow.size; simp only [World.size_alloc] at this; omega
                  clear hown3 hgrow hat ho3 hb3 hx3
                  go_wp2_with fail
                  go_roundw
                  case rel => exact ⟨some ⟨gg, 0, none⟩, m + 1, cc, l ++ [(120, 0, 0)], q + 1, rfl, by omega, HH.out, HB3.out, HX3.out, hr3, by omega, hf3, HOO3.out, hz3⟩
                  case measure => simp [lenV]; omega
                · go_wp2_with fail
                  go_ret
                  exact ⟨_, l, q + 1, rfl, HO2.out, by rw [← HLr.out]; omega, HR2.out, by omega, hf.trans hfr2.fo, HOO.out⟩
            · have g4 : (u == 4) = false := by simp; omega
              go_wp2_with fail
              go_meet
              exact ⟨rfl, (120, 0, 0), p + 1, HE.out, HR1.out, by omega, hf1, by omega⟩
  case rest =>
    obtain ⟨rfl, s, q, hbx, hrx, hq, hfx, hzx⟩ := hcut
    have HOx : Hid (Own wc C (.slice a n c) l) := HO.out.fr hfx hgC
    have HRx : Hid (Rd B wc g q) := hrx
    have d0 : wc.cell? ⟨w.heap.size, 0, none⟩ = some (.int .u8 s.1) := by rw [cell_of_row wc _ 0 _ _ _ hbx]; rfl
    have d1 : wc.cell? ⟨w.heap.size, 1, none⟩ = some (.int .i64 s.2.1) := by rw [cell_of_row wc _ 1 _ _ _ hbx]; rfl
    have d2 : wc.cell? ⟨w.heap.size, 2, none⟩ = some (.int .i64 s.2.2) := by rw [cell_of_row wc _ 2 _ _ _ hbx]; rfl
    have hcap := HO.out.txt.2.1
    have hcm := HO.out.txt.2.2.1
    unfold maxLen at hcm
    clear hbx hrx hg1
    have tok : True := trivial
    go_wp2_with fail
    go_region_held3 (fun w' => w'.cell? ⟨w.heap.size, 0, none⟩ = some (.int .u8 s.1) ∧ w'.cell? ⟨w.heap.size, 1, none⟩ = some (.int .i64 s.2.1) ∧ w'.cell? ⟨w.heap.size, 2, none⟩ = some (.int .i64 s.2.2))
      (first
        | go_keep
        | (go_split_ands
           refine ⟨?_, ?_, ?_⟩
           · (rw [hgrow6.cell_far _ (by simp; omega) (by simp; omega)]; assumption)
           · (rw [hgrow6.cell_far _ (by simp; omega) (by simp; omega)]; assumption)
           · (rw [hgrow6.cell_far _ (by simp; omega) (by simp; omega)]; assumption))
        | (go_split_ands
           refine ⟨?_, ?_, ?_⟩
           · (rw [hgrow7.cell_far _ (by first | omega | (simp; omega)) (by simp; omega)]; assumption)
           · (rw [hgrow7.cell_far _ (by first | omega | (simp; omega)) (by simp; omega)]; assumption)
           · (rw [hgrow7.cell_far _ (by first | omega | (simp; omega)) (by simp; omega)]; assumption)))
      ((first
        | (have _t := tok; refine step_append_two _ (by rfl) (.tmp 50) (.tmp 51) _ (by rfl) wc.heap.size C 77 i0 _ 3 24 Try.underlying40 hi hz0 hz1 hz2 rfl (by omega) _ 0 0 [] (by rfl) (own_empty_at (by first | omega | (simp; done) | (simp; omega)) (by first | exact heap_alloc_new wc _ | exact heap_two_first wc _ _ | exact heap_two_second wc _ _)) a n c (flat l) (by rfl) (by first | exact (HOx.out.below ((Below.refl _ _).alloc (Nat.le_refl _) _)).row | exact (HOx.out.below (((Below.refl _ _).alloc (Nat.le_refl _) _).alloc (by simp) _)).row) (flat_oneCell l) (by unfold maxLen; omega) (by omega) (by first | (simp; done) | (simp; omega) | omega) n (Nat.zero_add n) ?_; intro g6 c6 w6 hown6 hgrow6; simp only [List.nil_append] at hown6; have hg6 := (hown6.lt g6 rfl).1; have hs6 := hgrow6.size; simp only [World.size_alloc, World.size_drew] at hs6; clear tok)
        | (have _t := hgrow6; refine step_append_two _ (by rfl) (.tmp 52) (.tmp 54) _ (by rfl) wc.heap.size C 77 i0 _ 3 24 Try.underlying40 hi hz0 hz1 hz2 rfl (by omega) g6 n c6 (flat l) (by rfl) (by first | exact hown6 | exact hown6.alloc _) _ 1 1 (sgCells s) (by rfl) (own_one_at (by first | omega | (simp; done) | (simp; omega)) (by first | exact heap_alloc_new w6 _ | exact (hgrow6.block (wc.heap.size + 1) (by first | (simp; done) | (simp; omega)) (by first | (simp; done) | (simp; omega))).trans (heap_two_second wc _ _) | exact (hgrow6.block wc.heap.size (by first | (simp; done) | (simp; omega)) (by first | (simp; done) | (simp; omega))).trans (heap_two_first wc _ _))) (three_oneCell _ _ _) (by unfold maxLen; omega) (by omega) (by first | omega | (simp; omega)) (n + 1) rfl ?_; intro g7 c7 w7 hown7 hgrow7)))
    all_goals
      have hb6 : Below wc.heap.size wc w6 := by
        first
          | exact ((Below.refl _ _).alloc (Nat.le_refl _) _).grown (grown_of_drew hgrow6) (by simp) (fun k hk => by simp at hk; omega)
          | exact (((Below.refl _ _).alloc (Nat.le_refl _) _).alloc (by simp) _).grown (grown_of_drew hgrow6) (by simp; omega) (fun k hk => by simp at hk; omega)
      have hb7 : Below wc.heap.size wc w7 := by
        first
          | exact hb6.grown hgrow7 hb6.size (fun k hk => by simp at hk; omega)
          | exact (hb6.alloc hb6.size _).grown hgrow7 (by have := hb6.size; simp; omega) (fun k hk => by simp at hk; omega)
      have ho7 : Own w7 C (.slice (some ⟨g7, 0, none⟩) (n + 1) c7) (l ++ [s]) :=
        Own.base (Own.snoc hown7 (by rw [← HL.out]) rfl) (by omega)
      have HO7 : Hid (Own w7 C (.slice (some ⟨g7, 0, none⟩) (n + 1) c7) (l ++ [s])) := ho7
      have hr7 : Rd B w7 g q := HRx.out.below hb7 HRx.out.lt
      have hf7 : Fo g o w w7 := hfx.fo.below hb7
      have hoo7 : (Value.slice (some ⟨g7, 0, none⟩) (n + 1) c7).ownBlock = o ∨ ∀ b, (Value.slice (some ⟨g7, 0, none⟩) (n + 1) c7).ownBlock = some b → w.heap.size ≤ b := .inr fun b hb => by
        have := (hown7.lt b hb).1
        omega
      have HOO7 := (show Hid _ from hoo7)
      clear hoo7
      clear hown7 hgrow7 hown6 hgrow6 ho7
      go_wp2_with fail
      go_ret
      exact ⟨_, l ++ [s], q, rfl, HO7.out, by simp; rw [← HL.out]; omega, hr7, by omega, hf7, HOO7.out⟩
end Go.Proofs.Ytpgldodnnlcceaa
namespace Go.Proofs.Ytpgldodnnlcceaa
open Go.RowKit

/-- A table's cells, their texts their own, though two may share one. -/
def OwnX (w : World) (B : Nat) (v : Value) (rs : List Rw) (l : List Cl) : Prop := OwnR w B v rs ∧ rs.length = l.length ∧ ∀ k, k < rs.length → RwOwn w B (rs.getD k rw0) (l.getD k cl0)
theorem OwnT.x {w : World} {B : Nat} {v : Value} {rs : List Rw} {l : List Cl} (h : OwnT w B v rs l) : OwnX w B v rs l := ⟨h.1, h.2.1, h.2.2.1⟩
theorem OwnX.tab {w : World} {B : Nat} {a : Option Addr} {n cap : Nat} {rs : List Rw} {l : List Cl} (h : OwnX w B (.slice a n cap) rs l) : Tab w a n cap l := tab_of_rws h.1.rws ⟨h.2.1, fun k hk => (h.2.2 k hk).is⟩
theorem OwnX.setRowT {B X : Nat} {v : Value} {rs : List Rw} {l : List Cl} {old : Array Value} {w' : World} (h : OwnX w' B v rs l) (hX : RowAt w' X old 25) (cs : Array Value) : OwnX (w'.setRow X cs) B v rs l :=
  ⟨own_row h.1 X cs (rowAt_ne hX h.1 (by decide)), h.2.1, fun k hk => by
      obtain ⟨e1, e2, e3, e4, e5⟩ := h.2.2 k hk
      exact ⟨e1, e2, e3, e4, own_row e5 X cs (rowAt_ne hX e5 (by decide))⟩⟩
theorem OwnX.setT {B X : Nat} {v : Value} {rs : List Rw} {l : List Cl} {old : Array Value} {w' : World} (h : OwnX w' B v rs l) (hX : RowAt w' X old 25) (j : Nat) (u : Value) : OwnX (w'.setCell ⟨X, j, none⟩ u) B v rs l :=
  ⟨own_set h.1 _ _ (rowAt_ne hX h.1 (by decide)), h.2.1, fun k hk => by
      obtain ⟨e1, e2, e3, e4, e5⟩ := h.2.2 k hk
      exact ⟨e1, e2, e3, e4, own_set e5 _ _ (rowAt_ne hX e5 (by decide))⟩⟩
theorem OwnX.less {w : World} {B B' : Nat} {v : Value} {rs : List Rw} {l : List Cl} (h : OwnX w B' v rs l) (hB : B ≤ B') : OwnX w B v rs l :=
  ⟨own_less h.1 hB, h.2.1, fun k hk => by obtain ⟨h0, h1, h2, h3, h4⟩ := h.2.2 k hk; exact ⟨h0, h1, h2, h3, own_less h4 hB⟩⟩
theorem OwnX.fr {C g : Nat} {w w' : World} {v : Value} {rs : List Rw} {l : List Cl} (h : OwnX w C v rs l) (hf : Fr w.heap.size g w w') (hg : g < C) : OwnX w' C v rs l :=
  ⟨own_fr h.1 hf hg, h.2.1, fun k hk => by
    obtain ⟨h0, h1, h2, h3, h4⟩ := h.2.2 k hk
    exact ⟨h0, h1, h2, h3, own_fr h4 hf hg⟩⟩
theorem own_fo {w w' : World} {B e size n g : Nat} {o : Option Nat} {v : Value} {xs : List Value} (h : w.ownsRow B e size v n xs) (hf : Fo g o w w') (hg : g < B) (ho : ∀ b, v.ownBlock = some b → o ≠ some b) : w'.ownsRow B e size v n xs := by
  refine ⟨h.1, ?_⟩
  rcases h.2 with hn | ⟨q, cap, cur, rfl, hB, hqq, rest⟩
  · exact .inl hn
  · refine .inr ⟨q, cap, cur, rfl, hB, ?_, rest⟩
    rw [hf.block q (Array.getElem?_eq_some_iff.1 hqq).1 (by omega) (fun e => ho q rfl e.symm)]
    exact hqq
/-- A text of a row is written behind a call that may have written into the text that was there. -/
theorem OwnT.putBad {w w' : World} {B q n c g : Nat} {rs : List Rw} {l : List Cl} (h : OwnT w B (.slice (some ⟨q, 0, none⟩) n c) rs l) (i : Nat) (hi : i < rs.length) (hf : Fo g (rwT (rs.getD i rw0)).ownBlock w w') (hg : g < B) (pa : Option Addr) (pn pc : Nat) (tx : List Sg)
    (hO : Own w' B (.slice pa pn pc) tx) :
    OwnX (w'.setCell ⟨q, i * 5 + 4, none⟩ (.slice pa pn pc)) B (.slice (some ⟨q, 0, none⟩) n c) (rs.set i ((rs.getD i rw0).1, (rs.getD i rw0).2.1, (rs.getD i rw0).2.2.1, (rs.getD i rw0).2.2.2.1, pa, pn, pc)) (l.set i ((l.getD i cl0).1, (l.getD i cl0).2.1, (l.getD i cl0).2.2.1, (l.getD i cl0).2.2.2.1, tx)) := by
  have hl := h.2.1
  have hn := h.1.len
  have hR : OwnR w' B (.slice (some ⟨q, 0, none⟩) n c) rs := own_fo h.1 hf hg (fun b hb e => h.2.2.2.1 i hi b e hb)
  obtain ⟨p0, _⟩ := hR.row.stored (i * 5 + 4) (.slice pa pn pc)
  rw [flat5_put rs i 4 hi (by omega) _ ((rs.getD i rw0).1, (rs.getD i rw0).2.1, (rs.getD i rw0).2.2.1, (rs.getD i rw0).2.2.2.1, pa, pn, pc) rfl] at p0
  have hk0 : ∀ b, (Value.slice pa pn pc).ownBlock = some b → (Value.slice (some ⟨q, 0, none⟩) n c).ownBlock ≠ some b := own_kinds hR.row hO.row (by decide)
  have hO' : Own (w'.setCell ⟨q, i * 5 + 4, none⟩ (.slice pa pn pc)) B (.slice pa pn pc) tx := own_set hO _ _ (fun e => hk0 _ e rfl)
  refine ⟨?_, by simp [hl], fun k hk' => ?_⟩
  · unfold OwnR
    rw [List.length_set, ← hn]
    exact p0
  · simp only [List.length_set] at hk'
    by_cases hki : i = k
    · subst hki
      rw [getD_setE _ _ _ _ hi, getD_setE _ _ _ _ (by omega)]
      obtain ⟨h0, h1, h2, h3, _⟩ := h.2.2.1 i hk'
      exact ⟨h0, h1, h2, h3, hO'⟩
    · rw [getD_setN _ _ _ _ _ hki, getD_setN _ _ _ _ _ hki]
      obtain ⟨h0, h1, h2, h3, h4⟩ := h.2.2.1 k hk'
      have h5 : Own w' B (rwT (rs.getD k rw0)) (l.getD k cl0).2.2.2.2 := own_fo h4 hf hg (fun b hb e => by
        rcases Nat.lt_trichotomy i k with hlt | hlt | hlt
        · exact h.2.2.2.2 i k hlt hk' b e hb
        · exact hki hlt
        · exact h.2.2.2.2 k i hlt hi b hb e)
      exact ⟨h0, h1, h2, h3, own_set h5 _ _ (fun e => own_kinds hR.row h5 (by decide) q e rfl)⟩
theorem Fo.fr {g C : Nat} {o : Option Nat} {w w' : World} (h : Fo g o w w') (hC : C ≤ w.heap.size) (ho : ∀ b, o = some b → C ≤ b) : Fr C g w w' :=
  ⟨h.os, h.tape, h.output, h.size, fun k hk hn => h.block k (by omega) hn (fun e => by have := ho k e.symm; omega)⟩
/-- A drawn table, spoilt: few cells, short texts. -/
def TabSp (R C : Int) (l : List Cl) : Prop := (-2 ≤ R ∧ R ≤ 10) ∧ (-2 ≤ C ∧ C ≤ 10) ∧ l.length ≤ 26 ∧ ∀ x ∈ l, x.2.2.2.2.length ≤ 25
theorem TabSm.sp {R C : Nat} {l : List Cl} (h : TabSm R C l) : TabSp R C l := by
  obtain ⟨h1, h2, h3, h4⟩ := h
  exact ⟨by omega, by omega, by omega, fun x hx => by have := h4 x hx; omega⟩
theorem TabSp.set {R C : Int} {l : List Cl} (h : TabSp R C l) (i : Nat) (y : Cl) (hy : y.2.2.2.2.length ≤ 25) : TabSp R C (l.set i y) := by
  obtain ⟨h1, h2, h3, h4⟩ := h
  refine ⟨h1, h2, by simpa using h3, fun x hx => ?_⟩
  rcases List.mem_or_eq_of_mem_set hx with h | h
  · exact h4 x h
  · rw [h]; exact hy
theorem flat5_take (rs : List Rw) (k : Nat) : flat5 (rs.take k) = (flat5 rs).take (k * 5) := by
  induction k generalizing rs with
  | zero => simp [flat5]
  | succ k ih =>
    cases rs with
    | nil => simp [flat5]
    | cons x rs =>
      show rwCells x ++ flat5 (rs.take k) = (rwCells x ++ flat5 rs).take ((k + 1) * 5)
      rw [ih, show (k + 1) * 5 = (rwCells x).length + k * 5 from by simp [rwCells]; omega, List.take_length_add_append]
/-- The first rows of rows that are owned. -/
theorem OwnR.first {w : World} {B g n c : Nat} {rs : List Rw} (h : OwnR w B (.slice (some ⟨g, 0, none⟩) n c) rs) (k : Nat) (hk : k ≤ n) : w.ownsRow B 42 5 (.slice (some ⟨g, 0, none⟩) k c) k (flat5 (rs.take k)) := by
  have hr := h.row
  have hlen := h.len
  refine ⟨by rw [flat5_length, List.length_take]; omega, ?_⟩
  rcases hr.2 with ⟨hv, _⟩ | ⟨g', cap, cur, hv, hB, hg, hn, hm, hs, hp⟩
  · simp at hv
  · simp only [Value.slice.injEq, Option.some.injEq, Addr.mk.injEq, and_true, true_and] at hv
    obtain ⟨rfl, rfl⟩ := hv
    refine .inr ⟨g, c, cur, rfl, hB, hg, by omega, hm, hs, ?_⟩
    rw [flat5_take, ← hp, List.take_take, Nat.min_eq_left (by omega)]
theorem flat5_drop (rs : List Rw) (k : Nat) : flat5 (rs.drop k) = (flat5 rs).drop (k * 5) := by
  induction k generalizing rs with
  | zero => simp
  | succ k ih =>
    cases rs with
    | nil => simp [flat5]
    | cons x rs =>
      show flat5 (rs.drop k) = (rwCells x ++ flat5 rs).drop ((k + 1) * 5)
      rw [ih, show (k + 1) * 5 = (rwCells x).length + k * 5 from by simp [rwCells]; omega, List.drop_length_add_append]
theorem flat5_one (rs : List Rw) : ∀ u ∈ flat5 rs, u.oneCell' = true := by
  intro u hu
  simp only [flat5, List.mem_flatMap, rwCells] at hu
  obtain ⟨s, _, hs⟩ := hu
  simp at hs
  rcases hs with rfl | rfl | rfl | rfl | rfl <;> rfl
theorem getD_del {α : Type} (l : List α) (k j : Nat) (d : α) (hk : k < l.length) : (l.take k ++ l.drop (k + 1)).getD j d = l.getD (if j < k then j else j + 1) d := by
  simp only [List.getD_eq_getElem?_getD]
  congr 1
  by_cases h : j < k
  · rw [if_pos h, List.getElem?_append_left (by rw [List.length_take]; omega), List.getElem?_take, if_pos h]
  · rw [if_neg h, List.getElem?_append_right (by rw [List.length_take]; omega), List.length_take, Nat.min_eq_left (by omega), List.getElem?_drop]
    congr 1
    omega
theorem step_append_empty {P : Program} {w : World} {ops : Array Oper} {o : Oper} {a : Act} {K : Act → World → Prop} {Q : Exit → Act → World → Prop} {E : Prop} (hgd : o.guard = none) (s x : Operand) (t : TypeId)
    (ho : o.op = .call { callee := .builtin .append, args := #[s, x], argTypes := #[t, t] })
    (base : Nat) (e : TypeId) (i : TypeInfo) (size : Nat) (ht : P.underlying t = some (.slice e)) (hi : P.info? e = some i)
    (v : Value) (n : Nat) (xs : List Value) (hs : a.eval s = v) (hown : w.ownsRow base e size v n xs) (p : Option Addr) (c : Nat) (hx : a.eval x = .slice p 0 c)
    (d : Nat) (hd : o.dst = some d) (h : K (a.put (some d) v) w) : if Region.wanted o (yielded ops a.tmps) = true then Oper.wp P o a w K Q else E := by
  have hw : Region.wanted o (yielded ops a.tmps) = true := by simp [Region.wanted, hgd]
  have hrun := run_append_empty (P := P) (w := w) base t o.type e i size ht hi v n xs hown p c
  rw [if_pos hw]
  unfold Oper.wp
  rw [← hd] at h
  simp [execOp, ho, resolve, invoke, builtin, hs, hx, hrun, Result.andThen]
  exact h
theorem step_append_liesD {P : Program} (w : World) {ops : Array Oper} {o : Oper} {a : Act} {K : Act → World → Prop} {Q : Exit → Act → World → Prop} {E : Prop} (d : Nat) (hd : o.dst = some d) (hgd : o.guard = none) (s x : Operand) (t : TypeId)
    (ho : o.op = .call { callee := .builtin .append, args := #[s, x], argTypes := #[t, t] })
    (base : Nat) (e : TypeId) (i : TypeInfo) (z : Value) (size bytes : Nat) (ht : P.underlying t = some (.slice e)) (hi : P.info? e = some i) (hz : i.zero = some z)
    (hsize : i.size = size) (hby : i.bytes = bytes) (hzs : z.cells.size = size) (hsz : 0 < size)
    (v : Value) (n : Nat) (xs : List Value) (hs : a.eval s = v) (hown : w.ownsRow base e size v n xs)
    (ad : Addr) (m c : Nat) (news : List Value) (hx : a.eval x = .slice (some ad) m c) (hl : news.length = m * size) (hnews : ∀ j u, news[j]? = some u → w.cell? (ad.add j) = some u) (h1 : ∀ u ∈ news, u.oneCell' = true)
    (hm : 0 < m) (h63 : n + m ≤ maxLen) (hbytes : (n + m) * bytes ≤ 140737488355328) (hbase : base ≤ w.heap.size) (H : Nat) (hH : w.heap.size = H)
    (h : ∀ g cap w', w'.ownsRow base e size (.slice (some ⟨g, 0, none⟩) (n + m) cap) (n + m) (xs ++ news) → w.grownBy w' v.ownBlock → (v.ownBlock = some g ∨ g = H) → g < w'.heap.size → K (a.put (some d) (.slice (some ⟨g, 0, none⟩) (n + m) cap)) w') :
    if Region.wanted o (yielded ops a.tmps) = true then Oper.wp P o a w K Q else E :=
  step_append_lies w hgd s x t ho base e i z size bytes ht hi hz hsize hby hzs hsz v n xs hs hown ad m c news hx hl hnews h1 hm h63 hbytes hbase H hH (fun g cap w' q1 q2 q3 q4 => by rw [hd]; exact h g cap w' q1 q2 q3 q4)
/-- A row less. -/
theorem OwnX.del {w : World} {B : Nat} {v : Value} {rs : List Rw} {l : List Cl} (h : rs.length = l.length) (hr : ∀ k, k < rs.length → RwOwn w B (rs.getD k rw0) (l.getD k cl0)) (k : Nat) (hk : k < rs.length) (ho : OwnR w B v (rs.take k ++ rs.drop (k + 1))) : OwnX w B v (rs.take k ++ rs.drop (k + 1)) (l.take k ++ l.drop (k + 1)) := by
  refine ⟨ho, by simp; omega, fun j hj => ?_⟩
  have hj' : j < rs.length - 1 := by simp at hj; omega
  rw [getD_del rs k j rw0 hk, getD_del l k j cl0 (by omega)]
  by_cases h1 : j < k
  · rw [if_pos h1]
    exact hr j (by omega)
  · rw [if_neg h1]
    exact hr (j + 1) (by omega)
theorem TabSp.del {R C : Int} {l : List Cl} (h : TabSp R C l) (k : Nat) : TabSp R C (l.take k ++ l.drop (k + 1)) := by
  obtain ⟨h1, h2, h3, h4⟩ := h
  refine ⟨h1, h2, by simp; omega, fun x hx => ?_⟩
  rcases List.mem_append.1 hx with q | q
  · exact h4 x (List.mem_of_mem_take q)
  · exact h4 x (List.mem_of_mem_drop q)
end Go.Proofs.Ytpgldodnnlcceaa
namespace Go.Proofs.Ytpgldodnnlcceaa
open Go.RowKit

set_option maxRecDepth 100000 in
set_option maxHeartbeats 8000000 in
theorem l71Spoil_any (B g p R C : Nat) (a : Option Addr) (n c : Nat) (l : List Cl) (w : World) (h : Rd B w g p) (hp : p ≤ 110000) (hT : Tab w a n c l) (hsm : TabSm R C l) :
    Calls Try.prog 52 #[.pointer (some ⟨g, 0, none⟩), .agg #[.int .i64 R, .int .i64 C, .slice a n c]] w fun e w' => ∃ (R' C' : Int) (a' : Option Addr) (n' c' : Nat) (l' : List Cl) (q : Nat), e = .returned (.agg #[.int .i64 R', .int .i64 C', .slice a' n' c']) ∧ (∃ rs', OwnX w' w.heap.size (.slice a' n' c') rs' l') ∧ TabSp R' C' l' ∧ Rd B w' g q ∧ q ≤ p + 100 ∧ Fr w.heap.size g w w' := by
  obtain ⟨i0, hi, hz0, hz1, hz2⟩ := info_parts Try.info42
  have hlt := h.lt
  have HR : Hid (Rd B w g p) := h
  have HTa : Hid (Tab w a n c l) := hT
  have HSm : Hid (TabSm R C l) := hsm
  obtain ⟨hR4, hC4, hL4, hX4⟩ := hsm
  have HLX : Hid (∀ k, k < l.length → (l.getD k cl0).2.2.2.2.length ≤ 24) := fun k hk => hX4 _ (by rw [List.getD_eq_getElem?_getD, List.getElem?_eq_getElem hk]; exact List.getElem_mem hk)
  clear h hT hX4
  go_enter Try.func52, Try.ntmps52
  go_upto_region 1 with fail
  have B0 : Below w.heap.size w ((w.alloc (.cells #[.int .i64 R, .int .i64 C, .slice a n c] 25)).alloc (.cells #[.int .i64 0, .int .i64 0, .slice none 0 0] 25)) := ((Below.refl _ _).alloc (Nat.le_refl _) _).alloc (by simp) _
  have G0 : RowAt ((w.alloc (.cells #[.int .i64 R, .int .i64 C, .slice a n c] 25)).alloc (.cells #[.int .i64 0, .int .i64 0, .slice none 0 0] 25)) w.heap.size #[.int .i64 R, .int .i64 C, .slice a n c] 25 := (rowAt_new w _ _).alloc _
  have G1 : RowAt ((w.alloc (.cells #[.int .i64 R, .int .i64 C, .slice a n c] 25)).alloc (.cells #[.int .i64 0, .int .i64 0, .slice none 0 0] 25)) (w.heap.size + 1) #[.int .i64 0, .int .i64 0, .slice none 0 0] 25 := by
    have := rowAt_new (w.alloc (.cells #[.int .i64 R, .int .i64 C, .slice a n c] 25)) #[.int .i64 0, .int .i64 0, .slice none 0 0] 25
    simpa using this
  have HTv : Hid (Tab ((w.alloc (.cells #[.int .i64 R, .int .i64 C, .slice a n c] 25)).alloc (.cells #[.int .i64 0, .int .i64 0, .slice none 0 0] 25)) a n c l) := HTa.out.below B0
  generalize ((w.alloc (.cells #[.int .i64 R, .int .i64 C, .slice a n c] 25)).alloc (.cells #[.int .i64 0, .int .i64 0, .slice none 0 0] 25)) = v at B0 G0 G1 HTv ⊢
  have HG0 : Hid (RowAt v w.heap.size #[.int .i64 R, .int .i64 C, .slice a n c] 25) := G0
  have HG1 : Hid (RowAt v (w.heap.size + 1) #[.int .i64 0, .int .i64 0, .slice none 0 0] 25) := G1
  have HB0 : Hid (Below w.heap.size w v) := B0
  have s0 := B0.size
  have z1 := G1.lt
  clear G0 G1 B0
  go_upto_region 2 with (first | (refine wpList_load_row rfl 25 (.tmp 3) rfl w.heap.size rfl 25 #[.int .i64 R, .int .i64 C, .slice a n c] (0, 0) _ HG0.out Try.underlying25 rfl tab_info ?_) | (go_at_call 44; refine (l2Copy_any R C a n c l _ HTv.out (by omega) (fun k hk => by have := HLX.out k hk; omega)).mono ?_; rintro e w1 ⟨⟨al, cl, rs, rfl, hOl⟩, hb1⟩; have HG1w : Hid (RowAt w1 w.heap.size #[.int .i64 R, .int .i64 C, .slice a n c] 25) := HG0.out.below hb1 (by omega)) | (refine wpList_store_row rfl 25 (.tmp 3) (.tmp 7) rfl w.heap.size #[.int .i64 R, .int .i64 C, .slice al l.length cl] rfl rfl 25 _ HG1w.out tab_info rfl (cells3_one _ _ _ _ _) ?_))
  have s1 := hb1.size
  obtain ⟨N, hN⟩ : ∃ N, l.length = N := ⟨_, rfl⟩
  have HNN : Hid (l.length = N) := hN
  rw [hN] at hOl hL4 ⊢
  clear hN
  obtain ⟨gq, rfl⟩ : ∃ gq, al = some ⟨gq, 0, none⟩ := by
    rcases hOl.1.row.2 with ⟨hv, hz⟩ | ⟨g', cap', cur, hv, -⟩
    · exfalso; omega
    · simp only [Value.slice.injEq, true_and] at hv
      exact ⟨g', hv.1⟩
  have bS : Below w.heap.size w1 (w1.setRow w.heap.size #[.int .i64 R, .int .i64 C, .slice (some ⟨gq, 0, none⟩) N cl]) := below_row (Below.refl _ _) (Nat.le_refl _) _
  have T2 : RowAt (w1.setRow w.heap.size #[.int .i64 R, .int .i64 C, .slice (some ⟨gq, 0, none⟩) N cl]) w.heap.size #[.int .i64 R, .int .i64 C, .slice (some ⟨gq, 0, none⟩) N cl] 25 := HG1w.out.setRow _
  have O2 : OwnT (w1.setRow w.heap.size #[.int .i64 R, .int .i64 C, .slice (some ⟨gq, 0, none⟩) N cl]) v.heap.size (.slice (some ⟨gq, 0, none⟩) N cl) rs l := hOl.setRowT HG1w.out _
  have Z2 : RowAt (w1.setRow w.heap.size #[.int .i64 R, .int .i64 C, .slice (some ⟨gq, 0, none⟩) N cl]) (w.heap.size + 1) #[.int .i64 0, .int .i64 0, .slice none 0 0] 25 := (HG1.out.below hb1 z1).setRowOther _ _ (by omega)
  have F2 : Fr w.heap.size g w (w1.setRow w.heap.size #[.int .i64 R, .int .i64 C, .slice (some ⟨gq, 0, none⟩) N cl]) := (((Fr.refl _ _ w).below HB0.out).below (hb1.mono s0)).below bS
  have R2 : Rd B (w1.setRow w.heap.size #[.int .i64 R, .int .i64 C, .slice (some ⟨gq, 0, none⟩) N cl]) g p := ((HR.out.below HB0.out hlt).below hb1 (by omega)).below bS hlt
  have z2 : v.heap.size ≤ (w1.setRow w.heap.size #[.int .i64 R, .int .i64 C, .slice (some ⟨gq, 0, none⟩) N cl]).heap.size := Nat.le_trans s1 bS.size
  generalize (w1.setRow w.heap.size #[.int .i64 R, .int .i64 C, .slice (some ⟨gq, 0, none⟩) N cl]) = v2 at T2 O2 Z2 F2 R2 z2 ⊢
  have t2 : v2.cell? ⟨w.heap.size, 2, none⟩ = some (.slice (some ⟨gq, 0, none⟩) N cl) := T2.cell 2
  have HT2 : Hid (RowAt v2 w.heap.size #[.int .i64 R, .int .i64 C, .slice (some ⟨gq, 0, none⟩) N cl] 25) := T2
  have HO2 : Hid (OwnT v2 v.heap.size (.slice (some ⟨gq, 0, none⟩) N cl) rs l) := O2
  have HZ2 : Hid (RowAt v2 (w.heap.size + 1) #[.int .i64 0, .int .i64 0, .slice none 0 0] 25) := Z2
  have HF2 : Hid (Fr w.heap.size g w v2) := F2
  have HR2 : Hid (Rd B v2 g p) := R2
  clear T2 O2 Z2 F2 R2 bS hOl hb1 HG0 HG1 HTv HTa HR
  have hcl := HO2.out.1.rws.2.1
  have hcm := HO2.out.1.rws.2.2.1
  unfold maxLen at hcm
  have hgq := (own_lt HO2.out.1.row rfl).1
  go_wp2_with fail
  refine (pick_any B g p N _ HR2.out (by omega) (by omega) (by omega)).mono ?_
  rintro e w3 ⟨k, rfl, hk0, hk1, hr3, hg3⟩
  obtain ⟨k, rfl⟩ : ∃ q : Nat, k = q := ⟨k.toNat, by omega⟩
  have f3 := fr_grown hg3
  have s3 := f3.size
  have HR3 : Hid (Rd B w3 g (p + 1)) := hr3
  clear hr3 hg3 t2
  go_wp2_with fail
  refine (pick_any B g (p + 1) 7 _ HR3.out (by omega) (by omega) (by omega)).mono ?_
  rintro e w4 ⟨sw, rfl, hs0, hs1, hr4, hg4⟩
  have f4 := fr_grown hg4
  have f34 : Fr v2.heap.size g v2 w4 := f3.trans (f4.mono s3)
  have s4 := f34.size
  have HR4 : Hid (Rd B w4 g (p + 1 + 1)) := hr4
  have HT4 : Hid (RowAt w4 w.heap.size #[.int .i64 R, .int .i64 C, .slice (some ⟨gq, 0, none⟩) N cl] 25) := HT2.out.fr f34 (by omega)
  have HO4 : Hid (OwnT w4 v.heap.size (.slice (some ⟨gq, 0, none⟩) N cl) rs l) := HO2.out.fr f34 (by omega)
  have HZ4 : Hid (RowAt w4 (w.heap.size + 1) #[.int .i64 0, .int .i64 0, .slice none 0 0] 25) := HZ2.out.fr f34 (by omega)
  have HF4 : Hid (Fr w.heap.size g w w4) := HF2.out.trans (f34.mono (by omega))
  clear hr4 hg4 f3 f4 f34 HT2 HO2 HZ2 HF2 HR2 HR3
  have hkr : k < rs.length := by have := HO4.out.1.len; omega
  have hkl : k < l.length := by have := HNN.out; omega
  have hgT : gq ≠ w.heap.size := by omega
  have hkN : (k : Int) < (N : Int) := by omega
  have t2 : w4.cell? ⟨w.heap.size, 2, none⟩ = some (.slice (some ⟨gq, 0, none⟩) N cl) := HT4.out.cell 2
  have HTB : Hid (TabSp R C l) := HSm.out.sp
  by_cases h0 : sw = 0
  · have n0 : sw = 0 := h0
    subst n0
    go_upto_region 6 with fail
    have HTd : Hid (RowAt w4.drew w.heap.size #[.int .i64 R, .int .i64 C, .slice (some ⟨gq, 0, none⟩) N cl] 25) := HT4.out
    refine wp_region_noPanic ?_
    refine wp_region_held_drew (S := fun w' => RowAt w' w.heap.size #[.int .i64 R, .int .i64 C, .slice (some ⟨gq, 0, none⟩) N cl] 25) (by kernel_rfl) HTd.out (fun hHeld => ?_)
    refine take_at 0 21 (.pointer (some ⟨w.heap.size, 2, none⟩)) rfl rfl (by kernel_rfl) (by kernel_rfl) (by kernel_rfl) (fun _ _ _ h => h) (Or.inl ⟨by kernel_rfl, fun w' hS' => by go_simp⟩) hHeld ?_
    (try simp only [Act.put, List.setIfInBounds_toArray, List.set_cons_zero, List.set_cons_succ])
    refine take_at 1 22 (.slice (some ⟨gq, 0, none⟩) N cl) rfl rfl (by kernel_rfl) (by kernel_rfl) (by kernel_rfl) (fun _ _ _ h => h) (Or.inl ⟨by kernel_rfl, fun w' hS' => by have hc := RowAt.cell hS' 2; go_simp⟩) hHeld ?_
    (try simp only [Act.put, List.setIfInBounds_toArray, List.set_cons_zero, List.set_cons_succ])
    refine take_at 2 23 (.int .i64 k) rfl rfl (by kernel_rfl) (by kernel_rfl) (by kernel_rfl) (fun _ _ _ h => h) (Or.inl ⟨by kernel_rfl, fun w' hS' => by go_simp⟩) hHeld ?_
    (try simp only [Act.put, List.setIfInBounds_toArray, List.set_cons_zero, List.set_cons_succ])
    refine take_at 3 24 (.pointer (some ⟨g, 0, none⟩)) rfl rfl (by kernel_rfl) (by kernel_rfl) (by kernel_rfl) (fun _ _ _ h => h) (Or.inl ⟨by kernel_rfl, fun w' hS' => by go_simp⟩) hHeld ?_
    (try simp only [Act.put, List.setIfInBounds_toArray, List.set_cons_zero, List.set_cons_succ])
    have fd : Fr w4.heap.size g w4 w4.drew := (Fr.refl _ _ _).below ((Below.refl _ _).drew)
    have HRd : Hid (Rd B w4.drew g (p + 1 + 1)) := HR4.out.below ((Below.refl _ _).drew) HR4.out.lt
    have HOd : Hid (OwnT w4.drew v.heap.size (.slice (some ⟨gq, 0, none⟩) N cl) rs l) := HO4.out.fr fd (by omega)
    have HZd : Hid (RowAt w4.drew (w.heap.size + 1) #[.int .i64 0, .int .i64 0, .slice none 0 0] 25) := HZ4.out
    have HFd : Hid (Fr w.heap.size g w w4.drew) := HF4.out.trans (fd.mono (by omega))
    have sd : w4.heap.size = w4.drew.heap.size := rfl
    generalize w4.drew = w5 at HTd HRd HOd HZd HFd sd hHeld ⊢
    clear fd HT4 HO4 HZ4 HF4 HR4
    refine wpAnyH_ready (rs := [4]) (by kernel_rfl) (by simp) ?_
    refine AllReadyH.cons rfl (fun K hK => ?_) AllReadyH.nil
    go_simp
    go_at_call 31
    refine (pick_any B g (p + 1 + 1) 7 _ HRd.out (by omega) (by omega) (by omega)).mono ?_
    rintro e w6 ⟨x, rfl, hx0, hx1, hr6, hg6⟩
    have f6 := fr_grown hg6
    have s6 := f6.size
    have HR6 : Hid (Rd B w6 g (p + 1 + 1 + 1)) := hr6
    have HT6 : Hid (RowAt w6 w.heap.size #[.int .i64 R, .int .i64 C, .slice (some ⟨gq, 0, none⟩) N cl] 25) := HTd.out.fr f6 (by omega)
    have HO6 : Hid (OwnT w6 v.heap.size (.slice (some ⟨gq, 0, none⟩) N cl) rs l) := HOd.out.fr f6 (by omega)
    have HZ6 : Hid (RowAt w6 (w.heap.size + 1) #[.int .i64 0, .int .i64 0, .slice none 0 0] 25) := HZd.out.fr f6 (by omega)
    have HF6 : Hid (Fr w.heap.size g w w6) := HFd.out.trans (f6.mono (by omega))
    clear hr6 hg6 f6 HTd HRd HOd HZd HFd hHeld
    go_wp2_with fail
    refine hK.out _ _ HT6.out (fun hHeld => ?_)
    clear hK K
    (try simp only [Act.put, List.setIfInBounds_toArray, List.set_cons_zero, List.set_cons_succ])
    refine take_at 5 26 (.int .i64 (x - 1)) rfl rfl (by kernel_rfl) (by kernel_rfl) (by kernel_rfl) (fun _ _ _ h => h) (Or.inl ⟨by kernel_rfl, fun w' hS' => by go_simp; rw [IntKind.wrap_i64]; omega⟩) hHeld ?_
    (try simp only [Act.put, List.setIfInBounds_toArray, List.set_cons_zero, List.set_cons_succ])
    refine take_at 6 27 (.pointer (some ⟨gq, k * 5, none⟩)) rfl rfl (by kernel_rfl) (by kernel_rfl) (by kernel_rfl) (fun _ _ _ h => h) (Or.inl ⟨by kernel_rfl, fun w' hS' => by go_simp⟩) hHeld ?_
    (try simp only [Act.put, List.setIfInBounds_toArray, List.set_cons_zero, List.set_cons_succ])
    refine take_at 7 28 (.pointer (some ⟨gq, k * 5 + 2, none⟩)) rfl rfl (by kernel_rfl) (by kernel_rfl) (by kernel_rfl) (fun _ _ _ h => h) (Or.inl ⟨by kernel_rfl, fun w' hS' => by go_simp⟩) hHeld ?_
    (try simp only [Act.put, List.setIfInBounds_toArray, List.set_cons_zero, List.set_cons_succ])
    obtain ⟨u4, x4⟩ : ∃ u, w6.cell? ⟨gq, k * 5 + 2, none⟩ = some u := ⟨_, (HO6.out.1.row.cellAt (k * 5 + 2) (by omega)).trans (flat5_get _ k 2 hkr (by omega))⟩
    have fz4 := HO6.out.1.row.frozenAt (k * 5 + 2)
    refine wpAnyH_ready (rs := [8]) (by kernel_rfl) (by simp) ?_
    refine AllReadyH.cons rfl (fun K hK => ?_) AllReadyH.nil
    go_simp
    refine hK.out _ _ (HT6.out.other ⟨gq, k * 5 + 2, none⟩ (.int .i64 (x - 1)) (by show w.heap.size ≠ gq; omega)) (fun _ => ?_)
    clear hK K
    refine wpAnyH_done (by kernel_rfl) ?_ _
    refine NoPanic.normal ?_
    have hq0 := HO6.out.2.2.1 k hkr
    have P := HO6.out.put k 2 hkr (by omega) (.int .i64 (x - 1)) ((rs.getD k rw0).1, (rs.getD k rw0).2.1, x - 1, (rs.getD k rw0).2.2.2.1, (rs.getD k rw0).2.2.2.2) ((l.getD k cl0).1, (l.getD k cl0).2.1, x - 1, (l.getD k cl0).2.2.2.1, (l.getD k cl0).2.2.2.2) rfl rfl rfl ⟨hq0.1, hq0.2.1, rfl, hq0.2.2.2.1⟩
    have HTe : Hid (RowAt (w6.setCell ⟨gq, k * 5 + 2, none⟩ (.int .i64 (x - 1))) w.heap.size #[.int .i64 R, .int .i64 C, .slice (some ⟨gq, 0, none⟩) N cl] 25) := HT6.out.other ⟨gq, k * 5 + 2, none⟩ (.int .i64 (x - 1)) (by show w.heap.size ≠ gq; omega)
    have HOe : Hid (OwnX (w6.setCell ⟨gq, k * 5 + 2, none⟩ (.int .i64 (x - 1))) v.heap.size (.slice (some ⟨gq, 0, none⟩) N cl) (rs.set k ((rs.getD k rw0).1, (rs.getD k rw0).2.1, x - 1, (rs.getD k rw0).2.2.2.1, (rs.getD k rw0).2.2.2.2)) (l.set k ((l.getD k cl0).1, (l.getD k cl0).2.1, x - 1, (l.getD k cl0).2.2.2.1, (l.getD k cl0).2.2.2.2))) := P.x
    have HZe : Hid (RowAt (w6.setCell ⟨gq, k * 5 + 2, none⟩ (.int .i64 (x - 1))) (w.heap.size + 1) #[.int .i64 0, .int .i64 0, .slice none 0 0] 25) := HZ6.out.other ⟨gq, k * 5 + 2, none⟩ (.int .i64 (x - 1)) (by show w.heap.size + 1 ≠ gq; omega)
    have HRe : Hid (Rd B (w6.setCell ⟨gq, k * 5 + 2, none⟩ (.int .i64 (x - 1))) g (p + 1 + 1 + 1)) := HR6.out.setCell (by show g < gq; omega) _
    have HFe : Hid (Fr w.heap.size g w (w6.setCell ⟨gq, k * 5 + 2, none⟩ (.int .i64 (x - 1)))) := HF6.out.setCell (p := ⟨gq, k * 5 + 2, none⟩) (by show w.heap.size ≤ gq; omega) _
    clear P hq0 x4 fz4 HT6 HO6 HZ6 HF6 HR6 t2
    generalize (w6.setCell ⟨gq, k * 5 + 2, none⟩ (.int .i64 (x - 1))) = w9 at HTe HOe HZe HRe HFe ⊢
    go_wp2_with (first | (refine wpList_load_row rfl 25 (.tmp 3) rfl w.heap.size rfl 25 #[.int .i64 R, .int .i64 C, .slice (some ⟨gq, 0, none⟩) N cl] (0, 0) _ HTe.out Try.underlying25 rfl tab_info ?_) | (refine wpList_store_row rfl 25 (.tmp 4) (.tmp 84) rfl (w.heap.size + 1) #[.int .i64 R, .int .i64 C, .slice (some ⟨gq, 0, none⟩) N cl] rfl rfl 25 _ HZe.out tab_info rfl (cells3_one _ _ _ _ _) ?_))
    have bT : Below (w.heap.size + 1) w9 (w9.setRow (w.heap.size + 1) #[.int .i64 R, .int .i64 C, .slice (some ⟨gq, 0, none⟩) N cl]) := below_row (Below.refl _ _) (Nat.le_refl _) _
    refine bodyPost_ret (v := .agg #[.int .i64 R, .int .i64 C, .slice (some ⟨gq, 0, none⟩) N cl]) (results_cell_row (p := 4) (ty := 25) rfl _ _ (w.heap.size + 1) 25 _ _ _ rfl (RowAt.setRow HZe.out _) Try.underlying25 rfl tab_info) rfl ⟨R, C, (some ⟨gq, 0, none⟩), N, cl, l.set k ((l.getD k cl0).1, (l.getD k cl0).2.1, x - 1, (l.getD k cl0).2.2.2.1, (l.getD k cl0).2.2.2.2), p + 1 + 1 + 1, rfl, ⟨_, (HOe.out.setRowT HZe.out _).less (by omega)⟩, HTB.out.set k _ (by show (l.getD k cl0).2.2.2.2.length ≤ 25; have := HLX.out k hkl; omega), HRe.out.below bT (by omega), by omega, HFe.out.below (bT.mono (by omega))⟩
  have m0 : (sw == 0) = false := by simp; omega
  by_cases h1 : sw = 1
  · have n1 : sw = 1 := h1
    subst n1
    go_upto_region 8 with fail
    have HTd : Hid (RowAt w4.drew w.heap.size #[.int .i64 R, .int .i64 C, .slice (some ⟨gq, 0, none⟩) N cl] 25) := HT4.out
    refine wp_region_noPanic ?_
    refine wp_region_held_drew (S := fun w' => RowAt w' w.heap.size #[.int .i64 R, .int .i64 C, .slice (some ⟨gq, 0, none⟩) N cl] 25) (by kernel_rfl) HTd.out (fun hHeld => ?_)
    refine take_at 0 31 (.pointer (some ⟨w.heap.size, 2, none⟩)) rfl rfl (by kernel_rfl) (by kernel_rfl) (by kernel_rfl) (fun _ _ _ h => h) (Or.inl ⟨by kernel_rfl, fun w' hS' => by go_simp⟩) hHeld ?_
    (try simp only [Act.put, List.setIfInBounds_toArray, List.set_cons_zero, List.set_cons_succ])
    refine take_at 1 32 (.slice (some ⟨gq, 0, none⟩) N cl) rfl rfl (by kernel_rfl) (by kernel_rfl) (by kernel_rfl) (fun _ _ _ h => h) (Or.inl ⟨by kernel_rfl, fun w' hS' => by have hc := RowAt.cell hS' 2; go_simp⟩) hHeld ?_
    (try simp only [Act.put, List.setIfInBounds_toArray, List.set_cons_zero, List.set_cons_succ])
    refine take_at 2 33 (.int .i64 k) rfl rfl (by kernel_rfl) (by kernel_rfl) (by kernel_rfl) (fun _ _ _ h => h) (Or.inl ⟨by kernel_rfl, fun w' hS' => by go_simp⟩) hHeld ?_
    (try simp only [Act.put, List.setIfInBounds_toArray, List.set_cons_zero, List.set_cons_succ])
    refine take_at 3 34 (.pointer (some ⟨g, 0, none⟩)) rfl rfl (by kernel_rfl) (by kernel_rfl) (by kernel_rfl) (fun _ _ _ h => h) (Or.inl ⟨by kernel_rfl, fun w' hS' => by go_simp⟩) hHeld ?_
    (try simp only [Act.put, List.setIfInBounds_toArray, List.set_cons_zero, List.set_cons_succ])
    have fd : Fr w4.heap.size g w4 w4.drew := (Fr.refl _ _ _).below ((Below.refl _ _).drew)
    have HRd : Hid (Rd B w4.drew g (p + 1 + 1)) := HR4.out.below ((Below.refl _ _).drew) HR4.out.lt
    have HOd : Hid (OwnT w4.drew v.heap.size (.slice (some ⟨gq, 0, none⟩) N cl) rs l) := HO4.out.fr fd (by omega)
    have HZd : Hid (RowAt w4.drew (w.heap.size + 1) #[.int .i64 0, .int .i64 0, .slice none 0 0] 25) := HZ4.out
    have HFd : Hid (Fr w.heap.size g w w4.drew) := HF4.out.trans (fd.mono (by omega))
    have sd : w4.heap.size = w4.drew.heap.size := rfl
    generalize w4.drew = w5 at HTd HRd HOd HZd HFd sd hHeld ⊢
    clear fd HT4 HO4 HZ4 HF4 HR4
    refine wpAnyH_ready (rs := [4]) (by kernel_rfl) (by simp) ?_
    refine AllReadyH.cons rfl (fun K hK => ?_) AllReadyH.nil
    go_simp
    go_at_call 31
    refine (pick_any B g (p + 1 + 1) 6 _ HRd.out (by omega) (by omega) (by omega)).mono ?_
    rintro e w6 ⟨x, rfl, hx0, hx1, hr6, hg6⟩
    have f6 := fr_grown hg6
    have s6 := f6.size
    have HR6 : Hid (Rd B w6 g (p + 1 + 1 + 1)) := hr6
    have HT6 : Hid (RowAt w6 w.heap.size #[.int .i64 R, .int .i64 C, .slice (some ⟨gq, 0, none⟩) N cl] 25) := HTd.out.fr f6 (by omega)
    have HO6 : Hid (OwnT w6 v.heap.size (.slice (some ⟨gq, 0, none⟩) N cl) rs l) := HOd.out.fr f6 (by omega)
    have HZ6 : Hid (RowAt w6 (w.heap.size + 1) #[.int .i64 0, .int .i64 0, .slice none 0 0] 25) := HZd.out.fr f6 (by omega)
    have HF6 : Hid (Fr w.heap.size g w w6) := HFd.out.trans (f6.mono (by omega))
    clear hr6 hg6 f6 HTd HRd HOd HZd HFd hHeld
    go_wp2_with fail
    refine hK.out _ _ HT6.out (fun hHeld => ?_)
    clear hK K
    (try simp only [Act.put, List.setIfInBounds_toArray, List.set_cons_zero, List.set_cons_succ])
    refine take_at 5 36 (.int .i64 (x - 1)) rfl rfl (by kernel_rfl) (by kernel_rfl) (by kernel_rfl) (fun _ _ _ h => h) (Or.inl ⟨by kernel_rfl, fun w' hS' => by go_simp; rw [IntKind.wrap_i64]; omega⟩) hHeld ?_
    (try simp only [Act.put, List.setIfInBounds_toArray, List.set_cons_zero, List.set_cons_succ])
    refine take_at 6 37 (.pointer (some ⟨gq, k * 5, none⟩)) rfl rfl (by kernel_rfl) (by kernel_rfl) (by kernel_rfl) (fun _ _ _ h => h) (Or.inl ⟨by kernel_rfl, fun w' hS' => by go_simp⟩) hHeld ?_
    (try simp only [Act.put, List.setIfInBounds_toArray, List.set_cons_zero, List.set_cons_succ])
    refine take_at 7 38 (.pointer (some ⟨gq, k * 5 + 1, none⟩)) rfl rfl (by kernel_rfl) (by kernel_rfl) (by kernel_rfl) (fun _ _ _ h => h) (Or.inl ⟨by kernel_rfl, fun w' hS' => by go_simp⟩) hHeld ?_
    (try simp only [Act.put, List.setIfInBounds_toArray, List.set_cons_zero, List.set_cons_succ])
    obtain ⟨u4, x4⟩ : ∃ u, w6.cell? ⟨gq, k * 5 + 1, none⟩ = some u := ⟨_, (HO6.out.1.row.cellAt (k * 5 + 1) (by omega)).trans (flat5_get _ k 1 hkr (by omega))⟩
    have fz4 := HO6.out.1.row.frozenAt (k * 5 + 1)
    refine wpAnyH_ready (rs := [8]) (by kernel_rfl) (by simp) ?_
    refine AllReadyH.cons rfl (fun K hK => ?_) AllReadyH.nil
    go_simp
    refine hK.out _ _ (HT6.out.other ⟨gq, k * 5 + 1, none⟩ (.int .i64 (x - 1)) (by show w.heap.size ≠ gq; omega)) (fun _ => ?_)
    clear hK K
    refine wpAnyH_done (by kernel_rfl) ?_ _
    refine NoPanic.normal ?_
    have hq0 := HO6.out.2.2.1 k hkr
    have P := HO6.out.put k 1 hkr (by omega) (.int .i64 (x - 1)) ((rs.getD k rw0).1, x - 1, (rs.getD k rw0).2.2.1, (rs.getD k rw0).2.2.2.1, (rs.getD k rw0).2.2.2.2) ((l.getD k cl0).1, x - 1, (l.getD k cl0).2.2.1, (l.getD k cl0).2.2.2.1, (l.getD k cl0).2.2.2.2) rfl rfl rfl ⟨hq0.1, rfl, hq0.2.2.1, hq0.2.2.2.1⟩
    have HTe : Hid (RowAt (w6.setCell ⟨gq, k * 5 + 1, none⟩ (.int .i64 (x - 1))) w.heap.size #[.int .i64 R, .int .i64 C, .slice (some ⟨gq, 0, none⟩) N cl] 25) := HT6.out.other ⟨gq, k * 5 + 1, none⟩ (.int .i64 (x - 1)) (by show w.heap.size ≠ gq; omega)
    have HOe : Hid (OwnX (w6.setCell ⟨gq, k * 5 + 1, none⟩ (.int .i64 (x - 1))) v.heap.size (.slice (some ⟨gq, 0, none⟩) N cl) (rs.set k ((rs.getD k rw0).1, x - 1, (rs.getD k rw0).2.2.1, (rs.getD k rw0).2.2.2.1, (rs.getD k rw0).2.2.2.2)) (l.set k ((l.getD k cl0).1, x - 1, (l.getD k cl0).2.2.1, (l.getD k cl0).2.2.2.1, (l.getD k cl0).2.2.2.2))) := P.x
    have HZe : Hid (RowAt (w6.setCell ⟨gq, k * 5 + 1, none⟩ (.int .i64 (x - 1))) (w.heap.size + 1) #[.int .i64 0, .int .i64 0, .slice none 0 0] 25) := HZ6.out.other ⟨gq, k * 5 + 1, none⟩ (.int .i64 (x - 1)) (by show w.heap.size + 1 ≠ gq; omega)
    have HRe : Hid (Rd B (w6.setCell ⟨gq, k * 5 + 1, none⟩ (.int .i64 (x - 1))) g (p + 1 + 1 + 1)) := HR6.out.setCell (by show g < gq; omega) _
    have HFe : Hid (Fr w.heap.size g w (w6.setCell ⟨gq, k * 5 + 1, none⟩ (.int .i64 (x - 1)))) := HF6.out.setCell (p := ⟨gq, k * 5 + 1, none⟩) (by show w.heap.size ≤ gq; omega) _
    clear P hq0 x4 fz4 HT6 HO6 HZ6 HF6 HR6 t2
    generalize (w6.setCell ⟨gq, k * 5 + 1, none⟩ (.int .i64 (x - 1))) = w9 at HTe HOe HZe HRe HFe ⊢
    go_wp2_with (first | (refine wpList_load_row rfl 25 (.tmp 3) rfl w.heap.size rfl 25 #[.int .i64 R, .int .i64 C, .slice (some ⟨gq, 0, none⟩) N cl] (0, 0) _ HTe.out Try.underlying25 rfl tab_info ?_) | (refine wpList_store_row rfl 25 (.tmp 4) (.tmp 84) rfl (w.heap.size + 1) #[.int .i64 R, .int .i64 C, .slice (some ⟨gq, 0, none⟩) N cl] rfl rfl 25 _ HZe.out tab_info rfl (cells3_one _ _ _ _ _) ?_))
    have bT : Below (w.heap.size + 1) w9 (w9.setRow (w.heap.size + 1) #[.int .i64 R, .int .i64 C, .slice (some ⟨gq, 0, none⟩) N cl]) := below_row (Below.refl _ _) (Nat.le_refl _) _
    refine bodyPost_ret (v := .agg #[.int .i64 R, .int .i64 C, .slice (some ⟨gq, 0, none⟩) N cl]) (results_cell_row (p := 4) (ty := 25) rfl _ _ (w.heap.size + 1) 25 _ _ _ rfl (RowAt.setRow HZe.out _) Try.underlying25 rfl tab_info) rfl ⟨R, C, (some ⟨gq, 0, none⟩), N, cl, l.set k ((l.getD k cl0).1, x - 1, (l.getD k cl0).2.2.1, (l.getD k cl0).2.2.2.1, (l.getD k cl0).2.2.2.2), p + 1 + 1 + 1, rfl, ⟨_, (HOe.out.setRowT HZe.out _).less (by omega)⟩, HTB.out.set k _ (by show (l.getD k cl0).2.2.2.2.length ≤ 25; have := HLX.out k hkl; omega), HRe.out.below bT (by omega), by omega, HFe.out.below (bT.mono (by omega))⟩
  have m1 : (sw == 1) = false := by simp; omega
  by_cases h2 : sw = 2
  · have n2 : sw = 2 := h2
    subst n2
    go_upto_region 10 with fail
    have fd : Fr w4.heap.size g w4 w4.drew := (Fr.refl _ _ _).below ((Below.refl _ _).drew)
    have HTd : Hid (RowAt w4.drew w.heap.size #[.int .i64 R, .int .i64 C, .slice (some ⟨gq, 0, none⟩) N cl] 25) := HT4.out
    have HRd : Hid (Rd B w4.drew g (p + 1 + 1)) := HR4.out.below ((Below.refl _ _).drew) HR4.out.lt
    have HOd : Hid (OwnT w4.drew v.heap.size (.slice (some ⟨gq, 0, none⟩) N cl) rs l) := HO4.out.fr fd (by omega)
    have HZd : Hid (RowAt w4.drew (w.heap.size + 1) #[.int .i64 0, .int .i64 0, .slice none 0 0] 25) := HZ4.out
    have HFd : Hid (Fr w.heap.size g w w4.drew) := HF4.out.trans (fd.mono (by omega))
    have sd : w4.heap.size = w4.drew.heap.size := rfl
    refine wp_region_noPanic ?_
    refine wp_region_held_drew (S := fun _ => True) (by kernel_rfl) trivial (fun hHeld => ?_)
    refine take_at 0 41 (.pointer (some ⟨w.heap.size, 2, none⟩)) rfl rfl (by kernel_rfl) (by kernel_rfl) (by kernel_rfl) (fun _ _ _ h => h) (Or.inl ⟨by kernel_rfl, fun w' hS' => by go_simp⟩) hHeld ?_
    (try simp only [Act.put, List.setIfInBounds_toArray, List.set_cons_zero, List.set_cons_succ])
    refine take_at 2 43 (.int .i64 k) rfl rfl (by kernel_rfl) (by kernel_rfl) (by kernel_rfl) (fun _ _ _ h => h) (Or.inl ⟨by kernel_rfl, fun w' hS' => by go_simp⟩) hHeld ?_
    (try simp only [Act.put, List.setIfInBounds_toArray, List.set_cons_zero, List.set_cons_succ])
    refine take_at 4 45 (.pointer (some ⟨w.heap.size, 2, none⟩)) rfl rfl (by kernel_rfl) (by kernel_rfl) (by kernel_rfl) (fun _ _ _ h => h) (Or.inl ⟨by kernel_rfl, fun w' hS' => by go_simp⟩) hHeld ?_
    (try simp only [Act.put, List.setIfInBounds_toArray, List.set_cons_zero, List.set_cons_succ])
    refine take_at 6 47 (.int .i64 k) rfl rfl (by kernel_rfl) (by kernel_rfl) (by kernel_rfl) (fun _ _ _ h => h) (Or.inl ⟨by kernel_rfl, fun w' hS' => by go_simp⟩) hHeld ?_
    (try simp only [Act.put, List.setIfInBounds_toArray, List.set_cons_zero, List.set_cons_succ])
    refine take_at 7 48 (.int .i64 ((k + 1 : Nat) : Int)) rfl rfl (by kernel_rfl) (by kernel_rfl) (by kernel_rfl) (fun _ _ _ h => h) (Or.inl ⟨by kernel_rfl, fun w' hS' => by go_simp; rw [IntKind.wrap_i64]; omega⟩) hHeld ?_
    (try simp only [Act.put, List.setIfInBounds_toArray, List.set_cons_zero, List.set_cons_succ])
    generalize w4.drew = w5 at HTd HRd HOd HZd HFd sd hHeld ⊢
    clear fd HT4 HO4 HZ4 HF4 HR4 t2
    have t5 : w5.cell? ⟨w.heap.size, 2, none⟩ = some (.slice (some ⟨gq, 0, none⟩) N cl) := HTd.out.cell 2
    have hTl : w.heap.size < w5.heap.size := HTd.out.lt
    obtain ⟨M, hM⟩ : ∃ M, N - (k + 1) = M := ⟨_, rfl⟩
    have HDL : Hid ((rs.drop (k + 1)).length = M) := by
      show (rs.drop (k + 1)).length = M
      have := HOd.out.1.len
      rw [List.length_drop]
      omega
    have HNL : Hid ((flat5 (rs.drop (k + 1))).length = M * 5) := by
      show (flat5 (rs.drop (k + 1))).length = M * 5
      rw [flat5_length, HDL.out]
    have HNW : Hid (∀ j u, (flat5 (rs.drop (k + 1)))[j]? = some u → w5.cell? ((⟨gq, (k + 1) * 5, none⟩ : Addr).add j) = some u) := fun j u hj => by
      have hlt : j < M * 5 := by
        rw [← HNL.out]
        exact (List.getElem?_eq_some_iff.1 hj).1
      have e : (⟨gq, (k + 1) * 5, none⟩ : Addr).add j = ⟨gq, (k + 1) * 5 + j, none⟩ := by simp [Addr.add]
      rw [e, HOd.out.1.row.cellAt ((k + 1) * 5 + j) (by omega), ← List.getElem?_drop, ← flat5_drop]
      exact hj
    have b1 : ((k + 1 : Nat) : Int) ≤ (N : Int) := by omega
    have b2 : (0 : Int) ≤ ((k + 1 : Nat) : Int) := by omega
    have b3 : (N : Int) ≤ (cl : Int) := by omega
    have b4 : (k : Int) ≤ (cl : Int) := by omega
    have HMM : Hid (N - (k + 1) = M) := hM
    by_cases hMp : 0 < M
    · have hM25 : k + M ≤ 25 := by omega
      have hkN2 : k + 1 < N := by omega
      clear hM
      refine wpAnyH_ready (rs := [1, 5]) (by kernel_rfl) (by simp) ?_
      refine AllReadyH.cons rfl (fun K hK => ?_) (AllReadyH.cons rfl (fun K hK => ?_) AllReadyH.nil)
      · go_simp
        refine hK.out _ _ trivial (fun hHeld => ?_)
        clear hK K
        (try simp only [Act.put, List.setIfInBounds_toArray, List.set_cons_zero, List.set_cons_succ])
        refine take_at 3 44 (.slice (some ⟨gq, 0, none⟩) k cl) rfl rfl (by kernel_rfl) (by kernel_rfl) (by kernel_rfl) (fun _ _ _ h => h) (Or.inl ⟨by kernel_rfl, fun w' hS' => by go_simp⟩) hHeld ?_
        (try simp only [Act.put, List.setIfInBounds_toArray, List.set_cons_zero, List.set_cons_succ])
        refine wpAnyH_ready (rs := [5]) (by kernel_rfl) (by simp) ?_
        refine AllReadyH.cons rfl (fun K hK => ?_) AllReadyH.nil
        go_simp
        refine hK.out _ _ trivial (fun hHeld => ?_)
        clear hK K
        (try simp only [Act.put, List.setIfInBounds_toArray, List.set_cons_zero, List.set_cons_succ])
        refine take_at 8 49 (.slice (some ⟨gq, (k + 1) * 5, none⟩) M (cl - (k + 1))) rfl rfl (by kernel_rfl) (by kernel_rfl) (by kernel_rfl) (fun _ _ _ h => h) (Or.inl ⟨by kernel_rfl, fun w' hS' => by go_simp; rw [if_pos (by omega), if_neg (by omega), HMM.out]⟩) hHeld ?_
        (try simp only [Act.put, List.setIfInBounds_toArray, List.set_cons_zero, List.set_cons_succ])
        clear t5
        refine wpAnyH_ready (rs := [9]) (by kernel_rfl) (by simp) ?_
        refine AllReadyH.cons rfl (fun K hK => ?_) AllReadyH.nil
        refine step_append_liesD _ 50 (by rfl) (by rfl) _ _ _ (by rfl) v.heap.size 42 i0 _ 5 56 Try.underlying23 hi hz0 hz1 hz2 rfl (by omega) (.slice (some ⟨gq, 0, none⟩) k cl) k (flat5 (rs.take k)) (by rfl) (HOd.out.1.first k (by omega)) ⟨gq, (k + 1) * 5, none⟩ M (cl - (k + 1)) (flat5 (rs.drop (k + 1))) (by rfl) HNL.out HNW.out (flat5_one _) hMp (by unfold maxLen; omega) (by omega) (by omega) w5.heap.size rfl ?_
        intro gg cc w6 hown6 hgrow6 hat6 hlt6
        have s6 := hgrow6.size
        have HT6 : Hid (RowAt w6 w.heap.size #[.int .i64 R, .int .i64 C, .slice (some ⟨gq, 0, none⟩) N cl] 25) := RowAt.grown HTd.out hgrow6 (fun e => hgT (by simpa [Value.ownBlock] using e))
        have HZ6 : Hid (RowAt w6 (w.heap.size + 1) #[.int .i64 0, .int .i64 0, .slice none 0 0] 25) := RowAt.grown HZd.out hgrow6 (fun e => by simp [Value.ownBlock] at e; omega)
        have HOR : Hid (OwnR w6 v.heap.size (.slice (some ⟨gg, 0, none⟩) (k + M) cc) (rs.take k ++ rs.drop (k + 1))) := by
          show w6.ownsRow _ _ _ _ _ _
          rw [flat5_append, List.length_append, List.length_take, Nat.min_eq_left (by omega), HDL.out]
          exact hown6
        have HF6 : Hid (Fr w.heap.size g w w6) := HFd.out.grownAt hgrow6 (by omega) (fun b hb => by simp [Value.ownBlock] at hb; omega)
        have HR6 : Hid (Rd B w6 g (p + 1 + 1)) := HRd.out.grownAt hgrow6 (fun b hb => by simp [Value.ownBlock] at hb; omega)
        have HX6 : Hid (OwnX w6 v.heap.size (.slice (some ⟨gg, 0, none⟩) (k + M) cc) (rs.take k ++ rs.drop (k + 1)) (l.take k ++ l.drop (k + 1))) := OwnX.del HOd.out.2.1 (fun j hj => by
          obtain ⟨e0, e1, e2, e3, e4⟩ := HOd.out.2.2.1 j hj
          exact ⟨e0, e1, e2, e3, own_grown e4 hgrow6 (fun b hb => HOd.out.2.2.2.1 j hj b hb)⟩) k hkr HOR.out
        refine hK.out _ _ trivial (fun hHeld => ?_)
        clear hK K hown6 hgrow6 hat6 HTd HZd HOd HFd HRd
        (try simp only [Act.put, List.setIfInBounds_toArray, List.set_cons_zero, List.set_cons_succ])
        refine take_at 10 51 (.pointer (some ⟨w.heap.size, 2, none⟩)) rfl rfl (by kernel_rfl) (by kernel_rfl) (by kernel_rfl) (fun _ _ _ h => h) (Or.inl ⟨by kernel_rfl, fun w' hS' => by go_simp⟩) hHeld ?_
        (try simp only [Act.put, List.setIfInBounds_toArray, List.set_cons_zero, List.set_cons_succ])
        have x2 : w6.cell? ⟨w.heap.size, 2, none⟩ = some (.slice (some ⟨gq, 0, none⟩) N cl) := HT6.out.cell 2
        have fz2 := HT6.out.frozen 2
        refine wpAnyH_ready (rs := [11]) (by kernel_rfl) (by simp) ?_
        refine AllReadyH.cons rfl (fun K hK => ?_) AllReadyH.nil
        go_simp
        refine hK.out _ _ trivial (fun _ => ?_)
        clear hK K
        refine wpAnyH_done (by kernel_rfl) ?_ _
        refine NoPanic.normal ?_
        have HTe : Hid (RowAt (w6.setCell ⟨w.heap.size, 2, none⟩ (.slice (some ⟨gg, 0, none⟩) (k + M) cc)) w.heap.size #[.int .i64 R, .int .i64 C, .slice (some ⟨gg, 0, none⟩) (k + M) cc] 25) := HT6.out.setCell 2 (.slice (some ⟨gg, 0, none⟩) (k + M) cc)
        have HOe : Hid (OwnX (w6.setCell ⟨w.heap.size, 2, none⟩ (.slice (some ⟨gg, 0, none⟩) (k + M) cc)) v.heap.size (.slice (some ⟨gg, 0, none⟩) (k + M) cc) (rs.take k ++ rs.drop (k + 1)) (l.take k ++ l.drop (k + 1))) := HX6.out.setT HT6.out 2 _
        have HZe : Hid (RowAt (w6.setCell ⟨w.heap.size, 2, none⟩ (.slice (some ⟨gg, 0, none⟩) (k + M) cc)) (w.heap.size + 1) #[.int .i64 0, .int .i64 0, .slice none 0 0] 25) := HZ6.out.other ⟨w.heap.size, 2, none⟩ (.slice (some ⟨gg, 0, none⟩) (k + M) cc) (by show w.heap.size + 1 ≠ w.heap.size; omega)
        have HRe : Hid (Rd B (w6.setCell ⟨w.heap.size, 2, none⟩ (.slice (some ⟨gg, 0, none⟩) (k + M) cc)) g (p + 1 + 1)) := HR6.out.setCell (by show g < w.heap.size; omega) _
        have HFe : Hid (Fr w.heap.size g w (w6.setCell ⟨w.heap.size, 2, none⟩ (.slice (some ⟨gg, 0, none⟩) (k + M) cc))) := HF6.out.setCell (p := ⟨w.heap.size, 2, none⟩) (Nat.le_refl _) _
        clear x2 fz2 HT6 HOR HZ6 HF6 HR6 HX6
        generalize (w6.setCell ⟨w.heap.size, 2, none⟩ (.slice (some ⟨gg, 0, none⟩) (k + M) cc)) = w9 at HTe HOe HZe HRe HFe ⊢
        go_wp2_with (first | (refine wpList_load_row rfl 25 (.tmp 3) rfl w.heap.size rfl 25 #[.int .i64 R, .int .i64 C, .slice (some ⟨gg, 0, none⟩) (k + M) cc] (0, 0) _ HTe.out Try.underlying25 rfl tab_info ?_) | (refine wpList_store_row rfl 25 (.tmp 4) (.tmp 84) rfl (w.heap.size + 1) #[.int .i64 R, .int .i64 C, .slice (some ⟨gg, 0, none⟩) (k + M) cc] rfl rfl 25 _ HZe.out tab_info rfl (cells3_one _ _ _ _ _) ?_))
        have bT : Below (w.heap.size + 1) w9 (w9.setRow (w.heap.size + 1) #[.int .i64 R, .int .i64 C, .slice (some ⟨gg, 0, none⟩) (k + M) cc]) := below_row (Below.refl _ _) (Nat.le_refl _) _
        refine bodyPost_ret (v := .agg #[.int .i64 R, .int .i64 C, .slice (some ⟨gg, 0, none⟩) (k + M) cc]) (results_cell_row (p := 4) (ty := 25) rfl _ _ (w.heap.size + 1) 25 _ _ _ rfl (RowAt.setRow HZe.out _) Try.underlying25 rfl tab_info) rfl ⟨R, C, (some ⟨gg, 0, none⟩), (k + M), cc, (l.take k ++ l.drop (k + 1)), p + 1 + 1, rfl, ⟨_, (HOe.out.setRowT HZe.out _).less (by omega)⟩, HTB.out.del k, HRe.out.below bT (by omega), by omega, HFe.out.below (bT.mono (by omega))⟩
      · go_simp
        refine hK.out _ _ trivial (fun hHeld => ?_)
        clear hK K
        (try simp only [Act.put, List.setIfInBounds_toArray, List.set_cons_zero, List.set_cons_succ])
        refine take_at 8 49 (.slice (some ⟨gq, (k + 1) * 5, none⟩) M (cl - (k + 1))) rfl rfl (by kernel_rfl) (by kernel_rfl) (by kernel_rfl) (fun _ _ _ h => h) (Or.inl ⟨by kernel_rfl, fun w' hS' => by go_simp; rw [if_pos (by omega), if_neg (by omega), HMM.out]⟩) hHeld ?_
        (try simp only [Act.put, List.setIfInBounds_toArray, List.set_cons_zero, List.set_cons_succ])
        refine wpAnyH_ready (rs := [1]) (by kernel_rfl) (by simp) ?_
        refine AllReadyH.cons rfl (fun K hK => ?_) AllReadyH.nil
        go_simp
        refine hK.out _ _ trivial (fun hHeld => ?_)
        clear hK K
        (try simp only [Act.put, List.setIfInBounds_toArray, List.set_cons_zero, List.set_cons_succ])
        refine take_at 3 44 (.slice (some ⟨gq, 0, none⟩) k cl) rfl rfl (by kernel_rfl) (by kernel_rfl) (by kernel_rfl) (fun _ _ _ h => h) (Or.inl ⟨by kernel_rfl, fun w' hS' => by go_simp⟩) hHeld ?_
        (try simp only [Act.put, List.setIfInBounds_toArray, List.set_cons_zero, List.set_cons_succ])
        clear t5
        refine wpAnyH_ready (rs := [9]) (by kernel_rfl) (by simp) ?_
        refine AllReadyH.cons rfl (fun K hK => ?_) AllReadyH.nil
        refine step_append_liesD _ 50 (by rfl) (by rfl) _ _ _ (by rfl) v.heap.size 42 i0 _ 5 56 Try.underlying23 hi hz0 hz1 hz2 rfl (by omega) (.slice (some ⟨gq, 0, none⟩) k cl) k (flat5 (rs.take k)) (by rfl) (HOd.out.1.first k (by omega)) ⟨gq, (k + 1) * 5, none⟩ M (cl - (k + 1)) (flat5 (rs.drop (k + 1))) (by rfl) HNL.out HNW.out (flat5_one _) hMp (by unfold maxLen; omega) (by omega) (by omega) w5.heap.size rfl ?_
        intro gg cc w6 hown6 hgrow6 hat6 hlt6
        have s6 := hgrow6.size
        have HT6 : Hid (RowAt w6 w.heap.size #[.int .i64 R, .int .i64 C, .slice (some ⟨gq, 0, none⟩) N cl] 25) := RowAt.grown HTd.out hgrow6 (fun e => hgT (by simpa [Value.ownBlock] using e))
        have HZ6 : Hid (RowAt w6 (w.heap.size + 1) #[.int .i64 0, .int .i64 0, .slice none 0 0] 25) := RowAt.grown HZd.out hgrow6 (fun e => by simp [Value.ownBlock] at e; omega)
        have HOR : Hid (OwnR w6 v.heap.size (.slice (some ⟨gg, 0, none⟩) (k + M) cc) (rs.take k ++ rs.drop (k + 1))) := by
          show w6.ownsRow _ _ _ _ _ _
          rw [flat5_append, List.length_append, List.length_take, Nat.min_eq_left (by omega), HDL.out]
          exact hown6
        have HF6 : Hid (Fr w.heap.size g w w6) := HFd.out.grownAt hgrow6 (by omega) (fun b hb => by simp [Value.ownBlock] at hb; omega)
        have HR6 : Hid (Rd B w6 g (p + 1 + 1)) := HRd.out.grownAt hgrow6 (fun b hb => by simp [Value.ownBlock] at hb; omega)
        have HX6 : Hid (OwnX w6 v.heap.size (.slice (some ⟨gg, 0, none⟩) (k + M) cc) (rs.take k ++ rs.drop (k + 1)) (l.take k ++ l.drop (k + 1))) := OwnX.del HOd.out.2.1 (fun j hj => by
          obtain ⟨e0, e1, e2, e3, e4⟩ := HOd.out.2.2.1 j hj
          exact ⟨e0, e1, e2, e3, own_grown e4 hgrow6 (fun b hb => HOd.out.2.2.2.1 j hj b hb)⟩) k hkr HOR.out
        refine hK.out _ _ trivial (fun hHeld => ?_)
        clear hK K hown6 hgrow6 hat6 HTd HZd HOd HFd HRd
        (try simp only [Act.put, List.setIfInBounds_toArray, List.set_cons_zero, List.set_cons_succ])
        refine take_at 10 51 (.pointer (some ⟨w.heap.size, 2, none⟩)) rfl rfl (by kernel_rfl) (by kernel_rfl) (by kernel_rfl) (fun _ _ _ h => h) (Or.inl ⟨by kernel_rfl, fun w' hS' => by go_simp⟩) hHeld ?_
        (try simp only [Act.put, List.setIfInBounds_toArray, List.set_cons_zero, List.set_cons_succ])
        have x2 : w6.cell? ⟨w.heap.size, 2, none⟩ = some (.slice (some ⟨gq, 0, none⟩) N cl) := HT6.out.cell 2
        have fz2 := HT6.out.frozen 2
        refine wpAnyH_ready (rs := [11]) (by kernel_rfl) (by simp) ?_
        refine AllReadyH.cons rfl (fun K hK => ?_) AllReadyH.nil
        go_simp
        refine hK.out _ _ trivial (fun _ => ?_)
        clear hK K
        refine wpAnyH_done (by kernel_rfl) ?_ _
        refine NoPanic.normal ?_
        have HTe : Hid (RowAt (w6.setCell ⟨w.heap.size, 2, none⟩ (.slice (some ⟨gg, 0, none⟩) (k + M) cc)) w.heap.size #[.int .i64 R, .int .i64 C, .slice (some ⟨gg, 0, none⟩) (k + M) cc] 25) := HT6.out.setCell 2 (.slice (some ⟨gg, 0, none⟩) (k + M) cc)
        have HOe : Hid (OwnX (w6.setCell ⟨w.heap.size, 2, none⟩ (.slice (some ⟨gg, 0, none⟩) (k + M) cc)) v.heap.size (.slice (some ⟨gg, 0, none⟩) (k + M) cc) (rs.take k ++ rs.drop (k + 1)) (l.take k ++ l.drop (k + 1))) := HX6.out.setT HT6.out 2 _
        have HZe : Hid (RowAt (w6.setCell ⟨w.heap.size, 2, none⟩ (.slice (some ⟨gg, 0, none⟩) (k + M) cc)) (w.heap.size + 1) #[.int .i64 0, .int .i64 0, .slice none 0 0] 25) := HZ6.out.other ⟨w.heap.size, 2, none⟩ (.slice (some ⟨gg, 0, none⟩) (k + M) cc) (by show w.heap.size + 1 ≠ w.heap.size; omega)
        have HRe : Hid (Rd B (w6.setCell ⟨w.heap.size, 2, none⟩ (.slice (some ⟨gg, 0, none⟩) (k + M) cc)) g (p + 1 + 1)) := HR6.out.setCell (by show g < w.heap.size; omega) _
        have HFe : Hid (Fr w.heap.size g w (w6.setCell ⟨w.heap.size, 2, none⟩ (.slice (some ⟨gg, 0, none⟩) (k + M) cc))) := HF6.out.setCell (p := ⟨w.heap.size, 2, none⟩) (Nat.le_refl _) _
        clear x2 fz2 HT6 HOR HZ6 HF6 HR6 HX6
        generalize (w6.setCell ⟨w.heap.size, 2, none⟩ (.slice (some ⟨gg, 0, none⟩) (k + M) cc)) = w9 at HTe HOe HZe HRe HFe ⊢
        go_wp2_with (first | (refine wpList_load_row rfl 25 (.tmp 3) rfl w.heap.size rfl 25 #[.int .i64 R, .int .i64 C, .slice (some ⟨gg, 0, none⟩) (k + M) cc] (0, 0) _ HTe.out Try.underlying25 rfl tab_info ?_) | (refine wpList_store_row rfl 25 (.tmp 4) (.tmp 84) rfl (w.heap.size + 1) #[.int .i64 R, .int .i64 C, .slice (some ⟨gg, 0, none⟩) (k + M) cc] rfl rfl 25 _ HZe.out tab_info rfl (cells3_one _ _ _ _ _) ?_))
        have bT : Below (w.heap.size + 1) w9 (w9.setRow (w.heap.size + 1) #[.int .i64 R, .int .i64 C, .slice (some ⟨gg, 0, none⟩) (k + M) cc]) := below_row (Below.refl _ _) (Nat.le_refl _) _
        refine bodyPost_ret (v := .agg #[.int .i64 R, .int .i64 C, .slice (some ⟨gg, 0, none⟩) (k + M) cc]) (results_cell_row (p := 4) (ty := 25) rfl _ _ (w.heap.size + 1) 25 _ _ _ rfl (RowAt.setRow HZe.out _) Try.underlying25 rfl tab_info) rfl ⟨R, C, (some ⟨gg, 0, none⟩), (k + M), cc, (l.take k ++ l.drop (k + 1)), p + 1 + 1, rfl, ⟨_, (HOe.out.setRowT HZe.out _).less (by omega)⟩, HTB.out.del k, HRe.out.below bT (by omega), by omega, HFe.out.below (bT.mono (by omega))⟩
    have hM0 : M = 0 := by omega
    subst hM0
    clear hM
    obtain ⟨ax, HAX⟩ : ∃ ax, Hid ((if cl = k + 1 then some (⟨gq, 0, none⟩ : Addr) else some ⟨gq, (k + 1) * 5, none⟩) = ax) := ⟨_, rfl⟩
    obtain ⟨cx, HCX⟩ : ∃ cx, Hid (cl - (k + 1) = cx) := ⟨_, rfl⟩
    refine wpAnyH_ready (rs := [1, 5]) (by kernel_rfl) (by simp) ?_
    refine AllReadyH.cons rfl (fun K hK => ?_) (AllReadyH.cons rfl (fun K hK => ?_) AllReadyH.nil)
    · go_simp
      refine hK.out _ _ trivial (fun hHeld => ?_)
      clear hK K
      (try simp only [Act.put, List.setIfInBounds_toArray, List.set_cons_zero, List.set_cons_succ])
      refine take_at 3 44 (.slice (some ⟨gq, 0, none⟩) k cl) rfl rfl (by kernel_rfl) (by kernel_rfl) (by kernel_rfl) (fun _ _ _ h => h) (Or.inl ⟨by kernel_rfl, fun w' hS' => by go_simp⟩) hHeld ?_
      (try simp only [Act.put, List.setIfInBounds_toArray, List.set_cons_zero, List.set_cons_succ])
      refine wpAnyH_ready (rs := [5]) (by kernel_rfl) (by simp) ?_
      refine AllReadyH.cons rfl (fun K hK => ?_) AllReadyH.nil
      go_simp
      refine hK.out _ _ trivial (fun hHeld => ?_)
      clear hK K
      (try simp only [Act.put, List.setIfInBounds_toArray, List.set_cons_zero, List.set_cons_succ])
      refine take_at 8 49 (.slice ax 0 cx) rfl rfl (by kernel_rfl) (by kernel_rfl) (by kernel_rfl) (fun _ _ _ h => h) (Or.inl ⟨by kernel_rfl, fun w' hS' => by go_simp; rw [if_pos (by omega), HAX.out, HCX.out, HMM.out]⟩) hHeld ?_
      (try simp only [Act.put, List.setIfInBounds_toArray, List.set_cons_zero, List.set_cons_succ])
      clear t5
      refine wpAnyH_ready (rs := [9]) (by kernel_rfl) (by simp) ?_
      refine AllReadyH.cons rfl (fun K hK => ?_) AllReadyH.nil
      refine step_append_empty (by rfl) _ _ _ (by rfl) v.heap.size 42 i0 5 Try.underlying23 hi (.slice (some ⟨gq, 0, none⟩) k cl) k (flat5 (rs.take k)) (by rfl) (HOd.out.1.first k (by omega)) _ _ (by rfl) 50 (by rfl) ?_
      have s6 : w5.heap.size ≤ w5.heap.size := Nat.le_refl _
      have HT6 := HTd
      have HZ6 := HZd
      have HOR : Hid (OwnR w5 v.heap.size (.slice (some ⟨gq, 0, none⟩) k cl) (rs.take k ++ rs.drop (k + 1))) := by
        show w5.ownsRow _ _ _ _ _ _
        have e0 : rs.drop (k + 1) = [] := List.eq_nil_of_length_eq_zero HDL.out
        rw [e0, List.append_nil, List.length_take, Nat.min_eq_left (by omega)]
        exact HOd.out.1.first k (by omega)
      have HF6 := HFd
      have HR6 := HRd
      have HX6 : Hid (OwnX w5 v.heap.size (.slice (some ⟨gq, 0, none⟩) k cl) (rs.take k ++ rs.drop (k + 1)) (l.take k ++ l.drop (k + 1))) := OwnX.del HOd.out.2.1 HOd.out.2.2.1 k hkr HOR.out
      refine hK.out _ _ trivial (fun hHeld => ?_)
      clear hK K HTd HZd HOd HFd HRd
      (try simp only [Act.put, List.setIfInBounds_toArray, List.set_cons_zero, List.set_cons_succ])
      refine take_at 10 51 (.pointer (some ⟨w.heap.size, 2, none⟩)) rfl rfl (by kernel_rfl) (by kernel_rfl) (by kernel_rfl) (fun _ _ _ h => h) (Or.inl ⟨by kernel_rfl, fun w' hS' => by go_simp⟩) hHeld ?_
      (try simp only [Act.put, List.setIfInBounds_toArray, List.set_cons_zero, List.set_cons_succ])
      have x2 : w5.cell? ⟨w.heap.size, 2, none⟩ = some (.slice (some ⟨gq, 0, none⟩) N cl) := HT6.out.cell 2
      have fz2 := HT6.out.frozen 2
      refine wpAnyH_ready (rs := [11]) (by kernel_rfl) (by simp) ?_
      refine AllReadyH.cons rfl (fun K hK => ?_) AllReadyH.nil
      go_simp
      refine hK.out _ _ trivial (fun _ => ?_)
      clear hK K
      refine wpAnyH_done (by kernel_rfl) ?_ _
      refine NoPanic.normal ?_
      have HTe : Hid (RowAt (w5.setCell ⟨w.heap.size, 2, none⟩ (.slice (some ⟨gq, 0, none⟩) k cl)) w.heap.size #[.int .i64 R, .int .i64 C, .slice (some ⟨gq, 0, none⟩) k cl] 25) := HT6.out.setCell 2 (.slice (some ⟨gq, 0, none⟩) k cl)
      have HOe : Hid (OwnX (w5.setCell ⟨w.heap.size, 2, none⟩ (.slice (some ⟨gq, 0, none⟩) k cl)) v.heap.size (.slice (some ⟨gq, 0, none⟩) k cl) (rs.take k ++ rs.drop (k + 1)) (l.take k ++ l.drop (k + 1))) := HX6.out.setT HT6.out 2 _
      have HZe : Hid (RowAt (w5.setCell ⟨w.heap.size, 2, none⟩ (.slice (some ⟨gq, 0, none⟩) k cl)) (w.heap.size + 1) #[.int .i64 0, .int .i64 0, .slice none 0 0] 25) := HZ6.out.other ⟨w.heap.size, 2, none⟩ (.slice (some ⟨gq, 0, none⟩) k cl) (by show w.heap.size + 1 ≠ w.heap.size; omega)
      have HRe : Hid (Rd B (w5.setCell ⟨w.heap.size, 2, none⟩ (.slice (some ⟨gq, 0, none⟩) k cl)) g (p + 1 + 1)) := HR6.out.setCell (by show g < w.heap.size; omega) _
      have HFe : Hid (Fr w.heap.size g w (w5.setCell ⟨w.heap.size, 2, none⟩ (.slice (some ⟨gq, 0, none⟩) k cl))) := HF6.out.setCell (p := ⟨w.heap.size, 2, none⟩) (Nat.le_refl _) _
      clear x2 fz2 HT6 HOR HZ6 HF6 HR6 HX6
      generalize (w5.setCell ⟨w.heap.size, 2, none⟩ (.slice (some ⟨gq, 0, none⟩) k cl)) = w9 at HTe HOe HZe HRe HFe ⊢
      go_wp2_with (first | (refine wpList_load_row rfl 25 (.tmp 3) rfl w.heap.size rfl 25 #[.int .i64 R, .int .i64 C, .slice (some ⟨gq, 0, none⟩) k cl] (0, 0) _ HTe.out Try.underlying25 rfl tab_info ?_) | (refine wpList_store_row rfl 25 (.tmp 4) (.tmp 84) rfl (w.heap.size + 1) #[.int .i64 R, .int .i64 C, .slice (some ⟨gq, 0, none⟩) k cl] rfl rfl 25 _ HZe.out tab_info rfl (cells3_one _ _ _ _ _) ?_))
      have bT : Below (w.heap.size + 1) w9 (w9.setRow (w.heap.size + 1) #[.int .i64 R, .int .i64 C, .slice (some ⟨gq, 0, none⟩) k cl]) := below_row (Below.refl _ _) (Nat.le_refl _) _
      refine bodyPost_ret (v := .agg #[.int .i64 R, .int .i64 C, .slice (some ⟨gq, 0, none⟩) k cl]) (results_cell_row (p := 4) (ty := 25) rfl _ _ (w.heap.size + 1) 25 _ _ _ rfl (RowAt.setRow HZe.out _) Try.underlying25 rfl tab_info) rfl ⟨R, C, (some ⟨gq, 0, none⟩), k, cl, (l.take k ++ l.drop (k + 1)), p + 1 + 1, rfl, ⟨_, (HOe.out.setRowT HZe.out _).less (by omega)⟩, HTB.out.del k, HRe.out.below bT (by omega), by omega, HFe.out.below (bT.mono (by omega))⟩
    · go_simp
      refine hK.out _ _ trivial (fun hHeld => ?_)
      clear hK K
      (try simp only [Act.put, List.setIfInBounds_toArray, List.set_cons_zero, List.set_cons_succ])
      refine take_at 8 49 (.slice ax 0 cx) rfl rfl (by kernel_rfl) (by kernel_rfl) (by kernel_rfl) (fun _ _ _ h => h) (Or.inl ⟨by kernel_rfl, fun w' hS' => by go_simp; rw [if_pos (by omega), HAX.out, HCX.out, HMM.out]⟩) hHeld ?_
      (try simp only [Act.put, List.setIfInBounds_toArray, List.set_cons_zero, List.set_cons_succ])
      refine wpAnyH_ready (rs := [1]) (by kernel_rfl) (by simp) ?_
      refine AllReadyH.cons rfl (fun K hK => ?_) AllReadyH.nil
      go_simp
      refine hK.out _ _ trivial (fun hHeld => ?_)
      clear hK K
      (try simp only [Act.put, List.setIfInBounds_toArray, List.set_cons_zero, List.set_cons_succ])
      refine take_at 3 44 (.slice (some ⟨gq, 0, none⟩) k cl) rfl rfl (by kernel_rfl) (by kernel_rfl) (by kernel_rfl) (fun _ _ _ h => h) (Or.inl ⟨by kernel_rfl, fun w' hS' => by go_simp⟩) hHeld ?_
      (try simp only [Act.put, List.setIfInBounds_toArray, List.set_cons_zero, List.set_cons_succ])
      clear t5
      refine wpAnyH_ready (rs := [9]) (by kernel_rfl) (by simp) ?_
      refine AllReadyH.cons rfl (fun K hK => ?_) AllReadyH.nil
      refine step_append_empty (by rfl) _ _ _ (by rfl) v.heap.size 42 i0 5 Try.underlying23 hi (.slice (some ⟨gq, 0, none⟩) k cl) k (flat5 (rs.take k)) (by rfl) (HOd.out.1.first k (by omega)) _ _ (by rfl) 50 (by rfl) ?_
      have s6 : w5.heap.size ≤ w5.heap.size := Nat.le_refl _
      have HT6 := HTd
      have HZ6 := HZd
      have HOR : Hid (OwnR w5 v.heap.size (.slice (some ⟨gq, 0, none⟩) k cl) (rs.take k ++ rs.drop (k + 1))) := by
        show w5.ownsRow _ _ _ _ _ _
        have e0 : rs.drop (k + 1) = [] := List.eq_nil_of_length_eq_zero HDL.out
        rw [e0, List.append_nil, List.length_take, Nat.min_eq_left (by omega)]
        exact HOd.out.1.first k (by omega)
      have HF6 := HFd
      have HR6 := HRd
      have HX6 : Hid (OwnX w5 v.heap.size (.slice (some ⟨gq, 0, none⟩) k cl) (rs.take k ++ rs.drop (k + 1)) (l.take k ++ l.drop (k + 1))) := OwnX.del HOd.out.2.1 HOd.out.2.2.1 k hkr HOR.out
      refine hK.out _ _ trivial (fun hHeld => ?_)
      clear hK K HTd HZd HOd HFd HRd
      (try simp only [Act.put, List.setIfInBounds_toArray, List.set_cons_zero, List.set_cons_succ])
      refine take_at 10 51 (.pointer (some ⟨w.heap.size, 2, none⟩)) rfl rfl (by kernel_rfl) (by kernel_rfl) (by kernel_rfl) (fun _ _ _ h => h) (Or.inl ⟨by kernel_rfl, fun w' hS' => by go_simp⟩) hHeld ?_
      (try simp only [Act.put, List.setIfInBounds_toArray, List.set_cons_zero, List.set_cons_succ])
      have x2 : w5.cell? ⟨w.heap.size, 2, none⟩ = some (.slice (some ⟨gq, 0, none⟩) N cl) := HT6.out.cell 2
      have fz2 := HT6.out.frozen 2
      refine wpAnyH_ready (rs := [11]) (by kernel_rfl) (by simp) ?_
      refine AllReadyH.cons rfl (fun K hK => ?_) AllReadyH.nil
      go_simp
      refine hK.out _ _ trivial (fun _ => ?_)
      clear hK K
      refine wpAnyH_done (by kernel_rfl) ?_ _
      refine NoPanic.normal ?_
      have HTe : Hid (RowAt (w5.setCell ⟨w.heap.size, 2, none⟩ (.slice (some ⟨gq, 0, none⟩) k cl)) w.heap.size #[.int .i64 R, .int .i64 C, .slice (some ⟨gq, 0, none⟩) k cl] 25) := HT6.out.setCell 2 (.slice (some ⟨gq, 0, none⟩) k cl)
      have HOe : Hid (OwnX (w5.setCell ⟨w.heap.size, 2, none⟩ (.slice (some ⟨gq, 0, none⟩) k cl)) v.heap.size (.slice (some ⟨gq, 0, none⟩) k cl) (rs.take k ++ rs.drop (k + 1)) (l.take k ++ l.drop (k + 1))) := HX6.out.setT HT6.out 2 _
      have HZe : Hid (RowAt (w5.setCell ⟨w.heap.size, 2, none⟩ (.slice (some ⟨gq, 0, none⟩) k cl)) (w.heap.size + 1) #[.int .i64 0, .int .i64 0, .slice none 0 0] 25) := HZ6.out.other ⟨w.heap.size, 2, none⟩ (.slice (some ⟨gq, 0, none⟩) k cl) (by show w.heap.size + 1 ≠ w.heap.size; omega)
      have HRe : Hid (Rd B (w5.setCell ⟨w.heap.size, 2, none⟩ (.slice (some ⟨gq, 0, none⟩) k cl)) g (p + 1 + 1)) := HR6.out.setCell (by show g < w.heap.size; omega) _
      have HFe : Hid (Fr w.heap.size g w (w5.setCell ⟨w.heap.size, 2, none⟩ (.slice (some ⟨gq, 0, none⟩) k cl))) := HF6.out.setCell (p := ⟨w.heap.size, 2, none⟩) (Nat.le_refl _) _
      clear x2 fz2 HT6 HOR HZ6 HF6 HR6 HX6
      generalize (w5.setCell ⟨w.heap.size, 2, none⟩ (.slice (some ⟨gq, 0, none⟩) k cl)) = w9 at HTe HOe HZe HRe HFe ⊢
      go_wp2_with (first | (refine wpList_load_row rfl 25 (.tmp 3) rfl w.heap.size rfl 25 #[.int .i64 R, .int .i64 C, .slice (some ⟨gq, 0, none⟩) k cl] (0, 0) _ HTe.out Try.underlying25 rfl tab_info ?_) | (refine wpList_store_row rfl 25 (.tmp 4) (.tmp 84) rfl (w.heap.size + 1) #[.int .i64 R, .int .i64 C, .slice (some ⟨gq, 0, none⟩) k cl] rfl rfl 25 _ HZe.out tab_info rfl (cells3_one _ _ _ _ _) ?_))
      have bT : Below (w.heap.size + 1) w9 (w9.setRow (w.heap.size + 1) #[.int .i64 R, .int .i64 C, .slice (some ⟨gq, 0, none⟩) k cl]) := below_row (Below.refl _ _) (Nat.le_refl _) _
      refine bodyPost_ret (v := .agg #[.int .i64 R, .int .i64 C, .slice (some ⟨gq, 0, none⟩) k cl]) (results_cell_row (p := 4) (ty := 25) rfl _ _ (w.heap.size + 1) 25 _ _ _ rfl (RowAt.setRow HZe.out _) Try.underlying25 rfl tab_info) rfl ⟨R, C, (some ⟨gq, 0, none⟩), k, cl, (l.take k ++ l.drop (k + 1)), p + 1 + 1, rfl, ⟨_, (HOe.out.setRowT HZe.out _).less (by omega)⟩, HTB.out.del k, HRe.out.below bT (by omega), by omega, HFe.out.below (bT.mono (by omega))⟩
  have m2 : (sw == 2) = false := by simp; omega
  by_cases h3 : sw = 3
  · have n3 : sw = 3 := h3
    subst n3
    obtain ⟨⟨yr, yc, yd, yg, xa, xn, xq⟩, hx⟩ : ∃ x, x = rs.getD 0 rw0 := ⟨_, rfl⟩
    have HXr : Hid (rs.getD 0 rw0 = (yr, yc, yd, yg, xa, xn, xq)) := hx.symm
    have HSP : Hid (TabSp R C (l ++ [l.getD 0 cl0])) := ⟨HTB.out.1, HTB.out.2.1, by have := HNN.out; simp; omega, fun x hx => by
      rcases List.mem_append.1 hx with q | q
      · exact HTB.out.2.2.2 x q
      · rw [List.mem_singleton] at q
        rw [q]
        have := HLX.out 0 (by omega)
        omega⟩
    clear hx
    go_upto_region 12 with fail
    have fd : Fr w4.heap.size g w4 w4.drew := (Fr.refl _ _ _).below ((Below.refl _ _).drew)
    have HTd : Hid (RowAt w4.drew w.heap.size #[.int .i64 R, .int .i64 C, .slice (some ⟨gq, 0, none⟩) N cl] 25) := HT4.out
    have HRd : Hid (Rd B w4.drew g (p + 1 + 1)) := HR4.out.below ((Below.refl _ _).drew) HR4.out.lt
    have HOd : Hid (OwnT w4.drew v.heap.size (.slice (some ⟨gq, 0, none⟩) N cl) rs l) := HO4.out.fr fd (by omega)
    have HZd : Hid (RowAt w4.drew (w.heap.size + 1) #[.int .i64 0, .int .i64 0, .slice none 0 0] 25) := HZ4.out
    have HFd : Hid (Fr w.heap.size g w w4.drew) := HF4.out.trans (fd.mono (by omega))
    have sd : w4.heap.size = w4.drew.heap.size := rfl
    refine wp_region_noPanic ?_
    refine wp_region_held_drew (S := fun _ => True) (by kernel_rfl) trivial (fun hHeld => ?_)
    refine take_at 0 54 (.pointer (some ⟨w.heap.size, 2, none⟩)) rfl rfl (by kernel_rfl) (by kernel_rfl) (by kernel_rfl) (fun _ _ _ h => h) (Or.inl ⟨by kernel_rfl, fun w' hS' => by go_simp⟩) hHeld ?_
    (try simp only [Act.put, List.setIfInBounds_toArray, List.set_cons_zero, List.set_cons_succ])
    refine take_at 2 56 (.pointer (some ⟨w.heap.size, 2, none⟩)) rfl rfl (by kernel_rfl) (by kernel_rfl) (by kernel_rfl) (fun _ _ _ h => h) (Or.inl ⟨by kernel_rfl, fun w' hS' => by go_simp⟩) hHeld ?_
    (try simp only [Act.put, List.setIfInBounds_toArray, List.set_cons_zero, List.set_cons_succ])
    generalize w4.drew = w5 at HTd HRd HOd HZd HFd sd hHeld ⊢
    clear fd HT4 HO4 HZ4 HF4 HR4 t2
    have t5 : w5.cell? ⟨w.heap.size, 2, none⟩ = some (.slice (some ⟨gq, 0, none⟩) N cl) := HTd.out.cell 2
    have cell : ∀ j, j < 5 → w5.cell? ⟨gq, 0 * 5 + j, none⟩ = (rwCells (yr, yc, yd, yg, xa, xn, xq))[j]? := fun j hj => by
      rw [HOd.out.1.row.cellAt (0 * 5 + j) (by omega), flat5_get _ 0 j (by omega) hj, HXr.out]
    have x0 : w5.cell? ⟨gq, 0, none⟩ = some (.int .i64 yr) := cell 0 (by omega)
    have x1 : w5.cell? ⟨gq, 1, none⟩ = some (.int .i64 yc) := cell 1 (by omega)
    have x2 : w5.cell? ⟨gq, 2, none⟩ = some (.int .i64 yd) := cell 2 (by omega)
    have x3 : w5.cell? ⟨gq, 3, none⟩ = some (.int .i64 yg) := cell 3 (by omega)
    have x4 : w5.cell? ⟨gq, 4, none⟩ = some (.slice xa xn xq) := cell 4 (by omega)
    have hTl : w.heap.size < w5.heap.size := HTd.out.lt
    clear cell
    refine wpAnyH_ready (rs := [1, 3]) (by kernel_rfl) (by simp) ?_
    refine AllReadyH.cons rfl (fun K hK => ?_) (AllReadyH.cons rfl (fun K hK => ?_) AllReadyH.nil)
    · go_simp
      refine hK.out _ _ trivial (fun hHeld => ?_)
      clear hK K
      (try simp only [Act.put, List.setIfInBounds_toArray, List.set_cons_zero, List.set_cons_succ])
      refine wpAnyH_ready (rs := [3]) (by kernel_rfl) (by simp) ?_
      refine AllReadyH.cons rfl (fun K hK => ?_) AllReadyH.nil
      go_simp
      refine hK.out _ _ trivial (fun hHeld => ?_)
      clear hK K
      (try simp only [Act.put, List.setIfInBounds_toArray, List.set_cons_zero, List.set_cons_succ])
      refine take_at 4 58 (.pointer (some ⟨gq, 0, none⟩)) rfl rfl (by kernel_rfl) (by kernel_rfl) (by kernel_rfl) (fun _ _ _ h => h) (Or.inl ⟨by kernel_rfl, fun w' hS' => by go_simp; intro hN0; omega⟩) hHeld ?_
      (try simp only [Act.put, List.setIfInBounds_toArray, List.set_cons_zero, List.set_cons_succ])
      refine wpAnyH_ready (rs := [5]) (by kernel_rfl) (by simp) ?_
      refine AllReadyH.cons rfl (fun K hK => ?_) AllReadyH.nil
      go_simp
      refine hK.out _ _ trivial (fun hHeld => ?_)
      clear hK K
      (try simp only [Act.put, List.setIfInBounds_toArray, List.set_cons_zero, List.set_cons_succ])
      refine wpAnyH_ready (rs := [6]) (by kernel_rfl) (by simp) ?_
      refine AllReadyH.cons rfl (fun K hK => ?_) AllReadyH.nil
      go_simp
      refine hK.out _ _ trivial (fun hHeld => ?_)
      clear hK K
      (try simp only [Act.put, List.setIfInBounds_toArray, List.set_cons_zero, List.set_cons_succ])
      clear x0 x1 x2 x3 x4 t5
      refine wpAnyH_ready (rs := [7]) (by kernel_rfl) (by simp) ?_
      refine AllReadyH.cons rfl (fun K hK => ?_) AllReadyH.nil
      refine step_append_liesD _ 61 (by rfl) (by rfl) _ _ _ (by rfl) v.heap.size 42 i0 _ 5 56 Try.underlying23 hi hz0 hz1 hz2 rfl (by omega) (.slice (some ⟨gq, 0, none⟩) N cl) N (flat5 rs) (by rfl) (HOd.out.1.row.alloc _) ⟨w5.heap.size, 0, none⟩ 1 1 [.int .i64 yr, .int .i64 yc, .int .i64 yd, .int .i64 yg, .slice xa xn xq] (by rfl) (by rfl) (cell_five_new _ _ _ _ _ _ _) (five_oneCell _ _ _ _ _ _ _) (by omega) (by unfold maxLen; omega) (by omega) (by simp; omega) (w5.heap.size + 1) (by simp) ?_
      intro gg cc w6 hown6 hgrow6 hat6 hlt6
      have s6 := hgrow6.size
      simp at s6
      have HT6 : Hid (RowAt w6 w.heap.size #[.int .i64 R, .int .i64 C, .slice (some ⟨gq, 0, none⟩) N cl] 25) := RowAt.grown (HTd.out.alloc _) hgrow6 (rowAt_ne HTd.out HOd.out.1.row (by decide))
      have HZ6 : Hid (RowAt w6 (w.heap.size + 1) #[.int .i64 0, .int .i64 0, .slice none 0 0] 25) := RowAt.grown (HZd.out.alloc _) hgrow6 (rowAt_ne HZd.out HOd.out.1.row (by decide))
      have HOR : Hid (OwnR w6 v.heap.size (.slice (some ⟨gg, 0, none⟩) (N + 1) cc) (rs ++ [(yr, yc, yd, yg, xa, xn, xq)])) := OwnR.snoc hown6 (by have := HOd.out.1.len; omega) rfl
      have HF6 : Hid (Fr w.heap.size g w w6) := (HFd.out.alloc (by omega) _).grownAt hgrow6 (by simp; omega) (fun b hb => by have := (own_lt HOd.out.1.row hb).1; omega)
      have HR6 : Hid (Rd B w6 g (p + 1 + 1)) := (HRd.out.alloc _).grownAt hgrow6 (fun b hb => by have := (own_lt HOd.out.1.row hb).1; omega)
      have HX6 : Hid (OwnX w6 v.heap.size (.slice (some ⟨gg, 0, none⟩) (N + 1) cc) (rs ++ [(yr, yc, yd, yg, xa, xn, xq)]) (l ++ [l.getD 0 cl0])) := by
        have hq : ∀ j, j < rs.length → RwOwn w6 v.heap.size (rs.getD j rw0) (l.getD j cl0) := fun j hj => by
          obtain ⟨e0, e1, e2, e3, e4⟩ := HOd.out.2.2.1 j hj
          exact ⟨e0, e1, e2, e3, own_grown (Own.alloc e4 _) hgrow6 (fun b hb => HOd.out.2.2.2.1 j hj b hb)⟩
        refine ⟨HOR.out, by simp [HOd.out.2.1], fun j hj => ?_⟩
        by_cases hlt : j < rs.length
        · rw [getD_snoc_lt _ _ _ _ hlt, getD_snoc_lt _ _ _ _ (by have := HOd.out.2.1; omega)]
          exact hq j hlt
        · have ej : j = rs.length := by simp at hj; omega
          rw [getD_snoc_eq _ _ _ _ ej, getD_snoc_eq _ _ _ _ (by have := HOd.out.2.1; omega), ← HXr.out]
          exact hq 0 (by omega)
      refine hK.out _ _ trivial (fun hHeld => ?_)
      clear hK K hown6 hgrow6 hat6 HTd HZd HOd HFd HRd
      (try simp only [Act.put, List.setIfInBounds_toArray, List.set_cons_zero, List.set_cons_succ])
      refine take_at 8 62 (.pointer (some ⟨w.heap.size, 2, none⟩)) rfl rfl (by kernel_rfl) (by kernel_rfl) (by kernel_rfl) (fun _ _ _ h => h) (Or.inl ⟨by kernel_rfl, fun w' hS' => by go_simp⟩) hHeld ?_
      (try simp only [Act.put, List.setIfInBounds_toArray, List.set_cons_zero, List.set_cons_succ])
      have x2 : w6.cell? ⟨w.heap.size, 2, none⟩ = some (.slice (some ⟨gq, 0, none⟩) N cl) := HT6.out.cell 2
      have fz2 := HT6.out.frozen 2
      refine wpAnyH_ready (rs := [9]) (by kernel_rfl) (by simp) ?_
      refine AllReadyH.cons rfl (fun K hK => ?_) AllReadyH.nil
      go_simp
      refine hK.out _ _ trivial (fun _ => ?_)
      clear hK K
      refine wpAnyH_done (by kernel_rfl) ?_ _
      refine NoPanic.normal ?_
      have HTe : Hid (RowAt (w6.setCell ⟨w.heap.size, 2, none⟩ (.slice (some ⟨gg, 0, none⟩) (N + 1) cc)) w.heap.size #[.int .i64 R, .int .i64 C, .slice (some ⟨gg, 0, none⟩) (N + 1) cc] 25) := HT6.out.setCell 2 (.slice (some ⟨gg, 0, none⟩) (N + 1) cc)
      have HOe : Hid (OwnX (w6.setCell ⟨w.heap.size, 2, none⟩ (.slice (some ⟨gg, 0, none⟩) (N + 1) cc)) v.heap.size (.slice (some ⟨gg, 0, none⟩) (N + 1) cc) (rs ++ [(yr, yc, yd, yg, xa, xn, xq)]) (l ++ [l.getD 0 cl0])) := HX6.out.setT HT6.out 2 _
      have HZe : Hid (RowAt (w6.setCell ⟨w.heap.size, 2, none⟩ (.slice (some ⟨gg, 0, none⟩) (N + 1) cc)) (w.heap.size + 1) #[.int .i64 0, .int .i64 0, .slice none 0 0] 25) := HZ6.out.other ⟨w.heap.size, 2, none⟩ (.slice (some ⟨gg, 0, none⟩) (N + 1) cc) (by show w.heap.size + 1 ≠ w.heap.size; omega)
      have HRe : Hid (Rd B (w6.setCell ⟨w.heap.size, 2, none⟩ (.slice (some ⟨gg, 0, none⟩) (N + 1) cc)) g (p + 1 + 1)) := HR6.out.setCell (by show g < w.heap.size; omega) _
      have HFe : Hid (Fr w.heap.size g w (w6.setCell ⟨w.heap.size, 2, none⟩ (.slice (some ⟨gg, 0, none⟩) (N + 1) cc))) := HF6.out.setCell (p := ⟨w.heap.size, 2, none⟩) (Nat.le_refl _) _
      clear x2 fz2 HT6 HOR HZ6 HF6 HR6 HX6
      generalize (w6.setCell ⟨w.heap.size, 2, none⟩ (.slice (some ⟨gg, 0, none⟩) (N + 1) cc)) = w9 at HTe HOe HZe HRe HFe ⊢
      go_wp2_with (first | (refine wpList_load_row rfl 25 (.tmp 3) rfl w.heap.size rfl 25 #[.int .i64 R, .int .i64 C, .slice (some ⟨gg, 0, none⟩) (N + 1) cc] (0, 0) _ HTe.out Try.underlying25 rfl tab_info ?_) | (refine wpList_store_row rfl 25 (.tmp 4) (.tmp 84) rfl (w.heap.size + 1) #[.int .i64 R, .int .i64 C, .slice (some ⟨gg, 0, none⟩) (N + 1) cc] rfl rfl 25 _ HZe.out tab_info rfl (cells3_one _ _ _ _ _) ?_))
      have bT : Below (w.heap.size + 1) w9 (w9.setRow (w.heap.size + 1) #[.int .i64 R, .int .i64 C, .slice (some ⟨gg, 0, none⟩) (N + 1) cc]) := below_row (Below.refl _ _) (Nat.le_refl _) _
      refine bodyPost_ret (v := .agg #[.int .i64 R, .int .i64 C, .slice (some ⟨gg, 0, none⟩) (N + 1) cc]) (results_cell_row (p := 4) (ty := 25) rfl _ _ (w.heap.size + 1) 25 _ _ _ rfl (RowAt.setRow HZe.out _) Try.underlying25 rfl tab_info) rfl ⟨R, C, (some ⟨gg, 0, none⟩), (N + 1), cc, (l ++ [l.getD 0 cl0]), p + 1 + 1, rfl, ⟨_, (HOe.out.setRowT HZe.out _).less (by omega)⟩, HSP.out, HRe.out.below bT (by omega), by omega, HFe.out.below (bT.mono (by omega))⟩
    · go_simp
      refine hK.out _ _ trivial (fun hHeld => ?_)
      clear hK K
      (try simp only [Act.put, List.setIfInBounds_toArray, List.set_cons_zero, List.set_cons_succ])
      refine take_at 4 58 (.pointer (some ⟨gq, 0, none⟩)) rfl rfl (by kernel_rfl) (by kernel_rfl) (by kernel_rfl) (fun _ _ _ h => h) (Or.inl ⟨by kernel_rfl, fun w' hS' => by go_simp; intro hN0; omega⟩) hHeld ?_
      (try simp only [Act.put, List.setIfInBounds_toArray, List.set_cons_zero, List.set_cons_succ])
      refine wpAnyH_ready (rs := [1, 5]) (by kernel_rfl) (by simp) ?_
      refine AllReadyH.cons rfl (fun K hK => ?_) (AllReadyH.cons rfl (fun K hK => ?_) AllReadyH.nil)
      · go_simp
        refine hK.out _ _ trivial (fun hHeld => ?_)
        clear hK K
        (try simp only [Act.put, List.setIfInBounds_toArray, List.set_cons_zero, List.set_cons_succ])
        refine wpAnyH_ready (rs := [5]) (by kernel_rfl) (by simp) ?_
        refine AllReadyH.cons rfl (fun K hK => ?_) AllReadyH.nil
        go_simp
        refine hK.out _ _ trivial (fun hHeld => ?_)
        clear hK K
        (try simp only [Act.put, List.setIfInBounds_toArray, List.set_cons_zero, List.set_cons_succ])
        refine wpAnyH_ready (rs := [6]) (by kernel_rfl) (by simp) ?_
        refine AllReadyH.cons rfl (fun K hK => ?_) AllReadyH.nil
        go_simp
        refine hK.out _ _ trivial (fun hHeld => ?_)
        clear hK K
        (try simp only [Act.put, List.setIfInBounds_toArray, List.set_cons_zero, List.set_cons_succ])
        clear x0 x1 x2 x3 x4 t5
        refine wpAnyH_ready (rs := [7]) (by kernel_rfl) (by simp) ?_
        refine AllReadyH.cons rfl (fun K hK => ?_) AllReadyH.nil
        refine step_append_liesD _ 61 (by rfl) (by rfl) _ _ _ (by rfl) v.heap.size 42 i0 _ 5 56 Try.underlying23 hi hz0 hz1 hz2 rfl (by omega) (.slice (some ⟨gq, 0, none⟩) N cl) N (flat5 rs) (by rfl) (HOd.out.1.row.alloc _) ⟨w5.heap.size, 0, none⟩ 1 1 [.int .i64 yr, .int .i64 yc, .int .i64 yd, .int .i64 yg, .slice xa xn xq] (by rfl) (by rfl) (cell_five_new _ _ _ _ _ _ _) (five_oneCell _ _ _ _ _ _ _) (by omega) (by unfold maxLen; omega) (by omega) (by simp; omega) (w5.heap.size + 1) (by simp) ?_
        intro gg cc w6 hown6 hgrow6 hat6 hlt6
        have s6 := hgrow6.size
        simp at s6
        have HT6 : Hid (RowAt w6 w.heap.size #[.int .i64 R, .int .i64 C, .slice (some ⟨gq, 0, none⟩) N cl] 25) := RowAt.grown (HTd.out.alloc _) hgrow6 (rowAt_ne HTd.out HOd.out.1.row (by decide))
        have HZ6 : Hid (RowAt w6 (w.heap.size + 1) #[.int .i64 0, .int .i64 0, .slice none 0 0] 25) := RowAt.grown (HZd.out.alloc _) hgrow6 (rowAt_ne HZd.out HOd.out.1.row (by decide))
        have HOR : Hid (OwnR w6 v.heap.size (.slice (some ⟨gg, 0, none⟩) (N + 1) cc) (rs ++ [(yr, yc, yd, yg, xa, xn, xq)])) := OwnR.snoc hown6 (by have := HOd.out.1.len; omega) rfl
        have HF6 : Hid (Fr w.heap.size g w w6) := (HFd.out.alloc (by omega) _).grownAt hgrow6 (by simp; omega) (fun b hb => by have := (own_lt HOd.out.1.row hb).1; omega)
        have HR6 : Hid (Rd B w6 g (p + 1 + 1)) := (HRd.out.alloc _).grownAt hgrow6 (fun b hb => by have := (own_lt HOd.out.1.row hb).1; omega)
        have HX6 : Hid (OwnX w6 v.heap.size (.slice (some ⟨gg, 0, none⟩) (N + 1) cc) (rs ++ [(yr, yc, yd, yg, xa, xn, xq)]) (l ++ [l.getD 0 cl0])) := by
          have hq : ∀ j, j < rs.length → RwOwn w6 v.heap.size (rs.getD j rw0) (l.getD j cl0) := fun j hj => by
            obtain ⟨e0, e1, e2, e3, e4⟩ := HOd.out.2.2.1 j hj
            exact ⟨e0, e1, e2, e3, own_grown (Own.alloc e4 _) hgrow6 (fun b hb => HOd.out.2.2.2.1 j hj b hb)⟩
          refine ⟨HOR.out, by simp [HOd.out.2.1], fun j hj => ?_⟩
          by_cases hlt : j < rs.length
          · rw [getD_snoc_lt _ _ _ _ hlt, getD_snoc_lt _ _ _ _ (by have := HOd.out.2.1; omega)]
            exact hq j hlt
          · have ej : j = rs.length := by simp at hj; omega
            rw [getD_snoc_eq _ _ _ _ ej, getD_snoc_eq _ _ _ _ (by have := HOd.out.2.1; omega), ← HXr.out]
            exact hq 0 (by omega)
        refine hK.out _ _ trivial (fun hHeld => ?_)
        clear hK K hown6 hgrow6 hat6 HTd HZd HOd HFd HRd
        (try simp only [Act.put, List.setIfInBounds_toArray, List.set_cons_zero, List.set_cons_succ])
        refine take_at 8 62 (.pointer (some ⟨w.heap.size, 2, none⟩)) rfl rfl (by kernel_rfl) (by kernel_rfl) (by kernel_rfl) (fun _ _ _ h => h) (Or.inl ⟨by kernel_rfl, fun w' hS' => by go_simp⟩) hHeld ?_
        (try simp only [Act.put, List.setIfInBounds_toArray, List.set_cons_zero, List.set_cons_succ])
        have x2 : w6.cell? ⟨w.heap.size, 2, none⟩ = some (.slice (some ⟨gq, 0, none⟩) N cl) := HT6.out.cell 2
        have fz2 := HT6.out.frozen 2
        refine wpAnyH_ready (rs := [9]) (by kernel_rfl) (by simp) ?_
        refine AllReadyH.cons rfl (fun K hK => ?_) AllReadyH.nil
        go_simp
        refine hK.out _ _ trivial (fun _ => ?_)
        clear hK K
        refine wpAnyH_done (by kernel_rfl) ?_ _
        refine NoPanic.normal ?_
        have HTe : Hid (RowAt (w6.setCell ⟨w.heap.size, 2, none⟩ (.slice (some ⟨gg, 0, none⟩) (N + 1) cc)) w.heap.size #[.int .i64 R, .int .i64 C, .slice (some ⟨gg, 0, none⟩) (N + 1) cc] 25) := HT6.out.setCell 2 (.slice (some ⟨gg, 0, none⟩) (N + 1) cc)
        have HOe : Hid (OwnX (w6.setCell ⟨w.heap.size, 2, none⟩ (.slice (some ⟨gg, 0, none⟩) (N + 1) cc)) v.heap.size (.slice (some ⟨gg, 0, none⟩) (N + 1) cc) (rs ++ [(yr, yc, yd, yg, xa, xn, xq)]) (l ++ [l.getD 0 cl0])) := HX6.out.setT HT6.out 2 _
        have HZe : Hid (RowAt (w6.setCell ⟨w.heap.size, 2, none⟩ (.slice (some ⟨gg, 0, none⟩) (N + 1) cc)) (w.heap.size + 1) #[.int .i64 0, .int .i64 0, .slice none 0 0] 25) := HZ6.out.other ⟨w.heap.size, 2, none⟩ (.slice (some ⟨gg, 0, none⟩) (N + 1) cc) (by show w.heap.size + 1 ≠ w.heap.size; omega)
        have HRe : Hid (Rd B (w6.setCell ⟨w.heap.size, 2, none⟩ (.slice (some ⟨gg, 0, none⟩) (N + 1) cc)) g (p + 1 + 1)) := HR6.out.setCell (by show g < w.heap.size; omega) _
        have HFe : Hid (Fr w.heap.size g w (w6.setCell ⟨w.heap.size, 2, none⟩ (.slice (some ⟨gg, 0, none⟩) (N + 1) cc))) := HF6.out.setCell (p := ⟨w.heap.size, 2, none⟩) (Nat.le_refl _) _
        clear x2 fz2 HT6 HOR HZ6 HF6 HR6 HX6
        generalize (w6.setCell ⟨w.heap.size, 2, none⟩ (.slice (some ⟨gg, 0, none⟩) (N + 1) cc)) = w9 at HTe HOe HZe HRe HFe ⊢
        go_wp2_with (first | (refine wpList_load_row rfl 25 (.tmp 3) rfl w.heap.size rfl 25 #[.int .i64 R, .int .i64 C, .slice (some ⟨gg, 0, none⟩) (N + 1) cc] (0, 0) _ HTe.out Try.underlying25 rfl tab_info ?_) | (refine wpList_store_row rfl 25 (.tmp 4) (.tmp 84) rfl (w.heap.size + 1) #[.int .i64 R, .int .i64 C, .slice (some ⟨gg, 0, none⟩) (N + 1) cc] rfl rfl 25 _ HZe.out tab_info rfl (cells3_one _ _ _ _ _) ?_))
        have bT : Below (w.heap.size + 1) w9 (w9.setRow (w.heap.size + 1) #[.int .i64 R, .int .i64 C, .slice (some ⟨gg, 0, none⟩) (N + 1) cc]) := below_row (Below.refl _ _) (Nat.le_refl _) _
        refine bodyPost_ret (v := .agg #[.int .i64 R, .int .i64 C, .slice (some ⟨gg, 0, none⟩) (N + 1) cc]) (results_cell_row (p := 4) (ty := 25) rfl _ _ (w.heap.size + 1) 25 _ _ _ rfl (RowAt.setRow HZe.out _) Try.underlying25 rfl tab_info) rfl ⟨R, C, (some ⟨gg, 0, none⟩), (N + 1), cc, (l ++ [l.getD 0 cl0]), p + 1 + 1, rfl, ⟨_, (HOe.out.setRowT HZe.out _).less (by omega)⟩, HSP.out, HRe.out.below bT (by omega), by omega, HFe.out.below (bT.mono (by omega))⟩
      · go_simp
        refine hK.out _ _ trivial (fun hHeld => ?_)
        clear hK K
        (try simp only [Act.put, List.setIfInBounds_toArray, List.set_cons_zero, List.set_cons_succ])
        refine wpAnyH_ready (rs := [1, 6]) (by kernel_rfl) (by simp) ?_
        refine AllReadyH.cons rfl (fun K hK => ?_) (AllReadyH.cons rfl (fun K hK => ?_) AllReadyH.nil)
        · go_simp
          refine hK.out _ _ trivial (fun hHeld => ?_)
          clear hK K
          (try simp only [Act.put, List.setIfInBounds_toArray, List.set_cons_zero, List.set_cons_succ])
          refine wpAnyH_ready (rs := [6]) (by kernel_rfl) (by simp) ?_
          refine AllReadyH.cons rfl (fun K hK => ?_) AllReadyH.nil
          go_simp
          refine hK.out _ _ trivial (fun hHeld => ?_)
          clear hK K
          (try simp only [Act.put, List.setIfInBounds_toArray, List.set_cons_zero, List.set_cons_succ])
          clear x0 x1 x2 x3 x4 t5
          refine wpAnyH_ready (rs := [7]) (by kernel_rfl) (by simp) ?_
          refine AllReadyH.cons rfl (fun K hK => ?_) AllReadyH.nil
          refine step_append_liesD _ 61 (by rfl) (by rfl) _ _ _ (by rfl) v.heap.size 42 i0 _ 5 56 Try.underlying23 hi hz0 hz1 hz2 rfl (by omega) (.slice (some ⟨gq, 0, none⟩) N cl) N (flat5 rs) (by rfl) (HOd.out.1.row.alloc _) ⟨w5.heap.size, 0, none⟩ 1 1 [.int .i64 yr, .int .i64 yc, .int .i64 yd, .int .i64 yg, .slice xa xn xq] (by rfl) (by rfl) (cell_five_new _ _ _ _ _ _ _) (five_oneCell _ _ _ _ _ _ _) (by omega) (by unfold maxLen; omega) (by omega) (by simp; omega) (w5.heap.size + 1) (by simp) ?_
          intro gg cc w6 hown6 hgrow6 hat6 hlt6
          have s6 := hgrow6.size
          simp at s6
          have HT6 : Hid (RowAt w6 w.heap.size #[.int .i64 R, .int .i64 C, .slice (some ⟨gq, 0, none⟩) N cl] 25) := RowAt.grown (HTd.out.alloc _) hgrow6 (rowAt_ne HTd.out HOd.out.1.row (by decide))
          have HZ6 : Hid (RowAt w6 (w.heap.size + 1) #[.int .i64 0, .int .i64 0, .slice none 0 0] 25) := RowAt.grown (HZd.out.alloc _) hgrow6 (rowAt_ne HZd.out HOd.out.1.row (by decide))
          have HOR : Hid (OwnR w6 v.heap.size (.slice (some ⟨gg, 0, none⟩) (N + 1) cc) (rs ++ [(yr, yc, yd, yg, xa, xn, xq)])) := OwnR.snoc hown6 (by have := HOd.out.1.len; omega) rfl
          have HF6 : Hid (Fr w.heap.size g w w6) := (HFd.out.alloc (by omega) _).grownAt hgrow6 (by simp; omega) (fun b hb => by have := (own_lt HOd.out.1.row hb).1; omega)
          have HR6 : Hid (Rd B w6 g (p + 1 + 1)) := (HRd.out.alloc _).grownAt hgrow6 (fun b hb => by have := (own_lt HOd.out.1.row hb).1; omega)
          have HX6 : Hid (OwnX w6 v.heap.size (.slice (some ⟨gg, 0, none⟩) (N + 1) cc) (rs ++ [(yr, yc, yd, yg, xa, xn, xq)]) (l ++ [l.getD 0 cl0])) := by
            have hq : ∀ j, j < rs.length → RwOwn w6 v.heap.size (rs.getD j rw0) (l.getD j cl0) := fun j hj => by
              obtain ⟨e0, e1, e2, e3, e4⟩ := HOd.out.2.2.1 j hj
              exact ⟨e0, e1, e2, e3, own_grown (Own.alloc e4 _) hgrow6 (fun b hb => HOd.out.2.2.2.1 j hj b hb)⟩
            refine ⟨HOR.out, by simp [HOd.out.2.1], fun j hj => ?_⟩
            by_cases hlt : j < rs.length
            · rw [getD_snoc_lt _ _ _ _ hlt, getD_snoc_lt _ _ _ _ (by have := HOd.out.2.1; omega)]
              exact hq j hlt
            · have ej : j = rs.length := by simp at hj; omega
              rw [getD_snoc_eq _ _ _ _ ej, getD_snoc_eq _ _ _ _ (by have := HOd.out.2.1; omega), ← HXr.out]
              exact hq 0 (by omega)
          refine hK.out _ _ trivial (fun hHeld => ?_)
          clear hK K hown6 hgrow6 hat6 HTd HZd HOd HFd HRd
          (try simp only [Act.put, List.setIfInBounds_toArray, List.set_cons_zero, List.set_cons_succ])
          refine take_at 8 62 (.pointer (some ⟨w.heap.size, 2, none⟩)) rfl rfl (by kernel_rfl) (by kernel_rfl) (by kernel_rfl) (fun _ _ _ h => h) (Or.inl ⟨by kernel_rfl, fun w' hS' => by go_simp⟩) hHeld ?_
          (try simp only [Act.put, List.setIfInBounds_toArray, List.set_cons_zero, List.set_cons_succ])
          have x2 : w6.cell? ⟨w.heap.size, 2, none⟩ = some (.slice (some ⟨gq, 0, none⟩) N cl) := HT6.out.cell 2
          have fz2 := HT6.out.frozen 2
          refine wpAnyH_ready (rs := [9]) (by kernel_rfl) (by simp) ?_
          refine AllReadyH.cons rfl (fun K hK => ?_) AllReadyH.nil
          go_simp
          refine hK.out _ _ trivial (fun _ => ?_)
          clear hK K
          refine wpAnyH_done (by kernel_rfl) ?_ _
          refine NoPanic.normal ?_
          have HTe : Hid (RowAt (w6.setCell ⟨w.heap.size, 2, none⟩ (.slice (some ⟨gg, 0, none⟩) (N + 1) cc)) w.heap.size #[.int .i64 R, .int .i64 C, .slice (some ⟨gg, 0, none⟩) (N + 1) cc] 25) := HT6.out.setCell 2 (.slice (some ⟨gg, 0, none⟩) (N + 1) cc)
          have HOe : Hid (OwnX (w6.setCell ⟨w.heap.size, 2, none⟩ (.slice (some ⟨gg, 0, none⟩) (N + 1) cc)) v.heap.size (.slice (some ⟨gg, 0, none⟩) (N + 1) cc) (rs ++ [(yr, yc, yd, yg, xa, xn, xq)]) (l ++ [l.getD 0 cl0])) := HX6.out.setT HT6.out 2 _
          have HZe : Hid (RowAt (w6.setCell ⟨w.heap.size, 2, none⟩ (.slice (some ⟨gg, 0, none⟩) (N + 1) cc)) (w.heap.size + 1) #[.int .i64 0, .int .i64 0, .slice none 0 0] 25) := HZ6.out.other ⟨w.heap.size, 2, none⟩ (.slice (some ⟨gg, 0, none⟩) (N + 1) cc) (by show w.heap.size + 1 ≠ w.heap.size; omega)
          have HRe : Hid (Rd B (w6.setCell ⟨w.heap.size, 2, none⟩ (.slice (some ⟨gg, 0, none⟩) (N + 1) cc)) g (p + 1 + 1)) := HR6.out.setCell (by show g < w.heap.size; omega) _
          have HFe : Hid (Fr w.heap.size g w (w6.setCell ⟨w.heap.size, 2, none⟩ (.slice (some ⟨gg, 0, none⟩) (N + 1) cc))) := HF6.out.setCell (p := ⟨w.heap.size, 2, none⟩) (Nat.le_refl _) _
          clear x2 fz2 HT6 HOR HZ6 HF6 HR6 HX6
          generalize (w6.setCell ⟨w.heap.size, 2, none⟩ (.slice (some ⟨gg, 0, none⟩) (N + 1) cc)) = w9 at HTe HOe HZe HRe HFe ⊢
          go_wp2_with (first | (refine wpList_load_row rfl 25 (.tmp 3) rfl w.heap.size rfl 25 #[.int .i64 R, .int .i64 C, .slice (some ⟨gg, 0, none⟩) (N + 1) cc] (0, 0) _ HTe.out Try.underlying25 rfl tab_info ?_) | (refine wpList_store_row rfl 25 (.tmp 4) (.tmp 84) rfl (w.heap.size + 1) #[.int .i64 R, .int .i64 C, .slice (some ⟨gg, 0, none⟩) (N + 1) cc] rfl rfl 25 _ HZe.out tab_info rfl (cells3_one _ _ _ _ _) ?_))
          have bT : Below (w.heap.size + 1) w9 (w9.setRow (w.heap.size + 1) #[.int .i64 R, .int .i64 C, .slice (some ⟨gg, 0, none⟩) (N + 1) cc]) := below_row (Below.refl _ _) (Nat.le_refl _) _
          refine bodyPost_ret (v := .agg #[.int .i64 R, .int .i64 C, .slice (some ⟨gg, 0, none⟩) (N + 1) cc]) (results_cell_row (p := 4) (ty := 25) rfl _ _ (w.heap.size + 1) 25 _ _ _ rfl (RowAt.setRow HZe.out _) Try.underlying25 rfl tab_info) rfl ⟨R, C, (some ⟨gg, 0, none⟩), (N + 1), cc, (l ++ [l.getD 0 cl0]), p + 1 + 1, rfl, ⟨_, (HOe.out.setRowT HZe.out _).less (by omega)⟩, HSP.out, HRe.out.below bT (by omega), by omega, HFe.out.below (bT.mono (by omega))⟩
        · go_simp
          refine hK.out _ _ trivial (fun hHeld => ?_)
          clear hK K
          (try simp only [Act.put, List.setIfInBounds_toArray, List.set_cons_zero, List.set_cons_succ])
          refine wpAnyH_ready (rs := [1]) (by kernel_rfl) (by simp) ?_
          refine AllReadyH.cons rfl (fun K hK => ?_) AllReadyH.nil
          go_simp
          refine hK.out _ _ trivial (fun hHeld => ?_)
          clear hK K
          (try simp only [Act.put, List.setIfInBounds_toArray, List.set_cons_zero, List.set_cons_succ])
          clear x0 x1 x2 x3 x4 t5
          refine wpAnyH_ready (rs := [7]) (by kernel_rfl) (by simp) ?_
          refine AllReadyH.cons rfl (fun K hK => ?_) AllReadyH.nil
          refine step_append_liesD _ 61 (by rfl) (by rfl) _ _ _ (by rfl) v.heap.size 42 i0 _ 5 56 Try.underlying23 hi hz0 hz1 hz2 rfl (by omega) (.slice (some ⟨gq, 0, none⟩) N cl) N (flat5 rs) (by rfl) (HOd.out.1.row.alloc _) ⟨w5.heap.size, 0, none⟩ 1 1 [.int .i64 yr, .int .i64 yc, .int .i64 yd, .int .i64 yg, .slice xa xn xq] (by rfl) (by rfl) (cell_five_new _ _ _ _ _ _ _) (five_oneCell _ _ _ _ _ _ _) (by omega) (by unfold maxLen; omega) (by omega) (by simp; omega) (w5.heap.size + 1) (by simp) ?_
          intro gg cc w6 hown6 hgrow6 hat6 hlt6
          have s6 := hgrow6.size
          simp at s6
          have HT6 : Hid (RowAt w6 w.heap.size #[.int .i64 R, .int .i64 C, .slice (some ⟨gq, 0, none⟩) N cl] 25) := RowAt.grown (HTd.out.alloc _) hgrow6 (rowAt_ne HTd.out HOd.out.1.row (by decide))
          have HZ6 : Hid (RowAt w6 (w.heap.size + 1) #[.int .i64 0, .int .i64 0, .slice none 0 0] 25) := RowAt.grown (HZd.out.alloc _) hgrow6 (rowAt_ne HZd.out HOd.out.1.row (by decide))
          have HOR : Hid (OwnR w6 v.heap.size (.slice (some ⟨gg, 0, none⟩) (N + 1) cc) (rs ++ [(yr, yc, yd, yg, xa, xn, xq)])) := OwnR.snoc hown6 (by have := HOd.out.1.len; omega) rfl
          have HF6 : Hid (Fr w.heap.size g w w6) := (HFd.out.alloc (by omega) _).grownAt hgrow6 (by simp; omega) (fun b hb => by have := (own_lt HOd.out.1.row hb).1; omega)
          have HR6 : Hid (Rd B w6 g (p + 1 + 1)) := (HRd.out.alloc _).grownAt hgrow6 (fun b hb => by have := (own_lt HOd.out.1.row hb).1; omega)
          have HX6 : Hid (OwnX w6 v.heap.size (.slice (some ⟨gg, 0, none⟩) (N + 1) cc) (rs ++ [(yr, yc, yd, yg, xa, xn, xq)]) (l ++ [l.getD 0 cl0])) := by
            have hq : ∀ j, j < rs.length → RwOwn w6 v.heap.size (rs.getD j rw0) (l.getD j cl0) := fun j hj => by
              obtain ⟨e0, e1, e2, e3, e4⟩ := HOd.out.2.2.1 j hj
              exact ⟨e0, e1, e2, e3, own_grown (Own.alloc e4 _) hgrow6 (fun b hb => HOd.out.2.2.2.1 j hj b hb)⟩
            refine ⟨HOR.out, by simp [HOd.out.2.1], fun j hj => ?_⟩
            by_cases hlt : j < rs.length
            · rw [getD_snoc_lt _ _ _ _ hlt, getD_snoc_lt _ _ _ _ (by have := HOd.out.2.1; omega)]
              exact hq j hlt
            · have ej : j = rs.length := by simp at hj; omega
              rw [getD_snoc_eq _ _ _ _ ej, getD_snoc_eq _ _ _ _ (by have := HOd.out.2.1; omega), ← HXr.out]
              exact hq 0 (by omega)
          refine hK.out _ _ trivial (fun hHeld => ?_)
          clear hK K hown6 hgrow6 hat6 HTd HZd HOd HFd HRd
          (try simp only [Act.put, List.setIfInBounds_toArray, List.set_cons_zero, List.set_cons_succ])
          refine take_at 8 62 (.pointer (some ⟨w.heap.size, 2, none⟩)) rfl rfl (by kernel_rfl) (by kernel_rfl) (by kernel_rfl) (fun _ _ _ h => h) (Or.inl ⟨by kernel_rfl, fun w' hS' => by go_simp⟩) hHeld ?_
          (try simp only [Act.put, List.setIfInBounds_toArray, List.set_cons_zero, List.set_cons_succ])
          have x2 : w6.cell? ⟨w.heap.size, 2, none⟩ = some (.slice (some ⟨gq, 0, none⟩) N cl) := HT6.out.cell 2
          have fz2 := HT6.out.frozen 2
          refine wpAnyH_ready (rs := [9]) (by kernel_rfl) (by simp) ?_
          refine AllReadyH.cons rfl (fun K hK => ?_) AllReadyH.nil
          go_simp
          refine hK.out _ _ trivial (fun _ => ?_)
          clear hK K
          refine wpAnyH_done (by kernel_rfl) ?_ _
          refine NoPanic.normal ?_
          have HTe : Hid (RowAt (w6.setCell ⟨w.heap.size, 2, none⟩ (.slice (some ⟨gg, 0, none⟩) (N + 1) cc)) w.heap.size #[.int .i64 R, .int .i64 C, .slice (some ⟨gg, 0, none⟩) (N + 1) cc] 25) := HT6.out.setCell 2 (.slice (some ⟨gg, 0, none⟩) (N + 1) cc)
          have HOe : Hid (OwnX (w6.setCell ⟨w.heap.size, 2, none⟩ (.slice (some ⟨gg, 0, none⟩) (N + 1) cc)) v.heap.size (.slice (some ⟨gg, 0, none⟩) (N + 1) cc) (rs ++ [(yr, yc, yd, yg, xa, xn, xq)]) (l ++ [l.getD 0 cl0])) := HX6.out.setT HT6.out 2 _
          have HZe : Hid (RowAt (w6.setCell ⟨w.heap.size, 2, none⟩ (.slice (some ⟨gg, 0, none⟩) (N + 1) cc)) (w.heap.size + 1) #[.int .i64 0, .int .i64 0, .slice none 0 0] 25) := HZ6.out.other ⟨w.heap.size, 2, none⟩ (.slice (some ⟨gg, 0, none⟩) (N + 1) cc) (by show w.heap.size + 1 ≠ w.heap.size; omega)
          have HRe : Hid (Rd B (w6.setCell ⟨w.heap.size, 2, none⟩ (.slice (some ⟨gg, 0, none⟩) (N + 1) cc)) g (p + 1 + 1)) := HR6.out.setCell (by show g < w.heap.size; omega) _
          have HFe : Hid (Fr w.heap.size g w (w6.setCell ⟨w.heap.size, 2, none⟩ (.slice (some ⟨gg, 0, none⟩) (N + 1) cc))) := HF6.out.setCell (p := ⟨w.heap.size, 2, none⟩) (Nat.le_refl _) _
          clear x2 fz2 HT6 HOR HZ6 HF6 HR6 HX6
          generalize (w6.setCell ⟨w.heap.size, 2, none⟩ (.slice (some ⟨gg, 0, none⟩) (N + 1) cc)) = w9 at HTe HOe HZe HRe HFe ⊢
          go_wp2_with (first | (refine wpList_load_row rfl 25 (.tmp 3) rfl w.heap.size rfl 25 #[.int .i64 R, .int .i64 C, .slice (some ⟨gg, 0, none⟩) (N + 1) cc] (0, 0) _ HTe.out Try.underlying25 rfl tab_info ?_) | (refine wpList_store_row rfl 25 (.tmp 4) (.tmp 84) rfl (w.heap.size + 1) #[.int .i64 R, .int .i64 C, .slice (some ⟨gg, 0, none⟩) (N + 1) cc] rfl rfl 25 _ HZe.out tab_info rfl (cells3_one _ _ _ _ _) ?_))
          have bT : Below (w.heap.size + 1) w9 (w9.setRow (w.heap.size + 1) #[.int .i64 R, .int .i64 C, .slice (some ⟨gg, 0, none⟩) (N + 1) cc]) := below_row (Below.refl _ _) (Nat.le_refl _) _
          refine bodyPost_ret (v := .agg #[.int .i64 R, .int .i64 C, .slice (some ⟨gg, 0, none⟩) (N + 1) cc]) (results_cell_row (p := 4) (ty := 25) rfl _ _ (w.heap.size + 1) 25 _ _ _ rfl (RowAt.setRow HZe.out _) Try.underlying25 rfl tab_info) rfl ⟨R, C, (some ⟨gg, 0, none⟩), (N + 1), cc, (l ++ [l.getD 0 cl0]), p + 1 + 1, rfl, ⟨_, (HOe.out.setRowT HZe.out _).less (by omega)⟩, HSP.out, HRe.out.below bT (by omega), by omega, HFe.out.below (bT.mono (by omega))⟩
  have m3 : (sw == 3) = false := by simp; omega
  by_cases h4 : sw = 4
  · have n4 : sw = 4 := h4
    subst n4
    go_wp2_with fail
    refine (pick_any B g (p + 1 + 1) 8 _ HR4.out (by omega) (by omega) (by omega)).mono ?_
    rintro e w6 ⟨x, rfl, hx0, hx1, hr6, hg6⟩
    have f6 := fr_grown hg6
    have s6 := f6.size
    have HT6 : Hid (RowAt w6 w.heap.size #[.int .i64 R, .int .i64 C, .slice (some ⟨gq, 0, none⟩) N cl] 25) := HT4.out.fr f6 (by omega)
    have HO6 : Hid (OwnT w6 v.heap.size (.slice (some ⟨gq, 0, none⟩) N cl) rs l) := HO4.out.fr f6 (by omega)
    have HZ6 : Hid (RowAt w6 (w.heap.size + 1) #[.int .i64 0, .int .i64 0, .slice none 0 0] 25) := HZ4.out.fr f6 (by omega)
    have HF6 : Hid (Fr w.heap.size g w w6) := HF4.out.trans (f6.mono (by omega))
    have HR6 : Hid (Rd B w6 g (p + 1 + 1 + 1)) := hr6
    have x4 := HT6.out.cell 0
    have x4' : w6.cell? ⟨w.heap.size, 0, none⟩ = some (.int .i64 R) := x4
    have fz4 := HT6.out.frozen 0
    clear hr6 hg6 f6 HT4 HO4 HZ4 HF4 HR4 x4 t2
    go_upto_region 17 with fail
    have HTe : Hid (RowAt (w6.setCell ⟨w.heap.size, 0, none⟩ (.int .i64 (x - 1))) w.heap.size #[.int .i64 (x - 1), .int .i64 C, .slice (some ⟨gq, 0, none⟩) N cl] 25) := HT6.out.setCell 0 (.int .i64 (x - 1))
    have HOe : Hid (OwnX (w6.setCell ⟨w.heap.size, 0, none⟩ (.int .i64 (x - 1))) v.heap.size (.slice (some ⟨gq, 0, none⟩) N cl) (rs) (l)) := HO6.out.x.setT HT6.out 0 _
    have HZe : Hid (RowAt (w6.setCell ⟨w.heap.size, 0, none⟩ (.int .i64 (x - 1))) (w.heap.size + 1) #[.int .i64 0, .int .i64 0, .slice none 0 0] 25) := HZ6.out.other ⟨w.heap.size, 0, none⟩ (.int .i64 (x - 1)) (by show w.heap.size + 1 ≠ w.heap.size; omega)
    have HRe : Hid (Rd B (w6.setCell ⟨w.heap.size, 0, none⟩ (.int .i64 (x - 1))) g (p + 1 + 1 + 1)) := HR6.out.setCell (by show g < w.heap.size; omega) _
    have HFe : Hid (Fr w.heap.size g w (w6.setCell ⟨w.heap.size, 0, none⟩ (.int .i64 (x - 1)))) := HF6.out.setCell (p := ⟨w.heap.size, 0, none⟩) (Nat.le_refl _) _
    clear x4' fz4 HT6 HO6 HZ6 HF6 HR6
    generalize (w6.setCell ⟨w.heap.size, 0, none⟩ (.int .i64 (x - 1))) = w9 at HTe HOe HZe HRe HFe ⊢
    go_wp2_with (first | (refine wpList_load_row rfl 25 (.tmp 3) rfl w.heap.size rfl 25 #[.int .i64 (x - 1), .int .i64 C, .slice (some ⟨gq, 0, none⟩) N cl] (0, 0) _ HTe.out Try.underlying25 rfl tab_info ?_) | (refine wpList_store_row rfl 25 (.tmp 4) (.tmp 84) rfl (w.heap.size + 1) #[.int .i64 (x - 1), .int .i64 C, .slice (some ⟨gq, 0, none⟩) N cl] rfl rfl 25 _ HZe.out tab_info rfl (cells3_one _ _ _ _ _) ?_))
    have bT : Below (w.heap.size + 1) w9 (w9.setRow (w.heap.size + 1) #[.int .i64 (x - 1), .int .i64 C, .slice (some ⟨gq, 0, none⟩) N cl]) := below_row (Below.refl _ _) (Nat.le_refl _) _
    refine bodyPost_ret (v := .agg #[.int .i64 (x - 1), .int .i64 C, .slice (some ⟨gq, 0, none⟩) N cl]) (results_cell_row (p := 4) (ty := 25) rfl _ _ (w.heap.size + 1) 25 _ _ _ rfl (RowAt.setRow HZe.out _) Try.underlying25 rfl tab_info) rfl ⟨(x - 1), C, (some ⟨gq, 0, none⟩), N, cl, l, p + 1 + 1 + 1, rfl, ⟨_, (HOe.out.setRowT HZe.out _).less (by omega)⟩, ⟨by first | omega | exact HTB.out.1, by first | omega | exact HTB.out.2.1, HTB.out.2.2⟩, HRe.out.below bT (by omega), by omega, HFe.out.below (bT.mono (by omega))⟩
  have m4 : (sw == 4) = false := by simp; omega
  by_cases h5 : sw = 5
  · have n5 : sw = 5 := h5
    subst n5
    obtain ⟨⟨yr, yc, yd, yg, xa, xn, xq⟩, hx⟩ : ∃ x, x = rs.getD k rw0 := ⟨_, rfl⟩
    have HXr : Hid (rs.getD k rw0 = (yr, yc, yd, yg, xa, xn, xq)) := hx.symm
    clear hx
    go_upto_region 16 with fail
    have fd : Fr w4.heap.size g w4 w4.drew := (Fr.refl _ _ _).below ((Below.refl _ _).drew)
    have HTd : Hid (RowAt w4.drew w.heap.size #[.int .i64 R, .int .i64 C, .slice (some ⟨gq, 0, none⟩) N cl] 25) := HT4.out
    have HRd : Hid (Rd B w4.drew g (p + 1 + 1)) := HR4.out.below ((Below.refl _ _).drew) HR4.out.lt
    have HOd : Hid (OwnT w4.drew v.heap.size (.slice (some ⟨gq, 0, none⟩) N cl) rs l) := HO4.out.fr fd (by omega)
    have HZd : Hid (RowAt w4.drew (w.heap.size + 1) #[.int .i64 0, .int .i64 0, .slice none 0 0] 25) := HZ4.out
    have HFd : Hid (Fr w.heap.size g w w4.drew) := HF4.out.trans (fd.mono (by omega))
    have sd : w4.heap.size = w4.drew.heap.size := rfl
    refine wp_region_noPanic ?_
    refine wp_region_held_drew (S := fun w' => RowAt w' w.heap.size #[.int .i64 R, .int .i64 C, .slice (some ⟨gq, 0, none⟩) N cl] 25) (by kernel_rfl) HTd.out (fun hHeld => ?_)
    refine take_at 0 71 (.pointer (some ⟨w.heap.size, 2, none⟩)) rfl rfl (by kernel_rfl) (by kernel_rfl) (by kernel_rfl) (fun _ _ _ h => h) (Or.inl ⟨by kernel_rfl, fun w' hS' => by go_simp⟩) hHeld ?_
    (try simp only [Act.put, List.setIfInBounds_toArray, List.set_cons_zero, List.set_cons_succ])
    refine take_at 1 72 (.slice (some ⟨gq, 0, none⟩) N cl) rfl rfl (by kernel_rfl) (by kernel_rfl) (by kernel_rfl) (fun _ _ _ h => h) (Or.inl ⟨by kernel_rfl, fun w' hS' => by have hc := RowAt.cell hS' 2; go_simp⟩) hHeld ?_
    (try simp only [Act.put, List.setIfInBounds_toArray, List.set_cons_zero, List.set_cons_succ])
    refine take_at 2 73 (.int .i64 k) rfl rfl (by kernel_rfl) (by kernel_rfl) (by kernel_rfl) (fun _ _ _ h => h) (Or.inl ⟨by kernel_rfl, fun w' hS' => by go_simp⟩) hHeld ?_
    (try simp only [Act.put, List.setIfInBounds_toArray, List.set_cons_zero, List.set_cons_succ])
    refine take_at 3 74 (.pointer (some ⟨g, 0, none⟩)) rfl rfl (by kernel_rfl) (by kernel_rfl) (by kernel_rfl) (fun _ _ _ h => h) (Or.inl ⟨by kernel_rfl, fun w' hS' => by go_simp⟩) hHeld ?_
    (try simp only [Act.put, List.setIfInBounds_toArray, List.set_cons_zero, List.set_cons_succ])
    refine take_at 4 75 (.pointer (some ⟨w.heap.size, 2, none⟩)) rfl rfl (by kernel_rfl) (by kernel_rfl) (by kernel_rfl) (fun _ _ _ h => h) (Or.inl ⟨by kernel_rfl, fun w' hS' => by go_simp⟩) hHeld ?_
    (try simp only [Act.put, List.setIfInBounds_toArray, List.set_cons_zero, List.set_cons_succ])
    refine take_at 5 76 (.slice (some ⟨gq, 0, none⟩) N cl) rfl rfl (by kernel_rfl) (by kernel_rfl) (by kernel_rfl) (fun _ _ _ h => h) (Or.inl ⟨by kernel_rfl, fun w' hS' => by have hc := RowAt.cell hS' 2; go_simp⟩) hHeld ?_
    (try simp only [Act.put, List.setIfInBounds_toArray, List.set_cons_zero, List.set_cons_succ])
    refine take_at 6 77 (.int .i64 k) rfl rfl (by kernel_rfl) (by kernel_rfl) (by kernel_rfl) (fun _ _ _ h => h) (Or.inl ⟨by kernel_rfl, fun w' hS' => by go_simp⟩) hHeld ?_
    (try simp only [Act.put, List.setIfInBounds_toArray, List.set_cons_zero, List.set_cons_succ])
    refine take_at 7 78 (.pointer (some ⟨gq, k * 5, none⟩)) rfl rfl (by kernel_rfl) (by kernel_rfl) (by kernel_rfl) (fun _ _ _ h => h) (Or.inl ⟨by kernel_rfl, fun w' hS' => by go_simp⟩) hHeld ?_
    (try simp only [Act.put, List.setIfInBounds_toArray, List.set_cons_zero, List.set_cons_succ])
    refine take_at 8 79 (.pointer (some ⟨gq, k * 5 + 4, none⟩)) rfl rfl (by kernel_rfl) (by kernel_rfl) (by kernel_rfl) (fun _ _ _ h => h) (Or.inl ⟨by kernel_rfl, fun w' hS' => by go_simp⟩) hHeld ?_
    (try simp only [Act.put, List.setIfInBounds_toArray, List.set_cons_zero, List.set_cons_succ])
    generalize w4.drew = w5 at HTd HRd HOd HZd HFd sd hHeld ⊢
    clear fd HT4 HO4 HZ4 HF4 HR4 t2
    have HXC : Hid (∀ w' : World, OwnR w' v.heap.size (.slice (some ⟨gq, 0, none⟩) N cl) rs → w'.cell? ⟨gq, k * 5 + 4, none⟩ = some (.slice xa xn xq)) := fun w' ho => by
      rw [ho.row.cellAt (k * 5 + 4) (by omega), flat5_get _ k 4 hkr (by omega), HXr.out]
      rfl
    have hrk : RwOwn w5 v.heap.size (yr, yc, yd, yg, xa, xn, xq) (l.getD k cl0) := by rw [← HXr.out]; exact HOd.out.2.2.1 k hkr
    have hok : Own w5 v.heap.size (.slice xa xn xq) (l.getD k cl0).2.2.2.2 := hrk.2.2.2.2
    have HOk : Hid (Own w5 v.heap.size (.slice xa xn xq) (l.getD k cl0).2.2.2.2) := hok
    have hxn : xn ≤ 24 := by have := hok.len; have := HLX.out k hkl; omega
    have x5 := HXC.out _ HOd.out.1
    clear hrk hok
    refine wpAnyH_ready (rs := [9]) (by kernel_rfl) (by simp) ?_
    refine AllReadyH.cons rfl (fun K hK => ?_) AllReadyH.nil
    go_simp
    refine hK.out _ _ hHeld (fun hHeld => ?_)
    clear hK K x5
    (try simp only [Act.put, List.setIfInBounds_toArray, List.set_cons_zero, List.set_cons_succ])
    refine wpAnyH_ready (rs := [10]) (by kernel_rfl) (by simp) ?_
    refine AllReadyH.cons rfl (fun K hK => ?_) AllReadyH.nil
    go_simp
    go_at_call 61
    refine (l71Bad_fo B g (p + 1 + 1) v.heap.size xa xn xq _ _ HRd.out (by omega) HOk.out (by omega) (by omega) hxn).mono ?_
    rintro e w6 ⟨vv, tx, q6, rfl, hO6, hl6, hr6, hq6, hf6, -⟩
    obtain ⟨pa, pc, rfl⟩ := Own.shapeN hO6 rfl
    obtain ⟨pn, hpn⟩ : ∃ pn, tx.length = pn := ⟨_, rfl⟩
    have HL6 : Hid (tx.length ≤ 25) := hl6
    rw [hpn] at hO6 ⊢
    have hf6' : Fo g (rwT (rs.getD k rw0)).ownBlock w5 w6 := by rw [HXr.out]; exact hf6
    have s6 := hf6.size
    have HT6 : Hid (RowAt w6 w.heap.size #[.int .i64 R, .int .i64 C, .slice (some ⟨gq, 0, none⟩) N cl] 25) := (hf6.block w.heap.size HTd.out.lt (by omega) (fun e => rowAt_ne HTd.out HOk.out.row (by decide) e.symm)).trans HTd.out
    have HZ6 : Hid (RowAt w6 (w.heap.size + 1) #[.int .i64 0, .int .i64 0, .slice none 0 0] 25) := (hf6.block (w.heap.size + 1) HZd.out.lt (by omega) (fun e => rowAt_ne HZd.out HOk.out.row (by decide) e.symm)).trans HZd.out
    have HOR : Hid (OwnR w6 v.heap.size (.slice (some ⟨gq, 0, none⟩) N cl) rs) := own_fo HOd.out.1 hf6' (by omega) (fun b hb e => HOd.out.2.2.2.1 k hkr b e hb)
    have HFo : Hid (Fo g (rwT (rs.getD k rw0)).ownBlock w5 w6) := hf6'
    have HF6 : Hid (Fr w.heap.size g w w6) := HFd.out.trans (hf6.fr (by omega) (fun b hb => by have := (own_lt HOk.out.row hb).1; omega))
    have HR6 : Hid (Rd B w6 g q6) := hr6
    have HO6 : Hid (Own w6 v.heap.size (.slice pa pn pc) tx) := hO6
    have x4 := HXC.out _ HOR.out
    have fz4 := HOR.out.row.frozenAt (k * 5 + 4)
    clear hr6 hf6 hf6' hO6 hl6 hHeld hpn
    go_wp2_with fail
    refine hK.out _ _ HT6.out (fun hHeld => ?_)
    clear hK K
    (try simp only [Act.put, List.setIfInBounds_toArray, List.set_cons_zero, List.set_cons_succ])
    refine take_at 11 82 (.pointer (some ⟨gq, k * 5, none⟩)) rfl rfl (by kernel_rfl) (by kernel_rfl) (by kernel_rfl) (fun _ _ _ h => h) (Or.inl ⟨by kernel_rfl, fun w' hS' => by go_simp⟩) hHeld ?_
    (try simp only [Act.put, List.setIfInBounds_toArray, List.set_cons_zero, List.set_cons_succ])
    refine take_at 12 83 (.pointer (some ⟨gq, k * 5 + 4, none⟩)) rfl rfl (by kernel_rfl) (by kernel_rfl) (by kernel_rfl) (fun _ _ _ h => h) (Or.inl ⟨by kernel_rfl, fun w' hS' => by go_simp⟩) hHeld ?_
    (try simp only [Act.put, List.setIfInBounds_toArray, List.set_cons_zero, List.set_cons_succ])
    refine wpAnyH_ready (rs := [13]) (by kernel_rfl) (by simp) ?_
    refine AllReadyH.cons rfl (fun K hK => ?_) AllReadyH.nil
    go_simp
    refine hK.out _ _ (HT6.out.other ⟨gq, k * 5 + 4, none⟩ (.slice pa pn pc) (by show w.heap.size ≠ gq; omega)) (fun _ => ?_)
    clear hK K
    refine wpAnyH_done (by kernel_rfl) ?_ _
    refine NoPanic.normal ?_
    have HTe : Hid (RowAt (w6.setCell ⟨gq, k * 5 + 4, none⟩ (.slice pa pn pc)) w.heap.size #[.int .i64 R, .int .i64 C, .slice (some ⟨gq, 0, none⟩) N cl] 25) := HT6.out.other ⟨gq, k * 5 + 4, none⟩ (.slice pa pn pc) (by show w.heap.size ≠ gq; omega)
    have HOe : Hid (OwnX (w6.setCell ⟨gq, k * 5 + 4, none⟩ (.slice pa pn pc)) v.heap.size (.slice (some ⟨gq, 0, none⟩) N cl) (rs.set k ((rs.getD k rw0).1, (rs.getD k rw0).2.1, (rs.getD k rw0).2.2.1, (rs.getD k rw0).2.2.2.1, pa, pn, pc)) (l.set k ((l.getD k cl0).1, (l.getD k cl0).2.1, (l.getD k cl0).2.2.1, (l.getD k cl0).2.2.2.1, tx))) := HOd.out.putBad k hkr HFo.out (by omega) pa pn pc tx HO6.out
    have HZe : Hid (RowAt (w6.setCell ⟨gq, k * 5 + 4, none⟩ (.slice pa pn pc)) (w.heap.size + 1) #[.int .i64 0, .int .i64 0, .slice none 0 0] 25) := HZ6.out.other ⟨gq, k * 5 + 4, none⟩ (.slice pa pn pc) (by show w.heap.size + 1 ≠ gq; omega)
    have HRe : Hid (Rd B (w6.setCell ⟨gq, k * 5 + 4, none⟩ (.slice pa pn pc)) g (q6)) := HR6.out.setCell (by show g < gq; omega) _
    have HFe : Hid (Fr w.heap.size g w (w6.setCell ⟨gq, k * 5 + 4, none⟩ (.slice pa pn pc))) := HF6.out.setCell (p := ⟨gq, k * 5 + 4, none⟩) (by show w.heap.size ≤ gq; omega) _
    clear x4 fz4 HT6 HOR HZ6 HF6 HR6 HO6 HFo HOd HTd HZd HFd HRd
    generalize (w6.setCell ⟨gq, k * 5 + 4, none⟩ (.slice pa pn pc)) = w9 at HTe HOe HZe HRe HFe ⊢
    go_wp2_with (first | (refine wpList_load_row rfl 25 (.tmp 3) rfl w.heap.size rfl 25 #[.int .i64 R, .int .i64 C, .slice (some ⟨gq, 0, none⟩) N cl] (0, 0) _ HTe.out Try.underlying25 rfl tab_info ?_) | (refine wpList_store_row rfl 25 (.tmp 4) (.tmp 84) rfl (w.heap.size + 1) #[.int .i64 R, .int .i64 C, .slice (some ⟨gq, 0, none⟩) N cl] rfl rfl 25 _ HZe.out tab_info rfl (cells3_one _ _ _ _ _) ?_))
    have bT : Below (w.heap.size + 1) w9 (w9.setRow (w.heap.size + 1) #[.int .i64 R, .int .i64 C, .slice (some ⟨gq, 0, none⟩) N cl]) := below_row (Below.refl _ _) (Nat.le_refl _) _
    refine bodyPost_ret (v := .agg #[.int .i64 R, .int .i64 C, .slice (some ⟨gq, 0, none⟩) N cl]) (results_cell_row (p := 4) (ty := 25) rfl _ _ (w.heap.size + 1) 25 _ _ _ rfl (RowAt.setRow HZe.out _) Try.underlying25 rfl tab_info) rfl ⟨R, C, (some ⟨gq, 0, none⟩), N, cl, l.set k ((l.getD k cl0).1, (l.getD k cl0).2.1, (l.getD k cl0).2.2.1, (l.getD k cl0).2.2.2.1, tx), q6, rfl, ⟨_, (HOe.out.setRowT HZe.out _).less (by omega)⟩, HTB.out.set k _ HL6.out, HRe.out.below bT (by omega), by omega, HFe.out.below (bT.mono (by omega))⟩
  have m5 : (sw == 5) = false := by simp; omega
  go_wp2_with fail
  refine (pick_any B g (p + 1 + 1) 8 _ HR4.out (by omega) (by omega) (by omega)).mono ?_
  rintro e w6 ⟨x, rfl, hx0, hx1, hr6, hg6⟩
  have f6 := fr_grown hg6
  have s6 := f6.size
  have HT6 : Hid (RowAt w6 w.heap.size #[.int .i64 R, .int .i64 C, .slice (some ⟨gq, 0, none⟩) N cl] 25) := HT4.out.fr f6 (by omega)
  have HO6 : Hid (OwnT w6 v.heap.size (.slice (some ⟨gq, 0, none⟩) N cl) rs l) := HO4.out.fr f6 (by omega)
  have HZ6 : Hid (RowAt w6 (w.heap.size + 1) #[.int .i64 0, .int .i64 0, .slice none 0 0] 25) := HZ4.out.fr f6 (by omega)
  have HF6 : Hid (Fr w.heap.size g w w6) := HF4.out.trans (f6.mono (by omega))
  have HR6 : Hid (Rd B w6 g (p + 1 + 1 + 1)) := hr6
  have x4 := HT6.out.cell 1
  have x4' : w6.cell? ⟨w.heap.size, 1, none⟩ = some (.int .i64 C) := x4
  have fz4 := HT6.out.frozen 1
  clear hr6 hg6 f6 HT4 HO4 HZ4 HF4 HR4 x4 t2
  go_upto_region 17 with fail
  have HTe : Hid (RowAt (w6.setCell ⟨w.heap.size, 1, none⟩ (.int .i64 (x - 1))) w.heap.size #[.int .i64 R, .int .i64 (x - 1), .slice (some ⟨gq, 0, none⟩) N cl] 25) := HT6.out.setCell 1 (.int .i64 (x - 1))
  have HOe : Hid (OwnX (w6.setCell ⟨w.heap.size, 1, none⟩ (.int .i64 (x - 1))) v.heap.size (.slice (some ⟨gq, 0, none⟩) N cl) (rs) (l)) := HO6.out.x.setT HT6.out 1 _
  have HZe : Hid (RowAt (w6.setCell ⟨w.heap.size, 1, none⟩ (.int .i64 (x - 1))) (w.heap.size + 1) #[.int .i64 0, .int .i64 0, .slice none 0 0] 25) := HZ6.out.other ⟨w.heap.size, 1, none⟩ (.int .i64 (x - 1)) (by show w.heap.size + 1 ≠ w.heap.size; omega)
  have HRe : Hid (Rd B (w6.setCell ⟨w.heap.size, 1, none⟩ (.int .i64 (x - 1))) g (p + 1 + 1 + 1)) := HR6.out.setCell (by show g < w.heap.size; omega) _
  have HFe : Hid (Fr w.heap.size g w (w6.setCell ⟨w.heap.size, 1, none⟩ (.int .i64 (x - 1)))) := HF6.out.setCell (p := ⟨w.heap.size, 1, none⟩) (Nat.le_refl _) _
  clear x4' fz4 HT6 HO6 HZ6 HF6 HR6
  generalize (w6.setCell ⟨w.heap.size, 1, none⟩ (.int .i64 (x - 1))) = w9 at HTe HOe HZe HRe HFe ⊢
  go_wp2_with (first | (refine wpList_load_row rfl 25 (.tmp 3) rfl w.heap.size rfl 25 #[.int .i64 R, .int .i64 (x - 1), .slice (some ⟨gq, 0, none⟩) N cl] (0, 0) _ HTe.out Try.underlying25 rfl tab_info ?_) | (refine wpList_store_row rfl 25 (.tmp 4) (.tmp 84) rfl (w.heap.size + 1) #[.int .i64 R, .int .i64 (x - 1), .slice (some ⟨gq, 0, none⟩) N cl] rfl rfl 25 _ HZe.out tab_info rfl (cells3_one _ _ _ _ _) ?_))
  have bT : Below (w.heap.size + 1) w9 (w9.setRow (w.heap.size + 1) #[.int .i64 R, .int .i64 (x - 1), .slice (some ⟨gq, 0, none⟩) N cl]) := below_row (Below.refl _ _) (Nat.le_refl _) _
  refine bodyPost_ret (v := .agg #[.int .i64 R, .int .i64 (x - 1), .slice (some ⟨gq, 0, none⟩) N cl]) (results_cell_row (p := 4) (ty := 25) rfl _ _ (w.heap.size + 1) 25 _ _ _ rfl (RowAt.setRow HZe.out _) Try.underlying25 rfl tab_info) rfl ⟨R, (x - 1), (some ⟨gq, 0, none⟩), N, cl, l, p + 1 + 1 + 1, rfl, ⟨_, (HOe.out.setRowT HZe.out _).less (by omega)⟩, ⟨by first | omega | exact HTB.out.1, by first | omega | exact HTB.out.2.1, HTB.out.2.2⟩, HRe.out.below bT (by omega), by omega, HFe.out.below (bT.mono (by omega))⟩
end Go.Proofs.Ytpgldodnnlcceaa
namespace Go.Proofs.Ytpgldodnnlcceaa
open Go.RowKit

theorem OwnX.below {w w' : World} {B : Nat} {v : Value} {rs : List Rw} {l : List Cl} (h : OwnX w B v rs l) (hb : Below w.heap.size w w') : OwnX w' B v rs l :=
  ⟨h.1.below hb, h.2.1, fun k hk => by obtain ⟨h0, h1, h2, h3, h4⟩ := h.2.2 k hk; exact ⟨h0, h1, h2, h3, h4.below hb⟩⟩
theorem Byt.belowC {B C : Nat} {w w' : World} {a : Option Addr} {n cap : Nat} {zs : List Int} (h : Byt B w a n cap zs) (hb : Below C w w') (hC : B ≤ C) : Byt B w' a n cap zs := by
  obtain ⟨h1, h2, h3, h4, h5⟩ := h
  refine ⟨h1, h2, h3, h4, ?_⟩
  rcases h5 with h5 | ⟨b, off, e, hlt, hc⟩
  · exact .inl h5
  · exact .inr ⟨b, off, e, hlt, fun i hi => (hb.cell (p := ⟨b, off + i, none⟩) (by show b < C; omega)).trans (hc i hi)⟩
theorem results_cell_tmp2 {fn : Func} {p u u' : Tmp} {ty : TypeId} (h : fn.results = #[.cell p ty, .tmp u, .tmp u']) (tmps : Array Value) (P : Program) (w : World) :
    (results fn tmps).run P w =
      ((asAddr (tmps.getD p undef)).run P w).andThen fun a w₁ => ((loadVar ty a).run P w₁).andThen fun v w₂ => .ok (.tuple #[v, tmps.getD u undef, tmps.getD u' undef]) w₂ := by
  simp only [results, h]
  simp [Sem.run_bind, Result.andThen]
theorem below_of_frG {C g : Nat} {a b : World} (h : Fr a.heap.size g a b) (hC : C ≤ a.heap.size) (hg : C ≤ g) : Below C a b := ⟨h.os, h.tape, h.output, h.size, fun k hk => h.block k (by omega) (by omega)⟩
theorem below_of_fr3 {C g : Nat} {w a b c : World} (h0 : Below C w a) (h1 : Below a.heap.size a b) (h2 : Fr b.heap.size g b c) (hg : C ≤ g) (hC : C ≤ a.heap.size) : Below C w c :=
  (h0.trans (h1.mono hC)).trans (below_of_frG h2 (Nat.le_trans hC h1.size) hg)

set_option maxRecDepth 100000 in
set_option maxHeartbeats 8000000 in
theorem l71Grid_any (B g p : Nat) (w : World) (h : Rd B w g p) (hp : p ≤ 100000) :
    Calls Try.prog 30 #[.pointer (some ⟨g, 0, none⟩)] w fun e w' => ∃ (R' C' : Int) (a' : Option Addr) (n' c' : Nat) (l' : List Cl) (q : Nat), e = .returned (.agg #[.int .i64 R', .int .i64 C', .slice a' n' c']) ∧ (∃ rs', OwnX w' w.heap.size (.slice a' n' c') rs' l') ∧ TabSp R' C' l' ∧ Rd B w' g q ∧ q ≤ p + 700 ∧ Fr w.heap.size g w w' := by
  have hlt := h.lt
  have HR : Hid (Rd B w g p) := h
  clear h
  go_enter Try.func30, Try.ntmps30
  go_upto_region 1 with fail
  have F0 : Fr w.heap.size g w (w.alloc (.cells #[.int .i64 0, .int .i64 0, .slice none 0 0] 25)) := (Fr.refl _ _ w).alloc (Nat.le_refl _) _
  have Z0 : RowAt (w.alloc (.cells #[.int .i64 0, .int .i64 0, .slice none 0 0] 25)) w.heap.size #[.int .i64 0, .int .i64 0, .slice none 0 0] 25 := rowAt_new _ _ _
  have HR0 : Hid (Rd B (w.alloc (.cells #[.int .i64 0, .int .i64 0, .slice none 0 0] 25)) g p) := HR.out.alloc _
  generalize (w.alloc (.cells #[.int .i64 0, .int .i64 0, .slice none 0 0] 25)) = v0 at F0 Z0 HR0 ⊢
  have zz0 := Z0.lt
  go_wp2_with fail
  refine (l71Table_any B g p _ HR0.out (by omega)).mono ?_
  rintro e w1 ⟨R, C, a, n, c, rs, l, q, rfl, hO1, hS1, hr1, hq1, hf1⟩
  have s1 := hf1.size
  go_upto_region 2 with fail
  have T2 : RowAt (w1.alloc (.cells #[.int .i64 R, .int .i64 C, .slice a n c] 25)) w1.heap.size #[.int .i64 R, .int .i64 C, .slice a n c] 25 := rowAt_new _ _ _
  have O2 : OwnT (w1.alloc (.cells #[.int .i64 R, .int .i64 C, .slice a n c] 25)) v0.heap.size (.slice a n c) rs l := hO1.below ((Below.refl _ _).alloc (Nat.le_refl _) _)
  have Z2 : RowAt (w1.alloc (.cells #[.int .i64 R, .int .i64 C, .slice a n c] 25)) w.heap.size #[.int .i64 0, .int .i64 0, .slice none 0 0] 25 := (Z0.fr hf1 (by omega)).alloc _
  have F2 : Fr w.heap.size g w (w1.alloc (.cells #[.int .i64 R, .int .i64 C, .slice a n c] 25)) := (F0.trans (hf1.mono (by omega))).alloc (by omega) _
  have HR2 : Hid (Rd B (w1.alloc (.cells #[.int .i64 R, .int .i64 C, .slice a n c] 25)) g q) := Rd.alloc hr1 _
  generalize (w1.alloc (.cells #[.int .i64 R, .int .i64 C, .slice a n c] 25)) = v2 at T2 O2 Z2 F2 HR2 ⊢
  have HS : Hid (TabSm R C l) := hS1
  have zT := T2.lt
  obtain ⟨X, hX⟩ : ∃ X, w1.heap.size = X := ⟨_, rfl⟩
  rw [hX] at T2 zT ⊢
  have hXw : w.heap.size < X := by omega
  clear hO1 hS1 hr1 hf1 F0 Z0 HR0 HR hX
  go_wp2_with fail
  refine (pick_any B g q 10 _ HR2.out (by omega) (by omega) (by omega)).mono ?_
  rintro e w3 ⟨x, rfl, hx0, hx1, hr3, hg3⟩
  have f3 := fr_grown hg3
  have s3 := f3.size
  have HR3 : Hid (Rd B w3 g (q + 1)) := hr3
  have HT3 : Hid (RowAt w3 X #[.int .i64 R, .int .i64 C, .slice a n c] 25) := T2.fr f3 (by omega)
  have HO3 : Hid (OwnT w3 v0.heap.size (.slice a n c) rs l) := O2.fr f3 (by omega)
  have HZ3 : Hid (RowAt w3 w.heap.size #[.int .i64 0, .int .i64 0, .slice none 0 0] 25) := Z2.fr f3 (by omega)
  have sF2 := F2.size
  have HF3 : Hid (Fr w.heap.size g w w3) := F2.trans (f3.mono (by omega))
  clear hr3 hg3 f3 T2 O2 Z2 F2 HR2
  by_cases h0 : x = 0
  · subst h0
    go_wp2_with (first | (refine wpList_load_row rfl 25 (.tmp 3) rfl X rfl 25 #[.int .i64 R, .int .i64 C, .slice a n c] (0, 0) _ HT3.out Try.underlying25 rfl tab_info ?_) | (go_at_call 52; refine (l71Spoil_any B g (q + 1) R C a n c l _ HR3.out (by omega) HO3.out.tab HS.out).mono ?_; rintro e w4 ⟨R', C', a', n', c', l', q', rfl, ⟨rs', hX4⟩, hS4, hr4, hq4, hf4⟩; have HZ4 : Hid (RowAt w4 w.heap.size #[.int .i64 0, .int .i64 0, .slice none 0 0] 25) := HZ3.out.fr hf4 (by omega)) | (refine wpList_store_row rfl 25 (.tmp 2) (.tmp 11) rfl w.heap.size #[.int .i64 R', .int .i64 C', .slice a' n' c'] rfl rfl 25 _ HZ4.out tab_info rfl (cells3_one _ _ _ _ _) ?_))
    have bT : Below w.heap.size w4 (w4.setRow w.heap.size #[.int .i64 R', .int .i64 C', .slice a' n' c']) := below_row (Below.refl _ _) (Nat.le_refl _) _
    have sF3 := HF3.out.size
    refine bodyPost_ret (v := .agg #[.int .i64 R', .int .i64 C', .slice a' n' c']) (results_cell_row (p := 2) (ty := 25) rfl _ _ w.heap.size 25 _ _ _ rfl (RowAt.setRow HZ4.out _) Try.underlying25 rfl tab_info) rfl ⟨R', C', a', n', c', l', q', rfl, ⟨_, (hX4.setRowT HZ4.out _).less (by omega)⟩, hS4, hr4.below bT hlt, by omega, (HF3.out.trans (hf4.mono (by omega))).below bT⟩
  · have n0 : (x == 0) = false := by simp; omega
    go_wp2_with (first | (refine wpList_load_row rfl 25 (.tmp 3) rfl X rfl 25 #[.int .i64 R, .int .i64 C, .slice a n c] (0, 0) _ HT3.out Try.underlying25 rfl tab_info ?_) | (refine wpList_store_row rfl 25 (.tmp 2) (.tmp 12) rfl w.heap.size #[.int .i64 R, .int .i64 C, .slice a n c] rfl rfl 25 _ HZ3.out tab_info rfl (cells3_one _ _ _ _ _) ?_))
    have bT : Below w.heap.size w3 (w3.setRow w.heap.size #[.int .i64 R, .int .i64 C, .slice a n c]) := below_row (Below.refl _ _) (Nat.le_refl _) _
    refine bodyPost_ret (v := .agg #[.int .i64 R, .int .i64 C, .slice a n c]) (results_cell_row (p := 2) (ty := 25) rfl _ _ w.heap.size 25 _ _ _ rfl (RowAt.setRow HZ3.out _) Try.underlying25 rfl tab_info) rfl ⟨R, C, a, n, c, l, q + 1, rfl, ⟨_, (HO3.out.x.setRowT HZ3.out _).less (by omega)⟩, HS.out.sp, HR3.out.below bT hlt, by omega, HF3.out.below bT⟩
end Go.Proofs.Ytpgldodnnlcceaa
namespace Go.Proofs.Ytpgldodnnlcceaa
open Go.RowKit

/-- What a drawing function holds: what lay there first, the reader, the block of its answer, the block of its table, and that table. -/
structure HoldR (w0 : World) (B g p Zb Tb : Nat) (R C : Int) (a : Option Addr) (n c : Nat) (l : List Cl) (u : World) : Prop where
  bel : Below w0.heap.size w0 u
  lo : w0.heap.size ≤ g
  zlo : w0.heap.size ≤ Zb
  rd : Rd B u g p
  zrow : RowAt u Zb #[.int .i64 0, .int .i64 0, .slice none 0 0] 25
  zg : Zb < g
  trow : RowAt u Tb #[.int .i64 R, .int .i64 C, .slice a n c] 25
  gt : g < Tb
  own : ∃ B' os, g < B' ∧ OwnX u B' (.slice a n c) os l
section
variable {w0 u u' : World} {B g p Zb Tb : Nat} {R C : Int} {a : Option Addr} {n c : Nat} {l : List Cl}
theorem HoldR.fr (h : HoldR w0 B g p Zb Tb R C a n c l u) {q : Nat} (hf : Fr u.heap.size g u u') (hr : Rd B u' g q) : HoldR w0 B g q Zb Tb R C a n c l u' where
  bel := h.bel.trans (below_of_frG hf h.bel.size h.lo)
  lo := h.lo
  zlo := h.zlo
  rd := hr
  zrow := h.zrow.fr hf (by have := h.zg; omega)
  zg := h.zg
  trow := h.trow.fr hf (by have := h.gt; omega)
  gt := h.gt
  own := by
    obtain ⟨B', os, hB, ho⟩ := h.own
    exact ⟨B', os, hB, ho.fr hf hB⟩
theorem HoldR.pick (h : HoldR w0 B g p Zb Tb R C a n c l u) (hg : u.grownBy u' (some g)) (hr : Rd B u' g (p + 1)) : HoldR w0 B g (p + 1) Zb Tb R C a n c l u' := h.fr (fr_grown hg) hr
theorem HoldR.go (h : HoldR w0 B g p Zb Tb R C a n c l u) (hb : Below u.heap.size u u') : HoldR w0 B g p Zb Tb R C a n c l u' :=
  h.fr ⟨hb.os, hb.tape, hb.output, hb.size, fun k hk _ => hb.block k hk⟩ (h.rd.below hb h.rd.lt)
theorem HoldR.tab (h : HoldR w0 B g p Zb Tb R C a n c l u) : Tab u a n c l := by
  obtain ⟨B', os, hB, ho⟩ := h.own
  exact ho.tab
/-- Another table, drawn and laid into the table's block. -/
theorem HoldR.next (h : HoldR w0 B g p Zb Tb R C a n c l u) {q : Nat} (hf : Fr u.heap.size g u u') (hr : Rd B u' g q) {R' C' : Int} {a' : Option Addr} {n' c' : Nat} {l' : List Cl} {os : List Rw} (ho : OwnX u' u.heap.size (.slice a' n' c') os l') :
    HoldR w0 B g q Zb Tb R' C' a' n' c' l' (u'.setRow Tb #[.int .i64 R', .int .i64 C', .slice a' n' c']) := by
  have k := h.fr hf hr
  have hb : Below Tb u' (u'.setRow Tb #[.int .i64 R', .int .i64 C', .slice a' n' c']) := below_row (Below.refl _ _) (Nat.le_refl _) _
  have hl := h.rd.lt
  have hgt := h.gt
  have hlo := h.lo
  have hzg := h.zg
  exact { bel := k.bel.trans (hb.mono (by omega)), lo := hlo, zlo := h.zlo, rd := hr.below hb hgt, zrow := k.zrow.setRowOther _ _ (by omega), zg := hzg, trow := k.trow.setRow _, gt := hgt, own := ⟨_, os, hl, ho.setRowT k.trow _⟩ }
/-- The table is laid into the block of the answer. -/
theorem HoldR.out (h : HoldR w0 B g p Zb Tb R C a n c l u) : Tab (u.setRow Zb #[.int .i64 R, .int .i64 C, .slice a n c]) a n c l ∧ RowAt (u.setRow Zb #[.int .i64 R, .int .i64 C, .slice a n c]) Zb #[.int .i64 R, .int .i64 C, .slice a n c] 25 ∧ Below w0.heap.size w0 (u.setRow Zb #[.int .i64 R, .int .i64 C, .slice a n c]) := by
  obtain ⟨B', os, hB, ho⟩ := h.own
  exact ⟨(ho.setRowT h.zrow _).tab, h.zrow.setRow _, below_row h.bel h.zlo _⟩
end
/-- The beginning: the reader is made, and a table drawn. -/
theorem HoldR.first {w v0 w1 w2 : World} {B q : Nat} {R C : Int} {a : Option Addr} {n c : Nat} {l : List Cl} {os : List Rw} (B0 : Below w.heap.size w v0) (Z0 : RowAt v0 w.heap.size #[.int .i64 0, .int .i64 0, .slice none 0 0] 25) (hb1 : Below v0.heap.size v0 w1) (hlt : v0.heap.size < w1.heap.size)
    (hf : Fr w1.heap.size v0.heap.size w1 w2) (hr : Rd B w2 v0.heap.size q) (ho : OwnX w2 w1.heap.size (.slice a n c) os l) :
    HoldR w B v0.heap.size q w.heap.size w2.heap.size R C a n c l (w2.alloc (.cells #[.int .i64 R, .int .i64 C, .slice a n c] 25)) := by
  have s0 := B0.size
  have zz := Z0.lt
  have s1 := hb1.size
  have s2 := hf.size
  have hb2 : Below w2.heap.size w2 (w2.alloc (.cells #[.int .i64 R, .int .i64 C, .slice a n c] 25)) := (Below.refl _ _).alloc (Nat.le_refl _) _
  exact { bel := (below_of_fr3 B0 hb1 hf (by omega) s0).alloc (by omega) _, lo := s0, zlo := Nat.le_refl _, rd := hr.alloc _, zrow := ((Z0.below hb1 zz).fr hf (by omega)).alloc _, zg := zz, trow := rowAt_new _ _ _, gt := by omega, own := ⟨_, os, hlt, ho.below hb2⟩ }
end Go.Proofs.Ytpgldodnnlcceaa
