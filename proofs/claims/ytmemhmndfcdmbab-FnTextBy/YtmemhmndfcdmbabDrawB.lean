import Derived.Test.YtmemhmndfcdmbabDrawT
import Derived.Deep.RegionHeld3
import Derived.Deep.AppendLies
import Derived.Deep.Cut
import Derived.Deep.CutRange
import Derived.Deep.CutBlock
import Derived.Deep.DeepCutAuto
namespace Go.Proofs.Ytmemhmndfcdmbab
open Go.RowKit

theorem flat_oneCell (l : List Sg) : ∀ u ∈ flat l, u.oneCell' = true := by
  intro u hu
  simp only [flat, List.mem_flatMap] at hu
  obtain ⟨s, _, hs⟩ := hu
  exact three_oneCell _ _ _ u hs

section
variable {P : Program}
/-- 'append(v, x...)', v not nil and owned, x owned (it may be nil). -/
theorem run_append_two (w : World) (t ty : TypeId) (base base' : Nat) (e : TypeId) (i : TypeInfo) (z : Value) (size bytes : Nat) (ht : P.underlying t = some (.slice e)) (hi : P.info? e = some i) (hz : i.zero = some z)
    (hsize : i.size = size) (hby : i.bytes = bytes) (hzs : z.cells.size = size) (hsz : 0 < size)
    (k n cap : Nat) (xs : List Value) (hown : w.ownsRow base e size (.slice (some ⟨k, 0, none⟩) n cap) n xs)
    (xa : Option Addr) (m c : Nat) (news : List Value) (hsrc : w.ownsRow base' e size (.slice xa m c) m news) (h1 : ∀ u ∈ news, u.oneCell' = true)
    (h63 : n + m ≤ maxLen) (hbytes : (n + m) * bytes ≤ 140737488355328) (hbase : base ≤ w.heap.size) :
    ∃ g cap' w', (Builtin.append_ #[t, t] ty #[.slice (some ⟨k, 0, none⟩) n cap, .slice xa m c]).run P w = .ok (.slice (some ⟨g, 0, none⟩) (n + m) cap') w' ∧
      w'.ownsRow base e size (.slice (some ⟨g, 0, none⟩) (n + m) cap') (n + m) (xs ++ news) ∧ w.grownBy w' (some k) := by
  rcases hsrc.2 with ⟨hv, h0⟩ | ⟨g', cap', cur, hv, r⟩
  · simp only [Value.slice.injEq] at hv
    obtain ⟨rfl, rfl, rfl⟩ := hv
    have hnil : news = [] := List.eq_nil_of_length_eq_zero (by simpa using hsrc.1)
    subst hnil
    refine ⟨k, cap, w, run_append_owned_none (P := P) w base t ty e i size ht hi _ n xs hown, by simpa using hown, ⟨rfl, rfl, rfl, Nat.le_refl _, fun _ _ _ => rfl⟩⟩
  · simp only [Value.slice.injEq, true_and] at hv
    obtain ⟨rfl, rfl⟩ := hv
    obtain ⟨v', w', hr, h2, h3, h4, _⟩ := run_append_own_at (P := P) w base t ty e i z size bytes ht hi hz hsize hby hzs hsz _ n xs hown ⟨g', 0, none⟩ m c news hsrc.1 (hsrc.cells (g := g') rfl) h1 h63 hbytes hbase
    rcases h2.2 with ⟨hnil, _⟩ | ⟨q, cq, cu, hq, _⟩
    · exact absurd (h4.1 hnil).1 (by simp)
    · subst hq
      exact ⟨q, cq, w', hr, h2, h3⟩

theorem step_append_two (w : World) {ops : Array Oper} {o : Oper} {a : Act} {K : Act → World → Prop} {Q : Exit → Act → World → Prop} {E : Prop} (hgd : o.guard = none) (s x : Operand) (t : TypeId)
    (ho : o.op = .call { callee := .builtin .append, args := #[s, x], argTypes := #[t, t] })
    (base base' : Nat) (e : TypeId) (i : TypeInfo) (z : Value) (size bytes : Nat) (ht : P.underlying t = some (.slice e)) (hi : P.info? e = some i) (hz : i.zero = some z)
    (hsize : i.size = size) (hby : i.bytes = bytes) (hzs : z.cells.size = size) (hsz : 0 < size)
    (k n cap : Nat) (xs : List Value) (hs : a.eval s = .slice (some ⟨k, 0, none⟩) n cap) (hown : w.ownsRow base e size (.slice (some ⟨k, 0, none⟩) n cap) n xs)
    (xa : Option Addr) (m c : Nat) (news : List Value) (hx : a.eval x = .slice xa m c) (hsrc : w.ownsRow base' e size (.slice xa m c) m news) (h1 : ∀ u ∈ news, u.oneCell' = true)
    (h63 : n + m ≤ maxLen) (hbytes : (n + m) * bytes ≤ 140737488355328) (hbase : base ≤ w.heap.size) (nm : Nat) (hnm : n + m = nm)
    (h : ∀ g cap' w', w'.ownsRow base e size (.slice (some ⟨g, 0, none⟩) nm cap') nm (xs ++ news) → w.grownBy w' (some k) → K (a.put o.dst (.slice (some ⟨g, 0, none⟩) nm cap')) w') :
    if Region.wanted o (yielded ops a.tmps) = true then Oper.wp P o a w K Q else E := by
  subst hnm
  have hw : Region.wanted o (yielded ops a.tmps) = true := by simp [Region.wanted, hgd]
  rw [if_pos hw]
  obtain ⟨g, cap', w', hr, h2, h3⟩ := run_append_two (P := P) w t o.type base base' e i z size bytes ht hi hz hsize hby hzs hsz k n cap xs hown xa m c news hsrc h1 h63 hbytes hbase
  unfold Oper.wp execOp
  simp only [ho, resolve, invoke, builtin, Sem.run_bind, Sem.run_pure, Result.andThen_ok, List.map_toArray, List.map_cons, List.map_nil, hs, hx, hr]
  exact h g cap' w' h2 h3
end

theorem Own.base {w : World} {B B' : Nat} {v : Value} {l : List Sg} (h : Own w B' v l) (hB : B ≤ B') : Own w B v l :=
  ⟨h.1, h.2.elim .inl (fun ⟨g, cap, cur, x, y, z⟩ => .inr ⟨g, cap, cur, x, Nat.le_trans hB y, z⟩)⟩
theorem heap_two_first (w : World) (o1 o2 : Obj) : ((w.alloc o1).alloc o2).heap[w.heap.size]? = some o1 := (Below.heap_alloc _ _ _ (by simp)).trans (heap_alloc_new w o1)
theorem heap_two_second (w : World) (o1 o2 : Obj) : ((w.alloc o1).alloc o2).heap[w.heap.size + 1]? = some o2 := by simpa using heap_alloc_new (w.alloc o1) o2
theorem own_empty_at {w : World} {C k : Nat} (hk : C ≤ k) (h : w.heap[k]? = some (.cells #[] 30 (0, 0))) : w.ownsRow C 30 3 (.slice (some ⟨k, 0, none⟩) 0 0) 0 [] :=
  ⟨rfl, .inr ⟨k, 0, #[], rfl, hk, h, Nat.le_refl _, Nat.zero_le _, rfl, rfl⟩⟩
theorem own_one_at {w : World} {C k : Nat} {s : Sg} (hk : C ≤ k) (h : w.heap[k]? = some (.cells #[.int .u8 s.1, .int .i64 s.2.1, .int .i64 s.2.2] 30 (0, 0))) : w.ownsRow C 30 3 (.slice (some ⟨k, 0, none⟩) 1 1) 1 (sgCells s) :=
  ⟨rfl, .inr ⟨k, 1, _, rfl, hk, h, Nat.le_refl _, by unfold maxLen; omega, rfl, rfl⟩⟩

def lenV : Value → Nat | .slice _ n _ => n | _ => 0

theorem five_cell (w1 w2 : World) (g : Nat) (hg : g < w1.heap.size) (h : (w1.alloc (.cells #[.int .u8 65, .int .u8 10, .int .u8 0, .int .u8 123, .int .u8 47] 5)).grownBy w2 (some g)) (x : Int) (h0 : 0 ≤ x) (h1 : x < 5) :
    ∃ z : Int, w2.cell? ⟨w1.heap.size, x.toNat, none⟩ = some (.int .u8 z) := by
  have e : ∀ o, w2.cell? ⟨w1.heap.size, o, none⟩ = (#[Value.int .u8 65, .int .u8 10, .int .u8 0, .int .u8 123, .int .u8 47])[o]? := fun o =>
    (grown_cell h (by simp) (by omega)).trans (cell_of_row _ _ _ _ _ _ (heap_alloc_new w1 _))
  rcases (show x = 0 ∨ x = 1 ∨ x = 2 ∨ x = 3 ∨ x = 4 from by omega) with rfl | rfl | rfl | rfl | rfl
  · exact ⟨65, e 0⟩
  · exact ⟨10, e 1⟩
  · exact ⟨0, e 2⟩
  · exact ⟨123, e 3⟩
  · exact ⟨47, e 4⟩
theorem two_cell (w1 w2 : World) (g : Nat) (hg : g < w1.heap.size) (h : (w1.alloc (.cells #[.int .i64 (-1), .int .i64 4] 3)).grownBy w2 (some g)) (x : Int) (h0 : 0 ≤ x) (h1 : x < 2) :
    ∃ z : Int, w2.cell? ⟨w1.heap.size, x.toNat, none⟩ = some (.int .i64 z) := by
  have e : ∀ o, w2.cell? ⟨w1.heap.size, o, none⟩ = (#[Value.int .i64 (-1), .int .i64 4])[o]? := fun o =>
    (grown_cell h (by simp) (by omega)).trans (cell_of_row _ _ _ _ _ _ (heap_alloc_new w1 _))
  rcases (show x = 0 ∨ x = 1 from by omega) with rfl | rfl
  · exact ⟨-1, e 0⟩
  · exact ⟨4, e 1⟩

set_option maxRecDepth 100000 in
set_option maxHeartbeats 4000000 in
theorem l71Bad_any (B g p C : Nat) (a : Option Addr) (n c : Nat) (l : List Sg) (w : World) (h : Rd B w g p) (hp : p ≤ 10000) (ho : Own w C (.slice a n c) l) (hgC : g < C) (hC : C ≤ w.heap.size) (hn : n ≤ 24) :
    Calls Try.prog 29 #[.pointer (some ⟨g, 0, none⟩), .slice a n c] w fun e w' => ∃ (v : Value) (l' : List Sg) (q : Nat), e = .returned v ∧ Own w' C v l' ∧ l'.length ≤ 25 ∧ Rd B w' g q ∧ q ≤ p + 40 ∧ Fr C g w w' := by
  have hlt := h.lt
  obtain ⟨i0, hi, hz0, hz1, hz2⟩ := info_parts Try.info30
  have HR : Hid (Rd B w g p) := h
  have HO : Hid (Own w C (.slice a n c) l) := ho
  have HL : Hid (n = l.length) := ho.len
  clear h ho
  go_enter Try.func29, Try.ntmps29
  go_wp2_with fail
  refine (pick_any B g p 6 _ (HR.out.alloc _) (by omega) (by omega) (by omega)).mono ?_
  rintro e w1 ⟨u, rfl, hu0, hu1, hr1, hg1⟩
  have z1 := hg1.size
  simp only [World.size_alloc] at z1
  have hf1 : Fr w.heap.size g w w1 := ((Fr.refl _ _ w).alloc (Nat.le_refl _) _).grown hg1 (by simp)
  have HE : Hid (w1.heap[w.heap.size]? = some (.cells #[.int .u8 120, .int .i64 0, .int .i64 0] 30 (0, 0))) := (hg1.block w.heap.size (by simp) (by simp; omega)).trans (heap_alloc_new w _)
  have HR1 : Hid (Rd B w1 g (p + 1)) := hr1
  clear hr1
  go_upto_block 0 with fail
  go_cut [1] (fun tv wx => tv = .slice a n c ∧ ∃ (s : Sg) (q : Nat), wx.heap[w.heap.size]? = some (.cells #[.int .u8 s.1, .int .i64 s.2.1, .int .i64 s.2.2] 30 (0, 0)) ∧ Rd B wx g q ∧ q ≤ p + 2 ∧ Fr w.heap.size g w wx ∧ w.heap.size < wx.heap.size)
  case first =>
    by_cases h0u : u = 0
    · subst h0u
      go_wp2_with fail
      refine (pick_any B g (p + 1) 5 _ (HR1.out.alloc _) (by omega) (by omega) (by omega)).mono ?_
      rintro e w2 ⟨y, rfl, hy0, hy1, hr2, hg2⟩
      obtain ⟨z, hz⟩ := five_cell w1 w2 g (by omega) hg2 y hy0 hy1
      have z2 := hg2.size
      simp only [World.size_alloc] at z2
      have e2 : w2.heap[w.heap.size]? = some (.cells #[.int .u8 120, .int .i64 0, .int .i64 0] 30 (0, 0)) := (hg2.block w.heap.size (by simp; omega) (by simp; omega)).trans ((Below.heap_alloc w1 _ w.heap.size (by omega)).trans HE.out)
      have HE2 : Hid (w2.heap[w.heap.size]? = some (.cells #[.int .u8 120, .int .i64 0, .int .i64 0] 30 (0, 0))) := e2
      obtain ⟨o0, d0⟩ : ∃ v, w2.cell? ⟨w.heap.size, 0, none⟩ = some v := ⟨_, cell_of_row w2 _ 0 _ _ _ e2⟩
      have f0 : w2.frozen? ⟨w.heap.size, 0, none⟩ = false := frozen_of_row w2 _ 0 _ _ e2
      clear e2
      have HR2 : Hid (Rd B w2 g (p + 2)) := hr2
      clear hr2
      go_wp2_with fail
      go_meet
      exact ⟨rfl, (z, 0, 0), p + 2, (heap_setCell_same w2 _ 0 _ _ _ HE2.out), HR2.out.setCell (by simp; omega) _, by omega, ((hf1.alloc (by omega) _).grown hg2 (by simp; omega)).setCell (by simp) _, by simp [World.setCell]; omega⟩
    · have g0 : (u == 0) = false := by simp; omega
      by_cases h1u : u = 1
      · subst h1u
        go_wp2_with fail
        refine (pick_any B g (p + 1) 2 _ (HR1.out.alloc _) (by omega) (by omega) (by omega)).mono ?_
        rintro e w2 ⟨y, rfl, hy0, hy1, hr2, hg2⟩
        obtain ⟨z, hz⟩ := two_cell w1 w2 g (by omega) hg2 y hy0 hy1
        have z2 := hg2.size
        simp only [World.size_alloc] at z2
        have e2 : w2.heap[w.heap.size]? = some (.cells #[.int .u8 120, .int .i64 0, .int .i64 0] 30 (0, 0)) := (hg2.block w.heap.size (by simp; omega) (by simp; omega)).trans ((Below.heap_alloc w1 _ w.heap.size (by omega)).trans HE.out)
        have HE2 : Hid (w2.heap[w.heap.size]? = some (.cells #[.int .u8 120, .int .i64 0, .int .i64 0] 30 (0, 0))) := e2
        obtain ⟨o0, d0⟩ : ∃ v, w2.cell? ⟨w.heap.size, 1, none⟩ = some v := ⟨_, cell_of_row w2 _ 1 _ _ _ e2⟩
        have f0 : w2.frozen? ⟨w.heap.size, 1, none⟩ = false := frozen_of_row w2 _ 1 _ _ e2
        clear e2
        have HR2 : Hid (Rd B w2 g (p + 2)) := hr2
        clear hr2
        go_wp2_with fail
        go_meet
        exact ⟨rfl, (120, z, 0), p + 2, (heap_setCell_same w2 _ 1 _ _ _ HE2.out), HR2.out.setCell (by simp; omega) _, by omega, ((hf1.alloc (by omega) _).grown hg2 (by simp; omega)).setCell (by simp) _, by simp [World.setCell]; omega⟩
      · have g1 : (u == 1) = false := by simp; omega
        by_cases h2u : u = 2
        · subst h2u
          go_wp2_with fail
          refine (pick_any B g (p + 1) 2 _ (HR1.out.alloc _) (by omega) (by omega) (by omega)).mono ?_
          rintro e w2 ⟨y, rfl, hy0, hy1, hr2, hg2⟩
          obtain ⟨z, hz⟩ := two_cell w1 w2 g (by omega) hg2 y hy0 hy1
          have z2 := hg2.size
          simp only [World.size_alloc] at z2
          have e2 : w2.heap[w.heap.size]? = some (.cells #[.int .u8 120, .int .i64 0, .int .i64 0] 30 (0, 0)) := (hg2.block w.heap.size (by simp; omega) (by simp; omega)).trans ((Below.heap_alloc w1 _ w.heap.size (by omega)).trans HE.out)
          have HE2 : Hid (w2.heap[w.heap.size]? = some (.cells #[.int .u8 120, .int .i64 0, .int .i64 0] 30 (0, 0))) := e2
          obtain ⟨o0, d0⟩ : ∃ v, w2.cell? ⟨w.heap.size, 2, none⟩ = some v := ⟨_, cell_of_row w2 _ 2 _ _ _ e2⟩
          have f0 : w2.frozen? ⟨w.heap.size, 2, none⟩ = false := frozen_of_row w2 _ 2 _ _ e2
          clear e2
          have HR2 : Hid (Rd B w2 g (p + 2)) := hr2
          clear hr2
          go_wp2_with fail
          go_meet
          exact ⟨rfl, (120, 0, z), p + 2, (heap_setCell_same w2 _ 2 _ _ _ HE2.out), HR2.out.setCell (by simp; omega) _, by omega, ((hf1.alloc (by omega) _).grown hg2 (by simp; omega)).setCell (by simp) _, by simp [World.setCell]; omega⟩
        · have g2 : (u == 2) = false := by simp; omega
          by_cases h3u : u = 3
          · subst h3u
            obtain ⟨o1, d1⟩ : ∃ v, w1.cell? ⟨w.heap.size, 1, none⟩ = some v := ⟨_, cell_of_row w1 _ 1 _ _ _ HE.out⟩
            obtain ⟨o2, d2⟩ : ∃ v, w1.cell? ⟨w.heap.size, 2, none⟩ = some v := ⟨_, cell_of_row w1 _ 2 _ _ _ HE.out⟩
            have f1 : w1.frozen? ⟨w.heap.size, 1, none⟩ = false := frozen_of_row w1 _ 1 _ _ HE.out
            have f2 : w1.frozen? ⟨w.heap.size, 2, none⟩ = false := frozen_of_row w1 _ 2 _ _ HE.out
            go_wp2_with fail
            go_meet
            exact ⟨rfl, (120, 2, 2), p + 1, heap_setCell_same _ _ 2 _ _ _ (heap_setCell_same w1 _ 1 _ _ _ HE.out), (HR1.out.setCell (by simp; omega) _).setCell (by simp; omega) _, by omega, (hf1.setCell (by simp) _).setCell (by simp) _, by simp [World.setCell]; omega⟩
          · have g3 : (u == 3) = false := by simp; omega
            by_cases h4u : u = 4
            · subst h4u
              go_wp2_with fail
              go_loopw [1] (fun v wr => ∃ (a : Option Addr) (m c : Nat) (l : List Sg) (q : Nat), v = .slice a m c ∧ m ≤ 25 ∧ Own wr C (.slice a m c) l ∧ (Value.slice a m c).ownBlock ≠ some w.heap.size ∧ wr.heap[w.heap.size]? = some (.cells #[.int .u8 120, .int .i64 0, .int .i64 0] 30 (0, 0)) ∧ Rd B wr g q ∧ q ≤ p + 1 + m ∧ Fr C g w wr ∧ w.heap.size < wr.heap.size) (fun v _ => 26 - lenV v)
              case atStart =>
                exact ⟨a, n, c, l, p + 1, rfl, by omega, HO.out.fr hf1 hgC, fun e => by have := (HO.out.row.lt _ e).2; omega, HE.out, HR1.out, by omega, hf1.mono hC, by omega⟩
              case round =>
                obtain ⟨a, m, c, l, q, rfl, hm, ho, hob, hbx, hr, hq, hf, hz⟩ := hrel
                have HOr : Hid (Own wr C (.slice a m c) l) := ho
                have HLr : Hid (m = l.length) := ho.len
                have HX : Hid (wr.heap[w.heap.size]? = some (.cells #[.int .u8 120, .int .i64 0, .int .i64 0] 30 (0, 0))) := hbx
                have HB : Hid ((Value.slice a m c).ownBlock ≠ some w.heap.size) := hob
                have HRr : Hid (Rd B wr g q) := hr
                have hcap := ho.txt.2.1
                have hcm := ho.txt.2.2.1
                unfold maxLen at hcm
                clear ho hob hbx hr
                go_wp2_with fail
                refine (pick_any B g q 2 _ HRr.out (by omega) (by omega) (by omega)).mono ?_
                rintro e w2 ⟨x, rfl, hx0, hx1, hr2, hg2⟩
                have z2 := hg2.size
                have hfr2 : Fr wr.heap.size g wr w2 := (Fr.refl _ _ wr).grown hg2 (Nat.le_refl _)
                have e2 : w2.heap[w.heap.size]? = some (.cells #[.int .u8 120, .int .i64 0, .int .i64 0] 30 (0, 0)) := (hg2.block w.heap.size hz (by simp; omega)).trans HX.out
                have HX2 : Hid (w2.heap[w.heap.size]? = some (.cells #[.int .u8 120, .int .i64 0, .int .i64 0] 30 (0, 0))) := e2
                have d0 : w2.cell? ⟨w.heap.size, 0, none⟩ = some (.int .u8 120) := by rw [cell_of_row w2 _ 0 _ _ _ e2]; rfl
                have d1 : w2.cell? ⟨w.heap.size, 1, none⟩ = some (.int .i64 0) := by rw [cell_of_row w2 _ 1 _ _ _ e2]; rfl
                have d2 : w2.cell? ⟨w.heap.size, 2, none⟩ = some (.int .i64 0) := by rw [cell_of_row w2 _ 2 _ _ _ e2]; rfl
                clear e2
                have HO2 : Hid (Own w2 C (.slice a m c) l) := HOr.out.fr hfr2 hgC
                have HR2 : Hid (Rd B w2 g (q + 1)) := hr2
                clear hr2
                by_cases hlt2 : (m : Int) < 24 + x
                · go_wp2_with (at_builtin; refine wpList_append_lies _ rfl (.tmp 45) (.tmp 47) 23 rfl C 30 i0 (.agg #[.int .u8 0, .int .i64 0, .int .i64 0]) 3 24 Try.underlying23 hi hz0 hz1 hz2 rfl (by omega) (.slice a m c) m (flat l) rfl (HO2.out.row.alloc _) ⟨w2.heap.size, 0, none⟩ 1 1 [.int .u8 120, .int .i64 0, .int .i64 0] rfl rfl (cell_three_new w2 _ _ _ _) (three_oneCell _ _ _) (by omega) (by unfold maxLen; omega) (by omega) (by simp; omega) (w2.heap.size + 1) (by simp) ?_; intro gg cc w3 hown3 hgrow hat hltg)
                  have hr3 : Rd B w3 g (q + 1) := (HR2.out.alloc _).grownAt hgrow (fun k hk => by have := (HO2.out.row.lt k hk).1; omega)
                  have hf3 : Fr C g w w3 := ((hf.trans (hfr2.mono (by omega))).alloc (by omega) _).grownAt hgrow (by simp; omega) (fun k hk => (HO2.out.row.lt k hk).1)
                  have ho3 : Own w3 C (.slice (some ⟨gg, 0, none⟩) (m + 1) cc) (l ++ [(120, 0, 0)]) := Own.snoc hown3 (by rw [HLr.out]) rfl
                  have hx3 : w3.heap[w.heap.size]? = some (.cells #[.int .u8 120, .int .i64 0, .int .i64 0] 30 (0, 0)) :=
                    (hgrow.block w.heap.size (by simp; omega) (fun e => HB.out e.symm)).trans ((Below.heap_alloc w2 _ w.heap.size (by omega)).trans HX2.out)
                  have hb3 : (Value.slice (some ⟨gg, 0, none⟩) (m + 1) cc).ownBlock ≠ some w.heap.size := by
                    intro e
                    simp only [Value.ownBlock, Option.some.injEq] at e
                    rcases hat with h | h
                    · exact HB.out (by rw [h, e])
                    · omega
                  have HH : Hid (Own w3 C (.slice (some ⟨gg, 0, none⟩) (m + 1) cc) (l ++ [(120, 0, 0)])) := ho3
                  have HB3 : Hid ((Value.slice (some ⟨gg, 0, none⟩) (m + 1) cc).ownBlock ≠ some w.heap.size) := hb3
                  have HX3 : Hid (w3.heap[w.heap.size]? = some (.cells #[.int .u8 120, .int .i64 0, .int .i64 0] 30 (0, 0))) := hx3
                  have hz3 : w.heap.size < w3.heap.size := by have := hgrow.size; simp only [World.size_alloc] at this; omega
                  clear hown3 hgrow hat ho3 hb3 hx3
                  go_wp2_with fail
                  go_roundw
                  case rel => exact ⟨some ⟨gg, 0, none⟩, m + 1, cc, l ++ [(120, 0, 0)], q + 1, rfl, by omega, HH.out, HB3.out, HX3.out, hr3, by omega, hf3, hz3⟩
                  case measure => simp [lenV]; omega
                · go_wp2_with fail
                  go_ret
                  exact ⟨_, l, q + 1, rfl, HO2.out, by rw [← HLr.out]; omega, HR2.out, by omega, hf.trans (hfr2.mono (by omega))⟩
            · have g4 : (u == 4) = false := by simp; omega
              go_wp2_with fail
              go_meet
              exact ⟨rfl, (120, 0, 0), p + 1, HE.out, HR1.out, by omega, hf1, by omega⟩
  case rest =>
    obtain ⟨rfl, s, q, hbx, hrx, hq, hfx, hzx⟩ := hcut
    have HOx : Hid (Own wc C (.slice a n c) l) := HO.out.fr hfx hgC
    have HRx : Hid (Rd B wc g q) := hrx
    have d0 : wc.cell? ⟨w.heap.size, 0, none⟩ = some (.int .u8 s.1) := by rw [cell_of_row wc _ 0 _ _ _ hbx]; rfl
    have d1 : wc.cell? ⟨w.heap.size, 1, none⟩ = some (.int .i64 s.2.1) := by rw [cell_of_row wc _ 1 _ _ _ hbx]; rfl
    have d2 : wc.cell? ⟨w.heap.size, 2, none⟩ = some (.int .i64 s.2.2) := by rw [cell_of_row wc _ 2 _ _ _ hbx]; rfl
    have hcap := HO.out.txt.2.1
    have hcm := HO.out.txt.2.2.1
    unfold maxLen at hcm
    clear hbx hrx hg1
    have tok : True := trivial
    go_wp2_with fail
    go_region_held3 (fun w' => w'.cell? ⟨w.heap.size, 0, none⟩ = some (.int .u8 s.1) ∧ w'.cell? ⟨w.heap.size, 1, none⟩ = some (.int .i64 s.2.1) ∧ w'.cell? ⟨w.heap.size, 2, none⟩ = some (.int .i64 s.2.2))
      (first
        | go_keep
        | (go_split_ands
           refine ⟨?_, ?_, ?_⟩
           · (rw [hgrow6.cell_far _ (by simp; omega) (by simp; omega)]; assumption)
           · (rw [hgrow6.cell_far _ (by simp; omega) (by simp; omega)]; assumption)
           · (rw [hgrow6.cell_far _ (by simp; omega) (by simp; omega)]; assumption))
        | (go_split_ands
           refine ⟨?_, ?_, ?_⟩
           · (rw [hgrow7.cell_far _ (by first | omega | (simp; omega)) (by simp; omega)]; assumption)
           · (rw [hgrow7.cell_far _ (by first | omega | (simp; omega)) (by simp; omega)]; assumption)
           · (rw [hgrow7.cell_far _ (by first | omega | (simp; omega)) (by simp; omega)]; assumption)))
      ((first
        | (have _t := tok; refine step_append_two _ (by rfl) (.tmp 50) (.tmp 51) _ (by rfl) wc.heap.size C 30 i0 _ 3 24 Try.underlying23 hi hz0 hz1 hz2 rfl (by omega) _ 0 0 [] (by rfl) (own_empty_at (by first | omega | (simp; done) | (simp; omega)) (by first | exact heap_alloc_new wc _ | exact heap_two_first wc _ _ | exact heap_two_second wc _ _)) a n c (flat l) (by rfl) (by first | exact (HOx.out.below ((Below.refl _ _).alloc (Nat.le_refl _) _)).row | exact (HOx.out.below (((Below.refl _ _).alloc (Nat.le_refl _) _).alloc (by simp) _)).row) (flat_oneCell l) (by unfold maxLen; omega) (by omega) (by first | (simp; done) | (simp; omega) | omega) n (Nat.zero_add n) ?_; intro g6 c6 w6 hown6 hgrow6; simp only [List.nil_append] at hown6; have hg6 := (hown6.lt g6 rfl).1; have hs6 := hgrow6.size; simp only [World.size_alloc, World.size_drew] at hs6; clear tok)
        | (have _t := hgrow6; refine step_append_two _ (by rfl) (.tmp 52) (.tmp 54) _ (by rfl) wc.heap.size C 30 i0 _ 3 24 Try.underlying23 hi hz0 hz1 hz2 rfl (by omega) g6 n c6 (flat l) (by rfl) (by first | exact hown6 | exact hown6.alloc _) _ 1 1 (sgCells s) (by rfl) (own_one_at (by first | omega | (simp; done) | (simp; omega)) (by first | exact heap_alloc_new w6 _ | exact (hgrow6.block (wc.heap.size + 1) (by first | (simp; done) | (simp; omega)) (by first | (simp; done) | (simp; omega))).trans (heap_two_second wc _ _) | exact (hgrow6.block wc.heap.size (by first | (simp; done) | (simp; omega)) (by first | (simp; done) | (simp; omega))).trans (heap_two_first wc _ _))) (three_oneCell _ _ _) (by unfold maxLen; omega) (by omega) (by first | omega | (simp; omega)) (n + 1) rfl ?_; intro g7 c7 w7 hown7 hgrow7)))
    all_goals
      have hb6 : Below wc.heap.size wc w6 := by
        first
          | exact ((Below.refl _ _).alloc (Nat.le_refl _) _).grown (grown_of_drew hgrow6) (by simp) (fun k hk => by simp at hk; omega)
          | exact (((Below.refl _ _).alloc (Nat.le_refl _) _).alloc (by simp) _).grown (grown_of_drew hgrow6) (by simp; omega) (fun k hk => by simp at hk; omega)
      have hb7 : Below wc.heap.size wc w7 := by
        first
          | exact hb6.grown hgrow7 hb6.size (fun k hk => by simp at hk; omega)
          | exact (hb6.alloc hb6.size _).grown hgrow7 (by have := hb6.size; simp; omega) (fun k hk => by simp at hk; omega)
      have ho7 : Own w7 C (.slice (some ⟨g7, 0, none⟩) (n + 1) c7) (l ++ [s]) :=
        Own.base (Own.snoc hown7 (by rw [← HL.out]) rfl) (by omega)
      have HO7 : Hid (Own w7 C (.slice (some ⟨g7, 0, none⟩) (n + 1) c7) (l ++ [s])) := ho7
      have hr7 : Rd B w7 g q := HRx.out.below hb7 HRx.out.lt
      have hf7 : Fr C g w w7 := (hfx.mono hC).below (hb7.mono (by omega))
      clear hown7 hgrow7 hown6 hgrow6 ho7
      go_wp2_with fail
      go_ret
      exact ⟨_, l ++ [s], q, rfl, HO7.out, by simp; rw [← HL.out]; omega, hr7, by omega, hf7⟩
end Go.Proofs.Ytmemhmndfcdmbab
