import Derived.Test.YtmemhmndfcdmbabDrawO
namespace Go.Proofs.Ytmemhmndfcdmbab
open Go.RowKit

/-- Below C nothing but block g has turned. -/
structure Fr (C g : Nat) (w w' : World) : Prop where
  os : w'.os = w.os
  tape : w'.tape = w.tape
  output : w'.output = w.output
  size : w.heap.size ≤ w'.heap.size
  block : ∀ k, k < C → k ≠ g → w'.heap[k]? = w.heap[k]?
theorem Fr.refl (C g : Nat) (w : World) : Fr C g w w := ⟨rfl, rfl, rfl, Nat.le_refl _, fun _ _ _ => rfl⟩
theorem Fr.trans {C g : Nat} {a b c : World} (h : Fr C g a b) (k : Fr C g b c) : Fr C g a c :=
  ⟨k.os.trans h.os, k.tape.trans h.tape, k.output.trans h.output, Nat.le_trans h.size k.size, fun i hi hn => (k.block i hi hn).trans (h.block i hi hn)⟩
theorem Fr.mono {C C' g : Nat} {a b : World} (h : Fr C g a b) (hC : C' ≤ C) : Fr C' g a b := ⟨h.os, h.tape, h.output, h.size, fun i hi hn => h.block i (by omega) hn⟩
theorem Fr.alloc {C g : Nat} {a b : World} (h : Fr C g a b) (hC : C ≤ b.heap.size) (o : Obj) : Fr C g a (b.alloc o) :=
  h.trans ⟨rfl, rfl, rfl, by simp, fun k hk _ => Below.heap_alloc _ _ _ (by omega)⟩
theorem Fr.setCell {C g : Nat} {a b : World} (h : Fr C g a b) {p : Addr} (hp : C ≤ p.block) (u : Value) : Fr C g a (b.setCell p u) :=
  h.trans ⟨rfl, rfl, rfl, by simp [World.setCell], fun k hk _ => Below.heap_setCell _ _ _ _ (by omega)⟩
theorem Fr.grown {C g : Nat} {a b c : World} (h : Fr C g a b) (hg : b.grownBy c (some g)) (hC : C ≤ b.heap.size) : Fr C g a c :=
  h.trans ⟨hg.os, hg.tape, hg.output, hg.size, fun k hk hn => hg.block k (by omega) (by simpa using hn)⟩
theorem Fr.below {C g : Nat} {a b c : World} (h : Fr C g a b) (hb : Below C b c) : Fr C g a c :=
  h.trans ⟨hb.os, hb.tape, hb.output, hb.size, fun k hk _ => hb.block k hk⟩
theorem Fr.grownAt {C g : Nat} {a b c : World} {r : Option Nat} (h : Fr C g a b) (hg : b.grownBy c r) (hC : C ≤ b.heap.size) (hr : ∀ k, r = some k → C ≤ k) : Fr C g a c :=
  h.trans ⟨hg.os, hg.tape, hg.output, hg.size, fun k hk _ => hg.block k (by omega) (fun e => by have := hr k e.symm; omega)⟩
theorem Fr.cell {C g : Nat} {a b : World} (h : Fr C g a b) {k o : Nat} (hk : k < C) (hn : k ≠ g) : b.cell? ⟨k, o, none⟩ = a.cell? ⟨k, o, none⟩ := World.cell?_of_block (w := a) (h.block k hk hn)
theorem Fr.frozen {C g : Nat} {a b : World} (h : Fr C g a b) {k o : Nat} (hk : k < C) (hn : k ≠ g) : b.frozen? ⟨k, o, none⟩ = a.frozen? ⟨k, o, none⟩ := World.frozen?_of_block (w := a) (h.block k hk hn)

theorem own_fr {C g : Nat} {w w' : World} {e size n : Nat} {v : Value} {xs : List Value} (h : w.ownsRow C e size v n xs) (hf : Fr w.heap.size g w w') (hg : g < C) : w'.ownsRow C e size v n xs := by
  refine ⟨h.1, ?_⟩
  rcases h.2 with hn | ⟨k, cap, cur, rfl, hk, hkk, rest⟩
  · exact .inl hn
  · exact .inr ⟨k, cap, cur, rfl, hk, by rw [hf.block k (Array.getElem?_eq_some_iff.1 hkk).1 (by omega)]; exact hkk, rest⟩
theorem Own.fr {C g : Nat} {w w' : World} {v : Value} {l : List Sg} (h : Own w C v l) (hf : Fr w.heap.size g w w') (hg : g < C) : Own w' C v l := own_fr h hf hg
theorem Rd.setCell {B : Nat} {w : World} {g p : Nat} (h : Rd B w g p) {q : Addr} (hq : g < q.block) (u : Value) : Rd B (w.setCell q u) g p := by
  obtain ⟨hB, a, n, c, zs, hg, hy, hn⟩ := h
  exact ⟨hB, a, n, c, zs, (Below.heap_setCell w q u g (by omega)).trans hg, hy.same (fun k hk => Below.heap_setCell w q u k (by omega)), hn⟩
theorem Rd.grownAt {B : Nat} {w w' : World} {g p : Nat} {r : Option Nat} (h : Rd B w g p) (hg : w.grownBy w' r) (hr : ∀ k, r = some k → g < k) : Rd B w' g p := by
  have hlt := h.lt
  obtain ⟨hB, a, n, c, zs, hgg, hy, hn⟩ := h
  exact ⟨hB, a, n, c, zs, (hg.block g hlt (fun e => by have := hr g e.symm; omega)).trans hgg, hy.same (fun k hk => hg.block k (by omega) (fun e => by have := hr k e.symm; omega)), hn⟩

/-- What the append of one sign leaves, in the drawing functions. -/
theorem own_step_fr {C g : Nat} {w wc w1 : World} {a : Option Addr} {k c : Nat} {v' : Value} {l : List Sg} {s : Sg} {o : Obj} (ho : Own wc C (.slice a k c) l) (hf : Fr C g w wc) (hC : C ≤ wc.heap.size)
    (hown : w1.ownsRow C 30 3 v' (k + 1) (flat l ++ sgCells s)) (hgrow : (wc.alloc o).grownBy w1 (Value.slice a k c).ownBlock) :
    ∃ a' c', v' = .slice a' (k + 1) c' ∧ Own w1 C (.slice a' (k + 1) c') (l ++ [s]) ∧ Fr C g w w1 := by
  have hk := ho.len
  have h1 : Own w1 C v' (l ++ [s]) := Own.snoc hown (by omega) rfl
  obtain ⟨a', c', rfl⟩ := h1.shapeN (n := k + 1) (by simp; omega)
  refine ⟨a', c', rfl, h1, ?_⟩
  exact (hf.alloc hC _).grownAt hgrow (by simp; omega) (fun q hq => (ho.row.lt q hq).1)

set_option maxHeartbeats 4000000 in
theorem l71Text_any (B g p most : Nat) (w : World) (h : Rd B w g p) (hp : p ≤ 10000) (hmost : most ≤ 24) :
    Calls Try.prog 27 #[.pointer (some ⟨g, 0, none⟩), .int .i64 (most : Int)] w fun e w' => ∃ (v : Value) (l : List Sg) (q : Nat), e = .returned v ∧ Own w' w.heap.size v l ∧ l.length ≤ most ∧ Rd B w' g q ∧ q ≤ p + 1 + 3 * most ∧ Fr w.heap.size g w w' := by
  have hlt := h.lt
  obtain ⟨i0, hi, hz0, hz1, hz2⟩ := info_parts Try.info30
  have HR : Hid (Rd B w g p) := h
  clear h
  go_enter Try.func27, Try.ntmps27
  go_wp2_with fail
  refine (pick_any B g p ((most : Int) + 1) _ (HR.out.alloc _) (by omega) (by omega) (by omega)).mono ?_
  rintro e w1 ⟨x, rfl, hx0, hx1, hr1, hg1⟩
  go_wp2_with fail
  go_loopw [5, 6] (fun v nv wr => ∃ (a : Option Addr) (m c k q : Nat) (l : List Sg), v = .slice a m c ∧ nv = .int .i64 (k : Int) ∧ m + k ≤ most ∧ q + 3 * k ≤ p + 1 + 3 * most ∧ Own wr w.heap.size (.slice a m c) l ∧ Rd B wr g q ∧ Fr w.heap.size g w wr) (fun _ nv _ => (intOf nv).toNat)
  case atStart =>
    have hf : Fr w.heap.size g w w1 := ((Fr.refl _ _ w).alloc (Nat.le_refl _) _).grown hg1 (by simp)
    refine ⟨some ⟨w.heap.size, 0, none⟩, 0, 0, x.toNat, p + 1, [], rfl, by congr 1; omega, by omega, by omega, ?_, hr1, hf⟩
    exact (World.ownsRow.kept (Own.emptyNew w w.heap.size (Nat.le_refl _)) hg1 (.inr (by simp [Value.ownBlock]; omega)))
  case round =>
    obtain ⟨a, m, c, k, q, l, rfl, rfl, hmk, hqk, ho, hr, hf⟩ := hrel
    have hsz := hf.size
    have hol := ho.len
    by_cases h0 : k = 0
    · subst h0
      clear hr1 hg1
      have HO : Hid (Own wr w.heap.size (.slice a m c) l) := ho
      clear ho
      go_wp2_with fail
      go_ret
      exact ⟨_, l, q, rfl, HO.out, by omega, hr, by omega, hf⟩
    · have HO : Hid (Own wr w.heap.size (.slice a m c) l) := ho
      have HRR : Hid (Rd B wr g q) := hr
      have hgw : g < wr.heap.size := by omega
      have HL : Hid (m = l.length) := hol
      clear ho hr hr1 hg1 hol
      have hpos : (0 : Int) < (k : Int) := by omega
      go_wp2_with fail
      refine (pick_any B g q 6 _ (HRR.out.alloc _) (by omega) (by omega) (by omega)).mono ?_
      rintro e w2 ⟨y, rfl, hy0, hy1, hr2, hg2⟩
      obtain ⟨z, hz, _⟩ := six_cell wr w2 g hgw hg2 y hy0 hy1
      have hf2 : Fr wr.heap.size g wr w2 := ((Fr.refl _ _ wr).alloc (Nat.le_refl _) _).grown hg2 (by simp)
      have z2 := hf2.size
      have HR2 : Hid (Rd B w2 g (q + 1)) := hr2
      clear hr2
      go_wp2_with fail
      refine (pick_any B g (q + 1) 5 _ (HR2.out.alloc _) (by omega) (by omega) (by omega)).mono ?_
      rintro e w3 ⟨u, rfl, hu0, hu1, hr3, hg3⟩
      have z3 := hg3.size
      simp only [World.size_alloc] at z3
      have hf3 : Fr wr.heap.size g wr w3 := (hf2.alloc z2 _).grown hg3 (by simp; omega)
      have e0 : w3.heap[w2.heap.size]? = some (.cells #[.int .u8 z, .int .i64 0, .int .i64 0] 30 (0, 0)) := (hg3.block w2.heap.size (by simp) (by simp; omega)).trans (heap_alloc_new w2 _)
      have HE : Hid (w3.heap[w2.heap.size]? = some (.cells #[.int .u8 z, .int .i64 0, .int .i64 0] 30 (0, 0))) := e0
      have HR3 : Hid (Rd B w3 g (q + 2)) := hr3
      clear hr3 e0 hz
      have hsb : w2.heap.size < w3.heap.size := by omega
      by_cases h0u : u = 0
      · subst h0u
        go_wp2_with fail
        refine (pick_any B g (q + 2) 3 _ HR3.out (by omega) (by omega) (by omega)).mono ?_
        rintro e w4 ⟨x4, rfl, hx40, hx41, hr4, hg4⟩
        have z4 := hg4.size
        have hf4 : Fr wr.heap.size g wr w4 := hf3.grown hg4 (by omega)
        have e4 : w4.heap[w2.heap.size]? = some (.cells #[.int .u8 z, .int .i64 0, .int .i64 0] 30 (0, 0)) := (hg4.block w2.heap.size hsb (by simp; omega)).trans HE.out
        have d0 : w4.cell? ⟨w2.heap.size, 0, none⟩ = some (.int .u8 z) := by rw [cell_of_row w4 _ 0 _ _ _ e4]; rfl
        have d1 : w4.cell? ⟨w2.heap.size, 1, none⟩ = some (.int .i64 0) := by rw [cell_of_row w4 _ 1 _ _ _ e4]; rfl
        have d2 : w4.cell? ⟨w2.heap.size, 2, none⟩ = some (.int .i64 0) := by rw [cell_of_row w4 _ 2 _ _ _ e4]; rfl
        have f1 : w4.frozen? ⟨w2.heap.size, 1, none⟩ = false := frozen_of_row w4 _ 1 _ _ e4
        have f2 : w4.frozen? ⟨w2.heap.size, 2, none⟩ = false := frozen_of_row w4 _ 2 _ _ e4
        clear e4
        have HR4 : Hid (Rd B w4 g (q + 3)) := hr4
        clear hr4
        have HO4 : Hid (Own (w4.setCell ⟨w2.heap.size, 1, none⟩ (.int .i64 (1 + x4))) w.heap.size (.slice a m c) l) := HO.out.fr (hf4.setCell (by simp; omega) _) hlt
        go_wp2_with (at_builtin; refine wpList_append_own _ rfl (.tmp 48) (.tmp 50) 23 rfl w.heap.size 30 i0 (.agg #[.int .u8 0, .int .i64 0, .int .i64 0]) 3 24 Try.underlying23 hi hz0 hz1 hz2 rfl (by decide) (.slice a m c) _ _ rfl (HO4.out.row.alloc _) ⟨_, 0, none⟩ 1 1 [.int .u8 z, .int .i64 (1 + x4), .int .i64 0] rfl rfl (by have e := cell_three_new (w4.setCell ⟨w2.heap.size, 1, none⟩ (.int .i64 (1 + x4))) (.int .u8 z) (.int .i64 (1 + x4)) (.int .i64 0) 30; simpa using e) (three_oneCell _ _ _) (by unfold maxLen; omega) (by omega) (by simp; omega) ?_; intro v' w9 hown' hgrow _)
        obtain ⟨a', c', rfl, ho9, hf9⟩ := own_step_fr (s := (z, 1 + x4, 0)) HO4.out (hf.trans ((hf4.setCell (by simp; omega) _).mono hsz)) (by simp; omega) hown' hgrow
        have hr9 : Rd B w9 g (q + 3) := ((HR4.out.setCell (by simp; omega) _).alloc _).grownAt hgrow (fun k hk => by have := ((HO4.out).row.lt k hk).1; omega)
        go_roundw
        case rel => exact ⟨a', m + 1, c', k - 1, q + 3, _, rfl, by congr 1; omega, by omega, by omega, ho9, hr9, hf9⟩
        case measure => simp [intOf]; omega
      · have g0 : (u == 0) = false := by simp; omega
        by_cases h1u : u = 1
        · subst h1u
          go_wp2_with fail
          refine (pick_any B g (q + 2) 3 _ HR3.out (by omega) (by omega) (by omega)).mono ?_
          rintro e w4 ⟨x4, rfl, hx40, hx41, hr4, hg4⟩
          have z4 := hg4.size
          have hf4 : Fr wr.heap.size g wr w4 := hf3.grown hg4 (by omega)
          have e4 : w4.heap[w2.heap.size]? = some (.cells #[.int .u8 z, .int .i64 0, .int .i64 0] 30 (0, 0)) := (hg4.block w2.heap.size hsb (by simp; omega)).trans HE.out
          have d0 : w4.cell? ⟨w2.heap.size, 0, none⟩ = some (.int .u8 z) := by rw [cell_of_row w4 _ 0 _ _ _ e4]; rfl
          have d1 : w4.cell? ⟨w2.heap.size, 1, none⟩ = some (.int .i64 0) := by rw [cell_of_row w4 _ 1 _ _ _ e4]; rfl
          have d2 : w4.cell? ⟨w2.heap.size, 2, none⟩ = some (.int .i64 0) := by rw [cell_of_row w4 _ 2 _ _ _ e4]; rfl
          have f1 : w4.frozen? ⟨w2.heap.size, 1, none⟩ = false := frozen_of_row w4 _ 1 _ _ e4
          have f2 : w4.frozen? ⟨w2.heap.size, 2, none⟩ = false := frozen_of_row w4 _ 2 _ _ e4
          clear e4
          have HR4 : Hid (Rd B w4 g (q + 3)) := hr4
          clear hr4
          have HO4 : Hid (Own (w4.setCell ⟨w2.heap.size, 2, none⟩ (.int .i64 (1 + x4))) w.heap.size (.slice a m c) l) := HO.out.fr (hf4.setCell (by simp; omega) _) hlt
          go_wp2_with (at_builtin; refine wpList_append_own _ rfl (.tmp 48) (.tmp 50) 23 rfl w.heap.size 30 i0 (.agg #[.int .u8 0, .int .i64 0, .int .i64 0]) 3 24 Try.underlying23 hi hz0 hz1 hz2 rfl (by decide) (.slice a m c) _ _ rfl (HO4.out.row.alloc _) ⟨_, 0, none⟩ 1 1 [.int .u8 z, .int .i64 0, .int .i64 (1 + x4)] rfl rfl (by have e := cell_three_new (w4.setCell ⟨w2.heap.size, 2, none⟩ (.int .i64 (1 + x4))) (.int .u8 z) (.int .i64 0) (.int .i64 (1 + x4)) 30; simpa using e) (three_oneCell _ _ _) (by unfold maxLen; omega) (by omega) (by simp; omega) ?_; intro v' w9 hown' hgrow _)
          obtain ⟨a', c', rfl, ho9, hf9⟩ := own_step_fr (s := (z, 0, 1 + x4)) HO4.out (hf.trans ((hf4.setCell (by simp; omega) _).mono hsz)) (by simp; omega) hown' hgrow
          have hr9 : Rd B w9 g (q + 3) := ((HR4.out.setCell (by simp; omega) _).alloc _).grownAt hgrow (fun k hk => by have := ((HO4.out).row.lt k hk).1; omega)
          go_roundw
          case rel => exact ⟨a', m + 1, c', k - 1, q + 3, _, rfl, by congr 1; omega, by omega, by omega, ho9, hr9, hf9⟩
          case measure => simp [intOf]; omega
        · have g1 : (u == 1) = false := by simp; omega
          by_cases h2u : u = 2
          · subst h2u
            go_wp2_with fail
            refine (pick_any B g (q + 2) 3 _ HR3.out (by omega) (by omega) (by omega)).mono ?_
            rintro e w4 ⟨x4, rfl, hx40, hx41, hr4, hg4⟩
            have z4 := hg4.size
            have hf4 : Fr wr.heap.size g wr w4 := hf3.grown hg4 (by omega)
            have e4 : w4.heap[w2.heap.size]? = some (.cells #[.int .u8 z, .int .i64 0, .int .i64 0] 30 (0, 0)) := (hg4.block w2.heap.size hsb (by simp; omega)).trans HE.out
            have d0 : w4.cell? ⟨w2.heap.size, 0, none⟩ = some (.int .u8 z) := by rw [cell_of_row w4 _ 0 _ _ _ e4]; rfl
            have d1 : w4.cell? ⟨w2.heap.size, 1, none⟩ = some (.int .i64 0) := by rw [cell_of_row w4 _ 1 _ _ _ e4]; rfl
            have d2 : w4.cell? ⟨w2.heap.size, 2, none⟩ = some (.int .i64 0) := by rw [cell_of_row w4 _ 2 _ _ _ e4]; rfl
            have f1 : w4.frozen? ⟨w2.heap.size, 1, none⟩ = false := frozen_of_row w4 _ 1 _ _ e4
            have f2 : w4.frozen? ⟨w2.heap.size, 2, none⟩ = false := frozen_of_row w4 _ 2 _ _ e4
            clear e4
            have HR4 : Hid (Rd B w4 g (q + 3)) := hr4
            clear hr4
            have HO4 : Hid (Own ((w4.setCell ⟨w2.heap.size, 1, none⟩ (.int .i64 (1 + x4))).setCell ⟨w2.heap.size, 2, none⟩ (.int .i64 ((1 + x4) % 3 + 1))) w.heap.size (.slice a m c) l) := HO.out.fr ((hf4.setCell (by simp; omega) _).setCell (by simp; omega) _) hlt
            go_wp2_with (at_builtin; refine wpList_append_own _ rfl (.tmp 48) (.tmp 50) 23 rfl w.heap.size 30 i0 (.agg #[.int .u8 0, .int .i64 0, .int .i64 0]) 3 24 Try.underlying23 hi hz0 hz1 hz2 rfl (by decide) (.slice a m c) _ _ rfl (HO4.out.row.alloc _) ⟨_, 0, none⟩ 1 1 [.int .u8 z, .int .i64 (1 + x4), .int .i64 ((1 + x4) % 3 + 1)] rfl rfl (by have e := cell_three_new ((w4.setCell ⟨w2.heap.size, 1, none⟩ (.int .i64 (1 + x4))).setCell ⟨w2.heap.size, 2, none⟩ (.int .i64 ((1 + x4) % 3 + 1))) (.int .u8 z) (.int .i64 (1 + x4)) (.int .i64 ((1 + x4) % 3 + 1)) 30; simpa using e) (three_oneCell _ _ _) (by unfold maxLen; omega) (by omega) (by simp; omega) ?_; intro v' w9 hown' hgrow _)
            obtain ⟨a', c', rfl, ho9, hf9⟩ := own_step_fr (s := (z, 1 + x4, (1 + x4) % 3 + 1)) HO4.out (hf.trans (((hf4.setCell (by simp; omega) _).setCell (by simp; omega) _).mono hsz)) (by simp; omega) hown' hgrow
            have hr9 : Rd B w9 g (q + 3) := (((HR4.out.setCell (by simp; omega) _).setCell (by simp; omega) _).alloc _).grownAt hgrow (fun k hk => by have := ((HO4.out).row.lt k hk).1; omega)
            go_roundw
            case rel => exact ⟨a', m + 1, c', k - 1, q + 3, _, rfl, by congr 1; omega, by omega, by omega, ho9, hr9, hf9⟩
            case measure => simp [intOf]; omega
          · have g2 : (u == 2) = false := by simp; omega
            have d0 : w3.cell? ⟨w2.heap.size, 0, none⟩ = some (.int .u8 z) := by rw [cell_of_row w3 _ 0 _ _ _ HE.out]; rfl
            have d1 : w3.cell? ⟨w2.heap.size, 1, none⟩ = some (.int .i64 0) := by rw [cell_of_row w3 _ 1 _ _ _ HE.out]; rfl
            have d2 : w3.cell? ⟨w2.heap.size, 2, none⟩ = some (.int .i64 0) := by rw [cell_of_row w3 _ 2 _ _ _ HE.out]; rfl
            have HO3 : Hid (Own w3 w.heap.size (.slice a m c) l) := HO.out.fr hf3 hlt
            go_wp2_with (at_builtin; refine wpList_append_own _ rfl (.tmp 48) (.tmp 50) 23 rfl w.heap.size 30 i0 (.agg #[.int .u8 0, .int .i64 0, .int .i64 0]) 3 24 Try.underlying23 hi hz0 hz1 hz2 rfl (by decide) (.slice a m c) _ _ rfl (HO3.out.row.alloc _) ⟨_, 0, none⟩ 1 1 [.int .u8 z, .int .i64 0, .int .i64 0] rfl rfl (by have e := cell_three_new (w3) (.int .u8 z) (.int .i64 0) (.int .i64 0) 30; simpa using e) (three_oneCell _ _ _) (by unfold maxLen; omega) (by omega) (by simp; omega) ?_; intro v' w9 hown' hgrow _)
            obtain ⟨a', c', rfl, ho9, hf9⟩ := own_step_fr (s := (z, 0, 0)) HO3.out (hf.trans (hf3.mono hsz)) (by omega) hown' hgrow
            have hr9 : Rd B w9 g (q + 2) := ((HR3.out).alloc _).grownAt hgrow (fun k hk => by have := ((HO3.out).row.lt k hk).1; omega)
            go_roundw
            case rel => exact ⟨a', m + 1, c', k - 1, q + 2, _, rfl, by congr 1; omega, by omega, by omega, ho9, hr9, hf9⟩
            case measure => simp [intOf]; omega
end Go.Proofs.Ytmemhmndfcdmbab
