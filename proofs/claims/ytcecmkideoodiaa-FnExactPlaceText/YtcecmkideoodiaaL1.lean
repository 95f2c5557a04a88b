import Derived.Test.YtcecmkideoodiaaBA1
import Derived.Test.YtcecmkideoodiaaBA2
import Derived.Deep.Cut
import Derived.Deep.QuietTactic
import Derived.BigQuiet
namespace Go.Proofs.Ytcecmkideoodiaa
open Go.ChangeShapes Go.WideShapes Go.ChangeAt Go.RowKit

section
variable {H : Type} {enc : TypeId × Value → H} {w : World} {base : Nat} {spare : Nat → Bool} {held : Bool}
set_option maxRecDepth 100000 in
theorem cellsInt : Try.prog.cellsOf 3 = 1 := by kernel_rfl
set_option maxRecDepth 100000 in
theorem cellsSlS : Try.prog.cellsOf 98 = 1 := by kernel_rfl
set_option maxRecDepth 100000 in
theorem cellsSlC : Try.prog.cellsOf 99 = 1 := by kernel_rfl
set_option maxRecDepth 100000 in
theorem cellsCell : Try.prog.cellsOf 152 = 5 := by kernel_rfl
set_option maxRecDepth 100000 in
theorem cellsTable : Try.prog.cellsOf 101 = 3 := by kernel_rfl

set_option maxRecDepth 100000 in
theorem open_text {fuel : Nat} {cs : List Value} {x : DataW H × List MemPlace} (h : DataW.trod enc Try.prog w base spare held fuel 98 cs = some x) :
    ∃ (a : Option Addr) (len cap : Nat) (l : List Sg), cs = [.slice a len cap] ∧ Txt w a len cap l :=
  open_signs Try.underlying98 Try.underlying146 (by kernel_rfl) rfl rfl rfl (by kernel_rfl) (by kernel_rfl) (by kernel_rfl) Try.underlying5 Try.underlying3 Try.underlying3 h

set_option maxRecDepth 100000 in
/-- A slice of cells that came in, opened. -/
theorem open_cells {fuel : Nat} {cs : List Value} {x : DataW H × List MemPlace} (h : DataW.trod enc Try.prog w base spare held fuel 99 cs = some x) :
    ∃ (a : Option Addr) (len cap : Nat) (l : List Cl), cs = [.slice a len cap] ∧ Tab w a len cap l := by
  rcases Go.Deep.open_slice Try.underlying99 h with ⟨rfl, _⟩ | ⟨a, len, cap, m, n, D, Pl, rfl, hb, hl, hm, hmm, rfl, hx⟩
  · exact ⟨none, 0, 0, [], rfl, rfl, Nat.le_refl _, Nat.zero_le _, .inl rfl⟩
  have hlm : len ≤ m := by rw [hmm]; split <;> omega
  have each : ∀ i, i < len → ∃ q : Cl, w.cell? (a.add (i * 5)) = some (.int .i64 q.1) ∧ w.cell? (a.add (i * 5 + 1)) = some (.int .i64 q.2.1) ∧ w.cell? (a.add (i * 5 + 2)) = some (.int .i64 q.2.2.1) ∧ w.cell? (a.add (i * 5 + 3)) = some (.int .i64 q.2.2.2.1) ∧
      ∃ a' n' cap', w.cell? (a.add (i * 5 + 4)) = some (.slice a' n' cap') ∧ Txt w a' n' cap' q.2.2.2.2 := by
    intro i hi
    obtain ⟨cs', h1, h2⟩ := hx i (by omega)
    rw [cellsCell] at h1
    obtain ⟨_, hlen, hcell⟩ := World.cells?_some h1
    obtain ⟨xs, k, hk, hxy, _, hxl, hf⟩ := DataW.trod_struct Try.underlying152 h2
    match xs, hxl, cs', hlen with
    | [y0, y1, y2, y3, y4], _, [v0, v1, v2, v3, v4], _ =>
      have g0 := hf 0 _ rfl
      have g1 := hf 1 _ rfl
      have g2 := hf 2 _ rfl
      have g3 := hf 3 _ rfl
      have g4 := hf 4 _ rfl
      simp [cellsInt, cellsSlS] at g0 g1 g2 g3 g4
      have e0 := hcell 0 (by omega)
      have e1 := hcell 1 (by omega)
      have e2 := hcell 2 (by omega)
      have e3 := hcell 3 (by omega)
      have e4 := hcell 4 (by omega)
      rw [Go.Deep.add_add] at e0 e1 e2 e3 e4
      obtain ⟨n0, r0, _⟩ := DataW.trod_int Try.underlying3 g0
      obtain ⟨n1, r1, _⟩ := DataW.trod_int Try.underlying3 g1
      obtain ⟨n2, r2, _⟩ := DataW.trod_int Try.underlying3 g2
      obtain ⟨n3, r3, _⟩ := DataW.trod_int Try.underlying3 g3
      obtain ⟨a', n', cap', l', r4, ht⟩ := open_text g4
      simp only [List.cons.injEq, and_true] at r0 r1 r2 r3 r4
      subst r0 r1 r2 r3 r4
      exact ⟨(n0, n1, n2, n3, l'), by simpa using e0, by simpa using e1, by simpa using e2, by simpa using e3, a', n', cap', by simpa using e4, ht⟩
  obtain ⟨q, hq⟩ := Go.Deep.choose_lt each
  refine ⟨some a, len, cap, (List.range len).map q, rfl, by simp, hl, hm, ?_⟩
  by_cases h0 : len = 0
  · subst h0; exact .inl (by simp)
  · obtain ⟨b, off, spot⟩ := a
    have hc := (hq 0 (by omega)).1
    have hspot : spot = none := by simpa [Addr.add] using World.cell?_spot hc
    subst hspot
    refine .inr ⟨b, off, rfl, by have := World.block_lt_of_cell? _ _ hc; simpa [Addr.add_lit] using this, ?_⟩
    intro k hk
    have hk' : k < len := by simpa using hk
    obtain ⟨a0, a1, a2, a3, a', n', cap', a4, ht⟩ := hq k hk'
    have e : ((List.range len).map q).getD k cl0 = q k := by simp [List.getD, hk']
    rw [e]
    simp only [Addr.add_lit] at a0 a1 a2 a3 a4
    exact ⟨a0, by rw [Nat.add_assoc]; exact a1, by rw [Nat.add_assoc]; exact a2, by rw [Nat.add_assoc]; exact a3, a', n', cap', by rw [Nat.add_assoc]; exact a4, ht⟩
set_option maxRecDepth 100000 in
/-- A table that came in, opened. -/
theorem open_table {fuel : Nat} {cs : List Value} {x : DataW H × List MemPlace} (h : DataW.trod enc Try.prog w base spare held fuel 101 cs = some x) :
    ∃ (R C : Int) (a : Option Addr) (len cap : Nat) (l : List Cl), cs = [.int .i64 R, .int .i64 C, .slice a len cap] ∧ Tab w a len cap l := by
  obtain ⟨xs, k, hk, hxy, hcl, hxl, hf⟩ := DataW.trod_struct Try.underlying101 h
  rw [cellsTable] at hcl
  match xs, hxl, cs, hcl with
  | [y0, y1, y2], _, [v0, v1, v2], _ =>
    have g0 := hf 0 _ rfl
    have g1 := hf 1 _ rfl
    have g2 := hf 2 _ rfl
    simp [cellsInt, cellsSlC] at g0 g1 g2
    obtain ⟨n0, r0, _⟩ := DataW.trod_int Try.underlying3 g0
    obtain ⟨n1, r1, _⟩ := DataW.trod_int Try.underlying3 g1
    obtain ⟨a', n', cap', l', r2, ht⟩ := open_cells g2
    simp only [List.cons.injEq, and_true] at r0 r1 r2
    subst r0 r1 r2
    exact ⟨n0, n1, a', n', cap', l', rfl, ht⟩
end
end Go.Proofs.Ytcecmkideoodiaa
namespace Go.Proofs.Ytcecmkideoodiaa
open Go.ChangeShapes Go.WideShapes Go.ChangeAt Go.RowKit

section
variable {H : Type} {enc : TypeId × Value → H} {w : World} {base : Nat} {spare : Nat → Bool} {held : Bool}
set_option maxRecDepth 100000 in
theorem cellsSlB : Try.prog.cellsOf 42 = 1 := by kernel_rfl
set_option maxRecDepth 100000 in
theorem cellsBlock : Try.prog.cellsOf 103 = 6 := by kernel_rfl
set_option maxRecDepth 100000 in
theorem cellsDoc : Try.prog.cellsOf 44 = 1 := by kernel_rfl
set_option maxRecDepth 100000 in
/-- A block that came in, opened. -/
theorem open_block {fuel : Nat} {cs : List Value} {x : DataW H × List MemPlace} (h : DataW.trod enc Try.prog w base spare held fuel 103 cs = some x) :
    ∃ (k v : Int) (ta : Option Addr) (tn tc : Nat) (R C : Int) (ca : Option Addr) (cn cc : Nat) (t : List Sg) (l : List Cl), cs = [.int .i64 k, .int .i64 v, .slice ta tn tc, .int .i64 R, .int .i64 C, .slice ca cn cc] ∧ Txt w ta tn tc t ∧ Tab w ca cn cc l := by
  obtain ⟨xs, k, hk, hxy, hcl, hxl, hf⟩ := DataW.trod_struct Try.underlying103 h
  rw [cellsBlock] at hcl
  match xs, hxl, cs, hcl with
  | [y0, y1, y2, y3], _, [v0, v1, v2, v3, v4, v5], _ =>
    have g0 := hf 0 _ rfl
    have g1 := hf 1 _ rfl
    have g2 := hf 2 _ rfl
    have g3 := hf 3 _ rfl
    simp [cellsInt, cellsSlS, cellsTable] at g0 g1 g2 g3
    obtain ⟨n0, r0, _⟩ := DataW.trod_int Try.underlying3 g0
    obtain ⟨n1, r1, _⟩ := DataW.trod_int Try.underlying3 g1
    obtain ⟨ta, tn, tc, t, r2, ht⟩ := open_text g2
    obtain ⟨R, C, ca, cn, cc, l, r3, hc⟩ := open_table g3
    simp only [List.cons.injEq, and_true] at r0 r1 r2 r3
    obtain ⟨r3, r4, r5⟩ := r3
    subst r0 r1 r2 r3 r4 r5
    exact ⟨n0, n1, ta, tn, tc, R, C, ca, cn, cc, t, l, rfl, ht, hc⟩
set_option maxRecDepth 100000 in
/-- A slice of blocks that came in, opened. -/
theorem open_blocks {fuel : Nat} {cs : List Value} {x : DataW H × List MemPlace} (h : DataW.trod enc Try.prog w base spare held fuel 42 cs = some x) :
    ∃ (a : Option Addr) (len cap : Nat) (d : List Bl), cs = [.slice a len cap] ∧ Dc w a len cap d := by
  rcases Go.Deep.open_slice Try.underlying42 h with ⟨rfl, _⟩ | ⟨a, len, cap, m, n, D, Pl, rfl, hb, hl, hm, hmm, rfl, hx⟩
  · exact ⟨none, 0, 0, [], rfl, rfl, Nat.le_refl _, Nat.zero_le _, .inl rfl⟩
  have hlm : len ≤ m := by rw [hmm]; split <;> omega
  have each : ∀ i, i < len → ∃ q : Bl, ∃ ta tn tc ca cn cc, w.cell? (a.add (i * 6)) = some (.int .i64 q.1) ∧ w.cell? (a.add (i * 6 + 1)) = some (.int .i64 q.2.1) ∧ w.cell? (a.add (i * 6 + 2)) = some (.slice ta tn tc) ∧ w.cell? (a.add (i * 6 + 3)) = some (.int .i64 q.2.2.2.1) ∧ w.cell? (a.add (i * 6 + 4)) = some (.int .i64 q.2.2.2.2.1) ∧ w.cell? (a.add (i * 6 + 5)) = some (.slice ca cn cc) ∧
      Txt w ta tn tc q.2.2.1 ∧ Tab w ca cn cc q.2.2.2.2.2 := by
    intro i hi
    obtain ⟨cs', h1, h2⟩ := hx i (by omega)
    rw [cellsBlock] at h1
    obtain ⟨_, hlen, hcell⟩ := World.cells?_some h1
    obtain ⟨k, v, ta, tn, tc, R, C, ca, cn, cc, t, l, rfl, ht, hc⟩ := open_block h2
    have e0 := hcell 0 (by omega)
    have e1 := hcell 1 (by omega)
    have e2 := hcell 2 (by omega)
    have e3 := hcell 3 (by omega)
    have e4 := hcell 4 (by omega)
    have e5 := hcell 5 (by omega)
    rw [Go.Deep.add_add] at e0 e1 e2 e3 e4 e5
    exact ⟨(k, v, t, R, C, l), ta, tn, tc, ca, cn, cc, by simpa using e0, by simpa using e1, by simpa using e2, by simpa using e3, by simpa using e4, by simpa using e5, ht, hc⟩
  obtain ⟨q, hq⟩ := Go.Deep.choose_lt each
  refine ⟨some a, len, cap, (List.range len).map q, rfl, by simp, hl, hm, ?_⟩
  by_cases h0 : len = 0
  · subst h0; exact .inl (by simp)
  · obtain ⟨b, off, spot⟩ := a
    obtain ⟨_, _, _, _, _, _, hc, _⟩ := hq 0 (by omega)
    have hspot : spot = none := by simpa [Addr.add] using World.cell?_spot hc
    subst hspot
    refine .inr ⟨b, off, rfl, by have := World.block_lt_of_cell? _ _ hc; simpa [Addr.add_lit] using this, ?_⟩
    intro k hk
    have hk' : k < len := by simpa using hk
    obtain ⟨ta, tn, tc, ca, cn, cc, a0, a1, a2, a3, a4, a5, ht, hc'⟩ := hq k hk'
    have e : ((List.range len).map q).getD k bl0 = q k := by simp [List.getD, hk']
    rw [e]
    simp only [Addr.add_lit] at a0 a1 a2 a3 a4 a5
    exact ⟨ta, tn, tc, ca, cn, cc, a0, by rw [Nat.add_assoc]; exact a1, by rw [Nat.add_assoc]; exact a2, by rw [Nat.add_assoc]; exact a3, by rw [Nat.add_assoc]; exact a4, by rw [Nat.add_assoc]; exact a5, ht, hc'⟩
set_option maxRecDepth 100000 in
/-- A document that came in, opened. -/
theorem open_doc {fuel : Nat} {cs : List Value} {x : DataW H × List MemPlace} (h : DataW.trod enc Try.prog w base spare held fuel 44 cs = some x) :
    ∃ (a : Option Addr) (len cap : Nat) (d : List Bl), cs = [.slice a len cap] ∧ Dc w a len cap d := by
  obtain ⟨xs, k, hk, hxy, hcl, hxl, hf⟩ := DataW.trod_struct Try.underlying44 h
  rw [cellsDoc] at hcl
  match xs, hxl, cs, hcl with
  | [y0], _, [v0], _ =>
    have g0 := hf 0 _ rfl
    simp [cellsSlB] at g0
    exact open_blocks g0
end
end Go.Proofs.Ytcecmkideoodiaa
namespace Go.Proofs.Ytcecmkideoodiaa
open Go.ChangeShapes Go.WideShapes Go.ChangeAt Go.RowKit

section
variable {H : Type} {enc : TypeId × Value → H} {w : World} {base : Nat} {spare : Nat → Bool} {held : Bool}
set_option maxRecDepth 100000 in
theorem cellsPlace : Try.prog.cellsOf 45 = 3 := by kernel_rfl
set_option maxRecDepth 100000 in
/-- A place that came in, opened. -/
theorem open_place {fuel : Nat} {cs : List Value} {x : DataW H × List MemPlace} (h : DataW.trod enc Try.prog w base spare held fuel 45 cs = some x) :
    ∃ (b c a : Int), cs = [.int .i64 b, .int .i64 c, .int .i64 a] ∧ ((Lit.int .i64 b).wf = true ∧ (Lit.int .i64 c).wf = true ∧ (Lit.int .i64 a).wf = true) := by
  obtain ⟨xs, k, hk, hxy, hcl, hxl, hf⟩ := DataW.trod_struct Try.underlying45 h
  rw [cellsPlace] at hcl
  match xs, hxl, cs, hcl with
  | [y0, y1, y2], _, [v0, v1, v2], _ =>
    have g0 := hf 0 _ rfl
    have g1 := hf 1 _ rfl
    have g2 := hf 2 _ rfl
    simp [cellsInt] at g0 g1 g2
    obtain ⟨n0, r0, w0⟩ := DataW.trod_int Try.underlying3 g0
    obtain ⟨n1, r1, w1⟩ := DataW.trod_int Try.underlying3 g1
    obtain ⟨n2, r2, w2⟩ := DataW.trod_int Try.underlying3 g2
    simp only [List.cons.injEq, and_true] at r0 r1 r2
    subst r0 r1 r2
    exact ⟨n0, n1, n2, rfl, w0.2, w1.2, w2.2⟩
end
end Go.Proofs.Ytcecmkideoodiaa
namespace Go.Proofs.Ytcecmkideoodiaa
open Go.RowKit

theorem block_info : (Try.prog.info? 39).map (·.size) = some 6 := by kernel_rfl
theorem Try.info39 : (Try.prog.info? 39).map (fun i => (i.zero, i.size, i.bytes)) = some (some (.agg #[.int .i64 0, .int .i64 0, .slice none 0 0, .int .i64 0, .int .i64 0, .slice none 0 0]), 6, 80) := by kernel_rfl
theorem cells6_one (a b : Int) (s : Option Addr) (n c : Nat) (x y : Int) (s' : Option Addr) (n' c' : Nat) : (#[Value.int .i64 a, .int .i64 b, .slice s n c, .int .i64 x, .int .i64 y, .slice s' n' c'] : Array Value).all (·.oneCell') = true := by
  simp [Value.oneCell']
theorem docI_info : (Try.prog.info? 25).map (·.size) = some 1 := by kernel_rfl
theorem cells1_one (a : Option Addr) (n c : Nat) : (#[Value.slice a n c] : Array Value).all (·.oneCell') = true := by simp [Value.oneCell']
end Go.Proofs.Ytcecmkideoodiaa
namespace Go.Proofs.Ytcecmkideoodiaa
open Go.RowKit

set_option maxHeartbeats 2000000 in
theorem eqSign_any (b i o b' i' o' : Int) (w : World) :
    Calls Try.prog 37 #[.agg #[.int .u8 b, .int .i64 i, .int .i64 o], .agg #[.int .u8 b', .int .i64 i', .int .i64 o']] w fun e w' => e = .returned (.bool (decide (b = b' ∧ i = i' ∧ o = o'))) ∧ Below w.heap.size w w' := by
  by_cases h : b = b' ∧ i = i' ∧ o = o'
  · obtain ⟨rfl, rfl, rfl⟩ := h
    rw [decide_eq_true ⟨rfl, rfl, rfl⟩]
    go_enter Try.func37, Try.ntmps37
    go_wp2
    go_ret
    exact ⟨rfl, ((Below.refl _ _).alloc (Nat.le_refl _) _).alloc (by simp) _⟩
  · rw [decide_eq_false h]
    go_enter Try.func37, Try.ntmps37
    go_wp2
    · go_ret
      exact ⟨rfl, ((Below.refl _ _).alloc (Nat.le_refl _) _).alloc (by simp) _⟩
    · go_ret
      exact ⟨rfl, ((Below.refl _ _).alloc (Nat.le_refl _) _).alloc (by simp) _⟩
    · go_ret
      exact ⟨rfl, ((Below.refl _ _).alloc (Nat.le_refl _) _).alloc (by simp) _⟩
set_option maxHeartbeats 1000000 in
theorem toSign_any (b i o : Int) (w : World) :
    Calls Try.prog 75 #[.agg #[.int .u8 b, .int .i64 i, .int .i64 o]] w fun e w' => e = .returned (.agg #[.int .u8 b, .int .i64 i, .int .i64 o]) ∧ Below w.heap.size w w' := by
  go_enter Try.func75, Try.ntmps75
  go_wp2
  refine bodyPost_ret (v := .agg #[.int .u8 b, .int .i64 i, .int .i64 o]) (by simp [results, Try.results75, go_sem]) rfl ⟨rfl, ?_⟩
  exact (((Below.refl _ _).alloc (Nat.le_refl _) _).alloc (by simp) _).alloc (by simp; omega) _

set_option maxHeartbeats 1000000 in
theorem szSignS_any (a : Option Addr) (n cap : Nat) (w : World) (hn : n ≤ cap) (hc : cap ≤ maxLen) :
    Calls Try.prog 62 #[.slice a n cap, .int .i64 1048576] w fun e w' => e = .returned (.int .i64 (if n ≤ 1048576 then 1048576 - n else -1)) ∧ w' = w := by
  unfold maxLen at hc
  by_cases h : n ≤ 1048576
  · rw [if_pos h]
    go_enter Try.func62, Try.ntmps62
    go_wp2
    go_ret
    exact ⟨rfl, rfl⟩
  · rw [if_neg h]
    go_enter Try.func62, Try.ntmps62
    go_wp2
    go_ret
    exact ⟨rfl, rfl⟩

set_option maxHeartbeats 1000000 in
theorem toSignS_any (a : Option Addr) (n cap : Nat) (l : List Sg) (w : World) (h : Txt w a n cap l) (hn : n ≤ 1048576) :
    Calls Try.prog 64 #[.slice a n cap] w fun e w' => e = .returned (.slice (some ⟨w.heap.size, 0, none⟩) n n) ∧ w'.ownsRow w.heap.size 74 3 (.slice (some ⟨w.heap.size, 0, none⟩) n n) n (flat l) ∧ Below w.heap.size w w' := by
  obtain ⟨rfl, hc, hm, hl⟩ := h
  unfold maxLen at hm
  obtain ⟨i0, hi, hz0, hz1, hz2⟩ := info_parts Try.info74
  rcases hl with rfl | ⟨b, off, rfl, hbw, hl⟩
  · go_enter Try.func64, Try.ntmps64
    go_wp2_with (at_make; refine wpList_make_full _ rfl (.tmp 6) (.tmp 6) 31 rfl w.heap.size 74 i0 _ 3 Try.underlying31 hi hz0 hz1 .i64 .i64 _ _ 0 rfl rfl rfl rfl (by rw [hz2]; omega) (by unfold maxLen; omega) (Nat.le_refl _) ?_; intro w1 hown hgrow)
    have hb1 : Below w.heap.size w w1 := (Below.refl _ _).grown hgrow (Nat.le_refl _) (fun k hk => by simp at hk)
    refine wp_loop_rounds 1 ?_
    rw [rounds_succ]
    go_wp2_with fail
    go_ret
    exact ⟨rfl, by simpa [flat, madeCells] using hown, hb1⟩
  · go_enter Try.func64, Try.ntmps64
    go_wp2_with (at_make; refine wpList_make_full _ rfl (.tmp 6) (.tmp 6) 31 rfl w.heap.size 74 i0 _ 3 Try.underlying31 hi hz0 hz1 .i64 .i64 _ _ l.length rfl rfl rfl rfl (by rw [hz2]; omega) (by unfold maxLen; omega) (Nat.le_refl _) ?_; intro w1 hown hgrow)
    have hb1 : Below w.heap.size w w1 := (Below.refl _ _).grown hgrow (Nat.le_refl _) (fun k hk => by simp at hk)
    clear hgrow
    obtain ⟨xs0, hown⟩ : ∃ xs, w1.ownsRow w.heap.size 74 3 (.slice (some ⟨w.heap.size, 0, none⟩) l.length l.length) l.length xs := ⟨_, hown⟩
    go_loopw [4] (fun i wr => ∃ (k : Nat) (xs : List Value), k ≤ l.length ∧ i = .int .i64 k ∧ wr.ownsRow w.heap.size 74 3 (.slice (some ⟨w.heap.size, 0, none⟩) l.length l.length) l.length xs ∧ xs.take (k * 3) = flat (l.take k) ∧ Below w.heap.size w wr) (fun i _ => l.length - (intOf i).toNat)
    case atStart => exact ⟨0, xs0, Nat.zero_le _, rfl, hown, by simp [flat], hb1⟩
    case round =>
      obtain ⟨k, xs, hk, rfl, ho, hx, hbl⟩ := hrel
      have hsz := hbl.size
      have HX : Hid (xs.take (k * 3) = flat (l.take k)) := hx
      have HO : Hid (wr.ownsRow w.heap.size 74 3 (.slice (some ⟨w.heap.size, 0, none⟩) l.length l.length) l.length xs) := ho
      clear hx ho hown hb1
      by_cases hlt : k < l.length
      · obtain ⟨c0, c1, c2⟩ := (hl.below hbl hbw) k hlt
        clear hl
        obtain ⟨s, hs⟩ : ∃ s, s = l.getD k (0, 0, 0) := ⟨_, rfl⟩
        rw [← hs] at c0 c1 c2
        have HS : Hid (s = l.getD k (0, 0, 0)) := hs
        clear hs
        go_wp2_with fail
        refine (toSign_any _ _ _ _).mono ?_
        rintro e w2 ⟨rfl, hb2⟩
        have ho2 := own_below HO.out hb2
        have f0 := ho2.frozenAt (k * 3)
        have f1 := ho2.frozenAt (k * 3 + 1)
        have f2 := ho2.frozenAt (k * 3 + 2)
        have hxl := ho2.1
        obtain ⟨u0, d0⟩ : ∃ u, w2.cell? ⟨w.heap.size, k * 3, none⟩ = some u := ⟨_, (ho2.cellAt (k * 3) (by omega)).trans (List.getElem?_eq_getElem (by omega))⟩
        obtain ⟨u1, d1⟩ : ∃ u, w2.cell? ⟨w.heap.size, k * 3 + 1, none⟩ = some u := ⟨_, (ho2.cellAt (k * 3 + 1) (by omega)).trans (List.getElem?_eq_getElem (by omega))⟩
        obtain ⟨u2, d2⟩ : ∃ u, w2.cell? ⟨w.heap.size, k * 3 + 2, none⟩ = some u := ⟨_, (ho2.cellAt (k * 3 + 2) (by omega)).trans (List.getElem?_eq_getElem (by omega))⟩
        have HO2 : Hid (w2.ownsRow w.heap.size 74 3 (.slice (some ⟨w.heap.size, 0, none⟩) l.length l.length) l.length xs) := ho2
        clear ho2 HO hxl
        go_wp2_with fail
        go_roundw
        case rel =>
          obtain ⟨p0, _⟩ := HO2.out.stored (k * 3) (.int .u8 s.1)
          obtain ⟨p1, _⟩ := p0.stored (k * 3 + 1) (.int .i64 s.2.1)
          obtain ⟨p2, _⟩ := p1.stored (k * 3 + 2) (.int .i64 s.2.2)
          refine ⟨k + 1, _, by omega, by go_num, p2, ?_, ?_⟩
          · rw [take_set3 _ _ _ _ _ (by have := HO2.out.1; omega), HX.out, flat_take_succ l k hlt, ← HS.out]; rfl
          · exact (((hbl.trans (hb2.mono hsz)).setCell (Nat.le_refl _) _).setCell (Nat.le_refl _) _).setCell (Nat.le_refl _) _
        case measure => simp [intOf]; omega
      · go_wp2_with fail
        go_ret
        have hxx : xs = flat l := by
          have h1 := HX.out
          have h2 := HO.out.1
          rw [List.take_of_length_le (by omega), List.take_of_length_le (by omega)] at h1
          exact h1
        exact ⟨rfl, hxx ▸ HO.out, hbl⟩

theorem sg_eq (s t : Sg) : (s = t) ↔ (s.1 = t.1 ∧ s.2.1 = t.2.1 ∧ s.2.2 = t.2.2) := by
  obtain ⟨a, b, c⟩ := s
  obtain ⟨a', b', c'⟩ := t
  simp

theorem list_ne_at (l m : List Sg) (k : Nat) (hne : ¬ ((l.getD k (0, 0, 0)).1 = (m.getD k (0, 0, 0)).1 ∧ (l.getD k (0, 0, 0)).2.1 = (m.getD k (0, 0, 0)).2.1 ∧ (l.getD k (0, 0, 0)).2.2 = (m.getD k (0, 0, 0)).2.2)) : l ≠ m := by
  rintro rfl
  exact hne ⟨rfl, rfl, rfl⟩

theorem take_eq_succ (l m : List Sg) (k : Nat) (h : k < l.length) (hl : l.length = m.length) (he : l.take k = m.take k) (hs : l.getD k (0, 0, 0) = m.getD k (0, 0, 0)) : l.take (k + 1) = m.take (k + 1) := by
  rw [List.take_succ_eq_append_getElem h, List.take_succ_eq_append_getElem (by omega), he]
  simp [List.getD, h, show k < m.length by omega] at hs
  rw [hs]

theorem eqSign_is {s t : Sg} {x : Bool} (h : decide (s.1 = t.1 ∧ s.2.1 = t.2.1 ∧ s.2.2 = t.2.2) = x) (w : World) :
    Calls Try.prog 37 #[.agg #[.int .u8 s.1, .int .i64 s.2.1, .int .i64 s.2.2], .agg #[.int .u8 t.1, .int .i64 t.2.1, .int .i64 t.2.2]] w fun e w' => e = .returned (.bool x) ∧ Below w.heap.size w w' := h ▸ eqSign_any s.1 s.2.1 s.2.2 t.1 t.2.1 t.2.2 w

set_option maxHeartbeats 1000000 in
theorem eqSignS_any (a : Option Addr) (n cap : Nat) (l : List Sg) (a' : Option Addr) (n' cap' : Nat) (m : List Sg) (w : World) (h : Txt w a n cap l) (h' : Txt w a' n' cap' m) :
    Calls Try.prog 18 #[.slice a n cap, .slice a' n' cap'] w fun e w' => e = .returned (.bool (decide (l = m))) ∧ Below w.heap.size w w' := by
  obtain ⟨rfl, hc, hm, hl⟩ := h
  obtain ⟨rfl, hc', hm', hl'⟩ := h'
  unfold maxLen at hm hm'
  by_cases hlen : l.length = m.length
  · have hbq : ((l.length : Int) != (m.length : Int)) = false := by simp [hlen]
    rcases hl with rfl | ⟨b, off, rfl, hbw, hl⟩
    · obtain rfl : m = [] := List.eq_nil_of_length_eq_zero (by simpa using hlen.symm)
      go_enter Try.func18, Try.ntmps18
      go_wp2_with fail
      refine wp_loop_rounds 1 ?_
      rw [rounds_succ]
      go_wp2_with fail
      go_ret
      exact ⟨rfl, Below.refl _ _⟩
    · rcases hl' with rfl | ⟨b', off', rfl, hbw', hl'⟩
      · obtain rfl : l = [] := List.eq_nil_of_length_eq_zero (by simpa using hlen)
        go_enter Try.func18, Try.ntmps18
        go_wp2_with fail
        refine wp_loop_rounds 1 ?_
        rw [rounds_succ]
        go_wp2_with fail
        go_ret
        exact ⟨rfl, Below.refl _ _⟩
      · have HL : Hid (l.length = m.length) := hlen
        have hl1 : l.length ≤ m.length := by omega
        have hl2 : m.length ≤ l.length := by omega
        clear hlen
        go_enter Try.func18, Try.ntmps18
        go_wp2_with fail
        go_loopw [5] (fun i wr => ∃ (k : Nat), k ≤ l.length ∧ i = .int .i64 k ∧ l.take k = m.take k ∧ Below w.heap.size w wr) (fun i _ => l.length - (intOf i).toNat)
        case atStart => exact ⟨0, Nat.zero_le _, rfl, by simp, Below.refl _ _⟩
        case round =>
          obtain ⟨k, hk, rfl, ht, hbl⟩ := hrel
          have hsz := hbl.size
          have HT : Hid (l.take k = m.take k) := ht
          clear ht
          by_cases hlt : k < l.length
          · have hlt' : k < m.length := by omega
            obtain ⟨c0, c1, c2⟩ := (hl.below hbl hbw) k hlt
            obtain ⟨d0, d1, d2⟩ := (hl'.below hbl hbw') k hlt'
            clear hl hl'
            obtain ⟨s, hs⟩ : ∃ s, s = l.getD k (0, 0, 0) := ⟨_, rfl⟩
            obtain ⟨t, ht⟩ : ∃ t, t = m.getD k (0, 0, 0) := ⟨_, rfl⟩
            rw [← hs] at c0 c1 c2
            rw [← ht] at d0 d1 d2
            have HS : Hid (s = l.getD k (0, 0, 0)) := hs
            have HM : Hid (t = m.getD k (0, 0, 0)) := ht
            clear hs ht
            cases hb : decide (s.1 = t.1 ∧ s.2.1 = t.2.1 ∧ s.2.2 = t.2.2)
            · have HF : Hid (decide (l = m) = false) := by
                refine decide_eq_false (list_ne_at l m k ?_)
                rw [← HS.out, ← HM.out]
                exact of_decide_eq_false hb
              have HB : Hid (decide (s.1 = t.1 ∧ s.2.1 = t.2.1 ∧ s.2.2 = t.2.2) = false) := hb
              clear hb
              go_wp2_with fail
              go_region_with (go_at_call 37; refine (eqSign_is (s := s) (t := t) HB.out _).mono ?_; rintro e w1 ⟨rfl, hb1⟩)
              all_goals
                go_wp2_with fail
                go_ret
                exact ⟨by rw [HF.out]; rfl, hbl.drew.trans (hb1.mono hsz)⟩
            · have HB : Hid (decide (s.1 = t.1 ∧ s.2.1 = t.2.1 ∧ s.2.2 = t.2.2) = true) := hb
              clear hb
              go_wp2_with fail
              go_region_with (go_at_call 37; refine (eqSign_is (s := s) (t := t) HB.out _).mono ?_; rintro e w1 ⟨rfl, hb1⟩)
              all_goals
                go_wp2_with fail
                go_roundw
                case rel => exact ⟨k + 1, by omega, by go_num, take_eq_succ l m k hlt HL.out HT.out (by rw [← HS.out, ← HM.out]; exact (sg_eq s t).2 (of_decide_eq_true HB.out)), hbl.drew.trans (hb1.mono hsz)⟩
                case measure => simp [intOf]; omega
          · go_wp2_with fail
            go_ret
            refine ⟨?_, hbl⟩
            have := HT.out
            rw [List.take_of_length_le (by omega), List.take_of_length_le (by omega)] at this
            rw [decide_eq_true this]; rfl
  · have hbq : ((l.length : Int) != (m.length : Int)) = true := by simp; omega
    rw [decide_eq_false (fun e => hlen (by rw [e]))]
    go_enter Try.func18, Try.ntmps18
    go_wp2_with fail
    go_ret
    exact ⟨rfl, Below.refl _ _⟩
theorem szSignS_is (a : Option Addr) (n cap : Nat) (w : World) (hn : n ≤ cap) (hc : cap ≤ maxLen) {x : Int} (h : (if n ≤ 1048576 then 1048576 - (n : Int) else -1) = x) :
    Calls Try.prog 62 #[.slice a n cap, .int .i64 1048576] w fun e w' => e = .returned (.int .i64 x) ∧ w' = w := h ▸ szSignS_any a n cap w hn hc

theorem eqSignS_same (a : Option Addr) (n cap : Nat) (l : List Sg) (a' : Option Addr) (n' cap' : Nat) (w : World) (h : Txt w a n cap l) (h' : Txt w a' n' cap' l) :
    Calls Try.prog 18 #[.slice a n cap, .slice a' n' cap'] w fun e w' => e = .returned (.bool true) ∧ Below w.heap.size w w' := by
  have := eqSignS_any a n cap l a' n' cap' l w h h'
  rwa [decide_eq_true (rfl : l = l)] at this

end Go.Proofs.Ytcecmkideoodiaa
namespace Go.Proofs.Ytcecmkideoodiaa
open Go.RowKit


set_option maxHeartbeats 1000000 in
theorem szSignS_l (a : Option Addr) (n cap : Nat) (left : Int) (w : World) (hn : n ≤ cap) (hc : cap ≤ maxLen) (h0 : 0 ≤ left) (h1 : left ≤ 1048576) {x : Int} (hx : (if (n : Int) ≤ left then left - n else -1) = x) :
    Calls Try.prog 62 #[.slice a n cap, .int .i64 left] w fun e w' => e = .returned (.int .i64 x) ∧ w' = w := by
  unfold maxLen at hc
  subst hx
  by_cases h : (n : Int) ≤ left
  · rw [if_pos h]
    have k0 : ¬ left - n < 0 := by omega
    go_enter Try.func62, Try.ntmps62
    go_wp2
    go_ret
    exact ⟨rfl, rfl⟩
  · rw [if_neg h]
    have k0 : left - n < 0 := by omega
    go_enter Try.func62, Try.ntmps62
    go_wp2
    go_ret
    exact ⟨rfl, rfl⟩
set_option maxHeartbeats 1000000 in
theorem szCell_l (r c d g : Int) (a : Option Addr) (n cap : Nat) (left : Int) (w : World) (hn : n ≤ cap) (hc : cap ≤ maxLen) (h0 : 0 ≤ left) (h1 : left ≤ 1048576) {x : Int} (hx : (if (n : Int) ≤ left then left - n else -1) = x) :
    Calls Try.prog 79 #[.agg #[.int .i64 r, .int .i64 c, .int .i64 d, .int .i64 g, .slice a n cap], .int .i64 left] w fun e w' => e = .returned (.int .i64 x) ∧ Below w.heap.size w w' := by
  have HX : Hid ((if (n : Int) ≤ left then left - n else -1) = x) := hx
  by_cases hneg : x < 0
  · have hx1 : x = -1 := by split at hx <;> omega
    subst hx1
    clear hx
    go_enter Try.func79, Try.ntmps79
    go_wp2_with (go_at_call 62; refine (szSignS_l _ _ _ _ _ hn hc h0 h1 HX.out).mono ?_; rintro e w1 ⟨rfl, rfl⟩)
    go_ret
    exact ⟨rfl, (Below.refl _ _).alloc (Nat.le_refl _) _⟩
  · clear hx
    go_enter Try.func79, Try.ntmps79
    go_wp2_with (go_at_call 62; refine (szSignS_l _ _ _ _ _ hn hc h0 h1 HX.out).mono ?_; rintro e w1 ⟨rfl, rfl⟩)
    go_ret
    exact ⟨rfl, (Below.refl _ _).alloc (Nat.le_refl _) _⟩

/-- How many signs the cells have. -/
def totT (l : List Cl) : Nat := (l.map fun x => x.2.2.2.2.length).sum
theorem totT_append (a b : List Cl) : totT (a ++ b) = totT a + totT b := by
  unfold totT
  rw [List.map_append, List.sum_append]
theorem totT_take (l : List Cl) (k : Nat) (hk : k < l.length) : totT (l.take (k + 1)) = totT (l.take k) + (l.getD k cl0).2.2.2.2.length := by
  rw [List.take_succ_eq_append_getElem hk, totT_append, show l.getD k cl0 = l[k] from by simp [List.getD, hk]]
  rfl
theorem totT_le (l : List Cl) (k : Nat) (hk : k < l.length) : (l.getD k cl0).2.2.2.2.length ≤ totT l := by
  have h1 := totT_take l k hk
  have h2 := totT_append (l.take (k + 1)) (l.drop (k + 1))
  rw [List.take_append_drop] at h2
  omega
set_option maxHeartbeats 2000000 in
theorem szCellS_any (a : Option Addr) (n cap : Nat) (l : List Cl) (w : World) (h : Tab w a n cap l) :
    Calls Try.prog 74 #[.slice a n cap, .int .i64 1048576] w fun e w' => (e = .returned (.int .i64 (-1)) ∨ (l.length + totT l ≤ 1048576 ∧ e = .returned (.int .i64 (1048576 - l.length - totT l)))) ∧ Below w.heap.size w w' := by
  obtain ⟨rfl, hc, hm, hl⟩ := h
  have hmm := hm
  unfold maxLen at hm
  by_cases h0 : l.length ≤ 1048576
  · go_enter Try.func74, Try.ntmps74
    go_wp2_with fail
    go_loopw [1, 5] (fun lv i wr => ∃ k : Nat, k ≤ l.length ∧ i = .int .i64 k ∧ l.length + totT (l.take k) ≤ 1048576 ∧ lv = .int .i64 (1048576 - (l.length : Int) - (totT (l.take k) : Nat)) ∧ Below w.heap.size w wr) (fun _ i _ => l.length - (intOf i).toNat)
    case atStart => exact ⟨0, Nat.zero_le _, rfl, by simpa [totT] using h0, by simp [totT], Below.refl _ _⟩
    case round =>
      obtain ⟨k, hk, rfl, ht, rfl, hb⟩ := hrel
      have HB : Hid (Below w.heap.size w wr) := hb
      by_cases hlt : k < l.length
      · rcases hl with e | ⟨b, off, rfl, hbw, hl⟩
        · rw [e] at hlt
          exact absurd hlt (by simp)
        obtain ⟨c0, c1, c2, c3, ta, tn, tc, c4, htx⟩ := (hl k hlt).below hb hbw
        obtain ⟨e1, e2, e3, -⟩ := htx
        have HT := totT_take l k hlt
        rw [← e1] at HT
        have HT' : Hid (totT (l.take (k + 1)) = totT (l.take k) + tn) := HT
        have sz := hb.size
        clear hl HT hb e1
        generalize totT (l.take k) = m at ht HT' ⊢
        by_cases hle : (tn : Int) ≤ 1048576 - (l.length : Int) - m
        · have HX : Hid ((if (tn : Int) ≤ 1048576 - (l.length : Int) - m then 1048576 - (l.length : Int) - m - tn else -1) = 1048576 - (l.length : Int) - m - tn) := if_pos hle
          have n0 : ¬ 1048576 - (l.length : Int) - m - tn < 0 := by omega
          go_wp2_with (go_at_call 79; refine (szCell_l _ _ _ _ _ _ _ _ _ e2 e3 (by omega) (by omega) HX.out).mono ?_; rintro e w1 ⟨rfl, hb1⟩)
          go_roundw
          case rel => exact ⟨k + 1, by omega, by go_num, by rw [HT'.out]; omega, by rw [HT'.out]; congr 1; omega, HB.out.trans (hb1.mono sz)⟩
          case measure => simp [intOf]; omega
        · have HX : Hid ((if (tn : Int) ≤ 1048576 - (l.length : Int) - m then 1048576 - (l.length : Int) - m - tn else -1) = -1) := if_neg hle
          go_wp2_with (go_at_call 79; refine (szCell_l _ _ _ _ _ _ _ _ _ e2 e3 (by omega) (by omega) HX.out).mono ?_; rintro e w1 ⟨rfl, hb1⟩)
          go_ret
          exact ⟨.inl rfl, HB.out.trans (hb1.mono sz)⟩
      · have e : l.take k = l := List.take_of_length_le (by omega)
        rw [e] at ht ⊢
        go_wp2_with fail
        go_ret
        exact ⟨.inr ⟨ht, rfl⟩, HB.out⟩
  · go_enter Try.func74, Try.ntmps74
    go_wp2_with fail
    go_ret
    exact ⟨.inl rfl, Below.refl _ _⟩
set_option maxHeartbeats 1000000 in
theorem szTable_any (R C : Int) (a : Option Addr) (n cap : Nat) (l : List Cl) (w : World) (h : Tab w a n cap l) :
    Calls Try.prog 63 #[.agg #[.int .i64 R, .int .i64 C, .slice a n cap], .int .i64 1048576] w fun e w' => (e = .returned (.int .i64 (-1)) ∨ (l.length + totT l ≤ 1048576 ∧ e = .returned (.int .i64 (1048576 - l.length - totT l)))) ∧ Below w.heap.size w w' := by
  have H : Hid (Tab w a n cap l) := h
  clear h
  go_enter Try.func63, Try.ntmps63
  go_wp2_with (go_at_call 74; refine (szCellS_any _ _ _ l _ (H.out.below ((Below.refl _ _).alloc (Nat.le_refl _) _))).mono ?_; rintro e w1 ⟨(rfl | ⟨hle, rfl⟩), hb1⟩)
  · go_ret
    exact ⟨.inl rfl, ((Below.refl _ _).alloc (Nat.le_refl _) _).trans (hb1.mono (by simp))⟩
  · go_ret
    exact ⟨.inr ⟨hle, rfl⟩, ((Below.refl _ _).alloc (Nat.le_refl _) _).trans (hb1.mono (by simp))⟩

set_option maxHeartbeats 2000000 in
theorem toCell_any (r c d g : Int) (a : Option Addr) (n cap : Nat) (l : List Sg) (w : World) (h : Txt w a n cap l) (hn : n ≤ 1048576) :
    Calls Try.prog 80 #[.agg #[.int .i64 r, .int .i64 c, .int .i64 d, .int .i64 g, .slice a n cap]] w fun e w' => (∃ b, w.heap.size ≤ b ∧ e = .returned (.agg #[.int .i64 r, .int .i64 c, .int .i64 d, .int .i64 g, .slice (some ⟨b, 0, none⟩) n n]) ∧ Own w' w.heap.size (.slice (some ⟨b, 0, none⟩) n n) l) ∧ Below w.heap.size w w' := by
  have H : Hid (Txt w a n cap l) := h
  clear h
  go_enter Try.func80, Try.ntmps80
  go_upto_region 6 with fail
  have B0 : Below w.heap.size w (((w.alloc (.cells #[.int .i64 r, .int .i64 c, .int .i64 d, .int .i64 g, .slice a n cap] 152)).alloc (.cells #[.int .i64 0, .int .i64 0, .int .i64 0, .int .i64 0, .slice none 0 0] 41)).alloc (.cells #[.int .i64 r, .int .i64 c, .int .i64 d, .int .i64 g, .slice none 0 0] 41)) := (((Below.refl _ _).alloc (Nat.le_refl _) _).alloc (by simp) _).alloc (by simp; omega) _
  have G0 : RowAt (((w.alloc (.cells #[.int .i64 r, .int .i64 c, .int .i64 d, .int .i64 g, .slice a n cap] 152)).alloc (.cells #[.int .i64 0, .int .i64 0, .int .i64 0, .int .i64 0, .slice none 0 0] 41)).alloc (.cells #[.int .i64 r, .int .i64 c, .int .i64 d, .int .i64 g, .slice none 0 0] 41)) w.heap.size #[.int .i64 r, .int .i64 c, .int .i64 d, .int .i64 g, .slice a n cap] 152 := ((rowAt_new w _ _).alloc _).alloc _
  have G1 : RowAt (((w.alloc (.cells #[.int .i64 r, .int .i64 c, .int .i64 d, .int .i64 g, .slice a n cap] 152)).alloc (.cells #[.int .i64 0, .int .i64 0, .int .i64 0, .int .i64 0, .slice none 0 0] 41)).alloc (.cells #[.int .i64 r, .int .i64 c, .int .i64 d, .int .i64 g, .slice none 0 0] 41)) (w.heap.size + 1) #[.int .i64 0, .int .i64 0, .int .i64 0, .int .i64 0, .slice none 0 0] 41 := by
    have := (rowAt_new (w.alloc (.cells #[.int .i64 r, .int .i64 c, .int .i64 d, .int .i64 g, .slice a n cap] 152)) #[.int .i64 0, .int .i64 0, .int .i64 0, .int .i64 0, .slice none 0 0] 41).alloc (.cells #[.int .i64 r, .int .i64 c, .int .i64 d, .int .i64 g, .slice none 0 0] 41)
    simpa using this
  have G2 : RowAt (((w.alloc (.cells #[.int .i64 r, .int .i64 c, .int .i64 d, .int .i64 g, .slice a n cap] 152)).alloc (.cells #[.int .i64 0, .int .i64 0, .int .i64 0, .int .i64 0, .slice none 0 0] 41)).alloc (.cells #[.int .i64 r, .int .i64 c, .int .i64 d, .int .i64 g, .slice none 0 0] 41)) (w.heap.size + 1 + 1) #[.int .i64 r, .int .i64 c, .int .i64 d, .int .i64 g, .slice none 0 0] 41 := by
    have := (rowAt_new ((w.alloc (.cells #[.int .i64 r, .int .i64 c, .int .i64 d, .int .i64 g, .slice a n cap] 152)).alloc (.cells #[.int .i64 0, .int .i64 0, .int .i64 0, .int .i64 0, .slice none 0 0] 41)) #[.int .i64 r, .int .i64 c, .int .i64 d, .int .i64 g, .slice none 0 0] 41)
    simpa using this
  generalize (((w.alloc (.cells #[.int .i64 r, .int .i64 c, .int .i64 d, .int .i64 g, .slice a n cap] 152)).alloc (.cells #[.int .i64 0, .int .i64 0, .int .i64 0, .int .i64 0, .slice none 0 0] 41)).alloc (.cells #[.int .i64 r, .int .i64 c, .int .i64 d, .int .i64 g, .slice none 0 0] 41)) = v0 at B0 G0 G1 G2 ⊢
  have k4 : v0.cell? ⟨w.heap.size, 4, none⟩ = some (.slice a n cap) := G0.cell 4
  have l2 := G2.lt
  have l1 := G1.lt
  have H1 : Hid (RowAt v0 (w.heap.size + 1) #[.int .i64 0, .int .i64 0, .int .i64 0, .int .i64 0, .slice none 0 0] 41) := G1
  have H2 : Hid (RowAt v0 (w.heap.size + 1 + 1) #[.int .i64 r, .int .i64 c, .int .i64 d, .int .i64 g, .slice none 0 0] 41) := G2
  clear G0 G1 G2
  go_upto_region 7 with (go_at_call 64; refine (toSignS_any _ _ _ l _ (H.out.below B0) hn).mono ?_; rintro e w1 ⟨rfl, ho1, hb1⟩; have q1 : w1.cell? ⟨w.heap.size + 1 + 1, 4, none⟩ = some (.slice none 0 0) := (H2.out.below hb1 l2).cell 4; have q2 := (H2.out.below hb1 l2).frozen 4)
  have lt1 := own_lt ho1 rfl
  have G2 := (H2.out.below hb1 l2).setCell 4 (.slice (some ⟨v0.heap.size, 0, none⟩) n n)
  have G1 := (H1.out.below hb1 l1).other ⟨w.heap.size + 1 + 1, 4, none⟩ (.slice (some ⟨v0.heap.size, 0, none⟩) n n) (by simp <;> omega)
  have O1 := own_set ho1 ⟨w.heap.size + 1 + 1, 4, none⟩ (.slice (some ⟨v0.heap.size, 0, none⟩) n n) (by simp [Value.ownBlock]; omega)
  have B1 : Below w.heap.size w (w1.setCell ⟨w.heap.size + 1 + 1, 4, none⟩ (.slice (some ⟨v0.heap.size, 0, none⟩) n n)) := (B0.trans (hb1.mono B0.size)).setCell (by show _ ≤ w.heap.size + 1 + 1; omega) _
  clear q1 q2 ho1 hb1
  generalize (w1.setCell ⟨w.heap.size + 1 + 1, 4, none⟩ (.slice (some ⟨v0.heap.size, 0, none⟩) n n)) = w2 at G2 G1 O1 B1 ⊢
  have e0 : w2.cell? ⟨w.heap.size + 1 + 1, 0, none⟩ = some (.int .i64 r) := G2.cell 0
  have e1 : w2.cell? ⟨w.heap.size + 1 + 1, 1, none⟩ = some (.int .i64 c) := G2.cell 1
  have e2 : w2.cell? ⟨w.heap.size + 1 + 1, 2, none⟩ = some (.int .i64 d) := G2.cell 2
  have e3 : w2.cell? ⟨w.heap.size + 1 + 1, 3, none⟩ = some (.int .i64 g) := G2.cell 3
  have e4 : w2.cell? ⟨w.heap.size + 1 + 1, 4, none⟩ = some (.slice (some ⟨v0.heap.size, 0, none⟩) n n) := G2.cell 4
  have cell_info : (Try.prog.info? 41).map (·.size) = some 5 := by kernel_rfl
  have HR : Hid (RowAt w2 (w.heap.size + 1) #[.int .i64 0, .int .i64 0, .int .i64 0, .int .i64 0, .slice none 0 0] 41) := G1
  have HL := G2.lt
  have s0 := B0.size
  clear G1 G2
  go_wp2_with ((refine wpList_store_row rfl 41 (.tmp 2) (.tmp 20) rfl (w.heap.size + 1) #[.int .i64 r, .int .i64 c, .int .i64 d, .int .i64 g, .slice (some ⟨v0.heap.size, 0, none⟩) n n] rfl rfl 41 _ HR.out cell_info rfl (cells5_one _ _ _ _ _ _ _) ?_))
  refine bodyPost_ret (v := .agg #[.int .i64 r, .int .i64 c, .int .i64 d, .int .i64 g, .slice (some ⟨v0.heap.size, 0, none⟩) n n]) (results_cell_row (p := 2) (ty := 41) rfl _ _ (w.heap.size + 1) 41 _ _ _ rfl (RowAt.setRow HR.out _) Try.underlying41 rfl cell_info) rfl ⟨⟨v0.heap.size, by omega, rfl, ?_⟩, below_row B1 (by omega) _⟩
  have hn' : n = l.length := H.out.1
  subst hn'
  exact own_less (own_row O1 _ _ (by simp [Value.ownBlock]; omega)) (by omega)

theorem take_set5 (xs : List Value) (k : Nat) (a b c d e : Value) (h : k * 5 + 5 ≤ xs.length) :
    (((((xs.set (k * 5) a).set (k * 5 + 1) b).set (k * 5 + 2) c).set (k * 5 + 3) d).set (k * 5 + 4) e).take ((k + 1) * 5) = xs.take (k * 5) ++ [a, b, c, d, e] := by
  apply List.ext_getElem?
  intro j
  by_cases h1 : j < k * 5
  · rw [List.getElem?_take, if_pos (by omega), List.getElem?_set_ne (by omega), List.getElem?_set_ne (by omega), List.getElem?_set_ne (by omega), List.getElem?_set_ne (by omega), List.getElem?_set_ne (by omega), List.getElem?_append_left (by simp; omega), List.getElem?_take, if_pos h1]
  · rw [List.getElem?_append_right (by simp; omega)]
    have e' : (xs.take (k * 5)).length = k * 5 := by simp; omega
    rw [e', List.getElem?_take]
    rcases (show j = k * 5 ∨ j = k * 5 + 1 ∨ j = k * 5 + 2 ∨ j = k * 5 + 3 ∨ j = k * 5 + 4 ∨ k * 5 + 5 ≤ j from by omega) with rfl | rfl | rfl | rfl | rfl | hj
    · rw [if_pos (by omega), List.getElem?_set_ne (by omega), List.getElem?_set_ne (by omega), List.getElem?_set_ne (by omega), List.getElem?_set_ne (by omega), List.getElem?_set_self (by omega)]; simp
    · rw [if_pos (by omega), List.getElem?_set_ne (by omega), List.getElem?_set_ne (by omega), List.getElem?_set_ne (by omega), List.getElem?_set_self (by simp; omega), show k * 5 + 1 - k * 5 = 1 by omega]; simp
    · rw [if_pos (by omega), List.getElem?_set_ne (by omega), List.getElem?_set_ne (by omega), List.getElem?_set_self (by simp; omega), show k * 5 + 2 - k * 5 = 2 by omega]; simp
    · rw [if_pos (by omega), List.getElem?_set_ne (by omega), List.getElem?_set_self (by simp; omega), show k * 5 + 3 - k * 5 = 3 by omega]; simp
    · rw [if_pos (by omega), List.getElem?_set_self (by simp; omega), show k * 5 + 4 - k * 5 = 4 by omega]; simp
    · rw [if_neg (by omega), List.getElem?_eq_none (by simp; omega)]

set_option maxHeartbeats 4000000 in
theorem toCellS_any (a : Option Addr) (n cap : Nat) (l : List Cl) (w : World) (h : Tab w a n cap l) (hn : l.length + totT l ≤ 1048576) :
    Calls Try.prog 76 #[.slice a n cap] w fun e w' => e = .returned (.slice (some ⟨w.heap.size, 0, none⟩) n n) ∧ (∃ rs, OwnT w' w.heap.size (.slice (some ⟨w.heap.size, 0, none⟩) n n) rs l) ∧ Below w.heap.size w w' := by
  obtain ⟨rfl, hc, hm, hl⟩ := h
  unfold maxLen at hm
  obtain ⟨i0, hi, hz0, hz1, hz2⟩ := info_parts Try.info41
  go_enter Try.func76, Try.ntmps76
  go_wp2_with (at_make; refine wpList_make_full _ rfl (.tmp 6) (.tmp 6) 35 rfl w.heap.size 41 i0 _ 5 Try.underlying35 hi hz0 hz1 .i64 .i64 _ _ l.length rfl rfl rfl rfl (by rw [hz2]; omega) (by unfold maxLen; omega) (Nat.le_refl _) ?_; intro w1 hown hgrow)
  have hb1 : Below w.heap.size w w1 := (Below.refl _ _).grown hgrow (Nat.le_refl _) (fun k hk => by simp at hk)
  clear hgrow
  obtain ⟨xs0, hown⟩ : ∃ xs, w1.ownsRow w.heap.size 41 5 (.slice (some ⟨w.heap.size, 0, none⟩) l.length l.length) l.length xs := ⟨_, hown⟩
  go_loopw [4] (fun i wr => ∃ (k : Nat) (xs : List Value) (rs : List Rw), k ≤ l.length ∧ i = .int .i64 k ∧ wr.ownsRow w.heap.size 41 5 (.slice (some ⟨w.heap.size, 0, none⟩) l.length l.length) l.length xs ∧ xs.take (k * 5) = flat5 rs ∧ TxtOwn wr w.heap.size (some w.heap.size) rs (l.take k) ∧ Below w.heap.size w wr) (fun i _ => l.length - (intOf i).toNat)
  case atStart => exact ⟨0, xs0, [], Nat.zero_le _, rfl, hown, by simp [flat5], TxtOwn.nil _ _ _, hb1⟩
  case round =>
    obtain ⟨k, xs, rs, hk, rfl, ho, hx, ht, hbl⟩ := hrel
    have hsz := hbl.size
    have HX : Hid (xs.take (k * 5) = flat5 rs) := hx
    have HO : Hid (wr.ownsRow w.heap.size 41 5 (.slice (some ⟨w.heap.size, 0, none⟩) l.length l.length) l.length xs) := ho
    have HT : Hid (TxtOwn wr w.heap.size (some w.heap.size) rs (l.take k)) := ht
    have lto := (own_lt ho rfl).2
    clear hx ho hown hb1 ht
    by_cases hlt : k < l.length
    · rcases hl with e | ⟨b, off, rfl, hbw, hl⟩
      · rw [e] at hlt
        exact absurd hlt (by simp)
      obtain ⟨c0, c1, c2, c3, ta, tn, tc, c4, htx⟩ := (hl k hlt).below hbl hbw
      have hle := totT_le l k hlt
      have htn : tn ≤ 1048576 := by rw [htx.1]; omega
      clear hl hle
      obtain ⟨⟨r, c, d, g, tx⟩, hxx⟩ : ∃ x, x = l.getD k cl0 := ⟨_, rfl⟩
      rw [← hxx] at c0 c1 c2 c3 htx
      simp only at c0 c1 c2 c3 htx
      have HXX : Hid ((r, c, d, g, tx) = l.getD k cl0) := hxx
      have HTX : Hid (Txt wr ta tn tc tx) := htx
      clear hxx htx
      go_wp2_with fail
      refine (toCell_any _ _ _ _ _ _ _ tx _ HTX.out htn).mono ?_
      rintro e w2 ⟨⟨tb, htb, rfl, how⟩, hb2⟩
      have ho2 := own_below HO.out hb2
      have f0 := ho2.frozenAt (k * 5)
      have f1 := ho2.frozenAt (k * 5 + 1)
      have f2 := ho2.frozenAt (k * 5 + 2)
      have f3 := ho2.frozenAt (k * 5 + 3)
      have f4 := ho2.frozenAt (k * 5 + 4)
      have hxl := ho2.1
      obtain ⟨u0, d0⟩ : ∃ u, w2.cell? ⟨w.heap.size, k * 5, none⟩ = some u := ⟨_, (ho2.cellAt (k * 5) (by omega)).trans (List.getElem?_eq_getElem (by omega))⟩
      obtain ⟨u1, d1⟩ : ∃ u, w2.cell? ⟨w.heap.size, k * 5 + 1, none⟩ = some u := ⟨_, (ho2.cellAt (k * 5 + 1) (by omega)).trans (List.getElem?_eq_getElem (by omega))⟩
      obtain ⟨u2, d2⟩ : ∃ u, w2.cell? ⟨w.heap.size, k * 5 + 2, none⟩ = some u := ⟨_, (ho2.cellAt (k * 5 + 2) (by omega)).trans (List.getElem?_eq_getElem (by omega))⟩
      obtain ⟨u3, d3⟩ : ∃ u, w2.cell? ⟨w.heap.size, k * 5 + 3, none⟩ = some u := ⟨_, (ho2.cellAt (k * 5 + 3) (by omega)).trans (List.getElem?_eq_getElem (by omega))⟩
      obtain ⟨u4, d4⟩ : ∃ u, w2.cell? ⟨w.heap.size, k * 5 + 4, none⟩ = some u := ⟨_, (ho2.cellAt (k * 5 + 4) (by omega)).trans (List.getElem?_eq_getElem (by omega))⟩
      have HO2 : Hid (w2.ownsRow w.heap.size 41 5 (.slice (some ⟨w.heap.size, 0, none⟩) l.length l.length) l.length xs) := ho2
      have HT2 : Hid (TxtOwn w2 w.heap.size (some w.heap.size) rs (l.take k)) := HT.out.below hb2
      have HW : Hid (Own w2 w.heap.size (.slice (some ⟨tb, 0, none⟩) tn tn) tx) := own_less how hsz
      clear ho2 HO hxl how
      go_wp2_with fail
      go_roundw
      case rel =>
        obtain ⟨p0, _⟩ := HO2.out.stored (k * 5) (.int .i64 r)
        obtain ⟨p1, _⟩ := p0.stored (k * 5 + 1) (.int .i64 c)
        obtain ⟨p2, _⟩ := p1.stored (k * 5 + 2) (.int .i64 d)
        obtain ⟨p3, _⟩ := p2.stored (k * 5 + 3) (.int .i64 g)
        obtain ⟨p4, _⟩ := p3.stored (k * 5 + 4) (.slice (some ⟨tb, 0, none⟩) tn tn)
        have hT := HT2.out.snoc (C := wr.heap.size) (x := (r, c, d, g, some ⟨tb, 0, none⟩, tn, tn)) (y := (r, c, d, g, tx)) ⟨rfl, rfl, rfl, rfl, HW.out⟩ (fun q hq => by simp [rwT, Value.ownBlock] at hq; simp; omega) (fun j hj q hq => HT.out.blockLt j hj q hq) (fun q hq => by simp [rwT, Value.ownBlock] at hq; omega)
        have e1 : l.take k ++ [(r, c, d, g, tx)] = l.take (k + 1) := by rw [List.take_succ_eq_append_getElem hlt, HXX.out]; simp [List.getD, hlt]
        rw [e1] at hT
        refine ⟨k + 1, _, rs ++ [(r, c, d, g, some ⟨tb, 0, none⟩, tn, tn)], by omega, by go_num, p4, ?_, ?_, ?_⟩
        · rw [take_set5 _ _ _ _ _ _ _ (by have := HO2.out.1; omega), HX.out, flat5_append]
          simp [flat5, rwCells]
        · exact ((((hT.set _ _ rfl).set _ _ rfl).set _ _ rfl).set _ _ rfl).set _ _ rfl
        · exact (((((hbl.trans (hb2.mono hsz)).setCell (Nat.le_refl _) _).setCell (Nat.le_refl _) _).setCell (Nat.le_refl _) _).setCell (Nat.le_refl _) _).setCell (Nat.le_refl _) _
      case measure => simp [intOf]; omega
    · go_wp2_with fail
      go_ret
      have e1 : l.take k = l := List.take_of_length_le (by omega)
      have hT := HT.out
      rw [e1] at hT
      have hxx : xs = flat5 rs := by
        have h1 := HX.out
        have h2 := HO.out.1
        rw [List.take_of_length_le (by omega)] at h1
        exact h1
      refine ⟨rfl, ⟨rs, ?_, hT⟩, hbl⟩
      have := HO.out
      rw [hxx] at this
      unfold OwnR
      rw [hT.1]
      exact this
end Go.Proofs.Ytcecmkideoodiaa
namespace Go.Proofs.Ytcecmkideoodiaa
open Go.RowKit

set_option maxRecDepth 100000 in
set_option maxHeartbeats 2000000 in
theorem szCellS_l {a : Option Addr} {n cap : Nat} {l : List Cl} {left : Int} {w : World} (h : Tab w a n cap l) (h0 : 0 ≤ left) (h1 : left ≤ 1048576) :
    Calls Try.prog 74 #[.slice a n cap, .int .i64 left] w fun e w' => (e = .returned (.int .i64 (-1)) ∨ ((l.length : Int) + (totT l : Nat) ≤ left ∧ e = .returned (.int .i64 (left - l.length - (totT l : Nat))))) ∧ Below w.heap.size w w' := by
  obtain ⟨rfl, hc, hm, hl⟩ := h
  have hmm := hm
  unfold maxLen at hm
  by_cases hle : (l.length : Int) ≤ left
  · have k0 : ¬ left - (l.length : Int) < 0 := by omega
    go_enter Try.func74, Try.ntmps74
    go_wp2_with fail
    go_loopw [1, 5] (fun lv i wr => ∃ k : Nat, k ≤ l.length ∧ i = .int .i64 k ∧ (l.length : Int) + (totT (l.take k) : Nat) ≤ left ∧ lv = .int .i64 (left - (l.length : Int) - (totT (l.take k) : Nat)) ∧ Below w.heap.size w wr) (fun _ i _ => l.length - (intOf i).toNat)
    case atStart => exact ⟨0, Nat.zero_le _, rfl, by simpa [totT] using hle, by simp [totT], Below.refl _ _⟩
    case round =>
      obtain ⟨k, hk, rfl, ht, rfl, hb⟩ := hrel
      have HB : Hid (Below w.heap.size w wr) := hb
      by_cases hlt : k < l.length
      · rcases hl with e | ⟨b, off, rfl, hbw, hl⟩
        · rw [e] at hlt
          exact absurd hlt (by simp)
        obtain ⟨c0, c1, c2, c3, ta, tn, tc, c4, htx⟩ := (hl k hlt).below hb hbw
        obtain ⟨e1, e2, e3, -⟩ := htx
        have HT := totT_take l k hlt
        rw [← e1] at HT
        have HT' : Hid (totT (l.take (k + 1)) = totT (l.take k) + tn) := HT
        have sz := hb.size
        clear hl HT hb e1
        generalize totT (l.take k) = m at ht HT' ⊢
        by_cases hle2 : (tn : Int) ≤ left - (l.length : Int) - m
        · have HX : Hid ((if (tn : Int) ≤ left - (l.length : Int) - m then left - (l.length : Int) - m - tn else -1) = left - (l.length : Int) - m - tn) := if_pos hle2
          have n0 : ¬ left - (l.length : Int) - m - tn < 0 := by omega
          go_wp2_with (go_at_call 79; refine (szCell_l _ _ _ _ _ _ _ _ _ e2 e3 (by omega) (by omega) HX.out).mono ?_; rintro e w1 ⟨rfl, hb1⟩)
          go_roundw
          case rel => exact ⟨k + 1, by omega, by go_num, by rw [HT'.out]; omega, by rw [HT'.out]; congr 1; omega, HB.out.trans (hb1.mono sz)⟩
          case measure => simp [intOf]; omega
        · have HX : Hid ((if (tn : Int) ≤ left - (l.length : Int) - m then left - (l.length : Int) - m - tn else -1) = -1) := if_neg hle2
          go_wp2_with (go_at_call 79; refine (szCell_l _ _ _ _ _ _ _ _ _ e2 e3 (by omega) (by omega) HX.out).mono ?_; rintro e w1 ⟨rfl, hb1⟩)
          go_ret
          exact ⟨.inl rfl, HB.out.trans (hb1.mono sz)⟩
      · have e : l.take k = l := List.take_of_length_le (by omega)
        rw [e] at ht ⊢
        go_wp2_with fail
        go_ret
        exact ⟨.inr ⟨ht, rfl⟩, HB.out⟩
  · have k0 : left - (l.length : Int) < 0 := by omega
    go_enter Try.func74, Try.ntmps74
    go_wp2_with fail
    go_ret
    exact ⟨.inl rfl, Below.refl _ _⟩
set_option maxHeartbeats 1000000 in
theorem szTable_l {R C : Int} {a : Option Addr} {n cap : Nat} {l : List Cl} {left : Int} {w : World} (h : Tab w a n cap l) (h0 : 0 ≤ left) (h1 : left ≤ 1048576) :
    Calls Try.prog 63 #[.agg #[.int .i64 R, .int .i64 C, .slice a n cap], .int .i64 left] w fun e w' => (e = .returned (.int .i64 (-1)) ∨ ((l.length : Int) + (totT l : Nat) ≤ left ∧ e = .returned (.int .i64 (left - l.length - (totT l : Nat))))) ∧ Below w.heap.size w w' := by
  have H : Hid (Tab w a n cap l) := h
  clear h
  go_enter Try.func63, Try.ntmps63
  go_wp2_with (go_at_call 74; refine (szCellS_l (H.out.below ((Below.refl _ _).alloc (Nat.le_refl _) _)) h0 h1).mono ?_; rintro e w1 ⟨(rfl | ⟨hle, rfl⟩), hb1⟩)
  · go_ret
    exact ⟨.inl rfl, ((Below.refl _ _).alloc (Nat.le_refl _) _).trans (hb1.mono (by simp))⟩
  · go_ret
    exact ⟨.inr ⟨hle, rfl⟩, ((Below.refl _ _).alloc (Nat.le_refl _) _).trans (hb1.mono (by simp))⟩
/-- How much a block has. -/
def szB (x : Bl) : Nat := x.2.2.1.length + (x.2.2.2.2.2.length + totT x.2.2.2.2.2)
set_option maxRecDepth 100000 in
set_option maxHeartbeats 4000000 in
theorem szBlock_l {k v : Int} {ta : Option Addr} {tn tc : Nat} {R C : Int} {ca : Option Addr} {cn cc : Nat} {t : List Sg} {l : List Cl} {left : Int} {w : World} (ht : Txt w ta tn tc t) (hc : Tab w ca cn cc l) (h0 : 0 ≤ left) (h1 : left ≤ 1048576) :
    Calls Try.prog 49 #[.agg #[.int .i64 k, .int .i64 v, .slice ta tn tc, .int .i64 R, .int .i64 C, .slice ca cn cc], .int .i64 left] w fun e w' => (e = .returned (.int .i64 (-1)) ∨ ((szB (k, v, t, R, C, l) : Nat) ≤ left ∧ e = .returned (.int .i64 (left - (szB (k, v, t, R, C, l) : Nat))))) ∧ Below w.heap.size w w' := by
  have e1 := ht.1
  have e2 := ht.2.1
  have e3 := ht.2.2.1
  have HE : Hid (tn = t.length) := e1
  have HC : Hid (Tab w ca cn cc l) := hc
  clear e1 ht hc
  have B0 : Below w.heap.size w (w.alloc (.cells #[.int .i64 k, .int .i64 v, .slice ta tn tc, .int .i64 R, .int .i64 C, .slice ca cn cc] 103)) := (Below.refl _ _).alloc (Nat.le_refl _) _
  by_cases hle : (tn : Int) ≤ left
  · have HX : Hid ((if (tn : Int) ≤ left then left - tn else -1) = left - tn) := if_pos hle
    have n0 : ¬ left - (tn : Int) < 0 := by omega
    go_enter Try.func49, Try.ntmps49
    go_wp2_with (first | (go_at_call 62; refine (szSignS_l _ _ _ _ _ e2 e3 h0 h1 HX.out).mono ?_; rintro e w1 ⟨rfl, hw1⟩; subst w1) | (go_at_call 63; refine (szTable_l (HC.out.below B0) (by omega) (by omega)).mono ?_; rintro e w2 ⟨(rfl | ⟨hle2, rfl⟩), hb2⟩))
    · go_ret
      exact ⟨.inl rfl, B0.trans (hb2.mono B0.size)⟩
    · have n1 : ¬ left - (tn : Int) - (l.length : Int) - (totT l : Nat) < 0 := by omega
      go_wp2_with fail
      go_ret
      refine ⟨.inr ⟨?_, ?_⟩, B0.trans (hb2.mono B0.size)⟩
      · show ((t.length + (l.length + totT l) : Nat) : Int) ≤ left
        have := HE.out
        omega
      · have := HE.out
        have e : left - (tn : Int) - (l.length : Int) - (totT l : Nat) = left - ((t.length + (l.length + totT l) : Nat) : Int) := by omega
        rw [e]
        rfl
  · have HX : Hid ((if (tn : Int) ≤ left then left - tn else -1) = -1) := if_neg hle
    go_enter Try.func49, Try.ntmps49
    go_wp2_with (go_at_call 62; refine (szSignS_l _ _ _ _ _ e2 e3 h0 h1 HX.out).mono ?_; rintro e w1 ⟨rfl, hw1⟩; subst w1)
    go_ret
    exact ⟨.inl rfl, B0⟩
/-- How much the blocks have. -/
def totD (d : List Bl) : Nat := (d.map szB).sum
theorem totD_append (a b : List Bl) : totD (a ++ b) = totD a + totD b := by
  unfold totD
  rw [List.map_append, List.sum_append]
theorem totD_take (l : List Bl) (k : Nat) (hk : k < l.length) : totD (l.take (k + 1)) = totD (l.take k) + szB (l.getD k bl0) := by
  rw [List.take_succ_eq_append_getElem hk, totD_append, show l.getD k bl0 = l[k] from by simp [List.getD, hk]]
  rfl
theorem totD_le (l : List Bl) (k : Nat) (hk : k < l.length) : szB (l.getD k bl0) ≤ totD l := by
  have h1 := totD_take l k hk
  have h2 := totD_append (l.take (k + 1)) (l.drop (k + 1))
  rw [List.take_append_drop] at h2
  omega
set_option maxRecDepth 100000 in
set_option maxHeartbeats 4000000 in
theorem szBlockS_l {a : Option Addr} {n cap : Nat} {d : List Bl} {left : Int} {w : World} (h : Dc w a n cap d) (h0 : 0 ≤ left) (h1 : left ≤ 1048576) :
    Calls Try.prog 34 #[.slice a n cap, .int .i64 left] w fun e w' => (e = .returned (.int .i64 (-1)) ∨ ((d.length : Int) + (totD d : Nat) ≤ left ∧ e = .returned (.int .i64 (left - d.length - (totD d : Nat))))) ∧ Below w.heap.size w w' := by
  obtain ⟨rfl, hc, hm, hl⟩ := h
  have hmm := hm
  unfold maxLen at hm
  by_cases hle : (d.length : Int) ≤ left
  · have k0 : ¬ left - (d.length : Int) < 0 := by omega
    have HL : Hid (d = [] ∨ ∃ b off, a = some ⟨b, off, none⟩ ∧ b < w.heap.size ∧ ∀ k, k < d.length → BlockAt w b (off + k * 6) (d.getD k bl0)) := hl
    clear hl
    go_enter Try.func34, Try.ntmps34
    go_wp2_with fail
    go_loopw [1, 5] (fun lv i wr => ∃ k : Nat, k ≤ d.length ∧ i = .int .i64 k ∧ (d.length : Int) + (totD (d.take k) : Nat) ≤ left ∧ lv = .int .i64 (left - (d.length : Int) - (totD (d.take k) : Nat)) ∧ Below w.heap.size w wr) (fun _ i _ => d.length - (intOf i).toNat)
    case atStart => exact ⟨0, Nat.zero_le _, rfl, by simpa [totD] using hle, by simp [totD], Below.refl _ _⟩
    case round =>
      obtain ⟨k, hk, rfl, ht, rfl, hb⟩ := hrel
      have HB : Hid (Below w.heap.size w wr) := hb
      by_cases hlt : k < d.length
      · rcases HL.out with e | ⟨b, off, rfl, hbw, hl⟩
        · rw [e] at hlt
          exact absurd hlt (by simp)
        obtain ⟨ta, tn, tc, ca, cn, cc, hblk⟩ := (hl k hlt).below hb hbw
        have HT' : Hid (totD (d.take (k + 1)) = totD (d.take k) + szB (d.getD k bl0)) := totD_take d k hlt
        obtain ⟨⟨K, V, t, R, C, l⟩, hx⟩ : ∃ x, x = d.getD k bl0 := ⟨_, rfl⟩
        rw [← hx] at hblk HT'
        obtain ⟨c0, c1, c2, c3, c4, c5, htx, htb⟩ := hblk
        simp only at c0 c1 c3 c4 htx htb
        have HTX : Hid (Txt wr ta tn tc t) := htx
        have HTB : Hid (Tab wr ca cn cc l) := htb
        have sz := hb.size
        clear hl hb hx htx htb
        generalize totD (d.take k) = m at ht HT' ⊢
        go_wp2_with (go_at_call 49; refine (szBlock_l HTX.out HTB.out (by omega) (by omega)).mono ?_; rintro e w1 ⟨(rfl | ⟨hle2, rfl⟩), hb1⟩)
        · go_ret
          exact ⟨.inl rfl, HB.out.trans (hb1.mono sz)⟩
        · generalize szB (K, V, t, R, C, l) = z at HT' hle2 ⊢
          have n0 : ¬ left - (d.length : Int) - (m : Int) - (z : Int) < 0 := by omega
          go_wp2_with fail
          go_roundw
          case rel => exact ⟨k + 1, by omega, by go_num, by rw [HT'.out]; omega, by rw [HT'.out]; congr 1; omega, HB.out.trans (hb1.mono sz)⟩
          case measure => simp [intOf]; omega
      · have e : d.take k = d := List.take_of_length_le (by omega)
        rw [e] at ht ⊢
        go_wp2_with fail
        go_ret
        exact ⟨.inr ⟨ht, rfl⟩, HB.out⟩
  · have k0 : left - (d.length : Int) < 0 := by omega
    go_enter Try.func34, Try.ntmps34
    go_wp2_with fail
    go_ret
    exact ⟨.inl rfl, Below.refl _ _⟩
set_option maxHeartbeats 1000000 in
theorem szDoc_any {a : Option Addr} {n cap : Nat} {d : List Bl} {w : World} (h : Dc w a n cap d) :
    Calls Try.prog 14 #[.agg #[.slice a n cap], .int .i64 1048576] w fun e w' => (e = .returned (.int .i64 (-1)) ∨ (d.length + totD d ≤ 1048576 ∧ e = .returned (.int .i64 (1048576 - d.length - (totD d : Nat))))) ∧ Below w.heap.size w w' := by
  have H : Hid (Dc w a n cap d) := h
  clear h
  have B0 : Below w.heap.size w (w.alloc (.cells #[.slice a n cap] 44)) := (Below.refl _ _).alloc (Nat.le_refl _) _
  go_enter Try.func14, Try.ntmps14
  go_wp2_with (go_at_call 34; refine (szBlockS_l (H.out.below B0) (by omega) (by omega)).mono ?_; rintro e w1 ⟨(rfl | ⟨hle, rfl⟩), hb1⟩)
  · go_ret
    exact ⟨.inl rfl, B0.trans (hb1.mono B0.size)⟩
  · generalize totD d = m at hle ⊢
    have n0 : ¬ (1048576 : Int) - (d.length : Int) - (m : Int) < 0 := by omega
    go_wp2_with fail
    go_ret
    exact ⟨.inr ⟨by omega, rfl⟩, B0.trans (hb1.mono B0.size)⟩
end Go.Proofs.Ytcecmkideoodiaa
namespace Go.Proofs.Ytcecmkideoodiaa
open Go.RowKit

set_option maxHeartbeats 2000000 in
theorem toTable_any (R C : Int) (a : Option Addr) (n cap : Nat) (l : List Cl) (w : World) (h : Tab w a n cap l) (hn : l.length + totT l ≤ 1048576) :
    Calls Try.prog 65 #[.agg #[.int .i64 R, .int .i64 C, .slice a n cap]] w fun e w' => (∃ b rs, w.heap.size ≤ b ∧ e = .returned (.agg #[.int .i64 R, .int .i64 C, .slice (some ⟨b, 0, none⟩) n n]) ∧ OwnT w' w.heap.size (.slice (some ⟨b, 0, none⟩) n n) rs l) ∧ Below w.heap.size w w' := by
  have H : Hid (Tab w a n cap l) := h
  clear h
  go_enter Try.func65, Try.ntmps65
  go_upto_region 4 with fail
  have B0 : Below w.heap.size w (((w.alloc (.cells #[.int .i64 R, .int .i64 C, .slice a n cap] 101)).alloc (.cells #[.int .i64 0, .int .i64 0, .slice none 0 0] 37)).alloc (.cells #[.int .i64 R, .int .i64 C, .slice none 0 0] 37)) := (((Below.refl _ _).alloc (Nat.le_refl _) _).alloc (by simp) _).alloc (by simp; omega) _
  have G0 : RowAt (((w.alloc (.cells #[.int .i64 R, .int .i64 C, .slice a n cap] 101)).alloc (.cells #[.int .i64 0, .int .i64 0, .slice none 0 0] 37)).alloc (.cells #[.int .i64 R, .int .i64 C, .slice none 0 0] 37)) w.heap.size #[.int .i64 R, .int .i64 C, .slice a n cap] 101 := ((rowAt_new w _ _).alloc _).alloc _
  have G1 : RowAt (((w.alloc (.cells #[.int .i64 R, .int .i64 C, .slice a n cap] 101)).alloc (.cells #[.int .i64 0, .int .i64 0, .slice none 0 0] 37)).alloc (.cells #[.int .i64 R, .int .i64 C, .slice none 0 0] 37)) (w.heap.size + 1) #[.int .i64 0, .int .i64 0, .slice none 0 0] 37 := by
    have := (rowAt_new (w.alloc (.cells #[.int .i64 R, .int .i64 C, .slice a n cap] 101)) #[.int .i64 0, .int .i64 0, .slice none 0 0] 37).alloc (.cells #[.int .i64 R, .int .i64 C, .slice none 0 0] 37)
    simpa using this
  have G2 : RowAt (((w.alloc (.cells #[.int .i64 R, .int .i64 C, .slice a n cap] 101)).alloc (.cells #[.int .i64 0, .int .i64 0, .slice none 0 0] 37)).alloc (.cells #[.int .i64 R, .int .i64 C, .slice none 0 0] 37)) (w.heap.size + 1 + 1) #[.int .i64 R, .int .i64 C, .slice none 0 0] 37 := by
    have := (rowAt_new ((w.alloc (.cells #[.int .i64 R, .int .i64 C, .slice a n cap] 101)).alloc (.cells #[.int .i64 0, .int .i64 0, .slice none 0 0] 37)) #[.int .i64 R, .int .i64 C, .slice none 0 0] 37)
    simpa using this
  generalize (((w.alloc (.cells #[.int .i64 R, .int .i64 C, .slice a n cap] 101)).alloc (.cells #[.int .i64 0, .int .i64 0, .slice none 0 0] 37)).alloc (.cells #[.int .i64 R, .int .i64 C, .slice none 0 0] 37)) = v0 at B0 G0 G1 G2 ⊢
  have k2 : v0.cell? ⟨w.heap.size, 2, none⟩ = some (.slice a n cap) := G0.cell 2
  have l2 := G2.lt
  have l1 := G1.lt
  have H1 : Hid (RowAt v0 (w.heap.size + 1) #[.int .i64 0, .int .i64 0, .slice none 0 0] 37) := G1
  have H2 : Hid (RowAt v0 (w.heap.size + 1 + 1) #[.int .i64 R, .int .i64 C, .slice none 0 0] 37) := G2
  clear G0 G1 G2
  go_upto_region 5 with (go_at_call 76; refine (toCellS_any _ _ _ l _ (H.out.below B0) hn).mono ?_; rintro e w1 ⟨rfl, ⟨rs, ho1⟩, hb1⟩; have q1 : w1.cell? ⟨w.heap.size + 1 + 1, 2, none⟩ = some (.slice none 0 0) := (H2.out.below hb1 l2).cell 2; have q2 := (H2.out.below hb1 l2).frozen 2)
  have G2 := (H2.out.below hb1 l2).setCell 2 (.slice (some ⟨v0.heap.size, 0, none⟩) n n)
  have G1 := (H1.out.below hb1 l1).other ⟨w.heap.size + 1 + 1, 2, none⟩ (.slice (some ⟨v0.heap.size, 0, none⟩) n n) (by simp <;> omega)
  have bk : ∀ k, k < rs.length → ∀ g, (rwT (rs.getD k rw0)).ownBlock = some g → v0.heap.size ≤ g := fun k hk g hg => (own_lt (ho1.2.2.1 k hk).2.2.2.2 hg).1
  have O1 : OwnT (w1.setCell ⟨w.heap.size + 1 + 1, 2, none⟩ (.slice (some ⟨v0.heap.size, 0, none⟩) n n)) v0.heap.size (.slice (some ⟨v0.heap.size, 0, none⟩) n n) rs l :=
    ⟨own_set ho1.1 _ _ (by simp [Value.ownBlock]; omega), ho1.2.1, fun k hk => by
      obtain ⟨h0, h1, h2, h3, h4⟩ := ho1.2.2.1 k hk
      exact ⟨h0, h1, h2, h3, own_set h4 _ _ (fun e => by have := bk k hk _ e; simp at this; omega)⟩, ho1.2.2.2⟩
  have B1 : Below w.heap.size w (w1.setCell ⟨w.heap.size + 1 + 1, 2, none⟩ (.slice (some ⟨v0.heap.size, 0, none⟩) n n)) := (B0.trans (hb1.mono B0.size)).setCell (by show _ ≤ w.heap.size + 1 + 1; omega) _
  clear q1 q2 ho1 hb1
  generalize (w1.setCell ⟨w.heap.size + 1 + 1, 2, none⟩ (.slice (some ⟨v0.heap.size, 0, none⟩) n n)) = w2 at G2 G1 O1 B1 ⊢
  have e0 : w2.cell? ⟨w.heap.size + 1 + 1, 0, none⟩ = some (.int .i64 R) := G2.cell 0
  have e1 : w2.cell? ⟨w.heap.size + 1 + 1, 1, none⟩ = some (.int .i64 C) := G2.cell 1
  have e2 : w2.cell? ⟨w.heap.size + 1 + 1, 2, none⟩ = some (.slice (some ⟨v0.heap.size, 0, none⟩) n n) := G2.cell 2
  have HR : Hid (RowAt w2 (w.heap.size + 1) #[.int .i64 0, .int .i64 0, .slice none 0 0] 37) := G1
  have HL := G2.lt
  have s0 := B0.size
  have HO : Hid (OwnT w2 v0.heap.size (.slice (some ⟨v0.heap.size, 0, none⟩) n n) rs l) := O1
  have HK : Hid (∀ k, k < rs.length → ∀ g, (rwT (rs.getD k rw0)).ownBlock = some g → v0.heap.size ≤ g) := bk
  clear G1 G2 O1 bk
  go_wp2_with ((refine wpList_store_row rfl 37 (.tmp 2) (.tmp 14) rfl (w.heap.size + 1) #[.int .i64 R, .int .i64 C, .slice (some ⟨v0.heap.size, 0, none⟩) n n] rfl rfl 37 _ HR.out tab_info rfl (cells3_one _ _ _ _ _) ?_))
  refine bodyPost_ret (v := .agg #[.int .i64 R, .int .i64 C, .slice (some ⟨v0.heap.size, 0, none⟩) n n]) (results_cell_row (p := 2) (ty := 37) rfl _ _ (w.heap.size + 1) 37 _ _ _ rfl (RowAt.setRow HR.out _) Try.underlying37 rfl tab_info) rfl ⟨⟨v0.heap.size, rs, by omega, rfl, ?_⟩, below_row B1 (by omega) _⟩
  refine OwnT.less (B' := v0.heap.size) ⟨own_row HO.out.1 _ _ (by simp [Value.ownBlock]; omega), HO.out.2.1, fun k hk => ?_, HO.out.2.2.2⟩ (by omega)
  obtain ⟨h0, h1, h2, h3, h4⟩ := HO.out.2.2.1 k hk
  exact ⟨h0, h1, h2, h3, own_row h4 _ _ (fun e => by have := HK.out k hk _ e; omega)⟩

theorem cl_eq (x y : Cl) : (x = y) ↔ (x.1 = y.1 ∧ x.2.1 = y.2.1 ∧ x.2.2.1 = y.2.2.1 ∧ x.2.2.2.1 = y.2.2.2.1 ∧ x.2.2.2.2 = y.2.2.2.2) := by
  obtain ⟨a, b, c, d, e⟩ := x
  obtain ⟨a', b', c', d', e'⟩ := y
  simp
theorem eqSignS_is {a : Option Addr} {n cap : Nat} {l : List Sg} {a' : Option Addr} {n' cap' : Nat} {m : List Sg} {w : World} {x : Bool} (hx : decide (l = m) = x) (h : Txt w a n cap l) (h' : Txt w a' n' cap' m) :
    Calls Try.prog 18 #[.slice a n cap, .slice a' n' cap'] w fun e w' => e = .returned (.bool x) ∧ Below w.heap.size w w' := hx ▸ eqSignS_any a n cap l a' n' cap' m w h h'
set_option maxHeartbeats 4000000 in
theorem eqCell_is (r c d g : Int) (a : Option Addr) (n cap : Nat) (l : List Sg) (r' c' d' g' : Int) (a' : Option Addr) (n' cap' : Nat) (m : List Sg) (w : World) (h : Txt w a n cap l) (h' : Txt w a' n' cap' m) {x : Bool} (hx : x = true ↔ ((r, c, d, g, l) : Cl) = (r', c', d', g', m)) :
    Calls Try.prog 81 #[.agg #[.int .i64 r, .int .i64 c, .int .i64 d, .int .i64 g, .slice a n cap], .agg #[.int .i64 r', .int .i64 c', .int .i64 d', .int .i64 g', .slice a' n' cap']] w fun e w' => e = .returned (.bool x) ∧ Below w.heap.size w w' := by
  have H : Hid (Txt w a n cap l) := h
  have H' : Hid (Txt w a' n' cap' m) := h'
  clear h h'
  have bb : Below w.heap.size w ((w.alloc (.cells #[.int .i64 r, .int .i64 c, .int .i64 d, .int .i64 g, .slice a n cap] 41)).alloc (.cells #[.int .i64 r', .int .i64 c', .int .i64 d', .int .i64 g', .slice a' n' cap'] 41)) := ((Below.refl _ _).alloc (Nat.le_refl _) _).alloc (by simp) _
  by_cases h0 : r = r'
  · by_cases h1 : c = c'
    · by_cases h2 : d = d'
      · by_cases h3 : g = g'
        · subst h0 h1 h2 h3
          have HX : Hid (decide (l = m) = x) := by
            show decide (l = m) = x
            rw [Bool.eq_iff_iff, hx, decide_eq_true_eq]
            simp
          clear hx
          cases x
          · go_enter Try.func81, Try.ntmps81
            go_wp2_with (go_at_call 18; refine (eqSignS_is HX.out (H.out.below bb) (H'.out.below bb)).mono ?_; rintro e w1 ⟨rfl, hb1⟩)
            go_ret
            exact ⟨rfl, bb.trans (hb1.mono (by simp; omega))⟩
          · go_enter Try.func81, Try.ntmps81
            go_wp2_with (go_at_call 18; refine (eqSignS_is HX.out (H.out.below bb) (H'.out.below bb)).mono ?_; rintro e w1 ⟨rfl, hb1⟩)
            go_ret
            exact ⟨rfl, bb.trans (hb1.mono (by simp; omega))⟩
        · subst h0 h1 h2
          obtain rfl : x = false := by
              rw [← Bool.not_eq_true, hx]
              exact fun e => h3 (by simp at e; exact e.1)
          have k : (g != g') = true := by simp; exact h3
          go_enter Try.func81, Try.ntmps81
          go_wp2_with fail
          go_ret
          exact ⟨rfl, bb⟩
      · subst h0 h1
        obtain rfl : x = false := by
              rw [← Bool.not_eq_true, hx]
              exact fun e => h2 (by simp at e; exact e.1)
        have k : (d != d') = true := by simp; exact h2
        go_enter Try.func81, Try.ntmps81
        go_wp2_with fail
        go_ret
        exact ⟨rfl, bb⟩
    · subst h0
      obtain rfl : x = false := by
              rw [← Bool.not_eq_true, hx]
              exact fun e => h1 (by simp at e; exact e.1)
      have k : (c != c') = true := by simp; exact h1
      go_enter Try.func81, Try.ntmps81
      go_wp2_with fail
      go_ret
      exact ⟨rfl, bb⟩
  · obtain rfl : x = false := by
              rw [← Bool.not_eq_true, hx]
              exact fun e => h0 (by simp at e; exact e.1)
    have k : (r != r') = true := by simp; exact h0
    go_enter Try.func81, Try.ntmps81
    go_wp2_with fail
    go_ret
    exact ⟨rfl, bb⟩
theorem take_eq_succC (l m : List Cl) (k : Nat) (h : k < l.length) (hl : l.length = m.length) (he : l.take k = m.take k) (hs : l.getD k cl0 = m.getD k cl0) : l.take (k + 1) = m.take (k + 1) := by
  rw [List.take_succ_eq_append_getElem h, List.take_succ_eq_append_getElem (by omega), he]
  simp only [List.getD, List.getElem?_eq_getElem h, List.getElem?_eq_getElem (show k < m.length by omega), Option.getD_some] at hs
  rw [hs]
set_option maxHeartbeats 4000000 in
theorem eqCellS_is {a : Option Addr} {n cap : Nat} {l : List Cl} {a' : Option Addr} {n' cap' : Nat} {m : List Cl} {w : World} {x : Bool} (hx : x = true ↔ l = m) (h : Tab w a n cap l) (h' : Tab w a' n' cap' m) :
    Calls Try.prog 77 #[.slice a n cap, .slice a' n' cap'] w fun e w' => e = .returned (.bool x) ∧ Below w.heap.size w w' := by
  have HXX : Hid (x = true ↔ l = m) := hx
  clear hx
  obtain ⟨rfl, hc, hm, hl⟩ := h
  obtain ⟨rfl, hc', hm', hl'⟩ := h'
  unfold maxLen at hm hm'
  by_cases hlen : l.length = m.length
  · have hbq : ((l.length : Int) != (m.length : Int)) = false := by simp [hlen]
    have HL : Hid (l.length = m.length) := hlen
    have hl1 : l.length ≤ m.length := by omega
    have hl2 : m.length ≤ l.length := by omega
    clear hlen
    go_enter Try.func77, Try.ntmps77
    go_wp2_with fail
    go_loopw [5] (fun i wr => ∃ (k : Nat), k ≤ l.length ∧ i = .int .i64 k ∧ l.take k = m.take k ∧ Below w.heap.size w wr) (fun i _ => l.length - (intOf i).toNat)
    case atStart => exact ⟨0, Nat.zero_le _, rfl, by simp, Below.refl _ _⟩
    case round =>
      obtain ⟨k, hk, rfl, ht, hbl⟩ := hrel
      have hsz := hbl.size
      have HT : Hid (l.take k = m.take k) := ht
      have HB : Hid (Below w.heap.size w wr) := hbl
      clear ht
      by_cases hlt : k < l.length
      · have hlt' : k < m.length := by omega
        rcases hl with e | ⟨b, off, rfl, hbw, hl⟩
        · rw [e] at hlt
          exact absurd hlt (by simp)
        rcases hl' with e | ⟨b', off', rfl, hbw', hl'⟩
        · rw [e] at hlt'
          exact absurd hlt' (by simp)
        obtain ⟨c0, c1, c2, c3, ta, tn, tc, c4, htx⟩ := (hl k hlt).below hbl hbw
        obtain ⟨d0, d1, d2, d3, ta', tn', tc', d4, htx'⟩ := (hl' k hlt').below hbl hbw'
        clear hl hl'
        obtain ⟨⟨r, c, d, g, tx⟩, hs⟩ : ∃ s, s = l.getD k cl0 := ⟨_, rfl⟩
        obtain ⟨⟨r', c', d', g', tx'⟩, hs'⟩ : ∃ t, t = m.getD k cl0 := ⟨_, rfl⟩
        rw [← hs] at c0 c1 c2 c3 htx
        rw [← hs'] at d0 d1 d2 d3 htx'
        simp only at c0 c1 c2 c3 htx d0 d1 d2 d3 htx'
        have HS : Hid ((r, c, d, g, tx) = l.getD k cl0) := hs
        have HM : Hid ((r', c', d', g', tx') = m.getD k cl0) := hs'
        have HX : Hid (Txt wr ta tn tc tx) := htx
        have HX' : Hid (Txt wr ta' tn' tc' tx') := htx'
        clear hs hs' htx htx' hbl
        by_cases hb : ((r, c, d, g, tx) : Cl) = (r', c', d', g', tx')
        rotate_left
        · have HF : Hid (x = false) := by
            show x = false
            rw [← Bool.not_eq_true, HXX.out]
            intro e
            rw [HS.out, HM.out, e] at hb
            exact hb rfl
          have HBQ : Hid (false = true ↔ ((r, c, d, g, tx) : Cl) = (r', c', d', g', tx')) := ⟨fun e => by simp at e, fun e => absurd e hb⟩
          clear hb
          go_wp2_with fail
          go_region_with (go_at_call 81; refine (eqCell_is _ _ _ _ _ _ _ tx _ _ _ _ _ _ _ tx' _ (HX.out.below (Below.refl _ _).drew) (HX'.out.below (Below.refl _ _).drew) HBQ.out).mono ?_; rintro e w1 ⟨rfl, hb1⟩)
          all_goals
            go_wp2_with fail
            go_ret
            exact ⟨by rw [HF.out]; rfl, HB.out.drew.trans (hb1.mono hsz)⟩
        · have HBQ : Hid (((r, c, d, g, tx) : Cl) = (r', c', d', g', tx')) := hb
          clear hb
          go_wp2_with fail
          go_region_with (go_at_call 81; refine (eqCell_is (x := true) _ _ _ _ _ _ _ tx _ _ _ _ _ _ _ tx' _ (HX.out.below (Below.refl _ _).drew) (HX'.out.below (Below.refl _ _).drew) ⟨fun _ => HBQ.out, fun _ => rfl⟩).mono ?_; rintro e w1 ⟨rfl, hb1⟩)
          all_goals
            go_wp2_with fail
            go_roundw
            case rel => exact ⟨k + 1, by omega, by go_num, take_eq_succC l m k hlt HL.out HT.out (by rw [← HS.out, ← HM.out]; exact HBQ.out), HB.out.drew.trans (hb1.mono hsz)⟩
            case measure => simp [intOf]; omega
      · go_wp2_with fail
        go_ret
        refine ⟨?_, HB.out⟩
        have := HT.out
        rw [List.take_of_length_le (by omega), List.take_of_length_le (by omega)] at this
        rw [HXX.out.2 this]; rfl
  · have hbq : ((l.length : Int) != (m.length : Int)) = true := by simp; omega
    obtain rfl : x = false := by
      rw [← Bool.not_eq_true, HXX.out]
      exact fun e => hlen (by rw [e])
    go_enter Try.func77, Try.ntmps77
    go_wp2_with fail
    go_ret
    exact ⟨rfl, Below.refl _ _⟩
set_option maxHeartbeats 4000000 in
theorem eqTable_same (R C : Int) (a : Option Addr) (n cap : Nat) (l : List Cl) (a' : Option Addr) (n' cap' : Nat) (w : World) (h : Tab w a n cap l) (h' : Tab w a' n' cap' l) :
    Calls Try.prog 66 #[.agg #[.int .i64 R, .int .i64 C, .slice a n cap], .agg #[.int .i64 R, .int .i64 C, .slice a' n' cap']] w fun e w' => e = .returned (.bool true) ∧ Below w.heap.size w w' := by
  have H : Hid (Tab w a n cap l) := h
  have H' : Hid (Tab w a' n' cap' l) := h'
  clear h h'
  have bb : Below w.heap.size w ((w.alloc (.cells #[.int .i64 R, .int .i64 C, .slice a n cap] 37)).alloc (.cells #[.int .i64 R, .int .i64 C, .slice a' n' cap'] 37)) := ((Below.refl _ _).alloc (Nat.le_refl _) _).alloc (by simp) _
  go_enter Try.func66, Try.ntmps66
  go_wp2_with (go_at_call 77; refine (eqCellS_is (x := true) ⟨fun _ => rfl, fun _ => rfl⟩ (H.out.below bb) (H'.out.below bb)).mono ?_; rintro e w1 ⟨rfl, hb1⟩)
  go_ret
  exact ⟨rfl, bb.trans (hb1.mono (by simp; omega))⟩
end Go.Proofs.Ytcecmkideoodiaa
namespace Go.Proofs.Ytcecmkideoodiaa
open Go.RowKit

set_option maxRecDepth 100000 in
set_option maxHeartbeats 4000000 in
theorem toBlock_any {k v : Int} {ta : Option Addr} {tn tc : Nat} {R C : Int} {ca : Option Addr} {cn cc : Nat} {t : List Sg} {l : List Cl} {w : World} (ht : Txt w ta tn tc t) (hc : Tab w ca cn cc l) (h1 : tn ≤ 1048576) (h2 : l.length + totT l ≤ 1048576) :
    Calls Try.prog 50 #[.agg #[.int .i64 k, .int .i64 v, .slice ta tn tc, .int .i64 R, .int .i64 C, .slice ca cn cc]] w fun e w' => (∃ tb cb mid, e = .returned (.agg #[.int .i64 k, .int .i64 v, .slice (some ⟨tb, 0, none⟩) tn tn, .int .i64 R, .int .i64 C, .slice (some ⟨cb, 0, none⟩) cn cn]) ∧ BlOwn w' w.heap.size mid w'.heap.size (k, v, (some ⟨tb, 0, none⟩, tn, tn), R, C, (some ⟨cb, 0, none⟩, cn, cn)) (k, v, t, R, C, l)) ∧ Below w.heap.size w w' := by
  have HT : Hid (Txt w ta tn tc t) := ht
  have HC : Hid (Tab w ca cn cc l) := hc
  clear ht hc
  go_enter Try.func50, Try.ntmps50
  go_upto_region 4 with fail
  have B0 : Below w.heap.size w (((w.alloc (.cells #[.int .i64 k, .int .i64 v, .slice ta tn tc, .int .i64 R, .int .i64 C, .slice ca cn cc] 103)).alloc (.cells #[.int .i64 0, .int .i64 0, .slice none 0 0, .int .i64 0, .int .i64 0, .slice none 0 0] 39)).alloc (.cells #[.int .i64 k, .int .i64 v, .slice none 0 0, .int .i64 0, .int .i64 0, .slice none 0 0] 39)) := (((Below.refl _ _).alloc (Nat.le_refl _) _).alloc (by simp) _).alloc (by simp; omega) _
  have G0 : RowAt (((w.alloc (.cells #[.int .i64 k, .int .i64 v, .slice ta tn tc, .int .i64 R, .int .i64 C, .slice ca cn cc] 103)).alloc (.cells #[.int .i64 0, .int .i64 0, .slice none 0 0, .int .i64 0, .int .i64 0, .slice none 0 0] 39)).alloc (.cells #[.int .i64 k, .int .i64 v, .slice none 0 0, .int .i64 0, .int .i64 0, .slice none 0 0] 39)) w.heap.size #[.int .i64 k, .int .i64 v, .slice ta tn tc, .int .i64 R, .int .i64 C, .slice ca cn cc] 103 := ((rowAt_new w _ _).alloc _).alloc _
  have G1 : RowAt (((w.alloc (.cells #[.int .i64 k, .int .i64 v, .slice ta tn tc, .int .i64 R, .int .i64 C, .slice ca cn cc] 103)).alloc (.cells #[.int .i64 0, .int .i64 0, .slice none 0 0, .int .i64 0, .int .i64 0, .slice none 0 0] 39)).alloc (.cells #[.int .i64 k, .int .i64 v, .slice none 0 0, .int .i64 0, .int .i64 0, .slice none 0 0] 39)) (w.heap.size + 1) #[.int .i64 0, .int .i64 0, .slice none 0 0, .int .i64 0, .int .i64 0, .slice none 0 0] 39 := by
    have := (rowAt_new (w.alloc (.cells #[.int .i64 k, .int .i64 v, .slice ta tn tc, .int .i64 R, .int .i64 C, .slice ca cn cc] 103)) #[.int .i64 0, .int .i64 0, .slice none 0 0, .int .i64 0, .int .i64 0, .slice none 0 0] 39).alloc (.cells #[.int .i64 k, .int .i64 v, .slice none 0 0, .int .i64 0, .int .i64 0, .slice none 0 0] 39)
    simpa using this
  have G2 : RowAt (((w.alloc (.cells #[.int .i64 k, .int .i64 v, .slice ta tn tc, .int .i64 R, .int .i64 C, .slice ca cn cc] 103)).alloc (.cells #[.int .i64 0, .int .i64 0, .slice none 0 0, .int .i64 0, .int .i64 0, .slice none 0 0] 39)).alloc (.cells #[.int .i64 k, .int .i64 v, .slice none 0 0, .int .i64 0, .int .i64 0, .slice none 0 0] 39)) (w.heap.size + 1 + 1) #[.int .i64 k, .int .i64 v, .slice none 0 0, .int .i64 0, .int .i64 0, .slice none 0 0] 39 := by
    have := (rowAt_new ((w.alloc (.cells #[.int .i64 k, .int .i64 v, .slice ta tn tc, .int .i64 R, .int .i64 C, .slice ca cn cc] 103)).alloc (.cells #[.int .i64 0, .int .i64 0, .slice none 0 0, .int .i64 0, .int .i64 0, .slice none 0 0] 39)) #[.int .i64 k, .int .i64 v, .slice none 0 0, .int .i64 0, .int .i64 0, .slice none 0 0] 39)
    simpa using this
  generalize (((w.alloc (.cells #[.int .i64 k, .int .i64 v, .slice ta tn tc, .int .i64 R, .int .i64 C, .slice ca cn cc] 103)).alloc (.cells #[.int .i64 0, .int .i64 0, .slice none 0 0, .int .i64 0, .int .i64 0, .slice none 0 0] 39)).alloc (.cells #[.int .i64 k, .int .i64 v, .slice none 0 0, .int .i64 0, .int .i64 0, .slice none 0 0] 39)) = v0 at B0 G0 G1 G2 ⊢
  have k2 : v0.cell? ⟨w.heap.size, 2, none⟩ = some (.slice ta tn tc) := G0.cell 2
  have l2 := G2.lt
  have l1 := G1.lt
  have l0 := G0.lt
  have H0 : Hid (RowAt v0 w.heap.size #[.int .i64 k, .int .i64 v, .slice ta tn tc, .int .i64 R, .int .i64 C, .slice ca cn cc] 103) := G0
  have H1 : Hid (RowAt v0 (w.heap.size + 1) #[.int .i64 0, .int .i64 0, .slice none 0 0, .int .i64 0, .int .i64 0, .slice none 0 0] 39) := G1
  have H2 : Hid (RowAt v0 (w.heap.size + 1 + 1) #[.int .i64 k, .int .i64 v, .slice none 0 0, .int .i64 0, .int .i64 0, .slice none 0 0] 39) := G2
  have s0 := B0.size
  have HB0 : Hid (Below w.heap.size w v0) := B0
  clear G0 G1 G2 B0
  go_upto_region 5 with (go_at_call 64; refine (toSignS_any _ _ _ t _ (HT.out.below HB0.out) h1).mono ?_; rintro e w1 ⟨rfl, ho1, hb1⟩; have q1 : w1.cell? ⟨w.heap.size + 1 + 1, 2, none⟩ = some (.slice none 0 0) := (H2.out.below hb1 l2).cell 2; have q2 := (H2.out.below hb1 l2).frozen 2)
  have lt1 := own_lt ho1 rfl
  have G2 := (H2.out.below hb1 l2).setCell 2 (.slice (some ⟨v0.heap.size, 0, none⟩) tn tn)
  have G1 := (H1.out.below hb1 l1).other ⟨w.heap.size + 1 + 1, 2, none⟩ (.slice (some ⟨v0.heap.size, 0, none⟩) tn tn) (by simp <;> omega)
  have G0 := (H0.out.below hb1 l0).other ⟨w.heap.size + 1 + 1, 2, none⟩ (.slice (some ⟨v0.heap.size, 0, none⟩) tn tn) (by simp <;> omega)
  have O1 := own_set ho1 ⟨w.heap.size + 1 + 1, 2, none⟩ (.slice (some ⟨v0.heap.size, 0, none⟩) tn tn) (by simp [Value.ownBlock]; omega)
  have B1 : Below w.heap.size w (w1.setCell ⟨w.heap.size + 1 + 1, 2, none⟩ (.slice (some ⟨v0.heap.size, 0, none⟩) tn tn)) := (HB0.out.trans (hb1.mono s0)).setCell (by show _ ≤ w.heap.size + 1 + 1; omega) _
  have ss : (w1.setCell ⟨w.heap.size + 1 + 1, 2, none⟩ (.slice (some ⟨v0.heap.size, 0, none⟩) tn tn)).heap.size = w1.heap.size := by simp
  have s1 := hb1.size
  clear q1 q2 ho1 hb1 k2 H0 H1 H2
  generalize (w1.setCell ⟨w.heap.size + 1 + 1, 2, none⟩ (.slice (some ⟨v0.heap.size, 0, none⟩) tn tn)) = w2 at G2 G1 G0 O1 B1 ss ⊢
  have g3 : w2.cell? ⟨w.heap.size, 3, none⟩ = some (.int .i64 R) := G0.cell 3
  have g4 : w2.cell? ⟨w.heap.size, 4, none⟩ = some (.int .i64 C) := G0.cell 4
  have g5 : w2.cell? ⟨w.heap.size, 5, none⟩ = some (.slice ca cn cc) := G0.cell 5
  have H1 : Hid (RowAt w2 (w.heap.size + 1) #[.int .i64 0, .int .i64 0, .slice none 0 0, .int .i64 0, .int .i64 0, .slice none 0 0] 39) := G1
  have H2 : Hid (RowAt w2 (w.heap.size + 1 + 1) #[.int .i64 k, .int .i64 v, .slice (some ⟨v0.heap.size, 0, none⟩) tn tn, .int .i64 0, .int .i64 0, .slice none 0 0] 39) := G2
  have HO1 : Hid (Own w2 v0.heap.size (.slice (some ⟨v0.heap.size, 0, none⟩) tn tn) t) := by
    have e := HT.out.1
    subst e
    exact O1
  have HB1 : Hid (Below w.heap.size w w2) := B1
  have e1 := G1.lt
  have e2 := G2.lt
  have s2 := B1.size
  clear G0 G1 G2 O1 B1
  go_upto_region 6 with (go_at_call 65; refine (toTable_any R C _ _ _ l _ (HC.out.below HB1.out) h2).mono ?_; rintro e w3 ⟨⟨cb, rs, hcb, rfl, ho3⟩, hb3⟩; have q3 : w3.cell? ⟨w.heap.size + 1 + 1, 3, none⟩ = some (.int .i64 0) := (H2.out.below hb3 e2).cell 3; have q4 : w3.cell? ⟨w.heap.size + 1 + 1, 3 + 1, none⟩ = some (.int .i64 0) := (H2.out.below hb3 e2).cell 4; have q5 : w3.cell? ⟨w.heap.size + 1 + 1, 3 + 2, none⟩ = some (.slice none 0 0) := (H2.out.below hb3 e2).cell 5; have f3 := (H2.out.below hb3 e2).frozen 3; have f4 := (H2.out.below hb3 e2).frozen (3 + 1); have f5 := (H2.out.below hb3 e2).frozen (3 + 2))
  have s3 := hb3.size
  have G2 := (((H2.out.below hb3 e2).setCell 3 (.int .i64 R)).setCell 4 (.int .i64 C)).setCell 5 (.slice (some ⟨cb, 0, none⟩) cn cn)
  have M4 : Mid (v0.heap.size) w3.heap.size w3 (((w3.setCell ⟨w.heap.size + 1 + 1, 3, none⟩ (.int .i64 R)).setCell ⟨w.heap.size + 1 + 1, 3 + 1, none⟩ (.int .i64 C)).setCell ⟨w.heap.size + 1 + 1, 3 + 2, none⟩ (.slice (some ⟨cb, 0, none⟩) cn cn)) := fun b hb hb' => by rw [Go.Deep.blk_setCell_other _ _ _ _ (by simp; omega), Go.Deep.blk_setCell_other _ _ _ _ (by simp; omega), Go.Deep.blk_setCell_other _ _ _ _ (by simp; omega)]
  have G1 := (((H1.out.below hb3 e1).other ⟨w.heap.size + 1 + 1, 3, none⟩ (.int .i64 R) (by simp <;> omega)).other ⟨w.heap.size + 1 + 1, 4, none⟩ (.int .i64 C) (by simp <;> omega)).other ⟨w.heap.size + 1 + 1, 5, none⟩ (.slice (some ⟨cb, 0, none⟩) cn cn) (by simp <;> omega)
  have B3 : Below w.heap.size w (((w3.setCell ⟨w.heap.size + 1 + 1, 3, none⟩ (.int .i64 R)).setCell ⟨w.heap.size + 1 + 1, 3 + 1, none⟩ (.int .i64 C)).setCell ⟨w.heap.size + 1 + 1, 3 + 2, none⟩ (.slice (some ⟨cb, 0, none⟩) cn cn)) := (((HB1.out.trans (hb3.mono s2)).setCell (by show _ ≤ w.heap.size + 1 + 1; omega) _).setCell (by show _ ≤ w.heap.size + 1 + 1; omega) _).setCell (by show _ ≤ w.heap.size + 1 + 1; omega) _
  have ss4 : (((w3.setCell ⟨w.heap.size + 1 + 1, 3, none⟩ (.int .i64 R)).setCell ⟨w.heap.size + 1 + 1, 3 + 1, none⟩ (.int .i64 C)).setCell ⟨w.heap.size + 1 + 1, 3 + 2, none⟩ (.slice (some ⟨cb, 0, none⟩) cn cn)).heap.size = w3.heap.size := by simp
  have lt3 : cb < w3.heap.size := (own_lt ho3.1 rfl).2
  have HBL : Hid (BlOwn w3 v0.heap.size w2.heap.size w3.heap.size (k, v, (some ⟨v0.heap.size, 0, none⟩, tn, tn), R, C, (some ⟨cb, 0, none⟩, cn, cn)) (k, v, t, R, C, l)) := by
    refine ⟨⟨rfl, rfl, rfl, rfl⟩, HO1.out.below hb3, ?_, ⟨rs, ho3, ?_, fun j hj g hg => ?_⟩, by omega, s3⟩
    · intro g hg
      simp [sl3V, Value.ownBlock] at hg
      omega
    · intro g hg
      simp [sl3V, Value.ownBlock] at hg
      omega
    · exact (own_lt (ho3.2.2.1 j hj).2.2.2.2 hg).2
  clear q3 q4 q5 f3 f4 f5 ho3 hb3 g3 g4 g5 H1 H2 HO1
  have HM4 : Hid (Mid v0.heap.size w3.heap.size w3 (((w3.setCell ⟨w.heap.size + 1 + 1, 3, none⟩ (.int .i64 R)).setCell ⟨w.heap.size + 1 + 1, 3 + 1, none⟩ (.int .i64 C)).setCell ⟨w.heap.size + 1 + 1, 3 + 2, none⟩ (.slice (some ⟨cb, 0, none⟩) cn cn))) := M4
  clear M4
  generalize (((w3.setCell ⟨w.heap.size + 1 + 1, 3, none⟩ (.int .i64 R)).setCell ⟨w.heap.size + 1 + 1, 3 + 1, none⟩ (.int .i64 C)).setCell ⟨w.heap.size + 1 + 1, 3 + 2, none⟩ (.slice (some ⟨cb, 0, none⟩) cn cn)) = w4 at G2 G1 HM4 B3 ss4 ⊢
  have e3 := G2.lt
  have j0 : w4.cell? ⟨w.heap.size + 1 + 1, 0, none⟩ = some (.int .i64 k) := G2.cell 0
  have j1 : w4.cell? ⟨w.heap.size + 1 + 1, 1, none⟩ = some (.int .i64 v) := G2.cell 1
  have j2 : w4.cell? ⟨w.heap.size + 1 + 1, 2, none⟩ = some (.slice (some ⟨v0.heap.size, 0, none⟩) tn tn) := G2.cell 2
  have j3 : w4.cell? ⟨w.heap.size + 1 + 1, 3, none⟩ = some (.int .i64 R) := G2.cell 3
  have j4 : w4.cell? ⟨w.heap.size + 1 + 1, 4, none⟩ = some (.int .i64 C) := G2.cell 4
  have j5 : w4.cell? ⟨w.heap.size + 1 + 1, 5, none⟩ = some (.slice (some ⟨cb, 0, none⟩) cn cn) := G2.cell 5
  have HR : Hid (RowAt w4 (w.heap.size + 1) #[.int .i64 0, .int .i64 0, .slice none 0 0, .int .i64 0, .int .i64 0, .slice none 0 0] 39) := G1
  have HB3 : Hid (Below w.heap.size w w4) := B3
  clear G1 G2 B3
  go_wp2_with ((refine wpList_store_row rfl 39 (.tmp 2) (.tmp 18) rfl (w.heap.size + 1) #[.int .i64 k, .int .i64 v, .slice (some ⟨v0.heap.size, 0, none⟩) tn tn, .int .i64 R, .int .i64 C, .slice (some ⟨cb, 0, none⟩) cn cn] rfl rfl 39 _ HR.out block_info rfl (cells6_one _ _ _ _ _ _ _ _ _ _) ?_))
  refine bodyPost_ret (v := .agg #[.int .i64 k, .int .i64 v, .slice (some ⟨v0.heap.size, 0, none⟩) tn tn, .int .i64 R, .int .i64 C, .slice (some ⟨cb, 0, none⟩) cn cn]) (results_cell_row (p := 2) (ty := 39) rfl _ _ (w.heap.size + 1) 39 _ _ _ rfl (RowAt.setRow HR.out _) Try.underlying39 rfl block_info) rfl ⟨⟨v0.heap.size, cb, w2.heap.size, rfl, ?_⟩, below_row HB3.out (by omega) _⟩
  have hh := (HBL.out.mid HM4.out).mid (w' := w4.setRow (w.heap.size + 1) #[.int .i64 k, .int .i64 v, .slice (some ⟨v0.heap.size, 0, none⟩) tn tn, .int .i64 R, .int .i64 C, .slice (some ⟨cb, 0, none⟩) cn cn]) (fun b hb hb' => setRow_other _ _ _ _ (by omega))
  obtain ⟨a1, a2, a3, a4, a5, a6⟩ := hh
  have sz : (w4.setRow (w.heap.size + 1) #[.int .i64 k, .int .i64 v, .slice (some ⟨v0.heap.size, 0, none⟩) tn tn, .int .i64 R, .int .i64 C, .slice (some ⟨cb, 0, none⟩) cn cn]).heap.size = w3.heap.size := by
    rw [← ss4]
    simp [World.setRow]
  rw [sz]
  exact ⟨a1, own_less a2 (by omega), a3, a4, by omega, a6⟩

theorem take_set6 (xs : List Value) (k : Nat) (a b c d e f : Value) (h : k * 6 + 6 ≤ xs.length) :
    ((((((xs.set (k * 6) a).set (k * 6 + 1) b).set (k * 6 + 2) c).set (k * 6 + 3) d).set (k * 6 + 4) e).set (k * 6 + 5) f).take ((k + 1) * 6) = xs.take (k * 6) ++ [a, b, c, d, e, f] := by
  apply List.ext_getElem?
  intro j
  by_cases h1 : j < k * 6
  · rw [List.getElem?_take, if_pos (by omega), List.getElem?_set_ne (by omega), List.getElem?_set_ne (by omega), List.getElem?_set_ne (by omega), List.getElem?_set_ne (by omega), List.getElem?_set_ne (by omega), List.getElem?_set_ne (by omega), List.getElem?_append_left (by simp; omega), List.getElem?_take, if_pos h1]
  · rw [List.getElem?_append_right (by simp; omega)]
    have e' : (xs.take (k * 6)).length = k * 6 := by simp; omega
    rw [e', List.getElem?_take]
    rcases (show j = k * 6 ∨ j = k * 6 + 1 ∨ j = k * 6 + 2 ∨ j = k * 6 + 3 ∨ j = k * 6 + 4 ∨ j = k * 6 + 5 ∨ k * 6 + 6 ≤ j from by omega) with rfl | rfl | rfl | rfl | rfl | rfl | hj
    · rw [if_pos (by omega), List.getElem?_set_ne (by omega), List.getElem?_set_ne (by omega), List.getElem?_set_ne (by omega), List.getElem?_set_ne (by omega), List.getElem?_set_ne (by omega), List.getElem?_set_self (by omega)]; simp
    · rw [if_pos (by omega), List.getElem?_set_ne (by omega), List.getElem?_set_ne (by omega), List.getElem?_set_ne (by omega), List.getElem?_set_ne (by omega), List.getElem?_set_self (by simp; omega), show k * 6 + 1 - k * 6 = 1 by omega]; simp
    · rw [if_pos (by omega), List.getElem?_set_ne (by omega), List.getElem?_set_ne (by omega), List.getElem?_set_ne (by omega), List.getElem?_set_self (by simp; omega), show k * 6 + 2 - k * 6 = 2 by omega]; simp
    · rw [if_pos (by omega), List.getElem?_set_ne (by omega), List.getElem?_set_ne (by omega), List.getElem?_set_self (by simp; omega), show k * 6 + 3 - k * 6 = 3 by omega]; simp
    · rw [if_pos (by omega), List.getElem?_set_ne (by omega), List.getElem?_set_self (by simp; omega), show k * 6 + 4 - k * 6 = 4 by omega]; simp
    · rw [if_pos (by omega), List.getElem?_set_self (by simp; omega), show k * 6 + 5 - k * 6 = 5 by omega]; simp
    · rw [if_neg (by omega), List.getElem?_eq_none (by simp; omega)]
set_option maxRecDepth 100000 in
set_option maxHeartbeats 4000000 in
theorem toBlockS_any {a : Option Addr} {n cap : Nat} {d : List Bl} {w : World} (h : Dc w a n cap d) (hn : d.length + totD d ≤ 1048576) :
    Calls Try.prog 35 #[.slice a n cap] w fun e w' => e = .returned (.slice (some ⟨w.heap.size, 0, none⟩) n n) ∧ (∃ rbs, DocOwn w' w.heap.size w'.heap.size (.slice (some ⟨w.heap.size, 0, none⟩) n n) rbs d) ∧ Below w.heap.size w w' := by
  obtain ⟨rfl, hc, hm, hl⟩ := h
  unfold maxLen at hm
  have HL : Hid (d = [] ∨ ∃ b off, a = some ⟨b, off, none⟩ ∧ b < w.heap.size ∧ ∀ k, k < d.length → BlockAt w b (off + k * 6) (d.getD k bl0)) := hl
  clear hl
  obtain ⟨i0, hi, hz0, hz1, hz2⟩ := info_parts Try.info39
  go_enter Try.func35, Try.ntmps35
  go_wp2_with (at_make; refine wpList_make_full _ rfl (.tmp 6) (.tmp 6) 23 rfl w.heap.size 39 i0 _ 6 Try.underlying23 hi hz0 hz1 .i64 .i64 _ _ d.length rfl rfl rfl rfl (by rw [hz2]; omega) (by unfold maxLen; omega) (Nat.le_refl _) ?_; intro w1 hown hgrow)
  have hb1 : Below w.heap.size w w1 := (Below.refl _ _).grown hgrow (Nat.le_refl _) (fun k hk => by simp at hk)
  clear hgrow
  obtain ⟨xs0, hown⟩ : ∃ xs, w1.ownsRow w.heap.size 39 6 (.slice (some ⟨w.heap.size, 0, none⟩) d.length d.length) d.length xs := ⟨_, hown⟩
  go_loopw [4] (fun i wr => ∃ (k : Nat) (xs : List Value) (rbs : List Rb), k ≤ d.length ∧ i = .int .i64 k ∧ wr.ownsRow w.heap.size 39 6 (.slice (some ⟨w.heap.size, 0, none⟩) d.length d.length) d.length xs ∧ xs.take (k * 6) = flat6 rbs ∧ BlsOwn wr w.heap.size wr.heap.size rbs (d.take k) ∧ Below w.heap.size w wr) (fun i _ => d.length - (intOf i).toNat)
  case atStart => exact ⟨0, xs0, [], Nat.zero_le _, rfl, hown, by simp [flat6], BlsOwn.nil _ _ _, hb1⟩
  case round =>
    obtain ⟨k, xs, rbs, hk, rfl, ho, hx, ht, hbl⟩ := hrel
    have hsz := hbl.size
    have HX : Hid (xs.take (k * 6) = flat6 rbs) := hx
    have HO : Hid (wr.ownsRow w.heap.size 39 6 (.slice (some ⟨w.heap.size, 0, none⟩) d.length d.length) d.length xs) := ho
    have HT : Hid (BlsOwn wr w.heap.size wr.heap.size rbs (d.take k)) := ht
    have lto : w.heap.size < wr.heap.size := (own_lt ho rfl).2
    have HBL : Hid (Below w.heap.size w wr) := hbl
    clear hx ho hown hb1 ht
    by_cases hlt : k < d.length
    · rcases HL.out with e | ⟨b, off, rfl, hbw, hl⟩
      · rw [e] at hlt
        exact absurd hlt (by simp)
      obtain ⟨ta, tn, tc, ca, cn, cc, hblk⟩ := (hl k hlt).below hbl hbw
      have hle := totD_le d k hlt
      have HTK : Hid (d.take (k + 1) = d.take k ++ [d.getD k bl0]) := by
        show d.take (k + 1) = d.take k ++ [d.getD k bl0]
        rw [List.take_succ_eq_append_getElem hlt]
        simp [List.getD, hlt]
      obtain ⟨⟨K, V, t, R, C, l⟩, hxx⟩ : ∃ x, x = d.getD k bl0 := ⟨_, rfl⟩
      rw [← hxx] at hblk HTK hle
      obtain ⟨c0, c1, c2, c3, c4, c5, htx, htb⟩ := hblk
      simp only at c0 c1 c3 c4 htx htb
      have htn : tn ≤ 1048576 := by
        rw [htx.1]
        have : t.length ≤ szB (K, V, t, R, C, l) := Nat.le_add_right _ _
        omega
      have hcn : l.length + totT l ≤ 1048576 := by
        have : l.length + totT l ≤ szB (K, V, t, R, C, l) := Nat.le_add_left _ _
        omega
      have HTX : Hid (Txt wr ta tn tc t) := htx
      have HTB : Hid (Tab wr ca cn cc l) := htb
      clear hl hle hxx htx htb hbl
      go_wp2_with fail
      refine (toBlock_any HTX.out HTB.out htn hcn).mono ?_
      rintro e w2 ⟨⟨tb, cb, md, rfl, how⟩, hb2⟩
      have ho2 := own_below HO.out hb2
      have f0 := ho2.frozenAt (k * 6)
      have f1 := ho2.frozenAt (k * 6 + 1)
      have f2 := ho2.frozenAt (k * 6 + 2)
      have f3 := ho2.frozenAt (k * 6 + 3)
      have f4 := ho2.frozenAt (k * 6 + 4)
      have f5 := ho2.frozenAt (k * 6 + 5)
      have hxl := ho2.1
      obtain ⟨u0, d0⟩ : ∃ u, w2.cell? ⟨w.heap.size, k * 6, none⟩ = some u := ⟨_, (ho2.cellAt (k * 6) (by omega)).trans (List.getElem?_eq_getElem (by omega))⟩
      obtain ⟨u1, d1⟩ : ∃ u, w2.cell? ⟨w.heap.size, k * 6 + 1, none⟩ = some u := ⟨_, (ho2.cellAt (k * 6 + 1) (by omega)).trans (List.getElem?_eq_getElem (by omega))⟩
      obtain ⟨u2, d2⟩ : ∃ u, w2.cell? ⟨w.heap.size, k * 6 + 2, none⟩ = some u := ⟨_, (ho2.cellAt (k * 6 + 2) (by omega)).trans (List.getElem?_eq_getElem (by omega))⟩
      obtain ⟨u3, d3⟩ : ∃ u, w2.cell? ⟨w.heap.size, k * 6 + 3, none⟩ = some u := ⟨_, (ho2.cellAt (k * 6 + 3) (by omega)).trans (List.getElem?_eq_getElem (by omega))⟩
      obtain ⟨u4, d4⟩ : ∃ u, w2.cell? ⟨w.heap.size, k * 6 + 4, none⟩ = some u := ⟨_, (ho2.cellAt (k * 6 + 4) (by omega)).trans (List.getElem?_eq_getElem (by omega))⟩
      obtain ⟨u5, d5⟩ : ∃ u, w2.cell? ⟨w.heap.size, k * 6 + 5, none⟩ = some u := ⟨_, (ho2.cellAt (k * 6 + 5) (by omega)).trans (List.getElem?_eq_getElem (by omega))⟩
      have s2 := hb2.size
      have HO2 : Hid (w2.ownsRow w.heap.size 39 6 (.slice (some ⟨w.heap.size, 0, none⟩) d.length d.length) d.length xs) := ho2
      have HT2 : Hid (BlsOwn w2 w.heap.size wr.heap.size rbs (d.take k)) := HT.out.kept (Mid.kept (fun b _ hb' => hb2.block b hb'))
      have HW : Hid (BlOwn w2 wr.heap.size md w2.heap.size (K, V, (some ⟨tb, 0, none⟩, tn, tn), R, C, (some ⟨cb, 0, none⟩, cn, cn)) (K, V, t, R, C, l)) := how
      have HB2 : Hid (Below w.heap.size w w2) := HBL.out.trans (hb2.mono hsz)
      clear ho2 HO hxl how hb2
      go_wp2_with fail
      go_roundw
      case rel =>
        obtain ⟨p0, _⟩ := HO2.out.stored (k * 6) (.int .i64 K)
        obtain ⟨p1, _⟩ := p0.stored (k * 6 + 1) (.int .i64 V)
        obtain ⟨p2, _⟩ := p1.stored (k * 6 + 2) (.slice (some ⟨tb, 0, none⟩) tn tn)
        obtain ⟨p3, _⟩ := p2.stored (k * 6 + 3) (.int .i64 R)
        obtain ⟨p4, _⟩ := p3.stored (k * 6 + 4) (.int .i64 C)
        obtain ⟨p5, _⟩ := p4.stored (k * 6 + 5) (.slice (some ⟨cb, 0, none⟩) cn cn)
        have hT := HT2.out.snoc hsz HW.out s2
        rw [← HTK.out] at hT
        refine ⟨k + 1, _, rbs ++ [(K, V, (some ⟨tb, 0, none⟩, tn, tn), R, C, (some ⟨cb, 0, none⟩, cn, cn))], by omega, by go_num, p5, ?_, ?_, ?_⟩
        · rw [take_set6 _ _ _ _ _ _ _ _ (by have := HO2.out.1; omega), HX.out, flat6_append]
          simp [flat6, rbCells, sl3V]
        · obtain ⟨r0, h0⟩ := own_rowAt HO2.out
          obtain ⟨r1, h1⟩ := own_rowAt p0
          obtain ⟨r2, h2⟩ := own_rowAt p1
          obtain ⟨r3, h3⟩ := own_rowAt p2
          obtain ⟨r4, h4⟩ := own_rowAt p3
          obtain ⟨r5, h5⟩ := own_rowAt p4
          exact ((((((hT.kept (kept_set h0 _ _ _ _)).kept (kept_set h1 _ _ _ _)).kept (kept_set h2 _ _ _ _)).kept (kept_set h3 _ _ _ _)).kept (kept_set h4 _ _ _ _)).kept (kept_set h5 _ _ _ _)).grow (by simp)
        · exact (((((HB2.out.setCell (Nat.le_refl _) _).setCell (Nat.le_refl _) _).setCell (Nat.le_refl _) _).setCell (Nat.le_refl _) _).setCell (Nat.le_refl _) _).setCell (Nat.le_refl _) _
      case measure => simp [intOf]; omega
    · go_wp2_with fail
      go_ret
      have e1 : d.take k = d := List.take_of_length_le (by omega)
      have hT := HT.out
      rw [e1] at hT
      have hxx : xs = flat6 rbs := by
        have h1 := HX.out
        have h2 := HO.out.1
        rw [List.take_of_length_le (by omega)] at h1
        exact h1
      refine ⟨rfl, ⟨rbs, ?_, ?_, hT.1, ?_⟩, HBL.out⟩
      · have := HO.out
        rw [hxx] at this
        rw [hT.1]
        exact this
      · intro g hg
        simp [Value.ownBlock] at hg
        omega
      · exact hT.2
set_option maxRecDepth 100000 in
set_option maxHeartbeats 4000000 in
theorem toDoc_any {a : Option Addr} {n cap : Nat} {d : List Bl} {w : World} (h : Dc w a n cap d) (hn : d.length + totD d ≤ 1048576) :
    Calls Try.prog 15 #[.agg #[.slice a n cap]] w fun e w' => (∃ b rbs, e = .returned (.agg #[.slice (some ⟨b, 0, none⟩) n n]) ∧ DocOwn w' w.heap.size w'.heap.size (.slice (some ⟨b, 0, none⟩) n n) rbs d) ∧ Below w.heap.size w w' := by
  have H : Hid (Dc w a n cap d) := h
  clear h
  go_enter Try.func15, Try.ntmps15
  go_upto_region 2 with fail
  have B0 : Below w.heap.size w (((w.alloc (.cells #[.slice a n cap] 44)).alloc (.cells #[.slice none 0 0] 25)).alloc (.cells #[.slice none 0 0] 25)) := (((Below.refl _ _).alloc (Nat.le_refl _) _).alloc (by simp) _).alloc (by simp; omega) _
  have G0 : RowAt (((w.alloc (.cells #[.slice a n cap] 44)).alloc (.cells #[.slice none 0 0] 25)).alloc (.cells #[.slice none 0 0] 25)) w.heap.size #[.slice a n cap] 44 := ((rowAt_new w _ _).alloc _).alloc _
  have G1 : RowAt (((w.alloc (.cells #[.slice a n cap] 44)).alloc (.cells #[.slice none 0 0] 25)).alloc (.cells #[.slice none 0 0] 25)) (w.heap.size + 1) #[.slice none 0 0] 25 := by
    have := (rowAt_new (w.alloc (.cells #[.slice a n cap] 44)) #[.slice none 0 0] 25).alloc (.cells #[.slice none 0 0] 25)
    simpa using this
  have G2 : RowAt (((w.alloc (.cells #[.slice a n cap] 44)).alloc (.cells #[.slice none 0 0] 25)).alloc (.cells #[.slice none 0 0] 25)) (w.heap.size + 1 + 1) #[.slice none 0 0] 25 := by
    have := (rowAt_new ((w.alloc (.cells #[.slice a n cap] 44)).alloc (.cells #[.slice none 0 0] 25)) #[.slice none 0 0] 25)
    simpa using this
  generalize (((w.alloc (.cells #[.slice a n cap] 44)).alloc (.cells #[.slice none 0 0] 25)).alloc (.cells #[.slice none 0 0] 25)) = v0 at B0 G0 G1 G2 ⊢
  have k2 : v0.cell? ⟨w.heap.size, 0, none⟩ = some (.slice a n cap) := G0.cell 0
  have l2 := G2.lt
  have l1 := G1.lt
  have H1 : Hid (RowAt v0 (w.heap.size + 1) #[.slice none 0 0] 25) := G1
  have H2 : Hid (RowAt v0 (w.heap.size + 1 + 1) #[.slice none 0 0] 25) := G2
  have s0 := B0.size
  have HB0 : Hid (Below w.heap.size w v0) := B0
  clear G0 G1 G2 B0
  go_upto_region 3 with (go_at_call 35; refine (toBlockS_any (H.out.below HB0.out) hn).mono ?_; rintro e w1 ⟨rfl, ⟨rbs, ho1⟩, hb1⟩; have q1 : w1.cell? ⟨w.heap.size + 1 + 1, 0, none⟩ = some (.slice none 0 0) := (H2.out.below hb1 l2).cell 0; have q2 := (H2.out.below hb1 l2).frozen 0)
  have G2 := (H2.out.below hb1 l2).setCell 0 (.slice (some ⟨v0.heap.size, 0, none⟩) n n)
  have G1 := (H1.out.below hb1 l1).other ⟨w.heap.size + 1 + 1, 0, none⟩ (.slice (some ⟨v0.heap.size, 0, none⟩) n n) (by simp <;> omega)
  have O1 : DocOwn (w1.setCell ⟨w.heap.size + 1 + 1, 0, none⟩ (.slice (some ⟨v0.heap.size, 0, none⟩) n n)) v0.heap.size w1.heap.size (.slice (some ⟨v0.heap.size, 0, none⟩) n n) rbs d := ho1.mid (fun b hb _ => Go.Deep.blk_setCell_other _ _ _ _ (by simp; omega))
  have B1 : Below w.heap.size w (w1.setCell ⟨w.heap.size + 1 + 1, 0, none⟩ (.slice (some ⟨v0.heap.size, 0, none⟩) n n)) := (HB0.out.trans (hb1.mono s0)).setCell (by show _ ≤ w.heap.size + 1 + 1; omega) _
  have ss : (w1.setCell ⟨w.heap.size + 1 + 1, 0, none⟩ (.slice (some ⟨v0.heap.size, 0, none⟩) n n)).heap.size = w1.heap.size := by simp
  have s1 := hb1.size
  clear q1 q2 ho1 hb1 k2 H1 H2
  generalize (w1.setCell ⟨w.heap.size + 1 + 1, 0, none⟩ (.slice (some ⟨v0.heap.size, 0, none⟩) n n)) = w2 at G2 G1 O1 B1 ss ⊢
  have e0 : w2.cell? ⟨w.heap.size + 1 + 1, 0, none⟩ = some (.slice (some ⟨v0.heap.size, 0, none⟩) n n) := G2.cell 0
  have HR : Hid (RowAt w2 (w.heap.size + 1) #[.slice none 0 0] 25) := G1
  have HO : Hid (DocOwn w2 v0.heap.size w1.heap.size (.slice (some ⟨v0.heap.size, 0, none⟩) n n) rbs d) := O1
  have HB1 : Hid (Below w.heap.size w w2) := B1
  clear G1 G2 O1 B1
  go_wp2_with ((refine wpList_store_row rfl 25 (.tmp 2) (.tmp 8) rfl (w.heap.size + 1) #[.slice (some ⟨v0.heap.size, 0, none⟩) n n] rfl rfl 25 _ HR.out docI_info rfl (cells1_one _ _ _) ?_))
  refine bodyPost_ret (v := .agg #[.slice (some ⟨v0.heap.size, 0, none⟩) n n]) (results_cell_row (p := 2) (ty := 25) rfl _ _ (w.heap.size + 1) 25 _ _ _ rfl (RowAt.setRow HR.out _) Try.underlying25 rfl docI_info) rfl ⟨⟨v0.heap.size, rbs, rfl, ?_⟩, below_row HB1.out (by omega) _⟩
  have sz : (w2.setRow (w.heap.size + 1) #[.slice (some ⟨v0.heap.size, 0, none⟩) n n]).heap.size = w1.heap.size := by
    rw [← ss]
    simp [World.setRow]
  rw [sz]
  exact (HO.out.mid (fun b hb hb' => setRow_other _ _ _ _ (by omega))).less (by omega) (Nat.le_refl _)
end Go.Proofs.Ytcecmkideoodiaa
namespace Go.Proofs.Ytcecmkideoodiaa
open Go.RowKit

set_option maxRecDepth 100000 in
set_option maxHeartbeats 4000000 in
theorem eqBlock_same {k v : Int} {ta : Option Addr} {tn tc : Nat} {R C : Int} {ca : Option Addr} {cn cc : Nat} {ta' : Option Addr} {tn' tc' : Nat} {ca' : Option Addr} {cn' cc' : Nat} {t : List Sg} {l : List Cl} {w : World} (ht : Txt w ta tn tc t) (hc : Tab w ca cn cc l) (ht' : Txt w ta' tn' tc' t) (hc' : Tab w ca' cn' cc' l) :
    Calls Try.prog 51 #[.agg #[.int .i64 k, .int .i64 v, .slice ta tn tc, .int .i64 R, .int .i64 C, .slice ca cn cc], .agg #[.int .i64 k, .int .i64 v, .slice ta' tn' tc', .int .i64 R, .int .i64 C, .slice ca' cn' cc']] w fun e w' => e = .returned (.bool true) ∧ Below w.heap.size w w' := by
  have HT : Hid (Txt w ta tn tc t) := ht
  have HC : Hid (Tab w ca cn cc l) := hc
  have HT' : Hid (Txt w ta' tn' tc' t) := ht'
  have HC' : Hid (Tab w ca' cn' cc' l) := hc'
  clear ht hc ht' hc'
  have HX : Hid (decide (t = t) = true) := by simp [Hid]
  have bb : Below w.heap.size w ((w.alloc (.cells #[.int .i64 k, .int .i64 v, .slice ta tn tc, .int .i64 R, .int .i64 C, .slice ca cn cc] 39)).alloc (.cells #[.int .i64 k, .int .i64 v, .slice ta' tn' tc', .int .i64 R, .int .i64 C, .slice ca' cn' cc'] 39)) := ((Below.refl _ _).alloc (Nat.le_refl _) _).alloc (by simp) _
  have q3 : ∀ w1, Below ((w.alloc (.cells #[.int .i64 k, .int .i64 v, .slice ta tn tc, .int .i64 R, .int .i64 C, .slice ca cn cc] 39)).alloc (.cells #[.int .i64 k, .int .i64 v, .slice ta' tn' tc', .int .i64 R, .int .i64 C, .slice ca' cn' cc'] 39)).heap.size ((w.alloc (.cells #[.int .i64 k, .int .i64 v, .slice ta tn tc, .int .i64 R, .int .i64 C, .slice ca cn cc] 39)).alloc (.cells #[.int .i64 k, .int .i64 v, .slice ta' tn' tc', .int .i64 R, .int .i64 C, .slice ca' cn' cc'] 39)) w1 → RowAt w1 w.heap.size #[.int .i64 k, .int .i64 v, .slice ta tn tc, .int .i64 R, .int .i64 C, .slice ca cn cc] 39 ∧ RowAt w1 (w.heap.size + 1) #[.int .i64 k, .int .i64 v, .slice ta' tn' tc', .int .i64 R, .int .i64 C, .slice ca' cn' cc'] 39 := fun w1 h => by
    refine ⟨((rowAt_new w _ _).alloc _).below h (by simp; omega), ?_⟩
    have := (rowAt_new (w.alloc (.cells #[.int .i64 k, .int .i64 v, .slice ta tn tc, .int .i64 R, .int .i64 C, .slice ca cn cc] 39)) #[.int .i64 k, .int .i64 v, .slice ta' tn' tc', .int .i64 R, .int .i64 C, .slice ca' cn' cc'] 39).below h (by simp)
    simpa using this
  have HQ : Hid _ := q3
  clear q3
  go_enter Try.func51, Try.ntmps51
  go_wp2_with (first | (go_at_call 18; refine (eqSignS_is HX.out (HT.out.below bb) (HT'.out.below bb)).mono ?_; rintro e w1 ⟨rfl, hb1⟩; have a3 := (HQ.out w1 hb1).1.cell 3; have a4 := (HQ.out w1 hb1).1.cell 4; have a5 := (HQ.out w1 hb1).1.cell 5; have b3 := (HQ.out w1 hb1).2.cell 3; have b4 := (HQ.out w1 hb1).2.cell 4; have b5 := (HQ.out w1 hb1).2.cell 5; simp at a3 a4 a5 b3 b4 b5) | (go_at_call 66; refine (eqTable_same R C _ _ _ l _ _ _ _ ((HC.out.below bb).below hb1) ((HC'.out.below bb).below hb1)).mono ?_; rintro e w2 ⟨rfl, hb2⟩))
  go_ret
  exact ⟨rfl, (bb.trans (hb1.mono bb.size)).trans (hb2.mono (Nat.le_trans bb.size hb1.size))⟩
set_option maxRecDepth 100000 in
set_option maxHeartbeats 4000000 in
theorem eqBlockS_same {a : Option Addr} {n cap : Nat} {a' : Option Addr} {n' cap' : Nat} {d : List Bl} {w : World} (h : Dc w a n cap d) (h' : Dc w a' n' cap' d) :
    Calls Try.prog 36 #[.slice a n cap, .slice a' n' cap'] w fun e w' => e = .returned (.bool true) ∧ Below w.heap.size w w' := by
  obtain ⟨rfl, hc, hm, hl⟩ := h
  obtain ⟨rfl, hc', hm', hl'⟩ := h'
  unfold maxLen at hm hm'
  have hbq : ((d.length : Int) != (d.length : Int)) = false := by simp
  have HL : Hid (d = [] ∨ ∃ b off, a = some ⟨b, off, none⟩ ∧ b < w.heap.size ∧ ∀ k, k < d.length → BlockAt w b (off + k * 6) (d.getD k bl0)) := hl
  have HL' : Hid (d = [] ∨ ∃ b off, a' = some ⟨b, off, none⟩ ∧ b < w.heap.size ∧ ∀ k, k < d.length → BlockAt w b (off + k * 6) (d.getD k bl0)) := hl'
  clear hl hl'
  go_enter Try.func36, Try.ntmps36
  go_wp2_with fail
  go_loopw [5] (fun i wr => ∃ (k : Nat), k ≤ d.length ∧ i = .int .i64 k ∧ Below w.heap.size w wr) (fun i _ => d.length - (intOf i).toNat)
  case atStart => exact ⟨0, Nat.zero_le _, rfl, Below.refl _ _⟩
  case round =>
    obtain ⟨k, hk, rfl, hbl⟩ := hrel
    have hsz := hbl.size
    have HB : Hid (Below w.heap.size w wr) := hbl
    by_cases hlt : k < d.length
    · rcases HL.out with e | ⟨b, off, rfl, hbw, hl⟩
      · rw [e] at hlt
        exact absurd hlt (by simp)
      rcases HL'.out with e | ⟨b', off', rfl, hbw', hl'⟩
      · rw [e] at hlt
        exact absurd hlt (by simp)
      obtain ⟨ta, tn, tc, ca, cn, cc, hblk⟩ := (hl k hlt).below hbl hbw
      obtain ⟨ta', tn', tc', ca', cn', cc', hblk'⟩ := (hl' k hlt).below hbl hbw'
      clear hl hl'
      obtain ⟨⟨K, V, t, R, C, l⟩, hs⟩ : ∃ s, s = d.getD k bl0 := ⟨_, rfl⟩
      rw [← hs] at hblk hblk'
      obtain ⟨c0, c1, c2, c3, c4, c5, htx, htb⟩ := hblk
      obtain ⟨d0, d1, d2, d3, d4, d5, htx', htb'⟩ := hblk'
      simp only at c0 c1 c3 c4 htx htb d0 d1 d3 d4 htx' htb'
      have HT : Hid (Txt wr ta tn tc t) := htx
      have HT' : Hid (Txt wr ta' tn' tc' t) := htx'
      have HC : Hid (Tab wr ca cn cc l) := htb
      have HC' : Hid (Tab wr ca' cn' cc' l) := htb'
      clear hs htx htx' htb htb' hbl
      go_wp2_with fail
      go_region_with (go_at_call 51; refine (eqBlock_same (HT.out.below (Below.refl _ _).drew) (HC.out.below (Below.refl _ _).drew) (HT'.out.below (Below.refl _ _).drew) (HC'.out.below (Below.refl _ _).drew)).mono ?_; rintro e w1 ⟨rfl, hb1⟩)
      all_goals
        go_wp2_with fail
        go_roundw
        case rel => exact ⟨k + 1, by omega, by go_num, HB.out.drew.trans (hb1.mono hsz)⟩
        case measure => simp [intOf]; omega
    · go_wp2_with fail
      go_ret
      exact ⟨rfl, HB.out⟩
set_option maxHeartbeats 4000000 in
theorem eqDoc_same {a : Option Addr} {n cap : Nat} {a' : Option Addr} {n' cap' : Nat} {d : List Bl} {w : World} (h : Dc w a n cap d) (h' : Dc w a' n' cap' d) :
    Calls Try.prog 17 #[.agg #[.slice a n cap], .agg #[.slice a' n' cap']] w fun e w' => e = .returned (.bool true) ∧ Below w.heap.size w w' := by
  have H : Hid (Dc w a n cap d) := h
  have H' : Hid (Dc w a' n' cap' d) := h'
  clear h h'
  have bb : Below w.heap.size w ((w.alloc (.cells #[.slice a n cap] 25)).alloc (.cells #[.slice a' n' cap'] 25)) := ((Below.refl _ _).alloc (Nat.le_refl _) _).alloc (by simp) _
  go_enter Try.func17, Try.ntmps17
  go_wp2_with (go_at_call 36; refine (eqBlockS_same (H.out.below bb) (H'.out.below bb)).mono ?_; rintro e w1 ⟨rfl, hb1⟩)
  go_ret
  exact ⟨rfl, bb.trans (hb1.mono bb.size)⟩
end Go.Proofs.Ytcecmkideoodiaa
namespace Go.Proofs.Ytcecmkideoodiaa
open Go.RowKit

/-- The sign that the marker lays at place i, from k on. -/
def mk (k : Int) (i : Nat) : Sg := ((k + 3 * i) % 256, k + 3 * i + 1, k + 3 * i + 1 + 1)
def marked (k : Int) (n : Nat) : List Sg := (List.range n).map (mk k)
theorem marked_len (k : Int) (n : Nat) : (marked k n).length = n := by simp [marked]
theorem marked_succ (k : Int) (n : Nat) : marked k (n + 1) = marked k n ++ [mk k n] := by simp [marked, List.range_succ]
theorem marked_get (k : Int) (n j : Nat) (h : j < n) : (marked k n).getD j (0, 0, 0) = mk k j := by simp [marked, List.getD, h]

theorem grown_refl (w : World) (r : Option Nat) : w.grownBy w r := ⟨rfl, rfl, rfl, Nat.le_refl _, fun _ _ _ => rfl⟩
theorem grown_setCell {w wr : World} {g : Nat} (h : w.grownBy wr (some g)) (o : Nat) (u : Value) : w.grownBy (wr.setCell ⟨g, o, none⟩ u) (some g) :=
  ⟨h.os, h.tape, h.output, Nat.le_trans h.size (by simp [World.setCell]), fun k hk hne => (Below.heap_setCell wr ⟨g, o, none⟩ u k (fun e => hne (by simp [e]))).trans (h.block k hk hne)⟩

theorem flat_set3 (A R : List Sg) (s t : Sg) : (((flat (A ++ s :: R)).set (A.length * 3) (.int .u8 t.1)).set (A.length * 3 + 1) (.int .i64 t.2.1)).set (A.length * 3 + 2) (.int .i64 t.2.2) = flat (A ++ [t] ++ R) := by
  have e1 : flat (A ++ s :: R) = flat A ++ (sgCells s ++ flat R) := by simp [flat]
  have e2 : flat (A ++ [t] ++ R) = flat A ++ (sgCells t ++ flat R) := by simp [flat]
  have hl := flat_length A
  rw [e1, e2, List.set_append_right _ _ (by omega), List.set_append_right _ _ (by omega), List.set_append_right _ _ (by omega), hl]
  simp [sgCells]

set_option maxHeartbeats 1000000 in
theorem markSignS_at (g n c : Nat) (l : List Sg) (k0 : Int) (B : Nat) (w : World) (h : Own w B (.slice (some ⟨g, 0, none⟩) n c) l) (hn : n ≤ 1048576) (h0 : 0 ≤ k0) (h1 : k0 ≤ 100000000) :
    Calls Try.prog 20 #[.slice (some ⟨g, 0, none⟩) n c, .int .i64 k0] w fun e w' => e = .returned (.int .i64 (k0 + 3 * n)) ∧ Own w' B (.slice (some ⟨g, 0, none⟩) n c) (marked k0 n) ∧ w.grownBy w' (some g) := by
  have hlen := h.len
  have hcap := h.txt.2.1
  have hcm := h.txt.2.2.1
  unfold maxLen at hcm
  have HO : Hid (w.ownsRow B 74 3 (.slice (some ⟨g, 0, none⟩) n c) n (flat l)) := h.row
  clear h
  subst hlen
  go_enter Try.func20, Try.ntmps20
  go_wp2_with fail
  go_loopw [1, 5] (fun kk i wr => ∃ (j : Nat), j ≤ l.length ∧ i = .int .i64 j ∧ kk = .int .i64 (k0 + 3 * j) ∧ wr.ownsRow B 74 3 (.slice (some ⟨g, 0, none⟩) l.length c) l.length (flat (marked k0 j ++ l.drop j)) ∧ w.grownBy wr (some g)) (fun _ i _ => l.length - (intOf i).toNat)
  case atStart => exact ⟨0, Nat.zero_le _, rfl, by simp, by simpa [marked] using HO.out, ⟨rfl, rfl, rfl, Nat.le_refl _, fun _ _ _ => rfl⟩⟩
  case round =>
    obtain ⟨j, hj, rfl, rfl, ho, hg⟩ := hrel
    by_cases hlt : j < l.length
    · have f0 := ho.frozenAt (j * 3)
      have f1 := ho.frozenAt (j * 3 + 1)
      have f2 := ho.frozenAt (j * 3 + 2)
      have hxl := ho.1
      obtain ⟨u0, d0⟩ : ∃ u, wr.cell? ⟨g, j * 3, none⟩ = some u := ⟨_, (ho.cellAt (j * 3) (by omega)).trans (List.getElem?_eq_getElem (by omega))⟩
      obtain ⟨u1, d1⟩ : ∃ u, wr.cell? ⟨g, j * 3 + 1, none⟩ = some u := ⟨_, (ho.cellAt (j * 3 + 1) (by omega)).trans (List.getElem?_eq_getElem (by omega))⟩
      obtain ⟨u2, d2⟩ : ∃ u, wr.cell? ⟨g, j * 3 + 2, none⟩ = some u := ⟨_, (ho.cellAt (j * 3 + 2) (by omega)).trans (List.getElem?_eq_getElem (by omega))⟩
      have HR : Hid (wr.ownsRow B 74 3 (.slice (some ⟨g, 0, none⟩) l.length c) l.length (flat (marked k0 j ++ l.drop j))) := ho
      clear ho hxl
      go_wp2_with fail
      go_roundw
      case rel =>
        obtain ⟨p0, _⟩ := HR.out.stored (j * 3) (.int .u8 (mk k0 j).1)
        obtain ⟨p1, _⟩ := p0.stored (j * 3 + 1) (.int .i64 (mk k0 j).2.1)
        obtain ⟨p2, _⟩ := p1.stored (j * 3 + 2) (.int .i64 (mk k0 j).2.2)
        refine ⟨j + 1, by omega, by go_num, ?_, ?_, grown_setCell (grown_setCell (grown_setCell hg _ _) _ _) _ _⟩
        · congr 1; omega
        · have e := flat_set3 (marked k0 j) (l.drop (j + 1)) (l[j]'hlt) (mk k0 j)
          rw [marked_len, ← List.drop_eq_getElem_cons hlt] at e
          rw [marked_succ, ← e]
          exact p2
      case measure => simp [intOf]; omega
    · obtain rfl : j = l.length := by omega
      rw [List.drop_of_length_le (Nat.le_refl _), List.append_nil] at ho
      go_wp2_with fail
      go_ret
      refine ⟨rfl, ?_, hg⟩
      unfold Own
      rw [marked_len]
      exact ho

set_option maxHeartbeats 1000000 in
theorem markSignS_nil (a : Option Addr) (c : Nat) (k0 : Int) (w : World) :
    Calls Try.prog 20 #[.slice a 0 c, .int .i64 k0] w fun e w' => e = .returned (.int .i64 k0) ∧ w' = w := by
  go_enter Try.func20, Try.ntmps20
  go_wp2_with fail
  refine wp_loop_rounds 1 ?_
  rw [rounds_succ]
  go_wp2_with fail
  go_ret
  exact ⟨rfl, rfl⟩

/-- The marker writes into what is owned alone. -/
theorem markSignS_any (a : Option Addr) (n c : Nat) (l : List Sg) (k0 : Int) (B : Nat) (w : World) (h : Own w B (.slice a n c) l) (hn : n ≤ 1048576) (h0 : 0 ≤ k0) (h1 : k0 ≤ 100000000) :
    Calls Try.prog 20 #[.slice a n c, .int .i64 k0] w fun e w' => e = .returned (.int .i64 (k0 + 3 * n)) ∧ Own w' B (.slice a n c) (marked k0 n) ∧ w.grownBy w' (Value.slice a n c).ownBlock := by
  have hl := h.len
  rcases h.row.2 with ⟨hv, h0'⟩ | ⟨g, cap, cur, hv, r⟩
  · simp only [Value.slice.injEq] at hv
    obtain ⟨rfl, rfl, rfl⟩ := hv
    refine (markSignS_nil _ _ k0 w).mono ?_
    rintro e w' ⟨rfl, rfl⟩
    exact ⟨by simp, by simpa [marked] using Own.nil _ _, grown_refl _ _⟩
  · simp only [Value.slice.injEq, true_and] at hv
    obtain ⟨rfl, rfl⟩ := hv
    exact markSignS_at g n c l k0 B w h hn h0 h1

set_option maxHeartbeats 2000000 in
theorem heldSignS_any (a : Option Addr) (n c : Nat) (k0 : Int) (w : World) (h : Txt w a n c (marked k0 n)) (hn : n ≤ 1048576) (h0 : 0 ≤ k0) (h1 : k0 ≤ 100000000) :
    Calls Try.prog 21 #[.slice a n c, .int .i64 k0] w fun e w' => e = .returned (.int .i64 (k0 + 3 * n)) ∧ w' = w := by
  obtain ⟨-, hc, hm, hl⟩ := h
  unfold maxLen at hm
  by_cases hz : n = 0
  · subst hz
    go_enter Try.func21, Try.ntmps21
    go_wp2_with fail
    refine wp_loop_rounds 1 ?_
    rw [rounds_succ]
    go_wp2_with fail
    go_ret
    exact ⟨by simp, rfl⟩
  · rcases hl with hl | ⟨b, off, rfl, hbw, hl⟩
    · exfalso
      have := marked_len k0 n
      rw [hl] at this
      exact hz this.symm
    · go_enter Try.func21, Try.ntmps21
      go_wp2_with fail
      go_loop [1, 5] (fun kk i => ∃ (j : Nat), j ≤ n ∧ i = .int .i64 j ∧ kk = .int .i64 (k0 + 3 * j)) (fun _ i => n - (intOf i).toNat)
      case atStart => exact ⟨0, Nat.zero_le _, rfl, by simp⟩
      case round =>
        obtain ⟨j, hj, rfl, rfl⟩ := hrel
        by_cases hlt : j < n
        · obtain ⟨c0, c1, c2⟩ := hl j (by rw [marked_len]; exact hlt)
          rw [marked_get k0 n j hlt] at c0 c1 c2
          clear hl
          simp only [mk] at c0 c1 c2
          go_wp2_with fail
          go_round
          case rel => exact ⟨j + 1, by omega, by go_num, by congr 1; omega⟩
          case measure => simp [intOf]; omega
        · obtain rfl : j = n := by omega
          go_wp2_with fail
          go_ret
          exact ⟨rfl, rfl⟩
end Go.Proofs.Ytcecmkideoodiaa
namespace Go.Proofs.Ytcecmkideoodiaa
open Go.RowKit

/-- The cell that the marker lays, from k on. -/
def mkC (k : Int) (n : Nat) : Cl := (k, k + 1, k + 2, k + 3, marked (k + 4) n)
def kAt (k0 : Int) (l : List Cl) (i : Nat) : Int := k0 + 4 * i + 3 * (totT (l.take i) : Nat)
def markL (k0 : Int) (l : List Cl) : List Cl := (List.range l.length).map fun k => mkC (kAt k0 l k) (l.getD k cl0).2.2.2.2.length
theorem markL_len (k0 : Int) (l : List Cl) : (markL k0 l).length = l.length := by simp [markL]
theorem markL_get (k0 : Int) (l : List Cl) (k : Nat) (h : k < l.length) : (markL k0 l).getD k cl0 = mkC (kAt k0 l k) (l.getD k cl0).2.2.2.2.length := by
  simp only [markL, List.getD, List.getElem?_map, List.getElem?_range h, Option.map_some, Option.getD_some]
theorem kAt_succ (k0 : Int) (l : List Cl) (i : Nat) (h : i < l.length) : kAt k0 l (i + 1) = kAt k0 l i + 4 + 3 * ((l.getD i cl0).2.2.2.2.length : Nat) := by
  unfold kAt
  rw [totT_take l i h]
  omega
theorem kAt_ge (k0 : Int) (l : List Cl) (i : Nat) (h : 0 ≤ k0) : 0 ≤ kAt k0 l i := by
  unfold kAt
  omega
theorem kAt_le (k0 : Int) (l : List Cl) (i : Nat) (h : i ≤ l.length) : kAt k0 l i ≤ k0 + 4 * l.length + 3 * (totT l : Nat) := by
  unfold kAt
  have := totT_append (l.take i) (l.drop i)
  rw [List.take_append_drop] at this
  omega
theorem getD_set_eq {α : Type} (l : List α) (i : Nat) (x d : α) (h : i < l.length) : (l.set i x).getD i d = x := by simp [List.getD, h]
theorem getD_set_ne {α : Type} (l : List α) (i k : Nat) (x d : α) (h : i ≠ k) : (l.set i x).getD k d = l.getD k d := by simp [List.getD, List.getElem?_set_ne h]
theorem TxtOwn.upd {w w' : World} {B : Nat} {q : Option Nat} {rs : List Rw} {l : List Cl} (h : TxtOwn w B q rs l) (i : Nat) (hi : i < rs.length) (x : Rw) (y : Cl) (hx : rwT x = rwT (rs.getD i rw0)) (ho : RwOwn w' B x y)
    (hk : ∀ k, k < rs.length → k ≠ i → Own w' B (rwT (rs.getD k rw0)) (l.getD k cl0).2.2.2.2) : TxtOwn w' B q (rs.set i x) (l.set i y) := by
  have hl := h.1
  have hT : ∀ k, rwT ((rs.set i x).getD k rw0) = rwT (rs.getD k rw0) := by
    intro k
    by_cases hki : i = k
    · subst hki
      rw [getD_set_eq _ _ _ _ hi, hx]
    · rw [getD_set_ne _ _ _ _ _ hki]
  refine ⟨by simp [hl], fun k hk' => ?_, fun k hk' g hg => ?_, fun a b hab hb g hg => ?_⟩
  · simp only [List.length_set] at hk'
    by_cases hki : i = k
    · subst hki
      rw [getD_set_eq _ _ _ _ hi, getD_set_eq _ _ _ _ (by omega)]
      exact ho
    · rw [getD_set_ne _ _ _ _ _ hki, getD_set_ne _ _ _ _ _ hki]
      obtain ⟨h0, h1, h2, h3, _⟩ := h.2.1 k hk'
      exact ⟨h0, h1, h2, h3, hk k hk' (Ne.symm hki)⟩
  · simp only [List.length_set] at hk'
    rw [hT] at hg
    exact h.2.2.1 k hk' g hg
  · simp only [List.length_set] at hb
    rw [hT] at hg ⊢
    exact h.2.2.2 a b hab hb g hg
theorem flat5_set (rs : List Rw) (i : Nat) (hi : i < rs.length) (a b c d : Int) (s : Option Addr × Nat × Nat) (hs : (rs.getD i rw0).2.2.2.2 = s) :
    (((((flat5 rs).set (i * 5) (.int .i64 a)).set (i * 5 + 1) (.int .i64 b)).set (i * 5 + 2) (.int .i64 c)).set (i * 5 + 3) (.int .i64 d)) = flat5 (rs.set i (a, b, c, d, s)) := by
  apply List.ext_getElem?
  intro j
  have hlen := flat5_length rs
  by_cases hj : j < rs.length * 5
  · have hj5 : j = j / 5 * 5 + j % 5 := by omega
    have hk : j / 5 < rs.length := by omega
    have hm : j % 5 < 5 := by omega
    generalize j / 5 = k at hj5 hk
    generalize j % 5 = r at hj5 hm
    subst hj5
    rw [flat5_get (rs.set i (a, b, c, d, s)) k r (by simpa using hk) hm]
    by_cases hki : i = k
    · subst hki
      rw [getD_set_eq _ _ _ _ hi]
      have hold := flat5_get rs i 4 hi (by omega)
      rcases (show r = 0 ∨ r = 1 ∨ r = 2 ∨ r = 3 ∨ r = 4 from by omega) with rfl | rfl | rfl | rfl | rfl
      · rw [List.getElem?_set_ne (by omega), List.getElem?_set_ne (by omega), List.getElem?_set_ne (by omega), Nat.add_zero, List.getElem?_set_self (by omega)]; rfl
      · rw [List.getElem?_set_ne (by omega), List.getElem?_set_ne (by omega), List.getElem?_set_self (by simp; omega)]; rfl
      · rw [List.getElem?_set_ne (by omega), List.getElem?_set_self (by simp; omega)]; rfl
      · rw [List.getElem?_set_self (by simp; omega)]; rfl
      · rw [List.getElem?_set_ne (by omega), List.getElem?_set_ne (by omega), List.getElem?_set_ne (by omega), List.getElem?_set_ne (by omega), hold, ← hs]; rfl
    · rw [getD_set_ne _ _ _ _ _ hki, List.getElem?_set_ne (by omega), List.getElem?_set_ne (by omega), List.getElem?_set_ne (by omega), List.getElem?_set_ne (by omega)]
      exact flat5_get rs k r hk hm
  · rw [List.getElem?_eq_none (by simp; omega), List.getElem?_eq_none (by rw [flat5_length]; simp; omega)]

/-- Tables that lie elsewhere stay as they are. -/
def Stay (w w' : World) : Prop := ∀ b cs, RowAt w b cs 37 → RowAt w' b cs 37

/-- From block E on nothing has turned. -/
def Over (E : Nat) (w w' : World) : Prop := ∀ b, E ≤ b → b < w.heap.size → w'.heap[b]? = w.heap[b]?
theorem own_over {w w' : World} {B E e size n : Nat} {v : Value} {xs : List Value} (h : w.ownsRow B e size v n xs) (hE : E ≤ B) (ho : Over E w w') : w'.ownsRow B e size v n xs := by
  refine ⟨h.1, ?_⟩
  rcases h.2 with hn | ⟨g, cap, cur, rfl, hg, hgg, rest⟩
  · exact .inl hn
  · exact .inr ⟨g, cap, cur, rfl, hg, by rw [ho g (by omega) (Array.getElem?_eq_some_iff.1 hgg).1]; exact hgg, rest⟩
theorem OwnT.over {w w' : World} {B E : Nat} {v : Value} {rs : List Rw} {l : List Cl} (h : OwnT w B v rs l) (hE : E ≤ B) (ho : Over E w w') : OwnT w' B v rs l :=
  ⟨own_over h.1 hE ho, h.2.1, fun k hk => by
    obtain ⟨a0, a1, a2, a3, a4⟩ := h.2.2.1 k hk
    exact ⟨a0, a1, a2, a3, own_over a4 hE ho⟩, h.2.2.2.1, h.2.2.2.2⟩

set_option maxRecDepth 100000 in
set_option maxHeartbeats 4000000 in
theorem markCellS_over (a : Option Addr) (n c : Nat) (rs : List Rw) (l : List Cl) (k0 : Int) (B E : Nat) (w : World) (h : OwnT w B (.slice a n c) rs l) (hE : ∀ g, (Value.slice a n c).ownBlock = some g → g < E) (hT : ∀ k, k < rs.length → ∀ g, (rwT (rs.getD k rw0)).ownBlock = some g → g < E) (h0 : 0 ≤ k0) (h1 : k0 + 4 * l.length + 3 * (totT l : Nat) ≤ 50000000) (h2 : totT l ≤ 1048576) :
    Calls Try.prog 52 #[.slice a n c, .int .i64 k0] w fun e w' => e = .returned (.int .i64 (kAt k0 l l.length)) ∧ (∃ rs', OwnT w' B (.slice a n c) rs' (markL k0 l)) ∧ Below B w w' ∧ Stay w w' ∧ Over E w w' := by
  have hn := h.len
  have htab := h.tab
  have hcm := htab.2.2.1
  have hcn := htab.2.1
  unfold maxLen at hcm
  have HOT : Hid (OwnT w B (.slice a n c) rs l) := h
  have HE : Hid (∀ g, (Value.slice a n c).ownBlock = some g → g < E) := hE
  have HTE : Hid (∀ k, k < rs.length → ∀ g, (rwT (rs.getD k rw0)).ownBlock = some g → g < E) := hT
  clear hE hT
  clear h htab
  subst hn
  go_enter Try.func52, Try.ntmps52
  go_wp2_with fail
  go_loopw [1, 5] (fun kk iv wr => ∃ (i : Nat) (rs' : List Rw) (l' : List Cl), i ≤ l.length ∧ iv = .int .i64 i ∧ kk = .int .i64 (kAt k0 l i) ∧ OwnT wr B (.slice a l.length c) rs' l' ∧ (∀ k, k < l.length → (l'.getD k cl0).2.2.2.2.length = (l.getD k cl0).2.2.2.2.length) ∧ (∀ k, k < i → l'.getD k cl0 = mkC (kAt k0 l k) (l.getD k cl0).2.2.2.2.length) ∧ Below B w wr ∧ Stay w wr ∧ Over E w wr ∧ (∀ k, k < rs'.length → ∀ g, (rwT (rs'.getD k rw0)).ownBlock = some g → g < E)) (fun _ iv _ => l.length - (intOf iv).toNat)
  case atStart => exact ⟨0, rs, l, Nat.zero_le _, rfl, by simp [kAt, totT], HOT.out, fun _ _ => rfl, fun k hk => by omega, Below.refl _ _, fun _ _ hh => hh, fun _ _ _ => rfl, HTE.out⟩
  case round =>
    obtain ⟨i, rs', l', hi, rfl, rfl, ho, hlen, hdone, hb, hstay, hov, hte⟩ := hrel
    have HOv : Hid (Over E w wr) := hov
    have HTe : Hid (∀ k, k < rs'.length → ∀ g, (rwT (rs'.getD k rw0)).ownBlock = some g → g < E) := hte
    have HSz : Hid (w.heap.size ≤ wr.heap.size) := hb.size
    have HSt : Hid (Stay w wr) := hstay
    have HO : Hid (OwnT wr B (.slice a l.length c) rs' l') := ho
    have HLn : Hid (∀ k, k < l.length → (l'.getD k cl0).2.2.2.2.length = (l.getD k cl0).2.2.2.2.length) := hlen
    have HD : Hid (∀ k, k < i → l'.getD k cl0 = mkC (kAt k0 l k) (l.getD k cl0).2.2.2.2.length) := hdone
    have HB : Hid (Below B w wr) := hb
    have HLL : Hid (l.length = l'.length) := ho.len
    have HRL : Hid (l.length = rs'.length) := ho.1.len
    clear hlen hdone hb hstay hov hte
    by_cases hlt : i < l.length
    · have kge := kAt_ge k0 l i h0
      have kle := kAt_le k0 l i (by omega)
      have HSU : Hid (kAt k0 l (i + 1) = kAt k0 l i + 4 + 3 * ((l.getD i cl0).2.2.2.2.length : Nat)) := kAt_succ k0 l i hlt
      have hK : ∃ K, Hid (kAt k0 l i = K) := ⟨_, rfl⟩
      obtain ⟨K, HK⟩ := hK
      rw [HK.out] at kge kle ⊢
      rcases ho.1.row.2 with ⟨hv, hz⟩ | ⟨g, cap, cur, hv, hgB, hgg, _⟩
      · exfalso; omega
      simp only [Value.slice.injEq, true_and] at hv
      obtain ⟨rfl, rfl⟩ := hv
      have hrow := ho.1.row
      have glt := (own_lt hrow rfl).2
      have hxl := hrow.1
      have f0 := hrow.frozenAt (i * 5)
      have f1 := hrow.frozenAt (i * 5 + 1)
      have f2 := hrow.frozenAt (i * 5 + 2)
      have f3 := hrow.frozenAt (i * 5 + 3)
      obtain ⟨u0, d0⟩ : ∃ u, wr.cell? ⟨g, i * 5, none⟩ = some u := ⟨_, (hrow.cellAt (i * 5) (by omega)).trans (List.getElem?_eq_getElem (by omega))⟩
      obtain ⟨u1, d1⟩ : ∃ u, wr.cell? ⟨g, i * 5 + 1, none⟩ = some u := ⟨_, (hrow.cellAt (i * 5 + 1) (by omega)).trans (List.getElem?_eq_getElem (by omega))⟩
      obtain ⟨u2, d2⟩ : ∃ u, wr.cell? ⟨g, i * 5 + 2, none⟩ = some u := ⟨_, (hrow.cellAt (i * 5 + 2) (by omega)).trans (List.getElem?_eq_getElem (by omega))⟩
      obtain ⟨u3, d3⟩ : ∃ u, wr.cell? ⟨g, i * 5 + 3, none⟩ = some u := ⟨_, (hrow.cellAt (i * 5 + 3) (by omega)).trans (List.getElem?_eq_getElem (by omega))⟩
      have hK2 : K ≤ 50000000 := by omega
      clear ho hrow hxl hgg kle
      go_upto_region 12 with fail
      obtain ⟨⟨p, m, q⟩, hs⟩ : ∃ s, (rs'.getD i rw0).2.2.2.2 = s := ⟨_, rfl⟩
      obtain ⟨p0, _⟩ := HO.out.1.row.stored (i * 5) (.int .i64 K)
      obtain ⟨p1, _⟩ := p0.stored (i * 5 + 1) (.int .i64 (K + 1))
      obtain ⟨p2, _⟩ := p1.stored (i * 5 + 2) (.int .i64 (K + 1 + 1))
      obtain ⟨p3, _⟩ := p2.stored (i * 5 + 3) (.int .i64 (K + 1 + 1 + 1))
      have hir : i < rs'.length := by rw [← HRL.out]; exact hlt
      rw [flat5_set rs' i hir _ _ _ _ (p, m, q) hs] at p3
      have t3 : TxtOwn ((((wr.setCell ⟨g, i * 5, none⟩ (.int .i64 K)).setCell ⟨g, i * 5 + 1, none⟩ (.int .i64 (K + 1))).setCell ⟨g, i * 5 + 2, none⟩ (.int .i64 (K + 1 + 1))).setCell ⟨g, i * 5 + 3, none⟩ (.int .i64 (K + 1 + 1 + 1))) B (some g) rs' l' := (((HO.out.2.set ⟨g, i * 5, none⟩ (.int .i64 K) rfl).set ⟨g, i * 5 + 1, none⟩ (.int .i64 (K + 1)) rfl).set ⟨g, i * 5 + 2, none⟩ (.int .i64 (K + 1 + 1)) rfl).set ⟨g, i * 5 + 3, none⟩ (.int .i64 (K + 1 + 1 + 1)) rfl
      have b3 : Below B w ((((wr.setCell ⟨g, i * 5, none⟩ (.int .i64 K)).setCell ⟨g, i * 5 + 1, none⟩ (.int .i64 (K + 1))).setCell ⟨g, i * 5 + 2, none⟩ (.int .i64 (K + 1 + 1))).setCell ⟨g, i * 5 + 3, none⟩ (.int .i64 (K + 1 + 1 + 1))) := (((HB.out.setCell (p := ⟨g, i * 5, none⟩) hgB (.int .i64 K)).setCell (p := ⟨g, i * 5 + 1, none⟩) hgB (.int .i64 (K + 1))).setCell (p := ⟨g, i * 5 + 2, none⟩) hgB (.int .i64 (K + 1 + 1))).setCell (p := ⟨g, i * 5 + 3, none⟩) hgB (.int .i64 (K + 1 + 1 + 1))
      have st3 : Stay wr ((((wr.setCell ⟨g, i * 5, none⟩ (.int .i64 K)).setCell ⟨g, i * 5 + 1, none⟩ (.int .i64 (K + 1))).setCell ⟨g, i * 5 + 2, none⟩ (.int .i64 (K + 1 + 1))).setCell ⟨g, i * 5 + 3, none⟩ (.int .i64 (K + 1 + 1 + 1))) := by
        intro b cs hh
        have hne : b ≠ g := fun e => rowAt_ne hh HO.out.1.row (by decide) (by rw [e]; rfl)
        exact (((hh.other ⟨g, i * 5, none⟩ (.int .i64 K) hne).other ⟨g, i * 5 + 1, none⟩ (.int .i64 (K + 1)) hne).other ⟨g, i * 5 + 2, none⟩ (.int .i64 (K + 1 + 1)) hne).other ⟨g, i * 5 + 3, none⟩ (.int .i64 (K + 1 + 1 + 1)) hne
      have sz3 : ((((wr.setCell ⟨g, i * 5, none⟩ (.int .i64 K)).setCell ⟨g, i * 5 + 1, none⟩ (.int .i64 (K + 1))).setCell ⟨g, i * 5 + 2, none⟩ (.int .i64 (K + 1 + 1))).setCell ⟨g, i * 5 + 3, none⟩ (.int .i64 (K + 1 + 1 + 1))).heap.size = wr.heap.size := by simp only [Go.Deep.nblk_setCell]
      have ov3 : Over E w ((((wr.setCell ⟨g, i * 5, none⟩ (.int .i64 K)).setCell ⟨g, i * 5 + 1, none⟩ (.int .i64 (K + 1))).setCell ⟨g, i * 5 + 2, none⟩ (.int .i64 (K + 1 + 1))).setCell ⟨g, i * 5 + 3, none⟩ (.int .i64 (K + 1 + 1 + 1))) := by
        intro b hb1 hb2
        have hge : g < E := HE.out g rfl
        have hne : b ≠ g := by omega
        rw [Below.heap_setCell _ _ _ _ hne, Below.heap_setCell _ _ _ _ hne, Below.heap_setCell _ _ _ _ hne, Below.heap_setCell _ _ _ _ hne]
        exact HOv.out b hb1 hb2
      clear p0 p1 p2 d0 d1 d2 d3 f0 f1 f2 f3
      generalize ((((wr.setCell ⟨g, i * 5, none⟩ (.int .i64 K)).setCell ⟨g, i * 5 + 1, none⟩ (.int .i64 (K + 1))).setCell ⟨g, i * 5 + 2, none⟩ (.int .i64 (K + 1 + 1))).setCell ⟨g, i * 5 + 3, none⟩ (.int .i64 (K + 1 + 1 + 1))) = v at p3 t3 b3 sz3 st3 ov3 ⊢
      have HS3 : Hid (Stay wr v) := st3
      have HOv3 : Hid (Over E w v) := ov3
      clear st3 ov3
      have hc4 : v.cell? ⟨g, i * 5 + 4, none⟩ = some (.slice p m q) := by
        rw [p3.cellAt (i * 5 + 4) (by omega), flat5_get _ i 4 (by simpa using hir) (by omega), getD_set_eq _ _ _ _ hir]
        rfl
      have hto : Own v B (.slice p m q) (l'.getD i cl0).2.2.2.2 := by
        have := (t3.2.1 i hir).2.2.2.2
        unfold rwT at this
        rw [hs] at this
        exact this
      have HMN : Hid (m = (l.getD i cl0).2.2.2.2.length) := hto.len.trans (HLn.out i hlt)
      have HTO : Hid (Own v B (.slice p m q) (l'.getD i cl0).2.2.2.2) := hto
      have HP3 : Hid (v.ownsRow B 41 5 (.slice (some ⟨g, 0, none⟩) l.length c) l.length (flat5 (rs'.set i (K, K + 1, K + 1 + 1, K + 1 + 1 + 1, p, m, q)))) := p3
      have HT3 : Hid (TxtOwn v B (some g) rs' l') := t3
      have HS : Hid ((rs'.getD i rw0).2.2.2.2 = (p, m, q)) := hs
      have hm6 : m ≤ 1048576 := by
        have := totT_le l i hlt
        rw [HMN.out]
        omega
      clear hto p3 t3 hs
      go_wp2_with (go_at_call 20; refine (markSignS_any p m q (l'.getD i cl0).2.2.2.2 _ B _ HTO.out hm6 (by omega) (by omega)).mono ?_; rintro e w2 ⟨rfl, hO2, hg2⟩)
      go_roundw
      case rel =>
        have hT : rwT (rs'.getD i rw0) = .slice p m q := by
          unfold rwT
          rw [HS.out]
        have hne : ∀ g', (Value.slice p m q).ownBlock = some g' → some g ≠ some g' := fun g' hg' => HT3.out.2.2.1 i hir g' (by rw [hT]; exact hg')
        have e4 : K + 1 + 1 + 1 + 1 = K + 4 := by omega
        rw [e4] at hO2
        have hR : OwnR w2 B (.slice (some ⟨g, 0, none⟩) l.length c) (rs'.set i (K, K + 1, K + 1 + 1, K + 1 + 1 + 1, p, m, q)) := by
          unfold OwnR
          rw [List.length_set, ← HRL.out]
          exact own_grown HP3.out hg2 (fun g' hg' hq => by
            have e : g = g' := by simpa [Value.ownBlock] using hg'
            exact hne g' hq (by rw [e]))
        have hX : TxtOwn w2 B (some g) (rs'.set i (K, K + 1, K + 1 + 1, K + 1 + 1 + 1, p, m, q)) (l'.set i (mkC K m)) := by
          refine HT3.out.upd i hir _ _ (by rw [hT]; rfl) ⟨rfl, rfl, by show K + 1 + 1 = K + 2; omega, by show K + 1 + 1 + 1 = K + 3; omega, hO2⟩ ?_
          intro k hk hki
          refine own_grown (HT3.out.2.1 k hk).2.2.2.2 hg2 (fun g' hg' hq => ?_)
          rcases Nat.lt_or_ge k i with h3 | h3
          · exact HT3.out.2.2.2 k i h3 hir g' hg' (by rw [hT]; exact hq)
          · exact HT3.out.2.2.2 i k (by omega) hk g' (by rw [hT]; exact hq) hg'
        have hil : i < l'.length := by rw [← HLL.out]; exact hlt
        refine ⟨i + 1, _, l'.set i (mkC K m), by omega, by go_num, ?_, ⟨hR, hX⟩, ?_, ?_, ?_, ?_, ?_, ?_⟩
        · rw [HSU.out, HK.out, ← HMN.out]
          congr 1
          omega
        · intro k hk
          by_cases hki : i = k
          · subst hki
            rw [getD_set_eq _ _ _ _ hil, ← HMN.out]
            exact marked_len _ _
          · rw [getD_set_ne _ _ _ _ _ hki]
            exact HLn.out k hk
        · intro k hk
          by_cases hki : i = k
          · subst hki
            rw [getD_set_eq _ _ _ _ hil, HK.out, ← HMN.out]
          · rw [getD_set_ne _ _ _ _ _ hki]
            exact HD.out k (by omega)
        · exact b3.grown hg2 (by rw [sz3]; omega) (fun q' hq' => (own_lt HTO.out.row hq').1)
        · intro b cs hh
          have h3 := HS3.out b cs (HSt.out b cs hh)
          exact h3.grown hg2 (rowAt_ne h3 HTO.out.row (by decide))
        · intro b hb1 hb2
          have e5 := HSz.out
          refine (hg2.block b (by rw [sz3]; omega) (fun e => ?_)).trans (HOv3.out b hb1 hb2)
          have := HTe.out i hir b (by rw [hT]; exact e.symm)
          omega
        · intro k hk g' hg'
          simp only [List.length_set] at hk
          refine HTe.out k hk g' ?_
          by_cases hki : i = k
          · subst hki
            rw [getD_set_eq _ _ _ _ hir] at hg'
            rw [hT]
            exact hg'
          · rw [getD_set_ne _ _ _ _ _ hki] at hg'
            exact hg'
      case measure => simp [intOf]; omega
    · have e : i = l.length := by omega
      subst e
      have hL : l' = markL k0 l := by
        apply List.ext_getElem?
        intro k
        by_cases hk : k < l.length
        · have h3 := HD.out k hk
          rw [← markL_get k0 l k hk] at h3
          have hk' : k < l'.length := by rw [← HLL.out]; exact hk
          have hk2 : k < (markL k0 l).length := by rw [markL_len]; exact hk
          simp only [List.getD, List.getElem?_eq_getElem hk', List.getElem?_eq_getElem hk2, Option.getD_some] at h3
          rw [List.getElem?_eq_getElem hk', List.getElem?_eq_getElem hk2, h3]
        · rw [List.getElem?_eq_none (by rw [← HLL.out]; omega), List.getElem?_eq_none (by rw [markL_len]; omega)]
      have ho2 := HO.out
      rw [hL] at ho2
      have HO2 : Hid (OwnT wr B (.slice a l.length c) rs' (markL k0 l)) := ho2
      clear ho ho2 hL
      go_wp2_with fail
      go_ret
      exact ⟨rfl, ⟨rs', HO2.out⟩, HB.out, HSt.out, HOv.out⟩
theorem markCellS_any (a : Option Addr) (n c : Nat) (rs : List Rw) (l : List Cl) (k0 : Int) (B : Nat) (w : World) (h : OwnT w B (.slice a n c) rs l) (h0 : 0 ≤ k0) (h1 : k0 + 4 * l.length + 3 * (totT l : Nat) ≤ 50000000) (h2 : totT l ≤ 1048576) :
    Calls Try.prog 52 #[.slice a n c, .int .i64 k0] w fun e w' => e = .returned (.int .i64 (kAt k0 l l.length)) ∧ (∃ rs', OwnT w' B (.slice a n c) rs' (markL k0 l)) ∧ Below B w w' ∧ Stay w w' :=
  (markCellS_over a n c rs l k0 B w.heap.size w h (fun _ hg => (own_lt h.1.row hg).2) (fun k hk g hg => h.2.blockLt k hk g hg) h0 h1 h2).mono fun _ _ ⟨q1, q2, q3, q4, _⟩ => ⟨q1, q2, q3, q4⟩
end Go.Proofs.Ytcecmkideoodiaa
namespace Go.Proofs.Ytcecmkideoodiaa
open Go.RowKit

/-- Rows of blocks stay as they are. -/
def StayB (w w' : World) : Prop := ∀ b cs, RowAt w b cs 39 → RowAt w' b cs 39

set_option maxRecDepth 100000 in
set_option maxHeartbeats 4000000 in
theorem markCellS_overB (a : Option Addr) (n c : Nat) (rs : List Rw) (l : List Cl) (k0 : Int) (B E : Nat) (w : World) (h : OwnT w B (.slice a n c) rs l) (hE : ∀ g, (Value.slice a n c).ownBlock = some g → g < E) (hT : ∀ k, k < rs.length → ∀ g, (rwT (rs.getD k rw0)).ownBlock = some g → g < E) (h0 : 0 ≤ k0) (h1 : k0 + 4 * l.length + 3 * (totT l : Nat) ≤ 50000000) (h2 : totT l ≤ 1048576) :
    Calls Try.prog 52 #[.slice a n c, .int .i64 k0] w fun e w' => e = .returned (.int .i64 (kAt k0 l l.length)) ∧ (∃ rs', OwnT w' B (.slice a n c) rs' (markL k0 l) ∧ ∀ k, k < rs'.length → ∀ g, (rwT (rs'.getD k rw0)).ownBlock = some g → g < E) ∧ Below B w w' ∧ StayB w w' ∧ Over E w w' := by
  have hn := h.len
  have htab := h.tab
  have hcm := htab.2.2.1
  have hcn := htab.2.1
  unfold maxLen at hcm
  have HOT : Hid (OwnT w B (.slice a n c) rs l) := h
  have HE : Hid (∀ g, (Value.slice a n c).ownBlock = some g → g < E) := hE
  have HTE : Hid (∀ k, k < rs.length → ∀ g, (rwT (rs.getD k rw0)).ownBlock = some g → g < E) := hT
  clear hE hT
  clear h htab
  subst hn
  go_enter Try.func52, Try.ntmps52
  go_wp2_with fail
  go_loopw [1, 5] (fun kk iv wr => ∃ (i : Nat) (rs' : List Rw) (l' : List Cl), i ≤ l.length ∧ iv = .int .i64 i ∧ kk = .int .i64 (kAt k0 l i) ∧ OwnT wr B (.slice a l.length c) rs' l' ∧ (∀ k, k < l.length → (l'.getD k cl0).2.2.2.2.length = (l.getD k cl0).2.2.2.2.length) ∧ (∀ k, k < i → l'.getD k cl0 = mkC (kAt k0 l k) (l.getD k cl0).2.2.2.2.length) ∧ Below B w wr ∧ StayB w wr ∧ Over E w wr ∧ (∀ k, k < rs'.length → ∀ g, (rwT (rs'.getD k rw0)).ownBlock = some g → g < E)) (fun _ iv _ => l.length - (intOf iv).toNat)
  case atStart => exact ⟨0, rs, l, Nat.zero_le _, rfl, by simp [kAt, totT], HOT.out, fun _ _ => rfl, fun k hk => by omega, Below.refl _ _, fun _ _ hh => hh, fun _ _ _ => rfl, HTE.out⟩
  case round =>
    obtain ⟨i, rs', l', hi, rfl, rfl, ho, hlen, hdone, hb, hstay, hov, hte⟩ := hrel
    have HOv : Hid (Over E w wr) := hov
    have HTe : Hid (∀ k, k < rs'.length → ∀ g, (rwT (rs'.getD k rw0)).ownBlock = some g → g < E) := hte
    have HSz : Hid (w.heap.size ≤ wr.heap.size) := hb.size
    have HSt : Hid (StayB w wr) := hstay
    have HO : Hid (OwnT wr B (.slice a l.length c) rs' l') := ho
    have HLn : Hid (∀ k, k < l.length → (l'.getD k cl0).2.2.2.2.length = (l.getD k cl0).2.2.2.2.length) := hlen
    have HD : Hid (∀ k, k < i → l'.getD k cl0 = mkC (kAt k0 l k) (l.getD k cl0).2.2.2.2.length) := hdone
    have HB : Hid (Below B w wr) := hb
    have HLL : Hid (l.length = l'.length) := ho.len
    have HRL : Hid (l.length = rs'.length) := ho.1.len
    clear hlen hdone hb hstay hov hte
    by_cases hlt : i < l.length
    · have kge := kAt_ge k0 l i h0
      have kle := kAt_le k0 l i (by omega)
      have HSU : Hid (kAt k0 l (i + 1) = kAt k0 l i + 4 + 3 * ((l.getD i cl0).2.2.2.2.length : Nat)) := kAt_succ k0 l i hlt
      have hK : ∃ K, Hid (kAt k0 l i = K) := ⟨_, rfl⟩
      obtain ⟨K, HK⟩ := hK
      rw [HK.out] at kge kle ⊢
      rcases ho.1.row.2 with ⟨hv, hz⟩ | ⟨g, cap, cur, hv, hgB, hgg, _⟩
      · exfalso; omega
      simp only [Value.slice.injEq, true_and] at hv
      obtain ⟨rfl, rfl⟩ := hv
      have hrow := ho.1.row
      have glt := (own_lt hrow rfl).2
      have hxl := hrow.1
      have f0 := hrow.frozenAt (i * 5)
      have f1 := hrow.frozenAt (i * 5 + 1)
      have f2 := hrow.frozenAt (i * 5 + 2)
      have f3 := hrow.frozenAt (i * 5 + 3)
      obtain ⟨u0, d0⟩ : ∃ u, wr.cell? ⟨g, i * 5, none⟩ = some u := ⟨_, (hrow.cellAt (i * 5) (by omega)).trans (List.getElem?_eq_getElem (by omega))⟩
      obtain ⟨u1, d1⟩ : ∃ u, wr.cell? ⟨g, i * 5 + 1, none⟩ = some u := ⟨_, (hrow.cellAt (i * 5 + 1) (by omega)).trans (List.getElem?_eq_getElem (by omega))⟩
      obtain ⟨u2, d2⟩ : ∃ u, wr.cell? ⟨g, i * 5 + 2, none⟩ = some u := ⟨_, (hrow.cellAt (i * 5 + 2) (by omega)).trans (List.getElem?_eq_getElem (by omega))⟩
      obtain ⟨u3, d3⟩ : ∃ u, wr.cell? ⟨g, i * 5 + 3, none⟩ = some u := ⟨_, (hrow.cellAt (i * 5 + 3) (by omega)).trans (List.getElem?_eq_getElem (by omega))⟩
      have hK2 : K ≤ 50000000 := by omega
      clear ho hrow hxl hgg kle
      go_upto_region 12 with fail
      obtain ⟨⟨p, m, q⟩, hs⟩ : ∃ s, (rs'.getD i rw0).2.2.2.2 = s := ⟨_, rfl⟩
      obtain ⟨p0, _⟩ := HO.out.1.row.stored (i * 5) (.int .i64 K)
      obtain ⟨p1, _⟩ := p0.stored (i * 5 + 1) (.int .i64 (K + 1))
      obtain ⟨p2, _⟩ := p1.stored (i * 5 + 2) (.int .i64 (K + 1 + 1))
      obtain ⟨p3, _⟩ := p2.stored (i * 5 + 3) (.int .i64 (K + 1 + 1 + 1))
      have hir : i < rs'.length := by rw [← HRL.out]; exact hlt
      rw [flat5_set rs' i hir _ _ _ _ (p, m, q) hs] at p3
      have t3 : TxtOwn ((((wr.setCell ⟨g, i * 5, none⟩ (.int .i64 K)).setCell ⟨g, i * 5 + 1, none⟩ (.int .i64 (K + 1))).setCell ⟨g, i * 5 + 2, none⟩ (.int .i64 (K + 1 + 1))).setCell ⟨g, i * 5 + 3, none⟩ (.int .i64 (K + 1 + 1 + 1))) B (some g) rs' l' := (((HO.out.2.set ⟨g, i * 5, none⟩ (.int .i64 K) rfl).set ⟨g, i * 5 + 1, none⟩ (.int .i64 (K + 1)) rfl).set ⟨g, i * 5 + 2, none⟩ (.int .i64 (K + 1 + 1)) rfl).set ⟨g, i * 5 + 3, none⟩ (.int .i64 (K + 1 + 1 + 1)) rfl
      have b3 : Below B w ((((wr.setCell ⟨g, i * 5, none⟩ (.int .i64 K)).setCell ⟨g, i * 5 + 1, none⟩ (.int .i64 (K + 1))).setCell ⟨g, i * 5 + 2, none⟩ (.int .i64 (K + 1 + 1))).setCell ⟨g, i * 5 + 3, none⟩ (.int .i64 (K + 1 + 1 + 1))) := (((HB.out.setCell (p := ⟨g, i * 5, none⟩) hgB (.int .i64 K)).setCell (p := ⟨g, i * 5 + 1, none⟩) hgB (.int .i64 (K + 1))).setCell (p := ⟨g, i * 5 + 2, none⟩) hgB (.int .i64 (K + 1 + 1))).setCell (p := ⟨g, i * 5 + 3, none⟩) hgB (.int .i64 (K + 1 + 1 + 1))
      have st3 : StayB wr ((((wr.setCell ⟨g, i * 5, none⟩ (.int .i64 K)).setCell ⟨g, i * 5 + 1, none⟩ (.int .i64 (K + 1))).setCell ⟨g, i * 5 + 2, none⟩ (.int .i64 (K + 1 + 1))).setCell ⟨g, i * 5 + 3, none⟩ (.int .i64 (K + 1 + 1 + 1))) := by
        intro b cs hh
        have hne : b ≠ g := fun e => rowAt_ne hh HO.out.1.row (by decide) (by rw [e]; rfl)
        exact (((hh.other ⟨g, i * 5, none⟩ (.int .i64 K) hne).other ⟨g, i * 5 + 1, none⟩ (.int .i64 (K + 1)) hne).other ⟨g, i * 5 + 2, none⟩ (.int .i64 (K + 1 + 1)) hne).other ⟨g, i * 5 + 3, none⟩ (.int .i64 (K + 1 + 1 + 1)) hne
      have sz3 : ((((wr.setCell ⟨g, i * 5, none⟩ (.int .i64 K)).setCell ⟨g, i * 5 + 1, none⟩ (.int .i64 (K + 1))).setCell ⟨g, i * 5 + 2, none⟩ (.int .i64 (K + 1 + 1))).setCell ⟨g, i * 5 + 3, none⟩ (.int .i64 (K + 1 + 1 + 1))).heap.size = wr.heap.size := by simp only [Go.Deep.nblk_setCell]
      have ov3 : Over E w ((((wr.setCell ⟨g, i * 5, none⟩ (.int .i64 K)).setCell ⟨g, i * 5 + 1, none⟩ (.int .i64 (K + 1))).setCell ⟨g, i * 5 + 2, none⟩ (.int .i64 (K + 1 + 1))).setCell ⟨g, i * 5 + 3, none⟩ (.int .i64 (K + 1 + 1 + 1))) := by
        intro b hb1 hb2
        have hge : g < E := HE.out g rfl
        have hne : b ≠ g := by omega
        rw [Below.heap_setCell _ _ _ _ hne, Below.heap_setCell _ _ _ _ hne, Below.heap_setCell _ _ _ _ hne, Below.heap_setCell _ _ _ _ hne]
        exact HOv.out b hb1 hb2
      clear p0 p1 p2 d0 d1 d2 d3 f0 f1 f2 f3
      generalize ((((wr.setCell ⟨g, i * 5, none⟩ (.int .i64 K)).setCell ⟨g, i * 5 + 1, none⟩ (.int .i64 (K + 1))).setCell ⟨g, i * 5 + 2, none⟩ (.int .i64 (K + 1 + 1))).setCell ⟨g, i * 5 + 3, none⟩ (.int .i64 (K + 1 + 1 + 1))) = v at p3 t3 b3 sz3 st3 ov3 ⊢
      have HS3 : Hid (StayB wr v) := st3
      have HOv3 : Hid (Over E w v) := ov3
      clear st3 ov3
      have hc4 : v.cell? ⟨g, i * 5 + 4, none⟩ = some (.slice p m q) := by
        rw [p3.cellAt (i * 5 + 4) (by omega), flat5_get _ i 4 (by simpa using hir) (by omega), getD_set_eq _ _ _ _ hir]
        rfl
      have hto : Own v B (.slice p m q) (l'.getD i cl0).2.2.2.2 := by
        have := (t3.2.1 i hir).2.2.2.2
        unfold rwT at this
        rw [hs] at this
        exact this
      have HMN : Hid (m = (l.getD i cl0).2.2.2.2.length) := hto.len.trans (HLn.out i hlt)
      have HTO : Hid (Own v B (.slice p m q) (l'.getD i cl0).2.2.2.2) := hto
      have HP3 : Hid (v.ownsRow B 41 5 (.slice (some ⟨g, 0, none⟩) l.length c) l.length (flat5 (rs'.set i (K, K + 1, K + 1 + 1, K + 1 + 1 + 1, p, m, q)))) := p3
      have HT3 : Hid (TxtOwn v B (some g) rs' l') := t3
      have HS : Hid ((rs'.getD i rw0).2.2.2.2 = (p, m, q)) := hs
      have hm6 : m ≤ 1048576 := by
        have := totT_le l i hlt
        rw [HMN.out]
        omega
      clear hto p3 t3 hs
      go_wp2_with (go_at_call 20; refine (markSignS_any p m q (l'.getD i cl0).2.2.2.2 _ B _ HTO.out hm6 (by omega) (by omega)).mono ?_; rintro e w2 ⟨rfl, hO2, hg2⟩)
      go_roundw
      case rel =>
        have hT : rwT (rs'.getD i rw0) = .slice p m q := by
          unfold rwT
          rw [HS.out]
        have hne : ∀ g', (Value.slice p m q).ownBlock = some g' → some g ≠ some g' := fun g' hg' => HT3.out.2.2.1 i hir g' (by rw [hT]; exact hg')
        have e4 : K + 1 + 1 + 1 + 1 = K + 4 := by omega
        rw [e4] at hO2
        have hR : OwnR w2 B (.slice (some ⟨g, 0, none⟩) l.length c) (rs'.set i (K, K + 1, K + 1 + 1, K + 1 + 1 + 1, p, m, q)) := by
          unfold OwnR
          rw [List.length_set, ← HRL.out]
          exact own_grown HP3.out hg2 (fun g' hg' hq => by
            have e : g = g' := by simpa [Value.ownBlock] using hg'
            exact hne g' hq (by rw [e]))
        have hX : TxtOwn w2 B (some g) (rs'.set i (K, K + 1, K + 1 + 1, K + 1 + 1 + 1, p, m, q)) (l'.set i (mkC K m)) := by
          refine HT3.out.upd i hir _ _ (by rw [hT]; rfl) ⟨rfl, rfl, by show K + 1 + 1 = K + 2; omega, by show K + 1 + 1 + 1 = K + 3; omega, hO2⟩ ?_
          intro k hk hki
          refine own_grown (HT3.out.2.1 k hk).2.2.2.2 hg2 (fun g' hg' hq => ?_)
          rcases Nat.lt_or_ge k i with h3 | h3
          · exact HT3.out.2.2.2 k i h3 hir g' hg' (by rw [hT]; exact hq)
          · exact HT3.out.2.2.2 i k (by omega) hk g' (by rw [hT]; exact hq) hg'
        have hil : i < l'.length := by rw [← HLL.out]; exact hlt
        refine ⟨i + 1, _, l'.set i (mkC K m), by omega, by go_num, ?_, ⟨hR, hX⟩, ?_, ?_, ?_, ?_, ?_, ?_⟩
        · rw [HSU.out, HK.out, ← HMN.out]
          congr 1
          omega
        · intro k hk
          by_cases hki : i = k
          · subst hki
            rw [getD_set_eq _ _ _ _ hil, ← HMN.out]
            exact marked_len _ _
          · rw [getD_set_ne _ _ _ _ _ hki]
            exact HLn.out k hk
        · intro k hk
          by_cases hki : i = k
          · subst hki
            rw [getD_set_eq _ _ _ _ hil, HK.out, ← HMN.out]
          · rw [getD_set_ne _ _ _ _ _ hki]
            exact HD.out k (by omega)
        · exact b3.grown hg2 (by rw [sz3]; omega) (fun q' hq' => (own_lt HTO.out.row hq').1)
        · intro b cs hh
          have h3 := HS3.out b cs (HSt.out b cs hh)
          exact h3.grown hg2 (rowAt_ne h3 HTO.out.row (by decide))
        · intro b hb1 hb2
          have e5 := HSz.out
          refine (hg2.block b (by rw [sz3]; omega) (fun e => ?_)).trans (HOv3.out b hb1 hb2)
          have := HTe.out i hir b (by rw [hT]; exact e.symm)
          omega
        · intro k hk g' hg'
          simp only [List.length_set] at hk
          refine HTe.out k hk g' ?_
          by_cases hki : i = k
          · subst hki
            rw [getD_set_eq _ _ _ _ hir] at hg'
            rw [hT]
            exact hg'
          · rw [getD_set_ne _ _ _ _ _ hki] at hg'
            exact hg'
      case measure => simp [intOf]; omega
    · have e : i = l.length := by omega
      subst e
      have hL : l' = markL k0 l := by
        apply List.ext_getElem?
        intro k
        by_cases hk : k < l.length
        · have h3 := HD.out k hk
          rw [← markL_get k0 l k hk] at h3
          have hk' : k < l'.length := by rw [← HLL.out]; exact hk
          have hk2 : k < (markL k0 l).length := by rw [markL_len]; exact hk
          simp only [List.getD, List.getElem?_eq_getElem hk', List.getElem?_eq_getElem hk2, Option.getD_some] at h3
          rw [List.getElem?_eq_getElem hk', List.getElem?_eq_getElem hk2, h3]
        · rw [List.getElem?_eq_none (by rw [← HLL.out]; omega), List.getElem?_eq_none (by rw [markL_len]; omega)]
      have ho2 := HO.out
      rw [hL] at ho2
      have HO2 : Hid (OwnT wr B (.slice a l.length c) rs' (markL k0 l)) := ho2
      clear ho ho2 hL
      go_wp2_with fail
      go_ret
      exact ⟨rfl, ⟨rs', HO2.out, HTe.out⟩, HB.out, HSt.out, HOv.out⟩
end Go.Proofs.Ytcecmkideoodiaa
namespace Go.Proofs.Ytcecmkideoodiaa
open Go.RowKit

/-- The block that the marker lays, from K on. -/
def mkB (K : Int) (x : Bl) : Bl := (K, K + 1, marked (K + 1 + 1) x.2.2.1.length, K + 1 + 1 + 3 * (x.2.2.1.length : Nat), K + 1 + 1 + 3 * (x.2.2.1.length : Nat) + 1, markL (K + 1 + 1 + 3 * (x.2.2.1.length : Nat) + 1 + 1) x.2.2.2.2.2)
def szM (x : Bl) : Nat := 4 + 3 * x.2.2.1.length + 4 * x.2.2.2.2.2.length + 3 * totT x.2.2.2.2.2
def kD (k0 : Int) (d : List Bl) (i : Nat) : Int := k0 + (((d.take i).map szM).sum : Nat)
/-- The first i blocks are marked. -/
def markTo (k0 : Int) (d : List Bl) (i : Nat) : List Bl := (List.range d.length).map fun k => if k < i then mkB (kD k0 d k) (d.getD k bl0) else d.getD k bl0
theorem markTo_len (k0 : Int) (d : List Bl) (i : Nat) : (markTo k0 d i).length = d.length := by simp [markTo]
theorem markTo_get {k0 : Int} {d : List Bl} {i k : Nat} (hk : k < d.length) : (markTo k0 d i).getD k bl0 = if k < i then mkB (kD k0 d k) (d.getD k bl0) else d.getD k bl0 := by
  simp only [markTo, List.getD, List.getElem?_map, List.getElem?_range hk, Option.map_some, Option.getD_some]
theorem getD_bl' {d : List Bl} {k : Nat} (hk : k < d.length) : d.getD k bl0 = d[k] := by simp [List.getD, hk]
theorem bl_ext' {a b : List Bl} (hl : a.length = b.length) (h : ∀ k, k < b.length → a.getD k bl0 = b.getD k bl0) : a = b := by
  apply List.ext_getElem hl
  intro k h1 h2
  have := h k h2
  rwa [getD_bl' h1, getD_bl' h2] at this
theorem markTo_zero (k0 : Int) (d : List Bl) : markTo k0 d 0 = d := bl_ext' (markTo_len _ _ _) fun k hk => by rw [markTo_get hk, if_neg (by omega)]
theorem markTo_succ {k0 : Int} {d : List Bl} {m : Nat} : markTo k0 d (m + 1) = (markTo k0 d m).set m (mkB (kD k0 d m) (d.getD m bl0)) := by
  refine bl_ext' (by simp [markTo_len]) fun k hk => ?_
  rw [List.length_set, markTo_len] at hk
  rw [markTo_get hk]
  by_cases e : m = k
  · subst e
    rw [if_pos (by omega), bl_getD_set_self (by rw [markTo_len]; exact hk)]
  · rw [bl_getD_set_other e, markTo_get hk]
    by_cases h1 : k < m
    · rw [if_pos h1, if_pos (by omega)]
    · rw [if_neg h1, if_neg (by omega)]
theorem kD_succ {k0 : Int} {d : List Bl} {i : Nat} (h : i < d.length) : kD k0 d (i + 1) = kD k0 d i + (szM (d.getD i bl0) : Nat) := by
  unfold kD
  rw [List.take_succ_eq_append_getElem h, List.map_append, List.sum_append, getD_bl' h]
  simp
  omega
theorem kD_ge {k0 : Int} (d : List Bl) (i : Nat) (h : 0 ≤ k0) : 0 ≤ kD k0 d i := by
  unfold kD
  omega
theorem szM_le (x : Bl) : szM x ≤ 4 + 4 * szB x := by
  unfold szM szB
  omega
theorem kD_le {k0 : Int} {d : List Bl} : ∀ {i : Nat}, i ≤ d.length → kD k0 d i ≤ k0 + 4 * (i : Nat) + 4 * (totD (d.take i) : Nat) := by
  intro i
  induction i with
  | zero => intro _; simp [kD, totD]
  | succ i ih =>
    intro h
    have h1 := ih (by omega)
    rw [kD_succ (by omega), totD_take d i (by omega)]
    have := szM_le (d.getD i bl0)
    omega
theorem chain_le {lo mid hi : Nat → Nat} {n : Nat} (h1 : ∀ k, k < n → lo k ≤ mid k ∧ mid k ≤ hi k) (h2 : ∀ k, k + 1 < n → hi k ≤ lo (k + 1)) : ∀ {i k : Nat}, i < k → k < n → hi i ≤ lo k := by
  intro i k
  induction k with
  | zero => intro h _; omega
  | succ k ih =>
    intro h hk
    have hs := h2 k hk
    by_cases e : i = k
    · subst e; exact hs
    · have := ih (by omega) (by omega)
      have := h1 k (by omega)
      omega
theorem own_stay {w w' : World} {B size n : Nat} {v : Value} {xs : List Value} (h : w.ownsRow B 39 size v n xs) (hs : StayB w w') : w'.ownsRow B 39 size v n xs := by
  refine ⟨h.1, ?_⟩
  rcases h.2 with hn | ⟨g, cap, cur, rfl, hg, hgg, rest⟩
  · exact .inl hn
  · exact .inr ⟨g, cap, cur, rfl, hg, hs g cur hgg, rest⟩
theorem rows_at {w : World} {B g n c : Nat} {rbs : List Rb} (h : w.ownsRow B 39 6 (.slice (some ⟨g, 0, none⟩) n c) rbs.length (flat6 rbs)) {i : Nat} (hi : i < rbs.length) : (∀ j, j < 6 → w.cell? ⟨g, i * 6 + j, none⟩ = (rbCells (rbs.getD i rb0))[j]?) ∧ ∀ j, w.frozen? ⟨g, i * 6 + j, none⟩ = false := by
  have hn : n = rbs.length := by
    rcases h.2 with ⟨hv, _⟩ | ⟨g', cap, cur, hv, _⟩
    · cases hv
    · simp only [Value.slice.injEq] at hv
      exact hv.2.1
  subst hn
  refine ⟨fun j hj => ?_, fun j => h.frozenAt _⟩
  rw [h.cellAt (i * 6 + j) (by omega)]
  exact flat6_get rbs i hi j hj
set_option maxRecDepth 100000 in
set_option maxHeartbeats 16000000 in
theorem markBlockS_over {a : Option Addr} {n c : Nat} {rbs : List Rb} {d : List Bl} {k0 : Int} {B E : Nat} {w : World} (h : DocOwn w B E (.slice a n c) rbs d) (hE : E ≤ w.heap.size) (hB : B ≤ E) (h0 : 0 ≤ k0) (h1 : k0 ≤ 1000) (h2 : d.length + totD d ≤ 1048576) :
    Calls Try.prog 38 #[.slice a n c, .int .i64 k0] w fun e w' => e = .returned (.int .i64 (kD k0 d d.length)) ∧ (∃ rbs', DocOwn w' B E (.slice a n c) rbs' (markTo k0 d d.length)) ∧ Below B w w' ∧ Over E w w' := by
  have hn := h.len
  have hc1 := h.dc.2.1
  have hc2 := h.dc.2.2.1
  unfold maxLen at hc2
  subst hn
  have H : Hid (DocOwn w B E (.slice a d.length c) rbs d) := h
  have HKL : Hid (∀ i, i ≤ d.length → 0 ≤ kD k0 d i ∧ kD k0 d i ≤ 10000000) := fun i hi => by
    refine ⟨kD_ge d i h0, ?_⟩
    have h3 := kD_le (k0 := k0) hi
    have h4 := totD_append (d.take i) (d.drop i)
    rw [List.take_append_drop] at h4
    omega
  clear h
  go_enter Try.func38, Try.ntmps38
  go_wp2_with fail
  go_loopw [1, 5] (fun kk iv wr => ∃ (i : Nat) (rbs' : List Rb), i ≤ d.length ∧ iv = .int .i64 i ∧ kk = .int .i64 (kD k0 d i) ∧ DocOwn wr B E (.slice a d.length c) rbs' (markTo k0 d i) ∧ w.heap.size ≤ wr.heap.size ∧ Below B w wr ∧ Over E w wr) (fun _ iv _ => d.length - (intOf iv).toNat)
  case atStart => exact ⟨0, rbs, Nat.zero_le _, rfl, by simp [kD], by rw [markTo_zero]; exact H.out, Nat.le_refl _, Below.refl _ _, fun _ _ _ => rfl⟩
  case round =>
    obtain ⟨i, rbs', hi, rfl, rfl, ho, hsz, hb, hov⟩ := hrel
    have HO : Hid (DocOwn wr B E (.slice a d.length c) rbs' (markTo k0 d i)) := ho
    have HB : Hid (Below B w wr) := hb
    have HOv : Hid (Over E w wr) := hov
    clear hb hov
    obtain ⟨kge, kle⟩ := HKL.out i hi
    by_cases hlt : i < d.length
    · have hib : (i : Int) < (d.length : Int) := by omega
      have hi0 : (0 : Int) ≤ (i : Int) := by omega
      have HSU : Hid (kD k0 d (i + 1) = kD k0 d i + (szM (d.getD i bl0) : Nat)) := kD_succ hlt
      have HMS : Hid (markTo k0 d (i + 1) = (markTo k0 d i).set i (mkB (kD k0 d i) (d.getD i bl0))) := markTo_succ
      have hle := totD_le d i hlt
      obtain ⟨g, rfl, hg1, hg2, hcs, hfz⟩ := docOwn_at ho hlt
      have gE : g < E := ho.2.1 g rfl
      obtain ⟨lo, mid, hi', hbl, hch⟩ := ho.2.2.2
      have hlen := ho.2.2.1
      rw [markTo_len] at hlen hbl hch
      have hbi := hbl i hlt
      rw [markTo_get hlt, if_neg (by omega)] at hbi
      obtain ⟨hBl, hhE, hbo⟩ := hbi
      obtain ⟨K, HK⟩ : ∃ K, Hid (kD k0 d i = K) := ⟨_, rfl⟩
      rw [HK.out] at kge kle HSU HMS ⊢
      have HFAM : Hid (∀ k, k < d.length → k ≠ i → BlOwn wr (lo k) (mid k) (hi' k) (rbs'.getD k rb0) ((markTo k0 d i).getD k bl0)) := fun k hk _ => (hbl k hk).2.2
      have HCH : Hid (∀ k, k < d.length → k ≠ i → B ≤ lo k ∧ hi' k ≤ E ∧ (hi' k ≤ lo i ∨ hi' i ≤ lo k)) := fun k hk hne => by
        have hm : ∀ k, k < d.length → lo k ≤ mid k ∧ mid k ≤ hi' k := fun k hk => (hbl k hk).2.2.2.2.2.2
        refine ⟨(hbl k hk).1, (hbl k hk).2.1, ?_⟩
        rcases Nat.lt_or_gt_of_ne hne with h | h
        · exact .inl (chain_le hm hch h hlt)
        · exact .inr (chain_le hm hch h hk)
      have HHI : Hid (∀ k, k < d.length → B ≤ lo k ∧ hi' k ≤ E) := fun k hk => ⟨(hbl k hk).1, (hbl k hk).2.1⟩
      have HCH2 : Hid (∀ k, k + 1 < d.length → hi' k ≤ lo (k + 1)) := hch
      obtain ⟨⟨xk, xv, ⟨p, tn, q⟩, xR, xC, ⟨p', cn, q'⟩⟩, hx⟩ : ∃ x, x = rbs'.getD i rb0 := ⟨_, rfl⟩
      obtain ⟨⟨yk, yv, t, yR, yC, l⟩, hy⟩ : ∃ x, x = d.getD i bl0 := ⟨_, rfl⟩
      rw [← hx] at hbo
      rw [← hy] at hbo HSU HMS hle
      obtain ⟨-, hot, htm, ⟨rs, hoT, hcE, hrE⟩, hlm, hmh⟩ := hbo
      simp only [sl3V] at hot htm hoT hcE hlm hmh
      have htl : tn = t.length := Own.len hot
      have htn : tn ≤ 1048576 := by
        have : t.length ≤ szB (yk, yv, t, yR, yC, l) := Nat.le_add_right _ _
        omega
      have hll : l.length ≤ 1048576 ∧ totT l ≤ 1048576 := by
        have : l.length + totT l ≤ szB (yk, yv, t, yR, yC, l) := Nat.le_add_left _ _
        omega
      obtain ⟨hl1, hl2⟩ := hll
      have HTL : Hid (tn = t.length) := htl
      have HLEN : Hid (rbs'.length = d.length) := hlen
      have hli : i < rbs'.length := by omega
      clear htl hlen
      have c0 := hcs 0 (by omega)
      have c1 := hcs 1 (by omega)
      rw [← hx] at c0 c1
      have d0 : wr.cell? ⟨g, i * 6, none⟩ = some (.int .i64 xk) := c0
      have d1 : wr.cell? ⟨g, i * 6 + 1, none⟩ = some (.int .i64 xv) := c1
      have f0 : wr.frozen? ⟨g, i * 6, none⟩ = false := hfz 0
      have f1 := hfz 1
      have hrow := ho.1
      have r1 : (wr.setCell ⟨g, i * 6, none⟩ (.int .i64 K)).ownsRow B 39 6 (.slice (some ⟨g, 0, none⟩) d.length c) (rbs'.set i (K, xv, (p, tn, q), xR, xC, (p', cn, q'))).length (flat6 (rbs'.set i (K, xv, (p, tn, q), xR, xC, (p', cn, q')))) := by
        have := rows_set hrow i 0 hli (by omega) (.int .i64 K) (K, xv, (p, tn, q), xR, xC, (p', cn, q')) (by rw [← hx]; rfl)
        rwa [Nat.add_zero] at this
      have r2 : ((wr.setCell ⟨g, i * 6, none⟩ (.int .i64 K)).setCell ⟨g, i * 6 + 1, none⟩ (.int .i64 (K + 1))).ownsRow B 39 6 (.slice (some ⟨g, 0, none⟩) d.length c) (rbs'.set i (K, K + 1, (p, tn, q), xR, xC, (p', cn, q'))).length (flat6 (rbs'.set i (K, K + 1, (p, tn, q), xR, xC, (p', cn, q')))) := by
        have := rows_set r1 i 1 (by simpa using hli) (by omega) (.int .i64 (K + 1)) (K, K + 1, (p, tn, q), xR, xC, (p', cn, q')) (by rw [rb_getD_set_self hli]; rfl)
        rwa [List.set_set] at this
      obtain ⟨cur0, hcur0⟩ := own_rowAt hrow
      obtain ⟨cur1, hcur1⟩ := own_rowAt r1
      have K1 : ∀ B E, Kept B E wr ((wr.setCell ⟨g, i * 6, none⟩ (.int .i64 K)).setCell ⟨g, i * 6 + 1, none⟩ (.int .i64 (K + 1))) := fun B E => (kept_set hcur0 B E _ _).trans (kept_set hcur1 B E _ _)
      have F1 : Hid (∀ k, k < d.length → k ≠ i → BlOwn ((wr.setCell ⟨g, i * 6, none⟩ (.int .i64 K)).setCell ⟨g, i * 6 + 1, none⟩ (.int .i64 (K + 1))) (lo k) (mid k) (hi' k) (rbs'.getD k rb0) ((markTo k0 d i).getD k bl0)) := fun k hk hne => (HFAM.out k hk hne).kept (K1 _ _)
      have T1 : Own ((wr.setCell ⟨g, i * 6, none⟩ (.int .i64 K)).setCell ⟨g, i * 6 + 1, none⟩ (.int .i64 (K + 1))) (lo i) (.slice p tn q) t := own_kept hot (by decide) htm (K1 _ _)
      have C1 : OwnT ((wr.setCell ⟨g, i * 6, none⟩ (.int .i64 K)).setCell ⟨g, i * 6 + 1, none⟩ (.int .i64 (K + 1))) (mid i) (.slice p' cn q') rs l := ownT_kept hoT hcE hrE (K1 _ _)
      have B1 : Below B w ((wr.setCell ⟨g, i * 6, none⟩ (.int .i64 K)).setCell ⟨g, i * 6 + 1, none⟩ (.int .i64 (K + 1))) := (HB.out.setCell (p := ⟨g, i * 6, none⟩) hg1 _).setCell (p := ⟨g, i * 6 + 1, none⟩) hg1 _
      have O1 : Over E w ((wr.setCell ⟨g, i * 6, none⟩ (.int .i64 K)).setCell ⟨g, i * 6 + 1, none⟩ (.int .i64 (K + 1))) := fun b hb hb' => by
        rw [Go.Deep.blk_setCell_other _ _ _ _ (by simp; omega), Go.Deep.blk_setCell_other _ _ _ _ (by simp; omega)]
        exact HOv.out b hb hb'
      have sz1 : w.heap.size ≤ ((wr.setCell ⟨g, i * 6, none⟩ (.int .i64 K)).setCell ⟨g, i * 6 + 1, none⟩ (.int .i64 (K + 1))).heap.size := by simpa using hsz
      have HTM : Hid (∀ g, (Value.slice p tn q).ownBlock = some g → g < mid i) := htm
      have HCE : Hid (∀ g, (Value.slice p' cn q').ownBlock = some g → g < hi' i) := hcE
      have HRE : Hid (∀ k, k < rs.length → ∀ g, (rwT (rs.getD k rw0)).ownBlock = some g → g < hi' i) := hrE
      clear ho hcs hfz hbl hch hot htm hoT hcE hrE r1 hcur0 hcur1 K1 hrow hx hy HO HB HOv HFAM
      go_upto_region 8 with fail
      clear d0 d1 f0 f1 c0 c1
      generalize ((wr.setCell ⟨g, i * 6, none⟩ (.int .i64 K)).setCell ⟨g, i * 6 + 1, none⟩ (.int .i64 (K + 1))) = v1 at r2 F1 T1 C1 B1 O1 sz1 ⊢
      have hl2' : i < (rbs'.set i (K, K + 1, (p, tn, q), xR, xC, (p', cn, q'))).length := by simpa using hli
      have k2 : v1.cell? ⟨g, i * 6 + 2, none⟩ = some (.slice p tn q) := by
        have := (rows_at r2 hl2').1 2 (by omega)
        rw [rb_getD_set_self hli] at this
        exact this
      have HR2 : Hid (v1.ownsRow B 39 6 (.slice (some ⟨g, 0, none⟩) d.length c) (rbs'.set i (K, K + 1, (p, tn, q), xR, xC, (p', cn, q'))).length (flat6 (rbs'.set i (K, K + 1, (p, tn, q), xR, xC, (p', cn, q'))))) := r2
      have HT1 : Hid (Own v1 (lo i) (.slice p tn q) t) := T1
      have HC1 : Hid (OwnT v1 (mid i) (.slice p' cn q') rs l) := C1
      have HB1 : Hid (Below B w v1) := B1
      have HO1 : Hid (Over E w v1) := O1
      clear r2 T1 C1 B1 O1
      go_upto_region 9 with (go_at_call 20; refine (markSignS_any p tn q t _ (lo i) _ HT1.out htn (by omega) (by omega)).mono ?_; rintro e w2 ⟨rfl, ho2, hgrow⟩)
      have tlt : ∀ z, (Value.slice p tn q).ownBlock = some z → lo i ≤ z ∧ z < mid i := fun z hz => ⟨(own_lt HT1.out hz).1, HTM.out z hz⟩
      have s2 := hgrow.size
      have same : ∀ b, b < E → ¬ (lo i ≤ b ∧ b < mid i) → w2.heap[b]? = v1.heap[b]? := fun b hb hn => hgrow.block b (by omega) (fun e => hn (tlt b e.symm))
      have F2 : Hid (∀ k, k < d.length → k ≠ i → BlOwn w2 (lo k) (mid k) (hi' k) (rbs'.getD k rb0) ((markTo k0 d i).getD k bl0)) := fun k hk hne => (F1.out k hk hne).mid (fun b hb hb' => by
        obtain ⟨h1, h2, h3⟩ := HCH.out k hk hne
        exact same b (by omega) (by omega))
      have C2 : OwnT w2 (mid i) (.slice p' cn q') rs l := ownT_kept HC1.out HCE.out HRE.out (Mid.kept (fun b hb hb' => same b (by omega) (by omega)))
      have r2 : w2.ownsRow B 39 6 (.slice (some ⟨g, 0, none⟩) d.length c) (rbs'.set i (K, K + 1, (p, tn, q), xR, xC, (p', cn, q'))).length (flat6 (rbs'.set i (K, K + 1, (p, tn, q), xR, xC, (p', cn, q')))) := own_grown HR2.out hgrow (fun z hz e => own_kinds HR2.out HT1.out (by decide) z e hz)
      have B2 : Below B w w2 := HB1.out.grown hgrow (by omega) (fun z hz => by have := (tlt z hz).1; omega)
      have O2 : Over E w w2 := fun b hb hb' => by
        rw [hgrow.block b (by omega) (fun e => by have := tlt b e.symm; omega)]
        exact HO1.out b hb hb'
      have HT2 : Hid (Own w2 (lo i) (.slice p tn q) (marked (K + 1 + 1) tn)) := ho2
      have sz2 : w.heap.size ≤ w2.heap.size := by omega
      clear ho2 hgrow k2 HR2 HT1 HC1 HB1 HO1 F1 tlt same
      have q3 : w2.cell? ⟨g, i * 6 + 3, none⟩ = some (.int .i64 xR) := by
        have := (rows_at r2 hl2').1 3 (by omega)
        rw [rb_getD_set_self hli] at this
        exact this
      have q4 : w2.cell? ⟨g, i * 6 + 4, none⟩ = some (.int .i64 xC) := by
        have := (rows_at r2 hl2').1 4 (by omega)
        rw [rb_getD_set_self hli] at this
        exact this
      have f3 := (rows_at r2 hl2').2 3
      have f4 := (rows_at r2 hl2').2 4
      have r3 : (w2.setCell ⟨g, i * 6 + 3, none⟩ (.int .i64 (K + 1 + 1 + 3 * (tn : Int)))).ownsRow B 39 6 (.slice (some ⟨g, 0, none⟩) d.length c) (rbs'.set i (K, K + 1, (p, tn, q), (K + 1 + 1 + 3 * (tn : Int)), xC, (p', cn, q'))).length (flat6 (rbs'.set i (K, K + 1, (p, tn, q), (K + 1 + 1 + 3 * (tn : Int)), xC, (p', cn, q')))) := by
        have := rows_set r2 i 3 hl2' (by omega) (.int .i64 (K + 1 + 1 + 3 * (tn : Int))) (K, K + 1, (p, tn, q), (K + 1 + 1 + 3 * (tn : Int)), xC, (p', cn, q')) (by rw [rb_getD_set_self hli]; rfl)
        rwa [List.set_set] at this
      have r4 : ((w2.setCell ⟨g, i * 6 + 3, none⟩ (.int .i64 (K + 1 + 1 + 3 * (tn : Int)))).setCell ⟨g, i * 6 + 4, none⟩ (.int .i64 ((K + 1 + 1 + 3 * (tn : Int)) + 1))).ownsRow B 39 6 (.slice (some ⟨g, 0, none⟩) d.length c) (rbs'.set i (K, K + 1, (p, tn, q), (K + 1 + 1 + 3 * (tn : Int)), (K + 1 + 1 + 3 * (tn : Int)) + 1, (p', cn, q'))).length (flat6 (rbs'.set i (K, K + 1, (p, tn, q), (K + 1 + 1 + 3 * (tn : Int)), (K + 1 + 1 + 3 * (tn : Int)) + 1, (p', cn, q')))) := by
        have := rows_set r3 i 4 (by simpa using hli) (by omega) (.int .i64 ((K + 1 + 1 + 3 * (tn : Int)) + 1)) (K, K + 1, (p, tn, q), (K + 1 + 1 + 3 * (tn : Int)), (K + 1 + 1 + 3 * (tn : Int)) + 1, (p', cn, q')) (by rw [rb_getD_set_self hli]; rfl)
        rwa [List.set_set] at this
      obtain ⟨cur2, hcur2⟩ := own_rowAt r2
      obtain ⟨cur3, hcur3⟩ := own_rowAt r3
      have K3' : ∀ B E, Kept B E w2 ((w2.setCell ⟨g, i * 6 + 3, none⟩ (.int .i64 (K + 1 + 1 + 3 * (tn : Int)))).setCell ⟨g, i * 6 + 4, none⟩ (.int .i64 ((K + 1 + 1 + 3 * (tn : Int)) + 1))) := fun B E => (kept_set hcur2 B E _ _).trans (kept_set hcur3 B E _ _)
      have F3 : Hid (∀ k, k < d.length → k ≠ i → BlOwn ((w2.setCell ⟨g, i * 6 + 3, none⟩ (.int .i64 (K + 1 + 1 + 3 * (tn : Int)))).setCell ⟨g, i * 6 + 4, none⟩ (.int .i64 ((K + 1 + 1 + 3 * (tn : Int)) + 1))) (lo k) (mid k) (hi' k) (rbs'.getD k rb0) ((markTo k0 d i).getD k bl0)) := fun k hk hne => (F2.out k hk hne).kept (K3' _ _)
      have T3 : Own ((w2.setCell ⟨g, i * 6 + 3, none⟩ (.int .i64 (K + 1 + 1 + 3 * (tn : Int)))).setCell ⟨g, i * 6 + 4, none⟩ (.int .i64 ((K + 1 + 1 + 3 * (tn : Int)) + 1))) (lo i) (.slice p tn q) (marked (K + 1 + 1) tn) := own_kept HT2.out (by decide) HTM.out (K3' _ _)
      have C3 : OwnT ((w2.setCell ⟨g, i * 6 + 3, none⟩ (.int .i64 (K + 1 + 1 + 3 * (tn : Int)))).setCell ⟨g, i * 6 + 4, none⟩ (.int .i64 ((K + 1 + 1 + 3 * (tn : Int)) + 1))) (mid i) (.slice p' cn q') rs l := ownT_kept C2 HCE.out HRE.out (K3' _ _)
      have B3 : Below B w ((w2.setCell ⟨g, i * 6 + 3, none⟩ (.int .i64 (K + 1 + 1 + 3 * (tn : Int)))).setCell ⟨g, i * 6 + 4, none⟩ (.int .i64 ((K + 1 + 1 + 3 * (tn : Int)) + 1))) := (B2.setCell (p := ⟨g, i * 6 + 3, none⟩) hg1 _).setCell (p := ⟨g, i * 6 + 4, none⟩) hg1 _
      have O3 : Over E w ((w2.setCell ⟨g, i * 6 + 3, none⟩ (.int .i64 (K + 1 + 1 + 3 * (tn : Int)))).setCell ⟨g, i * 6 + 4, none⟩ (.int .i64 ((K + 1 + 1 + 3 * (tn : Int)) + 1))) := fun b hb hb' => by
        rw [Go.Deep.blk_setCell_other _ _ _ _ (by simp; omega), Go.Deep.blk_setCell_other _ _ _ _ (by simp; omega)]
        exact O2 b hb hb'
      have sz3 : w.heap.size ≤ ((w2.setCell ⟨g, i * 6 + 3, none⟩ (.int .i64 (K + 1 + 1 + 3 * (tn : Int)))).setCell ⟨g, i * 6 + 4, none⟩ (.int .i64 ((K + 1 + 1 + 3 * (tn : Int)) + 1))).heap.size := by simpa using sz2
      clear r2 r3 hcur2 hcur3 K3' C2 B2 O2 F2 HT2
      go_upto_region 13 with fail
      clear q3 q4 f3 f4
      generalize ((w2.setCell ⟨g, i * 6 + 3, none⟩ (.int .i64 (K + 1 + 1 + 3 * (tn : Int)))).setCell ⟨g, i * 6 + 4, none⟩ (.int .i64 ((K + 1 + 1 + 3 * (tn : Int)) + 1))) = v3 at r4 F3 T3 C3 B3 O3 sz3 ⊢
      have k5 : v3.cell? ⟨g, i * 6 + 5, none⟩ = some (.slice p' cn q') := by
        have := (rows_at r4 (by simpa using hli)).1 5 (by omega)
        rw [rb_getD_set_self hli] at this
        exact this
      have HR4 : Hid (v3.ownsRow B 39 6 (.slice (some ⟨g, 0, none⟩) d.length c) (rbs'.set i (K, K + 1, (p, tn, q), (K + 1 + 1 + 3 * (tn : Int)), (K + 1 + 1 + 3 * (tn : Int)) + 1, (p', cn, q'))).length (flat6 (rbs'.set i (K, K + 1, (p, tn, q), (K + 1 + 1 + 3 * (tn : Int)), (K + 1 + 1 + 3 * (tn : Int)) + 1, (p', cn, q'))))) := r4
      have HT3 : Hid (Own v3 (lo i) (.slice p tn q) (marked (K + 1 + 1) tn)) := T3
      have HC3 : Hid (OwnT v3 (mid i) (.slice p' cn q') rs l) := C3
      have HB3 : Hid (Below B w v3) := B3
      have HO3 : Hid (Over E w v3) := O3
      have hBm : B ≤ mid i := by have := (HHI.out i hlt).1; omega
      clear r4 T3 C3 B3 O3
      go_wp2_with (go_at_call 52; refine (markCellS_overB p' cn q' rs l _ (mid i) (hi' i) _ HC3.out HCE.out HRE.out (by omega) (by omega) hl2).mono ?_; rintro e w4 ⟨rfl, ⟨rs4, ho4, hr4⟩, hb4, hst4, hov4⟩)
      have s4 := hb4.size
      go_roundw
      case rel =>
        have hend : kD k0 d (i + 1) = kAt ((K + 1 + 1 + 3 * (tn : Int)) + 1 + 1) l l.length := by
          rw [HSU.out]
          unfold kAt szM
          rw [List.take_of_length_le (Nat.le_refl _)]
          simp only
          rw [← HTL.out]
          omega
        refine ⟨i + 1, rbs'.set i (K, K + 1, (p, tn, q), (K + 1 + 1 + 3 * (tn : Int)), (K + 1 + 1 + 3 * (tn : Int)) + 1, (p', cn, q')), by omega, by go_num, by rw [hend], ?_, by omega, HB3.out.trans (hb4.mono hBm), fun b hb hb' => ?_⟩
        · refine docOwn_of (own_stay HR4.out hst4) (fun z hz => by simp [Value.ownBlock] at hz; omega) ⟨by rw [HMS.out]; simp [HLEN.out, markTo_len], lo, mid, hi', fun k hk => ?_, fun k hk => HCH2.out k (by rw [markTo_len] at hk; exact hk)⟩
          rw [markTo_len] at hk
          obtain ⟨hb1, hb2⟩ := HHI.out k hk
          refine ⟨hb1, hb2, ?_⟩
          rw [HMS.out]
          by_cases e : i = k
          · subst e
            rw [rb_getD_set_self hli, bl_getD_set_self (by rw [markTo_len]; exact hlt)]
            refine ⟨⟨rfl, rfl, ?_, ?_⟩, ?_, HTM.out, ⟨rs4, ?_, HCE.out, hr4⟩, hlm, hmh⟩
            · show (K + 1 + 1 + 3 * (tn : Int)) = _
              rw [HTL.out]
              rfl
            · show (K + 1 + 1 + 3 * (tn : Int)) + 1 = _
              rw [HTL.out]
              rfl
            · have hT4 : Own w4 (lo i) (.slice p tn q) (marked (K + 1 + 1) tn) := own_mid HT3.out HTM.out (fun b hb hb' => hb4.block b (by omega))
              show Own w4 (lo i) (.slice p tn q) (marked (K + 1 + 1) t.length)
              rw [← HTL.out]
              exact hT4
            · show OwnT w4 (mid i) (.slice p' cn q') rs4 (markL (K + 1 + 1 + 3 * (t.length : Int) + 1 + 1) l)
              rw [← HTL.out]
              exact ho4
          · rw [rb_getD_set_other e, bl_getD_set_other e]
            refine (F3.out k hk (Ne.symm e)).mid (fun b hb hb' => ?_)
            obtain ⟨h1, h2, h3⟩ := HCH.out k hk (Ne.symm e)
            rcases h3 with h3 | h3
            · exact hb4.block b (by omega)
            · exact hov4 b (by omega) (by omega)
        · rw [hov4 b (by have := (HHI.out i hlt).2; omega) (by omega)]
          exact HO3.out b hb hb'
      case measure => simp [intOf]; omega
    · obtain rfl : i = d.length := by omega
      clear ho
      go_wp2_with fail
      go_ret
      exact ⟨rfl, ⟨rbs', HO.out⟩, HB.out, HOv.out⟩
end Go.Proofs.Ytcecmkideoodiaa
namespace Go.Proofs.Ytcecmkideoodiaa
open Go.RowKit

set_option maxHeartbeats 2000000 in
theorem markDoc_over {a : Option Addr} {n c : Nat} {rbs : List Rb} {d : List Bl} {k0 : Int} {B E : Nat} {w : World} (h : DocOwn w B E (.slice a n c) rbs d) (hE : E ≤ w.heap.size) (hB : B ≤ E) (h0 : 0 ≤ k0) (h1 : k0 ≤ 1000) (h2 : d.length + totD d ≤ 1048576) :
    Calls Try.prog 19 #[.agg #[.slice a n c], .int .i64 k0] w fun e w' => e = .returned (.int .i64 (kD k0 d d.length)) ∧ (∃ rbs', DocOwn w' B E (.slice a n c) rbs' (markTo k0 d d.length)) ∧ Below B w w' ∧ Over E w w' := by
  have H : Hid (DocOwn w B E (.slice a n c) rbs d) := h
  clear h
  have B0 : Below w.heap.size w (w.alloc (.cells #[.slice a n c] 25)) := (Below.refl _ _).alloc (Nat.le_refl _) _
  go_enter Try.func19, Try.ntmps19
  go_wp2_with (go_at_call 38; refine (markBlockS_over (H.out.below hE B0) (by simp; omega) hB h0 h1 h2).mono ?_; rintro e w1 ⟨rfl, ⟨rbs', ho1⟩, hb1, hov1⟩)
  go_ret
  exact ⟨rfl, ⟨rbs', ho1⟩, (B0.mono (by omega)).trans hb1, fun b hb hb' => (hov1 b hb (by simp; omega)).trans (Below.heap_alloc _ _ _ hb')⟩
end Go.Proofs.Ytcecmkideoodiaa
namespace Go.Proofs.Ytcecmkideoodiaa
open Go.RowKit

theorem topl_info : (Try.prog.info? 27).map (·.size) = some 3 := by kernel_rfl
theorem topl_ones (a b c : Int) : (#[Value.int .i64 a, .int .i64 b, .int .i64 c] : Array Value).all (·.oneCell') = true := by simp [Value.oneCell']
set_option maxRecDepth 100000 in
set_option maxHeartbeats 4000000 in
theorem toPlace_any (pb pc pa : Int) (w : World) :
    Calls Try.prog 16 #[.agg #[.int .i64 pb, .int .i64 pc, .int .i64 pa]] w fun e w' => e = .returned (.agg #[.int .i64 pb, .int .i64 pc, .int .i64 pa]) ∧ Below w.heap.size w w' := by
  go_enter Try.func16, Try.ntmps16
  go_upto_region 2 with fail
  have B0 : Below w.heap.size w (((w.alloc (.cells #[.int .i64 pb, .int .i64 pc, .int .i64 pa] 45)).alloc (.cells #[.int .i64 0, .int .i64 0, .int .i64 0] 27)).alloc (.cells #[.int .i64 0, .int .i64 0, .int .i64 0] 27)) := (((Below.refl _ _).alloc (Nat.le_refl _) _).alloc (by simp) _).alloc (by simp; omega) _
  have G0 : RowAt (((w.alloc (.cells #[.int .i64 pb, .int .i64 pc, .int .i64 pa] 45)).alloc (.cells #[.int .i64 0, .int .i64 0, .int .i64 0] 27)).alloc (.cells #[.int .i64 0, .int .i64 0, .int .i64 0] 27)) w.heap.size #[.int .i64 pb, .int .i64 pc, .int .i64 pa] 45 := ((rowAt_new w _ _).alloc _).alloc _
  have G1 : RowAt (((w.alloc (.cells #[.int .i64 pb, .int .i64 pc, .int .i64 pa] 45)).alloc (.cells #[.int .i64 0, .int .i64 0, .int .i64 0] 27)).alloc (.cells #[.int .i64 0, .int .i64 0, .int .i64 0] 27)) (w.heap.size + 1) #[.int .i64 0, .int .i64 0, .int .i64 0] 27 := by
    have := rowAt_new (w.alloc (.cells #[.int .i64 pb, .int .i64 pc, .int .i64 pa] 45)) #[.int .i64 0, .int .i64 0, .int .i64 0] 27
    simp only [World.size_alloc] at this
    exact this.alloc _
  have G2 : RowAt (((w.alloc (.cells #[.int .i64 pb, .int .i64 pc, .int .i64 pa] 45)).alloc (.cells #[.int .i64 0, .int .i64 0, .int .i64 0] 27)).alloc (.cells #[.int .i64 0, .int .i64 0, .int .i64 0] 27)) (w.heap.size + 1 + 1) #[.int .i64 0, .int .i64 0, .int .i64 0] 27 := by
    have := rowAt_new ((w.alloc (.cells #[.int .i64 pb, .int .i64 pc, .int .i64 pa] 45)).alloc (.cells #[.int .i64 0, .int .i64 0, .int .i64 0] 27)) #[.int .i64 0, .int .i64 0, .int .i64 0] 27
    simpa using this
  generalize (((w.alloc (.cells #[.int .i64 pb, .int .i64 pc, .int .i64 pa] 45)).alloc (.cells #[.int .i64 0, .int .i64 0, .int .i64 0] 27)).alloc (.cells #[.int .i64 0, .int .i64 0, .int .i64 0] 27)) = v0 at B0 G0 G1 G2 ⊢
  have k : v0.cell? ⟨w.heap.size, 0, none⟩ = some (.int .i64 pb) := G0.cell 0
  have k' : v0.cell? ⟨w.heap.size + 1 + 1, 0, none⟩ = some (.int .i64 0) := G2.cell 0
  have f' := RowAt.frozen G2 0
  go_upto_region 3 with fail
  replace B0 : Below w.heap.size w (v0.setCell ⟨w.heap.size + 1 + 1, 0, none⟩ (.int .i64 pb)) := B0.setCell (by show w.heap.size ≤ w.heap.size + 1 + 1; omega) _
  replace G0 : RowAt (v0.setCell ⟨w.heap.size + 1 + 1, 0, none⟩ (.int .i64 pb)) w.heap.size #[.int .i64 pb, .int .i64 pc, .int .i64 pa] 45 := RowAt.other G0 _ _ (by show w.heap.size ≠ w.heap.size + 1 + 1; omega)
  replace G1 : RowAt (v0.setCell ⟨w.heap.size + 1 + 1, 0, none⟩ (.int .i64 pb)) (w.heap.size + 1) #[.int .i64 0, .int .i64 0, .int .i64 0] 27 := RowAt.other G1 _ _ (by show w.heap.size + 1 ≠ w.heap.size + 1 + 1; omega)
  replace G2 : RowAt (v0.setCell ⟨w.heap.size + 1 + 1, 0, none⟩ (.int .i64 pb)) (w.heap.size + 1 + 1) #[.int .i64 pb, .int .i64 0, .int .i64 0] 27 := RowAt.setCell G2 0 _
  clear k k' f'
  generalize (v0.setCell ⟨w.heap.size + 1 + 1, 0, none⟩ (.int .i64 pb)) = v1 at B0 G0 G1 G2 ⊢
  have k : v1.cell? ⟨w.heap.size, 1, none⟩ = some (.int .i64 pc) := G0.cell 1
  have k' : v1.cell? ⟨w.heap.size + 1 + 1, 1, none⟩ = some (.int .i64 0) := G2.cell 1
  have f' := RowAt.frozen G2 1
  go_upto_region 4 with fail
  replace B0 : Below w.heap.size w (v1.setCell ⟨w.heap.size + 1 + 1, 1, none⟩ (.int .i64 pc)) := B0.setCell (by show w.heap.size ≤ w.heap.size + 1 + 1; omega) _
  replace G0 : RowAt (v1.setCell ⟨w.heap.size + 1 + 1, 1, none⟩ (.int .i64 pc)) w.heap.size #[.int .i64 pb, .int .i64 pc, .int .i64 pa] 45 := RowAt.other G0 _ _ (by show w.heap.size ≠ w.heap.size + 1 + 1; omega)
  replace G1 : RowAt (v1.setCell ⟨w.heap.size + 1 + 1, 1, none⟩ (.int .i64 pc)) (w.heap.size + 1) #[.int .i64 0, .int .i64 0, .int .i64 0] 27 := RowAt.other G1 _ _ (by show w.heap.size + 1 ≠ w.heap.size + 1 + 1; omega)
  replace G2 : RowAt (v1.setCell ⟨w.heap.size + 1 + 1, 1, none⟩ (.int .i64 pc)) (w.heap.size + 1 + 1) #[.int .i64 pb, .int .i64 pc, .int .i64 0] 27 := RowAt.setCell G2 1 _
  clear k k' f'
  generalize (v1.setCell ⟨w.heap.size + 1 + 1, 1, none⟩ (.int .i64 pc)) = v2 at B0 G0 G1 G2 ⊢
  have k : v2.cell? ⟨w.heap.size, 2, none⟩ = some (.int .i64 pa) := G0.cell 2
  have k' : v2.cell? ⟨w.heap.size + 1 + 1, 2, none⟩ = some (.int .i64 0) := G2.cell 2
  have f' := RowAt.frozen G2 2
  go_upto_region 5 with fail
  replace B0 : Below w.heap.size w (v2.setCell ⟨w.heap.size + 1 + 1, 2, none⟩ (.int .i64 pa)) := B0.setCell (by show w.heap.size ≤ w.heap.size + 1 + 1; omega) _
  replace G0 : RowAt (v2.setCell ⟨w.heap.size + 1 + 1, 2, none⟩ (.int .i64 pa)) w.heap.size #[.int .i64 pb, .int .i64 pc, .int .i64 pa] 45 := RowAt.other G0 _ _ (by show w.heap.size ≠ w.heap.size + 1 + 1; omega)
  replace G1 : RowAt (v2.setCell ⟨w.heap.size + 1 + 1, 2, none⟩ (.int .i64 pa)) (w.heap.size + 1) #[.int .i64 0, .int .i64 0, .int .i64 0] 27 := RowAt.other G1 _ _ (by show w.heap.size + 1 ≠ w.heap.size + 1 + 1; omega)
  replace G2 : RowAt (v2.setCell ⟨w.heap.size + 1 + 1, 2, none⟩ (.int .i64 pa)) (w.heap.size + 1 + 1) #[.int .i64 pb, .int .i64 pc, .int .i64 pa] 27 := RowAt.setCell G2 2 _
  clear k k' f'
  generalize (v2.setCell ⟨w.heap.size + 1 + 1, 2, none⟩ (.int .i64 pa)) = v3 at B0 G0 G1 G2 ⊢
  have k0 : v3.cell? ⟨w.heap.size + 1 + 1, 0, none⟩ = some (.int .i64 pb) := G2.cell 0
  have k1 : v3.cell? ⟨w.heap.size + 1 + 1, 1, none⟩ = some (.int .i64 pc) := G2.cell 1
  have k2 : v3.cell? ⟨w.heap.size + 1 + 1, 2, none⟩ = some (.int .i64 pa) := G2.cell 2
  go_wp2_with (refine wpList_store_row rfl 27 (.tmp 2) (.tmp 13) rfl (w.heap.size + 1) #[.int .i64 pb, .int .i64 pc, .int .i64 pa] rfl rfl 27 _ G1 topl_info rfl (topl_ones _ _ _) ?_)
  exact bodyPost_ret (v := .agg #[.int .i64 pb, .int .i64 pc, .int .i64 pa]) (results_cell_row (p := 2) (ty := 27) rfl _ _ (w.heap.size + 1) 27 _ _ _ rfl (RowAt.setRow G1 _) Try.underlying27 rfl topl_info) rfl ⟨rfl, below_row B0 (by omega) _⟩
end Go.Proofs.Ytcecmkideoodiaa
