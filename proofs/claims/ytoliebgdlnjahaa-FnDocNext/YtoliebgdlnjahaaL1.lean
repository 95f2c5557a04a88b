import Derived.Test.YtoliebgdlnjahaaBA2
import Derived.Test.YtoliebgdlnjahaaBA5
import Derived.Test.YtoliebgdlnjahaaBA1
import Derived.Deep.QuietTactic
import Derived.BigQuiet
import Derived.Test.YtoliebgdlnjahaaBA4
import Derived.Deep.LoopGhost
namespace Go.Proofs.Ytoliebgdlnjahaa
open Go.RowKit

/-- The texts of a table that is ok are short, and its cells few. -/
theorem ok_small {R C : Int} {l : List Cl} (h : okB R C l = true) : l.length ≤ 25 ∧ ∀ x ∈ l, x.2.2.2.2.length ≤ 24 := by
  have hf : formB R C l = true := by
    simp only [okB, Bool.and_eq_true] at h
    exact h.1
  obtain ⟨_, _, hl, hat⟩ := formB_of hf
  refine ⟨hl, fun x hx => ?_⟩
  obtain ⟨k, hk, e⟩ := List.getElem_of_mem hx
  have := (cellB_of (atB_cell (hat k hk))).2.2.2.2
  rw [show l.getD k cl0 = x by rw [← e]; simp [List.getD, hk]] at this
  simp only [textB, Bool.and_eq_true, decide_eq_true_eq] at this
  exact this.1
end Go.Proofs.Ytoliebgdlnjahaa
namespace Go.Proofs.Ytoliebgdlnjahaa
open Go.RowKit

/-- A block that is a part in form is small. -/
theorem part_small {x : Bl} (h : partOkB x = true) : (x.1 = 1 ∨ x.1 = 2 → x.2.2.1.length ≤ 24) ∧ (x.1 = 3 → x.2.2.2.2.2.length ≤ 25 ∧ ∀ k, k < x.2.2.2.2.2.length → (x.2.2.2.2.2.getD k cl0).2.2.2.2.length ≤ 24) := by
  obtain ⟨k, v, t, R, C, l⟩ := x
  unfold partOkB at h
  simp only at h ⊢
  by_cases h1 : k = 1
  · subst h1
    simp [textB] at h
    exact ⟨fun _ => h.1, fun e => absurd e (by decide)⟩
  · by_cases h2 : k = 2
    · subst h2
      simp [textB] at h
      exact ⟨fun _ => h.2.1, fun e => absurd e (by decide)⟩
    · rw [if_neg h1, if_neg h2] at h
      obtain ⟨a, b⟩ := ok_small h
      refine ⟨fun e => by omega, fun _ => ⟨a, fun j hj => b _ ?_⟩⟩
      rw [show l.getD j cl0 = l[j] by simp [List.getD, hj]]
      exact List.getElem_mem hj
theorem outlB_part {d : List Bl} (h : outlB d = true) {k : Nat} (hk : k < d.length) : partOkB (d.getD k bl0) = true := by
  unfold outlB at h
  rw [Bool.and_eq_true, List.all_eq_true] at h
  have := h.2 k (List.mem_range.2 hk)
  unfold outK at this
  rw [Bool.and_eq_true] at this
  exact this.1
theorem partBB_para {v : Int} {t : List Sg} {R C : Int} {l : List Cl} (h : partBB (1, v, t, R, C, l) = true) : v = 0 ∧ R = 0 ∧ C = 0 ∧ l = [] := by
  simp [partBB, partB, noneB] at h
  exact ⟨h.1, h.2.1.1, h.2.1.2, h.2.2⟩
theorem partBB_item {v : Int} {t : List Sg} {R C : Int} {l : List Cl} (h : partBB (2, v, t, R, C, l) = true) : R = 0 ∧ C = 0 ∧ l = [] := by
  simp [partBB, partB, noneB] at h
  exact ⟨h.1.1, h.1.2, h.2⟩
theorem partBB_sheet {v : Int} {t : List Sg} {R C : Int} {l : List Cl} (h : partBB (3, v, t, R, C, l) = true) : v = 0 ∧ t = [] := by
  simp [partBB, partB] at h
  exact h
end Go.Proofs.Ytoliebgdlnjahaa
namespace Go.Proofs.Ytoliebgdlnjahaa
open Go.RowKit

/-- A value that owns a list of ints. -/
def OwnI (w : World) (B : Nat) (v : Value) (ns : List Int) : Prop := w.ownsRow B 3 1 v ns.length (ns.map (Value.int .i64))
theorem OwnI.shape {w : World} {B : Nat} {v : Value} {ns : List Int} (h : OwnI w B v ns) : ∃ a cap, v = .slice a ns.length cap := by
  have h' := h
  unfold OwnI at h'
  rcases h'.2 with ⟨rfl, h0⟩ | ⟨g, cap, cur, rfl, r⟩
  · exact ⟨none, 0, by rw [h0]⟩
  · exact ⟨_, _, rfl⟩
theorem OwnI.below {w w' : World} {B : Nat} {v : Value} {l : List Int} (h : OwnI w B v l) (hb : Below w.heap.size w w') : OwnI w' B v l := own_below h hb
theorem OwnI.base {w : World} {B B' : Nat} {v : Value} {l : List Int} (h : OwnI w B' v l) (hB : B ≤ B') : OwnI w B v l :=
  ⟨h.1, h.2.elim .inl (fun ⟨g, cap, cur, x, y, z⟩ => .inr ⟨g, cap, cur, x, Nat.le_trans hB y, z⟩)⟩
theorem OwnI.nil (w : World) (B : Nat) : OwnI w B (.slice none 0 0) [] := World.ownsRow_nil _ _ _ _
theorem OwnI.alloc {w : World} {B : Nat} {v : Value} {l : List Int} (h : OwnI w B v l) (o : Obj) : OwnI (w.alloc o) B v l := World.ownsRow.alloc h o
theorem OwnI.len {w : World} {B : Nat} {a : Option Addr} {n cap : Nat} {l : List Int} (h : OwnI w B (.slice a n cap) l) : n = l.length := by
  obtain ⟨a', c', he⟩ := h.shape
  simp only [Value.slice.injEq] at he
  exact he.2.1
theorem OwnI.row {w : World} {B : Nat} {a : Option Addr} {n cap : Nat} {l : List Int} (h : OwnI w B (.slice a n cap) l) : w.ownsRow B 3 1 (.slice a n cap) n (l.map (Value.int .i64)) := by
  have := h.len
  subst this
  exact h
theorem ownI_step {B : Nat} {w wr w1 : World} {a : Option Addr} {k c : Nat} {v' : Value} {l : List Int} {x : Int} {o : Obj} (ho : OwnI wr B (.slice a k c) l) (hbl : Below B w wr) (hB : B ≤ wr.heap.size)
    (hown : w1.ownsRow B 3 1 v' (k + 1) (l.map (Value.int .i64) ++ [.int .i64 x])) (hgrow : (wr.alloc o).grownBy w1 (Value.slice a k c).ownBlock) :
    ∃ a' c', v' = .slice a' (k + 1) c' ∧ OwnI w1 B (.slice a' (k + 1) c') (l ++ [x]) ∧ Below B w w1 := by
  have hk := ho.len
  have h1 : OwnI w1 B v' (l ++ [x]) := by
    unfold OwnI
    rw [List.length_append, List.map_append, show l.length + [x].length = k + 1 by simp; omega]
    exact hown
  obtain ⟨a', c', rfl⟩ := h1.shape
  have e : (l ++ [x]).length = k + 1 := by simp; omega
  rw [e] at h1 ⊢
  refine ⟨a', c', rfl, h1, ?_⟩
  exact (hbl.alloc hB _).grown hgrow (by simp; omega) (fun q hq => (ho.row.lt q hq).1)
theorem cell_new1 (w : World) (x : Value) (t : TypeId) : ∀ j u, [x][j]? = some u → (w.alloc (.cells #[x] t)).cell? ((⟨w.heap.size, 0, none⟩ : Addr).add j) = some u := by
  intro j u hj
  match j, hj with
  | 0, hj => simp at hj; subst hj; simp [Addr.add]
  | (j + 1), hj => simp at hj
theorem int_oneCell (x : Int) : ∀ u ∈ [Value.int .i64 x], u.oneCell' = true := by
  intro u hu
  simp at hu
  subst hu
  rfl
theorem Try.info3 : (Try.prog.info? 3).map (fun i => (i.zero, i.size, i.bytes)) = some (some (.int .i64 0), 1, 8) := by kernel_rfl
/-- A slice value that reads as the ints l. -/
def Ints (w : World) (a : Option Addr) (n cap : Nat) (l : List Int) : Prop :=
  n = l.length ∧ n ≤ cap ∧ cap ≤ maxLen ∧ (l = [] ∨ ∃ b off, a = some ⟨b, off, none⟩ ∧ b < w.heap.size ∧ ∀ i, i < l.length → w.cell? ⟨b, off + i, none⟩ = some (.int .i64 (l.getD i 0)))
theorem Ints.below {w w' : World} {a : Option Addr} {n cap : Nat} {l : List Int} (h : Ints w a n cap l) (hb : Below w.heap.size w w') : Ints w' a n cap l := by
  obtain ⟨h1, h2, h3, h4⟩ := h
  refine ⟨h1, h2, h3, ?_⟩
  rcases h4 with h4 | ⟨b, off, h5, h6, h7⟩
  · exact .inl h4
  · exact .inr ⟨b, off, h5, Nat.lt_of_lt_of_le h6 hb.size, fun i hi => (hb.cell (p := ⟨b, _, none⟩) h6).trans (h7 i hi)⟩
theorem OwnI.ints {w : World} {B : Nat} {a : Option Addr} {n cap : Nat} {l : List Int} (h : OwnI w B (.slice a n cap) l) : Ints w a n cap l := by
  have hn := h.len
  have hr := h.row
  rcases hr.2 with ⟨hv, h0⟩ | ⟨g, cap', cur, hv, hB, hg, hnc, hcm, _⟩
  · simp only [Value.slice.injEq] at hv
    obtain ⟨rfl, rfl, rfl⟩ := hv
    exact ⟨hn, Nat.le_refl _, Nat.zero_le _, .inl (List.eq_nil_of_length_eq_zero hn.symm)⟩
  · simp only [Value.slice.injEq, true_and] at hv
    obtain ⟨rfl, rfl⟩ := hv
    refine ⟨hn, hnc, hcm, .inr ⟨g, 0, rfl, (Array.getElem?_eq_some_iff.1 hg).1, fun i hi => ?_⟩⟩
    rw [Nat.zero_add, hr.cellAt i (by omega), List.getElem?_map, List.getElem?_eq_getElem hi]
    simp [List.getD, hi]
theorem OwnI.shapeL {w : World} {B : Nat} {v : Value} {l : List Int} (h : OwnI w B v l) : ∃ a n cap, v = .slice a n cap ∧ n = l.length := by
  obtain ⟨a, cap, rfl⟩ := h.shape
  exact ⟨a, _, cap, rfl, rfl⟩

/-! Plain facts. -/
end Go.Proofs.Ytoliebgdlnjahaa
namespace Go.Proofs.Ytoliebgdlnjahaa
open Go.RowKit

/-- How many items there are of each level. -/
abbrev Cn := Int × Int × Int × Int
def cnA (c : Cn) : Array Value := #[.int .i64 c.1, .int .i64 c.2.1, .int .i64 c.2.2.1, .int .i64 c.2.2.2]
/-- The counts behind a block of a level. -/
def withC (c : Cn) (v : Int) : Cn :=
  if v = 0 then (c.1 + 1, 0, 0, 0) else if v = 1 then (c.1, c.2.1 + 1, 0, 0) else if v = 2 then (c.1, c.2.1, c.2.2.1 + 1, 0) else if v = 3 then (c.1, c.2.1, c.2.2.1, c.2.2.2 + 1) else (0, 0, 0, 0)
theorem counts_info : (Try.prog.info? 70).map (·.size) = some 4 := by kernel_rfl
theorem cells4_one (a b c d : Int) : (#[Value.int .i64 a, .int .i64 b, .int .i64 c, .int .i64 d] : Array Value).all (·.oneCell') = true := by simp [Value.oneCell']
theorem rowAt_two (w : World) (o : Obj) (cs : Array Value) (ty : TypeId) : RowAt ((w.alloc o).alloc (.cells cs ty)) (w.heap.size + 1) cs ty := by
  have := rowAt_new (w.alloc o) cs ty
  simpa using this
set_option maxRecDepth 100000 in
set_option maxHeartbeats 8000000 in
theorem with_any {c0 c1 c2 c3 v : Int} {w : World} (hv : v = -1 ∨ v = 0 ∨ v = 1 ∨ v = 2 ∨ v = 3) (h0 : 0 ≤ c0 ∧ c0 ≤ 1000) (h1 : 0 ≤ c1 ∧ c1 ≤ 1000) (h2 : 0 ≤ c2 ∧ c2 ≤ 1000) (h3 : 0 ≤ c3 ∧ c3 ≤ 1000) :
    Calls Try.prog 35 #[.agg #[.int .i64 c0, .int .i64 c1, .int .i64 c2, .int .i64 c3], .int .i64 v] w fun e w' => e = .returned (.agg (cnA (withC (c0, c1, c2, c3) v))) ∧ Below w.heap.size w w' := by
  obtain ⟨h00, h01⟩ := h0
  obtain ⟨h10, h11⟩ := h1
  obtain ⟨h20, h21⟩ := h2
  obtain ⟨h30, h31⟩ := h3
  rcases hv with rfl | rfl | rfl | rfl | rfl
  · go_enter Try.func35, Try.ntmps35
    go_wp2_with fail
    refine wp_loop_rounds 5 ?_
    rw [rounds_succ]
    go_wp2_with fail
    rw [rounds_succ]
    go_wp2_with fail
    rw [rounds_succ]
    go_wp2_with fail
    rw [rounds_succ]
    go_wp2_with fail
    rw [rounds_succ]
    go_wp2_with fail
    refine bodyPost_ret (v := .agg #[.int .i64 0, .int .i64 0, .int .i64 0, .int .i64 0]) (results_cell_row (p := 4) (ty := 70) rfl _ _ (w.heap.size + 1) 70 _ _ _ rfl (rowAt_two _ _ _ _) Try.underlying70 rfl counts_info) rfl ⟨rfl, ((Below.refl _ _).alloc (Nat.le_refl _) _).alloc (by simp) _⟩
  · go_enter Try.func35, Try.ntmps35
    go_wp2_with fail
    refine wp_loop_rounds 4 ?_
    rw [rounds_succ]
    go_wp2_with fail
    rw [rounds_succ]
    go_wp2_with fail
    rw [rounds_succ]
    go_wp2_with fail
    rw [rounds_succ]
    go_wp2_with fail
    refine bodyPost_ret (v := .agg #[.int .i64 (c0 + 1), .int .i64 0, .int .i64 0, .int .i64 0]) (results_cell_row (p := 4) (ty := 70) rfl _ _ (w.heap.size + 1) 70 _ _ _ rfl (rowAt_two _ _ _ _) Try.underlying70 rfl counts_info) rfl ⟨rfl, ((Below.refl _ _).alloc (Nat.le_refl _) _).alloc (by simp) _⟩
  · go_enter Try.func35, Try.ntmps35
    go_wp2_with fail
    refine wp_loop_rounds 3 ?_
    rw [rounds_succ]
    go_wp2_with fail
    rw [rounds_succ]
    go_wp2_with fail
    rw [rounds_succ]
    go_wp2_with fail
    refine bodyPost_ret (v := .agg #[.int .i64 c0, .int .i64 (c1 + 1), .int .i64 0, .int .i64 0]) (results_cell_row (p := 4) (ty := 70) rfl _ _ (w.heap.size + 1) 70 _ _ _ rfl (rowAt_two _ _ _ _) Try.underlying70 rfl counts_info) rfl ⟨rfl, ((Below.refl _ _).alloc (Nat.le_refl _) _).alloc (by simp) _⟩
  · go_enter Try.func35, Try.ntmps35
    go_wp2_with fail
    refine wp_loop_rounds 2 ?_
    rw [rounds_succ]
    go_wp2_with fail
    rw [rounds_succ]
    go_wp2_with fail
    refine bodyPost_ret (v := .agg #[.int .i64 c0, .int .i64 c1, .int .i64 (c2 + 1), .int .i64 0]) (results_cell_row (p := 4) (ty := 70) rfl _ _ (w.heap.size + 1) 70 _ _ _ rfl (rowAt_two _ _ _ _) Try.underlying70 rfl counts_info) rfl ⟨rfl, ((Below.refl _ _).alloc (Nat.le_refl _) _).alloc (by simp) _⟩
  · go_enter Try.func35, Try.ntmps35
    go_wp2_with fail
    refine wp_loop_rounds 1 ?_
    rw [rounds_succ]
    go_wp2_with fail
    refine bodyPost_ret (v := .agg #[.int .i64 c0, .int .i64 c1, .int .i64 c2, .int .i64 (c3 + 1)]) (results_cell_row (p := 4) (ty := 70) rfl _ _ (w.heap.size + 1) 70 _ _ _ rfl (rowAt_two _ _ _ _) Try.underlying70 rfl counts_info) rfl ⟨rfl, ((Below.refl _ _).alloc (Nat.le_refl _) _).alloc (by simp) _⟩
/-- Ints that lie behind one another. -/
def IntsAt (w : World) (b off : Nat) (l : List Int) : Prop := ∀ k, k < l.length → w.cell? ⟨b, off + k, none⟩ = some (.int .i64 (l.getD k 0))
set_option maxHeartbeats 2000000 in
theorem copiedInt_any {b n cap : Nat} {l : List Int} {w : World} (h : IntsAt w b 0 l) (hn : n = l.length) (hl : n ≤ 100) (hc : n ≤ cap) :
    Calls Try.prog 36 #[.slice (some ⟨b, 0, none⟩) n cap] w fun e w' => (∃ p q, e = .returned (.slice p n q) ∧ OwnI w' w.heap.size (.slice p n q) l) ∧ Below w.heap.size w w' := by
  have H : Hid (IntsAt w b 0 l) := h
  have HN : Hid (n = l.length) := hn
  clear h hn
  obtain ⟨i0, hi, hz0, hz1, hz2⟩ := info_parts Try.info3
  by_cases h0 : n = 0
  · subst h0
    have hle : l = [] := List.eq_nil_of_length_eq_zero HN.out.symm
    go_enter Try.func36, Try.ntmps36
    go_wp2_with (at_builtin; refine wpList_append_empty rfl (.const (.slice none 0 0)) (.tmp 3) 40 rfl w.heap.size 3 i0 1 Try.underlying40 hi (.slice none 0 0) 0 [] rfl (World.ownsRow_nil _ _ _ _) (some ⟨b, 0, none⟩) cap rfl ?_)
    go_ret
    exact ⟨⟨none, 0, rfl, by rw [hle]; exact World.ownsRow_nil _ _ _ _⟩, Below.refl _ _⟩
  · have HNW : Hid (∀ j u, (l.map (Value.int .i64))[j]? = some u → w.cell? ((⟨b, 0, none⟩ : Addr).add j) = some u) := fun j u hj => by
      have hlt : j < l.length := by
        have := (List.getElem?_eq_some_iff.1 hj).1
        simpa using this
      have h1 := H.out j hlt
      rw [List.getElem?_map, List.getElem?_eq_getElem hlt] at hj
      simp at hj
      rw [Addr.add_lit, h1, ← hj]
      simp [List.getD, hlt]
    have HONE : Hid (∀ u ∈ l.map (Value.int .i64), u.oneCell' = true) := fun u hu => by
      obtain ⟨x, -, rfl⟩ := List.mem_map.1 hu
      rfl
    go_enter Try.func36, Try.ntmps36
    go_wp2_with (at_builtin; refine wpList_append_own w rfl (.const (.slice none 0 0)) (.tmp 3) 40 rfl w.heap.size 3 i0 _ 1 8 Try.underlying40 hi hz0 hz1 hz2 rfl (by decide) (.slice none 0 0) 0 [] rfl (World.ownsRow_nil _ _ _ _) ⟨b, 0, none⟩ n cap (l.map (Value.int .i64)) rfl (by rw [List.length_map, HN.out]; omega) HNW.out HONE.out (by unfold maxLen; omega) (by omega) (Nat.le_refl _) ?_; intro v' w1 hown hgrow _)
    go_ret
    have hb : Below w.heap.size w w1 := (Below.refl _ _).grown hgrow (Nat.le_refl _) (fun k hk => by simp [Value.ownBlock] at hk)
    have ho : OwnI w1 w.heap.size v' l := by
      unfold OwnI
      rw [← HN.out]
      simpa using hown
    rcases ho.2 with ⟨rfl, hz⟩ | ⟨g, cap', cur, rfl, r⟩
    · exfalso
      have := HN.out
      omega
    · refine ⟨⟨_, _, by rw [HN.out]; rfl, ?_⟩, hb⟩
      rw [HN.out]
      exact ho
end Go.Proofs.Ytoliebgdlnjahaa
namespace Go.Proofs.Ytoliebgdlnjahaa
open Go.RowKit

/-- A list of parts of which one is read. -/
theorem ownP_at {w : World} {B : Nat} {pa : Option Addr} {n pc : Nat} {ps : List Value} (h : OwnP w B (.slice pa n pc) ps) {i : Nat} (hi : i < n) : ∃ g, pa = some ⟨g, 0, none⟩ ∧ B ≤ g ∧ g < w.heap.size ∧ w.cell? ⟨g, i, none⟩ = some (ps.getD i .nilIface) ∧ w.frozen? ⟨g, i, none⟩ = false := by
  have hr := h.row
  rcases hr.2 with ⟨hv, h0⟩ | ⟨g, cap, cur, hv, hg, hgg, _⟩
  · omega
  · simp only [Value.slice.injEq] at hv
    obtain ⟨rfl, -, rfl⟩ := hv
    refine ⟨g, rfl, hg, (Array.getElem?_eq_some_iff.1 hgg).1, ?_, hr.frozenAt i⟩
    have := hr.cellAt i (by omega)
    rw [this]
    have hl : i < ps.length := by rw [← h.len]; exact hi
    simp [List.getD, hl]
theorem levelOf_part {K V : Int} {ta : Option Addr} {tn tc : Nat} {R C : Int} {ca : Option Addr} {cn cc : Nat} {v : Int} {w : World} (hk : K = 1 ∨ K = 2 ∨ K = 3) (hv : (if K = 2 then V else -1) = v) :
    Calls Try.prog 34 #[partV K V ta tn tc R C ca cn cc] w fun e w' => e = .returned (.int .i64 v) ∧ Below w.heap.size w w' := by
  subst hv
  rcases hk with rfl | rfl | rfl
  · exact levelOf_para ta tn tc w
  · exact levelOf_item V ta tn tc w
  · exact levelOf_sheet R C ca cn cc w
end Go.Proofs.Ytoliebgdlnjahaa
namespace Go.Proofs.Ytoliebgdlnjahaa
open Go.RowKit

/-- Between B and E nothing but rows of lists has turned. -/
def KeptN (B E : Nat) (w w' : World) : Prop := ∀ b cs ty, B ≤ b → b < E → ty ≠ 40 → RowAt w b cs ty → RowAt w' b cs ty
theorem own_keptN {w w' : World} {B E e size n : Nat} {v : Value} {xs : List Value} (h : w.ownsRow B e size v n xs) (he : e ≠ 40) (hv : ∀ g, v.ownBlock = some g → g < E) (ho : KeptN B E w w') : w'.ownsRow B e size v n xs := by
  refine ⟨h.1, ?_⟩
  rcases h.2 with hn | ⟨g, cap, cur, rfl, hg, hgg, rest⟩
  · exact .inl hn
  · exact .inr ⟨g, cap, cur, rfl, hg, ho g cur e hg (hv g rfl) he hgg, rest⟩
theorem keptN_grown {w w' : World} {q : Option Nat} (hq : ∀ g, q = some g → ∃ cur, RowAt w g cur 40) (hg : w.grownBy w' q) (B E : Nat) : KeptN B E w w' := fun b cs ty _ _ hty hr => hr.grown hg (fun e => by
  obtain ⟨cur, h⟩ := hq b e
  unfold RowAt at h hr
  rw [hr] at h
  simp only [Option.some.injEq, Obj.cells.injEq] at h
  exact hty h.2.1)
/-- Lists of ints, each its own, one behind the other. -/
def NsOwn (w : World) (B E : Nat) (vs : List Value) (nss : List (List Int)) : Prop :=
  vs.length = nss.length ∧ ∃ lo hi : Nat → Nat, (∀ k, k < nss.length → B ≤ lo k ∧ hi k ≤ E ∧ OwnI w (lo k) (vs.getD k .nilIface) (nss.getD k []) ∧ (∀ g, (vs.getD k .nilIface).ownBlock = some g → g < hi k) ∧ lo k ≤ hi k) ∧ ∀ k, k + 1 < nss.length → hi k ≤ lo (k + 1)
/-- A list of lists of ints, all their own, between B and E. -/
def NnOwn (w : World) (B E : Nat) (v : Value) (vs : List Value) (nss : List (List Int)) : Prop := w.ownsRow B 40 1 v vs.length vs ∧ (∀ g, v.ownBlock = some g → g < E) ∧ NsOwn w B E vs nss
theorem NsOwn.nil (w : World) (B E : Nat) : NsOwn w B E [] [] := ⟨rfl, fun _ => 0, fun _ => 0, fun k hk => absurd hk (by simp), fun k hk => absurd hk (by simp)⟩
theorem NnOwn.nil (w : World) (B E : Nat) : NnOwn w B E (.slice none 0 0) [] [] := ⟨World.ownsRow_nil _ _ _ _, fun g hg => by simp [Value.ownBlock] at hg, NsOwn.nil _ _ _⟩
theorem NsOwn.kept {w w' : World} {B E : Nat} {vs : List Value} {nss : List (List Int)} (h : NsOwn w B E vs nss) (ho : KeptN B E w w') : NsOwn w' B E vs nss := by
  obtain ⟨h0, lo, hi, h1, h2⟩ := h
  refine ⟨h0, lo, hi, fun k hk => ?_, h2⟩
  obtain ⟨a, b, c, e, f⟩ := h1 k hk
  exact ⟨a, b, own_keptN c (by decide) e (fun g cs ty hg hg' => ho g cs ty (by omega) (by omega)), e, f⟩
theorem NsOwn.snoc {w : World} {B E E' : Nat} {vs : List Value} {nss : List (List Int)} {x : Value} {y : List Int} (h : NsOwn w B E vs nss) (hB : B ≤ E) (hx : OwnI w E x y) (hg : ∀ g, x.ownBlock = some g → g < E') (hE : E ≤ E') : NsOwn w B E' (vs ++ [x]) (nss ++ [y]) := by
  obtain ⟨h0, lo, hi, h1, h2⟩ := h
  refine ⟨by simp [h0], fun k => if k < nss.length then lo k else E, fun k => if k < nss.length then hi k else E', fun k hk => ?_, fun k hk => ?_⟩
  · by_cases hlt : k < nss.length
    · have e1 : (vs ++ [x]).getD k .nilIface = vs.getD k .nilIface := by simp [List.getD, List.getElem?_append_left (show k < vs.length by rw [h0]; exact hlt)]
      have e2 : (nss ++ [y]).getD k [] = nss.getD k [] := by simp [List.getD, List.getElem?_append_left hlt]
      rw [e1, e2]
      simp only [if_pos hlt]
      obtain ⟨a, b, c, e, f⟩ := h1 k hlt
      exact ⟨a, by omega, c, e, f⟩
    · have ek : k = nss.length := by simp at hk; omega
      subst ek
      have e1 : (vs ++ [x]).getD nss.length .nilIface = x := by simp [List.getD, ← h0]
      have e2 : (nss ++ [y]).getD nss.length [] = y := by simp [List.getD]
      rw [e1, e2]
      simp only [if_neg hlt]
      exact ⟨hB, Nat.le_refl _, hx, hg, hE⟩
  · by_cases hlt : k + 1 < nss.length
    · simp only [if_pos hlt, if_pos (show k < nss.length by omega)]
      exact h2 k hlt
    · have ek : k + 1 = nss.length := by simp at hk; omega
      have hk' : k < nss.length := by omega
      simp only [if_neg hlt, if_pos hk']
      exact (h1 k hk').2.1
theorem NsOwn.grow {w : World} {B E E' : Nat} {vs : List Value} {nss : List (List Int)} (h : NsOwn w B E vs nss) (hE : E ≤ E') : NsOwn w B E' vs nss := by
  obtain ⟨h0, lo, hi, h1, h2⟩ := h
  refine ⟨h0, lo, hi, fun k hk => ?_, h2⟩
  obtain ⟨a, b, c⟩ := h1 k hk
  exact ⟨a, by omega, c⟩
theorem NnOwn.below {w w' : World} {B E : Nat} {v : Value} {vs : List Value} {nss : List (List Int)} (h : NnOwn w B E v vs nss) (hE : E ≤ w.heap.size) (hb : Below w.heap.size w w') : NnOwn w' B E v vs nss :=
  ⟨own_below h.1 hb, h.2.1, h.2.2.kept (fun b _ _ _ hb' _ hr => (hb.block b (by omega)).trans hr)⟩
theorem nnOwn_snoc {B E E' : Nat} {u3 u4 : World} {v v' : Value} {vs : List Value} {nss : List (List Int)} {x : Value} {y : List Int} {n : Nat} (h : NnOwn u3 B E v vs nss) (hn : n = nss.length) (hx : OwnI u3 E x y) (hg : ∀ g, x.ownBlock = some g → g < E') (hB : B ≤ E) (hE : E ≤ E') (hE4 : E' ≤ u4.heap.size)
    (hown : u4.ownsRow B 40 1 v' (n + 1) (vs ++ [x])) (hgrow : u3.grownBy u4 v.ownBlock) : NnOwn u4 B u4.heap.size v' (vs ++ [x]) (nss ++ [y]) := by
  have hk : ∀ B E, KeptN B E u3 u4 := fun B E => keptN_grown (own_rowAts h.1) hgrow B E
  refine ⟨?_, fun g hg => (own_lt hown hg).2, ((h.2.2.kept (hk _ _)).snoc hB (own_keptN hx (by decide) hg (hk _ _)) hg hE).grow hE4⟩
  have hl := h.2.2.1
  rw [List.length_append, List.length_singleton, hl, ← hn]
  exact hown
/-- The counts behind the first i blocks. -/
def cnD (d : List Bl) : Nat → Cn
  | 0 => (0, 0, 0, 0)
  | i + 1 => withC (cnD d i) (lvN (d.getD i bl0))
def cnL (c : Cn) : List Int := [c.1, c.2.1, c.2.2.1, c.2.2.2]
/-- The numbers of a block. -/
def numK (d : List Bl) (k : Nat) : List Int := (cnL (cnD d (k + 1))).take (lvN (d.getD k bl0) + 1).toNat
def numsL (d : List Bl) (i : Nat) : List (List Int) := (List.range i).map (numK d)
def CnOk (c : Cn) (m : Int) : Prop := (0 ≤ c.1 ∧ c.1 ≤ m) ∧ (0 ≤ c.2.1 ∧ c.2.1 ≤ m) ∧ (0 ≤ c.2.2.1 ∧ c.2.2.1 ≤ m) ∧ (0 ≤ c.2.2.2 ∧ c.2.2.2 ≤ m)
theorem withC_ok {c : Cn} {m v : Int} (h : CnOk c m) (hm : 0 ≤ m) : CnOk (withC c v) (m + 1) := by
  obtain ⟨h0, h1, h2, h3⟩ := h
  unfold withC CnOk
  split
  · simp only; omega
  · split
    · simp only; omega
    · split
      · simp only; omega
      · split
        · simp only; omega
        · simp only; omega
theorem cnD_ok (d : List Bl) : ∀ i : Nat, CnOk (cnD d i) i
  | 0 => by simp [cnD, CnOk]
  | i + 1 => by
    have := withC_ok (v := lvN (d.getD i bl0)) (cnD_ok d i) (by omega)
    exact this
end Go.Proofs.Ytoliebgdlnjahaa
namespace Go.Proofs.Ytoliebgdlnjahaa
open Go.RowKit

/-- A slice value that reads as lists of ints. -/
def Nn (w : World) (a : Option Addr) (n cap : Nat) (nss : List (List Int)) : Prop :=
  n = nss.length ∧ n ≤ cap ∧ cap ≤ maxLen ∧ (nss = [] ∨ ∃ b off, a = some ⟨b, off, none⟩ ∧ b < w.heap.size ∧ ∀ k, k < nss.length → ∃ p m q, w.cell? ⟨b, off + k, none⟩ = some (.slice p m q) ∧ Ints w p m q (nss.getD k []))
theorem Nn.below {w w' : World} {a : Option Addr} {n cap : Nat} {nss : List (List Int)} (h : Nn w a n cap nss) (hb : Below w.heap.size w w') : Nn w' a n cap nss := by
  obtain ⟨h1, h2, h3, h4⟩ := h
  refine ⟨h1, h2, h3, ?_⟩
  rcases h4 with h4 | ⟨b, off, h5, h6, h7⟩
  · exact .inl h4
  · refine .inr ⟨b, off, h5, Nat.lt_of_lt_of_le h6 hb.size, fun k hk => ?_⟩
    obtain ⟨p, m, q, h8, h9⟩ := h7 k hk
    exact ⟨p, m, q, (hb.cell (p := ⟨b, _, none⟩) h6).trans h8, h9.below hb⟩
theorem NnOwn.len {w : World} {B E : Nat} {a : Option Addr} {n c : Nat} {vs : List Value} {nss : List (List Int)} (h : NnOwn w B E (.slice a n c) vs nss) : n = nss.length := by
  have h1 := h.2.2.1
  rcases h.1.2 with ⟨hv, h0⟩ | ⟨g, cap, cur, hv, _⟩
  · simp only [Value.slice.injEq] at hv
    omega
  · simp only [Value.slice.injEq] at hv
    omega
theorem NnOwn.nn {w : World} {B E : Nat} {a : Option Addr} {n c : Nat} {vs : List Value} {nss : List (List Int)} (h : NnOwn w B E (.slice a n c) vs nss) : Nn w a n c nss := by
  have hn := h.len
  have hl := h.2.2.1
  have hr := h.1
  rcases hr.2 with ⟨hv, h0⟩ | ⟨g, cap, cur, hv, hg, hgg, a1, a2, _⟩
  · cases hv
    exact ⟨hn, Nat.le_refl _, by unfold maxLen; omega, .inl (List.eq_nil_of_length_eq_zero (by omega))⟩
  · simp only [Value.slice.injEq] at hv
    obtain ⟨rfl, h6, rfl⟩ := hv
    rw [← h6] at hr
    refine ⟨hn, by omega, a2, .inr ⟨g, 0, rfl, (Array.getElem?_eq_some_iff.1 hgg).1, fun k hk => ?_⟩⟩
    obtain ⟨lo, hi, h1, -⟩ := h.2.2.2
    obtain ⟨-, -, ho, -, -⟩ := h1 k hk
    obtain ⟨p, m, q, e, -⟩ := ho.shapeL
    refine ⟨p, m, q, ?_, ?_⟩
    · have hkv : k < vs.length := by omega
      rw [Nat.zero_add, hr.cellAt k (by omega), ← e]
      simp [List.getD, hkv]
    · rw [e] at ho
      exact ho.ints
end Go.Proofs.Ytoliebgdlnjahaa
namespace Go.Proofs.Ytoliebgdlnjahaa
open Go.RowKit

theorem outl_iff (d : List Bl) : outlB d = true ↔ d.length ≤ 8 ∧ ∀ k, k < d.length → partOkB (d.getD k bl0) = true ∧ lvN (d.getD k bl0) ≤ aheadN d k + 1 := by
  unfold outlB
  rw [Bool.and_eq_true, decide_eq_true_eq, List.all_eq_true]
  constructor
  · rintro ⟨h1, h2⟩
    refine ⟨h1, fun k hk => ?_⟩
    have := h2 k (List.mem_range.2 hk)
    unfold outK at this
    rw [Bool.and_eq_true] at this
    refine ⟨this.1, ?_⟩
    have h3 := this.2
    rw [Bool.not_eq_true', decide_eq_false_iff_not] at h3
    omega
  · rintro ⟨h1, h2⟩
    refine ⟨h1, fun k hk => ?_⟩
    obtain ⟨h3, h4⟩ := h2 k (List.mem_range.1 hk)
    unfold outK
    rw [Bool.and_eq_true]
    refine ⟨h3, ?_⟩
    rw [Bool.not_eq_true', decide_eq_false_iff_not]
    omega
end Go.Proofs.Ytoliebgdlnjahaa
namespace Go.Proofs.Ytoliebgdlnjahaa
open Go.RowKit

/-- What the specification's 'now' is ahead of block i. -/
def nowD (d : List Bl) (i : Nat) : List Int := (cnL (cnD d i)).take (aheadN d i + 1).toNat
theorem nowD_zero (d : List Bl) : nowD d 0 = [] := by
  unfold nowD aheadN
  simp
theorem nowD_succ (d : List Bl) (i : Nat) : nowD d (i + 1) = numK d i := by
  unfold nowD aheadN numK
  rw [if_neg (by omega), Nat.add_sub_cancel]
theorem nowD_len {d : List Bl} {i : Nat} (h : -1 ≤ aheadN d i ∧ aheadN d i ≤ 3) : ((nowD d i).length : Int) = aheadN d i + 1 := by
  unfold nowD
  rw [List.length_take]
  simp [cnL]
  omega
theorem withC_zero {c : Cn} {v : Int} (k : Nat) (hk : v < k) (h0 : -1 ≤ v) : (cnL (withC c v)).getD k 0 = 0 := by
  unfold withC
  by_cases h4 : 4 ≤ k
  · simp [List.getD, List.getElem?_eq_none (show (cnL _).length ≤ k by simp [cnL]; omega)]
  · rcases (show k = 0 ∨ k = 1 ∨ k = 2 ∨ k = 3 by omega) with rfl | rfl | rfl | rfl
    · rw [if_neg (by omega), if_neg (by omega), if_neg (by omega), if_neg (by omega)]; rfl
    · by_cases e : v = 0
      · rw [if_pos e]; rfl
      · rw [if_neg e, if_neg (by omega), if_neg (by omega), if_neg (by omega)]; rfl
    · by_cases e : v = 0
      · rw [if_pos e]; rfl
      · rw [if_neg e]
        by_cases e1 : v = 1
        · rw [if_pos e1]; rfl
        · rw [if_neg e1, if_neg (by omega), if_neg (by omega)]; rfl
    · by_cases e : v = 0
      · rw [if_pos e]; rfl
      · rw [if_neg e]
        by_cases e1 : v = 1
        · rw [if_pos e1]; rfl
        · rw [if_neg e1]
          by_cases e2 : v = 2
          · rw [if_pos e2]; rfl
          · rw [if_neg e2, if_neg (by omega)]; rfl
/-- Deeper than the block ahead nothing is counted. -/
theorem cnD_deep {d : List Bl} {i : Nat} (h : -1 ≤ aheadN d i) (k : Nat) (hk : aheadN d i < k) : (cnL (cnD d i)).getD k 0 = 0 := by
  rcases i with _ | j
  · by_cases h4 : 4 ≤ k
    · simp [List.getD, List.getElem?_eq_none (show (cnL (cnD d 0)).length ≤ k by simp [cnL]; omega)]
    · rcases (show k = 0 ∨ k = 1 ∨ k = 2 ∨ k = 3 by omega) with rfl | rfl | rfl | rfl <;> rfl
  · have e : aheadN d (j + 1) = lvN (d.getD j bl0) := by
      unfold aheadN
      rw [if_neg (by omega), Nat.add_sub_cancel]
    rw [e] at h hk
    exact withC_zero k hk h
/-- The numbers of an item: those ahead of it, one more at its level. -/
theorem numK_of {c : Cn} {v : Nat} (hv : v ≤ 3) : ((cnL c).take (v + 1)).set v ((cnL c).getD v 0 + 1) = (cnL (withC c v)).take (v + 1) := by
  obtain ⟨c0, c1, c2, c3⟩ := c
  rcases (show v = 0 ∨ v = 1 ∨ v = 2 ∨ v = 3 by omega) with rfl | rfl | rfl | rfl <;> simp [cnL, withC]
theorem take_snoc_zero {l : List Int} {v : Nat} (hv : v < l.length) (h0 : l.getD v 0 = 0) : l.take v ++ [0] = l.take (v + 1) := by
  rw [List.take_succ_eq_append_getElem hv]
  have : l[v] = 0 := by simpa [List.getD, hv] using h0
  rw [this]
theorem ints_one {w : World} {p : Option Addr} {m c : Nat} {l : List Int} (h : Ints w p m c l) (b off : Nat) (hp : p = some ⟨b, off, none⟩) (hl : l ≠ []) : ∀ j u, (l.map (Value.int .i64))[j]? = some u → w.cell? ((⟨b, off, none⟩ : Addr).add j) = some u := by
  intro j u hj
  obtain ⟨h1, h2, h3, h4⟩ := h
  have hlt : j < l.length := by
    have := (List.getElem?_eq_some_iff.1 hj).1
    simpa using this
  rcases h4 with h4 | ⟨b', off', e, hb, h5⟩
  · exact absurd h4 hl
  · rw [hp] at e
    simp only [Option.some.injEq, Addr.mk.injEq, and_true] at e
    obtain ⟨rfl, rfl⟩ := e
    have h6 := h5 j hlt
    rw [List.getElem?_map, List.getElem?_eq_getElem hlt] at hj
    simp at hj
    rw [Addr.add_lit, h6, ← hj]
    simp [List.getD, hlt]
end Go.Proofs.Ytoliebgdlnjahaa
namespace Go.Proofs.Ytoliebgdlnjahaa
open Go.RowKit

theorem Try.info40 : (Try.prog.info? 40).map (fun i => (i.zero, i.size, i.bytes)) = some (some (.slice none 0 0), 1, 24) := by kernel_rfl
theorem own_shp {w : World} {B e size n : Nat} {v : Value} {xs : List Value} (h : w.ownsRow B e size v n xs) : ∃ a c, v = .slice a n c := by
  rcases h.2 with ⟨rfl, h0⟩ | ⟨g, cap, cur, rfl, r⟩
  · exact ⟨none, 0, by rw [h0]⟩
  · exact ⟨_, _, rfl⟩
theorem counts_len : Try.prog.arrayLen 70 = 4 := by kernel_rfl
theorem counts_under : Try.prog.underlying 70 = some (.array (Try.prog.arrayLen 70) (Try.prog.elem 70)) := by kernel_rfl
theorem counts_elem : Try.prog.elem 70 = 3 := by kernel_rfl
theorem slice_counts (b m : Nat) (w : World) (hm : m ≤ 4) : (Instr.sliceAt 70 (.pointer (some ⟨b, 0, none⟩)) none (some (.int .i64 m)) none).run Try.prog w = .ok (.slice (some ⟨b, 0, none⟩) m 4) w := by
  obtain ⟨i0, hi, hz0, hz1, hz2⟩ := info_parts Try.info3
  rw [run_sliceAt_array_h w 70 ⟨b, 0, none⟩ counts_under .i64 m (by omega) (by rw [counts_len]; omega), counts_elem, counts_len]
  simp [sizeOf, typeInfo, hi, slicedAt, Result.andThen, Addr.add]
set_option maxRecDepth 100000 in
set_option maxHeartbeats 8000000 in
theorem implDocNums_any {a : Option Addr} {n cap : Nat} {d : List Bl} {w : World} (h : Dc w a n cap d) :
    Calls Try.prog 17 #[.agg #[.slice a n cap]] w fun e w' => (∃ p m q vs, e = .returned (.slice p m q) ∧ NnOwn w' w.heap.size w'.heap.size (.slice p m q) vs (if docB d = true then numsL d d.length else [])) ∧ Below w.heap.size w w' := by
  obtain ⟨i0, hi0, hz0, hz1, hz2⟩ := info_parts Try.info40
  have HN : Hid (n = d.length) := h.1
  have hc := h.2.1
  have hm := h.2.2.1
  unfold maxLen at hm
  have H : Hid (Dc w a n cap d) := h
  clear h
  obtain ⟨x, HX⟩ : ∃ x, Hid (docB d = x) := ⟨_, rfl⟩
  rw [HX.out]
  go_enter Try.func17, Try.ntmps17
  go_upto_region 1 with fail
  have B0 : Below w.heap.size w (w.alloc (.cells #[.slice a n cap] 25)) := (Below.refl _ _).alloc (Nat.le_refl _) _
  have G0 : RowAt (w.alloc (.cells #[.slice a n cap] 25)) w.heap.size #[.slice a n cap] 25 := rowAt_new _ _ _
  generalize (w.alloc (.cells #[.slice a n cap] 25)) = v0 at B0 G0 ⊢
  have k0 : v0.cell? ⟨w.heap.size, 0, none⟩ = some (.slice a n cap) := G0.cell 0
  have s0 := B0.size
  have HB0 : Hid (Below w.heap.size w v0) := B0
  have HD0 : Hid (Dc v0 a n cap d) := H.out.below B0
  clear G0 B0
  go_wp2_with fail
  refine (outlineOf_is HX.out HD0.out).mono ?_
  rintro e w1 ⟨(⟨hxx, rfl⟩ | ⟨hxx, pa, pc, ps, rfl, ho1, hp1⟩), hb1⟩
  · subst hxx
    clear k0
    go_wp2_with fail
    refine wp_loop_rounds 1 ?_
    rw [rounds_succ]
    go_wp2_with fail
    go_ret
    have hb : Below w.heap.size w (w1.alloc (.cells #[.int .i64 0, .int .i64 0, .int .i64 0, .int .i64 0] 70)) := (HB0.out.trans (hb1.mono s0)).alloc (by have := hb1.size; omega) _
    refine ⟨⟨none, 0, 0, rfl, [], ?_⟩, hb⟩
    exact NnOwn.nil _ _ _
  subst hxx
  obtain ⟨hn8', hall, hou⟩ := (doc_parts2 d).1 HX.out
  have hn8 : n ≤ 8 := by rw [HN.out]; exact hn8'
  have HK : Hid (∀ y ∈ d, kindB y) := fun y hy => partB_kind (List.all_eq_true.1 hall y hy)
  have HLV : Hid (∀ k, k < d.length → -1 ≤ lvN (d.getD k bl0) ∧ lvN (d.getD k bl0) ≤ 3) := fun k hk => lv_small (outlB_part hou hk)
  have HO1 : Hid (OwnP w1 v0.heap.size (.slice pa n pc) ps) := ho1
  have HP1 : Hid (PartsAre w1 ps d) := hp1.below hb1
  have HB1 : Hid (Below w.heap.size w w1) := HB0.out.trans (hb1.mono s0)
  have s1 := hb1.size
  have hpc : n ≤ pc ∧ pc ≤ 2 ^ 63 - 1 := by
    have hr := ho1.row
    rcases hr.2 with ⟨hv, h0⟩ | ⟨g, cap, cur, hv, hg, hgg, a1, a2, _⟩
    · simp only [Value.slice.injEq] at hv
      omega
    · simp only [Value.slice.injEq] at hv
      unfold maxLen at a2
      omega
  obtain ⟨hpc1, hpc2⟩ := hpc
  clear k0 ho1 hp1 hb1 hall hou hn8'
  go_upto_region 4 with fail
  have B3 : Below w1.heap.size w1 (w1.alloc (.cells #[.int .i64 0, .int .i64 0, .int .i64 0, .int .i64 0] 70)) := (Below.refl _ _).alloc (Nat.le_refl _) _
  have G3 : RowAt (w1.alloc (.cells #[.int .i64 0, .int .i64 0, .int .i64 0, .int .i64 0] 70)) w1.heap.size #[.int .i64 0, .int .i64 0, .int .i64 0, .int .i64 0] 70 := rowAt_new _ _ _
  generalize (w1.alloc (.cells #[.int .i64 0, .int .i64 0, .int .i64 0, .int .i64 0] 70)) = w3 at B3 G3 ⊢
  have s3 := B3.size
  have zc := G3.lt
  have HG3 : Hid (RowAt w3 w1.heap.size #[.int .i64 0, .int .i64 0, .int .i64 0, .int .i64 0] 70) := G3
  have HB3 : Hid (Below w1.heap.size w1 w3) := B3
  clear G3 B3
  go_wp2_with fail
  go_loopw [5, 17, 8, 9] (fun nv iv pv lv wr => ∃ (i : Nat) (na : Option Addr) (nc : Nat) (vs : List Value), i ≤ n ∧ iv = .int .i64 i ∧ nv = .slice na i nc ∧ RowAt wr w1.heap.size (cnA (cnD d i)) 70 ∧ NnOwn wr w3.heap.size wr.heap.size (.slice na i nc) vs (numsL d i) ∧ w3.heap.size ≤ wr.heap.size ∧ Below w1.heap.size w1 wr) (fun _ iv _ _ _ => n - (intOf iv).toNat)
  case atStart => exact ⟨0, none, 0, [], Nat.zero_le _, rfl, rfl, HG3.out, NnOwn.nil _ _ _, Nat.le_refl _, HB3.out⟩
  case round =>
    obtain ⟨i, na, nc, vs, hi, rfl, rfl, hG, hO, hs, hB⟩ := hrel
    have hok := cnD_ok d i
    have HSU : Hid (withC (cnD d i) (lvN (d.getD i bl0)) = cnD d (i + 1)) := rfl
    obtain ⟨⟨c0, c1, c2, c3⟩, hcc⟩ : ∃ c, c = cnD d i := ⟨_, rfl⟩
    rw [← hcc] at hG hok HSU
    have hG' : RowAt wr w1.heap.size #[.int .i64 c0, .int .i64 c1, .int .i64 c2, .int .i64 c3] 70 := hG
    have HG : Hid (RowAt wr w1.heap.size #[.int .i64 c0, .int .i64 c1, .int .i64 c2, .int .i64 c3] 70) := hG'
    have HO : Hid (NnOwn wr w3.heap.size wr.heap.size (.slice na i nc) vs (numsL d i)) := hO
    have HB : Hid (Below w1.heap.size w1 wr) := hB
    clear hG hG' hcc
    unfold CnOk at hok
    simp only at hok
    obtain ⟨ok0, ok1, ok2, ok3⟩ := hok
    have hncs : i ≤ nc ∧ nc ≤ 2 ^ 63 - 1 := by
      have hr := hO.1
      have hl := hO.2.2.1
      have hl2 : (numsL d i).length = i := by simp [numsL]
      rcases hr.2 with ⟨hv, h0⟩ | ⟨g, cap, cur, hv, hg, hgg, a1, a2, _⟩
      · simp only [Value.slice.injEq] at hv
        omega
      · simp only [Value.slice.injEq] at hv
        unfold maxLen at a2
        omega
    obtain ⟨hnc1, hnc2⟩ := hncs
    have HVL : Hid (vs.length = i) := by
      have hl := hO.2.2.1
      have hl2 : (numsL d i).length = i := by simp [numsL]
      show vs.length = i
      omega
    clear hO hB
    by_cases hlt : i < n
    · have hid : i < d.length := by have := HN.out; omega
      have hib : (i : Int) < (n : Int) := by omega
      have hii : (0 : Int) ≤ (i : Int) := by omega
      obtain ⟨g, rfl, hg1, hg2, hcell, -⟩ := ownP_at (HO1.out.below HB.out) hlt
      obtain ⟨ta, tn, tc, ca, cn, cc, hpv, -, -⟩ := HP1.out.2 i hid
      have hkd := HK.out (d.getD i bl0) (by rw [getD_bl hid]; exact List.getElem_mem hid)
      obtain ⟨lv0, lv3⟩ := HLV.out i hid
      obtain ⟨v, HV⟩ : ∃ v, Hid (lvN (d.getD i bl0) = v) := ⟨_, rfl⟩
      rw [HV.out] at lv0 lv3 HSU
      have hv' := HV.out
      rw [hpv] at hcell
      obtain ⟨⟨K, V, t, R, C, l⟩, hx⟩ : ∃ x, x = d.getD i bl0 := ⟨_, rfl⟩
      rw [← hx] at hcell hkd hv'
      unfold lvN at hv'
      unfold kindB at hkd
      simp only at hcell hkd hv'
      have HKD : Hid (K = 1 ∨ K = 2 ∨ K = 3) := hkd
      have HVV : Hid ((if K = 2 then V else -1) = v) := hv'
      have HNK : Hid (numsL d (i + 1) = numsL d i ++ [(cnL (cnD d (i + 1))).take (v + 1).toNat]) := by
        show numsL d (i + 1) = _
        unfold numsL
        rw [List.range_succ, List.map_append]
        simp only [List.map_cons, List.map_nil, numK, HV.out]
      obtain ⟨p1, hp1e⟩ : ∃ p, p = partV K V ta tn tc R C ca cn cc := ⟨_, rfl⟩
      rw [← hp1e] at hcell
      have HL1 : Hid (∀ u, Calls Try.prog 34 #[p1] u fun e w' => e = .returned (.int .i64 v) ∧ Below u.heap.size u w') := fun u => hp1e ▸ levelOf_part HKD.out HVV.out
      obtain ⟨⟨e0, e1, e2, e3⟩, hee⟩ : ∃ c, c = cnD d (i + 1) := ⟨_, rfl⟩
      rw [← hee] at HSU HNK
      have HEE : Hid ((e0, e1, e2, e3) = cnD d (i + 1)) := hee
      clear hpv hkd hv' hx hp1e hee
      go_upto_region 8 with (go_at_call 34; refine (HL1.out _).mono ?_; rintro e u1 ⟨rfl, hb1⟩)
      have t1 := hb1.size
      have HG1 : Hid (RowAt u1 w1.heap.size #[.int .i64 c0, .int .i64 c1, .int .i64 c2, .int .i64 c3] 70) := HG.out.below hb1 HG.out.lt
      have HO2 : Hid (NnOwn u1 w3.heap.size wr.heap.size (.slice na i nc) vs (numsL d i)) := HO.out.below (Nat.le_refl _) hb1
      have HB2 : Hid (Below w1.heap.size w1 u1) := HB.out.trans (hb1.mono (by omega))
      have zc1 := HG1.out.lt
      have j0 : u1.cell? ⟨w1.heap.size, 0, none⟩ = some (.int .i64 c0) := HG1.out.cell 0
      have j1 : u1.cell? ⟨w1.heap.size, 1, none⟩ = some (.int .i64 c1) := HG1.out.cell 1
      have j2 : u1.cell? ⟨w1.heap.size, 2, none⟩ = some (.int .i64 c2) := HG1.out.cell 2
      have j3 : u1.cell? ⟨w1.heap.size, 3, none⟩ = some (.int .i64 c3) := HG1.out.cell 3
      have HWI : Hid (∀ u, Calls Try.prog 35 #[.agg #[.int .i64 c0, .int .i64 c1, .int .i64 c2, .int .i64 c3], .int .i64 v] u fun e w' => e = .returned (.agg #[.int .i64 e0, .int .i64 e1, .int .i64 e2, .int .i64 e3]) ∧ Below u.heap.size u w') := fun u => by
        have := with_any (c0 := c0) (c1 := c1) (c2 := c2) (c3 := c3) (v := v) (w := u) (by omega) (by omega) (by omega) (by omega) (by omega)
        rw [HSU.out] at this
        exact this
      clear hcell hb1 HG HO HB
      go_upto_region 9 with (first | (go_at_call 35; refine (HWI.out _).mono ?_; rintro e u2 ⟨rfl, hb2⟩; have HG2 : Hid (RowAt u2 w1.heap.size #[.int .i64 c0, .int .i64 c1, .int .i64 c2, .int .i64 c3] 70) := HG1.out.below hb2 zc1) | (refine wpList_store_row rfl 70 (.tmp 6) (.tmp 25) rfl w1.heap.size #[.int .i64 e0, .int .i64 e1, .int .i64 e2, .int .i64 e3] rfl rfl 70 _ HG2.out counts_info rfl (cells4_one _ _ _ _) ?_))
      have t2 := hb2.size
      have U3 : Below w1.heap.size u2 (u2.setRow w1.heap.size #[.int .i64 e0, .int .i64 e1, .int .i64 e2, .int .i64 e3]) := below_row (Below.refl _ _) (Nat.le_refl _) _
      have G3 : RowAt (u2.setRow w1.heap.size #[.int .i64 e0, .int .i64 e1, .int .i64 e2, .int .i64 e3]) w1.heap.size #[.int .i64 e0, .int .i64 e1, .int .i64 e2, .int .i64 e3] 70 := RowAt.setRow HG2.out _
      have sz3 : (u2.setRow w1.heap.size #[.int .i64 e0, .int .i64 e1, .int .i64 e2, .int .i64 e3]).heap.size = u2.heap.size := by simp [World.setRow]
      have HO3 : Hid (NnOwn (u2.setRow w1.heap.size #[.int .i64 e0, .int .i64 e1, .int .i64 e2, .int .i64 e3]) w3.heap.size wr.heap.size (.slice na i nc) vs (numsL d i)) := by
        have h1 := HO2.out.below (by omega) hb2
        refine ⟨own_row h1.1 _ _ (fun e => by have := (own_lt h1.1 e).1; omega), h1.2.1, h1.2.2.kept (fun b cs ty hb hb' _ hr => hr.setRowOther _ _ (by omega))⟩
      have HB3' : Hid (Below w1.heap.size w1 (u2.setRow w1.heap.size #[.int .i64 e0, .int .i64 e1, .int .i64 e2, .int .i64 e3])) := below_row (HB2.out.trans (hb2.mono (by omega))) (Nat.le_refl _) _
      have t3 : wr.heap.size ≤ (u2.setRow w1.heap.size #[.int .i64 e0, .int .i64 e1, .int .i64 e2, .int .i64 e3]).heap.size := by omega
      have zc3 := G3.lt
      clear j0 j1 j2 j3 U3 HO2 HB2 HG1 HG2 hb2 sz3
      generalize u2.setRow w1.heap.size #[.int .i64 e0, .int .i64 e1, .int .i64 e2, .int .i64 e3] = u3 at G3 HO3 HB3' t3 zc3 ⊢
      have HG3' : Hid (RowAt u3 w1.heap.size #[.int .i64 e0, .int .i64 e1, .int .i64 e2, .int .i64 e3] 70) := G3
      have HIA : Hid (IntsAt u3 w1.heap.size 0 ((cnL (e0, e1, e2, e3)).take (v + 1).toNat)) := fun k hk => by
        have hk4 : k < 4 := by
          have : k < (cnL (e0, e1, e2, e3)).length := Nat.lt_of_lt_of_le hk (by rw [List.length_take]; omega)
          simpa [cnL] using this
        have hk5 : k < (v + 1).toNat := Nat.lt_of_lt_of_le hk (by rw [List.length_take]; omega)
        have h1 : ((cnL (e0, e1, e2, e3)).take (v + 1).toNat).getD k 0 = (cnL (e0, e1, e2, e3)).getD k 0 := by
          simp only [List.getD, List.getElem?_take, if_pos hk5]
        rw [h1, Nat.zero_add]
        have hc := HG3'.out.cell k
        rw [hc]
        rcases (show k = 0 ∨ k = 1 ∨ k = 2 ∨ k = 3 by omega) with rfl | rfl | rfl | rfl <;> rfl
      obtain ⟨m, HM⟩ : ∃ m : Nat, Hid ((v + 1).toNat = m) := ⟨_, rfl⟩
      have hm4 : m ≤ 4 := by rw [← HM.out]; omega
      have hvm : v + 1 = (m : Int) := by rw [← HM.out]; omega
      rw [HM.out] at HIA HNK
      have HLM : Hid (m = ((cnL (e0, e1, e2, e3)).take m).length) := by
        show m = _
        rw [List.length_take]
        simp [cnL]
        omega
      clear G3
      go_wp2_with fail
      rw [slice_counts _ _ _ hm4]
      go_wp2_with fail
      refine (copiedInt_any HIA.out HLM.out (by omega) (by omega)).mono ?_
      rintro e u4 ⟨⟨tp, tq, rfl, ho4⟩, hb4⟩
      have t4 := hb4.size
      have HG4 : Hid (RowAt u4 w1.heap.size #[.int .i64 e0, .int .i64 e1, .int .i64 e2, .int .i64 e3] 70) := HG3'.out.below hb4 zc3
      have HO4 : Hid (NnOwn u4 w3.heap.size wr.heap.size (.slice na i nc) vs (numsL d i)) := HO3.out.below t3 hb4
      have HB4 : Hid (Below w1.heap.size w1 u4) := HB3'.out.trans (hb4.mono (by omega))
      have HI4 : Hid (OwnI u4 u3.heap.size (.slice tp m tq) ((cnL (e0, e1, e2, e3)).take m)) := ho4
      clear hb4 ho4
      have A5 : Below u4.heap.size u4 (u4.alloc (.cells #[.slice tp m tq] 40)) := (Below.refl _ _).alloc (Nat.le_refl _) _
      have HO5 : Hid (NnOwn (u4.alloc (.cells #[.slice tp m tq] 40)) w3.heap.size wr.heap.size (.slice na i nc) vs (numsL d i)) := HO4.out.below (by omega) A5
      have HI5 : Hid (OwnI (u4.alloc (.cells #[.slice tp m tq] 40)) u3.heap.size (.slice tp m tq) ((cnL (e0, e1, e2, e3)).take m)) := HI4.out.below A5
      have HRW : Hid ((u4.alloc (.cells #[.slice tp m tq] 40)).ownsRow w3.heap.size 40 1 (.slice na i nc) i vs) := by
        have h1 := HO5.out.1
        rw [HVL.out] at h1
        exact h1
      go_wp2_with (at_builtin; refine wpList_append_own _ rfl (.tmp 26) (.tmp 31) 31 rfl w3.heap.size 40 i0 _ 1 24 Try.underlying31 hi0 hz0 hz1 hz2 rfl (by decide) (.slice na i nc) i vs rfl HRW.out ⟨u4.heap.size, 0, none⟩ 1 1 [.slice tp m tq] rfl rfl (cell_new1p _ _ _) (by intro u hu; simp at hu; subst hu; rfl) (by unfold maxLen; omega) (by omega) (by simp; omega) ?_; intro v' u7 hown hgrow _; obtain ⟨na', nc', rfl⟩ := own_shp hown)
      have s7 := hgrow.size
      simp only [World.size_alloc] at s7
      have hne : ∀ g, (Value.slice na i nc).ownBlock = some g → w3.heap.size ≤ g := fun g hg => (own_lt HRW.out hg).1
      have hlen : i = (numsL d i).length := by simp [numsL]
      have hN7 := nnOwn_snoc (E := wr.heap.size) (E' := u4.heap.size) HO5.out hlen (own_less HI5.out t3) (fun z hz => (own_lt HI4.out hz).2) hs (by omega) (by omega) hown hgrow
      go_roundw
      case rel =>
        refine ⟨i + 1, na', nc', vs ++ [.slice tp m tq], by omega, by go_num, rfl, ?_, ?_, by omega, ?_⟩
        · rw [← HEE.out]
          exact (HG4.out.alloc _).grown hgrow (fun e => by have := hne _ e; omega)
        · rw [HNK.out]
          exact hN7
        · exact (HB4.out.alloc (by omega) _).grown hgrow (by simp; omega) (fun k hk => by have := hne _ hk; omega)
      case measure => simp [intOf]; omega
    · have hib : ¬ (i : Int) < (n : Int) := by omega
      obtain rfl : i = n := by omega
      go_wp2_with fail
      go_ret
      refine ⟨⟨na, i, nc, rfl, vs, ?_⟩, HB1.out.trans (HB.out.mono (by omega))⟩
      have e1 : numsL d i = numsL d d.length := by rw [HN.out]
      rw [← e1]
      obtain ⟨a1, a2, a3⟩ := HO.out
      refine ⟨own_less a1 (by omega), a2, ?_⟩
      obtain ⟨h0, lo, hi', h1, h2⟩ := a3
      exact ⟨h0, lo, hi', fun k hk => ⟨by have := (h1 k hk).1; omega, (h1 k hk).2⟩, h2⟩
end Go.Proofs.Ytoliebgdlnjahaa
namespace Go.Proofs.Ytoliebgdlnjahaa
open Go.RowKit

theorem wpList_append_ints {w : World} {ops : Array Oper} {rest : List Oper} {o : Oper} {a : Act} {Q : Exit → Act → World → Prop} (hgd : o.guard = none) (s x : Operand)
    (ho : o.op = .call { callee := .builtin .append, args := #[s, x], argTypes := #[40, 40] })
    (base : Nat) (v : Value) (l0 : List Int) (hs : a.eval s = v) (hown : OwnI w base v l0)
    (p : Option Addr) (m c : Nat) (l : List Int) (hx : a.eval x = .slice p m c) (hin : Ints w p m c l) (h63 : l0.length + m ≤ 1000) (hbase : base ≤ w.heap.size)
    (h : ∀ p' c' w', OwnI w' base (.slice p' (l0.length + m) c') (l0 ++ l) → w.grownBy w' v.ownBlock → wpList Try.prog ops Q rest (a.put o.dst (.slice p' (l0.length + m) c')) w') : wpList Try.prog ops Q (o :: rest) a w := by
  obtain ⟨i0, hi, hz0, hz1, hz2⟩ := info_parts Try.info3
  by_cases hl : l = []
  · have hm : m = 0 := by rw [hin.1, hl]; rfl
    subst hm hl
    refine wpList_append_empty hgd s x 40 ho base 3 i0 1 Try.underlying40 hi v l0.length (l0.map (Value.int .i64)) hs hown p c hx ?_
    obtain ⟨a', c', e⟩ := hown.shape
    subst e
    exact h a' c' w (by simpa using hown) (grownBy_refl _ _)
  · rcases hin.2.2.2 with h0 | ⟨b, off, e, hb, hc⟩
    · exact absurd h0 hl
    · subst e
      refine wpList_append_own w hgd s x 40 ho base 3 i0 _ 1 8 Try.underlying40 hi hz0 hz1 hz2 rfl (by decide) v l0.length (l0.map (Value.int .i64)) hs hown ⟨b, off, none⟩ m c (l.map (Value.int .i64)) hx (by rw [List.length_map, hin.1]; omega) (ints_one hin b off rfl hl) (fun u hu => by obtain ⟨y, -, rfl⟩ := List.mem_map.1 hu; rfl) (by unfold maxLen; omega) (by omega) hbase ?_
      intro v' w' h5 h6 _
      have hO : OwnI w' base v' (l0 ++ l) := by
        unfold OwnI
        rw [List.length_append, List.map_append, ← hin.1]
        exact h5
      obtain ⟨a', c', e⟩ := hO.shape
      rw [List.length_append, ← hin.1] at e
      subst e
      exact h a' c' w' hO h6
theorem ints_take {w : World} {p : Option Addr} {m c : Nat} {l : List Int} (h : Ints w p m c l) (k : Nat) (hk : k ≤ m) : Ints w p k c (l.take k) := by
  obtain ⟨h1, h2, h3, h4⟩ := h
  refine ⟨by rw [List.length_take]; omega, by omega, h3, ?_⟩
  rcases h4 with rfl | ⟨b, off, e, hb, h5⟩
  · exact .inl (by simp)
  · refine .inr ⟨b, off, e, hb, fun i hi => ?_⟩
    have hik : i < k := Nat.lt_of_lt_of_le hi (by rw [List.length_take]; omega)
    have hil : i < l.length := by omega
    have e1 : (l.take k).getD i 0 = l.getD i 0 := by simp only [List.getD, List.getElem?_take, if_pos hik]
    rw [e1]
    exact h5 i hil
theorem ownI_empty (u : World) : OwnI (u.alloc (.cells #[] 3)) u.heap.size (.slice (some ⟨u.heap.size, 0, none⟩) 0 0) [] := World.ownsRow_lit u #[] 0 (by omega) (by unfold maxLen; omega) rfl
theorem ints_single (x : World) : Ints (x.alloc (.cells #[.int .i64 0] 3)) (some ⟨x.heap.size, 0, none⟩) 1 1 [0] := ⟨rfl, Nat.le_refl _, by unfold maxLen; omega, .inr ⟨x.heap.size, 0, rfl, by simp, fun i hi => by have e : i = 0 := (by simp at hi; omega); subst e; simp⟩⟩
theorem ints_zero (w : World) (b : Nat) : Ints w (some ⟨b, 0, none⟩) 0 0 [] := ⟨rfl, Nat.le_refl _, by unfold maxLen; omega, .inl rfl⟩
end Go.Proofs.Ytoliebgdlnjahaa
namespace Go.Proofs.Ytoliebgdlnjahaa
open Go.RowKit

theorem nnOwn_empty (u : World) : NnOwn (u.alloc (.cells #[] 40)) u.heap.size (u.heap.size + 1) (.slice (some ⟨u.heap.size, 0, none⟩) 0 0) [] [] :=
  ⟨World.ownsRow_lit u #[] 0 (by omega) (by unfold maxLen; omega) rfl, fun g hg => by simp [Value.ownBlock] at hg; omega, NsOwn.nil _ _ _⟩
theorem NnOwn.grow {w : World} {B B' E E' : Nat} {v : Value} {vs : List Value} {nss : List (List Int)} (h : NnOwn w B E v vs nss) (hB : B' ≤ B) (hE : E ≤ E') : NnOwn w B' E' v vs nss := by
  obtain ⟨a1, a2, h0, lo, hi, h1, h2⟩ := h
  exact ⟨own_less a1 hB, fun g hg => Nat.lt_of_lt_of_le (a2 g hg) hE, h0, lo, hi, fun k hk => ⟨by have := (h1 k hk).1; omega, by have := (h1 k hk).2.1; omega, (h1 k hk).2.2⟩, h2⟩
set_option maxRecDepth 100000 in
set_option maxHeartbeats 16000000 in
theorem specDocNums_any {a : Option Addr} {n cap : Nat} {d : List Bl} {w : World} (h : Dc w a n cap d) :
    Calls Try.prog 19 #[.agg #[.slice a n cap]] w fun e w' => (∃ p m q, e = .returned (.slice p m q) ∧ Nn w' p m q (if docB d = true then numsL d d.length else [])) ∧ Below w.heap.size w w' := by
  obtain ⟨i0, hi0, hz0, hz1, hz2⟩ := info_parts Try.info40
  have HN : Hid (n = d.length) := h.1
  have hc := h.2.1
  have hm := h.2.2.1
  unfold maxLen at hm
  have H : Hid (Dc w a n cap d) := h
  clear h
  obtain ⟨x, HX⟩ : ∃ x, Hid (docB d = x) := ⟨_, rfl⟩
  rw [HX.out]
  go_enter Try.func19, Try.ntmps19
  go_upto_region 1 with fail
  have B0 : Below w.heap.size w (w.alloc (.cells #[.slice a n cap] 25)) := (Below.refl _ _).alloc (Nat.le_refl _) _
  have G0 : RowAt (w.alloc (.cells #[.slice a n cap] 25)) w.heap.size #[.slice a n cap] 25 := rowAt_new _ _ _
  generalize (w.alloc (.cells #[.slice a n cap] 25)) = v0 at B0 G0 ⊢
  go_upto_region 2 with fail
  have N1 : NnOwn (v0.alloc (.cells #[] 40)) v0.heap.size (v0.heap.size + 1) (.slice (some ⟨v0.heap.size, 0, none⟩) 0 0) [] [] := nnOwn_empty v0
  have A1 : Below v0.heap.size v0 (v0.alloc (.cells #[] 40)) := (Below.refl _ _).alloc (Nat.le_refl _) _
  have sz1 : v0.heap.size + 1 ≤ (v0.alloc (.cells #[] 40)).heap.size := by simp
  have G1 : RowAt (v0.alloc (.cells #[] 40)) w.heap.size #[.slice a n cap] 25 := G0.alloc _
  have B1 : Below w.heap.size w (v0.alloc (.cells #[] 40)) := B0.alloc B0.size _
  have s0 := B0.size
  have z0 := G0.lt
  generalize (v0.alloc (.cells #[] 40)) = v1 at N1 A1 sz1 G1 B1 ⊢
  have k1 : v1.cell? ⟨w.heap.size, 0, none⟩ = some (.slice a n cap) := G1.cell 0
  have HD1 : Hid (Dc v1 a n cap d) := H.out.below B1
  have HN1 : Hid (NnOwn v1 v0.heap.size (v0.heap.size + 1) (.slice (some ⟨v0.heap.size, 0, none⟩) 0 0) [] []) := N1
  have HG1 : Hid (RowAt v1 w.heap.size #[.slice a n cap] 25) := G1
  have HB1 : Hid (Below w.heap.size w v1) := B1
  have s1 := B1.size
  clear N1 A1 G1 B1 B0 G0
  go_wp2_with fail
  refine (specDocOk_is HX.out HD1.out).mono ?_
  rintro e w1 ⟨rfl, hb1⟩
  have t1 := hb1.size
  have HN2 : Hid (NnOwn w1 v0.heap.size (v0.heap.size + 1) (.slice (some ⟨v0.heap.size, 0, none⟩) 0 0) [] []) := HN1.out.below sz1 hb1
  have HG2 : Hid (RowAt w1 w.heap.size #[.slice a n cap] 25) := HG1.out.below hb1 (by omega)
  have HB2 : Hid (Below w.heap.size w w1) := HB1.out.trans (hb1.mono s1)
  clear k1 hb1 HN1 HG1 HB1 HD1
  cases x
  · go_wp2_with fail
    go_ret
    exact ⟨⟨_, _, _, rfl, HN2.out.nn⟩, HB2.out⟩
  obtain ⟨hn8', hall, hou⟩ := (doc_parts2 d).1 HX.out
  have hn8 : n ≤ 8 := by rw [HN.out]; exact hn8'
  have HOK : Hid (∀ k, k < d.length → partOkB (d.getD k bl0) = true ∧ lvN (d.getD k bl0) ≤ aheadN d k + 1) := ((outl_iff d).1 hou).2
  have HAH : Hid (∀ k, k ≤ d.length → -1 ≤ aheadN d k ∧ aheadN d k ≤ 3) := fun k hk => by
    rcases k with _ | j
    · show (-1 : Int) ≤ -1 ∧ (-1 : Int) ≤ 3
      omega
    · have := lv_small (outlB_part hou (show j < d.length by omega))
      unfold aheadN
      rw [if_neg (by omega), Nat.add_sub_cancel]
      exact this
  clear hall hou hn8'
  go_upto_region 5 with fail
  have I3 : OwnI (w1.alloc (.cells #[] 3)) w1.heap.size (.slice (some ⟨w1.heap.size, 0, none⟩) 0 0) [] := ownI_empty w1
  have A3 : Below w1.heap.size w1 (w1.alloc (.cells #[] 3)) := (Below.refl _ _).alloc (Nat.le_refl _) _
  generalize (w1.alloc (.cells #[] 3)) = w3 at I3 A3 ⊢
  have s3 := A3.size
  have HI3 : Hid (OwnI w3 w1.heap.size (.slice (some ⟨w1.heap.size, 0, none⟩) 0 0) []) := I3
  have HN3 : Hid (NnOwn w3 v0.heap.size (v0.heap.size + 1) (.slice (some ⟨v0.heap.size, 0, none⟩) 0 0) [] []) := HN2.out.below (by omega) A3
  have HG3 : Hid (RowAt w3 w.heap.size #[.slice a n cap] 25) := HG2.out.below A3 (by omega)
  have HB3 : Hid (Below w.heap.size w w3) := HB2.out.trans (A3.mono (by omega))
  clear I3 A3 HN2 HG2
  go_wp2_with fail
  go_loopw [3, 4, 5, 6] (fun ov nv iv bv wr => ∃ (i : Nat) (oa : Option Addr) (oc : Nat) (vs : List Value) (na : Option Addr) (nm nc : Nat), i ≤ n ∧ iv = .int .i64 i ∧ ov = .slice oa i oc ∧ nv = .slice na nm nc ∧ RowAt wr w.heap.size #[.slice a n cap] 25 ∧ NnOwn wr v0.heap.size wr.heap.size (.slice oa i oc) vs (numsL d i) ∧ OwnI wr v0.heap.size (.slice na nm nc) (nowD d i) ∧ v1.heap.size ≤ wr.heap.size ∧ Below w.heap.size w wr) (fun _ _ iv _ _ => n - (intOf iv).toNat)
  case atStart => exact ⟨0, _, _, [], _, _, _, Nat.zero_le _, rfl, rfl, rfl, HG3.out, HN3.out.grow (Nat.le_refl _) (by omega), by rw [nowD_zero]; exact own_less HI3.out (by omega), by omega, HB3.out⟩
  case round =>
    obtain ⟨i, oa, oc, vs, na, nm, nc, hi, rfl, rfl, rfl, hG, hO, hI, hs, hB⟩ := hrel
    have k0 : wr.cell? ⟨w.heap.size, 0, none⟩ = some (.slice a n cap) := hG.cell 0
    have HG : Hid (RowAt wr w.heap.size #[.slice a n cap] 25) := hG
    have HO : Hid (NnOwn wr v0.heap.size wr.heap.size (.slice oa i oc) vs (numsL d i)) := hO
    have HI : Hid (OwnI wr v0.heap.size (.slice na nm nc) (nowD d i)) := hI
    have HB : Hid (Below w.heap.size w wr) := hB
    have hoc1 := hO.nn.2.1
    have hoc2 := hO.nn.2.2.1
    have hnc1 := hI.ints.2.1
    have hnc2 := hI.ints.2.2.1
    unfold maxLen at hoc2 hnc2
    have HVL : Hid (vs.length = i) := by
      have hl := hO.2.2.1
      have hl2 : (numsL d i).length = i := by simp [numsL]
      show vs.length = i
      omega
    have HNM : Hid (nm = (nowD d i).length) := hI.ints.1
    clear hG hO hI
    by_cases hlt : i < n
    · have hid : i < d.length := by have := HN.out; omega
      have hib : (i : Int) < (n : Int) := by omega
      have hii : (0 : Int) ≤ (i : Int) := by omega
      obtain ⟨ah0, ah3⟩ := HAH.out i (by omega)
      obtain ⟨hpo, hlv⟩ := HOK.out i hid
      have hnl := nowD_len (d := d) (i := i) ⟨ah0, ah3⟩
      rcases H.out.2.2.2 with e | ⟨b, off, rfl, hbw, hcl⟩
      · rw [e] at hid
        exact absurd hid (by simp)
      obtain ⟨ta, tn, tc, ca, cn, cc, hblk⟩ := (hcl i hid).below hB hbw
      have HNK : Hid (numsL d (i + 1) = numsL d i ++ [numK d i]) := by
        show numsL d (i + 1) = _
        unfold numsL
        rw [List.range_succ, List.map_append]
        rfl
      obtain ⟨⟨K, V, t, R, C, l⟩, hx⟩ : ∃ x, x = d.getD i bl0 := ⟨_, rfl⟩
      rw [← hx] at hblk hpo hlv
      have HXD : Hid ((K, V, t, R, C, l) = d.getD i bl0) := hx
      obtain ⟨c0, c1, c2, c3, c4, c5, -, -⟩ := hblk
      simp only at c0 c1 c3 c4
      clear hcl hx hB
      go_upto_region 9 with fail
      have bA : Below wr.heap.size wr (wr.alloc (.cells #[.int .i64 K, .int .i64 V, .slice ta tn tc, .int .i64 R, .int .i64 C, .slice ca cn cc] 39)) := (Below.refl _ _).alloc (Nat.le_refl _) _
      have gA : RowAt (wr.alloc (.cells #[.int .i64 K, .int .i64 V, .slice ta tn tc, .int .i64 R, .int .i64 C, .slice ca cn cc] 39)) wr.heap.size #[.int .i64 K, .int .i64 V, .slice ta tn tc, .int .i64 R, .int .i64 C, .slice ca cn cc] 39 := rowAt_new _ _ _
      clear c0 c1 c2 c3 c4 c5 k0
      generalize (wr.alloc (.cells #[.int .i64 K, .int .i64 V, .slice ta tn tc, .int .i64 R, .int .i64 C, .slice ca cn cc] 39)) = u0 at bA gA ⊢
      have sA := bA.size
      have zA := gA.lt
      have HA0 : Hid (RowAt u0 wr.heap.size #[.int .i64 K, .int .i64 V, .slice ta tn tc, .int .i64 R, .int .i64 C, .slice ca cn cc] 39) := gA
      have HG0 : Hid (RowAt u0 w.heap.size #[.slice (some ⟨b, off, none⟩) n cap] 25) := HG.out.below bA (by omega)
      have HO0 : Hid (NnOwn u0 v0.heap.size wr.heap.size (.slice oa i oc) vs (numsL d i)) := HO.out.below (Nat.le_refl _) bA
      have HI0 : Hid (OwnI u0 v0.heap.size (.slice na nm nc) (nowD d i)) := HI.out.below bA
      have HB0 : Hid (Below w.heap.size w u0) := HB.out.trans (bA.mono (by omega))
      have q0 : u0.cell? ⟨wr.heap.size, 0, none⟩ = some (.int .i64 K) := gA.cell 0
      have q1 : u0.cell? ⟨wr.heap.size, 1, none⟩ = some (.int .i64 V) := gA.cell 1
      clear bA gA HG HO HI HB
      by_cases hk2 : K = 2
      · subst hk2
        have hV : 0 ≤ V ∧ V ≤ 3 := by
          unfold partOkB at hpo
          simp only at hpo
          rw [if_neg (by decide), if_pos trivial, Bool.and_eq_true, decide_eq_true_eq] at hpo
          exact hpo.1
        obtain ⟨v, rfl⟩ : ∃ v : Nat, V = v := ⟨V.toNat, by omega⟩
        have hv3 : v ≤ 3 := by omega
        have hvl : (v : Int) ≤ aheadN d i + 1 := by
          have := hlv
          unfold lvN at this
          simpa using this
        have hnm4 : (nm : Int) = aheadN d i + 1 := by rw [HNM.out]; exact hnl
        have hvn : v ≤ nm := by omega
        obtain ⟨N2, HN2⟩ : ∃ N, Hid ((cnL (cnD d i)).take (v + 1) = N) := ⟨_, rfl⟩
        obtain ⟨X, HXX⟩ : ∃ X, Hid ((cnL (cnD d i)).getD v 0 = X) := ⟨_, rfl⟩
        have hXb : 0 ≤ X ∧ X ≤ 100 := by
          have := cnD_ok d i
          unfold CnOk at this
          rw [← HXX.out]
          rcases (show v = 0 ∨ v = 1 ∨ v = 2 ∨ v = 3 by omega) with rfl | rfl | rfl | rfl <;> simp [cnL] <;> omega
        have HNU : Hid (numK d i = (cnL (withC (cnD d i) v)).take (v + 1)) := by
          show numK d i = _
          unfold numK
          have hl : lvN (d.getD i bl0) = v := by rw [← HXD.out]; unfold lvN; simp
          rw [hl]
          show (cnL (withC (cnD d i) (lvN (d.getD i bl0)))).take _ = _
          rw [hl, show ((v : Int) + 1).toNat = v + 1 by omega]
        have HN2S : Hid (N2.set v (X + 1) = numK d i) := by
          show N2.set v (X + 1) = numK d i
          rw [HNU.out, ← HN2.out, ← HXX.out]
          exact numK_of hv3
        have HN2L : Hid (N2.length = v + 1) := by
          show N2.length = v + 1
          rw [← HN2.out, List.length_take]
          simp [cnL]
          omega
        have HNKL : Hid (v + 1 = (numK d i).length) := by
          show v + 1 = _
          rw [← HN2S.out, List.length_set]
          exact HN2L.out.symm
        have HN2X : Hid (N2[v]? = some X) := by
          show N2[v]? = some X
          rw [← HN2.out, List.getElem?_take, if_pos (by omega), ← HXX.out]
          have : v < (cnL (cnD d i)).length := by simp [cnL]; omega
          rw [List.getElem?_eq_getElem this]
          simp [List.getD, this]
        have HNW : Hid (nowD d i = (cnL (cnD d i)).take nm) := by
          show nowD d i = _
          unfold nowD
          rw [← hnm4]
          rfl
        clear hV hlv hpo
        rcases (show v + 1 < nm ∨ nm = v + 1 ∨ nm = v by omega) with hc1 | hc1 | hc1
        · have z1 : (v : Int) + 1 < (nm : Int) := by omega
          obtain ⟨gn, rfl⟩ : ∃ g, na = some ⟨g, 0, none⟩ := by
            rcases HI0.out.row.2 with ⟨hv, hz⟩ | ⟨g', cap', cur, hv, -⟩
            · omega
            · simp only [Value.slice.injEq] at hv
              exact ⟨g', hv.1⟩
          have HEa : Hid (OwnI (u0.alloc (.cells #[] 3)) u0.heap.size (.slice (some ⟨u0.heap.size, 0, none⟩) 0 0) []) := ownI_empty u0
          have HIa : Hid (Ints (u0.alloc (.cells #[] 3)) (some ⟨gn, 0, none⟩) (v + 1) nc N2) := by
            have h1 := ints_take (HI0.out.ints.below ((Below.refl _ _).alloc (Nat.le_refl _) (.cells #[] 3))) (v + 1) (by omega)
            rw [HNW.out, List.take_take, show min (v + 1) nm = v + 1 by omega, HN2.out] at h1
            exact h1
          go_upto_region 14 with (at_builtin; refine wpList_append_ints rfl (.tmp 39) (.tmp 44) rfl u0.heap.size (.slice (some ⟨u0.heap.size, 0, none⟩) 0 0) [] rfl HEa.out (some ⟨gn, 0, none⟩) (v + 1) nc N2 rfl HIa.out (by simp; omega) (by simp) ?_; intro p1 c1 y0 ho1 hg1; rw [List.nil_append] at ho1; have ez : ([] : List Int).length + (v + 1) = v + 1 := (by simp); rw [ez] at ho1 ⊢)
          have hB1 : Below u0.heap.size u0 y0 := ((Below.refl _ _).alloc (Nat.le_refl _) _).grown hg1 (by simp) (fun k hk => by simp [Value.ownBlock] at hk; omega)
          have ry := hB1.size
          have HIy : Hid (OwnI y0 v0.heap.size (.slice p1 (v + 1) c1) N2) := own_less ho1 (by omega)
          have HAy : Hid (RowAt y0 wr.heap.size #[.int .i64 2, .int .i64 v, .slice ta tn tc, .int .i64 R, .int .i64 C, .slice ca cn cc] 39) := HA0.out.below hB1 zA
          have HGy : Hid (RowAt y0 w.heap.size #[.slice (some ⟨b, off, none⟩) n cap] 25) := HG0.out.below hB1 (by omega)
          have HOy : Hid (NnOwn y0 v0.heap.size wr.heap.size (.slice oa i oc) vs (numsL d i)) := HO0.out.below (by omega) hB1
          have HBy : Hid (Below w.heap.size w y0) := HB0.out.trans (hB1.mono (by omega))
          have sy : wr.heap.size < y0.heap.size := by omega
          clear ho1 hg1 hB1 HEa HIa HI0 HA0 HG0 HO0 HB0 q0 q1 hnm4 hnl hvl
          have q1 : y0.cell? ⟨wr.heap.size, 1, none⟩ = some (.int .i64 v) := HAy.out.cell 1
          have z2' : ¬ ((v + 1 : Nat) : Int) ≤ (v : Int) := by omega
          go_upto_region 16 with fail
          clear q1
          have zv9 : ¬ (v : Int) + 1 ≤ (v : Int) := by omega
          have HE1 : Hid (OwnI (y0.alloc (.cells #[] 3)) y0.heap.size (.slice (some ⟨y0.heap.size, 0, none⟩) 0 0) []) := ownI_empty y0
          have HIn1 : Hid (Ints (y0.alloc (.cells #[] 3)) p1 (v + 1) c1 N2) := HIy.out.ints.below ((Below.refl _ _).alloc (Nat.le_refl _) _)
          go_upto_region 17 with (at_builtin; refine wpList_append_ints rfl (.tmp 56) (.tmp 57) rfl y0.heap.size (.slice (some ⟨y0.heap.size, 0, none⟩) 0 0) [] rfl HE1.out p1 (v + 1) c1 N2 rfl HIn1.out (by simp; omega) (by simp) ?_; intro p2 c2 y2 ho2 hg2; rw [List.nil_append] at ho2; have ez : ([] : List Int).length + (v + 1) = v + 1 := (by simp); rw [ez] at ho2 ⊢)
          have B2 : Below y0.heap.size y0 y2 := ((Below.refl _ _).alloc (Nat.le_refl _) _).grown hg2 (by simp) (fun k hk => by simp [Value.ownBlock] at hk; omega)
          have r2 := B2.size
          have HA2 : Hid (RowAt y2 wr.heap.size #[.int .i64 2, .int .i64 v, .slice ta tn tc, .int .i64 R, .int .i64 C, .slice ca cn cc] 39) := HAy.out.below B2 sy
          have HG2' : Hid (RowAt y2 w.heap.size #[.slice (some ⟨b, off, none⟩) n cap] 25) := HGy.out.below B2 (by omega)
          have HO2' : Hid (NnOwn y2 v0.heap.size wr.heap.size (.slice oa i oc) vs (numsL d i)) := HOy.out.below (by omega) B2
          have HB2' : Hid (Below w.heap.size w y2) := HBy.out.trans (B2.mono (by omega))
          obtain ⟨g2, rfl⟩ : ∃ g, p2 = some ⟨g, 0, none⟩ := by
            rcases ho2.row.2 with ⟨hv, hz⟩ | ⟨g', cap', cur, hv, -⟩
            · omega
            · simp only [Value.slice.injEq] at hv
              exact ⟨g', hv.1⟩
          have gl2 := own_lt ho2.row rfl
          have hx2 := ho2.ints.2.1
          have hx3 := ho2.ints.2.2.1
          unfold maxLen at hx3
          have cx : y2.cell? ⟨g2, v, none⟩ = some (.int .i64 X) := by
            rw [ho2.row.cellAt v (by omega), List.getElem?_map, HN2X.out]
            rfl
          have fx := ho2.row.frozenAt v
          have OS : OwnI (y2.setCell ⟨g2, v, none⟩ (.int .i64 (X + 1))) y0.heap.size (.slice (some ⟨g2, 0, none⟩) (v + 1) c2) (numK d i) := by
            have h1 := (ho2.row.stored v (.int .i64 (X + 1))).1
            rw [← List.map_set, HN2S.out] at h1
            unfold OwnI
            rw [← HNKL.out]
            exact h1
          have HCX : Hid (y2.cell? ⟨g2, v, none⟩ = some (.int .i64 X)) := cx
          have HFX : Hid (y2.frozen? ⟨g2, v, none⟩ = false) := fx
          have HOS : Hid (OwnI (y2.setCell ⟨g2, v, none⟩ (.int .i64 (X + 1))) y0.heap.size (.slice (some ⟨g2, 0, none⟩) (v + 1) c2) (numK d i)) := OS
          have gl2a : y0.heap.size ≤ g2 := gl2.1
          have gl2b : g2 < y2.heap.size := gl2.2
          clear ho2 hg2 B2 cx fx OS HE1 HIn1 HIy HAy HGy HOy HBy gl2 ez
          refine wp_region_noPanic ?_
          refine wp_region_held_drew (S := fun w' => RowAt w' wr.heap.size #[.int .i64 2, .int .i64 v, .slice ta tn tc, .int .i64 R, .int .i64 C, .slice ca cn cc] 39) (by kernel_rfl) HA2.out.drew (fun hHeld => ?_)
          have HCd : Hid (y2.drew.cell? ⟨g2, v, none⟩ = some (.int .i64 X)) := HCX.out
          have HFd : Hid (y2.drew.frozen? ⟨g2, v, none⟩ = false) := HFX.out
          have HSd : Hid (OwnI (y2.drew.setCell ⟨g2, v, none⟩ (.int .i64 (X + 1))) y0.heap.size (.slice (some ⟨g2, 0, none⟩) (v + 1) c2) (numK d i)) := HOS.out
          have HGd : Hid (RowAt y2.drew w.heap.size #[.slice (some ⟨b, off, none⟩) n cap] 25) := HG2'.out.drew
          have HOd : Hid (NnOwn y2.drew v0.heap.size wr.heap.size (.slice oa i oc) vs (numsL d i)) := HO2'.out.below (by omega) (Below.refl _ _).drew
          have HBd : Hid (Below w.heap.size w y2.drew) := HB2'.out.drew
          have rd : y0.heap.size ≤ y2.drew.heap.size := r2
          have gd : g2 < y2.drew.heap.size := gl2b
          generalize y2.drew = z2 at hHeld HCd HFd HSd HGd HOd HBd rd gd ⊢
          clear HCX HFX HOS HG2' HO2' HB2' HA2
          refine take_at 0 59 (.slice (some ⟨g2, 0, none⟩) (v + 1) c2) rfl rfl (by kernel_rfl) (by kernel_rfl) (by kernel_rfl) (fun _ _ _ h => h) (Or.inl ⟨by kernel_rfl, fun w' hS' => by go_simp⟩) hHeld ?_
          (try simp only [Act.put, List.setIfInBounds_toArray, List.set_cons_zero, List.set_cons_succ])
          refine take_at 1 60 (.pointer (some ⟨wr.heap.size, 1, none⟩)) rfl rfl (by kernel_rfl) (by kernel_rfl) (by kernel_rfl) (fun _ _ _ h => h) (Or.inl ⟨by kernel_rfl, fun w' hS' => by go_simp⟩) hHeld ?_
          (try simp only [Act.put, List.setIfInBounds_toArray, List.set_cons_zero, List.set_cons_succ])
          refine take_at 2 61 (.int .i64 v) rfl rfl (by kernel_rfl) (by kernel_rfl) (by kernel_rfl) (fun _ _ _ h => h) (Or.inl ⟨by kernel_rfl, fun w' hS' => by have hc := RowAt.cell hS' 1; go_simp⟩) hHeld ?_
          (try simp only [Act.put, List.setIfInBounds_toArray, List.set_cons_zero, List.set_cons_succ])
          refine take_at 3 62 (.slice (some ⟨g2, 0, none⟩) (v + 1) c2) rfl rfl (by kernel_rfl) (by kernel_rfl) (by kernel_rfl) (fun _ _ _ h => h) (Or.inl ⟨by kernel_rfl, fun w' hS' => by go_simp⟩) hHeld ?_
          (try simp only [Act.put, List.setIfInBounds_toArray, List.set_cons_zero, List.set_cons_succ])
          refine take_at 4 63 (.pointer (some ⟨wr.heap.size, 1, none⟩)) rfl rfl (by kernel_rfl) (by kernel_rfl) (by kernel_rfl) (fun _ _ _ h => h) (Or.inl ⟨by kernel_rfl, fun w' hS' => by go_simp⟩) hHeld ?_
          (try simp only [Act.put, List.setIfInBounds_toArray, List.set_cons_zero, List.set_cons_succ])
          refine take_at 5 64 (.int .i64 v) rfl rfl (by kernel_rfl) (by kernel_rfl) (by kernel_rfl) (fun _ _ _ h => h) (Or.inl ⟨by kernel_rfl, fun w' hS' => by have hc := RowAt.cell hS' 1; go_simp⟩) hHeld ?_
          (try simp only [Act.put, List.setIfInBounds_toArray, List.set_cons_zero, List.set_cons_succ])
          refine take_at 6 65 (.pointer (some ⟨g2, v, none⟩)) rfl rfl (by kernel_rfl) (by kernel_rfl) (by kernel_rfl) (fun _ _ _ h => h) (Or.inl ⟨by kernel_rfl, fun w' hS' => by go_simp⟩) hHeld ?_
          (try simp only [Act.put, List.setIfInBounds_toArray, List.set_cons_zero, List.set_cons_succ])
          refine wpAnyH_ready (rs := [7]) (by kernel_rfl) (by simp) ?_
          refine AllReadyH.cons rfl (fun K hK => ?_) AllReadyH.nil
          have d4 := HCd.out
          go_simp
          refine hK.out _ _ hHeld (fun hHeld => ?_)
          clear hK K d4
          (try simp only [Act.put, List.setIfInBounds_toArray, List.set_cons_zero, List.set_cons_succ])
          refine take_at 8 67 (.int .i64 (X + 1)) rfl rfl (by kernel_rfl) (by kernel_rfl) (by kernel_rfl) (fun _ _ _ h => h) (Or.inl ⟨by kernel_rfl, fun w' hS' => by go_simp; rw [IntKind.wrap_i64]; omega⟩) hHeld ?_
          (try simp only [Act.put, List.setIfInBounds_toArray, List.set_cons_zero, List.set_cons_succ])
          refine take_at 9 68 (.pointer (some ⟨g2, v, none⟩)) rfl rfl (by kernel_rfl) (by kernel_rfl) (by kernel_rfl) (fun _ _ _ h => h) (Or.inl ⟨by kernel_rfl, fun w' hS' => by go_simp⟩) hHeld ?_
          (try simp only [Act.put, List.setIfInBounds_toArray, List.set_cons_zero, List.set_cons_succ])
          refine wpAnyH_ready (rs := [10]) (by kernel_rfl) (by simp) ?_
          refine AllReadyH.cons rfl (fun K hK => ?_) AllReadyH.nil
          have d4 := HCd.out
          have f4 := HFd.out
          rw [if_pos (by kernel_rfl)]
          go_simp
          refine hK.out _ _ (RowAt.other hHeld _ _ (by simp; omega)) (fun hHeld => ?_)
          clear hK K d4 f4
          (try simp only [Act.put])
          refine wpAnyH_done (by kernel_rfl) ?_ _
          refine NoPanic.normal ?_
          clear hHeld
          have HG3' : Hid (RowAt (z2.setCell ⟨g2, v, none⟩ (.int .i64 (X + 1))) w.heap.size #[.slice (some ⟨b, off, none⟩) n cap] 25) := HGd.out.other _ _ (by simp; omega)
          have HO3' : Hid (NnOwn (z2.setCell ⟨g2, v, none⟩ (.int .i64 (X + 1))) v0.heap.size wr.heap.size (.slice oa i oc) vs (numsL d i)) := ⟨own_set HOd.out.1 ⟨g2, v, none⟩ _ (fun e => by have := HOd.out.2.1 _ e; simp at this; omega), HOd.out.2.1, HOd.out.2.2.kept (fun b cs ty hb hb' _ hr => hr.other _ _ (by simp; omega))⟩
          have HB3' : Hid (Below w.heap.size w (z2.setCell ⟨g2, v, none⟩ (.int .i64 (X + 1)))) := HBd.out.setCell (by show _ ≤ g2; omega) _
          have r3 : y0.heap.size ≤ (z2.setCell ⟨g2, v, none⟩ (.int .i64 (X + 1))).heap.size := by simpa using rd
          clear HCd HFd HGd HOd HBd
          generalize (z2.setCell ⟨g2, v, none⟩ (.int .i64 (X + 1))) = y3 at HSd HG3' HO3' HB3' r3 ⊢
          have HE4 : Hid (OwnI (y3.alloc (.cells #[] 3)) y3.heap.size (.slice (some ⟨y3.heap.size, 0, none⟩) 0 0) []) := ownI_empty y3
          have HIn4 : Hid (Ints (y3.alloc (.cells #[] 3)) (some ⟨g2, 0, none⟩) (v + 1) c2 (numK d i)) := HSd.out.ints.below ((Below.refl _ _).alloc (Nat.le_refl _) _)
          go_wp2_with (first | (at_builtin; refine wpList_append_ints rfl (.tmp 70) (.tmp 71) rfl y3.heap.size (.slice (some ⟨y3.heap.size, 0, none⟩) 0 0) [] rfl HE4.out (some ⟨g2, 0, none⟩) (v + 1) c2 (numK d i) rfl HIn4.out (by simp; omega) (by simp) ?_; intro p5 c5 y5 ho5 hg5; rw [List.nil_append] at ho5; have ez : ([] : List Int).length + (v + 1) = v + 1 := (by simp); rw [ez] at ho5 ⊢; have HB5 : Hid (Below y3.heap.size y3 y5) := (((Below.refl _ _).alloc (Nat.le_refl _) _).grown hg5 (by simp) (fun k hk => by simp [Value.ownBlock] at hk; omega)); have HX5 : Hid (OwnI y5 y3.heap.size (.slice p5 (v + 1) c5) (numK d i)) := ho5; have r5 := HB5.out.size; have HA6 : Hid (Below y5.heap.size y5 (y5.alloc (.cells #[(.slice p5 (v + 1) c5)] 40))) := ((Below.refl _ _).alloc (Nat.le_refl _) _); have HO6 : Hid (NnOwn (y5.alloc (.cells #[(.slice p5 (v + 1) c5)] 40)) v0.heap.size wr.heap.size (.slice oa i oc) vs (numsL d i)) := ((HO3'.out.below (by omega) HB5.out).below (by omega) HA6.out); have HRW : Hid ((y5.alloc (.cells #[(.slice p5 (v + 1) c5)] 40)).ownsRow v0.heap.size 40 1 (.slice oa i oc) i vs) := (HVL.out ▸ HO6.out.1); have HC6 : Hid (∀ j u, [(.slice p5 (v + 1) c5)][j]? = some u → (y5.alloc (.cells #[(.slice p5 (v + 1) c5)] 40)).cell? ((⟨y5.heap.size, 0, none⟩ : Addr).add j) = some u) := (cell_new1p _ _ _); clear ho5 hg5 ez) | (at_builtin; refine wpList_append_own _ rfl (.tmp 69) (.tmp 73) 31 rfl v0.heap.size 40 i0 _ 1 24 Try.underlying31 hi0 hz0 hz1 hz2 rfl (by decide) (.slice oa i oc) i vs rfl HRW.out ⟨y5.heap.size, 0, none⟩ 1 1 [(.slice p5 (v + 1) c5)] rfl rfl HC6.out (by intro u hu; simp at hu; subst hu; rfl) (by unfold maxLen; omega) (by omega) (by simp; omega) ?_; intro v' u7 hown hgrow _; obtain ⟨oa', oc', rfl⟩ := own_shp hown))
          have s7 := hgrow.size
          simp only [World.size_alloc] at s7
          have hne : ∀ g, (Value.slice oa i oc).ownBlock = some g → v0.heap.size ≤ g := fun g hg => (own_lt HRW.out hg).1
          have hgE : ∀ g, (Value.slice oa i oc).ownBlock = some g → g < wr.heap.size := HO6.out.2.1
          have hlen : i = (numsL d i).length := by simp [numsL]
          have hN7 := nnOwn_snoc (E := wr.heap.size) (E' := y5.heap.size) HO6.out hlen (own_less (HX5.out.below HA6.out) (by omega)) (fun z hz => (own_lt HX5.out hz).2) (by omega) (by omega) (by omega) hown hgrow
          go_roundw
          case rel =>
            refine ⟨i + 1, oa', oc', vs ++ [(.slice p5 (v + 1) c5)], _, _, _, by omega, by go_num, rfl, rfl, ?_, ?_, ?_, by omega, ?_⟩
            · exact ((HG3'.out.below HB5.out (by omega)).below HA6.out (by omega)).grown hgrow (fun e => by have := hne _ e; omega)
            · rw [HNK.out]
              exact hN7
            · rw [nowD_succ]
              exact own_less (own_grown ((HSd.out.below HB5.out).below HA6.out) hgrow (fun z hz e => by have := hgE _ e; have := (own_lt HSd.out hz).1; omega)) (by omega)
            · exact ((HB3'.out.trans (HB5.out.mono (by omega))).trans (HA6.out.mono (by omega))).grown hgrow (by simp; omega) (fun k hk => by have := hne _ hk; omega)
          case measure => simp [intOf]; omega
        · subst hc1
          have z1 : ¬ (v : Int) + 1 < ((v + 1 : Nat) : Int) := by omega
          have z2' : ¬ ((v + 1 : Nat) : Int) ≤ (v : Int) := by omega
          have hI := HI0.out
          rw [HNW.out, HN2.out] at hI
          have HIy : Hid (OwnI u0 v0.heap.size (.slice na (v + 1) nc) N2) := hI
          clear hI HI0
          go_upto_region 16 with fail
          clear q0 q1
          have zv9 : ¬ (v : Int) + 1 ≤ (v : Int) := by omega
          have HE1 : Hid (OwnI (u0.alloc (.cells #[] 3)) u0.heap.size (.slice (some ⟨u0.heap.size, 0, none⟩) 0 0) []) := ownI_empty u0
          have HIn1 : Hid (Ints (u0.alloc (.cells #[] 3)) na (v + 1) nc N2) := HIy.out.ints.below ((Below.refl _ _).alloc (Nat.le_refl _) _)
          go_upto_region 17 with (at_builtin; refine wpList_append_ints rfl (.tmp 56) (.tmp 57) rfl u0.heap.size (.slice (some ⟨u0.heap.size, 0, none⟩) 0 0) [] rfl HE1.out na (v + 1) nc N2 rfl HIn1.out (by simp; omega) (by simp) ?_; intro p2 c2 y2 ho2 hg2; rw [List.nil_append] at ho2; have ez : ([] : List Int).length + (v + 1) = v + 1 := (by simp); rw [ez] at ho2 ⊢)
          have B2 : Below u0.heap.size u0 y2 := ((Below.refl _ _).alloc (Nat.le_refl _) _).grown hg2 (by simp) (fun k hk => by simp [Value.ownBlock] at hk; omega)
          have r2 := B2.size
          have HA2 : Hid (RowAt y2 wr.heap.size #[.int .i64 2, .int .i64 v, .slice ta tn tc, .int .i64 R, .int .i64 C, .slice ca cn cc] 39) := HA0.out.below B2 zA
          have HG2' : Hid (RowAt y2 w.heap.size #[.slice (some ⟨b, off, none⟩) n cap] 25) := HG0.out.below B2 (by omega)
          have HO2' : Hid (NnOwn y2 v0.heap.size wr.heap.size (.slice oa i oc) vs (numsL d i)) := HO0.out.below (by omega) B2
          have HB2' : Hid (Below w.heap.size w y2) := HB0.out.trans (B2.mono (by omega))
          obtain ⟨g2, rfl⟩ : ∃ g, p2 = some ⟨g, 0, none⟩ := by
            rcases ho2.row.2 with ⟨hv, hz⟩ | ⟨g', cap', cur, hv, -⟩
            · omega
            · simp only [Value.slice.injEq] at hv
              exact ⟨g', hv.1⟩
          have gl2 := own_lt ho2.row rfl
          have hx2 := ho2.ints.2.1
          have hx3 := ho2.ints.2.2.1
          unfold maxLen at hx3
          have cx : y2.cell? ⟨g2, v, none⟩ = some (.int .i64 X) := by
            rw [ho2.row.cellAt v (by omega), List.getElem?_map, HN2X.out]
            rfl
          have fx := ho2.row.frozenAt v
          have OS : OwnI (y2.setCell ⟨g2, v, none⟩ (.int .i64 (X + 1))) u0.heap.size (.slice (some ⟨g2, 0, none⟩) (v + 1) c2) (numK d i) := by
            have h1 := (ho2.row.stored v (.int .i64 (X + 1))).1
            rw [← List.map_set, HN2S.out] at h1
            unfold OwnI
            rw [← HNKL.out]
            exact h1
          have HCX : Hid (y2.cell? ⟨g2, v, none⟩ = some (.int .i64 X)) := cx
          have HFX : Hid (y2.frozen? ⟨g2, v, none⟩ = false) := fx
          have HOS : Hid (OwnI (y2.setCell ⟨g2, v, none⟩ (.int .i64 (X + 1))) u0.heap.size (.slice (some ⟨g2, 0, none⟩) (v + 1) c2) (numK d i)) := OS
          have gl2a : u0.heap.size ≤ g2 := gl2.1
          have gl2b : g2 < y2.heap.size := gl2.2
          clear ho2 hg2 B2 cx fx OS HE1 HIn1 HIy HA0 HG0 HO0 HB0 gl2 ez
          refine wp_region_noPanic ?_
          refine wp_region_held_drew (S := fun w' => RowAt w' wr.heap.size #[.int .i64 2, .int .i64 v, .slice ta tn tc, .int .i64 R, .int .i64 C, .slice ca cn cc] 39) (by kernel_rfl) HA2.out.drew (fun hHeld => ?_)
          have HCd : Hid (y2.drew.cell? ⟨g2, v, none⟩ = some (.int .i64 X)) := HCX.out
          have HFd : Hid (y2.drew.frozen? ⟨g2, v, none⟩ = false) := HFX.out
          have HSd : Hid (OwnI (y2.drew.setCell ⟨g2, v, none⟩ (.int .i64 (X + 1))) u0.heap.size (.slice (some ⟨g2, 0, none⟩) (v + 1) c2) (numK d i)) := HOS.out
          have HGd : Hid (RowAt y2.drew w.heap.size #[.slice (some ⟨b, off, none⟩) n cap] 25) := HG2'.out.drew
          have HOd : Hid (NnOwn y2.drew v0.heap.size wr.heap.size (.slice oa i oc) vs (numsL d i)) := HO2'.out.below (by omega) (Below.refl _ _).drew
          have HBd : Hid (Below w.heap.size w y2.drew) := HB2'.out.drew
          have rd : u0.heap.size ≤ y2.drew.heap.size := r2
          have gd : g2 < y2.drew.heap.size := gl2b
          generalize y2.drew = z2 at hHeld HCd HFd HSd HGd HOd HBd rd gd ⊢
          clear HCX HFX HOS HG2' HO2' HB2' HA2
          refine take_at 0 59 (.slice (some ⟨g2, 0, none⟩) (v + 1) c2) rfl rfl (by kernel_rfl) (by kernel_rfl) (by kernel_rfl) (fun _ _ _ h => h) (Or.inl ⟨by kernel_rfl, fun w' hS' => by go_simp⟩) hHeld ?_
          (try simp only [Act.put, List.setIfInBounds_toArray, List.set_cons_zero, List.set_cons_succ])
          refine take_at 1 60 (.pointer (some ⟨wr.heap.size, 1, none⟩)) rfl rfl (by kernel_rfl) (by kernel_rfl) (by kernel_rfl) (fun _ _ _ h => h) (Or.inl ⟨by kernel_rfl, fun w' hS' => by go_simp⟩) hHeld ?_
          (try simp only [Act.put, List.setIfInBounds_toArray, List.set_cons_zero, List.set_cons_succ])
          refine take_at 2 61 (.int .i64 v) rfl rfl (by kernel_rfl) (by kernel_rfl) (by kernel_rfl) (fun _ _ _ h => h) (Or.inl ⟨by kernel_rfl, fun w' hS' => by have hc := RowAt.cell hS' 1; go_simp⟩) hHeld ?_
          (try simp only [Act.put, List.setIfInBounds_toArray, List.set_cons_zero, List.set_cons_succ])
          refine take_at 3 62 (.slice (some ⟨g2, 0, none⟩) (v + 1) c2) rfl rfl (by kernel_rfl) (by kernel_rfl) (by kernel_rfl) (fun _ _ _ h => h) (Or.inl ⟨by kernel_rfl, fun w' hS' => by go_simp⟩) hHeld ?_
          (try simp only [Act.put, List.setIfInBounds_toArray, List.set_cons_zero, List.set_cons_succ])
          refine take_at 4 63 (.pointer (some ⟨wr.heap.size, 1, none⟩)) rfl rfl (by kernel_rfl) (by kernel_rfl) (by kernel_rfl) (fun _ _ _ h => h) (Or.inl ⟨by kernel_rfl, fun w' hS' => by go_simp⟩) hHeld ?_
          (try simp only [Act.put, List.setIfInBounds_toArray, List.set_cons_zero, List.set_cons_succ])
          refine take_at 5 64 (.int .i64 v) rfl rfl (by kernel_rfl) (by kernel_rfl) (by kernel_rfl) (fun _ _ _ h => h) (Or.inl ⟨by kernel_rfl, fun w' hS' => by have hc := RowAt.cell hS' 1; go_simp⟩) hHeld ?_
          (try simp only [Act.put, List.setIfInBounds_toArray, List.set_cons_zero, List.set_cons_succ])
          refine take_at 6 65 (.pointer (some ⟨g2, v, none⟩)) rfl rfl (by kernel_rfl) (by kernel_rfl) (by kernel_rfl) (fun _ _ _ h => h) (Or.inl ⟨by kernel_rfl, fun w' hS' => by go_simp⟩) hHeld ?_
          (try simp only [Act.put, List.setIfInBounds_toArray, List.set_cons_zero, List.set_cons_succ])
          refine wpAnyH_ready (rs := [7]) (by kernel_rfl) (by simp) ?_
          refine AllReadyH.cons rfl (fun K hK => ?_) AllReadyH.nil
          have d4 := HCd.out
          go_simp
          refine hK.out _ _ hHeld (fun hHeld => ?_)
          clear hK K d4
          (try simp only [Act.put, List.setIfInBounds_toArray, List.set_cons_zero, List.set_cons_succ])
          refine take_at 8 67 (.int .i64 (X + 1)) rfl rfl (by kernel_rfl) (by kernel_rfl) (by kernel_rfl) (fun _ _ _ h => h) (Or.inl ⟨by kernel_rfl, fun w' hS' => by go_simp; rw [IntKind.wrap_i64]; omega⟩) hHeld ?_
          (try simp only [Act.put, List.setIfInBounds_toArray, List.set_cons_zero, List.set_cons_succ])
          refine take_at 9 68 (.pointer (some ⟨g2, v, none⟩)) rfl rfl (by kernel_rfl) (by kernel_rfl) (by kernel_rfl) (fun _ _ _ h => h) (Or.inl ⟨by kernel_rfl, fun w' hS' => by go_simp⟩) hHeld ?_
          (try simp only [Act.put, List.setIfInBounds_toArray, List.set_cons_zero, List.set_cons_succ])
          refine wpAnyH_ready (rs := [10]) (by kernel_rfl) (by simp) ?_
          refine AllReadyH.cons rfl (fun K hK => ?_) AllReadyH.nil
          have d4 := HCd.out
          have f4 := HFd.out
          rw [if_pos (by kernel_rfl)]
          go_simp
          refine hK.out _ _ (RowAt.other hHeld _ _ (by simp; omega)) (fun hHeld => ?_)
          clear hK K d4 f4
          (try simp only [Act.put])
          refine wpAnyH_done (by kernel_rfl) ?_ _
          refine NoPanic.normal ?_
          clear hHeld
          have HG3' : Hid (RowAt (z2.setCell ⟨g2, v, none⟩ (.int .i64 (X + 1))) w.heap.size #[.slice (some ⟨b, off, none⟩) n cap] 25) := HGd.out.other _ _ (by simp; omega)
          have HO3' : Hid (NnOwn (z2.setCell ⟨g2, v, none⟩ (.int .i64 (X + 1))) v0.heap.size wr.heap.size (.slice oa i oc) vs (numsL d i)) := ⟨own_set HOd.out.1 ⟨g2, v, none⟩ _ (fun e => by have := HOd.out.2.1 _ e; simp at this; omega), HOd.out.2.1, HOd.out.2.2.kept (fun b cs ty hb hb' _ hr => hr.other _ _ (by simp; omega))⟩
          have HB3' : Hid (Below w.heap.size w (z2.setCell ⟨g2, v, none⟩ (.int .i64 (X + 1)))) := HBd.out.setCell (by show _ ≤ g2; omega) _
          have r3 : u0.heap.size ≤ (z2.setCell ⟨g2, v, none⟩ (.int .i64 (X + 1))).heap.size := by simpa using rd
          clear HCd HFd HGd HOd HBd
          generalize (z2.setCell ⟨g2, v, none⟩ (.int .i64 (X + 1))) = y3 at HSd HG3' HO3' HB3' r3 ⊢
          have HE4 : Hid (OwnI (y3.alloc (.cells #[] 3)) y3.heap.size (.slice (some ⟨y3.heap.size, 0, none⟩) 0 0) []) := ownI_empty y3
          have HIn4 : Hid (Ints (y3.alloc (.cells #[] 3)) (some ⟨g2, 0, none⟩) (v + 1) c2 (numK d i)) := HSd.out.ints.below ((Below.refl _ _).alloc (Nat.le_refl _) _)
          go_wp2_with (first | (at_builtin; refine wpList_append_ints rfl (.tmp 70) (.tmp 71) rfl y3.heap.size (.slice (some ⟨y3.heap.size, 0, none⟩) 0 0) [] rfl HE4.out (some ⟨g2, 0, none⟩) (v + 1) c2 (numK d i) rfl HIn4.out (by simp; omega) (by simp) ?_; intro p5 c5 y5 ho5 hg5; rw [List.nil_append] at ho5; have ez : ([] : List Int).length + (v + 1) = v + 1 := (by simp); rw [ez] at ho5 ⊢; have HB5 : Hid (Below y3.heap.size y3 y5) := (((Below.refl _ _).alloc (Nat.le_refl _) _).grown hg5 (by simp) (fun k hk => by simp [Value.ownBlock] at hk; omega)); have HX5 : Hid (OwnI y5 y3.heap.size (.slice p5 (v + 1) c5) (numK d i)) := ho5; have r5 := HB5.out.size; have HA6 : Hid (Below y5.heap.size y5 (y5.alloc (.cells #[(.slice p5 (v + 1) c5)] 40))) := ((Below.refl _ _).alloc (Nat.le_refl _) _); have HO6 : Hid (NnOwn (y5.alloc (.cells #[(.slice p5 (v + 1) c5)] 40)) v0.heap.size wr.heap.size (.slice oa i oc) vs (numsL d i)) := ((HO3'.out.below (by omega) HB5.out).below (by omega) HA6.out); have HRW : Hid ((y5.alloc (.cells #[(.slice p5 (v + 1) c5)] 40)).ownsRow v0.heap.size 40 1 (.slice oa i oc) i vs) := (HVL.out ▸ HO6.out.1); have HC6 : Hid (∀ j u, [(.slice p5 (v + 1) c5)][j]? = some u → (y5.alloc (.cells #[(.slice p5 (v + 1) c5)] 40)).cell? ((⟨y5.heap.size, 0, none⟩ : Addr).add j) = some u) := (cell_new1p _ _ _); clear ho5 hg5 ez) | (at_builtin; refine wpList_append_own _ rfl (.tmp 69) (.tmp 73) 31 rfl v0.heap.size 40 i0 _ 1 24 Try.underlying31 hi0 hz0 hz1 hz2 rfl (by decide) (.slice oa i oc) i vs rfl HRW.out ⟨y5.heap.size, 0, none⟩ 1 1 [(.slice p5 (v + 1) c5)] rfl rfl HC6.out (by intro u hu; simp at hu; subst hu; rfl) (by unfold maxLen; omega) (by omega) (by simp; omega) ?_; intro v' u7 hown hgrow _; obtain ⟨oa', oc', rfl⟩ := own_shp hown))
          have s7 := hgrow.size
          simp only [World.size_alloc] at s7
          have hne : ∀ g, (Value.slice oa i oc).ownBlock = some g → v0.heap.size ≤ g := fun g hg => (own_lt HRW.out hg).1
          have hgE : ∀ g, (Value.slice oa i oc).ownBlock = some g → g < wr.heap.size := HO6.out.2.1
          have hlen : i = (numsL d i).length := by simp [numsL]
          have hN7 := nnOwn_snoc (E := wr.heap.size) (E' := y5.heap.size) HO6.out hlen (own_less (HX5.out.below HA6.out) (by omega)) (fun z hz => (own_lt HX5.out hz).2) (by omega) (by omega) (by omega) hown hgrow
          go_roundw
          case rel =>
            refine ⟨i + 1, oa', oc', vs ++ [(.slice p5 (v + 1) c5)], _, _, _, by omega, by go_num, rfl, rfl, ?_, ?_, ?_, by omega, ?_⟩
            · exact ((HG3'.out.below HB5.out (by omega)).below HA6.out (by omega)).grown hgrow (fun e => by have := hne _ e; omega)
            · rw [HNK.out]
              exact hN7
            · rw [nowD_succ]
              exact own_less (own_grown ((HSd.out.below HB5.out).below HA6.out) hgrow (fun z hz e => by have := hgE _ e; have := (own_lt HSd.out hz).1; omega)) (by omega)
            · exact ((HB3'.out.trans (HB5.out.mono (by omega))).trans (HA6.out.mono (by omega))).grown hgrow (by simp; omega) (fun k hk => by have := hne _ hk; omega)
          case measure => simp [intOf]; omega
        · subst hc1
          have z1 : ¬ (nm : Int) + 1 < (nm : Int) := by omega
          have HEa : Hid (OwnI (u0.alloc (.cells #[] 3)) u0.heap.size (.slice (some ⟨u0.heap.size, 0, none⟩) 0 0) []) := ownI_empty u0
          have HIa : Hid (Ints (u0.alloc (.cells #[] 3)) na nm nc (nowD d i)) := HI0.out.ints.below ((Below.refl _ _).alloc (Nat.le_refl _) _)
          have HN2C : Hid (nowD d i ++ [0] = N2) := by
            show nowD d i ++ [0] = N2
            rw [HNW.out, ← HN2.out]
            exact take_snoc_zero (by simp [cnL]; omega) (cnD_deep ah0 nm (by omega))
          go_upto_region 16 with (first | (at_builtin; refine wpList_append_ints rfl (.tmp 51) (.tmp 52) rfl u0.heap.size (.slice (some ⟨u0.heap.size, 0, none⟩) 0 0) [] rfl HEa.out na nm nc (nowD d i) rfl HIa.out (by simp; omega) (by simp) ?_; intro px cx x1 hox hgx; rw [List.nil_append] at hox; have ez0 : ([] : List Int).length + nm = nm := (by simp); rw [ez0] at hox ⊢; have HBx : Hid (Below u0.heap.size u0 x1) := (((Below.refl _ _).alloc (Nat.le_refl _) _).grown hgx (by simp) (fun k hk => by simp [Value.ownBlock] at hk; omega)); have HOx : Hid (OwnI (x1.alloc (.cells #[.int .i64 0] 3)) u0.heap.size (.slice px nm cx) (nowD d i)) := (hox.below ((Below.refl _ _).alloc (Nat.le_refl _) _)); have HIx : Hid (Ints (x1.alloc (.cells #[.int .i64 0] 3)) (some ⟨x1.heap.size, 0, none⟩) 1 1 [0]) := (ints_single x1); have rx := HBx.out.size) | (at_builtin; refine wpList_append_ints rfl (.tmp 53) (.tmp 54) rfl u0.heap.size (.slice px nm cx) (nowD d i) rfl HOx.out (some ⟨x1.heap.size, 0, none⟩) 1 1 [0] rfl HIx.out (by rw [← HNM.out]; omega) (by simp; omega) ?_; intro p1 c1 y0 ho1 hg1; rw [HN2C.out, ← HNM.out] at ho1; rw [← HNM.out]))
          have hB1 : Below u0.heap.size u0 y0 := (HBx.out.alloc (by omega) _).grown hg1 (by simp; omega) (fun k hk => (own_lt hox hk).1)
          have ry := hB1.size
          have HIy : Hid (OwnI y0 v0.heap.size (.slice p1 (nm + 1) c1) N2) := own_less ho1 (by omega)
          have HAy : Hid (RowAt y0 wr.heap.size #[.int .i64 2, .int .i64 nm, .slice ta tn tc, .int .i64 R, .int .i64 C, .slice ca cn cc] 39) := HA0.out.below hB1 zA
          have HGy : Hid (RowAt y0 w.heap.size #[.slice (some ⟨b, off, none⟩) n cap] 25) := HG0.out.below hB1 (by omega)
          have HOy : Hid (NnOwn y0 v0.heap.size wr.heap.size (.slice oa i oc) vs (numsL d i)) := HO0.out.below (by omega) hB1
          have HBy : Hid (Below w.heap.size w y0) := HB0.out.trans (hB1.mono (by omega))
          have sy : wr.heap.size < y0.heap.size := by omega
          clear ho1 hg1 hB1 HEa HIa HI0 HA0 HG0 HO0 HB0 q0 q1 hnm4 hnl hvl
          have zv9 : ¬ (nm : Int) + 1 ≤ (nm : Int) := by omega
          have HE1 : Hid (OwnI (y0.alloc (.cells #[] 3)) y0.heap.size (.slice (some ⟨y0.heap.size, 0, none⟩) 0 0) []) := ownI_empty y0
          have HIn1 : Hid (Ints (y0.alloc (.cells #[] 3)) p1 (nm + 1) c1 N2) := HIy.out.ints.below ((Below.refl _ _).alloc (Nat.le_refl _) _)
          go_upto_region 17 with (at_builtin; refine wpList_append_ints rfl (.tmp 56) (.tmp 57) rfl y0.heap.size (.slice (some ⟨y0.heap.size, 0, none⟩) 0 0) [] rfl HE1.out p1 (nm + 1) c1 N2 rfl HIn1.out (by simp; omega) (by simp) ?_; intro p2 c2 y2 ho2 hg2; rw [List.nil_append] at ho2; have ez : ([] : List Int).length + (nm + 1) = nm + 1 := (by simp); rw [ez] at ho2 ⊢)
          have B2 : Below y0.heap.size y0 y2 := ((Below.refl _ _).alloc (Nat.le_refl _) _).grown hg2 (by simp) (fun k hk => by simp [Value.ownBlock] at hk; omega)
          have r2 := B2.size
          have HA2 : Hid (RowAt y2 wr.heap.size #[.int .i64 2, .int .i64 nm, .slice ta tn tc, .int .i64 R, .int .i64 C, .slice ca cn cc] 39) := HAy.out.below B2 sy
          have HG2' : Hid (RowAt y2 w.heap.size #[.slice (some ⟨b, off, none⟩) n cap] 25) := HGy.out.below B2 (by omega)
          have HO2' : Hid (NnOwn y2 v0.heap.size wr.heap.size (.slice oa i oc) vs (numsL d i)) := HOy.out.below (by omega) B2
          have HB2' : Hid (Below w.heap.size w y2) := HBy.out.trans (B2.mono (by omega))
          obtain ⟨g2, rfl⟩ : ∃ g, p2 = some ⟨g, 0, none⟩ := by
            rcases ho2.row.2 with ⟨hv, hz⟩ | ⟨g', cap', cur, hv, -⟩
            · omega
            · simp only [Value.slice.injEq] at hv
              exact ⟨g', hv.1⟩
          have gl2 := own_lt ho2.row rfl
          have hx2 := ho2.ints.2.1
          have hx3 := ho2.ints.2.2.1
          unfold maxLen at hx3
          have cx : y2.cell? ⟨g2, nm, none⟩ = some (.int .i64 X) := by
            rw [ho2.row.cellAt nm (by omega), List.getElem?_map, HN2X.out]
            rfl
          have fx := ho2.row.frozenAt nm
          have OS : OwnI (y2.setCell ⟨g2, nm, none⟩ (.int .i64 (X + 1))) y0.heap.size (.slice (some ⟨g2, 0, none⟩) (nm + 1) c2) (numK d i) := by
            have h1 := (ho2.row.stored nm (.int .i64 (X + 1))).1
            rw [← List.map_set, HN2S.out] at h1
            unfold OwnI
            rw [← HNKL.out]
            exact h1
          have HCX : Hid (y2.cell? ⟨g2, nm, none⟩ = some (.int .i64 X)) := cx
          have HFX : Hid (y2.frozen? ⟨g2, nm, none⟩ = false) := fx
          have HOS : Hid (OwnI (y2.setCell ⟨g2, nm, none⟩ (.int .i64 (X + 1))) y0.heap.size (.slice (some ⟨g2, 0, none⟩) (nm + 1) c2) (numK d i)) := OS
          have gl2a : y0.heap.size ≤ g2 := gl2.1
          have gl2b : g2 < y2.heap.size := gl2.2
          clear ho2 hg2 B2 cx fx OS HE1 HIn1 HIy HAy HGy HOy HBy gl2 ez
          refine wp_region_noPanic ?_
          refine wp_region_held_drew (S := fun w' => RowAt w' wr.heap.size #[.int .i64 2, .int .i64 nm, .slice ta tn tc, .int .i64 R, .int .i64 C, .slice ca cn cc] 39) (by kernel_rfl) HA2.out.drew (fun hHeld => ?_)
          have HCd : Hid (y2.drew.cell? ⟨g2, nm, none⟩ = some (.int .i64 X)) := HCX.out
          have HFd : Hid (y2.drew.frozen? ⟨g2, nm, none⟩ = false) := HFX.out
          have HSd : Hid (OwnI (y2.drew.setCell ⟨g2, nm, none⟩ (.int .i64 (X + 1))) y0.heap.size (.slice (some ⟨g2, 0, none⟩) (nm + 1) c2) (numK d i)) := HOS.out
          have HGd : Hid (RowAt y2.drew w.heap.size #[.slice (some ⟨b, off, none⟩) n cap] 25) := HG2'.out.drew
          have HOd : Hid (NnOwn y2.drew v0.heap.size wr.heap.size (.slice oa i oc) vs (numsL d i)) := HO2'.out.below (by omega) (Below.refl _ _).drew
          have HBd : Hid (Below w.heap.size w y2.drew) := HB2'.out.drew
          have rd : y0.heap.size ≤ y2.drew.heap.size := r2
          have gd : g2 < y2.drew.heap.size := gl2b
          generalize y2.drew = z2 at hHeld HCd HFd HSd HGd HOd HBd rd gd ⊢
          clear HCX HFX HOS HG2' HO2' HB2' HA2
          refine take_at 0 59 (.slice (some ⟨g2, 0, none⟩) (nm + 1) c2) rfl rfl (by kernel_rfl) (by kernel_rfl) (by kernel_rfl) (fun _ _ _ h => h) (Or.inl ⟨by kernel_rfl, fun w' hS' => by go_simp⟩) hHeld ?_
          (try simp only [Act.put, List.setIfInBounds_toArray, List.set_cons_zero, List.set_cons_succ])
          refine take_at 1 60 (.pointer (some ⟨wr.heap.size, 1, none⟩)) rfl rfl (by kernel_rfl) (by kernel_rfl) (by kernel_rfl) (fun _ _ _ h => h) (Or.inl ⟨by kernel_rfl, fun w' hS' => by go_simp⟩) hHeld ?_
          (try simp only [Act.put, List.setIfInBounds_toArray, List.set_cons_zero, List.set_cons_succ])
          refine take_at 2 61 (.int .i64 nm) rfl rfl (by kernel_rfl) (by kernel_rfl) (by kernel_rfl) (fun _ _ _ h => h) (Or.inl ⟨by kernel_rfl, fun w' hS' => by have hc := RowAt.cell hS' 1; go_simp⟩) hHeld ?_
          (try simp only [Act.put, List.setIfInBounds_toArray, List.set_cons_zero, List.set_cons_succ])
          refine take_at 3 62 (.slice (some ⟨g2, 0, none⟩) (nm + 1) c2) rfl rfl (by kernel_rfl) (by kernel_rfl) (by kernel_rfl) (fun _ _ _ h => h) (Or.inl ⟨by kernel_rfl, fun w' hS' => by go_simp⟩) hHeld ?_
          (try simp only [Act.put, List.setIfInBounds_toArray, List.set_cons_zero, List.set_cons_succ])
          refine take_at 4 63 (.pointer (some ⟨wr.heap.size, 1, none⟩)) rfl rfl (by kernel_rfl) (by kernel_rfl) (by kernel_rfl) (fun _ _ _ h => h) (Or.inl ⟨by kernel_rfl, fun w' hS' => by go_simp⟩) hHeld ?_
          (try simp only [Act.put, List.setIfInBounds_toArray, List.set_cons_zero, List.set_cons_succ])
          refine take_at 5 64 (.int .i64 nm) rfl rfl (by kernel_rfl) (by kernel_rfl) (by kernel_rfl) (fun _ _ _ h => h) (Or.inl ⟨by kernel_rfl, fun w' hS' => by have hc := RowAt.cell hS' 1; go_simp⟩) hHeld ?_
          (try simp only [Act.put, List.setIfInBounds_toArray, List.set_cons_zero, List.set_cons_succ])
          refine take_at 6 65 (.pointer (some ⟨g2, nm, none⟩)) rfl rfl (by kernel_rfl) (by kernel_rfl) (by kernel_rfl) (fun _ _ _ h => h) (Or.inl ⟨by kernel_rfl, fun w' hS' => by go_simp⟩) hHeld ?_
          (try simp only [Act.put, List.setIfInBounds_toArray, List.set_cons_zero, List.set_cons_succ])
          refine wpAnyH_ready (rs := [7]) (by kernel_rfl) (by simp) ?_
          refine AllReadyH.cons rfl (fun K hK => ?_) AllReadyH.nil
          have d4 := HCd.out
          go_simp
          refine hK.out _ _ hHeld (fun hHeld => ?_)
          clear hK K d4
          (try simp only [Act.put, List.setIfInBounds_toArray, List.set_cons_zero, List.set_cons_succ])
          refine take_at 8 67 (.int .i64 (X + 1)) rfl rfl (by kernel_rfl) (by kernel_rfl) (by kernel_rfl) (fun _ _ _ h => h) (Or.inl ⟨by kernel_rfl, fun w' hS' => by go_simp; rw [IntKind.wrap_i64]; omega⟩) hHeld ?_
          (try simp only [Act.put, List.setIfInBounds_toArray, List.set_cons_zero, List.set_cons_succ])
          refine take_at 9 68 (.pointer (some ⟨g2, nm, none⟩)) rfl rfl (by kernel_rfl) (by kernel_rfl) (by kernel_rfl) (fun _ _ _ h => h) (Or.inl ⟨by kernel_rfl, fun w' hS' => by go_simp⟩) hHeld ?_
          (try simp only [Act.put, List.setIfInBounds_toArray, List.set_cons_zero, List.set_cons_succ])
          refine wpAnyH_ready (rs := [10]) (by kernel_rfl) (by simp) ?_
          refine AllReadyH.cons rfl (fun K hK => ?_) AllReadyH.nil
          have d4 := HCd.out
          have f4 := HFd.out
          rw [if_pos (by kernel_rfl)]
          go_simp
          refine hK.out _ _ (RowAt.other hHeld _ _ (by simp; omega)) (fun hHeld => ?_)
          clear hK K d4 f4
          (try simp only [Act.put])
          refine wpAnyH_done (by kernel_rfl) ?_ _
          refine NoPanic.normal ?_
          clear hHeld
          have HG3' : Hid (RowAt (z2.setCell ⟨g2, nm, none⟩ (.int .i64 (X + 1))) w.heap.size #[.slice (some ⟨b, off, none⟩) n cap] 25) := HGd.out.other _ _ (by simp; omega)
          have HO3' : Hid (NnOwn (z2.setCell ⟨g2, nm, none⟩ (.int .i64 (X + 1))) v0.heap.size wr.heap.size (.slice oa i oc) vs (numsL d i)) := ⟨own_set HOd.out.1 ⟨g2, nm, none⟩ _ (fun e => by have := HOd.out.2.1 _ e; simp at this; omega), HOd.out.2.1, HOd.out.2.2.kept (fun b cs ty hb hb' _ hr => hr.other _ _ (by simp; omega))⟩
          have HB3' : Hid (Below w.heap.size w (z2.setCell ⟨g2, nm, none⟩ (.int .i64 (X + 1)))) := HBd.out.setCell (by show _ ≤ g2; omega) _
          have r3 : y0.heap.size ≤ (z2.setCell ⟨g2, nm, none⟩ (.int .i64 (X + 1))).heap.size := by simpa using rd
          clear HCd HFd HGd HOd HBd
          generalize (z2.setCell ⟨g2, nm, none⟩ (.int .i64 (X + 1))) = y3 at HSd HG3' HO3' HB3' r3 ⊢
          have HE4 : Hid (OwnI (y3.alloc (.cells #[] 3)) y3.heap.size (.slice (some ⟨y3.heap.size, 0, none⟩) 0 0) []) := ownI_empty y3
          have HIn4 : Hid (Ints (y3.alloc (.cells #[] 3)) (some ⟨g2, 0, none⟩) (nm + 1) c2 (numK d i)) := HSd.out.ints.below ((Below.refl _ _).alloc (Nat.le_refl _) _)
          go_wp2_with (first | (at_builtin; refine wpList_append_ints rfl (.tmp 70) (.tmp 71) rfl y3.heap.size (.slice (some ⟨y3.heap.size, 0, none⟩) 0 0) [] rfl HE4.out (some ⟨g2, 0, none⟩) (nm + 1) c2 (numK d i) rfl HIn4.out (by simp; omega) (by simp) ?_; intro p5 c5 y5 ho5 hg5; rw [List.nil_append] at ho5; have ez : ([] : List Int).length + (nm + 1) = nm + 1 := (by simp); rw [ez] at ho5 ⊢; have HB5 : Hid (Below y3.heap.size y3 y5) := (((Below.refl _ _).alloc (Nat.le_refl _) _).grown hg5 (by simp) (fun k hk => by simp [Value.ownBlock] at hk; omega)); have HX5 : Hid (OwnI y5 y3.heap.size (.slice p5 (nm + 1) c5) (numK d i)) := ho5; have r5 := HB5.out.size; have HA6 : Hid (Below y5.heap.size y5 (y5.alloc (.cells #[(.slice p5 (nm + 1) c5)] 40))) := ((Below.refl _ _).alloc (Nat.le_refl _) _); have HO6 : Hid (NnOwn (y5.alloc (.cells #[(.slice p5 (nm + 1) c5)] 40)) v0.heap.size wr.heap.size (.slice oa i oc) vs (numsL d i)) := ((HO3'.out.below (by omega) HB5.out).below (by omega) HA6.out); have HRW : Hid ((y5.alloc (.cells #[(.slice p5 (nm + 1) c5)] 40)).ownsRow v0.heap.size 40 1 (.slice oa i oc) i vs) := (HVL.out ▸ HO6.out.1); have HC6 : Hid (∀ j u, [(.slice p5 (nm + 1) c5)][j]? = some u → (y5.alloc (.cells #[(.slice p5 (nm + 1) c5)] 40)).cell? ((⟨y5.heap.size, 0, none⟩ : Addr).add j) = some u) := (cell_new1p _ _ _); clear ho5 hg5 ez) | (at_builtin; refine wpList_append_own _ rfl (.tmp 69) (.tmp 73) 31 rfl v0.heap.size 40 i0 _ 1 24 Try.underlying31 hi0 hz0 hz1 hz2 rfl (by decide) (.slice oa i oc) i vs rfl HRW.out ⟨y5.heap.size, 0, none⟩ 1 1 [(.slice p5 (nm + 1) c5)] rfl rfl HC6.out (by intro u hu; simp at hu; subst hu; rfl) (by unfold maxLen; omega) (by omega) (by simp; omega) ?_; intro nm' u7 hown hgrow _; obtain ⟨oa', oc', rfl⟩ := own_shp hown))
          have s7 := hgrow.size
          simp only [World.size_alloc] at s7
          have hne : ∀ g, (Value.slice oa i oc).ownBlock = some g → v0.heap.size ≤ g := fun g hg => (own_lt HRW.out hg).1
          have hgE : ∀ g, (Value.slice oa i oc).ownBlock = some g → g < wr.heap.size := HO6.out.2.1
          have hlen : i = (numsL d i).length := by simp [numsL]
          have hN7 := nnOwn_snoc (E := wr.heap.size) (E' := y5.heap.size) HO6.out hlen (own_less (HX5.out.below HA6.out) (by omega)) (fun z hz => (own_lt HX5.out hz).2) (by omega) (by omega) (by omega) hown hgrow
          go_roundw
          case rel =>
            refine ⟨i + 1, oa', oc', vs ++ [(.slice p5 (nm + 1) c5)], _, _, _, by omega, by go_num, rfl, rfl, ?_, ?_, ?_, by omega, ?_⟩
            · exact ((HG3'.out.below HB5.out (by omega)).below HA6.out (by omega)).grown hgrow (fun e => by have := hne _ e; omega)
            · rw [HNK.out]
              exact hN7
            · rw [nowD_succ]
              exact own_less (own_grown ((HSd.out.below HB5.out).below HA6.out) hgrow (fun z hz e => by have := hgE _ e; have := (own_lt HSd.out hz).1; omega)) (by omega)
            · exact ((HB3'.out.trans (HB5.out.mono (by omega))).trans (HA6.out.mono (by omega))).grown hgrow (by simp; omega) (fun k hk => by have := hne _ hk; omega)
          case measure => simp [intOf]; omega
      · have hkb : (K != 2) = true := by simp [hk2]
        have HNZ : Hid (numK d i = []) := by
          show numK d i = []
          unfold numK lvN
          rw [← HXD.out]
          simp only
          rw [if_neg hk2]
          simp
        go_upto_region 11 with fail
        have I1 : OwnI (u0.alloc (.cells #[] 3)) u0.heap.size (.slice (some ⟨u0.heap.size, 0, none⟩) 0 0) [] := ownI_empty u0
        have A1 : Below u0.heap.size u0 (u0.alloc (.cells #[] 3)) := (Below.refl _ _).alloc (Nat.le_refl _) _
        clear q0 q1
        generalize (u0.alloc (.cells #[] 3)) = u1 at I1 A1 ⊢
        have t1' := A1.size
        have HO1 : Hid (NnOwn u1 v0.heap.size wr.heap.size (.slice oa i oc) vs (numsL d i)) := HO0.out.below sA A1
        have HG1 : Hid (RowAt u1 w.heap.size #[.slice (some ⟨b, off, none⟩) n cap] 25) := HG0.out.below A1 (by omega)
        have HB1 : Hid (Below w.heap.size w u1) := HB0.out.trans (A1.mono (by omega))
        have HI1 : Hid (OwnI u1 u0.heap.size (.slice (some ⟨u0.heap.size, 0, none⟩) 0 0) []) := I1
        clear I1 A1 HO0 HG0 HB0 HI0 HA0
        have A3 : Below u1.heap.size u1 ((u1.alloc (.cells #[] 3)).alloc (.cells #[(.slice (some ⟨u1.heap.size, 0, none⟩) 0 0)] 40)) := ((Below.refl _ _).alloc (Nat.le_refl _) _).alloc (by simp) _
        have X3 : OwnI ((u1.alloc (.cells #[] 3)).alloc (.cells #[(.slice (some ⟨u1.heap.size, 0, none⟩) 0 0)] 40)) u1.heap.size (.slice (some ⟨u1.heap.size, 0, none⟩) 0 0) [] := (ownI_empty u1).below ((Below.refl _ _).alloc (Nat.le_refl _) _)
        have HX3 : Hid (OwnI ((u1.alloc (.cells #[] 3)).alloc (.cells #[(.slice (some ⟨u1.heap.size, 0, none⟩) 0 0)] 40)) u1.heap.size (.slice (some ⟨u1.heap.size, 0, none⟩) 0 0) []) := X3
        have HA3 : Hid (Below u1.heap.size u1 ((u1.alloc (.cells #[] 3)).alloc (.cells #[(.slice (some ⟨u1.heap.size, 0, none⟩) 0 0)] 40))) := A3
        have HO3 : Hid (NnOwn ((u1.alloc (.cells #[] 3)).alloc (.cells #[(.slice (some ⟨u1.heap.size, 0, none⟩) 0 0)] 40)) v0.heap.size wr.heap.size (.slice oa i oc) vs (numsL d i)) := HO1.out.below (by omega) A3
        have HRW : Hid (((u1.alloc (.cells #[] 3)).alloc (.cells #[(.slice (some ⟨u1.heap.size, 0, none⟩) 0 0)] 40)).ownsRow v0.heap.size 40 1 (.slice oa i oc) i vs) := by
          have h1 := HO3.out.1
          rw [HVL.out] at h1
          exact h1
        have HC3 : Hid (∀ j u, [(.slice (some ⟨u1.heap.size, 0, none⟩) 0 0)][j]? = some u → ((u1.alloc (.cells #[] 3)).alloc (.cells #[(.slice (some ⟨u1.heap.size, 0, none⟩) 0 0)] 40)).cell? ((⟨(u1.alloc (.cells #[] 3)).heap.size, 0, none⟩ : Addr).add j) = some u) := cell_new1p _ _ _
        have e2 : (u1.alloc (.cells #[] 3)).heap.size = u1.heap.size + 1 := by simp
        rw [e2] at HC3
        clear A3 X3 e2
        go_wp2_with (at_builtin; refine wpList_append_own _ rfl (.tmp 29) (.tmp 31) 31 rfl v0.heap.size 40 i0 _ 1 24 Try.underlying31 hi0 hz0 hz1 hz2 rfl (by decide) (.slice oa i oc) i vs rfl HRW.out ⟨u1.heap.size + 1, 0, none⟩ 1 1 [(.slice (some ⟨u1.heap.size, 0, none⟩) 0 0)] rfl rfl HC3.out (by intro u hu; simp at hu; subst hu; rfl) (by unfold maxLen; omega) (by omega) (by simp; omega) ?_; intro v' u7 hown hgrow _; obtain ⟨oa', oc', rfl⟩ := own_shp hown)
        have s7 := hgrow.size
        simp only [World.size_alloc] at s7
        have hne : ∀ g, (Value.slice oa i oc).ownBlock = some g → v0.heap.size ≤ g := fun g hg => (own_lt HRW.out hg).1
        have hgE : ∀ g, (Value.slice oa i oc).ownBlock = some g → g < wr.heap.size := HO3.out.2.1
        have hlen : i = (numsL d i).length := by simp [numsL]
        have hN7 := nnOwn_snoc (E := wr.heap.size) (E' := u1.heap.size + 1) HO3.out hlen (own_less HX3.out (by omega)) (fun z hz => by simp [Value.ownBlock] at hz; omega) (by omega) (by omega) (by omega) hown hgrow
        go_roundw
        case rel =>
          refine ⟨i + 1, oa', oc', vs ++ [(.slice (some ⟨u1.heap.size, 0, none⟩) 0 0)], _, _, _, by omega, by go_num, rfl, rfl, ?_, ?_, ?_, by omega, ?_⟩
          · exact (HG1.out.below HA3.out (by omega)).grown hgrow (fun e => by have := hne _ e; omega)
          · rw [HNK.out, HNZ.out]
            exact hN7
          · rw [nowD_succ, HNZ.out]
            exact own_less (own_grown (HI1.out.below HA3.out) hgrow (fun z hz e => by have := hgE _ e; simp [Value.ownBlock] at hz; omega)) (by omega)
          · exact (HB1.out.trans (HA3.out.mono (by omega))).grown hgrow (by simp; omega) (fun k hk => by have := hne _ hk; omega)
        case measure => simp [intOf]; omega
    · have hib : ¬ (i : Int) < (n : Int) := by omega
      obtain rfl : i = n := by omega
      go_wp2_with fail
      go_ret
      have e1 : numsL d i = numsL d d.length := by rw [HN.out]
      exact ⟨⟨oa, i, oc, rfl, by rw [← e1]; exact HO.out.nn⟩, HB.out⟩
end Go.Proofs.Ytoliebgdlnjahaa
namespace Go.Proofs.Ytoliebgdlnjahaa
open Go.RowKit

theorem numsL_at {d : List Bl} {i : Nat} (h : i < d.length) : (numsL d d.length).getD i [] = numK d i := by simp [numsL, List.getD, h]
theorem getC (c : Cn) (j : Nat) : (cnL c).getD j 0 = if j = 0 then c.1 else if j = 1 then c.2.1 else if j = 2 then c.2.2.1 else if j = 3 then c.2.2.2 else 0 := by
  rcases j with _ | _ | _ | _ | j <;> simp [cnL]
/-- In a document that is ok each level down to an item's own has been counted. -/
theorem cnD_pos {d : List Bl} (hd : docB d = true) : ∀ i, i ≤ d.length → ∀ j : Nat, (j : Int) ≤ aheadN d i → 1 ≤ (cnL (cnD d i)).getD j 0 := by
  obtain ⟨hn8, hall, hou⟩ := (doc_parts2 d).1 hd
  have hok := ((outl_iff d).1 hou).2
  intro i
  induction i with
  | zero => intro _ j hj; simp [aheadN] at hj; omega
  | succ i ih =>
    intro hi j hj
    have hi' : i < d.length := by omega
    have hl := (hok i hi').2
    have ea : aheadN d (i + 1) = lvN (d.getD i bl0) := by unfold aheadN; rw [if_neg (by omega), Nat.add_sub_cancel]
    rw [ea] at hj
    have hsm := lv_small (outlB_part hou hi')
    show 1 ≤ (cnL (withC (cnD d i) (lvN (d.getD i bl0)))).getD j 0
    have hih := ih (by omega)
    have hcn := cnD_ok d i
    generalize lvN (d.getD i bl0) = v at *
    have hb := hih
    obtain ⟨c, hc⟩ : ∃ c, c = cnD d i := ⟨_, rfl⟩
    rw [← hc] at hih hcn ⊢
    obtain ⟨c0, c1, c2, c3⟩ := c
    unfold CnOk at hcn
    simp only at hcn
    have h0 : 0 ≤ v := by omega
    have p0 := hih 0
    have p1 := hih 1
    have p2 := hih 2
    have p3 := hih 3
    simp only [getC] at p0 p1 p2 p3 ⊢
    unfold withC
    rcases (show v = 0 ∨ v = 1 ∨ v = 2 ∨ v = 3 by omega) with rfl | rfl | rfl | rfl <;> rcases (show j = 0 ∨ j = 1 ∨ j = 2 ∨ j = 3 by omega) with rfl | rfl | rfl | rfl <;> simp at * <;> omega
theorem nums_facts {d : List Bl} (hd : docB d = true) {i : Nat} (hi : i < d.length) : (numK d i).length = (if (d.getD i bl0).1 = 2 then (d.getD i bl0).2.1.toNat + 1 else 0) ∧ ((d.getD i bl0).1 = 2 → 0 ≤ (d.getD i bl0).2.1 ∧ (d.getD i bl0).2.1 ≤ 3) ∧ ∀ x ∈ numK d i, 1 ≤ x := by
  obtain ⟨hn8, hall, hou⟩ := (doc_parts2 d).1 hd
  have hok := ((outl_iff d).1 hou).2
  have hsm := lv_small (outlB_part hou hi)
  have hp := outlB_part hou hi
  have hv : (d.getD i bl0).1 = 2 → 0 ≤ (d.getD i bl0).2.1 ∧ (d.getD i bl0).2.1 ≤ 3 := fun h2 => by
    unfold partOkB at hp
    rw [if_neg (by omega), if_pos h2, Bool.and_eq_true, decide_eq_true_eq] at hp
    exact hp.1
  refine ⟨?_, hv, fun x hx => ?_⟩
  · unfold numK
    have : (cnL (cnD d (i + 1))).length = 4 := rfl
    rw [List.length_take, this]
    unfold lvN
    split
    · rename_i h2
      have := hv h2
      omega
    · rfl
  · unfold numK at hx
    obtain ⟨j, hj, rfl⟩ := List.mem_iff_getElem.1 hx
    rw [List.length_take] at hj
    have h1 := cnD_pos hd (i + 1) (by omega) j (by unfold aheadN; rw [if_neg (by omega), Nat.add_sub_cancel]; omega)
    rw [List.getElem_take]
    have h2 : (cnL (cnD d (i + 1))).getD j 0 = (cnL (cnD d (i + 1)))[j] := by simp [List.getD, show j < (cnL (cnD d (i + 1))).length by omega]
    rw [← h2]
    exact h1
end Go.Proofs.Ytoliebgdlnjahaa
namespace Go.Proofs.Ytoliebgdlnjahaa
open Go.RowKit

theorem take_eq_int (l m : List Int) (k : Nat) (h : k < l.length) (hl : l.length = m.length) (he : l.take k = m.take k) (hs : l.getD k 0 = m.getD k 0) : l.take (k + 1) = m.take (k + 1) := by
  rw [List.take_succ_eq_append_getElem h, List.take_succ_eq_append_getElem (by omega), he]
  simp [List.getD, h, show k < m.length by omega] at hs
  rw [hs]

set_option maxRecDepth 100000 in
set_option maxHeartbeats 1000000 in
theorem lmInts_any (a : Option Addr) (n cap : Nat) (l : List Int) (a' : Option Addr) (n' cap' : Nat) (m : List Int) (w : World) (h : Ints w a n cap l) (h' : Ints w a' n' cap' m) :
    Calls Try.prog 37 #[.slice a n cap, .slice a' n' cap'] w fun e w' => e = .returned (.bool (decide (l = m))) ∧ ∃ q, w' = w.drewN q := by
  obtain ⟨rfl, hc, hm, hl⟩ := h
  obtain ⟨rfl, hc', hm', hl'⟩ := h'
  unfold maxLen at hm hm'
  by_cases hlen : l.length = m.length
  · have hbq : ((l.length : Int) != (m.length : Int)) = false := by simp [hlen]
    rcases hl with rfl | ⟨b, off, rfl, hbw, hl⟩
    · obtain rfl : m = [] := List.eq_nil_of_length_eq_zero (by simpa using hlen.symm)
      go_enter Try.func37, Try.ntmps37
      go_wp2_with fail
      refine wp_loop_rounds 1 ?_
      rw [rounds_succ]
      go_wp2_with fail
      go_ret
      exact ⟨rfl, 0, rfl⟩
    · rcases hl' with rfl | ⟨b', off', rfl, hbw', hl'⟩
      · obtain rfl : l = [] := List.eq_nil_of_length_eq_zero (by simpa using hlen)
        go_enter Try.func37, Try.ntmps37
        go_wp2_with fail
        refine wp_loop_rounds 1 ?_
        rw [rounds_succ]
        go_wp2_with fail
        go_ret
        exact ⟨rfl, 0, rfl⟩
      · have HL : Hid (l.length = m.length) := hlen
        have hl1 : l.length ≤ m.length := by omega
        have hl2 : m.length ≤ l.length := by omega
        clear hlen
        go_enter Try.func37, Try.ntmps37
        go_wp2_with fail
        go_loopw [5] (fun i wr => ∃ (k q : Nat), k ≤ l.length ∧ i = .int .i64 k ∧ l.take k = m.take k ∧ wr = w.drewN q) (fun i _ => l.length - (intOf i).toNat)
        case atStart => exact ⟨0, 0, Nat.zero_le _, rfl, by simp, rfl⟩
        case round =>
          obtain ⟨k, q, hk, rfl, ht, rfl⟩ := hrel
          have HT : Hid (l.take k = m.take k) := ht
          clear ht
          by_cases hlt : k < l.length
          · have hlt' : k < m.length := by omega
            have hi1 : (k : Int) < (l.length : Int) := by omega
            have hi2 : (k : Int) < (m.length : Int) := by omega
            have c0 := hl k hlt
            have d0 := hl' k hlt'
            clear hl hl'
            obtain ⟨s, hs⟩ : ∃ s, s = l.getD k 0 := ⟨_, rfl⟩
            obtain ⟨t, ht⟩ : ∃ t, t = m.getD k 0 := ⟨_, rfl⟩
            rw [← hs] at c0
            rw [← ht] at d0
            have HS : Hid (s = l.getD k 0) := hs
            have HM : Hid (t = m.getD k 0) := ht
            clear hs ht
            by_cases hb : s = t
            · have HB : Hid (s = t) := hb
              have hbb : (s != t) = false := by simp [hb]
              clear hb
              go_wp2_with fail
              go_quiet (fail)
              go_wp2_with fail
              go_roundw
              case rel => exact ⟨k + 1, q + nq, by omega, by go_num, take_eq_int l m k hlt HL.out HT.out (by rw [← HS.out, ← HM.out]; exact HB.out), by first | rfl | rw [World.drewN_drewN]⟩
              case measure => simp [intOf]; omega
            · have HF : Hid (decide (l = m) = false) := decide_eq_false (fun e => hb (by rw [HS.out, HM.out, e]))
              have hbb : (s != t) = true := by simp [hb]
              clear hb
              go_wp2_with fail
              go_quiet (fail)
              go_wp2_with fail
              go_ret
              exact ⟨by rw [HF.out]; rfl, q + nq, by first | rfl | rw [World.drewN_drewN]⟩
          · go_wp2_with fail
            go_ret
            refine ⟨?_, q, rfl⟩
            have := HT.out
            rw [List.take_of_length_le (by omega), List.take_of_length_le (by omega)] at this
            rw [decide_eq_true this]; rfl
  · have hbq : ((l.length : Int) != (m.length : Int)) = true := by simp; omega
    rw [decide_eq_false (fun e => hlen (by rw [e]))]
    go_enter Try.func37, Try.ntmps37
    go_wp2_with fail
    go_ret
    exact ⟨rfl, 0, rfl⟩

theorem lmInts_same {a : Option Addr} {n cap : Nat} {l : List Int} {a' : Option Addr} {n' cap' : Nat} {w : World} (h : Ints w a n cap l) (h' : Ints w a' n' cap' l) :
    Calls Try.prog 37 #[.slice a n cap, .slice a' n' cap'] w fun e w' => e = .returned (.bool true) ∧ Below w.heap.size w w' := by
  refine (lmInts_any a n cap l a' n' cap' l w h h').mono ?_
  rintro e w' ⟨rfl, q, rfl⟩
  exact ⟨by simp, below_drewN (Below.refl _ _) _⟩

end Go.Proofs.Ytoliebgdlnjahaa
namespace Go.Proofs.Ytoliebgdlnjahaa
open Go.RowKit

set_option maxRecDepth 100000 in
set_option maxHeartbeats 4000000 in
theorem lmRows_same {a : Option Addr} {n cap : Nat} {a' : Option Addr} {n' cap' : Nat} {nss : List (List Int)} {w : World} (h : Nn w a n cap nss) (h' : Nn w a' n' cap' nss) :
    Calls Try.prog 18 #[.slice a n cap, .slice a' n' cap'] w fun e w' => e = .returned (.bool true) ∧ Below w.heap.size w w' := by
  obtain ⟨rfl, hc, hm, hl⟩ := h
  obtain ⟨rfl, hc', hm', hl'⟩ := h'
  unfold maxLen at hm hm'
  have hbq : ((nss.length : Int) != (nss.length : Int)) = false := by simp
  have HL : Hid (nss = [] ∨ ∃ b off, a = some ⟨b, off, none⟩ ∧ b < w.heap.size ∧ ∀ k, k < nss.length → ∃ p m q, w.cell? ⟨b, off + k, none⟩ = some (.slice p m q) ∧ Ints w p m q (nss.getD k [])) := hl
  have HL' : Hid (nss = [] ∨ ∃ b off, a' = some ⟨b, off, none⟩ ∧ b < w.heap.size ∧ ∀ k, k < nss.length → ∃ p m q, w.cell? ⟨b, off + k, none⟩ = some (.slice p m q) ∧ Ints w p m q (nss.getD k [])) := hl'
  clear hl hl'
  go_enter Try.func18, Try.ntmps18
  go_wp2_with fail
  go_loopw [5] (fun i wr => ∃ (k : Nat), k ≤ nss.length ∧ i = .int .i64 k ∧ Below w.heap.size w wr) (fun i _ => nss.length - (intOf i).toNat)
  case atStart => exact ⟨0, Nat.zero_le _, rfl, Below.refl _ _⟩
  case round =>
    obtain ⟨k, hk, rfl, hbl⟩ := hrel
    have hsz := hbl.size
    have HB : Hid (Below w.heap.size w wr) := hbl
    by_cases hlt : k < nss.length
    · rcases HL.out with e | ⟨b, off, rfl, hbw, hl⟩
      · rw [e] at hlt
        exact absurd hlt (by simp)
      rcases HL'.out with e | ⟨b', off', rfl, hbw', hl'⟩
      · rw [e] at hlt
        exact absurd hlt (by simp)
      obtain ⟨p, m, q, c0, ht⟩ := hl k hlt
      obtain ⟨p', m', q', c0', ht'⟩ := hl' k hlt
      have d0 := (hbl.cell (p := ⟨b, off + k, none⟩) hbw).trans c0
      have d0' := (hbl.cell (p := ⟨b', off' + k, none⟩) hbw').trans c0'
      have HT : Hid (Ints wr p m q (nss.getD k [])) := ht.below hbl
      have HT' : Hid (Ints wr p' m' q' (nss.getD k [])) := ht'.below hbl
      clear hl hl' c0 c0' ht ht' hbl
      go_wp2_with fail
      go_region_with (go_at_call 37; refine (lmInts_same (HT.out.below (Below.refl _ _).drew) (HT'.out.below (Below.refl _ _).drew)).mono ?_; rintro e w1 ⟨rfl, hb1⟩)
      all_goals
        go_wp2_with fail
        go_roundw
        case rel => exact ⟨k + 1, by omega, by go_num, HB.out.drew.trans (hb1.mono hsz)⟩
        case measure => simp [intOf]; omega
    · go_wp2_with fail
      go_ret
      exact ⟨rfl, HB.out⟩
end Go.Proofs.Ytoliebgdlnjahaa
namespace Go.Proofs.Ytoliebgdlnjahaa
open Go.RowKit

/-- How many of a level there are ahead of a block. -/
def cvD (d : List Bl) (v i : Nat) : Int := (cnL (cnD d i)).getD v 0
theorem cvD_zero (d : List Bl) (v : Nat) : cvD d v 0 = 0 := by
  unfold cvD
  show (cnL (0, 0, 0, 0)).getD v 0 = 0
  rw [getC]
  repeat' split
  all_goals rfl
theorem cvD_less {d : List Bl} {v j : Nat} (hv : v ≤ 3) (h : lvN (d.getD j bl0) < v) : cvD d v (j + 1) = 0 := by
  unfold cvD
  show (cnL (withC (cnD d j) (lvN (d.getD j bl0)))).getD v 0 = 0
  generalize lvN (d.getD j bl0) = u at *
  obtain ⟨c0, c1, c2, c3⟩ := cnD d j
  rw [getC]
  unfold withC
  rcases (show v = 0 ∨ v = 1 ∨ v = 2 ∨ v = 3 by omega) with rfl | rfl | rfl | rfl <;> by_cases u0 : u = 0 <;> by_cases u1 : u = 1 <;> by_cases u2 : u = 2 <;> by_cases u3 : u = 3 <;> simp [u0, u1, u2, u3] <;> omega
theorem cvD_more {d : List Bl} {v j : Nat} {u : Int} (hv : v ≤ 3) (hu : lvN (d.getD j bl0) = u) (h : v ≤ u) (h3 : u ≤ 3) : cvD d v (j + 1) = cvD d v j + if u = v then 1 else 0 := by
  unfold cvD
  show (cnL (withC (cnD d j) (lvN (d.getD j bl0)))).getD v 0 = _
  rw [hu]
  obtain ⟨c0, c1, c2, c3⟩ := cnD d j
  rw [getC, getC]
  unfold withC
  rcases (show v = 0 ∨ v = 1 ∨ v = 2 ∨ v = 3 by omega) with rfl | rfl | rfl | rfl <;> rcases (show u = 0 ∨ u = 1 ∨ u = 2 ∨ u = 3 by omega) with rfl | rfl | rfl | rfl <;> first | (exfalso; omega) | simp
theorem cvD_le (d : List Bl) (v i : Nat) : 0 ≤ cvD d v i ∧ cvD d v i ≤ 100 + i := by
  have := cnD_ok d i
  unfold cvD
  rw [getC]
  unfold CnOk at this
  repeat' split
  all_goals omega
theorem numK_last {d : List Bl} {i v : Nat} (hk : (d.getD i bl0).1 = 2) (hv : (d.getD i bl0).2.1 = v) (hv3 : v ≤ 3) : (numK d i).getD v 0 = cvD d v i + 1 := by
  have hl : lvN (d.getD i bl0) = v := by unfold lvN; rw [if_pos hk, hv]
  have e := cvD_more (j := i) hv3 hl (Int.le_refl _) (by omega)
  rw [if_pos rfl] at e
  rw [← e]
  unfold numK cvD
  rw [hl, show ((v : Int) + 1).toNat = v + 1 by omega]
  simp [List.getD]
set_option maxRecDepth 100000 in
set_option maxHeartbeats 16000000 in
theorem lawDocNext_walk (a : Option Addr) (n cap : Nat) (zs : List Int) (w : World) (h : Byt w.heap.size w a n cap zs) :
    Calls Try.prog 7 #[.slice a n cap] w fun e w' => e = .returned (.bool true) ∧ Below w.heap.size w w' := by
  have HY : Hid (Byt w.heap.size w a n cap zs) := h
  have hc := h.2.1
  have hm := h.2.2.1
  unfold maxLen at hm
  clear h
  by_cases hn : 1048576 < n
  · have hd : decide ((1048576 : Int) < (n : Int)) = true := by simp; omega
    go_enter Try.func7, Try.ntmps7
    go_wp2_with fail
    go_ret
    exact ⟨rfl, Below.refl _ _⟩
  have hd : decide ((1048576 : Int) < (n : Int)) = false := by simp; omega
  go_enter Try.func7, Try.ntmps7
  go_upto_region 4 with (go_at_call 16; refine (drDrawDocNums_any w.heap.size a n cap zs _ HY.out (Nat.le_refl _)).mono ?_; rintro e w1 ⟨⟨a', m', c', d, rfl, hT1, hS1⟩, hb1⟩)
  have s1 := hb1.size
  have G2 : RowAt (w1.alloc (.cells #[.slice a' m' c'] 25)) w1.heap.size #[.slice a' m' c'] 25 := rowAt_new _ _ _
  have T2 : Dc (w1.alloc (.cells #[.slice a' m' c'] 25)) a' m' c' d := hT1.below ((Below.refl _ _).alloc (Nat.le_refl _) _)
  have B2 : Below w.heap.size w (w1.alloc (.cells #[.slice a' m' c'] 25)) := hb1.alloc s1 _
  generalize (w1.alloc (.cells #[.slice a' m' c'] 25)) = v2 at G2 T2 B2 ⊢
  obtain ⟨T, hTe⟩ : ∃ T, w1.heap.size = T := ⟨_, rfl⟩
  rw [hTe] at G2 ⊢
  have zT := G2.lt
  have s2 := B2.size
  have HT2 : Hid (Dc v2 a' m' c' d) := T2
  have HB2 : Hid (Below w.heap.size w v2) := B2
  have HG2 : Hid (RowAt v2 T #[.slice a' m' c'] 25) := G2
  have hcm := hT1.2.1
  have hcm2 := hT1.2.2.1
  have HML : Hid (m' = d.length) := hT1.1
  unfold maxLen at hcm2
  have hm9 : m' ≤ 9 := by rw [HML.out]; exact hS1.1
  have k2 : v2.cell? ⟨T, 0, none⟩ = some (.slice a' m' c') := G2.cell 0
  clear hT1 hb1 T2 B2 G2 hTe hS1 hn hd
  obtain ⟨ok, HO⟩ : ∃ o, Hid (docB d = o) := ⟨_, rfl⟩
  obtain ⟨r, HRR⟩ : ∃ r, Hid ((if docB d = true then numsL d d.length else []) = r) := ⟨_, rfl⟩
  have HSP : Hid (∀ {a : Option Addr} {n cap : Nat} {u : World}, Dc u a n cap d → Calls Try.prog 19 #[.agg #[.slice a n cap]] u fun e w' => (∃ p m q, e = .returned (.slice p m q) ∧ Nn w' p m q r) ∧ Below u.heap.size u w') := fun hu => (specDocNums_any hu).mono fun e w' hr => by
    rw [HRR.out] at hr
    exact hr
  have HIM : Hid (∀ {a : Option Addr} {n cap : Nat} {u : World}, Dc u a n cap d → Calls Try.prog 17 #[.agg #[.slice a n cap]] u fun e w' => (∃ p m q, e = .returned (.slice p m q) ∧ Nn w' p m q r) ∧ Below u.heap.size u w') := fun hu => (implDocNums_any hu).mono fun e w' hr => by
    rw [HRR.out] at hr
    obtain ⟨⟨p, m, q, vs, e1, e2⟩, hb⟩ := hr
    exact ⟨⟨p, m, q, e1, e2.nn⟩, hb⟩
  go_wp2_with fail
  refine (HIM.out HT2.out).mono ?_
  rintro e w3 ⟨⟨p, m, q, rfl, hN3⟩, hb3⟩
  have s3 := hb3.size
  have HT3 : Hid (Dc w3 a' m' c' d) := HT2.out.below hb3
  have HG3 : Hid (RowAt w3 T #[.slice a' m' c'] 25) := HG2.out.below hb3 zT
  have HB3 : Hid (Below w.heap.size w w3) := HB2.out.trans (hb3.mono s2)
  have HN3 : Hid (Nn w3 p m q r) := hN3
  have k3 : w3.cell? ⟨T, 0, none⟩ = some (.slice a' m' c') := HG3.out.cell 0
  clear hb3 HT2 HG2 HB2 k2 hN3 HIM
  go_wp2_with fail
  refine (HSP.out HT3.out).mono ?_
  rintro e w4 ⟨⟨p4, m4, q4, rfl, hN4⟩, hb4⟩
  have s4 := hb4.size
  have HT4 : Hid (Dc w4 a' m' c' d) := HT3.out.below hb4
  have HG4 : Hid (RowAt w4 T #[.slice a' m' c'] 25) := HG3.out.below hb4 (by omega)
  have HB4 : Hid (Below w.heap.size w w4) := HB3.out.trans (hb4.mono (by omega))
  have HN4 : Hid (Nn w4 p m q r) := HN3.out.below hb4
  have HM4 : Hid (Nn w4 p4 m4 q4 r) := hN4
  clear hb4 HT3 HG3 HB3 k3 hN4 HN3
  go_wp2_with fail
  refine (lmRows_same HN4.out HM4.out).mono ?_
  rintro e w5 ⟨rfl, hb5⟩
  have s5 := hb5.size
  have HT5 : Hid (Dc w5 a' m' c' d) := HT4.out.below hb5
  have HG5 : Hid (RowAt w5 T #[.slice a' m' c'] 25) := HG4.out.below hb5 (by omega)
  have HB5 : Hid (Below w.heap.size w w5) := HB4.out.trans (hb5.mono (by omega))
  have HN5 : Hid (Nn w5 p m q r) := HN4.out.below hb5
  have k5 : w5.cell? ⟨T, 0, none⟩ = some (.slice a' m' c') := HG5.out.cell 0
  clear hb5 HT4 HG4 HB4 HM4 HN4
  go_wp2_with fail
  refine (specDocOk_is HO.out HT5.out).mono ?_
  rintro e w6 ⟨rfl, hb6⟩
  have s6 := hb6.size
  have HT6 : Hid (Dc w6 a' m' c' d) := HT5.out.below hb6
  have HG6 : Hid (RowAt w6 T #[.slice a' m' c'] 25) := HG5.out.below hb6 (by omega)
  have HB6 : Hid (Below w.heap.size w w6) := HB5.out.trans (hb6.mono (by omega))
  have HN6 : Hid (Nn w6 p m q r) := HN5.out.below hb6
  have k6 : w6.cell? ⟨T, 0, none⟩ = some (.slice a' m' c') := HG6.out.cell 0
  clear hb6 HT5 HG5 HB5 HN5 k5
  cases ok
  · go_wp2_with fail
    refine (HSP.out HT6.out).mono ?_
    rintro e w7 ⟨⟨p7, m7, q7, rfl, hN7⟩, hb7⟩
    have s7 := hb7.size
    go_wp2_with fail
    refine (lmRows_same (HN6.out.below hb7) hN7).mono ?_
    rintro e w8 ⟨rfl, hb8⟩
    go_wp2_with fail
    go_ret
    exact ⟨rfl, (HB6.out.trans (hb7.mono (by have := HB6.out.size; omega))).trans (hb8.mono (by have := HB6.out.size; omega))⟩
  have HRE : Hid (r = numsL d d.length) := by
    have h1 := HRR.out
    rw [if_pos HO.out] at h1
    exact h1.symm
  have HMR : Hid (m = m') := by
    have h1 := HN6.out.1
    rw [HRE.out] at h1
    have h2 := HML.out
    show m = m'
    simp [numsL] at h1
    omega
  clear HSP HRR
  go_wp2_with fail
  go_loopg [5, 6, 7] m (fun gk iv _ _ wr => ∃ (i : Nat), i ≤ m ∧ gk = m - i ∧ iv = .int .i64 (i : Int) ∧ Below w6.heap.size w6 wr)
  case atStart => exact ⟨0, Nat.zero_le _, rfl, rfl, Below.refl _ _⟩
  case round =>
    obtain ⟨i, hi, hgk, rfl, hbl⟩ := hrel
    have hsz := hbl.size
    have HGK : Hid (gk = m - i) := hgk
    clear hgk
    have HBW : Hid (Below w6.heap.size w6 wr) := hbl
    have HG : Hid (RowAt wr T #[.slice a' m' c'] 25) := HG6.out.below hbl HG6.out.lt
    have HT : Hid (Dc wr a' m' c' d) := HT6.out.below hbl
    have HN : Hid (Nn wr p m q r) := HN6.out.below hbl
    have HB : Hid (Below w.heap.size w wr) := HB6.out.trans (hbl.mono (by have := HB6.out.size; omega))
    have hmc := HN.out.2.1
    have hmx := HN.out.2.2.1
    unfold maxLen at hmx
    clear hbl k6
    have hmm : m ≤ m' ∧ m' ≤ m := by have := HMR.out; omega
    by_cases hlt : i < m
    · have hid : i < d.length := by have := HML.out; omega
      have hib : (i : Int) < (m : Int) := by omega
      have hib2 : (i : Int) < (m' : Int) := by omega
      have hii : (0 : Int) ≤ (i : Int) := by omega
      rcases HT.out.2.2.2 with e | ⟨b, off, rfl, hbw, hcl⟩
      · rw [e] at hid
        exact absurd hid (by simp)
      rcases HN.out.2.2.2 with e | ⟨bn, offn, rfl, hbnw, hnl⟩
      · have h1 := HN.out.1
        rw [e] at h1
        simp at h1
        omega
      obtain ⟨ta, tn, tc, ca, cn, cc, c0, c1, -⟩ := hcl i hid
      obtain ⟨pi, mi, qi, c6, hin⟩ := hnl i (by rw [← HN.out.1]; exact hlt)
      have HCL : Hid (∀ k, k < d.length → wr.cell? ⟨b, off + k * 6, none⟩ = some (.int .i64 (d.getD k bl0).1) ∧ wr.cell? ⟨b, off + k * 6 + 1, none⟩ = some (.int .i64 (d.getD k bl0).2.1)) := fun k hk => by
        obtain ⟨_, _, _, _, _, _, x0, x1, -⟩ := hcl k hk
        exact ⟨x0, x1⟩
      have d0 : wr.cell? ⟨T, 0, none⟩ = some (.slice (some ⟨b, off, none⟩) m' c') := HG.out.cell 0
      obtain ⟨K, hK⟩ : ∃ K, (d.getD i bl0).1 = K := ⟨_, rfl⟩
      obtain ⟨V, hV⟩ : ∃ V, (d.getD i bl0).2.1 = V := ⟨_, rfl⟩
      rw [hK] at c0
      rw [hV] at c1
      have HKV : Hid ((d.getD i bl0).1 = K ∧ (d.getD i bl0).2.1 = V) := ⟨hK, hV⟩
      have HIN : Hid (Ints wr pi mi qi (numK d i)) := by
        rw [HRE.out, numsL_at hid] at hin
        exact hin
      clear hcl hnl hin hK hV HT HN hmm
      by_cases hk2 : K = 2
      · subst hk2
        have hnf := nums_facts HO.out hid
        have hv := hnf.2.1 HKV.out.1
        rw [HKV.out.2] at hv
        obtain ⟨v, rfl⟩ : ∃ v : Nat, V = v := ⟨V.toNat, by omega⟩
        have hv3 : v ≤ 3 := by omega
        have hlen : mi = v + 1 := by
          have h1 := hnf.1
          rw [if_pos HKV.out.1, HKV.out.2] at h1
          have h2 := HIN.out.1
          omega
        have hmq := HIN.out.2.1
        have hmq2 := HIN.out.2.2.1
        unfold maxLen at hmq2
        have hvn : v < (numK d i).length := by rw [← HIN.out.1, hlen]; omega
        rcases HIN.out.2.2.2 with e | ⟨bi, offi, rfl, hbiw, hil⟩
        · rw [e] at hvn
          exact absurd hvn (by simp)
        have q3 := hil v hvn
        rw [numK_last HKV.out.1 HKV.out.2 hv3] at q3
        obtain ⟨x, HXE⟩ : ∃ x, Hid (x = cvD d v i + 1) := ⟨_, rfl⟩
        rw [← HXE.out] at q3
        have hvm : (v : Int) < (mi : Int) := by omega
        have hvz : (0 : Int) ≤ (v : Int) := by omega
        have hmm2 : m ≤ m' ∧ m' ≤ m := by have := HMR.out; omega
        clear hil hnf hlen hvn
        have HC : Hid (wr.cell? ⟨T, 0, none⟩ = some (.slice (some ⟨b, off, none⟩) m' c') ∧ wr.cell? ⟨bn, offn + i, none⟩ = some (.slice (some ⟨bi, offi, none⟩) mi qi) ∧ wr.cell? ⟨b, off + i * 6 + 1, none⟩ = some (.int .i64 (v : Int)) ∧ wr.cell? ⟨bi, offi + v, none⟩ = some (.int .i64 x)) := ⟨d0, c6, c1, q3⟩
        have zT0 := HG.out.lt
        obtain ⟨w0, hw0⟩ : ∃ u, u = wr := ⟨wr, rfl⟩
        subst wr
        go_wp2_with fail
        clear q3 c6 c1 d0 c0
        go_loopw [6, 7] (fun nv kv wu => ∃ (kk : Nat), kk ≤ i ∧ kv = .int .i64 ((kk : Int) - 1) ∧ nv = .int .i64 (1 + (cvD d v i - cvD d v kk)) ∧ Below w0.heap.size w0 wu) (fun _ kv _ => (intOf kv + 1).toNat)
        case atStart => exact ⟨i, Nat.le_refl _, by congr 1, by congr 1; omega, Below.refl _ _⟩
        case round =>
          obtain ⟨kk, hkk, rfl, rfl, hwu⟩ := hrel
          have HWU : Hid (Below w0.heap.size w0 wr) := hwu
          have d0 : wr.cell? ⟨T, 0, none⟩ = some (.slice (some ⟨b, off, none⟩) m' c') := (hwu.cell (p := ⟨T, 0, none⟩) zT0).trans HC.out.1
          have q2 : wr.cell? ⟨bn, offn + i, none⟩ = some (.slice (some ⟨bi, offi, none⟩) mi qi) := (hwu.cell (p := ⟨bn, _, none⟩) hbnw).trans HC.out.2.1
          have e2 : wr.cell? ⟨b, off + i * 6 + 1, none⟩ = some (.int .i64 (v : Int)) := (hwu.cell (p := ⟨b, _, none⟩) hbw).trans HC.out.2.2.1
          have q3 : wr.cell? ⟨bi, offi + v, none⟩ = some (.int .i64 x) := (hwu.cell (p := ⟨bi, _, none⟩) hbiw).trans HC.out.2.2.2
          clear hwu
          rcases kk with _ | kk
          · rw [show ((0 : Nat) : Int) - 1 = -1 from rfl]
            have hcx : 1 + (cvD d v i - cvD d v 0) = x := by rw [HXE.out, cvD_zero]; omega
            rw [hcx]
            go_wp2_with fail
            refine wp_region_noPanic ?_
            refine wp_region_held_drew (S := fun w' => True) (by kernel_rfl) trivial (fun hHeld => ?_)
            refine take_at 0 44 (.int .i64 (-1)) rfl rfl (by kernel_rfl) (by kernel_rfl) (by kernel_rfl) (fun _ _ _ h => h) (Or.inl ⟨by kernel_rfl, fun w' hS' => by go_simp⟩) hHeld ?_
            (try simp only [Act.put, List.setIfInBounds_toArray, List.set_cons_zero, List.set_cons_succ])
            refine take_at 1 45 (.bool false) rfl rfl (by kernel_rfl) (by kernel_rfl) (by kernel_rfl) (fun _ _ _ h => h) (Or.inl ⟨by kernel_rfl, fun w' hS' => by go_simp⟩) hHeld ?_
            (try simp only [Act.put, List.setIfInBounds_toArray, List.set_cons_zero, List.set_cons_succ])
            refine take_at 2 46 (.bool false) rfl rfl (by kernel_rfl) (by kernel_rfl) (by kernel_rfl) (fun _ _ _ h => h) (Or.inl ⟨by kernel_rfl, fun w' hS' => by go_simp⟩) hHeld ?_
            (try simp only [Act.put, List.setIfInBounds_toArray, List.set_cons_zero, List.set_cons_succ])
            refine take_at 3 47 (undef) rfl rfl (by kernel_rfl) (by kernel_rfl) (by kernel_rfl) (fun _ _ _ h => h) (Or.inr ⟨by kernel_rfl, rfl⟩) hHeld ?_
            (try simp only [Act.put, List.setIfInBounds_toArray, List.set_cons_zero, List.set_cons_succ])
            refine take_at 4 48 (undef) rfl rfl (by kernel_rfl) (by kernel_rfl) (by kernel_rfl) (fun _ _ _ h => h) (Or.inr ⟨by kernel_rfl, rfl⟩) hHeld ?_
            (try simp only [Act.put, List.setIfInBounds_toArray, List.set_cons_zero, List.set_cons_succ])
            refine take_at 5 49 (undef) rfl rfl (by kernel_rfl) (by kernel_rfl) (by kernel_rfl) (fun _ _ _ h => h) (Or.inr ⟨by kernel_rfl, rfl⟩) hHeld ?_
            (try simp only [Act.put, List.setIfInBounds_toArray, List.set_cons_zero, List.set_cons_succ])
            refine take_at 6 50 (undef) rfl rfl (by kernel_rfl) (by kernel_rfl) (by kernel_rfl) (fun _ _ _ h => h) (Or.inr ⟨by kernel_rfl, rfl⟩) hHeld ?_
            (try simp only [Act.put, List.setIfInBounds_toArray, List.set_cons_zero, List.set_cons_succ])
            refine take_at 7 51 (undef) rfl rfl (by kernel_rfl) (by kernel_rfl) (by kernel_rfl) (fun _ _ _ h => h) (Or.inr ⟨by kernel_rfl, rfl⟩) hHeld ?_
            (try simp only [Act.put, List.setIfInBounds_toArray, List.set_cons_zero, List.set_cons_succ])
            refine take_at 8 52 (undef) rfl rfl (by kernel_rfl) (by kernel_rfl) (by kernel_rfl) (fun _ _ _ h => h) (Or.inr ⟨by kernel_rfl, rfl⟩) hHeld ?_
            (try simp only [Act.put, List.setIfInBounds_toArray, List.set_cons_zero, List.set_cons_succ])
            refine take_at 9 53 (undef) rfl rfl (by kernel_rfl) (by kernel_rfl) (by kernel_rfl) (fun _ _ _ h => h) (Or.inr ⟨by kernel_rfl, rfl⟩) hHeld ?_
            (try simp only [Act.put, List.setIfInBounds_toArray, List.set_cons_zero, List.set_cons_succ])
            refine take_at 10 54 (.bool false) rfl rfl (by kernel_rfl) (by kernel_rfl) (by kernel_rfl) (fun _ _ _ h => h) (Or.inl ⟨by kernel_rfl, fun w' hS' => by go_simp⟩) hHeld ?_
            (try simp only [Act.put, List.setIfInBounds_toArray, List.set_cons_zero, List.set_cons_succ])
            refine take_at 11 55 (.bool false) rfl rfl (by kernel_rfl) (by kernel_rfl) (by kernel_rfl) (fun _ _ _ h => h) (Or.inl ⟨by kernel_rfl, fun w' hS' => by go_simp⟩) hHeld ?_
            (try simp only [Act.put, List.setIfInBounds_toArray, List.set_cons_zero, List.set_cons_succ])
            refine take_at 12 56 (undef) rfl rfl (by kernel_rfl) (by kernel_rfl) (by kernel_rfl) (fun _ _ _ h => h) (Or.inr ⟨by kernel_rfl, rfl⟩) hHeld ?_
            (try simp only [Act.put, List.setIfInBounds_toArray, List.set_cons_zero, List.set_cons_succ])
            refine take_at 13 57 (undef) rfl rfl (by kernel_rfl) (by kernel_rfl) (by kernel_rfl) (fun _ _ _ h => h) (Or.inr ⟨by kernel_rfl, rfl⟩) hHeld ?_
            (try simp only [Act.put, List.setIfInBounds_toArray, List.set_cons_zero, List.set_cons_succ])
            refine take_at 14 58 (undef) rfl rfl (by kernel_rfl) (by kernel_rfl) (by kernel_rfl) (fun _ _ _ h => h) (Or.inr ⟨by kernel_rfl, rfl⟩) hHeld ?_
            (try simp only [Act.put, List.setIfInBounds_toArray, List.set_cons_zero, List.set_cons_succ])
            refine take_at 15 59 (undef) rfl rfl (by kernel_rfl) (by kernel_rfl) (by kernel_rfl) (fun _ _ _ h => h) (Or.inr ⟨by kernel_rfl, rfl⟩) hHeld ?_
            (try simp only [Act.put, List.setIfInBounds_toArray, List.set_cons_zero, List.set_cons_succ])
            refine take_at 16 60 (undef) rfl rfl (by kernel_rfl) (by kernel_rfl) (by kernel_rfl) (fun _ _ _ h => h) (Or.inr ⟨by kernel_rfl, rfl⟩) hHeld ?_
            (try simp only [Act.put, List.setIfInBounds_toArray, List.set_cons_zero, List.set_cons_succ])
            refine take_at 17 61 (undef) rfl rfl (by kernel_rfl) (by kernel_rfl) (by kernel_rfl) (fun _ _ _ h => h) (Or.inr ⟨by kernel_rfl, rfl⟩) hHeld ?_
            (try simp only [Act.put, List.setIfInBounds_toArray, List.set_cons_zero, List.set_cons_succ])
            refine take_at 18 62 (undef) rfl rfl (by kernel_rfl) (by kernel_rfl) (by kernel_rfl) (fun _ _ _ h => h) (Or.inr ⟨by kernel_rfl, rfl⟩) hHeld ?_
            (try simp only [Act.put, List.setIfInBounds_toArray, List.set_cons_zero, List.set_cons_succ])
            refine take_at 19 63 (undef) rfl rfl (by kernel_rfl) (by kernel_rfl) (by kernel_rfl) (fun _ _ _ h => h) (Or.inr ⟨by kernel_rfl, rfl⟩) hHeld ?_
            (try simp only [Act.put, List.setIfInBounds_toArray, List.set_cons_zero, List.set_cons_succ])
            refine take_at 20 64 (undef) rfl rfl (by kernel_rfl) (by kernel_rfl) (by kernel_rfl) (fun _ _ _ h => h) (Or.inr ⟨by kernel_rfl, rfl⟩) hHeld ?_
            (try simp only [Act.put, List.setIfInBounds_toArray, List.set_cons_zero, List.set_cons_succ])
            refine take_at 21 65 (undef) rfl rfl (by kernel_rfl) (by kernel_rfl) (by kernel_rfl) (fun _ _ _ h => h) (Or.inr ⟨by kernel_rfl, rfl⟩) hHeld ?_
            (try simp only [Act.put, List.setIfInBounds_toArray, List.set_cons_zero, List.set_cons_succ])
            refine take_at 22 66 (undef) rfl rfl (by kernel_rfl) (by kernel_rfl) (by kernel_rfl) (fun _ _ _ h => h) (Or.inr ⟨by kernel_rfl, rfl⟩) hHeld ?_
            (try simp only [Act.put, List.setIfInBounds_toArray, List.set_cons_zero, List.set_cons_succ])
            refine take_at 23 67 (undef) rfl rfl (by kernel_rfl) (by kernel_rfl) (by kernel_rfl) (fun _ _ _ h => h) (Or.inr ⟨by kernel_rfl, rfl⟩) hHeld ?_
            (try simp only [Act.put, List.setIfInBounds_toArray, List.set_cons_zero, List.set_cons_succ])
            refine take_at 24 68 (undef) rfl rfl (by kernel_rfl) (by kernel_rfl) (by kernel_rfl) (fun _ _ _ h => h) (Or.inr ⟨by kernel_rfl, rfl⟩) hHeld ?_
            (try simp only [Act.put, List.setIfInBounds_toArray, List.set_cons_zero, List.set_cons_succ])
            refine take_at 25 69 (.bool false) rfl rfl (by kernel_rfl) (by kernel_rfl) (by kernel_rfl) (fun _ _ _ h => h) (Or.inl ⟨by kernel_rfl, fun w' hS' => by go_simp⟩) hHeld ?_
            (try simp only [Act.put, List.setIfInBounds_toArray, List.set_cons_zero, List.set_cons_succ])
            refine wpAnyH_done (by kernel_rfl) ?_ _
            refine NoPanic.normal ?_
            go_wp2_with fail
            refine wp_region_noPanic ?_
            refine wp_region_held_drew (S := fun w' => w'.cell? ⟨T, 0, none⟩ = some (.slice (some ⟨b, off, none⟩) m' c') ∧ w'.cell? ⟨bn, offn + i, none⟩ = some (.slice (some ⟨bi, offi, none⟩) mi qi) ∧ w'.cell? ⟨b, off + i * 6 + 1, none⟩ = some (.int .i64 (v : Int)) ∧ w'.cell? ⟨bi, offi + v, none⟩ = some (.int .i64 x)) (by kernel_rfl) ⟨d0, q2, e2, q3⟩ (fun hHeld => ?_)
            refine take_at 0 87 (.slice (some ⟨bn, offn, none⟩) m q) rfl rfl (by kernel_rfl) (by kernel_rfl) (by kernel_rfl) (fun _ _ _ h => h) (Or.inl ⟨by kernel_rfl, fun w' hS' => by go_simp⟩) hHeld ?_
            (try simp only [Act.put, List.setIfInBounds_toArray, List.set_cons_zero, List.set_cons_succ])
            refine take_at 1 88 (.int .i64 (i : Int)) rfl rfl (by kernel_rfl) (by kernel_rfl) (by kernel_rfl) (fun _ _ _ h => h) (Or.inl ⟨by kernel_rfl, fun w' hS' => by go_simp⟩) hHeld ?_
            (try simp only [Act.put, List.setIfInBounds_toArray, List.set_cons_zero, List.set_cons_succ])
            refine take_at 2 89 (.pointer (some ⟨bn, offn + i, none⟩)) rfl rfl (by kernel_rfl) (by kernel_rfl) (by kernel_rfl) (fun _ _ _ h => h) (Or.inl ⟨by kernel_rfl, fun w' hS' => by go_simp⟩) hHeld ?_
            (try simp only [Act.put, List.setIfInBounds_toArray, List.set_cons_zero, List.set_cons_succ])
            refine take_at 3 90 (.slice (some ⟨bi, offi, none⟩) mi qi) rfl rfl (by kernel_rfl) (by kernel_rfl) (by kernel_rfl) (fun _ _ _ h => h) (Or.inl ⟨by kernel_rfl, fun w' hS' => by have hd := hS'.2.1; go_simp⟩) hHeld ?_
            (try simp only [Act.put, List.setIfInBounds_toArray, List.set_cons_zero, List.set_cons_succ])
            refine take_at 4 91 (.pointer (some ⟨T, 0, none⟩)) rfl rfl (by kernel_rfl) (by kernel_rfl) (by kernel_rfl) (fun _ _ _ h => h) (Or.inl ⟨by kernel_rfl, fun w' hS' => by go_simp⟩) hHeld ?_
            (try simp only [Act.put, List.setIfInBounds_toArray, List.set_cons_zero, List.set_cons_succ])
            refine take_at 5 92 (.slice (some ⟨b, off, none⟩) m' c') rfl rfl (by kernel_rfl) (by kernel_rfl) (by kernel_rfl) (fun _ _ _ h => h) (Or.inl ⟨by kernel_rfl, fun w' hS' => by have hd := hS'.1; go_simp⟩) hHeld ?_
            (try simp only [Act.put, List.setIfInBounds_toArray, List.set_cons_zero, List.set_cons_succ])
            refine take_at 6 93 (.int .i64 (i : Int)) rfl rfl (by kernel_rfl) (by kernel_rfl) (by kernel_rfl) (fun _ _ _ h => h) (Or.inl ⟨by kernel_rfl, fun w' hS' => by go_simp⟩) hHeld ?_
            (try simp only [Act.put, List.setIfInBounds_toArray, List.set_cons_zero, List.set_cons_succ])
            refine take_at 7 94 (.pointer (some ⟨b, off + i * 6, none⟩)) rfl rfl (by kernel_rfl) (by kernel_rfl) (by kernel_rfl) (fun _ _ _ h => h) (Or.inl ⟨by kernel_rfl, fun w' hS' => by go_simp⟩) hHeld ?_
            (try simp only [Act.put, List.setIfInBounds_toArray, List.set_cons_zero, List.set_cons_succ])
            refine take_at 8 95 (.pointer (some ⟨b, off + i * 6 + 1, none⟩)) rfl rfl (by kernel_rfl) (by kernel_rfl) (by kernel_rfl) (fun _ _ _ h => h) (Or.inl ⟨by kernel_rfl, fun w' hS' => by go_simp⟩) hHeld ?_
            (try simp only [Act.put, List.setIfInBounds_toArray, List.set_cons_zero, List.set_cons_succ])
            refine take_at 9 96 (.int .i64 (v : Int)) rfl rfl (by kernel_rfl) (by kernel_rfl) (by kernel_rfl) (fun _ _ _ h => h) (Or.inl ⟨by kernel_rfl, fun w' hS' => by have hd := hS'.2.2.1; go_simp⟩) hHeld ?_
            (try simp only [Act.put, List.setIfInBounds_toArray, List.set_cons_zero, List.set_cons_succ])
            refine take_at 10 97 (.pointer (some ⟨bi, offi + v, none⟩)) rfl rfl (by kernel_rfl) (by kernel_rfl) (by kernel_rfl) (fun _ _ _ h => h) (Or.inl ⟨by kernel_rfl, fun w' hS' => by go_simp⟩) hHeld ?_
            (try simp only [Act.put, List.setIfInBounds_toArray, List.set_cons_zero, List.set_cons_succ])
            refine take_at 11 98 (.int .i64 x) rfl rfl (by kernel_rfl) (by kernel_rfl) (by kernel_rfl) (fun _ _ _ h => h) (Or.inl ⟨by kernel_rfl, fun w' hS' => by have hd := hS'.2.2.2; go_simp⟩) hHeld ?_
            (try simp only [Act.put, List.setIfInBounds_toArray, List.set_cons_zero, List.set_cons_succ])
            refine take_at 12 99 (.int .i64 x) rfl rfl (by kernel_rfl) (by kernel_rfl) (by kernel_rfl) (fun _ _ _ h => h) (Or.inl ⟨by kernel_rfl, fun w' hS' => by go_simp⟩) hHeld ?_
            (try simp only [Act.put, List.setIfInBounds_toArray, List.set_cons_zero, List.set_cons_succ])
            refine take_at 13 100 (.bool false) rfl rfl (by kernel_rfl) (by kernel_rfl) (by kernel_rfl) (fun _ _ _ h => h) (Or.inl ⟨by kernel_rfl, fun w' hS' => by go_simp⟩) hHeld ?_
            (try simp only [Act.put, List.setIfInBounds_toArray, List.set_cons_zero, List.set_cons_succ])
            refine wpAnyH_done (by kernel_rfl) ?_ _
            refine NoPanic.normal ?_
            go_wp2_with fail
            go_roundg (m - (i + 1))
            case measure => have := HGK.out; omega
            case rel => exact ⟨i + 1, by omega, rfl, by go_num, HBW.out.trans ((HWU.out.drew.drew).mono (by have := HBW.out.size; omega))⟩
          · rw [show ((kk + 1 : Nat) : Int) - 1 = (kk : Int) by omega]
            have hkd : kk < d.length := by omega
            have hkb : (kk : Int) < (m' : Int) := by omega
            have hk0 : (0 : Int) ≤ (kk : Int) := by omega
            have ek : wr.cell? ⟨b, off + kk * 6, none⟩ = some (.int .i64 (d.getD kk bl0).1) ∧ wr.cell? ⟨b, off + kk * 6 + 1, none⟩ = some (.int .i64 (d.getD kk bl0).2.1) := ⟨(HWU.out.cell (p := ⟨b, _, none⟩) hbw).trans (HCL.out kk hkd).1, (HWU.out.cell (p := ⟨b, _, none⟩) hbw).trans (HCL.out kk hkd).2⟩
            obtain ⟨K2, HK2⟩ : ∃ K, Hid ((d.getD kk bl0).1 = K) := ⟨_, rfl⟩
            obtain ⟨VK, HVK⟩ : ∃ V, Hid ((d.getD kk bl0).2.1 = V) := ⟨_, rfl⟩
            rw [HK2.out, HVK.out] at ek
            obtain ⟨e0, e1⟩ := ek
            by_cases hK2 : K2 = 2
            · subst hK2
              have hl2 : lvN (d.getD kk bl0) = VK := by unfold lvN; rw [if_pos HK2.out, HVK.out]
              have hvk := (nums_facts HO.out hkd).2.1 HK2.out
              rw [HVK.out] at hvk
              by_cases hge : (v : Int) ≤ VK
              · have HMO : Hid (cvD d v (kk + 1) = cvD d v kk + if VK = v then 1 else 0) := cvD_more hv3 hl2 hge (by omega)
                have hb1 := cvD_le d v kk
                have hb2 := cvD_le d v i
                have hb3 := cvD_le d v (kk + 1)
                have hgb : decide ((v : Int) ≤ VK) = true := decide_eq_true hge
                clear hl2
                go_wp2_with fail
                refine wp_region_noPanic ?_
                refine wp_region_held_drew (S := fun w' => w'.cell? ⟨T, 0, none⟩ = some (.slice (some ⟨b, off, none⟩) m' c') ∧ w'.cell? ⟨b, off + kk * 6, none⟩ = some (.int .i64 2) ∧ w'.cell? ⟨b, off + kk * 6 + 1, none⟩ = some (.int .i64 VK) ∧ w'.cell? ⟨b, off + i * 6 + 1, none⟩ = some (.int .i64 (v : Int))) (by kernel_rfl) ⟨d0, e0, e1, e2⟩ (fun hHeld => ?_)
                refine take_at 0 44 (.int .i64 (kk : Int)) rfl rfl (by kernel_rfl) (by kernel_rfl) (by kernel_rfl) (fun _ _ _ h => h) (Or.inl ⟨by kernel_rfl, fun w' hS' => by go_simp⟩) hHeld ?_
                (try simp only [Act.put, List.setIfInBounds_toArray, List.set_cons_zero, List.set_cons_succ])
                refine take_at 1 45 (.bool true) rfl rfl (by kernel_rfl) (by kernel_rfl) (by kernel_rfl) (fun _ _ _ h => h) (Or.inl ⟨by kernel_rfl, fun w' hS' => by go_simp⟩) hHeld ?_
                (try simp only [Act.put, List.setIfInBounds_toArray, List.set_cons_zero, List.set_cons_succ])
                refine take_at 2 46 (.bool true) rfl rfl (by kernel_rfl) (by kernel_rfl) (by kernel_rfl) (fun _ _ _ h => h) (Or.inl ⟨by kernel_rfl, fun w' hS' => by go_simp⟩) hHeld ?_
                (try simp only [Act.put, List.setIfInBounds_toArray, List.set_cons_zero, List.set_cons_succ])
                refine take_at 3 47 (.pointer (some ⟨T, 0, none⟩)) rfl rfl (by kernel_rfl) (by kernel_rfl) (by kernel_rfl) (fun _ _ _ h => h) (Or.inl ⟨by kernel_rfl, fun w' hS' => by go_simp⟩) hHeld ?_
                (try simp only [Act.put, List.setIfInBounds_toArray, List.set_cons_zero, List.set_cons_succ])
                refine take_at 4 48 (.slice (some ⟨b, off, none⟩) m' c') rfl rfl (by kernel_rfl) (by kernel_rfl) (by kernel_rfl) (fun _ _ _ h => h) (Or.inl ⟨by kernel_rfl, fun w' hS' => by have hd := hS'.1; go_simp⟩) hHeld ?_
                (try simp only [Act.put, List.setIfInBounds_toArray, List.set_cons_zero, List.set_cons_succ])
                refine take_at 5 49 (.int .i64 (kk : Int)) rfl rfl (by kernel_rfl) (by kernel_rfl) (by kernel_rfl) (fun _ _ _ h => h) (Or.inl ⟨by kernel_rfl, fun w' hS' => by go_simp⟩) hHeld ?_
                (try simp only [Act.put, List.setIfInBounds_toArray, List.set_cons_zero, List.set_cons_succ])
                refine take_at 6 50 (.pointer (some ⟨b, off + kk * 6, none⟩)) rfl rfl (by kernel_rfl) (by kernel_rfl) (by kernel_rfl) (fun _ _ _ h => h) (Or.inl ⟨by kernel_rfl, fun w' hS' => by go_simp⟩) hHeld ?_
                (try simp only [Act.put, List.setIfInBounds_toArray, List.set_cons_zero, List.set_cons_succ])
                refine take_at 7 51 (.pointer (some ⟨b, off + kk * 6, none⟩)) rfl rfl (by kernel_rfl) (by kernel_rfl) (by kernel_rfl) (fun _ _ _ h => h) (Or.inl ⟨by kernel_rfl, fun w' hS' => by go_simp⟩) hHeld ?_
                (try simp only [Act.put, List.setIfInBounds_toArray, List.set_cons_zero, List.set_cons_succ])
                refine take_at 8 52 (.int .i64 2) rfl rfl (by kernel_rfl) (by kernel_rfl) (by kernel_rfl) (fun _ _ _ h => h) (Or.inl ⟨by kernel_rfl, fun w' hS' => by have hd := hS'.2.1; go_simp⟩) hHeld ?_
                (try simp only [Act.put, List.setIfInBounds_toArray, List.set_cons_zero, List.set_cons_succ])
                refine take_at 9 53 (.bool true) rfl rfl (by kernel_rfl) (by kernel_rfl) (by kernel_rfl) (fun _ _ _ h => h) (Or.inl ⟨by kernel_rfl, fun w' hS' => by go_simp⟩) hHeld ?_
                (try simp only [Act.put, List.setIfInBounds_toArray, List.set_cons_zero, List.set_cons_succ])
                refine take_at 10 54 (.bool true) rfl rfl (by kernel_rfl) (by kernel_rfl) (by kernel_rfl) (fun _ _ _ h => h) (Or.inl ⟨by kernel_rfl, fun w' hS' => by go_simp⟩) hHeld ?_
                (try simp only [Act.put, List.setIfInBounds_toArray, List.set_cons_zero, List.set_cons_succ])
                refine take_at 11 55 (.bool true) rfl rfl (by kernel_rfl) (by kernel_rfl) (by kernel_rfl) (fun _ _ _ h => h) (Or.inl ⟨by kernel_rfl, fun w' hS' => by go_simp⟩) hHeld ?_
                (try simp only [Act.put, List.setIfInBounds_toArray, List.set_cons_zero, List.set_cons_succ])
                refine take_at 12 56 (.pointer (some ⟨T, 0, none⟩)) rfl rfl (by kernel_rfl) (by kernel_rfl) (by kernel_rfl) (fun _ _ _ h => h) (Or.inl ⟨by kernel_rfl, fun w' hS' => by go_simp⟩) hHeld ?_
                (try simp only [Act.put, List.setIfInBounds_toArray, List.set_cons_zero, List.set_cons_succ])
                refine take_at 13 57 (.slice (some ⟨b, off, none⟩) m' c') rfl rfl (by kernel_rfl) (by kernel_rfl) (by kernel_rfl) (fun _ _ _ h => h) (Or.inl ⟨by kernel_rfl, fun w' hS' => by have hd := hS'.1; go_simp⟩) hHeld ?_
                (try simp only [Act.put, List.setIfInBounds_toArray, List.set_cons_zero, List.set_cons_succ])
                refine take_at 14 58 (.int .i64 (kk : Int)) rfl rfl (by kernel_rfl) (by kernel_rfl) (by kernel_rfl) (fun _ _ _ h => h) (Or.inl ⟨by kernel_rfl, fun w' hS' => by go_simp⟩) hHeld ?_
                (try simp only [Act.put, List.setIfInBounds_toArray, List.set_cons_zero, List.set_cons_succ])
                refine take_at 15 59 (.pointer (some ⟨b, off + kk * 6, none⟩)) rfl rfl (by kernel_rfl) (by kernel_rfl) (by kernel_rfl) (fun _ _ _ h => h) (Or.inl ⟨by kernel_rfl, fun w' hS' => by go_simp⟩) hHeld ?_
                (try simp only [Act.put, List.setIfInBounds_toArray, List.set_cons_zero, List.set_cons_succ])
                refine take_at 16 60 (.pointer (some ⟨b, off + kk * 6 + 1, none⟩)) rfl rfl (by kernel_rfl) (by kernel_rfl) (by kernel_rfl) (fun _ _ _ h => h) (Or.inl ⟨by kernel_rfl, fun w' hS' => by go_simp⟩) hHeld ?_
                (try simp only [Act.put, List.setIfInBounds_toArray, List.set_cons_zero, List.set_cons_succ])
                refine take_at 17 61 (.int .i64 VK) rfl rfl (by kernel_rfl) (by kernel_rfl) (by kernel_rfl) (fun _ _ _ h => h) (Or.inl ⟨by kernel_rfl, fun w' hS' => by have hd := hS'.2.2.1; go_simp⟩) hHeld ?_
                (try simp only [Act.put, List.setIfInBounds_toArray, List.set_cons_zero, List.set_cons_succ])
                refine take_at 18 62 (.pointer (some ⟨T, 0, none⟩)) rfl rfl (by kernel_rfl) (by kernel_rfl) (by kernel_rfl) (fun _ _ _ h => h) (Or.inl ⟨by kernel_rfl, fun w' hS' => by go_simp⟩) hHeld ?_
                (try simp only [Act.put, List.setIfInBounds_toArray, List.set_cons_zero, List.set_cons_succ])
                refine take_at 19 63 (.slice (some ⟨b, off, none⟩) m' c') rfl rfl (by kernel_rfl) (by kernel_rfl) (by kernel_rfl) (fun _ _ _ h => h) (Or.inl ⟨by kernel_rfl, fun w' hS' => by have hd := hS'.1; go_simp⟩) hHeld ?_
                (try simp only [Act.put, List.setIfInBounds_toArray, List.set_cons_zero, List.set_cons_succ])
                refine take_at 20 64 (.int .i64 (i : Int)) rfl rfl (by kernel_rfl) (by kernel_rfl) (by kernel_rfl) (fun _ _ _ h => h) (Or.inl ⟨by kernel_rfl, fun w' hS' => by go_simp⟩) hHeld ?_
                (try simp only [Act.put, List.setIfInBounds_toArray, List.set_cons_zero, List.set_cons_succ])
                refine take_at 21 65 (.pointer (some ⟨b, off + i * 6, none⟩)) rfl rfl (by kernel_rfl) (by kernel_rfl) (by kernel_rfl) (fun _ _ _ h => h) (Or.inl ⟨by kernel_rfl, fun w' hS' => by go_simp⟩) hHeld ?_
                (try simp only [Act.put, List.setIfInBounds_toArray, List.set_cons_zero, List.set_cons_succ])
                refine take_at 22 66 (.pointer (some ⟨b, off + i * 6 + 1, none⟩)) rfl rfl (by kernel_rfl) (by kernel_rfl) (by kernel_rfl) (fun _ _ _ h => h) (Or.inl ⟨by kernel_rfl, fun w' hS' => by go_simp⟩) hHeld ?_
                (try simp only [Act.put, List.setIfInBounds_toArray, List.set_cons_zero, List.set_cons_succ])
                refine take_at 23 67 (.int .i64 (v : Int)) rfl rfl (by kernel_rfl) (by kernel_rfl) (by kernel_rfl) (fun _ _ _ h => h) (Or.inl ⟨by kernel_rfl, fun w' hS' => by have hd := hS'.2.2.2; go_simp⟩) hHeld ?_
                (try simp only [Act.put, List.setIfInBounds_toArray, List.set_cons_zero, List.set_cons_succ])
                refine take_at 24 68 (.bool true) rfl rfl (by kernel_rfl) (by kernel_rfl) (by kernel_rfl) (fun _ _ _ h => h) (Or.inl ⟨by kernel_rfl, fun w' hS' => by go_simp⟩) hHeld ?_
                (try simp only [Act.put, List.setIfInBounds_toArray, List.set_cons_zero, List.set_cons_succ])
                refine take_at 25 69 (.bool true) rfl rfl (by kernel_rfl) (by kernel_rfl) (by kernel_rfl) (fun _ _ _ h => h) (Or.inl ⟨by kernel_rfl, fun w' hS' => by go_simp⟩) hHeld ?_
                (try simp only [Act.put, List.setIfInBounds_toArray, List.set_cons_zero, List.set_cons_succ])
                refine wpAnyH_done (by kernel_rfl) ?_ _
                refine NoPanic.normal ?_
                go_wp2_with fail
                by_cases heq : VK = v
                · have HM2 : Hid (1 + (cvD d v i - cvD d v (kk + 1)) + 1 = 1 + (cvD d v i - cvD d v kk)) := by
                    show 1 + (cvD d v i - cvD d v (kk + 1)) + 1 = 1 + (cvD d v i - cvD d v kk)
                    have := HMO.out
                    rw [if_pos heq] at this
                    omega
                  subst heq
                  refine wp_region_noPanic ?_
                  refine wp_region_held_drew (S := fun w' => w'.cell? ⟨T, 0, none⟩ = some (.slice (some ⟨b, off, none⟩) m' c') ∧ w'.cell? ⟨b, off + kk * 6 + 1, none⟩ = some (.int .i64 (v : Int)) ∧ w'.cell? ⟨b, off + i * 6 + 1, none⟩ = some (.int .i64 (v : Int))) (by kernel_rfl) ⟨d0, e1, e2⟩ (fun hHeld => ?_)
                  refine take_at 0 72 (.pointer (some ⟨T, 0, none⟩)) rfl rfl (by kernel_rfl) (by kernel_rfl) (by kernel_rfl) (fun _ _ _ h => h) (Or.inl ⟨by kernel_rfl, fun w' hS' => by go_simp⟩) hHeld ?_
                  (try simp only [Act.put, List.setIfInBounds_toArray, List.set_cons_zero, List.set_cons_succ])
                  refine take_at 1 73 (.slice (some ⟨b, off, none⟩) m' c') rfl rfl (by kernel_rfl) (by kernel_rfl) (by kernel_rfl) (fun _ _ _ h => h) (Or.inl ⟨by kernel_rfl, fun w' hS' => by have hd := hS'.1; go_simp⟩) hHeld ?_
                  (try simp only [Act.put, List.setIfInBounds_toArray, List.set_cons_zero, List.set_cons_succ])
                  refine take_at 2 74 (.int .i64 (kk : Int)) rfl rfl (by kernel_rfl) (by kernel_rfl) (by kernel_rfl) (fun _ _ _ h => h) (Or.inl ⟨by kernel_rfl, fun w' hS' => by go_simp⟩) hHeld ?_
                  (try simp only [Act.put, List.setIfInBounds_toArray, List.set_cons_zero, List.set_cons_succ])
                  refine take_at 3 75 (.pointer (some ⟨b, off + kk * 6, none⟩)) rfl rfl (by kernel_rfl) (by kernel_rfl) (by kernel_rfl) (fun _ _ _ h => h) (Or.inl ⟨by kernel_rfl, fun w' hS' => by go_simp⟩) hHeld ?_
                  (try simp only [Act.put, List.setIfInBounds_toArray, List.set_cons_zero, List.set_cons_succ])
                  refine take_at 4 76 (.pointer (some ⟨b, off + kk * 6 + 1, none⟩)) rfl rfl (by kernel_rfl) (by kernel_rfl) (by kernel_rfl) (fun _ _ _ h => h) (Or.inl ⟨by kernel_rfl, fun w' hS' => by go_simp⟩) hHeld ?_
                  (try simp only [Act.put, List.setIfInBounds_toArray, List.set_cons_zero, List.set_cons_succ])
                  refine take_at 5 77 (.int .i64 (v : Int)) rfl rfl (by kernel_rfl) (by kernel_rfl) (by kernel_rfl) (fun _ _ _ h => h) (Or.inl ⟨by kernel_rfl, fun w' hS' => by have hd := hS'.2.1; go_simp⟩) hHeld ?_
                  (try simp only [Act.put, List.setIfInBounds_toArray, List.set_cons_zero, List.set_cons_succ])
                  refine take_at 6 78 (.pointer (some ⟨T, 0, none⟩)) rfl rfl (by kernel_rfl) (by kernel_rfl) (by kernel_rfl) (fun _ _ _ h => h) (Or.inl ⟨by kernel_rfl, fun w' hS' => by go_simp⟩) hHeld ?_
                  (try simp only [Act.put, List.setIfInBounds_toArray, List.set_cons_zero, List.set_cons_succ])
                  refine take_at 7 79 (.slice (some ⟨b, off, none⟩) m' c') rfl rfl (by kernel_rfl) (by kernel_rfl) (by kernel_rfl) (fun _ _ _ h => h) (Or.inl ⟨by kernel_rfl, fun w' hS' => by have hd := hS'.1; go_simp⟩) hHeld ?_
                  (try simp only [Act.put, List.setIfInBounds_toArray, List.set_cons_zero, List.set_cons_succ])
                  refine take_at 8 80 (.int .i64 (i : Int)) rfl rfl (by kernel_rfl) (by kernel_rfl) (by kernel_rfl) (fun _ _ _ h => h) (Or.inl ⟨by kernel_rfl, fun w' hS' => by go_simp⟩) hHeld ?_
                  (try simp only [Act.put, List.setIfInBounds_toArray, List.set_cons_zero, List.set_cons_succ])
                  refine take_at 9 81 (.pointer (some ⟨b, off + i * 6, none⟩)) rfl rfl (by kernel_rfl) (by kernel_rfl) (by kernel_rfl) (fun _ _ _ h => h) (Or.inl ⟨by kernel_rfl, fun w' hS' => by go_simp⟩) hHeld ?_
                  (try simp only [Act.put, List.setIfInBounds_toArray, List.set_cons_zero, List.set_cons_succ])
                  refine take_at 10 82 (.pointer (some ⟨b, off + i * 6 + 1, none⟩)) rfl rfl (by kernel_rfl) (by kernel_rfl) (by kernel_rfl) (fun _ _ _ h => h) (Or.inl ⟨by kernel_rfl, fun w' hS' => by go_simp⟩) hHeld ?_
                  (try simp only [Act.put, List.setIfInBounds_toArray, List.set_cons_zero, List.set_cons_succ])
                  refine take_at 11 83 (.int .i64 (v : Int)) rfl rfl (by kernel_rfl) (by kernel_rfl) (by kernel_rfl) (fun _ _ _ h => h) (Or.inl ⟨by kernel_rfl, fun w' hS' => by have hd := hS'.2.2; go_simp⟩) hHeld ?_
                  (try simp only [Act.put, List.setIfInBounds_toArray, List.set_cons_zero, List.set_cons_succ])
                  refine take_at 12 84 (.bool true) rfl rfl (by kernel_rfl) (by kernel_rfl) (by kernel_rfl) (fun _ _ _ h => h) (Or.inl ⟨by kernel_rfl, fun w' hS' => by go_simp⟩) hHeld ?_
                  (try simp only [Act.put, List.setIfInBounds_toArray, List.set_cons_zero, List.set_cons_succ])
                  refine wpAnyH_done (by kernel_rfl) ?_ _
                  refine NoPanic.normal ?_
                  have hm2 := HM2.out
                  go_wp2_with fail
                  go_roundw
                  case rel => exact ⟨kk, by omega, by go_num, by go_num, HWU.out.drew.drew⟩
                  case measure => simp [intOf] <;> omega
                · have hne : (VK == (v : Int)) = false := by simp; exact heq
                  have hm2 : cvD d v (kk + 1) = cvD d v kk := by
                    have := HMO.out
                    rw [if_neg heq] at this
                    omega
                  rw [hm2]
                  clear hm2
                  refine wp_region_noPanic ?_
                  refine wp_region_held_drew (S := fun w' => w'.cell? ⟨T, 0, none⟩ = some (.slice (some ⟨b, off, none⟩) m' c') ∧ w'.cell? ⟨b, off + kk * 6 + 1, none⟩ = some (.int .i64 VK) ∧ w'.cell? ⟨b, off + i * 6 + 1, none⟩ = some (.int .i64 (v : Int))) (by kernel_rfl) ⟨d0, e1, e2⟩ (fun hHeld => ?_)
                  refine take_at 0 72 (.pointer (some ⟨T, 0, none⟩)) rfl rfl (by kernel_rfl) (by kernel_rfl) (by kernel_rfl) (fun _ _ _ h => h) (Or.inl ⟨by kernel_rfl, fun w' hS' => by go_simp⟩) hHeld ?_
                  (try simp only [Act.put, List.setIfInBounds_toArray, List.set_cons_zero, List.set_cons_succ])
                  refine take_at 1 73 (.slice (some ⟨b, off, none⟩) m' c') rfl rfl (by kernel_rfl) (by kernel_rfl) (by kernel_rfl) (fun _ _ _ h => h) (Or.inl ⟨by kernel_rfl, fun w' hS' => by have hd := hS'.1; go_simp⟩) hHeld ?_
                  (try simp only [Act.put, List.setIfInBounds_toArray, List.set_cons_zero, List.set_cons_succ])
                  refine take_at 2 74 (.int .i64 (kk : Int)) rfl rfl (by kernel_rfl) (by kernel_rfl) (by kernel_rfl) (fun _ _ _ h => h) (Or.inl ⟨by kernel_rfl, fun w' hS' => by go_simp⟩) hHeld ?_
                  (try simp only [Act.put, List.setIfInBounds_toArray, List.set_cons_zero, List.set_cons_succ])
                  refine take_at 3 75 (.pointer (some ⟨b, off + kk * 6, none⟩)) rfl rfl (by kernel_rfl) (by kernel_rfl) (by kernel_rfl) (fun _ _ _ h => h) (Or.inl ⟨by kernel_rfl, fun w' hS' => by go_simp⟩) hHeld ?_
                  (try simp only [Act.put, List.setIfInBounds_toArray, List.set_cons_zero, List.set_cons_succ])
                  refine take_at 4 76 (.pointer (some ⟨b, off + kk * 6 + 1, none⟩)) rfl rfl (by kernel_rfl) (by kernel_rfl) (by kernel_rfl) (fun _ _ _ h => h) (Or.inl ⟨by kernel_rfl, fun w' hS' => by go_simp⟩) hHeld ?_
                  (try simp only [Act.put, List.setIfInBounds_toArray, List.set_cons_zero, List.set_cons_succ])
                  refine take_at 5 77 (.int .i64 VK) rfl rfl (by kernel_rfl) (by kernel_rfl) (by kernel_rfl) (fun _ _ _ h => h) (Or.inl ⟨by kernel_rfl, fun w' hS' => by have hd := hS'.2.1; go_simp⟩) hHeld ?_
                  (try simp only [Act.put, List.setIfInBounds_toArray, List.set_cons_zero, List.set_cons_succ])
                  refine take_at 6 78 (.pointer (some ⟨T, 0, none⟩)) rfl rfl (by kernel_rfl) (by kernel_rfl) (by kernel_rfl) (fun _ _ _ h => h) (Or.inl ⟨by kernel_rfl, fun w' hS' => by go_simp⟩) hHeld ?_
                  (try simp only [Act.put, List.setIfInBounds_toArray, List.set_cons_zero, List.set_cons_succ])
                  refine take_at 7 79 (.slice (some ⟨b, off, none⟩) m' c') rfl rfl (by kernel_rfl) (by kernel_rfl) (by kernel_rfl) (fun _ _ _ h => h) (Or.inl ⟨by kernel_rfl, fun w' hS' => by have hd := hS'.1; go_simp⟩) hHeld ?_
                  (try simp only [Act.put, List.setIfInBounds_toArray, List.set_cons_zero, List.set_cons_succ])
                  refine take_at 8 80 (.int .i64 (i : Int)) rfl rfl (by kernel_rfl) (by kernel_rfl) (by kernel_rfl) (fun _ _ _ h => h) (Or.inl ⟨by kernel_rfl, fun w' hS' => by go_simp⟩) hHeld ?_
                  (try simp only [Act.put, List.setIfInBounds_toArray, List.set_cons_zero, List.set_cons_succ])
                  refine take_at 9 81 (.pointer (some ⟨b, off + i * 6, none⟩)) rfl rfl (by kernel_rfl) (by kernel_rfl) (by kernel_rfl) (fun _ _ _ h => h) (Or.inl ⟨by kernel_rfl, fun w' hS' => by go_simp⟩) hHeld ?_
                  (try simp only [Act.put, List.setIfInBounds_toArray, List.set_cons_zero, List.set_cons_succ])
                  refine take_at 10 82 (.pointer (some ⟨b, off + i * 6 + 1, none⟩)) rfl rfl (by kernel_rfl) (by kernel_rfl) (by kernel_rfl) (fun _ _ _ h => h) (Or.inl ⟨by kernel_rfl, fun w' hS' => by go_simp⟩) hHeld ?_
                  (try simp only [Act.put, List.setIfInBounds_toArray, List.set_cons_zero, List.set_cons_succ])
                  refine take_at 11 83 (.int .i64 (v : Int)) rfl rfl (by kernel_rfl) (by kernel_rfl) (by kernel_rfl) (fun _ _ _ h => h) (Or.inl ⟨by kernel_rfl, fun w' hS' => by have hd := hS'.2.2; go_simp⟩) hHeld ?_
                  (try simp only [Act.put, List.setIfInBounds_toArray, List.set_cons_zero, List.set_cons_succ])
                  refine take_at 12 84 (.bool false) rfl rfl (by kernel_rfl) (by kernel_rfl) (by kernel_rfl) (fun _ _ _ h => h) (Or.inl ⟨by kernel_rfl, fun w' hS' => by go_simp⟩) hHeld ?_
                  (try simp only [Act.put, List.setIfInBounds_toArray, List.set_cons_zero, List.set_cons_succ])
                  refine wpAnyH_done (by kernel_rfl) ?_ _
                  refine NoPanic.normal ?_
                  go_wp2_with fail
                  go_roundw
                  case rel => exact ⟨kk, by omega, by go_num, by go_num, HWU.out.drew.drew⟩
                  case measure => simp [intOf] <;> omega
              · have hgb : decide ((v : Int) ≤ VK) = false := decide_eq_false hge
                have hz : cvD d v (kk + 1) = 0 := cvD_less hv3 (by omega)
                have hcx : 1 + (cvD d v i - cvD d v (kk + 1)) = x := by rw [HXE.out, hz]; omega
                rw [hcx]
                clear hz hl2
                go_wp2_with fail
                refine wp_region_noPanic ?_
                refine wp_region_held_drew (S := fun w' => w'.cell? ⟨T, 0, none⟩ = some (.slice (some ⟨b, off, none⟩) m' c') ∧ w'.cell? ⟨b, off + kk * 6, none⟩ = some (.int .i64 2) ∧ w'.cell? ⟨b, off + kk * 6 + 1, none⟩ = some (.int .i64 VK) ∧ w'.cell? ⟨b, off + i * 6 + 1, none⟩ = some (.int .i64 (v : Int))) (by kernel_rfl) ⟨d0, e0, e1, e2⟩ (fun hHeld => ?_)
                refine take_at 0 44 (.int .i64 (kk : Int)) rfl rfl (by kernel_rfl) (by kernel_rfl) (by kernel_rfl) (fun _ _ _ h => h) (Or.inl ⟨by kernel_rfl, fun w' hS' => by go_simp⟩) hHeld ?_
                (try simp only [Act.put, List.setIfInBounds_toArray, List.set_cons_zero, List.set_cons_succ])
                refine take_at 1 45 (.bool true) rfl rfl (by kernel_rfl) (by kernel_rfl) (by kernel_rfl) (fun _ _ _ h => h) (Or.inl ⟨by kernel_rfl, fun w' hS' => by go_simp⟩) hHeld ?_
                (try simp only [Act.put, List.setIfInBounds_toArray, List.set_cons_zero, List.set_cons_succ])
                refine take_at 2 46 (.bool true) rfl rfl (by kernel_rfl) (by kernel_rfl) (by kernel_rfl) (fun _ _ _ h => h) (Or.inl ⟨by kernel_rfl, fun w' hS' => by go_simp⟩) hHeld ?_
                (try simp only [Act.put, List.setIfInBounds_toArray, List.set_cons_zero, List.set_cons_succ])
                refine take_at 3 47 (.pointer (some ⟨T, 0, none⟩)) rfl rfl (by kernel_rfl) (by kernel_rfl) (by kernel_rfl) (fun _ _ _ h => h) (Or.inl ⟨by kernel_rfl, fun w' hS' => by go_simp⟩) hHeld ?_
                (try simp only [Act.put, List.setIfInBounds_toArray, List.set_cons_zero, List.set_cons_succ])
                refine take_at 4 48 (.slice (some ⟨b, off, none⟩) m' c') rfl rfl (by kernel_rfl) (by kernel_rfl) (by kernel_rfl) (fun _ _ _ h => h) (Or.inl ⟨by kernel_rfl, fun w' hS' => by have hd := hS'.1; go_simp⟩) hHeld ?_
                (try simp only [Act.put, List.setIfInBounds_toArray, List.set_cons_zero, List.set_cons_succ])
                refine take_at 5 49 (.int .i64 (kk : Int)) rfl rfl (by kernel_rfl) (by kernel_rfl) (by kernel_rfl) (fun _ _ _ h => h) (Or.inl ⟨by kernel_rfl, fun w' hS' => by go_simp⟩) hHeld ?_
                (try simp only [Act.put, List.setIfInBounds_toArray, List.set_cons_zero, List.set_cons_succ])
                refine take_at 6 50 (.pointer (some ⟨b, off + kk * 6, none⟩)) rfl rfl (by kernel_rfl) (by kernel_rfl) (by kernel_rfl) (fun _ _ _ h => h) (Or.inl ⟨by kernel_rfl, fun w' hS' => by go_simp⟩) hHeld ?_
                (try simp only [Act.put, List.setIfInBounds_toArray, List.set_cons_zero, List.set_cons_succ])
                refine take_at 7 51 (.pointer (some ⟨b, off + kk * 6, none⟩)) rfl rfl (by kernel_rfl) (by kernel_rfl) (by kernel_rfl) (fun _ _ _ h => h) (Or.inl ⟨by kernel_rfl, fun w' hS' => by go_simp⟩) hHeld ?_
                (try simp only [Act.put, List.setIfInBounds_toArray, List.set_cons_zero, List.set_cons_succ])
                refine take_at 8 52 (.int .i64 2) rfl rfl (by kernel_rfl) (by kernel_rfl) (by kernel_rfl) (fun _ _ _ h => h) (Or.inl ⟨by kernel_rfl, fun w' hS' => by have hd := hS'.2.1; go_simp⟩) hHeld ?_
                (try simp only [Act.put, List.setIfInBounds_toArray, List.set_cons_zero, List.set_cons_succ])
                refine take_at 9 53 (.bool true) rfl rfl (by kernel_rfl) (by kernel_rfl) (by kernel_rfl) (fun _ _ _ h => h) (Or.inl ⟨by kernel_rfl, fun w' hS' => by go_simp⟩) hHeld ?_
                (try simp only [Act.put, List.setIfInBounds_toArray, List.set_cons_zero, List.set_cons_succ])
                refine take_at 10 54 (.bool true) rfl rfl (by kernel_rfl) (by kernel_rfl) (by kernel_rfl) (fun _ _ _ h => h) (Or.inl ⟨by kernel_rfl, fun w' hS' => by go_simp⟩) hHeld ?_
                (try simp only [Act.put, List.setIfInBounds_toArray, List.set_cons_zero, List.set_cons_succ])
                refine take_at 11 55 (.bool true) rfl rfl (by kernel_rfl) (by kernel_rfl) (by kernel_rfl) (fun _ _ _ h => h) (Or.inl ⟨by kernel_rfl, fun w' hS' => by go_simp⟩) hHeld ?_
                (try simp only [Act.put, List.setIfInBounds_toArray, List.set_cons_zero, List.set_cons_succ])
                refine take_at 12 56 (.pointer (some ⟨T, 0, none⟩)) rfl rfl (by kernel_rfl) (by kernel_rfl) (by kernel_rfl) (fun _ _ _ h => h) (Or.inl ⟨by kernel_rfl, fun w' hS' => by go_simp⟩) hHeld ?_
                (try simp only [Act.put, List.setIfInBounds_toArray, List.set_cons_zero, List.set_cons_succ])
                refine take_at 13 57 (.slice (some ⟨b, off, none⟩) m' c') rfl rfl (by kernel_rfl) (by kernel_rfl) (by kernel_rfl) (fun _ _ _ h => h) (Or.inl ⟨by kernel_rfl, fun w' hS' => by have hd := hS'.1; go_simp⟩) hHeld ?_
                (try simp only [Act.put, List.setIfInBounds_toArray, List.set_cons_zero, List.set_cons_succ])
                refine take_at 14 58 (.int .i64 (kk : Int)) rfl rfl (by kernel_rfl) (by kernel_rfl) (by kernel_rfl) (fun _ _ _ h => h) (Or.inl ⟨by kernel_rfl, fun w' hS' => by go_simp⟩) hHeld ?_
                (try simp only [Act.put, List.setIfInBounds_toArray, List.set_cons_zero, List.set_cons_succ])
                refine take_at 15 59 (.pointer (some ⟨b, off + kk * 6, none⟩)) rfl rfl (by kernel_rfl) (by kernel_rfl) (by kernel_rfl) (fun _ _ _ h => h) (Or.inl ⟨by kernel_rfl, fun w' hS' => by go_simp⟩) hHeld ?_
                (try simp only [Act.put, List.setIfInBounds_toArray, List.set_cons_zero, List.set_cons_succ])
                refine take_at 16 60 (.pointer (some ⟨b, off + kk * 6 + 1, none⟩)) rfl rfl (by kernel_rfl) (by kernel_rfl) (by kernel_rfl) (fun _ _ _ h => h) (Or.inl ⟨by kernel_rfl, fun w' hS' => by go_simp⟩) hHeld ?_
                (try simp only [Act.put, List.setIfInBounds_toArray, List.set_cons_zero, List.set_cons_succ])
                refine take_at 17 61 (.int .i64 VK) rfl rfl (by kernel_rfl) (by kernel_rfl) (by kernel_rfl) (fun _ _ _ h => h) (Or.inl ⟨by kernel_rfl, fun w' hS' => by have hd := hS'.2.2.1; go_simp⟩) hHeld ?_
                (try simp only [Act.put, List.setIfInBounds_toArray, List.set_cons_zero, List.set_cons_succ])
                refine take_at 18 62 (.pointer (some ⟨T, 0, none⟩)) rfl rfl (by kernel_rfl) (by kernel_rfl) (by kernel_rfl) (fun _ _ _ h => h) (Or.inl ⟨by kernel_rfl, fun w' hS' => by go_simp⟩) hHeld ?_
                (try simp only [Act.put, List.setIfInBounds_toArray, List.set_cons_zero, List.set_cons_succ])
                refine take_at 19 63 (.slice (some ⟨b, off, none⟩) m' c') rfl rfl (by kernel_rfl) (by kernel_rfl) (by kernel_rfl) (fun _ _ _ h => h) (Or.inl ⟨by kernel_rfl, fun w' hS' => by have hd := hS'.1; go_simp⟩) hHeld ?_
                (try simp only [Act.put, List.setIfInBounds_toArray, List.set_cons_zero, List.set_cons_succ])
                refine take_at 20 64 (.int .i64 (i : Int)) rfl rfl (by kernel_rfl) (by kernel_rfl) (by kernel_rfl) (fun _ _ _ h => h) (Or.inl ⟨by kernel_rfl, fun w' hS' => by go_simp⟩) hHeld ?_
                (try simp only [Act.put, List.setIfInBounds_toArray, List.set_cons_zero, List.set_cons_succ])
                refine take_at 21 65 (.pointer (some ⟨b, off + i * 6, none⟩)) rfl rfl (by kernel_rfl) (by kernel_rfl) (by kernel_rfl) (fun _ _ _ h => h) (Or.inl ⟨by kernel_rfl, fun w' hS' => by go_simp⟩) hHeld ?_
                (try simp only [Act.put, List.setIfInBounds_toArray, List.set_cons_zero, List.set_cons_succ])
                refine take_at 22 66 (.pointer (some ⟨b, off + i * 6 + 1, none⟩)) rfl rfl (by kernel_rfl) (by kernel_rfl) (by kernel_rfl) (fun _ _ _ h => h) (Or.inl ⟨by kernel_rfl, fun w' hS' => by go_simp⟩) hHeld ?_
                (try simp only [Act.put, List.setIfInBounds_toArray, List.set_cons_zero, List.set_cons_succ])
                refine take_at 23 67 (.int .i64 (v : Int)) rfl rfl (by kernel_rfl) (by kernel_rfl) (by kernel_rfl) (fun _ _ _ h => h) (Or.inl ⟨by kernel_rfl, fun w' hS' => by have hd := hS'.2.2.2; go_simp⟩) hHeld ?_
                (try simp only [Act.put, List.setIfInBounds_toArray, List.set_cons_zero, List.set_cons_succ])
                refine take_at 24 68 (.bool false) rfl rfl (by kernel_rfl) (by kernel_rfl) (by kernel_rfl) (fun _ _ _ h => h) (Or.inl ⟨by kernel_rfl, fun w' hS' => by go_simp⟩) hHeld ?_
                (try simp only [Act.put, List.setIfInBounds_toArray, List.set_cons_zero, List.set_cons_succ])
                refine take_at 25 69 (.bool false) rfl rfl (by kernel_rfl) (by kernel_rfl) (by kernel_rfl) (fun _ _ _ h => h) (Or.inl ⟨by kernel_rfl, fun w' hS' => by go_simp⟩) hHeld ?_
                (try simp only [Act.put, List.setIfInBounds_toArray, List.set_cons_zero, List.set_cons_succ])
                refine wpAnyH_done (by kernel_rfl) ?_ _
                refine NoPanic.normal ?_
                clear hgb hge hvk hcx e0 e1
                go_wp2_with fail
                refine wp_region_noPanic ?_
                refine wp_region_held_drew (S := fun w' => w'.cell? ⟨T, 0, none⟩ = some (.slice (some ⟨b, off, none⟩) m' c') ∧ w'.cell? ⟨bn, offn + i, none⟩ = some (.slice (some ⟨bi, offi, none⟩) mi qi) ∧ w'.cell? ⟨b, off + i * 6 + 1, none⟩ = some (.int .i64 (v : Int)) ∧ w'.cell? ⟨bi, offi + v, none⟩ = some (.int .i64 x)) (by kernel_rfl) ⟨d0, q2, e2, q3⟩ (fun hHeld => ?_)
                refine take_at 0 87 (.slice (some ⟨bn, offn, none⟩) m q) rfl rfl (by kernel_rfl) (by kernel_rfl) (by kernel_rfl) (fun _ _ _ h => h) (Or.inl ⟨by kernel_rfl, fun w' hS' => by go_simp⟩) hHeld ?_
                (try simp only [Act.put, List.setIfInBounds_toArray, List.set_cons_zero, List.set_cons_succ])
                refine take_at 1 88 (.int .i64 (i : Int)) rfl rfl (by kernel_rfl) (by kernel_rfl) (by kernel_rfl) (fun _ _ _ h => h) (Or.inl ⟨by kernel_rfl, fun w' hS' => by go_simp⟩) hHeld ?_
                (try simp only [Act.put, List.setIfInBounds_toArray, List.set_cons_zero, List.set_cons_succ])
                refine take_at 2 89 (.pointer (some ⟨bn, offn + i, none⟩)) rfl rfl (by kernel_rfl) (by kernel_rfl) (by kernel_rfl) (fun _ _ _ h => h) (Or.inl ⟨by kernel_rfl, fun w' hS' => by go_simp⟩) hHeld ?_
                (try simp only [Act.put, List.setIfInBounds_toArray, List.set_cons_zero, List.set_cons_succ])
                refine take_at 3 90 (.slice (some ⟨bi, offi, none⟩) mi qi) rfl rfl (by kernel_rfl) (by kernel_rfl) (by kernel_rfl) (fun _ _ _ h => h) (Or.inl ⟨by kernel_rfl, fun w' hS' => by have hd := hS'.2.1; go_simp⟩) hHeld ?_
                (try simp only [Act.put, List.setIfInBounds_toArray, List.set_cons_zero, List.set_cons_succ])
                refine take_at 4 91 (.pointer (some ⟨T, 0, none⟩)) rfl rfl (by kernel_rfl) (by kernel_rfl) (by kernel_rfl) (fun _ _ _ h => h) (Or.inl ⟨by kernel_rfl, fun w' hS' => by go_simp⟩) hHeld ?_
                (try simp only [Act.put, List.setIfInBounds_toArray, List.set_cons_zero, List.set_cons_succ])
                refine take_at 5 92 (.slice (some ⟨b, off, none⟩) m' c') rfl rfl (by kernel_rfl) (by kernel_rfl) (by kernel_rfl) (fun _ _ _ h => h) (Or.inl ⟨by kernel_rfl, fun w' hS' => by have hd := hS'.1; go_simp⟩) hHeld ?_
                (try simp only [Act.put, List.setIfInBounds_toArray, List.set_cons_zero, List.set_cons_succ])
                refine take_at 6 93 (.int .i64 (i : Int)) rfl rfl (by kernel_rfl) (by kernel_rfl) (by kernel_rfl) (fun _ _ _ h => h) (Or.inl ⟨by kernel_rfl, fun w' hS' => by go_simp⟩) hHeld ?_
                (try simp only [Act.put, List.setIfInBounds_toArray, List.set_cons_zero, List.set_cons_succ])
                refine take_at 7 94 (.pointer (some ⟨b, off + i * 6, none⟩)) rfl rfl (by kernel_rfl) (by kernel_rfl) (by kernel_rfl) (fun _ _ _ h => h) (Or.inl ⟨by kernel_rfl, fun w' hS' => by go_simp⟩) hHeld ?_
                (try simp only [Act.put, List.setIfInBounds_toArray, List.set_cons_zero, List.set_cons_succ])
                refine take_at 8 95 (.pointer (some ⟨b, off + i * 6 + 1, none⟩)) rfl rfl (by kernel_rfl) (by kernel_rfl) (by kernel_rfl) (fun _ _ _ h => h) (Or.inl ⟨by kernel_rfl, fun w' hS' => by go_simp⟩) hHeld ?_
                (try simp only [Act.put, List.setIfInBounds_toArray, List.set_cons_zero, List.set_cons_succ])
                refine take_at 9 96 (.int .i64 (v : Int)) rfl rfl (by kernel_rfl) (by kernel_rfl) (by kernel_rfl) (fun _ _ _ h => h) (Or.inl ⟨by kernel_rfl, fun w' hS' => by have hd := hS'.2.2.1; go_simp⟩) hHeld ?_
                (try simp only [Act.put, List.setIfInBounds_toArray, List.set_cons_zero, List.set_cons_succ])
                refine take_at 10 97 (.pointer (some ⟨bi, offi + v, none⟩)) rfl rfl (by kernel_rfl) (by kernel_rfl) (by kernel_rfl) (fun _ _ _ h => h) (Or.inl ⟨by kernel_rfl, fun w' hS' => by go_simp⟩) hHeld ?_
                (try simp only [Act.put, List.setIfInBounds_toArray, List.set_cons_zero, List.set_cons_succ])
                refine take_at 11 98 (.int .i64 x) rfl rfl (by kernel_rfl) (by kernel_rfl) (by kernel_rfl) (fun _ _ _ h => h) (Or.inl ⟨by kernel_rfl, fun w' hS' => by have hd := hS'.2.2.2; go_simp⟩) hHeld ?_
                (try simp only [Act.put, List.setIfInBounds_toArray, List.set_cons_zero, List.set_cons_succ])
                refine take_at 12 99 (.int .i64 x) rfl rfl (by kernel_rfl) (by kernel_rfl) (by kernel_rfl) (fun _ _ _ h => h) (Or.inl ⟨by kernel_rfl, fun w' hS' => by go_simp⟩) hHeld ?_
                (try simp only [Act.put, List.setIfInBounds_toArray, List.set_cons_zero, List.set_cons_succ])
                refine take_at 13 100 (.bool false) rfl rfl (by kernel_rfl) (by kernel_rfl) (by kernel_rfl) (fun _ _ _ h => h) (Or.inl ⟨by kernel_rfl, fun w' hS' => by go_simp⟩) hHeld ?_
                (try simp only [Act.put, List.setIfInBounds_toArray, List.set_cons_zero, List.set_cons_succ])
                refine wpAnyH_done (by kernel_rfl) ?_ _
                refine NoPanic.normal ?_
                go_wp2_with fail
                go_roundg (m - (i + 1))
                case measure => have := HGK.out; omega
                case rel => exact ⟨i + 1, by omega, rfl, by go_num, HBW.out.trans ((HWU.out.drew.drew).mono (by have := HBW.out.size; omega))⟩
            · have hz : cvD d v (kk + 1) = 0 := cvD_less hv3 (by unfold lvN; rw [HK2.out, if_neg hK2]; omega)
              have hcx : 1 + (cvD d v i - cvD d v (kk + 1)) = x := by rw [HXE.out, hz]; omega
              rw [hcx]
              clear hz
              have g3 : (K2 == 2) = false := by simp; exact hK2
              go_wp2_with fail
              refine wp_region_noPanic ?_
              refine wp_region_held_drew (S := fun w' => w'.cell? ⟨T, 0, none⟩ = some (.slice (some ⟨b, off, none⟩) m' c') ∧ w'.cell? ⟨b, off + kk * 6, none⟩ = some (.int .i64 K2)) (by kernel_rfl) ⟨d0, e0⟩ (fun hHeld => ?_)
              refine take_at 0 44 (.int .i64 (kk : Int)) rfl rfl (by kernel_rfl) (by kernel_rfl) (by kernel_rfl) (fun _ _ _ h => h) (Or.inl ⟨by kernel_rfl, fun w' hS' => by go_simp⟩) hHeld ?_
              (try simp only [Act.put, List.setIfInBounds_toArray, List.set_cons_zero, List.set_cons_succ])
              refine take_at 1 45 (.bool true) rfl rfl (by kernel_rfl) (by kernel_rfl) (by kernel_rfl) (fun _ _ _ h => h) (Or.inl ⟨by kernel_rfl, fun w' hS' => by go_simp⟩) hHeld ?_
              (try simp only [Act.put, List.setIfInBounds_toArray, List.set_cons_zero, List.set_cons_succ])
              refine take_at 2 46 (.bool true) rfl rfl (by kernel_rfl) (by kernel_rfl) (by kernel_rfl) (fun _ _ _ h => h) (Or.inl ⟨by kernel_rfl, fun w' hS' => by go_simp⟩) hHeld ?_
              (try simp only [Act.put, List.setIfInBounds_toArray, List.set_cons_zero, List.set_cons_succ])
              refine take_at 3 47 (.pointer (some ⟨T, 0, none⟩)) rfl rfl (by kernel_rfl) (by kernel_rfl) (by kernel_rfl) (fun _ _ _ h => h) (Or.inl ⟨by kernel_rfl, fun w' hS' => by go_simp⟩) hHeld ?_
              (try simp only [Act.put, List.setIfInBounds_toArray, List.set_cons_zero, List.set_cons_succ])
              refine take_at 4 48 (.slice (some ⟨b, off, none⟩) m' c') rfl rfl (by kernel_rfl) (by kernel_rfl) (by kernel_rfl) (fun _ _ _ h => h) (Or.inl ⟨by kernel_rfl, fun w' hS' => by have hd := hS'.1; go_simp⟩) hHeld ?_
              (try simp only [Act.put, List.setIfInBounds_toArray, List.set_cons_zero, List.set_cons_succ])
              refine take_at 5 49 (.int .i64 (kk : Int)) rfl rfl (by kernel_rfl) (by kernel_rfl) (by kernel_rfl) (fun _ _ _ h => h) (Or.inl ⟨by kernel_rfl, fun w' hS' => by go_simp⟩) hHeld ?_
              (try simp only [Act.put, List.setIfInBounds_toArray, List.set_cons_zero, List.set_cons_succ])
              refine take_at 6 50 (.pointer (some ⟨b, off + kk * 6, none⟩)) rfl rfl (by kernel_rfl) (by kernel_rfl) (by kernel_rfl) (fun _ _ _ h => h) (Or.inl ⟨by kernel_rfl, fun w' hS' => by go_simp⟩) hHeld ?_
              (try simp only [Act.put, List.setIfInBounds_toArray, List.set_cons_zero, List.set_cons_succ])
              refine take_at 7 51 (.pointer (some ⟨b, off + kk * 6, none⟩)) rfl rfl (by kernel_rfl) (by kernel_rfl) (by kernel_rfl) (fun _ _ _ h => h) (Or.inl ⟨by kernel_rfl, fun w' hS' => by go_simp⟩) hHeld ?_
              (try simp only [Act.put, List.setIfInBounds_toArray, List.set_cons_zero, List.set_cons_succ])
              refine take_at 8 52 (.int .i64 K2) rfl rfl (by kernel_rfl) (by kernel_rfl) (by kernel_rfl) (fun _ _ _ h => h) (Or.inl ⟨by kernel_rfl, fun w' hS' => by have hd := hS'.2; go_simp⟩) hHeld ?_
              (try simp only [Act.put, List.setIfInBounds_toArray, List.set_cons_zero, List.set_cons_succ])
              refine take_at 9 53 (.bool false) rfl rfl (by kernel_rfl) (by kernel_rfl) (by kernel_rfl) (fun _ _ _ h => h) (Or.inl ⟨by kernel_rfl, fun w' hS' => by go_simp⟩) hHeld ?_
              (try simp only [Act.put, List.setIfInBounds_toArray, List.set_cons_zero, List.set_cons_succ])
              refine take_at 10 54 (.bool false) rfl rfl (by kernel_rfl) (by kernel_rfl) (by kernel_rfl) (fun _ _ _ h => h) (Or.inl ⟨by kernel_rfl, fun w' hS' => by go_simp⟩) hHeld ?_
              (try simp only [Act.put, List.setIfInBounds_toArray, List.set_cons_zero, List.set_cons_succ])
              refine take_at 11 55 (.bool false) rfl rfl (by kernel_rfl) (by kernel_rfl) (by kernel_rfl) (fun _ _ _ h => h) (Or.inl ⟨by kernel_rfl, fun w' hS' => by go_simp⟩) hHeld ?_
              (try simp only [Act.put, List.setIfInBounds_toArray, List.set_cons_zero, List.set_cons_succ])
              refine take_at 12 56 (undef) rfl rfl (by kernel_rfl) (by kernel_rfl) (by kernel_rfl) (fun _ _ _ h => h) (Or.inr ⟨by kernel_rfl, rfl⟩) hHeld ?_
              (try simp only [Act.put, List.setIfInBounds_toArray, List.set_cons_zero, List.set_cons_succ])
              refine take_at 13 57 (undef) rfl rfl (by kernel_rfl) (by kernel_rfl) (by kernel_rfl) (fun _ _ _ h => h) (Or.inr ⟨by kernel_rfl, rfl⟩) hHeld ?_
              (try simp only [Act.put, List.setIfInBounds_toArray, List.set_cons_zero, List.set_cons_succ])
              refine take_at 14 58 (undef) rfl rfl (by kernel_rfl) (by kernel_rfl) (by kernel_rfl) (fun _ _ _ h => h) (Or.inr ⟨by kernel_rfl, rfl⟩) hHeld ?_
              (try simp only [Act.put, List.setIfInBounds_toArray, List.set_cons_zero, List.set_cons_succ])
              refine take_at 15 59 (undef) rfl rfl (by kernel_rfl) (by kernel_rfl) (by kernel_rfl) (fun _ _ _ h => h) (Or.inr ⟨by kernel_rfl, rfl⟩) hHeld ?_
              (try simp only [Act.put, List.setIfInBounds_toArray, List.set_cons_zero, List.set_cons_succ])
              refine take_at 16 60 (undef) rfl rfl (by kernel_rfl) (by kernel_rfl) (by kernel_rfl) (fun _ _ _ h => h) (Or.inr ⟨by kernel_rfl, rfl⟩) hHeld ?_
              (try simp only [Act.put, List.setIfInBounds_toArray, List.set_cons_zero, List.set_cons_succ])
              refine take_at 17 61 (undef) rfl rfl (by kernel_rfl) (by kernel_rfl) (by kernel_rfl) (fun _ _ _ h => h) (Or.inr ⟨by kernel_rfl, rfl⟩) hHeld ?_
              (try simp only [Act.put, List.setIfInBounds_toArray, List.set_cons_zero, List.set_cons_succ])
              refine take_at 18 62 (undef) rfl rfl (by kernel_rfl) (by kernel_rfl) (by kernel_rfl) (fun _ _ _ h => h) (Or.inr ⟨by kernel_rfl, rfl⟩) hHeld ?_
              (try simp only [Act.put, List.setIfInBounds_toArray, List.set_cons_zero, List.set_cons_succ])
              refine take_at 19 63 (undef) rfl rfl (by kernel_rfl) (by kernel_rfl) (by kernel_rfl) (fun _ _ _ h => h) (Or.inr ⟨by kernel_rfl, rfl⟩) hHeld ?_
              (try simp only [Act.put, List.setIfInBounds_toArray, List.set_cons_zero, List.set_cons_succ])
              refine take_at 20 64 (undef) rfl rfl (by kernel_rfl) (by kernel_rfl) (by kernel_rfl) (fun _ _ _ h => h) (Or.inr ⟨by kernel_rfl, rfl⟩) hHeld ?_
              (try simp only [Act.put, List.setIfInBounds_toArray, List.set_cons_zero, List.set_cons_succ])
              refine take_at 21 65 (undef) rfl rfl (by kernel_rfl) (by kernel_rfl) (by kernel_rfl) (fun _ _ _ h => h) (Or.inr ⟨by kernel_rfl, rfl⟩) hHeld ?_
              (try simp only [Act.put, List.setIfInBounds_toArray, List.set_cons_zero, List.set_cons_succ])
              refine take_at 22 66 (undef) rfl rfl (by kernel_rfl) (by kernel_rfl) (by kernel_rfl) (fun _ _ _ h => h) (Or.inr ⟨by kernel_rfl, rfl⟩) hHeld ?_
              (try simp only [Act.put, List.setIfInBounds_toArray, List.set_cons_zero, List.set_cons_succ])
              refine take_at 23 67 (undef) rfl rfl (by kernel_rfl) (by kernel_rfl) (by kernel_rfl) (fun _ _ _ h => h) (Or.inr ⟨by kernel_rfl, rfl⟩) hHeld ?_
              (try simp only [Act.put, List.setIfInBounds_toArray, List.set_cons_zero, List.set_cons_succ])
              refine take_at 24 68 (undef) rfl rfl (by kernel_rfl) (by kernel_rfl) (by kernel_rfl) (fun _ _ _ h => h) (Or.inr ⟨by kernel_rfl, rfl⟩) hHeld ?_
              (try simp only [Act.put, List.setIfInBounds_toArray, List.set_cons_zero, List.set_cons_succ])
              refine take_at 25 69 (.bool false) rfl rfl (by kernel_rfl) (by kernel_rfl) (by kernel_rfl) (fun _ _ _ h => h) (Or.inl ⟨by kernel_rfl, fun w' hS' => by go_simp⟩) hHeld ?_
              (try simp only [Act.put, List.setIfInBounds_toArray, List.set_cons_zero, List.set_cons_succ])
              refine wpAnyH_done (by kernel_rfl) ?_ _
              refine NoPanic.normal ?_
              go_wp2_with fail
              refine wp_region_noPanic ?_
              refine wp_region_held_drew (S := fun w' => w'.cell? ⟨T, 0, none⟩ = some (.slice (some ⟨b, off, none⟩) m' c') ∧ w'.cell? ⟨bn, offn + i, none⟩ = some (.slice (some ⟨bi, offi, none⟩) mi qi) ∧ w'.cell? ⟨b, off + i * 6 + 1, none⟩ = some (.int .i64 (v : Int)) ∧ w'.cell? ⟨bi, offi + v, none⟩ = some (.int .i64 x)) (by kernel_rfl) ⟨d0, q2, e2, q3⟩ (fun hHeld => ?_)
              refine take_at 0 87 (.slice (some ⟨bn, offn, none⟩) m q) rfl rfl (by kernel_rfl) (by kernel_rfl) (by kernel_rfl) (fun _ _ _ h => h) (Or.inl ⟨by kernel_rfl, fun w' hS' => by go_simp⟩) hHeld ?_
              (try simp only [Act.put, List.setIfInBounds_toArray, List.set_cons_zero, List.set_cons_succ])
              refine take_at 1 88 (.int .i64 (i : Int)) rfl rfl (by kernel_rfl) (by kernel_rfl) (by kernel_rfl) (fun _ _ _ h => h) (Or.inl ⟨by kernel_rfl, fun w' hS' => by go_simp⟩) hHeld ?_
              (try simp only [Act.put, List.setIfInBounds_toArray, List.set_cons_zero, List.set_cons_succ])
              refine take_at 2 89 (.pointer (some ⟨bn, offn + i, none⟩)) rfl rfl (by kernel_rfl) (by kernel_rfl) (by kernel_rfl) (fun _ _ _ h => h) (Or.inl ⟨by kernel_rfl, fun w' hS' => by go_simp⟩) hHeld ?_
              (try simp only [Act.put, List.setIfInBounds_toArray, List.set_cons_zero, List.set_cons_succ])
              refine take_at 3 90 (.slice (some ⟨bi, offi, none⟩) mi qi) rfl rfl (by kernel_rfl) (by kernel_rfl) (by kernel_rfl) (fun _ _ _ h => h) (Or.inl ⟨by kernel_rfl, fun w' hS' => by have hd := hS'.2.1; go_simp⟩) hHeld ?_
              (try simp only [Act.put, List.setIfInBounds_toArray, List.set_cons_zero, List.set_cons_succ])
              refine take_at 4 91 (.pointer (some ⟨T, 0, none⟩)) rfl rfl (by kernel_rfl) (by kernel_rfl) (by kernel_rfl) (fun _ _ _ h => h) (Or.inl ⟨by kernel_rfl, fun w' hS' => by go_simp⟩) hHeld ?_
              (try simp only [Act.put, List.setIfInBounds_toArray, List.set_cons_zero, List.set_cons_succ])
              refine take_at 5 92 (.slice (some ⟨b, off, none⟩) m' c') rfl rfl (by kernel_rfl) (by kernel_rfl) (by kernel_rfl) (fun _ _ _ h => h) (Or.inl ⟨by kernel_rfl, fun w' hS' => by have hd := hS'.1; go_simp⟩) hHeld ?_
              (try simp only [Act.put, List.setIfInBounds_toArray, List.set_cons_zero, List.set_cons_succ])
              refine take_at 6 93 (.int .i64 (i : Int)) rfl rfl (by kernel_rfl) (by kernel_rfl) (by kernel_rfl) (fun _ _ _ h => h) (Or.inl ⟨by kernel_rfl, fun w' hS' => by go_simp⟩) hHeld ?_
              (try simp only [Act.put, List.setIfInBounds_toArray, List.set_cons_zero, List.set_cons_succ])
              refine take_at 7 94 (.pointer (some ⟨b, off + i * 6, none⟩)) rfl rfl (by kernel_rfl) (by kernel_rfl) (by kernel_rfl) (fun _ _ _ h => h) (Or.inl ⟨by kernel_rfl, fun w' hS' => by go_simp⟩) hHeld ?_
              (try simp only [Act.put, List.setIfInBounds_toArray, List.set_cons_zero, List.set_cons_succ])
              refine take_at 8 95 (.pointer (some ⟨b, off + i * 6 + 1, none⟩)) rfl rfl (by kernel_rfl) (by kernel_rfl) (by kernel_rfl) (fun _ _ _ h => h) (Or.inl ⟨by kernel_rfl, fun w' hS' => by go_simp⟩) hHeld ?_
              (try simp only [Act.put, List.setIfInBounds_toArray, List.set_cons_zero, List.set_cons_succ])
              refine take_at 9 96 (.int .i64 (v : Int)) rfl rfl (by kernel_rfl) (by kernel_rfl) (by kernel_rfl) (fun _ _ _ h => h) (Or.inl ⟨by kernel_rfl, fun w' hS' => by have hd := hS'.2.2.1; go_simp⟩) hHeld ?_
              (try simp only [Act.put, List.setIfInBounds_toArray, List.set_cons_zero, List.set_cons_succ])
              refine take_at 10 97 (.pointer (some ⟨bi, offi + v, none⟩)) rfl rfl (by kernel_rfl) (by kernel_rfl) (by kernel_rfl) (fun _ _ _ h => h) (Or.inl ⟨by kernel_rfl, fun w' hS' => by go_simp⟩) hHeld ?_
              (try simp only [Act.put, List.setIfInBounds_toArray, List.set_cons_zero, List.set_cons_succ])
              refine take_at 11 98 (.int .i64 x) rfl rfl (by kernel_rfl) (by kernel_rfl) (by kernel_rfl) (fun _ _ _ h => h) (Or.inl ⟨by kernel_rfl, fun w' hS' => by have hd := hS'.2.2.2; go_simp⟩) hHeld ?_
              (try simp only [Act.put, List.setIfInBounds_toArray, List.set_cons_zero, List.set_cons_succ])
              refine take_at 12 99 (.int .i64 x) rfl rfl (by kernel_rfl) (by kernel_rfl) (by kernel_rfl) (fun _ _ _ h => h) (Or.inl ⟨by kernel_rfl, fun w' hS' => by go_simp⟩) hHeld ?_
              (try simp only [Act.put, List.setIfInBounds_toArray, List.set_cons_zero, List.set_cons_succ])
              refine take_at 13 100 (.bool false) rfl rfl (by kernel_rfl) (by kernel_rfl) (by kernel_rfl) (fun _ _ _ h => h) (Or.inl ⟨by kernel_rfl, fun w' hS' => by go_simp⟩) hHeld ?_
              (try simp only [Act.put, List.setIfInBounds_toArray, List.set_cons_zero, List.set_cons_succ])
              refine wpAnyH_done (by kernel_rfl) ?_ _
              refine NoPanic.normal ?_
              go_wp2_with fail
              go_roundg (m - (i + 1))
              case measure => have := HGK.out; omega
              case rel => exact ⟨i + 1, by omega, rfl, by go_num, HBW.out.trans ((HWU.out.drew.drew).mono (by have := HBW.out.size; omega))⟩
      · have g2 : (K != 2) = true := by simp; exact hk2
        go_wp2_with fail
        go_roundg (m - (i + 1))
        case measure => have := HGK.out; omega
        case rel => exact ⟨i + 1, by omega, rfl, by go_num, HBW.out⟩
    · have hib : ¬ (i : Int) < (m : Int) := by omega
      go_wp2_with fail
      go_ret
      exact ⟨rfl, HB.out⟩
end Go.Proofs.Ytoliebgdlnjahaa
