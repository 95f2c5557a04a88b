import Derived.Test.YthjipnocemioaaaBA1
import Derived.Deep.QuietTactic
import Derived.BigQuiet
import Derived.Test.YthjipnocemioaaaBD2
import Derived.Test.YthjipnocemioaaaBD3
import Derived.Test.YthjipnocemioaaaBA2
namespace Go.Proofs.Ythjipnocemioaaa
open Go.RowKit

/-- A value that owns a list of ints. -/
def OwnI (w : World) (B : Nat) (v : Value) (ns : List Int) : Prop := w.ownsRow B 3 1 v ns.length (ns.map (Value.int .i64))
theorem OwnI.shape {w : World} {B : Nat} {v : Value} {ns : List Int} (h : OwnI w B v ns) : ∃ a cap, v = .slice a ns.length cap := by
  have h' := h
  unfold OwnI at h'
  rcases h'.2 with ⟨rfl, h0⟩ | ⟨g, cap, cur, rfl, r⟩
  · exact ⟨none, 0, by rw [h0]⟩
  · exact ⟨_, _, rfl⟩
theorem OwnI.below {w w' : World} {B : Nat} {v : Value} {l : List Int} (h : OwnI w B v l) (hb : Below w.heap.size w w') : OwnI w' B v l := own_below h hb
theorem OwnI.base {w : World} {B B' : Nat} {v : Value} {l : List Int} (h : OwnI w B' v l) (hB : B ≤ B') : OwnI w B v l :=
  ⟨h.1, h.2.elim .inl (fun ⟨g, cap, cur, x, y, z⟩ => .inr ⟨g, cap, cur, x, Nat.le_trans hB y, z⟩)⟩
theorem OwnI.nil (w : World) (B : Nat) : OwnI w B (.slice none 0 0) [] := World.ownsRow_nil _ _ _ _
theorem OwnI.alloc {w : World} {B : Nat} {v : Value} {l : List Int} (h : OwnI w B v l) (o : Obj) : OwnI (w.alloc o) B v l := World.ownsRow.alloc h o
theorem OwnI.len {w : World} {B : Nat} {a : Option Addr} {n cap : Nat} {l : List Int} (h : OwnI w B (.slice a n cap) l) : n = l.length := by
  obtain ⟨a', c', he⟩ := h.shape
  simp only [Value.slice.injEq] at he
  exact he.2.1
theorem OwnI.row {w : World} {B : Nat} {a : Option Addr} {n cap : Nat} {l : List Int} (h : OwnI w B (.slice a n cap) l) : w.ownsRow B 3 1 (.slice a n cap) n (l.map (Value.int .i64)) := by
  have := h.len
  subst this
  exact h
theorem ownI_step {B : Nat} {w wr w1 : World} {a : Option Addr} {k c : Nat} {v' : Value} {l : List Int} {x : Int} {o : Obj} (ho : OwnI wr B (.slice a k c) l) (hbl : Below B w wr) (hB : B ≤ wr.heap.size)
    (hown : w1.ownsRow B 3 1 v' (k + 1) (l.map (Value.int .i64) ++ [.int .i64 x])) (hgrow : (wr.alloc o).grownBy w1 (Value.slice a k c).ownBlock) :
    ∃ a' c', v' = .slice a' (k + 1) c' ∧ OwnI w1 B (.slice a' (k + 1) c') (l ++ [x]) ∧ Below B w w1 := by
  have hk := ho.len
  have h1 : OwnI w1 B v' (l ++ [x]) := by
    unfold OwnI
    rw [List.length_append, List.map_append, show l.length + [x].length = k + 1 by simp; omega]
    exact hown
  obtain ⟨a', c', rfl⟩ := h1.shape
  have e : (l ++ [x]).length = k + 1 := by simp; omega
  rw [e] at h1 ⊢
  refine ⟨a', c', rfl, h1, ?_⟩
  exact (hbl.alloc hB _).grown hgrow (by simp; omega) (fun q hq => (ho.row.lt q hq).1)
theorem cell_new1 (w : World) (x : Value) (t : TypeId) : ∀ j u, [x][j]? = some u → (w.alloc (.cells #[x] t)).cell? ((⟨w.heap.size, 0, none⟩ : Addr).add j) = some u := by
  intro j u hj
  match j, hj with
  | 0, hj => simp at hj; subst hj; simp [Addr.add]
  | (j + 1), hj => simp at hj
theorem int_oneCell (x : Int) : ∀ u ∈ [Value.int .i64 x], u.oneCell' = true := by
  intro u hu
  simp at hu
  subst hu
  rfl
theorem Try.info3 : (Try.prog.info? 3).map (fun i => (i.zero, i.size, i.bytes)) = some (some (.int .i64 0), 1, 8) := by kernel_rfl
/-- A slice value that reads as the ints l. -/
def Ints (w : World) (a : Option Addr) (n cap : Nat) (l : List Int) : Prop :=
  n = l.length ∧ n ≤ cap ∧ cap ≤ maxLen ∧ (l = [] ∨ ∃ b off, a = some ⟨b, off, none⟩ ∧ b < w.heap.size ∧ ∀ i, i < l.length → w.cell? ⟨b, off + i, none⟩ = some (.int .i64 (l.getD i 0)))
theorem Ints.below {w w' : World} {a : Option Addr} {n cap : Nat} {l : List Int} (h : Ints w a n cap l) (hb : Below w.heap.size w w') : Ints w' a n cap l := by
  obtain ⟨h1, h2, h3, h4⟩ := h
  refine ⟨h1, h2, h3, ?_⟩
  rcases h4 with h4 | ⟨b, off, h5, h6, h7⟩
  · exact .inl h4
  · exact .inr ⟨b, off, h5, Nat.lt_of_lt_of_le h6 hb.size, fun i hi => (hb.cell (p := ⟨b, _, none⟩) h6).trans (h7 i hi)⟩
theorem OwnI.ints {w : World} {B : Nat} {a : Option Addr} {n cap : Nat} {l : List Int} (h : OwnI w B (.slice a n cap) l) : Ints w a n cap l := by
  have hn := h.len
  have hr := h.row
  rcases hr.2 with ⟨hv, h0⟩ | ⟨g, cap', cur, hv, hB, hg, hnc, hcm, _⟩
  · simp only [Value.slice.injEq] at hv
    obtain ⟨rfl, rfl, rfl⟩ := hv
    exact ⟨hn, Nat.le_refl _, Nat.zero_le _, .inl (List.eq_nil_of_length_eq_zero hn.symm)⟩
  · simp only [Value.slice.injEq, true_and] at hv
    obtain ⟨rfl, rfl⟩ := hv
    refine ⟨hn, hnc, hcm, .inr ⟨g, 0, rfl, (Array.getElem?_eq_some_iff.1 hg).1, fun i hi => ?_⟩⟩
    rw [Nat.zero_add, hr.cellAt i (by omega), List.getElem?_map, List.getElem?_eq_getElem hi]
    simp [List.getD, hi]
theorem OwnI.shapeL {w : World} {B : Nat} {v : Value} {l : List Int} (h : OwnI w B v l) : ∃ a n cap, v = .slice a n cap ∧ n = l.length := by
  obtain ⟨a, cap, rfl⟩ := h.shape
  exact ⟨a, _, cap, rfl, rfl⟩

/-! Plain facts. -/
end Go.Proofs.Ythjipnocemioaaa
namespace Go.Proofs.Ythjipnocemioaaa
open Go.RowKit

/-- How many items there are of each level. -/
abbrev Cn := Int × Int × Int × Int
def cnA (c : Cn) : Array Value := #[.int .i64 c.1, .int .i64 c.2.1, .int .i64 c.2.2.1, .int .i64 c.2.2.2]
/-- The counts behind a block of a level. -/
def withC (c : Cn) (v : Int) : Cn :=
  if v = 0 then (c.1 + 1, 0, 0, 0) else if v = 1 then (c.1, c.2.1 + 1, 0, 0) else if v = 2 then (c.1, c.2.1, c.2.2.1 + 1, 0) else if v = 3 then (c.1, c.2.1, c.2.2.1, c.2.2.2 + 1) else (0, 0, 0, 0)
theorem counts_info : (Try.prog.info? 73).map (·.size) = some 4 := by kernel_rfl
theorem cells4_one (a b c d : Int) : (#[Value.int .i64 a, .int .i64 b, .int .i64 c, .int .i64 d] : Array Value).all (·.oneCell') = true := by simp [Value.oneCell']
theorem rowAt_two (w : World) (o : Obj) (cs : Array Value) (ty : TypeId) : RowAt ((w.alloc o).alloc (.cells cs ty)) (w.heap.size + 1) cs ty := by
  have := rowAt_new (w.alloc o) cs ty
  simpa using this
set_option maxRecDepth 100000 in
set_option maxHeartbeats 8000000 in
theorem with_any {c0 c1 c2 c3 v : Int} {w : World} (hv : v = -1 ∨ v = 0 ∨ v = 1 ∨ v = 2 ∨ v = 3) (h0 : 0 ≤ c0 ∧ c0 ≤ 1000) (h1 : 0 ≤ c1 ∧ c1 ≤ 1000) (h2 : 0 ≤ c2 ∧ c2 ≤ 1000) (h3 : 0 ≤ c3 ∧ c3 ≤ 1000) :
    Calls Try.prog 40 #[.agg #[.int .i64 c0, .int .i64 c1, .int .i64 c2, .int .i64 c3], .int .i64 v] w fun e w' => e = .returned (.agg (cnA (withC (c0, c1, c2, c3) v))) ∧ Below w.heap.size w w' := by
  obtain ⟨h00, h01⟩ := h0
  obtain ⟨h10, h11⟩ := h1
  obtain ⟨h20, h21⟩ := h2
  obtain ⟨h30, h31⟩ := h3
  rcases hv with rfl | rfl | rfl | rfl | rfl
  · go_enter Try.func40, Try.ntmps40
    go_wp2_with fail
    refine wp_loop_rounds 5 ?_
    rw [rounds_succ]
    go_wp2_with fail
    rw [rounds_succ]
    go_wp2_with fail
    rw [rounds_succ]
    go_wp2_with fail
    rw [rounds_succ]
    go_wp2_with fail
    rw [rounds_succ]
    go_wp2_with fail
    refine bodyPost_ret (v := .agg #[.int .i64 0, .int .i64 0, .int .i64 0, .int .i64 0]) (results_cell_row (p := 4) (ty := 73) rfl _ _ (w.heap.size + 1) 73 _ _ _ rfl (rowAt_two _ _ _ _) Try.underlying73 rfl counts_info) rfl ⟨rfl, ((Below.refl _ _).alloc (Nat.le_refl _) _).alloc (by simp) _⟩
  · go_enter Try.func40, Try.ntmps40
    go_wp2_with fail
    refine wp_loop_rounds 4 ?_
    rw [rounds_succ]
    go_wp2_with fail
    rw [rounds_succ]
    go_wp2_with fail
    rw [rounds_succ]
    go_wp2_with fail
    rw [rounds_succ]
    go_wp2_with fail
    refine bodyPost_ret (v := .agg #[.int .i64 (c0 + 1), .int .i64 0, .int .i64 0, .int .i64 0]) (results_cell_row (p := 4) (ty := 73) rfl _ _ (w.heap.size + 1) 73 _ _ _ rfl (rowAt_two _ _ _ _) Try.underlying73 rfl counts_info) rfl ⟨rfl, ((Below.refl _ _).alloc (Nat.le_refl _) _).alloc (by simp) _⟩
  · go_enter Try.func40, Try.ntmps40
    go_wp2_with fail
    refine wp_loop_rounds 3 ?_
    rw [rounds_succ]
    go_wp2_with fail
    rw [rounds_succ]
    go_wp2_with fail
    rw [rounds_succ]
    go_wp2_with fail
    refine bodyPost_ret (v := .agg #[.int .i64 c0, .int .i64 (c1 + 1), .int .i64 0, .int .i64 0]) (results_cell_row (p := 4) (ty := 73) rfl _ _ (w.heap.size + 1) 73 _ _ _ rfl (rowAt_two _ _ _ _) Try.underlying73 rfl counts_info) rfl ⟨rfl, ((Below.refl _ _).alloc (Nat.le_refl _) _).alloc (by simp) _⟩
  · go_enter Try.func40, Try.ntmps40
    go_wp2_with fail
    refine wp_loop_rounds 2 ?_
    rw [rounds_succ]
    go_wp2_with fail
    rw [rounds_succ]
    go_wp2_with fail
    refine bodyPost_ret (v := .agg #[.int .i64 c0, .int .i64 c1, .int .i64 (c2 + 1), .int .i64 0]) (results_cell_row (p := 4) (ty := 73) rfl _ _ (w.heap.size + 1) 73 _ _ _ rfl (rowAt_two _ _ _ _) Try.underlying73 rfl counts_info) rfl ⟨rfl, ((Below.refl _ _).alloc (Nat.le_refl _) _).alloc (by simp) _⟩
  · go_enter Try.func40, Try.ntmps40
    go_wp2_with fail
    refine wp_loop_rounds 1 ?_
    rw [rounds_succ]
    go_wp2_with fail
    refine bodyPost_ret (v := .agg #[.int .i64 c0, .int .i64 c1, .int .i64 c2, .int .i64 (c3 + 1)]) (results_cell_row (p := 4) (ty := 73) rfl _ _ (w.heap.size + 1) 73 _ _ _ rfl (rowAt_two _ _ _ _) Try.underlying73 rfl counts_info) rfl ⟨rfl, ((Below.refl _ _).alloc (Nat.le_refl _) _).alloc (by simp) _⟩
/-- Ints that lie behind one another. -/
def IntsAt (w : World) (b off : Nat) (l : List Int) : Prop := ∀ k, k < l.length → w.cell? ⟨b, off + k, none⟩ = some (.int .i64 (l.getD k 0))
set_option maxHeartbeats 2000000 in
theorem copiedInt_any {b n cap : Nat} {l : List Int} {w : World} (h : IntsAt w b 0 l) (hn : n = l.length) (hl : n ≤ 100) (hc : n ≤ cap) :
    Calls Try.prog 41 #[.slice (some ⟨b, 0, none⟩) n cap] w fun e w' => (∃ p q, e = .returned (.slice p n q) ∧ OwnI w' w.heap.size (.slice p n q) l) ∧ Below w.heap.size w w' := by
  have H : Hid (IntsAt w b 0 l) := h
  have HN : Hid (n = l.length) := hn
  clear h hn
  obtain ⟨i0, hi, hz0, hz1, hz2⟩ := info_parts Try.info3
  by_cases h0 : n = 0
  · subst h0
    have hle : l = [] := List.eq_nil_of_length_eq_zero HN.out.symm
    go_enter Try.func41, Try.ntmps41
    go_wp2_with (at_builtin; refine wpList_append_empty rfl (.const (.slice none 0 0)) (.tmp 3) 71 rfl w.heap.size 3 i0 1 Try.underlying71 hi (.slice none 0 0) 0 [] rfl (World.ownsRow_nil _ _ _ _) (some ⟨b, 0, none⟩) cap rfl ?_)
    go_ret
    exact ⟨⟨none, 0, rfl, by rw [hle]; exact World.ownsRow_nil _ _ _ _⟩, Below.refl _ _⟩
  · have HNW : Hid (∀ j u, (l.map (Value.int .i64))[j]? = some u → w.cell? ((⟨b, 0, none⟩ : Addr).add j) = some u) := fun j u hj => by
      have hlt : j < l.length := by
        have := (List.getElem?_eq_some_iff.1 hj).1
        simpa using this
      have h1 := H.out j hlt
      rw [List.getElem?_map, List.getElem?_eq_getElem hlt] at hj
      simp at hj
      rw [Addr.add_lit, h1, ← hj]
      simp [List.getD, hlt]
    have HONE : Hid (∀ u ∈ l.map (Value.int .i64), u.oneCell' = true) := fun u hu => by
      obtain ⟨x, -, rfl⟩ := List.mem_map.1 hu
      rfl
    go_enter Try.func41, Try.ntmps41
    go_wp2_with (at_builtin; refine wpList_append_own w rfl (.const (.slice none 0 0)) (.tmp 3) 71 rfl w.heap.size 3 i0 _ 1 8 Try.underlying71 hi hz0 hz1 hz2 rfl (by decide) (.slice none 0 0) 0 [] rfl (World.ownsRow_nil _ _ _ _) ⟨b, 0, none⟩ n cap (l.map (Value.int .i64)) rfl (by rw [List.length_map, HN.out]; omega) HNW.out HONE.out (by unfold maxLen; omega) (by omega) (Nat.le_refl _) ?_; intro v' w1 hown hgrow _)
    go_ret
    have hb : Below w.heap.size w w1 := (Below.refl _ _).grown hgrow (Nat.le_refl _) (fun k hk => by simp [Value.ownBlock] at hk)
    have ho : OwnI w1 w.heap.size v' l := by
      unfold OwnI
      rw [← HN.out]
      simpa using hown
    rcases ho.2 with ⟨rfl, hz⟩ | ⟨g, cap', cur, rfl, r⟩
    · exfalso
      have := HN.out
      omega
    · refine ⟨⟨_, _, by rw [HN.out]; rfl, ?_⟩, hb⟩
      rw [HN.out]
      exact ho
end Go.Proofs.Ythjipnocemioaaa
namespace Go.Proofs.Ythjipnocemioaaa
open Go.RowKit

/-- Between B and E nothing but rows of lists has turned. -/
def KeptN (B E : Nat) (w w' : World) : Prop := ∀ b cs ty, B ≤ b → b < E → ty ≠ 71 → RowAt w b cs ty → RowAt w' b cs ty
theorem own_keptN {w w' : World} {B E e size n : Nat} {v : Value} {xs : List Value} (h : w.ownsRow B e size v n xs) (he : e ≠ 71) (hv : ∀ g, v.ownBlock = some g → g < E) (ho : KeptN B E w w') : w'.ownsRow B e size v n xs := by
  refine ⟨h.1, ?_⟩
  rcases h.2 with hn | ⟨g, cap, cur, rfl, hg, hgg, rest⟩
  · exact .inl hn
  · exact .inr ⟨g, cap, cur, rfl, hg, ho g cur e hg (hv g rfl) he hgg, rest⟩
theorem keptN_grown {w w' : World} {q : Option Nat} (hq : ∀ g, q = some g → ∃ cur, RowAt w g cur 71) (hg : w.grownBy w' q) (B E : Nat) : KeptN B E w w' := fun b cs ty _ _ hty hr => hr.grown hg (fun e => by
  obtain ⟨cur, h⟩ := hq b e
  unfold RowAt at h hr
  rw [hr] at h
  simp only [Option.some.injEq, Obj.cells.injEq] at h
  exact hty h.2.1)
/-- Lists of ints, each its own, one behind the other. -/
def NsOwn (w : World) (B E : Nat) (vs : List Value) (nss : List (List Int)) : Prop :=
  vs.length = nss.length ∧ ∃ lo hi : Nat → Nat, (∀ k, k < nss.length → B ≤ lo k ∧ hi k ≤ E ∧ OwnI w (lo k) (vs.getD k .nilIface) (nss.getD k []) ∧ (∀ g, (vs.getD k .nilIface).ownBlock = some g → g < hi k) ∧ lo k ≤ hi k) ∧ ∀ k, k + 1 < nss.length → hi k ≤ lo (k + 1)
/-- A list of lists of ints, all their own, between B and E. -/
def NnOwn (w : World) (B E : Nat) (v : Value) (vs : List Value) (nss : List (List Int)) : Prop := w.ownsRow B 71 1 v vs.length vs ∧ (∀ g, v.ownBlock = some g → g < E) ∧ NsOwn w B E vs nss
theorem NsOwn.nil (w : World) (B E : Nat) : NsOwn w B E [] [] := ⟨rfl, fun _ => 0, fun _ => 0, fun k hk => absurd hk (by simp), fun k hk => absurd hk (by simp)⟩
theorem NnOwn.nil (w : World) (B E : Nat) : NnOwn w B E (.slice none 0 0) [] [] := ⟨World.ownsRow_nil _ _ _ _, fun g hg => by simp [Value.ownBlock] at hg, NsOwn.nil _ _ _⟩
theorem NsOwn.kept {w w' : World} {B E : Nat} {vs : List Value} {nss : List (List Int)} (h : NsOwn w B E vs nss) (ho : KeptN B E w w') : NsOwn w' B E vs nss := by
  obtain ⟨h0, lo, hi, h1, h2⟩ := h
  refine ⟨h0, lo, hi, fun k hk => ?_, h2⟩
  obtain ⟨a, b, c, e, f⟩ := h1 k hk
  exact ⟨a, b, own_keptN c (by decide) e (fun g cs ty hg hg' => ho g cs ty (by omega) (by omega)), e, f⟩
theorem NsOwn.snoc {w : World} {B E E' : Nat} {vs : List Value} {nss : List (List Int)} {x : Value} {y : List Int} (h : NsOwn w B E vs nss) (hB : B ≤ E) (hx : OwnI w E x y) (hg : ∀ g, x.ownBlock = some g → g < E') (hE : E ≤ E') : NsOwn w B E' (vs ++ [x]) (nss ++ [y]) := by
  obtain ⟨h0, lo, hi, h1, h2⟩ := h
  refine ⟨by simp [h0], fun k => if k < nss.length then lo k else E, fun k => if k < nss.length then hi k else E', fun k hk => ?_, fun k hk => ?_⟩
  · by_cases hlt : k < nss.length
    · have e1 : (vs ++ [x]).getD k .nilIface = vs.getD k .nilIface := by simp [List.getD, List.getElem?_append_left (show k < vs.length by rw [h0]; exact hlt)]
      have e2 : (nss ++ [y]).getD k [] = nss.getD k [] := by simp [List.getD, List.getElem?_append_left hlt]
      rw [e1, e2]
      simp only [if_pos hlt]
      obtain ⟨a, b, c, e, f⟩ := h1 k hlt
      exact ⟨a, by omega, c, e, f⟩
    · have ek : k = nss.length := by simp at hk; omega
      subst ek
      have e1 : (vs ++ [x]).getD nss.length .nilIface = x := by simp [List.getD, ← h0]
      have e2 : (nss ++ [y]).getD nss.length [] = y := by simp [List.getD]
      rw [e1, e2]
      simp only [if_neg hlt]
      exact ⟨hB, Nat.le_refl _, hx, hg, hE⟩
  · by_cases hlt : k + 1 < nss.length
    · simp only [if_pos hlt, if_pos (show k < nss.length by omega)]
      exact h2 k hlt
    · have ek : k + 1 = nss.length := by simp at hk; omega
      have hk' : k < nss.length := by omega
      simp only [if_neg hlt, if_pos hk']
      exact (h1 k hk').2.1
theorem NsOwn.grow {w : World} {B E E' : Nat} {vs : List Value} {nss : List (List Int)} (h : NsOwn w B E vs nss) (hE : E ≤ E') : NsOwn w B E' vs nss := by
  obtain ⟨h0, lo, hi, h1, h2⟩ := h
  refine ⟨h0, lo, hi, fun k hk => ?_, h2⟩
  obtain ⟨a, b, c⟩ := h1 k hk
  exact ⟨a, by omega, c⟩
theorem NnOwn.below {w w' : World} {B E : Nat} {v : Value} {vs : List Value} {nss : List (List Int)} (h : NnOwn w B E v vs nss) (hE : E ≤ w.heap.size) (hb : Below w.heap.size w w') : NnOwn w' B E v vs nss :=
  ⟨own_below h.1 hb, h.2.1, h.2.2.kept (fun b _ _ _ hb' _ hr => (hb.block b (by omega)).trans hr)⟩
theorem nnOwn_snoc {B E E' : Nat} {u3 u4 : World} {v v' : Value} {vs : List Value} {nss : List (List Int)} {x : Value} {y : List Int} {n : Nat} (h : NnOwn u3 B E v vs nss) (hn : n = nss.length) (hx : OwnI u3 E x y) (hg : ∀ g, x.ownBlock = some g → g < E') (hB : B ≤ E) (hE : E ≤ E') (hE4 : E' ≤ u4.heap.size)
    (hown : u4.ownsRow B 71 1 v' (n + 1) (vs ++ [x])) (hgrow : u3.grownBy u4 v.ownBlock) : NnOwn u4 B u4.heap.size v' (vs ++ [x]) (nss ++ [y]) := by
  have hk : ∀ B E, KeptN B E u3 u4 := fun B E => keptN_grown (own_rowAts h.1) hgrow B E
  refine ⟨?_, fun g hg => (own_lt hown hg).2, ((h.2.2.kept (hk _ _)).snoc hB (own_keptN hx (by decide) hg (hk _ _)) hg hE).grow hE4⟩
  have hl := h.2.2.1
  rw [List.length_append, List.length_singleton, hl, ← hn]
  exact hown
/-- The counts behind the first i blocks. -/
def cnD (d : List Bl) : Nat → Cn
  | 0 => (0, 0, 0, 0)
  | i + 1 => withC (cnD d i) (lvN (d.getD i bl0))
def cnL (c : Cn) : List Int := [c.1, c.2.1, c.2.2.1, c.2.2.2]
/-- The numbers of a block. -/
def numK (d : List Bl) (k : Nat) : List Int := (cnL (cnD d (k + 1))).take (lvN (d.getD k bl0) + 1).toNat
def numsL (d : List Bl) (i : Nat) : List (List Int) := (List.range i).map (numK d)
def CnOk (c : Cn) (m : Int) : Prop := (0 ≤ c.1 ∧ c.1 ≤ m) ∧ (0 ≤ c.2.1 ∧ c.2.1 ≤ m) ∧ (0 ≤ c.2.2.1 ∧ c.2.2.1 ≤ m) ∧ (0 ≤ c.2.2.2 ∧ c.2.2.2 ≤ m)
theorem withC_ok {c : Cn} {m v : Int} (h : CnOk c m) (hm : 0 ≤ m) : CnOk (withC c v) (m + 1) := by
  obtain ⟨h0, h1, h2, h3⟩ := h
  unfold withC CnOk
  split
  · simp only; omega
  · split
    · simp only; omega
    · split
      · simp only; omega
      · split
        · simp only; omega
        · simp only; omega
theorem cnD_ok (d : List Bl) : ∀ i : Nat, CnOk (cnD d i) i
  | 0 => by simp [cnD, CnOk]
  | i + 1 => by
    have := withC_ok (v := lvN (d.getD i bl0)) (cnD_ok d i) (by omega)
    exact this
end Go.Proofs.Ythjipnocemioaaa
namespace Go.Proofs.Ythjipnocemioaaa
open Go.RowKit

theorem take_eq_int (l m : List Int) (k : Nat) (h : k < l.length) (hl : l.length = m.length) (he : l.take k = m.take k) (hs : l.getD k 0 = m.getD k 0) : l.take (k + 1) = m.take (k + 1) := by
  rw [List.take_succ_eq_append_getElem h, List.take_succ_eq_append_getElem (by omega), he]
  simp [List.getD, h, show k < m.length by omega] at hs
  rw [hs]

set_option maxRecDepth 100000 in
set_option maxHeartbeats 1000000 in
theorem eqIntS_any (a : Option Addr) (n cap : Nat) (l : List Int) (a' : Option Addr) (n' cap' : Nat) (m : List Int) (w : World) (h : Ints w a n cap l) (h' : Ints w a' n' cap' m) :
    Calls Try.prog 42 #[.slice a n cap, .slice a' n' cap'] w fun e w' => e = .returned (.bool (decide (l = m))) ∧ ∃ q, w' = w.drewN q := by
  obtain ⟨rfl, hc, hm, hl⟩ := h
  obtain ⟨rfl, hc', hm', hl'⟩ := h'
  unfold maxLen at hm hm'
  by_cases hlen : l.length = m.length
  · have hbq : ((l.length : Int) != (m.length : Int)) = false := by simp [hlen]
    rcases hl with rfl | ⟨b, off, rfl, hbw, hl⟩
    · obtain rfl : m = [] := List.eq_nil_of_length_eq_zero (by simpa using hlen.symm)
      go_enter Try.func42, Try.ntmps42
      go_wp2_with fail
      refine wp_loop_rounds 1 ?_
      rw [rounds_succ]
      go_wp2_with fail
      go_ret
      exact ⟨rfl, 0, rfl⟩
    · rcases hl' with rfl | ⟨b', off', rfl, hbw', hl'⟩
      · obtain rfl : l = [] := List.eq_nil_of_length_eq_zero (by simpa using hlen)
        go_enter Try.func42, Try.ntmps42
        go_wp2_with fail
        refine wp_loop_rounds 1 ?_
        rw [rounds_succ]
        go_wp2_with fail
        go_ret
        exact ⟨rfl, 0, rfl⟩
      · have HL : Hid (l.length = m.length) := hlen
        have hl1 : l.length ≤ m.length := by omega
        have hl2 : m.length ≤ l.length := by omega
        clear hlen
        go_enter Try.func42, Try.ntmps42
        go_wp2_with fail
        go_loopw [5] (fun i wr => ∃ (k q : Nat), k ≤ l.length ∧ i = .int .i64 k ∧ l.take k = m.take k ∧ wr = w.drewN q) (fun i _ => l.length - (intOf i).toNat)
        case atStart => exact ⟨0, 0, Nat.zero_le _, rfl, by simp, rfl⟩
        case round =>
          obtain ⟨k, q, hk, rfl, ht, rfl⟩ := hrel
          have HT : Hid (l.take k = m.take k) := ht
          clear ht
          by_cases hlt : k < l.length
          · have hlt' : k < m.length := by omega
            have hi1 : (k : Int) < (l.length : Int) := by omega
            have hi2 : (k : Int) < (m.length : Int) := by omega
            have c0 := hl k hlt
            have d0 := hl' k hlt'
            clear hl hl'
            obtain ⟨s, hs⟩ : ∃ s, s = l.getD k 0 := ⟨_, rfl⟩
            obtain ⟨t, ht⟩ : ∃ t, t = m.getD k 0 := ⟨_, rfl⟩
            rw [← hs] at c0
            rw [← ht] at d0
            have HS : Hid (s = l.getD k 0) := hs
            have HM : Hid (t = m.getD k 0) := ht
            clear hs ht
            by_cases hb : s = t
            · have HB : Hid (s = t) := hb
              have hbb : (s != t) = false := by simp [hb]
              clear hb
              go_wp2_with fail
              go_quiet (fail)
              go_wp2_with fail
              go_roundw
              case rel => exact ⟨k + 1, q + nq, by omega, by go_num, take_eq_int l m k hlt HL.out HT.out (by rw [← HS.out, ← HM.out]; exact HB.out), by first | rfl | rw [World.drewN_drewN]⟩
              case measure => simp [intOf]; omega
            · have HF : Hid (decide (l = m) = false) := decide_eq_false (fun e => hb (by rw [HS.out, HM.out, e]))
              have hbb : (s != t) = true := by simp [hb]
              clear hb
              go_wp2_with fail
              go_quiet (fail)
              go_wp2_with fail
              go_ret
              exact ⟨by rw [HF.out]; rfl, q + nq, by first | rfl | rw [World.drewN_drewN]⟩
          · go_wp2_with fail
            go_ret
            refine ⟨?_, q, rfl⟩
            have := HT.out
            rw [List.take_of_length_le (by omega), List.take_of_length_le (by omega)] at this
            rw [decide_eq_true this]; rfl
  · have hbq : ((l.length : Int) != (m.length : Int)) = true := by simp; omega
    rw [decide_eq_false (fun e => hlen (by rw [e]))]
    go_enter Try.func42, Try.ntmps42
    go_wp2_with fail
    go_ret
    exact ⟨rfl, 0, rfl⟩

theorem eqIntS_same {a : Option Addr} {n cap : Nat} {l : List Int} {a' : Option Addr} {n' cap' : Nat} {w : World} (h : Ints w a n cap l) (h' : Ints w a' n' cap' l) :
    Calls Try.prog 42 #[.slice a n cap, .slice a' n' cap'] w fun e w' => e = .returned (.bool true) ∧ Below w.heap.size w w' := by
  refine (eqIntS_any a n cap l a' n' cap' l w h h').mono ?_
  rintro e w' ⟨rfl, q, rfl⟩
  exact ⟨by simp, below_drewN (Below.refl _ _) _⟩

end Go.Proofs.Ythjipnocemioaaa
namespace Go.Proofs.Ythjipnocemioaaa
open Go.RowKit

def markedI (k : Int) (n : Nat) : List Int := (List.range n).map fun i : Nat => k + i
theorem markedI_len (k : Int) (n : Nat) : (markedI k n).length = n := by simp [markedI]
theorem markedI_succ (k : Int) (n : Nat) : markedI k (n + 1) = markedI k n ++ [k + n] := by simp [markedI, List.range_succ]
theorem markedI_get (k : Int) (n j : Nat) (h : j < n) : (markedI k n).getD j 0 = k + j := by simp [markedI, List.getD, h]

theorem set_mark (k0 : Int) (j : Nat) (l : List Int) (hlt : j < l.length) :
    ((markedI k0 j ++ l.drop j).map (Value.int .i64)).set j (.int .i64 (k0 + j)) = (markedI k0 (j + 1) ++ l.drop (j + 1)).map (Value.int .i64) := by
  have e1 : (markedI k0 j ++ l.drop j).map (Value.int .i64) = (markedI k0 j).map (Value.int .i64) ++ (Value.int .i64 l[j] :: (l.drop (j + 1)).map (Value.int .i64)) := by
    rw [List.drop_eq_getElem_cons hlt, List.map_append, List.map_cons]
  have e2 : (markedI k0 (j + 1) ++ l.drop (j + 1)).map (Value.int .i64) = (markedI k0 j).map (Value.int .i64) ++ (Value.int .i64 (k0 + j) :: (l.drop (j + 1)).map (Value.int .i64)) := by
    rw [markedI_succ, List.map_append, List.map_append]
    simp
  have hl : ((markedI k0 j).map (Value.int .i64)).length = j := by rw [List.length_map, markedI_len]
  rw [e1, e2, List.set_append_right _ _ (by omega), hl, Nat.sub_self]
  rfl

set_option maxRecDepth 100000 in
set_option maxHeartbeats 1000000 in
theorem markIntS_at (g n c : Nat) (l : List Int) (k0 : Int) (B : Nat) (w : World) (h : OwnI w B (.slice (some ⟨g, 0, none⟩) n c) l) (hn : n ≤ 1048576) (h0 : 0 ≤ k0) (h1 : k0 ≤ 1048576) :
    Calls Try.prog 44 #[.slice (some ⟨g, 0, none⟩) n c, .int .i64 k0] w fun e w' => e = .returned (.int .i64 (k0 + n)) ∧ OwnI w' B (.slice (some ⟨g, 0, none⟩) n c) (markedI k0 n) ∧ w.grownBy w' (some g) := by
  have hlen := h.len
  have hcap := h.ints.2.1
  have hcm := h.ints.2.2.1
  unfold maxLen at hcm
  have HO : Hid (w.ownsRow B 3 1 (.slice (some ⟨g, 0, none⟩) n c) n (l.map (Value.int .i64))) := h.row
  clear h
  subst hlen
  go_enter Try.func44, Try.ntmps44
  go_wp2_with fail
  go_loopw [1, 5] (fun kk i wr => ∃ (j : Nat), j ≤ l.length ∧ i = .int .i64 j ∧ kk = .int .i64 (k0 + j) ∧ wr.ownsRow B 3 1 (.slice (some ⟨g, 0, none⟩) l.length c) l.length ((markedI k0 j ++ l.drop j).map (Value.int .i64)) ∧ w.grownBy wr (some g)) (fun _ i _ => l.length - (intOf i).toNat)
  case atStart => exact ⟨0, Nat.zero_le _, rfl, by simp, by simpa [markedI] using HO.out, ⟨rfl, rfl, rfl, Nat.le_refl _, fun _ _ _ => rfl⟩⟩
  case round =>
    obtain ⟨j, hj, rfl, rfl, ho, hg⟩ := hrel
    by_cases hlt : j < l.length
    · have f0 := ho.frozenAt j
      have hxl := ho.1
      obtain ⟨u0, d0⟩ : ∃ u, wr.cell? ⟨g, j, none⟩ = some u := ⟨_, (ho.cellAt j (by omega)).trans (List.getElem?_eq_getElem (by omega))⟩
      have HR : Hid (wr.ownsRow B 3 1 (.slice (some ⟨g, 0, none⟩) l.length c) l.length ((markedI k0 j ++ l.drop j).map (Value.int .i64))) := ho
      clear ho hxl
      go_wp2_with fail
      go_roundw
      case rel =>
        obtain ⟨p0, _⟩ := HR.out.stored j (.int .i64 (k0 + j))
        refine ⟨j + 1, by omega, by go_num, by congr 1; omega, ?_, grown_setCell hg _ _⟩
        have e := set_mark k0 j l hlt
        rw [← e]
        exact p0
      case measure => simp [intOf]; omega
    · obtain rfl : j = l.length := by omega
      rw [List.drop_of_length_le (Nat.le_refl _), List.append_nil] at ho
      go_wp2_with fail
      go_ret
      refine ⟨rfl, ?_, hg⟩
      unfold OwnI
      rw [markedI_len]
      exact ho

set_option maxRecDepth 100000 in
set_option maxHeartbeats 1000000 in
theorem markIntS_nil (a : Option Addr) (c : Nat) (k0 : Int) (w : World) :
    Calls Try.prog 44 #[.slice a 0 c, .int .i64 k0] w fun e w' => e = .returned (.int .i64 k0) ∧ w' = w := by
  go_enter Try.func44, Try.ntmps44
  go_wp2_with fail
  refine wp_loop_rounds 1 ?_
  rw [rounds_succ]
  go_wp2_with fail
  go_ret
  exact ⟨rfl, rfl⟩
theorem markIntS_any (a : Option Addr) (n c : Nat) (l : List Int) (k0 : Int) (B : Nat) (w : World) (h : OwnI w B (.slice a n c) l) (hn : n ≤ 1048576) (h0 : 0 ≤ k0) (h1 : k0 ≤ 1048576) :
    Calls Try.prog 44 #[.slice a n c, .int .i64 k0] w fun e w' => e = .returned (.int .i64 (k0 + n)) ∧ OwnI w' B (.slice a n c) (markedI k0 n) ∧ w.grownBy w' (Value.slice a n c).ownBlock := by
  have hl := h.len
  rcases h.row.2 with ⟨hv, h0'⟩ | ⟨g, cap, cur, hv, r⟩
  · simp only [Value.slice.injEq] at hv
    obtain ⟨rfl, rfl, rfl⟩ := hv
    refine (markIntS_nil _ _ k0 w).mono ?_
    rintro e w' ⟨rfl, rfl⟩
    exact ⟨by simp, by simpa [markedI] using OwnI.nil _ _, grown_refl _ _⟩
  · simp only [Value.slice.injEq, true_and] at hv
    obtain ⟨rfl, rfl⟩ := hv
    exact markIntS_at g n c l k0 B w h hn h0 h1

set_option maxRecDepth 100000 in
set_option maxHeartbeats 1000000 in
theorem heldIntS_any (a : Option Addr) (n c : Nat) (k0 : Int) (w : World) (h : Ints w a n c (markedI k0 n)) (hn : n ≤ 1048576) (h0 : 0 ≤ k0) (h1 : k0 ≤ 1048576) :
    Calls Try.prog 45 #[.slice a n c, .int .i64 k0] w fun e w' => e = .returned (.int .i64 (k0 + n)) ∧ w' = w := by
  obtain ⟨-, hc, hm, hl⟩ := h
  unfold maxLen at hm
  by_cases hz : n = 0
  · subst hz
    go_enter Try.func45, Try.ntmps45
    go_wp2_with fail
    refine wp_loop_rounds 1 ?_
    rw [rounds_succ]
    go_wp2_with fail
    go_ret
    exact ⟨by simp, rfl⟩
  · rcases hl with hl | ⟨b, off, rfl, hbw, hl⟩
    · exfalso
      have := markedI_len k0 n
      rw [hl] at this
      exact hz this.symm
    · go_enter Try.func45, Try.ntmps45
      go_wp2_with fail
      go_loop [1, 5] (fun kk i => ∃ (j : Nat), j ≤ n ∧ i = .int .i64 j ∧ kk = .int .i64 (k0 + j)) (fun _ i => n - (intOf i).toNat)
      case atStart => exact ⟨0, Nat.zero_le _, rfl, by simp⟩
      case round =>
        obtain ⟨j, hj, rfl, rfl⟩ := hrel
        by_cases hlt : j < n
        · have c0 := hl j (by rw [markedI_len]; exact hlt)
          rw [markedI_get k0 n j hlt] at c0
          clear hl
          go_wp2_with fail
          go_round
          case rel => exact ⟨j + 1, by omega, by go_num, by congr 1; omega⟩
          case measure => simp [intOf]; omega
        · obtain rfl : j = n := by omega
          go_wp2_with fail
          go_ret
          exact ⟨rfl, rfl⟩
end Go.Proofs.Ythjipnocemioaaa
namespace Go.Proofs.Ythjipnocemioaaa
open Go.RowKit

/-- A slice value that reads as lists of ints. -/
def Nn (w : World) (a : Option Addr) (n cap : Nat) (nss : List (List Int)) : Prop :=
  n = nss.length ∧ n ≤ cap ∧ cap ≤ maxLen ∧ (nss = [] ∨ ∃ b off, a = some ⟨b, off, none⟩ ∧ b < w.heap.size ∧ ∀ k, k < nss.length → ∃ p m q, w.cell? ⟨b, off + k, none⟩ = some (.slice p m q) ∧ Ints w p m q (nss.getD k []))
theorem Nn.below {w w' : World} {a : Option Addr} {n cap : Nat} {nss : List (List Int)} (h : Nn w a n cap nss) (hb : Below w.heap.size w w') : Nn w' a n cap nss := by
  obtain ⟨h1, h2, h3, h4⟩ := h
  refine ⟨h1, h2, h3, ?_⟩
  rcases h4 with h4 | ⟨b, off, h5, h6, h7⟩
  · exact .inl h4
  · refine .inr ⟨b, off, h5, Nat.lt_of_lt_of_le h6 hb.size, fun k hk => ?_⟩
    obtain ⟨p, m, q, h8, h9⟩ := h7 k hk
    exact ⟨p, m, q, (hb.cell (p := ⟨b, _, none⟩) h6).trans h8, h9.below hb⟩
theorem NnOwn.len {w : World} {B E : Nat} {a : Option Addr} {n c : Nat} {vs : List Value} {nss : List (List Int)} (h : NnOwn w B E (.slice a n c) vs nss) : n = nss.length := by
  have h1 := h.2.2.1
  rcases h.1.2 with ⟨hv, h0⟩ | ⟨g, cap, cur, hv, _⟩
  · simp only [Value.slice.injEq] at hv
    omega
  · simp only [Value.slice.injEq] at hv
    omega
theorem NnOwn.nn {w : World} {B E : Nat} {a : Option Addr} {n c : Nat} {vs : List Value} {nss : List (List Int)} (h : NnOwn w B E (.slice a n c) vs nss) : Nn w a n c nss := by
  have hn := h.len
  have hl := h.2.2.1
  have hr := h.1
  rcases hr.2 with ⟨hv, h0⟩ | ⟨g, cap, cur, hv, hg, hgg, a1, a2, _⟩
  · cases hv
    exact ⟨hn, Nat.le_refl _, by unfold maxLen; omega, .inl (List.eq_nil_of_length_eq_zero (by omega))⟩
  · simp only [Value.slice.injEq] at hv
    obtain ⟨rfl, h6, rfl⟩ := hv
    rw [← h6] at hr
    refine ⟨hn, by omega, a2, .inr ⟨g, 0, rfl, (Array.getElem?_eq_some_iff.1 hgg).1, fun k hk => ?_⟩⟩
    obtain ⟨lo, hi, h1, -⟩ := h.2.2.2
    obtain ⟨-, -, ho, -, -⟩ := h1 k hk
    obtain ⟨p, m, q, e, -⟩ := ho.shapeL
    refine ⟨p, m, q, ?_, ?_⟩
    · have hkv : k < vs.length := by omega
      rw [Nat.zero_add, hr.cellAt k (by omega), ← e]
      simp [List.getD, hkv]
    · rw [e] at ho
      exact ho.ints
set_option maxRecDepth 100000 in
set_option maxHeartbeats 4000000 in
theorem eqIntSS_same {a : Option Addr} {n cap : Nat} {a' : Option Addr} {n' cap' : Nat} {nss : List (List Int)} {w : World} (h : Nn w a n cap nss) (h' : Nn w a' n' cap' nss) :
    Calls Try.prog 18 #[.slice a n cap, .slice a' n' cap'] w fun e w' => e = .returned (.bool true) ∧ Below w.heap.size w w' := by
  obtain ⟨rfl, hc, hm, hl⟩ := h
  obtain ⟨rfl, hc', hm', hl'⟩ := h'
  unfold maxLen at hm hm'
  have hbq : ((nss.length : Int) != (nss.length : Int)) = false := by simp
  have HL : Hid (nss = [] ∨ ∃ b off, a = some ⟨b, off, none⟩ ∧ b < w.heap.size ∧ ∀ k, k < nss.length → ∃ p m q, w.cell? ⟨b, off + k, none⟩ = some (.slice p m q) ∧ Ints w p m q (nss.getD k [])) := hl
  have HL' : Hid (nss = [] ∨ ∃ b off, a' = some ⟨b, off, none⟩ ∧ b < w.heap.size ∧ ∀ k, k < nss.length → ∃ p m q, w.cell? ⟨b, off + k, none⟩ = some (.slice p m q) ∧ Ints w p m q (nss.getD k [])) := hl'
  clear hl hl'
  go_enter Try.func18, Try.ntmps18
  go_wp2_with fail
  go_loopw [5] (fun i wr => ∃ (k : Nat), k ≤ nss.length ∧ i = .int .i64 k ∧ Below w.heap.size w wr) (fun i _ => nss.length - (intOf i).toNat)
  case atStart => exact ⟨0, Nat.zero_le _, rfl, Below.refl _ _⟩
  case round =>
    obtain ⟨k, hk, rfl, hbl⟩ := hrel
    have hsz := hbl.size
    have HB : Hid (Below w.heap.size w wr) := hbl
    by_cases hlt : k < nss.length
    · rcases HL.out with e | ⟨b, off, rfl, hbw, hl⟩
      · rw [e] at hlt
        exact absurd hlt (by simp)
      rcases HL'.out with e | ⟨b', off', rfl, hbw', hl'⟩
      · rw [e] at hlt
        exact absurd hlt (by simp)
      obtain ⟨p, m, q, c0, ht⟩ := hl k hlt
      obtain ⟨p', m', q', c0', ht'⟩ := hl' k hlt
      have d0 := (hbl.cell (p := ⟨b, off + k, none⟩) hbw).trans c0
      have d0' := (hbl.cell (p := ⟨b', off' + k, none⟩) hbw').trans c0'
      have HT : Hid (Ints wr p m q (nss.getD k [])) := ht.below hbl
      have HT' : Hid (Ints wr p' m' q' (nss.getD k [])) := ht'.below hbl
      clear hl hl' c0 c0' ht ht' hbl
      go_wp2_with fail
      go_region_with (go_at_call 42; refine (eqIntS_same (HT.out.below (Below.refl _ _).drew) (HT'.out.below (Below.refl _ _).drew)).mono ?_; rintro e w1 ⟨rfl, hb1⟩)
      all_goals
        go_wp2_with fail
        go_roundw
        case rel => exact ⟨k + 1, by omega, by go_num, HB.out.drew.trans (hb1.mono hsz)⟩
        case measure => simp [intOf]; omega
    · go_wp2_with fail
      go_ret
      exact ⟨rfl, HB.out⟩
/-- How far the marker has counted. -/
def kN (k0 : Int) (nss : List (List Int)) (i : Nat) : Int := k0 + (((nss.take i).map List.length).sum : Nat)
def markNs (k0 : Int) (nss : List (List Int)) (i : Nat) : List (List Int) := (List.range nss.length).map fun k => if k < i then markedI (kN k0 nss k) (nss.getD k []).length else nss.getD k []
theorem markNs_len (k0 : Int) (nss : List (List Int)) (i : Nat) : (markNs k0 nss i).length = nss.length := by simp [markNs]
theorem markNs_get {k0 : Int} {nss : List (List Int)} {i k : Nat} (hk : k < nss.length) : (markNs k0 nss i).getD k [] = if k < i then markedI (kN k0 nss k) (nss.getD k []).length else nss.getD k [] := by
  simp only [markNs, List.getD, List.getElem?_map, List.getElem?_range hk, Option.map_some, Option.getD_some]
theorem nn_getD {nss : List (List Int)} {k : Nat} (hk : k < nss.length) : nss.getD k [] = nss[k] := by simp [List.getD, hk]
theorem markNs_zero (k0 : Int) (nss : List (List Int)) : markNs k0 nss 0 = nss := by
  apply List.ext_getElem (markNs_len _ _ _)
  intro k h1 h2
  rw [← nn_getD h1, ← nn_getD h2, markNs_get h2, if_neg (by omega)]
theorem kN_succ {k0 : Int} {nss : List (List Int)} {i : Nat} (h : i < nss.length) : kN k0 nss (i + 1) = kN k0 nss i + ((nss.getD i []).length : Nat) := by
  unfold kN
  rw [List.take_succ_eq_append_getElem h, List.map_append, List.sum_append, nn_getD h]
  simp
  omega
theorem kN_ge {k0 : Int} (nss : List (List Int)) (i : Nat) (h : 0 ≤ k0) : 0 ≤ kN k0 nss i := by
  unfold kN
  omega
theorem kN_le {k0 : Int} {nss : List (List Int)} (hs : ∀ k, k < nss.length → (nss.getD k []).length ≤ 100) : ∀ {i : Nat}, i ≤ nss.length → kN k0 nss i ≤ k0 + 100 * (i : Nat) := by
  intro i
  induction i with
  | zero => intro _; simp [kN]
  | succ i ih =>
    intro h
    have h1 := ih (by omega)
    rw [kN_succ (by omega)]
    have := hs i (by omega)
    omega
theorem chain_leN {lo hi : Nat → Nat} {n : Nat} (h1 : ∀ k, k < n → lo k ≤ hi k) (h2 : ∀ k, k + 1 < n → hi k ≤ lo (k + 1)) : ∀ {i k : Nat}, i < k → k < n → hi i ≤ lo k := by
  intro i k
  induction k with
  | zero => intro h _; omega
  | succ k ih =>
    intro h hk
    have hs := h2 k hk
    by_cases e : i = k
    · subst e; exact hs
    · have := ih (by omega) (by omega)
      have := h1 k (by omega)
      omega
set_option maxRecDepth 100000 in
set_option maxHeartbeats 8000000 in
theorem markIntSS_over {a : Option Addr} {n c : Nat} {vs : List Value} {nss : List (List Int)} {k0 : Int} {B E : Nat} {w : World} (h : NnOwn w B E (.slice a n c) vs nss) (hE : E ≤ w.heap.size) (h0 : 0 ≤ k0) (h1 : k0 ≤ 1000) (h2 : nss.length ≤ 100) (h3 : ∀ k, k < nss.length → (nss.getD k []).length ≤ 100) :
    Calls Try.prog 20 #[.slice a n c, .int .i64 k0] w fun e w' => e = .returned (.int .i64 (kN k0 nss nss.length)) ∧ NnOwn w' B E (.slice a n c) vs (markNs k0 nss nss.length) ∧ Below B w w' ∧ Over E w w' := by
  have hn := h.len
  have hc1 := h.nn.2.1
  have hc2 := h.nn.2.2.1
  unfold maxLen at hc2
  subst hn
  have H : Hid (NnOwn w B E (.slice a nss.length c) vs nss) := h
  have HKL : Hid (∀ i, i ≤ nss.length → 0 ≤ kN k0 nss i ∧ kN k0 nss i ≤ 20000) := fun i hi => by
    refine ⟨kN_ge nss i h0, ?_⟩
    have := kN_le (k0 := k0) h3 hi
    omega
  have H3 : Hid (∀ k, k < nss.length → (nss.getD k []).length ≤ 100) := h3
  clear h h3
  go_enter Try.func20, Try.ntmps20
  go_wp2_with fail
  go_loopw [1, 5] (fun kk iv wr => ∃ (i : Nat), i ≤ nss.length ∧ iv = .int .i64 i ∧ kk = .int .i64 (kN k0 nss i) ∧ NnOwn wr B E (.slice a nss.length c) vs (markNs k0 nss i) ∧ w.heap.size ≤ wr.heap.size ∧ Below B w wr ∧ Over E w wr) (fun _ iv _ => nss.length - (intOf iv).toNat)
  case atStart => exact ⟨0, Nat.zero_le _, rfl, by simp [kN], by rw [markNs_zero]; exact H.out, Nat.le_refl _, Below.refl _ _, fun _ _ _ => rfl⟩
  case round =>
    obtain ⟨i, hi, rfl, rfl, ho, hsz, hb, hov⟩ := hrel
    have HB : Hid (Below B w wr) := hb
    have HOv : Hid (Over E w wr) := hov
    have HO : Hid (NnOwn wr B E (.slice a nss.length c) vs (markNs k0 nss i)) := ho
    obtain ⟨kge, kle⟩ := HKL.out i hi
    clear hb hov
    by_cases hlt : i < nss.length
    · have hib : (i : Int) < (nss.length : Int) := by omega
      have hi0 : (0 : Int) ≤ (i : Int) := by omega
      have HSU : Hid (kN k0 nss (i + 1) = kN k0 nss i + ((nss.getD i []).length : Nat)) := kN_succ hlt
      obtain ⟨lo, hi', hbl, hch⟩ := ho.2.2.2
      have hvl := ho.2.2.1
      rw [markNs_len] at hvl hbl hch
      have hbi := (hbl i hlt).2.2
      rw [markNs_get hlt, if_neg (by omega)] at hbi
      obtain ⟨hoi, hgi, hlh⟩ := hbi
      obtain ⟨p, m, q, hv, hml⟩ := hoi.shapeL
      have hcell : ∃ g, a = some ⟨g, 0, none⟩ ∧ wr.cell? ⟨g, i, none⟩ = some (.slice p m q) := by
        have hr := ho.1
        rcases hr.2 with ⟨_, h0⟩ | ⟨g, cap, cur, hvv, _⟩
        · omega
        · simp only [Value.slice.injEq] at hvv
          obtain ⟨rfl, h6, rfl⟩ := hvv
          rw [← h6] at hr
          refine ⟨g, rfl, ?_⟩
          rw [hr.cellAt i (by omega), ← hv]
          simp [List.getD, show i < vs.length by omega]
      obtain ⟨g, rfl, c0⟩ := hcell
      rw [hv] at hoi hgi
      have HHI : Hid (∀ k, k < nss.length → B ≤ lo k ∧ hi' k ≤ E ∧ lo k ≤ hi' k) := fun k hk => ⟨(hbl k hk).1, (hbl k hk).2.1, (hbl k hk).2.2.2.2⟩
      have HCH : Hid (∀ k, k < nss.length → k ≠ i → hi' k ≤ lo i ∨ hi' i ≤ lo k) := fun k hk hne => by
        rcases Nat.lt_or_gt_of_ne hne with h | h
        · exact .inl (chain_leN (fun k hk => (hbl k hk).2.2.2.2) hch h hlt)
        · exact .inr (chain_leN (fun k hk => (hbl k hk).2.2.2.2) hch h hk)
      have HCH2 : Hid (∀ k, k + 1 < nss.length → hi' k ≤ lo (k + 1)) := hch
      have HFA : Hid (∀ k, k < nss.length → k ≠ i → OwnI wr (lo k) (vs.getD k .nilIface) ((markNs k0 nss i).getD k []) ∧ ∀ z, (vs.getD k .nilIface).ownBlock = some z → z < hi' k) := fun k hk _ => ⟨(hbl k hk).2.2.1, (hbl k hk).2.2.2.1⟩
      have HOI : Hid (OwnI wr (lo i) (.slice p m q) (nss.getD i [])) := hoi
      have HGI : Hid (∀ z, (Value.slice p m q).ownBlock = some z → z < hi' i) := hgi
      have HVI : Hid (vs.getD i .nilIface = .slice p m q) := hv
      have hm100 : m ≤ 100 := by rw [hml]; exact H3.out i hlt
      have HML : Hid (m = (nss.getD i []).length) := hml
      have HVL : Hid (vs.length = nss.length) := hvl
      obtain ⟨K, HK⟩ : ∃ K, Hid (kN k0 nss i = K) := ⟨_, rfl⟩
      rw [HK.out] at kge kle HSU ⊢
      clear ho hbl hch hoi hgi hv hml hvl
      go_wp2_with (go_at_call 44; refine (markIntS_any p m q _ K (lo i) _ HOI.out (by omega) (by omega) (by omega)).mono ?_; rintro e w2 ⟨rfl, ho2, hgrow⟩)
      have s2 := hgrow.size
      have tlt : ∀ z, (Value.slice p m q).ownBlock = some z → lo i ≤ z ∧ z < hi' i := fun z hz => ⟨(own_lt HOI.out hz).1, HGI.out z hz⟩
      go_roundw
      case rel =>
        refine ⟨i + 1, by omega, by go_num, by rw [HSU.out, ← HML.out], ?_, by omega, ?_, ?_⟩
        · refine ⟨own_grown HO.out.1 hgrow (fun z hz e => own_kinds HO.out.1 HOI.out (by decide) z e hz), HO.out.2.1, by rw [markNs_len]; exact HVL.out, lo, hi', fun k hk => ?_, fun k hk => HCH2.out k (by rw [markNs_len] at hk; exact hk)⟩
          rw [markNs_len] at hk
          obtain ⟨b1, b2, b3⟩ := HHI.out k hk
          refine ⟨b1, b2, ?_⟩
          rw [markNs_get hk]
          by_cases e : k = i
          · subst e
            rw [if_pos (by omega), HVI.out, HK.out, ← HML.out]
            exact ⟨ho2, HGI.out, b3⟩
          · obtain ⟨f1, f2⟩ := HFA.out k hk e
            have hsame : (markNs k0 nss i).getD k [] = if k < i + 1 then markedI (kN k0 nss k) (nss.getD k []).length else nss.getD k [] := by
              rw [markNs_get hk]
              by_cases hki : k < i
              · rw [if_pos hki, if_pos (by omega)]
              · rw [if_neg hki, if_neg (by omega)]
            rw [← hsame]
            refine ⟨own_grown f1 hgrow (fun z hz e' => ?_), f2, b3⟩
            have h1 := tlt z e'
            have h2 := (own_lt f1 hz).1
            have h3 := f2 z hz
            rcases HCH.out k hk e with h | h <;> omega
        · exact HB.out.grown hgrow (by have := (HHI.out i hlt); omega) (fun z hz => by have := (tlt z hz).1; have := (HHI.out i hlt).1; omega)
        · intro b hb hb'
          rw [hgrow.block b (by omega) (fun e => by have := tlt b e.symm; have := (HHI.out i hlt).2.1; omega)]
          exact HOv.out b hb hb'
      case measure => simp [intOf]; omega
    · obtain rfl : i = nss.length := by omega
      clear ho
      go_wp2_with fail
      go_ret
      exact ⟨rfl, HO.out, HB.out, HOv.out⟩
set_option maxRecDepth 100000 in
set_option maxHeartbeats 8000000 in
theorem heldIntSS_any {a : Option Addr} {n c : Nat} {nss : List (List Int)} {k0 : Int} {w : World} (h : Nn w a n c (markNs k0 nss nss.length)) (h0 : 0 ≤ k0) (h1 : k0 ≤ 1000) (h2 : nss.length ≤ 100) (h3 : ∀ k, k < nss.length → (nss.getD k []).length ≤ 100) :
    Calls Try.prog 21 #[.slice a n c, .int .i64 k0] w fun e w' => e = .returned (.int .i64 (kN k0 nss nss.length)) ∧ w' = w := by
  obtain ⟨hn, hc, hm, hl⟩ := h
  rw [markNs_len] at hn hl
  subst hn
  unfold maxLen at hm
  have HL : Hid (markNs k0 nss nss.length = [] ∨ ∃ b off, a = some ⟨b, off, none⟩ ∧ b < w.heap.size ∧ ∀ k, k < nss.length → ∃ p m q, w.cell? ⟨b, off + k, none⟩ = some (.slice p m q) ∧ Ints w p m q ((markNs k0 nss nss.length).getD k [])) := hl
  have HKL : Hid (∀ i, i ≤ nss.length → 0 ≤ kN k0 nss i ∧ kN k0 nss i ≤ 20000) := fun i hi => by
    refine ⟨kN_ge nss i h0, ?_⟩
    have := kN_le (k0 := k0) h3 hi
    omega
  have H3 : Hid (∀ k, k < nss.length → (nss.getD k []).length ≤ 100) := h3
  clear hl h3
  go_enter Try.func21, Try.ntmps21
  go_wp2_with fail
  go_loop [1, 5] (fun kk iv => ∃ (i : Nat), i ≤ nss.length ∧ iv = .int .i64 i ∧ kk = .int .i64 (kN k0 nss i)) (fun _ iv => nss.length - (intOf iv).toNat)
  case atStart => exact ⟨0, Nat.zero_le _, rfl, by simp [kN]⟩
  case round =>
    obtain ⟨i, hi, rfl, rfl⟩ := hrel
    by_cases hlt : i < nss.length
    · obtain ⟨kge, kle⟩ := HKL.out i hi
      have HSU : Hid (kN k0 nss (i + 1) = kN k0 nss i + ((nss.getD i []).length : Nat)) := kN_succ hlt
      rcases HL.out with e | ⟨b, off, rfl, hbw, hl⟩
      · have := markNs_len k0 nss nss.length
        rw [e] at this
        simp at this
        omega
      obtain ⟨p, m, q, c0, ht⟩ := hl i hlt
      rw [markNs_get hlt, if_pos hlt] at ht
      have hml : m = (nss.getD i []).length := ht.1.trans (markedI_len _ _)
      rw [← hml] at ht HSU
      have hm100 : m ≤ 100 := by rw [hml]; exact H3.out i hlt
      obtain ⟨K, HK⟩ : ∃ K, Hid (kN k0 nss i = K) := ⟨_, rfl⟩
      rw [HK.out] at kge kle HSU ht ⊢
      have HT : Hid (Ints w p m q (markedI K m)) := ht
      have n1 : ¬ K + (m : Int) < 0 := by omega
      have hib : (i : Int) < (nss.length : Int) := by omega
      have hi0 : (0 : Int) ≤ (i : Int) := by omega
      clear hl ht hml
      go_wp2_with (go_at_call 45; refine (heldIntS_any p m q K _ HT.out (by omega) (by omega) (by omega)).mono ?_; rintro e w2 ⟨rfl, hw2⟩; subst w2)
      go_round
      case rel => exact ⟨i + 1, by omega, by go_num, by rw [HSU.out]⟩
      case measure => simp [intOf]; omega
    · obtain rfl : i = nss.length := by omega
      go_wp2_with fail
      go_ret
      exact ⟨rfl, rfl⟩
end Go.Proofs.Ythjipnocemioaaa
namespace Go.Proofs.Ythjipnocemioaaa
open Go.RowKit

theorem outl_iff (d : List Bl) : outlB d = true ↔ d.length ≤ 8 ∧ ∀ k, k < d.length → partOkB (d.getD k bl0) = true ∧ lvN (d.getD k bl0) ≤ aheadN d k + 1 := by
  unfold outlB
  rw [Bool.and_eq_true, decide_eq_true_eq, List.all_eq_true]
  constructor
  · rintro ⟨h1, h2⟩
    refine ⟨h1, fun k hk => ?_⟩
    have := h2 k (List.mem_range.2 hk)
    unfold outK at this
    rw [Bool.and_eq_true] at this
    refine ⟨this.1, ?_⟩
    have h3 := this.2
    rw [Bool.not_eq_true', decide_eq_false_iff_not] at h3
    omega
  · rintro ⟨h1, h2⟩
    refine ⟨h1, fun k hk => ?_⟩
    obtain ⟨h3, h4⟩ := h2 k (List.mem_range.1 hk)
    unfold outK
    rw [Bool.and_eq_true]
    refine ⟨h3, ?_⟩
    rw [Bool.not_eq_true', decide_eq_false_iff_not]
    omega
theorem getD_set_self {d : List Bl} {i : Nat} {x : Bl} (h : i < d.length) : (d.set i x).getD i bl0 = x := by simp [List.getD, h]
theorem getD_set_other {d : List Bl} {i k : Nat} {x : Bl} (h : i ≠ k) : (d.set i x).getD k bl0 = d.getD k bl0 := by simp [List.getD, List.getElem?_set_ne h]
theorem ahead_ge {d : List Bl} (h : ∀ k, k < d.length → partOkB (d.getD k bl0) = true) {k : Nat} (hk : k ≤ d.length) : -1 ≤ aheadN d k := by
  unfold aheadN
  by_cases h0 : k = 0
  · rw [if_pos h0]; omega
  · rw [if_neg h0]
    exact (lv_small (h (k - 1) (by omega))).1
/-- An item of level 0 in a paragraph's place is in order. -/
theorem enl_ok {d d' : List Bl} {i : Nat} (h : outlB d = true) (hi : i < d.length) (e : enlF d i = some d') : outlB d' = true := by
  unfold enlF at e
  by_cases h1 : (d.getD i bl0).1 = 1
  · rw [if_pos h1] at e
    cases e
    obtain ⟨h8, hk⟩ := (outl_iff d).1 h
    have ha : ∀ {k : Nat}, k ≤ d.length → -1 ≤ aheadN d k := fun hk' => ahead_ge (fun k hk' => (hk k hk').1) hk'
    have hl1 : lvN (d.getD i bl0) = -1 := by unfold lvN; rw [if_neg (by omega)]
    refine (outl_iff _).2 ⟨by simpa using h8, fun k hkl => ?_⟩
    rw [List.length_set] at hkl
    have hah : aheadN (d.set i (2, 0, (d.getD i bl0).2.2.1, 0, 0, [])) k = if k = i + 1 then 0 else aheadN d k := by
      unfold aheadN
      by_cases h0 : k = 0
      · rw [if_pos h0, if_neg (by omega), if_pos h0]
      · rw [if_neg h0, if_neg h0]
        by_cases hki : k = i + 1
        · rw [if_pos hki, show k - 1 = i by omega, getD_set_self hi]
          rfl
        · rw [if_neg hki, getD_set_other (by omega)]
    rw [hah]
    by_cases hki : i = k
    · subst hki
      rw [getD_set_self hi, if_neg (by omega)]
      have := ha (k := i) (by omega)
      refine ⟨?_, ?_⟩
      · have hp := (hk i hi).1
        unfold partOkB at hp ⊢
        rw [if_pos h1] at hp
        simp
        exact hp
      · show (0 : Int) ≤ _
        omega
    · rw [getD_set_other hki]
      refine ⟨(hk k hkl).1, ?_⟩
      have := (hk k hkl).2
      by_cases hk1 : k = i + 1
      · rw [if_pos hk1]
        subst hk1
        unfold aheadN at this
        rw [if_neg (by omega), show i + 1 - 1 = i by omega, hl1] at this
        omega
      · rw [if_neg hk1]
        exact this
  · rw [if_neg h1] at e
    cases e
theorem deep_get {d : List Bl} {i : Nat} {z : Int} {k : Nat} (hk : k < d.length) : (deepL d i z).getD k bl0 = if i ≤ k ∧ k < endL d i then bump z (d.getD k bl0) else d.getD k bl0 := deepTo_get hk
theorem lv_bump {x : Bl} {z : Int} (h : x.1 = 2) : lvN (bump z x) = lvN x + z := by
  unfold lvN bump
  simp only
  rw [if_pos h, if_pos h]
theorem endL_next {d : List Bl} {i : Nat} (hi : i < d.length) (h : endL d i < d.length) : lvN (d.getD (endL d i) bl0) ≤ lvN (d.getD i bl0) := by
  by_cases hq : lvN (d.getD (endL d i) bl0) ≤ lvN (d.getD i bl0)
  · exact hq
  · exfalso
    have h1 : lvN (d.getD i bl0) < lvN (d.getD (endL d i) bl0) := by omega
    -- then one more were below
    obtain ⟨E, hE⟩ : ∃ E, E = endL d i := ⟨_, rfl⟩
    have hge : i + 1 ≤ E := by rw [hE]; unfold endL; omega
    have hex : ∃ F, E < F ∧ F ≤ d.length ∧ endL d i = F := by
      have key : ∀ (n F : Nat), d.length - F = n → E < F → F ≤ d.length → (∀ k, i < k → k < F → lvN (d.getD i bl0) < lvN (d.getD k bl0)) → ∃ F, E < F ∧ F ≤ d.length ∧ endL d i = F := by
        intro n
        induction n with
        | zero =>
          intro F hn hF hFl hall
          exact ⟨F, hF, hFl, endL_of (by omega) hFl hall (fun h => by omega)⟩
        | succ n ih =>
          intro F hn hF hFl hall
          by_cases hd : lvN (d.getD i bl0) < lvN (d.getD F bl0)
          · exact ih (F + 1) (by omega) (by omega) (by omega) (fun k h1 h2 => by
              by_cases e : k = F
              · subst e; exact hd
              · exact hall k h1 (by omega))
          · exact ⟨F, hF, hFl, endL_of (by omega) hFl hall (fun _ => hd)⟩
      refine key (d.length - (E + 1)) (E + 1) rfl (by omega) (by omega) (fun k h2 h3 => ?_)
      by_cases e : k = E
      · rw [e, hE]; exact h1
      · exact endL_deeper hi h2 (by omega)
    obtain ⟨F, hF, -, he⟩ := hex
    omega
theorem lift_ok {d d' : List Bl} {i : Nat} (h : outlB d = true) (hi : i < d.length) (e : liftF d i = some d') : outlB d' = true := by
  unfold liftF at e
  by_cases h1 : (d.getD i bl0).1 = 2
  · rw [if_pos h1] at e
    obtain ⟨h8, hk⟩ := (outl_iff d).1 h
    have ha : ∀ {k : Nat}, k ≤ d.length → -1 ≤ aheadN d k := fun hk' => ahead_ge (fun k hk' => (hk k hk').1) hk'
    have hl1 : lvN (d.getD i bl0) = (d.getD i bl0).2.1 := by unfold lvN; rw [if_pos h1]
    have hg := group_items h hi h1
    by_cases h2 : 0 < (d.getD i bl0).2.1
    · rw [if_pos h2] at e
      cases e
      have hE1 : i + 1 ≤ endL d i := by unfold endL; omega
      have hE2 := endL_le (d := d) (i := i) hi
      have hlv : ∀ k, k < d.length → lvN ((deepL d i (-1)).getD k bl0) = if i ≤ k ∧ k < endL d i then lvN (d.getD k bl0) - 1 else lvN (d.getD k bl0) := fun k hkl => by
        rw [deep_get hkl]
        by_cases hin : i ≤ k ∧ k < endL d i
        · rw [if_pos hin, if_pos hin, lv_bump (hg k hin.1 hin.2).1]
          omega
        · rw [if_neg hin, if_neg hin]
      have hgr : ∀ k, i ≤ k → k < endL d i → (d.getD i bl0).2.1 ≤ lvN (d.getD k bl0) := fun k a b => by
        by_cases e : k = i
        · subst e; rw [hl1]; omega
        · have := endL_deeper hi (by omega) b
          rw [hl1] at this
          omega
      refine (outl_iff _).2 ⟨by rw [deepL, deepTo_len]; exact h8, fun k hkl => ?_⟩
      rw [deepL, deepTo_len] at hkl
      refine ⟨?_, ?_⟩
      · rw [deep_get hkl]
        by_cases hin : i ≤ k ∧ k < endL d i
        · rw [if_pos hin]
          obtain ⟨g2, g0, g3⟩ := hg k hin.1 hin.2
          have hp := (hk k hkl).1
          have hlo := hgr k hin.1 hin.2
          unfold lvN at hlo
          rw [if_pos g2] at hlo
          unfold partOkB at hp ⊢
          unfold bump
          simp only
          rw [if_neg (by omega), if_pos g2, Bool.and_eq_true, decide_eq_true_eq] at hp
          rw [if_neg (by omega), if_pos g2, Bool.and_eq_true, decide_eq_true_eq]
          exact ⟨by omega, hp.2⟩
        · rw [if_neg hin]
          exact (hk k hkl).1
      · have hold := (hk k hkl).2
        rw [hlv k hkl]
        unfold aheadN at hold ⊢
        by_cases hk0 : k = 0
        · rw [if_pos hk0] at hold ⊢
          by_cases hin : i ≤ k ∧ k < endL d i
          · rw [if_pos hin]; omega
          · rw [if_neg hin]; exact hold
        · rw [if_neg hk0] at hold ⊢
          rw [hlv (k - 1) (by omega)]
          by_cases hin : i ≤ k ∧ k < endL d i
          · rw [if_pos hin]
            by_cases hin' : i ≤ k - 1 ∧ k - 1 < endL d i
            · rw [if_pos hin']; omega
            · rw [if_neg hin']; omega
          · rw [if_neg hin]
            by_cases hin' : i ≤ k - 1 ∧ k - 1 < endL d i
            · rw [if_pos hin']
              have hke : k = endL d i := by omega
              have hn := endL_next hi (by rw [← hke]; exact hkl)
              rw [← hke, hl1] at hn
              have := hgr (k - 1) hin'.1 hin'.2
              omega
            · rw [if_neg hin']; exact hold
    · rw [if_neg h2] at e
      by_cases h3 : endL d i = i + 1
      · rw [if_pos h3] at e
        cases e
        have h0 : (d.getD i bl0).2.1 = 0 := by
          have := (hg i (Nat.le_refl _) (by omega)).2.1
          omega
        refine (outl_iff _).2 ⟨by simpa using h8, fun k hkl => ?_⟩
        rw [List.length_set] at hkl
        have hah : aheadN (d.set i (1, 0, (d.getD i bl0).2.2.1, 0, 0, [])) k = if k = i + 1 then -1 else aheadN d k := by
          unfold aheadN
          by_cases hk0 : k = 0
          · rw [if_pos hk0, if_neg (by omega), if_pos hk0]
          · rw [if_neg hk0, if_neg hk0]
            by_cases hki : k = i + 1
            · rw [if_pos hki, show k - 1 = i by omega, getD_set_self hi]
              rfl
            · rw [if_neg hki, getD_set_other (by omega)]
        rw [hah]
        by_cases hki : i = k
        · subst hki
          rw [getD_set_self hi, if_neg (by omega)]
          have := ha (k := i) (by omega)
          refine ⟨?_, ?_⟩
          · have hp := (hk i hi).1
            unfold partOkB at hp ⊢
            rw [if_neg (by omega), if_pos h1, Bool.and_eq_true] at hp
            simp
            exact hp.2
          · show (-1 : Int) ≤ _
            omega
        · rw [getD_set_other hki]
          refine ⟨(hk k hkl).1, ?_⟩
          by_cases hk1 : k = i + 1
          · rw [if_pos hk1]
            have hn := endL_next hi (by rw [h3, ← hk1]; exact hkl)
            rw [h3, ← hk1, hl1, h0] at hn
            omega
          · rw [if_neg hk1]
            exact (hk k hkl).2
      · rw [if_neg h3] at e
        cases e
  · rw [if_neg h1] at e
    cases e
end Go.Proofs.Ythjipnocemioaaa
namespace Go.Proofs.Ythjipnocemioaaa
open Go.RowKit

/-- What the specification's 'now' is ahead of block i. -/
def nowD (d : List Bl) (i : Nat) : List Int := (cnL (cnD d i)).take (aheadN d i + 1).toNat
theorem nowD_zero (d : List Bl) : nowD d 0 = [] := by
  unfold nowD aheadN
  simp
theorem nowD_succ (d : List Bl) (i : Nat) : nowD d (i + 1) = numK d i := by
  unfold nowD aheadN numK
  rw [if_neg (by omega), Nat.add_sub_cancel]
theorem nowD_len {d : List Bl} {i : Nat} (h : -1 ≤ aheadN d i ∧ aheadN d i ≤ 3) : ((nowD d i).length : Int) = aheadN d i + 1 := by
  unfold nowD
  rw [List.length_take]
  simp [cnL]
  omega
theorem withC_zero {c : Cn} {v : Int} (k : Nat) (hk : v < k) (h0 : -1 ≤ v) : (cnL (withC c v)).getD k 0 = 0 := by
  unfold withC
  by_cases h4 : 4 ≤ k
  · simp [List.getD, List.getElem?_eq_none (show (cnL _).length ≤ k by simp [cnL]; omega)]
  · rcases (show k = 0 ∨ k = 1 ∨ k = 2 ∨ k = 3 by omega) with rfl | rfl | rfl | rfl
    · rw [if_neg (by omega), if_neg (by omega), if_neg (by omega), if_neg (by omega)]; rfl
    · by_cases e : v = 0
      · rw [if_pos e]; rfl
      · rw [if_neg e, if_neg (by omega), if_neg (by omega), if_neg (by omega)]; rfl
    · by_cases e : v = 0
      · rw [if_pos e]; rfl
      · rw [if_neg e]
        by_cases e1 : v = 1
        · rw [if_pos e1]; rfl
        · rw [if_neg e1, if_neg (by omega), if_neg (by omega)]; rfl
    · by_cases e : v = 0
      · rw [if_pos e]; rfl
      · rw [if_neg e]
        by_cases e1 : v = 1
        · rw [if_pos e1]; rfl
        · rw [if_neg e1]
          by_cases e2 : v = 2
          · rw [if_pos e2]; rfl
          · rw [if_neg e2, if_neg (by omega)]; rfl
/-- Deeper than the block ahead nothing is counted. -/
theorem cnD_deep {d : List Bl} {i : Nat} (h : -1 ≤ aheadN d i) (k : Nat) (hk : aheadN d i < k) : (cnL (cnD d i)).getD k 0 = 0 := by
  rcases i with _ | j
  · by_cases h4 : 4 ≤ k
    · simp [List.getD, List.getElem?_eq_none (show (cnL (cnD d 0)).length ≤ k by simp [cnL]; omega)]
    · rcases (show k = 0 ∨ k = 1 ∨ k = 2 ∨ k = 3 by omega) with rfl | rfl | rfl | rfl <;> rfl
  · have e : aheadN d (j + 1) = lvN (d.getD j bl0) := by
      unfold aheadN
      rw [if_neg (by omega), Nat.add_sub_cancel]
    rw [e] at h hk
    exact withC_zero k hk h
/-- The numbers of an item: those ahead of it, one more at its level. -/
theorem numK_of {c : Cn} {v : Nat} (hv : v ≤ 3) : ((cnL c).take (v + 1)).set v ((cnL c).getD v 0 + 1) = (cnL (withC c v)).take (v + 1) := by
  obtain ⟨c0, c1, c2, c3⟩ := c
  rcases (show v = 0 ∨ v = 1 ∨ v = 2 ∨ v = 3 by omega) with rfl | rfl | rfl | rfl <;> simp [cnL, withC]
theorem take_snoc_zero {l : List Int} {v : Nat} (hv : v < l.length) (h0 : l.getD v 0 = 0) : l.take v ++ [0] = l.take (v + 1) := by
  rw [List.take_succ_eq_append_getElem hv]
  have : l[v] = 0 := by simpa [List.getD, hv] using h0
  rw [this]
theorem ints_one {w : World} {p : Option Addr} {m c : Nat} {l : List Int} (h : Ints w p m c l) (b off : Nat) (hp : p = some ⟨b, off, none⟩) (hl : l ≠ []) : ∀ j u, (l.map (Value.int .i64))[j]? = some u → w.cell? ((⟨b, off, none⟩ : Addr).add j) = some u := by
  intro j u hj
  obtain ⟨h1, h2, h3, h4⟩ := h
  have hlt : j < l.length := by
    have := (List.getElem?_eq_some_iff.1 hj).1
    simpa using this
  rcases h4 with h4 | ⟨b', off', e, hb, h5⟩
  · exact absurd h4 hl
  · rw [hp] at e
    simp only [Option.some.injEq, Addr.mk.injEq, and_true] at e
    obtain ⟨rfl, rfl⟩ := e
    have h6 := h5 j hlt
    rw [List.getElem?_map, List.getElem?_eq_getElem hlt] at hj
    simp at hj
    rw [Addr.add_lit, h6, ← hj]
    simp [List.getD, hlt]
end Go.Proofs.Ythjipnocemioaaa
namespace Go.Proofs.Ythjipnocemioaaa
open Go.RowKit

theorem Try.info71 : (Try.prog.info? 71).map (fun i => (i.zero, i.size, i.bytes)) = some (some (.slice none 0 0), 1, 24) := by kernel_rfl
theorem own_shp {w : World} {B e size n : Nat} {v : Value} {xs : List Value} (h : w.ownsRow B e size v n xs) : ∃ a c, v = .slice a n c := by
  rcases h.2 with ⟨rfl, h0⟩ | ⟨g, cap, cur, rfl, r⟩
  · exact ⟨none, 0, by rw [h0]⟩
  · exact ⟨_, _, rfl⟩
theorem counts_len : Try.prog.arrayLen 73 = 4 := by kernel_rfl
theorem counts_under : Try.prog.underlying 73 = some (.array (Try.prog.arrayLen 73) (Try.prog.elem 73)) := by kernel_rfl
theorem counts_elem : Try.prog.elem 73 = 3 := by kernel_rfl
theorem slice_counts (b m : Nat) (w : World) (hm : m ≤ 4) : (Instr.sliceAt 73 (.pointer (some ⟨b, 0, none⟩)) none (some (.int .i64 m)) none).run Try.prog w = .ok (.slice (some ⟨b, 0, none⟩) m 4) w := by
  obtain ⟨i0, hi, hz0, hz1, hz2⟩ := info_parts Try.info3
  rw [run_sliceAt_array_h w 73 ⟨b, 0, none⟩ counts_under .i64 m (by omega) (by rw [counts_len]; omega), counts_elem, counts_len]
  simp [sizeOf, typeInfo, hi, slicedAt, Result.andThen, Addr.add]
set_option maxRecDepth 100000 in
set_option maxHeartbeats 8000000 in
theorem implDocNums_any {a : Option Addr} {n cap : Nat} {d : List Bl} {w : World} (h : Dc w a n cap d) :
    Calls Try.prog 17 #[.agg #[.slice a n cap]] w fun e w' => (∃ p m q vs, e = .returned (.slice p m q) ∧ NnOwn w' w.heap.size w'.heap.size (.slice p m q) vs (if docB d = true then numsL d d.length else [])) ∧ Below w.heap.size w w' := by
  obtain ⟨i0, hi0, hz0, hz1, hz2⟩ := info_parts Try.info71
  have HN : Hid (n = d.length) := h.1
  have hc := h.2.1
  have hm := h.2.2.1
  unfold maxLen at hm
  have H : Hid (Dc w a n cap d) := h
  clear h
  obtain ⟨x, HX⟩ : ∃ x, Hid (docB d = x) := ⟨_, rfl⟩
  rw [HX.out]
  go_enter Try.func17, Try.ntmps17
  go_upto_region 1 with fail
  have B0 : Below w.heap.size w (w.alloc (.cells #[.slice a n cap] 29)) := (Below.refl _ _).alloc (Nat.le_refl _) _
  have G0 : RowAt (w.alloc (.cells #[.slice a n cap] 29)) w.heap.size #[.slice a n cap] 29 := rowAt_new _ _ _
  generalize (w.alloc (.cells #[.slice a n cap] 29)) = v0 at B0 G0 ⊢
  have k0 : v0.cell? ⟨w.heap.size, 0, none⟩ = some (.slice a n cap) := G0.cell 0
  have s0 := B0.size
  have HB0 : Hid (Below w.heap.size w v0) := B0
  have HD0 : Hid (Dc v0 a n cap d) := H.out.below B0
  clear G0 B0
  go_wp2_with fail
  refine (outlineOf_is HX.out HD0.out).mono ?_
  rintro e w1 ⟨(⟨hxx, rfl⟩ | ⟨hxx, pa, pc, ps, rfl, ho1, hp1⟩), hb1⟩
  · subst hxx
    clear k0
    go_wp2_with fail
    refine wp_loop_rounds 1 ?_
    rw [rounds_succ]
    go_wp2_with fail
    go_ret
    have hb : Below w.heap.size w (w1.alloc (.cells #[.int .i64 0, .int .i64 0, .int .i64 0, .int .i64 0] 73)) := (HB0.out.trans (hb1.mono s0)).alloc (by have := hb1.size; omega) _
    refine ⟨⟨none, 0, 0, rfl, [], ?_⟩, hb⟩
    exact NnOwn.nil _ _ _
  subst hxx
  obtain ⟨hn8', hall, hou⟩ := (doc_parts2 d).1 HX.out
  have hn8 : n ≤ 8 := by rw [HN.out]; exact hn8'
  have HK : Hid (∀ y ∈ d, kindB y) := fun y hy => partB_kind (List.all_eq_true.1 hall y hy)
  have HLV : Hid (∀ k, k < d.length → -1 ≤ lvN (d.getD k bl0) ∧ lvN (d.getD k bl0) ≤ 3) := fun k hk => lv_small (outlB_part hou hk)
  have HO1 : Hid (OwnP w1 v0.heap.size (.slice pa n pc) ps) := ho1
  have HP1 : Hid (PartsAre w1 ps d) := hp1.below hb1
  have HB1 : Hid (Below w.heap.size w w1) := HB0.out.trans (hb1.mono s0)
  have s1 := hb1.size
  have hpc : n ≤ pc ∧ pc ≤ 2 ^ 63 - 1 := by
    have hr := ho1.row
    rcases hr.2 with ⟨hv, h0⟩ | ⟨g, cap, cur, hv, hg, hgg, a1, a2, _⟩
    · simp only [Value.slice.injEq] at hv
      omega
    · simp only [Value.slice.injEq] at hv
      unfold maxLen at a2
      omega
  obtain ⟨hpc1, hpc2⟩ := hpc
  clear k0 ho1 hp1 hb1 hall hou hn8'
  go_upto_region 4 with fail
  have B3 : Below w1.heap.size w1 (w1.alloc (.cells #[.int .i64 0, .int .i64 0, .int .i64 0, .int .i64 0] 73)) := (Below.refl _ _).alloc (Nat.le_refl _) _
  have G3 : RowAt (w1.alloc (.cells #[.int .i64 0, .int .i64 0, .int .i64 0, .int .i64 0] 73)) w1.heap.size #[.int .i64 0, .int .i64 0, .int .i64 0, .int .i64 0] 73 := rowAt_new _ _ _
  generalize (w1.alloc (.cells #[.int .i64 0, .int .i64 0, .int .i64 0, .int .i64 0] 73)) = w3 at B3 G3 ⊢
  have s3 := B3.size
  have zc := G3.lt
  have HG3 : Hid (RowAt w3 w1.heap.size #[.int .i64 0, .int .i64 0, .int .i64 0, .int .i64 0] 73) := G3
  have HB3 : Hid (Below w1.heap.size w1 w3) := B3
  clear G3 B3
  go_wp2_with fail
  go_loopw [5, 17, 8, 9] (fun nv iv pv lv wr => ∃ (i : Nat) (na : Option Addr) (nc : Nat) (vs : List Value), i ≤ n ∧ iv = .int .i64 i ∧ nv = .slice na i nc ∧ RowAt wr w1.heap.size (cnA (cnD d i)) 73 ∧ NnOwn wr w3.heap.size wr.heap.size (.slice na i nc) vs (numsL d i) ∧ w3.heap.size ≤ wr.heap.size ∧ Below w1.heap.size w1 wr) (fun _ iv _ _ _ => n - (intOf iv).toNat)
  case atStart => exact ⟨0, none, 0, [], Nat.zero_le _, rfl, rfl, HG3.out, NnOwn.nil _ _ _, Nat.le_refl _, HB3.out⟩
  case round =>
    obtain ⟨i, na, nc, vs, hi, rfl, rfl, hG, hO, hs, hB⟩ := hrel
    have hok := cnD_ok d i
    have HSU : Hid (withC (cnD d i) (lvN (d.getD i bl0)) = cnD d (i + 1)) := rfl
    obtain ⟨⟨c0, c1, c2, c3⟩, hcc⟩ : ∃ c, c = cnD d i := ⟨_, rfl⟩
    rw [← hcc] at hG hok HSU
    have hG' : RowAt wr w1.heap.size #[.int .i64 c0, .int .i64 c1, .int .i64 c2, .int .i64 c3] 73 := hG
    have HG : Hid (RowAt wr w1.heap.size #[.int .i64 c0, .int .i64 c1, .int .i64 c2, .int .i64 c3] 73) := hG'
    have HO : Hid (NnOwn wr w3.heap.size wr.heap.size (.slice na i nc) vs (numsL d i)) := hO
    have HB : Hid (Below w1.heap.size w1 wr) := hB
    clear hG hG' hcc
    unfold CnOk at hok
    simp only at hok
    obtain ⟨ok0, ok1, ok2, ok3⟩ := hok
    have hncs : i ≤ nc ∧ nc ≤ 2 ^ 63 - 1 := by
      have hr := hO.1
      have hl := hO.2.2.1
      have hl2 : (numsL d i).length = i := by simp [numsL]
      rcases hr.2 with ⟨hv, h0⟩ | ⟨g, cap, cur, hv, hg, hgg, a1, a2, _⟩
      · simp only [Value.slice.injEq] at hv
        omega
      · simp only [Value.slice.injEq] at hv
        unfold maxLen at a2
        omega
    obtain ⟨hnc1, hnc2⟩ := hncs
    have HVL : Hid (vs.length = i) := by
      have hl := hO.2.2.1
      have hl2 : (numsL d i).length = i := by simp [numsL]
      show vs.length = i
      omega
    clear hO hB
    by_cases hlt : i < n
    · have hid : i < d.length := by have := HN.out; omega
      have hib : (i : Int) < (n : Int) := by omega
      have hii : (0 : Int) ≤ (i : Int) := by omega
      obtain ⟨g, rfl, hg1, hg2, hcell, -⟩ := ownP_at (HO1.out.below HB.out) hlt
      obtain ⟨ta, tn, tc, ca, cn, cc, hpv, -, -⟩ := HP1.out.2 i hid
      have hkd := HK.out (d.getD i bl0) (by rw [getD_bl hid]; exact List.getElem_mem hid)
      obtain ⟨lv0, lv3⟩ := HLV.out i hid
      obtain ⟨v, HV⟩ : ∃ v, Hid (lvN (d.getD i bl0) = v) := ⟨_, rfl⟩
      rw [HV.out] at lv0 lv3 HSU
      have hv' := HV.out
      rw [hpv] at hcell
      obtain ⟨⟨K, V, t, R, C, l⟩, hx⟩ : ∃ x, x = d.getD i bl0 := ⟨_, rfl⟩
      rw [← hx] at hcell hkd hv'
      unfold lvN at hv'
      unfold kindB at hkd
      simp only at hcell hkd hv'
      have HKD : Hid (K = 1 ∨ K = 2 ∨ K = 3) := hkd
      have HVV : Hid ((if K = 2 then V else -1) = v) := hv'
      have HNK : Hid (numsL d (i + 1) = numsL d i ++ [(cnL (cnD d (i + 1))).take (v + 1).toNat]) := by
        show numsL d (i + 1) = _
        unfold numsL
        rw [List.range_succ, List.map_append]
        simp only [List.map_cons, List.map_nil, numK, HV.out]
      obtain ⟨p1, hp1e⟩ : ∃ p, p = partV K V ta tn tc R C ca cn cc := ⟨_, rfl⟩
      rw [← hp1e] at hcell
      have HL1 : Hid (∀ u, Calls Try.prog 39 #[p1] u fun e w' => e = .returned (.int .i64 v) ∧ Below u.heap.size u w') := fun u => hp1e ▸ levelOf_part HKD.out HVV.out
      obtain ⟨⟨e0, e1, e2, e3⟩, hee⟩ : ∃ c, c = cnD d (i + 1) := ⟨_, rfl⟩
      rw [← hee] at HSU HNK
      have HEE : Hid ((e0, e1, e2, e3) = cnD d (i + 1)) := hee
      clear hpv hkd hv' hx hp1e hee
      go_upto_region 8 with (go_at_call 39; refine (HL1.out _).mono ?_; rintro e u1 ⟨rfl, hb1⟩)
      have t1 := hb1.size
      have HG1 : Hid (RowAt u1 w1.heap.size #[.int .i64 c0, .int .i64 c1, .int .i64 c2, .int .i64 c3] 73) := HG.out.below hb1 HG.out.lt
      have HO2 : Hid (NnOwn u1 w3.heap.size wr.heap.size (.slice na i nc) vs (numsL d i)) := HO.out.below (Nat.le_refl _) hb1
      have HB2 : Hid (Below w1.heap.size w1 u1) := HB.out.trans (hb1.mono (by omega))
      have zc1 := HG1.out.lt
      have j0 : u1.cell? ⟨w1.heap.size, 0, none⟩ = some (.int .i64 c0) := HG1.out.cell 0
      have j1 : u1.cell? ⟨w1.heap.size, 1, none⟩ = some (.int .i64 c1) := HG1.out.cell 1
      have j2 : u1.cell? ⟨w1.heap.size, 2, none⟩ = some (.int .i64 c2) := HG1.out.cell 2
      have j3 : u1.cell? ⟨w1.heap.size, 3, none⟩ = some (.int .i64 c3) := HG1.out.cell 3
      have HWI : Hid (∀ u, Calls Try.prog 40 #[.agg #[.int .i64 c0, .int .i64 c1, .int .i64 c2, .int .i64 c3], .int .i64 v] u fun e w' => e = .returned (.agg #[.int .i64 e0, .int .i64 e1, .int .i64 e2, .int .i64 e3]) ∧ Below u.heap.size u w') := fun u => by
        have := with_any (c0 := c0) (c1 := c1) (c2 := c2) (c3 := c3) (v := v) (w := u) (by omega) (by omega) (by omega) (by omega) (by omega)
        rw [HSU.out] at this
        exact this
      clear hcell hb1 HG HO HB
      go_upto_region 9 with (first | (go_at_call 40; refine (HWI.out _).mono ?_; rintro e u2 ⟨rfl, hb2⟩; have HG2 : Hid (RowAt u2 w1.heap.size #[.int .i64 c0, .int .i64 c1, .int .i64 c2, .int .i64 c3] 73) := HG1.out.below hb2 zc1) | (refine wpList_store_row rfl 73 (.tmp 6) (.tmp 25) rfl w1.heap.size #[.int .i64 e0, .int .i64 e1, .int .i64 e2, .int .i64 e3] rfl rfl 73 _ HG2.out counts_info rfl (cells4_one _ _ _ _) ?_))
      have t2 := hb2.size
      have U3 : Below w1.heap.size u2 (u2.setRow w1.heap.size #[.int .i64 e0, .int .i64 e1, .int .i64 e2, .int .i64 e3]) := below_row (Below.refl _ _) (Nat.le_refl _) _
      have G3 : RowAt (u2.setRow w1.heap.size #[.int .i64 e0, .int .i64 e1, .int .i64 e2, .int .i64 e3]) w1.heap.size #[.int .i64 e0, .int .i64 e1, .int .i64 e2, .int .i64 e3] 73 := RowAt.setRow HG2.out _
      have sz3 : (u2.setRow w1.heap.size #[.int .i64 e0, .int .i64 e1, .int .i64 e2, .int .i64 e3]).heap.size = u2.heap.size := by simp [World.setRow]
      have HO3 : Hid (NnOwn (u2.setRow w1.heap.size #[.int .i64 e0, .int .i64 e1, .int .i64 e2, .int .i64 e3]) w3.heap.size wr.heap.size (.slice na i nc) vs (numsL d i)) := by
        have h1 := HO2.out.below (by omega) hb2
        refine ⟨own_row h1.1 _ _ (fun e => by have := (own_lt h1.1 e).1; omega), h1.2.1, h1.2.2.kept (fun b cs ty hb hb' _ hr => hr.setRowOther _ _ (by omega))⟩
      have HB3' : Hid (Below w1.heap.size w1 (u2.setRow w1.heap.size #[.int .i64 e0, .int .i64 e1, .int .i64 e2, .int .i64 e3])) := below_row (HB2.out.trans (hb2.mono (by omega))) (Nat.le_refl _) _
      have t3 : wr.heap.size ≤ (u2.setRow w1.heap.size #[.int .i64 e0, .int .i64 e1, .int .i64 e2, .int .i64 e3]).heap.size := by omega
      have zc3 := G3.lt
      clear j0 j1 j2 j3 U3 HO2 HB2 HG1 HG2 hb2 sz3
      generalize u2.setRow w1.heap.size #[.int .i64 e0, .int .i64 e1, .int .i64 e2, .int .i64 e3] = u3 at G3 HO3 HB3' t3 zc3 ⊢
      have HG3' : Hid (RowAt u3 w1.heap.size #[.int .i64 e0, .int .i64 e1, .int .i64 e2, .int .i64 e3] 73) := G3
      have HIA : Hid (IntsAt u3 w1.heap.size 0 ((cnL (e0, e1, e2, e3)).take (v + 1).toNat)) := fun k hk => by
        have hk4 : k < 4 := by
          have : k < (cnL (e0, e1, e2, e3)).length := Nat.lt_of_lt_of_le hk (by rw [List.length_take]; omega)
          simpa [cnL] using this
        have hk5 : k < (v + 1).toNat := Nat.lt_of_lt_of_le hk (by rw [List.length_take]; omega)
        have h1 : ((cnL (e0, e1, e2, e3)).take (v + 1).toNat).getD k 0 = (cnL (e0, e1, e2, e3)).getD k 0 := by
          simp only [List.getD, List.getElem?_take, if_pos hk5]
        rw [h1, Nat.zero_add]
        have hc := HG3'.out.cell k
        rw [hc]
        rcases (show k = 0 ∨ k = 1 ∨ k = 2 ∨ k = 3 by omega) with rfl | rfl | rfl | rfl <;> rfl
      obtain ⟨m, HM⟩ : ∃ m : Nat, Hid ((v + 1).toNat = m) := ⟨_, rfl⟩
      have hm4 : m ≤ 4 := by rw [← HM.out]; omega
      have hvm : v + 1 = (m : Int) := by rw [← HM.out]; omega
      rw [HM.out] at HIA HNK
      have HLM : Hid (m = ((cnL (e0, e1, e2, e3)).take m).length) := by
        show m = _
        rw [List.length_take]
        simp [cnL]
        omega
      clear G3
      go_wp2_with fail
      rw [slice_counts _ _ _ hm4]
      go_wp2_with fail
      refine (copiedInt_any HIA.out HLM.out (by omega) (by omega)).mono ?_
      rintro e u4 ⟨⟨tp, tq, rfl, ho4⟩, hb4⟩
      have t4 := hb4.size
      have HG4 : Hid (RowAt u4 w1.heap.size #[.int .i64 e0, .int .i64 e1, .int .i64 e2, .int .i64 e3] 73) := HG3'.out.below hb4 zc3
      have HO4 : Hid (NnOwn u4 w3.heap.size wr.heap.size (.slice na i nc) vs (numsL d i)) := HO3.out.below t3 hb4
      have HB4 : Hid (Below w1.heap.size w1 u4) := HB3'.out.trans (hb4.mono (by omega))
      have HI4 : Hid (OwnI u4 u3.heap.size (.slice tp m tq) ((cnL (e0, e1, e2, e3)).take m)) := ho4
      clear hb4 ho4
      have A5 : Below u4.heap.size u4 (u4.alloc (.cells #[.slice tp m tq] 71)) := (Below.refl _ _).alloc (Nat.le_refl _) _
      have HO5 : Hid (NnOwn (u4.alloc (.cells #[.slice tp m tq] 71)) w3.heap.size wr.heap.size (.slice na i nc) vs (numsL d i)) := HO4.out.below (by omega) A5
      have HI5 : Hid (OwnI (u4.alloc (.cells #[.slice tp m tq] 71)) u3.heap.size (.slice tp m tq) ((cnL (e0, e1, e2, e3)).take m)) := HI4.out.below A5
      have HRW : Hid ((u4.alloc (.cells #[.slice tp m tq] 71)).ownsRow w3.heap.size 71 1 (.slice na i nc) i vs) := by
        have h1 := HO5.out.1
        rw [HVL.out] at h1
        exact h1
      go_wp2_with (at_builtin; refine wpList_append_own _ rfl (.tmp 26) (.tmp 31) 34 rfl w3.heap.size 71 i0 _ 1 24 Try.underlying34 hi0 hz0 hz1 hz2 rfl (by decide) (.slice na i nc) i vs rfl HRW.out ⟨u4.heap.size, 0, none⟩ 1 1 [.slice tp m tq] rfl rfl (cell_new1p _ _ _) (by intro u hu; simp at hu; subst hu; rfl) (by unfold maxLen; omega) (by omega) (by simp; omega) ?_; intro v' u7 hown hgrow _; obtain ⟨na', nc', rfl⟩ := own_shp hown)
      have s7 := hgrow.size
      simp only [World.size_alloc] at s7
      have hne : ∀ g, (Value.slice na i nc).ownBlock = some g → w3.heap.size ≤ g := fun g hg => (own_lt HRW.out hg).1
      have hlen : i = (numsL d i).length := by simp [numsL]
      have hN7 := nnOwn_snoc (E := wr.heap.size) (E' := u4.heap.size) HO5.out hlen (own_less HI5.out t3) (fun z hz => (own_lt HI4.out hz).2) hs (by omega) (by omega) hown hgrow
      go_roundw
      case rel =>
        refine ⟨i + 1, na', nc', vs ++ [.slice tp m tq], by omega, by go_num, rfl, ?_, ?_, by omega, ?_⟩
        · rw [← HEE.out]
          exact (HG4.out.alloc _).grown hgrow (fun e => by have := hne _ e; omega)
        · rw [HNK.out]
          exact hN7
        · exact (HB4.out.alloc (by omega) _).grown hgrow (by simp; omega) (fun k hk => by have := hne _ hk; omega)
      case measure => simp [intOf]; omega
    · have hib : ¬ (i : Int) < (n : Int) := by omega
      obtain rfl : i = n := by omega
      go_wp2_with fail
      go_ret
      refine ⟨⟨na, i, nc, rfl, vs, ?_⟩, HB1.out.trans (HB.out.mono (by omega))⟩
      have e1 : numsL d i = numsL d d.length := by rw [HN.out]
      rw [← e1]
      obtain ⟨a1, a2, a3⟩ := HO.out
      refine ⟨own_less a1 (by omega), a2, ?_⟩
      obtain ⟨h0, lo, hi', h1, h2⟩ := a3
      exact ⟨h0, lo, hi', fun k hk => ⟨by have := (h1 k hk).1; omega, (h1 k hk).2⟩, h2⟩
end Go.Proofs.Ythjipnocemioaaa
namespace Go.Proofs.Ythjipnocemioaaa
open Go.RowKit

theorem wpList_append_ints {w : World} {ops : Array Oper} {rest : List Oper} {o : Oper} {a : Act} {Q : Exit → Act → World → Prop} (hgd : o.guard = none) (s x : Operand)
    (ho : o.op = .call { callee := .builtin .append, args := #[s, x], argTypes := #[71, 71] })
    (base : Nat) (v : Value) (l0 : List Int) (hs : a.eval s = v) (hown : OwnI w base v l0)
    (p : Option Addr) (m c : Nat) (l : List Int) (hx : a.eval x = .slice p m c) (hin : Ints w p m c l) (h63 : l0.length + m ≤ 1000) (hbase : base ≤ w.heap.size)
    (h : ∀ p' c' w', OwnI w' base (.slice p' (l0.length + m) c') (l0 ++ l) → w.grownBy w' v.ownBlock → wpList Try.prog ops Q rest (a.put o.dst (.slice p' (l0.length + m) c')) w') : wpList Try.prog ops Q (o :: rest) a w := by
  obtain ⟨i0, hi, hz0, hz1, hz2⟩ := info_parts Try.info3
  by_cases hl : l = []
  · have hm : m = 0 := by rw [hin.1, hl]; rfl
    subst hm hl
    refine wpList_append_empty hgd s x 71 ho base 3 i0 1 Try.underlying71 hi v l0.length (l0.map (Value.int .i64)) hs hown p c hx ?_
    obtain ⟨a', c', e⟩ := hown.shape
    subst e
    exact h a' c' w (by simpa using hown) (grownBy_refl _ _)
  · rcases hin.2.2.2 with h0 | ⟨b, off, e, hb, hc⟩
    · exact absurd h0 hl
    · subst e
      refine wpList_append_own w hgd s x 71 ho base 3 i0 _ 1 8 Try.underlying71 hi hz0 hz1 hz2 rfl (by decide) v l0.length (l0.map (Value.int .i64)) hs hown ⟨b, off, none⟩ m c (l.map (Value.int .i64)) hx (by rw [List.length_map, hin.1]; omega) (ints_one hin b off rfl hl) (fun u hu => by obtain ⟨y, -, rfl⟩ := List.mem_map.1 hu; rfl) (by unfold maxLen; omega) (by omega) hbase ?_
      intro v' w' h5 h6 _
      have hO : OwnI w' base v' (l0 ++ l) := by
        unfold OwnI
        rw [List.length_append, List.map_append, ← hin.1]
        exact h5
      obtain ⟨a', c', e⟩ := hO.shape
      rw [List.length_append, ← hin.1] at e
      subst e
      exact h a' c' w' hO h6
theorem ints_take {w : World} {p : Option Addr} {m c : Nat} {l : List Int} (h : Ints w p m c l) (k : Nat) (hk : k ≤ m) : Ints w p k c (l.take k) := by
  obtain ⟨h1, h2, h3, h4⟩ := h
  refine ⟨by rw [List.length_take]; omega, by omega, h3, ?_⟩
  rcases h4 with rfl | ⟨b, off, e, hb, h5⟩
  · exact .inl (by simp)
  · refine .inr ⟨b, off, e, hb, fun i hi => ?_⟩
    have hik : i < k := Nat.lt_of_lt_of_le hi (by rw [List.length_take]; omega)
    have hil : i < l.length := by omega
    have e1 : (l.take k).getD i 0 = l.getD i 0 := by simp only [List.getD, List.getElem?_take, if_pos hik]
    rw [e1]
    exact h5 i hil
theorem ownI_empty (u : World) : OwnI (u.alloc (.cells #[] 3)) u.heap.size (.slice (some ⟨u.heap.size, 0, none⟩) 0 0) [] := World.ownsRow_lit u #[] 0 (by omega) (by unfold maxLen; omega) rfl
theorem ints_single (x : World) : Ints (x.alloc (.cells #[.int .i64 0] 3)) (some ⟨x.heap.size, 0, none⟩) 1 1 [0] := ⟨rfl, Nat.le_refl _, by unfold maxLen; omega, .inr ⟨x.heap.size, 0, rfl, by simp, fun i hi => by have e : i = 0 := (by simp at hi; omega); subst e; simp⟩⟩
theorem ints_zero (w : World) (b : Nat) : Ints w (some ⟨b, 0, none⟩) 0 0 [] := ⟨rfl, Nat.le_refl _, by unfold maxLen; omega, .inl rfl⟩
end Go.Proofs.Ythjipnocemioaaa
namespace Go.Proofs.Ythjipnocemioaaa
open Go.RowKit

theorem nnOwn_empty (u : World) : NnOwn (u.alloc (.cells #[] 71)) u.heap.size (u.heap.size + 1) (.slice (some ⟨u.heap.size, 0, none⟩) 0 0) [] [] :=
  ⟨World.ownsRow_lit u #[] 0 (by omega) (by unfold maxLen; omega) rfl, fun g hg => by simp [Value.ownBlock] at hg; omega, NsOwn.nil _ _ _⟩
theorem NnOwn.grow {w : World} {B B' E E' : Nat} {v : Value} {vs : List Value} {nss : List (List Int)} (h : NnOwn w B E v vs nss) (hB : B' ≤ B) (hE : E ≤ E') : NnOwn w B' E' v vs nss := by
  obtain ⟨a1, a2, h0, lo, hi, h1, h2⟩ := h
  exact ⟨own_less a1 hB, fun g hg => Nat.lt_of_lt_of_le (a2 g hg) hE, h0, lo, hi, fun k hk => ⟨by have := (h1 k hk).1; omega, by have := (h1 k hk).2.1; omega, (h1 k hk).2.2⟩, h2⟩
set_option maxRecDepth 100000 in
set_option maxHeartbeats 16000000 in
theorem specDocNums_any {a : Option Addr} {n cap : Nat} {d : List Bl} {w : World} (h : Dc w a n cap d) :
    Calls Try.prog 16 #[.agg #[.slice a n cap]] w fun e w' => (∃ p m q, e = .returned (.slice p m q) ∧ Nn w' p m q (if docB d = true then numsL d d.length else [])) ∧ Below w.heap.size w w' := by
  obtain ⟨i0, hi0, hz0, hz1, hz2⟩ := info_parts Try.info71
  have HN : Hid (n = d.length) := h.1
  have hc := h.2.1
  have hm := h.2.2.1
  unfold maxLen at hm
  have H : Hid (Dc w a n cap d) := h
  clear h
  obtain ⟨x, HX⟩ : ∃ x, Hid (docB d = x) := ⟨_, rfl⟩
  rw [HX.out]
  go_enter Try.func16, Try.ntmps16
  go_upto_region 1 with fail
  have B0 : Below w.heap.size w (w.alloc (.cells #[.slice a n cap] 29)) := (Below.refl _ _).alloc (Nat.le_refl _) _
  have G0 : RowAt (w.alloc (.cells #[.slice a n cap] 29)) w.heap.size #[.slice a n cap] 29 := rowAt_new _ _ _
  generalize (w.alloc (.cells #[.slice a n cap] 29)) = v0 at B0 G0 ⊢
  go_upto_region 2 with fail
  have N1 : NnOwn (v0.alloc (.cells #[] 71)) v0.heap.size (v0.heap.size + 1) (.slice (some ⟨v0.heap.size, 0, none⟩) 0 0) [] [] := nnOwn_empty v0
  have A1 : Below v0.heap.size v0 (v0.alloc (.cells #[] 71)) := (Below.refl _ _).alloc (Nat.le_refl _) _
  have sz1 : v0.heap.size + 1 ≤ (v0.alloc (.cells #[] 71)).heap.size := by simp
  have G1 : RowAt (v0.alloc (.cells #[] 71)) w.heap.size #[.slice a n cap] 29 := G0.alloc _
  have B1 : Below w.heap.size w (v0.alloc (.cells #[] 71)) := B0.alloc B0.size _
  have s0 := B0.size
  have z0 := G0.lt
  generalize (v0.alloc (.cells #[] 71)) = v1 at N1 A1 sz1 G1 B1 ⊢
  have k1 : v1.cell? ⟨w.heap.size, 0, none⟩ = some (.slice a n cap) := G1.cell 0
  have HD1 : Hid (Dc v1 a n cap d) := H.out.below B1
  have HN1 : Hid (NnOwn v1 v0.heap.size (v0.heap.size + 1) (.slice (some ⟨v0.heap.size, 0, none⟩) 0 0) [] []) := N1
  have HG1 : Hid (RowAt v1 w.heap.size #[.slice a n cap] 29) := G1
  have HB1 : Hid (Below w.heap.size w v1) := B1
  have s1 := B1.size
  clear N1 A1 G1 B1 B0 G0
  go_wp2_with fail
  refine (specDocOk_is HX.out HD1.out).mono ?_
  rintro e w1 ⟨rfl, hb1⟩
  have t1 := hb1.size
  have HN2 : Hid (NnOwn w1 v0.heap.size (v0.heap.size + 1) (.slice (some ⟨v0.heap.size, 0, none⟩) 0 0) [] []) := HN1.out.below sz1 hb1
  have HG2 : Hid (RowAt w1 w.heap.size #[.slice a n cap] 29) := HG1.out.below hb1 (by omega)
  have HB2 : Hid (Below w.heap.size w w1) := HB1.out.trans (hb1.mono s1)
  clear k1 hb1 HN1 HG1 HB1 HD1
  cases x
  · go_wp2_with fail
    go_ret
    exact ⟨⟨_, _, _, rfl, HN2.out.nn⟩, HB2.out⟩
  obtain ⟨hn8', hall, hou⟩ := (doc_parts2 d).1 HX.out
  have hn8 : n ≤ 8 := by rw [HN.out]; exact hn8'
  have HOK : Hid (∀ k, k < d.length → partOkB (d.getD k bl0) = true ∧ lvN (d.getD k bl0) ≤ aheadN d k + 1) := ((outl_iff d).1 hou).2
  have HAH : Hid (∀ k, k ≤ d.length → -1 ≤ aheadN d k ∧ aheadN d k ≤ 3) := fun k hk => by
    rcases k with _ | j
    · show (-1 : Int) ≤ -1 ∧ (-1 : Int) ≤ 3
      omega
    · have := lv_small (outlB_part hou (show j < d.length by omega))
      unfold aheadN
      rw [if_neg (by omega), Nat.add_sub_cancel]
      exact this
  clear hall hou hn8'
  go_upto_region 5 with fail
  have I3 : OwnI (w1.alloc (.cells #[] 3)) w1.heap.size (.slice (some ⟨w1.heap.size, 0, none⟩) 0 0) [] := ownI_empty w1
  have A3 : Below w1.heap.size w1 (w1.alloc (.cells #[] 3)) := (Below.refl _ _).alloc (Nat.le_refl _) _
  generalize (w1.alloc (.cells #[] 3)) = w3 at I3 A3 ⊢
  have s3 := A3.size
  have HI3 : Hid (OwnI w3 w1.heap.size (.slice (some ⟨w1.heap.size, 0, none⟩) 0 0) []) := I3
  have HN3 : Hid (NnOwn w3 v0.heap.size (v0.heap.size + 1) (.slice (some ⟨v0.heap.size, 0, none⟩) 0 0) [] []) := HN2.out.below (by omega) A3
  have HG3 : Hid (RowAt w3 w.heap.size #[.slice a n cap] 29) := HG2.out.below A3 (by omega)
  have HB3 : Hid (Below w.heap.size w w3) := HB2.out.trans (A3.mono (by omega))
  clear I3 A3 HN2 HG2
  go_wp2_with fail
  go_loopw [3, 4, 5, 6] (fun ov nv iv bv wr => ∃ (i : Nat) (oa : Option Addr) (oc : Nat) (vs : List Value) (na : Option Addr) (nm nc : Nat), i ≤ n ∧ iv = .int .i64 i ∧ ov = .slice oa i oc ∧ nv = .slice na nm nc ∧ RowAt wr w.heap.size #[.slice a n cap] 29 ∧ NnOwn wr v0.heap.size wr.heap.size (.slice oa i oc) vs (numsL d i) ∧ OwnI wr v0.heap.size (.slice na nm nc) (nowD d i) ∧ v1.heap.size ≤ wr.heap.size ∧ Below w.heap.size w wr) (fun _ _ iv _ _ => n - (intOf iv).toNat)
  case atStart => exact ⟨0, _, _, [], _, _, _, Nat.zero_le _, rfl, rfl, rfl, HG3.out, HN3.out.grow (Nat.le_refl _) (by omega), by rw [nowD_zero]; exact own_less HI3.out (by omega), by omega, HB3.out⟩
  case round =>
    obtain ⟨i, oa, oc, vs, na, nm, nc, hi, rfl, rfl, rfl, hG, hO, hI, hs, hB⟩ := hrel
    have k0 : wr.cell? ⟨w.heap.size, 0, none⟩ = some (.slice a n cap) := hG.cell 0
    have HG : Hid (RowAt wr w.heap.size #[.slice a n cap] 29) := hG
    have HO : Hid (NnOwn wr v0.heap.size wr.heap.size (.slice oa i oc) vs (numsL d i)) := hO
    have HI : Hid (OwnI wr v0.heap.size (.slice na nm nc) (nowD d i)) := hI
    have HB : Hid (Below w.heap.size w wr) := hB
    have hoc1 := hO.nn.2.1
    have hoc2 := hO.nn.2.2.1
    have hnc1 := hI.ints.2.1
    have hnc2 := hI.ints.2.2.1
    unfold maxLen at hoc2 hnc2
    have HVL : Hid (vs.length = i) := by
      have hl := hO.2.2.1
      have hl2 : (numsL d i).length = i := by simp [numsL]
      show vs.length = i
      omega
    have HNM : Hid (nm = (nowD d i).length) := hI.ints.1
    clear hG hO hI
    by_cases hlt : i < n
    · have hid : i < d.length := by have := HN.out; omega
      have hib : (i : Int) < (n : Int) := by omega
      have hii : (0 : Int) ≤ (i : Int) := by omega
      obtain ⟨ah0, ah3⟩ := HAH.out i (by omega)
      obtain ⟨hpo, hlv⟩ := HOK.out i hid
      have hnl := nowD_len (d := d) (i := i) ⟨ah0, ah3⟩
      rcases H.out.2.2.2 with e | ⟨b, off, rfl, hbw, hcl⟩
      · rw [e] at hid
        exact absurd hid (by simp)
      obtain ⟨ta, tn, tc, ca, cn, cc, hblk⟩ := (hcl i hid).below hB hbw
      have HNK : Hid (numsL d (i + 1) = numsL d i ++ [numK d i]) := by
        show numsL d (i + 1) = _
        unfold numsL
        rw [List.range_succ, List.map_append]
        rfl
      obtain ⟨⟨K, V, t, R, C, l⟩, hx⟩ : ∃ x, x = d.getD i bl0 := ⟨_, rfl⟩
      rw [← hx] at hblk hpo hlv
      have HXD : Hid ((K, V, t, R, C, l) = d.getD i bl0) := hx
      obtain ⟨c0, c1, c2, c3, c4, c5, -, -⟩ := hblk
      simp only at c0 c1 c3 c4
      clear hcl hx hB
      go_upto_region 9 with fail
      have bA : Below wr.heap.size wr (wr.alloc (.cells #[.int .i64 K, .int .i64 V, .slice ta tn tc, .int .i64 R, .int .i64 C, .slice ca cn cc] 49)) := (Below.refl _ _).alloc (Nat.le_refl _) _
      have gA : RowAt (wr.alloc (.cells #[.int .i64 K, .int .i64 V, .slice ta tn tc, .int .i64 R, .int .i64 C, .slice ca cn cc] 49)) wr.heap.size #[.int .i64 K, .int .i64 V, .slice ta tn tc, .int .i64 R, .int .i64 C, .slice ca cn cc] 49 := rowAt_new _ _ _
      clear c0 c1 c2 c3 c4 c5 k0
      generalize (wr.alloc (.cells #[.int .i64 K, .int .i64 V, .slice ta tn tc, .int .i64 R, .int .i64 C, .slice ca cn cc] 49)) = u0 at bA gA ⊢
      have sA := bA.size
      have zA := gA.lt
      have HA0 : Hid (RowAt u0 wr.heap.size #[.int .i64 K, .int .i64 V, .slice ta tn tc, .int .i64 R, .int .i64 C, .slice ca cn cc] 49) := gA
      have HG0 : Hid (RowAt u0 w.heap.size #[.slice (some ⟨b, off, none⟩) n cap] 29) := HG.out.below bA (by omega)
      have HO0 : Hid (NnOwn u0 v0.heap.size wr.heap.size (.slice oa i oc) vs (numsL d i)) := HO.out.below (Nat.le_refl _) bA
      have HI0 : Hid (OwnI u0 v0.heap.size (.slice na nm nc) (nowD d i)) := HI.out.below bA
      have HB0 : Hid (Below w.heap.size w u0) := HB.out.trans (bA.mono (by omega))
      have q0 : u0.cell? ⟨wr.heap.size, 0, none⟩ = some (.int .i64 K) := gA.cell 0
      have q1 : u0.cell? ⟨wr.heap.size, 1, none⟩ = some (.int .i64 V) := gA.cell 1
      clear bA gA HG HO HI HB
      by_cases hk2 : K = 2
      · subst hk2
        have hV : 0 ≤ V ∧ V ≤ 3 := by
          unfold partOkB at hpo
          simp only at hpo
          rw [if_neg (by decide), if_pos trivial, Bool.and_eq_true, decide_eq_true_eq] at hpo
          exact hpo.1
        obtain ⟨v, rfl⟩ : ∃ v : Nat, V = v := ⟨V.toNat, by omega⟩
        have hv3 : v ≤ 3 := by omega
        have hvl : (v : Int) ≤ aheadN d i + 1 := by
          have := hlv
          unfold lvN at this
          simpa using this
        have hnm4 : (nm : Int) = aheadN d i + 1 := by rw [HNM.out]; exact hnl
        have hvn : v ≤ nm := by omega
        obtain ⟨N2, HN2⟩ : ∃ N, Hid ((cnL (cnD d i)).take (v + 1) = N) := ⟨_, rfl⟩
        obtain ⟨X, HXX⟩ : ∃ X, Hid ((cnL (cnD d i)).getD v 0 = X) := ⟨_, rfl⟩
        have hXb : 0 ≤ X ∧ X ≤ 100 := by
          have := cnD_ok d i
          unfold CnOk at this
          rw [← HXX.out]
          rcases (show v = 0 ∨ v = 1 ∨ v = 2 ∨ v = 3 by omega) with rfl | rfl | rfl | rfl <;> simp [cnL] <;> omega
        have HNU : Hid (numK d i = (cnL (withC (cnD d i) v)).take (v + 1)) := by
          show numK d i = _
          unfold numK
          have hl : lvN (d.getD i bl0) = v := by rw [← HXD.out]; unfold lvN; simp
          rw [hl]
          show (cnL (withC (cnD d i) (lvN (d.getD i bl0)))).take _ = _
          rw [hl, show ((v : Int) + 1).toNat = v + 1 by omega]
        have HN2S : Hid (N2.set v (X + 1) = numK d i) := by
          show N2.set v (X + 1) = numK d i
          rw [HNU.out, ← HN2.out, ← HXX.out]
          exact numK_of hv3
        have HN2L : Hid (N2.length = v + 1) := by
          show N2.length = v + 1
          rw [← HN2.out, List.length_take]
          simp [cnL]
          omega
        have HNKL : Hid (v + 1 = (numK d i).length) := by
          show v + 1 = _
          rw [← HN2S.out, List.length_set]
          exact HN2L.out.symm
        have HN2X : Hid (N2[v]? = some X) := by
          show N2[v]? = some X
          rw [← HN2.out, List.getElem?_take, if_pos (by omega), ← HXX.out]
          have : v < (cnL (cnD d i)).length := by simp [cnL]; omega
          rw [List.getElem?_eq_getElem this]
          simp [List.getD, this]
        have HNW : Hid (nowD d i = (cnL (cnD d i)).take nm) := by
          show nowD d i = _
          unfold nowD
          rw [← hnm4]
          rfl
        clear hV hlv hpo
        rcases (show v + 1 < nm ∨ nm = v + 1 ∨ nm = v by omega) with hc1 | hc1 | hc1
        · have z1 : (v : Int) + 1 < (nm : Int) := by omega
          obtain ⟨gn, rfl⟩ : ∃ g, na = some ⟨g, 0, none⟩ := by
            rcases HI0.out.row.2 with ⟨hv, hz⟩ | ⟨g', cap', cur, hv, -⟩
            · omega
            · simp only [Value.slice.injEq] at hv
              exact ⟨g', hv.1⟩
          have HEa : Hid (OwnI (u0.alloc (.cells #[] 3)) u0.heap.size (.slice (some ⟨u0.heap.size, 0, none⟩) 0 0) []) := ownI_empty u0
          have HIa : Hid (Ints (u0.alloc (.cells #[] 3)) (some ⟨gn, 0, none⟩) (v + 1) nc N2) := by
            have h1 := ints_take (HI0.out.ints.below ((Below.refl _ _).alloc (Nat.le_refl _) (.cells #[] 3))) (v + 1) (by omega)
            rw [HNW.out, List.take_take, show min (v + 1) nm = v + 1 by omega, HN2.out] at h1
            exact h1
          go_upto_region 14 with (at_builtin; refine wpList_append_ints rfl (.tmp 39) (.tmp 44) rfl u0.heap.size (.slice (some ⟨u0.heap.size, 0, none⟩) 0 0) [] rfl HEa.out (some ⟨gn, 0, none⟩) (v + 1) nc N2 rfl HIa.out (by simp; omega) (by simp) ?_; intro p1 c1 y0 ho1 hg1; rw [List.nil_append] at ho1; have ez : ([] : List Int).length + (v + 1) = v + 1 := (by simp); rw [ez] at ho1 ⊢)
          have hB1 : Below u0.heap.size u0 y0 := ((Below.refl _ _).alloc (Nat.le_refl _) _).grown hg1 (by simp) (fun k hk => by simp [Value.ownBlock] at hk; omega)
          have ry := hB1.size
          have HIy : Hid (OwnI y0 v0.heap.size (.slice p1 (v + 1) c1) N2) := own_less ho1 (by omega)
          have HAy : Hid (RowAt y0 wr.heap.size #[.int .i64 2, .int .i64 v, .slice ta tn tc, .int .i64 R, .int .i64 C, .slice ca cn cc] 49) := HA0.out.below hB1 zA
          have HGy : Hid (RowAt y0 w.heap.size #[.slice (some ⟨b, off, none⟩) n cap] 29) := HG0.out.below hB1 (by omega)
          have HOy : Hid (NnOwn y0 v0.heap.size wr.heap.size (.slice oa i oc) vs (numsL d i)) := HO0.out.below (by omega) hB1
          have HBy : Hid (Below w.heap.size w y0) := HB0.out.trans (hB1.mono (by omega))
          have sy : wr.heap.size < y0.heap.size := by omega
          clear ho1 hg1 hB1 HEa HIa HI0 HA0 HG0 HO0 HB0 q0 q1 hnm4 hnl hvl
          have q1 : y0.cell? ⟨wr.heap.size, 1, none⟩ = some (.int .i64 v) := HAy.out.cell 1
          have z2' : ¬ ((v + 1 : Nat) : Int) ≤ (v : Int) := by omega
          go_upto_region 16 with fail
          clear q1
          have zv9 : ¬ (v : Int) + 1 ≤ (v : Int) := by omega
          have HE1 : Hid (OwnI (y0.alloc (.cells #[] 3)) y0.heap.size (.slice (some ⟨y0.heap.size, 0, none⟩) 0 0) []) := ownI_empty y0
          have HIn1 : Hid (Ints (y0.alloc (.cells #[] 3)) p1 (v + 1) c1 N2) := HIy.out.ints.below ((Below.refl _ _).alloc (Nat.le_refl _) _)
          go_upto_region 17 with (at_builtin; refine wpList_append_ints rfl (.tmp 56) (.tmp 57) rfl y0.heap.size (.slice (some ⟨y0.heap.size, 0, none⟩) 0 0) [] rfl HE1.out p1 (v + 1) c1 N2 rfl HIn1.out (by simp; omega) (by simp) ?_; intro p2 c2 y2 ho2 hg2; rw [List.nil_append] at ho2; have ez : ([] : List Int).length + (v + 1) = v + 1 := (by simp); rw [ez] at ho2 ⊢)
          have B2 : Below y0.heap.size y0 y2 := ((Below.refl _ _).alloc (Nat.le_refl _) _).grown hg2 (by simp) (fun k hk => by simp [Value.ownBlock] at hk; omega)
          have r2 := B2.size
          have HA2 : Hid (RowAt y2 wr.heap.size #[.int .i64 2, .int .i64 v, .slice ta tn tc, .int .i64 R, .int .i64 C, .slice ca cn cc] 49) := HAy.out.below B2 sy
          have HG2' : Hid (RowAt y2 w.heap.size #[.slice (some ⟨b, off, none⟩) n cap] 29) := HGy.out.below B2 (by omega)
          have HO2' : Hid (NnOwn y2 v0.heap.size wr.heap.size (.slice oa i oc) vs (numsL d i)) := HOy.out.below (by omega) B2
          have HB2' : Hid (Below w.heap.size w y2) := HBy.out.trans (B2.mono (by omega))
          obtain ⟨g2, rfl⟩ : ∃ g, p2 = some ⟨g, 0, none⟩ := by
            rcases ho2.row.2 with ⟨hv, hz⟩ | ⟨g', cap', cur, hv, -⟩
            · omega
            · simp only [Value.slice.injEq] at hv
              exact ⟨g', hv.1⟩
          have gl2 := own_lt ho2.row rfl
          have hx2 := ho2.ints.2.1
          have hx3 := ho2.ints.2.2.1
          unfold maxLen at hx3
          have cx : y2.cell? ⟨g2, v, none⟩ = some (.int .i64 X) := by
            rw [ho2.row.cellAt v (by omega), List.getElem?_map, HN2X.out]
            rfl
          have fx := ho2.row.frozenAt v
          have OS : OwnI (y2.setCell ⟨g2, v, none⟩ (.int .i64 (X + 1))) y0.heap.size (.slice (some ⟨g2, 0, none⟩) (v + 1) c2) (numK d i) := by
            have h1 := (ho2.row.stored v (.int .i64 (X + 1))).1
            rw [← List.map_set, HN2S.out] at h1
            unfold OwnI
            rw [← HNKL.out]
            exact h1
          have HCX : Hid (y2.cell? ⟨g2, v, none⟩ = some (.int .i64 X)) := cx
          have HFX : Hid (y2.frozen? ⟨g2, v, none⟩ = false) := fx
          have HOS : Hid (OwnI (y2.setCell ⟨g2, v, none⟩ (.int .i64 (X + 1))) y0.heap.size (.slice (some ⟨g2, 0, none⟩) (v + 1) c2) (numK d i)) := OS
          have gl2a : y0.heap.size ≤ g2 := gl2.1
          have gl2b : g2 < y2.heap.size := gl2.2
          clear ho2 hg2 B2 cx fx OS HE1 HIn1 HIy HAy HGy HOy HBy gl2 ez
          refine wp_region_noPanic ?_
          refine wp_region_held_drew (S := fun w' => RowAt w' wr.heap.size #[.int .i64 2, .int .i64 v, .slice ta tn tc, .int .i64 R, .int .i64 C, .slice ca cn cc] 49) (by kernel_rfl) HA2.out.drew (fun hHeld => ?_)
          have HCd : Hid (y2.drew.cell? ⟨g2, v, none⟩ = some (.int .i64 X)) := HCX.out
          have HFd : Hid (y2.drew.frozen? ⟨g2, v, none⟩ = false) := HFX.out
          have HSd : Hid (OwnI (y2.drew.setCell ⟨g2, v, none⟩ (.int .i64 (X + 1))) y0.heap.size (.slice (some ⟨g2, 0, none⟩) (v + 1) c2) (numK d i)) := HOS.out
          have HGd : Hid (RowAt y2.drew w.heap.size #[.slice (some ⟨b, off, none⟩) n cap] 29) := HG2'.out.drew
          have HOd : Hid (NnOwn y2.drew v0.heap.size wr.heap.size (.slice oa i oc) vs (numsL d i)) := HO2'.out.below (by omega) (Below.refl _ _).drew
          have HBd : Hid (Below w.heap.size w y2.drew) := HB2'.out.drew
          have rd : y0.heap.size ≤ y2.drew.heap.size := r2
          have gd : g2 < y2.drew.heap.size := gl2b
          generalize y2.drew = z2 at hHeld HCd HFd HSd HGd HOd HBd rd gd ⊢
          clear HCX HFX HOS HG2' HO2' HB2' HA2
          refine take_at 0 59 (.slice (some ⟨g2, 0, none⟩) (v + 1) c2) rfl rfl (by kernel_rfl) (by kernel_rfl) (by kernel_rfl) (fun _ _ _ h => h) (Or.inl ⟨by kernel_rfl, fun w' hS' => by go_simp⟩) hHeld ?_
          (try simp only [Act.put, List.setIfInBounds_toArray, List.set_cons_zero, List.set_cons_succ])
          refine take_at 1 60 (.pointer (some ⟨wr.heap.size, 1, none⟩)) rfl rfl (by kernel_rfl) (by kernel_rfl) (by kernel_rfl) (fun _ _ _ h => h) (Or.inl ⟨by kernel_rfl, fun w' hS' => by go_simp⟩) hHeld ?_
          (try simp only [Act.put, List.setIfInBounds_toArray, List.set_cons_zero, List.set_cons_succ])
          refine take_at 2 61 (.int .i64 v) rfl rfl (by kernel_rfl) (by kernel_rfl) (by kernel_rfl) (fun _ _ _ h => h) (Or.inl ⟨by kernel_rfl, fun w' hS' => by have hc := RowAt.cell hS' 1; go_simp⟩) hHeld ?_
          (try simp only [Act.put, List.setIfInBounds_toArray, List.set_cons_zero, List.set_cons_succ])
          refine take_at 3 62 (.slice (some ⟨g2, 0, none⟩) (v + 1) c2) rfl rfl (by kernel_rfl) (by kernel_rfl) (by kernel_rfl) (fun _ _ _ h => h) (Or.inl ⟨by kernel_rfl, fun w' hS' => by go_simp⟩) hHeld ?_
          (try simp only [Act.put, List.setIfInBounds_toArray, List.set_cons_zero, List.set_cons_succ])
          refine take_at 4 63 (.pointer (some ⟨wr.heap.size, 1, none⟩)) rfl rfl (by kernel_rfl) (by kernel_rfl) (by kernel_rfl) (fun _ _ _ h => h) (Or.inl ⟨by kernel_rfl, fun w' hS' => by go_simp⟩) hHeld ?_
          (try simp only [Act.put, List.setIfInBounds_toArray, List.set_cons_zero, List.set_cons_succ])
          refine take_at 5 64 (.int .i64 v) rfl rfl (by kernel_rfl) (by kernel_rfl) (by kernel_rfl) (fun _ _ _ h => h) (Or.inl ⟨by kernel_rfl, fun w' hS' => by have hc := RowAt.cell hS' 1; go_simp⟩) hHeld ?_
          (try simp only [Act.put, List.setIfInBounds_toArray, List.set_cons_zero, List.set_cons_succ])
          refine take_at 6 65 (.pointer (some ⟨g2, v, none⟩)) rfl rfl (by kernel_rfl) (by kernel_rfl) (by kernel_rfl) (fun _ _ _ h => h) (Or.inl ⟨by kernel_rfl, fun w' hS' => by go_simp⟩) hHeld ?_
          (try simp only [Act.put, List.setIfInBounds_toArray, List.set_cons_zero, List.set_cons_succ])
          refine wpAnyH_ready (rs := [7]) (by kernel_rfl) (by simp) ?_
          refine AllReadyH.cons rfl (fun K hK => ?_) AllReadyH.nil
          have d4 := HCd.out
          go_simp
          refine hK.out _ _ hHeld (fun hHeld => ?_)
          clear hK K d4
          (try simp only [Act.put, List.setIfInBounds_toArray, List.set_cons_zero, List.set_cons_succ])
          refine take_at 8 67 (.int .i64 (X + 1)) rfl rfl (by kernel_rfl) (by kernel_rfl) (by kernel_rfl) (fun _ _ _ h => h) (Or.inl ⟨by kernel_rfl, fun w' hS' => by go_simp; rw [IntKind.wrap_i64]; omega⟩) hHeld ?_
          (try simp only [Act.put, List.setIfInBounds_toArray, List.set_cons_zero, List.set_cons_succ])
          refine take_at 9 68 (.pointer (some ⟨g2, v, none⟩)) rfl rfl (by kernel_rfl) (by kernel_rfl) (by kernel_rfl) (fun _ _ _ h => h) (Or.inl ⟨by kernel_rfl, fun w' hS' => by go_simp⟩) hHeld ?_
          (try simp only [Act.put, List.setIfInBounds_toArray, List.set_cons_zero, List.set_cons_succ])
          refine wpAnyH_ready (rs := [10]) (by kernel_rfl) (by simp) ?_
          refine AllReadyH.cons rfl (fun K hK => ?_) AllReadyH.nil
          have d4 := HCd.out
          have f4 := HFd.out
          rw [if_pos (by kernel_rfl)]
          go_simp
          refine hK.out _ _ (RowAt.other hHeld _ _ (by simp; omega)) (fun hHeld => ?_)
          clear hK K d4 f4
          (try simp only [Act.put])
          refine wpAnyH_done (by kernel_rfl) ?_ _
          refine NoPanic.normal ?_
          clear hHeld
          have HG3' : Hid (RowAt (z2.setCell ⟨g2, v, none⟩ (.int .i64 (X + 1))) w.heap.size #[.slice (some ⟨b, off, none⟩) n cap] 29) := HGd.out.other _ _ (by simp; omega)
          have HO3' : Hid (NnOwn (z2.setCell ⟨g2, v, none⟩ (.int .i64 (X + 1))) v0.heap.size wr.heap.size (.slice oa i oc) vs (numsL d i)) := ⟨own_set HOd.out.1 ⟨g2, v, none⟩ _ (fun e => by have := HOd.out.2.1 _ e; simp at this; omega), HOd.out.2.1, HOd.out.2.2.kept (fun b cs ty hb hb' _ hr => hr.other _ _ (by simp; omega))⟩
          have HB3' : Hid (Below w.heap.size w (z2.setCell ⟨g2, v, none⟩ (.int .i64 (X + 1)))) := HBd.out.setCell (by show _ ≤ g2; omega) _
          have r3 : y0.heap.size ≤ (z2.setCell ⟨g2, v, none⟩ (.int .i64 (X + 1))).heap.size := by simpa using rd
          clear HCd HFd HGd HOd HBd
          generalize (z2.setCell ⟨g2, v, none⟩ (.int .i64 (X + 1))) = y3 at HSd HG3' HO3' HB3' r3 ⊢
          have HE4 : Hid (OwnI (y3.alloc (.cells #[] 3)) y3.heap.size (.slice (some ⟨y3.heap.size, 0, none⟩) 0 0) []) := ownI_empty y3
          have HIn4 : Hid (Ints (y3.alloc (.cells #[] 3)) (some ⟨g2, 0, none⟩) (v + 1) c2 (numK d i)) := HSd.out.ints.below ((Below.refl _ _).alloc (Nat.le_refl _) _)
          go_wp2_with (first | (at_builtin; refine wpList_append_ints rfl (.tmp 70) (.tmp 71) rfl y3.heap.size (.slice (some ⟨y3.heap.size, 0, none⟩) 0 0) [] rfl HE4.out (some ⟨g2, 0, none⟩) (v + 1) c2 (numK d i) rfl HIn4.out (by simp; omega) (by simp) ?_; intro p5 c5 y5 ho5 hg5; rw [List.nil_append] at ho5; have ez : ([] : List Int).length + (v + 1) = v + 1 := (by simp); rw [ez] at ho5 ⊢; have HB5 : Hid (Below y3.heap.size y3 y5) := (((Below.refl _ _).alloc (Nat.le_refl _) _).grown hg5 (by simp) (fun k hk => by simp [Value.ownBlock] at hk; omega)); have HX5 : Hid (OwnI y5 y3.heap.size (.slice p5 (v + 1) c5) (numK d i)) := ho5; have r5 := HB5.out.size; have HA6 : Hid (Below y5.heap.size y5 (y5.alloc (.cells #[(.slice p5 (v + 1) c5)] 71))) := ((Below.refl _ _).alloc (Nat.le_refl _) _); have HO6 : Hid (NnOwn (y5.alloc (.cells #[(.slice p5 (v + 1) c5)] 71)) v0.heap.size wr.heap.size (.slice oa i oc) vs (numsL d i)) := ((HO3'.out.below (by omega) HB5.out).below (by omega) HA6.out); have HRW : Hid ((y5.alloc (.cells #[(.slice p5 (v + 1) c5)] 71)).ownsRow v0.heap.size 71 1 (.slice oa i oc) i vs) := (HVL.out ▸ HO6.out.1); have HC6 : Hid (∀ j u, [(.slice p5 (v + 1) c5)][j]? = some u → (y5.alloc (.cells #[(.slice p5 (v + 1) c5)] 71)).cell? ((⟨y5.heap.size, 0, none⟩ : Addr).add j) = some u) := (cell_new1p _ _ _); clear ho5 hg5 ez) | (at_builtin; refine wpList_append_own _ rfl (.tmp 69) (.tmp 73) 34 rfl v0.heap.size 71 i0 _ 1 24 Try.underlying34 hi0 hz0 hz1 hz2 rfl (by decide) (.slice oa i oc) i vs rfl HRW.out ⟨y5.heap.size, 0, none⟩ 1 1 [(.slice p5 (v + 1) c5)] rfl rfl HC6.out (by intro u hu; simp at hu; subst hu; rfl) (by unfold maxLen; omega) (by omega) (by simp; omega) ?_; intro v' u7 hown hgrow _; obtain ⟨oa', oc', rfl⟩ := own_shp hown))
          have s7 := hgrow.size
          simp only [World.size_alloc] at s7
          have hne : ∀ g, (Value.slice oa i oc).ownBlock = some g → v0.heap.size ≤ g := fun g hg => (own_lt HRW.out hg).1
          have hgE : ∀ g, (Value.slice oa i oc).ownBlock = some g → g < wr.heap.size := HO6.out.2.1
          have hlen : i = (numsL d i).length := by simp [numsL]
          have hN7 := nnOwn_snoc (E := wr.heap.size) (E' := y5.heap.size) HO6.out hlen (own_less (HX5.out.below HA6.out) (by omega)) (fun z hz => (own_lt HX5.out hz).2) (by omega) (by omega) (by omega) hown hgrow
          go_roundw
          case rel =>
            refine ⟨i + 1, oa', oc', vs ++ [(.slice p5 (v + 1) c5)], _, _, _, by omega, by go_num, rfl, rfl, ?_, ?_, ?_, by omega, ?_⟩
            · exact ((HG3'.out.below HB5.out (by omega)).below HA6.out (by omega)).grown hgrow (fun e => by have := hne _ e; omega)
            · rw [HNK.out]
              exact hN7
            · rw [nowD_succ]
              exact own_less (own_grown ((HSd.out.below HB5.out).below HA6.out) hgrow (fun z hz e => by have := hgE _ e; have := (own_lt HSd.out hz).1; omega)) (by omega)
            · exact ((HB3'.out.trans (HB5.out.mono (by omega))).trans (HA6.out.mono (by omega))).grown hgrow (by simp; omega) (fun k hk => by have := hne _ hk; omega)
          case measure => simp [intOf]; omega
        · subst hc1
          have z1 : ¬ (v : Int) + 1 < ((v + 1 : Nat) : Int) := by omega
          have z2' : ¬ ((v + 1 : Nat) : Int) ≤ (v : Int) := by omega
          have hI := HI0.out
          rw [HNW.out, HN2.out] at hI
          have HIy : Hid (OwnI u0 v0.heap.size (.slice na (v + 1) nc) N2) := hI
          clear hI HI0
          go_upto_region 16 with fail
          clear q0 q1
          have zv9 : ¬ (v : Int) + 1 ≤ (v : Int) := by omega
          have HE1 : Hid (OwnI (u0.alloc (.cells #[] 3)) u0.heap.size (.slice (some ⟨u0.heap.size, 0, none⟩) 0 0) []) := ownI_empty u0
          have HIn1 : Hid (Ints (u0.alloc (.cells #[] 3)) na (v + 1) nc N2) := HIy.out.ints.below ((Below.refl _ _).alloc (Nat.le_refl _) _)
          go_upto_region 17 with (at_builtin; refine wpList_append_ints rfl (.tmp 56) (.tmp 57) rfl u0.heap.size (.slice (some ⟨u0.heap.size, 0, none⟩) 0 0) [] rfl HE1.out na (v + 1) nc N2 rfl HIn1.out (by simp; omega) (by simp) ?_; intro p2 c2 y2 ho2 hg2; rw [List.nil_append] at ho2; have ez : ([] : List Int).length + (v + 1) = v + 1 := (by simp); rw [ez] at ho2 ⊢)
          have B2 : Below u0.heap.size u0 y2 := ((Below.refl _ _).alloc (Nat.le_refl _) _).grown hg2 (by simp) (fun k hk => by simp [Value.ownBlock] at hk; omega)
          have r2 := B2.size
          have HA2 : Hid (RowAt y2 wr.heap.size #[.int .i64 2, .int .i64 v, .slice ta tn tc, .int .i64 R, .int .i64 C, .slice ca cn cc] 49) := HA0.out.below B2 zA
          have HG2' : Hid (RowAt y2 w.heap.size #[.slice (some ⟨b, off, none⟩) n cap] 29) := HG0.out.below B2 (by omega)
          have HO2' : Hid (NnOwn y2 v0.heap.size wr.heap.size (.slice oa i oc) vs (numsL d i)) := HO0.out.below (by omega) B2
          have HB2' : Hid (Below w.heap.size w y2) := HB0.out.trans (B2.mono (by omega))
          obtain ⟨g2, rfl⟩ : ∃ g, p2 = some ⟨g, 0, none⟩ := by
            rcases ho2.row.2 with ⟨hv, hz⟩ | ⟨g', cap', cur, hv, -⟩
            · omega
            · simp only [Value.slice.injEq] at hv
              exact ⟨g', hv.1⟩
          have gl2 := own_lt ho2.row rfl
          have hx2 := ho2.ints.2.1
          have hx3 := ho2.ints.2.2.1
          unfold maxLen at hx3
          have cx : y2.cell? ⟨g2, v, none⟩ = some (.int .i64 X) := by
            rw [ho2.row.cellAt v (by omega), List.getElem?_map, HN2X.out]
            rfl
          have fx := ho2.row.frozenAt v
          have OS : OwnI (y2.setCell ⟨g2, v, none⟩ (.int .i64 (X + 1))) u0.heap.size (.slice (some ⟨g2, 0, none⟩) (v + 1) c2) (numK d i) := by
            have h1 := (ho2.row.stored v (.int .i64 (X + 1))).1
            rw [← List.map_set, HN2S.out] at h1
            unfold OwnI
            rw [← HNKL.out]
            exact h1
          have HCX : Hid (y2.cell? ⟨g2, v, none⟩ = some (.int .i64 X)) := cx
          have HFX : Hid (y2.frozen? ⟨g2, v, none⟩ = false) := fx
          have HOS : Hid (OwnI (y2.setCell ⟨g2, v, none⟩ (.int .i64 (X + 1))) u0.heap.size (.slice (some ⟨g2, 0, none⟩) (v + 1) c2) (numK d i)) := OS
          have gl2a : u0.heap.size ≤ g2 := gl2.1
          have gl2b : g2 < y2.heap.size := gl2.2
          clear ho2 hg2 B2 cx fx OS HE1 HIn1 HIy HA0 HG0 HO0 HB0 gl2 ez
          refine wp_region_noPanic ?_
          refine wp_region_held_drew (S := fun w' => RowAt w' wr.heap.size #[.int .i64 2, .int .i64 v, .slice ta tn tc, .int .i64 R, .int .i64 C, .slice ca cn cc] 49) (by kernel_rfl) HA2.out.drew (fun hHeld => ?_)
          have HCd : Hid (y2.drew.cell? ⟨g2, v, none⟩ = some (.int .i64 X)) := HCX.out
          have HFd : Hid (y2.drew.frozen? ⟨g2, v, none⟩ = false) := HFX.out
          have HSd : Hid (OwnI (y2.drew.setCell ⟨g2, v, none⟩ (.int .i64 (X + 1))) u0.heap.size (.slice (some ⟨g2, 0, none⟩) (v + 1) c2) (numK d i)) := HOS.out
          have HGd : Hid (RowAt y2.drew w.heap.size #[.slice (some ⟨b, off, none⟩) n cap] 29) := HG2'.out.drew
          have HOd : Hid (NnOwn y2.drew v0.heap.size wr.heap.size (.slice oa i oc) vs (numsL d i)) := HO2'.out.below (by omega) (Below.refl _ _).drew
          have HBd : Hid (Below w.heap.size w y2.drew) := HB2'.out.drew
          have rd : u0.heap.size ≤ y2.drew.heap.size := r2
          have gd : g2 < y2.drew.heap.size := gl2b
          generalize y2.drew = z2 at hHeld HCd HFd HSd HGd HOd HBd rd gd ⊢
          clear HCX HFX HOS HG2' HO2' HB2' HA2
          refine take_at 0 59 (.slice (some ⟨g2, 0, none⟩) (v + 1) c2) rfl rfl (by kernel_rfl) (by kernel_rfl) (by kernel_rfl) (fun _ _ _ h => h) (Or.inl ⟨by kernel_rfl, fun w' hS' => by go_simp⟩) hHeld ?_
          (try simp only [Act.put, List.setIfInBounds_toArray, List.set_cons_zero, List.set_cons_succ])
          refine take_at 1 60 (.pointer (some ⟨wr.heap.size, 1, none⟩)) rfl rfl (by kernel_rfl) (by kernel_rfl) (by kernel_rfl) (fun _ _ _ h => h) (Or.inl ⟨by kernel_rfl, fun w' hS' => by go_simp⟩) hHeld ?_
          (try simp only [Act.put, List.setIfInBounds_toArray, List.set_cons_zero, List.set_cons_succ])
          refine take_at 2 61 (.int .i64 v) rfl rfl (by kernel_rfl) (by kernel_rfl) (by kernel_rfl) (fun _ _ _ h => h) (Or.inl ⟨by kernel_rfl, fun w' hS' => by have hc := RowAt.cell hS' 1; go_simp⟩) hHeld ?_
          (try simp only [Act.put, List.setIfInBounds_toArray, List.set_cons_zero, List.set_cons_succ])
          refine take_at 3 62 (.slice (some ⟨g2, 0, none⟩) (v + 1) c2) rfl rfl (by kernel_rfl) (by kernel_rfl) (by kernel_rfl) (fun _ _ _ h => h) (Or.inl ⟨by kernel_rfl, fun w' hS' => by go_simp⟩) hHeld ?_
          (try simp only [Act.put, List.setIfInBounds_toArray, List.set_cons_zero, List.set_cons_succ])
          refine take_at 4 63 (.pointer (some ⟨wr.heap.size, 1, none⟩)) rfl rfl (by kernel_rfl) (by kernel_rfl) (by kernel_rfl) (fun _ _ _ h => h) (Or.inl ⟨by kernel_rfl, fun w' hS' => by go_simp⟩) hHeld ?_
          (try simp only [Act.put, List.setIfInBounds_toArray, List.set_cons_zero, List.set_cons_succ])
          refine take_at 5 64 (.int .i64 v) rfl rfl (by kernel_rfl) (by kernel_rfl) (by kernel_rfl) (fun _ _ _ h => h) (Or.inl ⟨by kernel_rfl, fun w' hS' => by have hc := RowAt.cell hS' 1; go_simp⟩) hHeld ?_
          (try simp only [Act.put, List.setIfInBounds_toArray, List.set_cons_zero, List.set_cons_succ])
          refine take_at 6 65 (.pointer (some ⟨g2, v, none⟩)) rfl rfl (by kernel_rfl) (by kernel_rfl) (by kernel_rfl) (fun _ _ _ h => h) (Or.inl ⟨by kernel_rfl, fun w' hS' => by go_simp⟩) hHeld ?_
          (try simp only [Act.put, List.setIfInBounds_toArray, List.set_cons_zero, List.set_cons_succ])
          refine wpAnyH_ready (rs := [7]) (by kernel_rfl) (by simp) ?_
          refine AllReadyH.cons rfl (fun K hK => ?_) AllReadyH.nil
          have d4 := HCd.out
          go_simp
          refine hK.out _ _ hHeld (fun hHeld => ?_)
          clear hK K d4
          (try simp only [Act.put, List.setIfInBounds_toArray, List.set_cons_zero, List.set_cons_succ])
          refine take_at 8 67 (.int .i64 (X + 1)) rfl rfl (by kernel_rfl) (by kernel_rfl) (by kernel_rfl) (fun _ _ _ h => h) (Or.inl ⟨by kernel_rfl, fun w' hS' => by go_simp; rw [IntKind.wrap_i64]; omega⟩) hHeld ?_
          (try simp only [Act.put, List.setIfInBounds_toArray, List.set_cons_zero, List.set_cons_succ])
          refine take_at 9 68 (.pointer (some ⟨g2, v, none⟩)) rfl rfl (by kernel_rfl) (by kernel_rfl) (by kernel_rfl) (fun _ _ _ h => h) (Or.inl ⟨by kernel_rfl, fun w' hS' => by go_simp⟩) hHeld ?_
          (try simp only [Act.put, List.setIfInBounds_toArray, List.set_cons_zero, List.set_cons_succ])
          refine wpAnyH_ready (rs := [10]) (by kernel_rfl) (by simp) ?_
          refine AllReadyH.cons rfl (fun K hK => ?_) AllReadyH.nil
          have d4 := HCd.out
          have f4 := HFd.out
          rw [if_pos (by kernel_rfl)]
          go_simp
          refine hK.out _ _ (RowAt.other hHeld _ _ (by simp; omega)) (fun hHeld => ?_)
          clear hK K d4 f4
          (try simp only [Act.put])
          refine wpAnyH_done (by kernel_rfl) ?_ _
          refine NoPanic.normal ?_
          clear hHeld
          have HG3' : Hid (RowAt (z2.setCell ⟨g2, v, none⟩ (.int .i64 (X + 1))) w.heap.size #[.slice (some ⟨b, off, none⟩) n cap] 29) := HGd.out.other _ _ (by simp; omega)
          have HO3' : Hid (NnOwn (z2.setCell ⟨g2, v, none⟩ (.int .i64 (X + 1))) v0.heap.size wr.heap.size (.slice oa i oc) vs (numsL d i)) := ⟨own_set HOd.out.1 ⟨g2, v, none⟩ _ (fun e => by have := HOd.out.2.1 _ e; simp at this; omega), HOd.out.2.1, HOd.out.2.2.kept (fun b cs ty hb hb' _ hr => hr.other _ _ (by simp; omega))⟩
          have HB3' : Hid (Below w.heap.size w (z2.setCell ⟨g2, v, none⟩ (.int .i64 (X + 1)))) := HBd.out.setCell (by show _ ≤ g2; omega) _
          have r3 : u0.heap.size ≤ (z2.setCell ⟨g2, v, none⟩ (.int .i64 (X + 1))).heap.size := by simpa using rd
          clear HCd HFd HGd HOd HBd
          generalize (z2.setCell ⟨g2, v, none⟩ (.int .i64 (X + 1))) = y3 at HSd HG3' HO3' HB3' r3 ⊢
          have HE4 : Hid (OwnI (y3.alloc (.cells #[] 3)) y3.heap.size (.slice (some ⟨y3.heap.size, 0, none⟩) 0 0) []) := ownI_empty y3
          have HIn4 : Hid (Ints (y3.alloc (.cells #[] 3)) (some ⟨g2, 0, none⟩) (v + 1) c2 (numK d i)) := HSd.out.ints.below ((Below.refl _ _).alloc (Nat.le_refl _) _)
          go_wp2_with (first | (at_builtin; refine wpList_append_ints rfl (.tmp 70) (.tmp 71) rfl y3.heap.size (.slice (some ⟨y3.heap.size, 0, none⟩) 0 0) [] rfl HE4.out (some ⟨g2, 0, none⟩) (v + 1) c2 (numK d i) rfl HIn4.out (by simp; omega) (by simp) ?_; intro p5 c5 y5 ho5 hg5; rw [List.nil_append] at ho5; have ez : ([] : List Int).length + (v + 1) = v + 1 := (by simp); rw [ez] at ho5 ⊢; have HB5 : Hid (Below y3.heap.size y3 y5) := (((Below.refl _ _).alloc (Nat.le_refl _) _).grown hg5 (by simp) (fun k hk => by simp [Value.ownBlock] at hk; omega)); have HX5 : Hid (OwnI y5 y3.heap.size (.slice p5 (v + 1) c5) (numK d i)) := ho5; have r5 := HB5.out.size; have HA6 : Hid (Below y5.heap.size y5 (y5.alloc (.cells #[(.slice p5 (v + 1) c5)] 71))) := ((Below.refl _ _).alloc (Nat.le_refl _) _); have HO6 : Hid (NnOwn (y5.alloc (.cells #[(.slice p5 (v + 1) c5)] 71)) v0.heap.size wr.heap.size (.slice oa i oc) vs (numsL d i)) := ((HO3'.out.below (by omega) HB5.out).below (by omega) HA6.out); have HRW : Hid ((y5.alloc (.cells #[(.slice p5 (v + 1) c5)] 71)).ownsRow v0.heap.size 71 1 (.slice oa i oc) i vs) := (HVL.out ▸ HO6.out.1); have HC6 : Hid (∀ j u, [(.slice p5 (v + 1) c5)][j]? = some u → (y5.alloc (.cells #[(.slice p5 (v + 1) c5)] 71)).cell? ((⟨y5.heap.size, 0, none⟩ : Addr).add j) = some u) := (cell_new1p _ _ _); clear ho5 hg5 ez) | (at_builtin; refine wpList_append_own _ rfl (.tmp 69) (.tmp 73) 34 rfl v0.heap.size 71 i0 _ 1 24 Try.underlying34 hi0 hz0 hz1 hz2 rfl (by decide) (.slice oa i oc) i vs rfl HRW.out ⟨y5.heap.size, 0, none⟩ 1 1 [(.slice p5 (v + 1) c5)] rfl rfl HC6.out (by intro u hu; simp at hu; subst hu; rfl) (by unfold maxLen; omega) (by omega) (by simp; omega) ?_; intro v' u7 hown hgrow _; obtain ⟨oa', oc', rfl⟩ := own_shp hown))
          have s7 := hgrow.size
          simp only [World.size_alloc] at s7
          have hne : ∀ g, (Value.slice oa i oc).ownBlock = some g → v0.heap.size ≤ g := fun g hg => (own_lt HRW.out hg).1
          have hgE : ∀ g, (Value.slice oa i oc).ownBlock = some g → g < wr.heap.size := HO6.out.2.1
          have hlen : i = (numsL d i).length := by simp [numsL]
          have hN7 := nnOwn_snoc (E := wr.heap.size) (E' := y5.heap.size) HO6.out hlen (own_less (HX5.out.below HA6.out) (by omega)) (fun z hz => (own_lt HX5.out hz).2) (by omega) (by omega) (by omega) hown hgrow
          go_roundw
          case rel =>
            refine ⟨i + 1, oa', oc', vs ++ [(.slice p5 (v + 1) c5)], _, _, _, by omega, by go_num, rfl, rfl, ?_, ?_, ?_, by omega, ?_⟩
            · exact ((HG3'.out.below HB5.out (by omega)).below HA6.out (by omega)).grown hgrow (fun e => by have := hne _ e; omega)
            · rw [HNK.out]
              exact hN7
            · rw [nowD_succ]
              exact own_less (own_grown ((HSd.out.below HB5.out).below HA6.out) hgrow (fun z hz e => by have := hgE _ e; have := (own_lt HSd.out hz).1; omega)) (by omega)
            · exact ((HB3'.out.trans (HB5.out.mono (by omega))).trans (HA6.out.mono (by omega))).grown hgrow (by simp; omega) (fun k hk => by have := hne _ hk; omega)
          case measure => simp [intOf]; omega
        · subst hc1
          have z1 : ¬ (nm : Int) + 1 < (nm : Int) := by omega
          have HEa : Hid (OwnI (u0.alloc (.cells #[] 3)) u0.heap.size (.slice (some ⟨u0.heap.size, 0, none⟩) 0 0) []) := ownI_empty u0
          have HIa : Hid (Ints (u0.alloc (.cells #[] 3)) na nm nc (nowD d i)) := HI0.out.ints.below ((Below.refl _ _).alloc (Nat.le_refl _) _)
          have HN2C : Hid (nowD d i ++ [0] = N2) := by
            show nowD d i ++ [0] = N2
            rw [HNW.out, ← HN2.out]
            exact take_snoc_zero (by simp [cnL]; omega) (cnD_deep ah0 nm (by omega))
          go_upto_region 16 with (first | (at_builtin; refine wpList_append_ints rfl (.tmp 51) (.tmp 52) rfl u0.heap.size (.slice (some ⟨u0.heap.size, 0, none⟩) 0 0) [] rfl HEa.out na nm nc (nowD d i) rfl HIa.out (by simp; omega) (by simp) ?_; intro px cx x1 hox hgx; rw [List.nil_append] at hox; have ez0 : ([] : List Int).length + nm = nm := (by simp); rw [ez0] at hox ⊢; have HBx : Hid (Below u0.heap.size u0 x1) := (((Below.refl _ _).alloc (Nat.le_refl _) _).grown hgx (by simp) (fun k hk => by simp [Value.ownBlock] at hk; omega)); have HOx : Hid (OwnI (x1.alloc (.cells #[.int .i64 0] 3)) u0.heap.size (.slice px nm cx) (nowD d i)) := (hox.below ((Below.refl _ _).alloc (Nat.le_refl _) _)); have HIx : Hid (Ints (x1.alloc (.cells #[.int .i64 0] 3)) (some ⟨x1.heap.size, 0, none⟩) 1 1 [0]) := (ints_single x1); have rx := HBx.out.size) | (at_builtin; refine wpList_append_ints rfl (.tmp 53) (.tmp 54) rfl u0.heap.size (.slice px nm cx) (nowD d i) rfl HOx.out (some ⟨x1.heap.size, 0, none⟩) 1 1 [0] rfl HIx.out (by rw [← HNM.out]; omega) (by simp; omega) ?_; intro p1 c1 y0 ho1 hg1; rw [HN2C.out, ← HNM.out] at ho1; rw [← HNM.out]))
          have hB1 : Below u0.heap.size u0 y0 := (HBx.out.alloc (by omega) _).grown hg1 (by simp; omega) (fun k hk => (own_lt hox hk).1)
          have ry := hB1.size
          have HIy : Hid (OwnI y0 v0.heap.size (.slice p1 (nm + 1) c1) N2) := own_less ho1 (by omega)
          have HAy : Hid (RowAt y0 wr.heap.size #[.int .i64 2, .int .i64 nm, .slice ta tn tc, .int .i64 R, .int .i64 C, .slice ca cn cc] 49) := HA0.out.below hB1 zA
          have HGy : Hid (RowAt y0 w.heap.size #[.slice (some ⟨b, off, none⟩) n cap] 29) := HG0.out.below hB1 (by omega)
          have HOy : Hid (NnOwn y0 v0.heap.size wr.heap.size (.slice oa i oc) vs (numsL d i)) := HO0.out.below (by omega) hB1
          have HBy : Hid (Below w.heap.size w y0) := HB0.out.trans (hB1.mono (by omega))
          have sy : wr.heap.size < y0.heap.size := by omega
          clear ho1 hg1 hB1 HEa HIa HI0 HA0 HG0 HO0 HB0 q0 q1 hnm4 hnl hvl
          have zv9 : ¬ (nm : Int) + 1 ≤ (nm : Int) := by omega
          have HE1 : Hid (OwnI (y0.alloc (.cells #[] 3)) y0.heap.size (.slice (some ⟨y0.heap.size, 0, none⟩) 0 0) []) := ownI_empty y0
          have HIn1 : Hid (Ints (y0.alloc (.cells #[] 3)) p1 (nm + 1) c1 N2) := HIy.out.ints.below ((Below.refl _ _).alloc (Nat.le_refl _) _)
          go_upto_region 17 with (at_builtin; refine wpList_append_ints rfl (.tmp 56) (.tmp 57) rfl y0.heap.size (.slice (some ⟨y0.heap.size, 0, none⟩) 0 0) [] rfl HE1.out p1 (nm + 1) c1 N2 rfl HIn1.out (by simp; omega) (by simp) ?_; intro p2 c2 y2 ho2 hg2; rw [List.nil_append] at ho2; have ez : ([] : List Int).length + (nm + 1) = nm + 1 := (by simp); rw [ez] at ho2 ⊢)
          have B2 : Below y0.heap.size y0 y2 := ((Below.refl _ _).alloc (Nat.le_refl _) _).grown hg2 (by simp) (fun k hk => by simp [Value.ownBlock] at hk; omega)
          have r2 := B2.size
          have HA2 : Hid (RowAt y2 wr.heap.size #[.int .i64 2, .int .i64 nm, .slice ta tn tc, .int .i64 R, .int .i64 C, .slice ca cn cc] 49) := HAy.out.below B2 sy
          have HG2' : Hid (RowAt y2 w.heap.size #[.slice (some ⟨b, off, none⟩) n cap] 29) := HGy.out.below B2 (by omega)
          have HO2' : Hid (NnOwn y2 v0.heap.size wr.heap.size (.slice oa i oc) vs (numsL d i)) := HOy.out.below (by omega) B2
          have HB2' : Hid (Below w.heap.size w y2) := HBy.out.trans (B2.mono (by omega))
          obtain ⟨g2, rfl⟩ : ∃ g, p2 = some ⟨g, 0, none⟩ := by
            rcases ho2.row.2 with ⟨hv, hz⟩ | ⟨g', cap', cur, hv, -⟩
            · omega
            · simp only [Value.slice.injEq] at hv
              exact ⟨g', hv.1⟩
          have gl2 := own_lt ho2.row rfl
          have hx2 := ho2.ints.2.1
          have hx3 := ho2.ints.2.2.1
          unfold maxLen at hx3
          have cx : y2.cell? ⟨g2, nm, none⟩ = some (.int .i64 X) := by
            rw [ho2.row.cellAt nm (by omega), List.getElem?_map, HN2X.out]
            rfl
          have fx := ho2.row.frozenAt nm
          have OS : OwnI (y2.setCell ⟨g2, nm, none⟩ (.int .i64 (X + 1))) y0.heap.size (.slice (some ⟨g2, 0, none⟩) (nm + 1) c2) (numK d i) := by
            have h1 := (ho2.row.stored nm (.int .i64 (X + 1))).1
            rw [← List.map_set, HN2S.out] at h1
            unfold OwnI
            rw [← HNKL.out]
            exact h1
          have HCX : Hid (y2.cell? ⟨g2, nm, none⟩ = some (.int .i64 X)) := cx
          have HFX : Hid (y2.frozen? ⟨g2, nm, none⟩ = false) := fx
          have HOS : Hid (OwnI (y2.setCell ⟨g2, nm, none⟩ (.int .i64 (X + 1))) y0.heap.size (.slice (some ⟨g2, 0, none⟩) (nm + 1) c2) (numK d i)) := OS
          have gl2a : y0.heap.size ≤ g2 := gl2.1
          have gl2b : g2 < y2.heap.size := gl2.2
          clear ho2 hg2 B2 cx fx OS HE1 HIn1 HIy HAy HGy HOy HBy gl2 ez
          refine wp_region_noPanic ?_
          refine wp_region_held_drew (S := fun w' => RowAt w' wr.heap.size #[.int .i64 2, .int .i64 nm, .slice ta tn tc, .int .i64 R, .int .i64 C, .slice ca cn cc] 49) (by kernel_rfl) HA2.out.drew (fun hHeld => ?_)
          have HCd : Hid (y2.drew.cell? ⟨g2, nm, none⟩ = some (.int .i64 X)) := HCX.out
          have HFd : Hid (y2.drew.frozen? ⟨g2, nm, none⟩ = false) := HFX.out
          have HSd : Hid (OwnI (y2.drew.setCell ⟨g2, nm, none⟩ (.int .i64 (X + 1))) y0.heap.size (.slice (some ⟨g2, 0, none⟩) (nm + 1) c2) (numK d i)) := HOS.out
          have HGd : Hid (RowAt y2.drew w.heap.size #[.slice (some ⟨b, off, none⟩) n cap] 29) := HG2'.out.drew
          have HOd : Hid (NnOwn y2.drew v0.heap.size wr.heap.size (.slice oa i oc) vs (numsL d i)) := HO2'.out.below (by omega) (Below.refl _ _).drew
          have HBd : Hid (Below w.heap.size w y2.drew) := HB2'.out.drew
          have rd : y0.heap.size ≤ y2.drew.heap.size := r2
          have gd : g2 < y2.drew.heap.size := gl2b
          generalize y2.drew = z2 at hHeld HCd HFd HSd HGd HOd HBd rd gd ⊢
          clear HCX HFX HOS HG2' HO2' HB2' HA2
          refine take_at 0 59 (.slice (some ⟨g2, 0, none⟩) (nm + 1) c2) rfl rfl (by kernel_rfl) (by kernel_rfl) (by kernel_rfl) (fun _ _ _ h => h) (Or.inl ⟨by kernel_rfl, fun w' hS' => by go_simp⟩) hHeld ?_
          (try simp only [Act.put, List.setIfInBounds_toArray, List.set_cons_zero, List.set_cons_succ])
          refine take_at 1 60 (.pointer (some ⟨wr.heap.size, 1, none⟩)) rfl rfl (by kernel_rfl) (by kernel_rfl) (by kernel_rfl) (fun _ _ _ h => h) (Or.inl ⟨by kernel_rfl, fun w' hS' => by go_simp⟩) hHeld ?_
          (try simp only [Act.put, List.setIfInBounds_toArray, List.set_cons_zero, List.set_cons_succ])
          refine take_at 2 61 (.int .i64 nm) rfl rfl (by kernel_rfl) (by kernel_rfl) (by kernel_rfl) (fun _ _ _ h => h) (Or.inl ⟨by kernel_rfl, fun w' hS' => by have hc := RowAt.cell hS' 1; go_simp⟩) hHeld ?_
          (try simp only [Act.put, List.setIfInBounds_toArray, List.set_cons_zero, List.set_cons_succ])
          refine take_at 3 62 (.slice (some ⟨g2, 0, none⟩) (nm + 1) c2) rfl rfl (by kernel_rfl) (by kernel_rfl) (by kernel_rfl) (fun _ _ _ h => h) (Or.inl ⟨by kernel_rfl, fun w' hS' => by go_simp⟩) hHeld ?_
          (try simp only [Act.put, List.setIfInBounds_toArray, List.set_cons_zero, List.set_cons_succ])
          refine take_at 4 63 (.pointer (some ⟨wr.heap.size, 1, none⟩)) rfl rfl (by kernel_rfl) (by kernel_rfl) (by kernel_rfl) (fun _ _ _ h => h) (Or.inl ⟨by kernel_rfl, fun w' hS' => by go_simp⟩) hHeld ?_
          (try simp only [Act.put, List.setIfInBounds_toArray, List.set_cons_zero, List.set_cons_succ])
          refine take_at 5 64 (.int .i64 nm) rfl rfl (by kernel_rfl) (by kernel_rfl) (by kernel_rfl) (fun _ _ _ h => h) (Or.inl ⟨by kernel_rfl, fun w' hS' => by have hc := RowAt.cell hS' 1; go_simp⟩) hHeld ?_
          (try simp only [Act.put, List.setIfInBounds_toArray, List.set_cons_zero, List.set_cons_succ])
          refine take_at 6 65 (.pointer (some ⟨g2, nm, none⟩)) rfl rfl (by kernel_rfl) (by kernel_rfl) (by kernel_rfl) (fun _ _ _ h => h) (Or.inl ⟨by kernel_rfl, fun w' hS' => by go_simp⟩) hHeld ?_
          (try simp only [Act.put, List.setIfInBounds_toArray, List.set_cons_zero, List.set_cons_succ])
          refine wpAnyH_ready (rs := [7]) (by kernel_rfl) (by simp) ?_
          refine AllReadyH.cons rfl (fun K hK => ?_) AllReadyH.nil
          have d4 := HCd.out
          go_simp
          refine hK.out _ _ hHeld (fun hHeld => ?_)
          clear hK K d4
          (try simp only [Act.put, List.setIfInBounds_toArray, List.set_cons_zero, List.set_cons_succ])
          refine take_at 8 67 (.int .i64 (X + 1)) rfl rfl (by kernel_rfl) (by kernel_rfl) (by kernel_rfl) (fun _ _ _ h => h) (Or.inl ⟨by kernel_rfl, fun w' hS' => by go_simp; rw [IntKind.wrap_i64]; omega⟩) hHeld ?_
          (try simp only [Act.put, List.setIfInBounds_toArray, List.set_cons_zero, List.set_cons_succ])
          refine take_at 9 68 (.pointer (some ⟨g2, nm, none⟩)) rfl rfl (by kernel_rfl) (by kernel_rfl) (by kernel_rfl) (fun _ _ _ h => h) (Or.inl ⟨by kernel_rfl, fun w' hS' => by go_simp⟩) hHeld ?_
          (try simp only [Act.put, List.setIfInBounds_toArray, List.set_cons_zero, List.set_cons_succ])
          refine wpAnyH_ready (rs := [10]) (by kernel_rfl) (by simp) ?_
          refine AllReadyH.cons rfl (fun K hK => ?_) AllReadyH.nil
          have d4 := HCd.out
          have f4 := HFd.out
          rw [if_pos (by kernel_rfl)]
          go_simp
          refine hK.out _ _ (RowAt.other hHeld _ _ (by simp; omega)) (fun hHeld => ?_)
          clear hK K d4 f4
          (try simp only [Act.put])
          refine wpAnyH_done (by kernel_rfl) ?_ _
          refine NoPanic.normal ?_
          clear hHeld
          have HG3' : Hid (RowAt (z2.setCell ⟨g2, nm, none⟩ (.int .i64 (X + 1))) w.heap.size #[.slice (some ⟨b, off, none⟩) n cap] 29) := HGd.out.other _ _ (by simp; omega)
          have HO3' : Hid (NnOwn (z2.setCell ⟨g2, nm, none⟩ (.int .i64 (X + 1))) v0.heap.size wr.heap.size (.slice oa i oc) vs (numsL d i)) := ⟨own_set HOd.out.1 ⟨g2, nm, none⟩ _ (fun e => by have := HOd.out.2.1 _ e; simp at this; omega), HOd.out.2.1, HOd.out.2.2.kept (fun b cs ty hb hb' _ hr => hr.other _ _ (by simp; omega))⟩
          have HB3' : Hid (Below w.heap.size w (z2.setCell ⟨g2, nm, none⟩ (.int .i64 (X + 1)))) := HBd.out.setCell (by show _ ≤ g2; omega) _
          have r3 : y0.heap.size ≤ (z2.setCell ⟨g2, nm, none⟩ (.int .i64 (X + 1))).heap.size := by simpa using rd
          clear HCd HFd HGd HOd HBd
          generalize (z2.setCell ⟨g2, nm, none⟩ (.int .i64 (X + 1))) = y3 at HSd HG3' HO3' HB3' r3 ⊢
          have HE4 : Hid (OwnI (y3.alloc (.cells #[] 3)) y3.heap.size (.slice (some ⟨y3.heap.size, 0, none⟩) 0 0) []) := ownI_empty y3
          have HIn4 : Hid (Ints (y3.alloc (.cells #[] 3)) (some ⟨g2, 0, none⟩) (nm + 1) c2 (numK d i)) := HSd.out.ints.below ((Below.refl _ _).alloc (Nat.le_refl _) _)
          go_wp2_with (first | (at_builtin; refine wpList_append_ints rfl (.tmp 70) (.tmp 71) rfl y3.heap.size (.slice (some ⟨y3.heap.size, 0, none⟩) 0 0) [] rfl HE4.out (some ⟨g2, 0, none⟩) (nm + 1) c2 (numK d i) rfl HIn4.out (by simp; omega) (by simp) ?_; intro p5 c5 y5 ho5 hg5; rw [List.nil_append] at ho5; have ez : ([] : List Int).length + (nm + 1) = nm + 1 := (by simp); rw [ez] at ho5 ⊢; have HB5 : Hid (Below y3.heap.size y3 y5) := (((Below.refl _ _).alloc (Nat.le_refl _) _).grown hg5 (by simp) (fun k hk => by simp [Value.ownBlock] at hk; omega)); have HX5 : Hid (OwnI y5 y3.heap.size (.slice p5 (nm + 1) c5) (numK d i)) := ho5; have r5 := HB5.out.size; have HA6 : Hid (Below y5.heap.size y5 (y5.alloc (.cells #[(.slice p5 (nm + 1) c5)] 71))) := ((Below.refl _ _).alloc (Nat.le_refl _) _); have HO6 : Hid (NnOwn (y5.alloc (.cells #[(.slice p5 (nm + 1) c5)] 71)) v0.heap.size wr.heap.size (.slice oa i oc) vs (numsL d i)) := ((HO3'.out.below (by omega) HB5.out).below (by omega) HA6.out); have HRW : Hid ((y5.alloc (.cells #[(.slice p5 (nm + 1) c5)] 71)).ownsRow v0.heap.size 71 1 (.slice oa i oc) i vs) := (HVL.out ▸ HO6.out.1); have HC6 : Hid (∀ j u, [(.slice p5 (nm + 1) c5)][j]? = some u → (y5.alloc (.cells #[(.slice p5 (nm + 1) c5)] 71)).cell? ((⟨y5.heap.size, 0, none⟩ : Addr).add j) = some u) := (cell_new1p _ _ _); clear ho5 hg5 ez) | (at_builtin; refine wpList_append_own _ rfl (.tmp 69) (.tmp 73) 34 rfl v0.heap.size 71 i0 _ 1 24 Try.underlying34 hi0 hz0 hz1 hz2 rfl (by decide) (.slice oa i oc) i vs rfl HRW.out ⟨y5.heap.size, 0, none⟩ 1 1 [(.slice p5 (nm + 1) c5)] rfl rfl HC6.out (by intro u hu; simp at hu; subst hu; rfl) (by unfold maxLen; omega) (by omega) (by simp; omega) ?_; intro nm' u7 hown hgrow _; obtain ⟨oa', oc', rfl⟩ := own_shp hown))
          have s7 := hgrow.size
          simp only [World.size_alloc] at s7
          have hne : ∀ g, (Value.slice oa i oc).ownBlock = some g → v0.heap.size ≤ g := fun g hg => (own_lt HRW.out hg).1
          have hgE : ∀ g, (Value.slice oa i oc).ownBlock = some g → g < wr.heap.size := HO6.out.2.1
          have hlen : i = (numsL d i).length := by simp [numsL]
          have hN7 := nnOwn_snoc (E := wr.heap.size) (E' := y5.heap.size) HO6.out hlen (own_less (HX5.out.below HA6.out) (by omega)) (fun z hz => (own_lt HX5.out hz).2) (by omega) (by omega) (by omega) hown hgrow
          go_roundw
          case rel =>
            refine ⟨i + 1, oa', oc', vs ++ [(.slice p5 (nm + 1) c5)], _, _, _, by omega, by go_num, rfl, rfl, ?_, ?_, ?_, by omega, ?_⟩
            · exact ((HG3'.out.below HB5.out (by omega)).below HA6.out (by omega)).grown hgrow (fun e => by have := hne _ e; omega)
            · rw [HNK.out]
              exact hN7
            · rw [nowD_succ]
              exact own_less (own_grown ((HSd.out.below HB5.out).below HA6.out) hgrow (fun z hz e => by have := hgE _ e; have := (own_lt HSd.out hz).1; omega)) (by omega)
            · exact ((HB3'.out.trans (HB5.out.mono (by omega))).trans (HA6.out.mono (by omega))).grown hgrow (by simp; omega) (fun k hk => by have := hne _ hk; omega)
          case measure => simp [intOf]; omega
      · have hkb : (K != 2) = true := by simp [hk2]
        have HNZ : Hid (numK d i = []) := by
          show numK d i = []
          unfold numK lvN
          rw [← HXD.out]
          simp only
          rw [if_neg hk2]
          simp
        go_upto_region 11 with fail
        have I1 : OwnI (u0.alloc (.cells #[] 3)) u0.heap.size (.slice (some ⟨u0.heap.size, 0, none⟩) 0 0) [] := ownI_empty u0
        have A1 : Below u0.heap.size u0 (u0.alloc (.cells #[] 3)) := (Below.refl _ _).alloc (Nat.le_refl _) _
        clear q0 q1
        generalize (u0.alloc (.cells #[] 3)) = u1 at I1 A1 ⊢
        have t1' := A1.size
        have HO1 : Hid (NnOwn u1 v0.heap.size wr.heap.size (.slice oa i oc) vs (numsL d i)) := HO0.out.below sA A1
        have HG1 : Hid (RowAt u1 w.heap.size #[.slice (some ⟨b, off, none⟩) n cap] 29) := HG0.out.below A1 (by omega)
        have HB1 : Hid (Below w.heap.size w u1) := HB0.out.trans (A1.mono (by omega))
        have HI1 : Hid (OwnI u1 u0.heap.size (.slice (some ⟨u0.heap.size, 0, none⟩) 0 0) []) := I1
        clear I1 A1 HO0 HG0 HB0 HI0 HA0
        have A3 : Below u1.heap.size u1 ((u1.alloc (.cells #[] 3)).alloc (.cells #[(.slice (some ⟨u1.heap.size, 0, none⟩) 0 0)] 71)) := ((Below.refl _ _).alloc (Nat.le_refl _) _).alloc (by simp) _
        have X3 : OwnI ((u1.alloc (.cells #[] 3)).alloc (.cells #[(.slice (some ⟨u1.heap.size, 0, none⟩) 0 0)] 71)) u1.heap.size (.slice (some ⟨u1.heap.size, 0, none⟩) 0 0) [] := (ownI_empty u1).below ((Below.refl _ _).alloc (Nat.le_refl _) _)
        have HX3 : Hid (OwnI ((u1.alloc (.cells #[] 3)).alloc (.cells #[(.slice (some ⟨u1.heap.size, 0, none⟩) 0 0)] 71)) u1.heap.size (.slice (some ⟨u1.heap.size, 0, none⟩) 0 0) []) := X3
        have HA3 : Hid (Below u1.heap.size u1 ((u1.alloc (.cells #[] 3)).alloc (.cells #[(.slice (some ⟨u1.heap.size, 0, none⟩) 0 0)] 71))) := A3
        have HO3 : Hid (NnOwn ((u1.alloc (.cells #[] 3)).alloc (.cells #[(.slice (some ⟨u1.heap.size, 0, none⟩) 0 0)] 71)) v0.heap.size wr.heap.size (.slice oa i oc) vs (numsL d i)) := HO1.out.below (by omega) A3
        have HRW : Hid (((u1.alloc (.cells #[] 3)).alloc (.cells #[(.slice (some ⟨u1.heap.size, 0, none⟩) 0 0)] 71)).ownsRow v0.heap.size 71 1 (.slice oa i oc) i vs) := by
          have h1 := HO3.out.1
          rw [HVL.out] at h1
          exact h1
        have HC3 : Hid (∀ j u, [(.slice (some ⟨u1.heap.size, 0, none⟩) 0 0)][j]? = some u → ((u1.alloc (.cells #[] 3)).alloc (.cells #[(.slice (some ⟨u1.heap.size, 0, none⟩) 0 0)] 71)).cell? ((⟨(u1.alloc (.cells #[] 3)).heap.size, 0, none⟩ : Addr).add j) = some u) := cell_new1p _ _ _
        have e2 : (u1.alloc (.cells #[] 3)).heap.size = u1.heap.size + 1 := by simp
        rw [e2] at HC3
        clear A3 X3 e2
        go_wp2_with (at_builtin; refine wpList_append_own _ rfl (.tmp 29) (.tmp 31) 34 rfl v0.heap.size 71 i0 _ 1 24 Try.underlying34 hi0 hz0 hz1 hz2 rfl (by decide) (.slice oa i oc) i vs rfl HRW.out ⟨u1.heap.size + 1, 0, none⟩ 1 1 [(.slice (some ⟨u1.heap.size, 0, none⟩) 0 0)] rfl rfl HC3.out (by intro u hu; simp at hu; subst hu; rfl) (by unfold maxLen; omega) (by omega) (by simp; omega) ?_; intro v' u7 hown hgrow _; obtain ⟨oa', oc', rfl⟩ := own_shp hown)
        have s7 := hgrow.size
        simp only [World.size_alloc] at s7
        have hne : ∀ g, (Value.slice oa i oc).ownBlock = some g → v0.heap.size ≤ g := fun g hg => (own_lt HRW.out hg).1
        have hgE : ∀ g, (Value.slice oa i oc).ownBlock = some g → g < wr.heap.size := HO3.out.2.1
        have hlen : i = (numsL d i).length := by simp [numsL]
        have hN7 := nnOwn_snoc (E := wr.heap.size) (E' := u1.heap.size + 1) HO3.out hlen (own_less HX3.out (by omega)) (fun z hz => by simp [Value.ownBlock] at hz; omega) (by omega) (by omega) (by omega) hown hgrow
        go_roundw
        case rel =>
          refine ⟨i + 1, oa', oc', vs ++ [(.slice (some ⟨u1.heap.size, 0, none⟩) 0 0)], _, _, _, by omega, by go_num, rfl, rfl, ?_, ?_, ?_, by omega, ?_⟩
          · exact (HG1.out.below HA3.out (by omega)).grown hgrow (fun e => by have := hne _ e; omega)
          · rw [HNK.out, HNZ.out]
            exact hN7
          · rw [nowD_succ, HNZ.out]
            exact own_less (own_grown (HI1.out.below HA3.out) hgrow (fun z hz e => by have := hgE _ e; simp [Value.ownBlock] at hz; omega)) (by omega)
          · exact (HB1.out.trans (HA3.out.mono (by omega))).grown hgrow (by simp; omega) (fun k hk => by have := hne _ hk; omega)
        case measure => simp [intOf]; omega
    · have hib : ¬ (i : Int) < (n : Int) := by omega
      obtain rfl : i = n := by omega
      go_wp2_with fail
      go_ret
      have e1 : numsL d i = numsL d d.length := by rw [HN.out]
      exact ⟨⟨oa, i, oc, rfl, by rw [← e1]; exact HO.out.nn⟩, HB.out⟩
end Go.Proofs.Ythjipnocemioaaa
