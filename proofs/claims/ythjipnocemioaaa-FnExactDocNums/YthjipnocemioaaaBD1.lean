import Derived.Test.YthjipnocemioaaaBA1
import Derived.Test.YthjipnocemioaaaBA2
import Derived.Deep.Cut
import Derived.Deep.Slices
import Derived.Deep.RegionHeld3
import Derived.Deep.LoopGhost
import Derived.Deep.QuietTactic
import Derived.BigQuiet
import Derived.Laws.ResultCell
import Derived.Stop.Asserts
namespace Go.Proofs.Ythjipnocemioaaa
open Go.RowKit

theorem run_append_empty {P : Program} {w : World} (base : Nat) (t ty e : TypeId) (i : TypeInfo) (size : Nat) (ht : P.underlying t = some (.slice e)) (hi : P.info? e = some i)
    (v : Value) (n : Nat) (xs : List Value) (hown : w.ownsRow base e size v n xs) (p : Option Addr) (c : Nat) :
    (Builtin.append_ #[t, t] ty #[v, .slice p 0 c]).run P w = .ok v w := by
  rcases hown.2 with ⟨rfl, rfl⟩ | ⟨g, cap, cur, rfl, _, _, hnc, _⟩
  · cases p <;> simp [Builtin.append_, run_underlying ht, sizeOf, typeInfo, hi, Builtin.lenOf, Builtin.firstCells, loadCells, loadCellsFrom]
  · cases p <;> simp [Builtin.append_, run_underlying ht, sizeOf, typeInfo, hi, Builtin.lenOf, Builtin.firstCells, loadCells, loadCellsFrom, hnc, storeCells]
theorem wpList_append_empty {P : Program} {w : World} {ops : Array Oper} {rest : List Oper} {o : Oper} {a : Act} {Q : Exit → Act → World → Prop} (hgd : o.guard = none) (s x : Operand) (t : TypeId)
    (ho : o.op = .call { callee := .builtin .append, args := #[s, x], argTypes := #[t, t] })
    (base : Nat) (e : TypeId) (i : TypeInfo) (size : Nat) (ht : P.underlying t = some (.slice e)) (hi : P.info? e = some i)
    (v : Value) (n : Nat) (xs : List Value) (hs : a.eval s = v) (hown : w.ownsRow base e size v n xs) (p : Option Addr) (c : Nat) (hx : a.eval x = .slice p 0 c)
    (h : wpList P ops Q rest (a.put o.dst v) w) : wpList P ops Q (o :: rest) a w := by
  refine wpList_plain hgd fun K hK => ?_
  have hrun := run_append_empty (P := P) (w := w) base t o.type e i size ht hi v n xs hown p c
  unfold Oper.wp
  simp [execOp, ho, resolve, invoke, builtin, hs, hx, hrun, Result.andThen]
  exact hK _ _ h
theorem grownBy_refl (w : World) (r : Option Nat) : w.grownBy w r := ⟨rfl, rfl, rfl, Nat.le_refl _, fun _ _ _ => rfl⟩
theorem flat_one (l : List Sg) : ∀ u ∈ flat l, u.oneCell' = true := by
  intro u hu
  simp only [flat, List.mem_flatMap, sgCells] at hu
  obtain ⟨s, _, hs⟩ := hu
  simp at hs
  rcases hs with rfl | rfl | rfl <;> rfl
theorem news_signs {w : World} {b off : Nat} {l : List Sg} (h : SignsAt w b off l) : ∀ j u, (flat l)[j]? = some u → w.cell? ((⟨b, off, none⟩ : Addr).add j) = some u := by
  intro j u hj
  have hlt : j < l.length * 3 := by
    rw [← flat_length]
    exact (List.getElem?_eq_some_iff.1 hj).1
  have e : (⟨b, off, none⟩ : Addr).add j = ⟨b, off + j, none⟩ := by simp [Addr.add]
  rw [e]
  obtain ⟨g0, g1, g2⟩ := flat_get l (j / 3) (by omega)
  obtain ⟨h0, h1, h2⟩ := h (j / 3) (by omega)
  rcases (show j = j / 3 * 3 ∨ j = j / 3 * 3 + 1 ∨ j = j / 3 * 3 + 2 from by omega) with e | e | e
  · rw [e] at hj ⊢
    rw [← hj, g0]
    exact h0
  · rw [e] at hj ⊢
    rw [← hj, g1, ← Nat.add_assoc]
    exact h1
  · rw [e] at hj ⊢
    rw [← hj, g2, ← Nat.add_assoc]
    exact h2
/-- 'append(v, t...)', v the call's own, t a text. -/
theorem wpList_append_txt {w : World} {ops : Array Oper} {rest : List Oper} {o : Oper} {a : Act} {Q : Exit → Act → World → Prop} (hgd : o.guard = none) (s x : Operand)
    (ho : o.op = .call { callee := .builtin .append, args := #[s, x], argTypes := #[44, 44] })
    (base : Nat) (v : Value) (n : Nat) (xs : List Value) (hs : a.eval s = v) (hown : w.ownsRow base 100 3 v n xs)
    (p : Option Addr) (m c : Nat) (l : List Sg) (hx : a.eval x = .slice p m c) (htx : Txt w p m c l) (h63 : n + m ≤ 1000000000) (hbase : base ≤ w.heap.size)
    (h : ∀ v' w', w'.ownsRow base 100 3 v' (n + m) (xs ++ flat l) → w.grownBy w' v.ownBlock → wpList Try.prog ops Q rest (a.put o.dst v') w') : wpList Try.prog ops Q (o :: rest) a w := by
  obtain ⟨i0, hi, hz0, hz1, hz2⟩ := info_parts Try.info100
  obtain ⟨rfl, h2, h3, h4⟩ := htx
  rcases h4 with rfl | ⟨b, off, rfl, hb, hsn⟩
  · refine wpList_append_empty hgd s x 44 ho base 100 i0 3 Try.underlying44 hi v n xs hs hown p c hx ?_
    exact h v w (by simpa [flat] using hown) (grownBy_refl _ _)
  · refine wpList_append_own w hgd s x 44 ho base 100 i0 _ 3 24 Try.underlying44 hi hz0 hz1 hz2 rfl (by decide) v n xs hs hown ⟨b, off, none⟩ l.length c (flat l) hx (by rw [flat_length]) (news_signs hsn) (flat_one l) (by unfold maxLen; omega) (by omega) hbase ?_
    intro v' w' h5 h6 _
    exact h v' w' h5 h6
end Go.Proofs.Ythjipnocemioaaa
namespace Go.Proofs.Ythjipnocemioaaa
open Go.RowKit

set_option maxHeartbeats 1000000 in
theorem copiedSign_any {a : Option Addr} {n cap : Nat} {l : List Sg} {w : World} (h : Txt w a n cap l) (hn : n ≤ 1000000) :
    Calls Try.prog 111 #[.slice a n cap] w fun e w' => (∃ p q, e = .returned (.slice p n q) ∧ Own w' w.heap.size (.slice p n q) l) ∧ Below w.heap.size w w' := by
  have H : Hid (Txt w a n cap l) := h
  clear h
  go_enter Try.func111, Try.ntmps111
  go_wp2_with (at_builtin; refine wpList_append_txt rfl (.const (.slice none 0 0)) (.tmp 3) rfl w.heap.size (.slice none 0 0) 0 [] rfl (World.ownsRow_nil _ _ _ _) a n cap l rfl H.out (by omega) (Nat.le_refl _) ?_; intro v' w1 hown hgrow)
  go_ret
  have hb : Below w.heap.size w w1 := (Below.refl _ _).grown hgrow (Nat.le_refl _) (fun k hk => by simp [Value.ownBlock] at hk)
  have e := H.out.1
  subst e
  have ho : Own w1 w.heap.size v' l := by
    unfold Own
    simpa using hown
  obtain ⟨p, q, rfl, -⟩ := ho.shape
  exact ⟨⟨p, q, rfl, ho⟩, hb⟩
/-- The rows that a table's cells are. -/
theorem tab_rows {w : World} {a : Option Addr} {n cap : Nat} {l : List Cl} (h : Tab w a n cap l) : ∃ rs, Rws w a n cap rs ∧ Reads w rs l := by
  obtain ⟨h1, h2, h3, h4⟩ := h
  rcases h4 with rfl | ⟨b, off, rfl, hb, hl⟩
  · exact ⟨[], ⟨h1, h2, h3, .inl rfl⟩, Reads.nil _⟩
  · have each : ∀ i, i < l.length → ∃ x : Rw, RwAt w b (off + i * 5) x ∧ RwIs w x (l.getD i cl0) := by
      intro i hi
      obtain ⟨c0, c1, c2, c3, ta, tn, tc, c4, ht⟩ := hl i hi
      exact ⟨((l.getD i cl0).1, (l.getD i cl0).2.1, (l.getD i cl0).2.2.1, (l.getD i cl0).2.2.2.1, ta, tn, tc), ⟨c0, c1, c2, c3, c4⟩, rfl, rfl, rfl, rfl, ht⟩
    obtain ⟨q, hq⟩ := Go.Deep.choose_lt each
    refine ⟨(List.range l.length).map q, ⟨by simp [h1], h2, h3, .inr ⟨b, off, rfl, hb, fun k hk => ?_⟩⟩, by simp, fun k hk => ?_⟩
    · have hk' : k < l.length := by simpa using hk
      rw [show ((List.range l.length).map q).getD k rw0 = q k by simp [List.getD, hk']]
      exact (hq k hk').1
    · have hk' : k < l.length := by simpa using hk
      rw [show ((List.range l.length).map q).getD k rw0 = q k by simp [List.getD, hk']]
      exact (hq k hk').2
theorem flat5_one (l : List Rw) : ∀ u ∈ flat5 l, u.oneCell' = true := by
  intro u hu
  unfold flat5 at hu
  rw [List.mem_flatMap] at hu
  obtain ⟨x, -, hx⟩ := hu
  simp only [rwCells, List.mem_cons, List.not_mem_nil, or_false] at hx
  rcases hx with rfl | rfl | rfl | rfl | rfl <;> rfl
theorem news_rows {w : World} {b off : Nat} {l : List Rw} (h : ∀ k, k < l.length → RwAt w b (off + k * 5) (l.getD k rw0)) : ∀ j u, (flat5 l)[j]? = some u → w.cell? ((⟨b, off, none⟩ : Addr).add j) = some u := by
  intro j u hj
  have hlt : j < l.length * 5 := by
    have := (List.getElem?_eq_some_iff.1 hj).1
    rwa [flat5_length] at this
  have e : j = j / 5 * 5 + j % 5 := by omega
  obtain ⟨h0, h1, h2, h3, h4⟩ := h (j / 5) (by omega)
  have hg := flat5_get l (j / 5) (j % 5) (by omega) (by omega)
  rw [e] at hj
  rw [hg] at hj
  have em : j % 5 = 0 ∨ j % 5 = 1 ∨ j % 5 = 2 ∨ j % 5 = 3 ∨ j % 5 = 4 := by omega
  rw [Addr.add_lit, e]
  rcases em with m | m | m | m | m <;> rw [m] at hj ⊢ <;> simp only [rwCells] at hj <;> simp at hj <;> subst hj
  · exact h0
  · rw [← Nat.add_assoc]; exact h1
  · rw [← Nat.add_assoc]; exact h2
  · rw [← Nat.add_assoc]; exact h3
  · rw [← Nat.add_assoc]; exact h4
set_option maxHeartbeats 2000000 in
theorem copiedCell_any {a : Option Addr} {n cap : Nat} {rs : List Rw} {w : World} (h : Rws w a n cap rs) (hn : n ≤ 1000000) :
    Calls Try.prog 143 #[.slice a n cap] w fun e w' => (∃ p q, e = .returned (.slice p n q) ∧ OwnR w' w.heap.size (.slice p n q) rs) ∧ Below w.heap.size w w' := by
  have H : Hid (Rws w a n cap rs) := h
  clear h
  obtain ⟨i0, hi, hz0, hz1, hz2⟩ := info_parts Try.info59
  have fin : ∀ v' w1, w1.ownsRow w.heap.size 59 5 v' n (flat5 rs) → w.grownBy w1 none → (∃ p q, v' = .slice p n q ∧ OwnR w1 w.heap.size (.slice p n q) rs) ∧ Below w.heap.size w w1 := by
    intro v' w1 hown hgrow
    have hb : Below w.heap.size w w1 := (Below.refl _ _).grown hgrow (Nat.le_refl _) (fun k hk => by simp at hk)
    have e := H.out.1
    subst e
    have ho : OwnR w1 w.heap.size v' rs := hown
    obtain ⟨p, q, rfl, -⟩ := ho.shape
    exact ⟨⟨p, q, rfl, ho⟩, hb⟩
  have HF : Hid _ := fin
  clear fin
  rcases H.out.2.2.2 with he | ⟨b, off, rfl, hb, hl⟩
  · have hn0 : n = 0 := by rw [H.out.1, he]; rfl
    subst hn0
    go_enter Try.func143, Try.ntmps143
    go_wp2_with (at_builtin; refine wpList_append_empty rfl (.const (.slice none 0 0)) (.tmp 3) 45 rfl w.heap.size 59 i0 5 Try.underlying45 hi (.slice none 0 0) 0 [] rfl (World.ownsRow_nil _ _ _ _) a cap rfl ?_)
    go_ret
    obtain ⟨⟨p, q, e, ho⟩, hbb⟩ := HF.out (.slice none 0 0) w (by rw [he]; exact World.ownsRow_nil _ _ _ _) (grownBy_refl _ _)
    exact ⟨⟨p, q, by rw [← e]; rfl, ho⟩, hbb⟩
  · have HL : Hid (∀ k, k < rs.length → RwAt w b (off + k * 5) (rs.getD k rw0)) := hl
    have hc := H.out.2.1
    have hm := H.out.2.2.1
    have HN : Hid (n = rs.length) := H.out.1
    unfold maxLen at hm
    clear hl
    go_enter Try.func143, Try.ntmps143
    go_wp2_with (at_builtin; refine wpList_append_own w rfl (.const (.slice none 0 0)) (.tmp 3) 45 rfl w.heap.size 59 i0 _ 5 56 Try.underlying45 hi hz0 hz1 hz2 rfl (by decide) (.slice none 0 0) 0 [] rfl (World.ownsRow_nil _ _ _ _) ⟨b, off, none⟩ n cap (flat5 rs) rfl (by rw [flat5_length, HN.out]) (news_rows HL.out) (flat5_one rs) (by unfold maxLen; omega) (by omega) (Nat.le_refl _) ?_; intro v' w1 hown hgrow _)
    go_ret
    obtain ⟨⟨p, q, e, ho⟩, hbb⟩ := HF.out v' w1 (by simpa using hown) (by simpa [Value.ownBlock] using hgrow)
    exact ⟨⟨p, q, by rw [← e]; rfl, ho⟩, hbb⟩
theorem flat5_set4 (a b : List Rw) (r c d g : Int) (s t : Option Addr × Nat × Nat) : (flat5 (a ++ (r, c, d, g, s) :: b)).set (a.length * 5 + 4) (.slice t.1 t.2.1 t.2.2) = flat5 (a ++ (r, c, d, g, t) :: b) := by
  rw [flat5_append, flat5_append, List.set_append_right _ _ (by rw [flat5_length]; omega), flat5_length]
  have e : a.length * 5 + 4 - a.length * 5 = 4 := by omega
  rw [e]
  rfl
set_option maxRecDepth 100000 in
set_option maxHeartbeats 4000000 in
theorem copiedTable_any {R C : Int} {a : Option Addr} {n cap : Nat} {l : List Cl} {w : World} (h : Tab w a n cap l) (hl : l.length ≤ 1000) (ht : ∀ k, k < l.length → (l.getD k cl0).2.2.2.2.length ≤ 1000000) :
    Calls Try.prog 140 #[.agg #[.int .i64 R, .int .i64 C, .slice a n cap]] w fun e w' => (∃ p q rs, e = .returned (.agg #[.int .i64 R, .int .i64 C, .slice p n q]) ∧ OwnT w' w.heap.size (.slice p n q) rs l) ∧ Below w.heap.size w w' := by
  obtain ⟨rs0, hr0, hd0⟩ := tab_rows h
  have HN : Hid (n = l.length) := h.1
  have hn : n ≤ 1000 := by rw [h.1]; exact hl
  have HT : Hid (∀ k, k < l.length → (l.getD k cl0).2.2.2.2.length ≤ 1000000) := ht
  have hc := h.2.1
  have hm := h.2.2.1
  unfold maxLen at hm
  have HR0 : Hid (Reads w rs0 l) := hd0
  have HW0 : Hid (Rws w a n cap rs0) := hr0
  clear hr0 hd0 h ht
  go_enter Try.func140, Try.ntmps140
  go_upto_region 1 with fail
  have B0 : Below w.heap.size w ((w.alloc (.cells #[.int .i64 R, .int .i64 C, .slice a n cap] 47)).alloc (.cells #[.int .i64 0, .int .i64 0, .slice none 0 0] 47)) := ((Below.refl _ _).alloc (Nat.le_refl _) _).alloc (by simp) _
  have G0 : RowAt ((w.alloc (.cells #[.int .i64 R, .int .i64 C, .slice a n cap] 47)).alloc (.cells #[.int .i64 0, .int .i64 0, .slice none 0 0] 47)) w.heap.size #[.int .i64 R, .int .i64 C, .slice a n cap] 47 := (rowAt_new w _ _).alloc _
  have G1 : RowAt ((w.alloc (.cells #[.int .i64 R, .int .i64 C, .slice a n cap] 47)).alloc (.cells #[.int .i64 0, .int .i64 0, .slice none 0 0] 47)) (w.heap.size + 1) #[.int .i64 0, .int .i64 0, .slice none 0 0] 47 := by
    have := rowAt_new (w.alloc (.cells #[.int .i64 R, .int .i64 C, .slice a n cap] 47)) #[.int .i64 0, .int .i64 0, .slice none 0 0] 47
    simpa using this
  generalize ((w.alloc (.cells #[.int .i64 R, .int .i64 C, .slice a n cap] 47)).alloc (.cells #[.int .i64 0, .int .i64 0, .slice none 0 0] 47)) = v0 at B0 G0 G1 ⊢
  have k2 : v0.cell? ⟨w.heap.size, 2, none⟩ = some (.slice a n cap) := G0.cell 2
  have l0 := G0.lt
  have l1 := G1.lt
  have s0 := B0.size
  have H0 : Hid (RowAt v0 w.heap.size #[.int .i64 R, .int .i64 C, .slice a n cap] 47) := G0
  have H1 : Hid (RowAt v0 (w.heap.size + 1) #[.int .i64 0, .int .i64 0, .slice none 0 0] 47) := G1
  have HB0 : Hid (Below w.heap.size w v0) := B0
  have HW1 : Hid (Rws v0 a n cap rs0) := by
    obtain ⟨a1, a2, a3, a4⟩ := HW0.out
    refine ⟨a1, a2, a3, ?_⟩
    rcases a4 with a4 | ⟨b, off, a5, a6, a7⟩
    · exact .inl a4
    · refine .inr ⟨b, off, a5, by omega, fun k hk => ?_⟩
      obtain ⟨c0, c1, c2, c3, c4⟩ := a7 k hk
      exact ⟨(B0.cell (p := ⟨b, _, none⟩) a6).trans c0, (B0.cell (p := ⟨b, _, none⟩) a6).trans c1, (B0.cell (p := ⟨b, _, none⟩) a6).trans c2, (B0.cell (p := ⟨b, _, none⟩) a6).trans c3, (B0.cell (p := ⟨b, _, none⟩) a6).trans c4⟩
  clear G0 G1 B0 HW0
  go_upto_region 2 with (go_at_call 143; refine (copiedCell_any HW1.out (by omega)).mono ?_; rintro e w1 ⟨⟨p, q, rfl, ho1⟩, hb1⟩; have q1 : w1.cell? ⟨w.heap.size, 2, none⟩ = some (.slice a n cap) := (H0.out.below hb1 l0).cell 2; have q2 := (H0.out.below hb1 l0).frozen 2)
  have G0 := (H0.out.below hb1 l0).setCell 2 (.slice p n q)
  have G1 := (H1.out.below hb1 l1).other ⟨w.heap.size, 2, none⟩ (.slice p n q) (by simp)
  have B1 : Below w.heap.size w (w1.setCell ⟨w.heap.size, 2, none⟩ (.slice p n q)) := (HB0.out.trans (hb1.mono s0)).setCell (Nat.le_refl _) _
  have O1 : OwnR (w1.setCell ⟨w.heap.size, 2, none⟩ (.slice p n q)) v0.heap.size (.slice p n q) rs0 := own_set ho1 ⟨w.heap.size, 2, none⟩ (.slice p n q) (fun e => by have := (own_lt ho1 e).1; simp at this; omega)
  have ss : v0.heap.size ≤ (w1.setCell ⟨w.heap.size, 2, none⟩ (.slice p n q)).heap.size := by
    have := hb1.size
    simpa using this
  clear q1 q2 ho1 hb1 k2 H0 H1
  generalize (w1.setCell ⟨w.heap.size, 2, none⟩ (.slice p n q)) = w2 at G0 G1 B1 O1 ss ⊢
  have k2 : w2.cell? ⟨w.heap.size, 2, none⟩ = some (.slice p n q) := G0.cell 2
  have hq1 : n ≤ q := O1.rws.2.1
  have hq2 := O1.rws.2.2.1
  unfold maxLen at hq2
  have HRn : Hid (rs0.length = l.length) := HR0.out.1
  have l0' := G0.lt
  have l1' := G1.lt
  have H0 : Hid (RowAt w2 w.heap.size #[.int .i64 R, .int .i64 C, .slice p n q] 47) := G0
  have H1 : Hid (RowAt w2 (w.heap.size + 1) #[.int .i64 0, .int .i64 0, .slice none 0 0] 47) := G1
  have HB1 : Hid (Below w.heap.size w w2) := B1
  have HO1 : Hid (OwnR w2 v0.heap.size (.slice p n q) rs0) := O1
  clear G0 G1 B1 O1
  go_wp2_with fail
  clear k2
  go_loopw [12] (fun iv wr => ∃ (i : Nat) (ns : List Rw), i ≤ n ∧ iv = .int .i64 i ∧ ns.length = i ∧ RowAt wr w.heap.size #[.int .i64 R, .int .i64 C, .slice p n q] 47 ∧ RowAt wr (w.heap.size + 1) #[.int .i64 0, .int .i64 0, .slice none 0 0] 47 ∧ OwnR wr v0.heap.size (.slice p n q) (ns ++ rs0.drop i) ∧ TxtOwn wr v0.heap.size (Value.slice p n q).ownBlock ns (l.take i) ∧ v0.heap.size ≤ wr.heap.size ∧ Below w.heap.size w wr) (fun iv _ => n - (intOf iv).toNat)
  case atStart => exact ⟨0, [], Nat.zero_le _, rfl, rfl, H0.out, H1.out, HO1.out, TxtOwn.nil _ _ _, ss, HB1.out⟩
  case round =>
    obtain ⟨i, ns, hi, rfl, hns, hG0, hG1, hO, hT, hss, hB⟩ := hrel
    have HG0 : Hid (RowAt wr w.heap.size #[.int .i64 R, .int .i64 C, .slice p n q] 47) := hG0
    have HG1 : Hid (RowAt wr (w.heap.size + 1) #[.int .i64 0, .int .i64 0, .slice none 0 0] 47) := hG1
    have HO : Hid (OwnR wr v0.heap.size (.slice p n q) (ns ++ rs0.drop i)) := hO
    have HX : Hid (TxtOwn wr v0.heap.size (Value.slice p n q).ownBlock ns (l.take i)) := hT
    have HB : Hid (Below w.heap.size w wr) := hB
    have HNS : Hid (ns.length = i) := hns
    clear hG0 hG1 hO hT hB hns
    by_cases hlt : i < n
    · have hil : i < l.length := by have := HN.out; omega
      have hir : i < rs0.length := by have := HRn.out; omega
      have hib : (i : Int) < (n : Int) := by omega
      have hi0 : (0 : Int) ≤ (i : Int) := by omega
      obtain ⟨gb, rfl⟩ : ∃ gb, p = some ⟨gb, 0, none⟩ := by
        rcases HO.out.row.2 with ⟨hv, hz⟩ | ⟨g', cap', cur, hv, -⟩
        · omega
        · simp only [Value.slice.injEq] at hv
          exact ⟨g', hv.1⟩
      have HTK : Hid (l.take (i + 1) = l.take i ++ [l.getD i cl0]) := by
        show l.take (i + 1) = l.take i ++ [l.getD i cl0]
        rw [List.take_succ_eq_append_getElem hil]
        simp [List.getD, hil]
      have hdr : rs0.drop i = rs0.getD i rw0 :: rs0.drop (i + 1) := by
        rw [List.drop_eq_getElem_cons hir]
        simp [List.getD, hir]
      have hrd := HR0.out.2 i hir
      have hlen := HT.out i hil
      obtain ⟨⟨r, c, d, g, ta, tn, tc⟩, hx⟩ : ∃ x, x = rs0.getD i rw0 := ⟨_, rfl⟩
      rw [← hx] at hdr hrd
      obtain ⟨⟨yr, yc, yd, yg, tx⟩, hy⟩ : ∃ y, y = l.getD i cl0 := ⟨_, rfl⟩
      rw [← hy] at hrd HTK hlen
      obtain ⟨e0, e1, e2, e3, htx⟩ := hrd
      simp only at e0 e1 e2 e3 htx hlen
      subst e0 e1 e2 e3
      have htn : tn ≤ 1000000 := by rw [htx.1]; exact hlen
      have HDR : Hid (rs0.drop i = (r, c, d, g, ta, tn, tc) :: rs0.drop (i + 1)) := hdr
      have ho := HO.out
      rw [HDR.out] at ho
      have hrow := ho.row
      have hcl : ∀ j, j < 5 → wr.cell? ⟨gb, i * 5 + j, none⟩ = (rwCells (r, c, d, g, ta, tn, tc))[j]? := fun j hj => by
        have h1 := hrow.cellAt (i * 5 + j) (by omega)
        rw [h1, flat5_get _ i j (by simp; have := HNS.out; omega) hj]
        congr 2
        have := HNS.out
        subst this
        simp [List.getD]
      have c0 : wr.cell? ⟨gb, i * 5, none⟩ = some (.int .i64 r) := hcl 0 (by omega)
      have c1 : wr.cell? ⟨gb, i * 5 + 1, none⟩ = some (.int .i64 c) := hcl 1 (by omega)
      have c2 : wr.cell? ⟨gb, i * 5 + 2, none⟩ = some (.int .i64 d) := hcl 2 (by omega)
      have c3 : wr.cell? ⟨gb, i * 5 + 3, none⟩ = some (.int .i64 g) := hcl 3 (by omega)
      have c4 : wr.cell? ⟨gb, i * 5 + 4, none⟩ = some (.slice ta tn tc) := hcl 4 (by omega)
      have HTX : Hid (Txt wr ta tn tc tx) := htx.below HB.out
      have gb0 := own_lt hrow rfl
      have HOw : Hid (OwnR wr v0.heap.size (.slice (some ⟨gb, 0, none⟩) n q) (ns ++ (r, c, d, g, ta, tn, tc) :: rs0.drop (i + 1))) := ho
      clear hcl hrow ho hdr hx hy htx hlen HO
      go_upto_region 5 with fail
      have bA : Below wr.heap.size wr (wr.alloc (.cells #[.int .i64 r, .int .i64 c, .int .i64 d, .int .i64 g, .slice ta tn tc] 59)) := (Below.refl _ _).alloc (Nat.le_refl _) _
      have gA : RowAt (wr.alloc (.cells #[.int .i64 r, .int .i64 c, .int .i64 d, .int .i64 g, .slice ta tn tc] 59)) wr.heap.size #[.int .i64 r, .int .i64 c, .int .i64 d, .int .i64 g, .slice ta tn tc] 59 := rowAt_new _ _ _
      have sA : (wr.alloc (.cells #[.int .i64 r, .int .i64 c, .int .i64 d, .int .i64 g, .slice ta tn tc] 59)).heap.size = wr.heap.size + 1 := by simp
      clear c0 c1 c2 c3 c4
      generalize wr.alloc (.cells #[.int .i64 r, .int .i64 c, .int .i64 d, .int .i64 g, .slice ta tn tc] 59) = u0 at bA gA sA ⊢
      have w0 := HG0.out.lt
      have w1' := HG1.out.lt
      have HG0a : Hid (RowAt u0 w.heap.size #[.int .i64 R, .int .i64 C, .slice (some ⟨gb, 0, none⟩) n q] 47) := HG0.out.below bA w0
      have HG1a : Hid (RowAt u0 (w.heap.size + 1) #[.int .i64 0, .int .i64 0, .slice none 0 0] 47) := HG1.out.below bA w1'
      have HOa : Hid (OwnR u0 v0.heap.size (.slice (some ⟨gb, 0, none⟩) n q) (ns ++ (r, c, d, g, ta, tn, tc) :: rs0.drop (i + 1))) := HOw.out.below bA
      have HXa : Hid (TxtOwn u0 v0.heap.size (Value.slice (some ⟨gb, 0, none⟩) n q).ownBlock ns (l.take i)) := HX.out.below bA
      have HTXa : Hid (Txt u0 ta tn tc tx) := HTX.out.below bA
      have HBa : Hid (Below w.heap.size w u0) := HB.out.trans (bA.mono (by omega))
      have HC : Hid (RowAt u0 wr.heap.size #[.int .i64 r, .int .i64 c, .int .i64 d, .int .i64 g, .slice ta tn tc] 59) := gA
      have gb1 : gb < wr.heap.size := gb0.2
      have gb2 : v0.heap.size ≤ gb := gb0.1
      clear bA gA HG0 HG1 HOw HX HTX HB gb0
      refine wp_region_noPanic ?_
      refine wp_region_held_drew (S := fun w' => RowAt w' w.heap.size #[.int .i64 R, .int .i64 C, .slice (some ⟨gb, 0, none⟩) n q] 47 ∧ RowAt w' wr.heap.size #[.int .i64 r, .int .i64 c, .int .i64 d, .int .i64 g, .slice ta tn tc] 59) (by kernel_rfl) ⟨HG0a.out.drew, HC.out.drew⟩ (fun hHeld => ?_)
      have HOd : Hid (OwnR u0.drew v0.heap.size (.slice (some ⟨gb, 0, none⟩) n q) (ns ++ (r, c, d, g, ta, tn, tc) :: rs0.drop (i + 1))) := HOa.out.below (Below.refl _ _).drew
      have HXd : Hid (TxtOwn u0.drew v0.heap.size (Value.slice (some ⟨gb, 0, none⟩) n q).ownBlock ns (l.take i)) := HXa.out.below (Below.refl _ _).drew
      have HTXd : Hid (Txt u0.drew ta tn tc tx) := HTXa.out.below (Below.refl _ _).drew
      have HG1d : Hid (RowAt u0.drew (w.heap.size + 1) #[.int .i64 0, .int .i64 0, .slice none 0 0] 47) := HG1a.out.drew
      have HBd : Hid (Below w.heap.size w u0.drew) := HBa.out.drew
      have sd : u0.drew.heap.size = wr.heap.size + 1 := sA
      generalize u0.drew = u1 at hHeld HOd HXd HTXd HG1d HBd sd ⊢
      clear HOa HXa HTXa HG1a HBa HG0a HC sA
      refine take_at 0 17 (.pointer (some ⟨w.heap.size, 2, none⟩)) rfl rfl (by kernel_rfl) (by kernel_rfl) (by kernel_rfl) (fun _ _ _ h => h) (Or.inl ⟨by kernel_rfl, fun w' hS' => by go_simp⟩) hHeld ?_
      (try simp only [Act.put, List.setIfInBounds_toArray, List.set_cons_zero, List.set_cons_succ])
      refine take_at 1 18 (.slice (some ⟨gb, 0, none⟩) n q) rfl rfl (by kernel_rfl) (by kernel_rfl) (by kernel_rfl) (fun _ _ _ h => h) (Or.inl ⟨by kernel_rfl, fun w' hS' => by have hc := RowAt.cell hS'.1 2; go_simp⟩) hHeld ?_
      (try simp only [Act.put, List.setIfInBounds_toArray, List.set_cons_zero, List.set_cons_succ])
      refine take_at 2 19 (.int .i64 i) rfl rfl (by kernel_rfl) (by kernel_rfl) (by kernel_rfl) (fun _ _ _ h => h) (Or.inl ⟨by kernel_rfl, fun w' hS' => by go_simp⟩) hHeld ?_
      (try simp only [Act.put, List.setIfInBounds_toArray, List.set_cons_zero, List.set_cons_succ])
      refine take_at 3 20 (.pointer (some ⟨wr.heap.size, 4, none⟩)) rfl rfl (by kernel_rfl) (by kernel_rfl) (by kernel_rfl) (fun _ _ _ h => h) (Or.inl ⟨by kernel_rfl, fun w' hS' => by go_simp⟩) hHeld ?_
      (try simp only [Act.put, List.setIfInBounds_toArray, List.set_cons_zero, List.set_cons_succ])
      refine take_at 4 21 (.slice ta tn tc) rfl rfl (by kernel_rfl) (by kernel_rfl) (by kernel_rfl) (fun _ _ _ h => h) (Or.inl ⟨by kernel_rfl, fun w' hS' => by have hc := RowAt.cell hS'.2 4; go_simp⟩) hHeld ?_
      (try simp only [Act.put, List.setIfInBounds_toArray, List.set_cons_zero, List.set_cons_succ])
      refine wpAnyH_ready (rs := [5]) (by kernel_rfl) (by simp) ?_
      refine AllReadyH.cons rfl (fun K hK => ?_) AllReadyH.nil
      go_simp
      go_at_call 111
      refine (copiedSign_any HTXd.out htn).mono ?_
      rintro e u2 ⟨⟨tp, tq, rfl, hot⟩, hb2⟩
      have HO2 : Hid (OwnR u2 v0.heap.size (.slice (some ⟨gb, 0, none⟩) n q) (ns ++ (r, c, d, g, ta, tn, tc) :: rs0.drop (i + 1))) := HOd.out.below hb2
      have HX2 : Hid (TxtOwn u2 v0.heap.size (Value.slice (some ⟨gb, 0, none⟩) n q).ownBlock ns (l.take i)) := HXd.out.below hb2
      have HG12 : Hid (RowAt u2 (w.heap.size + 1) #[.int .i64 0, .int .i64 0, .slice none 0 0] 47) := HG1d.out.below hb2 (by omega)
      have HB2 : Hid (Below w.heap.size w u2) := HBd.out.trans (hb2.mono (by omega))
      have HOT : Hid (Own u2 u1.heap.size (.slice tp tn tq) tx) := hot
      have HXL : Hid (∀ k, k < ns.length → ∀ g, (rwT (ns.getD k rw0)).ownBlock = some g → g < u1.heap.size) := HXd.out.blockLt
      have s2 := hb2.size
      go_wp2_with fail
      refine hK.out _ _ (⟨RowAt.below hHeld.1 hb2 (by omega), RowAt.below hHeld.2 hb2 (by omega)⟩) (fun hHeld => ?_)
      clear hK K
      (try simp only [Act.put, List.setIfInBounds_toArray, List.set_cons_zero, List.set_cons_succ])
      clear hb2 hot HOd HXd HG1d HBd HTXd
      refine take_at 6 23 (.pointer (some ⟨gb, i * 5, none⟩)) rfl rfl (by kernel_rfl) (by kernel_rfl) (by kernel_rfl) (fun _ _ _ h => h) (Or.inl ⟨by kernel_rfl, fun w' hS' => by go_simp⟩) hHeld ?_
      (try simp only [Act.put, List.setIfInBounds_toArray, List.set_cons_zero, List.set_cons_succ])
      refine take_at 7 24 (.pointer (some ⟨gb, i * 5 + 4, none⟩)) rfl rfl (by kernel_rfl) (by kernel_rfl) (by kernel_rfl) (fun _ _ _ h => h) (Or.inl ⟨by kernel_rfl, fun w' hS' => by go_simp⟩) hHeld ?_
      (try simp only [Act.put, List.setIfInBounds_toArray, List.set_cons_zero, List.set_cons_succ])
      refine wpAnyH_ready (rs := [8]) (by kernel_rfl) (by simp) ?_
      refine AllReadyH.cons rfl (fun K hK => ?_) AllReadyH.nil
      have f4 := HO2.out.row.frozenAt (i * 5 + 4)
      obtain ⟨u4, d4⟩ : ∃ u, u2.cell? ⟨gb, i * 5 + 4, none⟩ = some u := by
        have h1 := HO2.out.row.1
        exact ⟨_, (HO2.out.row.cellAt (i * 5 + 4) (by omega)).trans (List.getElem?_eq_getElem (by omega))⟩
      rw [if_pos (by kernel_rfl)]
      go_simp
      refine hK.out _ _ ⟨RowAt.other hHeld.1 _ _ (by simp; omega), RowAt.other hHeld.2 _ _ (by simp; omega)⟩ (fun hHeld => ?_)
      clear hK K
      (try simp only [Act.put])
      refine wpAnyH_done (by kernel_rfl) ?_ _
      refine NoPanic.normal ?_
      have hG0 := hHeld.1
      clear hHeld
      go_wp2_with fail
      go_roundw
      case rel =>
        have hst := (HO2.out.row.stored (i * 5 + 4) (.slice tp tn tq)).1
        have en := HNS.out
        have e4 := flat5_set4 ns (rs0.drop (i + 1)) r c d g (ta, tn, tc) (tp, tn, tq)
        rw [en] at e4
        rw [e4] at hst
        have hO3 : OwnR (u2.setCell ⟨gb, i * 5 + 4, none⟩ (.slice tp tn tq)) v0.heap.size (.slice (some ⟨gb, 0, none⟩) n q) ((ns ++ [(r, c, d, g, tp, tn, tq)]) ++ rs0.drop (i + 1)) := by
          rw [List.append_assoc]
          have hl5 : n = (ns ++ (r, c, d, g, ta, tn, tc) :: rs0.drop (i + 1)).length := HO2.out.len
          have hl6 : (ns ++ (r, c, d, g, ta, tn, tc) :: rs0.drop (i + 1)).length = (ns ++ (r, c, d, g, tp, tn, tq) :: rs0.drop (i + 1)).length := by simp
          unfold OwnR
          rw [List.singleton_append, ← hl6, ← hl5]
          exact hst
        have hT3 := HX2.out.snoc (C := u1.heap.size) (x := (r, c, d, g, tp, tn, tq)) (y := (r, c, d, g, tx)) ⟨rfl, rfl, rfl, rfl, own_less HOT.out (by omega)⟩ (fun z hz => by have := (own_lt HOT.out hz).1; simp [Value.ownBlock]; omega) HXL.out (fun z hz => (own_lt HOT.out hz).1)
        rw [← HTK.out] at hT3
        refine ⟨i + 1, ns ++ [(r, c, d, g, tp, tn, tq)], by omega, by go_num, by simp [en], hG0, HG12.out.other _ _ (by simp; omega), hO3, ?_, by simp; omega, HB2.out.setCell (by show _ ≤ gb; omega) _⟩
        exact hT3.set _ _ rfl
      case measure => simp [intOf]; omega
    · have hib : ¬ (i : Int) < (n : Int) := by omega
      obtain rfl : i = n := by omega
      have e1 : l.take i = l := List.take_of_length_le (by have := HN.out; omega)
      have e2 : rs0.drop i = [] := List.drop_eq_nil_of_le (by have := HN.out; have := HRn.out; omega)
      have hX := HX.out
      have hO := HO.out
      rw [e1] at hX
      rw [e2, List.append_nil] at hO
      have HOw : Hid (OwnT wr v0.heap.size (.slice p i q) ns l) := ⟨hO, hX⟩
      have k0 : wr.cell? ⟨w.heap.size, 0, none⟩ = some (.int .i64 R) := HG0.out.cell 0
      have k1 : wr.cell? ⟨w.heap.size, 1, none⟩ = some (.int .i64 C) := HG0.out.cell 1
      have k2 : wr.cell? ⟨w.heap.size, 2, none⟩ = some (.slice p i q) := HG0.out.cell 2
      clear hX hO e1 e2
      have w1' := HG1.out.lt
      go_wp2_with (refine wpList_store_row rfl 47 (.tmp 2) (.tmp 26) rfl (w.heap.size + 1) #[.int .i64 R, .int .i64 C, .slice p i q] rfl rfl 47 _ HG1.out tab_info rfl (cells3_one _ _ _ _ _) ?_)
      refine bodyPost_ret (v := .agg #[.int .i64 R, .int .i64 C, .slice p i q]) (results_cell_row (p := 2) (ty := 47) rfl _ _ (w.heap.size + 1) 47 _ _ _ rfl (RowAt.setRow HG1.out _) Try.underlying47 rfl tab_info) rfl ⟨⟨p, q, rfl, ns, ?_⟩, below_row HB.out (by omega) _⟩
      exact OwnT.less (B' := v0.heap.size) ⟨own_row HOw.out.1 _ _ (fun e => by have := (own_lt HOw.out.1 e).1; omega), HOw.out.2.rowLow _ _ (by omega)⟩ (by omega)
end Go.Proofs.Ythjipnocemioaaa
namespace Go.Proofs.Ythjipnocemioaaa
open Go.RowKit

theorem ownT_nil (w : World) (B : Nat) : OwnT w B (.slice none 0 0) [] [] := ⟨OwnR.nil _ _, TxtOwn.nil _ _ _⟩
set_option maxRecDepth 100000 in
set_option maxHeartbeats 4000000 in
theorem paraBlock_any {ta : Option Addr} {tn tc : Nat} {t : List Sg} {w : World} (h : Txt w ta tn tc t) (hn : tn ≤ 1000000) :
    Calls Try.prog 134 #[.agg #[.slice ta tn tc]] w fun e w' => (∃ p q, e = .returned (.agg #[.int .i64 1, .int .i64 0, .slice p tn q, .int .i64 0, .int .i64 0, .slice none 0 0]) ∧ BlOwn w' w.heap.size w'.heap.size w'.heap.size (1, 0, (p, tn, q), 0, 0, (none, 0, 0)) (1, 0, t, 0, 0, [])) ∧ Below w.heap.size w w' := by
  have H : Hid (Txt w ta tn tc t) := h
  clear h
  go_enter Try.func134, Try.ntmps134
  go_upto_region 1 with fail
  have B0 : Below w.heap.size w ((w.alloc (.cells #[.slice ta tn tc] 111)).alloc (.cells #[.int .i64 0, .int .i64 0, .slice none 0 0, .int .i64 0, .int .i64 0, .slice none 0 0] 49)) := ((Below.refl _ _).alloc (Nat.le_refl _) _).alloc (by simp) _
  have G0 : RowAt ((w.alloc (.cells #[.slice ta tn tc] 111)).alloc (.cells #[.int .i64 0, .int .i64 0, .slice none 0 0, .int .i64 0, .int .i64 0, .slice none 0 0] 49)) w.heap.size #[.slice ta tn tc] 111 := (rowAt_new w _ _).alloc _
  have G1 : RowAt ((w.alloc (.cells #[.slice ta tn tc] 111)).alloc (.cells #[.int .i64 0, .int .i64 0, .slice none 0 0, .int .i64 0, .int .i64 0, .slice none 0 0] 49)) (w.heap.size + 1) #[.int .i64 0, .int .i64 0, .slice none 0 0, .int .i64 0, .int .i64 0, .slice none 0 0] 49 := by
    have := rowAt_new (w.alloc (.cells #[.slice ta tn tc] 111)) #[.int .i64 0, .int .i64 0, .slice none 0 0, .int .i64 0, .int .i64 0, .slice none 0 0] 49
    simpa using this
  generalize ((w.alloc (.cells #[.slice ta tn tc] 111)).alloc (.cells #[.int .i64 0, .int .i64 0, .slice none 0 0, .int .i64 0, .int .i64 0, .slice none 0 0] 49)) = v0 at B0 G0 G1 ⊢
  have l0 := G0.lt
  have l1 := G1.lt
  have s0 := B0.size
  have H0 : Hid (RowAt v0 w.heap.size #[.slice ta tn tc] 111) := G0
  have H1 : Hid (RowAt v0 (w.heap.size + 1) #[.int .i64 0, .int .i64 0, .slice none 0 0, .int .i64 0, .int .i64 0, .slice none 0 0] 49) := G1
  have HB0 : Hid (Below w.heap.size w v0) := B0
  have k0 : v0.cell? ⟨w.heap.size, 0, none⟩ = some (.slice ta tn tc) := G0.cell 0
  clear G0 G1 B0
  go_wp2_with (first | (go_at_call 111; refine (copiedSign_any (H.out.below HB0.out) hn).mono ?_; rintro e w1 ⟨⟨p, q, rfl, ho1⟩, hb1⟩; have HZ : Hid (RowAt w1 (w.heap.size + 1) #[.int .i64 0, .int .i64 0, .slice none 0 0, .int .i64 0, .int .i64 0, .slice none 0 0] 49) := H1.out.below hb1 l1) | (refine wpList_store_row rfl 49 (.tmp 2) (.tmp 6) rfl (w.heap.size + 1) #[.int .i64 1, .int .i64 0, .slice p tn q, .int .i64 0, .int .i64 0, .slice none 0 0] rfl rfl 49 _ HZ.out block_info rfl (cells6_one _ _ _ _ _ _ _ _ _ _) ?_))
  have s1 := hb1.size
  refine bodyPost_ret (v := .agg #[.int .i64 1, .int .i64 0, .slice p tn q, .int .i64 0, .int .i64 0, .slice none 0 0]) (results_cell_row (p := 2) (ty := 49) rfl _ _ (w.heap.size + 1) 49 _ _ _ rfl (RowAt.setRow HZ.out _) Try.underlying49 rfl block_info) rfl ⟨⟨p, q, rfl, ?_⟩, below_row (HB0.out.trans (hb1.mono s0)) (by omega) _⟩
  have sz : (w1.setRow (w.heap.size + 1) #[.int .i64 1, .int .i64 0, .slice p tn q, .int .i64 0, .int .i64 0, .slice none 0 0]).heap.size = w1.heap.size := by simp [World.setRow]
  rw [sz]
  have hlt : ∀ g, (Value.slice p tn q).ownBlock = some g → g < w1.heap.size := fun g hg => (own_lt ho1 hg).2
  exact ⟨⟨rfl, rfl, rfl, rfl⟩, own_less (own_row ho1 _ _ (fun e => by have := (own_lt ho1 e).1; omega)) (by omega), hlt, ⟨[], ownT_nil _ _, fun g hg => by simp [sl3V, Value.ownBlock] at hg, fun k hk => absurd hk (by simp)⟩, by omega, Nat.le_refl _⟩
set_option maxRecDepth 100000 in
set_option maxHeartbeats 4000000 in
theorem itemBlock_any {v : Int} {ta : Option Addr} {tn tc : Nat} {t : List Sg} {w : World} (h : Txt w ta tn tc t) (hn : tn ≤ 1000000) :
    Calls Try.prog 108 #[.agg #[.int .i64 v, .slice ta tn tc]] w fun e w' => (∃ p q, e = .returned (.agg #[.int .i64 2, .int .i64 v, .slice p tn q, .int .i64 0, .int .i64 0, .slice none 0 0]) ∧ BlOwn w' w.heap.size w'.heap.size w'.heap.size (2, v, (p, tn, q), 0, 0, (none, 0, 0)) (2, v, t, 0, 0, [])) ∧ Below w.heap.size w w' := by
  have H : Hid (Txt w ta tn tc t) := h
  clear h
  go_enter Try.func108, Try.ntmps108
  go_upto_region 1 with fail
  have B0 : Below w.heap.size w ((w.alloc (.cells #[.int .i64 v, .slice ta tn tc] 103)).alloc (.cells #[.int .i64 0, .int .i64 0, .slice none 0 0, .int .i64 0, .int .i64 0, .slice none 0 0] 49)) := ((Below.refl _ _).alloc (Nat.le_refl _) _).alloc (by simp) _
  have G0 : RowAt ((w.alloc (.cells #[.int .i64 v, .slice ta tn tc] 103)).alloc (.cells #[.int .i64 0, .int .i64 0, .slice none 0 0, .int .i64 0, .int .i64 0, .slice none 0 0] 49)) w.heap.size #[.int .i64 v, .slice ta tn tc] 103 := (rowAt_new w _ _).alloc _
  have G1 : RowAt ((w.alloc (.cells #[.int .i64 v, .slice ta tn tc] 103)).alloc (.cells #[.int .i64 0, .int .i64 0, .slice none 0 0, .int .i64 0, .int .i64 0, .slice none 0 0] 49)) (w.heap.size + 1) #[.int .i64 0, .int .i64 0, .slice none 0 0, .int .i64 0, .int .i64 0, .slice none 0 0] 49 := by
    have := rowAt_new (w.alloc (.cells #[.int .i64 v, .slice ta tn tc] 103)) #[.int .i64 0, .int .i64 0, .slice none 0 0, .int .i64 0, .int .i64 0, .slice none 0 0] 49
    simpa using this
  generalize ((w.alloc (.cells #[.int .i64 v, .slice ta tn tc] 103)).alloc (.cells #[.int .i64 0, .int .i64 0, .slice none 0 0, .int .i64 0, .int .i64 0, .slice none 0 0] 49)) = v0 at B0 G0 G1 ⊢
  have l0 := G0.lt
  have l1 := G1.lt
  have s0 := B0.size
  have H0 : Hid (RowAt v0 w.heap.size #[.int .i64 v, .slice ta tn tc] 103) := G0
  have H1 : Hid (RowAt v0 (w.heap.size + 1) #[.int .i64 0, .int .i64 0, .slice none 0 0, .int .i64 0, .int .i64 0, .slice none 0 0] 49) := G1
  have HB0 : Hid (Below w.heap.size w v0) := B0
  clear G0 G1 B0
  refine wp_region_noPanic ?_
  refine wp_region_held_drew (S := fun w' => RowAt w' w.heap.size #[.int .i64 v, .slice ta tn tc] 103) (by kernel_rfl) H0.out.drew (fun hHeld => ?_)
  have H1d : Hid (RowAt v0.drew (w.heap.size + 1) #[.int .i64 0, .int .i64 0, .slice none 0 0, .int .i64 0, .int .i64 0, .slice none 0 0] 49) := H1.out.drew
  have HBd : Hid (Below w.heap.size w v0.drew) := HB0.out.drew
  have sd : v0.drew.heap.size = v0.heap.size := rfl
  clear H0 H1 HB0
  generalize v0.drew = u0 at hHeld H1d HBd sd ⊢
  refine take_at 0 3 (.pointer (some ⟨w.heap.size, 0, none⟩)) rfl rfl (by kernel_rfl) (by kernel_rfl) (by kernel_rfl) (fun _ _ _ h => h) (Or.inl ⟨by kernel_rfl, fun w' hS' => by go_simp⟩) hHeld ?_
  (try simp only [Act.put, List.setIfInBounds_toArray, List.set_cons_zero, List.set_cons_succ])
  refine take_at 1 4 (.int .i64 v) rfl rfl (by kernel_rfl) (by kernel_rfl) (by kernel_rfl) (fun _ _ _ h => h) (Or.inl ⟨by kernel_rfl, fun w' hS' => by have hc := RowAt.cell hS' 0; go_simp⟩) hHeld ?_
  (try simp only [Act.put, List.setIfInBounds_toArray, List.set_cons_zero, List.set_cons_succ])
  refine take_at 2 5 (.pointer (some ⟨w.heap.size, 1, none⟩)) rfl rfl (by kernel_rfl) (by kernel_rfl) (by kernel_rfl) (fun _ _ _ h => h) (Or.inl ⟨by kernel_rfl, fun w' hS' => by go_simp⟩) hHeld ?_
  (try simp only [Act.put, List.setIfInBounds_toArray, List.set_cons_zero, List.set_cons_succ])
  refine take_at 3 6 (.slice ta tn tc) rfl rfl (by kernel_rfl) (by kernel_rfl) (by kernel_rfl) (fun _ _ _ h => h) (Or.inl ⟨by kernel_rfl, fun w' hS' => by have hc := RowAt.cell hS' 1; go_simp⟩) hHeld ?_
  (try simp only [Act.put, List.setIfInBounds_toArray, List.set_cons_zero, List.set_cons_succ])
  refine wpAnyH_ready (rs := [4]) (by kernel_rfl) (by simp) ?_
  refine AllReadyH.cons rfl (fun K hK => ?_) AllReadyH.nil
  go_simp
  go_at_call 111
  refine (copiedSign_any (H.out.below HBd.out) hn).mono ?_
  rintro e w1 ⟨⟨p, q, rfl, ho1⟩, hb1⟩
  have HZ : Hid (RowAt w1 (w.heap.size + 1) #[.int .i64 0, .int .i64 0, .slice none 0 0, .int .i64 0, .int .i64 0, .slice none 0 0] 49) := H1d.out.below hb1 (by omega)
  go_wp2_with fail
  refine hK.out _ _ (RowAt.below hHeld hb1 (by omega)) (fun hHeld => ?_)
  clear hK K
  (try simp only [Act.put, List.setIfInBounds_toArray, List.set_cons_zero, List.set_cons_succ])
  refine take_at 5 8 (.agg #[.int .i64 2, .int .i64 v, .slice p tn q, .int .i64 0, .int .i64 0, .slice none 0 0]) rfl rfl (by kernel_rfl) (by kernel_rfl) (by kernel_rfl) (fun _ _ _ h => h) (Or.inl ⟨by kernel_rfl, fun w' hS' => by go_simp⟩) hHeld ?_
  (try simp only [Act.put, List.setIfInBounds_toArray, List.set_cons_zero, List.set_cons_succ])
  refine wpAnyH_ready (rs := [6]) (by kernel_rfl) (by simp) ?_
  refine AllReadyH.cons rfl (fun K hK => ?_) AllReadyH.nil
  rw [if_pos (by kernel_rfl)]
  refine wp_store_row 49 (.tmp 2) (.tmp 8) rfl (w.heap.size + 1) #[.int .i64 2, .int .i64 v, .slice p tn q, .int .i64 0, .int .i64 0, .slice none 0 0] rfl rfl 49 _ HZ.out block_info rfl (cells6_one _ _ _ _ _ _ _ _ _ _) ?_
  refine hK.out _ _ (RowAt.setRowOther hHeld _ _ (by omega)) (fun hHeld => ?_)
  clear hK K
  (try simp only [Act.put])
  refine wpAnyH_done (by kernel_rfl) ?_ _
  refine NoPanic.normal ?_
  clear hHeld
  have HB0 : Hid (Below w.heap.size w u0) := HBd.out
  rw [← sd] at s0
  go_wp2_with fail
  have s1 := hb1.size
  refine bodyPost_ret (v := .agg #[.int .i64 2, .int .i64 v, .slice p tn q, .int .i64 0, .int .i64 0, .slice none 0 0]) (results_cell_row (p := 2) (ty := 49) rfl _ _ (w.heap.size + 1) 49 _ _ _ rfl (RowAt.setRow HZ.out _) Try.underlying49 rfl block_info) rfl ⟨⟨p, q, rfl, ?_⟩, below_row (HB0.out.trans (hb1.mono s0)) (by omega) _⟩
  have sz : (w1.setRow (w.heap.size + 1) #[.int .i64 2, .int .i64 v, .slice p tn q, .int .i64 0, .int .i64 0, .slice none 0 0]).heap.size = w1.heap.size := by simp [World.setRow]
  rw [sz]
  have hlt : ∀ g, (Value.slice p tn q).ownBlock = some g → g < w1.heap.size := fun g hg => (own_lt ho1 hg).2
  exact ⟨⟨rfl, rfl, rfl, rfl⟩, own_less (own_row ho1 _ _ (fun e => by have := (own_lt ho1 e).1; omega)) (by omega), hlt, ⟨[], ownT_nil _ _, fun g hg => by simp [sl3V, Value.ownBlock] at hg, fun k hk => absurd hk (by simp)⟩, by omega, Nat.le_refl _⟩
set_option maxRecDepth 100000 in
set_option maxHeartbeats 4000000 in
theorem sheetBlock_any {R C : Int} {ca : Option Addr} {cn cc : Nat} {l : List Cl} {w : World} (h : Tab w ca cn cc l) (hl : l.length ≤ 1000) (hx : ∀ k, k < l.length → (l.getD k cl0).2.2.2.2.length ≤ 1000000) :
    Calls Try.prog 137 #[.agg #[.int .i64 R, .int .i64 C, .slice ca cn cc]] w fun e w' => (∃ p q, e = .returned (.agg #[.int .i64 3, .int .i64 0, .slice none 0 0, .int .i64 R, .int .i64 C, .slice p cn q]) ∧ BlOwn w' w.heap.size w.heap.size w'.heap.size (3, 0, (none, 0, 0), R, C, (p, cn, q)) (3, 0, [], R, C, l)) ∧ Below w.heap.size w w' := by
  have H : Hid (Tab w ca cn cc l) := h
  clear h
  go_enter Try.func137, Try.ntmps137
  go_upto_region 1 with fail
  have B0 : Below w.heap.size w ((w.alloc (.cells #[.int .i64 R, .int .i64 C, .slice ca cn cc] 119)).alloc (.cells #[.int .i64 0, .int .i64 0, .slice none 0 0, .int .i64 0, .int .i64 0, .slice none 0 0] 49)) := ((Below.refl _ _).alloc (Nat.le_refl _) _).alloc (by simp) _
  have G0 : RowAt ((w.alloc (.cells #[.int .i64 R, .int .i64 C, .slice ca cn cc] 119)).alloc (.cells #[.int .i64 0, .int .i64 0, .slice none 0 0, .int .i64 0, .int .i64 0, .slice none 0 0] 49)) w.heap.size #[.int .i64 R, .int .i64 C, .slice ca cn cc] 119 := (rowAt_new w _ _).alloc _
  have G1 : RowAt ((w.alloc (.cells #[.int .i64 R, .int .i64 C, .slice ca cn cc] 119)).alloc (.cells #[.int .i64 0, .int .i64 0, .slice none 0 0, .int .i64 0, .int .i64 0, .slice none 0 0] 49)) (w.heap.size + 1) #[.int .i64 0, .int .i64 0, .slice none 0 0, .int .i64 0, .int .i64 0, .slice none 0 0] 49 := by
    have := rowAt_new (w.alloc (.cells #[.int .i64 R, .int .i64 C, .slice ca cn cc] 119)) #[.int .i64 0, .int .i64 0, .slice none 0 0, .int .i64 0, .int .i64 0, .slice none 0 0] 49
    simpa using this
  generalize ((w.alloc (.cells #[.int .i64 R, .int .i64 C, .slice ca cn cc] 119)).alloc (.cells #[.int .i64 0, .int .i64 0, .slice none 0 0, .int .i64 0, .int .i64 0, .slice none 0 0] 49)) = v0 at B0 G0 G1 ⊢
  have l0 := G0.lt
  have l1 := G1.lt
  have s0 := B0.size
  have H0 : Hid (RowAt v0 w.heap.size #[.int .i64 R, .int .i64 C, .slice ca cn cc] 119) := G0
  have H1 : Hid (RowAt v0 (w.heap.size + 1) #[.int .i64 0, .int .i64 0, .slice none 0 0, .int .i64 0, .int .i64 0, .slice none 0 0] 49) := G1
  have HB0 : Hid (Below w.heap.size w v0) := B0
  have k0 : v0.cell? ⟨w.heap.size, 0, none⟩ = some (.int .i64 R) := G0.cell 0
  have k1 : v0.cell? ⟨w.heap.size, 1, none⟩ = some (.int .i64 C) := G0.cell 1
  have k2 : v0.cell? ⟨w.heap.size, 2, none⟩ = some (.slice ca cn cc) := G0.cell 2
  clear G0 G1 B0
  go_wp2_with (first | (go_at_call 140; refine (copiedTable_any (H.out.below HB0.out) hl hx).mono ?_; rintro e w1 ⟨⟨p, q, rs, rfl, ho1⟩, hb1⟩; have HZ : Hid (RowAt w1 (w.heap.size + 1) #[.int .i64 0, .int .i64 0, .slice none 0 0, .int .i64 0, .int .i64 0, .slice none 0 0] 49) := H1.out.below hb1 l1) | (refine wpList_store_row rfl 49 (.tmp 2) (.tmp 6) rfl (w.heap.size + 1) #[.int .i64 3, .int .i64 0, .slice none 0 0, .int .i64 R, .int .i64 C, .slice p cn q] rfl rfl 49 _ HZ.out block_info rfl (cells6_one _ _ _ _ _ _ _ _ _ _) ?_))
  have s1 := hb1.size
  refine bodyPost_ret (v := .agg #[.int .i64 3, .int .i64 0, .slice none 0 0, .int .i64 R, .int .i64 C, .slice p cn q]) (results_cell_row (p := 2) (ty := 49) rfl _ _ (w.heap.size + 1) 49 _ _ _ rfl (RowAt.setRow HZ.out _) Try.underlying49 rfl block_info) rfl ⟨⟨p, q, rfl, ?_⟩, below_row (HB0.out.trans (hb1.mono s0)) (by omega) _⟩
  have sz : (w1.setRow (w.heap.size + 1) #[.int .i64 3, .int .i64 0, .slice none 0 0, .int .i64 R, .int .i64 C, .slice p cn q]).heap.size = w1.heap.size := by simp [World.setRow]
  rw [sz]
  have ho2 : OwnT (w1.setRow (w.heap.size + 1) #[.int .i64 3, .int .i64 0, .slice none 0 0, .int .i64 R, .int .i64 C, .slice p cn q]) v0.heap.size (.slice p cn q) rs l := ⟨own_row ho1.1 _ _ (fun e => by have := (own_lt ho1.1 e).1; omega), ho1.2.rowLow _ _ (by omega)⟩
  exact ⟨⟨rfl, rfl, rfl, rfl⟩, Own.nil _ _, fun g hg => by simp [sl3V, Value.ownBlock] at hg, ⟨rs, ho2.less (by omega), fun g hg => (own_lt ho1.1 hg).2, fun k hk g hg => ho1.2.blockLt k hk g hg⟩, Nat.le_refl _, by omega⟩
end Go.Proofs.Ythjipnocemioaaa
namespace Go.Proofs.Ythjipnocemioaaa
open Go.RowKit

theorem isNoTable_is {R C : Int} {ca : Option Addr} {cn cc : Nat} {l : List Cl} {w : World} {x : Bool} (hx : noneB R C l = x) (h : Tab w ca cn cc l) :
    Calls Try.prog 79 #[.agg #[.int .i64 R, .int .i64 C, .slice ca cn cc]] w fun e w' => e = .returned (.bool x) ∧ Below w.heap.size w w' := by
  have hn := h.1
  have hl : (l = []) ↔ (cn = 0) := by rw [hn]; exact List.length_eq_zero_iff.symm
  have HX : Hid (noneB R C l = x) := hx
  have HL : Hid ((l = []) ↔ (cn = 0)) := hl
  clear h hn hl hx
  go_enter Try.func79, Try.ntmps79
  by_cases h1 : R = 0
  · by_cases h2 : C = 0
    · by_cases h3 : cn = 0
      · have HE : Hid (noneB R C l = true) := by
          show noneB R C l = true
          simp [noneB, h1, h2, HL.out.2 h3]
        have hxe : x = true := HX.out.symm.trans HE.out
        clear HE HX HL
        subst h1 h2 h3
        go_wp2
        all_goals go_ret
        all_goals exact ⟨by rw [hxe]; rfl, (Below.refl _ _).alloc (Nat.le_refl _) _⟩
      · have HE : Hid (noneB R C l = false) := by
          show noneB R C l = false
          simp [noneB, show ¬ l = [] from fun e => h3 (HL.out.1 e)]
        have hxe : x = false := HX.out.symm.trans HE.out
        clear HE HX HL
        subst h1 h2
        go_wp2
        all_goals go_ret
        all_goals exact ⟨by rw [hxe]; simp [h3], (Below.refl _ _).alloc (Nat.le_refl _) _⟩
    · subst h1
      go_wp2
      all_goals go_ret
      all_goals exact ⟨by rw [← HX.out]; simp [noneB, h2], (Below.refl _ _).alloc (Nat.le_refl _) _⟩
  · go_wp2
    all_goals go_ret
    all_goals exact ⟨by rw [← HX.out]; simp [noneB, h1], (Below.refl _ _).alloc (Nat.le_refl _) _⟩
end Go.Proofs.Ythjipnocemioaaa
namespace Go.Proofs.Ythjipnocemioaaa
open Go.RowKit

/-- A part as a value, by a block's kind. -/
def partV (k v : Int) (ta : Option Addr) (tn tc : Nat) (R C : Int) (ca : Option Addr) (cn cc : Nat) : Value :=
  if k = 1 then .iface 111 (.agg #[.slice ta tn tc]) else if k = 2 then .iface 103 (.agg #[.int .i64 v, .slice ta tn tc]) else if k = 3 then .iface 119 (.agg #[.int .i64 R, .int .i64 C, .slice ca cn cc]) else .nilIface
/-- Whether a block has nothing that is not of its kind. -/
def partB (k v : Int) (t : List Sg) (R C : Int) (l : List Cl) : Bool :=
  if k = 1 then decide (v = 0) && noneB R C l else if k = 2 then noneB R C l else if k = 3 then decide (v = 0) && decide (t = []) else false
set_option maxRecDepth 100000 in
set_option maxHeartbeats 4000000 in
theorem partOf_is {k v : Int} {ta : Option Addr} {tn tc : Nat} {R C : Int} {ca : Option Addr} {cn cc : Nat} {t : List Sg} {l : List Cl} {w : World} (ht : Txt w ta tn tc t) (hc : Tab w ca cn cc l) :
    Calls Try.prog 60 #[.agg #[.int .i64 k, .int .i64 v, .slice ta tn tc, .int .i64 R, .int .i64 C, .slice ca cn cc]] w fun e w' => e = .returned (.tuple #[partV k v ta tn tc R C ca cn cc, .bool (partB k v t R C l)]) ∧ Below w.heap.size w w' := by
  obtain ⟨nb, HNB⟩ : ∃ b, Hid (noneB R C l = b) := ⟨_, rfl⟩
  have HTN : Hid ((t = []) ↔ (tn = 0)) := by
    have hn := ht.1
    show (t = []) ↔ (tn = 0)
    rw [hn]
    exact List.length_eq_zero_iff.symm
  go_enter Try.func60, Try.ntmps60
  go_upto_region 1 with fail
  have B0 : Below w.heap.size w (w.alloc (.cells #[.int .i64 k, .int .i64 v, .slice ta tn tc, .int .i64 R, .int .i64 C, .slice ca cn cc] 49)) := (Below.refl _ _).alloc (Nat.le_refl _) _
  have G0 : RowAt (w.alloc (.cells #[.int .i64 k, .int .i64 v, .slice ta tn tc, .int .i64 R, .int .i64 C, .slice ca cn cc] 49)) w.heap.size #[.int .i64 k, .int .i64 v, .slice ta tn tc, .int .i64 R, .int .i64 C, .slice ca cn cc] 49 := rowAt_new _ _ _
  generalize (w.alloc (.cells #[.int .i64 k, .int .i64 v, .slice ta tn tc, .int .i64 R, .int .i64 C, .slice ca cn cc] 49)) = v0 at B0 G0 ⊢
  have HC0 : Hid (Tab v0 ca cn cc l) := hc.below B0
  have HB0 : Hid (Below w.heap.size w v0) := B0
  have HG0 : Hid (RowAt v0 w.heap.size #[.int .i64 k, .int .i64 v, .slice ta tn tc, .int .i64 R, .int .i64 C, .slice ca cn cc] 49) := G0
  have q0 : v0.cell? ⟨w.heap.size, 0, none⟩ = some (.int .i64 k) := G0.cell 0
  clear B0 G0 ht hc
  by_cases h1 : k = 1
  · subst h1
    go_upto_region 3 with fail
    clear q0
    by_cases hv : v = 0
    · subst hv
      cases nb
      · refine wp_region_noPanic ?_
        refine wp_region_held_drew (S := fun w' => RowAt w' w.heap.size #[.int .i64 1, .int .i64 0, .slice ta tn tc, .int .i64 R, .int .i64 C, .slice ca cn cc] 49) (by kernel_rfl) HG0.out (fun hHeld => ?_)
        refine take_at 0 8 (.pointer (some ⟨w.heap.size, 2, none⟩)) rfl rfl (by kernel_rfl) (by kernel_rfl) (by kernel_rfl) (fun _ _ _ h => h) (Or.inl ⟨by kernel_rfl, fun w' hS' => by go_simp⟩) hHeld ?_
        (try simp only [Act.put, List.setIfInBounds_toArray, List.set_cons_zero, List.set_cons_succ])
        refine take_at 1 9 (.slice ta tn tc) rfl rfl (by kernel_rfl) (by kernel_rfl) (by kernel_rfl) (fun _ _ _ h => h) (Or.inl ⟨by kernel_rfl, fun w' hS' => by have hc := RowAt.cell hS' 2; go_simp⟩) hHeld ?_
        (try simp only [Act.put, List.setIfInBounds_toArray, List.set_cons_zero, List.set_cons_succ])
        refine take_at 2 10 (.agg #[.slice ta tn tc]) rfl rfl (by kernel_rfl) (by kernel_rfl) (by kernel_rfl) (fun _ _ _ h => h) (Or.inl ⟨by kernel_rfl, fun w' hS' => by go_simp⟩) hHeld ?_
        (try simp only [Act.put, List.setIfInBounds_toArray, List.set_cons_zero, List.set_cons_succ])
        refine take_at 3 11 (.iface 111 (.agg #[.slice ta tn tc])) rfl rfl (by kernel_rfl) (by kernel_rfl) (by kernel_rfl) (fun _ _ _ h => h) (Or.inl ⟨by kernel_rfl, fun w' hS' => by go_simp⟩) hHeld ?_
        (try simp only [Act.put, List.setIfInBounds_toArray, List.set_cons_zero, List.set_cons_succ])
        refine take_at 4 12 (.pointer (some ⟨w.heap.size, 1, none⟩)) rfl rfl (by kernel_rfl) (by kernel_rfl) (by kernel_rfl) (fun _ _ _ h => h) (Or.inl ⟨by kernel_rfl, fun w' hS' => by go_simp⟩) hHeld ?_
        (try simp only [Act.put, List.setIfInBounds_toArray, List.set_cons_zero, List.set_cons_succ])
        refine take_at 5 13 (.int .i64 0) rfl rfl (by kernel_rfl) (by kernel_rfl) (by kernel_rfl) (fun _ _ _ h => h) (Or.inl ⟨by kernel_rfl, fun w' hS' => by have hc := RowAt.cell hS' 1; go_simp⟩) hHeld ?_
        (try simp only [Act.put, List.setIfInBounds_toArray, List.set_cons_zero, List.set_cons_succ])
        refine take_at 6 14 (.bool true) rfl rfl (by kernel_rfl) (by kernel_rfl) (by kernel_rfl) (fun _ _ _ h => h) (Or.inl ⟨by kernel_rfl, fun w' hS' => by go_simp⟩) hHeld ?_
        (try simp only [Act.put, List.setIfInBounds_toArray, List.set_cons_zero, List.set_cons_succ])
        refine take_at 7 15 (.bool true) rfl rfl (by kernel_rfl) (by kernel_rfl) (by kernel_rfl) (fun _ _ _ h => h) (Or.inl ⟨by kernel_rfl, fun w' hS' => by go_simp⟩) hHeld ?_
        (try simp only [Act.put, List.setIfInBounds_toArray, List.set_cons_zero, List.set_cons_succ])
        refine take_at 8 16 (.pointer (some ⟨w.heap.size, 3, none⟩)) rfl rfl (by kernel_rfl) (by kernel_rfl) (by kernel_rfl) (fun _ _ _ h => h) (Or.inl ⟨by kernel_rfl, fun w' hS' => by go_simp⟩) hHeld ?_
        (try simp only [Act.put, List.setIfInBounds_toArray, List.set_cons_zero, List.set_cons_succ])
        refine take_at 9 17 (.agg #[.int .i64 R, .int .i64 C, .slice ca cn cc]) rfl rfl (by kernel_rfl) (by kernel_rfl) (by kernel_rfl) (fun _ _ _ h => h) (Or.inl ⟨by kernel_rfl, fun w' hS' => by have h3 := RowAt.cell hS' 3; have h4 := RowAt.cell hS' 4; have h5 := RowAt.cell hS' 5; go_simp⟩) hHeld ?_
        (try simp only [Act.put, List.setIfInBounds_toArray, List.set_cons_zero, List.set_cons_succ])
        have HC1 : Hid (Tab v0.drew ca cn cc l) := HC0.out.below ((Below.refl _ _).drew)
        have HB1 : Hid (Below w.heap.size w v0.drew) := HB0.out.drew
        generalize v0.drew = u0 at HC1 HB1 hHeld ⊢
        refine wpAnyH_ready (rs := [10]) (by kernel_rfl) (by simp) ?_
        refine AllReadyH.cons rfl (fun K0 hK => ?_) AllReadyH.nil
        go_simp
        go_at_call 79
        refine (isNoTable_is HNB.out HC1.out).mono ?_
        rintro e u1 ⟨rfl, hb⟩
        have HB2 : Hid (Below w.heap.size w u1) := HB1.out.trans (hb.mono HB1.out.size)
        go_wp2_with fail
        refine hK.out _ _ (hHeld.below hb hHeld.lt) (fun hHeld => ?_)
        clear hK K0
        (try simp only [Act.put, List.setIfInBounds_toArray, List.set_cons_zero, List.set_cons_succ])
        refine take_at 11 19 (.bool false) rfl rfl (by kernel_rfl) (by kernel_rfl) (by kernel_rfl) (fun _ _ _ h => h) (Or.inl ⟨by kernel_rfl, fun w' hS' => by go_simp⟩) hHeld ?_
        (try simp only [Act.put, List.setIfInBounds_toArray, List.set_cons_zero, List.set_cons_succ])
        refine take_at 12 2 (.iface 111 (.agg #[.slice ta tn tc])) rfl rfl (by kernel_rfl) (by kernel_rfl) (by kernel_rfl) (fun _ _ _ h => h) (Or.inl ⟨by kernel_rfl, fun w' hS' => by go_simp⟩) hHeld ?_
        (try simp only [Act.put, List.setIfInBounds_toArray, List.set_cons_zero, List.set_cons_succ])
        refine take_at 13 3 (.bool false) rfl rfl (by kernel_rfl) (by kernel_rfl) (by kernel_rfl) (fun _ _ _ h => h) (Or.inl ⟨by kernel_rfl, fun w' hS' => by go_simp⟩) hHeld ?_
        (try simp only [Act.put, List.setIfInBounds_toArray, List.set_cons_zero, List.set_cons_succ])
        refine wpAnyH_done (by kernel_rfl) ?_ _
        refine NoPanic.normal ?_
        clear hHeld
        go_wp2_with fail
        go_ret2
        exact ⟨by simp [partV, partB, HNB.out], HB2.out⟩
      · refine wp_region_noPanic ?_
        refine wp_region_held_drew (S := fun w' => RowAt w' w.heap.size #[.int .i64 1, .int .i64 0, .slice ta tn tc, .int .i64 R, .int .i64 C, .slice ca cn cc] 49) (by kernel_rfl) HG0.out (fun hHeld => ?_)
        refine take_at 0 8 (.pointer (some ⟨w.heap.size, 2, none⟩)) rfl rfl (by kernel_rfl) (by kernel_rfl) (by kernel_rfl) (fun _ _ _ h => h) (Or.inl ⟨by kernel_rfl, fun w' hS' => by go_simp⟩) hHeld ?_
        (try simp only [Act.put, List.setIfInBounds_toArray, List.set_cons_zero, List.set_cons_succ])
        refine take_at 1 9 (.slice ta tn tc) rfl rfl (by kernel_rfl) (by kernel_rfl) (by kernel_rfl) (fun _ _ _ h => h) (Or.inl ⟨by kernel_rfl, fun w' hS' => by have hc := RowAt.cell hS' 2; go_simp⟩) hHeld ?_
        (try simp only [Act.put, List.setIfInBounds_toArray, List.set_cons_zero, List.set_cons_succ])
        refine take_at 2 10 (.agg #[.slice ta tn tc]) rfl rfl (by kernel_rfl) (by kernel_rfl) (by kernel_rfl) (fun _ _ _ h => h) (Or.inl ⟨by kernel_rfl, fun w' hS' => by go_simp⟩) hHeld ?_
        (try simp only [Act.put, List.setIfInBounds_toArray, List.set_cons_zero, List.set_cons_succ])
        refine take_at 3 11 (.iface 111 (.agg #[.slice ta tn tc])) rfl rfl (by kernel_rfl) (by kernel_rfl) (by kernel_rfl) (fun _ _ _ h => h) (Or.inl ⟨by kernel_rfl, fun w' hS' => by go_simp⟩) hHeld ?_
        (try simp only [Act.put, List.setIfInBounds_toArray, List.set_cons_zero, List.set_cons_succ])
        refine take_at 4 12 (.pointer (some ⟨w.heap.size, 1, none⟩)) rfl rfl (by kernel_rfl) (by kernel_rfl) (by kernel_rfl) (fun _ _ _ h => h) (Or.inl ⟨by kernel_rfl, fun w' hS' => by go_simp⟩) hHeld ?_
        (try simp only [Act.put, List.setIfInBounds_toArray, List.set_cons_zero, List.set_cons_succ])
        refine take_at 5 13 (.int .i64 0) rfl rfl (by kernel_rfl) (by kernel_rfl) (by kernel_rfl) (fun _ _ _ h => h) (Or.inl ⟨by kernel_rfl, fun w' hS' => by have hc := RowAt.cell hS' 1; go_simp⟩) hHeld ?_
        (try simp only [Act.put, List.setIfInBounds_toArray, List.set_cons_zero, List.set_cons_succ])
        refine take_at 6 14 (.bool true) rfl rfl (by kernel_rfl) (by kernel_rfl) (by kernel_rfl) (fun _ _ _ h => h) (Or.inl ⟨by kernel_rfl, fun w' hS' => by go_simp⟩) hHeld ?_
        (try simp only [Act.put, List.setIfInBounds_toArray, List.set_cons_zero, List.set_cons_succ])
        refine take_at 7 15 (.bool true) rfl rfl (by kernel_rfl) (by kernel_rfl) (by kernel_rfl) (fun _ _ _ h => h) (Or.inl ⟨by kernel_rfl, fun w' hS' => by go_simp⟩) hHeld ?_
        (try simp only [Act.put, List.setIfInBounds_toArray, List.set_cons_zero, List.set_cons_succ])
        refine take_at 8 16 (.pointer (some ⟨w.heap.size, 3, none⟩)) rfl rfl (by kernel_rfl) (by kernel_rfl) (by kernel_rfl) (fun _ _ _ h => h) (Or.inl ⟨by kernel_rfl, fun w' hS' => by go_simp⟩) hHeld ?_
        (try simp only [Act.put, List.setIfInBounds_toArray, List.set_cons_zero, List.set_cons_succ])
        refine take_at 9 17 (.agg #[.int .i64 R, .int .i64 C, .slice ca cn cc]) rfl rfl (by kernel_rfl) (by kernel_rfl) (by kernel_rfl) (fun _ _ _ h => h) (Or.inl ⟨by kernel_rfl, fun w' hS' => by have h3 := RowAt.cell hS' 3; have h4 := RowAt.cell hS' 4; have h5 := RowAt.cell hS' 5; go_simp⟩) hHeld ?_
        (try simp only [Act.put, List.setIfInBounds_toArray, List.set_cons_zero, List.set_cons_succ])
        have HC1 : Hid (Tab v0.drew ca cn cc l) := HC0.out.below ((Below.refl _ _).drew)
        have HB1 : Hid (Below w.heap.size w v0.drew) := HB0.out.drew
        generalize v0.drew = u0 at HC1 HB1 hHeld ⊢
        refine wpAnyH_ready (rs := [10]) (by kernel_rfl) (by simp) ?_
        refine AllReadyH.cons rfl (fun K0 hK => ?_) AllReadyH.nil
        go_simp
        go_at_call 79
        refine (isNoTable_is HNB.out HC1.out).mono ?_
        rintro e u1 ⟨rfl, hb⟩
        have HB2 : Hid (Below w.heap.size w u1) := HB1.out.trans (hb.mono HB1.out.size)
        go_wp2_with fail
        refine hK.out _ _ (hHeld.below hb hHeld.lt) (fun hHeld => ?_)
        clear hK K0
        (try simp only [Act.put, List.setIfInBounds_toArray, List.set_cons_zero, List.set_cons_succ])
        refine take_at 11 19 (.bool true) rfl rfl (by kernel_rfl) (by kernel_rfl) (by kernel_rfl) (fun _ _ _ h => h) (Or.inl ⟨by kernel_rfl, fun w' hS' => by go_simp⟩) hHeld ?_
        (try simp only [Act.put, List.setIfInBounds_toArray, List.set_cons_zero, List.set_cons_succ])
        refine take_at 12 2 (.iface 111 (.agg #[.slice ta tn tc])) rfl rfl (by kernel_rfl) (by kernel_rfl) (by kernel_rfl) (fun _ _ _ h => h) (Or.inl ⟨by kernel_rfl, fun w' hS' => by go_simp⟩) hHeld ?_
        (try simp only [Act.put, List.setIfInBounds_toArray, List.set_cons_zero, List.set_cons_succ])
        refine take_at 13 3 (.bool true) rfl rfl (by kernel_rfl) (by kernel_rfl) (by kernel_rfl) (fun _ _ _ h => h) (Or.inl ⟨by kernel_rfl, fun w' hS' => by go_simp⟩) hHeld ?_
        (try simp only [Act.put, List.setIfInBounds_toArray, List.set_cons_zero, List.set_cons_succ])
        refine wpAnyH_done (by kernel_rfl) ?_ _
        refine NoPanic.normal ?_
        clear hHeld
        go_wp2_with fail
        go_ret2
        exact ⟨by simp [partV, partB, HNB.out], HB2.out⟩
    · refine wp_region_noPanic ?_
      refine wp_region_held_drew (S := fun w' => RowAt w' w.heap.size #[.int .i64 1, .int .i64 v, .slice ta tn tc, .int .i64 R, .int .i64 C, .slice ca cn cc] 49) (by kernel_rfl) HG0.out (fun hHeld => ?_)
      refine take_at 0 8 (.pointer (some ⟨w.heap.size, 2, none⟩)) rfl rfl (by kernel_rfl) (by kernel_rfl) (by kernel_rfl) (fun _ _ _ h => h) (Or.inl ⟨by kernel_rfl, fun w' hS' => by go_simp⟩) hHeld ?_
      (try simp only [Act.put, List.setIfInBounds_toArray, List.set_cons_zero, List.set_cons_succ])
      refine take_at 1 9 (.slice ta tn tc) rfl rfl (by kernel_rfl) (by kernel_rfl) (by kernel_rfl) (fun _ _ _ h => h) (Or.inl ⟨by kernel_rfl, fun w' hS' => by have hc := RowAt.cell hS' 2; go_simp⟩) hHeld ?_
      (try simp only [Act.put, List.setIfInBounds_toArray, List.set_cons_zero, List.set_cons_succ])
      refine take_at 2 10 (.agg #[.slice ta tn tc]) rfl rfl (by kernel_rfl) (by kernel_rfl) (by kernel_rfl) (fun _ _ _ h => h) (Or.inl ⟨by kernel_rfl, fun w' hS' => by go_simp⟩) hHeld ?_
      (try simp only [Act.put, List.setIfInBounds_toArray, List.set_cons_zero, List.set_cons_succ])
      refine take_at 3 11 (.iface 111 (.agg #[.slice ta tn tc])) rfl rfl (by kernel_rfl) (by kernel_rfl) (by kernel_rfl) (fun _ _ _ h => h) (Or.inl ⟨by kernel_rfl, fun w' hS' => by go_simp⟩) hHeld ?_
      (try simp only [Act.put, List.setIfInBounds_toArray, List.set_cons_zero, List.set_cons_succ])
      refine take_at 4 12 (.pointer (some ⟨w.heap.size, 1, none⟩)) rfl rfl (by kernel_rfl) (by kernel_rfl) (by kernel_rfl) (fun _ _ _ h => h) (Or.inl ⟨by kernel_rfl, fun w' hS' => by go_simp⟩) hHeld ?_
      (try simp only [Act.put, List.setIfInBounds_toArray, List.set_cons_zero, List.set_cons_succ])
      refine take_at 5 13 (.int .i64 v) rfl rfl (by kernel_rfl) (by kernel_rfl) (by kernel_rfl) (fun _ _ _ h => h) (Or.inl ⟨by kernel_rfl, fun w' hS' => by have hc := RowAt.cell hS' 1; go_simp⟩) hHeld ?_
      (try simp only [Act.put, List.setIfInBounds_toArray, List.set_cons_zero, List.set_cons_succ])
      refine take_at 6 14 (.bool false) rfl rfl (by kernel_rfl) (by kernel_rfl) (by kernel_rfl) (fun _ _ _ h => h) (Or.inl ⟨by kernel_rfl, fun w' hS' => by go_simp <;> omega⟩) hHeld ?_
      (try simp only [Act.put, List.setIfInBounds_toArray, List.set_cons_zero, List.set_cons_succ])
      refine take_at 7 15 (.bool false) rfl rfl (by kernel_rfl) (by kernel_rfl) (by kernel_rfl) (fun _ _ _ h => h) (Or.inl ⟨by kernel_rfl, fun w' hS' => by go_simp⟩) hHeld ?_
      (try simp only [Act.put, List.setIfInBounds_toArray, List.set_cons_zero, List.set_cons_succ])
      refine take_at 8 16 (undef) rfl rfl (by kernel_rfl) (by kernel_rfl) (by kernel_rfl) (fun _ _ _ h => h) (Or.inr ⟨by kernel_rfl, rfl⟩) hHeld ?_
      (try simp only [Act.put, List.setIfInBounds_toArray, List.set_cons_zero, List.set_cons_succ])
      refine take_at 9 17 (undef) rfl rfl (by kernel_rfl) (by kernel_rfl) (by kernel_rfl) (fun _ _ _ h => h) (Or.inr ⟨by kernel_rfl, rfl⟩) hHeld ?_
      (try simp only [Act.put, List.setIfInBounds_toArray, List.set_cons_zero, List.set_cons_succ])
      refine take_at 10 18 (undef) rfl rfl (by kernel_rfl) (by kernel_rfl) (by kernel_rfl) (fun _ _ _ h => h) (Or.inr ⟨by kernel_rfl, rfl⟩) hHeld ?_
      (try simp only [Act.put, List.setIfInBounds_toArray, List.set_cons_zero, List.set_cons_succ])
      refine take_at 11 19 (.bool false) rfl rfl (by kernel_rfl) (by kernel_rfl) (by kernel_rfl) (fun _ _ _ h => h) (Or.inl ⟨by kernel_rfl, fun w' hS' => by go_simp⟩) hHeld ?_
      (try simp only [Act.put, List.setIfInBounds_toArray, List.set_cons_zero, List.set_cons_succ])
      refine take_at 12 2 (.iface 111 (.agg #[.slice ta tn tc])) rfl rfl (by kernel_rfl) (by kernel_rfl) (by kernel_rfl) (fun _ _ _ h => h) (Or.inl ⟨by kernel_rfl, fun w' hS' => by go_simp⟩) hHeld ?_
      (try simp only [Act.put, List.setIfInBounds_toArray, List.set_cons_zero, List.set_cons_succ])
      refine take_at 13 3 (.bool false) rfl rfl (by kernel_rfl) (by kernel_rfl) (by kernel_rfl) (fun _ _ _ h => h) (Or.inl ⟨by kernel_rfl, fun w' hS' => by go_simp⟩) hHeld ?_
      (try simp only [Act.put, List.setIfInBounds_toArray, List.set_cons_zero, List.set_cons_succ])
      refine wpAnyH_done (by kernel_rfl) ?_ _
      refine NoPanic.normal ?_
      clear hHeld
      go_wp2_with fail
      go_ret2
      exact ⟨by simp [partV, partB, hv], HB0.out.drew⟩
  · by_cases h2 : k = 2
    · subst h2
      go_upto_region 5 with fail
      clear q0
      cases nb
      · refine wp_region_noPanic ?_
        refine wp_region_held_drew (S := fun w' => RowAt w' w.heap.size #[.int .i64 2, .int .i64 v, .slice ta tn tc, .int .i64 R, .int .i64 C, .slice ca cn cc] 49) (by kernel_rfl) HG0.out (fun hHeld => ?_)
        refine take_at 0 22 (.pointer (some ⟨w.heap.size, 1, none⟩)) rfl rfl (by kernel_rfl) (by kernel_rfl) (by kernel_rfl) (fun _ _ _ h => h) (Or.inl ⟨by kernel_rfl, fun w' hS' => by go_simp⟩) hHeld ?_
        (try simp only [Act.put, List.setIfInBounds_toArray, List.set_cons_zero, List.set_cons_succ])
        refine take_at 1 23 (.int .i64 v) rfl rfl (by kernel_rfl) (by kernel_rfl) (by kernel_rfl) (fun _ _ _ h => h) (Or.inl ⟨by kernel_rfl, fun w' hS' => by have hc := RowAt.cell hS' 1; go_simp⟩) hHeld ?_
        (try simp only [Act.put, List.setIfInBounds_toArray, List.set_cons_zero, List.set_cons_succ])
        refine take_at 2 24 (.pointer (some ⟨w.heap.size, 2, none⟩)) rfl rfl (by kernel_rfl) (by kernel_rfl) (by kernel_rfl) (fun _ _ _ h => h) (Or.inl ⟨by kernel_rfl, fun w' hS' => by go_simp⟩) hHeld ?_
        (try simp only [Act.put, List.setIfInBounds_toArray, List.set_cons_zero, List.set_cons_succ])
        refine take_at 3 25 (.slice ta tn tc) rfl rfl (by kernel_rfl) (by kernel_rfl) (by kernel_rfl) (fun _ _ _ h => h) (Or.inl ⟨by kernel_rfl, fun w' hS' => by have hc := RowAt.cell hS' 2; go_simp⟩) hHeld ?_
        (try simp only [Act.put, List.setIfInBounds_toArray, List.set_cons_zero, List.set_cons_succ])
        refine take_at 4 26 (.agg #[.int .i64 v, .slice ta tn tc]) rfl rfl (by kernel_rfl) (by kernel_rfl) (by kernel_rfl) (fun _ _ _ h => h) (Or.inl ⟨by kernel_rfl, fun w' hS' => by go_simp⟩) hHeld ?_
        (try simp only [Act.put, List.setIfInBounds_toArray, List.set_cons_zero, List.set_cons_succ])
        refine take_at 5 27 (.iface 103 (.agg #[.int .i64 v, .slice ta tn tc])) rfl rfl (by kernel_rfl) (by kernel_rfl) (by kernel_rfl) (fun _ _ _ h => h) (Or.inl ⟨by kernel_rfl, fun w' hS' => by go_simp⟩) hHeld ?_
        (try simp only [Act.put, List.setIfInBounds_toArray, List.set_cons_zero, List.set_cons_succ])
        refine take_at 6 28 (.pointer (some ⟨w.heap.size, 3, none⟩)) rfl rfl (by kernel_rfl) (by kernel_rfl) (by kernel_rfl) (fun _ _ _ h => h) (Or.inl ⟨by kernel_rfl, fun w' hS' => by go_simp⟩) hHeld ?_
        (try simp only [Act.put, List.setIfInBounds_toArray, List.set_cons_zero, List.set_cons_succ])
        refine take_at 7 29 (.agg #[.int .i64 R, .int .i64 C, .slice ca cn cc]) rfl rfl (by kernel_rfl) (by kernel_rfl) (by kernel_rfl) (fun _ _ _ h => h) (Or.inl ⟨by kernel_rfl, fun w' hS' => by have h3 := RowAt.cell hS' 3; have h4 := RowAt.cell hS' 4; have h5 := RowAt.cell hS' 5; go_simp⟩) hHeld ?_
        (try simp only [Act.put, List.setIfInBounds_toArray, List.set_cons_zero, List.set_cons_succ])
        have HC1 : Hid (Tab v0.drew ca cn cc l) := HC0.out.below ((Below.refl _ _).drew)
        have HB1 : Hid (Below w.heap.size w v0.drew) := HB0.out.drew
        generalize v0.drew = u0 at HC1 HB1 hHeld ⊢
        refine wpAnyH_ready (rs := [8]) (by kernel_rfl) (by simp) ?_
        refine AllReadyH.cons rfl (fun K0 hK => ?_) AllReadyH.nil
        go_simp
        go_at_call 79
        refine (isNoTable_is HNB.out HC1.out).mono ?_
        rintro e u1 ⟨rfl, hb⟩
        have HB2 : Hid (Below w.heap.size w u1) := HB1.out.trans (hb.mono HB1.out.size)
        go_wp2_with fail
        refine hK.out _ _ (hHeld.below hb hHeld.lt) (fun hHeld => ?_)
        clear hK K0
        (try simp only [Act.put, List.setIfInBounds_toArray, List.set_cons_zero, List.set_cons_succ])
        refine take_at 9 2 (.iface 103 (.agg #[.int .i64 v, .slice ta tn tc])) rfl rfl (by kernel_rfl) (by kernel_rfl) (by kernel_rfl) (fun _ _ _ h => h) (Or.inl ⟨by kernel_rfl, fun w' hS' => by go_simp⟩) hHeld ?_
        (try simp only [Act.put, List.setIfInBounds_toArray, List.set_cons_zero, List.set_cons_succ])
        refine take_at 10 3 (.bool false) rfl rfl (by kernel_rfl) (by kernel_rfl) (by kernel_rfl) (fun _ _ _ h => h) (Or.inl ⟨by kernel_rfl, fun w' hS' => by go_simp⟩) hHeld ?_
        (try simp only [Act.put, List.setIfInBounds_toArray, List.set_cons_zero, List.set_cons_succ])
        refine wpAnyH_done (by kernel_rfl) ?_ _
        refine NoPanic.normal ?_
        clear hHeld
        go_wp2_with fail
        go_ret2
        exact ⟨by simp [partV, partB, HNB.out], HB2.out⟩
      · refine wp_region_noPanic ?_
        refine wp_region_held_drew (S := fun w' => RowAt w' w.heap.size #[.int .i64 2, .int .i64 v, .slice ta tn tc, .int .i64 R, .int .i64 C, .slice ca cn cc] 49) (by kernel_rfl) HG0.out (fun hHeld => ?_)
        refine take_at 0 22 (.pointer (some ⟨w.heap.size, 1, none⟩)) rfl rfl (by kernel_rfl) (by kernel_rfl) (by kernel_rfl) (fun _ _ _ h => h) (Or.inl ⟨by kernel_rfl, fun w' hS' => by go_simp⟩) hHeld ?_
        (try simp only [Act.put, List.setIfInBounds_toArray, List.set_cons_zero, List.set_cons_succ])
        refine take_at 1 23 (.int .i64 v) rfl rfl (by kernel_rfl) (by kernel_rfl) (by kernel_rfl) (fun _ _ _ h => h) (Or.inl ⟨by kernel_rfl, fun w' hS' => by have hc := RowAt.cell hS' 1; go_simp⟩) hHeld ?_
        (try simp only [Act.put, List.setIfInBounds_toArray, List.set_cons_zero, List.set_cons_succ])
        refine take_at 2 24 (.pointer (some ⟨w.heap.size, 2, none⟩)) rfl rfl (by kernel_rfl) (by kernel_rfl) (by kernel_rfl) (fun _ _ _ h => h) (Or.inl ⟨by kernel_rfl, fun w' hS' => by go_simp⟩) hHeld ?_
        (try simp only [Act.put, List.setIfInBounds_toArray, List.set_cons_zero, List.set_cons_succ])
        refine take_at 3 25 (.slice ta tn tc) rfl rfl (by kernel_rfl) (by kernel_rfl) (by kernel_rfl) (fun _ _ _ h => h) (Or.inl ⟨by kernel_rfl, fun w' hS' => by have hc := RowAt.cell hS' 2; go_simp⟩) hHeld ?_
        (try simp only [Act.put, List.setIfInBounds_toArray, List.set_cons_zero, List.set_cons_succ])
        refine take_at 4 26 (.agg #[.int .i64 v, .slice ta tn tc]) rfl rfl (by kernel_rfl) (by kernel_rfl) (by kernel_rfl) (fun _ _ _ h => h) (Or.inl ⟨by kernel_rfl, fun w' hS' => by go_simp⟩) hHeld ?_
        (try simp only [Act.put, List.setIfInBounds_toArray, List.set_cons_zero, List.set_cons_succ])
        refine take_at 5 27 (.iface 103 (.agg #[.int .i64 v, .slice ta tn tc])) rfl rfl (by kernel_rfl) (by kernel_rfl) (by kernel_rfl) (fun _ _ _ h => h) (Or.inl ⟨by kernel_rfl, fun w' hS' => by go_simp⟩) hHeld ?_
        (try simp only [Act.put, List.setIfInBounds_toArray, List.set_cons_zero, List.set_cons_succ])
        refine take_at 6 28 (.pointer (some ⟨w.heap.size, 3, none⟩)) rfl rfl (by kernel_rfl) (by kernel_rfl) (by kernel_rfl) (fun _ _ _ h => h) (Or.inl ⟨by kernel_rfl, fun w' hS' => by go_simp⟩) hHeld ?_
        (try simp only [Act.put, List.setIfInBounds_toArray, List.set_cons_zero, List.set_cons_succ])
        refine take_at 7 29 (.agg #[.int .i64 R, .int .i64 C, .slice ca cn cc]) rfl rfl (by kernel_rfl) (by kernel_rfl) (by kernel_rfl) (fun _ _ _ h => h) (Or.inl ⟨by kernel_rfl, fun w' hS' => by have h3 := RowAt.cell hS' 3; have h4 := RowAt.cell hS' 4; have h5 := RowAt.cell hS' 5; go_simp⟩) hHeld ?_
        (try simp only [Act.put, List.setIfInBounds_toArray, List.set_cons_zero, List.set_cons_succ])
        have HC1 : Hid (Tab v0.drew ca cn cc l) := HC0.out.below ((Below.refl _ _).drew)
        have HB1 : Hid (Below w.heap.size w v0.drew) := HB0.out.drew
        generalize v0.drew = u0 at HC1 HB1 hHeld ⊢
        refine wpAnyH_ready (rs := [8]) (by kernel_rfl) (by simp) ?_
        refine AllReadyH.cons rfl (fun K0 hK => ?_) AllReadyH.nil
        go_simp
        go_at_call 79
        refine (isNoTable_is HNB.out HC1.out).mono ?_
        rintro e u1 ⟨rfl, hb⟩
        have HB2 : Hid (Below w.heap.size w u1) := HB1.out.trans (hb.mono HB1.out.size)
        go_wp2_with fail
        refine hK.out _ _ (hHeld.below hb hHeld.lt) (fun hHeld => ?_)
        clear hK K0
        (try simp only [Act.put, List.setIfInBounds_toArray, List.set_cons_zero, List.set_cons_succ])
        refine take_at 9 2 (.iface 103 (.agg #[.int .i64 v, .slice ta tn tc])) rfl rfl (by kernel_rfl) (by kernel_rfl) (by kernel_rfl) (fun _ _ _ h => h) (Or.inl ⟨by kernel_rfl, fun w' hS' => by go_simp⟩) hHeld ?_
        (try simp only [Act.put, List.setIfInBounds_toArray, List.set_cons_zero, List.set_cons_succ])
        refine take_at 10 3 (.bool true) rfl rfl (by kernel_rfl) (by kernel_rfl) (by kernel_rfl) (fun _ _ _ h => h) (Or.inl ⟨by kernel_rfl, fun w' hS' => by go_simp⟩) hHeld ?_
        (try simp only [Act.put, List.setIfInBounds_toArray, List.set_cons_zero, List.set_cons_succ])
        refine wpAnyH_done (by kernel_rfl) ?_ _
        refine NoPanic.normal ?_
        clear hHeld
        go_wp2_with fail
        go_ret2
        exact ⟨by simp [partV, partB, HNB.out], HB2.out⟩
    · by_cases h3 : k = 3
      · subst h3
        go_upto_region 7 with fail
        clear q0
        by_cases hv : v = 0
        · subst hv
          by_cases htn : tn = 0
          · have hte := HTN.out.2 htn
            refine wp_region_noPanic ?_
            refine wp_region_held_drew (S := fun w' => RowAt w' w.heap.size #[.int .i64 3, .int .i64 0, .slice ta tn tc, .int .i64 R, .int .i64 C, .slice ca cn cc] 49) (by kernel_rfl) HG0.out (fun hHeld => ?_)
            refine take_at 0 33 (.pointer (some ⟨w.heap.size, 3, none⟩)) rfl rfl (by kernel_rfl) (by kernel_rfl) (by kernel_rfl) (fun _ _ _ h => h) (Or.inl ⟨by kernel_rfl, fun w' hS' => by go_simp⟩) hHeld ?_
            (try simp only [Act.put, List.setIfInBounds_toArray, List.set_cons_zero, List.set_cons_succ])
            refine take_at 1 34 (.agg #[.int .i64 R, .int .i64 C, .slice ca cn cc]) rfl rfl (by kernel_rfl) (by kernel_rfl) (by kernel_rfl) (fun _ _ _ h => h) (Or.inl ⟨by kernel_rfl, fun w' hS' => by have h3 := RowAt.cell hS' 3; have h4 := RowAt.cell hS' 4; have h5 := RowAt.cell hS' 5; go_simp⟩) hHeld ?_
            (try simp only [Act.put, List.setIfInBounds_toArray, List.set_cons_zero, List.set_cons_succ])
            refine take_at 2 35 (.agg #[.int .i64 R, .int .i64 C, .slice ca cn cc]) rfl rfl (by kernel_rfl) (by kernel_rfl) (by kernel_rfl) (fun _ _ _ h => h) (Or.inl ⟨by kernel_rfl, fun w' hS' => by go_simp⟩) hHeld ?_
            (try simp only [Act.put, List.setIfInBounds_toArray, List.set_cons_zero, List.set_cons_succ])
            refine take_at 3 36 (.iface 119 (.agg #[.int .i64 R, .int .i64 C, .slice ca cn cc])) rfl rfl (by kernel_rfl) (by kernel_rfl) (by kernel_rfl) (fun _ _ _ h => h) (Or.inl ⟨by kernel_rfl, fun w' hS' => by go_simp⟩) hHeld ?_
            (try simp only [Act.put, List.setIfInBounds_toArray, List.set_cons_zero, List.set_cons_succ])
            refine take_at 4 37 (.pointer (some ⟨w.heap.size, 1, none⟩)) rfl rfl (by kernel_rfl) (by kernel_rfl) (by kernel_rfl) (fun _ _ _ h => h) (Or.inl ⟨by kernel_rfl, fun w' hS' => by go_simp⟩) hHeld ?_
            (try simp only [Act.put, List.setIfInBounds_toArray, List.set_cons_zero, List.set_cons_succ])
            refine take_at 5 38 (.int .i64 0) rfl rfl (by kernel_rfl) (by kernel_rfl) (by kernel_rfl) (fun _ _ _ h => h) (Or.inl ⟨by kernel_rfl, fun w' hS' => by have hc := RowAt.cell hS' 1; go_simp⟩) hHeld ?_
            (try simp only [Act.put, List.setIfInBounds_toArray, List.set_cons_zero, List.set_cons_succ])
            refine take_at 6 39 (.bool true) rfl rfl (by kernel_rfl) (by kernel_rfl) (by kernel_rfl) (fun _ _ _ h => h) (Or.inl ⟨by kernel_rfl, fun w' hS' => by go_simp⟩) hHeld ?_
            (try simp only [Act.put, List.setIfInBounds_toArray, List.set_cons_zero, List.set_cons_succ])
            refine take_at 7 40 (.bool true) rfl rfl (by kernel_rfl) (by kernel_rfl) (by kernel_rfl) (fun _ _ _ h => h) (Or.inl ⟨by kernel_rfl, fun w' hS' => by go_simp⟩) hHeld ?_
            (try simp only [Act.put, List.setIfInBounds_toArray, List.set_cons_zero, List.set_cons_succ])
            refine take_at 8 41 (.pointer (some ⟨w.heap.size, 2, none⟩)) rfl rfl (by kernel_rfl) (by kernel_rfl) (by kernel_rfl) (fun _ _ _ h => h) (Or.inl ⟨by kernel_rfl, fun w' hS' => by go_simp⟩) hHeld ?_
            (try simp only [Act.put, List.setIfInBounds_toArray, List.set_cons_zero, List.set_cons_succ])
            refine take_at 9 42 (.slice ta tn tc) rfl rfl (by kernel_rfl) (by kernel_rfl) (by kernel_rfl) (fun _ _ _ h => h) (Or.inl ⟨by kernel_rfl, fun w' hS' => by have hc := RowAt.cell hS' 2; go_simp⟩) hHeld ?_
            (try simp only [Act.put, List.setIfInBounds_toArray, List.set_cons_zero, List.set_cons_succ])
            refine take_at 10 43 (.int .i64 tn) rfl rfl (by kernel_rfl) (by kernel_rfl) (by kernel_rfl) (fun _ _ _ h => h) (Or.inl ⟨by kernel_rfl, fun w' hS' => by go_simp⟩) hHeld ?_
            (try simp only [Act.put, List.setIfInBounds_toArray, List.set_cons_zero, List.set_cons_succ])
            refine take_at 11 44 (.bool true) rfl rfl (by kernel_rfl) (by kernel_rfl) (by kernel_rfl) (fun _ _ _ h => h) (Or.inl ⟨by kernel_rfl, fun w' hS' => by go_simp <;> omega⟩) hHeld ?_
            (try simp only [Act.put, List.setIfInBounds_toArray, List.set_cons_zero, List.set_cons_succ])
            refine take_at 12 45 (.bool true) rfl rfl (by kernel_rfl) (by kernel_rfl) (by kernel_rfl) (fun _ _ _ h => h) (Or.inl ⟨by kernel_rfl, fun w' hS' => by go_simp⟩) hHeld ?_
            (try simp only [Act.put, List.setIfInBounds_toArray, List.set_cons_zero, List.set_cons_succ])
            refine take_at 13 2 (.iface 119 (.agg #[.int .i64 R, .int .i64 C, .slice ca cn cc])) rfl rfl (by kernel_rfl) (by kernel_rfl) (by kernel_rfl) (fun _ _ _ h => h) (Or.inl ⟨by kernel_rfl, fun w' hS' => by go_simp⟩) hHeld ?_
            (try simp only [Act.put, List.setIfInBounds_toArray, List.set_cons_zero, List.set_cons_succ])
            refine take_at 14 3 (.bool true) rfl rfl (by kernel_rfl) (by kernel_rfl) (by kernel_rfl) (fun _ _ _ h => h) (Or.inl ⟨by kernel_rfl, fun w' hS' => by go_simp⟩) hHeld ?_
            (try simp only [Act.put, List.setIfInBounds_toArray, List.set_cons_zero, List.set_cons_succ])
            refine wpAnyH_done (by kernel_rfl) ?_ _
            refine NoPanic.normal ?_
            clear hHeld
            go_wp2_with fail
            go_ret2
            exact ⟨by simp [partV, partB, hte], HB0.out.drew⟩
          · have hte : ¬ t = [] := fun e => htn (HTN.out.1 e)
            refine wp_region_noPanic ?_
            refine wp_region_held_drew (S := fun w' => RowAt w' w.heap.size #[.int .i64 3, .int .i64 0, .slice ta tn tc, .int .i64 R, .int .i64 C, .slice ca cn cc] 49) (by kernel_rfl) HG0.out (fun hHeld => ?_)
            refine take_at 0 33 (.pointer (some ⟨w.heap.size, 3, none⟩)) rfl rfl (by kernel_rfl) (by kernel_rfl) (by kernel_rfl) (fun _ _ _ h => h) (Or.inl ⟨by kernel_rfl, fun w' hS' => by go_simp⟩) hHeld ?_
            (try simp only [Act.put, List.setIfInBounds_toArray, List.set_cons_zero, List.set_cons_succ])
            refine take_at 1 34 (.agg #[.int .i64 R, .int .i64 C, .slice ca cn cc]) rfl rfl (by kernel_rfl) (by kernel_rfl) (by kernel_rfl) (fun _ _ _ h => h) (Or.inl ⟨by kernel_rfl, fun w' hS' => by have h3 := RowAt.cell hS' 3; have h4 := RowAt.cell hS' 4; have h5 := RowAt.cell hS' 5; go_simp⟩) hHeld ?_
            (try simp only [Act.put, List.setIfInBounds_toArray, List.set_cons_zero, List.set_cons_succ])
            refine take_at 2 35 (.agg #[.int .i64 R, .int .i64 C, .slice ca cn cc]) rfl rfl (by kernel_rfl) (by kernel_rfl) (by kernel_rfl) (fun _ _ _ h => h) (Or.inl ⟨by kernel_rfl, fun w' hS' => by go_simp⟩) hHeld ?_
            (try simp only [Act.put, List.setIfInBounds_toArray, List.set_cons_zero, List.set_cons_succ])
            refine take_at 3 36 (.iface 119 (.agg #[.int .i64 R, .int .i64 C, .slice ca cn cc])) rfl rfl (by kernel_rfl) (by kernel_rfl) (by kernel_rfl) (fun _ _ _ h => h) (Or.inl ⟨by kernel_rfl, fun w' hS' => by go_simp⟩) hHeld ?_
            (try simp only [Act.put, List.setIfInBounds_toArray, List.set_cons_zero, List.set_cons_succ])
            refine take_at 4 37 (.pointer (some ⟨w.heap.size, 1, none⟩)) rfl rfl (by kernel_rfl) (by kernel_rfl) (by kernel_rfl) (fun _ _ _ h => h) (Or.inl ⟨by kernel_rfl, fun w' hS' => by go_simp⟩) hHeld ?_
            (try simp only [Act.put, List.setIfInBounds_toArray, List.set_cons_zero, List.set_cons_succ])
            refine take_at 5 38 (.int .i64 0) rfl rfl (by kernel_rfl) (by kernel_rfl) (by kernel_rfl) (fun _ _ _ h => h) (Or.inl ⟨by kernel_rfl, fun w' hS' => by have hc := RowAt.cell hS' 1; go_simp⟩) hHeld ?_
            (try simp only [Act.put, List.setIfInBounds_toArray, List.set_cons_zero, List.set_cons_succ])
            refine take_at 6 39 (.bool true) rfl rfl (by kernel_rfl) (by kernel_rfl) (by kernel_rfl) (fun _ _ _ h => h) (Or.inl ⟨by kernel_rfl, fun w' hS' => by go_simp⟩) hHeld ?_
            (try simp only [Act.put, List.setIfInBounds_toArray, List.set_cons_zero, List.set_cons_succ])
            refine take_at 7 40 (.bool true) rfl rfl (by kernel_rfl) (by kernel_rfl) (by kernel_rfl) (fun _ _ _ h => h) (Or.inl ⟨by kernel_rfl, fun w' hS' => by go_simp⟩) hHeld ?_
            (try simp only [Act.put, List.setIfInBounds_toArray, List.set_cons_zero, List.set_cons_succ])
            refine take_at 8 41 (.pointer (some ⟨w.heap.size, 2, none⟩)) rfl rfl (by kernel_rfl) (by kernel_rfl) (by kernel_rfl) (fun _ _ _ h => h) (Or.inl ⟨by kernel_rfl, fun w' hS' => by go_simp⟩) hHeld ?_
            (try simp only [Act.put, List.setIfInBounds_toArray, List.set_cons_zero, List.set_cons_succ])
            refine take_at 9 42 (.slice ta tn tc) rfl rfl (by kernel_rfl) (by kernel_rfl) (by kernel_rfl) (fun _ _ _ h => h) (Or.inl ⟨by kernel_rfl, fun w' hS' => by have hc := RowAt.cell hS' 2; go_simp⟩) hHeld ?_
            (try simp only [Act.put, List.setIfInBounds_toArray, List.set_cons_zero, List.set_cons_succ])
            refine take_at 10 43 (.int .i64 tn) rfl rfl (by kernel_rfl) (by kernel_rfl) (by kernel_rfl) (fun _ _ _ h => h) (Or.inl ⟨by kernel_rfl, fun w' hS' => by go_simp⟩) hHeld ?_
            (try simp only [Act.put, List.setIfInBounds_toArray, List.set_cons_zero, List.set_cons_succ])
            refine take_at 11 44 (.bool false) rfl rfl (by kernel_rfl) (by kernel_rfl) (by kernel_rfl) (fun _ _ _ h => h) (Or.inl ⟨by kernel_rfl, fun w' hS' => by go_simp <;> omega⟩) hHeld ?_
            (try simp only [Act.put, List.setIfInBounds_toArray, List.set_cons_zero, List.set_cons_succ])
            refine take_at 12 45 (.bool false) rfl rfl (by kernel_rfl) (by kernel_rfl) (by kernel_rfl) (fun _ _ _ h => h) (Or.inl ⟨by kernel_rfl, fun w' hS' => by go_simp⟩) hHeld ?_
            (try simp only [Act.put, List.setIfInBounds_toArray, List.set_cons_zero, List.set_cons_succ])
            refine take_at 13 2 (.iface 119 (.agg #[.int .i64 R, .int .i64 C, .slice ca cn cc])) rfl rfl (by kernel_rfl) (by kernel_rfl) (by kernel_rfl) (fun _ _ _ h => h) (Or.inl ⟨by kernel_rfl, fun w' hS' => by go_simp⟩) hHeld ?_
            (try simp only [Act.put, List.setIfInBounds_toArray, List.set_cons_zero, List.set_cons_succ])
            refine take_at 14 3 (.bool false) rfl rfl (by kernel_rfl) (by kernel_rfl) (by kernel_rfl) (fun _ _ _ h => h) (Or.inl ⟨by kernel_rfl, fun w' hS' => by go_simp⟩) hHeld ?_
            (try simp only [Act.put, List.setIfInBounds_toArray, List.set_cons_zero, List.set_cons_succ])
            refine wpAnyH_done (by kernel_rfl) ?_ _
            refine NoPanic.normal ?_
            clear hHeld
            go_wp2_with fail
            go_ret2
            exact ⟨by simp [partV, partB, hte], HB0.out.drew⟩
        · refine wp_region_noPanic ?_
          refine wp_region_held_drew (S := fun w' => RowAt w' w.heap.size #[.int .i64 3, .int .i64 v, .slice ta tn tc, .int .i64 R, .int .i64 C, .slice ca cn cc] 49) (by kernel_rfl) HG0.out (fun hHeld => ?_)
          refine take_at 0 33 (.pointer (some ⟨w.heap.size, 3, none⟩)) rfl rfl (by kernel_rfl) (by kernel_rfl) (by kernel_rfl) (fun _ _ _ h => h) (Or.inl ⟨by kernel_rfl, fun w' hS' => by go_simp⟩) hHeld ?_
          (try simp only [Act.put, List.setIfInBounds_toArray, List.set_cons_zero, List.set_cons_succ])
          refine take_at 1 34 (.agg #[.int .i64 R, .int .i64 C, .slice ca cn cc]) rfl rfl (by kernel_rfl) (by kernel_rfl) (by kernel_rfl) (fun _ _ _ h => h) (Or.inl ⟨by kernel_rfl, fun w' hS' => by have h3 := RowAt.cell hS' 3; have h4 := RowAt.cell hS' 4; have h5 := RowAt.cell hS' 5; go_simp⟩) hHeld ?_
          (try simp only [Act.put, List.setIfInBounds_toArray, List.set_cons_zero, List.set_cons_succ])
          refine take_at 2 35 (.agg #[.int .i64 R, .int .i64 C, .slice ca cn cc]) rfl rfl (by kernel_rfl) (by kernel_rfl) (by kernel_rfl) (fun _ _ _ h => h) (Or.inl ⟨by kernel_rfl, fun w' hS' => by go_simp⟩) hHeld ?_
          (try simp only [Act.put, List.setIfInBounds_toArray, List.set_cons_zero, List.set_cons_succ])
          refine take_at 3 36 (.iface 119 (.agg #[.int .i64 R, .int .i64 C, .slice ca cn cc])) rfl rfl (by kernel_rfl) (by kernel_rfl) (by kernel_rfl) (fun _ _ _ h => h) (Or.inl ⟨by kernel_rfl, fun w' hS' => by go_simp⟩) hHeld ?_
          (try simp only [Act.put, List.setIfInBounds_toArray, List.set_cons_zero, List.set_cons_succ])
          refine take_at 4 37 (.pointer (some ⟨w.heap.size, 1, none⟩)) rfl rfl (by kernel_rfl) (by kernel_rfl) (by kernel_rfl) (fun _ _ _ h => h) (Or.inl ⟨by kernel_rfl, fun w' hS' => by go_simp⟩) hHeld ?_
          (try simp only [Act.put, List.setIfInBounds_toArray, List.set_cons_zero, List.set_cons_succ])
          refine take_at 5 38 (.int .i64 v) rfl rfl (by kernel_rfl) (by kernel_rfl) (by kernel_rfl) (fun _ _ _ h => h) (Or.inl ⟨by kernel_rfl, fun w' hS' => by have hc := RowAt.cell hS' 1; go_simp⟩) hHeld ?_
          (try simp only [Act.put, List.setIfInBounds_toArray, List.set_cons_zero, List.set_cons_succ])
          refine take_at 6 39 (.bool false) rfl rfl (by kernel_rfl) (by kernel_rfl) (by kernel_rfl) (fun _ _ _ h => h) (Or.inl ⟨by kernel_rfl, fun w' hS' => by go_simp <;> omega⟩) hHeld ?_
          (try simp only [Act.put, List.setIfInBounds_toArray, List.set_cons_zero, List.set_cons_succ])
          refine take_at 7 40 (.bool false) rfl rfl (by kernel_rfl) (by kernel_rfl) (by kernel_rfl) (fun _ _ _ h => h) (Or.inl ⟨by kernel_rfl, fun w' hS' => by go_simp⟩) hHeld ?_
          (try simp only [Act.put, List.setIfInBounds_toArray, List.set_cons_zero, List.set_cons_succ])
          refine take_at 8 41 (undef) rfl rfl (by kernel_rfl) (by kernel_rfl) (by kernel_rfl) (fun _ _ _ h => h) (Or.inr ⟨by kernel_rfl, rfl⟩) hHeld ?_
          (try simp only [Act.put, List.setIfInBounds_toArray, List.set_cons_zero, List.set_cons_succ])
          refine take_at 9 42 (undef) rfl rfl (by kernel_rfl) (by kernel_rfl) (by kernel_rfl) (fun _ _ _ h => h) (Or.inr ⟨by kernel_rfl, rfl⟩) hHeld ?_
          (try simp only [Act.put, List.setIfInBounds_toArray, List.set_cons_zero, List.set_cons_succ])
          refine take_at 10 43 (undef) rfl rfl (by kernel_rfl) (by kernel_rfl) (by kernel_rfl) (fun _ _ _ h => h) (Or.inr ⟨by kernel_rfl, rfl⟩) hHeld ?_
          (try simp only [Act.put, List.setIfInBounds_toArray, List.set_cons_zero, List.set_cons_succ])
          refine take_at 11 44 (undef) rfl rfl (by kernel_rfl) (by kernel_rfl) (by kernel_rfl) (fun _ _ _ h => h) (Or.inr ⟨by kernel_rfl, rfl⟩) hHeld ?_
          (try simp only [Act.put, List.setIfInBounds_toArray, List.set_cons_zero, List.set_cons_succ])
          refine take_at 12 45 (.bool false) rfl rfl (by kernel_rfl) (by kernel_rfl) (by kernel_rfl) (fun _ _ _ h => h) (Or.inl ⟨by kernel_rfl, fun w' hS' => by go_simp⟩) hHeld ?_
          (try simp only [Act.put, List.setIfInBounds_toArray, List.set_cons_zero, List.set_cons_succ])
          refine take_at 13 2 (.iface 119 (.agg #[.int .i64 R, .int .i64 C, .slice ca cn cc])) rfl rfl (by kernel_rfl) (by kernel_rfl) (by kernel_rfl) (fun _ _ _ h => h) (Or.inl ⟨by kernel_rfl, fun w' hS' => by go_simp⟩) hHeld ?_
          (try simp only [Act.put, List.setIfInBounds_toArray, List.set_cons_zero, List.set_cons_succ])
          refine take_at 14 3 (.bool false) rfl rfl (by kernel_rfl) (by kernel_rfl) (by kernel_rfl) (fun _ _ _ h => h) (Or.inl ⟨by kernel_rfl, fun w' hS' => by go_simp⟩) hHeld ?_
          (try simp only [Act.put, List.setIfInBounds_toArray, List.set_cons_zero, List.set_cons_succ])
          refine wpAnyH_done (by kernel_rfl) ?_ _
          refine NoPanic.normal ?_
          clear hHeld
          go_wp2_with fail
          go_ret2
          exact ⟨by simp [partV, partB, hv], HB0.out.drew⟩
      · go_wp2_with fail
        go_ret2
        exact ⟨by simp [partV, partB, h1, h2, h3], HB0.out⟩
end Go.Proofs.Ythjipnocemioaaa
namespace Go.Proofs.Ythjipnocemioaaa
open Go.RowKit

def sizeB (n : Int) : Bool := decide (1 ≤ n ∧ n ≤ 5)
set_option maxHeartbeats 400000 in
theorem sizeOk_is {n : Int} {x : Bool} (h : sizeB n = x) (w : World) :
    Calls Try.prog 145 #[.int .i64 n] w fun e w' => e = .returned (.bool x) ∧ w' = w := by
  subst h
  rcases (show (1 ≤ n ∧ n ≤ 5) ∨ (1 ≤ n ∧ ¬ n ≤ 5) ∨ (¬ 1 ≤ n) from by omega) with ⟨h0, h1⟩ | ⟨h0, h1⟩ | h0
  · rw [show sizeB n = true from decide_eq_true (by omega)]
    go_enter Try.func145, Try.ntmps145
    go_wp2
    go_ret
    exact ⟨rfl, rfl⟩
  all_goals
    rw [show sizeB n = false from decide_eq_false (by omega)]
    go_enter Try.func145, Try.ntmps145
    go_wp2
    go_ret
    exact ⟨rfl, rfl⟩

def spanB (f s e : Int) : Bool := decide (1 ≤ s ∧ s ≤ e ∧ 0 ≤ f ∧ f ≤ e - s)
set_option maxHeartbeats 800000 in
theorem span_is {f s e : Int} {x : Bool} (h : spanB f s e = x) (he : 1 ≤ e ∧ e ≤ 5) (w : World) :
    Calls Try.prog 151 #[.int .i64 f, .int .i64 s, .int .i64 e] w fun z w' => z = .returned (.bool x) ∧ w' = w := by
  subst h
  obtain ⟨he0, he1⟩ := he
  rcases (show (1 ≤ s ∧ s ≤ e ∧ 0 ≤ f ∧ f ≤ e - s) ∨ (1 ≤ s ∧ s ≤ e ∧ 0 ≤ f ∧ ¬ f ≤ e - s) ∨ (1 ≤ s ∧ s ≤ e ∧ ¬ 0 ≤ f) ∨ (1 ≤ s ∧ ¬ s ≤ e) ∨ (¬ 1 ≤ s) from by omega) with ⟨h0, h1, h2, h3⟩ | ⟨h0, h1, h2, h3⟩ | ⟨h0, h1, h2⟩ | ⟨h0, h1⟩ | h0
  · rw [show spanB f s e = true from decide_eq_true (by omega)]
    go_enter Try.func151, Try.ntmps151
    go_wp2
    go_ret
    exact ⟨rfl, rfl⟩
  all_goals
    rw [show spanB f s e = false from decide_eq_false (by omega)]
    go_enter Try.func151, Try.ntmps151
    go_wp2
    go_ret
    exact ⟨rfl, rfl⟩

/-- A rectangle's value. -/
def recV (r c d h : Int) : Array Value := #[.int .i64 r, .int .i64 c, .int .i64 d, .int .i64 h]
def withB (r c d h R C : Int) : Bool := spanB r d R && spanB c h C
set_option maxHeartbeats 800000 in
theorem within_is {r c d h R C : Int} {x : Bool} (hx : withB r c d h R C = x) (hR : 1 ≤ R ∧ R ≤ 5) (hC : 1 ≤ C ∧ C ≤ 5) (w : World) :
    Calls Try.prog 147 #[.agg #[.int .i64 r, .int .i64 c, .int .i64 d, .int .i64 h], .int .i64 R, .int .i64 C] w fun z w' => z = .returned (.bool x) ∧ Below w.heap.size w w' := by
  subst hx
  cases h0 : spanB r d R
  · rw [show withB r c d h R C = false from by simp [withB, h0]]
    have H0 : Hid (spanB r d R = false) := h0
    clear h0
    go_enter Try.func147, Try.ntmps147
    go_wp2_with (go_at_call 151; refine (span_is H0.out hR _).mono ?_; rintro e w' ⟨rfl, rfl⟩)
    go_ret
    exact ⟨rfl, (Below.refl _ _).alloc (Nat.le_refl _) _⟩
  · obtain ⟨y, hy⟩ : ∃ y, spanB c h C = y := ⟨_, rfl⟩
    rw [show withB r c d h R C = y from by simp [withB, h0, hy]]
    have H0 : Hid (spanB r d R = true) := h0
    have H1 : Hid (spanB c h C = y) := hy
    clear h0 hy
    go_enter Try.func147, Try.ntmps147
    go_wp2_with (first | (go_at_call_of 151 (Value.int IntKind.i64 r); refine (span_is H0.out hR _).mono ?_; rintro e w' ⟨rfl, rfl⟩) | (go_at_call_of 151 (Value.int IntKind.i64 c); refine (span_is H1.out hC _).mono ?_; rintro e w' ⟨rfl, rfl⟩))
    go_ret
    exact ⟨rfl, (Below.refl _ _).alloc (Nat.le_refl _) _⟩

def recB (r c d h a b : Int) : Bool := decide (r ≤ a ∧ a < r + d ∧ c ≤ b ∧ b < c + h)
set_option maxHeartbeats 1600000 in
theorem has_is {r c d h a b : Int} {x : Bool} (hx : recB r c d h a b = x) (hr : sml r) (hc : sml c) (hd : sml d) (hh : sml h) (w : World) :
    Calls Try.prog 154 #[.agg #[.int .i64 r, .int .i64 c, .int .i64 d, .int .i64 h], .int .i64 a, .int .i64 b] w fun z w' => z = .returned (.bool x) ∧ Below w.heap.size w w' := by
  subst hx
  obtain ⟨r0, r1⟩ := hr
  obtain ⟨c0, c1⟩ := hc
  obtain ⟨d0, d1⟩ := hd
  obtain ⟨e0, e1⟩ := hh
  go_enter Try.func154, Try.ntmps154
  go_wp2
  all_goals go_ret
  all_goals refine ⟨congrArg (fun x => Ending.returned (.bool x)) ?_, (Below.refl _ _).alloc (Nat.le_refl _) _⟩
  all_goals show _ = decide (r ≤ a ∧ a < r + d ∧ c ≤ b ∧ b < c + h)
  all_goals first | exact decide_eq_decide.2 (by omega) | exact (decide_eq_false (by omega)).symm

set_option maxHeartbeats 800000 in
theorem rectOf_any (r c d h : Int) (ta : Option Addr) (tn tc : Nat) (w : World) :
    Calls Try.prog 146 #[.agg #[.int .i64 r, .int .i64 c, .int .i64 d, .int .i64 h, .slice ta tn tc]] w fun z w' => z = .returned (.agg #[.int .i64 r, .int .i64 c, .int .i64 d, .int .i64 h]) ∧ Below w.heap.size w w' := by
  go_enter Try.func146, Try.ntmps146
  go_wp2
  refine bodyPost_ret (v := .agg #[.int .i64 r, .int .i64 c, .int .i64 d, .int .i64 h]) (by simp [results, Try.results146, go_sem]) rfl ⟨rfl, ?_⟩
  exact ((Below.refl _ _).alloc (Nat.le_refl _) _).alloc (by simp) _
end Go.Proofs.Ythjipnocemioaaa
namespace Go.Proofs.Ythjipnocemioaaa
open Go.RowKit

/-- A text as it lies: its slice. -/
abbrev Sl := Option Addr × Nat × Nat
def slV (s : Sl) : Value := .slice s.1 s.2.1 s.2.2
def sl0 : Sl := (none, 0, 0)
/-- A grid's value: rows, columns, cells, the squares' numbers, the numbers' texts. -/
def gridL (R C : Int) (n : Nat) (f : Nat → Nat) (t : Nat → Sl) : List Value :=
  .int .i64 R :: .int .i64 C :: .int .i64 n :: ((List.range 25).map (fun k => Value.int .i64 (f k)) ++ (List.range 26).map (fun k => slV (t k)))
def gridA (R C : Int) (n : Nat) (f : Nat → Nat) (t : Nat → Sl) : Array Value := (gridL R C n f t).toArray
def upd (f : Nat → Nat) (k v : Nat) : Nat → Nat := fun j => if j = k then v else f j
def updS (f : Nat → Sl) (k : Nat) (v : Sl) : Nat → Sl := fun j => if j = k then v else f j

theorem gridL_length (R C : Int) (n : Nat) (f : Nat → Nat) (t : Nat → Sl) : (gridL R C n f t).length = 54 := by simp [gridL]
theorem gridA_size (R C : Int) (n : Nat) (f : Nat → Nat) (t : Nat → Sl) : (gridA R C n f t).size = 54 := by simp [gridA, gridL_length]
theorem gridA_get (R C : Int) (n : Nat) (f : Nat → Nat) (t : Nat → Sl) (i : Nat) : (gridA R C n f t)[i]? = if i = 0 then some (.int .i64 R) else if i = 1 then some (.int .i64 C) else if i = 2 then some (.int .i64 n) else if i < 28 then some (.int .i64 (f (i - 3))) else if i < 54 then some (slV (t (i - 28))) else none := by
  simp only [gridA, List.getElem?_toArray, gridL]
  match i with
  | 0 => rfl
  | 1 => rfl
  | 2 => rfl
  | j + 3 =>
    simp only [List.getElem?_cons_succ]
    rw [if_neg (by omega), if_neg (by omega), if_neg (by omega)]
    by_cases h : j < 25
    · rw [List.getElem?_append_left (by simpa using h), if_pos (by omega)]
      simp [h]
    · rw [List.getElem?_append_right (by simp; omega), if_neg (by omega)]
      simp only [List.length_map, List.length_range, List.getElem?_map]
      by_cases h2 : j < 51
      · rw [if_pos (by omega), show j + 3 - 28 = j - 25 from by omega]
        simp [show j - 25 < 26 from by omega]
      · rw [if_neg (by omega), List.getElem?_eq_none (by simp; omega)]
        rfl
theorem gridA_num (R C : Int) (n : Nat) (f : Nat → Nat) (t : Nat → Sl) (k : Nat) (hk : k < 25) : (gridA R C n f t)[3 + k]? = some (.int .i64 (f k)) := by
  rw [gridA_get, if_neg (by omega), if_neg (by omega), if_neg (by omega), if_pos (by omega), show 3 + k - 3 = k from by omega]
theorem gridA_txt (R C : Int) (n : Nat) (f : Nat → Nat) (t : Nat → Sl) (k : Nat) (hk : k < 26) : (gridA R C n f t)[28 + k]? = some (slV (t k)) := by
  rw [gridA_get, if_neg (by omega), if_neg (by omega), if_neg (by omega), if_neg (by omega), if_pos (by omega), show 28 + k - 28 = k from by omega]
theorem gridA_set_num (R C : Int) (n : Nat) (f : Nat → Nat) (t : Nat → Sl) (k v : Nat) (hk : k < 25) : (gridA R C n f t).setIfInBounds (3 + k) (.int .i64 v) = gridA R C n (upd f k v) t := by
  apply Array.ext_getElem?
  intro i
  rw [Array.getElem?_setIfInBounds, gridA_get, gridA_get, gridA_size]
  by_cases h : 3 + k = i
  · subst h
    simp only [if_pos, show 3 + k < 54 from by omega, show ¬ 3 + k = 0 from by omega, show ¬ 3 + k = 1 from by omega, show ¬ 3 + k = 2 from by omega, show 3 + k < 28 from by omega, if_false, upd, show 3 + k - 3 = k from by omega]
  · rw [if_neg h]
    simp only [upd]
    by_cases h3 : i < 3
    · match i, h3 with
      | 0, _ => rfl
      | 1, _ => rfl
      | 2, _ => rfl
    · rw [if_neg (show ¬ i - 3 = k from by omega)]
theorem gridA_set_txt (R C : Int) (n : Nat) (f : Nat → Nat) (t : Nat → Sl) (k : Nat) (v : Sl) (hk : k < 26) : (gridA R C n f t).setIfInBounds (28 + k) (slV v) = gridA R C n f (updS t k v) := by
  apply Array.ext_getElem?
  intro i
  rw [Array.getElem?_setIfInBounds, gridA_get, gridA_get, gridA_size]
  by_cases h : 28 + k = i
  · subst h
    simp only [if_pos, show 28 + k < 54 from by omega, show ¬ 28 + k = 0 from by omega, show ¬ 28 + k = 1 from by omega, show ¬ 28 + k = 2 from by omega, show ¬ 28 + k < 28 from by omega, if_false, updS, show 28 + k - 28 = k from by omega]
  · rw [if_neg h]
    simp only [updS]
    by_cases h3 : i < 28
    · simp only [if_pos h3]
    · rw [if_neg (show ¬ i - 28 = k from by omega)]
theorem gridA_set_cells (R C : Int) (n m : Nat) (f : Nat → Nat) (t : Nat → Sl) : (gridA R C n f t).setIfInBounds 2 (.int .i64 m) = gridA R C m f t := by
  apply Array.ext_getElem?
  intro i
  rw [Array.getElem?_setIfInBounds, gridA_get, gridA_get, gridA_size]
  by_cases h : 2 = i
  · subst h; rfl
  · rw [if_neg h]
    by_cases h3 : i = 2
    · exact absurd h3.symm h
    · simp only [if_neg h3]
theorem gridA_one (R C : Int) (n : Nat) (f : Nat → Nat) (t : Nat → Sl) : (gridA R C n f t).all (·.oneCell') = true := by
  refine Array.all_eq_true_iff_forall_mem.2 ?_
  intro v hv
  simp only [gridA, List.mem_toArray, gridL, List.mem_cons, List.mem_append, List.mem_map] at hv
  rcases hv with rfl | rfl | rfl | ⟨k, _, rfl⟩ | ⟨k, _, rfl⟩ <;> rfl

/-- A grid that lies in a block of its own. -/
def GridAt (w : World) (b : Nat) (R C : Int) (n : Nat) (f : Nat → Nat) (t : Nat → Sl) : Prop := RowAt w b (gridA R C n f t) 179
section
variable {w w' : World} {b : Nat} {R C : Int} {n : Nat} {f : Nat → Nat} {t : Nat → Sl}
theorem GridAt.lt (h : GridAt w b R C n f t) : b < w.heap.size := RowAt.lt h
theorem GridAt.rows (h : GridAt w b R C n f t) : w.cell? ⟨b, 0, none⟩ = some (.int .i64 R) := by rw [RowAt.cell h, gridA_get]; rfl
theorem GridAt.cols (h : GridAt w b R C n f t) : w.cell? ⟨b, 1, none⟩ = some (.int .i64 C) := by rw [RowAt.cell h, gridA_get]; rfl
theorem GridAt.cells (h : GridAt w b R C n f t) : w.cell? ⟨b, 2, none⟩ = some (.int .i64 n) := by rw [RowAt.cell h, gridA_get]; rfl
theorem GridAt.num (h : GridAt w b R C n f t) (k : Nat) (hk : k < 25) : w.cell? ⟨b, 3 + k, none⟩ = some (.int .i64 (f k)) := by rw [RowAt.cell h, gridA_num _ _ _ _ _ _ hk]
theorem GridAt.txt (h : GridAt w b R C n f t) (k : Nat) (hk : k < 26) : w.cell? ⟨b, 28 + k, none⟩ = some (slV (t k)) := by rw [RowAt.cell h, gridA_txt _ _ _ _ _ _ hk]
theorem GridAt.frozen (h : GridAt w b R C n f t) (o : Nat) : w.frozen? ⟨b, o, none⟩ = false := RowAt.frozen h o
theorem GridAt.below (h : GridAt w b R C n f t) {B : Nat} (hb : Below B w w') (hB : b < B) : GridAt w' b R C n f t := RowAt.below h hb hB
theorem GridAt.alloc (h : GridAt w b R C n f t) (o : Obj) : GridAt (w.alloc o) b R C n f t := RowAt.alloc h o
theorem GridAt.setNum (h : GridAt w b R C n f t) (k v : Nat) (hk : k < 25) : GridAt (w.setCell ⟨b, 3 + k, none⟩ (.int .i64 v)) b R C n (upd f k v) t := by
  unfold GridAt
  rw [← gridA_set_num _ _ _ _ _ _ _ hk]
  exact RowAt.setCell h _ _
theorem GridAt.setTxt (h : GridAt w b R C n f t) (k : Nat) (v : Sl) (hk : k < 26) : GridAt (w.setCell ⟨b, 28 + k, none⟩ (slV v)) b R C n f (updS t k v) := by
  unfold GridAt
  rw [← gridA_set_txt _ _ _ _ _ _ _ hk]
  exact RowAt.setCell h _ _
theorem GridAt.setCells (h : GridAt w b R C n f t) (m : Nat) : GridAt (w.setCell ⟨b, 2, none⟩ (.int .i64 m)) b R C m f t := by
  unfold GridAt
  rw [← gridA_set_cells R C n m]
  exact RowAt.setCell h _ _
theorem GridAt.other (h : GridAt w b R C n f t) (a : Addr) (u : Value) (hb : b ≠ a.block) : GridAt (w.setCell a u) b R C n f t := RowAt.other h a u hb
end
theorem gridAt_new (w : World) (R C : Int) (n : Nat) (f : Nat → Nat) (t : Nat → Sl) : GridAt (w.alloc (.cells (gridA R C n f t) 179)) w.heap.size R C n f t := rowAt_new _ _ _
/-- A rectangle that lies in a block of its own. -/
def RectAt (w : World) (b : Nat) (r c d h : Int) : Prop := RowAt w b #[.int .i64 r, .int .i64 c, .int .i64 d, .int .i64 h] 183
section
variable {w w' : World} {b : Nat} {r c d g : Int}
theorem RectAt.c0 (h : RectAt w b r c d g) : w.cell? ⟨b, 0, none⟩ = some (.int .i64 r) := RowAt.cell h 0
theorem RectAt.c1 (h : RectAt w b r c d g) : w.cell? ⟨b, 1, none⟩ = some (.int .i64 c) := RowAt.cell h 1
theorem RectAt.c2 (h : RectAt w b r c d g) : w.cell? ⟨b, 2, none⟩ = some (.int .i64 d) := RowAt.cell h 2
theorem RectAt.c3 (h : RectAt w b r c d g) : w.cell? ⟨b, 3, none⟩ = some (.int .i64 g) := RowAt.cell h 3
end
theorem grid_info : (Try.prog.info? 179).map (·.size) = some 54 := by kernel_rfl
theorem grid_infoA (R C : Int) (n : Nat) (f : Nat → Nat) (t : Nat → Sl) : (Try.prog.info? 179).map (·.size) = some (gridA R C n f t).size := by rw [gridA_size]; exact grid_info
end Go.Proofs.Ythjipnocemioaaa
namespace Go.Proofs.Ythjipnocemioaaa
open Go.RowKit

/-- The squares ahead of a place, going through all rows. -/
def vis (i j : Nat) (C : Nat) (a b : Nat) : Prop := b < C ∧ (a < i ∨ a = i ∧ b < j)
def inR (r c d h a b : Nat) : Prop := r ≤ a ∧ a < r + d ∧ c ≤ b ∧ b < c + h
/-- A number whose bits are the numbers of some squares. -/
def Mask (x : Nat) (f : Nat → Nat) (p : Nat → Nat → Prop) : Prop := x < 2 ^ 26 ∧ ∀ k, x.testBit k = true ↔ ∃ a b, p a b ∧ f (a * 5 + b) = k

theorem or_nat (y p : Nat) (hy : y < 2 ^ 26) (hp : p < 2 ^ 26) : bits .or .u32 (y : Int) (p : Int) = ((y ||| p : Nat) : Int) := by
  have ho : y ||| p < 2 ^ 26 := Nat.or_lt_two_pow hy hp
  show IntKind.u32.wrap (((BitVec.ofInt 32 (y : Int)) ||| (BitVec.ofInt 32 (p : Int))).toNat : Int) = _
  rw [BitVec.ofInt_natCast, BitVec.ofInt_natCast, BitVec.toNat_or, BitVec.toNat_ofNat, BitVec.toNat_ofNat, Nat.mod_eq_of_lt (a := y) (by omega), Nat.mod_eq_of_lt (a := p) (by omega)]
  generalize y ||| p = z at ho ⊢
  simp only [IntKind.wrap, IntKind.bits, IntKind.signed]
  simp
  omega
theorem pow_lt26 {m : Nat} (hm : m ≤ 25) : 2 ^ m < 2 ^ 26 := Nat.pow_lt_pow_right (by decide) (by omega)
theorem pow_mod (m : Nat) (hm : m ≤ 25) : ((2 : Int) ^ m % 4294967296) = ((2 ^ m : Nat) : Int) := by
  have hp := pow_lt26 hm
  rw [show ((2 : Int) ^ m) = ((2 ^ m : Nat) : Int) from by simp]
  generalize 2 ^ m = p at hp ⊢
  omega
theorem or_pow (y m : Nat) (hy : y < 2 ^ 26) (hm : m ≤ 25) : bits .or .u32 (y : Int) (2 ^ m % 4294967296) = ((y ||| 2 ^ m : Nat) : Int) := by
  rw [pow_mod m hm, or_nat y _ hy (pow_lt26 hm)]
theorem Mask.snoc {y m a0 b0 : Nat} {f : Nat → Nat} {p q : Nat → Nat → Prop} (h : Mask y f p) (hm : m ≤ 25) (hf : f (a0 * 5 + b0) = m) (hp : ∀ a b, q a b ↔ p a b ∨ (a = a0 ∧ b = b0)) : Mask (y ||| 2 ^ m) f q := by
  refine ⟨Nat.or_lt_two_pow h.1 (Nat.pow_lt_pow_right (by decide) (by omega)), ?_⟩
  intro k
  rw [Nat.testBit_or, Bool.or_eq_true, h.2 k, Nat.testBit_two_pow, decide_eq_true_eq]
  constructor
  · rintro (⟨a, b, h1, h2⟩ | rfl)
    · exact ⟨a, b, (hp a b).2 (.inl h1), h2⟩
    · exact ⟨a0, b0, (hp a0 b0).2 (.inr ⟨rfl, rfl⟩), hf⟩
  · rintro ⟨a, b, h1, h2⟩
    rcases (hp a b).1 h1 with h3 | ⟨rfl, rfl⟩
    · exact .inl ⟨a, b, h3, h2⟩
    · exact .inr (hf.symm.trans h2)
theorem Mask.same {y : Nat} {f : Nat → Nat} {p q : Nat → Nat → Prop} (h : Mask y f p) (hp : ∀ a b, q a b ↔ p a b) : Mask y f q := by
  refine ⟨h.1, fun k => ?_⟩
  rw [h.2 k]
  simp only [hp]
theorem Mask.zero {f : Nat → Nat} {p : Nat → Nat → Prop} (hp : ∀ a b, ¬ p a b) : Mask 0 f p := by
  refine ⟨by decide, fun k => ?_⟩
  simp only [Nat.zero_testBit, Bool.false_eq_true, false_iff]
  rintro ⟨a, b, h, _⟩
  exact hp a b h
theorem recB_true {r c d h a b : Nat} (e : recB r c d h a b = true) : inR r c d h a b := by
  have := of_decide_eq_true e
  unfold inR
  omega
theorem recB_false {r c d h a b : Nat} (e : recB r c d h a b = false) : ¬ inR r c d h a b := by
  have := of_decide_eq_false e
  unfold inR
  omega

set_option maxRecDepth 100000 in
set_option maxHeartbeats 4000000 in
theorem parted_any (R C n : Nat) (f : Nat → Nat) (t : Nat → Sl) (r c d h : Nat) (w : World) (hR : R ≤ 5) (hC : C ≤ 5) (hr : r + d ≤ 5) (hc : c + h ≤ 5) (hf : ∀ k, f k ≤ 25) :
    Calls Try.prog 152 #[.agg (gridA R C n f t), .agg #[.int .i64 r, .int .i64 c, .int .i64 d, .int .i64 h]] w fun z w' => (∃ x y : Nat, z = .returned (.tuple #[.int .u32 x, .int .u32 y]) ∧ Mask x f (fun a b => vis R 0 C a b ∧ inR r c d h a b) ∧ Mask y f (fun a b => vis R 0 C a b ∧ ¬ inR r c d h a b)) ∧ Below w.heap.size w w' := by
  go_enter Try.func152, Try.ntmps152
  go_upto_region 1 with fail
  have B0 : Below w.heap.size w ((w.alloc (.cells (gridA R C n f t) 179)).alloc (.cells #[.int .i64 r, .int .i64 c, .int .i64 d, .int .i64 h] 183)) := (((Below.refl _ _).alloc (Nat.le_refl _) _).alloc (by simp) _)
  have G0 : GridAt ((w.alloc (.cells (gridA R C n f t) 179)).alloc (.cells #[.int .i64 r, .int .i64 c, .int .i64 d, .int .i64 h] 183)) w.heap.size R C n f t := (gridAt_new w R C n f t).alloc _
  have G2 : RectAt ((w.alloc (.cells (gridA R C n f t) 179)).alloc (.cells #[.int .i64 r, .int .i64 c, .int .i64 d, .int .i64 h] 183)) (w.heap.size + 1) r c d h := by
    have := (rowAt_new (w.alloc (.cells (gridA R C n f t) 179)) #[.int .i64 r, .int .i64 c, .int .i64 d, .int .i64 h] 183)
    simpa [RectAt] using this
  generalize ((w.alloc (.cells (gridA R C n f t) 179)).alloc (.cells #[.int .i64 r, .int .i64 c, .int .i64 d, .int .i64 h] 183)) = v0 at B0 G0 G2 ⊢
  have k0 := G0.rows
  go_wp2_with fail
  go_loopw [4, 5, 11] (fun xv yv iv wr => ∃ i x y : Nat, i ≤ R ∧ iv = .int .i64 i ∧ xv = .int .u32 x ∧ yv = .int .u32 y ∧ Mask x f (fun a b => vis i 0 C a b ∧ inR r c d h a b) ∧ Mask y f (fun a b => vis i 0 C a b ∧ ¬ inR r c d h a b) ∧ Below v0.heap.size v0 wr) (fun _ _ iv _ => R - (intOf iv).toNat)
  case atStart => exact ⟨0, 0, 0, Nat.zero_le _, rfl, rfl, rfl, Mask.zero (fun a b hh => by simp [vis] at hh), Mask.zero (fun a b hh => by simp [vis] at hh), Below.refl _ _⟩
  case round =>
    clear k0
    obtain ⟨i, x, y, hi, rfl, rfl, rfl, hx, hy, hb⟩ := hrel
    have HX : Hid (Mask x f (fun a b => vis i 0 C a b ∧ inR r c d h a b)) := hx
    have HY : Hid (Mask y f (fun a b => vis i 0 C a b ∧ ¬ inR r c d h a b)) := hy
    have HG : Hid (GridAt wr w.heap.size R C n f t) := G0.below hb G0.lt
    have HQ : Hid (RectAt wr (w.heap.size + 1) r c d h) := RowAt.below G2 hb (RowAt.lt G2)
    have HB : Hid (Below v0.heap.size v0 wr) := hb
    have k1 := HG.out.cols
    clear hx hy hb
    by_cases hlt : i < R
    · have b0 : (i : Int) < 5 := by omega
      have b1 : (C : Int) ≤ 5 := by omega
      go_wp2_with fail
      go_quiet (fail)
      go_wp2_with fail
      go_loopw [4, 5, 21] (fun xv yv jv wq => ∃ j x y : Nat, j ≤ C ∧ jv = .int .i64 j ∧ xv = .int .u32 x ∧ yv = .int .u32 y ∧ Mask x f (fun a b => vis i j C a b ∧ inR r c d h a b) ∧ Mask y f (fun a b => vis i j C a b ∧ ¬ inR r c d h a b) ∧ Below v0.heap.size v0 wq) (fun _ _ jv _ => C - (intOf jv).toNat)
      case atStart => exact ⟨0, x, y, Nat.zero_le _, rfl, rfl, rfl, HX.out, HY.out, below_drewN HB.out _⟩
      case round =>
        clear HX HY HG HQ HB k1
        obtain ⟨j, x, y, hj, rfl, rfl, rfl, hx, hy, hb⟩ := hrel
        have HX : Hid (Mask x f (fun a b => vis i j C a b ∧ inR r c d h a b)) := hx
        have HY : Hid (Mask y f (fun a b => vis i j C a b ∧ ¬ inR r c d h a b)) := hy
        have HB : Hid (Below v0.heap.size v0 wr) := hb
        by_cases hlj : j < C
        · have k1 := (G0.below hb G0.lt).num (i * 5 + j) (by omega)
          have HQ : RectAt wr (w.heap.size + 1) r c d h := RowAt.below G2 hb (RowAt.lt G2)
          have hm := hf (i * 5 + j)
          obtain ⟨m, HM⟩ : ∃ m, Hid (f (i * 5 + j) = m) := ⟨_, rfl⟩
          rw [← Nat.add_assoc, HM.out] at k1
          rw [HM.out] at hm
          have e0 := HQ.c0
          have e1 := HQ.c1
          have e2 := HQ.c2
          have e3 := HQ.c3
          have sz := hb.size
          clear hx hy hb HQ
          cases hz : recB r c d h i j
          · have HH : Hid (recB r c d h i j = false) := hz
            clear hz
            go_wp2_with (go_at_call 154; refine (has_is HH.out ⟨by omega, by omega⟩ ⟨by omega, by omega⟩ ⟨by omega, by omega⟩ ⟨by omega, by omega⟩ _).mono ?_; rintro e w4 ⟨rfl, hb4⟩)
            go_roundw
            case rel =>
              refine ⟨j + 1, x, y ||| 2 ^ m, by omega, by go_num, rfl, by rw [or_pow y m HY.out.1 hm], HX.out.same ?_, HY.out.snoc hm HM.out ?_, HB.out.trans (hb4.mono sz)⟩
              · intro a b
                have hn := recB_false HH.out
                constructor
                · rintro ⟨⟨h1, h2⟩, h3⟩
                  refine ⟨⟨h1, ?_⟩, h3⟩
                  rcases h2 with h2 | ⟨rfl, h2⟩
                  · exact .inl h2
                  · refine .inr ⟨rfl, ?_⟩
                    rcases Nat.lt_or_ge b j with h4 | h4
                    · exact h4
                    · obtain rfl : b = j := by omega
                      exact absurd h3 hn
                · rintro ⟨⟨h1, h2⟩, h3⟩
                  exact ⟨⟨h1, by omega⟩, h3⟩
              · intro a b
                have hn := recB_false HH.out
                constructor
                · rintro ⟨⟨h1, h2⟩, h3⟩
                  by_cases h4 : a = i ∧ b = j
                  · exact .inr h4
                  · exact .inl ⟨⟨h1, by omega⟩, h3⟩
                · rintro (⟨⟨h1, h2⟩, h3⟩ | ⟨rfl, rfl⟩)
                  · exact ⟨⟨h1, by omega⟩, h3⟩
                  · exact ⟨⟨hlj, by omega⟩, hn⟩
            case measure => simp [intOf]; omega
          · have HH : Hid (recB r c d h i j = true) := hz
            clear hz
            go_wp2_with (go_at_call 154; refine (has_is HH.out ⟨by omega, by omega⟩ ⟨by omega, by omega⟩ ⟨by omega, by omega⟩ ⟨by omega, by omega⟩ _).mono ?_; rintro e w4 ⟨rfl, hb4⟩)
            go_roundw
            case rel =>
              refine ⟨j + 1, x ||| 2 ^ m, y, by omega, by go_num, by rw [or_pow x m HX.out.1 hm], rfl, HX.out.snoc hm HM.out ?_, HY.out.same ?_, HB.out.trans (hb4.mono sz)⟩
              · intro a b
                have hn := recB_true HH.out
                constructor
                · rintro ⟨⟨h1, h2⟩, h3⟩
                  by_cases h4 : a = i ∧ b = j
                  · exact .inr h4
                  · exact .inl ⟨⟨h1, by omega⟩, h3⟩
                · rintro (⟨⟨h1, h2⟩, h3⟩ | ⟨rfl, rfl⟩)
                  · exact ⟨⟨h1, by omega⟩, h3⟩
                  · exact ⟨⟨hlj, by omega⟩, hn⟩
              · intro a b
                have hn := recB_true HH.out
                constructor
                · rintro ⟨⟨h1, h2⟩, h3⟩
                  refine ⟨⟨h1, ?_⟩, h3⟩
                  rcases h2 with h2 | ⟨rfl, h2⟩
                  · exact .inl h2
                  · refine .inr ⟨rfl, ?_⟩
                    rcases Nat.lt_or_ge b j with h4 | h4
                    · exact h4
                    · obtain rfl : b = j := by omega
                      exact absurd hn h3
                · rintro ⟨⟨h1, h2⟩, h3⟩
                  exact ⟨⟨h1, by omega⟩, h3⟩
            case measure => simp [intOf]; omega
        · clear hx hy hb
          go_wp2_with fail
          go_roundw
          case rel =>
            refine ⟨i + 1, x, y, by omega, by go_num, rfl, rfl, HX.out.same ?_, HY.out.same ?_, HB.out⟩
            · intro a b
              exact and_congr_left' (by unfold vis; omega)
            · intro a b
              exact and_congr_left' (by unfold vis; omega)
          case measure => simp [intOf]; omega
    · go_wp2_with fail
      refine bodyPost_ret (v := .tuple #[.int .u32 x, .int .u32 y]) (by simp [results, Try.results152, go_sem]) rfl ⟨⟨x, y, rfl, ?_, ?_⟩, B0.trans (HB.out.mono B0.size)⟩
      · obtain rfl : i = R := by omega
        exact HX.out
      · obtain rfl : i = R := by omega
        exact HY.out
end Go.Proofs.Ythjipnocemioaaa
namespace Go.Proofs.Ythjipnocemioaaa
open Go.RowKit

/-- Each square is of a cell, and going through all squares each number is met behind all lesser ones. -/
def Tiles (R C : Nat) (f : Nat → Nat) : Prop := ∀ a b, vis R 0 C a b → 1 ≤ f (a * 5 + b) ∧ ∀ k, 1 ≤ k → k < f (a * 5 + b) → ∃ a' b', vis a b C a' b' ∧ f (a' * 5 + b') = k
/-- So far, and m is the greatest number met. -/
def Met (C : Nat) (f : Nat → Nat) (i j m : Nat) : Prop :=
  (∀ a b, vis i j C a b → (1 ≤ f (a * 5 + b) ∧ f (a * 5 + b) ≤ m) ∧ ∀ k, 1 ≤ k → k < f (a * 5 + b) → ∃ a' b', vis a b C a' b' ∧ f (a' * 5 + b') = k) ∧ (∀ k, 1 ≤ k → k ≤ m → ∃ a b, vis i j C a b ∧ f (a * 5 + b) = k)
theorem Met.row {C : Nat} {f : Nat → Nat} {i m : Nat} (h : Met C f i C m) : Met C f (i + 1) 0 m := by
  refine ⟨fun a b hv => h.1 a b ?_, fun k h1 h2 => ?_⟩
  · unfold vis at hv ⊢
    omega
  · obtain ⟨a, b, h3, h4⟩ := h.2 k h1 h2
    exact ⟨a, b, by unfold vis at h3 ⊢; omega, h4⟩
theorem Met.next {C : Nat} {f : Nat → Nat} {i j m : Nat} (h : Met C f i j m) (hj : j < C) (h0 : 1 ≤ f (i * 5 + j)) (h1 : f (i * 5 + j) ≤ m + 1) : Met C f i (j + 1) (max m (f (i * 5 + j))) := by
  refine ⟨fun a b hv => ?_, fun k k1 k2 => ?_⟩
  · by_cases hh : a = i ∧ b = j
    · obtain ⟨rfl, rfl⟩ := hh
      refine ⟨⟨h0, Nat.le_max_right _ _⟩, fun k k1 k2 => ?_⟩
      exact h.2 k k1 (by omega)
    · obtain ⟨⟨h2, h3⟩, h4⟩ := h.1 a b (by unfold vis at hv ⊢; omega)
      exact ⟨⟨h2, Nat.le_trans h3 (Nat.le_max_left _ _)⟩, h4⟩
  · by_cases hk : k ≤ m
    · obtain ⟨a, b, h3, h4⟩ := h.2 k k1 hk
      exact ⟨a, b, by unfold vis at h3 ⊢; omega, h4⟩
    · exact ⟨i, j, by unfold vis; omega, by omega⟩
theorem Met.zero (C : Nat) (f : Nat → Nat) : Met C f 0 0 0 := by
  refine ⟨fun a b hv => ?_, fun k k1 k2 => by omega⟩
  unfold vis at hv
  omega
theorem Met.bad {R C : Nat} {f : Nat → Nat} {i j m : Nat} (h : Met C f i j m) (hi : i < R) (hj : j < C) (hb : f (i * 5 + j) = 0 ∨ m + 1 < f (i * 5 + j)) : ¬ Tiles R C f := by
  intro ht
  obtain ⟨h1, h2⟩ := ht i j (by unfold vis; omega)
  rcases hb with hb | hb
  · omega
  · obtain ⟨a, b, h3, h4⟩ := h2 (m + 1) (by omega) hb
    have := (h.1 a b h3).1.2
    omega
theorem Met.good {R C : Nat} {f : Nat → Nat} {m : Nat} (h : Met C f R 0 m) : Tiles R C f := fun a b hv => ⟨(h.1 a b hv).1.1, (h.1 a b hv).2⟩

set_option maxRecDepth 100000 in
set_option maxHeartbeats 4000000 in
theorem isTiled_is {R C n : Nat} {f : Nat → Nat} {t : Nat → Sl} {w : World} {x : Bool} (hx : x = true ↔ Tiles R C f) (hR : R ≤ 5) (hC : C ≤ 5) (hf : ∀ k, f k ≤ 25) :
    Calls Try.prog 150 #[.agg (gridA R C n f t)] w fun z w' => z = .returned (.bool x) ∧ Below w.heap.size w w' := by
  have HX : Hid (x = true ↔ Tiles R C f) := hx
  clear hx
  go_enter Try.func150, Try.ntmps150
  go_upto_region 1 with fail
  have B0 : Below w.heap.size w (w.alloc (.cells (gridA R C n f t) 179)) := (Below.refl _ _).alloc (Nat.le_refl _) _
  have G0 : GridAt (w.alloc (.cells (gridA R C n f t) 179)) w.heap.size R C n f t := gridAt_new w R C n f t
  generalize (w.alloc (.cells (gridA R C n f t) 179)) = v0 at B0 G0 ⊢
  have k0 := G0.rows
  go_wp2_with fail
  go_loopw [3, 9] (fun mv iv wr => ∃ i m : Nat, i ≤ R ∧ m ≤ 25 ∧ iv = .int .i64 i ∧ mv = .int .i64 m ∧ Met C f i 0 m ∧ Below v0.heap.size v0 wr) (fun _ iv _ => R - (intOf iv).toNat)
  case atStart => exact ⟨0, 0, Nat.zero_le _, Nat.zero_le _, rfl, rfl, Met.zero C f, Below.refl _ _⟩
  case round =>
    clear k0
    obtain ⟨i, m, hi, hm, rfl, rfl, hM, hb⟩ := hrel
    have HM : Hid (Met C f i 0 m) := hM
    have HB : Hid (Below v0.heap.size v0 wr) := hb
    have k1 := (G0.below hb G0.lt).cols
    clear hM hb
    by_cases hlt : i < R
    · have b0 : (i : Int) < 5 := by omega
      have b1 : (C : Int) ≤ 5 := by omega
      go_wp2_with fail
      go_quiet (fail)
      go_wp2_with fail
      go_loopw [3, 19] (fun mv jv wr => ∃ j m : Nat, j ≤ C ∧ m ≤ 25 ∧ jv = .int .i64 j ∧ mv = .int .i64 m ∧ Met C f i j m ∧ Below v0.heap.size v0 wr) (fun _ jv _ => C - (intOf jv).toNat)
      case atStart => exact ⟨0, m, Nat.zero_le _, hm, rfl, rfl, HM.out, below_drewN HB.out _⟩
      case round =>
        clear HM HB k1
        obtain ⟨j, m, hj, hm, rfl, rfl, hM, hb⟩ := hrel
        have HM : Hid (Met C f i j m) := hM
        have HB : Hid (Below v0.heap.size v0 wr) := hb
        by_cases hlj : j < C
        · have k1 := (G0.below hb G0.lt).num (i * 5 + j) (by omega)
          have hq := hf (i * 5 + j)
          obtain ⟨q, HQ⟩ : ∃ q, Hid (f (i * 5 + j) = q) := ⟨_, rfl⟩
          rw [← Nat.add_assoc, HQ.out] at k1
          rw [HQ.out] at hq
          clear hM hb
          rcases (show q = 0 ∨ (¬ q = 0 ∧ m + 1 < q) ∨ (¬ q = 0 ∧ q ≤ m + 1) from by omega) with rfl | ⟨q0, q1⟩ | ⟨q0, q1⟩
          · go_wp2_with fail
            go_ret
            refine ⟨congrArg (fun b => Ending.returned (.bool b)) ?_, B0.trans (HB.out.mono B0.size)⟩
            show false = x
            cases x
            · rfl
            · exact absurd (HX.out.1 rfl) (HM.out.bad hlt hlj (.inl HQ.out))
          · have n0 : ((q : Int) == 0) = false := by simp; omega
            have n1 : (m : Int) + 1 < (q : Int) := by omega
            go_wp2_with fail
            go_ret
            refine ⟨congrArg (fun b => Ending.returned (.bool b)) ?_, B0.trans (HB.out.mono B0.size)⟩
            show false = x
            cases x
            · rfl
            · exact absurd (HX.out.1 rfl) (HM.out.bad hlt hlj (.inr (by rw [HQ.out]; exact q1)))
          · have n0 : ((q : Int) == 0) = false := by simp; omega
            have n1 : ¬ (m : Int) + 1 < (q : Int) := by omega
            go_wp2_with fail
            go_roundw
            case rel =>
              have hN := HM.out.next hlj (by rw [HQ.out]; omega) (by rw [HQ.out]; omega)
              rw [HQ.out] at hN
              refine ⟨j + 1, max m q, by omega, by omega, by go_num, ?_, hN, HB.out⟩
              by_cases hmq : m < q
              · rw [if_pos hmq, Nat.max_eq_right (by omega)]
              · rw [if_neg hmq, Nat.max_eq_left (by omega)]
            case measure => simp [intOf]; omega
        · clear hM hb
          go_wp2_with fail
          go_roundw
          case rel =>
            have hh := HM.out
            rw [show j = C from by omega] at hh
            exact ⟨i + 1, m, by omega, hm, by go_num, rfl, hh.row, HB.out⟩
          case measure => simp [intOf]; omega
    · go_wp2_with fail
      go_ret
      refine ⟨congrArg (fun b => Ending.returned (.bool b)) ?_, B0.trans (HB.out.mono B0.size)⟩
      show true = x
      have hh := HM.out
      rw [show i = R from by omega] at hh
      exact (HX.out.2 hh.good).symm
end Go.Proofs.Ythjipnocemioaaa
namespace Go.Proofs.Ythjipnocemioaaa
open Go.RowKit

/-- No square of a rectangle is of a cell. -/
def freeB (f : Nat → Nat) (r c d h : Nat) : Bool := (List.range d).all fun i => (List.range h).all fun j => f ((r + i) * 5 + (c + j)) == 0
theorem freeB_iff {f : Nat → Nat} {r c d h : Nat} : freeB f r c d h = true ↔ ∀ a b, inR r c d h a b → f (a * 5 + b) = 0 := by
  simp only [freeB, List.all_eq_true, List.mem_range, beq_iff_eq, inR]
  constructor
  · intro hh a b ⟨h1, h2, h3, h4⟩
    have := hh (a - r) (by omega) (b - c) (by omega)
    rwa [show r + (a - r) = a from by omega, show c + (b - c) = b from by omega] at this
  · intro hh i hi j hj
    exact hh (r + i) (c + j) ⟨by omega, by omega, by omega, by omega⟩
theorem mask_one {x : Nat} {f : Nat → Nat} {R C r c d h : Nat} (hx : Mask x f (fun a b => vis R 0 C a b ∧ inR r c d h a b)) (hd : 0 < d) (hh : 0 < h) (hR : r + d ≤ R) (hC : c + h ≤ C) : decide ((x : Int) = 1) = freeB f r c d h := by
  have key : x = 1 ↔ freeB f r c d h = true := by
    rw [freeB_iff]
    constructor
    · rintro rfl a b hab
      have h1 := (hx.2 (f (a * 5 + b))).2 ⟨a, b, ⟨by unfold vis; unfold inR at hab; omega, hab⟩, rfl⟩
      rw [show (1 : Nat) = 2 ^ 0 from rfl, Nat.testBit_two_pow, decide_eq_true_eq] at h1
      exact h1.symm
    · intro hz
      apply Nat.eq_of_testBit_eq
      intro k
      rw [Bool.eq_iff_iff, hx.2 k, show (1 : Nat) = 2 ^ 0 from rfl, Nat.testBit_two_pow, decide_eq_true_eq]
      constructor
      · rintro ⟨a, b, ⟨_, h2⟩, h3⟩
        rw [hz a b h2] at h3
        exact h3
      · rintro rfl
        exact ⟨r, c, ⟨by unfold vis; omega, by unfold inR; omega⟩, hz r c (by unfold inR; omega)⟩
  cases hf : freeB f r c d h
  · rw [hf] at key
    refine decide_eq_false ?_
    intro e
    exact absurd (key.1 (by omega)) (by simp)
  · rw [hf] at key
    refine decide_eq_true ?_
    have := key.2 rfl
    omega

set_option maxRecDepth 100000 in
set_option maxHeartbeats 4000000 in
theorem isFree_is {R C n : Nat} {f : Nat → Nat} {t : Nat → Sl} {r c d h : Nat} {w : World} {x : Bool} (hx : freeB f r c d h = x) (hR : R ≤ 5) (hC : C ≤ 5) (hr : r + d ≤ R) (hc : c + h ≤ C) (hd : 0 < d) (hh : 0 < h) (hf : ∀ k, f k ≤ 25) :
    Calls Try.prog 148 #[.agg (gridA R C n f t), .agg #[.int .i64 r, .int .i64 c, .int .i64 d, .int .i64 h]] w fun z w' => z = .returned (.bool x) ∧ Below w.heap.size w w' := by
  have HX : Hid (freeB f r c d h = x) := hx
  clear hx
  go_enter Try.func148, Try.ntmps148
  go_upto_region 1 with fail
  have B0 : Below w.heap.size w ((w.alloc (.cells (gridA R C n f t) 179)).alloc (.cells #[.int .i64 r, .int .i64 c, .int .i64 d, .int .i64 h] 183)) := (((Below.refl _ _).alloc (Nat.le_refl _) _).alloc (by simp) _)
  have G0 : GridAt ((w.alloc (.cells (gridA R C n f t) 179)).alloc (.cells #[.int .i64 r, .int .i64 c, .int .i64 d, .int .i64 h] 183)) w.heap.size R C n f t := (gridAt_new w R C n f t).alloc _
  have G2 : RectAt ((w.alloc (.cells (gridA R C n f t) 179)).alloc (.cells #[.int .i64 r, .int .i64 c, .int .i64 d, .int .i64 h] 183)) (w.heap.size + 1) r c d h := by
    have := (rowAt_new (w.alloc (.cells (gridA R C n f t) 179)) #[.int .i64 r, .int .i64 c, .int .i64 d, .int .i64 h] 183)
    simpa [RectAt] using this
  generalize ((w.alloc (.cells (gridA R C n f t) 179)).alloc (.cells #[.int .i64 r, .int .i64 c, .int .i64 d, .int .i64 h] 183)) = v0 at B0 G0 G2 ⊢
  have e0 := G2.c0
  have e1 := G2.c1
  have e2 := G2.c2
  have e3 := G2.c3
  have HG : Hid (GridAt v0 w.heap.size R C n f t) := G0
  clear G0 G2
  go_wp2_with (first | (refine wpList_load_row rfl 179 (.tmp 2) rfl w.heap.size rfl 179 (gridA R C n f t) (0, 0) _ HG.out Try.underlying179 rfl (grid_infoA _ _ _ _ _) ?_) | (go_at_call 152; refine (parted_any R C n f t r c d h _ hR hC (by omega) (by omega) hf).mono ?_; rintro e w4 ⟨⟨xx, yy, rfl, hxx, -⟩, hb4⟩))
  go_ret
  refine ⟨congrArg (fun b => Ending.returned (.bool b)) ?_, B0.trans (hb4.mono B0.size)⟩
  show ((xx : Int) == 1) = x
  rw [← HX.out, ← mask_one hxx hd hh hr hc, Bool.eq_iff_iff]
  simp
end Go.Proofs.Ythjipnocemioaaa
namespace Go.Proofs.Ythjipnocemioaaa
open Go.RowKit

/-- All squares of a rectangle have the number v. -/
def giveF (f : Nat → Nat) (r c d h v : Nat) : Nat → Nat := fun k => if r ≤ k / 5 ∧ k / 5 < r + d ∧ c ≤ k % 5 ∧ k % 5 < c + h then v else f k
def giveI (f : Nat → Nat) (r c h v i j : Nat) : Nat → Nat := fun k => if (r ≤ k / 5 ∧ k / 5 < r + i ∧ c ≤ k % 5 ∧ k % 5 < c + h) ∨ (k / 5 = r + i ∧ c ≤ k % 5 ∧ k % 5 < c + j) then v else f k
theorem giveI_zero (f : Nat → Nat) (r c h v : Nat) : giveI f r c h v 0 0 = f := by
  funext k
  unfold giveI
  rw [if_neg (by omega)]
theorem giveI_end (f : Nat → Nat) (r c d h v : Nat) : giveI f r c h v d 0 = giveF f r c d h v := by
  funext k
  unfold giveI giveF
  by_cases hh : r ≤ k / 5 ∧ k / 5 < r + d ∧ c ≤ k % 5 ∧ k % 5 < c + h
  · rw [if_pos (by omega), if_pos hh]
  · rw [if_neg (by omega), if_neg hh]
theorem giveI_row (f : Nat → Nat) (r c h v i : Nat) : giveI f r c h v i h = giveI f r c h v (i + 1) 0 := by
  funext k
  unfold giveI
  by_cases hh : (r ≤ k / 5 ∧ k / 5 < r + i ∧ c ≤ k % 5 ∧ k % 5 < c + h) ∨ (k / 5 = r + i ∧ c ≤ k % 5 ∧ k % 5 < c + h)
  · rw [if_pos hh, if_pos (by omega)]
  · rw [if_neg hh, if_neg (by omega)]
theorem giveI_upd (f : Nat → Nat) (r c h v i j : Nat) (hj : c + j < 5) : upd (giveI f r c h v i j) ((r + i) * 5 + (c + j)) v = giveI f r c h v i (j + 1) := by
  funext k
  unfold upd giveI
  by_cases h0 : k = (r + i) * 5 + (c + j)
  · rw [if_pos h0, if_pos (by omega)]
  · rw [if_neg h0]
    by_cases hh : (r ≤ k / 5 ∧ k / 5 < r + i ∧ c ≤ k % 5 ∧ k % 5 < c + h) ∨ (k / 5 = r + i ∧ c ≤ k % 5 ∧ k % 5 < c + j)
    · rw [if_pos hh, if_pos (by omega)]
    · rw [if_neg hh, if_neg (by omega)]
theorem grid_zero : gridA 0 0 0 (fun _ => 0) (fun _ => sl0) = #[.int .i64 0, .int .i64 0, .int .i64 0, .int .i64 0, .int .i64 0, .int .i64 0, .int .i64 0, .int .i64 0, .int .i64 0, .int .i64 0, .int .i64 0, .int .i64 0, .int .i64 0, .int .i64 0, .int .i64 0, .int .i64 0, .int .i64 0, .int .i64 0, .int .i64 0, .int .i64 0, .int .i64 0, .int .i64 0, .int .i64 0, .int .i64 0, .int .i64 0, .int .i64 0, .int .i64 0, .int .i64 0, .slice none 0 0, .slice none 0 0, .slice none 0 0, .slice none 0 0, .slice none 0 0, .slice none 0 0, .slice none 0 0, .slice none 0 0, .slice none 0 0, .slice none 0 0, .slice none 0 0, .slice none 0 0, .slice none 0 0, .slice none 0 0, .slice none 0 0, .slice none 0 0, .slice none 0 0, .slice none 0 0, .slice none 0 0, .slice none 0 0, .slice none 0 0, .slice none 0 0, .slice none 0 0, .slice none 0 0, .slice none 0 0, .slice none 0 0] := rfl

set_option maxRecDepth 100000 in
set_option maxHeartbeats 4000000 in
theorem give_any (R C : Int) (n : Nat) (f : Nat → Nat) (t : Nat → Sl) (r c d h v : Nat) (w : World) (hr : r + d ≤ 5) (hc : c + h ≤ 5) :
    Calls Try.prog 153 #[.agg (gridA R C n f t), .agg #[.int .i64 r, .int .i64 c, .int .i64 d, .int .i64 h], .int .i64 v] w fun z w' => z = .returned (.agg (gridA R C n (giveF f r c d h v) t)) ∧ Below w.heap.size w w' := by
  go_enter Try.func153, Try.ntmps153
  go_wp2_with fail
  rw [← grid_zero]
  have B0 : Below w.heap.size w (((w.alloc (.cells (gridA R C n f t) 179)).alloc (.cells #[.int .i64 r, .int .i64 c, .int .i64 d, .int .i64 h] 183)).alloc (.cells (gridA 0 0 0 (fun _ => 0) (fun _ => sl0)) 179)) := (((Below.refl _ _).alloc (Nat.le_refl _) _).alloc (by simp) _).alloc (by simp; omega) _
  have G0 : GridAt (((w.alloc (.cells (gridA R C n f t) 179)).alloc (.cells #[.int .i64 r, .int .i64 c, .int .i64 d, .int .i64 h] 183)).alloc (.cells (gridA 0 0 0 (fun _ => 0) (fun _ => sl0)) 179)) w.heap.size R C n f t := ((gridAt_new w R C n f t).alloc _).alloc _
  have G1 : GridAt (((w.alloc (.cells (gridA R C n f t) 179)).alloc (.cells #[.int .i64 r, .int .i64 c, .int .i64 d, .int .i64 h] 183)).alloc (.cells (gridA 0 0 0 (fun _ => 0) (fun _ => sl0)) 179)) (w.heap.size + 1 + 1) 0 0 0 (fun _ => 0) (fun _ => sl0) := by
    have := gridAt_new ((w.alloc (.cells (gridA R C n f t) 179)).alloc (.cells #[.int .i64 r, .int .i64 c, .int .i64 d, .int .i64 h] 183)) 0 0 0 (fun _ => 0) (fun _ => sl0)
    simpa using this
  have G2 : RectAt (((w.alloc (.cells (gridA R C n f t) 179)).alloc (.cells #[.int .i64 r, .int .i64 c, .int .i64 d, .int .i64 h] 183)).alloc (.cells (gridA 0 0 0 (fun _ => 0) (fun _ => sl0)) 179)) (w.heap.size + 1) r c d h := by
    have := (rowAt_new (w.alloc (.cells (gridA R C n f t) 179)) #[.int .i64 r, .int .i64 c, .int .i64 d, .int .i64 h] 183).alloc (.cells (gridA 0 0 0 (fun _ => 0) (fun _ => sl0)) 179)
    simpa [RectAt] using this
  generalize (((w.alloc (.cells (gridA R C n f t) 179)).alloc (.cells #[.int .i64 r, .int .i64 c, .int .i64 d, .int .i64 h] 183)).alloc (.cells (gridA 0 0 0 (fun _ => 0) (fun _ => sl0)) 179)) = v0 at B0 G0 G1 G2 ⊢
  go_loopw [11] (fun i wr => ∃ k : Nat, k ≤ d ∧ i = .int .i64 k ∧ GridAt wr w.heap.size R C n (giveI f r c h v k 0) t ∧ GridAt wr (w.heap.size + 1 + 1) 0 0 0 (fun _ => 0) (fun _ => sl0) ∧ RectAt wr (w.heap.size + 1) r c d h ∧ Below w.heap.size w wr) (fun i _ => d - (intOf i).toNat)
  case atStart => exact ⟨0, Nat.zero_le _, rfl, by rw [giveI_zero]; exact G0, G1, G2, B0⟩
  case round =>
    clear B0 G0 G1 G2
    obtain ⟨i, hi, rfl, hg, hz, hq, hb⟩ := hrel
    have HG : Hid (GridAt wr w.heap.size R C n (giveI f r c h v i 0) t) := hg
    have HZ : Hid (GridAt wr (w.heap.size + 1 + 1) 0 0 0 (fun _ => 0) (fun _ => sl0)) := hz
    have HQ : Hid (RectAt wr (w.heap.size + 1) r c d h) := hq
    have HB : Hid (Below w.heap.size w wr) := hb
    have k3 := hq.c3
    clear hg hz hb hq
    by_cases hlt : i < d
    · go_wp2_with fail
      go_loopw [16] (fun jj wq => ∃ j : Nat, j ≤ h ∧ jj = .int .i64 j ∧ GridAt wq w.heap.size R C n (giveI f r c h v i j) t ∧ GridAt wq (w.heap.size + 1 + 1) 0 0 0 (fun _ => 0) (fun _ => sl0) ∧ RectAt wq (w.heap.size + 1) r c d h ∧ Below w.heap.size w wq) (fun jj _ => h - (intOf jj).toNat)
      case atStart => exact ⟨0, Nat.zero_le _, rfl, HG.out, HZ.out, HQ.out, HB.out⟩
      case round =>
        clear HG HZ k3 HB HQ
        obtain ⟨j, hj, rfl, hg, hz, hq, hb⟩ := hrel
        have HG : Hid (GridAt wr w.heap.size R C n (giveI f r c h v i j) t) := hg
        have HZ : Hid (GridAt wr (w.heap.size + 1 + 1) 0 0 0 (fun _ => 0) (fun _ => sl0)) := hz
        have HQ : Hid (RectAt wr (w.heap.size + 1) r c d h) := hq
        have HB : Hid (Below w.heap.size w wr) := hb
        by_cases hlj : j < h
        · have q := hg.num ((r + i) * 5 + (c + j)) (by omega)
          have fz := hg.frozen (3 + ((r + i) * 5 + (c + j)))
          have k0 := hq.c0
          have k1 := hq.c1
          rw [← Nat.add_assoc] at q fz
          have b0 : (r : Int) + i < 5 := by omega
          have b1 : (c : Int) + j < 5 := by omega
          clear hg hz hb hq
          go_wp2_with fail
          go_region
          all_goals go_wp2_with fail
          all_goals go_roundw
          case rel =>
            have sN := HG.out.setNum ((r + i) * 5 + (c + j)) v (by omega)
            rw [giveI_upd f r c h v i j (by omega), ← Nat.add_assoc] at sN
            exact ⟨j + 1, by omega, by go_num, sN, HZ.out.other _ _ (by simp <;> omega), RowAt.other HQ.out _ _ (by simp), HB.out.drew.setCell (Nat.le_refl _) _⟩
          case measure => simp [intOf]; omega
        · clear hg hz hb hq
          go_wp2_with fail
          go_roundw
          case rel =>
            have hh := HG.out
            rw [show j = h from by omega, giveI_row] at hh
            exact ⟨i + 1, by omega, by go_num, hh, HZ.out, HQ.out, HB.out⟩
          case measure => simp [intOf]; omega
    · have hid : i = d := by omega
      subst hid
      go_wp2_with (first | (refine wpList_load_row rfl 179 (.tmp 3) rfl w.heap.size rfl 179 (gridA R C n (giveI f r c h v i 0) t) (0, 0) _ HG.out Try.underlying179 rfl (grid_infoA _ _ _ _ _) ?_) | (refine wpList_store_row rfl 179 (.tmp 6) (.tmp 33) rfl (w.heap.size + 1 + 1) (gridA R C n (giveI f r c h v i 0) t) rfl rfl 179 _ HZ.out (grid_infoA _ _ _ _ _) (by rw [gridA_size, gridA_size]) (gridA_one _ _ _ _ _) ?_))
      have hz := RowAt.setRow HZ.out (gridA R C n (giveI f r c h v i 0) t)
      refine bodyPost_ret (v := .agg (gridA R C n (giveI f r c h v i 0) t)) (results_cell_row (p := 6) (ty := 179) rfl _ _ (w.heap.size + 1 + 1) 179 _ _ _ rfl hz Try.underlying179 rfl (grid_infoA _ _ _ _ _)) rfl ⟨by rw [giveI_end], ?_⟩
      exact below_row HB.out (by omega) _
end Go.Proofs.Ythjipnocemioaaa
namespace Go.Proofs.Ythjipnocemioaaa
open Go.RowKit

theorem give_is {R C : Int} {n : Nat} {f : Nat → Nat} {t : Nat → Sl} {r c d h v : Nat} {w : World} {G : Array Value} (hG : gridA R C n f t = G) (hr : r + d ≤ 5) (hc : c + h ≤ 5) :
    Calls Try.prog 153 #[.agg G, .agg #[.int .i64 r, .int .i64 c, .int .i64 d, .int .i64 h], .int .i64 v] w fun z w' => z = .returned (.agg (gridA R C n (giveF f r c d h v) t)) ∧ Below w.heap.size w w' := hG ▸ give_any R C n f t r c d h v w hr hc

set_option maxRecDepth 100000 in
set_option maxHeartbeats 4000000 in
theorem lay_any (R C : Int) (n : Nat) (f : Nat → Nat) (t : Nat → Sl) (r c d h : Nat) (s : Sl) (w : World) (hr : r + d ≤ 5) (hc : c + h ≤ 5) (hn : n < 25) :
    Calls Try.prog 149 #[.agg (gridA R C n f t), .agg #[.int .i64 r, .int .i64 c, .int .i64 d, .int .i64 h], slV s] w fun z w' => z = .returned (.agg (gridA R C (n + 1) (giveF f r c d h (n + 1)) (updS t (n + 1) s))) ∧ Below w.heap.size w w' := by
  obtain ⟨sa, sn, sc⟩ := s
  unfold slV
  go_enter Try.func149, Try.ntmps149
  go_upto_region 1 with fail
  rw [← grid_zero]
  have B0 : Below w.heap.size w (((w.alloc (.cells (gridA R C n f t) 179)).alloc (.cells #[.int .i64 r, .int .i64 c, .int .i64 d, .int .i64 h] 183)).alloc (.cells (gridA 0 0 0 (fun _ => 0) (fun _ => sl0)) 179)) := (((Below.refl _ _).alloc (Nat.le_refl _) _).alloc (by simp) _).alloc (by simp; omega) _
  have G0 : GridAt (((w.alloc (.cells (gridA R C n f t) 179)).alloc (.cells #[.int .i64 r, .int .i64 c, .int .i64 d, .int .i64 h] 183)).alloc (.cells (gridA 0 0 0 (fun _ => 0) (fun _ => sl0)) 179)) w.heap.size R C n f t := ((gridAt_new w R C n f t).alloc _).alloc _
  have G1 : GridAt (((w.alloc (.cells (gridA R C n f t) 179)).alloc (.cells #[.int .i64 r, .int .i64 c, .int .i64 d, .int .i64 h] 183)).alloc (.cells (gridA 0 0 0 (fun _ => 0) (fun _ => sl0)) 179)) (w.heap.size + 1 + 1) 0 0 0 (fun _ => 0) (fun _ => sl0) := by
    have := gridAt_new ((w.alloc (.cells (gridA R C n f t) 179)).alloc (.cells #[.int .i64 r, .int .i64 c, .int .i64 d, .int .i64 h] 183)) 0 0 0 (fun _ => 0) (fun _ => sl0)
    simpa using this
  have G2 : RectAt (((w.alloc (.cells (gridA R C n f t) 179)).alloc (.cells #[.int .i64 r, .int .i64 c, .int .i64 d, .int .i64 h] 183)).alloc (.cells (gridA 0 0 0 (fun _ => 0) (fun _ => sl0)) 179)) (w.heap.size + 1) r c d h := by
    have := (rowAt_new (w.alloc (.cells (gridA R C n f t) 179)) #[.int .i64 r, .int .i64 c, .int .i64 d, .int .i64 h] 183).alloc (.cells (gridA 0 0 0 (fun _ => 0) (fun _ => sl0)) 179)
    simpa [RectAt] using this
  generalize (((w.alloc (.cells (gridA R C n f t) 179)).alloc (.cells #[.int .i64 r, .int .i64 c, .int .i64 d, .int .i64 h] 183)).alloc (.cells (gridA 0 0 0 (fun _ => 0) (fun _ => sl0)) 179)) = w1 at B0 G0 G1 G2 ⊢
  have p0 := G0.cells
  have p1 := G0.frozen 2
  go_upto_region 2 with fail
  rw [show (n : Int) + 1 = ((n + 1 : Nat) : Int) from by omega]
  have X0 := G0.setCells (n + 1)
  have X1 := G1.other ⟨w.heap.size, 2, none⟩ (.int .i64 ((n + 1 : Nat) : Int)) (by simp <;> omega)
  have X2 : RectAt _ _ _ _ _ _ := RowAt.other G2 ⟨w.heap.size, 2, none⟩ (.int .i64 ((n + 1 : Nat) : Int)) (by simp)
  have X3 := B0.setCell (p := ⟨w.heap.size, 2, none⟩) (Nat.le_refl _) (.int .i64 ((n + 1 : Nat) : Int))
  clear p0 p1 G0 G1 G2 B0
  generalize (w1.setCell ⟨w.heap.size, 2, none⟩ (.int .i64 ((n + 1 : Nat) : Int))) = w2 at X0 X1 X2 X3 ⊢
  obtain ⟨m, hm⟩ : ∃ m, n + 1 = m := ⟨_, rfl⟩
  rw [hm] at X0 ⊢
  have p0 := X0.cells
  have p1 := X0.txt m (by omega)
  have p2 := X0.frozen (28 + m)
  have p3 : (m : Int) < 26 := by omega
  go_upto_region 3 with fail
  have Y0 := X0.setTxt m (sa, sn, sc) (by omega)
  have Y1 := X1.other ⟨w.heap.size, 28 + m, none⟩ (slV (sa, sn, sc)) (by simp <;> omega)
  have Y2 : RectAt _ _ _ _ _ _ := RowAt.other X2 ⟨w.heap.size, 28 + m, none⟩ (slV (sa, sn, sc)) (by simp)
  have Y3 := X3.setCell (p := ⟨w.heap.size, 28 + m, none⟩) (Nat.le_refl _) (slV (sa, sn, sc))
  clear p0 p1 p2 X0 X1 X2 X3
  generalize hgen : (w2.setCell ⟨w.heap.size, 28 + m, none⟩ (slV (sa, sn, sc))) = w3 at Y0 Y1 Y2 Y3
  rw [show w2.setCell ⟨w.heap.size, 28 + m, none⟩ (Value.slice sa sn sc) = w3 from hgen]
  clear hgen
  have q0 := Y0.cells
  have e0 := Y2.c0
  have e1 := Y2.c1
  have e2 := Y2.c2
  have e3 := Y2.c3
  have HG : Hid (GridAt w3 w.heap.size R C m f (updS t m (sa, sn, sc))) := Y0
  have HZ : Hid (GridAt w3 (w.heap.size + 1 + 1) 0 0 0 (fun _ => 0) (fun _ => sl0)) := Y1
  have HB : Hid (Below w.heap.size w w3) := Y3
  have hlt := Y1.lt
  clear Y0 Y1 Y2 Y3
  go_wp2_with (first | (refine wpList_load_row rfl 179 (.tmp 3) rfl w.heap.size rfl 179 (gridA R C m f (updS t m (sa, sn, sc))) (0, 0) _ HG.out Try.underlying179 rfl (grid_infoA _ _ _ _ _) ?_) | (go_at_call 153; refine (give_any R C m f (updS t m (sa, sn, sc)) r c d h m _ hr hc).mono ?_; rintro e w4 ⟨rfl, hb4⟩) | (refine wpList_store_row rfl 179 (.tmp 6) (.tmp 20) rfl (w.heap.size + 1 + 1) (gridA R C m (giveF f r c d h m) (updS t m (sa, sn, sc))) rfl rfl 179 _ (HZ.out.below hb4 hlt) (grid_infoA _ _ _ _ _) (by rw [gridA_size, gridA_size]) (gridA_one _ _ _ _ _) ?_))
  have hz := RowAt.setRow (HZ.out.below hb4 hlt) (gridA R C m (giveF f r c d h m) (updS t m (sa, sn, sc)))
  refine bodyPost_ret (v := .agg (gridA R C m (giveF f r c d h m) (updS t m (sa, sn, sc)))) (results_cell_row (p := 6) (ty := 179) rfl _ _ (w.heap.size + 1 + 1) 179 _ _ _ rfl hz Try.underlying179 rfl (grid_infoA _ _ _ _ _)) rfl ⟨by rw [hm], ?_⟩
  exact below_row (HB.out.trans (hb4.mono (by omega))) (by omega) _
end Go.Proofs.Ythjipnocemioaaa
namespace Go.Proofs.Ythjipnocemioaaa
open Go.RowKit

/-- The squares' numbers when k cells are laid. -/
def numF (l : List Cl) : Nat → Nat → Nat
  | 0 => fun _ => 0
  | k + 1 => giveF (numF l k) (l.getD k cl0).1.toNat (l.getD k cl0).2.1.toNat (l.getD k cl0).2.2.1.toNat (l.getD k cl0).2.2.2.1.toNat (k + 1)
def wiB (R C : Int) (x : Cl) : Bool := withB x.1 x.2.1 x.2.2.1 x.2.2.2.1 R C
def frB (f : Nat → Nat) (x : Cl) : Bool := freeB f x.1.toNat x.2.1.toNat x.2.2.1.toNat x.2.2.2.1.toNat
/-- The cell k may be laid. -/
def stepB (R C : Int) (l : List Cl) (k : Nat) : Bool := wiB R C (l.getD k cl0) && frB (numF l k) (l.getD k cl0) && textB (l.getD k cl0).2.2.2.2
def gridP (R C : Int) (l : List Cl) : Prop := (1 ≤ R ∧ R ≤ 5) ∧ (1 ≤ C ∧ C ≤ 5) ∧ (∀ k, k < l.length → stepB R C l k = true) ∧ Tiles R.toNat C.toNat (numF l l.length)

theorem numF_le (l : List Cl) : ∀ k s, numF l k s ≤ k
  | 0, s => Nat.le_refl _
  | k + 1, s => by
    show giveF _ _ _ _ _ _ s ≤ _
    unfold giveF
    split
    · exact Nat.le_refl _
    · exact Nat.le_succ_of_le (numF_le l k s)
theorem wiB_of {R C : Int} {x : Cl} (h : wiB R C x = true) : (0 ≤ x.1 ∧ 0 ≤ x.2.1 ∧ 1 ≤ x.2.2.1 ∧ 1 ≤ x.2.2.2.1) ∧ x.1 + x.2.2.1 ≤ R ∧ x.2.1 + x.2.2.2.1 ≤ C := by
  simp only [wiB, withB, spanB, Bool.and_eq_true, decide_eq_true_eq] at h
  omega
theorem stepB_of {R C : Int} {l : List Cl} {k : Nat} (h : stepB R C l k = true) : wiB R C (l.getD k cl0) = true ∧ frB (numF l k) (l.getD k cl0) = true ∧ textB (l.getD k cl0).2.2.2.2 = true := by
  simp only [stepB, Bool.and_eq_true] at h
  exact ⟨h.1.1, h.1.2, h.2⟩
theorem stepB_mk {R C : Int} {l : List Cl} {k r c d g : Nat} {tx : List Sg} (hx : ((r : Int), (c : Int), (d : Int), (g : Int), tx) = l.getD k cl0) (q0 : withB r c d g R C = true) (q1 : freeB (numF l k) r c d g = true) (q2 : textB tx = true) : stepB R C l k = true := by
  simp only [stepB, wiB, frB, ← hx, Int.toNat_natCast, q0, q1, q2, Bool.and_self]
theorem stepB_0 {R C : Int} {l : List Cl} {k : Nat} {r c d g : Int} {tx : List Sg} (hx : (r, c, d, g, tx) = l.getD k cl0) (q0 : withB r c d g R C = false) : stepB R C l k = false := by
  simp only [stepB, wiB, ← hx, q0, Bool.false_and]
theorem stepB_1 {R C : Int} {l : List Cl} {k r c d g : Nat} {tx : List Sg} (hx : ((r : Int), (c : Int), (d : Int), (g : Int), tx) = l.getD k cl0) (q1 : freeB (numF l k) r c d g = false) : stepB R C l k = false := by
  simp only [stepB, frB, ← hx, Int.toNat_natCast, q1, Bool.false_and, Bool.and_false]
theorem stepB_2 {R C : Int} {l : List Cl} {k : Nat} {r c d g : Int} {tx : List Sg} (hx : (r, c, d, g, tx) = l.getD k cl0) (q2 : textB tx = false) : stepB R C l k = false := by
  simp only [stepB, ← hx, q2, Bool.and_false]
theorem inB_nat {x : Cl} {a b : Nat} (h : 0 ≤ x.1 ∧ 0 ≤ x.2.1 ∧ 1 ≤ x.2.2.1 ∧ 1 ≤ x.2.2.2.1) : inB x a b = true ↔ inR x.1.toNat x.2.1.toNat x.2.2.1.toNat x.2.2.2.1.toNat a b := by
  simp only [inB, decide_eq_true_eq, inR]
  omega
/-- What the numbers say. -/
theorem numF_pos (l : List Cl) (R C : Int) : ∀ K, (∀ i, i < K → wiB R C (l.getD i cl0) = true) → ∀ a b m, b < 5 → numF l K (a * 5 + b) = m + 1 → m < K ∧ inB (l.getD m cl0) a b = true
  | 0, _, a, b, m, _, h => by simp [numF] at h
  | K + 1, hw, a, b, m, hb, h => by
    have h' : giveF (numF l K) (l.getD K cl0).1.toNat (l.getD K cl0).2.1.toNat (l.getD K cl0).2.2.1.toNat (l.getD K cl0).2.2.2.1.toNat (K + 1) (a * 5 + b) = m + 1 := h
    unfold giveF at h'
    rw [show (a * 5 + b) / 5 = a from by omega, show (a * 5 + b) % 5 = b from by omega] at h'
    split at h'
    · rename_i hh
      obtain rfl : K = m := by omega
      exact ⟨by omega, (inB_nat (wiB_of (hw K (by omega))).1).2 hh⟩
    · obtain ⟨h1, h2⟩ := numF_pos l R C K (fun i hi => hw i (by omega)) a b m hb h'
      exact ⟨by omega, h2⟩
theorem numF_zero (l : List Cl) (R C : Int) : ∀ K, (∀ i, i < K → wiB R C (l.getD i cl0) = true) → ∀ a b, b < 5 → numF l K (a * 5 + b) = 0 → ∀ i, i < K → inB (l.getD i cl0) a b = false
  | 0, _, a, b, _, h => by intro i hi; omega
  | K + 1, hw, a, b, hb, h => by
    have h' : giveF (numF l K) (l.getD K cl0).1.toNat (l.getD K cl0).2.1.toNat (l.getD K cl0).2.2.1.toNat (l.getD K cl0).2.2.2.1.toNat (K + 1) (a * 5 + b) = 0 := h
    unfold giveF at h'
    rw [show (a * 5 + b) / 5 = a from by omega, show (a * 5 + b) % 5 = b from by omega] at h'
    split at h'
    · omega
    · rename_i hh
      intro i hi
      by_cases hiK : i = K
      · subst hiK
        rw [← Bool.not_eq_true, inB_nat (wiB_of (hw i (by omega))).1]
        exact hh
      · exact numF_zero l R C K (fun i hi => hw i (by omega)) a b hb h' i (by omega)
/-- No square is of two cells. -/
theorem step_apart {R C : Int} {l : List Cl} {K : Nat} (hC : C ≤ 5) (hs : ∀ i, i < K → stepB R C l i = true) {i k : Nat} (hik : i < k) (hk : k < K) (a b : Nat) (h1 : inB (l.getD i cl0) a b = true) (h2 : inB (l.getD k cl0) a b = true) : False := by
  obtain ⟨w1, w2, _⟩ := stepB_of (hs k hk)
  obtain ⟨w3, w4, w5⟩ := wiB_of w1
  have hz := (freeB_iff.1 w2) a b ((inB_nat w3).1 h2)
  have hb : b < 5 := by
    have := (inB_nat w3).1 h2
    unfold inR at this
    omega
  have := numF_zero l R C k (fun j hj => (stepB_of (hs j (by omega))).1) a b hb hz i hik
  rw [this] at h1
  exact absurd h1 (by simp)
/-- A square that is of a cell has its number. -/
theorem numF_of {R C : Int} {l : List Cl} {K : Nat} (hC : C ≤ 5) (hs : ∀ i, i < K → stepB R C l i = true) {i : Nat} (hi : i < K) (a b : Nat) (h : inB (l.getD i cl0) a b = true) : numF l K (a * 5 + b) = i + 1 := by
  have hw : ∀ i, i < K → wiB R C (l.getD i cl0) = true := fun j hj => (stepB_of (hs j hj)).1
  have hb : b < 5 := by
    have := (inB_nat (wiB_of (hw i hi)).1).1 h
    have := (wiB_of (hw i hi))
    unfold inR at *
    omega
  cases hm : numF l K (a * 5 + b) with
  | zero =>
    have := numF_zero l R C K hw a b hb hm i hi
    rw [this] at h
    exact absurd h (by simp)
  | succ m =>
    obtain ⟨h1, h2⟩ := numF_pos l R C K hw a b m hb hm
    rcases Nat.lt_trichotomy m i with h3 | h3 | h3
    · exact (step_apart hC hs h3 hi a b h2 h).elim
    · rw [h3]
    · exact (step_apart hC hs h3 h1 a b h h2).elim
theorem inB_start {R C : Int} {x : Cl} (h : wiB R C x = true) : inB x (x.1.toNat : Nat) (x.2.1.toNat : Nat) = true := by
  have := wiB_of h
  simp only [inB, decide_eq_true_eq]
  omega
/-- Just so many numbers as squares. -/
theorem pigeon (f : Nat → Nat) : ∀ (N : Nat) (L : List Nat), L.Nodup → (∀ x ∈ L, ∃ s, s < N ∧ f s = x) → L.length ≤ N
  | 0, L, _, h => by
    cases L with
    | nil => exact Nat.le_refl _
    | cons x L =>
      obtain ⟨s, hs, _⟩ := h x (by simp)
      omega
  | N + 1, L, hn, h => by
    have := pigeon f N (L.erase (f N)) (hn.erase _) (fun x hx => by
      have hx1 := List.mem_of_mem_erase hx
      obtain ⟨s, hs, e⟩ := h x hx1
      refine ⟨s, ?_, e⟩
      rcases Nat.lt_or_ge s N with h1 | h1
      · exact h1
      · obtain rfl : s = N := by omega
        rw [← e] at hx
        exact absurd hx (hn.not_mem_erase))
    rw [List.length_erase] at this
    split at this <;> omega
theorem step_le {R C : Int} {l : List Cl} {K : Nat} (hR : R ≤ 5) (hC : C ≤ 5) (hs : ∀ i, i < K → stepB R C l i = true) : K ≤ 25 := by
  have := pigeon (fun s => numF l K s) 25 ((List.range K).map (· + 1)) (by
    rw [List.nodup_iff_pairwise_ne, List.pairwise_map]
    exact List.nodup_range.imp (fun h => by omega)) (by
    intro x hx
    obtain ⟨i, hi, rfl⟩ := List.mem_map.1 hx
    have hi' : i < K := by simpa using hi
    have w := (stepB_of (hs i hi')).1
    have hh := wiB_of w
    exact ⟨(l.getD i cl0).1.toNat * 5 + (l.getD i cl0).2.1.toNat, by omega, numF_of hC hs hi' _ _ (inB_start w)⟩)
  simpa using this
end Go.Proofs.Ythjipnocemioaaa
namespace Go.Proofs.Ythjipnocemioaaa
open Go.RowKit

theorem countP_two {α : Type} (p : α → Bool) (l : List α) (i j : Nat) (hij : i < j) (hj : j < l.length) (h1 : p (l[i]'(by omega)) = true) (h2 : p l[j] = true) : 2 ≤ l.countP p := by
  have e : l = l.take (i + 1) ++ l.drop (i + 1) := (List.take_append_drop _ _).symm
  rw [e, List.countP_append]
  have c1 : 0 < (l.take (i + 1)).countP p := List.countP_pos_iff.2 ⟨l[i], by
    rw [List.mem_take_iff_getElem]
    exact ⟨i, by omega, rfl⟩, h1⟩
  have c2 : 0 < (l.drop (i + 1)).countP p := List.countP_pos_iff.2 ⟨l[j], by
    rw [List.mem_drop_iff_getElem]
    exact ⟨j - (i + 1), by omega, by congr 1; omega⟩, h2⟩
  omega
theorem getD_get {l : List Cl} {k : Nat} (hk : k < l.length) : l.getD k cl0 = l[k] := by simp [List.getD, hk]
theorem countP_one {α : Type} (p : α → Bool) (l : List α) (k : Nat) (hk : k < l.length) (h : p l[k] = true) (hu : ∀ i (hi : i < l.length), p l[i] = true → i = k) : l.countP p = 1 := by
  have h1 : 0 < l.countP p := List.countP_pos_iff.2 ⟨l[k], List.getElem_mem hk, h⟩
  induction l generalizing k with
  | nil => simp at hk
  | cons x l ih =>
    cases k with
    | zero =>
      have hx : p x = true := h
      rw [List.countP_cons_of_pos hx]
      have : l.countP p = 0 := List.countP_eq_zero.2 (by
        intro y hy hpy
        obtain ⟨i, hi, rfl⟩ := List.getElem_of_mem hy
        have := hu (i + 1) (by simpa using hi) (by simpa using hpy)
        omega)
      omega
    | succ k =>
      have hx : ¬ p x = true := fun hx => by
        have := hu 0 (by simp) hx
        omega
      rw [List.countP_cons_of_neg hx]
      have hk' : k < l.length := by simpa using hk
      refine ih k hk' h (fun i hi hp => ?_) (List.countP_pos_iff.2 ⟨l[k], List.getElem_mem hk', h⟩)
      have := hu (i + 1) (by simpa using hi) (by simpa using hp)
      omega
theorem ahead_of {x y : Cl} (h : ahead x y = true) : x.1 < y.1 ∨ x.1 = y.1 ∧ x.2.1 < y.2.1 := of_decide_eq_true h
theorem ahead_far {R C : Int} {l : List Cl} (h : ∀ k, k < l.length → atB R C l k = true) : ∀ (k i : Nat), k < l.length → i < k → ahead (l.getD i cl0) (l.getD k cl0) = true
  | 0, i, _, hi => by omega
  | k + 1, i, hk, hi => by
    have h1 : ahead (l.getD k cl0) (l.getD (k + 1) cl0) = true := by
      have := h (k + 1) hk
      simp only [atB, Bool.and_eq_true, Bool.or_eq_true, decide_eq_true_eq] at this
      rcases this.2 with h2 | h2
      · omega
      · exact h2
    by_cases hik : i = k
    · subst hik
      exact h1
    · have h2 := ahead_of (ahead_far h k i (by omega) (by omega))
      have h3 := ahead_of h1
      exact decide_eq_true (by omega)

theorem okB_of_gridP {R C : Int} {l : List Cl} (h : gridP R C l) : okB R C l = true := by
  obtain ⟨hR, hC, hs, ht⟩ := h
  have hw : ∀ i, i < l.length → wiB R C (l.getD i cl0) = true := fun j hj => (stepB_of (hs j hj)).1
  have hform : formB R C l = true := by
    have hlen := step_le hR.2 hC.2 hs
    simp only [formB, Bool.and_eq_true, decide_eq_true_eq, List.all_eq_true, List.mem_range]
    refine ⟨⟨⟨hR, hC⟩, hlen⟩, ?_⟩
    intro k hk
    obtain ⟨w1, _, w3⟩ := stepB_of (hs k hk)
    have w4 := wiB_of w1
    simp only [atB, Bool.and_eq_true, Bool.or_eq_true, cellB, decide_eq_true_eq]
    refine ⟨⟨⟨⟨⟨by omega, by omega⟩, by omega, by omega⟩, by omega, by omega⟩, w3⟩, ?_⟩
    by_cases hk0 : k = 0
    · exact .inl hk0
    · right
      have e := numF_of hC.2 hs hk _ _ (inB_start w1)
      obtain ⟨_, t2⟩ := ht (l.getD k cl0).1.toNat (l.getD k cl0).2.1.toNat (by unfold vis; omega)
      obtain ⟨a, b, h3, h4⟩ := t2 k (by omega) (by omega)
      have hb : b < 5 := by unfold vis at h3; omega
      obtain ⟨_, h5⟩ := numF_pos l R C l.length hw a b (k - 1) hb (by omega)
      simp only [inB, decide_eq_true_eq] at h5
      refine decide_eq_true ?_
      unfold vis at h3
      omega
  simp only [okB, hform, Bool.true_and, List.all_eq_true, List.mem_range, colB, decide_eq_true_eq]
  intro a ha b hb
  obtain ⟨t1, _⟩ := ht a b (by unfold vis; omega)
  obtain ⟨h1, h2⟩ := numF_pos l R C l.length hw a b (numF l l.length (a * 5 + b) - 1) (by omega) (by omega)
  generalize numF l l.length (a * 5 + b) - 1 = m at h1 h2
  unfold cnt
  rw [getD_get h1] at h2
  refine countP_one _ l m h1 h2 ?_
  intro i hi hp
  rw [← getD_get hi] at hp
  rw [← getD_get h1] at h2
  rcases Nat.lt_trichotomy i m with h3 | h3 | h3
  · exact (step_apart hC.2 hs h3 h1 a b hp h2).elim
  · exact h3
  · exact (step_apart hC.2 hs h3 hi a b h2 hp).elim
theorem okB_cnt {R C : Int} {l : List Cl} (h : okB R C l = true) (a b : Nat) (ha : (a : Int) < R) (hb : (b : Int) < C) : cnt l a b = 1 := by
  simp only [okB, Bool.and_eq_true, List.all_eq_true, List.mem_range, colB, decide_eq_true_eq] at h
  exact h.2 a (by omega) b (by omega)
theorem okB_apart {R C : Int} {l : List Cl} (h : okB R C l = true) (a b : Nat) (ha : (a : Int) < R) (hb : (b : Int) < C) {i k : Nat} (hik : i < k) (hk : k < l.length) (h1 : inB (l.getD i cl0) a b = true) (h2 : inB (l.getD k cl0) a b = true) : False := by
  have := okB_cnt h a b ha hb
  rw [getD_get (by omega)] at h1
  rw [getD_get hk] at h2
  have c := countP_two (fun x => inB x a b) l i k hik hk h1 h2
  unfold cnt at this
  omega
theorem gridP_of_okB {R C : Int} {l : List Cl} (h : okB R C l = true) : gridP R C l := by
  have hf : formB R C l = true := by
    simp only [okB, Bool.and_eq_true] at h
    exact h.1
  obtain ⟨hR, hC, hlen, hat⟩ := formB_of hf
  have hw : ∀ i, i < l.length → wiB R C (l.getD i cl0) = true := by
    intro i hi
    have := cellB_of (atB_cell (hat i hi))
    simp only [wiB, withB, spanB, Bool.and_eq_true, decide_eq_true_eq]
    omega
  have hs : ∀ k, k < l.length → stepB R C l k = true := by
    intro k hk
    have w := hw k hk
    obtain ⟨w1, w2, w3⟩ := wiB_of w
    simp only [stepB, Bool.and_eq_true]
    refine ⟨⟨w, ?_⟩, (cellB_of (atB_cell (hat k hk))).2.2.2.2⟩
    refine freeB_iff.2 ?_
    intro a b hab
    have hb : b < 5 := by unfold inR at hab; omega
    have ha' : (a : Int) < R := by unfold inR at hab; omega
    have hb' : (b : Int) < C := by unfold inR at hab; omega
    cases hm : numF l k (a * 5 + b) with
    | zero => rfl
    | succ m =>
      obtain ⟨h1, h2⟩ := numF_pos l R C k (fun i hi => hw i (by omega)) a b m hb hm
      exact (okB_apart h a b ha' hb' h1 hk h2 ((inB_nat w1).2 hab)).elim
  refine ⟨hR, hC, hs, ?_⟩
  intro a b hv
  have ha' : (a : Int) < R := by unfold vis at hv; omega
  have hb' : (b : Int) < C := by unfold vis at hv; omega
  have hb : b < 5 := by omega
  constructor
  · have hc := okB_cnt h a b ha' hb'
    rcases Nat.eq_zero_or_pos (numF l l.length (a * 5 + b)) with h0 | h0
    · have hz := numF_zero l R C l.length hw a b hb h0
      have : cnt l a b = 0 := List.countP_eq_zero.2 (by
        intro x hx hp
        obtain ⟨i, hi, rfl⟩ := List.getElem_of_mem hx
        have := hz i hi
        rw [getD_get hi] at this
        rw [this] at hp
        exact absurd hp (by simp))
      omega
    · exact h0
  · intro k k1 k2
    obtain ⟨h1, h2⟩ := numF_pos l R C l.length hw a b (numF l l.length (a * 5 + b) - 1) hb (by omega)
    have hk : k - 1 < numF l l.length (a * 5 + b) - 1 := by omega
    generalize numF l l.length (a * 5 + b) - 1 = m at h1 h2 hk
    have h3 := ahead_of (ahead_far hat m (k - 1) h1 hk)
    have w := hw (k - 1) (by omega)
    have w' := wiB_of w
    refine ⟨(l.getD (k - 1) cl0).1.toNat, (l.getD (k - 1) cl0).2.1.toNat, ?_, ?_⟩
    · simp only [inB, decide_eq_true_eq] at h2
      unfold vis
      omega
    · rw [numF_of hC.2 hs (show k - 1 < l.length by omega) _ _ (inB_start w)]
      omega
theorem gridP_iff {R C : Int} {l : List Cl} : gridP R C l ↔ okB R C l = true := ⟨okB_of_gridP, gridP_of_okB⟩
end Go.Proofs.Ythjipnocemioaaa
namespace Go.Proofs.Ythjipnocemioaaa
open Go.RowKit

theorem built_0 : Try.prog.built 179 [] = some (gridA 0 0 0 (fun _ => 0) (fun _ => sl0)) := by kernel_rfl
set_option maxRecDepth 100000 in
theorem built_2 (R C : Int) : Try.prog.built 179 [(0, .int .i64 R), (1, .int .i64 C)] = some (gridA R C 0 (fun _ => 0) (fun _ => sl0)) := by rfl
theorem wpList_grid0 {ops : Array Oper} {rest : List Oper} {o : Oper} {a : Act} {w : World} {Q : Exit → Act → World → Prop} (hg : o.guard = none) (ho : o.op = .build 179 #[])
    (h : wpList Try.prog ops Q rest (a.put o.dst (.agg (gridA 0 0 0 (fun _ => 0) (fun _ => sl0)))) w) : wpList Try.prog ops Q (o :: rest) a w := by
  have e : ((#[] : Array (Nat × Operand)).map fun (i, x) => (i, a.eval x)).toList = [] := by simp
  exact wpList_build hg 179 _ ho (by rw [e, built_0]; rfl) (by rw [e, built_0]; exact h)
theorem wpList_grid2 {ops : Array Oper} {rest : List Oper} {o : Oper} {a : Act} {w : World} {Q : Exit → Act → World → Prop} (hg : o.guard = none) (x y : Operand) (ho : o.op = .build 179 #[(0, x), (1, y)]) (R C : Int) (hx : a.eval x = .int .i64 R) (hy : a.eval y = .int .i64 C)
    (h : wpList Try.prog ops Q rest (a.put o.dst (.agg (gridA R C 0 (fun _ => 0) (fun _ => sl0)))) w) : wpList Try.prog ops Q (o :: rest) a w := by
  have e : ((#[(0, x), (1, y)] : Array (Nat × Operand)).map fun (i, x) => (i, a.eval x)).toList = [(0, .int .i64 R), (1, .int .i64 C)] := by simp [hx, hy]
  exact wpList_build hg 179 _ ho (by rw [e, built_2]; rfl) (by rw [e, built_2]; exact h)
theorem run_gridOf {w : World} {g : Nat} {R C : Int} {n : Nat} {f : Nat → Nat} {t : Nat → Sl} (h : GridAt w g R C n f t) : (loadVar 179 ⟨g, 0, none⟩).run Try.prog w = .ok (.agg (gridA R C n f t)) w :=
  run_loadVar_row w g 179 179 (gridA R C n f t) (0, 0) _ h Try.underlying179 rfl (grid_infoA _ _ _ _ _)
theorem implTextOk_isG {a : Option Addr} {n cap : Nat} {l : List Sg} {w : World} {x : Bool} (h : Txt w a n cap l) (hx : textB l = x) :
    Calls Try.prog 112 #[.slice a n cap] w fun e w' => e = .returned (.bool x) ∧ Below w.heap.size w w' := hx ▸ implTextOk_any a n cap l w h

theorem okB_no {R C : Int} {l : List Cl} (h : ¬ gridP R C l) : okB R C l = false := by
  rw [← Bool.not_eq_true, ← gridP_iff]
  exact h
/-- What gridOf gives. -/
def GridRes (R C : Int) (l : List Cl) (x : Bool) (z : Ending) (w' : World) : Prop :=
  (x = false ∧ z = .returned (.tuple #[.agg (gridA 0 0 0 (fun _ => 0) (fun _ => sl0)), .bool false])) ∨
  (x = true ∧ ∃ t : Nat → Sl, z = .returned (.tuple #[.agg (gridA R C l.length (numF l l.length) t), .bool true]) ∧ ∀ i, i < l.length → Txt w' (t (i + 1)).1 (t (i + 1)).2.1 (t (i + 1)).2.2 (l.getD i cl0).2.2.2.2)

set_option maxRecDepth 100000 in
set_option maxHeartbeats 4000000 in
theorem gridOf_is {R C : Int} {a : Option Addr} {n cap : Nat} {l : List Cl} {w : World} {x : Bool} (hx : okB R C l = x) (h : Tab w a n cap l) :
    Calls Try.prog 144 #[.agg #[.int .i64 R, .int .i64 C, .slice a n cap]] w fun z w' => GridRes R C l x z w' ∧ Below w.heap.size w w' := by
  have HX : Hid (okB R C l = x) := hx
  have H : Hid (Tab w a n cap l) := h
  obtain ⟨rfl, hc, hm, hl⟩ := h
  clear hx hl
  unfold maxLen at hm
  go_enter Try.func144, Try.ntmps144
  go_upto_region 1 with fail
  rw [← grid_zero]
  have B0 : Below w.heap.size w ((w.alloc (.cells #[.int .i64 R, .int .i64 C, .slice a l.length cap] 47)).alloc (.cells (gridA 0 0 0 (fun _ => 0) (fun _ => sl0)) 179)) := (((Below.refl _ _).alloc (Nat.le_refl _) _).alloc (by simp) _)
  have G1 : GridAt ((w.alloc (.cells #[.int .i64 R, .int .i64 C, .slice a l.length cap] 47)).alloc (.cells (gridA 0 0 0 (fun _ => 0) (fun _ => sl0)) 179)) (w.heap.size + 1) 0 0 0 (fun _ => 0) (fun _ => sl0) := by
    have := gridAt_new (w.alloc (.cells #[.int .i64 R, .int .i64 C, .slice a l.length cap] 47)) 0 0 0 (fun _ => 0) (fun _ => sl0)
    simpa using this
  have G2 : RowAt ((w.alloc (.cells #[.int .i64 R, .int .i64 C, .slice a l.length cap] 47)).alloc (.cells (gridA 0 0 0 (fun _ => 0) (fun _ => sl0)) 179)) w.heap.size #[.int .i64 R, .int .i64 C, .slice a l.length cap] 47 := (rowAt_new w _ _).alloc _
  generalize ((w.alloc (.cells #[.int .i64 R, .int .i64 C, .slice a l.length cap] 47)).alloc (.cells (gridA 0 0 0 (fun _ => 0) (fun _ => sl0)) 179)) = v0 at B0 G1 G2 ⊢
  have k0 : v0.cell? ⟨w.heap.size, 0, none⟩ = some (.int .i64 R) := G2.cell 0
  have k1 : v0.cell? ⟨w.heap.size, 1, none⟩ = some (.int .i64 C) := G2.cell 1
  have k2 : v0.cell? ⟨w.heap.size, 2, none⟩ = some (.slice a l.length cap) := G2.cell 2
  have HZ : Hid (GridAt v0 (w.heap.size + 1) 0 0 0 (fun _ => 0) (fun _ => sl0)) := G1
  clear G1
  cases s0 : sizeB R
  · have S0 : Hid (sizeB R = false) := s0
    clear s0
    go_upto_region 2 with (go_at_call 145; refine (sizeOk_is S0.out _).mono ?_; rintro e w1 ⟨rfl, hw1⟩; subst w1)
    go_wp2_with (first | (refine wpList_grid0 rfl rfl ?_) | (refine wpList_store_row rfl 179 (.tmp 2) (.tmp 18) rfl (w.heap.size + 1) (gridA 0 0 0 (fun _ => 0) (fun _ => sl0)) rfl rfl 179 _ HZ.out (grid_infoA _ _ _ _ _) (by rw [gridA_size]) (gridA_one _ _ _ _ _) ?_))
    refine bodyPost_ret (v := .tuple #[.agg (gridA 0 0 0 (fun _ => 0) (fun _ => sl0)), .bool false]) ?_ rfl ⟨.inl ⟨?_, rfl⟩, ?_⟩
    · rw [results_cell_tmp rfl]
      simp [asAddr, Result.andThen, run_gridOf (RowAt.setRow HZ.out (gridA 0 0 0 (fun _ => 0) (fun _ => sl0)))]
    · rw [← HX.out]
      exact okB_no (fun hp => by have := S0.out; simp [sizeB] at this; have := hp.1; omega)
    · exact below_row B0 (by omega) _
  cases s1 : sizeB C
  · have S0 : Hid (sizeB R = true) := s0
    have S1 : Hid (sizeB C = false) := s1
    clear s0 s1
    go_upto_region 2 with (first | (go_at_call_of 145 (Value.int IntKind.i64 R); refine (sizeOk_is S0.out _).mono ?_; rintro e w1 ⟨rfl, hw1⟩; subst w1) | (go_at_call_of 145 (Value.int IntKind.i64 C); refine (sizeOk_is S1.out _).mono ?_; rintro e w1 ⟨rfl, hw1⟩; subst w1))
    go_wp2_with (first | (refine wpList_grid0 rfl rfl ?_) | (refine wpList_store_row rfl 179 (.tmp 2) (.tmp 18) rfl (w.heap.size + 1) (gridA 0 0 0 (fun _ => 0) (fun _ => sl0)) rfl rfl 179 _ HZ.out (grid_infoA _ _ _ _ _) (by rw [gridA_size]) (gridA_one _ _ _ _ _) ?_))
    refine bodyPost_ret (v := .tuple #[.agg (gridA 0 0 0 (fun _ => 0) (fun _ => sl0)), .bool false]) ?_ rfl ⟨.inl ⟨?_, rfl⟩, ?_⟩
    · rw [results_cell_tmp rfl]
      simp [asAddr, Result.andThen, run_gridOf (RowAt.setRow HZ.out (gridA 0 0 0 (fun _ => 0) (fun _ => sl0)))]
    · rw [← HX.out]
      exact okB_no (fun hp => by have := S1.out; simp [sizeB] at this; have := hp.2.1; omega)
    · exact below_row B0 (by omega) _
  have hR : 1 ≤ R ∧ R ≤ 5 := of_decide_eq_true s0
  have hC : 1 ≤ C ∧ C ≤ 5 := of_decide_eq_true s1
  have S0 : Hid (sizeB R = true) := s0
  have S1 : Hid (sizeB C = true) := s1
  clear s0 s1
  obtain ⟨R, rfl⟩ : ∃ R' : Nat, R = R' := ⟨R.toNat, by omega⟩
  obtain ⟨C, rfl⟩ : ∃ C' : Nat, C = C' := ⟨C.toNat, by omega⟩
  go_upto_region 3 with (first | (go_at_call_of 145 (Value.int IntKind.i64 R); refine (sizeOk_is S0.out _).mono ?_; rintro e w1 ⟨rfl, hw1⟩; subst w1) | (go_at_call_of 145 (Value.int IntKind.i64 C); refine (sizeOk_is S1.out _).mono ?_; rintro e w1 ⟨rfl, hw1⟩; subst w1))
  clear S0 S1
  go_upto_region 4 with (first | (refine wpList_grid2 rfl (.tmp 20) (.tmp 22) rfl R C rfl rfl ?_) | (rw [← grid_zero]; refine wpList_store_row rfl 179 (.tmp 4) (.tmp 23) rfl v0.heap.size (gridA R C 0 (fun _ => 0) (fun _ => sl0)) rfl rfl 179 _ (gridAt_new _ _ _ _ _ _) (grid_infoA _ _ _ _ _) (by rw [gridA_size, gridA_size]) (gridA_one _ _ _ _ _) ?_))
  have G4 : GridAt ((v0.alloc (.cells (gridA 0 0 0 (fun _ => 0) (fun _ => sl0)) 179)).setRow v0.heap.size (gridA R C 0 (fun _ => 0) (fun _ => sl0))) v0.heap.size R C 0 (fun _ => 0) (fun _ => sl0) := RowAt.setRow (gridAt_new _ _ _ _ _ _) _
  have B4 : Below v0.heap.size v0 ((v0.alloc (.cells (gridA 0 0 0 (fun _ => 0) (fun _ => sl0)) 179)).setRow v0.heap.size (gridA R C 0 (fun _ => 0) (fun _ => sl0))) := below_row ((Below.refl _ _).alloc (Nat.le_refl _) _) (Nat.le_refl _) _
  generalize ((v0.alloc (.cells (gridA 0 0 0 (fun _ => 0) (fun _ => sl0)) 179)).setRow v0.heap.size (gridA R C 0 (fun _ => 0) (fun _ => sl0))) = v1 at G4 B4 ⊢
  have bt : w.heap.size < v0.heap.size := G2.lt
  have bz : w.heap.size + 1 < v0.heap.size := HZ.out.lt
  have j2 := (B4.cell (p := ⟨w.heap.size, 2, none⟩) bt).trans k2
  clear k0 k1 k2 G2
  go_wp2_with fail
  go_loopw [27] (fun i wr => ∃ (k : Nat) (t : Nat → Sl), k ≤ l.length ∧ i = .int .i64 k ∧ (∀ j, j < k → stepB R C l j = true) ∧ GridAt wr v0.heap.size R C k (numF l k) t ∧ (∀ j, j < k → Txt w (t (j + 1)).1 (t (j + 1)).2.1 (t (j + 1)).2.2 (l.getD j cl0).2.2.2.2) ∧ Below v0.heap.size v0 wr) (fun i _ => l.length - (intOf i).toNat)
  case atStart => exact ⟨0, _, Nat.zero_le _, rfl, fun j hj => by omega, G4, fun j hj => by omega, B4⟩
  case round =>
    clear G4 B4 j2
    obtain ⟨k, t, hk, rfl, hst, hg, htx, hb⟩ := hrel
    have HS : Hid (∀ j, j < k → stepB R C l j = true) := hst
    have HT : Hid (∀ j, j < k → Txt w (t (j + 1)).1 (t (j + 1)).2.1 (t (j + 1)).2.2 (l.getD j cl0).2.2.2.2) := htx
    have HG : Hid (GridAt wr v0.heap.size R C k (numF l k) t) := hg
    have HZr : Hid (GridAt wr (w.heap.size + 1) 0 0 0 (fun _ => 0) (fun _ => sl0)) := HZ.out.below hb bz
    have HB : Hid (Below v0.heap.size v0 wr) := hb
    have HW : Hid (Below w.heap.size w wr) := B0.trans (hb.mono B0.size)
    have hk25 := step_le hR.2 hC.2 hst
    have szr : v0.heap.size < wr.heap.size := hg.lt
    have gr := hg.rows
    have gc := hg.cols
    clear hst htx hg hb
    by_cases hlt : k < l.length
    · rcases H.out.2.2.2 with e | ⟨b, off, rfl, hbw, hl⟩
      · rw [e] at hlt
        exact absurd hlt (by simp)
      obtain ⟨c0, c1, c2, c3, ta, tn, tc, c4, ht⟩ := (hl k hlt)
      have HTX : Hid (Txt w ta tn tc (l.getD k cl0).2.2.2.2) := ht
      obtain ⟨c0, c1, c2, c3, -⟩ : CellAt wr b (off + k * 5) (l.getD k cl0) := (hl k hlt).below HW.out hbw
      have c4 := (HW.out.cell (p := ⟨b, _, none⟩) hbw).trans c4
      clear ht hl
      obtain ⟨⟨r, c, d, g, tx⟩, hx⟩ : ∃ x, x = l.getD k cl0 := ⟨_, rfl⟩
      rw [← hx] at c0 c1 c2 c3 HTX
      simp only at c0 c1 c2 c3 HTX
      have HXX : Hid ((r, c, d, g, tx) = l.getD k cl0) := hx
      clear hx
      go_upto_region 8 with (go_at_call 146; refine (rectOf_any _ _ _ _ _ _ _ _).mono ?_; rintro e w1 ⟨rfl, hb1⟩)
      have bA : Below wr.heap.size wr (wr.alloc (Obj.cells #[.int .i64 r, .int .i64 c, .int .i64 d, .int .i64 g, .slice ta tn tc] 59)) := (Below.refl _ _).alloc (Nat.le_refl _) _
      have sA : wr.heap.size < w1.heap.size := by have := hb1.size; simp at this; omega
      have b3 : Below wr.heap.size wr (w1.alloc (.cells #[.int .i64 r, .int .i64 c, .int .i64 d, .int .i64 g] 183)) := (bA.trans (hb1.mono (by simp))).alloc (Nat.le_of_lt sA) _
      have C3 : RowAt (w1.alloc (.cells #[.int .i64 r, .int .i64 c, .int .i64 d, .int .i64 g] 183)) wr.heap.size #[.int .i64 r, .int .i64 c, .int .i64 d, .int .i64 g, .slice ta tn tc] 59 := ((rowAt_new wr _ _).below hb1 (by simp)).alloc _
      have Q3 : RectAt (w1.alloc (.cells #[.int .i64 r, .int .i64 c, .int .i64 d, .int .i64 g] 183)) w1.heap.size r c d g := rowAt_new _ _ _
      generalize (w1.alloc (.cells #[.int .i64 r, .int .i64 c, .int .i64 d, .int .i64 g] 183)) = w3 at b3 C3 Q3 ⊢
      have gr := (HG.out.below b3 szr).rows
      have gc := (HG.out.below b3 szr).cols
      have e0 := Q3.c0
      have e1 := Q3.c1
      have e2 := Q3.c2
      have e3 := Q3.c3
      have e4 : w3.cell? ⟨wr.heap.size, 4, none⟩ = some (.slice ta tn tc) := C3.cell 4
      have HG3 : Hid (GridAt w3 v0.heap.size R C k (numF l k) t) := HG.out.below b3 szr
      have HZ3 : Hid (GridAt w3 (w.heap.size + 1) 0 0 0 (fun _ => 0) (fun _ => sl0)) := HZr.out.below b3 (by omega)
      have HQ3 : Hid (RectAt w3 w1.heap.size r c d g) := Q3
      have HC3 : Hid (RowAt w3 wr.heap.size #[.int .i64 r, .int .i64 c, .int .i64 d, .int .i64 g, .slice ta tn tc] 59) := C3
      have HB3 : Hid (Below v0.heap.size v0 w3) := HB.out.trans (b3.mono (by omega))
      have HW3 : Hid (Below w.heap.size w w3) := HW.out.trans (b3.mono (by omega))
      have s3 := b3.size
      have s4 := RowAt.lt Q3
      have s5 := B0.size
      clear HG HZr HB HW b3 C3 Q3 bA hb1 c0 c1 c2 c3 c4
      cases q0 : withB r c d g R C
      · have Q0 : Hid (withB r c d g R C = false) := q0
        clear q0
        go_upto_region 9 with (first | (go_at_call 147; refine (within_is Q0.out hR hC _).mono ?_; rintro e w4 ⟨rfl, hb4⟩))
        go_wp2_with (first | (refine wpList_grid0 rfl rfl ?_) | (refine wpList_store_row rfl 179 (.tmp 2) (.tmp 52) rfl (w.heap.size + 1) (gridA 0 0 0 (fun _ => 0) (fun _ => sl0)) rfl rfl 179 _ (HZ3.out.below hb4 (by omega)) (grid_infoA _ _ _ _ _) (by rw [gridA_size]) (gridA_one _ _ _ _ _) ?_))
        refine bodyPost_ret (v := .tuple #[.agg (gridA 0 0 0 (fun _ => 0) (fun _ => sl0)), .bool false]) ?_ rfl ⟨.inl ⟨?_, rfl⟩, ?_⟩
        · rw [results_cell_tmp rfl]
          simp [asAddr, Result.andThen, run_gridOf (RowAt.setRow (HZ3.out.below hb4 (by omega)) (gridA 0 0 0 (fun _ => 0) (fun _ => sl0)))]
        · rw [← HX.out]
          exact okB_no (fun hp => by have := hp.2.2.1 k hlt; rw [stepB_0 HXX.out Q0.out] at this; exact absurd this (by simp))
        · exact below_row (HW3.out.trans (hb4.mono (by omega))) (by omega) _
      obtain ⟨wz, wz2, wz3⟩ := wiB_of (x := (r, c, d, g, tx)) q0
      simp only at wz wz2 wz3
      obtain ⟨r, rfl⟩ : ∃ r' : Nat, r = r' := ⟨r.toNat, by omega⟩
      obtain ⟨c, rfl⟩ : ∃ r' : Nat, c = r' := ⟨c.toNat, by omega⟩
      obtain ⟨d, rfl⟩ : ∃ r' : Nat, d = r' := ⟨d.toNat, by omega⟩
      obtain ⟨g, rfl⟩ : ∃ r' : Nat, g = r' := ⟨g.toNat, by omega⟩
      have hrd : r + d ≤ R := by omega
      have hcg : c + g ≤ C := by omega
      have hR5 : R ≤ 5 := by omega
      have hC5 : C ≤ 5 := by omega
      have hd0 : 0 < d := by omega
      have hg0 : 0 < g := by omega
      have Q0 : Hid (withB r c d g R C = true) := q0
      have HF : Hid (∀ s, numF l k s ≤ 25) := fun s => Nat.le_trans (numF_le l k s) hk25
      clear q0 wz wz2 wz3
      cases q1 : freeB (numF l k) r c d g
      · have Q1 : Hid (freeB (numF l k) r c d g = false) := q1
        clear q1
        go_upto_region 9 with (first | (go_at_call 147; refine (within_is Q0.out hR hC _).mono ?_; rintro e w4 ⟨rfl, hb4⟩; have GG : GridAt w4 v0.heap.size R C k (numF l k) t := HG3.out.below hb4 (by omega); have QQ : RectAt w4 w1.heap.size r c d g := RowAt.below HQ3.out hb4 s4; have f0 := QQ.c0; have f1 := QQ.c1; have f2 := QQ.c2; have f3 := QQ.c3; have b4 : Hid (Below w3.heap.size w3 w4) := hb4; clear QQ) | (refine wpList_load_rowG (by rfl) 179 (.tmp 4) rfl v0.heap.size rfl 179 (gridA R C k (numF l k) t) (0, 0) _ GG Try.underlying179 rfl (grid_infoA _ _ _ _ _) ?_) | (go_at_call 148; refine (isFree_is Q1.out hR5 hC5 hrd hcg hd0 hg0 HF.out).mono ?_; rintro e w5 ⟨rfl, hb5⟩; have b5 : Hid (Below w3.heap.size w3 w5) := b4.out.trans (hb5.mono b4.out.size); have f4 : w5.cell? ⟨wr.heap.size, 4, none⟩ = some (.slice ta tn tc) := (RowAt.below HC3.out b5.out (by omega)).cell 4))
        clear GG f0 f1 f2 f3 f4
        go_wp2_with (first | (refine wpList_grid0 rfl rfl ?_) | (refine wpList_store_row rfl 179 (.tmp 2) (.tmp 52) rfl (w.heap.size + 1) (gridA 0 0 0 (fun _ => 0) (fun _ => sl0)) rfl rfl 179 _ (HZ3.out.below b5.out (by omega)) (grid_infoA _ _ _ _ _) (by rw [gridA_size]) (gridA_one _ _ _ _ _) ?_))
        refine bodyPost_ret (v := .tuple #[.agg (gridA 0 0 0 (fun _ => 0) (fun _ => sl0)), .bool false]) ?_ rfl ⟨.inl ⟨?_, rfl⟩, ?_⟩
        · rw [results_cell_tmp rfl]
          simp [asAddr, Result.andThen, run_gridOf (RowAt.setRow (HZ3.out.below b5.out (by omega)) (gridA 0 0 0 (fun _ => 0) (fun _ => sl0)))]
        · rw [← HX.out]
          exact okB_no (fun hp => by have := hp.2.2.1 k hlt; rw [stepB_1 HXX.out Q1.out] at this; exact absurd this (by simp))
        · exact below_row (HW3.out.trans (b5.out.mono (by omega))) (by omega) _
      have Q1 : Hid (freeB (numF l k) r c d g = true) := q1
      clear q1
      cases q2 : textB tx
      · have Q2 : Hid (textB tx = false) := q2
        clear q2
        go_upto_region 9 with (first | (go_at_call 147; refine (within_is Q0.out hR hC _).mono ?_; rintro e w4 ⟨rfl, hb4⟩; have GG : GridAt w4 v0.heap.size R C k (numF l k) t := HG3.out.below hb4 (by omega); have QQ : RectAt w4 w1.heap.size r c d g := RowAt.below HQ3.out hb4 s4; have f0 := QQ.c0; have f1 := QQ.c1; have f2 := QQ.c2; have f3 := QQ.c3; have b4 : Hid (Below w3.heap.size w3 w4) := hb4; clear QQ) | (refine wpList_load_rowG (by rfl) 179 (.tmp 4) rfl v0.heap.size rfl 179 (gridA R C k (numF l k) t) (0, 0) _ GG Try.underlying179 rfl (grid_infoA _ _ _ _ _) ?_) | (go_at_call 148; refine (isFree_is Q1.out hR5 hC5 hrd hcg hd0 hg0 HF.out).mono ?_; rintro e w5 ⟨rfl, hb5⟩; have b5 : Hid (Below w3.heap.size w3 w5) := b4.out.trans (hb5.mono b4.out.size); have f4 : w5.cell? ⟨wr.heap.size, 4, none⟩ = some (.slice ta tn tc) := (RowAt.below HC3.out b5.out (by omega)).cell 4) | (go_at_call 112; refine (implTextOk_isG ((HTX.out.below HW3.out).below (b5.out.mono (by omega))) Q2.out).mono ?_; rintro e w6 ⟨rfl, hb6⟩; have b6 : Hid (Below w3.heap.size w3 w6) := b5.out.trans (hb6.mono b5.out.size)))
        clear GG f0 f1 f2 f3 f4
        go_wp2_with (first | (refine wpList_grid0 rfl rfl ?_) | (refine wpList_store_row rfl 179 (.tmp 2) (.tmp 52) rfl (w.heap.size + 1) (gridA 0 0 0 (fun _ => 0) (fun _ => sl0)) rfl rfl 179 _ (HZ3.out.below b6.out (by omega)) (grid_infoA _ _ _ _ _) (by rw [gridA_size]) (gridA_one _ _ _ _ _) ?_))
        refine bodyPost_ret (v := .tuple #[.agg (gridA 0 0 0 (fun _ => 0) (fun _ => sl0)), .bool false]) ?_ rfl ⟨.inl ⟨?_, rfl⟩, ?_⟩
        · rw [results_cell_tmp rfl]
          simp [asAddr, Result.andThen, run_gridOf (RowAt.setRow (HZ3.out.below b6.out (by omega)) (gridA 0 0 0 (fun _ => 0) (fun _ => sl0)))]
        · rw [← HX.out]
          exact okB_no (fun hp => by have := hp.2.2.1 k hlt; rw [stepB_2 HXX.out Q2.out] at this; exact absurd this (by simp))
        · exact below_row (HW3.out.trans (b6.out.mono (by omega))) (by omega) _
      have Q2 : Hid (textB tx = true) := q2
      clear q2
      go_upto_region 10 with (first | (go_at_call 147; refine (within_is Q0.out hR hC _).mono ?_; rintro e w4 ⟨rfl, hb4⟩; have GG : GridAt w4 v0.heap.size R C k (numF l k) t := HG3.out.below hb4 (by omega); have QQ : RectAt w4 w1.heap.size r c d g := RowAt.below HQ3.out hb4 s4; have f0 := QQ.c0; have f1 := QQ.c1; have f2 := QQ.c2; have f3 := QQ.c3; have b4 : Hid (Below w3.heap.size w3 w4) := hb4; clear QQ) | (refine wpList_load_rowG (by rfl) 179 (.tmp 4) rfl v0.heap.size rfl 179 (gridA R C k (numF l k) t) (0, 0) _ GG Try.underlying179 rfl (grid_infoA _ _ _ _ _) ?_) | (go_at_call 148; refine (isFree_is Q1.out hR5 hC5 hrd hcg hd0 hg0 HF.out).mono ?_; rintro e w5 ⟨rfl, hb5⟩; have b5 : Hid (Below w3.heap.size w3 w5) := b4.out.trans (hb5.mono b4.out.size); have f4 : w5.cell? ⟨wr.heap.size, 4, none⟩ = some (.slice ta tn tc) := (RowAt.below HC3.out b5.out (by omega)).cell 4) | (go_at_call 112; refine (implTextOk_isG ((HTX.out.below HW3.out).below (b5.out.mono (by omega))) Q2.out).mono ?_; rintro e w6 ⟨rfl, hb6⟩; have b6 : Hid (Below w3.heap.size w3 w6) := b5.out.trans (hb6.mono b5.out.size)))
      clear GG f0 f1 f2 f3 f4
      have GG : Hid (GridAt w6 v0.heap.size R C k (numF l k) t) := HG3.out.below b6.out (by omega)
      have QQ : RectAt w6 w1.heap.size r c d g := RowAt.below HQ3.out b6.out s4
      have f0 := QQ.c0
      have f1 := QQ.c1
      have f2 := QQ.c2
      have f3 := QQ.c3
      have f4 : w6.cell? ⟨wr.heap.size, 4, none⟩ = some (.slice ta tn tc) := (RowAt.below HC3.out b6.out (by omega)).cell 4
      have s6 := b6.out.size
      have hk1 : k < 25 := by
        have := step_le (l := l) (K := k + 1) hR.2 hC.2 (fun j hj => by
          by_cases hjk : j = k
          · subst hjk
            exact stepB_mk HXX.out Q0.out Q1.out Q2.out
          · exact HS.out j (by omega))
        omega
      clear QQ
      go_wp2_with (first | (refine wpList_load_row rfl 179 (.tmp 4) rfl v0.heap.size rfl 179 (gridA R C k (numF l k) t) (0, 0) _ GG.out Try.underlying179 rfl (grid_infoA _ _ _ _ _) ?_) | (go_at_call 149; refine (lay_any R C k (numF l k) t r c d g (ta, tn, tc) _ (by omega) (by omega) hk1).mono ?_; rintro e w7 ⟨rfl, hb7⟩) | (refine wpList_store_row rfl 179 (.tmp 4) (.tmp 57) rfl v0.heap.size (gridA R C (k + 1) (giveF (numF l k) r c d g (k + 1)) (updS t (k + 1) (ta, tn, tc))) rfl rfl 179 _ (GG.out.below hb7 (by omega)) (grid_infoA _ _ _ _ _) (by rw [gridA_size, gridA_size]) (gridA_one _ _ _ _ _) ?_))
      go_roundw
      case rel =>
        refine ⟨k + 1, updS t (k + 1) (ta, tn, tc), by omega, by go_num, ?_, ?_, ?_, ?_⟩
        · intro j hj
          by_cases hjk : j = k
          · subst hjk
            exact stepB_mk HXX.out Q0.out Q1.out Q2.out
          · exact HS.out j (by omega)
        · have e : numF l (k + 1) = giveF (numF l k) r c d g (k + 1) := by
            simp only [numF, ← HXX.out, Int.toNat_natCast]
          rw [e]
          exact RowAt.setRow (GG.out.below hb7 (by omega)) _
        · intro j hj
          by_cases hjk : j = k
          · subst hjk
            rw [← HXX.out]
            simp only [updS, if_pos]
            exact HTX.out
          · simp only [updS, show ¬ j + 1 = k + 1 from by omega, if_false]
            exact HT.out j (by omega)
        · exact below_row ((HB3.out.trans (b6.out.mono (by omega))).trans (hb7.mono (by omega))) (Nat.le_refl _) _
      case measure => simp [intOf]; omega
    · have hkl : k = l.length := by omega
      subst hkl
      have HF : Hid (∀ s, numF l l.length s ≤ 25) := fun s => Nat.le_trans (numF_le l l.length s) hk25
      have HX2 : Hid (x = true ↔ Tiles R C (numF l l.length)) := by
        show x = true ↔ _
        rw [← HX.out, ← gridP_iff]
        constructor
        · intro hp
          have := hp.2.2.2
          simpa using this
        · intro hp
          exact ⟨hR, hC, HS.out, by simpa using hp⟩
      have hR5 : R ≤ 5 := by omega
      have hC5 : C ≤ 5 := by omega
      have s5 := B0.size
      cases x
      · go_upto_region 13 with (first | (refine wpList_load_row rfl 179 (.tmp 4) rfl v0.heap.size rfl 179 (gridA R C l.length (numF l l.length) t) (0, 0) _ HG.out Try.underlying179 rfl (grid_infoA _ _ _ _ _) ?_) | (go_at_call 150; refine (isTiled_is HX2.out hR5 hC5 HF.out).mono ?_; rintro e w4 ⟨rfl, hb4⟩))
        go_wp2_with (first | (refine wpList_grid0 rfl rfl ?_) | (refine wpList_store_row rfl 179 (.tmp 2) (.tmp 62) rfl (w.heap.size + 1) (gridA 0 0 0 (fun _ => 0) (fun _ => sl0)) rfl rfl 179 _ (HZr.out.below hb4 (by omega)) (grid_infoA _ _ _ _ _) (by rw [gridA_size]) (gridA_one _ _ _ _ _) ?_))
        refine bodyPost_ret (v := .tuple #[.agg (gridA 0 0 0 (fun _ => 0) (fun _ => sl0)), .bool false]) ?_ rfl ⟨.inl ⟨rfl, rfl⟩, ?_⟩
        · rw [results_cell_tmp rfl]
          simp [asAddr, Result.andThen, run_gridOf (RowAt.setRow (HZr.out.below hb4 (by omega)) (gridA 0 0 0 (fun _ => 0) (fun _ => sl0)))]
        · exact below_row (HW.out.trans (hb4.mono (by omega))) (by omega) _
      · go_upto_region 14 with (first | (refine wpList_load_row rfl 179 (.tmp 4) rfl v0.heap.size rfl 179 (gridA R C l.length (numF l l.length) t) (0, 0) _ HG.out Try.underlying179 rfl (grid_infoA _ _ _ _ _) ?_) | (go_at_call 150; refine (isTiled_is HX2.out hR5 hC5 HF.out).mono ?_; rintro e w4 ⟨rfl, hb4⟩))
        go_wp2_with (first | (refine wpList_load_row rfl 179 (.tmp 4) rfl v0.heap.size rfl 179 (gridA R C l.length (numF l l.length) t) (0, 0) _ (HG.out.below hb4 szr) Try.underlying179 rfl (grid_infoA _ _ _ _ _) ?_) | (refine wpList_store_row rfl 179 (.tmp 2) (.tmp 63) rfl (w.heap.size + 1) (gridA R C l.length (numF l l.length) t) rfl rfl 179 _ (HZr.out.below hb4 (by omega)) (grid_infoA _ _ _ _ _) (by rw [gridA_size, gridA_size]) (gridA_one _ _ _ _ _) ?_))
        have bF : Below w.heap.size w (w4.setRow (w.heap.size + 1) (gridA R C l.length (numF l l.length) t)) := below_row (HW.out.trans (hb4.mono (by omega))) (by omega) _
        refine bodyPost_ret (v := .tuple #[.agg (gridA R C l.length (numF l l.length) t), .bool true]) ?_ rfl ⟨.inr ⟨rfl, t, rfl, fun i hi => (HT.out i hi).below bF⟩, bF⟩
        · rw [results_cell_tmp rfl]
          simp [asAddr, Result.andThen, run_gridOf (RowAt.setRow (HZr.out.below hb4 (by omega)) (gridA R C l.length (numF l l.length) t))]
end Go.Proofs.Ythjipnocemioaaa
namespace Go.Proofs.Ythjipnocemioaaa
open Go.RowKit

set_option maxRecDepth 100000 in
set_option maxHeartbeats 4000000 in
theorem implTableOk_is {R C : Int} {a : Option Addr} {n cap : Nat} {l : List Cl} {w : World} {x : Bool} (hx : okB R C l = x) (h : Tab w a n cap l) :
    Calls Try.prog 141 #[.agg #[.int .i64 R, .int .i64 C, .slice a n cap]] w fun z w' => z = .returned (.bool x) ∧ Below w.heap.size w w' := by
  have HX : Hid (okB R C l = x) := hx
  have H : Hid (Tab w a n cap l) := h
  clear hx h
  go_enter Try.func141, Try.ntmps141
  go_upto_region 1 with fail
  have B0 : Below w.heap.size w (w.alloc (.cells #[.int .i64 R, .int .i64 C, .slice a n cap] 47)) := (Below.refl _ _).alloc (Nat.le_refl _) _
  have HT : Hid (Tab (w.alloc (.cells #[.int .i64 R, .int .i64 C, .slice a n cap] 47)) a n cap l) := H.out.below B0
  have G2 : RowAt (w.alloc (.cells #[.int .i64 R, .int .i64 C, .slice a n cap] 47)) w.heap.size #[.int .i64 R, .int .i64 C, .slice a n cap] 47 := rowAt_new w _ _
  generalize (w.alloc (.cells #[.int .i64 R, .int .i64 C, .slice a n cap] 47)) = v0 at B0 HT G2 ⊢
  have k0 : v0.cell? ⟨w.heap.size, 0, none⟩ = some (.int .i64 R) := G2.cell 0
  have k1 : v0.cell? ⟨w.heap.size, 1, none⟩ = some (.int .i64 C) := G2.cell 1
  have k2 : v0.cell? ⟨w.heap.size, 2, none⟩ = some (.slice a n cap) := G2.cell 2
  clear G2
  cases x
  · go_wp2_with (first | (go_at_call 144; refine (gridOf_is HX.out HT.out).mono ?_; rintro e w1 ⟨(⟨-, rfl⟩ | ⟨hno, -⟩), hb1⟩; rotate_left; exact absurd hno (by simp)) | (rw [← grid_zero]; refine wpList_store_row rfl 179 (.tmp 3) (.tmp 8) rfl w1.heap.size (gridA 0 0 0 (fun _ => 0) (fun _ => sl0)) rfl rfl 179 _ (gridAt_new _ _ _ _ _ _) (grid_infoA _ _ _ _ _) (by rw [gridA_size]) (gridA_one _ _ _ _ _) ?_))
    go_ret
    exact ⟨rfl, below_row ((B0.trans (hb1.mono B0.size)).alloc (Nat.le_trans B0.size hb1.size) _) (Nat.le_trans B0.size hb1.size) _⟩
  · go_wp2_with (first | (go_at_call 144; refine (gridOf_is HX.out HT.out).mono ?_; rintro e w1 ⟨(⟨hno, -⟩ | ⟨-, t, rfl, -⟩), hb1⟩; exact absurd hno (by simp)) | (rw [← grid_zero]; refine wpList_store_row rfl 179 (.tmp 3) (.tmp 8) rfl w1.heap.size (gridA R C l.length (numF l l.length) t) rfl rfl 179 _ (gridAt_new _ _ _ _ _ _) (grid_infoA _ _ _ _ _) (by rw [gridA_size, gridA_size]) (gridA_one _ _ _ _ _) ?_))
    go_ret
    exact ⟨rfl, below_row ((B0.trans (hb1.mono B0.size)).alloc (Nat.le_trans B0.size hb1.size) _) (Nat.le_trans B0.size hb1.size) _⟩
end Go.Proofs.Ythjipnocemioaaa
namespace Go.Proofs.Ythjipnocemioaaa
open Go.RowKit

set_option maxRecDepth 100000 in
set_option maxHeartbeats 4000000 in
theorem paraOk_is {ta : Option Addr} {tn tc : Nat} {t : List Sg} {w : World} {x : Bool} (hx : textB t = x) (ht : Txt w ta tn tc t) :
    Calls Try.prog 135 #[.agg #[.slice ta tn tc]] w fun e w' => e = .returned (.bool x) ∧ Below w.heap.size w w' := by
  have HX : Hid (textB t = x) := hx
  go_enter Try.func135, Try.ntmps135
  go_upto_region 1 with fail
  have B0 : Below w.heap.size w (w.alloc (.cells #[.slice ta tn tc] 111)) := (Below.refl _ _).alloc (Nat.le_refl _) _
  have q0 : (w.alloc (.cells #[.slice ta tn tc] 111)).cell? ⟨w.heap.size, 0, none⟩ = some (.slice ta tn tc) := by simp
  have HT : Hid (Txt (w.alloc (.cells #[.slice ta tn tc] 111)) ta tn tc t) := ht.below B0
  generalize (w.alloc (.cells #[.slice ta tn tc] 111)) = v0 at B0 q0 HT ⊢
  go_wp2_with fail
  refine (implTextOk_is HT.out HX.out).mono ?_
  rintro e u ⟨rfl, hb⟩
  go_wp2_with fail
  go_ret
  exact ⟨rfl, B0.trans (hb.mono B0.size)⟩
set_option maxRecDepth 100000 in
set_option maxHeartbeats 4000000 in
theorem itemOk_is {v : Int} {ta : Option Addr} {tn tc : Nat} {t : List Sg} {w : World} {x : Bool} (hx : (decide (0 ≤ v ∧ v ≤ 3) && textB t) = x) (ht : Txt w ta tn tc t) :
    Calls Try.prog 109 #[.agg #[.int .i64 v, .slice ta tn tc]] w fun e w' => e = .returned (.bool x) ∧ Below w.heap.size w w' := by
  have HX : Hid ((decide (0 ≤ v ∧ v ≤ 3) && textB t) = x) := hx
  obtain ⟨tb, HTB⟩ : ∃ b, Hid (textB t = b) := ⟨_, rfl⟩
  clear hx
  go_enter Try.func109, Try.ntmps109
  go_upto_region 1 with fail
  have B0 : Below w.heap.size w (w.alloc (.cells #[.int .i64 v, .slice ta tn tc] 103)) := (Below.refl _ _).alloc (Nat.le_refl _) _
  have G0 : RowAt (w.alloc (.cells #[.int .i64 v, .slice ta tn tc] 103)) w.heap.size #[.int .i64 v, .slice ta tn tc] 103 := rowAt_new _ _ _
  have HT : Hid (Txt (w.alloc (.cells #[.int .i64 v, .slice ta tn tc] 103)) ta tn tc t) := ht.below B0
  generalize (w.alloc (.cells #[.int .i64 v, .slice ta tn tc] 103)) = v0 at B0 G0 HT ⊢
  have q0 : v0.cell? ⟨w.heap.size, 0, none⟩ = some (.int .i64 v) := G0.cell 0
  have q1 : v0.cell? ⟨w.heap.size, 1, none⟩ = some (.slice ta tn tc) := G0.cell 1
  clear G0 ht
  by_cases h0 : 0 ≤ v
  · by_cases h3 : v ≤ 3
    · go_wp2_with (go_at_call 112; refine (implTextOk_is HT.out HTB.out).mono ?_; rintro e u ⟨rfl, hb⟩)
      go_ret
      refine ⟨?_, B0.trans (hb.mono B0.size)⟩
      rw [← HX.out, decide_eq_true (show 0 ≤ v ∧ v ≤ 3 from ⟨h0, h3⟩), HTB.out, Bool.true_and]
      rfl
    · go_wp2_with fail
      go_ret
      refine ⟨?_, B0⟩
      rw [← HX.out, decide_eq_false (show ¬ (0 ≤ v ∧ v ≤ 3) by omega), Bool.false_and]
      rfl
  · go_wp2_with fail
    go_ret
    refine ⟨?_, B0⟩
    rw [← HX.out, decide_eq_false (show ¬ (0 ≤ v ∧ v ≤ 3) by omega), Bool.false_and]
    rfl
set_option maxRecDepth 100000 in
set_option maxHeartbeats 4000000 in
theorem sheetOk_is {R C : Int} {ca : Option Addr} {cn cc : Nat} {l : List Cl} {w : World} {x : Bool} (hx : okB R C l = x) (ht : Tab w ca cn cc l) :
    Calls Try.prog 138 #[.agg #[.int .i64 R, .int .i64 C, .slice ca cn cc]] w fun e w' => e = .returned (.bool x) ∧ Below w.heap.size w w' := by
  have HX : Hid (okB R C l = x) := hx
  go_enter Try.func138, Try.ntmps138
  go_upto_region 1 with fail
  have B0 : Below w.heap.size w (w.alloc (.cells #[.int .i64 R, .int .i64 C, .slice ca cn cc] 119)) := (Below.refl _ _).alloc (Nat.le_refl _) _
  have G0 : RowAt (w.alloc (.cells #[.int .i64 R, .int .i64 C, .slice ca cn cc] 119)) w.heap.size #[.int .i64 R, .int .i64 C, .slice ca cn cc] 119 := rowAt_new _ _ _
  have HT : Hid (Tab (w.alloc (.cells #[.int .i64 R, .int .i64 C, .slice ca cn cc] 119)) ca cn cc l) := ht.below B0
  generalize (w.alloc (.cells #[.int .i64 R, .int .i64 C, .slice ca cn cc] 119)) = v0 at B0 G0 HT ⊢
  have q0 : v0.cell? ⟨w.heap.size, 0, none⟩ = some (.int .i64 R) := G0.cell 0
  have q1 : v0.cell? ⟨w.heap.size, 1, none⟩ = some (.int .i64 C) := G0.cell 1
  have q2 : v0.cell? ⟨w.heap.size, 2, none⟩ = some (.slice ca cn cc) := G0.cell 2
  clear G0 ht hx
  go_wp2_with fail
  refine (implTableOk_is HX.out HT.out).mono ?_
  rintro e u ⟨rfl, hb⟩
  go_wp2_with fail
  go_ret
  exact ⟨rfl, B0.trans (hb.mono B0.size)⟩
theorem item_info : (Try.prog.info? 103).map (fun i => (i.zero, i.size, i.bytes)) = some (some (.agg #[.int .i64 0, .slice none 0 0]), 2, 32) := by kernel_rfl
theorem assert_item (v : Value) (w : World) : (Instr.typeAssert (.iface 103 v) 65 103 true).run Try.prog w = .ok (.tuple #[v, .bool true]) w := by
  simp [Instr.typeAssert, run_underlying Try.underlying103, typeInfo]
theorem assert_other {t : TypeId} (ht : t ≠ 103) (v : Value) (w : World) : (Instr.typeAssert (.iface t v) 65 103 true).run Try.prog w = .ok (.tuple #[.agg #[.int .i64 0, .slice none 0 0], .bool false]) w := by
  obtain ⟨i0, hi, hz0, hz1, hz2⟩ := info_parts item_info
  simp [Instr.typeAssert, run_underlying Try.underlying103, typeInfo, zeroValue, hi, hz0, ht]
set_option maxRecDepth 100000 in
set_option maxHeartbeats 4000000 in
theorem levelOf_item (v : Int) (ta : Option Addr) (tn tc : Nat) (w : World) :
    Calls Try.prog 39 #[.iface 103 (.agg #[.int .i64 v, .slice ta tn tc])] w fun e w' => e = .returned (.int .i64 v) ∧ Below w.heap.size w w' := by
  go_enter Try.func39, Try.ntmps39
  go_wp2_with fail
  rw [assert_item]
  go_wp2_with fail
  go_ret
  exact ⟨rfl, (Below.refl _ _).alloc (Nat.le_refl _) _⟩
set_option maxRecDepth 100000 in
set_option maxHeartbeats 4000000 in
theorem levelOf_para (ta : Option Addr) (tn tc : Nat) (w : World) :
    Calls Try.prog 39 #[.iface 111 (.agg #[.slice ta tn tc])] w fun e w' => e = .returned (.int .i64 (-1)) ∧ Below w.heap.size w w' := by
  go_enter Try.func39, Try.ntmps39
  go_wp2_with fail
  rw [assert_other (by decide)]
  go_wp2_with fail
  go_ret
  exact ⟨rfl, Below.refl _ _⟩
set_option maxRecDepth 100000 in
set_option maxHeartbeats 4000000 in
theorem levelOf_sheet (R C : Int) (ca : Option Addr) (cn cc : Nat) (w : World) :
    Calls Try.prog 39 #[.iface 119 (.agg #[.int .i64 R, .int .i64 C, .slice ca cn cc])] w fun e w' => e = .returned (.int .i64 (-1)) ∧ Below w.heap.size w w' := by
  go_enter Try.func39, Try.ntmps39
  go_wp2_with fail
  rw [assert_other (by decide)]
  go_wp2_with fail
  go_ret
  exact ⟨rfl, Below.refl _ _⟩
end Go.Proofs.Ythjipnocemioaaa
