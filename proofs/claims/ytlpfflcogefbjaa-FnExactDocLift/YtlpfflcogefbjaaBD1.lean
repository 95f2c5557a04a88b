import Derived.Test.YtlpfflcogefbjaaBA1
import Derived.Test.YtlpfflcogefbjaaBA2
import Derived.Deep.Cut
import Derived.Deep.Slices
import Derived.Test.YtlpfflcogefbjaaBA3
namespace Go.Proofs.Ytlpfflcogefbjaa
open Go.RowKit

theorem run_append_empty {P : Program} {w : World} (base : Nat) (t ty e : TypeId) (i : TypeInfo) (size : Nat) (ht : P.underlying t = some (.slice e)) (hi : P.info? e = some i)
    (v : Value) (n : Nat) (xs : List Value) (hown : w.ownsRow base e size v n xs) (p : Option Addr) (c : Nat) :
    (Builtin.append_ #[t, t] ty #[v, .slice p 0 c]).run P w = .ok v w := by
  rcases hown.2 with ⟨rfl, rfl⟩ | ⟨g, cap, cur, rfl, _, _, hnc, _⟩
  · cases p <;> simp [Builtin.append_, run_underlying ht, sizeOf, typeInfo, hi, Builtin.lenOf, Builtin.firstCells, loadCells, loadCellsFrom]
  · cases p <;> simp [Builtin.append_, run_underlying ht, sizeOf, typeInfo, hi, Builtin.lenOf, Builtin.firstCells, loadCells, loadCellsFrom, hnc, storeCells]
theorem wpList_append_empty {P : Program} {w : World} {ops : Array Oper} {rest : List Oper} {o : Oper} {a : Act} {Q : Exit → Act → World → Prop} (hgd : o.guard = none) (s x : Operand) (t : TypeId)
    (ho : o.op = .call { callee := .builtin .append, args := #[s, x], argTypes := #[t, t] })
    (base : Nat) (e : TypeId) (i : TypeInfo) (size : Nat) (ht : P.underlying t = some (.slice e)) (hi : P.info? e = some i)
    (v : Value) (n : Nat) (xs : List Value) (hs : a.eval s = v) (hown : w.ownsRow base e size v n xs) (p : Option Addr) (c : Nat) (hx : a.eval x = .slice p 0 c)
    (h : wpList P ops Q rest (a.put o.dst v) w) : wpList P ops Q (o :: rest) a w := by
  refine wpList_plain hgd fun K hK => ?_
  have hrun := run_append_empty (P := P) (w := w) base t o.type e i size ht hi v n xs hown p c
  unfold Oper.wp
  simp [execOp, ho, resolve, invoke, builtin, hs, hx, hrun, Result.andThen]
  exact hK _ _ h
theorem grownBy_refl (w : World) (r : Option Nat) : w.grownBy w r := ⟨rfl, rfl, rfl, Nat.le_refl _, fun _ _ _ => rfl⟩
theorem flat_one (l : List Sg) : ∀ u ∈ flat l, u.oneCell' = true := by
  intro u hu
  simp only [flat, List.mem_flatMap, sgCells] at hu
  obtain ⟨s, _, hs⟩ := hu
  simp at hs
  rcases hs with rfl | rfl | rfl <;> rfl
theorem news_signs {w : World} {b off : Nat} {l : List Sg} (h : SignsAt w b off l) : ∀ j u, (flat l)[j]? = some u → w.cell? ((⟨b, off, none⟩ : Addr).add j) = some u := by
  intro j u hj
  have hlt : j < l.length * 3 := by
    rw [← flat_length]
    exact (List.getElem?_eq_some_iff.1 hj).1
  have e : (⟨b, off, none⟩ : Addr).add j = ⟨b, off + j, none⟩ := by simp [Addr.add]
  rw [e]
  obtain ⟨g0, g1, g2⟩ := flat_get l (j / 3) (by omega)
  obtain ⟨h0, h1, h2⟩ := h (j / 3) (by omega)
  rcases (show j = j / 3 * 3 ∨ j = j / 3 * 3 + 1 ∨ j = j / 3 * 3 + 2 from by omega) with e | e | e
  · rw [e] at hj ⊢
    rw [← hj, g0]
    exact h0
  · rw [e] at hj ⊢
    rw [← hj, g1, ← Nat.add_assoc]
    exact h1
  · rw [e] at hj ⊢
    rw [← hj, g2, ← Nat.add_assoc]
    exact h2
/-- 'append(v, t...)', v the call's own, t a text. -/
theorem wpList_append_txt {w : World} {ops : Array Oper} {rest : List Oper} {o : Oper} {a : Act} {Q : Exit → Act → World → Prop} (hgd : o.guard = none) (s x : Operand)
    (ho : o.op = .call { callee := .builtin .append, args := #[s, x], argTypes := #[44, 44] })
    (base : Nat) (v : Value) (n : Nat) (xs : List Value) (hs : a.eval s = v) (hown : w.ownsRow base 100 3 v n xs)
    (p : Option Addr) (m c : Nat) (l : List Sg) (hx : a.eval x = .slice p m c) (htx : Txt w p m c l) (h63 : n + m ≤ 1000000000) (hbase : base ≤ w.heap.size)
    (h : ∀ v' w', w'.ownsRow base 100 3 v' (n + m) (xs ++ flat l) → w.grownBy w' v.ownBlock → wpList Try.prog ops Q rest (a.put o.dst v') w') : wpList Try.prog ops Q (o :: rest) a w := by
  obtain ⟨i0, hi, hz0, hz1, hz2⟩ := info_parts Try.info100
  obtain ⟨rfl, h2, h3, h4⟩ := htx
  rcases h4 with rfl | ⟨b, off, rfl, hb, hsn⟩
  · refine wpList_append_empty hgd s x 44 ho base 100 i0 3 Try.underlying44 hi v n xs hs hown p c hx ?_
    exact h v w (by simpa [flat] using hown) (grownBy_refl _ _)
  · refine wpList_append_own w hgd s x 44 ho base 100 i0 _ 3 24 Try.underlying44 hi hz0 hz1 hz2 rfl (by decide) v n xs hs hown ⟨b, off, none⟩ l.length c (flat l) hx (by rw [flat_length]) (news_signs hsn) (flat_one l) (by unfold maxLen; omega) (by omega) hbase ?_
    intro v' w' h5 h6 _
    exact h v' w' h5 h6
end Go.Proofs.Ytlpfflcogefbjaa
namespace Go.Proofs.Ytlpfflcogefbjaa
open Go.RowKit

set_option maxHeartbeats 1000000 in
theorem copiedSign_any {a : Option Addr} {n cap : Nat} {l : List Sg} {w : World} (h : Txt w a n cap l) (hn : n ≤ 1000000) :
    Calls Try.prog 110 #[.slice a n cap] w fun e w' => (∃ p q, e = .returned (.slice p n q) ∧ Own w' w.heap.size (.slice p n q) l) ∧ Below w.heap.size w w' := by
  have H : Hid (Txt w a n cap l) := h
  clear h
  go_enter Try.func110, Try.ntmps110
  go_wp2_with (at_builtin; refine wpList_append_txt rfl (.const (.slice none 0 0)) (.tmp 3) rfl w.heap.size (.slice none 0 0) 0 [] rfl (World.ownsRow_nil _ _ _ _) a n cap l rfl H.out (by omega) (Nat.le_refl _) ?_; intro v' w1 hown hgrow)
  go_ret
  have hb : Below w.heap.size w w1 := (Below.refl _ _).grown hgrow (Nat.le_refl _) (fun k hk => by simp [Value.ownBlock] at hk)
  have e := H.out.1
  subst e
  have ho : Own w1 w.heap.size v' l := by
    unfold Own
    simpa using hown
  obtain ⟨p, q, rfl, -⟩ := ho.shape
  exact ⟨⟨p, q, rfl, ho⟩, hb⟩
/-- The rows that a table's cells are. -/
theorem tab_rows {w : World} {a : Option Addr} {n cap : Nat} {l : List Cl} (h : Tab w a n cap l) : ∃ rs, Rws w a n cap rs ∧ Reads w rs l := by
  obtain ⟨h1, h2, h3, h4⟩ := h
  rcases h4 with rfl | ⟨b, off, rfl, hb, hl⟩
  · exact ⟨[], ⟨h1, h2, h3, .inl rfl⟩, Reads.nil _⟩
  · have each : ∀ i, i < l.length → ∃ x : Rw, RwAt w b (off + i * 5) x ∧ RwIs w x (l.getD i cl0) := by
      intro i hi
      obtain ⟨c0, c1, c2, c3, ta, tn, tc, c4, ht⟩ := hl i hi
      exact ⟨((l.getD i cl0).1, (l.getD i cl0).2.1, (l.getD i cl0).2.2.1, (l.getD i cl0).2.2.2.1, ta, tn, tc), ⟨c0, c1, c2, c3, c4⟩, rfl, rfl, rfl, rfl, ht⟩
    obtain ⟨q, hq⟩ := Go.Deep.choose_lt each
    refine ⟨(List.range l.length).map q, ⟨by simp [h1], h2, h3, .inr ⟨b, off, rfl, hb, fun k hk => ?_⟩⟩, by simp, fun k hk => ?_⟩
    · have hk' : k < l.length := by simpa using hk
      rw [show ((List.range l.length).map q).getD k rw0 = q k by simp [List.getD, hk']]
      exact (hq k hk').1
    · have hk' : k < l.length := by simpa using hk
      rw [show ((List.range l.length).map q).getD k rw0 = q k by simp [List.getD, hk']]
      exact (hq k hk').2
theorem flat5_one (l : List Rw) : ∀ u ∈ flat5 l, u.oneCell' = true := by
  intro u hu
  unfold flat5 at hu
  rw [List.mem_flatMap] at hu
  obtain ⟨x, -, hx⟩ := hu
  simp only [rwCells, List.mem_cons, List.not_mem_nil, or_false] at hx
  rcases hx with rfl | rfl | rfl | rfl | rfl <;> rfl
theorem news_rows {w : World} {b off : Nat} {l : List Rw} (h : ∀ k, k < l.length → RwAt w b (off + k * 5) (l.getD k rw0)) : ∀ j u, (flat5 l)[j]? = some u → w.cell? ((⟨b, off, none⟩ : Addr).add j) = some u := by
  intro j u hj
  have hlt : j < l.length * 5 := by
    have := (List.getElem?_eq_some_iff.1 hj).1
    rwa [flat5_length] at this
  have e : j = j / 5 * 5 + j % 5 := by omega
  obtain ⟨h0, h1, h2, h3, h4⟩ := h (j / 5) (by omega)
  have hg := flat5_get l (j / 5) (j % 5) (by omega) (by omega)
  rw [e] at hj
  rw [hg] at hj
  have em : j % 5 = 0 ∨ j % 5 = 1 ∨ j % 5 = 2 ∨ j % 5 = 3 ∨ j % 5 = 4 := by omega
  rw [Addr.add_lit, e]
  rcases em with m | m | m | m | m <;> rw [m] at hj ⊢ <;> simp only [rwCells] at hj <;> simp at hj <;> subst hj
  · exact h0
  · rw [← Nat.add_assoc]; exact h1
  · rw [← Nat.add_assoc]; exact h2
  · rw [← Nat.add_assoc]; exact h3
  · rw [← Nat.add_assoc]; exact h4
set_option maxHeartbeats 2000000 in
theorem copiedCell_any {a : Option Addr} {n cap : Nat} {rs : List Rw} {w : World} (h : Rws w a n cap rs) (hn : n ≤ 1000000) :
    Calls Try.prog 142 #[.slice a n cap] w fun e w' => (∃ p q, e = .returned (.slice p n q) ∧ OwnR w' w.heap.size (.slice p n q) rs) ∧ Below w.heap.size w w' := by
  have H : Hid (Rws w a n cap rs) := h
  clear h
  obtain ⟨i0, hi, hz0, hz1, hz2⟩ := info_parts Try.info59
  have fin : ∀ v' w1, w1.ownsRow w.heap.size 59 5 v' n (flat5 rs) → w.grownBy w1 none → (∃ p q, v' = .slice p n q ∧ OwnR w1 w.heap.size (.slice p n q) rs) ∧ Below w.heap.size w w1 := by
    intro v' w1 hown hgrow
    have hb : Below w.heap.size w w1 := (Below.refl _ _).grown hgrow (Nat.le_refl _) (fun k hk => by simp at hk)
    have e := H.out.1
    subst e
    have ho : OwnR w1 w.heap.size v' rs := hown
    obtain ⟨p, q, rfl, -⟩ := ho.shape
    exact ⟨⟨p, q, rfl, ho⟩, hb⟩
  have HF : Hid _ := fin
  clear fin
  rcases H.out.2.2.2 with he | ⟨b, off, rfl, hb, hl⟩
  · have hn0 : n = 0 := by rw [H.out.1, he]; rfl
    subst hn0
    go_enter Try.func142, Try.ntmps142
    go_wp2_with (at_builtin; refine wpList_append_empty rfl (.const (.slice none 0 0)) (.tmp 3) 45 rfl w.heap.size 59 i0 5 Try.underlying45 hi (.slice none 0 0) 0 [] rfl (World.ownsRow_nil _ _ _ _) a cap rfl ?_)
    go_ret
    obtain ⟨⟨p, q, e, ho⟩, hbb⟩ := HF.out (.slice none 0 0) w (by rw [he]; exact World.ownsRow_nil _ _ _ _) (grownBy_refl _ _)
    exact ⟨⟨p, q, by rw [← e]; rfl, ho⟩, hbb⟩
  · have HL : Hid (∀ k, k < rs.length → RwAt w b (off + k * 5) (rs.getD k rw0)) := hl
    have hc := H.out.2.1
    have hm := H.out.2.2.1
    have HN : Hid (n = rs.length) := H.out.1
    unfold maxLen at hm
    clear hl
    go_enter Try.func142, Try.ntmps142
    go_wp2_with (at_builtin; refine wpList_append_own w rfl (.const (.slice none 0 0)) (.tmp 3) 45 rfl w.heap.size 59 i0 _ 5 56 Try.underlying45 hi hz0 hz1 hz2 rfl (by decide) (.slice none 0 0) 0 [] rfl (World.ownsRow_nil _ _ _ _) ⟨b, off, none⟩ n cap (flat5 rs) rfl (by rw [flat5_length, HN.out]) (news_rows HL.out) (flat5_one rs) (by unfold maxLen; omega) (by omega) (Nat.le_refl _) ?_; intro v' w1 hown hgrow _)
    go_ret
    obtain ⟨⟨p, q, e, ho⟩, hbb⟩ := HF.out v' w1 (by simpa using hown) (by simpa [Value.ownBlock] using hgrow)
    exact ⟨⟨p, q, by rw [← e]; rfl, ho⟩, hbb⟩
theorem flat5_set4 (a b : List Rw) (r c d g : Int) (s t : Option Addr × Nat × Nat) : (flat5 (a ++ (r, c, d, g, s) :: b)).set (a.length * 5 + 4) (.slice t.1 t.2.1 t.2.2) = flat5 (a ++ (r, c, d, g, t) :: b) := by
  rw [flat5_append, flat5_append, List.set_append_right _ _ (by rw [flat5_length]; omega), flat5_length]
  have e : a.length * 5 + 4 - a.length * 5 = 4 := by omega
  rw [e]
  rfl
set_option maxRecDepth 100000 in
set_option maxHeartbeats 4000000 in
theorem copiedTable_any {R C : Int} {a : Option Addr} {n cap : Nat} {l : List Cl} {w : World} (h : Tab w a n cap l) (hl : l.length ≤ 1000) (ht : ∀ k, k < l.length → (l.getD k cl0).2.2.2.2.length ≤ 1000000) :
    Calls Try.prog 139 #[.agg #[.int .i64 R, .int .i64 C, .slice a n cap]] w fun e w' => (∃ p q rs, e = .returned (.agg #[.int .i64 R, .int .i64 C, .slice p n q]) ∧ OwnT w' w.heap.size (.slice p n q) rs l) ∧ Below w.heap.size w w' := by
  obtain ⟨rs0, hr0, hd0⟩ := tab_rows h
  have HN : Hid (n = l.length) := h.1
  have hn : n ≤ 1000 := by rw [h.1]; exact hl
  have HT : Hid (∀ k, k < l.length → (l.getD k cl0).2.2.2.2.length ≤ 1000000) := ht
  have hc := h.2.1
  have hm := h.2.2.1
  unfold maxLen at hm
  have HR0 : Hid (Reads w rs0 l) := hd0
  have HW0 : Hid (Rws w a n cap rs0) := hr0
  clear hr0 hd0 h ht
  go_enter Try.func139, Try.ntmps139
  go_upto_region 1 with fail
  have B0 : Below w.heap.size w ((w.alloc (.cells #[.int .i64 R, .int .i64 C, .slice a n cap] 47)).alloc (.cells #[.int .i64 0, .int .i64 0, .slice none 0 0] 47)) := ((Below.refl _ _).alloc (Nat.le_refl _) _).alloc (by simp) _
  have G0 : RowAt ((w.alloc (.cells #[.int .i64 R, .int .i64 C, .slice a n cap] 47)).alloc (.cells #[.int .i64 0, .int .i64 0, .slice none 0 0] 47)) w.heap.size #[.int .i64 R, .int .i64 C, .slice a n cap] 47 := (rowAt_new w _ _).alloc _
  have G1 : RowAt ((w.alloc (.cells #[.int .i64 R, .int .i64 C, .slice a n cap] 47)).alloc (.cells #[.int .i64 0, .int .i64 0, .slice none 0 0] 47)) (w.heap.size + 1) #[.int .i64 0, .int .i64 0, .slice none 0 0] 47 := by
    have := rowAt_new (w.alloc (.cells #[.int .i64 R, .int .i64 C, .slice a n cap] 47)) #[.int .i64 0, .int .i64 0, .slice none 0 0] 47
    simpa using this
  generalize ((w.alloc (.cells #[.int .i64 R, .int .i64 C, .slice a n cap] 47)).alloc (.cells #[.int .i64 0, .int .i64 0, .slice none 0 0] 47)) = v0 at B0 G0 G1 ⊢
  have k2 : v0.cell? ⟨w.heap.size, 2, none⟩ = some (.slice a n cap) := G0.cell 2
  have l0 := G0.lt
  have l1 := G1.lt
  have s0 := B0.size
  have H0 : Hid (RowAt v0 w.heap.size #[.int .i64 R, .int .i64 C, .slice a n cap] 47) := G0
  have H1 : Hid (RowAt v0 (w.heap.size + 1) #[.int .i64 0, .int .i64 0, .slice none 0 0] 47) := G1
  have HB0 : Hid (Below w.heap.size w v0) := B0
  have HW1 : Hid (Rws v0 a n cap rs0) := by
    obtain ⟨a1, a2, a3, a4⟩ := HW0.out
    refine ⟨a1, a2, a3, ?_⟩
    rcases a4 with a4 | ⟨b, off, a5, a6, a7⟩
    · exact .inl a4
    · refine .inr ⟨b, off, a5, by omega, fun k hk => ?_⟩
      obtain ⟨c0, c1, c2, c3, c4⟩ := a7 k hk
      exact ⟨(B0.cell (p := ⟨b, _, none⟩) a6).trans c0, (B0.cell (p := ⟨b, _, none⟩) a6).trans c1, (B0.cell (p := ⟨b, _, none⟩) a6).trans c2, (B0.cell (p := ⟨b, _, none⟩) a6).trans c3, (B0.cell (p := ⟨b, _, none⟩) a6).trans c4⟩
  clear G0 G1 B0 HW0
  go_upto_region 2 with (go_at_call 142; refine (copiedCell_any HW1.out (by omega)).mono ?_; rintro e w1 ⟨⟨p, q, rfl, ho1⟩, hb1⟩; have q1 : w1.cell? ⟨w.heap.size, 2, none⟩ = some (.slice a n cap) := (H0.out.below hb1 l0).cell 2; have q2 := (H0.out.below hb1 l0).frozen 2)
  have G0 := (H0.out.below hb1 l0).setCell 2 (.slice p n q)
  have G1 := (H1.out.below hb1 l1).other ⟨w.heap.size, 2, none⟩ (.slice p n q) (by simp)
  have B1 : Below w.heap.size w (w1.setCell ⟨w.heap.size, 2, none⟩ (.slice p n q)) := (HB0.out.trans (hb1.mono s0)).setCell (Nat.le_refl _) _
  have O1 : OwnR (w1.setCell ⟨w.heap.size, 2, none⟩ (.slice p n q)) v0.heap.size (.slice p n q) rs0 := own_set ho1 ⟨w.heap.size, 2, none⟩ (.slice p n q) (fun e => by have := (own_lt ho1 e).1; simp at this; omega)
  have ss : v0.heap.size ≤ (w1.setCell ⟨w.heap.size, 2, none⟩ (.slice p n q)).heap.size := by
    have := hb1.size
    simpa using this
  clear q1 q2 ho1 hb1 k2 H0 H1
  generalize (w1.setCell ⟨w.heap.size, 2, none⟩ (.slice p n q)) = w2 at G0 G1 B1 O1 ss ⊢
  have k2 : w2.cell? ⟨w.heap.size, 2, none⟩ = some (.slice p n q) := G0.cell 2
  have hq1 : n ≤ q := O1.rws.2.1
  have hq2 := O1.rws.2.2.1
  unfold maxLen at hq2
  have HRn : Hid (rs0.length = l.length) := HR0.out.1
  have l0' := G0.lt
  have l1' := G1.lt
  have H0 : Hid (RowAt w2 w.heap.size #[.int .i64 R, .int .i64 C, .slice p n q] 47) := G0
  have H1 : Hid (RowAt w2 (w.heap.size + 1) #[.int .i64 0, .int .i64 0, .slice none 0 0] 47) := G1
  have HB1 : Hid (Below w.heap.size w w2) := B1
  have HO1 : Hid (OwnR w2 v0.heap.size (.slice p n q) rs0) := O1
  clear G0 G1 B1 O1
  go_wp2_with fail
  clear k2
  go_loopw [12] (fun iv wr => ∃ (i : Nat) (ns : List Rw), i ≤ n ∧ iv = .int .i64 i ∧ ns.length = i ∧ RowAt wr w.heap.size #[.int .i64 R, .int .i64 C, .slice p n q] 47 ∧ RowAt wr (w.heap.size + 1) #[.int .i64 0, .int .i64 0, .slice none 0 0] 47 ∧ OwnR wr v0.heap.size (.slice p n q) (ns ++ rs0.drop i) ∧ TxtOwn wr v0.heap.size (Value.slice p n q).ownBlock ns (l.take i) ∧ v0.heap.size ≤ wr.heap.size ∧ Below w.heap.size w wr) (fun iv _ => n - (intOf iv).toNat)
  case atStart => exact ⟨0, [], Nat.zero_le _, rfl, rfl, H0.out, H1.out, HO1.out, TxtOwn.nil _ _ _, ss, HB1.out⟩
  case round =>
    obtain ⟨i, ns, hi, rfl, hns, hG0, hG1, hO, hT, hss, hB⟩ := hrel
    have HG0 : Hid (RowAt wr w.heap.size #[.int .i64 R, .int .i64 C, .slice p n q] 47) := hG0
    have HG1 : Hid (RowAt wr (w.heap.size + 1) #[.int .i64 0, .int .i64 0, .slice none 0 0] 47) := hG1
    have HO : Hid (OwnR wr v0.heap.size (.slice p n q) (ns ++ rs0.drop i)) := hO
    have HX : Hid (TxtOwn wr v0.heap.size (Value.slice p n q).ownBlock ns (l.take i)) := hT
    have HB : Hid (Below w.heap.size w wr) := hB
    have HNS : Hid (ns.length = i) := hns
    clear hG0 hG1 hO hT hB hns
    by_cases hlt : i < n
    · have hil : i < l.length := by have := HN.out; omega
      have hir : i < rs0.length := by have := HRn.out; omega
      have hib : (i : Int) < (n : Int) := by omega
      have hi0 : (0 : Int) ≤ (i : Int) := by omega
      obtain ⟨gb, rfl⟩ : ∃ gb, p = some ⟨gb, 0, none⟩ := by
        rcases HO.out.row.2 with ⟨hv, hz⟩ | ⟨g', cap', cur, hv, -⟩
        · omega
        · simp only [Value.slice.injEq] at hv
          exact ⟨g', hv.1⟩
      have HTK : Hid (l.take (i + 1) = l.take i ++ [l.getD i cl0]) := by
        show l.take (i + 1) = l.take i ++ [l.getD i cl0]
        rw [List.take_succ_eq_append_getElem hil]
        simp [List.getD, hil]
      have hdr : rs0.drop i = rs0.getD i rw0 :: rs0.drop (i + 1) := by
        rw [List.drop_eq_getElem_cons hir]
        simp [List.getD, hir]
      have hrd := HR0.out.2 i hir
      have hlen := HT.out i hil
      obtain ⟨⟨r, c, d, g, ta, tn, tc⟩, hx⟩ : ∃ x, x = rs0.getD i rw0 := ⟨_, rfl⟩
      rw [← hx] at hdr hrd
      obtain ⟨⟨yr, yc, yd, yg, tx⟩, hy⟩ : ∃ y, y = l.getD i cl0 := ⟨_, rfl⟩
      rw [← hy] at hrd HTK hlen
      obtain ⟨e0, e1, e2, e3, htx⟩ := hrd
      simp only at e0 e1 e2 e3 htx hlen
      subst e0 e1 e2 e3
      have htn : tn ≤ 1000000 := by rw [htx.1]; exact hlen
      have HDR : Hid (rs0.drop i = (r, c, d, g, ta, tn, tc) :: rs0.drop (i + 1)) := hdr
      have ho := HO.out
      rw [HDR.out] at ho
      have hrow := ho.row
      have hcl : ∀ j, j < 5 → wr.cell? ⟨gb, i * 5 + j, none⟩ = (rwCells (r, c, d, g, ta, tn, tc))[j]? := fun j hj => by
        have h1 := hrow.cellAt (i * 5 + j) (by omega)
        rw [h1, flat5_get _ i j (by simp; have := HNS.out; omega) hj]
        congr 2
        have := HNS.out
        subst this
        simp [List.getD]
      have c0 : wr.cell? ⟨gb, i * 5, none⟩ = some (.int .i64 r) := hcl 0 (by omega)
      have c1 : wr.cell? ⟨gb, i * 5 + 1, none⟩ = some (.int .i64 c) := hcl 1 (by omega)
      have c2 : wr.cell? ⟨gb, i * 5 + 2, none⟩ = some (.int .i64 d) := hcl 2 (by omega)
      have c3 : wr.cell? ⟨gb, i * 5 + 3, none⟩ = some (.int .i64 g) := hcl 3 (by omega)
      have c4 : wr.cell? ⟨gb, i * 5 + 4, none⟩ = some (.slice ta tn tc) := hcl 4 (by omega)
      have HTX : Hid (Txt wr ta tn tc tx) := htx.below HB.out
      have gb0 := own_lt hrow rfl
      have HOw : Hid (OwnR wr v0.heap.size (.slice (some ⟨gb, 0, none⟩) n q) (ns ++ (r, c, d, g, ta, tn, tc) :: rs0.drop (i + 1))) := ho
      clear hcl hrow ho hdr hx hy htx hlen HO
      go_upto_region 5 with fail
      have bA : Below wr.heap.size wr (wr.alloc (.cells #[.int .i64 r, .int .i64 c, .int .i64 d, .int .i64 g, .slice ta tn tc] 59)) := (Below.refl _ _).alloc (Nat.le_refl _) _
      have gA : RowAt (wr.alloc (.cells #[.int .i64 r, .int .i64 c, .int .i64 d, .int .i64 g, .slice ta tn tc] 59)) wr.heap.size #[.int .i64 r, .int .i64 c, .int .i64 d, .int .i64 g, .slice ta tn tc] 59 := rowAt_new _ _ _
      have sA : (wr.alloc (.cells #[.int .i64 r, .int .i64 c, .int .i64 d, .int .i64 g, .slice ta tn tc] 59)).heap.size = wr.heap.size + 1 := by simp
      clear c0 c1 c2 c3 c4
      generalize wr.alloc (.cells #[.int .i64 r, .int .i64 c, .int .i64 d, .int .i64 g, .slice ta tn tc] 59) = u0 at bA gA sA ⊢
      have w0 := HG0.out.lt
      have w1' := HG1.out.lt
      have HG0a : Hid (RowAt u0 w.heap.size #[.int .i64 R, .int .i64 C, .slice (some ⟨gb, 0, none⟩) n q] 47) := HG0.out.below bA w0
      have HG1a : Hid (RowAt u0 (w.heap.size + 1) #[.int .i64 0, .int .i64 0, .slice none 0 0] 47) := HG1.out.below bA w1'
      have HOa : Hid (OwnR u0 v0.heap.size (.slice (some ⟨gb, 0, none⟩) n q) (ns ++ (r, c, d, g, ta, tn, tc) :: rs0.drop (i + 1))) := HOw.out.below bA
      have HXa : Hid (TxtOwn u0 v0.heap.size (Value.slice (some ⟨gb, 0, none⟩) n q).ownBlock ns (l.take i)) := HX.out.below bA
      have HTXa : Hid (Txt u0 ta tn tc tx) := HTX.out.below bA
      have HBa : Hid (Below w.heap.size w u0) := HB.out.trans (bA.mono (by omega))
      have HC : Hid (RowAt u0 wr.heap.size #[.int .i64 r, .int .i64 c, .int .i64 d, .int .i64 g, .slice ta tn tc] 59) := gA
      have gb1 : gb < wr.heap.size := gb0.2
      have gb2 : v0.heap.size ≤ gb := gb0.1
      clear bA gA HG0 HG1 HOw HX HTX HB gb0
      refine wp_region_noPanic ?_
      refine wp_region_held_drew (S := fun w' => RowAt w' w.heap.size #[.int .i64 R, .int .i64 C, .slice (some ⟨gb, 0, none⟩) n q] 47 ∧ RowAt w' wr.heap.size #[.int .i64 r, .int .i64 c, .int .i64 d, .int .i64 g, .slice ta tn tc] 59) (by kernel_rfl) ⟨HG0a.out.drew, HC.out.drew⟩ (fun hHeld => ?_)
      have HOd : Hid (OwnR u0.drew v0.heap.size (.slice (some ⟨gb, 0, none⟩) n q) (ns ++ (r, c, d, g, ta, tn, tc) :: rs0.drop (i + 1))) := HOa.out.below (Below.refl _ _).drew
      have HXd : Hid (TxtOwn u0.drew v0.heap.size (Value.slice (some ⟨gb, 0, none⟩) n q).ownBlock ns (l.take i)) := HXa.out.below (Below.refl _ _).drew
      have HTXd : Hid (Txt u0.drew ta tn tc tx) := HTXa.out.below (Below.refl _ _).drew
      have HG1d : Hid (RowAt u0.drew (w.heap.size + 1) #[.int .i64 0, .int .i64 0, .slice none 0 0] 47) := HG1a.out.drew
      have HBd : Hid (Below w.heap.size w u0.drew) := HBa.out.drew
      have sd : u0.drew.heap.size = wr.heap.size + 1 := sA
      generalize u0.drew = u1 at hHeld HOd HXd HTXd HG1d HBd sd ⊢
      clear HOa HXa HTXa HG1a HBa HG0a HC sA
      refine take_at 0 17 (.pointer (some ⟨w.heap.size, 2, none⟩)) rfl rfl (by kernel_rfl) (by kernel_rfl) (by kernel_rfl) (fun _ _ _ h => h) (Or.inl ⟨by kernel_rfl, fun w' hS' => by go_simp⟩) hHeld ?_
      (try simp only [Act.put, List.setIfInBounds_toArray, List.set_cons_zero, List.set_cons_succ])
      refine take_at 1 18 (.slice (some ⟨gb, 0, none⟩) n q) rfl rfl (by kernel_rfl) (by kernel_rfl) (by kernel_rfl) (fun _ _ _ h => h) (Or.inl ⟨by kernel_rfl, fun w' hS' => by have hc := RowAt.cell hS'.1 2; go_simp⟩) hHeld ?_
      (try simp only [Act.put, List.setIfInBounds_toArray, List.set_cons_zero, List.set_cons_succ])
      refine take_at 2 19 (.int .i64 i) rfl rfl (by kernel_rfl) (by kernel_rfl) (by kernel_rfl) (fun _ _ _ h => h) (Or.inl ⟨by kernel_rfl, fun w' hS' => by go_simp⟩) hHeld ?_
      (try simp only [Act.put, List.setIfInBounds_toArray, List.set_cons_zero, List.set_cons_succ])
      refine take_at 3 20 (.pointer (some ⟨wr.heap.size, 4, none⟩)) rfl rfl (by kernel_rfl) (by kernel_rfl) (by kernel_rfl) (fun _ _ _ h => h) (Or.inl ⟨by kernel_rfl, fun w' hS' => by go_simp⟩) hHeld ?_
      (try simp only [Act.put, List.setIfInBounds_toArray, List.set_cons_zero, List.set_cons_succ])
      refine take_at 4 21 (.slice ta tn tc) rfl rfl (by kernel_rfl) (by kernel_rfl) (by kernel_rfl) (fun _ _ _ h => h) (Or.inl ⟨by kernel_rfl, fun w' hS' => by have hc := RowAt.cell hS'.2 4; go_simp⟩) hHeld ?_
      (try simp only [Act.put, List.setIfInBounds_toArray, List.set_cons_zero, List.set_cons_succ])
      refine wpAnyH_ready (rs := [5]) (by kernel_rfl) (by simp) ?_
      refine AllReadyH.cons rfl (fun K hK => ?_) AllReadyH.nil
      go_simp
      go_at_call 110
      refine (copiedSign_any HTXd.out htn).mono ?_
      rintro e u2 ⟨⟨tp, tq, rfl, hot⟩, hb2⟩
      have HO2 : Hid (OwnR u2 v0.heap.size (.slice (some ⟨gb, 0, none⟩) n q) (ns ++ (r, c, d, g, ta, tn, tc) :: rs0.drop (i + 1))) := HOd.out.below hb2
      have HX2 : Hid (TxtOwn u2 v0.heap.size (Value.slice (some ⟨gb, 0, none⟩) n q).ownBlock ns (l.take i)) := HXd.out.below hb2
      have HG12 : Hid (RowAt u2 (w.heap.size + 1) #[.int .i64 0, .int .i64 0, .slice none 0 0] 47) := HG1d.out.below hb2 (by omega)
      have HB2 : Hid (Below w.heap.size w u2) := HBd.out.trans (hb2.mono (by omega))
      have HOT : Hid (Own u2 u1.heap.size (.slice tp tn tq) tx) := hot
      have HXL : Hid (∀ k, k < ns.length → ∀ g, (rwT (ns.getD k rw0)).ownBlock = some g → g < u1.heap.size) := HXd.out.blockLt
      have s2 := hb2.size
      go_wp2_with fail
      refine hK.out _ _ (⟨RowAt.below hHeld.1 hb2 (by omega), RowAt.below hHeld.2 hb2 (by omega)⟩) (fun hHeld => ?_)
      clear hK K
      (try simp only [Act.put, List.setIfInBounds_toArray, List.set_cons_zero, List.set_cons_succ])
      clear hb2 hot HOd HXd HG1d HBd HTXd
      refine take_at 6 23 (.pointer (some ⟨gb, i * 5, none⟩)) rfl rfl (by kernel_rfl) (by kernel_rfl) (by kernel_rfl) (fun _ _ _ h => h) (Or.inl ⟨by kernel_rfl, fun w' hS' => by go_simp⟩) hHeld ?_
      (try simp only [Act.put, List.setIfInBounds_toArray, List.set_cons_zero, List.set_cons_succ])
      refine take_at 7 24 (.pointer (some ⟨gb, i * 5 + 4, none⟩)) rfl rfl (by kernel_rfl) (by kernel_rfl) (by kernel_rfl) (fun _ _ _ h => h) (Or.inl ⟨by kernel_rfl, fun w' hS' => by go_simp⟩) hHeld ?_
      (try simp only [Act.put, List.setIfInBounds_toArray, List.set_cons_zero, List.set_cons_succ])
      refine wpAnyH_ready (rs := [8]) (by kernel_rfl) (by simp) ?_
      refine AllReadyH.cons rfl (fun K hK => ?_) AllReadyH.nil
      have f4 := HO2.out.row.frozenAt (i * 5 + 4)
      obtain ⟨u4, d4⟩ : ∃ u, u2.cell? ⟨gb, i * 5 + 4, none⟩ = some u := by
        have h1 := HO2.out.row.1
        exact ⟨_, (HO2.out.row.cellAt (i * 5 + 4) (by omega)).trans (List.getElem?_eq_getElem (by omega))⟩
      rw [if_pos (by kernel_rfl)]
      go_simp
      refine hK.out _ _ ⟨RowAt.other hHeld.1 _ _ (by simp; omega), RowAt.other hHeld.2 _ _ (by simp; omega)⟩ (fun hHeld => ?_)
      clear hK K
      (try simp only [Act.put])
      refine wpAnyH_done (by kernel_rfl) ?_ _
      refine NoPanic.normal ?_
      have hG0 := hHeld.1
      clear hHeld
      go_wp2_with fail
      go_roundw
      case rel =>
        have hst := (HO2.out.row.stored (i * 5 + 4) (.slice tp tn tq)).1
        have en := HNS.out
        have e4 := flat5_set4 ns (rs0.drop (i + 1)) r c d g (ta, tn, tc) (tp, tn, tq)
        rw [en] at e4
        rw [e4] at hst
        have hO3 : OwnR (u2.setCell ⟨gb, i * 5 + 4, none⟩ (.slice tp tn tq)) v0.heap.size (.slice (some ⟨gb, 0, none⟩) n q) ((ns ++ [(r, c, d, g, tp, tn, tq)]) ++ rs0.drop (i + 1)) := by
          rw [List.append_assoc]
          have hl5 : n = (ns ++ (r, c, d, g, ta, tn, tc) :: rs0.drop (i + 1)).length := HO2.out.len
          have hl6 : (ns ++ (r, c, d, g, ta, tn, tc) :: rs0.drop (i + 1)).length = (ns ++ (r, c, d, g, tp, tn, tq) :: rs0.drop (i + 1)).length := by simp
          unfold OwnR
          rw [List.singleton_append, ← hl6, ← hl5]
          exact hst
        have hT3 := HX2.out.snoc (C := u1.heap.size) (x := (r, c, d, g, tp, tn, tq)) (y := (r, c, d, g, tx)) ⟨rfl, rfl, rfl, rfl, own_less HOT.out (by omega)⟩ (fun z hz => by have := (own_lt HOT.out hz).1; simp [Value.ownBlock]; omega) HXL.out (fun z hz => (own_lt HOT.out hz).1)
        rw [← HTK.out] at hT3
        refine ⟨i + 1, ns ++ [(r, c, d, g, tp, tn, tq)], by omega, by go_num, by simp [en], hG0, HG12.out.other _ _ (by simp; omega), hO3, ?_, by simp; omega, HB2.out.setCell (by show _ ≤ gb; omega) _⟩
        exact hT3.set _ _ rfl
      case measure => simp [intOf]; omega
    · have hib : ¬ (i : Int) < (n : Int) := by omega
      obtain rfl : i = n := by omega
      have e1 : l.take i = l := List.take_of_length_le (by have := HN.out; omega)
      have e2 : rs0.drop i = [] := List.drop_eq_nil_of_le (by have := HN.out; have := HRn.out; omega)
      have hX := HX.out
      have hO := HO.out
      rw [e1] at hX
      rw [e2, List.append_nil] at hO
      have HOw : Hid (OwnT wr v0.heap.size (.slice p i q) ns l) := ⟨hO, hX⟩
      have k0 : wr.cell? ⟨w.heap.size, 0, none⟩ = some (.int .i64 R) := HG0.out.cell 0
      have k1 : wr.cell? ⟨w.heap.size, 1, none⟩ = some (.int .i64 C) := HG0.out.cell 1
      have k2 : wr.cell? ⟨w.heap.size, 2, none⟩ = some (.slice p i q) := HG0.out.cell 2
      clear hX hO e1 e2
      have w1' := HG1.out.lt
      go_wp2_with (refine wpList_store_row rfl 47 (.tmp 2) (.tmp 26) rfl (w.heap.size + 1) #[.int .i64 R, .int .i64 C, .slice p i q] rfl rfl 47 _ HG1.out tab_info rfl (cells3_one _ _ _ _ _) ?_)
      refine bodyPost_ret (v := .agg #[.int .i64 R, .int .i64 C, .slice p i q]) (results_cell_row (p := 2) (ty := 47) rfl _ _ (w.heap.size + 1) 47 _ _ _ rfl (RowAt.setRow HG1.out _) Try.underlying47 rfl tab_info) rfl ⟨⟨p, q, rfl, ns, ?_⟩, below_row HB.out (by omega) _⟩
      exact OwnT.less (B' := v0.heap.size) ⟨own_row HOw.out.1 _ _ (fun e => by have := (own_lt HOw.out.1 e).1; omega), HOw.out.2.rowLow _ _ (by omega)⟩ (by omega)
end Go.Proofs.Ytlpfflcogefbjaa
namespace Go.Proofs.Ytlpfflcogefbjaa
open Go.RowKit

theorem ownT_nil (w : World) (B : Nat) : OwnT w B (.slice none 0 0) [] [] := ⟨OwnR.nil _ _, TxtOwn.nil _ _ _⟩
set_option maxRecDepth 100000 in
set_option maxHeartbeats 4000000 in
theorem paraBlock_any {ta : Option Addr} {tn tc : Nat} {t : List Sg} {w : World} (h : Txt w ta tn tc t) (hn : tn ≤ 1000000) :
    Calls Try.prog 133 #[.agg #[.slice ta tn tc]] w fun e w' => (∃ p q, e = .returned (.agg #[.int .i64 1, .int .i64 0, .slice p tn q, .int .i64 0, .int .i64 0, .slice none 0 0]) ∧ BlOwn w' w.heap.size w'.heap.size w'.heap.size (1, 0, (p, tn, q), 0, 0, (none, 0, 0)) (1, 0, t, 0, 0, [])) ∧ Below w.heap.size w w' := by
  have H : Hid (Txt w ta tn tc t) := h
  clear h
  go_enter Try.func133, Try.ntmps133
  go_upto_region 1 with fail
  have B0 : Below w.heap.size w ((w.alloc (.cells #[.slice ta tn tc] 111)).alloc (.cells #[.int .i64 0, .int .i64 0, .slice none 0 0, .int .i64 0, .int .i64 0, .slice none 0 0] 49)) := ((Below.refl _ _).alloc (Nat.le_refl _) _).alloc (by simp) _
  have G0 : RowAt ((w.alloc (.cells #[.slice ta tn tc] 111)).alloc (.cells #[.int .i64 0, .int .i64 0, .slice none 0 0, .int .i64 0, .int .i64 0, .slice none 0 0] 49)) w.heap.size #[.slice ta tn tc] 111 := (rowAt_new w _ _).alloc _
  have G1 : RowAt ((w.alloc (.cells #[.slice ta tn tc] 111)).alloc (.cells #[.int .i64 0, .int .i64 0, .slice none 0 0, .int .i64 0, .int .i64 0, .slice none 0 0] 49)) (w.heap.size + 1) #[.int .i64 0, .int .i64 0, .slice none 0 0, .int .i64 0, .int .i64 0, .slice none 0 0] 49 := by
    have := rowAt_new (w.alloc (.cells #[.slice ta tn tc] 111)) #[.int .i64 0, .int .i64 0, .slice none 0 0, .int .i64 0, .int .i64 0, .slice none 0 0] 49
    simpa using this
  generalize ((w.alloc (.cells #[.slice ta tn tc] 111)).alloc (.cells #[.int .i64 0, .int .i64 0, .slice none 0 0, .int .i64 0, .int .i64 0, .slice none 0 0] 49)) = v0 at B0 G0 G1 ⊢
  have l0 := G0.lt
  have l1 := G1.lt
  have s0 := B0.size
  have H0 : Hid (RowAt v0 w.heap.size #[.slice ta tn tc] 111) := G0
  have H1 : Hid (RowAt v0 (w.heap.size + 1) #[.int .i64 0, .int .i64 0, .slice none 0 0, .int .i64 0, .int .i64 0, .slice none 0 0] 49) := G1
  have HB0 : Hid (Below w.heap.size w v0) := B0
  have k0 : v0.cell? ⟨w.heap.size, 0, none⟩ = some (.slice ta tn tc) := G0.cell 0
  clear G0 G1 B0
  go_wp2_with (first | (go_at_call 110; refine (copiedSign_any (H.out.below HB0.out) hn).mono ?_; rintro e w1 ⟨⟨p, q, rfl, ho1⟩, hb1⟩; have HZ : Hid (RowAt w1 (w.heap.size + 1) #[.int .i64 0, .int .i64 0, .slice none 0 0, .int .i64 0, .int .i64 0, .slice none 0 0] 49) := H1.out.below hb1 l1) | (refine wpList_store_row rfl 49 (.tmp 2) (.tmp 6) rfl (w.heap.size + 1) #[.int .i64 1, .int .i64 0, .slice p tn q, .int .i64 0, .int .i64 0, .slice none 0 0] rfl rfl 49 _ HZ.out block_info rfl (cells6_one _ _ _ _ _ _ _ _ _ _) ?_))
  have s1 := hb1.size
  refine bodyPost_ret (v := .agg #[.int .i64 1, .int .i64 0, .slice p tn q, .int .i64 0, .int .i64 0, .slice none 0 0]) (results_cell_row (p := 2) (ty := 49) rfl _ _ (w.heap.size + 1) 49 _ _ _ rfl (RowAt.setRow HZ.out _) Try.underlying49 rfl block_info) rfl ⟨⟨p, q, rfl, ?_⟩, below_row (HB0.out.trans (hb1.mono s0)) (by omega) _⟩
  have sz : (w1.setRow (w.heap.size + 1) #[.int .i64 1, .int .i64 0, .slice p tn q, .int .i64 0, .int .i64 0, .slice none 0 0]).heap.size = w1.heap.size := by simp [World.setRow]
  rw [sz]
  have hlt : ∀ g, (Value.slice p tn q).ownBlock = some g → g < w1.heap.size := fun g hg => (own_lt ho1 hg).2
  exact ⟨⟨rfl, rfl, rfl, rfl⟩, own_less (own_row ho1 _ _ (fun e => by have := (own_lt ho1 e).1; omega)) (by omega), hlt, ⟨[], ownT_nil _ _, fun g hg => by simp [sl3V, Value.ownBlock] at hg, fun k hk => absurd hk (by simp)⟩, by omega, Nat.le_refl _⟩
set_option maxRecDepth 100000 in
set_option maxHeartbeats 4000000 in
theorem itemBlock_any {v : Int} {ta : Option Addr} {tn tc : Nat} {t : List Sg} {w : World} (h : Txt w ta tn tc t) (hn : tn ≤ 1000000) :
    Calls Try.prog 107 #[.agg #[.int .i64 v, .slice ta tn tc]] w fun e w' => (∃ p q, e = .returned (.agg #[.int .i64 2, .int .i64 v, .slice p tn q, .int .i64 0, .int .i64 0, .slice none 0 0]) ∧ BlOwn w' w.heap.size w'.heap.size w'.heap.size (2, v, (p, tn, q), 0, 0, (none, 0, 0)) (2, v, t, 0, 0, [])) ∧ Below w.heap.size w w' := by
  have H : Hid (Txt w ta tn tc t) := h
  clear h
  go_enter Try.func107, Try.ntmps107
  go_upto_region 1 with fail
  have B0 : Below w.heap.size w ((w.alloc (.cells #[.int .i64 v, .slice ta tn tc] 103)).alloc (.cells #[.int .i64 0, .int .i64 0, .slice none 0 0, .int .i64 0, .int .i64 0, .slice none 0 0] 49)) := ((Below.refl _ _).alloc (Nat.le_refl _) _).alloc (by simp) _
  have G0 : RowAt ((w.alloc (.cells #[.int .i64 v, .slice ta tn tc] 103)).alloc (.cells #[.int .i64 0, .int .i64 0, .slice none 0 0, .int .i64 0, .int .i64 0, .slice none 0 0] 49)) w.heap.size #[.int .i64 v, .slice ta tn tc] 103 := (rowAt_new w _ _).alloc _
  have G1 : RowAt ((w.alloc (.cells #[.int .i64 v, .slice ta tn tc] 103)).alloc (.cells #[.int .i64 0, .int .i64 0, .slice none 0 0, .int .i64 0, .int .i64 0, .slice none 0 0] 49)) (w.heap.size + 1) #[.int .i64 0, .int .i64 0, .slice none 0 0, .int .i64 0, .int .i64 0, .slice none 0 0] 49 := by
    have := rowAt_new (w.alloc (.cells #[.int .i64 v, .slice ta tn tc] 103)) #[.int .i64 0, .int .i64 0, .slice none 0 0, .int .i64 0, .int .i64 0, .slice none 0 0] 49
    simpa using this
  generalize ((w.alloc (.cells #[.int .i64 v, .slice ta tn tc] 103)).alloc (.cells #[.int .i64 0, .int .i64 0, .slice none 0 0, .int .i64 0, .int .i64 0, .slice none 0 0] 49)) = v0 at B0 G0 G1 ⊢
  have l0 := G0.lt
  have l1 := G1.lt
  have s0 := B0.size
  have H0 : Hid (RowAt v0 w.heap.size #[.int .i64 v, .slice ta tn tc] 103) := G0
  have H1 : Hid (RowAt v0 (w.heap.size + 1) #[.int .i64 0, .int .i64 0, .slice none 0 0, .int .i64 0, .int .i64 0, .slice none 0 0] 49) := G1
  have HB0 : Hid (Below w.heap.size w v0) := B0
  clear G0 G1 B0
  refine wp_region_noPanic ?_
  refine wp_region_held_drew (S := fun w' => RowAt w' w.heap.size #[.int .i64 v, .slice ta tn tc] 103) (by kernel_rfl) H0.out.drew (fun hHeld => ?_)
  have H1d : Hid (RowAt v0.drew (w.heap.size + 1) #[.int .i64 0, .int .i64 0, .slice none 0 0, .int .i64 0, .int .i64 0, .slice none 0 0] 49) := H1.out.drew
  have HBd : Hid (Below w.heap.size w v0.drew) := HB0.out.drew
  have sd : v0.drew.heap.size = v0.heap.size := rfl
  clear H0 H1 HB0
  generalize v0.drew = u0 at hHeld H1d HBd sd ⊢
  refine take_at 0 3 (.pointer (some ⟨w.heap.size, 0, none⟩)) rfl rfl (by kernel_rfl) (by kernel_rfl) (by kernel_rfl) (fun _ _ _ h => h) (Or.inl ⟨by kernel_rfl, fun w' hS' => by go_simp⟩) hHeld ?_
  (try simp only [Act.put, List.setIfInBounds_toArray, List.set_cons_zero, List.set_cons_succ])
  refine take_at 1 4 (.int .i64 v) rfl rfl (by kernel_rfl) (by kernel_rfl) (by kernel_rfl) (fun _ _ _ h => h) (Or.inl ⟨by kernel_rfl, fun w' hS' => by have hc := RowAt.cell hS' 0; go_simp⟩) hHeld ?_
  (try simp only [Act.put, List.setIfInBounds_toArray, List.set_cons_zero, List.set_cons_succ])
  refine take_at 2 5 (.pointer (some ⟨w.heap.size, 1, none⟩)) rfl rfl (by kernel_rfl) (by kernel_rfl) (by kernel_rfl) (fun _ _ _ h => h) (Or.inl ⟨by kernel_rfl, fun w' hS' => by go_simp⟩) hHeld ?_
  (try simp only [Act.put, List.setIfInBounds_toArray, List.set_cons_zero, List.set_cons_succ])
  refine take_at 3 6 (.slice ta tn tc) rfl rfl (by kernel_rfl) (by kernel_rfl) (by kernel_rfl) (fun _ _ _ h => h) (Or.inl ⟨by kernel_rfl, fun w' hS' => by have hc := RowAt.cell hS' 1; go_simp⟩) hHeld ?_
  (try simp only [Act.put, List.setIfInBounds_toArray, List.set_cons_zero, List.set_cons_succ])
  refine wpAnyH_ready (rs := [4]) (by kernel_rfl) (by simp) ?_
  refine AllReadyH.cons rfl (fun K hK => ?_) AllReadyH.nil
  go_simp
  go_at_call 110
  refine (copiedSign_any (H.out.below HBd.out) hn).mono ?_
  rintro e w1 ⟨⟨p, q, rfl, ho1⟩, hb1⟩
  have HZ : Hid (RowAt w1 (w.heap.size + 1) #[.int .i64 0, .int .i64 0, .slice none 0 0, .int .i64 0, .int .i64 0, .slice none 0 0] 49) := H1d.out.below hb1 (by omega)
  go_wp2_with fail
  refine hK.out _ _ (RowAt.below hHeld hb1 (by omega)) (fun hHeld => ?_)
  clear hK K
  (try simp only [Act.put, List.setIfInBounds_toArray, List.set_cons_zero, List.set_cons_succ])
  refine take_at 5 8 (.agg #[.int .i64 2, .int .i64 v, .slice p tn q, .int .i64 0, .int .i64 0, .slice none 0 0]) rfl rfl (by kernel_rfl) (by kernel_rfl) (by kernel_rfl) (fun _ _ _ h => h) (Or.inl ⟨by kernel_rfl, fun w' hS' => by go_simp⟩) hHeld ?_
  (try simp only [Act.put, List.setIfInBounds_toArray, List.set_cons_zero, List.set_cons_succ])
  refine wpAnyH_ready (rs := [6]) (by kernel_rfl) (by simp) ?_
  refine AllReadyH.cons rfl (fun K hK => ?_) AllReadyH.nil
  rw [if_pos (by kernel_rfl)]
  refine wp_store_row 49 (.tmp 2) (.tmp 8) rfl (w.heap.size + 1) #[.int .i64 2, .int .i64 v, .slice p tn q, .int .i64 0, .int .i64 0, .slice none 0 0] rfl rfl 49 _ HZ.out block_info rfl (cells6_one _ _ _ _ _ _ _ _ _ _) ?_
  refine hK.out _ _ (RowAt.setRowOther hHeld _ _ (by omega)) (fun hHeld => ?_)
  clear hK K
  (try simp only [Act.put])
  refine wpAnyH_done (by kernel_rfl) ?_ _
  refine NoPanic.normal ?_
  clear hHeld
  have HB0 : Hid (Below w.heap.size w u0) := HBd.out
  rw [← sd] at s0
  go_wp2_with fail
  have s1 := hb1.size
  refine bodyPost_ret (v := .agg #[.int .i64 2, .int .i64 v, .slice p tn q, .int .i64 0, .int .i64 0, .slice none 0 0]) (results_cell_row (p := 2) (ty := 49) rfl _ _ (w.heap.size + 1) 49 _ _ _ rfl (RowAt.setRow HZ.out _) Try.underlying49 rfl block_info) rfl ⟨⟨p, q, rfl, ?_⟩, below_row (HB0.out.trans (hb1.mono s0)) (by omega) _⟩
  have sz : (w1.setRow (w.heap.size + 1) #[.int .i64 2, .int .i64 v, .slice p tn q, .int .i64 0, .int .i64 0, .slice none 0 0]).heap.size = w1.heap.size := by simp [World.setRow]
  rw [sz]
  have hlt : ∀ g, (Value.slice p tn q).ownBlock = some g → g < w1.heap.size := fun g hg => (own_lt ho1 hg).2
  exact ⟨⟨rfl, rfl, rfl, rfl⟩, own_less (own_row ho1 _ _ (fun e => by have := (own_lt ho1 e).1; omega)) (by omega), hlt, ⟨[], ownT_nil _ _, fun g hg => by simp [sl3V, Value.ownBlock] at hg, fun k hk => absurd hk (by simp)⟩, by omega, Nat.le_refl _⟩
set_option maxRecDepth 100000 in
set_option maxHeartbeats 4000000 in
theorem sheetBlock_any {R C : Int} {ca : Option Addr} {cn cc : Nat} {l : List Cl} {w : World} (h : Tab w ca cn cc l) (hl : l.length ≤ 1000) (hx : ∀ k, k < l.length → (l.getD k cl0).2.2.2.2.length ≤ 1000000) :
    Calls Try.prog 136 #[.agg #[.int .i64 R, .int .i64 C, .slice ca cn cc]] w fun e w' => (∃ p q, e = .returned (.agg #[.int .i64 3, .int .i64 0, .slice none 0 0, .int .i64 R, .int .i64 C, .slice p cn q]) ∧ BlOwn w' w.heap.size w.heap.size w'.heap.size (3, 0, (none, 0, 0), R, C, (p, cn, q)) (3, 0, [], R, C, l)) ∧ Below w.heap.size w w' := by
  have H : Hid (Tab w ca cn cc l) := h
  clear h
  go_enter Try.func136, Try.ntmps136
  go_upto_region 1 with fail
  have B0 : Below w.heap.size w ((w.alloc (.cells #[.int .i64 R, .int .i64 C, .slice ca cn cc] 119)).alloc (.cells #[.int .i64 0, .int .i64 0, .slice none 0 0, .int .i64 0, .int .i64 0, .slice none 0 0] 49)) := ((Below.refl _ _).alloc (Nat.le_refl _) _).alloc (by simp) _
  have G0 : RowAt ((w.alloc (.cells #[.int .i64 R, .int .i64 C, .slice ca cn cc] 119)).alloc (.cells #[.int .i64 0, .int .i64 0, .slice none 0 0, .int .i64 0, .int .i64 0, .slice none 0 0] 49)) w.heap.size #[.int .i64 R, .int .i64 C, .slice ca cn cc] 119 := (rowAt_new w _ _).alloc _
  have G1 : RowAt ((w.alloc (.cells #[.int .i64 R, .int .i64 C, .slice ca cn cc] 119)).alloc (.cells #[.int .i64 0, .int .i64 0, .slice none 0 0, .int .i64 0, .int .i64 0, .slice none 0 0] 49)) (w.heap.size + 1) #[.int .i64 0, .int .i64 0, .slice none 0 0, .int .i64 0, .int .i64 0, .slice none 0 0] 49 := by
    have := rowAt_new (w.alloc (.cells #[.int .i64 R, .int .i64 C, .slice ca cn cc] 119)) #[.int .i64 0, .int .i64 0, .slice none 0 0, .int .i64 0, .int .i64 0, .slice none 0 0] 49
    simpa using this
  generalize ((w.alloc (.cells #[.int .i64 R, .int .i64 C, .slice ca cn cc] 119)).alloc (.cells #[.int .i64 0, .int .i64 0, .slice none 0 0, .int .i64 0, .int .i64 0, .slice none 0 0] 49)) = v0 at B0 G0 G1 ⊢
  have l0 := G0.lt
  have l1 := G1.lt
  have s0 := B0.size
  have H0 : Hid (RowAt v0 w.heap.size #[.int .i64 R, .int .i64 C, .slice ca cn cc] 119) := G0
  have H1 : Hid (RowAt v0 (w.heap.size + 1) #[.int .i64 0, .int .i64 0, .slice none 0 0, .int .i64 0, .int .i64 0, .slice none 0 0] 49) := G1
  have HB0 : Hid (Below w.heap.size w v0) := B0
  have k0 : v0.cell? ⟨w.heap.size, 0, none⟩ = some (.int .i64 R) := G0.cell 0
  have k1 : v0.cell? ⟨w.heap.size, 1, none⟩ = some (.int .i64 C) := G0.cell 1
  have k2 : v0.cell? ⟨w.heap.size, 2, none⟩ = some (.slice ca cn cc) := G0.cell 2
  clear G0 G1 B0
  go_wp2_with (first | (go_at_call 139; refine (copiedTable_any (H.out.below HB0.out) hl hx).mono ?_; rintro e w1 ⟨⟨p, q, rs, rfl, ho1⟩, hb1⟩; have HZ : Hid (RowAt w1 (w.heap.size + 1) #[.int .i64 0, .int .i64 0, .slice none 0 0, .int .i64 0, .int .i64 0, .slice none 0 0] 49) := H1.out.below hb1 l1) | (refine wpList_store_row rfl 49 (.tmp 2) (.tmp 6) rfl (w.heap.size + 1) #[.int .i64 3, .int .i64 0, .slice none 0 0, .int .i64 R, .int .i64 C, .slice p cn q] rfl rfl 49 _ HZ.out block_info rfl (cells6_one _ _ _ _ _ _ _ _ _ _) ?_))
  have s1 := hb1.size
  refine bodyPost_ret (v := .agg #[.int .i64 3, .int .i64 0, .slice none 0 0, .int .i64 R, .int .i64 C, .slice p cn q]) (results_cell_row (p := 2) (ty := 49) rfl _ _ (w.heap.size + 1) 49 _ _ _ rfl (RowAt.setRow HZ.out _) Try.underlying49 rfl block_info) rfl ⟨⟨p, q, rfl, ?_⟩, below_row (HB0.out.trans (hb1.mono s0)) (by omega) _⟩
  have sz : (w1.setRow (w.heap.size + 1) #[.int .i64 3, .int .i64 0, .slice none 0 0, .int .i64 R, .int .i64 C, .slice p cn q]).heap.size = w1.heap.size := by simp [World.setRow]
  rw [sz]
  have ho2 : OwnT (w1.setRow (w.heap.size + 1) #[.int .i64 3, .int .i64 0, .slice none 0 0, .int .i64 R, .int .i64 C, .slice p cn q]) v0.heap.size (.slice p cn q) rs l := ⟨own_row ho1.1 _ _ (fun e => by have := (own_lt ho1.1 e).1; omega), ho1.2.rowLow _ _ (by omega)⟩
  exact ⟨⟨rfl, rfl, rfl, rfl⟩, Own.nil _ _, fun g hg => by simp [sl3V, Value.ownBlock] at hg, ⟨rs, ho2.less (by omega), fun g hg => (own_lt ho1.1 hg).2, fun k hk g hg => ho1.2.blockLt k hk g hg⟩, Nat.le_refl _, by omega⟩
end Go.Proofs.Ytlpfflcogefbjaa
namespace Go.Proofs.Ytlpfflcogefbjaa
open Go.RowKit

/-- The texts of a table that is ok are short, and its cells few. -/
theorem ok_small {R C : Int} {l : List Cl} (h : okB R C l = true) : l.length ≤ 25 ∧ ∀ x ∈ l, x.2.2.2.2.length ≤ 24 := by
  have hf : formB R C l = true := by
    simp only [okB, Bool.and_eq_true] at h
    exact h.1
  obtain ⟨_, _, hl, hat⟩ := formB_of hf
  refine ⟨hl, fun x hx => ?_⟩
  obtain ⟨k, hk, e⟩ := List.getElem_of_mem hx
  have := (cellB_of (atB_cell (hat k hk))).2.2.2.2
  rw [show l.getD k cl0 = x by rw [← e]; simp [List.getD, hk]] at this
  simp only [textB, Bool.and_eq_true, decide_eq_true_eq] at this
  exact this.1
end Go.Proofs.Ytlpfflcogefbjaa
namespace Go.Proofs.Ytlpfflcogefbjaa
open Go.RowKit

/-- A block that is a part in form is small. -/
theorem part_small {x : Bl} (h : partOkB x = true) : (x.1 = 1 ∨ x.1 = 2 → x.2.2.1.length ≤ 24) ∧ (x.1 = 3 → x.2.2.2.2.2.length ≤ 25 ∧ ∀ k, k < x.2.2.2.2.2.length → (x.2.2.2.2.2.getD k cl0).2.2.2.2.length ≤ 24) := by
  obtain ⟨k, v, t, R, C, l⟩ := x
  unfold partOkB at h
  simp only at h ⊢
  by_cases h1 : k = 1
  · subst h1
    simp [textB] at h
    exact ⟨fun _ => h.1, fun e => absurd e (by decide)⟩
  · by_cases h2 : k = 2
    · subst h2
      simp [textB] at h
      exact ⟨fun _ => h.2.1, fun e => absurd e (by decide)⟩
    · rw [if_neg h1, if_neg h2] at h
      obtain ⟨a, b⟩ := ok_small h
      refine ⟨fun e => by omega, fun _ => ⟨a, fun j hj => b _ ?_⟩⟩
      rw [show l.getD j cl0 = l[j] by simp [List.getD, hj]]
      exact List.getElem_mem hj
theorem outlB_part {d : List Bl} (h : outlB d = true) {k : Nat} (hk : k < d.length) : partOkB (d.getD k bl0) = true := by
  unfold outlB at h
  rw [Bool.and_eq_true, List.all_eq_true] at h
  have := h.2 k (List.mem_range.2 hk)
  unfold outK at this
  rw [Bool.and_eq_true] at this
  exact this.1
theorem partBB_para {v : Int} {t : List Sg} {R C : Int} {l : List Cl} (h : partBB (1, v, t, R, C, l) = true) : v = 0 ∧ R = 0 ∧ C = 0 ∧ l = [] := by
  simp [partBB, partB, noneB] at h
  exact ⟨h.1, h.2.1.1, h.2.1.2, h.2.2⟩
theorem partBB_item {v : Int} {t : List Sg} {R C : Int} {l : List Cl} (h : partBB (2, v, t, R, C, l) = true) : R = 0 ∧ C = 0 ∧ l = [] := by
  simp [partBB, partB, noneB] at h
  exact ⟨h.1.1, h.1.2, h.2⟩
theorem partBB_sheet {v : Int} {t : List Sg} {R C : Int} {l : List Cl} (h : partBB (3, v, t, R, C, l) = true) : v = 0 ∧ t = [] := by
  simp [partBB, partB] at h
  exact h
theorem cells6_new (w : World) (a b c d e f : Value) (t : TypeId) : ∀ j u, [a, b, c, d, e, f][j]? = some u → (w.alloc (.cells #[a, b, c, d, e, f] t)).cell? ((⟨w.heap.size, 0, none⟩ : Addr).add j) = some u := by
  intro j u hj
  match j, hj with
  | 0, hj => simp at hj; subst hj; simp [Addr.add]
  | 1, hj => simp at hj; subst hj; simp [Addr.add]
  | 2, hj => simp at hj; subst hj; simp [Addr.add]
  | 3, hj => simp at hj; subst hj; simp [Addr.add]
  | 4, hj => simp at hj; subst hj; simp [Addr.add]
  | 5, hj => simp at hj; subst hj; simp [Addr.add]
  | (j + 6), hj => simp at hj
theorem rb_one (x : Rb) : ∀ u ∈ rbCells x, u.oneCell' = true := by
  intro u hu
  simp only [rbCells, sl3V, List.mem_cons, List.not_mem_nil, or_false] at hu
  rcases hu with rfl | rfl | rfl | rfl | rfl | rfl <;> rfl
/-- A block more, behind a document's own. -/
theorem docOwn_snoc {B E E' : Nat} {u3 u4 : World} {v v' : Value} {rbs : List Rb} {d : List Bl} {mid : Nat} {x : Rb} {y : Bl} {n : Nat} (h : DocOwn u3 B E v rbs d) (hn : n = d.length) (hx : BlOwn u3 E mid E' x y) (hB : B ≤ E) (hE : E ≤ E') (hE4 : E' ≤ u4.heap.size)
    (hown : u4.ownsRow B 49 6 v' (n + 1) (flat6 rbs ++ rbCells x)) (hgrow : u3.grownBy u4 v.ownBlock) : DocOwn u4 B u4.heap.size v' (rbs ++ [x]) (d ++ [y]) := by
  have hk : ∀ B E, Kept B E u3 u4 := fun B E => kept_grown (own_rowAts h.1) hgrow B E
  refine docOwn_of ?_ (fun g hg => (own_lt hown hg).2) (((h.bls.kept (hk _ _)).snoc hB (hx.kept (hk _ _)) hE).grow hE4)
  have hl := h.2.2.1
  rw [List.length_append, flat6_append, List.length_singleton, hl, ← hn]
  have e : flat6 [x] = rbCells x := by simp [flat6]
  rw [e]
  exact hown
set_option maxRecDepth 100000 in
set_option maxHeartbeats 8000000 in
theorem outlineDoc_any {a : Option Addr} {n cap : Nat} {d : List Bl} {w : World} (h : Outl w a n cap d) (hp : d.all partBB = true) (ho : outlB d = true) :
    Calls Try.prog 67 #[.slice a n cap] w fun e w' => (∃ p q rbs, e = .returned (.agg #[.slice p n q]) ∧ DocOwn w' w.heap.size w'.heap.size (.slice p n q) rbs d) ∧ Below w.heap.size w w' := by
  obtain ⟨i0, hi0, hz0, hz1, hz2⟩ := info_parts Try.info49
  have HN : Hid (n = d.length) := h.1
  have hc := h.2.1
  have hm := h.2.2.1
  unfold maxLen at hm
  have hn8 : n ≤ 8 := by
    have := ho
    unfold outlB at this
    rw [Bool.and_eq_true, decide_eq_true_eq] at this
    rw [h.1]
    exact this.1
  have H : Hid (Outl w a n cap d) := h
  have HP : Hid (d.all partBB = true) := hp
  have HOu : Hid (outlB d = true) := ho
  clear h hp ho
  go_enter Try.func67, Try.ntmps67
  go_upto_region 2 with fail
  have B0 : Below w.heap.size w ((w.alloc (.cells #[.slice none 0 0] 29)).alloc (.cells #[.slice none 0 0] 29)) := ((Below.refl _ _).alloc (Nat.le_refl _) _).alloc (by simp) _
  have G0 : RowAt ((w.alloc (.cells #[.slice none 0 0] 29)).alloc (.cells #[.slice none 0 0] 29)) w.heap.size #[.slice none 0 0] 29 := (rowAt_new w _ _).alloc _
  have G1 : RowAt ((w.alloc (.cells #[.slice none 0 0] 29)).alloc (.cells #[.slice none 0 0] 29)) (w.heap.size + 1) #[.slice none 0 0] 29 := by
    have := rowAt_new (w.alloc (.cells #[.slice none 0 0] 29)) #[.slice none 0 0] 29
    simpa using this
  generalize ((w.alloc (.cells #[.slice none 0 0] 29)).alloc (.cells #[.slice none 0 0] 29)) = v0 at B0 G0 G1 ⊢
  have l0 := G0.lt
  have l1 := G1.lt
  have s0 := B0.size
  have H0 : Hid (RowAt v0 w.heap.size #[.slice none 0 0] 29) := G0
  have H1 : Hid (RowAt v0 (w.heap.size + 1) #[.slice none 0 0] 29) := G1
  have HB0 : Hid (Below w.heap.size w v0) := B0
  clear G0 G1 B0
  go_wp2_with fail
  go_loopw [8, 5] (fun iv pv wr => ∃ (i : Nat) (da : Option Addr) (dc : Nat) (rbs : List Rb), i ≤ n ∧ iv = .int .i64 i ∧ RowAt wr w.heap.size #[.slice none 0 0] 29 ∧ RowAt wr (w.heap.size + 1) #[.slice da i dc] 29 ∧ DocOwn wr v0.heap.size wr.heap.size (.slice da i dc) rbs (d.take i) ∧ v0.heap.size ≤ wr.heap.size ∧ Below w.heap.size w wr) (fun iv _ _ => n - (intOf iv).toNat)
  case atStart => exact ⟨0, none, 0, [], Nat.zero_le _, rfl, H0.out, H1.out, DocOwn.nil _ _ _, Nat.le_refl _, HB0.out⟩
  case round =>
    obtain ⟨i, da, dc, rbs, hi, rfl, hG0, hG1, hD, hss, hB⟩ := hrel
    have HG0 : Hid (RowAt wr w.heap.size #[.slice none 0 0] 29) := hG0
    have HG1 : Hid (RowAt wr (w.heap.size + 1) #[.slice da i dc] 29) := hG1
    have HD : Hid (DocOwn wr v0.heap.size wr.heap.size (.slice da i dc) rbs (d.take i)) := hD
    have HB : Hid (Below w.heap.size w wr) := hB
    have lz0 := hG0.lt
    have lz1 := hG1.lt
    have hq1 := hD.dc.2.1
    have hq2 := hD.dc.2.2.1
    unfold maxLen at hq2
    clear hG0 hG1 hD
    by_cases hlt : i < n
    · have hil : i < d.length := by have := HN.out; omega
      have hib : (i : Int) < (n : Int) := by omega
      have hi0' : (0 : Int) ≤ (i : Int) := by omega
      have HTK : Hid (d.take (i + 1) = d.take i ++ [d.getD i bl0]) := by
        show d.take (i + 1) = d.take i ++ [d.getD i bl0]
        rw [List.take_succ_eq_append_getElem hil, getD_bl hil]
      have hil2 : i = (d.take i).length := by rw [List.length_take]; omega
      have hpb : partBB (d.getD i bl0) = true := by
        rw [getD_bl hil]
        exact List.all_eq_true.1 HP.out _ (List.getElem_mem hil)
      have hpo := part_small (outlB_part HOu.out hil)
      rcases (H.out.below hB).2.2.2 with e | ⟨b, off, rfl, hbl, hcl⟩
      · rw [e] at hil
        exact absurd hil (by simp)
      obtain ⟨ta, tn, tc, ca, cn, cc, hcell, ht, htb⟩ := hcl i hil
      obtain ⟨⟨K, V, t, R, C, l⟩, hx⟩ : ∃ x, x = d.getD i bl0 := ⟨_, rfl⟩
      rw [← hx] at hcell ht htb hpb hpo HTK
      simp only at hcell ht htb hpo
      clear hcl hx hB
      have HIL : Hid (i = (d.take i).length) := hil2
      clear hil2
      rcases partB_kind hpb with hK | hK | hK
      · subst hK
        obtain ⟨rfl, rfl, rfl, rfl⟩ := partBB_para hpb
        have htn : tn ≤ 24 := by rw [ht.1]; exact hpo.1 (.inl rfl)
        have HX : Hid (Txt wr ta tn tc t) := ht
        have c0 : wr.cell? ⟨b, off + i, none⟩ = some (.iface 111 (.agg #[.slice ta tn tc])) := hcell
        clear hcell ht htb hpb hpo
        go_upto_region 5 with fail
        clear c0
        refine wp_region_noPanic ?_
        refine wp_region_held_drew (S := fun w' => True) (by kernel_rfl) trivial (fun hHeld => ?_)
        have HG0d : Hid (RowAt wr.drew w.heap.size #[.slice none 0 0] 29) := HG0.out.drew
        have HG1d : Hid (RowAt wr.drew (w.heap.size + 1) #[.slice da i dc] 29) := HG1.out.drew
        have HDd : Hid (DocOwn wr.drew v0.heap.size wr.heap.size (.slice da i dc) rbs (d.take i)) := HD.out.below (Nat.le_refl _) (Below.refl _ _).drew
        have HBd : Hid (Below w.heap.size w wr.drew) := HB.out.drew
        have HXd : Hid (Txt wr.drew ta tn tc t) := HX.out.below (Below.refl _ _).drew
        have sd : wr.heap.size = wr.drew.heap.size := rfl
        rw [sd] at HDd hss lz0 lz1
        clear HG0 HD HB HX HG1
        generalize wr.drew = u1 at HG0d HG1d HDd HBd HXd sd hss lz0 lz1 ⊢
        refine take_at 0 12 (.pointer (some ⟨(w.heap.size + 1), 0, none⟩)) rfl rfl (by kernel_rfl) (by kernel_rfl) (by kernel_rfl) (fun _ _ _ h => h) (Or.inl ⟨by kernel_rfl, fun w' hS' => by go_simp⟩) hHeld ?_
        (try simp only [Act.put, List.setIfInBounds_toArray, List.set_cons_zero, List.set_cons_succ])
        refine take_at 2 14 (.iface 111 (.agg #[.slice ta tn tc])) rfl rfl (by kernel_rfl) (by kernel_rfl) (by kernel_rfl) (fun _ _ _ h => h) (Or.inl ⟨by kernel_rfl, fun w' hS' => by go_simp⟩) hHeld ?_
        (try simp only [Act.put, List.setIfInBounds_toArray, List.set_cons_zero, List.set_cons_succ])
        refine wpAnyH_ready (rs := [1, 3]) (by kernel_rfl) (by simp) ?_
        refine AllReadyH.cons rfl (fun K hK => ?_) (AllReadyH.cons rfl (fun K hK => ?_) AllReadyH.nil)
        · have d4 := RowAt.cell HG1d.out 0
          simp at d4
          go_simp
          refine hK.out _ _ trivial (fun hHeld => ?_)
          clear hK K d4
          (try simp only [Act.put, List.setIfInBounds_toArray, List.set_cons_zero, List.set_cons_succ])
          refine wpAnyH_ready (rs := [3]) (by kernel_rfl) (by simp) ?_
          refine AllReadyH.cons rfl (fun K hK => ?_) AllReadyH.nil
          go_simp
          change Calls Try.prog 133 #[.agg #[.slice ta tn tc]] _ _
          refine (paraBlock_any HXd.out (by omega)).mono ?_
          rintro e u2 ⟨⟨p, q, rfl, how⟩, hb2⟩
          have s2 := hb2.size
          have HG02 : Hid (RowAt u2 w.heap.size #[.slice none 0 0] 29) := HG0d.out.below hb2 lz0
          have HG12 : Hid (RowAt u2 (w.heap.size + 1) #[.slice da i dc] 29) := HG1d.out.below hb2 lz1
          have HD2 : Hid (DocOwn u2 v0.heap.size u1.heap.size (.slice da i dc) rbs (d.take i)) := HDd.out.below (Nat.le_refl _) hb2
          have HB2 : Hid (Below w.heap.size w u2) := HBd.out.trans (hb2.mono (by omega))
          have HW2 : Hid (BlOwn u2 u1.heap.size u2.heap.size u2.heap.size (1, 0, (p, tn, q), 0, 0, (none, 0, 0)) (1, 0, t, 0, 0, [])) := how
          go_wp2_with fail
          refine hK.out _ _ trivial (fun hHeld => ?_)
          clear hK K how hb2 HG0d HG1d HDd HBd HXd
          (try simp only [Act.put, List.setIfInBounds_toArray, List.set_cons_zero, List.set_cons_succ])
          refine wpAnyH_ready (rs := [4]) (by kernel_rfl) (by simp) ?_
          refine AllReadyH.cons rfl (fun K hK => ?_) AllReadyH.nil
          go_simp
          have A3 : Below u2.heap.size u2 (u2.alloc (.cells #[.int .i64 1, .int .i64 0, .slice p tn q, .int .i64 0, .int .i64 0, .slice none 0 0] 49)) := (Below.refl _ _).alloc (Nat.le_refl _) _
          have HN3 : Hid (∀ j u, [.int .i64 1, .int .i64 0, .slice p tn q, .int .i64 0, .int .i64 0, .slice none 0 0][j]? = some u → (u2.alloc (.cells #[.int .i64 1, .int .i64 0, .slice p tn q, .int .i64 0, .int .i64 0, .slice none 0 0] 49)).cell? ((⟨u2.heap.size, 0, none⟩ : Addr).add j) = some u) := cells6_new _ _ _ _ _ _ _ _
          have HG03 : Hid (RowAt (u2.alloc (.cells #[.int .i64 1, .int .i64 0, .slice p tn q, .int .i64 0, .int .i64 0, .slice none 0 0] 49)) w.heap.size #[.slice none 0 0] 29) := HG02.out.alloc _
          have HG13 : Hid (RowAt (u2.alloc (.cells #[.int .i64 1, .int .i64 0, .slice p tn q, .int .i64 0, .int .i64 0, .slice none 0 0] 49)) (w.heap.size + 1) #[.slice da i dc] 29) := HG12.out.alloc _
          have HD3 : Hid (DocOwn (u2.alloc (.cells #[.int .i64 1, .int .i64 0, .slice p tn q, .int .i64 0, .int .i64 0, .slice none 0 0] 49)) v0.heap.size u1.heap.size (.slice da i dc) rbs (d.take i)) := HD2.out.mid (fun b _ hb' => A3.block b (by omega))
          have HB3 : Hid (Below w.heap.size w (u2.alloc (.cells #[.int .i64 1, .int .i64 0, .slice p tn q, .int .i64 0, .int .i64 0, .slice none 0 0] 49))) := HB2.out.alloc (by omega) _
          have HW3 : Hid (BlOwn (u2.alloc (.cells #[.int .i64 1, .int .i64 0, .slice p tn q, .int .i64 0, .int .i64 0, .slice none 0 0] 49)) u1.heap.size u2.heap.size u2.heap.size (1, 0, (p, tn, q), 0, 0, (none, 0, 0)) (1, 0, t, 0, 0, [])) := HW2.out.mid (fun b _ hb' => A3.block b hb')
          have s3 : (u2.alloc (.cells #[.int .i64 1, .int .i64 0, .slice p tn q, .int .i64 0, .int .i64 0, .slice none 0 0] 49)).heap.size = u2.heap.size + 1 := by simp
          refine hK.out _ _ trivial (fun hHeld => ?_)
          clear hK K A3 HG02 HG12 HD2 HB2 HW2
          (try simp only [Act.put, List.setIfInBounds_toArray, List.set_cons_zero, List.set_cons_succ])
          generalize (u2.alloc (.cells #[.int .i64 1, .int .i64 0, .slice p tn q, .int .i64 0, .int .i64 0, .slice none 0 0] 49)) = u3 at HN3 HG03 HG13 HD3 HB3 HW3 s3 ⊢
          refine wpAnyH_ready (rs := [5]) (by kernel_rfl) (by simp) ?_
          refine AllReadyH.cons rfl (fun K hK => ?_) AllReadyH.nil
          rw [if_pos (by kernel_rfl)]
          have HDl : Hid (rbs.length = i) := by
            have e1 := HD3.out.2.2.1
            have e2 := HIL.out
            show rbs.length = i
            omega
          have hrw : u3.ownsRow v0.heap.size 49 6 (.slice da i dc) i (flat6 rbs) := by
            have h1 := HD3.out.1
            rw [HDl.out] at h1
            exact h1
          refine wp_append_own u3 (.tmp 13) (.tmp 16) 27 rfl v0.heap.size 49 i0 _ 6 80 Try.underlying27 hi0 hz0 hz1 hz2 rfl (by decide) (.slice da i dc) i (flat6 rbs) rfl hrw ⟨u2.heap.size, 0, none⟩ 1 1 [.int .i64 1, .int .i64 0, .slice p tn q, .int .i64 0, .int .i64 0, .slice none 0 0] rfl rfl HN3.out (rb_one (1, 0, (p, tn, q), 0, 0, (none, 0, 0))) (by unfold maxLen; omega) (by omega) (by omega) ?_
          intro v' u4 hown hgrow _
          have s4 := hgrow.size
          have HD4 : Hid (DocOwn u4 v0.heap.size u4.heap.size v' (rbs ++ [(1, 0, (p, tn, q), 0, 0, (none, 0, 0))]) (d.take i ++ [(1, 0, t, 0, 0, [])])) := docOwn_snoc HD3.out HIL.out HW3.out (by omega) s2 (by omega) hown hgrow
          have hne : ∀ g, (Value.slice da i dc).ownBlock = some g → v0.heap.size ≤ g := fun g hg => (own_lt hrw hg).1
          have HG04 : Hid (RowAt u4 w.heap.size #[.slice none 0 0] 29) := HG03.out.grown hgrow (fun e => by have := hne _ e; omega)
          have HG14 : Hid (RowAt u4 (w.heap.size + 1) #[.slice da i dc] 29) := HG13.out.grown hgrow (fun e => by have := hne _ e; omega)
          have HB4 : Hid (Below w.heap.size w u4) := HB3.out.grown hgrow (by omega) (fun k hk => by have := hne _ hk; omega)
          obtain ⟨da', dc', rfl⟩ : ∃ a c, v' = .slice a (i + 1) c := by
            obtain ⟨a1, c1, e1⟩ := HD4.out.shape
            refine ⟨a1, c1, ?_⟩
            rw [e1, List.length_append, ← HIL.out]
            rfl
          refine hK.out _ _ trivial (fun hHeld => ?_)
          clear hK K hown hgrow hrw hne HN3 HG03 HG13 HD3 HB3 HW3
          (try simp only [Act.put, List.setIfInBounds_toArray])
          refine take_at 6 18 (.pointer (some ⟨w.heap.size + 1, 0, none⟩)) rfl rfl (by kernel_rfl) (by kernel_rfl) (by kernel_rfl) (fun _ _ _ h => h) (Or.inl ⟨by kernel_rfl, fun w' hS' => by go_simp⟩) hHeld ?_
          (try simp only [Act.put])
          refine wpAnyH_ready (rs := [7]) (by kernel_rfl) (by simp) ?_
          refine AllReadyH.cons rfl (fun K hK => ?_) AllReadyH.nil
          have f4 := RowAt.frozen HG14.out 0
          have d4 := RowAt.cell HG14.out 0
          simp at d4
          rw [if_pos (by kernel_rfl)]
          go_simp
          refine hK.out _ _ trivial (fun hHeld => ?_)
          clear hK K f4 d4
          (try simp only [Act.put])
          refine wpAnyH_done (by kernel_rfl) ?_ _
          refine NoPanic.normal ?_
          clear hHeld
          go_wp2_with fail
          go_roundw
          case rel =>
            refine ⟨i + 1, da', dc', rbs ++ [(1, 0, (p, tn, q), 0, 0, (none, 0, 0))], by omega, by go_num, HG04.out.other _ _ (by simp), HG14.out.setCell 0 _, ?_, by simp; omega, HB4.out.setCell (by show _ ≤ w.heap.size + 1; omega) _⟩
            rw [HTK.out]
            refine (HD4.out.mid (fun b hb hb' => Go.Deep.blk_setCell_other _ _ _ _ (by simp; omega))).less (Nat.le_refl _) (by simp)
          case measure => simp [intOf]; omega
        · go_simp
          change Calls Try.prog 133 #[.agg #[.slice ta tn tc]] _ _
          refine (paraBlock_any HXd.out (by omega)).mono ?_
          rintro e u2 ⟨⟨p, q, rfl, how⟩, hb2⟩
          have s2 := hb2.size
          have HG02 : Hid (RowAt u2 w.heap.size #[.slice none 0 0] 29) := HG0d.out.below hb2 lz0
          have HG12 : Hid (RowAt u2 (w.heap.size + 1) #[.slice da i dc] 29) := HG1d.out.below hb2 lz1
          have HD2 : Hid (DocOwn u2 v0.heap.size u1.heap.size (.slice da i dc) rbs (d.take i)) := HDd.out.below (Nat.le_refl _) hb2
          have HB2 : Hid (Below w.heap.size w u2) := HBd.out.trans (hb2.mono (by omega))
          have HW2 : Hid (BlOwn u2 u1.heap.size u2.heap.size u2.heap.size (1, 0, (p, tn, q), 0, 0, (none, 0, 0)) (1, 0, t, 0, 0, [])) := how
          go_wp2_with fail
          refine hK.out _ _ trivial (fun hHeld => ?_)
          clear hK K how hb2 HG0d HG1d HDd HBd HXd
          (try simp only [Act.put, List.setIfInBounds_toArray, List.set_cons_zero, List.set_cons_succ])
          refine wpAnyH_ready (rs := [1, 4]) (by kernel_rfl) (by simp) ?_
          refine AllReadyH.cons rfl (fun K hK => ?_) (AllReadyH.cons rfl (fun K hK => ?_) AllReadyH.nil)
          · have d4 := RowAt.cell HG12.out 0
            simp at d4
            go_simp
            refine hK.out _ _ trivial (fun hHeld => ?_)
            clear hK K d4
            (try simp only [Act.put, List.setIfInBounds_toArray, List.set_cons_zero, List.set_cons_succ])
            refine wpAnyH_ready (rs := [4]) (by kernel_rfl) (by simp) ?_
            refine AllReadyH.cons rfl (fun K hK => ?_) AllReadyH.nil
            go_simp
            have A3 : Below u2.heap.size u2 (u2.alloc (.cells #[.int .i64 1, .int .i64 0, .slice p tn q, .int .i64 0, .int .i64 0, .slice none 0 0] 49)) := (Below.refl _ _).alloc (Nat.le_refl _) _
            have HN3 : Hid (∀ j u, [.int .i64 1, .int .i64 0, .slice p tn q, .int .i64 0, .int .i64 0, .slice none 0 0][j]? = some u → (u2.alloc (.cells #[.int .i64 1, .int .i64 0, .slice p tn q, .int .i64 0, .int .i64 0, .slice none 0 0] 49)).cell? ((⟨u2.heap.size, 0, none⟩ : Addr).add j) = some u) := cells6_new _ _ _ _ _ _ _ _
            have HG03 : Hid (RowAt (u2.alloc (.cells #[.int .i64 1, .int .i64 0, .slice p tn q, .int .i64 0, .int .i64 0, .slice none 0 0] 49)) w.heap.size #[.slice none 0 0] 29) := HG02.out.alloc _
            have HG13 : Hid (RowAt (u2.alloc (.cells #[.int .i64 1, .int .i64 0, .slice p tn q, .int .i64 0, .int .i64 0, .slice none 0 0] 49)) (w.heap.size + 1) #[.slice da i dc] 29) := HG12.out.alloc _
            have HD3 : Hid (DocOwn (u2.alloc (.cells #[.int .i64 1, .int .i64 0, .slice p tn q, .int .i64 0, .int .i64 0, .slice none 0 0] 49)) v0.heap.size u1.heap.size (.slice da i dc) rbs (d.take i)) := HD2.out.mid (fun b _ hb' => A3.block b (by omega))
            have HB3 : Hid (Below w.heap.size w (u2.alloc (.cells #[.int .i64 1, .int .i64 0, .slice p tn q, .int .i64 0, .int .i64 0, .slice none 0 0] 49))) := HB2.out.alloc (by omega) _
            have HW3 : Hid (BlOwn (u2.alloc (.cells #[.int .i64 1, .int .i64 0, .slice p tn q, .int .i64 0, .int .i64 0, .slice none 0 0] 49)) u1.heap.size u2.heap.size u2.heap.size (1, 0, (p, tn, q), 0, 0, (none, 0, 0)) (1, 0, t, 0, 0, [])) := HW2.out.mid (fun b _ hb' => A3.block b hb')
            have s3 : (u2.alloc (.cells #[.int .i64 1, .int .i64 0, .slice p tn q, .int .i64 0, .int .i64 0, .slice none 0 0] 49)).heap.size = u2.heap.size + 1 := by simp
            refine hK.out _ _ trivial (fun hHeld => ?_)
            clear hK K A3 HG02 HG12 HD2 HB2 HW2
            (try simp only [Act.put, List.setIfInBounds_toArray, List.set_cons_zero, List.set_cons_succ])
            generalize (u2.alloc (.cells #[.int .i64 1, .int .i64 0, .slice p tn q, .int .i64 0, .int .i64 0, .slice none 0 0] 49)) = u3 at HN3 HG03 HG13 HD3 HB3 HW3 s3 ⊢
            refine wpAnyH_ready (rs := [5]) (by kernel_rfl) (by simp) ?_
            refine AllReadyH.cons rfl (fun K hK => ?_) AllReadyH.nil
            rw [if_pos (by kernel_rfl)]
            have HDl : Hid (rbs.length = i) := by
              have e1 := HD3.out.2.2.1
              have e2 := HIL.out
              show rbs.length = i
              omega
            have hrw : u3.ownsRow v0.heap.size 49 6 (.slice da i dc) i (flat6 rbs) := by
              have h1 := HD3.out.1
              rw [HDl.out] at h1
              exact h1
            refine wp_append_own u3 (.tmp 13) (.tmp 16) 27 rfl v0.heap.size 49 i0 _ 6 80 Try.underlying27 hi0 hz0 hz1 hz2 rfl (by decide) (.slice da i dc) i (flat6 rbs) rfl hrw ⟨u2.heap.size, 0, none⟩ 1 1 [.int .i64 1, .int .i64 0, .slice p tn q, .int .i64 0, .int .i64 0, .slice none 0 0] rfl rfl HN3.out (rb_one (1, 0, (p, tn, q), 0, 0, (none, 0, 0))) (by unfold maxLen; omega) (by omega) (by omega) ?_
            intro v' u4 hown hgrow _
            have s4 := hgrow.size
            have HD4 : Hid (DocOwn u4 v0.heap.size u4.heap.size v' (rbs ++ [(1, 0, (p, tn, q), 0, 0, (none, 0, 0))]) (d.take i ++ [(1, 0, t, 0, 0, [])])) := docOwn_snoc HD3.out HIL.out HW3.out (by omega) s2 (by omega) hown hgrow
            have hne : ∀ g, (Value.slice da i dc).ownBlock = some g → v0.heap.size ≤ g := fun g hg => (own_lt hrw hg).1
            have HG04 : Hid (RowAt u4 w.heap.size #[.slice none 0 0] 29) := HG03.out.grown hgrow (fun e => by have := hne _ e; omega)
            have HG14 : Hid (RowAt u4 (w.heap.size + 1) #[.slice da i dc] 29) := HG13.out.grown hgrow (fun e => by have := hne _ e; omega)
            have HB4 : Hid (Below w.heap.size w u4) := HB3.out.grown hgrow (by omega) (fun k hk => by have := hne _ hk; omega)
            obtain ⟨da', dc', rfl⟩ : ∃ a c, v' = .slice a (i + 1) c := by
              obtain ⟨a1, c1, e1⟩ := HD4.out.shape
              refine ⟨a1, c1, ?_⟩
              rw [e1, List.length_append, ← HIL.out]
              rfl
            refine hK.out _ _ trivial (fun hHeld => ?_)
            clear hK K hown hgrow hrw hne HN3 HG03 HG13 HD3 HB3 HW3
            (try simp only [Act.put, List.setIfInBounds_toArray])
            refine take_at 6 18 (.pointer (some ⟨w.heap.size + 1, 0, none⟩)) rfl rfl (by kernel_rfl) (by kernel_rfl) (by kernel_rfl) (fun _ _ _ h => h) (Or.inl ⟨by kernel_rfl, fun w' hS' => by go_simp⟩) hHeld ?_
            (try simp only [Act.put])
            refine wpAnyH_ready (rs := [7]) (by kernel_rfl) (by simp) ?_
            refine AllReadyH.cons rfl (fun K hK => ?_) AllReadyH.nil
            have f4 := RowAt.frozen HG14.out 0
            have d4 := RowAt.cell HG14.out 0
            simp at d4
            rw [if_pos (by kernel_rfl)]
            go_simp
            refine hK.out _ _ trivial (fun hHeld => ?_)
            clear hK K f4 d4
            (try simp only [Act.put])
            refine wpAnyH_done (by kernel_rfl) ?_ _
            refine NoPanic.normal ?_
            clear hHeld
            go_wp2_with fail
            go_roundw
            case rel =>
              refine ⟨i + 1, da', dc', rbs ++ [(1, 0, (p, tn, q), 0, 0, (none, 0, 0))], by omega, by go_num, HG04.out.other _ _ (by simp), HG14.out.setCell 0 _, ?_, by simp; omega, HB4.out.setCell (by show _ ≤ w.heap.size + 1; omega) _⟩
              rw [HTK.out]
              refine (HD4.out.mid (fun b hb hb' => Go.Deep.blk_setCell_other _ _ _ _ (by simp; omega))).less (Nat.le_refl _) (by simp)
            case measure => simp [intOf]; omega
          · go_simp
            have A3 : Below u2.heap.size u2 (u2.alloc (.cells #[.int .i64 1, .int .i64 0, .slice p tn q, .int .i64 0, .int .i64 0, .slice none 0 0] 49)) := (Below.refl _ _).alloc (Nat.le_refl _) _
            have HN3 : Hid (∀ j u, [.int .i64 1, .int .i64 0, .slice p tn q, .int .i64 0, .int .i64 0, .slice none 0 0][j]? = some u → (u2.alloc (.cells #[.int .i64 1, .int .i64 0, .slice p tn q, .int .i64 0, .int .i64 0, .slice none 0 0] 49)).cell? ((⟨u2.heap.size, 0, none⟩ : Addr).add j) = some u) := cells6_new _ _ _ _ _ _ _ _
            have HG03 : Hid (RowAt (u2.alloc (.cells #[.int .i64 1, .int .i64 0, .slice p tn q, .int .i64 0, .int .i64 0, .slice none 0 0] 49)) w.heap.size #[.slice none 0 0] 29) := HG02.out.alloc _
            have HG13 : Hid (RowAt (u2.alloc (.cells #[.int .i64 1, .int .i64 0, .slice p tn q, .int .i64 0, .int .i64 0, .slice none 0 0] 49)) (w.heap.size + 1) #[.slice da i dc] 29) := HG12.out.alloc _
            have HD3 : Hid (DocOwn (u2.alloc (.cells #[.int .i64 1, .int .i64 0, .slice p tn q, .int .i64 0, .int .i64 0, .slice none 0 0] 49)) v0.heap.size u1.heap.size (.slice da i dc) rbs (d.take i)) := HD2.out.mid (fun b _ hb' => A3.block b (by omega))
            have HB3 : Hid (Below w.heap.size w (u2.alloc (.cells #[.int .i64 1, .int .i64 0, .slice p tn q, .int .i64 0, .int .i64 0, .slice none 0 0] 49))) := HB2.out.alloc (by omega) _
            have HW3 : Hid (BlOwn (u2.alloc (.cells #[.int .i64 1, .int .i64 0, .slice p tn q, .int .i64 0, .int .i64 0, .slice none 0 0] 49)) u1.heap.size u2.heap.size u2.heap.size (1, 0, (p, tn, q), 0, 0, (none, 0, 0)) (1, 0, t, 0, 0, [])) := HW2.out.mid (fun b _ hb' => A3.block b hb')
            have s3 : (u2.alloc (.cells #[.int .i64 1, .int .i64 0, .slice p tn q, .int .i64 0, .int .i64 0, .slice none 0 0] 49)).heap.size = u2.heap.size + 1 := by simp
            refine hK.out _ _ trivial (fun hHeld => ?_)
            clear hK K A3 HG02 HG12 HD2 HB2 HW2
            (try simp only [Act.put, List.setIfInBounds_toArray, List.set_cons_zero, List.set_cons_succ])
            generalize (u2.alloc (.cells #[.int .i64 1, .int .i64 0, .slice p tn q, .int .i64 0, .int .i64 0, .slice none 0 0] 49)) = u3 at HN3 HG03 HG13 HD3 HB3 HW3 s3 ⊢
            refine wpAnyH_ready (rs := [1]) (by kernel_rfl) (by simp) ?_
            refine AllReadyH.cons rfl (fun K hK => ?_) AllReadyH.nil
            have d4 := RowAt.cell HG13.out 0
            simp at d4
            go_simp
            refine hK.out _ _ trivial (fun hHeld => ?_)
            clear hK K d4
            (try simp only [Act.put, List.setIfInBounds_toArray, List.set_cons_zero, List.set_cons_succ])
            refine wpAnyH_ready (rs := [5]) (by kernel_rfl) (by simp) ?_
            refine AllReadyH.cons rfl (fun K hK => ?_) AllReadyH.nil
            rw [if_pos (by kernel_rfl)]
            have HDl : Hid (rbs.length = i) := by
              have e1 := HD3.out.2.2.1
              have e2 := HIL.out
              show rbs.length = i
              omega
            have hrw : u3.ownsRow v0.heap.size 49 6 (.slice da i dc) i (flat6 rbs) := by
              have h1 := HD3.out.1
              rw [HDl.out] at h1
              exact h1
            refine wp_append_own u3 (.tmp 13) (.tmp 16) 27 rfl v0.heap.size 49 i0 _ 6 80 Try.underlying27 hi0 hz0 hz1 hz2 rfl (by decide) (.slice da i dc) i (flat6 rbs) rfl hrw ⟨u2.heap.size, 0, none⟩ 1 1 [.int .i64 1, .int .i64 0, .slice p tn q, .int .i64 0, .int .i64 0, .slice none 0 0] rfl rfl HN3.out (rb_one (1, 0, (p, tn, q), 0, 0, (none, 0, 0))) (by unfold maxLen; omega) (by omega) (by omega) ?_
            intro v' u4 hown hgrow _
            have s4 := hgrow.size
            have HD4 : Hid (DocOwn u4 v0.heap.size u4.heap.size v' (rbs ++ [(1, 0, (p, tn, q), 0, 0, (none, 0, 0))]) (d.take i ++ [(1, 0, t, 0, 0, [])])) := docOwn_snoc HD3.out HIL.out HW3.out (by omega) s2 (by omega) hown hgrow
            have hne : ∀ g, (Value.slice da i dc).ownBlock = some g → v0.heap.size ≤ g := fun g hg => (own_lt hrw hg).1
            have HG04 : Hid (RowAt u4 w.heap.size #[.slice none 0 0] 29) := HG03.out.grown hgrow (fun e => by have := hne _ e; omega)
            have HG14 : Hid (RowAt u4 (w.heap.size + 1) #[.slice da i dc] 29) := HG13.out.grown hgrow (fun e => by have := hne _ e; omega)
            have HB4 : Hid (Below w.heap.size w u4) := HB3.out.grown hgrow (by omega) (fun k hk => by have := hne _ hk; omega)
            obtain ⟨da', dc', rfl⟩ : ∃ a c, v' = .slice a (i + 1) c := by
              obtain ⟨a1, c1, e1⟩ := HD4.out.shape
              refine ⟨a1, c1, ?_⟩
              rw [e1, List.length_append, ← HIL.out]
              rfl
            refine hK.out _ _ trivial (fun hHeld => ?_)
            clear hK K hown hgrow hrw hne HN3 HG03 HG13 HD3 HB3 HW3
            (try simp only [Act.put, List.setIfInBounds_toArray])
            refine take_at 6 18 (.pointer (some ⟨w.heap.size + 1, 0, none⟩)) rfl rfl (by kernel_rfl) (by kernel_rfl) (by kernel_rfl) (fun _ _ _ h => h) (Or.inl ⟨by kernel_rfl, fun w' hS' => by go_simp⟩) hHeld ?_
            (try simp only [Act.put])
            refine wpAnyH_ready (rs := [7]) (by kernel_rfl) (by simp) ?_
            refine AllReadyH.cons rfl (fun K hK => ?_) AllReadyH.nil
            have f4 := RowAt.frozen HG14.out 0
            have d4 := RowAt.cell HG14.out 0
            simp at d4
            rw [if_pos (by kernel_rfl)]
            go_simp
            refine hK.out _ _ trivial (fun hHeld => ?_)
            clear hK K f4 d4
            (try simp only [Act.put])
            refine wpAnyH_done (by kernel_rfl) ?_ _
            refine NoPanic.normal ?_
            clear hHeld
            go_wp2_with fail
            go_roundw
            case rel =>
              refine ⟨i + 1, da', dc', rbs ++ [(1, 0, (p, tn, q), 0, 0, (none, 0, 0))], by omega, by go_num, HG04.out.other _ _ (by simp), HG14.out.setCell 0 _, ?_, by simp; omega, HB4.out.setCell (by show _ ≤ w.heap.size + 1; omega) _⟩
              rw [HTK.out]
              refine (HD4.out.mid (fun b hb hb' => Go.Deep.blk_setCell_other _ _ _ _ (by simp; omega))).less (Nat.le_refl _) (by simp)
            case measure => simp [intOf]; omega
      · subst hK
        obtain ⟨rfl, rfl, rfl⟩ := partBB_item hpb
        have htn : tn ≤ 24 := by rw [ht.1]; exact hpo.1 (.inr rfl)
        have HX : Hid (Txt wr ta tn tc t) := ht
        have c0 : wr.cell? ⟨b, off + i, none⟩ = some (.iface 103 (.agg #[.int .i64 V, .slice ta tn tc])) := hcell
        clear hcell ht htb hpb hpo
        go_upto_region 5 with fail
        clear c0
        refine wp_region_noPanic ?_
        refine wp_region_held_drew (S := fun w' => True) (by kernel_rfl) trivial (fun hHeld => ?_)
        have HG0d : Hid (RowAt wr.drew w.heap.size #[.slice none 0 0] 29) := HG0.out.drew
        have HG1d : Hid (RowAt wr.drew (w.heap.size + 1) #[.slice da i dc] 29) := HG1.out.drew
        have HDd : Hid (DocOwn wr.drew v0.heap.size wr.heap.size (.slice da i dc) rbs (d.take i)) := HD.out.below (Nat.le_refl _) (Below.refl _ _).drew
        have HBd : Hid (Below w.heap.size w wr.drew) := HB.out.drew
        have HXd : Hid (Txt wr.drew ta tn tc t) := HX.out.below (Below.refl _ _).drew
        have sd : wr.heap.size = wr.drew.heap.size := rfl
        rw [sd] at HDd hss lz0 lz1
        clear HG0 HD HB HX HG1
        generalize wr.drew = u1 at HG0d HG1d HDd HBd HXd sd hss lz0 lz1 ⊢
        refine take_at 0 12 (.pointer (some ⟨(w.heap.size + 1), 0, none⟩)) rfl rfl (by kernel_rfl) (by kernel_rfl) (by kernel_rfl) (fun _ _ _ h => h) (Or.inl ⟨by kernel_rfl, fun w' hS' => by go_simp⟩) hHeld ?_
        (try simp only [Act.put, List.setIfInBounds_toArray, List.set_cons_zero, List.set_cons_succ])
        refine take_at 2 14 (.iface 103 (.agg #[.int .i64 V, .slice ta tn tc])) rfl rfl (by kernel_rfl) (by kernel_rfl) (by kernel_rfl) (fun _ _ _ h => h) (Or.inl ⟨by kernel_rfl, fun w' hS' => by go_simp⟩) hHeld ?_
        (try simp only [Act.put, List.setIfInBounds_toArray, List.set_cons_zero, List.set_cons_succ])
        refine wpAnyH_ready (rs := [1, 3]) (by kernel_rfl) (by simp) ?_
        refine AllReadyH.cons rfl (fun K hK => ?_) (AllReadyH.cons rfl (fun K hK => ?_) AllReadyH.nil)
        · have d4 := RowAt.cell HG1d.out 0
          simp at d4
          go_simp
          refine hK.out _ _ trivial (fun hHeld => ?_)
          clear hK K d4
          (try simp only [Act.put, List.setIfInBounds_toArray, List.set_cons_zero, List.set_cons_succ])
          refine wpAnyH_ready (rs := [3]) (by kernel_rfl) (by simp) ?_
          refine AllReadyH.cons rfl (fun K hK => ?_) AllReadyH.nil
          go_simp
          change Calls Try.prog 107 #[.agg #[.int .i64 V, .slice ta tn tc]] _ _
          refine (itemBlock_any HXd.out (by omega)).mono ?_
          rintro e u2 ⟨⟨p, q, rfl, how⟩, hb2⟩
          have s2 := hb2.size
          have HG02 : Hid (RowAt u2 w.heap.size #[.slice none 0 0] 29) := HG0d.out.below hb2 lz0
          have HG12 : Hid (RowAt u2 (w.heap.size + 1) #[.slice da i dc] 29) := HG1d.out.below hb2 lz1
          have HD2 : Hid (DocOwn u2 v0.heap.size u1.heap.size (.slice da i dc) rbs (d.take i)) := HDd.out.below (Nat.le_refl _) hb2
          have HB2 : Hid (Below w.heap.size w u2) := HBd.out.trans (hb2.mono (by omega))
          have HW2 : Hid (BlOwn u2 u1.heap.size u2.heap.size u2.heap.size (2, V, (p, tn, q), 0, 0, (none, 0, 0)) (2, V, t, 0, 0, [])) := how
          go_wp2_with fail
          refine hK.out _ _ trivial (fun hHeld => ?_)
          clear hK K how hb2 HG0d HG1d HDd HBd HXd
          (try simp only [Act.put, List.setIfInBounds_toArray, List.set_cons_zero, List.set_cons_succ])
          refine wpAnyH_ready (rs := [4]) (by kernel_rfl) (by simp) ?_
          refine AllReadyH.cons rfl (fun K hK => ?_) AllReadyH.nil
          go_simp
          have A3 : Below u2.heap.size u2 (u2.alloc (.cells #[.int .i64 2, .int .i64 V, .slice p tn q, .int .i64 0, .int .i64 0, .slice none 0 0] 49)) := (Below.refl _ _).alloc (Nat.le_refl _) _
          have HN3 : Hid (∀ j u, [.int .i64 2, .int .i64 V, .slice p tn q, .int .i64 0, .int .i64 0, .slice none 0 0][j]? = some u → (u2.alloc (.cells #[.int .i64 2, .int .i64 V, .slice p tn q, .int .i64 0, .int .i64 0, .slice none 0 0] 49)).cell? ((⟨u2.heap.size, 0, none⟩ : Addr).add j) = some u) := cells6_new _ _ _ _ _ _ _ _
          have HG03 : Hid (RowAt (u2.alloc (.cells #[.int .i64 2, .int .i64 V, .slice p tn q, .int .i64 0, .int .i64 0, .slice none 0 0] 49)) w.heap.size #[.slice none 0 0] 29) := HG02.out.alloc _
          have HG13 : Hid (RowAt (u2.alloc (.cells #[.int .i64 2, .int .i64 V, .slice p tn q, .int .i64 0, .int .i64 0, .slice none 0 0] 49)) (w.heap.size + 1) #[.slice da i dc] 29) := HG12.out.alloc _
          have HD3 : Hid (DocOwn (u2.alloc (.cells #[.int .i64 2, .int .i64 V, .slice p tn q, .int .i64 0, .int .i64 0, .slice none 0 0] 49)) v0.heap.size u1.heap.size (.slice da i dc) rbs (d.take i)) := HD2.out.mid (fun b _ hb' => A3.block b (by omega))
          have HB3 : Hid (Below w.heap.size w (u2.alloc (.cells #[.int .i64 2, .int .i64 V, .slice p tn q, .int .i64 0, .int .i64 0, .slice none 0 0] 49))) := HB2.out.alloc (by omega) _
          have HW3 : Hid (BlOwn (u2.alloc (.cells #[.int .i64 2, .int .i64 V, .slice p tn q, .int .i64 0, .int .i64 0, .slice none 0 0] 49)) u1.heap.size u2.heap.size u2.heap.size (2, V, (p, tn, q), 0, 0, (none, 0, 0)) (2, V, t, 0, 0, [])) := HW2.out.mid (fun b _ hb' => A3.block b hb')
          have s3 : (u2.alloc (.cells #[.int .i64 2, .int .i64 V, .slice p tn q, .int .i64 0, .int .i64 0, .slice none 0 0] 49)).heap.size = u2.heap.size + 1 := by simp
          refine hK.out _ _ trivial (fun hHeld => ?_)
          clear hK K A3 HG02 HG12 HD2 HB2 HW2
          (try simp only [Act.put, List.setIfInBounds_toArray, List.set_cons_zero, List.set_cons_succ])
          generalize (u2.alloc (.cells #[.int .i64 2, .int .i64 V, .slice p tn q, .int .i64 0, .int .i64 0, .slice none 0 0] 49)) = u3 at HN3 HG03 HG13 HD3 HB3 HW3 s3 ⊢
          refine wpAnyH_ready (rs := [5]) (by kernel_rfl) (by simp) ?_
          refine AllReadyH.cons rfl (fun K hK => ?_) AllReadyH.nil
          rw [if_pos (by kernel_rfl)]
          have HDl : Hid (rbs.length = i) := by
            have e1 := HD3.out.2.2.1
            have e2 := HIL.out
            show rbs.length = i
            omega
          have hrw : u3.ownsRow v0.heap.size 49 6 (.slice da i dc) i (flat6 rbs) := by
            have h1 := HD3.out.1
            rw [HDl.out] at h1
            exact h1
          refine wp_append_own u3 (.tmp 13) (.tmp 16) 27 rfl v0.heap.size 49 i0 _ 6 80 Try.underlying27 hi0 hz0 hz1 hz2 rfl (by decide) (.slice da i dc) i (flat6 rbs) rfl hrw ⟨u2.heap.size, 0, none⟩ 1 1 [.int .i64 2, .int .i64 V, .slice p tn q, .int .i64 0, .int .i64 0, .slice none 0 0] rfl rfl HN3.out (rb_one (2, V, (p, tn, q), 0, 0, (none, 0, 0))) (by unfold maxLen; omega) (by omega) (by omega) ?_
          intro v' u4 hown hgrow _
          have s4 := hgrow.size
          have HD4 : Hid (DocOwn u4 v0.heap.size u4.heap.size v' (rbs ++ [(2, V, (p, tn, q), 0, 0, (none, 0, 0))]) (d.take i ++ [(2, V, t, 0, 0, [])])) := docOwn_snoc HD3.out HIL.out HW3.out (by omega) s2 (by omega) hown hgrow
          have hne : ∀ g, (Value.slice da i dc).ownBlock = some g → v0.heap.size ≤ g := fun g hg => (own_lt hrw hg).1
          have HG04 : Hid (RowAt u4 w.heap.size #[.slice none 0 0] 29) := HG03.out.grown hgrow (fun e => by have := hne _ e; omega)
          have HG14 : Hid (RowAt u4 (w.heap.size + 1) #[.slice da i dc] 29) := HG13.out.grown hgrow (fun e => by have := hne _ e; omega)
          have HB4 : Hid (Below w.heap.size w u4) := HB3.out.grown hgrow (by omega) (fun k hk => by have := hne _ hk; omega)
          obtain ⟨da', dc', rfl⟩ : ∃ a c, v' = .slice a (i + 1) c := by
            obtain ⟨a1, c1, e1⟩ := HD4.out.shape
            refine ⟨a1, c1, ?_⟩
            rw [e1, List.length_append, ← HIL.out]
            rfl
          refine hK.out _ _ trivial (fun hHeld => ?_)
          clear hK K hown hgrow hrw hne HN3 HG03 HG13 HD3 HB3 HW3
          (try simp only [Act.put, List.setIfInBounds_toArray])
          refine take_at 6 18 (.pointer (some ⟨w.heap.size + 1, 0, none⟩)) rfl rfl (by kernel_rfl) (by kernel_rfl) (by kernel_rfl) (fun _ _ _ h => h) (Or.inl ⟨by kernel_rfl, fun w' hS' => by go_simp⟩) hHeld ?_
          (try simp only [Act.put])
          refine wpAnyH_ready (rs := [7]) (by kernel_rfl) (by simp) ?_
          refine AllReadyH.cons rfl (fun K hK => ?_) AllReadyH.nil
          have f4 := RowAt.frozen HG14.out 0
          have d4 := RowAt.cell HG14.out 0
          simp at d4
          rw [if_pos (by kernel_rfl)]
          go_simp
          refine hK.out _ _ trivial (fun hHeld => ?_)
          clear hK K f4 d4
          (try simp only [Act.put])
          refine wpAnyH_done (by kernel_rfl) ?_ _
          refine NoPanic.normal ?_
          clear hHeld
          go_wp2_with fail
          go_roundw
          case rel =>
            refine ⟨i + 1, da', dc', rbs ++ [(2, V, (p, tn, q), 0, 0, (none, 0, 0))], by omega, by go_num, HG04.out.other _ _ (by simp), HG14.out.setCell 0 _, ?_, by simp; omega, HB4.out.setCell (by show _ ≤ w.heap.size + 1; omega) _⟩
            rw [HTK.out]
            refine (HD4.out.mid (fun b hb hb' => Go.Deep.blk_setCell_other _ _ _ _ (by simp; omega))).less (Nat.le_refl _) (by simp)
          case measure => simp [intOf]; omega
        · go_simp
          change Calls Try.prog 107 #[.agg #[.int .i64 V, .slice ta tn tc]] _ _
          refine (itemBlock_any HXd.out (by omega)).mono ?_
          rintro e u2 ⟨⟨p, q, rfl, how⟩, hb2⟩
          have s2 := hb2.size
          have HG02 : Hid (RowAt u2 w.heap.size #[.slice none 0 0] 29) := HG0d.out.below hb2 lz0
          have HG12 : Hid (RowAt u2 (w.heap.size + 1) #[.slice da i dc] 29) := HG1d.out.below hb2 lz1
          have HD2 : Hid (DocOwn u2 v0.heap.size u1.heap.size (.slice da i dc) rbs (d.take i)) := HDd.out.below (Nat.le_refl _) hb2
          have HB2 : Hid (Below w.heap.size w u2) := HBd.out.trans (hb2.mono (by omega))
          have HW2 : Hid (BlOwn u2 u1.heap.size u2.heap.size u2.heap.size (2, V, (p, tn, q), 0, 0, (none, 0, 0)) (2, V, t, 0, 0, [])) := how
          go_wp2_with fail
          refine hK.out _ _ trivial (fun hHeld => ?_)
          clear hK K how hb2 HG0d HG1d HDd HBd HXd
          (try simp only [Act.put, List.setIfInBounds_toArray, List.set_cons_zero, List.set_cons_succ])
          refine wpAnyH_ready (rs := [1, 4]) (by kernel_rfl) (by simp) ?_
          refine AllReadyH.cons rfl (fun K hK => ?_) (AllReadyH.cons rfl (fun K hK => ?_) AllReadyH.nil)
          · have d4 := RowAt.cell HG12.out 0
            simp at d4
            go_simp
            refine hK.out _ _ trivial (fun hHeld => ?_)
            clear hK K d4
            (try simp only [Act.put, List.setIfInBounds_toArray, List.set_cons_zero, List.set_cons_succ])
            refine wpAnyH_ready (rs := [4]) (by kernel_rfl) (by simp) ?_
            refine AllReadyH.cons rfl (fun K hK => ?_) AllReadyH.nil
            go_simp
            have A3 : Below u2.heap.size u2 (u2.alloc (.cells #[.int .i64 2, .int .i64 V, .slice p tn q, .int .i64 0, .int .i64 0, .slice none 0 0] 49)) := (Below.refl _ _).alloc (Nat.le_refl _) _
            have HN3 : Hid (∀ j u, [.int .i64 2, .int .i64 V, .slice p tn q, .int .i64 0, .int .i64 0, .slice none 0 0][j]? = some u → (u2.alloc (.cells #[.int .i64 2, .int .i64 V, .slice p tn q, .int .i64 0, .int .i64 0, .slice none 0 0] 49)).cell? ((⟨u2.heap.size, 0, none⟩ : Addr).add j) = some u) := cells6_new _ _ _ _ _ _ _ _
            have HG03 : Hid (RowAt (u2.alloc (.cells #[.int .i64 2, .int .i64 V, .slice p tn q, .int .i64 0, .int .i64 0, .slice none 0 0] 49)) w.heap.size #[.slice none 0 0] 29) := HG02.out.alloc _
            have HG13 : Hid (RowAt (u2.alloc (.cells #[.int .i64 2, .int .i64 V, .slice p tn q, .int .i64 0, .int .i64 0, .slice none 0 0] 49)) (w.heap.size + 1) #[.slice da i dc] 29) := HG12.out.alloc _
            have HD3 : Hid (DocOwn (u2.alloc (.cells #[.int .i64 2, .int .i64 V, .slice p tn q, .int .i64 0, .int .i64 0, .slice none 0 0] 49)) v0.heap.size u1.heap.size (.slice da i dc) rbs (d.take i)) := HD2.out.mid (fun b _ hb' => A3.block b (by omega))
            have HB3 : Hid (Below w.heap.size w (u2.alloc (.cells #[.int .i64 2, .int .i64 V, .slice p tn q, .int .i64 0, .int .i64 0, .slice none 0 0] 49))) := HB2.out.alloc (by omega) _
            have HW3 : Hid (BlOwn (u2.alloc (.cells #[.int .i64 2, .int .i64 V, .slice p tn q, .int .i64 0, .int .i64 0, .slice none 0 0] 49)) u1.heap.size u2.heap.size u2.heap.size (2, V, (p, tn, q), 0, 0, (none, 0, 0)) (2, V, t, 0, 0, [])) := HW2.out.mid (fun b _ hb' => A3.block b hb')
            have s3 : (u2.alloc (.cells #[.int .i64 2, .int .i64 V, .slice p tn q, .int .i64 0, .int .i64 0, .slice none 0 0] 49)).heap.size = u2.heap.size + 1 := by simp
            refine hK.out _ _ trivial (fun hHeld => ?_)
            clear hK K A3 HG02 HG12 HD2 HB2 HW2
            (try simp only [Act.put, List.setIfInBounds_toArray, List.set_cons_zero, List.set_cons_succ])
            generalize (u2.alloc (.cells #[.int .i64 2, .int .i64 V, .slice p tn q, .int .i64 0, .int .i64 0, .slice none 0 0] 49)) = u3 at HN3 HG03 HG13 HD3 HB3 HW3 s3 ⊢
            refine wpAnyH_ready (rs := [5]) (by kernel_rfl) (by simp) ?_
            refine AllReadyH.cons rfl (fun K hK => ?_) AllReadyH.nil
            rw [if_pos (by kernel_rfl)]
            have HDl : Hid (rbs.length = i) := by
              have e1 := HD3.out.2.2.1
              have e2 := HIL.out
              show rbs.length = i
              omega
            have hrw : u3.ownsRow v0.heap.size 49 6 (.slice da i dc) i (flat6 rbs) := by
              have h1 := HD3.out.1
              rw [HDl.out] at h1
              exact h1
            refine wp_append_own u3 (.tmp 13) (.tmp 16) 27 rfl v0.heap.size 49 i0 _ 6 80 Try.underlying27 hi0 hz0 hz1 hz2 rfl (by decide) (.slice da i dc) i (flat6 rbs) rfl hrw ⟨u2.heap.size, 0, none⟩ 1 1 [.int .i64 2, .int .i64 V, .slice p tn q, .int .i64 0, .int .i64 0, .slice none 0 0] rfl rfl HN3.out (rb_one (2, V, (p, tn, q), 0, 0, (none, 0, 0))) (by unfold maxLen; omega) (by omega) (by omega) ?_
            intro v' u4 hown hgrow _
            have s4 := hgrow.size
            have HD4 : Hid (DocOwn u4 v0.heap.size u4.heap.size v' (rbs ++ [(2, V, (p, tn, q), 0, 0, (none, 0, 0))]) (d.take i ++ [(2, V, t, 0, 0, [])])) := docOwn_snoc HD3.out HIL.out HW3.out (by omega) s2 (by omega) hown hgrow
            have hne : ∀ g, (Value.slice da i dc).ownBlock = some g → v0.heap.size ≤ g := fun g hg => (own_lt hrw hg).1
            have HG04 : Hid (RowAt u4 w.heap.size #[.slice none 0 0] 29) := HG03.out.grown hgrow (fun e => by have := hne _ e; omega)
            have HG14 : Hid (RowAt u4 (w.heap.size + 1) #[.slice da i dc] 29) := HG13.out.grown hgrow (fun e => by have := hne _ e; omega)
            have HB4 : Hid (Below w.heap.size w u4) := HB3.out.grown hgrow (by omega) (fun k hk => by have := hne _ hk; omega)
            obtain ⟨da', dc', rfl⟩ : ∃ a c, v' = .slice a (i + 1) c := by
              obtain ⟨a1, c1, e1⟩ := HD4.out.shape
              refine ⟨a1, c1, ?_⟩
              rw [e1, List.length_append, ← HIL.out]
              rfl
            refine hK.out _ _ trivial (fun hHeld => ?_)
            clear hK K hown hgrow hrw hne HN3 HG03 HG13 HD3 HB3 HW3
            (try simp only [Act.put, List.setIfInBounds_toArray])
            refine take_at 6 18 (.pointer (some ⟨w.heap.size + 1, 0, none⟩)) rfl rfl (by kernel_rfl) (by kernel_rfl) (by kernel_rfl) (fun _ _ _ h => h) (Or.inl ⟨by kernel_rfl, fun w' hS' => by go_simp⟩) hHeld ?_
            (try simp only [Act.put])
            refine wpAnyH_ready (rs := [7]) (by kernel_rfl) (by simp) ?_
            refine AllReadyH.cons rfl (fun K hK => ?_) AllReadyH.nil
            have f4 := RowAt.frozen HG14.out 0
            have d4 := RowAt.cell HG14.out 0
            simp at d4
            rw [if_pos (by kernel_rfl)]
            go_simp
            refine hK.out _ _ trivial (fun hHeld => ?_)
            clear hK K f4 d4
            (try simp only [Act.put])
            refine wpAnyH_done (by kernel_rfl) ?_ _
            refine NoPanic.normal ?_
            clear hHeld
            go_wp2_with fail
            go_roundw
            case rel =>
              refine ⟨i + 1, da', dc', rbs ++ [(2, V, (p, tn, q), 0, 0, (none, 0, 0))], by omega, by go_num, HG04.out.other _ _ (by simp), HG14.out.setCell 0 _, ?_, by simp; omega, HB4.out.setCell (by show _ ≤ w.heap.size + 1; omega) _⟩
              rw [HTK.out]
              refine (HD4.out.mid (fun b hb hb' => Go.Deep.blk_setCell_other _ _ _ _ (by simp; omega))).less (Nat.le_refl _) (by simp)
            case measure => simp [intOf]; omega
          · go_simp
            have A3 : Below u2.heap.size u2 (u2.alloc (.cells #[.int .i64 2, .int .i64 V, .slice p tn q, .int .i64 0, .int .i64 0, .slice none 0 0] 49)) := (Below.refl _ _).alloc (Nat.le_refl _) _
            have HN3 : Hid (∀ j u, [.int .i64 2, .int .i64 V, .slice p tn q, .int .i64 0, .int .i64 0, .slice none 0 0][j]? = some u → (u2.alloc (.cells #[.int .i64 2, .int .i64 V, .slice p tn q, .int .i64 0, .int .i64 0, .slice none 0 0] 49)).cell? ((⟨u2.heap.size, 0, none⟩ : Addr).add j) = some u) := cells6_new _ _ _ _ _ _ _ _
            have HG03 : Hid (RowAt (u2.alloc (.cells #[.int .i64 2, .int .i64 V, .slice p tn q, .int .i64 0, .int .i64 0, .slice none 0 0] 49)) w.heap.size #[.slice none 0 0] 29) := HG02.out.alloc _
            have HG13 : Hid (RowAt (u2.alloc (.cells #[.int .i64 2, .int .i64 V, .slice p tn q, .int .i64 0, .int .i64 0, .slice none 0 0] 49)) (w.heap.size + 1) #[.slice da i dc] 29) := HG12.out.alloc _
            have HD3 : Hid (DocOwn (u2.alloc (.cells #[.int .i64 2, .int .i64 V, .slice p tn q, .int .i64 0, .int .i64 0, .slice none 0 0] 49)) v0.heap.size u1.heap.size (.slice da i dc) rbs (d.take i)) := HD2.out.mid (fun b _ hb' => A3.block b (by omega))
            have HB3 : Hid (Below w.heap.size w (u2.alloc (.cells #[.int .i64 2, .int .i64 V, .slice p tn q, .int .i64 0, .int .i64 0, .slice none 0 0] 49))) := HB2.out.alloc (by omega) _
            have HW3 : Hid (BlOwn (u2.alloc (.cells #[.int .i64 2, .int .i64 V, .slice p tn q, .int .i64 0, .int .i64 0, .slice none 0 0] 49)) u1.heap.size u2.heap.size u2.heap.size (2, V, (p, tn, q), 0, 0, (none, 0, 0)) (2, V, t, 0, 0, [])) := HW2.out.mid (fun b _ hb' => A3.block b hb')
            have s3 : (u2.alloc (.cells #[.int .i64 2, .int .i64 V, .slice p tn q, .int .i64 0, .int .i64 0, .slice none 0 0] 49)).heap.size = u2.heap.size + 1 := by simp
            refine hK.out _ _ trivial (fun hHeld => ?_)
            clear hK K A3 HG02 HG12 HD2 HB2 HW2
            (try simp only [Act.put, List.setIfInBounds_toArray, List.set_cons_zero, List.set_cons_succ])
            generalize (u2.alloc (.cells #[.int .i64 2, .int .i64 V, .slice p tn q, .int .i64 0, .int .i64 0, .slice none 0 0] 49)) = u3 at HN3 HG03 HG13 HD3 HB3 HW3 s3 ⊢
            refine wpAnyH_ready (rs := [1]) (by kernel_rfl) (by simp) ?_
            refine AllReadyH.cons rfl (fun K hK => ?_) AllReadyH.nil
            have d4 := RowAt.cell HG13.out 0
            simp at d4
            go_simp
            refine hK.out _ _ trivial (fun hHeld => ?_)
            clear hK K d4
            (try simp only [Act.put, List.setIfInBounds_toArray, List.set_cons_zero, List.set_cons_succ])
            refine wpAnyH_ready (rs := [5]) (by kernel_rfl) (by simp) ?_
            refine AllReadyH.cons rfl (fun K hK => ?_) AllReadyH.nil
            rw [if_pos (by kernel_rfl)]
            have HDl : Hid (rbs.length = i) := by
              have e1 := HD3.out.2.2.1
              have e2 := HIL.out
              show rbs.length = i
              omega
            have hrw : u3.ownsRow v0.heap.size 49 6 (.slice da i dc) i (flat6 rbs) := by
              have h1 := HD3.out.1
              rw [HDl.out] at h1
              exact h1
            refine wp_append_own u3 (.tmp 13) (.tmp 16) 27 rfl v0.heap.size 49 i0 _ 6 80 Try.underlying27 hi0 hz0 hz1 hz2 rfl (by decide) (.slice da i dc) i (flat6 rbs) rfl hrw ⟨u2.heap.size, 0, none⟩ 1 1 [.int .i64 2, .int .i64 V, .slice p tn q, .int .i64 0, .int .i64 0, .slice none 0 0] rfl rfl HN3.out (rb_one (2, V, (p, tn, q), 0, 0, (none, 0, 0))) (by unfold maxLen; omega) (by omega) (by omega) ?_
            intro v' u4 hown hgrow _
            have s4 := hgrow.size
            have HD4 : Hid (DocOwn u4 v0.heap.size u4.heap.size v' (rbs ++ [(2, V, (p, tn, q), 0, 0, (none, 0, 0))]) (d.take i ++ [(2, V, t, 0, 0, [])])) := docOwn_snoc HD3.out HIL.out HW3.out (by omega) s2 (by omega) hown hgrow
            have hne : ∀ g, (Value.slice da i dc).ownBlock = some g → v0.heap.size ≤ g := fun g hg => (own_lt hrw hg).1
            have HG04 : Hid (RowAt u4 w.heap.size #[.slice none 0 0] 29) := HG03.out.grown hgrow (fun e => by have := hne _ e; omega)
            have HG14 : Hid (RowAt u4 (w.heap.size + 1) #[.slice da i dc] 29) := HG13.out.grown hgrow (fun e => by have := hne _ e; omega)
            have HB4 : Hid (Below w.heap.size w u4) := HB3.out.grown hgrow (by omega) (fun k hk => by have := hne _ hk; omega)
            obtain ⟨da', dc', rfl⟩ : ∃ a c, v' = .slice a (i + 1) c := by
              obtain ⟨a1, c1, e1⟩ := HD4.out.shape
              refine ⟨a1, c1, ?_⟩
              rw [e1, List.length_append, ← HIL.out]
              rfl
            refine hK.out _ _ trivial (fun hHeld => ?_)
            clear hK K hown hgrow hrw hne HN3 HG03 HG13 HD3 HB3 HW3
            (try simp only [Act.put, List.setIfInBounds_toArray])
            refine take_at 6 18 (.pointer (some ⟨w.heap.size + 1, 0, none⟩)) rfl rfl (by kernel_rfl) (by kernel_rfl) (by kernel_rfl) (fun _ _ _ h => h) (Or.inl ⟨by kernel_rfl, fun w' hS' => by go_simp⟩) hHeld ?_
            (try simp only [Act.put])
            refine wpAnyH_ready (rs := [7]) (by kernel_rfl) (by simp) ?_
            refine AllReadyH.cons rfl (fun K hK => ?_) AllReadyH.nil
            have f4 := RowAt.frozen HG14.out 0
            have d4 := RowAt.cell HG14.out 0
            simp at d4
            rw [if_pos (by kernel_rfl)]
            go_simp
            refine hK.out _ _ trivial (fun hHeld => ?_)
            clear hK K f4 d4
            (try simp only [Act.put])
            refine wpAnyH_done (by kernel_rfl) ?_ _
            refine NoPanic.normal ?_
            clear hHeld
            go_wp2_with fail
            go_roundw
            case rel =>
              refine ⟨i + 1, da', dc', rbs ++ [(2, V, (p, tn, q), 0, 0, (none, 0, 0))], by omega, by go_num, HG04.out.other _ _ (by simp), HG14.out.setCell 0 _, ?_, by simp; omega, HB4.out.setCell (by show _ ≤ w.heap.size + 1; omega) _⟩
              rw [HTK.out]
              refine (HD4.out.mid (fun b hb hb' => Go.Deep.blk_setCell_other _ _ _ _ (by simp; omega))).less (Nat.le_refl _) (by simp)
            case measure => simp [intOf]; omega
      · subst hK
        obtain ⟨rfl, rfl⟩ := partBB_sheet hpb
        have hl25 := (hpo.2 rfl).1
        have HPO : Hid (l.length ≤ 25 ∧ ∀ k, k < l.length → (l.getD k cl0).2.2.2.2.length ≤ 24) := hpo.2 rfl
        have HX : Hid (Tab wr ca cn cc l) := htb
        have c0 : wr.cell? ⟨b, off + i, none⟩ = some (.iface 119 (.agg #[.int .i64 R, .int .i64 C, .slice ca cn cc])) := hcell
        clear hcell ht htb hpb hpo
        go_upto_region 5 with fail
        clear c0
        refine wp_region_noPanic ?_
        refine wp_region_held_drew (S := fun w' => True) (by kernel_rfl) trivial (fun hHeld => ?_)
        have HG0d : Hid (RowAt wr.drew w.heap.size #[.slice none 0 0] 29) := HG0.out.drew
        have HG1d : Hid (RowAt wr.drew (w.heap.size + 1) #[.slice da i dc] 29) := HG1.out.drew
        have HDd : Hid (DocOwn wr.drew v0.heap.size wr.heap.size (.slice da i dc) rbs (d.take i)) := HD.out.below (Nat.le_refl _) (Below.refl _ _).drew
        have HBd : Hid (Below w.heap.size w wr.drew) := HB.out.drew
        have HXd : Hid (Tab wr.drew ca cn cc l) := HX.out.below (Below.refl _ _).drew
        have sd : wr.heap.size = wr.drew.heap.size := rfl
        rw [sd] at HDd hss lz0 lz1
        clear HG0 HD HB HX HG1
        generalize wr.drew = u1 at HG0d HG1d HDd HBd HXd sd hss lz0 lz1 ⊢
        refine take_at 0 12 (.pointer (some ⟨(w.heap.size + 1), 0, none⟩)) rfl rfl (by kernel_rfl) (by kernel_rfl) (by kernel_rfl) (fun _ _ _ h => h) (Or.inl ⟨by kernel_rfl, fun w' hS' => by go_simp⟩) hHeld ?_
        (try simp only [Act.put, List.setIfInBounds_toArray, List.set_cons_zero, List.set_cons_succ])
        refine take_at 2 14 (.iface 119 (.agg #[.int .i64 R, .int .i64 C, .slice ca cn cc])) rfl rfl (by kernel_rfl) (by kernel_rfl) (by kernel_rfl) (fun _ _ _ h => h) (Or.inl ⟨by kernel_rfl, fun w' hS' => by go_simp⟩) hHeld ?_
        (try simp only [Act.put, List.setIfInBounds_toArray, List.set_cons_zero, List.set_cons_succ])
        refine wpAnyH_ready (rs := [1, 3]) (by kernel_rfl) (by simp) ?_
        refine AllReadyH.cons rfl (fun K hK => ?_) (AllReadyH.cons rfl (fun K hK => ?_) AllReadyH.nil)
        · have d4 := RowAt.cell HG1d.out 0
          simp at d4
          go_simp
          refine hK.out _ _ trivial (fun hHeld => ?_)
          clear hK K d4
          (try simp only [Act.put, List.setIfInBounds_toArray, List.set_cons_zero, List.set_cons_succ])
          refine wpAnyH_ready (rs := [3]) (by kernel_rfl) (by simp) ?_
          refine AllReadyH.cons rfl (fun K hK => ?_) AllReadyH.nil
          go_simp
          change Calls Try.prog 136 #[.agg #[.int .i64 R, .int .i64 C, .slice ca cn cc]] _ _
          refine (sheetBlock_any HXd.out (by omega) (fun k hk => by have := HPO.out.2 k hk; omega)).mono ?_
          rintro e u2 ⟨⟨p, q, rfl, how⟩, hb2⟩
          have s2 := hb2.size
          have HG02 : Hid (RowAt u2 w.heap.size #[.slice none 0 0] 29) := HG0d.out.below hb2 lz0
          have HG12 : Hid (RowAt u2 (w.heap.size + 1) #[.slice da i dc] 29) := HG1d.out.below hb2 lz1
          have HD2 : Hid (DocOwn u2 v0.heap.size u1.heap.size (.slice da i dc) rbs (d.take i)) := HDd.out.below (Nat.le_refl _) hb2
          have HB2 : Hid (Below w.heap.size w u2) := HBd.out.trans (hb2.mono (by omega))
          have HW2 : Hid (BlOwn u2 u1.heap.size u1.heap.size u2.heap.size (3, 0, (none, 0, 0), R, C, (p, cn, q)) (3, 0, [], R, C, l)) := how
          go_wp2_with fail
          refine hK.out _ _ trivial (fun hHeld => ?_)
          clear hK K how hb2 HG0d HG1d HDd HBd HXd
          (try simp only [Act.put, List.setIfInBounds_toArray, List.set_cons_zero, List.set_cons_succ])
          refine wpAnyH_ready (rs := [4]) (by kernel_rfl) (by simp) ?_
          refine AllReadyH.cons rfl (fun K hK => ?_) AllReadyH.nil
          go_simp
          have A3 : Below u2.heap.size u2 (u2.alloc (.cells #[.int .i64 3, .int .i64 0, .slice none 0 0, .int .i64 R, .int .i64 C, .slice p cn q] 49)) := (Below.refl _ _).alloc (Nat.le_refl _) _
          have HN3 : Hid (∀ j u, [.int .i64 3, .int .i64 0, .slice none 0 0, .int .i64 R, .int .i64 C, .slice p cn q][j]? = some u → (u2.alloc (.cells #[.int .i64 3, .int .i64 0, .slice none 0 0, .int .i64 R, .int .i64 C, .slice p cn q] 49)).cell? ((⟨u2.heap.size, 0, none⟩ : Addr).add j) = some u) := cells6_new _ _ _ _ _ _ _ _
          have HG03 : Hid (RowAt (u2.alloc (.cells #[.int .i64 3, .int .i64 0, .slice none 0 0, .int .i64 R, .int .i64 C, .slice p cn q] 49)) w.heap.size #[.slice none 0 0] 29) := HG02.out.alloc _
          have HG13 : Hid (RowAt (u2.alloc (.cells #[.int .i64 3, .int .i64 0, .slice none 0 0, .int .i64 R, .int .i64 C, .slice p cn q] 49)) (w.heap.size + 1) #[.slice da i dc] 29) := HG12.out.alloc _
          have HD3 : Hid (DocOwn (u2.alloc (.cells #[.int .i64 3, .int .i64 0, .slice none 0 0, .int .i64 R, .int .i64 C, .slice p cn q] 49)) v0.heap.size u1.heap.size (.slice da i dc) rbs (d.take i)) := HD2.out.mid (fun b _ hb' => A3.block b (by omega))
          have HB3 : Hid (Below w.heap.size w (u2.alloc (.cells #[.int .i64 3, .int .i64 0, .slice none 0 0, .int .i64 R, .int .i64 C, .slice p cn q] 49))) := HB2.out.alloc (by omega) _
          have HW3 : Hid (BlOwn (u2.alloc (.cells #[.int .i64 3, .int .i64 0, .slice none 0 0, .int .i64 R, .int .i64 C, .slice p cn q] 49)) u1.heap.size u1.heap.size u2.heap.size (3, 0, (none, 0, 0), R, C, (p, cn, q)) (3, 0, [], R, C, l)) := HW2.out.mid (fun b _ hb' => A3.block b hb')
          have s3 : (u2.alloc (.cells #[.int .i64 3, .int .i64 0, .slice none 0 0, .int .i64 R, .int .i64 C, .slice p cn q] 49)).heap.size = u2.heap.size + 1 := by simp
          refine hK.out _ _ trivial (fun hHeld => ?_)
          clear hK K A3 HG02 HG12 HD2 HB2 HW2
          (try simp only [Act.put, List.setIfInBounds_toArray, List.set_cons_zero, List.set_cons_succ])
          generalize (u2.alloc (.cells #[.int .i64 3, .int .i64 0, .slice none 0 0, .int .i64 R, .int .i64 C, .slice p cn q] 49)) = u3 at HN3 HG03 HG13 HD3 HB3 HW3 s3 ⊢
          refine wpAnyH_ready (rs := [5]) (by kernel_rfl) (by simp) ?_
          refine AllReadyH.cons rfl (fun K hK => ?_) AllReadyH.nil
          rw [if_pos (by kernel_rfl)]
          have HDl : Hid (rbs.length = i) := by
            have e1 := HD3.out.2.2.1
            have e2 := HIL.out
            show rbs.length = i
            omega
          have hrw : u3.ownsRow v0.heap.size 49 6 (.slice da i dc) i (flat6 rbs) := by
            have h1 := HD3.out.1
            rw [HDl.out] at h1
            exact h1
          refine wp_append_own u3 (.tmp 13) (.tmp 16) 27 rfl v0.heap.size 49 i0 _ 6 80 Try.underlying27 hi0 hz0 hz1 hz2 rfl (by decide) (.slice da i dc) i (flat6 rbs) rfl hrw ⟨u2.heap.size, 0, none⟩ 1 1 [.int .i64 3, .int .i64 0, .slice none 0 0, .int .i64 R, .int .i64 C, .slice p cn q] rfl rfl HN3.out (rb_one (3, 0, (none, 0, 0), R, C, (p, cn, q))) (by unfold maxLen; omega) (by omega) (by omega) ?_
          intro v' u4 hown hgrow _
          have s4 := hgrow.size
          have HD4 : Hid (DocOwn u4 v0.heap.size u4.heap.size v' (rbs ++ [(3, 0, (none, 0, 0), R, C, (p, cn, q))]) (d.take i ++ [(3, 0, [], R, C, l)])) := docOwn_snoc HD3.out HIL.out HW3.out (by omega) s2 (by omega) hown hgrow
          have hne : ∀ g, (Value.slice da i dc).ownBlock = some g → v0.heap.size ≤ g := fun g hg => (own_lt hrw hg).1
          have HG04 : Hid (RowAt u4 w.heap.size #[.slice none 0 0] 29) := HG03.out.grown hgrow (fun e => by have := hne _ e; omega)
          have HG14 : Hid (RowAt u4 (w.heap.size + 1) #[.slice da i dc] 29) := HG13.out.grown hgrow (fun e => by have := hne _ e; omega)
          have HB4 : Hid (Below w.heap.size w u4) := HB3.out.grown hgrow (by omega) (fun k hk => by have := hne _ hk; omega)
          obtain ⟨da', dc', rfl⟩ : ∃ a c, v' = .slice a (i + 1) c := by
            obtain ⟨a1, c1, e1⟩ := HD4.out.shape
            refine ⟨a1, c1, ?_⟩
            rw [e1, List.length_append, ← HIL.out]
            rfl
          refine hK.out _ _ trivial (fun hHeld => ?_)
          clear hK K hown hgrow hrw hne HN3 HG03 HG13 HD3 HB3 HW3
          (try simp only [Act.put, List.setIfInBounds_toArray])
          refine take_at 6 18 (.pointer (some ⟨w.heap.size + 1, 0, none⟩)) rfl rfl (by kernel_rfl) (by kernel_rfl) (by kernel_rfl) (fun _ _ _ h => h) (Or.inl ⟨by kernel_rfl, fun w' hS' => by go_simp⟩) hHeld ?_
          (try simp only [Act.put])
          refine wpAnyH_ready (rs := [7]) (by kernel_rfl) (by simp) ?_
          refine AllReadyH.cons rfl (fun K hK => ?_) AllReadyH.nil
          have f4 := RowAt.frozen HG14.out 0
          have d4 := RowAt.cell HG14.out 0
          simp at d4
          rw [if_pos (by kernel_rfl)]
          go_simp
          refine hK.out _ _ trivial (fun hHeld => ?_)
          clear hK K f4 d4
          (try simp only [Act.put])
          refine wpAnyH_done (by kernel_rfl) ?_ _
          refine NoPanic.normal ?_
          clear hHeld
          go_wp2_with fail
          go_roundw
          case rel =>
            refine ⟨i + 1, da', dc', rbs ++ [(3, 0, (none, 0, 0), R, C, (p, cn, q))], by omega, by go_num, HG04.out.other _ _ (by simp), HG14.out.setCell 0 _, ?_, by simp; omega, HB4.out.setCell (by show _ ≤ w.heap.size + 1; omega) _⟩
            rw [HTK.out]
            refine (HD4.out.mid (fun b hb hb' => Go.Deep.blk_setCell_other _ _ _ _ (by simp; omega))).less (Nat.le_refl _) (by simp)
          case measure => simp [intOf]; omega
        · go_simp
          change Calls Try.prog 136 #[.agg #[.int .i64 R, .int .i64 C, .slice ca cn cc]] _ _
          refine (sheetBlock_any HXd.out (by omega) (fun k hk => by have := HPO.out.2 k hk; omega)).mono ?_
          rintro e u2 ⟨⟨p, q, rfl, how⟩, hb2⟩
          have s2 := hb2.size
          have HG02 : Hid (RowAt u2 w.heap.size #[.slice none 0 0] 29) := HG0d.out.below hb2 lz0
          have HG12 : Hid (RowAt u2 (w.heap.size + 1) #[.slice da i dc] 29) := HG1d.out.below hb2 lz1
          have HD2 : Hid (DocOwn u2 v0.heap.size u1.heap.size (.slice da i dc) rbs (d.take i)) := HDd.out.below (Nat.le_refl _) hb2
          have HB2 : Hid (Below w.heap.size w u2) := HBd.out.trans (hb2.mono (by omega))
          have HW2 : Hid (BlOwn u2 u1.heap.size u1.heap.size u2.heap.size (3, 0, (none, 0, 0), R, C, (p, cn, q)) (3, 0, [], R, C, l)) := how
          go_wp2_with fail
          refine hK.out _ _ trivial (fun hHeld => ?_)
          clear hK K how hb2 HG0d HG1d HDd HBd HXd
          (try simp only [Act.put, List.setIfInBounds_toArray, List.set_cons_zero, List.set_cons_succ])
          refine wpAnyH_ready (rs := [1, 4]) (by kernel_rfl) (by simp) ?_
          refine AllReadyH.cons rfl (fun K hK => ?_) (AllReadyH.cons rfl (fun K hK => ?_) AllReadyH.nil)
          · have d4 := RowAt.cell HG12.out 0
            simp at d4
            go_simp
            refine hK.out _ _ trivial (fun hHeld => ?_)
            clear hK K d4
            (try simp only [Act.put, List.setIfInBounds_toArray, List.set_cons_zero, List.set_cons_succ])
            refine wpAnyH_ready (rs := [4]) (by kernel_rfl) (by simp) ?_
            refine AllReadyH.cons rfl (fun K hK => ?_) AllReadyH.nil
            go_simp
            have A3 : Below u2.heap.size u2 (u2.alloc (.cells #[.int .i64 3, .int .i64 0, .slice none 0 0, .int .i64 R, .int .i64 C, .slice p cn q] 49)) := (Below.refl _ _).alloc (Nat.le_refl _) _
            have HN3 : Hid (∀ j u, [.int .i64 3, .int .i64 0, .slice none 0 0, .int .i64 R, .int .i64 C, .slice p cn q][j]? = some u → (u2.alloc (.cells #[.int .i64 3, .int .i64 0, .slice none 0 0, .int .i64 R, .int .i64 C, .slice p cn q] 49)).cell? ((⟨u2.heap.size, 0, none⟩ : Addr).add j) = some u) := cells6_new _ _ _ _ _ _ _ _
            have HG03 : Hid (RowAt (u2.alloc (.cells #[.int .i64 3, .int .i64 0, .slice none 0 0, .int .i64 R, .int .i64 C, .slice p cn q] 49)) w.heap.size #[.slice none 0 0] 29) := HG02.out.alloc _
            have HG13 : Hid (RowAt (u2.alloc (.cells #[.int .i64 3, .int .i64 0, .slice none 0 0, .int .i64 R, .int .i64 C, .slice p cn q] 49)) (w.heap.size + 1) #[.slice da i dc] 29) := HG12.out.alloc _
            have HD3 : Hid (DocOwn (u2.alloc (.cells #[.int .i64 3, .int .i64 0, .slice none 0 0, .int .i64 R, .int .i64 C, .slice p cn q] 49)) v0.heap.size u1.heap.size (.slice da i dc) rbs (d.take i)) := HD2.out.mid (fun b _ hb' => A3.block b (by omega))
            have HB3 : Hid (Below w.heap.size w (u2.alloc (.cells #[.int .i64 3, .int .i64 0, .slice none 0 0, .int .i64 R, .int .i64 C, .slice p cn q] 49))) := HB2.out.alloc (by omega) _
            have HW3 : Hid (BlOwn (u2.alloc (.cells #[.int .i64 3, .int .i64 0, .slice none 0 0, .int .i64 R, .int .i64 C, .slice p cn q] 49)) u1.heap.size u1.heap.size u2.heap.size (3, 0, (none, 0, 0), R, C, (p, cn, q)) (3, 0, [], R, C, l)) := HW2.out.mid (fun b _ hb' => A3.block b hb')
            have s3 : (u2.alloc (.cells #[.int .i64 3, .int .i64 0, .slice none 0 0, .int .i64 R, .int .i64 C, .slice p cn q] 49)).heap.size = u2.heap.size + 1 := by simp
            refine hK.out _ _ trivial (fun hHeld => ?_)
            clear hK K A3 HG02 HG12 HD2 HB2 HW2
            (try simp only [Act.put, List.setIfInBounds_toArray, List.set_cons_zero, List.set_cons_succ])
            generalize (u2.alloc (.cells #[.int .i64 3, .int .i64 0, .slice none 0 0, .int .i64 R, .int .i64 C, .slice p cn q] 49)) = u3 at HN3 HG03 HG13 HD3 HB3 HW3 s3 ⊢
            refine wpAnyH_ready (rs := [5]) (by kernel_rfl) (by simp) ?_
            refine AllReadyH.cons rfl (fun K hK => ?_) AllReadyH.nil
            rw [if_pos (by kernel_rfl)]
            have HDl : Hid (rbs.length = i) := by
              have e1 := HD3.out.2.2.1
              have e2 := HIL.out
              show rbs.length = i
              omega
            have hrw : u3.ownsRow v0.heap.size 49 6 (.slice da i dc) i (flat6 rbs) := by
              have h1 := HD3.out.1
              rw [HDl.out] at h1
              exact h1
            refine wp_append_own u3 (.tmp 13) (.tmp 16) 27 rfl v0.heap.size 49 i0 _ 6 80 Try.underlying27 hi0 hz0 hz1 hz2 rfl (by decide) (.slice da i dc) i (flat6 rbs) rfl hrw ⟨u2.heap.size, 0, none⟩ 1 1 [.int .i64 3, .int .i64 0, .slice none 0 0, .int .i64 R, .int .i64 C, .slice p cn q] rfl rfl HN3.out (rb_one (3, 0, (none, 0, 0), R, C, (p, cn, q))) (by unfold maxLen; omega) (by omega) (by omega) ?_
            intro v' u4 hown hgrow _
            have s4 := hgrow.size
            have HD4 : Hid (DocOwn u4 v0.heap.size u4.heap.size v' (rbs ++ [(3, 0, (none, 0, 0), R, C, (p, cn, q))]) (d.take i ++ [(3, 0, [], R, C, l)])) := docOwn_snoc HD3.out HIL.out HW3.out (by omega) s2 (by omega) hown hgrow
            have hne : ∀ g, (Value.slice da i dc).ownBlock = some g → v0.heap.size ≤ g := fun g hg => (own_lt hrw hg).1
            have HG04 : Hid (RowAt u4 w.heap.size #[.slice none 0 0] 29) := HG03.out.grown hgrow (fun e => by have := hne _ e; omega)
            have HG14 : Hid (RowAt u4 (w.heap.size + 1) #[.slice da i dc] 29) := HG13.out.grown hgrow (fun e => by have := hne _ e; omega)
            have HB4 : Hid (Below w.heap.size w u4) := HB3.out.grown hgrow (by omega) (fun k hk => by have := hne _ hk; omega)
            obtain ⟨da', dc', rfl⟩ : ∃ a c, v' = .slice a (i + 1) c := by
              obtain ⟨a1, c1, e1⟩ := HD4.out.shape
              refine ⟨a1, c1, ?_⟩
              rw [e1, List.length_append, ← HIL.out]
              rfl
            refine hK.out _ _ trivial (fun hHeld => ?_)
            clear hK K hown hgrow hrw hne HN3 HG03 HG13 HD3 HB3 HW3
            (try simp only [Act.put, List.setIfInBounds_toArray])
            refine take_at 6 18 (.pointer (some ⟨w.heap.size + 1, 0, none⟩)) rfl rfl (by kernel_rfl) (by kernel_rfl) (by kernel_rfl) (fun _ _ _ h => h) (Or.inl ⟨by kernel_rfl, fun w' hS' => by go_simp⟩) hHeld ?_
            (try simp only [Act.put])
            refine wpAnyH_ready (rs := [7]) (by kernel_rfl) (by simp) ?_
            refine AllReadyH.cons rfl (fun K hK => ?_) AllReadyH.nil
            have f4 := RowAt.frozen HG14.out 0
            have d4 := RowAt.cell HG14.out 0
            simp at d4
            rw [if_pos (by kernel_rfl)]
            go_simp
            refine hK.out _ _ trivial (fun hHeld => ?_)
            clear hK K f4 d4
            (try simp only [Act.put])
            refine wpAnyH_done (by kernel_rfl) ?_ _
            refine NoPanic.normal ?_
            clear hHeld
            go_wp2_with fail
            go_roundw
            case rel =>
              refine ⟨i + 1, da', dc', rbs ++ [(3, 0, (none, 0, 0), R, C, (p, cn, q))], by omega, by go_num, HG04.out.other _ _ (by simp), HG14.out.setCell 0 _, ?_, by simp; omega, HB4.out.setCell (by show _ ≤ w.heap.size + 1; omega) _⟩
              rw [HTK.out]
              refine (HD4.out.mid (fun b hb hb' => Go.Deep.blk_setCell_other _ _ _ _ (by simp; omega))).less (Nat.le_refl _) (by simp)
            case measure => simp [intOf]; omega
          · go_simp
            have A3 : Below u2.heap.size u2 (u2.alloc (.cells #[.int .i64 3, .int .i64 0, .slice none 0 0, .int .i64 R, .int .i64 C, .slice p cn q] 49)) := (Below.refl _ _).alloc (Nat.le_refl _) _
            have HN3 : Hid (∀ j u, [.int .i64 3, .int .i64 0, .slice none 0 0, .int .i64 R, .int .i64 C, .slice p cn q][j]? = some u → (u2.alloc (.cells #[.int .i64 3, .int .i64 0, .slice none 0 0, .int .i64 R, .int .i64 C, .slice p cn q] 49)).cell? ((⟨u2.heap.size, 0, none⟩ : Addr).add j) = some u) := cells6_new _ _ _ _ _ _ _ _
            have HG03 : Hid (RowAt (u2.alloc (.cells #[.int .i64 3, .int .i64 0, .slice none 0 0, .int .i64 R, .int .i64 C, .slice p cn q] 49)) w.heap.size #[.slice none 0 0] 29) := HG02.out.alloc _
            have HG13 : Hid (RowAt (u2.alloc (.cells #[.int .i64 3, .int .i64 0, .slice none 0 0, .int .i64 R, .int .i64 C, .slice p cn q] 49)) (w.heap.size + 1) #[.slice da i dc] 29) := HG12.out.alloc _
            have HD3 : Hid (DocOwn (u2.alloc (.cells #[.int .i64 3, .int .i64 0, .slice none 0 0, .int .i64 R, .int .i64 C, .slice p cn q] 49)) v0.heap.size u1.heap.size (.slice da i dc) rbs (d.take i)) := HD2.out.mid (fun b _ hb' => A3.block b (by omega))
            have HB3 : Hid (Below w.heap.size w (u2.alloc (.cells #[.int .i64 3, .int .i64 0, .slice none 0 0, .int .i64 R, .int .i64 C, .slice p cn q] 49))) := HB2.out.alloc (by omega) _
            have HW3 : Hid (BlOwn (u2.alloc (.cells #[.int .i64 3, .int .i64 0, .slice none 0 0, .int .i64 R, .int .i64 C, .slice p cn q] 49)) u1.heap.size u1.heap.size u2.heap.size (3, 0, (none, 0, 0), R, C, (p, cn, q)) (3, 0, [], R, C, l)) := HW2.out.mid (fun b _ hb' => A3.block b hb')
            have s3 : (u2.alloc (.cells #[.int .i64 3, .int .i64 0, .slice none 0 0, .int .i64 R, .int .i64 C, .slice p cn q] 49)).heap.size = u2.heap.size + 1 := by simp
            refine hK.out _ _ trivial (fun hHeld => ?_)
            clear hK K A3 HG02 HG12 HD2 HB2 HW2
            (try simp only [Act.put, List.setIfInBounds_toArray, List.set_cons_zero, List.set_cons_succ])
            generalize (u2.alloc (.cells #[.int .i64 3, .int .i64 0, .slice none 0 0, .int .i64 R, .int .i64 C, .slice p cn q] 49)) = u3 at HN3 HG03 HG13 HD3 HB3 HW3 s3 ⊢
            refine wpAnyH_ready (rs := [1]) (by kernel_rfl) (by simp) ?_
            refine AllReadyH.cons rfl (fun K hK => ?_) AllReadyH.nil
            have d4 := RowAt.cell HG13.out 0
            simp at d4
            go_simp
            refine hK.out _ _ trivial (fun hHeld => ?_)
            clear hK K d4
            (try simp only [Act.put, List.setIfInBounds_toArray, List.set_cons_zero, List.set_cons_succ])
            refine wpAnyH_ready (rs := [5]) (by kernel_rfl) (by simp) ?_
            refine AllReadyH.cons rfl (fun K hK => ?_) AllReadyH.nil
            rw [if_pos (by kernel_rfl)]
            have HDl : Hid (rbs.length = i) := by
              have e1 := HD3.out.2.2.1
              have e2 := HIL.out
              show rbs.length = i
              omega
            have hrw : u3.ownsRow v0.heap.size 49 6 (.slice da i dc) i (flat6 rbs) := by
              have h1 := HD3.out.1
              rw [HDl.out] at h1
              exact h1
            refine wp_append_own u3 (.tmp 13) (.tmp 16) 27 rfl v0.heap.size 49 i0 _ 6 80 Try.underlying27 hi0 hz0 hz1 hz2 rfl (by decide) (.slice da i dc) i (flat6 rbs) rfl hrw ⟨u2.heap.size, 0, none⟩ 1 1 [.int .i64 3, .int .i64 0, .slice none 0 0, .int .i64 R, .int .i64 C, .slice p cn q] rfl rfl HN3.out (rb_one (3, 0, (none, 0, 0), R, C, (p, cn, q))) (by unfold maxLen; omega) (by omega) (by omega) ?_
            intro v' u4 hown hgrow _
            have s4 := hgrow.size
            have HD4 : Hid (DocOwn u4 v0.heap.size u4.heap.size v' (rbs ++ [(3, 0, (none, 0, 0), R, C, (p, cn, q))]) (d.take i ++ [(3, 0, [], R, C, l)])) := docOwn_snoc HD3.out HIL.out HW3.out (by omega) s2 (by omega) hown hgrow
            have hne : ∀ g, (Value.slice da i dc).ownBlock = some g → v0.heap.size ≤ g := fun g hg => (own_lt hrw hg).1
            have HG04 : Hid (RowAt u4 w.heap.size #[.slice none 0 0] 29) := HG03.out.grown hgrow (fun e => by have := hne _ e; omega)
            have HG14 : Hid (RowAt u4 (w.heap.size + 1) #[.slice da i dc] 29) := HG13.out.grown hgrow (fun e => by have := hne _ e; omega)
            have HB4 : Hid (Below w.heap.size w u4) := HB3.out.grown hgrow (by omega) (fun k hk => by have := hne _ hk; omega)
            obtain ⟨da', dc', rfl⟩ : ∃ a c, v' = .slice a (i + 1) c := by
              obtain ⟨a1, c1, e1⟩ := HD4.out.shape
              refine ⟨a1, c1, ?_⟩
              rw [e1, List.length_append, ← HIL.out]
              rfl
            refine hK.out _ _ trivial (fun hHeld => ?_)
            clear hK K hown hgrow hrw hne HN3 HG03 HG13 HD3 HB3 HW3
            (try simp only [Act.put, List.setIfInBounds_toArray])
            refine take_at 6 18 (.pointer (some ⟨w.heap.size + 1, 0, none⟩)) rfl rfl (by kernel_rfl) (by kernel_rfl) (by kernel_rfl) (fun _ _ _ h => h) (Or.inl ⟨by kernel_rfl, fun w' hS' => by go_simp⟩) hHeld ?_
            (try simp only [Act.put])
            refine wpAnyH_ready (rs := [7]) (by kernel_rfl) (by simp) ?_
            refine AllReadyH.cons rfl (fun K hK => ?_) AllReadyH.nil
            have f4 := RowAt.frozen HG14.out 0
            have d4 := RowAt.cell HG14.out 0
            simp at d4
            rw [if_pos (by kernel_rfl)]
            go_simp
            refine hK.out _ _ trivial (fun hHeld => ?_)
            clear hK K f4 d4
            (try simp only [Act.put])
            refine wpAnyH_done (by kernel_rfl) ?_ _
            refine NoPanic.normal ?_
            clear hHeld
            go_wp2_with fail
            go_roundw
            case rel =>
              refine ⟨i + 1, da', dc', rbs ++ [(3, 0, (none, 0, 0), R, C, (p, cn, q))], by omega, by go_num, HG04.out.other _ _ (by simp), HG14.out.setCell 0 _, ?_, by simp; omega, HB4.out.setCell (by show _ ≤ w.heap.size + 1; omega) _⟩
              rw [HTK.out]
              refine (HD4.out.mid (fun b hb hb' => Go.Deep.blk_setCell_other _ _ _ _ (by simp; omega))).less (Nat.le_refl _) (by simp)
            case measure => simp [intOf]; omega
    · have hib : ¬ (i : Int) < (n : Int) := by omega
      obtain rfl : i = n := by omega
      have e1 : d.take i = d := List.take_of_length_le (by have := HN.out; omega)
      have hD := HD.out
      rw [e1] at hD
      have HDw : Hid (DocOwn wr v0.heap.size wr.heap.size (.slice da i dc) rbs d) := hD
      have k0 : wr.cell? ⟨w.heap.size + 1, 0, none⟩ = some (.slice da i dc) := HG1.out.cell 0
      clear hD e1
      go_wp2_with (refine wpList_store_row rfl 29 (.tmp 2) (.tmp 20) rfl w.heap.size #[.slice da i dc] rfl rfl 29 _ HG0.out docI_info rfl (cells1_one _ _ _) ?_)
      refine bodyPost_ret (v := .agg #[.slice da i dc]) (results_cell_row (p := 2) (ty := 29) rfl _ _ w.heap.size 29 _ _ _ rfl (RowAt.setRow HG0.out _) Try.underlying29 rfl docI_info) rfl ⟨⟨da, dc, rfl, rbs, ?_⟩, below_row HB.out (Nat.le_refl _) _⟩
      have sz : (wr.setRow w.heap.size #[.slice da i dc]).heap.size = wr.heap.size := by simp [World.setRow]
      rw [sz]
      exact (HDw.out.mid (fun b hb hb' => setRow_other _ _ _ _ (by omega))).less (by omega) (Nat.le_refl _)
end Go.Proofs.Ytlpfflcogefbjaa
namespace Go.Proofs.Ytlpfflcogefbjaa
open Go.RowKit

theorem para_info : (Try.prog.info? 111).map (fun i => (i.zero, i.size, i.bytes)) = some (some (.agg #[.slice none 0 0]), 1, 24) := by kernel_rfl
theorem assert_para (v : Value) (w : World) : (Instr.typeAssert (.iface 111 v) 65 111 true).run Try.prog w = .ok (.tuple #[v, .bool true]) w := by
  simp [Instr.typeAssert, run_underlying Try.underlying111, typeInfo]
theorem assert_noPara {t : TypeId} (ht : t ≠ 111) (v : Value) (w : World) : (Instr.typeAssert (.iface t v) 65 111 true).run Try.prog w = .ok (.tuple #[.agg #[.slice none 0 0], .bool false]) w := by
  obtain ⟨i0, hi, hz0, hz1, hz2⟩ := info_parts para_info
  simp [Instr.typeAssert, run_underlying Try.underlying111, typeInfo, zeroValue, hi, hz0, ht]
theorem PartsAre.set {w : World} {ps : List Value} {d : List Bl} (h : PartsAre w ps d) (i : Nat) {p : Value} {x : Bl} (hp : PartIs w p x) : PartsAre w (ps.set i p) (d.set i x) := by
  refine ⟨by simp [h.1], fun k hk => ?_⟩
  simp only [List.length_set] at hk
  by_cases e : i = k
  · subst e
    have e1 : (ps.set i p).getD i .nilIface = p := by simp [List.getD, h.1, hk]
    have e2 : (d.set i x).getD i bl0 = x := by simp [List.getD, hk]
    rw [e1, e2]
    exact hp
  · have e1 : (ps.set i p).getD k .nilIface = ps.getD k .nilIface := by simp [List.getD, List.getElem?_set_ne e]
    have e2 : (d.set i x).getD k bl0 = d.getD k bl0 := by simp [List.getD, List.getElem?_set_ne e]
    rw [e1, e2]
    exact h.2 k hk
theorem tab_none (w : World) : Tab w none 0 0 [] := ⟨rfl, Nat.le_refl _, by unfold maxLen; omega, .inl rfl⟩
/-- A list of parts of which one is read. -/
theorem ownP_at {w : World} {B : Nat} {pa : Option Addr} {n pc : Nat} {ps : List Value} (h : OwnP w B (.slice pa n pc) ps) {i : Nat} (hi : i < n) : ∃ g, pa = some ⟨g, 0, none⟩ ∧ B ≤ g ∧ g < w.heap.size ∧ w.cell? ⟨g, i, none⟩ = some (ps.getD i .nilIface) ∧ w.frozen? ⟨g, i, none⟩ = false := by
  have hr := h.row
  rcases hr.2 with ⟨hv, h0⟩ | ⟨g, cap, cur, hv, hg, hgg, _⟩
  · omega
  · simp only [Value.slice.injEq] at hv
    obtain ⟨rfl, -, rfl⟩ := hv
    refine ⟨g, rfl, hg, (Array.getElem?_eq_some_iff.1 hgg).1, ?_, hr.frozenAt i⟩
    have := hr.cellAt i (by omega)
    rw [this]
    have hl : i < ps.length := by rw [← h.len]; exact hi
    simp [List.getD, hl]
theorem ownP_set {w : World} {B : Nat} {g n pc : Nat} {ps : List Value} (h : OwnP w B (.slice (some ⟨g, 0, none⟩) n pc) ps) (i : Nat) (p : Value) : OwnP (w.setCell ⟨g, i, none⟩ p) B (.slice (some ⟨g, 0, none⟩) n pc) (ps.set i p) := by
  have := (h.row.stored i p).1
  have hl := h.len
  unfold OwnP
  rw [List.length_set, ← hl]
  exact this
/-- What a change of a part answers, and what the parts are then. -/
def enlF (d : List Bl) (i : Nat) : Option (List Bl) := if (d.getD i bl0).1 = 1 then some (d.set i (2, 0, (d.getD i bl0).2.2.1, 0, 0, [])) else none
set_option maxRecDepth 100000 in
set_option maxHeartbeats 4000000 in
theorem enlist_any {w w0 : World} {B : Nat} {pa : Option Addr} {n pc : Nat} {ps : List Value} {d : List Bl} {i : Nat} (h : OwnP w B (.slice pa n pc) ps) (hp : PartsAre w0 ps d) (hk : ∀ y ∈ d, kindB y) (hi : i < n) (hB : B ≤ w.heap.size) :
    Calls Try.prog 54 #[.slice pa n pc, .int .i64 i] w fun e w' => e = .returned (.bool (enlF d i).isSome) ∧ (∃ ps', OwnP w' B (.slice pa n pc) ps' ∧ PartsAre w0 ps' ((enlF d i).getD d)) ∧ Below B w w' := by
  have hdl : i < d.length := by rw [← hp.1, ← h.len]; exact hi
  obtain ⟨g, rfl, hg1, hg2, hcell, hfz⟩ := ownP_at h hi
  have hpc : n ≤ pc ∧ pc ≤ 2 ^ 63 - 1 := by
    have hr := h.row
    rcases hr.2 with ⟨hv, h0⟩ | ⟨g, cap, cur, hv, hg, hgg, a1, a2, _⟩
    · cases hv
    · simp only [Value.slice.injEq] at hv
      unfold maxLen at a2
      omega
  obtain ⟨hpc1, hpc2⟩ := hpc
  obtain ⟨ta, tn, tc, ca, cn, cc, hpv, ht, hc⟩ := hp.2 i hdl
  have hkd := hk (d.getD i bl0) (by rw [getD_bl hdl]; exact List.getElem_mem hdl)
  have HP : Hid (PartsAre w0 ps d) := hp
  have HO : Hid (OwnP w B (.slice (some ⟨g, 0, none⟩) n pc) ps) := h
  rw [hpv] at hcell
  obtain ⟨⟨K, V, t, R, C, l⟩, hx⟩ : ∃ x, x = d.getD i bl0 := ⟨_, rfl⟩
  rw [← hx] at hcell hkd ht
  have HEN : Hid (enlF d i = if K = 1 then some (d.set i (2, 0, t, 0, 0, [])) else none) := by
    show enlF d i = _
    unfold enlF
    rw [← hx]
  have hib : (i : Int) < (n : Int) := by omega
  have hi0 : (0 : Int) ≤ (i : Int) := by omega
  unfold kindB at hkd
  simp only at hkd ht hcell
  have HT : Hid (Txt w0 ta tn tc t) := ht
  clear hx h hp hk hpv hc ht
  rcases hkd with hK | hK | hK
  · subst hK
    have c0 : w.cell? ⟨g, i, none⟩ = some (.iface 111 (.agg #[.slice ta tn tc])) := hcell
    clear hcell
    rw [HEN.out, if_pos rfl]
    go_enter Try.func54, Try.ntmps54
    go_wp2_with fail
    rw [assert_para]
    have c1 : (w.alloc (.cells #[.slice ta tn tc] 111)).cell? ⟨g, i, none⟩ = some (.iface 111 (.agg #[.slice ta tn tc])) := by
      rw [← c0]
      exact ((Below.refl w.heap.size w).alloc (Nat.le_refl _) _).cell (p := ⟨g, i, none⟩) hg2
    have f1 : (w.alloc (.cells #[.slice ta tn tc] 111)).frozen? ⟨g, i, none⟩ = false := (World.ownsRow.alloc HO.out.row (.cells #[.slice ta tn tc] 111)).frozenAt i
    go_wp2_with fail
    go_ret
    refine ⟨rfl, ⟨ps.set i (.iface 103 (.agg #[.int .i64 0, .slice ta tn tc])), ?_, ?_⟩, ?_⟩
    · exact World.ownsRow.alloc (ownP_set HO.out _ _) _
    · exact HP.out.set i ⟨ta, tn, tc, none, 0, 0, rfl, HT.out, tab_none _⟩
    · exact ((Below.refl _ _).setCell (p := ⟨g, i, none⟩) hg1 _).alloc (by simp; omega) _
  · subst hK
    have c0 : w.cell? ⟨g, i, none⟩ = some (.iface 103 (.agg #[.int .i64 V, .slice ta tn tc])) := hcell
    clear hcell
    rw [HEN.out, if_neg (by decide)]
    go_enter Try.func54, Try.ntmps54
    go_wp2_with fail
    rw [assert_noPara (by decide)]
    go_wp2_with fail
    go_ret
    exact ⟨rfl, ⟨ps, HO.out, HP.out⟩, Below.refl _ _⟩
  · subst hK
    have c0 : w.cell? ⟨g, i, none⟩ = some (.iface 119 (.agg #[.int .i64 R, .int .i64 C, .slice ca cn cc])) := hcell
    clear hcell
    rw [HEN.out, if_neg (by decide)]
    go_enter Try.func54, Try.ntmps54
    go_wp2_with fail
    rw [assert_noPara (by decide)]
    go_wp2_with fail
    go_ret
    exact ⟨rfl, ⟨ps, HO.out, HP.out⟩, Below.refl _ _⟩
theorem levelOf_part {K V : Int} {ta : Option Addr} {tn tc : Nat} {R C : Int} {ca : Option Addr} {cn cc : Nat} {v : Int} {w : World} (hk : K = 1 ∨ K = 2 ∨ K = 3) (hv : (if K = 2 then V else -1) = v) :
    Calls Try.prog 39 #[partV K V ta tn tc R C ca cn cc] w fun e w' => e = .returned (.int .i64 v) ∧ Below w.heap.size w w' := by
  subst hv
  rcases hk with rfl | rfl | rfl
  · exact levelOf_para ta tn tc w
  · exact levelOf_item V ta tn tc w
  · exact levelOf_sheet R C ca cn cc w
/-- How many behind a part are deeper than it. -/
def belL (d : List Bl) (i : Nat) : Nat := ((d.drop (i + 1)).takeWhile fun y => decide (lvN (d.getD i bl0) < lvN y)).length
def endL (d : List Bl) (i : Nat) : Nat := i + 1 + belL d i
theorem takeWhile_len {α : Type} (p : α → Bool) : ∀ (l : List α) (k : Nat), k ≤ l.length → (∀ j (h : j < l.length), j < k → p l[j] = true) → (∀ h : k < l.length, p l[k] = false) → (l.takeWhile p).length = k
  | [], k, hk, _, _ => by simp at hk ⊢; omega
  | x :: l, 0, _, _, h => by
    have := h (by simp)
    simp only [List.getElem_cons_zero] at this
    simp [List.takeWhile, this]
  | x :: l, k + 1, hk, h1, h2 => by
    have hx := h1 0 (by simp) (by omega)
    simp only [List.getElem_cons_zero] at hx
    have ih := takeWhile_len p l k (by simpa using hk) (fun j hj hjk => by
      have := h1 (j + 1) (by simp; omega) (by omega)
      simpa using this) (fun hk' => by
      have := h2 (by simp; omega)
      simpa using this)
    simp [List.takeWhile, hx, ih]
theorem takeWhile_all {α : Type} (p : α → Bool) : ∀ (l : List α) (j : Nat) (h : j < l.length), j < (l.takeWhile p).length → p l[j] = true
  | [], j, h, _ => absurd h (by simp)
  | x :: l, 0, _, hj => by
    cases hx : p x
    · simp [List.takeWhile, hx] at hj
    · simpa using hx
  | x :: l, j + 1, h, hj => by
    cases hx : p x
    · simp [List.takeWhile, hx] at hj
    · simp only [List.takeWhile, hx, List.length_cons] at hj
      have := takeWhile_all p l j (by simpa using h) (by omega)
      simpa using this
theorem endL_of {d : List Bl} {i e : Nat} (h1 : i + 1 ≤ e) (h2 : e ≤ d.length) (h3 : ∀ k, i < k → k < e → lvN (d.getD i bl0) < lvN (d.getD k bl0)) (h4 : e < d.length → ¬ lvN (d.getD i bl0) < lvN (d.getD e bl0)) : endL d i = e := by
  unfold endL belL
  have := takeWhile_len (fun y => decide (lvN (d.getD i bl0) < lvN y)) (d.drop (i + 1)) (e - (i + 1)) (by simp; omega) (fun j hj hje => by
    have hj' : i + 1 + j < d.length := by simp at hj; omega
    have := h3 (i + 1 + j) (by omega) (by omega)
    rw [getD_bl hj'] at this
    simpa using this) (fun hk => by
    have hk' : e < d.length := by simp at hk; omega
    have := h4 hk'
    rw [getD_bl hk'] at this
    rw [List.getElem_drop]
    simp only [show i + 1 + (e - (i + 1)) = e by omega]
    simpa using this)
  omega
theorem endL_le {d : List Bl} {i : Nat} (h : i < d.length) : endL d i ≤ d.length := by
  unfold endL belL
  have := List.takeWhile_prefix (l := d.drop (i + 1)) (fun y => decide (lvN (d.getD i bl0) < lvN y))
  have := this.length_le
  rw [List.length_drop] at this
  omega
theorem endL_deeper {d : List Bl} {i k : Nat} (h : i < d.length) (h1 : i < k) (h2 : k < endL d i) : lvN (d.getD i bl0) < lvN (d.getD k bl0) := by
  have hk : k < d.length := Nat.lt_of_lt_of_le h2 (endL_le h)
  unfold endL belL at h2
  have := takeWhile_all (fun y => decide (lvN (d.getD i bl0) < lvN y)) (d.drop (i + 1)) (k - (i + 1)) (by simp; omega) (by omega)
  simp only [List.getElem_drop, show i + 1 + (k - (i + 1)) = k by omega, decide_eq_true_eq] at this
  rw [getD_bl hk]
  exact this
/-- The parts whose cells are read. -/
def Read2 (w : World) (b o1 o2 : Nat) (p1 p2 : Value) : Prop := w.cell? ⟨b, o1, none⟩ = some p1 ∧ w.cell? ⟨b, o2, none⟩ = some p2 ∧ b < w.heap.size
theorem Read2.below {w w' : World} {b o1 o2 : Nat} {p1 p2 : Value} (h : Read2 w b o1 o2 p1 p2) (hb : Below w.heap.size w w') : Read2 w' b o1 o2 p1 p2 :=
  ⟨(hb.cell (p := ⟨b, o1, none⟩) h.2.2).trans h.1, (hb.cell (p := ⟨b, o2, none⟩) h.2.2).trans h.2.1, Nat.lt_of_lt_of_le h.2.2 hb.size⟩
set_option maxRecDepth 100000 in
set_option maxHeartbeats 8000000 in
theorem endBelow_any {a : Option Addr} {n cap : Nat} {d : List Bl} {w : World} {i : Nat} (h : Outl w a n cap d) (hk : ∀ y ∈ d, kindB y) (hi : i < n) (hn : n ≤ 8) :
    Calls Try.prog 71 #[.slice a n cap, .int .i64 i] w fun e w' => e = .returned (.int .i64 (endL d i)) ∧ Below w.heap.size w w' := by
  have HN : Hid (n = d.length) := h.1
  have hc := h.2.1
  have hm := h.2.2.1
  unfold maxLen at hm
  have H : Hid (Outl w a n cap d) := h
  have HK : Hid (∀ y ∈ d, kindB y) := hk
  clear h hk
  go_enter Try.func71, Try.ntmps71
  go_wp2_with fail
  go_loopw [5] (fun ev wr => ∃ (e : Nat), i + 1 ≤ e ∧ e ≤ n ∧ ev = .int .i64 e ∧ (∀ k, i < k → k < e → lvN (d.getD i bl0) < lvN (d.getD k bl0)) ∧ Below w.heap.size w wr) (fun ev _ => n - (intOf ev).toNat)
  case atStart => exact ⟨i + 1, Nat.le_refl _, by omega, by go_num, fun k h1 h2 => by omega, Below.refl _ _⟩
  case round =>
    obtain ⟨e, he1, he2, rfl, hall, hb⟩ := hrel
    have HAll : Hid (∀ k, i < k → k < e → lvN (d.getD i bl0) < lvN (d.getD k bl0)) := hall
    have HB : Hid (Below w.heap.size w wr) := hb
    have sB := hb.size
    clear hall
    by_cases hlt : e < n
    · have hib : (i : Int) < (n : Int) := by omega
      have heb : (e : Int) < (n : Int) := by omega
      have hi0 : (0 : Int) ≤ (i : Int) := by omega
      have he0 : (0 : Int) ≤ (e : Int) := by omega
      have hid : i < d.length := by have := HN.out; omega
      have hed : e < d.length := by have := HN.out; omega
      rcases (H.out.below hb).2.2.2 with q | ⟨b, off, rfl, hbl, hcl⟩
      · rw [q] at hid
        exact absurd hid (by simp)
      obtain ⟨ta, tn, tc, ca, cn, cc, hc1, -, -⟩ := hcl i hid
      obtain ⟨ta', tn', tc', ca', cn', cc', hc2, -, -⟩ := hcl e hed
      have hk1 := HK.out (d.getD i bl0) (by rw [getD_bl hid]; exact List.getElem_mem hid)
      have hk2 := HK.out (d.getD e bl0) (by rw [getD_bl hed]; exact List.getElem_mem hed)
      obtain ⟨v1, HV1⟩ : ∃ v, Hid (lvN (d.getD i bl0) = v) := ⟨_, rfl⟩
      obtain ⟨v2, HV2⟩ : ∃ v, Hid (lvN (d.getD e bl0) = v) := ⟨_, rfl⟩
      have hv1 := HV1.out
      have hv2 := HV2.out
      obtain ⟨⟨K, V, t, R, C, l⟩, hx⟩ : ∃ x, x = d.getD i bl0 := ⟨_, rfl⟩
      obtain ⟨⟨K', V', t', R', C', l'⟩, hx'⟩ : ∃ x, x = d.getD e bl0 := ⟨_, rfl⟩
      rw [← hx] at hc1 hk1 hv1
      rw [← hx'] at hc2 hk2 hv2
      unfold lvN at hv1 hv2
      unfold kindB at hk1 hk2
      simp only at hc1 hc2 hk1 hk2 hv1 hv2
      have HV1' : Hid ((if K = 2 then V else -1) = v1) := hv1
      have HV2' : Hid ((if K' = 2 then V' else -1) = v2) := hv2
      have HK1 : Hid (K = 1 ∨ K = 2 ∨ K = 3) := hk1
      have HK2 : Hid (K' = 1 ∨ K' = 2 ∨ K' = 3) := hk2
      have HR : Hid (Read2 wr b (off + i) (off + e) (partV K V ta tn tc R C ca cn cc) (partV K' V' ta' tn' tc' R' C' ca' cn' cc')) := ⟨hc1, hc2, hbl⟩
      clear hcl hx hx' hc1 hc2 hk1 hk2 hv1 hv2 hb
      generalize hp1 : partV K V ta tn tc R C ca cn cc = p1 at HR
      generalize hp2 : partV K' V' ta' tn' tc' R' C' ca' cn' cc' = p2 at HR
      have HL1 : Hid (∀ u, Calls Try.prog 39 #[p1] u fun e w' => e = .returned (.int .i64 v1) ∧ Below u.heap.size u w') := fun u => hp1 ▸ levelOf_part HK1.out HV1'.out
      have HL2 : Hid (∀ u, Calls Try.prog 39 #[p2] u fun e w' => e = .returned (.int .i64 v2) ∧ Below u.heap.size u w') := fun u => hp2 ▸ levelOf_part HK2.out HV2'.out
      clear hp1 hp2 HK1 HK2 HV1' HV2'
      obtain ⟨x, HX⟩ : ∃ x, Hid (decide (v1 < v2) = x) := ⟨_, rfl⟩
      go_wp2_with fail
      refine wp_region_noPanic ?_
      refine wp_region_held_drew (S := fun w' => Read2 w' b (off + i) (off + e) p1 p2) (by kernel_rfl) (HR.out.below (Below.refl _ _).drew) (fun hHeld => ?_)
      have HBd : Hid (Below w.heap.size w wr.drew) := HB.out.drew
      have sd : w.heap.size ≤ wr.drew.heap.size := sB
      generalize wr.drew = u0 at hHeld HBd sd ⊢
      clear HR HB
      refine take_at 0 8 (.int .i64 e) rfl rfl (by kernel_rfl) (by kernel_rfl) (by kernel_rfl) (fun _ _ _ h => h) (Or.inl ⟨by kernel_rfl, fun w' hS' => by go_simp⟩) hHeld ?_
      (try simp only [Act.put, List.setIfInBounds_toArray, List.set_cons_zero, List.set_cons_succ])
      refine take_at 1 9 (.slice (some ⟨b, off, none⟩) n cap) rfl rfl (by kernel_rfl) (by kernel_rfl) (by kernel_rfl) (fun _ _ _ h => h) (Or.inl ⟨by kernel_rfl, fun w' hS' => by go_simp⟩) hHeld ?_
      (try simp only [Act.put, List.setIfInBounds_toArray, List.set_cons_zero, List.set_cons_succ])
      refine take_at 2 10 (.int .i64 n) rfl rfl (by kernel_rfl) (by kernel_rfl) (by kernel_rfl) (fun _ _ _ h => h) (Or.inl ⟨by kernel_rfl, fun w' hS' => by go_simp⟩) hHeld ?_
      (try simp only [Act.put, List.setIfInBounds_toArray, List.set_cons_zero, List.set_cons_succ])
      refine take_at 3 11 (.bool true) rfl rfl (by kernel_rfl) (by kernel_rfl) (by kernel_rfl) (fun _ _ _ h => h) (Or.inl ⟨by kernel_rfl, fun w' hS' => by go_simp⟩) hHeld ?_
      (try simp only [Act.put, List.setIfInBounds_toArray, List.set_cons_zero, List.set_cons_succ])
      refine take_at 4 12 (.bool true) rfl rfl (by kernel_rfl) (by kernel_rfl) (by kernel_rfl) (fun _ _ _ h => h) (Or.inl ⟨by kernel_rfl, fun w' hS' => by go_simp⟩) hHeld ?_
      (try simp only [Act.put, List.setIfInBounds_toArray, List.set_cons_zero, List.set_cons_succ])
      refine take_at 5 13 (.slice (some ⟨b, off, none⟩) n cap) rfl rfl (by kernel_rfl) (by kernel_rfl) (by kernel_rfl) (fun _ _ _ h => h) (Or.inl ⟨by kernel_rfl, fun w' hS' => by go_simp⟩) hHeld ?_
      (try simp only [Act.put, List.setIfInBounds_toArray, List.set_cons_zero, List.set_cons_succ])
      refine take_at 6 14 (.int .i64 e) rfl rfl (by kernel_rfl) (by kernel_rfl) (by kernel_rfl) (fun _ _ _ h => h) (Or.inl ⟨by kernel_rfl, fun w' hS' => by go_simp⟩) hHeld ?_
      (try simp only [Act.put, List.setIfInBounds_toArray, List.set_cons_zero, List.set_cons_succ])
      refine take_at 7 15 (.pointer (some ⟨b, off + e, none⟩)) rfl rfl (by kernel_rfl) (by kernel_rfl) (by kernel_rfl) (fun _ _ _ h => h) (Or.inl ⟨by kernel_rfl, fun w' hS' => by go_simp⟩) hHeld ?_
      (try simp only [Act.put, List.setIfInBounds_toArray, List.set_cons_zero, List.set_cons_succ])
      refine take_at 8 16 (p2) rfl rfl (by kernel_rfl) (by kernel_rfl) (by kernel_rfl) (fun _ _ _ h => h) (Or.inl ⟨by kernel_rfl, fun w' hS' => by have hc := hS'.2.1; go_simp⟩) hHeld ?_
      (try simp only [Act.put, List.setIfInBounds_toArray, List.set_cons_zero, List.set_cons_succ])
      refine take_at 10 18 (.slice (some ⟨b, off, none⟩) n cap) rfl rfl (by kernel_rfl) (by kernel_rfl) (by kernel_rfl) (fun _ _ _ h => h) (Or.inl ⟨by kernel_rfl, fun w' hS' => by go_simp⟩) hHeld ?_
      (try simp only [Act.put, List.setIfInBounds_toArray, List.set_cons_zero, List.set_cons_succ])
      refine take_at 11 19 (.int .i64 i) rfl rfl (by kernel_rfl) (by kernel_rfl) (by kernel_rfl) (fun _ _ _ h => h) (Or.inl ⟨by kernel_rfl, fun w' hS' => by go_simp⟩) hHeld ?_
      (try simp only [Act.put, List.setIfInBounds_toArray, List.set_cons_zero, List.set_cons_succ])
      refine take_at 12 20 (.pointer (some ⟨b, off + i, none⟩)) rfl rfl (by kernel_rfl) (by kernel_rfl) (by kernel_rfl) (fun _ _ _ h => h) (Or.inl ⟨by kernel_rfl, fun w' hS' => by go_simp⟩) hHeld ?_
      (try simp only [Act.put, List.setIfInBounds_toArray, List.set_cons_zero, List.set_cons_succ])
      refine take_at 13 21 (p1) rfl rfl (by kernel_rfl) (by kernel_rfl) (by kernel_rfl) (fun _ _ _ h => h) (Or.inl ⟨by kernel_rfl, fun w' hS' => by have hc := hS'.1; go_simp⟩) hHeld ?_
      (try simp only [Act.put, List.setIfInBounds_toArray, List.set_cons_zero, List.set_cons_succ])
      refine wpAnyH_ready (rs := [9]) (by kernel_rfl) (by simp) ?_
      refine AllReadyH.cons rfl (fun K hK => ?_) AllReadyH.nil
      go_simp
      go_at_call 39
      refine (HL2.out _).mono ?_
      rintro _ u1 ⟨rfl, hb⟩
      have HB1 : Hid (Below w.heap.size w u1) := HBd.out.trans (hb.mono sd)
      have su1 : w.heap.size ≤ u1.heap.size := Nat.le_trans sd hb.size
      go_wp2_with fail
      refine hK.out _ _ (hHeld.below hb) (fun hHeld => ?_)
      clear hK K hb
      (try simp only [Act.put, List.setIfInBounds_toArray, List.set_cons_zero, List.set_cons_succ])
      refine wpAnyH_ready (rs := [14]) (by kernel_rfl) (by simp) ?_
      refine AllReadyH.cons rfl (fun K hK => ?_) AllReadyH.nil
      go_simp
      go_at_call 39
      refine (HL1.out _).mono ?_
      rintro _ u2 ⟨rfl, hb⟩
      have HB2 : Hid (Below w.heap.size w u2) := HB1.out.trans (hb.mono su1)
      have su2 : w.heap.size ≤ u2.heap.size := Nat.le_trans su1 hb.size
      go_wp2_with fail
      refine hK.out _ _ (hHeld.below hb) (fun hHeld => ?_)
      clear hK K hb
      (try simp only [Act.put, List.setIfInBounds_toArray, List.set_cons_zero, List.set_cons_succ])
      refine take_at 15 23 (.bool x) rfl rfl (by kernel_rfl) (by kernel_rfl) (by kernel_rfl) (fun _ _ _ h => h) (Or.inl ⟨by kernel_rfl, fun w' hS' => by have hq := HX.out; go_simp⟩) hHeld ?_
      (try simp only [Act.put, List.setIfInBounds_toArray, List.set_cons_zero, List.set_cons_succ])
      refine take_at 16 24 (.bool x) rfl rfl (by kernel_rfl) (by kernel_rfl) (by kernel_rfl) (fun _ _ _ h => h) (Or.inl ⟨by kernel_rfl, fun w' hS' => by go_simp⟩) hHeld ?_
      (try simp only [Act.put, List.setIfInBounds_toArray, List.set_cons_zero, List.set_cons_succ])
      refine wpAnyH_done (by kernel_rfl) ?_ _
      refine NoPanic.normal ?_
      clear hHeld
      cases x
      · have hx : ¬ v1 < v2 := by have := HX.out; simp at this; omega
        go_wp2_with fail
        go_ret
        refine ⟨?_, HB2.out⟩
        rw [endL_of he1 (by have := HN.out; omega) HAll.out (fun _ => by rw [HV1.out, HV2.out]; omega)]
        rfl
      · have hx : v1 < v2 := by have := HX.out; simpa using this
        go_wp2_with fail
        go_roundw
        case rel =>
          refine ⟨e + 1, by omega, by omega, by go_num, fun k hk1 hk2 => ?_, HB2.out⟩
          by_cases hke : k = e
          · subst hke
            rw [HV1.out, HV2.out]
            exact hx
          · exact HAll.out k hk1 (by omega)
        case measure => simp [intOf]; omega
    · obtain rfl : e = n := by omega
      have heb : ¬ (e : Int) < (e : Int) := by omega
      clear hb
      go_wp2_with fail
      refine wp_region_noPanic ?_
      refine wp_region_held_drew (S := fun w' => True) (by kernel_rfl) trivial (fun hHeld => ?_)
      have HBd : Hid (Below w.heap.size w wr.drew) := HB.out.drew
      generalize wr.drew = u0 at HBd ⊢
      clear HB
      refine take_at 0 8 (.int .i64 e) rfl rfl (by kernel_rfl) (by kernel_rfl) (by kernel_rfl) (fun _ _ _ h => h) (Or.inl ⟨by kernel_rfl, fun w' hS' => by go_simp⟩) hHeld ?_
      (try simp only [Act.put, List.setIfInBounds_toArray, List.set_cons_zero, List.set_cons_succ])
      refine take_at 1 9 (.slice a e cap) rfl rfl (by kernel_rfl) (by kernel_rfl) (by kernel_rfl) (fun _ _ _ h => h) (Or.inl ⟨by kernel_rfl, fun w' hS' => by go_simp⟩) hHeld ?_
      (try simp only [Act.put, List.setIfInBounds_toArray, List.set_cons_zero, List.set_cons_succ])
      refine take_at 2 10 (.int .i64 e) rfl rfl (by kernel_rfl) (by kernel_rfl) (by kernel_rfl) (fun _ _ _ h => h) (Or.inl ⟨by kernel_rfl, fun w' hS' => by go_simp⟩) hHeld ?_
      (try simp only [Act.put, List.setIfInBounds_toArray, List.set_cons_zero, List.set_cons_succ])
      refine take_at 3 11 (.bool false) rfl rfl (by kernel_rfl) (by kernel_rfl) (by kernel_rfl) (fun _ _ _ h => h) (Or.inl ⟨by kernel_rfl, fun w' hS' => by go_simp⟩) hHeld ?_
      (try simp only [Act.put, List.setIfInBounds_toArray, List.set_cons_zero, List.set_cons_succ])
      refine take_at 4 12 (.bool false) rfl rfl (by kernel_rfl) (by kernel_rfl) (by kernel_rfl) (fun _ _ _ h => h) (Or.inl ⟨by kernel_rfl, fun w' hS' => by go_simp⟩) hHeld ?_
      (try simp only [Act.put, List.setIfInBounds_toArray, List.set_cons_zero, List.set_cons_succ])
      refine take_at 5 13 (undef) rfl rfl (by kernel_rfl) (by kernel_rfl) (by kernel_rfl) (fun _ _ _ h => h) (Or.inr ⟨by kernel_rfl, rfl⟩) hHeld ?_
      (try simp only [Act.put, List.setIfInBounds_toArray, List.set_cons_zero, List.set_cons_succ])
      refine take_at 6 14 (undef) rfl rfl (by kernel_rfl) (by kernel_rfl) (by kernel_rfl) (fun _ _ _ h => h) (Or.inr ⟨by kernel_rfl, rfl⟩) hHeld ?_
      (try simp only [Act.put, List.setIfInBounds_toArray, List.set_cons_zero, List.set_cons_succ])
      refine take_at 7 15 (undef) rfl rfl (by kernel_rfl) (by kernel_rfl) (by kernel_rfl) (fun _ _ _ h => h) (Or.inr ⟨by kernel_rfl, rfl⟩) hHeld ?_
      (try simp only [Act.put, List.setIfInBounds_toArray, List.set_cons_zero, List.set_cons_succ])
      refine take_at 8 16 (undef) rfl rfl (by kernel_rfl) (by kernel_rfl) (by kernel_rfl) (fun _ _ _ h => h) (Or.inr ⟨by kernel_rfl, rfl⟩) hHeld ?_
      (try simp only [Act.put, List.setIfInBounds_toArray, List.set_cons_zero, List.set_cons_succ])
      refine take_at 9 17 (undef) rfl rfl (by kernel_rfl) (by kernel_rfl) (by kernel_rfl) (fun _ _ _ h => h) (Or.inr ⟨by kernel_rfl, rfl⟩) hHeld ?_
      (try simp only [Act.put, List.setIfInBounds_toArray, List.set_cons_zero, List.set_cons_succ])
      refine take_at 10 18 (undef) rfl rfl (by kernel_rfl) (by kernel_rfl) (by kernel_rfl) (fun _ _ _ h => h) (Or.inr ⟨by kernel_rfl, rfl⟩) hHeld ?_
      (try simp only [Act.put, List.setIfInBounds_toArray, List.set_cons_zero, List.set_cons_succ])
      refine take_at 11 19 (undef) rfl rfl (by kernel_rfl) (by kernel_rfl) (by kernel_rfl) (fun _ _ _ h => h) (Or.inr ⟨by kernel_rfl, rfl⟩) hHeld ?_
      (try simp only [Act.put, List.setIfInBounds_toArray, List.set_cons_zero, List.set_cons_succ])
      refine take_at 12 20 (undef) rfl rfl (by kernel_rfl) (by kernel_rfl) (by kernel_rfl) (fun _ _ _ h => h) (Or.inr ⟨by kernel_rfl, rfl⟩) hHeld ?_
      (try simp only [Act.put, List.setIfInBounds_toArray, List.set_cons_zero, List.set_cons_succ])
      refine take_at 13 21 (undef) rfl rfl (by kernel_rfl) (by kernel_rfl) (by kernel_rfl) (fun _ _ _ h => h) (Or.inr ⟨by kernel_rfl, rfl⟩) hHeld ?_
      (try simp only [Act.put, List.setIfInBounds_toArray, List.set_cons_zero, List.set_cons_succ])
      refine take_at 14 22 (undef) rfl rfl (by kernel_rfl) (by kernel_rfl) (by kernel_rfl) (fun _ _ _ h => h) (Or.inr ⟨by kernel_rfl, rfl⟩) hHeld ?_
      (try simp only [Act.put, List.setIfInBounds_toArray, List.set_cons_zero, List.set_cons_succ])
      refine take_at 15 23 (undef) rfl rfl (by kernel_rfl) (by kernel_rfl) (by kernel_rfl) (fun _ _ _ h => h) (Or.inr ⟨by kernel_rfl, rfl⟩) hHeld ?_
      (try simp only [Act.put, List.setIfInBounds_toArray, List.set_cons_zero, List.set_cons_succ])
      refine take_at 16 24 (.bool false) rfl rfl (by kernel_rfl) (by kernel_rfl) (by kernel_rfl) (fun _ _ _ h => h) (Or.inl ⟨by kernel_rfl, fun w' hS' => by go_simp⟩) hHeld ?_
      (try simp only [Act.put, List.setIfInBounds_toArray, List.set_cons_zero, List.set_cons_succ])
      refine wpAnyH_done (by kernel_rfl) ?_ _
      refine NoPanic.normal ?_
      clear hHeld
      go_wp2_with fail
      go_ret
      refine ⟨?_, HBd.out⟩
      rw [endL_of he1 (by have := HN.out; omega) HAll.out (fun h => by have := HN.out; omega)]
      rfl
end Go.Proofs.Ytlpfflcogefbjaa
namespace Go.Proofs.Ytlpfflcogefbjaa
open Go.RowKit

def bump (z : Int) (x : Bl) : Bl := (x.1, x.2.1 + z, x.2.2)
/-- The parts from i up to m are z deeper. -/
def deepTo (d : List Bl) (i : Nat) (z : Int) (m : Nat) : List Bl := (List.range d.length).map fun k => if i ≤ k ∧ k < m then bump z (d.getD k bl0) else d.getD k bl0
def deepL (d : List Bl) (i : Nat) (z : Int) : List Bl := deepTo d i z (endL d i)
theorem deepTo_len (d : List Bl) (i : Nat) (z : Int) (m : Nat) : (deepTo d i z m).length = d.length := by simp [deepTo]
theorem deepTo_get {d : List Bl} {i : Nat} {z : Int} {m k : Nat} (hk : k < d.length) : (deepTo d i z m).getD k bl0 = if i ≤ k ∧ k < m then bump z (d.getD k bl0) else d.getD k bl0 := by
  simp only [deepTo, List.getD, List.getElem?_map, List.getElem?_range hk, Option.map_some, Option.getD_some]
theorem bl_ext {a b : List Bl} (hl : a.length = b.length) (h : ∀ k, k < b.length → a.getD k bl0 = b.getD k bl0) : a = b := by
  apply List.ext_getElem hl
  intro k h1 h2
  have := h k h2
  rwa [getD_bl h1, getD_bl h2] at this
theorem deepTo_start (d : List Bl) (i : Nat) (z : Int) : deepTo d i z i = d := bl_ext (deepTo_len _ _ _ _) fun k hk => by rw [deepTo_get hk, if_neg (by omega)]
theorem deepTo_succ {d : List Bl} {i : Nat} {z : Int} {m : Nat} (hi : i ≤ m) : deepTo d i z (m + 1) = (deepTo d i z m).set m (bump z (d.getD m bl0)) := by
  refine bl_ext (by simp [deepTo_len]) fun k hk => ?_
  rw [List.length_set, deepTo_len] at hk
  rw [deepTo_get hk]
  by_cases e : m = k
  · subst e
    rw [if_pos (by omega), show ((deepTo d i z m).set m (bump z (d.getD m bl0))).getD m bl0 = bump z (d.getD m bl0) by simp [List.getD, deepTo_len, hk]]
  · rw [show ((deepTo d i z m).set m (bump z (d.getD m bl0))).getD k bl0 = (deepTo d i z m).getD k bl0 by simp [List.getD, List.getElem?_set_ne e], deepTo_get hk]
    by_cases h1 : i ≤ k ∧ k < m
    · rw [if_pos h1, if_pos (by omega)]
    · rw [if_neg h1, if_neg (by omega)]
theorem ownP_cap {w : World} {B : Nat} {pa : Option Addr} {n pc : Nat} {ps : List Value} (h : OwnP w B (.slice pa n pc) ps) : n ≤ pc ∧ pc ≤ 2 ^ 63 - 1 := by
  have hr := h.row
  rcases hr.2 with ⟨hv, h0⟩ | ⟨g, cap, cur, hv, hg, hgg, a1, a2, _⟩
  · simp only [Value.slice.injEq] at hv
    omega
  · simp only [Value.slice.injEq] at hv
    unfold maxLen at a2
    omega
set_option maxRecDepth 100000 in
set_option maxHeartbeats 8000000 in
theorem deepen_any {w w0 : World} {B : Nat} {pa : Option Addr} {n pc : Nat} {ps : List Value} {d : List Bl} {i : Nat} {z : Int} (h : OwnP w B (.slice pa n pc) ps) (hp : PartsAre w0 ps d) (hk : ∀ y ∈ d, kindB y) (hi : i < n) (hn : n ≤ 8) (hB : B ≤ w.heap.size) (hb0 : Below w0.heap.size w0 w)
    (hz : z = 1 ∨ z = -1) (hit : ∀ k, i ≤ k → k < endL d i → (d.getD k bl0).1 = 2 ∧ 0 ≤ (d.getD k bl0).2.1 ∧ (d.getD k bl0).2.1 ≤ 3) :
    Calls Try.prog 68 #[.slice pa n pc, .int .i64 i, .int .i64 z] w fun e w' => (∃ v, e = .returned v) ∧ (∃ ps', OwnP w' B (.slice pa n pc) ps' ∧ PartsAre w0 ps' (deepL d i z)) ∧ Below B w w' := by
  have HND : Hid (n = d.length) := h.len.trans hp.1
  have HOU : Hid (Outl w pa n pc d) := outl_of h (hp.below hb0)
  obtain ⟨hpc1, hpc2⟩ := ownP_cap h
  have HO : Hid (OwnP w B (.slice pa n pc) ps) := h
  have HP : Hid (PartsAre w0 ps d) := hp
  have HK : Hid (∀ y ∈ d, kindB y) := hk
  have HIT : Hid (∀ k, i ≤ k → k < endL d i → (d.getD k bl0).1 = 2 ∧ 0 ≤ (d.getD k bl0).2.1 ∧ (d.getD k bl0).2.1 ≤ 3) := hit
  have hle : endL d i ≤ n := by
    rw [HND.out]
    exact endL_le (by have := HND.out; omega)
  have hge : i + 1 ≤ endL d i := by unfold endL; omega
  have HDL : Hid (deepL d i z = deepTo d i z (endL d i)) := rfl
  clear h hp hk hit hb0
  obtain ⟨E, HE⟩ : ∃ E, Hid (endL d i = E) := ⟨_, rfl⟩
  rw [HE.out] at hle hge HDL HIT
  go_enter Try.func68, Try.ntmps68
  go_upto_region 1 with (go_at_call 71; refine (endBelow_any HOU.out HK.out hi hn).mono ?_; rintro e w1 ⟨rfl, hb1⟩; rw [HE.out])
  have HO1 : Hid (OwnP w1 B (.slice pa n pc) ps) := HO.out.below hb1
  have s1 := hb1.size
  have HB1 : Hid (Below B w w1) := hb1.mono hB
  clear hb1 HO HOU
  go_wp2_with fail
  go_loopw [7] (fun mv wr => ∃ (m : Nat) (ps' : List Value), i ≤ m ∧ m ≤ E ∧ mv = .int .i64 m ∧ OwnP wr B (.slice pa n pc) ps' ∧ PartsAre w0 ps' (deepTo d i z m) ∧ B ≤ wr.heap.size ∧ Below B w wr) (fun mv _ => E - (intOf mv).toNat)
  case atStart => exact ⟨i, ps, Nat.le_refl _, by omega, rfl, HO1.out, by rw [deepTo_start]; exact HP.out, by omega, HB1.out⟩
  case round =>
    obtain ⟨m, ps', hm1, hm2, rfl, ho, hp, hs, hb⟩ := hrel
    have HOw : Hid (OwnP wr B (.slice pa n pc) ps') := ho
    have HPw : Hid (PartsAre w0 ps' (deepTo d i z m)) := hp
    have HB : Hid (Below B w wr) := hb
    clear hp hb
    by_cases hlt : m < E
    · have hmb : (m : Int) < (E : Int) := by omega
      have hmn : (m : Int) < (n : Int) := by omega
      have hm0 : (0 : Int) ≤ (m : Int) := by omega
      have hmd : m < d.length := by have := HND.out; omega
      obtain ⟨g, rfl, hg1, hg2, hcell, hfz⟩ := ownP_at ho (show m < n by omega)
      have hpm := HPw.out.2 m (by rw [deepTo_len]; exact hmd)
      rw [deepTo_get hmd, if_neg (by omega)] at hpm
      obtain ⟨ta, tn, tc, ca, cn, cc, hpv, ht, hc⟩ := hpm
      obtain ⟨k2, hv0, hv3⟩ := HIT.out m hm1 hlt
      have HSU : Hid (deepTo d i z (m + 1) = (deepTo d i z m).set m (bump z (d.getD m bl0))) := deepTo_succ hm1
      obtain ⟨⟨K, V, t, R, C, l⟩, hx⟩ : ∃ x, x = d.getD m bl0 := ⟨_, rfl⟩
      rw [← hx] at hpv ht hc k2 hv0 hv3 HSU
      simp only at hpv ht hc k2 hv0 hv3
      subst k2
      rw [hpv] at hcell
      have c0 : wr.cell? ⟨g, m, none⟩ = some (.iface 103 (.agg #[.int .i64 V, .slice ta tn tc])) := hcell
      have HPI : Hid (PartIs w0 (.iface 103 (.agg #[.int .i64 (V + z), .slice ta tn tc])) (bump z (2, V, t, R, C, l))) := ⟨ta, tn, tc, ca, cn, cc, rfl, ht, hc⟩
      clear hcell hx hpv ht hc ho
      have c1 : (wr.alloc (.cells #[.int .i64 V, .slice ta tn tc] 103)).cell? ⟨g, m, none⟩ = some (.iface 103 (.agg #[.int .i64 V, .slice ta tn tc])) := by
        rw [← c0]
        exact ((Below.refl wr.heap.size wr).alloc (Nat.le_refl _) _).cell (p := ⟨g, m, none⟩) hg2
      go_wp2_with fail
      rw [assert_item]
      go_wp2_with fail
      go_roundw
      case rel =>
        refine ⟨m + 1, ps'.set m (.iface 103 (.agg #[.int .i64 (V + z), .slice ta tn tc])), by omega, by omega, by go_num, ?_, ?_, by simp; omega, ?_⟩
        · exact World.ownsRow.alloc (ownP_set HOw.out _ _) _
        · rw [HSU.out]
          exact HPw.out.set m HPI.out
        · exact (HB.out.setCell (p := ⟨g, m, none⟩) hg1 _).alloc (by simp; omega) _
      case measure => simp [intOf]; omega
    · obtain rfl : m = E := by omega
      have hmb : ¬ (m : Int) < (m : Int) := by omega
      clear ho
      go_wp2_with fail
      go_end0
      exact ⟨⟨_, rfl⟩, ⟨ps', HOw.out, by rw [HDL.out]; exact HPw.out⟩, HB.out⟩
/-- The items of a group, in form. -/
theorem group_items {d : List Bl} {i : Nat} (hd : outlB d = true) (hi : i < d.length) (h2 : (d.getD i bl0).1 = 2) (k : Nat) (h1 : i ≤ k) (hk : k < endL d i) : (d.getD k bl0).1 = 2 ∧ 0 ≤ (d.getD k bl0).2.1 ∧ (d.getD k bl0).2.1 ≤ 3 := by
  have item : ∀ k, k < d.length → (d.getD k bl0).1 = 2 → 0 ≤ (d.getD k bl0).2.1 ∧ (d.getD k bl0).2.1 ≤ 3 := fun k hk h => by
    have := outlB_part hd hk
    unfold partOkB at this
    rw [if_neg (by omega), if_pos h, Bool.and_eq_true, decide_eq_true_eq] at this
    exact this.1
  have hkd : k < d.length := Nat.lt_of_lt_of_le hk (endL_le hi)
  by_cases e : k = i
  · subst e
    exact ⟨h2, item k hkd h2⟩
  · have hdp := endL_deeper hi (by omega) hk
    have h0 := item i hi h2
    unfold lvN at hdp
    rw [if_pos h2] at hdp
    by_cases hk2 : (d.getD k bl0).1 = 2
    · exact ⟨hk2, item k hkd hk2⟩
    · rw [if_neg hk2] at hdp
      omega
def sinkF (d : List Bl) (i : Nat) : Option (List Bl) := if (d.getD i bl0).1 = 2 then some (deepL d i 1) else none
def liftF (d : List Bl) (i : Nat) : Option (List Bl) := if (d.getD i bl0).1 = 2 then (if 0 < (d.getD i bl0).2.1 then some (deepL d i (-1)) else if endL d i = i + 1 then some (d.set i (1, 0, (d.getD i bl0).2.2.1, 0, 0, [])) else none) else none
set_option maxRecDepth 100000 in
set_option maxHeartbeats 8000000 in
theorem sink_any {w w0 : World} {B : Nat} {pa : Option Addr} {n pc : Nat} {ps : List Value} {d : List Bl} {i : Nat} (h : OwnP w B (.slice pa n pc) ps) (hp : PartsAre w0 ps d) (hk : ∀ y ∈ d, kindB y) (hi : i < n) (hB : B ≤ w.heap.size) (hb0 : Below w0.heap.size w0 w) (hd : outlB d = true) :
    Calls Try.prog 50 #[.slice pa n pc, .int .i64 i] w fun e w' => e = .returned (.bool (sinkF d i).isSome) ∧ (∃ ps', OwnP w' B (.slice pa n pc) ps' ∧ PartsAre w0 ps' ((sinkF d i).getD d)) ∧ Below B w w' := by
  have hdl : i < d.length := by rw [← hp.1, ← h.len]; exact hi
  have hn8 : n ≤ 8 := by
    have := hd
    unfold outlB at this
    rw [Bool.and_eq_true, decide_eq_true_eq] at this
    rw [h.len, hp.1]
    exact this.1
  obtain ⟨g, rfl, hg1, hg2, hcell, hfz⟩ := ownP_at h hi
  obtain ⟨hpc1, hpc2⟩ := ownP_cap h
  obtain ⟨ta, tn, tc, ca, cn, cc, hpv, ht, hc⟩ := hp.2 i hdl
  have hkd := hk (d.getD i bl0) (by rw [getD_bl hdl]; exact List.getElem_mem hdl)
  have HP : Hid (PartsAre w0 ps d) := hp
  have HO : Hid (OwnP w B (.slice (some ⟨g, 0, none⟩) n pc) ps) := h
  have HK : Hid (∀ y ∈ d, kindB y) := hk
  have HB0 : Hid (Below w0.heap.size w0 w) := hb0
  have HGI : Hid ((d.getD i bl0).1 = 2 → ∀ k, i ≤ k → k < endL d i → (d.getD k bl0).1 = 2 ∧ 0 ≤ (d.getD k bl0).2.1 ∧ (d.getD k bl0).2.1 ≤ 3) := fun h2 => group_items hd hdl h2
  rw [hpv] at hcell
  obtain ⟨⟨K, V, t, R, C, l⟩, hx⟩ : ∃ x, x = d.getD i bl0 := ⟨_, rfl⟩
  rw [← hx] at hcell hkd ht HGI
  have HEN : Hid (sinkF d i = if K = 2 then some (deepL d i 1) else none) := by
    show sinkF d i = _
    unfold sinkF
    rw [← hx]
  have hib : (i : Int) < (n : Int) := by omega
  have hi0 : (0 : Int) ≤ (i : Int) := by omega
  unfold kindB at hkd
  simp only at hkd ht hcell HGI
  have HT : Hid (Txt w0 ta tn tc t) := ht
  clear hx h hp hk hpv hc ht hb0 hd
  rcases hkd with hK | hK | hK
  · subst hK
    have c0 : w.cell? ⟨g, i, none⟩ = some (.iface 111 (.agg #[.slice ta tn tc])) := hcell
    clear hcell
    rw [HEN.out, if_neg (by decide)]
    go_enter Try.func50, Try.ntmps50
    go_wp2_with fail
    rw [assert_other (by decide)]
    go_wp2_with fail
    go_ret
    exact ⟨rfl, ⟨ps, HO.out, HP.out⟩, Below.refl _ _⟩
  rotate_left
  · subst hK
    have c0 : w.cell? ⟨g, i, none⟩ = some (.iface 119 (.agg #[.int .i64 R, .int .i64 C, .slice ca cn cc])) := hcell
    clear hcell
    rw [HEN.out, if_neg (by decide)]
    go_enter Try.func50, Try.ntmps50
    go_wp2_with fail
    rw [assert_other (by decide)]
    go_wp2_with fail
    go_ret
    exact ⟨rfl, ⟨ps, HO.out, HP.out⟩, Below.refl _ _⟩
  · subst hK
    have c0 : w.cell? ⟨g, i, none⟩ = some (.iface 103 (.agg #[.int .i64 V, .slice ta tn tc])) := hcell
    clear hcell
    have HG2 : Hid (∀ k, i ≤ k → k < endL d i → (d.getD k bl0).1 = 2 ∧ 0 ≤ (d.getD k bl0).2.1 ∧ (d.getD k bl0).2.1 ≤ 3) := HGI.out rfl
    rw [HEN.out, if_pos rfl]
    go_enter Try.func50, Try.ntmps50
    go_wp2_with fail
    rw [assert_item]
    go_wp2_with (go_at_call 68; refine (deepen_any HO.out HP.out HK.out hi hn8 hB HB0.out (.inl rfl) HG2.out).mono ?_; rintro e w1 ⟨⟨v, rfl⟩, ⟨ps', ho, hp⟩, hb⟩)
    go_ret
    exact ⟨rfl, ⟨ps', ho, hp⟩, hb⟩
set_option maxRecDepth 100000 in
set_option maxHeartbeats 8000000 in
theorem lift_any {w w0 : World} {B : Nat} {pa : Option Addr} {n pc : Nat} {ps : List Value} {d : List Bl} {i : Nat} (h : OwnP w B (.slice pa n pc) ps) (hp : PartsAre w0 ps d) (hk : ∀ y ∈ d, kindB y) (hi : i < n) (hB : B ≤ w.heap.size) (hb0 : Below w0.heap.size w0 w) (hd : outlB d = true) :
    Calls Try.prog 52 #[.slice pa n pc, .int .i64 i] w fun e w' => e = .returned (.bool (liftF d i).isSome) ∧ (∃ ps', OwnP w' B (.slice pa n pc) ps' ∧ PartsAre w0 ps' ((liftF d i).getD d)) ∧ Below B w w' := by
  have hdl : i < d.length := by rw [← hp.1, ← h.len]; exact hi
  have hn8 : n ≤ 8 := by
    have := hd
    unfold outlB at this
    rw [Bool.and_eq_true, decide_eq_true_eq] at this
    rw [h.len, hp.1]
    exact this.1
  obtain ⟨g, rfl, hg1, hg2, hcell, hfz⟩ := ownP_at h hi
  obtain ⟨hpc1, hpc2⟩ := ownP_cap h
  obtain ⟨ta, tn, tc, ca, cn, cc, hpv, ht, hc⟩ := hp.2 i hdl
  have hkd := hk (d.getD i bl0) (by rw [getD_bl hdl]; exact List.getElem_mem hdl)
  have HP : Hid (PartsAre w0 ps d) := hp
  have HO : Hid (OwnP w B (.slice (some ⟨g, 0, none⟩) n pc) ps) := h
  have HK : Hid (∀ y ∈ d, kindB y) := hk
  have HB0 : Hid (Below w0.heap.size w0 w) := hb0
  have HGI : Hid ((d.getD i bl0).1 = 2 → ∀ k, i ≤ k → k < endL d i → (d.getD k bl0).1 = 2 ∧ 0 ≤ (d.getD k bl0).2.1 ∧ (d.getD k bl0).2.1 ≤ 3) := fun h2 => group_items hd hdl h2
  rw [hpv] at hcell
  obtain ⟨⟨K, V, t, R, C, l⟩, hx⟩ : ∃ x, x = d.getD i bl0 := ⟨_, rfl⟩
  rw [← hx] at hcell hkd ht HGI
  have HEN : Hid (liftF d i = if K = 2 then (if 0 < V then some (deepL d i (-1)) else if endL d i = i + 1 then some (d.set i (1, 0, t, 0, 0, [])) else none) else none) := by
    show liftF d i = _
    unfold liftF
    rw [← hx]
  have hib : (i : Int) < (n : Int) := by omega
  have hi0 : (0 : Int) ≤ (i : Int) := by omega
  unfold kindB at hkd
  simp only at hkd ht hcell HGI
  have HT : Hid (Txt w0 ta tn tc t) := ht
  clear hx h hp hk hpv hc ht hb0 hd
  rcases hkd with hK | hK | hK
  · subst hK
    have c0 : w.cell? ⟨g, i, none⟩ = some (.iface 111 (.agg #[.slice ta tn tc])) := hcell
    clear hcell
    rw [HEN.out, if_neg (by decide)]
    go_enter Try.func52, Try.ntmps52
    go_wp2_with fail
    rw [assert_other (by decide)]
    go_wp2_with fail
    go_ret
    exact ⟨rfl, ⟨ps, HO.out, HP.out⟩, Below.refl _ _⟩
  rotate_left
  · subst hK
    have c0 : w.cell? ⟨g, i, none⟩ = some (.iface 119 (.agg #[.int .i64 R, .int .i64 C, .slice ca cn cc])) := hcell
    clear hcell
    rw [HEN.out, if_neg (by decide)]
    go_enter Try.func52, Try.ntmps52
    go_wp2_with fail
    rw [assert_other (by decide)]
    go_wp2_with fail
    go_ret
    exact ⟨rfl, ⟨ps, HO.out, HP.out⟩, Below.refl _ _⟩
  · subst hK
    have c0 : w.cell? ⟨g, i, none⟩ = some (.iface 103 (.agg #[.int .i64 V, .slice ta tn tc])) := hcell
    clear hcell
    have HG2 : Hid (∀ k, i ≤ k → k < endL d i → (d.getD k bl0).1 = 2 ∧ 0 ≤ (d.getD k bl0).2.1 ∧ (d.getD k bl0).2.1 ≤ 3) := HGI.out rfl
    rw [HEN.out, if_pos rfl]
    have B1 : Below w.heap.size w (w.alloc (.cells #[.int .i64 V, .slice ta tn tc] 103)) := (Below.refl _ _).alloc (Nat.le_refl _) _
    have HO1 : Hid (OwnP (w.alloc (.cells #[.int .i64 V, .slice ta tn tc] 103)) B (.slice (some ⟨g, 0, none⟩) n pc) ps) := HO.out.below B1
    have HB01 : Hid (Below w0.heap.size w0 (w.alloc (.cells #[.int .i64 V, .slice ta tn tc] 103))) := HB0.out.trans (B1.mono HB0.out.size)
    have s1 : B ≤ (w.alloc (.cells #[.int .i64 V, .slice ta tn tc] 103)).heap.size := by simp; omega
    by_cases hv : 0 < V
    · rw [if_pos hv]
      go_enter Try.func52, Try.ntmps52
      go_wp2_with fail
      rw [assert_item]
      go_wp2_with (go_at_call 68; refine (deepen_any HO1.out HP.out HK.out hi hn8 s1 HB01.out (.inr rfl) HG2.out).mono ?_; rintro e w1 ⟨⟨v, rfl⟩, ⟨ps', ho, hp⟩, hb⟩)
      go_ret
      exact ⟨rfl, ⟨ps', ho, hp⟩, ((Below.refl _ _).alloc hB _).trans hb⟩
    · rw [if_neg hv]
      have HOU : Hid (Outl (w.alloc (.cells #[.int .i64 V, .slice ta tn tc] 103)) (some ⟨g, 0, none⟩) n pc d) := outl_of HO1.out (HP.out.below HB01.out)
      obtain ⟨E, HE⟩ : ∃ E, Hid (endL d i = E) := ⟨_, rfl⟩
      have hle : E ≤ n := by
        rw [← HE.out, HO.out.len, HP.out.1]
        exact endL_le hdl
      rw [HE.out]
      by_cases he : E = i + 1
      · have hde : ((E : Int) == (i : Int) + 1) = true := by simp; omega
        rw [if_pos he]
        go_enter Try.func52, Try.ntmps52
        go_wp2_with fail
        rw [assert_item]
        go_upto_region 8 with (go_at_call 71; refine (endBelow_any HOU.out HK.out hi hn8).mono ?_; rintro e w1 ⟨rfl, hb1⟩; rw [HE.out])
        have s2 := hb1.size
        have q1 : w1.cell? ⟨w.heap.size, 1, none⟩ = some (.slice ta tn tc) := ((rowAt_new w #[.int .i64 V, .slice ta tn tc] 103).below hb1 (by simp)).cell 1
        have HO2 : Hid (OwnP w1 B (.slice (some ⟨g, 0, none⟩) n pc) ps) := HO1.out.below hb1
        have HB2 : Hid (Below B w w1) := ((Below.refl _ _).alloc hB _).trans (hb1.mono s1)
        obtain ⟨pv, c2⟩ : ∃ u, w1.cell? ⟨g, i, none⟩ = some u := by
          obtain ⟨g', e', -, -, c, -⟩ := ownP_at HO2.out hi
          cases e'
          exact ⟨_, c⟩
        have f2 : w1.frozen? ⟨g, i, none⟩ = false := HO2.out.row.frozenAt i
        clear hb1
        go_wp2_with fail
        go_ret
        refine ⟨rfl, ⟨ps.set i (.iface 111 (.agg #[.slice ta tn tc])), ownP_set HO2.out _ _, ?_⟩, HB2.out.setCell (p := ⟨g, i, none⟩) hg1 _⟩
        exact HP.out.set i ⟨ta, tn, tc, none, 0, 0, rfl, HT.out, tab_none _⟩
      · have hde : ((E : Int) == (i : Int) + 1) = false := by simp; omega
        rw [if_neg he]
        go_enter Try.func52, Try.ntmps52
        go_wp2_with fail
        rw [assert_item]
        go_wp2_with (go_at_call 71; refine (endBelow_any HOU.out HK.out hi hn8).mono ?_; rintro e w1 ⟨rfl, hb1⟩; rw [HE.out])
        go_ret
        exact ⟨rfl, ⟨ps, HO1.out.below hb1, HP.out⟩, ((Below.refl _ _).alloc hB _).trans (hb1.mono s1)⟩
end Go.Proofs.Ytlpfflcogefbjaa
