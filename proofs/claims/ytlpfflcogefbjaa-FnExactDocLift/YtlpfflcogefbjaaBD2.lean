import Derived.Test.YtlpfflcogefbjaaBD1
import Derived.Test.YtlpfflcogefbjaaBA1
import Derived.Deep.Cut
namespace Go.Proofs.Ytlpfflcogefbjaa
open Go.RowKit

/-- The document that comes of a change of a part, if one does. -/
def docF (F : List Bl → Nat → Option (List Bl)) (d : List Bl) (z : Int) : Option (List Bl) :=
  if docB d = true ∧ 0 ≤ z ∧ z < d.length then (F d z.toNat).bind fun d' => if outlB d' = true then some d' else none else none
def DocRes (r : Option (List Bl)) (B : Nat) (e : Ending) (w' : World) : Prop :=
  (r = none ∧ e = .returned (.tuple #[.agg #[.slice none 0 0], .bool false])) ∨ (∃ d' p q rbs, r = some d' ∧ e = .returned (.tuple #[.agg #[.slice p d'.length q], .bool true]) ∧ DocOwn w' B w'.heap.size (.slice p d'.length q) rbs d')
theorem run_docOf {w : World} {g : Nat} {s : Value} (h : RowAt w g #[s] 29) : (loadVar 29 ⟨g, 0, none⟩).run Try.prog w = .ok (.agg #[s]) w :=
  run_loadVar_row w g 29 29 #[s] (0, 0) _ h Try.underlying29 rfl docI_info
theorem docB_parts {d : List Bl} (h : docB d = true) : d.length ≤ 8 ∧ d.all partBB = true ∧ outlB d = true := (doc_parts2 d).1 h
theorem all_set {d : List Bl} {i : Nat} {x : Bl} (h : d.all partBB = true) (hx : partBB x = true) : (d.set i x).all partBB = true := by
  rw [List.all_eq_true] at h ⊢
  intro y hy
  rcases List.mem_or_eq_of_mem_set hy with h1 | h1
  · exact h y h1
  · rw [h1]; exact hx
theorem all_deep {d : List Bl} {i : Nat} {z : Int} (h : d.all partBB = true) (hg : ∀ k, i ≤ k → k < endL d i → (d.getD k bl0).1 = 2) : (deepL d i z).all partBB = true := by
  rw [List.all_eq_true] at h ⊢
  intro y hy
  unfold deepL deepTo at hy
  rw [List.mem_map] at hy
  obtain ⟨k, hk, rfl⟩ := hy
  have hk' := List.mem_range.1 hk
  have hd := h (d.getD k bl0) (by rw [getD_bl hk']; exact List.getElem_mem hk')
  by_cases e : i ≤ k ∧ k < endL d i
  · rw [if_pos e]
    have h2 := hg k e.1 e.2
    unfold partBB partB at hd
    rw [if_neg (by omega), if_pos h2] at hd
    unfold partBB partB bump
    simp only
    rw [if_neg (by omega), if_pos h2]
    exact hd
  · rw [if_neg e]
    exact hd
theorem enlF_form {d d' : List Bl} {i : Nat} (h : d.all partBB = true) (_ : outlB d = true) (_ : i < d.length) (e : enlF d i = some d') : d'.all partBB = true ∧ d'.length = d.length := by
  unfold enlF at e
  by_cases h1 : (d.getD i bl0).1 = 1
  · rw [if_pos h1] at e
    cases e
    exact ⟨all_set h (by simp [partBB, partB, noneB]), by simp⟩
  · rw [if_neg h1] at e
    cases e
theorem sinkF_form {d d' : List Bl} {i : Nat} (h : d.all partBB = true) (ho : outlB d = true) (hi : i < d.length) (e : sinkF d i = some d') : d'.all partBB = true ∧ d'.length = d.length := by
  unfold sinkF at e
  by_cases h1 : (d.getD i bl0).1 = 2
  · rw [if_pos h1] at e
    cases e
    exact ⟨all_deep h (fun k a b => (group_items ho hi h1 k a b).1), by simp [deepL, deepTo_len]⟩
  · rw [if_neg h1] at e
    cases e
theorem liftF_form {d d' : List Bl} {i : Nat} (h : d.all partBB = true) (ho : outlB d = true) (hi : i < d.length) (e : liftF d i = some d') : d'.all partBB = true ∧ d'.length = d.length := by
  unfold liftF at e
  by_cases h1 : (d.getD i bl0).1 = 2
  · rw [if_pos h1] at e
    by_cases h2 : 0 < (d.getD i bl0).2.1
    · rw [if_pos h2] at e
      cases e
      exact ⟨all_deep h (fun k a b => (group_items ho hi h1 k a b).1), by simp [deepL, deepTo_len]⟩
    · rw [if_neg h2] at e
      by_cases h3 : endL d i = i + 1
      · rw [if_pos h3] at e
        cases e
        exact ⟨all_set h (by simp [partBB, partB, noneB]), by simp⟩
      · rw [if_neg h3] at e
        cases e
  · rw [if_neg h1] at e
    cases e
set_option maxRecDepth 100000 in
set_option maxHeartbeats 8000000 in
theorem docBy_enlist {a : Option Addr} {n cap : Nat} {d : List Bl} {z : Int} {w : World} (h : Dc w a n cap d) :
    Calls Try.prog 49 #[.agg #[.slice a n cap], .int .i64 z, .func (.func 54) #[] #[]] w fun e w' => DocRes (docF enlF d z) w.heap.size e w' ∧ Below w.heap.size w w' := by
  unfold DocRes
  have HN : Hid (n = d.length) := h.1
  have hc := h.2.1
  have hm := h.2.2.1
  unfold maxLen at hm
  have H : Hid (Dc w a n cap d) := h
  clear h
  obtain ⟨x, HX⟩ : ∃ x, Hid (docB d = x) := ⟨_, rfl⟩
  go_enter Try.func49, Try.ntmps49
  go_upto_region 1 with fail
  have B0 : Below w.heap.size w ((w.alloc (.cells #[.slice a n cap] 29)).alloc (.cells #[.slice none 0 0] 29)) := ((Below.refl _ _).alloc (Nat.le_refl _) _).alloc (by simp) _
  have G0 : RowAt ((w.alloc (.cells #[.slice a n cap] 29)).alloc (.cells #[.slice none 0 0] 29)) w.heap.size #[.slice a n cap] 29 := (rowAt_new w _ _).alloc _
  have G1 : RowAt ((w.alloc (.cells #[.slice a n cap] 29)).alloc (.cells #[.slice none 0 0] 29)) (w.heap.size + 1) #[.slice none 0 0] 29 := by
    have := rowAt_new (w.alloc (.cells #[.slice a n cap] 29)) #[.slice none 0 0] 29
    simpa using this
  generalize ((w.alloc (.cells #[.slice a n cap] 29)).alloc (.cells #[.slice none 0 0] 29)) = v0 at B0 G0 G1 ⊢
  have k0 : v0.cell? ⟨w.heap.size, 0, none⟩ = some (.slice a n cap) := G0.cell 0
  have l1 := G1.lt
  have s0 := B0.size
  have H1 : Hid (RowAt v0 (w.heap.size + 1) #[.slice none 0 0] 29) := G1
  have HB0 : Hid (Below w.heap.size w v0) := B0
  have HD0 : Hid (Dc v0 a n cap d) := H.out.below B0
  clear G0 G1 B0
  go_wp2_with fail
  refine (outlineOf_is HX.out HD0.out).mono ?_
  rintro e w1 ⟨(⟨hxx, rfl⟩ | ⟨hxx, pa, pc, ps, rfl, ho1, hp1⟩), hb1⟩
  · subst hxx
    have HZ : Hid (RowAt w1 (w.heap.size + 1) #[.slice none 0 0] 29) := H1.out.below hb1 l1
    have HNO : Hid (docF enlF d z = none) := by
      show docF enlF d z = none
      unfold docF
      rw [if_neg (by rw [HX.out]; simp)]
    clear k0
    go_wp2_with (refine wpList_store_row rfl 29 (.tmp 6) (.tmp 39) rfl (w.heap.size + 1) #[.slice none 0 0] rfl rfl 29 _ HZ.out docI_info rfl (cells1_one _ _ _) ?_)
    refine bodyPost_ret (v := .tuple #[.agg #[.slice none 0 0], .bool false]) ?_ rfl ⟨.inl ⟨HNO.out, rfl⟩, below_row (HB0.out.trans (hb1.mono s0)) (by omega) _⟩
    rw [results_cell_tmp rfl]
    simp [asAddr, Result.andThen, run_docOf (RowAt.setRow HZ.out _)]
  · subst hxx
    have HZ : Hid (RowAt w1 (w.heap.size + 1) #[.slice none 0 0] 29) := H1.out.below hb1 l1
    have HB1 : Hid (Below w.heap.size w w1) := HB0.out.trans (hb1.mono s0)
    have HO1 : Hid (OwnP w1 v0.heap.size (.slice pa n pc) ps) := ho1
    have HP1 : Hid (PartsAre v0 ps d) := hp1
    have hb01 : Hid (Below v0.heap.size v0 w1) := hb1
    have s1 := hb1.size
    obtain ⟨hn8', hall, hou⟩ := docB_parts HX.out
    have HALL : Hid (d.all partBB = true) := hall
    have HOU : Hid (outlB d = true) := hou
    have HK : Hid (∀ y ∈ d, kindB y) := fun y hy => partB_kind (List.all_eq_true.1 hall y hy)
    obtain ⟨hpc1, hpc2⟩ := ownP_cap ho1
    have hn8 : n ≤ 8 := by rw [HN.out]; exact hn8'
    clear k0 ho1 hp1 hb1 hall hou H1 HB0 HD0 hn8'
    by_cases hz0 : z < 0
    · have HNO : Hid (docF enlF d z = none) := by
        show docF enlF d z = none
        unfold docF
        rw [if_neg (by omega)]
      go_wp2_with (refine wpList_store_row rfl 29 (.tmp 6) (.tmp 39) rfl (w.heap.size + 1) #[.slice none 0 0] rfl rfl 29 _ HZ.out docI_info rfl (cells1_one _ _ _) ?_)
      refine bodyPost_ret (v := .tuple #[.agg #[.slice none 0 0], .bool false]) ?_ rfl ⟨.inl ⟨HNO.out, rfl⟩, below_row HB1.out (by omega) _⟩
      rw [results_cell_tmp rfl]
      simp [asAddr, Result.andThen, run_docOf (RowAt.setRow HZ.out _)]
    by_cases hzn : (n : Int) ≤ z
    · have HNO : Hid (docF enlF d z = none) := by
        show docF enlF d z = none
        unfold docF
        rw [if_neg (by have := HN.out; omega)]
      go_wp2_with (refine wpList_store_row rfl 29 (.tmp 6) (.tmp 39) rfl (w.heap.size + 1) #[.slice none 0 0] rfl rfl 29 _ HZ.out docI_info rfl (cells1_one _ _ _) ?_)
      refine bodyPost_ret (v := .tuple #[.agg #[.slice none 0 0], .bool false]) ?_ rfl ⟨.inl ⟨HNO.out, rfl⟩, below_row HB1.out (by omega) _⟩
      rw [results_cell_tmp rfl]
      simp [asAddr, Result.andThen, run_docOf (RowAt.setRow HZ.out _)]
    obtain ⟨i, rfl⟩ : ∃ i : Nat, z = i := ⟨z.toNat, by omega⟩
    have hin : i < n := by omega
    have hid : i < d.length := by have := HN.out; omega
    have HFE : Hid (docF enlF d i = (enlF d i).bind fun d' => if outlB d' = true then some d' else none) := by
      show docF enlF d i = _
      unfold docF
      rw [if_pos ⟨HX.out, by omega, by omega⟩]
      rfl
    obtain ⟨r, HR⟩ : ∃ r, Hid (enlF d i = r) := ⟨_, rfl⟩
    have HCH : Hid (Calls Try.prog 54 #[.slice pa n pc, .int .i64 i] w1 fun e w' => e = .returned (.bool r.isSome) ∧ (∃ ps', OwnP w' v0.heap.size (.slice pa n pc) ps' ∧ PartsAre v0 ps' (r.getD d)) ∧ Below v0.heap.size w1 w') := by
      have := enlist_any HO1.out HP1.out HK.out hin s1
      rw [HR.out] at this
      exact this
    cases r
    · have HNO : Hid (docF enlF d i = none) := by
        show docF enlF d i = none
        rw [HFE.out, HR.out]
        rfl
      go_wp2_with (first | (go_at_call 54; refine HCH.out.mono ?_; rintro e w2 ⟨rfl, ⟨ps', ho2, hp2⟩, hb2⟩; have s2 := hb2.size; replace HZ : Hid (RowAt w2 (w.heap.size + 1) #[.slice none 0 0] 29) := HZ.out.below hb2 l1) | (refine wpList_store_row rfl 29 (.tmp 6) (.tmp 39) rfl (w.heap.size + 1) #[.slice none 0 0] rfl rfl 29 _ HZ.out docI_info rfl (cells1_one _ _ _) ?_))
      refine bodyPost_ret (v := .tuple #[.agg #[.slice none 0 0], .bool false]) ?_ rfl ⟨.inl ⟨HNO.out, rfl⟩, below_row (HB1.out.trans (hb2.mono s0)) (by omega) _⟩
      rw [results_cell_tmp rfl]
      simp [asAddr, Result.andThen, run_docOf (RowAt.setRow HZ.out _)]
    · rename_i d'
      obtain ⟨hall', hlen'⟩ := enlF_form HALL.out HOU.out hid HR.out
      have HALL' : Hid (d'.all partBB = true) := hall'
      have HK' : Hid (∀ y ∈ d', kindB y) := fun y hy => partB_kind (List.all_eq_true.1 hall' y hy)
      have HLN : Hid (n = d'.length) := by
        show n = d'.length
        rw [hlen']
        exact HN.out
      clear hall' hlen'
      obtain ⟨q, HQ⟩ : ∃ q, Hid (outlB d' = q) := ⟨_, rfl⟩
      have HFQ : Hid (docF enlF d i = if q = true then some d' else none) := by
        show docF enlF d i = _
        rw [HFE.out, HR.out, Option.bind_some, HQ.out]
      have HIS : Hid (∀ u, Outl u pa n pc d' → Calls Try.prog 61 #[.slice pa n pc] u fun e w' => e = .returned (.bool q) ∧ Below u.heap.size u w') := fun u hu => outlineOk_is HQ.out hu HK'.out
      cases q
      · have HNO : Hid (docF enlF d i = none) := HFQ.out
        go_wp2_with (first | (go_at_call 54; refine HCH.out.mono ?_; rintro e w2 ⟨rfl, ⟨ps', ho2, hp2⟩, hb2⟩; have s2 := hb2.size; replace HZ : Hid (RowAt w2 (w.heap.size + 1) #[.slice none 0 0] 29) := HZ.out.below hb2 l1) | (go_at_call 61; refine (HIS.out _ (outl_of ho2 (hp2.below (hb01.out.trans hb2)))).mono ?_; rintro e w3 ⟨rfl, hb3⟩; replace HZ : Hid (RowAt w3 (w.heap.size + 1) #[.slice none 0 0] 29) := HZ.out.below hb3 (by omega)) | (refine wpList_store_row rfl 29 (.tmp 6) (.tmp 39) rfl (w.heap.size + 1) #[.slice none 0 0] rfl rfl 29 _ HZ.out docI_info rfl (cells1_one _ _ _) ?_))
        refine bodyPost_ret (v := .tuple #[.agg #[.slice none 0 0], .bool false]) ?_ rfl ⟨.inl ⟨HNO.out, rfl⟩, below_row ((HB1.out.trans (hb2.mono s0)).trans (hb3.mono (by omega))) (by omega) _⟩
        rw [results_cell_tmp rfl]
        simp [asAddr, Result.andThen, run_docOf (RowAt.setRow HZ.out _)]
      · have HYES : Hid (docF enlF d i = some d') := HFQ.out
        have HDC : Hid (∀ u, Outl u pa n pc d' → Calls Try.prog 67 #[.slice pa n pc] u fun e w' => (∃ p q rbs, e = .returned (.agg #[.slice p n q]) ∧ DocOwn w' u.heap.size w'.heap.size (.slice p n q) rbs d') ∧ Below u.heap.size u w') := fun u hu => outlineDoc_any hu HALL'.out HQ.out
        go_wp2_with (first | (go_at_call 54; refine HCH.out.mono ?_; rintro e w2 ⟨rfl, ⟨ps', ho2, hp2⟩, hb2⟩; have s2 := hb2.size; replace HZ : Hid (RowAt w2 (w.heap.size + 1) #[.slice none 0 0] 29) := HZ.out.below hb2 l1) | (go_at_call 61; refine (HIS.out _ (outl_of ho2 (hp2.below (hb01.out.trans hb2)))).mono ?_; rintro e w3 ⟨rfl, hb3⟩; have s3 := hb3.size; replace HZ : Hid (RowAt w3 (w.heap.size + 1) #[.slice none 0 0] 29) := HZ.out.below hb3 (by omega)) | (go_at_call 67; refine (HDC.out _ (outl_of (ho2.below hb3) ((hp2.below (hb01.out.trans hb2)).below hb3))).mono ?_; rintro e w4 ⟨⟨p, q, rbs, rfl, hd4⟩, hb4⟩; have s4 := hb4.size; replace HZ : Hid (RowAt w4 (w.heap.size + 1) #[.slice none 0 0] 29) := HZ.out.below hb4 (by omega)) | (refine wpList_store_row rfl 29 (.tmp 6) (.tmp 41) rfl (w.heap.size + 1) #[.slice p n q] rfl rfl 29 _ HZ.out docI_info rfl (cells1_one _ _ _) ?_))
        refine bodyPost_ret (v := .tuple #[.agg #[.slice p n q], .bool true]) ?_ rfl ⟨.inr ⟨d', p, q, rbs, HYES.out, by rw [← HLN.out], ?_⟩, below_row (((HB1.out.trans (hb2.mono s0)).trans (hb3.mono (by omega))).trans (hb4.mono (by omega))) (by omega) _⟩
        · rw [results_cell_tmp rfl]
          simp [asAddr, Result.andThen, run_docOf (RowAt.setRow HZ.out _)]
        · have sz : (w4.setRow (w.heap.size + 1) #[.slice p n q]).heap.size = w4.heap.size := by simp [World.setRow]
          rw [sz, ← HLN.out]
          exact (hd4.mid (fun b hb hb' => setRow_other _ _ _ _ (by omega))).less (by omega) (Nat.le_refl _)
set_option maxRecDepth 100000 in
set_option maxHeartbeats 4000000 in
theorem implDocItem_any {a : Option Addr} {n cap : Nat} {d : List Bl} {z : Int} {w : World} (h : Dc w a n cap d) :
    Calls Try.prog 28 #[.agg #[.slice a n cap], .int .i64 z] w fun e w' => DocRes (docF enlF d z) w.heap.size e w' ∧ Below w.heap.size w w' := by
  unfold DocRes
  have H : Hid (Dc w a n cap d) := h
  clear h
  go_enter Try.func28, Try.ntmps28
  go_upto_region 1 with fail
  have B0 : Below w.heap.size w ((w.alloc (.cells #[.slice a n cap] 29)).alloc (.cells #[.slice none 0 0] 29)) := ((Below.refl _ _).alloc (Nat.le_refl _) _).alloc (by simp) _
  have G0 : RowAt ((w.alloc (.cells #[.slice a n cap] 29)).alloc (.cells #[.slice none 0 0] 29)) w.heap.size #[.slice a n cap] 29 := (rowAt_new w _ _).alloc _
  have G1 : RowAt ((w.alloc (.cells #[.slice a n cap] 29)).alloc (.cells #[.slice none 0 0] 29)) (w.heap.size + 1) #[.slice none 0 0] 29 := by
    have := rowAt_new (w.alloc (.cells #[.slice a n cap] 29)) #[.slice none 0 0] 29
    simpa using this
  generalize ((w.alloc (.cells #[.slice a n cap] 29)).alloc (.cells #[.slice none 0 0] 29)) = v0 at B0 G0 G1 ⊢
  have k0 : v0.cell? ⟨w.heap.size, 0, none⟩ = some (.slice a n cap) := G0.cell 0
  have l1 := G1.lt
  have s0 := B0.size
  have H1 : Hid (RowAt v0 (w.heap.size + 1) #[.slice none 0 0] 29) := G1
  have HB0 : Hid (Below w.heap.size w v0) := B0
  have HD0 : Hid (Dc v0 a n cap d) := H.out.below B0
  clear G0 G1 B0
  go_wp2_with fail
  refine (docBy_enlist HD0.out).mono ?_
  intro e w1 hr
  unfold DocRes at hr
  obtain ⟨(⟨hf, rfl⟩ | ⟨d', p, q, rbs, hf, rfl, ho⟩), hb1⟩ := hr
  · have HZ : Hid (RowAt w1 (w.heap.size + 1) #[.slice none 0 0] 29) := H1.out.below hb1 l1
    have HF : Hid _ := hf
    clear k0 hf
    go_wp2_with (refine wpList_store_row rfl 29 (.tmp 4) (.tmp 9) rfl (w.heap.size + 1) #[.slice none 0 0] rfl rfl 29 _ HZ.out docI_info rfl (cells1_one _ _ _) ?_)
    refine bodyPost_ret (v := .tuple #[.agg #[.slice none 0 0], .bool false]) ?_ rfl ⟨.inl ⟨HF.out, rfl⟩, below_row (HB0.out.trans (hb1.mono s0)) (by omega) _⟩
    rw [results_cell_tmp rfl]
    simp [asAddr, Result.andThen, run_docOf (RowAt.setRow HZ.out _)]
  · have HZ : Hid (RowAt w1 (w.heap.size + 1) #[.slice none 0 0] 29) := H1.out.below hb1 l1
    have HF : Hid (docF enlF d z = some d') := hf
    obtain ⟨m, HM⟩ : ∃ m, Hid (d'.length = m) := ⟨_, rfl⟩
    rw [HM.out] at ho ⊢
    clear k0 hf
    go_wp2_with (refine wpList_store_row rfl 29 (.tmp 4) (.tmp 9) rfl (w.heap.size + 1) #[.slice p m q] rfl rfl 29 _ HZ.out docI_info rfl (cells1_one _ _ _) ?_)
    refine bodyPost_ret (v := .tuple #[.agg #[.slice p m q], .bool true]) ?_ rfl ⟨.inr ⟨d', p, q, rbs, HF.out, by rw [HM.out], ?_⟩, below_row (HB0.out.trans (hb1.mono s0)) (by omega) _⟩
    · rw [results_cell_tmp rfl]
      simp [asAddr, Result.andThen, run_docOf (RowAt.setRow HZ.out _)]
    · have sz : (w1.setRow (w.heap.size + 1) #[.slice p m q]).heap.size = w1.heap.size := by simp [World.setRow]
      rw [sz, HM.out]
      exact (ho.mid (fun b hb hb' => setRow_other _ _ _ _ (by omega))).less (by omega) (Nat.le_refl _)
set_option maxRecDepth 100000 in
set_option maxHeartbeats 8000000 in
theorem docBy_sink {a : Option Addr} {n cap : Nat} {d : List Bl} {z : Int} {w : World} (h : Dc w a n cap d) :
    Calls Try.prog 49 #[.agg #[.slice a n cap], .int .i64 z, .func (.func 50) #[] #[]] w fun e w' => DocRes (docF sinkF d z) w.heap.size e w' ∧ Below w.heap.size w w' := by
  unfold DocRes
  have HN : Hid (n = d.length) := h.1
  have hc := h.2.1
  have hm := h.2.2.1
  unfold maxLen at hm
  have H : Hid (Dc w a n cap d) := h
  clear h
  obtain ⟨x, HX⟩ : ∃ x, Hid (docB d = x) := ⟨_, rfl⟩
  go_enter Try.func49, Try.ntmps49
  go_upto_region 1 with fail
  have B0 : Below w.heap.size w ((w.alloc (.cells #[.slice a n cap] 29)).alloc (.cells #[.slice none 0 0] 29)) := ((Below.refl _ _).alloc (Nat.le_refl _) _).alloc (by simp) _
  have G0 : RowAt ((w.alloc (.cells #[.slice a n cap] 29)).alloc (.cells #[.slice none 0 0] 29)) w.heap.size #[.slice a n cap] 29 := (rowAt_new w _ _).alloc _
  have G1 : RowAt ((w.alloc (.cells #[.slice a n cap] 29)).alloc (.cells #[.slice none 0 0] 29)) (w.heap.size + 1) #[.slice none 0 0] 29 := by
    have := rowAt_new (w.alloc (.cells #[.slice a n cap] 29)) #[.slice none 0 0] 29
    simpa using this
  generalize ((w.alloc (.cells #[.slice a n cap] 29)).alloc (.cells #[.slice none 0 0] 29)) = v0 at B0 G0 G1 ⊢
  have k0 : v0.cell? ⟨w.heap.size, 0, none⟩ = some (.slice a n cap) := G0.cell 0
  have l1 := G1.lt
  have s0 := B0.size
  have H1 : Hid (RowAt v0 (w.heap.size + 1) #[.slice none 0 0] 29) := G1
  have HB0 : Hid (Below w.heap.size w v0) := B0
  have HD0 : Hid (Dc v0 a n cap d) := H.out.below B0
  clear G0 G1 B0
  go_wp2_with fail
  refine (outlineOf_is HX.out HD0.out).mono ?_
  rintro e w1 ⟨(⟨hxx, rfl⟩ | ⟨hxx, pa, pc, ps, rfl, ho1, hp1⟩), hb1⟩
  · subst hxx
    have HZ : Hid (RowAt w1 (w.heap.size + 1) #[.slice none 0 0] 29) := H1.out.below hb1 l1
    have HNO : Hid (docF sinkF d z = none) := by
      show docF sinkF d z = none
      unfold docF
      rw [if_neg (by rw [HX.out]; simp)]
    clear k0
    go_wp2_with (refine wpList_store_row rfl 29 (.tmp 6) (.tmp 39) rfl (w.heap.size + 1) #[.slice none 0 0] rfl rfl 29 _ HZ.out docI_info rfl (cells1_one _ _ _) ?_)
    refine bodyPost_ret (v := .tuple #[.agg #[.slice none 0 0], .bool false]) ?_ rfl ⟨.inl ⟨HNO.out, rfl⟩, below_row (HB0.out.trans (hb1.mono s0)) (by omega) _⟩
    rw [results_cell_tmp rfl]
    simp [asAddr, Result.andThen, run_docOf (RowAt.setRow HZ.out _)]
  · subst hxx
    have HZ : Hid (RowAt w1 (w.heap.size + 1) #[.slice none 0 0] 29) := H1.out.below hb1 l1
    have HB1 : Hid (Below w.heap.size w w1) := HB0.out.trans (hb1.mono s0)
    have HO1 : Hid (OwnP w1 v0.heap.size (.slice pa n pc) ps) := ho1
    have HP1 : Hid (PartsAre v0 ps d) := hp1
    have hb01 : Hid (Below v0.heap.size v0 w1) := hb1
    have s1 := hb1.size
    obtain ⟨hn8', hall, hou⟩ := docB_parts HX.out
    have HALL : Hid (d.all partBB = true) := hall
    have HOU : Hid (outlB d = true) := hou
    have HK : Hid (∀ y ∈ d, kindB y) := fun y hy => partB_kind (List.all_eq_true.1 hall y hy)
    obtain ⟨hpc1, hpc2⟩ := ownP_cap ho1
    have hn8 : n ≤ 8 := by rw [HN.out]; exact hn8'
    clear k0 ho1 hp1 hb1 hall hou H1 HB0 HD0 hn8'
    by_cases hz0 : z < 0
    · have HNO : Hid (docF sinkF d z = none) := by
        show docF sinkF d z = none
        unfold docF
        rw [if_neg (by omega)]
      go_wp2_with (refine wpList_store_row rfl 29 (.tmp 6) (.tmp 39) rfl (w.heap.size + 1) #[.slice none 0 0] rfl rfl 29 _ HZ.out docI_info rfl (cells1_one _ _ _) ?_)
      refine bodyPost_ret (v := .tuple #[.agg #[.slice none 0 0], .bool false]) ?_ rfl ⟨.inl ⟨HNO.out, rfl⟩, below_row HB1.out (by omega) _⟩
      rw [results_cell_tmp rfl]
      simp [asAddr, Result.andThen, run_docOf (RowAt.setRow HZ.out _)]
    by_cases hzn : (n : Int) ≤ z
    · have HNO : Hid (docF sinkF d z = none) := by
        show docF sinkF d z = none
        unfold docF
        rw [if_neg (by have := HN.out; omega)]
      go_wp2_with (refine wpList_store_row rfl 29 (.tmp 6) (.tmp 39) rfl (w.heap.size + 1) #[.slice none 0 0] rfl rfl 29 _ HZ.out docI_info rfl (cells1_one _ _ _) ?_)
      refine bodyPost_ret (v := .tuple #[.agg #[.slice none 0 0], .bool false]) ?_ rfl ⟨.inl ⟨HNO.out, rfl⟩, below_row HB1.out (by omega) _⟩
      rw [results_cell_tmp rfl]
      simp [asAddr, Result.andThen, run_docOf (RowAt.setRow HZ.out _)]
    obtain ⟨i, rfl⟩ : ∃ i : Nat, z = i := ⟨z.toNat, by omega⟩
    have hin : i < n := by omega
    have hid : i < d.length := by have := HN.out; omega
    have HFE : Hid (docF sinkF d i = (sinkF d i).bind fun d' => if outlB d' = true then some d' else none) := by
      show docF sinkF d i = _
      unfold docF
      rw [if_pos ⟨HX.out, by omega, by omega⟩]
      rfl
    obtain ⟨r, HR⟩ : ∃ r, Hid (sinkF d i = r) := ⟨_, rfl⟩
    have HCH : Hid (Calls Try.prog 50 #[.slice pa n pc, .int .i64 i] w1 fun e w' => e = .returned (.bool r.isSome) ∧ (∃ ps', OwnP w' v0.heap.size (.slice pa n pc) ps' ∧ PartsAre v0 ps' (r.getD d)) ∧ Below v0.heap.size w1 w') := by
      have := sink_any HO1.out HP1.out HK.out hin s1 hb01.out HOU.out
      rw [HR.out] at this
      exact this
    cases r
    · have HNO : Hid (docF sinkF d i = none) := by
        show docF sinkF d i = none
        rw [HFE.out, HR.out]
        rfl
      go_wp2_with (first | (go_at_call 50; refine HCH.out.mono ?_; rintro e w2 ⟨rfl, ⟨ps', ho2, hp2⟩, hb2⟩; have s2 := hb2.size; replace HZ : Hid (RowAt w2 (w.heap.size + 1) #[.slice none 0 0] 29) := HZ.out.below hb2 l1) | (refine wpList_store_row rfl 29 (.tmp 6) (.tmp 39) rfl (w.heap.size + 1) #[.slice none 0 0] rfl rfl 29 _ HZ.out docI_info rfl (cells1_one _ _ _) ?_))
      refine bodyPost_ret (v := .tuple #[.agg #[.slice none 0 0], .bool false]) ?_ rfl ⟨.inl ⟨HNO.out, rfl⟩, below_row (HB1.out.trans (hb2.mono s0)) (by omega) _⟩
      rw [results_cell_tmp rfl]
      simp [asAddr, Result.andThen, run_docOf (RowAt.setRow HZ.out _)]
    · rename_i d'
      obtain ⟨hall', hlen'⟩ := sinkF_form HALL.out HOU.out hid HR.out
      have HALL' : Hid (d'.all partBB = true) := hall'
      have HK' : Hid (∀ y ∈ d', kindB y) := fun y hy => partB_kind (List.all_eq_true.1 hall' y hy)
      have HLN : Hid (n = d'.length) := by
        show n = d'.length
        rw [hlen']
        exact HN.out
      clear hall' hlen'
      obtain ⟨q, HQ⟩ : ∃ q, Hid (outlB d' = q) := ⟨_, rfl⟩
      have HFQ : Hid (docF sinkF d i = if q = true then some d' else none) := by
        show docF sinkF d i = _
        rw [HFE.out, HR.out, Option.bind_some, HQ.out]
      have HIS : Hid (∀ u, Outl u pa n pc d' → Calls Try.prog 61 #[.slice pa n pc] u fun e w' => e = .returned (.bool q) ∧ Below u.heap.size u w') := fun u hu => outlineOk_is HQ.out hu HK'.out
      cases q
      · have HNO : Hid (docF sinkF d i = none) := HFQ.out
        go_wp2_with (first | (go_at_call 50; refine HCH.out.mono ?_; rintro e w2 ⟨rfl, ⟨ps', ho2, hp2⟩, hb2⟩; have s2 := hb2.size; replace HZ : Hid (RowAt w2 (w.heap.size + 1) #[.slice none 0 0] 29) := HZ.out.below hb2 l1) | (go_at_call 61; refine (HIS.out _ (outl_of ho2 (hp2.below (hb01.out.trans hb2)))).mono ?_; rintro e w3 ⟨rfl, hb3⟩; replace HZ : Hid (RowAt w3 (w.heap.size + 1) #[.slice none 0 0] 29) := HZ.out.below hb3 (by omega)) | (refine wpList_store_row rfl 29 (.tmp 6) (.tmp 39) rfl (w.heap.size + 1) #[.slice none 0 0] rfl rfl 29 _ HZ.out docI_info rfl (cells1_one _ _ _) ?_))
        refine bodyPost_ret (v := .tuple #[.agg #[.slice none 0 0], .bool false]) ?_ rfl ⟨.inl ⟨HNO.out, rfl⟩, below_row ((HB1.out.trans (hb2.mono s0)).trans (hb3.mono (by omega))) (by omega) _⟩
        rw [results_cell_tmp rfl]
        simp [asAddr, Result.andThen, run_docOf (RowAt.setRow HZ.out _)]
      · have HYES : Hid (docF sinkF d i = some d') := HFQ.out
        have HDC : Hid (∀ u, Outl u pa n pc d' → Calls Try.prog 67 #[.slice pa n pc] u fun e w' => (∃ p q rbs, e = .returned (.agg #[.slice p n q]) ∧ DocOwn w' u.heap.size w'.heap.size (.slice p n q) rbs d') ∧ Below u.heap.size u w') := fun u hu => outlineDoc_any hu HALL'.out HQ.out
        go_wp2_with (first | (go_at_call 50; refine HCH.out.mono ?_; rintro e w2 ⟨rfl, ⟨ps', ho2, hp2⟩, hb2⟩; have s2 := hb2.size; replace HZ : Hid (RowAt w2 (w.heap.size + 1) #[.slice none 0 0] 29) := HZ.out.below hb2 l1) | (go_at_call 61; refine (HIS.out _ (outl_of ho2 (hp2.below (hb01.out.trans hb2)))).mono ?_; rintro e w3 ⟨rfl, hb3⟩; have s3 := hb3.size; replace HZ : Hid (RowAt w3 (w.heap.size + 1) #[.slice none 0 0] 29) := HZ.out.below hb3 (by omega)) | (go_at_call 67; refine (HDC.out _ (outl_of (ho2.below hb3) ((hp2.below (hb01.out.trans hb2)).below hb3))).mono ?_; rintro e w4 ⟨⟨p, q, rbs, rfl, hd4⟩, hb4⟩; have s4 := hb4.size; replace HZ : Hid (RowAt w4 (w.heap.size + 1) #[.slice none 0 0] 29) := HZ.out.below hb4 (by omega)) | (refine wpList_store_row rfl 29 (.tmp 6) (.tmp 41) rfl (w.heap.size + 1) #[.slice p n q] rfl rfl 29 _ HZ.out docI_info rfl (cells1_one _ _ _) ?_))
        refine bodyPost_ret (v := .tuple #[.agg #[.slice p n q], .bool true]) ?_ rfl ⟨.inr ⟨d', p, q, rbs, HYES.out, by rw [← HLN.out], ?_⟩, below_row (((HB1.out.trans (hb2.mono s0)).trans (hb3.mono (by omega))).trans (hb4.mono (by omega))) (by omega) _⟩
        · rw [results_cell_tmp rfl]
          simp [asAddr, Result.andThen, run_docOf (RowAt.setRow HZ.out _)]
        · have sz : (w4.setRow (w.heap.size + 1) #[.slice p n q]).heap.size = w4.heap.size := by simp [World.setRow]
          rw [sz, ← HLN.out]
          exact (hd4.mid (fun b hb hb' => setRow_other _ _ _ _ (by omega))).less (by omega) (Nat.le_refl _)
set_option maxRecDepth 100000 in
set_option maxHeartbeats 4000000 in
theorem implDocSink_any {a : Option Addr} {n cap : Nat} {d : List Bl} {z : Int} {w : World} (h : Dc w a n cap d) :
    Calls Try.prog 23 #[.agg #[.slice a n cap], .int .i64 z] w fun e w' => DocRes (docF sinkF d z) w.heap.size e w' ∧ Below w.heap.size w w' := by
  unfold DocRes
  have H : Hid (Dc w a n cap d) := h
  clear h
  go_enter Try.func23, Try.ntmps23
  go_upto_region 1 with fail
  have B0 : Below w.heap.size w ((w.alloc (.cells #[.slice a n cap] 29)).alloc (.cells #[.slice none 0 0] 29)) := ((Below.refl _ _).alloc (Nat.le_refl _) _).alloc (by simp) _
  have G0 : RowAt ((w.alloc (.cells #[.slice a n cap] 29)).alloc (.cells #[.slice none 0 0] 29)) w.heap.size #[.slice a n cap] 29 := (rowAt_new w _ _).alloc _
  have G1 : RowAt ((w.alloc (.cells #[.slice a n cap] 29)).alloc (.cells #[.slice none 0 0] 29)) (w.heap.size + 1) #[.slice none 0 0] 29 := by
    have := rowAt_new (w.alloc (.cells #[.slice a n cap] 29)) #[.slice none 0 0] 29
    simpa using this
  generalize ((w.alloc (.cells #[.slice a n cap] 29)).alloc (.cells #[.slice none 0 0] 29)) = v0 at B0 G0 G1 ⊢
  have k0 : v0.cell? ⟨w.heap.size, 0, none⟩ = some (.slice a n cap) := G0.cell 0
  have l1 := G1.lt
  have s0 := B0.size
  have H1 : Hid (RowAt v0 (w.heap.size + 1) #[.slice none 0 0] 29) := G1
  have HB0 : Hid (Below w.heap.size w v0) := B0
  have HD0 : Hid (Dc v0 a n cap d) := H.out.below B0
  clear G0 G1 B0
  go_wp2_with fail
  refine (docBy_sink HD0.out).mono ?_
  intro e w1 hr
  unfold DocRes at hr
  obtain ⟨(⟨hf, rfl⟩ | ⟨d', p, q, rbs, hf, rfl, ho⟩), hb1⟩ := hr
  · have HZ : Hid (RowAt w1 (w.heap.size + 1) #[.slice none 0 0] 29) := H1.out.below hb1 l1
    have HF : Hid _ := hf
    clear k0 hf
    go_wp2_with (refine wpList_store_row rfl 29 (.tmp 4) (.tmp 9) rfl (w.heap.size + 1) #[.slice none 0 0] rfl rfl 29 _ HZ.out docI_info rfl (cells1_one _ _ _) ?_)
    refine bodyPost_ret (v := .tuple #[.agg #[.slice none 0 0], .bool false]) ?_ rfl ⟨.inl ⟨HF.out, rfl⟩, below_row (HB0.out.trans (hb1.mono s0)) (by omega) _⟩
    rw [results_cell_tmp rfl]
    simp [asAddr, Result.andThen, run_docOf (RowAt.setRow HZ.out _)]
  · have HZ : Hid (RowAt w1 (w.heap.size + 1) #[.slice none 0 0] 29) := H1.out.below hb1 l1
    have HF : Hid (docF sinkF d z = some d') := hf
    obtain ⟨m, HM⟩ : ∃ m, Hid (d'.length = m) := ⟨_, rfl⟩
    rw [HM.out] at ho ⊢
    clear k0 hf
    go_wp2_with (refine wpList_store_row rfl 29 (.tmp 4) (.tmp 9) rfl (w.heap.size + 1) #[.slice p m q] rfl rfl 29 _ HZ.out docI_info rfl (cells1_one _ _ _) ?_)
    refine bodyPost_ret (v := .tuple #[.agg #[.slice p m q], .bool true]) ?_ rfl ⟨.inr ⟨d', p, q, rbs, HF.out, by rw [HM.out], ?_⟩, below_row (HB0.out.trans (hb1.mono s0)) (by omega) _⟩
    · rw [results_cell_tmp rfl]
      simp [asAddr, Result.andThen, run_docOf (RowAt.setRow HZ.out _)]
    · have sz : (w1.setRow (w.heap.size + 1) #[.slice p m q]).heap.size = w1.heap.size := by simp [World.setRow]
      rw [sz, HM.out]
      exact (ho.mid (fun b hb hb' => setRow_other _ _ _ _ (by omega))).less (by omega) (Nat.le_refl _)
set_option maxRecDepth 100000 in
set_option maxHeartbeats 8000000 in
theorem docBy_lift {a : Option Addr} {n cap : Nat} {d : List Bl} {z : Int} {w : World} (h : Dc w a n cap d) :
    Calls Try.prog 49 #[.agg #[.slice a n cap], .int .i64 z, .func (.func 52) #[] #[]] w fun e w' => DocRes (docF liftF d z) w.heap.size e w' ∧ Below w.heap.size w w' := by
  unfold DocRes
  have HN : Hid (n = d.length) := h.1
  have hc := h.2.1
  have hm := h.2.2.1
  unfold maxLen at hm
  have H : Hid (Dc w a n cap d) := h
  clear h
  obtain ⟨x, HX⟩ : ∃ x, Hid (docB d = x) := ⟨_, rfl⟩
  go_enter Try.func49, Try.ntmps49
  go_upto_region 1 with fail
  have B0 : Below w.heap.size w ((w.alloc (.cells #[.slice a n cap] 29)).alloc (.cells #[.slice none 0 0] 29)) := ((Below.refl _ _).alloc (Nat.le_refl _) _).alloc (by simp) _
  have G0 : RowAt ((w.alloc (.cells #[.slice a n cap] 29)).alloc (.cells #[.slice none 0 0] 29)) w.heap.size #[.slice a n cap] 29 := (rowAt_new w _ _).alloc _
  have G1 : RowAt ((w.alloc (.cells #[.slice a n cap] 29)).alloc (.cells #[.slice none 0 0] 29)) (w.heap.size + 1) #[.slice none 0 0] 29 := by
    have := rowAt_new (w.alloc (.cells #[.slice a n cap] 29)) #[.slice none 0 0] 29
    simpa using this
  generalize ((w.alloc (.cells #[.slice a n cap] 29)).alloc (.cells #[.slice none 0 0] 29)) = v0 at B0 G0 G1 ⊢
  have k0 : v0.cell? ⟨w.heap.size, 0, none⟩ = some (.slice a n cap) := G0.cell 0
  have l1 := G1.lt
  have s0 := B0.size
  have H1 : Hid (RowAt v0 (w.heap.size + 1) #[.slice none 0 0] 29) := G1
  have HB0 : Hid (Below w.heap.size w v0) := B0
  have HD0 : Hid (Dc v0 a n cap d) := H.out.below B0
  clear G0 G1 B0
  go_wp2_with fail
  refine (outlineOf_is HX.out HD0.out).mono ?_
  rintro e w1 ⟨(⟨hxx, rfl⟩ | ⟨hxx, pa, pc, ps, rfl, ho1, hp1⟩), hb1⟩
  · subst hxx
    have HZ : Hid (RowAt w1 (w.heap.size + 1) #[.slice none 0 0] 29) := H1.out.below hb1 l1
    have HNO : Hid (docF liftF d z = none) := by
      show docF liftF d z = none
      unfold docF
      rw [if_neg (by rw [HX.out]; simp)]
    clear k0
    go_wp2_with (refine wpList_store_row rfl 29 (.tmp 6) (.tmp 39) rfl (w.heap.size + 1) #[.slice none 0 0] rfl rfl 29 _ HZ.out docI_info rfl (cells1_one _ _ _) ?_)
    refine bodyPost_ret (v := .tuple #[.agg #[.slice none 0 0], .bool false]) ?_ rfl ⟨.inl ⟨HNO.out, rfl⟩, below_row (HB0.out.trans (hb1.mono s0)) (by omega) _⟩
    rw [results_cell_tmp rfl]
    simp [asAddr, Result.andThen, run_docOf (RowAt.setRow HZ.out _)]
  · subst hxx
    have HZ : Hid (RowAt w1 (w.heap.size + 1) #[.slice none 0 0] 29) := H1.out.below hb1 l1
    have HB1 : Hid (Below w.heap.size w w1) := HB0.out.trans (hb1.mono s0)
    have HO1 : Hid (OwnP w1 v0.heap.size (.slice pa n pc) ps) := ho1
    have HP1 : Hid (PartsAre v0 ps d) := hp1
    have hb01 : Hid (Below v0.heap.size v0 w1) := hb1
    have s1 := hb1.size
    obtain ⟨hn8', hall, hou⟩ := docB_parts HX.out
    have HALL : Hid (d.all partBB = true) := hall
    have HOU : Hid (outlB d = true) := hou
    have HK : Hid (∀ y ∈ d, kindB y) := fun y hy => partB_kind (List.all_eq_true.1 hall y hy)
    obtain ⟨hpc1, hpc2⟩ := ownP_cap ho1
    have hn8 : n ≤ 8 := by rw [HN.out]; exact hn8'
    clear k0 ho1 hp1 hb1 hall hou H1 HB0 HD0 hn8'
    by_cases hz0 : z < 0
    · have HNO : Hid (docF liftF d z = none) := by
        show docF liftF d z = none
        unfold docF
        rw [if_neg (by omega)]
      go_wp2_with (refine wpList_store_row rfl 29 (.tmp 6) (.tmp 39) rfl (w.heap.size + 1) #[.slice none 0 0] rfl rfl 29 _ HZ.out docI_info rfl (cells1_one _ _ _) ?_)
      refine bodyPost_ret (v := .tuple #[.agg #[.slice none 0 0], .bool false]) ?_ rfl ⟨.inl ⟨HNO.out, rfl⟩, below_row HB1.out (by omega) _⟩
      rw [results_cell_tmp rfl]
      simp [asAddr, Result.andThen, run_docOf (RowAt.setRow HZ.out _)]
    by_cases hzn : (n : Int) ≤ z
    · have HNO : Hid (docF liftF d z = none) := by
        show docF liftF d z = none
        unfold docF
        rw [if_neg (by have := HN.out; omega)]
      go_wp2_with (refine wpList_store_row rfl 29 (.tmp 6) (.tmp 39) rfl (w.heap.size + 1) #[.slice none 0 0] rfl rfl 29 _ HZ.out docI_info rfl (cells1_one _ _ _) ?_)
      refine bodyPost_ret (v := .tuple #[.agg #[.slice none 0 0], .bool false]) ?_ rfl ⟨.inl ⟨HNO.out, rfl⟩, below_row HB1.out (by omega) _⟩
      rw [results_cell_tmp rfl]
      simp [asAddr, Result.andThen, run_docOf (RowAt.setRow HZ.out _)]
    obtain ⟨i, rfl⟩ : ∃ i : Nat, z = i := ⟨z.toNat, by omega⟩
    have hin : i < n := by omega
    have hid : i < d.length := by have := HN.out; omega
    have HFE : Hid (docF liftF d i = (liftF d i).bind fun d' => if outlB d' = true then some d' else none) := by
      show docF liftF d i = _
      unfold docF
      rw [if_pos ⟨HX.out, by omega, by omega⟩]
      rfl
    obtain ⟨r, HR⟩ : ∃ r, Hid (liftF d i = r) := ⟨_, rfl⟩
    have HCH : Hid (Calls Try.prog 52 #[.slice pa n pc, .int .i64 i] w1 fun e w' => e = .returned (.bool r.isSome) ∧ (∃ ps', OwnP w' v0.heap.size (.slice pa n pc) ps' ∧ PartsAre v0 ps' (r.getD d)) ∧ Below v0.heap.size w1 w') := by
      have := lift_any HO1.out HP1.out HK.out hin s1 hb01.out HOU.out
      rw [HR.out] at this
      exact this
    cases r
    · have HNO : Hid (docF liftF d i = none) := by
        show docF liftF d i = none
        rw [HFE.out, HR.out]
        rfl
      go_wp2_with (first | (go_at_call 52; refine HCH.out.mono ?_; rintro e w2 ⟨rfl, ⟨ps', ho2, hp2⟩, hb2⟩; have s2 := hb2.size; replace HZ : Hid (RowAt w2 (w.heap.size + 1) #[.slice none 0 0] 29) := HZ.out.below hb2 l1) | (refine wpList_store_row rfl 29 (.tmp 6) (.tmp 39) rfl (w.heap.size + 1) #[.slice none 0 0] rfl rfl 29 _ HZ.out docI_info rfl (cells1_one _ _ _) ?_))
      refine bodyPost_ret (v := .tuple #[.agg #[.slice none 0 0], .bool false]) ?_ rfl ⟨.inl ⟨HNO.out, rfl⟩, below_row (HB1.out.trans (hb2.mono s0)) (by omega) _⟩
      rw [results_cell_tmp rfl]
      simp [asAddr, Result.andThen, run_docOf (RowAt.setRow HZ.out _)]
    · rename_i d'
      obtain ⟨hall', hlen'⟩ := liftF_form HALL.out HOU.out hid HR.out
      have HALL' : Hid (d'.all partBB = true) := hall'
      have HK' : Hid (∀ y ∈ d', kindB y) := fun y hy => partB_kind (List.all_eq_true.1 hall' y hy)
      have HLN : Hid (n = d'.length) := by
        show n = d'.length
        rw [hlen']
        exact HN.out
      clear hall' hlen'
      obtain ⟨q, HQ⟩ : ∃ q, Hid (outlB d' = q) := ⟨_, rfl⟩
      have HFQ : Hid (docF liftF d i = if q = true then some d' else none) := by
        show docF liftF d i = _
        rw [HFE.out, HR.out, Option.bind_some, HQ.out]
      have HIS : Hid (∀ u, Outl u pa n pc d' → Calls Try.prog 61 #[.slice pa n pc] u fun e w' => e = .returned (.bool q) ∧ Below u.heap.size u w') := fun u hu => outlineOk_is HQ.out hu HK'.out
      cases q
      · have HNO : Hid (docF liftF d i = none) := HFQ.out
        go_wp2_with (first | (go_at_call 52; refine HCH.out.mono ?_; rintro e w2 ⟨rfl, ⟨ps', ho2, hp2⟩, hb2⟩; have s2 := hb2.size; replace HZ : Hid (RowAt w2 (w.heap.size + 1) #[.slice none 0 0] 29) := HZ.out.below hb2 l1) | (go_at_call 61; refine (HIS.out _ (outl_of ho2 (hp2.below (hb01.out.trans hb2)))).mono ?_; rintro e w3 ⟨rfl, hb3⟩; replace HZ : Hid (RowAt w3 (w.heap.size + 1) #[.slice none 0 0] 29) := HZ.out.below hb3 (by omega)) | (refine wpList_store_row rfl 29 (.tmp 6) (.tmp 39) rfl (w.heap.size + 1) #[.slice none 0 0] rfl rfl 29 _ HZ.out docI_info rfl (cells1_one _ _ _) ?_))
        refine bodyPost_ret (v := .tuple #[.agg #[.slice none 0 0], .bool false]) ?_ rfl ⟨.inl ⟨HNO.out, rfl⟩, below_row ((HB1.out.trans (hb2.mono s0)).trans (hb3.mono (by omega))) (by omega) _⟩
        rw [results_cell_tmp rfl]
        simp [asAddr, Result.andThen, run_docOf (RowAt.setRow HZ.out _)]
      · have HYES : Hid (docF liftF d i = some d') := HFQ.out
        have HDC : Hid (∀ u, Outl u pa n pc d' → Calls Try.prog 67 #[.slice pa n pc] u fun e w' => (∃ p q rbs, e = .returned (.agg #[.slice p n q]) ∧ DocOwn w' u.heap.size w'.heap.size (.slice p n q) rbs d') ∧ Below u.heap.size u w') := fun u hu => outlineDoc_any hu HALL'.out HQ.out
        go_wp2_with (first | (go_at_call 52; refine HCH.out.mono ?_; rintro e w2 ⟨rfl, ⟨ps', ho2, hp2⟩, hb2⟩; have s2 := hb2.size; replace HZ : Hid (RowAt w2 (w.heap.size + 1) #[.slice none 0 0] 29) := HZ.out.below hb2 l1) | (go_at_call 61; refine (HIS.out _ (outl_of ho2 (hp2.below (hb01.out.trans hb2)))).mono ?_; rintro e w3 ⟨rfl, hb3⟩; have s3 := hb3.size; replace HZ : Hid (RowAt w3 (w.heap.size + 1) #[.slice none 0 0] 29) := HZ.out.below hb3 (by omega)) | (go_at_call 67; refine (HDC.out _ (outl_of (ho2.below hb3) ((hp2.below (hb01.out.trans hb2)).below hb3))).mono ?_; rintro e w4 ⟨⟨p, q, rbs, rfl, hd4⟩, hb4⟩; have s4 := hb4.size; replace HZ : Hid (RowAt w4 (w.heap.size + 1) #[.slice none 0 0] 29) := HZ.out.below hb4 (by omega)) | (refine wpList_store_row rfl 29 (.tmp 6) (.tmp 41) rfl (w.heap.size + 1) #[.slice p n q] rfl rfl 29 _ HZ.out docI_info rfl (cells1_one _ _ _) ?_))
        refine bodyPost_ret (v := .tuple #[.agg #[.slice p n q], .bool true]) ?_ rfl ⟨.inr ⟨d', p, q, rbs, HYES.out, by rw [← HLN.out], ?_⟩, below_row (((HB1.out.trans (hb2.mono s0)).trans (hb3.mono (by omega))).trans (hb4.mono (by omega))) (by omega) _⟩
        · rw [results_cell_tmp rfl]
          simp [asAddr, Result.andThen, run_docOf (RowAt.setRow HZ.out _)]
        · have sz : (w4.setRow (w.heap.size + 1) #[.slice p n q]).heap.size = w4.heap.size := by simp [World.setRow]
          rw [sz, ← HLN.out]
          exact (hd4.mid (fun b hb hb' => setRow_other _ _ _ _ (by omega))).less (by omega) (Nat.le_refl _)
set_option maxRecDepth 100000 in
set_option maxHeartbeats 4000000 in
theorem implDocLift_any {a : Option Addr} {n cap : Nat} {d : List Bl} {z : Int} {w : World} (h : Dc w a n cap d) :
    Calls Try.prog 26 #[.agg #[.slice a n cap], .int .i64 z] w fun e w' => DocRes (docF liftF d z) w.heap.size e w' ∧ Below w.heap.size w w' := by
  unfold DocRes
  have H : Hid (Dc w a n cap d) := h
  clear h
  go_enter Try.func26, Try.ntmps26
  go_upto_region 1 with fail
  have B0 : Below w.heap.size w ((w.alloc (.cells #[.slice a n cap] 29)).alloc (.cells #[.slice none 0 0] 29)) := ((Below.refl _ _).alloc (Nat.le_refl _) _).alloc (by simp) _
  have G0 : RowAt ((w.alloc (.cells #[.slice a n cap] 29)).alloc (.cells #[.slice none 0 0] 29)) w.heap.size #[.slice a n cap] 29 := (rowAt_new w _ _).alloc _
  have G1 : RowAt ((w.alloc (.cells #[.slice a n cap] 29)).alloc (.cells #[.slice none 0 0] 29)) (w.heap.size + 1) #[.slice none 0 0] 29 := by
    have := rowAt_new (w.alloc (.cells #[.slice a n cap] 29)) #[.slice none 0 0] 29
    simpa using this
  generalize ((w.alloc (.cells #[.slice a n cap] 29)).alloc (.cells #[.slice none 0 0] 29)) = v0 at B0 G0 G1 ⊢
  have k0 : v0.cell? ⟨w.heap.size, 0, none⟩ = some (.slice a n cap) := G0.cell 0
  have l1 := G1.lt
  have s0 := B0.size
  have H1 : Hid (RowAt v0 (w.heap.size + 1) #[.slice none 0 0] 29) := G1
  have HB0 : Hid (Below w.heap.size w v0) := B0
  have HD0 : Hid (Dc v0 a n cap d) := H.out.below B0
  clear G0 G1 B0
  go_wp2_with fail
  refine (docBy_lift HD0.out).mono ?_
  intro e w1 hr
  unfold DocRes at hr
  obtain ⟨(⟨hf, rfl⟩ | ⟨d', p, q, rbs, hf, rfl, ho⟩), hb1⟩ := hr
  · have HZ : Hid (RowAt w1 (w.heap.size + 1) #[.slice none 0 0] 29) := H1.out.below hb1 l1
    have HF : Hid _ := hf
    clear k0 hf
    go_wp2_with (refine wpList_store_row rfl 29 (.tmp 4) (.tmp 9) rfl (w.heap.size + 1) #[.slice none 0 0] rfl rfl 29 _ HZ.out docI_info rfl (cells1_one _ _ _) ?_)
    refine bodyPost_ret (v := .tuple #[.agg #[.slice none 0 0], .bool false]) ?_ rfl ⟨.inl ⟨HF.out, rfl⟩, below_row (HB0.out.trans (hb1.mono s0)) (by omega) _⟩
    rw [results_cell_tmp rfl]
    simp [asAddr, Result.andThen, run_docOf (RowAt.setRow HZ.out _)]
  · have HZ : Hid (RowAt w1 (w.heap.size + 1) #[.slice none 0 0] 29) := H1.out.below hb1 l1
    have HF : Hid (docF liftF d z = some d') := hf
    obtain ⟨m, HM⟩ : ∃ m, Hid (d'.length = m) := ⟨_, rfl⟩
    rw [HM.out] at ho ⊢
    clear k0 hf
    go_wp2_with (refine wpList_store_row rfl 29 (.tmp 4) (.tmp 9) rfl (w.heap.size + 1) #[.slice p m q] rfl rfl 29 _ HZ.out docI_info rfl (cells1_one _ _ _) ?_)
    refine bodyPost_ret (v := .tuple #[.agg #[.slice p m q], .bool true]) ?_ rfl ⟨.inr ⟨d', p, q, rbs, HF.out, by rw [HM.out], ?_⟩, below_row (HB0.out.trans (hb1.mono s0)) (by omega) _⟩
    · rw [results_cell_tmp rfl]
      simp [asAddr, Result.andThen, run_docOf (RowAt.setRow HZ.out _)]
    · have sz : (w1.setRow (w.heap.size + 1) #[.slice p m q]).heap.size = w1.heap.size := by simp [World.setRow]
      rw [sz, HM.out]
      exact (ho.mid (fun b hb hb' => setRow_other _ _ _ _ (by omega))).less (by omega) (Nat.le_refl _)
end Go.Proofs.Ytlpfflcogefbjaa
namespace Go.Proofs.Ytlpfflcogefbjaa
open Go.RowKit

/-- The sign that the marker lays at place i, from k on. -/
def mk (k : Int) (i : Nat) : Sg := ((k + 3 * i) % 256, k + 3 * i + 1, k + 3 * i + 1 + 1)
def marked (k : Int) (n : Nat) : List Sg := (List.range n).map (mk k)
theorem marked_len (k : Int) (n : Nat) : (marked k n).length = n := by simp [marked]
theorem marked_succ (k : Int) (n : Nat) : marked k (n + 1) = marked k n ++ [mk k n] := by simp [marked, List.range_succ]
theorem marked_get (k : Int) (n j : Nat) (h : j < n) : (marked k n).getD j (0, 0, 0) = mk k j := by simp [marked, List.getD, h]

theorem grown_refl (w : World) (r : Option Nat) : w.grownBy w r := ⟨rfl, rfl, rfl, Nat.le_refl _, fun _ _ _ => rfl⟩
theorem grown_setCell {w wr : World} {g : Nat} (h : w.grownBy wr (some g)) (o : Nat) (u : Value) : w.grownBy (wr.setCell ⟨g, o, none⟩ u) (some g) :=
  ⟨h.os, h.tape, h.output, Nat.le_trans h.size (by simp [World.setCell]), fun k hk hne => (Below.heap_setCell wr ⟨g, o, none⟩ u k (fun e => hne (by simp [e]))).trans (h.block k hk hne)⟩

theorem flat_set3 (A R : List Sg) (s t : Sg) : (((flat (A ++ s :: R)).set (A.length * 3) (.int .u8 t.1)).set (A.length * 3 + 1) (.int .i64 t.2.1)).set (A.length * 3 + 2) (.int .i64 t.2.2) = flat (A ++ [t] ++ R) := by
  have e1 : flat (A ++ s :: R) = flat A ++ (sgCells s ++ flat R) := by simp [flat]
  have e2 : flat (A ++ [t] ++ R) = flat A ++ (sgCells t ++ flat R) := by simp [flat]
  have hl := flat_length A
  rw [e1, e2, List.set_append_right _ _ (by omega), List.set_append_right _ _ (by omega), List.set_append_right _ _ (by omega), hl]
  simp [sgCells]

set_option maxHeartbeats 1000000 in
theorem markSignS_at (g n c : Nat) (l : List Sg) (k0 : Int) (B : Nat) (w : World) (h : Own w B (.slice (some ⟨g, 0, none⟩) n c) l) (hn : n ≤ 1048576) (h0 : 0 ≤ k0) (h1 : k0 ≤ 100000000) :
    Calls Try.prog 64 #[.slice (some ⟨g, 0, none⟩) n c, .int .i64 k0] w fun e w' => e = .returned (.int .i64 (k0 + 3 * n)) ∧ Own w' B (.slice (some ⟨g, 0, none⟩) n c) (marked k0 n) ∧ w.grownBy w' (some g) := by
  have hlen := h.len
  have hcap := h.txt.2.1
  have hcm := h.txt.2.2.1
  unfold maxLen at hcm
  have HO : Hid (w.ownsRow B 100 3 (.slice (some ⟨g, 0, none⟩) n c) n (flat l)) := h.row
  clear h
  subst hlen
  go_enter Try.func64, Try.ntmps64
  go_wp2_with fail
  go_loopw [1, 5] (fun kk i wr => ∃ (j : Nat), j ≤ l.length ∧ i = .int .i64 j ∧ kk = .int .i64 (k0 + 3 * j) ∧ wr.ownsRow B 100 3 (.slice (some ⟨g, 0, none⟩) l.length c) l.length (flat (marked k0 j ++ l.drop j)) ∧ w.grownBy wr (some g)) (fun _ i _ => l.length - (intOf i).toNat)
  case atStart => exact ⟨0, Nat.zero_le _, rfl, by simp, by simpa [marked] using HO.out, ⟨rfl, rfl, rfl, Nat.le_refl _, fun _ _ _ => rfl⟩⟩
  case round =>
    obtain ⟨j, hj, rfl, rfl, ho, hg⟩ := hrel
    by_cases hlt : j < l.length
    · have f0 := ho.frozenAt (j * 3)
      have f1 := ho.frozenAt (j * 3 + 1)
      have f2 := ho.frozenAt (j * 3 + 2)
      have hxl := ho.1
      obtain ⟨u0, d0⟩ : ∃ u, wr.cell? ⟨g, j * 3, none⟩ = some u := ⟨_, (ho.cellAt (j * 3) (by omega)).trans (List.getElem?_eq_getElem (by omega))⟩
      obtain ⟨u1, d1⟩ : ∃ u, wr.cell? ⟨g, j * 3 + 1, none⟩ = some u := ⟨_, (ho.cellAt (j * 3 + 1) (by omega)).trans (List.getElem?_eq_getElem (by omega))⟩
      obtain ⟨u2, d2⟩ : ∃ u, wr.cell? ⟨g, j * 3 + 2, none⟩ = some u := ⟨_, (ho.cellAt (j * 3 + 2) (by omega)).trans (List.getElem?_eq_getElem (by omega))⟩
      have HR : Hid (wr.ownsRow B 100 3 (.slice (some ⟨g, 0, none⟩) l.length c) l.length (flat (marked k0 j ++ l.drop j))) := ho
      clear ho hxl
      go_wp2_with fail
      go_roundw
      case rel =>
        obtain ⟨p0, _⟩ := HR.out.stored (j * 3) (.int .u8 (mk k0 j).1)
        obtain ⟨p1, _⟩ := p0.stored (j * 3 + 1) (.int .i64 (mk k0 j).2.1)
        obtain ⟨p2, _⟩ := p1.stored (j * 3 + 2) (.int .i64 (mk k0 j).2.2)
        refine ⟨j + 1, by omega, by go_num, ?_, ?_, grown_setCell (grown_setCell (grown_setCell hg _ _) _ _) _ _⟩
        · congr 1; omega
        · have e := flat_set3 (marked k0 j) (l.drop (j + 1)) (l[j]'hlt) (mk k0 j)
          rw [marked_len, ← List.drop_eq_getElem_cons hlt] at e
          rw [marked_succ, ← e]
          exact p2
      case measure => simp [intOf]; omega
    · obtain rfl : j = l.length := by omega
      rw [List.drop_of_length_le (Nat.le_refl _), List.append_nil] at ho
      go_wp2_with fail
      go_ret
      refine ⟨rfl, ?_, hg⟩
      unfold Own
      rw [marked_len]
      exact ho

set_option maxHeartbeats 1000000 in
theorem markSignS_nil (a : Option Addr) (c : Nat) (k0 : Int) (w : World) :
    Calls Try.prog 64 #[.slice a 0 c, .int .i64 k0] w fun e w' => e = .returned (.int .i64 k0) ∧ w' = w := by
  go_enter Try.func64, Try.ntmps64
  go_wp2_with fail
  refine wp_loop_rounds 1 ?_
  rw [rounds_succ]
  go_wp2_with fail
  go_ret
  exact ⟨rfl, rfl⟩

/-- The marker writes into what is owned alone. -/
theorem markSignS_any (a : Option Addr) (n c : Nat) (l : List Sg) (k0 : Int) (B : Nat) (w : World) (h : Own w B (.slice a n c) l) (hn : n ≤ 1048576) (h0 : 0 ≤ k0) (h1 : k0 ≤ 100000000) :
    Calls Try.prog 64 #[.slice a n c, .int .i64 k0] w fun e w' => e = .returned (.int .i64 (k0 + 3 * n)) ∧ Own w' B (.slice a n c) (marked k0 n) ∧ w.grownBy w' (Value.slice a n c).ownBlock := by
  have hl := h.len
  rcases h.row.2 with ⟨hv, h0'⟩ | ⟨g, cap, cur, hv, r⟩
  · simp only [Value.slice.injEq] at hv
    obtain ⟨rfl, rfl, rfl⟩ := hv
    refine (markSignS_nil _ _ k0 w).mono ?_
    rintro e w' ⟨rfl, rfl⟩
    exact ⟨by simp, by simpa [marked] using Own.nil _ _, grown_refl _ _⟩
  · simp only [Value.slice.injEq, true_and] at hv
    obtain ⟨rfl, rfl⟩ := hv
    exact markSignS_at g n c l k0 B w h hn h0 h1

set_option maxHeartbeats 2000000 in
theorem heldSignS_any (a : Option Addr) (n c : Nat) (k0 : Int) (w : World) (h : Txt w a n c (marked k0 n)) (hn : n ≤ 1048576) (h0 : 0 ≤ k0) (h1 : k0 ≤ 100000000) :
    Calls Try.prog 69 #[.slice a n c, .int .i64 k0] w fun e w' => e = .returned (.int .i64 (k0 + 3 * n)) ∧ w' = w := by
  obtain ⟨-, hc, hm, hl⟩ := h
  unfold maxLen at hm
  by_cases hz : n = 0
  · subst hz
    go_enter Try.func69, Try.ntmps69
    go_wp2_with fail
    refine wp_loop_rounds 1 ?_
    rw [rounds_succ]
    go_wp2_with fail
    go_ret
    exact ⟨by simp, rfl⟩
  · rcases hl with hl | ⟨b, off, rfl, hbw, hl⟩
    · exfalso
      have := marked_len k0 n
      rw [hl] at this
      exact hz this.symm
    · go_enter Try.func69, Try.ntmps69
      go_wp2_with fail
      go_loop [1, 5] (fun kk i => ∃ (j : Nat), j ≤ n ∧ i = .int .i64 j ∧ kk = .int .i64 (k0 + 3 * j)) (fun _ i => n - (intOf i).toNat)
      case atStart => exact ⟨0, Nat.zero_le _, rfl, by simp⟩
      case round =>
        obtain ⟨j, hj, rfl, rfl⟩ := hrel
        by_cases hlt : j < n
        · obtain ⟨c0, c1, c2⟩ := hl j (by rw [marked_len]; exact hlt)
          rw [marked_get k0 n j hlt] at c0 c1 c2
          clear hl
          simp only [mk] at c0 c1 c2
          go_wp2_with fail
          go_round
          case rel => exact ⟨j + 1, by omega, by go_num, by congr 1; omega⟩
          case measure => simp [intOf]; omega
        · obtain rfl : j = n := by omega
          go_wp2_with fail
          go_ret
          exact ⟨rfl, rfl⟩
end Go.Proofs.Ytlpfflcogefbjaa
namespace Go.Proofs.Ytlpfflcogefbjaa
open Go.RowKit

/-- The cell that the marker lays, from k on. -/
def mkC (k : Int) (n : Nat) : Cl := (k, k + 1, k + 2, k + 3, marked (k + 4) n)
def kAt (k0 : Int) (l : List Cl) (i : Nat) : Int := k0 + 4 * i + 3 * (totT (l.take i) : Nat)
def markL (k0 : Int) (l : List Cl) : List Cl := (List.range l.length).map fun k => mkC (kAt k0 l k) (l.getD k cl0).2.2.2.2.length
theorem markL_len (k0 : Int) (l : List Cl) : (markL k0 l).length = l.length := by simp [markL]
theorem markL_get (k0 : Int) (l : List Cl) (k : Nat) (h : k < l.length) : (markL k0 l).getD k cl0 = mkC (kAt k0 l k) (l.getD k cl0).2.2.2.2.length := by
  simp only [markL, List.getD, List.getElem?_map, List.getElem?_range h, Option.map_some, Option.getD_some]
theorem kAt_succ (k0 : Int) (l : List Cl) (i : Nat) (h : i < l.length) : kAt k0 l (i + 1) = kAt k0 l i + 4 + 3 * ((l.getD i cl0).2.2.2.2.length : Nat) := by
  unfold kAt
  rw [totT_take l i h]
  omega
theorem kAt_ge (k0 : Int) (l : List Cl) (i : Nat) (h : 0 ≤ k0) : 0 ≤ kAt k0 l i := by
  unfold kAt
  omega
theorem kAt_le (k0 : Int) (l : List Cl) (i : Nat) (h : i ≤ l.length) : kAt k0 l i ≤ k0 + 4 * l.length + 3 * (totT l : Nat) := by
  unfold kAt
  have := totT_append (l.take i) (l.drop i)
  rw [List.take_append_drop] at this
  omega
theorem getD_set_eq {α : Type} (l : List α) (i : Nat) (x d : α) (h : i < l.length) : (l.set i x).getD i d = x := by simp [List.getD, h]
theorem getD_set_ne {α : Type} (l : List α) (i k : Nat) (x d : α) (h : i ≠ k) : (l.set i x).getD k d = l.getD k d := by simp [List.getD, List.getElem?_set_ne h]
theorem TxtOwn.upd {w w' : World} {B : Nat} {q : Option Nat} {rs : List Rw} {l : List Cl} (h : TxtOwn w B q rs l) (i : Nat) (hi : i < rs.length) (x : Rw) (y : Cl) (hx : rwT x = rwT (rs.getD i rw0)) (ho : RwOwn w' B x y)
    (hk : ∀ k, k < rs.length → k ≠ i → Own w' B (rwT (rs.getD k rw0)) (l.getD k cl0).2.2.2.2) : TxtOwn w' B q (rs.set i x) (l.set i y) := by
  have hl := h.1
  have hT : ∀ k, rwT ((rs.set i x).getD k rw0) = rwT (rs.getD k rw0) := by
    intro k
    by_cases hki : i = k
    · subst hki
      rw [getD_set_eq _ _ _ _ hi, hx]
    · rw [getD_set_ne _ _ _ _ _ hki]
  refine ⟨by simp [hl], fun k hk' => ?_, fun k hk' g hg => ?_, fun a b hab hb g hg => ?_⟩
  · simp only [List.length_set] at hk'
    by_cases hki : i = k
    · subst hki
      rw [getD_set_eq _ _ _ _ hi, getD_set_eq _ _ _ _ (by omega)]
      exact ho
    · rw [getD_set_ne _ _ _ _ _ hki, getD_set_ne _ _ _ _ _ hki]
      obtain ⟨h0, h1, h2, h3, _⟩ := h.2.1 k hk'
      exact ⟨h0, h1, h2, h3, hk k hk' (Ne.symm hki)⟩
  · simp only [List.length_set] at hk'
    rw [hT] at hg
    exact h.2.2.1 k hk' g hg
  · simp only [List.length_set] at hb
    rw [hT] at hg ⊢
    exact h.2.2.2 a b hab hb g hg
theorem flat5_set (rs : List Rw) (i : Nat) (hi : i < rs.length) (a b c d : Int) (s : Option Addr × Nat × Nat) (hs : (rs.getD i rw0).2.2.2.2 = s) :
    (((((flat5 rs).set (i * 5) (.int .i64 a)).set (i * 5 + 1) (.int .i64 b)).set (i * 5 + 2) (.int .i64 c)).set (i * 5 + 3) (.int .i64 d)) = flat5 (rs.set i (a, b, c, d, s)) := by
  apply List.ext_getElem?
  intro j
  have hlen := flat5_length rs
  by_cases hj : j < rs.length * 5
  · have hj5 : j = j / 5 * 5 + j % 5 := by omega
    have hk : j / 5 < rs.length := by omega
    have hm : j % 5 < 5 := by omega
    generalize j / 5 = k at hj5 hk
    generalize j % 5 = r at hj5 hm
    subst hj5
    rw [flat5_get (rs.set i (a, b, c, d, s)) k r (by simpa using hk) hm]
    by_cases hki : i = k
    · subst hki
      rw [getD_set_eq _ _ _ _ hi]
      have hold := flat5_get rs i 4 hi (by omega)
      rcases (show r = 0 ∨ r = 1 ∨ r = 2 ∨ r = 3 ∨ r = 4 from by omega) with rfl | rfl | rfl | rfl | rfl
      · rw [List.getElem?_set_ne (by omega), List.getElem?_set_ne (by omega), List.getElem?_set_ne (by omega), Nat.add_zero, List.getElem?_set_self (by omega)]; rfl
      · rw [List.getElem?_set_ne (by omega), List.getElem?_set_ne (by omega), List.getElem?_set_self (by simp; omega)]; rfl
      · rw [List.getElem?_set_ne (by omega), List.getElem?_set_self (by simp; omega)]; rfl
      · rw [List.getElem?_set_self (by simp; omega)]; rfl
      · rw [List.getElem?_set_ne (by omega), List.getElem?_set_ne (by omega), List.getElem?_set_ne (by omega), List.getElem?_set_ne (by omega), hold, ← hs]; rfl
    · rw [getD_set_ne _ _ _ _ _ hki, List.getElem?_set_ne (by omega), List.getElem?_set_ne (by omega), List.getElem?_set_ne (by omega), List.getElem?_set_ne (by omega)]
      exact flat5_get rs k r hk hm
  · rw [List.getElem?_eq_none (by simp; omega), List.getElem?_eq_none (by rw [flat5_length]; simp; omega)]

/-- Tables that lie elsewhere stay as they are. -/
def Stay (w w' : World) : Prop := ∀ b cs, RowAt w b cs 47 → RowAt w' b cs 47

/-- From block E on nothing has turned. -/
def Over (E : Nat) (w w' : World) : Prop := ∀ b, E ≤ b → b < w.heap.size → w'.heap[b]? = w.heap[b]?
theorem own_over {w w' : World} {B E e size n : Nat} {v : Value} {xs : List Value} (h : w.ownsRow B e size v n xs) (hE : E ≤ B) (ho : Over E w w') : w'.ownsRow B e size v n xs := by
  refine ⟨h.1, ?_⟩
  rcases h.2 with hn | ⟨g, cap, cur, rfl, hg, hgg, rest⟩
  · exact .inl hn
  · exact .inr ⟨g, cap, cur, rfl, hg, by rw [ho g (by omega) (Array.getElem?_eq_some_iff.1 hgg).1]; exact hgg, rest⟩
theorem OwnT.over {w w' : World} {B E : Nat} {v : Value} {rs : List Rw} {l : List Cl} (h : OwnT w B v rs l) (hE : E ≤ B) (ho : Over E w w') : OwnT w' B v rs l :=
  ⟨own_over h.1 hE ho, h.2.1, fun k hk => by
    obtain ⟨a0, a1, a2, a3, a4⟩ := h.2.2.1 k hk
    exact ⟨a0, a1, a2, a3, own_over a4 hE ho⟩, h.2.2.2.1, h.2.2.2.2⟩

set_option maxRecDepth 100000 in
set_option maxHeartbeats 4000000 in
theorem markCellS_over (a : Option Addr) (n c : Nat) (rs : List Rw) (l : List Cl) (k0 : Int) (B E : Nat) (w : World) (h : OwnT w B (.slice a n c) rs l) (hE : ∀ g, (Value.slice a n c).ownBlock = some g → g < E) (hT : ∀ k, k < rs.length → ∀ g, (rwT (rs.getD k rw0)).ownBlock = some g → g < E) (h0 : 0 ≤ k0) (h1 : k0 + 4 * l.length + 3 * (totT l : Nat) ≤ 50000000) (h2 : totT l ≤ 1048576) :
    Calls Try.prog 65 #[.slice a n c, .int .i64 k0] w fun e w' => e = .returned (.int .i64 (kAt k0 l l.length)) ∧ (∃ rs', OwnT w' B (.slice a n c) rs' (markL k0 l)) ∧ Below B w w' ∧ Stay w w' ∧ Over E w w' := by
  have hn := h.len
  have htab := h.tab
  have hcm := htab.2.2.1
  have hcn := htab.2.1
  unfold maxLen at hcm
  have HOT : Hid (OwnT w B (.slice a n c) rs l) := h
  have HE : Hid (∀ g, (Value.slice a n c).ownBlock = some g → g < E) := hE
  have HTE : Hid (∀ k, k < rs.length → ∀ g, (rwT (rs.getD k rw0)).ownBlock = some g → g < E) := hT
  clear hE hT
  clear h htab
  subst hn
  go_enter Try.func65, Try.ntmps65
  go_wp2_with fail
  go_loopw [1, 5] (fun kk iv wr => ∃ (i : Nat) (rs' : List Rw) (l' : List Cl), i ≤ l.length ∧ iv = .int .i64 i ∧ kk = .int .i64 (kAt k0 l i) ∧ OwnT wr B (.slice a l.length c) rs' l' ∧ (∀ k, k < l.length → (l'.getD k cl0).2.2.2.2.length = (l.getD k cl0).2.2.2.2.length) ∧ (∀ k, k < i → l'.getD k cl0 = mkC (kAt k0 l k) (l.getD k cl0).2.2.2.2.length) ∧ Below B w wr ∧ Stay w wr ∧ Over E w wr ∧ (∀ k, k < rs'.length → ∀ g, (rwT (rs'.getD k rw0)).ownBlock = some g → g < E)) (fun _ iv _ => l.length - (intOf iv).toNat)
  case atStart => exact ⟨0, rs, l, Nat.zero_le _, rfl, by simp [kAt, totT], HOT.out, fun _ _ => rfl, fun k hk => by omega, Below.refl _ _, fun _ _ hh => hh, fun _ _ _ => rfl, HTE.out⟩
  case round =>
    obtain ⟨i, rs', l', hi, rfl, rfl, ho, hlen, hdone, hb, hstay, hov, hte⟩ := hrel
    have HOv : Hid (Over E w wr) := hov
    have HTe : Hid (∀ k, k < rs'.length → ∀ g, (rwT (rs'.getD k rw0)).ownBlock = some g → g < E) := hte
    have HSz : Hid (w.heap.size ≤ wr.heap.size) := hb.size
    have HSt : Hid (Stay w wr) := hstay
    have HO : Hid (OwnT wr B (.slice a l.length c) rs' l') := ho
    have HLn : Hid (∀ k, k < l.length → (l'.getD k cl0).2.2.2.2.length = (l.getD k cl0).2.2.2.2.length) := hlen
    have HD : Hid (∀ k, k < i → l'.getD k cl0 = mkC (kAt k0 l k) (l.getD k cl0).2.2.2.2.length) := hdone
    have HB : Hid (Below B w wr) := hb
    have HLL : Hid (l.length = l'.length) := ho.len
    have HRL : Hid (l.length = rs'.length) := ho.1.len
    clear hlen hdone hb hstay hov hte
    by_cases hlt : i < l.length
    · have kge := kAt_ge k0 l i h0
      have kle := kAt_le k0 l i (by omega)
      have HSU : Hid (kAt k0 l (i + 1) = kAt k0 l i + 4 + 3 * ((l.getD i cl0).2.2.2.2.length : Nat)) := kAt_succ k0 l i hlt
      have hK : ∃ K, Hid (kAt k0 l i = K) := ⟨_, rfl⟩
      obtain ⟨K, HK⟩ := hK
      rw [HK.out] at kge kle ⊢
      rcases ho.1.row.2 with ⟨hv, hz⟩ | ⟨g, cap, cur, hv, hgB, hgg, _⟩
      · exfalso; omega
      simp only [Value.slice.injEq, true_and] at hv
      obtain ⟨rfl, rfl⟩ := hv
      have hrow := ho.1.row
      have glt := (own_lt hrow rfl).2
      have hxl := hrow.1
      have f0 := hrow.frozenAt (i * 5)
      have f1 := hrow.frozenAt (i * 5 + 1)
      have f2 := hrow.frozenAt (i * 5 + 2)
      have f3 := hrow.frozenAt (i * 5 + 3)
      obtain ⟨u0, d0⟩ : ∃ u, wr.cell? ⟨g, i * 5, none⟩ = some u := ⟨_, (hrow.cellAt (i * 5) (by omega)).trans (List.getElem?_eq_getElem (by omega))⟩
      obtain ⟨u1, d1⟩ : ∃ u, wr.cell? ⟨g, i * 5 + 1, none⟩ = some u := ⟨_, (hrow.cellAt (i * 5 + 1) (by omega)).trans (List.getElem?_eq_getElem (by omega))⟩
      obtain ⟨u2, d2⟩ : ∃ u, wr.cell? ⟨g, i * 5 + 2, none⟩ = some u := ⟨_, (hrow.cellAt (i * 5 + 2) (by omega)).trans (List.getElem?_eq_getElem (by omega))⟩
      obtain ⟨u3, d3⟩ : ∃ u, wr.cell? ⟨g, i * 5 + 3, none⟩ = some u := ⟨_, (hrow.cellAt (i * 5 + 3) (by omega)).trans (List.getElem?_eq_getElem (by omega))⟩
      have hK2 : K ≤ 50000000 := by omega
      clear ho hrow hxl hgg kle
      go_upto_region 12 with fail
      obtain ⟨⟨p, m, q⟩, hs⟩ : ∃ s, (rs'.getD i rw0).2.2.2.2 = s := ⟨_, rfl⟩
      obtain ⟨p0, _⟩ := HO.out.1.row.stored (i * 5) (.int .i64 K)
      obtain ⟨p1, _⟩ := p0.stored (i * 5 + 1) (.int .i64 (K + 1))
      obtain ⟨p2, _⟩ := p1.stored (i * 5 + 2) (.int .i64 (K + 1 + 1))
      obtain ⟨p3, _⟩ := p2.stored (i * 5 + 3) (.int .i64 (K + 1 + 1 + 1))
      have hir : i < rs'.length := by rw [← HRL.out]; exact hlt
      rw [flat5_set rs' i hir _ _ _ _ (p, m, q) hs] at p3
      have t3 : TxtOwn ((((wr.setCell ⟨g, i * 5, none⟩ (.int .i64 K)).setCell ⟨g, i * 5 + 1, none⟩ (.int .i64 (K + 1))).setCell ⟨g, i * 5 + 2, none⟩ (.int .i64 (K + 1 + 1))).setCell ⟨g, i * 5 + 3, none⟩ (.int .i64 (K + 1 + 1 + 1))) B (some g) rs' l' := (((HO.out.2.set ⟨g, i * 5, none⟩ (.int .i64 K) rfl).set ⟨g, i * 5 + 1, none⟩ (.int .i64 (K + 1)) rfl).set ⟨g, i * 5 + 2, none⟩ (.int .i64 (K + 1 + 1)) rfl).set ⟨g, i * 5 + 3, none⟩ (.int .i64 (K + 1 + 1 + 1)) rfl
      have b3 : Below B w ((((wr.setCell ⟨g, i * 5, none⟩ (.int .i64 K)).setCell ⟨g, i * 5 + 1, none⟩ (.int .i64 (K + 1))).setCell ⟨g, i * 5 + 2, none⟩ (.int .i64 (K + 1 + 1))).setCell ⟨g, i * 5 + 3, none⟩ (.int .i64 (K + 1 + 1 + 1))) := (((HB.out.setCell (p := ⟨g, i * 5, none⟩) hgB (.int .i64 K)).setCell (p := ⟨g, i * 5 + 1, none⟩) hgB (.int .i64 (K + 1))).setCell (p := ⟨g, i * 5 + 2, none⟩) hgB (.int .i64 (K + 1 + 1))).setCell (p := ⟨g, i * 5 + 3, none⟩) hgB (.int .i64 (K + 1 + 1 + 1))
      have st3 : Stay wr ((((wr.setCell ⟨g, i * 5, none⟩ (.int .i64 K)).setCell ⟨g, i * 5 + 1, none⟩ (.int .i64 (K + 1))).setCell ⟨g, i * 5 + 2, none⟩ (.int .i64 (K + 1 + 1))).setCell ⟨g, i * 5 + 3, none⟩ (.int .i64 (K + 1 + 1 + 1))) := by
        intro b cs hh
        have hne : b ≠ g := fun e => rowAt_ne hh HO.out.1.row (by decide) (by rw [e]; rfl)
        exact (((hh.other ⟨g, i * 5, none⟩ (.int .i64 K) hne).other ⟨g, i * 5 + 1, none⟩ (.int .i64 (K + 1)) hne).other ⟨g, i * 5 + 2, none⟩ (.int .i64 (K + 1 + 1)) hne).other ⟨g, i * 5 + 3, none⟩ (.int .i64 (K + 1 + 1 + 1)) hne
      have sz3 : ((((wr.setCell ⟨g, i * 5, none⟩ (.int .i64 K)).setCell ⟨g, i * 5 + 1, none⟩ (.int .i64 (K + 1))).setCell ⟨g, i * 5 + 2, none⟩ (.int .i64 (K + 1 + 1))).setCell ⟨g, i * 5 + 3, none⟩ (.int .i64 (K + 1 + 1 + 1))).heap.size = wr.heap.size := by simp only [Go.Deep.nblk_setCell]
      have ov3 : Over E w ((((wr.setCell ⟨g, i * 5, none⟩ (.int .i64 K)).setCell ⟨g, i * 5 + 1, none⟩ (.int .i64 (K + 1))).setCell ⟨g, i * 5 + 2, none⟩ (.int .i64 (K + 1 + 1))).setCell ⟨g, i * 5 + 3, none⟩ (.int .i64 (K + 1 + 1 + 1))) := by
        intro b hb1 hb2
        have hge : g < E := HE.out g rfl
        have hne : b ≠ g := by omega
        rw [Below.heap_setCell _ _ _ _ hne, Below.heap_setCell _ _ _ _ hne, Below.heap_setCell _ _ _ _ hne, Below.heap_setCell _ _ _ _ hne]
        exact HOv.out b hb1 hb2
      clear p0 p1 p2 d0 d1 d2 d3 f0 f1 f2 f3
      generalize ((((wr.setCell ⟨g, i * 5, none⟩ (.int .i64 K)).setCell ⟨g, i * 5 + 1, none⟩ (.int .i64 (K + 1))).setCell ⟨g, i * 5 + 2, none⟩ (.int .i64 (K + 1 + 1))).setCell ⟨g, i * 5 + 3, none⟩ (.int .i64 (K + 1 + 1 + 1))) = v at p3 t3 b3 sz3 st3 ov3 ⊢
      have HS3 : Hid (Stay wr v) := st3
      have HOv3 : Hid (Over E w v) := ov3
      clear st3 ov3
      have hc4 : v.cell? ⟨g, i * 5 + 4, none⟩ = some (.slice p m q) := by
        rw [p3.cellAt (i * 5 + 4) (by omega), flat5_get _ i 4 (by simpa using hir) (by omega), getD_set_eq _ _ _ _ hir]
        rfl
      have hto : Own v B (.slice p m q) (l'.getD i cl0).2.2.2.2 := by
        have := (t3.2.1 i hir).2.2.2.2
        unfold rwT at this
        rw [hs] at this
        exact this
      have HMN : Hid (m = (l.getD i cl0).2.2.2.2.length) := hto.len.trans (HLn.out i hlt)
      have HTO : Hid (Own v B (.slice p m q) (l'.getD i cl0).2.2.2.2) := hto
      have HP3 : Hid (v.ownsRow B 59 5 (.slice (some ⟨g, 0, none⟩) l.length c) l.length (flat5 (rs'.set i (K, K + 1, K + 1 + 1, K + 1 + 1 + 1, p, m, q)))) := p3
      have HT3 : Hid (TxtOwn v B (some g) rs' l') := t3
      have HS : Hid ((rs'.getD i rw0).2.2.2.2 = (p, m, q)) := hs
      have hm6 : m ≤ 1048576 := by
        have := totT_le l i hlt
        rw [HMN.out]
        omega
      clear hto p3 t3 hs
      go_wp2_with (go_at_call 64; refine (markSignS_any p m q (l'.getD i cl0).2.2.2.2 _ B _ HTO.out hm6 (by omega) (by omega)).mono ?_; rintro e w2 ⟨rfl, hO2, hg2⟩)
      go_roundw
      case rel =>
        have hT : rwT (rs'.getD i rw0) = .slice p m q := by
          unfold rwT
          rw [HS.out]
        have hne : ∀ g', (Value.slice p m q).ownBlock = some g' → some g ≠ some g' := fun g' hg' => HT3.out.2.2.1 i hir g' (by rw [hT]; exact hg')
        have e4 : K + 1 + 1 + 1 + 1 = K + 4 := by omega
        rw [e4] at hO2
        have hR : OwnR w2 B (.slice (some ⟨g, 0, none⟩) l.length c) (rs'.set i (K, K + 1, K + 1 + 1, K + 1 + 1 + 1, p, m, q)) := by
          unfold OwnR
          rw [List.length_set, ← HRL.out]
          exact own_grown HP3.out hg2 (fun g' hg' hq => by
            have e : g = g' := by simpa [Value.ownBlock] using hg'
            exact hne g' hq (by rw [e]))
        have hX : TxtOwn w2 B (some g) (rs'.set i (K, K + 1, K + 1 + 1, K + 1 + 1 + 1, p, m, q)) (l'.set i (mkC K m)) := by
          refine HT3.out.upd i hir _ _ (by rw [hT]; rfl) ⟨rfl, rfl, by show K + 1 + 1 = K + 2; omega, by show K + 1 + 1 + 1 = K + 3; omega, hO2⟩ ?_
          intro k hk hki
          refine own_grown (HT3.out.2.1 k hk).2.2.2.2 hg2 (fun g' hg' hq => ?_)
          rcases Nat.lt_or_ge k i with h3 | h3
          · exact HT3.out.2.2.2 k i h3 hir g' hg' (by rw [hT]; exact hq)
          · exact HT3.out.2.2.2 i k (by omega) hk g' (by rw [hT]; exact hq) hg'
        have hil : i < l'.length := by rw [← HLL.out]; exact hlt
        refine ⟨i + 1, _, l'.set i (mkC K m), by omega, by go_num, ?_, ⟨hR, hX⟩, ?_, ?_, ?_, ?_, ?_, ?_⟩
        · rw [HSU.out, HK.out, ← HMN.out]
          congr 1
          omega
        · intro k hk
          by_cases hki : i = k
          · subst hki
            rw [getD_set_eq _ _ _ _ hil, ← HMN.out]
            exact marked_len _ _
          · rw [getD_set_ne _ _ _ _ _ hki]
            exact HLn.out k hk
        · intro k hk
          by_cases hki : i = k
          · subst hki
            rw [getD_set_eq _ _ _ _ hil, HK.out, ← HMN.out]
          · rw [getD_set_ne _ _ _ _ _ hki]
            exact HD.out k (by omega)
        · exact b3.grown hg2 (by rw [sz3]; omega) (fun q' hq' => (own_lt HTO.out.row hq').1)
        · intro b cs hh
          have h3 := HS3.out b cs (HSt.out b cs hh)
          exact h3.grown hg2 (rowAt_ne h3 HTO.out.row (by decide))
        · intro b hb1 hb2
          have e5 := HSz.out
          refine (hg2.block b (by rw [sz3]; omega) (fun e => ?_)).trans (HOv3.out b hb1 hb2)
          have := HTe.out i hir b (by rw [hT]; exact e.symm)
          omega
        · intro k hk g' hg'
          simp only [List.length_set] at hk
          refine HTe.out k hk g' ?_
          by_cases hki : i = k
          · subst hki
            rw [getD_set_eq _ _ _ _ hir] at hg'
            rw [hT]
            exact hg'
          · rw [getD_set_ne _ _ _ _ _ hki] at hg'
            exact hg'
      case measure => simp [intOf]; omega
    · have e : i = l.length := by omega
      subst e
      have hL : l' = markL k0 l := by
        apply List.ext_getElem?
        intro k
        by_cases hk : k < l.length
        · have h3 := HD.out k hk
          rw [← markL_get k0 l k hk] at h3
          have hk' : k < l'.length := by rw [← HLL.out]; exact hk
          have hk2 : k < (markL k0 l).length := by rw [markL_len]; exact hk
          simp only [List.getD, List.getElem?_eq_getElem hk', List.getElem?_eq_getElem hk2, Option.getD_some] at h3
          rw [List.getElem?_eq_getElem hk', List.getElem?_eq_getElem hk2, h3]
        · rw [List.getElem?_eq_none (by rw [← HLL.out]; omega), List.getElem?_eq_none (by rw [markL_len]; omega)]
      have ho2 := HO.out
      rw [hL] at ho2
      have HO2 : Hid (OwnT wr B (.slice a l.length c) rs' (markL k0 l)) := ho2
      clear ho ho2 hL
      go_wp2_with fail
      go_ret
      exact ⟨rfl, ⟨rs', HO2.out⟩, HB.out, HSt.out, HOv.out⟩
theorem markCellS_any (a : Option Addr) (n c : Nat) (rs : List Rw) (l : List Cl) (k0 : Int) (B : Nat) (w : World) (h : OwnT w B (.slice a n c) rs l) (h0 : 0 ≤ k0) (h1 : k0 + 4 * l.length + 3 * (totT l : Nat) ≤ 50000000) (h2 : totT l ≤ 1048576) :
    Calls Try.prog 65 #[.slice a n c, .int .i64 k0] w fun e w' => e = .returned (.int .i64 (kAt k0 l l.length)) ∧ (∃ rs', OwnT w' B (.slice a n c) rs' (markL k0 l)) ∧ Below B w w' ∧ Stay w w' :=
  (markCellS_over a n c rs l k0 B w.heap.size w h (fun _ hg => (own_lt h.1.row hg).2) (fun k hk g hg => h.2.blockLt k hk g hg) h0 h1 h2).mono fun _ _ ⟨q1, q2, q3, q4, _⟩ => ⟨q1, q2, q3, q4⟩
end Go.Proofs.Ytlpfflcogefbjaa
namespace Go.Proofs.Ytlpfflcogefbjaa
open Go.RowKit

/-- Rows of blocks stay as they are. -/
def StayB (w w' : World) : Prop := ∀ b cs, RowAt w b cs 49 → RowAt w' b cs 49

set_option maxRecDepth 100000 in
set_option maxHeartbeats 4000000 in
theorem markCellS_overB (a : Option Addr) (n c : Nat) (rs : List Rw) (l : List Cl) (k0 : Int) (B E : Nat) (w : World) (h : OwnT w B (.slice a n c) rs l) (hE : ∀ g, (Value.slice a n c).ownBlock = some g → g < E) (hT : ∀ k, k < rs.length → ∀ g, (rwT (rs.getD k rw0)).ownBlock = some g → g < E) (h0 : 0 ≤ k0) (h1 : k0 + 4 * l.length + 3 * (totT l : Nat) ≤ 50000000) (h2 : totT l ≤ 1048576) :
    Calls Try.prog 65 #[.slice a n c, .int .i64 k0] w fun e w' => e = .returned (.int .i64 (kAt k0 l l.length)) ∧ (∃ rs', OwnT w' B (.slice a n c) rs' (markL k0 l) ∧ ∀ k, k < rs'.length → ∀ g, (rwT (rs'.getD k rw0)).ownBlock = some g → g < E) ∧ Below B w w' ∧ StayB w w' ∧ Over E w w' := by
  have hn := h.len
  have htab := h.tab
  have hcm := htab.2.2.1
  have hcn := htab.2.1
  unfold maxLen at hcm
  have HOT : Hid (OwnT w B (.slice a n c) rs l) := h
  have HE : Hid (∀ g, (Value.slice a n c).ownBlock = some g → g < E) := hE
  have HTE : Hid (∀ k, k < rs.length → ∀ g, (rwT (rs.getD k rw0)).ownBlock = some g → g < E) := hT
  clear hE hT
  clear h htab
  subst hn
  go_enter Try.func65, Try.ntmps65
  go_wp2_with fail
  go_loopw [1, 5] (fun kk iv wr => ∃ (i : Nat) (rs' : List Rw) (l' : List Cl), i ≤ l.length ∧ iv = .int .i64 i ∧ kk = .int .i64 (kAt k0 l i) ∧ OwnT wr B (.slice a l.length c) rs' l' ∧ (∀ k, k < l.length → (l'.getD k cl0).2.2.2.2.length = (l.getD k cl0).2.2.2.2.length) ∧ (∀ k, k < i → l'.getD k cl0 = mkC (kAt k0 l k) (l.getD k cl0).2.2.2.2.length) ∧ Below B w wr ∧ StayB w wr ∧ Over E w wr ∧ (∀ k, k < rs'.length → ∀ g, (rwT (rs'.getD k rw0)).ownBlock = some g → g < E)) (fun _ iv _ => l.length - (intOf iv).toNat)
  case atStart => exact ⟨0, rs, l, Nat.zero_le _, rfl, by simp [kAt, totT], HOT.out, fun _ _ => rfl, fun k hk => by omega, Below.refl _ _, fun _ _ hh => hh, fun _ _ _ => rfl, HTE.out⟩
  case round =>
    obtain ⟨i, rs', l', hi, rfl, rfl, ho, hlen, hdone, hb, hstay, hov, hte⟩ := hrel
    have HOv : Hid (Over E w wr) := hov
    have HTe : Hid (∀ k, k < rs'.length → ∀ g, (rwT (rs'.getD k rw0)).ownBlock = some g → g < E) := hte
    have HSz : Hid (w.heap.size ≤ wr.heap.size) := hb.size
    have HSt : Hid (StayB w wr) := hstay
    have HO : Hid (OwnT wr B (.slice a l.length c) rs' l') := ho
    have HLn : Hid (∀ k, k < l.length → (l'.getD k cl0).2.2.2.2.length = (l.getD k cl0).2.2.2.2.length) := hlen
    have HD : Hid (∀ k, k < i → l'.getD k cl0 = mkC (kAt k0 l k) (l.getD k cl0).2.2.2.2.length) := hdone
    have HB : Hid (Below B w wr) := hb
    have HLL : Hid (l.length = l'.length) := ho.len
    have HRL : Hid (l.length = rs'.length) := ho.1.len
    clear hlen hdone hb hstay hov hte
    by_cases hlt : i < l.length
    · have kge := kAt_ge k0 l i h0
      have kle := kAt_le k0 l i (by omega)
      have HSU : Hid (kAt k0 l (i + 1) = kAt k0 l i + 4 + 3 * ((l.getD i cl0).2.2.2.2.length : Nat)) := kAt_succ k0 l i hlt
      have hK : ∃ K, Hid (kAt k0 l i = K) := ⟨_, rfl⟩
      obtain ⟨K, HK⟩ := hK
      rw [HK.out] at kge kle ⊢
      rcases ho.1.row.2 with ⟨hv, hz⟩ | ⟨g, cap, cur, hv, hgB, hgg, _⟩
      · exfalso; omega
      simp only [Value.slice.injEq, true_and] at hv
      obtain ⟨rfl, rfl⟩ := hv
      have hrow := ho.1.row
      have glt := (own_lt hrow rfl).2
      have hxl := hrow.1
      have f0 := hrow.frozenAt (i * 5)
      have f1 := hrow.frozenAt (i * 5 + 1)
      have f2 := hrow.frozenAt (i * 5 + 2)
      have f3 := hrow.frozenAt (i * 5 + 3)
      obtain ⟨u0, d0⟩ : ∃ u, wr.cell? ⟨g, i * 5, none⟩ = some u := ⟨_, (hrow.cellAt (i * 5) (by omega)).trans (List.getElem?_eq_getElem (by omega))⟩
      obtain ⟨u1, d1⟩ : ∃ u, wr.cell? ⟨g, i * 5 + 1, none⟩ = some u := ⟨_, (hrow.cellAt (i * 5 + 1) (by omega)).trans (List.getElem?_eq_getElem (by omega))⟩
      obtain ⟨u2, d2⟩ : ∃ u, wr.cell? ⟨g, i * 5 + 2, none⟩ = some u := ⟨_, (hrow.cellAt (i * 5 + 2) (by omega)).trans (List.getElem?_eq_getElem (by omega))⟩
      obtain ⟨u3, d3⟩ : ∃ u, wr.cell? ⟨g, i * 5 + 3, none⟩ = some u := ⟨_, (hrow.cellAt (i * 5 + 3) (by omega)).trans (List.getElem?_eq_getElem (by omega))⟩
      have hK2 : K ≤ 50000000 := by omega
      clear ho hrow hxl hgg kle
      go_upto_region 12 with fail
      obtain ⟨⟨p, m, q⟩, hs⟩ : ∃ s, (rs'.getD i rw0).2.2.2.2 = s := ⟨_, rfl⟩
      obtain ⟨p0, _⟩ := HO.out.1.row.stored (i * 5) (.int .i64 K)
      obtain ⟨p1, _⟩ := p0.stored (i * 5 + 1) (.int .i64 (K + 1))
      obtain ⟨p2, _⟩ := p1.stored (i * 5 + 2) (.int .i64 (K + 1 + 1))
      obtain ⟨p3, _⟩ := p2.stored (i * 5 + 3) (.int .i64 (K + 1 + 1 + 1))
      have hir : i < rs'.length := by rw [← HRL.out]; exact hlt
      rw [flat5_set rs' i hir _ _ _ _ (p, m, q) hs] at p3
      have t3 : TxtOwn ((((wr.setCell ⟨g, i * 5, none⟩ (.int .i64 K)).setCell ⟨g, i * 5 + 1, none⟩ (.int .i64 (K + 1))).setCell ⟨g, i * 5 + 2, none⟩ (.int .i64 (K + 1 + 1))).setCell ⟨g, i * 5 + 3, none⟩ (.int .i64 (K + 1 + 1 + 1))) B (some g) rs' l' := (((HO.out.2.set ⟨g, i * 5, none⟩ (.int .i64 K) rfl).set ⟨g, i * 5 + 1, none⟩ (.int .i64 (K + 1)) rfl).set ⟨g, i * 5 + 2, none⟩ (.int .i64 (K + 1 + 1)) rfl).set ⟨g, i * 5 + 3, none⟩ (.int .i64 (K + 1 + 1 + 1)) rfl
      have b3 : Below B w ((((wr.setCell ⟨g, i * 5, none⟩ (.int .i64 K)).setCell ⟨g, i * 5 + 1, none⟩ (.int .i64 (K + 1))).setCell ⟨g, i * 5 + 2, none⟩ (.int .i64 (K + 1 + 1))).setCell ⟨g, i * 5 + 3, none⟩ (.int .i64 (K + 1 + 1 + 1))) := (((HB.out.setCell (p := ⟨g, i * 5, none⟩) hgB (.int .i64 K)).setCell (p := ⟨g, i * 5 + 1, none⟩) hgB (.int .i64 (K + 1))).setCell (p := ⟨g, i * 5 + 2, none⟩) hgB (.int .i64 (K + 1 + 1))).setCell (p := ⟨g, i * 5 + 3, none⟩) hgB (.int .i64 (K + 1 + 1 + 1))
      have st3 : StayB wr ((((wr.setCell ⟨g, i * 5, none⟩ (.int .i64 K)).setCell ⟨g, i * 5 + 1, none⟩ (.int .i64 (K + 1))).setCell ⟨g, i * 5 + 2, none⟩ (.int .i64 (K + 1 + 1))).setCell ⟨g, i * 5 + 3, none⟩ (.int .i64 (K + 1 + 1 + 1))) := by
        intro b cs hh
        have hne : b ≠ g := fun e => rowAt_ne hh HO.out.1.row (by decide) (by rw [e]; rfl)
        exact (((hh.other ⟨g, i * 5, none⟩ (.int .i64 K) hne).other ⟨g, i * 5 + 1, none⟩ (.int .i64 (K + 1)) hne).other ⟨g, i * 5 + 2, none⟩ (.int .i64 (K + 1 + 1)) hne).other ⟨g, i * 5 + 3, none⟩ (.int .i64 (K + 1 + 1 + 1)) hne
      have sz3 : ((((wr.setCell ⟨g, i * 5, none⟩ (.int .i64 K)).setCell ⟨g, i * 5 + 1, none⟩ (.int .i64 (K + 1))).setCell ⟨g, i * 5 + 2, none⟩ (.int .i64 (K + 1 + 1))).setCell ⟨g, i * 5 + 3, none⟩ (.int .i64 (K + 1 + 1 + 1))).heap.size = wr.heap.size := by simp only [Go.Deep.nblk_setCell]
      have ov3 : Over E w ((((wr.setCell ⟨g, i * 5, none⟩ (.int .i64 K)).setCell ⟨g, i * 5 + 1, none⟩ (.int .i64 (K + 1))).setCell ⟨g, i * 5 + 2, none⟩ (.int .i64 (K + 1 + 1))).setCell ⟨g, i * 5 + 3, none⟩ (.int .i64 (K + 1 + 1 + 1))) := by
        intro b hb1 hb2
        have hge : g < E := HE.out g rfl
        have hne : b ≠ g := by omega
        rw [Below.heap_setCell _ _ _ _ hne, Below.heap_setCell _ _ _ _ hne, Below.heap_setCell _ _ _ _ hne, Below.heap_setCell _ _ _ _ hne]
        exact HOv.out b hb1 hb2
      clear p0 p1 p2 d0 d1 d2 d3 f0 f1 f2 f3
      generalize ((((wr.setCell ⟨g, i * 5, none⟩ (.int .i64 K)).setCell ⟨g, i * 5 + 1, none⟩ (.int .i64 (K + 1))).setCell ⟨g, i * 5 + 2, none⟩ (.int .i64 (K + 1 + 1))).setCell ⟨g, i * 5 + 3, none⟩ (.int .i64 (K + 1 + 1 + 1))) = v at p3 t3 b3 sz3 st3 ov3 ⊢
      have HS3 : Hid (StayB wr v) := st3
      have HOv3 : Hid (Over E w v) := ov3
      clear st3 ov3
      have hc4 : v.cell? ⟨g, i * 5 + 4, none⟩ = some (.slice p m q) := by
        rw [p3.cellAt (i * 5 + 4) (by omega), flat5_get _ i 4 (by simpa using hir) (by omega), getD_set_eq _ _ _ _ hir]
        rfl
      have hto : Own v B (.slice p m q) (l'.getD i cl0).2.2.2.2 := by
        have := (t3.2.1 i hir).2.2.2.2
        unfold rwT at this
        rw [hs] at this
        exact this
      have HMN : Hid (m = (l.getD i cl0).2.2.2.2.length) := hto.len.trans (HLn.out i hlt)
      have HTO : Hid (Own v B (.slice p m q) (l'.getD i cl0).2.2.2.2) := hto
      have HP3 : Hid (v.ownsRow B 59 5 (.slice (some ⟨g, 0, none⟩) l.length c) l.length (flat5 (rs'.set i (K, K + 1, K + 1 + 1, K + 1 + 1 + 1, p, m, q)))) := p3
      have HT3 : Hid (TxtOwn v B (some g) rs' l') := t3
      have HS : Hid ((rs'.getD i rw0).2.2.2.2 = (p, m, q)) := hs
      have hm6 : m ≤ 1048576 := by
        have := totT_le l i hlt
        rw [HMN.out]
        omega
      clear hto p3 t3 hs
      go_wp2_with (go_at_call 64; refine (markSignS_any p m q (l'.getD i cl0).2.2.2.2 _ B _ HTO.out hm6 (by omega) (by omega)).mono ?_; rintro e w2 ⟨rfl, hO2, hg2⟩)
      go_roundw
      case rel =>
        have hT : rwT (rs'.getD i rw0) = .slice p m q := by
          unfold rwT
          rw [HS.out]
        have hne : ∀ g', (Value.slice p m q).ownBlock = some g' → some g ≠ some g' := fun g' hg' => HT3.out.2.2.1 i hir g' (by rw [hT]; exact hg')
        have e4 : K + 1 + 1 + 1 + 1 = K + 4 := by omega
        rw [e4] at hO2
        have hR : OwnR w2 B (.slice (some ⟨g, 0, none⟩) l.length c) (rs'.set i (K, K + 1, K + 1 + 1, K + 1 + 1 + 1, p, m, q)) := by
          unfold OwnR
          rw [List.length_set, ← HRL.out]
          exact own_grown HP3.out hg2 (fun g' hg' hq => by
            have e : g = g' := by simpa [Value.ownBlock] using hg'
            exact hne g' hq (by rw [e]))
        have hX : TxtOwn w2 B (some g) (rs'.set i (K, K + 1, K + 1 + 1, K + 1 + 1 + 1, p, m, q)) (l'.set i (mkC K m)) := by
          refine HT3.out.upd i hir _ _ (by rw [hT]; rfl) ⟨rfl, rfl, by show K + 1 + 1 = K + 2; omega, by show K + 1 + 1 + 1 = K + 3; omega, hO2⟩ ?_
          intro k hk hki
          refine own_grown (HT3.out.2.1 k hk).2.2.2.2 hg2 (fun g' hg' hq => ?_)
          rcases Nat.lt_or_ge k i with h3 | h3
          · exact HT3.out.2.2.2 k i h3 hir g' hg' (by rw [hT]; exact hq)
          · exact HT3.out.2.2.2 i k (by omega) hk g' (by rw [hT]; exact hq) hg'
        have hil : i < l'.length := by rw [← HLL.out]; exact hlt
        refine ⟨i + 1, _, l'.set i (mkC K m), by omega, by go_num, ?_, ⟨hR, hX⟩, ?_, ?_, ?_, ?_, ?_, ?_⟩
        · rw [HSU.out, HK.out, ← HMN.out]
          congr 1
          omega
        · intro k hk
          by_cases hki : i = k
          · subst hki
            rw [getD_set_eq _ _ _ _ hil, ← HMN.out]
            exact marked_len _ _
          · rw [getD_set_ne _ _ _ _ _ hki]
            exact HLn.out k hk
        · intro k hk
          by_cases hki : i = k
          · subst hki
            rw [getD_set_eq _ _ _ _ hil, HK.out, ← HMN.out]
          · rw [getD_set_ne _ _ _ _ _ hki]
            exact HD.out k (by omega)
        · exact b3.grown hg2 (by rw [sz3]; omega) (fun q' hq' => (own_lt HTO.out.row hq').1)
        · intro b cs hh
          have h3 := HS3.out b cs (HSt.out b cs hh)
          exact h3.grown hg2 (rowAt_ne h3 HTO.out.row (by decide))
        · intro b hb1 hb2
          have e5 := HSz.out
          refine (hg2.block b (by rw [sz3]; omega) (fun e => ?_)).trans (HOv3.out b hb1 hb2)
          have := HTe.out i hir b (by rw [hT]; exact e.symm)
          omega
        · intro k hk g' hg'
          simp only [List.length_set] at hk
          refine HTe.out k hk g' ?_
          by_cases hki : i = k
          · subst hki
            rw [getD_set_eq _ _ _ _ hir] at hg'
            rw [hT]
            exact hg'
          · rw [getD_set_ne _ _ _ _ _ hki] at hg'
            exact hg'
      case measure => simp [intOf]; omega
    · have e : i = l.length := by omega
      subst e
      have hL : l' = markL k0 l := by
        apply List.ext_getElem?
        intro k
        by_cases hk : k < l.length
        · have h3 := HD.out k hk
          rw [← markL_get k0 l k hk] at h3
          have hk' : k < l'.length := by rw [← HLL.out]; exact hk
          have hk2 : k < (markL k0 l).length := by rw [markL_len]; exact hk
          simp only [List.getD, List.getElem?_eq_getElem hk', List.getElem?_eq_getElem hk2, Option.getD_some] at h3
          rw [List.getElem?_eq_getElem hk', List.getElem?_eq_getElem hk2, h3]
        · rw [List.getElem?_eq_none (by rw [← HLL.out]; omega), List.getElem?_eq_none (by rw [markL_len]; omega)]
      have ho2 := HO.out
      rw [hL] at ho2
      have HO2 : Hid (OwnT wr B (.slice a l.length c) rs' (markL k0 l)) := ho2
      clear ho ho2 hL
      go_wp2_with fail
      go_ret
      exact ⟨rfl, ⟨rs', HO2.out, HTe.out⟩, HB.out, HSt.out, HOv.out⟩
end Go.Proofs.Ytlpfflcogefbjaa
namespace Go.Proofs.Ytlpfflcogefbjaa
open Go.RowKit

theorem rb_getD_set_self {l : List Rb} {i : Nat} {x : Rb} (h : i < l.length) : (l.set i x).getD i rb0 = x := by simp [List.getD, h]
theorem rb_getD_set_other {l : List Rb} {i k : Nat} {x : Rb} (h : i ≠ k) : (l.set i x).getD k rb0 = l.getD k rb0 := by simp [List.getD, List.getElem?_set_ne h]
theorem bl_getD_set_self {l : List Bl} {i : Nat} {x : Bl} (h : i < l.length) : (l.set i x).getD i bl0 = x := by simp [List.getD, h]
theorem bl_getD_set_other {l : List Bl} {i k : Nat} {x : Bl} (h : i ≠ k) : (l.set i x).getD k bl0 = l.getD k bl0 := by simp [List.getD, List.getElem?_set_ne h]
theorem flat6_set (rbs : List Rb) (m j : Nat) (hm : m < rbs.length) (hj : j < 6) (u : Value) (x : Rb) (hx : rbCells x = (rbCells (rbs.getD m rb0)).set j u) : (flat6 rbs).set (m * 6 + j) u = flat6 (rbs.set m x) := by
  apply List.ext_getElem?
  intro i
  have hlen := flat6_length rbs
  by_cases hi : i < rbs.length * 6
  · have hi6 : i = i / 6 * 6 + i % 6 := by omega
    have hk : i / 6 < rbs.length := by omega
    have hr : i % 6 < 6 := by omega
    generalize i / 6 = k at hi6 hk
    generalize i % 6 = r at hi6 hr
    subst hi6
    rw [flat6_get (rbs.set m x) k (by simpa using hk) r hr]
    by_cases hkm : m = k
    · subst hkm
      rw [rb_getD_set_self hm, hx]
      by_cases hjr : j = r
      · subst hjr
        rw [List.getElem?_set_self (by omega), List.getElem?_set_self (by simp [rbCells]; omega)]
      · rw [List.getElem?_set_ne (by omega), List.getElem?_set_ne hjr]
        exact flat6_get rbs m hk r hr
    · rw [rb_getD_set_other hkm, List.getElem?_set_ne (by omega)]
      exact flat6_get rbs k hk r hr
  · rw [List.getElem?_eq_none (by simp; omega), List.getElem?_eq_none (by rw [flat6_length]; simp; omega)]
/-- The row of a document's blocks behind a store into one of its cells. -/
theorem rows_set {w : World} {B g n c : Nat} {rbs : List Rb} (h : w.ownsRow B 49 6 (.slice (some ⟨g, 0, none⟩) n c) rbs.length (flat6 rbs)) (m j : Nat) (hm : m < rbs.length) (hj : j < 6) (u : Value) (x : Rb) (hx : rbCells x = (rbCells (rbs.getD m rb0)).set j u) : (w.setCell ⟨g, m * 6 + j, none⟩ u).ownsRow B 49 6 (.slice (some ⟨g, 0, none⟩) n c) (rbs.set m x).length (flat6 (rbs.set m x)) := by
  have hn : n = rbs.length := by
    rcases h.2 with ⟨hv, _⟩ | ⟨g', cap, cur, hv, _⟩
    · cases hv
    · simp only [Value.slice.injEq] at hv
      exact hv.2.1
  subst hn
  have := (h.stored (m * 6 + j) u).1
  rw [flat6_set rbs m j hm hj u x hx] at this
  rw [List.length_set]
  exact this
theorem BlsOwn.upd {w w' : World} {B E : Nat} {rbs : List Rb} {d : List Bl} (h : BlsOwn w B E rbs d) (hk : Kept B E w w') (m : Nat) (x : Rb) (y : Bl) (hxy : ∀ lo mid hi, BlOwn w' lo mid hi (rbs.getD m rb0) (d.getD m bl0) → BlOwn w' lo mid hi x y) : BlsOwn w' B E (rbs.set m x) (d.set m y) := by
  obtain ⟨h0, lo, mid, hi, h1, h2⟩ := h.kept hk
  refine ⟨by simp [h0], lo, mid, hi, fun k hk => ?_, fun k hk => h2 k (by simpa using hk)⟩
  simp only [List.length_set] at hk
  obtain ⟨a, b, c⟩ := h1 k hk
  refine ⟨a, b, ?_⟩
  by_cases e : m = k
  · subst e
    rw [rb_getD_set_self (by omega), bl_getD_set_self hk]
    exact hxy _ _ _ c
  · rw [rb_getD_set_other e, bl_getD_set_other e]
    exact c
theorem docOwn_kind {w : World} {B E g n c : Nat} {rbs : List Rb} {d : List Bl} (h : DocOwn w B E (.slice (some ⟨g, 0, none⟩) n c) rbs d) (m : Nat) (hm : m < d.length) (k : Int) : DocOwn (w.setCell ⟨g, m * 6, none⟩ (.int .i64 k)) B E (.slice (some ⟨g, 0, none⟩) n c) (rbs.set m (k, (rbs.getD m rb0).2)) (d.set m (k, (d.getD m bl0).2)) := by
  have hl := h.2.2.1
  obtain ⟨cur, hcur⟩ := own_rowAt h.1
  refine docOwn_of ?_ h.2.1 (h.bls.upd (kept_set hcur _ _ _ _) m _ _ (fun lo mid hi hb => ⟨⟨rfl, hb.1.2⟩, hb.2⟩))
  have := rows_set h.1 m 0 (by omega) (by omega) (.int .i64 k) (k, (rbs.getD m rb0).2) rfl
  rwa [Nat.add_zero] at this
theorem docOwn_level {w : World} {B E g n c : Nat} {rbs : List Rb} {d : List Bl} (h : DocOwn w B E (.slice (some ⟨g, 0, none⟩) n c) rbs d) (m : Nat) (hm : m < d.length) (v : Int) : DocOwn (w.setCell ⟨g, m * 6 + 1, none⟩ (.int .i64 v)) B E (.slice (some ⟨g, 0, none⟩) n c) (rbs.set m ((rbs.getD m rb0).1, v, (rbs.getD m rb0).2.2)) (d.set m ((d.getD m bl0).1, v, (d.getD m bl0).2.2)) := by
  have hl := h.2.2.1
  obtain ⟨cur, hcur⟩ := own_rowAt h.1
  refine docOwn_of ?_ h.2.1 (h.bls.upd (kept_set hcur _ _ _ _) m _ _ (fun lo mid hi hb => ⟨⟨hb.1.1, rfl, hb.1.2.2⟩, hb.2⟩))
  exact rows_set h.1 m 1 (by omega) (by omega) (.int .i64 v) _ rfl
/-- A document's row is read. -/
theorem docOwn_at {w : World} {B E : Nat} {pa : Option Addr} {n pc : Nat} {rbs : List Rb} {d : List Bl} (h : DocOwn w B E (.slice pa n pc) rbs d) {i : Nat} (hi : i < n) : ∃ g, pa = some ⟨g, 0, none⟩ ∧ B ≤ g ∧ g < w.heap.size ∧ (∀ j, j < 6 → w.cell? ⟨g, i * 6 + j, none⟩ = (rbCells (rbs.getD i rb0))[j]?) ∧ ∀ j, w.frozen? ⟨g, i * 6 + j, none⟩ = false := by
  have hn := h.len
  have hl := h.2.2.1
  have hr := h.1
  rcases hr.2 with ⟨hv, h0⟩ | ⟨g, cap, cur, hv, hg, hgg, _⟩
  · omega
  · simp only [Value.slice.injEq] at hv
    obtain ⟨rfl, h6, rfl⟩ := hv
    rw [← h6] at hr
    refine ⟨g, rfl, hg, (Array.getElem?_eq_some_iff.1 hgg).1, fun j hj => ?_, fun j => hr.frozenAt _⟩
    rw [hr.cellAt (i * 6 + j) (by omega)]
    exact flat6_get rbs i (by omega) j hj
end Go.Proofs.Ytlpfflcogefbjaa
namespace Go.Proofs.Ytlpfflcogefbjaa
open Go.RowKit

/-- The block that the marker lays, from K on. -/
def mkB (K : Int) (x : Bl) : Bl := (K, K + 1, marked (K + 1 + 1) x.2.2.1.length, K + 1 + 1 + 3 * (x.2.2.1.length : Nat), K + 1 + 1 + 3 * (x.2.2.1.length : Nat) + 1, markL (K + 1 + 1 + 3 * (x.2.2.1.length : Nat) + 1 + 1) x.2.2.2.2.2)
def szM (x : Bl) : Nat := 4 + 3 * x.2.2.1.length + 4 * x.2.2.2.2.2.length + 3 * totT x.2.2.2.2.2
def kD (k0 : Int) (d : List Bl) (i : Nat) : Int := k0 + (((d.take i).map szM).sum : Nat)
/-- The first i blocks are marked. -/
def markTo (k0 : Int) (d : List Bl) (i : Nat) : List Bl := (List.range d.length).map fun k => if k < i then mkB (kD k0 d k) (d.getD k bl0) else d.getD k bl0
theorem markTo_len (k0 : Int) (d : List Bl) (i : Nat) : (markTo k0 d i).length = d.length := by simp [markTo]
theorem markTo_get {k0 : Int} {d : List Bl} {i k : Nat} (hk : k < d.length) : (markTo k0 d i).getD k bl0 = if k < i then mkB (kD k0 d k) (d.getD k bl0) else d.getD k bl0 := by
  simp only [markTo, List.getD, List.getElem?_map, List.getElem?_range hk, Option.map_some, Option.getD_some]
theorem getD_bl' {d : List Bl} {k : Nat} (hk : k < d.length) : d.getD k bl0 = d[k] := by simp [List.getD, hk]
theorem bl_ext' {a b : List Bl} (hl : a.length = b.length) (h : ∀ k, k < b.length → a.getD k bl0 = b.getD k bl0) : a = b := by
  apply List.ext_getElem hl
  intro k h1 h2
  have := h k h2
  rwa [getD_bl' h1, getD_bl' h2] at this
theorem markTo_zero (k0 : Int) (d : List Bl) : markTo k0 d 0 = d := bl_ext' (markTo_len _ _ _) fun k hk => by rw [markTo_get hk, if_neg (by omega)]
theorem markTo_succ {k0 : Int} {d : List Bl} {m : Nat} : markTo k0 d (m + 1) = (markTo k0 d m).set m (mkB (kD k0 d m) (d.getD m bl0)) := by
  refine bl_ext' (by simp [markTo_len]) fun k hk => ?_
  rw [List.length_set, markTo_len] at hk
  rw [markTo_get hk]
  by_cases e : m = k
  · subst e
    rw [if_pos (by omega), bl_getD_set_self (by rw [markTo_len]; exact hk)]
  · rw [bl_getD_set_other e, markTo_get hk]
    by_cases h1 : k < m
    · rw [if_pos h1, if_pos (by omega)]
    · rw [if_neg h1, if_neg (by omega)]
theorem kD_succ {k0 : Int} {d : List Bl} {i : Nat} (h : i < d.length) : kD k0 d (i + 1) = kD k0 d i + (szM (d.getD i bl0) : Nat) := by
  unfold kD
  rw [List.take_succ_eq_append_getElem h, List.map_append, List.sum_append, getD_bl' h]
  simp
  omega
theorem kD_ge {k0 : Int} (d : List Bl) (i : Nat) (h : 0 ≤ k0) : 0 ≤ kD k0 d i := by
  unfold kD
  omega
theorem szM_le (x : Bl) : szM x ≤ 4 + 4 * szB x := by
  unfold szM szB
  omega
theorem kD_le {k0 : Int} {d : List Bl} : ∀ {i : Nat}, i ≤ d.length → kD k0 d i ≤ k0 + 4 * (i : Nat) + 4 * (totD (d.take i) : Nat) := by
  intro i
  induction i with
  | zero => intro _; simp [kD, totD]
  | succ i ih =>
    intro h
    have h1 := ih (by omega)
    rw [kD_succ (by omega), totD_take d i (by omega)]
    have := szM_le (d.getD i bl0)
    omega
theorem chain_le {lo mid hi : Nat → Nat} {n : Nat} (h1 : ∀ k, k < n → lo k ≤ mid k ∧ mid k ≤ hi k) (h2 : ∀ k, k + 1 < n → hi k ≤ lo (k + 1)) : ∀ {i k : Nat}, i < k → k < n → hi i ≤ lo k := by
  intro i k
  induction k with
  | zero => intro h _; omega
  | succ k ih =>
    intro h hk
    have hs := h2 k hk
    by_cases e : i = k
    · subst e; exact hs
    · have := ih (by omega) (by omega)
      have := h1 k (by omega)
      omega
theorem own_stay {w w' : World} {B size n : Nat} {v : Value} {xs : List Value} (h : w.ownsRow B 49 size v n xs) (hs : StayB w w') : w'.ownsRow B 49 size v n xs := by
  refine ⟨h.1, ?_⟩
  rcases h.2 with hn | ⟨g, cap, cur, rfl, hg, hgg, rest⟩
  · exact .inl hn
  · exact .inr ⟨g, cap, cur, rfl, hg, hs g cur hgg, rest⟩
theorem rows_at {w : World} {B g n c : Nat} {rbs : List Rb} (h : w.ownsRow B 49 6 (.slice (some ⟨g, 0, none⟩) n c) rbs.length (flat6 rbs)) {i : Nat} (hi : i < rbs.length) : (∀ j, j < 6 → w.cell? ⟨g, i * 6 + j, none⟩ = (rbCells (rbs.getD i rb0))[j]?) ∧ ∀ j, w.frozen? ⟨g, i * 6 + j, none⟩ = false := by
  have hn : n = rbs.length := by
    rcases h.2 with ⟨hv, _⟩ | ⟨g', cap, cur, hv, _⟩
    · cases hv
    · simp only [Value.slice.injEq] at hv
      exact hv.2.1
  subst hn
  refine ⟨fun j hj => ?_, fun j => h.frozenAt _⟩
  rw [h.cellAt (i * 6 + j) (by omega)]
  exact flat6_get rbs i hi j hj
set_option maxRecDepth 100000 in
set_option maxHeartbeats 16000000 in
theorem markBlockS_over {a : Option Addr} {n c : Nat} {rbs : List Rb} {d : List Bl} {k0 : Int} {B E : Nat} {w : World} (h : DocOwn w B E (.slice a n c) rbs d) (hE : E ≤ w.heap.size) (hB : B ≤ E) (h0 : 0 ≤ k0) (h1 : k0 ≤ 1000) (h2 : d.length + totD d ≤ 1048576) :
    Calls Try.prog 43 #[.slice a n c, .int .i64 k0] w fun e w' => e = .returned (.int .i64 (kD k0 d d.length)) ∧ (∃ rbs', DocOwn w' B E (.slice a n c) rbs' (markTo k0 d d.length)) ∧ Below B w w' ∧ Over E w w' := by
  have hn := h.len
  have hc1 := h.dc.2.1
  have hc2 := h.dc.2.2.1
  unfold maxLen at hc2
  subst hn
  have H : Hid (DocOwn w B E (.slice a d.length c) rbs d) := h
  have HKL : Hid (∀ i, i ≤ d.length → 0 ≤ kD k0 d i ∧ kD k0 d i ≤ 10000000) := fun i hi => by
    refine ⟨kD_ge d i h0, ?_⟩
    have h3 := kD_le (k0 := k0) hi
    have h4 := totD_append (d.take i) (d.drop i)
    rw [List.take_append_drop] at h4
    omega
  clear h
  go_enter Try.func43, Try.ntmps43
  go_wp2_with fail
  go_loopw [1, 5] (fun kk iv wr => ∃ (i : Nat) (rbs' : List Rb), i ≤ d.length ∧ iv = .int .i64 i ∧ kk = .int .i64 (kD k0 d i) ∧ DocOwn wr B E (.slice a d.length c) rbs' (markTo k0 d i) ∧ w.heap.size ≤ wr.heap.size ∧ Below B w wr ∧ Over E w wr) (fun _ iv _ => d.length - (intOf iv).toNat)
  case atStart => exact ⟨0, rbs, Nat.zero_le _, rfl, by simp [kD], by rw [markTo_zero]; exact H.out, Nat.le_refl _, Below.refl _ _, fun _ _ _ => rfl⟩
  case round =>
    obtain ⟨i, rbs', hi, rfl, rfl, ho, hsz, hb, hov⟩ := hrel
    have HO : Hid (DocOwn wr B E (.slice a d.length c) rbs' (markTo k0 d i)) := ho
    have HB : Hid (Below B w wr) := hb
    have HOv : Hid (Over E w wr) := hov
    clear hb hov
    obtain ⟨kge, kle⟩ := HKL.out i hi
    by_cases hlt : i < d.length
    · have hib : (i : Int) < (d.length : Int) := by omega
      have hi0 : (0 : Int) ≤ (i : Int) := by omega
      have HSU : Hid (kD k0 d (i + 1) = kD k0 d i + (szM (d.getD i bl0) : Nat)) := kD_succ hlt
      have HMS : Hid (markTo k0 d (i + 1) = (markTo k0 d i).set i (mkB (kD k0 d i) (d.getD i bl0))) := markTo_succ
      have hle := totD_le d i hlt
      obtain ⟨g, rfl, hg1, hg2, hcs, hfz⟩ := docOwn_at ho hlt
      have gE : g < E := ho.2.1 g rfl
      obtain ⟨lo, mid, hi', hbl, hch⟩ := ho.2.2.2
      have hlen := ho.2.2.1
      rw [markTo_len] at hlen hbl hch
      have hbi := hbl i hlt
      rw [markTo_get hlt, if_neg (by omega)] at hbi
      obtain ⟨hBl, hhE, hbo⟩ := hbi
      obtain ⟨K, HK⟩ : ∃ K, Hid (kD k0 d i = K) := ⟨_, rfl⟩
      rw [HK.out] at kge kle HSU HMS ⊢
      have HFAM : Hid (∀ k, k < d.length → k ≠ i → BlOwn wr (lo k) (mid k) (hi' k) (rbs'.getD k rb0) ((markTo k0 d i).getD k bl0)) := fun k hk _ => (hbl k hk).2.2
      have HCH : Hid (∀ k, k < d.length → k ≠ i → B ≤ lo k ∧ hi' k ≤ E ∧ (hi' k ≤ lo i ∨ hi' i ≤ lo k)) := fun k hk hne => by
        have hm : ∀ k, k < d.length → lo k ≤ mid k ∧ mid k ≤ hi' k := fun k hk => (hbl k hk).2.2.2.2.2.2
        refine ⟨(hbl k hk).1, (hbl k hk).2.1, ?_⟩
        rcases Nat.lt_or_gt_of_ne hne with h | h
        · exact .inl (chain_le hm hch h hlt)
        · exact .inr (chain_le hm hch h hk)
      have HHI : Hid (∀ k, k < d.length → B ≤ lo k ∧ hi' k ≤ E) := fun k hk => ⟨(hbl k hk).1, (hbl k hk).2.1⟩
      have HCH2 : Hid (∀ k, k + 1 < d.length → hi' k ≤ lo (k + 1)) := hch
      obtain ⟨⟨xk, xv, ⟨p, tn, q⟩, xR, xC, ⟨p', cn, q'⟩⟩, hx⟩ : ∃ x, x = rbs'.getD i rb0 := ⟨_, rfl⟩
      obtain ⟨⟨yk, yv, t, yR, yC, l⟩, hy⟩ : ∃ x, x = d.getD i bl0 := ⟨_, rfl⟩
      rw [← hx] at hbo
      rw [← hy] at hbo HSU HMS hle
      obtain ⟨-, hot, htm, ⟨rs, hoT, hcE, hrE⟩, hlm, hmh⟩ := hbo
      simp only [sl3V] at hot htm hoT hcE hlm hmh
      have htl : tn = t.length := Own.len hot
      have htn : tn ≤ 1048576 := by
        have : t.length ≤ szB (yk, yv, t, yR, yC, l) := Nat.le_add_right _ _
        omega
      have hll : l.length ≤ 1048576 ∧ totT l ≤ 1048576 := by
        have : l.length + totT l ≤ szB (yk, yv, t, yR, yC, l) := Nat.le_add_left _ _
        omega
      obtain ⟨hl1, hl2⟩ := hll
      have HTL : Hid (tn = t.length) := htl
      have HLEN : Hid (rbs'.length = d.length) := hlen
      have hli : i < rbs'.length := by omega
      clear htl hlen
      have c0 := hcs 0 (by omega)
      have c1 := hcs 1 (by omega)
      rw [← hx] at c0 c1
      have d0 : wr.cell? ⟨g, i * 6, none⟩ = some (.int .i64 xk) := c0
      have d1 : wr.cell? ⟨g, i * 6 + 1, none⟩ = some (.int .i64 xv) := c1
      have f0 : wr.frozen? ⟨g, i * 6, none⟩ = false := hfz 0
      have f1 := hfz 1
      have hrow := ho.1
      have r1 : (wr.setCell ⟨g, i * 6, none⟩ (.int .i64 K)).ownsRow B 49 6 (.slice (some ⟨g, 0, none⟩) d.length c) (rbs'.set i (K, xv, (p, tn, q), xR, xC, (p', cn, q'))).length (flat6 (rbs'.set i (K, xv, (p, tn, q), xR, xC, (p', cn, q')))) := by
        have := rows_set hrow i 0 hli (by omega) (.int .i64 K) (K, xv, (p, tn, q), xR, xC, (p', cn, q')) (by rw [← hx]; rfl)
        rwa [Nat.add_zero] at this
      have r2 : ((wr.setCell ⟨g, i * 6, none⟩ (.int .i64 K)).setCell ⟨g, i * 6 + 1, none⟩ (.int .i64 (K + 1))).ownsRow B 49 6 (.slice (some ⟨g, 0, none⟩) d.length c) (rbs'.set i (K, K + 1, (p, tn, q), xR, xC, (p', cn, q'))).length (flat6 (rbs'.set i (K, K + 1, (p, tn, q), xR, xC, (p', cn, q')))) := by
        have := rows_set r1 i 1 (by simpa using hli) (by omega) (.int .i64 (K + 1)) (K, K + 1, (p, tn, q), xR, xC, (p', cn, q')) (by rw [rb_getD_set_self hli]; rfl)
        rwa [List.set_set] at this
      obtain ⟨cur0, hcur0⟩ := own_rowAt hrow
      obtain ⟨cur1, hcur1⟩ := own_rowAt r1
      have K1 : ∀ B E, Kept B E wr ((wr.setCell ⟨g, i * 6, none⟩ (.int .i64 K)).setCell ⟨g, i * 6 + 1, none⟩ (.int .i64 (K + 1))) := fun B E => (kept_set hcur0 B E _ _).trans (kept_set hcur1 B E _ _)
      have F1 : Hid (∀ k, k < d.length → k ≠ i → BlOwn ((wr.setCell ⟨g, i * 6, none⟩ (.int .i64 K)).setCell ⟨g, i * 6 + 1, none⟩ (.int .i64 (K + 1))) (lo k) (mid k) (hi' k) (rbs'.getD k rb0) ((markTo k0 d i).getD k bl0)) := fun k hk hne => (HFAM.out k hk hne).kept (K1 _ _)
      have T1 : Own ((wr.setCell ⟨g, i * 6, none⟩ (.int .i64 K)).setCell ⟨g, i * 6 + 1, none⟩ (.int .i64 (K + 1))) (lo i) (.slice p tn q) t := own_kept hot (by decide) htm (K1 _ _)
      have C1 : OwnT ((wr.setCell ⟨g, i * 6, none⟩ (.int .i64 K)).setCell ⟨g, i * 6 + 1, none⟩ (.int .i64 (K + 1))) (mid i) (.slice p' cn q') rs l := ownT_kept hoT hcE hrE (K1 _ _)
      have B1 : Below B w ((wr.setCell ⟨g, i * 6, none⟩ (.int .i64 K)).setCell ⟨g, i * 6 + 1, none⟩ (.int .i64 (K + 1))) := (HB.out.setCell (p := ⟨g, i * 6, none⟩) hg1 _).setCell (p := ⟨g, i * 6 + 1, none⟩) hg1 _
      have O1 : Over E w ((wr.setCell ⟨g, i * 6, none⟩ (.int .i64 K)).setCell ⟨g, i * 6 + 1, none⟩ (.int .i64 (K + 1))) := fun b hb hb' => by
        rw [Go.Deep.blk_setCell_other _ _ _ _ (by simp; omega), Go.Deep.blk_setCell_other _ _ _ _ (by simp; omega)]
        exact HOv.out b hb hb'
      have sz1 : w.heap.size ≤ ((wr.setCell ⟨g, i * 6, none⟩ (.int .i64 K)).setCell ⟨g, i * 6 + 1, none⟩ (.int .i64 (K + 1))).heap.size := by simpa using hsz
      have HTM : Hid (∀ g, (Value.slice p tn q).ownBlock = some g → g < mid i) := htm
      have HCE : Hid (∀ g, (Value.slice p' cn q').ownBlock = some g → g < hi' i) := hcE
      have HRE : Hid (∀ k, k < rs.length → ∀ g, (rwT (rs.getD k rw0)).ownBlock = some g → g < hi' i) := hrE
      clear ho hcs hfz hbl hch hot htm hoT hcE hrE r1 hcur0 hcur1 K1 hrow hx hy HO HB HOv HFAM
      go_upto_region 8 with fail
      clear d0 d1 f0 f1 c0 c1
      generalize ((wr.setCell ⟨g, i * 6, none⟩ (.int .i64 K)).setCell ⟨g, i * 6 + 1, none⟩ (.int .i64 (K + 1))) = v1 at r2 F1 T1 C1 B1 O1 sz1 ⊢
      have hl2' : i < (rbs'.set i (K, K + 1, (p, tn, q), xR, xC, (p', cn, q'))).length := by simpa using hli
      have k2 : v1.cell? ⟨g, i * 6 + 2, none⟩ = some (.slice p tn q) := by
        have := (rows_at r2 hl2').1 2 (by omega)
        rw [rb_getD_set_self hli] at this
        exact this
      have HR2 : Hid (v1.ownsRow B 49 6 (.slice (some ⟨g, 0, none⟩) d.length c) (rbs'.set i (K, K + 1, (p, tn, q), xR, xC, (p', cn, q'))).length (flat6 (rbs'.set i (K, K + 1, (p, tn, q), xR, xC, (p', cn, q'))))) := r2
      have HT1 : Hid (Own v1 (lo i) (.slice p tn q) t) := T1
      have HC1 : Hid (OwnT v1 (mid i) (.slice p' cn q') rs l) := C1
      have HB1 : Hid (Below B w v1) := B1
      have HO1 : Hid (Over E w v1) := O1
      clear r2 T1 C1 B1 O1
      go_upto_region 9 with (go_at_call 64; refine (markSignS_any p tn q t _ (lo i) _ HT1.out htn (by omega) (by omega)).mono ?_; rintro e w2 ⟨rfl, ho2, hgrow⟩)
      have tlt : ∀ z, (Value.slice p tn q).ownBlock = some z → lo i ≤ z ∧ z < mid i := fun z hz => ⟨(own_lt HT1.out hz).1, HTM.out z hz⟩
      have s2 := hgrow.size
      have same : ∀ b, b < E → ¬ (lo i ≤ b ∧ b < mid i) → w2.heap[b]? = v1.heap[b]? := fun b hb hn => hgrow.block b (by omega) (fun e => hn (tlt b e.symm))
      have F2 : Hid (∀ k, k < d.length → k ≠ i → BlOwn w2 (lo k) (mid k) (hi' k) (rbs'.getD k rb0) ((markTo k0 d i).getD k bl0)) := fun k hk hne => (F1.out k hk hne).mid (fun b hb hb' => by
        obtain ⟨h1, h2, h3⟩ := HCH.out k hk hne
        exact same b (by omega) (by omega))
      have C2 : OwnT w2 (mid i) (.slice p' cn q') rs l := ownT_kept HC1.out HCE.out HRE.out (Mid.kept (fun b hb hb' => same b (by omega) (by omega)))
      have r2 : w2.ownsRow B 49 6 (.slice (some ⟨g, 0, none⟩) d.length c) (rbs'.set i (K, K + 1, (p, tn, q), xR, xC, (p', cn, q'))).length (flat6 (rbs'.set i (K, K + 1, (p, tn, q), xR, xC, (p', cn, q')))) := own_grown HR2.out hgrow (fun z hz e => own_kinds HR2.out HT1.out (by decide) z e hz)
      have B2 : Below B w w2 := HB1.out.grown hgrow (by omega) (fun z hz => by have := (tlt z hz).1; omega)
      have O2 : Over E w w2 := fun b hb hb' => by
        rw [hgrow.block b (by omega) (fun e => by have := tlt b e.symm; omega)]
        exact HO1.out b hb hb'
      have HT2 : Hid (Own w2 (lo i) (.slice p tn q) (marked (K + 1 + 1) tn)) := ho2
      have sz2 : w.heap.size ≤ w2.heap.size := by omega
      clear ho2 hgrow k2 HR2 HT1 HC1 HB1 HO1 F1 tlt same
      have q3 : w2.cell? ⟨g, i * 6 + 3, none⟩ = some (.int .i64 xR) := by
        have := (rows_at r2 hl2').1 3 (by omega)
        rw [rb_getD_set_self hli] at this
        exact this
      have q4 : w2.cell? ⟨g, i * 6 + 4, none⟩ = some (.int .i64 xC) := by
        have := (rows_at r2 hl2').1 4 (by omega)
        rw [rb_getD_set_self hli] at this
        exact this
      have f3 := (rows_at r2 hl2').2 3
      have f4 := (rows_at r2 hl2').2 4
      have r3 : (w2.setCell ⟨g, i * 6 + 3, none⟩ (.int .i64 (K + 1 + 1 + 3 * (tn : Int)))).ownsRow B 49 6 (.slice (some ⟨g, 0, none⟩) d.length c) (rbs'.set i (K, K + 1, (p, tn, q), (K + 1 + 1 + 3 * (tn : Int)), xC, (p', cn, q'))).length (flat6 (rbs'.set i (K, K + 1, (p, tn, q), (K + 1 + 1 + 3 * (tn : Int)), xC, (p', cn, q')))) := by
        have := rows_set r2 i 3 hl2' (by omega) (.int .i64 (K + 1 + 1 + 3 * (tn : Int))) (K, K + 1, (p, tn, q), (K + 1 + 1 + 3 * (tn : Int)), xC, (p', cn, q')) (by rw [rb_getD_set_self hli]; rfl)
        rwa [List.set_set] at this
      have r4 : ((w2.setCell ⟨g, i * 6 + 3, none⟩ (.int .i64 (K + 1 + 1 + 3 * (tn : Int)))).setCell ⟨g, i * 6 + 4, none⟩ (.int .i64 ((K + 1 + 1 + 3 * (tn : Int)) + 1))).ownsRow B 49 6 (.slice (some ⟨g, 0, none⟩) d.length c) (rbs'.set i (K, K + 1, (p, tn, q), (K + 1 + 1 + 3 * (tn : Int)), (K + 1 + 1 + 3 * (tn : Int)) + 1, (p', cn, q'))).length (flat6 (rbs'.set i (K, K + 1, (p, tn, q), (K + 1 + 1 + 3 * (tn : Int)), (K + 1 + 1 + 3 * (tn : Int)) + 1, (p', cn, q')))) := by
        have := rows_set r3 i 4 (by simpa using hli) (by omega) (.int .i64 ((K + 1 + 1 + 3 * (tn : Int)) + 1)) (K, K + 1, (p, tn, q), (K + 1 + 1 + 3 * (tn : Int)), (K + 1 + 1 + 3 * (tn : Int)) + 1, (p', cn, q')) (by rw [rb_getD_set_self hli]; rfl)
        rwa [List.set_set] at this
      obtain ⟨cur2, hcur2⟩ := own_rowAt r2
      obtain ⟨cur3, hcur3⟩ := own_rowAt r3
      have K3' : ∀ B E, Kept B E w2 ((w2.setCell ⟨g, i * 6 + 3, none⟩ (.int .i64 (K + 1 + 1 + 3 * (tn : Int)))).setCell ⟨g, i * 6 + 4, none⟩ (.int .i64 ((K + 1 + 1 + 3 * (tn : Int)) + 1))) := fun B E => (kept_set hcur2 B E _ _).trans (kept_set hcur3 B E _ _)
      have F3 : Hid (∀ k, k < d.length → k ≠ i → BlOwn ((w2.setCell ⟨g, i * 6 + 3, none⟩ (.int .i64 (K + 1 + 1 + 3 * (tn : Int)))).setCell ⟨g, i * 6 + 4, none⟩ (.int .i64 ((K + 1 + 1 + 3 * (tn : Int)) + 1))) (lo k) (mid k) (hi' k) (rbs'.getD k rb0) ((markTo k0 d i).getD k bl0)) := fun k hk hne => (F2.out k hk hne).kept (K3' _ _)
      have T3 : Own ((w2.setCell ⟨g, i * 6 + 3, none⟩ (.int .i64 (K + 1 + 1 + 3 * (tn : Int)))).setCell ⟨g, i * 6 + 4, none⟩ (.int .i64 ((K + 1 + 1 + 3 * (tn : Int)) + 1))) (lo i) (.slice p tn q) (marked (K + 1 + 1) tn) := own_kept HT2.out (by decide) HTM.out (K3' _ _)
      have C3 : OwnT ((w2.setCell ⟨g, i * 6 + 3, none⟩ (.int .i64 (K + 1 + 1 + 3 * (tn : Int)))).setCell ⟨g, i * 6 + 4, none⟩ (.int .i64 ((K + 1 + 1 + 3 * (tn : Int)) + 1))) (mid i) (.slice p' cn q') rs l := ownT_kept C2 HCE.out HRE.out (K3' _ _)
      have B3 : Below B w ((w2.setCell ⟨g, i * 6 + 3, none⟩ (.int .i64 (K + 1 + 1 + 3 * (tn : Int)))).setCell ⟨g, i * 6 + 4, none⟩ (.int .i64 ((K + 1 + 1 + 3 * (tn : Int)) + 1))) := (B2.setCell (p := ⟨g, i * 6 + 3, none⟩) hg1 _).setCell (p := ⟨g, i * 6 + 4, none⟩) hg1 _
      have O3 : Over E w ((w2.setCell ⟨g, i * 6 + 3, none⟩ (.int .i64 (K + 1 + 1 + 3 * (tn : Int)))).setCell ⟨g, i * 6 + 4, none⟩ (.int .i64 ((K + 1 + 1 + 3 * (tn : Int)) + 1))) := fun b hb hb' => by
        rw [Go.Deep.blk_setCell_other _ _ _ _ (by simp; omega), Go.Deep.blk_setCell_other _ _ _ _ (by simp; omega)]
        exact O2 b hb hb'
      have sz3 : w.heap.size ≤ ((w2.setCell ⟨g, i * 6 + 3, none⟩ (.int .i64 (K + 1 + 1 + 3 * (tn : Int)))).setCell ⟨g, i * 6 + 4, none⟩ (.int .i64 ((K + 1 + 1 + 3 * (tn : Int)) + 1))).heap.size := by simpa using sz2
      clear r2 r3 hcur2 hcur3 K3' C2 B2 O2 F2 HT2
      go_upto_region 13 with fail
      clear q3 q4 f3 f4
      generalize ((w2.setCell ⟨g, i * 6 + 3, none⟩ (.int .i64 (K + 1 + 1 + 3 * (tn : Int)))).setCell ⟨g, i * 6 + 4, none⟩ (.int .i64 ((K + 1 + 1 + 3 * (tn : Int)) + 1))) = v3 at r4 F3 T3 C3 B3 O3 sz3 ⊢
      have k5 : v3.cell? ⟨g, i * 6 + 5, none⟩ = some (.slice p' cn q') := by
        have := (rows_at r4 (by simpa using hli)).1 5 (by omega)
        rw [rb_getD_set_self hli] at this
        exact this
      have HR4 : Hid (v3.ownsRow B 49 6 (.slice (some ⟨g, 0, none⟩) d.length c) (rbs'.set i (K, K + 1, (p, tn, q), (K + 1 + 1 + 3 * (tn : Int)), (K + 1 + 1 + 3 * (tn : Int)) + 1, (p', cn, q'))).length (flat6 (rbs'.set i (K, K + 1, (p, tn, q), (K + 1 + 1 + 3 * (tn : Int)), (K + 1 + 1 + 3 * (tn : Int)) + 1, (p', cn, q'))))) := r4
      have HT3 : Hid (Own v3 (lo i) (.slice p tn q) (marked (K + 1 + 1) tn)) := T3
      have HC3 : Hid (OwnT v3 (mid i) (.slice p' cn q') rs l) := C3
      have HB3 : Hid (Below B w v3) := B3
      have HO3 : Hid (Over E w v3) := O3
      have hBm : B ≤ mid i := by have := (HHI.out i hlt).1; omega
      clear r4 T3 C3 B3 O3
      go_wp2_with (go_at_call 65; refine (markCellS_overB p' cn q' rs l _ (mid i) (hi' i) _ HC3.out HCE.out HRE.out (by omega) (by omega) hl2).mono ?_; rintro e w4 ⟨rfl, ⟨rs4, ho4, hr4⟩, hb4, hst4, hov4⟩)
      have s4 := hb4.size
      go_roundw
      case rel =>
        have hend : kD k0 d (i + 1) = kAt ((K + 1 + 1 + 3 * (tn : Int)) + 1 + 1) l l.length := by
          rw [HSU.out]
          unfold kAt szM
          rw [List.take_of_length_le (Nat.le_refl _)]
          simp only
          rw [← HTL.out]
          omega
        refine ⟨i + 1, rbs'.set i (K, K + 1, (p, tn, q), (K + 1 + 1 + 3 * (tn : Int)), (K + 1 + 1 + 3 * (tn : Int)) + 1, (p', cn, q')), by omega, by go_num, by rw [hend], ?_, by omega, HB3.out.trans (hb4.mono hBm), fun b hb hb' => ?_⟩
        · refine docOwn_of (own_stay HR4.out hst4) (fun z hz => by simp [Value.ownBlock] at hz; omega) ⟨by rw [HMS.out]; simp [HLEN.out, markTo_len], lo, mid, hi', fun k hk => ?_, fun k hk => HCH2.out k (by rw [markTo_len] at hk; exact hk)⟩
          rw [markTo_len] at hk
          obtain ⟨hb1, hb2⟩ := HHI.out k hk
          refine ⟨hb1, hb2, ?_⟩
          rw [HMS.out]
          by_cases e : i = k
          · subst e
            rw [rb_getD_set_self hli, bl_getD_set_self (by rw [markTo_len]; exact hlt)]
            refine ⟨⟨rfl, rfl, ?_, ?_⟩, ?_, HTM.out, ⟨rs4, ?_, HCE.out, hr4⟩, hlm, hmh⟩
            · show (K + 1 + 1 + 3 * (tn : Int)) = _
              rw [HTL.out]
              rfl
            · show (K + 1 + 1 + 3 * (tn : Int)) + 1 = _
              rw [HTL.out]
              rfl
            · have hT4 : Own w4 (lo i) (.slice p tn q) (marked (K + 1 + 1) tn) := own_mid HT3.out HTM.out (fun b hb hb' => hb4.block b (by omega))
              show Own w4 (lo i) (.slice p tn q) (marked (K + 1 + 1) t.length)
              rw [← HTL.out]
              exact hT4
            · show OwnT w4 (mid i) (.slice p' cn q') rs4 (markL (K + 1 + 1 + 3 * (t.length : Int) + 1 + 1) l)
              rw [← HTL.out]
              exact ho4
          · rw [rb_getD_set_other e, bl_getD_set_other e]
            refine (F3.out k hk (Ne.symm e)).mid (fun b hb hb' => ?_)
            obtain ⟨h1, h2, h3⟩ := HCH.out k hk (Ne.symm e)
            rcases h3 with h3 | h3
            · exact hb4.block b (by omega)
            · exact hov4 b (by omega) (by omega)
        · rw [hov4 b (by have := (HHI.out i hlt).2; omega) (by omega)]
          exact HO3.out b hb hb'
      case measure => simp [intOf]; omega
    · obtain rfl : i = d.length := by omega
      clear ho
      go_wp2_with fail
      go_ret
      exact ⟨rfl, ⟨rbs', HO.out⟩, HB.out, HOv.out⟩
end Go.Proofs.Ytlpfflcogefbjaa
namespace Go.Proofs.Ytlpfflcogefbjaa
open Go.RowKit

set_option maxRecDepth 100000 in
set_option maxHeartbeats 4000000 in
theorem heldCellS_c (a : Option Addr) (n c : Nat) (l : List Cl) (k0 : Int) (w : World) (h : Tab w a n c (markL k0 l)) (h0 : 0 ≤ k0) (h1 : k0 + 4 * l.length + 3 * (totT l : Nat) ≤ 50000000) (h2 : totT l ≤ 1048576) :
    Calls Try.prog 70 #[.slice a n c, .int .i64 k0] w fun e w' => e = .returned (.int .i64 (kAt k0 l l.length)) ∧ w' = w := by
  obtain ⟨hn, hc, hm, hl⟩ := h
  rw [markL_len] at hn
  subst hn
  unfold maxLen at hm
  have HL : Hid (markL k0 l = [] ∨ ∃ b off, a = some ⟨b, off, none⟩ ∧ b < w.heap.size ∧ ∀ k, k < (markL k0 l).length → CellAt w b (off + k * 5) ((markL k0 l).getD k cl0)) := hl
  clear hl
  go_enter Try.func70, Try.ntmps70
  go_wp2_with fail
  go_loop [1, 5] (fun kk iv => ∃ (i : Nat), i ≤ l.length ∧ iv = .int .i64 i ∧ kk = .int .i64 (kAt k0 l i)) (fun _ iv => l.length - (intOf iv).toNat)
  case atStart => exact ⟨0, Nat.zero_le _, rfl, by simp [kAt, totT]⟩
  case round =>
    obtain ⟨i, hi, rfl, rfl⟩ := hrel
    by_cases hlt : i < l.length
    · have kge := kAt_ge k0 l i h0
      have kle := kAt_le k0 l i (by omega)
      have HSU : Hid (kAt k0 l (i + 1) = kAt k0 l i + 4 + 3 * ((l.getD i cl0).2.2.2.2.length : Nat)) := kAt_succ k0 l i hlt
      have hlt2 : i < (markL k0 l).length := by rw [markL_len]; exact hlt
      rcases HL.out with e | ⟨b, off, rfl, hbw, hl⟩
      · rw [e] at hlt2
        exact absurd hlt2 (by simp)
      have hcell := hl i hlt2
      rw [markL_get k0 l i hlt] at hcell
      obtain ⟨K, HK⟩ : ∃ K, Hid (kAt k0 l i = K) := ⟨_, rfl⟩
      rw [HK.out] at kge kle hcell ⊢
      obtain ⟨m, HM⟩ : ∃ m, Hid ((l.getD i cl0).2.2.2.2.length = m) := ⟨_, rfl⟩
      rw [HM.out] at hcell
      have hm6 : m ≤ 1048576 := by
        have := totT_le l i hlt
        rw [← HM.out]
        omega
      obtain ⟨c0, c1, c2, c3, p, tn, q, c4, htx⟩ := hcell
      simp only [mkC] at c0 c1 c2 c3 htx
      have HTN : Hid (tn = m) := htx.1.trans (marked_len _ _)
      have htx' := htx
      rw [HTN.out] at htx' c4
      have HTX : Hid (Txt w p m q (marked (K + 1 + 1 + 1 + 1) m)) := by
        show Txt w p m q (marked (K + 1 + 1 + 1 + 1) m)
        rw [show K + 1 + 1 + 1 + 1 = K + 4 from by omega]
        exact htx'
      rw [show K + 2 = K + 1 + 1 from by omega] at c2
      rw [show K + 3 = K + 1 + 1 + 1 from by omega] at c3
      have hK2 : K ≤ 50000000 := by omega
      have nk : ¬ K + 1 + 1 + 1 + 1 + 3 * (m : Int) < 0 := by omega
      clear hl htx htx' kle
      go_wp2_with (go_at_call 69; refine (heldSignS_any p m q _ _ HTX.out hm6 (by omega) (by omega)).mono ?_; rintro e w2 ⟨rfl, hw2⟩; subst w2)
      go_round
      case rel =>
        refine ⟨i + 1, by omega, by go_num, ?_⟩
        rw [HSU.out, HK.out, HM.out]
        congr 1
        omega
      case measure => simp [intOf]; omega
    · have e : i = l.length := by omega
      subst e
      go_wp2_with fail
      go_ret
      exact ⟨rfl, rfl⟩
end Go.Proofs.Ytlpfflcogefbjaa
namespace Go.Proofs.Ytlpfflcogefbjaa
open Go.RowKit

set_option maxRecDepth 100000 in
set_option maxHeartbeats 8000000 in
theorem heldBlockS_any {a : Option Addr} {n c : Nat} {d : List Bl} {k0 : Int} {w : World} (h : Dc w a n c (markTo k0 d d.length)) (h0 : 0 ≤ k0) (h1 : k0 ≤ 1000) (h2 : d.length + totD d ≤ 1048576) :
    Calls Try.prog 51 #[.slice a n c, .int .i64 k0] w fun e w' => e = .returned (.int .i64 (kD k0 d d.length)) ∧ w' = w := by
  obtain ⟨hn, hc, hm, hl⟩ := h
  rw [markTo_len] at hn hl
  subst hn
  unfold maxLen at hm
  have HL : Hid (markTo k0 d d.length = [] ∨ ∃ b off, a = some ⟨b, off, none⟩ ∧ b < w.heap.size ∧ ∀ k, k < d.length → BlockAt w b (off + k * 6) ((markTo k0 d d.length).getD k bl0)) := hl
  have HKL : Hid (∀ i, i ≤ d.length → 0 ≤ kD k0 d i ∧ kD k0 d i ≤ 10000000) := fun i hi => by
    refine ⟨kD_ge d i h0, ?_⟩
    have h3 := kD_le (k0 := k0) hi
    have h4 := totD_append (d.take i) (d.drop i)
    rw [List.take_append_drop] at h4
    omega
  clear hl
  go_enter Try.func51, Try.ntmps51
  go_wp2_with fail
  go_loop [1, 5] (fun kk iv => ∃ (i : Nat), i ≤ d.length ∧ iv = .int .i64 i ∧ kk = .int .i64 (kD k0 d i)) (fun _ iv => d.length - (intOf iv).toNat)
  case atStart => exact ⟨0, Nat.zero_le _, rfl, by simp [kD]⟩
  case round =>
    obtain ⟨i, hi, rfl, rfl⟩ := hrel
    by_cases hlt : i < d.length
    · obtain ⟨kge, kle⟩ := HKL.out i hi
      have HSU : Hid (kD k0 d (i + 1) = kD k0 d i + (szM (d.getD i bl0) : Nat)) := kD_succ hlt
      have hle := totD_le d i hlt
      rcases HL.out with e | ⟨b, off, rfl, hbw, hl⟩
      · have := markTo_len k0 d d.length
        rw [e] at this
        simp at this
        omega
      have hblk := hl i hlt
      rw [markTo_get hlt, if_pos hlt] at hblk
      obtain ⟨K, HK⟩ : ∃ K, Hid (kD k0 d i = K) := ⟨_, rfl⟩
      rw [HK.out] at kge kle hblk HSU ⊢
      obtain ⟨⟨yk, yv, t, yR, yC, l⟩, hy⟩ : ∃ x, x = d.getD i bl0 := ⟨_, rfl⟩
      rw [← hy] at hblk HSU hle
      obtain ⟨p, tn, q, p', cn, q', c0, c1, c2, c3, c4, c5, htx, htb⟩ := hblk
      simp only [mkB] at c0 c1 c3 c4 htx htb
      have htl : tn = t.length := htx.1.trans (marked_len _ _)
      rw [← htl] at htx htb c3 c4
      have htn : tn ≤ 1048576 := by
        have : t.length ≤ szB (yk, yv, t, yR, yC, l) := Nat.le_add_right _ _
        omega
      have hll : l.length ≤ 1048576 ∧ totT l ≤ 1048576 := by
        have : l.length + totT l ≤ szB (yk, yv, t, yR, yC, l) := Nat.le_add_left _ _
        omega
      obtain ⟨hl1, hl2⟩ := hll
      have HTL : Hid (tn = t.length) := htl
      have HTX : Hid (Txt w p tn q (marked (K + 1 + 1) tn)) := htx
      have HTB : Hid (Tab w p' cn q' (markL (K + 1 + 1 + 3 * (tn : Int) + 1 + 1) l)) := htb
      have n1 : ¬ K + 1 + 1 + 3 * (tn : Int) < 0 := by omega
      have hend : kD k0 d (i + 1) = kAt (K + 1 + 1 + 3 * (tn : Int) + 1 + 1) l l.length := by
        rw [HSU.out]
        unfold kAt szM
        rw [List.take_of_length_le (Nat.le_refl _)]
        simp only
        rw [← HTL.out]
        omega
      have HEND : Hid (kD k0 d (i + 1) = kAt (K + 1 + 1 + 3 * (tn : Int) + 1 + 1) l l.length) := hend
      obtain ⟨Z, HZ⟩ : ∃ Z, Hid (kAt (K + 1 + 1 + 3 * (tn : Int) + 1 + 1) l l.length = Z) := ⟨_, rfl⟩
      have hz0 : 0 ≤ Z := by
        rw [← HZ.out]
        exact kAt_ge _ _ _ (by omega)
      have n2 : ¬ Z < 0 := by omega
      have m0 : (K != K) = false := by simp
      have m1 : (K + 1 != K + 1) = false := by simp
      have m3 : (K + 1 + 1 + 3 * (tn : Int) != K + 1 + 1 + 3 * (tn : Int)) = false := by simp
      have m4 : (K + 1 + 1 + 3 * (tn : Int) + 1 != K + 1 + 1 + 3 * (tn : Int) + 1) = false := by simp
      have hib : (i : Int) < (d.length : Int) := by omega
      have hi0 : (0 : Int) ≤ (i : Int) := by omega
      clear hl htx htb htl hend hy
      go_wp2_with (first | (go_at_call 69; refine (heldSignS_any p tn q _ _ HTX.out htn (by omega) (by omega)).mono ?_; rintro e w2 ⟨rfl, hw2⟩; subst w2) | (go_at_call 70; refine (heldCellS_c p' cn q' l _ _ HTB.out (by omega) (by omega) hl2).mono ?_; rintro e w3 ⟨rfl, hw3⟩; subst w3; rw [HZ.out]))
      go_round
      case rel => exact ⟨i + 1, by omega, by go_num, by rw [HEND.out, HZ.out]⟩
      case measure => simp [intOf]; omega
    · obtain rfl : i = d.length := by omega
      go_wp2_with fail
      go_ret
      exact ⟨rfl, rfl⟩
set_option maxHeartbeats 2000000 in
theorem heldDoc_any {a : Option Addr} {n c : Nat} {d : List Bl} {k0 : Int} {w : World} (h : Dc w a n c (markTo k0 d d.length)) (h0 : 0 ≤ k0) (h1 : k0 ≤ 1000) (h2 : d.length + totD d ≤ 1048576) :
    Calls Try.prog 24 #[.agg #[.slice a n c], .int .i64 k0] w fun e w' => e = .returned (.int .i64 (kD k0 d d.length)) ∧ Below w.heap.size w w' := by
  have H : Hid (Dc w a n c (markTo k0 d d.length)) := h
  obtain ⟨Z, HZ⟩ : ∃ Z, Hid (kD k0 d d.length = Z) := ⟨_, rfl⟩
  have hz : ¬ Z < 0 := by
    rw [← HZ.out]
    have := kD_ge (k0 := k0) d d.length h0
    omega
  rw [HZ.out]
  clear h
  have B0 : Below w.heap.size w (w.alloc (.cells #[.slice a n c] 29)) := (Below.refl _ _).alloc (Nat.le_refl _) _
  go_enter Try.func24, Try.ntmps24
  go_wp2_with (go_at_call 51; refine (heldBlockS_any (H.out.below B0) h0 h1 h2).mono ?_; rintro e w1 ⟨rfl, hw1⟩; subst w1; rw [HZ.out])
  go_ret
  exact ⟨rfl, B0⟩
set_option maxHeartbeats 2000000 in
theorem markDoc_over {a : Option Addr} {n c : Nat} {rbs : List Rb} {d : List Bl} {k0 : Int} {B E : Nat} {w : World} (h : DocOwn w B E (.slice a n c) rbs d) (hE : E ≤ w.heap.size) (hB : B ≤ E) (h0 : 0 ≤ k0) (h1 : k0 ≤ 1000) (h2 : d.length + totD d ≤ 1048576) :
    Calls Try.prog 19 #[.agg #[.slice a n c], .int .i64 k0] w fun e w' => e = .returned (.int .i64 (kD k0 d d.length)) ∧ (∃ rbs', DocOwn w' B E (.slice a n c) rbs' (markTo k0 d d.length)) ∧ Below B w w' ∧ Over E w w' := by
  have H : Hid (DocOwn w B E (.slice a n c) rbs d) := h
  clear h
  have B0 : Below w.heap.size w (w.alloc (.cells #[.slice a n c] 29)) := (Below.refl _ _).alloc (Nat.le_refl _) _
  go_enter Try.func19, Try.ntmps19
  go_wp2_with (go_at_call 43; refine (markBlockS_over (H.out.below hE B0) (by simp; omega) hB h0 h1 h2).mono ?_; rintro e w1 ⟨rfl, ⟨rbs', ho1⟩, hb1, hov1⟩)
  go_ret
  exact ⟨rfl, ⟨rbs', ho1⟩, (B0.mono (by omega)).trans hb1, fun b hb hb' => (hov1 b hb (by simp; omega)).trans (Below.heap_alloc _ _ _ hb')⟩
end Go.Proofs.Ytlpfflcogefbjaa
namespace Go.Proofs.Ytlpfflcogefbjaa
open Go.RowKit

theorem docRes_of {r : Option (List Bl)} {B : Nat} {e : Ending} {w' : World} (h : DocRes r B e w') : ∃ p m q rbs, e = .returned (.tuple #[.agg #[.slice p m q], .bool r.isSome]) ∧ DocOwn w' B w'.heap.size (.slice p m q) rbs (r.getD []) := by
  rcases h with ⟨rfl, rfl⟩ | ⟨d', p, q, rbs, rfl, rfl, ho⟩
  · exact ⟨none, 0, 0, [], rfl, DocOwn.nil _ _ _⟩
  · exact ⟨p, _, q, rbs, rfl, ho⟩
theorem totT_small : ∀ l : List Cl, (∀ x ∈ l, x.2.2.2.2.length ≤ 24) → totT l ≤ 24 * l.length
  | [], _ => by simp [totT]
  | x :: l, h => by
    have ih := totT_small l (fun y hy => h y (List.mem_cons_of_mem _ hy))
    have hx := h x List.mem_cons_self
    have e : totT (x :: l) = x.2.2.2.2.length + totT l := by simp [totT]
    rw [e, List.length_cons]
    omega
theorem totD_small : ∀ d : List Bl, (∀ x ∈ d, szB x ≤ 1000) → totD d ≤ 1000 * d.length
  | [], _ => by simp [totD]
  | x :: l, h => by
    have ih := totD_small l (fun y hy => h y (List.mem_cons_of_mem _ hy))
    have hx := h x List.mem_cons_self
    have e : totD (x :: l) = szB x + totD l := by simp [totD]
    rw [e, List.length_cons]
    omega
theorem ok_small_doc {d : List Bl} (hall : d.all partBB = true) (hou : outlB d = true) : d.length + totD d ≤ 1048576 := by
  have h8 : d.length ≤ 8 := by
    have := hou
    unfold outlB at this
    rw [Bool.and_eq_true, decide_eq_true_eq] at this
    exact this.1
  have := totD_small d (fun x hx => by
    obtain ⟨k, hk, e⟩ := List.getElem_of_mem hx
    have hp := outlB_part hou hk
    rw [getD_bl hk, e] at hp
    have hb := List.all_eq_true.1 hall x hx
    obtain ⟨K, V, t, R, C, l⟩ := x
    have hs := part_small hp
    simp only at hs
    unfold szB
    simp only
    rcases partB_kind hb with hK | hK | hK
    · subst hK
      obtain ⟨-, -, -, rfl⟩ := partBB_para hb
      have := hs.1 (.inl rfl)
      simp [totT]
      omega
    · subst hK
      obtain ⟨-, -, rfl⟩ := partBB_item hb
      have := hs.1 (.inr rfl)
      simp [totT]
      omega
    · subst hK
      obtain ⟨-, rfl⟩ := partBB_sheet hb
      unfold partOkB at hp
      simp only at hp
      rw [if_neg (by decide), if_neg (by decide)] at hp
      obtain ⟨h1, h2⟩ := ok_small hp
      have := totT_small l h2
      simp
      omega)
  omega
theorem docF_small {F : List Bl → Nat → Option (List Bl)} (hF : ∀ {d d' : List Bl} {i : Nat}, d.all partBB = true → outlB d = true → i < d.length → F d i = some d' → d'.all partBB = true ∧ d'.length = d.length) (d : List Bl) (z : Int) : ((docF F d z).getD []).length + totD ((docF F d z).getD []) ≤ 1048576 := by
  unfold docF
  by_cases h : docB d = true ∧ 0 ≤ z ∧ z < d.length
  · rw [if_pos h]
    obtain ⟨h1, h2, h3⟩ := docB_parts h.1
    cases hr : F d z.toNat
    · simp [totD]
    · rename_i d'
      rw [Option.bind_some]
      by_cases ho : outlB d' = true
      · rw [if_pos ho]
        exact ok_small_doc (hF h2 h3 (by omega) hr).1 ho
      · rw [if_neg ho]
        simp [totD]
  · rw [if_neg h]
    simp [totD]
end Go.Proofs.Ytlpfflcogefbjaa
namespace Go.Proofs.Ytlpfflcogefbjaa
open Go.RowKit

theorem outl_iff (d : List Bl) : outlB d = true ↔ d.length ≤ 8 ∧ ∀ k, k < d.length → partOkB (d.getD k bl0) = true ∧ lvN (d.getD k bl0) ≤ aheadN d k + 1 := by
  unfold outlB
  rw [Bool.and_eq_true, decide_eq_true_eq, List.all_eq_true]
  constructor
  · rintro ⟨h1, h2⟩
    refine ⟨h1, fun k hk => ?_⟩
    have := h2 k (List.mem_range.2 hk)
    unfold outK at this
    rw [Bool.and_eq_true] at this
    refine ⟨this.1, ?_⟩
    have h3 := this.2
    rw [Bool.not_eq_true', decide_eq_false_iff_not] at h3
    omega
  · rintro ⟨h1, h2⟩
    refine ⟨h1, fun k hk => ?_⟩
    obtain ⟨h3, h4⟩ := h2 k (List.mem_range.1 hk)
    unfold outK
    rw [Bool.and_eq_true]
    refine ⟨h3, ?_⟩
    rw [Bool.not_eq_true', decide_eq_false_iff_not]
    omega
theorem getD_set_self {d : List Bl} {i : Nat} {x : Bl} (h : i < d.length) : (d.set i x).getD i bl0 = x := by simp [List.getD, h]
theorem getD_set_other {d : List Bl} {i k : Nat} {x : Bl} (h : i ≠ k) : (d.set i x).getD k bl0 = d.getD k bl0 := by simp [List.getD, List.getElem?_set_ne h]
theorem ahead_ge {d : List Bl} (h : ∀ k, k < d.length → partOkB (d.getD k bl0) = true) {k : Nat} (hk : k ≤ d.length) : -1 ≤ aheadN d k := by
  unfold aheadN
  by_cases h0 : k = 0
  · rw [if_pos h0]; omega
  · rw [if_neg h0]
    exact (lv_small (h (k - 1) (by omega))).1
/-- An item of level 0 in a paragraph's place is in order. -/
theorem enl_ok {d d' : List Bl} {i : Nat} (h : outlB d = true) (hi : i < d.length) (e : enlF d i = some d') : outlB d' = true := by
  unfold enlF at e
  by_cases h1 : (d.getD i bl0).1 = 1
  · rw [if_pos h1] at e
    cases e
    obtain ⟨h8, hk⟩ := (outl_iff d).1 h
    have ha : ∀ {k : Nat}, k ≤ d.length → -1 ≤ aheadN d k := fun hk' => ahead_ge (fun k hk' => (hk k hk').1) hk'
    have hl1 : lvN (d.getD i bl0) = -1 := by unfold lvN; rw [if_neg (by omega)]
    refine (outl_iff _).2 ⟨by simpa using h8, fun k hkl => ?_⟩
    rw [List.length_set] at hkl
    have hah : aheadN (d.set i (2, 0, (d.getD i bl0).2.2.1, 0, 0, [])) k = if k = i + 1 then 0 else aheadN d k := by
      unfold aheadN
      by_cases h0 : k = 0
      · rw [if_pos h0, if_neg (by omega), if_pos h0]
      · rw [if_neg h0, if_neg h0]
        by_cases hki : k = i + 1
        · rw [if_pos hki, show k - 1 = i by omega, getD_set_self hi]
          rfl
        · rw [if_neg hki, getD_set_other (by omega)]
    rw [hah]
    by_cases hki : i = k
    · subst hki
      rw [getD_set_self hi, if_neg (by omega)]
      have := ha (k := i) (by omega)
      refine ⟨?_, ?_⟩
      · have hp := (hk i hi).1
        unfold partOkB at hp ⊢
        rw [if_pos h1] at hp
        simp
        exact hp
      · show (0 : Int) ≤ _
        omega
    · rw [getD_set_other hki]
      refine ⟨(hk k hkl).1, ?_⟩
      have := (hk k hkl).2
      by_cases hk1 : k = i + 1
      · rw [if_pos hk1]
        subst hk1
        unfold aheadN at this
        rw [if_neg (by omega), show i + 1 - 1 = i by omega, hl1] at this
        omega
      · rw [if_neg hk1]
        exact this
  · rw [if_neg h1] at e
    cases e
theorem deep_get {d : List Bl} {i : Nat} {z : Int} {k : Nat} (hk : k < d.length) : (deepL d i z).getD k bl0 = if i ≤ k ∧ k < endL d i then bump z (d.getD k bl0) else d.getD k bl0 := deepTo_get hk
theorem lv_bump {x : Bl} {z : Int} (h : x.1 = 2) : lvN (bump z x) = lvN x + z := by
  unfold lvN bump
  simp only
  rw [if_pos h, if_pos h]
theorem endL_next {d : List Bl} {i : Nat} (hi : i < d.length) (h : endL d i < d.length) : lvN (d.getD (endL d i) bl0) ≤ lvN (d.getD i bl0) := by
  by_cases hq : lvN (d.getD (endL d i) bl0) ≤ lvN (d.getD i bl0)
  · exact hq
  · exfalso
    have h1 : lvN (d.getD i bl0) < lvN (d.getD (endL d i) bl0) := by omega
    -- then one more were below
    obtain ⟨E, hE⟩ : ∃ E, E = endL d i := ⟨_, rfl⟩
    have hge : i + 1 ≤ E := by rw [hE]; unfold endL; omega
    have hex : ∃ F, E < F ∧ F ≤ d.length ∧ endL d i = F := by
      have key : ∀ (n F : Nat), d.length - F = n → E < F → F ≤ d.length → (∀ k, i < k → k < F → lvN (d.getD i bl0) < lvN (d.getD k bl0)) → ∃ F, E < F ∧ F ≤ d.length ∧ endL d i = F := by
        intro n
        induction n with
        | zero =>
          intro F hn hF hFl hall
          exact ⟨F, hF, hFl, endL_of (by omega) hFl hall (fun h => by omega)⟩
        | succ n ih =>
          intro F hn hF hFl hall
          by_cases hd : lvN (d.getD i bl0) < lvN (d.getD F bl0)
          · exact ih (F + 1) (by omega) (by omega) (by omega) (fun k h1 h2 => by
              by_cases e : k = F
              · subst e; exact hd
              · exact hall k h1 (by omega))
          · exact ⟨F, hF, hFl, endL_of (by omega) hFl hall (fun _ => hd)⟩
      refine key (d.length - (E + 1)) (E + 1) rfl (by omega) (by omega) (fun k h2 h3 => ?_)
      by_cases e : k = E
      · rw [e, hE]; exact h1
      · exact endL_deeper hi h2 (by omega)
    obtain ⟨F, hF, -, he⟩ := hex
    omega
theorem lift_ok {d d' : List Bl} {i : Nat} (h : outlB d = true) (hi : i < d.length) (e : liftF d i = some d') : outlB d' = true := by
  unfold liftF at e
  by_cases h1 : (d.getD i bl0).1 = 2
  · rw [if_pos h1] at e
    obtain ⟨h8, hk⟩ := (outl_iff d).1 h
    have ha : ∀ {k : Nat}, k ≤ d.length → -1 ≤ aheadN d k := fun hk' => ahead_ge (fun k hk' => (hk k hk').1) hk'
    have hl1 : lvN (d.getD i bl0) = (d.getD i bl0).2.1 := by unfold lvN; rw [if_pos h1]
    have hg := group_items h hi h1
    by_cases h2 : 0 < (d.getD i bl0).2.1
    · rw [if_pos h2] at e
      cases e
      have hE1 : i + 1 ≤ endL d i := by unfold endL; omega
      have hE2 := endL_le (d := d) (i := i) hi
      have hlv : ∀ k, k < d.length → lvN ((deepL d i (-1)).getD k bl0) = if i ≤ k ∧ k < endL d i then lvN (d.getD k bl0) - 1 else lvN (d.getD k bl0) := fun k hkl => by
        rw [deep_get hkl]
        by_cases hin : i ≤ k ∧ k < endL d i
        · rw [if_pos hin, if_pos hin, lv_bump (hg k hin.1 hin.2).1]
          omega
        · rw [if_neg hin, if_neg hin]
      have hgr : ∀ k, i ≤ k → k < endL d i → (d.getD i bl0).2.1 ≤ lvN (d.getD k bl0) := fun k a b => by
        by_cases e : k = i
        · subst e; rw [hl1]; omega
        · have := endL_deeper hi (by omega) b
          rw [hl1] at this
          omega
      refine (outl_iff _).2 ⟨by rw [deepL, deepTo_len]; exact h8, fun k hkl => ?_⟩
      rw [deepL, deepTo_len] at hkl
      refine ⟨?_, ?_⟩
      · rw [deep_get hkl]
        by_cases hin : i ≤ k ∧ k < endL d i
        · rw [if_pos hin]
          obtain ⟨g2, g0, g3⟩ := hg k hin.1 hin.2
          have hp := (hk k hkl).1
          have hlo := hgr k hin.1 hin.2
          unfold lvN at hlo
          rw [if_pos g2] at hlo
          unfold partOkB at hp ⊢
          unfold bump
          simp only
          rw [if_neg (by omega), if_pos g2, Bool.and_eq_true, decide_eq_true_eq] at hp
          rw [if_neg (by omega), if_pos g2, Bool.and_eq_true, decide_eq_true_eq]
          exact ⟨by omega, hp.2⟩
        · rw [if_neg hin]
          exact (hk k hkl).1
      · have hold := (hk k hkl).2
        rw [hlv k hkl]
        unfold aheadN at hold ⊢
        by_cases hk0 : k = 0
        · rw [if_pos hk0] at hold ⊢
          by_cases hin : i ≤ k ∧ k < endL d i
          · rw [if_pos hin]; omega
          · rw [if_neg hin]; exact hold
        · rw [if_neg hk0] at hold ⊢
          rw [hlv (k - 1) (by omega)]
          by_cases hin : i ≤ k ∧ k < endL d i
          · rw [if_pos hin]
            by_cases hin' : i ≤ k - 1 ∧ k - 1 < endL d i
            · rw [if_pos hin']; omega
            · rw [if_neg hin']; omega
          · rw [if_neg hin]
            by_cases hin' : i ≤ k - 1 ∧ k - 1 < endL d i
            · rw [if_pos hin']
              have hke : k = endL d i := by omega
              have hn := endL_next hi (by rw [← hke]; exact hkl)
              rw [← hke, hl1] at hn
              have := hgr (k - 1) hin'.1 hin'.2
              omega
            · rw [if_neg hin']; exact hold
    · rw [if_neg h2] at e
      by_cases h3 : endL d i = i + 1
      · rw [if_pos h3] at e
        cases e
        have h0 : (d.getD i bl0).2.1 = 0 := by
          have := (hg i (Nat.le_refl _) (by omega)).2.1
          omega
        refine (outl_iff _).2 ⟨by simpa using h8, fun k hkl => ?_⟩
        rw [List.length_set] at hkl
        have hah : aheadN (d.set i (1, 0, (d.getD i bl0).2.2.1, 0, 0, [])) k = if k = i + 1 then -1 else aheadN d k := by
          unfold aheadN
          by_cases hk0 : k = 0
          · rw [if_pos hk0, if_neg (by omega), if_pos hk0]
          · rw [if_neg hk0, if_neg hk0]
            by_cases hki : k = i + 1
            · rw [if_pos hki, show k - 1 = i by omega, getD_set_self hi]
              rfl
            · rw [if_neg hki, getD_set_other (by omega)]
        rw [hah]
        by_cases hki : i = k
        · subst hki
          rw [getD_set_self hi, if_neg (by omega)]
          have := ha (k := i) (by omega)
          refine ⟨?_, ?_⟩
          · have hp := (hk i hi).1
            unfold partOkB at hp ⊢
            rw [if_neg (by omega), if_pos h1, Bool.and_eq_true] at hp
            simp
            exact hp.2
          · show (-1 : Int) ≤ _
            omega
        · rw [getD_set_other hki]
          refine ⟨(hk k hkl).1, ?_⟩
          by_cases hk1 : k = i + 1
          · rw [if_pos hk1]
            have hn := endL_next hi (by rw [h3, ← hk1]; exact hkl)
            rw [h3, ← hk1, hl1, h0] at hn
            omega
          · rw [if_neg hk1]
            exact (hk k hkl).2
      · rw [if_neg h3] at e
        cases e
  · rw [if_neg h1] at e
    cases e
end Go.Proofs.Ytlpfflcogefbjaa
namespace Go.Proofs.Ytlpfflcogefbjaa
open Go.RowKit

def rwOne (i j : Nat) : Rw := (i, j, 1, 1, none, 0, 0)
def clOne (i j : Nat) : Cl := (i, j, 1, 1, [])
def newR (C i j : Nat) : List Rw := ((List.range i).flatMap fun a => (List.range C).map fun b => rwOne a b) ++ (List.range j).map fun b => rwOne i b
def newC (C i j : Nat) : List Cl := ((List.range i).flatMap fun a => (List.range C).map fun b => clOne a b) ++ (List.range j).map fun b => clOne i b
/-- The cells of a new table. -/
def newL (R C : Nat) : List Cl := newC C R 0
theorem newR_row (C i : Nat) : newR C i C = newR C (i + 1) 0 := by simp [newR, List.range_succ]
theorem newC_row (C i : Nat) : newC C i C = newC C (i + 1) 0 := by simp [newC, List.range_succ]
theorem newR_succ (C i j : Nat) : newR C i (j + 1) = newR C i j ++ [rwOne i j] := by simp [newR, List.range_succ]
theorem newC_succ (C i j : Nat) : newC C i (j + 1) = newC C i j ++ [clOne i j] := by simp [newC, List.range_succ]
theorem newR_len (C : Nat) : ∀ i j, (newR C i j).length = i * C + j
  | 0, j => by simp [newR]
  | i + 1, j => by
    have h := newR_len C i C
    rw [newR_row] at h
    simp only [newR, List.length_append, List.length_map, List.length_range] at h ⊢
    rw [Nat.succ_mul]
    omega
theorem map_getD {α β : Type} (f : α → β) (l : List α) (k : Nat) (d : α) (e : β) (h : k < l.length) : (l.map f).getD k e = f (l.getD k d) := by simp [List.getD, h]
def rwCl (x : Rw) : Cl := (x.1, x.2.1, x.2.2.1, x.2.2.2.1, [])
theorem newC_map (C i j : Nat) : newC C i j = (newR C i j).map rwCl := by
  simp only [newC, newR, List.map_append, List.map_map, List.map_flatMap]
  rfl
def nilT (x : Rw) : Prop := x.2.2.2.2 = (none, 0, 0)
theorem newR_nil (C i j : Nat) : ∀ x ∈ newR C i j, nilT x := by
  intro x hx
  simp only [newR, List.mem_append, List.mem_flatMap, List.mem_map] at hx
  rcases hx with ⟨a, _, b, _, rfl⟩ | ⟨b, _, rfl⟩ <;> rfl
theorem txtOwn_nil {w : World} {B : Nat} {q : Option Nat} {rs : List Rw} (h : ∀ x ∈ rs, nilT x) : TxtOwn w B q rs (rs.map rwCl) := by
  have key : ∀ k, k < rs.length → rwT (rs.getD k rw0) = .slice none 0 0 := by
    intro k hk
    have := h (rs.getD k rw0) (by simp [List.getD, hk])
    unfold nilT at this
    simp only [rwT, this]
  refine ⟨by simp, fun k hk => ?_, fun k hk g hg => ?_, fun i k hik hk g hg => ?_⟩
  · rw [map_getD rwCl rs k rw0 cl0 hk]
    refine ⟨rfl, rfl, rfl, rfl, ?_⟩
    rw [key k hk]
    exact Own.nil _ _
  · rw [key k hk] at hg
    simp [Value.ownBlock] at hg
  · rw [key i (by omega)] at hg
    simp [Value.ownBlock] at hg
theorem cell_five_new (w : World) (a b c d e : Value) (t : TypeId) : ∀ j u, [a, b, c, d, e][j]? = some u → (w.alloc (.cells #[a, b, c, d, e] t)).cell? ((⟨w.heap.size, 0, none⟩ : Addr).add j) = some u := by
  intro j u hj
  match j, hj with
  | 0, hj => simp at hj; subst hj; simp [Addr.add]
  | 1, hj => simp at hj; subst hj; simp [Addr.add]
  | 2, hj => simp at hj; subst hj; simp [Addr.add]
  | 3, hj => simp at hj; subst hj; simp [Addr.add]
  | 4, hj => simp at hj; subst hj; simp [Addr.add]
  | (j + 5), hj => simp at hj
theorem five_oneCell (a b c d : Int) (p : Option Addr) (n m : Nat) : ∀ u ∈ [Value.int .i64 a, .int .i64 b, .int .i64 c, .int .i64 d, .slice p n m], u.oneCell' = true := by
  intro u hu
  simp at hu
  rcases hu with rfl | rfl | rfl | rfl | rfl <;> rfl
end Go.Proofs.Ytlpfflcogefbjaa
namespace Go.Proofs.Ytlpfflcogefbjaa
open Go.RowKit

set_option maxRecDepth 100000 in
set_option maxHeartbeats 4000000 in
theorem l2Copy_any (R C : Int) (a : Option Addr) (n cap : Nat) (l : List Cl) (w : World) (h : Tab w a n cap l) (hl : l.length ≤ 1000000) (ht : ∀ k, k < l.length → (l.getD k cl0).2.2.2.2.length ≤ 1000000) :
    Calls Try.prog 66 #[.agg #[.int .i64 R, .int .i64 C, .slice a n cap]] w fun z w' => (∃ a' c' rs, z = .returned (.agg #[.int .i64 R, .int .i64 C, .slice a' l.length c']) ∧ OwnT w' w.heap.size (.slice a' l.length c') rs l) ∧ Below w.heap.size w w' := by
  obtain ⟨i0, hi, hz0, hz1, hz2⟩ := info_parts Try.info59
  have H : Hid (Tab w a n cap l) := h
  have HTL : Hid (∀ k, k < l.length → (l.getD k cl0).2.2.2.2.length ≤ 1000000) := ht
  obtain ⟨hn, hc, hm, -⟩ := h
  unfold maxLen at hm
  have HN : Hid (n = l.length) := hn
  have hn6 : n ≤ 1000000 := by omega
  clear ht hn
  go_enter Try.func66, Try.ntmps66
  go_upto_region 1 with fail
  have B0 : Below w.heap.size w ((w.alloc (.cells #[.int .i64 R, .int .i64 C, .slice a n cap] 47)).alloc (.cells #[.int .i64 0, .int .i64 0, .slice none 0 0] 47)) := ((Below.refl _ _).alloc (Nat.le_refl _) _).alloc (by simp) _
  have G0 : RowAt ((w.alloc (.cells #[.int .i64 R, .int .i64 C, .slice a n cap] 47)).alloc (.cells #[.int .i64 0, .int .i64 0, .slice none 0 0] 47)) w.heap.size #[.int .i64 R, .int .i64 C, .slice a n cap] 47 := (rowAt_new w _ _).alloc _
  have G1 : RowAt ((w.alloc (.cells #[.int .i64 R, .int .i64 C, .slice a n cap] 47)).alloc (.cells #[.int .i64 0, .int .i64 0, .slice none 0 0] 47)) (w.heap.size + 1) #[.int .i64 0, .int .i64 0, .slice none 0 0] 47 := by
    have := rowAt_new (w.alloc (.cells #[.int .i64 R, .int .i64 C, .slice a n cap] 47)) #[.int .i64 0, .int .i64 0, .slice none 0 0] 47
    simpa using this
  generalize ((w.alloc (.cells #[.int .i64 R, .int .i64 C, .slice a n cap] 47)).alloc (.cells #[.int .i64 0, .int .i64 0, .slice none 0 0] 47)) = v at B0 G0 G1 ⊢
  have q0 : v.cell? ⟨w.heap.size, 0, none⟩ = some (.int .i64 R) := G0.cell 0
  have q1 : v.cell? ⟨w.heap.size, 1, none⟩ = some (.int .i64 C) := G0.cell 1
  go_upto_region 2 with fail
  have B1 : Below v.heap.size v (v.alloc (.cells #[.int .i64 R, .int .i64 C, .slice none 0 0] 47)) := (Below.refl _ _).alloc (Nat.le_refl _) _
  have G2 : RowAt (v.alloc (.cells #[.int .i64 R, .int .i64 C, .slice none 0 0] 47)) v.heap.size #[.int .i64 R, .int .i64 C, .slice none 0 0] 47 := rowAt_new _ _ _
  generalize (v.alloc (.cells #[.int .i64 R, .int .i64 C, .slice none 0 0] 47)) = v0 at B1 G2 ⊢
  have z0 := G0.lt
  have z1 := G1.lt
  have z2 := G2.lt
  have s01 := B0.size
  clear q0 q1
  go_wp2_with fail
  go_loopw [4] (fun iv wr => ∃ (i : Nat) (rs : List Rw) (a' : Option Addr) (c' : Nat), i ≤ n ∧ iv = .int .i64 i ∧ RowAt wr v.heap.size #[.int .i64 R, .int .i64 C, .slice a' i c'] 47 ∧ OwnR wr v0.heap.size (.slice a' i c') rs ∧ TxtOwn wr v0.heap.size (Value.slice a' i c').ownBlock rs (l.take i) ∧ Below v.heap.size v wr ∧ v0.heap.size ≤ wr.heap.size) (fun iv _ => n - (intOf iv).toNat)
  case atStart => exact ⟨0, [], none, 0, Nat.zero_le _, rfl, G2, OwnR.nil _ _, TxtOwn.nil _ _ _, B1, Nat.le_refl _⟩
  case round =>
    clear G2 B1
    obtain ⟨i, rs, a', c', hin, rfl, hT, hO, hX, hb, hs⟩ := hrel
    have HTb : Hid (RowAt wr v.heap.size #[.int .i64 R, .int .i64 C, .slice a' i c'] 47) := hT
    have HO : Hid (OwnR wr v0.heap.size (.slice a' i c') rs) := hO
    have HXt : Hid (TxtOwn wr v0.heap.size (Value.slice a' i c').ownBlock rs (l.take i)) := hX
    have HB : Hid (Below v.heap.size v wr) := hb
    have HW : Hid (Below w.heap.size w wr) := B0.trans (hb.mono s01)
    have k2 : wr.cell? ⟨w.heap.size, 2, none⟩ = some (.slice a n cap) := (G0.below hb z0).cell 2
    clear hT hO hX hb
    by_cases hlt : i < n
    · have hil : i < l.length := by rw [← HN.out]; exact hlt
      rcases H.out.2.2.2 with e | ⟨b, off, rfl, hbw, hcl⟩
      · rw [e] at hil
        exact absurd hil (by simp)
      obtain ⟨c0, c1, c2, c3, ta, tn, tc, c4, htx⟩ := (hcl i hil).below HW.out hbw
      have htl := HTL.out i hil
      obtain ⟨⟨r, c, d, g, tx⟩, hx⟩ : ∃ x, x = l.getD i cl0 := ⟨_, rfl⟩
      rw [← hx] at c0 c1 c2 c3 htx htl
      simp only at c0 c1 c2 c3 htx htl
      have HX : Hid ((r, c, d, g, tx) = l.getD i cl0) := hx
      have HTX : Hid (Txt wr ta tn tc tx) := htx
      have HTN : Hid (tn = tx.length) := htx.1
      have htn6 : tn ≤ 1000000 := by rw [HTN.out]; exact htl
      clear hcl hx htx
      go_upto_region 6 with fail
      have bA : Below wr.heap.size wr (wr.alloc (.cells #[.int .i64 r, .int .i64 c, .int .i64 d, .int .i64 g, .slice ta tn tc] 59)) := (Below.refl _ _).alloc (Nat.le_refl _) _
      have RA : RowAt (wr.alloc (.cells #[.int .i64 r, .int .i64 c, .int .i64 d, .int .i64 g, .slice ta tn tc] 59)) wr.heap.size #[.int .i64 r, .int .i64 c, .int .i64 d, .int .i64 g, .slice ta tn tc] 59 := rowAt_new _ _ _
      clear c0 c1 c2 c3 c4 k2
      generalize (wr.alloc (.cells #[.int .i64 r, .int .i64 c, .int .i64 d, .int .i64 g, .slice ta tn tc] 59)) = w1 at bA RA ⊢
      have s1 := bA.size
      have lA := RA.lt
      have e4 : w1.cell? ⟨wr.heap.size, 4, none⟩ = some (.slice ta tn tc) := RA.cell 4
      have HRA : Hid (RowAt w1 wr.heap.size #[.int .i64 r, .int .i64 c, .int .i64 d, .int .i64 g, .slice ta tn tc] 59) := RA
      clear RA
      go_upto_region 7 with (at_builtin; refine wpList_append_txt rfl (.tmp 23) (.tmp 25) rfl wr.heap.size (.slice (some ⟨w1.heap.size, 0, none⟩) 0 0) 0 [] rfl (World.ownsRow_lit w1 #[] 0 (by omega) (by unfold maxLen; omega) rfl) ta tn tc tx rfl ((HTX.out.below bA).below ((Below.refl _ _).alloc (Nat.le_refl _) _)) (by omega) (by simp; omega) ?_; intro v' w2 hown hgrow; obtain ⟨p, q, rfl, -⟩ := Own.shape (show Own w2 wr.heap.size v' tx by (rw [Nat.zero_add, List.nil_append, HTN.out] at hown; exact hown)); have R2 := RowAt.grown (HRA.out.alloc _) hgrow (by simp [Value.ownBlock]; omega); have f4 : w2.cell? ⟨wr.heap.size, 4, none⟩ = some (.slice ta tn tc) := R2.cell 4; have f5 := R2.frozen 4)
      have hO2 : Own w2 wr.heap.size (.slice p tx.length q) tx := by
        rw [Nat.zero_add, List.nil_append, HTN.out] at hown
        exact hown
      have O3 : Own (w2.setCell ⟨wr.heap.size, 4, none⟩ (.slice p tx.length q)) wr.heap.size (.slice p tx.length q) tx := own_set hO2 _ _ (rowAt_ne R2 hO2.row (by decide))
      have R3 := R2.setCell 4 (.slice p tx.length q)
      have b3 : Below wr.heap.size wr (w2.setCell ⟨wr.heap.size, 4, none⟩ (.slice p tx.length q)) := ((bA.alloc s1 _).grown hgrow (by simp; omega) (fun k hk => by simp [Value.ownBlock] at hk; omega)).setCell (p := ⟨wr.heap.size, 4, none⟩) (Nat.le_refl _) (.slice p tx.length q)
      clear f4 f5 e4 hown hgrow R2 hO2 bA
      generalize (w2.setCell ⟨wr.heap.size, 4, none⟩ (.slice p tx.length q)) = w3 at O3 R3 b3 ⊢
      have s3 := b3.size
      have d0 : w3.cell? ⟨wr.heap.size, 0, none⟩ = some (.int .i64 r) := R3.cell 0
      have d1 : w3.cell? ⟨wr.heap.size, 1, none⟩ = some (.int .i64 c) := R3.cell 1
      have d2 : w3.cell? ⟨wr.heap.size, 2, none⟩ = some (.int .i64 d) := R3.cell 2
      have d3 : w3.cell? ⟨wr.heap.size, 3, none⟩ = some (.int .i64 g) := R3.cell 3
      have d4 : w3.cell? ⟨wr.heap.size, 4, none⟩ = some (.slice p tx.length q) := R3.cell 4
      have lv : v.heap.size < wr.heap.size := by omega
      have HT3 : Hid (RowAt w3 v.heap.size #[.int .i64 R, .int .i64 C, .slice a' i c'] 47) := HTb.out.below b3 lv
      have HO3 : Hid (OwnR w3 v0.heap.size (.slice a' i c') rs) := own_below HO.out b3
      have HX3 : Hid (TxtOwn w3 v0.heap.size (Value.slice a' i c').ownBlock rs (l.take i)) := HXt.out.below b3
      have HOw : Hid (Own w3 wr.heap.size (.slice p tx.length q) tx) := O3
      have HB3 : Hid (Below v.heap.size v w3) := HB.out.trans (b3.mono (by omega))
      have t2 : w3.cell? ⟨v.heap.size, 2, none⟩ = some (.slice a' i c') := HT3.out.cell 2
      clear R3 O3 b3
      go_wp2_with (at_builtin; refine wpList_append_own _ rfl (.tmp 29) (.tmp 31) 45 rfl v0.heap.size 59 i0 _ 5 56 Try.underlying45 hi hz0 hz1 hz2 rfl (by decide) (.slice a' i c') _ _ rfl (HO3.out.row.alloc _) ⟨w3.heap.size, 0, none⟩ 1 1 [.int .i64 r, .int .i64 c, .int .i64 d, .int .i64 g, .slice p tx.length q] rfl rfl (cell_five_new _ _ _ _ _ _ _) (five_oneCell _ _ _ _ _ _ _) (by unfold maxLen; omega) (by omega) (by simp; omega) ?_; intro v' w5 hown' hgrow _; obtain ⟨a5, c5, rfl, ho5, hb5⟩ := ownR_step (B := v0.heap.size) (w := w3) (s := (r, c, d, g, p, tx.length, q)) HO3.out (Below.refl _ _) (by omega) hown' hgrow; have R5 := RowAt.grown (HT3.out.alloc _) hgrow (fun e => by have := (own_lt HO3.out.row e).1; omega); have q2 : w5.cell? ⟨v.heap.size, 2, none⟩ = some (.slice a' i c') := R5.cell 2; have q3 := R5.frozen 2)
      go_roundw
      case rel =>
        have tO : Own w5 v0.heap.size (.slice p tx.length q) tx := own_grown (Own.alloc (own_less HOw.out (by omega)) _) hgrow (fun b hb => own_kinds HO3.out HOw.out (by decide) b hb)
        have t5 : TxtOwn w5 v0.heap.size (Value.slice a' i c').ownBlock rs (l.take i) := (HX3.out.below ((Below.refl _ _).alloc (Nat.le_refl _) _)).grown hgrow (fun k hk b hb => HX3.out.2.2.1 k hk b hb)
        have t6 := t5.snoc (C := wr.heap.size) (x := (r, c, d, g, p, tx.length, q)) (y := (r, c, d, g, tx)) ⟨rfl, rfl, rfl, rfl, tO⟩ (fun b hb => own_kinds HO3.out HOw.out (by decide) b hb) (fun k hk b hb => HXt.out.blockLt k hk b hb) (fun b hb => (own_lt HOw.out.row hb).1)
        rw [show l.take i ++ [(r, c, d, g, tx)] = l.take (i + 1) from by rw [List.take_succ_eq_append_getElem hil, HX.out]; simp [List.getD, hil]] at t6
        have B5 : Below v.heap.size v w5 := ((HB3.out).alloc (by omega) _).grown hgrow (by simp; omega) (fun k hk => by have := (own_lt HO3.out.row hk).1; omega)
        have s5 := hgrow.size
        simp at s5
        refine ⟨i + 1, _, a5, c5, by omega, by go_num, R5.setCell 2 (.slice a5 (i + 1) c5), own_set ho5 _ _ (fun e => by have := (own_lt ho5.row e).1; simp at this; omega), (t6.anew ho5).setLow _ _ (by simp; omega), B5.setCell (p := ⟨v.heap.size, 2, none⟩) (Nat.le_refl _) (.slice a5 (i + 1) c5), by simp [World.setCell]; omega⟩
      case measure => simp [intOf]; omega
    · have e : i = n := by omega
      subst e
      have k0 : wr.cell? ⟨v.heap.size, 0, none⟩ = some (.int .i64 R) := HTb.out.cell 0
      have k1 : wr.cell? ⟨v.heap.size, 1, none⟩ = some (.int .i64 C) := HTb.out.cell 1
      have k3 : wr.cell? ⟨v.heap.size, 2, none⟩ = some (.slice a' i c') := HTb.out.cell 2
      have HG1 : Hid (RowAt wr (w.heap.size + 1) #[.int .i64 0, .int .i64 0, .slice none 0 0] 47) := G1.below HB.out z1
      go_wp2_with (refine wpList_store_row rfl 47 (.tmp 2) (.tmp 34) rfl (w.heap.size + 1) #[.int .i64 R, .int .i64 C, .slice a' i c'] rfl rfl 47 _ HG1.out tab_info rfl (cells3_one _ _ _ _ _) ?_)
      have hX := HXt.out
      have hO := HO.out
      rw [HN.out] at hX hO
      rw [List.take_of_length_le (Nat.le_refl _)] at hX
      refine bodyPost_ret (v := .agg #[.int .i64 R, .int .i64 C, .slice a' i c']) (results_cell_row (p := 2) (ty := 47) rfl _ _ (w.heap.size + 1) 47 _ _ _ rfl (RowAt.setRow HG1.out _) Try.underlying47 rfl tab_info) rfl ⟨⟨a', c', rs, by rw [HN.out], ?_⟩, below_row (B0.trans (HB.out.mono s01)) (by omega) _⟩
      exact OwnT.less (B' := v0.heap.size) ⟨own_row hO _ _ (fun e => by have := (own_lt hO.row e).1; omega), hX.rowLow _ _ (by omega)⟩ (by omega)
end Go.Proofs.Ytlpfflcogefbjaa
namespace Go.Proofs.Ytlpfflcogefbjaa
open Go.RowKit

/-- A block that is not great. -/
def SmB (x : Bl) : Prop := x.2.2.1.length ≤ 1000000 ∧ x.2.2.2.2.2.length ≤ 1000000 ∧ ∀ k, k < x.2.2.2.2.2.length → (x.2.2.2.2.2.getD k cl0).2.2.2.2.length ≤ 1000000
theorem own_shape {w : World} {B e size n : Nat} {v : Value} {xs : List Value} (h : w.ownsRow B e size v n xs) : ∃ a c, v = .slice a n c := by
  rcases h.2 with ⟨rfl, h0⟩ | ⟨g, cap, cur, rfl, r⟩
  · exact ⟨none, 0, by rw [h0]⟩
  · exact ⟨_, _, rfl⟩
set_option maxRecDepth 100000 in
set_option maxHeartbeats 8000000 in
theorem l3Copy_any {a : Option Addr} {n cap : Nat} {d : List Bl} {w : World} (h : Dc w a n cap d) (hn : n ≤ 1000) (hs : ∀ k, k < d.length → SmB (d.getD k bl0)) :
    Calls Try.prog 47 #[.agg #[.slice a n cap]] w fun e w' => (∃ p q rbs, e = .returned (.agg #[.slice p n q]) ∧ DocOwn w' w.heap.size w'.heap.size (.slice p n q) rbs d) ∧ Below w.heap.size w w' := by
  obtain ⟨i0, hi0, hz0, hz1, hz2⟩ := info_parts Try.info49
  have HN : Hid (n = d.length) := h.1
  have hc := h.2.1
  have hm := h.2.2.1
  unfold maxLen at hm
  have H : Hid (Dc w a n cap d) := h
  have HS : Hid (∀ k, k < d.length → SmB (d.getD k bl0)) := hs
  clear h hs
  go_enter Try.func47, Try.ntmps47
  go_upto_region 2 with fail
  have B0 : Below w.heap.size w (((w.alloc (.cells #[.slice a n cap] 29)).alloc (.cells #[.slice none 0 0] 29)).alloc (.cells #[.slice none 0 0] 29)) := (((Below.refl _ _).alloc (Nat.le_refl _) _).alloc (by simp) _).alloc (by simp; omega) _
  have G0 : RowAt (((w.alloc (.cells #[.slice a n cap] 29)).alloc (.cells #[.slice none 0 0] 29)).alloc (.cells #[.slice none 0 0] 29)) w.heap.size #[.slice a n cap] 29 := ((rowAt_new w _ _).alloc _).alloc _
  have G1 : RowAt (((w.alloc (.cells #[.slice a n cap] 29)).alloc (.cells #[.slice none 0 0] 29)).alloc (.cells #[.slice none 0 0] 29)) (w.heap.size + 1) #[.slice none 0 0] 29 := by
    have := (rowAt_new (w.alloc (.cells #[.slice a n cap] 29)) #[.slice none 0 0] 29).alloc (.cells #[.slice none 0 0] 29)
    simpa using this
  have G2 : RowAt (((w.alloc (.cells #[.slice a n cap] 29)).alloc (.cells #[.slice none 0 0] 29)).alloc (.cells #[.slice none 0 0] 29)) (w.heap.size + 1 + 1) #[.slice none 0 0] 29 := by
    have := rowAt_new ((w.alloc (.cells #[.slice a n cap] 29)).alloc (.cells #[.slice none 0 0] 29)) #[.slice none 0 0] 29
    simpa using this
  generalize (((w.alloc (.cells #[.slice a n cap] 29)).alloc (.cells #[.slice none 0 0] 29)).alloc (.cells #[.slice none 0 0] 29)) = v0 at B0 G0 G1 G2 ⊢
  have l0 := G0.lt
  have l1 := G1.lt
  have l2 := G2.lt
  have s0 := B0.size
  have H0 : Hid (RowAt v0 w.heap.size #[.slice a n cap] 29) := G0
  have H1 : Hid (RowAt v0 (w.heap.size + 1) #[.slice none 0 0] 29) := G1
  have H2 : Hid (RowAt v0 (w.heap.size + 1 + 1) #[.slice none 0 0] 29) := G2
  have HB0 : Hid (Below w.heap.size w v0) := B0
  clear G0 G1 G2 B0
  go_wp2_with fail
  go_loopw [4] (fun iv wr => ∃ (i : Nat) (da : Option Addr) (dc : Nat) (rbs : List Rb), i ≤ n ∧ iv = .int .i64 i ∧ RowAt wr w.heap.size #[.slice a n cap] 29 ∧ RowAt wr (w.heap.size + 1) #[.slice none 0 0] 29 ∧ RowAt wr (w.heap.size + 1 + 1) #[.slice da i dc] 29 ∧ DocOwn wr v0.heap.size wr.heap.size (.slice da i dc) rbs (d.take i) ∧ v0.heap.size ≤ wr.heap.size ∧ Below w.heap.size w wr) (fun iv _ => n - (intOf iv).toNat)
  case atStart => exact ⟨0, none, 0, [], Nat.zero_le _, rfl, H0.out, H1.out, H2.out, DocOwn.nil _ _ _, Nat.le_refl _, HB0.out⟩
  case round =>
    obtain ⟨i, da, dc, rbs, hi, rfl, hG0, hG1, hG2, hD, hss, hB⟩ := hrel
    have k0 : wr.cell? ⟨w.heap.size, 0, none⟩ = some (.slice a n cap) := hG0.cell 0
    have HG0 : Hid (RowAt wr w.heap.size #[.slice a n cap] 29) := hG0
    have HG1 : Hid (RowAt wr (w.heap.size + 1) #[.slice none 0 0] 29) := hG1
    have HG2 : Hid (RowAt wr (w.heap.size + 1 + 1) #[.slice da i dc] 29) := hG2
    have HD : Hid (DocOwn wr v0.heap.size wr.heap.size (.slice da i dc) rbs (d.take i)) := hD
    have HB : Hid (Below w.heap.size w wr) := hB
    have hq1 := hD.dc.2.1
    have hq2 := hD.dc.2.2.1
    unfold maxLen at hq2
    clear hG0 hG1 hG2 hD
    by_cases hlt : i < n
    · have hil : i < d.length := by have := HN.out; omega
      have hib : (i : Int) < (n : Int) := by omega
      have hi0' : (0 : Int) ≤ (i : Int) := by omega
      have HTK : Hid (d.take (i + 1) = d.take i ++ [d.getD i bl0]) := by
        show d.take (i + 1) = d.take i ++ [d.getD i bl0]
        rw [List.take_succ_eq_append_getElem hil, getD_bl hil]
      have HIL : Hid (i = (d.take i).length) := by
        show i = (d.take i).length
        rw [List.length_take]; omega
      have hsm := HS.out i hil
      rcases H.out.2.2.2 with e | ⟨b, off, rfl, hbw, hcl⟩
      · rw [e] at hil
        exact absurd hil (by simp)
      obtain ⟨ta, tn, tc, ca, cn, cc, hblk⟩ := (hcl i hil).below hB hbw
      obtain ⟨⟨K, V, t, R, C, l⟩, hx⟩ : ∃ x, x = d.getD i bl0 := ⟨_, rfl⟩
      rw [← hx] at hblk hsm HTK
      obtain ⟨c0, c1, c2, c3, c4, c5, htx, htb⟩ := hblk
      simp only at c0 c1 c3 c4 htx htb
      obtain ⟨sm1, sm2, sm3⟩ := hsm
      simp only at sm1 sm2 sm3
      have HSM : Hid (∀ k, k < l.length → (l.getD k cl0).2.2.2.2.length ≤ 1000000) := sm3
      have htn : tn ≤ 1000000 := by rw [htx.1]; exact sm1
      have HTX : Hid (Txt wr ta tn tc t) := htx
      have HTB : Hid (Tab wr ca cn cc l) := htb
      clear hcl hx htx htb hB sm3
      go_upto_region 6 with fail
      have bA : Below wr.heap.size wr (wr.alloc (.cells #[.int .i64 K, .int .i64 V, .slice ta tn tc, .int .i64 R, .int .i64 C, .slice ca cn cc] 49)) := (Below.refl _ _).alloc (Nat.le_refl _) _
      have gA : RowAt (wr.alloc (.cells #[.int .i64 K, .int .i64 V, .slice ta tn tc, .int .i64 R, .int .i64 C, .slice ca cn cc] 49)) wr.heap.size #[.int .i64 K, .int .i64 V, .slice ta tn tc, .int .i64 R, .int .i64 C, .slice ca cn cc] 49 := rowAt_new _ _ _
      have sA : wr.heap.size < (wr.alloc (.cells #[.int .i64 K, .int .i64 V, .slice ta tn tc, .int .i64 R, .int .i64 C, .slice ca cn cc] 49)).heap.size := by simp
      clear c0 c1 c2 c3 c4 c5 k0
      generalize wr.alloc (.cells #[.int .i64 K, .int .i64 V, .slice ta tn tc, .int .i64 R, .int .i64 C, .slice ca cn cc] 49) = u0 at bA gA sA ⊢
      have HA : Hid (RowAt u0 wr.heap.size #[.int .i64 K, .int .i64 V, .slice ta tn tc, .int .i64 R, .int .i64 C, .slice ca cn cc] 49) := gA
      have HBA : Hid (Below wr.heap.size wr u0) := bA
      have HTX0 : Hid (Txt u0 ta tn tc t) := HTX.out.below bA
      have k2 : u0.cell? ⟨wr.heap.size, 2, none⟩ = some (.slice ta tn tc) := gA.cell 2
      clear bA gA
      have hE : Own (u0.alloc (.cells #[] 100)) u0.heap.size (.slice (some ⟨u0.heap.size, 0, none⟩) 0 0) [] := Own.emptyNew u0 _ (Nat.le_refl _)
      have HE : Hid (Own (u0.alloc (.cells #[] 100)) u0.heap.size (.slice (some ⟨u0.heap.size, 0, none⟩) 0 0) []) := hE
      have HTX1 : Hid (Txt (u0.alloc (.cells #[] 100)) ta tn tc t) := HTX0.out.below ((Below.refl _ _).alloc (Nat.le_refl _) _)
      have HA1 : Hid (RowAt (u0.alloc (.cells #[] 100)) wr.heap.size #[.int .i64 K, .int .i64 V, .slice ta tn tc, .int .i64 R, .int .i64 C, .slice ca cn cc] 49) := HA.out.alloc _
      have k2' : (u0.alloc (.cells #[] 100)).cell? ⟨wr.heap.size, 2, none⟩ = some (.slice ta tn tc) := HA1.out.cell 2
      clear hE
      go_upto_region 7 with (at_builtin; refine wpList_append_txt rfl (.tmp 19) (.tmp 21) rfl u0.heap.size (.slice (some ⟨u0.heap.size, 0, none⟩) 0 0) 0 [] rfl HE.out ta tn tc t rfl HTX1.out (by omega) (by simp) ?_; intro v' u2 hown hgrow; have ho2 : Own u2 u0.heap.size v' t := (by have e := HTX.out.1; subst e; unfold Own; simpa using hown); obtain ⟨p, q, rfl⟩ := ho2.shapeN HTX.out.1.symm; have A2 := HA1.out.grown hgrow (by simp [Value.ownBlock]; omega); have q1 : u2.cell? ⟨wr.heap.size, 2, none⟩ = some (.slice ta tn tc) := A2.cell 2; have q2 := A2.frozen 2)
      have B2 : Below wr.heap.size wr u2 := (HBA.out.alloc (by omega) _).grown hgrow (by simp; omega) (fun k hk => by simp [Value.ownBlock] at hk; omega)
      have lt2 : ∀ g, (Value.slice p tn q).ownBlock = some g → u0.heap.size ≤ g ∧ g < u2.heap.size := fun g hg => own_lt ho2 hg
      have A3 : RowAt (u2.setCell ⟨wr.heap.size, 2, none⟩ (.slice p tn q)) wr.heap.size #[.int .i64 K, .int .i64 V, .slice p tn q, .int .i64 R, .int .i64 C, .slice ca cn cc] 49 := A2.setCell 2 (.slice p tn q)
      have O3 : Own (u2.setCell ⟨wr.heap.size, 2, none⟩ (.slice p tn q)) u0.heap.size (.slice p tn q) t := own_set ho2 ⟨wr.heap.size, 2, none⟩ (.slice p tn q) (fun e => by have := (lt2 _ e).1; simp at this; omega)
      have B3 : Below wr.heap.size wr (u2.setCell ⟨wr.heap.size, 2, none⟩ (.slice p tn q)) := B2.setCell (Nat.le_refl _) _
      have s3 : u2.heap.size ≤ (u2.setCell ⟨wr.heap.size, 2, none⟩ (.slice p tn q)).heap.size := by simp
      clear q1 q2 A2 ho2 hown hgrow k2 k2' HE HTX1 HA1 HA HBA HTX0 B2
      generalize (u2.setCell ⟨wr.heap.size, 2, none⟩ (.slice p tn q)) = u3 at A3 O3 B3 s3 ⊢
      have HA3 : Hid (RowAt u3 wr.heap.size #[.int .i64 K, .int .i64 V, .slice p tn q, .int .i64 R, .int .i64 C, .slice ca cn cc] 49) := A3
      have HO3 : Hid (Own u3 u0.heap.size (.slice p tn q) t) := O3
      have HB3 : Hid (Below wr.heap.size wr u3) := B3
      have HL2 : Hid (∀ g, (Value.slice p tn q).ownBlock = some g → u0.heap.size ≤ g ∧ g < u2.heap.size) := lt2
      have g3 : u3.cell? ⟨wr.heap.size, 3, none⟩ = some (.int .i64 R) := A3.cell 3
      have g4 : u3.cell? ⟨wr.heap.size, 4, none⟩ = some (.int .i64 C) := A3.cell 4
      have g5 : u3.cell? ⟨wr.heap.size, 5, none⟩ = some (.slice ca cn cc) := A3.cell 5
      have e3 := A3.lt
      have s3' := B3.size
      clear A3 O3 B3 lt2
      go_upto_region 8 with (go_at_call 66; refine (l2Copy_any R C ca cn cc l _ (HTB.out.below HB3.out) sm2 HSM.out).mono ?_; rintro e u4 ⟨⟨a', c', rs, rfl, ho4⟩, hb4⟩; have q3 : u4.cell? ⟨wr.heap.size, 3, none⟩ = some (.int .i64 R) := (HA3.out.below hb4 e3).cell 3; have q4 : u4.cell? ⟨wr.heap.size, 3 + 1, none⟩ = some (.int .i64 C) := (HA3.out.below hb4 e3).cell 4; have q5 : u4.cell? ⟨wr.heap.size, 3 + 2, none⟩ = some (.slice ca cn cc) := (HA3.out.below hb4 e3).cell 5; have f3 := (HA3.out.below hb4 e3).frozen 3; have f4 := (HA3.out.below hb4 e3).frozen (3 + 1); have f5 := (HA3.out.below hb4 e3).frozen (3 + 2))
      have s4 := hb4.size
      have A5 : RowAt (((u4.setCell ⟨wr.heap.size, 3, none⟩ (.int .i64 R)).setCell ⟨wr.heap.size, 3 + 1, none⟩ (.int .i64 C)).setCell ⟨wr.heap.size, 3 + 2, none⟩ (.slice a' l.length c')) wr.heap.size #[.int .i64 K, .int .i64 V, .slice p tn q, .int .i64 R, .int .i64 C, .slice a' l.length c'] 49 := (((HA3.out.below hb4 e3).setCell 3 (.int .i64 R)).setCell 4 (.int .i64 C)).setCell 5 (.slice a' l.length c')
      have B5 : Below wr.heap.size wr (((u4.setCell ⟨wr.heap.size, 3, none⟩ (.int .i64 R)).setCell ⟨wr.heap.size, 3 + 1, none⟩ (.int .i64 C)).setCell ⟨wr.heap.size, 3 + 2, none⟩ (.slice a' l.length c')) := (((HB3.out.trans (hb4.mono s3')).setCell (Nat.le_refl _) _).setCell (Nat.le_refl _) _).setCell (Nat.le_refl _) _
      have HBL : Hid (BlOwn u4 wr.heap.size u3.heap.size u4.heap.size (K, V, (p, tn, q), R, C, (a', l.length, c')) (K, V, t, R, C, l)) := by
        refine ⟨⟨rfl, rfl, rfl, rfl⟩, own_less (HO3.out.below hb4) (by omega), fun g hg => ?_, ⟨rs, ho4, fun g hg => (own_lt ho4.1 hg).2, fun j hj g hg => ho4.2.blockLt j hj g hg⟩, by omega, s4⟩
        have := (HL2.out g hg).2
        omega
      have s5 : u4.heap.size ≤ (((u4.setCell ⟨wr.heap.size, 3, none⟩ (.int .i64 R)).setCell ⟨wr.heap.size, 3 + 1, none⟩ (.int .i64 C)).setCell ⟨wr.heap.size, 3 + 2, none⟩ (.slice a' l.length c')).heap.size := by simp
      have HK5 : Hid (Kept wr.heap.size u4.heap.size u4 (((u4.setCell ⟨wr.heap.size, 3, none⟩ (.int .i64 R)).setCell ⟨wr.heap.size, 3 + 1, none⟩ (.int .i64 C)).setCell ⟨wr.heap.size, 3 + 2, none⟩ (.slice a' l.length c'))) := by
        have r0 := HA3.out.below hb4 e3
        have r1 := r0.setCell 3 (.int .i64 R)
        have r2 := r1.setCell 4 (.int .i64 C)
        exact ((kept_set r0 _ _ _ _).trans (kept_set r1 _ _ _ _)).trans (kept_set r2 _ _ _ _)
      clear q3 q4 q5 f3 f4 f5 g3 g4 g5 ho4 hb4 HO3 HA3 HB3
      generalize (((u4.setCell ⟨wr.heap.size, 3, none⟩ (.int .i64 R)).setCell ⟨wr.heap.size, 3 + 1, none⟩ (.int .i64 C)).setCell ⟨wr.heap.size, 3 + 2, none⟩ (.slice a' l.length c')) = u5 at A5 B5 HK5 s5 ⊢
      have HA5 : Hid (RowAt u5 wr.heap.size #[.int .i64 K, .int .i64 V, .slice p tn q, .int .i64 R, .int .i64 C, .slice a' l.length c'] 49) := A5
      have HB5 : Hid (Below wr.heap.size wr u5) := B5
      have HBL5 : Hid (BlOwn u5 wr.heap.size u3.heap.size u4.heap.size (K, V, (p, tn, q), R, C, (a', l.length, c')) (K, V, t, R, C, l)) := HBL.out.kept HK5.out
      have lz0 := HG0.out.lt
      have lz1 := HG1.out.lt
      have lz2 := HG2.out.lt
      have j0 : u5.cell? ⟨wr.heap.size, 0, none⟩ = some (.int .i64 K) := A5.cell 0
      have j1 : u5.cell? ⟨wr.heap.size, 1, none⟩ = some (.int .i64 V) := A5.cell 1
      have j2 : u5.cell? ⟨wr.heap.size, 2, none⟩ = some (.slice p tn q) := A5.cell 2
      have j3 : u5.cell? ⟨wr.heap.size, 3, none⟩ = some (.int .i64 R) := A5.cell 3
      have j4 : u5.cell? ⟨wr.heap.size, 4, none⟩ = some (.int .i64 C) := A5.cell 4
      have j5 : u5.cell? ⟨wr.heap.size, 5, none⟩ = some (.slice a' l.length c') := A5.cell 5
      have HG25 : Hid (RowAt u5 (w.heap.size + 1 + 1) #[.slice da i dc] 29) := HG2.out.below B5 lz2
      have y0 : u5.cell? ⟨w.heap.size + 1 + 1, 0, none⟩ = some (.slice da i dc) := HG25.out.cell 0
      have HD5 : Hid (DocOwn u5 v0.heap.size wr.heap.size (.slice da i dc) rbs (d.take i)) := HD.out.below (Nat.le_refl _) B5
      have HG05 : Hid (RowAt u5 w.heap.size #[.slice (some ⟨b, off, none⟩) n cap] 29) := HG0.out.below B5 lz0
      have HG15 : Hid (RowAt u5 (w.heap.size + 1) #[.slice none 0 0] 29) := HG1.out.below B5 lz1
      have HW5 : Hid (Below w.heap.size w u5) := HB.out.trans (B5.mono (by omega))
      have hs5 := B5.size
      clear A5 B5 HBL HK5 HA5 HB5 HG0 HG1 HG2 HD HB
      have A6 : Below u5.heap.size u5 (u5.alloc (.cells #[.int .i64 K, .int .i64 V, .slice p tn q, .int .i64 R, .int .i64 C, .slice a' l.length c'] 49)) := (Below.refl _ _).alloc (Nat.le_refl _) _
      have HD6 : Hid (DocOwn (u5.alloc (.cells #[.int .i64 K, .int .i64 V, .slice p tn q, .int .i64 R, .int .i64 C, .slice a' l.length c'] 49)) v0.heap.size wr.heap.size (.slice da i dc) rbs (d.take i)) := HD5.out.below hs5 A6
      have HBL6 : Hid (BlOwn (u5.alloc (.cells #[.int .i64 K, .int .i64 V, .slice p tn q, .int .i64 R, .int .i64 C, .slice a' l.length c'] 49)) wr.heap.size u3.heap.size u4.heap.size (K, V, (p, tn, q), R, C, (a', l.length, c')) (K, V, t, R, C, l)) := HBL5.out.mid (fun b _ hb' => A6.block b (by omega))
      have hrw : (u5.alloc (.cells #[.int .i64 K, .int .i64 V, .slice p tn q, .int .i64 R, .int .i64 C, .slice a' l.length c'] 49)).ownsRow v0.heap.size 49 6 (.slice da i dc) i (flat6 rbs) := by
        have h1 := HD6.out.1
        have h2 := HD6.out.2.2.1
        have h3 := HIL.out
        rw [show rbs.length = i by omega] at h1
        exact h1
      have HRW : Hid ((u5.alloc (.cells #[.int .i64 K, .int .i64 V, .slice p tn q, .int .i64 R, .int .i64 C, .slice a' l.length c'] 49)).ownsRow v0.heap.size 49 6 (.slice da i dc) i (flat6 rbs)) := hrw
      have HG26 : Hid (RowAt (u5.alloc (.cells #[.int .i64 K, .int .i64 V, .slice p tn q, .int .i64 R, .int .i64 C, .slice a' l.length c'] 49)) (w.heap.size + 1 + 1) #[.slice da i dc] 29) := HG25.out.alloc _
      clear hrw
      go_wp2_with (at_builtin; refine wpList_append_own _ rfl (.tmp 29) (.tmp 31) 27 rfl v0.heap.size 49 i0 _ 6 80 Try.underlying27 hi0 hz0 hz1 hz2 rfl (by decide) (.slice da i dc) i (flat6 rbs) rfl HRW.out ⟨u5.heap.size, 0, none⟩ 1 1 [.int .i64 K, .int .i64 V, .slice p tn q, .int .i64 R, .int .i64 C, .slice a' l.length c'] rfl rfl (cells6_new _ _ _ _ _ _ _ _) (rb_one (K, V, (p, tn, q), R, C, (a', l.length, c'))) (by unfold maxLen; omega) (by omega) (by simp; omega) ?_; intro v' u7 hown hgrow _; obtain ⟨da', dc', rfl⟩ := own_shape hown; have hne : ∀ g, (Value.slice da i dc).ownBlock = some g → v0.heap.size ≤ g := (fun g hg => (own_lt HRW.out hg).1); have G27 := HG26.out.grown hgrow (fun e => by have := hne _ e; omega); have q7 : u7.cell? ⟨w.heap.size + 1 + 1, 0, none⟩ = some (.slice da i dc) := G27.cell 0; have f7 := G27.frozen 0)
      have s7 := hgrow.size
      simp only [World.size_alloc] at s7
      have hD7 : DocOwn u7 v0.heap.size u7.heap.size (.slice da' (i + 1) dc') (rbs ++ [(K, V, (p, tn, q), R, C, (a', l.length, c'))]) (d.take i ++ [(K, V, t, R, C, l)]) := docOwn_snoc HD6.out HIL.out HBL6.out hss (by omega) (by omega) hown hgrow
      go_roundw
      case rel =>
        refine ⟨i + 1, da', dc', rbs ++ [(K, V, (p, tn, q), R, C, (a', l.length, c'))], by omega, by go_num, ?_, ?_, G27.setCell 0 _, ?_, by simp; omega, ?_⟩
        · exact ((HG05.out.alloc _).grown hgrow (fun e => by have := hne _ e; omega)).other _ _ (by simp <;> omega)
        · exact ((HG15.out.alloc _).grown hgrow (fun e => by have := hne _ e; omega)).other _ _ (by simp <;> omega)
        · rw [HTK.out]
          exact (hD7.mid (fun b hb hb' => Go.Deep.blk_setCell_other _ _ _ _ (by simp; omega))).less (Nat.le_refl _) (by simp)
        · exact ((HW5.out.alloc (by omega) _).grown hgrow (by simp; omega) (fun k hk => by have := hne _ hk; omega)).setCell (by show _ ≤ w.heap.size + 1 + 1; omega) _
      case measure => simp [intOf]; omega
    · have hib : ¬ (i : Int) < (n : Int) := by omega
      obtain rfl : i = n := by omega
      have e1 : d.take i = d := List.take_of_length_le (by have := HN.out; omega)
      have hD := HD.out
      rw [e1] at hD
      have HDw : Hid (DocOwn wr v0.heap.size wr.heap.size (.slice da i dc) rbs d) := hD
      have k2 : wr.cell? ⟨w.heap.size + 1 + 1, 0, none⟩ = some (.slice da i dc) := HG2.out.cell 0
      clear hD e1
      go_wp2_with (refine wpList_store_row rfl 29 (.tmp 2) (.tmp 34) rfl (w.heap.size + 1) #[.slice da i dc] rfl rfl 29 _ HG1.out docI_info rfl (cells1_one _ _ _) ?_)
      refine bodyPost_ret (v := .agg #[.slice da i dc]) (results_cell_row (p := 2) (ty := 29) rfl _ _ (w.heap.size + 1) 29 _ _ _ rfl (RowAt.setRow HG1.out _) Try.underlying29 rfl docI_info) rfl ⟨⟨da, dc, rfl, rbs, ?_⟩, below_row HB.out (by omega) _⟩
      have sz : (wr.setRow (w.heap.size + 1) #[.slice da i dc]).heap.size = wr.heap.size := by simp [World.setRow]
      rw [sz]
      exact (HDw.out.mid (fun b hb hb' => setRow_other _ _ _ _ (by omega))).less (by omega) (Nat.le_refl _)
end Go.Proofs.Ytlpfflcogefbjaa
