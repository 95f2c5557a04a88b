import Derived.Test.YtbigbbfbikhjdaaBA2
import Derived.Laws.CopyOwn
import Derived.Deep.LoopGhost
import Derived.Deep.Cut
import Derived.Test.YtbigbbfbikhjdaaBD1
import Derived.OwnWalk
import Derived.Test.YtbigbbfbikhjdaaBA1
namespace Go.Proofs.Ytbigbbfbikhjdaa
open Go.RowKit

theorem run_copy_rows {P : Program} (w : World) (dT sT ty elem : TypeId) (size g o dLen dCap : Nat) (a : Addr) (sLen sCap : Nat) (cur : Array Value) (t : TypeId) (cs : List Value)
    (hu : P.underlying dT = some (.slice elem)) (hs : (P.info? elem).map (·.size) = some size)
    (hg : w.heap[g]? = some (.cells cur t (0, 0))) (hn : cs.length = Nat.min sLen dLen * size)
    (hsrc : ∀ j v, cs[j]? = some v → w.cell? (a.add j) = some v) (hfit : o + cs.length ≤ cur.size) (h1 : ∀ v ∈ cs, v.oneCell' = true) :
    (Builtin.copy_ #[dT, sT] ty #[.slice (some ⟨g, o, none⟩) dLen dCap, .slice (some a) sLen sCap]).run P w =
      .ok (goInt (Nat.min sLen dLen)) (w.setRow g (cur.toList.take o ++ cs ++ cur.toList.drop (o + cs.length)).toArray) := by
  have hl := run_loadCells_list (P := P) w a cs hsrc
  have hst := run_storeCells_at P g o t cs 0 cur w hg (by simpa using hfit) h1
  cases hq : P.info? elem with
  | none => simp [hq] at hs
  | some i =>
    have hi : i.size = size := by simpa [hq] using hs
    simp [Builtin.copy_, run_underlying hu, Builtin.lenOf, Builtin.firstCells, sizeOf, typeInfo, hq, hi, ← hn, hl, hst]
theorem run_copy_rows_none {P : Program} (w : World) (dT sT ty elem : TypeId) (size : Nat) (d a : Option Addr) (dLen dCap sLen sCap : Nat) (hu : P.underlying dT = some (.slice elem)) (hs : (P.info? elem).map (·.size) = some size) (hn : Nat.min sLen dLen = 0) :
    (Builtin.copy_ #[dT, sT] ty #[.slice d dLen dCap, .slice a sLen sCap]).run P w = .ok (goInt 0) w := by
  cases hq : P.info? elem with
  | none => simp [hq] at hs
  | some i =>
    cases a <;> cases d <;> simp [Builtin.copy_, run_underlying hu, Builtin.lenOf, Builtin.firstCells, sizeOf, typeInfo, hq, hn, loadCells, loadCellsFrom, storeCells]
theorem splice_get {α : Type} (L : List α) (off : Nat) (cs : List α) (h : off + cs.length ≤ L.length) (i : Nat) : (splice L off cs)[i]? = if i < off then L[i]? else if i < off + cs.length then cs[i - off]? else L[i]? := by
  unfold splice
  have ht : (L.take off).length = off := by simp; omega
  by_cases h1 : i < off
  · rw [if_pos h1, List.getElem?_append_left (by omega), List.getElem?_take_of_lt h1]
  · rw [if_neg h1, List.getElem?_append_right (by omega), ht]
    by_cases h2 : i < off + cs.length
    · rw [if_pos h2, List.getElem?_append_left (by omega)]
    · rw [if_neg h2, List.getElem?_append_right (by omega), List.getElem?_drop]
      congr 1
      omega
/-- copy within a row, elements of several cells: one step of a region that draws its order. -/
theorem step_copy_rows {P : Program} {ops : Array Oper} {o : Oper} {a : Act} {w : World} {K : Act → World → Prop} {Q : Exit → Act → World → Prop} {E : Prop} (hgd : o.guard = none) (d s : Operand) (dT sT : TypeId)
    (ho : o.op = .call { callee := .builtin .copy, args := #[d, s], argTypes := #[dT, sT] }) (elem : TypeId) (size : Nat) (hu : P.underlying dT = some (.slice elem)) (hsz : (P.info? elem).map (·.size) = some size)
    (dp sp : Option Addr) (dLen dCap sLen sCap : Nat) (hd : a.eval d = .slice dp dLen dCap) (hs : a.eval s = .slice sp sLen sCap)
    (g off : Nat) (cur : List Value) (t : TypeId) (hg : w.heap[g]? = some (.cells cur.toArray t (0, 0))) (cs : List Value) (m : Nat) (hm : Nat.min sLen dLen = m) (hn : cs.length = m * size)
    (hpos : 0 < m → dp = some ⟨g, off, none⟩ ∧ ∃ ad, sp = some ad ∧ ∀ j v, cs[j]? = some v → w.cell? (ad.add j) = some v)
    (hfit : off + cs.length ≤ cur.length) (h1 : ∀ v ∈ cs, v.oneCell' = true)
    (h : K (a.put o.dst (goInt m)) (w.setRow g (splice cur off cs).toArray)) :
    if Region.wanted o (yielded ops a.tmps) = true then Oper.wp P o a w K Q else E := by
  have hw : Region.wanted o (yielded ops a.tmps) = true := by simp [Region.wanted, hgd]
  rw [if_pos hw]
  by_cases h0 : m = 0
  · subst h0
    obtain rfl : cs = [] := List.eq_nil_of_length_eq_zero (by simpa using hn)
    have hrun := run_copy_rows_none (P := P) w dT sT o.type elem size dp sp dLen dCap sLen sCap hu hsz hm
    unfold Oper.wp
    simp [execOp, ho, resolve, invoke, builtin, hd, hs, hrun, Result.andThen]
    have e : (splice cur off ([] : List Value)).toArray = cur.toArray := by simp [splice]
    rw [e, setRow_self w g _ _ _ hg] at h
    exact h
  · obtain ⟨rfl, ad, rfl, hsrc⟩ := hpos (by omega)
    have hrun := run_copy_rows (P := P) w dT sT o.type elem size g off dLen dCap ad sLen sCap cur.toArray t cs hu hsz hg (by rw [hm]; exact hn) hsrc (by simpa using hfit) h1
    unfold Oper.wp
    simp [execOp, ho, resolve, invoke, builtin, hd, hs, hrun, Result.andThen, hm]
    have h' : K (a.put o.dst (goInt m)) (w.setRow g (List.take off cur ++ (cs ++ List.drop (off + cs.length) cur)).toArray) := h
    exact h'
end Go.Proofs.Ytbigbbfbikhjdaa
namespace Go.Proofs.Ytbigbbfbikhjdaa
open Go.RowKit

theorem run_loadVar_sub {P : Program} (w : World) (ad : Addr) (ty : TypeId) (cs : List Value) (d : TypeDesc) (hc : ∀ j v, cs[j]? = some v → w.cell? (ad.add j) = some v)
    (hu : P.underlying ty = some d) (hd : (match d with | .struct _ | .array _ _ => true | _ => false) = true) (hi : (P.info? ty).map (·.size) = some cs.length) :
    (loadVar ty ad).run P w = .ok (.agg cs.toArray) w := by
  have hl := run_loadCells_list (P := P) w ad cs hc
  cases hq : P.info? ty with
  | none => simp [hq] at hi
  | some i =>
    have hs : i.size = cs.length := by simpa [hq] using hi
    have hagg : (isAgg ty).run P w = .ok true w := by
      unfold isAgg
      rw [Sem.run_bind, run_underlying hu w]
      cases d <;> simp_all
    simp [loadVar, Sem.run_bind, hagg, sizeOf, typeInfo, hq, hs, hl]
theorem wpList_load_sub {P : Program} {ops : Array Oper} {rest : List Oper} {o : Oper} {a : Act} {w : World} {Q : Exit → Act → World → Prop} (hgd : o.guard = none) (ty : TypeId) (x : Operand) (ho : o.op = .load ty x)
    (ad : Addr) (hx : a.eval x = .pointer (some ad)) (cs : List Value) (d : TypeDesc) (hc : ∀ j v, cs[j]? = some v → w.cell? (ad.add j) = some v)
    (hu : P.underlying ty = some d) (hd : (match d with | .struct _ | .array _ _ => true | _ => false) = true) (hi : (P.info? ty).map (·.size) = some cs.length)
    (h : wpList P ops Q rest (a.put o.dst (.agg cs.toArray)) w) : wpList P ops Q (o :: rest) a w := by
  refine wpList_plain hgd fun K hK => ?_
  unfold Oper.wp execOp
  simp only [ho, hx, Instr.loadAt, Instr.sureAddr, Sem.run_bind, Sem.run_pure, Result.andThen_ok, run_loadVar_sub w ad ty cs d hc hu hd hi]
  exact hK _ _ h
theorem wpList_store_sub {P : Program} {ops : Array Oper} {rest : List Oper} {o : Oper} {a : Act} {w : World} {Q : Exit → Act → World → Prop} (hgd : o.guard = none) (ty : TypeId) (x y : Operand) (ho : o.op = .store ty x y)
    (g off : Nat) (cs : List Value) (hx : a.eval x = .pointer (some ⟨g, off, none⟩)) (hy : a.eval y = .agg cs.toArray)
    (t : TypeId) (cur : List Value) (hg : w.heap[g]? = some (.cells cur.toArray t (0, 0))) (hi : (P.info? ty).map (·.size) = some cs.length)
    (hfit : off + cs.length ≤ cur.length) (h1 : ∀ v ∈ cs, v.oneCell' = true)
    (h : wpList P ops Q rest (a.put o.dst undef) (w.setRow g (splice cur off cs).toArray)) : wpList P ops Q (o :: rest) a w := by
  refine wpList_plain hgd fun K hK => ?_
  have hst := run_storeCells_at P g off t cs 0 cur.toArray w hg (by simpa using hfit) h1
  have hrun : (storeVar ty ⟨g, off, none⟩ (.agg cs.toArray)).run P w = .ok () (w.setRow g (splice cur off cs).toArray) := by
    cases hq : P.info? ty with
    | none => simp [hq] at hi
    | some i =>
      have hs : cs.length = i.size := by simp [hq] at hi; omega
      simp [storeVar, sizeOf, typeInfo, hq, Value.cells, hs.symm, hst, splice]
  unfold Oper.wp execOp
  simp only [ho, hx, hy, Instr.storeAt, Instr.sureAddr, Sem.run_bind, Sem.run_pure, Result.andThen_ok, hrun]
  exact hK _ _ h
/-- Five numbers. -/
def rowL (h : Nat → Nat) : List Value := (List.range 5).map (fun k => Value.int .i64 (h k))
theorem rowL_length (h : Nat → Nat) : (rowL h).length = 5 := by simp [rowL]
theorem rowL_get (h : Nat → Nat) (j : Nat) (hj : j < 5) : (rowL h)[j]? = some (.int .i64 (h j)) := by
  unfold rowL
  rw [List.getElem?_map, List.getElem?_range hj]
  rfl
theorem rowL_one (h : Nat → Nat) : ∀ v ∈ rowL h, v.oneCell' = true := by
  intro v hv
  simp only [rowL, List.mem_map] at hv
  obtain ⟨j, _, rfl⟩ := hv
  rfl
theorem rowL_all (h : Nat → Nat) : (rowL h).toArray.all (·.oneCell') = true := by
  refine Array.all_eq_true_iff_forall_mem.2 ?_
  intro v hv
  exact rowL_one h v (by simpa using hv)
theorem rowL_zero : (rowL (fun _ => 0)).toArray = #[.int .i64 0, .int .i64 0, .int .i64 0, .int .i64 0, .int .i64 0] := by rfl
theorem rowL_set (h : Nat → Nat) (j v : Nat) (hj : j < 5) : (rowL h).toArray.setIfInBounds j (.int .i64 v) = (rowL (upd h j v)).toArray := by
  apply Array.ext_getElem?
  intro i
  rw [Array.getElem?_setIfInBounds]
  simp only [List.size_toArray, rowL_length, List.getElem?_toArray]
  by_cases hij : j = i
  · subst hij
    rw [if_pos rfl, if_pos hj, rowL_get _ _ hj]
    simp [upd]
  · rw [if_neg hij]
    by_cases hi : i < 5
    · rw [rowL_get _ _ hi, rowL_get _ _ hi]
      simp [upd, Ne.symm hij]
    · rw [List.getElem?_eq_none (by rw [rowL_length]; omega), List.getElem?_eq_none (by rw [rowL_length]; omega)]
theorem five_info : (Try.prog.info? 47).map (·.size) = some 5 := by kernel_rfl
theorem int_info : (Try.prog.info? 3).map (·.size) = some 1 := by kernel_rfl
theorem wpList_index_five {w : World} {ops : Array Oper} {rest : List Oper} {o : Oper} {a : Act} {Q : Exit → Act → World → Prop} (hgd : o.guard = none) (x y : Operand) (ho : o.op = .index 47 x y) (h : Nat → Nat) (j : Nat) (hj : j < 5) (hx : a.eval x = .agg (rowL h).toArray) (hy : a.eval y = .int .i64 j)
    (hk : wpList Try.prog ops Q rest (a.put o.dst (.int .i64 (h j))) w) : wpList Try.prog ops Q (o :: rest) a w := by
  refine wpList_plain hgd fun K hK => ?_
  have hr : (Instr.index 47 (.agg (rowL h).toArray) (.int .i64 j)).run Try.prog w = .ok (.int .i64 (h j)) w := by
    have hsz : (sizeOf 3).run Try.prog w = .ok 1 w := by
      have := int_info
      cases hq : Try.prog.info? 3 with
      | none => simp [hq] at this
      | some i =>
        have hs : i.size = 1 := by simpa [hq] using this
        simp [sizeOf, typeInfo, hq, hs]
    simp [Instr.index, asIntOf, run_underlying Try.underlying47 w, part, isAgg, hsz, rowL_get h j hj]
    intro hh
    exact absurd hh (by omega)
  unfold Oper.wp execOp
  simp only [ho, hx, hy, hr, Sem.run_bind, Sem.run_pure, Result.andThen_ok]
  exact hK _ _ hk
end Go.Proofs.Ytbigbbfbikhjdaa
namespace Go.Proofs.Ytbigbbfbikhjdaa
open Go.RowKit

/-- The cells that go over the edge ahead of a row. -/
def thrF (R a : Nat) (f : Nat → Nat) : Nat → Nat := fun k => if a = 0 ∨ a = R then 0 else if f ((a - 1) * 5 + k) = f (a * 5 + k) then f (a * 5 + k) else 0
def thrJ (a j : Nat) (f : Nat → Nat) : Nat → Nat := fun k => if k < j ∧ f ((a - 1) * 5 + k) = f (a * 5 + k) then f (a * 5 + k) else 0
theorem thrJ_zero (a : Nat) (f : Nat → Nat) : thrJ a 0 f = fun _ => 0 := by
  funext k
  simp [thrJ]
theorem rowL_same {h h' : Nat → Nat} (e : ∀ k, k < 5 → h k = h' k) : rowL h = rowL h' := by
  unfold rowL
  apply List.map_congr_left
  intro k hk
  rw [e k (by simpa using hk)]
theorem thrJ_skip (a j : Nat) (f : Nat → Nat) (h : ¬ f ((a - 1) * 5 + j) = f (a * 5 + j)) : thrJ a (j + 1) f = thrJ a j f := by
  funext k
  unfold thrJ
  by_cases hk : k = j
  · subst hk
    rw [if_neg (fun hh => h hh.2), if_neg (fun hh => h hh.2)]
  · by_cases hc : k < j ∧ f ((a - 1) * 5 + k) = f (a * 5 + k)
    · rw [if_pos hc, if_pos ⟨by omega, hc.2⟩]
    · rw [if_neg hc, if_neg (fun hh => hc ⟨by omega, hh.2⟩)]
theorem thrJ_put (a j : Nat) (f : Nat → Nat) (h : f ((a - 1) * 5 + j) = f (a * 5 + j)) : thrJ a (j + 1) f = upd (thrJ a j f) j (f (a * 5 + j)) := by
  funext k
  unfold thrJ upd
  by_cases hk : k = j
  · subst hk
    rw [if_pos rfl, if_pos ⟨by omega, h⟩]
  · rw [if_neg hk]
    show _ = if k < j ∧ f ((a - 1) * 5 + k) = f (a * 5 + k) then f (a * 5 + k) else 0
    by_cases hc : k < j ∧ f ((a - 1) * 5 + k) = f (a * 5 + k)
    · rw [if_pos hc, if_pos ⟨by omega, hc.2⟩]
    · rw [if_neg hc, if_neg (fun hh => hc ⟨by omega, hh.2⟩)]
theorem row_cells {w : World} {b : Nat} {R C : Int} {n a : Nat} {f : Nat → Nat} {t : Nat → Sl} (h : GridAt w b R C n f t) (ha : a < 5) (o : Nat) (ho : o = 3 + a * 5) : ∀ j v, (rowL (fun k => f (a * 5 + k)))[j]? = some v → w.cell? ((⟨b, o, none⟩ : Addr).add j) = some v := by
  intro j v hv
  subst ho
  have hj : j < 5 := by
    have := (List.getElem?_eq_some_iff.1 hv).1
    rwa [rowL_length] at this
  have hadd : (⟨b, 3 + a * 5, none⟩ : Addr).add j = ⟨b, 3 + (a * 5 + j), none⟩ := by
    unfold Addr.add
    simp only [Nat.add_assoc]
    split
    · simp_all
    · rfl
  rw [hadd, h.num _ (by omega), ← rowL_get (fun k => f (a * 5 + k)) j hj]
  exact hv

set_option maxRecDepth 100000 in
set_option maxHeartbeats 4000000 in
theorem through_any (R C n a : Nat) (f : Nat → Nat) (t : Nat → Sl) (w : World) (ha : a ≤ R) (hR : R ≤ 4) :
    Calls Try.prog 54 #[.agg (gridA R C n f t), .int .i64 a] w fun z w' => z = .returned (.agg (rowL (thrF R a f)).toArray) ∧ Below w.heap.size w w' := by
  go_enter Try.func54, Try.ntmps54
  go_upto_region 2 with fail
  rw [← rowL_zero]
  have B0 : Below w.heap.size w (((w.alloc (.cells (gridA R C n f t) 51)).alloc (.cells (rowL (fun _ => 0)).toArray 47)).alloc (.cells (rowL (fun _ => 0)).toArray 47)) := (((Below.refl _ _).alloc (Nat.le_refl _) _).alloc (by simp) _).alloc (by simp; omega) _
  have G0 : GridAt (((w.alloc (.cells (gridA R C n f t) 51)).alloc (.cells (rowL (fun _ => 0)).toArray 47)).alloc (.cells (rowL (fun _ => 0)).toArray 47)) w.heap.size R C n f t := ((gridAt_new w R C n f t).alloc _).alloc _
  have G1 : RowAt (((w.alloc (.cells (gridA R C n f t) 51)).alloc (.cells (rowL (fun _ => 0)).toArray 47)).alloc (.cells (rowL (fun _ => 0)).toArray 47)) (w.heap.size + 1) (rowL (fun _ => 0)).toArray 47 := by
    have := (rowAt_new (w.alloc (.cells (gridA R C n f t) 51)) (rowL (fun _ => 0)).toArray 47).alloc (.cells (rowL (fun _ => 0)).toArray 47)
    simpa using this
  have G2 : RowAt (((w.alloc (.cells (gridA R C n f t) 51)).alloc (.cells (rowL (fun _ => 0)).toArray 47)).alloc (.cells (rowL (fun _ => 0)).toArray 47)) (w.heap.size + 1 + 1) (rowL (fun _ => 0)).toArray 47 := by
    have := rowAt_new ((w.alloc (.cells (gridA R C n f t) 51)).alloc (.cells (rowL (fun _ => 0)).toArray 47)) (rowL (fun _ => 0)).toArray 47
    simpa using this
  generalize (((w.alloc (.cells (gridA R C n f t) 51)).alloc (.cells (rowL (fun _ => 0)).toArray 47)).alloc (.cells (rowL (fun _ => 0)).toArray 47)) = v at B0 G0 G1 G2 ⊢
  have k0 := G0.rows
  have z0 := G0.lt
  have z1 := G1.lt
  have z2 := G2.lt
  have HG : Hid (GridAt v w.heap.size R C n f t) := G0
  have H1 : Hid (RowAt v (w.heap.size + 1) (rowL (fun _ => 0)).toArray 47) := G1
  have H2 : Hid (RowAt v (w.heap.size + 1 + 1) (rowL (fun _ => 0)).toArray 47) := G2
  have HB0 : Hid (Below w.heap.size w v) := B0
  clear G0 G1 G2 B0
  by_cases he : a = 0 ∨ a = R
  · have HE : Hid (rowL (thrF R a f) = rowL (fun _ => 0)) := rowL_same (fun k _ => by unfold thrF; rw [if_pos he])
    by_cases h0 : a = 0
    · have e0 : ((a : Int) == 0) = true := by simp [h0]
      clear h0 he
      go_wp2_with (first | (refine wpList_load_row rfl 47 (.tmp 5) rfl (w.heap.size + 1 + 1) rfl 47 (rowL (fun _ => 0)).toArray (0, 0) _ H2.out Try.underlying47 rfl (by rw [five_info]; simp [rowL_length]) ?_) | (refine wpList_store_row rfl 47 (.tmp 4) (.tmp 16) rfl (w.heap.size + 1) (rowL (fun _ => 0)).toArray rfl rfl 47 _ H1.out (by rw [five_info]; simp [rowL_length]) rfl (rowL_all _) ?_))
      refine bodyPost_ret (v := .agg (rowL (fun _ => 0)).toArray) (results_cell_row (p := 4) (ty := 47) rfl _ _ (w.heap.size + 1) 47 _ _ _ rfl (RowAt.setRow H1.out _) Try.underlying47 rfl (by rw [five_info]; simp [rowL_length])) rfl ⟨by rw [HE.out], below_row HB0.out (by omega) _⟩
    · have e0 : ((a : Int) == 0) = false := by simp [h0]
      have e1 : ((a : Int) == (R : Int)) = true := by simp; omega
      clear h0 he
      go_wp2_with (first | (refine wpList_load_row rfl 47 (.tmp 5) rfl (w.heap.size + 1 + 1) rfl 47 (rowL (fun _ => 0)).toArray (0, 0) _ H2.out Try.underlying47 rfl (by rw [five_info]; simp [rowL_length]) ?_) | (refine wpList_store_row rfl 47 (.tmp 4) (.tmp 16) rfl (w.heap.size + 1) (rowL (fun _ => 0)).toArray rfl rfl 47 _ H1.out (by rw [five_info]; simp [rowL_length]) rfl (rowL_all _) ?_))
      refine bodyPost_ret (v := .agg (rowL (fun _ => 0)).toArray) (results_cell_row (p := 4) (ty := 47) rfl _ _ (w.heap.size + 1) 47 _ _ _ rfl (RowAt.setRow H1.out _) Try.underlying47 rfl (by rw [five_info]; simp [rowL_length])) rfl ⟨by rw [HE.out], below_row HB0.out (by omega) _⟩
  · have HE : Hid (rowL (thrF R a f) = rowL (thrJ a 5 f)) := rowL_same (fun k hk => by
      unfold thrF thrJ
      rw [if_neg he]
      by_cases hc : f ((a - 1) * 5 + k) = f (a * 5 + k)
      · rw [if_pos hc, if_pos ⟨hk, hc⟩]
      · rw [if_neg hc, if_neg (fun hh => hc hh.2)])
    have e0 : ((a : Int) == 0) = false := by simp; omega
    have e1 : ((a : Int) == (R : Int)) = false := by simp; omega
    have b0 : (a : Int) < 5 := by omega
    have b1 : (0 : Int) ≤ (a : Int) - 1 := by omega
    have b2 : (a : Int) - 1 < 5 := by omega
    have a1 : 1 ≤ a := by omega
    have a5 : a < 5 := by omega
    clear he
    obtain ⟨h, HH⟩ : ∃ h, Hid ((fun k => f (a * 5 + k)) = h) := ⟨_, rfl⟩
    have HRC : Hid (∀ j u, (rowL h)[j]? = some u → v.cell? ((⟨w.heap.size, 3 + a * 5, none⟩ : Addr).add j) = some u) := by
      show ∀ j u, (rowL h)[j]? = some u → v.cell? ((⟨w.heap.size, 3 + a * 5, none⟩ : Addr).add j) = some u
      rw [← HH.out]
      exact row_cells HG.out a5 _ rfl
    go_wp2_with (first | (refine wpList_load_sub rfl 47 (.tmp 19) rfl ⟨w.heap.size, 3 + a * 5, none⟩ rfl (rowL h) _ HRC.out Try.underlying47 rfl (by rw [five_info, rowL_length]) ?_))
    go_loopw [21] (fun jv wr => ∃ j : Nat, j ≤ 5 ∧ jv = .int .i64 j ∧ RowAt wr (w.heap.size + 1 + 1) (rowL (thrJ a j f)).toArray 47 ∧ GridAt wr w.heap.size R C n f t ∧ RowAt wr (w.heap.size + 1) (rowL (fun _ => 0)).toArray 47 ∧ Below w.heap.size w wr) (fun jv _ => 5 - (intOf jv).toNat)
    case atStart => exact ⟨0, by omega, rfl, by rw [thrJ_zero]; exact H2.out, HG.out, H1.out, HB0.out⟩
    case round =>
      clear HG H1 H2 HB0 HRC k0
      obtain ⟨j, hj, rfl, hr, hg, h1, hb⟩ := hrel
      have HR : Hid (RowAt wr (w.heap.size + 1 + 1) (rowL (thrJ a j f)).toArray 47) := hr
      have HG : Hid (GridAt wr w.heap.size R C n f t) := hg
      have H1 : Hid (RowAt wr (w.heap.size + 1) (rowL (fun _ => 0)).toArray 47) := h1
      have HB : Hid (Below w.heap.size w wr) := hb
      by_cases hlj : j < 5
      · have k0 := hg.num ((a - 1) * 5 + j) (by omega)
        have c0 : (((a : Int) - 1).toNat) = a - 1 := by omega
        have hj5 : (j : Int) < 5 := by omega
        obtain ⟨x, HXv⟩ : ∃ x, Hid (f ((a - 1) * 5 + j) = x) := ⟨_, rfl⟩
        obtain ⟨y, HYv⟩ : ∃ y, Hid (h j = y) := ⟨_, rfl⟩
        rw [← Nat.add_assoc, HXv.out] at k0
        have r0 : wr.cell? ⟨w.heap.size + 1 + 1, j, none⟩ = some (.int .i64 (thrJ a j f j)) := by
          rw [hr.cell, List.getElem?_toArray, rowL_get _ _ hlj]
        have r1 := hr.frozen j
        have HYa : Hid (f (a * 5 + j) = y) := by
          show f (a * 5 + j) = y
          rw [← HYv.out, ← HH.out]
        clear hr hg h1 hb
        by_cases hxy : x = y
        · have hq : ((x : Int) == (y : Int)) = true := by simp [hxy]
          have HQ : Hid (x = y) := hxy
          clear hxy
          go_wp2_with (refine wpList_index_five rfl (.tmp 20) (.tmp 21) rfl h j hlj rfl rfl ?_; rw [HYv.out])
          go_roundw
          case rel =>
            have eT : thrJ a (j + 1) f = upd (thrJ a j f) j y := by
              rw [thrJ_put a j f (by rw [HXv.out, HYa.out]; exact HQ.out), HYa.out]
            refine ⟨j + 1, by omega, by go_num, ?_, HG.out.other _ _ (by simp; omega), H1.out.other _ _ (by simp), HB.out.setCell (by show w.heap.size ≤ w.heap.size + 1 + 1; omega) _⟩
            rw [eT, ← rowL_set _ _ _ hlj]
            exact HR.out.setCell j (.int .i64 y)
          case measure => simp [intOf]; omega
        · have hq : ((x : Int) == (y : Int)) = false := by simp; omega
          have HQ : Hid (¬ x = y) := hxy
          clear hxy
          go_wp2_with (refine wpList_index_five rfl (.tmp 20) (.tmp 21) rfl h j hlj rfl rfl ?_; rw [HYv.out])
          go_roundw
          case rel =>
            have eT : thrJ a (j + 1) f = thrJ a j f := thrJ_skip a j f (by rw [HXv.out, HYa.out]; exact HQ.out)
            exact ⟨j + 1, by omega, by go_num, by rw [eT]; exact HR.out, HG.out, H1.out, HB.out⟩
          case measure => simp [intOf]; omega
      · obtain rfl : j = 5 := by omega
        clear hr hg h1 hb
        go_wp2_with (first | (refine wpList_load_row rfl 47 (.tmp 5) rfl (w.heap.size + 1 + 1) rfl 47 (rowL (thrJ a 5 f)).toArray (0, 0) _ HR.out Try.underlying47 rfl (by rw [five_info]; simp [rowL_length]) ?_) | (refine wpList_store_row rfl 47 (.tmp 4) (.tmp 38) rfl (w.heap.size + 1) (rowL (thrJ a 5 f)).toArray rfl rfl 47 _ H1.out (by rw [five_info]; simp [rowL_length]) (by simp [rowL_length]) (rowL_all _) ?_))
        refine bodyPost_ret (v := .agg (rowL (thrJ a 5 f)).toArray) (results_cell_row (p := 4) (ty := 47) rfl _ _ (w.heap.size + 1) 47 _ _ _ rfl (RowAt.setRow H1.out _) Try.underlying47 rfl (by rw [five_info]; simp [rowL_length])) rfl ⟨by rw [HE.out], below_row HB.out (by omega) _⟩
end Go.Proofs.Ytbigbbfbikhjdaa
namespace Go.Proofs.Ytbigbbfbikhjdaa
open Go.RowKit

/-- The squares' numbers with a row more; its own are h. -/
def copyF (R a : Nat) (f : Nat → Nat) : Nat → Nat := fun s => if a < s / 5 ∧ s / 5 ≤ R then f (s - 5) else f s
def inF (R a : Nat) (f h : Nat → Nat) : Nat → Nat := fun s => if s / 5 = a then h (s % 5) else copyF R a f s
def headV (R a : Nat) (f : Nat → Nat) : List Value := (List.range ((R - a) * 5)).map (fun j => Value.int .i64 (f (a * 5 + j)))
theorem headV_length (R a : Nat) (f : Nat → Nat) : (headV R a f).length = (R - a) * 5 := by simp [headV]
theorem headV_one (R a : Nat) (f : Nat → Nat) : ∀ v ∈ headV R a f, v.oneCell' = true := by
  intro v hv
  simp only [headV, List.mem_map] at hv
  obtain ⟨j, _, rfl⟩ := hv
  rfl
theorem gridL_get (R C : Int) (n : Nat) (f : Nat → Nat) (t : Nat → Sl) (i : Nat) : (gridL R C n f t)[i]? = (gridA R C n f t)[i]? := by simp [gridA]
theorem gridA_copy (R C n a : Nat) (f : Nat → Nat) (t : Nat → Sl) (ha : a ≤ R) (hR : R ≤ 4) : (splice (gridL R C n f t) (3 + (a + 1) * 5) (headV R a f)).toArray = gridA R C n (copyF R a f) t := by
  apply Array.ext_getElem?
  intro i
  rw [List.getElem?_toArray, splice_get _ _ _ (by rw [gridL_length, headV_length]; omega), headV_length, gridL_get, gridA_get, gridA_get]
  by_cases h1 : i < 3 + (a + 1) * 5
  · rw [if_pos h1]
    by_cases h3 : i < 3
    · match i, h3 with
      | 0, _ => rfl
      | 1, _ => rfl
      | 2, _ => rfl
    · have : copyF R a f (i - 3) = f (i - 3) := by
        unfold copyF
        rw [if_neg (by omega)]
      rw [this]
  · rw [if_neg h1]
    by_cases h2 : i < 3 + (a + 1) * 5 + (R - a) * 5
    · rw [if_pos h2, if_neg (show ¬ i = 0 by omega), if_neg (show ¬ i = 1 by omega), if_neg (show ¬ i = 2 by omega), if_pos (show i < 28 by omega)]
      have : copyF R a f (i - 3) = f (i - 3 - 5) := by
        unfold copyF
        rw [if_pos (by omega)]
      rw [this]
      unfold headV
      rw [List.getElem?_map, List.getElem?_range (by omega)]
      simp only [Option.map_some]
      rw [show a * 5 + (i - (3 + (a + 1) * 5)) = i - 3 - 5 by omega]
    · rw [if_neg h2]
      by_cases h3 : i < 28
      · have : copyF R a f (i - 3) = f (i - 3) := by
          unfold copyF
          rw [if_neg (by omega)]
        rw [this]
      · simp only [if_neg h3, show ¬ i = 0 by omega, show ¬ i = 1 by omega, show ¬ i = 2 by omega, if_false]
theorem gridA_putRow (R C : Int) (n a : Nat) (f h : Nat → Nat) (t : Nat → Sl) (ha : a < 5) : (splice (gridL R C n f t) (3 + a * 5) (rowL h)).toArray = gridA R C n (fun s => if s / 5 = a then h (s % 5) else f s) t := by
  apply Array.ext_getElem?
  intro i
  rw [List.getElem?_toArray, splice_get _ _ _ (by rw [gridL_length, rowL_length]; omega), rowL_length, gridL_get, gridA_get, gridA_get]
  by_cases h1 : i < 3 + a * 5
  · rw [if_pos h1]
    by_cases h3 : i < 3
    · match i, h3 with
      | 0, _ => rfl
      | 1, _ => rfl
      | 2, _ => rfl
    · rw [if_neg (show ¬ (i - 3) / 5 = a by omega)]
  · rw [if_neg h1]
    by_cases h2 : i < 3 + a * 5 + 5
    · rw [if_pos h2, if_neg (show ¬ i = 0 by omega), if_neg (show ¬ i = 1 by omega), if_neg (show ¬ i = 2 by omega), if_pos (show i < 28 by omega), if_pos (show (i - 3) / 5 = a by omega), rowL_get _ _ (by omega), show (i - 3) % 5 = i - (3 + a * 5) by omega]
    · rw [if_neg h2]
      by_cases h3 : i < 28
      · rw [if_neg (show ¬ (i - 3) / 5 = a by omega)]
      · simp only [if_neg h3, show ¬ i = 0 by omega, show ¬ i = 1 by omega, show ¬ i = 2 by omega, if_false]
theorem gridA_set_rowsI (R C : Int) (n : Nat) (R' : Int) (f : Nat → Nat) (t : Nat → Sl) : (gridA R C n f t).setIfInBounds 0 (.int .i64 R') = gridA R' C n f t := by
  apply Array.ext_getElem?
  intro i
  rw [Array.getElem?_setIfInBounds, gridA_get, gridA_get, gridA_size]
  by_cases h : 0 = i
  · subst h; rfl
  · rw [if_neg h]
    by_cases h3 : i = 0
    · exact absurd h3.symm h
    · simp only [if_neg h3]
theorem GridAt.setRowsI {w : World} {b : Nat} {R C : Int} {n : Nat} {f : Nat → Nat} {t : Nat → Sl} (h : GridAt w b R C n f t) (R' : Int) : GridAt (w.setCell ⟨b, 0, none⟩ (.int .i64 R')) b R' C n f t := by
  unfold GridAt
  rw [← gridA_set_rowsI R C n R']
  exact RowAt.setCell h _ _
theorem head_cells {w : World} {b : Nat} {R C n a : Nat} {f : Nat → Nat} {t : Nat → Sl} (h : GridAt w b R C n f t) (hR : R ≤ 4) (o : Nat) (ho : o = 3 + a * 5) : ∀ j v, (headV R a f)[j]? = some v → w.cell? ((⟨b, o, none⟩ : Addr).add j) = some v := by
  intro j v hv
  subst ho
  have hj : j < (R - a) * 5 := by
    have := (List.getElem?_eq_some_iff.1 hv).1
    rwa [headV_length] at this
  have hadd : (⟨b, 3 + a * 5, none⟩ : Addr).add j = ⟨b, 3 + (a * 5 + j), none⟩ := by
    unfold Addr.add
    simp only [Nat.add_assoc]
    split
    · simp_all
    · rfl
  rw [hadd, h.num _ (by omega)]
  unfold headV at hv
  rw [List.getElem?_map, List.getElem?_range hj] at hv
  simpa using hv

set_option maxRecDepth 100000 in
set_option maxHeartbeats 4000000 in
theorem rowIn_any (R C n a : Nat) (f : Nat → Nat) (t : Nat → Sl) (w : World) (ha : a ≤ R) (hR : R ≤ 4) :
    Calls Try.prog 36 #[.agg (gridA R C n f t), .int .i64 a] w fun z w' => z = .returned (.agg (gridA ((R + 1 : Nat) : Int) C n (inF R a f (thrF R a f)) t)) ∧ Below w.heap.size w w' := by
  go_enter Try.func36, Try.ntmps36
  go_upto_region 1 with fail
  rw [← grid_zero]
  have B0 : Below w.heap.size w ((w.alloc (.cells (gridA R C n f t) 51)).alloc (.cells (gridA 0 0 0 (fun _ => 0) (fun _ => sl0)) 51)) := (((Below.refl _ _).alloc (Nat.le_refl _) _).alloc (by simp) _)
  have G0 : GridAt ((w.alloc (.cells (gridA R C n f t) 51)).alloc (.cells (gridA 0 0 0 (fun _ => 0) (fun _ => sl0)) 51)) w.heap.size R C n f t := (gridAt_new w R C n f t).alloc _
  have G1 : GridAt ((w.alloc (.cells (gridA R C n f t) 51)).alloc (.cells (gridA 0 0 0 (fun _ => 0) (fun _ => sl0)) 51)) (w.heap.size + 1) 0 0 0 (fun _ => 0) (fun _ => sl0) := by
    have := gridAt_new (w.alloc (.cells (gridA R C n f t) 51)) 0 0 0 (fun _ => 0) (fun _ => sl0)
    simpa using this
  generalize ((w.alloc (.cells (gridA R C n f t) 51)).alloc (.cells (gridA 0 0 0 (fun _ => 0) (fun _ => sl0)) 51)) = v at B0 G0 G1 ⊢
  have HG : Hid (GridAt v w.heap.size R C n f t) := G0
  have z0 := G0.lt
  have z1 := G1.lt
  obtain ⟨h, HH⟩ : ∃ h, Hid (thrF R a f = h) := ⟨_, rfl⟩
  go_upto_region 2 with (first | (refine wpList_load_row rfl 51 (.tmp 2) rfl w.heap.size rfl 51 (gridA R C n f t) (0, 0) _ HG.out Try.underlying51 rfl (grid_infoA _ _ _ _ _) ?_) | (go_at_call 54; refine (through_any R C n a f t _ ha hR).mono ?_; rintro e w1 ⟨rfl, hb1⟩; rw [HH.out]) | (rw [← rowL_zero]; refine wpList_store_row rfl 47 (.tmp 5) (.tmp 8) rfl w1.heap.size (rowL h).toArray rfl rfl 47 _ (rowAt_new _ _ _) (by rw [five_info]; simp [rowL_length]) (by simp [rowL_length]) (rowL_all _) ?_))
  have s1 := hb1.size
  have B2 : Below v.heap.size v ((w1.alloc (.cells (rowL (fun _ => 0)).toArray 47)).setRow w1.heap.size (rowL h).toArray) := below_row (hb1.alloc s1 _) s1 _
  have T2 : RowAt ((w1.alloc (.cells (rowL (fun _ => 0)).toArray 47)).setRow w1.heap.size (rowL h).toArray) w1.heap.size (rowL h).toArray 47 := RowAt.setRow (rowAt_new _ _ _) _
  generalize ((w1.alloc (.cells (rowL (fun _ => 0)).toArray 47)).setRow w1.heap.size (rowL h).toArray) = v2 at B2 T2 ⊢
  have X0 : GridAt v2 w.heap.size R C n f t := G0.below B2 z0
  have X1 : GridAt v2 (w.heap.size + 1) 0 0 0 (fun _ => 0) (fun _ => sl0) := G1.below B2 z1
  have s2 := B2.size
  have XB : Below w.heap.size w v2 := B0.trans (B2.mono B0.size)
  have k0 := X0.rows
  have hb0 : (a : Int) ≤ 5 := by omega
  have hb1' : (a : Int) ≤ R := by omega
  have hb2 : (R : Int) ≤ 5 := by omega
  have hb3 : (0 : Int) ≤ (a : Int) + 1 := by omega
  have hb4 : (a : Int) + 1 ≤ 5 := by omega
  have hw : IntKind.i64.wrap ((a : Int) + 1) = (a : Int) + 1 := by rw [IntKind.wrap_i64]; omega
  have h5 : ¬ 5 = a := by omega
  have ht : ((a : Int) + 1).toNat = a + 1 := by omega
  have HGX : Hid (GridAt v2 w.heap.size R C n f t) := X0
  have HS : Hid (GridAt (v2.drew.setRow w.heap.size (splice (gridL R C n f t) (3 + (a + 1) * 5) (headV R a f)).toArray) w.heap.size R C n (copyF R a f) t) := by
    show GridAt _ _ _ _ _ _ _
    rw [gridA_copy R C n a f t ha hR]
    exact RowAt.setRow (cs := gridA R C n f t) X0 _
  have HBS : Hid (Below w.heap.size w (v2.drew.setRow w.heap.size (splice (gridL R C n f t) (3 + (a + 1) * 5) (headV R a f)).toArray)) := below_row (XB.trans ((Below.refl _ _).drew)) (Nat.le_refl _) _
  have HZS : Hid (GridAt (v2.drew.setRow w.heap.size (splice (gridL R C n f t) (3 + (a + 1) * 5) (headV R a f)).toArray) (w.heap.size + 1) 0 0 0 (fun _ => 0) (fun _ => sl0)) := (setRow_other v2.drew w.heap.size (w.heap.size + 1) _ (by omega)).trans X1
  have HTS : Hid (RowAt (v2.drew.setRow w.heap.size (splice (gridL R C n f t) (3 + (a + 1) * 5) (headV R a f)).toArray) w1.heap.size (rowL h).toArray 47) := (setRow_other v2.drew w.heap.size w1.heap.size _ (by omega)).trans T2
  clear G0 G1 B0 X0 X1 XB T2 B2 HG
  by_cases h4 : a = 4
  · have h4' : a + 1 = 5 := by omega
    have hw5 : IntKind.i64.wrap 5 = 5 := by decide
    have h4r : (4 : Int) ≤ R := by omega
    go_wp2_with fail
    go_region_held3 (fun w' => w'.cell? ⟨w.heap.size, 0, none⟩ = some (.int .i64 R)) (first | exact HS.out.rows | go_keep)
      (refine step_copy_rows (by rfl) (.tmp 12) (.tmp 17) _ _ (by rfl) 47 5 Try.underlying77 five_info _ _ _ _ _ _ (by rfl) (by rfl) w.heap.size (3 + (a + 1) * 5) (gridL R C n f t) 51 HGX.out (headV R a f) 0 (by simp only [Nat.min_def]; split <;> omega) (by rw [headV_length]; omega) (fun hh => absurd hh (by simp)) (by rw [gridL_length, headV_length]; omega) (headV_one _ _ _) ?_)
    generalize (v2.drew.setRow w.heap.size (splice (gridL R C n f t) (3 + (a + 1) * 5) (headV R a f)).toArray) = v3 at HS HBS HZS HTS ⊢
    have k3 : v3.cell? ⟨w.heap.size, 0, none⟩ = some (.int .i64 R) := HS.out.rows
    have zz := HZS.out.lt
    have a5 : (a : Int) < 5 := by omega
    clear k0
    go_upto_region 4 with (first | (refine wpList_load_row rfl 47 (.tmp 5) rfl w1.heap.size rfl 47 (rowL h).toArray (0, 0) _ HTS.out Try.underlying47 rfl (by rw [five_info]; simp [rowL_length]) ?_) | (refine wpList_store_sub rfl 47 (.tmp 22) (.tmp 20) rfl w.heap.size (3 + a * 5) (rowL h) (by first | rfl | (rw [show 3 + a * 5 = 23 by omega]; rfl)) rfl 51 (gridL R C n (copyF R a f) t) HS.out (by rw [five_info, rowL_length]) (by rw [gridL_length, rowL_length]; omega) (rowL_one h) ?_))
    have Y0 : GridAt (v3.setRow w.heap.size (splice (gridL R C n (copyF R a f) t) (3 + a * 5) (rowL h)).toArray) w.heap.size R C n (inF R a f h) t := by
      rw [gridA_putRow R C n a (copyF R a f) h t (by omega)]
      exact RowAt.setRow (cs := gridA R C n (copyF R a f) t) HS.out _
    have Y1 : Below w.heap.size w (v3.setRow w.heap.size (splice (gridL R C n (copyF R a f) t) (3 + a * 5) (rowL h)).toArray) := below_row HBS.out (Nat.le_refl _) _
    have Y2 : GridAt (v3.setRow w.heap.size (splice (gridL R C n (copyF R a f) t) (3 + a * 5) (rowL h)).toArray) (w.heap.size + 1) 0 0 0 (fun _ => 0) (fun _ => sl0) := (setRow_other v3 w.heap.size (w.heap.size + 1) _ (by omega)).trans HZS.out
    generalize (v3.setRow w.heap.size (splice (gridL R C n (copyF R a f) t) (3 + a * 5) (rowL h)).toArray) = v4 at Y0 Y1 Y2 ⊢
    have k4 := Y0.rows
    have k5 := Y0.frozen 0
    clear k3
    go_upto_region 5 with fail
    have Z0 := Y0.setRowsI ((R : Int) + 1)
    have Z1 := Y1.setCell (p := ⟨w.heap.size, 0, none⟩) (Nat.le_refl _) (.int .i64 ((R : Int) + 1))
    have Z2 := Y2.other ⟨w.heap.size, 0, none⟩ (.int .i64 ((R : Int) + 1)) (by simp)
    clear k4 k5 Y0 Y1 Y2
    generalize (v4.setCell ⟨w.heap.size, 0, none⟩ (.int .i64 ((R : Int) + 1))) = v5 at Z0 Z1 Z2 ⊢
    have HY0 : Hid (GridAt v5 w.heap.size ((R : Int) + 1) C n (inF R a f h) t) := Z0
    have HY2 : Hid (GridAt v5 (w.heap.size + 1) 0 0 0 (fun _ => 0) (fun _ => sl0)) := Z2
    clear Z0 Z2
    go_wp2_with (first | (refine wpList_load_row rfl 51 (.tmp 2) rfl w.heap.size rfl 51 (gridA ((R : Int) + 1) C n (inF R a f h) t) (0, 0) _ HY0.out Try.underlying51 rfl (grid_infoA _ _ _ _ _) ?_) | (refine wpList_store_row rfl 51 (.tmp 4) (.tmp 27) rfl (w.heap.size + 1) (gridA ((R : Int) + 1) C n (inF R a f h) t) rfl rfl 51 _ HY2.out (grid_infoA _ _ _ _ _) (by rw [gridA_size, gridA_size]) (gridA_one _ _ _ _ _) ?_))
    refine bodyPost_ret (v := .agg (gridA ((R : Int) + 1) C n (inF R a f h) t)) (results_cell_row (p := 4) (ty := 51) rfl _ _ (w.heap.size + 1) 51 _ _ _ rfl (RowAt.setRow HY2.out _) Try.underlying51 rfl (grid_infoA _ _ _ _ _)) rfl ⟨?_, below_row Z1 (by omega) _⟩
    rw [HH.out, show ((R + 1 : Nat) : Int) = (R : Int) + 1 by omega]
  · have h4' : ¬ 5 = a + 1 := by omega
    go_wp2_with fail
    go_region_held3 (fun w' => w'.cell? ⟨w.heap.size, 0, none⟩ = some (.int .i64 R)) (first | exact HS.out.rows | go_keep)
      (refine step_copy_rows (by rfl) (.tmp 12) (.tmp 17) _ _ (by rfl) 47 5 Try.underlying77 five_info _ _ _ _ _ _ (by rfl) (by rfl) w.heap.size (3 + (a + 1) * 5) (gridL R C n f t) 51 HGX.out (headV R a f) (R - a) (Nat.min_eq_left (by omega)) (by rw [headV_length]) (fun _ => ⟨rfl, _, rfl, head_cells HGX.out hR _ rfl⟩) (by rw [gridL_length, headV_length]; omega) (headV_one _ _ _) ?_)
    generalize (v2.drew.setRow w.heap.size (splice (gridL R C n f t) (3 + (a + 1) * 5) (headV R a f)).toArray) = v3 at HS HBS HZS HTS ⊢
    have k3 : v3.cell? ⟨w.heap.size, 0, none⟩ = some (.int .i64 R) := HS.out.rows
    have zz := HZS.out.lt
    have a5 : (a : Int) < 5 := by omega
    clear k0
    go_upto_region 4 with (first | (refine wpList_load_row rfl 47 (.tmp 5) rfl w1.heap.size rfl 47 (rowL h).toArray (0, 0) _ HTS.out Try.underlying47 rfl (by rw [five_info]; simp [rowL_length]) ?_) | (refine wpList_store_sub rfl 47 (.tmp 22) (.tmp 20) rfl w.heap.size (3 + a * 5) (rowL h) (by first | rfl | (rw [show 3 + a * 5 = 23 by omega]; rfl)) rfl 51 (gridL R C n (copyF R a f) t) HS.out (by rw [five_info, rowL_length]) (by rw [gridL_length, rowL_length]; omega) (rowL_one h) ?_))
    have Y0 : GridAt (v3.setRow w.heap.size (splice (gridL R C n (copyF R a f) t) (3 + a * 5) (rowL h)).toArray) w.heap.size R C n (inF R a f h) t := by
      rw [gridA_putRow R C n a (copyF R a f) h t (by omega)]
      exact RowAt.setRow (cs := gridA R C n (copyF R a f) t) HS.out _
    have Y1 : Below w.heap.size w (v3.setRow w.heap.size (splice (gridL R C n (copyF R a f) t) (3 + a * 5) (rowL h)).toArray) := below_row HBS.out (Nat.le_refl _) _
    have Y2 : GridAt (v3.setRow w.heap.size (splice (gridL R C n (copyF R a f) t) (3 + a * 5) (rowL h)).toArray) (w.heap.size + 1) 0 0 0 (fun _ => 0) (fun _ => sl0) := (setRow_other v3 w.heap.size (w.heap.size + 1) _ (by omega)).trans HZS.out
    generalize (v3.setRow w.heap.size (splice (gridL R C n (copyF R a f) t) (3 + a * 5) (rowL h)).toArray) = v4 at Y0 Y1 Y2 ⊢
    have k4 := Y0.rows
    have k5 := Y0.frozen 0
    clear k3
    go_upto_region 5 with fail
    have Z0 := Y0.setRowsI ((R : Int) + 1)
    have Z1 := Y1.setCell (p := ⟨w.heap.size, 0, none⟩) (Nat.le_refl _) (.int .i64 ((R : Int) + 1))
    have Z2 := Y2.other ⟨w.heap.size, 0, none⟩ (.int .i64 ((R : Int) + 1)) (by simp)
    clear k4 k5 Y0 Y1 Y2
    generalize (v4.setCell ⟨w.heap.size, 0, none⟩ (.int .i64 ((R : Int) + 1))) = v5 at Z0 Z1 Z2 ⊢
    have HY0 : Hid (GridAt v5 w.heap.size ((R : Int) + 1) C n (inF R a f h) t) := Z0
    have HY2 : Hid (GridAt v5 (w.heap.size + 1) 0 0 0 (fun _ => 0) (fun _ => sl0)) := Z2
    clear Z0 Z2
    go_wp2_with (first | (refine wpList_load_row rfl 51 (.tmp 2) rfl w.heap.size rfl 51 (gridA ((R : Int) + 1) C n (inF R a f h) t) (0, 0) _ HY0.out Try.underlying51 rfl (grid_infoA _ _ _ _ _) ?_) | (refine wpList_store_row rfl 51 (.tmp 4) (.tmp 27) rfl (w.heap.size + 1) (gridA ((R : Int) + 1) C n (inF R a f h) t) rfl rfl 51 _ HY2.out (grid_infoA _ _ _ _ _) (by rw [gridA_size, gridA_size]) (gridA_one _ _ _ _ _) ?_))
    refine bodyPost_ret (v := .agg (gridA ((R : Int) + 1) C n (inF R a f h) t)) (results_cell_row (p := 4) (ty := 51) rfl _ _ (w.heap.size + 1) 51 _ _ _ rfl (RowAt.setRow HY2.out _) Try.underlying51 rfl (grid_infoA _ _ _ _ _)) rfl ⟨?_, below_row Z1 (by omega) _⟩
    rw [HH.out, show ((R + 1 : Nat) : Int) = (R : Int) + 1 by omega]
end Go.Proofs.Ytbigbbfbikhjdaa
namespace Go.Proofs.Ytbigbbfbikhjdaa
open Go.RowKit

/-- A grid's squares, filled up as far as (i, j): what was of a cell stays, each other square is a new cell. -/
def Filled (C : Nat) (f : Nat → Nat) (t : Nat → Sl) (n i j : Nat) (f' : Nat → Nat) (t' : Nat → Sl) (n' : Nat) : Prop :=
  n ≤ n' ∧ n' ≤ 25 ∧ (∀ s, f' s ≤ n') ∧ (∀ k, k ≤ n → t' k = t k) ∧ (∀ k, 1 ≤ k → k ≤ n' → ∃ s, s < 25 ∧ f' s = k) ∧
  (∀ a b, vis i j C a b → f (a * 5 + b) ≠ 0 → f' (a * 5 + b) = f (a * 5 + b)) ∧
  (∀ a b, vis i j C a b → f (a * 5 + b) = 0 → n < f' (a * 5 + b) ∧ t' (f' (a * 5 + b)) = sl0) ∧
  (∀ a b a' b', vis i j C a b → vis i j C a' b' → f (a * 5 + b) = 0 → f' (a * 5 + b) = f' (a' * 5 + b') → a = a' ∧ b = b') ∧
  (∀ a b, b < 5 → ¬ vis i j C a b → f' (a * 5 + b) = f (a * 5 + b))

theorem Filled.row {C : Nat} {f f' : Nat → Nat} {t t' : Nat → Sl} {n n' i : Nat} (h : Filled C f t n i C f' t' n') : Filled C f t n (i + 1) 0 f' t' n' := by
  have e : ∀ a b, vis i C C a b ↔ vis (i + 1) 0 C a b := by
    intro a b
    unfold vis
    omega
  obtain ⟨h1, h2, h3, h4, h5, h6, h7, h8, h9⟩ := h
  refine ⟨h1, h2, h3, h4, h5, ?_, ?_, ?_, ?_⟩
  · intro a b hv
    exact h6 a b ((e a b).2 hv)
  · intro a b hv
    exact h7 a b ((e a b).2 hv)
  · intro a b a' b' hv hv'
    exact h8 a b a' b' ((e a b).2 hv) ((e a' b').2 hv')
  · intro a b hb hv
    exact h9 a b hb (fun hh => hv ((e a b).1 hh))
theorem Filled.skip {C : Nat} {f f' : Nat → Nat} {t t' : Nat → Sl} {n n' i j : Nat} (h : Filled C f t n i j f' t' n') (hC : C ≤ 5) (hj : j < C) (hf : ∀ s, f s ≤ n) (hz : f' (i * 5 + j) ≠ 0) : Filled C f t n i (j + 1) f' t' n' := by
  obtain ⟨h1, h2, h3, h4, h5, h6, h7, h8, h9⟩ := h
  have hnow : f' (i * 5 + j) = f (i * 5 + j) := h9 i j (by omega) (by unfold vis; omega)
  have hv : ∀ a b, vis i (j + 1) C a b → vis i j C a b ∨ (a = i ∧ b = j) := by
    intro a b hh
    unfold vis at hh ⊢
    omega
  refine ⟨h1, h2, h3, h4, h5, ?_, ?_, ?_, ?_⟩
  · intro a b hh hne
    rcases hv a b hh with h | ⟨rfl, rfl⟩
    · exact h6 a b h hne
    · exact hnow
  · intro a b hh he
    rcases hv a b hh with h | ⟨rfl, rfl⟩
    · exact h7 a b h he
    · rw [hnow] at hz
      exact absurd he hz
  · intro a b a' b' hh hh' he hq
    rcases hv a b hh with h | ⟨rfl, rfl⟩
    · rcases hv a' b' hh' with h' | ⟨rfl, rfl⟩
      · exact h8 a b a' b' h h' he hq
      · have := (h7 a b h he).1
        have := hf (a' * 5 + b')
        rw [hnow] at hq
        omega
    · rw [hnow] at hz
      exact absurd he hz
  · intro a b hb hh
    exact h9 a b hb (fun h => hh (by unfold vis at h ⊢; omega))
theorem Filled.lay {C : Nat} {f f' : Nat → Nat} {t t' : Nat → Sl} {n n' i j : Nat} (h : Filled C f t n i j f' t' n') (hC : C ≤ 5) (hi : i < 5) (hj : j < C) (_ : ∀ s, f s ≤ n) (hz : f' (i * 5 + j) = 0) :
    n' < 25 ∧ Filled C f t n i (j + 1) (giveF f' i j 1 1 (n' + 1)) (updS t' (n' + 1) sl0) (n' + 1) := by
  obtain ⟨h1, h2, h3, h4, h5, h6, h7, h8, h9⟩ := h
  have hnow : f' (i * 5 + j) = f (i * 5 + j) := h9 i j (by omega) (by unfold vis; omega)
  have hlt : n' < 25 := by
    have := pigeon f' 25 (List.range (n' + 1)) List.nodup_range (by
      intro x hx
      have hx' : x < n' + 1 := by simpa using hx
      by_cases h0 : x = 0
      · exact ⟨i * 5 + j, by omega, by rw [h0]; exact hz⟩
      · exact h5 x (by omega) (by omega))
    simp at this
    omega
  have hg : ∀ a b, b < 5 → ¬ (a = i ∧ b = j) → giveF f' i j 1 1 (n' + 1) (a * 5 + b) = f' (a * 5 + b) := by
    intro a b hb hne
    unfold giveF
    rw [show (a * 5 + b) / 5 = a from by omega, show (a * 5 + b) % 5 = b from by omega, if_neg (by omega)]
  have hg0 : giveF f' i j 1 1 (n' + 1) (i * 5 + j) = n' + 1 := by
    unfold giveF
    rw [show (i * 5 + j) / 5 = i from by omega, show (i * 5 + j) % 5 = j from by omega, if_pos (by omega)]
  have hv : ∀ a b, vis i (j + 1) C a b → (vis i j C a b ∧ ¬ (a = i ∧ b = j) ∧ b < 5) ∨ (a = i ∧ b = j) := by
    intro a b hh
    unfold vis at hh ⊢
    omega
  refine ⟨hlt, by omega, by omega, ?_, ?_, ?_, ?_, ?_, ?_, ?_⟩
  · intro s
    unfold giveF
    split
    · exact Nat.le_refl _
    · exact Nat.le_succ_of_le (h3 s)
  · intro k hk
    simp only [updS, show ¬ k = n' + 1 from by omega, if_false]
    exact h4 k hk
  · intro k k1 k2
    by_cases hk : k = n' + 1
    · exact ⟨i * 5 + j, by omega, by rw [hg0, hk]⟩
    · obtain ⟨s, s1, s2⟩ := h5 k k1 (by omega)
      refine ⟨s, s1, ?_⟩
      have hne : ¬ (s / 5 = i ∧ s % 5 = j) := by
        rintro ⟨e1, e2⟩
        have : s = i * 5 + j := by omega
        rw [this, hz] at s2
        omega
      have := hg (s / 5) (s % 5) (by omega) hne
      rw [show s / 5 * 5 + s % 5 = s from by omega] at this
      rw [this]
      exact s2
  · intro a b hh hne
    rcases hv a b hh with ⟨h, h', hb⟩ | ⟨rfl, rfl⟩
    · rw [hg a b hb h']
      exact h6 a b h hne
    · rw [← hnow] at hne
      exact absurd hz hne
  · intro a b hh he
    rcases hv a b hh with ⟨h, h', hb⟩ | ⟨rfl, rfl⟩
    · rw [hg a b hb h']
      obtain ⟨q1, q2⟩ := h7 a b h he
      refine ⟨q1, ?_⟩
      have := h3 (a * 5 + b)
      simp only [updS, show ¬ f' (a * 5 + b) = n' + 1 from by omega, if_false]
      exact q2
    · rw [hg0]
      refine ⟨by omega, ?_⟩
      simp only [updS, if_true]
  · intro a b a' b' hh hh' he hq
    rcases hv a b hh with ⟨h, h', hb⟩ | ⟨rfl, rfl⟩
    · rw [hg a b hb h'] at hq
      rcases hv a' b' hh' with ⟨g, g', gb⟩ | ⟨rfl, rfl⟩
      · rw [hg a' b' gb g'] at hq
        exact h8 a b a' b' h g he hq
      · rw [hg0] at hq
        have := h3 (a * 5 + b)
        omega
    · rw [hg0] at hq
      rcases hv a' b' hh' with ⟨g, g', gb⟩ | ⟨rfl, rfl⟩
      · rw [hg a' b' gb g'] at hq
        have := h3 (a' * 5 + b')
        omega
      · exact ⟨rfl, rfl⟩
  · intro a b hb hh
    have hne : ¬ (a = i ∧ b = j) := by
      rintro ⟨rfl, rfl⟩
      exact hh (by unfold vis; omega)
    rw [hg a b hb hne]
    exact h9 a b hb (fun h => hh (by unfold vis at h ⊢; omega))
theorem Filled.start {C : Nat} {f : Nat → Nat} {t : Nat → Sl} {n : Nat} (hn : n ≤ 25) (hf : ∀ s, f s ≤ n) (hs : ∀ k, 1 ≤ k → k ≤ n → ∃ s, s < 25 ∧ f s = k) : Filled C f t n 0 0 f t n := by
  have hv : ∀ a b, ¬ vis 0 0 C a b := by
    intro a b hh
    unfold vis at hh
    omega
  exact ⟨Nat.le_refl _, hn, hf, fun _ _ => rfl, hs, fun a b h => absurd h (hv a b), fun a b h => absurd h (hv a b), fun a b a' b' h => absurd h (hv a b), fun _ _ _ _ => rfl⟩

set_option maxRecDepth 100000 in
set_option maxHeartbeats 4000000 in
theorem fillUp_any (R C n : Nat) (f : Nat → Nat) (t : Nat → Sl) (w : World) (hR : R ≤ 5) (hC : C ≤ 5) (hn : n ≤ 25) (hf : ∀ s, f s ≤ n) (hs : ∀ k, 1 ≤ k → k ≤ n → ∃ s, s < 25 ∧ f s = k) :
    Calls Try.prog 37 #[.agg (gridA R C n f t)] w fun z w' => (∃ f' t' n', z = .returned (.agg (gridA R C n' f' t')) ∧ Filled C f t n R 0 f' t' n') ∧ Below w.heap.size w w' := by
  have HF : Hid (∀ s, f s ≤ n) := hf
  have HS : Hid (Filled C f t n 0 0 f t n) := Filled.start hn hf hs
  clear hf hs
  go_enter Try.func37, Try.ntmps37
  go_upto_region 1 with fail
  rw [← grid_zero]
  have B0 : Below w.heap.size w ((w.alloc (.cells (gridA R C n f t) 51)).alloc (.cells (gridA 0 0 0 (fun _ => 0) (fun _ => sl0)) 51)) := ((Below.refl _ _).alloc (Nat.le_refl _) _).alloc (by simp) _
  have G0 : GridAt ((w.alloc (.cells (gridA R C n f t) 51)).alloc (.cells (gridA 0 0 0 (fun _ => 0) (fun _ => sl0)) 51)) w.heap.size R C n f t := (gridAt_new w R C n f t).alloc _
  have G1 : GridAt ((w.alloc (.cells (gridA R C n f t) 51)).alloc (.cells (gridA 0 0 0 (fun _ => 0) (fun _ => sl0)) 51)) (w.heap.size + 1) 0 0 0 (fun _ => 0) (fun _ => sl0) := by
    have := gridAt_new (w.alloc (.cells (gridA R C n f t) 51)) 0 0 0 (fun _ => 0) (fun _ => sl0)
    simpa using this
  generalize ((w.alloc (.cells (gridA R C n f t) 51)).alloc (.cells (gridA 0 0 0 (fun _ => 0) (fun _ => sl0)) 51)) = v0 at B0 G0 G1 ⊢
  have k0 := G0.rows
  go_wp2_with fail
  go_loopw [7] (fun iv wr => ∃ (i : Nat) (f' : Nat → Nat) (t' : Nat → Sl) (n' : Nat), i ≤ R ∧ iv = .int .i64 i ∧ Filled C f t n i 0 f' t' n' ∧ GridAt wr w.heap.size R C n' f' t' ∧ GridAt wr (w.heap.size + 1) 0 0 0 (fun _ => 0) (fun _ => sl0) ∧ Below w.heap.size w wr) (fun iv _ => R - (intOf iv).toNat)
  case atStart => exact ⟨0, f, t, n, Nat.zero_le _, rfl, HS.out, G0, G1, B0⟩
  case round =>
    clear k0 G0 G1 B0
    obtain ⟨i, f', t', n', hi, rfl, hfl, hg, hz, hb⟩ := hrel
    have HL : Hid (Filled C f t n i 0 f' t' n') := hfl
    have HG : Hid (GridAt wr w.heap.size R C n' f' t') := hg
    have HZ : Hid (GridAt wr (w.heap.size + 1) 0 0 0 (fun _ => 0) (fun _ => sl0)) := hz
    have HB : Hid (Below w.heap.size w wr) := hb
    have g1 := hg.cols
    clear hfl hg hz hb
    by_cases hlt : i < R
    · go_wp2_with fail
      go_loopw [12] (fun jv wr => ∃ (j : Nat) (f' : Nat → Nat) (t' : Nat → Sl) (n' : Nat), j ≤ C ∧ jv = .int .i64 j ∧ Filled C f t n i j f' t' n' ∧ GridAt wr w.heap.size R C n' f' t' ∧ GridAt wr (w.heap.size + 1) 0 0 0 (fun _ => 0) (fun _ => sl0) ∧ Below w.heap.size w wr) (fun jv _ => C - (intOf jv).toNat)
      case atStart => exact ⟨0, f', t', n', Nat.zero_le _, rfl, HL.out, HG.out, HZ.out, HB.out⟩
      case round =>
        clear HL HG HZ HB g1
        obtain ⟨j, f', t', n', hj, rfl, hfl, hg, hz, hb⟩ := hrel
        have HL : Hid (Filled C f t n i j f' t' n') := hfl
        have HG : Hid (GridAt wr w.heap.size R C n' f' t') := hg
        have HZ : Hid (GridAt wr (w.heap.size + 1) 0 0 0 (fun _ => 0) (fun _ => sl0)) := hz
        have HB : Hid (Below w.heap.size w wr) := hb
        have zl := hz.lt
        by_cases hlj : j < C
        · have k1 := hg.num (i * 5 + j) (by omega)
          obtain ⟨x, hx⟩ : ∃ x, f' (i * 5 + j) = x := ⟨_, rfl⟩
          have HX : Hid (f' (i * 5 + j) = x) := hx
          rw [← Nat.add_assoc, hx] at k1
          have b0 : (i : Int) < 5 := by omega
          have b1 : (j : Int) < 5 := by omega
          clear hfl hg hz hb hx
          by_cases h0 : x = 0
          · subst h0
            obtain ⟨hn25, hL⟩ := HL.out.lay hC (by omega) hlj HF.out HX.out
            have HL2 : Hid (Filled C f t n i (j + 1) (giveF f' i j 1 1 (n' + 1)) (updS t' (n' + 1) sl0) (n' + 1)) := hL
            clear hL
            go_wp2_with (first | (refine wpList_load_row rfl 51 (.tmp 1) rfl w.heap.size rfl 51 (gridA R C n' f' t') (0, 0) _ HG.out Try.underlying51 rfl (grid_infoA _ _ _ _ _) ?_) | (go_at_call 52; refine (lay_any R C n' f' t' i j 1 1 sl0 _ (by omega) (by omega) hn25).mono ?_; rintro e w4 ⟨rfl, hb4⟩) | (refine wpList_store_row rfl 51 (.tmp 1) (.tmp 26) rfl w.heap.size (gridA R C (n' + 1) (giveF f' i j 1 1 (n' + 1)) (updS t' (n' + 1) sl0)) rfl rfl 51 _ (HG.out.below hb4 (by omega)) (grid_infoA _ _ _ _ _) (by rw [gridA_size, gridA_size]) (gridA_one _ _ _ _ _) ?_))
            go_roundw
            case rel => exact ⟨j + 1, _, _, n' + 1, by omega, by go_num, HL2.out, RowAt.setRow (HG.out.below hb4 (by omega)) _, RowAt.setRowOther (HZ.out.below hb4 zl) _ _ (by omega), below_row (HB.out.trans (hb4.mono (by omega))) (Nat.le_refl _) _⟩
            case measure => simp [intOf]; omega
          · have n0 : ((x : Int) == 0) = false := by simp; omega
            have HL2 : Hid (Filled C f t n i (j + 1) f' t' n') := HL.out.skip hC hlj HF.out (by rw [HX.out]; exact h0)
            go_wp2_with fail
            go_roundw
            case rel => exact ⟨j + 1, f', t', n', by omega, by go_num, HL2.out, HG.out, HZ.out, HB.out⟩
            case measure => simp [intOf]; omega
        · clear hfl hg hz hb
          go_wp2_with fail
          go_roundw
          case rel =>
            have hh := HL.out
            rw [show j = C from by omega] at hh
            exact ⟨i + 1, f', t', n', by omega, by go_num, hh.row, HG.out, HZ.out, HB.out⟩
          case measure => simp [intOf]; omega
    · have hid : i = R := by omega
      subst hid
      go_wp2_with (first | (refine wpList_load_row rfl 51 (.tmp 1) rfl w.heap.size rfl 51 (gridA i C n' f' t') (0, 0) _ HG.out Try.underlying51 rfl (grid_infoA _ _ _ _ _) ?_) | (refine wpList_store_row rfl 51 (.tmp 2) (.tmp 29) rfl (w.heap.size + 1) (gridA i C n' f' t') rfl rfl 51 _ HZ.out (grid_infoA _ _ _ _ _) (by rw [gridA_size, gridA_size]) (gridA_one _ _ _ _ _) ?_))
      refine bodyPost_ret (v := .agg (gridA i C n' f' t')) (results_cell_row (p := 2) (ty := 51) rfl _ _ (w.heap.size + 1) 51 _ _ _ rfl (RowAt.setRow HZ.out _) Try.underlying51 rfl (grid_infoA _ _ _ _ _)) rfl ⟨⟨f', t', n', rfl, HL.out⟩, ?_⟩
      exact below_row HB.out (by omega) _
end Go.Proofs.Ytbigbbfbikhjdaa
namespace Go.Proofs.Ytbigbbfbikhjdaa
open Go.RowKit

/-- What filling up leaves: what was of a cell stays, each other square has a number of its own. -/
def FillP (C : Nat) (f : Nat → Nat) (n I : Nat) (f2 : Nat → Nat) : Prop :=
  (∀ a b, vis I 0 C a b → f (a * 5 + b) ≠ 0 → f2 (a * 5 + b) = f (a * 5 + b)) ∧ (∀ a b, vis I 0 C a b → f (a * 5 + b) = 0 → n < f2 (a * 5 + b)) ∧
  (∀ a b a' b', vis I 0 C a b → vis I 0 C a' b' → f (a * 5 + b) = 0 → f2 (a * 5 + b) = f2 (a' * 5 + b') → a = a' ∧ b = b')
theorem Filled.fillP {C : Nat} {f f' : Nat → Nat} {t t' : Nat → Sl} {n n' I : Nat} (h : Filled C f t n I 0 f' t' n') : FillP C f n I f' := by
  obtain ⟨h1, h2, h3, h4, h5, h6, h7, h8, h9⟩ := h
  exact ⟨h6, fun a b hv h0 => (h7 a b hv h0).1, h8⟩
theorem fillP_any (C n I : Nat) (f : Nat → Nat) (hC : C ≤ 5) (hn : n ≤ 25) (hf : ∀ s, f s ≤ n) : FillP C f n I (fun s => if f s = 0 then 100 + s else f s) := by
  refine ⟨fun a b _ h0 => if_neg h0, fun a b _ h0 => ?_, fun a b a' b' hv hv' h0 e => ?_⟩
  · simp only [h0, if_true]
    omega
  · simp only [h0, if_true] at e
    have h1 := hf (a' * 5 + b')
    unfold vis at hv hv'
    split at e <;> omega
/-- A cell when a row is put in. -/
def inC (at' : Int) (x : Cl) : Cl := if at' ≤ x.1 then (x.1 + 1, x.2.1, x.2.2.1, x.2.2.2.1, x.2.2.2.2) else if at' < x.1 + x.2.2.1 then (x.1, x.2.1, x.2.2.1 + 1, x.2.2.2.1, x.2.2.2.2) else x
/-- Whether a cell goes through the new row at a column. -/
def overB (at' : Int) (x : Cl) (c : Int) : Bool := decide (x.1 < at' ∧ at' < x.1 + x.2.2.1 ∧ x.2.1 ≤ c ∧ c < x.2.1 + x.2.2.2.1)
def takenB (at' : Int) (l : List Cl) (c : Int) : Bool := l.any (fun x => overB at' x c)
def newI (at' C : Int) (l : List Cl) : List Cl := ((List.range C.toNat).filter (fun c : Nat => !takenB at' l c)).map (fun c : Nat => (at', (c : Int), 1, 1, []))
def inM (at' C : Int) (l : List Cl) : List Cl := l.map (inC at') ++ newI at' C l
def inL (at' C : Int) (l : List Cl) : List Cl := sortC (inM at' C l)
/-- Whether a row can be put in. -/
def rowInB (R C : Int) (l : List Cl) (t' : Int) : Bool := okB R C l && decide (0 ≤ t' ∧ t' ≤ R) && decide (R < 5)
theorem inC_txt (at' : Int) (x : Cl) : (inC at' x).2.2.2.2 = x.2.2.2.2 := by
  unfold inC
  split
  · rfl
  · split <;> rfl
section
variable {R C : Nat} {l : List Cl}
theorem inF_at (f h : Nat → Nat) (a p q : Nat) (hq : q < 5) : inF R a f h (p * 5 + q) = if p = a then h q else if a < p ∧ p ≤ R then f ((p - 1) * 5 + q) else f (p * 5 + q) := by
  unfold inF copyF
  rw [show (p * 5 + q) / 5 = p by omega, show (p * 5 + q) % 5 = q by omega]
  by_cases h1 : p = a
  · rw [if_pos h1, if_pos h1]
  · rw [if_neg h1, if_neg h1]
    by_cases h2 : a < p ∧ p ≤ R
    · rw [if_pos h2, if_pos h2, show p * 5 + q - 5 = (p - 1) * 5 + q by omega]
    · rw [if_neg h2, if_neg h2]
theorem thr_iff (f : Nat → Nat) (a q m : Nat) : thrF R a f q = m + 1 ↔ a ≠ 0 ∧ a ≠ R ∧ f ((a - 1) * 5 + q) = m + 1 ∧ f (a * 5 + q) = m + 1 := by
  unfold thrF
  by_cases h1 : a = 0 ∨ a = R
  · rw [if_pos h1]
    omega
  · rw [if_neg h1]
    by_cases h2 : f ((a - 1) * 5 + q) = f (a * 5 + q)
    · rw [if_pos h2]
      omega
    · rw [if_neg h2]
      omega
/-- A square has the number m + 1 just if it is of cell m. -/
theorem in_iff (h : okB R C l = true) (a m p q : Nat) (ha : a ≤ R) (hm : m < l.length) (hp : p < R + 1) (hq : q < C) : inF R a (numF l l.length) (thrF R a (numF l l.length)) (p * 5 + q) = m + 1 ↔ inB (inC a (l.getD m cl0)) p q = true := by
  obtain ⟨hR, hC, _, _⟩ := gridP_of_okB h
  obtain ⟨r, b, d, g, e, h1, h2, h3, h4⟩ := cell_nat h m hm
  rw [inF_at _ _ a p q (by omega)]
  have hn : ∀ p, numF l l.length (p * 5 + q) = m + 1 ↔ r ≤ p ∧ p < r + d ∧ b ≤ q ∧ q < b + g := by
    intro p
    rw [num_iff h p q m hq, e, inB_cell]
    exact ⟨fun hh => hh.2, fun hh => ⟨hm, hh⟩⟩
  have hrhs : inB (inC a (l.getD m cl0)) p q = true ↔ (if a ≤ r then r + 1 ≤ p ∧ p < r + 1 + d else if a < r + d then r ≤ p ∧ p < r + (d + 1) else r ≤ p ∧ p < r + d) ∧ b ≤ q ∧ q < b + g := by
    generalize (l.getD m cl0).2.2.2.2 = t at e
    rw [e]
    unfold inC
    simp only
    by_cases c1 : a ≤ r
    · rw [if_pos (show (a : Int) ≤ (r : Int) by omega), if_pos c1]
      simp only [inB, decide_eq_true_eq]
      omega
    · rw [if_neg (show ¬ (a : Int) ≤ (r : Int) by omega), if_neg c1]
      by_cases c2 : a < r + d
      · rw [if_pos (show (a : Int) < (r : Int) + (d : Int) by omega), if_pos c2]
        simp only [inB, decide_eq_true_eq]
        omega
      · rw [if_neg (show ¬ (a : Int) < (r : Int) + (d : Int) by omega), if_neg c2]
        simp only [inB, decide_eq_true_eq]
        omega
  rw [hrhs]
  by_cases hpa : p = a
  · rw [if_pos hpa, thr_iff, hn, hn]
    subst hpa
    by_cases c1 : p ≤ r
    · rw [if_pos c1]; omega
    · rw [if_neg c1]
      by_cases c2 : p < r + d
      · rw [if_pos c2]; omega
      · rw [if_neg c2]; omega
  · rw [if_neg hpa]
    by_cases hap : a < p ∧ p ≤ R
    · rw [if_pos hap, hn]
      by_cases c1 : a ≤ r
      · rw [if_pos c1]; omega
      · rw [if_neg c1]
        by_cases c2 : a < r + d
        · rw [if_pos c2]; omega
        · rw [if_neg c2]; omega
    · rw [if_neg hap, hn]
      by_cases c1 : a ≤ r
      · rw [if_pos c1]; omega
      · rw [if_neg c1]
        by_cases c2 : a < r + d
        · rw [if_pos c2]; omega
        · rw [if_neg c2]; omega
theorem inF_le (a k : Nat) : inF R a (numF l l.length) (thrF R a (numF l l.length)) k ≤ l.length := by
  unfold inF copyF thrF
  have h1 := numF_le l l.length (k - 5)
  have h2 := numF_le l l.length k
  have h3 := numF_le l l.length (a * 5 + k % 5)
  split
  · split
    · omega
    · split <;> omega
  · split <;> omega
theorem in_shape (h : okB R C l = true) (a m : Nat) (hm : m < l.length) : ∃ (r b d g : Nat) (t : List Sg), inC a (l.getD m cl0) = ((r : Int), (b : Int), (d : Int), (g : Int), t) ∧ 1 ≤ d ∧ 1 ≤ g ∧ r + d ≤ R + 1 ∧ b + g ≤ C := by
  obtain ⟨r, b, d, g, e, h1, h2, h3, h4⟩ := cell_nat h m hm
  generalize (l.getD m cl0).2.2.2.2 = t at e
  rw [e]
  unfold inC
  simp only
  by_cases c1 : (a : Int) ≤ (r : Int)
  · rw [if_pos c1]
    exact ⟨r + 1, b, d, g, t, by simp, h1, h2, by omega, h4⟩
  · rw [if_neg c1]
    by_cases c2 : (a : Int) < (r : Int) + (d : Int)
    · rw [if_pos c2]
      exact ⟨r, b, d + 1, g, t, by simp, by omega, h2, by omega, h4⟩
    · rw [if_neg c2]
      exact ⟨r, b, d, g, t, rfl, h1, h2, by omega, h4⟩
/-- The new row's squares through which no cell goes have no number. -/
theorem in_zero (h : okB R C l = true) (a q : Nat) (ha : a ≤ R) (hq : q < C) : inF R a (numF l l.length) (thrF R a (numF l l.length)) (a * 5 + q) = 0 ↔ takenB a l q = false := by
  have key : (∃ m, m < l.length ∧ inF R a (numF l l.length) (thrF R a (numF l l.length)) (a * 5 + q) = m + 1) ↔ takenB a l q = true := by
    unfold takenB
    rw [List.any_eq_true]
    constructor
    · rintro ⟨m, hm, e⟩
      refine ⟨_, getD_mem hm, ?_⟩
      rw [in_iff h a m a q ha hm (by omega) hq] at e
      obtain ⟨r, b, d, g, e2, h1, h2, h3, h4⟩ := cell_nat h m hm
      generalize (l.getD m cl0).2.2.2.2 = t at e2
      rw [e2] at e ⊢
      unfold inC at e
      unfold overB
      simp only [decide_eq_true_eq] at e ⊢
      by_cases c1 : (a : Int) ≤ (r : Int)
      · rw [if_pos c1] at e
        simp only [inB, decide_eq_true_eq] at e
        omega
      · rw [if_neg c1] at e
        by_cases c2 : (a : Int) < (r : Int) + (d : Int)
        · rw [if_pos c2] at e
          simp only [inB, decide_eq_true_eq] at e
          omega
        · rw [if_neg c2] at e
          simp only [inB, decide_eq_true_eq] at e
          omega
    · rintro ⟨x, hx, ho⟩
      obtain ⟨m, hm, e⟩ := List.getElem_of_mem hx
      rw [← getD_get hm] at e
      subst e
      refine ⟨m, hm, ?_⟩
      rw [in_iff h a m a q ha hm (by omega) hq]
      obtain ⟨r, b, d, g, e2, h1, h2, h3, h4⟩ := cell_nat h m hm
      generalize (l.getD m cl0).2.2.2.2 = t at e2
      rw [e2] at ho ⊢
      unfold overB at ho
      unfold inC
      simp only [decide_eq_true_eq] at ho ⊢
      rw [if_neg (by omega), if_pos (by omega)]
      simp only [inB, decide_eq_true_eq]
      omega
  have hle := inF_le (R := R) (l := l) a (a * 5 + q)
  rw [← Bool.not_eq_true, ← key]
  constructor
  · rintro e ⟨m, _, e2⟩
    omega
  · intro hno
    rcases Nat.eq_zero_or_pos (inF R a (numF l l.length) (thrF R a (numF l l.length)) (a * 5 + q)) with h0 | h0
    · exact h0
    · exact absurd ⟨_, show inF R a (numF l l.length) (thrF R a (numF l l.length)) (a * 5 + q) - 1 < l.length by omega, by omega⟩ hno
theorem in_zero_row (h : okB R C l = true) (a p q : Nat) (ha : a ≤ R) (hp : p < R + 1) (hq : q < C) (h0 : inF R a (numF l l.length) (thrF R a (numF l l.length)) (p * 5 + q) = 0) : p = a := by
  obtain ⟨hR, hC, _, ht⟩ := gridP_of_okB h
  rcases Nat.lt_trichotomy p a with h1 | h1 | h1
  · rw [inF_at _ _ a p q (by omega), if_neg (by omega), if_neg (by omega)] at h0
    have := (ht p q (by unfold vis; simp; omega)).1
    omega
  · exact h1
  · rw [inF_at _ _ a p q (by omega), if_neg (by omega), if_pos (by omega)] at h0
    have := (ht (p - 1) q (by unfold vis; simp; omega)).1
    omega
/-- Every number is still there. -/
theorem in_used (h : okB R C l = true) (a : Nat) (ha : a ≤ R) (hR4 : R ≤ 4) : ∀ k, 1 ≤ k → k ≤ l.length → ∃ s, s < 25 ∧ inF R a (numF l l.length) (thrF R a (numF l l.length)) s = k := by
  obtain ⟨_, hC, _, _⟩ := gridP_of_okB h
  intro k h1 h2
  obtain ⟨r, b, d, g, t, e, q1, q2, q3, q4⟩ := in_shape h a (k - 1) (by omega)
  refine ⟨r * 5 + b, by omega, ?_⟩
  have := (in_iff h a (k - 1) r b ha (by omega) (by omega) (by omega)).2 (by rw [e, inB_cell]; omega)
  omega
variable {f2 : Nat → Nat}
theorem in_numC (h : okB R C l = true) (a m : Nat) (ha : a ≤ R) (hm : m < l.length) (hF : FillP C (inF R a (numF l l.length) (thrF R a (numF l l.length))) l.length (R + 1) f2) : NumC (R + 1) C f2 (inC a (l.getD m cl0)) (m + 1) := by
  obtain ⟨r, b, d, g, tx, e, q1, q2, q3, q4⟩ := in_shape h a m hm
  refine ⟨r, b, d, g, tx, e, q1, q2, q3, q4, fun p q hp hq => ?_⟩
  have key := in_iff h a m p q ha hm hp hq
  rw [e, inB_cell] at key
  rw [← key]
  obtain ⟨h6, h7, h8⟩ := hF
  have hv : vis (R + 1) 0 C p q := by unfold vis; omega
  by_cases h0 : inF R a (numF l l.length) (thrF R a (numF l l.length)) (p * 5 + q) = 0
  · have := h7 p q hv h0
    omega
  · rw [h6 p q hv h0]
theorem new_numC (h : okB R C l = true) (a c : Nat) (ha : a ≤ R) (hc : c < C) (ht : takenB a l c = false) (hF : FillP C (inF R a (numF l l.length) (thrF R a (numF l l.length))) l.length (R + 1) f2) : NumC (R + 1) C f2 ((a : Int), (c : Int), 1, 1, []) (f2 (a * 5 + c)) := by
  refine ⟨a, c, 1, 1, [], rfl, Nat.le_refl _, Nat.le_refl _, by omega, by omega, fun p q hp hq => ?_⟩
  obtain ⟨h6, h7, h8⟩ := hF
  have h0 := (in_zero h a c ha hc).2 ht
  constructor
  · intro e
    have := h8 a c p q (by unfold vis; omega) (by unfold vis; omega) h0 e.symm
    omega
  · intro hh
    obtain rfl : p = a := by omega
    obtain rfl : q = c := by omega
    rfl
theorem newI_mem {a : Nat} {x : Cl} : x ∈ newI a C l ↔ ∃ c : Nat, c < C ∧ takenB a l c = false ∧ x = ((a : Int), (c : Int), 1, 1, []) := by
  unfold newI
  simp only [List.mem_map, List.mem_filter, List.mem_range, Int.toNat_natCast, Bool.not_eq_true']
  constructor
  · rintro ⟨c, ⟨h1, h2⟩, rfl⟩
    exact ⟨c, h1, h2, rfl⟩
  · rintro ⟨c, h1, h2, rfl⟩
    exact ⟨c, ⟨h1, h2⟩, rfl⟩
theorem tiles_in (h : okB R C l = true) (a : Nat) (ha : a ≤ R) (hF : FillP C (inF R a (numF l l.length) (thrF R a (numF l l.length))) l.length (R + 1) f2) : TilesM (R + 1) C f2 (inM a C l) := by
  refine tilesM_of ?_ ?_ ?_
  · intro x hx
    rcases List.mem_append.1 hx with hx | hx
    · obtain ⟨y, hy, rfl⟩ := List.mem_map.1 hx
      obtain ⟨m, hm, e⟩ := List.getElem_of_mem hy
      rw [← getD_get hm] at e
      subst e
      exact ⟨m + 1, in_numC h a m ha hm hF⟩
    · obtain ⟨c, hc, ht, rfl⟩ := newI_mem.1 hx
      exact ⟨_, new_numC h a c ha hc ht hF⟩
  · intro p q hp hq
    by_cases h0 : inF R a (numF l l.length) (thrF R a (numF l l.length)) (p * 5 + q) = 0
    · obtain rfl := in_zero_row h a p q ha hp hq h0
      refine ⟨((p : Int), (q : Int), 1, 1, []), List.mem_append.2 (.inr (newI_mem.2 ⟨q, hq, (in_zero h p q ha hq).1 h0, rfl⟩)), ?_⟩
      simp [inB]
      omega
    · have hle := inF_le (R := R) (l := l) a (p * 5 + q)
      obtain ⟨m, hm⟩ : ∃ m, inF R a (numF l l.length) (thrF R a (numF l l.length)) (p * 5 + q) = m + 1 := ⟨_, (Nat.succ_pred h0).symm⟩
      have hml : m < l.length := by omega
      exact ⟨_, List.mem_append.2 (.inl (List.mem_map.2 ⟨_, getD_mem hml, rfl⟩)), (in_iff h a m p q ha hml hp hq).1 hm⟩
  · unfold inM
    rw [List.pairwise_append]
    refine ⟨?_, ?_, ?_⟩
    · rw [List.pairwise_map, List.pairwise_iff_getElem]
      intro i k hi hk hik
      rw [← getD_get hi, ← getD_get hk]
      exact ⟨i + 1, k + 1, by omega, in_numC h a i ha hi hF, in_numC h a k ha hk hF⟩
    · unfold newI
      rw [List.pairwise_map]
      have hnd : ((List.range (C : Int).toNat).filter (fun c : Nat => !takenB a l c)).Pairwise (fun x y => x ≠ y) := List.Pairwise.filter _ List.nodup_range
      refine List.Pairwise.imp_of_mem ?_ hnd
      intro c c' hc hc' hne
      simp only [List.mem_filter, List.mem_range, Int.toNat_natCast, Bool.not_eq_true'] at hc hc'
      refine ⟨_, _, ?_, new_numC h a c ha hc.1 hc.2 hF, new_numC h a c' ha hc'.1 hc'.2 hF⟩
      intro e
      obtain ⟨h6, h7, h8⟩ := hF
      exact hne (h8 a c a c' (by unfold vis; omega) (by unfold vis; omega) ((in_zero h a c ha hc.1).2 hc.2) e).2
    · intro x hx y hy
      obtain ⟨z, hz, rfl⟩ := List.mem_map.1 hx
      obtain ⟨m, hm, e⟩ := List.getElem_of_mem hz
      rw [← getD_get hm] at e
      subst e
      obtain ⟨c, hc, ht, rfl⟩ := newI_mem.1 hy
      refine ⟨m + 1, _, ?_, in_numC h a m ha hm hF, new_numC h a c ha hc ht hF⟩
      obtain ⟨h6, h7, h8⟩ := hF
      have := h7 a c (by unfold vis; omega) ((in_zero h a c ha hc).2 ht)
      omega
end
end Go.Proofs.Ytbigbbfbikhjdaa
namespace Go.Proofs.Ytbigbbfbikhjdaa
open Go.RowKit

set_option maxRecDepth 100000 in
set_option maxHeartbeats 8000000 in
theorem implTableRowIn_any (R C t' : Int) (a : Option Addr) (n cap : Nat) (l : List Cl) (w : World) (h : Tab w a n cap l) :
    Calls Try.prog 11 #[.agg #[.int .i64 R, .int .i64 C, .slice a n cap], .int .i64 t'] w fun z w' => TabRes w.heap.size (rowInB R C l t') (R + 1) C (inL t' C l) z w' ∧ Below w.heap.size w w' := by
  have H : Hid (Tab w a n cap l) := h
  clear h
  obtain ⟨ok, HX⟩ : ∃ x, Hid (okB R C l = x) := ⟨_, rfl⟩
  go_enter Try.func11, Try.ntmps11
  go_upto_region 1 with fail
  have B0 : Below w.heap.size w ((w.alloc (.cells #[.int .i64 R, .int .i64 C, .slice a n cap] 25)).alloc (.cells #[.int .i64 0, .int .i64 0, .slice none 0 0] 25)) := ((Below.refl _ _).alloc (Nat.le_refl _) _).alloc (by simp) _
  have G0 : RowAt ((w.alloc (.cells #[.int .i64 R, .int .i64 C, .slice a n cap] 25)).alloc (.cells #[.int .i64 0, .int .i64 0, .slice none 0 0] 25)) w.heap.size #[.int .i64 R, .int .i64 C, .slice a n cap] 25 := (rowAt_new w _ _).alloc _
  have G1 : RowAt ((w.alloc (.cells #[.int .i64 R, .int .i64 C, .slice a n cap] 25)).alloc (.cells #[.int .i64 0, .int .i64 0, .slice none 0 0] 25)) (w.heap.size + 1) #[.int .i64 0, .int .i64 0, .slice none 0 0] 25 := by
    have := rowAt_new (w.alloc (.cells #[.int .i64 R, .int .i64 C, .slice a n cap] 25)) #[.int .i64 0, .int .i64 0, .slice none 0 0] 25
    simpa using this
  have HT : Hid (Tab ((w.alloc (.cells #[.int .i64 R, .int .i64 C, .slice a n cap] 25)).alloc (.cells #[.int .i64 0, .int .i64 0, .slice none 0 0] 25)) a n cap l) := H.out.below B0
  generalize ((w.alloc (.cells #[.int .i64 R, .int .i64 C, .slice a n cap] 25)).alloc (.cells #[.int .i64 0, .int .i64 0, .slice none 0 0] 25)) = v at B0 G0 G1 HT ⊢
  have k0 : v.cell? ⟨w.heap.size, 0, none⟩ = some (.int .i64 R) := G0.cell 0
  have k1 : v.cell? ⟨w.heap.size, 1, none⟩ = some (.int .i64 C) := G0.cell 1
  have k2 : v.cell? ⟨w.heap.size, 2, none⟩ = some (.slice a n cap) := G0.cell 2
  have z0 := G0.lt
  have z1 := G1.lt
  have s0 := B0.size
  have HG0 : Hid (RowAt v w.heap.size #[.int .i64 R, .int .i64 C, .slice a n cap] 25) := G0
  have HG1 : Hid (RowAt v (w.heap.size + 1) #[.int .i64 0, .int .i64 0, .slice none 0 0] 25) := G1
  have HB0 : Hid (Below w.heap.size w v) := B0
  clear G0 G1 B0
  cases ok
  · go_upto_region 2 with (first | (go_at_call 34; refine (gridOf_is HX.out HT.out).mono ?_; rintro e w1 ⟨hres, hb1⟩; rcases hres.symm with ⟨hno, -⟩ | ⟨-, rfl⟩; exact absurd hno (by simp)) | (rw [← grid_zero]; refine wpList_store_row rfl 51 (.tmp 6) (.tmp 11) rfl w1.heap.size (gridA 0 0 0 (fun _ => 0) (fun _ => sl0)) rfl rfl 51 _ (gridAt_new _ _ _ _ _ _) (grid_infoA _ _ _ _ _) (by rw [gridA_size]) (gridA_one _ _ _ _ _) ?_))
    have s1 := hb1.size
    have B2 : Below v.heap.size v ((w1.alloc (.cells (gridA 0 0 0 (fun _ => 0) (fun _ => sl0)) 51)).setRow w1.heap.size (gridA 0 0 0 (fun _ => 0) (fun _ => sl0))) := below_row (hb1.alloc s1 _) s1 _
    generalize ((w1.alloc (.cells (gridA 0 0 0 (fun _ => 0) (fun _ => sl0)) 51)).setRow w1.heap.size (gridA 0 0 0 (fun _ => 0) (fun _ => sl0))) = v2 at B2 ⊢
    have HG2 : Hid (RowAt v2 (w.heap.size + 1) #[.int .i64 0, .int .i64 0, .slice none 0 0] 25) := HG1.out.below B2 z1
    have HNB : Hid (rowInB R C l t' = false) := by
      show rowInB R C l t' = false
      simp only [rowInB, HX.out, Bool.false_and]
    clear k0 k1 k2
    go_wp2_with ((refine wpList_store_row rfl 25 (.tmp 4) (.tmp 32) rfl (w.heap.size + 1) #[.int .i64 0, .int .i64 0, .slice none 0 0] rfl rfl 25 _ HG2.out tab_info rfl (cells3_one _ _ _ _ _) ?_))
    refine bodyPost_ret (v := .tuple #[.agg #[.int .i64 0, .int .i64 0, .slice none 0 0], .bool false]) ?_ rfl ⟨.inl ⟨HNB.out, rfl⟩, below_row (HB0.out.trans (B2.mono s0)) (by omega) _⟩
    rw [results_cell_tmp rfl]
    simp [asAddr, Result.andThen, run_tabOf (RowAt.setRow HG2.out #[.int .i64 0, .int .i64 0, .slice none 0 0])]

  · obtain ⟨hR, hC, hst, -⟩ := gridP_of_okB HX.out
    obtain ⟨R, rfl⟩ : ∃ R' : Nat, R = R' := ⟨R.toNat, by omega⟩
    obtain ⟨C, rfl⟩ : ∃ C' : Nat, C = C' := ⟨C.toNat, by omega⟩
    have hn25 : l.length ≤ 25 := step_le (l := l) (K := l.length) (R := R) (C := C) (by omega) (by omega) hst
    have HST : Hid (∀ k, k < l.length → (l.getD k cl0).2.2.2.2.length ≤ 24) := fun k hk => by
      have := (stepB_of (hst k hk)).2.2
      simp only [textB, Bool.and_eq_true, decide_eq_true_eq] at this
      exact this.1
    clear hst
    go_upto_region 2 with (first | (go_at_call 34; refine (gridOf_is HX.out HT.out).mono ?_; rintro e w1 ⟨(⟨hno, -⟩ | ⟨-, t, rfl, ht1⟩), hb1⟩; exact absurd hno (by simp)) | (rw [← grid_zero]; refine wpList_store_row rfl 51 (.tmp 6) (.tmp 11) rfl w1.heap.size (gridA R C l.length (numF l l.length) t) rfl rfl 51 _ (gridAt_new _ _ _ _ _ _) (grid_infoA _ _ _ _ _) (by rw [gridA_size, gridA_size]) (gridA_one _ _ _ _ _) ?_))
    have s1 := hb1.size
    have B2 : Below v.heap.size v ((w1.alloc (.cells (gridA 0 0 0 (fun _ => 0) (fun _ => sl0)) 51)).setRow w1.heap.size (gridA R C l.length (numF l l.length) t)) := below_row (hb1.alloc s1 _) s1 _
    have B3 : Below w1.heap.size w1 ((w1.alloc (.cells (gridA 0 0 0 (fun _ => 0) (fun _ => sl0)) 51)).setRow w1.heap.size (gridA R C l.length (numF l l.length) t)) := below_row ((Below.refl _ _).alloc (Nat.le_refl _) _) (Nat.le_refl _) _
    have HG : Hid (GridAt ((w1.alloc (.cells (gridA 0 0 0 (fun _ => 0) (fun _ => sl0)) 51)).setRow w1.heap.size (gridA R C l.length (numF l l.length) t)) w1.heap.size R C l.length (numF l l.length) t) := RowAt.setRow (gridAt_new _ _ _ _ _ _) _
    generalize ((w1.alloc (.cells (gridA 0 0 0 (fun _ => 0) (fun _ => sl0)) 51)).setRow w1.heap.size (gridA R C l.length (numF l l.length) t)) = v2 at B2 B3 HG ⊢
    have HTx : Hid (∀ i, i < l.length → Txt v2 (t (i + 1)).1 (t (i + 1)).2.1 (t (i + 1)).2.2 (l.getD i cl0).2.2.2.2) := fun i hi => (ht1 i hi).below B3
    have HG2 : Hid (RowAt v2 (w.heap.size + 1) #[.int .i64 0, .int .i64 0, .slice none 0 0] 25) := HG1.out.below B2 z1
    have q0 : v2.cell? ⟨w.heap.size, 0, none⟩ = some (.int .i64 R) := (HG0.out.below B2 z0).cell 0
    have s2 := B2.size
    clear k0 k1 k2 ht1 hb1 B3
    obtain ⟨N, HN⟩ : ∃ N, Hid (l.length = N) := ⟨_, rfl⟩
    obtain ⟨f, HF⟩ : ∃ f, Hid (numF l l.length = f) := ⟨_, rfl⟩
    rw [HF.out] at HG
    rw [HN.out] at HG hn25
    by_cases hR2 : ¬ R < 5
    · have HS0 : Hid (sizeB ((R : Int) + 1) = false) := decide_eq_false (by omega)
      have HNB : Hid (rowInB R C l t' = false) := by
        show rowInB R C l t' = false
        simp only [rowInB, Bool.and_eq_false_iff, decide_eq_false_iff_not]
        omega
      go_wp2_with (first | (go_at_call 35; refine (sizeOk_is HS0.out _).mono ?_; rintro e w9 ⟨rfl, hw9⟩; subst w9) | (refine wpList_store_row rfl 25 (.tmp 4) (.tmp 32) rfl (w.heap.size + 1) #[.int .i64 0, .int .i64 0, .slice none 0 0] rfl rfl 25 _ HG2.out tab_info rfl (cells3_one _ _ _ _ _) ?_))
      refine bodyPost_ret (v := .tuple #[.agg #[.int .i64 0, .int .i64 0, .slice none 0 0], .bool false]) ?_ rfl ⟨.inl ⟨HNB.out, rfl⟩, below_row (HB0.out.trans (B2.mono s0)) (by omega) _⟩
      rw [results_cell_tmp rfl]
      simp [asAddr, Result.andThen, run_tabOf (RowAt.setRow HG2.out #[.int .i64 0, .int .i64 0, .slice none 0 0])]
    have HS0 : Hid (sizeB ((R : Int) + 1) = true) := decide_eq_true (by omega)
    by_cases ht0 : t' < 0
    · have HNB : Hid (rowInB R C l t' = false) := by
        show rowInB R C l t' = false
        simp only [rowInB, Bool.and_eq_false_iff, decide_eq_false_iff_not]
        omega
      go_wp2_with (first | (go_at_call 35; refine (sizeOk_is HS0.out _).mono ?_; rintro e w9 ⟨rfl, hw9⟩; subst w9) | (refine wpList_store_row rfl 25 (.tmp 4) (.tmp 32) rfl (w.heap.size + 1) #[.int .i64 0, .int .i64 0, .slice none 0 0] rfl rfl 25 _ HG2.out tab_info rfl (cells3_one _ _ _ _ _) ?_))
      refine bodyPost_ret (v := .tuple #[.agg #[.int .i64 0, .int .i64 0, .slice none 0 0], .bool false]) ?_ rfl ⟨.inl ⟨HNB.out, rfl⟩, below_row (HB0.out.trans (B2.mono s0)) (by omega) _⟩
      rw [results_cell_tmp rfl]
      simp [asAddr, Result.andThen, run_tabOf (RowAt.setRow HG2.out #[.int .i64 0, .int .i64 0, .slice none 0 0])]
    by_cases ht1 : (R : Int) < t'
    · have HNB : Hid (rowInB R C l t' = false) := by
        show rowInB R C l t' = false
        simp only [rowInB, Bool.and_eq_false_iff, decide_eq_false_iff_not]
        omega
      go_wp2_with (first | (go_at_call 35; refine (sizeOk_is HS0.out _).mono ?_; rintro e w9 ⟨rfl, hw9⟩; subst w9) | (refine wpList_store_row rfl 25 (.tmp 4) (.tmp 32) rfl (w.heap.size + 1) #[.int .i64 0, .int .i64 0, .slice none 0 0] rfl rfl 25 _ HG2.out tab_info rfl (cells3_one _ _ _ _ _) ?_))
      refine bodyPost_ret (v := .tuple #[.agg #[.int .i64 0, .int .i64 0, .slice none 0 0], .bool false]) ?_ rfl ⟨.inl ⟨HNB.out, rfl⟩, below_row (HB0.out.trans (B2.mono s0)) (by omega) _⟩
      rw [results_cell_tmp rfl]
      simp [asAddr, Result.andThen, run_tabOf (RowAt.setRow HG2.out #[.int .i64 0, .int .i64 0, .slice none 0 0])]
    obtain ⟨p, rfl⟩ : ∃ p : Nat, t' = p := ⟨t'.toNat, by omega⟩
    have hp : p ≤ R := by omega
    have HYB : Hid (rowInB R C l p = true) := by
      show rowInB R C l p = true
      simp only [rowInB, HX.out, Bool.true_and, Bool.and_eq_true, decide_eq_true_eq]
      omega
    have HB2 : Hid (Below v.heap.size v v2) := B2
    clear B2
    have hR4 : R ≤ 4 := by omega
    have HFL : Hid (∀ s, inF R p f (thrF R p f) s ≤ N) := fun s => by rw [← HF.out, ← HN.out]; exact inF_le p s
    have HFU : Hid (∀ k, 1 ≤ k → k ≤ N → ∃ s, s < 25 ∧ inF R p f (thrF R p f) s = k) := by
      show ∀ k, 1 ≤ k → k ≤ N → ∃ s, s < 25 ∧ inF R p f (thrF R p f) s = k
      rw [← HF.out, ← HN.out]
      exact in_used HX.out p hp hR4
    go_wp2_with (first | (go_at_call 35; refine (sizeOk_is HS0.out _).mono ?_; rintro e w9 ⟨rfl, hw9⟩; subst w9) | (refine wpList_load_row rfl 51 (.tmp 6) rfl w1.heap.size rfl 51 (gridA R C N f t) (0, 0) _ HG.out Try.underlying51 rfl (grid_infoA _ _ _ _ _) ?_) | (go_at_call 36; refine (rowIn_any R C N p f t _ hp hR4).mono ?_; rintro e w3 ⟨rfl, hb3⟩) | (go_at_call 37; refine (fillUp_any (R + 1) C N (inF R p f (thrF R p f)) t _ (by omega) (by omega) hn25 HFL.out HFU.out).mono ?_; rintro e w5 ⟨⟨f2, t2, n2, rfl, hF2⟩, hb5⟩))
    have hF3 : Filled C (inF R p (numF l l.length) (thrF R p (numF l l.length))) t l.length (R + 1) 0 f2 t2 n2 := by rw [HF.out, HN.out]; exact hF2
    have hFP := hF3.fillP
    have htl := tiles_in HX.out p hp hFP
    have hrep : Rep (R + 1) C f2 (inL p C l) := rep_sort htl
    have hlen2 : (inL p C l).length ≤ 25 := by
      show (sortC (inM p C l)).length ≤ 25
      rw [(sortC_perm _).length_eq]
      exact htl.few (by omega) (by omega)
    have hle : ∀ k, f2 k ≤ 25 := fun k => Nat.le_trans (hF2.2.2.1 k) hF2.2.1
    have ht : ∀ k, k < (inL p C l).length → Txt w5 (t2 (f2 (stR ((inL p C l).getD k cl0) * 5 + stC ((inL p C l).getD k cl0)))).1 (t2 (f2 (stR ((inL p C l).getD k cl0) * 5 + stC ((inL p C l).getD k cl0)))).2.1 (t2 (f2 (stR ((inL p C l).getD k cl0) * 5 + stC ((inL p C l).getD k cl0)))).2.2 ((inL p C l).getD k cl0).2.2.2.2 ∧ ((inL p C l).getD k cl0).2.2.2.2.length ≤ 1048576 := by
      intro k hk
      have hmem := (sortC_perm (inM p C l)).mem_iff.1 (getD_mem hk)
      rcases List.mem_append.1 hmem with hx | hx
      · obtain ⟨y, hy, e⟩ := List.mem_map.1 hx
        obtain ⟨m, hm, e'⟩ := List.getElem_of_mem hy
        rw [← getD_get hm] at e'
        subst e'
        have e2 := (in_numC HX.out p m hp hm hFP).start
        have e3 : ((inL p C l).getD k cl0).2.2.2.2 = (l.getD m cl0).2.2.2.2 := by
          show ((sortC (inM p C l)).getD k cl0).2.2.2.2 = _
          rw [← e, inC_txt]
        rw [e] at e2
        have e4 : f2 (stR ((inL p C l).getD k cl0) * 5 + stC ((inL p C l).getD k cl0)) = m + 1 := e2
        have hmN : m + 1 ≤ N := by have := HN.out; omega
        rw [e3, e4, hF2.2.2.2.1 (m + 1) hmN]
        have hL := HST.out m hm
        exact ⟨((HTx.out m hm).below hb3).below hb5, by omega⟩
      · obtain ⟨c, hc, htk, e⟩ := newI_mem.1 hx
        have e1 : (inL p C l).getD k cl0 = ((p : Int), (c : Int), 1, 1, []) := e
        rw [e1]
        simp only [stR, stC, Int.toNat_natCast]
        have h0 := (in_zero HX.out p c hp hc).2 htk
        have := (hF3.2.2.2.2.2.2.1 p c (by unfold vis; omega) h0).2
        rw [this]
        exact ⟨⟨rfl, Nat.le_refl _, Nat.zero_le _, .inl rfl⟩, by simp⟩
    refine (table_any (R + 1) C n2 f2 t2 (inL p C l) _ (by omega) (by omega) hle hrep hlen2 ht).mono ?_
    rintro e w4 ⟨⟨a', c', rs, rfl, hO⟩, hb4⟩
    have s3 := hb3.size
    have s5 := hb5.size
    have s4 := hb4.size
    have HG4 : Hid (RowAt w4 (w.heap.size + 1) #[.int .i64 0, .int .i64 0, .slice none 0 0] 25) := ((HG2.out.below hb3 (by omega)).below hb5 (by omega)).below hb4 (by omega)
    have HO : Hid (OwnT w4 w5.heap.size (.slice a' (inL p C l).length c') rs (inL p C l)) := hO
    obtain ⟨X, HXX⟩ : ∃ X, Hid (((R + 1 : Nat) : Int) = X) := ⟨_, rfl⟩
    obtain ⟨M, HM⟩ : ∃ M, Hid ((inL p C l).length = M) := ⟨_, rfl⟩
    rw [HXX.out, HM.out]
    rw [HM.out] at HO
    clear hO hrep ht hlen2 hle hF2 hF3 hFP htl
    go_wp2_with (refine wpList_store_row rfl 25 (.tmp 4) (.tmp 37) rfl (w.heap.size + 1) #[.int .i64 X, .int .i64 C, .slice a' M c'] rfl rfl 25 _ HG4.out tab_info rfl (cells3_one _ _ _ _ _) ?_)
    have bF : Below w.heap.size w w4 := (((HB0.out.trans (HB2.out.mono s0)).trans (hb3.mono (by omega))).trans (hb5.mono (by omega))).trans (hb4.mono (by omega))
    refine bodyPost_ret (v := .tuple #[.agg #[.int .i64 X, .int .i64 C, .slice a' M c'], .bool true]) ?_ rfl ⟨.inr ⟨HYB.out, a', c', rs, ?_, ?_⟩, below_row bF (by omega) _⟩
    · rw [results_cell_tmp rfl]
      simp [asAddr, Result.andThen, run_tabOf (RowAt.setRow HG4.out #[.int .i64 X, .int .i64 C, .slice a' M c'])]
    · rw [HM.out, show (R : Int) + 1 = X by rw [← HXX.out]; omega]
    · rw [HM.out]
      exact OwnT.less (B' := w5.heap.size) ⟨own_row HO.out.1 _ _ (fun e => by have := (own_lt HO.out.1.row e).1; omega), HO.out.2.rowLow _ _ (by omega)⟩ (by omega)
end Go.Proofs.Ytbigbbfbikhjdaa
namespace Go.Proofs.Ytbigbbfbikhjdaa
open Go.RowKit

theorem bool_info : (Try.prog.info? 4).map (fun i => (i.zero, i.size, i.bytes)) = some (some (.bool false), 1, 1) := by kernel_rfl
/-- A row when a row of the table is put in. -/
def inRw (at' : Int) (x : Rw) : Rw := if at' ≤ x.1 then (x.1 + 1, x.2.1, x.2.2.1, x.2.2.2.1, x.2.2.2.2) else if at' < x.1 + x.2.2.1 then (x.1, x.2.1, x.2.2.1 + 1, x.2.2.2.1, x.2.2.2.2) else x
def newRw (at' : Int) (p : Nat → Bool) (j : Nat) : List Rw := ((List.range j).filter (fun c => !p c)).map (fun c : Nat => (at', (c : Int), 1, 1, none, 0, 0))
def newCl (at' : Int) (p : Nat → Bool) (j : Nat) : List Cl := ((List.range j).filter (fun c => !p c)).map (fun c : Nat => (at', (c : Int), 1, 1, []))
theorem newRw_put (at' : Int) (p : Nat → Bool) (j : Nat) (h : p j = false) : newRw at' p (j + 1) = newRw at' p j ++ [(at', (j : Int), 1, 1, none, 0, 0)] := by
  simp [newRw, List.range_succ, List.filter_append, h]
theorem newRw_skip (at' : Int) (p : Nat → Bool) (j : Nat) (h : p j = true) : newRw at' p (j + 1) = newRw at' p j := by
  simp [newRw, List.range_succ, List.filter_append, h]
theorem newCl_put (at' : Int) (p : Nat → Bool) (j : Nat) (h : p j = false) : newCl at' p (j + 1) = newCl at' p j ++ [(at', (j : Int), 1, 1, [])] := by
  simp [newCl, List.range_succ, List.filter_append, h]
theorem newCl_skip (at' : Int) (p : Nat → Bool) (j : Nat) (h : p j = true) : newCl at' p (j + 1) = newCl at' p j := by
  simp [newCl, List.range_succ, List.filter_append, h]
theorem newRw_len (at' : Int) (p : Nat → Bool) (j : Nat) : (newRw at' p j).length ≤ j := by
  unfold newRw
  rw [List.length_map]
  exact Nat.le_trans (List.length_filter_le _ _) (by simp)
theorem taken_take (t' : Int) (l : List Cl) (i : Nat) (h : i < l.length) (c : Int) : takenB t' (l.take (i + 1)) c = (takenB t' (l.take i) c || overB t' (l.getD i cl0) c) := by
  unfold takenB
  rw [List.take_succ_eq_append_getElem h, List.any_append]
  simp [List.getD, h]
theorem txt_nil_cell (w : World) (B : Nat) (t' : Int) (j : Nat) : RwOwn w B (t', (j : Int), 1, 1, none, 0, 0) (t', (j : Int), 1, 1, []) := ⟨rfl, rfl, rfl, rfl, World.ownsRow_nil _ _ _ _⟩

set_option maxRecDepth 100000 in
set_option maxHeartbeats 8000000 in
theorem specTableRowIn_any (R C t' : Int) (a : Option Addr) (n cap : Nat) (l : List Cl) (w : World) (h : Tab w a n cap l) :
    Calls Try.prog 10 #[.agg #[.int .i64 R, .int .i64 C, .slice a n cap], .int .i64 t'] w fun z w' => TabRes w.heap.size (rowInB R C l t') (R + 1) C (inL t' C l) z w' ∧ Below w.heap.size w w' := by
  obtain ⟨i0, hi, hz0, hz1, hz2⟩ := info_parts Try.info45
  obtain ⟨ib, hbi, hbz, hbs, hbb⟩ := info_parts bool_info
  have H : Hid (Tab w a n cap l) := h
  clear h
  obtain ⟨ok, HX⟩ : ∃ x, Hid (okB R C l = x) := ⟨_, rfl⟩
  go_enter Try.func10, Try.ntmps10
  go_upto_region 1 with fail
  have B0 : Below w.heap.size w ((w.alloc (.cells #[.int .i64 R, .int .i64 C, .slice a n cap] 25)).alloc (.cells #[.int .i64 0, .int .i64 0, .slice none 0 0] 25)) := ((Below.refl _ _).alloc (Nat.le_refl _) _).alloc (by simp) _
  have G0 : RowAt ((w.alloc (.cells #[.int .i64 R, .int .i64 C, .slice a n cap] 25)).alloc (.cells #[.int .i64 0, .int .i64 0, .slice none 0 0] 25)) w.heap.size #[.int .i64 R, .int .i64 C, .slice a n cap] 25 := (rowAt_new w _ _).alloc _
  have G1 : RowAt ((w.alloc (.cells #[.int .i64 R, .int .i64 C, .slice a n cap] 25)).alloc (.cells #[.int .i64 0, .int .i64 0, .slice none 0 0] 25)) (w.heap.size + 1) #[.int .i64 0, .int .i64 0, .slice none 0 0] 25 := by
    have := rowAt_new (w.alloc (.cells #[.int .i64 R, .int .i64 C, .slice a n cap] 25)) #[.int .i64 0, .int .i64 0, .slice none 0 0] 25
    simpa using this
  have HT : Hid (Tab ((w.alloc (.cells #[.int .i64 R, .int .i64 C, .slice a n cap] 25)).alloc (.cells #[.int .i64 0, .int .i64 0, .slice none 0 0] 25)) a n cap l) := H.out.below B0
  generalize ((w.alloc (.cells #[.int .i64 R, .int .i64 C, .slice a n cap] 25)).alloc (.cells #[.int .i64 0, .int .i64 0, .slice none 0 0] 25)) = v at B0 G0 G1 HT ⊢
  have k0 : v.cell? ⟨w.heap.size, 0, none⟩ = some (.int .i64 R) := G0.cell 0
  have k1 : v.cell? ⟨w.heap.size, 1, none⟩ = some (.int .i64 C) := G0.cell 1
  have k2 : v.cell? ⟨w.heap.size, 2, none⟩ = some (.slice a n cap) := G0.cell 2
  have s0 := B0.size
  have z0 := G0.lt
  have z1 := G1.lt
  have HG0 : Hid (RowAt v w.heap.size #[.int .i64 R, .int .i64 C, .slice a n cap] 25) := G0
  have HG1 : Hid (RowAt v (w.heap.size + 1) #[.int .i64 0, .int .i64 0, .slice none 0 0] 25) := G1
  have HB0 : Hid (Below w.heap.size w v) := B0
  clear G0 G1 B0
  cases ok
  · have HNB : Hid (rowInB R C l t' = false) := by
      show rowInB R C l t' = false
      simp only [rowInB, HX.out, Bool.false_and]
    go_wp2_with (first | (go_at_call 30; refine (specTableOk_any R C a n cap l _ HT.out).mono ?_; rw [HX.out]; rintro e w1 ⟨rfl, hb1⟩; have HG2 : Hid (RowAt w1 (w.heap.size + 1) #[.int .i64 0, .int .i64 0, .slice none 0 0] 25) := HG1.out.below hb1 z1; have q0 := (hb1.cell (p := ⟨w.heap.size, 0, none⟩) z0).trans k0; have q1 := (hb1.cell (p := ⟨w.heap.size, 1, none⟩) z0).trans k1; have q2 := (hb1.cell (p := ⟨w.heap.size, 2, none⟩) z0).trans k2) | (refine wpList_store_row rfl 25 (.tmp 4) (.tmp 27) rfl (w.heap.size + 1) #[.int .i64 0, .int .i64 0, .slice none 0 0] rfl rfl 25 _ HG2.out tab_info rfl (cells3_one _ _ _ _ _) ?_))
    refine bodyPost_ret (v := .tuple #[.agg #[.int .i64 0, .int .i64 0, .slice none 0 0], .bool false]) ?_ rfl ⟨.inl ⟨HNB.out, rfl⟩, below_row (HB0.out.trans (hb1.mono s0)) (by omega) _⟩
    rw [results_cell_tmp rfl]
    simp [asAddr, Result.andThen, run_tabOf (RowAt.setRow HG2.out #[.int .i64 0, .int .i64 0, .slice none 0 0])]
  · have hg := gridP_of_okB HX.out
    obtain ⟨hR, hC, -, -⟩ := hg
    have hl25 : l.length ≤ 25 := (formB_of (show formB R C l = true by have := HX.out; simp only [okB, Bool.and_eq_true] at this; exact this.1)).2.2.1
    have HTL : Hid (∀ k, k < l.length → (l.getD k cl0).2.2.2.2.length ≤ 1000000) := fun k hk => by
      have := (stepB_of ((gridP_of_okB HX.out).2.2.1 k hk)).2.2
      simp only [textB, Bool.and_eq_true, decide_eq_true_eq] at this
      omega
    have HN : Hid (n = l.length) := H.out.1
    by_cases hin : 0 ≤ t' ∧ t' ≤ R
    case neg =>
      have HS0 : Hid (decide (0 ≤ t' ∧ t' ≤ R) = false) := decide_eq_false hin
      have HNB : Hid (rowInB R C l t' = false) := by
        show rowInB R C l t' = false
        simp only [rowInB, Bool.and_eq_false_iff, decide_eq_false_iff_not]
        omega
      go_wp2_with (first | (go_at_call 30; refine (specTableOk_any R C a n cap l _ HT.out).mono ?_; rw [HX.out]; rintro e w1 ⟨rfl, hb1⟩; have HG2 : Hid (RowAt w1 (w.heap.size + 1) #[.int .i64 0, .int .i64 0, .slice none 0 0] 25) := HG1.out.below hb1 z1; have q0 := (hb1.cell (p := ⟨w.heap.size, 0, none⟩) z0).trans k0; have q1 := (hb1.cell (p := ⟨w.heap.size, 1, none⟩) z0).trans k1; have q2 := (hb1.cell (p := ⟨w.heap.size, 2, none⟩) z0).trans k2) | (go_at_call 31; refine (l6In_of HS0.out _).mono ?_; rintro e w9 ⟨rfl, hw9⟩; subst w9) | (refine wpList_store_row rfl 25 (.tmp 4) (.tmp 27) rfl (w.heap.size + 1) #[.int .i64 0, .int .i64 0, .slice none 0 0] rfl rfl 25 _ HG2.out tab_info rfl (cells3_one _ _ _ _ _) ?_))
      refine bodyPost_ret (v := .tuple #[.agg #[.int .i64 0, .int .i64 0, .slice none 0 0], .bool false]) ?_ rfl ⟨.inl ⟨HNB.out, rfl⟩, below_row (HB0.out.trans (hb1.mono s0)) (by omega) _⟩
      rw [results_cell_tmp rfl]
      simp [asAddr, Result.andThen, run_tabOf (RowAt.setRow HG2.out #[.int .i64 0, .int .i64 0, .slice none 0 0])]
    have HS0 : Hid (decide (0 ≤ t' ∧ t' ≤ R) = true) := decide_eq_true hin
    by_cases hR2 : 5 ≤ R
    · have HNB : Hid (rowInB R C l t' = false) := by
        show rowInB R C l t' = false
        simp only [rowInB, Bool.and_eq_false_iff, decide_eq_false_iff_not]
        omega
      go_wp2_with (first | (go_at_call 30; refine (specTableOk_any R C a n cap l _ HT.out).mono ?_; rw [HX.out]; rintro e w1 ⟨rfl, hb1⟩; have HG2 : Hid (RowAt w1 (w.heap.size + 1) #[.int .i64 0, .int .i64 0, .slice none 0 0] 25) := HG1.out.below hb1 z1; have q0 := (hb1.cell (p := ⟨w.heap.size, 0, none⟩) z0).trans k0; have q1 := (hb1.cell (p := ⟨w.heap.size, 1, none⟩) z0).trans k1; have q2 := (hb1.cell (p := ⟨w.heap.size, 2, none⟩) z0).trans k2) | (go_at_call 31; refine (l6In_of HS0.out _).mono ?_; rintro e w9 ⟨rfl, hw9⟩; subst w9) | (refine wpList_store_row rfl 25 (.tmp 4) (.tmp 27) rfl (w.heap.size + 1) #[.int .i64 0, .int .i64 0, .slice none 0 0] rfl rfl 25 _ HG2.out tab_info rfl (cells3_one _ _ _ _ _) ?_))
      refine bodyPost_ret (v := .tuple #[.agg #[.int .i64 0, .int .i64 0, .slice none 0 0], .bool false]) ?_ rfl ⟨.inl ⟨HNB.out, rfl⟩, below_row (HB0.out.trans (hb1.mono s0)) (by omega) _⟩
      rw [results_cell_tmp rfl]
      simp [asAddr, Result.andThen, run_tabOf (RowAt.setRow HG2.out #[.int .i64 0, .int .i64 0, .slice none 0 0])]
    have HYB : Hid (rowInB R C l t' = true) := by
      show rowInB R C l t' = true
      simp only [rowInB, HX.out, Bool.true_and, Bool.and_eq_true, decide_eq_true_eq]
      omega
    have hok := HX.out
    obtain ⟨C, rfl⟩ : ∃ C' : Nat, C = C' := ⟨C.toNat, by omega⟩
    clear hok
    have HT1 := HT
    go_upto_region 3 with (first | (go_at_call 30; refine (specTableOk_any R C a n cap l _ HT.out).mono ?_; rw [HX.out]; rintro e w1 ⟨rfl, hb1⟩; have HG2 : Hid (RowAt w1 (w.heap.size + 1) #[.int .i64 0, .int .i64 0, .slice none 0 0] 25) := HG1.out.below hb1 z1; have q0 := (hb1.cell (p := ⟨w.heap.size, 0, none⟩) z0).trans k0; have q1 := (hb1.cell (p := ⟨w.heap.size, 1, none⟩) z0).trans k1; have q2 := (hb1.cell (p := ⟨w.heap.size, 2, none⟩) z0).trans k2) | (go_at_call 31; refine (l6In_of HS0.out _).mono ?_; rintro e w9 ⟨rfl, hw9⟩; subst w9))
    clear k0 k1 k2
    have s1 := hb1.size
    have HT2 : Hid (Tab w1 a n cap l) := HT.out.below hb1
    go_upto_region 4 with (go_at_call 32; refine (l2Copy_any R C a n cap l _ HT2.out (by omega) HTL.out).mono ?_; rintro e w2 ⟨⟨al, cl, rs, rfl, hOl⟩, hb2⟩)
    have s2 := hb2.size
    have HRL : Hid (rs.length = l.length) := hOl.2.1
    have HRN : Hid (∀ k, k < rs.length → (0 ≤ (rs.getD k rw0).1 ∧ (rs.getD k rw0).1 ≤ 5) ∧ (1 ≤ (rs.getD k rw0).2.2.1 ∧ (rs.getD k rw0).2.2.1 ≤ 5) ∧ (0 ≤ (rs.getD k rw0).2.1 ∧ 1 ≤ (rs.getD k rw0).2.2.2.1 ∧ (rs.getD k rw0).2.1 + (rs.getD k rw0).2.2.2.1 ≤ C)) := fun k hk => by
      obtain ⟨e0, e1, e2, e3, -⟩ := hOl.2.2.1 k hk
      have hk' : k < l.length := by rw [← HRL.out]; exact hk
      have := wiB_of (stepB_of ((gridP_of_okB HX.out).2.2.1 k hk')).1
      rw [e0, e1, e2, e3]
      omega
    have HRE : Hid (∀ k, k < rs.length → (rs.getD k rw0).1 = (l.getD k cl0).1 ∧ (rs.getD k rw0).2.1 = (l.getD k cl0).2.1 ∧ (rs.getD k rw0).2.2.1 = (l.getD k cl0).2.2.1 ∧ (rs.getD k rw0).2.2.2.1 = (l.getD k cl0).2.2.2.1) := fun k hk => by
      obtain ⟨e0, e1, e2, e3, -⟩ := hOl.2.2.1 k hk
      exact ⟨e0, e1, e2, e3⟩
    obtain ⟨N, hN⟩ : ∃ N, l.length = N := ⟨_, rfl⟩
    have HNN : Hid (l.length = N) := hN
    rw [hN] at hOl hl25 ⊢
    clear hN
    have R2 : RowAt (w2.alloc (.cells #[.int .i64 R, .int .i64 C, .slice al N cl] 25)) w2.heap.size #[.int .i64 R, .int .i64 C, .slice al N cl] 25 := rowAt_new _ _ _
    have B2 : Below w1.heap.size w1 (w2.alloc (.cells #[.int .i64 R, .int .i64 C, .slice al N cl] 25)) := hb2.alloc s2 _
    have O2 : OwnT (w2.alloc (.cells #[.int .i64 R, .int .i64 C, .slice al N cl] 25)) w1.heap.size (.slice al N cl) rs l := hOl.below ((Below.refl _ _).alloc (Nat.le_refl _) _)
    generalize (w2.alloc (.cells #[.int .i64 R, .int .i64 C, .slice al N cl] 25)) = v2 at R2 B2 O2 ⊢
    have r0 := (B2.cell (p := ⟨w.heap.size, 0, none⟩) (by show w.heap.size < w1.heap.size; omega)).trans q0
    have r1 := (B2.cell (p := ⟨w.heap.size, 1, none⟩) (by show w.heap.size < w1.heap.size; omega)).trans q1
    have f0 := R2.cell 0
    have f1 := R2.frozen 0
    have sv2 := B2.size
    have z2 := R2.lt
    have HQ1 : Hid (w1.cell? ⟨w.heap.size, 1, none⟩ = some (.int .i64 C)) := q1
    clear q0 q1 q2 hb2 hOl
    have f0' : v2.cell? ⟨w2.heap.size, 0, none⟩ = some (.int .i64 R) := f0
    clear f0
    go_upto_region 5 with fail
    have R3 : RowAt (v2.setCell ⟨w2.heap.size, 0, none⟩ (.int .i64 (R + 1))) w2.heap.size #[.int .i64 (R + 1), .int .i64 C, .slice al N cl] 25 := R2.setCell 0 (.int .i64 (R + 1))
    have B3 : Below w1.heap.size w1 (v2.setCell ⟨w2.heap.size, 0, none⟩ (.int .i64 (R + 1))) := B2.setCell (p := ⟨w2.heap.size, 0, none⟩) s2 _
    have hneG : (Value.slice al N cl).ownBlock ≠ some w2.heap.size := rowAt_ne R2 O2.1.row (by decide)
    have O3 : OwnT (v2.setCell ⟨w2.heap.size, 0, none⟩ (.int .i64 (R + 1))) w1.heap.size (.slice al N cl) rs l := ⟨own_set O2.1 _ _ hneG, O2.2.1, fun k hk => by
      obtain ⟨h0, h1, h2, h3, h4⟩ := O2.2.2.1 k hk
      exact ⟨h0, h1, h2, h3, own_set h4 _ _ (rowAt_ne R2 h4 (by decide))⟩, O2.2.2.2⟩
    have r3 : (v2.setCell ⟨w2.heap.size, 0, none⟩ (.int .i64 (R + 1))).cell? ⟨w.heap.size, 1, none⟩ = some (.int .i64 C) := (World.cell?_of_block (w := v2) (Below.heap_setCell v2 ⟨w2.heap.size, 0, none⟩ _ w.heap.size (by show w.heap.size ≠ w2.heap.size; omega))).trans r1
    clear f0' f1 r0 r1 R2 B2 O2
    generalize (v2.setCell ⟨w2.heap.size, 0, none⟩ (.int .i64 (R + 1))) = v3 at R3 B3 O3 r3 ⊢
    have sv3 := B3.size
    have z3 := R3.lt
    go_upto_region 7 with (at_make; refine wpList_make_full _ rfl (.tmp 35) (.tmp 35) 43 rfl w1.heap.size 4 ib (.bool false) 1 Try.underlying43 hbi hbz hbs .i64 .i64 C C C rfl rfl rfl rfl (by rw [hbb]; omega) (by unfold maxLen; omega) sv3 ?_; intro w4 hmk hgk)
    rw [made_bools] at hmk
    have B4 : Below v3.heap.size v3 w4 := ⟨hgk.os, hgk.tape, hgk.output, hgk.size, fun k hk => hgk.block k hk (by simp)⟩
    have sv4 := B4.size
    have R4 : RowAt w4 w2.heap.size #[.int .i64 (R + 1), .int .i64 C, .slice al N cl] 25 := R3.below B4 z3
    have O4 : OwnT w4 w1.heap.size (.slice al N cl) rs l := O3.below B4
    have W4 : Below w1.heap.size w1 w4 := B3.trans (B4.mono sv3)
    have r4 : w4.cell? ⟨w.heap.size, 1, none⟩ = some (.int .i64 C) := (B4.cell (p := ⟨w.heap.size, 1, none⟩) (by show w.heap.size < v3.heap.size; omega)).trans r3
    obtain ⟨T, hTe⟩ : ∃ T, v3.heap.size = T := ⟨_, rfl⟩
    rw [hTe] at hmk ⊢
    have hTw : w2.heap.size < T := by omega
    clear R3 B3 O3 r3 r4 B4 hgk
    go_wp2_with fail
    go_loopw [8] (fun iv wr => ∃ i : Nat, i ≤ N ∧ iv = .int .i64 i ∧ RowAt wr w2.heap.size #[.int .i64 (R + 1), .int .i64 C, .slice al N cl] 25 ∧ OwnT wr w1.heap.size (.slice al N cl) (mix (inRw t') rs i) (mix (inC t') l i) ∧ wr.ownsRow w1.heap.size 4 1 (.slice (some ⟨T, 0, none⟩) C C) C (boolL C (fun c : Nat => takenB t' (l.take i) c)) ∧ Below w1.heap.size w1 wr ∧ w4.heap.size ≤ wr.heap.size) (fun iv _ => N - (intOf iv).toNat)
    case atStart => exact ⟨0, Nat.zero_le _, rfl, R4, by rw [mix_zero, mix_zero]; exact O4, by simpa [takenB] using hmk, W4, Nat.le_refl _⟩
    case round =>
      clear R4 O4 hmk W4
      obtain ⟨i, hin', rfl, hR', hO', hK', hb', hs'⟩ := hrel
      have HRo : Hid (RowAt wr w2.heap.size #[.int .i64 (R + 1), .int .i64 C, .slice al N cl] 25) := hR'
      have HO : Hid (OwnT wr w1.heap.size (.slice al N cl) (mix (inRw t') rs i) (mix (inC t') l i)) := hO'
      have HK : Hid (wr.ownsRow w1.heap.size 4 1 (.slice (some ⟨T, 0, none⟩) C C) C (boolL C (fun c : Nat => takenB t' (l.take i) c))) := hK'
      have HB : Hid (Below w1.heap.size w1 wr) := hb'
      have hTl : T < wr.heap.size := (own_lt hK' rfl).2
      have zG := hR'.lt
      by_cases hlt : i < N
      · have hir : i < rs.length := by have := HRL.out; have := HNN.out; omega
        have hil : i < l.length := by have := HNN.out; omega
        obtain ⟨⟨n0, n1⟩, ⟨n2, n3⟩, n4, n5, n6⟩ := HRN.out i hir
        have hre := HRE.out i hir
        obtain ⟨⟨xr, xc, xd, xg, xa, xn, xq⟩, hx⟩ : ∃ x, x = rs.getD i rw0 := ⟨_, rfl⟩
        have HXr : Hid (rs.getD i rw0 = (xr, xc, xd, xg, xa, xn, xq)) := hx.symm
        rw [← hx] at n0 n1 n2 n3 n4 n5 n6 hre
        simp only at n0 n1 n2 n3 n4 n5 n6 hre
        have HRe : Hid (xr = (l.getD i cl0).1 ∧ xc = (l.getD i cl0).2.1 ∧ xd = (l.getD i cl0).2.2.1 ∧ xg = (l.getD i cl0).2.2.2.1) := hre
        clear hre
        obtain ⟨xc, rfl⟩ : ∃ c' : Nat, xc = c' := ⟨xc.toNat, by omega⟩
        obtain ⟨xg, rfl⟩ : ∃ c' : Nat, xg = c' := ⟨xg.toNat, by omega⟩
        rcases hO'.1.row.2 with ⟨hv, hz⟩ | ⟨g, cap', cur, hv, hgB, -⟩
        · exfalso; omega
        simp only [Value.slice.injEq, true_and] at hv
        obtain ⟨rfl, hcc⟩ := hv
        clear hcc
        have hrow := hO'.1.row
        have hml : i < (mix (inRw t') rs i).length := by rw [mix_len]; exact hir
        have hxl := hrow.1
        have hgT : g ≠ T := fun e => own_kinds hrow hK' (by decide) T rfl (by rw [e]; rfl)
        have hgG : g ≠ w2.heap.size := fun e => rowAt_ne hR' hrow (by decide) (by rw [e]; rfl)
        have hglt : g < wr.heap.size := (own_lt hrow rfl).2
        have hcl := hO'.1.rws.2.1
        have hcm := hO'.1.rws.2.2.1
        unfold maxLen at hcm
        have cell : ∀ j, j < 5 → wr.cell? ⟨g, i * 5 + j, none⟩ = (rwCells (xr, (xc : Int), xd, (xg : Int), xa, xn, xq))[j]? := fun j hj => by
          rw [hrow.cellAt (i * 5 + j) (by omega), flat5_get _ i j hml hj, mix_at _ _ _ _ hir, ← hx]
        have x0 : wr.cell? ⟨g, i * 5, none⟩ = some (.int .i64 xr) := cell 0 (by omega)
        have x1 : wr.cell? ⟨g, i * 5 + 1, none⟩ = some (.int .i64 xc) := cell 1 (by omega)
        have x2 : wr.cell? ⟨g, i * 5 + 2, none⟩ = some (.int .i64 xd) := cell 2 (by omega)
        have x3 : wr.cell? ⟨g, i * 5 + 3, none⟩ = some (.int .i64 xg) := cell 3 (by omega)
        have x4 : wr.cell? ⟨g, i * 5 + 4, none⟩ = some (.slice xa xn xq) := cell 4 (by omega)
        have fz0 := hrow.frozenAt (i * 5)
        have fz2 := hrow.frozenAt (i * 5 + 2)
        have k2 : wr.cell? ⟨w2.heap.size, 2, none⟩ = some (.slice (some ⟨g, 0, none⟩) N cl) := hR'.cell 2
        clear cell hR' hO' hK' hb' hrow hx hxl
        go_upto_region 10 with fail
        have bA : Below wr.heap.size wr (wr.alloc (.cells #[.int .i64 xr, .int .i64 xc, .int .i64 xd, .int .i64 xg, .slice xa xn xq] 45)) := (Below.refl _ _).alloc (Nat.le_refl _) _
        have RA : RowAt (wr.alloc (.cells #[.int .i64 xr, .int .i64 xc, .int .i64 xd, .int .i64 xg, .slice xa xn xq] 45)) wr.heap.size #[.int .i64 xr, .int .i64 xc, .int .i64 xd, .int .i64 xg, .slice xa xn xq] 45 := rowAt_new _ _ _
        generalize (wr.alloc (.cells #[.int .i64 xr, .int .i64 xc, .int .i64 xd, .int .i64 xg, .slice xa xn xq] 45)) = w5 at bA RA ⊢
        have s5 := bA.size
        have x0' := (bA.cell (p := ⟨g, i * 5, none⟩) hglt).trans x0
        have x2' := (bA.cell (p := ⟨g, i * 5 + 2, none⟩) hglt).trans x2
        have fz0' := (bA.frozen (p := ⟨g, i * 5, none⟩) hglt).trans fz0
        have fz2' := (bA.frozen (p := ⟨g, i * 5 + 2, none⟩) hglt).trans fz2
        have k2' := (bA.cell (p := ⟨w2.heap.size, 2, none⟩) zG).trans k2
        have y0 : w5.cell? ⟨wr.heap.size, 0, none⟩ = some (.int .i64 xr) := RA.cell 0
        have y2 : w5.cell? ⟨wr.heap.size, 2, none⟩ = some (.int .i64 xd) := RA.cell 2
        have HR5 : Hid (RowAt w5 w2.heap.size #[.int .i64 (R + 1), .int .i64 C, .slice (some ⟨g, 0, none⟩) N cl] 25) := HRo.out.below bA zG
        have HO5 : Hid (OwnT w5 w1.heap.size (.slice (some ⟨g, 0, none⟩) N cl) (mix (inRw t') rs i) (mix (inC t') l i)) := HO.out.below bA
        have HK5 : Hid (w5.ownsRow w1.heap.size 4 1 (.slice (some ⟨T, 0, none⟩) C C) C (boolL C (fun c : Nat => takenB t' (l.take i) c))) := own_below HK.out bA
        have HB5 : Hid (Below w1.heap.size w1 w5) := HB.out.trans (bA.mono (by omega))
        have HRA : Hid (RowAt w5 wr.heap.size #[.int .i64 xr, .int .i64 xc, .int .i64 xd, .int .i64 xg, .slice xa xn xq] 45) := RA
        have hgw : g ≠ wr.heap.size := by omega
        clear x0 x1 x2 x3 x4 fz0 fz2 k2 bA RA
        by_cases d1 : t' ≤ xr
        · have hin1 : inRw t' (rs.getD i rw0) = (xr + 1, (xc : Int), xd, (xg : Int), xa, xn, xq) := by
            rw [HXr.out]
            unfold inRw
            rw [if_pos (show t' ≤ xr from d1)]
          have hin2 : inC t' (l.getD i cl0) = ((l.getD i cl0).1 + 1, (l.getD i cl0).2.1, (l.getD i cl0).2.2.1, (l.getD i cl0).2.2.2.1, (l.getD i cl0).2.2.2.2) := by
            unfold inC
            rw [if_pos (by rw [← HRe.out.1]; exact d1)]
          have HP : Hid (OwnT (w5.setCell ⟨g, i * 5 + 0, none⟩ (.int .i64 (xr + 1))) w1.heap.size (.slice (some ⟨g, 0, none⟩) N cl) (mix (inRw t') rs (i + 1)) (mix (inC t') l (i + 1))) := by
            show OwnT _ _ _ _ _
            rw [mix_succ (inRw t') rs i rw0 hir, mix_succ (inC t') l i cl0 hil, hin1, hin2]
            refine HO5.out.put i 0 hml (by omega) _ _ _ ?_ ?_ ?_ ?_
            · rw [mix_at _ _ _ _ hir, HXr.out]; rfl
            · rw [mix_at _ _ _ _ hir, HXr.out]; rfl
            · rw [mix_at _ _ _ _ hil]
            · have := HRe.out
              simp only
              omega
          have HQ : Hid (boolL C (fun c : Nat => takenB t' (l.take (i + 1)) c) = boolL C (fun c : Nat => takenB t' (l.take i) c)) := boolL_same (fun c _ => by
            rw [taken_take t' l i hil]
            have : overB t' (l.getD i cl0) c = false := decide_eq_false (by rw [← HRe.out.1]; omega)
            rw [this, Bool.or_false])
          clear hin1 hin2
          go_wp2_with fail
          go_roundw
          case rel =>
            refine ⟨i + 1, by omega, by go_num, HR5.out.other _ _ (by show w2.heap.size ≠ g; omega), HP.out, ?_, HB5.out.setCell (p := ⟨g, i * 5, none⟩) hgB _, by simp [World.setCell]; omega⟩
            rw [HQ.out]
            exact own_set HK5.out _ _ (fun e => by simp [Value.ownBlock] at e; omega)
          case measure => simp [intOf]; omega
        by_cases d2 : t' < xr + xd
        · have hin1 : inRw t' (rs.getD i rw0) = (xr, (xc : Int), xd + 1, (xg : Int), xa, xn, xq) := by
            rw [HXr.out]
            unfold inRw
            rw [if_neg (show ¬ t' ≤ xr from d1), if_pos (show t' < xr + xd from d2)]
          have hin2 : inC t' (l.getD i cl0) = ((l.getD i cl0).1, (l.getD i cl0).2.1, (l.getD i cl0).2.2.1 + 1, (l.getD i cl0).2.2.2.1, (l.getD i cl0).2.2.2.2) := by
            unfold inC
            rw [if_neg (by rw [← HRe.out.1]; exact d1), if_pos (by rw [← HRe.out.1, ← HRe.out.2.2.1]; exact d2)]
          have HP : Hid (OwnT (w5.setCell ⟨g, i * 5 + 2, none⟩ (.int .i64 (xd + 1))) w1.heap.size (.slice (some ⟨g, 0, none⟩) N cl) (mix (inRw t') rs (i + 1)) (mix (inC t') l (i + 1))) := by
            show OwnT _ _ _ _ _
            rw [mix_succ (inRw t') rs i rw0 hir, mix_succ (inC t') l i cl0 hil, hin1, hin2]
            refine HO5.out.put i 2 hml (by omega) _ _ _ ?_ ?_ ?_ ?_
            · rw [mix_at _ _ _ _ hir, HXr.out]; rfl
            · rw [mix_at _ _ _ _ hir, HXr.out]; rfl
            · rw [mix_at _ _ _ _ hil]
            · have := HRe.out
              simp only
              omega
          have HQ : Hid (boolL C (fun c : Nat => takenB t' (l.take (i + 1)) c) = boolL C (fun c : Nat => takenB t' (l.take i) c || decide (xc ≤ c ∧ c < xc + xg))) := boolL_same (fun c _ => by
            rw [taken_take t' l i hil]
            congr 1
            unfold overB
            have := HRe.out
            rw [decide_eq_decide, ← this.1, ← this.2.1, ← this.2.2.1, ← this.2.2.2]
            omega)
          clear hin1 hin2
          go_upto_region 14 with fail
          have HR6 : Hid (RowAt (w5.setCell ⟨g, i * 5 + 2, none⟩ (.int .i64 (xd + 1))) w2.heap.size #[.int .i64 (R + 1), .int .i64 C, .slice (some ⟨g, 0, none⟩) N cl] 25) := HR5.out.other _ _ (by show w2.heap.size ≠ g; omega)
          have HA6 : Hid (RowAt (w5.setCell ⟨g, i * 5 + 2, none⟩ (.int .i64 (xd + 1))) wr.heap.size #[.int .i64 xr, .int .i64 xc, .int .i64 xd, .int .i64 xg, .slice xa xn xq] 45) := HRA.out.other _ _ (by show wr.heap.size ≠ g; omega)
          have HK6 : Hid ((w5.setCell ⟨g, i * 5 + 2, none⟩ (.int .i64 (xd + 1))).ownsRow w1.heap.size 4 1 (.slice (some ⟨T, 0, none⟩) C C) C (boolL C (fun c : Nat => takenB t' (l.take i) c))) := own_set HK5.out _ _ (fun e => by simp [Value.ownBlock] at e; omega)
          have HB6 : Hid (Below w1.heap.size w1 (w5.setCell ⟨g, i * 5 + 2, none⟩ (.int .i64 (xd + 1)))) := HB5.out.setCell (p := ⟨g, i * 5 + 2, none⟩) hgB _
          have sz6 : wr.heap.size < (w5.setCell ⟨g, i * 5 + 2, none⟩ (.int .i64 (xd + 1))).heap.size := HA6.out.lt
          clear x0' x2' fz0' fz2' k2' y0 y2
          generalize (w5.setCell ⟨g, i * 5 + 2, none⟩ (.int .i64 (xd + 1))) = w6 at HP HR6 HA6 HK6 HB6 sz6 ⊢
          obtain ⟨S, hSe⟩ : ∃ S, wr.heap.size = S := ⟨_, rfl⟩
          rw [hSe] at HA6 sz6 hTl hglt hs' zG hgw ⊢
          clear HR5 HO5 HK5 HB5 HRA HRo HO HK HB s5 hSe
          go_wp2_with fail
          go_loopw [10] (fun kv wq => ∃ k : Nat, k ≤ xg ∧ kv = .int .i64 k ∧ RowAt wq S #[.int .i64 xr, .int .i64 xc, .int .i64 xd, .int .i64 xg, .slice xa xn xq] 45 ∧ RowAt wq w2.heap.size #[.int .i64 (R + 1), .int .i64 C, .slice (some ⟨g, 0, none⟩) N cl] 25 ∧ OwnT wq w1.heap.size (.slice (some ⟨g, 0, none⟩) N cl) (mix (inRw t') rs (i + 1)) (mix (inC t') l (i + 1)) ∧ wq.ownsRow w1.heap.size 4 1 (.slice (some ⟨T, 0, none⟩) C C) C (boolL C (fun c : Nat => takenB t' (l.take i) c || decide (xc ≤ c ∧ c < xc + k))) ∧ Below w1.heap.size w1 wq ∧ S < wq.heap.size) (fun kv _ => xg - (intOf kv).toNat)
          case atStart => exact ⟨0, Nat.zero_le _, rfl, HA6.out, HR6.out, HP.out, by
            rw [boolL_same (q := fun c : Nat => takenB t' (l.take i) c) (fun c _ => by rw [decide_eq_false (by omega), Bool.or_false])]
            exact HK6.out, HB6.out, sz6⟩
          case round =>
            clear HA6 HR6 HP HK6 HB6
            obtain ⟨k, hk, rfl, hA7, hR7, hO7, hK7, hb7, hs7⟩ := hrel
            have HA7 : Hid (RowAt wr S #[.int .i64 xr, .int .i64 xc, .int .i64 xd, .int .i64 xg, .slice xa xn xq] 45) := hA7
            have HR7 : Hid (RowAt wr w2.heap.size #[.int .i64 (R + 1), .int .i64 C, .slice (some ⟨g, 0, none⟩) N cl] 25) := hR7
            have HO7 : Hid (OwnT wr w1.heap.size (.slice (some ⟨g, 0, none⟩) N cl) (mix (inRw t') rs (i + 1)) (mix (inC t') l (i + 1))) := hO7
            have HK7 : Hid (wr.ownsRow w1.heap.size 4 1 (.slice (some ⟨T, 0, none⟩) C C) C (boolL C (fun c : Nat => takenB t' (l.take i) c || decide (xc ≤ c ∧ c < xc + k)))) := hK7
            have HB7 : Hid (Below w1.heap.size w1 wr) := hb7
            have u1 : wr.cell? ⟨S, 1, none⟩ = some (.int .i64 xc) := hA7.cell 1
            have u3 : wr.cell? ⟨S, 3, none⟩ = some (.int .i64 xg) := hA7.cell 3
            have hTl7 : w1.heap.size ≤ T := (own_lt hK7 rfl).1
            by_cases hlk : k < xg
            · have hck : (xc : Int) + k < C := by omega
              obtain ⟨b7, hb7c⟩ : ∃ b : Bool, wr.cell? ⟨T, xc + k, none⟩ = some (.bool b) := ⟨_, (hK7.cellAt (xc + k) (by omega)).trans (boolL_get C _ (xc + k) (by omega))⟩
              have hb7f := hK7.frozenAt (xc + k)
              clear hA7 hR7 hO7 hK7 hb7
              go_wp2_with fail
              go_roundw
              case rel =>
                obtain ⟨p1, -⟩ := HK7.out.stored (xc + k) (.bool true)
                rw [boolL_set] at p1
                refine ⟨k + 1, by omega, by go_num, HA7.out.other _ _ (by show S ≠ T; omega), HR7.out.other _ _ (by show w2.heap.size ≠ T; omega), ⟨own_set HO7.out.1 _ _ (fun e => by simp [Value.ownBlock] at e; omega), HO7.out.2.1, fun q hq => by
                  obtain ⟨h0, h1, h2, h3, h4⟩ := HO7.out.2.2.1 q hq
                  exact ⟨h0, h1, h2, h3, own_set h4 _ _ (fun e => own_kinds h4 HK7.out (by decide) T rfl e)⟩, HO7.out.2.2.2⟩, ?_, HB7.out.setCell (p := ⟨T, xc + k, none⟩) hTl7 _, by simp [World.setCell]; omega⟩
                rw [boolL_same (q := fun c : Nat => if c = xc + k then true else (takenB t' (l.take i) c || decide (xc ≤ c ∧ c < xc + k))) (fun c _ => by
                  by_cases hc : c = xc + k
                  · rw [if_pos hc, decide_eq_true (by omega), Bool.or_true]
                  · rw [if_neg hc]
                    congr 1
                    exact decide_eq_decide.2 (by omega))]
                exact p1
              case measure => simp [intOf]; omega
            · have ek : k = xg := by omega
              clear hA7 hR7 hO7 hK7 hb7
              go_wp2_with fail
              go_roundw
              case rel =>
                refine ⟨i + 1, by omega, by go_num, HR7.out, HO7.out, ?_, HB7.out, by omega⟩
                rw [HQ.out, ← ek]
                exact HK7.out
              case measure => simp [intOf]; omega
        · have hin1 : inRw t' (rs.getD i rw0) = rs.getD i rw0 := by
            rw [HXr.out]
            unfold inRw
            rw [if_neg (show ¬ t' ≤ xr from d1), if_neg (show ¬ t' < xr + xd from d2)]
          have hin2 : inC t' (l.getD i cl0) = l.getD i cl0 := by
            unfold inC
            rw [if_neg (by rw [← HRe.out.1]; exact d1), if_neg (by rw [← HRe.out.1, ← HRe.out.2.2.1]; exact d2)]
          have HM1 : Hid (mix (inRw t') rs (i + 1) = mix (inRw t') rs i) := mix_same _ _ _ rw0 hir hin1
          have HM2 : Hid (mix (inC t') l (i + 1) = mix (inC t') l i) := mix_same _ _ _ cl0 hil hin2
          have HQ : Hid (boolL C (fun c : Nat => takenB t' (l.take (i + 1)) c) = boolL C (fun c : Nat => takenB t' (l.take i) c)) := boolL_same (fun c _ => by
            rw [taken_take t' l i hil]
            have : overB t' (l.getD i cl0) c = false := decide_eq_false (by rw [← HRe.out.1, ← HRe.out.2.2.1]; omega)
            rw [this, Bool.or_false])
          clear hin1 hin2
          go_wp2_with fail
          go_roundw
          case rel =>
            refine ⟨i + 1, by omega, by go_num, HR5.out, ?_, ?_, HB5.out, by omega⟩
            · rw [HM1.out, HM2.out]
              exact HO5.out
            · rw [HQ.out]
              exact HK5.out
          case measure => simp [intOf]; omega
      · have e : i = N := by omega
        subst e
        have k2 : wr.cell? ⟨w2.heap.size, 2, none⟩ = some (.slice al i cl) := hR'.cell 2
        rw [mix_all _ _ _ (by have := HRL.out; have := HNN.out; omega), mix_all _ _ _ (by have := HNN.out; omega)] at hO'
        rw [List.take_of_length_le (by have := HNN.out; omega)] at hK'
        have HO1 : Hid (OwnT wr w1.heap.size (.slice al i cl) (rs.map (inRw t')) (l.map (inC t'))) := hO'
        have HK1 : Hid (wr.ownsRow w1.heap.size 4 1 (.slice (some ⟨T, 0, none⟩) C C) C (boolL C (fun c : Nat => takenB t' l c))) := hK'
        obtain ⟨p, HPd⟩ : ∃ p : Nat → Bool, Hid ((fun c : Nat => takenB t' l c) = p) := ⟨_, rfl⟩
        rw [HPd.out] at HK1
        have k1 : wr.cell? ⟨w.heap.size, 1, none⟩ = some (.int .i64 C) := (HB.out.cell (p := ⟨w.heap.size, 1, none⟩) (by show w.heap.size < w1.heap.size; omega)).trans HQ1.out
        clear hR' hO' hK' hb' HO HK
        obtain ⟨rs1, HRS⟩ : ∃ rs1, Hid (rs.map (inRw t') = rs1) := ⟨_, rfl⟩
        obtain ⟨l1, HLS⟩ : ∃ l1, Hid (l.map (inC t') = l1) := ⟨_, rfl⟩
        rw [HRS.out, HLS.out] at HO1
        have HNi : Hid (i = rs1.length) := HO1.out.1.len
        go_wp2_with fail
        clear k2
        go_loopw [11] (fun jv wr => ∃ (j : Nat) (a' : Option Addr) (c' m' : Nat), j ≤ C ∧ jv = .int .i64 j ∧ m' = i + (newRw t' p j).length ∧ RowAt wr w2.heap.size #[.int .i64 (R + 1), .int .i64 C, .slice a' m' c'] 25 ∧ OwnR wr w1.heap.size (.slice a' m' c') (rs1 ++ newRw t' p j) ∧ TxtOwn wr w1.heap.size (Value.slice a' m' c').ownBlock (rs1 ++ newRw t' p j) (l1 ++ newCl t' p j) ∧ wr.ownsRow w1.heap.size 4 1 (.slice (some ⟨T, 0, none⟩) C C) C (boolL C p) ∧ Below w1.heap.size w1 wr ∧ w4.heap.size ≤ wr.heap.size) (fun jv _ => C - (intOf jv).toNat)
        case atStart => exact ⟨0, al, cl, i, Nat.zero_le _, rfl, by simp [newRw], HRo.out, by simpa [newRw] using HO1.out.1, by simpa [newRw, newCl] using HO1.out.2, HK1.out, HB.out, hs'⟩
        case round =>
          clear HO1 HK1 HB HRo k1 hTl zG hs'
          obtain ⟨j, a', c', m', hj, rfl, hm', hR', hO', hX', hK', hb', hs'⟩ := hrel
          have hml := newRw_len t' p j
          have HM' : Hid (m' = i + (newRw t' p j).length) := hm'
          have HRo : Hid (RowAt wr w2.heap.size #[.int .i64 (R + 1), .int .i64 C, .slice a' m' c'] 25) := hR'
          have HO : Hid (OwnR wr w1.heap.size (.slice a' m' c') (rs1 ++ newRw t' p j)) := hO'
          have HXt : Hid (TxtOwn wr w1.heap.size (Value.slice a' m' c').ownBlock (rs1 ++ newRw t' p j) (l1 ++ newCl t' p j)) := hX'
          have HK : Hid (wr.ownsRow w1.heap.size 4 1 (.slice (some ⟨T, 0, none⟩) C C) C (boolL C p)) := hK'
          have HB : Hid (Below w1.heap.size w1 wr) := hb'
          have k1 : wr.cell? ⟨w.heap.size, 1, none⟩ = some (.int .i64 C) := (hb'.cell (p := ⟨w.heap.size, 1, none⟩) (by show w.heap.size < w1.heap.size; omega)).trans HQ1.out
          have k2 : wr.cell? ⟨w2.heap.size, 2, none⟩ = some (.slice a' m' c') := hR'.cell 2
          have zG := hR'.lt
          have hcap := hO'.rws.2.1
          have hcm := hO'.rws.2.2.1
          unfold maxLen at hcm
          have hm30 : m' ≤ 30 := by omega
          by_cases hlj : j < C
          · have t1 : wr.cell? ⟨T, j, none⟩ = some (.bool (p j)) := (hK'.cellAt j (by omega)).trans (boolL_get C p j hlj)
            clear hR' hO' hX' hK' hb' hm' hml
            cases hpj : p j
            · rw [hpj] at t1
              have HPj : Hid (p j = false) := hpj
              clear hpj
              go_wp2_with (at_builtin; refine wpList_append_own _ rfl (.tmp 102) (.tmp 106) 23 rfl w1.heap.size 45 i0 _ 5 56 Try.underlying23 hi hz0 hz1 hz2 rfl (by decide) (.slice a' m' c') _ _ rfl (HO.out.row.alloc _) ⟨wr.heap.size, 0, none⟩ 1 1 [.int .i64 t', .int .i64 (j : Int), .int .i64 1, .int .i64 1, .slice none 0 0] rfl rfl (cell_five_new _ _ _ _ _ _ _) (five_oneCell _ _ _ _ _ _ _) (by unfold maxLen; omega) (by omega) (by simp; omega) ?_; intro v' w5 hown' hgrow _; obtain ⟨a5, c5, rfl, ho5, hb5⟩ := ownR_step (B := w1.heap.size) (w := wr) (s := (t', (j : Int), 1, 1, none, 0, 0)) HO.out (Below.refl _ _) (by omega) hown' hgrow; have R5 := RowAt.grown (HRo.out.alloc _) hgrow (rowAt_ne HRo.out HO.out.row (by decide)); have q2 : w5.cell? ⟨w2.heap.size, 2, none⟩ = some (.slice a' m' c') := R5.cell 2; have q3 := R5.frozen 2)
              go_roundw
              case rel =>
                have s5 := hgrow.size
                simp at s5
                have eR : rs1 ++ newRw t' p (j + 1) = (rs1 ++ newRw t' p j) ++ [(t', (j : Int), 1, 1, none, 0, 0)] := by rw [newRw_put t' p j HPj.out, List.append_assoc]
                have eC : l1 ++ newCl t' p (j + 1) = (l1 ++ newCl t' p j) ++ [(t', (j : Int), 1, 1, [])] := by rw [newCl_put t' p j HPj.out, List.append_assoc]
                have t5 : TxtOwn w5 w1.heap.size (Value.slice a' m' c').ownBlock (rs1 ++ newRw t' p j) (l1 ++ newCl t' p j) := (HXt.out.below ((Below.refl _ _).alloc (Nat.le_refl _) _)).grown hgrow (fun k hk b hb => HXt.out.2.2.1 k hk b hb)
                have t6 := t5.snoc (C := wr.heap.size) (x := (t', (j : Int), 1, 1, none, 0, 0)) (y := (t', (j : Int), 1, 1, [])) (txt_nil_cell _ _ _ _) (fun b hb => by simp [rwT, Value.ownBlock] at hb) (fun k hk b hb => HXt.out.blockLt k hk b hb) (fun b hb => by simp [rwT, Value.ownBlock] at hb)
                have B5 : Below w1.heap.size w1 w5 := ((HB.out).alloc (by omega) _).grown hgrow (by simp; omega) (fun k hk => (own_lt HO.out.row hk).1)
                have hneG : (Value.slice a5 (m' + 1) c5).ownBlock ≠ some w2.heap.size := rowAt_ne R5 ho5.row (by decide)
                refine ⟨j + 1, a5, c5, m' + 1, by omega, by go_num, ?_, R5.setCell 2 (.slice a5 (m' + 1) c5), ?_, ?_, ?_, B5.setCell (p := ⟨w2.heap.size, 2, none⟩) s2 (.slice a5 (m' + 1) c5), by simp [World.setCell]; omega⟩
                · have e9 := HM'.out
                  rw [newRw_put t' p j HPj.out, List.length_append]
                  simp only [List.length_cons, List.length_nil]
                  omega
                · rw [eR]
                  exact own_set ho5 _ _ hneG
                · rw [eR, eC]
                  have t7 := t6.anew ho5
                  exact ⟨t7.1, fun q hq => by
                    obtain ⟨h0, h1, h2, h3, h4⟩ := t7.2.1 q hq
                    exact ⟨h0, h1, h2, h3, own_set h4 _ _ (rowAt_ne R5 h4 (by decide))⟩, t7.2.2⟩
                · exact own_set (own_grown (own_below HK.out ((Below.refl _ _).alloc (Nat.le_refl _) _)) hgrow (fun g hg e => own_kinds HO.out.row HK.out (by decide) g hg e)) _ _ (fun e => by simp [Value.ownBlock] at e; omega)
              case measure => simp [intOf]; omega
            · rw [hpj] at t1
              have HPj : Hid (p j = true) := hpj
              clear hpj
              go_wp2_with fail
              go_roundw
              case rel =>
                refine ⟨j + 1, a', c', m', by omega, by go_num, ?_, HRo.out, ?_, ?_, HK.out, HB.out, hs'⟩
                · rw [newRw_skip t' p j HPj.out]
                  exact HM'.out
                · rw [newRw_skip t' p j HPj.out]
                  exact HO.out
                · rw [newRw_skip t' p j HPj.out, newCl_skip t' p j HPj.out]
                  exact HXt.out
              case measure => simp [intOf]; omega
          · have e : j = C := by omega
            subst e
            clear hR' hO' hX' hK' hb' hm' hml
            go_upto_region 24 with (go_at_call 33; refine (l2Sort_any a' m' c' (rs1 ++ newRw t' p j) _ HO.out.rws (by omega)).mono ?_; rintro e w3 ⟨⟨a3, c3, rfl, ho3⟩, hb3⟩; have R3 := HRo.out.below hb3 zG; have q2 : w3.cell? ⟨w2.heap.size, 2, none⟩ = some (.slice a' m' c') := R3.cell 2; have q3 := R3.frozen 2)
            have sz3 := hb3.size
            have R4 : RowAt (w3.setCell ⟨w2.heap.size, 2, none⟩ (.slice a3 m' c3)) w2.heap.size #[.int .i64 (R + 1), .int .i64 j, .slice a3 m' c3] 25 := R3.setCell 2 (.slice a3 m' c3)
            have B4 : Below w1.heap.size w1 (w3.setCell ⟨w2.heap.size, 2, none⟩ (.slice a3 m' c3)) := (HB.out.trans (hb3.mono (by omega))).setCell (p := ⟨w2.heap.size, 2, none⟩) s2 _
            have O4 : OwnR (w3.setCell ⟨w2.heap.size, 2, none⟩ (.slice a3 m' c3)) w1.heap.size (.slice a3 m' c3) (sortR (rs1 ++ newRw t' p j)) := own_set (own_less ho3 (by omega)) _ _ (rowAt_ne R3 ho3.row (by decide))
            have T4 : TxtOwn (w3.setCell ⟨w2.heap.size, 2, none⟩ (.slice a3 m' c3)) w1.heap.size (Value.slice a3 m' c3).ownBlock (sortR (rs1 ++ newRw t' p j)) (sortC (l1 ++ newCl t' p j)) := by
              have t7 := (HXt.out.sort).below hb3
              have t8 : TxtOwn (w3.setCell ⟨w2.heap.size, 2, none⟩ (.slice a3 m' c3)) w1.heap.size (Value.slice a' m' c').ownBlock (sortR (rs1 ++ newRw t' p j)) (sortC (l1 ++ newCl t' p j)) := ⟨t7.1, fun q hq => by
                obtain ⟨h0, h1, h2, h3, h4⟩ := t7.2.1 q hq
                exact ⟨h0, h1, h2, h3, own_set h4 _ _ (rowAt_ne R3 h4 (by decide))⟩, t7.2.2⟩
              exact t8.anew O4
            have HEL : Hid (sortC (l1 ++ newCl t' p j) = inL t' j l) := by
              show sortC (l1 ++ newCl t' p j) = sortC (inM t' j l)
              unfold inM newI newCl
              rw [← HLS.out, ← HPd.out, Int.toNat_natCast]
            rw [HEL.out] at T4
            have HML : Hid (m' = (inL t' j l).length) := by
              show m' = (inL t' j l).length
              have e1 := O4.len
              have e2 := T4.1
              omega
            clear q2 q3 R3 k1 k2 ho3
            generalize (w3.setCell ⟨w2.heap.size, 2, none⟩ (.slice a3 m' c3)) = w5 at R4 B4 O4 T4 ⊢
            have HO4 : Hid (OwnR w5 w1.heap.size (.slice a3 m' c3) (sortR (rs1 ++ newRw t' p j))) := O4
            have HT4 : Hid (TxtOwn w5 w1.heap.size (Value.slice a3 m' c3).ownBlock (sortR (rs1 ++ newRw t' p j)) (inL t' j l)) := T4
            have HB4 : Hid (Below w1.heap.size w1 w5) := B4
            have k0 : w5.cell? ⟨w2.heap.size, 0, none⟩ = some (.int .i64 (R + 1)) := R4.cell 0
            have k1 : w5.cell? ⟨w2.heap.size, 1, none⟩ = some (.int .i64 j) := R4.cell 1
            have k2 : w5.cell? ⟨w2.heap.size, 2, none⟩ = some (.slice a3 m' c3) := R4.cell 2
            have HG4 : Hid (RowAt w5 (w.heap.size + 1) #[.int .i64 0, .int .i64 0, .slice none 0 0] 25) := HG2.out.below B4 (by omega)
            clear O4 T4 B4 R4
            go_wp2_with (refine wpList_store_row rfl 25 (.tmp 4) (.tmp 113) rfl (w.heap.size + 1) #[.int .i64 (R + 1), .int .i64 j, .slice a3 m' c3] rfl rfl 25 _ HG4.out tab_info rfl (cells3_one _ _ _ _ _) ?_)
            refine bodyPost_ret (v := .tuple #[.agg #[.int .i64 (R + 1), .int .i64 j, .slice a3 m' c3], .bool true]) ?_ rfl ⟨.inr ⟨HYB.out, a3, c3, sortR (rs1 ++ newRw t' p j), by rw [← HML.out], ?_⟩, below_row ((HB0.out.trans (hb1.mono s0)).trans (HB4.out.mono (by omega))) (by omega) _⟩
            · rw [results_cell_tmp rfl]
              simp [asAddr, Result.andThen, run_tabOf (RowAt.setRow HG4.out #[.int .i64 (R + 1), .int .i64 j, .slice a3 m' c3])]
            · rw [← HML.out]
              exact OwnT.less (B' := w1.heap.size) ⟨own_row HO4.out _ _ (fun e => by have := (own_lt HO4.out.row e).1; omega), HT4.out.rowLow _ _ (by omega)⟩ (by omega)
end Go.Proofs.Ytbigbbfbikhjdaa
namespace Go.Proofs.Ytbigbbfbikhjdaa
open Go.RowKit

/-- The texts of a table that is ok are short, and its cells few. -/
theorem ok_small {R C : Int} {l : List Cl} (h : okB R C l = true) : l.length ≤ 25 ∧ ∀ x ∈ l, x.2.2.2.2.length ≤ 24 := by
  have hf : formB R C l = true := by
    simp only [okB, Bool.and_eq_true] at h
    exact h.1
  obtain ⟨_, _, hl, hat⟩ := formB_of hf
  refine ⟨hl, fun x hx => ?_⟩
  obtain ⟨k, hk, e⟩ := List.getElem_of_mem hx
  have := (cellB_of (atB_cell (hat k hk))).2.2.2.2
  rw [show l.getD k cl0 = x by rw [← e]; simp [List.getD, hk]] at this
  simp only [textB, Bool.and_eq_true, decide_eq_true_eq] at this
  exact this.1
end Go.Proofs.Ytbigbbfbikhjdaa
namespace Go.Proofs.Ytbigbbfbikhjdaa
open Go.RowKit

theorem ok_txtI {R C : Int} {l : List Cl} (h : okB R C l = true) : ∀ x ∈ l, textB x.2.2.2.2 = true := by
  intro x hx
  obtain ⟨k, hk, e⟩ := List.getElem_of_mem hx
  have := (stepB_of ((gridP_of_okB h).2.2.1 k hk)).2.2
  rw [show l.getD k cl0 = x by rw [← e]; simp [List.getD, hk]] at this
  exact this
theorem tiles_in_any {R C : Nat} {l : List Cl} (h : okB R C l = true) (a : Nat) (ha : a ≤ R) : ∃ f2, TilesM (R + 1) C f2 (inM a C l) := by
  obtain ⟨hR, hC, _, _⟩ := gridP_of_okB h
  exact ⟨_, tiles_in h a ha (fillP_any C l.length (R + 1) _ (by omega) (ok_small h).1 (fun s => inF_le a s))⟩
theorem ok_in {R C t' : Int} {l : List Cl} (h : rowInB R C l t' = true) : okB (R + 1) C (inL t' C l) = true := by
  simp only [rowInB, Bool.and_eq_true, decide_eq_true_eq] at h
  obtain ⟨⟨h1, h2⟩, h3⟩ := h
  obtain ⟨hR, hC, _, _⟩ := gridP_of_okB h1
  obtain ⟨R, rfl⟩ : ∃ R' : Nat, R = R' := ⟨R.toNat, by omega⟩
  obtain ⟨C, rfl⟩ : ∃ C' : Nat, C = C' := ⟨C.toNat, by omega⟩
  obtain ⟨p, rfl⟩ : ∃ p : Nat, t' = p := ⟨t'.toNat, by omega⟩
  obtain ⟨f2, ht⟩ := tiles_in_any h1 p (by omega)
  rw [show (R : Int) + 1 = ((R + 1 : Nat) : Int) by omega]
  refine okB_sort ht (by omega) (by omega) (ht.few (by omega) (by omega)) ?_
  intro x hx
  rcases List.mem_append.1 hx with hx | hx
  · obtain ⟨y, hy, rfl⟩ := List.mem_map.1 hx
    rw [inC_txt]
    exact ok_txtI h1 _ hy
  · obtain ⟨c, _, _, rfl⟩ := newI_mem.1 hx
    rfl
theorem small_in {R C : Int} {l : List Cl} {t' : Int} : rowInB R C l t' = true → (inL t' C l).length ≤ 50 ∧ ∀ x ∈ inL t' C l, x.2.2.2.2.length ≤ 24 := by
  intro h
  obtain ⟨h1, h2⟩ := ok_small (ok_in h)
  exact ⟨by omega, h2⟩
end Go.Proofs.Ytbigbbfbikhjdaa
namespace Go.Proofs.Ytbigbbfbikhjdaa
open Go.RowKit

/-- The squares' numbers without a row. -/
def outF (R a : Nat) (f : Nat → Nat) : Nat → Nat := fun s => if a ≤ s / 5 ∧ s / 5 + 1 < R then f (s + 5) else f s
/-- The numbers of the rows behind one. -/
def tailV (R a : Nat) (f : Nat → Nat) : List Value := (List.range ((R - (a + 1)) * 5)).map (fun j => Value.int .i64 (f ((a + 1) * 5 + j)))
theorem tailV_length (R a : Nat) (f : Nat → Nat) : (tailV R a f).length = (R - (a + 1)) * 5 := by simp [tailV]
theorem tailV_one (R a : Nat) (f : Nat → Nat) : ∀ v ∈ tailV R a f, v.oneCell' = true := by
  intro v hv
  simp only [tailV, List.mem_map] at hv
  obtain ⟨j, _, rfl⟩ := hv
  rfl
theorem gridA_out (R C n a : Nat) (f : Nat → Nat) (t : Nat → Sl) (ha : a < R) (hR : R ≤ 5) : (splice (gridL R C n f t) (3 + a * 5) (tailV R a f)).toArray = gridA R C n (outF R a f) t := by
  apply Array.ext_getElem?
  intro i
  have hG : (gridL (R : Int) (C : Int) n f t)[i]? = (gridA (R : Int) (C : Int) n f t)[i]? := by simp [gridA]
  rw [List.getElem?_toArray, splice_get _ _ _ (by rw [gridL_length, tailV_length]; omega), tailV_length, hG, gridA_get, gridA_get]
  by_cases h1 : i < 3 + a * 5
  · rw [if_pos h1]
    by_cases h3 : i < 3
    · match i, h3 with
      | 0, _ => rfl
      | 1, _ => rfl
      | 2, _ => rfl
    · have : outF R a f (i - 3) = f (i - 3) := by
        unfold outF
        rw [if_neg (by omega)]
      rw [this]
  · rw [if_neg h1]
    by_cases h2 : i < 3 + a * 5 + (R - (a + 1)) * 5
    · rw [if_pos h2, if_neg (show ¬ i = 0 by omega), if_neg (show ¬ i = 1 by omega), if_neg (show ¬ i = 2 by omega), if_pos (show i < 28 by omega)]
      have : outF R a f (i - 3) = f (i - 3 + 5) := by
        unfold outF
        rw [if_pos (by omega)]
      rw [this]
      unfold tailV
      rw [List.getElem?_map, List.getElem?_range (by omega)]
      simp only [Option.map_some]
      rw [show (a + 1) * 5 + (i - (3 + a * 5)) = i - 3 + 5 by omega]
    · rw [if_neg h2]
      by_cases h3 : i < 28
      · have : outF R a f (i - 3) = f (i - 3) := by
          unfold outF
          rw [if_neg (by omega)]
        rw [this]
      · simp only [if_neg h3, show ¬ i = 0 by omega, show ¬ i = 1 by omega, show ¬ i = 2 by omega, if_false]
theorem gridA_set_rowsO (R C : Int) (n : Nat) (R' : Int) (f : Nat → Nat) (t : Nat → Sl) : (gridA R C n f t).setIfInBounds 0 (.int .i64 R') = gridA R' C n f t := by
  apply Array.ext_getElem?
  intro i
  rw [Array.getElem?_setIfInBounds, gridA_get, gridA_get, gridA_size]
  by_cases h : 0 = i
  · subst h; rfl
  · rw [if_neg h]
    by_cases h3 : i = 0
    · exact absurd h3.symm h
    · simp only [if_neg h3]
theorem GridAt.setRowsO {w : World} {b : Nat} {R C : Int} {n : Nat} {f : Nat → Nat} {t : Nat → Sl} (h : GridAt w b R C n f t) (R' : Int) : GridAt (w.setCell ⟨b, 0, none⟩ (.int .i64 R')) b R' C n f t := by
  unfold GridAt
  rw [← gridA_set_rowsO R C n R']
  exact RowAt.setCell h _ _
theorem row_info : (Try.prog.info? 47).map (·.size) = some 5 := by kernel_rfl
theorem tail_cells {w : World} {b : Nat} {R C n a : Nat} {f : Nat → Nat} {t : Nat → Sl} (h : GridAt w b R C n f t) (ha : a < R) (hR : R ≤ 5) (o : Nat) (ho : o = 3 + (a + 1) * 5) : ∀ j v, (tailV R a f)[j]? = some v → w.cell? ((⟨b, o, none⟩ : Addr).add j) = some v := by
  intro j v hv
  subst ho
  have hj : j < (R - (a + 1)) * 5 := by
    have := (List.getElem?_eq_some_iff.1 hv).1
    rwa [tailV_length] at this
  have hadd : (⟨b, 3 + (a + 1) * 5, none⟩ : Addr).add j = ⟨b, 3 + ((a + 1) * 5 + j), none⟩ := by
    unfold Addr.add
    simp only [Nat.add_assoc]
    split
    · simp_all
    · rfl
  rw [hadd, h.num _ (by omega)]
  unfold tailV at hv
  rw [List.getElem?_map, List.getElem?_range hj] at hv
  simpa using hv

set_option maxRecDepth 100000 in
set_option maxHeartbeats 4000000 in
theorem rowOut_any (R C n a : Nat) (f : Nat → Nat) (t : Nat → Sl) (w : World) (ha : a < R) (hR : R ≤ 5) :
    Calls Try.prog 39 #[.agg (gridA R C n f t), .int .i64 a] w fun z w' => z = .returned (.agg (gridA ((R - 1 : Nat) : Int) C n (outF R a f) t)) ∧ Below w.heap.size w w' := by
  go_enter Try.func39, Try.ntmps39
  go_upto_region 1 with fail
  rw [← grid_zero]
  have B0 : Below w.heap.size w ((w.alloc (.cells (gridA R C n f t) 51)).alloc (.cells (gridA 0 0 0 (fun _ => 0) (fun _ => sl0)) 51)) := (((Below.refl _ _).alloc (Nat.le_refl _) _).alloc (by simp) _)
  have G0 : GridAt ((w.alloc (.cells (gridA R C n f t) 51)).alloc (.cells (gridA 0 0 0 (fun _ => 0) (fun _ => sl0)) 51)) w.heap.size R C n f t := (gridAt_new w R C n f t).alloc _
  have G1 : GridAt ((w.alloc (.cells (gridA R C n f t) 51)).alloc (.cells (gridA 0 0 0 (fun _ => 0) (fun _ => sl0)) 51)) (w.heap.size + 1) 0 0 0 (fun _ => 0) (fun _ => sl0) := by
    have := gridAt_new (w.alloc (.cells (gridA R C n f t) 51)) 0 0 0 (fun _ => 0) (fun _ => sl0)
    simpa using this
  generalize ((w.alloc (.cells (gridA R C n f t) 51)).alloc (.cells (gridA 0 0 0 (fun _ => 0) (fun _ => sl0)) 51)) = v at B0 G0 G1 ⊢
  have k0 := G0.rows
  have hb0 : (a : Int) ≤ 5 := by omega
  have hb1 : (a : Int) + 1 ≤ R := by omega
  have hb2 : (R : Int) ≤ 5 := by omega
  have hb3 : (0 : Int) ≤ (a : Int) + 1 := by omega
  have hw : IntKind.i64.wrap ((a : Int) + 1) = (a : Int) + 1 := by rw [IntKind.wrap_i64]; omega
  have HG : Hid (GridAt v w.heap.size R C n f t) := G0
  have HZ : Hid (GridAt v (w.heap.size + 1) 0 0 0 (fun _ => 0) (fun _ => sl0)) := G1
  have HB0 : Hid (Below w.heap.size w v) := B0
  have z1 := G1.lt
  have h5 : ¬ 5 = a := by omega
  have ht : ((a : Int) + 1).toNat = a + 1 := by omega
  have HS : Hid (GridAt (v.drew.setRow w.heap.size (splice (gridL R C n f t) (3 + a * 5) (tailV R a f)).toArray) w.heap.size R C n (outF R a f) t) := by
    show GridAt _ _ _ _ _ _ _
    rw [gridA_out R C n a f t ha hR]
    exact RowAt.setRow (cs := gridA R C n f t) G0 _
  have HBS : Hid (Below w.heap.size w (v.drew.setRow w.heap.size (splice (gridL R C n f t) (3 + a * 5) (tailV R a f)).toArray)) := below_row (B0.trans ((Below.refl _ _).drew)) (Nat.le_refl _) _
  have HZS : Hid (GridAt (v.drew.setRow w.heap.size (splice (gridL R C n f t) (3 + a * 5) (tailV R a f)).toArray) (w.heap.size + 1) 0 0 0 (fun _ => 0) (fun _ => sl0)) := (setRow_other v.drew w.heap.size (w.heap.size + 1) _ (by omega)).trans G1
  clear G0 G1 B0
  by_cases h4 : a = 4
  · have h4' : a + 1 = 5 := by omega
    have hw5 : IntKind.i64.wrap 5 = 5 := by decide
    have h4r : (5 : Int) ≤ R := by omega
    go_wp2_with fail
    go_region_held3 (fun w' => w'.cell? ⟨w.heap.size, 0, none⟩ = some (.int .i64 R)) (first | exact HS.out.rows | go_keep)
      (refine step_copy_rows (by rfl) (.tmp 7) (.tmp 13) _ _ (by rfl) 47 5 Try.underlying77 row_info _ _ _ _ _ _ (by rfl) (by rfl) w.heap.size (3 + a * 5) (gridL R C n f t) 51 HG.out (tailV R a f) 0 (by simp only [Nat.min_def]; split <;> omega) (by rw [tailV_length]; omega) (fun hh => absurd hh (by simp)) (by rw [gridL_length, tailV_length]; omega) (tailV_one _ _ _) ?_)
    generalize (v.drew.setRow w.heap.size (splice (gridL R C n f t) (3 + a * 5) (tailV R a f)).toArray) = v1 at HS HBS HZS ⊢
    have k1 := HS.out.rows
    have k2 := HS.out.frozen 0
    clear k0
    go_upto_region 3 with fail
    have Y0 := HS.out.setRowsO ((R : Int) - 1)
    have Y1 := HBS.out.setCell (p := ⟨w.heap.size, 0, none⟩) (Nat.le_refl _) (.int .i64 ((R : Int) - 1))
    have Y2 := HZS.out.other ⟨w.heap.size, 0, none⟩ (.int .i64 ((R : Int) - 1)) (by simp)
    generalize (v1.setCell ⟨w.heap.size, 0, none⟩ (.int .i64 ((R : Int) - 1))) = v2 at Y0 Y1 Y2 ⊢
    have HY0 : Hid (GridAt v2 w.heap.size ((R : Int) - 1) C n (outF R a f) t) := Y0
    have HY2 : Hid (GridAt v2 (w.heap.size + 1) 0 0 0 (fun _ => 0) (fun _ => sl0)) := Y2
    clear Y0 Y2 k1 k2
    go_wp2_with (first | (refine wpList_load_row rfl 51 (.tmp 2) rfl w.heap.size rfl 51 (gridA ((R : Int) - 1) C n (outF R a f) t) (0, 0) _ HY0.out Try.underlying51 rfl (grid_infoA _ _ _ _ _) ?_) | (refine wpList_store_row rfl 51 (.tmp 4) (.tmp 19) rfl (w.heap.size + 1) (gridA ((R : Int) - 1) C n (outF R a f) t) rfl rfl 51 _ HY2.out (grid_infoA _ _ _ _ _) (by rw [gridA_size, gridA_size]) (gridA_one _ _ _ _ _) ?_))
    refine bodyPost_ret (v := .agg (gridA ((R : Int) - 1) C n (outF R a f) t)) (results_cell_row (p := 4) (ty := 51) rfl _ _ (w.heap.size + 1) 51 _ _ _ rfl (RowAt.setRow HY2.out _) Try.underlying51 rfl (grid_infoA _ _ _ _ _)) rfl ⟨?_, below_row Y1 (by omega) _⟩
    rw [show ((R - 1 : Nat) : Int) = (R : Int) - 1 by omega]
  · have h4' : ¬ 5 = a + 1 := by omega
    go_wp2_with fail
    go_region_held3 (fun w' => w'.cell? ⟨w.heap.size, 0, none⟩ = some (.int .i64 R)) (first | exact HS.out.rows | go_keep)
      (refine step_copy_rows (by rfl) (.tmp 7) (.tmp 13) _ _ (by rfl) 47 5 Try.underlying77 row_info _ _ _ _ _ _ (by rfl) (by rfl) w.heap.size (3 + a * 5) (gridL R C n f t) 51 HG.out (tailV R a f) (R - (a + 1)) (Nat.min_eq_left (by omega)) (by rw [tailV_length]) (fun _ => ⟨rfl, _, rfl, tail_cells HG.out ha hR _ rfl⟩) (by rw [gridL_length, tailV_length]; omega) (tailV_one _ _ _) ?_)
    generalize (v.drew.setRow w.heap.size (splice (gridL R C n f t) (3 + a * 5) (tailV R a f)).toArray) = v1 at HS HBS HZS ⊢
    have k1 := HS.out.rows
    have k2 := HS.out.frozen 0
    clear k0
    go_upto_region 3 with fail
    have Y0 := HS.out.setRowsO ((R : Int) - 1)
    have Y1 := HBS.out.setCell (p := ⟨w.heap.size, 0, none⟩) (Nat.le_refl _) (.int .i64 ((R : Int) - 1))
    have Y2 := HZS.out.other ⟨w.heap.size, 0, none⟩ (.int .i64 ((R : Int) - 1)) (by simp)
    generalize (v1.setCell ⟨w.heap.size, 0, none⟩ (.int .i64 ((R : Int) - 1))) = v2 at Y0 Y1 Y2 ⊢
    have HY0 : Hid (GridAt v2 w.heap.size ((R : Int) - 1) C n (outF R a f) t) := Y0
    have HY2 : Hid (GridAt v2 (w.heap.size + 1) 0 0 0 (fun _ => 0) (fun _ => sl0)) := Y2
    clear Y0 Y2 k1 k2
    go_wp2_with (first | (refine wpList_load_row rfl 51 (.tmp 2) rfl w.heap.size rfl 51 (gridA ((R : Int) - 1) C n (outF R a f) t) (0, 0) _ HY0.out Try.underlying51 rfl (grid_infoA _ _ _ _ _) ?_) | (refine wpList_store_row rfl 51 (.tmp 4) (.tmp 19) rfl (w.heap.size + 1) (gridA ((R : Int) - 1) C n (outF R a f) t) rfl rfl 51 _ HY2.out (grid_infoA _ _ _ _ _) (by rw [gridA_size, gridA_size]) (gridA_one _ _ _ _ _) ?_))
    refine bodyPost_ret (v := .agg (gridA ((R : Int) - 1) C n (outF R a f) t)) (results_cell_row (p := 4) (ty := 51) rfl _ _ (w.heap.size + 1) 51 _ _ _ rfl (RowAt.setRow HY2.out _) Try.underlying51 rfl (grid_infoA _ _ _ _ _)) rfl ⟨?_, below_row Y1 (by omega) _⟩
    rw [show ((R - 1 : Nat) : Int) = (R : Int) - 1 by omega]
end Go.Proofs.Ytbigbbfbikhjdaa
namespace Go.Proofs.Ytbigbbfbikhjdaa
open Go.RowKit

/-- A cell when a row is taken out. -/
def outC (at' : Int) (x : Cl) : Cl := if at' < x.1 then (x.1 - 1, x.2.1, x.2.2.1, x.2.2.2.1, x.2.2.2.2) else if at' < x.1 + x.2.2.1 then (x.1, x.2.1, x.2.2.1 - 1, x.2.2.2.1, x.2.2.2.2) else x
def tallB (x : Cl) : Bool := decide (0 < x.2.2.1)
def outM (at' : Int) (l : List Cl) : List Cl := (l.map (outC at')).filter tallB
/-- Whether a row can be taken out. -/
def rowOutB (R C : Int) (l : List Cl) (t' : Int) : Bool := okB R C l && decide (0 ≤ t' ∧ t' ≤ R - 1) && decide (2 ≤ R)
def outL (at' : Int) (l : List Cl) : List Cl := sortC (outM at' l)
theorem outC_txt (at' : Int) (x : Cl) : (outC at' x).2.2.2.2 = x.2.2.2.2 := by
  unfold outC
  split
  · rfl
  · split <;> rfl
section
variable {R C : Nat} {l : List Cl}
theorem outF_at (f : Nat → Nat) (a p q : Nat) (hp : p + 1 < R) (hq : q < 5) : outF R a f (p * 5 + q) = if a ≤ p then f ((p + 1) * 5 + q) else f (p * 5 + q) := by
  unfold outF
  rw [show (p * 5 + q) / 5 = p by omega]
  by_cases h : a ≤ p
  · rw [if_pos ⟨h, hp⟩, if_pos h, show p * 5 + q + 5 = (p + 1) * 5 + q by omega]
  · rw [if_neg (fun hh => h hh.1), if_neg h]
theorem out_num (h : okB R C l = true) (a m : Nat) (ha : a < R) (hm : m < l.length) (ht : tallB (outC a (l.getD m cl0)) = true) : NumC (R - 1) C (outF R a (numF l l.length)) (outC a (l.getD m cl0)) (m + 1) := by
  obtain ⟨hR, hC, _, _⟩ := gridP_of_okB h
  obtain ⟨r, b, d, g, e, h1, h2, h3, h4⟩ := cell_nat h m hm
  have hn : ∀ p q, p < R - 1 → q < C → (outF R a (numF l l.length) (p * 5 + q) = m + 1 ↔ (if a ≤ p then inB (l.getD m cl0) ((p + 1 : Nat) : Int) q else inB (l.getD m cl0) (p : Int) q) = true) := by
    intro p q hp hq
    rw [outF_at _ a p q (by omega) (by omega)]
    split
    · rw [num_iff h (p + 1) q m hq]
      exact ⟨fun hh => hh.2, fun hh => ⟨hm, hh⟩⟩
    · rw [num_iff h p q m hq]
      exact ⟨fun hh => hh.2, fun hh => ⟨hm, hh⟩⟩
  generalize (l.getD m cl0).2.2.2.2 = t at e
  rw [e] at ht hn ⊢
  unfold outC tallB at ht
  unfold outC
  simp only at ht ⊢
  by_cases c1 : a < r
  · rw [if_pos (by omega)]
    refine ⟨r - 1, b, d, g, t, by simp; omega, h1, h2, by omega, h4, fun p q hp hq => ?_⟩
    rw [hn p q hp hq]
    split
    · rw [inB_cell]; omega
    · rw [inB_cell]; omega
  · rw [if_neg (by omega)] at ht ⊢
    by_cases c2 : a < r + d
    · rw [if_pos (by omega)] at ht ⊢
      have ht' := of_decide_eq_true ht
      simp only at ht'
      refine ⟨r, b, d - 1, g, t, by simp; omega, by omega, h2, by omega, h4, fun p q hp hq => ?_⟩
      rw [hn p q hp hq]
      split
      · rw [inB_cell]; omega
      · rw [inB_cell]; omega
    · rw [if_neg (by omega)]
      refine ⟨r, b, d, g, t, rfl, h1, h2, by omega, h4, fun p q hp hq => ?_⟩
      rw [hn p q hp hq]
      split
      · rw [inB_cell]; omega
      · rw [inB_cell]
theorem outM_mem {a : Int} {x : Cl} : x ∈ outM a l ↔ ∃ m, m < l.length ∧ outC a (l.getD m cl0) = x ∧ tallB x = true := by
  unfold outM
  rw [List.mem_filter, List.mem_map]
  constructor
  · rintro ⟨⟨y, hy, rfl⟩, ht⟩
    obtain ⟨m, hm, e⟩ := List.getElem_of_mem hy
    exact ⟨m, hm, by rw [getD_get hm, e], ht⟩
  · rintro ⟨m, hm, rfl, ht⟩
    exact ⟨⟨_, getD_mem hm, rfl⟩, ht⟩
theorem tiles_out (h : okB R C l = true) (a : Nat) (ha : a < R) : TilesM (R - 1) C (outF R a (numF l l.length)) (outM a l) := by
  obtain ⟨hR, hC, _, htl⟩ := gridP_of_okB h
  refine tilesM_of ?_ ?_ ?_
  · intro x hx
    obtain ⟨m, hm, rfl, ht⟩ := outM_mem.1 hx
    exact ⟨m + 1, out_num h a m ha hm ht⟩
  · intro p q hp hq
    obtain ⟨r, hr⟩ : ∃ r, r = if a ≤ p then p + 1 else p := ⟨_, rfl⟩
    have hrR : r < R := by rw [hr]; split <;> omega
    have h1 := (htl r q (by unfold vis; simp; omega)).1
    obtain ⟨m, hm⟩ : ∃ m, numF l l.length (r * 5 + q) = m + 1 := ⟨numF l l.length (r * 5 + q) - 1, by omega⟩
    obtain ⟨hml, hin⟩ := (num_iff h r q m hq).1 hm
    obtain ⟨r0, b, d, g, e, q1, q2, q3, q4⟩ := cell_nat h m hml
    have key : tallB (outC a (l.getD m cl0)) = true ∧ inB (outC a (l.getD m cl0)) p q = true := by
      generalize (l.getD m cl0).2.2.2.2 = t at e
      rw [e] at hin ⊢
      rw [inB_cell] at hin
      unfold outC tallB
      simp only
      have hr' : (a ≤ p ∧ r = p + 1) ∨ (¬ a ≤ p ∧ r = p) := by
        by_cases hap : a ≤ p
        · exact .inl ⟨hap, by rw [hr, if_pos hap]⟩
        · exact .inr ⟨hap, by rw [hr, if_neg hap]⟩
      by_cases c1 : (a : Int) < (r0 : Int)
      · rw [if_pos c1]
        simp only [decide_eq_true_eq, inB]
        omega
      · rw [if_neg c1]
        by_cases c2 : (a : Int) < (r0 : Int) + (d : Int)
        · rw [if_pos c2]
          simp only [decide_eq_true_eq, inB]
          omega
        · rw [if_neg c2]
          simp only [decide_eq_true_eq, inB]
          omega
    exact ⟨_, outM_mem.2 ⟨m, hml, rfl, key.1⟩, key.2⟩
  · unfold outM
    rw [List.pairwise_filter, List.pairwise_map, List.pairwise_iff_getElem]
    intro i k hi hk hik t1 t2
    rw [← getD_get hi] at t1 ⊢
    rw [← getD_get hk] at t2 ⊢
    exact ⟨i + 1, k + 1, by omega, out_num h a i ha hi t1, out_num h a k ha hk t2⟩
theorem out_txt (h : okB R C l = true) (a : Nat) (ha : a < R) (k : Nat) (hk : k < (outL a l).length) : ∃ m, m < l.length ∧ ((outL a l).getD k cl0).2.2.2.2 = (l.getD m cl0).2.2.2.2 ∧ outF R a (numF l l.length) (stR ((outL a l).getD k cl0) * 5 + stC ((outL a l).getD k cl0)) = m + 1 := by
  obtain ⟨m, hm, e, ht⟩ := outM_mem.1 ((sortC_perm (outM a l)).mem_iff.1 (getD_mem hk))
  refine ⟨m, hm, ?_, ?_⟩
  · show ((sortC (outM a l)).getD k cl0).2.2.2.2 = _
    rw [← e, outC_txt]
  · have := (out_num h a m ha hm (by rw [e]; exact ht)).start
    rw [e] at this
    exact this
theorem outM_len (a : Int) : (outM a l).length ≤ l.length := by
  unfold outM
  exact Nat.le_trans (List.length_filter_le _ _) (by simp)
theorem outL_len (a : Int) : (outL a l).length ≤ l.length := by
  unfold outL
  rw [(sortC_perm _).length_eq]
  exact outM_len a
end
end Go.Proofs.Ytbigbbfbikhjdaa
namespace Go.Proofs.Ytbigbbfbikhjdaa
open Go.RowKit

theorem okAhead {R C : Int} {l : List Cl} (h : okB R C l = true) (i k : Nat) (hik : i < k) (hk : k < l.length) : (l.getD i cl0).1 < (l.getD k cl0).1 ∨ (l.getD i cl0).1 = (l.getD k cl0).1 ∧ (l.getD i cl0).2.1 < (l.getD k cl0).2.1 := by
  have hf := formB_of (show formB R C l = true by simp only [okB, Bool.and_eq_true] at h; exact h.1)
  exact ahead_of (ahead_far hf.2.2.2 k i hk hik)
/-- What is sorted and has the cells of a table that is ok is that table's list. -/
theorem sort_ok {R C : Int} {l M : List Cl} (h : okB R C l = true) (hp : M.Perm l) : sortC M = l := by
  have hp' : (sortC M).Perm l := (sortC_perm M).trans hp
  have hs : l.Pairwise leC := by
    rw [List.pairwise_iff_getElem]
    intro i k hi hk hik
    rw [← getD_get hi, ← getD_get hk, leC_iff]
    have := okAhead h i k hik hk
    omega
  refine List.Perm.eq_of_pairwise ?_ (sortC_sorted _) hs hp'
  intro a b ha hb h1 h2
  rw [leC_iff] at h1 h2
  obtain ⟨i, hi, ei⟩ := List.getElem_of_mem (hp'.mem_iff.1 ha)
  obtain ⟨k, hk, ek⟩ := List.getElem_of_mem hb
  rw [← getD_get hi] at ei
  rw [← getD_get hk] at ek
  rcases Nat.lt_trichotomy i k with q | q | q
  · have := okAhead h i k q hk
    rw [ei, ek] at this
    omega
  · subst q
    rw [← ei, ek]
  · have := okAhead h k i q hi
    rw [ei, ek] at this
    omega
theorem out_in {t' : Int} {x : Cl} (h : 1 ≤ x.2.2.1) : outC t' (inC t' x) = x := by
  obtain ⟨r, c, d, g, t⟩ := x
  simp only at h
  unfold inC
  simp only
  by_cases c1 : t' ≤ r
  · rw [if_pos c1]
    unfold outC
    simp only
    rw [if_pos (by omega)]
    simp
  · rw [if_neg c1]
    by_cases c2 : t' < r + d
    · rw [if_pos c2]
      unfold outC
      simp only
      rw [if_neg (by omega), if_pos (by omega)]
      simp
    · rw [if_neg c2]
      unfold outC
      simp only
      rw [if_neg (by omega), if_neg (by omega)]
theorem out_new (t' : Int) (c : Nat) : tallB (outC t' (t', (c : Int), 1, 1, [])) = false := by
  unfold outC
  simp only
  rw [if_neg (by omega), if_pos (by omega)]
  rfl
/-- A row put in, and taken out again. -/
theorem in_out {R C t' : Int} {l : List Cl} (h : rowInB R C l t' = true) : outL t' (inL t' C l) = l := by
  have hok : okB R C l = true := by
    simp only [rowInB, Bool.and_eq_true] at h
    exact h.1.1
  have hd : ∀ x ∈ l, 1 ≤ x.2.2.1 := by
    intro x hx
    obtain ⟨m, hm, e⟩ := List.getElem_of_mem hx
    rw [← getD_get hm] at e
    subst e
    have := wiB_of (stepB_of ((gridP_of_okB hok).2.2.1 m hm)).1
    omega
  refine sort_ok hok ?_
  unfold outM
  have h1 : (inL t' C l).Perm (inM t' C l) := sortC_perm _
  refine ((h1.map (outC t')).filter tallB).trans ?_
  unfold inM
  rw [List.map_append, List.filter_append]
  have e1 : ((l.map (inC t')).map (outC t')).filter tallB = l := by
    have e0 : l.map (outC t' ∘ inC t') = l.map id := List.map_congr_left (fun x hx => out_in (hd x hx))
    rw [List.map_map, e0, List.map_id, List.filter_eq_self]
    intro x hx
    exact decide_eq_true (by have := hd x hx; omega)
  have e2 : ((newI t' C l).map (outC t')).filter tallB = [] := by
    rw [List.filter_eq_nil_iff]
    intro x hx
    obtain ⟨y, hy, rfl⟩ := List.mem_map.1 hx
    unfold newI at hy
    obtain ⟨c, _, rfl⟩ := List.mem_map.1 hy
    rw [out_new]
    simp
  rw [e1, e2, List.append_nil]
end Go.Proofs.Ytbigbbfbikhjdaa
