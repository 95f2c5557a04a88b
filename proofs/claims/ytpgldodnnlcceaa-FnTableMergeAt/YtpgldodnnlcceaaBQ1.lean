import Derived.Test.YtpgldodnnlcceaaBA2
import Derived.Laws.CopyOwn
import Derived.Deep.LoopGhost
import Derived.Deep.Cut
import Derived.Test.YtpgldodnnlcceaaBA1
namespace Go.Proofs.Ytpgldodnnlcceaa
open Go.RowKit

theorem run_copy_rows {P : Program} (w : World) (dT sT ty elem : TypeId) (size g o dLen dCap : Nat) (a : Addr) (sLen sCap : Nat) (cur : Array Value) (t : TypeId) (cs : List Value)
    (hu : P.underlying dT = some (.slice elem)) (hs : (P.info? elem).map (·.size) = some size)
    (hg : w.heap[g]? = some (.cells cur t (0, 0))) (hn : cs.length = Nat.min sLen dLen * size)
    (hsrc : ∀ j v, cs[j]? = some v → w.cell? (a.add j) = some v) (hfit : o + cs.length ≤ cur.size) (h1 : ∀ v ∈ cs, v.oneCell' = true) :
    (Builtin.copy_ #[dT, sT] ty #[.slice (some ⟨g, o, none⟩) dLen dCap, .slice (some a) sLen sCap]).run P w =
      .ok (goInt (Nat.min sLen dLen)) (w.setRow g (cur.toList.take o ++ cs ++ cur.toList.drop (o + cs.length)).toArray) := by
  have hl := run_loadCells_list (P := P) w a cs hsrc
  have hst := run_storeCells_at P g o t cs 0 cur w hg (by simpa using hfit) h1
  cases hq : P.info? elem with
  | none => simp [hq] at hs
  | some i =>
    have hi : i.size = size := by simpa [hq] using hs
    simp [Builtin.copy_, run_underlying hu, Builtin.lenOf, Builtin.firstCells, sizeOf, typeInfo, hq, hi, ← hn, hl, hst]
theorem run_copy_rows_none {P : Program} (w : World) (dT sT ty elem : TypeId) (size : Nat) (d a : Option Addr) (dLen dCap sLen sCap : Nat) (hu : P.underlying dT = some (.slice elem)) (hs : (P.info? elem).map (·.size) = some size) (hn : Nat.min sLen dLen = 0) :
    (Builtin.copy_ #[dT, sT] ty #[.slice d dLen dCap, .slice a sLen sCap]).run P w = .ok (goInt 0) w := by
  cases hq : P.info? elem with
  | none => simp [hq] at hs
  | some i =>
    cases a <;> cases d <;> simp [Builtin.copy_, run_underlying hu, Builtin.lenOf, Builtin.firstCells, sizeOf, typeInfo, hq, hn, loadCells, loadCellsFrom, storeCells]
theorem splice_get {α : Type} (L : List α) (off : Nat) (cs : List α) (h : off + cs.length ≤ L.length) (i : Nat) : (splice L off cs)[i]? = if i < off then L[i]? else if i < off + cs.length then cs[i - off]? else L[i]? := by
  unfold splice
  have ht : (L.take off).length = off := by simp; omega
  by_cases h1 : i < off
  · rw [if_pos h1, List.getElem?_append_left (by omega), List.getElem?_take_of_lt h1]
  · rw [if_neg h1, List.getElem?_append_right (by omega), ht]
    by_cases h2 : i < off + cs.length
    · rw [if_pos h2, List.getElem?_append_left (by omega)]
    · rw [if_neg h2, List.getElem?_append_right (by omega), List.getElem?_drop]
      congr 1
      omega
/-- copy within a row, elements of several cells: one step of a region that draws its order. -/
theorem step_copy_rows {P : Program} {ops : Array Oper} {o : Oper} {a : Act} {w : World} {K : Act → World → Prop} {Q : Exit → Act → World → Prop} {E : Prop} (hgd : o.guard = none) (d s : Operand) (dT sT : TypeId)
    (ho : o.op = .call { callee := .builtin .copy, args := #[d, s], argTypes := #[dT, sT] }) (elem : TypeId) (size : Nat) (hu : P.underlying dT = some (.slice elem)) (hsz : (P.info? elem).map (·.size) = some size)
    (dp sp : Option Addr) (dLen dCap sLen sCap : Nat) (hd : a.eval d = .slice dp dLen dCap) (hs : a.eval s = .slice sp sLen sCap)
    (g off : Nat) (cur : List Value) (t : TypeId) (hg : w.heap[g]? = some (.cells cur.toArray t (0, 0))) (cs : List Value) (m : Nat) (hm : Nat.min sLen dLen = m) (hn : cs.length = m * size)
    (hpos : 0 < m → dp = some ⟨g, off, none⟩ ∧ ∃ ad, sp = some ad ∧ ∀ j v, cs[j]? = some v → w.cell? (ad.add j) = some v)
    (hfit : off + cs.length ≤ cur.length) (h1 : ∀ v ∈ cs, v.oneCell' = true)
    (h : K (a.put o.dst (goInt m)) (w.setRow g (splice cur off cs).toArray)) :
    if Region.wanted o (yielded ops a.tmps) = true then Oper.wp P o a w K Q else E := by
  have hw : Region.wanted o (yielded ops a.tmps) = true := by simp [Region.wanted, hgd]
  rw [if_pos hw]
  by_cases h0 : m = 0
  · subst h0
    obtain rfl : cs = [] := List.eq_nil_of_length_eq_zero (by simpa using hn)
    have hrun := run_copy_rows_none (P := P) w dT sT o.type elem size dp sp dLen dCap sLen sCap hu hsz hm
    unfold Oper.wp
    simp [execOp, ho, resolve, invoke, builtin, hd, hs, hrun, Result.andThen]
    have e : (splice cur off ([] : List Value)).toArray = cur.toArray := by simp [splice]
    rw [e, setRow_self w g _ _ _ hg] at h
    exact h
  · obtain ⟨rfl, ad, rfl, hsrc⟩ := hpos (by omega)
    have hrun := run_copy_rows (P := P) w dT sT o.type elem size g off dLen dCap ad sLen sCap cur.toArray t cs hu hsz hg (by rw [hm]; exact hn) hsrc (by simpa using hfit) h1
    unfold Oper.wp
    simp [execOp, ho, resolve, invoke, builtin, hd, hs, hrun, Result.andThen, hm]
    have h' : K (a.put o.dst (goInt m)) (w.setRow g (List.take off cur ++ (cs ++ List.drop (off + cs.length) cur)).toArray) := h
    exact h'
end Go.Proofs.Ytpgldodnnlcceaa
namespace Go.Proofs.Ytpgldodnnlcceaa
open Go.RowKit

theorem run_loadVar_sub {P : Program} (w : World) (ad : Addr) (ty : TypeId) (cs : List Value) (d : TypeDesc) (hc : ∀ j v, cs[j]? = some v → w.cell? (ad.add j) = some v)
    (hu : P.underlying ty = some d) (hd : (match d with | .struct _ | .array _ _ => true | _ => false) = true) (hi : (P.info? ty).map (·.size) = some cs.length) :
    (loadVar ty ad).run P w = .ok (.agg cs.toArray) w := by
  have hl := run_loadCells_list (P := P) w ad cs hc
  cases hq : P.info? ty with
  | none => simp [hq] at hi
  | some i =>
    have hs : i.size = cs.length := by simpa [hq] using hi
    have hagg : (isAgg ty).run P w = .ok true w := by
      unfold isAgg
      rw [Sem.run_bind, run_underlying hu w]
      cases d <;> simp_all
    simp [loadVar, Sem.run_bind, hagg, sizeOf, typeInfo, hq, hs, hl]
theorem wpList_load_sub {P : Program} {ops : Array Oper} {rest : List Oper} {o : Oper} {a : Act} {w : World} {Q : Exit → Act → World → Prop} (hgd : o.guard = none) (ty : TypeId) (x : Operand) (ho : o.op = .load ty x)
    (ad : Addr) (hx : a.eval x = .pointer (some ad)) (cs : List Value) (d : TypeDesc) (hc : ∀ j v, cs[j]? = some v → w.cell? (ad.add j) = some v)
    (hu : P.underlying ty = some d) (hd : (match d with | .struct _ | .array _ _ => true | _ => false) = true) (hi : (P.info? ty).map (·.size) = some cs.length)
    (h : wpList P ops Q rest (a.put o.dst (.agg cs.toArray)) w) : wpList P ops Q (o :: rest) a w := by
  refine wpList_plain hgd fun K hK => ?_
  unfold Oper.wp execOp
  simp only [ho, hx, Instr.loadAt, Instr.sureAddr, Sem.run_bind, Sem.run_pure, Result.andThen_ok, run_loadVar_sub w ad ty cs d hc hu hd hi]
  exact hK _ _ h
theorem wpList_store_sub {P : Program} {ops : Array Oper} {rest : List Oper} {o : Oper} {a : Act} {w : World} {Q : Exit → Act → World → Prop} (hgd : o.guard = none) (ty : TypeId) (x y : Operand) (ho : o.op = .store ty x y)
    (g off : Nat) (cs : List Value) (hx : a.eval x = .pointer (some ⟨g, off, none⟩)) (hy : a.eval y = .agg cs.toArray)
    (t : TypeId) (cur : List Value) (hg : w.heap[g]? = some (.cells cur.toArray t (0, 0))) (hi : (P.info? ty).map (·.size) = some cs.length)
    (hfit : off + cs.length ≤ cur.length) (h1 : ∀ v ∈ cs, v.oneCell' = true)
    (h : wpList P ops Q rest (a.put o.dst undef) (w.setRow g (splice cur off cs).toArray)) : wpList P ops Q (o :: rest) a w := by
  refine wpList_plain hgd fun K hK => ?_
  have hst := run_storeCells_at P g off t cs 0 cur.toArray w hg (by simpa using hfit) h1
  have hrun : (storeVar ty ⟨g, off, none⟩ (.agg cs.toArray)).run P w = .ok () (w.setRow g (splice cur off cs).toArray) := by
    cases hq : P.info? ty with
    | none => simp [hq] at hi
    | some i =>
      have hs : cs.length = i.size := by simp [hq] at hi; omega
      simp [storeVar, sizeOf, typeInfo, hq, Value.cells, hs.symm, hst, splice]
  unfold Oper.wp execOp
  simp only [ho, hx, hy, Instr.storeAt, Instr.sureAddr, Sem.run_bind, Sem.run_pure, Result.andThen_ok, hrun]
  exact hK _ _ h
/-- Five numbers. -/
def rowL (h : Nat → Nat) : List Value := (List.range 5).map (fun k => Value.int .i64 (h k))
theorem rowL_length (h : Nat → Nat) : (rowL h).length = 5 := by simp [rowL]
theorem rowL_get (h : Nat → Nat) (j : Nat) (hj : j < 5) : (rowL h)[j]? = some (.int .i64 (h j)) := by
  unfold rowL
  rw [List.getElem?_map, List.getElem?_range hj]
  rfl
theorem rowL_one (h : Nat → Nat) : ∀ v ∈ rowL h, v.oneCell' = true := by
  intro v hv
  simp only [rowL, List.mem_map] at hv
  obtain ⟨j, _, rfl⟩ := hv
  rfl
theorem rowL_all (h : Nat → Nat) : (rowL h).toArray.all (·.oneCell') = true := by
  refine Array.all_eq_true_iff_forall_mem.2 ?_
  intro v hv
  exact rowL_one h v (by simpa using hv)
theorem rowL_zero : (rowL (fun _ => 0)).toArray = #[.int .i64 0, .int .i64 0, .int .i64 0, .int .i64 0, .int .i64 0] := by rfl
theorem rowL_set (h : Nat → Nat) (j v : Nat) (hj : j < 5) : (rowL h).toArray.setIfInBounds j (.int .i64 v) = (rowL (upd h j v)).toArray := by
  apply Array.ext_getElem?
  intro i
  rw [Array.getElem?_setIfInBounds]
  simp only [List.size_toArray, rowL_length, List.getElem?_toArray]
  by_cases hij : j = i
  · subst hij
    rw [if_pos rfl, if_pos hj, rowL_get _ _ hj]
    simp [upd]
  · rw [if_neg hij]
    by_cases hi : i < 5
    · rw [rowL_get _ _ hi, rowL_get _ _ hi]
      simp [upd, Ne.symm hij]
    · rw [List.getElem?_eq_none (by rw [rowL_length]; omega), List.getElem?_eq_none (by rw [rowL_length]; omega)]
theorem five_info : (Try.prog.info? 44).map (·.size) = some 5 := by kernel_rfl
theorem int_info : (Try.prog.info? 3).map (·.size) = some 1 := by kernel_rfl
theorem wpList_index_five {w : World} {ops : Array Oper} {rest : List Oper} {o : Oper} {a : Act} {Q : Exit → Act → World → Prop} (hgd : o.guard = none) (x y : Operand) (ho : o.op = .index 44 x y) (h : Nat → Nat) (j : Nat) (hj : j < 5) (hx : a.eval x = .agg (rowL h).toArray) (hy : a.eval y = .int .i64 j)
    (hk : wpList Try.prog ops Q rest (a.put o.dst (.int .i64 (h j))) w) : wpList Try.prog ops Q (o :: rest) a w := by
  refine wpList_plain hgd fun K hK => ?_
  have hr : (Instr.index 44 (.agg (rowL h).toArray) (.int .i64 j)).run Try.prog w = .ok (.int .i64 (h j)) w := by
    have hsz : (sizeOf 3).run Try.prog w = .ok 1 w := by
      have := int_info
      cases hq : Try.prog.info? 3 with
      | none => simp [hq] at this
      | some i =>
        have hs : i.size = 1 := by simpa [hq] using this
        simp [sizeOf, typeInfo, hq, hs]
    simp [Instr.index, asIntOf, run_underlying Try.underlying44 w, part, isAgg, hsz, rowL_get h j hj]
    intro hh
    exact absurd hh (by omega)
  unfold Oper.wp execOp
  simp only [ho, hx, hy, hr, Sem.run_bind, Sem.run_pure, Result.andThen_ok]
  exact hK _ _ hk
end Go.Proofs.Ytpgldodnnlcceaa
namespace Go.Proofs.Ytpgldodnnlcceaa
open Go.RowKit

/-- The cells that go over the edge ahead of a row. -/
def thrF (R a : Nat) (f : Nat → Nat) : Nat → Nat := fun k => if a = 0 ∨ a = R then 0 else if f ((a - 1) * 5 + k) = f (a * 5 + k) then f (a * 5 + k) else 0
def thrJ (a j : Nat) (f : Nat → Nat) : Nat → Nat := fun k => if k < j ∧ f ((a - 1) * 5 + k) = f (a * 5 + k) then f (a * 5 + k) else 0
theorem thrJ_zero (a : Nat) (f : Nat → Nat) : thrJ a 0 f = fun _ => 0 := by
  funext k
  simp [thrJ]
theorem rowL_same {h h' : Nat → Nat} (e : ∀ k, k < 5 → h k = h' k) : rowL h = rowL h' := by
  unfold rowL
  apply List.map_congr_left
  intro k hk
  rw [e k (by simpa using hk)]
theorem thrJ_skip (a j : Nat) (f : Nat → Nat) (h : ¬ f ((a - 1) * 5 + j) = f (a * 5 + j)) : thrJ a (j + 1) f = thrJ a j f := by
  funext k
  unfold thrJ
  by_cases hk : k = j
  · subst hk
    rw [if_neg (fun hh => h hh.2), if_neg (fun hh => h hh.2)]
  · by_cases hc : k < j ∧ f ((a - 1) * 5 + k) = f (a * 5 + k)
    · rw [if_pos hc, if_pos ⟨by omega, hc.2⟩]
    · rw [if_neg hc, if_neg (fun hh => hc ⟨by omega, hh.2⟩)]
theorem thrJ_put (a j : Nat) (f : Nat → Nat) (h : f ((a - 1) * 5 + j) = f (a * 5 + j)) : thrJ a (j + 1) f = upd (thrJ a j f) j (f (a * 5 + j)) := by
  funext k
  unfold thrJ upd
  by_cases hk : k = j
  · subst hk
    rw [if_pos rfl, if_pos ⟨by omega, h⟩]
  · rw [if_neg hk]
    show _ = if k < j ∧ f ((a - 1) * 5 + k) = f (a * 5 + k) then f (a * 5 + k) else 0
    by_cases hc : k < j ∧ f ((a - 1) * 5 + k) = f (a * 5 + k)
    · rw [if_pos hc, if_pos ⟨by omega, hc.2⟩]
    · rw [if_neg hc, if_neg (fun hh => hc ⟨by omega, hh.2⟩)]
theorem row_cells {w : World} {b : Nat} {R C : Int} {n a : Nat} {f : Nat → Nat} {t : Nat → Sl} (h : GridAt w b R C n f t) (ha : a < 5) (o : Nat) (ho : o = 3 + a * 5) : ∀ j v, (rowL (fun k => f (a * 5 + k)))[j]? = some v → w.cell? ((⟨b, o, none⟩ : Addr).add j) = some v := by
  intro j v hv
  subst ho
  have hj : j < 5 := by
    have := (List.getElem?_eq_some_iff.1 hv).1
    rwa [rowL_length] at this
  have hadd : (⟨b, 3 + a * 5, none⟩ : Addr).add j = ⟨b, 3 + (a * 5 + j), none⟩ := by
    unfold Addr.add
    simp only [Nat.add_assoc]
    split
    · simp_all
    · rfl
  rw [hadd, h.num _ (by omega), ← rowL_get (fun k => f (a * 5 + k)) j hj]
  exact hv

set_option maxRecDepth 100000 in
set_option maxHeartbeats 4000000 in
theorem through_any (R C n a : Nat) (f : Nat → Nat) (t : Nat → Sl) (w : World) (ha : a ≤ R) (hR : R ≤ 4) :
    Calls Try.prog 50 #[.agg (gridA R C n f t), .int .i64 a] w fun z w' => z = .returned (.agg (rowL (thrF R a f)).toArray) ∧ Below w.heap.size w w' := by
  go_enter Try.func50, Try.ntmps50
  go_upto_region 2 with fail
  rw [← rowL_zero]
  have B0 : Below w.heap.size w (((w.alloc (.cells (gridA R C n f t) 48)).alloc (.cells (rowL (fun _ => 0)).toArray 44)).alloc (.cells (rowL (fun _ => 0)).toArray 44)) := (((Below.refl _ _).alloc (Nat.le_refl _) _).alloc (by simp) _).alloc (by simp; omega) _
  have G0 : GridAt (((w.alloc (.cells (gridA R C n f t) 48)).alloc (.cells (rowL (fun _ => 0)).toArray 44)).alloc (.cells (rowL (fun _ => 0)).toArray 44)) w.heap.size R C n f t := ((gridAt_new w R C n f t).alloc _).alloc _
  have G1 : RowAt (((w.alloc (.cells (gridA R C n f t) 48)).alloc (.cells (rowL (fun _ => 0)).toArray 44)).alloc (.cells (rowL (fun _ => 0)).toArray 44)) (w.heap.size + 1) (rowL (fun _ => 0)).toArray 44 := by
    have := (rowAt_new (w.alloc (.cells (gridA R C n f t) 48)) (rowL (fun _ => 0)).toArray 44).alloc (.cells (rowL (fun _ => 0)).toArray 44)
    simpa using this
  have G2 : RowAt (((w.alloc (.cells (gridA R C n f t) 48)).alloc (.cells (rowL (fun _ => 0)).toArray 44)).alloc (.cells (rowL (fun _ => 0)).toArray 44)) (w.heap.size + 1 + 1) (rowL (fun _ => 0)).toArray 44 := by
    have := rowAt_new ((w.alloc (.cells (gridA R C n f t) 48)).alloc (.cells (rowL (fun _ => 0)).toArray 44)) (rowL (fun _ => 0)).toArray 44
    simpa using this
  generalize (((w.alloc (.cells (gridA R C n f t) 48)).alloc (.cells (rowL (fun _ => 0)).toArray 44)).alloc (.cells (rowL (fun _ => 0)).toArray 44)) = v at B0 G0 G1 G2 ⊢
  have k0 := G0.rows
  have z0 := G0.lt
  have z1 := G1.lt
  have z2 := G2.lt
  have HG : Hid (GridAt v w.heap.size R C n f t) := G0
  have H1 : Hid (RowAt v (w.heap.size + 1) (rowL (fun _ => 0)).toArray 44) := G1
  have H2 : Hid (RowAt v (w.heap.size + 1 + 1) (rowL (fun _ => 0)).toArray 44) := G2
  have HB0 : Hid (Below w.heap.size w v) := B0
  clear G0 G1 G2 B0
  by_cases he : a = 0 ∨ a = R
  · have HE : Hid (rowL (thrF R a f) = rowL (fun _ => 0)) := rowL_same (fun k _ => by unfold thrF; rw [if_pos he])
    by_cases h0 : a = 0
    · have e0 : ((a : Int) == 0) = true := by simp [h0]
      clear h0 he
      go_wp2_with (first | (refine wpList_load_row rfl 44 (.tmp 5) rfl (w.heap.size + 1 + 1) rfl 44 (rowL (fun _ => 0)).toArray (0, 0) _ H2.out Try.underlying44 rfl (by rw [five_info]; simp [rowL_length]) ?_) | (refine wpList_store_row rfl 44 (.tmp 4) (.tmp 16) rfl (w.heap.size + 1) (rowL (fun _ => 0)).toArray rfl rfl 44 _ H1.out (by rw [five_info]; simp [rowL_length]) rfl (rowL_all _) ?_))
      refine bodyPost_ret (v := .agg (rowL (fun _ => 0)).toArray) (results_cell_row (p := 4) (ty := 44) rfl _ _ (w.heap.size + 1) 44 _ _ _ rfl (RowAt.setRow H1.out _) Try.underlying44 rfl (by rw [five_info]; simp [rowL_length])) rfl ⟨by rw [HE.out], below_row HB0.out (by omega) _⟩
    · have e0 : ((a : Int) == 0) = false := by simp [h0]
      have e1 : ((a : Int) == (R : Int)) = true := by simp; omega
      clear h0 he
      go_wp2_with (first | (refine wpList_load_row rfl 44 (.tmp 5) rfl (w.heap.size + 1 + 1) rfl 44 (rowL (fun _ => 0)).toArray (0, 0) _ H2.out Try.underlying44 rfl (by rw [five_info]; simp [rowL_length]) ?_) | (refine wpList_store_row rfl 44 (.tmp 4) (.tmp 16) rfl (w.heap.size + 1) (rowL (fun _ => 0)).toArray rfl rfl 44 _ H1.out (by rw [five_info]; simp [rowL_length]) rfl (rowL_all _) ?_))
      refine bodyPost_ret (v := .agg (rowL (fun _ => 0)).toArray) (results_cell_row (p := 4) (ty := 44) rfl _ _ (w.heap.size + 1) 44 _ _ _ rfl (RowAt.setRow H1.out _) Try.underlying44 rfl (by rw [five_info]; simp [rowL_length])) rfl ⟨by rw [HE.out], below_row HB0.out (by omega) _⟩
  · have HE : Hid (rowL (thrF R a f) = rowL (thrJ a 5 f)) := rowL_same (fun k hk => by
      unfold thrF thrJ
      rw [if_neg he]
      by_cases hc : f ((a - 1) * 5 + k) = f (a * 5 + k)
      · rw [if_pos hc, if_pos ⟨hk, hc⟩]
      · rw [if_neg hc, if_neg (fun hh => hc hh.2)])
    have e0 : ((a : Int) == 0) = false := by simp; omega
    have e1 : ((a : Int) == (R : Int)) = false := by simp; omega
    have b0 : (a : Int) < 5 := by omega
    have b1 : (0 : Int) ≤ (a : Int) - 1 := by omega
    have b2 : (a : Int) - 1 < 5 := by omega
    have a1 : 1 ≤ a := by omega
    have a5 : a < 5 := by omega
    clear he
    obtain ⟨h, HH⟩ : ∃ h, Hid ((fun k => f (a * 5 + k)) = h) := ⟨_, rfl⟩
    have HRC : Hid (∀ j u, (rowL h)[j]? = some u → v.cell? ((⟨w.heap.size, 3 + a * 5, none⟩ : Addr).add j) = some u) := by
      show ∀ j u, (rowL h)[j]? = some u → v.cell? ((⟨w.heap.size, 3 + a * 5, none⟩ : Addr).add j) = some u
      rw [← HH.out]
      exact row_cells HG.out a5 _ rfl
    go_wp2_with (first | (refine wpList_load_sub rfl 44 (.tmp 19) rfl ⟨w.heap.size, 3 + a * 5, none⟩ rfl (rowL h) _ HRC.out Try.underlying44 rfl (by rw [five_info, rowL_length]) ?_))
    go_loopw [21] (fun jv wr => ∃ j : Nat, j ≤ 5 ∧ jv = .int .i64 j ∧ RowAt wr (w.heap.size + 1 + 1) (rowL (thrJ a j f)).toArray 44 ∧ GridAt wr w.heap.size R C n f t ∧ RowAt wr (w.heap.size + 1) (rowL (fun _ => 0)).toArray 44 ∧ Below w.heap.size w wr) (fun jv _ => 5 - (intOf jv).toNat)
    case atStart => exact ⟨0, by omega, rfl, by rw [thrJ_zero]; exact H2.out, HG.out, H1.out, HB0.out⟩
    case round =>
      clear HG H1 H2 HB0 HRC k0
      obtain ⟨j, hj, rfl, hr, hg, h1, hb⟩ := hrel
      have HR : Hid (RowAt wr (w.heap.size + 1 + 1) (rowL (thrJ a j f)).toArray 44) := hr
      have HG : Hid (GridAt wr w.heap.size R C n f t) := hg
      have H1 : Hid (RowAt wr (w.heap.size + 1) (rowL (fun _ => 0)).toArray 44) := h1
      have HB : Hid (Below w.heap.size w wr) := hb
      by_cases hlj : j < 5
      · have k0 := hg.num ((a - 1) * 5 + j) (by omega)
        have c0 : (((a : Int) - 1).toNat) = a - 1 := by omega
        have hj5 : (j : Int) < 5 := by omega
        obtain ⟨x, HXv⟩ : ∃ x, Hid (f ((a - 1) * 5 + j) = x) := ⟨_, rfl⟩
        obtain ⟨y, HYv⟩ : ∃ y, Hid (h j = y) := ⟨_, rfl⟩
        rw [← Nat.add_assoc, HXv.out] at k0
        have r0 : wr.cell? ⟨w.heap.size + 1 + 1, j, none⟩ = some (.int .i64 (thrJ a j f j)) := by
          rw [hr.cell, List.getElem?_toArray, rowL_get _ _ hlj]
        have r1 := hr.frozen j
        have HYa : Hid (f (a * 5 + j) = y) := by
          show f (a * 5 + j) = y
          rw [← HYv.out, ← HH.out]
        clear hr hg h1 hb
        by_cases hxy : x = y
        · have hq : ((x : Int) == (y : Int)) = true := by simp [hxy]
          have HQ : Hid (x = y) := hxy
          clear hxy
          go_wp2_with (refine wpList_index_five rfl (.tmp 20) (.tmp 21) rfl h j hlj rfl rfl ?_; rw [HYv.out])
          go_roundw
          case rel =>
            have eT : thrJ a (j + 1) f = upd (thrJ a j f) j y := by
              rw [thrJ_put a j f (by rw [HXv.out, HYa.out]; exact HQ.out), HYa.out]
            refine ⟨j + 1, by omega, by go_num, ?_, HG.out.other _ _ (by simp; omega), H1.out.other _ _ (by simp), HB.out.setCell (by show w.heap.size ≤ w.heap.size + 1 + 1; omega) _⟩
            rw [eT, ← rowL_set _ _ _ hlj]
            exact HR.out.setCell j (.int .i64 y)
          case measure => simp [intOf]; omega
        · have hq : ((x : Int) == (y : Int)) = false := by simp; omega
          have HQ : Hid (¬ x = y) := hxy
          clear hxy
          go_wp2_with (refine wpList_index_five rfl (.tmp 20) (.tmp 21) rfl h j hlj rfl rfl ?_; rw [HYv.out])
          go_roundw
          case rel =>
            have eT : thrJ a (j + 1) f = thrJ a j f := thrJ_skip a j f (by rw [HXv.out, HYa.out]; exact HQ.out)
            exact ⟨j + 1, by omega, by go_num, by rw [eT]; exact HR.out, HG.out, H1.out, HB.out⟩
          case measure => simp [intOf]; omega
      · obtain rfl : j = 5 := by omega
        clear hr hg h1 hb
        go_wp2_with (first | (refine wpList_load_row rfl 44 (.tmp 5) rfl (w.heap.size + 1 + 1) rfl 44 (rowL (thrJ a 5 f)).toArray (0, 0) _ HR.out Try.underlying44 rfl (by rw [five_info]; simp [rowL_length]) ?_) | (refine wpList_store_row rfl 44 (.tmp 4) (.tmp 38) rfl (w.heap.size + 1) (rowL (thrJ a 5 f)).toArray rfl rfl 44 _ H1.out (by rw [five_info]; simp [rowL_length]) (by simp [rowL_length]) (rowL_all _) ?_))
        refine bodyPost_ret (v := .agg (rowL (thrJ a 5 f)).toArray) (results_cell_row (p := 4) (ty := 44) rfl _ _ (w.heap.size + 1) 44 _ _ _ rfl (RowAt.setRow H1.out _) Try.underlying44 rfl (by rw [five_info]; simp [rowL_length])) rfl ⟨by rw [HE.out], below_row HB.out (by omega) _⟩
end Go.Proofs.Ytpgldodnnlcceaa
namespace Go.Proofs.Ytpgldodnnlcceaa
open Go.RowKit

/-- The squares' numbers with a row more; its own are h. -/
def copyF (R a : Nat) (f : Nat → Nat) : Nat → Nat := fun s => if a < s / 5 ∧ s / 5 ≤ R then f (s - 5) else f s
def inF (R a : Nat) (f h : Nat → Nat) : Nat → Nat := fun s => if s / 5 = a then h (s % 5) else copyF R a f s
def headV (R a : Nat) (f : Nat → Nat) : List Value := (List.range ((R - a) * 5)).map (fun j => Value.int .i64 (f (a * 5 + j)))
theorem headV_length (R a : Nat) (f : Nat → Nat) : (headV R a f).length = (R - a) * 5 := by simp [headV]
theorem headV_one (R a : Nat) (f : Nat → Nat) : ∀ v ∈ headV R a f, v.oneCell' = true := by
  intro v hv
  simp only [headV, List.mem_map] at hv
  obtain ⟨j, _, rfl⟩ := hv
  rfl
theorem gridL_get (R C : Int) (n : Nat) (f : Nat → Nat) (t : Nat → Sl) (i : Nat) : (gridL R C n f t)[i]? = (gridA R C n f t)[i]? := by simp [gridA]
theorem gridA_copy (R C n a : Nat) (f : Nat → Nat) (t : Nat → Sl) (ha : a ≤ R) (hR : R ≤ 4) : (splice (gridL R C n f t) (3 + (a + 1) * 5) (headV R a f)).toArray = gridA R C n (copyF R a f) t := by
  apply Array.ext_getElem?
  intro i
  rw [List.getElem?_toArray, splice_get _ _ _ (by rw [gridL_length, headV_length]; omega), headV_length, gridL_get, gridA_get, gridA_get]
  by_cases h1 : i < 3 + (a + 1) * 5
  · rw [if_pos h1]
    by_cases h3 : i < 3
    · match i, h3 with
      | 0, _ => rfl
      | 1, _ => rfl
      | 2, _ => rfl
    · have : copyF R a f (i - 3) = f (i - 3) := by
        unfold copyF
        rw [if_neg (by omega)]
      rw [this]
  · rw [if_neg h1]
    by_cases h2 : i < 3 + (a + 1) * 5 + (R - a) * 5
    · rw [if_pos h2, if_neg (show ¬ i = 0 by omega), if_neg (show ¬ i = 1 by omega), if_neg (show ¬ i = 2 by omega), if_pos (show i < 28 by omega)]
      have : copyF R a f (i - 3) = f (i - 3 - 5) := by
        unfold copyF
        rw [if_pos (by omega)]
      rw [this]
      unfold headV
      rw [List.getElem?_map, List.getElem?_range (by omega)]
      simp only [Option.map_some]
      rw [show a * 5 + (i - (3 + (a + 1) * 5)) = i - 3 - 5 by omega]
    · rw [if_neg h2]
      by_cases h3 : i < 28
      · have : copyF R a f (i - 3) = f (i - 3) := by
          unfold copyF
          rw [if_neg (by omega)]
        rw [this]
      · simp only [if_neg h3, show ¬ i = 0 by omega, show ¬ i = 1 by omega, show ¬ i = 2 by omega, if_false]
theorem gridA_putRow (R C : Int) (n a : Nat) (f h : Nat → Nat) (t : Nat → Sl) (ha : a < 5) : (splice (gridL R C n f t) (3 + a * 5) (rowL h)).toArray = gridA R C n (fun s => if s / 5 = a then h (s % 5) else f s) t := by
  apply Array.ext_getElem?
  intro i
  rw [List.getElem?_toArray, splice_get _ _ _ (by rw [gridL_length, rowL_length]; omega), rowL_length, gridL_get, gridA_get, gridA_get]
  by_cases h1 : i < 3 + a * 5
  · rw [if_pos h1]
    by_cases h3 : i < 3
    · match i, h3 with
      | 0, _ => rfl
      | 1, _ => rfl
      | 2, _ => rfl
    · rw [if_neg (show ¬ (i - 3) / 5 = a by omega)]
  · rw [if_neg h1]
    by_cases h2 : i < 3 + a * 5 + 5
    · rw [if_pos h2, if_neg (show ¬ i = 0 by omega), if_neg (show ¬ i = 1 by omega), if_neg (show ¬ i = 2 by omega), if_pos (show i < 28 by omega), if_pos (show (i - 3) / 5 = a by omega), rowL_get _ _ (by omega), show (i - 3) % 5 = i - (3 + a * 5) by omega]
    · rw [if_neg h2]
      by_cases h3 : i < 28
      · rw [if_neg (show ¬ (i - 3) / 5 = a by omega)]
      · simp only [if_neg h3, show ¬ i = 0 by omega, show ¬ i = 1 by omega, show ¬ i = 2 by omega, if_false]
theorem gridA_set_rowsI (R C : Int) (n : Nat) (R' : Int) (f : Nat → Nat) (t : Nat → Sl) : (gridA R C n f t).setIfInBounds 0 (.int .i64 R') = gridA R' C n f t := by
  apply Array.ext_getElem?
  intro i
  rw [Array.getElem?_setIfInBounds, gridA_get, gridA_get, gridA_size]
  by_cases h : 0 = i
  · subst h; rfl
  · rw [if_neg h]
    by_cases h3 : i = 0
    · exact absurd h3.symm h
    · simp only [if_neg h3]
theorem GridAt.setRowsI {w : World} {b : Nat} {R C : Int} {n : Nat} {f : Nat → Nat} {t : Nat → Sl} (h : GridAt w b R C n f t) (R' : Int) : GridAt (w.setCell ⟨b, 0, none⟩ (.int .i64 R')) b R' C n f t := by
  unfold GridAt
  rw [← gridA_set_rowsI R C n R']
  exact RowAt.setCell h _ _
theorem head_cells {w : World} {b : Nat} {R C n a : Nat} {f : Nat → Nat} {t : Nat → Sl} (h : GridAt w b R C n f t) (hR : R ≤ 4) (o : Nat) (ho : o = 3 + a * 5) : ∀ j v, (headV R a f)[j]? = some v → w.cell? ((⟨b, o, none⟩ : Addr).add j) = some v := by
  intro j v hv
  subst ho
  have hj : j < (R - a) * 5 := by
    have := (List.getElem?_eq_some_iff.1 hv).1
    rwa [headV_length] at this
  have hadd : (⟨b, 3 + a * 5, none⟩ : Addr).add j = ⟨b, 3 + (a * 5 + j), none⟩ := by
    unfold Addr.add
    simp only [Nat.add_assoc]
    split
    · simp_all
    · rfl
  rw [hadd, h.num _ (by omega)]
  unfold headV at hv
  rw [List.getElem?_map, List.getElem?_range hj] at hv
  simpa using hv

set_option maxRecDepth 100000 in
set_option maxHeartbeats 4000000 in
theorem rowIn_any (R C n a : Nat) (f : Nat → Nat) (t : Nat → Sl) (w : World) (ha : a ≤ R) (hR : R ≤ 4) :
    Calls Try.prog 28 #[.agg (gridA R C n f t), .int .i64 a] w fun z w' => z = .returned (.agg (gridA ((R + 1 : Nat) : Int) C n (inF R a f (thrF R a f)) t)) ∧ Below w.heap.size w w' := by
  go_enter Try.func28, Try.ntmps28
  go_upto_region 1 with fail
  rw [← grid_zero]
  have B0 : Below w.heap.size w ((w.alloc (.cells (gridA R C n f t) 48)).alloc (.cells (gridA 0 0 0 (fun _ => 0) (fun _ => sl0)) 48)) := (((Below.refl _ _).alloc (Nat.le_refl _) _).alloc (by simp) _)
  have G0 : GridAt ((w.alloc (.cells (gridA R C n f t) 48)).alloc (.cells (gridA 0 0 0 (fun _ => 0) (fun _ => sl0)) 48)) w.heap.size R C n f t := (gridAt_new w R C n f t).alloc _
  have G1 : GridAt ((w.alloc (.cells (gridA R C n f t) 48)).alloc (.cells (gridA 0 0 0 (fun _ => 0) (fun _ => sl0)) 48)) (w.heap.size + 1) 0 0 0 (fun _ => 0) (fun _ => sl0) := by
    have := gridAt_new (w.alloc (.cells (gridA R C n f t) 48)) 0 0 0 (fun _ => 0) (fun _ => sl0)
    simpa using this
  generalize ((w.alloc (.cells (gridA R C n f t) 48)).alloc (.cells (gridA 0 0 0 (fun _ => 0) (fun _ => sl0)) 48)) = v at B0 G0 G1 ⊢
  have HG : Hid (GridAt v w.heap.size R C n f t) := G0
  have z0 := G0.lt
  have z1 := G1.lt
  obtain ⟨h, HH⟩ : ∃ h, Hid (thrF R a f = h) := ⟨_, rfl⟩
  go_upto_region 2 with (first | (refine wpList_load_row rfl 48 (.tmp 2) rfl w.heap.size rfl 48 (gridA R C n f t) (0, 0) _ HG.out Try.underlying48 rfl (grid_infoA _ _ _ _ _) ?_) | (go_at_call 50; refine (through_any R C n a f t _ ha hR).mono ?_; rintro e w1 ⟨rfl, hb1⟩; rw [HH.out]) | (rw [← rowL_zero]; refine wpList_store_row rfl 44 (.tmp 5) (.tmp 8) rfl w1.heap.size (rowL h).toArray rfl rfl 44 _ (rowAt_new _ _ _) (by rw [five_info]; simp [rowL_length]) (by simp [rowL_length]) (rowL_all _) ?_))
  have s1 := hb1.size
  have B2 : Below v.heap.size v ((w1.alloc (.cells (rowL (fun _ => 0)).toArray 44)).setRow w1.heap.size (rowL h).toArray) := below_row (hb1.alloc s1 _) s1 _
  have T2 : RowAt ((w1.alloc (.cells (rowL (fun _ => 0)).toArray 44)).setRow w1.heap.size (rowL h).toArray) w1.heap.size (rowL h).toArray 44 := RowAt.setRow (rowAt_new _ _ _) _
  generalize ((w1.alloc (.cells (rowL (fun _ => 0)).toArray 44)).setRow w1.heap.size (rowL h).toArray) = v2 at B2 T2 ⊢
  have X0 : GridAt v2 w.heap.size R C n f t := G0.below B2 z0
  have X1 : GridAt v2 (w.heap.size + 1) 0 0 0 (fun _ => 0) (fun _ => sl0) := G1.below B2 z1
  have s2 := B2.size
  have XB : Below w.heap.size w v2 := B0.trans (B2.mono B0.size)
  have k0 := X0.rows
  have hb0 : (a : Int) ≤ 5 := by omega
  have hb1' : (a : Int) ≤ R := by omega
  have hb2 : (R : Int) ≤ 5 := by omega
  have hb3 : (0 : Int) ≤ (a : Int) + 1 := by omega
  have hb4 : (a : Int) + 1 ≤ 5 := by omega
  have hw : IntKind.i64.wrap ((a : Int) + 1) = (a : Int) + 1 := by rw [IntKind.wrap_i64]; omega
  have h5 : ¬ 5 = a := by omega
  have ht : ((a : Int) + 1).toNat = a + 1 := by omega
  have HGX : Hid (GridAt v2 w.heap.size R C n f t) := X0
  have HS : Hid (GridAt (v2.drew.setRow w.heap.size (splice (gridL R C n f t) (3 + (a + 1) * 5) (headV R a f)).toArray) w.heap.size R C n (copyF R a f) t) := by
    show GridAt _ _ _ _ _ _ _
    rw [gridA_copy R C n a f t ha hR]
    exact RowAt.setRow (cs := gridA R C n f t) X0 _
  have HBS : Hid (Below w.heap.size w (v2.drew.setRow w.heap.size (splice (gridL R C n f t) (3 + (a + 1) * 5) (headV R a f)).toArray)) := below_row (XB.trans ((Below.refl _ _).drew)) (Nat.le_refl _) _
  have HZS : Hid (GridAt (v2.drew.setRow w.heap.size (splice (gridL R C n f t) (3 + (a + 1) * 5) (headV R a f)).toArray) (w.heap.size + 1) 0 0 0 (fun _ => 0) (fun _ => sl0)) := (setRow_other v2.drew w.heap.size (w.heap.size + 1) _ (by omega)).trans X1
  have HTS : Hid (RowAt (v2.drew.setRow w.heap.size (splice (gridL R C n f t) (3 + (a + 1) * 5) (headV R a f)).toArray) w1.heap.size (rowL h).toArray 44) := (setRow_other v2.drew w.heap.size w1.heap.size _ (by omega)).trans T2
  clear G0 G1 B0 X0 X1 XB T2 B2 HG
  by_cases h4 : a = 4
  · have h4' : a + 1 = 5 := by omega
    have hw5 : IntKind.i64.wrap 5 = 5 := by decide
    have h4r : (4 : Int) ≤ R := by omega
    go_wp2_with fail
    go_region_held3 (fun w' => w'.cell? ⟨w.heap.size, 0, none⟩ = some (.int .i64 R)) (first | exact HS.out.rows | go_keep)
      (refine step_copy_rows (by rfl) (.tmp 12) (.tmp 17) _ _ (by rfl) 44 5 Try.underlying81 five_info _ _ _ _ _ _ (by rfl) (by rfl) w.heap.size (3 + (a + 1) * 5) (gridL R C n f t) 48 HGX.out (headV R a f) 0 (by simp only [Nat.min_def]; split <;> omega) (by rw [headV_length]; omega) (fun hh => absurd hh (by simp)) (by rw [gridL_length, headV_length]; omega) (headV_one _ _ _) ?_)
    generalize (v2.drew.setRow w.heap.size (splice (gridL R C n f t) (3 + (a + 1) * 5) (headV R a f)).toArray) = v3 at HS HBS HZS HTS ⊢
    have k3 : v3.cell? ⟨w.heap.size, 0, none⟩ = some (.int .i64 R) := HS.out.rows
    have zz := HZS.out.lt
    have a5 : (a : Int) < 5 := by omega
    clear k0
    go_upto_region 4 with (first | (refine wpList_load_row rfl 44 (.tmp 5) rfl w1.heap.size rfl 44 (rowL h).toArray (0, 0) _ HTS.out Try.underlying44 rfl (by rw [five_info]; simp [rowL_length]) ?_) | (refine wpList_store_sub rfl 44 (.tmp 22) (.tmp 20) rfl w.heap.size (3 + a * 5) (rowL h) (by first | rfl | (rw [show 3 + a * 5 = 23 by omega]; rfl)) rfl 48 (gridL R C n (copyF R a f) t) HS.out (by rw [five_info, rowL_length]) (by rw [gridL_length, rowL_length]; omega) (rowL_one h) ?_))
    have Y0 : GridAt (v3.setRow w.heap.size (splice (gridL R C n (copyF R a f) t) (3 + a * 5) (rowL h)).toArray) w.heap.size R C n (inF R a f h) t := by
      rw [gridA_putRow R C n a (copyF R a f) h t (by omega)]
      exact RowAt.setRow (cs := gridA R C n (copyF R a f) t) HS.out _
    have Y1 : Below w.heap.size w (v3.setRow w.heap.size (splice (gridL R C n (copyF R a f) t) (3 + a * 5) (rowL h)).toArray) := below_row HBS.out (Nat.le_refl _) _
    have Y2 : GridAt (v3.setRow w.heap.size (splice (gridL R C n (copyF R a f) t) (3 + a * 5) (rowL h)).toArray) (w.heap.size + 1) 0 0 0 (fun _ => 0) (fun _ => sl0) := (setRow_other v3 w.heap.size (w.heap.size + 1) _ (by omega)).trans HZS.out
    generalize (v3.setRow w.heap.size (splice (gridL R C n (copyF R a f) t) (3 + a * 5) (rowL h)).toArray) = v4 at Y0 Y1 Y2 ⊢
    have k4 := Y0.rows
    have k5 := Y0.frozen 0
    clear k3
    go_upto_region 5 with fail
    have Z0 := Y0.setRowsI ((R : Int) + 1)
    have Z1 := Y1.setCell (p := ⟨w.heap.size, 0, none⟩) (Nat.le_refl _) (.int .i64 ((R : Int) + 1))
    have Z2 := Y2.other ⟨w.heap.size, 0, none⟩ (.int .i64 ((R : Int) + 1)) (by simp)
    clear k4 k5 Y0 Y1 Y2
    generalize (v4.setCell ⟨w.heap.size, 0, none⟩ (.int .i64 ((R : Int) + 1))) = v5 at Z0 Z1 Z2 ⊢
    have HY0 : Hid (GridAt v5 w.heap.size ((R : Int) + 1) C n (inF R a f h) t) := Z0
    have HY2 : Hid (GridAt v5 (w.heap.size + 1) 0 0 0 (fun _ => 0) (fun _ => sl0)) := Z2
    clear Z0 Z2
    go_wp2_with (first | (refine wpList_load_row rfl 48 (.tmp 2) rfl w.heap.size rfl 48 (gridA ((R : Int) + 1) C n (inF R a f h) t) (0, 0) _ HY0.out Try.underlying48 rfl (grid_infoA _ _ _ _ _) ?_) | (refine wpList_store_row rfl 48 (.tmp 4) (.tmp 27) rfl (w.heap.size + 1) (gridA ((R : Int) + 1) C n (inF R a f h) t) rfl rfl 48 _ HY2.out (grid_infoA _ _ _ _ _) (by rw [gridA_size, gridA_size]) (gridA_one _ _ _ _ _) ?_))
    refine bodyPost_ret (v := .agg (gridA ((R : Int) + 1) C n (inF R a f h) t)) (results_cell_row (p := 4) (ty := 48) rfl _ _ (w.heap.size + 1) 48 _ _ _ rfl (RowAt.setRow HY2.out _) Try.underlying48 rfl (grid_infoA _ _ _ _ _)) rfl ⟨?_, below_row Z1 (by omega) _⟩
    rw [HH.out, show ((R + 1 : Nat) : Int) = (R : Int) + 1 by omega]
  · have h4' : ¬ 5 = a + 1 := by omega
    go_wp2_with fail
    go_region_held3 (fun w' => w'.cell? ⟨w.heap.size, 0, none⟩ = some (.int .i64 R)) (first | exact HS.out.rows | go_keep)
      (refine step_copy_rows (by rfl) (.tmp 12) (.tmp 17) _ _ (by rfl) 44 5 Try.underlying81 five_info _ _ _ _ _ _ (by rfl) (by rfl) w.heap.size (3 + (a + 1) * 5) (gridL R C n f t) 48 HGX.out (headV R a f) (R - a) (Nat.min_eq_left (by omega)) (by rw [headV_length]) (fun _ => ⟨rfl, _, rfl, head_cells HGX.out hR _ rfl⟩) (by rw [gridL_length, headV_length]; omega) (headV_one _ _ _) ?_)
    generalize (v2.drew.setRow w.heap.size (splice (gridL R C n f t) (3 + (a + 1) * 5) (headV R a f)).toArray) = v3 at HS HBS HZS HTS ⊢
    have k3 : v3.cell? ⟨w.heap.size, 0, none⟩ = some (.int .i64 R) := HS.out.rows
    have zz := HZS.out.lt
    have a5 : (a : Int) < 5 := by omega
    clear k0
    go_upto_region 4 with (first | (refine wpList_load_row rfl 44 (.tmp 5) rfl w1.heap.size rfl 44 (rowL h).toArray (0, 0) _ HTS.out Try.underlying44 rfl (by rw [five_info]; simp [rowL_length]) ?_) | (refine wpList_store_sub rfl 44 (.tmp 22) (.tmp 20) rfl w.heap.size (3 + a * 5) (rowL h) (by first | rfl | (rw [show 3 + a * 5 = 23 by omega]; rfl)) rfl 48 (gridL R C n (copyF R a f) t) HS.out (by rw [five_info, rowL_length]) (by rw [gridL_length, rowL_length]; omega) (rowL_one h) ?_))
    have Y0 : GridAt (v3.setRow w.heap.size (splice (gridL R C n (copyF R a f) t) (3 + a * 5) (rowL h)).toArray) w.heap.size R C n (inF R a f h) t := by
      rw [gridA_putRow R C n a (copyF R a f) h t (by omega)]
      exact RowAt.setRow (cs := gridA R C n (copyF R a f) t) HS.out _
    have Y1 : Below w.heap.size w (v3.setRow w.heap.size (splice (gridL R C n (copyF R a f) t) (3 + a * 5) (rowL h)).toArray) := below_row HBS.out (Nat.le_refl _) _
    have Y2 : GridAt (v3.setRow w.heap.size (splice (gridL R C n (copyF R a f) t) (3 + a * 5) (rowL h)).toArray) (w.heap.size + 1) 0 0 0 (fun _ => 0) (fun _ => sl0) := (setRow_other v3 w.heap.size (w.heap.size + 1) _ (by omega)).trans HZS.out
    generalize (v3.setRow w.heap.size (splice (gridL R C n (copyF R a f) t) (3 + a * 5) (rowL h)).toArray) = v4 at Y0 Y1 Y2 ⊢
    have k4 := Y0.rows
    have k5 := Y0.frozen 0
    clear k3
    go_upto_region 5 with fail
    have Z0 := Y0.setRowsI ((R : Int) + 1)
    have Z1 := Y1.setCell (p := ⟨w.heap.size, 0, none⟩) (Nat.le_refl _) (.int .i64 ((R : Int) + 1))
    have Z2 := Y2.other ⟨w.heap.size, 0, none⟩ (.int .i64 ((R : Int) + 1)) (by simp)
    clear k4 k5 Y0 Y1 Y2
    generalize (v4.setCell ⟨w.heap.size, 0, none⟩ (.int .i64 ((R : Int) + 1))) = v5 at Z0 Z1 Z2 ⊢
    have HY0 : Hid (GridAt v5 w.heap.size ((R : Int) + 1) C n (inF R a f h) t) := Z0
    have HY2 : Hid (GridAt v5 (w.heap.size + 1) 0 0 0 (fun _ => 0) (fun _ => sl0)) := Z2
    clear Z0 Z2
    go_wp2_with (first | (refine wpList_load_row rfl 48 (.tmp 2) rfl w.heap.size rfl 48 (gridA ((R : Int) + 1) C n (inF R a f h) t) (0, 0) _ HY0.out Try.underlying48 rfl (grid_infoA _ _ _ _ _) ?_) | (refine wpList_store_row rfl 48 (.tmp 4) (.tmp 27) rfl (w.heap.size + 1) (gridA ((R : Int) + 1) C n (inF R a f h) t) rfl rfl 48 _ HY2.out (grid_infoA _ _ _ _ _) (by rw [gridA_size, gridA_size]) (gridA_one _ _ _ _ _) ?_))
    refine bodyPost_ret (v := .agg (gridA ((R : Int) + 1) C n (inF R a f h) t)) (results_cell_row (p := 4) (ty := 48) rfl _ _ (w.heap.size + 1) 48 _ _ _ rfl (RowAt.setRow HY2.out _) Try.underlying48 rfl (grid_infoA _ _ _ _ _)) rfl ⟨?_, below_row Z1 (by omega) _⟩
    rw [HH.out, show ((R + 1 : Nat) : Int) = (R : Int) + 1 by omega]
end Go.Proofs.Ytpgldodnnlcceaa
namespace Go.Proofs.Ytpgldodnnlcceaa
open Go.RowKit

/-- A grid's squares, filled up as far as (i, j): what was of a cell stays, each other square is a new cell. -/
def Filled (C : Nat) (f : Nat → Nat) (t : Nat → Sl) (n i j : Nat) (f' : Nat → Nat) (t' : Nat → Sl) (n' : Nat) : Prop :=
  n ≤ n' ∧ n' ≤ 25 ∧ (∀ s, f' s ≤ n') ∧ (∀ k, k ≤ n → t' k = t k) ∧ (∀ k, 1 ≤ k → k ≤ n' → ∃ s, s < 25 ∧ f' s = k) ∧
  (∀ a b, vis i j C a b → f (a * 5 + b) ≠ 0 → f' (a * 5 + b) = f (a * 5 + b)) ∧
  (∀ a b, vis i j C a b → f (a * 5 + b) = 0 → n < f' (a * 5 + b) ∧ t' (f' (a * 5 + b)) = sl0) ∧
  (∀ a b a' b', vis i j C a b → vis i j C a' b' → f (a * 5 + b) = 0 → f' (a * 5 + b) = f' (a' * 5 + b') → a = a' ∧ b = b') ∧
  (∀ a b, b < 5 → ¬ vis i j C a b → f' (a * 5 + b) = f (a * 5 + b))

theorem Filled.row {C : Nat} {f f' : Nat → Nat} {t t' : Nat → Sl} {n n' i : Nat} (h : Filled C f t n i C f' t' n') : Filled C f t n (i + 1) 0 f' t' n' := by
  have e : ∀ a b, vis i C C a b ↔ vis (i + 1) 0 C a b := by
    intro a b
    unfold vis
    omega
  obtain ⟨h1, h2, h3, h4, h5, h6, h7, h8, h9⟩ := h
  refine ⟨h1, h2, h3, h4, h5, ?_, ?_, ?_, ?_⟩
  · intro a b hv
    exact h6 a b ((e a b).2 hv)
  · intro a b hv
    exact h7 a b ((e a b).2 hv)
  · intro a b a' b' hv hv'
    exact h8 a b a' b' ((e a b).2 hv) ((e a' b').2 hv')
  · intro a b hb hv
    exact h9 a b hb (fun hh => hv ((e a b).1 hh))
theorem Filled.skip {C : Nat} {f f' : Nat → Nat} {t t' : Nat → Sl} {n n' i j : Nat} (h : Filled C f t n i j f' t' n') (hC : C ≤ 5) (hj : j < C) (hf : ∀ s, f s ≤ n) (hz : f' (i * 5 + j) ≠ 0) : Filled C f t n i (j + 1) f' t' n' := by
  obtain ⟨h1, h2, h3, h4, h5, h6, h7, h8, h9⟩ := h
  have hnow : f' (i * 5 + j) = f (i * 5 + j) := h9 i j (by omega) (by unfold vis; omega)
  have hv : ∀ a b, vis i (j + 1) C a b → vis i j C a b ∨ (a = i ∧ b = j) := by
    intro a b hh
    unfold vis at hh ⊢
    omega
  refine ⟨h1, h2, h3, h4, h5, ?_, ?_, ?_, ?_⟩
  · intro a b hh hne
    rcases hv a b hh with h | ⟨rfl, rfl⟩
    · exact h6 a b h hne
    · exact hnow
  · intro a b hh he
    rcases hv a b hh with h | ⟨rfl, rfl⟩
    · exact h7 a b h he
    · rw [hnow] at hz
      exact absurd he hz
  · intro a b a' b' hh hh' he hq
    rcases hv a b hh with h | ⟨rfl, rfl⟩
    · rcases hv a' b' hh' with h' | ⟨rfl, rfl⟩
      · exact h8 a b a' b' h h' he hq
      · have := (h7 a b h he).1
        have := hf (a' * 5 + b')
        rw [hnow] at hq
        omega
    · rw [hnow] at hz
      exact absurd he hz
  · intro a b hb hh
    exact h9 a b hb (fun h => hh (by unfold vis at h ⊢; omega))
theorem Filled.lay {C : Nat} {f f' : Nat → Nat} {t t' : Nat → Sl} {n n' i j : Nat} (h : Filled C f t n i j f' t' n') (hC : C ≤ 5) (hi : i < 5) (hj : j < C) (_ : ∀ s, f s ≤ n) (hz : f' (i * 5 + j) = 0) :
    n' < 25 ∧ Filled C f t n i (j + 1) (giveF f' i j 1 1 (n' + 1)) (updS t' (n' + 1) sl0) (n' + 1) := by
  obtain ⟨h1, h2, h3, h4, h5, h6, h7, h8, h9⟩ := h
  have hnow : f' (i * 5 + j) = f (i * 5 + j) := h9 i j (by omega) (by unfold vis; omega)
  have hlt : n' < 25 := by
    have := pigeon f' 25 (List.range (n' + 1)) List.nodup_range (by
      intro x hx
      have hx' : x < n' + 1 := by simpa using hx
      by_cases h0 : x = 0
      · exact ⟨i * 5 + j, by omega, by rw [h0]; exact hz⟩
      · exact h5 x (by omega) (by omega))
    simp at this
    omega
  have hg : ∀ a b, b < 5 → ¬ (a = i ∧ b = j) → giveF f' i j 1 1 (n' + 1) (a * 5 + b) = f' (a * 5 + b) := by
    intro a b hb hne
    unfold giveF
    rw [show (a * 5 + b) / 5 = a from by omega, show (a * 5 + b) % 5 = b from by omega, if_neg (by omega)]
  have hg0 : giveF f' i j 1 1 (n' + 1) (i * 5 + j) = n' + 1 := by
    unfold giveF
    rw [show (i * 5 + j) / 5 = i from by omega, show (i * 5 + j) % 5 = j from by omega, if_pos (by omega)]
  have hv : ∀ a b, vis i (j + 1) C a b → (vis i j C a b ∧ ¬ (a = i ∧ b = j) ∧ b < 5) ∨ (a = i ∧ b = j) := by
    intro a b hh
    unfold vis at hh ⊢
    omega
  refine ⟨hlt, by omega, by omega, ?_, ?_, ?_, ?_, ?_, ?_, ?_⟩
  · intro s
    unfold giveF
    split
    · exact Nat.le_refl _
    · exact Nat.le_succ_of_le (h3 s)
  · intro k hk
    simp only [updS, show ¬ k = n' + 1 from by omega, if_false]
    exact h4 k hk
  · intro k k1 k2
    by_cases hk : k = n' + 1
    · exact ⟨i * 5 + j, by omega, by rw [hg0, hk]⟩
    · obtain ⟨s, s1, s2⟩ := h5 k k1 (by omega)
      refine ⟨s, s1, ?_⟩
      have hne : ¬ (s / 5 = i ∧ s % 5 = j) := by
        rintro ⟨e1, e2⟩
        have : s = i * 5 + j := by omega
        rw [this, hz] at s2
        omega
      have := hg (s / 5) (s % 5) (by omega) hne
      rw [show s / 5 * 5 + s % 5 = s from by omega] at this
      rw [this]
      exact s2
  · intro a b hh hne
    rcases hv a b hh with ⟨h, h', hb⟩ | ⟨rfl, rfl⟩
    · rw [hg a b hb h']
      exact h6 a b h hne
    · rw [← hnow] at hne
      exact absurd hz hne
  · intro a b hh he
    rcases hv a b hh with ⟨h, h', hb⟩ | ⟨rfl, rfl⟩
    · rw [hg a b hb h']
      obtain ⟨q1, q2⟩ := h7 a b h he
      refine ⟨q1, ?_⟩
      have := h3 (a * 5 + b)
      simp only [updS, show ¬ f' (a * 5 + b) = n' + 1 from by omega, if_false]
      exact q2
    · rw [hg0]
      refine ⟨by omega, ?_⟩
      simp only [updS, if_true]
  · intro a b a' b' hh hh' he hq
    rcases hv a b hh with ⟨h, h', hb⟩ | ⟨rfl, rfl⟩
    · rw [hg a b hb h'] at hq
      rcases hv a' b' hh' with ⟨g, g', gb⟩ | ⟨rfl, rfl⟩
      · rw [hg a' b' gb g'] at hq
        exact h8 a b a' b' h g he hq
      · rw [hg0] at hq
        have := h3 (a * 5 + b)
        omega
    · rw [hg0] at hq
      rcases hv a' b' hh' with ⟨g, g', gb⟩ | ⟨rfl, rfl⟩
      · rw [hg a' b' gb g'] at hq
        have := h3 (a' * 5 + b')
        omega
      · exact ⟨rfl, rfl⟩
  · intro a b hb hh
    have hne : ¬ (a = i ∧ b = j) := by
      rintro ⟨rfl, rfl⟩
      exact hh (by unfold vis; omega)
    rw [hg a b hb hne]
    exact h9 a b hb (fun h => hh (by unfold vis at h ⊢; omega))
theorem Filled.start {C : Nat} {f : Nat → Nat} {t : Nat → Sl} {n : Nat} (hn : n ≤ 25) (hf : ∀ s, f s ≤ n) (hs : ∀ k, 1 ≤ k → k ≤ n → ∃ s, s < 25 ∧ f s = k) : Filled C f t n 0 0 f t n := by
  have hv : ∀ a b, ¬ vis 0 0 C a b := by
    intro a b hh
    unfold vis at hh
    omega
  exact ⟨Nat.le_refl _, hn, hf, fun _ _ => rfl, hs, fun a b h => absurd h (hv a b), fun a b h => absurd h (hv a b), fun a b a' b' h => absurd h (hv a b), fun _ _ _ _ => rfl⟩

set_option maxRecDepth 100000 in
set_option maxHeartbeats 4000000 in
theorem fillUp_any (R C n : Nat) (f : Nat → Nat) (t : Nat → Sl) (w : World) (hR : R ≤ 5) (hC : C ≤ 5) (hn : n ≤ 25) (hf : ∀ s, f s ≤ n) (hs : ∀ k, 1 ≤ k → k ≤ n → ∃ s, s < 25 ∧ f s = k) :
    Calls Try.prog 29 #[.agg (gridA R C n f t)] w fun z w' => (∃ f' t' n', z = .returned (.agg (gridA R C n' f' t')) ∧ Filled C f t n R 0 f' t' n') ∧ Below w.heap.size w w' := by
  have HF : Hid (∀ s, f s ≤ n) := hf
  have HS : Hid (Filled C f t n 0 0 f t n) := Filled.start hn hf hs
  clear hf hs
  go_enter Try.func29, Try.ntmps29
  go_upto_region 1 with fail
  rw [← grid_zero]
  have B0 : Below w.heap.size w ((w.alloc (.cells (gridA R C n f t) 48)).alloc (.cells (gridA 0 0 0 (fun _ => 0) (fun _ => sl0)) 48)) := ((Below.refl _ _).alloc (Nat.le_refl _) _).alloc (by simp) _
  have G0 : GridAt ((w.alloc (.cells (gridA R C n f t) 48)).alloc (.cells (gridA 0 0 0 (fun _ => 0) (fun _ => sl0)) 48)) w.heap.size R C n f t := (gridAt_new w R C n f t).alloc _
  have G1 : GridAt ((w.alloc (.cells (gridA R C n f t) 48)).alloc (.cells (gridA 0 0 0 (fun _ => 0) (fun _ => sl0)) 48)) (w.heap.size + 1) 0 0 0 (fun _ => 0) (fun _ => sl0) := by
    have := gridAt_new (w.alloc (.cells (gridA R C n f t) 48)) 0 0 0 (fun _ => 0) (fun _ => sl0)
    simpa using this
  generalize ((w.alloc (.cells (gridA R C n f t) 48)).alloc (.cells (gridA 0 0 0 (fun _ => 0) (fun _ => sl0)) 48)) = v0 at B0 G0 G1 ⊢
  have k0 := G0.rows
  go_wp2_with fail
  go_loopw [7] (fun iv wr => ∃ (i : Nat) (f' : Nat → Nat) (t' : Nat → Sl) (n' : Nat), i ≤ R ∧ iv = .int .i64 i ∧ Filled C f t n i 0 f' t' n' ∧ GridAt wr w.heap.size R C n' f' t' ∧ GridAt wr (w.heap.size + 1) 0 0 0 (fun _ => 0) (fun _ => sl0) ∧ Below w.heap.size w wr) (fun iv _ => R - (intOf iv).toNat)
  case atStart => exact ⟨0, f, t, n, Nat.zero_le _, rfl, HS.out, G0, G1, B0⟩
  case round =>
    clear k0 G0 G1 B0
    obtain ⟨i, f', t', n', hi, rfl, hfl, hg, hz, hb⟩ := hrel
    have HL : Hid (Filled C f t n i 0 f' t' n') := hfl
    have HG : Hid (GridAt wr w.heap.size R C n' f' t') := hg
    have HZ : Hid (GridAt wr (w.heap.size + 1) 0 0 0 (fun _ => 0) (fun _ => sl0)) := hz
    have HB : Hid (Below w.heap.size w wr) := hb
    have g1 := hg.cols
    clear hfl hg hz hb
    by_cases hlt : i < R
    · go_wp2_with fail
      go_loopw [12] (fun jv wr => ∃ (j : Nat) (f' : Nat → Nat) (t' : Nat → Sl) (n' : Nat), j ≤ C ∧ jv = .int .i64 j ∧ Filled C f t n i j f' t' n' ∧ GridAt wr w.heap.size R C n' f' t' ∧ GridAt wr (w.heap.size + 1) 0 0 0 (fun _ => 0) (fun _ => sl0) ∧ Below w.heap.size w wr) (fun jv _ => C - (intOf jv).toNat)
      case atStart => exact ⟨0, f', t', n', Nat.zero_le _, rfl, HL.out, HG.out, HZ.out, HB.out⟩
      case round =>
        clear HL HG HZ HB g1
        obtain ⟨j, f', t', n', hj, rfl, hfl, hg, hz, hb⟩ := hrel
        have HL : Hid (Filled C f t n i j f' t' n') := hfl
        have HG : Hid (GridAt wr w.heap.size R C n' f' t') := hg
        have HZ : Hid (GridAt wr (w.heap.size + 1) 0 0 0 (fun _ => 0) (fun _ => sl0)) := hz
        have HB : Hid (Below w.heap.size w wr) := hb
        have zl := hz.lt
        by_cases hlj : j < C
        · have k1 := hg.num (i * 5 + j) (by omega)
          obtain ⟨x, hx⟩ : ∃ x, f' (i * 5 + j) = x := ⟨_, rfl⟩
          have HX : Hid (f' (i * 5 + j) = x) := hx
          rw [← Nat.add_assoc, hx] at k1
          have b0 : (i : Int) < 5 := by omega
          have b1 : (j : Int) < 5 := by omega
          clear hfl hg hz hb hx
          by_cases h0 : x = 0
          · subst h0
            obtain ⟨hn25, hL⟩ := HL.out.lay hC (by omega) hlj HF.out HX.out
            have HL2 : Hid (Filled C f t n i (j + 1) (giveF f' i j 1 1 (n' + 1)) (updS t' (n' + 1) sl0) (n' + 1)) := hL
            clear hL
            go_wp2_with (first | (refine wpList_load_row rfl 48 (.tmp 1) rfl w.heap.size rfl 48 (gridA R C n' f' t') (0, 0) _ HG.out Try.underlying48 rfl (grid_infoA _ _ _ _ _) ?_) | (go_at_call 46; refine (lay_any R C n' f' t' i j 1 1 sl0 _ (by omega) (by omega) hn25).mono ?_; rintro e w4 ⟨rfl, hb4⟩) | (refine wpList_store_row rfl 48 (.tmp 1) (.tmp 26) rfl w.heap.size (gridA R C (n' + 1) (giveF f' i j 1 1 (n' + 1)) (updS t' (n' + 1) sl0)) rfl rfl 48 _ (HG.out.below hb4 (by omega)) (grid_infoA _ _ _ _ _) (by rw [gridA_size, gridA_size]) (gridA_one _ _ _ _ _) ?_))
            go_roundw
            case rel => exact ⟨j + 1, _, _, n' + 1, by omega, by go_num, HL2.out, RowAt.setRow (HG.out.below hb4 (by omega)) _, RowAt.setRowOther (HZ.out.below hb4 zl) _ _ (by omega), below_row (HB.out.trans (hb4.mono (by omega))) (Nat.le_refl _) _⟩
            case measure => simp [intOf]; omega
          · have n0 : ((x : Int) == 0) = false := by simp; omega
            have HL2 : Hid (Filled C f t n i (j + 1) f' t' n') := HL.out.skip hC hlj HF.out (by rw [HX.out]; exact h0)
            go_wp2_with fail
            go_roundw
            case rel => exact ⟨j + 1, f', t', n', by omega, by go_num, HL2.out, HG.out, HZ.out, HB.out⟩
            case measure => simp [intOf]; omega
        · clear hfl hg hz hb
          go_wp2_with fail
          go_roundw
          case rel =>
            have hh := HL.out
            rw [show j = C from by omega] at hh
            exact ⟨i + 1, f', t', n', by omega, by go_num, hh.row, HG.out, HZ.out, HB.out⟩
          case measure => simp [intOf]; omega
    · have hid : i = R := by omega
      subst hid
      go_wp2_with (first | (refine wpList_load_row rfl 48 (.tmp 1) rfl w.heap.size rfl 48 (gridA i C n' f' t') (0, 0) _ HG.out Try.underlying48 rfl (grid_infoA _ _ _ _ _) ?_) | (refine wpList_store_row rfl 48 (.tmp 2) (.tmp 29) rfl (w.heap.size + 1) (gridA i C n' f' t') rfl rfl 48 _ HZ.out (grid_infoA _ _ _ _ _) (by rw [gridA_size, gridA_size]) (gridA_one _ _ _ _ _) ?_))
      refine bodyPost_ret (v := .agg (gridA i C n' f' t')) (results_cell_row (p := 2) (ty := 48) rfl _ _ (w.heap.size + 1) 48 _ _ _ rfl (RowAt.setRow HZ.out _) Try.underlying48 rfl (grid_infoA _ _ _ _ _)) rfl ⟨⟨f', t', n', rfl, HL.out⟩, ?_⟩
      exact below_row HB.out (by omega) _
end Go.Proofs.Ytpgldodnnlcceaa
namespace Go.Proofs.Ytpgldodnnlcceaa
open Go.RowKit

/-- What filling up leaves: what was of a cell stays, each other square has a number of its own. -/
def FillP (C : Nat) (f : Nat → Nat) (n I : Nat) (f2 : Nat → Nat) : Prop :=
  (∀ a b, vis I 0 C a b → f (a * 5 + b) ≠ 0 → f2 (a * 5 + b) = f (a * 5 + b)) ∧ (∀ a b, vis I 0 C a b → f (a * 5 + b) = 0 → n < f2 (a * 5 + b)) ∧
  (∀ a b a' b', vis I 0 C a b → vis I 0 C a' b' → f (a * 5 + b) = 0 → f2 (a * 5 + b) = f2 (a' * 5 + b') → a = a' ∧ b = b')
theorem Filled.fillP {C : Nat} {f f' : Nat → Nat} {t t' : Nat → Sl} {n n' I : Nat} (h : Filled C f t n I 0 f' t' n') : FillP C f n I f' := by
  obtain ⟨h1, h2, h3, h4, h5, h6, h7, h8, h9⟩ := h
  exact ⟨h6, fun a b hv h0 => (h7 a b hv h0).1, h8⟩
theorem fillP_any (C n I : Nat) (f : Nat → Nat) (hC : C ≤ 5) (hn : n ≤ 25) (hf : ∀ s, f s ≤ n) : FillP C f n I (fun s => if f s = 0 then 100 + s else f s) := by
  refine ⟨fun a b _ h0 => if_neg h0, fun a b _ h0 => ?_, fun a b a' b' hv hv' h0 e => ?_⟩
  · simp only [h0, if_true]
    omega
  · simp only [h0, if_true] at e
    have h1 := hf (a' * 5 + b')
    unfold vis at hv hv'
    split at e <;> omega
/-- A cell when a row is put in. -/
def inC (at' : Int) (x : Cl) : Cl := if at' ≤ x.1 then (x.1 + 1, x.2.1, x.2.2.1, x.2.2.2.1, x.2.2.2.2) else if at' < x.1 + x.2.2.1 then (x.1, x.2.1, x.2.2.1 + 1, x.2.2.2.1, x.2.2.2.2) else x
/-- Whether a cell goes through the new row at a column. -/
def overB (at' : Int) (x : Cl) (c : Int) : Bool := decide (x.1 < at' ∧ at' < x.1 + x.2.2.1 ∧ x.2.1 ≤ c ∧ c < x.2.1 + x.2.2.2.1)
def takenB (at' : Int) (l : List Cl) (c : Int) : Bool := l.any (fun x => overB at' x c)
def newI (at' C : Int) (l : List Cl) : List Cl := ((List.range C.toNat).filter (fun c : Nat => !takenB at' l c)).map (fun c : Nat => (at', (c : Int), 1, 1, []))
def inM (at' C : Int) (l : List Cl) : List Cl := l.map (inC at') ++ newI at' C l
def inL (at' C : Int) (l : List Cl) : List Cl := sortC (inM at' C l)
/-- Whether a row can be put in. -/
def rowInB (R C : Int) (l : List Cl) (t' : Int) : Bool := okB R C l && decide (0 ≤ t' ∧ t' ≤ R) && decide (R < 5)
theorem inC_txt (at' : Int) (x : Cl) : (inC at' x).2.2.2.2 = x.2.2.2.2 := by
  unfold inC
  split
  · rfl
  · split <;> rfl
section
variable {R C : Nat} {l : List Cl}
theorem inF_at (f h : Nat → Nat) (a p q : Nat) (hq : q < 5) : inF R a f h (p * 5 + q) = if p = a then h q else if a < p ∧ p ≤ R then f ((p - 1) * 5 + q) else f (p * 5 + q) := by
  unfold inF copyF
  rw [show (p * 5 + q) / 5 = p by omega, show (p * 5 + q) % 5 = q by omega]
  by_cases h1 : p = a
  · rw [if_pos h1, if_pos h1]
  · rw [if_neg h1, if_neg h1]
    by_cases h2 : a < p ∧ p ≤ R
    · rw [if_pos h2, if_pos h2, show p * 5 + q - 5 = (p - 1) * 5 + q by omega]
    · rw [if_neg h2, if_neg h2]
theorem thr_iff (f : Nat → Nat) (a q m : Nat) : thrF R a f q = m + 1 ↔ a ≠ 0 ∧ a ≠ R ∧ f ((a - 1) * 5 + q) = m + 1 ∧ f (a * 5 + q) = m + 1 := by
  unfold thrF
  by_cases h1 : a = 0 ∨ a = R
  · rw [if_pos h1]
    omega
  · rw [if_neg h1]
    by_cases h2 : f ((a - 1) * 5 + q) = f (a * 5 + q)
    · rw [if_pos h2]
      omega
    · rw [if_neg h2]
      omega
/-- A square has the number m + 1 just if it is of cell m. -/
theorem in_iff (h : okB R C l = true) (a m p q : Nat) (ha : a ≤ R) (hm : m < l.length) (hp : p < R + 1) (hq : q < C) : inF R a (numF l l.length) (thrF R a (numF l l.length)) (p * 5 + q) = m + 1 ↔ inB (inC a (l.getD m cl0)) p q = true := by
  obtain ⟨hR, hC, _, _⟩ := gridP_of_okB h
  obtain ⟨r, b, d, g, e, h1, h2, h3, h4⟩ := cell_nat h m hm
  rw [inF_at _ _ a p q (by omega)]
  have hn : ∀ p, numF l l.length (p * 5 + q) = m + 1 ↔ r ≤ p ∧ p < r + d ∧ b ≤ q ∧ q < b + g := by
    intro p
    rw [num_iff h p q m hq, e, inB_cell]
    exact ⟨fun hh => hh.2, fun hh => ⟨hm, hh⟩⟩
  have hrhs : inB (inC a (l.getD m cl0)) p q = true ↔ (if a ≤ r then r + 1 ≤ p ∧ p < r + 1 + d else if a < r + d then r ≤ p ∧ p < r + (d + 1) else r ≤ p ∧ p < r + d) ∧ b ≤ q ∧ q < b + g := by
    generalize (l.getD m cl0).2.2.2.2 = t at e
    rw [e]
    unfold inC
    simp only
    by_cases c1 : a ≤ r
    · rw [if_pos (show (a : Int) ≤ (r : Int) by omega), if_pos c1]
      simp only [inB, decide_eq_true_eq]
      omega
    · rw [if_neg (show ¬ (a : Int) ≤ (r : Int) by omega), if_neg c1]
      by_cases c2 : a < r + d
      · rw [if_pos (show (a : Int) < (r : Int) + (d : Int) by omega), if_pos c2]
        simp only [inB, decide_eq_true_eq]
        omega
      · rw [if_neg (show ¬ (a : Int) < (r : Int) + (d : Int) by omega), if_neg c2]
        simp only [inB, decide_eq_true_eq]
        omega
  rw [hrhs]
  by_cases hpa : p = a
  · rw [if_pos hpa, thr_iff, hn, hn]
    subst hpa
    by_cases c1 : p ≤ r
    · rw [if_pos c1]; omega
    · rw [if_neg c1]
      by_cases c2 : p < r + d
      · rw [if_pos c2]; omega
      · rw [if_neg c2]; omega
  · rw [if_neg hpa]
    by_cases hap : a < p ∧ p ≤ R
    · rw [if_pos hap, hn]
      by_cases c1 : a ≤ r
      · rw [if_pos c1]; omega
      · rw [if_neg c1]
        by_cases c2 : a < r + d
        · rw [if_pos c2]; omega
        · rw [if_neg c2]; omega
    · rw [if_neg hap, hn]
      by_cases c1 : a ≤ r
      · rw [if_pos c1]; omega
      · rw [if_neg c1]
        by_cases c2 : a < r + d
        · rw [if_pos c2]; omega
        · rw [if_neg c2]; omega
theorem inF_le (a k : Nat) : inF R a (numF l l.length) (thrF R a (numF l l.length)) k ≤ l.length := by
  unfold inF copyF thrF
  have h1 := numF_le l l.length (k - 5)
  have h2 := numF_le l l.length k
  have h3 := numF_le l l.length (a * 5 + k % 5)
  split
  · split
    · omega
    · split <;> omega
  · split <;> omega
theorem in_shape (h : okB R C l = true) (a m : Nat) (hm : m < l.length) : ∃ (r b d g : Nat) (t : List Sg), inC a (l.getD m cl0) = ((r : Int), (b : Int), (d : Int), (g : Int), t) ∧ 1 ≤ d ∧ 1 ≤ g ∧ r + d ≤ R + 1 ∧ b + g ≤ C := by
  obtain ⟨r, b, d, g, e, h1, h2, h3, h4⟩ := cell_nat h m hm
  generalize (l.getD m cl0).2.2.2.2 = t at e
  rw [e]
  unfold inC
  simp only
  by_cases c1 : (a : Int) ≤ (r : Int)
  · rw [if_pos c1]
    exact ⟨r + 1, b, d, g, t, by simp, h1, h2, by omega, h4⟩
  · rw [if_neg c1]
    by_cases c2 : (a : Int) < (r : Int) + (d : Int)
    · rw [if_pos c2]
      exact ⟨r, b, d + 1, g, t, by simp, by omega, h2, by omega, h4⟩
    · rw [if_neg c2]
      exact ⟨r, b, d, g, t, rfl, h1, h2, by omega, h4⟩
/-- The new row's squares through which no cell goes have no number. -/
theorem in_zero (h : okB R C l = true) (a q : Nat) (ha : a ≤ R) (hq : q < C) : inF R a (numF l l.length) (thrF R a (numF l l.length)) (a * 5 + q) = 0 ↔ takenB a l q = false := by
  have key : (∃ m, m < l.length ∧ inF R a (numF l l.length) (thrF R a (numF l l.length)) (a * 5 + q) = m + 1) ↔ takenB a l q = true := by
    unfold takenB
    rw [List.any_eq_true]
    constructor
    · rintro ⟨m, hm, e⟩
      refine ⟨_, getD_mem hm, ?_⟩
      rw [in_iff h a m a q ha hm (by omega) hq] at e
      obtain ⟨r, b, d, g, e2, h1, h2, h3, h4⟩ := cell_nat h m hm
      generalize (l.getD m cl0).2.2.2.2 = t at e2
      rw [e2] at e ⊢
      unfold inC at e
      unfold overB
      simp only [decide_eq_true_eq] at e ⊢
      by_cases c1 : (a : Int) ≤ (r : Int)
      · rw [if_pos c1] at e
        simp only [inB, decide_eq_true_eq] at e
        omega
      · rw [if_neg c1] at e
        by_cases c2 : (a : Int) < (r : Int) + (d : Int)
        · rw [if_pos c2] at e
          simp only [inB, decide_eq_true_eq] at e
          omega
        · rw [if_neg c2] at e
          simp only [inB, decide_eq_true_eq] at e
          omega
    · rintro ⟨x, hx, ho⟩
      obtain ⟨m, hm, e⟩ := List.getElem_of_mem hx
      rw [← getD_get hm] at e
      subst e
      refine ⟨m, hm, ?_⟩
      rw [in_iff h a m a q ha hm (by omega) hq]
      obtain ⟨r, b, d, g, e2, h1, h2, h3, h4⟩ := cell_nat h m hm
      generalize (l.getD m cl0).2.2.2.2 = t at e2
      rw [e2] at ho ⊢
      unfold overB at ho
      unfold inC
      simp only [decide_eq_true_eq] at ho ⊢
      rw [if_neg (by omega), if_pos (by omega)]
      simp only [inB, decide_eq_true_eq]
      omega
  have hle := inF_le (R := R) (l := l) a (a * 5 + q)
  rw [← Bool.not_eq_true, ← key]
  constructor
  · rintro e ⟨m, _, e2⟩
    omega
  · intro hno
    rcases Nat.eq_zero_or_pos (inF R a (numF l l.length) (thrF R a (numF l l.length)) (a * 5 + q)) with h0 | h0
    · exact h0
    · exact absurd ⟨_, show inF R a (numF l l.length) (thrF R a (numF l l.length)) (a * 5 + q) - 1 < l.length by omega, by omega⟩ hno
theorem in_zero_row (h : okB R C l = true) (a p q : Nat) (ha : a ≤ R) (hp : p < R + 1) (hq : q < C) (h0 : inF R a (numF l l.length) (thrF R a (numF l l.length)) (p * 5 + q) = 0) : p = a := by
  obtain ⟨hR, hC, _, ht⟩ := gridP_of_okB h
  rcases Nat.lt_trichotomy p a with h1 | h1 | h1
  · rw [inF_at _ _ a p q (by omega), if_neg (by omega), if_neg (by omega)] at h0
    have := (ht p q (by unfold vis; simp; omega)).1
    omega
  · exact h1
  · rw [inF_at _ _ a p q (by omega), if_neg (by omega), if_pos (by omega)] at h0
    have := (ht (p - 1) q (by unfold vis; simp; omega)).1
    omega
/-- Every number is still there. -/
theorem in_used (h : okB R C l = true) (a : Nat) (ha : a ≤ R) (hR4 : R ≤ 4) : ∀ k, 1 ≤ k → k ≤ l.length → ∃ s, s < 25 ∧ inF R a (numF l l.length) (thrF R a (numF l l.length)) s = k := by
  obtain ⟨_, hC, _, _⟩ := gridP_of_okB h
  intro k h1 h2
  obtain ⟨r, b, d, g, t, e, q1, q2, q3, q4⟩ := in_shape h a (k - 1) (by omega)
  refine ⟨r * 5 + b, by omega, ?_⟩
  have := (in_iff h a (k - 1) r b ha (by omega) (by omega) (by omega)).2 (by rw [e, inB_cell]; omega)
  omega
variable {f2 : Nat → Nat}
theorem in_numC (h : okB R C l = true) (a m : Nat) (ha : a ≤ R) (hm : m < l.length) (hF : FillP C (inF R a (numF l l.length) (thrF R a (numF l l.length))) l.length (R + 1) f2) : NumC (R + 1) C f2 (inC a (l.getD m cl0)) (m + 1) := by
  obtain ⟨r, b, d, g, tx, e, q1, q2, q3, q4⟩ := in_shape h a m hm
  refine ⟨r, b, d, g, tx, e, q1, q2, q3, q4, fun p q hp hq => ?_⟩
  have key := in_iff h a m p q ha hm hp hq
  rw [e, inB_cell] at key
  rw [← key]
  obtain ⟨h6, h7, h8⟩ := hF
  have hv : vis (R + 1) 0 C p q := by unfold vis; omega
  by_cases h0 : inF R a (numF l l.length) (thrF R a (numF l l.length)) (p * 5 + q) = 0
  · have := h7 p q hv h0
    omega
  · rw [h6 p q hv h0]
theorem new_numC (h : okB R C l = true) (a c : Nat) (ha : a ≤ R) (hc : c < C) (ht : takenB a l c = false) (hF : FillP C (inF R a (numF l l.length) (thrF R a (numF l l.length))) l.length (R + 1) f2) : NumC (R + 1) C f2 ((a : Int), (c : Int), 1, 1, []) (f2 (a * 5 + c)) := by
  refine ⟨a, c, 1, 1, [], rfl, Nat.le_refl _, Nat.le_refl _, by omega, by omega, fun p q hp hq => ?_⟩
  obtain ⟨h6, h7, h8⟩ := hF
  have h0 := (in_zero h a c ha hc).2 ht
  constructor
  · intro e
    have := h8 a c p q (by unfold vis; omega) (by unfold vis; omega) h0 e.symm
    omega
  · intro hh
    obtain rfl : p = a := by omega
    obtain rfl : q = c := by omega
    rfl
theorem newI_mem {a : Nat} {x : Cl} : x ∈ newI a C l ↔ ∃ c : Nat, c < C ∧ takenB a l c = false ∧ x = ((a : Int), (c : Int), 1, 1, []) := by
  unfold newI
  simp only [List.mem_map, List.mem_filter, List.mem_range, Int.toNat_natCast, Bool.not_eq_true']
  constructor
  · rintro ⟨c, ⟨h1, h2⟩, rfl⟩
    exact ⟨c, h1, h2, rfl⟩
  · rintro ⟨c, h1, h2, rfl⟩
    exact ⟨c, ⟨h1, h2⟩, rfl⟩
theorem tiles_in (h : okB R C l = true) (a : Nat) (ha : a ≤ R) (hF : FillP C (inF R a (numF l l.length) (thrF R a (numF l l.length))) l.length (R + 1) f2) : TilesM (R + 1) C f2 (inM a C l) := by
  refine tilesM_of ?_ ?_ ?_
  · intro x hx
    rcases List.mem_append.1 hx with hx | hx
    · obtain ⟨y, hy, rfl⟩ := List.mem_map.1 hx
      obtain ⟨m, hm, e⟩ := List.getElem_of_mem hy
      rw [← getD_get hm] at e
      subst e
      exact ⟨m + 1, in_numC h a m ha hm hF⟩
    · obtain ⟨c, hc, ht, rfl⟩ := newI_mem.1 hx
      exact ⟨_, new_numC h a c ha hc ht hF⟩
  · intro p q hp hq
    by_cases h0 : inF R a (numF l l.length) (thrF R a (numF l l.length)) (p * 5 + q) = 0
    · obtain rfl := in_zero_row h a p q ha hp hq h0
      refine ⟨((p : Int), (q : Int), 1, 1, []), List.mem_append.2 (.inr (newI_mem.2 ⟨q, hq, (in_zero h p q ha hq).1 h0, rfl⟩)), ?_⟩
      simp [inB]
      omega
    · have hle := inF_le (R := R) (l := l) a (p * 5 + q)
      obtain ⟨m, hm⟩ : ∃ m, inF R a (numF l l.length) (thrF R a (numF l l.length)) (p * 5 + q) = m + 1 := ⟨_, (Nat.succ_pred h0).symm⟩
      have hml : m < l.length := by omega
      exact ⟨_, List.mem_append.2 (.inl (List.mem_map.2 ⟨_, getD_mem hml, rfl⟩)), (in_iff h a m p q ha hml hp hq).1 hm⟩
  · unfold inM
    rw [List.pairwise_append]
    refine ⟨?_, ?_, ?_⟩
    · rw [List.pairwise_map, List.pairwise_iff_getElem]
      intro i k hi hk hik
      rw [← getD_get hi, ← getD_get hk]
      exact ⟨i + 1, k + 1, by omega, in_numC h a i ha hi hF, in_numC h a k ha hk hF⟩
    · unfold newI
      rw [List.pairwise_map]
      have hnd : ((List.range (C : Int).toNat).filter (fun c : Nat => !takenB a l c)).Pairwise (fun x y => x ≠ y) := List.Pairwise.filter _ List.nodup_range
      refine List.Pairwise.imp_of_mem ?_ hnd
      intro c c' hc hc' hne
      simp only [List.mem_filter, List.mem_range, Int.toNat_natCast, Bool.not_eq_true'] at hc hc'
      refine ⟨_, _, ?_, new_numC h a c ha hc.1 hc.2 hF, new_numC h a c' ha hc'.1 hc'.2 hF⟩
      intro e
      obtain ⟨h6, h7, h8⟩ := hF
      exact hne (h8 a c a c' (by unfold vis; omega) (by unfold vis; omega) ((in_zero h a c ha hc.1).2 hc.2) e).2
    · intro x hx y hy
      obtain ⟨z, hz, rfl⟩ := List.mem_map.1 hx
      obtain ⟨m, hm, e⟩ := List.getElem_of_mem hz
      rw [← getD_get hm] at e
      subst e
      obtain ⟨c, hc, ht, rfl⟩ := newI_mem.1 hy
      refine ⟨m + 1, _, ?_, in_numC h a m ha hm hF, new_numC h a c ha hc ht hF⟩
      obtain ⟨h6, h7, h8⟩ := hF
      have := h7 a c (by unfold vis; omega) ((in_zero h a c ha hc).2 ht)
      omega
end
end Go.Proofs.Ytpgldodnnlcceaa
namespace Go.Proofs.Ytpgldodnnlcceaa
open Go.RowKit

/-- The texts of a table that is ok are short, and its cells few. -/
theorem ok_small {R C : Int} {l : List Cl} (h : okB R C l = true) : l.length ≤ 25 ∧ ∀ x ∈ l, x.2.2.2.2.length ≤ 24 := by
  have hf : formB R C l = true := by
    simp only [okB, Bool.and_eq_true] at h
    exact h.1
  obtain ⟨_, _, hl, hat⟩ := formB_of hf
  refine ⟨hl, fun x hx => ?_⟩
  obtain ⟨k, hk, e⟩ := List.getElem_of_mem hx
  have := (cellB_of (atB_cell (hat k hk))).2.2.2.2
  rw [show l.getD k cl0 = x by rw [← e]; simp [List.getD, hk]] at this
  simp only [textB, Bool.and_eq_true, decide_eq_true_eq] at this
  exact this.1
end Go.Proofs.Ytpgldodnnlcceaa
namespace Go.Proofs.Ytpgldodnnlcceaa
open Go.RowKit

theorem ok_txtI {R C : Int} {l : List Cl} (h : okB R C l = true) : ∀ x ∈ l, textB x.2.2.2.2 = true := by
  intro x hx
  obtain ⟨k, hk, e⟩ := List.getElem_of_mem hx
  have := (stepB_of ((gridP_of_okB h).2.2.1 k hk)).2.2
  rw [show l.getD k cl0 = x by rw [← e]; simp [List.getD, hk]] at this
  exact this
theorem tiles_in_any {R C : Nat} {l : List Cl} (h : okB R C l = true) (a : Nat) (ha : a ≤ R) : ∃ f2, TilesM (R + 1) C f2 (inM a C l) := by
  obtain ⟨hR, hC, _, _⟩ := gridP_of_okB h
  exact ⟨_, tiles_in h a ha (fillP_any C l.length (R + 1) _ (by omega) (ok_small h).1 (fun s => inF_le a s))⟩
theorem ok_in {R C t' : Int} {l : List Cl} (h : rowInB R C l t' = true) : okB (R + 1) C (inL t' C l) = true := by
  simp only [rowInB, Bool.and_eq_true, decide_eq_true_eq] at h
  obtain ⟨⟨h1, h2⟩, h3⟩ := h
  obtain ⟨hR, hC, _, _⟩ := gridP_of_okB h1
  obtain ⟨R, rfl⟩ : ∃ R' : Nat, R = R' := ⟨R.toNat, by omega⟩
  obtain ⟨C, rfl⟩ : ∃ C' : Nat, C = C' := ⟨C.toNat, by omega⟩
  obtain ⟨p, rfl⟩ : ∃ p : Nat, t' = p := ⟨t'.toNat, by omega⟩
  obtain ⟨f2, ht⟩ := tiles_in_any h1 p (by omega)
  rw [show (R : Int) + 1 = ((R + 1 : Nat) : Int) by omega]
  refine okB_sort ht (by omega) (by omega) (ht.few (by omega) (by omega)) ?_
  intro x hx
  rcases List.mem_append.1 hx with hx | hx
  · obtain ⟨y, hy, rfl⟩ := List.mem_map.1 hx
    rw [inC_txt]
    exact ok_txtI h1 _ hy
  · obtain ⟨c, _, _, rfl⟩ := newI_mem.1 hx
    rfl
theorem small_in {R C : Int} {l : List Cl} {t' : Int} : rowInB R C l t' = true → (inL t' C l).length ≤ 50 ∧ ∀ x ∈ inL t' C l, x.2.2.2.2.length ≤ 24 := by
  intro h
  obtain ⟨h1, h2⟩ := ok_small (ok_in h)
  exact ⟨by omega, h2⟩
end Go.Proofs.Ytpgldodnnlcceaa
namespace Go.Proofs.Ytpgldodnnlcceaa
open Go.RowKit

/-- The squares' numbers without a row. -/
def outF (R a : Nat) (f : Nat → Nat) : Nat → Nat := fun s => if a ≤ s / 5 ∧ s / 5 + 1 < R then f (s + 5) else f s
/-- The numbers of the rows behind one. -/
def tailV (R a : Nat) (f : Nat → Nat) : List Value := (List.range ((R - (a + 1)) * 5)).map (fun j => Value.int .i64 (f ((a + 1) * 5 + j)))
theorem tailV_length (R a : Nat) (f : Nat → Nat) : (tailV R a f).length = (R - (a + 1)) * 5 := by simp [tailV]
theorem tailV_one (R a : Nat) (f : Nat → Nat) : ∀ v ∈ tailV R a f, v.oneCell' = true := by
  intro v hv
  simp only [tailV, List.mem_map] at hv
  obtain ⟨j, _, rfl⟩ := hv
  rfl
theorem gridA_out (R C n a : Nat) (f : Nat → Nat) (t : Nat → Sl) (ha : a < R) (hR : R ≤ 5) : (splice (gridL R C n f t) (3 + a * 5) (tailV R a f)).toArray = gridA R C n (outF R a f) t := by
  apply Array.ext_getElem?
  intro i
  have hG : (gridL (R : Int) (C : Int) n f t)[i]? = (gridA (R : Int) (C : Int) n f t)[i]? := by simp [gridA]
  rw [List.getElem?_toArray, splice_get _ _ _ (by rw [gridL_length, tailV_length]; omega), tailV_length, hG, gridA_get, gridA_get]
  by_cases h1 : i < 3 + a * 5
  · rw [if_pos h1]
    by_cases h3 : i < 3
    · match i, h3 with
      | 0, _ => rfl
      | 1, _ => rfl
      | 2, _ => rfl
    · have : outF R a f (i - 3) = f (i - 3) := by
        unfold outF
        rw [if_neg (by omega)]
      rw [this]
  · rw [if_neg h1]
    by_cases h2 : i < 3 + a * 5 + (R - (a + 1)) * 5
    · rw [if_pos h2, if_neg (show ¬ i = 0 by omega), if_neg (show ¬ i = 1 by omega), if_neg (show ¬ i = 2 by omega), if_pos (show i < 28 by omega)]
      have : outF R a f (i - 3) = f (i - 3 + 5) := by
        unfold outF
        rw [if_pos (by omega)]
      rw [this]
      unfold tailV
      rw [List.getElem?_map, List.getElem?_range (by omega)]
      simp only [Option.map_some]
      rw [show (a + 1) * 5 + (i - (3 + a * 5)) = i - 3 + 5 by omega]
    · rw [if_neg h2]
      by_cases h3 : i < 28
      · have : outF R a f (i - 3) = f (i - 3) := by
          unfold outF
          rw [if_neg (by omega)]
        rw [this]
      · simp only [if_neg h3, show ¬ i = 0 by omega, show ¬ i = 1 by omega, show ¬ i = 2 by omega, if_false]
theorem gridA_set_rowsO (R C : Int) (n : Nat) (R' : Int) (f : Nat → Nat) (t : Nat → Sl) : (gridA R C n f t).setIfInBounds 0 (.int .i64 R') = gridA R' C n f t := by
  apply Array.ext_getElem?
  intro i
  rw [Array.getElem?_setIfInBounds, gridA_get, gridA_get, gridA_size]
  by_cases h : 0 = i
  · subst h; rfl
  · rw [if_neg h]
    by_cases h3 : i = 0
    · exact absurd h3.symm h
    · simp only [if_neg h3]
theorem GridAt.setRowsO {w : World} {b : Nat} {R C : Int} {n : Nat} {f : Nat → Nat} {t : Nat → Sl} (h : GridAt w b R C n f t) (R' : Int) : GridAt (w.setCell ⟨b, 0, none⟩ (.int .i64 R')) b R' C n f t := by
  unfold GridAt
  rw [← gridA_set_rowsO R C n R']
  exact RowAt.setCell h _ _
theorem row_info : (Try.prog.info? 44).map (·.size) = some 5 := by kernel_rfl
theorem tail_cells {w : World} {b : Nat} {R C n a : Nat} {f : Nat → Nat} {t : Nat → Sl} (h : GridAt w b R C n f t) (ha : a < R) (hR : R ≤ 5) (o : Nat) (ho : o = 3 + (a + 1) * 5) : ∀ j v, (tailV R a f)[j]? = some v → w.cell? ((⟨b, o, none⟩ : Addr).add j) = some v := by
  intro j v hv
  subst ho
  have hj : j < (R - (a + 1)) * 5 := by
    have := (List.getElem?_eq_some_iff.1 hv).1
    rwa [tailV_length] at this
  have hadd : (⟨b, 3 + (a + 1) * 5, none⟩ : Addr).add j = ⟨b, 3 + ((a + 1) * 5 + j), none⟩ := by
    unfold Addr.add
    simp only [Nat.add_assoc]
    split
    · simp_all
    · rfl
  rw [hadd, h.num _ (by omega)]
  unfold tailV at hv
  rw [List.getElem?_map, List.getElem?_range hj] at hv
  simpa using hv

set_option maxRecDepth 100000 in
set_option maxHeartbeats 4000000 in
theorem rowOut_any (R C n a : Nat) (f : Nat → Nat) (t : Nat → Sl) (w : World) (ha : a < R) (hR : R ≤ 5) :
    Calls Try.prog 25 #[.agg (gridA R C n f t), .int .i64 a] w fun z w' => z = .returned (.agg (gridA ((R - 1 : Nat) : Int) C n (outF R a f) t)) ∧ Below w.heap.size w w' := by
  go_enter Try.func25, Try.ntmps25
  go_upto_region 1 with fail
  rw [← grid_zero]
  have B0 : Below w.heap.size w ((w.alloc (.cells (gridA R C n f t) 48)).alloc (.cells (gridA 0 0 0 (fun _ => 0) (fun _ => sl0)) 48)) := (((Below.refl _ _).alloc (Nat.le_refl _) _).alloc (by simp) _)
  have G0 : GridAt ((w.alloc (.cells (gridA R C n f t) 48)).alloc (.cells (gridA 0 0 0 (fun _ => 0) (fun _ => sl0)) 48)) w.heap.size R C n f t := (gridAt_new w R C n f t).alloc _
  have G1 : GridAt ((w.alloc (.cells (gridA R C n f t) 48)).alloc (.cells (gridA 0 0 0 (fun _ => 0) (fun _ => sl0)) 48)) (w.heap.size + 1) 0 0 0 (fun _ => 0) (fun _ => sl0) := by
    have := gridAt_new (w.alloc (.cells (gridA R C n f t) 48)) 0 0 0 (fun _ => 0) (fun _ => sl0)
    simpa using this
  generalize ((w.alloc (.cells (gridA R C n f t) 48)).alloc (.cells (gridA 0 0 0 (fun _ => 0) (fun _ => sl0)) 48)) = v at B0 G0 G1 ⊢
  have k0 := G0.rows
  have hb0 : (a : Int) ≤ 5 := by omega
  have hb1 : (a : Int) + 1 ≤ R := by omega
  have hb2 : (R : Int) ≤ 5 := by omega
  have hb3 : (0 : Int) ≤ (a : Int) + 1 := by omega
  have hw : IntKind.i64.wrap ((a : Int) + 1) = (a : Int) + 1 := by rw [IntKind.wrap_i64]; omega
  have HG : Hid (GridAt v w.heap.size R C n f t) := G0
  have HZ : Hid (GridAt v (w.heap.size + 1) 0 0 0 (fun _ => 0) (fun _ => sl0)) := G1
  have HB0 : Hid (Below w.heap.size w v) := B0
  have z1 := G1.lt
  have h5 : ¬ 5 = a := by omega
  have ht : ((a : Int) + 1).toNat = a + 1 := by omega
  have HS : Hid (GridAt (v.drew.setRow w.heap.size (splice (gridL R C n f t) (3 + a * 5) (tailV R a f)).toArray) w.heap.size R C n (outF R a f) t) := by
    show GridAt _ _ _ _ _ _ _
    rw [gridA_out R C n a f t ha hR]
    exact RowAt.setRow (cs := gridA R C n f t) G0 _
  have HBS : Hid (Below w.heap.size w (v.drew.setRow w.heap.size (splice (gridL R C n f t) (3 + a * 5) (tailV R a f)).toArray)) := below_row (B0.trans ((Below.refl _ _).drew)) (Nat.le_refl _) _
  have HZS : Hid (GridAt (v.drew.setRow w.heap.size (splice (gridL R C n f t) (3 + a * 5) (tailV R a f)).toArray) (w.heap.size + 1) 0 0 0 (fun _ => 0) (fun _ => sl0)) := (setRow_other v.drew w.heap.size (w.heap.size + 1) _ (by omega)).trans G1
  clear G0 G1 B0
  by_cases h4 : a = 4
  · have h4' : a + 1 = 5 := by omega
    have hw5 : IntKind.i64.wrap 5 = 5 := by decide
    have h4r : (5 : Int) ≤ R := by omega
    go_wp2_with fail
    go_region_held3 (fun w' => w'.cell? ⟨w.heap.size, 0, none⟩ = some (.int .i64 R)) (first | exact HS.out.rows | go_keep)
      (refine step_copy_rows (by rfl) (.tmp 7) (.tmp 13) _ _ (by rfl) 44 5 Try.underlying81 row_info _ _ _ _ _ _ (by rfl) (by rfl) w.heap.size (3 + a * 5) (gridL R C n f t) 48 HG.out (tailV R a f) 0 (by simp only [Nat.min_def]; split <;> omega) (by rw [tailV_length]; omega) (fun hh => absurd hh (by simp)) (by rw [gridL_length, tailV_length]; omega) (tailV_one _ _ _) ?_)
    generalize (v.drew.setRow w.heap.size (splice (gridL R C n f t) (3 + a * 5) (tailV R a f)).toArray) = v1 at HS HBS HZS ⊢
    have k1 := HS.out.rows
    have k2 := HS.out.frozen 0
    clear k0
    go_upto_region 3 with fail
    have Y0 := HS.out.setRowsO ((R : Int) - 1)
    have Y1 := HBS.out.setCell (p := ⟨w.heap.size, 0, none⟩) (Nat.le_refl _) (.int .i64 ((R : Int) - 1))
    have Y2 := HZS.out.other ⟨w.heap.size, 0, none⟩ (.int .i64 ((R : Int) - 1)) (by simp)
    generalize (v1.setCell ⟨w.heap.size, 0, none⟩ (.int .i64 ((R : Int) - 1))) = v2 at Y0 Y1 Y2 ⊢
    have HY0 : Hid (GridAt v2 w.heap.size ((R : Int) - 1) C n (outF R a f) t) := Y0
    have HY2 : Hid (GridAt v2 (w.heap.size + 1) 0 0 0 (fun _ => 0) (fun _ => sl0)) := Y2
    clear Y0 Y2 k1 k2
    go_wp2_with (first | (refine wpList_load_row rfl 48 (.tmp 2) rfl w.heap.size rfl 48 (gridA ((R : Int) - 1) C n (outF R a f) t) (0, 0) _ HY0.out Try.underlying48 rfl (grid_infoA _ _ _ _ _) ?_) | (refine wpList_store_row rfl 48 (.tmp 4) (.tmp 19) rfl (w.heap.size + 1) (gridA ((R : Int) - 1) C n (outF R a f) t) rfl rfl 48 _ HY2.out (grid_infoA _ _ _ _ _) (by rw [gridA_size, gridA_size]) (gridA_one _ _ _ _ _) ?_))
    refine bodyPost_ret (v := .agg (gridA ((R : Int) - 1) C n (outF R a f) t)) (results_cell_row (p := 4) (ty := 48) rfl _ _ (w.heap.size + 1) 48 _ _ _ rfl (RowAt.setRow HY2.out _) Try.underlying48 rfl (grid_infoA _ _ _ _ _)) rfl ⟨?_, below_row Y1 (by omega) _⟩
    rw [show ((R - 1 : Nat) : Int) = (R : Int) - 1 by omega]
  · have h4' : ¬ 5 = a + 1 := by omega
    go_wp2_with fail
    go_region_held3 (fun w' => w'.cell? ⟨w.heap.size, 0, none⟩ = some (.int .i64 R)) (first | exact HS.out.rows | go_keep)
      (refine step_copy_rows (by rfl) (.tmp 7) (.tmp 13) _ _ (by rfl) 44 5 Try.underlying81 row_info _ _ _ _ _ _ (by rfl) (by rfl) w.heap.size (3 + a * 5) (gridL R C n f t) 48 HG.out (tailV R a f) (R - (a + 1)) (Nat.min_eq_left (by omega)) (by rw [tailV_length]) (fun _ => ⟨rfl, _, rfl, tail_cells HG.out ha hR _ rfl⟩) (by rw [gridL_length, tailV_length]; omega) (tailV_one _ _ _) ?_)
    generalize (v.drew.setRow w.heap.size (splice (gridL R C n f t) (3 + a * 5) (tailV R a f)).toArray) = v1 at HS HBS HZS ⊢
    have k1 := HS.out.rows
    have k2 := HS.out.frozen 0
    clear k0
    go_upto_region 3 with fail
    have Y0 := HS.out.setRowsO ((R : Int) - 1)
    have Y1 := HBS.out.setCell (p := ⟨w.heap.size, 0, none⟩) (Nat.le_refl _) (.int .i64 ((R : Int) - 1))
    have Y2 := HZS.out.other ⟨w.heap.size, 0, none⟩ (.int .i64 ((R : Int) - 1)) (by simp)
    generalize (v1.setCell ⟨w.heap.size, 0, none⟩ (.int .i64 ((R : Int) - 1))) = v2 at Y0 Y1 Y2 ⊢
    have HY0 : Hid (GridAt v2 w.heap.size ((R : Int) - 1) C n (outF R a f) t) := Y0
    have HY2 : Hid (GridAt v2 (w.heap.size + 1) 0 0 0 (fun _ => 0) (fun _ => sl0)) := Y2
    clear Y0 Y2 k1 k2
    go_wp2_with (first | (refine wpList_load_row rfl 48 (.tmp 2) rfl w.heap.size rfl 48 (gridA ((R : Int) - 1) C n (outF R a f) t) (0, 0) _ HY0.out Try.underlying48 rfl (grid_infoA _ _ _ _ _) ?_) | (refine wpList_store_row rfl 48 (.tmp 4) (.tmp 19) rfl (w.heap.size + 1) (gridA ((R : Int) - 1) C n (outF R a f) t) rfl rfl 48 _ HY2.out (grid_infoA _ _ _ _ _) (by rw [gridA_size, gridA_size]) (gridA_one _ _ _ _ _) ?_))
    refine bodyPost_ret (v := .agg (gridA ((R : Int) - 1) C n (outF R a f) t)) (results_cell_row (p := 4) (ty := 48) rfl _ _ (w.heap.size + 1) 48 _ _ _ rfl (RowAt.setRow HY2.out _) Try.underlying48 rfl (grid_infoA _ _ _ _ _)) rfl ⟨?_, below_row Y1 (by omega) _⟩
    rw [show ((R - 1 : Nat) : Int) = (R : Int) - 1 by omega]
end Go.Proofs.Ytpgldodnnlcceaa
namespace Go.Proofs.Ytpgldodnnlcceaa
open Go.RowKit

/-- A cell when a row is taken out. -/
def outC (at' : Int) (x : Cl) : Cl := if at' < x.1 then (x.1 - 1, x.2.1, x.2.2.1, x.2.2.2.1, x.2.2.2.2) else if at' < x.1 + x.2.2.1 then (x.1, x.2.1, x.2.2.1 - 1, x.2.2.2.1, x.2.2.2.2) else x
def tallB (x : Cl) : Bool := decide (0 < x.2.2.1)
def outM (at' : Int) (l : List Cl) : List Cl := (l.map (outC at')).filter tallB
/-- Whether a row can be taken out. -/
def rowOutB (R C : Int) (l : List Cl) (t' : Int) : Bool := okB R C l && decide (0 ≤ t' ∧ t' ≤ R - 1) && decide (2 ≤ R)
def outL (at' : Int) (l : List Cl) : List Cl := sortC (outM at' l)
theorem outC_txt (at' : Int) (x : Cl) : (outC at' x).2.2.2.2 = x.2.2.2.2 := by
  unfold outC
  split
  · rfl
  · split <;> rfl
section
variable {R C : Nat} {l : List Cl}
theorem outF_at (f : Nat → Nat) (a p q : Nat) (hp : p + 1 < R) (hq : q < 5) : outF R a f (p * 5 + q) = if a ≤ p then f ((p + 1) * 5 + q) else f (p * 5 + q) := by
  unfold outF
  rw [show (p * 5 + q) / 5 = p by omega]
  by_cases h : a ≤ p
  · rw [if_pos ⟨h, hp⟩, if_pos h, show p * 5 + q + 5 = (p + 1) * 5 + q by omega]
  · rw [if_neg (fun hh => h hh.1), if_neg h]
theorem out_num (h : okB R C l = true) (a m : Nat) (ha : a < R) (hm : m < l.length) (ht : tallB (outC a (l.getD m cl0)) = true) : NumC (R - 1) C (outF R a (numF l l.length)) (outC a (l.getD m cl0)) (m + 1) := by
  obtain ⟨hR, hC, _, _⟩ := gridP_of_okB h
  obtain ⟨r, b, d, g, e, h1, h2, h3, h4⟩ := cell_nat h m hm
  have hn : ∀ p q, p < R - 1 → q < C → (outF R a (numF l l.length) (p * 5 + q) = m + 1 ↔ (if a ≤ p then inB (l.getD m cl0) ((p + 1 : Nat) : Int) q else inB (l.getD m cl0) (p : Int) q) = true) := by
    intro p q hp hq
    rw [outF_at _ a p q (by omega) (by omega)]
    split
    · rw [num_iff h (p + 1) q m hq]
      exact ⟨fun hh => hh.2, fun hh => ⟨hm, hh⟩⟩
    · rw [num_iff h p q m hq]
      exact ⟨fun hh => hh.2, fun hh => ⟨hm, hh⟩⟩
  generalize (l.getD m cl0).2.2.2.2 = t at e
  rw [e] at ht hn ⊢
  unfold outC tallB at ht
  unfold outC
  simp only at ht ⊢
  by_cases c1 : a < r
  · rw [if_pos (by omega)]
    refine ⟨r - 1, b, d, g, t, by simp; omega, h1, h2, by omega, h4, fun p q hp hq => ?_⟩
    rw [hn p q hp hq]
    split
    · rw [inB_cell]; omega
    · rw [inB_cell]; omega
  · rw [if_neg (by omega)] at ht ⊢
    by_cases c2 : a < r + d
    · rw [if_pos (by omega)] at ht ⊢
      have ht' := of_decide_eq_true ht
      simp only at ht'
      refine ⟨r, b, d - 1, g, t, by simp; omega, by omega, h2, by omega, h4, fun p q hp hq => ?_⟩
      rw [hn p q hp hq]
      split
      · rw [inB_cell]; omega
      · rw [inB_cell]; omega
    · rw [if_neg (by omega)]
      refine ⟨r, b, d, g, t, rfl, h1, h2, by omega, h4, fun p q hp hq => ?_⟩
      rw [hn p q hp hq]
      split
      · rw [inB_cell]; omega
      · rw [inB_cell]
theorem outM_mem {a : Int} {x : Cl} : x ∈ outM a l ↔ ∃ m, m < l.length ∧ outC a (l.getD m cl0) = x ∧ tallB x = true := by
  unfold outM
  rw [List.mem_filter, List.mem_map]
  constructor
  · rintro ⟨⟨y, hy, rfl⟩, ht⟩
    obtain ⟨m, hm, e⟩ := List.getElem_of_mem hy
    exact ⟨m, hm, by rw [getD_get hm, e], ht⟩
  · rintro ⟨m, hm, rfl, ht⟩
    exact ⟨⟨_, getD_mem hm, rfl⟩, ht⟩
theorem tiles_out (h : okB R C l = true) (a : Nat) (ha : a < R) : TilesM (R - 1) C (outF R a (numF l l.length)) (outM a l) := by
  obtain ⟨hR, hC, _, htl⟩ := gridP_of_okB h
  refine tilesM_of ?_ ?_ ?_
  · intro x hx
    obtain ⟨m, hm, rfl, ht⟩ := outM_mem.1 hx
    exact ⟨m + 1, out_num h a m ha hm ht⟩
  · intro p q hp hq
    obtain ⟨r, hr⟩ : ∃ r, r = if a ≤ p then p + 1 else p := ⟨_, rfl⟩
    have hrR : r < R := by rw [hr]; split <;> omega
    have h1 := (htl r q (by unfold vis; simp; omega)).1
    obtain ⟨m, hm⟩ : ∃ m, numF l l.length (r * 5 + q) = m + 1 := ⟨numF l l.length (r * 5 + q) - 1, by omega⟩
    obtain ⟨hml, hin⟩ := (num_iff h r q m hq).1 hm
    obtain ⟨r0, b, d, g, e, q1, q2, q3, q4⟩ := cell_nat h m hml
    have key : tallB (outC a (l.getD m cl0)) = true ∧ inB (outC a (l.getD m cl0)) p q = true := by
      generalize (l.getD m cl0).2.2.2.2 = t at e
      rw [e] at hin ⊢
      rw [inB_cell] at hin
      unfold outC tallB
      simp only
      have hr' : (a ≤ p ∧ r = p + 1) ∨ (¬ a ≤ p ∧ r = p) := by
        by_cases hap : a ≤ p
        · exact .inl ⟨hap, by rw [hr, if_pos hap]⟩
        · exact .inr ⟨hap, by rw [hr, if_neg hap]⟩
      by_cases c1 : (a : Int) < (r0 : Int)
      · rw [if_pos c1]
        simp only [decide_eq_true_eq, inB]
        omega
      · rw [if_neg c1]
        by_cases c2 : (a : Int) < (r0 : Int) + (d : Int)
        · rw [if_pos c2]
          simp only [decide_eq_true_eq, inB]
          omega
        · rw [if_neg c2]
          simp only [decide_eq_true_eq, inB]
          omega
    exact ⟨_, outM_mem.2 ⟨m, hml, rfl, key.1⟩, key.2⟩
  · unfold outM
    rw [List.pairwise_filter, List.pairwise_map, List.pairwise_iff_getElem]
    intro i k hi hk hik t1 t2
    rw [← getD_get hi] at t1 ⊢
    rw [← getD_get hk] at t2 ⊢
    exact ⟨i + 1, k + 1, by omega, out_num h a i ha hi t1, out_num h a k ha hk t2⟩
theorem out_txt (h : okB R C l = true) (a : Nat) (ha : a < R) (k : Nat) (hk : k < (outL a l).length) : ∃ m, m < l.length ∧ ((outL a l).getD k cl0).2.2.2.2 = (l.getD m cl0).2.2.2.2 ∧ outF R a (numF l l.length) (stR ((outL a l).getD k cl0) * 5 + stC ((outL a l).getD k cl0)) = m + 1 := by
  obtain ⟨m, hm, e, ht⟩ := outM_mem.1 ((sortC_perm (outM a l)).mem_iff.1 (getD_mem hk))
  refine ⟨m, hm, ?_, ?_⟩
  · show ((sortC (outM a l)).getD k cl0).2.2.2.2 = _
    rw [← e, outC_txt]
  · have := (out_num h a m ha hm (by rw [e]; exact ht)).start
    rw [e] at this
    exact this
theorem outM_len (a : Int) : (outM a l).length ≤ l.length := by
  unfold outM
  exact Nat.le_trans (List.length_filter_le _ _) (by simp)
theorem outL_len (a : Int) : (outL a l).length ≤ l.length := by
  unfold outL
  rw [(sortC_perm _).length_eq]
  exact outM_len a
end
end Go.Proofs.Ytpgldodnnlcceaa
namespace Go.Proofs.Ytpgldodnnlcceaa
open Go.RowKit

theorem okAhead {R C : Int} {l : List Cl} (h : okB R C l = true) (i k : Nat) (hik : i < k) (hk : k < l.length) : (l.getD i cl0).1 < (l.getD k cl0).1 ∨ (l.getD i cl0).1 = (l.getD k cl0).1 ∧ (l.getD i cl0).2.1 < (l.getD k cl0).2.1 := by
  have hf := formB_of (show formB R C l = true by simp only [okB, Bool.and_eq_true] at h; exact h.1)
  exact ahead_of (ahead_far hf.2.2.2 k i hk hik)
/-- What is sorted and has the cells of a table that is ok is that table's list. -/
theorem sort_ok {R C : Int} {l M : List Cl} (h : okB R C l = true) (hp : M.Perm l) : sortC M = l := by
  have hp' : (sortC M).Perm l := (sortC_perm M).trans hp
  have hs : l.Pairwise leC := by
    rw [List.pairwise_iff_getElem]
    intro i k hi hk hik
    rw [← getD_get hi, ← getD_get hk, leC_iff]
    have := okAhead h i k hik hk
    omega
  refine List.Perm.eq_of_pairwise ?_ (sortC_sorted _) hs hp'
  intro a b ha hb h1 h2
  rw [leC_iff] at h1 h2
  obtain ⟨i, hi, ei⟩ := List.getElem_of_mem (hp'.mem_iff.1 ha)
  obtain ⟨k, hk, ek⟩ := List.getElem_of_mem hb
  rw [← getD_get hi] at ei
  rw [← getD_get hk] at ek
  rcases Nat.lt_trichotomy i k with q | q | q
  · have := okAhead h i k q hk
    rw [ei, ek] at this
    omega
  · subst q
    rw [← ei, ek]
  · have := okAhead h k i q hi
    rw [ei, ek] at this
    omega
theorem out_in {t' : Int} {x : Cl} (h : 1 ≤ x.2.2.1) : outC t' (inC t' x) = x := by
  obtain ⟨r, c, d, g, t⟩ := x
  simp only at h
  unfold inC
  simp only
  by_cases c1 : t' ≤ r
  · rw [if_pos c1]
    unfold outC
    simp only
    rw [if_pos (by omega)]
    simp
  · rw [if_neg c1]
    by_cases c2 : t' < r + d
    · rw [if_pos c2]
      unfold outC
      simp only
      rw [if_neg (by omega), if_pos (by omega)]
      simp
    · rw [if_neg c2]
      unfold outC
      simp only
      rw [if_neg (by omega), if_neg (by omega)]
theorem out_new (t' : Int) (c : Nat) : tallB (outC t' (t', (c : Int), 1, 1, [])) = false := by
  unfold outC
  simp only
  rw [if_neg (by omega), if_pos (by omega)]
  rfl
/-- A row put in, and taken out again. -/
theorem in_out {R C t' : Int} {l : List Cl} (h : rowInB R C l t' = true) : outL t' (inL t' C l) = l := by
  have hok : okB R C l = true := by
    simp only [rowInB, Bool.and_eq_true] at h
    exact h.1.1
  have hd : ∀ x ∈ l, 1 ≤ x.2.2.1 := by
    intro x hx
    obtain ⟨m, hm, e⟩ := List.getElem_of_mem hx
    rw [← getD_get hm] at e
    subst e
    have := wiB_of (stepB_of ((gridP_of_okB hok).2.2.1 m hm)).1
    omega
  refine sort_ok hok ?_
  unfold outM
  have h1 : (inL t' C l).Perm (inM t' C l) := sortC_perm _
  refine ((h1.map (outC t')).filter tallB).trans ?_
  unfold inM
  rw [List.map_append, List.filter_append]
  have e1 : ((l.map (inC t')).map (outC t')).filter tallB = l := by
    have e0 : l.map (outC t' ∘ inC t') = l.map id := List.map_congr_left (fun x hx => out_in (hd x hx))
    rw [List.map_map, e0, List.map_id, List.filter_eq_self]
    intro x hx
    exact decide_eq_true (by have := hd x hx; omega)
  have e2 : ((newI t' C l).map (outC t')).filter tallB = [] := by
    rw [List.filter_eq_nil_iff]
    intro x hx
    obtain ⟨y, hy, rfl⟩ := List.mem_map.1 hx
    unfold newI at hy
    obtain ⟨c, _, rfl⟩ := List.mem_map.1 hy
    rw [out_new]
    simp
  rw [e1, e2, List.append_nil]
end Go.Proofs.Ytpgldodnnlcceaa
namespace Go.Proofs.Ytpgldodnnlcceaa
open Go.RowKit

theorem ok_txt {R C : Int} {l : List Cl} (h : okB R C l = true) : ∀ x ∈ l, textB x.2.2.2.2 = true := by
  intro x hx
  obtain ⟨k, hk, e⟩ := List.getElem_of_mem hx
  have := (stepB_of ((gridP_of_okB h).2.2.1 k hk)).2.2
  rw [show l.getD k cl0 = x by rw [← e]; simp [List.getD, hk]] at this
  exact this
theorem ok_out {R C t' : Int} {l : List Cl} (h : rowOutB R C l t' = true) : okB (R - 1) C (outL t' l) = true := by
  simp only [rowOutB, Bool.and_eq_true, decide_eq_true_eq] at h
  obtain ⟨⟨h1, h2⟩, h3⟩ := h
  obtain ⟨hR, hC, _, _⟩ := gridP_of_okB h1
  obtain ⟨R, rfl⟩ : ∃ R' : Nat, R = R' := ⟨R.toNat, by omega⟩
  obtain ⟨C, rfl⟩ : ∃ C' : Nat, C = C' := ⟨C.toNat, by omega⟩
  obtain ⟨p, rfl⟩ : ∃ p : Nat, t' = p := ⟨t'.toNat, by omega⟩
  rw [show (R : Int) - 1 = ((R - 1 : Nat) : Int) by omega]
  refine okB_sort (tiles_out h1 p (by omega)) (by omega) (by omega) (Nat.le_trans (outM_len _) (ok_small h1).1) ?_
  intro x hx
  obtain ⟨m, hm, e, -⟩ := outM_mem.1 hx
  rw [← e, outC_txt]
  exact ok_txt h1 _ (getD_mem hm)
end Go.Proofs.Ytpgldodnnlcceaa
namespace Go.Proofs.Ytpgldodnnlcceaa
open Go.RowKit

theorem ok_turnI {R C : Int} {l : List Cl} (h : okB R C l = true) : okB C R (turnL l) = true := by
  obtain ⟨hR, hC, _, _⟩ := gridP_of_okB h
  obtain ⟨R, rfl⟩ : ∃ z : Nat, R = z := ⟨R.toNat, by omega⟩
  obtain ⟨C, rfl⟩ : ∃ z : Nat, C = z := ⟨C.toNat, by omega⟩
  exact ok_turn h
theorem turn_turnI {R C : Int} {l : List Cl} (h : okB R C l = true) : turnL (turnL l) = l := by
  obtain ⟨hR, hC, _, _⟩ := gridP_of_okB h
  obtain ⟨R, rfl⟩ : ∃ z : Nat, R = z := ⟨R.toNat, by omega⟩
  obtain ⟨C, rfl⟩ : ∃ z : Nat, C = z := ⟨C.toNat, by omega⟩
  exact turn_turn h
theorem t_of {R C : Int} {l : List Cl} (h : okB R C l = true) : tX R C l = C ∧ tY R C l = R ∧ tL R C l = turnL l := by
  simp [tX, tY, tL, h]
theorem t_back {R C : Int} {l : List Cl} (h : okB R C l = true) : tX C R (turnL l) = R ∧ tY C R (turnL l) = C ∧ tL C R (turnL l) = l := by
  obtain ⟨h1, h2, h3⟩ := t_of (ok_turnI h)
  exact ⟨h1, h2, h3.trans (turn_turnI h)⟩
theorem ok_of_t {R C : Int} {l : List Cl} (h : okB (tX R C l) (tY R C l) (tL R C l) = true) : okB R C l = true := by
  by_cases ho : okB R C l = true
  · exact ho
  · unfold tX tY tL at h
    rw [if_neg ho, if_neg ho, if_neg ho, okB_nil] at h
    cases h
theorem rowIn_ok {R C t' : Int} {l : List Cl} (h : rowInB R C l t' = true) : okB R C l = true := by
  simp only [rowInB, Bool.and_eq_true] at h
  exact h.1.1
theorem rowOut_ok {R C t' : Int} {l : List Cl} (h : rowOutB R C l t' = true) : okB R C l = true := by
  simp only [rowOutB, Bool.and_eq_true] at h
  exact h.1.1
theorem rowOut_of_in {R C t' : Int} {l : List Cl} (h : rowInB R C l t' = true) : rowOutB (R + 1) C (inL t' C l) t' = true := by
  have h1 := ok_in h
  obtain ⟨hR, _, _, _⟩ := gridP_of_okB (rowIn_ok h)
  simp only [rowInB, Bool.and_eq_true, decide_eq_true_eq] at h
  simp only [rowOutB, h1, Bool.true_and, Bool.and_eq_true, decide_eq_true_eq]
  omega
end Go.Proofs.Ytpgldodnnlcceaa
namespace Go.Proofs.Ytpgldodnnlcceaa
open Go.RowKit

/-- The text of a square. -/
def sqT (R C : Int) (l : List Cl) (r c : Int) : List Sg := if atN R C l r c < 0 then [] else (l.getD (atN R C l r c).toNat cl0).2.2.2.2
section
variable {R C : Int} {l : List Cl}
theorem ok_cell (h : okB R C l = true) {x : Cl} (hx : x ∈ l) : (0 ≤ x.1 ∧ 0 ≤ x.2.1 ∧ 1 ≤ x.2.2.1 ∧ 1 ≤ x.2.2.2.1) ∧ x.1 + x.2.2.1 ≤ R ∧ x.2.1 + x.2.2.2.1 ≤ C := by
  obtain ⟨m, hm, e⟩ := List.getElem_of_mem hx
  rw [← getD_get hm] at e
  subst e
  exact wiB_of (stepB_of ((gridP_of_okB h).2.2.1 m hm)).1
theorem inB_is {x : Cl} {r c : Int} : inB x r c = true ↔ x.1 ≤ r ∧ r < x.1 + x.2.2.1 ∧ x.2.1 ≤ c ∧ c < x.2.1 + x.2.2.2.1 := by
  unfold inB
  simp only [decide_eq_true_eq]
/-- A square is of the one cell that has it. -/
theorem at_of (h : okB R C l = true) {x : Cl} (hx : x ∈ l) (r c : Nat) (hi : inB x r c = true) : ∃ k, k < l.length ∧ atN R C l r c = (k : Int) ∧ l.getD k cl0 = x := by
  obtain ⟨k, hk, e⟩ := List.getElem_of_mem hx
  rw [← getD_get hk] at e
  have hw := ok_cell h hx
  have hi' := inB_is.1 hi
  refine ⟨k, hk, ?_, e⟩
  unfold atN
  rw [if_pos h, findIdx_some l k r c hk ?_ (by rw [e]; exact hi)]
  intro j hj
  cases hq : inB (l.getD j cl0) r c
  · rfl
  · exact (okB_apart h r c (by omega) (by omega) hj hk hq (by rw [e]; exact hi)).elim
theorem sqT_of (h : okB R C l = true) {x : Cl} (hx : x ∈ l) (r c : Nat) (hi : inB x r c = true) : sqT R C l r c = x.2.2.2.2 := by
  obtain ⟨k, hk, e, e2⟩ := at_of h hx r c hi
  unfold sqT
  rw [e, if_neg (by omega)]
  rw [show ((k : Int)).toNat = k by omega, e2]
theorem sq_has (h : okB R C l = true) (r c : Nat) (hr : (r : Int) < R) (hc : (c : Int) < C) : ∃ x ∈ l, inB x r c = true := by
  have h1 := okB_cnt h r c hr hc
  unfold cnt at h1
  obtain ⟨x, hx, hi⟩ := List.countP_pos_iff.1 (show 0 < l.countP (fun x => inB x r c) by omega)
  exact ⟨x, hx, hi⟩
/-- Two cells that have one square are one. -/
theorem one_cell (h : okB R C l = true) {x y : Cl} (hx : x ∈ l) (hy : y ∈ l) (r c : Nat) (h1 : inB x r c = true) (h2 : inB y r c = true) : x = y := by
  obtain ⟨k, _, e, ek⟩ := at_of h hx r c h1
  obtain ⟨m, _, e', em⟩ := at_of h hy r c h2
  have : k = m := by omega
  subst this
  rw [← ek, em]
theorem inL_mem {t' : Int} {x : Cl} (hx : x ∈ l) : inC t' x ∈ inL t' C l := (sortC_perm _).mem_iff.2 (List.mem_append.2 (Or.inl (List.mem_map_of_mem hx)))
theorem inC_has {t' : Int} {x : Cl} {r c : Int} (h : inB x r c = true) : inB (inC t' x) (if t' ≤ r then r + 1 else r) c = true := by
  obtain ⟨a, b, d, g, t⟩ := x
  have h' := inB_is.1 h
  simp only at h'
  rw [inB_is]
  unfold inC
  simp only
  by_cases c1 : t' ≤ a
  · rw [if_pos c1, if_pos (show t' ≤ r by omega)]
    simp only
    omega
  · rw [if_neg c1]
    by_cases c2 : t' < a + d
    · rw [if_pos c2]
      simp only
      split <;> omega
    · rw [if_neg c2, if_neg (show ¬ t' ≤ r by omega)]
      simp only
      omega
theorem sq_in {t' : Int} (h : rowInB R C l t' = true) (r c : Nat) (hr : (r : Int) < R) (hc : (c : Int) < C) (tq : Nat) (htq : (tq : Int) = if t' ≤ (r : Int) then (r : Int) + 1 else r) : sqT (R + 1) C (inL t' C l) tq c = sqT R C l r c := by
  obtain ⟨x, hx, hi⟩ := sq_has (rowIn_ok h) r c hr hc
  have h2 : inB (inC t' x) tq c = true := by rw [htq]; exact inC_has hi
  rw [sqT_of (ok_in h) (inL_mem hx) tq c h2, sqT_of (rowIn_ok h) hx r c hi, inC_txt]
theorem outC_has {t' : Int} {x : Cl} {r c : Int} (h : inB x (if t' ≤ r then r + 1 else r) c = true) : inB (outC t' x) r c = true := by
  obtain ⟨a, b, d, g, t⟩ := x
  have h' := inB_is.1 h
  simp only at h'
  rw [inB_is]
  unfold outC
  simp only
  by_cases c0 : t' ≤ r
  · rw [if_pos c0] at h'
    by_cases c1 : t' < a
    · rw [if_pos c1]
      simp only
      omega
    · rw [if_neg c1]
      by_cases c2 : t' < a + d
      · rw [if_pos c2]
        simp only
        omega
      · rw [if_neg c2]
        simp only
        omega
  · rw [if_neg c0] at h'
    rw [if_neg (show ¬ t' < a by omega)]
    by_cases c2 : t' < a + d
    · rw [if_pos c2]
      simp only
      omega
    · rw [if_neg c2]
      simp only
      omega
theorem sq_out {t' : Int} (h : rowOutB R C l t' = true) (r c : Nat) (hr : (r : Int) < R - 1) (hc : (c : Int) < C) (fr : Nat) (hfr : (fr : Int) = if t' ≤ (r : Int) then (r : Int) + 1 else r) : sqT (R - 1) C (outL t' l) r c = sqT R C l fr c := by
  have hfR : (fr : Int) < R := by rw [hfr]; split <;> omega
  obtain ⟨x, hx, hi⟩ := sq_has (rowOut_ok h) fr c hfR hc
  have h2 : inB (outC t' x) r c = true := outC_has (by rw [← hfr]; exact hi)
  have hm : outC t' x ∈ outL t' l := by
    refine (sortC_perm _).mem_iff.2 (List.mem_filter.2 ⟨List.mem_map_of_mem hx, ?_⟩)
    have := inB_is.1 h2
    exact decide_eq_true (by omega)
  rw [sqT_of (ok_out h) hm r c h2, sqT_of (rowOut_ok h) hx fr c hi, outC_txt]
theorem inL_len (t' : Int) : (inL t' C l).length = l.length + (newI t' C l).length := by
  unfold inL
  rw [(sortC_perm _).length_eq]
  unfold inM
  rw [List.length_append, List.length_map]
/-- A square of the table turned. -/
theorem sq_turn (h : okB R C l = true) (r c : Nat) (hr : (r : Int) < R) (hc : (c : Int) < C) : sqT C R (turnL l) c r = sqT R C l r c := by
  obtain ⟨x, hx, hi⟩ := sq_has h r c hr hc
  have hm : turnC x ∈ turnL l := (turnL_mem l _).2 ⟨x, hx, rfl⟩
  have h2 : inB (turnC x) c r = true := by
    rw [inB_is] at hi ⊢
    unfold turnC
    simp only
    omega
  rw [sqT_of (ok_turnI h) hm c r h2, sqT_of h hx r c hi]
  rfl
theorem sq_in1 {t' : Int} (h : rowInB R C l t' = true) (r c : Nat) (hr : (r : Int) < R) (hc : (c : Int) < C) (ht : t' ≤ (r : Int)) : sqT (R + 1) C (inL t' C l) ((r : Int) + 1) c = sqT R C l r c :=
  sq_in h r c hr hc (r + 1) (by rw [if_pos ht]; omega)
theorem sq_in0 {t' : Int} (h : rowInB R C l t' = true) (r c : Nat) (hr : (r : Int) < R) (hc : (c : Int) < C) (ht : ¬ t' ≤ (r : Int)) : sqT (R + 1) C (inL t' C l) r c = sqT R C l r c :=
  sq_in h r c hr hc r (by rw [if_neg ht])
theorem sq_out1 {t' : Int} (h : rowOutB R C l t' = true) (r c : Nat) (hr : (r : Int) < R - 1) (hc : (c : Int) < C) (ht : t' ≤ (r : Int)) : sqT (R - 1) C (outL t' l) r c = sqT R C l ((r : Int) + 1) c :=
  sq_out h r c hr hc (r + 1) (by rw [if_pos ht]; omega)
theorem sq_out0 {t' : Int} (h : rowOutB R C l t' = true) (r c : Nat) (hr : (r : Int) < R - 1) (hc : (c : Int) < C) (ht : ¬ t' ≤ (r : Int)) : sqT (R - 1) C (outL t' l) r c = sqT R C l r c :=
  sq_out h r c hr hc r (by rw [if_neg ht])
theorem sq_col1 {t' : Int} (h : okB R C l = true) (hi : rowInB C R (turnL l) t' = true) (r c : Nat) (hr : (r : Int) < R) (hc : (c : Int) < C) (ht : t' ≤ (c : Int)) : sqT R (C + 1) (turnL (inL t' R (turnL l))) r ((c : Int) + 1) = sqT R C l r c := by
  have h1 := sq_turn (ok_in hi) (c + 1) r (by omega) hr
  have h2 := sq_in hi c r hc hr (c + 1) (by rw [if_pos ht]; omega)
  rw [show ((c : Int) + 1) = ((c + 1 : Nat) : Int) by omega, h1, h2, sq_turn h r c hr hc]
theorem sq_col0 {t' : Int} (h : okB R C l = true) (hi : rowInB C R (turnL l) t' = true) (r c : Nat) (hr : (r : Int) < R) (hc : (c : Int) < C) (ht : ¬ t' ≤ (c : Int)) : sqT R (C + 1) (turnL (inL t' R (turnL l))) r c = sqT R C l r c := by
  have h1 := sq_turn (ok_in hi) c r (by omega) hr
  have h2 := sq_in hi c r hc hr c (by rw [if_neg ht])
  rw [h1, h2, sq_turn h r c hr hc]
end
end Go.Proofs.Ytpgldodnnlcceaa
namespace Go.Proofs.Ytpgldodnnlcceaa
open Go.RowKit

section
variable {R C : Int} {l : List Cl}
theorem ok_nodup (h : okB R C l = true) : l.Nodup := by
  refine List.pairwise_iff_getElem.2 ?_
  intro i k hi hk hik e
  have := okAhead h i k hik hk
  rw [getD_get hi, getD_get hk, e] at this
  omega
/-- Of two tables that are ok, and of one size, one whose cells are all of the other is the other. -/
theorem same_of_sub {l2 : List Cl} (h : okB R C l = true) (h2 : okB R C l2 = true) (hs : ∀ x ∈ l, x ∈ l2) : l = l2 := by
  have hp : l.Perm l2 := by
    refine (List.perm_ext_iff_of_nodup (ok_nodup h) (ok_nodup h2)).2 fun y => ⟨hs y, fun hy => ?_⟩
    have hc := ok_cell h2 hy
    obtain ⟨a, ha⟩ : ∃ a : Nat, y.1 = a := ⟨y.1.toNat, by omega⟩
    obtain ⟨b, hb⟩ : ∃ b : Nat, y.2.1 = b := ⟨y.2.1.toNat, by omega⟩
    obtain ⟨x, hx, hi⟩ := sq_has h a b (by omega) (by omega)
    have : x = y := one_cell h2 (hs x hx) hy a b hi (inB_is.2 (by omega))
    rw [← this]
    exact hx
  exact (sort_ok h (List.Perm.refl l)).symm.trans (sort_ok h2 hp)
theorem takenB_iff {t' c : Int} : takenB t' l c = true ↔ ∃ x ∈ l, x.1 < t' ∧ t' < x.1 + x.2.2.1 ∧ x.2.1 ≤ c ∧ c < x.2.1 + x.2.2.2.1 := by
  unfold takenB overB
  simp only [List.any_eq_true, decide_eq_true_eq]
theorem taken_not {t' c : Int} : takenB t' l c = false ↔ ∀ x ∈ l, ¬ (x.1 < t' ∧ t' < x.1 + x.2.2.1 ∧ x.2.1 ≤ c ∧ c < x.2.1 + x.2.2.2.1) := by
  rw [← Bool.not_eq_true, takenB_iff]
  constructor
  · intro h x hx hh
    exact h ⟨x, hx, hh⟩
  · rintro h ⟨x, hx, hh⟩
    exact h x hx hh
theorem inL_iff {t' : Int} {z : Cl} : z ∈ inL t' C l ↔ (∃ x ∈ l, z = inC t' x) ∨ ∃ c : Nat, (c : Int) < C ∧ takenB t' l c = false ∧ z = (t', (c : Int), 1, 1, []) := by
  unfold inL
  rw [(sortC_perm _).mem_iff]
  unfold inM newI
  rw [List.mem_append, List.mem_map, List.mem_map]
  constructor
  · rintro (⟨x, hx, rfl⟩ | ⟨c, hc, rfl⟩)
    · exact Or.inl ⟨x, hx, rfl⟩
    · rw [List.mem_filter, List.mem_range] at hc
      refine Or.inr ⟨c, by omega, ?_, rfl⟩
      have := hc.2
      simpa using this
  · rintro (⟨x, hx, rfl⟩ | ⟨c, hc, ht, rfl⟩)
    · exact Or.inl ⟨x, hx, rfl⟩
    · refine Or.inr ⟨c, ?_, rfl⟩
      rw [List.mem_filter, List.mem_range]
      exact ⟨by omega, by simp [ht]⟩
theorem inC_two {a o : Int} (hao : a ≤ o) {x : Cl} (hd : 1 ≤ x.2.2.1) : inC (o + 1) (inC a x) = inC a (inC o x) := by
  obtain ⟨r, b, d, g, t⟩ := x
  simp only at hd
  unfold inC
  simp only
  by_cases c1 : a ≤ r <;> by_cases c2 : o ≤ r <;> by_cases c3 : a < r + d <;> by_cases c4 : o < r + d <;> simp only [c1, c2, c3, c4, if_true, if_false] <;> first | omega | (repeat' split) <;> first | rfl | omega | (simp only [Prod.mk.injEq, and_true, true_and]; omega)
/-- Two rows put in, in either order. -/
theorem in_two {a o : Int} (h : rowInB R C l a = true) (hao : a ≤ o) (hoR : o ≤ R) (h5 : R + 1 < 5) : inL (o + 1) C (inL a C l) = inL a C (inL o C l) := by
  have hok := rowIn_ok h
  have h' := h
  simp only [rowInB, Bool.and_eq_true, decide_eq_true_eq] at h'
  have ho : rowInB R C l o = true := by
    simp only [rowInB, hok, Bool.true_and, Bool.and_eq_true, decide_eq_true_eq]
    omega
  have h1 : rowInB (R + 1) C (inL a C l) (o + 1) = true := by
    simp only [rowInB, ok_in h, Bool.true_and, Bool.and_eq_true, decide_eq_true_eq]
    omega
  have h2 : rowInB (R + 1) C (inL o C l) a = true := by
    simp only [rowInB, ok_in ho, Bool.true_and, Bool.and_eq_true, decide_eq_true_eq]
    omega
  refine same_of_sub (ok_in h1) (ok_in h2) ?_
  intro z hz
  rcases inL_iff.1 hz with ⟨y, hy, rfl⟩ | ⟨c, hc, ht, rfl⟩
  · rcases inL_iff.1 hy with ⟨x, hx, rfl⟩ | ⟨c, hc, ht, rfl⟩
    · rw [inC_two hao (ok_cell hok hx).1.2.2.1]
      exact inL_iff.2 (Or.inl ⟨_, inL_iff.2 (Or.inl ⟨x, hx, rfl⟩), rfl⟩)
    · refine inL_iff.2 (Or.inr ⟨c, hc, ?_, ?_⟩)
      · rw [taken_not] at ht ⊢
        intro y hy hh
        rcases inL_iff.1 hy with ⟨x, hx, rfl⟩ | ⟨c', hc', ht', rfl⟩
        · have hw := ok_cell hok hx
          refine ht x hx ?_
          obtain ⟨r, b, d, g, t⟩ := x
          unfold inC at hh
          simp only at hh hw ⊢
          by_cases c1 : o ≤ r
          · rw [if_pos c1] at hh
            simp only at hh
            omega
          · rw [if_neg c1] at hh
            by_cases c2 : o < r + d
            · rw [if_pos c2] at hh
              simp only at hh
              omega
            · rw [if_neg c2] at hh
              simp only at hh
              omega
        · simp only at hh
          omega
      · unfold inC
        simp only
        rw [if_neg (by omega), if_neg (by omega)]
  · refine inL_iff.2 (Or.inl ⟨(o, (c : Int), 1, 1, []), inL_iff.2 (Or.inr ⟨c, hc, ?_, rfl⟩), ?_⟩)
    · rw [taken_not] at ht ⊢
      intro x hx hh
      have hw := ok_cell hok hx
      refine ht _ (inL_iff.2 (Or.inl ⟨x, hx, rfl⟩)) ?_
      obtain ⟨r, b, d, g, t⟩ := x
      unfold inC
      simp only at hh hw ⊢
      by_cases c1 : a ≤ r
      · rw [if_pos c1]
        simp only
        omega
      · rw [if_neg c1, if_pos (show a < r + d by omega)]
        simp only
        omega
    · unfold inC
      simp only
      rw [if_pos (by omega)]
theorem in_two_B {a o : Int} (h : rowInB R C l a = true) (hao : a ≤ o) (hoR : o ≤ R) : rowInB R C l o = true ∧ rowInB (R + 1) C (inL a C l) (o + 1) = decide (R + 1 < 5) ∧ rowInB (R + 1) C (inL o C l) a = decide (R + 1 < 5) := by
  have hok := rowIn_ok h
  have h' := h
  simp only [rowInB, Bool.and_eq_true, decide_eq_true_eq] at h'
  have ho : rowInB R C l o = true := by
    simp only [rowInB, hok, Bool.true_and, Bool.and_eq_true, decide_eq_true_eq]
    omega
  refine ⟨ho, ?_, ?_⟩
  · simp only [rowInB, ok_in h, Bool.true_and]
    rw [decide_eq_true (show 0 ≤ o + 1 ∧ o + 1 ≤ R + 1 by omega), Bool.true_and]
  · simp only [rowInB, ok_in ho, Bool.true_and]
    rw [decide_eq_true (show 0 ≤ a ∧ a ≤ R + 1 by omega), Bool.true_and]
theorem outC_two {a o : Int} (hao : a < o) {x : Cl} (hd : 1 ≤ x.2.2.1) : outC (o - 1) (outC a x) = outC a (outC o x) := by
  obtain ⟨r, b, d, g, t⟩ := x
  simp only at hd
  unfold outC
  simp only
  by_cases c1 : a < r <;> by_cases c2 : o < r <;> by_cases c3 : a < r + d <;> by_cases c4 : o < r + d <;> simp only [c1, c2, c3, c4, if_true, if_false] <;> first | omega | (repeat' split) <;> first | rfl | omega | (simp only [Prod.mk.injEq, and_true, true_and]; omega)
theorem outC_low {a : Int} {x : Cl} (h : tallB x = false) : tallB (outC a x) = false := by
  obtain ⟨r, b, d, g, t⟩ := x
  unfold tallB at h ⊢
  simp only [decide_eq_false_iff_not] at h ⊢
  unfold outC
  simp only
  by_cases c1 : a < r
  · rw [if_pos c1]
    exact h
  · rw [if_neg c1]
    by_cases c2 : a < r + d
    · omega
    · rw [if_neg c2]
      exact h
theorem filter_low (a : Int) (M : List Cl) : ((M.filter tallB).map (outC a)).filter tallB = (M.map (outC a)).filter tallB := by
  induction M with
  | nil => rfl
  | cons x M ih =>
    cases hx : tallB x
    · rw [List.filter_cons_of_neg (by simp [hx]), List.map_cons, List.filter_cons_of_neg (by simp [outC_low hx])]
      exact ih
    · rw [List.filter_cons_of_pos hx, List.map_cons, List.map_cons, List.filter_cons, List.filter_cons, ih]
theorem out_perm (a b : Int) : (outM a (outL b l)).Perm ((l.map (outC a ∘ outC b)).filter tallB) := by
  have h1 : (outL b l).Perm ((l.map (outC b)).filter tallB) := sortC_perm _
  unfold outM
  refine ((h1.map (outC a)).filter tallB).trans ?_
  rw [filter_low, List.map_map]
/-- Two rows taken out, in either order. -/
theorem out_two {a o : Int} (h : rowOutB R C l o = true) (h0 : 0 ≤ a) (hao : a < o) (h3 : 3 ≤ R) : outL (o - 1) (outL a l) = outL a (outL o l) := by
  have hok := rowOut_ok h
  have h' := h
  simp only [rowOutB, Bool.and_eq_true, decide_eq_true_eq] at h'
  have h2 : rowOutB (R - 1) C (outL o l) a = true := by
    simp only [rowOutB, ok_out h, Bool.true_and, Bool.and_eq_true, decide_eq_true_eq]
    omega
  have e : l.map (outC (o - 1) ∘ outC a) = l.map (outC a ∘ outC o) := List.map_congr_left (fun x hx => outC_two hao (ok_cell hok hx).1.2.2.1)
  refine sort_ok (ok_out h2) ?_
  refine (out_perm (o - 1) a).trans ?_
  rw [e]
  exact (out_perm a o).symm.trans (sortC_perm _).symm
theorem out_two_B {a o : Int} (h : rowOutB R C l a = true) (hao : a < o) (hoR : o ≤ R - 1) : rowOutB R C l o = true ∧ rowOutB (R - 1) C (outL a l) (o - 1) = decide (3 ≤ R) ∧ rowOutB (R - 1) C (outL o l) a = decide (3 ≤ R) := by
  have hok := rowOut_ok h
  have h' := h
  simp only [rowOutB, Bool.and_eq_true, decide_eq_true_eq] at h'
  have ho : rowOutB R C l o = true := by
    simp only [rowOutB, hok, Bool.true_and, Bool.and_eq_true, decide_eq_true_eq]
    omega
  refine ⟨ho, ?_, ?_⟩
  · simp only [rowOutB, ok_out h, Bool.true_and]
    rw [decide_eq_true (show 0 ≤ o - 1 ∧ o - 1 ≤ R - 1 - 1 by omega), Bool.true_and, decide_eq_decide]
    omega
  · simp only [rowOutB, ok_out ho, Bool.true_and]
    rw [decide_eq_true (show 0 ≤ a ∧ a ≤ R - 1 - 1 by omega), Bool.true_and, decide_eq_decide]
    omega
end
end Go.Proofs.Ytpgldodnnlcceaa
