import Derived.Test.YtpgldodnnlcceaaBA1
import Derived.Laws.ResultCell
import Derived.Deep.Cut
import Derived.Deep.RegionHeld3
import Derived.Deep.AppendLies
import Derived.Deep.MidRow
namespace Go.Proofs.Ytpgldodnnlcceaa
open Go.RowKit

theorem built_0 : Try.prog.built 48 [] = some (gridA 0 0 0 (fun _ => 0) (fun _ => sl0)) := by kernel_rfl
set_option maxRecDepth 100000 in
theorem built_2 (R C : Int) : Try.prog.built 48 [(0, .int .i64 R), (1, .int .i64 C)] = some (gridA R C 0 (fun _ => 0) (fun _ => sl0)) := by rfl
theorem wpList_grid0 {ops : Array Oper} {rest : List Oper} {o : Oper} {a : Act} {w : World} {Q : Exit → Act → World → Prop} (hg : o.guard = none) (ho : o.op = .build 48 #[])
    (h : wpList Try.prog ops Q rest (a.put o.dst (.agg (gridA 0 0 0 (fun _ => 0) (fun _ => sl0)))) w) : wpList Try.prog ops Q (o :: rest) a w := by
  have e : ((#[] : Array (Nat × Operand)).map fun (i, x) => (i, a.eval x)).toList = [] := by simp
  exact wpList_build hg 48 _ ho (by rw [e, built_0]; rfl) (by rw [e, built_0]; exact h)
theorem wpList_grid2 {ops : Array Oper} {rest : List Oper} {o : Oper} {a : Act} {w : World} {Q : Exit → Act → World → Prop} (hg : o.guard = none) (x y : Operand) (ho : o.op = .build 48 #[(0, x), (1, y)]) (R C : Int) (hx : a.eval x = .int .i64 R) (hy : a.eval y = .int .i64 C)
    (h : wpList Try.prog ops Q rest (a.put o.dst (.agg (gridA R C 0 (fun _ => 0) (fun _ => sl0)))) w) : wpList Try.prog ops Q (o :: rest) a w := by
  have e : ((#[(0, x), (1, y)] : Array (Nat × Operand)).map fun (i, x) => (i, a.eval x)).toList = [(0, .int .i64 R), (1, .int .i64 C)] := by simp [hx, hy]
  exact wpList_build hg 48 _ ho (by rw [e, built_2]; rfl) (by rw [e, built_2]; exact h)
theorem run_gridOf {w : World} {g : Nat} {R C : Int} {n : Nat} {f : Nat → Nat} {t : Nat → Sl} (h : GridAt w g R C n f t) : (loadVar 48 ⟨g, 0, none⟩).run Try.prog w = .ok (.agg (gridA R C n f t)) w :=
  run_loadVar_row w g 48 48 (gridA R C n f t) (0, 0) _ h Try.underlying48 rfl (grid_infoA _ _ _ _ _)
theorem implTextOk_isG {a : Option Addr} {n cap : Nat} {l : List Sg} {w : World} {x : Bool} (h : Txt w a n cap l) (hx : textB l = x) :
    Calls Try.prog 41 #[.slice a n cap] w fun e w' => e = .returned (.bool x) ∧ Below w.heap.size w w' := hx ▸ implTextOk_any a n cap l w h

theorem okB_no {R C : Int} {l : List Cl} (h : ¬ gridP R C l) : okB R C l = false := by
  rw [← Bool.not_eq_true, ← gridP_iff]
  exact h
/-- What gridOf gives. -/
def GridRes (R C : Int) (l : List Cl) (x : Bool) (z : Ending) (w' : World) : Prop :=
  (x = false ∧ z = .returned (.tuple #[.agg (gridA 0 0 0 (fun _ => 0) (fun _ => sl0)), .bool false])) ∨
  (x = true ∧ ∃ t : Nat → Sl, z = .returned (.tuple #[.agg (gridA R C l.length (numF l l.length) t), .bool true]) ∧ ∀ i, i < l.length → Txt w' (t (i + 1)).1 (t (i + 1)).2.1 (t (i + 1)).2.2 (l.getD i cl0).2.2.2.2)

set_option maxRecDepth 100000 in
set_option maxHeartbeats 4000000 in
theorem gridOf_is {R C : Int} {a : Option Addr} {n cap : Nat} {l : List Cl} {w : World} {x : Bool} (hx : okB R C l = x) (h : Tab w a n cap l) :
    Calls Try.prog 23 #[.agg #[.int .i64 R, .int .i64 C, .slice a n cap]] w fun z w' => GridRes R C l x z w' ∧ Below w.heap.size w w' := by
  have HX : Hid (okB R C l = x) := hx
  have H : Hid (Tab w a n cap l) := h
  obtain ⟨rfl, hc, hm, hl⟩ := h
  clear hx hl
  unfold maxLen at hm
  go_enter Try.func23, Try.ntmps23
  go_upto_region 1 with fail
  rw [← grid_zero]
  have B0 : Below w.heap.size w ((w.alloc (.cells #[.int .i64 R, .int .i64 C, .slice a l.length cap] 25)).alloc (.cells (gridA 0 0 0 (fun _ => 0) (fun _ => sl0)) 48)) := (((Below.refl _ _).alloc (Nat.le_refl _) _).alloc (by simp) _)
  have G1 : GridAt ((w.alloc (.cells #[.int .i64 R, .int .i64 C, .slice a l.length cap] 25)).alloc (.cells (gridA 0 0 0 (fun _ => 0) (fun _ => sl0)) 48)) (w.heap.size + 1) 0 0 0 (fun _ => 0) (fun _ => sl0) := by
    have := gridAt_new (w.alloc (.cells #[.int .i64 R, .int .i64 C, .slice a l.length cap] 25)) 0 0 0 (fun _ => 0) (fun _ => sl0)
    simpa using this
  have G2 : RowAt ((w.alloc (.cells #[.int .i64 R, .int .i64 C, .slice a l.length cap] 25)).alloc (.cells (gridA 0 0 0 (fun _ => 0) (fun _ => sl0)) 48)) w.heap.size #[.int .i64 R, .int .i64 C, .slice a l.length cap] 25 := (rowAt_new w _ _).alloc _
  generalize ((w.alloc (.cells #[.int .i64 R, .int .i64 C, .slice a l.length cap] 25)).alloc (.cells (gridA 0 0 0 (fun _ => 0) (fun _ => sl0)) 48)) = v0 at B0 G1 G2 ⊢
  have k0 : v0.cell? ⟨w.heap.size, 0, none⟩ = some (.int .i64 R) := G2.cell 0
  have k1 : v0.cell? ⟨w.heap.size, 1, none⟩ = some (.int .i64 C) := G2.cell 1
  have k2 : v0.cell? ⟨w.heap.size, 2, none⟩ = some (.slice a l.length cap) := G2.cell 2
  have HZ : Hid (GridAt v0 (w.heap.size + 1) 0 0 0 (fun _ => 0) (fun _ => sl0)) := G1
  clear G1
  cases s0 : sizeB R
  · have S0 : Hid (sizeB R = false) := s0
    clear s0
    go_upto_region 2 with (go_at_call 24; refine (sizeOk_is S0.out _).mono ?_; rintro e w1 ⟨rfl, hw1⟩; subst w1)
    go_wp2_with (first | (refine wpList_grid0 rfl rfl ?_) | (refine wpList_store_row rfl 48 (.tmp 2) (.tmp 18) rfl (w.heap.size + 1) (gridA 0 0 0 (fun _ => 0) (fun _ => sl0)) rfl rfl 48 _ HZ.out (grid_infoA _ _ _ _ _) (by rw [gridA_size]) (gridA_one _ _ _ _ _) ?_))
    refine bodyPost_ret (v := .tuple #[.agg (gridA 0 0 0 (fun _ => 0) (fun _ => sl0)), .bool false]) ?_ rfl ⟨.inl ⟨?_, rfl⟩, ?_⟩
    · rw [results_cell_tmp rfl]
      simp [asAddr, Result.andThen, run_gridOf (RowAt.setRow HZ.out (gridA 0 0 0 (fun _ => 0) (fun _ => sl0)))]
    · rw [← HX.out]
      exact okB_no (fun hp => by have := S0.out; simp [sizeB] at this; have := hp.1; omega)
    · exact below_row B0 (by omega) _
  cases s1 : sizeB C
  · have S0 : Hid (sizeB R = true) := s0
    have S1 : Hid (sizeB C = false) := s1
    clear s0 s1
    go_upto_region 2 with (first | (go_at_call_of 24 (Value.int IntKind.i64 R); refine (sizeOk_is S0.out _).mono ?_; rintro e w1 ⟨rfl, hw1⟩; subst w1) | (go_at_call_of 24 (Value.int IntKind.i64 C); refine (sizeOk_is S1.out _).mono ?_; rintro e w1 ⟨rfl, hw1⟩; subst w1))
    go_wp2_with (first | (refine wpList_grid0 rfl rfl ?_) | (refine wpList_store_row rfl 48 (.tmp 2) (.tmp 18) rfl (w.heap.size + 1) (gridA 0 0 0 (fun _ => 0) (fun _ => sl0)) rfl rfl 48 _ HZ.out (grid_infoA _ _ _ _ _) (by rw [gridA_size]) (gridA_one _ _ _ _ _) ?_))
    refine bodyPost_ret (v := .tuple #[.agg (gridA 0 0 0 (fun _ => 0) (fun _ => sl0)), .bool false]) ?_ rfl ⟨.inl ⟨?_, rfl⟩, ?_⟩
    · rw [results_cell_tmp rfl]
      simp [asAddr, Result.andThen, run_gridOf (RowAt.setRow HZ.out (gridA 0 0 0 (fun _ => 0) (fun _ => sl0)))]
    · rw [← HX.out]
      exact okB_no (fun hp => by have := S1.out; simp [sizeB] at this; have := hp.2.1; omega)
    · exact below_row B0 (by omega) _
  have hR : 1 ≤ R ∧ R ≤ 5 := of_decide_eq_true s0
  have hC : 1 ≤ C ∧ C ≤ 5 := of_decide_eq_true s1
  have S0 : Hid (sizeB R = true) := s0
  have S1 : Hid (sizeB C = true) := s1
  clear s0 s1
  obtain ⟨R, rfl⟩ : ∃ R' : Nat, R = R' := ⟨R.toNat, by omega⟩
  obtain ⟨C, rfl⟩ : ∃ C' : Nat, C = C' := ⟨C.toNat, by omega⟩
  go_upto_region 3 with (first | (go_at_call_of 24 (Value.int IntKind.i64 R); refine (sizeOk_is S0.out _).mono ?_; rintro e w1 ⟨rfl, hw1⟩; subst w1) | (go_at_call_of 24 (Value.int IntKind.i64 C); refine (sizeOk_is S1.out _).mono ?_; rintro e w1 ⟨rfl, hw1⟩; subst w1))
  clear S0 S1
  go_upto_region 4 with (first | (refine wpList_grid2 rfl (.tmp 20) (.tmp 22) rfl R C rfl rfl ?_) | (rw [← grid_zero]; refine wpList_store_row rfl 48 (.tmp 4) (.tmp 23) rfl v0.heap.size (gridA R C 0 (fun _ => 0) (fun _ => sl0)) rfl rfl 48 _ (gridAt_new _ _ _ _ _ _) (grid_infoA _ _ _ _ _) (by rw [gridA_size, gridA_size]) (gridA_one _ _ _ _ _) ?_))
  have G4 : GridAt ((v0.alloc (.cells (gridA 0 0 0 (fun _ => 0) (fun _ => sl0)) 48)).setRow v0.heap.size (gridA R C 0 (fun _ => 0) (fun _ => sl0))) v0.heap.size R C 0 (fun _ => 0) (fun _ => sl0) := RowAt.setRow (gridAt_new _ _ _ _ _ _) _
  have B4 : Below v0.heap.size v0 ((v0.alloc (.cells (gridA 0 0 0 (fun _ => 0) (fun _ => sl0)) 48)).setRow v0.heap.size (gridA R C 0 (fun _ => 0) (fun _ => sl0))) := below_row ((Below.refl _ _).alloc (Nat.le_refl _) _) (Nat.le_refl _) _
  generalize ((v0.alloc (.cells (gridA 0 0 0 (fun _ => 0) (fun _ => sl0)) 48)).setRow v0.heap.size (gridA R C 0 (fun _ => 0) (fun _ => sl0))) = v1 at G4 B4 ⊢
  have bt : w.heap.size < v0.heap.size := G2.lt
  have bz : w.heap.size + 1 < v0.heap.size := HZ.out.lt
  have j2 := (B4.cell (p := ⟨w.heap.size, 2, none⟩) bt).trans k2
  clear k0 k1 k2 G2
  go_wp2_with fail
  go_loopw [27] (fun i wr => ∃ (k : Nat) (t : Nat → Sl), k ≤ l.length ∧ i = .int .i64 k ∧ (∀ j, j < k → stepB R C l j = true) ∧ GridAt wr v0.heap.size R C k (numF l k) t ∧ (∀ j, j < k → Txt w (t (j + 1)).1 (t (j + 1)).2.1 (t (j + 1)).2.2 (l.getD j cl0).2.2.2.2) ∧ Below v0.heap.size v0 wr) (fun i _ => l.length - (intOf i).toNat)
  case atStart => exact ⟨0, _, Nat.zero_le _, rfl, fun j hj => by omega, G4, fun j hj => by omega, B4⟩
  case round =>
    clear G4 B4 j2
    obtain ⟨k, t, hk, rfl, hst, hg, htx, hb⟩ := hrel
    have HS : Hid (∀ j, j < k → stepB R C l j = true) := hst
    have HT : Hid (∀ j, j < k → Txt w (t (j + 1)).1 (t (j + 1)).2.1 (t (j + 1)).2.2 (l.getD j cl0).2.2.2.2) := htx
    have HG : Hid (GridAt wr v0.heap.size R C k (numF l k) t) := hg
    have HZr : Hid (GridAt wr (w.heap.size + 1) 0 0 0 (fun _ => 0) (fun _ => sl0)) := HZ.out.below hb bz
    have HB : Hid (Below v0.heap.size v0 wr) := hb
    have HW : Hid (Below w.heap.size w wr) := B0.trans (hb.mono B0.size)
    have hk25 := step_le hR.2 hC.2 hst
    have szr : v0.heap.size < wr.heap.size := hg.lt
    have gr := hg.rows
    have gc := hg.cols
    clear hst htx hg hb
    by_cases hlt : k < l.length
    · rcases H.out.2.2.2 with e | ⟨b, off, rfl, hbw, hl⟩
      · rw [e] at hlt
        exact absurd hlt (by simp)
      obtain ⟨c0, c1, c2, c3, ta, tn, tc, c4, ht⟩ := (hl k hlt)
      have HTX : Hid (Txt w ta tn tc (l.getD k cl0).2.2.2.2) := ht
      obtain ⟨c0, c1, c2, c3, -⟩ : CellAt wr b (off + k * 5) (l.getD k cl0) := (hl k hlt).below HW.out hbw
      have c4 := (HW.out.cell (p := ⟨b, _, none⟩) hbw).trans c4
      clear ht hl
      obtain ⟨⟨r, c, d, g, tx⟩, hx⟩ : ∃ x, x = l.getD k cl0 := ⟨_, rfl⟩
      rw [← hx] at c0 c1 c2 c3 HTX
      simp only at c0 c1 c2 c3 HTX
      have HXX : Hid ((r, c, d, g, tx) = l.getD k cl0) := hx
      clear hx
      go_upto_region 8 with (go_at_call 43; refine (rectOf_any _ _ _ _ _ _ _ _).mono ?_; rintro e w1 ⟨rfl, hb1⟩)
      have bA : Below wr.heap.size wr (wr.alloc (Obj.cells #[.int .i64 r, .int .i64 c, .int .i64 d, .int .i64 g, .slice ta tn tc] 42)) := (Below.refl _ _).alloc (Nat.le_refl _) _
      have sA : wr.heap.size < w1.heap.size := by have := hb1.size; simp at this; omega
      have b3 : Below wr.heap.size wr (w1.alloc (.cells #[.int .i64 r, .int .i64 c, .int .i64 d, .int .i64 g] 63)) := (bA.trans (hb1.mono (by simp))).alloc (Nat.le_of_lt sA) _
      have C3 : RowAt (w1.alloc (.cells #[.int .i64 r, .int .i64 c, .int .i64 d, .int .i64 g] 63)) wr.heap.size #[.int .i64 r, .int .i64 c, .int .i64 d, .int .i64 g, .slice ta tn tc] 42 := ((rowAt_new wr _ _).below hb1 (by simp)).alloc _
      have Q3 : RectAt (w1.alloc (.cells #[.int .i64 r, .int .i64 c, .int .i64 d, .int .i64 g] 63)) w1.heap.size r c d g := rowAt_new _ _ _
      generalize (w1.alloc (.cells #[.int .i64 r, .int .i64 c, .int .i64 d, .int .i64 g] 63)) = w3 at b3 C3 Q3 ⊢
      have gr := (HG.out.below b3 szr).rows
      have gc := (HG.out.below b3 szr).cols
      have e0 := Q3.c0
      have e1 := Q3.c1
      have e2 := Q3.c2
      have e3 := Q3.c3
      have e4 : w3.cell? ⟨wr.heap.size, 4, none⟩ = some (.slice ta tn tc) := C3.cell 4
      have HG3 : Hid (GridAt w3 v0.heap.size R C k (numF l k) t) := HG.out.below b3 szr
      have HZ3 : Hid (GridAt w3 (w.heap.size + 1) 0 0 0 (fun _ => 0) (fun _ => sl0)) := HZr.out.below b3 (by omega)
      have HQ3 : Hid (RectAt w3 w1.heap.size r c d g) := Q3
      have HC3 : Hid (RowAt w3 wr.heap.size #[.int .i64 r, .int .i64 c, .int .i64 d, .int .i64 g, .slice ta tn tc] 42) := C3
      have HB3 : Hid (Below v0.heap.size v0 w3) := HB.out.trans (b3.mono (by omega))
      have HW3 : Hid (Below w.heap.size w w3) := HW.out.trans (b3.mono (by omega))
      have s3 := b3.size
      have s4 := RowAt.lt Q3
      have s5 := B0.size
      clear HG HZr HB HW b3 C3 Q3 bA hb1 c0 c1 c2 c3 c4
      cases q0 : withB r c d g R C
      · have Q0 : Hid (withB r c d g R C = false) := q0
        clear q0
        go_upto_region 9 with (first | (go_at_call 37; refine (within_is Q0.out hR hC _).mono ?_; rintro e w4 ⟨rfl, hb4⟩))
        go_wp2_with (first | (refine wpList_grid0 rfl rfl ?_) | (refine wpList_store_row rfl 48 (.tmp 2) (.tmp 52) rfl (w.heap.size + 1) (gridA 0 0 0 (fun _ => 0) (fun _ => sl0)) rfl rfl 48 _ (HZ3.out.below hb4 (by omega)) (grid_infoA _ _ _ _ _) (by rw [gridA_size]) (gridA_one _ _ _ _ _) ?_))
        refine bodyPost_ret (v := .tuple #[.agg (gridA 0 0 0 (fun _ => 0) (fun _ => sl0)), .bool false]) ?_ rfl ⟨.inl ⟨?_, rfl⟩, ?_⟩
        · rw [results_cell_tmp rfl]
          simp [asAddr, Result.andThen, run_gridOf (RowAt.setRow (HZ3.out.below hb4 (by omega)) (gridA 0 0 0 (fun _ => 0) (fun _ => sl0)))]
        · rw [← HX.out]
          exact okB_no (fun hp => by have := hp.2.2.1 k hlt; rw [stepB_0 HXX.out Q0.out] at this; exact absurd this (by simp))
        · exact below_row (HW3.out.trans (hb4.mono (by omega))) (by omega) _
      obtain ⟨wz, wz2, wz3⟩ := wiB_of (x := (r, c, d, g, tx)) q0
      simp only at wz wz2 wz3
      obtain ⟨r, rfl⟩ : ∃ r' : Nat, r = r' := ⟨r.toNat, by omega⟩
      obtain ⟨c, rfl⟩ : ∃ r' : Nat, c = r' := ⟨c.toNat, by omega⟩
      obtain ⟨d, rfl⟩ : ∃ r' : Nat, d = r' := ⟨d.toNat, by omega⟩
      obtain ⟨g, rfl⟩ : ∃ r' : Nat, g = r' := ⟨g.toNat, by omega⟩
      have hrd : r + d ≤ R := by omega
      have hcg : c + g ≤ C := by omega
      have hR5 : R ≤ 5 := by omega
      have hC5 : C ≤ 5 := by omega
      have hd0 : 0 < d := by omega
      have hg0 : 0 < g := by omega
      have Q0 : Hid (withB r c d g R C = true) := q0
      have HF : Hid (∀ s, numF l k s ≤ 25) := fun s => Nat.le_trans (numF_le l k s) hk25
      clear q0 wz wz2 wz3
      cases q1 : freeB (numF l k) r c d g
      · have Q1 : Hid (freeB (numF l k) r c d g = false) := q1
        clear q1
        go_upto_region 9 with (first | (go_at_call 37; refine (within_is Q0.out hR hC _).mono ?_; rintro e w4 ⟨rfl, hb4⟩; have GG : GridAt w4 v0.heap.size R C k (numF l k) t := HG3.out.below hb4 (by omega); have QQ : RectAt w4 w1.heap.size r c d g := RowAt.below HQ3.out hb4 s4; have f0 := QQ.c0; have f1 := QQ.c1; have f2 := QQ.c2; have f3 := QQ.c3; have b4 : Hid (Below w3.heap.size w3 w4) := hb4; clear QQ) | (refine wpList_load_rowG (by rfl) 48 (.tmp 4) rfl v0.heap.size rfl 48 (gridA R C k (numF l k) t) (0, 0) _ GG Try.underlying48 rfl (grid_infoA _ _ _ _ _) ?_) | (go_at_call 45; refine (isFree_is Q1.out hR5 hC5 hrd hcg hd0 hg0 HF.out).mono ?_; rintro e w5 ⟨rfl, hb5⟩; have b5 : Hid (Below w3.heap.size w3 w5) := b4.out.trans (hb5.mono b4.out.size); have f4 : w5.cell? ⟨wr.heap.size, 4, none⟩ = some (.slice ta tn tc) := (RowAt.below HC3.out b5.out (by omega)).cell 4))
        clear GG f0 f1 f2 f3 f4
        go_wp2_with (first | (refine wpList_grid0 rfl rfl ?_) | (refine wpList_store_row rfl 48 (.tmp 2) (.tmp 52) rfl (w.heap.size + 1) (gridA 0 0 0 (fun _ => 0) (fun _ => sl0)) rfl rfl 48 _ (HZ3.out.below b5.out (by omega)) (grid_infoA _ _ _ _ _) (by rw [gridA_size]) (gridA_one _ _ _ _ _) ?_))
        refine bodyPost_ret (v := .tuple #[.agg (gridA 0 0 0 (fun _ => 0) (fun _ => sl0)), .bool false]) ?_ rfl ⟨.inl ⟨?_, rfl⟩, ?_⟩
        · rw [results_cell_tmp rfl]
          simp [asAddr, Result.andThen, run_gridOf (RowAt.setRow (HZ3.out.below b5.out (by omega)) (gridA 0 0 0 (fun _ => 0) (fun _ => sl0)))]
        · rw [← HX.out]
          exact okB_no (fun hp => by have := hp.2.2.1 k hlt; rw [stepB_1 HXX.out Q1.out] at this; exact absurd this (by simp))
        · exact below_row (HW3.out.trans (b5.out.mono (by omega))) (by omega) _
      have Q1 : Hid (freeB (numF l k) r c d g = true) := q1
      clear q1
      cases q2 : textB tx
      · have Q2 : Hid (textB tx = false) := q2
        clear q2
        go_upto_region 9 with (first | (go_at_call 37; refine (within_is Q0.out hR hC _).mono ?_; rintro e w4 ⟨rfl, hb4⟩; have GG : GridAt w4 v0.heap.size R C k (numF l k) t := HG3.out.below hb4 (by omega); have QQ : RectAt w4 w1.heap.size r c d g := RowAt.below HQ3.out hb4 s4; have f0 := QQ.c0; have f1 := QQ.c1; have f2 := QQ.c2; have f3 := QQ.c3; have b4 : Hid (Below w3.heap.size w3 w4) := hb4; clear QQ) | (refine wpList_load_rowG (by rfl) 48 (.tmp 4) rfl v0.heap.size rfl 48 (gridA R C k (numF l k) t) (0, 0) _ GG Try.underlying48 rfl (grid_infoA _ _ _ _ _) ?_) | (go_at_call 45; refine (isFree_is Q1.out hR5 hC5 hrd hcg hd0 hg0 HF.out).mono ?_; rintro e w5 ⟨rfl, hb5⟩; have b5 : Hid (Below w3.heap.size w3 w5) := b4.out.trans (hb5.mono b4.out.size); have f4 : w5.cell? ⟨wr.heap.size, 4, none⟩ = some (.slice ta tn tc) := (RowAt.below HC3.out b5.out (by omega)).cell 4) | (go_at_call 41; refine (implTextOk_isG ((HTX.out.below HW3.out).below (b5.out.mono (by omega))) Q2.out).mono ?_; rintro e w6 ⟨rfl, hb6⟩; have b6 : Hid (Below w3.heap.size w3 w6) := b5.out.trans (hb6.mono b5.out.size)))
        clear GG f0 f1 f2 f3 f4
        go_wp2_with (first | (refine wpList_grid0 rfl rfl ?_) | (refine wpList_store_row rfl 48 (.tmp 2) (.tmp 52) rfl (w.heap.size + 1) (gridA 0 0 0 (fun _ => 0) (fun _ => sl0)) rfl rfl 48 _ (HZ3.out.below b6.out (by omega)) (grid_infoA _ _ _ _ _) (by rw [gridA_size]) (gridA_one _ _ _ _ _) ?_))
        refine bodyPost_ret (v := .tuple #[.agg (gridA 0 0 0 (fun _ => 0) (fun _ => sl0)), .bool false]) ?_ rfl ⟨.inl ⟨?_, rfl⟩, ?_⟩
        · rw [results_cell_tmp rfl]
          simp [asAddr, Result.andThen, run_gridOf (RowAt.setRow (HZ3.out.below b6.out (by omega)) (gridA 0 0 0 (fun _ => 0) (fun _ => sl0)))]
        · rw [← HX.out]
          exact okB_no (fun hp => by have := hp.2.2.1 k hlt; rw [stepB_2 HXX.out Q2.out] at this; exact absurd this (by simp))
        · exact below_row (HW3.out.trans (b6.out.mono (by omega))) (by omega) _
      have Q2 : Hid (textB tx = true) := q2
      clear q2
      go_upto_region 10 with (first | (go_at_call 37; refine (within_is Q0.out hR hC _).mono ?_; rintro e w4 ⟨rfl, hb4⟩; have GG : GridAt w4 v0.heap.size R C k (numF l k) t := HG3.out.below hb4 (by omega); have QQ : RectAt w4 w1.heap.size r c d g := RowAt.below HQ3.out hb4 s4; have f0 := QQ.c0; have f1 := QQ.c1; have f2 := QQ.c2; have f3 := QQ.c3; have b4 : Hid (Below w3.heap.size w3 w4) := hb4; clear QQ) | (refine wpList_load_rowG (by rfl) 48 (.tmp 4) rfl v0.heap.size rfl 48 (gridA R C k (numF l k) t) (0, 0) _ GG Try.underlying48 rfl (grid_infoA _ _ _ _ _) ?_) | (go_at_call 45; refine (isFree_is Q1.out hR5 hC5 hrd hcg hd0 hg0 HF.out).mono ?_; rintro e w5 ⟨rfl, hb5⟩; have b5 : Hid (Below w3.heap.size w3 w5) := b4.out.trans (hb5.mono b4.out.size); have f4 : w5.cell? ⟨wr.heap.size, 4, none⟩ = some (.slice ta tn tc) := (RowAt.below HC3.out b5.out (by omega)).cell 4) | (go_at_call 41; refine (implTextOk_isG ((HTX.out.below HW3.out).below (b5.out.mono (by omega))) Q2.out).mono ?_; rintro e w6 ⟨rfl, hb6⟩; have b6 : Hid (Below w3.heap.size w3 w6) := b5.out.trans (hb6.mono b5.out.size)))
      clear GG f0 f1 f2 f3 f4
      have GG : Hid (GridAt w6 v0.heap.size R C k (numF l k) t) := HG3.out.below b6.out (by omega)
      have QQ : RectAt w6 w1.heap.size r c d g := RowAt.below HQ3.out b6.out s4
      have f0 := QQ.c0
      have f1 := QQ.c1
      have f2 := QQ.c2
      have f3 := QQ.c3
      have f4 : w6.cell? ⟨wr.heap.size, 4, none⟩ = some (.slice ta tn tc) := (RowAt.below HC3.out b6.out (by omega)).cell 4
      have s6 := b6.out.size
      have hk1 : k < 25 := by
        have := step_le (l := l) (K := k + 1) hR.2 hC.2 (fun j hj => by
          by_cases hjk : j = k
          · subst hjk
            exact stepB_mk HXX.out Q0.out Q1.out Q2.out
          · exact HS.out j (by omega))
        omega
      clear QQ
      go_wp2_with (first | (refine wpList_load_row rfl 48 (.tmp 4) rfl v0.heap.size rfl 48 (gridA R C k (numF l k) t) (0, 0) _ GG.out Try.underlying48 rfl (grid_infoA _ _ _ _ _) ?_) | (go_at_call 46; refine (lay_any R C k (numF l k) t r c d g (ta, tn, tc) _ (by omega) (by omega) hk1).mono ?_; rintro e w7 ⟨rfl, hb7⟩) | (refine wpList_store_row rfl 48 (.tmp 4) (.tmp 57) rfl v0.heap.size (gridA R C (k + 1) (giveF (numF l k) r c d g (k + 1)) (updS t (k + 1) (ta, tn, tc))) rfl rfl 48 _ (GG.out.below hb7 (by omega)) (grid_infoA _ _ _ _ _) (by rw [gridA_size, gridA_size]) (gridA_one _ _ _ _ _) ?_))
      go_roundw
      case rel =>
        refine ⟨k + 1, updS t (k + 1) (ta, tn, tc), by omega, by go_num, ?_, ?_, ?_, ?_⟩
        · intro j hj
          by_cases hjk : j = k
          · subst hjk
            exact stepB_mk HXX.out Q0.out Q1.out Q2.out
          · exact HS.out j (by omega)
        · have e : numF l (k + 1) = giveF (numF l k) r c d g (k + 1) := by
            simp only [numF, ← HXX.out, Int.toNat_natCast]
          rw [e]
          exact RowAt.setRow (GG.out.below hb7 (by omega)) _
        · intro j hj
          by_cases hjk : j = k
          · subst hjk
            rw [← HXX.out]
            simp only [updS, if_pos]
            exact HTX.out
          · simp only [updS, show ¬ j + 1 = k + 1 from by omega, if_false]
            exact HT.out j (by omega)
        · exact below_row ((HB3.out.trans (b6.out.mono (by omega))).trans (hb7.mono (by omega))) (Nat.le_refl _) _
      case measure => simp [intOf]; omega
    · have hkl : k = l.length := by omega
      subst hkl
      have HF : Hid (∀ s, numF l l.length s ≤ 25) := fun s => Nat.le_trans (numF_le l l.length s) hk25
      have HX2 : Hid (x = true ↔ Tiles R C (numF l l.length)) := by
        show x = true ↔ _
        rw [← HX.out, ← gridP_iff]
        constructor
        · intro hp
          have := hp.2.2.2
          simpa using this
        · intro hp
          exact ⟨hR, hC, HS.out, by simpa using hp⟩
      have hR5 : R ≤ 5 := by omega
      have hC5 : C ≤ 5 := by omega
      have s5 := B0.size
      cases x
      · go_upto_region 13 with (first | (refine wpList_load_row rfl 48 (.tmp 4) rfl v0.heap.size rfl 48 (gridA R C l.length (numF l l.length) t) (0, 0) _ HG.out Try.underlying48 rfl (grid_infoA _ _ _ _ _) ?_) | (go_at_call 47; refine (isTiled_is HX2.out hR5 hC5 HF.out).mono ?_; rintro e w4 ⟨rfl, hb4⟩))
        go_wp2_with (first | (refine wpList_grid0 rfl rfl ?_) | (refine wpList_store_row rfl 48 (.tmp 2) (.tmp 62) rfl (w.heap.size + 1) (gridA 0 0 0 (fun _ => 0) (fun _ => sl0)) rfl rfl 48 _ (HZr.out.below hb4 (by omega)) (grid_infoA _ _ _ _ _) (by rw [gridA_size]) (gridA_one _ _ _ _ _) ?_))
        refine bodyPost_ret (v := .tuple #[.agg (gridA 0 0 0 (fun _ => 0) (fun _ => sl0)), .bool false]) ?_ rfl ⟨.inl ⟨rfl, rfl⟩, ?_⟩
        · rw [results_cell_tmp rfl]
          simp [asAddr, Result.andThen, run_gridOf (RowAt.setRow (HZr.out.below hb4 (by omega)) (gridA 0 0 0 (fun _ => 0) (fun _ => sl0)))]
        · exact below_row (HW.out.trans (hb4.mono (by omega))) (by omega) _
      · go_upto_region 14 with (first | (refine wpList_load_row rfl 48 (.tmp 4) rfl v0.heap.size rfl 48 (gridA R C l.length (numF l l.length) t) (0, 0) _ HG.out Try.underlying48 rfl (grid_infoA _ _ _ _ _) ?_) | (go_at_call 47; refine (isTiled_is HX2.out hR5 hC5 HF.out).mono ?_; rintro e w4 ⟨rfl, hb4⟩))
        go_wp2_with (first | (refine wpList_load_row rfl 48 (.tmp 4) rfl v0.heap.size rfl 48 (gridA R C l.length (numF l l.length) t) (0, 0) _ (HG.out.below hb4 szr) Try.underlying48 rfl (grid_infoA _ _ _ _ _) ?_) | (refine wpList_store_row rfl 48 (.tmp 2) (.tmp 63) rfl (w.heap.size + 1) (gridA R C l.length (numF l l.length) t) rfl rfl 48 _ (HZr.out.below hb4 (by omega)) (grid_infoA _ _ _ _ _) (by rw [gridA_size, gridA_size]) (gridA_one _ _ _ _ _) ?_))
        have bF : Below w.heap.size w (w4.setRow (w.heap.size + 1) (gridA R C l.length (numF l l.length) t)) := below_row (HW.out.trans (hb4.mono (by omega))) (by omega) _
        refine bodyPost_ret (v := .tuple #[.agg (gridA R C l.length (numF l l.length) t), .bool true]) ?_ rfl ⟨.inr ⟨rfl, t, rfl, fun i hi => (HT.out i hi).below bF⟩, bF⟩
        · rw [results_cell_tmp rfl]
          simp [asAddr, Result.andThen, run_gridOf (RowAt.setRow (HZr.out.below hb4 (by omega)) (gridA R C l.length (numF l l.length) t))]
end Go.Proofs.Ytpgldodnnlcceaa
namespace Go.Proofs.Ytpgldodnnlcceaa
open Go.RowKit

theorem run_append_empty {P : Program} {w : World} (base : Nat) (t ty e : TypeId) (i : TypeInfo) (size : Nat) (ht : P.underlying t = some (.slice e)) (hi : P.info? e = some i)
    (v : Value) (n : Nat) (xs : List Value) (hown : w.ownsRow base e size v n xs) (p : Option Addr) (c : Nat) :
    (Builtin.append_ #[t, t] ty #[v, .slice p 0 c]).run P w = .ok v w := by
  rcases hown.2 with ⟨rfl, rfl⟩ | ⟨g, cap, cur, rfl, _, _, hnc, _⟩
  · cases p <;> simp [Builtin.append_, run_underlying ht, sizeOf, typeInfo, hi, Builtin.lenOf, Builtin.firstCells, loadCells, loadCellsFrom]
  · cases p <;> simp [Builtin.append_, run_underlying ht, sizeOf, typeInfo, hi, Builtin.lenOf, Builtin.firstCells, loadCells, loadCellsFrom, hnc, storeCells]
theorem wpList_append_empty {P : Program} {w : World} {ops : Array Oper} {rest : List Oper} {o : Oper} {a : Act} {Q : Exit → Act → World → Prop} (hgd : o.guard = none) (s x : Operand) (t : TypeId)
    (ho : o.op = .call { callee := .builtin .append, args := #[s, x], argTypes := #[t, t] })
    (base : Nat) (e : TypeId) (i : TypeInfo) (size : Nat) (ht : P.underlying t = some (.slice e)) (hi : P.info? e = some i)
    (v : Value) (n : Nat) (xs : List Value) (hs : a.eval s = v) (hown : w.ownsRow base e size v n xs) (p : Option Addr) (c : Nat) (hx : a.eval x = .slice p 0 c)
    (h : wpList P ops Q rest (a.put o.dst v) w) : wpList P ops Q (o :: rest) a w := by
  refine wpList_plain hgd fun K hK => ?_
  have hrun := run_append_empty (P := P) (w := w) base t o.type e i size ht hi v n xs hown p c
  unfold Oper.wp
  simp [execOp, ho, resolve, invoke, builtin, hs, hx, hrun, Result.andThen]
  exact hK _ _ h
theorem grownBy_refl (w : World) (r : Option Nat) : w.grownBy w r := ⟨rfl, rfl, rfl, Nat.le_refl _, fun _ _ _ => rfl⟩
theorem flat_one (l : List Sg) : ∀ u ∈ flat l, u.oneCell' = true := by
  intro u hu
  simp only [flat, List.mem_flatMap, sgCells] at hu
  obtain ⟨s, _, hs⟩ := hu
  simp at hs
  rcases hs with rfl | rfl | rfl <;> rfl
theorem news_signs {w : World} {b off : Nat} {l : List Sg} (h : SignsAt w b off l) : ∀ j u, (flat l)[j]? = some u → w.cell? ((⟨b, off, none⟩ : Addr).add j) = some u := by
  intro j u hj
  have hlt : j < l.length * 3 := by
    rw [← flat_length]
    exact (List.getElem?_eq_some_iff.1 hj).1
  have e : (⟨b, off, none⟩ : Addr).add j = ⟨b, off + j, none⟩ := by simp [Addr.add]
  rw [e]
  obtain ⟨g0, g1, g2⟩ := flat_get l (j / 3) (by omega)
  obtain ⟨h0, h1, h2⟩ := h (j / 3) (by omega)
  rcases (show j = j / 3 * 3 ∨ j = j / 3 * 3 + 1 ∨ j = j / 3 * 3 + 2 from by omega) with e | e | e
  · rw [e] at hj ⊢
    rw [← hj, g0]
    exact h0
  · rw [e] at hj ⊢
    rw [← hj, g1, ← Nat.add_assoc]
    exact h1
  · rw [e] at hj ⊢
    rw [← hj, g2, ← Nat.add_assoc]
    exact h2
/-- 'append(v, t...)', v the call's own, t a text. -/
theorem wpList_append_txt {w : World} {ops : Array Oper} {rest : List Oper} {o : Oper} {a : Act} {Q : Exit → Act → World → Prop} (hgd : o.guard = none) (s x : Operand)
    (ho : o.op = .call { callee := .builtin .append, args := #[s, x], argTypes := #[40, 40] })
    (base : Nat) (v : Value) (n : Nat) (xs : List Value) (hs : a.eval s = v) (hown : w.ownsRow base 77 3 v n xs)
    (p : Option Addr) (m c : Nat) (l : List Sg) (hx : a.eval x = .slice p m c) (htx : Txt w p m c l) (h63 : n + m ≤ 1000000000) (hbase : base ≤ w.heap.size)
    (h : ∀ v' w', w'.ownsRow base 77 3 v' (n + m) (xs ++ flat l) → w.grownBy w' v.ownBlock → wpList Try.prog ops Q rest (a.put o.dst v') w') : wpList Try.prog ops Q (o :: rest) a w := by
  obtain ⟨i0, hi, hz0, hz1, hz2⟩ := info_parts Try.info77
  obtain ⟨rfl, h2, h3, h4⟩ := htx
  rcases h4 with rfl | ⟨b, off, rfl, hb, hsn⟩
  · refine wpList_append_empty hgd s x 40 ho base 77 i0 3 Try.underlying40 hi v n xs hs hown p c hx ?_
    exact h v w (by simpa [flat] using hown) (grownBy_refl _ _)
  · refine wpList_append_own w hgd s x 40 ho base 77 i0 _ 3 24 Try.underlying40 hi hz0 hz1 hz2 rfl (by decide) v n xs hs hown ⟨b, off, none⟩ l.length c (flat l) hx (by rw [flat_length]) (news_signs hsn) (flat_one l) (by unfold maxLen; omega) (by omega) hbase ?_
    intro v' w' h5 h6 _
    exact h v' w' h5 h6
end Go.Proofs.Ytpgldodnnlcceaa
namespace Go.Proofs.Ytpgldodnnlcceaa
open Go.RowKit

def rwOne (i j : Nat) : Rw := (i, j, 1, 1, none, 0, 0)
def clOne (i j : Nat) : Cl := (i, j, 1, 1, [])
def newR (C i j : Nat) : List Rw := ((List.range i).flatMap fun a => (List.range C).map fun b => rwOne a b) ++ (List.range j).map fun b => rwOne i b
def newC (C i j : Nat) : List Cl := ((List.range i).flatMap fun a => (List.range C).map fun b => clOne a b) ++ (List.range j).map fun b => clOne i b
/-- The cells of a new table. -/
def newL (R C : Nat) : List Cl := newC C R 0
theorem newR_row (C i : Nat) : newR C i C = newR C (i + 1) 0 := by simp [newR, List.range_succ]
theorem newC_row (C i : Nat) : newC C i C = newC C (i + 1) 0 := by simp [newC, List.range_succ]
theorem newR_succ (C i j : Nat) : newR C i (j + 1) = newR C i j ++ [rwOne i j] := by simp [newR, List.range_succ]
theorem newC_succ (C i j : Nat) : newC C i (j + 1) = newC C i j ++ [clOne i j] := by simp [newC, List.range_succ]
theorem newR_len (C : Nat) : ∀ i j, (newR C i j).length = i * C + j
  | 0, j => by simp [newR]
  | i + 1, j => by
    have h := newR_len C i C
    rw [newR_row] at h
    simp only [newR, List.length_append, List.length_map, List.length_range] at h ⊢
    rw [Nat.succ_mul]
    omega
theorem map_getD {α β : Type} (f : α → β) (l : List α) (k : Nat) (d : α) (e : β) (h : k < l.length) : (l.map f).getD k e = f (l.getD k d) := by simp [List.getD, h]
def rwCl (x : Rw) : Cl := (x.1, x.2.1, x.2.2.1, x.2.2.2.1, [])
theorem newC_map (C i j : Nat) : newC C i j = (newR C i j).map rwCl := by
  simp only [newC, newR, List.map_append, List.map_map, List.map_flatMap]
  rfl
def nilT (x : Rw) : Prop := x.2.2.2.2 = (none, 0, 0)
theorem newR_nil (C i j : Nat) : ∀ x ∈ newR C i j, nilT x := by
  intro x hx
  simp only [newR, List.mem_append, List.mem_flatMap, List.mem_map] at hx
  rcases hx with ⟨a, _, b, _, rfl⟩ | ⟨b, _, rfl⟩ <;> rfl
theorem txtOwn_nil {w : World} {B : Nat} {q : Option Nat} {rs : List Rw} (h : ∀ x ∈ rs, nilT x) : TxtOwn w B q rs (rs.map rwCl) := by
  have key : ∀ k, k < rs.length → rwT (rs.getD k rw0) = .slice none 0 0 := by
    intro k hk
    have := h (rs.getD k rw0) (by simp [List.getD, hk])
    unfold nilT at this
    simp only [rwT, this]
  refine ⟨by simp, fun k hk => ?_, fun k hk g hg => ?_, fun i k hik hk g hg => ?_⟩
  · rw [map_getD rwCl rs k rw0 cl0 hk]
    refine ⟨rfl, rfl, rfl, rfl, ?_⟩
    rw [key k hk]
    exact Own.nil _ _
  · rw [key k hk] at hg
    simp [Value.ownBlock] at hg
  · rw [key i (by omega)] at hg
    simp [Value.ownBlock] at hg
theorem cell_five_new (w : World) (a b c d e : Value) (t : TypeId) : ∀ j u, [a, b, c, d, e][j]? = some u → (w.alloc (.cells #[a, b, c, d, e] t)).cell? ((⟨w.heap.size, 0, none⟩ : Addr).add j) = some u := by
  intro j u hj
  match j, hj with
  | 0, hj => simp at hj; subst hj; simp [Addr.add]
  | 1, hj => simp at hj; subst hj; simp [Addr.add]
  | 2, hj => simp at hj; subst hj; simp [Addr.add]
  | 3, hj => simp at hj; subst hj; simp [Addr.add]
  | 4, hj => simp at hj; subst hj; simp [Addr.add]
  | (j + 5), hj => simp at hj
theorem five_oneCell (a b c d : Int) (p : Option Addr) (n m : Nat) : ∀ u ∈ [Value.int .i64 a, .int .i64 b, .int .i64 c, .int .i64 d, .slice p n m], u.oneCell' = true := by
  intro u hu
  simp at hu
  rcases hu with rfl | rfl | rfl | rfl | rfl <;> rfl
end Go.Proofs.Ytpgldodnnlcceaa
namespace Go.Proofs.Ytpgldodnnlcceaa
open Go.RowKit

theorem cell_info : (Try.prog.info? 42).map (·.size) = some 5 := by kernel_rfl
/-- How far a cell goes: as long as the numbers are the same. -/
def Dn (R : Nat) (f : Nat → Nat) (a b d : Nat) : Prop := (∀ i, i < d → a + i < R ∧ f ((a + i) * 5 + b) = f (a * 5 + b)) ∧ ¬ (a + d < R ∧ f ((a + d) * 5 + b) = f (a * 5 + b))
def Rt (C : Nat) (f : Nat → Nat) (a b h : Nat) : Prop := (∀ j, j < h → b + j < C ∧ f (a * 5 + (b + j)) = f (a * 5 + b)) ∧ ¬ (b + h < C ∧ f (a * 5 + (b + h)) = f (a * 5 + b))

set_option maxRecDepth 100000 in
set_option maxHeartbeats 4000000 in
theorem cell_any (R C n : Nat) (f : Nat → Nat) (t : Nat → Sl) (a b : Nat) (tx : List Sg) (w : World) (hR : R ≤ 5) (hC : C ≤ 5) (ha : a < R) (hb : b < C) (hf : ∀ k, f k ≤ 25)
    (ht : Txt w (t (f (a * 5 + b))).1 (t (f (a * 5 + b))).2.1 (t (f (a * 5 + b))).2.2 tx) (hl : tx.length ≤ 1048576) :
    Calls Try.prog 49 #[.agg (gridA R C n f t), .int .i64 a, .int .i64 b] w fun z w' => (∃ d h p m c, z = .returned (.agg #[.int .i64 a, .int .i64 b, .int .i64 (d : Nat), .int .i64 (h : Nat), .slice p m c]) ∧ Dn R f a b d ∧ Rt C f a b h ∧ Own w' w.heap.size (.slice p m c) tx) ∧ Below w.heap.size w w' := by
  obtain ⟨i0, hi, hz0, hz1, hz2⟩ := info_parts Try.info77
  have HT : Hid (Txt w (t (f (a * 5 + b))).1 (t (f (a * 5 + b))).2.1 (t (f (a * 5 + b))).2.2 tx) := ht
  clear ht
  go_enter Try.func49, Try.ntmps49
  go_upto_region 1 with fail
  have B0 : Below w.heap.size w ((w.alloc (.cells (gridA R C n f t) 48)).alloc (.cells #[.int .i64 0, .int .i64 0, .int .i64 0, .int .i64 0, .slice none 0 0] 42)) := ((Below.refl _ _).alloc (Nat.le_refl _) _).alloc (by simp) _
  have G0 : GridAt ((w.alloc (.cells (gridA R C n f t) 48)).alloc (.cells #[.int .i64 0, .int .i64 0, .int .i64 0, .int .i64 0, .slice none 0 0] 42)) w.heap.size R C n f t := (gridAt_new w R C n f t).alloc _
  have G1 : RowAt ((w.alloc (.cells (gridA R C n f t) 48)).alloc (.cells #[.int .i64 0, .int .i64 0, .int .i64 0, .int .i64 0, .slice none 0 0] 42)) (w.heap.size + 1) #[.int .i64 0, .int .i64 0, .int .i64 0, .int .i64 0, .slice none 0 0] 42 := by
    have := rowAt_new (w.alloc (.cells (gridA R C n f t) 48)) #[.int .i64 0, .int .i64 0, .int .i64 0, .int .i64 0, .slice none 0 0] 42
    simpa using this
  generalize ((w.alloc (.cells (gridA R C n f t) 48)).alloc (.cells #[.int .i64 0, .int .i64 0, .int .i64 0, .int .i64 0, .slice none 0 0] 42)) = v0 at B0 G0 G1 ⊢
  have hm := hf (a * 5 + b)
  obtain ⟨m, HM⟩ : ∃ m, Hid (f (a * 5 + b) = m) := ⟨_, rfl⟩
  have k0 := G0.num (a * 5 + b) (by omega)
  rw [← Nat.add_assoc, HM.out] at k0
  rw [HM.out] at hm HT
  have k1 := G0.txt m (by omega)
  obtain ⟨⟨ta, tn, tc⟩, hts⟩ : ∃ s, t m = s := ⟨_, rfl⟩
  rw [hts] at k1 HT
  simp only [slV] at k1
  simp only at HT
  clear hts
  have b0 : (a : Int) < 5 := by omega
  have b1 : (b : Int) < 5 := by omega
  have b2 : (m : Int) < 26 := by omega
  go_upto_region 2 with fail
  have HTN : Hid (tn = tx.length) := HT.out.1
  have htl : tn ≤ 1048576 := by rw [HTN.out]; exact hl
  go_upto_region 3 with (at_builtin; refine wpList_append_txt rfl (.const (.slice none 0 0)) (.tmp 20) rfl v0.heap.size (.slice none 0 0) 0 [] rfl (World.ownsRow_nil _ _ _ _) ta tn tc tx rfl (HT.out.below B0) (by omega) (Nat.le_refl _) ?_; intro v' w1 hown hgrow; obtain ⟨p, q, rfl, -⟩ := Own.shape (show Own w1 v0.heap.size v' tx by (rw [Nat.zero_add, List.nil_append, HTN.out] at hown; exact hown)))
  have hO : Own w1 v0.heap.size (.slice p tx.length q) tx := by
    rw [Nat.zero_add, List.nil_append, HTN.out] at hown
    exact hown
  have hb1 : Below v0.heap.size v0 w1 := (Below.refl _ _).grown hgrow (Nat.le_refl _) (fun k hk => by simp [Value.ownBlock] at hk)
  clear hown hgrow
  have s1 := hb1.size
  have N0 : RowAt (w1.alloc (.cells #[.int .i64 a, .int .i64 b, .int .i64 0, .int .i64 0, .slice p tx.length q] 42)) w1.heap.size #[.int .i64 a, .int .i64 b, .int .i64 0, .int .i64 0, .slice p tx.length q] 42 := rowAt_new _ _ _
  have N1 : Below v0.heap.size v0 (w1.alloc (.cells #[.int .i64 a, .int .i64 b, .int .i64 0, .int .i64 0, .slice p tx.length q] 42)) := hb1.alloc s1 _
  have N2 : Own (w1.alloc (.cells #[.int .i64 a, .int .i64 b, .int .i64 0, .int .i64 0, .slice p tx.length q] 42)) v0.heap.size (.slice p tx.length q) tx := hO.alloc _
  generalize (w1.alloc (.cells #[.int .i64 a, .int .i64 b, .int .i64 0, .int .i64 0, .slice p tx.length q] 42)) = v2 at N0 N1 N2 ⊢
  have ob : ∀ g, (Value.slice p tx.length q).ownBlock = some g → g < w1.heap.size := fun g hg => (own_lt hO.row hg).2
  have HOB : Hid (∀ g, (Value.slice p tx.length q).ownBlock = some g → g < w1.heap.size) := ob
  clear hO ob k0 k1 hb1
  have z0 := G0.lt
  have z1 := G1.lt
  go_wp2_with fail
  go_loopw [23] (fun _ wr => ∃ d : Nat, d ≤ R - a ∧ (∀ i, i < d → a + i < R ∧ f ((a + i) * 5 + b) = m) ∧ RowAt wr w1.heap.size #[.int .i64 a, .int .i64 b, .int .i64 d, .int .i64 0, .slice p tx.length q] 42 ∧ Below v0.heap.size v0 wr ∧ Own wr v0.heap.size (.slice p tx.length q) tx) (fun _ wr => R - a - (match wr.cell? ⟨w1.heap.size, 2, none⟩ with | some v => (intOf v).toNat | none => 0))
  case atStart => exact ⟨0, Nat.zero_le _, fun i hi => by omega, N0, N1, N2⟩
  case round =>
    clear N0 N1 N2
    obtain ⟨d, hd, hall, hr, hbl, hO⟩ := hrel
    have HA : Hid (∀ i, i < d → a + i < R ∧ f ((a + i) * 5 + b) = m) := hall
    have HR : Hid (RowAt wr w1.heap.size #[.int .i64 a, .int .i64 b, .int .i64 d, .int .i64 0, .slice p tx.length q] 42) := hr
    have HB : Hid (Below v0.heap.size v0 wr) := hbl
    have HO : Hid (Own wr v0.heap.size (.slice p tx.length q) tx) := hO
    have e2 : wr.cell? ⟨w1.heap.size, 2, none⟩ = some (.int .i64 d) := hr.cell 2
    have e2f := hr.frozen 2
    have gg := G0.below hbl z0
    have g0 := gg.rows
    have g1 := gg.cols
    clear hall hr hbl hO
    by_cases h1 : a + d < R
    · have k0 := gg.num ((a + d) * 5 + b) (by omega)
      obtain ⟨x, hx⟩ : ∃ x, f ((a + d) * 5 + b) = x := ⟨_, rfl⟩
      have HXX : Hid (f ((a + d) * 5 + b) = x) := hx
      rw [← Nat.add_assoc, hx] at k0
      have hx25 := hf ((a + d) * 5 + b)
      rw [hx] at hx25
      have c0 : (a : Int) + d < R := by omega
      have c1 : (a : Int) + d < 5 := by omega
      clear gg hx
      by_cases h2 : x = m
      · have h2' : ((x : Int) == (m : Int)) = true := by simp [h2]
        have H2 : Hid (x = m) := h2
        clear h2
        go_wp2_with fail
        go_roundw
        case rel =>
          refine ⟨d + 1, by omega, ?_, ?_, HB.out.setCell (by show _ ≤ w1.heap.size; omega) _, own_set HO.out _ _ (fun e => by have := HOB.out _ e; simp at this)⟩
          · intro i hi
            by_cases hid : i = d
            · subst hid
              exact ⟨h1, HXX.out.trans H2.out⟩
            · exact HA.out i (by omega)
          · exact HR.out.setCell 2 (.int .i64 ((d : Int) + 1))
        case measure =>
          rw [show (wr.setCell ⟨w1.heap.size, 2, none⟩ (.int .i64 ((d : Int) + 1))).cell? ⟨w1.heap.size, 2, none⟩ = some (.int .i64 ((d : Int) + 1)) from (HR.out.setCell 2 (.int .i64 ((d : Int) + 1))).cell 2, e2]
          simp only [intOf]
          omega
      · have h2' : ((x : Int) == (m : Int)) = false := by simp; omega
        have H2 : Hid (¬ x = m) := h2
        clear h2
        go_wp2_with fail
        have HDn : Hid (Dn R f a b d) := ⟨fun i hi => ⟨(HA.out i hi).1, (HA.out i hi).2.trans HM.out.symm⟩, fun hh => H2.out (HXX.out.symm.trans (hh.2.trans HM.out))⟩
        have gg2 : Hid (GridAt wr w.heap.size R C n f t) := G0.below HB.out z0
        have lr : w1.heap.size < wr.heap.size := HR.out.lt
        clear e2 e2f g0 g1 k0 h2' c0 c1 h1
        go_loopw [47] (fun _ wr => ∃ h : Nat, h ≤ C - b ∧ (∀ j, j < h → b + j < C ∧ f (a * 5 + (b + j)) = m) ∧ RowAt wr w1.heap.size #[.int .i64 a, .int .i64 b, .int .i64 d, .int .i64 h, .slice p tx.length q] 42 ∧ Below v0.heap.size v0 wr ∧ Own wr v0.heap.size (.slice p tx.length q) tx) (fun _ wr => C - b - (match wr.cell? ⟨w1.heap.size, 3, none⟩ with | some v => (intOf v).toNat | none => 0))
        case atStart => exact ⟨0, Nat.zero_le _, fun j hj => by omega, HR.out, HB.out, HO.out⟩
        case round =>
          clear HR HB HO HA gg2
          obtain ⟨h, hh, hall, hr, hbl, hO⟩ := hrel
          have HA : Hid (∀ j, j < h → b + j < C ∧ f (a * 5 + (b + j)) = m) := hall
          have HR : Hid (RowAt wr w1.heap.size #[.int .i64 a, .int .i64 b, .int .i64 d, .int .i64 h, .slice p tx.length q] 42) := hr
          have HB : Hid (Below v0.heap.size v0 wr) := hbl
          have HO : Hid (Own wr v0.heap.size (.slice p tx.length q) tx) := hO
          have e3 : wr.cell? ⟨w1.heap.size, 3, none⟩ = some (.int .i64 h) := hr.cell 3
          have e3f := hr.frozen 3
          have gg := G0.below hbl z0
          have g1 := gg.cols
          have HG1 : Hid (RowAt wr (w.heap.size + 1) #[.int .i64 0, .int .i64 0, .int .i64 0, .int .i64 0, .slice none 0 0] 42) := G1.below hbl z1
          clear hall hr hbl hO
          by_cases h1 : b + h < C
          · have k0 := gg.num (a * 5 + (b + h)) (by omega)
            obtain ⟨y, hy⟩ : ∃ y, f (a * 5 + (b + h)) = y := ⟨_, rfl⟩
            have HY : Hid (f (a * 5 + (b + h)) = y) := hy
            rw [← Nat.add_assoc, hy] at k0
            have hy25 := hf (a * 5 + (b + h))
            rw [hy] at hy25
            have c0 : (b : Int) + h < C := by omega
            have c1 : (b : Int) + h < 5 := by omega
            clear gg hy
            by_cases h2 : y = m
            · have h2' : ((y : Int) == (m : Int)) = true := by simp [h2]
              have H2 : Hid (y = m) := h2
              clear h2
              go_wp2_with fail
              go_quiet (fail)
              go_wp2_with fail
              go_roundw
              case rel =>
                refine ⟨h + 1, by omega, ?_, HR.out.setCell 3 (.int .i64 ((h : Int) + 1)), (below_drewN HB.out _).setCell (by show _ ≤ w1.heap.size; omega) _, own_set (own_below HO.out (below_drewN (Below.refl _ _) _)) _ _ (fun e => by have := HOB.out _ e; simp at this)⟩
                intro i hi
                by_cases hid : i = h
                · subst hid
                  exact ⟨h1, HY.out.trans H2.out⟩
                · exact HA.out i (by omega)
              case measure =>
                rw [show ((wr.drewN nq).setCell ⟨w1.heap.size, 3, none⟩ (.int .i64 ((h : Int) + 1))).cell? ⟨w1.heap.size, 3, none⟩ = some (.int .i64 ((h : Int) + 1)) from ((HR.out.below (below_drewN (Below.refl wr.heap.size wr) nq) HR.out.lt).setCell 3 (.int .i64 ((h : Int) + 1))).cell 3, e3]
                simp only [intOf]
                omega
            · have h2' : ((y : Int) == (m : Int)) = false := by simp; omega
              have H2 : Hid (¬ y = m) := h2
              clear h2
              have d0 : wr.cell? ⟨w1.heap.size, 0, none⟩ = some (.int .i64 a) := HR.out.cell 0
              have d1 : wr.cell? ⟨w1.heap.size, 1, none⟩ = some (.int .i64 b) := HR.out.cell 1
              have d2 : wr.cell? ⟨w1.heap.size, 2, none⟩ = some (.int .i64 d) := HR.out.cell 2
              have d4 : wr.cell? ⟨w1.heap.size, 4, none⟩ = some (.slice p tx.length q) := HR.out.cell 4
              have HRt : Hid (Rt C f a b h) := ⟨fun j hj => ⟨(HA.out j hj).1, (HA.out j hj).2.trans HM.out.symm⟩, fun hh => H2.out (HY.out.symm.trans (hh.2.trans HM.out))⟩
              have lz := HG1.out.lt
              go_wp2_with fail
              go_quiet (fail)
              go_wp2_with (refine wpList_store_row rfl 42 (.tmp 6) (.tmp 71) rfl (w.heap.size + 1) #[.int .i64 a, .int .i64 b, .int .i64 d, .int .i64 h, .slice p tx.length q] rfl rfl 42 _ (HG1.out.below (below_drewN (Below.refl wr.heap.size wr) nq) lz) cell_info rfl (cells5_one _ _ _ _ _ _ _) ?_)
              refine bodyPost_ret (v := .agg #[.int .i64 a, .int .i64 b, .int .i64 d, .int .i64 h, .slice p tx.length q]) (results_cell_row (p := 6) (ty := 42) rfl _ _ (w.heap.size + 1) 42 _ _ _ rfl (RowAt.setRow (HG1.out.below (below_drewN (Below.refl wr.heap.size wr) nq) lz) _) Try.underlying42 rfl cell_info) rfl ⟨⟨d, h, p, tx.length, q, rfl, HDn.out, HRt.out, ?_⟩, below_row (below_drewN (B0.trans (HB.out.mono B0.size)) _) (by omega) _⟩
              exact own_less (own_row (own_below HO.out (below_drewN (Below.refl _ _) _)) _ _ (fun e => by have := (own_lt HO.out.row e).1; omega)) B0.size
          · have c0 : decide ((b : Int) + h < C) = false := by simp; omega
            have c0' : C ≤ b + h := by omega
            clear gg
            have d0 : wr.cell? ⟨w1.heap.size, 0, none⟩ = some (.int .i64 a) := HR.out.cell 0
            have d1 : wr.cell? ⟨w1.heap.size, 1, none⟩ = some (.int .i64 b) := HR.out.cell 1
            have d2 : wr.cell? ⟨w1.heap.size, 2, none⟩ = some (.int .i64 d) := HR.out.cell 2
            have d4 : wr.cell? ⟨w1.heap.size, 4, none⟩ = some (.slice p tx.length q) := HR.out.cell 4
            have HRt : Hid (Rt C f a b h) := ⟨fun j hj => ⟨(HA.out j hj).1, (HA.out j hj).2.trans HM.out.symm⟩, fun hh => h1 hh.1⟩
            have lz := HG1.out.lt
            go_wp2_with fail
            go_quiet (fail)
            go_wp2_with (refine wpList_store_row rfl 42 (.tmp 6) (.tmp 71) rfl (w.heap.size + 1) #[.int .i64 a, .int .i64 b, .int .i64 d, .int .i64 h, .slice p tx.length q] rfl rfl 42 _ (HG1.out.below (below_drewN (Below.refl wr.heap.size wr) nq) lz) cell_info rfl (cells5_one _ _ _ _ _ _ _) ?_)
            refine bodyPost_ret (v := .agg #[.int .i64 a, .int .i64 b, .int .i64 d, .int .i64 h, .slice p tx.length q]) (results_cell_row (p := 6) (ty := 42) rfl _ _ (w.heap.size + 1) 42 _ _ _ rfl (RowAt.setRow (HG1.out.below (below_drewN (Below.refl wr.heap.size wr) nq) lz) _) Try.underlying42 rfl cell_info) rfl ⟨⟨d, h, p, tx.length, q, rfl, HDn.out, HRt.out, ?_⟩, below_row (below_drewN (B0.trans (HB.out.mono B0.size)) _) (by omega) _⟩
            exact own_less (own_row (own_below HO.out (below_drewN (Below.refl _ _) _)) _ _ (fun e => by have := (own_lt HO.out.row e).1; omega)) B0.size
    · have c0 : ¬ (a : Int) + d < R := by omega
      clear gg
      go_wp2_with fail
      have HDn : Hid (Dn R f a b d) := ⟨fun i hi => ⟨(HA.out i hi).1, (HA.out i hi).2.trans HM.out.symm⟩, fun hh => h1 hh.1⟩
      have gg2 : Hid (GridAt wr w.heap.size R C n f t) := G0.below HB.out z0
      have lr : w1.heap.size < wr.heap.size := HR.out.lt
      clear e2 e2f g0 g1 c0 h1
      go_loopw [47] (fun _ wr => ∃ h : Nat, h ≤ C - b ∧ (∀ j, j < h → b + j < C ∧ f (a * 5 + (b + j)) = m) ∧ RowAt wr w1.heap.size #[.int .i64 a, .int .i64 b, .int .i64 d, .int .i64 h, .slice p tx.length q] 42 ∧ Below v0.heap.size v0 wr ∧ Own wr v0.heap.size (.slice p tx.length q) tx) (fun _ wr => C - b - (match wr.cell? ⟨w1.heap.size, 3, none⟩ with | some v => (intOf v).toNat | none => 0))
      case atStart => exact ⟨0, Nat.zero_le _, fun j hj => by omega, HR.out, HB.out, HO.out⟩
      case round =>
        clear HR HB HO HA gg2
        obtain ⟨h, hh, hall, hr, hbl, hO⟩ := hrel
        have HA : Hid (∀ j, j < h → b + j < C ∧ f (a * 5 + (b + j)) = m) := hall
        have HR : Hid (RowAt wr w1.heap.size #[.int .i64 a, .int .i64 b, .int .i64 d, .int .i64 h, .slice p tx.length q] 42) := hr
        have HB : Hid (Below v0.heap.size v0 wr) := hbl
        have HO : Hid (Own wr v0.heap.size (.slice p tx.length q) tx) := hO
        have e3 : wr.cell? ⟨w1.heap.size, 3, none⟩ = some (.int .i64 h) := hr.cell 3
        have e3f := hr.frozen 3
        have gg := G0.below hbl z0
        have g1 := gg.cols
        have HG1 : Hid (RowAt wr (w.heap.size + 1) #[.int .i64 0, .int .i64 0, .int .i64 0, .int .i64 0, .slice none 0 0] 42) := G1.below hbl z1
        clear hall hr hbl hO
        by_cases h1 : b + h < C
        · have k0 := gg.num (a * 5 + (b + h)) (by omega)
          obtain ⟨y, hy⟩ : ∃ y, f (a * 5 + (b + h)) = y := ⟨_, rfl⟩
          have HY : Hid (f (a * 5 + (b + h)) = y) := hy
          rw [← Nat.add_assoc, hy] at k0
          have hy25 := hf (a * 5 + (b + h))
          rw [hy] at hy25
          have c0 : (b : Int) + h < C := by omega
          have c1 : (b : Int) + h < 5 := by omega
          clear gg hy
          by_cases h2 : y = m
          · have h2' : ((y : Int) == (m : Int)) = true := by simp [h2]
            have H2 : Hid (y = m) := h2
            clear h2
            go_wp2_with fail
            go_quiet (fail)
            go_wp2_with fail
            go_roundw
            case rel =>
              refine ⟨h + 1, by omega, ?_, HR.out.setCell 3 (.int .i64 ((h : Int) + 1)), (below_drewN HB.out _).setCell (by show _ ≤ w1.heap.size; omega) _, own_set (own_below HO.out (below_drewN (Below.refl _ _) _)) _ _ (fun e => by have := HOB.out _ e; simp at this)⟩
              intro i hi
              by_cases hid : i = h
              · subst hid
                exact ⟨h1, HY.out.trans H2.out⟩
              · exact HA.out i (by omega)
            case measure =>
              rw [show ((wr.drewN nq).setCell ⟨w1.heap.size, 3, none⟩ (.int .i64 ((h : Int) + 1))).cell? ⟨w1.heap.size, 3, none⟩ = some (.int .i64 ((h : Int) + 1)) from ((HR.out.below (below_drewN (Below.refl wr.heap.size wr) nq) HR.out.lt).setCell 3 (.int .i64 ((h : Int) + 1))).cell 3, e3]
              simp only [intOf]
              omega
          · have h2' : ((y : Int) == (m : Int)) = false := by simp; omega
            have H2 : Hid (¬ y = m) := h2
            clear h2
            have d0 : wr.cell? ⟨w1.heap.size, 0, none⟩ = some (.int .i64 a) := HR.out.cell 0
            have d1 : wr.cell? ⟨w1.heap.size, 1, none⟩ = some (.int .i64 b) := HR.out.cell 1
            have d2 : wr.cell? ⟨w1.heap.size, 2, none⟩ = some (.int .i64 d) := HR.out.cell 2
            have d4 : wr.cell? ⟨w1.heap.size, 4, none⟩ = some (.slice p tx.length q) := HR.out.cell 4
            have HRt : Hid (Rt C f a b h) := ⟨fun j hj => ⟨(HA.out j hj).1, (HA.out j hj).2.trans HM.out.symm⟩, fun hh => H2.out (HY.out.symm.trans (hh.2.trans HM.out))⟩
            have lz := HG1.out.lt
            go_wp2_with fail
            go_quiet (fail)
            go_wp2_with (refine wpList_store_row rfl 42 (.tmp 6) (.tmp 71) rfl (w.heap.size + 1) #[.int .i64 a, .int .i64 b, .int .i64 d, .int .i64 h, .slice p tx.length q] rfl rfl 42 _ (HG1.out.below (below_drewN (Below.refl wr.heap.size wr) nq) lz) cell_info rfl (cells5_one _ _ _ _ _ _ _) ?_)
            refine bodyPost_ret (v := .agg #[.int .i64 a, .int .i64 b, .int .i64 d, .int .i64 h, .slice p tx.length q]) (results_cell_row (p := 6) (ty := 42) rfl _ _ (w.heap.size + 1) 42 _ _ _ rfl (RowAt.setRow (HG1.out.below (below_drewN (Below.refl wr.heap.size wr) nq) lz) _) Try.underlying42 rfl cell_info) rfl ⟨⟨d, h, p, tx.length, q, rfl, HDn.out, HRt.out, ?_⟩, below_row (below_drewN (B0.trans (HB.out.mono B0.size)) _) (by omega) _⟩
            exact own_less (own_row (own_below HO.out (below_drewN (Below.refl _ _) _)) _ _ (fun e => by have := (own_lt HO.out.row e).1; omega)) B0.size
        · have c0 : decide ((b : Int) + h < C) = false := by simp; omega
          have c0' : C ≤ b + h := by omega
          clear gg
          have d0 : wr.cell? ⟨w1.heap.size, 0, none⟩ = some (.int .i64 a) := HR.out.cell 0
          have d1 : wr.cell? ⟨w1.heap.size, 1, none⟩ = some (.int .i64 b) := HR.out.cell 1
          have d2 : wr.cell? ⟨w1.heap.size, 2, none⟩ = some (.int .i64 d) := HR.out.cell 2
          have d4 : wr.cell? ⟨w1.heap.size, 4, none⟩ = some (.slice p tx.length q) := HR.out.cell 4
          have HRt : Hid (Rt C f a b h) := ⟨fun j hj => ⟨(HA.out j hj).1, (HA.out j hj).2.trans HM.out.symm⟩, fun hh => h1 hh.1⟩
          have lz := HG1.out.lt
          go_wp2_with fail
          go_quiet (fail)
          go_wp2_with (refine wpList_store_row rfl 42 (.tmp 6) (.tmp 71) rfl (w.heap.size + 1) #[.int .i64 a, .int .i64 b, .int .i64 d, .int .i64 h, .slice p tx.length q] rfl rfl 42 _ (HG1.out.below (below_drewN (Below.refl wr.heap.size wr) nq) lz) cell_info rfl (cells5_one _ _ _ _ _ _ _) ?_)
          refine bodyPost_ret (v := .agg #[.int .i64 a, .int .i64 b, .int .i64 d, .int .i64 h, .slice p tx.length q]) (results_cell_row (p := 6) (ty := 42) rfl _ _ (w.heap.size + 1) 42 _ _ _ rfl (RowAt.setRow (HG1.out.below (below_drewN (Below.refl wr.heap.size wr) nq) lz) _) Try.underlying42 rfl cell_info) rfl ⟨⟨d, h, p, tx.length, q, rfl, HDn.out, HRt.out, ?_⟩, below_row (below_drewN (B0.trans (HB.out.mono B0.size)) _) (by omega) _⟩
          exact own_less (own_row (own_below HO.out (below_drewN (Below.refl _ _) _)) _ _ (fun e => by have := (own_lt HO.out.row e).1; omega)) B0.size
end Go.Proofs.Ytpgldodnnlcceaa
namespace Go.Proofs.Ytpgldodnnlcceaa
open Go.RowKit

theorem and_nat (y p : Nat) (hy : y < 2 ^ 26) (hp : p < 2 ^ 26) : bits .and .u32 (y : Int) (p : Int) = ((y &&& p : Nat) : Int) := by
  have ho : y &&& p < 2 ^ 26 := Nat.and_lt_two_pow y hp
  show IntKind.u32.wrap (((BitVec.ofInt 32 (y : Int)) &&& (BitVec.ofInt 32 (p : Int))).toNat : Int) = _
  rw [BitVec.ofInt_natCast, BitVec.ofInt_natCast, BitVec.toNat_and, BitVec.toNat_ofNat, BitVec.toNat_ofNat, Nat.mod_eq_of_lt (a := y) (by omega), Nat.mod_eq_of_lt (a := p) (by omega)]
  generalize y &&& p = z at ho ⊢
  simp only [IntKind.wrap, IntKind.bits, IntKind.signed]
  simp
  omega
theorem and_pow_ne (x m : Nat) (hx : x < 2 ^ 26) (hm : m ≤ 25) : (bits .and .u32 (x : Int) (2 ^ m % 4294967296) != 0) = x.testBit m := by
  rw [pow_mod m hm, and_nat x _ hx (pow_lt26 hm)]
  cases ht : x.testBit m
  · have : x &&& 2 ^ m = 0 := by
      apply Nat.eq_of_testBit_eq
      intro k
      rw [Nat.testBit_and, Nat.testBit_two_pow, Nat.zero_testBit]
      by_cases hk : m = k
      · subst hk
        simp [ht]
      · simp [hk]
    simp [this]
  · have : x &&& 2 ^ m ≠ 0 := by
      intro e
      have h1 : (x &&& 2 ^ m).testBit m = true := by rw [Nat.testBit_and, ht, Nat.testBit_two_pow]; simp
      rw [e, Nat.zero_testBit] at h1
      exact absurd h1 (by simp)
    simp
    omega
set_option maxHeartbeats 800000 in
theorem numHas_is {x m : Nat} {z : Bool} (hz : x.testBit m = z) (hx : x < 2 ^ 26) (hm : m ≤ 25) (w : World) :
    Calls Try.prog 48 #[.int .u32 x, .int .i64 m] w fun e w' => e = .returned (.bool z) ∧ w' = w := by
  have HX : Hid ((bits .and .u32 (x : Int) (2 ^ m % 4294967296) != 0) = z) := by
    show (bits .and .u32 (x : Int) (2 ^ m % 4294967296) != 0) = z
    rw [and_pow_ne x m hx hm, hz]
  clear hz hx
  go_enter Try.func48, Try.ntmps48
  go_wp2
  go_ret
  exact ⟨congrArg (fun b => Ending.returned (.bool b)) HX.out, rfl⟩

/-- The start of a cell, as places. -/
def stR (x : Cl) : Nat := x.1.toNat
def stC (x : Cl) : Nat := x.2.1.toNat
/-- What a grid's cells are, in order: where each begins its number is new; any other square has a number that was met. -/
structure Rep (R C : Nat) (f : Nat → Nat) (l : List Cl) : Prop where
  cell : ∀ k, k < l.length → (∃ a b d h : Nat, l.getD k cl0 = ((a : Int), (b : Int), (d : Int), (h : Int), (l.getD k cl0).2.2.2.2) ∧ a < R ∧ b < C ∧ Dn R f a b d ∧ Rt C f a b h)
  order : ∀ i k, i < k → k < l.length → vis (stR (l.getD k cl0)) (stC (l.getD k cl0)) C (stR (l.getD i cl0)) (stC (l.getD i cl0))
  fresh : ∀ k, k < l.length → ∀ a b, vis (stR (l.getD k cl0)) (stC (l.getD k cl0)) C a b → f (a * 5 + b) ≠ f (stR (l.getD k cl0) * 5 + stC (l.getD k cl0))
  met : ∀ a b, vis R 0 C a b → (∃ k, k < l.length ∧ stR (l.getD k cl0) = a ∧ stC (l.getD k cl0) = b) ∨ (∃ a' b', vis a b C a' b' ∧ f (a' * 5 + b') = f (a * 5 + b))

theorem Dn.uniq {R : Nat} {f : Nat → Nat} {a b d d' : Nat} (h : Dn R f a b d) (h' : Dn R f a b d') : d = d' := by
  rcases Nat.lt_trichotomy d d' with hl | hl | hl
  · exact absurd (h'.1 d hl) h.2
  · exact hl
  · exact absurd (h.1 d' hl) h'.2
theorem Rt.uniq {C : Nat} {f : Nat → Nat} {a b d d' : Nat} (h : Rt C f a b d) (h' : Rt C f a b d') : d = d' := by
  rcases Nat.lt_trichotomy d d' with hl | hl | hl
  · exact absurd (h'.1 d hl) h.2
  · exact hl
  · exact absurd (h.1 d' hl) h'.2

/-- So many cells begin ahead of a square. -/
def Ahead (C : Nat) (l : List Cl) (i j k : Nat) : Prop := k ≤ l.length ∧ (∀ q, q < k → vis i j C (stR (l.getD q cl0)) (stC (l.getD q cl0))) ∧ (∀ q, k ≤ q → q < l.length → ¬ vis i j C (stR (l.getD q cl0)) (stC (l.getD q cl0)))
theorem Ahead.row {C i k : Nat} {l : List Cl} (h : Ahead C l i C k) : Ahead C l (i + 1) 0 k := by
  refine ⟨h.1, fun q hq => ?_, fun q hq hl hv => h.2.2 q hq hl ?_⟩
  · have := h.2.1 q hq
    unfold vis at this ⊢
    omega
  · unfold vis at hv ⊢
    omega
/-- At a square whose number is new the next cell begins; at another none. -/
theorem Ahead.new {R C i j k : Nat} {f : Nat → Nat} {l : List Cl} (h : Ahead C l i j k) (hr : Rep R C f l) (hi : i < R) (hj : j < C) (hn : ∀ a b, vis i j C a b → f (a * 5 + b) ≠ f (i * 5 + j)) :
    k < l.length ∧ stR (l.getD k cl0) = i ∧ stC (l.getD k cl0) = j ∧ Ahead C l i (j + 1) (k + 1) := by
  rcases hr.met i j (by unfold vis; omega) with ⟨q, hq, e1, e2⟩ | ⟨a, b, h1, h2⟩
  · have hkq : k = q := by
      rcases Nat.lt_trichotomy k q with hl | hl | hl
      · have := hr.order k q hl hq
        rw [e1, e2] at this
        exact absurd this (h.2.2 k (Nat.le_refl _) (by omega))
      · exact hl
      · have := h.2.1 q hl
        rw [e1, e2] at this
        unfold vis at this
        omega
    subst hkq
    refine ⟨hq, e1, e2, by omega, fun q' hq' => ?_, fun q' hq' hl' => ?_⟩
    · by_cases hqk : q' = k
      · subst hqk
        rw [e1, e2]
        unfold vis
        omega
      · have := h.2.1 q' (by omega)
        unfold vis at this ⊢
        omega
    · have ho := hr.order k q' (by omega) hl'
      rw [e1, e2] at ho
      intro hv
      unfold vis at ho hv
      omega
  · exact absurd h2 (hn a b h1)
theorem Ahead.old {R C i j k : Nat} {f : Nat → Nat} {l : List Cl} (h : Ahead C l i j k) (hr : Rep R C f l) (hn : ∃ a b, vis i j C a b ∧ f (a * 5 + b) = f (i * 5 + j)) : Ahead C l i (j + 1) k := by
  obtain ⟨a, b, h1, h2⟩ := hn
  refine ⟨h.1, fun q hq => ?_, fun q hq hl hv => ?_⟩
  · have := h.2.1 q hq
    unfold vis at this ⊢
    omega
  · have hno := h.2.2 q hq hl
    have e : stR (l.getD q cl0) = i ∧ stC (l.getD q cl0) = j := by
      unfold vis at hno hv
      omega
    have := hr.fresh q hl a b (by rw [e.1, e.2]; exact h1)
    rw [e.1, e.2] at this
    exact this h2
end Go.Proofs.Ytpgldodnnlcceaa
namespace Go.Proofs.Ytpgldodnnlcceaa
open Go.RowKit

theorem yieldsIf_load_row {P : Program} {ops : Array Oper} {S : World → Prop} {op : Oper} {a : Act} (hw : Region.wanted op (yielded ops a.tmps) = true) (ty : TypeId) (x : Operand) (ho : op.op = .load ty x)
    (g : Nat) (hx : a.eval x = .pointer (some ⟨g, 0, none⟩)) (t : TypeId) (cs : Array Value) (fr : Nat × Nat) (d : TypeDesc) (hS : ∀ w, S w → w.heap[g]? = some (.cells cs t fr))
    (hu : P.underlying ty = some d) (hd : (match d with | .struct _ | .array _ _ => true | _ => false) = true) (hi : (P.info? ty).map (·.size) = some cs.size) : YieldsIf P ops S op (.agg cs) a :=
  .inl ⟨hw, fun w hw' => by
    unfold execOp
    simp only [ho, hx, Instr.loadAt, Instr.sureAddr, Sem.run_bind, Sem.run_pure, Result.andThen_ok, run_loadVar_row w g t ty cs fr d (hS w hw') hu hd hi]⟩
end Go.Proofs.Ytpgldodnnlcceaa
namespace Go.Proofs.Ytpgldodnnlcceaa
open Go.RowKit

theorem run_gridCells {w : World} {g : Nat} {R C : Int} {n : Nat} {f : Nat → Nat} {t : Nat → Sl} (h : GridAt w g R C n f t) : (loadCellsFrom ⟨g, 0, none⟩ 0 54 #[]).run Try.prog w = .ok (gridA R C n f t) w := by
  have := run_loadCells_list (P := Try.prog) w ⟨g, 0, none⟩ (gridA R C n f t).toList (fun j v hv => by
    have hadd : (⟨g, 0, none⟩ : Addr).add j = ⟨g, j, none⟩ := by unfold Addr.add; split <;> simp_all
    rw [hadd, RowAt.cell h]
    simpa using hv)
  simpa [loadCells, gridA_size] using this
set_option maxRecDepth 100000 in
set_option maxHeartbeats 4000000 in
theorem table_any (R C n : Nat) (f : Nat → Nat) (t : Nat → Sl) (l : List Cl) (w : World) (hR : R ≤ 5) (hC : C ≤ 5) (hf : ∀ k, f k ≤ 25) (hr : Rep R C f l) (hl : l.length ≤ 25)
    (ht : ∀ k, k < l.length → Txt w (t (f (stR (l.getD k cl0) * 5 + stC (l.getD k cl0)))).1 (t (f (stR (l.getD k cl0) * 5 + stC (l.getD k cl0)))).2.1 (t (f (stR (l.getD k cl0) * 5 + stC (l.getD k cl0)))).2.2 (l.getD k cl0).2.2.2.2 ∧ (l.getD k cl0).2.2.2.2.length ≤ 1048576) :
    Calls Try.prog 26 #[.agg (gridA R C n f t)] w fun z w' => (∃ a c rs, z = .returned (.agg #[.int .i64 R, .int .i64 C, .slice a l.length c]) ∧ OwnT w' w.heap.size (.slice a l.length c) rs l) ∧ Below w.heap.size w w' := by
  obtain ⟨i0, hi, hz0, hz1, hz2⟩ := info_parts Try.info42
  have HR : Hid (Rep R C f l) := hr
  have HT : Hid (∀ k, k < l.length → Txt w (t (f (stR (l.getD k cl0) * 5 + stC (l.getD k cl0)))).1 (t (f (stR (l.getD k cl0) * 5 + stC (l.getD k cl0)))).2.1 (t (f (stR (l.getD k cl0) * 5 + stC (l.getD k cl0)))).2.2 (l.getD k cl0).2.2.2.2 ∧ (l.getD k cl0).2.2.2.2.length ≤ 1048576) := ht
  clear hr ht
  go_enter Try.func26, Try.ntmps26
  go_upto_region 1 with fail
  have B0 : Below w.heap.size w ((w.alloc (.cells (gridA R C n f t) 48)).alloc (.cells #[.int .i64 0, .int .i64 0, .slice none 0 0] 25)) := ((Below.refl _ _).alloc (Nat.le_refl _) _).alloc (by simp) _
  have G0 : GridAt ((w.alloc (.cells (gridA R C n f t) 48)).alloc (.cells #[.int .i64 0, .int .i64 0, .slice none 0 0] 25)) w.heap.size R C n f t := (gridAt_new w R C n f t).alloc _
  have G1 : RowAt ((w.alloc (.cells (gridA R C n f t) 48)).alloc (.cells #[.int .i64 0, .int .i64 0, .slice none 0 0] 25)) (w.heap.size + 1) #[.int .i64 0, .int .i64 0, .slice none 0 0] 25 := by
    have := rowAt_new (w.alloc (.cells (gridA R C n f t) 48)) #[.int .i64 0, .int .i64 0, .slice none 0 0] 25
    simpa using this
  generalize ((w.alloc (.cells (gridA R C n f t) 48)).alloc (.cells #[.int .i64 0, .int .i64 0, .slice none 0 0] 25)) = v at B0 G0 G1 ⊢
  have q0 := G0.rows
  have q1 := G0.cols
  go_upto_region 2 with fail
  have B1 : Below v.heap.size v (v.alloc (.cells #[.int .i64 R, .int .i64 C, .slice none 0 0] 25)) := (Below.refl _ _).alloc (Nat.le_refl _) _
  have G2 : RowAt (v.alloc (.cells #[.int .i64 R, .int .i64 C, .slice none 0 0] 25)) v.heap.size #[.int .i64 R, .int .i64 C, .slice none 0 0] 25 := rowAt_new _ _ _
  generalize (v.alloc (.cells #[.int .i64 R, .int .i64 C, .slice none 0 0] 25)) = v0 at B1 G2 ⊢
  have z0 := G0.lt
  have z1 := G1.lt
  have z2 := G2.lt
  have s01 := B0.size
  clear q0 q1
  have q0 := (G0.below B1 z0).rows
  go_wp2_with fail
  go_loopw [4, 15] (fun xv iv wr => ∃ i : Nat, i ≤ R ∧ iv = .int .i64 i ∧ ∃ (k x : Nat) (rs : List Rw) (a : Option Addr) (c : Nat), Ahead C l i 0 k ∧ xv = .int .u32 x ∧ Mask x f (fun p q => vis i 0 C p q) ∧ RowAt wr v.heap.size #[.int .i64 R, .int .i64 C, .slice a k c] 25 ∧ OwnR wr v0.heap.size (.slice a k c) rs ∧ TxtOwn wr v0.heap.size (Value.slice a k c).ownBlock rs (l.take k) ∧ Below v.heap.size v wr ∧ v0.heap.size ≤ wr.heap.size) (fun _ iv _ => R - (intOf iv).toNat)
  case atStart => exact ⟨0, Nat.zero_le _, rfl, 0, 0, [], none, 0, ⟨Nat.zero_le _, fun q hq => by omega, fun q _ _ hv => by unfold vis at hv; omega⟩, rfl, Mask.zero (fun a b hv => by unfold vis at hv; omega), G2, OwnR.nil _ _, TxtOwn.nil _ _ _, B1, Nat.le_refl _⟩
  case round =>
    clear q0 G2 B1
    obtain ⟨i, hi', rfl, k, x, rs, a, c, hA, rfl, hM, hT, hO, hX, hb, hs⟩ := hrel
    have HA : Hid (Ahead C l i 0 k) := hA
    have HM : Hid (Mask x f (fun p q => vis i 0 C p q)) := hM
    have HTb : Hid (RowAt wr v.heap.size #[.int .i64 R, .int .i64 C, .slice a k c] 25) := hT
    have HO : Hid (OwnR wr v0.heap.size (.slice a k c) rs) := hO
    have HXt : Hid (TxtOwn wr v0.heap.size (Value.slice a k c).ownBlock rs (l.take k)) := hX
    have HB : Hid (Below v.heap.size v wr) := hb
    have g1 := (G0.below hb z0).cols
    clear hA hM hT hO hX hb
    by_cases hlt : i < R
    · have b0 : (i : Int) < 5 := by omega
      have b1 : (C : Int) ≤ 5 := by omega
      go_wp2_with fail
      go_quiet (fail)
      go_wp2_with fail
      go_loopw [4, 25] (fun xv jv wr => ∃ j : Nat, j ≤ C ∧ jv = .int .i64 j ∧ ∃ (k x : Nat) (rs : List Rw) (a : Option Addr) (c : Nat), Ahead C l i j k ∧ xv = .int .u32 x ∧ Mask x f (fun p q => vis i j C p q) ∧ RowAt wr v.heap.size #[.int .i64 R, .int .i64 C, .slice a k c] 25 ∧ OwnR wr v0.heap.size (.slice a k c) rs ∧ TxtOwn wr v0.heap.size (Value.slice a k c).ownBlock rs (l.take k) ∧ Below v.heap.size v wr ∧ v0.heap.size ≤ wr.heap.size) (fun _ jv _ => C - (intOf jv).toNat)
      case atStart => exact ⟨0, Nat.zero_le _, rfl, k, x, rs, a, c, HA.out, rfl, HM.out, HTb.out.below (below_drewN (Below.refl _ _) _) HTb.out.lt, own_below HO.out (below_drewN (Below.refl _ _) _), HXt.out.below (below_drewN (Below.refl _ _) _), below_drewN HB.out _, by simpa using hs⟩
      case round =>
        clear HA HM HTb HO HXt HB g1
        obtain ⟨j, hj, rfl, k, x, rs, a, c, hA, rfl, hM, hT, hO, hX, hb, hs⟩ := hrel
        have HA : Hid (Ahead C l i j k) := hA
        have HM : Hid (Mask x f (fun p q => vis i j C p q)) := hM
        have HTb : Hid (RowAt wr v.heap.size #[.int .i64 R, .int .i64 C, .slice a k c] 25) := hT
        have HO : Hid (OwnR wr v0.heap.size (.slice a k c) rs) := hO
        have HXt : Hid (TxtOwn wr v0.heap.size (Value.slice a k c).ownBlock rs (l.take k)) := hX
        have HB : Hid (Below v.heap.size v wr) := hb
        by_cases hlj : j < C
        · have gg : GridAt wr w.heap.size R C n f t := G0.below hb z0
          have k1 := gg.num (i * 5 + j) (by omega)
          have hm := hf (i * 5 + j)
          obtain ⟨m, HMm⟩ : ∃ m, Hid (f (i * 5 + j) = m) := ⟨_, rfl⟩
          rw [← Nat.add_assoc, HMm.out] at k1
          rw [HMm.out] at hm
          have hx26 := hM.1
          have HGG : Hid (GridAt wr w.heap.size R C n f t) := gg
          clear hA hM hT hO hX hb gg
          cases hbt : x.testBit m
          · have HBt : Hid (x.testBit m = false) := hbt
            clear hbt
            go_upto_region 11 with (go_at_call 48; refine (numHas_is HBt.out hx26 hm _).mono ?_; rintro e w4 ⟨rfl, hw4⟩; subst w4)
            have hnew : ∀ p q, vis i j C p q → f (p * 5 + q) ≠ f (i * 5 + j) := fun p q hv e => by
              have := (HM.out.2 m).2 ⟨p, q, hv, e.trans HMm.out⟩
              rw [HBt.out] at this
              exact absurd this (by simp)
            obtain ⟨hkl, es1, es2, hA'⟩ := HA.out.new HR.out hlt hlj hnew
            obtain ⟨tx, htx⟩ : ∃ tx, tx = (l.getD k cl0).2.2.2.2 := ⟨_, rfl⟩
            have hTk := HT.out k hkl
            rw [es1, es2, ← htx] at hTk
            have htxl : tx.length ≤ 1048576 := hTk.2
            have HTX : Hid (Txt wr.drew (t (f (i * 5 + j))).1 (t (f (i * 5 + j))).2.1 (t (f (i * 5 + j))).2.2 tx) := hTk.1.below ((B0.trans (HB.out.mono s01)).drew)
            have HTXE : Hid (tx = (l.getD k cl0).2.2.2.2) := htx
            have HA' : Hid (Ahead C l i (j + 1) (k + 1)) := hA'
            have HE : Hid (stR (l.getD k cl0) = i ∧ stC (l.getD k cl0) = j) := ⟨es1, es2⟩
            have lv : v.heap.size < wr.drew.heap.size := by simp only [World.size_drew]; omega
            have lw : w.heap.size < wr.drew.heap.size := by simp only [World.size_drew]; omega
            clear hnew hTk htx hA' es1 es2
            have e2 : wr.cell? ⟨v.heap.size, 2, none⟩ = some (.slice a k c) := HTb.out.cell 2
            refine wp_region_noPanic ?_
            refine wp_region_held_drew (S := fun w' => GridAt w' w.heap.size R C n f t) (by kernel_rfl) HGG.out (fun hHeld => ?_)
            refine wpAnyH_take (i := 0) (v := .pointer (some ⟨v.heap.size, 2, none⟩)) rfl (by kernel_rfl) (by kernel_rfl) (by kernel_rfl) (fun _ _ _ h => h) (Or.inl ⟨by rfl, fun w' _ => by go_simp⟩) hHeld ?_
            refine wpAnyH_take (i := 2) rfl (by kernel_rfl) (by kernel_rfl) (by kernel_rfl) (fun _ _ _ h => h) (yieldsIf_load_row (by rfl) 48 (.tmp 1) rfl w.heap.size rfl 48 (gridA R C n f t) (0, 0) _ (fun w' h => h) Try.underlying48 rfl (grid_infoA _ _ _ _ _)) hHeld ?_
            refine wpAnyH_take (i := 3) (v := .int .i64 i) rfl (by kernel_rfl) (by kernel_rfl) (by kernel_rfl) (fun _ _ _ h => h) (Or.inl ⟨by rfl, fun w' _ => by go_simp⟩) hHeld ?_
            refine wpAnyH_take (i := 4) (v := .int .i64 j) rfl (by kernel_rfl) (by kernel_rfl) (by kernel_rfl) (fun _ _ _ h => h) (Or.inl ⟨by rfl, fun w' _ => by go_simp⟩) hHeld ?_
            simp only [Act.put, List.setIfInBounds_toArray]
            refine wpAnyH_ready (rs := [1, 5]) (by kernel_rfl) (by simp) ?_
            refine AllReadyH.cons rfl (fun K hK => ?_) ?_
            · go_simp
              refine hK.out _ _ hHeld (fun hHeld => ?_)
              clear hK K
              (try simp only [Act.put, List.setIfInBounds_toArray, List.set_cons_zero, List.set_cons_succ])
              refine wpAnyH_ready (rs := [5]) (by kernel_rfl) (by simp) ?_
              refine AllReadyH.cons rfl (fun K hK => ?_) AllReadyH.nil
              go_simp
              go_at_call 49
              refine (cell_any R C n f t i j tx _ hR hC hlt hlj hf HTX.out htxl).mono ?_
              rintro e w4 ⟨⟨d, h, p, m', c', rfl, hDn, hRt, hOw⟩, hb4⟩
              have s4 : wr.heap.size ≤ w4.heap.size := by have := hb4.size; simpa using this
              have f2 : w4.cell? ⟨v.heap.size, 2, none⟩ = some (.slice a k c) := (hb4.cell (p := ⟨v.heap.size, 2, none⟩) lv).trans e2
              have hHeld4 : GridAt w4 w.heap.size R C n f t := hHeld.below hb4 lw
              go_wp2_with fail
              refine hK.out _ _ hHeld4 (fun hHeld => ?_)
              clear hK K hHeld4
              (try simp only [Act.put, List.setIfInBounds_toArray, List.set_cons_zero, List.set_cons_succ])
              refine wpAnyH_ready (rs := [6]) (by kernel_rfl) (by simp) ?_
              refine AllReadyH.cons rfl (fun K hK => ?_) AllReadyH.nil
              go_simp
              refine hK.out _ _ (hHeld.alloc _) (fun hHeld => ?_)
              clear hK K
              (try simp only [Act.put, List.setIfInBounds_toArray, List.set_cons_zero, List.set_cons_succ])
              refine wpAnyH_ready (rs := [7]) (by kernel_rfl) (by simp) ?_
              refine AllReadyH.cons rfl (fun K hK => ?_) AllReadyH.nil
              refine step_append_lies _ (by rfl) _ _ _ (by rfl) v0.heap.size 42 i0 _ 5 56 Try.underlying23 hi hz0 hz1 hz2 rfl (by omega) (.slice a k c) k (flat5 rs) (by rfl) ((own_below (own_below HO.out.row ((Below.refl wr.heap.size wr).drew)) hb4).alloc _) ⟨w4.heap.size, 0, none⟩ 1 1 [.int .i64 (i : Int), .int .i64 (j : Int), .int .i64 (d : Int), .int .i64 (h : Int), .slice p m' c'] (by rfl) (by rfl) (cell_five_new _ _ _ _ _ _ _) (five_oneCell _ _ _ _ _ _ _) (by omega) (by unfold maxLen; omega) (by omega) (by simp; omega) (w4.heap.size + 1) (by simp) ?_
              intro gg cc w5 hown5 hgrow5 hat hltg
              refine hK.out _ _ ?_ (fun hHeld => ?_)
              · exact RowAt.grown hHeld hgrow5 (fun e => by have := (own_lt HO.out.row e).1; omega)
              clear hK K
              (try simp only [Act.put, List.setIfInBounds_toArray])
              have T4 : RowAt (w4.alloc (.cells #[.int .i64 (i : Int), .int .i64 (j : Int), .int .i64 (d : Int), .int .i64 (h : Int), .slice p m' c'] 42)) v.heap.size #[.int .i64 R, .int .i64 C, .slice a k c] 25 := (HTb.out.drew.below hb4 lv).alloc _
              have T5 := RowAt.grown T4 hgrow5 (fun e => by have := (own_lt HO.out.row e).1; omega)
              have p2 : w5.cell? ⟨v.heap.size, 2, none⟩ = some (.slice a k c) := T5.cell 2
              have p3 := T5.frozen 2
              refine wpAnyH_take (i := 8) (v := .pointer (some ⟨v.heap.size, 2, none⟩)) rfl (by kernel_rfl) (by kernel_rfl) (by kernel_rfl) (fun _ _ _ h => h) (Or.inl ⟨by rfl, fun w' _ => by go_simp⟩) hHeld ?_
              (try simp only [Act.put])
              refine wpAnyH_ready (rs := [9]) (by kernel_rfl) (by simp) ?_
              refine AllReadyH.cons rfl (fun K hK => ?_) AllReadyH.nil
              go_simp
              refine hK.out _ _ (RowAt.other hHeld _ _ (by simp; omega)) (fun _ => ?_)
              clear hK K
              refine wpAnyH_done (by kernel_rfl) ?_ _
              refine NoPanic.normal ?_
              go_wp2_with fail
              go_roundw
              case rel =>
                have lo4 : OwnR w4 v0.heap.size (.slice a k c) rs := own_below (own_below HO.out ((Below.refl wr.heap.size wr).drew)) hb4
                have tO : Own w5 v0.heap.size (.slice p m' c') tx := own_grown (Own.alloc (own_less hOw (by simp only [World.size_drew]; omega)) _) hgrow5 (fun g hg => own_kinds lo4 hOw (by decide) g hg)
                have lr := lo4.len
                have rO : OwnR w5 v0.heap.size (.slice (some ⟨gg, 0, none⟩) (k + 1) cc) (rs ++ [((i : Int), (j : Int), (d : Int), (h : Int), p, m', c')]) := OwnR.snoc hown5 (by omega) rfl
                have t4 : TxtOwn w4 v0.heap.size (Value.slice a k c).ownBlock rs (l.take k) := (HXt.out.below ((Below.refl wr.heap.size wr).drew)).below hb4
                have t5 : TxtOwn w5 v0.heap.size (Value.slice a k c).ownBlock rs (l.take k) := (t4.below ((Below.refl _ _).alloc (Nat.le_refl _) _)).grown hgrow5 (fun q hq b hb => t4.2.2.1 q hq b hb)
                obtain ⟨a0, b0', d0, h0, el, _, _, hd0, hh0⟩ := HR.out.cell k hkl
                have ea : a0 = i := by have := HE.out.1; rw [el] at this; simpa [stR] using this
                have eb : b0' = j := by have := HE.out.2; rw [el] at this; simpa [stC] using this
                subst ea eb
                have ed := hDn.uniq hd0
                have eh := hRt.uniq hh0
                subst ed eh
                have t6 := t5.snoc (C := wr.heap.size) (x := ((a0 : Int), (b0' : Int), (d : Int), (h : Int), p, m', c')) (y := l.getD k cl0) (by rw [el, ← HTXE.out]; exact ⟨rfl, rfl, rfl, rfl, tO⟩) (fun g hg => own_kinds lo4 hOw (by decide) g hg) (fun q hq g hg => HXt.out.blockLt q hq g hg) (fun g hg => by have := (own_lt hOw.row hg).1; simpa using this)
                rw [show l.take k ++ [l.getD k cl0] = l.take (k + 1) from by rw [List.take_succ_eq_append_getElem hkl]; simp [List.getD, hkl]] at t6
                have B5 : Below v.heap.size v w5 := (((HB.out.drew).trans (hb4.mono (by simp only [World.size_drew]; omega))).alloc (by omega) _).grown hgrow5 (by simp; omega) (fun q hq => by have := (own_lt HO.out.row hq).1; omega)
                have s5 := hgrow5.size
                simp at s5
                refine ⟨b0' + 1, by omega, by go_num, k + 1, x ||| 2 ^ m, _, some ⟨gg, 0, none⟩, cc, HA'.out, by rw [or_pow x m hx26 hm], HM.out.snoc hm HMm.out (fun p' q' => by unfold vis; omega), T5.setCell 2 _, own_set rO _ _ (fun e => by have := (own_lt rO.row e).1; simp at this; omega), (t6.anew rO).setLow _ _ (by simp; omega), B5.setCell (Nat.le_refl _) _, by simp [World.setCell]; omega⟩
              case measure => simp [intOf]; omega
            · refine AllReadyH.cons rfl (fun K hK => ?_) AllReadyH.nil
              go_simp
              go_at_call 49
              refine (cell_any R C n f t i j tx _ hR hC hlt hlj hf HTX.out htxl).mono ?_
              rintro e w4 ⟨⟨d, h, p, m', c', rfl, hDn, hRt, hOw⟩, hb4⟩
              have s4 : wr.heap.size ≤ w4.heap.size := by have := hb4.size; simpa using this
              have f2 : w4.cell? ⟨v.heap.size, 2, none⟩ = some (.slice a k c) := (hb4.cell (p := ⟨v.heap.size, 2, none⟩) lv).trans e2
              have hHeld4 : GridAt w4 w.heap.size R C n f t := hHeld.below hb4 lw
              go_wp2_with fail
              refine hK.out _ _ hHeld4 (fun hHeld => ?_)
              clear hK K hHeld4
              (try simp only [Act.put, List.setIfInBounds_toArray, List.set_cons_zero, List.set_cons_succ])
              refine wpAnyH_ready (rs := [1, 6]) (by kernel_rfl) (by simp) ?_
              refine AllReadyH.cons rfl (fun K hK => ?_) ?_
              · go_simp
                refine hK.out _ _ hHeld (fun hHeld => ?_)
                clear hK K
                (try simp only [Act.put, List.setIfInBounds_toArray, List.set_cons_zero, List.set_cons_succ])
                refine wpAnyH_ready (rs := [6]) (by kernel_rfl) (by simp) ?_
                refine AllReadyH.cons rfl (fun K hK => ?_) AllReadyH.nil
                go_simp
                refine hK.out _ _ (hHeld.alloc _) (fun hHeld => ?_)
                clear hK K
                (try simp only [Act.put, List.setIfInBounds_toArray, List.set_cons_zero, List.set_cons_succ])
                refine wpAnyH_ready (rs := [7]) (by kernel_rfl) (by simp) ?_
                refine AllReadyH.cons rfl (fun K hK => ?_) AllReadyH.nil
                refine step_append_lies _ (by rfl) _ _ _ (by rfl) v0.heap.size 42 i0 _ 5 56 Try.underlying23 hi hz0 hz1 hz2 rfl (by omega) (.slice a k c) k (flat5 rs) (by rfl) ((own_below (own_below HO.out.row ((Below.refl wr.heap.size wr).drew)) hb4).alloc _) ⟨w4.heap.size, 0, none⟩ 1 1 [.int .i64 (i : Int), .int .i64 (j : Int), .int .i64 (d : Int), .int .i64 (h : Int), .slice p m' c'] (by rfl) (by rfl) (cell_five_new _ _ _ _ _ _ _) (five_oneCell _ _ _ _ _ _ _) (by omega) (by unfold maxLen; omega) (by omega) (by simp; omega) (w4.heap.size + 1) (by simp) ?_
                intro gg cc w5 hown5 hgrow5 hat hltg
                refine hK.out _ _ ?_ (fun hHeld => ?_)
                · exact RowAt.grown hHeld hgrow5 (fun e => by have := (own_lt HO.out.row e).1; omega)
                clear hK K
                (try simp only [Act.put, List.setIfInBounds_toArray])
                have T4 : RowAt (w4.alloc (.cells #[.int .i64 (i : Int), .int .i64 (j : Int), .int .i64 (d : Int), .int .i64 (h : Int), .slice p m' c'] 42)) v.heap.size #[.int .i64 R, .int .i64 C, .slice a k c] 25 := (HTb.out.drew.below hb4 lv).alloc _
                have T5 := RowAt.grown T4 hgrow5 (fun e => by have := (own_lt HO.out.row e).1; omega)
                have p2 : w5.cell? ⟨v.heap.size, 2, none⟩ = some (.slice a k c) := T5.cell 2
                have p3 := T5.frozen 2
                refine wpAnyH_take (i := 8) (v := .pointer (some ⟨v.heap.size, 2, none⟩)) rfl (by kernel_rfl) (by kernel_rfl) (by kernel_rfl) (fun _ _ _ h => h) (Or.inl ⟨by rfl, fun w' _ => by go_simp⟩) hHeld ?_
                (try simp only [Act.put])
                refine wpAnyH_ready (rs := [9]) (by kernel_rfl) (by simp) ?_
                refine AllReadyH.cons rfl (fun K hK => ?_) AllReadyH.nil
                go_simp
                refine hK.out _ _ (RowAt.other hHeld _ _ (by simp; omega)) (fun _ => ?_)
                clear hK K
                refine wpAnyH_done (by kernel_rfl) ?_ _
                refine NoPanic.normal ?_
                go_wp2_with fail
                go_roundw
                case rel =>
                  have lo4 : OwnR w4 v0.heap.size (.slice a k c) rs := own_below (own_below HO.out ((Below.refl wr.heap.size wr).drew)) hb4
                  have tO : Own w5 v0.heap.size (.slice p m' c') tx := own_grown (Own.alloc (own_less hOw (by simp only [World.size_drew]; omega)) _) hgrow5 (fun g hg => own_kinds lo4 hOw (by decide) g hg)
                  have lr := lo4.len
                  have rO : OwnR w5 v0.heap.size (.slice (some ⟨gg, 0, none⟩) (k + 1) cc) (rs ++ [((i : Int), (j : Int), (d : Int), (h : Int), p, m', c')]) := OwnR.snoc hown5 (by omega) rfl
                  have t4 : TxtOwn w4 v0.heap.size (Value.slice a k c).ownBlock rs (l.take k) := (HXt.out.below ((Below.refl wr.heap.size wr).drew)).below hb4
                  have t5 : TxtOwn w5 v0.heap.size (Value.slice a k c).ownBlock rs (l.take k) := (t4.below ((Below.refl _ _).alloc (Nat.le_refl _) _)).grown hgrow5 (fun q hq b hb => t4.2.2.1 q hq b hb)
                  obtain ⟨a0, b0', d0, h0, el, _, _, hd0, hh0⟩ := HR.out.cell k hkl
                  have ea : a0 = i := by have := HE.out.1; rw [el] at this; simpa [stR] using this
                  have eb : b0' = j := by have := HE.out.2; rw [el] at this; simpa [stC] using this
                  subst ea eb
                  have ed := hDn.uniq hd0
                  have eh := hRt.uniq hh0
                  subst ed eh
                  have t6 := t5.snoc (C := wr.heap.size) (x := ((a0 : Int), (b0' : Int), (d : Int), (h : Int), p, m', c')) (y := l.getD k cl0) (by rw [el, ← HTXE.out]; exact ⟨rfl, rfl, rfl, rfl, tO⟩) (fun g hg => own_kinds lo4 hOw (by decide) g hg) (fun q hq g hg => HXt.out.blockLt q hq g hg) (fun g hg => by have := (own_lt hOw.row hg).1; simpa using this)
                  rw [show l.take k ++ [l.getD k cl0] = l.take (k + 1) from by rw [List.take_succ_eq_append_getElem hkl]; simp [List.getD, hkl]] at t6
                  have B5 : Below v.heap.size v w5 := (((HB.out.drew).trans (hb4.mono (by simp only [World.size_drew]; omega))).alloc (by omega) _).grown hgrow5 (by simp; omega) (fun q hq => by have := (own_lt HO.out.row hq).1; omega)
                  have s5 := hgrow5.size
                  simp at s5
                  refine ⟨b0' + 1, by omega, by go_num, k + 1, x ||| 2 ^ m, _, some ⟨gg, 0, none⟩, cc, HA'.out, by rw [or_pow x m hx26 hm], HM.out.snoc hm HMm.out (fun p' q' => by unfold vis; omega), T5.setCell 2 _, own_set rO _ _ (fun e => by have := (own_lt rO.row e).1; simp at this; omega), (t6.anew rO).setLow _ _ (by simp; omega), B5.setCell (Nat.le_refl _) _, by simp [World.setCell]; omega⟩
                case measure => simp [intOf]; omega
              · refine AllReadyH.cons rfl (fun K hK => ?_) AllReadyH.nil
                go_simp
                refine hK.out _ _ (hHeld.alloc _) (fun hHeld => ?_)
                clear hK K
                (try simp only [Act.put, List.setIfInBounds_toArray, List.set_cons_zero, List.set_cons_succ])
                have f3 : (w4.alloc (.cells #[.int .i64 (i : Int), .int .i64 (j : Int), .int .i64 (d : Int), .int .i64 (h : Int), .slice p m' c'] 42)).cell? ⟨v.heap.size, 2, none⟩ = some (.slice a k c) := ((HTb.out.drew.below hb4 lv).alloc _).cell 2
                refine wpAnyH_ready (rs := [1]) (by kernel_rfl) (by simp) ?_
                refine AllReadyH.cons rfl (fun K hK => ?_) AllReadyH.nil
                go_simp
                refine hK.out _ _ hHeld (fun hHeld => ?_)
                clear hK K
                (try simp only [Act.put, List.setIfInBounds_toArray, List.set_cons_zero, List.set_cons_succ])
                refine wpAnyH_ready (rs := [7]) (by kernel_rfl) (by simp) ?_
                refine AllReadyH.cons rfl (fun K hK => ?_) AllReadyH.nil
                refine step_append_lies _ (by rfl) _ _ _ (by rfl) v0.heap.size 42 i0 _ 5 56 Try.underlying23 hi hz0 hz1 hz2 rfl (by omega) (.slice a k c) k (flat5 rs) (by rfl) ((own_below (own_below HO.out.row ((Below.refl wr.heap.size wr).drew)) hb4).alloc _) ⟨w4.heap.size, 0, none⟩ 1 1 [.int .i64 (i : Int), .int .i64 (j : Int), .int .i64 (d : Int), .int .i64 (h : Int), .slice p m' c'] (by rfl) (by rfl) (cell_five_new _ _ _ _ _ _ _) (five_oneCell _ _ _ _ _ _ _) (by omega) (by unfold maxLen; omega) (by omega) (by simp; omega) (w4.heap.size + 1) (by simp) ?_
                intro gg cc w5 hown5 hgrow5 hat hltg
                refine hK.out _ _ ?_ (fun hHeld => ?_)
                · exact RowAt.grown hHeld hgrow5 (fun e => by have := (own_lt HO.out.row e).1; omega)
                clear hK K
                (try simp only [Act.put, List.setIfInBounds_toArray])
                have T4 : RowAt (w4.alloc (.cells #[.int .i64 (i : Int), .int .i64 (j : Int), .int .i64 (d : Int), .int .i64 (h : Int), .slice p m' c'] 42)) v.heap.size #[.int .i64 R, .int .i64 C, .slice a k c] 25 := (HTb.out.drew.below hb4 lv).alloc _
                have T5 := RowAt.grown T4 hgrow5 (fun e => by have := (own_lt HO.out.row e).1; omega)
                have p2 : w5.cell? ⟨v.heap.size, 2, none⟩ = some (.slice a k c) := T5.cell 2
                have p3 := T5.frozen 2
                refine wpAnyH_take (i := 8) (v := .pointer (some ⟨v.heap.size, 2, none⟩)) rfl (by kernel_rfl) (by kernel_rfl) (by kernel_rfl) (fun _ _ _ h => h) (Or.inl ⟨by rfl, fun w' _ => by go_simp⟩) hHeld ?_
                (try simp only [Act.put])
                refine wpAnyH_ready (rs := [9]) (by kernel_rfl) (by simp) ?_
                refine AllReadyH.cons rfl (fun K hK => ?_) AllReadyH.nil
                go_simp
                refine hK.out _ _ (RowAt.other hHeld _ _ (by simp; omega)) (fun _ => ?_)
                clear hK K
                refine wpAnyH_done (by kernel_rfl) ?_ _
                refine NoPanic.normal ?_
                go_wp2_with fail
                go_roundw
                case rel =>
                  have lo4 : OwnR w4 v0.heap.size (.slice a k c) rs := own_below (own_below HO.out ((Below.refl wr.heap.size wr).drew)) hb4
                  have tO : Own w5 v0.heap.size (.slice p m' c') tx := own_grown (Own.alloc (own_less hOw (by simp only [World.size_drew]; omega)) _) hgrow5 (fun g hg => own_kinds lo4 hOw (by decide) g hg)
                  have lr := lo4.len
                  have rO : OwnR w5 v0.heap.size (.slice (some ⟨gg, 0, none⟩) (k + 1) cc) (rs ++ [((i : Int), (j : Int), (d : Int), (h : Int), p, m', c')]) := OwnR.snoc hown5 (by omega) rfl
                  have t4 : TxtOwn w4 v0.heap.size (Value.slice a k c).ownBlock rs (l.take k) := (HXt.out.below ((Below.refl wr.heap.size wr).drew)).below hb4
                  have t5 : TxtOwn w5 v0.heap.size (Value.slice a k c).ownBlock rs (l.take k) := (t4.below ((Below.refl _ _).alloc (Nat.le_refl _) _)).grown hgrow5 (fun q hq b hb => t4.2.2.1 q hq b hb)
                  obtain ⟨a0, b0', d0, h0, el, _, _, hd0, hh0⟩ := HR.out.cell k hkl
                  have ea : a0 = i := by have := HE.out.1; rw [el] at this; simpa [stR] using this
                  have eb : b0' = j := by have := HE.out.2; rw [el] at this; simpa [stC] using this
                  subst ea eb
                  have ed := hDn.uniq hd0
                  have eh := hRt.uniq hh0
                  subst ed eh
                  have t6 := t5.snoc (C := wr.heap.size) (x := ((a0 : Int), (b0' : Int), (d : Int), (h : Int), p, m', c')) (y := l.getD k cl0) (by rw [el, ← HTXE.out]; exact ⟨rfl, rfl, rfl, rfl, tO⟩) (fun g hg => own_kinds lo4 hOw (by decide) g hg) (fun q hq g hg => HXt.out.blockLt q hq g hg) (fun g hg => by have := (own_lt hOw.row hg).1; simpa using this)
                  rw [show l.take k ++ [l.getD k cl0] = l.take (k + 1) from by rw [List.take_succ_eq_append_getElem hkl]; simp [List.getD, hkl]] at t6
                  have B5 : Below v.heap.size v w5 := (((HB.out.drew).trans (hb4.mono (by simp only [World.size_drew]; omega))).alloc (by omega) _).grown hgrow5 (by simp; omega) (fun q hq => by have := (own_lt HO.out.row hq).1; omega)
                  have s5 := hgrow5.size
                  simp at s5
                  refine ⟨b0' + 1, by omega, by go_num, k + 1, x ||| 2 ^ m, _, some ⟨gg, 0, none⟩, cc, HA'.out, by rw [or_pow x m hx26 hm], HM.out.snoc hm HMm.out (fun p' q' => by unfold vis; omega), T5.setCell 2 _, own_set rO _ _ (fun e => by have := (own_lt rO.row e).1; simp at this; omega), (t6.anew rO).setLow _ _ (by simp; omega), B5.setCell (Nat.le_refl _) _, by simp [World.setCell]; omega⟩
                case measure => simp [intOf]; omega
          · have HBt : Hid (x.testBit m = true) := hbt
            clear hbt
            go_wp2_with (go_at_call 48; refine (numHas_is HBt.out hx26 hm _).mono ?_; rintro e w4 ⟨rfl, hw4⟩; subst w4)
            go_roundw
            case rel =>
              have hold : ∃ p q, vis i j C p q ∧ f (p * 5 + q) = f (i * 5 + j) := by
                rw [HMm.out]
                exact (HM.out.2 m).1 HBt.out
              refine ⟨j + 1, by omega, by go_num, k, x, rs, a, c, HA.out.old HR.out hold, rfl, ?_, HTb.out, HO.out, HXt.out, HB.out, hs⟩
              obtain ⟨p, q, h1, h2⟩ := hold
              refine ⟨HM.out.1, fun y => ?_⟩
              rw [HM.out.2 y]
              constructor
              · rintro ⟨p', q', h3, h4⟩
                exact ⟨p', q', by unfold vis at h3 ⊢; omega, h4⟩
              · rintro ⟨p', q', h3, h4⟩
                by_cases hh : p' = i ∧ q' = j
                · obtain ⟨rfl, rfl⟩ := hh
                  exact ⟨p, q, h1, h2.trans h4⟩
                · exact ⟨p', q', by unfold vis at h3 ⊢; omega, h4⟩
            case measure => simp [intOf]; omega
        · clear hA hM hT hO hX hb
          go_wp2_with fail
          go_roundw
          case rel =>
            have e1 : j = C := by omega
            refine ⟨i + 1, by omega, by go_num, k, x, rs, a, c, ?_, rfl, ?_, HTb.out, HO.out, HXt.out, HB.out, hs⟩
            · have := HA.out
              rw [e1] at this
              exact this.row
            · have := HM.out
              rw [e1] at this
              exact this.same (fun p q => by unfold vis; omega)
          case measure => simp [intOf]; omega
    · have hkl : k = l.length := by
        rcases Nat.lt_or_ge k l.length with h1 | h1
        · obtain ⟨a0, b0, d0, h0, el, ha0, hb0, _, _⟩ := HR.out.cell k h1
          refine absurd ?_ (HA.out.2.2 k (Nat.le_refl _) h1)
          rw [el]
          simp [stR, stC, vis]
          omega
        · have := HA.out.1
          omega
      subst hkl
      have k0 : wr.cell? ⟨v.heap.size, 0, none⟩ = some (.int .i64 R) := HTb.out.cell 0
      have k1 : wr.cell? ⟨v.heap.size, 1, none⟩ = some (.int .i64 C) := HTb.out.cell 1
      have k2 : wr.cell? ⟨v.heap.size, 2, none⟩ = some (.slice a l.length c) := HTb.out.cell 2
      have HG1 : Hid (RowAt wr (w.heap.size + 1) #[.int .i64 0, .int .i64 0, .slice none 0 0] 25) := G1.below HB.out z1
      go_wp2_with (refine wpList_store_row rfl 25 (.tmp 2) (.tmp 48) rfl (w.heap.size + 1) #[.int .i64 R, .int .i64 C, .slice a l.length c] rfl rfl 25 _ HG1.out tab_info rfl (cells3_one _ _ _ _ _) ?_)
      refine bodyPost_ret (v := .agg #[.int .i64 R, .int .i64 C, .slice a l.length c]) (results_cell_row (p := 2) (ty := 25) rfl _ _ (w.heap.size + 1) 25 _ _ _ rfl (RowAt.setRow HG1.out _) Try.underlying25 rfl tab_info) rfl ⟨⟨a, c, rs, rfl, ?_⟩, below_row (B0.trans (HB.out.mono s01)) (by omega) _⟩
      have hX := HXt.out
      rw [List.take_of_length_le (Nat.le_refl _)] at hX
      exact OwnT.less (B' := v0.heap.size) ⟨own_row HO.out _ _ (fun e => by have := (own_lt HO.out.row e).1; omega), hX.rowLow _ _ (by omega)⟩ (by omega)
end Go.Proofs.Ytpgldodnnlcceaa
namespace Go.Proofs.Ytpgldodnnlcceaa
open Go.RowKit

/-- The squares turned. -/
def turnF (f : Nat → Nat) : Nat → Nat := fun k => f (k % 5 * 5 + k / 5)
def turnP (f : Nat → Nat) (i j : Nat) : Nat → Nat := fun k => if k % 5 < i ∨ (k % 5 = i ∧ k / 5 < j) then f (k % 5 * 5 + k / 5) else f k
theorem turnP_zero (f : Nat → Nat) : turnP f 0 0 = f := by
  funext k
  unfold turnP
  rw [if_neg (by omega)]
theorem turnP_row (f : Nat → Nat) (i : Nat) (n n' : Nat) (R C : Int) (t : Nat → Sl) (_ : n = n') : gridA R C n (turnP f i 5) t = gridA R C n (turnP f (i + 1) 0) t := by
  apply Array.ext_getElem?
  intro k
  rw [gridA_get, gridA_get]
  by_cases h : k < 28
  · by_cases h3 : k < 3
    · match k, h3 with
      | 0, _ => rfl
      | 1, _ => rfl
      | 2, _ => rfl
    · have e : turnP f i 5 (k - 3) = turnP f (i + 1) 0 (k - 3) := by
        unfold turnP
        by_cases hh : (k - 3) % 5 < i ∨ ((k - 3) % 5 = i ∧ (k - 3) / 5 < 5)
        · rw [if_pos hh, if_pos (by omega)]
        · rw [if_neg hh, if_neg (by omega)]
      rw [e]
  · rw [if_neg (show ¬ k = 0 by omega), if_neg (show ¬ k = 1 by omega), if_neg (show ¬ k = 2 by omega), if_neg h, if_neg (show ¬ k = 0 by omega), if_neg (show ¬ k = 1 by omega), if_neg (show ¬ k = 2 by omega), if_neg h]
theorem turnP_end (f : Nat → Nat) : turnP f 5 0 = turnF f := by
  funext k
  unfold turnP turnF
  rw [if_pos (by omega)]
theorem turnP_upd (f : Nat → Nat) (i j : Nat) (hi : i < 5) : upd (turnP f i j) (j * 5 + i) (f (i * 5 + j)) = turnP f i (j + 1) := by
  funext k
  unfold upd turnP
  by_cases h0 : k = j * 5 + i
  · rw [if_pos h0, if_pos (by omega), show k % 5 * 5 + k / 5 = i * 5 + j from by omega]
  · rw [if_neg h0]
    by_cases hh : k % 5 < i ∨ (k % 5 = i ∧ k / 5 < j)
    · rw [if_pos hh, if_pos (by omega)]
    · rw [if_neg hh, if_neg (by omega)]
def wasL (f : Nat → Nat) : List Value := (List.range 25).map fun k => Value.int .i64 (f k)
theorem wasL_len (f : Nat → Nat) : (wasL f).length = 25 := by simp [wasL]
theorem wasL_get (f : Nat → Nat) (k : Nat) (h : k < 25) : (wasL f).toArray[k]? = some (.int .i64 (f k)) := by simp [wasL, h]
theorem wasL_one (f : Nat → Nat) : (wasL f).toArray.all (·.oneCell') = true := by
  refine Array.all_eq_true_iff_forall_mem.2 ?_
  intro v hv
  simp only [wasL, List.mem_toArray, List.mem_map] at hv
  obtain ⟨k, _, rfl⟩ := hv
  rfl
theorem was_range {w : World} {b : Nat} {R C : Int} {n : Nat} {f : Nat → Nat} {t : Nat → Sl} (h : GridAt w b R C n f t) : w.rangeAt b 3 (wasL f) := by
  intro j v hv
  have hj : j < 25 := by
    have := (List.getElem?_eq_some_iff.1 hv).1
    rwa [wasL_len] at this
  rw [h.num j hj]
  simpa [wasL, hj] using hv
theorem was_zero : (wasL fun _ => 0).toArray = #[.int .i64 0, .int .i64 0, .int .i64 0, .int .i64 0, .int .i64 0, .int .i64 0, .int .i64 0, .int .i64 0, .int .i64 0, .int .i64 0, .int .i64 0, .int .i64 0, .int .i64 0, .int .i64 0, .int .i64 0, .int .i64 0, .int .i64 0, .int .i64 0, .int .i64 0, .int .i64 0, .int .i64 0, .int .i64 0, .int .i64 0, .int .i64 0, .int .i64 0] := rfl
theorem was_info (f : Nat → Nat) : (Try.prog.info? 45).map (·.size) = some (wasL f).length := by rw [wasL_len]; kernel_rfl
theorem gridA_set_rows (R R' C : Int) (n : Nat) (f : Nat → Nat) (t : Nat → Sl) : (gridA R C n f t).setIfInBounds 0 (.int .i64 R') = gridA R' C n f t := by
  apply Array.ext_getElem?
  intro i
  rw [Array.getElem?_setIfInBounds, gridA_get, gridA_get, gridA_size]
  by_cases h : 0 = i
  · subst h; rfl
  · rw [if_neg h]
    by_cases h3 : i = 0
    · exact absurd h3.symm h
    · simp only [if_neg h3]
theorem gridA_set_cols (R C C' : Int) (n : Nat) (f : Nat → Nat) (t : Nat → Sl) : (gridA R C n f t).setIfInBounds 1 (.int .i64 C') = gridA R C' n f t := by
  apply Array.ext_getElem?
  intro i
  rw [Array.getElem?_setIfInBounds, gridA_get, gridA_get, gridA_size]
  by_cases h : 1 = i
  · subst h; rfl
  · rw [if_neg h]
    by_cases h3 : i = 1
    · exact absurd h3.symm h
    · simp only [if_neg h3]

set_option maxRecDepth 100000 in
set_option maxHeartbeats 4000000 in
theorem turn_any (R C : Int) (n : Nat) (f : Nat → Nat) (t : Nat → Sl) (w : World) :
    Calls Try.prog 27 #[.agg (gridA R C n f t)] w fun z w' => z = .returned (.agg (gridA C R n (turnF f) t)) ∧ Below w.heap.size w w' := by
  go_enter Try.func27, Try.ntmps27
  go_upto_region 1 with fail
  rw [← grid_zero]
  have B0 : Below w.heap.size w ((w.alloc (.cells (gridA R C n f t) 48)).alloc (.cells (gridA 0 0 0 (fun _ => 0) (fun _ => sl0)) 48)) := ((Below.refl _ _).alloc (Nat.le_refl _) _).alloc (by simp) _
  have G0 : GridAt ((w.alloc (.cells (gridA R C n f t) 48)).alloc (.cells (gridA 0 0 0 (fun _ => 0) (fun _ => sl0)) 48)) w.heap.size R C n f t := (gridAt_new w R C n f t).alloc _
  have G1 : GridAt ((w.alloc (.cells (gridA R C n f t) 48)).alloc (.cells (gridA 0 0 0 (fun _ => 0) (fun _ => sl0)) 48)) (w.heap.size + 1) 0 0 0 (fun _ => 0) (fun _ => sl0) := by
    have := gridAt_new (w.alloc (.cells (gridA R C n f t) 48)) 0 0 0 (fun _ => 0) (fun _ => sl0)
    simpa using this
  generalize ((w.alloc (.cells (gridA R C n f t) 48)).alloc (.cells (gridA 0 0 0 (fun _ => 0) (fun _ => sl0)) 48)) = v at B0 G0 G1 ⊢
  have HR : Hid (v.rangeAt w.heap.size 3 (wasL f)) := was_range G0
  go_upto_region 2 with (first | (refine wpList_load_mid rfl 45 (.tmp 6) rfl w.heap.size 3 rfl (wasL f) _ HR.out Try.underlying45 rfl (was_info f) ?_) | (rw [← was_zero]; refine wpList_store_row rfl 45 (.tmp 3) (.tmp 7) rfl v.heap.size (wasL f).toArray rfl rfl 45 _ (rowAt_new _ _ _) (by rw [List.size_toArray]; exact was_info f) (by simp [wasL_len]) (wasL_one f) ?_))
  have W0 : RowAt ((v.alloc (.cells (wasL fun _ => 0).toArray 45)).setRow v.heap.size (wasL f).toArray) v.heap.size (wasL f).toArray 45 := RowAt.setRow (rowAt_new _ _ _) _
  have z0 := G0.lt
  have z1 := G1.lt
  have B1 : Below w.heap.size w ((v.alloc (.cells (wasL fun _ => 0).toArray 45)).setRow v.heap.size (wasL f).toArray) := below_row (B0.alloc B0.size _) B0.size _
  have G2 : GridAt ((v.alloc (.cells (wasL fun _ => 0).toArray 45)).setRow v.heap.size (wasL f).toArray) w.heap.size R C n f t := RowAt.setRowOther (G0.alloc _) _ _ (by omega)
  have G3 : GridAt ((v.alloc (.cells (wasL fun _ => 0).toArray 45)).setRow v.heap.size (wasL f).toArray) (w.heap.size + 1) 0 0 0 (fun _ => 0) (fun _ => sl0) := RowAt.setRowOther (G1.alloc _) _ _ (by omega)
  clear G0 G1 B0 HR
  generalize ((v.alloc (.cells (wasL fun _ => 0).toArray 45)).setRow v.heap.size (wasL f).toArray) = v1 at W0 B1 G2 G3 ⊢
  go_wp2_with fail
  go_loopw [8] (fun iv wr => ∃ i : Nat, i ≤ 5 ∧ iv = .int .i64 i ∧ GridAt wr w.heap.size R C n (turnP f i 0) t ∧ GridAt wr (w.heap.size + 1) 0 0 0 (fun _ => 0) (fun _ => sl0) ∧ RowAt wr v.heap.size (wasL f).toArray 45 ∧ Below w.heap.size w wr) (fun iv _ => 5 - (intOf iv).toNat)
  case atStart => exact ⟨0, Nat.zero_le _, rfl, by rw [turnP_zero]; exact G2, G3, W0, B1⟩
  case round =>
    clear W0 B1 G2 G3
    obtain ⟨i, hi, rfl, hg, hz, hw, hb⟩ := hrel
    have HG : Hid (GridAt wr w.heap.size R C n (turnP f i 0) t) := hg
    have HZ : Hid (GridAt wr (w.heap.size + 1) 0 0 0 (fun _ => 0) (fun _ => sl0)) := hz
    have HW : Hid (RowAt wr v.heap.size (wasL f).toArray 45) := hw
    have HB : Hid (Below w.heap.size w wr) := hb
    clear hg hz hw hb
    by_cases hlt : i < 5
    · go_wp2_with fail
      go_loopw [11] (fun jv wr => ∃ j : Nat, j ≤ 5 ∧ jv = .int .i64 j ∧ GridAt wr w.heap.size R C n (turnP f i j) t ∧ GridAt wr (w.heap.size + 1) 0 0 0 (fun _ => 0) (fun _ => sl0) ∧ RowAt wr v.heap.size (wasL f).toArray 45 ∧ Below w.heap.size w wr) (fun jv _ => 5 - (intOf jv).toNat)
      case atStart => exact ⟨0, Nat.zero_le _, rfl, HG.out, HZ.out, HW.out, HB.out⟩
      case round =>
        clear HG HZ HW HB
        obtain ⟨j, hj, rfl, hg, hz, hw, hb⟩ := hrel
        have HG : Hid (GridAt wr w.heap.size R C n (turnP f i j) t) := hg
        have HZ : Hid (GridAt wr (w.heap.size + 1) 0 0 0 (fun _ => 0) (fun _ => sl0)) := hz
        have HW : Hid (RowAt wr v.heap.size (wasL f).toArray 45) := hw
        have HB : Hid (Below w.heap.size w wr) := hb
        by_cases hlj : j < 5
        · have q := hg.num (j * 5 + i) (by omega)
          have fz := hg.frozen (3 + (j * 5 + i))
          rw [← Nat.add_assoc] at q fz
          have k0 : wr.cell? ⟨v.heap.size, i * 5 + j, none⟩ = some (.int .i64 (f (i * 5 + j))) := (hw.cell _).trans (wasL_get f _ (by omega))
          have b0 : (i : Int) < 5 := by omega
          have b1 : (j : Int) < 5 := by omega
          obtain ⟨m, HM⟩ : ∃ m, Hid (f (i * 5 + j) = m) := ⟨_, rfl⟩
          rw [HM.out] at k0
          clear hg hz hw hb
          go_wp2_with fail
          go_region
          all_goals go_wp2_with fail
          all_goals go_roundw
          case rel =>
            have sN := HG.out.setNum (j * 5 + i) m (by omega)
            rw [← HM.out, turnP_upd f i j hlt, ← Nat.add_assoc, HM.out] at sN
            exact ⟨j + 1, by omega, by go_num, sN, HZ.out.other _ _ (by simp <;> omega), HW.out.other _ _ (by simp <;> omega), HB.out.drew.setCell (Nat.le_refl _) _⟩
          case measure => simp [intOf]; omega
        · clear hg hz hw hb
          go_wp2_with fail
          go_roundw
          case rel =>
            have hh := HG.out
            rw [show j = 5 from by omega] at hh
            unfold GridAt at hh
            rw [turnP_row f i n n R C t rfl] at hh
            exact ⟨i + 1, by omega, by go_num, hh, HZ.out, HW.out, HB.out⟩
          case measure => simp [intOf]; omega
    · have e5 : i = 5 := by omega
      subst e5
      have g0 := HG.out
      rw [turnP_end] at g0
      have p0 := g0.rows
      have p1 := g0.cols
      have p2 := g0.frozen 0
      have p3 := g0.frozen 1
      have HG5 : Hid (GridAt wr w.heap.size R C n (turnF f) t) := g0
      clear g0 HG HW
      go_upto_region 12 with fail
      have GA : GridAt ((wr.setCell ⟨w.heap.size, 0, none⟩ (.int .i64 C)).setCell ⟨w.heap.size, 1, none⟩ (.int .i64 R)) w.heap.size C R n (turnF f) t := by
        have h1 : GridAt (wr.setCell ⟨w.heap.size, 0, none⟩ (.int .i64 C)) w.heap.size C C n (turnF f) t := by
          unfold GridAt
          rw [← gridA_set_rows R C C]
          exact RowAt.setCell HG5.out 0 _
        unfold GridAt
        rw [← gridA_set_cols C C R]
        exact RowAt.setCell h1 1 _
      have GB : GridAt ((wr.setCell ⟨w.heap.size, 0, none⟩ (.int .i64 C)).setCell ⟨w.heap.size, 1, none⟩ (.int .i64 R)) (w.heap.size + 1) 0 0 0 (fun _ => 0) (fun _ => sl0) := (HZ.out.other ⟨w.heap.size, 0, none⟩ (.int .i64 C) (by simp)).other ⟨w.heap.size, 1, none⟩ (.int .i64 R) (by simp)
      have BC : Below w.heap.size w ((wr.setCell ⟨w.heap.size, 0, none⟩ (.int .i64 C)).setCell ⟨w.heap.size, 1, none⟩ (.int .i64 R)) := (HB.out.setCell (p := ⟨w.heap.size, 0, none⟩) (Nat.le_refl _) (.int .i64 C)).setCell (p := ⟨w.heap.size, 1, none⟩) (Nat.le_refl _) (.int .i64 R)
      clear p0 p1 p2 p3
      generalize ((wr.setCell ⟨w.heap.size, 0, none⟩ (.int .i64 C)).setCell ⟨w.heap.size, 1, none⟩ (.int .i64 R)) = w2 at GA GB BC ⊢
      have HGA : Hid (GridAt w2 w.heap.size C R n (turnF f) t) := GA
      have HGB : Hid (GridAt w2 (w.heap.size + 1) 0 0 0 (fun _ => 0) (fun _ => sl0)) := GB
      clear GA GB
      go_wp2_with (first | (refine wpList_load_row rfl 48 (.tmp 1) rfl w.heap.size rfl 48 (gridA C R n (turnF f) t) (0, 0) _ HGA.out Try.underlying48 rfl (grid_infoA _ _ _ _ _) ?_) | (refine wpList_store_row rfl 48 (.tmp 2) (.tmp 32) rfl (w.heap.size + 1) (gridA C R n (turnF f) t) rfl rfl 48 _ HGB.out (grid_infoA _ _ _ _ _) (by rw [gridA_size, gridA_size]) (gridA_one _ _ _ _ _) ?_))
      refine bodyPost_ret (v := .agg (gridA C R n (turnF f) t)) (results_cell_row (p := 2) (ty := 48) rfl _ _ (w.heap.size + 1) 48 _ _ _ rfl (RowAt.setRow HGB.out _) Try.underlying48 rfl (grid_infoA _ _ _ _ _)) rfl ⟨rfl, below_row BC (by omega) _⟩
end Go.Proofs.Ytpgldodnnlcceaa
namespace Go.Proofs.Ytpgldodnnlcceaa
open Go.RowKit

/-- One row behind another. -/
def gtR (y x : Rw) : Bool := decide (x.1 < y.1 ∨ y.1 = x.1 ∧ x.2.1 < y.2.1)
def insR (x : Rw) : List Rw → List Rw
  | [] => [x]
  | y :: ys => if gtR y x then x :: y :: ys else y :: insR x ys
def sortR (l : List Rw) : List Rw := l.foldl (fun o x => insR x o) []
theorem insR_len (x : Rw) : ∀ l, (insR x l).length = l.length + 1
  | [] => rfl
  | y :: ys => by
    unfold insR
    split
    · rfl
    · simp [insR_len x ys]
theorem sortR_take (l : List Rw) (i : Nat) (h : i < l.length) : sortR (l.take (i + 1)) = insR (l.getD i rw0) (sortR (l.take i)) := by
  have e : l.getD i rw0 = l[i] := by simp [List.getD, h]
  unfold sortR
  rw [List.take_succ_eq_append_getElem h, List.foldl_append, e]
  rfl
theorem sortR_len (l : List Rw) : (sortR l).length = l.length := by
  have key : ∀ (l o : List Rw), (l.foldl (fun o x => insR x o) o).length = o.length + l.length := by
    intro l
    induction l with
    | nil => intro o; rfl
    | cons x l ih => intro o; simp only [List.foldl_cons, ih, insR_len, List.length_cons]; omega
  unfold sortR
  simpa using key l []
theorem insR_end (x : Rw) : ∀ l, (∀ y ∈ l, gtR y x = false) → insR x l = l ++ [x]
  | [], _ => rfl
  | y :: ys, h => by
    unfold insR
    rw [h y (by simp)]
    simp [insR_end x ys (fun z hz => h z (by simp [hz]))]
theorem insR_at (x : Rw) : ∀ (l : List Rw) (k : Nat) (hk : k < l.length), (∀ y ∈ l.take k, gtR y x = false) → gtR l[k] x = true → insR x l = l.take k ++ x :: l.drop k
  | [], k, hk, _, _ => by simp at hk
  | y :: ys, 0, _, _, h => by
    unfold insR
    simp only [List.getElem_cons_zero] at h
    rw [h]
    rfl
  | y :: ys, k + 1, hk, hn, h => by
    unfold insR
    rw [hn y (by simp)]
    have := insR_at x ys k (by simpa using hk) (fun z hz => hn z (by simp [hz])) (by simpa using h)
    simp [this]
/-- How far the row x is put in among the first k rows. -/
def InsP (x : Rw) (out : List Rw) (k : Nat) (done : Bool) (next : List Rw) : Prop :=
  (done = false ∧ next = out.take k ∧ ∀ y ∈ out.take k, gtR y x = false) ∨ (done = true ∧ next ++ out.drop k = insR x out)
theorem InsP.len {x : Rw} {out : List Rw} {k : Nat} {done : Bool} {next : List Rw} (h : InsP x out k done next) (hk : k ≤ out.length) : next.length = k + done.toNat := by
  rcases h with ⟨rfl, rfl, _⟩ | ⟨rfl, e⟩
  · simp; omega
  · have := congrArg List.length e
    rw [insR_len, List.length_append, List.length_drop] at this
    simp
    omega
theorem InsP.skip {x : Rw} {out : List Rw} {k : Nat} {next : List Rw} (h : InsP x out k false next) (hk : k < out.length) (hg : gtR (out.getD k rw0) x = false) : InsP x out (k + 1) false (next ++ [out.getD k rw0]) := by
  have e : out.getD k rw0 = out[k] := by simp [List.getD, hk]
  rcases h with ⟨_, rfl, h2⟩ | ⟨h1, _⟩
  · refine .inl ⟨rfl, ?_, ?_⟩
    · rw [e, List.take_succ_eq_append_getElem hk]
    · intro y hy
      rw [List.take_succ_eq_append_getElem hk] at hy
      rcases List.mem_append.1 hy with hy | hy
      · exact h2 y hy
      · simp at hy
        rw [hy, ← e]
        exact hg
  · simp at h1
theorem InsP.put {x : Rw} {out : List Rw} {k : Nat} {next : List Rw} (h : InsP x out k false next) (hk : k < out.length) (hg : gtR (out.getD k rw0) x = true) : InsP x out (k + 1) true (next ++ [x] ++ [out.getD k rw0]) := by
  have e : out.getD k rw0 = out[k] := by simp [List.getD, hk]
  rcases h with ⟨_, rfl, h2⟩ | ⟨h1, _⟩
  · refine .inr ⟨rfl, ?_⟩
    rw [e] at hg ⊢
    rw [insR_at x out k hk h2 hg]
    simp only [List.append_assoc, List.cons_append, List.nil_append]
    rw [← List.drop_eq_getElem_cons hk]
  · simp at h1
theorem InsP.on {x : Rw} {out : List Rw} {k : Nat} {next : List Rw} (h : InsP x out k true next) (hk : k < out.length) : InsP x out (k + 1) true (next ++ [out.getD k rw0]) := by
  have e : out.getD k rw0 = out[k] := by simp [List.getD, hk]
  rcases h with ⟨h1, _⟩ | ⟨_, h1⟩
  · simp at h1
  · refine .inr ⟨rfl, ?_⟩
    rw [← h1, e, List.drop_eq_getElem_cons hk]
    simp
theorem InsP.fin {x : Rw} {out : List Rw} {next : List Rw} (h : InsP x out out.length true next) : next = insR x out := by
  rcases h with ⟨h1, _⟩ | ⟨_, h1⟩
  · simp at h1
  · simpa using h1
theorem InsP.fin0 {x : Rw} {out : List Rw} {next : List Rw} (h : InsP x out out.length false next) : next ++ [x] = insR x out := by
  rcases h with ⟨_, rfl, h1⟩ | ⟨h1, _⟩
  · rw [List.take_of_length_le (Nat.le_refl _)] at h1 ⊢
    rw [insR_end x out h1]
  · simp at h1
/-! The same among cells. -/
def gtC (y x : Cl) : Bool := decide (x.1 < y.1 ∨ y.1 = x.1 ∧ x.2.1 < y.2.1)
def insC (x : Cl) : List Cl → List Cl
  | [] => [x]
  | y :: ys => if gtC y x then x :: y :: ys else y :: insC x ys
/-- Cells in order. -/
def sortC (l : List Cl) : List Cl := l.foldl (fun o x => insC x o) []
def insZ (x : Rw × Cl) : List (Rw × Cl) → List (Rw × Cl)
  | [] => [x]
  | y :: ys => if gtR y.1 x.1 then x :: y :: ys else y :: insZ x ys
theorem insZ_perm (x : Rw × Cl) : ∀ l, (insZ x l).Perm (x :: l)
  | [] => List.Perm.refl _
  | y :: ys => by
    unfold insZ
    split
    · exact List.Perm.refl _
    · exact ((insZ_perm x ys).cons y).trans (List.Perm.swap x y ys)
theorem insZ_fst (x : Rw × Cl) : ∀ l, (insZ x l).map Prod.fst = insR x.1 (l.map Prod.fst)
  | [] => rfl
  | y :: ys => by
    unfold insZ
    simp only [List.map_cons, insR]
    split
    · rfl
    · simp [insZ_fst x ys]
def keyed (p : Rw × Cl) : Prop := p.1.1 = p.2.1 ∧ p.1.2.1 = p.2.2.1
theorem insZ_snd (x : Rw × Cl) (hx : keyed x) : ∀ l, (∀ p ∈ l, keyed p) → (insZ x l).map Prod.snd = insC x.2 (l.map Prod.snd)
  | [], _ => rfl
  | y :: ys, h => by
    have hy := h y (by simp)
    have e : gtR y.1 x.1 = gtC y.2 x.2 := by
      unfold gtR gtC
      rw [hx.1, hx.2, hy.1, hy.2]
    unfold insZ
    simp only [List.map_cons, insC, e]
    split
    · rfl
    · simp [insZ_snd x hx ys (fun p hp => h p (by simp [hp]))]
theorem foldZ (z : List (Rw × Cl)) : ∀ o, (∀ p ∈ z, keyed p) → (∀ p ∈ o, keyed p) →
    ((z.foldl (fun o x => insZ x o) o).Perm (o ++ z) ∧ (z.foldl (fun o x => insZ x o) o).map Prod.fst = (z.map Prod.fst).foldl (fun o x => insR x o) (o.map Prod.fst) ∧ (z.foldl (fun o x => insZ x o) o).map Prod.snd = (z.map Prod.snd).foldl (fun o x => insC x o) (o.map Prod.snd)) := by
  induction z with
  | nil => intro o _ _; exact ⟨by simp, rfl, rfl⟩
  | cons x z ih =>
    intro o hz ho
    have hx := hz x (by simp)
    obtain ⟨h1, h2, h3⟩ := ih (insZ x o) (fun p hp => hz p (by simp [hp])) (fun p hp => by
      rcases List.mem_cons.1 ((insZ_perm x o).mem_iff.1 hp) with rfl | hp
      · exact hx
      · exact ho p hp)
    refine ⟨h1.trans ?_, ?_, ?_⟩
    · exact ((insZ_perm x o).append_right z).trans (List.perm_middle.symm)
    · rw [List.foldl_cons, h2, insZ_fst]
      rfl
    · rw [List.foldl_cons, h3, insZ_snd x hx o ho]
      rfl
def TxtZ (w : World) (B : Nat) (q : Option Nat) (z : List (Rw × Cl)) : Prop :=
  (∀ p ∈ z, RwOwn w B p.1 p.2 ∧ ∀ g, (rwT p.1).ownBlock = some g → q ≠ some g) ∧ z.Pairwise (fun a b => ∀ g, (rwT a.1).ownBlock = some g → (rwT b.1).ownBlock ≠ some g)
theorem TxtZ.perm {w : World} {B : Nat} {q : Option Nat} {z z' : List (Rw × Cl)} (h : TxtZ w B q z) (hp : z'.Perm z) : TxtZ w B q z' :=
  ⟨fun p hpm => h.1 p (hp.mem_iff.1 hpm), hp.symm.pairwise h.2 (fun hab g hg hg' => hab g hg' hg)⟩
theorem zip_getD (rs : List Rw) (l : List Cl) (k : Nat) (h : k < rs.length) (h' : k < l.length) : (rs.zip l)[k]'(by simp; omega) = (rs.getD k rw0, l.getD k cl0) := by
  simp [List.getD, h, h']
theorem TxtOwn.zip {w : World} {B : Nat} {q : Option Nat} {rs : List Rw} {l : List Cl} (h : TxtOwn w B q rs l) : TxtZ w B q (rs.zip l) := by
  obtain ⟨e, h1, h2, h3⟩ := h
  constructor
  · intro p hp
    obtain ⟨k, hk, rfl⟩ := List.getElem_of_mem hp
    have hk' : k < rs.length := by simp at hk; omega
    rw [zip_getD rs l k hk' (by omega)]
    exact ⟨h1 k hk', h2 k hk'⟩
  · rw [List.pairwise_iff_getElem]
    intro i j hi hj hij
    have hi' : i < rs.length := by simp at hi; omega
    have hj' : j < rs.length := by simp at hj; omega
    rw [zip_getD rs l i hi' (by omega), zip_getD rs l j hj' (by omega)]
    exact h3 i j hij hj'
theorem TxtZ.txt {w : World} {B : Nat} {q : Option Nat} {rs : List Rw} {l : List Cl} (e : rs.length = l.length) (h : TxtZ w B q (rs.zip l)) : TxtOwn w B q rs l := by
  have hm : ∀ k (hk : k < rs.length), (rs.getD k rw0, l.getD k cl0) ∈ rs.zip l := by
    intro k hk
    rw [← zip_getD rs l k hk (by omega)]
    exact List.getElem_mem _
  refine ⟨e, fun k hk => (h.1 _ (hm k hk)).1, fun k hk => (h.1 _ (hm k hk)).2, fun i k hik hk => ?_⟩
  have := List.pairwise_iff_getElem.1 h.2 i k (by simp; omega) (by simp; omega) hik
  rw [zip_getD rs l i (by omega) (by omega), zip_getD rs l k hk (by omega)] at this
  exact this
theorem TxtOwn.sort {w : World} {B : Nat} {q : Option Nat} {rs : List Rw} {l : List Cl} (h : TxtOwn w B q rs l) : TxtOwn w B q (sortR rs) (sortC l) := by
  have e := h.1
  have hz := h.zip
  have hk : ∀ p ∈ rs.zip l, keyed p := fun p hp => ⟨(hz.1 p hp).1.1, (hz.1 p hp).1.2.1⟩
  obtain ⟨h1, h2, h3⟩ := foldZ (rs.zip l) [] hk (fun p hp => by simp at hp)
  rw [List.nil_append] at h1
  rw [List.map_fst_zip (by omega)] at h2
  rw [List.map_snd_zip (by omega)] at h3
  have h4 := hz.perm h1
  generalize (rs.zip l).foldl (fun o x => insZ x o) [] = z at h2 h3 h4
  have e2 : sortR rs = z.map Prod.fst := h2.symm
  have e3 : sortC l = z.map Prod.snd := h3.symm
  rw [e2, e3]
  refine TxtZ.txt (by simp) ?_
  have : (z.map Prod.fst).zip (z.map Prod.snd) = z := by
    rw [List.zip_map']
    simp
  rw [this]
  exact h4
theorem insC_perm (x : Cl) : ∀ l, (insC x l).Perm (x :: l)
  | [] => List.Perm.refl _
  | y :: ys => by
    unfold insC
    split
    · exact List.Perm.refl _
    · exact ((insC_perm x ys).cons y).trans (List.Perm.swap x y ys)
theorem sortC_perm (l : List Cl) : (sortC l).Perm l := by
  have key : ∀ (l o : List Cl), (l.foldl (fun o x => insC x o) o).Perm (o ++ l) := by
    intro l
    induction l with
    | nil => intro o; simp
    | cons x l ih =>
      intro o
      exact (ih (insC x o)).trans (((insC_perm x o).append_right l).trans List.perm_middle.symm)
  simpa [sortC] using key l []
end Go.Proofs.Ytpgldodnnlcceaa
namespace Go.Proofs.Ytpgldodnnlcceaa
open Go.RowKit

/-- A cell turned. -/
def turnC (x : Cl) : Cl := (x.2.1, x.1, x.2.2.2.1, x.2.2.1, x.2.2.2.2)
/-- A table's cells, turned. -/
def turnL (l : List Cl) : List Cl := sortC (l.map turnC)
theorem turnL_mem (l : List Cl) (y : Cl) : y ∈ turnL l ↔ ∃ x ∈ l, turnC x = y := by
  unfold turnL
  rw [(sortC_perm _).mem_iff, List.mem_map]
theorem turnL_len (l : List Cl) : (turnL l).length = l.length := by
  unfold turnL
  rw [(sortC_perm _).length_eq, List.length_map]
/-- Behind, or at the same place. -/
def leC (x y : Cl) : Prop := gtC x y = false
theorem gtC_iff (y x : Cl) : gtC y x = true ↔ (x.1 < y.1 ∨ y.1 = x.1 ∧ x.2.1 < y.2.1) := decide_eq_true_iff
theorem leC_iff (x y : Cl) : leC x y ↔ ¬ (y.1 < x.1 ∨ x.1 = y.1 ∧ y.2.1 < x.2.1) := by
  unfold leC
  rw [← Bool.not_eq_true, gtC_iff]
theorem insC_sorted (x : Cl) : ∀ l : List Cl, l.Pairwise leC → (insC x l).Pairwise leC
  | [], _ => by simp [insC]
  | y :: ys, h => by
    obtain ⟨h1, h2⟩ := List.pairwise_cons.1 h
    unfold insC
    split
    · rename_i hg
      rw [gtC_iff] at hg
      refine List.pairwise_cons.2 ⟨fun z hz => ?_, h⟩
      rcases List.mem_cons.1 hz with rfl | hz
      · rw [leC_iff]; omega
      · have := h1 z hz
        rw [leC_iff] at this ⊢
        omega
    · rename_i hg
      rw [gtC_iff] at hg
      refine List.pairwise_cons.2 ⟨fun z hz => ?_, insC_sorted x ys h2⟩
      rcases List.mem_cons.1 ((insC_perm x ys).mem_iff.1 hz) with rfl | hz
      · rw [leC_iff]; omega
      · exact h1 z hz
theorem sortC_sorted (l : List Cl) : (sortC l).Pairwise leC := by
  have key : ∀ (l o : List Cl), o.Pairwise leC → (l.foldl (fun o x => insC x o) o).Pairwise leC := by
    intro l
    induction l with
    | nil => intro o h; exact h
    | cons x l ih => intro o h; exact ih _ (insC_sorted x o h)
  exact key l [] List.Pairwise.nil
theorem turn_atF (f : Nat → Nat) (a b : Nat) (hb : b < 5) : turnF f (a * 5 + b) = f (b * 5 + a) := by
  unfold turnF
  rw [show (a * 5 + b) % 5 = b from by omega, show (a * 5 + b) / 5 = a from by omega]
section
variable {R C : Nat} {l : List Cl}
/-- A square has the number m + 1 just if it is of cell m. -/
theorem num_iff (h : okB R C l = true) (a b m : Nat) (hb : b < C) : numF l l.length (a * 5 + b) = m + 1 ↔ m < l.length ∧ inB (l.getD m cl0) a b = true := by
  obtain ⟨hR, hC, hs, _⟩ := gridP_of_okB h
  have hw : ∀ i, i < l.length → wiB R C (l.getD i cl0) = true := fun j hj => (stepB_of (hs j hj)).1
  constructor
  · intro e
    exact numF_pos l R C l.length hw a b m (by omega) e
  · rintro ⟨h1, h2⟩
    exact numF_of hC.2 hs h1 a b h2
theorem cell_nat (h : okB R C l = true) (m : Nat) (hm : m < l.length) : ∃ a b d g : Nat, l.getD m cl0 = ((a : Int), (b : Int), (d : Int), (g : Int), (l.getD m cl0).2.2.2.2) ∧ 1 ≤ d ∧ 1 ≤ g ∧ a + d ≤ R ∧ b + g ≤ C := by
  obtain ⟨_, _, hs, _⟩ := gridP_of_okB h
  obtain ⟨w1, w2, w3⟩ := wiB_of (stepB_of (hs m hm)).1
  obtain ⟨⟨x1, x2, x3, x4, x5⟩, hx⟩ : ∃ x, l.getD m cl0 = x := ⟨_, rfl⟩
  rw [hx] at w1 w2 w3 ⊢
  simp only at w1 w2 w3
  refine ⟨x1.toNat, x2.toNat, x3.toNat, x4.toNat, ?_, by omega, by omega, by omega, by omega⟩
  simp only [Prod.mk.injEq]
  refine ⟨by omega, by omega, by omega, by omega, trivial⟩
theorem inB_cell {a b d g : Nat} {t : List Sg} (p q : Nat) : inB ((a : Int), (b : Int), (d : Int), (g : Int), t) p q = true ↔ a ≤ p ∧ p < a + d ∧ b ≤ q ∧ q < b + g := by
  show decide ((a : Int) ≤ (p : Int) ∧ (p : Int) < (a : Int) + (d : Int) ∧ (b : Int) ≤ (q : Int) ∧ (q : Int) < (b : Int) + (g : Int)) = true ↔ _
  rw [decide_eq_true_eq]
  omega
theorem turnL_get (k : Nat) (hk : k < (turnL l).length) : ∃ m, m < l.length ∧ (turnL l).getD k cl0 = turnC (l.getD m cl0) := by
  have h1 : (turnL l).getD k cl0 ∈ turnL l := by simp [List.getD, hk]
  obtain ⟨x, hx, e⟩ := (turnL_mem l _).1 h1
  obtain ⟨m, hm, rfl⟩ := List.getElem_of_mem hx
  exact ⟨m, hm, by rw [← e]; simp [List.getD, hm]⟩
theorem starts_apart (h : okB R C l = true) : (turnL l).Pairwise (fun x y => ¬ (x.1 = y.1 ∧ x.2.1 = y.2.1)) := by
  have hf : formB R C l = true := by
    simp only [okB, Bool.and_eq_true] at h
    exact h.1
  obtain ⟨_, _, _, hat⟩ := formB_of hf
  have h1 : l.Pairwise (fun x y => ¬ (x.2.1 = y.2.1 ∧ x.1 = y.1)) := by
    rw [List.pairwise_iff_getElem]
    intro i j hi hj hij
    have := ahead_of (ahead_far hat j i hj hij)
    rw [getD_get hi, getD_get hj] at this
    omega
  have h2 : (l.map turnC).Pairwise (fun x y => ¬ (x.1 = y.1 ∧ x.2.1 = y.2.1)) := by
    rw [List.pairwise_map]
    exact h1
  exact (sortC_perm _).symm.pairwise h2 (fun hab hba => hab ⟨hba.1.symm, hba.2.symm⟩)
theorem turn_data (h : okB R C l = true) (k : Nat) (hk : k < (turnL l).length) : ∃ m a b d g : Nat, m < l.length ∧ l.getD m cl0 = ((a : Int), (b : Int), (d : Int), (g : Int), (l.getD m cl0).2.2.2.2) ∧ (turnL l).getD k cl0 = ((b : Int), (a : Int), (g : Int), (d : Int), (l.getD m cl0).2.2.2.2) ∧ 1 ≤ d ∧ 1 ≤ g ∧ a + d ≤ R ∧ b + g ≤ C := by
  obtain ⟨m, hm, e⟩ := turnL_get k hk
  obtain ⟨a, b, d, g, e2, h1, h2, h3, h4⟩ := cell_nat h m hm
  refine ⟨m, a, b, d, g, hm, e2, ?_, h1, h2, h3, h4⟩
  rw [e]
  generalize (l.getD m cl0).2.2.2.2 = t at e2 ⊢
  rw [e2]
  rfl
theorem rep_turn (h : okB R C l = true) : Rep C R (turnF (numF l l.length)) (turnL l) := by
  obtain ⟨hR, hC, hs, ht⟩ := gridP_of_okB h
  have hR5 : R ≤ 5 := by omega
  have hC5 : C ≤ 5 := by omega
  have key : ∀ k, k < (turnL l).length → ∃ m a b d g : Nat, m < l.length ∧ (turnL l).getD k cl0 = ((b : Int), (a : Int), (g : Int), (d : Int), (l.getD m cl0).2.2.2.2) ∧ 1 ≤ d ∧ 1 ≤ g ∧ a + d ≤ R ∧ b + g ≤ C ∧ stR ((turnL l).getD k cl0) = b ∧ stC ((turnL l).getD k cl0) = a ∧ ∀ p q, q < C → (numF l l.length (p * 5 + q) = m + 1 ↔ a ≤ p ∧ p < a + d ∧ b ≤ q ∧ q < b + g) := by
    intro k hk
    obtain ⟨m, a, b, d, g, hm, e2, e3, h1, h2, h3, h4⟩ := turn_data h k hk
    refine ⟨m, a, b, d, g, hm, e3, h1, h2, h3, h4, by rw [e3]; simp [stR], by rw [e3]; simp [stC], ?_⟩
    intro p q hq
    rw [num_iff h p q m hq, e2, inB_cell]
    exact ⟨fun hh => hh.2, fun hh => ⟨hm, hh⟩⟩
  constructor
  · intro k hk
    obtain ⟨m, a, b, d, g, hm, e3, h1, h2, h3, h4, _, _, hnum⟩ := key k hk
    have n0 := (hnum a b (by omega)).2 (by omega)
    refine ⟨b, a, g, d, by rw [e3], by omega, by omega, ⟨fun i hi => ⟨by omega, ?_⟩, ?_⟩, fun j hj => ⟨by omega, ?_⟩, ?_⟩
    · rw [turn_atF _ _ _ (by omega), turn_atF _ _ _ (by omega), n0]
      exact (hnum a (b + i) (by omega)).2 (by omega)
    · rintro ⟨q1, q2⟩
      rw [turn_atF _ _ _ (by omega), turn_atF _ _ _ (by omega), n0] at q2
      have := (hnum a (b + g) q1).1 q2
      omega
    · rw [turn_atF _ _ _ (by omega), turn_atF _ _ _ (by omega), n0]
      exact (hnum (a + j) b (by omega)).2 (by omega)
    · rintro ⟨q1, q2⟩
      rw [turn_atF _ _ _ (by omega), turn_atF _ _ _ (by omega), n0] at q2
      have := (hnum (a + d) b (by omega)).1 q2
      omega
  · intro i k hik hk
    obtain ⟨m, a, b, d, g, hm, e3, h1, h2, h3, h4, s1, s2, _⟩ := key k hk
    obtain ⟨m', a', b', d', g', hm', e3', h1', h2', h3', h4', s1', s2', _⟩ := key i (by omega)
    have hle := List.pairwise_iff_getElem.1 (sortC_sorted (l.map turnC)) i k (show i < (turnL l).length by omega) hk hik
    have hne := List.pairwise_iff_getElem.1 (starts_apart h) i k (by omega) hk hik
    rw [leC_iff] at hle
    have g1 : (turnL l)[i]'(by omega) = (turnL l).getD i cl0 := (getD_get (by omega)).symm
    have g2 : (turnL l)[k] = (turnL l).getD k cl0 := (getD_get hk).symm
    have hle' : ¬ (((turnL l).getD k cl0).1 < ((turnL l).getD i cl0).1 ∨ ((turnL l).getD i cl0).1 = ((turnL l).getD k cl0).1 ∧ ((turnL l).getD k cl0).2.1 < ((turnL l).getD i cl0).2.1) := by
      rw [← g1, ← g2]
      exact hle
    rw [g1, g2] at hne
    rw [s1, s2, s1', s2']
    rw [e3, e3'] at hle' hne
    simp only at hle' hne
    unfold vis
    omega
  · intro k hk p q hv
    obtain ⟨m, a, b, d, g, hm, e3, h1, h2, h3, h4, s1, s2, hnum⟩ := key k hk
    rw [s1, s2] at hv ⊢
    have n0 := (hnum a b (by omega)).2 (by omega)
    have hq : q < 5 ∧ p < C := by unfold vis at hv; omega
    rw [turn_atF _ _ _ hq.1, turn_atF _ _ _ (by omega), n0]
    intro e
    have := (hnum q p hq.2).1 e
    unfold vis at hv
    omega
  · intro p q hv
    have hpq : p < C ∧ q < R := by unfold vis at hv; omega
    have h1 := (ht q p (by unfold vis; simp; omega)).1
    obtain ⟨m, hm⟩ : ∃ m, numF l l.length (q * 5 + p) = m + 1 := ⟨numF l l.length (q * 5 + p) - 1, by omega⟩
    obtain ⟨hml, hin⟩ := (num_iff h q p m hpq.1).1 hm
    obtain ⟨a, b, d, g, e2, q1, q2, q3, q4⟩ := cell_nat h m hml
    rw [e2, inB_cell] at hin
    by_cases hst : b = p ∧ a = q
    · left
      have hmem : turnC (l.getD m cl0) ∈ turnL l := (turnL_mem l _).2 ⟨l.getD m cl0, by simp [List.getD, hml], rfl⟩
      obtain ⟨k, hk, e⟩ := List.getElem_of_mem hmem
      refine ⟨k, hk, ?_, ?_⟩
      · rw [getD_get hk, e, e2]
        simp [turnC, stR, hst.1]
      · rw [getD_get hk, e, e2]
        simp [turnC, stC, hst.2]
    · right
      refine ⟨b, a, by unfold vis; omega, ?_⟩
      rw [turn_atF _ _ _ (by omega), turn_atF _ _ _ (by omega), hm]
      rw [num_iff h a b m (by omega), e2, inB_cell]
      exact ⟨hml, by omega⟩
end
end Go.Proofs.Ytpgldodnnlcceaa
namespace Go.Proofs.Ytpgldodnnlcceaa
open Go.RowKit

/-- What a function gives that answers a table and whether there is one. -/
def TabRes (B : Nat) (ok : Bool) (X Y : Int) (L : List Cl) (z : Ending) (w' : World) : Prop :=
  (ok = false ∧ z = .returned (.tuple #[.agg #[.int .i64 0, .int .i64 0, .slice none 0 0], .bool false])) ∨
  (ok = true ∧ ∃ a c rs, z = .returned (.tuple #[.agg #[.int .i64 X, .int .i64 Y, .slice a L.length c], .bool true]) ∧ OwnT w' B (.slice a L.length c) rs L)
theorem run_tabOf {w : World} {g : Nat} {x y s : Value} (h : RowAt w g #[x, y, s] 25) : (loadVar 25 ⟨g, 0, none⟩).run Try.prog w = .ok (.agg #[x, y, s]) w :=
  run_loadVar_row w g 25 25 #[x, y, s] (0, 0) _ h Try.underlying25 rfl tab_info
end Go.Proofs.Ytpgldodnnlcceaa
namespace Go.Proofs.Ytpgldodnnlcceaa
open Go.RowKit

/-- A table turned: its rows, its columns, its cells; nothing, if it is not ok. -/
def tX (R C : Int) (l : List Cl) : Int := if okB R C l then C else 0
def tY (R C : Int) (l : List Cl) : Int := if okB R C l then R else 0
def tL (R C : Int) (l : List Cl) : List Cl := if okB R C l then turnL l else []
theorem tRes_of {R C : Int} {l : List Cl} {w w' : World} {z : Ending} (h : ((okB R C l = false ∧ z = .returned (.agg #[.int .i64 0, .int .i64 0, .slice none 0 0])) ∨ (okB R C l = true ∧ ∃ a' c' rs, z = .returned (.agg #[.int .i64 C, .int .i64 R, .slice a' l.length c']) ∧ OwnT w' w.heap.size (.slice a' l.length c') rs (turnL l))) ∧ Below w.heap.size w w') :
    (∃ x y a n c l' rs, z = .returned (.agg #[.int .i64 x, .int .i64 y, .slice a n c]) ∧ OwnT w' w.heap.size (.slice a n c) rs l' ∧ x = tX R C l ∧ y = tY R C l ∧ l' = tL R C l) ∧ Below w.heap.size w w' := by
  obtain ⟨h1 | h1, hb⟩ := h
  · obtain ⟨h2, rfl⟩ := h1
    refine ⟨⟨0, 0, none, 0, 0, [], [], rfl, ⟨OwnR.nil _ _, TxtOwn.nil _ _ _⟩, ?_, ?_, ?_⟩, hb⟩ <;> simp [h2, tX, tY, tL]
  · obtain ⟨h2, a, c, rs, rfl, ho⟩ := h1
    refine ⟨⟨C, R, a, _, c, _, rs, rfl, ho, ?_, ?_, ?_⟩, hb⟩ <;> simp [h2, tX, tY, tL]
theorem tab_nil (w : World) : Tab w none 0 0 [] := ⟨rfl, Nat.le_refl _, Nat.zero_le _, .inl rfl⟩
theorem okB_nil : okB 0 0 [] = false := by decide
theorem turnL_txt {l : List Cl} {k : Nat} (h : ∀ x ∈ l, x.2.2.2.2.length ≤ k) : ∀ x ∈ turnL l, x.2.2.2.2.length ≤ k := by
  intro x hx
  obtain ⟨y, hy, rfl⟩ := (turnL_mem l x).1 hx
  exact h y hy
end Go.Proofs.Ytpgldodnnlcceaa
namespace Go.Proofs.Ytpgldodnnlcceaa
open Go.RowKit

set_option maxRecDepth 100000 in
set_option maxHeartbeats 8000000 in
theorem implTableTurn_any (R C : Int) (a : Option Addr) (n cap : Nat) (l : List Cl) (w : World) (h : Tab w a n cap l) :
    Calls Try.prog 10 #[.agg #[.int .i64 R, .int .i64 C, .slice a n cap]] w fun z w' => ((okB R C l = false ∧ z = .returned (.agg #[.int .i64 0, .int .i64 0, .slice none 0 0])) ∨ (okB R C l = true ∧ ∃ a' c' rs, z = .returned (.agg #[.int .i64 C, .int .i64 R, .slice a' l.length c']) ∧ OwnT w' w.heap.size (.slice a' l.length c') rs (turnL l))) ∧ Below w.heap.size w w' := by
  have H : Hid (Tab w a n cap l) := h
  clear h
  obtain ⟨ok, HX⟩ : ∃ x, Hid (okB R C l = x) := ⟨_, rfl⟩
  go_enter Try.func10, Try.ntmps10
  go_upto_region 1 with fail
  have B0 : Below w.heap.size w ((w.alloc (.cells #[.int .i64 R, .int .i64 C, .slice a n cap] 25)).alloc (.cells #[.int .i64 0, .int .i64 0, .slice none 0 0] 25)) := ((Below.refl _ _).alloc (Nat.le_refl _) _).alloc (by simp) _
  have G0 : RowAt ((w.alloc (.cells #[.int .i64 R, .int .i64 C, .slice a n cap] 25)).alloc (.cells #[.int .i64 0, .int .i64 0, .slice none 0 0] 25)) w.heap.size #[.int .i64 R, .int .i64 C, .slice a n cap] 25 := (rowAt_new w _ _).alloc _
  have G1 : RowAt ((w.alloc (.cells #[.int .i64 R, .int .i64 C, .slice a n cap] 25)).alloc (.cells #[.int .i64 0, .int .i64 0, .slice none 0 0] 25)) (w.heap.size + 1) #[.int .i64 0, .int .i64 0, .slice none 0 0] 25 := by
    have := rowAt_new (w.alloc (.cells #[.int .i64 R, .int .i64 C, .slice a n cap] 25)) #[.int .i64 0, .int .i64 0, .slice none 0 0] 25
    simpa using this
  have HT : Hid (Tab ((w.alloc (.cells #[.int .i64 R, .int .i64 C, .slice a n cap] 25)).alloc (.cells #[.int .i64 0, .int .i64 0, .slice none 0 0] 25)) a n cap l) := H.out.below B0
  generalize ((w.alloc (.cells #[.int .i64 R, .int .i64 C, .slice a n cap] 25)).alloc (.cells #[.int .i64 0, .int .i64 0, .slice none 0 0] 25)) = v at B0 G0 G1 HT ⊢
  have k0 : v.cell? ⟨w.heap.size, 0, none⟩ = some (.int .i64 R) := G0.cell 0
  have k1 : v.cell? ⟨w.heap.size, 1, none⟩ = some (.int .i64 C) := G0.cell 1
  have k2 : v.cell? ⟨w.heap.size, 2, none⟩ = some (.slice a n cap) := G0.cell 2
  have z1 := G1.lt
  have s0 := B0.size
  have HG1 : Hid (RowAt v (w.heap.size + 1) #[.int .i64 0, .int .i64 0, .slice none 0 0] 25) := G1
  have HB0 : Hid (Below w.heap.size w v) := B0
  clear G0 G1 B0
  cases ok
  · go_upto_region 2 with (first | (go_at_call 23; refine (gridOf_is HX.out HT.out).mono ?_; rintro e w1 ⟨hres, hb1⟩; rcases hres.symm with ⟨hno, -⟩ | ⟨-, rfl⟩; exact absurd hno (by simp)) | (rw [← grid_zero]; refine wpList_store_row rfl 48 (.tmp 3) (.tmp 8) rfl w1.heap.size (gridA 0 0 0 (fun _ => 0) (fun _ => sl0)) rfl rfl 48 _ (gridAt_new _ _ _ _ _ _) (grid_infoA _ _ _ _ _) (by rw [gridA_size]) (gridA_one _ _ _ _ _) ?_))
    have s1 := hb1.size
    have B2 : Below v.heap.size v ((w1.alloc (.cells (gridA 0 0 0 (fun _ => 0) (fun _ => sl0)) 48)).setRow w1.heap.size (gridA 0 0 0 (fun _ => 0) (fun _ => sl0))) := below_row (hb1.alloc s1 _) s1 _
    generalize ((w1.alloc (.cells (gridA 0 0 0 (fun _ => 0) (fun _ => sl0)) 48)).setRow w1.heap.size (gridA 0 0 0 (fun _ => 0) (fun _ => sl0))) = v2 at B2 ⊢
    have HG2 : Hid (RowAt v2 (w.heap.size + 1) #[.int .i64 0, .int .i64 0, .slice none 0 0] 25) := HG1.out.below B2 z1
    clear k0 k1 k2
    go_wp2_with (refine wpList_store_row rfl 25 (.tmp 2) (.tmp 12) rfl (w.heap.size + 1) #[.int .i64 0, .int .i64 0, .slice none 0 0] rfl rfl 25 _ HG2.out tab_info rfl (cells3_one _ _ _ _ _) ?_)
    refine bodyPost_ret (v := .agg #[.int .i64 0, .int .i64 0, .slice none 0 0]) (results_cell_row (p := 2) (ty := 25) rfl _ _ (w.heap.size + 1) 25 _ _ _ rfl (RowAt.setRow HG2.out _) Try.underlying25 rfl tab_info) rfl ⟨.inl ⟨HX.out, rfl⟩, below_row (HB0.out.trans (B2.mono s0)) (by omega) _⟩
  · obtain ⟨hR, hC, hst, -⟩ := gridP_of_okB HX.out
    obtain ⟨R, rfl⟩ : ∃ R' : Nat, R = R' := ⟨R.toNat, by omega⟩
    obtain ⟨C, rfl⟩ : ∃ C' : Nat, C = C' := ⟨C.toNat, by omega⟩
    have hn25 : l.length ≤ 25 := step_le (l := l) (K := l.length) (R := R) (C := C) (by omega) (by omega) hst
    have HST : Hid (∀ k, k < l.length → (l.getD k cl0).2.2.2.2.length ≤ 24) := fun k hk => by
      have := (stepB_of (hst k hk)).2.2
      simp only [textB, Bool.and_eq_true, decide_eq_true_eq] at this
      exact this.1
    clear hst
    go_upto_region 2 with (first | (go_at_call 23; refine (gridOf_is HX.out HT.out).mono ?_; rintro e w1 ⟨(⟨hno, -⟩ | ⟨-, t, rfl, ht1⟩), hb1⟩; exact absurd hno (by simp)) | (rw [← grid_zero]; refine wpList_store_row rfl 48 (.tmp 3) (.tmp 8) rfl w1.heap.size (gridA R C l.length (numF l l.length) t) rfl rfl 48 _ (gridAt_new _ _ _ _ _ _) (grid_infoA _ _ _ _ _) (by rw [gridA_size, gridA_size]) (gridA_one _ _ _ _ _) ?_))
    have s1 := hb1.size
    have B2 : Below v.heap.size v ((w1.alloc (.cells (gridA 0 0 0 (fun _ => 0) (fun _ => sl0)) 48)).setRow w1.heap.size (gridA R C l.length (numF l l.length) t)) := below_row (hb1.alloc s1 _) s1 _
    have B3 : Below w1.heap.size w1 ((w1.alloc (.cells (gridA 0 0 0 (fun _ => 0) (fun _ => sl0)) 48)).setRow w1.heap.size (gridA R C l.length (numF l l.length) t)) := below_row ((Below.refl _ _).alloc (Nat.le_refl _) _) (Nat.le_refl _) _
    have HG : Hid (GridAt ((w1.alloc (.cells (gridA 0 0 0 (fun _ => 0) (fun _ => sl0)) 48)).setRow w1.heap.size (gridA R C l.length (numF l l.length) t)) w1.heap.size R C l.length (numF l l.length) t) := RowAt.setRow (gridAt_new _ _ _ _ _ _) _
    generalize ((w1.alloc (.cells (gridA 0 0 0 (fun _ => 0) (fun _ => sl0)) 48)).setRow w1.heap.size (gridA R C l.length (numF l l.length) t)) = v2 at B2 B3 HG ⊢
    have HTx : Hid (∀ i, i < l.length → Txt v2 (t (i + 1)).1 (t (i + 1)).2.1 (t (i + 1)).2.2 (l.getD i cl0).2.2.2.2) := fun i hi => (ht1 i hi).below B3
    have HB2 : Hid (Below v.heap.size v v2) := B2
    have s2 := B2.size
    clear k0 k1 k2 ht1 hb1 B2 B3
    obtain ⟨N, HN⟩ : ∃ N, Hid (l.length = N) := ⟨_, rfl⟩
    obtain ⟨f, HF⟩ : ∃ f, Hid (numF l l.length = f) := ⟨_, rfl⟩
    rw [HF.out] at HG
    rw [HN.out] at HG hn25
    go_wp2_with (first | (refine wpList_load_row rfl 48 (.tmp 3) rfl w1.heap.size rfl 48 (gridA R C N f t) (0, 0) _ HG.out Try.underlying48 rfl (grid_infoA _ _ _ _ _) ?_) | (go_at_call 27; refine (turn_any R C N f t _).mono ?_; rintro e w3 ⟨rfl, hb3⟩))
    have hle : ∀ k, f k ≤ 25 := fun k => by rw [← HF.out]; have q1 := numF_le l l.length k; have q2 := HN.out; omega
    have hrep : Rep C R (turnF f) (turnL l) := by rw [← HF.out]; exact rep_turn HX.out
    have hlen2 : (turnL l).length ≤ 25 := by rw [turnL_len, HN.out]; exact hn25
    have ht : ∀ k, k < (turnL l).length → Txt w3 (t (turnF f (stR ((turnL l).getD k cl0) * 5 + stC ((turnL l).getD k cl0)))).1 (t (turnF f (stR ((turnL l).getD k cl0) * 5 + stC ((turnL l).getD k cl0)))).2.1 (t (turnF f (stR ((turnL l).getD k cl0) * 5 + stC ((turnL l).getD k cl0)))).2.2 ((turnL l).getD k cl0).2.2.2.2 ∧ ((turnL l).getD k cl0).2.2.2.2.length ≤ 1048576 := by
      intro k hk
      obtain ⟨m, a, b, d, g, hm, e1, e2, h1, h2, h3, h4⟩ := turn_data HX.out k hk
      have hin : inB (l.getD m cl0) a b = true := by
        rw [e1]
        exact (inB_cell a b).2 ⟨by omega, by omega, by omega, by omega⟩
      have hnum := (num_iff HX.out a b m (by omega)).2 ⟨hm, hin⟩
      have hL := HST.out m hm
      have h5 := (HTx.out m hm).below hb3
      rw [e2]
      show Txt w3 (t (turnF f (b * 5 + a))).1 (t (turnF f (b * 5 + a))).2.1 (t (turnF f (b * 5 + a))).2.2 (l.getD m cl0).2.2.2.2 ∧ (l.getD m cl0).2.2.2.2.length ≤ 1048576
      rw [turn_atF f b a (by omega), ← HF.out, hnum]
      exact ⟨h5, by omega⟩
    refine (table_any C R N (turnF f) t (turnL l) _ (by omega) (by omega) (fun k => hle _) hrep hlen2 ht).mono ?_
    rintro e w4 ⟨⟨a', c', rs, rfl, hO⟩, hb4⟩
    have s3 := hb3.size
    have s4 := hb4.size
    have HG4 : Hid (RowAt w4 (w.heap.size + 1) #[.int .i64 0, .int .i64 0, .slice none 0 0] 25) := ((HG1.out.below HB2.out z1).below hb3 (by omega)).below hb4 (by omega)
    rw [turnL_len] at hO ⊢
    have HO : Hid (OwnT w4 w3.heap.size (.slice a' l.length c') rs (turnL l)) := hO
    clear hO hrep ht hlen2 hle
    go_wp2_with (refine wpList_store_row rfl 25 (.tmp 2) (.tmp 15) rfl (w.heap.size + 1) #[.int .i64 C, .int .i64 R, .slice a' l.length c'] rfl rfl 25 _ HG4.out tab_info rfl (cells3_one _ _ _ _ _) ?_)
    have bF : Below w.heap.size w w4 := ((HB0.out.trans (HB2.out.mono s0)).trans (hb3.mono (by omega))).trans (hb4.mono (by omega))
    refine bodyPost_ret (v := .agg #[.int .i64 C, .int .i64 R, .slice a' l.length c']) (results_cell_row (p := 2) (ty := 25) rfl _ _ (w.heap.size + 1) 25 _ _ _ rfl (RowAt.setRow HG4.out _) Try.underlying25 rfl tab_info) rfl ⟨.inr ⟨HX.out, a', c', rs, rfl, ?_⟩, below_row bF (by omega) _⟩
    exact OwnT.less (B' := w3.heap.size) ⟨own_row HO.out.1 _ _ (fun e => by have := (own_lt HO.out.1.row e).1; omega), HO.out.2.rowLow _ _ (by omega)⟩ (by omega)
end Go.Proofs.Ytpgldodnnlcceaa
namespace Go.Proofs.Ytpgldodnnlcceaa
open Go.RowKit

/-- Cells that tile a grid of numbers, in whatever order. -/
structure TilesM (R C : Nat) (f : Nat → Nat) (M : List Cl) : Prop where
  cell : ∀ x ∈ M, ∃ (a b d g : Nat) (t : List Sg), x = ((a : Int), (b : Int), (d : Int), (g : Int), t) ∧ 1 ≤ d ∧ 1 ≤ g ∧ a + d ≤ R ∧ b + g ≤ C ∧ ∀ p q, p < R → q < C → (f (p * 5 + q) = f (a * 5 + b) ↔ a ≤ p ∧ p < a + d ∧ b ≤ q ∧ q < b + g)
  all : ∀ p q, p < R → q < C → ∃ x ∈ M, inB x p q = true
  apart : M.Pairwise (fun x y => ¬ (x.1 = y.1 ∧ x.2.1 = y.2.1))

theorem TilesM.perm {R C : Nat} {f : Nat → Nat} {M N : List Cl} (h : TilesM R C f M) (hp : N.Perm M) : TilesM R C f N where
  cell := fun x hx => h.cell x (hp.mem_iff.1 hx)
  all := fun p q hp' hq => by
    obtain ⟨x, hx, hi⟩ := h.all p q hp' hq
    exact ⟨x, hp.mem_iff.2 hx, hi⟩
  apart := hp.symm.pairwise h.apart (fun hab hba => hab ⟨hba.1.symm, hba.2.symm⟩)
theorem getD_mem {l : List Cl} {k : Nat} (hk : k < l.length) : l.getD k cl0 ∈ l := by
  rw [getD_get hk]
  exact List.getElem_mem hk
theorem TilesM.sort {R C : Nat} {f : Nat → Nat} {M : List Cl} (h : TilesM R C f M) : TilesM R C f (sortC M) := h.perm (sortC_perm M)
/-- Sorted and apart is in order. -/
theorem TilesM.ahead {R C : Nat} {f : Nat → Nat} {M : List Cl} (h : TilesM R C f M) (i k : Nat) (hik : i < k) (hk : k < (sortC M).length) :
    ((sortC M).getD i cl0).1 < ((sortC M).getD k cl0).1 ∨ ((sortC M).getD i cl0).1 = ((sortC M).getD k cl0).1 ∧ ((sortC M).getD i cl0).2.1 < ((sortC M).getD k cl0).2.1 := by
  have hle := List.pairwise_iff_getElem.1 (sortC_sorted M) i k (by omega) hk hik
  have hne := List.pairwise_iff_getElem.1 h.sort.apart i k (by omega) hk hik
  rw [leC_iff] at hle
  rw [getD_get hk, getD_get (show i < (sortC M).length by omega)]
  omega
theorem rep_sort {R C : Nat} {f : Nat → Nat} {M : List Cl} (h : TilesM R C f M) : Rep R C f (sortC M) := by
  have hs := h.sort
  have key : ∀ k, k < (sortC M).length → ∃ (a b d g : Nat) (t : List Sg), (sortC M).getD k cl0 = ((a : Int), (b : Int), (d : Int), (g : Int), t) ∧ 1 ≤ d ∧ 1 ≤ g ∧ a + d ≤ R ∧ b + g ≤ C ∧ stR ((sortC M).getD k cl0) = a ∧ stC ((sortC M).getD k cl0) = b ∧ ∀ p q, p < R → q < C → (f (p * 5 + q) = f (a * 5 + b) ↔ a ≤ p ∧ p < a + d ∧ b ≤ q ∧ q < b + g) := by
    intro k hk
    obtain ⟨a, b, d, g, t, e, h1, h2, h3, h4, h5⟩ := hs.cell _ (getD_mem hk)
    exact ⟨a, b, d, g, t, e, h1, h2, h3, h4, by rw [e]; simp [stR], by rw [e]; simp [stC], h5⟩
  constructor
  · intro k hk
    obtain ⟨a, b, d, g, t, e, h1, h2, h3, h4, _, _, hn⟩ := key k hk
    refine ⟨a, b, d, g, by rw [e], by omega, by omega, ⟨fun i hi => ⟨by omega, (hn _ _ (by omega) (by omega)).2 (by omega)⟩, ?_⟩, fun j hj => ⟨by omega, (hn _ _ (by omega) (by omega)).2 (by omega)⟩, ?_⟩
    · rintro ⟨q1, q2⟩
      have := (hn _ _ q1 (by omega)).1 q2
      omega
    · rintro ⟨q1, q2⟩
      have := (hn _ _ (by omega) q1).1 q2
      omega
  · intro i k hik hk
    obtain ⟨a, b, d, g, t, e, h1, h2, h3, h4, s1, s2, _⟩ := key k hk
    obtain ⟨a', b', d', g', t', e', h1', h2', h3', h4', s1', s2', _⟩ := key i (by omega)
    have := h.ahead i k hik hk
    rw [s1, s2, s1', s2']
    rw [e, e'] at this
    simp only at this
    unfold vis
    omega
  · intro k hk p q hv
    obtain ⟨a, b, d, g, t, e, h1, h2, h3, h4, s1, s2, hn⟩ := key k hk
    rw [s1, s2] at hv ⊢
    have hpq : p < R ∧ q < C := by unfold vis at hv; omega
    intro e'
    have := (hn p q hpq.1 hpq.2).1 e'
    unfold vis at hv
    omega
  · intro p q hv
    have hpq : p < R ∧ q < C := by unfold vis at hv; omega
    obtain ⟨x, hx, hi⟩ := hs.all p q hpq.1 hpq.2
    obtain ⟨k, hk, e⟩ := List.getElem_of_mem hx
    rw [← getD_get hk] at e
    subst e
    obtain ⟨a, b, d, g, t, e, h1, h2, h3, h4, s1, s2, hn⟩ := key k hk
    rw [e, inB_cell] at hi
    by_cases hst : a = p ∧ b = q
    · exact .inl ⟨k, hk, by rw [s1, hst.1], by rw [s2, hst.2]⟩
    · exact .inr ⟨a, b, by unfold vis; omega, ((hn p q hpq.1 hpq.2).2 hi).symm⟩
/-- Such cells, in order, are a table that is ok. -/
theorem okB_sort {R C : Nat} {f : Nat → Nat} {M : List Cl} (h : TilesM R C f M) (hR : 1 ≤ R ∧ R ≤ 5) (hC : 1 ≤ C ∧ C ≤ 5) (hl : M.length ≤ 25) (ht : ∀ x ∈ M, textB x.2.2.2.2 = true) : okB R C (sortC M) = true := by
  have hs := h.sort
  have hlen : (sortC M).length = M.length := (sortC_perm M).length_eq
  have hform : formB R C (sortC M) = true := by
    simp only [formB, Bool.and_eq_true, decide_eq_true_eq, List.all_eq_true, List.mem_range]
    refine ⟨⟨⟨by omega, by omega⟩, by omega⟩, ?_⟩
    intro k hk
    obtain ⟨a, b, d, g, t, e, h1, h2, h3, h4, _⟩ := hs.cell _ (getD_mem hk)
    have htx := ht _ ((sortC_perm M).mem_iff.1 (getD_mem hk))
    simp only [atB, Bool.and_eq_true, Bool.or_eq_true, cellB, decide_eq_true_eq]
    refine ⟨⟨?_, htx⟩, ?_⟩
    · rw [e]
      simp only
      omega
    · by_cases hk0 : k = 0
      · exact .inl hk0
      · exact .inr (decide_eq_true (h.ahead (k - 1) k (by omega) hk))
  simp only [okB, hform, Bool.true_and, List.all_eq_true, List.mem_range, colB, decide_eq_true_eq]
  intro p hp q hq
  have hp' : p < R := by omega
  have hq' : q < C := by omega
  obtain ⟨x, hx, hi⟩ := hs.all p q hp' hq'
  obtain ⟨k, hk, e⟩ := List.getElem_of_mem hx
  subst e
  unfold cnt
  refine countP_one _ (sortC M) k hk hi ?_
  intro i hi' hp2
  obtain ⟨a, b, d, g, t, e, h1, h2, h3, h4, hn⟩ := hs.cell _ hx
  obtain ⟨a', b', d', g', t', e', h1', h2', h3', h4', hn'⟩ := hs.cell _ (List.getElem_mem hi')
  rw [e, inB_cell] at hi
  rw [e', inB_cell] at hp2
  have f1 := (hn p q hp' hq').2 hi
  have f2 := (hn' p q hp' hq').2 hp2
  have g1 := (hn a' b' (by omega) (by omega)).1 (by omega)
  have g2 := (hn' a b (by omega) (by omega)).1 (by omega)
  rcases Nat.lt_trichotomy i k with h7 | h7 | h7
  · have := List.pairwise_iff_getElem.1 hs.apart i k hi' hk h7
    rw [e, e'] at this
    simp only at this
    omega
  · exact h7
  · have := List.pairwise_iff_getElem.1 hs.apart k i hk hi' h7
    rw [e, e'] at this
    simp only at this
    omega
/-- A cell whose squares are just those of a number. -/
def NumC (R C : Nat) (f : Nat → Nat) (x : Cl) (m : Nat) : Prop := ∃ (a b d g : Nat) (t : List Sg), x = ((a : Int), (b : Int), (d : Int), (g : Int), t) ∧ 1 ≤ d ∧ 1 ≤ g ∧ a + d ≤ R ∧ b + g ≤ C ∧ ∀ p q, p < R → q < C → (f (p * 5 + q) = m ↔ a ≤ p ∧ p < a + d ∧ b ≤ q ∧ q < b + g)
theorem NumC.start {R C : Nat} {f : Nat → Nat} {x : Cl} {m : Nat} (h : NumC R C f x m) : f (stR x * 5 + stC x) = m := by
  obtain ⟨a, b, d, g, t, rfl, h1, h2, h3, h4, h5⟩ := h
  simp only [stR, stC, Int.toNat_natCast]
  exact (h5 a b (by omega) (by omega)).2 (by omega)
theorem tilesM_of {R C : Nat} {f : Nat → Nat} {M : List Cl} (h1 : ∀ x ∈ M, ∃ m, NumC R C f x m) (h2 : ∀ p q, p < R → q < C → ∃ x ∈ M, inB x p q = true)
    (h3 : M.Pairwise (fun x y => ∃ m m', m ≠ m' ∧ NumC R C f x m ∧ NumC R C f y m')) : TilesM R C f M where
  cell := fun x hx => by
    obtain ⟨m, hm⟩ := h1 x hx
    have hs := hm.start
    obtain ⟨a, b, d, g, t, rfl, q1, q2, q3, q4, q5⟩ := hm
    simp only [stR, stC, Int.toNat_natCast] at hs
    exact ⟨a, b, d, g, t, rfl, q1, q2, q3, q4, by rw [hs]; exact q5⟩
  all := h2
  apart := h3.imp (by
    rintro x y ⟨m, m', hne, hx, hy⟩ ⟨e1, e2⟩
    have s1 := hx.start
    have s2 := hy.start
    simp only [stR, stC, e1, e2] at s1 s2
    exact hne (s1.symm.trans s2))
/-- No more cells than squares. -/
theorem TilesM.few {R C : Nat} {f : Nat → Nat} {M : List Cl} (h : TilesM R C f M) (hR : R ≤ 5) (hC : C ≤ 5) : M.length ≤ 25 := by
  have := pigeon (fun s => s) 25 (M.map (fun x => stR x * 5 + stC x)) (by
    rw [List.nodup_iff_pairwise_ne, List.pairwise_map]
    refine List.Pairwise.imp_of_mem ?_ h.apart
    intro x y hx hy hne e
    obtain ⟨a, b, d, g, t, rfl, h1, h2, h3, h4, -⟩ := h.cell x hx
    obtain ⟨a', b', d', g', t', rfl, h1', h2', h3', h4', -⟩ := h.cell y hy
    simp only [stR, stC, Int.toNat_natCast] at e
    exact hne ⟨by simp only; omega, by simp only; omega⟩) (by
    intro x hx
    obtain ⟨y, hy, rfl⟩ := List.mem_map.1 hx
    obtain ⟨a, b, d, g, t, rfl, h1, h2, h3, h4, -⟩ := h.cell y hy
    exact ⟨_, by simp only [stR, stC, Int.toNat_natCast]; omega, rfl⟩)
  simpa using this
end Go.Proofs.Ytpgldodnnlcceaa
namespace Go.Proofs.Ytpgldodnnlcceaa
open Go.RowKit

section
variable {R C : Nat} {l : List Cl}
theorem turn_numC (h : okB R C l = true) (m : Nat) (hm : m < l.length) : NumC C R (turnF (numF l l.length)) (turnC (l.getD m cl0)) (m + 1) := by
  obtain ⟨hR, hC, _, _⟩ := gridP_of_okB h
  obtain ⟨a, b, d, g, e, h1, h2, h3, h4⟩ := cell_nat h m hm
  refine ⟨b, a, g, d, (l.getD m cl0).2.2.2.2, by rw [e]; rfl, h2, h1, h4, h3, fun p q hp hq => ?_⟩
  rw [turn_atF _ p q (by omega), num_iff h q p m hp, e, inB_cell]
  constructor
  · rintro ⟨_, hh⟩
    omega
  · intro hh
    exact ⟨hm, by omega⟩
theorem tiles_turn (h : okB R C l = true) : TilesM C R (turnF (numF l l.length)) (l.map turnC) := by
  obtain ⟨hR, hC, _, ht⟩ := gridP_of_okB h
  refine tilesM_of ?_ ?_ ?_
  · intro x hx
    obtain ⟨y, hy, rfl⟩ := List.mem_map.1 hx
    obtain ⟨m, hm, e⟩ := List.getElem_of_mem hy
    rw [← getD_get hm] at e
    subst e
    exact ⟨m + 1, turn_numC h m hm⟩
  · intro p q hp hq
    have h0 := (ht q p (by unfold vis; simp; omega)).1
    obtain ⟨m, hm⟩ : ∃ m, numF l l.length (q * 5 + p) = m + 1 := ⟨numF l l.length (q * 5 + p) - 1, by omega⟩
    obtain ⟨hml, hi⟩ := (num_iff h q p m hp).1 hm
    refine ⟨_, List.mem_map.2 ⟨_, getD_mem hml, rfl⟩, ?_⟩
    obtain ⟨a, b, d, g, e, h1, h2, h3, h4⟩ := cell_nat h m hml
    rw [e, inB_cell] at hi
    rw [e]
    show inB ((b : Int), (a : Int), (g : Int), (d : Int), _) p q = true
    rw [inB_cell]
    omega
  · rw [List.pairwise_map, List.pairwise_iff_getElem]
    intro i k hi hk hik
    rw [← getD_get hi, ← getD_get hk]
    exact ⟨i + 1, k + 1, by omega, turn_numC h i hi, turn_numC h k hk⟩
theorem ok_texts (h : okB R C l = true) : ∀ x ∈ l, textB x.2.2.2.2 = true := by
  intro x hx
  obtain ⟨m, hm, e⟩ := List.getElem_of_mem hx
  rw [← getD_get hm] at e
  subst e
  exact (stepB_of ((gridP_of_okB h).2.2.1 m hm)).2.2
theorem ok_turn (h : okB R C l = true) : okB C R (turnL l) = true := by
  obtain ⟨hR, hC, hs, _⟩ := gridP_of_okB h
  refine okB_sort (tiles_turn h) (by omega) (by omega) ?_ ?_
  · rw [List.length_map]
    exact step_le (l := l) (K := l.length) (R := R) (C := C) (by omega) (by omega) hs
  · intro x hx
    obtain ⟨y, hy, rfl⟩ := List.mem_map.1 hx
    exact ok_texts h y hy
theorem ok_ahead (h : okB R C l = true) (i k : Nat) (hik : i < k) (hk : k < l.length) : (l.getD i cl0).1 < (l.getD k cl0).1 ∨ (l.getD i cl0).1 = (l.getD k cl0).1 ∧ (l.getD i cl0).2.1 < (l.getD k cl0).2.1 := by
  have hf := formB_of (show formB R C l = true by simp only [okB, Bool.and_eq_true] at h; exact h.1)
  exact ahead_of (ahead_far hf.2.2.2 k i hk hik)
theorem turn_turn (h : okB R C l = true) : turnL (turnL l) = l := by
  have hp : (turnL (turnL l)).Perm l := by
    refine (sortC_perm _).trans ?_
    refine ((sortC_perm (l.map turnC)).map turnC).trans ?_
    rw [List.map_map]
    have : (turnC ∘ turnC) = (id : Cl → Cl) := by funext x; rfl
    rw [this, List.map_id]
  have hs : l.Pairwise leC := by
    rw [List.pairwise_iff_getElem]
    intro i k hi hk hik
    rw [← getD_get hi, ← getD_get hk, leC_iff]
    have := ok_ahead h i k hik hk
    omega
  refine List.Perm.eq_of_pairwise ?_ (sortC_sorted _) hs hp
  intro a b ha hb h1 h2
  rw [leC_iff] at h1 h2
  obtain ⟨i, hi, ei⟩ := List.getElem_of_mem (hp.mem_iff.1 ha)
  obtain ⟨k, hk, ek⟩ := List.getElem_of_mem hb
  rw [← getD_get hi] at ei
  rw [← getD_get hk] at ek
  rcases Nat.lt_trichotomy i k with q | q | q
  · have := ok_ahead h i k q hk
    rw [ei, ek] at this
    omega
  · subst q
    rw [← ei, ek]
  · have := ok_ahead h k i q hi
    rw [ei, ek] at this
    omega
/-- A square's text is that of the turned square. -/
theorem turn_text (h : okB R C l = true) (p q m m' : Nat) (hp : p < R) (hq : q < C) (hm : numF l l.length (p * 5 + q) = m + 1) (hm' : numF (turnL l) (turnL l).length (q * 5 + p) = m' + 1) : ((turnL l).getD m' cl0).2.2.2.2 = (l.getD m cl0).2.2.2.2 := by
  obtain ⟨hml, hi⟩ := (num_iff h p q m hq).1 hm
  obtain ⟨hml', hi'⟩ := (num_iff (ok_turn h) q p m' hp).1 hm'
  obtain ⟨k, hk, e⟩ := turnL_get m' hml'
  rw [e] at hi' ⊢
  obtain ⟨a, b, d, g, ec, h1, h2, h3, h4⟩ := cell_nat h k hk
  rw [ec] at hi'
  have hi2 : inB ((b : Int), (a : Int), (g : Int), (d : Int), (l.getD k cl0).2.2.2.2) q p = true := hi'
  rw [inB_cell] at hi2
  have hin : inB (l.getD k cl0) p q = true := by rw [ec, inB_cell]; omega
  have : numF l l.length (p * 5 + q) = k + 1 := (num_iff h p q k hq).2 ⟨hk, hin⟩
  obtain rfl : k = m := by omega
  rfl
end
end Go.Proofs.Ytpgldodnnlcceaa
namespace Go.Proofs.Ytpgldodnnlcceaa
open Go.RowKit

/-- Take number i first, what it yields told by a slot's number. -/
theorem take_at {P : Program} {ops : Array Oper} {Q : Exit → Act → World → Prop} {md : Region.Mode} {S : World → Prop} (i d : Nat) (v : Value) {oi : Oper} {fuel : Nat} {listed : Array Bool} {a : Act} {w : World} (hi : ops[i]? = some oi) (hd : oi.dst = some d)
    (hs : Region.noSelect ops = true) (hf : Region.free md ops listed i = true) (hr : (Region.ready md ops listed).contains i = true)
    (hQ : ∀ c a w, Q (.panic c) (a.put (some d) v) w → Q (.panic c) a w) (hy : YieldsIf P ops S oi v a) (hS : S w)
    (h : wpAnyH P md ops Q S fuel (listed.setIfInBounds i true) (a.put (some d) v) w) : wpAnyH P md ops Q S (fuel + 1) listed a w := by
  rw [← hd] at hQ h
  exact wpAnyH_take hi hs hf hr hQ hy hS h
end Go.Proofs.Ytpgldodnnlcceaa
namespace Go.Proofs.Ytpgldodnnlcceaa
open Go.RowKit

/-- What a walk holds of the world: what lay there first, rows in blocks, and tables that read as lists. -/
def Hold (w0 : World) (rs : List (Nat × Array Value × TypeId)) (ts : List (Option Addr × Nat × Nat × List Cl)) (u : World) : Prop :=
  Below w0.heap.size w0 u ∧ (∀ r ∈ rs, RowAt u r.1 r.2.1 r.2.2) ∧ ∀ t ∈ ts, Tab u t.1 t.2.1 t.2.2.1 t.2.2.2
section
variable {w0 u u' : World} {rs : List (Nat × Array Value × TypeId)} {ts : List (Option Addr × Nat × Nat × List Cl)}
theorem Hold.go (h : Hold w0 rs ts u) (hb : Below u.heap.size u u') : Hold w0 rs ts u' :=
  ⟨h.1.trans (hb.mono h.1.size), fun r hr => (h.2.1 r hr).below hb (h.2.1 r hr).lt, fun t ht => (h.2.2 t ht).below hb⟩
theorem Hold.drew (h : Hold w0 rs ts u) : Hold w0 rs ts u.drew := h.go ((Below.refl _ _).drew)
theorem Hold.add (h : Hold w0 rs ts u) {a : Option Addr} {n c : Nat} {l : List Cl} (ht : Tab u a n c l) : Hold w0 rs ((a, n, c, l) :: ts) u := by
  refine ⟨h.1, h.2.1, fun t hm => ?_⟩
  rcases List.mem_cons.1 hm with rfl | hm
  · exact ht
  · exact h.2.2 t hm
theorem Hold.alloc (h : Hold w0 rs ts u) (cs : Array Value) (ty : TypeId) : Hold w0 ((u.heap.size, cs, ty) :: rs) ts (u.alloc (.cells cs ty)) := by
  refine ⟨h.1.alloc h.1.size _, fun r hm => ?_, fun t hm => (h.2.2 t hm).below ((Below.refl _ _).alloc (Nat.le_refl _) _)⟩
  rcases List.mem_cons.1 hm with rfl | hm
  · exact rowAt_new _ _ _
  · exact (h.2.1 r hm).alloc _
theorem Hold.row (h : Hold w0 rs ts u) (i : Nat) {b : Nat} {cs : Array Value} {ty : TypeId} (e : rs[i]? = some (b, cs, ty)) : RowAt u b cs ty := h.2.1 _ (List.mem_of_getElem? e)
theorem Hold.tab (h : Hold w0 rs ts u) (i : Nat) {a : Option Addr} {n c : Nat} {l : List Cl} (e : ts[i]? = some (a, n, c, l)) : Tab u a n c l := h.2.2 _ (List.mem_of_getElem? e)
/-- What a call gives that answers a table, laid into a block of its own. -/
theorem Hold.res (h : Hold w0 rs ts u) (hb : Below u.heap.size u u') {a : Option Addr} {n c : Nat} {l : List Cl} (ht : Tab u' a n c l) (cs : Array Value) (ty : TypeId) : Hold w0 ((u'.heap.size, cs, ty) :: rs) ((a, n, c, l) :: ts) (u'.alloc (.cells cs ty)) :=
  ((h.go hb).add ht).alloc cs ty
theorem Hold.first {w : World} {a : Option Addr} {n c : Nat} {l : List Cl} (hb : Below w.heap.size w u) (ht : Tab u a n c l) (cs : Array Value) (ty : TypeId) : Hold w [(u.heap.size, cs, ty)] [(a, n, c, l)] (u.alloc (.cells cs ty)) :=
  Hold.alloc (Hold.add ⟨hb, by simp, by simp⟩ ht) cs ty
end
theorem hold_tab_nil (w : World) : Tab w none 0 0 [] := ⟨rfl, Nat.le_refl _, Nat.zero_le _, .inl rfl⟩
theorem tabRes_t {B : Nat} {ok : Bool} {X Y : Int} {L : List Cl} {z : Ending} {w' : World} (hok : ok = true) (h : TabRes B ok X Y L z w') :
    ∃ a n c, z = .returned (.tuple #[.agg #[.int .i64 X, .int .i64 Y, .slice a n c], .bool true]) ∧ Tab w' a n c L := by
  rcases h with ⟨h2, _⟩ | ⟨_, a, c, rs, rfl, ho⟩
  · rw [hok] at h2
    cases h2
  · exact ⟨a, _, c, rfl, ho.tab⟩
theorem tabRes_f {B : Nat} {ok : Bool} {X Y : Int} {L : List Cl} {z : Ending} {w' : World} (hok : ok = false) (h : TabRes B ok X Y L z w') :
    ∃ a n c, z = .returned (.tuple #[.agg #[.int .i64 0, .int .i64 0, .slice a n c], .bool false]) ∧ Tab w' a n c [] := by
  rcases h with ⟨_, rfl⟩ | ⟨h2, _⟩
  · exact ⟨none, 0, 0, rfl, hold_tab_nil _⟩
  · rw [hok] at h2
    cases h2
end Go.Proofs.Ytpgldodnnlcceaa
namespace Go.Proofs.Ytpgldodnnlcceaa
open Go.RowKit

/-- The number of the first cell that a square is of. -/
def atN (R C : Int) (l : List Cl) (r c : Int) : Int := if okB R C l then (match l.findIdx? fun x => inB x r c with | some i => (i : Int) | none => -1) else -1
theorem okB_form {R C : Int} {l : List Cl} (h : okB R C l = true) : formB R C l = true := by
  simp only [okB, Bool.and_eq_true] at h
  exact h.1
theorem specTableOk_is {R C : Int} {a : Option Addr} {n cap : Nat} {l : List Cl} {w : World} {x : Bool} (hx : okB R C l = x) (h : Tab w a n cap l) :
    Calls Try.prog 32 #[.agg #[.int .i64 R, .int .i64 C, .slice a n cap]] w fun e w' => e = .returned (.bool x) ∧ Below w.heap.size w w' := hx ▸ specTableOk_any R C a n cap l w h
theorem findIdx_some (l : List Cl) (k : Nat) (r c : Int) (hk : k < l.length) (h0 : ∀ j, j < k → inB (l.getD j cl0) r c = false) (h1 : inB (l.getD k cl0) r c = true) : (l.findIdx? fun x => inB x r c) = some k := by
  rw [List.findIdx?_eq_some_iff_getElem]
  refine ⟨hk, by simpa [List.getD, hk] using h1, ?_⟩
  intro j hj
  have := h0 j hj
  simpa [List.getD, show j < l.length from by omega] using this
theorem findIdx_none (l : List Cl) (r c : Int) (h0 : ∀ j, j < l.length → inB (l.getD j cl0) r c = false) : (l.findIdx? fun x => inB x r c) = none := by
  rw [List.findIdx?_eq_none_iff]
  intro x hx
  obtain ⟨j, hj, rfl⟩ := List.getElem_of_mem hx
  have := h0 j hj
  simpa [List.getD, hj] using this

end Go.Proofs.Ytpgldodnnlcceaa
namespace Go.Proofs.Ytpgldodnnlcceaa
open Go.RowKit

theorem atN_in {R C : Int} {l : List Cl} (h : okB R C l = true) (a b : Nat) (ha : (a : Int) < R) (hb : (b : Int) < C) : atN R C l a b = (numF l l.length (a * 5 + b) : Int) - 1 ∧ 1 ≤ numF l l.length (a * 5 + b) := by
  obtain ⟨hR, hC, hs, ht⟩ := gridP_of_okB h
  have hw : ∀ i, i < l.length → wiB R C (l.getD i cl0) = true := fun j hj => (stepB_of (hs j hj)).1
  obtain ⟨t1, -⟩ := ht a b (by unfold vis; omega)
  obtain ⟨h1, h2⟩ := numF_pos l R C l.length hw a b (numF l l.length (a * 5 + b) - 1) (by omega) (by omega)
  refine ⟨?_, t1⟩
  have hh := findIdx_some l (numF l l.length (a * 5 + b) - 1) a b h1 (fun j hj => by
    rw [← Bool.not_eq_true]
    intro h3
    exact step_apart hC.2 hs hj h1 a b h3 h2) h2
  simp only [atN, h, if_true, hh]
  omega
theorem atN_out {R C : Int} {l : List Cl} (h : okB R C l = true) (a b : Int) (hn : ¬ (0 ≤ a ∧ a < R ∧ 0 ≤ b ∧ b < C)) : atN R C l a b = -1 := by
  obtain ⟨hR, hC, hs, -⟩ := gridP_of_okB h
  have hh := findIdx_none l a b (fun j hj => by
    have := wiB_of (stepB_of (hs j hj)).1
    refine decide_eq_false ?_
    omega)
  simp only [atN, h, if_true, hh]

set_option maxRecDepth 100000 in
set_option maxHeartbeats 4000000 in
theorem implTableAt_is {R C r c : Int} {a : Option Addr} {n cap : Nat} {l : List Cl} {w : World} {x : Int} (hx : atN R C l r c = x) (h : Tab w a n cap l) :
    Calls Try.prog 17 #[.agg #[.int .i64 R, .int .i64 C, .slice a n cap], .int .i64 r, .int .i64 c] w fun z w' => z = .returned (.int .i64 x) ∧ Below w.heap.size w w' := by
  have HX : Hid (atN R C l r c = x) := hx
  have H : Hid (Tab w a n cap l) := h
  clear hx h
  go_enter Try.func17, Try.ntmps17
  go_upto_region 1 with fail
  have B0 : Below w.heap.size w (w.alloc (.cells #[.int .i64 R, .int .i64 C, .slice a n cap] 25)) := (Below.refl _ _).alloc (Nat.le_refl _) _
  have HT : Hid (Tab (w.alloc (.cells #[.int .i64 R, .int .i64 C, .slice a n cap] 25)) a n cap l) := H.out.below B0
  have G2 : RowAt (w.alloc (.cells #[.int .i64 R, .int .i64 C, .slice a n cap] 25)) w.heap.size #[.int .i64 R, .int .i64 C, .slice a n cap] 25 := rowAt_new w _ _
  generalize (w.alloc (.cells #[.int .i64 R, .int .i64 C, .slice a n cap] 25)) = v0 at B0 HT G2 ⊢
  have k0 : v0.cell? ⟨w.heap.size, 0, none⟩ = some (.int .i64 R) := G2.cell 0
  have k1 : v0.cell? ⟨w.heap.size, 1, none⟩ = some (.int .i64 C) := G2.cell 1
  have k2 : v0.cell? ⟨w.heap.size, 2, none⟩ = some (.slice a n cap) := G2.cell 2
  have z0 := G2.lt
  cases ho : okB R C l
  · have HO : Hid (okB R C l = false) := ho
    clear ho
    go_wp2_with (first | (go_at_call 23; refine (gridOf_is HO.out HT.out).mono ?_; rintro e w1 ⟨(⟨-, rfl⟩ | ⟨hno, -⟩), hb1⟩; rotate_left; exact absurd hno (by simp)) | (rw [← grid_zero]; refine wpList_store_row rfl 48 (.tmp 7) (.tmp 12) rfl w1.heap.size (gridA 0 0 0 (fun _ => 0) (fun _ => sl0)) rfl rfl 48 _ (gridAt_new _ _ _ _ _ _) (grid_infoA _ _ _ _ _) (by rw [gridA_size]) (gridA_one _ _ _ _ _) ?_))
    go_ret
    refine ⟨?_, below_row ((B0.trans (hb1.mono B0.size)).alloc (Nat.le_trans B0.size hb1.size) _) (Nat.le_trans B0.size hb1.size) _⟩
    rw [← HX.out]
    simp only [atN, HO.out]
    rfl
  · have HO : Hid (okB R C l = true) := ho
    obtain ⟨hR, hC, -⟩ := gridP_of_okB ho
    clear ho
    go_upto_region 2 with (first | (go_at_call 23; refine (gridOf_is HO.out HT.out).mono ?_; rintro e w1 ⟨(⟨hno, -⟩ | ⟨-, t, rfl, -⟩), hb1⟩; exact absurd hno (by simp)) | (rw [← grid_zero]; refine wpList_store_row rfl 48 (.tmp 7) (.tmp 12) rfl w1.heap.size (gridA R C l.length (numF l l.length) t) rfl rfl 48 _ (gridAt_new _ _ _ _ _ _) (grid_infoA _ _ _ _ _) (by rw [gridA_size, gridA_size]) (gridA_one _ _ _ _ _) ?_))
    have B2 : Below v0.heap.size v0 ((w1.alloc (.cells (gridA 0 0 0 (fun _ => 0) (fun _ => sl0)) 48)).setRow w1.heap.size (gridA R C l.length (numF l l.length) t)) := below_row (hb1.alloc hb1.size _) hb1.size _
    have HG : Hid (GridAt ((w1.alloc (.cells (gridA 0 0 0 (fun _ => 0) (fun _ => sl0)) 48)).setRow w1.heap.size (gridA R C l.length (numF l l.length) t)) w1.heap.size R C l.length (numF l l.length) t) := RowAt.setRow (gridAt_new _ _ _ _ _ _) _
    generalize ((w1.alloc (.cells (gridA 0 0 0 (fun _ => 0) (fun _ => sl0)) 48)).setRow w1.heap.size (gridA R C l.length (numF l l.length) t)) = v2 at B2 HG ⊢
    have j0 := (B2.cell (p := ⟨w.heap.size, 0, none⟩) z0).trans k0
    have j1 := (B2.cell (p := ⟨w.heap.size, 1, none⟩) z0).trans k1
    have hg := HG.out.lt
    clear k0 k1 k2 G2 hb1
    cases hq : withB r c 1 1 R C
    · have HQ : Hid (withB r c 1 1 R C = false) := hq
      clear hq
      go_wp2_with (go_at_call 37; refine (within_is HQ.out hR hC _).mono ?_; rintro e w3 ⟨rfl, hb3⟩)
      go_ret
      refine ⟨?_, (B0.trans (B2.mono B0.size)).trans (hb3.mono (Nat.le_trans B0.size B2.size))⟩
      rw [← HX.out, atN_out HO.out r c (fun hh => by
        have := HQ.out
        simp only [withB, spanB, Bool.and_eq_false_iff, decide_eq_false_iff_not] at this
        omega)]
      rfl
    · have HQ : Hid (withB r c 1 1 R C = true) := hq
      have hr : (0 ≤ r ∧ r < R) ∧ (0 ≤ c ∧ c < C) := by
        simp only [withB, spanB, Bool.and_eq_true, decide_eq_true_eq] at hq
        omega
      clear hq
      obtain ⟨r, rfl⟩ : ∃ r' : Nat, r = r' := ⟨r.toNat, by omega⟩
      obtain ⟨c, rfl⟩ : ∃ r' : Nat, c = r' := ⟨c.toNat, by omega⟩
      obtain ⟨e1, e2⟩ := atN_in HO.out r c hr.1.2 hr.2.2
      have e3 := Nat.le_trans (numF_le l l.length (r * 5 + c)) (step_le hR.2 hC.2 (gridP_of_okB HO.out).2.2.1)
      obtain ⟨m, HM⟩ : ∃ m, Hid (numF l l.length (r * 5 + c) = m) := ⟨_, rfl⟩
      rw [HM.out] at e1 e2 e3
      have HE : Hid (x = (m : Int) - 1) := HX.out.symm.trans e1
      have b0 : (r : Int) < 5 := by omega
      have b1 : (c : Int) < 5 := by omega
      clear e1
      go_wp2_with (go_at_call 37; refine (within_is HQ.out hR hC _).mono ?_; rintro e w3 ⟨rfl, hb3⟩; have q := (HG.out.below hb3 hg).num (r * 5 + c) (by omega); rw [← Nat.add_assoc, HM.out] at q)
      go_ret
      refine ⟨?_, (B0.trans (B2.mono B0.size)).trans (hb3.mono (Nat.le_trans B0.size B2.size))⟩
      rw [HE.out]
      rfl
end Go.Proofs.Ytpgldodnnlcceaa
