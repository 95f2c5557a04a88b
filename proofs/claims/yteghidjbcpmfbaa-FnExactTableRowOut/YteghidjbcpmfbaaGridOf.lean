import Derived.Test.YteghidjbcpmfbaaGridE
import Derived.Test.YteghidjbcpmfbaaPlain
import Derived.Laws.ResultCell
namespace Go.Proofs.Yteghidjbcpmfbaa
open Go.RowKit

theorem built_0 : Try.prog.built 51 [] = some (gridA 0 0 0 (fun _ => 0) (fun _ => sl0)) := by kernel_rfl
theorem built_2 (R C : Int) : Try.prog.built 51 [(0, .int .i64 R), (1, .int .i64 C)] = some (gridA R C 0 (fun _ => 0) (fun _ => sl0)) := by rfl
theorem wpList_grid0 {ops : Array Oper} {rest : List Oper} {o : Oper} {a : Act} {w : World} {Q : Exit → Act → World → Prop} (hg : o.guard = none) (ho : o.op = .build 51 #[])
    (h : wpList Try.prog ops Q rest (a.put o.dst (.agg (gridA 0 0 0 (fun _ => 0) (fun _ => sl0)))) w) : wpList Try.prog ops Q (o :: rest) a w := by
  have e : ((#[] : Array (Nat × Operand)).map fun (i, x) => (i, a.eval x)).toList = [] := by simp
  exact wpList_build hg 51 _ ho (by rw [e, built_0]; rfl) (by rw [e, built_0]; exact h)
theorem wpList_grid2 {ops : Array Oper} {rest : List Oper} {o : Oper} {a : Act} {w : World} {Q : Exit → Act → World → Prop} (hg : o.guard = none) (x y : Operand) (ho : o.op = .build 51 #[(0, x), (1, y)]) (R C : Int) (hx : a.eval x = .int .i64 R) (hy : a.eval y = .int .i64 C)
    (h : wpList Try.prog ops Q rest (a.put o.dst (.agg (gridA R C 0 (fun _ => 0) (fun _ => sl0)))) w) : wpList Try.prog ops Q (o :: rest) a w := by
  have e : ((#[(0, x), (1, y)] : Array (Nat × Operand)).map fun (i, x) => (i, a.eval x)).toList = [(0, .int .i64 R), (1, .int .i64 C)] := by simp [hx, hy]
  exact wpList_build hg 51 _ ho (by rw [e, built_2]; rfl) (by rw [e, built_2]; exact h)
theorem run_gridOf {w : World} {g : Nat} {R C : Int} {n : Nat} {f : Nat → Nat} {t : Nat → Sl} (h : GridAt w g R C n f t) : (loadVar 51 ⟨g, 0, none⟩).run Try.prog w = .ok (.agg (gridA R C n f t)) w :=
  run_loadVar_row w g 51 51 (gridA R C n f t) (0, 0) _ h Try.underlying51 rfl (grid_infoA _ _ _ _ _)
theorem implTextOk_is {a : Option Addr} {n cap : Nat} {l : List Sg} {w : World} {x : Bool} (h : Txt w a n cap l) (hx : textB l = x) :
    Calls Try.prog 49 #[.slice a n cap] w fun e w' => e = .returned (.bool x) ∧ Below w.heap.size w w' := hx ▸ implTextOk_any a n cap l w h

theorem okB_no {R C : Int} {l : List Cl} (h : ¬ gridP R C l) : okB R C l = false := by
  rw [← Bool.not_eq_true, ← gridP_iff]
  exact h
/-- What gridOf gives. -/
def GridRes (R C : Int) (l : List Cl) (x : Bool) (z : Ending) (w' : World) : Prop :=
  (x = false ∧ z = .returned (.tuple #[.agg (gridA 0 0 0 (fun _ => 0) (fun _ => sl0)), .bool false])) ∨
  (x = true ∧ ∃ t : Nat → Sl, z = .returned (.tuple #[.agg (gridA R C l.length (numF l l.length) t), .bool true]) ∧ ∀ i, i < l.length → Txt w' (t (i + 1)).1 (t (i + 1)).2.1 (t (i + 1)).2.2 (l.getD i cl0).2.2.2.2)

set_option maxRecDepth 100000 in
set_option maxHeartbeats 4000000 in
theorem gridOf_is {R C : Int} {a : Option Addr} {n cap : Nat} {l : List Cl} {w : World} {x : Bool} (hx : okB R C l = x) (h : Tab w a n cap l) :
    Calls Try.prog 32 #[.agg #[.int .i64 R, .int .i64 C, .slice a n cap]] w fun z w' => GridRes R C l x z w' ∧ Below w.heap.size w w' := by
  have HX : Hid (okB R C l = x) := hx
  have H : Hid (Tab w a n cap l) := h
  obtain ⟨rfl, hc, hm, hl⟩ := h
  clear hx hl
  unfold maxLen at hm
  go_enter Try.func32, Try.ntmps32
  go_upto_region 1 with fail
  rw [← grid_zero]
  have B0 : Below w.heap.size w ((w.alloc (.cells #[.int .i64 R, .int .i64 C, .slice a l.length cap] 28)).alloc (.cells (gridA 0 0 0 (fun _ => 0) (fun _ => sl0)) 51)) := (((Below.refl _ _).alloc (Nat.le_refl _) _).alloc (by simp) _)
  have G1 : GridAt ((w.alloc (.cells #[.int .i64 R, .int .i64 C, .slice a l.length cap] 28)).alloc (.cells (gridA 0 0 0 (fun _ => 0) (fun _ => sl0)) 51)) (w.heap.size + 1) 0 0 0 (fun _ => 0) (fun _ => sl0) := by
    have := gridAt_new (w.alloc (.cells #[.int .i64 R, .int .i64 C, .slice a l.length cap] 28)) 0 0 0 (fun _ => 0) (fun _ => sl0)
    simpa using this
  have G2 : RowAt ((w.alloc (.cells #[.int .i64 R, .int .i64 C, .slice a l.length cap] 28)).alloc (.cells (gridA 0 0 0 (fun _ => 0) (fun _ => sl0)) 51)) w.heap.size #[.int .i64 R, .int .i64 C, .slice a l.length cap] 28 := (rowAt_new w _ _).alloc _
  generalize ((w.alloc (.cells #[.int .i64 R, .int .i64 C, .slice a l.length cap] 28)).alloc (.cells (gridA 0 0 0 (fun _ => 0) (fun _ => sl0)) 51)) = v0 at B0 G1 G2 ⊢
  have k0 : v0.cell? ⟨w.heap.size, 0, none⟩ = some (.int .i64 R) := G2.cell 0
  have k1 : v0.cell? ⟨w.heap.size, 1, none⟩ = some (.int .i64 C) := G2.cell 1
  have k2 : v0.cell? ⟨w.heap.size, 2, none⟩ = some (.slice a l.length cap) := G2.cell 2
  have HZ : Hid (GridAt v0 (w.heap.size + 1) 0 0 0 (fun _ => 0) (fun _ => sl0)) := G1
  clear G1
  cases s0 : sizeB R
  · have S0 : Hid (sizeB R = false) := s0
    clear s0
    go_upto_region 2 with (go_at_call 33; refine (sizeOk_is S0.out _).mono ?_; rintro e w1 ⟨rfl, hw1⟩; subst w1)
    go_wp2_with (first | (refine wpList_grid0 rfl rfl ?_) | (refine wpList_store_row rfl 51 (.tmp 2) (.tmp 18) rfl (w.heap.size + 1) (gridA 0 0 0 (fun _ => 0) (fun _ => sl0)) rfl rfl 51 _ HZ.out (grid_infoA _ _ _ _ _) (by rw [gridA_size]) (gridA_one _ _ _ _ _) ?_))
    refine bodyPost_ret (v := .tuple #[.agg (gridA 0 0 0 (fun _ => 0) (fun _ => sl0)), .bool false]) ?_ rfl ⟨.inl ⟨?_, rfl⟩, ?_⟩
    · rw [results_cell_tmp rfl]
      simp [asAddr, Result.andThen, run_gridOf (RowAt.setRow HZ.out (gridA 0 0 0 (fun _ => 0) (fun _ => sl0)))]
    · rw [← HX.out]
      exact okB_no (fun hp => by have := S0.out; simp [sizeB] at this; have := hp.1; omega)
    · exact below_row B0 (by omega) _
  cases s1 : sizeB C
  · have S0 : Hid (sizeB R = true) := s0
    have S1 : Hid (sizeB C = false) := s1
    clear s0 s1
    go_upto_region 2 with (first | (go_at_call_of 33 (Value.int IntKind.i64 R); refine (sizeOk_is S0.out _).mono ?_; rintro e w1 ⟨rfl, hw1⟩; subst w1) | (go_at_call_of 33 (Value.int IntKind.i64 C); refine (sizeOk_is S1.out _).mono ?_; rintro e w1 ⟨rfl, hw1⟩; subst w1))
    go_wp2_with (first | (refine wpList_grid0 rfl rfl ?_) | (refine wpList_store_row rfl 51 (.tmp 2) (.tmp 18) rfl (w.heap.size + 1) (gridA 0 0 0 (fun _ => 0) (fun _ => sl0)) rfl rfl 51 _ HZ.out (grid_infoA _ _ _ _ _) (by rw [gridA_size]) (gridA_one _ _ _ _ _) ?_))
    refine bodyPost_ret (v := .tuple #[.agg (gridA 0 0 0 (fun _ => 0) (fun _ => sl0)), .bool false]) ?_ rfl ⟨.inl ⟨?_, rfl⟩, ?_⟩
    · rw [results_cell_tmp rfl]
      simp [asAddr, Result.andThen, run_gridOf (RowAt.setRow HZ.out (gridA 0 0 0 (fun _ => 0) (fun _ => sl0)))]
    · rw [← HX.out]
      exact okB_no (fun hp => by have := S1.out; simp [sizeB] at this; have := hp.2.1; omega)
    · exact below_row B0 (by omega) _
  have hR : 1 ≤ R ∧ R ≤ 5 := of_decide_eq_true s0
  have hC : 1 ≤ C ∧ C ≤ 5 := of_decide_eq_true s1
  have S0 : Hid (sizeB R = true) := s0
  have S1 : Hid (sizeB C = true) := s1
  clear s0 s1
  obtain ⟨R, rfl⟩ : ∃ R' : Nat, R = R' := ⟨R.toNat, by omega⟩
  obtain ⟨C, rfl⟩ : ∃ C' : Nat, C = C' := ⟨C.toNat, by omega⟩
  go_upto_region 3 with (first | (go_at_call_of 33 (Value.int IntKind.i64 R); refine (sizeOk_is S0.out _).mono ?_; rintro e w1 ⟨rfl, hw1⟩; subst w1) | (go_at_call_of 33 (Value.int IntKind.i64 C); refine (sizeOk_is S1.out _).mono ?_; rintro e w1 ⟨rfl, hw1⟩; subst w1))
  clear S0 S1
  go_upto_region 4 with (first | (refine wpList_grid2 rfl (.tmp 20) (.tmp 22) rfl R C rfl rfl ?_) | (rw [← grid_zero]; refine wpList_store_row rfl 51 (.tmp 4) (.tmp 23) rfl v0.heap.size (gridA R C 0 (fun _ => 0) (fun _ => sl0)) rfl rfl 51 _ (gridAt_new _ _ _ _ _ _) (grid_infoA _ _ _ _ _) (by rw [gridA_size, gridA_size]) (gridA_one _ _ _ _ _) ?_))
  have G4 : GridAt ((v0.alloc (.cells (gridA 0 0 0 (fun _ => 0) (fun _ => sl0)) 51)).setRow v0.heap.size (gridA R C 0 (fun _ => 0) (fun _ => sl0))) v0.heap.size R C 0 (fun _ => 0) (fun _ => sl0) := RowAt.setRow (gridAt_new _ _ _ _ _ _) _
  have B4 : Below v0.heap.size v0 ((v0.alloc (.cells (gridA 0 0 0 (fun _ => 0) (fun _ => sl0)) 51)).setRow v0.heap.size (gridA R C 0 (fun _ => 0) (fun _ => sl0))) := below_row ((Below.refl _ _).alloc (Nat.le_refl _) _) (Nat.le_refl _) _
  generalize ((v0.alloc (.cells (gridA 0 0 0 (fun _ => 0) (fun _ => sl0)) 51)).setRow v0.heap.size (gridA R C 0 (fun _ => 0) (fun _ => sl0))) = v1 at G4 B4 ⊢
  have bt : w.heap.size < v0.heap.size := G2.lt
  have bz : w.heap.size + 1 < v0.heap.size := HZ.out.lt
  have j2 := (B4.cell (p := ⟨w.heap.size, 2, none⟩) bt).trans k2
  clear k0 k1 k2 G2
  go_wp2_with fail
  go_loopw [27] (fun i wr => ∃ (k : Nat) (t : Nat → Sl), k ≤ l.length ∧ i = .int .i64 k ∧ (∀ j, j < k → stepB R C l j = true) ∧ GridAt wr v0.heap.size R C k (numF l k) t ∧ (∀ j, j < k → Txt w (t (j + 1)).1 (t (j + 1)).2.1 (t (j + 1)).2.2 (l.getD j cl0).2.2.2.2) ∧ Below v0.heap.size v0 wr) (fun i _ => l.length - (intOf i).toNat)
  case atStart => exact ⟨0, _, Nat.zero_le _, rfl, fun j hj => by omega, G4, fun j hj => by omega, B4⟩
  case round =>
    clear G4 B4 j2
    obtain ⟨k, t, hk, rfl, hst, hg, htx, hb⟩ := hrel
    have HS : Hid (∀ j, j < k → stepB R C l j = true) := hst
    have HT : Hid (∀ j, j < k → Txt w (t (j + 1)).1 (t (j + 1)).2.1 (t (j + 1)).2.2 (l.getD j cl0).2.2.2.2) := htx
    have HG : Hid (GridAt wr v0.heap.size R C k (numF l k) t) := hg
    have HZr : Hid (GridAt wr (w.heap.size + 1) 0 0 0 (fun _ => 0) (fun _ => sl0)) := HZ.out.below hb bz
    have HB : Hid (Below v0.heap.size v0 wr) := hb
    have HW : Hid (Below w.heap.size w wr) := B0.trans (hb.mono B0.size)
    have hk25 := step_le hR.2 hC.2 hst
    have szr : v0.heap.size < wr.heap.size := hg.lt
    have gr := hg.rows
    have gc := hg.cols
    clear hst htx hg hb
    by_cases hlt : k < l.length
    · rcases H.out.2.2.2 with e | ⟨b, off, rfl, hbw, hl⟩
      · rw [e] at hlt
        exact absurd hlt (by simp)
      obtain ⟨c0, c1, c2, c3, ta, tn, tc, c4, ht⟩ := (hl k hlt)
      have HTX : Hid (Txt w ta tn tc (l.getD k cl0).2.2.2.2) := ht
      obtain ⟨c0, c1, c2, c3, -⟩ : CellAt wr b (off + k * 5) (l.getD k cl0) := (hl k hlt).below HW.out hbw
      have c4 := (HW.out.cell (p := ⟨b, _, none⟩) hbw).trans c4
      clear ht hl
      obtain ⟨⟨r, c, d, g, tx⟩, hx⟩ : ∃ x, x = l.getD k cl0 := ⟨_, rfl⟩
      rw [← hx] at c0 c1 c2 c3 HTX
      simp only at c0 c1 c2 c3 HTX
      have HXX : Hid ((r, c, d, g, tx) = l.getD k cl0) := hx
      clear hx
      go_upto_region 8 with (go_at_call 51; refine (rectOf_any _ _ _ _ _ _ _ _).mono ?_; rintro e w1 ⟨rfl, hb1⟩)
      have bA : Below wr.heap.size wr (wr.alloc (Obj.cells #[.int .i64 r, .int .i64 c, .int .i64 d, .int .i64 g, .slice ta tn tc] 44)) := (Below.refl _ _).alloc (Nat.le_refl _) _
      have sA : wr.heap.size < w1.heap.size := by have := hb1.size; simp at this; omega
      have b3 : Below wr.heap.size wr (w1.alloc (.cells #[.int .i64 r, .int .i64 c, .int .i64 d, .int .i64 g] 63)) := (bA.trans (hb1.mono (by simp))).alloc (Nat.le_of_lt sA) _
      have C3 : RowAt (w1.alloc (.cells #[.int .i64 r, .int .i64 c, .int .i64 d, .int .i64 g] 63)) wr.heap.size #[.int .i64 r, .int .i64 c, .int .i64 d, .int .i64 g, .slice ta tn tc] 44 := ((rowAt_new wr _ _).below hb1 (by simp)).alloc _
      have Q3 : RectAt (w1.alloc (.cells #[.int .i64 r, .int .i64 c, .int .i64 d, .int .i64 g] 63)) w1.heap.size r c d g := rowAt_new _ _ _
      generalize (w1.alloc (.cells #[.int .i64 r, .int .i64 c, .int .i64 d, .int .i64 g] 63)) = w3 at b3 C3 Q3 ⊢
      have gr := (HG.out.below b3 szr).rows
      have gc := (HG.out.below b3 szr).cols
      have e0 := Q3.c0
      have e1 := Q3.c1
      have e2 := Q3.c2
      have e3 := Q3.c3
      have e4 : w3.cell? ⟨wr.heap.size, 4, none⟩ = some (.slice ta tn tc) := C3.cell 4
      have HG3 : Hid (GridAt w3 v0.heap.size R C k (numF l k) t) := HG.out.below b3 szr
      have HZ3 : Hid (GridAt w3 (w.heap.size + 1) 0 0 0 (fun _ => 0) (fun _ => sl0)) := HZr.out.below b3 (by omega)
      have HQ3 : Hid (RectAt w3 w1.heap.size r c d g) := Q3
      have HC3 : Hid (RowAt w3 wr.heap.size #[.int .i64 r, .int .i64 c, .int .i64 d, .int .i64 g, .slice ta tn tc] 44) := C3
      have HB3 : Hid (Below v0.heap.size v0 w3) := HB.out.trans (b3.mono (by omega))
      have HW3 : Hid (Below w.heap.size w w3) := HW.out.trans (b3.mono (by omega))
      have s3 := b3.size
      have s4 := RowAt.lt Q3
      have s5 := B0.size
      clear HG HZr HB HW b3 C3 Q3 bA hb1 c0 c1 c2 c3 c4
      cases q0 : withB r c d g R C
      · have Q0 : Hid (withB r c d g R C = false) := q0
        clear q0
        go_upto_region 9 with (first | (go_at_call 45; refine (within_is Q0.out hR hC _).mono ?_; rintro e w4 ⟨rfl, hb4⟩))
        go_wp2_with (first | (refine wpList_grid0 rfl rfl ?_) | (refine wpList_store_row rfl 51 (.tmp 2) (.tmp 52) rfl (w.heap.size + 1) (gridA 0 0 0 (fun _ => 0) (fun _ => sl0)) rfl rfl 51 _ (HZ3.out.below hb4 (by omega)) (grid_infoA _ _ _ _ _) (by rw [gridA_size]) (gridA_one _ _ _ _ _) ?_))
        refine bodyPost_ret (v := .tuple #[.agg (gridA 0 0 0 (fun _ => 0) (fun _ => sl0)), .bool false]) ?_ rfl ⟨.inl ⟨?_, rfl⟩, ?_⟩
        · rw [results_cell_tmp rfl]
          simp [asAddr, Result.andThen, run_gridOf (RowAt.setRow (HZ3.out.below hb4 (by omega)) (gridA 0 0 0 (fun _ => 0) (fun _ => sl0)))]
        · rw [← HX.out]
          exact okB_no (fun hp => by have := hp.2.2.1 k hlt; rw [stepB_0 HXX.out Q0.out] at this; exact absurd this (by simp))
        · exact below_row (HW3.out.trans (hb4.mono (by omega))) (by omega) _
      obtain ⟨wz, wz2, wz3⟩ := wiB_of (x := (r, c, d, g, tx)) q0
      simp only at wz wz2 wz3
      obtain ⟨r, rfl⟩ : ∃ r' : Nat, r = r' := ⟨r.toNat, by omega⟩
      obtain ⟨c, rfl⟩ : ∃ r' : Nat, c = r' := ⟨c.toNat, by omega⟩
      obtain ⟨d, rfl⟩ : ∃ r' : Nat, d = r' := ⟨d.toNat, by omega⟩
      obtain ⟨g, rfl⟩ : ∃ r' : Nat, g = r' := ⟨g.toNat, by omega⟩
      have hrd : r + d ≤ R := by omega
      have hcg : c + g ≤ C := by omega
      have hR5 : R ≤ 5 := by omega
      have hC5 : C ≤ 5 := by omega
      have hd0 : 0 < d := by omega
      have hg0 : 0 < g := by omega
      have Q0 : Hid (withB r c d g R C = true) := q0
      have HF : Hid (∀ s, numF l k s ≤ 25) := fun s => Nat.le_trans (numF_le l k s) hk25
      clear q0 wz wz2 wz3
      cases q1 : freeB (numF l k) r c d g
      · have Q1 : Hid (freeB (numF l k) r c d g = false) := q1
        clear q1
        go_upto_region 9 with (first | (go_at_call 45; refine (within_is Q0.out hR hC _).mono ?_; rintro e w4 ⟨rfl, hb4⟩; have GG : GridAt w4 v0.heap.size R C k (numF l k) t := HG3.out.below hb4 (by omega); have QQ : RectAt w4 w1.heap.size r c d g := RowAt.below HQ3.out hb4 s4; have f0 := QQ.c0; have f1 := QQ.c1; have f2 := QQ.c2; have f3 := QQ.c3; have b4 : Hid (Below w3.heap.size w3 w4) := hb4; clear QQ) | (refine wpList_load_rowG (by rfl) 51 (.tmp 4) rfl v0.heap.size rfl 51 (gridA R C k (numF l k) t) (0, 0) _ GG Try.underlying51 rfl (grid_infoA _ _ _ _ _) ?_) | (go_at_call 55; refine (isFree_is Q1.out hR5 hC5 hrd hcg hd0 hg0 HF.out).mono ?_; rintro e w5 ⟨rfl, hb5⟩; have b5 : Hid (Below w3.heap.size w3 w5) := b4.out.trans (hb5.mono b4.out.size); have f4 : w5.cell? ⟨wr.heap.size, 4, none⟩ = some (.slice ta tn tc) := (RowAt.below HC3.out b5.out (by omega)).cell 4))
        clear GG f0 f1 f2 f3 f4
        go_wp2_with (first | (refine wpList_grid0 rfl rfl ?_) | (refine wpList_store_row rfl 51 (.tmp 2) (.tmp 52) rfl (w.heap.size + 1) (gridA 0 0 0 (fun _ => 0) (fun _ => sl0)) rfl rfl 51 _ (HZ3.out.below b5.out (by omega)) (grid_infoA _ _ _ _ _) (by rw [gridA_size]) (gridA_one _ _ _ _ _) ?_))
        refine bodyPost_ret (v := .tuple #[.agg (gridA 0 0 0 (fun _ => 0) (fun _ => sl0)), .bool false]) ?_ rfl ⟨.inl ⟨?_, rfl⟩, ?_⟩
        · rw [results_cell_tmp rfl]
          simp [asAddr, Result.andThen, run_gridOf (RowAt.setRow (HZ3.out.below b5.out (by omega)) (gridA 0 0 0 (fun _ => 0) (fun _ => sl0)))]
        · rw [← HX.out]
          exact okB_no (fun hp => by have := hp.2.2.1 k hlt; rw [stepB_1 HXX.out Q1.out] at this; exact absurd this (by simp))
        · exact below_row (HW3.out.trans (b5.out.mono (by omega))) (by omega) _
      have Q1 : Hid (freeB (numF l k) r c d g = true) := q1
      clear q1
      cases q2 : textB tx
      · have Q2 : Hid (textB tx = false) := q2
        clear q2
        go_upto_region 9 with (first | (go_at_call 45; refine (within_is Q0.out hR hC _).mono ?_; rintro e w4 ⟨rfl, hb4⟩; have GG : GridAt w4 v0.heap.size R C k (numF l k) t := HG3.out.below hb4 (by omega); have QQ : RectAt w4 w1.heap.size r c d g := RowAt.below HQ3.out hb4 s4; have f0 := QQ.c0; have f1 := QQ.c1; have f2 := QQ.c2; have f3 := QQ.c3; have b4 : Hid (Below w3.heap.size w3 w4) := hb4; clear QQ) | (refine wpList_load_rowG (by rfl) 51 (.tmp 4) rfl v0.heap.size rfl 51 (gridA R C k (numF l k) t) (0, 0) _ GG Try.underlying51 rfl (grid_infoA _ _ _ _ _) ?_) | (go_at_call 55; refine (isFree_is Q1.out hR5 hC5 hrd hcg hd0 hg0 HF.out).mono ?_; rintro e w5 ⟨rfl, hb5⟩; have b5 : Hid (Below w3.heap.size w3 w5) := b4.out.trans (hb5.mono b4.out.size); have f4 : w5.cell? ⟨wr.heap.size, 4, none⟩ = some (.slice ta tn tc) := (RowAt.below HC3.out b5.out (by omega)).cell 4) | (go_at_call 49; refine (implTextOk_is ((HTX.out.below HW3.out).below (b5.out.mono (by omega))) Q2.out).mono ?_; rintro e w6 ⟨rfl, hb6⟩; have b6 : Hid (Below w3.heap.size w3 w6) := b5.out.trans (hb6.mono b5.out.size)))
        clear GG f0 f1 f2 f3 f4
        go_wp2_with (first | (refine wpList_grid0 rfl rfl ?_) | (refine wpList_store_row rfl 51 (.tmp 2) (.tmp 52) rfl (w.heap.size + 1) (gridA 0 0 0 (fun _ => 0) (fun _ => sl0)) rfl rfl 51 _ (HZ3.out.below b6.out (by omega)) (grid_infoA _ _ _ _ _) (by rw [gridA_size]) (gridA_one _ _ _ _ _) ?_))
        refine bodyPost_ret (v := .tuple #[.agg (gridA 0 0 0 (fun _ => 0) (fun _ => sl0)), .bool false]) ?_ rfl ⟨.inl ⟨?_, rfl⟩, ?_⟩
        · rw [results_cell_tmp rfl]
          simp [asAddr, Result.andThen, run_gridOf (RowAt.setRow (HZ3.out.below b6.out (by omega)) (gridA 0 0 0 (fun _ => 0) (fun _ => sl0)))]
        · rw [← HX.out]
          exact okB_no (fun hp => by have := hp.2.2.1 k hlt; rw [stepB_2 HXX.out Q2.out] at this; exact absurd this (by simp))
        · exact below_row (HW3.out.trans (b6.out.mono (by omega))) (by omega) _
      have Q2 : Hid (textB tx = true) := q2
      clear q2
      go_upto_region 10 with (first | (go_at_call 45; refine (within_is Q0.out hR hC _).mono ?_; rintro e w4 ⟨rfl, hb4⟩; have GG : GridAt w4 v0.heap.size R C k (numF l k) t := HG3.out.below hb4 (by omega); have QQ : RectAt w4 w1.heap.size r c d g := RowAt.below HQ3.out hb4 s4; have f0 := QQ.c0; have f1 := QQ.c1; have f2 := QQ.c2; have f3 := QQ.c3; have b4 : Hid (Below w3.heap.size w3 w4) := hb4; clear QQ) | (refine wpList_load_rowG (by rfl) 51 (.tmp 4) rfl v0.heap.size rfl 51 (gridA R C k (numF l k) t) (0, 0) _ GG Try.underlying51 rfl (grid_infoA _ _ _ _ _) ?_) | (go_at_call 55; refine (isFree_is Q1.out hR5 hC5 hrd hcg hd0 hg0 HF.out).mono ?_; rintro e w5 ⟨rfl, hb5⟩; have b5 : Hid (Below w3.heap.size w3 w5) := b4.out.trans (hb5.mono b4.out.size); have f4 : w5.cell? ⟨wr.heap.size, 4, none⟩ = some (.slice ta tn tc) := (RowAt.below HC3.out b5.out (by omega)).cell 4) | (go_at_call 49; refine (implTextOk_is ((HTX.out.below HW3.out).below (b5.out.mono (by omega))) Q2.out).mono ?_; rintro e w6 ⟨rfl, hb6⟩; have b6 : Hid (Below w3.heap.size w3 w6) := b5.out.trans (hb6.mono b5.out.size)))
      clear GG f0 f1 f2 f3 f4
      have GG : Hid (GridAt w6 v0.heap.size R C k (numF l k) t) := HG3.out.below b6.out (by omega)
      have QQ : RectAt w6 w1.heap.size r c d g := RowAt.below HQ3.out b6.out s4
      have f0 := QQ.c0
      have f1 := QQ.c1
      have f2 := QQ.c2
      have f3 := QQ.c3
      have f4 : w6.cell? ⟨wr.heap.size, 4, none⟩ = some (.slice ta tn tc) := (RowAt.below HC3.out b6.out (by omega)).cell 4
      have s6 := b6.out.size
      have hk1 : k < 25 := by
        have := step_le (l := l) (K := k + 1) hR.2 hC.2 (fun j hj => by
          by_cases hjk : j = k
          · subst hjk
            exact stepB_mk HXX.out Q0.out Q1.out Q2.out
          · exact HS.out j (by omega))
        omega
      clear QQ
      go_wp2_with (first | (refine wpList_load_row rfl 51 (.tmp 4) rfl v0.heap.size rfl 51 (gridA R C k (numF l k) t) (0, 0) _ GG.out Try.underlying51 rfl (grid_infoA _ _ _ _ _) ?_) | (go_at_call 56; refine (lay_any R C k (numF l k) t r c d g (ta, tn, tc) _ (by omega) (by omega) hk1).mono ?_; rintro e w7 ⟨rfl, hb7⟩) | (refine wpList_store_row rfl 51 (.tmp 4) (.tmp 57) rfl v0.heap.size (gridA R C (k + 1) (giveF (numF l k) r c d g (k + 1)) (updS t (k + 1) (ta, tn, tc))) rfl rfl 51 _ (GG.out.below hb7 (by omega)) (grid_infoA _ _ _ _ _) (by rw [gridA_size, gridA_size]) (gridA_one _ _ _ _ _) ?_))
      go_roundw
      case rel =>
        refine ⟨k + 1, updS t (k + 1) (ta, tn, tc), by omega, by go_num, ?_, ?_, ?_, ?_⟩
        · intro j hj
          by_cases hjk : j = k
          · subst hjk
            exact stepB_mk HXX.out Q0.out Q1.out Q2.out
          · exact HS.out j (by omega)
        · have e : numF l (k + 1) = giveF (numF l k) r c d g (k + 1) := by
            simp only [numF, ← HXX.out, Int.toNat_natCast]
          rw [e]
          exact RowAt.setRow (GG.out.below hb7 (by omega)) _
        · intro j hj
          by_cases hjk : j = k
          · subst hjk
            rw [← HXX.out]
            simp only [updS, if_pos]
            exact HTX.out
          · simp only [updS, show ¬ j + 1 = k + 1 from by omega, if_false]
            exact HT.out j (by omega)
        · exact below_row ((HB3.out.trans (b6.out.mono (by omega))).trans (hb7.mono (by omega))) (Nat.le_refl _) _
      case measure => simp [intOf]; omega
    · have hkl : k = l.length := by omega
      subst hkl
      have HF : Hid (∀ s, numF l l.length s ≤ 25) := fun s => Nat.le_trans (numF_le l l.length s) hk25
      have HX2 : Hid (x = true ↔ Tiles R C (numF l l.length)) := by
        show x = true ↔ _
        rw [← HX.out, ← gridP_iff]
        constructor
        · intro hp
          have := hp.2.2.2
          simpa using this
        · intro hp
          exact ⟨hR, hC, HS.out, by simpa using hp⟩
      have hR5 : R ≤ 5 := by omega
      have hC5 : C ≤ 5 := by omega
      have s5 := B0.size
      cases x
      · go_upto_region 13 with (first | (refine wpList_load_row rfl 51 (.tmp 4) rfl v0.heap.size rfl 51 (gridA R C l.length (numF l l.length) t) (0, 0) _ HG.out Try.underlying51 rfl (grid_infoA _ _ _ _ _) ?_) | (go_at_call 57; refine (isTiled_is HX2.out hR5 hC5 HF.out).mono ?_; rintro e w4 ⟨rfl, hb4⟩))
        go_wp2_with (first | (refine wpList_grid0 rfl rfl ?_) | (refine wpList_store_row rfl 51 (.tmp 2) (.tmp 62) rfl (w.heap.size + 1) (gridA 0 0 0 (fun _ => 0) (fun _ => sl0)) rfl rfl 51 _ (HZr.out.below hb4 (by omega)) (grid_infoA _ _ _ _ _) (by rw [gridA_size]) (gridA_one _ _ _ _ _) ?_))
        refine bodyPost_ret (v := .tuple #[.agg (gridA 0 0 0 (fun _ => 0) (fun _ => sl0)), .bool false]) ?_ rfl ⟨.inl ⟨rfl, rfl⟩, ?_⟩
        · rw [results_cell_tmp rfl]
          simp [asAddr, Result.andThen, run_gridOf (RowAt.setRow (HZr.out.below hb4 (by omega)) (gridA 0 0 0 (fun _ => 0) (fun _ => sl0)))]
        · exact below_row (HW.out.trans (hb4.mono (by omega))) (by omega) _
      · go_upto_region 14 with (first | (refine wpList_load_row rfl 51 (.tmp 4) rfl v0.heap.size rfl 51 (gridA R C l.length (numF l l.length) t) (0, 0) _ HG.out Try.underlying51 rfl (grid_infoA _ _ _ _ _) ?_) | (go_at_call 57; refine (isTiled_is HX2.out hR5 hC5 HF.out).mono ?_; rintro e w4 ⟨rfl, hb4⟩))
        go_wp2_with (first | (refine wpList_load_row rfl 51 (.tmp 4) rfl v0.heap.size rfl 51 (gridA R C l.length (numF l l.length) t) (0, 0) _ (HG.out.below hb4 szr) Try.underlying51 rfl (grid_infoA _ _ _ _ _) ?_) | (refine wpList_store_row rfl 51 (.tmp 2) (.tmp 63) rfl (w.heap.size + 1) (gridA R C l.length (numF l l.length) t) rfl rfl 51 _ (HZr.out.below hb4 (by omega)) (grid_infoA _ _ _ _ _) (by rw [gridA_size, gridA_size]) (gridA_one _ _ _ _ _) ?_))
        have bF : Below w.heap.size w (w4.setRow (w.heap.size + 1) (gridA R C l.length (numF l l.length) t)) := below_row (HW.out.trans (hb4.mono (by omega))) (by omega) _
        refine bodyPost_ret (v := .tuple #[.agg (gridA R C l.length (numF l l.length) t), .bool true]) ?_ rfl ⟨.inr ⟨rfl, t, rfl, fun i hi => (HT.out i hi).below bF⟩, bF⟩
        · rw [results_cell_tmp rfl]
          simp [asAddr, Result.andThen, run_gridOf (RowAt.setRow (HZr.out.below hb4 (by omega)) (gridA R C l.length (numF l l.length) t))]
end Go.Proofs.Yteghidjbcpmfbaa
