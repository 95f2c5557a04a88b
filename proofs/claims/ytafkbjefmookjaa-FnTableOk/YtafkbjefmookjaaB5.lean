import Derived.Test.YtafkbjefmookjaaB2
import Derived.Test.YtafkbjefmookjaaB1
import Derived.Laws.ResultCell
import Derived.Deep.RegionHeld3
import Derived.Deep.AppendLies
import Derived.Test.YtafkbjefmookjaaB3
import Derived.Deep.MidRow
import Derived.Test.YtafkbjefmookjaaB4
namespace Go.Proofs.Ytafkbjefmookjaa
open Go.RowKit

theorem built_0 : Try.prog.built 50 [] = some (gridA 0 0 0 (fun _ => 0) (fun _ => sl0)) := by kernel_rfl
set_option maxRecDepth 100000 in
theorem built_2 (R C : Int) : Try.prog.built 50 [(0, .int .i64 R), (1, .int .i64 C)] = some (gridA R C 0 (fun _ => 0) (fun _ => sl0)) := by rfl
theorem wpList_grid0 {ops : Array Oper} {rest : List Oper} {o : Oper} {a : Act} {w : World} {Q : Exit → Act → World → Prop} (hg : o.guard = none) (ho : o.op = .build 50 #[])
    (h : wpList Try.prog ops Q rest (a.put o.dst (.agg (gridA 0 0 0 (fun _ => 0) (fun _ => sl0)))) w) : wpList Try.prog ops Q (o :: rest) a w := by
  have e : ((#[] : Array (Nat × Operand)).map fun (i, x) => (i, a.eval x)).toList = [] := by simp
  exact wpList_build hg 50 _ ho (by rw [e, built_0]; rfl) (by rw [e, built_0]; exact h)
theorem wpList_grid2 {ops : Array Oper} {rest : List Oper} {o : Oper} {a : Act} {w : World} {Q : Exit → Act → World → Prop} (hg : o.guard = none) (x y : Operand) (ho : o.op = .build 50 #[(0, x), (1, y)]) (R C : Int) (hx : a.eval x = .int .i64 R) (hy : a.eval y = .int .i64 C)
    (h : wpList Try.prog ops Q rest (a.put o.dst (.agg (gridA R C 0 (fun _ => 0) (fun _ => sl0)))) w) : wpList Try.prog ops Q (o :: rest) a w := by
  have e : ((#[(0, x), (1, y)] : Array (Nat × Operand)).map fun (i, x) => (i, a.eval x)).toList = [(0, .int .i64 R), (1, .int .i64 C)] := by simp [hx, hy]
  exact wpList_build hg 50 _ ho (by rw [e, built_2]; rfl) (by rw [e, built_2]; exact h)
theorem run_gridOf {w : World} {g : Nat} {R C : Int} {n : Nat} {f : Nat → Nat} {t : Nat → Sl} (h : GridAt w g R C n f t) : (loadVar 50 ⟨g, 0, none⟩).run Try.prog w = .ok (.agg (gridA R C n f t)) w :=
  run_loadVar_row w g 50 50 (gridA R C n f t) (0, 0) _ h Try.underlying50 rfl (grid_infoA _ _ _ _ _)
theorem implTextOk_isG {a : Option Addr} {n cap : Nat} {l : List Sg} {w : World} {x : Bool} (h : Txt w a n cap l) (hx : textB l = x) :
    Calls Try.prog 36 #[.slice a n cap] w fun e w' => e = .returned (.bool x) ∧ Below w.heap.size w w' := hx ▸ implTextOk_any a n cap l w h

theorem okB_no {R C : Int} {l : List Cl} (h : ¬ gridP R C l) : okB R C l = false := by
  rw [← Bool.not_eq_true, ← gridP_iff]
  exact h
/-- What gridOf gives. -/
def GridRes (R C : Int) (l : List Cl) (x : Bool) (z : Ending) (w' : World) : Prop :=
  (x = false ∧ z = .returned (.tuple #[.agg (gridA 0 0 0 (fun _ => 0) (fun _ => sl0)), .bool false])) ∨
  (x = true ∧ ∃ t : Nat → Sl, z = .returned (.tuple #[.agg (gridA R C l.length (numF l l.length) t), .bool true]) ∧ ∀ i, i < l.length → Txt w' (t (i + 1)).1 (t (i + 1)).2.1 (t (i + 1)).2.2 (l.getD i cl0).2.2.2.2)

set_option maxRecDepth 100000 in
set_option maxHeartbeats 4000000 in
theorem gridOf_is {R C : Int} {a : Option Addr} {n cap : Nat} {l : List Cl} {w : World} {x : Bool} (hx : okB R C l = x) (h : Tab w a n cap l) :
    Calls Try.prog 24 #[.agg #[.int .i64 R, .int .i64 C, .slice a n cap]] w fun z w' => GridRes R C l x z w' ∧ Below w.heap.size w w' := by
  have HX : Hid (okB R C l = x) := hx
  have H : Hid (Tab w a n cap l) := h
  obtain ⟨rfl, hc, hm, hl⟩ := h
  clear hx hl
  unfold maxLen at hm
  go_enter Try.func24, Try.ntmps24
  go_upto_region 1 with fail
  rw [← grid_zero]
  have B0 : Below w.heap.size w ((w.alloc (.cells #[.int .i64 R, .int .i64 C, .slice a l.length cap] 25)).alloc (.cells (gridA 0 0 0 (fun _ => 0) (fun _ => sl0)) 50)) := (((Below.refl _ _).alloc (Nat.le_refl _) _).alloc (by simp) _)
  have G1 : GridAt ((w.alloc (.cells #[.int .i64 R, .int .i64 C, .slice a l.length cap] 25)).alloc (.cells (gridA 0 0 0 (fun _ => 0) (fun _ => sl0)) 50)) (w.heap.size + 1) 0 0 0 (fun _ => 0) (fun _ => sl0) := by
    have := gridAt_new (w.alloc (.cells #[.int .i64 R, .int .i64 C, .slice a l.length cap] 25)) 0 0 0 (fun _ => 0) (fun _ => sl0)
    simpa using this
  have G2 : RowAt ((w.alloc (.cells #[.int .i64 R, .int .i64 C, .slice a l.length cap] 25)).alloc (.cells (gridA 0 0 0 (fun _ => 0) (fun _ => sl0)) 50)) w.heap.size #[.int .i64 R, .int .i64 C, .slice a l.length cap] 25 := (rowAt_new w _ _).alloc _
  generalize ((w.alloc (.cells #[.int .i64 R, .int .i64 C, .slice a l.length cap] 25)).alloc (.cells (gridA 0 0 0 (fun _ => 0) (fun _ => sl0)) 50)) = v0 at B0 G1 G2 ⊢
  have k0 : v0.cell? ⟨w.heap.size, 0, none⟩ = some (.int .i64 R) := G2.cell 0
  have k1 : v0.cell? ⟨w.heap.size, 1, none⟩ = some (.int .i64 C) := G2.cell 1
  have k2 : v0.cell? ⟨w.heap.size, 2, none⟩ = some (.slice a l.length cap) := G2.cell 2
  have HZ : Hid (GridAt v0 (w.heap.size + 1) 0 0 0 (fun _ => 0) (fun _ => sl0)) := G1
  clear G1
  cases s0 : sizeB R
  · have S0 : Hid (sizeB R = false) := s0
    clear s0
    go_upto_region 2 with (go_at_call 42; refine (sizeOk_is S0.out _).mono ?_; rintro e w1 ⟨rfl, hw1⟩; subst w1)
    go_wp2_with (first | (refine wpList_grid0 rfl rfl ?_) | (refine wpList_store_row rfl 50 (.tmp 2) (.tmp 18) rfl (w.heap.size + 1) (gridA 0 0 0 (fun _ => 0) (fun _ => sl0)) rfl rfl 50 _ HZ.out (grid_infoA _ _ _ _ _) (by rw [gridA_size]) (gridA_one _ _ _ _ _) ?_))
    refine bodyPost_ret (v := .tuple #[.agg (gridA 0 0 0 (fun _ => 0) (fun _ => sl0)), .bool false]) ?_ rfl ⟨.inl ⟨?_, rfl⟩, ?_⟩
    · rw [results_cell_tmp rfl]
      simp [asAddr, Result.andThen, run_gridOf (RowAt.setRow HZ.out (gridA 0 0 0 (fun _ => 0) (fun _ => sl0)))]
    · rw [← HX.out]
      exact okB_no (fun hp => by have := S0.out; simp [sizeB] at this; have := hp.1; omega)
    · exact below_row B0 (by omega) _
  cases s1 : sizeB C
  · have S0 : Hid (sizeB R = true) := s0
    have S1 : Hid (sizeB C = false) := s1
    clear s0 s1
    go_upto_region 2 with (first | (go_at_call_of 42 (Value.int IntKind.i64 R); refine (sizeOk_is S0.out _).mono ?_; rintro e w1 ⟨rfl, hw1⟩; subst w1) | (go_at_call_of 42 (Value.int IntKind.i64 C); refine (sizeOk_is S1.out _).mono ?_; rintro e w1 ⟨rfl, hw1⟩; subst w1))
    go_wp2_with (first | (refine wpList_grid0 rfl rfl ?_) | (refine wpList_store_row rfl 50 (.tmp 2) (.tmp 18) rfl (w.heap.size + 1) (gridA 0 0 0 (fun _ => 0) (fun _ => sl0)) rfl rfl 50 _ HZ.out (grid_infoA _ _ _ _ _) (by rw [gridA_size]) (gridA_one _ _ _ _ _) ?_))
    refine bodyPost_ret (v := .tuple #[.agg (gridA 0 0 0 (fun _ => 0) (fun _ => sl0)), .bool false]) ?_ rfl ⟨.inl ⟨?_, rfl⟩, ?_⟩
    · rw [results_cell_tmp rfl]
      simp [asAddr, Result.andThen, run_gridOf (RowAt.setRow HZ.out (gridA 0 0 0 (fun _ => 0) (fun _ => sl0)))]
    · rw [← HX.out]
      exact okB_no (fun hp => by have := S1.out; simp [sizeB] at this; have := hp.2.1; omega)
    · exact below_row B0 (by omega) _
  have hR : 1 ≤ R ∧ R ≤ 5 := of_decide_eq_true s0
  have hC : 1 ≤ C ∧ C ≤ 5 := of_decide_eq_true s1
  have S0 : Hid (sizeB R = true) := s0
  have S1 : Hid (sizeB C = true) := s1
  clear s0 s1
  obtain ⟨R, rfl⟩ : ∃ R' : Nat, R = R' := ⟨R.toNat, by omega⟩
  obtain ⟨C, rfl⟩ : ∃ C' : Nat, C = C' := ⟨C.toNat, by omega⟩
  go_upto_region 3 with (first | (go_at_call_of 42 (Value.int IntKind.i64 R); refine (sizeOk_is S0.out _).mono ?_; rintro e w1 ⟨rfl, hw1⟩; subst w1) | (go_at_call_of 42 (Value.int IntKind.i64 C); refine (sizeOk_is S1.out _).mono ?_; rintro e w1 ⟨rfl, hw1⟩; subst w1))
  clear S0 S1
  go_upto_region 4 with (first | (refine wpList_grid2 rfl (.tmp 20) (.tmp 22) rfl R C rfl rfl ?_) | (rw [← grid_zero]; refine wpList_store_row rfl 50 (.tmp 4) (.tmp 23) rfl v0.heap.size (gridA R C 0 (fun _ => 0) (fun _ => sl0)) rfl rfl 50 _ (gridAt_new _ _ _ _ _ _) (grid_infoA _ _ _ _ _) (by rw [gridA_size, gridA_size]) (gridA_one _ _ _ _ _) ?_))
  have G4 : GridAt ((v0.alloc (.cells (gridA 0 0 0 (fun _ => 0) (fun _ => sl0)) 50)).setRow v0.heap.size (gridA R C 0 (fun _ => 0) (fun _ => sl0))) v0.heap.size R C 0 (fun _ => 0) (fun _ => sl0) := RowAt.setRow (gridAt_new _ _ _ _ _ _) _
  have B4 : Below v0.heap.size v0 ((v0.alloc (.cells (gridA 0 0 0 (fun _ => 0) (fun _ => sl0)) 50)).setRow v0.heap.size (gridA R C 0 (fun _ => 0) (fun _ => sl0))) := below_row ((Below.refl _ _).alloc (Nat.le_refl _) _) (Nat.le_refl _) _
  generalize ((v0.alloc (.cells (gridA 0 0 0 (fun _ => 0) (fun _ => sl0)) 50)).setRow v0.heap.size (gridA R C 0 (fun _ => 0) (fun _ => sl0))) = v1 at G4 B4 ⊢
  have bt : w.heap.size < v0.heap.size := G2.lt
  have bz : w.heap.size + 1 < v0.heap.size := HZ.out.lt
  have j2 := (B4.cell (p := ⟨w.heap.size, 2, none⟩) bt).trans k2
  clear k0 k1 k2 G2
  go_wp2_with fail
  go_loopw [27] (fun i wr => ∃ (k : Nat) (t : Nat → Sl), k ≤ l.length ∧ i = .int .i64 k ∧ (∀ j, j < k → stepB R C l j = true) ∧ GridAt wr v0.heap.size R C k (numF l k) t ∧ (∀ j, j < k → Txt w (t (j + 1)).1 (t (j + 1)).2.1 (t (j + 1)).2.2 (l.getD j cl0).2.2.2.2) ∧ Below v0.heap.size v0 wr) (fun i _ => l.length - (intOf i).toNat)
  case atStart => exact ⟨0, _, Nat.zero_le _, rfl, fun j hj => by omega, G4, fun j hj => by omega, B4⟩
  case round =>
    clear G4 B4 j2
    obtain ⟨k, t, hk, rfl, hst, hg, htx, hb⟩ := hrel
    have HS : Hid (∀ j, j < k → stepB R C l j = true) := hst
    have HT : Hid (∀ j, j < k → Txt w (t (j + 1)).1 (t (j + 1)).2.1 (t (j + 1)).2.2 (l.getD j cl0).2.2.2.2) := htx
    have HG : Hid (GridAt wr v0.heap.size R C k (numF l k) t) := hg
    have HZr : Hid (GridAt wr (w.heap.size + 1) 0 0 0 (fun _ => 0) (fun _ => sl0)) := HZ.out.below hb bz
    have HB : Hid (Below v0.heap.size v0 wr) := hb
    have HW : Hid (Below w.heap.size w wr) := B0.trans (hb.mono B0.size)
    have hk25 := step_le hR.2 hC.2 hst
    have szr : v0.heap.size < wr.heap.size := hg.lt
    have gr := hg.rows
    have gc := hg.cols
    clear hst htx hg hb
    by_cases hlt : k < l.length
    · rcases H.out.2.2.2 with e | ⟨b, off, rfl, hbw, hl⟩
      · rw [e] at hlt
        exact absurd hlt (by simp)
      obtain ⟨c0, c1, c2, c3, ta, tn, tc, c4, ht⟩ := (hl k hlt)
      have HTX : Hid (Txt w ta tn tc (l.getD k cl0).2.2.2.2) := ht
      obtain ⟨c0, c1, c2, c3, -⟩ : CellAt wr b (off + k * 5) (l.getD k cl0) := (hl k hlt).below HW.out hbw
      have c4 := (HW.out.cell (p := ⟨b, _, none⟩) hbw).trans c4
      clear ht hl
      obtain ⟨⟨r, c, d, g, tx⟩, hx⟩ : ∃ x, x = l.getD k cl0 := ⟨_, rfl⟩
      rw [← hx] at c0 c1 c2 c3 HTX
      simp only at c0 c1 c2 c3 HTX
      have HXX : Hid ((r, c, d, g, tx) = l.getD k cl0) := hx
      clear hx
      go_upto_region 8 with (go_at_call 43; refine (rectOf_any _ _ _ _ _ _ _ _).mono ?_; rintro e w1 ⟨rfl, hb1⟩)
      have bA : Below wr.heap.size wr (wr.alloc (Obj.cells #[.int .i64 r, .int .i64 c, .int .i64 d, .int .i64 g, .slice ta tn tc] 30)) := (Below.refl _ _).alloc (Nat.le_refl _) _
      have sA : wr.heap.size < w1.heap.size := by have := hb1.size; simp at this; omega
      have b3 : Below wr.heap.size wr (w1.alloc (.cells #[.int .i64 r, .int .i64 c, .int .i64 d, .int .i64 g] 55)) := (bA.trans (hb1.mono (by simp))).alloc (Nat.le_of_lt sA) _
      have C3 : RowAt (w1.alloc (.cells #[.int .i64 r, .int .i64 c, .int .i64 d, .int .i64 g] 55)) wr.heap.size #[.int .i64 r, .int .i64 c, .int .i64 d, .int .i64 g, .slice ta tn tc] 30 := ((rowAt_new wr _ _).below hb1 (by simp)).alloc _
      have Q3 : RectAt (w1.alloc (.cells #[.int .i64 r, .int .i64 c, .int .i64 d, .int .i64 g] 55)) w1.heap.size r c d g := rowAt_new _ _ _
      generalize (w1.alloc (.cells #[.int .i64 r, .int .i64 c, .int .i64 d, .int .i64 g] 55)) = w3 at b3 C3 Q3 ⊢
      have gr := (HG.out.below b3 szr).rows
      have gc := (HG.out.below b3 szr).cols
      have e0 := Q3.c0
      have e1 := Q3.c1
      have e2 := Q3.c2
      have e3 := Q3.c3
      have e4 : w3.cell? ⟨wr.heap.size, 4, none⟩ = some (.slice ta tn tc) := C3.cell 4
      have HG3 : Hid (GridAt w3 v0.heap.size R C k (numF l k) t) := HG.out.below b3 szr
      have HZ3 : Hid (GridAt w3 (w.heap.size + 1) 0 0 0 (fun _ => 0) (fun _ => sl0)) := HZr.out.below b3 (by omega)
      have HQ3 : Hid (RectAt w3 w1.heap.size r c d g) := Q3
      have HC3 : Hid (RowAt w3 wr.heap.size #[.int .i64 r, .int .i64 c, .int .i64 d, .int .i64 g, .slice ta tn tc] 30) := C3
      have HB3 : Hid (Below v0.heap.size v0 w3) := HB.out.trans (b3.mono (by omega))
      have HW3 : Hid (Below w.heap.size w w3) := HW.out.trans (b3.mono (by omega))
      have s3 := b3.size
      have s4 := RowAt.lt Q3
      have s5 := B0.size
      clear HG HZr HB HW b3 C3 Q3 bA hb1 c0 c1 c2 c3 c4
      cases q0 : withB r c d g R C
      · have Q0 : Hid (withB r c d g R C = false) := q0
        clear q0
        go_upto_region 9 with (first | (go_at_call 27; refine (within_is Q0.out hR hC _).mono ?_; rintro e w4 ⟨rfl, hb4⟩))
        go_wp2_with (first | (refine wpList_grid0 rfl rfl ?_) | (refine wpList_store_row rfl 50 (.tmp 2) (.tmp 52) rfl (w.heap.size + 1) (gridA 0 0 0 (fun _ => 0) (fun _ => sl0)) rfl rfl 50 _ (HZ3.out.below hb4 (by omega)) (grid_infoA _ _ _ _ _) (by rw [gridA_size]) (gridA_one _ _ _ _ _) ?_))
        refine bodyPost_ret (v := .tuple #[.agg (gridA 0 0 0 (fun _ => 0) (fun _ => sl0)), .bool false]) ?_ rfl ⟨.inl ⟨?_, rfl⟩, ?_⟩
        · rw [results_cell_tmp rfl]
          simp [asAddr, Result.andThen, run_gridOf (RowAt.setRow (HZ3.out.below hb4 (by omega)) (gridA 0 0 0 (fun _ => 0) (fun _ => sl0)))]
        · rw [← HX.out]
          exact okB_no (fun hp => by have := hp.2.2.1 k hlt; rw [stepB_0 HXX.out Q0.out] at this; exact absurd this (by simp))
        · exact below_row (HW3.out.trans (hb4.mono (by omega))) (by omega) _
      obtain ⟨wz, wz2, wz3⟩ := wiB_of (x := (r, c, d, g, tx)) q0
      simp only at wz wz2 wz3
      obtain ⟨r, rfl⟩ : ∃ r' : Nat, r = r' := ⟨r.toNat, by omega⟩
      obtain ⟨c, rfl⟩ : ∃ r' : Nat, c = r' := ⟨c.toNat, by omega⟩
      obtain ⟨d, rfl⟩ : ∃ r' : Nat, d = r' := ⟨d.toNat, by omega⟩
      obtain ⟨g, rfl⟩ : ∃ r' : Nat, g = r' := ⟨g.toNat, by omega⟩
      have hrd : r + d ≤ R := by omega
      have hcg : c + g ≤ C := by omega
      have hR5 : R ≤ 5 := by omega
      have hC5 : C ≤ 5 := by omega
      have hd0 : 0 < d := by omega
      have hg0 : 0 < g := by omega
      have Q0 : Hid (withB r c d g R C = true) := q0
      have HF : Hid (∀ s, numF l k s ≤ 25) := fun s => Nat.le_trans (numF_le l k s) hk25
      clear q0 wz wz2 wz3
      cases q1 : freeB (numF l k) r c d g
      · have Q1 : Hid (freeB (numF l k) r c d g = false) := q1
        clear q1
        go_upto_region 9 with (first | (go_at_call 27; refine (within_is Q0.out hR hC _).mono ?_; rintro e w4 ⟨rfl, hb4⟩; have GG : GridAt w4 v0.heap.size R C k (numF l k) t := HG3.out.below hb4 (by omega); have QQ : RectAt w4 w1.heap.size r c d g := RowAt.below HQ3.out hb4 s4; have f0 := QQ.c0; have f1 := QQ.c1; have f2 := QQ.c2; have f3 := QQ.c3; have b4 : Hid (Below w3.heap.size w3 w4) := hb4; clear QQ) | (refine wpList_load_rowG (by rfl) 50 (.tmp 4) rfl v0.heap.size rfl 50 (gridA R C k (numF l k) t) (0, 0) _ GG Try.underlying50 rfl (grid_infoA _ _ _ _ _) ?_) | (go_at_call 44; refine (isFree_is Q1.out hR5 hC5 hrd hcg hd0 hg0 HF.out).mono ?_; rintro e w5 ⟨rfl, hb5⟩; have b5 : Hid (Below w3.heap.size w3 w5) := b4.out.trans (hb5.mono b4.out.size); have f4 : w5.cell? ⟨wr.heap.size, 4, none⟩ = some (.slice ta tn tc) := (RowAt.below HC3.out b5.out (by omega)).cell 4))
        clear GG f0 f1 f2 f3 f4
        go_wp2_with (first | (refine wpList_grid0 rfl rfl ?_) | (refine wpList_store_row rfl 50 (.tmp 2) (.tmp 52) rfl (w.heap.size + 1) (gridA 0 0 0 (fun _ => 0) (fun _ => sl0)) rfl rfl 50 _ (HZ3.out.below b5.out (by omega)) (grid_infoA _ _ _ _ _) (by rw [gridA_size]) (gridA_one _ _ _ _ _) ?_))
        refine bodyPost_ret (v := .tuple #[.agg (gridA 0 0 0 (fun _ => 0) (fun _ => sl0)), .bool false]) ?_ rfl ⟨.inl ⟨?_, rfl⟩, ?_⟩
        · rw [results_cell_tmp rfl]
          simp [asAddr, Result.andThen, run_gridOf (RowAt.setRow (HZ3.out.below b5.out (by omega)) (gridA 0 0 0 (fun _ => 0) (fun _ => sl0)))]
        · rw [← HX.out]
          exact okB_no (fun hp => by have := hp.2.2.1 k hlt; rw [stepB_1 HXX.out Q1.out] at this; exact absurd this (by simp))
        · exact below_row (HW3.out.trans (b5.out.mono (by omega))) (by omega) _
      have Q1 : Hid (freeB (numF l k) r c d g = true) := q1
      clear q1
      cases q2 : textB tx
      · have Q2 : Hid (textB tx = false) := q2
        clear q2
        go_upto_region 9 with (first | (go_at_call 27; refine (within_is Q0.out hR hC _).mono ?_; rintro e w4 ⟨rfl, hb4⟩; have GG : GridAt w4 v0.heap.size R C k (numF l k) t := HG3.out.below hb4 (by omega); have QQ : RectAt w4 w1.heap.size r c d g := RowAt.below HQ3.out hb4 s4; have f0 := QQ.c0; have f1 := QQ.c1; have f2 := QQ.c2; have f3 := QQ.c3; have b4 : Hid (Below w3.heap.size w3 w4) := hb4; clear QQ) | (refine wpList_load_rowG (by rfl) 50 (.tmp 4) rfl v0.heap.size rfl 50 (gridA R C k (numF l k) t) (0, 0) _ GG Try.underlying50 rfl (grid_infoA _ _ _ _ _) ?_) | (go_at_call 44; refine (isFree_is Q1.out hR5 hC5 hrd hcg hd0 hg0 HF.out).mono ?_; rintro e w5 ⟨rfl, hb5⟩; have b5 : Hid (Below w3.heap.size w3 w5) := b4.out.trans (hb5.mono b4.out.size); have f4 : w5.cell? ⟨wr.heap.size, 4, none⟩ = some (.slice ta tn tc) := (RowAt.below HC3.out b5.out (by omega)).cell 4) | (go_at_call 36; refine (implTextOk_isG ((HTX.out.below HW3.out).below (b5.out.mono (by omega))) Q2.out).mono ?_; rintro e w6 ⟨rfl, hb6⟩; have b6 : Hid (Below w3.heap.size w3 w6) := b5.out.trans (hb6.mono b5.out.size)))
        clear GG f0 f1 f2 f3 f4
        go_wp2_with (first | (refine wpList_grid0 rfl rfl ?_) | (refine wpList_store_row rfl 50 (.tmp 2) (.tmp 52) rfl (w.heap.size + 1) (gridA 0 0 0 (fun _ => 0) (fun _ => sl0)) rfl rfl 50 _ (HZ3.out.below b6.out (by omega)) (grid_infoA _ _ _ _ _) (by rw [gridA_size]) (gridA_one _ _ _ _ _) ?_))
        refine bodyPost_ret (v := .tuple #[.agg (gridA 0 0 0 (fun _ => 0) (fun _ => sl0)), .bool false]) ?_ rfl ⟨.inl ⟨?_, rfl⟩, ?_⟩
        · rw [results_cell_tmp rfl]
          simp [asAddr, Result.andThen, run_gridOf (RowAt.setRow (HZ3.out.below b6.out (by omega)) (gridA 0 0 0 (fun _ => 0) (fun _ => sl0)))]
        · rw [← HX.out]
          exact okB_no (fun hp => by have := hp.2.2.1 k hlt; rw [stepB_2 HXX.out Q2.out] at this; exact absurd this (by simp))
        · exact below_row (HW3.out.trans (b6.out.mono (by omega))) (by omega) _
      have Q2 : Hid (textB tx = true) := q2
      clear q2
      go_upto_region 10 with (first | (go_at_call 27; refine (within_is Q0.out hR hC _).mono ?_; rintro e w4 ⟨rfl, hb4⟩; have GG : GridAt w4 v0.heap.size R C k (numF l k) t := HG3.out.below hb4 (by omega); have QQ : RectAt w4 w1.heap.size r c d g := RowAt.below HQ3.out hb4 s4; have f0 := QQ.c0; have f1 := QQ.c1; have f2 := QQ.c2; have f3 := QQ.c3; have b4 : Hid (Below w3.heap.size w3 w4) := hb4; clear QQ) | (refine wpList_load_rowG (by rfl) 50 (.tmp 4) rfl v0.heap.size rfl 50 (gridA R C k (numF l k) t) (0, 0) _ GG Try.underlying50 rfl (grid_infoA _ _ _ _ _) ?_) | (go_at_call 44; refine (isFree_is Q1.out hR5 hC5 hrd hcg hd0 hg0 HF.out).mono ?_; rintro e w5 ⟨rfl, hb5⟩; have b5 : Hid (Below w3.heap.size w3 w5) := b4.out.trans (hb5.mono b4.out.size); have f4 : w5.cell? ⟨wr.heap.size, 4, none⟩ = some (.slice ta tn tc) := (RowAt.below HC3.out b5.out (by omega)).cell 4) | (go_at_call 36; refine (implTextOk_isG ((HTX.out.below HW3.out).below (b5.out.mono (by omega))) Q2.out).mono ?_; rintro e w6 ⟨rfl, hb6⟩; have b6 : Hid (Below w3.heap.size w3 w6) := b5.out.trans (hb6.mono b5.out.size)))
      clear GG f0 f1 f2 f3 f4
      have GG : Hid (GridAt w6 v0.heap.size R C k (numF l k) t) := HG3.out.below b6.out (by omega)
      have QQ : RectAt w6 w1.heap.size r c d g := RowAt.below HQ3.out b6.out s4
      have f0 := QQ.c0
      have f1 := QQ.c1
      have f2 := QQ.c2
      have f3 := QQ.c3
      have f4 : w6.cell? ⟨wr.heap.size, 4, none⟩ = some (.slice ta tn tc) := (RowAt.below HC3.out b6.out (by omega)).cell 4
      have s6 := b6.out.size
      have hk1 : k < 25 := by
        have := step_le (l := l) (K := k + 1) hR.2 hC.2 (fun j hj => by
          by_cases hjk : j = k
          · subst hjk
            exact stepB_mk HXX.out Q0.out Q1.out Q2.out
          · exact HS.out j (by omega))
        omega
      clear QQ
      go_wp2_with (first | (refine wpList_load_row rfl 50 (.tmp 4) rfl v0.heap.size rfl 50 (gridA R C k (numF l k) t) (0, 0) _ GG.out Try.underlying50 rfl (grid_infoA _ _ _ _ _) ?_) | (go_at_call 45; refine (lay_any R C k (numF l k) t r c d g (ta, tn, tc) _ (by omega) (by omega) hk1).mono ?_; rintro e w7 ⟨rfl, hb7⟩) | (refine wpList_store_row rfl 50 (.tmp 4) (.tmp 57) rfl v0.heap.size (gridA R C (k + 1) (giveF (numF l k) r c d g (k + 1)) (updS t (k + 1) (ta, tn, tc))) rfl rfl 50 _ (GG.out.below hb7 (by omega)) (grid_infoA _ _ _ _ _) (by rw [gridA_size, gridA_size]) (gridA_one _ _ _ _ _) ?_))
      go_roundw
      case rel =>
        refine ⟨k + 1, updS t (k + 1) (ta, tn, tc), by omega, by go_num, ?_, ?_, ?_, ?_⟩
        · intro j hj
          by_cases hjk : j = k
          · subst hjk
            exact stepB_mk HXX.out Q0.out Q1.out Q2.out
          · exact HS.out j (by omega)
        · have e : numF l (k + 1) = giveF (numF l k) r c d g (k + 1) := by
            simp only [numF, ← HXX.out, Int.toNat_natCast]
          rw [e]
          exact RowAt.setRow (GG.out.below hb7 (by omega)) _
        · intro j hj
          by_cases hjk : j = k
          · subst hjk
            rw [← HXX.out]
            simp only [updS, if_pos]
            exact HTX.out
          · simp only [updS, show ¬ j + 1 = k + 1 from by omega, if_false]
            exact HT.out j (by omega)
        · exact below_row ((HB3.out.trans (b6.out.mono (by omega))).trans (hb7.mono (by omega))) (Nat.le_refl _) _
      case measure => simp [intOf]; omega
    · have hkl : k = l.length := by omega
      subst hkl
      have HF : Hid (∀ s, numF l l.length s ≤ 25) := fun s => Nat.le_trans (numF_le l l.length s) hk25
      have HX2 : Hid (x = true ↔ Tiles R C (numF l l.length)) := by
        show x = true ↔ _
        rw [← HX.out, ← gridP_iff]
        constructor
        · intro hp
          have := hp.2.2.2
          simpa using this
        · intro hp
          exact ⟨hR, hC, HS.out, by simpa using hp⟩
      have hR5 : R ≤ 5 := by omega
      have hC5 : C ≤ 5 := by omega
      have s5 := B0.size
      cases x
      · go_upto_region 13 with (first | (refine wpList_load_row rfl 50 (.tmp 4) rfl v0.heap.size rfl 50 (gridA R C l.length (numF l l.length) t) (0, 0) _ HG.out Try.underlying50 rfl (grid_infoA _ _ _ _ _) ?_) | (go_at_call 46; refine (isTiled_is HX2.out hR5 hC5 HF.out).mono ?_; rintro e w4 ⟨rfl, hb4⟩))
        go_wp2_with (first | (refine wpList_grid0 rfl rfl ?_) | (refine wpList_store_row rfl 50 (.tmp 2) (.tmp 62) rfl (w.heap.size + 1) (gridA 0 0 0 (fun _ => 0) (fun _ => sl0)) rfl rfl 50 _ (HZr.out.below hb4 (by omega)) (grid_infoA _ _ _ _ _) (by rw [gridA_size]) (gridA_one _ _ _ _ _) ?_))
        refine bodyPost_ret (v := .tuple #[.agg (gridA 0 0 0 (fun _ => 0) (fun _ => sl0)), .bool false]) ?_ rfl ⟨.inl ⟨rfl, rfl⟩, ?_⟩
        · rw [results_cell_tmp rfl]
          simp [asAddr, Result.andThen, run_gridOf (RowAt.setRow (HZr.out.below hb4 (by omega)) (gridA 0 0 0 (fun _ => 0) (fun _ => sl0)))]
        · exact below_row (HW.out.trans (hb4.mono (by omega))) (by omega) _
      · go_upto_region 14 with (first | (refine wpList_load_row rfl 50 (.tmp 4) rfl v0.heap.size rfl 50 (gridA R C l.length (numF l l.length) t) (0, 0) _ HG.out Try.underlying50 rfl (grid_infoA _ _ _ _ _) ?_) | (go_at_call 46; refine (isTiled_is HX2.out hR5 hC5 HF.out).mono ?_; rintro e w4 ⟨rfl, hb4⟩))
        go_wp2_with (first | (refine wpList_load_row rfl 50 (.tmp 4) rfl v0.heap.size rfl 50 (gridA R C l.length (numF l l.length) t) (0, 0) _ (HG.out.below hb4 szr) Try.underlying50 rfl (grid_infoA _ _ _ _ _) ?_) | (refine wpList_store_row rfl 50 (.tmp 2) (.tmp 63) rfl (w.heap.size + 1) (gridA R C l.length (numF l l.length) t) rfl rfl 50 _ (HZr.out.below hb4 (by omega)) (grid_infoA _ _ _ _ _) (by rw [gridA_size, gridA_size]) (gridA_one _ _ _ _ _) ?_))
        have bF : Below w.heap.size w (w4.setRow (w.heap.size + 1) (gridA R C l.length (numF l l.length) t)) := below_row (HW.out.trans (hb4.mono (by omega))) (by omega) _
        refine bodyPost_ret (v := .tuple #[.agg (gridA R C l.length (numF l l.length) t), .bool true]) ?_ rfl ⟨.inr ⟨rfl, t, rfl, fun i hi => (HT.out i hi).below bF⟩, bF⟩
        · rw [results_cell_tmp rfl]
          simp [asAddr, Result.andThen, run_gridOf (RowAt.setRow (HZr.out.below hb4 (by omega)) (gridA R C l.length (numF l l.length) t))]
end Go.Proofs.Ytafkbjefmookjaa
namespace Go.Proofs.Ytafkbjefmookjaa
open Go.RowKit

/-- The number of the first cell that a square is of. -/
def atN (R C : Int) (l : List Cl) (r c : Int) : Int := if okB R C l then (match l.findIdx? fun x => inB x r c with | some i => (i : Int) | none => -1) else -1
theorem okB_form {R C : Int} {l : List Cl} (h : okB R C l = true) : formB R C l = true := by
  simp only [okB, Bool.and_eq_true] at h
  exact h.1
theorem specTableOk_is {R C : Int} {a : Option Addr} {n cap : Nat} {l : List Cl} {w : World} {x : Bool} (hx : okB R C l = x) (h : Tab w a n cap l) :
    Calls Try.prog 9 #[.agg #[.int .i64 R, .int .i64 C, .slice a n cap]] w fun e w' => e = .returned (.bool x) ∧ Below w.heap.size w w' := hx ▸ specTableOk_any R C a n cap l w h
theorem findIdx_some (l : List Cl) (k : Nat) (r c : Int) (hk : k < l.length) (h0 : ∀ j, j < k → inB (l.getD j cl0) r c = false) (h1 : inB (l.getD k cl0) r c = true) : (l.findIdx? fun x => inB x r c) = some k := by
  rw [List.findIdx?_eq_some_iff_getElem]
  refine ⟨hk, by simpa [List.getD, hk] using h1, ?_⟩
  intro j hj
  have := h0 j hj
  simpa [List.getD, show j < l.length from by omega] using this
theorem findIdx_none (l : List Cl) (r c : Int) (h0 : ∀ j, j < l.length → inB (l.getD j cl0) r c = false) : (l.findIdx? fun x => inB x r c) = none := by
  rw [List.findIdx?_eq_none_iff]
  intro x hx
  obtain ⟨j, hj, rfl⟩ := List.getElem_of_mem hx
  have := h0 j hj
  simpa [List.getD, hj] using this

end Go.Proofs.Ytafkbjefmookjaa
namespace Go.Proofs.Ytafkbjefmookjaa
open Go.RowKit

theorem atN_in {R C : Int} {l : List Cl} (h : okB R C l = true) (a b : Nat) (ha : (a : Int) < R) (hb : (b : Int) < C) : atN R C l a b = (numF l l.length (a * 5 + b) : Int) - 1 ∧ 1 ≤ numF l l.length (a * 5 + b) := by
  obtain ⟨hR, hC, hs, ht⟩ := gridP_of_okB h
  have hw : ∀ i, i < l.length → wiB R C (l.getD i cl0) = true := fun j hj => (stepB_of (hs j hj)).1
  obtain ⟨t1, -⟩ := ht a b (by unfold vis; omega)
  obtain ⟨h1, h2⟩ := numF_pos l R C l.length hw a b (numF l l.length (a * 5 + b) - 1) (by omega) (by omega)
  refine ⟨?_, t1⟩
  have hh := findIdx_some l (numF l l.length (a * 5 + b) - 1) a b h1 (fun j hj => by
    rw [← Bool.not_eq_true]
    intro h3
    exact step_apart hC.2 hs hj h1 a b h3 h2) h2
  simp only [atN, h, if_true, hh]
  omega
theorem atN_out {R C : Int} {l : List Cl} (h : okB R C l = true) (a b : Int) (hn : ¬ (0 ≤ a ∧ a < R ∧ 0 ≤ b ∧ b < C)) : atN R C l a b = -1 := by
  obtain ⟨hR, hC, hs, -⟩ := gridP_of_okB h
  have hh := findIdx_none l a b (fun j hj => by
    have := wiB_of (stepB_of (hs j hj)).1
    refine decide_eq_false ?_
    omega)
  simp only [atN, h, if_true, hh]

set_option maxRecDepth 100000 in
set_option maxHeartbeats 4000000 in
theorem implTableAt_is {R C r c : Int} {a : Option Addr} {n cap : Nat} {l : List Cl} {w : World} {x : Int} (hx : atN R C l r c = x) (h : Tab w a n cap l) :
    Calls Try.prog 10 #[.agg #[.int .i64 R, .int .i64 C, .slice a n cap], .int .i64 r, .int .i64 c] w fun z w' => z = .returned (.int .i64 x) ∧ Below w.heap.size w w' := by
  have HX : Hid (atN R C l r c = x) := hx
  have H : Hid (Tab w a n cap l) := h
  clear hx h
  go_enter Try.func10, Try.ntmps10
  go_upto_region 1 with fail
  have B0 : Below w.heap.size w (w.alloc (.cells #[.int .i64 R, .int .i64 C, .slice a n cap] 25)) := (Below.refl _ _).alloc (Nat.le_refl _) _
  have HT : Hid (Tab (w.alloc (.cells #[.int .i64 R, .int .i64 C, .slice a n cap] 25)) a n cap l) := H.out.below B0
  have G2 : RowAt (w.alloc (.cells #[.int .i64 R, .int .i64 C, .slice a n cap] 25)) w.heap.size #[.int .i64 R, .int .i64 C, .slice a n cap] 25 := rowAt_new w _ _
  generalize (w.alloc (.cells #[.int .i64 R, .int .i64 C, .slice a n cap] 25)) = v0 at B0 HT G2 ⊢
  have k0 : v0.cell? ⟨w.heap.size, 0, none⟩ = some (.int .i64 R) := G2.cell 0
  have k1 : v0.cell? ⟨w.heap.size, 1, none⟩ = some (.int .i64 C) := G2.cell 1
  have k2 : v0.cell? ⟨w.heap.size, 2, none⟩ = some (.slice a n cap) := G2.cell 2
  have z0 := G2.lt
  cases ho : okB R C l
  · have HO : Hid (okB R C l = false) := ho
    clear ho
    go_wp2_with (first | (go_at_call 24; refine (gridOf_is HO.out HT.out).mono ?_; rintro e w1 ⟨(⟨-, rfl⟩ | ⟨hno, -⟩), hb1⟩; rotate_left; exact absurd hno (by simp)) | (rw [← grid_zero]; refine wpList_store_row rfl 50 (.tmp 7) (.tmp 12) rfl w1.heap.size (gridA 0 0 0 (fun _ => 0) (fun _ => sl0)) rfl rfl 50 _ (gridAt_new _ _ _ _ _ _) (grid_infoA _ _ _ _ _) (by rw [gridA_size]) (gridA_one _ _ _ _ _) ?_))
    go_ret
    refine ⟨?_, below_row ((B0.trans (hb1.mono B0.size)).alloc (Nat.le_trans B0.size hb1.size) _) (Nat.le_trans B0.size hb1.size) _⟩
    rw [← HX.out]
    simp only [atN, HO.out]
    rfl
  · have HO : Hid (okB R C l = true) := ho
    obtain ⟨hR, hC, -⟩ := gridP_of_okB ho
    clear ho
    go_upto_region 2 with (first | (go_at_call 24; refine (gridOf_is HO.out HT.out).mono ?_; rintro e w1 ⟨(⟨hno, -⟩ | ⟨-, t, rfl, -⟩), hb1⟩; exact absurd hno (by simp)) | (rw [← grid_zero]; refine wpList_store_row rfl 50 (.tmp 7) (.tmp 12) rfl w1.heap.size (gridA R C l.length (numF l l.length) t) rfl rfl 50 _ (gridAt_new _ _ _ _ _ _) (grid_infoA _ _ _ _ _) (by rw [gridA_size, gridA_size]) (gridA_one _ _ _ _ _) ?_))
    have B2 : Below v0.heap.size v0 ((w1.alloc (.cells (gridA 0 0 0 (fun _ => 0) (fun _ => sl0)) 50)).setRow w1.heap.size (gridA R C l.length (numF l l.length) t)) := below_row (hb1.alloc hb1.size _) hb1.size _
    have HG : Hid (GridAt ((w1.alloc (.cells (gridA 0 0 0 (fun _ => 0) (fun _ => sl0)) 50)).setRow w1.heap.size (gridA R C l.length (numF l l.length) t)) w1.heap.size R C l.length (numF l l.length) t) := RowAt.setRow (gridAt_new _ _ _ _ _ _) _
    generalize ((w1.alloc (.cells (gridA 0 0 0 (fun _ => 0) (fun _ => sl0)) 50)).setRow w1.heap.size (gridA R C l.length (numF l l.length) t)) = v2 at B2 HG ⊢
    have j0 := (B2.cell (p := ⟨w.heap.size, 0, none⟩) z0).trans k0
    have j1 := (B2.cell (p := ⟨w.heap.size, 1, none⟩) z0).trans k1
    have hg := HG.out.lt
    clear k0 k1 k2 G2 hb1
    cases hq : withB r c 1 1 R C
    · have HQ : Hid (withB r c 1 1 R C = false) := hq
      clear hq
      go_wp2_with (go_at_call 27; refine (within_is HQ.out hR hC _).mono ?_; rintro e w3 ⟨rfl, hb3⟩)
      go_ret
      refine ⟨?_, (B0.trans (B2.mono B0.size)).trans (hb3.mono (Nat.le_trans B0.size B2.size))⟩
      rw [← HX.out, atN_out HO.out r c (fun hh => by
        have := HQ.out
        simp only [withB, spanB, Bool.and_eq_false_iff, decide_eq_false_iff_not] at this
        omega)]
      rfl
    · have HQ : Hid (withB r c 1 1 R C = true) := hq
      have hr : (0 ≤ r ∧ r < R) ∧ (0 ≤ c ∧ c < C) := by
        simp only [withB, spanB, Bool.and_eq_true, decide_eq_true_eq] at hq
        omega
      clear hq
      obtain ⟨r, rfl⟩ : ∃ r' : Nat, r = r' := ⟨r.toNat, by omega⟩
      obtain ⟨c, rfl⟩ : ∃ r' : Nat, c = r' := ⟨c.toNat, by omega⟩
      obtain ⟨e1, e2⟩ := atN_in HO.out r c hr.1.2 hr.2.2
      have e3 := Nat.le_trans (numF_le l l.length (r * 5 + c)) (step_le hR.2 hC.2 (gridP_of_okB HO.out).2.2.1)
      obtain ⟨m, HM⟩ : ∃ m, Hid (numF l l.length (r * 5 + c) = m) := ⟨_, rfl⟩
      rw [HM.out] at e1 e2 e3
      have HE : Hid (x = (m : Int) - 1) := HX.out.symm.trans e1
      have b0 : (r : Int) < 5 := by omega
      have b1 : (c : Int) < 5 := by omega
      clear e1
      go_wp2_with (go_at_call 27; refine (within_is HQ.out hR hC _).mono ?_; rintro e w3 ⟨rfl, hb3⟩; have q := (HG.out.below hb3 hg).num (r * 5 + c) (by omega); rw [← Nat.add_assoc, HM.out] at q)
      go_ret
      refine ⟨?_, (B0.trans (B2.mono B0.size)).trans (hb3.mono (Nat.le_trans B0.size B2.size))⟩
      rw [HE.out]
      rfl
end Go.Proofs.Ytafkbjefmookjaa
namespace Go.Proofs.Ytafkbjefmookjaa
open Go.RowKit

set_option maxRecDepth 100000 in
set_option maxHeartbeats 4000000 in
theorem implTableOk_is {R C : Int} {a : Option Addr} {n cap : Nat} {l : List Cl} {w : World} {x : Bool} (hx : okB R C l = x) (h : Tab w a n cap l) :
    Calls Try.prog 8 #[.agg #[.int .i64 R, .int .i64 C, .slice a n cap]] w fun z w' => z = .returned (.bool x) ∧ Below w.heap.size w w' := by
  have HX : Hid (okB R C l = x) := hx
  have H : Hid (Tab w a n cap l) := h
  clear hx h
  go_enter Try.func8, Try.ntmps8
  go_upto_region 1 with fail
  have B0 : Below w.heap.size w (w.alloc (.cells #[.int .i64 R, .int .i64 C, .slice a n cap] 25)) := (Below.refl _ _).alloc (Nat.le_refl _) _
  have HT : Hid (Tab (w.alloc (.cells #[.int .i64 R, .int .i64 C, .slice a n cap] 25)) a n cap l) := H.out.below B0
  have G2 : RowAt (w.alloc (.cells #[.int .i64 R, .int .i64 C, .slice a n cap] 25)) w.heap.size #[.int .i64 R, .int .i64 C, .slice a n cap] 25 := rowAt_new w _ _
  generalize (w.alloc (.cells #[.int .i64 R, .int .i64 C, .slice a n cap] 25)) = v0 at B0 HT G2 ⊢
  have k0 : v0.cell? ⟨w.heap.size, 0, none⟩ = some (.int .i64 R) := G2.cell 0
  have k1 : v0.cell? ⟨w.heap.size, 1, none⟩ = some (.int .i64 C) := G2.cell 1
  have k2 : v0.cell? ⟨w.heap.size, 2, none⟩ = some (.slice a n cap) := G2.cell 2
  clear G2
  cases x
  · go_wp2_with (first | (go_at_call 24; refine (gridOf_is HX.out HT.out).mono ?_; rintro e w1 ⟨(⟨-, rfl⟩ | ⟨hno, -⟩), hb1⟩; rotate_left; exact absurd hno (by simp)) | (rw [← grid_zero]; refine wpList_store_row rfl 50 (.tmp 3) (.tmp 8) rfl w1.heap.size (gridA 0 0 0 (fun _ => 0) (fun _ => sl0)) rfl rfl 50 _ (gridAt_new _ _ _ _ _ _) (grid_infoA _ _ _ _ _) (by rw [gridA_size]) (gridA_one _ _ _ _ _) ?_))
    go_ret
    exact ⟨rfl, below_row ((B0.trans (hb1.mono B0.size)).alloc (Nat.le_trans B0.size hb1.size) _) (Nat.le_trans B0.size hb1.size) _⟩
  · go_wp2_with (first | (go_at_call 24; refine (gridOf_is HX.out HT.out).mono ?_; rintro e w1 ⟨(⟨hno, -⟩ | ⟨-, t, rfl, -⟩), hb1⟩; exact absurd hno (by simp)) | (rw [← grid_zero]; refine wpList_store_row rfl 50 (.tmp 3) (.tmp 8) rfl w1.heap.size (gridA R C l.length (numF l l.length) t) rfl rfl 50 _ (gridAt_new _ _ _ _ _ _) (grid_infoA _ _ _ _ _) (by rw [gridA_size, gridA_size]) (gridA_one _ _ _ _ _) ?_))
    go_ret
    exact ⟨rfl, below_row ((B0.trans (hb1.mono B0.size)).alloc (Nat.le_trans B0.size hb1.size) _) (Nat.le_trans B0.size hb1.size) _⟩
end Go.Proofs.Ytafkbjefmookjaa
namespace Go.Proofs.Ytafkbjefmookjaa
open Go.RowKit

theorem cell_info : (Try.prog.info? 30).map (·.size) = some 5 := by kernel_rfl
/-- How far a cell goes: as long as the numbers are the same. -/
def Dn (R : Nat) (f : Nat → Nat) (a b d : Nat) : Prop := (∀ i, i < d → a + i < R ∧ f ((a + i) * 5 + b) = f (a * 5 + b)) ∧ ¬ (a + d < R ∧ f ((a + d) * 5 + b) = f (a * 5 + b))
def Rt (C : Nat) (f : Nat → Nat) (a b h : Nat) : Prop := (∀ j, j < h → b + j < C ∧ f (a * 5 + (b + j)) = f (a * 5 + b)) ∧ ¬ (b + h < C ∧ f (a * 5 + (b + h)) = f (a * 5 + b))

set_option maxRecDepth 100000 in
set_option maxHeartbeats 4000000 in
theorem cell_any (R C n : Nat) (f : Nat → Nat) (t : Nat → Sl) (a b : Nat) (tx : List Sg) (w : World) (hR : R ≤ 5) (hC : C ≤ 5) (ha : a < R) (hb : b < C) (hf : ∀ k, f k ≤ 25)
    (ht : Txt w (t (f (a * 5 + b))).1 (t (f (a * 5 + b))).2.1 (t (f (a * 5 + b))).2.2 tx) (hl : tx.length ≤ 1048576) :
    Calls Try.prog 51 #[.agg (gridA R C n f t), .int .i64 a, .int .i64 b] w fun z w' => (∃ d h p m c, z = .returned (.agg #[.int .i64 a, .int .i64 b, .int .i64 (d : Nat), .int .i64 (h : Nat), .slice p m c]) ∧ Dn R f a b d ∧ Rt C f a b h ∧ Own w' w.heap.size (.slice p m c) tx) ∧ Below w.heap.size w w' := by
  obtain ⟨i0, hi, hz0, hz1, hz2⟩ := info_parts Try.info61
  have HT : Hid (Txt w (t (f (a * 5 + b))).1 (t (f (a * 5 + b))).2.1 (t (f (a * 5 + b))).2.2 tx) := ht
  clear ht
  go_enter Try.func51, Try.ntmps51
  go_upto_region 1 with fail
  have B0 : Below w.heap.size w ((w.alloc (.cells (gridA R C n f t) 50)).alloc (.cells #[.int .i64 0, .int .i64 0, .int .i64 0, .int .i64 0, .slice none 0 0] 30)) := ((Below.refl _ _).alloc (Nat.le_refl _) _).alloc (by simp) _
  have G0 : GridAt ((w.alloc (.cells (gridA R C n f t) 50)).alloc (.cells #[.int .i64 0, .int .i64 0, .int .i64 0, .int .i64 0, .slice none 0 0] 30)) w.heap.size R C n f t := (gridAt_new w R C n f t).alloc _
  have G1 : RowAt ((w.alloc (.cells (gridA R C n f t) 50)).alloc (.cells #[.int .i64 0, .int .i64 0, .int .i64 0, .int .i64 0, .slice none 0 0] 30)) (w.heap.size + 1) #[.int .i64 0, .int .i64 0, .int .i64 0, .int .i64 0, .slice none 0 0] 30 := by
    have := rowAt_new (w.alloc (.cells (gridA R C n f t) 50)) #[.int .i64 0, .int .i64 0, .int .i64 0, .int .i64 0, .slice none 0 0] 30
    simpa using this
  generalize ((w.alloc (.cells (gridA R C n f t) 50)).alloc (.cells #[.int .i64 0, .int .i64 0, .int .i64 0, .int .i64 0, .slice none 0 0] 30)) = v0 at B0 G0 G1 ⊢
  have hm := hf (a * 5 + b)
  obtain ⟨m, HM⟩ : ∃ m, Hid (f (a * 5 + b) = m) := ⟨_, rfl⟩
  have k0 := G0.num (a * 5 + b) (by omega)
  rw [← Nat.add_assoc, HM.out] at k0
  rw [HM.out] at hm HT
  have k1 := G0.txt m (by omega)
  obtain ⟨⟨ta, tn, tc⟩, hts⟩ : ∃ s, t m = s := ⟨_, rfl⟩
  rw [hts] at k1 HT
  simp only [slV] at k1
  simp only at HT
  clear hts
  have b0 : (a : Int) < 5 := by omega
  have b1 : (b : Int) < 5 := by omega
  have b2 : (m : Int) < 26 := by omega
  go_upto_region 2 with fail
  have HTN : Hid (tn = tx.length) := HT.out.1
  have htl : tn ≤ 1048576 := by rw [HTN.out]; exact hl
  go_upto_region 3 with (at_builtin; refine wpList_append_txt rfl (.const (.slice none 0 0)) (.tmp 20) rfl v0.heap.size (.slice none 0 0) 0 [] rfl (World.ownsRow_nil _ _ _ _) ta tn tc tx rfl (HT.out.below B0) (by omega) (Nat.le_refl _) ?_; intro v' w1 hown hgrow; obtain ⟨p, q, rfl, -⟩ := Own.shape (show Own w1 v0.heap.size v' tx by (rw [Nat.zero_add, List.nil_append, HTN.out] at hown; exact hown)))
  have hO : Own w1 v0.heap.size (.slice p tx.length q) tx := by
    rw [Nat.zero_add, List.nil_append, HTN.out] at hown
    exact hown
  have hb1 : Below v0.heap.size v0 w1 := (Below.refl _ _).grown hgrow (Nat.le_refl _) (fun k hk => by simp [Value.ownBlock] at hk)
  clear hown hgrow
  have s1 := hb1.size
  have N0 : RowAt (w1.alloc (.cells #[.int .i64 a, .int .i64 b, .int .i64 0, .int .i64 0, .slice p tx.length q] 30)) w1.heap.size #[.int .i64 a, .int .i64 b, .int .i64 0, .int .i64 0, .slice p tx.length q] 30 := rowAt_new _ _ _
  have N1 : Below v0.heap.size v0 (w1.alloc (.cells #[.int .i64 a, .int .i64 b, .int .i64 0, .int .i64 0, .slice p tx.length q] 30)) := hb1.alloc s1 _
  have N2 : Own (w1.alloc (.cells #[.int .i64 a, .int .i64 b, .int .i64 0, .int .i64 0, .slice p tx.length q] 30)) v0.heap.size (.slice p tx.length q) tx := hO.alloc _
  generalize (w1.alloc (.cells #[.int .i64 a, .int .i64 b, .int .i64 0, .int .i64 0, .slice p tx.length q] 30)) = v2 at N0 N1 N2 ⊢
  have ob : ∀ g, (Value.slice p tx.length q).ownBlock = some g → g < w1.heap.size := fun g hg => (own_lt hO.row hg).2
  have HOB : Hid (∀ g, (Value.slice p tx.length q).ownBlock = some g → g < w1.heap.size) := ob
  clear hO ob k0 k1 hb1
  have z0 := G0.lt
  have z1 := G1.lt
  go_wp2_with fail
  go_loopw [23] (fun _ wr => ∃ d : Nat, d ≤ R - a ∧ (∀ i, i < d → a + i < R ∧ f ((a + i) * 5 + b) = m) ∧ RowAt wr w1.heap.size #[.int .i64 a, .int .i64 b, .int .i64 d, .int .i64 0, .slice p tx.length q] 30 ∧ Below v0.heap.size v0 wr ∧ Own wr v0.heap.size (.slice p tx.length q) tx) (fun _ wr => R - a - (match wr.cell? ⟨w1.heap.size, 2, none⟩ with | some v => (intOf v).toNat | none => 0))
  case atStart => exact ⟨0, Nat.zero_le _, fun i hi => by omega, N0, N1, N2⟩
  case round =>
    clear N0 N1 N2
    obtain ⟨d, hd, hall, hr, hbl, hO⟩ := hrel
    have HA : Hid (∀ i, i < d → a + i < R ∧ f ((a + i) * 5 + b) = m) := hall
    have HR : Hid (RowAt wr w1.heap.size #[.int .i64 a, .int .i64 b, .int .i64 d, .int .i64 0, .slice p tx.length q] 30) := hr
    have HB : Hid (Below v0.heap.size v0 wr) := hbl
    have HO : Hid (Own wr v0.heap.size (.slice p tx.length q) tx) := hO
    have e2 : wr.cell? ⟨w1.heap.size, 2, none⟩ = some (.int .i64 d) := hr.cell 2
    have e2f := hr.frozen 2
    have gg := G0.below hbl z0
    have g0 := gg.rows
    have g1 := gg.cols
    clear hall hr hbl hO
    by_cases h1 : a + d < R
    · have k0 := gg.num ((a + d) * 5 + b) (by omega)
      obtain ⟨x, hx⟩ : ∃ x, f ((a + d) * 5 + b) = x := ⟨_, rfl⟩
      have HXX : Hid (f ((a + d) * 5 + b) = x) := hx
      rw [← Nat.add_assoc, hx] at k0
      have hx25 := hf ((a + d) * 5 + b)
      rw [hx] at hx25
      have c0 : (a : Int) + d < R := by omega
      have c1 : (a : Int) + d < 5 := by omega
      clear gg hx
      by_cases h2 : x = m
      · have h2' : ((x : Int) == (m : Int)) = true := by simp [h2]
        have H2 : Hid (x = m) := h2
        clear h2
        go_wp2_with fail
        go_roundw
        case rel =>
          refine ⟨d + 1, by omega, ?_, ?_, HB.out.setCell (by show _ ≤ w1.heap.size; omega) _, own_set HO.out _ _ (fun e => by have := HOB.out _ e; simp at this)⟩
          · intro i hi
            by_cases hid : i = d
            · subst hid
              exact ⟨h1, HXX.out.trans H2.out⟩
            · exact HA.out i (by omega)
          · exact HR.out.setCell 2 (.int .i64 ((d : Int) + 1))
        case measure =>
          rw [show (wr.setCell ⟨w1.heap.size, 2, none⟩ (.int .i64 ((d : Int) + 1))).cell? ⟨w1.heap.size, 2, none⟩ = some (.int .i64 ((d : Int) + 1)) from (HR.out.setCell 2 (.int .i64 ((d : Int) + 1))).cell 2, e2]
          simp only [intOf]
          omega
      · have h2' : ((x : Int) == (m : Int)) = false := by simp; omega
        have H2 : Hid (¬ x = m) := h2
        clear h2
        go_wp2_with fail
        have HDn : Hid (Dn R f a b d) := ⟨fun i hi => ⟨(HA.out i hi).1, (HA.out i hi).2.trans HM.out.symm⟩, fun hh => H2.out (HXX.out.symm.trans (hh.2.trans HM.out))⟩
        have gg2 : Hid (GridAt wr w.heap.size R C n f t) := G0.below HB.out z0
        have lr : w1.heap.size < wr.heap.size := HR.out.lt
        clear e2 e2f g0 g1 k0 h2' c0 c1 h1
        go_loopw [47] (fun _ wr => ∃ h : Nat, h ≤ C - b ∧ (∀ j, j < h → b + j < C ∧ f (a * 5 + (b + j)) = m) ∧ RowAt wr w1.heap.size #[.int .i64 a, .int .i64 b, .int .i64 d, .int .i64 h, .slice p tx.length q] 30 ∧ Below v0.heap.size v0 wr ∧ Own wr v0.heap.size (.slice p tx.length q) tx) (fun _ wr => C - b - (match wr.cell? ⟨w1.heap.size, 3, none⟩ with | some v => (intOf v).toNat | none => 0))
        case atStart => exact ⟨0, Nat.zero_le _, fun j hj => by omega, HR.out, HB.out, HO.out⟩
        case round =>
          clear HR HB HO HA gg2
          obtain ⟨h, hh, hall, hr, hbl, hO⟩ := hrel
          have HA : Hid (∀ j, j < h → b + j < C ∧ f (a * 5 + (b + j)) = m) := hall
          have HR : Hid (RowAt wr w1.heap.size #[.int .i64 a, .int .i64 b, .int .i64 d, .int .i64 h, .slice p tx.length q] 30) := hr
          have HB : Hid (Below v0.heap.size v0 wr) := hbl
          have HO : Hid (Own wr v0.heap.size (.slice p tx.length q) tx) := hO
          have e3 : wr.cell? ⟨w1.heap.size, 3, none⟩ = some (.int .i64 h) := hr.cell 3
          have e3f := hr.frozen 3
          have gg := G0.below hbl z0
          have g1 := gg.cols
          have HG1 : Hid (RowAt wr (w.heap.size + 1) #[.int .i64 0, .int .i64 0, .int .i64 0, .int .i64 0, .slice none 0 0] 30) := G1.below hbl z1
          clear hall hr hbl hO
          by_cases h1 : b + h < C
          · have k0 := gg.num (a * 5 + (b + h)) (by omega)
            obtain ⟨y, hy⟩ : ∃ y, f (a * 5 + (b + h)) = y := ⟨_, rfl⟩
            have HY : Hid (f (a * 5 + (b + h)) = y) := hy
            rw [← Nat.add_assoc, hy] at k0
            have hy25 := hf (a * 5 + (b + h))
            rw [hy] at hy25
            have c0 : (b : Int) + h < C := by omega
            have c1 : (b : Int) + h < 5 := by omega
            clear gg hy
            by_cases h2 : y = m
            · have h2' : ((y : Int) == (m : Int)) = true := by simp [h2]
              have H2 : Hid (y = m) := h2
              clear h2
              go_wp2_with fail
              go_quiet (fail)
              go_wp2_with fail
              go_roundw
              case rel =>
                refine ⟨h + 1, by omega, ?_, HR.out.setCell 3 (.int .i64 ((h : Int) + 1)), (below_drewN HB.out _).setCell (by show _ ≤ w1.heap.size; omega) _, own_set (own_below HO.out (below_drewN (Below.refl _ _) _)) _ _ (fun e => by have := HOB.out _ e; simp at this)⟩
                intro i hi
                by_cases hid : i = h
                · subst hid
                  exact ⟨h1, HY.out.trans H2.out⟩
                · exact HA.out i (by omega)
              case measure =>
                rw [show ((wr.drewN nq).setCell ⟨w1.heap.size, 3, none⟩ (.int .i64 ((h : Int) + 1))).cell? ⟨w1.heap.size, 3, none⟩ = some (.int .i64 ((h : Int) + 1)) from ((HR.out.below (below_drewN (Below.refl wr.heap.size wr) nq) HR.out.lt).setCell 3 (.int .i64 ((h : Int) + 1))).cell 3, e3]
                simp only [intOf]
                omega
            · have h2' : ((y : Int) == (m : Int)) = false := by simp; omega
              have H2 : Hid (¬ y = m) := h2
              clear h2
              have d0 : wr.cell? ⟨w1.heap.size, 0, none⟩ = some (.int .i64 a) := HR.out.cell 0
              have d1 : wr.cell? ⟨w1.heap.size, 1, none⟩ = some (.int .i64 b) := HR.out.cell 1
              have d2 : wr.cell? ⟨w1.heap.size, 2, none⟩ = some (.int .i64 d) := HR.out.cell 2
              have d4 : wr.cell? ⟨w1.heap.size, 4, none⟩ = some (.slice p tx.length q) := HR.out.cell 4
              have HRt : Hid (Rt C f a b h) := ⟨fun j hj => ⟨(HA.out j hj).1, (HA.out j hj).2.trans HM.out.symm⟩, fun hh => H2.out (HY.out.symm.trans (hh.2.trans HM.out))⟩
              have lz := HG1.out.lt
              go_wp2_with fail
              go_quiet (fail)
              go_wp2_with (refine wpList_store_row rfl 30 (.tmp 6) (.tmp 71) rfl (w.heap.size + 1) #[.int .i64 a, .int .i64 b, .int .i64 d, .int .i64 h, .slice p tx.length q] rfl rfl 30 _ (HG1.out.below (below_drewN (Below.refl wr.heap.size wr) nq) lz) cell_info rfl (cells5_one _ _ _ _ _ _ _) ?_)
              refine bodyPost_ret (v := .agg #[.int .i64 a, .int .i64 b, .int .i64 d, .int .i64 h, .slice p tx.length q]) (results_cell_row (p := 6) (ty := 30) rfl _ _ (w.heap.size + 1) 30 _ _ _ rfl (RowAt.setRow (HG1.out.below (below_drewN (Below.refl wr.heap.size wr) nq) lz) _) Try.underlying30 rfl cell_info) rfl ⟨⟨d, h, p, tx.length, q, rfl, HDn.out, HRt.out, ?_⟩, below_row (below_drewN (B0.trans (HB.out.mono B0.size)) _) (by omega) _⟩
              exact own_less (own_row (own_below HO.out (below_drewN (Below.refl _ _) _)) _ _ (fun e => by have := (own_lt HO.out.row e).1; omega)) B0.size
          · have c0 : decide ((b : Int) + h < C) = false := by simp; omega
            have c0' : C ≤ b + h := by omega
            clear gg
            have d0 : wr.cell? ⟨w1.heap.size, 0, none⟩ = some (.int .i64 a) := HR.out.cell 0
            have d1 : wr.cell? ⟨w1.heap.size, 1, none⟩ = some (.int .i64 b) := HR.out.cell 1
            have d2 : wr.cell? ⟨w1.heap.size, 2, none⟩ = some (.int .i64 d) := HR.out.cell 2
            have d4 : wr.cell? ⟨w1.heap.size, 4, none⟩ = some (.slice p tx.length q) := HR.out.cell 4
            have HRt : Hid (Rt C f a b h) := ⟨fun j hj => ⟨(HA.out j hj).1, (HA.out j hj).2.trans HM.out.symm⟩, fun hh => h1 hh.1⟩
            have lz := HG1.out.lt
            go_wp2_with fail
            go_quiet (fail)
            go_wp2_with (refine wpList_store_row rfl 30 (.tmp 6) (.tmp 71) rfl (w.heap.size + 1) #[.int .i64 a, .int .i64 b, .int .i64 d, .int .i64 h, .slice p tx.length q] rfl rfl 30 _ (HG1.out.below (below_drewN (Below.refl wr.heap.size wr) nq) lz) cell_info rfl (cells5_one _ _ _ _ _ _ _) ?_)
            refine bodyPost_ret (v := .agg #[.int .i64 a, .int .i64 b, .int .i64 d, .int .i64 h, .slice p tx.length q]) (results_cell_row (p := 6) (ty := 30) rfl _ _ (w.heap.size + 1) 30 _ _ _ rfl (RowAt.setRow (HG1.out.below (below_drewN (Below.refl wr.heap.size wr) nq) lz) _) Try.underlying30 rfl cell_info) rfl ⟨⟨d, h, p, tx.length, q, rfl, HDn.out, HRt.out, ?_⟩, below_row (below_drewN (B0.trans (HB.out.mono B0.size)) _) (by omega) _⟩
            exact own_less (own_row (own_below HO.out (below_drewN (Below.refl _ _) _)) _ _ (fun e => by have := (own_lt HO.out.row e).1; omega)) B0.size
    · have c0 : ¬ (a : Int) + d < R := by omega
      clear gg
      go_wp2_with fail
      have HDn : Hid (Dn R f a b d) := ⟨fun i hi => ⟨(HA.out i hi).1, (HA.out i hi).2.trans HM.out.symm⟩, fun hh => h1 hh.1⟩
      have gg2 : Hid (GridAt wr w.heap.size R C n f t) := G0.below HB.out z0
      have lr : w1.heap.size < wr.heap.size := HR.out.lt
      clear e2 e2f g0 g1 c0 h1
      go_loopw [47] (fun _ wr => ∃ h : Nat, h ≤ C - b ∧ (∀ j, j < h → b + j < C ∧ f (a * 5 + (b + j)) = m) ∧ RowAt wr w1.heap.size #[.int .i64 a, .int .i64 b, .int .i64 d, .int .i64 h, .slice p tx.length q] 30 ∧ Below v0.heap.size v0 wr ∧ Own wr v0.heap.size (.slice p tx.length q) tx) (fun _ wr => C - b - (match wr.cell? ⟨w1.heap.size, 3, none⟩ with | some v => (intOf v).toNat | none => 0))
      case atStart => exact ⟨0, Nat.zero_le _, fun j hj => by omega, HR.out, HB.out, HO.out⟩
      case round =>
        clear HR HB HO HA gg2
        obtain ⟨h, hh, hall, hr, hbl, hO⟩ := hrel
        have HA : Hid (∀ j, j < h → b + j < C ∧ f (a * 5 + (b + j)) = m) := hall
        have HR : Hid (RowAt wr w1.heap.size #[.int .i64 a, .int .i64 b, .int .i64 d, .int .i64 h, .slice p tx.length q] 30) := hr
        have HB : Hid (Below v0.heap.size v0 wr) := hbl
        have HO : Hid (Own wr v0.heap.size (.slice p tx.length q) tx) := hO
        have e3 : wr.cell? ⟨w1.heap.size, 3, none⟩ = some (.int .i64 h) := hr.cell 3
        have e3f := hr.frozen 3
        have gg := G0.below hbl z0
        have g1 := gg.cols
        have HG1 : Hid (RowAt wr (w.heap.size + 1) #[.int .i64 0, .int .i64 0, .int .i64 0, .int .i64 0, .slice none 0 0] 30) := G1.below hbl z1
        clear hall hr hbl hO
        by_cases h1 : b + h < C
        · have k0 := gg.num (a * 5 + (b + h)) (by omega)
          obtain ⟨y, hy⟩ : ∃ y, f (a * 5 + (b + h)) = y := ⟨_, rfl⟩
          have HY : Hid (f (a * 5 + (b + h)) = y) := hy
          rw [← Nat.add_assoc, hy] at k0
          have hy25 := hf (a * 5 + (b + h))
          rw [hy] at hy25
          have c0 : (b : Int) + h < C := by omega
          have c1 : (b : Int) + h < 5 := by omega
          clear gg hy
          by_cases h2 : y = m
          · have h2' : ((y : Int) == (m : Int)) = true := by simp [h2]
            have H2 : Hid (y = m) := h2
            clear h2
            go_wp2_with fail
            go_quiet (fail)
            go_wp2_with fail
            go_roundw
            case rel =>
              refine ⟨h + 1, by omega, ?_, HR.out.setCell 3 (.int .i64 ((h : Int) + 1)), (below_drewN HB.out _).setCell (by show _ ≤ w1.heap.size; omega) _, own_set (own_below HO.out (below_drewN (Below.refl _ _) _)) _ _ (fun e => by have := HOB.out _ e; simp at this)⟩
              intro i hi
              by_cases hid : i = h
              · subst hid
                exact ⟨h1, HY.out.trans H2.out⟩
              · exact HA.out i (by omega)
            case measure =>
              rw [show ((wr.drewN nq).setCell ⟨w1.heap.size, 3, none⟩ (.int .i64 ((h : Int) + 1))).cell? ⟨w1.heap.size, 3, none⟩ = some (.int .i64 ((h : Int) + 1)) from ((HR.out.below (below_drewN (Below.refl wr.heap.size wr) nq) HR.out.lt).setCell 3 (.int .i64 ((h : Int) + 1))).cell 3, e3]
              simp only [intOf]
              omega
          · have h2' : ((y : Int) == (m : Int)) = false := by simp; omega
            have H2 : Hid (¬ y = m) := h2
            clear h2
            have d0 : wr.cell? ⟨w1.heap.size, 0, none⟩ = some (.int .i64 a) := HR.out.cell 0
            have d1 : wr.cell? ⟨w1.heap.size, 1, none⟩ = some (.int .i64 b) := HR.out.cell 1
            have d2 : wr.cell? ⟨w1.heap.size, 2, none⟩ = some (.int .i64 d) := HR.out.cell 2
            have d4 : wr.cell? ⟨w1.heap.size, 4, none⟩ = some (.slice p tx.length q) := HR.out.cell 4
            have HRt : Hid (Rt C f a b h) := ⟨fun j hj => ⟨(HA.out j hj).1, (HA.out j hj).2.trans HM.out.symm⟩, fun hh => H2.out (HY.out.symm.trans (hh.2.trans HM.out))⟩
            have lz := HG1.out.lt
            go_wp2_with fail
            go_quiet (fail)
            go_wp2_with (refine wpList_store_row rfl 30 (.tmp 6) (.tmp 71) rfl (w.heap.size + 1) #[.int .i64 a, .int .i64 b, .int .i64 d, .int .i64 h, .slice p tx.length q] rfl rfl 30 _ (HG1.out.below (below_drewN (Below.refl wr.heap.size wr) nq) lz) cell_info rfl (cells5_one _ _ _ _ _ _ _) ?_)
            refine bodyPost_ret (v := .agg #[.int .i64 a, .int .i64 b, .int .i64 d, .int .i64 h, .slice p tx.length q]) (results_cell_row (p := 6) (ty := 30) rfl _ _ (w.heap.size + 1) 30 _ _ _ rfl (RowAt.setRow (HG1.out.below (below_drewN (Below.refl wr.heap.size wr) nq) lz) _) Try.underlying30 rfl cell_info) rfl ⟨⟨d, h, p, tx.length, q, rfl, HDn.out, HRt.out, ?_⟩, below_row (below_drewN (B0.trans (HB.out.mono B0.size)) _) (by omega) _⟩
            exact own_less (own_row (own_below HO.out (below_drewN (Below.refl _ _) _)) _ _ (fun e => by have := (own_lt HO.out.row e).1; omega)) B0.size
        · have c0 : decide ((b : Int) + h < C) = false := by simp; omega
          have c0' : C ≤ b + h := by omega
          clear gg
          have d0 : wr.cell? ⟨w1.heap.size, 0, none⟩ = some (.int .i64 a) := HR.out.cell 0
          have d1 : wr.cell? ⟨w1.heap.size, 1, none⟩ = some (.int .i64 b) := HR.out.cell 1
          have d2 : wr.cell? ⟨w1.heap.size, 2, none⟩ = some (.int .i64 d) := HR.out.cell 2
          have d4 : wr.cell? ⟨w1.heap.size, 4, none⟩ = some (.slice p tx.length q) := HR.out.cell 4
          have HRt : Hid (Rt C f a b h) := ⟨fun j hj => ⟨(HA.out j hj).1, (HA.out j hj).2.trans HM.out.symm⟩, fun hh => h1 hh.1⟩
          have lz := HG1.out.lt
          go_wp2_with fail
          go_quiet (fail)
          go_wp2_with (refine wpList_store_row rfl 30 (.tmp 6) (.tmp 71) rfl (w.heap.size + 1) #[.int .i64 a, .int .i64 b, .int .i64 d, .int .i64 h, .slice p tx.length q] rfl rfl 30 _ (HG1.out.below (below_drewN (Below.refl wr.heap.size wr) nq) lz) cell_info rfl (cells5_one _ _ _ _ _ _ _) ?_)
          refine bodyPost_ret (v := .agg #[.int .i64 a, .int .i64 b, .int .i64 d, .int .i64 h, .slice p tx.length q]) (results_cell_row (p := 6) (ty := 30) rfl _ _ (w.heap.size + 1) 30 _ _ _ rfl (RowAt.setRow (HG1.out.below (below_drewN (Below.refl wr.heap.size wr) nq) lz) _) Try.underlying30 rfl cell_info) rfl ⟨⟨d, h, p, tx.length, q, rfl, HDn.out, HRt.out, ?_⟩, below_row (below_drewN (B0.trans (HB.out.mono B0.size)) _) (by omega) _⟩
          exact own_less (own_row (own_below HO.out (below_drewN (Below.refl _ _) _)) _ _ (fun e => by have := (own_lt HO.out.row e).1; omega)) B0.size
end Go.Proofs.Ytafkbjefmookjaa
namespace Go.Proofs.Ytafkbjefmookjaa
open Go.RowKit

theorem and_nat (y p : Nat) (hy : y < 2 ^ 26) (hp : p < 2 ^ 26) : bits .and .u32 (y : Int) (p : Int) = ((y &&& p : Nat) : Int) := by
  have ho : y &&& p < 2 ^ 26 := Nat.and_lt_two_pow y hp
  show IntKind.u32.wrap (((BitVec.ofInt 32 (y : Int)) &&& (BitVec.ofInt 32 (p : Int))).toNat : Int) = _
  rw [BitVec.ofInt_natCast, BitVec.ofInt_natCast, BitVec.toNat_and, BitVec.toNat_ofNat, BitVec.toNat_ofNat, Nat.mod_eq_of_lt (a := y) (by omega), Nat.mod_eq_of_lt (a := p) (by omega)]
  generalize y &&& p = z at ho ⊢
  simp only [IntKind.wrap, IntKind.bits, IntKind.signed]
  simp
  omega
theorem and_pow_ne (x m : Nat) (hx : x < 2 ^ 26) (hm : m ≤ 25) : (bits .and .u32 (x : Int) (2 ^ m % 4294967296) != 0) = x.testBit m := by
  rw [pow_mod m hm, and_nat x _ hx (pow_lt26 hm)]
  cases ht : x.testBit m
  · have : x &&& 2 ^ m = 0 := by
      apply Nat.eq_of_testBit_eq
      intro k
      rw [Nat.testBit_and, Nat.testBit_two_pow, Nat.zero_testBit]
      by_cases hk : m = k
      · subst hk
        simp [ht]
      · simp [hk]
    simp [this]
  · have : x &&& 2 ^ m ≠ 0 := by
      intro e
      have h1 : (x &&& 2 ^ m).testBit m = true := by rw [Nat.testBit_and, ht, Nat.testBit_two_pow]; simp
      rw [e, Nat.zero_testBit] at h1
      exact absurd h1 (by simp)
    simp
    omega
set_option maxHeartbeats 800000 in
theorem numHas_is {x m : Nat} {z : Bool} (hz : x.testBit m = z) (hx : x < 2 ^ 26) (hm : m ≤ 25) (w : World) :
    Calls Try.prog 50 #[.int .u32 x, .int .i64 m] w fun e w' => e = .returned (.bool z) ∧ w' = w := by
  have HX : Hid ((bits .and .u32 (x : Int) (2 ^ m % 4294967296) != 0) = z) := by
    show (bits .and .u32 (x : Int) (2 ^ m % 4294967296) != 0) = z
    rw [and_pow_ne x m hx hm, hz]
  clear hz hx
  go_enter Try.func50, Try.ntmps50
  go_wp2
  go_ret
  exact ⟨congrArg (fun b => Ending.returned (.bool b)) HX.out, rfl⟩

/-- The start of a cell, as places. -/
def stR (x : Cl) : Nat := x.1.toNat
def stC (x : Cl) : Nat := x.2.1.toNat
/-- What a grid's cells are, in order: where each begins its number is new; any other square has a number that was met. -/
structure Rep (R C : Nat) (f : Nat → Nat) (l : List Cl) : Prop where
  cell : ∀ k, k < l.length → (∃ a b d h : Nat, l.getD k cl0 = ((a : Int), (b : Int), (d : Int), (h : Int), (l.getD k cl0).2.2.2.2) ∧ a < R ∧ b < C ∧ Dn R f a b d ∧ Rt C f a b h)
  order : ∀ i k, i < k → k < l.length → vis (stR (l.getD k cl0)) (stC (l.getD k cl0)) C (stR (l.getD i cl0)) (stC (l.getD i cl0))
  fresh : ∀ k, k < l.length → ∀ a b, vis (stR (l.getD k cl0)) (stC (l.getD k cl0)) C a b → f (a * 5 + b) ≠ f (stR (l.getD k cl0) * 5 + stC (l.getD k cl0))
  met : ∀ a b, vis R 0 C a b → (∃ k, k < l.length ∧ stR (l.getD k cl0) = a ∧ stC (l.getD k cl0) = b) ∨ (∃ a' b', vis a b C a' b' ∧ f (a' * 5 + b') = f (a * 5 + b))

theorem Dn.uniq {R : Nat} {f : Nat → Nat} {a b d d' : Nat} (h : Dn R f a b d) (h' : Dn R f a b d') : d = d' := by
  rcases Nat.lt_trichotomy d d' with hl | hl | hl
  · exact absurd (h'.1 d hl) h.2
  · exact hl
  · exact absurd (h.1 d' hl) h'.2
theorem Rt.uniq {C : Nat} {f : Nat → Nat} {a b d d' : Nat} (h : Rt C f a b d) (h' : Rt C f a b d') : d = d' := by
  rcases Nat.lt_trichotomy d d' with hl | hl | hl
  · exact absurd (h'.1 d hl) h.2
  · exact hl
  · exact absurd (h.1 d' hl) h'.2

/-- So many cells begin ahead of a square. -/
def Ahead (C : Nat) (l : List Cl) (i j k : Nat) : Prop := k ≤ l.length ∧ (∀ q, q < k → vis i j C (stR (l.getD q cl0)) (stC (l.getD q cl0))) ∧ (∀ q, k ≤ q → q < l.length → ¬ vis i j C (stR (l.getD q cl0)) (stC (l.getD q cl0)))
theorem Ahead.row {C i k : Nat} {l : List Cl} (h : Ahead C l i C k) : Ahead C l (i + 1) 0 k := by
  refine ⟨h.1, fun q hq => ?_, fun q hq hl hv => h.2.2 q hq hl ?_⟩
  · have := h.2.1 q hq
    unfold vis at this ⊢
    omega
  · unfold vis at hv ⊢
    omega
/-- At a square whose number is new the next cell begins; at another none. -/
theorem Ahead.new {R C i j k : Nat} {f : Nat → Nat} {l : List Cl} (h : Ahead C l i j k) (hr : Rep R C f l) (hi : i < R) (hj : j < C) (hn : ∀ a b, vis i j C a b → f (a * 5 + b) ≠ f (i * 5 + j)) :
    k < l.length ∧ stR (l.getD k cl0) = i ∧ stC (l.getD k cl0) = j ∧ Ahead C l i (j + 1) (k + 1) := by
  rcases hr.met i j (by unfold vis; omega) with ⟨q, hq, e1, e2⟩ | ⟨a, b, h1, h2⟩
  · have hkq : k = q := by
      rcases Nat.lt_trichotomy k q with hl | hl | hl
      · have := hr.order k q hl hq
        rw [e1, e2] at this
        exact absurd this (h.2.2 k (Nat.le_refl _) (by omega))
      · exact hl
      · have := h.2.1 q hl
        rw [e1, e2] at this
        unfold vis at this
        omega
    subst hkq
    refine ⟨hq, e1, e2, by omega, fun q' hq' => ?_, fun q' hq' hl' => ?_⟩
    · by_cases hqk : q' = k
      · subst hqk
        rw [e1, e2]
        unfold vis
        omega
      · have := h.2.1 q' (by omega)
        unfold vis at this ⊢
        omega
    · have ho := hr.order k q' (by omega) hl'
      rw [e1, e2] at ho
      intro hv
      unfold vis at ho hv
      omega
  · exact absurd h2 (hn a b h1)
theorem Ahead.old {R C i j k : Nat} {f : Nat → Nat} {l : List Cl} (h : Ahead C l i j k) (hr : Rep R C f l) (hn : ∃ a b, vis i j C a b ∧ f (a * 5 + b) = f (i * 5 + j)) : Ahead C l i (j + 1) k := by
  obtain ⟨a, b, h1, h2⟩ := hn
  refine ⟨h.1, fun q hq => ?_, fun q hq hl hv => ?_⟩
  · have := h.2.1 q hq
    unfold vis at this ⊢
    omega
  · have hno := h.2.2 q hq hl
    have e : stR (l.getD q cl0) = i ∧ stC (l.getD q cl0) = j := by
      unfold vis at hno hv
      omega
    have := hr.fresh q hl a b (by rw [e.1, e.2]; exact h1)
    rw [e.1, e.2] at this
    exact this h2
end Go.Proofs.Ytafkbjefmookjaa
namespace Go.Proofs.Ytafkbjefmookjaa
open Go.RowKit

theorem run_gridCells {w : World} {g : Nat} {R C : Int} {n : Nat} {f : Nat → Nat} {t : Nat → Sl} (h : GridAt w g R C n f t) : (loadCellsFrom ⟨g, 0, none⟩ 0 54 #[]).run Try.prog w = .ok (gridA R C n f t) w := by
  have := run_loadCells_list (P := Try.prog) w ⟨g, 0, none⟩ (gridA R C n f t).toList (fun j v hv => by
    have hadd : (⟨g, 0, none⟩ : Addr).add j = ⟨g, j, none⟩ := by unfold Addr.add; split <;> simp_all
    rw [hadd, RowAt.cell h]
    simpa using hv)
  simpa [loadCells, gridA_size] using this
set_option maxRecDepth 100000 in
set_option maxHeartbeats 4000000 in
theorem table_any (R C n : Nat) (f : Nat → Nat) (t : Nat → Sl) (l : List Cl) (w : World) (hR : R ≤ 5) (hC : C ≤ 5) (hf : ∀ k, f k ≤ 25) (hr : Rep R C f l) (hl : l.length ≤ 25)
    (ht : ∀ k, k < l.length → Txt w (t (f (stR (l.getD k cl0) * 5 + stC (l.getD k cl0)))).1 (t (f (stR (l.getD k cl0) * 5 + stC (l.getD k cl0)))).2.1 (t (f (stR (l.getD k cl0) * 5 + stC (l.getD k cl0)))).2.2 (l.getD k cl0).2.2.2.2 ∧ (l.getD k cl0).2.2.2.2.length ≤ 1048576) :
    Calls Try.prog 30 #[.agg (gridA R C n f t)] w fun z w' => (∃ a c rs, z = .returned (.agg #[.int .i64 R, .int .i64 C, .slice a l.length c]) ∧ OwnT w' w.heap.size (.slice a l.length c) rs l) ∧ Below w.heap.size w w' := by
  obtain ⟨i0, hi, hz0, hz1, hz2⟩ := info_parts Try.info30
  have HR : Hid (Rep R C f l) := hr
  have HT : Hid (∀ k, k < l.length → Txt w (t (f (stR (l.getD k cl0) * 5 + stC (l.getD k cl0)))).1 (t (f (stR (l.getD k cl0) * 5 + stC (l.getD k cl0)))).2.1 (t (f (stR (l.getD k cl0) * 5 + stC (l.getD k cl0)))).2.2 (l.getD k cl0).2.2.2.2 ∧ (l.getD k cl0).2.2.2.2.length ≤ 1048576) := ht
  clear hr ht
  go_enter Try.func30, Try.ntmps30
  go_upto_region 1 with fail
  have B0 : Below w.heap.size w ((w.alloc (.cells (gridA R C n f t) 50)).alloc (.cells #[.int .i64 0, .int .i64 0, .slice none 0 0] 25)) := ((Below.refl _ _).alloc (Nat.le_refl _) _).alloc (by simp) _
  have G0 : GridAt ((w.alloc (.cells (gridA R C n f t) 50)).alloc (.cells #[.int .i64 0, .int .i64 0, .slice none 0 0] 25)) w.heap.size R C n f t := (gridAt_new w R C n f t).alloc _
  have G1 : RowAt ((w.alloc (.cells (gridA R C n f t) 50)).alloc (.cells #[.int .i64 0, .int .i64 0, .slice none 0 0] 25)) (w.heap.size + 1) #[.int .i64 0, .int .i64 0, .slice none 0 0] 25 := by
    have := rowAt_new (w.alloc (.cells (gridA R C n f t) 50)) #[.int .i64 0, .int .i64 0, .slice none 0 0] 25
    simpa using this
  generalize ((w.alloc (.cells (gridA R C n f t) 50)).alloc (.cells #[.int .i64 0, .int .i64 0, .slice none 0 0] 25)) = v at B0 G0 G1 ⊢
  have q0 := G0.rows
  have q1 := G0.cols
  go_upto_region 2 with fail
  have B1 : Below v.heap.size v (v.alloc (.cells #[.int .i64 R, .int .i64 C, .slice none 0 0] 25)) := (Below.refl _ _).alloc (Nat.le_refl _) _
  have G2 : RowAt (v.alloc (.cells #[.int .i64 R, .int .i64 C, .slice none 0 0] 25)) v.heap.size #[.int .i64 R, .int .i64 C, .slice none 0 0] 25 := rowAt_new _ _ _
  generalize (v.alloc (.cells #[.int .i64 R, .int .i64 C, .slice none 0 0] 25)) = v0 at B1 G2 ⊢
  have z0 := G0.lt
  have z1 := G1.lt
  have z2 := G2.lt
  have s01 := B0.size
  clear q0 q1
  have q0 := (G0.below B1 z0).rows
  go_wp2_with fail
  go_loopw [4, 15] (fun xv iv wr => ∃ i : Nat, i ≤ R ∧ iv = .int .i64 i ∧ ∃ (k x : Nat) (rs : List Rw) (a : Option Addr) (c : Nat), Ahead C l i 0 k ∧ xv = .int .u32 x ∧ Mask x f (fun p q => vis i 0 C p q) ∧ RowAt wr v.heap.size #[.int .i64 R, .int .i64 C, .slice a k c] 25 ∧ OwnR wr v0.heap.size (.slice a k c) rs ∧ TxtOwn wr v0.heap.size (Value.slice a k c).ownBlock rs (l.take k) ∧ Below v.heap.size v wr ∧ v0.heap.size ≤ wr.heap.size) (fun _ iv _ => R - (intOf iv).toNat)
  case atStart => exact ⟨0, Nat.zero_le _, rfl, 0, 0, [], none, 0, ⟨Nat.zero_le _, fun q hq => by omega, fun q _ _ hv => by unfold vis at hv; omega⟩, rfl, Mask.zero (fun a b hv => by unfold vis at hv; omega), G2, OwnR.nil _ _, TxtOwn.nil _ _ _, B1, Nat.le_refl _⟩
  case round =>
    clear q0 G2 B1
    obtain ⟨i, hi', rfl, k, x, rs, a, c, hA, rfl, hM, hT, hO, hX, hb, hs⟩ := hrel
    have HA : Hid (Ahead C l i 0 k) := hA
    have HM : Hid (Mask x f (fun p q => vis i 0 C p q)) := hM
    have HTb : Hid (RowAt wr v.heap.size #[.int .i64 R, .int .i64 C, .slice a k c] 25) := hT
    have HO : Hid (OwnR wr v0.heap.size (.slice a k c) rs) := hO
    have HXt : Hid (TxtOwn wr v0.heap.size (Value.slice a k c).ownBlock rs (l.take k)) := hX
    have HB : Hid (Below v.heap.size v wr) := hb
    have g1 := (G0.below hb z0).cols
    clear hA hM hT hO hX hb
    by_cases hlt : i < R
    · have b0 : (i : Int) < 5 := by omega
      have b1 : (C : Int) ≤ 5 := by omega
      go_wp2_with fail
      go_quiet (fail)
      go_wp2_with fail
      go_loopw [4, 25] (fun xv jv wr => ∃ j : Nat, j ≤ C ∧ jv = .int .i64 j ∧ ∃ (k x : Nat) (rs : List Rw) (a : Option Addr) (c : Nat), Ahead C l i j k ∧ xv = .int .u32 x ∧ Mask x f (fun p q => vis i j C p q) ∧ RowAt wr v.heap.size #[.int .i64 R, .int .i64 C, .slice a k c] 25 ∧ OwnR wr v0.heap.size (.slice a k c) rs ∧ TxtOwn wr v0.heap.size (Value.slice a k c).ownBlock rs (l.take k) ∧ Below v.heap.size v wr ∧ v0.heap.size ≤ wr.heap.size) (fun _ jv _ => C - (intOf jv).toNat)
      case atStart => exact ⟨0, Nat.zero_le _, rfl, k, x, rs, a, c, HA.out, rfl, HM.out, HTb.out.below (below_drewN (Below.refl _ _) _) HTb.out.lt, own_below HO.out (below_drewN (Below.refl _ _) _), HXt.out.below (below_drewN (Below.refl _ _) _), below_drewN HB.out _, by simpa using hs⟩
      case round =>
        clear HA HM HTb HO HXt HB g1
        obtain ⟨j, hj, rfl, k, x, rs, a, c, hA, rfl, hM, hT, hO, hX, hb, hs⟩ := hrel
        have HA : Hid (Ahead C l i j k) := hA
        have HM : Hid (Mask x f (fun p q => vis i j C p q)) := hM
        have HTb : Hid (RowAt wr v.heap.size #[.int .i64 R, .int .i64 C, .slice a k c] 25) := hT
        have HO : Hid (OwnR wr v0.heap.size (.slice a k c) rs) := hO
        have HXt : Hid (TxtOwn wr v0.heap.size (Value.slice a k c).ownBlock rs (l.take k)) := hX
        have HB : Hid (Below v.heap.size v wr) := hb
        by_cases hlj : j < C
        · have gg : GridAt wr w.heap.size R C n f t := G0.below hb z0
          have k1 := gg.num (i * 5 + j) (by omega)
          have hm := hf (i * 5 + j)
          obtain ⟨m, HMm⟩ : ∃ m, Hid (f (i * 5 + j) = m) := ⟨_, rfl⟩
          rw [← Nat.add_assoc, HMm.out] at k1
          rw [HMm.out] at hm
          have hx26 := hM.1
          have HGG : Hid (GridAt wr w.heap.size R C n f t) := gg
          clear hA hM hT hO hX hb gg
          cases hbt : x.testBit m
          · have HBt : Hid (x.testBit m = false) := hbt
            clear hbt
            go_upto_region 11 with (go_at_call 50; refine (numHas_is HBt.out hx26 hm _).mono ?_; rintro e w4 ⟨rfl, hw4⟩; subst w4)
            have hnew : ∀ p q, vis i j C p q → f (p * 5 + q) ≠ f (i * 5 + j) := fun p q hv e => by
              have := (HM.out.2 m).2 ⟨p, q, hv, e.trans HMm.out⟩
              rw [HBt.out] at this
              exact absurd this (by simp)
            obtain ⟨hkl, es1, es2, hA'⟩ := HA.out.new HR.out hlt hlj hnew
            obtain ⟨tx, htx⟩ : ∃ tx, tx = (l.getD k cl0).2.2.2.2 := ⟨_, rfl⟩
            have hTk := HT.out k hkl
            rw [es1, es2, ← htx] at hTk
            have htxl : tx.length ≤ 1048576 := hTk.2
            have HTX : Hid (Txt wr.drew (t (f (i * 5 + j))).1 (t (f (i * 5 + j))).2.1 (t (f (i * 5 + j))).2.2 tx) := hTk.1.below ((B0.trans (HB.out.mono s01)).drew)
            have HTXE : Hid (tx = (l.getD k cl0).2.2.2.2) := htx
            have HA' : Hid (Ahead C l i (j + 1) (k + 1)) := hA'
            have HE : Hid (stR (l.getD k cl0) = i ∧ stC (l.getD k cl0) = j) := ⟨es1, es2⟩
            have lv : v.heap.size < wr.drew.heap.size := by simp only [World.size_drew]; omega
            have lw : w.heap.size < wr.drew.heap.size := by simp only [World.size_drew]; omega
            clear hnew hTk htx hA' es1 es2
            have e2 : wr.cell? ⟨v.heap.size, 2, none⟩ = some (.slice a k c) := HTb.out.cell 2
            refine wp_region_noPanic ?_
            refine wp_region_held_drew (S := fun w' => GridAt w' w.heap.size R C n f t) (by kernel_rfl) HGG.out (fun hHeld => ?_)
            refine wpAnyH_take (i := 0) (v := .pointer (some ⟨v.heap.size, 2, none⟩)) rfl (by kernel_rfl) (by kernel_rfl) (by kernel_rfl) (fun _ _ _ h => h) (Or.inl ⟨by rfl, fun w' _ => by go_simp⟩) hHeld ?_
            refine wpAnyH_take (i := 2) rfl (by kernel_rfl) (by kernel_rfl) (by kernel_rfl) (fun _ _ _ h => h) (yieldsIf_load_row (by rfl) 50 (.tmp 1) rfl w.heap.size rfl 50 (gridA R C n f t) (0, 0) _ (fun w' h => h) Try.underlying50 rfl (grid_infoA _ _ _ _ _)) hHeld ?_
            refine wpAnyH_take (i := 3) (v := .int .i64 i) rfl (by kernel_rfl) (by kernel_rfl) (by kernel_rfl) (fun _ _ _ h => h) (Or.inl ⟨by rfl, fun w' _ => by go_simp⟩) hHeld ?_
            refine wpAnyH_take (i := 4) (v := .int .i64 j) rfl (by kernel_rfl) (by kernel_rfl) (by kernel_rfl) (fun _ _ _ h => h) (Or.inl ⟨by rfl, fun w' _ => by go_simp⟩) hHeld ?_
            simp only [Act.put, List.setIfInBounds_toArray]
            refine wpAnyH_ready (rs := [1, 5]) (by kernel_rfl) (by simp) ?_
            refine AllReadyH.cons rfl (fun K hK => ?_) ?_
            · go_simp
              refine hK.out _ _ hHeld (fun hHeld => ?_)
              clear hK K
              (try simp only [Act.put, List.setIfInBounds_toArray, List.set_cons_zero, List.set_cons_succ])
              refine wpAnyH_ready (rs := [5]) (by kernel_rfl) (by simp) ?_
              refine AllReadyH.cons rfl (fun K hK => ?_) AllReadyH.nil
              go_simp
              go_at_call 51
              refine (cell_any R C n f t i j tx _ hR hC hlt hlj hf HTX.out htxl).mono ?_
              rintro e w4 ⟨⟨d, h, p, m', c', rfl, hDn, hRt, hOw⟩, hb4⟩
              have s4 : wr.heap.size ≤ w4.heap.size := by have := hb4.size; simpa using this
              have f2 : w4.cell? ⟨v.heap.size, 2, none⟩ = some (.slice a k c) := (hb4.cell (p := ⟨v.heap.size, 2, none⟩) lv).trans e2
              have hHeld4 : GridAt w4 w.heap.size R C n f t := hHeld.below hb4 lw
              go_wp2_with fail
              refine hK.out _ _ hHeld4 (fun hHeld => ?_)
              clear hK K hHeld4
              (try simp only [Act.put, List.setIfInBounds_toArray, List.set_cons_zero, List.set_cons_succ])
              refine wpAnyH_ready (rs := [6]) (by kernel_rfl) (by simp) ?_
              refine AllReadyH.cons rfl (fun K hK => ?_) AllReadyH.nil
              go_simp
              refine hK.out _ _ (hHeld.alloc _) (fun hHeld => ?_)
              clear hK K
              (try simp only [Act.put, List.setIfInBounds_toArray, List.set_cons_zero, List.set_cons_succ])
              refine wpAnyH_ready (rs := [7]) (by kernel_rfl) (by simp) ?_
              refine AllReadyH.cons rfl (fun K hK => ?_) AllReadyH.nil
              refine step_append_lies _ (by rfl) _ _ _ (by rfl) v0.heap.size 30 i0 _ 5 56 Try.underlying23 hi hz0 hz1 hz2 rfl (by omega) (.slice a k c) k (flat5 rs) (by rfl) ((own_below (own_below HO.out.row ((Below.refl wr.heap.size wr).drew)) hb4).alloc _) ⟨w4.heap.size, 0, none⟩ 1 1 [.int .i64 (i : Int), .int .i64 (j : Int), .int .i64 (d : Int), .int .i64 (h : Int), .slice p m' c'] (by rfl) (by rfl) (cell_five_new _ _ _ _ _ _ _) (five_oneCell _ _ _ _ _ _ _) (by omega) (by unfold maxLen; omega) (by omega) (by simp; omega) (w4.heap.size + 1) (by simp) ?_
              intro gg cc w5 hown5 hgrow5 hat hltg
              refine hK.out _ _ ?_ (fun hHeld => ?_)
              · exact RowAt.grown hHeld hgrow5 (fun e => by have := (own_lt HO.out.row e).1; omega)
              clear hK K
              (try simp only [Act.put, List.setIfInBounds_toArray])
              have T4 : RowAt (w4.alloc (.cells #[.int .i64 (i : Int), .int .i64 (j : Int), .int .i64 (d : Int), .int .i64 (h : Int), .slice p m' c'] 30)) v.heap.size #[.int .i64 R, .int .i64 C, .slice a k c] 25 := (HTb.out.drew.below hb4 lv).alloc _
              have T5 := RowAt.grown T4 hgrow5 (fun e => by have := (own_lt HO.out.row e).1; omega)
              have p2 : w5.cell? ⟨v.heap.size, 2, none⟩ = some (.slice a k c) := T5.cell 2
              have p3 := T5.frozen 2
              refine wpAnyH_take (i := 8) (v := .pointer (some ⟨v.heap.size, 2, none⟩)) rfl (by kernel_rfl) (by kernel_rfl) (by kernel_rfl) (fun _ _ _ h => h) (Or.inl ⟨by rfl, fun w' _ => by go_simp⟩) hHeld ?_
              (try simp only [Act.put])
              refine wpAnyH_ready (rs := [9]) (by kernel_rfl) (by simp) ?_
              refine AllReadyH.cons rfl (fun K hK => ?_) AllReadyH.nil
              go_simp
              refine hK.out _ _ (RowAt.other hHeld _ _ (by simp; omega)) (fun _ => ?_)
              clear hK K
              refine wpAnyH_done (by kernel_rfl) ?_ _
              refine NoPanic.normal ?_
              go_wp2_with fail
              go_roundw
              case rel =>
                have lo4 : OwnR w4 v0.heap.size (.slice a k c) rs := own_below (own_below HO.out ((Below.refl wr.heap.size wr).drew)) hb4
                have tO : Own w5 v0.heap.size (.slice p m' c') tx := own_grown (Own.alloc (own_less hOw (by simp only [World.size_drew]; omega)) _) hgrow5 (fun g hg => own_kinds lo4 hOw (by decide) g hg)
                have lr := lo4.len
                have rO : OwnR w5 v0.heap.size (.slice (some ⟨gg, 0, none⟩) (k + 1) cc) (rs ++ [((i : Int), (j : Int), (d : Int), (h : Int), p, m', c')]) := OwnR.snoc hown5 (by omega) rfl
                have t4 : TxtOwn w4 v0.heap.size (Value.slice a k c).ownBlock rs (l.take k) := (HXt.out.below ((Below.refl wr.heap.size wr).drew)).below hb4
                have t5 : TxtOwn w5 v0.heap.size (Value.slice a k c).ownBlock rs (l.take k) := (t4.below ((Below.refl _ _).alloc (Nat.le_refl _) _)).grown hgrow5 (fun q hq b hb => t4.2.2.1 q hq b hb)
                obtain ⟨a0, b0', d0, h0, el, _, _, hd0, hh0⟩ := HR.out.cell k hkl
                have ea : a0 = i := by have := HE.out.1; rw [el] at this; simpa [stR] using this
                have eb : b0' = j := by have := HE.out.2; rw [el] at this; simpa [stC] using this
                subst ea eb
                have ed := hDn.uniq hd0
                have eh := hRt.uniq hh0
                subst ed eh
                have t6 := t5.snoc (C := wr.heap.size) (x := ((a0 : Int), (b0' : Int), (d : Int), (h : Int), p, m', c')) (y := l.getD k cl0) (by rw [el, ← HTXE.out]; exact ⟨rfl, rfl, rfl, rfl, tO⟩) (fun g hg => own_kinds lo4 hOw (by decide) g hg) (fun q hq g hg => HXt.out.blockLt q hq g hg) (fun g hg => by have := (own_lt hOw.row hg).1; simpa using this)
                rw [show l.take k ++ [l.getD k cl0] = l.take (k + 1) from by rw [List.take_succ_eq_append_getElem hkl]; simp [List.getD, hkl]] at t6
                have B5 : Below v.heap.size v w5 := (((HB.out.drew).trans (hb4.mono (by simp only [World.size_drew]; omega))).alloc (by omega) _).grown hgrow5 (by simp; omega) (fun q hq => by have := (own_lt HO.out.row hq).1; omega)
                have s5 := hgrow5.size
                simp at s5
                refine ⟨b0' + 1, by omega, by go_num, k + 1, x ||| 2 ^ m, _, some ⟨gg, 0, none⟩, cc, HA'.out, by rw [or_pow x m hx26 hm], HM.out.snoc hm HMm.out (fun p' q' => by unfold vis; omega), T5.setCell 2 _, own_set rO _ _ (fun e => by have := (own_lt rO.row e).1; simp at this; omega), (t6.anew rO).setLow _ _ (by simp; omega), B5.setCell (Nat.le_refl _) _, by simp [World.setCell]; omega⟩
              case measure => simp [intOf]; omega
            · refine AllReadyH.cons rfl (fun K hK => ?_) AllReadyH.nil
              go_simp
              go_at_call 51
              refine (cell_any R C n f t i j tx _ hR hC hlt hlj hf HTX.out htxl).mono ?_
              rintro e w4 ⟨⟨d, h, p, m', c', rfl, hDn, hRt, hOw⟩, hb4⟩
              have s4 : wr.heap.size ≤ w4.heap.size := by have := hb4.size; simpa using this
              have f2 : w4.cell? ⟨v.heap.size, 2, none⟩ = some (.slice a k c) := (hb4.cell (p := ⟨v.heap.size, 2, none⟩) lv).trans e2
              have hHeld4 : GridAt w4 w.heap.size R C n f t := hHeld.below hb4 lw
              go_wp2_with fail
              refine hK.out _ _ hHeld4 (fun hHeld => ?_)
              clear hK K hHeld4
              (try simp only [Act.put, List.setIfInBounds_toArray, List.set_cons_zero, List.set_cons_succ])
              refine wpAnyH_ready (rs := [1, 6]) (by kernel_rfl) (by simp) ?_
              refine AllReadyH.cons rfl (fun K hK => ?_) ?_
              · go_simp
                refine hK.out _ _ hHeld (fun hHeld => ?_)
                clear hK K
                (try simp only [Act.put, List.setIfInBounds_toArray, List.set_cons_zero, List.set_cons_succ])
                refine wpAnyH_ready (rs := [6]) (by kernel_rfl) (by simp) ?_
                refine AllReadyH.cons rfl (fun K hK => ?_) AllReadyH.nil
                go_simp
                refine hK.out _ _ (hHeld.alloc _) (fun hHeld => ?_)
                clear hK K
                (try simp only [Act.put, List.setIfInBounds_toArray, List.set_cons_zero, List.set_cons_succ])
                refine wpAnyH_ready (rs := [7]) (by kernel_rfl) (by simp) ?_
                refine AllReadyH.cons rfl (fun K hK => ?_) AllReadyH.nil
                refine step_append_lies _ (by rfl) _ _ _ (by rfl) v0.heap.size 30 i0 _ 5 56 Try.underlying23 hi hz0 hz1 hz2 rfl (by omega) (.slice a k c) k (flat5 rs) (by rfl) ((own_below (own_below HO.out.row ((Below.refl wr.heap.size wr).drew)) hb4).alloc _) ⟨w4.heap.size, 0, none⟩ 1 1 [.int .i64 (i : Int), .int .i64 (j : Int), .int .i64 (d : Int), .int .i64 (h : Int), .slice p m' c'] (by rfl) (by rfl) (cell_five_new _ _ _ _ _ _ _) (five_oneCell _ _ _ _ _ _ _) (by omega) (by unfold maxLen; omega) (by omega) (by simp; omega) (w4.heap.size + 1) (by simp) ?_
                intro gg cc w5 hown5 hgrow5 hat hltg
                refine hK.out _ _ ?_ (fun hHeld => ?_)
                · exact RowAt.grown hHeld hgrow5 (fun e => by have := (own_lt HO.out.row e).1; omega)
                clear hK K
                (try simp only [Act.put, List.setIfInBounds_toArray])
                have T4 : RowAt (w4.alloc (.cells #[.int .i64 (i : Int), .int .i64 (j : Int), .int .i64 (d : Int), .int .i64 (h : Int), .slice p m' c'] 30)) v.heap.size #[.int .i64 R, .int .i64 C, .slice a k c] 25 := (HTb.out.drew.below hb4 lv).alloc _
                have T5 := RowAt.grown T4 hgrow5 (fun e => by have := (own_lt HO.out.row e).1; omega)
                have p2 : w5.cell? ⟨v.heap.size, 2, none⟩ = some (.slice a k c) := T5.cell 2
                have p3 := T5.frozen 2
                refine wpAnyH_take (i := 8) (v := .pointer (some ⟨v.heap.size, 2, none⟩)) rfl (by kernel_rfl) (by kernel_rfl) (by kernel_rfl) (fun _ _ _ h => h) (Or.inl ⟨by rfl, fun w' _ => by go_simp⟩) hHeld ?_
                (try simp only [Act.put])
                refine wpAnyH_ready (rs := [9]) (by kernel_rfl) (by simp) ?_
                refine AllReadyH.cons rfl (fun K hK => ?_) AllReadyH.nil
                go_simp
                refine hK.out _ _ (RowAt.other hHeld _ _ (by simp; omega)) (fun _ => ?_)
                clear hK K
                refine wpAnyH_done (by kernel_rfl) ?_ _
                refine NoPanic.normal ?_
                go_wp2_with fail
                go_roundw
                case rel =>
                  have lo4 : OwnR w4 v0.heap.size (.slice a k c) rs := own_below (own_below HO.out ((Below.refl wr.heap.size wr).drew)) hb4
                  have tO : Own w5 v0.heap.size (.slice p m' c') tx := own_grown (Own.alloc (own_less hOw (by simp only [World.size_drew]; omega)) _) hgrow5 (fun g hg => own_kinds lo4 hOw (by decide) g hg)
                  have lr := lo4.len
                  have rO : OwnR w5 v0.heap.size (.slice (some ⟨gg, 0, none⟩) (k + 1) cc) (rs ++ [((i : Int), (j : Int), (d : Int), (h : Int), p, m', c')]) := OwnR.snoc hown5 (by omega) rfl
                  have t4 : TxtOwn w4 v0.heap.size (Value.slice a k c).ownBlock rs (l.take k) := (HXt.out.below ((Below.refl wr.heap.size wr).drew)).below hb4
                  have t5 : TxtOwn w5 v0.heap.size (Value.slice a k c).ownBlock rs (l.take k) := (t4.below ((Below.refl _ _).alloc (Nat.le_refl _) _)).grown hgrow5 (fun q hq b hb => t4.2.2.1 q hq b hb)
                  obtain ⟨a0, b0', d0, h0, el, _, _, hd0, hh0⟩ := HR.out.cell k hkl
                  have ea : a0 = i := by have := HE.out.1; rw [el] at this; simpa [stR] using this
                  have eb : b0' = j := by have := HE.out.2; rw [el] at this; simpa [stC] using this
                  subst ea eb
                  have ed := hDn.uniq hd0
                  have eh := hRt.uniq hh0
                  subst ed eh
                  have t6 := t5.snoc (C := wr.heap.size) (x := ((a0 : Int), (b0' : Int), (d : Int), (h : Int), p, m', c')) (y := l.getD k cl0) (by rw [el, ← HTXE.out]; exact ⟨rfl, rfl, rfl, rfl, tO⟩) (fun g hg => own_kinds lo4 hOw (by decide) g hg) (fun q hq g hg => HXt.out.blockLt q hq g hg) (fun g hg => by have := (own_lt hOw.row hg).1; simpa using this)
                  rw [show l.take k ++ [l.getD k cl0] = l.take (k + 1) from by rw [List.take_succ_eq_append_getElem hkl]; simp [List.getD, hkl]] at t6
                  have B5 : Below v.heap.size v w5 := (((HB.out.drew).trans (hb4.mono (by simp only [World.size_drew]; omega))).alloc (by omega) _).grown hgrow5 (by simp; omega) (fun q hq => by have := (own_lt HO.out.row hq).1; omega)
                  have s5 := hgrow5.size
                  simp at s5
                  refine ⟨b0' + 1, by omega, by go_num, k + 1, x ||| 2 ^ m, _, some ⟨gg, 0, none⟩, cc, HA'.out, by rw [or_pow x m hx26 hm], HM.out.snoc hm HMm.out (fun p' q' => by unfold vis; omega), T5.setCell 2 _, own_set rO _ _ (fun e => by have := (own_lt rO.row e).1; simp at this; omega), (t6.anew rO).setLow _ _ (by simp; omega), B5.setCell (Nat.le_refl _) _, by simp [World.setCell]; omega⟩
                case measure => simp [intOf]; omega
              · refine AllReadyH.cons rfl (fun K hK => ?_) AllReadyH.nil
                go_simp
                refine hK.out _ _ (hHeld.alloc _) (fun hHeld => ?_)
                clear hK K
                (try simp only [Act.put, List.setIfInBounds_toArray, List.set_cons_zero, List.set_cons_succ])
                have f3 : (w4.alloc (.cells #[.int .i64 (i : Int), .int .i64 (j : Int), .int .i64 (d : Int), .int .i64 (h : Int), .slice p m' c'] 30)).cell? ⟨v.heap.size, 2, none⟩ = some (.slice a k c) := ((HTb.out.drew.below hb4 lv).alloc _).cell 2
                refine wpAnyH_ready (rs := [1]) (by kernel_rfl) (by simp) ?_
                refine AllReadyH.cons rfl (fun K hK => ?_) AllReadyH.nil
                go_simp
                refine hK.out _ _ hHeld (fun hHeld => ?_)
                clear hK K
                (try simp only [Act.put, List.setIfInBounds_toArray, List.set_cons_zero, List.set_cons_succ])
                refine wpAnyH_ready (rs := [7]) (by kernel_rfl) (by simp) ?_
                refine AllReadyH.cons rfl (fun K hK => ?_) AllReadyH.nil
                refine step_append_lies _ (by rfl) _ _ _ (by rfl) v0.heap.size 30 i0 _ 5 56 Try.underlying23 hi hz0 hz1 hz2 rfl (by omega) (.slice a k c) k (flat5 rs) (by rfl) ((own_below (own_below HO.out.row ((Below.refl wr.heap.size wr).drew)) hb4).alloc _) ⟨w4.heap.size, 0, none⟩ 1 1 [.int .i64 (i : Int), .int .i64 (j : Int), .int .i64 (d : Int), .int .i64 (h : Int), .slice p m' c'] (by rfl) (by rfl) (cell_five_new _ _ _ _ _ _ _) (five_oneCell _ _ _ _ _ _ _) (by omega) (by unfold maxLen; omega) (by omega) (by simp; omega) (w4.heap.size + 1) (by simp) ?_
                intro gg cc w5 hown5 hgrow5 hat hltg
                refine hK.out _ _ ?_ (fun hHeld => ?_)
                · exact RowAt.grown hHeld hgrow5 (fun e => by have := (own_lt HO.out.row e).1; omega)
                clear hK K
                (try simp only [Act.put, List.setIfInBounds_toArray])
                have T4 : RowAt (w4.alloc (.cells #[.int .i64 (i : Int), .int .i64 (j : Int), .int .i64 (d : Int), .int .i64 (h : Int), .slice p m' c'] 30)) v.heap.size #[.int .i64 R, .int .i64 C, .slice a k c] 25 := (HTb.out.drew.below hb4 lv).alloc _
                have T5 := RowAt.grown T4 hgrow5 (fun e => by have := (own_lt HO.out.row e).1; omega)
                have p2 : w5.cell? ⟨v.heap.size, 2, none⟩ = some (.slice a k c) := T5.cell 2
                have p3 := T5.frozen 2
                refine wpAnyH_take (i := 8) (v := .pointer (some ⟨v.heap.size, 2, none⟩)) rfl (by kernel_rfl) (by kernel_rfl) (by kernel_rfl) (fun _ _ _ h => h) (Or.inl ⟨by rfl, fun w' _ => by go_simp⟩) hHeld ?_
                (try simp only [Act.put])
                refine wpAnyH_ready (rs := [9]) (by kernel_rfl) (by simp) ?_
                refine AllReadyH.cons rfl (fun K hK => ?_) AllReadyH.nil
                go_simp
                refine hK.out _ _ (RowAt.other hHeld _ _ (by simp; omega)) (fun _ => ?_)
                clear hK K
                refine wpAnyH_done (by kernel_rfl) ?_ _
                refine NoPanic.normal ?_
                go_wp2_with fail
                go_roundw
                case rel =>
                  have lo4 : OwnR w4 v0.heap.size (.slice a k c) rs := own_below (own_below HO.out ((Below.refl wr.heap.size wr).drew)) hb4
                  have tO : Own w5 v0.heap.size (.slice p m' c') tx := own_grown (Own.alloc (own_less hOw (by simp only [World.size_drew]; omega)) _) hgrow5 (fun g hg => own_kinds lo4 hOw (by decide) g hg)
                  have lr := lo4.len
                  have rO : OwnR w5 v0.heap.size (.slice (some ⟨gg, 0, none⟩) (k + 1) cc) (rs ++ [((i : Int), (j : Int), (d : Int), (h : Int), p, m', c')]) := OwnR.snoc hown5 (by omega) rfl
                  have t4 : TxtOwn w4 v0.heap.size (Value.slice a k c).ownBlock rs (l.take k) := (HXt.out.below ((Below.refl wr.heap.size wr).drew)).below hb4
                  have t5 : TxtOwn w5 v0.heap.size (Value.slice a k c).ownBlock rs (l.take k) := (t4.below ((Below.refl _ _).alloc (Nat.le_refl _) _)).grown hgrow5 (fun q hq b hb => t4.2.2.1 q hq b hb)
                  obtain ⟨a0, b0', d0, h0, el, _, _, hd0, hh0⟩ := HR.out.cell k hkl
                  have ea : a0 = i := by have := HE.out.1; rw [el] at this; simpa [stR] using this
                  have eb : b0' = j := by have := HE.out.2; rw [el] at this; simpa [stC] using this
                  subst ea eb
                  have ed := hDn.uniq hd0
                  have eh := hRt.uniq hh0
                  subst ed eh
                  have t6 := t5.snoc (C := wr.heap.size) (x := ((a0 : Int), (b0' : Int), (d : Int), (h : Int), p, m', c')) (y := l.getD k cl0) (by rw [el, ← HTXE.out]; exact ⟨rfl, rfl, rfl, rfl, tO⟩) (fun g hg => own_kinds lo4 hOw (by decide) g hg) (fun q hq g hg => HXt.out.blockLt q hq g hg) (fun g hg => by have := (own_lt hOw.row hg).1; simpa using this)
                  rw [show l.take k ++ [l.getD k cl0] = l.take (k + 1) from by rw [List.take_succ_eq_append_getElem hkl]; simp [List.getD, hkl]] at t6
                  have B5 : Below v.heap.size v w5 := (((HB.out.drew).trans (hb4.mono (by simp only [World.size_drew]; omega))).alloc (by omega) _).grown hgrow5 (by simp; omega) (fun q hq => by have := (own_lt HO.out.row hq).1; omega)
                  have s5 := hgrow5.size
                  simp at s5
                  refine ⟨b0' + 1, by omega, by go_num, k + 1, x ||| 2 ^ m, _, some ⟨gg, 0, none⟩, cc, HA'.out, by rw [or_pow x m hx26 hm], HM.out.snoc hm HMm.out (fun p' q' => by unfold vis; omega), T5.setCell 2 _, own_set rO _ _ (fun e => by have := (own_lt rO.row e).1; simp at this; omega), (t6.anew rO).setLow _ _ (by simp; omega), B5.setCell (Nat.le_refl _) _, by simp [World.setCell]; omega⟩
                case measure => simp [intOf]; omega
          · have HBt : Hid (x.testBit m = true) := hbt
            clear hbt
            go_wp2_with (go_at_call 50; refine (numHas_is HBt.out hx26 hm _).mono ?_; rintro e w4 ⟨rfl, hw4⟩; subst w4)
            go_roundw
            case rel =>
              have hold : ∃ p q, vis i j C p q ∧ f (p * 5 + q) = f (i * 5 + j) := by
                rw [HMm.out]
                exact (HM.out.2 m).1 HBt.out
              refine ⟨j + 1, by omega, by go_num, k, x, rs, a, c, HA.out.old HR.out hold, rfl, ?_, HTb.out, HO.out, HXt.out, HB.out, hs⟩
              obtain ⟨p, q, h1, h2⟩ := hold
              refine ⟨HM.out.1, fun y => ?_⟩
              rw [HM.out.2 y]
              constructor
              · rintro ⟨p', q', h3, h4⟩
                exact ⟨p', q', by unfold vis at h3 ⊢; omega, h4⟩
              · rintro ⟨p', q', h3, h4⟩
                by_cases hh : p' = i ∧ q' = j
                · obtain ⟨rfl, rfl⟩ := hh
                  exact ⟨p, q, h1, h2.trans h4⟩
                · exact ⟨p', q', by unfold vis at h3 ⊢; omega, h4⟩
            case measure => simp [intOf]; omega
        · clear hA hM hT hO hX hb
          go_wp2_with fail
          go_roundw
          case rel =>
            have e1 : j = C := by omega
            refine ⟨i + 1, by omega, by go_num, k, x, rs, a, c, ?_, rfl, ?_, HTb.out, HO.out, HXt.out, HB.out, hs⟩
            · have := HA.out
              rw [e1] at this
              exact this.row
            · have := HM.out
              rw [e1] at this
              exact this.same (fun p q => by unfold vis; omega)
          case measure => simp [intOf]; omega
    · have hkl : k = l.length := by
        rcases Nat.lt_or_ge k l.length with h1 | h1
        · obtain ⟨a0, b0, d0, h0, el, ha0, hb0, _, _⟩ := HR.out.cell k h1
          refine absurd ?_ (HA.out.2.2 k (Nat.le_refl _) h1)
          rw [el]
          simp [stR, stC, vis]
          omega
        · have := HA.out.1
          omega
      subst hkl
      have k0 : wr.cell? ⟨v.heap.size, 0, none⟩ = some (.int .i64 R) := HTb.out.cell 0
      have k1 : wr.cell? ⟨v.heap.size, 1, none⟩ = some (.int .i64 C) := HTb.out.cell 1
      have k2 : wr.cell? ⟨v.heap.size, 2, none⟩ = some (.slice a l.length c) := HTb.out.cell 2
      have HG1 : Hid (RowAt wr (w.heap.size + 1) #[.int .i64 0, .int .i64 0, .slice none 0 0] 25) := G1.below HB.out z1
      go_wp2_with (refine wpList_store_row rfl 25 (.tmp 2) (.tmp 48) rfl (w.heap.size + 1) #[.int .i64 R, .int .i64 C, .slice a l.length c] rfl rfl 25 _ HG1.out tab_info rfl (cells3_one _ _ _ _ _) ?_)
      refine bodyPost_ret (v := .agg #[.int .i64 R, .int .i64 C, .slice a l.length c]) (results_cell_row (p := 2) (ty := 25) rfl _ _ (w.heap.size + 1) 25 _ _ _ rfl (RowAt.setRow HG1.out _) Try.underlying25 rfl tab_info) rfl ⟨⟨a, c, rs, rfl, ?_⟩, below_row (B0.trans (HB.out.mono s01)) (by omega) _⟩
      have hX := HXt.out
      rw [List.take_of_length_le (Nat.le_refl _)] at hX
      exact OwnT.less (B' := v0.heap.size) ⟨own_row HO.out _ _ (fun e => by have := (own_lt HO.out.row e).1; omega), hX.rowLow _ _ (by omega)⟩ (by omega)
end Go.Proofs.Ytafkbjefmookjaa
namespace Go.Proofs.Ytafkbjefmookjaa
open Go.RowKit

/-- The squares turned. -/
def turnF (f : Nat → Nat) : Nat → Nat := fun k => f (k % 5 * 5 + k / 5)
def turnP (f : Nat → Nat) (i j : Nat) : Nat → Nat := fun k => if k % 5 < i ∨ (k % 5 = i ∧ k / 5 < j) then f (k % 5 * 5 + k / 5) else f k
theorem turnP_zero (f : Nat → Nat) : turnP f 0 0 = f := by
  funext k
  unfold turnP
  rw [if_neg (by omega)]
theorem turnP_row (f : Nat → Nat) (i : Nat) (n n' : Nat) (R C : Int) (t : Nat → Sl) (_ : n = n') : gridA R C n (turnP f i 5) t = gridA R C n (turnP f (i + 1) 0) t := by
  apply Array.ext_getElem?
  intro k
  rw [gridA_get, gridA_get]
  by_cases h : k < 28
  · by_cases h3 : k < 3
    · match k, h3 with
      | 0, _ => rfl
      | 1, _ => rfl
      | 2, _ => rfl
    · have e : turnP f i 5 (k - 3) = turnP f (i + 1) 0 (k - 3) := by
        unfold turnP
        by_cases hh : (k - 3) % 5 < i ∨ ((k - 3) % 5 = i ∧ (k - 3) / 5 < 5)
        · rw [if_pos hh, if_pos (by omega)]
        · rw [if_neg hh, if_neg (by omega)]
      rw [e]
  · rw [if_neg (show ¬ k = 0 by omega), if_neg (show ¬ k = 1 by omega), if_neg (show ¬ k = 2 by omega), if_neg h, if_neg (show ¬ k = 0 by omega), if_neg (show ¬ k = 1 by omega), if_neg (show ¬ k = 2 by omega), if_neg h]
theorem turnP_end (f : Nat → Nat) : turnP f 5 0 = turnF f := by
  funext k
  unfold turnP turnF
  rw [if_pos (by omega)]
theorem turnP_upd (f : Nat → Nat) (i j : Nat) (hi : i < 5) : upd (turnP f i j) (j * 5 + i) (f (i * 5 + j)) = turnP f i (j + 1) := by
  funext k
  unfold upd turnP
  by_cases h0 : k = j * 5 + i
  · rw [if_pos h0, if_pos (by omega), show k % 5 * 5 + k / 5 = i * 5 + j from by omega]
  · rw [if_neg h0]
    by_cases hh : k % 5 < i ∨ (k % 5 = i ∧ k / 5 < j)
    · rw [if_pos hh, if_pos (by omega)]
    · rw [if_neg hh, if_neg (by omega)]
def wasL (f : Nat → Nat) : List Value := (List.range 25).map fun k => Value.int .i64 (f k)
theorem wasL_len (f : Nat → Nat) : (wasL f).length = 25 := by simp [wasL]
theorem wasL_get (f : Nat → Nat) (k : Nat) (h : k < 25) : (wasL f).toArray[k]? = some (.int .i64 (f k)) := by simp [wasL, h]
theorem wasL_one (f : Nat → Nat) : (wasL f).toArray.all (·.oneCell') = true := by
  refine Array.all_eq_true_iff_forall_mem.2 ?_
  intro v hv
  simp only [wasL, List.mem_toArray, List.mem_map] at hv
  obtain ⟨k, _, rfl⟩ := hv
  rfl
theorem was_range {w : World} {b : Nat} {R C : Int} {n : Nat} {f : Nat → Nat} {t : Nat → Sl} (h : GridAt w b R C n f t) : w.rangeAt b 3 (wasL f) := by
  intro j v hv
  have hj : j < 25 := by
    have := (List.getElem?_eq_some_iff.1 hv).1
    rwa [wasL_len] at this
  rw [h.num j hj]
  simpa [wasL, hj] using hv
theorem was_zero : (wasL fun _ => 0).toArray = #[.int .i64 0, .int .i64 0, .int .i64 0, .int .i64 0, .int .i64 0, .int .i64 0, .int .i64 0, .int .i64 0, .int .i64 0, .int .i64 0, .int .i64 0, .int .i64 0, .int .i64 0, .int .i64 0, .int .i64 0, .int .i64 0, .int .i64 0, .int .i64 0, .int .i64 0, .int .i64 0, .int .i64 0, .int .i64 0, .int .i64 0, .int .i64 0, .int .i64 0] := rfl
theorem was_info (f : Nat → Nat) : (Try.prog.info? 47).map (·.size) = some (wasL f).length := by rw [wasL_len]; kernel_rfl
theorem gridA_set_rows (R R' C : Int) (n : Nat) (f : Nat → Nat) (t : Nat → Sl) : (gridA R C n f t).setIfInBounds 0 (.int .i64 R') = gridA R' C n f t := by
  apply Array.ext_getElem?
  intro i
  rw [Array.getElem?_setIfInBounds, gridA_get, gridA_get, gridA_size]
  by_cases h : 0 = i
  · subst h; rfl
  · rw [if_neg h]
    by_cases h3 : i = 0
    · exact absurd h3.symm h
    · simp only [if_neg h3]
theorem gridA_set_cols (R C C' : Int) (n : Nat) (f : Nat → Nat) (t : Nat → Sl) : (gridA R C n f t).setIfInBounds 1 (.int .i64 C') = gridA R C' n f t := by
  apply Array.ext_getElem?
  intro i
  rw [Array.getElem?_setIfInBounds, gridA_get, gridA_get, gridA_size]
  by_cases h : 1 = i
  · subst h; rfl
  · rw [if_neg h]
    by_cases h3 : i = 1
    · exact absurd h3.symm h
    · simp only [if_neg h3]

set_option maxRecDepth 100000 in
set_option maxHeartbeats 4000000 in
theorem turn_any (R C : Int) (n : Nat) (f : Nat → Nat) (t : Nat → Sl) (w : World) :
    Calls Try.prog 29 #[.agg (gridA R C n f t)] w fun z w' => z = .returned (.agg (gridA C R n (turnF f) t)) ∧ Below w.heap.size w w' := by
  go_enter Try.func29, Try.ntmps29
  go_upto_region 1 with fail
  rw [← grid_zero]
  have B0 : Below w.heap.size w ((w.alloc (.cells (gridA R C n f t) 50)).alloc (.cells (gridA 0 0 0 (fun _ => 0) (fun _ => sl0)) 50)) := ((Below.refl _ _).alloc (Nat.le_refl _) _).alloc (by simp) _
  have G0 : GridAt ((w.alloc (.cells (gridA R C n f t) 50)).alloc (.cells (gridA 0 0 0 (fun _ => 0) (fun _ => sl0)) 50)) w.heap.size R C n f t := (gridAt_new w R C n f t).alloc _
  have G1 : GridAt ((w.alloc (.cells (gridA R C n f t) 50)).alloc (.cells (gridA 0 0 0 (fun _ => 0) (fun _ => sl0)) 50)) (w.heap.size + 1) 0 0 0 (fun _ => 0) (fun _ => sl0) := by
    have := gridAt_new (w.alloc (.cells (gridA R C n f t) 50)) 0 0 0 (fun _ => 0) (fun _ => sl0)
    simpa using this
  generalize ((w.alloc (.cells (gridA R C n f t) 50)).alloc (.cells (gridA 0 0 0 (fun _ => 0) (fun _ => sl0)) 50)) = v at B0 G0 G1 ⊢
  have HR : Hid (v.rangeAt w.heap.size 3 (wasL f)) := was_range G0
  go_upto_region 2 with (first | (refine wpList_load_mid rfl 47 (.tmp 6) rfl w.heap.size 3 rfl (wasL f) _ HR.out Try.underlying47 rfl (was_info f) ?_) | (rw [← was_zero]; refine wpList_store_row rfl 47 (.tmp 3) (.tmp 7) rfl v.heap.size (wasL f).toArray rfl rfl 47 _ (rowAt_new _ _ _) (by rw [List.size_toArray]; exact was_info f) (by simp [wasL_len]) (wasL_one f) ?_))
  have W0 : RowAt ((v.alloc (.cells (wasL fun _ => 0).toArray 47)).setRow v.heap.size (wasL f).toArray) v.heap.size (wasL f).toArray 47 := RowAt.setRow (rowAt_new _ _ _) _
  have z0 := G0.lt
  have z1 := G1.lt
  have B1 : Below w.heap.size w ((v.alloc (.cells (wasL fun _ => 0).toArray 47)).setRow v.heap.size (wasL f).toArray) := below_row (B0.alloc B0.size _) B0.size _
  have G2 : GridAt ((v.alloc (.cells (wasL fun _ => 0).toArray 47)).setRow v.heap.size (wasL f).toArray) w.heap.size R C n f t := RowAt.setRowOther (G0.alloc _) _ _ (by omega)
  have G3 : GridAt ((v.alloc (.cells (wasL fun _ => 0).toArray 47)).setRow v.heap.size (wasL f).toArray) (w.heap.size + 1) 0 0 0 (fun _ => 0) (fun _ => sl0) := RowAt.setRowOther (G1.alloc _) _ _ (by omega)
  clear G0 G1 B0 HR
  generalize ((v.alloc (.cells (wasL fun _ => 0).toArray 47)).setRow v.heap.size (wasL f).toArray) = v1 at W0 B1 G2 G3 ⊢
  go_wp2_with fail
  go_loopw [8] (fun iv wr => ∃ i : Nat, i ≤ 5 ∧ iv = .int .i64 i ∧ GridAt wr w.heap.size R C n (turnP f i 0) t ∧ GridAt wr (w.heap.size + 1) 0 0 0 (fun _ => 0) (fun _ => sl0) ∧ RowAt wr v.heap.size (wasL f).toArray 47 ∧ Below w.heap.size w wr) (fun iv _ => 5 - (intOf iv).toNat)
  case atStart => exact ⟨0, Nat.zero_le _, rfl, by rw [turnP_zero]; exact G2, G3, W0, B1⟩
  case round =>
    clear W0 B1 G2 G3
    obtain ⟨i, hi, rfl, hg, hz, hw, hb⟩ := hrel
    have HG : Hid (GridAt wr w.heap.size R C n (turnP f i 0) t) := hg
    have HZ : Hid (GridAt wr (w.heap.size + 1) 0 0 0 (fun _ => 0) (fun _ => sl0)) := hz
    have HW : Hid (RowAt wr v.heap.size (wasL f).toArray 47) := hw
    have HB : Hid (Below w.heap.size w wr) := hb
    clear hg hz hw hb
    by_cases hlt : i < 5
    · go_wp2_with fail
      go_loopw [11] (fun jv wr => ∃ j : Nat, j ≤ 5 ∧ jv = .int .i64 j ∧ GridAt wr w.heap.size R C n (turnP f i j) t ∧ GridAt wr (w.heap.size + 1) 0 0 0 (fun _ => 0) (fun _ => sl0) ∧ RowAt wr v.heap.size (wasL f).toArray 47 ∧ Below w.heap.size w wr) (fun jv _ => 5 - (intOf jv).toNat)
      case atStart => exact ⟨0, Nat.zero_le _, rfl, HG.out, HZ.out, HW.out, HB.out⟩
      case round =>
        clear HG HZ HW HB
        obtain ⟨j, hj, rfl, hg, hz, hw, hb⟩ := hrel
        have HG : Hid (GridAt wr w.heap.size R C n (turnP f i j) t) := hg
        have HZ : Hid (GridAt wr (w.heap.size + 1) 0 0 0 (fun _ => 0) (fun _ => sl0)) := hz
        have HW : Hid (RowAt wr v.heap.size (wasL f).toArray 47) := hw
        have HB : Hid (Below w.heap.size w wr) := hb
        by_cases hlj : j < 5
        · have q := hg.num (j * 5 + i) (by omega)
          have fz := hg.frozen (3 + (j * 5 + i))
          rw [← Nat.add_assoc] at q fz
          have k0 : wr.cell? ⟨v.heap.size, i * 5 + j, none⟩ = some (.int .i64 (f (i * 5 + j))) := (hw.cell _).trans (wasL_get f _ (by omega))
          have b0 : (i : Int) < 5 := by omega
          have b1 : (j : Int) < 5 := by omega
          obtain ⟨m, HM⟩ : ∃ m, Hid (f (i * 5 + j) = m) := ⟨_, rfl⟩
          rw [HM.out] at k0
          clear hg hz hw hb
          go_wp2_with fail
          go_region
          all_goals go_wp2_with fail
          all_goals go_roundw
          case rel =>
            have sN := HG.out.setNum (j * 5 + i) m (by omega)
            rw [← HM.out, turnP_upd f i j hlt, ← Nat.add_assoc, HM.out] at sN
            exact ⟨j + 1, by omega, by go_num, sN, HZ.out.other _ _ (by simp <;> omega), HW.out.other _ _ (by simp <;> omega), HB.out.drew.setCell (Nat.le_refl _) _⟩
          case measure => simp [intOf]; omega
        · clear hg hz hw hb
          go_wp2_with fail
          go_roundw
          case rel =>
            have hh := HG.out
            rw [show j = 5 from by omega] at hh
            unfold GridAt at hh
            rw [turnP_row f i n n R C t rfl] at hh
            exact ⟨i + 1, by omega, by go_num, hh, HZ.out, HW.out, HB.out⟩
          case measure => simp [intOf]; omega
    · have e5 : i = 5 := by omega
      subst e5
      have g0 := HG.out
      rw [turnP_end] at g0
      have p0 := g0.rows
      have p1 := g0.cols
      have p2 := g0.frozen 0
      have p3 := g0.frozen 1
      have HG5 : Hid (GridAt wr w.heap.size R C n (turnF f) t) := g0
      clear g0 HG HW
      go_upto_region 12 with fail
      have GA : GridAt ((wr.setCell ⟨w.heap.size, 0, none⟩ (.int .i64 C)).setCell ⟨w.heap.size, 1, none⟩ (.int .i64 R)) w.heap.size C R n (turnF f) t := by
        have h1 : GridAt (wr.setCell ⟨w.heap.size, 0, none⟩ (.int .i64 C)) w.heap.size C C n (turnF f) t := by
          unfold GridAt
          rw [← gridA_set_rows R C C]
          exact RowAt.setCell HG5.out 0 _
        unfold GridAt
        rw [← gridA_set_cols C C R]
        exact RowAt.setCell h1 1 _
      have GB : GridAt ((wr.setCell ⟨w.heap.size, 0, none⟩ (.int .i64 C)).setCell ⟨w.heap.size, 1, none⟩ (.int .i64 R)) (w.heap.size + 1) 0 0 0 (fun _ => 0) (fun _ => sl0) := (HZ.out.other ⟨w.heap.size, 0, none⟩ (.int .i64 C) (by simp)).other ⟨w.heap.size, 1, none⟩ (.int .i64 R) (by simp)
      have BC : Below w.heap.size w ((wr.setCell ⟨w.heap.size, 0, none⟩ (.int .i64 C)).setCell ⟨w.heap.size, 1, none⟩ (.int .i64 R)) := (HB.out.setCell (p := ⟨w.heap.size, 0, none⟩) (Nat.le_refl _) (.int .i64 C)).setCell (p := ⟨w.heap.size, 1, none⟩) (Nat.le_refl _) (.int .i64 R)
      clear p0 p1 p2 p3
      generalize ((wr.setCell ⟨w.heap.size, 0, none⟩ (.int .i64 C)).setCell ⟨w.heap.size, 1, none⟩ (.int .i64 R)) = w2 at GA GB BC ⊢
      have HGA : Hid (GridAt w2 w.heap.size C R n (turnF f) t) := GA
      have HGB : Hid (GridAt w2 (w.heap.size + 1) 0 0 0 (fun _ => 0) (fun _ => sl0)) := GB
      clear GA GB
      go_wp2_with (first | (refine wpList_load_row rfl 50 (.tmp 1) rfl w.heap.size rfl 50 (gridA C R n (turnF f) t) (0, 0) _ HGA.out Try.underlying50 rfl (grid_infoA _ _ _ _ _) ?_) | (refine wpList_store_row rfl 50 (.tmp 2) (.tmp 32) rfl (w.heap.size + 1) (gridA C R n (turnF f) t) rfl rfl 50 _ HGB.out (grid_infoA _ _ _ _ _) (by rw [gridA_size, gridA_size]) (gridA_one _ _ _ _ _) ?_))
      refine bodyPost_ret (v := .agg (gridA C R n (turnF f) t)) (results_cell_row (p := 2) (ty := 50) rfl _ _ (w.heap.size + 1) 50 _ _ _ rfl (RowAt.setRow HGB.out _) Try.underlying50 rfl (grid_infoA _ _ _ _ _)) rfl ⟨rfl, below_row BC (by omega) _⟩
end Go.Proofs.Ytafkbjefmookjaa
namespace Go.Proofs.Ytafkbjefmookjaa
open Go.RowKit

/-- A cell turned. -/
def turnC (x : Cl) : Cl := (x.2.1, x.1, x.2.2.2.1, x.2.2.1, x.2.2.2.2)
/-- A table's cells, turned. -/
def turnL (l : List Cl) : List Cl := sortC (l.map turnC)
theorem turnL_mem (l : List Cl) (y : Cl) : y ∈ turnL l ↔ ∃ x ∈ l, turnC x = y := by
  unfold turnL
  rw [(sortC_perm _).mem_iff, List.mem_map]
theorem turnL_len (l : List Cl) : (turnL l).length = l.length := by
  unfold turnL
  rw [(sortC_perm _).length_eq, List.length_map]
/-- Behind, or at the same place. -/
def leC (x y : Cl) : Prop := gtC x y = false
theorem gtC_iff (y x : Cl) : gtC y x = true ↔ (x.1 < y.1 ∨ y.1 = x.1 ∧ x.2.1 < y.2.1) := decide_eq_true_iff
theorem leC_iff (x y : Cl) : leC x y ↔ ¬ (y.1 < x.1 ∨ x.1 = y.1 ∧ y.2.1 < x.2.1) := by
  unfold leC
  rw [← Bool.not_eq_true, gtC_iff]
theorem insC_sorted (x : Cl) : ∀ l : List Cl, l.Pairwise leC → (insC x l).Pairwise leC
  | [], _ => by simp [insC]
  | y :: ys, h => by
    obtain ⟨h1, h2⟩ := List.pairwise_cons.1 h
    unfold insC
    split
    · rename_i hg
      rw [gtC_iff] at hg
      refine List.pairwise_cons.2 ⟨fun z hz => ?_, h⟩
      rcases List.mem_cons.1 hz with rfl | hz
      · rw [leC_iff]; omega
      · have := h1 z hz
        rw [leC_iff] at this ⊢
        omega
    · rename_i hg
      rw [gtC_iff] at hg
      refine List.pairwise_cons.2 ⟨fun z hz => ?_, insC_sorted x ys h2⟩
      rcases List.mem_cons.1 ((insC_perm x ys).mem_iff.1 hz) with rfl | hz
      · rw [leC_iff]; omega
      · exact h1 z hz
theorem sortC_sorted (l : List Cl) : (sortC l).Pairwise leC := by
  have key : ∀ (l o : List Cl), o.Pairwise leC → (l.foldl (fun o x => insC x o) o).Pairwise leC := by
    intro l
    induction l with
    | nil => intro o h; exact h
    | cons x l ih => intro o h; exact ih _ (insC_sorted x o h)
  exact key l [] List.Pairwise.nil
theorem turn_atF (f : Nat → Nat) (a b : Nat) (hb : b < 5) : turnF f (a * 5 + b) = f (b * 5 + a) := by
  unfold turnF
  rw [show (a * 5 + b) % 5 = b from by omega, show (a * 5 + b) / 5 = a from by omega]
section
variable {R C : Nat} {l : List Cl}
/-- A square has the number m + 1 just if it is of cell m. -/
theorem num_iff (h : okB R C l = true) (a b m : Nat) (hb : b < C) : numF l l.length (a * 5 + b) = m + 1 ↔ m < l.length ∧ inB (l.getD m cl0) a b = true := by
  obtain ⟨hR, hC, hs, _⟩ := gridP_of_okB h
  have hw : ∀ i, i < l.length → wiB R C (l.getD i cl0) = true := fun j hj => (stepB_of (hs j hj)).1
  constructor
  · intro e
    exact numF_pos l R C l.length hw a b m (by omega) e
  · rintro ⟨h1, h2⟩
    exact numF_of hC.2 hs h1 a b h2
theorem cell_nat (h : okB R C l = true) (m : Nat) (hm : m < l.length) : ∃ a b d g : Nat, l.getD m cl0 = ((a : Int), (b : Int), (d : Int), (g : Int), (l.getD m cl0).2.2.2.2) ∧ 1 ≤ d ∧ 1 ≤ g ∧ a + d ≤ R ∧ b + g ≤ C := by
  obtain ⟨_, _, hs, _⟩ := gridP_of_okB h
  obtain ⟨w1, w2, w3⟩ := wiB_of (stepB_of (hs m hm)).1
  obtain ⟨⟨x1, x2, x3, x4, x5⟩, hx⟩ : ∃ x, l.getD m cl0 = x := ⟨_, rfl⟩
  rw [hx] at w1 w2 w3 ⊢
  simp only at w1 w2 w3
  refine ⟨x1.toNat, x2.toNat, x3.toNat, x4.toNat, ?_, by omega, by omega, by omega, by omega⟩
  simp only [Prod.mk.injEq]
  refine ⟨by omega, by omega, by omega, by omega, trivial⟩
theorem inB_cell {a b d g : Nat} {t : List Sg} (p q : Nat) : inB ((a : Int), (b : Int), (d : Int), (g : Int), t) p q = true ↔ a ≤ p ∧ p < a + d ∧ b ≤ q ∧ q < b + g := by
  show decide ((a : Int) ≤ (p : Int) ∧ (p : Int) < (a : Int) + (d : Int) ∧ (b : Int) ≤ (q : Int) ∧ (q : Int) < (b : Int) + (g : Int)) = true ↔ _
  rw [decide_eq_true_eq]
  omega
theorem turnL_get (k : Nat) (hk : k < (turnL l).length) : ∃ m, m < l.length ∧ (turnL l).getD k cl0 = turnC (l.getD m cl0) := by
  have h1 : (turnL l).getD k cl0 ∈ turnL l := by simp [List.getD, hk]
  obtain ⟨x, hx, e⟩ := (turnL_mem l _).1 h1
  obtain ⟨m, hm, rfl⟩ := List.getElem_of_mem hx
  exact ⟨m, hm, by rw [← e]; simp [List.getD, hm]⟩
theorem starts_apart (h : okB R C l = true) : (turnL l).Pairwise (fun x y => ¬ (x.1 = y.1 ∧ x.2.1 = y.2.1)) := by
  have hf : formB R C l = true := by
    simp only [okB, Bool.and_eq_true] at h
    exact h.1
  obtain ⟨_, _, _, hat⟩ := formB_of hf
  have h1 : l.Pairwise (fun x y => ¬ (x.2.1 = y.2.1 ∧ x.1 = y.1)) := by
    rw [List.pairwise_iff_getElem]
    intro i j hi hj hij
    have := ahead_of (ahead_far hat j i hj hij)
    rw [getD_get hi, getD_get hj] at this
    omega
  have h2 : (l.map turnC).Pairwise (fun x y => ¬ (x.1 = y.1 ∧ x.2.1 = y.2.1)) := by
    rw [List.pairwise_map]
    exact h1
  exact (sortC_perm _).symm.pairwise h2 (fun hab hba => hab ⟨hba.1.symm, hba.2.symm⟩)
theorem turn_data (h : okB R C l = true) (k : Nat) (hk : k < (turnL l).length) : ∃ m a b d g : Nat, m < l.length ∧ l.getD m cl0 = ((a : Int), (b : Int), (d : Int), (g : Int), (l.getD m cl0).2.2.2.2) ∧ (turnL l).getD k cl0 = ((b : Int), (a : Int), (g : Int), (d : Int), (l.getD m cl0).2.2.2.2) ∧ 1 ≤ d ∧ 1 ≤ g ∧ a + d ≤ R ∧ b + g ≤ C := by
  obtain ⟨m, hm, e⟩ := turnL_get k hk
  obtain ⟨a, b, d, g, e2, h1, h2, h3, h4⟩ := cell_nat h m hm
  refine ⟨m, a, b, d, g, hm, e2, ?_, h1, h2, h3, h4⟩
  rw [e]
  generalize (l.getD m cl0).2.2.2.2 = t at e2 ⊢
  rw [e2]
  rfl
theorem rep_turn (h : okB R C l = true) : Rep C R (turnF (numF l l.length)) (turnL l) := by
  obtain ⟨hR, hC, hs, ht⟩ := gridP_of_okB h
  have hR5 : R ≤ 5 := by omega
  have hC5 : C ≤ 5 := by omega
  have key : ∀ k, k < (turnL l).length → ∃ m a b d g : Nat, m < l.length ∧ (turnL l).getD k cl0 = ((b : Int), (a : Int), (g : Int), (d : Int), (l.getD m cl0).2.2.2.2) ∧ 1 ≤ d ∧ 1 ≤ g ∧ a + d ≤ R ∧ b + g ≤ C ∧ stR ((turnL l).getD k cl0) = b ∧ stC ((turnL l).getD k cl0) = a ∧ ∀ p q, q < C → (numF l l.length (p * 5 + q) = m + 1 ↔ a ≤ p ∧ p < a + d ∧ b ≤ q ∧ q < b + g) := by
    intro k hk
    obtain ⟨m, a, b, d, g, hm, e2, e3, h1, h2, h3, h4⟩ := turn_data h k hk
    refine ⟨m, a, b, d, g, hm, e3, h1, h2, h3, h4, by rw [e3]; simp [stR], by rw [e3]; simp [stC], ?_⟩
    intro p q hq
    rw [num_iff h p q m hq, e2, inB_cell]
    exact ⟨fun hh => hh.2, fun hh => ⟨hm, hh⟩⟩
  constructor
  · intro k hk
    obtain ⟨m, a, b, d, g, hm, e3, h1, h2, h3, h4, _, _, hnum⟩ := key k hk
    have n0 := (hnum a b (by omega)).2 (by omega)
    refine ⟨b, a, g, d, by rw [e3], by omega, by omega, ⟨fun i hi => ⟨by omega, ?_⟩, ?_⟩, fun j hj => ⟨by omega, ?_⟩, ?_⟩
    · rw [turn_atF _ _ _ (by omega), turn_atF _ _ _ (by omega), n0]
      exact (hnum a (b + i) (by omega)).2 (by omega)
    · rintro ⟨q1, q2⟩
      rw [turn_atF _ _ _ (by omega), turn_atF _ _ _ (by omega), n0] at q2
      have := (hnum a (b + g) q1).1 q2
      omega
    · rw [turn_atF _ _ _ (by omega), turn_atF _ _ _ (by omega), n0]
      exact (hnum (a + j) b (by omega)).2 (by omega)
    · rintro ⟨q1, q2⟩
      rw [turn_atF _ _ _ (by omega), turn_atF _ _ _ (by omega), n0] at q2
      have := (hnum (a + d) b (by omega)).1 q2
      omega
  · intro i k hik hk
    obtain ⟨m, a, b, d, g, hm, e3, h1, h2, h3, h4, s1, s2, _⟩ := key k hk
    obtain ⟨m', a', b', d', g', hm', e3', h1', h2', h3', h4', s1', s2', _⟩ := key i (by omega)
    have hle := List.pairwise_iff_getElem.1 (sortC_sorted (l.map turnC)) i k (show i < (turnL l).length by omega) hk hik
    have hne := List.pairwise_iff_getElem.1 (starts_apart h) i k (by omega) hk hik
    rw [leC_iff] at hle
    have g1 : (turnL l)[i]'(by omega) = (turnL l).getD i cl0 := (getD_get (by omega)).symm
    have g2 : (turnL l)[k] = (turnL l).getD k cl0 := (getD_get hk).symm
    have hle' : ¬ (((turnL l).getD k cl0).1 < ((turnL l).getD i cl0).1 ∨ ((turnL l).getD i cl0).1 = ((turnL l).getD k cl0).1 ∧ ((turnL l).getD k cl0).2.1 < ((turnL l).getD i cl0).2.1) := by
      rw [← g1, ← g2]
      exact hle
    rw [g1, g2] at hne
    rw [s1, s2, s1', s2']
    rw [e3, e3'] at hle' hne
    simp only at hle' hne
    unfold vis
    omega
  · intro k hk p q hv
    obtain ⟨m, a, b, d, g, hm, e3, h1, h2, h3, h4, s1, s2, hnum⟩ := key k hk
    rw [s1, s2] at hv ⊢
    have n0 := (hnum a b (by omega)).2 (by omega)
    have hq : q < 5 ∧ p < C := by unfold vis at hv; omega
    rw [turn_atF _ _ _ hq.1, turn_atF _ _ _ (by omega), n0]
    intro e
    have := (hnum q p hq.2).1 e
    unfold vis at hv
    omega
  · intro p q hv
    have hpq : p < C ∧ q < R := by unfold vis at hv; omega
    have h1 := (ht q p (by unfold vis; simp; omega)).1
    obtain ⟨m, hm⟩ : ∃ m, numF l l.length (q * 5 + p) = m + 1 := ⟨numF l l.length (q * 5 + p) - 1, by omega⟩
    obtain ⟨hml, hin⟩ := (num_iff h q p m hpq.1).1 hm
    obtain ⟨a, b, d, g, e2, q1, q2, q3, q4⟩ := cell_nat h m hml
    rw [e2, inB_cell] at hin
    by_cases hst : b = p ∧ a = q
    · left
      have hmem : turnC (l.getD m cl0) ∈ turnL l := (turnL_mem l _).2 ⟨l.getD m cl0, by simp [List.getD, hml], rfl⟩
      obtain ⟨k, hk, e⟩ := List.getElem_of_mem hmem
      refine ⟨k, hk, ?_, ?_⟩
      · rw [getD_get hk, e, e2]
        simp [turnC, stR, hst.1]
      · rw [getD_get hk, e, e2]
        simp [turnC, stC, hst.2]
    · right
      refine ⟨b, a, by unfold vis; omega, ?_⟩
      rw [turn_atF _ _ _ (by omega), turn_atF _ _ _ (by omega), hm]
      rw [num_iff h a b m (by omega), e2, inB_cell]
      exact ⟨hml, by omega⟩
end
end Go.Proofs.Ytafkbjefmookjaa
namespace Go.Proofs.Ytafkbjefmookjaa
open Go.RowKit

/-- So many squares has a cell. -/
def areaN (x : Cl) : Nat := x.2.2.1.toNat * x.2.2.2.1.toNat
def areaL (l : List Cl) : Nat := (l.map areaN).sum
def sumN (n : Nat) (f : Nat → Nat) : Nat := ((List.range n).map f).sum
theorem sumN_succ (n : Nat) (f : Nat → Nat) : sumN (n + 1) f = sumN n f + f n := by
  unfold sumN
  rw [List.range_succ, List.map_append, List.sum_append]
  simp
theorem sumN_add (n : Nat) (f g : Nat → Nat) : sumN n (fun i => f i + g i) = sumN n f + sumN n g := by
  induction n with
  | zero => rfl
  | succ n ih => rw [sumN_succ, sumN_succ, sumN_succ, ih]; omega
theorem sumN_mul (n k : Nat) (f : Nat → Nat) : sumN n (fun i => f i * k) = sumN n f * k := by
  induction n with
  | zero => simp [sumN]
  | succ n ih => rw [sumN_succ, sumN_succ, ih, Nat.add_mul]
theorem sumN_congr {n : Nat} {f g : Nat → Nat} (h : ∀ i, i < n → f i = g i) : sumN n f = sumN n g := by
  induction n with
  | zero => rfl
  | succ n ih => rw [sumN_succ, sumN_succ, ih (fun i hi => h i (by omega)), h n (by omega)]
theorem sumN_one (n k : Nat) : sumN n (fun _ => k) = n * k := by
  induction n with
  | zero => simp [sumN]
  | succ n ih => rw [sumN_succ, ih, Nat.succ_mul]
theorem sumN_zero (n : Nat) : sumN n (fun _ => 0) = 0 := by rw [sumN_one]; simp
/-- How many places of a stretch are among the first n. -/
theorem sumN_in (n a d : Nat) : sumN n (fun p => if a ≤ p ∧ p < a + d then 1 else 0) = min n (a + d) - min n a := by
  induction n with
  | zero => simp [sumN]
  | succ n ih =>
    rw [sumN_succ, ih]
    split <;> omega
theorem area_cell (R C a b d g : Nat) (h1 : a + d ≤ R) (h2 : b + g ≤ C) : sumN R (fun p => sumN C (fun q => if a ≤ p ∧ p < a + d ∧ b ≤ q ∧ q < b + g then 1 else 0)) = d * g := by
  have e : ∀ p, p < R → sumN C (fun q => if a ≤ p ∧ p < a + d ∧ b ≤ q ∧ q < b + g then 1 else 0) = (if a ≤ p ∧ p < a + d then 1 else 0) * g := by
    intro p _
    by_cases hp : a ≤ p ∧ p < a + d
    · rw [if_pos hp, Nat.one_mul]
      have : sumN C (fun q => if a ≤ p ∧ p < a + d ∧ b ≤ q ∧ q < b + g then 1 else 0) = sumN C (fun q => if b ≤ q ∧ q < b + g then 1 else 0) := sumN_congr (fun q _ => by
        by_cases hq : b ≤ q ∧ q < b + g
        · rw [if_pos hq, if_pos ⟨hp.1, hp.2, hq.1, hq.2⟩]
        · rw [if_neg hq, if_neg (by omega)])
      rw [this, sumN_in]
      omega
    · rw [if_neg hp, Nat.zero_mul]
      rw [sumN_congr (g := fun _ => 0) (fun q _ => if_neg (by omega)), sumN_zero]
  rw [sumN_congr e, sumN_mul, sumN_in]
  congr 1
  omega
theorem cnt_sum (R C : Nat) : ∀ l : List Cl, (∀ x ∈ l, ∃ (a b d g : Nat) (t : List Sg), x = ((a : Int), (b : Int), (d : Int), (g : Int), t) ∧ a + d ≤ R ∧ b + g ≤ C) → sumN R (fun p => sumN C (fun q => l.countP (fun x => inB x p q))) = areaL l
  | [], _ => by
    simp only [List.countP_nil]
    rw [sumN_congr (g := fun _ => 0) (fun p _ => sumN_zero C), sumN_zero]
    rfl
  | x :: l, h => by
    have ih := cnt_sum R C l (fun y hy => h y (List.mem_cons_of_mem _ hy))
    obtain ⟨a, b, d, g, t, e, h1, h2⟩ := h x (List.mem_cons_self ..)
    have e1 : ∀ p, p < R → sumN C (fun q => (x :: l).countP (fun x => inB x p q)) = sumN C (fun q => l.countP (fun x => inB x p q)) + sumN C (fun q => if a ≤ p ∧ p < a + d ∧ b ≤ q ∧ q < b + g then 1 else 0) := by
      intro p _
      rw [← sumN_add]
      refine sumN_congr (fun q _ => ?_)
      rw [List.countP_cons]
      congr 1
      have := inB_cell (a := a) (b := b) (d := d) (g := g) (t := t) p q
      rw [e]
      by_cases hq : a ≤ p ∧ p < a + d ∧ b ≤ q ∧ q < b + g
      · rw [if_pos hq, if_pos (this.2 hq)]
      · rw [if_neg hq, if_neg (fun hh => hq (this.1 hh))]
    rw [sumN_congr e1, sumN_add, ih, area_cell R C a b d g h1 h2]
    show areaL l + d * g = areaN x + areaL l
    rw [e]
    unfold areaN
    simp only [Int.toNat_natCast]
    omega
/-- The cells of a table that is ok have as many squares as it. -/
theorem area_ok {R C : Nat} {l : List Cl} (h : okB R C l = true) : areaL l = R * C := by
  have h1 := cnt_sum R C l (fun x hx => by
    obtain ⟨m, hm, e⟩ := List.getElem_of_mem hx
    rw [← getD_get hm] at e
    obtain ⟨a, b, d, g, e', q1, q2, q3, q4⟩ := cell_nat h m hm
    exact ⟨a, b, d, g, _, by rw [← e]; exact e', q3, q4⟩)
  rw [← h1]
  have e : ∀ p, p < R → sumN C (fun q => l.countP (fun x => inB x p q)) = C := by
    intro p hp
    have e2 : sumN C (fun q => l.countP (fun x => inB x p q)) = sumN C (fun _ => 1) := sumN_congr (fun q hq => okB_cnt h p q (by omega) (by omega))
    rw [e2, sumN_one, Nat.mul_one]
  rw [sumN_congr e, sumN_one]
theorem areaL_take (l : List Cl) (i : Nat) (h : i < l.length) : areaL (l.take (i + 1)) = areaL (l.take i) + areaN (l.getD i cl0) := by
  unfold areaL
  rw [List.take_succ_eq_append_getElem h, List.map_append, List.sum_append]
  simp [List.getD, h]
theorem areaL_le (l : List Cl) (i : Nat) : areaL (l.take i) ≤ areaL l := by
  unfold areaL
  conv => rhs; rw [← List.take_append_drop i l, List.map_append, List.sum_append]
  omega
end Go.Proofs.Ytafkbjefmookjaa
namespace Go.Proofs.Ytafkbjefmookjaa
open Go.RowKit

set_option maxRecDepth 100000 in
set_option maxHeartbeats 8000000 in
theorem lawTabOk_walk (a : Option Addr) (n cap : Nat) (zs : List Int) (w : World) (h : Byt w.heap.size w a n cap zs) :
    Calls Try.prog 3 #[.slice a n cap] w fun e w' => e = .returned (.bool true) ∧ Below w.heap.size w w' := by
  have HY : Hid (Byt w.heap.size w a n cap zs) := h
  have hc := h.2.1
  have hm := h.2.2.1
  unfold maxLen at hm
  clear h
  by_cases hn : 1048576 < n
  · have hd : decide ((1048576 : Int) < (n : Int)) = true := by simp; omega
    go_enter Try.func3, Try.ntmps3
    go_wp2_with fail
    go_ret
    exact ⟨rfl, Below.refl _ _⟩
  have hd : decide ((1048576 : Int) < (n : Int)) = false := by simp; omega
  go_enter Try.func3, Try.ntmps3
  go_upto_region 4 with (go_at_call 7; refine (drawTableOk_any w.heap.size a n cap zs _ HY.out (Nat.le_refl _)).mono ?_; rintro e w1 ⟨⟨R, C, a', n', c', l, rfl, hT1, hS1⟩, hb1⟩)
  have s1 := hb1.size
  have G2 : RowAt (w1.alloc (.cells #[.int .i64 R, .int .i64 C, .slice a' n' c'] 25)) w1.heap.size #[.int .i64 R, .int .i64 C, .slice a' n' c'] 25 := rowAt_new _ _ _
  have T2 : Tab (w1.alloc (.cells #[.int .i64 R, .int .i64 C, .slice a' n' c'] 25)) a' n' c' l := hT1.below ((Below.refl _ _).alloc (Nat.le_refl _) _)
  have B2 : Below w.heap.size w (w1.alloc (.cells #[.int .i64 R, .int .i64 C, .slice a' n' c'] 25)) := hb1.alloc s1 _
  generalize (w1.alloc (.cells #[.int .i64 R, .int .i64 C, .slice a' n' c'] 25)) = v2 at G2 T2 B2 ⊢
  obtain ⟨T, hTe⟩ : ∃ T, w1.heap.size = T := ⟨_, rfl⟩
  rw [hTe] at G2 ⊢
  have zT := G2.lt
  have s2 := B2.size
  have HT2 : Hid (Tab v2 a' n' c' l) := T2
  have HB2 : Hid (Below w.heap.size w v2) := B2
  have HG2 : Hid (RowAt v2 T #[.int .i64 R, .int .i64 C, .slice a' n' c'] 25) := G2
  obtain ⟨hRb, hCb, hLb, -⟩ := hS1
  clear hT1 hb1 T2 B2 G2 hTe
  obtain ⟨ok, HO⟩ : ∃ o, Hid (okB R C l = o) := ⟨_, rfl⟩
  go_upto_region 5 with (first | (refine wpList_load_row rfl 25 (.tmp 3) rfl T rfl 25 #[.int .i64 R, .int .i64 C, .slice a' n' c'] (0, 0) _ HG2.out Try.underlying25 rfl tab_info ?_) | (go_at_call 8; refine (implTableOk_is HO.out HT2.out).mono ?_; rintro e w3 ⟨rfl, hb3⟩))
  have s3 := hb3.size
  have HT3 : Hid (Tab w3 a' n' c' l) := HT2.out.below hb3
  have HG3 : Hid (RowAt w3 T #[.int .i64 R, .int .i64 C, .slice a' n' c'] 25) := HG2.out.below hb3 zT
  have HB3 : Hid (Below w.heap.size w w3) := HB2.out.trans (hb3.mono s2)
  have zT3 : T < w3.heap.size := by omega
  clear hb3 HT2 HG2 HB2
  have okn : (ok != ok) = false := by simp
  have oke : (ok == ok) = true := by simp
  cases ok
  · go_wp2_with (first | (refine wpList_load_row rfl 25 (.tmp 3) rfl T rfl 25 #[.int .i64 R, .int .i64 C, .slice a' n' c'] (0, 0) _ HG3.out Try.underlying25 rfl tab_info ?_) | (go_at_call 9; refine (specTableOk_is HO.out HT3.out).mono ?_; rintro e w4 ⟨rfl, hb4⟩; have HG4 : Hid (RowAt w4 T #[.int .i64 R, .int .i64 C, .slice a' n' c'] 25) := HG3.out.below hb4 zT3; have HT4 : Hid (Tab w4 a' n' c' l) := HT3.out.below hb4; clear HG3 HT3) | (refine wpList_load_row rfl 25 (.tmp 3) rfl T rfl 25 #[.int .i64 R, .int .i64 C, .slice a' n' c'] (0, 0) _ HG4.out Try.underlying25 rfl tab_info ?_) | (go_at_call 9; refine (specTableOk_is HO.out HT4.out).mono ?_; rintro e w5 ⟨rfl, hb5⟩))
    go_ret
    exact ⟨rfl, (HB3.out.trans (hb4.mono (by omega))).trans (hb5.mono (by have := hb4.size; omega))⟩
  · go_upto_region 7 with (first | (refine wpList_load_row rfl 25 (.tmp 3) rfl T rfl 25 #[.int .i64 R, .int .i64 C, .slice a' n' c'] (0, 0) _ HG3.out Try.underlying25 rfl tab_info ?_) | (go_at_call 9; refine (specTableOk_is HO.out HT3.out).mono ?_; rintro e w4 ⟨rfl, hb4⟩; have HG4 : Hid (RowAt w4 T #[.int .i64 R, .int .i64 C, .slice a' n' c'] 25) := HG3.out.below hb4 zT3; have HT4 : Hid (Tab w4 a' n' c' l) := HT3.out.below hb4; clear HG3 HT3))
    have s4 := hb4.size
    have HB4 : Hid (Below w.heap.size w w4) := HB3.out.trans (hb4.mono (by omega))
    have zT4 : T < w4.heap.size := by omega
    have sB4 := HB4.out.size
    clear hb4 HB3 okn oke
    obtain ⟨hR, hC, -, -⟩ := gridP_of_okB HO.out
    obtain ⟨R, rfl⟩ : ∃ z : Nat, R = z := ⟨R.toNat, by omega⟩
    obtain ⟨C, rfl⟩ : ∃ z : Nat, C = z := ⟨C.toNat, by omega⟩
    have HA : Hid (areaL l = R * C) := area_ok HO.out
    have hRC : R * C ≤ 5 * 5 := Nat.mul_le_mul (by omega) (by omega)
    have HN : Hid (n' = l.length) := HT4.out.1
    have hncap := HT4.out.2.1
    have hcm := HT4.out.2.2.1
    unfold maxLen at hcm
    have hn25 : n' ≤ 26 := by have := HN.out; omega
    go_wp2_with fail
    go_loopw [5, 6] (fun nv iv wr => ∃ (i s : Nat), i ≤ n' ∧ iv = .int .i64 i ∧ nv = .int .i64 s ∧ s = areaL (l.take i) ∧ Below w4.heap.size w4 wr) (fun _ iv _ => n' - (intOf iv).toNat)
    case atStart => exact ⟨0, 0, Nat.zero_le _, rfl, rfl, rfl, Below.refl _ _⟩
    case round =>
      obtain ⟨i, s, hi, rfl, rfl, hs, hb⟩ := hrel
      have HS : Hid (s = areaL (l.take i)) := hs
      have HBr : Hid (Below w4.heap.size w4 wr) := hb
      have HGr : Hid (RowAt wr T #[.int .i64 R, .int .i64 C, .slice a' n' c'] 25) := HG4.out.below hb zT4
      have HTr : Hid (Tab wr a' n' c' l) := HT4.out.below hb
      have sr := hb.size
      have hsle : s ≤ 25 := by
        have := areaL_le l i
        rw [HS.out]
        have := HA.out
        omega
      have q2 : wr.cell? ⟨T, 2, none⟩ = some (.slice a' n' c') := HGr.out.cell 2
      clear hs hb
      by_cases hlt : i < n'
      · have hil : i < l.length := by have := HN.out; omega
        obtain ⟨cr, cc, cd, cg, ec, u1, u2, u3, u4⟩ := cell_nat HO.out i hil
        rcases HTr.out.2.2.2 with e | ⟨b, off, rfl, hbv, hcl⟩
        · rw [e] at hil
          exact absurd hil (by simp)
        obtain ⟨-, -, x2, x3, -⟩ := hcl i hil
        rw [ec] at x2 x3
        simp only at x2 x3
        have HAR : Hid (areaL (l.take (i + 1)) = s + cd * cg) := by
          show areaL (l.take (i + 1)) = s + cd * cg
          rw [areaL_take l i hil, HS.out, ec]
          unfold areaN
          simp only [Int.toNat_natCast]
        have hcg : cd * cg ≤ 5 * 5 := Nat.mul_le_mul (by omega) (by omega)
        obtain ⟨ar, HAe⟩ : ∃ ar : Nat, Hid (cd * cg = ar) := ⟨_, rfl⟩
        rw [HAe.out] at HAR hcg
        have wm : IntKind.i64.wrap ((cd : Int) * (cg : Int)) = (ar : Int) := by
          rw [← Int.natCast_mul, HAe.out, IntKind.wrap_i64]
          omega
        have hib : (i : Int) < (n' : Int) := by omega
        have hi0 : (0 : Int) ≤ (i : Int) := by omega
        clear hcl ec
        go_upto_region 11 with fail
        refine wp_region_noPanic ?_
        refine wp_region_held_drew (S := fun w' => w'.cell? ⟨T, 2, none⟩ = some (.slice (some ⟨b, off, none⟩) n' c') ∧ w'.cell? ⟨b, off + i * 5 + 2, none⟩ = some (.int .i64 cd) ∧ w'.cell? ⟨b, off + i * 5 + 3, none⟩ = some (.int .i64 cg)) (by kernel_rfl) ⟨q2, x2, x3⟩ (fun hHeld => ?_)
        refine take_at 0 35 (.int .i64 s) rfl rfl (by kernel_rfl) (by kernel_rfl) (by kernel_rfl) (fun _ _ _ h => h) (Or.inl ⟨by kernel_rfl, fun w' hS' => by go_simp⟩) hHeld ?_
        (try simp only [Act.put, List.setIfInBounds_toArray, List.set_cons_zero, List.set_cons_succ])
        refine take_at 1 36 (.pointer (some ⟨T, 2, none⟩)) rfl rfl (by kernel_rfl) (by kernel_rfl) (by kernel_rfl) (fun _ _ _ h => h) (Or.inl ⟨by kernel_rfl, fun w' hS' => by go_simp⟩) hHeld ?_
        (try simp only [Act.put, List.setIfInBounds_toArray, List.set_cons_zero, List.set_cons_succ])
        refine take_at 2 37 (.slice (some ⟨b, off, none⟩) n' c') rfl rfl (by kernel_rfl) (by kernel_rfl) (by kernel_rfl) (fun _ _ _ h => h) (Or.inl ⟨by kernel_rfl, fun w' hS' => by have hc := hS'.1; go_simp⟩) hHeld ?_
        (try simp only [Act.put, List.setIfInBounds_toArray, List.set_cons_zero, List.set_cons_succ])
        refine take_at 3 38 (.int .i64 i) rfl rfl (by kernel_rfl) (by kernel_rfl) (by kernel_rfl) (fun _ _ _ h => h) (Or.inl ⟨by kernel_rfl, fun w' hS' => by go_simp⟩) hHeld ?_
        (try simp only [Act.put, List.setIfInBounds_toArray, List.set_cons_zero, List.set_cons_succ])
        refine take_at 4 39 (.pointer (some ⟨b, off + i * 5, none⟩)) rfl rfl (by kernel_rfl) (by kernel_rfl) (by kernel_rfl) (fun _ _ _ h => h) (Or.inl ⟨by kernel_rfl, fun w' hS' => by go_simp⟩) hHeld ?_
        (try simp only [Act.put, List.setIfInBounds_toArray, List.set_cons_zero, List.set_cons_succ])
        refine take_at 5 40 (.pointer (some ⟨b, off + i * 5 + 2, none⟩)) rfl rfl (by kernel_rfl) (by kernel_rfl) (by kernel_rfl) (fun _ _ _ h => h) (Or.inl ⟨by kernel_rfl, fun w' hS' => by go_simp⟩) hHeld ?_
        (try simp only [Act.put, List.setIfInBounds_toArray, List.set_cons_zero, List.set_cons_succ])
        refine take_at 6 41 (.int .i64 cd) rfl rfl (by kernel_rfl) (by kernel_rfl) (by kernel_rfl) (fun _ _ _ h => h) (Or.inl ⟨by kernel_rfl, fun w' hS' => by have hc := hS'.2.1; go_simp⟩) hHeld ?_
        (try simp only [Act.put, List.setIfInBounds_toArray, List.set_cons_zero, List.set_cons_succ])
        refine take_at 7 42 (.pointer (some ⟨T, 2, none⟩)) rfl rfl (by kernel_rfl) (by kernel_rfl) (by kernel_rfl) (fun _ _ _ h => h) (Or.inl ⟨by kernel_rfl, fun w' hS' => by go_simp⟩) hHeld ?_
        (try simp only [Act.put, List.setIfInBounds_toArray, List.set_cons_zero, List.set_cons_succ])
        refine take_at 8 43 (.slice (some ⟨b, off, none⟩) n' c') rfl rfl (by kernel_rfl) (by kernel_rfl) (by kernel_rfl) (fun _ _ _ h => h) (Or.inl ⟨by kernel_rfl, fun w' hS' => by have hc := hS'.1; go_simp⟩) hHeld ?_
        (try simp only [Act.put, List.setIfInBounds_toArray, List.set_cons_zero, List.set_cons_succ])
        refine take_at 9 44 (.int .i64 i) rfl rfl (by kernel_rfl) (by kernel_rfl) (by kernel_rfl) (fun _ _ _ h => h) (Or.inl ⟨by kernel_rfl, fun w' hS' => by go_simp⟩) hHeld ?_
        (try simp only [Act.put, List.setIfInBounds_toArray, List.set_cons_zero, List.set_cons_succ])
        refine take_at 10 45 (.pointer (some ⟨b, off + i * 5, none⟩)) rfl rfl (by kernel_rfl) (by kernel_rfl) (by kernel_rfl) (fun _ _ _ h => h) (Or.inl ⟨by kernel_rfl, fun w' hS' => by go_simp⟩) hHeld ?_
        (try simp only [Act.put, List.setIfInBounds_toArray, List.set_cons_zero, List.set_cons_succ])
        refine take_at 11 46 (.pointer (some ⟨b, off + i * 5 + 3, none⟩)) rfl rfl (by kernel_rfl) (by kernel_rfl) (by kernel_rfl) (fun _ _ _ h => h) (Or.inl ⟨by kernel_rfl, fun w' hS' => by go_simp⟩) hHeld ?_
        (try simp only [Act.put, List.setIfInBounds_toArray, List.set_cons_zero, List.set_cons_succ])
        refine take_at 12 47 (.int .i64 cg) rfl rfl (by kernel_rfl) (by kernel_rfl) (by kernel_rfl) (fun _ _ _ h => h) (Or.inl ⟨by kernel_rfl, fun w' hS' => by have hc := hS'.2.2; go_simp⟩) hHeld ?_
        (try simp only [Act.put, List.setIfInBounds_toArray, List.set_cons_zero, List.set_cons_succ])
        refine take_at 13 48 (.int .i64 ar) rfl rfl (by kernel_rfl) (by kernel_rfl) (by kernel_rfl) (fun _ _ _ h => h) (Or.inl ⟨by kernel_rfl, fun w' hS' => by go_simp⟩) hHeld ?_
        (try simp only [Act.put, List.setIfInBounds_toArray, List.set_cons_zero, List.set_cons_succ])
        refine take_at 14 49 (.int .i64 ((s + ar : Nat) : Int)) rfl rfl (by kernel_rfl) (by kernel_rfl) (by kernel_rfl) (fun _ _ _ h => h) (Or.inl ⟨by kernel_rfl, fun w' hS' => by go_simp; rw [IntKind.wrap_i64]; omega⟩) hHeld ?_
        (try simp only [Act.put, List.setIfInBounds_toArray, List.set_cons_zero, List.set_cons_succ])
        refine take_at 15 5 (.int .i64 ((s + ar : Nat) : Int)) rfl rfl (by kernel_rfl) (by kernel_rfl) (by kernel_rfl) (fun _ _ _ h => h) (Or.inl ⟨by kernel_rfl, fun w' hS' => by go_simp⟩) hHeld ?_
        (try simp only [Act.put, List.setIfInBounds_toArray, List.set_cons_zero, List.set_cons_succ])
        refine wpAnyH_done (by kernel_rfl) ?_ _
        refine NoPanic.normal ?_
        go_wp2_with fail
        go_roundw
        case rel => exact ⟨i + 1, s + ar, by omega, by go_num, rfl, HAR.out.symm, HBr.out.drew⟩
        case measure => simp [intOf]; omega
      · have hib : ¬ (i : Int) < (n' : Int) := by omega
        have hsa : s = R * C := by
          rw [HS.out, List.take_of_length_le (by have := HN.out; omega)]
          exact HA.out
        have HSA : Hid (s = R * C) := hsa
        have zTr : T < wr.heap.size := by omega
        clear hsa
        go_wp2_with fail
        clear q2
        go_loopw [7] (fun pv wq => ∃ p : Nat, p ≤ R ∧ pv = .int .i64 p ∧ Below w4.heap.size w4 wq) (fun pv _ => R - (intOf pv).toNat)
        case atStart => exact ⟨0, Nat.zero_le _, rfl, HBr.out⟩
        case round =>
          clear HBr HGr HTr sr zTr
          obtain ⟨p, hp, rfl, hb⟩ := hrel
          have HBr : Hid (Below w4.heap.size w4 wr) := hb
          have HGr : Hid (RowAt wr T #[.int .i64 R, .int .i64 C, .slice a' n' c'] 25) := HG4.out.below hb zT4
          have sr := hb.size
          have q0 : wr.cell? ⟨T, 0, none⟩ = some (.int .i64 R) := HGr.out.cell 0
          have q1 : wr.cell? ⟨T, 1, none⟩ = some (.int .i64 C) := HGr.out.cell 1
          clear hb
          by_cases hlp : p < R
          · have hpb : (p : Int) < (R : Int) := by omega
            go_wp2_with fail
            clear q0 q1
            go_loopw [8] (fun qv wq => ∃ q : Nat, q ≤ C ∧ qv = .int .i64 q ∧ Below w4.heap.size w4 wq) (fun qv _ => C - (intOf qv).toNat)
            case atStart => exact ⟨0, Nat.zero_le _, rfl, HBr.out⟩
            case round =>
              clear HBr HGr sr
              obtain ⟨q, hq, rfl, hb⟩ := hrel
              have HBr : Hid (Below w4.heap.size w4 wr) := hb
              have HGr : Hid (RowAt wr T #[.int .i64 R, .int .i64 C, .slice a' n' c'] 25) := HG4.out.below hb zT4
              have HTr : Hid (Tab wr a' n' c' l) := HT4.out.below hb
              have sr := hb.size
              have q1 : wr.cell? ⟨T, 1, none⟩ = some (.int .i64 C) := HGr.out.cell 1
              clear hb
              by_cases hlq : q < C
              · have hqb : (q : Int) < (C : Int) := by omega
                obtain ⟨e1, e2⟩ := atN_in HO.out p q hpb hqb
                obtain ⟨x, HX⟩ : ∃ x, Hid (atN R C l p q = x) := ⟨_, rfl⟩
                have hx0 : ¬ x < 0 := by rw [← HX.out, e1]; omega
                clear e1 e2
                go_wp2_with (first | (refine wpList_load_row rfl 25 (.tmp 3) rfl T rfl 25 #[.int .i64 R, .int .i64 C, .slice a' n' c'] (0, 0) _ HGr.out Try.underlying25 rfl tab_info ?_) | (go_at_call 10; refine (implTableAt_is HX.out HTr.out).mono ?_; rintro e w7 ⟨rfl, hb7⟩))
                go_roundw
                case rel => exact ⟨q + 1, by omega, by go_num, HBr.out.trans (hb7.mono sr)⟩
                case measure => simp [intOf]; omega
              · have hqb : ¬ (q : Int) < (C : Int) := by omega
                go_wp2_with fail
                go_roundw
                case rel => exact ⟨p + 1, by omega, by go_num, HBr.out⟩
                case measure => simp [intOf]; omega
          · have hpb : ¬ (p : Int) < (R : Int) := by omega
            obtain ⟨RC, HRC⟩ : ∃ z : Nat, Hid (R * C = z) := ⟨_, rfl⟩
            have hsr : s = RC := HSA.out.trans HRC.out
            subst hsr
            have wm : IntKind.i64.wrap ((R : Int) * (C : Int)) = (s : Int) := by
              rw [← Int.natCast_mul, HRC.out, IntKind.wrap_i64]
              omega
            have see : ((s : Int) == (s : Int)) = true := by simp
            go_wp2_with fail
            go_ret
            exact ⟨rfl, HB4.out.trans (HBr.out.mono (by omega))⟩
end Go.Proofs.Ytafkbjefmookjaa
