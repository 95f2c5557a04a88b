import Derived.Test.YtcecmkideoodiaaBA1
import Derived.Deep.RegionHeld3
import Derived.Deep.LoopGhost
import Derived.Deep.Cut
import Derived.Laws.ResultCell
import Derived.Deep.AppendLies
import Derived.Laws.OwnMore
namespace Go.Proofs.Ytcecmkideoodiaa
open Go.RowKit

/-- All squares of a rectangle have the number v. -/
def giveF (f : Nat → Nat) (r c d h v : Nat) : Nat → Nat := fun k => if r ≤ k / 5 ∧ k / 5 < r + d ∧ c ≤ k % 5 ∧ k % 5 < c + h then v else f k
def giveI (f : Nat → Nat) (r c h v i j : Nat) : Nat → Nat := fun k => if (r ≤ k / 5 ∧ k / 5 < r + i ∧ c ≤ k % 5 ∧ k % 5 < c + h) ∨ (k / 5 = r + i ∧ c ≤ k % 5 ∧ k % 5 < c + j) then v else f k
theorem giveI_zero (f : Nat → Nat) (r c h v : Nat) : giveI f r c h v 0 0 = f := by
  funext k
  unfold giveI
  rw [if_neg (by omega)]
theorem giveI_end (f : Nat → Nat) (r c d h v : Nat) : giveI f r c h v d 0 = giveF f r c d h v := by
  funext k
  unfold giveI giveF
  by_cases hh : r ≤ k / 5 ∧ k / 5 < r + d ∧ c ≤ k % 5 ∧ k % 5 < c + h
  · rw [if_pos (by omega), if_pos hh]
  · rw [if_neg (by omega), if_neg hh]
theorem giveI_row (f : Nat → Nat) (r c h v i : Nat) : giveI f r c h v i h = giveI f r c h v (i + 1) 0 := by
  funext k
  unfold giveI
  by_cases hh : (r ≤ k / 5 ∧ k / 5 < r + i ∧ c ≤ k % 5 ∧ k % 5 < c + h) ∨ (k / 5 = r + i ∧ c ≤ k % 5 ∧ k % 5 < c + h)
  · rw [if_pos hh, if_pos (by omega)]
  · rw [if_neg hh, if_neg (by omega)]
theorem giveI_upd (f : Nat → Nat) (r c h v i j : Nat) (hj : c + j < 5) : upd (giveI f r c h v i j) ((r + i) * 5 + (c + j)) v = giveI f r c h v i (j + 1) := by
  funext k
  unfold upd giveI
  by_cases h0 : k = (r + i) * 5 + (c + j)
  · rw [if_pos h0, if_pos (by omega)]
  · rw [if_neg h0]
    by_cases hh : (r ≤ k / 5 ∧ k / 5 < r + i ∧ c ≤ k % 5 ∧ k % 5 < c + h) ∨ (k / 5 = r + i ∧ c ≤ k % 5 ∧ k % 5 < c + j)
    · rw [if_pos hh, if_pos (by omega)]
    · rw [if_neg hh, if_neg (by omega)]
theorem grid_zero : gridA 0 0 0 (fun _ => 0) (fun _ => sl0) = #[.int .i64 0, .int .i64 0, .int .i64 0, .int .i64 0, .int .i64 0, .int .i64 0, .int .i64 0, .int .i64 0, .int .i64 0, .int .i64 0, .int .i64 0, .int .i64 0, .int .i64 0, .int .i64 0, .int .i64 0, .int .i64 0, .int .i64 0, .int .i64 0, .int .i64 0, .int .i64 0, .int .i64 0, .int .i64 0, .int .i64 0, .int .i64 0, .int .i64 0, .int .i64 0, .int .i64 0, .int .i64 0, .slice none 0 0, .slice none 0 0, .slice none 0 0, .slice none 0 0, .slice none 0 0, .slice none 0 0, .slice none 0 0, .slice none 0 0, .slice none 0 0, .slice none 0 0, .slice none 0 0, .slice none 0 0, .slice none 0 0, .slice none 0 0, .slice none 0 0, .slice none 0 0, .slice none 0 0, .slice none 0 0, .slice none 0 0, .slice none 0 0, .slice none 0 0, .slice none 0 0, .slice none 0 0, .slice none 0 0, .slice none 0 0, .slice none 0 0] := rfl

set_option maxRecDepth 100000 in
set_option maxHeartbeats 4000000 in
theorem give_any (R C : Int) (n : Nat) (f : Nat → Nat) (t : Nat → Sl) (r c d h v : Nat) (w : World) (hr : r + d ≤ 5) (hc : c + h ≤ 5) :
    Calls Try.prog 125 #[.agg (gridA R C n f t), .agg #[.int .i64 r, .int .i64 c, .int .i64 d, .int .i64 h], .int .i64 v] w fun z w' => z = .returned (.agg (gridA R C n (giveF f r c d h v) t)) ∧ Below w.heap.size w w' := by
  go_enter Try.func125, Try.ntmps125
  go_wp2_with fail
  rw [← grid_zero]
  have B0 : Below w.heap.size w (((w.alloc (.cells (gridA R C n f t) 189)).alloc (.cells #[.int .i64 r, .int .i64 c, .int .i64 d, .int .i64 h] 193)).alloc (.cells (gridA 0 0 0 (fun _ => 0) (fun _ => sl0)) 189)) := (((Below.refl _ _).alloc (Nat.le_refl _) _).alloc (by simp) _).alloc (by simp; omega) _
  have G0 : GridAt (((w.alloc (.cells (gridA R C n f t) 189)).alloc (.cells #[.int .i64 r, .int .i64 c, .int .i64 d, .int .i64 h] 193)).alloc (.cells (gridA 0 0 0 (fun _ => 0) (fun _ => sl0)) 189)) w.heap.size R C n f t := ((gridAt_new w R C n f t).alloc _).alloc _
  have G1 : GridAt (((w.alloc (.cells (gridA R C n f t) 189)).alloc (.cells #[.int .i64 r, .int .i64 c, .int .i64 d, .int .i64 h] 193)).alloc (.cells (gridA 0 0 0 (fun _ => 0) (fun _ => sl0)) 189)) (w.heap.size + 1 + 1) 0 0 0 (fun _ => 0) (fun _ => sl0) := by
    have := gridAt_new ((w.alloc (.cells (gridA R C n f t) 189)).alloc (.cells #[.int .i64 r, .int .i64 c, .int .i64 d, .int .i64 h] 193)) 0 0 0 (fun _ => 0) (fun _ => sl0)
    simpa using this
  have G2 : RectAt (((w.alloc (.cells (gridA R C n f t) 189)).alloc (.cells #[.int .i64 r, .int .i64 c, .int .i64 d, .int .i64 h] 193)).alloc (.cells (gridA 0 0 0 (fun _ => 0) (fun _ => sl0)) 189)) (w.heap.size + 1) r c d h := by
    have := (rowAt_new (w.alloc (.cells (gridA R C n f t) 189)) #[.int .i64 r, .int .i64 c, .int .i64 d, .int .i64 h] 193).alloc (.cells (gridA 0 0 0 (fun _ => 0) (fun _ => sl0)) 189)
    simpa [RectAt] using this
  generalize (((w.alloc (.cells (gridA R C n f t) 189)).alloc (.cells #[.int .i64 r, .int .i64 c, .int .i64 d, .int .i64 h] 193)).alloc (.cells (gridA 0 0 0 (fun _ => 0) (fun _ => sl0)) 189)) = v0 at B0 G0 G1 G2 ⊢
  go_loopw [11] (fun i wr => ∃ k : Nat, k ≤ d ∧ i = .int .i64 k ∧ GridAt wr w.heap.size R C n (giveI f r c h v k 0) t ∧ GridAt wr (w.heap.size + 1 + 1) 0 0 0 (fun _ => 0) (fun _ => sl0) ∧ RectAt wr (w.heap.size + 1) r c d h ∧ Below w.heap.size w wr) (fun i _ => d - (intOf i).toNat)
  case atStart => exact ⟨0, Nat.zero_le _, rfl, by rw [giveI_zero]; exact G0, G1, G2, B0⟩
  case round =>
    clear B0 G0 G1 G2
    obtain ⟨i, hi, rfl, hg, hz, hq, hb⟩ := hrel
    have HG : Hid (GridAt wr w.heap.size R C n (giveI f r c h v i 0) t) := hg
    have HZ : Hid (GridAt wr (w.heap.size + 1 + 1) 0 0 0 (fun _ => 0) (fun _ => sl0)) := hz
    have HQ : Hid (RectAt wr (w.heap.size + 1) r c d h) := hq
    have HB : Hid (Below w.heap.size w wr) := hb
    have k3 := hq.c3
    clear hg hz hb hq
    by_cases hlt : i < d
    · go_wp2_with fail
      go_loopw [16] (fun jj wq => ∃ j : Nat, j ≤ h ∧ jj = .int .i64 j ∧ GridAt wq w.heap.size R C n (giveI f r c h v i j) t ∧ GridAt wq (w.heap.size + 1 + 1) 0 0 0 (fun _ => 0) (fun _ => sl0) ∧ RectAt wq (w.heap.size + 1) r c d h ∧ Below w.heap.size w wq) (fun jj _ => h - (intOf jj).toNat)
      case atStart => exact ⟨0, Nat.zero_le _, rfl, HG.out, HZ.out, HQ.out, HB.out⟩
      case round =>
        clear HG HZ k3 HB HQ
        obtain ⟨j, hj, rfl, hg, hz, hq, hb⟩ := hrel
        have HG : Hid (GridAt wr w.heap.size R C n (giveI f r c h v i j) t) := hg
        have HZ : Hid (GridAt wr (w.heap.size + 1 + 1) 0 0 0 (fun _ => 0) (fun _ => sl0)) := hz
        have HQ : Hid (RectAt wr (w.heap.size + 1) r c d h) := hq
        have HB : Hid (Below w.heap.size w wr) := hb
        by_cases hlj : j < h
        · have q := hg.num ((r + i) * 5 + (c + j)) (by omega)
          have fz := hg.frozen (3 + ((r + i) * 5 + (c + j)))
          have k0 := hq.c0
          have k1 := hq.c1
          rw [← Nat.add_assoc] at q fz
          have b0 : (r : Int) + i < 5 := by omega
          have b1 : (c : Int) + j < 5 := by omega
          clear hg hz hb hq
          go_wp2_with fail
          go_region
          all_goals go_wp2_with fail
          all_goals go_roundw
          case rel =>
            have sN := HG.out.setNum ((r + i) * 5 + (c + j)) v (by omega)
            rw [giveI_upd f r c h v i j (by omega), ← Nat.add_assoc] at sN
            exact ⟨j + 1, by omega, by go_num, sN, HZ.out.other _ _ (by simp <;> omega), RowAt.other HQ.out _ _ (by simp), HB.out.drew.setCell (Nat.le_refl _) _⟩
          case measure => simp [intOf]; omega
        · clear hg hz hb hq
          go_wp2_with fail
          go_roundw
          case rel =>
            have hh := HG.out
            rw [show j = h from by omega, giveI_row] at hh
            exact ⟨i + 1, by omega, by go_num, hh, HZ.out, HQ.out, HB.out⟩
          case measure => simp [intOf]; omega
    · have hid : i = d := by omega
      subst hid
      go_wp2_with (first | (refine wpList_load_row rfl 189 (.tmp 3) rfl w.heap.size rfl 189 (gridA R C n (giveI f r c h v i 0) t) (0, 0) _ HG.out Try.underlying189 rfl (grid_infoA _ _ _ _ _) ?_) | (refine wpList_store_row rfl 189 (.tmp 6) (.tmp 33) rfl (w.heap.size + 1 + 1) (gridA R C n (giveI f r c h v i 0) t) rfl rfl 189 _ HZ.out (grid_infoA _ _ _ _ _) (by rw [gridA_size, gridA_size]) (gridA_one _ _ _ _ _) ?_))
      have hz := RowAt.setRow HZ.out (gridA R C n (giveI f r c h v i 0) t)
      refine bodyPost_ret (v := .agg (gridA R C n (giveI f r c h v i 0) t)) (results_cell_row (p := 6) (ty := 189) rfl _ _ (w.heap.size + 1 + 1) 189 _ _ _ rfl hz Try.underlying189 rfl (grid_infoA _ _ _ _ _)) rfl ⟨by rw [giveI_end], ?_⟩
      exact below_row HB.out (by omega) _
end Go.Proofs.Ytcecmkideoodiaa
namespace Go.Proofs.Ytcecmkideoodiaa
open Go.RowKit

theorem give_is {R C : Int} {n : Nat} {f : Nat → Nat} {t : Nat → Sl} {r c d h v : Nat} {w : World} {G : Array Value} (hG : gridA R C n f t = G) (hr : r + d ≤ 5) (hc : c + h ≤ 5) :
    Calls Try.prog 125 #[.agg G, .agg #[.int .i64 r, .int .i64 c, .int .i64 d, .int .i64 h], .int .i64 v] w fun z w' => z = .returned (.agg (gridA R C n (giveF f r c d h v) t)) ∧ Below w.heap.size w w' := hG ▸ give_any R C n f t r c d h v w hr hc

set_option maxRecDepth 100000 in
set_option maxHeartbeats 4000000 in
theorem lay_any (R C : Int) (n : Nat) (f : Nat → Nat) (t : Nat → Sl) (r c d h : Nat) (s : Sl) (w : World) (hr : r + d ≤ 5) (hc : c + h ≤ 5) (hn : n < 25) :
    Calls Try.prog 121 #[.agg (gridA R C n f t), .agg #[.int .i64 r, .int .i64 c, .int .i64 d, .int .i64 h], slV s] w fun z w' => z = .returned (.agg (gridA R C (n + 1) (giveF f r c d h (n + 1)) (updS t (n + 1) s))) ∧ Below w.heap.size w w' := by
  obtain ⟨sa, sn, sc⟩ := s
  unfold slV
  go_enter Try.func121, Try.ntmps121
  go_upto_region 1 with fail
  rw [← grid_zero]
  have B0 : Below w.heap.size w (((w.alloc (.cells (gridA R C n f t) 189)).alloc (.cells #[.int .i64 r, .int .i64 c, .int .i64 d, .int .i64 h] 193)).alloc (.cells (gridA 0 0 0 (fun _ => 0) (fun _ => sl0)) 189)) := (((Below.refl _ _).alloc (Nat.le_refl _) _).alloc (by simp) _).alloc (by simp; omega) _
  have G0 : GridAt (((w.alloc (.cells (gridA R C n f t) 189)).alloc (.cells #[.int .i64 r, .int .i64 c, .int .i64 d, .int .i64 h] 193)).alloc (.cells (gridA 0 0 0 (fun _ => 0) (fun _ => sl0)) 189)) w.heap.size R C n f t := ((gridAt_new w R C n f t).alloc _).alloc _
  have G1 : GridAt (((w.alloc (.cells (gridA R C n f t) 189)).alloc (.cells #[.int .i64 r, .int .i64 c, .int .i64 d, .int .i64 h] 193)).alloc (.cells (gridA 0 0 0 (fun _ => 0) (fun _ => sl0)) 189)) (w.heap.size + 1 + 1) 0 0 0 (fun _ => 0) (fun _ => sl0) := by
    have := gridAt_new ((w.alloc (.cells (gridA R C n f t) 189)).alloc (.cells #[.int .i64 r, .int .i64 c, .int .i64 d, .int .i64 h] 193)) 0 0 0 (fun _ => 0) (fun _ => sl0)
    simpa using this
  have G2 : RectAt (((w.alloc (.cells (gridA R C n f t) 189)).alloc (.cells #[.int .i64 r, .int .i64 c, .int .i64 d, .int .i64 h] 193)).alloc (.cells (gridA 0 0 0 (fun _ => 0) (fun _ => sl0)) 189)) (w.heap.size + 1) r c d h := by
    have := (rowAt_new (w.alloc (.cells (gridA R C n f t) 189)) #[.int .i64 r, .int .i64 c, .int .i64 d, .int .i64 h] 193).alloc (.cells (gridA 0 0 0 (fun _ => 0) (fun _ => sl0)) 189)
    simpa [RectAt] using this
  generalize (((w.alloc (.cells (gridA R C n f t) 189)).alloc (.cells #[.int .i64 r, .int .i64 c, .int .i64 d, .int .i64 h] 193)).alloc (.cells (gridA 0 0 0 (fun _ => 0) (fun _ => sl0)) 189)) = w1 at B0 G0 G1 G2 ⊢
  have p0 := G0.cells
  have p1 := G0.frozen 2
  go_upto_region 2 with fail
  rw [show (n : Int) + 1 = ((n + 1 : Nat) : Int) from by omega]
  have X0 := G0.setCells (n + 1)
  have X1 := G1.other ⟨w.heap.size, 2, none⟩ (.int .i64 ((n + 1 : Nat) : Int)) (by simp <;> omega)
  have X2 : RectAt _ _ _ _ _ _ := RowAt.other G2 ⟨w.heap.size, 2, none⟩ (.int .i64 ((n + 1 : Nat) : Int)) (by simp)
  have X3 := B0.setCell (p := ⟨w.heap.size, 2, none⟩) (Nat.le_refl _) (.int .i64 ((n + 1 : Nat) : Int))
  clear p0 p1 G0 G1 G2 B0
  generalize (w1.setCell ⟨w.heap.size, 2, none⟩ (.int .i64 ((n + 1 : Nat) : Int))) = w2 at X0 X1 X2 X3 ⊢
  obtain ⟨m, hm⟩ : ∃ m, n + 1 = m := ⟨_, rfl⟩
  rw [hm] at X0 ⊢
  have p0 := X0.cells
  have p1 := X0.txt m (by omega)
  have p2 := X0.frozen (28 + m)
  have p3 : (m : Int) < 26 := by omega
  go_upto_region 3 with fail
  have Y0 := X0.setTxt m (sa, sn, sc) (by omega)
  have Y1 := X1.other ⟨w.heap.size, 28 + m, none⟩ (slV (sa, sn, sc)) (by simp <;> omega)
  have Y2 : RectAt _ _ _ _ _ _ := RowAt.other X2 ⟨w.heap.size, 28 + m, none⟩ (slV (sa, sn, sc)) (by simp)
  have Y3 := X3.setCell (p := ⟨w.heap.size, 28 + m, none⟩) (Nat.le_refl _) (slV (sa, sn, sc))
  clear p0 p1 p2 X0 X1 X2 X3
  generalize hgen : (w2.setCell ⟨w.heap.size, 28 + m, none⟩ (slV (sa, sn, sc))) = w3 at Y0 Y1 Y2 Y3
  rw [show w2.setCell ⟨w.heap.size, 28 + m, none⟩ (Value.slice sa sn sc) = w3 from hgen]
  clear hgen
  have q0 := Y0.cells
  have e0 := Y2.c0
  have e1 := Y2.c1
  have e2 := Y2.c2
  have e3 := Y2.c3
  have HG : Hid (GridAt w3 w.heap.size R C m f (updS t m (sa, sn, sc))) := Y0
  have HZ : Hid (GridAt w3 (w.heap.size + 1 + 1) 0 0 0 (fun _ => 0) (fun _ => sl0)) := Y1
  have HB : Hid (Below w.heap.size w w3) := Y3
  have hlt := Y1.lt
  clear Y0 Y1 Y2 Y3
  go_wp2_with (first | (refine wpList_load_row rfl 189 (.tmp 3) rfl w.heap.size rfl 189 (gridA R C m f (updS t m (sa, sn, sc))) (0, 0) _ HG.out Try.underlying189 rfl (grid_infoA _ _ _ _ _) ?_) | (go_at_call 125; refine (give_any R C m f (updS t m (sa, sn, sc)) r c d h m _ hr hc).mono ?_; rintro e w4 ⟨rfl, hb4⟩) | (refine wpList_store_row rfl 189 (.tmp 6) (.tmp 20) rfl (w.heap.size + 1 + 1) (gridA R C m (giveF f r c d h m) (updS t m (sa, sn, sc))) rfl rfl 189 _ (HZ.out.below hb4 hlt) (grid_infoA _ _ _ _ _) (by rw [gridA_size, gridA_size]) (gridA_one _ _ _ _ _) ?_))
  have hz := RowAt.setRow (HZ.out.below hb4 hlt) (gridA R C m (giveF f r c d h m) (updS t m (sa, sn, sc)))
  refine bodyPost_ret (v := .agg (gridA R C m (giveF f r c d h m) (updS t m (sa, sn, sc)))) (results_cell_row (p := 6) (ty := 189) rfl _ _ (w.heap.size + 1 + 1) 189 _ _ _ rfl hz Try.underlying189 rfl (grid_infoA _ _ _ _ _)) rfl ⟨by rw [hm], ?_⟩
  exact below_row (HB.out.trans (hb4.mono (by omega))) (by omega) _
end Go.Proofs.Ytcecmkideoodiaa
namespace Go.Proofs.Ytcecmkideoodiaa
open Go.RowKit

/-- The squares' numbers when k cells are laid. -/
def numF (l : List Cl) : Nat → Nat → Nat
  | 0 => fun _ => 0
  | k + 1 => giveF (numF l k) (l.getD k cl0).1.toNat (l.getD k cl0).2.1.toNat (l.getD k cl0).2.2.1.toNat (l.getD k cl0).2.2.2.1.toNat (k + 1)
def wiB (R C : Int) (x : Cl) : Bool := withB x.1 x.2.1 x.2.2.1 x.2.2.2.1 R C
def frB (f : Nat → Nat) (x : Cl) : Bool := freeB f x.1.toNat x.2.1.toNat x.2.2.1.toNat x.2.2.2.1.toNat
/-- The cell k may be laid. -/
def stepB (R C : Int) (l : List Cl) (k : Nat) : Bool := wiB R C (l.getD k cl0) && frB (numF l k) (l.getD k cl0) && textB (l.getD k cl0).2.2.2.2
def gridP (R C : Int) (l : List Cl) : Prop := (1 ≤ R ∧ R ≤ 5) ∧ (1 ≤ C ∧ C ≤ 5) ∧ (∀ k, k < l.length → stepB R C l k = true) ∧ Tiles R.toNat C.toNat (numF l l.length)

theorem numF_le (l : List Cl) : ∀ k s, numF l k s ≤ k
  | 0, s => Nat.le_refl _
  | k + 1, s => by
    show giveF _ _ _ _ _ _ s ≤ _
    unfold giveF
    split
    · exact Nat.le_refl _
    · exact Nat.le_succ_of_le (numF_le l k s)
theorem wiB_of {R C : Int} {x : Cl} (h : wiB R C x = true) : (0 ≤ x.1 ∧ 0 ≤ x.2.1 ∧ 1 ≤ x.2.2.1 ∧ 1 ≤ x.2.2.2.1) ∧ x.1 + x.2.2.1 ≤ R ∧ x.2.1 + x.2.2.2.1 ≤ C := by
  simp only [wiB, withB, spanB, Bool.and_eq_true, decide_eq_true_eq] at h
  omega
theorem stepB_of {R C : Int} {l : List Cl} {k : Nat} (h : stepB R C l k = true) : wiB R C (l.getD k cl0) = true ∧ frB (numF l k) (l.getD k cl0) = true ∧ textB (l.getD k cl0).2.2.2.2 = true := by
  simp only [stepB, Bool.and_eq_true] at h
  exact ⟨h.1.1, h.1.2, h.2⟩
theorem stepB_mk {R C : Int} {l : List Cl} {k r c d g : Nat} {tx : List Sg} (hx : ((r : Int), (c : Int), (d : Int), (g : Int), tx) = l.getD k cl0) (q0 : withB r c d g R C = true) (q1 : freeB (numF l k) r c d g = true) (q2 : textB tx = true) : stepB R C l k = true := by
  simp only [stepB, wiB, frB, ← hx, Int.toNat_natCast, q0, q1, q2, Bool.and_self]
theorem stepB_0 {R C : Int} {l : List Cl} {k : Nat} {r c d g : Int} {tx : List Sg} (hx : (r, c, d, g, tx) = l.getD k cl0) (q0 : withB r c d g R C = false) : stepB R C l k = false := by
  simp only [stepB, wiB, ← hx, q0, Bool.false_and]
theorem stepB_1 {R C : Int} {l : List Cl} {k r c d g : Nat} {tx : List Sg} (hx : ((r : Int), (c : Int), (d : Int), (g : Int), tx) = l.getD k cl0) (q1 : freeB (numF l k) r c d g = false) : stepB R C l k = false := by
  simp only [stepB, frB, ← hx, Int.toNat_natCast, q1, Bool.false_and, Bool.and_false]
theorem stepB_2 {R C : Int} {l : List Cl} {k : Nat} {r c d g : Int} {tx : List Sg} (hx : (r, c, d, g, tx) = l.getD k cl0) (q2 : textB tx = false) : stepB R C l k = false := by
  simp only [stepB, ← hx, q2, Bool.and_false]
theorem inB_nat {x : Cl} {a b : Nat} (h : 0 ≤ x.1 ∧ 0 ≤ x.2.1 ∧ 1 ≤ x.2.2.1 ∧ 1 ≤ x.2.2.2.1) : inB x a b = true ↔ inR x.1.toNat x.2.1.toNat x.2.2.1.toNat x.2.2.2.1.toNat a b := by
  simp only [inB, decide_eq_true_eq, inR]
  omega
/-- What the numbers say. -/
theorem numF_pos (l : List Cl) (R C : Int) : ∀ K, (∀ i, i < K → wiB R C (l.getD i cl0) = true) → ∀ a b m, b < 5 → numF l K (a * 5 + b) = m + 1 → m < K ∧ inB (l.getD m cl0) a b = true
  | 0, _, a, b, m, _, h => by simp [numF] at h
  | K + 1, hw, a, b, m, hb, h => by
    have h' : giveF (numF l K) (l.getD K cl0).1.toNat (l.getD K cl0).2.1.toNat (l.getD K cl0).2.2.1.toNat (l.getD K cl0).2.2.2.1.toNat (K + 1) (a * 5 + b) = m + 1 := h
    unfold giveF at h'
    rw [show (a * 5 + b) / 5 = a from by omega, show (a * 5 + b) % 5 = b from by omega] at h'
    split at h'
    · rename_i hh
      obtain rfl : K = m := by omega
      exact ⟨by omega, (inB_nat (wiB_of (hw K (by omega))).1).2 hh⟩
    · obtain ⟨h1, h2⟩ := numF_pos l R C K (fun i hi => hw i (by omega)) a b m hb h'
      exact ⟨by omega, h2⟩
theorem numF_zero (l : List Cl) (R C : Int) : ∀ K, (∀ i, i < K → wiB R C (l.getD i cl0) = true) → ∀ a b, b < 5 → numF l K (a * 5 + b) = 0 → ∀ i, i < K → inB (l.getD i cl0) a b = false
  | 0, _, a, b, _, h => by intro i hi; omega
  | K + 1, hw, a, b, hb, h => by
    have h' : giveF (numF l K) (l.getD K cl0).1.toNat (l.getD K cl0).2.1.toNat (l.getD K cl0).2.2.1.toNat (l.getD K cl0).2.2.2.1.toNat (K + 1) (a * 5 + b) = 0 := h
    unfold giveF at h'
    rw [show (a * 5 + b) / 5 = a from by omega, show (a * 5 + b) % 5 = b from by omega] at h'
    split at h'
    · omega
    · rename_i hh
      intro i hi
      by_cases hiK : i = K
      · subst hiK
        rw [← Bool.not_eq_true, inB_nat (wiB_of (hw i (by omega))).1]
        exact hh
      · exact numF_zero l R C K (fun i hi => hw i (by omega)) a b hb h' i (by omega)
/-- No square is of two cells. -/
theorem step_apart {R C : Int} {l : List Cl} {K : Nat} (hC : C ≤ 5) (hs : ∀ i, i < K → stepB R C l i = true) {i k : Nat} (hik : i < k) (hk : k < K) (a b : Nat) (h1 : inB (l.getD i cl0) a b = true) (h2 : inB (l.getD k cl0) a b = true) : False := by
  obtain ⟨w1, w2, _⟩ := stepB_of (hs k hk)
  obtain ⟨w3, w4, w5⟩ := wiB_of w1
  have hz := (freeB_iff.1 w2) a b ((inB_nat w3).1 h2)
  have hb : b < 5 := by
    have := (inB_nat w3).1 h2
    unfold inR at this
    omega
  have := numF_zero l R C k (fun j hj => (stepB_of (hs j (by omega))).1) a b hb hz i hik
  rw [this] at h1
  exact absurd h1 (by simp)
/-- A square that is of a cell has its number. -/
theorem numF_of {R C : Int} {l : List Cl} {K : Nat} (hC : C ≤ 5) (hs : ∀ i, i < K → stepB R C l i = true) {i : Nat} (hi : i < K) (a b : Nat) (h : inB (l.getD i cl0) a b = true) : numF l K (a * 5 + b) = i + 1 := by
  have hw : ∀ i, i < K → wiB R C (l.getD i cl0) = true := fun j hj => (stepB_of (hs j hj)).1
  have hb : b < 5 := by
    have := (inB_nat (wiB_of (hw i hi)).1).1 h
    have := (wiB_of (hw i hi))
    unfold inR at *
    omega
  cases hm : numF l K (a * 5 + b) with
  | zero =>
    have := numF_zero l R C K hw a b hb hm i hi
    rw [this] at h
    exact absurd h (by simp)
  | succ m =>
    obtain ⟨h1, h2⟩ := numF_pos l R C K hw a b m hb hm
    rcases Nat.lt_trichotomy m i with h3 | h3 | h3
    · exact (step_apart hC hs h3 hi a b h2 h).elim
    · rw [h3]
    · exact (step_apart hC hs h3 h1 a b h h2).elim
theorem inB_start {R C : Int} {x : Cl} (h : wiB R C x = true) : inB x (x.1.toNat : Nat) (x.2.1.toNat : Nat) = true := by
  have := wiB_of h
  simp only [inB, decide_eq_true_eq]
  omega
/-- Just so many numbers as squares. -/
theorem pigeon (f : Nat → Nat) : ∀ (N : Nat) (L : List Nat), L.Nodup → (∀ x ∈ L, ∃ s, s < N ∧ f s = x) → L.length ≤ N
  | 0, L, _, h => by
    cases L with
    | nil => exact Nat.le_refl _
    | cons x L =>
      obtain ⟨s, hs, _⟩ := h x (by simp)
      omega
  | N + 1, L, hn, h => by
    have := pigeon f N (L.erase (f N)) (hn.erase _) (fun x hx => by
      have hx1 := List.mem_of_mem_erase hx
      obtain ⟨s, hs, e⟩ := h x hx1
      refine ⟨s, ?_, e⟩
      rcases Nat.lt_or_ge s N with h1 | h1
      · exact h1
      · obtain rfl : s = N := by omega
        rw [← e] at hx
        exact absurd hx (hn.not_mem_erase))
    rw [List.length_erase] at this
    split at this <;> omega
theorem step_le {R C : Int} {l : List Cl} {K : Nat} (hR : R ≤ 5) (hC : C ≤ 5) (hs : ∀ i, i < K → stepB R C l i = true) : K ≤ 25 := by
  have := pigeon (fun s => numF l K s) 25 ((List.range K).map (· + 1)) (by
    rw [List.nodup_iff_pairwise_ne, List.pairwise_map]
    exact List.nodup_range.imp (fun h => by omega)) (by
    intro x hx
    obtain ⟨i, hi, rfl⟩ := List.mem_map.1 hx
    have hi' : i < K := by simpa using hi
    have w := (stepB_of (hs i hi')).1
    have hh := wiB_of w
    exact ⟨(l.getD i cl0).1.toNat * 5 + (l.getD i cl0).2.1.toNat, by omega, numF_of hC hs hi' _ _ (inB_start w)⟩)
  simpa using this
end Go.Proofs.Ytcecmkideoodiaa
namespace Go.Proofs.Ytcecmkideoodiaa
open Go.RowKit

theorem countP_two {α : Type} (p : α → Bool) (l : List α) (i j : Nat) (hij : i < j) (hj : j < l.length) (h1 : p (l[i]'(by omega)) = true) (h2 : p l[j] = true) : 2 ≤ l.countP p := by
  have e : l = l.take (i + 1) ++ l.drop (i + 1) := (List.take_append_drop _ _).symm
  rw [e, List.countP_append]
  have c1 : 0 < (l.take (i + 1)).countP p := List.countP_pos_iff.2 ⟨l[i], by
    rw [List.mem_take_iff_getElem]
    exact ⟨i, by omega, rfl⟩, h1⟩
  have c2 : 0 < (l.drop (i + 1)).countP p := List.countP_pos_iff.2 ⟨l[j], by
    rw [List.mem_drop_iff_getElem]
    exact ⟨j - (i + 1), by omega, by congr 1; omega⟩, h2⟩
  omega
theorem getD_get {l : List Cl} {k : Nat} (hk : k < l.length) : l.getD k cl0 = l[k] := by simp [List.getD, hk]
theorem countP_one {α : Type} (p : α → Bool) (l : List α) (k : Nat) (hk : k < l.length) (h : p l[k] = true) (hu : ∀ i (hi : i < l.length), p l[i] = true → i = k) : l.countP p = 1 := by
  have h1 : 0 < l.countP p := List.countP_pos_iff.2 ⟨l[k], List.getElem_mem hk, h⟩
  induction l generalizing k with
  | nil => simp at hk
  | cons x l ih =>
    cases k with
    | zero =>
      have hx : p x = true := h
      rw [List.countP_cons_of_pos hx]
      have : l.countP p = 0 := List.countP_eq_zero.2 (by
        intro y hy hpy
        obtain ⟨i, hi, rfl⟩ := List.getElem_of_mem hy
        have := hu (i + 1) (by simpa using hi) (by simpa using hpy)
        omega)
      omega
    | succ k =>
      have hx : ¬ p x = true := fun hx => by
        have := hu 0 (by simp) hx
        omega
      rw [List.countP_cons_of_neg hx]
      have hk' : k < l.length := by simpa using hk
      refine ih k hk' h (fun i hi hp => ?_) (List.countP_pos_iff.2 ⟨l[k], List.getElem_mem hk', h⟩)
      have := hu (i + 1) (by simpa using hi) (by simpa using hp)
      omega
theorem ahead_of {x y : Cl} (h : ahead x y = true) : x.1 < y.1 ∨ x.1 = y.1 ∧ x.2.1 < y.2.1 := of_decide_eq_true h
theorem ahead_far {R C : Int} {l : List Cl} (h : ∀ k, k < l.length → atB R C l k = true) : ∀ (k i : Nat), k < l.length → i < k → ahead (l.getD i cl0) (l.getD k cl0) = true
  | 0, i, _, hi => by omega
  | k + 1, i, hk, hi => by
    have h1 : ahead (l.getD k cl0) (l.getD (k + 1) cl0) = true := by
      have := h (k + 1) hk
      simp only [atB, Bool.and_eq_true, Bool.or_eq_true, decide_eq_true_eq] at this
      rcases this.2 with h2 | h2
      · omega
      · exact h2
    by_cases hik : i = k
    · subst hik
      exact h1
    · have h2 := ahead_of (ahead_far h k i (by omega) (by omega))
      have h3 := ahead_of h1
      exact decide_eq_true (by omega)

theorem okB_of_gridP {R C : Int} {l : List Cl} (h : gridP R C l) : okB R C l = true := by
  obtain ⟨hR, hC, hs, ht⟩ := h
  have hw : ∀ i, i < l.length → wiB R C (l.getD i cl0) = true := fun j hj => (stepB_of (hs j hj)).1
  have hform : formB R C l = true := by
    have hlen := step_le hR.2 hC.2 hs
    simp only [formB, Bool.and_eq_true, decide_eq_true_eq, List.all_eq_true, List.mem_range]
    refine ⟨⟨⟨hR, hC⟩, hlen⟩, ?_⟩
    intro k hk
    obtain ⟨w1, _, w3⟩ := stepB_of (hs k hk)
    have w4 := wiB_of w1
    simp only [atB, Bool.and_eq_true, Bool.or_eq_true, cellB, decide_eq_true_eq]
    refine ⟨⟨⟨⟨⟨by omega, by omega⟩, by omega, by omega⟩, by omega, by omega⟩, w3⟩, ?_⟩
    by_cases hk0 : k = 0
    · exact .inl hk0
    · right
      have e := numF_of hC.2 hs hk _ _ (inB_start w1)
      obtain ⟨_, t2⟩ := ht (l.getD k cl0).1.toNat (l.getD k cl0).2.1.toNat (by unfold vis; omega)
      obtain ⟨a, b, h3, h4⟩ := t2 k (by omega) (by omega)
      have hb : b < 5 := by unfold vis at h3; omega
      obtain ⟨_, h5⟩ := numF_pos l R C l.length hw a b (k - 1) hb (by omega)
      simp only [inB, decide_eq_true_eq] at h5
      refine decide_eq_true ?_
      unfold vis at h3
      omega
  simp only [okB, hform, Bool.true_and, List.all_eq_true, List.mem_range, colB, decide_eq_true_eq]
  intro a ha b hb
  obtain ⟨t1, _⟩ := ht a b (by unfold vis; omega)
  obtain ⟨h1, h2⟩ := numF_pos l R C l.length hw a b (numF l l.length (a * 5 + b) - 1) (by omega) (by omega)
  generalize numF l l.length (a * 5 + b) - 1 = m at h1 h2
  unfold cnt
  rw [getD_get h1] at h2
  refine countP_one _ l m h1 h2 ?_
  intro i hi hp
  rw [← getD_get hi] at hp
  rw [← getD_get h1] at h2
  rcases Nat.lt_trichotomy i m with h3 | h3 | h3
  · exact (step_apart hC.2 hs h3 h1 a b hp h2).elim
  · exact h3
  · exact (step_apart hC.2 hs h3 hi a b h2 hp).elim
theorem okB_cnt {R C : Int} {l : List Cl} (h : okB R C l = true) (a b : Nat) (ha : (a : Int) < R) (hb : (b : Int) < C) : cnt l a b = 1 := by
  simp only [okB, Bool.and_eq_true, List.all_eq_true, List.mem_range, colB, decide_eq_true_eq] at h
  exact h.2 a (by omega) b (by omega)
theorem okB_apart {R C : Int} {l : List Cl} (h : okB R C l = true) (a b : Nat) (ha : (a : Int) < R) (hb : (b : Int) < C) {i k : Nat} (hik : i < k) (hk : k < l.length) (h1 : inB (l.getD i cl0) a b = true) (h2 : inB (l.getD k cl0) a b = true) : False := by
  have := okB_cnt h a b ha hb
  rw [getD_get (by omega)] at h1
  rw [getD_get hk] at h2
  have c := countP_two (fun x => inB x a b) l i k hik hk h1 h2
  unfold cnt at this
  omega
theorem gridP_of_okB {R C : Int} {l : List Cl} (h : okB R C l = true) : gridP R C l := by
  have hf : formB R C l = true := by
    simp only [okB, Bool.and_eq_true] at h
    exact h.1
  obtain ⟨hR, hC, hlen, hat⟩ := formB_of hf
  have hw : ∀ i, i < l.length → wiB R C (l.getD i cl0) = true := by
    intro i hi
    have := cellB_of (atB_cell (hat i hi))
    simp only [wiB, withB, spanB, Bool.and_eq_true, decide_eq_true_eq]
    omega
  have hs : ∀ k, k < l.length → stepB R C l k = true := by
    intro k hk
    have w := hw k hk
    obtain ⟨w1, w2, w3⟩ := wiB_of w
    simp only [stepB, Bool.and_eq_true]
    refine ⟨⟨w, ?_⟩, (cellB_of (atB_cell (hat k hk))).2.2.2.2⟩
    refine freeB_iff.2 ?_
    intro a b hab
    have hb : b < 5 := by unfold inR at hab; omega
    have ha' : (a : Int) < R := by unfold inR at hab; omega
    have hb' : (b : Int) < C := by unfold inR at hab; omega
    cases hm : numF l k (a * 5 + b) with
    | zero => rfl
    | succ m =>
      obtain ⟨h1, h2⟩ := numF_pos l R C k (fun i hi => hw i (by omega)) a b m hb hm
      exact (okB_apart h a b ha' hb' h1 hk h2 ((inB_nat w1).2 hab)).elim
  refine ⟨hR, hC, hs, ?_⟩
  intro a b hv
  have ha' : (a : Int) < R := by unfold vis at hv; omega
  have hb' : (b : Int) < C := by unfold vis at hv; omega
  have hb : b < 5 := by omega
  constructor
  · have hc := okB_cnt h a b ha' hb'
    rcases Nat.eq_zero_or_pos (numF l l.length (a * 5 + b)) with h0 | h0
    · have hz := numF_zero l R C l.length hw a b hb h0
      have : cnt l a b = 0 := List.countP_eq_zero.2 (by
        intro x hx hp
        obtain ⟨i, hi, rfl⟩ := List.getElem_of_mem hx
        have := hz i hi
        rw [getD_get hi] at this
        rw [this] at hp
        exact absurd hp (by simp))
      omega
    · exact h0
  · intro k k1 k2
    obtain ⟨h1, h2⟩ := numF_pos l R C l.length hw a b (numF l l.length (a * 5 + b) - 1) hb (by omega)
    have hk : k - 1 < numF l l.length (a * 5 + b) - 1 := by omega
    generalize numF l l.length (a * 5 + b) - 1 = m at h1 h2 hk
    have h3 := ahead_of (ahead_far hat m (k - 1) h1 hk)
    have w := hw (k - 1) (by omega)
    have w' := wiB_of w
    refine ⟨(l.getD (k - 1) cl0).1.toNat, (l.getD (k - 1) cl0).2.1.toNat, ?_, ?_⟩
    · simp only [inB, decide_eq_true_eq] at h2
      unfold vis
      omega
    · rw [numF_of hC.2 hs (show k - 1 < l.length by omega) _ _ (inB_start w)]
      omega
theorem gridP_iff {R C : Int} {l : List Cl} : gridP R C l ↔ okB R C l = true := ⟨okB_of_gridP, gridP_of_okB⟩
end Go.Proofs.Ytcecmkideoodiaa
namespace Go.Proofs.Ytcecmkideoodiaa
open Go.RowKit

/-- What a function gives that answers a table and whether there is one. -/
def TabRes (B : Nat) (ok : Bool) (X Y : Int) (L : List Cl) (z : Ending) (w' : World) : Prop :=
  (ok = false ∧ z = .returned (.tuple #[.agg #[.int .i64 0, .int .i64 0, .slice none 0 0], .bool false])) ∨
  (ok = true ∧ ∃ a c rs, z = .returned (.tuple #[.agg #[.int .i64 X, .int .i64 Y, .slice a L.length c], .bool true]) ∧ OwnT w' B (.slice a L.length c) rs L)
theorem run_tabOf {w : World} {g : Nat} {x y s : Value} (h : RowAt w g #[x, y, s] 37) : (loadVar 37 ⟨g, 0, none⟩).run Try.prog w = .ok (.agg #[x, y, s]) w :=
  run_loadVar_row w g 37 37 #[x, y, s] (0, 0) _ h Try.underlying37 rfl tab_info
end Go.Proofs.Ytcecmkideoodiaa
namespace Go.Proofs.Ytcecmkideoodiaa
open Go.RowKit

/-- 'append(v, t...)', v the call's own, t a text; the value lies where it lay, or where nothing lay. -/
theorem wpList_append_txtL {w : World} {ops : Array Oper} {rest : List Oper} {o : Oper} {a : Act} {Q : Exit → Act → World → Prop} (hgd : o.guard = none) (s x : Operand)
    (ho : o.op = .call { callee := .builtin .append, args := #[s, x], argTypes := #[31, 31] })
    (base : Nat) (v : Value) (n : Nat) (xs : List Value) (hs : a.eval s = v) (hown : w.ownsRow base 74 3 v n xs)
    (p : Option Addr) (m c : Nat) (l : List Sg) (hx : a.eval x = .slice p m c) (htx : Txt w p m c l) (h63 : n + m ≤ 1000000000) (hbase : base ≤ w.heap.size)
    (h : ∀ v' w', w'.ownsRow base 74 3 v' (n + m) (xs ++ flat l) → w.grownBy w' v.ownBlock → (∀ b, v'.ownBlock = some b → v.ownBlock = some b ∨ w.heap.size ≤ b) → wpList Try.prog ops Q rest (a.put o.dst v') w') : wpList Try.prog ops Q (o :: rest) a w := by
  obtain ⟨i0, hi, hz0, hz1, hz2⟩ := info_parts Try.info74
  obtain ⟨rfl, h2, h3, h4⟩ := htx
  rcases h4 with rfl | ⟨b, off, rfl, hb, hsn⟩
  · refine wpList_append_empty hgd s x 31 ho base 74 i0 3 Try.underlying31 hi v n xs hs hown p c hx ?_
    exact h v w (by simpa [flat] using hown) (grownBy_refl _ _) (fun b hb => .inl hb)
  · by_cases h0 : l.length = 0
    · obtain rfl : l = [] := List.eq_nil_of_length_eq_zero h0
      refine wpList_append_empty hgd s x 31 ho base 74 i0 3 Try.underlying31 hi v n xs hs hown _ c hx ?_
      exact h v w (by simpa [flat] using hown) (grownBy_refl _ _) (fun b hb => .inl hb)
    · refine wpList_append_lies w hgd s x 31 ho base 74 i0 _ 3 24 Try.underlying31 hi hz0 hz1 hz2 rfl (by decide) v n xs hs hown ⟨b, off, none⟩ l.length c (flat l) hx (by rw [flat_length]) (news_signs hsn) (flat_one l) (by omega) (by unfold maxLen; omega) (by omega) hbase w.heap.size rfl ?_
      intro g cap w' h5 h6 h7 _
      refine h _ w' h5 h6 (fun b' hb' => ?_)
      have e : g = b' := by simpa [Value.ownBlock] using hb'
      subst e
      rcases h7 with h7 | h7
      · exact .inl h7
      · exact .inr (by omega)

set_option maxRecDepth 100000 in
set_option maxHeartbeats 8000000 in
theorem specTableMerge_any (R C r c d g : Int) (a : Option Addr) (n cap : Nat) (l : List Cl) (w : World) (h : Tab w a n cap l) :
    Calls Try.prog 70 #[.agg #[.int .i64 R, .int .i64 C, .slice a n cap], .int .i64 r, .int .i64 c, .int .i64 d, .int .i64 g] w fun z w' => TabRes w.heap.size (mergeB R C l r c d g) R C (mergeL l r c d g) z w' ∧ Below w.heap.size w w' := by
  obtain ⟨i0, hi, hz0, hz1, hz2⟩ := info_parts Try.info41
  have H : Hid (Tab w a n cap l) := h
  clear h
  obtain ⟨ok, HX⟩ : ∃ x, Hid (okB R C l = x) := ⟨_, rfl⟩
  go_enter Try.func70, Try.ntmps70
  go_upto_region 1 with fail
  have B0 : Below w.heap.size w ((w.alloc (.cells #[.int .i64 R, .int .i64 C, .slice a n cap] 37)).alloc (.cells #[.int .i64 0, .int .i64 0, .slice none 0 0] 37)) := ((Below.refl _ _).alloc (Nat.le_refl _) _).alloc (by simp) _
  have G0 : RowAt ((w.alloc (.cells #[.int .i64 R, .int .i64 C, .slice a n cap] 37)).alloc (.cells #[.int .i64 0, .int .i64 0, .slice none 0 0] 37)) w.heap.size #[.int .i64 R, .int .i64 C, .slice a n cap] 37 := (rowAt_new w _ _).alloc _
  have G1 : RowAt ((w.alloc (.cells #[.int .i64 R, .int .i64 C, .slice a n cap] 37)).alloc (.cells #[.int .i64 0, .int .i64 0, .slice none 0 0] 37)) (w.heap.size + 1) #[.int .i64 0, .int .i64 0, .slice none 0 0] 37 := by
    have := rowAt_new (w.alloc (.cells #[.int .i64 R, .int .i64 C, .slice a n cap] 37)) #[.int .i64 0, .int .i64 0, .slice none 0 0] 37
    simpa using this
  have HT : Hid (Tab ((w.alloc (.cells #[.int .i64 R, .int .i64 C, .slice a n cap] 37)).alloc (.cells #[.int .i64 0, .int .i64 0, .slice none 0 0] 37)) a n cap l) := H.out.below B0
  generalize ((w.alloc (.cells #[.int .i64 R, .int .i64 C, .slice a n cap] 37)).alloc (.cells #[.int .i64 0, .int .i64 0, .slice none 0 0] 37)) = v at B0 G0 G1 HT ⊢
  have k0 : v.cell? ⟨w.heap.size, 0, none⟩ = some (.int .i64 R) := G0.cell 0
  have k1 : v.cell? ⟨w.heap.size, 1, none⟩ = some (.int .i64 C) := G0.cell 1
  have k2 : v.cell? ⟨w.heap.size, 2, none⟩ = some (.slice a n cap) := G0.cell 2
  have s0 := B0.size
  have z0 := G0.lt
  have z1 := G1.lt
  have HG0 : Hid (RowAt v w.heap.size #[.int .i64 R, .int .i64 C, .slice a n cap] 37) := G0
  have HG1 : Hid (RowAt v (w.heap.size + 1) #[.int .i64 0, .int .i64 0, .slice none 0 0] 37) := G1
  have HB0 : Hid (Below w.heap.size w v) := B0
  clear G0 G1 B0
  cases ok
  · have HNB : Hid (mergeB R C l r c d g = false) := by
      show mergeB R C l r c d g = false
      simp only [mergeB, HX.out, Bool.false_and]
    go_wp2_with (first | (go_at_call 61; refine (specTableOk_any R C a n cap l _ HT.out).mono ?_; rw [HX.out]; rintro e w1 ⟨rfl, hb1⟩; have HG2 : Hid (RowAt w1 (w.heap.size + 1) #[.int .i64 0, .int .i64 0, .slice none 0 0] 37) := HG1.out.below hb1 z1; have q0 := (hb1.cell (p := ⟨w.heap.size, 0, none⟩) z0).trans k0; have q1 := (hb1.cell (p := ⟨w.heap.size, 1, none⟩) z0).trans k1; have q2 := (hb1.cell (p := ⟨w.heap.size, 2, none⟩) z0).trans k2) | (refine wpList_store_row rfl 37 (.tmp 10) (.tmp 57) rfl (w.heap.size + 1) #[.int .i64 0, .int .i64 0, .slice none 0 0] rfl rfl 37 _ HG2.out tab_info rfl (cells3_one _ _ _ _ _) ?_))
    refine bodyPost_ret (v := .tuple #[.agg #[.int .i64 0, .int .i64 0, .slice none 0 0], .bool false]) ?_ rfl ⟨.inl ⟨HNB.out, rfl⟩, below_row (HB0.out.trans (hb1.mono s0)) (by omega) _⟩
    rw [results_cell_tmp rfl]
    simp [asAddr, Result.andThen, run_tabOf (RowAt.setRow HG2.out #[.int .i64 0, .int .i64 0, .slice none 0 0])]
  · have hg := gridP_of_okB HX.out
    obtain ⟨hR, hC, -, -⟩ := hg
    have hl25 : l.length ≤ 25 := (formB_of (show formB R C l = true by have := HX.out; simp only [okB, Bool.and_eq_true] at this; exact this.1)).2.2.1
    have HTL : Hid (∀ x ∈ l, x.2.2.2.2.length ≤ 24) := fun x hx => by
      obtain ⟨k, hk, e⟩ := List.getElem_of_mem hx
      have := (stepB_of ((gridP_of_okB HX.out).2.2.1 k hk)).2.2
      rw [show l.getD k cl0 = x by rw [← e]; simp [List.getD, hk]] at this
      simp only [textB, Bool.and_eq_true, decide_eq_true_eq] at this
      omega
    have HN : Hid (n = l.length) := H.out.1
    by_cases hc0 : 0 ≤ r ∧ r ≤ R - 1
    case neg =>
      have HS0 : Hid (decide (0 ≤ r ∧ r ≤ R - 1) = false) := decide_eq_false hc0
      have HNB : Hid (mergeB R C l r c d g = false) := by
        show mergeB R C l r c d g = false
        simp only [mergeB, bndB, HS0.out, Bool.false_and, Bool.and_false]
      go_wp2_with (first | (go_at_call 61; refine (specTableOk_any R C a n cap l _ HT.out).mono ?_; rw [HX.out]; rintro e w1 ⟨rfl, hb1⟩; have HG2 : Hid (RowAt w1 (w.heap.size + 1) #[.int .i64 0, .int .i64 0, .slice none 0 0] 37) := HG1.out.below hb1 z1; have q0 := (hb1.cell (p := ⟨w.heap.size, 0, none⟩) z0).trans k0; have q1 := (hb1.cell (p := ⟨w.heap.size, 1, none⟩) z0).trans k1; have q2 := (hb1.cell (p := ⟨w.heap.size, 2, none⟩) z0).trans k2) | (go_at_call_of 30 (Value.int IntKind.i64 r); refine (l6In_of HS0.out _).mono ?_; rintro e w9 ⟨rfl, hw9⟩; subst w9) | (refine wpList_store_row rfl 37 (.tmp 10) (.tmp 57) rfl (w.heap.size + 1) #[.int .i64 0, .int .i64 0, .slice none 0 0] rfl rfl 37 _ HG2.out tab_info rfl (cells3_one _ _ _ _ _) ?_))
      refine bodyPost_ret (v := .tuple #[.agg #[.int .i64 0, .int .i64 0, .slice none 0 0], .bool false]) ?_ rfl ⟨.inl ⟨HNB.out, rfl⟩, below_row (HB0.out.trans (hb1.mono s0)) (by omega) _⟩
      rw [results_cell_tmp rfl]
      simp [asAddr, Result.andThen, run_tabOf (RowAt.setRow HG2.out #[.int .i64 0, .int .i64 0, .slice none 0 0])]
    have HS0 : Hid (decide (0 ≤ r ∧ r ≤ R - 1) = true) := decide_eq_true hc0
    by_cases hc1 : 0 ≤ c ∧ c ≤ C - 1
    case neg =>
      have HS1 : Hid (decide (0 ≤ c ∧ c ≤ C - 1) = false) := decide_eq_false hc1
      have HNB : Hid (mergeB R C l r c d g = false) := by
        show mergeB R C l r c d g = false
        simp only [mergeB, bndB, HS1.out, Bool.false_and, Bool.and_false]
      go_wp2_with (first | (go_at_call 61; refine (specTableOk_any R C a n cap l _ HT.out).mono ?_; rw [HX.out]; rintro e w1 ⟨rfl, hb1⟩; have HG2 : Hid (RowAt w1 (w.heap.size + 1) #[.int .i64 0, .int .i64 0, .slice none 0 0] 37) := HG1.out.below hb1 z1; have q0 := (hb1.cell (p := ⟨w.heap.size, 0, none⟩) z0).trans k0; have q1 := (hb1.cell (p := ⟨w.heap.size, 1, none⟩) z0).trans k1; have q2 := (hb1.cell (p := ⟨w.heap.size, 2, none⟩) z0).trans k2) | (go_at_call_of 30 (Value.int IntKind.i64 r); refine (l6In_of HS0.out _).mono ?_; rintro e w9 ⟨rfl, hw9⟩; subst w9) | (go_at_call_of 30 (Value.int IntKind.i64 c); refine (l6In_of HS1.out _).mono ?_; rintro e w9 ⟨rfl, hw9⟩; subst w9) | (refine wpList_store_row rfl 37 (.tmp 10) (.tmp 57) rfl (w.heap.size + 1) #[.int .i64 0, .int .i64 0, .slice none 0 0] rfl rfl 37 _ HG2.out tab_info rfl (cells3_one _ _ _ _ _) ?_))
      refine bodyPost_ret (v := .tuple #[.agg #[.int .i64 0, .int .i64 0, .slice none 0 0], .bool false]) ?_ rfl ⟨.inl ⟨HNB.out, rfl⟩, below_row (HB0.out.trans (hb1.mono s0)) (by omega) _⟩
      rw [results_cell_tmp rfl]
      simp [asAddr, Result.andThen, run_tabOf (RowAt.setRow HG2.out #[.int .i64 0, .int .i64 0, .slice none 0 0])]
    have HS1 : Hid (decide (0 ≤ c ∧ c ≤ C - 1) = true) := decide_eq_true hc1
    by_cases hc2 : 1 ≤ d ∧ d ≤ R - r
    case neg =>
      have HS2 : Hid (decide (1 ≤ d ∧ d ≤ R - r) = false) := decide_eq_false hc2
      have HNB : Hid (mergeB R C l r c d g = false) := by
        show mergeB R C l r c d g = false
        simp only [mergeB, bndB, HS2.out, Bool.false_and, Bool.and_false]
      go_wp2_with (first | (go_at_call 61; refine (specTableOk_any R C a n cap l _ HT.out).mono ?_; rw [HX.out]; rintro e w1 ⟨rfl, hb1⟩; have HG2 : Hid (RowAt w1 (w.heap.size + 1) #[.int .i64 0, .int .i64 0, .slice none 0 0] 37) := HG1.out.below hb1 z1; have q0 := (hb1.cell (p := ⟨w.heap.size, 0, none⟩) z0).trans k0; have q1 := (hb1.cell (p := ⟨w.heap.size, 1, none⟩) z0).trans k1; have q2 := (hb1.cell (p := ⟨w.heap.size, 2, none⟩) z0).trans k2) | (go_at_call_of 30 (Value.int IntKind.i64 r); refine (l6In_of HS0.out _).mono ?_; rintro e w9 ⟨rfl, hw9⟩; subst w9) | (go_at_call_of 30 (Value.int IntKind.i64 c); refine (l6In_of HS1.out _).mono ?_; rintro e w9 ⟨rfl, hw9⟩; subst w9) | (go_at_call_of 30 (Value.int IntKind.i64 d); refine (l6In_of HS2.out _).mono ?_; rintro e w9 ⟨rfl, hw9⟩; subst w9) | (refine wpList_store_row rfl 37 (.tmp 10) (.tmp 57) rfl (w.heap.size + 1) #[.int .i64 0, .int .i64 0, .slice none 0 0] rfl rfl 37 _ HG2.out tab_info rfl (cells3_one _ _ _ _ _) ?_))
      refine bodyPost_ret (v := .tuple #[.agg #[.int .i64 0, .int .i64 0, .slice none 0 0], .bool false]) ?_ rfl ⟨.inl ⟨HNB.out, rfl⟩, below_row (HB0.out.trans (hb1.mono s0)) (by omega) _⟩
      rw [results_cell_tmp rfl]
      simp [asAddr, Result.andThen, run_tabOf (RowAt.setRow HG2.out #[.int .i64 0, .int .i64 0, .slice none 0 0])]
    have HS2 : Hid (decide (1 ≤ d ∧ d ≤ R - r) = true) := decide_eq_true hc2
    by_cases hc3 : 1 ≤ g ∧ g ≤ C - c
    case neg =>
      have HS3 : Hid (decide (1 ≤ g ∧ g ≤ C - c) = false) := decide_eq_false hc3
      have HNB : Hid (mergeB R C l r c d g = false) := by
        show mergeB R C l r c d g = false
        simp only [mergeB, bndB, HS3.out, Bool.false_and, Bool.and_false]
      go_wp2_with (first | (go_at_call 61; refine (specTableOk_any R C a n cap l _ HT.out).mono ?_; rw [HX.out]; rintro e w1 ⟨rfl, hb1⟩; have HG2 : Hid (RowAt w1 (w.heap.size + 1) #[.int .i64 0, .int .i64 0, .slice none 0 0] 37) := HG1.out.below hb1 z1; have q0 := (hb1.cell (p := ⟨w.heap.size, 0, none⟩) z0).trans k0; have q1 := (hb1.cell (p := ⟨w.heap.size, 1, none⟩) z0).trans k1; have q2 := (hb1.cell (p := ⟨w.heap.size, 2, none⟩) z0).trans k2) | (go_at_call_of 30 (Value.int IntKind.i64 r); refine (l6In_of HS0.out _).mono ?_; rintro e w9 ⟨rfl, hw9⟩; subst w9) | (go_at_call_of 30 (Value.int IntKind.i64 c); refine (l6In_of HS1.out _).mono ?_; rintro e w9 ⟨rfl, hw9⟩; subst w9) | (go_at_call_of 30 (Value.int IntKind.i64 d); refine (l6In_of HS2.out _).mono ?_; rintro e w9 ⟨rfl, hw9⟩; subst w9) | (go_at_call_of 30 (Value.int IntKind.i64 g); refine (l6In_of HS3.out _).mono ?_; rintro e w9 ⟨rfl, hw9⟩; subst w9) | (refine wpList_store_row rfl 37 (.tmp 10) (.tmp 57) rfl (w.heap.size + 1) #[.int .i64 0, .int .i64 0, .slice none 0 0] rfl rfl 37 _ HG2.out tab_info rfl (cells3_one _ _ _ _ _) ?_))
      refine bodyPost_ret (v := .tuple #[.agg #[.int .i64 0, .int .i64 0, .slice none 0 0], .bool false]) ?_ rfl ⟨.inl ⟨HNB.out, rfl⟩, below_row (HB0.out.trans (hb1.mono s0)) (by omega) _⟩
      rw [results_cell_tmp rfl]
      simp [asAddr, Result.andThen, run_tabOf (RowAt.setRow HG2.out #[.int .i64 0, .int .i64 0, .slice none 0 0])]
    have HS3 : Hid (decide (1 ≤ g ∧ g ≤ C - c) = true) := decide_eq_true hc3
    have HBD : Hid (bndB R C r c d g = true) := by
      show bndB R C r c d g = true
      simp only [bndB, HS0.out, HS1.out, HS2.out, HS3.out, Bool.and_self]
    obtain ⟨r, rfl⟩ : ∃ r' : Nat, r = r' := ⟨r.toNat, by omega⟩
    obtain ⟨c, rfl⟩ : ∃ c' : Nat, c = c' := ⟨c.toNat, by omega⟩
    obtain ⟨d, rfl⟩ : ∃ d' : Nat, d = d' := ⟨d.toNat, by omega⟩
    obtain ⟨g, rfl⟩ : ∃ g' : Nat, g = g' := ⟨g.toNat, by omega⟩
    go_upto_region 3 with (first | (go_at_call 61; refine (specTableOk_any R C a n cap l _ HT.out).mono ?_; rw [HX.out]; rintro e w1 ⟨rfl, hb1⟩; have HG2 : Hid (RowAt w1 (w.heap.size + 1) #[.int .i64 0, .int .i64 0, .slice none 0 0] 37) := HG1.out.below hb1 z1; have q0 := (hb1.cell (p := ⟨w.heap.size, 0, none⟩) z0).trans k0; have q1 := (hb1.cell (p := ⟨w.heap.size, 1, none⟩) z0).trans k1; have q2 := (hb1.cell (p := ⟨w.heap.size, 2, none⟩) z0).trans k2) | (go_at_call_of 30 (Value.int IntKind.i64 r); refine (l6In_of HS0.out _).mono ?_; rintro e w9 ⟨rfl, hw9⟩; subst w9) | (go_at_call_of 30 (Value.int IntKind.i64 c); refine (l6In_of HS1.out _).mono ?_; rintro e w9 ⟨rfl, hw9⟩; subst w9) | (go_at_call_of 30 (Value.int IntKind.i64 d); refine (l6In_of HS2.out _).mono ?_; rintro e w9 ⟨rfl, hw9⟩; subst w9) | (go_at_call_of 30 (Value.int IntKind.i64 g); refine (l6In_of HS3.out _).mono ?_; rintro e w9 ⟨rfl, hw9⟩; subst w9))
    clear k0 k1 k2
    have s1 := hb1.size
    have HT1 : Hid (Tab w1 a n cap l) := HT.out.below hb1
    go_upto_region 4 with fail
    have B1 : Below w1.heap.size w1 (w1.alloc (.cells #[.int .i64 r, .int .i64 c, .int .i64 d, .int .i64 g, .slice none 0 0] 41)) := (Below.refl _ _).alloc (Nat.le_refl _) _
    have RO1 : RowAt (w1.alloc (.cells #[.int .i64 r, .int .i64 c, .int .i64 d, .int .i64 g, .slice none 0 0] 41)) w1.heap.size #[.int .i64 r, .int .i64 c, .int .i64 d, .int .i64 g, .slice none 0 0] 41 := rowAt_new w1 _ _
    have sz1 : (w1.alloc (.cells #[.int .i64 r, .int .i64 c, .int .i64 d, .int .i64 g, .slice none 0 0] 41)).heap.size = w1.heap.size + 1 := by simp
    have HQ2 : Hid (w1.cell? ⟨w.heap.size, 2, none⟩ = some (.slice a n cap)) := q2
    generalize (w1.alloc (.cells #[.int .i64 r, .int .i64 c, .int .i64 d, .int .i64 g, .slice none 0 0] 41)) = v1 at B1 RO1 sz1 ⊢
    have p0 := (B1.cell (p := ⟨w.heap.size, 0, none⟩) (by show w.heap.size < w1.heap.size; omega)).trans q0
    have p1 := (B1.cell (p := ⟨w.heap.size, 1, none⟩) (by show w.heap.size < w1.heap.size; omega)).trans q1
    clear q0 q1 q2
    go_upto_region 5 with fail
    have B2 : Below w1.heap.size w1 (v1.alloc (.cells #[.int .i64 R, .int .i64 C, .slice none 0 0] 37)) := B1.alloc (by omega) _
    have RO : RowAt (v1.alloc (.cells #[.int .i64 R, .int .i64 C, .slice none 0 0] 37)) w1.heap.size #[.int .i64 r, .int .i64 c, .int .i64 d, .int .i64 g, .slice none 0 0] 41 := RO1.alloc _
    have RG : RowAt (v1.alloc (.cells #[.int .i64 R, .int .i64 C, .slice none 0 0] 37)) (w1.heap.size + 1) #[.int .i64 R, .int .i64 C, .slice none 0 0] 37 := by
      have := rowAt_new v1 #[.int .i64 R, .int .i64 C, .slice none 0 0] 37
      rw [sz1] at this
      exact this
    clear p0 p1 RO1 B1
    generalize (v1.alloc (.cells #[.int .i64 R, .int .i64 C, .slice none 0 0] 37)) = v2 at B2 RO RG ⊢
    have zO := RO.lt
    have zG := RG.lt
    go_wp2_with fail
    go_loopw [14, 15] (fun nv iv wr => ∃ (i : Nat) (a' : Option Addr) (m' c' : Nat) (rs : List Rw) (pa : Option Addr) (pn pc : Nat), i ≤ n ∧ iv = .int .i64 i ∧ nv = .int .i64 (mN r c d g (l.take i) : Nat) ∧ (∀ k, k < i → cutB r c d g (l.getD k cl0) = false) ∧ RowAt wr w1.heap.size #[.int .i64 r, .int .i64 c, .int .i64 d, .int .i64 g, .slice pa pn pc] 41 ∧ Own wr v2.heap.size (.slice pa pn pc) (mTx r c d g (l.take i)) ∧ RowAt wr (w1.heap.size + 1) #[.int .i64 R, .int .i64 C, .slice a' m' c'] 37 ∧ OwnR wr v2.heap.size (.slice a' m' c') rs ∧ TxtOwn wr v2.heap.size (Value.slice a' m' c').ownBlock rs (mOut r c d g (l.take i)) ∧ (∀ k, k < rs.length → ∀ b, (rwT (rs.getD k rw0)).ownBlock = some b → (Value.slice pa pn pc).ownBlock ≠ some b) ∧ Below w1.heap.size w1 wr ∧ v2.heap.size ≤ wr.heap.size) (fun _ iv _ => n - (intOf iv).toNat)
    case atStart => exact ⟨0, none, 0, 0, [], none, 0, 0, Nat.zero_le _, rfl, rfl, fun k hk => by omega, RO, World.ownsRow_nil _ _ _ _, RG, OwnR.nil _ _, TxtOwn.nil _ _ _, fun k hk => by simp at hk, B2, Nat.le_refl _⟩
    case round =>
      clear RO RG B2
      obtain ⟨i, a', m', c', rs, pa, pn, pc, hin, rfl, rfl, hcut, hO1, hTx, hG1, hOR, hTO, hdis, hb, hs⟩ := hrel
      have hmN : mN r c d g (l.take i) ≤ i := by have := mN_le r c d g (l.take i); simp only [List.length_take] at this; omega
      have hmO : (mOut r c d g (l.take i)).length ≤ i := by have := mOut_le r c d g (l.take i); simp only [List.length_take] at this; omega
      have HCut : Hid (∀ k, k < i → cutB r c d g (l.getD k cl0) = false) := hcut
      have hpn := hTx.len
      have hm'l := hOR.len
      have hrl := hTO.1
      have htl : (mTx r c d g (l.take i)).length ≤ 24 * 25 := by
        have h1 := mTx_le r c d g 24 (l.take i) (fun x hx => HTL.out x (List.mem_of_mem_take hx))
        have h2 : (l.take i).length ≤ 25 := by simp only [List.length_take]; omega
        have h3 : 24 * (l.take i).length ≤ 24 * 25 := Nat.mul_le_mul_left _ h2
        omega
      have HO1 : Hid (RowAt wr w1.heap.size #[.int .i64 r, .int .i64 c, .int .i64 d, .int .i64 g, .slice pa pn pc] 41) := hO1
      have HTx : Hid (Own wr v2.heap.size (.slice pa pn pc) (mTx r c d g (l.take i))) := hTx
      have HG1' : Hid (RowAt wr (w1.heap.size + 1) #[.int .i64 R, .int .i64 C, .slice a' m' c'] 37) := hG1
      have HOR : Hid (OwnR wr v2.heap.size (.slice a' m' c') rs) := hOR
      have HTO : Hid (TxtOwn wr v2.heap.size (Value.slice a' m' c').ownBlock rs (mOut r c d g (l.take i))) := hTO
      have HDis : Hid (∀ k, k < rs.length → ∀ b, (rwT (rs.getD k rw0)).ownBlock = some b → (Value.slice pa pn pc).ownBlock ≠ some b) := hdis
      have HB : Hid (Below w1.heap.size w1 wr) := hb
      have hpn6 : pn ≤ 600 := by omega
      have hm25 : m' ≤ 25 := by have := HN.out; omega
      have hcap := hOR.rws.2.1
      have hcm := hOR.rws.2.2.1
      unfold maxLen at hcm
      have k2 : wr.cell? ⟨w.heap.size, 2, none⟩ = some (.slice a n cap) := (hb.cell (p := ⟨w.heap.size, 2, none⟩) (by show w.heap.size < w1.heap.size; omega)).trans HQ2.out
      have htb := HT1.out.below hb
      have HTB : Hid (Tab wr a n cap l) := htb
      have hc1 := htb.2.1
      have hc2 := htb.2.2.1
      unfold maxLen at hc2
      obtain ⟨nN, HNn⟩ : ∃ q, Hid (mN r c d g (l.take i) = q) := ⟨_, rfl⟩
      rw [HNn.out] at hmN ⊢
      clear hcut hO1 hTx hG1 hOR hTO hdis hb hpn hm'l hrl htl hmO htb
      by_cases hlt : i < n
      · have hil : i < l.length := by rw [← HN.out]; exact hlt
        rcases HTB.out.2.2.2 with e | ⟨b, off, rfl, hbw, hcl⟩
        · rw [e] at hil
          exact absurd hil (by simp)
        obtain ⟨c0, c1, c2, c3, ta, tn, tc, c4, htx⟩ := hcl i hil
        have hwi := wiB_of (stepB_of ((gridP_of_okB HX.out).2.2.1 i hil)).1
        have htl := HTL.out (l.getD i cl0) (by simp [List.getD, hil])
        obtain ⟨⟨xr, xc, xd, xg, tx⟩, hx⟩ : ∃ x, x = l.getD i cl0 := ⟨_, rfl⟩
        have HXx : Hid (l.getD i cl0 = (xr, xc, xd, xg, tx)) := hx.symm
        rw [← hx] at c0 c1 c2 c3 htx hwi htl
        simp only at c0 c1 c2 c3 htx hwi htl
        obtain ⟨xr, rfl⟩ : ∃ q : Nat, xr = q := ⟨xr.toNat, by omega⟩
        obtain ⟨xc, rfl⟩ : ∃ q : Nat, xc = q := ⟨xc.toNat, by omega⟩
        obtain ⟨xd, rfl⟩ : ∃ q : Nat, xd = q := ⟨xd.toNat, by omega⟩
        obtain ⟨xg, rfl⟩ : ∃ q : Nat, xg = q := ⟨xg.toNat, by omega⟩
        have HTN : Hid (tn = tx.length) := htx.1
        have htn24 : tn ≤ 24 := by rw [htx.1]; omega
        have HTT : Hid (Txt wr ta tn tc tx) := htx
        clear hx hcl htx
        go_upto_region 10 with fail
        have bA : Below wr.heap.size wr (wr.alloc (.cells #[.int .i64 xr, .int .i64 xc, .int .i64 xd, .int .i64 xg, .slice ta tn tc] 41)) := (Below.refl _ _).alloc (Nat.le_refl _) _
        have RA : RowAt (wr.alloc (.cells #[.int .i64 xr, .int .i64 xc, .int .i64 xd, .int .i64 xg, .slice ta tn tc] 41)) wr.heap.size #[.int .i64 xr, .int .i64 xc, .int .i64 xd, .int .i64 xg, .slice ta tn tc] 41 := rowAt_new _ _ _
        generalize (wr.alloc (.cells #[.int .i64 xr, .int .i64 xc, .int .i64 xd, .int .i64 xg, .slice ta tn tc] 41)) = w3 at bA RA ⊢
        have s3 := bA.size
        obtain ⟨S, hSe⟩ : ∃ S, wr.heap.size = S := ⟨_, rfl⟩
        have zS : wr.heap.size < w3.heap.size := RA.lt
        have HRA : Hid (RowAt w3 S #[.int .i64 xr, .int .i64 xc, .int .i64 xd, .int .i64 xg, .slice ta tn tc] 41) := by rw [← hSe]; exact RA
        have HO3 : Hid (RowAt w3 w1.heap.size #[.int .i64 r, .int .i64 c, .int .i64 d, .int .i64 g, .slice pa pn pc] 41) := HO1.out.below bA (by omega)
        have HTx3 : Hid (Own w3 v2.heap.size (.slice pa pn pc) (mTx r c d g (l.take i))) := Own.below HTx.out bA
        have HG3 : Hid (RowAt w3 (w1.heap.size + 1) #[.int .i64 R, .int .i64 C, .slice a' m' c'] 37) := HG1'.out.below bA (by omega)
        have HOR3 : Hid (OwnR w3 v2.heap.size (.slice a' m' c') rs) := HOR.out.below bA
        have HTO3 : Hid (TxtOwn w3 v2.heap.size (Value.slice a' m' c').ownBlock rs (mOut r c d g (l.take i))) := HTO.out.below bA
        have HTT3 : Hid (Txt w3 ta tn tc tx) := HTT.out.below bA
        have HB3 : Hid (Below w1.heap.size w1 w3) := HB.out.trans (bA.mono (by omega))
        have HLT : Hid (∀ k, k < rs.length → ∀ q, (rwT (rs.getD k rw0)).ownBlock = some q → q < S) := fun k hk q hq => by rw [← hSe]; exact HTO.out.blockLt k hk q hq
        have HPL : Hid (∀ q, (Value.slice pa pn pc).ownBlock = some q → q < S) := fun q hq => by rw [← hSe]; exact (own_lt HTx.out.row hq).2
        have HAL : Hid (∀ q, (Value.slice a' m' c').ownBlock = some q → q < S) := fun q hq => by rw [← hSe]; exact (own_lt HOR.out.row hq).2
        have y0 : w3.cell? ⟨wr.heap.size, 0, none⟩ = some (.int .i64 xr) := RA.cell 0
        rw [hSe] at y0 zS hs ⊢
        clear bA RA c0 c1 c2 c3 c4 k2 HO1 HTx HG1' HOR HTO HTT HB hSe
        go_wp2_with fail
        clear y0
        go_loopw [17, 18] (fun sv av wr => ∃ k : Nat, k ≤ xd ∧ av = .int .i64 ((xr : Int) + (k : Int)) ∧ sv = .int .i64 ((cntI xr k r d * cntI xc xg c g : Nat) : Int) ∧ Below w3.heap.size w3 wr) (fun _ av _ => xr + xd - (intOf av).toNat)
        case atStart => exact ⟨0, Nat.zero_le _, by simp, by rw [cntI_zero, Nat.zero_mul]; rfl, Below.refl _ _⟩
        case round =>
          obtain ⟨k, hk, rfl, rfl, hbk⟩ := hrel
          have HBk : Hid (Below w3.heap.size w3 wr) := hbk
          have u0 : wr.cell? ⟨S, 0, none⟩ = some (.int .i64 xr) := (HRA.out.below hbk zS).cell 0
          have u1 : wr.cell? ⟨S, 1, none⟩ = some (.int .i64 xc) := (HRA.out.below hbk zS).cell 1
          have u2 : wr.cell? ⟨S, 2, none⟩ = some (.int .i64 xd) := (HRA.out.below hbk zS).cell 2
          have u3 : wr.cell? ⟨S, 3, none⟩ = some (.int .i64 xg) := (HRA.out.below hbk zS).cell 3
          have hq1 := cntI_le xr k r d
          have hq2 := cntI_le xc xg c g
          have hq3 : cntI xr k r d * cntI xc xg c g ≤ 5 * 5 := Nat.mul_le_mul (by omega) (by omega)
          obtain ⟨A, HA⟩ : ∃ A, Hid (cntI xr k r d * cntI xc xg c g = A) := ⟨_, rfl⟩
          rw [HA.out] at hq3 ⊢
          clear hbk hq1 hq2
          by_cases hkd : k < xd
          · go_wp2_with fail
            go_loopw [17, 19] (fun sv bv wr => ∃ j A' : Nat, j ≤ xg ∧ bv = .int .i64 ((xc : Int) + (j : Int)) ∧ sv = .int .i64 (A' : Nat) ∧ Hid (A' = A + (if r ≤ xr + k ∧ xr + k < r + d then cntI xc j c g else 0)) ∧ Below w3.heap.size w3 wr) (fun _ bv _ => xc + xg - (intOf bv).toNat)
            case atStart => exact ⟨0, A, Nat.zero_le _, by simp, rfl, by show A = _; rw [cntI_zero]; split <;> rfl, HBk.out⟩
            case round =>
              clear HBk u0 u1 u2 u3
              obtain ⟨j, A', hj, rfl, rfl, HA', hbj⟩ := hrel
              have HBj : Hid (Below w3.heap.size w3 wr) := hbj
              have u1 : wr.cell? ⟨S, 1, none⟩ = some (.int .i64 xc) := (HRA.out.below hbj zS).cell 1
              have u3 : wr.cell? ⟨S, 3, none⟩ = some (.int .i64 xg) := (HRA.out.below hbj zS).cell 3
              have o0 : wr.cell? ⟨w1.heap.size, 0, none⟩ = some (.int .i64 r) := (HO3.out.below hbj (by omega)).cell 0
              have o1 : wr.cell? ⟨w1.heap.size, 1, none⟩ = some (.int .i64 c) := (HO3.out.below hbj (by omega)).cell 1
              have o2 : wr.cell? ⟨w1.heap.size, 2, none⟩ = some (.int .i64 d) := (HO3.out.below hbj (by omega)).cell 2
              have o3 : wr.cell? ⟨w1.heap.size, 3, none⟩ = some (.int .i64 g) := (HO3.out.below hbj (by omega)).cell 3
              have o4 : wr.cell? ⟨w1.heap.size, 4, none⟩ = some (.slice pa pn pc) := (HO3.out.below hbj (by omega)).cell 4
              have sj := hbj.size
              have hA50 : A' ≤ 50 := by
                have e := HA'.out
                have := cntI_le xc j c g
                split at e <;> omega
              clear hbj
              by_cases hjg : j < xg
              · obtain ⟨q, HQ⟩ : ∃ q, Hid (inB ((r : Int), (c : Int), (d : Int), (g : Int), []) ((xr : Int) + k) ((xc : Int) + j) = q) := ⟨_, rfl⟩
                have hQd : q = decide ((r ≤ xr + k ∧ xr + k < r + d) ∧ (c ≤ xc + j ∧ xc + j < c + g)) := by
                  rw [← HQ.out]
                  unfold inB
                  exact decide_eq_decide.2 (by simp only; omega)
                have HQd : Hid (q = decide ((r ≤ xr + k ∧ xr + k < r + d) ∧ (c ≤ xc + j ∧ xc + j < c + g))) := hQd
                clear hQd
                cases q
                · go_wp2_with (go_at_call 73; refine (l2In_any r c d g pa pn pc _ _ _ ⟨by omega, by omega⟩ ⟨by omega, by omega⟩ ⟨by omega, by omega⟩ ⟨by omega, by omega⟩).mono ?_; rw [HQ.out]; rintro e w9 ⟨rfl, hb9⟩)
                  go_roundw
                  case rel =>
                    refine ⟨j + 1, A', by omega, ?_, rfl, ?_, HBj.out.trans (hb9.mono sj)⟩
                    · congr 1 <;> omega
                    · show A' = _
                      have hno := of_decide_eq_false HQd.out.symm
                      rw [HA'.out, cntI_succ]
                      by_cases h1 : r ≤ xr + k ∧ xr + k < r + d
                      · rw [if_pos h1, if_pos h1, if_neg (fun h2 => hno ⟨h1, h2⟩), Nat.add_zero]
                      · rw [if_neg h1, if_neg h1]
                  case measure => simp [intOf]; omega
                · go_wp2_with (go_at_call 73; refine (l2In_any r c d g pa pn pc _ _ _ ⟨by omega, by omega⟩ ⟨by omega, by omega⟩ ⟨by omega, by omega⟩ ⟨by omega, by omega⟩).mono ?_; rw [HQ.out]; rintro e w9 ⟨rfl, hb9⟩)
                  go_roundw
                  case rel =>
                    refine ⟨j + 1, A' + 1, by omega, ?_, ?_, ?_, HBj.out.trans (hb9.mono sj)⟩
                    · congr 1 <;> omega
                    · congr 1
                    · show A' + 1 = _
                      have hyes := of_decide_eq_true HQd.out.symm
                      rw [HA'.out, cntI_succ, if_pos hyes.1, if_pos hyes.1, if_pos hyes.2]
                      omega
                  case measure => simp [intOf]; omega
              · have ej : j = xg := by omega
                go_wp2_with fail
                go_roundw
                case rel =>
                  refine ⟨k + 1, by omega, ?_, ?_, HBj.out⟩
                  · congr 1 <;> omega
                  · have e1 := HA'.out
                    rw [ej] at e1
                    have e2 := HA.out
                    rw [cntI_succ, Nat.add_mul, e2, e1]
                    congr 2
                    split <;> simp
                case measure => simp [intOf]; omega
          · have ek : k = xd := by omega
            subst ek
            have HSQ : Hid (sqN r c d g (l.getD i cl0) = A) := by
              show sqN r c d g (l.getD i cl0) = A
              rw [HXx.out]
              unfold sqN
              simp only [Int.toNat_natCast]
              exact HA.out
            have sk := HBk.out.size
            have HRA4 : Hid (RowAt wr S #[.int .i64 xr, .int .i64 xc, .int .i64 k, .int .i64 xg, .slice ta tn tc] 41) := HRA.out.below HBk.out zS
            have HO4 : Hid (RowAt wr w1.heap.size #[.int .i64 r, .int .i64 c, .int .i64 d, .int .i64 g, .slice pa pn pc] 41) := HO3.out.below HBk.out (by omega)
            have HTx4 : Hid (Own wr v2.heap.size (.slice pa pn pc) (mTx r c d g (l.take i))) := Own.below HTx3.out HBk.out
            have HG4 : Hid (RowAt wr (w1.heap.size + 1) #[.int .i64 R, .int .i64 C, .slice a' m' c'] 37) := HG3.out.below HBk.out (by omega)
            have HOR4 : Hid (OwnR wr v2.heap.size (.slice a' m' c') rs) := HOR3.out.below HBk.out
            have HTO4 : Hid (TxtOwn wr v2.heap.size (Value.slice a' m' c').ownBlock rs (mOut r c d g (l.take i))) := HTO3.out.below HBk.out
            have HTT4 : Hid (Txt wr ta tn tc tx) := HTT3.out.below HBk.out
            have HB4 : Hid (Below w1.heap.size w1 wr) := HB3.out.trans (HBk.out.mono (by omega))
            have hSw : S < wr.heap.size := HRA4.out.lt
            have hOw : w1.heap.size < wr.heap.size := HO4.out.lt
            clear HRA HO3 HTx3 HG3 HOR3 HTO3 HTT3 HB3 HBk HA
            by_cases hA0 : A = 0
            · have HO0 : Hid (outsB r c d g (l.getD i cl0) = true) := decide_eq_true (by rw [HSQ.out]; exact hA0)
              have HF0 : Hid (fullB r c d g (l.getD i cl0) = false) := decide_eq_false (by rw [HSQ.out]; omega)
              have d4 : wr.cell? ⟨S, 4, none⟩ = some (.slice ta tn tc) := HRA4.out.cell 4
              subst hA0
              go_upto_region 23 with (at_builtin; refine wpList_append_txt rfl (.tmp 112) (.tmp 114) rfl wr.heap.size (.slice (some ⟨wr.heap.size, 0, none⟩) 0 0) 0 [] rfl (World.ownsRow_lit wr #[] 0 (Nat.le_refl _) (by unfold maxLen; omega) rfl) ta tn tc tx rfl (HTT4.out.below ((Below.refl _ _).alloc (Nat.le_refl _) _)) (by omega) (by simp) ?_; intro v' w5 hown hgrow; obtain ⟨p, q, rfl, -⟩ := Own.shape (show Own w5 wr.heap.size v' tx by (rw [Nat.zero_add, List.nil_append, HTN.out] at hown; exact hown)); have R5 := RowAt.grown (HRA4.out.alloc _) hgrow (by simp [Value.ownBlock]; omega); have f4 : w5.cell? ⟨S, 4, none⟩ = some (.slice ta tn tc) := R5.cell 4; have f5 := R5.frozen 4)
              have hO5 : Own w5 wr.heap.size (.slice p tx.length q) tx := by
                rw [Nat.zero_add, List.nil_append, HTN.out] at hown
                exact hown
              have b5 : Below wr.heap.size wr w5 := ((Below.refl _ _).alloc (Nat.le_refl _) _).grown hgrow (by simp) (fun k hk => by simp [Value.ownBlock] at hk; omega)
              have s5 := b5.size
              have R6 := R5.setCell 4 (.slice p tx.length q)
              have O6 : Own (w5.setCell ⟨S, 4, none⟩ (.slice p tx.length q)) wr.heap.size (.slice p tx.length q) tx := own_set hO5 _ _ (fun e => by have := (own_lt hO5.row e).1; simp at this; omega)
              have HO6 : Hid (RowAt (w5.setCell ⟨S, 4, none⟩ (.slice p tx.length q)) w1.heap.size #[.int .i64 r, .int .i64 c, .int .i64 d, .int .i64 g, .slice pa pn pc] 41) := (HO4.out.below b5 (by omega)).other _ _ (by show w1.heap.size ≠ S; omega)
              have HTx6 : Hid (Own (w5.setCell ⟨S, 4, none⟩ (.slice p tx.length q)) v2.heap.size (.slice pa pn pc) (mTx r c d g (l.take i))) := own_set (own_below HTx4.out b5) _ _ (fun e => by have := HPL.out _ e; simp at this)
              have HG6 : Hid (RowAt (w5.setCell ⟨S, 4, none⟩ (.slice p tx.length q)) (w1.heap.size + 1) #[.int .i64 R, .int .i64 C, .slice a' m' c'] 37) := (HG4.out.below b5 (by omega)).other _ _ (by show w1.heap.size + 1 ≠ S; omega)
              have HOR6 : Hid (OwnR (w5.setCell ⟨S, 4, none⟩ (.slice p tx.length q)) v2.heap.size (.slice a' m' c') rs) := own_set (own_below HOR4.out b5) _ _ (fun e => by have := HAL.out _ e; simp at this)
              have HTO6 : Hid (TxtOwn (w5.setCell ⟨S, 4, none⟩ (.slice p tx.length q)) v2.heap.size (Value.slice a' m' c').ownBlock rs (mOut r c d g (l.take i))) := by
                have t5 := HTO4.out.below b5
                exact ⟨t5.1, fun k' hk' => by
                  obtain ⟨h0, h1, h2, h3, h4⟩ := t5.2.1 k' hk'
                  exact ⟨h0, h1, h2, h3, own_set h4 _ _ (fun e => by have := HLT.out k' hk' _ e; simp at this)⟩, t5.2.2⟩
              have HB6 : Hid (Below w1.heap.size w1 (w5.setCell ⟨S, 4, none⟩ (.slice p tx.length q))) := (HB4.out.trans (b5.mono (by omega))).setCell (p := ⟨S, 4, none⟩) (by show w1.heap.size ≤ S; omega) _
              have sz6 : w5.heap.size ≤ (w5.setCell ⟨S, 4, none⟩ (.slice p tx.length q)).heap.size := by simp [World.setCell]
              clear f4 f5 d4 hown hgrow R5 hO5 HO4 HTx4 HG4 HOR4 HTO4 HB4 b5
              generalize (w5.setCell ⟨S, 4, none⟩ (.slice p tx.length q)) = w6 at R6 O6 HO6 HTx6 HG6 HOR6 HTO6 HB6 sz6 ⊢
              have e0 : w6.cell? ⟨S, 0, none⟩ = some (.int .i64 xr) := R6.cell 0
              have e1 : w6.cell? ⟨S, 1, none⟩ = some (.int .i64 xc) := R6.cell 1
              have e2 : w6.cell? ⟨S, 2, none⟩ = some (.int .i64 k) := R6.cell 2
              have e3 : w6.cell? ⟨S, 3, none⟩ = some (.int .i64 xg) := R6.cell 3
              have e4 : w6.cell? ⟨S, 4, none⟩ = some (.slice p tx.length q) := R6.cell 4
              have t2 : w6.cell? ⟨w1.heap.size + 1, 2, none⟩ = some (.slice a' m' c') := HG6.out.cell 2
              have HOw : Hid (Own w6 wr.heap.size (.slice p tx.length q) tx) := O6
              clear R6 O6 u0 u1 u2 u3
              go_wp2_with (at_builtin; refine wpList_append_own _ rfl (.tmp 118) (.tmp 120) 35 rfl v2.heap.size 41 i0 _ 5 56 Try.underlying35 hi hz0 hz1 hz2 rfl (by decide) (.slice a' m' c') _ _ rfl (HOR6.out.row.alloc _) ⟨w6.heap.size, 0, none⟩ 1 1 [.int .i64 xr, .int .i64 xc, .int .i64 k, .int .i64 xg, .slice p tx.length q] rfl rfl (cell_five_new _ _ _ _ _ _ _) (five_oneCell _ _ _ _ _ _ _) (by unfold maxLen; omega) (by omega) (by simp; omega) ?_; intro v' w7 hown' hgrow _; obtain ⟨a5, c5, rfl, ho5, hb5⟩ := ownR_step (B := v2.heap.size) (w := w6) (s := ((xr : Int), (xc : Int), (k : Int), (xg : Int), p, tx.length, q)) HOR6.out (Below.refl _ _) (by omega) hown' hgrow; have R5 := RowAt.grown (HG6.out.alloc _) hgrow (fun e => by have := (own_lt HOR6.out.row e).1; omega); have q2 : w7.cell? ⟨w1.heap.size + 1, 2, none⟩ = some (.slice a' m' c') := R5.cell 2; have q3 := R5.frozen 2)
              go_roundw
              case rel =>
                have s7 := hgrow.size
                simp at s7
                have tO : Own w7 v2.heap.size (.slice p tx.length q) tx := own_grown (Own.alloc (own_less HOw.out (by omega)) _) hgrow (fun b' hb' => own_kinds HOR6.out HOw.out (by decide) b' hb')
                have t5 : TxtOwn w7 v2.heap.size (Value.slice a' m' c').ownBlock rs (mOut r c d g (l.take i)) := (HTO6.out.below ((Below.refl _ _).alloc (Nat.le_refl _) _)).grown hgrow (fun k' hk' b' hb' => HTO6.out.2.2.1 k' hk' b' hb')
                have hge : ∀ b', (Value.slice p tx.length q).ownBlock = some b' → wr.heap.size ≤ b' := fun b' hb' => (own_lt HOw.out.row hb').1
                have t6 := t5.snocD (x := ((xr : Int), (xc : Int), (k : Int), (xg : Int), p, tx.length, q)) (y := ((xr : Int), (xc : Int), (k : Int), (xg : Int), tx)) ⟨rfl, rfl, rfl, rfl, tO⟩ (fun b' hb' => own_kinds HOR6.out HOw.out (by decide) b' hb') (fun k' hk' b' hb' e => by have h1 := HLT.out k' hk' b' hb'; have h2 := hge b' e; omega)
                have B7 : Below w1.heap.size w1 w7 := ((HB6.out).alloc (by omega) _).grown hgrow (by simp; omega) (fun k' hk' => by have := (own_lt HOR6.out.row hk').1; omega)
                have hneG : (Value.slice a5 (m' + 1) c5).ownBlock ≠ some (w1.heap.size + 1) := fun e => by have := (own_lt ho5.row e).1; omega
                have eO : mOut r c d g (l.take (i + 1)) = mOut r c d g (l.take i) ++ [((xr : Int), (xc : Int), (k : Int), (xg : Int), tx)] := by rw [mOut_take r c d g l i hil, if_pos HO0.out, HXx.out]
                have eT : mTx r c d g (l.take (i + 1)) = mTx r c d g (l.take i) := by rw [mTx_take r c d g l i hil, HF0.out]; simp
                have eN : mN r c d g (l.take (i + 1)) = nN := by rw [mN_take r c d g l i hil, HF0.out, HNn.out]; simp
                have hX7 := own_grown (Own.alloc HTx6.out _) hgrow (fun b' hb' => own_kinds HOR6.out HTx6.out (by decide) b' hb')
                refine ⟨i + 1, a5, m' + 1, c5, rs ++ [((xr : Int), (xc : Int), (k : Int), (xg : Int), p, tx.length, q)], pa, pn, pc, by omega, by go_num, by rw [eN], ?_, (RowAt.grown (HO6.out.alloc _) hgrow (fun e => by have := (own_lt HOR6.out.row e).1; omega)).other _ _ (by show w1.heap.size ≠ w1.heap.size + 1; omega), ?_, R5.setCell 2 (.slice a5 (m' + 1) c5), own_set ho5 _ _ hneG, ?_, ?_, B7.setCell (p := ⟨w1.heap.size + 1, 2, none⟩) (by show w1.heap.size ≤ w1.heap.size + 1; omega) _, by simp [World.setCell]; omega⟩
                · intro k' hk'
                  by_cases e : k' = i
                  · subst e
                    unfold cutB
                    rw [HO0.out]
                    rfl
                  · exact HCut.out k' (by omega)
                · rw [eT]
                  exact own_set hX7 _ _ (fun e => by have := (own_lt hX7 e).1; simp at this; omega)
                · rw [eO]
                  exact (t6.anew ho5).setLow _ _ (by show w1.heap.size + 1 < v2.heap.size; omega)
                · intro k' hk' b' hb'
                  by_cases hkl : k' < rs.length
                  · rw [getD_snoc_lt _ _ _ _ hkl] at hb'
                    exact HDis.out k' hkl b' hb'
                  · have hk'' : k' = rs.length := by simp at hk'; omega
                    rw [getD_snoc_eq _ _ _ _ hk''] at hb'
                    intro e
                    have h1 := hge b' hb'
                    have h2 := HPL.out b' e
                    omega
              case measure => simp [intOf]; omega
            have hA0' : ((A : Int) == 0) = false := by simp; omega
            have hPle : k * xg ≤ 5 * 5 := Nat.mul_le_mul (by omega) (by omega)
            obtain ⟨P, HP⟩ : ∃ P, Hid (k * xg = P) := ⟨_, rfl⟩
            have hPI : (k : Int) * (xg : Int) = (P : Int) := by rw [← HP.out]; exact (Int.natCast_mul k xg).symm
            rw [HP.out] at hPle
            by_cases hAf : A = P
            · have HO0 : Hid (outsB r c d g (l.getD i cl0) = false) := decide_eq_false (by rw [HSQ.out]; exact hA0)
              have HF0 : Hid (fullB r c d g (l.getD i cl0) = true) := decide_eq_true (by
                rw [HSQ.out, HXx.out]
                simp only [Int.toNat_natCast]
                exact ⟨hA0, by rw [HP.out]; exact hAf⟩)
              have hAP : ((A : Int) == (P : Int)) = true := by simp [hAf]
              have d4 : wr.cell? ⟨S, 4, none⟩ = some (.slice ta tn tc) := HRA4.out.cell 4
              have o4 : wr.cell? ⟨w1.heap.size, 4, none⟩ = some (.slice pa pn pc) := HO4.out.cell 4
              clear hAf hA0
              go_wp2_with (at_builtin; refine wpList_append_txtL rfl (.tmp 131) (.tmp 133) rfl v2.heap.size (.slice pa pn pc) pn _ rfl HTx4.out.row ta tn tc tx rfl HTT4.out (by omega) (by omega) ?_; intro v' w5 hown hgrow hlie; obtain ⟨p, q, rfl⟩ := Own.shapeN (n := pn + tn) (show Own w5 v2.heap.size v' (mTx r c d g (l.take i) ++ tx) by (unfold Own; rw [flat_append, List.length_append, ← HTx4.out.len, ← HTN.out]; exact hown)) (by rw [List.length_append, ← HTx4.out.len, ← HTN.out]); have R5 := RowAt.grown HO4.out hgrow (fun e => by have := (own_lt HTx4.out.row e).1; omega); have f4 : w5.cell? ⟨w1.heap.size, 4, none⟩ = some (.slice pa pn pc) := R5.cell 4; have f5 := R5.frozen 4)
              go_roundw
              case rel =>
                have hOn : Own w5 v2.heap.size (.slice p (pn + tn) q) (mTx r c d g (l.take i) ++ tx) := by
                  unfold Own
                  rw [flat_append, List.length_append, ← HTx4.out.len, ← HTN.out]
                  exact hown
                have eO : mOut r c d g (l.take (i + 1)) = mOut r c d g (l.take i) := by rw [mOut_take r c d g l i hil, HO0.out]; simp
                have eT : mTx r c d g (l.take (i + 1)) = mTx r c d g (l.take i) ++ tx := by rw [mTx_take r c d g l i hil, if_pos HF0.out, HXx.out]
                have eN : mN r c d g (l.take (i + 1)) = nN + 1 := by rw [mN_take r c d g l i hil, if_pos HF0.out, HNn.out]
                have s5 := hgrow.size
                refine ⟨i + 1, a', m', c', rs, p, pn + tn, q, by omega, by go_num, by rw [eN]; go_num, ?_, R5.setCell 4 (.slice p (pn + tn) q), ?_, (RowAt.grown HG4.out hgrow (fun e => by have := (own_lt HTx4.out.row e).1; omega)).other _ _ (by show w1.heap.size + 1 ≠ w1.heap.size; omega), ?_, ?_, ?_, (HB4.out.grown hgrow (by omega) (fun k' hk' => by have := (own_lt HTx4.out.row hk').1; omega)).setCell (p := ⟨w1.heap.size, 4, none⟩) (Nat.le_refl _) _, by simp [World.setCell]; omega⟩
                · intro k' hk'
                  by_cases e : k' = i
                  · subst e
                    unfold cutB
                    rw [HF0.out]
                    simp
                  · exact HCut.out k' (by omega)
                · rw [eT]
                  exact own_set hOn _ _ (fun e => by have := (own_lt hOn.row e).1; simp at this; omega)
                · have h6 := own_grown HOR4.out hgrow (own_kinds HTx4.out.row HOR4.out (by decide))
                  exact own_set h6 _ _ (fun e => by have := (own_lt h6 e).1; simp at this; omega)
                · rw [eO]
                  exact (HTO4.out.grown hgrow (fun k' hk' b' hb' => HDis.out k' hk' b' hb')).setLow _ _ (by show w1.heap.size < v2.heap.size; omega)
                · intro k' hk' b' hb' e
                  rcases hlie b' e with h1 | h1
                  · exact HDis.out k' hk' b' hb' h1
                  · have := HLT.out k' hk' b' hb'
                    omega
              case measure => simp [intOf]; omega
            · have hAP : ((A : Int) == (P : Int)) = false := by simp; omega
              have HNB : Hid (mergeB R C l r c d g = false) := by
                show mergeB R C l r c d g = false
                have hc : cutB r c d g (l.getD i cl0) = true := by
                  unfold cutB outsB fullB
                  rw [HSQ.out, HXx.out]
                  simp only [Int.toNat_natCast, HP.out]
                  rw [decide_eq_false hA0, decide_eq_false (fun hh => hAf hh.2)]
                  rfl
                have hall : (l.all (fun x => !cutB r c d g x)) = false := by
                  rw [← Bool.not_eq_true, List.all_eq_true]
                  intro hh
                  have := hh _ (show l.getD i cl0 ∈ l by simp [List.getD, hil])
                  rw [hc] at this
                  exact absurd this (by simp)
                simp only [mergeB, Int.toNat_natCast, hall, Bool.and_false, Bool.false_and]
              have HG5 : Hid (RowAt wr (w.heap.size + 1) #[.int .i64 0, .int .i64 0, .slice none 0 0] 37) := HG2.out.below HB4.out (by omega)
              clear hAf hA0
              go_wp2_with (refine wpList_store_row rfl 37 (.tmp 10) (.tmp 109) rfl (w.heap.size + 1) #[.int .i64 0, .int .i64 0, .slice none 0 0] rfl rfl 37 _ HG5.out tab_info rfl (cells3_one _ _ _ _ _) ?_)
              refine bodyPost_ret (v := .tuple #[.agg #[.int .i64 0, .int .i64 0, .slice none 0 0], .bool false]) ?_ rfl ⟨.inl ⟨HNB.out, rfl⟩, below_row ((HB0.out.trans (hb1.mono s0)).trans (HB4.out.mono (by omega))) (by omega) _⟩
              rw [results_cell_tmp rfl]
              simp [asAddr, Result.andThen, run_tabOf (RowAt.setRow HG5.out #[.int .i64 0, .int .i64 0, .slice none 0 0])]
      · have ei : i = n := by omega
        have hlen : l.length ≤ i := by have := HN.out; omega
        have htake : l.take i = l := List.take_of_length_le hlen
        have HCA : Hid (l.all (fun x => !cutB r c d g x) = true) := by
          show l.all (fun x => !cutB r c d g x) = true
          rw [List.all_eq_true]
          intro x hx
          obtain ⟨k, hk, e⟩ := List.getElem_of_mem hx
          have := HCut.out k (by omega)
          rw [show l.getD k cl0 = x by rw [← e]; simp [List.getD, hk]] at this
          rw [this]
          rfl
        rw [htake] at HTx HTO HNn
        have HG5 : Hid (RowAt wr (w.heap.size + 1) #[.int .i64 0, .int .i64 0, .slice none 0 0] 37) := HG2.out.below HB.out (by omega)
        have o4 : wr.cell? ⟨w1.heap.size, 4, none⟩ = some (.slice pa pn pc) := HO1.out.cell 4
        clear htake
        by_cases hn2 : nN < 2
        · have HNB : Hid (mergeB R C l r c d g = false) := by
            show mergeB R C l r c d g = false
            have : decide (2 ≤ mN r c d g l) = false := decide_eq_false (by rw [HNn.out]; omega)
            simp only [mergeB, Int.toNat_natCast, this, Bool.and_false, Bool.false_and]
          go_wp2_with (refine wpList_store_row rfl 37 (.tmp 10) (.tmp 146) rfl (w.heap.size + 1) #[.int .i64 0, .int .i64 0, .slice none 0 0] rfl rfl 37 _ HG5.out tab_info rfl (cells3_one _ _ _ _ _) ?_)
          refine bodyPost_ret (v := .tuple #[.agg #[.int .i64 0, .int .i64 0, .slice none 0 0], .bool false]) ?_ rfl ⟨.inl ⟨HNB.out, rfl⟩, below_row ((HB0.out.trans (hb1.mono s0)).trans (HB.out.mono (by omega))) (by omega) _⟩
          rw [results_cell_tmp rfl]
          simp [asAddr, Result.andThen, run_tabOf (RowAt.setRow HG5.out #[.int .i64 0, .int .i64 0, .slice none 0 0])]
        cases htb : textB (mTx r c d g l)
        · have HTb : Hid (textB (mTx r c d g l) = false) := htb
          have HNB : Hid (mergeB R C l r c d g = false) := by
            show mergeB R C l r c d g = false
            simp only [mergeB, Int.toNat_natCast, htb, Bool.and_false]
          clear htb
          go_wp2_with (first | (go_at_call 59; refine (specTextOk_is HTx.out.txt HTb.out).mono ?_; rintro e w6 ⟨rfl, hb6⟩; have HG6 : Hid (RowAt w6 (w.heap.size + 1) #[.int .i64 0, .int .i64 0, .slice none 0 0] 37) := HG5.out.below hb6 HG5.out.lt) | (refine wpList_store_row rfl 37 (.tmp 10) (.tmp 146) rfl (w.heap.size + 1) #[.int .i64 0, .int .i64 0, .slice none 0 0] rfl rfl 37 _ HG6.out tab_info rfl (cells3_one _ _ _ _ _) ?_))
          refine bodyPost_ret (v := .tuple #[.agg #[.int .i64 0, .int .i64 0, .slice none 0 0], .bool false]) ?_ rfl ⟨.inl ⟨HNB.out, rfl⟩, below_row (((HB0.out.trans (hb1.mono s0)).trans (HB.out.mono (by omega))).trans (hb6.mono (by omega))) (by omega) _⟩
          rw [results_cell_tmp rfl]
          simp [asAddr, Result.andThen, run_tabOf (RowAt.setRow HG6.out #[.int .i64 0, .int .i64 0, .slice none 0 0])]
        · have HTb : Hid (textB (mTx r c d g l) = true) := htb
          have HYB : Hid (mergeB R C l r c d g = true) := by
            show mergeB R C l r c d g = true
            have : decide (2 ≤ mN r c d g l) = true := decide_eq_true (by rw [HNn.out]; omega)
            simp only [mergeB, Int.toNat_natCast, this, htb, HX.out, HBD.out, HCA.out, Bool.and_self]
          clear htb
          go_upto_region 29 with (go_at_call 59; refine (specTextOk_is HTx.out.txt HTb.out).mono ?_; rintro e w6 ⟨rfl, hb6⟩)
          have s6 := hb6.size
          have HO6 : RowAt w6 w1.heap.size #[.int .i64 r, .int .i64 c, .int .i64 d, .int .i64 g, .slice pa pn pc] 41 := HO1.out.below hb6 (by omega)
          have HG6 : Hid (RowAt w6 (w1.heap.size + 1) #[.int .i64 R, .int .i64 C, .slice a' m' c'] 37) := HG1'.out.below hb6 (by omega)
          have HTx6 : Hid (Own w6 v2.heap.size (.slice pa pn pc) (mTx r c d g l)) := own_below HTx.out hb6
          have HOR6 : Hid (OwnR w6 v2.heap.size (.slice a' m' c') rs) := HOR.out.below hb6
          have HTO6 : Hid (TxtOwn w6 v2.heap.size (Value.slice a' m' c').ownBlock rs (mOut r c d g l)) := HTO.out.below hb6
          have HB6 : Hid (Below w1.heap.size w1 w6) := HB.out.trans (hb6.mono (by omega))
          have HZ6 : Hid (RowAt w6 (w.heap.size + 1) #[.int .i64 0, .int .i64 0, .slice none 0 0] 37) := HG5.out.below hb6 HG5.out.lt
          have e0 : w6.cell? ⟨w1.heap.size, 0, none⟩ = some (.int .i64 r) := HO6.cell 0
          have e1 : w6.cell? ⟨w1.heap.size, 1, none⟩ = some (.int .i64 c) := HO6.cell 1
          have e2 : w6.cell? ⟨w1.heap.size, 2, none⟩ = some (.int .i64 d) := HO6.cell 2
          have e3 : w6.cell? ⟨w1.heap.size, 3, none⟩ = some (.int .i64 g) := HO6.cell 3
          have e4 : w6.cell? ⟨w1.heap.size, 4, none⟩ = some (.slice pa pn pc) := HO6.cell 4
          have t2 : w6.cell? ⟨w1.heap.size + 1, 2, none⟩ = some (.slice a' m' c') := HG6.out.cell 2
          obtain ⟨x1, HX1⟩ : ∃ x1 : Rw, Hid (((r : Int), (c : Int), (d : Int), (g : Int), pa, pn, pc) = x1) := ⟨_, rfl⟩
          clear o4 k2 HO6 HO1 HTx HG1' HOR HTO HB HG5 hb6
          go_upto_region 30 with (first | (at_builtin; refine wpList_append_own _ rfl (.tmp 148) (.tmp 150) 35 rfl v2.heap.size 41 i0 _ 5 56 Try.underlying35 hi hz0 hz1 hz2 rfl (by decide) (.slice a' m' c') _ _ rfl (HOR6.out.row.alloc _) ⟨w6.heap.size, 0, none⟩ 1 1 [.int .i64 r, .int .i64 c, .int .i64 d, .int .i64 g, .slice pa pn pc] rfl rfl (cell_five_new _ _ _ _ _ _ _) (five_oneCell _ _ _ _ _ _ _) (by unfold maxLen; omega) (by omega) (by simp; omega) ?_; intro v' w7 hown' hgrow _; obtain ⟨a5, c5, rfl, ho5, hb5⟩ := ownR_step (B := v2.heap.size) (w := w6) (s := ((r : Int), (c : Int), (d : Int), (g : Int), pa, pn, pc)) HOR6.out (Below.refl _ _) (by omega) hown' hgrow; have HR5 : Hid (RowAt w7 (w1.heap.size + 1) #[.int .i64 R, .int .i64 C, .slice a' m' c'] 37) := RowAt.grown (HG6.out.alloc _) hgrow (fun e => by have := (own_lt HOR6.out.row e).1; omega); have HO5 : Hid (OwnR w7 v2.heap.size (.slice a5 (m' + 1) c5) (rs ++ [((r : Int), (c : Int), (d : Int), (g : Int), pa, pn, pc)])) := ho5) | (go_at_call 78; refine (l2Sort_any a5 (m' + 1) c5 (rs ++ [((r : Int), (c : Int), (d : Int), (g : Int), pa, pn, pc)]) _ HO5.out.rws (by omega)).mono ?_; rintro e w8 ⟨⟨a3, c3, rfl, ho3⟩, hb3⟩; have R8 := HR5.out.below hb3 HR5.out.lt; have q2 : w8.cell? ⟨w1.heap.size + 1, 2, none⟩ = some (.slice a' m' c') := R8.cell 2; have q3 := R8.frozen 2))
          have s7 := hgrow.size
          simp at s7
          have s8 := hb3.size
          have t5 : TxtOwn w7 v2.heap.size (Value.slice a' m' c').ownBlock rs (mOut r c d g l) := (HTO6.out.below ((Below.refl _ _).alloc (Nat.le_refl _) _)).grown hgrow (fun k' hk' b' hb' => HTO6.out.2.2.1 k' hk' b' hb')
          have tO : Own w7 v2.heap.size (.slice pa pn pc) (mTx r c d g l) := own_grown (Own.alloc HTx6.out _) hgrow (fun b' hb' => own_kinds HOR6.out HTx6.out (by decide) b' hb')
          have t6 := t5.snocD (x := ((r : Int), (c : Int), (d : Int), (g : Int), pa, pn, pc)) (y := ((r : Int), (c : Int), (d : Int), (g : Int), mTx r c d g l)) ⟨rfl, rfl, rfl, rfl, tO⟩ (fun b' hb' => own_kinds HOR6.out HTx6.out (by decide) b' hb') (fun k' hk' b' hb' => HDis.out k' hk' b' hb')
          have R9 : RowAt (w8.setCell ⟨w1.heap.size + 1, 2, none⟩ (.slice a3 (m' + 1) c3)) (w1.heap.size + 1) #[.int .i64 R, .int .i64 C, .slice a3 (m' + 1) c3] 37 := R8.setCell 2 (.slice a3 (m' + 1) c3)
          have B7 : Below w1.heap.size w1 w7 := ((HB6.out).alloc (by omega) _).grown hgrow (by simp; omega) (fun k' hk' => by have := (own_lt HOR6.out.row hk').1; omega)
          have B9 : Below w1.heap.size w1 (w8.setCell ⟨w1.heap.size + 1, 2, none⟩ (.slice a3 (m' + 1) c3)) := (B7.trans (hb3.mono (by omega))).setCell (p := ⟨w1.heap.size + 1, 2, none⟩) (by show w1.heap.size ≤ w1.heap.size + 1; omega) _
          have O9 : OwnR (w8.setCell ⟨w1.heap.size + 1, 2, none⟩ (.slice a3 (m' + 1) c3)) v2.heap.size (.slice a3 (m' + 1) c3) (sortR (rs ++ [((r : Int), (c : Int), (d : Int), (g : Int), pa, pn, pc)])) := own_set (own_less ho3 (by omega)) _ _ (fun e => by have := (own_lt ho3.row e).1; simp at this; omega)
          have T9 : TxtOwn (w8.setCell ⟨w1.heap.size + 1, 2, none⟩ (.slice a3 (m' + 1) c3)) v2.heap.size (Value.slice a3 (m' + 1) c3).ownBlock (sortR (rs ++ [((r : Int), (c : Int), (d : Int), (g : Int), pa, pn, pc)])) (mergeL l r c d g) := by
            have t7 := ((t6.sort).below hb3).setLow ⟨w1.heap.size + 1, 2, none⟩ (.slice a3 (m' + 1) c3) (by show w1.heap.size + 1 < v2.heap.size; omega)
            exact t7.anew O9
          have HML : Hid (m' + 1 = (mergeL l r c d g).length) := by
            show m' + 1 = (mergeL l r c d g).length
            have e1 := O9.len
            have e2 := T9.1
            omega
          have HZ9 : Hid (RowAt (w8.setCell ⟨w1.heap.size + 1, 2, none⟩ (.slice a3 (m' + 1) c3)) (w.heap.size + 1) #[.int .i64 0, .int .i64 0, .slice none 0 0] 37) := HG2.out.below B9 (by omega)
          clear q2 q3 R8 ho3 e0 e1 e2 e3 e4 t2 t5 t6 tO
          generalize (w8.setCell ⟨w1.heap.size + 1, 2, none⟩ (.slice a3 (m' + 1) c3)) = w9 at R9 B9 O9 T9 HZ9 ⊢
          have HO9 : Hid (OwnR w9 v2.heap.size (.slice a3 (m' + 1) c3) (sortR (rs ++ [((r : Int), (c : Int), (d : Int), (g : Int), pa, pn, pc)]))) := O9
          have HT9 : Hid (TxtOwn w9 v2.heap.size (Value.slice a3 (m' + 1) c3).ownBlock (sortR (rs ++ [((r : Int), (c : Int), (d : Int), (g : Int), pa, pn, pc)])) (mergeL l r c d g)) := T9
          have HB9 : Hid (Below w1.heap.size w1 w9) := B9
          have k0 : w9.cell? ⟨w1.heap.size + 1, 0, none⟩ = some (.int .i64 R) := R9.cell 0
          have k1 : w9.cell? ⟨w1.heap.size + 1, 1, none⟩ = some (.int .i64 C) := R9.cell 1
          have k2 : w9.cell? ⟨w1.heap.size + 1, 2, none⟩ = some (.slice a3 (m' + 1) c3) := R9.cell 2
          clear O9 T9 B9 R9
          go_wp2_with (refine wpList_store_row rfl 37 (.tmp 10) (.tmp 154) rfl (w.heap.size + 1) #[.int .i64 R, .int .i64 C, .slice a3 (m' + 1) c3] rfl rfl 37 _ HZ9.out tab_info rfl (cells3_one _ _ _ _ _) ?_)
          refine bodyPost_ret (v := .tuple #[.agg #[.int .i64 R, .int .i64 C, .slice a3 (m' + 1) c3], .bool true]) ?_ rfl ⟨.inr ⟨HYB.out, a3, c3, sortR (rs ++ [((r : Int), (c : Int), (d : Int), (g : Int), pa, pn, pc)]), by rw [← HML.out], ?_⟩, below_row ((HB0.out.trans (hb1.mono s0)).trans (HB9.out.mono (by omega))) (by omega) _⟩
          · rw [results_cell_tmp rfl]
            simp [asAddr, Result.andThen, run_tabOf (RowAt.setRow HZ9.out #[.int .i64 R, .int .i64 C, .slice a3 (m' + 1) c3])]
          · rw [← HML.out]
            exact OwnT.less (B' := v2.heap.size) ⟨own_row HO9.out _ _ (fun e => by have := (own_lt HO9.out.row e).1; omega), HT9.out.rowLow _ _ (by omega)⟩ (by omega)
end Go.Proofs.Ytcecmkideoodiaa
namespace Go.Proofs.Ytcecmkideoodiaa
open Go.RowKit

theorem getD_setE {α : Type} (l : List α) (i : Nat) (x d : α) (h : i < l.length) : (l.set i x).getD i d = x := by simp [List.getD, h]
theorem getD_setN {α : Type} (l : List α) (i k : Nat) (x d : α) (h : i ≠ k) : (l.set i x).getD k d = l.getD k d := by simp [List.getD, List.getElem?_set_ne h]
theorem flat5_put (rs : List Rw) (i j : Nat) (hi : i < rs.length) (hj : j < 5) (v : Value) (x : Rw) (hx : rwCells x = (rwCells (rs.getD i rw0)).set j v) : (flat5 rs).set (i * 5 + j) v = flat5 (rs.set i x) := by
  apply List.ext_getElem?
  intro s
  have hlen := flat5_length rs
  by_cases hs : s < rs.length * 5
  · have hs5 : s = s / 5 * 5 + s % 5 := by omega
    have hk : s / 5 < rs.length := by omega
    have hm : s % 5 < 5 := by omega
    generalize s / 5 = k at hs5 hk
    generalize s % 5 = r at hs5 hm
    subst hs5
    rw [flat5_get (rs.set i x) k r (by simpa using hk) hm]
    by_cases hki : i = k
    · subst hki
      rw [getD_setE _ _ _ _ hi, hx]
      by_cases hr : j = r
      · subst hr
        rw [List.getElem?_set_self (by omega), List.getElem?_set_self (by simp [rwCells]; omega)]
      · rw [List.getElem?_set_ne (by omega), List.getElem?_set_ne hr, flat5_get rs i r hi hm]
    · rw [getD_setN _ _ _ _ _ hki, List.getElem?_set_ne (by omega), flat5_get rs k r hk hm]
  · rw [List.getElem?_eq_none (by simp; omega), List.getElem?_eq_none (by rw [flat5_length]; simp; omega)]
/-- A number of a row is written. -/
theorem OwnT.put {w : World} {B g n c : Nat} {rs : List Rw} {l : List Cl} (h : OwnT w B (.slice (some ⟨g, 0, none⟩) n c) rs l) (i j : Nat) (hi : i < rs.length) (hj : j < 5) (v : Value) (x : Rw) (y : Cl)
    (hx : rwCells x = (rwCells (rs.getD i rw0)).set j v) (hT : rwT x = rwT (rs.getD i rw0)) (hy : y.2.2.2.2 = (l.getD i cl0).2.2.2.2) (he : x.1 = y.1 ∧ x.2.1 = y.2.1 ∧ x.2.2.1 = y.2.2.1 ∧ x.2.2.2.1 = y.2.2.2.1) :
    OwnT (w.setCell ⟨g, i * 5 + j, none⟩ v) B (.slice (some ⟨g, 0, none⟩) n c) (rs.set i x) (l.set i y) := by
  have hl := h.2.1
  have hn := h.1.len
  obtain ⟨p0, _⟩ := h.1.row.stored (i * 5 + j) v
  rw [flat5_put rs i j hi hj v x hx] at p0
  have t0 := h.2.set ⟨g, i * 5 + j, none⟩ v rfl
  have hTT : ∀ k, rwT ((rs.set i x).getD k rw0) = rwT (rs.getD k rw0) := by
    intro k
    by_cases hki : i = k
    · subst hki
      rw [getD_setE _ _ _ _ hi, hT]
    · rw [getD_setN _ _ _ _ _ hki]
  refine ⟨?_, by simp [hl], fun k hk' => ?_, fun k hk' b hb => ?_, fun a b hab hb q hq => ?_⟩
  · unfold OwnR
    rw [List.length_set, ← hn]
    exact p0
  · simp only [List.length_set] at hk'
    by_cases hki : i = k
    · subst hki
      rw [getD_setE _ _ _ _ hi, getD_setE _ _ _ _ (by omega)]
      obtain ⟨_, _, _, _, h4⟩ := t0.2.1 i hk'
      exact ⟨he.1, he.2.1, he.2.2.1, he.2.2.2, by rw [hT, hy]; exact h4⟩
    · rw [getD_setN _ _ _ _ _ hki, getD_setN _ _ _ _ _ hki]
      exact t0.2.1 k hk'
  · simp only [List.length_set] at hk'
    rw [hTT] at hb
    exact t0.2.2.1 k hk' b hb
  · simp only [List.length_set] at hb
    rw [hTT] at hq ⊢
    exact t0.2.2.2 a b hab hb q hq
/-- The first i turned by f, the others as they were. -/
def mix {α : Type} (f : α → α) (xs : List α) (i : Nat) : List α := (xs.take i).map f ++ xs.drop i
theorem mix_len {α : Type} (f : α → α) (xs : List α) (i : Nat) : (mix f xs i).length = xs.length := by simp [mix]; omega
theorem mix_zero {α : Type} (f : α → α) (xs : List α) : mix f xs 0 = xs := by simp [mix]
theorem mix_all {α : Type} (f : α → α) (xs : List α) (i : Nat) (h : xs.length ≤ i) : mix f xs i = xs.map f := by
  unfold mix
  rw [List.take_of_length_le h, List.drop_eq_nil_of_le h, List.append_nil]
theorem mix_at {α : Type} (f : α → α) (xs : List α) (i : Nat) (d : α) (h : i < xs.length) : (mix f xs i).getD i d = xs.getD i d := by
  unfold mix
  rw [List.getD_eq_getElem?_getD, List.getD_eq_getElem?_getD, List.getElem?_append_right (by simp only [List.length_map, List.length_take]; omega), List.length_map, List.length_take, Nat.min_eq_left (by omega), Nat.sub_self, List.getElem?_drop, Nat.add_zero]
theorem mix_succ {α : Type} (f : α → α) (xs : List α) (i : Nat) (d : α) (h : i < xs.length) : mix f xs (i + 1) = (mix f xs i).set i (f (xs.getD i d)) := by
  unfold mix
  rw [List.take_succ_eq_append_getElem h, List.map_append, List.set_append_right _ _ (by simp only [List.length_map, List.length_take]; omega), List.length_map, List.length_take, Nat.min_eq_left (by omega), Nat.sub_self, List.drop_eq_getElem_cons h]
  simp only [List.getD, List.getElem?_eq_getElem h, Option.getD_some, List.map_cons, List.map_nil, List.append_assoc, List.set_cons_zero, List.singleton_append]
theorem mix_same {α : Type} (f : α → α) (xs : List α) (i : Nat) (d : α) (h : i < xs.length) (e : f (xs.getD i d) = xs.getD i d) : mix f xs (i + 1) = mix f xs i := by
  rw [mix_succ f xs i d h, e]
  apply List.ext_getElem?
  intro k
  by_cases hk : i = k
  · subst hk
    rw [List.getElem?_set_self (by rw [mix_len]; exact h)]
    have := mix_at f xs i d h
    rw [List.getD_eq_getElem?_getD] at this
    have h2 : i < (mix f xs i).length := by rw [mix_len]; exact h
    rw [List.getElem?_eq_getElem h2] at this ⊢
    simp at this
    rw [this]
    simp [List.getD]
  · rw [List.getElem?_set_ne hk]
/-- Truth values, one for each of so many places. -/
def boolL (n : Nat) (p : Nat → Bool) : List Value := (List.range n).map (fun c => Value.bool (p c))
theorem boolL_len (n : Nat) (p : Nat → Bool) : (boolL n p).length = n := by simp [boolL]
theorem boolL_get (n : Nat) (p : Nat → Bool) (c : Nat) (h : c < n) : (boolL n p)[c]? = some (.bool (p c)) := by
  unfold boolL
  rw [List.getElem?_map, List.getElem?_range h]
  rfl
theorem boolL_set (n : Nat) (p : Nat → Bool) (c : Nat) (b : Bool) : (boolL n p).set c (.bool b) = boolL n (fun k => if k = c then b else p k) := by
  apply List.ext_getElem?
  intro k
  by_cases hk : k < n
  · rw [boolL_get _ _ _ hk]
    by_cases hc : c = k
    · subst hc
      rw [List.getElem?_set_self (by rw [boolL_len]; exact hk), if_pos rfl]
    · rw [List.getElem?_set_ne hc, boolL_get _ _ _ hk, if_neg (Ne.symm hc)]
  · rw [List.getElem?_eq_none (by simp [boolL_len]; omega), List.getElem?_eq_none (by rw [boolL_len]; omega)]
theorem boolL_same {n : Nat} {p q : Nat → Bool} (h : ∀ c, c < n → p c = q c) : boolL n p = boolL n q := by
  unfold boolL
  apply List.map_congr_left
  intro c hc
  rw [h c (by simpa using hc)]
theorem made_bools (n : Nat) : (madeCells (Value.bool false).cells (n * 1)).toList = boolL n (fun _ => false) := by
  rw [show (Value.bool false).cells = #[.bool false] from rfl, toList_madeCells_one, Nat.mul_one]
  apply List.ext_getElem?
  intro k
  by_cases hk : k < n
  · rw [boolL_get _ _ _ hk, List.getElem?_replicate, if_pos hk]
  · rw [List.getElem?_eq_none (by simp; omega), List.getElem?_eq_none (by rw [boolL_len]; omega)]
end Go.Proofs.Ytcecmkideoodiaa
namespace Go.Proofs.Ytcecmkideoodiaa
open Go.RowKit

/-- A new table's value: rows and columns that do not fit give none. -/
def newOk (R C : Int) : Bool := decide (1 ≤ R ∧ R ≤ 5) && decide (1 ≤ C ∧ C ≤ 5)

set_option maxRecDepth 100000 in
set_option maxHeartbeats 4000000 in
theorem specTableNew_any (R C : Int) (w : World) :
    Calls Try.prog 69 #[.int .i64 R, .int .i64 C] w fun z w' => ((newOk R C = false ∧ z = .returned (.agg #[.int .i64 0, .int .i64 0, .slice none 0 0])) ∨ (newOk R C = true ∧ ∃ a n c rs, z = .returned (.agg #[.int .i64 R, .int .i64 C, .slice a n c]) ∧ OwnT w' w.heap.size (.slice a n c) rs (newL R.toNat C.toNat))) ∧ Below w.heap.size w w' := by
  obtain ⟨i0, hi, hz0, hz1, hz2⟩ := info_parts Try.info41
  cases h0 : decide (1 ≤ R ∧ R ≤ 5)
  · have H0 : Hid (decide (1 ≤ R ∧ R ≤ 5) = false) := h0
    clear h0
    go_enter Try.func69, Try.ntmps69
    go_wp2_with (go_at_call 30; refine (l6In_of H0.out _).mono ?_; rintro e w1 ⟨rfl, rfl⟩)
    refine bodyPost_ret (v := .agg #[.int .i64 0, .int .i64 0, .slice none 0 0]) (by simp [results, Try.results69, go_sem]) rfl ⟨.inl ⟨by simp only [newOk, H0.out, Bool.false_and], rfl⟩, ?_⟩
    exact (Below.refl _ _).alloc (Nat.le_refl _) _
  cases h1 : decide (1 ≤ C ∧ C ≤ 5)
  · have H0 : Hid (decide (1 ≤ R ∧ R ≤ 5) = true) := h0
    have H1 : Hid (decide (1 ≤ C ∧ C ≤ 5) = false) := h1
    clear h0 h1
    go_enter Try.func69, Try.ntmps69
    go_wp2_with (first | (go_at_call_of 30 (Value.int IntKind.i64 R); refine (l6In_of H0.out _).mono ?_; rintro e w1 ⟨rfl, rfl⟩) | (go_at_call_of 30 (Value.int IntKind.i64 C); refine (l6In_of H1.out _).mono ?_; rintro e w1 ⟨rfl, rfl⟩))
    refine bodyPost_ret (v := .agg #[.int .i64 0, .int .i64 0, .slice none 0 0]) (by simp [results, Try.results69, go_sem]) rfl ⟨.inl ⟨by simp only [newOk, H1.out, Bool.and_false], rfl⟩, ?_⟩
    exact (Below.refl _ _).alloc (Nat.le_refl _) _
  have hR := of_decide_eq_true h0
  have hC := of_decide_eq_true h1
  have HN : Hid (newOk R C = true) := by show newOk R C = true; simp only [newOk, h0, h1, Bool.and_self]
  have H0 : Hid (decide (1 ≤ R ∧ R ≤ 5) = true) := h0
  have H1 : Hid (decide (1 ≤ C ∧ C ≤ 5) = true) := h1
  clear h0 h1
  obtain ⟨R, rfl⟩ : ∃ R' : Nat, R = R' := ⟨R.toNat, by omega⟩
  obtain ⟨C, rfl⟩ : ∃ C' : Nat, C = C' := ⟨C.toNat, by omega⟩
  go_enter Try.func69, Try.ntmps69
  go_upto_region 4 with (first | (go_at_call_of 30 (Value.int IntKind.i64 R); refine (l6In_of H0.out _).mono ?_; rintro e w1 ⟨rfl, rfl⟩) | (go_at_call_of 30 (Value.int IntKind.i64 C); refine (l6In_of H1.out _).mono ?_; rintro e w1 ⟨rfl, rfl⟩))
  clear H0 H1
  have B0 : Below w.heap.size w ((w.alloc (.cells #[.int .i64 0, .int .i64 0, .slice none 0 0] 37)).alloc (.cells #[.int .i64 R, .int .i64 C, .slice none 0 0] 37)) := ((Below.refl _ _).alloc (Nat.le_refl _) _).alloc (by simp) _
  have G0 : RowAt ((w.alloc (.cells #[.int .i64 0, .int .i64 0, .slice none 0 0] 37)).alloc (.cells #[.int .i64 R, .int .i64 C, .slice none 0 0] 37)) w.heap.size #[.int .i64 0, .int .i64 0, .slice none 0 0] 37 := (rowAt_new w _ _).alloc _
  have G1 : RowAt ((w.alloc (.cells #[.int .i64 0, .int .i64 0, .slice none 0 0] 37)).alloc (.cells #[.int .i64 R, .int .i64 C, .slice none 0 0] 37)) (w.heap.size + 1) #[.int .i64 R, .int .i64 C, .slice none 0 0] 37 := by
    have := (rowAt_new (w.alloc (.cells #[.int .i64 0, .int .i64 0, .slice none 0 0] 37)) #[.int .i64 R, .int .i64 C, .slice none 0 0] 37)
    simpa using this
  generalize ((w.alloc (.cells #[.int .i64 0, .int .i64 0, .slice none 0 0] 37)).alloc (.cells #[.int .i64 R, .int .i64 C, .slice none 0 0] 37)) = v0 at B0 G0 G1 ⊢
  have z1 := G1.lt
  go_wp2_with fail
  go_loopw [6] (fun iv wr => ∃ i : Nat, i ≤ R ∧ iv = .int .i64 i ∧ ∃ (a : Option Addr) (c : Nat), RowAt wr (w.heap.size + 1) #[.int .i64 R, .int .i64 C, .slice a (i * C + 0) c] 37 ∧ OwnR wr v0.heap.size (.slice a (i * C + 0) c) (newR C i 0) ∧ RowAt wr w.heap.size #[.int .i64 0, .int .i64 0, .slice none 0 0] 37 ∧ Below w.heap.size w wr ∧ v0.heap.size ≤ wr.heap.size) (fun iv _ => R - (intOf iv).toNat)
  case atStart => exact ⟨0, Nat.zero_le _, rfl, none, 0, by simpa using G1, by simpa [newR] using OwnR.nil _ _, G0, B0, Nat.le_refl _⟩
  case round =>
    clear G0 G1
    obtain ⟨i, hi', rfl, a, c, g1, ho, g0, hb, hs⟩ := hrel
    have HG1 : Hid (RowAt wr (w.heap.size + 1) #[.int .i64 R, .int .i64 C, .slice a (i * C + 0) c] 37) := g1
    have HG0 : Hid (RowAt wr w.heap.size #[.int .i64 0, .int .i64 0, .slice none 0 0] 37) := g0
    have HO : Hid (OwnR wr v0.heap.size (.slice a (i * C + 0) c) (newR C i 0)) := ho
    have HB : Hid (Below w.heap.size w wr) := hb
    clear g1 g0 ho hb
    by_cases hlt : i < R
    · go_wp2_with fail
      go_loopw [7] (fun jv wr => ∃ j : Nat, j ≤ C ∧ jv = .int .i64 j ∧ ∃ (a : Option Addr) (c : Nat), RowAt wr (w.heap.size + 1) #[.int .i64 R, .int .i64 C, .slice a (i * C + j) c] 37 ∧ OwnR wr v0.heap.size (.slice a (i * C + j) c) (newR C i j) ∧ RowAt wr w.heap.size #[.int .i64 0, .int .i64 0, .slice none 0 0] 37 ∧ Below w.heap.size w wr ∧ v0.heap.size ≤ wr.heap.size) (fun jv _ => C - (intOf jv).toNat)
      case atStart => exact ⟨0, Nat.zero_le _, rfl, a, c, HG1.out, HO.out, HG0.out, HB.out, hs⟩
      case round =>
        clear HG1 HG0 HO HB hs
        obtain ⟨j, hj, rfl, a, c, g1, ho, g0, hb, hs⟩ := hrel
        have hlen := ho.len
        have hlm : i * C ≤ 4 * 5 := Nat.mul_le_mul (by omega) (by omega)
        obtain ⟨m, HM⟩ : ∃ m, Hid (i * C + j = m) := ⟨_, rfl⟩
        have hm : m ≤ 25 := by have := HM.out; omega
        rw [HM.out] at g1 ho
        have HG1 : Hid (RowAt wr (w.heap.size + 1) #[.int .i64 R, .int .i64 C, .slice a m c] 37) := g1
        have HG0 : Hid (RowAt wr w.heap.size #[.int .i64 0, .int .i64 0, .slice none 0 0] 37) := g0
        have HO : Hid (OwnR wr v0.heap.size (.slice a m c) (newR C i j)) := ho
        have HB : Hid (Below w.heap.size w wr) := hb
        have k2 : wr.cell? ⟨w.heap.size + 1, 2, none⟩ = some (.slice a m c) := g1.cell 2
        have f2 := g1.frozen 2
        have lg1 := g1.lt
        have hcap := ho.rws.2.1
        have hcm := ho.rws.2.2.1
        unfold maxLen at hcm
        clear g1 g0 ho hb hlen
        by_cases hlj : j < C
        · go_wp2_with (at_builtin; refine wpList_append_own _ rfl (.tmp 31) (.tmp 35) 35 rfl v0.heap.size 41 i0 _ 5 56 Try.underlying35 hi hz0 hz1 hz2 rfl (by decide) (.slice a m c) _ _ rfl (HO.out.row.alloc _) ⟨wr.heap.size, 0, none⟩ 1 1 [.int .i64 (i : Int), .int .i64 (j : Int), .int .i64 1, .int .i64 1, .slice none 0 0] rfl rfl (cell_five_new _ _ _ _ _ _ _) (five_oneCell _ _ _ _ _ _ _) (by unfold maxLen; omega) (by omega) (by simp; omega) ?_; intro v' w1 hown' hgrow _; obtain ⟨a', c', rfl, ho3, hb3⟩ := ownR_step (B := v0.heap.size) (w := wr) (s := rwOne i j) HO.out (Below.refl _ _) hs hown' hgrow; have R1 := RowAt.grown (HG1.out.alloc _) hgrow (fun e => by have := (own_lt HO.out.row e).1; omega); have q2 : w1.cell? ⟨w.heap.size + 1, 2, none⟩ = some (.slice a m c) := R1.cell 2; have q3 := R1.frozen 2)
          go_roundw
          case rel =>
            have e1 : i * C + (j + 1) = m + 1 := by have := HM.out; omega
            refine ⟨j + 1, by omega, by go_num, a', c', ?_, ?_, ?_, ?_, ?_⟩
            · rw [e1]
              exact R1.setCell 2 (.slice a' (m + 1) c')
            · rw [e1, newR_succ]
              refine own_set ho3 _ _ (fun e => ?_)
              have := (own_lt ho3 e).1
              simp at this
              omega
            · exact (RowAt.grown (HG0.out.alloc _) hgrow (fun e => by have := (own_lt HO.out.row e).1; omega)).other _ _ (by simp)
            · exact ((HB.out.alloc (by omega) _).grown hgrow (by simp; omega) (fun q hq => by have := (own_lt HO.out.row hq).1; omega)).setCell (by show w.heap.size ≤ w.heap.size + 1; omega) _
            · have := hb3.size
              simp [World.setCell]
              omega
          case measure => simp [intOf]; omega
        · go_wp2_with fail
          go_roundw
          case rel =>
            have e1 : j = C := by omega
            have e2 : (i + 1) * C + 0 = m := by have := HM.out; rw [Nat.succ_mul]; omega
            refine ⟨i + 1, by omega, by go_num, a, c, ?_, ?_, HG0.out, HB.out, hs⟩
            · rw [e2]
              exact HG1.out
            · rw [e2, ← newR_row, ← e1]
              have := HO.out
              rw [e1] at this ⊢
              exact this
          case measure => simp [intOf]; omega
    · have e1 : i = R := by omega
      subst e1
      obtain ⟨m, HM⟩ : ∃ m, Hid (i * C + 0 = m) := ⟨_, rfl⟩
      rw [HM.out] at HG1 HO
      have k0 : wr.cell? ⟨w.heap.size + 1, 0, none⟩ = some (.int .i64 i) := HG1.out.cell 0
      have k1 : wr.cell? ⟨w.heap.size + 1, 1, none⟩ = some (.int .i64 C) := HG1.out.cell 1
      have k2 : wr.cell? ⟨w.heap.size + 1, 2, none⟩ = some (.slice a m c) := HG1.out.cell 2
      go_wp2_with (refine wpList_store_row rfl 37 (.tmp 4) (.tmp 38) rfl w.heap.size #[.int .i64 i, .int .i64 C, .slice a m c] rfl rfl 37 _ HG0.out tab_info rfl (cells3_one _ _ _ _ _) ?_)
      refine bodyPost_ret (v := .agg #[.int .i64 i, .int .i64 C, .slice a m c]) (results_cell_row (p := 4) (ty := 37) rfl _ _ w.heap.size 37 _ _ _ rfl (RowAt.setRow HG0.out _) Try.underlying37 rfl tab_info) rfl ⟨.inr ⟨HN.out, a, m, c, newR C i 0, rfl, ?_⟩, below_row HB.out (Nat.le_refl _) _⟩
      refine OwnT.less (B' := v0.heap.size) ⟨own_row HO.out _ _ (fun e => by have := (own_lt HO.out.row e).1; omega), ?_⟩ (by omega)
      have := txtOwn_nil (w := wr.setRow w.heap.size #[.int .i64 i, .int .i64 C, .slice a m c]) (B := v0.heap.size) (q := (Value.slice a m c).ownBlock) (newR_nil C i 0)
      rw [← newC_map] at this
      simpa [newL] using this
end Go.Proofs.Ytcecmkideoodiaa
namespace Go.Proofs.Ytcecmkideoodiaa
open Go.RowKit

theorem Byt.take {B : Nat} {w : World} {a : Option Addr} {n cap : Nat} {zs : List Int} (h : Byt B w a n cap zs) (k : Nat) (hk : k ≤ n) : Byt B w a k cap (zs.take k) := by
  obtain ⟨h1, h2, h3, h4, h5⟩ := h
  have e : ∀ i, i < k → (zs.take k).getD i 0 = zs.getD i 0 := fun i hi => by simp [List.getD, hi]
  refine ⟨by simp; omega, by omega, h3, fun i => ?_, ?_⟩
  · by_cases hi : i < k
    · rw [e i hi]; exact h4 i
    · have : (zs.take k)[i]? = none := List.getElem?_eq_none (by simp; omega)
      simp [List.getD, this]
  · rcases h5 with rfl | ⟨b, off, h6, h7, h8⟩
    · exact .inl (by simp)
    · exact .inr ⟨b, off, h6, h7, fun i hi => by
        have hi' : i < k := by simp at hi; omega
        rw [e i hi']; exact h8 i (by omega)⟩

set_option maxHeartbeats 400000 in
theorem l6Open_any (B : Nat) (a : Option Addr) (n cap : Nat) (zs : List Int) (w : World) (h : Byt B w a n cap zs) (hB : B ≤ w.heap.size) :
    Calls Try.prog 22 #[.slice a n cap] w fun e w' => e = .returned (.pointer (some ⟨w.heap.size, 0, none⟩)) ∧ Rd B w' w.heap.size 0 ∧ Below w.heap.size w w' := by
  have hc := h.2.1
  have hm := h.2.2.1
  unfold maxLen at hm
  have HY : Hid (Byt B w a n cap zs) := h
  clear h
  by_cases hn : 2000 < n
  · have hd : decide ((2000 : Int) < (n : Int)) = true := by simp; omega
    go_enter Try.func22, Try.ntmps22
    go_wp2_with fail
    go_ret
    have hbl : Below w.heap.size w (w.alloc (.cells #[.slice a 2000 cap, .int .i64 0] 81)) := (Below.refl _ _).alloc (Nat.le_refl _) _
    refine ⟨rfl, ⟨hB, a, 2000, cap, zs.take 2000, heap_alloc_new w _, (HY.out.take 2000 (by omega)).same (fun k hk => hbl.block k (by omega)), Nat.le_refl _⟩, hbl⟩
  · have hd : decide ((2000 : Int) < (n : Int)) = false := by simp; omega
    go_enter Try.func22, Try.ntmps22
    go_wp2_with fail
    go_ret
    have hbl : Below w.heap.size w (w.alloc (.cells #[.slice a n cap, .int .i64 0] 81)) := (Below.refl _ _).alloc (Nat.le_refl _) _
    exact ⟨rfl, ⟨hB, a, n, cap, zs, heap_alloc_new w _, HY.out.same (fun k hk => hbl.block k (by omega)), by omega⟩, hbl⟩

theorem Rd.alloc {B : Nat} {w : World} {g p : Nat} (h : Rd B w g p) (o : Obj) : Rd B (w.alloc o) g p :=
  h.below ((Below.refl w.heap.size w).alloc (Nat.le_refl _) o) h.lt

theorem grown_trans {a b c : World} {g : Nat} (h : a.grownBy b (some g)) (k : b.grownBy c (some g)) : a.grownBy c (some g) :=
  ⟨k.os.trans h.os, k.tape.trans h.tape, k.output.trans h.output, Nat.le_trans h.size k.size, fun i hi hne => (k.block i (Nat.lt_of_lt_of_le hi h.size) hne).trans (h.block i hi hne)⟩
theorem grown_alloc {a b : World} {g : Option Nat} (h : a.grownBy b g) (o : Obj) : a.grownBy (b.alloc o) g :=
  ⟨h.os, h.tape, h.output, by have := h.size; simp; omega, fun i hi hne => by
    rw [Below.heap_alloc b o i (Nat.lt_of_lt_of_le hi h.size)]; exact h.block i hi hne⟩
theorem grown_below {a b c : World} {g : Option Nat} (h : a.grownBy b g) (k : Below b.heap.size b c) : a.grownBy c g :=
  ⟨k.os.trans h.os, k.tape.trans h.tape, k.output.trans h.output, Nat.le_trans h.size k.size, fun i hi hne => (k.block i (Nat.lt_of_lt_of_le hi h.size)).trans (h.block i hi hne)⟩
/-- A cell of a block that was there and is not the reader's. -/
theorem grown_cell {a b : World} {g : Nat} (h : a.grownBy b (some g)) {k o : Nat} (hk : k < a.heap.size) (hne : k ≠ g) : b.cell? ⟨k, o, none⟩ = a.cell? ⟨k, o, none⟩ :=
  World.cell?_of_block (w := a) (h.block k hk (by simpa using hne))

/-- One of the six letters that are drawn. -/
theorem six_cell (w1 w2 : World) (g : Nat) (hg : g < w1.heap.size) (h : (w1.alloc (.cells #[.int .u8 97, .int .u8 98, .int .u8 122, .int .u8 32, .int .u8 48, .int .u8 57] 5)).grownBy w2 (some g)) (x : Int) (h0 : 0 ≤ x) (h1 : x < 6) :
    ∃ z : Int, w2.cell? ⟨w1.heap.size, x.toNat, none⟩ = some (.int .u8 z) ∧ byteB z = true := by
  have e : ∀ o, w2.cell? ⟨w1.heap.size, o, none⟩ = (#[Value.int .u8 97, .int .u8 98, .int .u8 122, .int .u8 32, .int .u8 48, .int .u8 57])[o]? := fun o =>
    (grown_cell h (by simp) (by omega)).trans (cell_of_row _ _ _ _ _ _ (heap_alloc_new w1 _))
  rcases (show x = 0 ∨ x = 1 ∨ x = 2 ∨ x = 3 ∨ x = 4 ∨ x = 5 from by omega) with rfl | rfl | rfl | rfl | rfl | rfl
  · exact ⟨97, e 0, rfl⟩
  · exact ⟨98, e 1, rfl⟩
  · exact ⟨122, e 2, rfl⟩
  · exact ⟨32, e 3, rfl⟩
  · exact ⟨48, e 4, rfl⟩
  · exact ⟨57, e 5, rfl⟩

end Go.Proofs.Ytcecmkideoodiaa
namespace Go.Proofs.Ytcecmkideoodiaa
open Go.RowKit

/-- Below C nothing but block g has turned. -/
structure Fr (C g : Nat) (w w' : World) : Prop where
  os : w'.os = w.os
  tape : w'.tape = w.tape
  output : w'.output = w.output
  size : w.heap.size ≤ w'.heap.size
  block : ∀ k, k < C → k ≠ g → w'.heap[k]? = w.heap[k]?
theorem Fr.refl (C g : Nat) (w : World) : Fr C g w w := ⟨rfl, rfl, rfl, Nat.le_refl _, fun _ _ _ => rfl⟩
theorem Fr.trans {C g : Nat} {a b c : World} (h : Fr C g a b) (k : Fr C g b c) : Fr C g a c :=
  ⟨k.os.trans h.os, k.tape.trans h.tape, k.output.trans h.output, Nat.le_trans h.size k.size, fun i hi hn => (k.block i hi hn).trans (h.block i hi hn)⟩
theorem Fr.mono {C C' g : Nat} {a b : World} (h : Fr C g a b) (hC : C' ≤ C) : Fr C' g a b := ⟨h.os, h.tape, h.output, h.size, fun i hi hn => h.block i (by omega) hn⟩
theorem Fr.alloc {C g : Nat} {a b : World} (h : Fr C g a b) (hC : C ≤ b.heap.size) (o : Obj) : Fr C g a (b.alloc o) :=
  h.trans ⟨rfl, rfl, rfl, by simp, fun k hk _ => Below.heap_alloc _ _ _ (by omega)⟩
theorem Fr.setCell {C g : Nat} {a b : World} (h : Fr C g a b) {p : Addr} (hp : C ≤ p.block) (u : Value) : Fr C g a (b.setCell p u) :=
  h.trans ⟨rfl, rfl, rfl, by simp [World.setCell], fun k hk _ => Below.heap_setCell _ _ _ _ (by omega)⟩
theorem Fr.grown {C g : Nat} {a b c : World} (h : Fr C g a b) (hg : b.grownBy c (some g)) (hC : C ≤ b.heap.size) : Fr C g a c :=
  h.trans ⟨hg.os, hg.tape, hg.output, hg.size, fun k hk hn => hg.block k (by omega) (by simpa using hn)⟩
theorem Fr.below {C g : Nat} {a b c : World} (h : Fr C g a b) (hb : Below C b c) : Fr C g a c :=
  h.trans ⟨hb.os, hb.tape, hb.output, hb.size, fun k hk _ => hb.block k hk⟩
theorem Fr.grownAt {C g : Nat} {a b c : World} {r : Option Nat} (h : Fr C g a b) (hg : b.grownBy c r) (hC : C ≤ b.heap.size) (hr : ∀ k, r = some k → C ≤ k) : Fr C g a c :=
  h.trans ⟨hg.os, hg.tape, hg.output, hg.size, fun k hk _ => hg.block k (by omega) (fun e => by have := hr k e.symm; omega)⟩
theorem Fr.cell {C g : Nat} {a b : World} (h : Fr C g a b) {k o : Nat} (hk : k < C) (hn : k ≠ g) : b.cell? ⟨k, o, none⟩ = a.cell? ⟨k, o, none⟩ := World.cell?_of_block (w := a) (h.block k hk hn)
theorem Fr.frozen {C g : Nat} {a b : World} (h : Fr C g a b) {k o : Nat} (hk : k < C) (hn : k ≠ g) : b.frozen? ⟨k, o, none⟩ = a.frozen? ⟨k, o, none⟩ := World.frozen?_of_block (w := a) (h.block k hk hn)

theorem own_fr {C g : Nat} {w w' : World} {e size n : Nat} {v : Value} {xs : List Value} (h : w.ownsRow C e size v n xs) (hf : Fr w.heap.size g w w') (hg : g < C) : w'.ownsRow C e size v n xs := by
  refine ⟨h.1, ?_⟩
  rcases h.2 with hn | ⟨k, cap, cur, rfl, hk, hkk, rest⟩
  · exact .inl hn
  · exact .inr ⟨k, cap, cur, rfl, hk, by rw [hf.block k (Array.getElem?_eq_some_iff.1 hkk).1 (by omega)]; exact hkk, rest⟩
theorem Own.fr {C g : Nat} {w w' : World} {v : Value} {l : List Sg} (h : Own w C v l) (hf : Fr w.heap.size g w w') (hg : g < C) : Own w' C v l := own_fr h hf hg
theorem Rd.setCell {B : Nat} {w : World} {g p : Nat} (h : Rd B w g p) {q : Addr} (hq : g < q.block) (u : Value) : Rd B (w.setCell q u) g p := by
  obtain ⟨hB, a, n, c, zs, hg, hy, hn⟩ := h
  exact ⟨hB, a, n, c, zs, (Below.heap_setCell w q u g (by omega)).trans hg, hy.same (fun k hk => Below.heap_setCell w q u k (by omega)), hn⟩
theorem Rd.grownAt {B : Nat} {w w' : World} {g p : Nat} {r : Option Nat} (h : Rd B w g p) (hg : w.grownBy w' r) (hr : ∀ k, r = some k → g < k) : Rd B w' g p := by
  have hlt := h.lt
  obtain ⟨hB, a, n, c, zs, hgg, hy, hn⟩ := h
  exact ⟨hB, a, n, c, zs, (hg.block g hlt (fun e => by have := hr g e.symm; omega)).trans hgg, hy.same (fun k hk => hg.block k (by omega) (fun e => by have := hr k e.symm; omega)), hn⟩

/-- What the append of one sign leaves, in the drawing functions. -/
theorem own_step_fr {C g : Nat} {w wc w1 : World} {a : Option Addr} {k c : Nat} {v' : Value} {l : List Sg} {s : Sg} {o : Obj} (ho : Own wc C (.slice a k c) l) (hf : Fr C g w wc) (hC : C ≤ wc.heap.size)
    (hown : w1.ownsRow C 74 3 v' (k + 1) (flat l ++ sgCells s)) (hgrow : (wc.alloc o).grownBy w1 (Value.slice a k c).ownBlock) :
    ∃ a' c', v' = .slice a' (k + 1) c' ∧ Own w1 C (.slice a' (k + 1) c') (l ++ [s]) ∧ Fr C g w w1 := by
  have hk := ho.len
  have h1 : Own w1 C v' (l ++ [s]) := Own.snoc hown (by omega) rfl
  obtain ⟨a', c', rfl⟩ := h1.shapeN (n := k + 1) (by simp; omega)
  refine ⟨a', c', rfl, h1, ?_⟩
  exact (hf.alloc hC _).grownAt hgrow (by simp; omega) (fun q hq => (ho.row.lt q hq).1)

set_option maxRecDepth 100000 in
set_option maxHeartbeats 4000000 in
theorem l71Text_any (B g p most : Nat) (w : World) (h : Rd B w g p) (hp : p ≤ 900000) (hmost : most ≤ 24) :
    Calls Try.prog 67 #[.pointer (some ⟨g, 0, none⟩), .int .i64 (most : Int)] w fun e w' => ∃ (v : Value) (l : List Sg) (q : Nat), e = .returned v ∧ Own w' w.heap.size v l ∧ l.length ≤ most ∧ Rd B w' g q ∧ q ≤ p + 1 + 3 * most ∧ Fr w.heap.size g w w' := by
  have hlt := h.lt
  obtain ⟨i0, hi, hz0, hz1, hz2⟩ := info_parts Try.info74
  have HR : Hid (Rd B w g p) := h
  clear h
  go_enter Try.func67, Try.ntmps67
  go_wp2_with fail
  refine (pick_any B g p ((most : Int) + 1) _ (HR.out.alloc _) (by omega) (by omega) (by omega)).mono ?_
  rintro e w1 ⟨x, rfl, hx0, hx1, hr1, hg1⟩
  go_wp2_with fail
  go_loopw [5, 6] (fun v nv wr => ∃ (a : Option Addr) (m c k q : Nat) (l : List Sg), v = .slice a m c ∧ nv = .int .i64 (k : Int) ∧ m + k ≤ most ∧ q + 3 * k ≤ p + 1 + 3 * most ∧ Own wr w.heap.size (.slice a m c) l ∧ Rd B wr g q ∧ Fr w.heap.size g w wr) (fun _ nv _ => (intOf nv).toNat)
  case atStart =>
    have hf : Fr w.heap.size g w w1 := ((Fr.refl _ _ w).alloc (Nat.le_refl _) _).grown hg1 (by simp)
    refine ⟨some ⟨w.heap.size, 0, none⟩, 0, 0, x.toNat, p + 1, [], rfl, by congr 1; omega, by omega, by omega, ?_, hr1, hf⟩
    exact (World.ownsRow.kept (Own.emptyNew w w.heap.size (Nat.le_refl _)) hg1 (.inr (by simp [Value.ownBlock]; omega)))
  case round =>
    obtain ⟨a, m, c, k, q, l, rfl, rfl, hmk, hqk, ho, hr, hf⟩ := hrel
    have hsz := hf.size
    have hol := ho.len
    by_cases h0 : k = 0
    · subst h0
      clear hr1 hg1
      have HO : Hid (Own wr w.heap.size (.slice a m c) l) := ho
      clear ho
      go_wp2_with fail
      go_ret
      exact ⟨_, l, q, rfl, HO.out, by omega, hr, by omega, hf⟩
    · have HO : Hid (Own wr w.heap.size (.slice a m c) l) := ho
      have HRR : Hid (Rd B wr g q) := hr
      have hgw : g < wr.heap.size := by omega
      have HL : Hid (m = l.length) := hol
      clear ho hr hr1 hg1 hol
      have hpos : (0 : Int) < (k : Int) := by omega
      go_wp2_with fail
      refine (pick_any B g q 6 _ (HRR.out.alloc _) (by omega) (by omega) (by omega)).mono ?_
      rintro e w2 ⟨y, rfl, hy0, hy1, hr2, hg2⟩
      obtain ⟨z, hz, _⟩ := six_cell wr w2 g hgw hg2 y hy0 hy1
      have hf2 : Fr wr.heap.size g wr w2 := ((Fr.refl _ _ wr).alloc (Nat.le_refl _) _).grown hg2 (by simp)
      have z2 := hf2.size
      have HR2 : Hid (Rd B w2 g (q + 1)) := hr2
      clear hr2
      go_wp2_with fail
      refine (pick_any B g (q + 1) 5 _ (HR2.out.alloc _) (by omega) (by omega) (by omega)).mono ?_
      rintro e w3 ⟨u, rfl, hu0, hu1, hr3, hg3⟩
      have z3 := hg3.size
      simp only [World.size_alloc] at z3
      have hf3 : Fr wr.heap.size g wr w3 := (hf2.alloc z2 _).grown hg3 (by simp; omega)
      have e0 : w3.heap[w2.heap.size]? = some (.cells #[.int .u8 z, .int .i64 0, .int .i64 0] 74 (0, 0)) := (hg3.block w2.heap.size (by simp) (by simp; omega)).trans (heap_alloc_new w2 _)
      have HE : Hid (w3.heap[w2.heap.size]? = some (.cells #[.int .u8 z, .int .i64 0, .int .i64 0] 74 (0, 0))) := e0
      have HR3 : Hid (Rd B w3 g (q + 2)) := hr3
      clear hr3 e0 hz
      have hsb : w2.heap.size < w3.heap.size := by omega
      by_cases h0u : u = 0
      · subst h0u
        go_wp2_with fail
        refine (pick_any B g (q + 2) 3 _ HR3.out (by omega) (by omega) (by omega)).mono ?_
        rintro e w4 ⟨x4, rfl, hx40, hx41, hr4, hg4⟩
        have z4 := hg4.size
        have hf4 : Fr wr.heap.size g wr w4 := hf3.grown hg4 (by omega)
        have e4 : w4.heap[w2.heap.size]? = some (.cells #[.int .u8 z, .int .i64 0, .int .i64 0] 74 (0, 0)) := (hg4.block w2.heap.size hsb (by simp; omega)).trans HE.out
        have d0 : w4.cell? ⟨w2.heap.size, 0, none⟩ = some (.int .u8 z) := by rw [cell_of_row w4 _ 0 _ _ _ e4]; rfl
        have d1 : w4.cell? ⟨w2.heap.size, 1, none⟩ = some (.int .i64 0) := by rw [cell_of_row w4 _ 1 _ _ _ e4]; rfl
        have d2 : w4.cell? ⟨w2.heap.size, 2, none⟩ = some (.int .i64 0) := by rw [cell_of_row w4 _ 2 _ _ _ e4]; rfl
        have f1 : w4.frozen? ⟨w2.heap.size, 1, none⟩ = false := frozen_of_row w4 _ 1 _ _ e4
        have f2 : w4.frozen? ⟨w2.heap.size, 2, none⟩ = false := frozen_of_row w4 _ 2 _ _ e4
        clear e4
        have HR4 : Hid (Rd B w4 g (q + 3)) := hr4
        clear hr4
        have HO4 : Hid (Own (w4.setCell ⟨w2.heap.size, 1, none⟩ (.int .i64 (1 + x4))) w.heap.size (.slice a m c) l) := HO.out.fr (hf4.setCell (by simp; omega) _) hlt
        go_wp2_with (at_builtin; refine wpList_append_own _ rfl (.tmp 48) (.tmp 50) 31 rfl w.heap.size 74 i0 (.agg #[.int .u8 0, .int .i64 0, .int .i64 0]) 3 24 Try.underlying31 hi hz0 hz1 hz2 rfl (by decide) (.slice a m c) _ _ rfl (HO4.out.row.alloc _) ⟨_, 0, none⟩ 1 1 [.int .u8 z, .int .i64 (1 + x4), .int .i64 0] rfl rfl (by have e := cell_three_new (w4.setCell ⟨w2.heap.size, 1, none⟩ (.int .i64 (1 + x4))) (.int .u8 z) (.int .i64 (1 + x4)) (.int .i64 0) 74; simpa using e) (three_oneCell _ _ _) (by unfold maxLen; omega) (by omega) (by simp; omega) ?_; intro v' w9 hown' hgrow _)
        obtain ⟨a', c', rfl, ho9, hf9⟩ := own_step_fr (s := (z, 1 + x4, 0)) HO4.out (hf.trans ((hf4.setCell (by simp; omega) _).mono hsz)) (by simp; omega) hown' hgrow
        have hr9 : Rd B w9 g (q + 3) := ((HR4.out.setCell (by simp; omega) _).alloc _).grownAt hgrow (fun k hk => by have := ((HO4.out).row.lt k hk).1; omega)
        go_roundw
        case rel => exact ⟨a', m + 1, c', k - 1, q + 3, _, rfl, by congr 1; omega, by omega, by omega, ho9, hr9, hf9⟩
        case measure => simp [intOf]; omega
      · have g0 : (u == 0) = false := by simp; omega
        by_cases h1u : u = 1
        · subst h1u
          go_wp2_with fail
          refine (pick_any B g (q + 2) 3 _ HR3.out (by omega) (by omega) (by omega)).mono ?_
          rintro e w4 ⟨x4, rfl, hx40, hx41, hr4, hg4⟩
          have z4 := hg4.size
          have hf4 : Fr wr.heap.size g wr w4 := hf3.grown hg4 (by omega)
          have e4 : w4.heap[w2.heap.size]? = some (.cells #[.int .u8 z, .int .i64 0, .int .i64 0] 74 (0, 0)) := (hg4.block w2.heap.size hsb (by simp; omega)).trans HE.out
          have d0 : w4.cell? ⟨w2.heap.size, 0, none⟩ = some (.int .u8 z) := by rw [cell_of_row w4 _ 0 _ _ _ e4]; rfl
          have d1 : w4.cell? ⟨w2.heap.size, 1, none⟩ = some (.int .i64 0) := by rw [cell_of_row w4 _ 1 _ _ _ e4]; rfl
          have d2 : w4.cell? ⟨w2.heap.size, 2, none⟩ = some (.int .i64 0) := by rw [cell_of_row w4 _ 2 _ _ _ e4]; rfl
          have f1 : w4.frozen? ⟨w2.heap.size, 1, none⟩ = false := frozen_of_row w4 _ 1 _ _ e4
          have f2 : w4.frozen? ⟨w2.heap.size, 2, none⟩ = false := frozen_of_row w4 _ 2 _ _ e4
          clear e4
          have HR4 : Hid (Rd B w4 g (q + 3)) := hr4
          clear hr4
          have HO4 : Hid (Own (w4.setCell ⟨w2.heap.size, 2, none⟩ (.int .i64 (1 + x4))) w.heap.size (.slice a m c) l) := HO.out.fr (hf4.setCell (by simp; omega) _) hlt
          go_wp2_with (at_builtin; refine wpList_append_own _ rfl (.tmp 48) (.tmp 50) 31 rfl w.heap.size 74 i0 (.agg #[.int .u8 0, .int .i64 0, .int .i64 0]) 3 24 Try.underlying31 hi hz0 hz1 hz2 rfl (by decide) (.slice a m c) _ _ rfl (HO4.out.row.alloc _) ⟨_, 0, none⟩ 1 1 [.int .u8 z, .int .i64 0, .int .i64 (1 + x4)] rfl rfl (by have e := cell_three_new (w4.setCell ⟨w2.heap.size, 2, none⟩ (.int .i64 (1 + x4))) (.int .u8 z) (.int .i64 0) (.int .i64 (1 + x4)) 74; simpa using e) (three_oneCell _ _ _) (by unfold maxLen; omega) (by omega) (by simp; omega) ?_; intro v' w9 hown' hgrow _)
          obtain ⟨a', c', rfl, ho9, hf9⟩ := own_step_fr (s := (z, 0, 1 + x4)) HO4.out (hf.trans ((hf4.setCell (by simp; omega) _).mono hsz)) (by simp; omega) hown' hgrow
          have hr9 : Rd B w9 g (q + 3) := ((HR4.out.setCell (by simp; omega) _).alloc _).grownAt hgrow (fun k hk => by have := ((HO4.out).row.lt k hk).1; omega)
          go_roundw
          case rel => exact ⟨a', m + 1, c', k - 1, q + 3, _, rfl, by congr 1; omega, by omega, by omega, ho9, hr9, hf9⟩
          case measure => simp [intOf]; omega
        · have g1 : (u == 1) = false := by simp; omega
          by_cases h2u : u = 2
          · subst h2u
            go_wp2_with fail
            refine (pick_any B g (q + 2) 3 _ HR3.out (by omega) (by omega) (by omega)).mono ?_
            rintro e w4 ⟨x4, rfl, hx40, hx41, hr4, hg4⟩
            have z4 := hg4.size
            have hf4 : Fr wr.heap.size g wr w4 := hf3.grown hg4 (by omega)
            have e4 : w4.heap[w2.heap.size]? = some (.cells #[.int .u8 z, .int .i64 0, .int .i64 0] 74 (0, 0)) := (hg4.block w2.heap.size hsb (by simp; omega)).trans HE.out
            have d0 : w4.cell? ⟨w2.heap.size, 0, none⟩ = some (.int .u8 z) := by rw [cell_of_row w4 _ 0 _ _ _ e4]; rfl
            have d1 : w4.cell? ⟨w2.heap.size, 1, none⟩ = some (.int .i64 0) := by rw [cell_of_row w4 _ 1 _ _ _ e4]; rfl
            have d2 : w4.cell? ⟨w2.heap.size, 2, none⟩ = some (.int .i64 0) := by rw [cell_of_row w4 _ 2 _ _ _ e4]; rfl
            have f1 : w4.frozen? ⟨w2.heap.size, 1, none⟩ = false := frozen_of_row w4 _ 1 _ _ e4
            have f2 : w4.frozen? ⟨w2.heap.size, 2, none⟩ = false := frozen_of_row w4 _ 2 _ _ e4
            clear e4
            have HR4 : Hid (Rd B w4 g (q + 3)) := hr4
            clear hr4
            have HO4 : Hid (Own ((w4.setCell ⟨w2.heap.size, 1, none⟩ (.int .i64 (1 + x4))).setCell ⟨w2.heap.size, 2, none⟩ (.int .i64 ((1 + x4) % 3 + 1))) w.heap.size (.slice a m c) l) := HO.out.fr ((hf4.setCell (by simp; omega) _).setCell (by simp; omega) _) hlt
            go_wp2_with (at_builtin; refine wpList_append_own _ rfl (.tmp 48) (.tmp 50) 31 rfl w.heap.size 74 i0 (.agg #[.int .u8 0, .int .i64 0, .int .i64 0]) 3 24 Try.underlying31 hi hz0 hz1 hz2 rfl (by decide) (.slice a m c) _ _ rfl (HO4.out.row.alloc _) ⟨_, 0, none⟩ 1 1 [.int .u8 z, .int .i64 (1 + x4), .int .i64 ((1 + x4) % 3 + 1)] rfl rfl (by have e := cell_three_new ((w4.setCell ⟨w2.heap.size, 1, none⟩ (.int .i64 (1 + x4))).setCell ⟨w2.heap.size, 2, none⟩ (.int .i64 ((1 + x4) % 3 + 1))) (.int .u8 z) (.int .i64 (1 + x4)) (.int .i64 ((1 + x4) % 3 + 1)) 74; simpa using e) (three_oneCell _ _ _) (by unfold maxLen; omega) (by omega) (by simp; omega) ?_; intro v' w9 hown' hgrow _)
            obtain ⟨a', c', rfl, ho9, hf9⟩ := own_step_fr (s := (z, 1 + x4, (1 + x4) % 3 + 1)) HO4.out (hf.trans (((hf4.setCell (by simp; omega) _).setCell (by simp; omega) _).mono hsz)) (by simp; omega) hown' hgrow
            have hr9 : Rd B w9 g (q + 3) := (((HR4.out.setCell (by simp; omega) _).setCell (by simp; omega) _).alloc _).grownAt hgrow (fun k hk => by have := ((HO4.out).row.lt k hk).1; omega)
            go_roundw
            case rel => exact ⟨a', m + 1, c', k - 1, q + 3, _, rfl, by congr 1; omega, by omega, by omega, ho9, hr9, hf9⟩
            case measure => simp [intOf]; omega
          · have g2 : (u == 2) = false := by simp; omega
            have d0 : w3.cell? ⟨w2.heap.size, 0, none⟩ = some (.int .u8 z) := by rw [cell_of_row w3 _ 0 _ _ _ HE.out]; rfl
            have d1 : w3.cell? ⟨w2.heap.size, 1, none⟩ = some (.int .i64 0) := by rw [cell_of_row w3 _ 1 _ _ _ HE.out]; rfl
            have d2 : w3.cell? ⟨w2.heap.size, 2, none⟩ = some (.int .i64 0) := by rw [cell_of_row w3 _ 2 _ _ _ HE.out]; rfl
            have HO3 : Hid (Own w3 w.heap.size (.slice a m c) l) := HO.out.fr hf3 hlt
            go_wp2_with (at_builtin; refine wpList_append_own _ rfl (.tmp 48) (.tmp 50) 31 rfl w.heap.size 74 i0 (.agg #[.int .u8 0, .int .i64 0, .int .i64 0]) 3 24 Try.underlying31 hi hz0 hz1 hz2 rfl (by decide) (.slice a m c) _ _ rfl (HO3.out.row.alloc _) ⟨_, 0, none⟩ 1 1 [.int .u8 z, .int .i64 0, .int .i64 0] rfl rfl (by have e := cell_three_new (w3) (.int .u8 z) (.int .i64 0) (.int .i64 0) 74; simpa using e) (three_oneCell _ _ _) (by unfold maxLen; omega) (by omega) (by simp; omega) ?_; intro v' w9 hown' hgrow _)
            obtain ⟨a', c', rfl, ho9, hf9⟩ := own_step_fr (s := (z, 0, 0)) HO3.out (hf.trans (hf3.mono hsz)) (by omega) hown' hgrow
            have hr9 : Rd B w9 g (q + 2) := ((HR3.out).alloc _).grownAt hgrow (fun k hk => by have := ((HO3.out).row.lt k hk).1; omega)
            go_roundw
            case rel => exact ⟨a', m + 1, c', k - 1, q + 2, _, rfl, by congr 1; omega, by omega, by omega, ho9, hr9, hf9⟩
            case measure => simp [intOf]; omega
end Go.Proofs.Ytcecmkideoodiaa
namespace Go.Proofs.Ytcecmkideoodiaa
open Go.RowKit

theorem yieldsIf_load_row {P : Program} {ops : Array Oper} {S : World → Prop} {op : Oper} {a : Act} (hw : Region.wanted op (yielded ops a.tmps) = true) (ty : TypeId) (x : Operand) (ho : op.op = .load ty x)
    (g : Nat) (hx : a.eval x = .pointer (some ⟨g, 0, none⟩)) (t : TypeId) (cs : Array Value) (fr : Nat × Nat) (d : TypeDesc) (hS : ∀ w, S w → w.heap[g]? = some (.cells cs t fr))
    (hu : P.underlying ty = some d) (hd : (match d with | .struct _ | .array _ _ => true | _ => false) = true) (hi : (P.info? ty).map (·.size) = some cs.size) : YieldsIf P ops S op (.agg cs) a :=
  .inl ⟨hw, fun w hw' => by
    unfold execOp
    simp only [ho, hx, Instr.loadAt, Instr.sureAddr, Sem.run_bind, Sem.run_pure, Result.andThen_ok, run_loadVar_row w g t ty cs fr d (hS w hw') hu hd hi]⟩
end Go.Proofs.Ytcecmkideoodiaa
namespace Go.Proofs.Ytcecmkideoodiaa
open Go.RowKit

theorem OwnT.fr {C g : Nat} {w w' : World} {v : Value} {rs : List Rw} {l : List Cl} (h : OwnT w C v rs l) (hf : Fr w.heap.size g w w') (hg : g < C) : OwnT w' C v rs l :=
  ⟨own_fr h.1 hf hg, h.2.1, fun k hk => by
    obtain ⟨h0, h1, h2, h3, h4⟩ := h.2.2.1 k hk
    exact ⟨h0, h1, h2, h3, own_fr h4 hf hg⟩, h.2.2.2⟩
theorem RowAt.fr {g b : Nat} {w w' : World} {cs : Array Value} {ty : TypeId} (h : RowAt w b cs ty) (hf : Fr w.heap.size g w w') (hne : b ≠ g) : RowAt w' b cs ty := (hf.block b h.lt hne).trans h
theorem fr_grown {g : Nat} {w w' : World} (h : w.grownBy w' (some g)) : Fr w.heap.size g w w' := (Fr.refl _ _ _).grown h (Nat.le_refl _)
theorem fr_below {g : Nat} {w w' : World} (h : Below w.heap.size w w') : Fr w.heap.size g w w' := (Fr.refl _ _ _).below h
/-- What a call gives that answers a table and whether there is one, told by one. -/
def FResM (ok : Bool) (X Y : Int) (L : List Cl) (B : Nat) (x y : Int) (a : Option Addr) (n c : Nat) (l' : List Cl) (g : Bool) (w' : World) : Prop := (∃ rs, OwnT w' B (.slice a n c) rs l') ∧ g = ok ∧ (g = true → x = X ∧ y = Y ∧ l' = L)
theorem fResM_of {ok : Bool} {X Y : Int} {L : List Cl} {w w' : World} {z : Ending} (h : TabRes w.heap.size ok X Y L z w' ∧ Below w.heap.size w w') :
    (∃ x y a n c l' g, z = .returned (.tuple #[.agg #[.int .i64 x, .int .i64 y, .slice a n c], .bool g]) ∧ FResM ok X Y L w.heap.size x y a n c l' g w') ∧ Below w.heap.size w w' := by
  obtain ⟨h1 | h1, hb⟩ := h
  · obtain ⟨h2, rfl⟩ := h1
    exact ⟨⟨0, 0, none, 0, 0, [], false, rfl, ⟨[], OwnR.nil _ _, TxtOwn.nil _ _ _⟩, h2.symm, fun e => absurd e (by simp)⟩, hb⟩
  · obtain ⟨h2, a, c, rs, rfl, ho⟩ := h1
    exact ⟨⟨X, Y, a, _, c, _, true, rfl, ⟨rs, ho⟩, h2.symm, fun _ => ⟨rfl, rfl, rfl⟩⟩, hb⟩
/-- A table that was drawn: few cells, short texts. -/
def TabSm (R C : Nat) (l : List Cl) : Prop := (1 ≤ R ∧ R ≤ 4) ∧ (1 ≤ C ∧ C ≤ 4) ∧ (1 ≤ l.length ∧ l.length ≤ 25) ∧ ∀ x ∈ l, x.2.2.2.2.length ≤ 24
theorem newC_len (C : Nat) : ∀ i j, (newC C i j).length = i * C + j
  | 0, j => by
    induction j with
    | zero => simp [newC]
    | succ j ih => rw [newC_succ, List.length_append, ih]; simp
  | i + 1, 0 => by rw [← newC_row, newC_len C i C, Nat.succ_mul]; rfl
  | i + 1, j + 1 => by
    rw [newC_succ, List.length_append, newC_len C (i + 1) j]
    rfl
theorem tabSm_new (R C : Nat) (hR : 1 ≤ R ∧ R ≤ 4) (hC : 1 ≤ C ∧ C ≤ 4) : TabSm R C (newL R C) := by
  have hl : (newL R C).length = R * C := newC_len C R 0
  have h1 : 1 * 1 ≤ R * C := Nat.mul_le_mul hR.1 hC.1
  have h2 : R * C ≤ 4 * 4 := Nat.mul_le_mul hR.2 hC.2
  refine ⟨hR, hC, by omega, fun x hx => ?_⟩
  unfold newL at hx
  rw [newC_map] at hx
  obtain ⟨y, hy, rfl⟩ := List.mem_map.1 hx
  simp [rwCl]
theorem tabSm_merge {R C : Nat} {l : List Cl} {r c d g : Int} (h : TabSm R C l) (hm : mergeB R C l r c d g = true) : TabSm R C (mergeL l r c d g) := by
  obtain ⟨hR, hC, hl, ht⟩ := h
  simp only [mergeB, Bool.and_eq_true, decide_eq_true_eq] at hm
  have hlen : (mergeL l r c d g).length = (mOut r.toNat c.toNat d.toNat g.toNat l).length + 1 := by
    show (sortC (mergeM l r c d g)).length = _
    rw [(sortC_perm _).length_eq]
    simp [mergeM]
  have hsum : (mOut r.toNat c.toNat d.toNat g.toNat l).length + mN r.toNat c.toNat d.toNat g.toNat l ≤ l.length := by
    unfold mOut mN
    clear hlen hm ht hl
    induction l with
    | nil => simp
    | cons x l ih =>
      rw [List.filter_cons, List.filter_cons, List.length_cons]
      have hno : ¬ (outsB r.toNat c.toNat d.toNat g.toNat x = true ∧ fullB r.toNat c.toNat d.toNat g.toNat x = true) := by
        rintro ⟨h1, h2⟩
        have h1' := of_decide_eq_true h1
        have h2' := of_decide_eq_true h2
        exact h2'.1 h1'
      cases h1 : outsB r.toNat c.toNat d.toNat g.toNat x <;> cases h2 : fullB r.toNat c.toNat d.toNat g.toNat x <;> simp_all <;> omega
  refine ⟨hR, hC, by omega, fun x hx => ?_⟩
  have hx' : x ∈ mergeM l r c d g := (sortC_perm _).mem_iff.1 hx
  unfold mergeM at hx'
  rcases List.mem_append.1 hx' with h1 | h1
  · exact ht x (List.mem_filter.1 h1).1
  · simp only [List.mem_singleton] at h1
    subst h1
    have := hm.2
    simp only [textB, Bool.and_eq_true, decide_eq_true_eq] at this
    exact this.1
/-- A text of a row is written. -/
theorem OwnT.putT {w : World} {B q n c : Nat} {rs : List Rw} {l : List Cl} (h : OwnT w B (.slice (some ⟨q, 0, none⟩) n c) rs l) (i : Nat) (hi : i < rs.length) (pa : Option Addr) (pn pc : Nat) (tx : List Sg)
    (hO : Own w B (.slice pa pn pc) tx) (hd : ∀ k, k < rs.length → ∀ b, (rwT (rs.getD k rw0)).ownBlock = some b → (Value.slice pa pn pc).ownBlock ≠ some b) :
    OwnT (w.setCell ⟨q, i * 5 + 4, none⟩ (.slice pa pn pc)) B (.slice (some ⟨q, 0, none⟩) n c) (rs.set i ((rs.getD i rw0).1, (rs.getD i rw0).2.1, (rs.getD i rw0).2.2.1, (rs.getD i rw0).2.2.2.1, pa, pn, pc)) (l.set i ((l.getD i cl0).1, (l.getD i cl0).2.1, (l.getD i cl0).2.2.1, (l.getD i cl0).2.2.2.1, tx)) := by
  have hl := h.2.1
  have hn := h.1.len
  obtain ⟨p0, _⟩ := h.1.row.stored (i * 5 + 4) (.slice pa pn pc)
  rw [flat5_put rs i 4 hi (by omega) _ ((rs.getD i rw0).1, (rs.getD i rw0).2.1, (rs.getD i rw0).2.2.1, (rs.getD i rw0).2.2.2.1, pa, pn, pc) rfl] at p0
  have t0 := h.2.set ⟨q, i * 5 + 4, none⟩ (.slice pa pn pc) rfl
  have hk0 : ∀ b, (Value.slice pa pn pc).ownBlock = some b → (Value.slice (some ⟨q, 0, none⟩) n c).ownBlock ≠ some b := own_kinds h.1.row hO.row (by decide)
  have hO' : Own (w.setCell ⟨q, i * 5 + 4, none⟩ (.slice pa pn pc)) B (.slice pa pn pc) tx := own_set hO _ _ (fun e => hk0 _ e rfl)
  refine ⟨?_, by simp [hl], fun k hk' => ?_, fun k hk' b hb => ?_, fun a b hab hb z hz => ?_⟩
  · unfold OwnR
    rw [List.length_set, ← hn]
    exact p0
  · simp only [List.length_set] at hk'
    by_cases hki : i = k
    · subst hki
      rw [getD_setE _ _ _ _ hi, getD_setE _ _ _ _ (by omega)]
      obtain ⟨h0, h1, h2, h3, _⟩ := t0.2.1 i hk'
      exact ⟨h0, h1, h2, h3, hO'⟩
    · rw [getD_setN _ _ _ _ _ hki, getD_setN _ _ _ _ _ hki]
      exact t0.2.1 k hk'
  · simp only [List.length_set] at hk'
    by_cases hki : i = k
    · subst hki
      rw [getD_setE _ _ _ _ hi] at hb
      exact hk0 b hb
    · rw [getD_setN _ _ _ _ _ hki] at hb
      exact t0.2.2.1 k hk' b hb
  · simp only [List.length_set] at hb
    by_cases hai : i = a
    · subst hai
      rw [getD_setE _ _ _ _ hi] at hz
      rw [getD_setN _ _ _ _ _ (by omega)]
      intro e
      exact hd b hb z e hz
    · rw [getD_setN _ _ _ _ _ hai] at hz
      by_cases hbi : i = b
      · subst hbi
        rw [getD_setE _ _ _ _ hi]
        exact hd a (by omega) z hz
      · rw [getD_setN _ _ _ _ _ hbi]
        exact t0.2.2.2 a b hab hb z hz
end Go.Proofs.Ytcecmkideoodiaa
namespace Go.Proofs.Ytcecmkideoodiaa
open Go.RowKit

/-- A fact on a world that stays where, of what is old, nothing but block g has turned. -/
def MonoF (g : Nat) (p : World → Prop) : Prop := ∀ u u' : World, p u → Fr u.heap.size g u u' → p u'
/-- What a walk over a reader at g carries. -/
structure HdF (w0 : World) (C g : Nat) (rs : List (Nat × Array Value × TypeId)) (ps : List (World → Prop)) (u : World) : Prop where
  frame : Fr C g w0 u
  base : C ≤ u.heap.size
  row : ∀ r ∈ rs, r.1 ≠ g ∧ RowAt u r.1 r.2.1 r.2.2
  fact : ∀ p ∈ ps, MonoF g p ∧ p u
section
variable {w0 u u' : World} {C g : Nat} {rs : List (Nat × Array Value × TypeId)} {ps : List (World → Prop)}
theorem hdF_go (h : Hid (HdF w0 C g rs ps u)) (hf : Fr u.heap.size g u u') : Hid (HdF w0 C g rs ps u') :=
  ⟨h.out.frame.trans (hf.mono h.out.base), Nat.le_trans h.out.base hf.size, fun r hr => ⟨(h.out.row r hr).1, (h.out.row r hr).2.fr hf (h.out.row r hr).1⟩, fun p hp => ⟨(h.out.fact p hp).1, (h.out.fact p hp).1 u u' (h.out.fact p hp).2 hf⟩⟩
theorem hdF_start (w : World) (g : Nat) : Hid (HdF w w.heap.size g [] [] w) := ⟨Fr.refl _ _ _, Nat.le_refl _, fun r hr => absurd hr (by simp), fun p hp => absurd hp (by simp)⟩
theorem hdF_add (h : Hid (HdF w0 C g rs ps u)) (p : World → Prop) (hm : MonoF g p) (hp : p u) : Hid (HdF w0 C g rs (p :: ps) u) :=
  ⟨h.out.frame, h.out.base, h.out.row, fun q hq => by
    rcases List.mem_cons.1 hq with rfl | hq
    · exact ⟨hm, hp⟩
    · exact h.out.fact q hq⟩
theorem hdF_row (h : Hid (HdF w0 C g rs ps u)) (X : Nat) (cs : Array Value) (ty : TypeId) (hX : X ≠ g) (hr : RowAt u X cs ty) : Hid (HdF w0 C g ((X, cs, ty) :: rs) ps u) :=
  ⟨h.out.frame, h.out.base, fun r hq => by
    rcases List.mem_cons.1 hq with rfl | hq
    · exact ⟨hX, hr⟩
    · exact h.out.row r hq, h.out.fact⟩
theorem hdF_box (h : Hid (HdF w0 C g rs ps u)) (hg : g < u.heap.size) (cs : Array Value) (ty : TypeId) : Hid (HdF w0 C g ((u.heap.size, cs, ty) :: rs) ps (u.alloc (.cells cs ty))) :=
  hdF_row (hdF_go h (fr_below ((Below.refl _ _).alloc (Nat.le_refl _) _))) _ _ _ (by omega) (rowAt_new _ _ _)
theorem hdF_less {r : Nat × Array Value × TypeId} (h : Hid (HdF w0 C g (r :: rs) ps u)) : Hid (HdF w0 C g rs ps u) :=
  ⟨h.out.frame, h.out.base, fun q hq => h.out.row q (List.mem_cons_of_mem _ hq), h.out.fact⟩
end
end Go.Proofs.Ytcecmkideoodiaa
namespace Go.Proofs.Ytcecmkideoodiaa
open Go.RowKit

/-- The number of the first cell that a square is of. -/
def atN (R C : Int) (l : List Cl) (r c : Int) : Int := if okB R C l then (match l.findIdx? fun x => inB x r c with | some i => (i : Int) | none => -1) else -1
theorem okB_form {R C : Int} {l : List Cl} (h : okB R C l = true) : formB R C l = true := by
  simp only [okB, Bool.and_eq_true] at h
  exact h.1
theorem specTableOk_is {R C : Int} {a : Option Addr} {n cap : Nat} {l : List Cl} {w : World} {x : Bool} (hx : okB R C l = x) (h : Tab w a n cap l) :
    Calls Try.prog 61 #[.agg #[.int .i64 R, .int .i64 C, .slice a n cap]] w fun e w' => e = .returned (.bool x) ∧ Below w.heap.size w w' := hx ▸ specTableOk_any R C a n cap l w h
theorem findIdx_some (l : List Cl) (k : Nat) (r c : Int) (hk : k < l.length) (h0 : ∀ j, j < k → inB (l.getD j cl0) r c = false) (h1 : inB (l.getD k cl0) r c = true) : (l.findIdx? fun x => inB x r c) = some k := by
  rw [List.findIdx?_eq_some_iff_getElem]
  refine ⟨hk, by simpa [List.getD, hk] using h1, ?_⟩
  intro j hj
  have := h0 j hj
  simpa [List.getD, show j < l.length from by omega] using this
theorem findIdx_none (l : List Cl) (r c : Int) (h0 : ∀ j, j < l.length → inB (l.getD j cl0) r c = false) : (l.findIdx? fun x => inB x r c) = none := by
  rw [List.findIdx?_eq_none_iff]
  intro x hx
  obtain ⟨j, hj, rfl⟩ := List.getElem_of_mem hx
  have := h0 j hj
  simpa [List.getD, hj] using this

end Go.Proofs.Ytcecmkideoodiaa
namespace Go.Proofs.Ytcecmkideoodiaa
open Go.RowKit

/-- A block: its kind, its level, its text, its table's rows, columns and cells. -/
abbrev Bl := Int × Int × List Sg × Int × Int × List Cl
def bl0 : Bl := (0, 0, [], 0, 0, [])
/-- The cells of a block at block b from o on, its text and its table's cells told. -/
def BlockIs (w : World) (b o : Nat) (x : Bl) (ta : Option Addr) (tn tc : Nat) (ca : Option Addr) (cn cc : Nat) : Prop :=
  w.cell? ⟨b, o, none⟩ = some (.int .i64 x.1) ∧ w.cell? ⟨b, o + 1, none⟩ = some (.int .i64 x.2.1) ∧ w.cell? ⟨b, o + 2, none⟩ = some (.slice ta tn tc) ∧ w.cell? ⟨b, o + 3, none⟩ = some (.int .i64 x.2.2.2.1) ∧ w.cell? ⟨b, o + 4, none⟩ = some (.int .i64 x.2.2.2.2.1) ∧ w.cell? ⟨b, o + 5, none⟩ = some (.slice ca cn cc) ∧
    Txt w ta tn tc x.2.2.1 ∧ Tab w ca cn cc x.2.2.2.2.2
def BlockAt (w : World) (b o : Nat) (x : Bl) : Prop := ∃ ta tn tc ca cn cc, BlockIs w b o x ta tn tc ca cn cc
/-- A slice value that reads as the blocks d. -/
def Dc (w : World) (a : Option Addr) (n cap : Nat) (d : List Bl) : Prop :=
  n = d.length ∧ n ≤ cap ∧ cap ≤ maxLen ∧ (d = [] ∨ ∃ b off, a = some ⟨b, off, none⟩ ∧ b < w.heap.size ∧ ∀ k, k < d.length → BlockAt w b (off + k * 6) (d.getD k bl0))
section
variable {w w' : World}
theorem BlockIs.below {b o : Nat} {x : Bl} {ta : Option Addr} {tn tc : Nat} {ca : Option Addr} {cn cc : Nat} (h : BlockIs w b o x ta tn tc ca cn cc) (hb : Below w.heap.size w w') (hlt : b < w.heap.size) : BlockIs w' b o x ta tn tc ca cn cc := by
  obtain ⟨h0, h1, h2, h3, h4, h5, ht, hc⟩ := h
  exact ⟨(hb.cell (p := ⟨b, _, none⟩) hlt).trans h0, (hb.cell (p := ⟨b, _, none⟩) hlt).trans h1, (hb.cell (p := ⟨b, _, none⟩) hlt).trans h2, (hb.cell (p := ⟨b, _, none⟩) hlt).trans h3, (hb.cell (p := ⟨b, _, none⟩) hlt).trans h4, (hb.cell (p := ⟨b, _, none⟩) hlt).trans h5, ht.below hb, hc.below hb⟩
theorem BlockAt.below {b o : Nat} {x : Bl} (h : BlockAt w b o x) (hb : Below w.heap.size w w') (hlt : b < w.heap.size) : BlockAt w' b o x := by
  obtain ⟨ta, tn, tc, ca, cn, cc, hh⟩ := h
  exact ⟨ta, tn, tc, ca, cn, cc, hh.below hb hlt⟩
theorem Dc.below {a : Option Addr} {n cap : Nat} {d : List Bl} (h : Dc w a n cap d) (hb : Below w.heap.size w w') : Dc w' a n cap d := by
  obtain ⟨h1, h2, h3, h4⟩ := h
  refine ⟨h1, h2, h3, ?_⟩
  rcases h4 with h4 | ⟨b, off, h5, h6, h7⟩
  · exact .inl h4
  · exact .inr ⟨b, off, h5, Nat.lt_of_lt_of_le h6 hb.size, fun k hk => (h7 k hk).below hb h6⟩
end
/-- A block as a value. -/
def blV (k v : Int) (ta : Option Addr) (tn tc : Nat) (R C : Int) (ca : Option Addr) (cn cc : Nat) : Array Value := #[.int .i64 k, .int .i64 v, .slice ta tn tc, .int .i64 R, .int .i64 C, .slice ca cn cc]
/-- Whether a table is nothing. -/
def noneB (R C : Int) (l : List Cl) : Bool := decide (R = 0) && decide (C = 0) && decide (l = [])
/-- Whether a block is in form. -/
def blockB (x : Bl) : Bool :=
  if x.1 = 1 then decide (x.2.1 = 0) && textB x.2.2.1 && noneB x.2.2.2.1 x.2.2.2.2.1 x.2.2.2.2.2
  else if x.1 = 2 then decide (0 ≤ x.2.1 ∧ x.2.1 ≤ 3) && textB x.2.2.1 && noneB x.2.2.2.1 x.2.2.2.2.1 x.2.2.2.2.2
  else if x.1 = 3 then decide (x.2.1 = 0) && decide (x.2.2.1 = []) && okB x.2.2.2.1 x.2.2.2.2.1 x.2.2.2.2.2
  else false
/-- How deep a block is as an item. -/
def lvN (x : Bl) : Int := if x.1 = 2 then x.2.1 else -1
def aheadN (d : List Bl) (k : Nat) : Int := if k = 0 then -1 else lvN (d.getD (k - 1) bl0)
def docK (d : List Bl) (k : Nat) : Bool := blockB (d.getD k bl0) && !(decide ((d.getD k bl0).1 = 2) && decide (aheadN d k + 1 < (d.getD k bl0).2.1))
def docB (d : List Bl) : Bool := decide (d.length ≤ 8) && (List.range d.length).all (docK d)

theorem l3None_is {R C : Int} {ca : Option Addr} {cn cc : Nat} {l : List Cl} {w : World} {x : Bool} (hx : noneB R C l = x) (h : Tab w ca cn cc l) :
    Calls Try.prog 60 #[.agg #[.int .i64 R, .int .i64 C, .slice ca cn cc]] w fun e w' => e = .returned (.bool x) ∧ Below w.heap.size w w' := by
  have hn := h.1
  have hl : (l = []) ↔ (cn = 0) := by rw [hn]; exact List.length_eq_zero_iff.symm
  have HX : Hid (noneB R C l = x) := hx
  have HL : Hid ((l = []) ↔ (cn = 0)) := hl
  clear h hn hl hx
  go_enter Try.func60, Try.ntmps60
  by_cases h1 : R = 0
  · by_cases h2 : C = 0
    · by_cases h3 : cn = 0
      · have HE : Hid (noneB R C l = true) := by
          show noneB R C l = true
          simp [noneB, h1, h2, HL.out.2 h3]
        have hxe : x = true := HX.out.symm.trans HE.out
        clear HE HX HL
        subst h1 h2 h3
        go_wp2
        all_goals go_ret
        all_goals exact ⟨by rw [hxe]; rfl, (Below.refl _ _).alloc (Nat.le_refl _) _⟩
      · have HE : Hid (noneB R C l = false) := by
          show noneB R C l = false
          simp [noneB, show ¬ l = [] from fun e => h3 (HL.out.1 e)]
        have hxe : x = false := HX.out.symm.trans HE.out
        clear HE HX HL
        subst h1 h2
        go_wp2
        all_goals go_ret
        all_goals exact ⟨by rw [hxe]; simp [h3], (Below.refl _ _).alloc (Nat.le_refl _) _⟩
    · subst h1
      go_wp2
      all_goals go_ret
      all_goals exact ⟨by rw [← HX.out]; simp [noneB, h2], (Below.refl _ _).alloc (Nat.le_refl _) _⟩
  · go_wp2
    all_goals go_ret
    all_goals exact ⟨by rw [← HX.out]; simp [noneB, h1], (Below.refl _ _).alloc (Nat.le_refl _) _⟩
end Go.Proofs.Ytcecmkideoodiaa
namespace Go.Proofs.Ytcecmkideoodiaa
open Go.RowKit

/-- A slice's value. -/
abbrev Sl3 := Option Addr × Nat × Nat
def sl3V (s : Sl3) : Value := .slice s.1 s.2.1 s.2.2
/-- A block as it lies in memory. -/
abbrev Rb := Int × Int × Sl3 × Int × Int × Sl3
def rb0 : Rb := (0, 0, (none, 0, 0), 0, 0, (none, 0, 0))
def rbCells (x : Rb) : List Value := [.int .i64 x.1, .int .i64 x.2.1, sl3V x.2.2.1, .int .i64 x.2.2.2.1, .int .i64 x.2.2.2.2.1, sl3V x.2.2.2.2.2]
def flat6 (l : List Rb) : List Value := l.flatMap rbCells
theorem flat6_length (l : List Rb) : (flat6 l).length = l.length * 6 := by
  unfold flat6
  induction l with
  | nil => rfl
  | cons x t ih => rw [List.flatMap_cons, List.length_append, ih, List.length_cons]; simp [rbCells]; omega
theorem flat6_append (a b : List Rb) : flat6 (a ++ b) = flat6 a ++ flat6 b := by simp [flat6]
theorem flat6_get : ∀ (l : List Rb) (k : Nat), k < l.length → ∀ j, j < 6 → (flat6 l)[k * 6 + j]? = (rbCells (l.getD k rb0))[j]?
  | [], k, hk, _, _ => absurd hk (by simp)
  | x :: t, 0, _, j, hj => by
      unfold flat6
      rw [List.flatMap_cons, Nat.zero_mul, Nat.zero_add, List.getElem?_append_left (by simpa [rbCells] using hj)]
      rfl
  | x :: t, k + 1, hk, j, hj => by
      have ih := flat6_get t k (by simpa using hk) j hj
      unfold flat6 at ih ⊢
      rw [List.flatMap_cons, List.getElem?_append_right (by simp [rbCells]; omega)]
      have e : (k + 1) * 6 + j - (rbCells x).length = k * 6 + j := by simp [rbCells]; omega
      rw [e, ih]
      rfl
/-- A block whose text lies in [lo, mid) and whose table in [mid, hi), both its own. -/
def BlOwn (w : World) (lo mid hi : Nat) (x : Rb) (y : Bl) : Prop :=
  (x.1 = y.1 ∧ x.2.1 = y.2.1 ∧ x.2.2.2.1 = y.2.2.2.1 ∧ x.2.2.2.2.1 = y.2.2.2.2.1) ∧ Own w lo (sl3V x.2.2.1) y.2.2.1 ∧ (∀ g, (sl3V x.2.2.1).ownBlock = some g → g < mid) ∧
    (∃ rs, OwnT w mid (sl3V x.2.2.2.2.2) rs y.2.2.2.2.2 ∧ (∀ g, (sl3V x.2.2.2.2.2).ownBlock = some g → g < hi) ∧ ∀ k, k < rs.length → ∀ g, (rwT (rs.getD k rw0)).ownBlock = some g → g < hi) ∧ lo ≤ mid ∧ mid ≤ hi
/-- A document's blocks, all their own, between B and E. -/
def DocOwn (w : World) (B E : Nat) (v : Value) (rbs : List Rb) (d : List Bl) : Prop :=
  w.ownsRow B 39 6 v rbs.length (flat6 rbs) ∧ (∀ g, v.ownBlock = some g → g < E) ∧ rbs.length = d.length ∧
    ∃ lo mid hi : Nat → Nat, (∀ k, k < d.length → B ≤ lo k ∧ hi k ≤ E ∧ BlOwn w (lo k) (mid k) (hi k) (rbs.getD k rb0) (d.getD k bl0)) ∧ ∀ k, k + 1 < d.length → hi k ≤ lo (k + 1)
/-- Between B and E nothing has turned. -/
def Mid (B E : Nat) (w w' : World) : Prop := ∀ b, B ≤ b → b < E → w'.heap[b]? = w.heap[b]?
/-- Between B and E nothing but rows of blocks has turned. -/
def Kept (B E : Nat) (w w' : World) : Prop := ∀ b cs ty, B ≤ b → b < E → ty ≠ 39 → RowAt w b cs ty → RowAt w' b cs ty
theorem own_kept {w w' : World} {B E e size n : Nat} {v : Value} {xs : List Value} (h : w.ownsRow B e size v n xs) (he : e ≠ 39) (hv : ∀ g, v.ownBlock = some g → g < E) (ho : Kept B E w w') : w'.ownsRow B e size v n xs := by
  refine ⟨h.1, ?_⟩
  rcases h.2 with hn | ⟨g, cap, cur, rfl, hg, hgg, rest⟩
  · exact .inl hn
  · exact .inr ⟨g, cap, cur, rfl, hg, ho g cur e hg (hv g rfl) he hgg, rest⟩
theorem ownT_kept {w w' : World} {B E : Nat} {v : Value} {rs : List Rw} {l : List Cl} (h : OwnT w B v rs l) (hv : ∀ g, v.ownBlock = some g → g < E) (hr : ∀ k, k < rs.length → ∀ g, (rwT (rs.getD k rw0)).ownBlock = some g → g < E) (ho : Kept B E w w') : OwnT w' B v rs l :=
  ⟨own_kept h.1 (by decide) hv ho, h.2.1, fun k hk => by
    obtain ⟨h0, h1, h2, h3, h4⟩ := h.2.2.1 k hk
    exact ⟨h0, h1, h2, h3, own_kept h4 (by decide) (fun g hg => hr k hk g hg) ho⟩, h.2.2.2⟩
theorem BlOwn.kept {w w' : World} {lo mid hi : Nat} {x : Rb} {y : Bl} (h : BlOwn w lo mid hi x y) (ho : Kept lo hi w w') : BlOwn w' lo mid hi x y := by
  obtain ⟨h0, h1, h2, ⟨rs, h3, h4, h5⟩, h6, h7⟩ := h
  exact ⟨h0, own_kept h1 (by decide) h2 (fun b cs ty hb hb' => ho b cs ty hb (by omega)), h2, ⟨rs, ownT_kept h3 h4 h5 (fun b cs ty hb hb' => ho b cs ty (by omega) hb'), h4, h5⟩, h6, h7⟩
theorem Mid.kept {B E : Nat} {w w' : World} (h : Mid B E w w') : Kept B E w w' := fun b _ _ hb hb' _ hr => (h b hb hb').trans hr
theorem BlOwn.mid {w w' : World} {lo mid hi : Nat} {x : Rb} {y : Bl} (h : BlOwn w lo mid hi x y) (ho : Mid lo hi w w') : BlOwn w' lo mid hi x y := h.kept ho.kept
theorem kept_set {w : World} {g : Nat} {cur : Array Value} (h : RowAt w g cur 39) (B E o : Nat) (u : Value) : Kept B E w (w.setCell ⟨g, o, none⟩ u) := fun b cs ty _ _ hty hr => hr.other _ _ (fun e => by
  simp only at e
  subst e
  unfold RowAt at h hr
  rw [hr] at h
  simp only [Option.some.injEq, Obj.cells.injEq] at h
  exact hty h.2.1)
theorem kept_grown {w w' : World} {q : Option Nat} (hq : ∀ g, q = some g → ∃ cur, RowAt w g cur 39) (hg : w.grownBy w' q) (B E : Nat) : Kept B E w w' := fun b cs ty _ _ hty hr => hr.grown hg (fun e => by
  obtain ⟨cur, h⟩ := hq b e
  unfold RowAt at h hr
  rw [hr] at h
  simp only [Option.some.injEq, Obj.cells.injEq] at h
  exact hty h.2.1)
theorem Kept.trans {w w' w'' : World} {B E : Nat} (h : Kept B E w w') (h' : Kept B E w' w'') : Kept B E w w'' := fun b cs ty hb hb' ht hr => h' b cs ty hb hb' ht (h b cs ty hb hb' ht hr)
theorem own_mid {w w' : World} {B E e size n : Nat} {v : Value} {xs : List Value} (h : w.ownsRow B e size v n xs) (hv : ∀ g, v.ownBlock = some g → g < E) (ho : Mid B E w w') : w'.ownsRow B e size v n xs := by
  refine ⟨h.1, ?_⟩
  rcases h.2 with hn | ⟨g, cap, cur, rfl, hg, hgg, rest⟩
  · exact .inl hn
  · exact .inr ⟨g, cap, cur, rfl, hg, (ho g hg (hv g rfl)).trans hgg, rest⟩
theorem DocOwn.mid {w w' : World} {B E : Nat} {v : Value} {rbs : List Rb} {d : List Bl} (h : DocOwn w B E v rbs d) (ho : Mid B E w w') : DocOwn w' B E v rbs d := by
  obtain ⟨h0, h1, h2, lo, mid, hi, h3, h4⟩ := h
  refine ⟨own_mid h0 h1 ho, h1, h2, lo, mid, hi, fun k hk => ?_, h4⟩
  obtain ⟨a, b, c⟩ := h3 k hk
  exact ⟨a, b, c.mid (fun q hq hq' => ho q (by omega) (by omega))⟩
theorem DocOwn.below {w w' : World} {B E : Nat} {v : Value} {rbs : List Rb} {d : List Bl} (h : DocOwn w B E v rbs d) (hE : E ≤ w.heap.size) (hb : Below w.heap.size w w') : DocOwn w' B E v rbs d :=
  h.mid fun b _ hb' => hb.block b (by omega)
theorem BlOwn.at {w : World} {lo mid hi : Nat} {x : Rb} {y : Bl} (h : BlOwn w lo mid hi x y) {b o : Nat} (hc : ∀ j, j < 6 → w.cell? ⟨b, o + j, none⟩ = (rbCells x)[j]?) : BlockIs w b o y x.2.2.1.1 x.2.2.1.2.1 x.2.2.1.2.2 x.2.2.2.2.2.1 x.2.2.2.2.2.2.1 x.2.2.2.2.2.2.2 := by
  obtain ⟨⟨h0, h1, h2, h3⟩, h4, -, ⟨rs, h5, -, -⟩, -, -⟩ := h
  refine ⟨?_, ?_, ?_, ?_, ?_, ?_, ?_, ?_⟩
  · have := hc 0 (by omega); rw [Nat.add_zero] at this; rw [this, ← h0]; rfl
  · have := hc 1 (by omega); rw [this, ← h1]; rfl
  · have := hc 2 (by omega); rw [this]; rfl
  · have := hc 3 (by omega); rw [this, ← h2]; rfl
  · have := hc 4 (by omega); rw [this, ← h3]; rfl
  · have := hc 5 (by omega); rw [this]; rfl
  · exact Own.txt h4
  · exact OwnT.tab h5
theorem DocOwn.shape {w : World} {B E : Nat} {v : Value} {rbs : List Rb} {d : List Bl} (h : DocOwn w B E v rbs d) : ∃ a c, v = .slice a d.length c := by
  obtain ⟨h0, -, h2, -⟩ := h
  rw [← h2]
  rcases h0.2 with ⟨rfl, hz⟩ | ⟨g, cap, cur, rfl, r⟩
  · exact ⟨none, 0, by rw [hz]⟩
  · exact ⟨_, _, rfl⟩
theorem DocOwn.len {w : World} {B E : Nat} {a : Option Addr} {n c : Nat} {rbs : List Rb} {d : List Bl} (h : DocOwn w B E (.slice a n c) rbs d) : n = d.length := by
  obtain ⟨a', c', he⟩ := h.shape
  simp only [Value.slice.injEq] at he
  exact he.2.1
theorem DocOwn.dc {w : World} {B E : Nat} {a : Option Addr} {n c : Nat} {rbs : List Rb} {d : List Bl} (h : DocOwn w B E (.slice a n c) rbs d) : Dc w a n c d := by
  have hn := h.len
  obtain ⟨h0, h1, h2, lo, mid, hi, h3, -⟩ := h
  have h0' := h0
  rcases h0.2 with ⟨hv, hz⟩ | ⟨g, cap, cur, hv, hg, hgg, hr1, hr2, hr3, hr4⟩
  · cases hv
    exact ⟨hn, Nat.le_refl _, by unfold maxLen; omega, .inl (List.eq_nil_of_length_eq_zero (by omega))⟩
  · simp only [Value.slice.injEq] at hv
    obtain ⟨rfl, h6, rfl⟩ := hv
    refine ⟨hn, by omega, hr2, .inr ⟨g, 0, rfl, (Array.getElem?_eq_some_iff.1 hgg).1, fun k hk => ?_⟩⟩
    obtain ⟨-, -, hB⟩ := h3 k hk
    refine ⟨_, _, _, _, _, _, hB.at (fun j hj => ?_)⟩
    rw [h6] at h0'
    have hc := h0'.cellAt (k * 6 + j) (by omega)
    rw [Nat.zero_add, hc]
    exact flat6_get rbs k (by omega) j hj
theorem DocOwn.less {w : World} {B B' E E' : Nat} {v : Value} {rbs : List Rb} {d : List Bl} (h : DocOwn w B E v rbs d) (hB : B' ≤ B) (hE : E ≤ E') : DocOwn w B' E' v rbs d := by
  obtain ⟨h0, h1, h2, lo, mid, hi, h3, h4⟩ := h
  refine ⟨own_less h0 hB, fun g hg => Nat.lt_of_lt_of_le (h1 g hg) hE, h2, lo, mid, hi, fun k hk => ?_, h4⟩
  obtain ⟨a, b, c⟩ := h3 k hk
  exact ⟨by omega, by omega, c⟩
/-- The blocks of a document, one behind the other, without their rows. -/
def BlsOwn (w : World) (B E : Nat) (rbs : List Rb) (d : List Bl) : Prop :=
  rbs.length = d.length ∧ ∃ lo mid hi : Nat → Nat, (∀ k, k < d.length → B ≤ lo k ∧ hi k ≤ E ∧ BlOwn w (lo k) (mid k) (hi k) (rbs.getD k rb0) (d.getD k bl0)) ∧ ∀ k, k + 1 < d.length → hi k ≤ lo (k + 1)
theorem own_rowAt {w : World} {B e size n m c : Nat} {g : Nat} {xs : List Value} (h : w.ownsRow B e size (.slice (some ⟨g, 0, none⟩) m c) n xs) : ∃ cur, RowAt w g cur e := by
  rcases h.2 with ⟨hv, _⟩ | ⟨g', cap, cur, hv, _, hgg, _⟩
  · cases hv
  · simp only [Value.slice.injEq, Option.some.injEq, Addr.mk.injEq] at hv
    rw [hv.1.1]
    exact ⟨cur, hgg⟩
theorem own_rowAts {w : World} {B e size n : Nat} {v : Value} {xs : List Value} (h : w.ownsRow B e size v n xs) : ∀ g, v.ownBlock = some g → ∃ cur, RowAt w g cur e := by
  intro g hg
  rcases h.2 with ⟨rfl, _⟩ | ⟨g', cap, cur, rfl, _, hgg, _⟩
  · simp [Value.ownBlock] at hg
  · simp only [Value.ownBlock, Option.some.injEq] at hg
    subst hg
    exact ⟨cur, hgg⟩
theorem BlsOwn.nil (w : World) (B E : Nat) : BlsOwn w B E [] [] := ⟨rfl, fun _ => 0, fun _ => 0, fun _ => 0, fun k hk => absurd hk (by simp), fun k hk => absurd hk (by simp)⟩
theorem BlsOwn.kept {w w' : World} {B E : Nat} {rbs : List Rb} {d : List Bl} (h : BlsOwn w B E rbs d) (ho : Kept B E w w') : BlsOwn w' B E rbs d := by
  obtain ⟨h0, lo, mid, hi, h1, h2⟩ := h
  refine ⟨h0, lo, mid, hi, fun k hk => ?_, h2⟩
  obtain ⟨a, b, c⟩ := h1 k hk
  exact ⟨a, b, c.kept (fun g cs ty hg hg' => ho g cs ty (by omega) (by omega))⟩
theorem BlsOwn.snoc {w : World} {B E E' : Nat} {rbs : List Rb} {d : List Bl} {mid : Nat} {x : Rb} {y : Bl} (h : BlsOwn w B E rbs d) (hB : B ≤ E) (hx : BlOwn w E mid E' x y) (hE : E ≤ E') : BlsOwn w B E' (rbs ++ [x]) (d ++ [y]) := by
  obtain ⟨h0, lo, md, hi, h1, h2⟩ := h
  refine ⟨by simp [h0], fun k => if k < d.length then lo k else E, fun k => if k < d.length then md k else mid, fun k => if k < d.length then hi k else E', fun k hk => ?_, fun k hk => ?_⟩
  · by_cases hlt : k < d.length
    · have e1 : (rbs ++ [x]).getD k rb0 = rbs.getD k rb0 := by simp [List.getD, List.getElem?_append_left (show k < rbs.length by rw [h0]; exact hlt)]
      have e2 : (d ++ [y]).getD k bl0 = d.getD k bl0 := by simp [List.getD, List.getElem?_append_left hlt]
      rw [e1, e2]
      simp only [if_pos hlt]
      obtain ⟨a, b, c⟩ := h1 k hlt
      exact ⟨a, by omega, c⟩
    · have ek : k = d.length := by simp at hk; omega
      subst ek
      have e1 : (rbs ++ [x]).getD d.length rb0 = x := by simp [List.getD, ← h0]
      have e2 : (d ++ [y]).getD d.length bl0 = y := by simp [List.getD]
      rw [e1, e2]
      simp only [if_neg hlt]
      exact ⟨hB, Nat.le_refl _, hx⟩
  · by_cases hlt : k + 1 < d.length
    · simp only [if_pos hlt, if_pos (show k < d.length by omega)]
      exact h2 k hlt
    · have ek : k + 1 = d.length := by simp at hk; omega
      have hk' : k < d.length := by omega
      simp only [if_neg hlt, if_pos hk']
      exact (h1 k hk').2.1
theorem BlsOwn.grow {w : World} {B E E' : Nat} {rbs : List Rb} {d : List Bl} (h : BlsOwn w B E rbs d) (hE : E ≤ E') : BlsOwn w B E' rbs d := by
  obtain ⟨h0, lo, md, hi, h1, h2⟩ := h
  refine ⟨h0, lo, md, hi, fun k hk => ?_, h2⟩
  obtain ⟨a, b, c⟩ := h1 k hk
  exact ⟨a, by omega, c⟩
theorem DocOwn.bls {w : World} {B E : Nat} {v : Value} {rbs : List Rb} {d : List Bl} (h : DocOwn w B E v rbs d) : BlsOwn w B E rbs d := h.2.2
theorem docOwn_of {w : World} {B E : Nat} {v : Value} {rbs : List Rb} {d : List Bl} (h : w.ownsRow B 39 6 v rbs.length (flat6 rbs)) (hv : ∀ g, v.ownBlock = some g → g < E) (hb : BlsOwn w B E rbs d) : DocOwn w B E v rbs d := ⟨h, hv, hb⟩
theorem DocOwn.nil (w : World) (B E : Nat) : DocOwn w B E (.slice none 0 0) [] [] :=
  ⟨World.ownsRow_nil _ _ _ _, fun g hg => by simp [Value.ownBlock] at hg, rfl, fun _ => 0, fun _ => 0, fun _ => 0, fun k hk => absurd hk (by simp), fun k hk => absurd hk (by simp)⟩
end Go.Proofs.Ytcecmkideoodiaa
namespace Go.Proofs.Ytcecmkideoodiaa
open Go.RowKit

theorem rb_getD_set_self {l : List Rb} {i : Nat} {x : Rb} (h : i < l.length) : (l.set i x).getD i rb0 = x := by simp [List.getD, h]
theorem rb_getD_set_other {l : List Rb} {i k : Nat} {x : Rb} (h : i ≠ k) : (l.set i x).getD k rb0 = l.getD k rb0 := by simp [List.getD, List.getElem?_set_ne h]
theorem bl_getD_set_self {l : List Bl} {i : Nat} {x : Bl} (h : i < l.length) : (l.set i x).getD i bl0 = x := by simp [List.getD, h]
theorem bl_getD_set_other {l : List Bl} {i k : Nat} {x : Bl} (h : i ≠ k) : (l.set i x).getD k bl0 = l.getD k bl0 := by simp [List.getD, List.getElem?_set_ne h]
theorem flat6_set (rbs : List Rb) (m j : Nat) (hm : m < rbs.length) (hj : j < 6) (u : Value) (x : Rb) (hx : rbCells x = (rbCells (rbs.getD m rb0)).set j u) : (flat6 rbs).set (m * 6 + j) u = flat6 (rbs.set m x) := by
  apply List.ext_getElem?
  intro i
  have hlen := flat6_length rbs
  by_cases hi : i < rbs.length * 6
  · have hi6 : i = i / 6 * 6 + i % 6 := by omega
    have hk : i / 6 < rbs.length := by omega
    have hr : i % 6 < 6 := by omega
    generalize i / 6 = k at hi6 hk
    generalize i % 6 = r at hi6 hr
    subst hi6
    rw [flat6_get (rbs.set m x) k (by simpa using hk) r hr]
    by_cases hkm : m = k
    · subst hkm
      rw [rb_getD_set_self hm, hx]
      by_cases hjr : j = r
      · subst hjr
        rw [List.getElem?_set_self (by omega), List.getElem?_set_self (by simp [rbCells]; omega)]
      · rw [List.getElem?_set_ne (by omega), List.getElem?_set_ne hjr]
        exact flat6_get rbs m hk r hr
    · rw [rb_getD_set_other hkm, List.getElem?_set_ne (by omega)]
      exact flat6_get rbs k hk r hr
  · rw [List.getElem?_eq_none (by simp; omega), List.getElem?_eq_none (by rw [flat6_length]; simp; omega)]
/-- The row of a document's blocks behind a store into one of its cells. -/
theorem rows_set {w : World} {B g n c : Nat} {rbs : List Rb} (h : w.ownsRow B 39 6 (.slice (some ⟨g, 0, none⟩) n c) rbs.length (flat6 rbs)) (m j : Nat) (hm : m < rbs.length) (hj : j < 6) (u : Value) (x : Rb) (hx : rbCells x = (rbCells (rbs.getD m rb0)).set j u) : (w.setCell ⟨g, m * 6 + j, none⟩ u).ownsRow B 39 6 (.slice (some ⟨g, 0, none⟩) n c) (rbs.set m x).length (flat6 (rbs.set m x)) := by
  have hn : n = rbs.length := by
    rcases h.2 with ⟨hv, _⟩ | ⟨g', cap, cur, hv, _⟩
    · cases hv
    · simp only [Value.slice.injEq] at hv
      exact hv.2.1
  subst hn
  have := (h.stored (m * 6 + j) u).1
  rw [flat6_set rbs m j hm hj u x hx] at this
  rw [List.length_set]
  exact this
theorem BlsOwn.upd {w w' : World} {B E : Nat} {rbs : List Rb} {d : List Bl} (h : BlsOwn w B E rbs d) (hk : Kept B E w w') (m : Nat) (x : Rb) (y : Bl) (hxy : ∀ lo mid hi, BlOwn w' lo mid hi (rbs.getD m rb0) (d.getD m bl0) → BlOwn w' lo mid hi x y) : BlsOwn w' B E (rbs.set m x) (d.set m y) := by
  obtain ⟨h0, lo, mid, hi, h1, h2⟩ := h.kept hk
  refine ⟨by simp [h0], lo, mid, hi, fun k hk => ?_, fun k hk => h2 k (by simpa using hk)⟩
  simp only [List.length_set] at hk
  obtain ⟨a, b, c⟩ := h1 k hk
  refine ⟨a, b, ?_⟩
  by_cases e : m = k
  · subst e
    rw [rb_getD_set_self (by omega), bl_getD_set_self hk]
    exact hxy _ _ _ c
  · rw [rb_getD_set_other e, bl_getD_set_other e]
    exact c
theorem docOwn_kind {w : World} {B E g n c : Nat} {rbs : List Rb} {d : List Bl} (h : DocOwn w B E (.slice (some ⟨g, 0, none⟩) n c) rbs d) (m : Nat) (hm : m < d.length) (k : Int) : DocOwn (w.setCell ⟨g, m * 6, none⟩ (.int .i64 k)) B E (.slice (some ⟨g, 0, none⟩) n c) (rbs.set m (k, (rbs.getD m rb0).2)) (d.set m (k, (d.getD m bl0).2)) := by
  have hl := h.2.2.1
  obtain ⟨cur, hcur⟩ := own_rowAt h.1
  refine docOwn_of ?_ h.2.1 (h.bls.upd (kept_set hcur _ _ _ _) m _ _ (fun lo mid hi hb => ⟨⟨rfl, hb.1.2⟩, hb.2⟩))
  have := rows_set h.1 m 0 (by omega) (by omega) (.int .i64 k) (k, (rbs.getD m rb0).2) rfl
  rwa [Nat.add_zero] at this
theorem docOwn_level {w : World} {B E g n c : Nat} {rbs : List Rb} {d : List Bl} (h : DocOwn w B E (.slice (some ⟨g, 0, none⟩) n c) rbs d) (m : Nat) (hm : m < d.length) (v : Int) : DocOwn (w.setCell ⟨g, m * 6 + 1, none⟩ (.int .i64 v)) B E (.slice (some ⟨g, 0, none⟩) n c) (rbs.set m ((rbs.getD m rb0).1, v, (rbs.getD m rb0).2.2)) (d.set m ((d.getD m bl0).1, v, (d.getD m bl0).2.2)) := by
  have hl := h.2.2.1
  obtain ⟨cur, hcur⟩ := own_rowAt h.1
  refine docOwn_of ?_ h.2.1 (h.bls.upd (kept_set hcur _ _ _ _) m _ _ (fun lo mid hi hb => ⟨⟨hb.1.1, rfl, hb.1.2.2⟩, hb.2⟩))
  exact rows_set h.1 m 1 (by omega) (by omega) (.int .i64 v) _ rfl
/-- A document's row is read. -/
theorem docOwn_at {w : World} {B E : Nat} {pa : Option Addr} {n pc : Nat} {rbs : List Rb} {d : List Bl} (h : DocOwn w B E (.slice pa n pc) rbs d) {i : Nat} (hi : i < n) : ∃ g, pa = some ⟨g, 0, none⟩ ∧ B ≤ g ∧ g < w.heap.size ∧ (∀ j, j < 6 → w.cell? ⟨g, i * 6 + j, none⟩ = (rbCells (rbs.getD i rb0))[j]?) ∧ ∀ j, w.frozen? ⟨g, i * 6 + j, none⟩ = false := by
  have hn := h.len
  have hl := h.2.2.1
  have hr := h.1
  rcases hr.2 with ⟨hv, h0⟩ | ⟨g, cap, cur, hv, hg, hgg, _⟩
  · omega
  · simp only [Value.slice.injEq] at hv
    obtain ⟨rfl, h6, rfl⟩ := hv
    rw [← h6] at hr
    refine ⟨g, rfl, hg, (Array.getElem?_eq_some_iff.1 hgg).1, fun j hj => ?_, fun j => hr.frozenAt _⟩
    rw [hr.cellAt (i * 6 + j) (by omega)]
    exact flat6_get rbs i (by omega) j hj
end Go.Proofs.Ytcecmkideoodiaa
namespace Go.Proofs.Ytcecmkideoodiaa
open Go.RowKit

/-- What stays while a table is drawn. -/
def TInv (B g T R C : Nat) (w : World) (a : Option Addr) (n c : Nat) (rs : List Rw) (l : List Cl) (q : Nat) (w' : World) : Prop :=
  RowAt w' T #[.int .i64 R, .int .i64 C, .slice a n c] 37 ∧ OwnT w' w.heap.size (.slice a n c) rs l ∧ RowAt w' w.heap.size #[.int .i64 0, .int .i64 0, .slice none 0 0] 37 ∧ Rd B w' g q ∧ Fr w.heap.size g w w' ∧ T < w'.heap.size ∧ w.heap.size < T ∧ g < w.heap.size

variable {B g T R C : Nat} {w : World} {a : Option Addr} {n c : Nat} {rs : List Rw} {l : List Cl} {q q' : Nat} {w' w'' : World}

theorem TInv.fr (h : TInv B g T R C w a n c rs l q w') (hf : Fr w'.heap.size g w' w'') (hr : Rd B w'' g q') : TInv B g T R C w a n c rs l q' w'' := by
  obtain ⟨h1, h2, h3, h4, h5, h6, h7, h8⟩ := h
  have s := hf.size
  exact ⟨h1.fr hf (by omega), h2.fr hf h8, h3.fr hf (by omega), hr, h5.trans (hf.mono (by omega)), by omega, h7, h8⟩
theorem TInv.grown (h : TInv B g T R C w a n c rs l q w') (hg : w'.grownBy w'' (some g)) (hr : Rd B w'' g q') : TInv B g T R C w a n c rs l q' w'' := h.fr (fr_grown hg) hr
theorem TInv.below (h : TInv B g T R C w a n c rs l q w') (hb : Below w'.heap.size w' w'') : TInv B g T R C w a n c rs l q w'' :=
  h.fr (fr_below hb) (h.2.2.2.1.below hb h.2.2.2.1.lt)
theorem TInv.alloc (h : TInv B g T R C w a n c rs l q w') (o : Obj) : TInv B g T R C w a n c rs l q (w'.alloc o) := h.below ((Below.refl _ _).alloc (Nat.le_refl _) o)
theorem TInv.row (h : TInv B g T R C w a n c rs l q w') : RowAt w' T #[.int .i64 R, .int .i64 C, .slice a n c] 37 := h.1
theorem TInv.rd (h : TInv B g T R C w a n c rs l q w') : Rd B w' g q := h.2.2.2.1
theorem TInv.own (h : TInv B g T R C w a n c rs l q w') : OwnT w' w.heap.size (.slice a n c) rs l := h.2.1
/-- A row besides, above all: written anew it leaves all as it is. -/
theorem TInv.setRow (h : TInv B g T R C w a n c rs l q w') (X : Nat) {old : Array Value} (hX : RowAt w' X old 37) (hT : T < X) (cs : Array Value) : TInv B g T R C w a n c rs l q (w'.setRow X cs) := by
  obtain ⟨h1, h2, h3, h4, h5, h6, h7, h8⟩ := h
  refine ⟨h1.setRowOther X cs (by omega), ⟨own_row h2.1 X cs (rowAt_ne hX h2.1 (by decide)), ?_⟩, h3.setRowOther X cs (by omega), h4.below (below_row (Below.refl X w') (Nat.le_refl _) cs) (by omega), h5.below (below_row (Below.refl _ w') (by omega) cs), ?_, h7, h8⟩
  · exact ⟨h2.2.1, fun k hk => by
      obtain ⟨e1, e2, e3, e4, e5⟩ := h2.2.2.1 k hk
      exact ⟨e1, e2, e3, e4, own_row e5 X cs (rowAt_ne hX e5 (by decide))⟩, h2.2.2.2⟩
  · have := below_row (Below.refl X w') (Nat.le_refl _) cs
    have := this.size
    omega
theorem OwnT.setRowT {B X : Nat} {v : Value} {rs : List Rw} {l : List Cl} {old : Array Value} {w' : World} (h : OwnT w' B v rs l) (hX : RowAt w' X old 37) (cs : Array Value) : OwnT (w'.setRow X cs) B v rs l :=
  ⟨own_row h.1 X cs (rowAt_ne hX h.1 (by decide)), h.2.1, fun k hk => by
      obtain ⟨e1, e2, e3, e4, e5⟩ := h.2.2.1 k hk
      exact ⟨e1, e2, e3, e4, own_row e5 X cs (rowAt_ne hX e5 (by decide))⟩, h.2.2.2⟩
end Go.Proofs.Ytcecmkideoodiaa
namespace Go.Proofs.Ytcecmkideoodiaa
open Go.RowKit

/-- Take number i first, what it yields told by a slot's number. -/
theorem take_at {P : Program} {ops : Array Oper} {Q : Exit → Act → World → Prop} {md : Region.Mode} {S : World → Prop} (i d : Nat) (v : Value) {oi : Oper} {fuel : Nat} {listed : Array Bool} {a : Act} {w : World} (hi : ops[i]? = some oi) (hd : oi.dst = some d)
    (hs : Region.noSelect ops = true) (hf : Region.free md ops listed i = true) (hr : (Region.ready md ops listed).contains i = true)
    (hQ : ∀ c a w, Q (.panic c) (a.put (some d) v) w → Q (.panic c) a w) (hy : YieldsIf P ops S oi v a) (hS : S w)
    (h : wpAnyH P md ops Q S fuel (listed.setIfInBounds i true) (a.put (some d) v) w) : wpAnyH P md ops Q S (fuel + 1) listed a w := by
  rw [← hd] at hQ h
  exact wpAnyH_take hi hs hf hr hQ hy hS h
end Go.Proofs.Ytcecmkideoodiaa
