import Derived.Test.YtccoeachemnbnaaGreatDoorBA1
import Derived.Deep.RegionHeld3
import Derived.Deep.LoopGhost
import Derived.Deep.Cut
import Derived.Laws.ResultCell
import Derived.Stop.Asserts
import Derived.LaidEql
import Derived.Deep.AppendLies
namespace Go.Proofs.YtccoeachemnbnaaGreatDoor
open Go.RowKit

/-- All squares of a rectangle have the number v. -/
def giveF (f : Nat → Nat) (r c d h v : Nat) : Nat → Nat := fun k => if r ≤ k / 5 ∧ k / 5 < r + d ∧ c ≤ k % 5 ∧ k % 5 < c + h then v else f k
def giveI (f : Nat → Nat) (r c h v i j : Nat) : Nat → Nat := fun k => if (r ≤ k / 5 ∧ k / 5 < r + i ∧ c ≤ k % 5 ∧ k % 5 < c + h) ∨ (k / 5 = r + i ∧ c ≤ k % 5 ∧ k % 5 < c + j) then v else f k
theorem giveI_zero (f : Nat → Nat) (r c h v : Nat) : giveI f r c h v 0 0 = f := by
  funext k
  unfold giveI
  rw [if_neg (by omega)]
theorem giveI_end (f : Nat → Nat) (r c d h v : Nat) : giveI f r c h v d 0 = giveF f r c d h v := by
  funext k
  unfold giveI giveF
  by_cases hh : r ≤ k / 5 ∧ k / 5 < r + d ∧ c ≤ k % 5 ∧ k % 5 < c + h
  · rw [if_pos (by omega), if_pos hh]
  · rw [if_neg (by omega), if_neg hh]
theorem giveI_row (f : Nat → Nat) (r c h v i : Nat) : giveI f r c h v i h = giveI f r c h v (i + 1) 0 := by
  funext k
  unfold giveI
  by_cases hh : (r ≤ k / 5 ∧ k / 5 < r + i ∧ c ≤ k % 5 ∧ k % 5 < c + h) ∨ (k / 5 = r + i ∧ c ≤ k % 5 ∧ k % 5 < c + h)
  · rw [if_pos hh, if_pos (by omega)]
  · rw [if_neg hh, if_neg (by omega)]
theorem giveI_upd (f : Nat → Nat) (r c h v i j : Nat) (hj : c + j < 5) : upd (giveI f r c h v i j) ((r + i) * 5 + (c + j)) v = giveI f r c h v i (j + 1) := by
  funext k
  unfold upd giveI
  by_cases h0 : k = (r + i) * 5 + (c + j)
  · rw [if_pos h0, if_pos (by omega)]
  · rw [if_neg h0]
    by_cases hh : (r ≤ k / 5 ∧ k / 5 < r + i ∧ c ≤ k % 5 ∧ k % 5 < c + h) ∨ (k / 5 = r + i ∧ c ≤ k % 5 ∧ k % 5 < c + j)
    · rw [if_pos hh, if_pos (by omega)]
    · rw [if_neg hh, if_neg (by omega)]
theorem grid_zero : gridA 0 0 0 (fun _ => 0) (fun _ => sl0) = #[.int .i64 0, .int .i64 0, .int .i64 0, .int .i64 0, .int .i64 0, .int .i64 0, .int .i64 0, .int .i64 0, .int .i64 0, .int .i64 0, .int .i64 0, .int .i64 0, .int .i64 0, .int .i64 0, .int .i64 0, .int .i64 0, .int .i64 0, .int .i64 0, .int .i64 0, .int .i64 0, .int .i64 0, .int .i64 0, .int .i64 0, .int .i64 0, .int .i64 0, .int .i64 0, .int .i64 0, .int .i64 0, .slice none 0 0, .slice none 0 0, .slice none 0 0, .slice none 0 0, .slice none 0 0, .slice none 0 0, .slice none 0 0, .slice none 0 0, .slice none 0 0, .slice none 0 0, .slice none 0 0, .slice none 0 0, .slice none 0 0, .slice none 0 0, .slice none 0 0, .slice none 0 0, .slice none 0 0, .slice none 0 0, .slice none 0 0, .slice none 0 0, .slice none 0 0, .slice none 0 0, .slice none 0 0, .slice none 0 0, .slice none 0 0, .slice none 0 0] := rfl

set_option maxRecDepth 100000 in
set_option maxHeartbeats 4000000 in
theorem give_any (R C : Int) (n : Nat) (f : Nat → Nat) (t : Nat → Sl) (r c d h v : Nat) (w : World) (hr : r + d ≤ 5) (hc : c + h ≤ 5) :
    Calls Tryz.prog 137 #[.agg (gridA R C n f t), .agg #[.int .i64 r, .int .i64 c, .int .i64 d, .int .i64 h], .int .i64 v] w fun z w' => z = .returned (.agg (gridA R C n (giveF f r c d h v) t)) ∧ Below w.heap.size w w' := by
  go_enter Tryz.func137, Tryz.ntmps137
  go_wp2_with fail
  rw [← grid_zero]
  have B0 : Below w.heap.size w (((w.alloc (.cells (gridA R C n f t) 195)).alloc (.cells #[.int .i64 r, .int .i64 c, .int .i64 d, .int .i64 h] 199)).alloc (.cells (gridA 0 0 0 (fun _ => 0) (fun _ => sl0)) 195)) := (((Below.refl _ _).alloc (Nat.le_refl _) _).alloc (by simp) _).alloc (by simp; omega) _
  have G0 : GridAt (((w.alloc (.cells (gridA R C n f t) 195)).alloc (.cells #[.int .i64 r, .int .i64 c, .int .i64 d, .int .i64 h] 199)).alloc (.cells (gridA 0 0 0 (fun _ => 0) (fun _ => sl0)) 195)) w.heap.size R C n f t := ((gridAt_new w R C n f t).alloc _).alloc _
  have G1 : GridAt (((w.alloc (.cells (gridA R C n f t) 195)).alloc (.cells #[.int .i64 r, .int .i64 c, .int .i64 d, .int .i64 h] 199)).alloc (.cells (gridA 0 0 0 (fun _ => 0) (fun _ => sl0)) 195)) (w.heap.size + 1 + 1) 0 0 0 (fun _ => 0) (fun _ => sl0) := by
    have := gridAt_new ((w.alloc (.cells (gridA R C n f t) 195)).alloc (.cells #[.int .i64 r, .int .i64 c, .int .i64 d, .int .i64 h] 199)) 0 0 0 (fun _ => 0) (fun _ => sl0)
    simpa using this
  have G2 : RectAt (((w.alloc (.cells (gridA R C n f t) 195)).alloc (.cells #[.int .i64 r, .int .i64 c, .int .i64 d, .int .i64 h] 199)).alloc (.cells (gridA 0 0 0 (fun _ => 0) (fun _ => sl0)) 195)) (w.heap.size + 1) r c d h := by
    have := (rowAt_new (w.alloc (.cells (gridA R C n f t) 195)) #[.int .i64 r, .int .i64 c, .int .i64 d, .int .i64 h] 199).alloc (.cells (gridA 0 0 0 (fun _ => 0) (fun _ => sl0)) 195)
    simpa [RectAt] using this
  generalize (((w.alloc (.cells (gridA R C n f t) 195)).alloc (.cells #[.int .i64 r, .int .i64 c, .int .i64 d, .int .i64 h] 199)).alloc (.cells (gridA 0 0 0 (fun _ => 0) (fun _ => sl0)) 195)) = v0 at B0 G0 G1 G2 ⊢
  go_loopw [11] (fun i wr => ∃ k : Nat, k ≤ d ∧ i = .int .i64 k ∧ GridAt wr w.heap.size R C n (giveI f r c h v k 0) t ∧ GridAt wr (w.heap.size + 1 + 1) 0 0 0 (fun _ => 0) (fun _ => sl0) ∧ RectAt wr (w.heap.size + 1) r c d h ∧ Below w.heap.size w wr) (fun i _ => d - (intOf i).toNat)
  case atStart => exact ⟨0, Nat.zero_le _, rfl, by rw [giveI_zero]; exact G0, G1, G2, B0⟩
  case round =>
    clear B0 G0 G1 G2
    obtain ⟨i, hi, rfl, hg, hz, hq, hb⟩ := hrel
    have HG : Hid (GridAt wr w.heap.size R C n (giveI f r c h v i 0) t) := hg
    have HZ : Hid (GridAt wr (w.heap.size + 1 + 1) 0 0 0 (fun _ => 0) (fun _ => sl0)) := hz
    have HQ : Hid (RectAt wr (w.heap.size + 1) r c d h) := hq
    have HB : Hid (Below w.heap.size w wr) := hb
    have k3 := hq.c3
    clear hg hz hb hq
    by_cases hlt : i < d
    · go_wp2_with fail
      go_loopw [16] (fun jj wq => ∃ j : Nat, j ≤ h ∧ jj = .int .i64 j ∧ GridAt wq w.heap.size R C n (giveI f r c h v i j) t ∧ GridAt wq (w.heap.size + 1 + 1) 0 0 0 (fun _ => 0) (fun _ => sl0) ∧ RectAt wq (w.heap.size + 1) r c d h ∧ Below w.heap.size w wq) (fun jj _ => h - (intOf jj).toNat)
      case atStart => exact ⟨0, Nat.zero_le _, rfl, HG.out, HZ.out, HQ.out, HB.out⟩
      case round =>
        clear HG HZ k3 HB HQ
        obtain ⟨j, hj, rfl, hg, hz, hq, hb⟩ := hrel
        have HG : Hid (GridAt wr w.heap.size R C n (giveI f r c h v i j) t) := hg
        have HZ : Hid (GridAt wr (w.heap.size + 1 + 1) 0 0 0 (fun _ => 0) (fun _ => sl0)) := hz
        have HQ : Hid (RectAt wr (w.heap.size + 1) r c d h) := hq
        have HB : Hid (Below w.heap.size w wr) := hb
        by_cases hlj : j < h
        · have q := hg.num ((r + i) * 5 + (c + j)) (by omega)
          have fz := hg.frozen (3 + ((r + i) * 5 + (c + j)))
          have k0 := hq.c0
          have k1 := hq.c1
          rw [← Nat.add_assoc] at q fz
          have b0 : (r : Int) + i < 5 := by omega
          have b1 : (c : Int) + j < 5 := by omega
          clear hg hz hb hq
          go_wp2_with fail
          go_region
          all_goals go_wp2_with fail
          all_goals go_roundw
          case rel =>
            have sN := HG.out.setNum ((r + i) * 5 + (c + j)) v (by omega)
            rw [giveI_upd f r c h v i j (by omega), ← Nat.add_assoc] at sN
            exact ⟨j + 1, by omega, by go_num, sN, HZ.out.other _ _ (by simp <;> omega), RowAt.other HQ.out _ _ (by simp), HB.out.drew.setCell (Nat.le_refl _) _⟩
          case measure => simp [intOf]; omega
        · clear hg hz hb hq
          go_wp2_with fail
          go_roundw
          case rel =>
            have hh := HG.out
            rw [show j = h from by omega, giveI_row] at hh
            exact ⟨i + 1, by omega, by go_num, hh, HZ.out, HQ.out, HB.out⟩
          case measure => simp [intOf]; omega
    · have hid : i = d := by omega
      subst hid
      go_wp2_with (first | (refine wpList_load_row rfl 195 (.tmp 3) rfl w.heap.size rfl 195 (gridA R C n (giveI f r c h v i 0) t) (0, 0) _ HG.out Tryz.underlying195 rfl (grid_infoA _ _ _ _ _) ?_) | (refine wpList_store_row rfl 195 (.tmp 6) (.tmp 33) rfl (w.heap.size + 1 + 1) (gridA R C n (giveI f r c h v i 0) t) rfl rfl 195 _ HZ.out (grid_infoA _ _ _ _ _) (by rw [gridA_size, gridA_size]) (gridA_one _ _ _ _ _) ?_))
      have hz := RowAt.setRow HZ.out (gridA R C n (giveI f r c h v i 0) t)
      refine bodyPost_ret (v := .agg (gridA R C n (giveI f r c h v i 0) t)) (results_cell_row (p := 6) (ty := 195) rfl _ _ (w.heap.size + 1 + 1) 195 _ _ _ rfl hz Tryz.underlying195 rfl (grid_infoA _ _ _ _ _)) rfl ⟨by rw [giveI_end], ?_⟩
      exact below_row HB.out (by omega) _
end Go.Proofs.YtccoeachemnbnaaGreatDoor
namespace Go.Proofs.YtccoeachemnbnaaGreatDoor
open Go.RowKit

theorem give_is {R C : Int} {n : Nat} {f : Nat → Nat} {t : Nat → Sl} {r c d h v : Nat} {w : World} {G : Array Value} (hG : gridA R C n f t = G) (hr : r + d ≤ 5) (hc : c + h ≤ 5) :
    Calls Tryz.prog 137 #[.agg G, .agg #[.int .i64 r, .int .i64 c, .int .i64 d, .int .i64 h], .int .i64 v] w fun z w' => z = .returned (.agg (gridA R C n (giveF f r c d h v) t)) ∧ Below w.heap.size w w' := hG ▸ give_any R C n f t r c d h v w hr hc

set_option maxRecDepth 100000 in
set_option maxHeartbeats 4000000 in
theorem lay_any (R C : Int) (n : Nat) (f : Nat → Nat) (t : Nat → Sl) (r c d h : Nat) (s : Sl) (w : World) (hr : r + d ≤ 5) (hc : c + h ≤ 5) (hn : n < 25) :
    Calls Tryz.prog 133 #[.agg (gridA R C n f t), .agg #[.int .i64 r, .int .i64 c, .int .i64 d, .int .i64 h], slV s] w fun z w' => z = .returned (.agg (gridA R C (n + 1) (giveF f r c d h (n + 1)) (updS t (n + 1) s))) ∧ Below w.heap.size w w' := by
  obtain ⟨sa, sn, sc⟩ := s
  unfold slV
  go_enter Tryz.func133, Tryz.ntmps133
  go_upto_region 1 with fail
  rw [← grid_zero]
  have B0 : Below w.heap.size w (((w.alloc (.cells (gridA R C n f t) 195)).alloc (.cells #[.int .i64 r, .int .i64 c, .int .i64 d, .int .i64 h] 199)).alloc (.cells (gridA 0 0 0 (fun _ => 0) (fun _ => sl0)) 195)) := (((Below.refl _ _).alloc (Nat.le_refl _) _).alloc (by simp) _).alloc (by simp; omega) _
  have G0 : GridAt (((w.alloc (.cells (gridA R C n f t) 195)).alloc (.cells #[.int .i64 r, .int .i64 c, .int .i64 d, .int .i64 h] 199)).alloc (.cells (gridA 0 0 0 (fun _ => 0) (fun _ => sl0)) 195)) w.heap.size R C n f t := ((gridAt_new w R C n f t).alloc _).alloc _
  have G1 : GridAt (((w.alloc (.cells (gridA R C n f t) 195)).alloc (.cells #[.int .i64 r, .int .i64 c, .int .i64 d, .int .i64 h] 199)).alloc (.cells (gridA 0 0 0 (fun _ => 0) (fun _ => sl0)) 195)) (w.heap.size + 1 + 1) 0 0 0 (fun _ => 0) (fun _ => sl0) := by
    have := gridAt_new ((w.alloc (.cells (gridA R C n f t) 195)).alloc (.cells #[.int .i64 r, .int .i64 c, .int .i64 d, .int .i64 h] 199)) 0 0 0 (fun _ => 0) (fun _ => sl0)
    simpa using this
  have G2 : RectAt (((w.alloc (.cells (gridA R C n f t) 195)).alloc (.cells #[.int .i64 r, .int .i64 c, .int .i64 d, .int .i64 h] 199)).alloc (.cells (gridA 0 0 0 (fun _ => 0) (fun _ => sl0)) 195)) (w.heap.size + 1) r c d h := by
    have := (rowAt_new (w.alloc (.cells (gridA R C n f t) 195)) #[.int .i64 r, .int .i64 c, .int .i64 d, .int .i64 h] 199).alloc (.cells (gridA 0 0 0 (fun _ => 0) (fun _ => sl0)) 195)
    simpa [RectAt] using this
  generalize (((w.alloc (.cells (gridA R C n f t) 195)).alloc (.cells #[.int .i64 r, .int .i64 c, .int .i64 d, .int .i64 h] 199)).alloc (.cells (gridA 0 0 0 (fun _ => 0) (fun _ => sl0)) 195)) = w1 at B0 G0 G1 G2 ⊢
  have p0 := G0.cells
  have p1 := G0.frozen 2
  go_upto_region 2 with fail
  rw [show (n : Int) + 1 = ((n + 1 : Nat) : Int) from by omega]
  have X0 := G0.setCells (n + 1)
  have X1 := G1.other ⟨w.heap.size, 2, none⟩ (.int .i64 ((n + 1 : Nat) : Int)) (by simp <;> omega)
  have X2 : RectAt _ _ _ _ _ _ := RowAt.other G2 ⟨w.heap.size, 2, none⟩ (.int .i64 ((n + 1 : Nat) : Int)) (by simp)
  have X3 := B0.setCell (p := ⟨w.heap.size, 2, none⟩) (Nat.le_refl _) (.int .i64 ((n + 1 : Nat) : Int))
  clear p0 p1 G0 G1 G2 B0
  generalize (w1.setCell ⟨w.heap.size, 2, none⟩ (.int .i64 ((n + 1 : Nat) : Int))) = w2 at X0 X1 X2 X3 ⊢
  obtain ⟨m, hm⟩ : ∃ m, n + 1 = m := ⟨_, rfl⟩
  rw [hm] at X0 ⊢
  have p0 := X0.cells
  have p1 := X0.txt m (by omega)
  have p2 := X0.frozen (28 + m)
  have p3 : (m : Int) < 26 := by omega
  go_upto_region 3 with fail
  have Y0 := X0.setTxt m (sa, sn, sc) (by omega)
  have Y1 := X1.other ⟨w.heap.size, 28 + m, none⟩ (slV (sa, sn, sc)) (by simp <;> omega)
  have Y2 : RectAt _ _ _ _ _ _ := RowAt.other X2 ⟨w.heap.size, 28 + m, none⟩ (slV (sa, sn, sc)) (by simp)
  have Y3 := X3.setCell (p := ⟨w.heap.size, 28 + m, none⟩) (Nat.le_refl _) (slV (sa, sn, sc))
  clear p0 p1 p2 X0 X1 X2 X3
  generalize hgen : (w2.setCell ⟨w.heap.size, 28 + m, none⟩ (slV (sa, sn, sc))) = w3 at Y0 Y1 Y2 Y3
  rw [show w2.setCell ⟨w.heap.size, 28 + m, none⟩ (Value.slice sa sn sc) = w3 from hgen]
  clear hgen
  have q0 := Y0.cells
  have e0 := Y2.c0
  have e1 := Y2.c1
  have e2 := Y2.c2
  have e3 := Y2.c3
  have HG : Hid (GridAt w3 w.heap.size R C m f (updS t m (sa, sn, sc))) := Y0
  have HZ : Hid (GridAt w3 (w.heap.size + 1 + 1) 0 0 0 (fun _ => 0) (fun _ => sl0)) := Y1
  have HB : Hid (Below w.heap.size w w3) := Y3
  have hlt := Y1.lt
  clear Y0 Y1 Y2 Y3
  go_wp2_with (first | (refine wpList_load_row rfl 195 (.tmp 3) rfl w.heap.size rfl 195 (gridA R C m f (updS t m (sa, sn, sc))) (0, 0) _ HG.out Tryz.underlying195 rfl (grid_infoA _ _ _ _ _) ?_) | (go_at_call 137; refine (give_any R C m f (updS t m (sa, sn, sc)) r c d h m _ hr hc).mono ?_; rintro e w4 ⟨rfl, hb4⟩) | (refine wpList_store_row rfl 195 (.tmp 6) (.tmp 20) rfl (w.heap.size + 1 + 1) (gridA R C m (giveF f r c d h m) (updS t m (sa, sn, sc))) rfl rfl 195 _ (HZ.out.below hb4 hlt) (grid_infoA _ _ _ _ _) (by rw [gridA_size, gridA_size]) (gridA_one _ _ _ _ _) ?_))
  have hz := RowAt.setRow (HZ.out.below hb4 hlt) (gridA R C m (giveF f r c d h m) (updS t m (sa, sn, sc)))
  refine bodyPost_ret (v := .agg (gridA R C m (giveF f r c d h m) (updS t m (sa, sn, sc)))) (results_cell_row (p := 6) (ty := 195) rfl _ _ (w.heap.size + 1 + 1) 195 _ _ _ rfl hz Tryz.underlying195 rfl (grid_infoA _ _ _ _ _)) rfl ⟨by rw [hm], ?_⟩
  exact below_row (HB.out.trans (hb4.mono (by omega))) (by omega) _
end Go.Proofs.YtccoeachemnbnaaGreatDoor
namespace Go.Proofs.YtccoeachemnbnaaGreatDoor
open Go.RowKit

/-- The squares' numbers when k cells are laid. -/
def numF (l : List Cl) : Nat → Nat → Nat
  | 0 => fun _ => 0
  | k + 1 => giveF (numF l k) (l.getD k cl0).1.toNat (l.getD k cl0).2.1.toNat (l.getD k cl0).2.2.1.toNat (l.getD k cl0).2.2.2.1.toNat (k + 1)
def wiB (R C : Int) (x : Cl) : Bool := withB x.1 x.2.1 x.2.2.1 x.2.2.2.1 R C
def frB (f : Nat → Nat) (x : Cl) : Bool := freeB f x.1.toNat x.2.1.toNat x.2.2.1.toNat x.2.2.2.1.toNat
/-- The cell k may be laid. -/
def stepB (R C : Int) (l : List Cl) (k : Nat) : Bool := wiB R C (l.getD k cl0) && frB (numF l k) (l.getD k cl0) && textB (l.getD k cl0).2.2.2.2
def gridP (R C : Int) (l : List Cl) : Prop := (1 ≤ R ∧ R ≤ 5) ∧ (1 ≤ C ∧ C ≤ 5) ∧ (∀ k, k < l.length → stepB R C l k = true) ∧ Tiles R.toNat C.toNat (numF l l.length)

theorem numF_le (l : List Cl) : ∀ k s, numF l k s ≤ k
  | 0, s => Nat.le_refl _
  | k + 1, s => by
    show giveF _ _ _ _ _ _ s ≤ _
    unfold giveF
    split
    · exact Nat.le_refl _
    · exact Nat.le_succ_of_le (numF_le l k s)
theorem wiB_of {R C : Int} {x : Cl} (h : wiB R C x = true) : (0 ≤ x.1 ∧ 0 ≤ x.2.1 ∧ 1 ≤ x.2.2.1 ∧ 1 ≤ x.2.2.2.1) ∧ x.1 + x.2.2.1 ≤ R ∧ x.2.1 + x.2.2.2.1 ≤ C := by
  simp only [wiB, withB, spanB, Bool.and_eq_true, decide_eq_true_eq] at h
  omega
theorem stepB_of {R C : Int} {l : List Cl} {k : Nat} (h : stepB R C l k = true) : wiB R C (l.getD k cl0) = true ∧ frB (numF l k) (l.getD k cl0) = true ∧ textB (l.getD k cl0).2.2.2.2 = true := by
  simp only [stepB, Bool.and_eq_true] at h
  exact ⟨h.1.1, h.1.2, h.2⟩
theorem stepB_mk {R C : Int} {l : List Cl} {k r c d g : Nat} {tx : List Sg} (hx : ((r : Int), (c : Int), (d : Int), (g : Int), tx) = l.getD k cl0) (q0 : withB r c d g R C = true) (q1 : freeB (numF l k) r c d g = true) (q2 : textB tx = true) : stepB R C l k = true := by
  simp only [stepB, wiB, frB, ← hx, Int.toNat_natCast, q0, q1, q2, Bool.and_self]
theorem stepB_0 {R C : Int} {l : List Cl} {k : Nat} {r c d g : Int} {tx : List Sg} (hx : (r, c, d, g, tx) = l.getD k cl0) (q0 : withB r c d g R C = false) : stepB R C l k = false := by
  simp only [stepB, wiB, ← hx, q0, Bool.false_and]
theorem stepB_1 {R C : Int} {l : List Cl} {k r c d g : Nat} {tx : List Sg} (hx : ((r : Int), (c : Int), (d : Int), (g : Int), tx) = l.getD k cl0) (q1 : freeB (numF l k) r c d g = false) : stepB R C l k = false := by
  simp only [stepB, frB, ← hx, Int.toNat_natCast, q1, Bool.false_and, Bool.and_false]
theorem stepB_2 {R C : Int} {l : List Cl} {k : Nat} {r c d g : Int} {tx : List Sg} (hx : (r, c, d, g, tx) = l.getD k cl0) (q2 : textB tx = false) : stepB R C l k = false := by
  simp only [stepB, ← hx, q2, Bool.and_false]
theorem inB_nat {x : Cl} {a b : Nat} (h : 0 ≤ x.1 ∧ 0 ≤ x.2.1 ∧ 1 ≤ x.2.2.1 ∧ 1 ≤ x.2.2.2.1) : inB x a b = true ↔ inR x.1.toNat x.2.1.toNat x.2.2.1.toNat x.2.2.2.1.toNat a b := by
  simp only [inB, decide_eq_true_eq, inR]
  omega
/-- What the numbers say. -/
theorem numF_pos (l : List Cl) (R C : Int) : ∀ K, (∀ i, i < K → wiB R C (l.getD i cl0) = true) → ∀ a b m, b < 5 → numF l K (a * 5 + b) = m + 1 → m < K ∧ inB (l.getD m cl0) a b = true
  | 0, _, a, b, m, _, h => by simp [numF] at h
  | K + 1, hw, a, b, m, hb, h => by
    have h' : giveF (numF l K) (l.getD K cl0).1.toNat (l.getD K cl0).2.1.toNat (l.getD K cl0).2.2.1.toNat (l.getD K cl0).2.2.2.1.toNat (K + 1) (a * 5 + b) = m + 1 := h
    unfold giveF at h'
    rw [show (a * 5 + b) / 5 = a from by omega, show (a * 5 + b) % 5 = b from by omega] at h'
    split at h'
    · rename_i hh
      obtain rfl : K = m := by omega
      exact ⟨by omega, (inB_nat (wiB_of (hw K (by omega))).1).2 hh⟩
    · obtain ⟨h1, h2⟩ := numF_pos l R C K (fun i hi => hw i (by omega)) a b m hb h'
      exact ⟨by omega, h2⟩
theorem numF_zero (l : List Cl) (R C : Int) : ∀ K, (∀ i, i < K → wiB R C (l.getD i cl0) = true) → ∀ a b, b < 5 → numF l K (a * 5 + b) = 0 → ∀ i, i < K → inB (l.getD i cl0) a b = false
  | 0, _, a, b, _, h => by intro i hi; omega
  | K + 1, hw, a, b, hb, h => by
    have h' : giveF (numF l K) (l.getD K cl0).1.toNat (l.getD K cl0).2.1.toNat (l.getD K cl0).2.2.1.toNat (l.getD K cl0).2.2.2.1.toNat (K + 1) (a * 5 + b) = 0 := h
    unfold giveF at h'
    rw [show (a * 5 + b) / 5 = a from by omega, show (a * 5 + b) % 5 = b from by omega] at h'
    split at h'
    · omega
    · rename_i hh
      intro i hi
      by_cases hiK : i = K
      · subst hiK
        rw [← Bool.not_eq_true, inB_nat (wiB_of (hw i (by omega))).1]
        exact hh
      · exact numF_zero l R C K (fun i hi => hw i (by omega)) a b hb h' i (by omega)
/-- No square is of two cells. -/
theorem step_apart {R C : Int} {l : List Cl} {K : Nat} (hC : C ≤ 5) (hs : ∀ i, i < K → stepB R C l i = true) {i k : Nat} (hik : i < k) (hk : k < K) (a b : Nat) (h1 : inB (l.getD i cl0) a b = true) (h2 : inB (l.getD k cl0) a b = true) : False := by
  obtain ⟨w1, w2, _⟩ := stepB_of (hs k hk)
  obtain ⟨w3, w4, w5⟩ := wiB_of w1
  have hz := (freeB_iff.1 w2) a b ((inB_nat w3).1 h2)
  have hb : b < 5 := by
    have := (inB_nat w3).1 h2
    unfold inR at this
    omega
  have := numF_zero l R C k (fun j hj => (stepB_of (hs j (by omega))).1) a b hb hz i hik
  rw [this] at h1
  exact absurd h1 (by simp)
/-- A square that is of a cell has its number. -/
theorem numF_of {R C : Int} {l : List Cl} {K : Nat} (hC : C ≤ 5) (hs : ∀ i, i < K → stepB R C l i = true) {i : Nat} (hi : i < K) (a b : Nat) (h : inB (l.getD i cl0) a b = true) : numF l K (a * 5 + b) = i + 1 := by
  have hw : ∀ i, i < K → wiB R C (l.getD i cl0) = true := fun j hj => (stepB_of (hs j hj)).1
  have hb : b < 5 := by
    have := (inB_nat (wiB_of (hw i hi)).1).1 h
    have := (wiB_of (hw i hi))
    unfold inR at *
    omega
  cases hm : numF l K (a * 5 + b) with
  | zero =>
    have := numF_zero l R C K hw a b hb hm i hi
    rw [this] at h
    exact absurd h (by simp)
  | succ m =>
    obtain ⟨h1, h2⟩ := numF_pos l R C K hw a b m hb hm
    rcases Nat.lt_trichotomy m i with h3 | h3 | h3
    · exact (step_apart hC hs h3 hi a b h2 h).elim
    · rw [h3]
    · exact (step_apart hC hs h3 h1 a b h h2).elim
theorem inB_start {R C : Int} {x : Cl} (h : wiB R C x = true) : inB x (x.1.toNat : Nat) (x.2.1.toNat : Nat) = true := by
  have := wiB_of h
  simp only [inB, decide_eq_true_eq]
  omega
/-- Just so many numbers as squares. -/
theorem pigeon (f : Nat → Nat) : ∀ (N : Nat) (L : List Nat), L.Nodup → (∀ x ∈ L, ∃ s, s < N ∧ f s = x) → L.length ≤ N
  | 0, L, _, h => by
    cases L with
    | nil => exact Nat.le_refl _
    | cons x L =>
      obtain ⟨s, hs, _⟩ := h x (by simp)
      omega
  | N + 1, L, hn, h => by
    have := pigeon f N (L.erase (f N)) (hn.erase _) (fun x hx => by
      have hx1 := List.mem_of_mem_erase hx
      obtain ⟨s, hs, e⟩ := h x hx1
      refine ⟨s, ?_, e⟩
      rcases Nat.lt_or_ge s N with h1 | h1
      · exact h1
      · obtain rfl : s = N := by omega
        rw [← e] at hx
        exact absurd hx (hn.not_mem_erase))
    rw [List.length_erase] at this
    split at this <;> omega
theorem step_le {R C : Int} {l : List Cl} {K : Nat} (hR : R ≤ 5) (hC : C ≤ 5) (hs : ∀ i, i < K → stepB R C l i = true) : K ≤ 25 := by
  have := pigeon (fun s => numF l K s) 25 ((List.range K).map (· + 1)) (by
    rw [List.nodup_iff_pairwise_ne, List.pairwise_map]
    exact List.nodup_range.imp (fun h => by omega)) (by
    intro x hx
    obtain ⟨i, hi, rfl⟩ := List.mem_map.1 hx
    have hi' : i < K := by simpa using hi
    have w := (stepB_of (hs i hi')).1
    have hh := wiB_of w
    exact ⟨(l.getD i cl0).1.toNat * 5 + (l.getD i cl0).2.1.toNat, by omega, numF_of hC hs hi' _ _ (inB_start w)⟩)
  simpa using this
end Go.Proofs.YtccoeachemnbnaaGreatDoor
namespace Go.Proofs.YtccoeachemnbnaaGreatDoor
open Go.RowKit

theorem countP_two {α : Type} (p : α → Bool) (l : List α) (i j : Nat) (hij : i < j) (hj : j < l.length) (h1 : p (l[i]'(by omega)) = true) (h2 : p l[j] = true) : 2 ≤ l.countP p := by
  have e : l = l.take (i + 1) ++ l.drop (i + 1) := (List.take_append_drop _ _).symm
  rw [e, List.countP_append]
  have c1 : 0 < (l.take (i + 1)).countP p := List.countP_pos_iff.2 ⟨l[i], by
    rw [List.mem_take_iff_getElem]
    exact ⟨i, by omega, rfl⟩, h1⟩
  have c2 : 0 < (l.drop (i + 1)).countP p := List.countP_pos_iff.2 ⟨l[j], by
    rw [List.mem_drop_iff_getElem]
    exact ⟨j - (i + 1), by omega, by congr 1; omega⟩, h2⟩
  omega
theorem getD_get {l : List Cl} {k : Nat} (hk : k < l.length) : l.getD k cl0 = l[k] := by simp [List.getD, hk]
theorem countP_one {α : Type} (p : α → Bool) (l : List α) (k : Nat) (hk : k < l.length) (h : p l[k] = true) (hu : ∀ i (hi : i < l.length), p l[i] = true → i = k) : l.countP p = 1 := by
  have h1 : 0 < l.countP p := List.countP_pos_iff.2 ⟨l[k], List.getElem_mem hk, h⟩
  induction l generalizing k with
  | nil => simp at hk
  | cons x l ih =>
    cases k with
    | zero =>
      have hx : p x = true := h
      rw [List.countP_cons_of_pos hx]
      have : l.countP p = 0 := List.countP_eq_zero.2 (by
        intro y hy hpy
        obtain ⟨i, hi, rfl⟩ := List.getElem_of_mem hy
        have := hu (i + 1) (by simpa using hi) (by simpa using hpy)
        omega)
      omega
    | succ k =>
      have hx : ¬ p x = true := fun hx => by
        have := hu 0 (by simp) hx
        omega
      rw [List.countP_cons_of_neg hx]
      have hk' : k < l.length := by simpa using hk
      refine ih k hk' h (fun i hi hp => ?_) (List.countP_pos_iff.2 ⟨l[k], List.getElem_mem hk', h⟩)
      have := hu (i + 1) (by simpa using hi) (by simpa using hp)
      omega
theorem ahead_of {x y : Cl} (h : ahead x y = true) : x.1 < y.1 ∨ x.1 = y.1 ∧ x.2.1 < y.2.1 := of_decide_eq_true h
theorem ahead_far {R C : Int} {l : List Cl} (h : ∀ k, k < l.length → atB R C l k = true) : ∀ (k i : Nat), k < l.length → i < k → ahead (l.getD i cl0) (l.getD k cl0) = true
  | 0, i, _, hi => by omega
  | k + 1, i, hk, hi => by
    have h1 : ahead (l.getD k cl0) (l.getD (k + 1) cl0) = true := by
      have := h (k + 1) hk
      simp only [atB, Bool.and_eq_true, Bool.or_eq_true, decide_eq_true_eq] at this
      rcases this.2 with h2 | h2
      · omega
      · exact h2
    by_cases hik : i = k
    · subst hik
      exact h1
    · have h2 := ahead_of (ahead_far h k i (by omega) (by omega))
      have h3 := ahead_of h1
      exact decide_eq_true (by omega)

theorem okB_of_gridP {R C : Int} {l : List Cl} (h : gridP R C l) : okB R C l = true := by
  obtain ⟨hR, hC, hs, ht⟩ := h
  have hw : ∀ i, i < l.length → wiB R C (l.getD i cl0) = true := fun j hj => (stepB_of (hs j hj)).1
  have hform : formB R C l = true := by
    have hlen := step_le hR.2 hC.2 hs
    simp only [formB, Bool.and_eq_true, decide_eq_true_eq, List.all_eq_true, List.mem_range]
    refine ⟨⟨⟨hR, hC⟩, hlen⟩, ?_⟩
    intro k hk
    obtain ⟨w1, _, w3⟩ := stepB_of (hs k hk)
    have w4 := wiB_of w1
    simp only [atB, Bool.and_eq_true, Bool.or_eq_true, cellB, decide_eq_true_eq]
    refine ⟨⟨⟨⟨⟨by omega, by omega⟩, by omega, by omega⟩, by omega, by omega⟩, w3⟩, ?_⟩
    by_cases hk0 : k = 0
    · exact .inl hk0
    · right
      have e := numF_of hC.2 hs hk _ _ (inB_start w1)
      obtain ⟨_, t2⟩ := ht (l.getD k cl0).1.toNat (l.getD k cl0).2.1.toNat (by unfold vis; omega)
      obtain ⟨a, b, h3, h4⟩ := t2 k (by omega) (by omega)
      have hb : b < 5 := by unfold vis at h3; omega
      obtain ⟨_, h5⟩ := numF_pos l R C l.length hw a b (k - 1) hb (by omega)
      simp only [inB, decide_eq_true_eq] at h5
      refine decide_eq_true ?_
      unfold vis at h3
      omega
  simp only [okB, hform, Bool.true_and, List.all_eq_true, List.mem_range, colB, decide_eq_true_eq]
  intro a ha b hb
  obtain ⟨t1, _⟩ := ht a b (by unfold vis; omega)
  obtain ⟨h1, h2⟩ := numF_pos l R C l.length hw a b (numF l l.length (a * 5 + b) - 1) (by omega) (by omega)
  generalize numF l l.length (a * 5 + b) - 1 = m at h1 h2
  unfold cnt
  rw [getD_get h1] at h2
  refine countP_one _ l m h1 h2 ?_
  intro i hi hp
  rw [← getD_get hi] at hp
  rw [← getD_get h1] at h2
  rcases Nat.lt_trichotomy i m with h3 | h3 | h3
  · exact (step_apart hC.2 hs h3 h1 a b hp h2).elim
  · exact h3
  · exact (step_apart hC.2 hs h3 hi a b h2 hp).elim
theorem okB_cnt {R C : Int} {l : List Cl} (h : okB R C l = true) (a b : Nat) (ha : (a : Int) < R) (hb : (b : Int) < C) : cnt l a b = 1 := by
  simp only [okB, Bool.and_eq_true, List.all_eq_true, List.mem_range, colB, decide_eq_true_eq] at h
  exact h.2 a (by omega) b (by omega)
theorem okB_apart {R C : Int} {l : List Cl} (h : okB R C l = true) (a b : Nat) (ha : (a : Int) < R) (hb : (b : Int) < C) {i k : Nat} (hik : i < k) (hk : k < l.length) (h1 : inB (l.getD i cl0) a b = true) (h2 : inB (l.getD k cl0) a b = true) : False := by
  have := okB_cnt h a b ha hb
  rw [getD_get (by omega)] at h1
  rw [getD_get hk] at h2
  have c := countP_two (fun x => inB x a b) l i k hik hk h1 h2
  unfold cnt at this
  omega
theorem gridP_of_okB {R C : Int} {l : List Cl} (h : okB R C l = true) : gridP R C l := by
  have hf : formB R C l = true := by
    simp only [okB, Bool.and_eq_true] at h
    exact h.1
  obtain ⟨hR, hC, hlen, hat⟩ := formB_of hf
  have hw : ∀ i, i < l.length → wiB R C (l.getD i cl0) = true := by
    intro i hi
    have := cellB_of (atB_cell (hat i hi))
    simp only [wiB, withB, spanB, Bool.and_eq_true, decide_eq_true_eq]
    omega
  have hs : ∀ k, k < l.length → stepB R C l k = true := by
    intro k hk
    have w := hw k hk
    obtain ⟨w1, w2, w3⟩ := wiB_of w
    simp only [stepB, Bool.and_eq_true]
    refine ⟨⟨w, ?_⟩, (cellB_of (atB_cell (hat k hk))).2.2.2.2⟩
    refine freeB_iff.2 ?_
    intro a b hab
    have hb : b < 5 := by unfold inR at hab; omega
    have ha' : (a : Int) < R := by unfold inR at hab; omega
    have hb' : (b : Int) < C := by unfold inR at hab; omega
    cases hm : numF l k (a * 5 + b) with
    | zero => rfl
    | succ m =>
      obtain ⟨h1, h2⟩ := numF_pos l R C k (fun i hi => hw i (by omega)) a b m hb hm
      exact (okB_apart h a b ha' hb' h1 hk h2 ((inB_nat w1).2 hab)).elim
  refine ⟨hR, hC, hs, ?_⟩
  intro a b hv
  have ha' : (a : Int) < R := by unfold vis at hv; omega
  have hb' : (b : Int) < C := by unfold vis at hv; omega
  have hb : b < 5 := by omega
  constructor
  · have hc := okB_cnt h a b ha' hb'
    rcases Nat.eq_zero_or_pos (numF l l.length (a * 5 + b)) with h0 | h0
    · have hz := numF_zero l R C l.length hw a b hb h0
      have : cnt l a b = 0 := List.countP_eq_zero.2 (by
        intro x hx hp
        obtain ⟨i, hi, rfl⟩ := List.getElem_of_mem hx
        have := hz i hi
        rw [getD_get hi] at this
        rw [this] at hp
        exact absurd hp (by simp))
      omega
    · exact h0
  · intro k k1 k2
    obtain ⟨h1, h2⟩ := numF_pos l R C l.length hw a b (numF l l.length (a * 5 + b) - 1) hb (by omega)
    have hk : k - 1 < numF l l.length (a * 5 + b) - 1 := by omega
    generalize numF l l.length (a * 5 + b) - 1 = m at h1 h2 hk
    have h3 := ahead_of (ahead_far hat m (k - 1) h1 hk)
    have w := hw (k - 1) (by omega)
    have w' := wiB_of w
    refine ⟨(l.getD (k - 1) cl0).1.toNat, (l.getD (k - 1) cl0).2.1.toNat, ?_, ?_⟩
    · simp only [inB, decide_eq_true_eq] at h2
      unfold vis
      omega
    · rw [numF_of hC.2 hs (show k - 1 < l.length by omega) _ _ (inB_start w)]
      omega
theorem gridP_iff {R C : Int} {l : List Cl} : gridP R C l ↔ okB R C l = true := ⟨okB_of_gridP, gridP_of_okB⟩
end Go.Proofs.YtccoeachemnbnaaGreatDoor
namespace Go.Proofs.YtccoeachemnbnaaGreatDoor
open Go.RowKit

theorem built_0 : Tryz.prog.built 195 [] = some (gridA 0 0 0 (fun _ => 0) (fun _ => sl0)) := by kernel_rfl
set_option maxRecDepth 100000 in
theorem built_2 (R C : Int) : Tryz.prog.built 195 [(0, .int .i64 R), (1, .int .i64 C)] = some (gridA R C 0 (fun _ => 0) (fun _ => sl0)) := by rfl
theorem wpList_grid0 {ops : Array Oper} {rest : List Oper} {o : Oper} {a : Act} {w : World} {Q : Exit → Act → World → Prop} (hg : o.guard = none) (ho : o.op = .build 195 #[])
    (h : wpList Tryz.prog ops Q rest (a.put o.dst (.agg (gridA 0 0 0 (fun _ => 0) (fun _ => sl0)))) w) : wpList Tryz.prog ops Q (o :: rest) a w := by
  have e : ((#[] : Array (Nat × Operand)).map fun (i, x) => (i, a.eval x)).toList = [] := by simp
  exact wpList_build hg 195 _ ho (by rw [e, built_0]; rfl) (by rw [e, built_0]; exact h)
theorem wpList_grid2 {ops : Array Oper} {rest : List Oper} {o : Oper} {a : Act} {w : World} {Q : Exit → Act → World → Prop} (hg : o.guard = none) (x y : Operand) (ho : o.op = .build 195 #[(0, x), (1, y)]) (R C : Int) (hx : a.eval x = .int .i64 R) (hy : a.eval y = .int .i64 C)
    (h : wpList Tryz.prog ops Q rest (a.put o.dst (.agg (gridA R C 0 (fun _ => 0) (fun _ => sl0)))) w) : wpList Tryz.prog ops Q (o :: rest) a w := by
  have e : ((#[(0, x), (1, y)] : Array (Nat × Operand)).map fun (i, x) => (i, a.eval x)).toList = [(0, .int .i64 R), (1, .int .i64 C)] := by simp [hx, hy]
  exact wpList_build hg 195 _ ho (by rw [e, built_2]; rfl) (by rw [e, built_2]; exact h)
theorem run_gridOf {w : World} {g : Nat} {R C : Int} {n : Nat} {f : Nat → Nat} {t : Nat → Sl} (h : GridAt w g R C n f t) : (loadVar 195 ⟨g, 0, none⟩).run Tryz.prog w = .ok (.agg (gridA R C n f t)) w :=
  run_loadVar_row w g 195 195 (gridA R C n f t) (0, 0) _ h Tryz.underlying195 rfl (grid_infoA _ _ _ _ _)
theorem implTextOk_isG {a : Option Addr} {n cap : Nat} {l : List Sg} {w : World} {x : Bool} (h : Txt w a n cap l) (hx : textB l = x) :
    Calls Tryz.prog 62 #[.slice a n cap] w fun e w' => e = .returned (.bool x) ∧ Below w.heap.size w w' := hx ▸ implTextOk_any a n cap l w h

theorem okB_no {R C : Int} {l : List Cl} (h : ¬ gridP R C l) : okB R C l = false := by
  rw [← Bool.not_eq_true, ← gridP_iff]
  exact h
/-- What gridOf gives. -/
def GridRes (R C : Int) (l : List Cl) (x : Bool) (z : Ending) (w' : World) : Prop :=
  (x = false ∧ z = .returned (.tuple #[.agg (gridA 0 0 0 (fun _ => 0) (fun _ => sl0)), .bool false])) ∨
  (x = true ∧ ∃ t : Nat → Sl, z = .returned (.tuple #[.agg (gridA R C l.length (numF l l.length) t), .bool true]) ∧ ∀ i, i < l.length → Txt w' (t (i + 1)).1 (t (i + 1)).2.1 (t (i + 1)).2.2 (l.getD i cl0).2.2.2.2)

set_option maxRecDepth 100000 in
set_option maxHeartbeats 4000000 in
theorem gridOf_is {R C : Int} {a : Option Addr} {n cap : Nat} {l : List Cl} {w : World} {x : Bool} (hx : okB R C l = x) (h : Tab w a n cap l) :
    Calls Tryz.prog 128 #[.agg #[.int .i64 R, .int .i64 C, .slice a n cap]] w fun z w' => GridRes R C l x z w' ∧ Below w.heap.size w w' := by
  have HX : Hid (okB R C l = x) := hx
  have H : Hid (Tab w a n cap l) := h
  obtain ⟨rfl, hc, hm, hl⟩ := h
  clear hx hl
  unfold maxLen at hm
  go_enter Tryz.func128, Tryz.ntmps128
  go_upto_region 1 with fail
  rw [← grid_zero]
  have B0 : Below w.heap.size w ((w.alloc (.cells #[.int .i64 R, .int .i64 C, .slice a l.length cap] 54)).alloc (.cells (gridA 0 0 0 (fun _ => 0) (fun _ => sl0)) 195)) := (((Below.refl _ _).alloc (Nat.le_refl _) _).alloc (by simp) _)
  have G1 : GridAt ((w.alloc (.cells #[.int .i64 R, .int .i64 C, .slice a l.length cap] 54)).alloc (.cells (gridA 0 0 0 (fun _ => 0) (fun _ => sl0)) 195)) (w.heap.size + 1) 0 0 0 (fun _ => 0) (fun _ => sl0) := by
    have := gridAt_new (w.alloc (.cells #[.int .i64 R, .int .i64 C, .slice a l.length cap] 54)) 0 0 0 (fun _ => 0) (fun _ => sl0)
    simpa using this
  have G2 : RowAt ((w.alloc (.cells #[.int .i64 R, .int .i64 C, .slice a l.length cap] 54)).alloc (.cells (gridA 0 0 0 (fun _ => 0) (fun _ => sl0)) 195)) w.heap.size #[.int .i64 R, .int .i64 C, .slice a l.length cap] 54 := (rowAt_new w _ _).alloc _
  generalize ((w.alloc (.cells #[.int .i64 R, .int .i64 C, .slice a l.length cap] 54)).alloc (.cells (gridA 0 0 0 (fun _ => 0) (fun _ => sl0)) 195)) = v0 at B0 G1 G2 ⊢
  have k0 : v0.cell? ⟨w.heap.size, 0, none⟩ = some (.int .i64 R) := G2.cell 0
  have k1 : v0.cell? ⟨w.heap.size, 1, none⟩ = some (.int .i64 C) := G2.cell 1
  have k2 : v0.cell? ⟨w.heap.size, 2, none⟩ = some (.slice a l.length cap) := G2.cell 2
  have HZ : Hid (GridAt v0 (w.heap.size + 1) 0 0 0 (fun _ => 0) (fun _ => sl0)) := G1
  clear G1
  cases s0 : sizeB R
  · have S0 : Hid (sizeB R = false) := s0
    clear s0
    go_upto_region 2 with (go_at_call 129; refine (sizeOk_is S0.out _).mono ?_; rintro e w1 ⟨rfl, hw1⟩; subst w1)
    go_wp2_with (first | (refine wpList_grid0 rfl rfl ?_) | (refine wpList_store_row rfl 195 (.tmp 2) (.tmp 18) rfl (w.heap.size + 1) (gridA 0 0 0 (fun _ => 0) (fun _ => sl0)) rfl rfl 195 _ HZ.out (grid_infoA _ _ _ _ _) (by rw [gridA_size]) (gridA_one _ _ _ _ _) ?_))
    refine bodyPost_ret (v := .tuple #[.agg (gridA 0 0 0 (fun _ => 0) (fun _ => sl0)), .bool false]) ?_ rfl ⟨.inl ⟨?_, rfl⟩, ?_⟩
    · rw [results_cell_tmp rfl]
      simp [asAddr, Result.andThen, run_gridOf (RowAt.setRow HZ.out (gridA 0 0 0 (fun _ => 0) (fun _ => sl0)))]
    · rw [← HX.out]
      exact okB_no (fun hp => by have := S0.out; simp [sizeB] at this; have := hp.1; omega)
    · exact below_row B0 (by omega) _
  cases s1 : sizeB C
  · have S0 : Hid (sizeB R = true) := s0
    have S1 : Hid (sizeB C = false) := s1
    clear s0 s1
    go_upto_region 2 with (first | (go_at_call_of 129 (Value.int IntKind.i64 R); refine (sizeOk_is S0.out _).mono ?_; rintro e w1 ⟨rfl, hw1⟩; subst w1) | (go_at_call_of 129 (Value.int IntKind.i64 C); refine (sizeOk_is S1.out _).mono ?_; rintro e w1 ⟨rfl, hw1⟩; subst w1))
    go_wp2_with (first | (refine wpList_grid0 rfl rfl ?_) | (refine wpList_store_row rfl 195 (.tmp 2) (.tmp 18) rfl (w.heap.size + 1) (gridA 0 0 0 (fun _ => 0) (fun _ => sl0)) rfl rfl 195 _ HZ.out (grid_infoA _ _ _ _ _) (by rw [gridA_size]) (gridA_one _ _ _ _ _) ?_))
    refine bodyPost_ret (v := .tuple #[.agg (gridA 0 0 0 (fun _ => 0) (fun _ => sl0)), .bool false]) ?_ rfl ⟨.inl ⟨?_, rfl⟩, ?_⟩
    · rw [results_cell_tmp rfl]
      simp [asAddr, Result.andThen, run_gridOf (RowAt.setRow HZ.out (gridA 0 0 0 (fun _ => 0) (fun _ => sl0)))]
    · rw [← HX.out]
      exact okB_no (fun hp => by have := S1.out; simp [sizeB] at this; have := hp.2.1; omega)
    · exact below_row B0 (by omega) _
  have hR : 1 ≤ R ∧ R ≤ 5 := of_decide_eq_true s0
  have hC : 1 ≤ C ∧ C ≤ 5 := of_decide_eq_true s1
  have S0 : Hid (sizeB R = true) := s0
  have S1 : Hid (sizeB C = true) := s1
  clear s0 s1
  obtain ⟨R, rfl⟩ : ∃ R' : Nat, R = R' := ⟨R.toNat, by omega⟩
  obtain ⟨C, rfl⟩ : ∃ C' : Nat, C = C' := ⟨C.toNat, by omega⟩
  go_upto_region 3 with (first | (go_at_call_of 129 (Value.int IntKind.i64 R); refine (sizeOk_is S0.out _).mono ?_; rintro e w1 ⟨rfl, hw1⟩; subst w1) | (go_at_call_of 129 (Value.int IntKind.i64 C); refine (sizeOk_is S1.out _).mono ?_; rintro e w1 ⟨rfl, hw1⟩; subst w1))
  clear S0 S1
  go_upto_region 4 with (first | (refine wpList_grid2 rfl (.tmp 20) (.tmp 22) rfl R C rfl rfl ?_) | (rw [← grid_zero]; refine wpList_store_row rfl 195 (.tmp 4) (.tmp 23) rfl v0.heap.size (gridA R C 0 (fun _ => 0) (fun _ => sl0)) rfl rfl 195 _ (gridAt_new _ _ _ _ _ _) (grid_infoA _ _ _ _ _) (by rw [gridA_size, gridA_size]) (gridA_one _ _ _ _ _) ?_))
  have G4 : GridAt ((v0.alloc (.cells (gridA 0 0 0 (fun _ => 0) (fun _ => sl0)) 195)).setRow v0.heap.size (gridA R C 0 (fun _ => 0) (fun _ => sl0))) v0.heap.size R C 0 (fun _ => 0) (fun _ => sl0) := RowAt.setRow (gridAt_new _ _ _ _ _ _) _
  have B4 : Below v0.heap.size v0 ((v0.alloc (.cells (gridA 0 0 0 (fun _ => 0) (fun _ => sl0)) 195)).setRow v0.heap.size (gridA R C 0 (fun _ => 0) (fun _ => sl0))) := below_row ((Below.refl _ _).alloc (Nat.le_refl _) _) (Nat.le_refl _) _
  generalize ((v0.alloc (.cells (gridA 0 0 0 (fun _ => 0) (fun _ => sl0)) 195)).setRow v0.heap.size (gridA R C 0 (fun _ => 0) (fun _ => sl0))) = v1 at G4 B4 ⊢
  have bt : w.heap.size < v0.heap.size := G2.lt
  have bz : w.heap.size + 1 < v0.heap.size := HZ.out.lt
  have j2 := (B4.cell (p := ⟨w.heap.size, 2, none⟩) bt).trans k2
  clear k0 k1 k2 G2
  go_wp2_with fail
  go_loopw [27] (fun i wr => ∃ (k : Nat) (t : Nat → Sl), k ≤ l.length ∧ i = .int .i64 k ∧ (∀ j, j < k → stepB R C l j = true) ∧ GridAt wr v0.heap.size R C k (numF l k) t ∧ (∀ j, j < k → Txt w (t (j + 1)).1 (t (j + 1)).2.1 (t (j + 1)).2.2 (l.getD j cl0).2.2.2.2) ∧ Below v0.heap.size v0 wr) (fun i _ => l.length - (intOf i).toNat)
  case atStart => exact ⟨0, _, Nat.zero_le _, rfl, fun j hj => by omega, G4, fun j hj => by omega, B4⟩
  case round =>
    clear G4 B4 j2
    obtain ⟨k, t, hk, rfl, hst, hg, htx, hb⟩ := hrel
    have HS : Hid (∀ j, j < k → stepB R C l j = true) := hst
    have HT : Hid (∀ j, j < k → Txt w (t (j + 1)).1 (t (j + 1)).2.1 (t (j + 1)).2.2 (l.getD j cl0).2.2.2.2) := htx
    have HG : Hid (GridAt wr v0.heap.size R C k (numF l k) t) := hg
    have HZr : Hid (GridAt wr (w.heap.size + 1) 0 0 0 (fun _ => 0) (fun _ => sl0)) := HZ.out.below hb bz
    have HB : Hid (Below v0.heap.size v0 wr) := hb
    have HW : Hid (Below w.heap.size w wr) := B0.trans (hb.mono B0.size)
    have hk25 := step_le hR.2 hC.2 hst
    have szr : v0.heap.size < wr.heap.size := hg.lt
    have gr := hg.rows
    have gc := hg.cols
    clear hst htx hg hb
    by_cases hlt : k < l.length
    · rcases H.out.2.2.2 with e | ⟨b, off, rfl, hbw, hl⟩
      · rw [e] at hlt
        exact absurd hlt (by simp)
      obtain ⟨c0, c1, c2, c3, ta, tn, tc, c4, ht⟩ := (hl k hlt)
      have HTX : Hid (Txt w ta tn tc (l.getD k cl0).2.2.2.2) := ht
      obtain ⟨c0, c1, c2, c3, -⟩ : CellAt wr b (off + k * 5) (l.getD k cl0) := (hl k hlt).below HW.out hbw
      have c4 := (HW.out.cell (p := ⟨b, _, none⟩) hbw).trans c4
      clear ht hl
      obtain ⟨⟨r, c, d, g, tx⟩, hx⟩ : ∃ x, x = l.getD k cl0 := ⟨_, rfl⟩
      rw [← hx] at c0 c1 c2 c3 HTX
      simp only at c0 c1 c2 c3 HTX
      have HXX : Hid ((r, c, d, g, tx) = l.getD k cl0) := hx
      clear hx
      go_upto_region 8 with (go_at_call 130; refine (rectOf_any _ _ _ _ _ _ _ _).mono ?_; rintro e w1 ⟨rfl, hb1⟩)
      have bA : Below wr.heap.size wr (wr.alloc (Obj.cells #[.int .i64 r, .int .i64 c, .int .i64 d, .int .i64 g, .slice ta tn tc] 86)) := (Below.refl _ _).alloc (Nat.le_refl _) _
      have sA : wr.heap.size < w1.heap.size := by have := hb1.size; simp at this; omega
      have b3 : Below wr.heap.size wr (w1.alloc (.cells #[.int .i64 r, .int .i64 c, .int .i64 d, .int .i64 g] 199)) := (bA.trans (hb1.mono (by simp))).alloc (Nat.le_of_lt sA) _
      have C3 : RowAt (w1.alloc (.cells #[.int .i64 r, .int .i64 c, .int .i64 d, .int .i64 g] 199)) wr.heap.size #[.int .i64 r, .int .i64 c, .int .i64 d, .int .i64 g, .slice ta tn tc] 86 := ((rowAt_new wr _ _).below hb1 (by simp)).alloc _
      have Q3 : RectAt (w1.alloc (.cells #[.int .i64 r, .int .i64 c, .int .i64 d, .int .i64 g] 199)) w1.heap.size r c d g := rowAt_new _ _ _
      generalize (w1.alloc (.cells #[.int .i64 r, .int .i64 c, .int .i64 d, .int .i64 g] 199)) = w3 at b3 C3 Q3 ⊢
      have gr := (HG.out.below b3 szr).rows
      have gc := (HG.out.below b3 szr).cols
      have e0 := Q3.c0
      have e1 := Q3.c1
      have e2 := Q3.c2
      have e3 := Q3.c3
      have e4 : w3.cell? ⟨wr.heap.size, 4, none⟩ = some (.slice ta tn tc) := C3.cell 4
      have HG3 : Hid (GridAt w3 v0.heap.size R C k (numF l k) t) := HG.out.below b3 szr
      have HZ3 : Hid (GridAt w3 (w.heap.size + 1) 0 0 0 (fun _ => 0) (fun _ => sl0)) := HZr.out.below b3 (by omega)
      have HQ3 : Hid (RectAt w3 w1.heap.size r c d g) := Q3
      have HC3 : Hid (RowAt w3 wr.heap.size #[.int .i64 r, .int .i64 c, .int .i64 d, .int .i64 g, .slice ta tn tc] 86) := C3
      have HB3 : Hid (Below v0.heap.size v0 w3) := HB.out.trans (b3.mono (by omega))
      have HW3 : Hid (Below w.heap.size w w3) := HW.out.trans (b3.mono (by omega))
      have s3 := b3.size
      have s4 := RowAt.lt Q3
      have s5 := B0.size
      clear HG HZr HB HW b3 C3 Q3 bA hb1 c0 c1 c2 c3 c4
      cases q0 : withB r c d g R C
      · have Q0 : Hid (withB r c d g R C = false) := q0
        clear q0
        go_upto_region 9 with (first | (go_at_call 131; refine (within_is Q0.out hR hC _).mono ?_; rintro e w4 ⟨rfl, hb4⟩))
        go_wp2_with (first | (refine wpList_grid0 rfl rfl ?_) | (refine wpList_store_row rfl 195 (.tmp 2) (.tmp 52) rfl (w.heap.size + 1) (gridA 0 0 0 (fun _ => 0) (fun _ => sl0)) rfl rfl 195 _ (HZ3.out.below hb4 (by omega)) (grid_infoA _ _ _ _ _) (by rw [gridA_size]) (gridA_one _ _ _ _ _) ?_))
        refine bodyPost_ret (v := .tuple #[.agg (gridA 0 0 0 (fun _ => 0) (fun _ => sl0)), .bool false]) ?_ rfl ⟨.inl ⟨?_, rfl⟩, ?_⟩
        · rw [results_cell_tmp rfl]
          simp [asAddr, Result.andThen, run_gridOf (RowAt.setRow (HZ3.out.below hb4 (by omega)) (gridA 0 0 0 (fun _ => 0) (fun _ => sl0)))]
        · rw [← HX.out]
          exact okB_no (fun hp => by have := hp.2.2.1 k hlt; rw [stepB_0 HXX.out Q0.out] at this; exact absurd this (by simp))
        · exact below_row (HW3.out.trans (hb4.mono (by omega))) (by omega) _
      obtain ⟨wz, wz2, wz3⟩ := wiB_of (x := (r, c, d, g, tx)) q0
      simp only at wz wz2 wz3
      obtain ⟨r, rfl⟩ : ∃ r' : Nat, r = r' := ⟨r.toNat, by omega⟩
      obtain ⟨c, rfl⟩ : ∃ r' : Nat, c = r' := ⟨c.toNat, by omega⟩
      obtain ⟨d, rfl⟩ : ∃ r' : Nat, d = r' := ⟨d.toNat, by omega⟩
      obtain ⟨g, rfl⟩ : ∃ r' : Nat, g = r' := ⟨g.toNat, by omega⟩
      have hrd : r + d ≤ R := by omega
      have hcg : c + g ≤ C := by omega
      have hR5 : R ≤ 5 := by omega
      have hC5 : C ≤ 5 := by omega
      have hd0 : 0 < d := by omega
      have hg0 : 0 < g := by omega
      have Q0 : Hid (withB r c d g R C = true) := q0
      have HF : Hid (∀ s, numF l k s ≤ 25) := fun s => Nat.le_trans (numF_le l k s) hk25
      clear q0 wz wz2 wz3
      cases q1 : freeB (numF l k) r c d g
      · have Q1 : Hid (freeB (numF l k) r c d g = false) := q1
        clear q1
        go_upto_region 9 with (first | (go_at_call 131; refine (within_is Q0.out hR hC _).mono ?_; rintro e w4 ⟨rfl, hb4⟩; have GG : GridAt w4 v0.heap.size R C k (numF l k) t := HG3.out.below hb4 (by omega); have QQ : RectAt w4 w1.heap.size r c d g := RowAt.below HQ3.out hb4 s4; have f0 := QQ.c0; have f1 := QQ.c1; have f2 := QQ.c2; have f3 := QQ.c3; have b4 : Hid (Below w3.heap.size w3 w4) := hb4; clear QQ) | (refine wpList_load_rowG (by rfl) 195 (.tmp 4) rfl v0.heap.size rfl 195 (gridA R C k (numF l k) t) (0, 0) _ GG Tryz.underlying195 rfl (grid_infoA _ _ _ _ _) ?_) | (go_at_call 132; refine (isFree_is Q1.out hR5 hC5 hrd hcg hd0 hg0 HF.out).mono ?_; rintro e w5 ⟨rfl, hb5⟩; have b5 : Hid (Below w3.heap.size w3 w5) := b4.out.trans (hb5.mono b4.out.size); have f4 : w5.cell? ⟨wr.heap.size, 4, none⟩ = some (.slice ta tn tc) := (RowAt.below HC3.out b5.out (by omega)).cell 4))
        clear GG f0 f1 f2 f3 f4
        go_wp2_with (first | (refine wpList_grid0 rfl rfl ?_) | (refine wpList_store_row rfl 195 (.tmp 2) (.tmp 52) rfl (w.heap.size + 1) (gridA 0 0 0 (fun _ => 0) (fun _ => sl0)) rfl rfl 195 _ (HZ3.out.below b5.out (by omega)) (grid_infoA _ _ _ _ _) (by rw [gridA_size]) (gridA_one _ _ _ _ _) ?_))
        refine bodyPost_ret (v := .tuple #[.agg (gridA 0 0 0 (fun _ => 0) (fun _ => sl0)), .bool false]) ?_ rfl ⟨.inl ⟨?_, rfl⟩, ?_⟩
        · rw [results_cell_tmp rfl]
          simp [asAddr, Result.andThen, run_gridOf (RowAt.setRow (HZ3.out.below b5.out (by omega)) (gridA 0 0 0 (fun _ => 0) (fun _ => sl0)))]
        · rw [← HX.out]
          exact okB_no (fun hp => by have := hp.2.2.1 k hlt; rw [stepB_1 HXX.out Q1.out] at this; exact absurd this (by simp))
        · exact below_row (HW3.out.trans (b5.out.mono (by omega))) (by omega) _
      have Q1 : Hid (freeB (numF l k) r c d g = true) := q1
      clear q1
      cases q2 : textB tx
      · have Q2 : Hid (textB tx = false) := q2
        clear q2
        go_upto_region 9 with (first | (go_at_call 131; refine (within_is Q0.out hR hC _).mono ?_; rintro e w4 ⟨rfl, hb4⟩; have GG : GridAt w4 v0.heap.size R C k (numF l k) t := HG3.out.below hb4 (by omega); have QQ : RectAt w4 w1.heap.size r c d g := RowAt.below HQ3.out hb4 s4; have f0 := QQ.c0; have f1 := QQ.c1; have f2 := QQ.c2; have f3 := QQ.c3; have b4 : Hid (Below w3.heap.size w3 w4) := hb4; clear QQ) | (refine wpList_load_rowG (by rfl) 195 (.tmp 4) rfl v0.heap.size rfl 195 (gridA R C k (numF l k) t) (0, 0) _ GG Tryz.underlying195 rfl (grid_infoA _ _ _ _ _) ?_) | (go_at_call 132; refine (isFree_is Q1.out hR5 hC5 hrd hcg hd0 hg0 HF.out).mono ?_; rintro e w5 ⟨rfl, hb5⟩; have b5 : Hid (Below w3.heap.size w3 w5) := b4.out.trans (hb5.mono b4.out.size); have f4 : w5.cell? ⟨wr.heap.size, 4, none⟩ = some (.slice ta tn tc) := (RowAt.below HC3.out b5.out (by omega)).cell 4) | (go_at_call 62; refine (implTextOk_isG ((HTX.out.below HW3.out).below (b5.out.mono (by omega))) Q2.out).mono ?_; rintro e w6 ⟨rfl, hb6⟩; have b6 : Hid (Below w3.heap.size w3 w6) := b5.out.trans (hb6.mono b5.out.size)))
        clear GG f0 f1 f2 f3 f4
        go_wp2_with (first | (refine wpList_grid0 rfl rfl ?_) | (refine wpList_store_row rfl 195 (.tmp 2) (.tmp 52) rfl (w.heap.size + 1) (gridA 0 0 0 (fun _ => 0) (fun _ => sl0)) rfl rfl 195 _ (HZ3.out.below b6.out (by omega)) (grid_infoA _ _ _ _ _) (by rw [gridA_size]) (gridA_one _ _ _ _ _) ?_))
        refine bodyPost_ret (v := .tuple #[.agg (gridA 0 0 0 (fun _ => 0) (fun _ => sl0)), .bool false]) ?_ rfl ⟨.inl ⟨?_, rfl⟩, ?_⟩
        · rw [results_cell_tmp rfl]
          simp [asAddr, Result.andThen, run_gridOf (RowAt.setRow (HZ3.out.below b6.out (by omega)) (gridA 0 0 0 (fun _ => 0) (fun _ => sl0)))]
        · rw [← HX.out]
          exact okB_no (fun hp => by have := hp.2.2.1 k hlt; rw [stepB_2 HXX.out Q2.out] at this; exact absurd this (by simp))
        · exact below_row (HW3.out.trans (b6.out.mono (by omega))) (by omega) _
      have Q2 : Hid (textB tx = true) := q2
      clear q2
      go_upto_region 10 with (first | (go_at_call 131; refine (within_is Q0.out hR hC _).mono ?_; rintro e w4 ⟨rfl, hb4⟩; have GG : GridAt w4 v0.heap.size R C k (numF l k) t := HG3.out.below hb4 (by omega); have QQ : RectAt w4 w1.heap.size r c d g := RowAt.below HQ3.out hb4 s4; have f0 := QQ.c0; have f1 := QQ.c1; have f2 := QQ.c2; have f3 := QQ.c3; have b4 : Hid (Below w3.heap.size w3 w4) := hb4; clear QQ) | (refine wpList_load_rowG (by rfl) 195 (.tmp 4) rfl v0.heap.size rfl 195 (gridA R C k (numF l k) t) (0, 0) _ GG Tryz.underlying195 rfl (grid_infoA _ _ _ _ _) ?_) | (go_at_call 132; refine (isFree_is Q1.out hR5 hC5 hrd hcg hd0 hg0 HF.out).mono ?_; rintro e w5 ⟨rfl, hb5⟩; have b5 : Hid (Below w3.heap.size w3 w5) := b4.out.trans (hb5.mono b4.out.size); have f4 : w5.cell? ⟨wr.heap.size, 4, none⟩ = some (.slice ta tn tc) := (RowAt.below HC3.out b5.out (by omega)).cell 4) | (go_at_call 62; refine (implTextOk_isG ((HTX.out.below HW3.out).below (b5.out.mono (by omega))) Q2.out).mono ?_; rintro e w6 ⟨rfl, hb6⟩; have b6 : Hid (Below w3.heap.size w3 w6) := b5.out.trans (hb6.mono b5.out.size)))
      clear GG f0 f1 f2 f3 f4
      have GG : Hid (GridAt w6 v0.heap.size R C k (numF l k) t) := HG3.out.below b6.out (by omega)
      have QQ : RectAt w6 w1.heap.size r c d g := RowAt.below HQ3.out b6.out s4
      have f0 := QQ.c0
      have f1 := QQ.c1
      have f2 := QQ.c2
      have f3 := QQ.c3
      have f4 : w6.cell? ⟨wr.heap.size, 4, none⟩ = some (.slice ta tn tc) := (RowAt.below HC3.out b6.out (by omega)).cell 4
      have s6 := b6.out.size
      have hk1 : k < 25 := by
        have := step_le (l := l) (K := k + 1) hR.2 hC.2 (fun j hj => by
          by_cases hjk : j = k
          · subst hjk
            exact stepB_mk HXX.out Q0.out Q1.out Q2.out
          · exact HS.out j (by omega))
        omega
      clear QQ
      go_wp2_with (first | (refine wpList_load_row rfl 195 (.tmp 4) rfl v0.heap.size rfl 195 (gridA R C k (numF l k) t) (0, 0) _ GG.out Tryz.underlying195 rfl (grid_infoA _ _ _ _ _) ?_) | (go_at_call 133; refine (lay_any R C k (numF l k) t r c d g (ta, tn, tc) _ (by omega) (by omega) hk1).mono ?_; rintro e w7 ⟨rfl, hb7⟩) | (refine wpList_store_row rfl 195 (.tmp 4) (.tmp 57) rfl v0.heap.size (gridA R C (k + 1) (giveF (numF l k) r c d g (k + 1)) (updS t (k + 1) (ta, tn, tc))) rfl rfl 195 _ (GG.out.below hb7 (by omega)) (grid_infoA _ _ _ _ _) (by rw [gridA_size, gridA_size]) (gridA_one _ _ _ _ _) ?_))
      go_roundw
      case rel =>
        refine ⟨k + 1, updS t (k + 1) (ta, tn, tc), by omega, by go_num, ?_, ?_, ?_, ?_⟩
        · intro j hj
          by_cases hjk : j = k
          · subst hjk
            exact stepB_mk HXX.out Q0.out Q1.out Q2.out
          · exact HS.out j (by omega)
        · have e : numF l (k + 1) = giveF (numF l k) r c d g (k + 1) := by
            simp only [numF, ← HXX.out, Int.toNat_natCast]
          rw [e]
          exact RowAt.setRow (GG.out.below hb7 (by omega)) _
        · intro j hj
          by_cases hjk : j = k
          · subst hjk
            rw [← HXX.out]
            simp only [updS, if_pos]
            exact HTX.out
          · simp only [updS, show ¬ j + 1 = k + 1 from by omega, if_false]
            exact HT.out j (by omega)
        · exact below_row ((HB3.out.trans (b6.out.mono (by omega))).trans (hb7.mono (by omega))) (Nat.le_refl _) _
      case measure => simp [intOf]; omega
    · have hkl : k = l.length := by omega
      subst hkl
      have HF : Hid (∀ s, numF l l.length s ≤ 25) := fun s => Nat.le_trans (numF_le l l.length s) hk25
      have HX2 : Hid (x = true ↔ Tiles R C (numF l l.length)) := by
        show x = true ↔ _
        rw [← HX.out, ← gridP_iff]
        constructor
        · intro hp
          have := hp.2.2.2
          simpa using this
        · intro hp
          exact ⟨hR, hC, HS.out, by simpa using hp⟩
      have hR5 : R ≤ 5 := by omega
      have hC5 : C ≤ 5 := by omega
      have s5 := B0.size
      cases x
      · go_upto_region 13 with (first | (refine wpList_load_row rfl 195 (.tmp 4) rfl v0.heap.size rfl 195 (gridA R C l.length (numF l l.length) t) (0, 0) _ HG.out Tryz.underlying195 rfl (grid_infoA _ _ _ _ _) ?_) | (go_at_call 134; refine (isTiled_is HX2.out hR5 hC5 HF.out).mono ?_; rintro e w4 ⟨rfl, hb4⟩))
        go_wp2_with (first | (refine wpList_grid0 rfl rfl ?_) | (refine wpList_store_row rfl 195 (.tmp 2) (.tmp 62) rfl (w.heap.size + 1) (gridA 0 0 0 (fun _ => 0) (fun _ => sl0)) rfl rfl 195 _ (HZr.out.below hb4 (by omega)) (grid_infoA _ _ _ _ _) (by rw [gridA_size]) (gridA_one _ _ _ _ _) ?_))
        refine bodyPost_ret (v := .tuple #[.agg (gridA 0 0 0 (fun _ => 0) (fun _ => sl0)), .bool false]) ?_ rfl ⟨.inl ⟨rfl, rfl⟩, ?_⟩
        · rw [results_cell_tmp rfl]
          simp [asAddr, Result.andThen, run_gridOf (RowAt.setRow (HZr.out.below hb4 (by omega)) (gridA 0 0 0 (fun _ => 0) (fun _ => sl0)))]
        · exact below_row (HW.out.trans (hb4.mono (by omega))) (by omega) _
      · go_upto_region 14 with (first | (refine wpList_load_row rfl 195 (.tmp 4) rfl v0.heap.size rfl 195 (gridA R C l.length (numF l l.length) t) (0, 0) _ HG.out Tryz.underlying195 rfl (grid_infoA _ _ _ _ _) ?_) | (go_at_call 134; refine (isTiled_is HX2.out hR5 hC5 HF.out).mono ?_; rintro e w4 ⟨rfl, hb4⟩))
        go_wp2_with (first | (refine wpList_load_row rfl 195 (.tmp 4) rfl v0.heap.size rfl 195 (gridA R C l.length (numF l l.length) t) (0, 0) _ (HG.out.below hb4 szr) Tryz.underlying195 rfl (grid_infoA _ _ _ _ _) ?_) | (refine wpList_store_row rfl 195 (.tmp 2) (.tmp 63) rfl (w.heap.size + 1) (gridA R C l.length (numF l l.length) t) rfl rfl 195 _ (HZr.out.below hb4 (by omega)) (grid_infoA _ _ _ _ _) (by rw [gridA_size, gridA_size]) (gridA_one _ _ _ _ _) ?_))
        have bF : Below w.heap.size w (w4.setRow (w.heap.size + 1) (gridA R C l.length (numF l l.length) t)) := below_row (HW.out.trans (hb4.mono (by omega))) (by omega) _
        refine bodyPost_ret (v := .tuple #[.agg (gridA R C l.length (numF l l.length) t), .bool true]) ?_ rfl ⟨.inr ⟨rfl, t, rfl, fun i hi => (HT.out i hi).below bF⟩, bF⟩
        · rw [results_cell_tmp rfl]
          simp [asAddr, Result.andThen, run_gridOf (RowAt.setRow (HZr.out.below hb4 (by omega)) (gridA R C l.length (numF l l.length) t))]
end Go.Proofs.YtccoeachemnbnaaGreatDoor
namespace Go.Proofs.YtccoeachemnbnaaGreatDoor
open Go.RowKit

set_option maxRecDepth 100000 in
set_option maxHeartbeats 4000000 in
theorem implTableOk_is {R C : Int} {a : Option Addr} {n cap : Nat} {l : List Cl} {w : World} {x : Bool} (hx : okB R C l = x) (h : Tab w a n cap l) :
    Calls Tryz.prog 127 #[.agg #[.int .i64 R, .int .i64 C, .slice a n cap]] w fun z w' => z = .returned (.bool x) ∧ Below w.heap.size w w' := by
  have HX : Hid (okB R C l = x) := hx
  have H : Hid (Tab w a n cap l) := h
  clear hx h
  go_enter Tryz.func127, Tryz.ntmps127
  go_upto_region 1 with fail
  have B0 : Below w.heap.size w (w.alloc (.cells #[.int .i64 R, .int .i64 C, .slice a n cap] 54)) := (Below.refl _ _).alloc (Nat.le_refl _) _
  have HT : Hid (Tab (w.alloc (.cells #[.int .i64 R, .int .i64 C, .slice a n cap] 54)) a n cap l) := H.out.below B0
  have G2 : RowAt (w.alloc (.cells #[.int .i64 R, .int .i64 C, .slice a n cap] 54)) w.heap.size #[.int .i64 R, .int .i64 C, .slice a n cap] 54 := rowAt_new w _ _
  generalize (w.alloc (.cells #[.int .i64 R, .int .i64 C, .slice a n cap] 54)) = v0 at B0 HT G2 ⊢
  have k0 : v0.cell? ⟨w.heap.size, 0, none⟩ = some (.int .i64 R) := G2.cell 0
  have k1 : v0.cell? ⟨w.heap.size, 1, none⟩ = some (.int .i64 C) := G2.cell 1
  have k2 : v0.cell? ⟨w.heap.size, 2, none⟩ = some (.slice a n cap) := G2.cell 2
  clear G2
  cases x
  · go_wp2_with (first | (go_at_call 128; refine (gridOf_is HX.out HT.out).mono ?_; rintro e w1 ⟨(⟨-, rfl⟩ | ⟨hno, -⟩), hb1⟩; rotate_left; exact absurd hno (by simp)) | (rw [← grid_zero]; refine wpList_store_row rfl 195 (.tmp 3) (.tmp 8) rfl w1.heap.size (gridA 0 0 0 (fun _ => 0) (fun _ => sl0)) rfl rfl 195 _ (gridAt_new _ _ _ _ _ _) (grid_infoA _ _ _ _ _) (by rw [gridA_size]) (gridA_one _ _ _ _ _) ?_))
    go_ret
    exact ⟨rfl, below_row ((B0.trans (hb1.mono B0.size)).alloc (Nat.le_trans B0.size hb1.size) _) (Nat.le_trans B0.size hb1.size) _⟩
  · go_wp2_with (first | (go_at_call 128; refine (gridOf_is HX.out HT.out).mono ?_; rintro e w1 ⟨(⟨hno, -⟩ | ⟨-, t, rfl, -⟩), hb1⟩; exact absurd hno (by simp)) | (rw [← grid_zero]; refine wpList_store_row rfl 195 (.tmp 3) (.tmp 8) rfl w1.heap.size (gridA R C l.length (numF l l.length) t) rfl rfl 195 _ (gridAt_new _ _ _ _ _ _) (grid_infoA _ _ _ _ _) (by rw [gridA_size, gridA_size]) (gridA_one _ _ _ _ _) ?_))
    go_ret
    exact ⟨rfl, below_row ((B0.trans (hb1.mono B0.size)).alloc (Nat.le_trans B0.size hb1.size) _) (Nat.le_trans B0.size hb1.size) _⟩
end Go.Proofs.YtccoeachemnbnaaGreatDoor
namespace Go.Proofs.YtccoeachemnbnaaGreatDoor
open Go.RowKit

theorem implTextOk_is {a : Option Addr} {n cap : Nat} {l : List Sg} {w : World} {x : Bool} (h : Txt w a n cap l) (hx : textB l = x) :
    Calls Tryz.prog 62 #[.slice a n cap] w fun e w' => e = .returned (.bool x) ∧ Below w.heap.size w w' := hx ▸ implTextOk_any a n cap l w h
end Go.Proofs.YtccoeachemnbnaaGreatDoor
namespace Go.Proofs.YtccoeachemnbnaaGreatDoor
open Go.RowKit

set_option maxRecDepth 100000 in
set_option maxHeartbeats 4000000 in
theorem paraOk_is {ta : Option Addr} {tn tc : Nat} {t : List Sg} {w : World} {x : Bool} (hx : textB t = x) (ht : Txt w ta tn tc t) :
    Calls Tryz.prog 119 #[.agg #[.slice ta tn tc]] w fun e w' => e = .returned (.bool x) ∧ Below w.heap.size w w' := by
  have HX : Hid (textB t = x) := hx
  go_enter Tryz.func119, Tryz.ntmps119
  go_upto_region 1 with fail
  have B0 : Below w.heap.size w (w.alloc (.cells #[.slice ta tn tc] 123)) := (Below.refl _ _).alloc (Nat.le_refl _) _
  have q0 : (w.alloc (.cells #[.slice ta tn tc] 123)).cell? ⟨w.heap.size, 0, none⟩ = some (.slice ta tn tc) := by simp
  have HT : Hid (Txt (w.alloc (.cells #[.slice ta tn tc] 123)) ta tn tc t) := ht.below B0
  generalize (w.alloc (.cells #[.slice ta tn tc] 123)) = v0 at B0 q0 HT ⊢
  go_wp2_with fail
  refine (implTextOk_is HT.out HX.out).mono ?_
  rintro e u ⟨rfl, hb⟩
  go_wp2_with fail
  go_ret
  exact ⟨rfl, B0.trans (hb.mono B0.size)⟩
set_option maxRecDepth 100000 in
set_option maxHeartbeats 4000000 in
theorem itemOk_is {v : Int} {ta : Option Addr} {tn tc : Nat} {t : List Sg} {w : World} {x : Bool} (hx : (decide (0 ≤ v ∧ v ≤ 3) && textB t) = x) (ht : Txt w ta tn tc t) :
    Calls Tryz.prog 122 #[.agg #[.int .i64 v, .slice ta tn tc]] w fun e w' => e = .returned (.bool x) ∧ Below w.heap.size w w' := by
  have HX : Hid ((decide (0 ≤ v ∧ v ≤ 3) && textB t) = x) := hx
  obtain ⟨tb, HTB⟩ : ∃ b, Hid (textB t = b) := ⟨_, rfl⟩
  clear hx
  go_enter Tryz.func122, Tryz.ntmps122
  go_upto_region 1 with fail
  have B0 : Below w.heap.size w (w.alloc (.cells #[.int .i64 v, .slice ta tn tc] 125)) := (Below.refl _ _).alloc (Nat.le_refl _) _
  have G0 : RowAt (w.alloc (.cells #[.int .i64 v, .slice ta tn tc] 125)) w.heap.size #[.int .i64 v, .slice ta tn tc] 125 := rowAt_new _ _ _
  have HT : Hid (Txt (w.alloc (.cells #[.int .i64 v, .slice ta tn tc] 125)) ta tn tc t) := ht.below B0
  generalize (w.alloc (.cells #[.int .i64 v, .slice ta tn tc] 125)) = v0 at B0 G0 HT ⊢
  have q0 : v0.cell? ⟨w.heap.size, 0, none⟩ = some (.int .i64 v) := G0.cell 0
  have q1 : v0.cell? ⟨w.heap.size, 1, none⟩ = some (.slice ta tn tc) := G0.cell 1
  clear G0 ht
  by_cases h0 : 0 ≤ v
  · by_cases h3 : v ≤ 3
    · go_wp2_with (go_at_call 62; refine (implTextOk_is HT.out HTB.out).mono ?_; rintro e u ⟨rfl, hb⟩)
      go_ret
      refine ⟨?_, B0.trans (hb.mono B0.size)⟩
      rw [← HX.out, decide_eq_true (show 0 ≤ v ∧ v ≤ 3 from ⟨h0, h3⟩), HTB.out, Bool.true_and]
      rfl
    · go_wp2_with fail
      go_ret
      refine ⟨?_, B0⟩
      rw [← HX.out, decide_eq_false (show ¬ (0 ≤ v ∧ v ≤ 3) by omega), Bool.false_and]
      rfl
  · go_wp2_with fail
    go_ret
    refine ⟨?_, B0⟩
    rw [← HX.out, decide_eq_false (show ¬ (0 ≤ v ∧ v ≤ 3) by omega), Bool.false_and]
    rfl
set_option maxRecDepth 100000 in
set_option maxHeartbeats 4000000 in
theorem sheetOk_is {R C : Int} {ca : Option Addr} {cn cc : Nat} {l : List Cl} {w : World} {x : Bool} (hx : okB R C l = x) (ht : Tab w ca cn cc l) :
    Calls Tryz.prog 125 #[.agg #[.int .i64 R, .int .i64 C, .slice ca cn cc]] w fun e w' => e = .returned (.bool x) ∧ Below w.heap.size w w' := by
  have HX : Hid (okB R C l = x) := hx
  go_enter Tryz.func125, Tryz.ntmps125
  go_upto_region 1 with fail
  have B0 : Below w.heap.size w (w.alloc (.cells #[.int .i64 R, .int .i64 C, .slice ca cn cc] 127)) := (Below.refl _ _).alloc (Nat.le_refl _) _
  have G0 : RowAt (w.alloc (.cells #[.int .i64 R, .int .i64 C, .slice ca cn cc] 127)) w.heap.size #[.int .i64 R, .int .i64 C, .slice ca cn cc] 127 := rowAt_new _ _ _
  have HT : Hid (Tab (w.alloc (.cells #[.int .i64 R, .int .i64 C, .slice ca cn cc] 127)) ca cn cc l) := ht.below B0
  generalize (w.alloc (.cells #[.int .i64 R, .int .i64 C, .slice ca cn cc] 127)) = v0 at B0 G0 HT ⊢
  have q0 : v0.cell? ⟨w.heap.size, 0, none⟩ = some (.int .i64 R) := G0.cell 0
  have q1 : v0.cell? ⟨w.heap.size, 1, none⟩ = some (.int .i64 C) := G0.cell 1
  have q2 : v0.cell? ⟨w.heap.size, 2, none⟩ = some (.slice ca cn cc) := G0.cell 2
  clear G0 ht hx
  go_wp2_with fail
  refine (implTableOk_is HX.out HT.out).mono ?_
  rintro e u ⟨rfl, hb⟩
  go_wp2_with fail
  go_ret
  exact ⟨rfl, B0.trans (hb.mono B0.size)⟩
theorem item_info : (Tryz.prog.info? 125).map (fun i => (i.zero, i.size, i.bytes)) = some (some (.agg #[.int .i64 0, .slice none 0 0]), 2, 32) := by kernel_rfl
theorem assert_item (v : Value) (w : World) : (Instr.typeAssert (.iface 125 v) 97 125 true).run Tryz.prog w = .ok (.tuple #[v, .bool true]) w := by
  simp [Instr.typeAssert, run_underlying Tryz.underlying125, typeInfo]
theorem assert_other {t : TypeId} (ht : t ≠ 125) (v : Value) (w : World) : (Instr.typeAssert (.iface t v) 97 125 true).run Tryz.prog w = .ok (.tuple #[.agg #[.int .i64 0, .slice none 0 0], .bool false]) w := by
  obtain ⟨i0, hi, hz0, hz1, hz2⟩ := info_parts item_info
  simp [Instr.typeAssert, run_underlying Tryz.underlying125, typeInfo, zeroValue, hi, hz0, ht]
set_option maxRecDepth 100000 in
set_option maxHeartbeats 4000000 in
theorem levelOf_item (v : Int) (ta : Option Addr) (tn tc : Nat) (w : World) :
    Calls Tryz.prog 75 #[.iface 125 (.agg #[.int .i64 v, .slice ta tn tc])] w fun e w' => e = .returned (.int .i64 v) ∧ Below w.heap.size w w' := by
  go_enter Tryz.func75, Tryz.ntmps75
  go_wp2_with fail
  rw [assert_item]
  go_wp2_with fail
  go_ret
  exact ⟨rfl, (Below.refl _ _).alloc (Nat.le_refl _) _⟩
set_option maxRecDepth 100000 in
set_option maxHeartbeats 4000000 in
theorem levelOf_para (ta : Option Addr) (tn tc : Nat) (w : World) :
    Calls Tryz.prog 75 #[.iface 123 (.agg #[.slice ta tn tc])] w fun e w' => e = .returned (.int .i64 (-1)) ∧ Below w.heap.size w w' := by
  go_enter Tryz.func75, Tryz.ntmps75
  go_wp2_with fail
  rw [assert_other (by decide)]
  go_wp2_with fail
  go_ret
  exact ⟨rfl, Below.refl _ _⟩
set_option maxRecDepth 100000 in
set_option maxHeartbeats 4000000 in
theorem levelOf_sheet (R C : Int) (ca : Option Addr) (cn cc : Nat) (w : World) :
    Calls Tryz.prog 75 #[.iface 127 (.agg #[.int .i64 R, .int .i64 C, .slice ca cn cc])] w fun e w' => e = .returned (.int .i64 (-1)) ∧ Below w.heap.size w w' := by
  go_enter Tryz.func75, Tryz.ntmps75
  go_wp2_with fail
  rw [assert_other (by decide)]
  go_wp2_with fail
  go_ret
  exact ⟨rfl, Below.refl _ _⟩
end Go.Proofs.YtccoeachemnbnaaGreatDoor
namespace Go.Proofs.YtccoeachemnbnaaGreatDoor
open Go.RowKit

/-- A part's cell at block b, o. -/
def PartAt (w : World) (b o : Nat) (x : Bl) : Prop := ∃ ta tn tc ca cn cc, w.cell? ⟨b, o, none⟩ = some (partV x.1 x.2.1 ta tn tc x.2.2.2.1 x.2.2.2.2.1 ca cn cc) ∧ Txt w ta tn tc x.2.2.1 ∧ Tab w ca cn cc x.2.2.2.2.2
/-- A slice value that reads as the parts of the blocks d. -/
def Outl (w : World) (a : Option Addr) (n cap : Nat) (d : List Bl) : Prop :=
  n = d.length ∧ n ≤ cap ∧ cap ≤ maxLen ∧ (d = [] ∨ ∃ b off, a = some ⟨b, off, none⟩ ∧ b < w.heap.size ∧ ∀ k, k < d.length → PartAt w b (off + k) (d.getD k bl0))
theorem PartAt.below {w w' : World} {b o : Nat} {x : Bl} (h : PartAt w b o x) (hb : Below w.heap.size w w') (hlt : b < w.heap.size) : PartAt w' b o x := by
  obtain ⟨ta, tn, tc, ca, cn, cc, h0, ht, hc⟩ := h
  exact ⟨ta, tn, tc, ca, cn, cc, (hb.cell (p := ⟨b, _, none⟩) hlt).trans h0, ht.below hb, hc.below hb⟩
theorem Outl.below {w w' : World} {a : Option Addr} {n cap : Nat} {d : List Bl} (h : Outl w a n cap d) (hb : Below w.heap.size w w') : Outl w' a n cap d := by
  obtain ⟨h1, h2, h3, h4⟩ := h
  refine ⟨h1, h2, h3, ?_⟩
  rcases h4 with h4 | ⟨b, off, h5, h6, h7⟩
  · exact .inl h4
  · exact .inr ⟨b, off, h5, Nat.lt_of_lt_of_le h6 hb.size, fun k hk => (h7 k hk).below hb h6⟩
def partOkB (x : Bl) : Bool := if x.1 = 1 then textB x.2.2.1 else if x.1 = 2 then decide (0 ≤ x.2.1 ∧ x.2.1 ≤ 3) && textB x.2.2.1 else okB x.2.2.2.1 x.2.2.2.2.1 x.2.2.2.2.2
def outK (d : List Bl) (k : Nat) : Bool := partOkB (d.getD k bl0) && !decide (aheadN d k + 1 < lvN (d.getD k bl0))
def outlB (d : List Bl) : Bool := decide (d.length ≤ 8) && (List.range d.length).all (outK d)
def kindB (x : Bl) : Prop := x.1 = 1 ∨ x.1 = 2 ∨ x.1 = 3
theorem outlB_no {d : List Bl} {i : Nat} (hi : i < d.length) (h : outK d i = false) : outlB d = false := by
  unfold outlB
  have : (List.range d.length).all (outK d) = false := by
    cases hq : (List.range d.length).all (outK d)
    · rfl
    · have := List.all_eq_true.1 hq i (List.mem_range.2 hi)
      rw [h] at this
      cases this
  rw [this, Bool.and_false]
theorem lv_small {x : Bl} (h : partOkB x = true) : -1 ≤ lvN x ∧ lvN x ≤ 3 := by
  unfold lvN
  by_cases h2 : x.1 = 2
  · rw [if_pos h2]
    unfold partOkB at h
    rw [if_neg (by omega), if_pos h2] at h
    simp only [Bool.and_eq_true, decide_eq_true_eq] at h
    omega
  · rw [if_neg h2]
    omega
theorem aheadO_small {d : List Bl} {i : Nat} (h : (List.range i).all (outK d) = true) : -1 ≤ aheadN d i ∧ aheadN d i ≤ 3 := by
  rcases i with _ | j
  · show (-1 : Int) ≤ -1 ∧ (-1 : Int) ≤ 3
    omega
  · have hj := List.all_eq_true.1 h j (List.mem_range.2 (by omega))
    unfold outK at hj
    rw [Bool.and_eq_true] at hj
    exact lv_small hj.1
set_option maxRecDepth 100000 in
set_option maxHeartbeats 8000000 in
theorem outlineOk_is {a : Option Addr} {n cap : Nat} {d : List Bl} {w : World} {x : Bool} (hx : outlB d = x) (h : Outl w a n cap d) (hk : ∀ y ∈ d, kindB y) :
    Calls Tryz.prog 53 #[.slice a n cap] w fun e w' => e = .returned (.bool x) ∧ Below w.heap.size w w' := by
  have HX : Hid (outlB d = x) := hx
  have HN : Hid (n = d.length) := h.1
  have hc := h.2.1
  have hm := h.2.2.1
  unfold maxLen at hm
  have H : Hid (Outl w a n cap d) := h
  have HK : Hid (∀ y ∈ d, kindB y) := hk
  clear h hx hk
  go_enter Tryz.func53, Tryz.ntmps53
  by_cases h8 : 8 < n
  · have h8' : (8 : Int) < (n : Int) := by omega
    go_wp2_with fail
    go_ret
    refine ⟨?_, Below.refl _ _⟩
    have hd : ¬ d.length ≤ 8 := by have := HN.out; omega
    rw [← HX.out]
    unfold outlB
    rw [decide_eq_false hd, Bool.false_and]
    rfl
  · have h8' : ¬ (8 : Int) < (n : Int) := by omega
    go_wp2_with fail
    go_loopw [3, 11] (fun av iv wr => ∃ (i : Nat) (ah : Int), i ≤ n ∧ iv = .int .i64 i ∧ av = .int .i64 ah ∧ ah = aheadN d i ∧ (List.range i).all (outK d) = true ∧ Below w.heap.size w wr) (fun _ iv _ => n - (intOf iv).toNat)
    case atStart => exact ⟨0, -1, Nat.zero_le _, rfl, rfl, rfl, rfl, Below.refl _ _⟩
    case round =>
      obtain ⟨i, ah, hi, rfl, rfl, hah, hall, hb⟩ := hrel
      have HAll : Hid ((List.range i).all (outK d) = true) := hall
      have HAH : Hid (aheadN d i = ah) := hah.symm
      have hsm : -1 ≤ ah ∧ ah ≤ 3 := by rw [hah]; exact aheadO_small hall
      have HB : Hid (Below w.heap.size w wr) := hb
      have HD : Hid (Outl wr a n cap d) := H.out.below hb
      clear hall hb hah
      by_cases hlt : i < n
      · have hil : i < d.length := by have := HN.out; omega
        have hib : (i : Int) < (n : Int) := by omega
        have hi0 : (0 : Int) ≤ (i : Int) := by omega
        rcases HD.out.2.2.2 with e | ⟨b, off, rfl, hbl, hcl⟩
        · rw [e] at hil
          exact absurd hil (by simp)
        obtain ⟨ta, tn, tc, ca, cn, cc, hcell, ht, htb⟩ := hcl i hil
        have hkd : kindB (d.getD i bl0) := by
          refine HK.out _ ?_
          rw [show d.getD i bl0 = d[i] by simp [List.getD, hil]]
          exact List.getElem_mem hil
        obtain ⟨⟨K, V, t, R, C, l⟩, hx⟩ : ∃ x, x = d.getD i bl0 := ⟨_, rfl⟩
        rw [← hx] at hcell ht htb hkd
        have HE : Hid (d.getD i bl0 = (K, V, t, R, C, l)) := hx.symm
        have HT : Hid (Txt wr ta tn tc t) := ht
        have HC : Hid (Tab wr ca cn cc l) := htb
        have HNX : Hid (lvN (K, V, t, R, C, l) = aheadN d (i + 1)) := by rw [← HE.out]; rfl
        obtain ⟨pb, HPB⟩ : ∃ b, Hid (partOkB (K, V, t, R, C, l) = b) := ⟨_, rfl⟩
        have HOK : Hid (outK d i = (pb && !decide (ah + 1 < lvN (K, V, t, R, C, l)))) := by
          show outK d i = _
          unfold outK
          rw [HE.out, HPB.out, HAH.out]
        clear hcl ht htb hx
        unfold kindB at hkd
        simp only at hkd hcell
        have sB := HB.out.size
        rcases hkd with hk1 | hk2 | hk3
        · subst hk1
          have c0 : wr.cell? ⟨b, off + i, none⟩ = some (.iface 123 (.agg #[.slice ta tn tc])) := hcell
          clear hcell
          have HP : Hid (textB t = pb) := HPB.out
          cases pb
          · have HO : Hid (outK d i = false) := by show outK d i = false; rw [HOK.out]; rfl
            go_wp2_with (change Calls Tryz.prog 119 #[.agg #[.slice ta tn tc]] _ _; refine (paraOk_is HP.out HT.out).mono ?_; rintro e u1 ⟨rfl, hb1⟩; replace HB : Hid (Below w.heap.size w u1) := HB.out.trans (hb1.mono sB); have sB1 := HB.out.size; clear hb1)
            go_ret
            exact ⟨by rw [← HX.out, outlB_no hil HO.out]; rfl, HB.out⟩
          · have HO : Hid (outK d i = true) := by show outK d i = true; rw [HOK.out]; simp [lvN]; omega
            go_wp2_with (first | (change Calls Tryz.prog 119 #[.agg #[.slice ta tn tc]] _ _; refine (paraOk_is HP.out HT.out).mono ?_; rintro e u1 ⟨rfl, hb1⟩; replace HB : Hid (Below w.heap.size w u1) := HB.out.trans (hb1.mono sB); have sB1 := HB.out.size; clear hb1) | (go_at_call 75; refine (levelOf_para ta tn tc _).mono ?_; rintro e u2 ⟨rfl, hb2⟩; replace HB : Hid (Below w.heap.size w u2) := HB.out.trans (hb2.mono HB.out.size); clear hb2))
            go_roundw
            case rel => exact ⟨i + 1, -1, by omega, by go_num, rfl, by rw [← HNX.out]; rfl, by rw [List.range_succ, List.all_append, HAll.out]; simp [HO.out], HB.out⟩
            case measure => simp [intOf]; omega
        · subst hk2
          have c0 : wr.cell? ⟨b, off + i, none⟩ = some (.iface 125 (.agg #[.int .i64 V, .slice ta tn tc])) := hcell
          clear hcell
          have HP : Hid ((decide (0 ≤ V ∧ V ≤ 3) && textB t) = pb) := HPB.out
          cases pb
          · have HO : Hid (outK d i = false) := by show outK d i = false; rw [HOK.out]; rfl
            go_wp2_with (change Calls Tryz.prog 122 #[.agg #[.int .i64 V, .slice ta tn tc]] _ _; refine (itemOk_is HP.out HT.out).mono ?_; rintro e u1 ⟨rfl, hb1⟩; replace HB : Hid (Below w.heap.size w u1) := HB.out.trans (hb1.mono sB); have sB1 := HB.out.size; clear hb1)
            go_ret
            exact ⟨by rw [← HX.out, outlB_no hil HO.out]; rfl, HB.out⟩
          · by_cases hlv : ah + 1 < V
            · have HO : Hid (outK d i = false) := by show outK d i = false; rw [HOK.out]; simp [lvN, hlv]
              go_wp2_with (first | (change Calls Tryz.prog 122 #[.agg #[.int .i64 V, .slice ta tn tc]] _ _; refine (itemOk_is HP.out HT.out).mono ?_; rintro e u1 ⟨rfl, hb1⟩; replace HB : Hid (Below w.heap.size w u1) := HB.out.trans (hb1.mono sB); have sB1 := HB.out.size; clear hb1) | (go_at_call 75; refine (levelOf_item V ta tn tc _).mono ?_; rintro e u2 ⟨rfl, hb2⟩; replace HB : Hid (Below w.heap.size w u2) := HB.out.trans (hb2.mono HB.out.size); clear hb2))
              go_ret
              exact ⟨by rw [← HX.out, outlB_no hil HO.out]; rfl, HB.out⟩
            · have HO : Hid (outK d i = true) := by show outK d i = true; rw [HOK.out]; simp [lvN, hlv]
              go_wp2_with (first | (change Calls Tryz.prog 122 #[.agg #[.int .i64 V, .slice ta tn tc]] _ _; refine (itemOk_is HP.out HT.out).mono ?_; rintro e u1 ⟨rfl, hb1⟩; replace HB : Hid (Below w.heap.size w u1) := HB.out.trans (hb1.mono sB); have sB1 := HB.out.size; clear hb1) | (go_at_call 75; refine (levelOf_item V ta tn tc _).mono ?_; rintro e u2 ⟨rfl, hb2⟩; replace HB : Hid (Below w.heap.size w u2) := HB.out.trans (hb2.mono HB.out.size); clear hb2))
              go_roundw
              case rel => exact ⟨i + 1, V, by omega, by go_num, rfl, by rw [← HNX.out]; rfl, by rw [List.range_succ, List.all_append, HAll.out]; simp [HO.out], HB.out⟩
              case measure => simp [intOf]; omega
        · subst hk3
          have c0 : wr.cell? ⟨b, off + i, none⟩ = some (.iface 127 (.agg #[.int .i64 R, .int .i64 C, .slice ca cn cc])) := hcell
          clear hcell
          have HP : Hid (okB R C l = pb) := HPB.out
          cases pb
          · have HO : Hid (outK d i = false) := by show outK d i = false; rw [HOK.out]; rfl
            go_wp2_with (change Calls Tryz.prog 125 #[.agg #[.int .i64 R, .int .i64 C, .slice ca cn cc]] _ _; refine (sheetOk_is HP.out HC.out).mono ?_; rintro e u1 ⟨rfl, hb1⟩; replace HB : Hid (Below w.heap.size w u1) := HB.out.trans (hb1.mono sB); have sB1 := HB.out.size; clear hb1)
            go_ret
            exact ⟨by rw [← HX.out, outlB_no hil HO.out]; rfl, HB.out⟩
          · have HO : Hid (outK d i = true) := by show outK d i = true; rw [HOK.out]; simp [lvN]; omega
            go_wp2_with (first | (change Calls Tryz.prog 125 #[.agg #[.int .i64 R, .int .i64 C, .slice ca cn cc]] _ _; refine (sheetOk_is HP.out HC.out).mono ?_; rintro e u1 ⟨rfl, hb1⟩; replace HB : Hid (Below w.heap.size w u1) := HB.out.trans (hb1.mono sB); have sB1 := HB.out.size; clear hb1) | (go_at_call 75; refine (levelOf_sheet R C ca cn cc _).mono ?_; rintro e u2 ⟨rfl, hb2⟩; replace HB : Hid (Below w.heap.size w u2) := HB.out.trans (hb2.mono HB.out.size); clear hb2))
            go_roundw
            case rel => exact ⟨i + 1, -1, by omega, by go_num, rfl, by rw [← HNX.out]; rfl, by rw [List.range_succ, List.all_append, HAll.out]; simp [HO.out], HB.out⟩
            case measure => simp [intOf]; omega
      · have hib : ¬ (i : Int) < (n : Int) := by omega
        obtain rfl : i = n := by omega
        go_wp2_with fail
        go_ret
        refine ⟨?_, HB.out⟩
        have hd : d.length ≤ 8 := by have := HN.out; omega
        rw [← HX.out]
        unfold outlB
        rw [decide_eq_true hd, Bool.true_and, ← HN.out, HAll.out]
        rfl
end Go.Proofs.YtccoeachemnbnaaGreatDoor
namespace Go.Proofs.YtccoeachemnbnaaGreatDoor
open Go.RowKit

set_option maxRecDepth 100000 in
set_option maxHeartbeats 4000000 in
theorem l3Block_is {k v : Int} {ta : Option Addr} {tn tc : Nat} {R C : Int} {ca : Option Addr} {cn cc : Nat} {t : List Sg} {l : List Cl} {w : World} {x : Bool} (hx : blockB (k, v, t, R, C, l) = x) (ht : Txt w ta tn tc t) (hc : Tab w ca cn cc l) :
    Calls Tryz.prog 46 #[.agg #[.int .i64 k, .int .i64 v, .slice ta tn tc, .int .i64 R, .int .i64 C, .slice ca cn cc]] w fun e w' => e = .returned (.bool x) ∧ Below w.heap.size w w' := by
  have HX : Hid (blockB (k, v, t, R, C, l) = x) := hx
  obtain ⟨tb, HTB⟩ : ∃ b, Hid (textB t = b) := ⟨_, rfl⟩
  obtain ⟨nb, HNB⟩ : ∃ b, Hid (noneB R C l = b) := ⟨_, rfl⟩
  obtain ⟨ob, HOB⟩ : ∃ b, Hid (okB R C l = b) := ⟨_, rfl⟩
  have HTN : Hid ((t = []) ↔ (tn = 0)) := by
    have hn := ht.1
    show (t = []) ↔ (tn = 0)
    rw [hn]
    exact List.length_eq_zero_iff.symm
  go_enter Tryz.func46, Tryz.ntmps46
  go_upto_region 1 with fail
  have B0 : Below w.heap.size w (w.alloc (.cells #[.int .i64 k, .int .i64 v, .slice ta tn tc, .int .i64 R, .int .i64 C, .slice ca cn cc] 56)) := (Below.refl _ _).alloc (Nat.le_refl _) _
  have G0 : RowAt (w.alloc (.cells #[.int .i64 k, .int .i64 v, .slice ta tn tc, .int .i64 R, .int .i64 C, .slice ca cn cc] 56)) w.heap.size #[.int .i64 k, .int .i64 v, .slice ta tn tc, .int .i64 R, .int .i64 C, .slice ca cn cc] 56 := rowAt_new _ _ _
  generalize (w.alloc (.cells #[.int .i64 k, .int .i64 v, .slice ta tn tc, .int .i64 R, .int .i64 C, .slice ca cn cc] 56)) = v0 at B0 G0 ⊢
  have HT0 : Hid (Txt v0 ta tn tc t) := ht.below B0
  have HC0 : Hid (Tab v0 ca cn cc l) := hc.below B0
  have q0 : v0.cell? ⟨w.heap.size, 0, none⟩ = some (.int .i64 k) := G0.cell 0
  have q1 : v0.cell? ⟨w.heap.size, 1, none⟩ = some (.int .i64 v) := G0.cell 1
  have q2 : v0.cell? ⟨w.heap.size, 2, none⟩ = some (.slice ta tn tc) := G0.cell 2
  have q3 : v0.cell? ⟨w.heap.size, 3, none⟩ = some (.int .i64 R) := G0.cell 3
  have q4 : v0.cell? ⟨w.heap.size, 4, none⟩ = some (.int .i64 C) := G0.cell 4
  have q5 : v0.cell? ⟨w.heap.size, 5, none⟩ = some (.slice ca cn cc) := G0.cell 5
  have HB0 : Hid (Below w.heap.size w v0) := B0
  have HG0 : Hid (RowAt v0 w.heap.size #[.int .i64 k, .int .i64 v, .slice ta tn tc, .int .i64 R, .int .i64 C, .slice ca cn cc] 56) := G0
  have z0 := G0.lt
  have s0 := B0.size
  clear B0 G0 ht hc hx
  by_cases h1 : k = 1
  · subst h1
    by_cases hv : v = 0
    · subst hv
      cases tb
      · go_wp2_with (go_at_call 45; refine (specTextOk_is HT0.out HTB.out).mono ?_; rintro e u1 ⟨rfl, hb⟩; have HC1 : Hid (Tab u1 ca cn cc l) := HC0.out.below hb; have HB1 : Hid (Below w.heap.size w u1) := HB0.out.trans (hb.mono s0); have hg := HG0.out.below hb z0; have p3 : u1.cell? ⟨w.heap.size, 3, none⟩ = some (.int .i64 R) := hg.cell 3; have p4 : u1.cell? ⟨w.heap.size, 4, none⟩ = some (.int .i64 C) := hg.cell 4; have p5 : u1.cell? ⟨w.heap.size, 5, none⟩ = some (.slice ca cn cc) := hg.cell 5; have s1 := HB1.out.size; clear hb hg)
        go_ret
        exact ⟨by rw [← HX.out]; simp [blockB, HTB.out], HB1.out⟩
      · cases nb
        · go_wp2_with (first | (go_at_call 45; refine (specTextOk_is HT0.out HTB.out).mono ?_; rintro e u1 ⟨rfl, hb⟩; have HC1 : Hid (Tab u1 ca cn cc l) := HC0.out.below hb; have HB1 : Hid (Below w.heap.size w u1) := HB0.out.trans (hb.mono s0); have hg := HG0.out.below hb z0; have p3 : u1.cell? ⟨w.heap.size, 3, none⟩ = some (.int .i64 R) := hg.cell 3; have p4 : u1.cell? ⟨w.heap.size, 4, none⟩ = some (.int .i64 C) := hg.cell 4; have p5 : u1.cell? ⟨w.heap.size, 5, none⟩ = some (.slice ca cn cc) := hg.cell 5; have s1 := HB1.out.size; clear hb hg) | (go_at_call 66; refine (l3None_is HNB.out HC1.out).mono ?_; rintro e u2 ⟨rfl, hb⟩; have HB2 : Hid (Below w.heap.size w u2) := HB1.out.trans (hb.mono s1); clear hb))
          go_ret
          exact ⟨by rw [← HX.out]; simp [blockB, HTB.out, HNB.out], HB2.out⟩
        · go_wp2_with (first | (go_at_call 45; refine (specTextOk_is HT0.out HTB.out).mono ?_; rintro e u1 ⟨rfl, hb⟩; have HC1 : Hid (Tab u1 ca cn cc l) := HC0.out.below hb; have HB1 : Hid (Below w.heap.size w u1) := HB0.out.trans (hb.mono s0); have hg := HG0.out.below hb z0; have p3 : u1.cell? ⟨w.heap.size, 3, none⟩ = some (.int .i64 R) := hg.cell 3; have p4 : u1.cell? ⟨w.heap.size, 4, none⟩ = some (.int .i64 C) := hg.cell 4; have p5 : u1.cell? ⟨w.heap.size, 5, none⟩ = some (.slice ca cn cc) := hg.cell 5; have s1 := HB1.out.size; clear hb hg) | (go_at_call 66; refine (l3None_is HNB.out HC1.out).mono ?_; rintro e u2 ⟨rfl, hb⟩; have HB2 : Hid (Below w.heap.size w u2) := HB1.out.trans (hb.mono s1); clear hb))
          go_ret
          exact ⟨by rw [← HX.out]; simp [blockB, HTB.out, HNB.out], HB2.out⟩
    · go_wp2_with fail
      go_ret
      exact ⟨by rw [← HX.out]; simp [blockB, hv], HB0.out⟩
  · by_cases h2 : k = 2
    · subst h2
      obtain ⟨lb, HL⟩ : ∃ b, Hid (decide (0 ≤ v ∧ v ≤ 3) = b) := ⟨_, rfl⟩
      cases lb
      · go_wp2_with (go_at_call 26; refine (l6In_of HL.out _).mono ?_; rintro e u0 ⟨rfl, hw0⟩; subst u0)
        go_ret
        exact ⟨by rw [← HX.out]; simp only [blockB, HL.out, Bool.false_and]; simp, HB0.out⟩
      · cases tb
        · go_wp2_with (first | (go_at_call 26; refine (l6In_of HL.out _).mono ?_; rintro e u0 ⟨rfl, hw0⟩; subst u0) | (go_at_call 45; refine (specTextOk_is HT0.out HTB.out).mono ?_; rintro e u1 ⟨rfl, hb⟩; have HC1 : Hid (Tab u1 ca cn cc l) := HC0.out.below hb; have HB1 : Hid (Below w.heap.size w u1) := HB0.out.trans (hb.mono s0); have hg := HG0.out.below hb z0; have p3 : u1.cell? ⟨w.heap.size, 3, none⟩ = some (.int .i64 R) := hg.cell 3; have p4 : u1.cell? ⟨w.heap.size, 4, none⟩ = some (.int .i64 C) := hg.cell 4; have p5 : u1.cell? ⟨w.heap.size, 5, none⟩ = some (.slice ca cn cc) := hg.cell 5; have s1 := HB1.out.size; clear hb hg))
          go_ret
          exact ⟨by rw [← HX.out]; simp [blockB, HTB.out], HB1.out⟩
        · cases nb
          · go_wp2_with (first | (go_at_call 26; refine (l6In_of HL.out _).mono ?_; rintro e u0 ⟨rfl, hw0⟩; subst u0) | (go_at_call 45; refine (specTextOk_is HT0.out HTB.out).mono ?_; rintro e u1 ⟨rfl, hb⟩; have HC1 : Hid (Tab u1 ca cn cc l) := HC0.out.below hb; have HB1 : Hid (Below w.heap.size w u1) := HB0.out.trans (hb.mono s0); have hg := HG0.out.below hb z0; have p3 : u1.cell? ⟨w.heap.size, 3, none⟩ = some (.int .i64 R) := hg.cell 3; have p4 : u1.cell? ⟨w.heap.size, 4, none⟩ = some (.int .i64 C) := hg.cell 4; have p5 : u1.cell? ⟨w.heap.size, 5, none⟩ = some (.slice ca cn cc) := hg.cell 5; have s1 := HB1.out.size; clear hb hg) | (go_at_call 66; refine (l3None_is HNB.out HC1.out).mono ?_; rintro e u2 ⟨rfl, hb⟩; have HB2 : Hid (Below w.heap.size w u2) := HB1.out.trans (hb.mono s1); clear hb))
            go_ret
            exact ⟨by rw [← HX.out]; simp [blockB, HTB.out, HNB.out], HB2.out⟩
          · go_wp2_with (first | (go_at_call 26; refine (l6In_of HL.out _).mono ?_; rintro e u0 ⟨rfl, hw0⟩; subst u0) | (go_at_call 45; refine (specTextOk_is HT0.out HTB.out).mono ?_; rintro e u1 ⟨rfl, hb⟩; have HC1 : Hid (Tab u1 ca cn cc l) := HC0.out.below hb; have HB1 : Hid (Below w.heap.size w u1) := HB0.out.trans (hb.mono s0); have hg := HG0.out.below hb z0; have p3 : u1.cell? ⟨w.heap.size, 3, none⟩ = some (.int .i64 R) := hg.cell 3; have p4 : u1.cell? ⟨w.heap.size, 4, none⟩ = some (.int .i64 C) := hg.cell 4; have p5 : u1.cell? ⟨w.heap.size, 5, none⟩ = some (.slice ca cn cc) := hg.cell 5; have s1 := HB1.out.size; clear hb hg) | (go_at_call 66; refine (l3None_is HNB.out HC1.out).mono ?_; rintro e u2 ⟨rfl, hb⟩; have HB2 : Hid (Below w.heap.size w u2) := HB1.out.trans (hb.mono s1); clear hb))
            go_ret
            exact ⟨by rw [← HX.out]; simp only [blockB, HTB.out, HNB.out, HL.out]; simp, HB2.out⟩
    · by_cases h3 : k = 3
      · subst h3
        by_cases hv : v = 0
        · subst hv
          by_cases ht0 : tn = 0
          · have hte : t = [] := HTN.out.2 ht0
            subst ht0
            cases ob
            · go_wp2_with (go_at_call 67; refine (specTableOk_is HOB.out HC0.out).mono ?_; rintro e u2 ⟨rfl, hb⟩; have HB2 : Hid (Below w.heap.size w u2) := HB0.out.trans (hb.mono s0); clear hb)
              go_ret
              exact ⟨by rw [← HX.out]; simp [blockB, HOB.out, hte], HB2.out⟩
            · go_wp2_with (go_at_call 67; refine (specTableOk_is HOB.out HC0.out).mono ?_; rintro e u2 ⟨rfl, hb⟩; have HB2 : Hid (Below w.heap.size w u2) := HB0.out.trans (hb.mono s0); clear hb)
              go_ret
              exact ⟨by rw [← HX.out]; simp [blockB, HOB.out, hte], HB2.out⟩
          · have hte : ¬ t = [] := fun e => ht0 (HTN.out.1 e)
            go_wp2_with fail
            go_ret
            exact ⟨by rw [← HX.out]; simp [blockB, hte], HB0.out⟩
        · go_wp2_with fail
          go_ret
          exact ⟨by rw [← HX.out]; simp [blockB, hv], HB0.out⟩
      · go_wp2_with fail
        go_ret
        exact ⟨by rw [← HX.out]; simp [blockB, h1, h2, h3], HB0.out⟩
end Go.Proofs.YtccoeachemnbnaaGreatDoor
namespace Go.Proofs.YtccoeachemnbnaaGreatDoor
open Go.RowKit

theorem doc_info : (Tryz.prog.info? 25).map (·.size) = some 1 := by kernel_rfl
set_option maxRecDepth 100000 in
set_option maxHeartbeats 4000000 in
theorem l3Ahead_is {a : Option Addr} {n cap k : Nat} {d : List Bl} {w : World} {x : Int} (hx : aheadN d k = x) (h : Dc w a n cap d) (hk : k < d.length) :
    Calls Tryz.prog 47 #[.agg #[.slice a n cap], .int .i64 k] w fun e w' => e = .returned (.int .i64 x) ∧ Below w.heap.size w w' := by
  have HN : Hid (n = d.length) := h.1
  have hkn : k < n := by have := h.1; omega
  have hc := h.2.1
  have hm := h.2.2.1
  unfold maxLen at hm
  rcases h.2.2.2 with e | ⟨b, off, rfl, hb, hcl⟩
  · rw [e] at hk
    exact absurd hk (by simp)
  go_enter Tryz.func47, Tryz.ntmps47
  go_upto_region 1 with fail
  have B0 : Below w.heap.size w (w.alloc (.cells #[.slice (some ⟨b, off, none⟩) n cap] 25)) := (Below.refl _ _).alloc (Nat.le_refl _) _
  have q0 : (w.alloc (.cells #[.slice (some ⟨b, off, none⟩) n cap] 25)).cell? ⟨w.heap.size, 0, none⟩ = some (.slice (some ⟨b, off, none⟩) n cap) := by simp
  rcases k with _ | j
  · have hx' : x = -1 := by rw [← hx]; rfl
    clear hx
    subst hx'
    generalize (w.alloc (.cells #[.slice (some ⟨b, off, none⟩) n cap] 25)) = v0 at B0 q0 ⊢
    go_wp2_with fail
    go_ret
    exact ⟨rfl, B0⟩
  · have hj : j < d.length := by omega
    obtain ⟨ta, tn, tc, ca, cn, cc, c0, c1, -⟩ := (hcl j hj).below B0 hb
    have hx' : lvN (d.getD j bl0) = x := by rw [← hx]; rfl
    obtain ⟨K, HK⟩ : ∃ K, Hid ((d.getD j bl0).1 = K) := ⟨_, rfl⟩
    obtain ⟨V, HV⟩ : ∃ K, Hid ((d.getD j bl0).2.1 = K) := ⟨_, rfl⟩
    rw [HK.out] at c0
    rw [HV.out] at c1
    unfold lvN at hx'
    rw [HK.out, HV.out] at hx'
    have HX : Hid ((if K = 2 then V else -1) = x) := hx'
    have hj0 : (0 : Int) ≤ (j : Int) := by omega
    have hj1 : (j : Int) < (n : Int) := by omega
    have hj2 : (j : Int) ≤ 9223372036854775806 := by omega
    generalize (w.alloc (.cells #[.slice (some ⟨b, off, none⟩) n cap] 25)) = v0 at B0 q0 c0 c1 ⊢
    clear hcl hx hx'
    by_cases h2 : K = 2
    · subst h2
      have hxe : V = x := by have := HX.out; rw [if_pos rfl] at this; exact this
      go_wp2_with fail
      go_ret
      exact ⟨by rw [← hxe]; rfl, B0⟩
    · have hxe : -1 = x := by have := HX.out; rw [if_neg h2] at this; exact this
      have h2b : (K != 2) = true := by simp [h2]
      go_wp2_with fail
      go_ret
      exact ⟨by rw [← hxe]; rfl, B0⟩
theorem ahead_small {d : List Bl} {i : Nat} (h : (List.range i).all (docK d) = true) : -1 ≤ aheadN d i ∧ aheadN d i ≤ 3 := by
  rcases i with _ | j
  · show (-1 : Int) ≤ -1 ∧ (-1 : Int) ≤ 3
    omega
  · have hj := List.all_eq_true.1 h j (List.mem_range.2 (by omega))
    unfold docK at hj
    rw [Bool.and_eq_true] at hj
    have hb := hj.1
    show -1 ≤ lvN (d.getD j bl0) ∧ lvN (d.getD j bl0) ≤ 3
    unfold lvN
    by_cases h2 : (d.getD j bl0).1 = 2
    · rw [if_pos h2]
      unfold blockB at hb
      rw [if_neg (by omega), if_pos h2] at hb
      simp only [Bool.and_eq_true, decide_eq_true_eq] at hb
      omega
    · rw [if_neg h2]
      omega
theorem docB_no {d : List Bl} {i : Nat} (hi : i < d.length) (h : docK d i = false) : docB d = false := by
  unfold docB
  have : (List.range d.length).all (docK d) = false := by
    cases hq : (List.range d.length).all (docK d)
    · rfl
    · have := List.all_eq_true.1 hq i (List.mem_range.2 hi)
      rw [h] at this
      cases this
  rw [this, Bool.and_false]
set_option maxRecDepth 100000 in
set_option maxHeartbeats 8000000 in
theorem specDocOk_is {a : Option Addr} {n cap : Nat} {d : List Bl} {w : World} {x : Bool} (hx : docB d = x) (h : Dc w a n cap d) :
    Calls Tryz.prog 25 #[.agg #[.slice a n cap]] w fun e w' => e = .returned (.bool x) ∧ Below w.heap.size w w' := by
  have HX : Hid (docB d = x) := hx
  have HN : Hid (n = d.length) := h.1
  have hc := h.2.1
  have hm := h.2.2.1
  unfold maxLen at hm
  have H : Hid (Dc w a n cap d) := h
  clear h hx
  go_enter Tryz.func25, Tryz.ntmps25
  go_upto_region 1 with fail
  have B0 : Below w.heap.size w (w.alloc (.cells #[.slice a n cap] 25)) := (Below.refl _ _).alloc (Nat.le_refl _) _
  have G0 : RowAt (w.alloc (.cells #[.slice a n cap] 25)) w.heap.size #[.slice a n cap] 25 := rowAt_new _ _ _
  generalize (w.alloc (.cells #[.slice a n cap] 25)) = v0 at B0 G0 ⊢
  have HG : Hid (RowAt v0 w.heap.size #[.slice a n cap] 25) := G0
  have HB0 : Hid (Below w.heap.size w v0) := B0
  have q0 : v0.cell? ⟨w.heap.size, 0, none⟩ = some (.slice a n cap) := G0.cell 0
  have z0 := G0.lt
  clear B0 G0
  by_cases h8 : 8 < n
  · have h8' : (8 : Int) < (n : Int) := by omega
    go_wp2_with fail
    go_ret
    refine ⟨?_, HB0.out⟩
    have hd : ¬ d.length ≤ 8 := by have := HN.out; omega
    rw [← HX.out]
    unfold docB
    rw [decide_eq_false hd, Bool.false_and]
    rfl
  · have h8' : ¬ (8 : Int) < (n : Int) := by omega
    go_wp2_with fail
    clear q0
    go_loopw [3] (fun iv wr => ∃ i : Nat, i ≤ n ∧ iv = .int .i64 i ∧ (List.range i).all (docK d) = true ∧ Below w.heap.size w wr ∧ RowAt wr w.heap.size #[.slice a n cap] 25) (fun iv _ => n - (intOf iv).toNat)
    case atStart => exact ⟨0, Nat.zero_le _, rfl, rfl, HB0.out, HG.out⟩
    case round =>
      obtain ⟨i, hi, rfl, hall, hb, hr⟩ := hrel
      have HAll : Hid ((List.range i).all (docK d) = true) := hall
      have HB : Hid (Below w.heap.size w wr) := hb
      have HD : Hid (Dc wr a n cap d) := H.out.below hb
      have HR : Hid (RowAt wr w.heap.size #[.slice a n cap] 25) := hr
      have q1 : wr.cell? ⟨w.heap.size, 0, none⟩ = some (.slice a n cap) := hr.cell 0
      clear hall hb hr
      by_cases hlt : i < n
      · have hil : i < d.length := by have := HN.out; omega
        have hib : (i : Int) < (n : Int) := by omega
        have hi0 : (0 : Int) ≤ (i : Int) := by omega
        rcases HD.out.2.2.2 with e | ⟨b, off, rfl, hbl, hcl⟩
        · rw [e] at hil
          exact absurd hil (by simp)
        obtain ⟨ta, tn, tc, ca, cn, cc, hbi⟩ := hcl i hil
        obtain ⟨⟨K, V, t, R, C, l⟩, hx⟩ : ∃ x, x = d.getD i bl0 := ⟨_, rfl⟩
        rw [← hx] at hbi
        have HI : Hid (BlockIs wr b (off + i * 6) (K, V, t, R, C, l) ta tn tc ca cn cc) := hbi
        have HE : Hid (d.getD i bl0 = (K, V, t, R, C, l)) := hx.symm
        obtain ⟨bb, HBL⟩ : ∃ b, Hid (blockB (K, V, t, R, C, l) = b) := ⟨_, rfl⟩
        obtain ⟨ah, HAH⟩ : ∃ x, Hid (aheadN d i = x) := ⟨_, rfl⟩
        have hah : -1 ≤ ah ∧ ah ≤ 3 := by rw [← HAH.out]; exact ahead_small HAll.out
        have HDE : Hid (docK d i = (bb && !(decide (K = 2) && decide (ah + 1 < V)))) := by
          show docK d i = _
          unfold docK
          rw [HE.out, HBL.out, HAH.out]
        clear hcl hbi hx
        go_upto_region 6 with fail
        clear q1
        cases bb
        · have HDK : Hid (docK d i = false) := by show docK d i = false; rw [HDE.out]; rfl
          refine wp_region_noPanic ?_
          refine wp_region_held_drew (S := fun w' => RowAt w' w.heap.size #[.slice (some ⟨b, off, none⟩) n cap] 25 ∧ BlockIs w' b (off + i * 6) (K, V, t, R, C, l) ta tn tc ca cn cc) (by kernel_rfl) ⟨HR.out, HI.out.below ((Below.refl _ _).drew) hbl⟩ (fun hHeld => ?_)
          refine take_at 0 15 (.pointer (some ⟨w.heap.size, 0, none⟩)) rfl rfl (by kernel_rfl) (by kernel_rfl) (by kernel_rfl) (fun _ _ _ h => h) (Or.inl ⟨by kernel_rfl, fun w' hS' => by go_simp⟩) hHeld ?_
          (try simp only [Act.put, List.setIfInBounds_toArray, List.set_cons_zero, List.set_cons_succ])
          refine take_at 1 16 (.slice (some ⟨b, off, none⟩) n cap) rfl rfl (by kernel_rfl) (by kernel_rfl) (by kernel_rfl) (fun _ _ _ h => h) (Or.inl ⟨by kernel_rfl, fun w' hS' => by have hc := RowAt.cell hS'.1 0; go_simp⟩) hHeld ?_
          (try simp only [Act.put, List.setIfInBounds_toArray, List.set_cons_zero, List.set_cons_succ])
          refine take_at 2 17 (.int .i64 i) rfl rfl (by kernel_rfl) (by kernel_rfl) (by kernel_rfl) (fun _ _ _ h => h) (Or.inl ⟨by kernel_rfl, fun w' hS' => by go_simp⟩) hHeld ?_
          (try simp only [Act.put, List.setIfInBounds_toArray, List.set_cons_zero, List.set_cons_succ])
          refine take_at 3 18 (.pointer (some ⟨b, off + i * 6, none⟩)) rfl rfl (by kernel_rfl) (by kernel_rfl) (by kernel_rfl) (fun _ _ _ h => h) (Or.inl ⟨by kernel_rfl, fun w' hS' => by go_simp⟩) hHeld ?_
          (try simp only [Act.put, List.setIfInBounds_toArray, List.set_cons_zero, List.set_cons_succ])
          refine take_at 4 19 (.agg #[.int .i64 K, .int .i64 V, .slice ta tn tc, .int .i64 R, .int .i64 C, .slice ca cn cc]) rfl rfl (by kernel_rfl) (by kernel_rfl) (by kernel_rfl) (fun _ _ _ h => h) (Or.inl ⟨by kernel_rfl, fun w' hS' => by obtain ⟨e0, e1, e2, e3, e4, e5, -, -⟩ := hS'.2; go_simp⟩) hHeld ?_
          (try simp only [Act.put, List.setIfInBounds_toArray, List.set_cons_zero, List.set_cons_succ])
          replace HB : Hid (Below w.heap.size w wr.drew) := HB.out.drew
          replace HD : Hid (Dc wr.drew (some ⟨b, off, none⟩) n cap d) := HD.out.below ((Below.refl _ _).drew)
          replace hbl : b < wr.drew.heap.size := hbl
          clear HR HI
          generalize wr.drew = u0 at HB HD hbl hHeld ⊢
          refine wpAnyH_ready (rs := [5]) (by kernel_rfl) (by simp) ?_
          refine AllReadyH.cons rfl (fun K0 hK => ?_) AllReadyH.nil
          go_simp
          go_at_call 46
          refine (l3Block_is HBL.out hHeld.2.2.2.2.2.2.2.1 hHeld.2.2.2.2.2.2.2.2).mono ?_
          rintro e u1 ⟨rfl, hb1⟩
          replace HB : Hid (Below w.heap.size w u1) := HB.out.trans (hb1.mono HB.out.size)
          have HH : Hid (RowAt u1 w.heap.size #[.slice (some ⟨b, off, none⟩) n cap] 25 ∧ BlockIs u1 b (off + i * 6) (K, V, t, R, C, l) ta tn tc ca cn cc) := ⟨hHeld.1.below hb1 hHeld.1.lt, hHeld.2.below hb1 (by have := hb1.size; omega)⟩
          replace HD : Hid (Dc u1 (some ⟨b, off, none⟩) n cap d) := HD.out.below hb1
          replace hbl : b < u1.heap.size := by have := hb1.size; omega
          clear hb1 hHeld
          go_wp2_with fail
          refine hK.out _ _ HH.out (fun hHeld => ?_)
          clear hK K0 HH
          (try simp only [Act.put, List.setIfInBounds_toArray, List.set_cons_zero, List.set_cons_succ])
          refine take_at 6 21 (.bool true) rfl rfl (by kernel_rfl) (by kernel_rfl) (by kernel_rfl) (fun _ _ _ h => h) (Or.inl ⟨by kernel_rfl, fun w' hS' => by go_simp⟩) hHeld ?_
          (try simp only [Act.put, List.setIfInBounds_toArray, List.set_cons_zero, List.set_cons_succ])
          refine take_at 7 22 (.bool true) rfl rfl (by kernel_rfl) (by kernel_rfl) (by kernel_rfl) (fun _ _ _ h => h) (Or.inl ⟨by kernel_rfl, fun w' hS' => by go_simp⟩) hHeld ?_
          (try simp only [Act.put, List.setIfInBounds_toArray, List.set_cons_zero, List.set_cons_succ])
          refine take_at 8 23 (undef) rfl rfl (by kernel_rfl) (by kernel_rfl) (by kernel_rfl) (fun _ _ _ h => h) (Or.inr ⟨by kernel_rfl, rfl⟩) hHeld ?_
          (try simp only [Act.put, List.setIfInBounds_toArray, List.set_cons_zero, List.set_cons_succ])
          refine take_at 9 24 (undef) rfl rfl (by kernel_rfl) (by kernel_rfl) (by kernel_rfl) (fun _ _ _ h => h) (Or.inr ⟨by kernel_rfl, rfl⟩) hHeld ?_
          (try simp only [Act.put, List.setIfInBounds_toArray, List.set_cons_zero, List.set_cons_succ])
          refine take_at 10 25 (undef) rfl rfl (by kernel_rfl) (by kernel_rfl) (by kernel_rfl) (fun _ _ _ h => h) (Or.inr ⟨by kernel_rfl, rfl⟩) hHeld ?_
          (try simp only [Act.put, List.setIfInBounds_toArray, List.set_cons_zero, List.set_cons_succ])
          refine take_at 11 26 (undef) rfl rfl (by kernel_rfl) (by kernel_rfl) (by kernel_rfl) (fun _ _ _ h => h) (Or.inr ⟨by kernel_rfl, rfl⟩) hHeld ?_
          (try simp only [Act.put, List.setIfInBounds_toArray, List.set_cons_zero, List.set_cons_succ])
          refine take_at 12 27 (undef) rfl rfl (by kernel_rfl) (by kernel_rfl) (by kernel_rfl) (fun _ _ _ h => h) (Or.inr ⟨by kernel_rfl, rfl⟩) hHeld ?_
          (try simp only [Act.put, List.setIfInBounds_toArray, List.set_cons_zero, List.set_cons_succ])
          refine take_at 13 28 (undef) rfl rfl (by kernel_rfl) (by kernel_rfl) (by kernel_rfl) (fun _ _ _ h => h) (Or.inr ⟨by kernel_rfl, rfl⟩) hHeld ?_
          (try simp only [Act.put, List.setIfInBounds_toArray, List.set_cons_zero, List.set_cons_succ])
          refine take_at 14 29 (undef) rfl rfl (by kernel_rfl) (by kernel_rfl) (by kernel_rfl) (fun _ _ _ h => h) (Or.inr ⟨by kernel_rfl, rfl⟩) hHeld ?_
          (try simp only [Act.put, List.setIfInBounds_toArray, List.set_cons_zero, List.set_cons_succ])
          refine take_at 15 30 (undef) rfl rfl (by kernel_rfl) (by kernel_rfl) (by kernel_rfl) (fun _ _ _ h => h) (Or.inr ⟨by kernel_rfl, rfl⟩) hHeld ?_
          (try simp only [Act.put, List.setIfInBounds_toArray, List.set_cons_zero, List.set_cons_succ])
          refine take_at 16 31 (undef) rfl rfl (by kernel_rfl) (by kernel_rfl) (by kernel_rfl) (fun _ _ _ h => h) (Or.inr ⟨by kernel_rfl, rfl⟩) hHeld ?_
          (try simp only [Act.put, List.setIfInBounds_toArray, List.set_cons_zero, List.set_cons_succ])
          refine take_at 17 32 (undef) rfl rfl (by kernel_rfl) (by kernel_rfl) (by kernel_rfl) (fun _ _ _ h => h) (Or.inr ⟨by kernel_rfl, rfl⟩) hHeld ?_
          (try simp only [Act.put, List.setIfInBounds_toArray, List.set_cons_zero, List.set_cons_succ])
          refine take_at 18 33 (undef) rfl rfl (by kernel_rfl) (by kernel_rfl) (by kernel_rfl) (fun _ _ _ h => h) (Or.inr ⟨by kernel_rfl, rfl⟩) hHeld ?_
          (try simp only [Act.put, List.setIfInBounds_toArray, List.set_cons_zero, List.set_cons_succ])
          refine take_at 19 34 (undef) rfl rfl (by kernel_rfl) (by kernel_rfl) (by kernel_rfl) (fun _ _ _ h => h) (Or.inr ⟨by kernel_rfl, rfl⟩) hHeld ?_
          (try simp only [Act.put, List.setIfInBounds_toArray, List.set_cons_zero, List.set_cons_succ])
          refine take_at 20 35 (undef) rfl rfl (by kernel_rfl) (by kernel_rfl) (by kernel_rfl) (fun _ _ _ h => h) (Or.inr ⟨by kernel_rfl, rfl⟩) hHeld ?_
          (try simp only [Act.put, List.setIfInBounds_toArray, List.set_cons_zero, List.set_cons_succ])
          refine take_at 21 36 (undef) rfl rfl (by kernel_rfl) (by kernel_rfl) (by kernel_rfl) (fun _ _ _ h => h) (Or.inr ⟨by kernel_rfl, rfl⟩) hHeld ?_
          (try simp only [Act.put, List.setIfInBounds_toArray, List.set_cons_zero, List.set_cons_succ])
          refine take_at 22 37 (undef) rfl rfl (by kernel_rfl) (by kernel_rfl) (by kernel_rfl) (fun _ _ _ h => h) (Or.inr ⟨by kernel_rfl, rfl⟩) hHeld ?_
          (try simp only [Act.put, List.setIfInBounds_toArray, List.set_cons_zero, List.set_cons_succ])
          refine take_at 23 38 (undef) rfl rfl (by kernel_rfl) (by kernel_rfl) (by kernel_rfl) (fun _ _ _ h => h) (Or.inr ⟨by kernel_rfl, rfl⟩) hHeld ?_
          (try simp only [Act.put, List.setIfInBounds_toArray, List.set_cons_zero, List.set_cons_succ])
          refine take_at 24 39 (undef) rfl rfl (by kernel_rfl) (by kernel_rfl) (by kernel_rfl) (fun _ _ _ h => h) (Or.inr ⟨by kernel_rfl, rfl⟩) hHeld ?_
          (try simp only [Act.put, List.setIfInBounds_toArray, List.set_cons_zero, List.set_cons_succ])
          refine take_at 25 40 (undef) rfl rfl (by kernel_rfl) (by kernel_rfl) (by kernel_rfl) (fun _ _ _ h => h) (Or.inr ⟨by kernel_rfl, rfl⟩) hHeld ?_
          (try simp only [Act.put, List.setIfInBounds_toArray, List.set_cons_zero, List.set_cons_succ])
          refine take_at 26 41 (undef) rfl rfl (by kernel_rfl) (by kernel_rfl) (by kernel_rfl) (fun _ _ _ h => h) (Or.inr ⟨by kernel_rfl, rfl⟩) hHeld ?_
          (try simp only [Act.put, List.setIfInBounds_toArray, List.set_cons_zero, List.set_cons_succ])
          refine take_at 27 42 (undef) rfl rfl (by kernel_rfl) (by kernel_rfl) (by kernel_rfl) (fun _ _ _ h => h) (Or.inr ⟨by kernel_rfl, rfl⟩) hHeld ?_
          (try simp only [Act.put, List.setIfInBounds_toArray, List.set_cons_zero, List.set_cons_succ])
          refine take_at 28 43 (.bool true) rfl rfl (by kernel_rfl) (by kernel_rfl) (by kernel_rfl) (fun _ _ _ h => h) (Or.inl ⟨by kernel_rfl, fun w' hS' => by go_simp⟩) hHeld ?_
          (try simp only [Act.put, List.setIfInBounds_toArray, List.set_cons_zero, List.set_cons_succ])
          refine wpAnyH_done (by kernel_rfl) ?_ _
          refine NoPanic.normal ?_
          clear hHeld
          go_wp2_with fail
          go_ret
          exact ⟨by rw [docB_no hil HDK.out] at HX; rw [← HX.out]; rfl, HB.out⟩
        · by_cases hk2 : K = 2
          · subst hk2
            by_cases hlv : ah + 1 < V
            · have HDK : Hid (docK d i = false) := by show docK d i = false; rw [HDE.out]; simp [hlv]
              refine wp_region_noPanic ?_
              refine wp_region_held_drew (S := fun w' => RowAt w' w.heap.size #[.slice (some ⟨b, off, none⟩) n cap] 25 ∧ BlockIs w' b (off + i * 6) (2, V, t, R, C, l) ta tn tc ca cn cc) (by kernel_rfl) ⟨HR.out, HI.out.below ((Below.refl _ _).drew) hbl⟩ (fun hHeld => ?_)
              refine take_at 0 15 (.pointer (some ⟨w.heap.size, 0, none⟩)) rfl rfl (by kernel_rfl) (by kernel_rfl) (by kernel_rfl) (fun _ _ _ h => h) (Or.inl ⟨by kernel_rfl, fun w' hS' => by go_simp⟩) hHeld ?_
              (try simp only [Act.put, List.setIfInBounds_toArray, List.set_cons_zero, List.set_cons_succ])
              refine take_at 1 16 (.slice (some ⟨b, off, none⟩) n cap) rfl rfl (by kernel_rfl) (by kernel_rfl) (by kernel_rfl) (fun _ _ _ h => h) (Or.inl ⟨by kernel_rfl, fun w' hS' => by have hc := RowAt.cell hS'.1 0; go_simp⟩) hHeld ?_
              (try simp only [Act.put, List.setIfInBounds_toArray, List.set_cons_zero, List.set_cons_succ])
              refine take_at 2 17 (.int .i64 i) rfl rfl (by kernel_rfl) (by kernel_rfl) (by kernel_rfl) (fun _ _ _ h => h) (Or.inl ⟨by kernel_rfl, fun w' hS' => by go_simp⟩) hHeld ?_
              (try simp only [Act.put, List.setIfInBounds_toArray, List.set_cons_zero, List.set_cons_succ])
              refine take_at 3 18 (.pointer (some ⟨b, off + i * 6, none⟩)) rfl rfl (by kernel_rfl) (by kernel_rfl) (by kernel_rfl) (fun _ _ _ h => h) (Or.inl ⟨by kernel_rfl, fun w' hS' => by go_simp⟩) hHeld ?_
              (try simp only [Act.put, List.setIfInBounds_toArray, List.set_cons_zero, List.set_cons_succ])
              refine take_at 4 19 (.agg #[.int .i64 2, .int .i64 V, .slice ta tn tc, .int .i64 R, .int .i64 C, .slice ca cn cc]) rfl rfl (by kernel_rfl) (by kernel_rfl) (by kernel_rfl) (fun _ _ _ h => h) (Or.inl ⟨by kernel_rfl, fun w' hS' => by obtain ⟨e0, e1, e2, e3, e4, e5, -, -⟩ := hS'.2; go_simp⟩) hHeld ?_
              (try simp only [Act.put, List.setIfInBounds_toArray, List.set_cons_zero, List.set_cons_succ])
              replace HB : Hid (Below w.heap.size w wr.drew) := HB.out.drew
              replace HD : Hid (Dc wr.drew (some ⟨b, off, none⟩) n cap d) := HD.out.below ((Below.refl _ _).drew)
              replace hbl : b < wr.drew.heap.size := hbl
              clear HR HI
              generalize wr.drew = u0 at HB HD hbl hHeld ⊢
              refine wpAnyH_ready (rs := [5]) (by kernel_rfl) (by simp) ?_
              refine AllReadyH.cons rfl (fun K0 hK => ?_) AllReadyH.nil
              go_simp
              go_at_call 46
              refine (l3Block_is HBL.out hHeld.2.2.2.2.2.2.2.1 hHeld.2.2.2.2.2.2.2.2).mono ?_
              rintro e u1 ⟨rfl, hb1⟩
              replace HB : Hid (Below w.heap.size w u1) := HB.out.trans (hb1.mono HB.out.size)
              have HH : Hid (RowAt u1 w.heap.size #[.slice (some ⟨b, off, none⟩) n cap] 25 ∧ BlockIs u1 b (off + i * 6) (2, V, t, R, C, l) ta tn tc ca cn cc) := ⟨hHeld.1.below hb1 hHeld.1.lt, hHeld.2.below hb1 (by have := hb1.size; omega)⟩
              replace HD : Hid (Dc u1 (some ⟨b, off, none⟩) n cap d) := HD.out.below hb1
              replace hbl : b < u1.heap.size := by have := hb1.size; omega
              clear hb1 hHeld
              go_wp2_with fail
              refine hK.out _ _ HH.out (fun hHeld => ?_)
              clear hK K0 HH
              (try simp only [Act.put, List.setIfInBounds_toArray, List.set_cons_zero, List.set_cons_succ])
              refine take_at 6 21 (.bool false) rfl rfl (by kernel_rfl) (by kernel_rfl) (by kernel_rfl) (fun _ _ _ h => h) (Or.inl ⟨by kernel_rfl, fun w' hS' => by go_simp⟩) hHeld ?_
              (try simp only [Act.put, List.setIfInBounds_toArray, List.set_cons_zero, List.set_cons_succ])
              refine take_at 7 22 (.bool false) rfl rfl (by kernel_rfl) (by kernel_rfl) (by kernel_rfl) (fun _ _ _ h => h) (Or.inl ⟨by kernel_rfl, fun w' hS' => by go_simp⟩) hHeld ?_
              (try simp only [Act.put, List.setIfInBounds_toArray, List.set_cons_zero, List.set_cons_succ])
              refine take_at 8 23 (.pointer (some ⟨w.heap.size, 0, none⟩)) rfl rfl (by kernel_rfl) (by kernel_rfl) (by kernel_rfl) (fun _ _ _ h => h) (Or.inl ⟨by kernel_rfl, fun w' hS' => by go_simp⟩) hHeld ?_
              (try simp only [Act.put, List.setIfInBounds_toArray, List.set_cons_zero, List.set_cons_succ])
              refine take_at 9 24 (.slice (some ⟨b, off, none⟩) n cap) rfl rfl (by kernel_rfl) (by kernel_rfl) (by kernel_rfl) (fun _ _ _ h => h) (Or.inl ⟨by kernel_rfl, fun w' hS' => by have hc := RowAt.cell hS'.1 0; go_simp⟩) hHeld ?_
              (try simp only [Act.put, List.setIfInBounds_toArray, List.set_cons_zero, List.set_cons_succ])
              refine take_at 10 25 (.int .i64 i) rfl rfl (by kernel_rfl) (by kernel_rfl) (by kernel_rfl) (fun _ _ _ h => h) (Or.inl ⟨by kernel_rfl, fun w' hS' => by go_simp⟩) hHeld ?_
              (try simp only [Act.put, List.setIfInBounds_toArray, List.set_cons_zero, List.set_cons_succ])
              refine take_at 11 26 (.pointer (some ⟨b, off + i * 6, none⟩)) rfl rfl (by kernel_rfl) (by kernel_rfl) (by kernel_rfl) (fun _ _ _ h => h) (Or.inl ⟨by kernel_rfl, fun w' hS' => by go_simp⟩) hHeld ?_
              (try simp only [Act.put, List.setIfInBounds_toArray, List.set_cons_zero, List.set_cons_succ])
              refine take_at 12 27 (.pointer (some ⟨b, off + i * 6, none⟩)) rfl rfl (by kernel_rfl) (by kernel_rfl) (by kernel_rfl) (fun _ _ _ h => h) (Or.inl ⟨by kernel_rfl, fun w' hS' => by go_simp⟩) hHeld ?_
              (try simp only [Act.put, List.setIfInBounds_toArray, List.set_cons_zero, List.set_cons_succ])
              refine take_at 13 28 (.int .i64 2) rfl rfl (by kernel_rfl) (by kernel_rfl) (by kernel_rfl) (fun _ _ _ h => h) (Or.inl ⟨by kernel_rfl, fun w' hS' => by have hc := hS'.2.1; go_simp⟩) hHeld ?_
              (try simp only [Act.put, List.setIfInBounds_toArray, List.set_cons_zero, List.set_cons_succ])
              refine take_at 14 29 (.bool true) rfl rfl (by kernel_rfl) (by kernel_rfl) (by kernel_rfl) (fun _ _ _ h => h) (Or.inl ⟨by kernel_rfl, fun w' hS' => by go_simp⟩) hHeld ?_
              (try simp only [Act.put, List.setIfInBounds_toArray, List.set_cons_zero, List.set_cons_succ])
              refine take_at 15 30 (.bool true) rfl rfl (by kernel_rfl) (by kernel_rfl) (by kernel_rfl) (fun _ _ _ h => h) (Or.inl ⟨by kernel_rfl, fun w' hS' => by go_simp⟩) hHeld ?_
              (try simp only [Act.put, List.setIfInBounds_toArray, List.set_cons_zero, List.set_cons_succ])
              refine take_at 16 31 (.pointer (some ⟨w.heap.size, 0, none⟩)) rfl rfl (by kernel_rfl) (by kernel_rfl) (by kernel_rfl) (fun _ _ _ h => h) (Or.inl ⟨by kernel_rfl, fun w' hS' => by go_simp⟩) hHeld ?_
              (try simp only [Act.put, List.setIfInBounds_toArray, List.set_cons_zero, List.set_cons_succ])
              refine take_at 17 32 (.slice (some ⟨b, off, none⟩) n cap) rfl rfl (by kernel_rfl) (by kernel_rfl) (by kernel_rfl) (fun _ _ _ h => h) (Or.inl ⟨by kernel_rfl, fun w' hS' => by have hc := RowAt.cell hS'.1 0; go_simp⟩) hHeld ?_
              (try simp only [Act.put, List.setIfInBounds_toArray, List.set_cons_zero, List.set_cons_succ])
              refine take_at 18 33 (.int .i64 i) rfl rfl (by kernel_rfl) (by kernel_rfl) (by kernel_rfl) (fun _ _ _ h => h) (Or.inl ⟨by kernel_rfl, fun w' hS' => by go_simp⟩) hHeld ?_
              (try simp only [Act.put, List.setIfInBounds_toArray, List.set_cons_zero, List.set_cons_succ])
              refine take_at 19 34 (.pointer (some ⟨b, off + i * 6, none⟩)) rfl rfl (by kernel_rfl) (by kernel_rfl) (by kernel_rfl) (fun _ _ _ h => h) (Or.inl ⟨by kernel_rfl, fun w' hS' => by go_simp⟩) hHeld ?_
              (try simp only [Act.put, List.setIfInBounds_toArray, List.set_cons_zero, List.set_cons_succ])
              refine take_at 20 35 (.pointer (some ⟨b, off + i * 6 + 1, none⟩)) rfl rfl (by kernel_rfl) (by kernel_rfl) (by kernel_rfl) (fun _ _ _ h => h) (Or.inl ⟨by kernel_rfl, fun w' hS' => by go_simp⟩) hHeld ?_
              (try simp only [Act.put, List.setIfInBounds_toArray, List.set_cons_zero, List.set_cons_succ])
              refine take_at 21 36 (.int .i64 V) rfl rfl (by kernel_rfl) (by kernel_rfl) (by kernel_rfl) (fun _ _ _ h => h) (Or.inl ⟨by kernel_rfl, fun w' hS' => by have hc := hS'.2.2.1; go_simp⟩) hHeld ?_
              (try simp only [Act.put, List.setIfInBounds_toArray, List.set_cons_zero, List.set_cons_succ])
              refine take_at 22 37 (.agg #[.slice (some ⟨b, off, none⟩) n cap]) rfl rfl (by kernel_rfl) (by kernel_rfl) (by kernel_rfl) (fun _ _ _ h => h) (yieldsIf_load_row (by kernel_rfl) 25 (.tmp 1) rfl w.heap.size rfl 25 #[.slice (some ⟨b, off, none⟩) n cap] (0, 0) _ (fun w' h => h.1) Tryz.underlying25 rfl doc_info) hHeld ?_
              (try simp only [Act.put, List.setIfInBounds_toArray, List.set_cons_zero, List.set_cons_succ])
              refine take_at 23 38 (.int .i64 i) rfl rfl (by kernel_rfl) (by kernel_rfl) (by kernel_rfl) (fun _ _ _ h => h) (Or.inl ⟨by kernel_rfl, fun w' hS' => by go_simp⟩) hHeld ?_
              (try simp only [Act.put, List.setIfInBounds_toArray, List.set_cons_zero, List.set_cons_succ])
              refine wpAnyH_ready (rs := [24]) (by kernel_rfl) (by simp) ?_
              refine AllReadyH.cons rfl (fun K0 hK => ?_) AllReadyH.nil
              go_simp
              go_at_call 47
              refine (l3Ahead_is HAH.out HD.out hil).mono ?_
              rintro e u2 ⟨rfl, hb1⟩
              replace HB : Hid (Below w.heap.size w u2) := HB.out.trans (hb1.mono HB.out.size)
              have HH : Hid (RowAt u2 w.heap.size #[.slice (some ⟨b, off, none⟩) n cap] 25 ∧ BlockIs u2 b (off + i * 6) (2, V, t, R, C, l) ta tn tc ca cn cc) := ⟨hHeld.1.below hb1 hHeld.1.lt, hHeld.2.below hb1 (by have := hb1.size; omega)⟩
              replace HD : Hid (Dc u2 (some ⟨b, off, none⟩) n cap d) := HD.out.below hb1
              replace hbl : b < u2.heap.size := by have := hb1.size; omega
              clear hb1 hHeld
              go_wp2_with fail
              refine hK.out _ _ HH.out (fun hHeld => ?_)
              clear hK K0 HH
              (try simp only [Act.put, List.setIfInBounds_toArray, List.set_cons_zero, List.set_cons_succ])
              refine take_at 25 40 (.int .i64 (ah + 1)) rfl rfl (by kernel_rfl) (by kernel_rfl) (by kernel_rfl) (fun _ _ _ h => h) (Or.inl ⟨by kernel_rfl, fun w' hS' => by go_simp; rw [IntKind.wrap_i64]; omega⟩) hHeld ?_
              (try simp only [Act.put, List.setIfInBounds_toArray, List.set_cons_zero, List.set_cons_succ])
              refine take_at 26 41 (.bool true) rfl rfl (by kernel_rfl) (by kernel_rfl) (by kernel_rfl) (fun _ _ _ h => h) (Or.inl ⟨by kernel_rfl, fun w' hS' => by go_simp <;> omega⟩) hHeld ?_
              (try simp only [Act.put, List.setIfInBounds_toArray, List.set_cons_zero, List.set_cons_succ])
              refine take_at 27 42 (.bool true) rfl rfl (by kernel_rfl) (by kernel_rfl) (by kernel_rfl) (fun _ _ _ h => h) (Or.inl ⟨by kernel_rfl, fun w' hS' => by go_simp⟩) hHeld ?_
              (try simp only [Act.put, List.setIfInBounds_toArray, List.set_cons_zero, List.set_cons_succ])
              refine take_at 28 43 (.bool true) rfl rfl (by kernel_rfl) (by kernel_rfl) (by kernel_rfl) (fun _ _ _ h => h) (Or.inl ⟨by kernel_rfl, fun w' hS' => by go_simp⟩) hHeld ?_
              (try simp only [Act.put, List.setIfInBounds_toArray, List.set_cons_zero, List.set_cons_succ])
              refine wpAnyH_done (by kernel_rfl) ?_ _
              refine NoPanic.normal ?_
              clear hHeld
              go_wp2_with fail
              go_ret
              exact ⟨by rw [docB_no hil HDK.out] at HX; rw [← HX.out]; rfl, HB.out⟩
            · have HDK : Hid (docK d i = true) := by show docK d i = true; rw [HDE.out]; simp [hlv]
              refine wp_region_noPanic ?_
              refine wp_region_held_drew (S := fun w' => RowAt w' w.heap.size #[.slice (some ⟨b, off, none⟩) n cap] 25 ∧ BlockIs w' b (off + i * 6) (2, V, t, R, C, l) ta tn tc ca cn cc) (by kernel_rfl) ⟨HR.out, HI.out.below ((Below.refl _ _).drew) hbl⟩ (fun hHeld => ?_)
              refine take_at 0 15 (.pointer (some ⟨w.heap.size, 0, none⟩)) rfl rfl (by kernel_rfl) (by kernel_rfl) (by kernel_rfl) (fun _ _ _ h => h) (Or.inl ⟨by kernel_rfl, fun w' hS' => by go_simp⟩) hHeld ?_
              (try simp only [Act.put, List.setIfInBounds_toArray, List.set_cons_zero, List.set_cons_succ])
              refine take_at 1 16 (.slice (some ⟨b, off, none⟩) n cap) rfl rfl (by kernel_rfl) (by kernel_rfl) (by kernel_rfl) (fun _ _ _ h => h) (Or.inl ⟨by kernel_rfl, fun w' hS' => by have hc := RowAt.cell hS'.1 0; go_simp⟩) hHeld ?_
              (try simp only [Act.put, List.setIfInBounds_toArray, List.set_cons_zero, List.set_cons_succ])
              refine take_at 2 17 (.int .i64 i) rfl rfl (by kernel_rfl) (by kernel_rfl) (by kernel_rfl) (fun _ _ _ h => h) (Or.inl ⟨by kernel_rfl, fun w' hS' => by go_simp⟩) hHeld ?_
              (try simp only [Act.put, List.setIfInBounds_toArray, List.set_cons_zero, List.set_cons_succ])
              refine take_at 3 18 (.pointer (some ⟨b, off + i * 6, none⟩)) rfl rfl (by kernel_rfl) (by kernel_rfl) (by kernel_rfl) (fun _ _ _ h => h) (Or.inl ⟨by kernel_rfl, fun w' hS' => by go_simp⟩) hHeld ?_
              (try simp only [Act.put, List.setIfInBounds_toArray, List.set_cons_zero, List.set_cons_succ])
              refine take_at 4 19 (.agg #[.int .i64 2, .int .i64 V, .slice ta tn tc, .int .i64 R, .int .i64 C, .slice ca cn cc]) rfl rfl (by kernel_rfl) (by kernel_rfl) (by kernel_rfl) (fun _ _ _ h => h) (Or.inl ⟨by kernel_rfl, fun w' hS' => by obtain ⟨e0, e1, e2, e3, e4, e5, -, -⟩ := hS'.2; go_simp⟩) hHeld ?_
              (try simp only [Act.put, List.setIfInBounds_toArray, List.set_cons_zero, List.set_cons_succ])
              replace HB : Hid (Below w.heap.size w wr.drew) := HB.out.drew
              replace HD : Hid (Dc wr.drew (some ⟨b, off, none⟩) n cap d) := HD.out.below ((Below.refl _ _).drew)
              replace hbl : b < wr.drew.heap.size := hbl
              clear HR HI
              generalize wr.drew = u0 at HB HD hbl hHeld ⊢
              refine wpAnyH_ready (rs := [5]) (by kernel_rfl) (by simp) ?_
              refine AllReadyH.cons rfl (fun K0 hK => ?_) AllReadyH.nil
              go_simp
              go_at_call 46
              refine (l3Block_is HBL.out hHeld.2.2.2.2.2.2.2.1 hHeld.2.2.2.2.2.2.2.2).mono ?_
              rintro e u1 ⟨rfl, hb1⟩
              replace HB : Hid (Below w.heap.size w u1) := HB.out.trans (hb1.mono HB.out.size)
              have HH : Hid (RowAt u1 w.heap.size #[.slice (some ⟨b, off, none⟩) n cap] 25 ∧ BlockIs u1 b (off + i * 6) (2, V, t, R, C, l) ta tn tc ca cn cc) := ⟨hHeld.1.below hb1 hHeld.1.lt, hHeld.2.below hb1 (by have := hb1.size; omega)⟩
              replace HD : Hid (Dc u1 (some ⟨b, off, none⟩) n cap d) := HD.out.below hb1
              replace hbl : b < u1.heap.size := by have := hb1.size; omega
              clear hb1 hHeld
              go_wp2_with fail
              refine hK.out _ _ HH.out (fun hHeld => ?_)
              clear hK K0 HH
              (try simp only [Act.put, List.setIfInBounds_toArray, List.set_cons_zero, List.set_cons_succ])
              refine take_at 6 21 (.bool false) rfl rfl (by kernel_rfl) (by kernel_rfl) (by kernel_rfl) (fun _ _ _ h => h) (Or.inl ⟨by kernel_rfl, fun w' hS' => by go_simp⟩) hHeld ?_
              (try simp only [Act.put, List.setIfInBounds_toArray, List.set_cons_zero, List.set_cons_succ])
              refine take_at 7 22 (.bool false) rfl rfl (by kernel_rfl) (by kernel_rfl) (by kernel_rfl) (fun _ _ _ h => h) (Or.inl ⟨by kernel_rfl, fun w' hS' => by go_simp⟩) hHeld ?_
              (try simp only [Act.put, List.setIfInBounds_toArray, List.set_cons_zero, List.set_cons_succ])
              refine take_at 8 23 (.pointer (some ⟨w.heap.size, 0, none⟩)) rfl rfl (by kernel_rfl) (by kernel_rfl) (by kernel_rfl) (fun _ _ _ h => h) (Or.inl ⟨by kernel_rfl, fun w' hS' => by go_simp⟩) hHeld ?_
              (try simp only [Act.put, List.setIfInBounds_toArray, List.set_cons_zero, List.set_cons_succ])
              refine take_at 9 24 (.slice (some ⟨b, off, none⟩) n cap) rfl rfl (by kernel_rfl) (by kernel_rfl) (by kernel_rfl) (fun _ _ _ h => h) (Or.inl ⟨by kernel_rfl, fun w' hS' => by have hc := RowAt.cell hS'.1 0; go_simp⟩) hHeld ?_
              (try simp only [Act.put, List.setIfInBounds_toArray, List.set_cons_zero, List.set_cons_succ])
              refine take_at 10 25 (.int .i64 i) rfl rfl (by kernel_rfl) (by kernel_rfl) (by kernel_rfl) (fun _ _ _ h => h) (Or.inl ⟨by kernel_rfl, fun w' hS' => by go_simp⟩) hHeld ?_
              (try simp only [Act.put, List.setIfInBounds_toArray, List.set_cons_zero, List.set_cons_succ])
              refine take_at 11 26 (.pointer (some ⟨b, off + i * 6, none⟩)) rfl rfl (by kernel_rfl) (by kernel_rfl) (by kernel_rfl) (fun _ _ _ h => h) (Or.inl ⟨by kernel_rfl, fun w' hS' => by go_simp⟩) hHeld ?_
              (try simp only [Act.put, List.setIfInBounds_toArray, List.set_cons_zero, List.set_cons_succ])
              refine take_at 12 27 (.pointer (some ⟨b, off + i * 6, none⟩)) rfl rfl (by kernel_rfl) (by kernel_rfl) (by kernel_rfl) (fun _ _ _ h => h) (Or.inl ⟨by kernel_rfl, fun w' hS' => by go_simp⟩) hHeld ?_
              (try simp only [Act.put, List.setIfInBounds_toArray, List.set_cons_zero, List.set_cons_succ])
              refine take_at 13 28 (.int .i64 2) rfl rfl (by kernel_rfl) (by kernel_rfl) (by kernel_rfl) (fun _ _ _ h => h) (Or.inl ⟨by kernel_rfl, fun w' hS' => by have hc := hS'.2.1; go_simp⟩) hHeld ?_
              (try simp only [Act.put, List.setIfInBounds_toArray, List.set_cons_zero, List.set_cons_succ])
              refine take_at 14 29 (.bool true) rfl rfl (by kernel_rfl) (by kernel_rfl) (by kernel_rfl) (fun _ _ _ h => h) (Or.inl ⟨by kernel_rfl, fun w' hS' => by go_simp⟩) hHeld ?_
              (try simp only [Act.put, List.setIfInBounds_toArray, List.set_cons_zero, List.set_cons_succ])
              refine take_at 15 30 (.bool true) rfl rfl (by kernel_rfl) (by kernel_rfl) (by kernel_rfl) (fun _ _ _ h => h) (Or.inl ⟨by kernel_rfl, fun w' hS' => by go_simp⟩) hHeld ?_
              (try simp only [Act.put, List.setIfInBounds_toArray, List.set_cons_zero, List.set_cons_succ])
              refine take_at 16 31 (.pointer (some ⟨w.heap.size, 0, none⟩)) rfl rfl (by kernel_rfl) (by kernel_rfl) (by kernel_rfl) (fun _ _ _ h => h) (Or.inl ⟨by kernel_rfl, fun w' hS' => by go_simp⟩) hHeld ?_
              (try simp only [Act.put, List.setIfInBounds_toArray, List.set_cons_zero, List.set_cons_succ])
              refine take_at 17 32 (.slice (some ⟨b, off, none⟩) n cap) rfl rfl (by kernel_rfl) (by kernel_rfl) (by kernel_rfl) (fun _ _ _ h => h) (Or.inl ⟨by kernel_rfl, fun w' hS' => by have hc := RowAt.cell hS'.1 0; go_simp⟩) hHeld ?_
              (try simp only [Act.put, List.setIfInBounds_toArray, List.set_cons_zero, List.set_cons_succ])
              refine take_at 18 33 (.int .i64 i) rfl rfl (by kernel_rfl) (by kernel_rfl) (by kernel_rfl) (fun _ _ _ h => h) (Or.inl ⟨by kernel_rfl, fun w' hS' => by go_simp⟩) hHeld ?_
              (try simp only [Act.put, List.setIfInBounds_toArray, List.set_cons_zero, List.set_cons_succ])
              refine take_at 19 34 (.pointer (some ⟨b, off + i * 6, none⟩)) rfl rfl (by kernel_rfl) (by kernel_rfl) (by kernel_rfl) (fun _ _ _ h => h) (Or.inl ⟨by kernel_rfl, fun w' hS' => by go_simp⟩) hHeld ?_
              (try simp only [Act.put, List.setIfInBounds_toArray, List.set_cons_zero, List.set_cons_succ])
              refine take_at 20 35 (.pointer (some ⟨b, off + i * 6 + 1, none⟩)) rfl rfl (by kernel_rfl) (by kernel_rfl) (by kernel_rfl) (fun _ _ _ h => h) (Or.inl ⟨by kernel_rfl, fun w' hS' => by go_simp⟩) hHeld ?_
              (try simp only [Act.put, List.setIfInBounds_toArray, List.set_cons_zero, List.set_cons_succ])
              refine take_at 21 36 (.int .i64 V) rfl rfl (by kernel_rfl) (by kernel_rfl) (by kernel_rfl) (fun _ _ _ h => h) (Or.inl ⟨by kernel_rfl, fun w' hS' => by have hc := hS'.2.2.1; go_simp⟩) hHeld ?_
              (try simp only [Act.put, List.setIfInBounds_toArray, List.set_cons_zero, List.set_cons_succ])
              refine take_at 22 37 (.agg #[.slice (some ⟨b, off, none⟩) n cap]) rfl rfl (by kernel_rfl) (by kernel_rfl) (by kernel_rfl) (fun _ _ _ h => h) (yieldsIf_load_row (by kernel_rfl) 25 (.tmp 1) rfl w.heap.size rfl 25 #[.slice (some ⟨b, off, none⟩) n cap] (0, 0) _ (fun w' h => h.1) Tryz.underlying25 rfl doc_info) hHeld ?_
              (try simp only [Act.put, List.setIfInBounds_toArray, List.set_cons_zero, List.set_cons_succ])
              refine take_at 23 38 (.int .i64 i) rfl rfl (by kernel_rfl) (by kernel_rfl) (by kernel_rfl) (fun _ _ _ h => h) (Or.inl ⟨by kernel_rfl, fun w' hS' => by go_simp⟩) hHeld ?_
              (try simp only [Act.put, List.setIfInBounds_toArray, List.set_cons_zero, List.set_cons_succ])
              refine wpAnyH_ready (rs := [24]) (by kernel_rfl) (by simp) ?_
              refine AllReadyH.cons rfl (fun K0 hK => ?_) AllReadyH.nil
              go_simp
              go_at_call 47
              refine (l3Ahead_is HAH.out HD.out hil).mono ?_
              rintro e u2 ⟨rfl, hb1⟩
              replace HB : Hid (Below w.heap.size w u2) := HB.out.trans (hb1.mono HB.out.size)
              have HH : Hid (RowAt u2 w.heap.size #[.slice (some ⟨b, off, none⟩) n cap] 25 ∧ BlockIs u2 b (off + i * 6) (2, V, t, R, C, l) ta tn tc ca cn cc) := ⟨hHeld.1.below hb1 hHeld.1.lt, hHeld.2.below hb1 (by have := hb1.size; omega)⟩
              replace HD : Hid (Dc u2 (some ⟨b, off, none⟩) n cap d) := HD.out.below hb1
              replace hbl : b < u2.heap.size := by have := hb1.size; omega
              clear hb1 hHeld
              go_wp2_with fail
              refine hK.out _ _ HH.out (fun hHeld => ?_)
              clear hK K0 HH
              (try simp only [Act.put, List.setIfInBounds_toArray, List.set_cons_zero, List.set_cons_succ])
              refine take_at 25 40 (.int .i64 (ah + 1)) rfl rfl (by kernel_rfl) (by kernel_rfl) (by kernel_rfl) (fun _ _ _ h => h) (Or.inl ⟨by kernel_rfl, fun w' hS' => by go_simp; rw [IntKind.wrap_i64]; omega⟩) hHeld ?_
              (try simp only [Act.put, List.setIfInBounds_toArray, List.set_cons_zero, List.set_cons_succ])
              refine take_at 26 41 (.bool false) rfl rfl (by kernel_rfl) (by kernel_rfl) (by kernel_rfl) (fun _ _ _ h => h) (Or.inl ⟨by kernel_rfl, fun w' hS' => by go_simp <;> omega⟩) hHeld ?_
              (try simp only [Act.put, List.setIfInBounds_toArray, List.set_cons_zero, List.set_cons_succ])
              refine take_at 27 42 (.bool false) rfl rfl (by kernel_rfl) (by kernel_rfl) (by kernel_rfl) (fun _ _ _ h => h) (Or.inl ⟨by kernel_rfl, fun w' hS' => by go_simp⟩) hHeld ?_
              (try simp only [Act.put, List.setIfInBounds_toArray, List.set_cons_zero, List.set_cons_succ])
              refine take_at 28 43 (.bool false) rfl rfl (by kernel_rfl) (by kernel_rfl) (by kernel_rfl) (fun _ _ _ h => h) (Or.inl ⟨by kernel_rfl, fun w' hS' => by go_simp⟩) hHeld ?_
              (try simp only [Act.put, List.setIfInBounds_toArray, List.set_cons_zero, List.set_cons_succ])
              refine wpAnyH_done (by kernel_rfl) ?_ _
              refine NoPanic.normal ?_
              have HRR := hHeld.1
              clear hHeld
              go_wp2_with fail
              go_roundw
              case rel => exact ⟨i + 1, by omega, by go_num, by rw [List.range_succ, List.all_append, HAll.out]; simp [HDK.out], HB.out, HRR⟩
              case measure => simp [intOf]; omega
          · have HDK : Hid (docK d i = true) := by show docK d i = true; rw [HDE.out]; simp [hk2]
            refine wp_region_noPanic ?_
            refine wp_region_held_drew (S := fun w' => RowAt w' w.heap.size #[.slice (some ⟨b, off, none⟩) n cap] 25 ∧ BlockIs w' b (off + i * 6) (K, V, t, R, C, l) ta tn tc ca cn cc) (by kernel_rfl) ⟨HR.out, HI.out.below ((Below.refl _ _).drew) hbl⟩ (fun hHeld => ?_)
            refine take_at 0 15 (.pointer (some ⟨w.heap.size, 0, none⟩)) rfl rfl (by kernel_rfl) (by kernel_rfl) (by kernel_rfl) (fun _ _ _ h => h) (Or.inl ⟨by kernel_rfl, fun w' hS' => by go_simp⟩) hHeld ?_
            (try simp only [Act.put, List.setIfInBounds_toArray, List.set_cons_zero, List.set_cons_succ])
            refine take_at 1 16 (.slice (some ⟨b, off, none⟩) n cap) rfl rfl (by kernel_rfl) (by kernel_rfl) (by kernel_rfl) (fun _ _ _ h => h) (Or.inl ⟨by kernel_rfl, fun w' hS' => by have hc := RowAt.cell hS'.1 0; go_simp⟩) hHeld ?_
            (try simp only [Act.put, List.setIfInBounds_toArray, List.set_cons_zero, List.set_cons_succ])
            refine take_at 2 17 (.int .i64 i) rfl rfl (by kernel_rfl) (by kernel_rfl) (by kernel_rfl) (fun _ _ _ h => h) (Or.inl ⟨by kernel_rfl, fun w' hS' => by go_simp⟩) hHeld ?_
            (try simp only [Act.put, List.setIfInBounds_toArray, List.set_cons_zero, List.set_cons_succ])
            refine take_at 3 18 (.pointer (some ⟨b, off + i * 6, none⟩)) rfl rfl (by kernel_rfl) (by kernel_rfl) (by kernel_rfl) (fun _ _ _ h => h) (Or.inl ⟨by kernel_rfl, fun w' hS' => by go_simp⟩) hHeld ?_
            (try simp only [Act.put, List.setIfInBounds_toArray, List.set_cons_zero, List.set_cons_succ])
            refine take_at 4 19 (.agg #[.int .i64 K, .int .i64 V, .slice ta tn tc, .int .i64 R, .int .i64 C, .slice ca cn cc]) rfl rfl (by kernel_rfl) (by kernel_rfl) (by kernel_rfl) (fun _ _ _ h => h) (Or.inl ⟨by kernel_rfl, fun w' hS' => by obtain ⟨e0, e1, e2, e3, e4, e5, -, -⟩ := hS'.2; go_simp⟩) hHeld ?_
            (try simp only [Act.put, List.setIfInBounds_toArray, List.set_cons_zero, List.set_cons_succ])
            replace HB : Hid (Below w.heap.size w wr.drew) := HB.out.drew
            replace HD : Hid (Dc wr.drew (some ⟨b, off, none⟩) n cap d) := HD.out.below ((Below.refl _ _).drew)
            replace hbl : b < wr.drew.heap.size := hbl
            clear HR HI
            generalize wr.drew = u0 at HB HD hbl hHeld ⊢
            refine wpAnyH_ready (rs := [5]) (by kernel_rfl) (by simp) ?_
            refine AllReadyH.cons rfl (fun K0 hK => ?_) AllReadyH.nil
            go_simp
            go_at_call 46
            refine (l3Block_is HBL.out hHeld.2.2.2.2.2.2.2.1 hHeld.2.2.2.2.2.2.2.2).mono ?_
            rintro e u1 ⟨rfl, hb1⟩
            replace HB : Hid (Below w.heap.size w u1) := HB.out.trans (hb1.mono HB.out.size)
            have HH : Hid (RowAt u1 w.heap.size #[.slice (some ⟨b, off, none⟩) n cap] 25 ∧ BlockIs u1 b (off + i * 6) (K, V, t, R, C, l) ta tn tc ca cn cc) := ⟨hHeld.1.below hb1 hHeld.1.lt, hHeld.2.below hb1 (by have := hb1.size; omega)⟩
            replace HD : Hid (Dc u1 (some ⟨b, off, none⟩) n cap d) := HD.out.below hb1
            replace hbl : b < u1.heap.size := by have := hb1.size; omega
            clear hb1 hHeld
            go_wp2_with fail
            refine hK.out _ _ HH.out (fun hHeld => ?_)
            clear hK K0 HH
            (try simp only [Act.put, List.setIfInBounds_toArray, List.set_cons_zero, List.set_cons_succ])
            refine take_at 6 21 (.bool false) rfl rfl (by kernel_rfl) (by kernel_rfl) (by kernel_rfl) (fun _ _ _ h => h) (Or.inl ⟨by kernel_rfl, fun w' hS' => by go_simp⟩) hHeld ?_
            (try simp only [Act.put, List.setIfInBounds_toArray, List.set_cons_zero, List.set_cons_succ])
            refine take_at 7 22 (.bool false) rfl rfl (by kernel_rfl) (by kernel_rfl) (by kernel_rfl) (fun _ _ _ h => h) (Or.inl ⟨by kernel_rfl, fun w' hS' => by go_simp⟩) hHeld ?_
            (try simp only [Act.put, List.setIfInBounds_toArray, List.set_cons_zero, List.set_cons_succ])
            refine take_at 8 23 (.pointer (some ⟨w.heap.size, 0, none⟩)) rfl rfl (by kernel_rfl) (by kernel_rfl) (by kernel_rfl) (fun _ _ _ h => h) (Or.inl ⟨by kernel_rfl, fun w' hS' => by go_simp⟩) hHeld ?_
            (try simp only [Act.put, List.setIfInBounds_toArray, List.set_cons_zero, List.set_cons_succ])
            refine take_at 9 24 (.slice (some ⟨b, off, none⟩) n cap) rfl rfl (by kernel_rfl) (by kernel_rfl) (by kernel_rfl) (fun _ _ _ h => h) (Or.inl ⟨by kernel_rfl, fun w' hS' => by have hc := RowAt.cell hS'.1 0; go_simp⟩) hHeld ?_
            (try simp only [Act.put, List.setIfInBounds_toArray, List.set_cons_zero, List.set_cons_succ])
            refine take_at 10 25 (.int .i64 i) rfl rfl (by kernel_rfl) (by kernel_rfl) (by kernel_rfl) (fun _ _ _ h => h) (Or.inl ⟨by kernel_rfl, fun w' hS' => by go_simp⟩) hHeld ?_
            (try simp only [Act.put, List.setIfInBounds_toArray, List.set_cons_zero, List.set_cons_succ])
            refine take_at 11 26 (.pointer (some ⟨b, off + i * 6, none⟩)) rfl rfl (by kernel_rfl) (by kernel_rfl) (by kernel_rfl) (fun _ _ _ h => h) (Or.inl ⟨by kernel_rfl, fun w' hS' => by go_simp⟩) hHeld ?_
            (try simp only [Act.put, List.setIfInBounds_toArray, List.set_cons_zero, List.set_cons_succ])
            refine take_at 12 27 (.pointer (some ⟨b, off + i * 6, none⟩)) rfl rfl (by kernel_rfl) (by kernel_rfl) (by kernel_rfl) (fun _ _ _ h => h) (Or.inl ⟨by kernel_rfl, fun w' hS' => by go_simp⟩) hHeld ?_
            (try simp only [Act.put, List.setIfInBounds_toArray, List.set_cons_zero, List.set_cons_succ])
            refine take_at 13 28 (.int .i64 K) rfl rfl (by kernel_rfl) (by kernel_rfl) (by kernel_rfl) (fun _ _ _ h => h) (Or.inl ⟨by kernel_rfl, fun w' hS' => by have hc := hS'.2.1; go_simp⟩) hHeld ?_
            (try simp only [Act.put, List.setIfInBounds_toArray, List.set_cons_zero, List.set_cons_succ])
            refine take_at 14 29 (.bool false) rfl rfl (by kernel_rfl) (by kernel_rfl) (by kernel_rfl) (fun _ _ _ h => h) (Or.inl ⟨by kernel_rfl, fun w' hS' => by go_simp <;> omega⟩) hHeld ?_
            (try simp only [Act.put, List.setIfInBounds_toArray, List.set_cons_zero, List.set_cons_succ])
            refine take_at 15 30 (.bool false) rfl rfl (by kernel_rfl) (by kernel_rfl) (by kernel_rfl) (fun _ _ _ h => h) (Or.inl ⟨by kernel_rfl, fun w' hS' => by go_simp⟩) hHeld ?_
            (try simp only [Act.put, List.setIfInBounds_toArray, List.set_cons_zero, List.set_cons_succ])
            refine take_at 16 31 (undef) rfl rfl (by kernel_rfl) (by kernel_rfl) (by kernel_rfl) (fun _ _ _ h => h) (Or.inr ⟨by kernel_rfl, rfl⟩) hHeld ?_
            (try simp only [Act.put, List.setIfInBounds_toArray, List.set_cons_zero, List.set_cons_succ])
            refine take_at 17 32 (undef) rfl rfl (by kernel_rfl) (by kernel_rfl) (by kernel_rfl) (fun _ _ _ h => h) (Or.inr ⟨by kernel_rfl, rfl⟩) hHeld ?_
            (try simp only [Act.put, List.setIfInBounds_toArray, List.set_cons_zero, List.set_cons_succ])
            refine take_at 18 33 (undef) rfl rfl (by kernel_rfl) (by kernel_rfl) (by kernel_rfl) (fun _ _ _ h => h) (Or.inr ⟨by kernel_rfl, rfl⟩) hHeld ?_
            (try simp only [Act.put, List.setIfInBounds_toArray, List.set_cons_zero, List.set_cons_succ])
            refine take_at 19 34 (undef) rfl rfl (by kernel_rfl) (by kernel_rfl) (by kernel_rfl) (fun _ _ _ h => h) (Or.inr ⟨by kernel_rfl, rfl⟩) hHeld ?_
            (try simp only [Act.put, List.setIfInBounds_toArray, List.set_cons_zero, List.set_cons_succ])
            refine take_at 20 35 (undef) rfl rfl (by kernel_rfl) (by kernel_rfl) (by kernel_rfl) (fun _ _ _ h => h) (Or.inr ⟨by kernel_rfl, rfl⟩) hHeld ?_
            (try simp only [Act.put, List.setIfInBounds_toArray, List.set_cons_zero, List.set_cons_succ])
            refine take_at 21 36 (undef) rfl rfl (by kernel_rfl) (by kernel_rfl) (by kernel_rfl) (fun _ _ _ h => h) (Or.inr ⟨by kernel_rfl, rfl⟩) hHeld ?_
            (try simp only [Act.put, List.setIfInBounds_toArray, List.set_cons_zero, List.set_cons_succ])
            refine take_at 22 37 (undef) rfl rfl (by kernel_rfl) (by kernel_rfl) (by kernel_rfl) (fun _ _ _ h => h) (Or.inr ⟨by kernel_rfl, rfl⟩) hHeld ?_
            (try simp only [Act.put, List.setIfInBounds_toArray, List.set_cons_zero, List.set_cons_succ])
            refine take_at 23 38 (undef) rfl rfl (by kernel_rfl) (by kernel_rfl) (by kernel_rfl) (fun _ _ _ h => h) (Or.inr ⟨by kernel_rfl, rfl⟩) hHeld ?_
            (try simp only [Act.put, List.setIfInBounds_toArray, List.set_cons_zero, List.set_cons_succ])
            refine take_at 24 39 (undef) rfl rfl (by kernel_rfl) (by kernel_rfl) (by kernel_rfl) (fun _ _ _ h => h) (Or.inr ⟨by kernel_rfl, rfl⟩) hHeld ?_
            (try simp only [Act.put, List.setIfInBounds_toArray, List.set_cons_zero, List.set_cons_succ])
            refine take_at 25 40 (undef) rfl rfl (by kernel_rfl) (by kernel_rfl) (by kernel_rfl) (fun _ _ _ h => h) (Or.inr ⟨by kernel_rfl, rfl⟩) hHeld ?_
            (try simp only [Act.put, List.setIfInBounds_toArray, List.set_cons_zero, List.set_cons_succ])
            refine take_at 26 41 (undef) rfl rfl (by kernel_rfl) (by kernel_rfl) (by kernel_rfl) (fun _ _ _ h => h) (Or.inr ⟨by kernel_rfl, rfl⟩) hHeld ?_
            (try simp only [Act.put, List.setIfInBounds_toArray, List.set_cons_zero, List.set_cons_succ])
            refine take_at 27 42 (.bool false) rfl rfl (by kernel_rfl) (by kernel_rfl) (by kernel_rfl) (fun _ _ _ h => h) (Or.inl ⟨by kernel_rfl, fun w' hS' => by go_simp⟩) hHeld ?_
            (try simp only [Act.put, List.setIfInBounds_toArray, List.set_cons_zero, List.set_cons_succ])
            refine take_at 28 43 (.bool false) rfl rfl (by kernel_rfl) (by kernel_rfl) (by kernel_rfl) (fun _ _ _ h => h) (Or.inl ⟨by kernel_rfl, fun w' hS' => by go_simp⟩) hHeld ?_
            (try simp only [Act.put, List.setIfInBounds_toArray, List.set_cons_zero, List.set_cons_succ])
            refine wpAnyH_done (by kernel_rfl) ?_ _
            refine NoPanic.normal ?_
            have HRR := hHeld.1
            clear hHeld
            go_wp2_with fail
            go_roundw
            case rel => exact ⟨i + 1, by omega, by go_num, by rw [List.range_succ, List.all_append, HAll.out]; simp [HDK.out], HB.out, HRR⟩
            case measure => simp [intOf]; omega
      · have hib : ¬ (i : Int) < (n : Int) := by omega
        obtain rfl : i = n := by omega
        go_wp2_with fail
        go_ret
        refine ⟨?_, HB.out⟩
        have hd : d.length ≤ 8 := by have := HN.out; omega
        rw [← HX.out]
        unfold docB
        rw [decide_eq_true hd, Bool.true_and, ← HN.out, HAll.out]
        rfl
end Go.Proofs.YtccoeachemnbnaaGreatDoor
namespace Go.Proofs.YtccoeachemnbnaaGreatDoor
open Go.RowKit

theorem block_part (x : Bl) : blockB x = true ↔ kindB x ∧ partB x.1 x.2.1 x.2.2.1 x.2.2.2.1 x.2.2.2.2.1 x.2.2.2.2.2 = true ∧ partOkB x = true := by
  obtain ⟨k, v, t, R, C, l⟩ := x
  unfold blockB partB partOkB kindB
  simp only
  by_cases h1 : k = 1
  · subst h1
    simp [and_assoc, and_comm, and_left_comm]
  · by_cases h2 : k = 2
    · subst h2
      simp [and_assoc, and_comm, and_left_comm]
    · by_cases h3 : k = 3
      · subst h3
        simp [and_assoc, and_comm]
      · simp [h1, h2, h3]
theorem getD_bl {d : List Bl} {k : Nat} (hk : k < d.length) : d.getD k bl0 = d[k] := by simp [List.getD, hk]
/-- A document is ok just if each block is a part, and the parts are ok. -/
theorem doc_parts (d : List Bl) : docB d = true ↔ d.length ≤ 8 ∧ (∀ x ∈ d, kindB x ∧ partB x.1 x.2.1 x.2.2.1 x.2.2.2.1 x.2.2.2.2.1 x.2.2.2.2.2 = true) ∧ outlB d = true := by
  unfold docB outlB
  rw [Bool.and_eq_true, Bool.and_eq_true, decide_eq_true_eq, List.all_eq_true, List.all_eq_true]
  constructor
  · rintro ⟨h8, h⟩
    have hall : ∀ k, k < d.length → docK d k = true := fun k hk => h k (List.mem_range.2 hk)
    refine ⟨h8, fun x hx => ?_, h8, fun k hk => ?_⟩
    · obtain ⟨k, hk, e⟩ := List.getElem_of_mem hx
      have h1 := hall k hk
      unfold docK at h1
      rw [Bool.and_eq_true, block_part, getD_bl hk, e] at h1
      exact ⟨h1.1.1, h1.1.2.1⟩
    · have hk' := List.mem_range.1 hk
      have h1 := hall k hk'
      have ha := ahead_small (d := d) (i := k) (List.all_eq_true.2 fun j hj => hall j (by have := List.mem_range.1 hj; omega))
      unfold docK at h1
      rw [Bool.and_eq_true, block_part] at h1
      unfold outK
      rw [Bool.and_eq_true]
      refine ⟨h1.1.2.2, ?_⟩
      unfold lvN
      by_cases h2 : (d.getD k bl0).1 = 2
      · rw [if_pos h2]
        have h3 := h1.2
        rw [decide_eq_true h2, Bool.true_and] at h3
        exact h3
      · rw [if_neg h2, decide_eq_false (by omega)]
        rfl
  · rintro ⟨h8, hp, _, ho⟩
    refine ⟨h8, fun k hk => ?_⟩
    have hk' := List.mem_range.1 hk
    have h1 := ho k hk
    have h2 := hp (d.getD k bl0) (by rw [getD_bl hk']; exact List.getElem_mem hk')
    unfold outK at h1
    rw [Bool.and_eq_true] at h1
    unfold docK
    rw [Bool.and_eq_true, block_part]
    refine ⟨⟨h2.1, h2.2, h1.1⟩, ?_⟩
    have h3 := h1.2
    unfold lvN at h3
    by_cases hi : (d.getD k bl0).1 = 2
    · rw [if_pos hi] at h3
      rw [decide_eq_true hi, Bool.true_and]
      exact h3
    · rw [decide_eq_false hi, Bool.false_and]
      rfl
end Go.Proofs.YtccoeachemnbnaaGreatDoor
namespace Go.Proofs.YtccoeachemnbnaaGreatDoor
open Go.RowKit

/-- A value that owns a list of parts. -/
def OwnP (w : World) (B : Nat) (v : Value) (ps : List Value) : Prop := w.ownsRow B 97 1 v ps.length ps
section
variable {w w' : World} {B : Nat} {v : Value} {ps : List Value}
theorem OwnP.shape (h : OwnP w B v ps) : ∃ a cap, v = .slice a ps.length cap := by
  have h' := h
  unfold OwnP at h'
  rcases h'.2 with ⟨rfl, h0⟩ | ⟨g, cap, cur, rfl, r⟩
  · exact ⟨none, 0, by rw [h0]⟩
  · exact ⟨_, _, rfl⟩
theorem OwnP.below (h : OwnP w B v ps) (hb : Below w.heap.size w w') : OwnP w' B v ps := own_below h hb
theorem OwnP.nil (w : World) (B : Nat) : OwnP w B (.slice none 0 0) [] := World.ownsRow_nil _ _ _ _
theorem OwnP.len {a : Option Addr} {n cap : Nat} (h : OwnP w B (.slice a n cap) ps) : n = ps.length := by
  obtain ⟨a', c', he⟩ := h.shape
  simp only [Value.slice.injEq] at he
  exact he.2.1
theorem OwnP.row {a : Option Addr} {n cap : Nat} (h : OwnP w B (.slice a n cap) ps) : w.ownsRow B 97 1 (.slice a n cap) n ps := by
  have := h.len
  subst this
  exact h
end
theorem ownP_step {B : Nat} {w wr w1 : World} {a : Option Addr} {k c : Nat} {v' : Value} {l : List Value} {x : Value} {o : Obj} (ho : OwnP wr B (.slice a k c) l) (hbl : Below B w wr) (hB : B ≤ wr.heap.size)
    (hown : w1.ownsRow B 97 1 v' (k + 1) (l ++ [x])) (hgrow : (wr.alloc o).grownBy w1 (Value.slice a k c).ownBlock) :
    ∃ a' c', v' = .slice a' (k + 1) c' ∧ OwnP w1 B (.slice a' (k + 1) c') (l ++ [x]) ∧ Below B w w1 := by
  have hk := ho.len
  have h1 : OwnP w1 B v' (l ++ [x]) := by
    unfold OwnP
    rw [List.length_append, show l.length + [x].length = k + 1 by simp; omega]
    exact hown
  obtain ⟨a', c', rfl⟩ := h1.shape
  have e : (l ++ [x]).length = k + 1 := by simp; omega
  rw [e] at h1 ⊢
  refine ⟨a', c', rfl, h1, ?_⟩
  exact (hbl.alloc hB _).grown hgrow (by simp; omega) (fun q hq => (ho.row.lt q hq).1)
/-- A part that reads as a block. -/
def PartIs (w : World) (p : Value) (x : Bl) : Prop := ∃ ta tn tc ca cn cc, p = partV x.1 x.2.1 ta tn tc x.2.2.2.1 x.2.2.2.2.1 ca cn cc ∧ Txt w ta tn tc x.2.2.1 ∧ Tab w ca cn cc x.2.2.2.2.2
theorem PartIs.below {w w' : World} {p : Value} {x : Bl} (h : PartIs w p x) (hb : Below w.heap.size w w') : PartIs w' p x := by
  obtain ⟨ta, tn, tc, ca, cn, cc, h0, ht, hc⟩ := h
  exact ⟨ta, tn, tc, ca, cn, cc, h0, ht.below hb, hc.below hb⟩
theorem PartIs.belowB {w w' : World} {B : Nat} {p : Value} {x : Bl} (h : PartIs w p x) (hs : w.heap.size = B) (hb : Below B w w') : PartIs w' p x := by
  subst hs
  exact h.below hb
/-- Parts that read as blocks. -/
def PartsAre (w : World) (ps : List Value) (d : List Bl) : Prop := ps.length = d.length ∧ ∀ k, k < d.length → PartIs w (ps.getD k .nilIface) (d.getD k bl0)
theorem PartsAre.below {w w' : World} {ps : List Value} {d : List Bl} (h : PartsAre w ps d) (hb : Below w.heap.size w w') : PartsAre w' ps d := ⟨h.1, fun k hk => (h.2 k hk).below hb⟩
theorem PartsAre.nil (w : World) : PartsAre w [] [] := ⟨rfl, fun k hk => absurd hk (by simp)⟩
theorem PartsAre.snoc {w : World} {ps : List Value} {d : List Bl} {p : Value} {x : Bl} (h : PartsAre w ps d) (hp : PartIs w p x) : PartsAre w (ps ++ [p]) (d ++ [x]) := by
  refine ⟨by simp [h.1], fun k hk => ?_⟩
  by_cases hlt : k < d.length
  · have e1 : (ps ++ [p]).getD k .nilIface = ps.getD k .nilIface := by simp [List.getD, List.getElem?_append_left (show k < ps.length by rw [h.1]; exact hlt)]
    have e2 : (d ++ [x]).getD k bl0 = d.getD k bl0 := by simp [List.getD, List.getElem?_append_left hlt]
    rw [e1, e2]
    exact h.2 k hlt
  · have ek : k = d.length := by simp at hk; omega
    subst ek
    have e1 : (ps ++ [p]).getD d.length .nilIface = p := by simp [List.getD, ← h.1]
    have e2 : (d ++ [x]).getD d.length bl0 = x := by simp [List.getD]
    rw [e1, e2]
    exact hp
theorem outl_of {w : World} {B : Nat} {a : Option Addr} {n c : Nat} {ps : List Value} {d : List Bl} (h : OwnP w B (.slice a n c) ps) (hp : PartsAre w ps d) : Outl w a n c d := by
  have hn := h.len
  have h' := h.row
  rcases h'.2 with ⟨hv, h0⟩ | ⟨g, cap, cur, hv, hg, hgg, h1, h2, h3, h4⟩
  · cases hv
    exact ⟨by rw [hn, hp.1], Nat.le_refl _, by unfold maxLen; omega, .inl (List.eq_nil_of_length_eq_zero (by rw [← hp.1]; omega))⟩
  · simp only [Value.slice.injEq] at hv
    obtain ⟨rfl, -, rfl⟩ := hv
    refine ⟨by rw [hn, hp.1], h1, h2, .inr ⟨g, 0, rfl, ?_, fun k hk => ?_⟩⟩
    · exact (Array.getElem?_eq_some_iff.1 hgg).1
    · obtain ⟨ta, tn, tc, ca, cn, cc, e, ht, hc⟩ := hp.2 k hk
      refine ⟨ta, tn, tc, ca, cn, cc, ?_, ht, hc⟩
      have hk' : k < n := by rw [hn, hp.1]; exact hk
      have := h'.cellAt k (by omega)
      rw [Nat.zero_add, this, ← e]
      simp [List.getD, show k < ps.length by omega]
theorem Tryz.info97 : (Tryz.prog.info? 97).map (fun i => (i.zero, i.size, i.bytes)) = some (some .nilIface, 1, 16) := by kernel_rfl
theorem part_one (k v : Int) (ta : Option Addr) (tn tc : Nat) (R C : Int) (ca : Option Addr) (cn cc : Nat) : (partV k v ta tn tc R C ca cn cc).oneCell' = true := by
  unfold partV
  by_cases h1 : k = 1
  · rw [if_pos h1]; rfl
  · rw [if_neg h1]
    by_cases h2 : k = 2
    · rw [if_pos h2]; rfl
    · rw [if_neg h2]
      by_cases h3 : k = 3
      · rw [if_pos h3]; rfl
      · rw [if_neg h3]; rfl
theorem cell_new1p (w : World) (x : Value) (t : TypeId) : ∀ j u, [x][j]? = some u → (w.alloc (.cells #[x] t)).cell? ((⟨w.heap.size, 0, none⟩ : Addr).add j) = some u := by
  intro j u hj
  match j, hj with
  | 0, hj => simp at hj; subst hj; simp [Addr.add]
  | (j + 1), hj => simp at hj
theorem partB_kind {k v : Int} {t : List Sg} {R C : Int} {l : List Cl} (h : partB k v t R C l = true) : k = 1 ∨ k = 2 ∨ k = 3 := by
  unfold partB at h
  by_cases h1 : k = 1
  · exact .inl h1
  · by_cases h2 : k = 2
    · exact .inr (.inl h2)
    · by_cases h3 : k = 3
      · exact .inr (.inr h3)
      · simp [h1, h2, h3] at h
/-- What a block has nothing of that is not of its kind. -/
def partBB (x : Bl) : Bool := partB x.1 x.2.1 x.2.2.1 x.2.2.2.1 x.2.2.2.2.1 x.2.2.2.2.2
theorem doc_parts2 (d : List Bl) : docB d = true ↔ d.length ≤ 8 ∧ d.all partBB = true ∧ outlB d = true := by
  rw [doc_parts, List.all_eq_true]
  constructor
  · rintro ⟨h1, h2, h3⟩
    exact ⟨h1, fun x hx => (h2 x hx).2, h3⟩
  · rintro ⟨h1, h2, h3⟩
    exact ⟨h1, fun x hx => ⟨partB_kind (h2 x hx), h2 x hx⟩, h3⟩

set_option maxRecDepth 100000 in
set_option maxHeartbeats 8000000 in
theorem outlineOf_is {a : Option Addr} {n cap : Nat} {d : List Bl} {w : World} {x : Bool} (hx : docB d = x) (h : Dc w a n cap d) :
    Calls Tryz.prog 34 #[.agg #[.slice a n cap]] w fun e w' => ((x = false ∧ e = .returned (.tuple #[.slice none 0 0, .bool false])) ∨ (x = true ∧ ∃ pa pc ps, e = .returned (.tuple #[.slice pa n pc, .bool true]) ∧ OwnP w' w.heap.size (.slice pa n pc) ps ∧ PartsAre w ps d)) ∧ Below w.heap.size w w' := by
  have HX : Hid (docB d = x) := hx
  have hc := h.2.1
  have hm := h.2.2.1
  unfold maxLen at hm
  have HN : Hid (n = d.length) := h.1
  have H : Hid (Dc w a n cap d) := h
  clear h hx
  obtain ⟨i0, hi, hz0, hz1, hz2⟩ := info_parts Tryz.info97
  go_enter Tryz.func34, Tryz.ntmps34
  by_cases h8 : 8 < n
  · have h8' : (8 : Int) < (n : Int) := by omega
    go_wp2_with fail
    go_ret2
    refine ⟨.inl ⟨?_, rfl⟩, (Below.refl _ _).alloc (Nat.le_refl _) _⟩
    rw [← HX.out]
    unfold docB
    rw [decide_eq_false (by have := HN.out; omega), Bool.false_and]
  · have h8' : ¬ (8 : Int) < (n : Int) := by omega
    go_upto_region 4 with fail
    have B0 : Below w.heap.size w (w.alloc (.cells #[.slice a n cap] 25)) := (Below.refl _ _).alloc (Nat.le_refl _) _
    have D0 : Hid (Dc (w.alloc (.cells #[.slice a n cap] 25)) a n cap d) := H.out.below B0
    have G0 : RowAt (w.alloc (.cells #[.slice a n cap] 25)) w.heap.size #[.slice a n cap] 25 := rowAt_new _ _ _
    generalize w.alloc (.cells #[.slice a n cap] 25) = v0 at B0 D0 G0 ⊢
    have k0 : v0.cell? ⟨w.heap.size, 0, none⟩ = some (.slice a n cap) := G0.cell 0
    go_wp2_with fail
    clear k0
    have s0 := B0.size
    have HB0 : Hid (Below w.heap.size w v0) := B0
    clear B0
    go_loopw [4, 16] (fun pv iv wr => ∃ (i : Nat) (pa : Option Addr) (pc : Nat) (ps : List Value), i ≤ n ∧ iv = .int .i64 i ∧ pv = .slice pa i pc ∧ OwnP wr v0.heap.size (.slice pa i pc) ps ∧ PartsAre w ps (d.take i) ∧ (d.take i).all partBB = true ∧ Below v0.heap.size v0 wr) (fun _ iv _ => n - (intOf iv).toNat)
    case atStart => exact ⟨0, none, 0, [], Nat.zero_le _, rfl, rfl, OwnP.nil _ _, PartsAre.nil _, rfl, Below.refl _ _⟩
    case round =>
      obtain ⟨i, pa, pc, ps, hi', rfl, rfl, ho, hp, hall, hb⟩ := hrel
      have HO : Hid (OwnP wr v0.heap.size (.slice pa i pc) ps) := ho
      have HP : Hid (PartsAre w ps (d.take i)) := hp
      have HA : Hid ((d.take i).all partBB = true) := hall
      have HB : Hid (Below v0.heap.size v0 wr) := hb
      have sB := hb.size
      clear ho hp hall
      by_cases hlt : i < n
      · have hil : i < d.length := by have := HN.out; omega
        have hib : (i : Int) < (n : Int) := by omega
        have hi0 : (0 : Int) ≤ (i : Int) := by omega
        rcases H.out.2.2.2 with e | ⟨b, off, rfl, hbl, hcl⟩
        · rw [e] at hil
          exact absurd hil (by simp)
        obtain ⟨ta, tn, tc, ca, cn, cc, hblk0⟩ := hcl i hil
        have hblk := hblk0.below (HB0.out.trans (hb.mono s0)) hbl
        have HTK : Hid (d.take (i + 1) = d.take i ++ [d.getD i bl0]) := by
          show d.take (i + 1) = d.take i ++ [d.getD i bl0]
          rw [List.take_succ_eq_append_getElem hil, getD_bl hil]
        have HMEM : Hid (d.getD i bl0 ∈ d) := by
          show d.getD i bl0 ∈ d
          rw [getD_bl hil]
          exact List.getElem_mem hil
        obtain ⟨⟨K, V, t, R, C, l⟩, hx⟩ : ∃ x, x = d.getD i bl0 := ⟨_, rfl⟩
        rw [← hx] at hblk hblk0 HTK HMEM
        have HPI : Hid (PartIs w (partV K V ta tn tc R C ca cn cc) (K, V, t, R, C, l)) := ⟨ta, tn, tc, ca, cn, cc, rfl, hblk0.2.2.2.2.2.2.1, hblk0.2.2.2.2.2.2.2⟩
        clear hblk0
        obtain ⟨c0, c1, c2, c3, c4, c5, ht, htb⟩ := hblk
        simp only at c0 c1 c3 c4 ht htb
        obtain ⟨pb, HPB⟩ : ∃ b, Hid (partB K V t R C l = b) := ⟨_, rfl⟩
        clear hcl hx hb
        go_upto_region 7 with fail
        have hbA : Below wr.heap.size wr (wr.alloc (.cells #[.int .i64 K, .int .i64 V, .slice ta tn tc, .int .i64 R, .int .i64 C, .slice ca cn cc] 56)) := (Below.refl _ _).alloc (Nat.le_refl _) _
        have gA : RowAt (wr.alloc (.cells #[.int .i64 K, .int .i64 V, .slice ta tn tc, .int .i64 R, .int .i64 C, .slice ca cn cc] 56)) wr.heap.size #[.int .i64 K, .int .i64 V, .slice ta tn tc, .int .i64 R, .int .i64 C, .slice ca cn cc] 56 := rowAt_new _ _ _
        generalize wr.alloc (.cells #[.int .i64 K, .int .i64 V, .slice ta tn tc, .int .i64 R, .int .i64 C, .slice ca cn cc] 56) = u0 at hbA gA ⊢
        have HT : Hid (Txt u0 ta tn tc t) := ht.below hbA
        have HTB : Hid (Tab u0 ca cn cc l) := htb.below hbA
        have q0 : u0.cell? ⟨wr.heap.size, 0, none⟩ = some (.int .i64 K) := gA.cell 0
        have q1 : u0.cell? ⟨wr.heap.size, 1, none⟩ = some (.int .i64 V) := gA.cell 1
        have q2 : u0.cell? ⟨wr.heap.size, 2, none⟩ = some (.slice ta tn tc) := gA.cell 2
        have q3 : u0.cell? ⟨wr.heap.size, 3, none⟩ = some (.int .i64 R) := gA.cell 3
        have q4 : u0.cell? ⟨wr.heap.size, 4, none⟩ = some (.int .i64 C) := gA.cell 4
        have q5 : u0.cell? ⟨wr.heap.size, 5, none⟩ = some (.slice ca cn cc) := gA.cell 5
        have HBA : Hid (Below wr.heap.size wr u0) := hbA
        have sA := hbA.size
        clear ht htb c0 c1 c2 c3 c4 c5 hbA gA
        go_wp2_with fail
        refine (partOf_is HT.out HTB.out).mono ?_
        rintro e u1 ⟨rfl, hb1⟩
        rw [HPB.out]
        have hbB : Below wr.heap.size wr u1 := HBA.out.trans (hb1.mono sA)
        have s1 := hbB.size
        have HO1 : Hid (OwnP u1 v0.heap.size (.slice pa i pc) ps) := HO.out.below hbB
        have HB1 : Hid (Below v0.heap.size v0 u1) := HB.out.trans (hbB.mono sB)
        have hone := part_one K V ta tn tc R C ca cn cc
        clear q0 q1 q2 q3 q4 q5 hb1 hbB HBA
        cases pb
        · generalize partV K V ta tn tc R C ca cn cc = pv at HPI hone ⊢
          go_wp2_with fail
          go_ret2
          refine ⟨.inl ⟨?_, rfl⟩, HB0.out.trans (HB1.out.mono s0)⟩
          rw [← HX.out, ← Bool.not_eq_true, doc_parts2]
          rintro ⟨-, h2, -⟩
          have := List.all_eq_true.1 h2 _ HMEM.out
          rw [show partBB (K, V, t, R, C, l) = false from HPB.out] at this
          cases this
        · rcases partB_kind HPB.out with hK | hK | hK
          · subst hK
            have HP3 : Hid (PartIs w (.iface 123 (.agg #[.slice ta tn tc])) (1, V, t, R, C, l)) := HPI.out
            have ep : partV 1 V ta tn tc R C ca cn cc = .iface 123 (.agg #[.slice ta tn tc]) := rfl
            rw [ep]
            clear HPI hone ep
            go_wp2_with (at_builtin; refine wpList_append_own _ rfl (.tmp 27) (.tmp 29) 62 rfl v0.heap.size 97 i0 .nilIface 1 16 Tryz.underlying62 hi hz0 hz1 hz2 rfl (by decide) (.slice pa i pc) _ _ rfl (World.ownsRow.alloc HO1.out.row _) ⟨_, 0, none⟩ 1 1 [.iface 123 (.agg #[.slice ta tn tc])] rfl rfl (cell_new1p _ _ _) (by intro u hu; simp at hu; subst hu; rfl) (by unfold maxLen; omega) (by omega) (by simp; omega) ?_; intro v' u2 hown' hgrow _)
            obtain ⟨a', c', rfl, ho2, hb2⟩ := ownP_step (x := .iface 123 (.agg #[.slice ta tn tc])) HO1.out HB1.out (by omega) hown' hgrow
            go_roundw
            case rel =>
              refine ⟨i + 1, a', c', ps ++ [.iface 123 (.agg #[.slice ta tn tc])], by omega, by go_num, rfl, ho2, ?_, ?_, hb2⟩
              · rw [HTK.out]
                exact HP.out.snoc HP3.out
              · rw [HTK.out, List.all_append, HA.out]
                simp only [List.all_cons, List.all_nil, Bool.and_true, Bool.true_and]
                exact HPB.out
            case measure => simp [intOf]; omega
          · subst hK
            have HP3 : Hid (PartIs w (.iface 125 (.agg #[.int .i64 V, .slice ta tn tc])) (2, V, t, R, C, l)) := HPI.out
            have ep : partV 2 V ta tn tc R C ca cn cc = .iface 125 (.agg #[.int .i64 V, .slice ta tn tc]) := rfl
            rw [ep]
            clear HPI hone ep
            go_wp2_with (at_builtin; refine wpList_append_own _ rfl (.tmp 27) (.tmp 29) 62 rfl v0.heap.size 97 i0 .nilIface 1 16 Tryz.underlying62 hi hz0 hz1 hz2 rfl (by decide) (.slice pa i pc) _ _ rfl (World.ownsRow.alloc HO1.out.row _) ⟨_, 0, none⟩ 1 1 [.iface 125 (.agg #[.int .i64 V, .slice ta tn tc])] rfl rfl (cell_new1p _ _ _) (by intro u hu; simp at hu; subst hu; rfl) (by unfold maxLen; omega) (by omega) (by simp; omega) ?_; intro v' u2 hown' hgrow _)
            obtain ⟨a', c', rfl, ho2, hb2⟩ := ownP_step (x := .iface 125 (.agg #[.int .i64 V, .slice ta tn tc])) HO1.out HB1.out (by omega) hown' hgrow
            go_roundw
            case rel =>
              refine ⟨i + 1, a', c', ps ++ [.iface 125 (.agg #[.int .i64 V, .slice ta tn tc])], by omega, by go_num, rfl, ho2, ?_, ?_, hb2⟩
              · rw [HTK.out]
                exact HP.out.snoc HP3.out
              · rw [HTK.out, List.all_append, HA.out]
                simp only [List.all_cons, List.all_nil, Bool.and_true, Bool.true_and]
                exact HPB.out
            case measure => simp [intOf]; omega
          · subst hK
            have HP3 : Hid (PartIs w (.iface 127 (.agg #[.int .i64 R, .int .i64 C, .slice ca cn cc])) (3, V, t, R, C, l)) := HPI.out
            have ep : partV 3 V ta tn tc R C ca cn cc = .iface 127 (.agg #[.int .i64 R, .int .i64 C, .slice ca cn cc]) := rfl
            rw [ep]
            clear HPI hone ep
            go_wp2_with (at_builtin; refine wpList_append_own _ rfl (.tmp 27) (.tmp 29) 62 rfl v0.heap.size 97 i0 .nilIface 1 16 Tryz.underlying62 hi hz0 hz1 hz2 rfl (by decide) (.slice pa i pc) _ _ rfl (World.ownsRow.alloc HO1.out.row _) ⟨_, 0, none⟩ 1 1 [.iface 127 (.agg #[.int .i64 R, .int .i64 C, .slice ca cn cc])] rfl rfl (cell_new1p _ _ _) (by intro u hu; simp at hu; subst hu; rfl) (by unfold maxLen; omega) (by omega) (by simp; omega) ?_; intro v' u2 hown' hgrow _)
            obtain ⟨a', c', rfl, ho2, hb2⟩ := ownP_step (x := .iface 127 (.agg #[.int .i64 R, .int .i64 C, .slice ca cn cc])) HO1.out HB1.out (by omega) hown' hgrow
            go_roundw
            case rel =>
              refine ⟨i + 1, a', c', ps ++ [.iface 127 (.agg #[.int .i64 R, .int .i64 C, .slice ca cn cc])], by omega, by go_num, rfl, ho2, ?_, ?_, hb2⟩
              · rw [HTK.out]
                exact HP.out.snoc HP3.out
              · rw [HTK.out, List.all_append, HA.out]
                simp only [List.all_cons, List.all_nil, Bool.and_true, Bool.true_and]
                exact HPB.out
            case measure => simp [intOf]; omega
      · have hib : ¬ (i : Int) < (n : Int) := by omega
        obtain rfl : i = n := by omega
        have e : d.take i = d := List.take_of_length_le (by have := HN.out; omega)
        have HP2 : Hid (PartsAre w ps d) := by rw [← e]; exact HP.out
        have HA2 : Hid (d.all partBB = true) := by show d.all partBB = true; rw [← e]; exact HA.out
        have hk : ∀ y ∈ d, kindB y := fun y hy => partB_kind (List.all_eq_true.1 HA2.out y hy)
        obtain ⟨ob, HOB⟩ : ∃ b, Hid (outlB d = b) := ⟨_, rfl⟩
        have HOU : Hid (Outl wr pa i pc d) := outl_of HO.out (HP2.out.below (HB0.out.trans (hb.mono s0)))
        have HK : Hid (∀ y ∈ d, kindB y) := hk
        clear e hb hk
        cases ob
        · go_wp2_with (go_at_call 53; refine (outlineOk_is HOB.out HOU.out HK.out).mono ?_; rintro e u1 ⟨rfl, hb1⟩)
          go_ret2
          refine ⟨.inl ⟨?_, rfl⟩, HB0.out.trans ((HB.out.trans (hb1.mono sB)).mono s0)⟩
          rw [← HX.out, ← Bool.not_eq_true, doc_parts2, HOB.out]
          rintro ⟨-, -, h3⟩
          cases h3
        · go_wp2_with (go_at_call 53; refine (outlineOk_is HOB.out HOU.out HK.out).mono ?_; rintro e u1 ⟨rfl, hb1⟩)
          go_ret2
          refine ⟨.inr ⟨?_, pa, pc, ps, rfl, own_less (HO.out.below hb1) s0, HP2.out⟩, HB0.out.trans ((HB.out.trans (hb1.mono sB)).mono s0)⟩
          rw [← HX.out, doc_parts2]
          exact ⟨by have := HN.out; omega, HA2.out, HOB.out⟩
end Go.Proofs.YtccoeachemnbnaaGreatDoor
namespace Go.Proofs.YtccoeachemnbnaaGreatDoor
open Go.RowKit

/-- The texts of a table that is ok are short, and its cells few. -/
theorem ok_small {R C : Int} {l : List Cl} (h : okB R C l = true) : l.length ≤ 25 ∧ ∀ x ∈ l, x.2.2.2.2.length ≤ 24 := by
  have hf : formB R C l = true := by
    simp only [okB, Bool.and_eq_true] at h
    exact h.1
  obtain ⟨_, _, hl, hat⟩ := formB_of hf
  refine ⟨hl, fun x hx => ?_⟩
  obtain ⟨k, hk, e⟩ := List.getElem_of_mem hx
  have := (cellB_of (atB_cell (hat k hk))).2.2.2.2
  rw [show l.getD k cl0 = x by rw [← e]; simp [List.getD, hk]] at this
  simp only [textB, Bool.and_eq_true, decide_eq_true_eq] at this
  exact this.1
end Go.Proofs.YtccoeachemnbnaaGreatDoor
namespace Go.Proofs.YtccoeachemnbnaaGreatDoor
open Go.RowKit

/-- A block that is a part in form is small. -/
theorem part_small {x : Bl} (h : partOkB x = true) : (x.1 = 1 ∨ x.1 = 2 → x.2.2.1.length ≤ 24) ∧ (x.1 = 3 → x.2.2.2.2.2.length ≤ 25 ∧ ∀ k, k < x.2.2.2.2.2.length → (x.2.2.2.2.2.getD k cl0).2.2.2.2.length ≤ 24) := by
  obtain ⟨k, v, t, R, C, l⟩ := x
  unfold partOkB at h
  simp only at h ⊢
  by_cases h1 : k = 1
  · subst h1
    simp [textB] at h
    exact ⟨fun _ => h.1, fun e => absurd e (by decide)⟩
  · by_cases h2 : k = 2
    · subst h2
      simp [textB] at h
      exact ⟨fun _ => h.2.1, fun e => absurd e (by decide)⟩
    · rw [if_neg h1, if_neg h2] at h
      obtain ⟨a, b⟩ := ok_small h
      refine ⟨fun e => by omega, fun _ => ⟨a, fun j hj => b _ ?_⟩⟩
      rw [show l.getD j cl0 = l[j] by simp [List.getD, hj]]
      exact List.getElem_mem hj
theorem outlB_part {d : List Bl} (h : outlB d = true) {k : Nat} (hk : k < d.length) : partOkB (d.getD k bl0) = true := by
  unfold outlB at h
  rw [Bool.and_eq_true, List.all_eq_true] at h
  have := h.2 k (List.mem_range.2 hk)
  unfold outK at this
  rw [Bool.and_eq_true] at this
  exact this.1
theorem partBB_para {v : Int} {t : List Sg} {R C : Int} {l : List Cl} (h : partBB (1, v, t, R, C, l) = true) : v = 0 ∧ R = 0 ∧ C = 0 ∧ l = [] := by
  simp [partBB, partB, noneB] at h
  exact ⟨h.1, h.2.1.1, h.2.1.2, h.2.2⟩
theorem partBB_item {v : Int} {t : List Sg} {R C : Int} {l : List Cl} (h : partBB (2, v, t, R, C, l) = true) : R = 0 ∧ C = 0 ∧ l = [] := by
  simp [partBB, partB, noneB] at h
  exact ⟨h.1.1, h.1.2, h.2⟩
theorem partBB_sheet {v : Int} {t : List Sg} {R C : Int} {l : List Cl} (h : partBB (3, v, t, R, C, l) = true) : v = 0 ∧ t = [] := by
  simp [partBB, partB] at h
  exact h
end Go.Proofs.YtccoeachemnbnaaGreatDoor
namespace Go.Proofs.YtccoeachemnbnaaGreatDoor
open Go.RowKit

/-- A list of parts of which one is read. -/
theorem ownP_at {w : World} {B : Nat} {pa : Option Addr} {n pc : Nat} {ps : List Value} (h : OwnP w B (.slice pa n pc) ps) {i : Nat} (hi : i < n) : ∃ g, pa = some ⟨g, 0, none⟩ ∧ B ≤ g ∧ g < w.heap.size ∧ w.cell? ⟨g, i, none⟩ = some (ps.getD i .nilIface) ∧ w.frozen? ⟨g, i, none⟩ = false := by
  have hr := h.row
  rcases hr.2 with ⟨hv, h0⟩ | ⟨g, cap, cur, hv, hg, hgg, _⟩
  · omega
  · simp only [Value.slice.injEq] at hv
    obtain ⟨rfl, -, rfl⟩ := hv
    refine ⟨g, rfl, hg, (Array.getElem?_eq_some_iff.1 hgg).1, ?_, hr.frozenAt i⟩
    have := hr.cellAt i (by omega)
    rw [this]
    have hl : i < ps.length := by rw [← h.len]; exact hi
    simp [List.getD, hl]
theorem levelOf_part {K V : Int} {ta : Option Addr} {tn tc : Nat} {R C : Int} {ca : Option Addr} {cn cc : Nat} {v : Int} {w : World} (hk : K = 1 ∨ K = 2 ∨ K = 3) (hv : (if K = 2 then V else -1) = v) :
    Calls Tryz.prog 75 #[partV K V ta tn tc R C ca cn cc] w fun e w' => e = .returned (.int .i64 v) ∧ Below w.heap.size w w' := by
  subst hv
  rcases hk with rfl | rfl | rfl
  · exact levelOf_para ta tn tc w
  · exact levelOf_item V ta tn tc w
  · exact levelOf_sheet R C ca cn cc w
end Go.Proofs.YtccoeachemnbnaaGreatDoor
namespace Go.Proofs.YtccoeachemnbnaaGreatDoor
open Go.RowKit

theorem para_info : (Tryz.prog.info? 123).map (fun i => (i.zero, i.size, i.bytes)) = some (some (.agg #[.slice none 0 0]), 1, 24) := by kernel_rfl
theorem assert_para (v : Value) (w : World) : (Instr.typeAssert (.iface 123 v) 97 123 true).run Tryz.prog w = .ok (.tuple #[v, .bool true]) w := by
  simp [Instr.typeAssert, run_underlying Tryz.underlying123, typeInfo]
theorem assert_noPara {t : TypeId} (ht : t ≠ 123) (v : Value) (w : World) : (Instr.typeAssert (.iface t v) 97 123 true).run Tryz.prog w = .ok (.tuple #[.agg #[.slice none 0 0], .bool false]) w := by
  obtain ⟨i0, hi, hz0, hz1, hz2⟩ := info_parts para_info
  simp [Instr.typeAssert, run_underlying Tryz.underlying123, typeInfo, zeroValue, hi, hz0, ht]
end Go.Proofs.YtccoeachemnbnaaGreatDoor
namespace Go.Proofs.YtccoeachemnbnaaGreatDoor
open Go.RowKit

/-- The error that says that there is no such place. -/
def noPl : Value := .iface 105 (.string ⟨#[116, 104, 101, 114, 101, 32, 105, 115, 32, 110, 111, 32, 115, 117, 99, 104, 32, 112, 108, 97, 99, 101]⟩)
set_option maxRecDepth 100000 in
set_option maxHeartbeats 4000000 in
theorem partAt_no {a : Option Addr} {n cap : Nat} {z : Int} {w : World} (h : ¬ (0 ≤ z ∧ z < (n : Int))) :
    Calls Tryz.prog 54 #[.slice a n cap, .int .i64 z] w fun e w' => e = .returned (.tuple #[.nilIface, noPl]) ∧ w' = w := by
  by_cases h0 : z < 0
  · go_enter Tryz.func54, Tryz.ntmps54
    go_wp2_with fail
    go_ret2
    exact ⟨rfl, rfl⟩
  · have h1 : (n : Int) ≤ z := by omega
    clear h
    go_enter Tryz.func54, Tryz.ntmps54
    go_wp2_with fail
    go_ret2
    exact ⟨rfl, rfl⟩
set_option maxRecDepth 100000 in
set_option maxHeartbeats 4000000 in
theorem partAt_yes {a : Option Addr} {n cap : Nat} {i : Nat} {d : List Bl} {w : World} (h : Outl w a n cap d) (hi : i < n) :
    Calls Tryz.prog 54 #[.slice a n cap, .int .i64 i] w fun e w' => (∃ p, e = .returned (.tuple #[p, .nilIface]) ∧ PartIs w p (d.getD i bl0)) ∧ w' = w := by
  obtain ⟨h1, h2, h3, h4⟩ := h
  unfold maxLen at h3
  have hid : i < d.length := by omega
  rcases h4 with q | ⟨b, off, rfl, hbl, hcl⟩
  · rw [q] at hid
    exact absurd hid (by simp)
  obtain ⟨ta, tn, tc, ca, cn, cc, hc, ht, hl⟩ := hcl i hid
  have HP : Hid (PartIs w (partV (d.getD i bl0).1 (d.getD i bl0).2.1 ta tn tc (d.getD i bl0).2.2.2.1 (d.getD i bl0).2.2.2.2.1 ca cn cc) (d.getD i bl0)) := ⟨_, _, _, _, _, _, rfl, ht, hl⟩
  generalize partV (d.getD i bl0).1 (d.getD i bl0).2.1 ta tn tc (d.getD i bl0).2.2.2.1 (d.getD i bl0).2.2.2.2.1 ca cn cc = p at hc HP
  have hi0 : (0 : Int) ≤ (i : Int) := by omega
  have hib : (i : Int) < (n : Int) := by omega
  clear hcl ht hl hid h1
  go_enter Tryz.func54, Tryz.ntmps54
  go_wp2_with fail
  go_ret2
  exact ⟨⟨p, rfl, HP.out⟩, rfl⟩
theorem sheet_info : (Tryz.prog.info? 127).map (fun i => (i.zero, i.size, i.bytes)) = some (some (.agg #[.int .i64 0, .int .i64 0, .slice none 0 0]), 3, 40) := by kernel_rfl
theorem assert_sheet (v : Value) (w : World) : (Instr.typeAssert (.iface 127 v) 97 127 true).run Tryz.prog w = .ok (.tuple #[v, .bool true]) w := by
  simp [Instr.typeAssert, run_underlying Tryz.underlying127, typeInfo]
/-- What textIn answers. -/
def TxIn (x : Bl) (c : Int) (e : Ending) (w' : World) : Prop := ∃ va vn vc, (textIn x c = none ∧ e = .returned (.tuple #[.slice va vn vc, .bool false])) ∨ (∃ t, textIn x c = some t ∧ e = .returned (.tuple #[.slice va vn vc, .bool true]) ∧ Txt w' va vn vc t)
theorem txIn_no {x : Bl} {c : Int} {w' : World} {va : Option Addr} {vn vc : Nat} (h : textIn x c = none) : TxIn x c (.returned (.tuple #[.slice va vn vc, .bool false])) w' := ⟨va, vn, vc, .inl ⟨h, rfl⟩⟩
theorem txIn_yes {x : Bl} {c : Int} {w' : World} {va : Option Addr} {vn vc : Nat} {t : List Sg} (h : textIn x c = some t) (ht : Txt w' va vn vc t) : TxIn x c (.returned (.tuple #[.slice va vn vc, .bool true])) w' := ⟨va, vn, vc, .inr ⟨t, h, rfl, ht⟩⟩
set_option maxRecDepth 100000 in
set_option maxHeartbeats 4000000 in
theorem textIn_para {ta : Option Addr} {tn tc : Nat} {V R C : Int} {l : List Cl} {t : List Sg} {c : Int} {w : World} (ht : Txt w ta tn tc t) :
    Calls Tryz.prog 55 #[.iface 123 (.agg #[.slice ta tn tc]), .int .i64 c] w fun e w' => TxIn (1, V, t, R, C, l) c e w' ∧ Below w.heap.size w w' := by
  have HT : Hid (Txt w ta tn tc t) := ht
  have HE : Hid (textIn (1, V, t, R, C, l) c = if c = 0 then some t else none) := rfl
  clear ht
  by_cases h : c = 0
  · rw [if_pos h] at HE
    go_enter Tryz.func55, Tryz.ntmps55
    go_wp2_with fail
    rw [assert_para]
    go_wp2_with fail
    go_ret2
    exact ⟨txIn_yes HE.out (HT.out.below ((Below.refl _ _).alloc (Nat.le_refl _) _)), (Below.refl _ _).alloc (Nat.le_refl _) _⟩
  · rw [if_neg h] at HE
    have hcf : (c == 0) = false := by simp [h]
    go_enter Tryz.func55, Tryz.ntmps55
    go_wp2_with fail
    rw [assert_para]
    go_wp2_with fail
    go_ret2
    exact ⟨txIn_no HE.out, (Below.refl _ _).alloc (Nat.le_refl _) _⟩
set_option maxRecDepth 100000 in
set_option maxHeartbeats 4000000 in
theorem textIn_item {ta : Option Addr} {tn tc : Nat} {V R C : Int} {l : List Cl} {t : List Sg} {c : Int} {w : World} (ht : Txt w ta tn tc t) :
    Calls Tryz.prog 55 #[.iface 125 (.agg #[.int .i64 V, .slice ta tn tc]), .int .i64 c] w fun e w' => TxIn (2, V, t, R, C, l) c e w' ∧ Below w.heap.size w w' := by
  have HT : Hid (Txt w ta tn tc t) := ht
  have HE : Hid (textIn (2, V, t, R, C, l) c = if c = 0 then some t else none) := rfl
  clear ht
  by_cases h : c = 0
  · rw [if_pos h] at HE
    go_enter Tryz.func55, Tryz.ntmps55
    go_wp2_with fail
    rw [assert_noPara (by decide)]
    go_wp2_with fail
    rw [assert_item]
    go_wp2_with fail
    go_ret2
    exact ⟨txIn_yes HE.out (HT.out.below ((Below.refl _ _).alloc (Nat.le_refl _) _)), (Below.refl _ _).alloc (Nat.le_refl _) _⟩
  · rw [if_neg h] at HE
    have hcf : (c == 0) = false := by simp [h]
    go_enter Tryz.func55, Tryz.ntmps55
    go_wp2_with fail
    rw [assert_noPara (by decide)]
    go_wp2_with fail
    rw [assert_item]
    go_wp2_with fail
    go_ret2
    exact ⟨txIn_no HE.out, (Below.refl _ _).alloc (Nat.le_refl _) _⟩
set_option maxRecDepth 100000 in
set_option maxHeartbeats 4000000 in
theorem textIn_sheet {ca : Option Addr} {cn cc : Nat} {V R C : Int} {l : List Cl} {t : List Sg} {c : Int} {w : World} (hc : Tab w ca cn cc l) :
    Calls Tryz.prog 55 #[.iface 127 (.agg #[.int .i64 R, .int .i64 C, .slice ca cn cc]), .int .i64 c] w fun e w' => TxIn (3, V, t, R, C, l) c e w' ∧ Below w.heap.size w w' := by
  have HE : Hid (textIn (3, V, t, R, C, l) c = if 0 ≤ c ∧ c < (l.length : Int) then some (l.getD c.toNat cl0).2.2.2.2 else none) := rfl
  obtain ⟨h1, h2, h3, h4⟩ := hc
  unfold maxLen at h3
  have HN : Hid (cn = l.length) := h1
  clear h1
  have B0 : Below w.heap.size w (w.alloc (.cells #[.int .i64 R, .int .i64 C, .slice ca cn cc] 127)) := (Below.refl _ _).alloc (Nat.le_refl _) _
  have HB0 : Hid (Below w.heap.size w (w.alloc (.cells #[.int .i64 R, .int .i64 C, .slice ca cn cc] 127))) := B0
  by_cases h0 : 0 ≤ c
  · by_cases hlt : c < (cn : Int)
    · obtain ⟨j, rfl⟩ : ∃ j : Nat, c = j := ⟨c.toNat, by omega⟩
      have hjl : j < l.length := by have := HN.out; omega
      rcases h4 with q | ⟨b, off, rfl, hbl, hcl⟩
      · rw [q] at hjl
        exact absurd hjl (by simp)
      obtain ⟨-, -, -, -, xa, xn, xc, hc4, hxt⟩ := (hcl j hjl).below B0 hbl
      have HXT : Hid (Txt (w.alloc (.cells #[.int .i64 R, .int .i64 C, .slice (some ⟨b, off, none⟩) cn cc] 127)) xa xn xc (l.getD j cl0).2.2.2.2) := hxt
      have HE2 : Hid (textIn (3, V, t, R, C, l) j = some (l.getD j cl0).2.2.2.2) := by
        show textIn (3, V, t, R, C, l) j = _
        rw [HE.out, if_pos ⟨by omega, by omega⟩]
        rfl
      clear HE hcl hxt B0
      go_enter Tryz.func55, Tryz.ntmps55
      go_wp2_with fail
      rw [assert_noPara (by decide)]
      go_wp2_with fail
      rw [assert_other (by decide)]
      go_wp2_with fail
      rw [assert_sheet]
      go_wp2_with fail
      go_ret2
      exact ⟨txIn_yes HE2.out HXT.out, HB0.out⟩
    · have HE2 : Hid (textIn (3, V, t, R, C, l) c = none) := by
        show textIn (3, V, t, R, C, l) c = _
        rw [HE.out, if_neg (by have := HN.out; omega)]
      clear HE h4 B0
      go_enter Tryz.func55, Tryz.ntmps55
      go_wp2_with fail
      rw [assert_noPara (by decide)]
      go_wp2_with fail
      rw [assert_other (by decide)]
      go_wp2_with fail
      rw [assert_sheet]
      go_wp2_with fail
      go_ret2
      exact ⟨txIn_no HE2.out, HB0.out⟩
  · have HE2 : Hid (textIn (3, V, t, R, C, l) c = none) := by
      show textIn (3, V, t, R, C, l) c = _
      rw [HE.out, if_neg (by omega)]
    clear HE h4 B0
    go_enter Tryz.func55, Tryz.ntmps55
    go_wp2_with fail
    rw [assert_noPara (by decide)]
    go_wp2_with fail
    rw [assert_other (by decide)]
    go_wp2_with fail
    rw [assert_sheet]
    go_wp2_with fail
    go_ret2
    exact ⟨txIn_no HE2.out, HB0.out⟩
theorem textIn_is {p : Value} {x : Bl} {c : Int} {w : World} (hp : PartIs w p x) (hk : kindB x) :
    Calls Tryz.prog 55 #[p, .int .i64 c] w fun e w' => TxIn x c e w' ∧ Below w.heap.size w w' := by
  obtain ⟨K, V, t, R, C, l⟩ := x
  obtain ⟨ta, tn, tc, ca, cn, cc, rfl, ht, hc⟩ := hp
  unfold kindB at hk
  simp only at hk ht hc
  rcases hk with rfl | rfl | rfl
  · exact textIn_para ht
  · exact textIn_item ht
  · exact textIn_sheet hc
/-- What textAt answers. -/
def TxAt (r : Option (List Sg)) (e : Ending) (w' : World) : Prop := (r = none ∧ e = .returned (.tuple #[.slice none 0 0, noPl])) ∨ (∃ t va vn vc, r = some t ∧ e = .returned (.tuple #[.slice va vn vc, .nilIface]) ∧ Txt w' va vn vc t)
theorem txAt_no {r : Option (List Sg)} {w' : World} (h : r = none) : TxAt r (.returned (.tuple #[.slice none 0 0, noPl])) w' := .inl ⟨h, rfl⟩
theorem txAt_yes {r : Option (List Sg)} {w' : World} {t : List Sg} {va : Option Addr} {vn vc : Nat} (h : r = some t) (ht : Txt w' va vn vc t) : TxAt r (.returned (.tuple #[.slice va vn vc, .nilIface])) w' := .inr ⟨t, va, vn, vc, h, rfl, ht⟩
theorem txIn_el {x : Bl} {c : Int} {e : Ending} {w' : World} (h : TxIn x c e w') : ∃ va vn vc, (textIn x c = none ∧ e = .returned (.tuple #[.slice va vn vc, .bool false])) ∨ (∃ t, textIn x c = some t ∧ e = .returned (.tuple #[.slice va vn vc, .bool true]) ∧ Txt w' va vn vc t) := h
set_option maxRecDepth 100000 in
set_option maxHeartbeats 8000000 in
theorem textAt_is {a : Option Addr} {n cap : Nat} {d : List Bl} {pb pc pa : Int} {w : World} (h : Outl w a n cap d) (hk : ∀ y ∈ d, kindB y) :
    Calls Tryz.prog 35 #[.slice a n cap, .agg #[.int .i64 pb, .int .i64 pc, .int .i64 pa]] w fun e w' => TxAt (placeT d pb pc pa) e w' ∧ Below w.heap.size w w' := by
  have HN : Hid (n = d.length) := h.1
  have hc := h.2.1
  have hm := h.2.2.1
  unfold maxLen at hm
  have H : Hid (Outl w a n cap d) := h
  have HK : Hid (∀ y ∈ d, kindB y) := hk
  clear h hk
  go_enter Tryz.func35, Tryz.ntmps35
  go_upto_region 1 with fail
  have B0 : Below w.heap.size w (w.alloc (.cells #[.int .i64 pb, .int .i64 pc, .int .i64 pa] 27)) := (Below.refl _ _).alloc (Nat.le_refl _) _
  have G0 : RowAt (w.alloc (.cells #[.int .i64 pb, .int .i64 pc, .int .i64 pa] 27)) w.heap.size #[.int .i64 pb, .int .i64 pc, .int .i64 pa] 27 := rowAt_new _ _ _
  generalize (w.alloc (.cells #[.int .i64 pb, .int .i64 pc, .int .i64 pa] 27)) = v0 at B0 G0 ⊢
  have k0 : v0.cell? ⟨w.heap.size, 0, none⟩ = some (.int .i64 pb) := G0.cell 0
  have k1 : v0.cell? ⟨w.heap.size, 1, none⟩ = some (.int .i64 pc) := G0.cell 1
  have k2 : v0.cell? ⟨w.heap.size, 2, none⟩ = some (.int .i64 pa) := G0.cell 2
  have s0 := B0.size
  have HG : Hid (RowAt v0 w.heap.size #[.int .i64 pb, .int .i64 pc, .int .i64 pa] 27) := G0
  have HB0 : Hid (Below w.heap.size w v0) := B0
  have HO : Hid (Outl v0 a n cap d) := H.out.below B0
  have l0 := G0.lt
  clear G0 B0
  by_cases hz : 0 ≤ pb ∧ pb < (n : Int)
  · obtain ⟨hz0, hz1⟩ := hz
    obtain ⟨i, rfl⟩ : ∃ i : Nat, pb = i := ⟨pb.toNat, by omega⟩
    have hin : i < n := by omega
    have hid : i < d.length := by have := HN.out; omega
    have HKI : Hid (kindB (d.getD i bl0)) := HK.out _ (by rw [getD_bl hid]; exact List.getElem_mem hid)
    have HP : Hid (placeT d i pc pa = (textIn (d.getD i bl0) pc).bind fun t => if 0 ≤ pa ∧ pa ≤ (t.length : Int) then some t else none) := by
      show placeT d i pc pa = _
      rw [placeT_in ⟨by omega, by omega⟩]
      rfl
    clear hid
    go_wp2_with fail
    refine (partAt_yes HO.out hin).mono ?_
    rintro e w1 ⟨⟨p, rfl, hp⟩, rfl⟩
    have HPI : Hid (PartIs w1 p (d.getD i bl0)) := hp
    clear hp
    go_wp2_with fail
    refine (textIn_is HPI.out HKI.out).mono ?_
    rintro e w2 ⟨ht, hb⟩
    have s2 := hb.size
    have k3 := (hb.cell (p := ⟨w.heap.size, 2, none⟩) l0).trans k2
    obtain ⟨va, vn, vc, (⟨he, rfl⟩ | ⟨t, he, rfl, htx⟩)⟩ := txIn_el ht
    · have HE : Hid (placeT d i pc pa = none) := by
        show placeT d i pc pa = none
        rw [HP.out, he]
        rfl
      clear he ht k0 k1
      go_wp2_with fail
      go_ret2
      exact ⟨txAt_no HE.out, HB0.out.trans (hb.mono s0)⟩
    · have HT : Hid (Txt w2 va vn vc t) := htx
      have HE : Hid (placeT d i pc pa = if 0 ≤ pa ∧ pa ≤ (vn : Int) then some t else none) := by
        show placeT d i pc pa = _
        rw [HP.out, he, htx.1]
        rfl
      have hvc := htx.2.1
      have hvm := htx.2.2.1
      unfold maxLen at hvm
      clear he ht k0 k1 htx HP
      by_cases h0 : 0 ≤ pa
      · by_cases h1 : pa ≤ (vn : Int)
        · rw [if_pos ⟨h0, h1⟩] at HE
          have d0 : ¬ pa < 0 := by omega
          have d1 : ¬ (vn : Int) < pa := by omega
          go_wp2_with fail
          go_ret2
          exact ⟨txAt_yes HE.out HT.out, HB0.out.trans (hb.mono s0)⟩
        · rw [if_neg (fun hh => h1 hh.2)] at HE
          have d0 : ¬ pa < 0 := by omega
          have d1 : (vn : Int) < pa := by omega
          go_wp2_with fail
          go_ret2
          exact ⟨txAt_no HE.out, HB0.out.trans (hb.mono s0)⟩
      · rw [if_neg (fun hh => h0 hh.1)] at HE
        have d0 : pa < 0 := by omega
        go_wp2_with fail
        go_ret2
        exact ⟨txAt_no HE.out, HB0.out.trans (hb.mono s0)⟩
  · have HE : Hid (placeT d pb pc pa = none) := placeT_out (by have := HN.out; omega)
    go_wp2_with fail
    refine (partAt_no hz).mono ?_
    rintro e w1 ⟨rfl, rfl⟩
    unfold noPl
    clear hz
    go_wp2_with fail
    go_ret2
    exact ⟨txAt_no HE.out, HB0.out⟩
end Go.Proofs.YtccoeachemnbnaaGreatDoor
namespace Go.Proofs.YtccoeachemnbnaaGreatDoor
open Go.RowKit

theorem place_info : (Tryz.prog.info? 27).map (·.size) = some 3 := by kernel_rfl
theorem placeT_small {d : List Bl} (hd : docB d = true) {b c a : Int} {t : List Sg} (h : placeT d b c a = some t) : t.length ≤ 24 := by
  unfold placeT at h
  split at h
  · rename_i hb
    obtain ⟨i, rfl⟩ : ∃ i : Nat, b = i := ⟨b.toNat, by omega⟩
    obtain ⟨hn8, hall, hou⟩ := (doc_parts2 d).1 hd
    have hi : i < d.length := by omega
    have hp := outlB_part hou hi
    have hkd := partB_kind (List.all_eq_true.1 hall _ (List.getElem_mem hi))
    simp only [Int.toNat_natCast, getD_bl hi] at h hp
    generalize d[i] = x at h hp hkd
    obtain ⟨K, V, s, R, C, l⟩ := x
    obtain ⟨h1, h2⟩ := part_small hp
    simp only at h1 h2 hkd
    cases hx : textIn (K, V, s, R, C, l) c with
    | none => rw [hx] at h; simp at h
    | some t' =>
      rw [hx] at h
      simp only [Option.bind_some] at h
      split at h
      · cases h
        unfold textIn at hx
        simp only at hx
        split at hx
        · rename_i h3
          split at hx
          · rename_i hc
            cases hx
            exact (h2 h3).2 _ (by omega)
          · cases hx
        · split at hx
          · cases hx
            exact h1 (by omega)
          · cases hx
      · cases h
  · cases h
/-- The parts of a document that a call asks for. -/
def OutlOf (w : World) (d : List Bl) (v : Value) : Prop := ∃ pa n pc, v = .slice pa n pc ∧ Outl w pa n pc (if docB d = true then d else []) ∧ ∀ y ∈ (if docB d = true then d else []), kindB y
theorem outlOf_any {a : Option Addr} {n cap : Nat} {d : List Bl} {w : World} (h : Dc w a n cap d) :
    Calls Tryz.prog 34 #[.agg #[.slice a n cap]] w fun e w' => (∃ v, e = .returned (.tuple #[v, .bool (docB d)]) ∧ OutlOf w' d v) ∧ Below w.heap.size w w' := by
  refine (outlineOf_is rfl h).mono ?_
  rintro e w1 ⟨(⟨hx, rfl⟩ | ⟨hx, pa, pc, ps, rfl, ho, hp⟩), hb⟩
  · refine ⟨⟨_, by rw [hx], none, 0, 0, rfl, ?_⟩, hb⟩
    rw [hx]
    exact ⟨⟨rfl, Nat.le_refl _, by unfold maxLen; omega, .inl rfl⟩, fun y hy => absurd hy (by simp)⟩
  · refine ⟨⟨_, by rw [hx], pa, n, pc, rfl, ?_⟩, hb⟩
    rw [if_pos hx]
    exact ⟨outl_of ho (hp.below hb), fun y hy => partB_kind (List.all_eq_true.1 ((doc_parts2 d).1 hx).2.1 y hy)⟩
theorem placeT_of (d : List Bl) (b c a : Int) : placeT (if docB d = true then d else []) b c a = plT d b c a := by
  unfold plT
  by_cases h : docB d = true
  · rw [if_pos h, if_pos h]
  · rw [if_neg h, if_neg h, placeT_nil]
theorem textAt_of {d : List Bl} {v : Value} {pb pc pa : Int} {w : World} (h : OutlOf w d v) :
    Calls Tryz.prog 35 #[v, .agg #[.int .i64 pb, .int .i64 pc, .int .i64 pa]] w fun e w' => TxAt (plT d pb pc pa) e w' ∧ Below w.heap.size w w' := by
  obtain ⟨a, n, c, rfl, h1, h2⟩ := h
  have := textAt_is (pb := pb) (pc := pc) (pa := pa) h1 h2
  rw [placeT_of] at this
  exact this
end Go.Proofs.YtccoeachemnbnaaGreatDoor
namespace Go.Proofs.YtccoeachemnbnaaGreatDoor
open Go.RowKit Go.Extern.Stop Go.Stop Go.Extern

/-- The value that a refusal is. -/
def cannotV (a : Addr) : Value := .iface 165 (.pointer (some a))
theorem Tryz.isTypeOfE (v : Value) (w : World) : (Extern.ReflectliteType.typeOf #[.iface 165 v]).run Tryz.prog w = .ok (.iface 130 (.agg #[.pointer (some ⟨1, 165, none⟩)])) w := by kernel_rfl
theorem Tryz.callComparableE (w : World) : (callFunc 142 #[.agg #[.pointer (some ⟨1, 165, none⟩)]]).run Tryz.prog w = .ok (.value (.bool true)) w := by
  have h := @run_callFunc_extern Tryz.prog 142 _ (Extern.ReflectliteType.method fun t => do Go.Extern.Rtype.noPackHeld "Comparable" t; pure (.bool (← typeInfo t).comparable)) Tryz.func142 (by kernel_rfl) (by kernel_rfl) (by kernel_rfl) (by kernel_rfl)
  exact (h _ _).trans (by kernel_rfl)
theorem Tryz.isMethodComparableE (v : Value) (w : World) : (Go.method 325 130 v "Comparable").run Tryz.prog w = .ok (142, v) w := by kernel_rfl
theorem Tryz.isMethodUnwrap (v : Value) (w : World) : (Go.method 325 105 v "Unwrap").run Tryz.prog w = .ok (117, v) w := by kernel_rfl
theorem Tryz.noIs (v : Value) (xT : TypeId) (w : World) : (Instr.typeAssert (.iface 105 v) xT 132 true).run Tryz.prog w = .ok (.tuple #[.nilIface, .bool false]) w := run_typeAssert_lacksB Tryz.underlying132 (by kernel_rfl) (by kernel_rfl) v xT w
theorem Tryz.hasUnwrap (v : Value) (xT : TypeId) (w : World) : (Instr.typeAssert (.iface 105 v) xT 135 true).run Tryz.prog w = .ok (.tuple #[.iface 105 v, .bool true]) w := run_typeAssert_hasB Tryz.underlying135 (by kernel_rfl) v xT w
theorem Tryz.errPtrComp : (Tryz.prog.info? 165).map (·.comparable) = some true := by kernel_rfl
theorem Tryz.errStr : (Tryz.prog.info? 211).isSome = true := by kernel_rfl
theorem eql_same (a : Addr) (w : World) : (binOp .eql 66 (.iface 165 (.pointer (some a))) (.iface 165 (.pointer (some a)))).run Tryz.prog w = .ok (.bool true) w := by
  have h1 := Tryz.errPtrComp
  have h2 := Tryz.errStr
  cases hi : Tryz.prog.info? 165 with
  | none => rw [hi] at h1; cases h1
  | some i =>
    rw [hi] at h1
    cases hj : Tryz.prog.info? 211 with
    | none => rw [hj] at h2; cases h2
    | some j => exact run_eql_iface_ptr_same w a Tryz.underlying66 Tryz.underlying165 hi (by simpa using h1) hj
set_option maxRecDepth 100000 in
set_option maxHeartbeats 8000000 in
theorem unwrap_is {s : ByteArray} {v : Value} {w : World} (hg : w.cell? ⟨0, 0, none⟩ = some v) :
    Calls Tryz.prog 117 #[.string s] w fun e w' => e = .returned v ∧ w' = w := by
  go_enter Tryz.func117, Tryz.ntmps117
  go_wp2
  go_ret
  exact ⟨rfl, rfl⟩
set_option maxRecDepth 100000 in
set_option maxHeartbeats 8000000 in
theorem innerIs {s : ByteArray} {a : Addr} {w : World} (hg : w.cell? ⟨0, 0, none⟩ = some (.iface 165 (.pointer (some a)))) :
    Calls Tryz.prog 57 #[.iface 105 (.string s), .iface 165 (.pointer (some a)), .bool true] w fun e w' => e = .returned (.bool true) ∧ w' = w := by
  have HG : Hid (w.cell? ⟨0, 0, none⟩ = some (.iface 165 (.pointer (some a)))) := hg
  clear hg
  have mU := Tryz.isMethodUnwrap
  have aI := Tryz.noIs
  have aU := Tryz.hasUnwrap
  have heq := eql_same a w
  have hne : (binOp .eql 66 (.iface 105 (.string s)) (.iface 165 (.pointer (some a)))).run Tryz.prog w = .ok (.bool false) w := run_eql_iface_types _ _ _ _ Tryz.underlying66 (by decide) w
  go_enter Tryz.func57, Tryz.ntmps57
  go_wp2_with fail
  refine wp_loop_rounds 2 ?_
  rw [rounds_succ]
  go_wp2_with (go_at_call 117; refine (unwrap_is HG.out).mono ?_; rintro e w1 ⟨rfl, rfl⟩)
  rw [rounds_succ]
  go_wp2_with fail
  go_ret
  exact ⟨rfl, rfl⟩
set_option maxRecDepth 100000 in
set_option maxHeartbeats 8000000 in
theorem isCannot_yes {s : ByteArray} {a : Addr} {w : World} (hg : w.cell? ⟨0, 0, none⟩ = some (cannotV a)) :
    Calls Tryz.prog 36 #[.iface 105 (.string s), cannotV a] w fun e w' => e = .returned (.bool true) ∧ w' = w := by
  have HG : Hid (w.cell? ⟨0, 0, none⟩ = some (.iface 165 (.pointer (some a)))) := hg
  clear hg
  unfold cannotV
  have h8 := @run_callFunc_extern Tryz.prog 56 _ Extern.ReflectliteType.typeOf Tryz.func56 (by kernel_rfl) (by kernel_rfl) (by kernel_rfl) (by kernel_rfl)
  have h32 := Tryz.callComparableE
  have tT := Tryz.isTypeOfE
  have mR := Tryz.isMethodComparableE
  go_enter Tryz.func36, Tryz.ntmps36
  go_wp2_with fail
  refine (innerIs HG.out).mono ?_
  rintro e w1 ⟨rfl, rfl⟩
  go_wp2_with fail
  go_ret
  exact ⟨rfl, rfl⟩
set_option maxRecDepth 100000 in
set_option maxHeartbeats 4000000 in
theorem isCannot_nil (a : Addr) (w : World) :
    Calls Tryz.prog 36 #[.nilIface, cannotV a] w fun e w' => e = .returned (.bool false) ∧ w' = w := by
  unfold cannotV
  have hn := run_eql_iface_nil_left (P := Tryz.prog) w 165 (.pointer (some a)) Tryz.underlying66
  go_enter Tryz.func36, Tryz.ntmps36
  go_wp2
  go_ret
  exact ⟨rfl, rfl⟩
end Go.Proofs.YtccoeachemnbnaaGreatDoor
namespace Go.Proofs.YtccoeachemnbnaaGreatDoor
open Go.RowKit

theorem textB_len {l : List Sg} (h : textB l = true) : l.length ≤ 24 := by
  unfold textB at h
  simp only [Bool.and_eq_true, decide_eq_true_eq] at h
  exact h.1
end Go.Proofs.YtccoeachemnbnaaGreatDoor
namespace Go.Proofs.YtccoeachemnbnaaGreatDoor
open Go.RowKit

/-- A person is in a set of people. -/
def hasB (p n : Int) : Bool := bits BinOp.and IntKind.u8 p (personN n) != 0
def woN (p n : Int) : Int := if hasB p n then 0 else n

set_option maxHeartbeats 400000 in
theorem has_any (p n : Int) (w : World) :
    Calls Tryz.prog 64 #[.int .u8 p, .int .i64 n] w fun e w' => e = .returned (.bool (hasB p n)) ∧ w' = w := by
  go_enter Tryz.func64, Tryz.ntmps64
  go_wp2_with (go_at_call 81; refine (person_any _ _).mono ?_; rintro e w' ⟨rfl, rfl⟩)
  go_ret
  exact ⟨rfl, rfl⟩

theorem phas_is {p n : Int} {x : Bool} (h : hasB p n = x) (w : World) : Calls Tryz.prog 64 #[.int .u8 p, .int .i64 n] w fun e w' => e = .returned (.bool x) ∧ w' = w := h ▸ has_any p n w

theorem sgB_parts {s : Sg} (h : sgB s = true) : byteB s.1 = true ∧ whoB s.2.1 = true ∧ whoB s.2.2 = true ∧ (s.2.2 = 0 ∨ s.2.1 ≠ s.2.2) := by
  simp [sgB, signB] at h
  exact ⟨h.1.1.1, h.1.1.2, h.1.2, h.2⟩
theorem textB_all {l : List Sg} (h : textB l = true) : ∀ s ∈ l, sgB s = true := by
  simp [textB] at h
  exact fun s hs => h.2 s.1 s.2.1 s.2.2 hs
end Go.Proofs.YtccoeachemnbnaaGreatDoor
