import Derived.Test.YteghidjbcpmfbaaB2
import Derived.Deep.RegionHeld3
import Derived.Deep.AppendLies
import Derived.Test.YteghidjbcpmfbaaB1
import Derived.Deep.MidRow
import Derived.Lib.BitFns
import Derived.Deep.QuietTactic
import Derived.BigQuiet
namespace Go.Proofs.Yteghidjbcpmfbaa
open Go.RowKit

theorem cell_info : (Try.prog.info? 44).map (·.size) = some 5 := by kernel_rfl
/-- How far a cell goes: as long as the numbers are the same. -/
def Dn (R : Nat) (f : Nat → Nat) (a b d : Nat) : Prop := (∀ i, i < d → a + i < R ∧ f ((a + i) * 5 + b) = f (a * 5 + b)) ∧ ¬ (a + d < R ∧ f ((a + d) * 5 + b) = f (a * 5 + b))
def Rt (C : Nat) (f : Nat → Nat) (a b h : Nat) : Prop := (∀ j, j < h → b + j < C ∧ f (a * 5 + (b + j)) = f (a * 5 + b)) ∧ ¬ (b + h < C ∧ f (a * 5 + (b + h)) = f (a * 5 + b))

set_option maxRecDepth 100000 in
set_option maxHeartbeats 4000000 in
theorem cell_any (R C n : Nat) (f : Nat → Nat) (t : Nat → Sl) (a b : Nat) (tx : List Sg) (w : World) (hR : R ≤ 5) (hC : C ≤ 5) (ha : a < R) (hb : b < C) (hf : ∀ k, f k ≤ 25)
    (ht : Txt w (t (f (a * 5 + b))).1 (t (f (a * 5 + b))).2.1 (t (f (a * 5 + b))).2.2 tx) (hl : tx.length ≤ 1048576) :
    Calls Try.prog 60 #[.agg (gridA R C n f t), .int .i64 a, .int .i64 b] w fun z w' => (∃ d h p m c, z = .returned (.agg #[.int .i64 a, .int .i64 b, .int .i64 (d : Nat), .int .i64 (h : Nat), .slice p m c]) ∧ Dn R f a b d ∧ Rt C f a b h ∧ Own w' w.heap.size (.slice p m c) tx) ∧ Below w.heap.size w w' := by
  obtain ⟨i0, hi, hz0, hz1, hz2⟩ := info_parts Try.info89
  have HT : Hid (Txt w (t (f (a * 5 + b))).1 (t (f (a * 5 + b))).2.1 (t (f (a * 5 + b))).2.2 tx) := ht
  clear ht
  go_enter Try.func60, Try.ntmps60
  go_upto_region 1 with fail
  have B0 : Below w.heap.size w ((w.alloc (.cells (gridA R C n f t) 51)).alloc (.cells #[.int .i64 0, .int .i64 0, .int .i64 0, .int .i64 0, .slice none 0 0] 44)) := ((Below.refl _ _).alloc (Nat.le_refl _) _).alloc (by simp) _
  have G0 : GridAt ((w.alloc (.cells (gridA R C n f t) 51)).alloc (.cells #[.int .i64 0, .int .i64 0, .int .i64 0, .int .i64 0, .slice none 0 0] 44)) w.heap.size R C n f t := (gridAt_new w R C n f t).alloc _
  have G1 : RowAt ((w.alloc (.cells (gridA R C n f t) 51)).alloc (.cells #[.int .i64 0, .int .i64 0, .int .i64 0, .int .i64 0, .slice none 0 0] 44)) (w.heap.size + 1) #[.int .i64 0, .int .i64 0, .int .i64 0, .int .i64 0, .slice none 0 0] 44 := by
    have := rowAt_new (w.alloc (.cells (gridA R C n f t) 51)) #[.int .i64 0, .int .i64 0, .int .i64 0, .int .i64 0, .slice none 0 0] 44
    simpa using this
  generalize ((w.alloc (.cells (gridA R C n f t) 51)).alloc (.cells #[.int .i64 0, .int .i64 0, .int .i64 0, .int .i64 0, .slice none 0 0] 44)) = v0 at B0 G0 G1 ⊢
  have hm := hf (a * 5 + b)
  obtain ⟨m, HM⟩ : ∃ m, Hid (f (a * 5 + b) = m) := ⟨_, rfl⟩
  have k0 := G0.num (a * 5 + b) (by omega)
  rw [← Nat.add_assoc, HM.out] at k0
  rw [HM.out] at hm HT
  have k1 := G0.txt m (by omega)
  obtain ⟨⟨ta, tn, tc⟩, hts⟩ : ∃ s, t m = s := ⟨_, rfl⟩
  rw [hts] at k1 HT
  simp only [slV] at k1
  simp only at HT
  clear hts
  have b0 : (a : Int) < 5 := by omega
  have b1 : (b : Int) < 5 := by omega
  have b2 : (m : Int) < 26 := by omega
  go_upto_region 2 with fail
  have HTN : Hid (tn = tx.length) := HT.out.1
  have htl : tn ≤ 1048576 := by rw [HTN.out]; exact hl
  go_upto_region 3 with (at_builtin; refine wpList_append_txt rfl (.const (.slice none 0 0)) (.tmp 20) rfl v0.heap.size (.slice none 0 0) 0 [] rfl (World.ownsRow_nil _ _ _ _) ta tn tc tx rfl (HT.out.below B0) (by omega) (Nat.le_refl _) ?_; intro v' w1 hown hgrow; obtain ⟨p, q, rfl, -⟩ := Own.shape (show Own w1 v0.heap.size v' tx by (rw [Nat.zero_add, List.nil_append, HTN.out] at hown; exact hown)))
  have hO : Own w1 v0.heap.size (.slice p tx.length q) tx := by
    rw [Nat.zero_add, List.nil_append, HTN.out] at hown
    exact hown
  have hb1 : Below v0.heap.size v0 w1 := (Below.refl _ _).grown hgrow (Nat.le_refl _) (fun k hk => by simp [Value.ownBlock] at hk)
  clear hown hgrow
  have s1 := hb1.size
  have N0 : RowAt (w1.alloc (.cells #[.int .i64 a, .int .i64 b, .int .i64 0, .int .i64 0, .slice p tx.length q] 44)) w1.heap.size #[.int .i64 a, .int .i64 b, .int .i64 0, .int .i64 0, .slice p tx.length q] 44 := rowAt_new _ _ _
  have N1 : Below v0.heap.size v0 (w1.alloc (.cells #[.int .i64 a, .int .i64 b, .int .i64 0, .int .i64 0, .slice p tx.length q] 44)) := hb1.alloc s1 _
  have N2 : Own (w1.alloc (.cells #[.int .i64 a, .int .i64 b, .int .i64 0, .int .i64 0, .slice p tx.length q] 44)) v0.heap.size (.slice p tx.length q) tx := hO.alloc _
  generalize (w1.alloc (.cells #[.int .i64 a, .int .i64 b, .int .i64 0, .int .i64 0, .slice p tx.length q] 44)) = v2 at N0 N1 N2 ⊢
  have ob : ∀ g, (Value.slice p tx.length q).ownBlock = some g → g < w1.heap.size := fun g hg => (own_lt hO.row hg).2
  have HOB : Hid (∀ g, (Value.slice p tx.length q).ownBlock = some g → g < w1.heap.size) := ob
  clear hO ob k0 k1 hb1
  have z0 := G0.lt
  have z1 := G1.lt
  go_wp2_with fail
  go_loopw [23] (fun _ wr => ∃ d : Nat, d ≤ R - a ∧ (∀ i, i < d → a + i < R ∧ f ((a + i) * 5 + b) = m) ∧ RowAt wr w1.heap.size #[.int .i64 a, .int .i64 b, .int .i64 d, .int .i64 0, .slice p tx.length q] 44 ∧ Below v0.heap.size v0 wr ∧ Own wr v0.heap.size (.slice p tx.length q) tx) (fun _ wr => R - a - (match wr.cell? ⟨w1.heap.size, 2, none⟩ with | some v => (intOf v).toNat | none => 0))
  case atStart => exact ⟨0, Nat.zero_le _, fun i hi => by omega, N0, N1, N2⟩
  case round =>
    clear N0 N1 N2
    obtain ⟨d, hd, hall, hr, hbl, hO⟩ := hrel
    have HA : Hid (∀ i, i < d → a + i < R ∧ f ((a + i) * 5 + b) = m) := hall
    have HR : Hid (RowAt wr w1.heap.size #[.int .i64 a, .int .i64 b, .int .i64 d, .int .i64 0, .slice p tx.length q] 44) := hr
    have HB : Hid (Below v0.heap.size v0 wr) := hbl
    have HO : Hid (Own wr v0.heap.size (.slice p tx.length q) tx) := hO
    have e2 : wr.cell? ⟨w1.heap.size, 2, none⟩ = some (.int .i64 d) := hr.cell 2
    have e2f := hr.frozen 2
    have gg := G0.below hbl z0
    have g0 := gg.rows
    have g1 := gg.cols
    clear hall hr hbl hO
    by_cases h1 : a + d < R
    · have k0 := gg.num ((a + d) * 5 + b) (by omega)
      obtain ⟨x, hx⟩ : ∃ x, f ((a + d) * 5 + b) = x := ⟨_, rfl⟩
      have HXX : Hid (f ((a + d) * 5 + b) = x) := hx
      rw [← Nat.add_assoc, hx] at k0
      have hx25 := hf ((a + d) * 5 + b)
      rw [hx] at hx25
      have c0 : (a : Int) + d < R := by omega
      have c1 : (a : Int) + d < 5 := by omega
      clear gg hx
      by_cases h2 : x = m
      · have h2' : ((x : Int) == (m : Int)) = true := by simp [h2]
        have H2 : Hid (x = m) := h2
        clear h2
        go_wp2_with fail
        go_roundw
        case rel =>
          refine ⟨d + 1, by omega, ?_, ?_, HB.out.setCell (by show _ ≤ w1.heap.size; omega) _, own_set HO.out _ _ (fun e => by have := HOB.out _ e; simp at this)⟩
          · intro i hi
            by_cases hid : i = d
            · subst hid
              exact ⟨h1, HXX.out.trans H2.out⟩
            · exact HA.out i (by omega)
          · exact HR.out.setCell 2 (.int .i64 ((d : Int) + 1))
        case measure =>
          rw [show (wr.setCell ⟨w1.heap.size, 2, none⟩ (.int .i64 ((d : Int) + 1))).cell? ⟨w1.heap.size, 2, none⟩ = some (.int .i64 ((d : Int) + 1)) from (HR.out.setCell 2 (.int .i64 ((d : Int) + 1))).cell 2, e2]
          simp only [intOf]
          omega
      · have h2' : ((x : Int) == (m : Int)) = false := by simp; omega
        have H2 : Hid (¬ x = m) := h2
        clear h2
        go_wp2_with fail
        have HDn : Hid (Dn R f a b d) := ⟨fun i hi => ⟨(HA.out i hi).1, (HA.out i hi).2.trans HM.out.symm⟩, fun hh => H2.out (HXX.out.symm.trans (hh.2.trans HM.out))⟩
        have gg2 : Hid (GridAt wr w.heap.size R C n f t) := G0.below HB.out z0
        have lr : w1.heap.size < wr.heap.size := HR.out.lt
        clear e2 e2f g0 g1 k0 h2' c0 c1 h1
        go_loopw [47] (fun _ wr => ∃ h : Nat, h ≤ C - b ∧ (∀ j, j < h → b + j < C ∧ f (a * 5 + (b + j)) = m) ∧ RowAt wr w1.heap.size #[.int .i64 a, .int .i64 b, .int .i64 d, .int .i64 h, .slice p tx.length q] 44 ∧ Below v0.heap.size v0 wr ∧ Own wr v0.heap.size (.slice p tx.length q) tx) (fun _ wr => C - b - (match wr.cell? ⟨w1.heap.size, 3, none⟩ with | some v => (intOf v).toNat | none => 0))
        case atStart => exact ⟨0, Nat.zero_le _, fun j hj => by omega, HR.out, HB.out, HO.out⟩
        case round =>
          clear HR HB HO HA gg2
          obtain ⟨h, hh, hall, hr, hbl, hO⟩ := hrel
          have HA : Hid (∀ j, j < h → b + j < C ∧ f (a * 5 + (b + j)) = m) := hall
          have HR : Hid (RowAt wr w1.heap.size #[.int .i64 a, .int .i64 b, .int .i64 d, .int .i64 h, .slice p tx.length q] 44) := hr
          have HB : Hid (Below v0.heap.size v0 wr) := hbl
          have HO : Hid (Own wr v0.heap.size (.slice p tx.length q) tx) := hO
          have e3 : wr.cell? ⟨w1.heap.size, 3, none⟩ = some (.int .i64 h) := hr.cell 3
          have e3f := hr.frozen 3
          have gg := G0.below hbl z0
          have g1 := gg.cols
          have HG1 : Hid (RowAt wr (w.heap.size + 1) #[.int .i64 0, .int .i64 0, .int .i64 0, .int .i64 0, .slice none 0 0] 44) := G1.below hbl z1
          clear hall hr hbl hO
          by_cases h1 : b + h < C
          · have k0 := gg.num (a * 5 + (b + h)) (by omega)
            obtain ⟨y, hy⟩ : ∃ y, f (a * 5 + (b + h)) = y := ⟨_, rfl⟩
            have HY : Hid (f (a * 5 + (b + h)) = y) := hy
            rw [← Nat.add_assoc, hy] at k0
            have hy25 := hf (a * 5 + (b + h))
            rw [hy] at hy25
            have c0 : (b : Int) + h < C := by omega
            have c1 : (b : Int) + h < 5 := by omega
            clear gg hy
            by_cases h2 : y = m
            · have h2' : ((y : Int) == (m : Int)) = true := by simp [h2]
              have H2 : Hid (y = m) := h2
              clear h2
              go_wp2_with fail
              go_quiet (fail)
              go_wp2_with fail
              go_roundw
              case rel =>
                refine ⟨h + 1, by omega, ?_, HR.out.setCell 3 (.int .i64 ((h : Int) + 1)), (below_drewN HB.out _).setCell (by show _ ≤ w1.heap.size; omega) _, own_set (own_below HO.out (below_drewN (Below.refl _ _) _)) _ _ (fun e => by have := HOB.out _ e; simp at this)⟩
                intro i hi
                by_cases hid : i = h
                · subst hid
                  exact ⟨h1, HY.out.trans H2.out⟩
                · exact HA.out i (by omega)
              case measure =>
                rw [show ((wr.drewN nq).setCell ⟨w1.heap.size, 3, none⟩ (.int .i64 ((h : Int) + 1))).cell? ⟨w1.heap.size, 3, none⟩ = some (.int .i64 ((h : Int) + 1)) from ((HR.out.below (below_drewN (Below.refl wr.heap.size wr) nq) HR.out.lt).setCell 3 (.int .i64 ((h : Int) + 1))).cell 3, e3]
                simp only [intOf]
                omega
            · have h2' : ((y : Int) == (m : Int)) = false := by simp; omega
              have H2 : Hid (¬ y = m) := h2
              clear h2
              have d0 : wr.cell? ⟨w1.heap.size, 0, none⟩ = some (.int .i64 a) := HR.out.cell 0
              have d1 : wr.cell? ⟨w1.heap.size, 1, none⟩ = some (.int .i64 b) := HR.out.cell 1
              have d2 : wr.cell? ⟨w1.heap.size, 2, none⟩ = some (.int .i64 d) := HR.out.cell 2
              have d4 : wr.cell? ⟨w1.heap.size, 4, none⟩ = some (.slice p tx.length q) := HR.out.cell 4
              have HRt : Hid (Rt C f a b h) := ⟨fun j hj => ⟨(HA.out j hj).1, (HA.out j hj).2.trans HM.out.symm⟩, fun hh => H2.out (HY.out.symm.trans (hh.2.trans HM.out))⟩
              have lz := HG1.out.lt
              go_wp2_with fail
              go_quiet (fail)
              go_wp2_with (refine wpList_store_row rfl 44 (.tmp 6) (.tmp 71) rfl (w.heap.size + 1) #[.int .i64 a, .int .i64 b, .int .i64 d, .int .i64 h, .slice p tx.length q] rfl rfl 44 _ (HG1.out.below (below_drewN (Below.refl wr.heap.size wr) nq) lz) cell_info rfl (cells5_one _ _ _ _ _ _ _) ?_)
              refine bodyPost_ret (v := .agg #[.int .i64 a, .int .i64 b, .int .i64 d, .int .i64 h, .slice p tx.length q]) (results_cell_row (p := 6) (ty := 44) rfl _ _ (w.heap.size + 1) 44 _ _ _ rfl (RowAt.setRow (HG1.out.below (below_drewN (Below.refl wr.heap.size wr) nq) lz) _) Try.underlying44 rfl cell_info) rfl ⟨⟨d, h, p, tx.length, q, rfl, HDn.out, HRt.out, ?_⟩, below_row (below_drewN (B0.trans (HB.out.mono B0.size)) _) (by omega) _⟩
              exact own_less (own_row (own_below HO.out (below_drewN (Below.refl _ _) _)) _ _ (fun e => by have := (own_lt HO.out.row e).1; omega)) B0.size
          · have c0 : decide ((b : Int) + h < C) = false := by simp; omega
            have c0' : C ≤ b + h := by omega
            clear gg
            have d0 : wr.cell? ⟨w1.heap.size, 0, none⟩ = some (.int .i64 a) := HR.out.cell 0
            have d1 : wr.cell? ⟨w1.heap.size, 1, none⟩ = some (.int .i64 b) := HR.out.cell 1
            have d2 : wr.cell? ⟨w1.heap.size, 2, none⟩ = some (.int .i64 d) := HR.out.cell 2
            have d4 : wr.cell? ⟨w1.heap.size, 4, none⟩ = some (.slice p tx.length q) := HR.out.cell 4
            have HRt : Hid (Rt C f a b h) := ⟨fun j hj => ⟨(HA.out j hj).1, (HA.out j hj).2.trans HM.out.symm⟩, fun hh => h1 hh.1⟩
            have lz := HG1.out.lt
            go_wp2_with fail
            go_quiet (fail)
            go_wp2_with (refine wpList_store_row rfl 44 (.tmp 6) (.tmp 71) rfl (w.heap.size + 1) #[.int .i64 a, .int .i64 b, .int .i64 d, .int .i64 h, .slice p tx.length q] rfl rfl 44 _ (HG1.out.below (below_drewN (Below.refl wr.heap.size wr) nq) lz) cell_info rfl (cells5_one _ _ _ _ _ _ _) ?_)
            refine bodyPost_ret (v := .agg #[.int .i64 a, .int .i64 b, .int .i64 d, .int .i64 h, .slice p tx.length q]) (results_cell_row (p := 6) (ty := 44) rfl _ _ (w.heap.size + 1) 44 _ _ _ rfl (RowAt.setRow (HG1.out.below (below_drewN (Below.refl wr.heap.size wr) nq) lz) _) Try.underlying44 rfl cell_info) rfl ⟨⟨d, h, p, tx.length, q, rfl, HDn.out, HRt.out, ?_⟩, below_row (below_drewN (B0.trans (HB.out.mono B0.size)) _) (by omega) _⟩
            exact own_less (own_row (own_below HO.out (below_drewN (Below.refl _ _) _)) _ _ (fun e => by have := (own_lt HO.out.row e).1; omega)) B0.size
    · have c0 : ¬ (a : Int) + d < R := by omega
      clear gg
      go_wp2_with fail
      have HDn : Hid (Dn R f a b d) := ⟨fun i hi => ⟨(HA.out i hi).1, (HA.out i hi).2.trans HM.out.symm⟩, fun hh => h1 hh.1⟩
      have gg2 : Hid (GridAt wr w.heap.size R C n f t) := G0.below HB.out z0
      have lr : w1.heap.size < wr.heap.size := HR.out.lt
      clear e2 e2f g0 g1 c0 h1
      go_loopw [47] (fun _ wr => ∃ h : Nat, h ≤ C - b ∧ (∀ j, j < h → b + j < C ∧ f (a * 5 + (b + j)) = m) ∧ RowAt wr w1.heap.size #[.int .i64 a, .int .i64 b, .int .i64 d, .int .i64 h, .slice p tx.length q] 44 ∧ Below v0.heap.size v0 wr ∧ Own wr v0.heap.size (.slice p tx.length q) tx) (fun _ wr => C - b - (match wr.cell? ⟨w1.heap.size, 3, none⟩ with | some v => (intOf v).toNat | none => 0))
      case atStart => exact ⟨0, Nat.zero_le _, fun j hj => by omega, HR.out, HB.out, HO.out⟩
      case round =>
        clear HR HB HO HA gg2
        obtain ⟨h, hh, hall, hr, hbl, hO⟩ := hrel
        have HA : Hid (∀ j, j < h → b + j < C ∧ f (a * 5 + (b + j)) = m) := hall
        have HR : Hid (RowAt wr w1.heap.size #[.int .i64 a, .int .i64 b, .int .i64 d, .int .i64 h, .slice p tx.length q] 44) := hr
        have HB : Hid (Below v0.heap.size v0 wr) := hbl
        have HO : Hid (Own wr v0.heap.size (.slice p tx.length q) tx) := hO
        have e3 : wr.cell? ⟨w1.heap.size, 3, none⟩ = some (.int .i64 h) := hr.cell 3
        have e3f := hr.frozen 3
        have gg := G0.below hbl z0
        have g1 := gg.cols
        have HG1 : Hid (RowAt wr (w.heap.size + 1) #[.int .i64 0, .int .i64 0, .int .i64 0, .int .i64 0, .slice none 0 0] 44) := G1.below hbl z1
        clear hall hr hbl hO
        by_cases h1 : b + h < C
        · have k0 := gg.num (a * 5 + (b + h)) (by omega)
          obtain ⟨y, hy⟩ : ∃ y, f (a * 5 + (b + h)) = y := ⟨_, rfl⟩
          have HY : Hid (f (a * 5 + (b + h)) = y) := hy
          rw [← Nat.add_assoc, hy] at k0
          have hy25 := hf (a * 5 + (b + h))
          rw [hy] at hy25
          have c0 : (b : Int) + h < C := by omega
          have c1 : (b : Int) + h < 5 := by omega
          clear gg hy
          by_cases h2 : y = m
          · have h2' : ((y : Int) == (m : Int)) = true := by simp [h2]
            have H2 : Hid (y = m) := h2
            clear h2
            go_wp2_with fail
            go_quiet (fail)
            go_wp2_with fail
            go_roundw
            case rel =>
              refine ⟨h + 1, by omega, ?_, HR.out.setCell 3 (.int .i64 ((h : Int) + 1)), (below_drewN HB.out _).setCell (by show _ ≤ w1.heap.size; omega) _, own_set (own_below HO.out (below_drewN (Below.refl _ _) _)) _ _ (fun e => by have := HOB.out _ e; simp at this)⟩
              intro i hi
              by_cases hid : i = h
              · subst hid
                exact ⟨h1, HY.out.trans H2.out⟩
              · exact HA.out i (by omega)
            case measure =>
              rw [show ((wr.drewN nq).setCell ⟨w1.heap.size, 3, none⟩ (.int .i64 ((h : Int) + 1))).cell? ⟨w1.heap.size, 3, none⟩ = some (.int .i64 ((h : Int) + 1)) from ((HR.out.below (below_drewN (Below.refl wr.heap.size wr) nq) HR.out.lt).setCell 3 (.int .i64 ((h : Int) + 1))).cell 3, e3]
              simp only [intOf]
              omega
          · have h2' : ((y : Int) == (m : Int)) = false := by simp; omega
            have H2 : Hid (¬ y = m) := h2
            clear h2
            have d0 : wr.cell? ⟨w1.heap.size, 0, none⟩ = some (.int .i64 a) := HR.out.cell 0
            have d1 : wr.cell? ⟨w1.heap.size, 1, none⟩ = some (.int .i64 b) := HR.out.cell 1
            have d2 : wr.cell? ⟨w1.heap.size, 2, none⟩ = some (.int .i64 d) := HR.out.cell 2
            have d4 : wr.cell? ⟨w1.heap.size, 4, none⟩ = some (.slice p tx.length q) := HR.out.cell 4
            have HRt : Hid (Rt C f a b h) := ⟨fun j hj => ⟨(HA.out j hj).1, (HA.out j hj).2.trans HM.out.symm⟩, fun hh => H2.out (HY.out.symm.trans (hh.2.trans HM.out))⟩
            have lz := HG1.out.lt
            go_wp2_with fail
            go_quiet (fail)
            go_wp2_with (refine wpList_store_row rfl 44 (.tmp 6) (.tmp 71) rfl (w.heap.size + 1) #[.int .i64 a, .int .i64 b, .int .i64 d, .int .i64 h, .slice p tx.length q] rfl rfl 44 _ (HG1.out.below (below_drewN (Below.refl wr.heap.size wr) nq) lz) cell_info rfl (cells5_one _ _ _ _ _ _ _) ?_)
            refine bodyPost_ret (v := .agg #[.int .i64 a, .int .i64 b, .int .i64 d, .int .i64 h, .slice p tx.length q]) (results_cell_row (p := 6) (ty := 44) rfl _ _ (w.heap.size + 1) 44 _ _ _ rfl (RowAt.setRow (HG1.out.below (below_drewN (Below.refl wr.heap.size wr) nq) lz) _) Try.underlying44 rfl cell_info) rfl ⟨⟨d, h, p, tx.length, q, rfl, HDn.out, HRt.out, ?_⟩, below_row (below_drewN (B0.trans (HB.out.mono B0.size)) _) (by omega) _⟩
            exact own_less (own_row (own_below HO.out (below_drewN (Below.refl _ _) _)) _ _ (fun e => by have := (own_lt HO.out.row e).1; omega)) B0.size
        · have c0 : decide ((b : Int) + h < C) = false := by simp; omega
          have c0' : C ≤ b + h := by omega
          clear gg
          have d0 : wr.cell? ⟨w1.heap.size, 0, none⟩ = some (.int .i64 a) := HR.out.cell 0
          have d1 : wr.cell? ⟨w1.heap.size, 1, none⟩ = some (.int .i64 b) := HR.out.cell 1
          have d2 : wr.cell? ⟨w1.heap.size, 2, none⟩ = some (.int .i64 d) := HR.out.cell 2
          have d4 : wr.cell? ⟨w1.heap.size, 4, none⟩ = some (.slice p tx.length q) := HR.out.cell 4
          have HRt : Hid (Rt C f a b h) := ⟨fun j hj => ⟨(HA.out j hj).1, (HA.out j hj).2.trans HM.out.symm⟩, fun hh => h1 hh.1⟩
          have lz := HG1.out.lt
          go_wp2_with fail
          go_quiet (fail)
          go_wp2_with (refine wpList_store_row rfl 44 (.tmp 6) (.tmp 71) rfl (w.heap.size + 1) #[.int .i64 a, .int .i64 b, .int .i64 d, .int .i64 h, .slice p tx.length q] rfl rfl 44 _ (HG1.out.below (below_drewN (Below.refl wr.heap.size wr) nq) lz) cell_info rfl (cells5_one _ _ _ _ _ _ _) ?_)
          refine bodyPost_ret (v := .agg #[.int .i64 a, .int .i64 b, .int .i64 d, .int .i64 h, .slice p tx.length q]) (results_cell_row (p := 6) (ty := 44) rfl _ _ (w.heap.size + 1) 44 _ _ _ rfl (RowAt.setRow (HG1.out.below (below_drewN (Below.refl wr.heap.size wr) nq) lz) _) Try.underlying44 rfl cell_info) rfl ⟨⟨d, h, p, tx.length, q, rfl, HDn.out, HRt.out, ?_⟩, below_row (below_drewN (B0.trans (HB.out.mono B0.size)) _) (by omega) _⟩
          exact own_less (own_row (own_below HO.out (below_drewN (Below.refl _ _) _)) _ _ (fun e => by have := (own_lt HO.out.row e).1; omega)) B0.size
end Go.Proofs.Yteghidjbcpmfbaa
namespace Go.Proofs.Yteghidjbcpmfbaa
open Go.RowKit

theorem and_nat (y p : Nat) (hy : y < 2 ^ 26) (hp : p < 2 ^ 26) : bits .and .u32 (y : Int) (p : Int) = ((y &&& p : Nat) : Int) := by
  have ho : y &&& p < 2 ^ 26 := Nat.and_lt_two_pow y hp
  show IntKind.u32.wrap (((BitVec.ofInt 32 (y : Int)) &&& (BitVec.ofInt 32 (p : Int))).toNat : Int) = _
  rw [BitVec.ofInt_natCast, BitVec.ofInt_natCast, BitVec.toNat_and, BitVec.toNat_ofNat, BitVec.toNat_ofNat, Nat.mod_eq_of_lt (a := y) (by omega), Nat.mod_eq_of_lt (a := p) (by omega)]
  generalize y &&& p = z at ho ⊢
  simp only [IntKind.wrap, IntKind.bits, IntKind.signed]
  simp
  omega
theorem and_pow_ne (x m : Nat) (hx : x < 2 ^ 26) (hm : m ≤ 25) : (bits .and .u32 (x : Int) (2 ^ m % 4294967296) != 0) = x.testBit m := by
  rw [pow_mod m hm, and_nat x _ hx (pow_lt26 hm)]
  cases ht : x.testBit m
  · have : x &&& 2 ^ m = 0 := by
      apply Nat.eq_of_testBit_eq
      intro k
      rw [Nat.testBit_and, Nat.testBit_two_pow, Nat.zero_testBit]
      by_cases hk : m = k
      · subst hk
        simp [ht]
      · simp [hk]
    simp [this]
  · have : x &&& 2 ^ m ≠ 0 := by
      intro e
      have h1 : (x &&& 2 ^ m).testBit m = true := by rw [Nat.testBit_and, ht, Nat.testBit_two_pow]; simp
      rw [e, Nat.zero_testBit] at h1
      exact absurd h1 (by simp)
    simp
    omega
set_option maxHeartbeats 800000 in
theorem numHas_is {x m : Nat} {z : Bool} (hz : x.testBit m = z) (hx : x < 2 ^ 26) (hm : m ≤ 25) (w : World) :
    Calls Try.prog 59 #[.int .u32 x, .int .i64 m] w fun e w' => e = .returned (.bool z) ∧ w' = w := by
  have HX : Hid ((bits .and .u32 (x : Int) (2 ^ m % 4294967296) != 0) = z) := by
    show (bits .and .u32 (x : Int) (2 ^ m % 4294967296) != 0) = z
    rw [and_pow_ne x m hx hm, hz]
  clear hz hx
  go_enter Try.func59, Try.ntmps59
  go_wp2
  go_ret
  exact ⟨congrArg (fun b => Ending.returned (.bool b)) HX.out, rfl⟩

/-- The start of a cell, as places. -/
def stR (x : Cl) : Nat := x.1.toNat
def stC (x : Cl) : Nat := x.2.1.toNat
/-- What a grid's cells are, in order: where each begins its number is new; any other square has a number that was met. -/
structure Rep (R C : Nat) (f : Nat → Nat) (l : List Cl) : Prop where
  cell : ∀ k, k < l.length → (∃ a b d h : Nat, l.getD k cl0 = ((a : Int), (b : Int), (d : Int), (h : Int), (l.getD k cl0).2.2.2.2) ∧ a < R ∧ b < C ∧ Dn R f a b d ∧ Rt C f a b h)
  order : ∀ i k, i < k → k < l.length → vis (stR (l.getD k cl0)) (stC (l.getD k cl0)) C (stR (l.getD i cl0)) (stC (l.getD i cl0))
  fresh : ∀ k, k < l.length → ∀ a b, vis (stR (l.getD k cl0)) (stC (l.getD k cl0)) C a b → f (a * 5 + b) ≠ f (stR (l.getD k cl0) * 5 + stC (l.getD k cl0))
  met : ∀ a b, vis R 0 C a b → (∃ k, k < l.length ∧ stR (l.getD k cl0) = a ∧ stC (l.getD k cl0) = b) ∨ (∃ a' b', vis a b C a' b' ∧ f (a' * 5 + b') = f (a * 5 + b))

theorem Dn.uniq {R : Nat} {f : Nat → Nat} {a b d d' : Nat} (h : Dn R f a b d) (h' : Dn R f a b d') : d = d' := by
  rcases Nat.lt_trichotomy d d' with hl | hl | hl
  · exact absurd (h'.1 d hl) h.2
  · exact hl
  · exact absurd (h.1 d' hl) h'.2
theorem Rt.uniq {C : Nat} {f : Nat → Nat} {a b d d' : Nat} (h : Rt C f a b d) (h' : Rt C f a b d') : d = d' := by
  rcases Nat.lt_trichotomy d d' with hl | hl | hl
  · exact absurd (h'.1 d hl) h.2
  · exact hl
  · exact absurd (h.1 d' hl) h'.2

/-- So many cells begin ahead of a square. -/
def Ahead (C : Nat) (l : List Cl) (i j k : Nat) : Prop := k ≤ l.length ∧ (∀ q, q < k → vis i j C (stR (l.getD q cl0)) (stC (l.getD q cl0))) ∧ (∀ q, k ≤ q → q < l.length → ¬ vis i j C (stR (l.getD q cl0)) (stC (l.getD q cl0)))
theorem Ahead.row {C i k : Nat} {l : List Cl} (h : Ahead C l i C k) : Ahead C l (i + 1) 0 k := by
  refine ⟨h.1, fun q hq => ?_, fun q hq hl hv => h.2.2 q hq hl ?_⟩
  · have := h.2.1 q hq
    unfold vis at this ⊢
    omega
  · unfold vis at hv ⊢
    omega
/-- At a square whose number is new the next cell begins; at another none. -/
theorem Ahead.new {R C i j k : Nat} {f : Nat → Nat} {l : List Cl} (h : Ahead C l i j k) (hr : Rep R C f l) (hi : i < R) (hj : j < C) (hn : ∀ a b, vis i j C a b → f (a * 5 + b) ≠ f (i * 5 + j)) :
    k < l.length ∧ stR (l.getD k cl0) = i ∧ stC (l.getD k cl0) = j ∧ Ahead C l i (j + 1) (k + 1) := by
  rcases hr.met i j (by unfold vis; omega) with ⟨q, hq, e1, e2⟩ | ⟨a, b, h1, h2⟩
  · have hkq : k = q := by
      rcases Nat.lt_trichotomy k q with hl | hl | hl
      · have := hr.order k q hl hq
        rw [e1, e2] at this
        exact absurd this (h.2.2 k (Nat.le_refl _) (by omega))
      · exact hl
      · have := h.2.1 q hl
        rw [e1, e2] at this
        unfold vis at this
        omega
    subst hkq
    refine ⟨hq, e1, e2, by omega, fun q' hq' => ?_, fun q' hq' hl' => ?_⟩
    · by_cases hqk : q' = k
      · subst hqk
        rw [e1, e2]
        unfold vis
        omega
      · have := h.2.1 q' (by omega)
        unfold vis at this ⊢
        omega
    · have ho := hr.order k q' (by omega) hl'
      rw [e1, e2] at ho
      intro hv
      unfold vis at ho hv
      omega
  · exact absurd h2 (hn a b h1)
theorem Ahead.old {R C i j k : Nat} {f : Nat → Nat} {l : List Cl} (h : Ahead C l i j k) (hr : Rep R C f l) (hn : ∃ a b, vis i j C a b ∧ f (a * 5 + b) = f (i * 5 + j)) : Ahead C l i (j + 1) k := by
  obtain ⟨a, b, h1, h2⟩ := hn
  refine ⟨h.1, fun q hq => ?_, fun q hq hl hv => ?_⟩
  · have := h.2.1 q hq
    unfold vis at this ⊢
    omega
  · have hno := h.2.2 q hq hl
    have e : stR (l.getD q cl0) = i ∧ stC (l.getD q cl0) = j := by
      unfold vis at hno hv
      omega
    have := hr.fresh q hl a b (by rw [e.1, e.2]; exact h1)
    rw [e.1, e.2] at this
    exact this h2
end Go.Proofs.Yteghidjbcpmfbaa
namespace Go.Proofs.Yteghidjbcpmfbaa
open Go.RowKit

theorem yieldsIf_load_row {P : Program} {ops : Array Oper} {S : World → Prop} {op : Oper} {a : Act} (hw : Region.wanted op (yielded ops a.tmps) = true) (ty : TypeId) (x : Operand) (ho : op.op = .load ty x)
    (g : Nat) (hx : a.eval x = .pointer (some ⟨g, 0, none⟩)) (t : TypeId) (cs : Array Value) (fr : Nat × Nat) (d : TypeDesc) (hS : ∀ w, S w → w.heap[g]? = some (.cells cs t fr))
    (hu : P.underlying ty = some d) (hd : (match d with | .struct _ | .array _ _ => true | _ => false) = true) (hi : (P.info? ty).map (·.size) = some cs.size) : YieldsIf P ops S op (.agg cs) a :=
  .inl ⟨hw, fun w hw' => by
    unfold execOp
    simp only [ho, hx, Instr.loadAt, Instr.sureAddr, Sem.run_bind, Sem.run_pure, Result.andThen_ok, run_loadVar_row w g t ty cs fr d (hS w hw') hu hd hi]⟩
end Go.Proofs.Yteghidjbcpmfbaa
namespace Go.Proofs.Yteghidjbcpmfbaa
open Go.RowKit

theorem run_gridCells {w : World} {g : Nat} {R C : Int} {n : Nat} {f : Nat → Nat} {t : Nat → Sl} (h : GridAt w g R C n f t) : (loadCellsFrom ⟨g, 0, none⟩ 0 54 #[]).run Try.prog w = .ok (gridA R C n f t) w := by
  have := run_loadCells_list (P := Try.prog) w ⟨g, 0, none⟩ (gridA R C n f t).toList (fun j v hv => by
    have hadd : (⟨g, 0, none⟩ : Addr).add j = ⟨g, j, none⟩ := by unfold Addr.add; split <;> simp_all
    rw [hadd, RowAt.cell h]
    simpa using hv)
  simpa [loadCells, gridA_size] using this
set_option maxRecDepth 100000 in
set_option maxHeartbeats 4000000 in
theorem table_any (R C n : Nat) (f : Nat → Nat) (t : Nat → Sl) (l : List Cl) (w : World) (hR : R ≤ 5) (hC : C ≤ 5) (hf : ∀ k, f k ≤ 25) (hr : Rep R C f l) (hl : l.length ≤ 25)
    (ht : ∀ k, k < l.length → Txt w (t (f (stR (l.getD k cl0) * 5 + stC (l.getD k cl0)))).1 (t (f (stR (l.getD k cl0) * 5 + stC (l.getD k cl0)))).2.1 (t (f (stR (l.getD k cl0) * 5 + stC (l.getD k cl0)))).2.2 (l.getD k cl0).2.2.2.2 ∧ (l.getD k cl0).2.2.2.2.length ≤ 1048576) :
    Calls Try.prog 36 #[.agg (gridA R C n f t)] w fun z w' => (∃ a c rs, z = .returned (.agg #[.int .i64 R, .int .i64 C, .slice a l.length c]) ∧ OwnT w' w.heap.size (.slice a l.length c) rs l) ∧ Below w.heap.size w w' := by
  obtain ⟨i0, hi, hz0, hz1, hz2⟩ := info_parts Try.info44
  have HR : Hid (Rep R C f l) := hr
  have HT : Hid (∀ k, k < l.length → Txt w (t (f (stR (l.getD k cl0) * 5 + stC (l.getD k cl0)))).1 (t (f (stR (l.getD k cl0) * 5 + stC (l.getD k cl0)))).2.1 (t (f (stR (l.getD k cl0) * 5 + stC (l.getD k cl0)))).2.2 (l.getD k cl0).2.2.2.2 ∧ (l.getD k cl0).2.2.2.2.length ≤ 1048576) := ht
  clear hr ht
  go_enter Try.func36, Try.ntmps36
  go_upto_region 1 with fail
  have B0 : Below w.heap.size w ((w.alloc (.cells (gridA R C n f t) 51)).alloc (.cells #[.int .i64 0, .int .i64 0, .slice none 0 0] 28)) := ((Below.refl _ _).alloc (Nat.le_refl _) _).alloc (by simp) _
  have G0 : GridAt ((w.alloc (.cells (gridA R C n f t) 51)).alloc (.cells #[.int .i64 0, .int .i64 0, .slice none 0 0] 28)) w.heap.size R C n f t := (gridAt_new w R C n f t).alloc _
  have G1 : RowAt ((w.alloc (.cells (gridA R C n f t) 51)).alloc (.cells #[.int .i64 0, .int .i64 0, .slice none 0 0] 28)) (w.heap.size + 1) #[.int .i64 0, .int .i64 0, .slice none 0 0] 28 := by
    have := rowAt_new (w.alloc (.cells (gridA R C n f t) 51)) #[.int .i64 0, .int .i64 0, .slice none 0 0] 28
    simpa using this
  generalize ((w.alloc (.cells (gridA R C n f t) 51)).alloc (.cells #[.int .i64 0, .int .i64 0, .slice none 0 0] 28)) = v at B0 G0 G1 ⊢
  have q0 := G0.rows
  have q1 := G0.cols
  go_upto_region 2 with fail
  have B1 : Below v.heap.size v (v.alloc (.cells #[.int .i64 R, .int .i64 C, .slice none 0 0] 28)) := (Below.refl _ _).alloc (Nat.le_refl _) _
  have G2 : RowAt (v.alloc (.cells #[.int .i64 R, .int .i64 C, .slice none 0 0] 28)) v.heap.size #[.int .i64 R, .int .i64 C, .slice none 0 0] 28 := rowAt_new _ _ _
  generalize (v.alloc (.cells #[.int .i64 R, .int .i64 C, .slice none 0 0] 28)) = v0 at B1 G2 ⊢
  have z0 := G0.lt
  have z1 := G1.lt
  have z2 := G2.lt
  have s01 := B0.size
  clear q0 q1
  have q0 := (G0.below B1 z0).rows
  go_wp2_with fail
  go_loopw [4, 15] (fun xv iv wr => ∃ i : Nat, i ≤ R ∧ iv = .int .i64 i ∧ ∃ (k x : Nat) (rs : List Rw) (a : Option Addr) (c : Nat), Ahead C l i 0 k ∧ xv = .int .u32 x ∧ Mask x f (fun p q => vis i 0 C p q) ∧ RowAt wr v.heap.size #[.int .i64 R, .int .i64 C, .slice a k c] 28 ∧ OwnR wr v0.heap.size (.slice a k c) rs ∧ TxtOwn wr v0.heap.size (Value.slice a k c).ownBlock rs (l.take k) ∧ Below v.heap.size v wr ∧ v0.heap.size ≤ wr.heap.size) (fun _ iv _ => R - (intOf iv).toNat)
  case atStart => exact ⟨0, Nat.zero_le _, rfl, 0, 0, [], none, 0, ⟨Nat.zero_le _, fun q hq => by omega, fun q _ _ hv => by unfold vis at hv; omega⟩, rfl, Mask.zero (fun a b hv => by unfold vis at hv; omega), G2, OwnR.nil _ _, TxtOwn.nil _ _ _, B1, Nat.le_refl _⟩
  case round =>
    clear q0 G2 B1
    obtain ⟨i, hi', rfl, k, x, rs, a, c, hA, rfl, hM, hT, hO, hX, hb, hs⟩ := hrel
    have HA : Hid (Ahead C l i 0 k) := hA
    have HM : Hid (Mask x f (fun p q => vis i 0 C p q)) := hM
    have HTb : Hid (RowAt wr v.heap.size #[.int .i64 R, .int .i64 C, .slice a k c] 28) := hT
    have HO : Hid (OwnR wr v0.heap.size (.slice a k c) rs) := hO
    have HXt : Hid (TxtOwn wr v0.heap.size (Value.slice a k c).ownBlock rs (l.take k)) := hX
    have HB : Hid (Below v.heap.size v wr) := hb
    have g1 := (G0.below hb z0).cols
    clear hA hM hT hO hX hb
    by_cases hlt : i < R
    · have b0 : (i : Int) < 5 := by omega
      have b1 : (C : Int) ≤ 5 := by omega
      go_wp2_with fail
      go_quiet (fail)
      go_wp2_with fail
      go_loopw [4, 25] (fun xv jv wr => ∃ j : Nat, j ≤ C ∧ jv = .int .i64 j ∧ ∃ (k x : Nat) (rs : List Rw) (a : Option Addr) (c : Nat), Ahead C l i j k ∧ xv = .int .u32 x ∧ Mask x f (fun p q => vis i j C p q) ∧ RowAt wr v.heap.size #[.int .i64 R, .int .i64 C, .slice a k c] 28 ∧ OwnR wr v0.heap.size (.slice a k c) rs ∧ TxtOwn wr v0.heap.size (Value.slice a k c).ownBlock rs (l.take k) ∧ Below v.heap.size v wr ∧ v0.heap.size ≤ wr.heap.size) (fun _ jv _ => C - (intOf jv).toNat)
      case atStart => exact ⟨0, Nat.zero_le _, rfl, k, x, rs, a, c, HA.out, rfl, HM.out, HTb.out.below (below_drewN (Below.refl _ _) _) HTb.out.lt, own_below HO.out (below_drewN (Below.refl _ _) _), HXt.out.below (below_drewN (Below.refl _ _) _), below_drewN HB.out _, by simpa using hs⟩
      case round =>
        clear HA HM HTb HO HXt HB g1
        obtain ⟨j, hj, rfl, k, x, rs, a, c, hA, rfl, hM, hT, hO, hX, hb, hs⟩ := hrel
        have HA : Hid (Ahead C l i j k) := hA
        have HM : Hid (Mask x f (fun p q => vis i j C p q)) := hM
        have HTb : Hid (RowAt wr v.heap.size #[.int .i64 R, .int .i64 C, .slice a k c] 28) := hT
        have HO : Hid (OwnR wr v0.heap.size (.slice a k c) rs) := hO
        have HXt : Hid (TxtOwn wr v0.heap.size (Value.slice a k c).ownBlock rs (l.take k)) := hX
        have HB : Hid (Below v.heap.size v wr) := hb
        by_cases hlj : j < C
        · have gg : GridAt wr w.heap.size R C n f t := G0.below hb z0
          have k1 := gg.num (i * 5 + j) (by omega)
          have hm := hf (i * 5 + j)
          obtain ⟨m, HMm⟩ : ∃ m, Hid (f (i * 5 + j) = m) := ⟨_, rfl⟩
          rw [← Nat.add_assoc, HMm.out] at k1
          rw [HMm.out] at hm
          have hx26 := hM.1
          have HGG : Hid (GridAt wr w.heap.size R C n f t) := gg
          clear hA hM hT hO hX hb gg
          cases hbt : x.testBit m
          · have HBt : Hid (x.testBit m = false) := hbt
            clear hbt
            go_upto_region 11 with (go_at_call 59; refine (numHas_is HBt.out hx26 hm _).mono ?_; rintro e w4 ⟨rfl, hw4⟩; subst w4)
            have hnew : ∀ p q, vis i j C p q → f (p * 5 + q) ≠ f (i * 5 + j) := fun p q hv e => by
              have := (HM.out.2 m).2 ⟨p, q, hv, e.trans HMm.out⟩
              rw [HBt.out] at this
              exact absurd this (by simp)
            obtain ⟨hkl, es1, es2, hA'⟩ := HA.out.new HR.out hlt hlj hnew
            obtain ⟨tx, htx⟩ : ∃ tx, tx = (l.getD k cl0).2.2.2.2 := ⟨_, rfl⟩
            have hTk := HT.out k hkl
            rw [es1, es2, ← htx] at hTk
            have htxl : tx.length ≤ 1048576 := hTk.2
            have HTX : Hid (Txt wr.drew (t (f (i * 5 + j))).1 (t (f (i * 5 + j))).2.1 (t (f (i * 5 + j))).2.2 tx) := hTk.1.below ((B0.trans (HB.out.mono s01)).drew)
            have HTXE : Hid (tx = (l.getD k cl0).2.2.2.2) := htx
            have HA' : Hid (Ahead C l i (j + 1) (k + 1)) := hA'
            have HE : Hid (stR (l.getD k cl0) = i ∧ stC (l.getD k cl0) = j) := ⟨es1, es2⟩
            have lv : v.heap.size < wr.drew.heap.size := by simp only [World.size_drew]; omega
            have lw : w.heap.size < wr.drew.heap.size := by simp only [World.size_drew]; omega
            clear hnew hTk htx hA' es1 es2
            have e2 : wr.cell? ⟨v.heap.size, 2, none⟩ = some (.slice a k c) := HTb.out.cell 2
            refine wp_region_noPanic ?_
            refine wp_region_held_drew (S := fun w' => GridAt w' w.heap.size R C n f t) (by kernel_rfl) HGG.out (fun hHeld => ?_)
            refine wpAnyH_take (i := 0) (v := .pointer (some ⟨v.heap.size, 2, none⟩)) rfl (by kernel_rfl) (by kernel_rfl) (by kernel_rfl) (fun _ _ _ h => h) (Or.inl ⟨by rfl, fun w' _ => by go_simp⟩) hHeld ?_
            refine wpAnyH_take (i := 2) rfl (by kernel_rfl) (by kernel_rfl) (by kernel_rfl) (fun _ _ _ h => h) (yieldsIf_load_row (by rfl) 51 (.tmp 1) rfl w.heap.size rfl 51 (gridA R C n f t) (0, 0) _ (fun w' h => h) Try.underlying51 rfl (grid_infoA _ _ _ _ _)) hHeld ?_
            refine wpAnyH_take (i := 3) (v := .int .i64 i) rfl (by kernel_rfl) (by kernel_rfl) (by kernel_rfl) (fun _ _ _ h => h) (Or.inl ⟨by rfl, fun w' _ => by go_simp⟩) hHeld ?_
            refine wpAnyH_take (i := 4) (v := .int .i64 j) rfl (by kernel_rfl) (by kernel_rfl) (by kernel_rfl) (fun _ _ _ h => h) (Or.inl ⟨by rfl, fun w' _ => by go_simp⟩) hHeld ?_
            simp only [Act.put, List.setIfInBounds_toArray]
            refine wpAnyH_ready (rs := [1, 5]) (by kernel_rfl) (by simp) ?_
            refine AllReadyH.cons rfl (fun K hK => ?_) ?_
            · go_simp
              refine hK.out _ _ hHeld (fun hHeld => ?_)
              clear hK K
              (try simp only [Act.put, List.setIfInBounds_toArray, List.set_cons_zero, List.set_cons_succ])
              refine wpAnyH_ready (rs := [5]) (by kernel_rfl) (by simp) ?_
              refine AllReadyH.cons rfl (fun K hK => ?_) AllReadyH.nil
              go_simp
              go_at_call 60
              refine (cell_any R C n f t i j tx _ hR hC hlt hlj hf HTX.out htxl).mono ?_
              rintro e w4 ⟨⟨d, h, p, m', c', rfl, hDn, hRt, hOw⟩, hb4⟩
              have s4 : wr.heap.size ≤ w4.heap.size := by have := hb4.size; simpa using this
              have f2 : w4.cell? ⟨v.heap.size, 2, none⟩ = some (.slice a k c) := (hb4.cell (p := ⟨v.heap.size, 2, none⟩) lv).trans e2
              have hHeld4 : GridAt w4 w.heap.size R C n f t := hHeld.below hb4 lw
              go_wp2_with fail
              refine hK.out _ _ hHeld4 (fun hHeld => ?_)
              clear hK K hHeld4
              (try simp only [Act.put, List.setIfInBounds_toArray, List.set_cons_zero, List.set_cons_succ])
              refine wpAnyH_ready (rs := [6]) (by kernel_rfl) (by simp) ?_
              refine AllReadyH.cons rfl (fun K hK => ?_) AllReadyH.nil
              go_simp
              refine hK.out _ _ (hHeld.alloc _) (fun hHeld => ?_)
              clear hK K
              (try simp only [Act.put, List.setIfInBounds_toArray, List.set_cons_zero, List.set_cons_succ])
              refine wpAnyH_ready (rs := [7]) (by kernel_rfl) (by simp) ?_
              refine AllReadyH.cons rfl (fun K hK => ?_) AllReadyH.nil
              refine step_append_lies _ (by rfl) _ _ _ (by rfl) v0.heap.size 44 i0 _ 5 56 Try.underlying26 hi hz0 hz1 hz2 rfl (by omega) (.slice a k c) k (flat5 rs) (by rfl) ((own_below (own_below HO.out.row ((Below.refl wr.heap.size wr).drew)) hb4).alloc _) ⟨w4.heap.size, 0, none⟩ 1 1 [.int .i64 (i : Int), .int .i64 (j : Int), .int .i64 (d : Int), .int .i64 (h : Int), .slice p m' c'] (by rfl) (by rfl) (cell_five_new _ _ _ _ _ _ _) (five_oneCell _ _ _ _ _ _ _) (by omega) (by unfold maxLen; omega) (by omega) (by simp; omega) (w4.heap.size + 1) (by simp) ?_
              intro gg cc w5 hown5 hgrow5 hat hltg
              refine hK.out _ _ ?_ (fun hHeld => ?_)
              · exact RowAt.grown hHeld hgrow5 (fun e => by have := (own_lt HO.out.row e).1; omega)
              clear hK K
              (try simp only [Act.put, List.setIfInBounds_toArray])
              have T4 : RowAt (w4.alloc (.cells #[.int .i64 (i : Int), .int .i64 (j : Int), .int .i64 (d : Int), .int .i64 (h : Int), .slice p m' c'] 44)) v.heap.size #[.int .i64 R, .int .i64 C, .slice a k c] 28 := (HTb.out.drew.below hb4 lv).alloc _
              have T5 := RowAt.grown T4 hgrow5 (fun e => by have := (own_lt HO.out.row e).1; omega)
              have p2 : w5.cell? ⟨v.heap.size, 2, none⟩ = some (.slice a k c) := T5.cell 2
              have p3 := T5.frozen 2
              refine wpAnyH_take (i := 8) (v := .pointer (some ⟨v.heap.size, 2, none⟩)) rfl (by kernel_rfl) (by kernel_rfl) (by kernel_rfl) (fun _ _ _ h => h) (Or.inl ⟨by rfl, fun w' _ => by go_simp⟩) hHeld ?_
              (try simp only [Act.put])
              refine wpAnyH_ready (rs := [9]) (by kernel_rfl) (by simp) ?_
              refine AllReadyH.cons rfl (fun K hK => ?_) AllReadyH.nil
              go_simp
              refine hK.out _ _ (RowAt.other hHeld _ _ (by simp; omega)) (fun _ => ?_)
              clear hK K
              refine wpAnyH_done (by kernel_rfl) ?_ _
              refine NoPanic.normal ?_
              go_wp2_with fail
              go_roundw
              case rel =>
                have lo4 : OwnR w4 v0.heap.size (.slice a k c) rs := own_below (own_below HO.out ((Below.refl wr.heap.size wr).drew)) hb4
                have tO : Own w5 v0.heap.size (.slice p m' c') tx := own_grown (Own.alloc (own_less hOw (by simp only [World.size_drew]; omega)) _) hgrow5 (fun g hg => own_kinds lo4 hOw (by decide) g hg)
                have lr := lo4.len
                have rO : OwnR w5 v0.heap.size (.slice (some ⟨gg, 0, none⟩) (k + 1) cc) (rs ++ [((i : Int), (j : Int), (d : Int), (h : Int), p, m', c')]) := OwnR.snoc hown5 (by omega) rfl
                have t4 : TxtOwn w4 v0.heap.size (Value.slice a k c).ownBlock rs (l.take k) := (HXt.out.below ((Below.refl wr.heap.size wr).drew)).below hb4
                have t5 : TxtOwn w5 v0.heap.size (Value.slice a k c).ownBlock rs (l.take k) := (t4.below ((Below.refl _ _).alloc (Nat.le_refl _) _)).grown hgrow5 (fun q hq b hb => t4.2.2.1 q hq b hb)
                obtain ⟨a0, b0', d0, h0, el, _, _, hd0, hh0⟩ := HR.out.cell k hkl
                have ea : a0 = i := by have := HE.out.1; rw [el] at this; simpa [stR] using this
                have eb : b0' = j := by have := HE.out.2; rw [el] at this; simpa [stC] using this
                subst ea eb
                have ed := hDn.uniq hd0
                have eh := hRt.uniq hh0
                subst ed eh
                have t6 := t5.snoc (C := wr.heap.size) (x := ((a0 : Int), (b0' : Int), (d : Int), (h : Int), p, m', c')) (y := l.getD k cl0) (by rw [el, ← HTXE.out]; exact ⟨rfl, rfl, rfl, rfl, tO⟩) (fun g hg => own_kinds lo4 hOw (by decide) g hg) (fun q hq g hg => HXt.out.blockLt q hq g hg) (fun g hg => by have := (own_lt hOw.row hg).1; simpa using this)
                rw [show l.take k ++ [l.getD k cl0] = l.take (k + 1) from by rw [List.take_succ_eq_append_getElem hkl]; simp [List.getD, hkl]] at t6
                have B5 : Below v.heap.size v w5 := (((HB.out.drew).trans (hb4.mono (by simp only [World.size_drew]; omega))).alloc (by omega) _).grown hgrow5 (by simp; omega) (fun q hq => by have := (own_lt HO.out.row hq).1; omega)
                have s5 := hgrow5.size
                simp at s5
                refine ⟨b0' + 1, by omega, by go_num, k + 1, x ||| 2 ^ m, _, some ⟨gg, 0, none⟩, cc, HA'.out, by rw [or_pow x m hx26 hm], HM.out.snoc hm HMm.out (fun p' q' => by unfold vis; omega), T5.setCell 2 _, own_set rO _ _ (fun e => by have := (own_lt rO.row e).1; simp at this; omega), (t6.anew rO).setLow _ _ (by simp; omega), B5.setCell (Nat.le_refl _) _, by simp [World.setCell]; omega⟩
              case measure => simp [intOf]; omega
            · refine AllReadyH.cons rfl (fun K hK => ?_) AllReadyH.nil
              go_simp
              go_at_call 60
              refine (cell_any R C n f t i j tx _ hR hC hlt hlj hf HTX.out htxl).mono ?_
              rintro e w4 ⟨⟨d, h, p, m', c', rfl, hDn, hRt, hOw⟩, hb4⟩
              have s4 : wr.heap.size ≤ w4.heap.size := by have := hb4.size; simpa using this
              have f2 : w4.cell? ⟨v.heap.size, 2, none⟩ = some (.slice a k c) := (hb4.cell (p := ⟨v.heap.size, 2, none⟩) lv).trans e2
              have hHeld4 : GridAt w4 w.heap.size R C n f t := hHeld.below hb4 lw
              go_wp2_with fail
              refine hK.out _ _ hHeld4 (fun hHeld => ?_)
              clear hK K hHeld4
              (try simp only [Act.put, List.setIfInBounds_toArray, List.set_cons_zero, List.set_cons_succ])
              refine wpAnyH_ready (rs := [1, 6]) (by kernel_rfl) (by simp) ?_
              refine AllReadyH.cons rfl (fun K hK => ?_) ?_
              · go_simp
                refine hK.out _ _ hHeld (fun hHeld => ?_)
                clear hK K
                (try simp only [Act.put, List.setIfInBounds_toArray, List.set_cons_zero, List.set_cons_succ])
                refine wpAnyH_ready (rs := [6]) (by kernel_rfl) (by simp) ?_
                refine AllReadyH.cons rfl (fun K hK => ?_) AllReadyH.nil
                go_simp
                refine hK.out _ _ (hHeld.alloc _) (fun hHeld => ?_)
                clear hK K
                (try simp only [Act.put, List.setIfInBounds_toArray, List.set_cons_zero, List.set_cons_succ])
                refine wpAnyH_ready (rs := [7]) (by kernel_rfl) (by simp) ?_
                refine AllReadyH.cons rfl (fun K hK => ?_) AllReadyH.nil
                refine step_append_lies _ (by rfl) _ _ _ (by rfl) v0.heap.size 44 i0 _ 5 56 Try.underlying26 hi hz0 hz1 hz2 rfl (by omega) (.slice a k c) k (flat5 rs) (by rfl) ((own_below (own_below HO.out.row ((Below.refl wr.heap.size wr).drew)) hb4).alloc _) ⟨w4.heap.size, 0, none⟩ 1 1 [.int .i64 (i : Int), .int .i64 (j : Int), .int .i64 (d : Int), .int .i64 (h : Int), .slice p m' c'] (by rfl) (by rfl) (cell_five_new _ _ _ _ _ _ _) (five_oneCell _ _ _ _ _ _ _) (by omega) (by unfold maxLen; omega) (by omega) (by simp; omega) (w4.heap.size + 1) (by simp) ?_
                intro gg cc w5 hown5 hgrow5 hat hltg
                refine hK.out _ _ ?_ (fun hHeld => ?_)
                · exact RowAt.grown hHeld hgrow5 (fun e => by have := (own_lt HO.out.row e).1; omega)
                clear hK K
                (try simp only [Act.put, List.setIfInBounds_toArray])
                have T4 : RowAt (w4.alloc (.cells #[.int .i64 (i : Int), .int .i64 (j : Int), .int .i64 (d : Int), .int .i64 (h : Int), .slice p m' c'] 44)) v.heap.size #[.int .i64 R, .int .i64 C, .slice a k c] 28 := (HTb.out.drew.below hb4 lv).alloc _
                have T5 := RowAt.grown T4 hgrow5 (fun e => by have := (own_lt HO.out.row e).1; omega)
                have p2 : w5.cell? ⟨v.heap.size, 2, none⟩ = some (.slice a k c) := T5.cell 2
                have p3 := T5.frozen 2
                refine wpAnyH_take (i := 8) (v := .pointer (some ⟨v.heap.size, 2, none⟩)) rfl (by kernel_rfl) (by kernel_rfl) (by kernel_rfl) (fun _ _ _ h => h) (Or.inl ⟨by rfl, fun w' _ => by go_simp⟩) hHeld ?_
                (try simp only [Act.put])
                refine wpAnyH_ready (rs := [9]) (by kernel_rfl) (by simp) ?_
                refine AllReadyH.cons rfl (fun K hK => ?_) AllReadyH.nil
                go_simp
                refine hK.out _ _ (RowAt.other hHeld _ _ (by simp; omega)) (fun _ => ?_)
                clear hK K
                refine wpAnyH_done (by kernel_rfl) ?_ _
                refine NoPanic.normal ?_
                go_wp2_with fail
                go_roundw
                case rel =>
                  have lo4 : OwnR w4 v0.heap.size (.slice a k c) rs := own_below (own_below HO.out ((Below.refl wr.heap.size wr).drew)) hb4
                  have tO : Own w5 v0.heap.size (.slice p m' c') tx := own_grown (Own.alloc (own_less hOw (by simp only [World.size_drew]; omega)) _) hgrow5 (fun g hg => own_kinds lo4 hOw (by decide) g hg)
                  have lr := lo4.len
                  have rO : OwnR w5 v0.heap.size (.slice (some ⟨gg, 0, none⟩) (k + 1) cc) (rs ++ [((i : Int), (j : Int), (d : Int), (h : Int), p, m', c')]) := OwnR.snoc hown5 (by omega) rfl
                  have t4 : TxtOwn w4 v0.heap.size (Value.slice a k c).ownBlock rs (l.take k) := (HXt.out.below ((Below.refl wr.heap.size wr).drew)).below hb4
                  have t5 : TxtOwn w5 v0.heap.size (Value.slice a k c).ownBlock rs (l.take k) := (t4.below ((Below.refl _ _).alloc (Nat.le_refl _) _)).grown hgrow5 (fun q hq b hb => t4.2.2.1 q hq b hb)
                  obtain ⟨a0, b0', d0, h0, el, _, _, hd0, hh0⟩ := HR.out.cell k hkl
                  have ea : a0 = i := by have := HE.out.1; rw [el] at this; simpa [stR] using this
                  have eb : b0' = j := by have := HE.out.2; rw [el] at this; simpa [stC] using this
                  subst ea eb
                  have ed := hDn.uniq hd0
                  have eh := hRt.uniq hh0
                  subst ed eh
                  have t6 := t5.snoc (C := wr.heap.size) (x := ((a0 : Int), (b0' : Int), (d : Int), (h : Int), p, m', c')) (y := l.getD k cl0) (by rw [el, ← HTXE.out]; exact ⟨rfl, rfl, rfl, rfl, tO⟩) (fun g hg => own_kinds lo4 hOw (by decide) g hg) (fun q hq g hg => HXt.out.blockLt q hq g hg) (fun g hg => by have := (own_lt hOw.row hg).1; simpa using this)
                  rw [show l.take k ++ [l.getD k cl0] = l.take (k + 1) from by rw [List.take_succ_eq_append_getElem hkl]; simp [List.getD, hkl]] at t6
                  have B5 : Below v.heap.size v w5 := (((HB.out.drew).trans (hb4.mono (by simp only [World.size_drew]; omega))).alloc (by omega) _).grown hgrow5 (by simp; omega) (fun q hq => by have := (own_lt HO.out.row hq).1; omega)
                  have s5 := hgrow5.size
                  simp at s5
                  refine ⟨b0' + 1, by omega, by go_num, k + 1, x ||| 2 ^ m, _, some ⟨gg, 0, none⟩, cc, HA'.out, by rw [or_pow x m hx26 hm], HM.out.snoc hm HMm.out (fun p' q' => by unfold vis; omega), T5.setCell 2 _, own_set rO _ _ (fun e => by have := (own_lt rO.row e).1; simp at this; omega), (t6.anew rO).setLow _ _ (by simp; omega), B5.setCell (Nat.le_refl _) _, by simp [World.setCell]; omega⟩
                case measure => simp [intOf]; omega
              · refine AllReadyH.cons rfl (fun K hK => ?_) AllReadyH.nil
                go_simp
                refine hK.out _ _ (hHeld.alloc _) (fun hHeld => ?_)
                clear hK K
                (try simp only [Act.put, List.setIfInBounds_toArray, List.set_cons_zero, List.set_cons_succ])
                have f3 : (w4.alloc (.cells #[.int .i64 (i : Int), .int .i64 (j : Int), .int .i64 (d : Int), .int .i64 (h : Int), .slice p m' c'] 44)).cell? ⟨v.heap.size, 2, none⟩ = some (.slice a k c) := ((HTb.out.drew.below hb4 lv).alloc _).cell 2
                refine wpAnyH_ready (rs := [1]) (by kernel_rfl) (by simp) ?_
                refine AllReadyH.cons rfl (fun K hK => ?_) AllReadyH.nil
                go_simp
                refine hK.out _ _ hHeld (fun hHeld => ?_)
                clear hK K
                (try simp only [Act.put, List.setIfInBounds_toArray, List.set_cons_zero, List.set_cons_succ])
                refine wpAnyH_ready (rs := [7]) (by kernel_rfl) (by simp) ?_
                refine AllReadyH.cons rfl (fun K hK => ?_) AllReadyH.nil
                refine step_append_lies _ (by rfl) _ _ _ (by rfl) v0.heap.size 44 i0 _ 5 56 Try.underlying26 hi hz0 hz1 hz2 rfl (by omega) (.slice a k c) k (flat5 rs) (by rfl) ((own_below (own_below HO.out.row ((Below.refl wr.heap.size wr).drew)) hb4).alloc _) ⟨w4.heap.size, 0, none⟩ 1 1 [.int .i64 (i : Int), .int .i64 (j : Int), .int .i64 (d : Int), .int .i64 (h : Int), .slice p m' c'] (by rfl) (by rfl) (cell_five_new _ _ _ _ _ _ _) (five_oneCell _ _ _ _ _ _ _) (by omega) (by unfold maxLen; omega) (by omega) (by simp; omega) (w4.heap.size + 1) (by simp) ?_
                intro gg cc w5 hown5 hgrow5 hat hltg
                refine hK.out _ _ ?_ (fun hHeld => ?_)
                · exact RowAt.grown hHeld hgrow5 (fun e => by have := (own_lt HO.out.row e).1; omega)
                clear hK K
                (try simp only [Act.put, List.setIfInBounds_toArray])
                have T4 : RowAt (w4.alloc (.cells #[.int .i64 (i : Int), .int .i64 (j : Int), .int .i64 (d : Int), .int .i64 (h : Int), .slice p m' c'] 44)) v.heap.size #[.int .i64 R, .int .i64 C, .slice a k c] 28 := (HTb.out.drew.below hb4 lv).alloc _
                have T5 := RowAt.grown T4 hgrow5 (fun e => by have := (own_lt HO.out.row e).1; omega)
                have p2 : w5.cell? ⟨v.heap.size, 2, none⟩ = some (.slice a k c) := T5.cell 2
                have p3 := T5.frozen 2
                refine wpAnyH_take (i := 8) (v := .pointer (some ⟨v.heap.size, 2, none⟩)) rfl (by kernel_rfl) (by kernel_rfl) (by kernel_rfl) (fun _ _ _ h => h) (Or.inl ⟨by rfl, fun w' _ => by go_simp⟩) hHeld ?_
                (try simp only [Act.put])
                refine wpAnyH_ready (rs := [9]) (by kernel_rfl) (by simp) ?_
                refine AllReadyH.cons rfl (fun K hK => ?_) AllReadyH.nil
                go_simp
                refine hK.out _ _ (RowAt.other hHeld _ _ (by simp; omega)) (fun _ => ?_)
                clear hK K
                refine wpAnyH_done (by kernel_rfl) ?_ _
                refine NoPanic.normal ?_
                go_wp2_with fail
                go_roundw
                case rel =>
                  have lo4 : OwnR w4 v0.heap.size (.slice a k c) rs := own_below (own_below HO.out ((Below.refl wr.heap.size wr).drew)) hb4
                  have tO : Own w5 v0.heap.size (.slice p m' c') tx := own_grown (Own.alloc (own_less hOw (by simp only [World.size_drew]; omega)) _) hgrow5 (fun g hg => own_kinds lo4 hOw (by decide) g hg)
                  have lr := lo4.len
                  have rO : OwnR w5 v0.heap.size (.slice (some ⟨gg, 0, none⟩) (k + 1) cc) (rs ++ [((i : Int), (j : Int), (d : Int), (h : Int), p, m', c')]) := OwnR.snoc hown5 (by omega) rfl
                  have t4 : TxtOwn w4 v0.heap.size (Value.slice a k c).ownBlock rs (l.take k) := (HXt.out.below ((Below.refl wr.heap.size wr).drew)).below hb4
                  have t5 : TxtOwn w5 v0.heap.size (Value.slice a k c).ownBlock rs (l.take k) := (t4.below ((Below.refl _ _).alloc (Nat.le_refl _) _)).grown hgrow5 (fun q hq b hb => t4.2.2.1 q hq b hb)
                  obtain ⟨a0, b0', d0, h0, el, _, _, hd0, hh0⟩ := HR.out.cell k hkl
                  have ea : a0 = i := by have := HE.out.1; rw [el] at this; simpa [stR] using this
                  have eb : b0' = j := by have := HE.out.2; rw [el] at this; simpa [stC] using this
                  subst ea eb
                  have ed := hDn.uniq hd0
                  have eh := hRt.uniq hh0
                  subst ed eh
                  have t6 := t5.snoc (C := wr.heap.size) (x := ((a0 : Int), (b0' : Int), (d : Int), (h : Int), p, m', c')) (y := l.getD k cl0) (by rw [el, ← HTXE.out]; exact ⟨rfl, rfl, rfl, rfl, tO⟩) (fun g hg => own_kinds lo4 hOw (by decide) g hg) (fun q hq g hg => HXt.out.blockLt q hq g hg) (fun g hg => by have := (own_lt hOw.row hg).1; simpa using this)
                  rw [show l.take k ++ [l.getD k cl0] = l.take (k + 1) from by rw [List.take_succ_eq_append_getElem hkl]; simp [List.getD, hkl]] at t6
                  have B5 : Below v.heap.size v w5 := (((HB.out.drew).trans (hb4.mono (by simp only [World.size_drew]; omega))).alloc (by omega) _).grown hgrow5 (by simp; omega) (fun q hq => by have := (own_lt HO.out.row hq).1; omega)
                  have s5 := hgrow5.size
                  simp at s5
                  refine ⟨b0' + 1, by omega, by go_num, k + 1, x ||| 2 ^ m, _, some ⟨gg, 0, none⟩, cc, HA'.out, by rw [or_pow x m hx26 hm], HM.out.snoc hm HMm.out (fun p' q' => by unfold vis; omega), T5.setCell 2 _, own_set rO _ _ (fun e => by have := (own_lt rO.row e).1; simp at this; omega), (t6.anew rO).setLow _ _ (by simp; omega), B5.setCell (Nat.le_refl _) _, by simp [World.setCell]; omega⟩
                case measure => simp [intOf]; omega
          · have HBt : Hid (x.testBit m = true) := hbt
            clear hbt
            go_wp2_with (go_at_call 59; refine (numHas_is HBt.out hx26 hm _).mono ?_; rintro e w4 ⟨rfl, hw4⟩; subst w4)
            go_roundw
            case rel =>
              have hold : ∃ p q, vis i j C p q ∧ f (p * 5 + q) = f (i * 5 + j) := by
                rw [HMm.out]
                exact (HM.out.2 m).1 HBt.out
              refine ⟨j + 1, by omega, by go_num, k, x, rs, a, c, HA.out.old HR.out hold, rfl, ?_, HTb.out, HO.out, HXt.out, HB.out, hs⟩
              obtain ⟨p, q, h1, h2⟩ := hold
              refine ⟨HM.out.1, fun y => ?_⟩
              rw [HM.out.2 y]
              constructor
              · rintro ⟨p', q', h3, h4⟩
                exact ⟨p', q', by unfold vis at h3 ⊢; omega, h4⟩
              · rintro ⟨p', q', h3, h4⟩
                by_cases hh : p' = i ∧ q' = j
                · obtain ⟨rfl, rfl⟩ := hh
                  exact ⟨p, q, h1, h2.trans h4⟩
                · exact ⟨p', q', by unfold vis at h3 ⊢; omega, h4⟩
            case measure => simp [intOf]; omega
        · clear hA hM hT hO hX hb
          go_wp2_with fail
          go_roundw
          case rel =>
            have e1 : j = C := by omega
            refine ⟨i + 1, by omega, by go_num, k, x, rs, a, c, ?_, rfl, ?_, HTb.out, HO.out, HXt.out, HB.out, hs⟩
            · have := HA.out
              rw [e1] at this
              exact this.row
            · have := HM.out
              rw [e1] at this
              exact this.same (fun p q => by unfold vis; omega)
          case measure => simp [intOf]; omega
    · have hkl : k = l.length := by
        rcases Nat.lt_or_ge k l.length with h1 | h1
        · obtain ⟨a0, b0, d0, h0, el, ha0, hb0, _, _⟩ := HR.out.cell k h1
          refine absurd ?_ (HA.out.2.2 k (Nat.le_refl _) h1)
          rw [el]
          simp [stR, stC, vis]
          omega
        · have := HA.out.1
          omega
      subst hkl
      have k0 : wr.cell? ⟨v.heap.size, 0, none⟩ = some (.int .i64 R) := HTb.out.cell 0
      have k1 : wr.cell? ⟨v.heap.size, 1, none⟩ = some (.int .i64 C) := HTb.out.cell 1
      have k2 : wr.cell? ⟨v.heap.size, 2, none⟩ = some (.slice a l.length c) := HTb.out.cell 2
      have HG1 : Hid (RowAt wr (w.heap.size + 1) #[.int .i64 0, .int .i64 0, .slice none 0 0] 28) := G1.below HB.out z1
      go_wp2_with (refine wpList_store_row rfl 28 (.tmp 2) (.tmp 48) rfl (w.heap.size + 1) #[.int .i64 R, .int .i64 C, .slice a l.length c] rfl rfl 28 _ HG1.out tab_info rfl (cells3_one _ _ _ _ _) ?_)
      refine bodyPost_ret (v := .agg #[.int .i64 R, .int .i64 C, .slice a l.length c]) (results_cell_row (p := 2) (ty := 28) rfl _ _ (w.heap.size + 1) 28 _ _ _ rfl (RowAt.setRow HG1.out _) Try.underlying28 rfl tab_info) rfl ⟨⟨a, c, rs, rfl, ?_⟩, below_row (B0.trans (HB.out.mono s01)) (by omega) _⟩
      have hX := HXt.out
      rw [List.take_of_length_le (Nat.le_refl _)] at hX
      exact OwnT.less (B' := v0.heap.size) ⟨own_row HO.out _ _ (fun e => by have := (own_lt HO.out.row e).1; omega), hX.rowLow _ _ (by omega)⟩ (by omega)
end Go.Proofs.Yteghidjbcpmfbaa
namespace Go.Proofs.Yteghidjbcpmfbaa
open Go.RowKit

/-- The squares turned. -/
def turnF (f : Nat → Nat) : Nat → Nat := fun k => f (k % 5 * 5 + k / 5)
def turnP (f : Nat → Nat) (i j : Nat) : Nat → Nat := fun k => if k % 5 < i ∨ (k % 5 = i ∧ k / 5 < j) then f (k % 5 * 5 + k / 5) else f k
theorem turnP_zero (f : Nat → Nat) : turnP f 0 0 = f := by
  funext k
  unfold turnP
  rw [if_neg (by omega)]
theorem turnP_row (f : Nat → Nat) (i : Nat) (n n' : Nat) (R C : Int) (t : Nat → Sl) (_ : n = n') : gridA R C n (turnP f i 5) t = gridA R C n (turnP f (i + 1) 0) t := by
  apply Array.ext_getElem?
  intro k
  rw [gridA_get, gridA_get]
  by_cases h : k < 28
  · by_cases h3 : k < 3
    · match k, h3 with
      | 0, _ => rfl
      | 1, _ => rfl
      | 2, _ => rfl
    · have e : turnP f i 5 (k - 3) = turnP f (i + 1) 0 (k - 3) := by
        unfold turnP
        by_cases hh : (k - 3) % 5 < i ∨ ((k - 3) % 5 = i ∧ (k - 3) / 5 < 5)
        · rw [if_pos hh, if_pos (by omega)]
        · rw [if_neg hh, if_neg (by omega)]
      rw [e]
  · rw [if_neg (show ¬ k = 0 by omega), if_neg (show ¬ k = 1 by omega), if_neg (show ¬ k = 2 by omega), if_neg h, if_neg (show ¬ k = 0 by omega), if_neg (show ¬ k = 1 by omega), if_neg (show ¬ k = 2 by omega), if_neg h]
theorem turnP_end (f : Nat → Nat) : turnP f 5 0 = turnF f := by
  funext k
  unfold turnP turnF
  rw [if_pos (by omega)]
theorem turnP_upd (f : Nat → Nat) (i j : Nat) (hi : i < 5) : upd (turnP f i j) (j * 5 + i) (f (i * 5 + j)) = turnP f i (j + 1) := by
  funext k
  unfold upd turnP
  by_cases h0 : k = j * 5 + i
  · rw [if_pos h0, if_pos (by omega), show k % 5 * 5 + k / 5 = i * 5 + j from by omega]
  · rw [if_neg h0]
    by_cases hh : k % 5 < i ∨ (k % 5 = i ∧ k / 5 < j)
    · rw [if_pos hh, if_pos (by omega)]
    · rw [if_neg hh, if_neg (by omega)]
def wasL (f : Nat → Nat) : List Value := (List.range 25).map fun k => Value.int .i64 (f k)
theorem wasL_len (f : Nat → Nat) : (wasL f).length = 25 := by simp [wasL]
theorem wasL_get (f : Nat → Nat) (k : Nat) (h : k < 25) : (wasL f).toArray[k]? = some (.int .i64 (f k)) := by simp [wasL, h]
theorem wasL_one (f : Nat → Nat) : (wasL f).toArray.all (·.oneCell') = true := by
  refine Array.all_eq_true_iff_forall_mem.2 ?_
  intro v hv
  simp only [wasL, List.mem_toArray, List.mem_map] at hv
  obtain ⟨k, _, rfl⟩ := hv
  rfl
theorem was_range {w : World} {b : Nat} {R C : Int} {n : Nat} {f : Nat → Nat} {t : Nat → Sl} (h : GridAt w b R C n f t) : w.rangeAt b 3 (wasL f) := by
  intro j v hv
  have hj : j < 25 := by
    have := (List.getElem?_eq_some_iff.1 hv).1
    rwa [wasL_len] at this
  rw [h.num j hj]
  simpa [wasL, hj] using hv
theorem was_zero : (wasL fun _ => 0).toArray = #[.int .i64 0, .int .i64 0, .int .i64 0, .int .i64 0, .int .i64 0, .int .i64 0, .int .i64 0, .int .i64 0, .int .i64 0, .int .i64 0, .int .i64 0, .int .i64 0, .int .i64 0, .int .i64 0, .int .i64 0, .int .i64 0, .int .i64 0, .int .i64 0, .int .i64 0, .int .i64 0, .int .i64 0, .int .i64 0, .int .i64 0, .int .i64 0, .int .i64 0] := rfl
theorem was_info (f : Nat → Nat) : (Try.prog.info? 48).map (·.size) = some (wasL f).length := by rw [wasL_len]; kernel_rfl
theorem gridA_set_rows (R R' C : Int) (n : Nat) (f : Nat → Nat) (t : Nat → Sl) : (gridA R C n f t).setIfInBounds 0 (.int .i64 R') = gridA R' C n f t := by
  apply Array.ext_getElem?
  intro i
  rw [Array.getElem?_setIfInBounds, gridA_get, gridA_get, gridA_size]
  by_cases h : 0 = i
  · subst h; rfl
  · rw [if_neg h]
    by_cases h3 : i = 0
    · exact absurd h3.symm h
    · simp only [if_neg h3]
theorem gridA_set_cols (R C C' : Int) (n : Nat) (f : Nat → Nat) (t : Nat → Sl) : (gridA R C n f t).setIfInBounds 1 (.int .i64 C') = gridA R C' n f t := by
  apply Array.ext_getElem?
  intro i
  rw [Array.getElem?_setIfInBounds, gridA_get, gridA_get, gridA_size]
  by_cases h : 1 = i
  · subst h; rfl
  · rw [if_neg h]
    by_cases h3 : i = 1
    · exact absurd h3.symm h
    · simp only [if_neg h3]

set_option maxRecDepth 100000 in
set_option maxHeartbeats 4000000 in
theorem turn_any (R C : Int) (n : Nat) (f : Nat → Nat) (t : Nat → Sl) (w : World) :
    Calls Try.prog 64 #[.agg (gridA R C n f t)] w fun z w' => z = .returned (.agg (gridA C R n (turnF f) t)) ∧ Below w.heap.size w w' := by
  go_enter Try.func64, Try.ntmps64
  go_upto_region 1 with fail
  rw [← grid_zero]
  have B0 : Below w.heap.size w ((w.alloc (.cells (gridA R C n f t) 51)).alloc (.cells (gridA 0 0 0 (fun _ => 0) (fun _ => sl0)) 51)) := ((Below.refl _ _).alloc (Nat.le_refl _) _).alloc (by simp) _
  have G0 : GridAt ((w.alloc (.cells (gridA R C n f t) 51)).alloc (.cells (gridA 0 0 0 (fun _ => 0) (fun _ => sl0)) 51)) w.heap.size R C n f t := (gridAt_new w R C n f t).alloc _
  have G1 : GridAt ((w.alloc (.cells (gridA R C n f t) 51)).alloc (.cells (gridA 0 0 0 (fun _ => 0) (fun _ => sl0)) 51)) (w.heap.size + 1) 0 0 0 (fun _ => 0) (fun _ => sl0) := by
    have := gridAt_new (w.alloc (.cells (gridA R C n f t) 51)) 0 0 0 (fun _ => 0) (fun _ => sl0)
    simpa using this
  generalize ((w.alloc (.cells (gridA R C n f t) 51)).alloc (.cells (gridA 0 0 0 (fun _ => 0) (fun _ => sl0)) 51)) = v at B0 G0 G1 ⊢
  have HR : Hid (v.rangeAt w.heap.size 3 (wasL f)) := was_range G0
  go_upto_region 2 with (first | (refine wpList_load_mid rfl 48 (.tmp 6) rfl w.heap.size 3 rfl (wasL f) _ HR.out Try.underlying48 rfl (was_info f) ?_) | (rw [← was_zero]; refine wpList_store_row rfl 48 (.tmp 3) (.tmp 7) rfl v.heap.size (wasL f).toArray rfl rfl 48 _ (rowAt_new _ _ _) (by rw [List.size_toArray]; exact was_info f) (by simp [wasL_len]) (wasL_one f) ?_))
  have W0 : RowAt ((v.alloc (.cells (wasL fun _ => 0).toArray 48)).setRow v.heap.size (wasL f).toArray) v.heap.size (wasL f).toArray 48 := RowAt.setRow (rowAt_new _ _ _) _
  have z0 := G0.lt
  have z1 := G1.lt
  have B1 : Below w.heap.size w ((v.alloc (.cells (wasL fun _ => 0).toArray 48)).setRow v.heap.size (wasL f).toArray) := below_row (B0.alloc B0.size _) B0.size _
  have G2 : GridAt ((v.alloc (.cells (wasL fun _ => 0).toArray 48)).setRow v.heap.size (wasL f).toArray) w.heap.size R C n f t := RowAt.setRowOther (G0.alloc _) _ _ (by omega)
  have G3 : GridAt ((v.alloc (.cells (wasL fun _ => 0).toArray 48)).setRow v.heap.size (wasL f).toArray) (w.heap.size + 1) 0 0 0 (fun _ => 0) (fun _ => sl0) := RowAt.setRowOther (G1.alloc _) _ _ (by omega)
  clear G0 G1 B0 HR
  generalize ((v.alloc (.cells (wasL fun _ => 0).toArray 48)).setRow v.heap.size (wasL f).toArray) = v1 at W0 B1 G2 G3 ⊢
  go_wp2_with fail
  go_loopw [8] (fun iv wr => ∃ i : Nat, i ≤ 5 ∧ iv = .int .i64 i ∧ GridAt wr w.heap.size R C n (turnP f i 0) t ∧ GridAt wr (w.heap.size + 1) 0 0 0 (fun _ => 0) (fun _ => sl0) ∧ RowAt wr v.heap.size (wasL f).toArray 48 ∧ Below w.heap.size w wr) (fun iv _ => 5 - (intOf iv).toNat)
  case atStart => exact ⟨0, Nat.zero_le _, rfl, by rw [turnP_zero]; exact G2, G3, W0, B1⟩
  case round =>
    clear W0 B1 G2 G3
    obtain ⟨i, hi, rfl, hg, hz, hw, hb⟩ := hrel
    have HG : Hid (GridAt wr w.heap.size R C n (turnP f i 0) t) := hg
    have HZ : Hid (GridAt wr (w.heap.size + 1) 0 0 0 (fun _ => 0) (fun _ => sl0)) := hz
    have HW : Hid (RowAt wr v.heap.size (wasL f).toArray 48) := hw
    have HB : Hid (Below w.heap.size w wr) := hb
    clear hg hz hw hb
    by_cases hlt : i < 5
    · go_wp2_with fail
      go_loopw [11] (fun jv wr => ∃ j : Nat, j ≤ 5 ∧ jv = .int .i64 j ∧ GridAt wr w.heap.size R C n (turnP f i j) t ∧ GridAt wr (w.heap.size + 1) 0 0 0 (fun _ => 0) (fun _ => sl0) ∧ RowAt wr v.heap.size (wasL f).toArray 48 ∧ Below w.heap.size w wr) (fun jv _ => 5 - (intOf jv).toNat)
      case atStart => exact ⟨0, Nat.zero_le _, rfl, HG.out, HZ.out, HW.out, HB.out⟩
      case round =>
        clear HG HZ HW HB
        obtain ⟨j, hj, rfl, hg, hz, hw, hb⟩ := hrel
        have HG : Hid (GridAt wr w.heap.size R C n (turnP f i j) t) := hg
        have HZ : Hid (GridAt wr (w.heap.size + 1) 0 0 0 (fun _ => 0) (fun _ => sl0)) := hz
        have HW : Hid (RowAt wr v.heap.size (wasL f).toArray 48) := hw
        have HB : Hid (Below w.heap.size w wr) := hb
        by_cases hlj : j < 5
        · have q := hg.num (j * 5 + i) (by omega)
          have fz := hg.frozen (3 + (j * 5 + i))
          rw [← Nat.add_assoc] at q fz
          have k0 : wr.cell? ⟨v.heap.size, i * 5 + j, none⟩ = some (.int .i64 (f (i * 5 + j))) := (hw.cell _).trans (wasL_get f _ (by omega))
          have b0 : (i : Int) < 5 := by omega
          have b1 : (j : Int) < 5 := by omega
          obtain ⟨m, HM⟩ : ∃ m, Hid (f (i * 5 + j) = m) := ⟨_, rfl⟩
          rw [HM.out] at k0
          clear hg hz hw hb
          go_wp2_with fail
          go_region
          all_goals go_wp2_with fail
          all_goals go_roundw
          case rel =>
            have sN := HG.out.setNum (j * 5 + i) m (by omega)
            rw [← HM.out, turnP_upd f i j hlt, ← Nat.add_assoc, HM.out] at sN
            exact ⟨j + 1, by omega, by go_num, sN, HZ.out.other _ _ (by simp <;> omega), HW.out.other _ _ (by simp <;> omega), HB.out.drew.setCell (Nat.le_refl _) _⟩
          case measure => simp [intOf]; omega
        · clear hg hz hw hb
          go_wp2_with fail
          go_roundw
          case rel =>
            have hh := HG.out
            rw [show j = 5 from by omega] at hh
            unfold GridAt at hh
            rw [turnP_row f i n n R C t rfl] at hh
            exact ⟨i + 1, by omega, by go_num, hh, HZ.out, HW.out, HB.out⟩
          case measure => simp [intOf]; omega
    · have e5 : i = 5 := by omega
      subst e5
      have g0 := HG.out
      rw [turnP_end] at g0
      have p0 := g0.rows
      have p1 := g0.cols
      have p2 := g0.frozen 0
      have p3 := g0.frozen 1
      have HG5 : Hid (GridAt wr w.heap.size R C n (turnF f) t) := g0
      clear g0 HG HW
      go_upto_region 12 with fail
      have GA : GridAt ((wr.setCell ⟨w.heap.size, 0, none⟩ (.int .i64 C)).setCell ⟨w.heap.size, 1, none⟩ (.int .i64 R)) w.heap.size C R n (turnF f) t := by
        have h1 : GridAt (wr.setCell ⟨w.heap.size, 0, none⟩ (.int .i64 C)) w.heap.size C C n (turnF f) t := by
          unfold GridAt
          rw [← gridA_set_rows R C C]
          exact RowAt.setCell HG5.out 0 _
        unfold GridAt
        rw [← gridA_set_cols C C R]
        exact RowAt.setCell h1 1 _
      have GB : GridAt ((wr.setCell ⟨w.heap.size, 0, none⟩ (.int .i64 C)).setCell ⟨w.heap.size, 1, none⟩ (.int .i64 R)) (w.heap.size + 1) 0 0 0 (fun _ => 0) (fun _ => sl0) := (HZ.out.other ⟨w.heap.size, 0, none⟩ (.int .i64 C) (by simp)).other ⟨w.heap.size, 1, none⟩ (.int .i64 R) (by simp)
      have BC : Below w.heap.size w ((wr.setCell ⟨w.heap.size, 0, none⟩ (.int .i64 C)).setCell ⟨w.heap.size, 1, none⟩ (.int .i64 R)) := (HB.out.setCell (p := ⟨w.heap.size, 0, none⟩) (Nat.le_refl _) (.int .i64 C)).setCell (p := ⟨w.heap.size, 1, none⟩) (Nat.le_refl _) (.int .i64 R)
      clear p0 p1 p2 p3
      generalize ((wr.setCell ⟨w.heap.size, 0, none⟩ (.int .i64 C)).setCell ⟨w.heap.size, 1, none⟩ (.int .i64 R)) = w2 at GA GB BC ⊢
      have HGA : Hid (GridAt w2 w.heap.size C R n (turnF f) t) := GA
      have HGB : Hid (GridAt w2 (w.heap.size + 1) 0 0 0 (fun _ => 0) (fun _ => sl0)) := GB
      clear GA GB
      go_wp2_with (first | (refine wpList_load_row rfl 51 (.tmp 1) rfl w.heap.size rfl 51 (gridA C R n (turnF f) t) (0, 0) _ HGA.out Try.underlying51 rfl (grid_infoA _ _ _ _ _) ?_) | (refine wpList_store_row rfl 51 (.tmp 2) (.tmp 32) rfl (w.heap.size + 1) (gridA C R n (turnF f) t) rfl rfl 51 _ HGB.out (grid_infoA _ _ _ _ _) (by rw [gridA_size, gridA_size]) (gridA_one _ _ _ _ _) ?_))
      refine bodyPost_ret (v := .agg (gridA C R n (turnF f) t)) (results_cell_row (p := 2) (ty := 51) rfl _ _ (w.heap.size + 1) 51 _ _ _ rfl (RowAt.setRow HGB.out _) Try.underlying51 rfl (grid_infoA _ _ _ _ _)) rfl ⟨rfl, below_row BC (by omega) _⟩
end Go.Proofs.Yteghidjbcpmfbaa
namespace Go.Proofs.Yteghidjbcpmfbaa
open Go.RowKit

/-- One row behind another. -/
def gtR (y x : Rw) : Bool := decide (x.1 < y.1 ∨ y.1 = x.1 ∧ x.2.1 < y.2.1)
def insR (x : Rw) : List Rw → List Rw
  | [] => [x]
  | y :: ys => if gtR y x then x :: y :: ys else y :: insR x ys
def sortR (l : List Rw) : List Rw := l.foldl (fun o x => insR x o) []
theorem insR_len (x : Rw) : ∀ l, (insR x l).length = l.length + 1
  | [] => rfl
  | y :: ys => by
    unfold insR
    split
    · rfl
    · simp [insR_len x ys]
theorem sortR_take (l : List Rw) (i : Nat) (h : i < l.length) : sortR (l.take (i + 1)) = insR (l.getD i rw0) (sortR (l.take i)) := by
  have e : l.getD i rw0 = l[i] := by simp [List.getD, h]
  unfold sortR
  rw [List.take_succ_eq_append_getElem h, List.foldl_append, e]
  rfl
theorem sortR_len (l : List Rw) : (sortR l).length = l.length := by
  have key : ∀ (l o : List Rw), (l.foldl (fun o x => insR x o) o).length = o.length + l.length := by
    intro l
    induction l with
    | nil => intro o; rfl
    | cons x l ih => intro o; simp only [List.foldl_cons, ih, insR_len, List.length_cons]; omega
  unfold sortR
  simpa using key l []
theorem insR_end (x : Rw) : ∀ l, (∀ y ∈ l, gtR y x = false) → insR x l = l ++ [x]
  | [], _ => rfl
  | y :: ys, h => by
    unfold insR
    rw [h y (by simp)]
    simp [insR_end x ys (fun z hz => h z (by simp [hz]))]
theorem insR_at (x : Rw) : ∀ (l : List Rw) (k : Nat) (hk : k < l.length), (∀ y ∈ l.take k, gtR y x = false) → gtR l[k] x = true → insR x l = l.take k ++ x :: l.drop k
  | [], k, hk, _, _ => by simp at hk
  | y :: ys, 0, _, _, h => by
    unfold insR
    simp only [List.getElem_cons_zero] at h
    rw [h]
    rfl
  | y :: ys, k + 1, hk, hn, h => by
    unfold insR
    rw [hn y (by simp)]
    have := insR_at x ys k (by simpa using hk) (fun z hz => hn z (by simp [hz])) (by simpa using h)
    simp [this]
/-- How far the row x is put in among the first k rows. -/
def InsP (x : Rw) (out : List Rw) (k : Nat) (done : Bool) (next : List Rw) : Prop :=
  (done = false ∧ next = out.take k ∧ ∀ y ∈ out.take k, gtR y x = false) ∨ (done = true ∧ next ++ out.drop k = insR x out)
theorem InsP.len {x : Rw} {out : List Rw} {k : Nat} {done : Bool} {next : List Rw} (h : InsP x out k done next) (hk : k ≤ out.length) : next.length = k + done.toNat := by
  rcases h with ⟨rfl, rfl, _⟩ | ⟨rfl, e⟩
  · simp; omega
  · have := congrArg List.length e
    rw [insR_len, List.length_append, List.length_drop] at this
    simp
    omega
theorem InsP.skip {x : Rw} {out : List Rw} {k : Nat} {next : List Rw} (h : InsP x out k false next) (hk : k < out.length) (hg : gtR (out.getD k rw0) x = false) : InsP x out (k + 1) false (next ++ [out.getD k rw0]) := by
  have e : out.getD k rw0 = out[k] := by simp [List.getD, hk]
  rcases h with ⟨_, rfl, h2⟩ | ⟨h1, _⟩
  · refine .inl ⟨rfl, ?_, ?_⟩
    · rw [e, List.take_succ_eq_append_getElem hk]
    · intro y hy
      rw [List.take_succ_eq_append_getElem hk] at hy
      rcases List.mem_append.1 hy with hy | hy
      · exact h2 y hy
      · simp at hy
        rw [hy, ← e]
        exact hg
  · simp at h1
theorem InsP.put {x : Rw} {out : List Rw} {k : Nat} {next : List Rw} (h : InsP x out k false next) (hk : k < out.length) (hg : gtR (out.getD k rw0) x = true) : InsP x out (k + 1) true (next ++ [x] ++ [out.getD k rw0]) := by
  have e : out.getD k rw0 = out[k] := by simp [List.getD, hk]
  rcases h with ⟨_, rfl, h2⟩ | ⟨h1, _⟩
  · refine .inr ⟨rfl, ?_⟩
    rw [e] at hg ⊢
    rw [insR_at x out k hk h2 hg]
    simp only [List.append_assoc, List.cons_append, List.nil_append]
    rw [← List.drop_eq_getElem_cons hk]
  · simp at h1
theorem InsP.on {x : Rw} {out : List Rw} {k : Nat} {next : List Rw} (h : InsP x out k true next) (hk : k < out.length) : InsP x out (k + 1) true (next ++ [out.getD k rw0]) := by
  have e : out.getD k rw0 = out[k] := by simp [List.getD, hk]
  rcases h with ⟨h1, _⟩ | ⟨_, h1⟩
  · simp at h1
  · refine .inr ⟨rfl, ?_⟩
    rw [← h1, e, List.drop_eq_getElem_cons hk]
    simp
theorem InsP.fin {x : Rw} {out : List Rw} {next : List Rw} (h : InsP x out out.length true next) : next = insR x out := by
  rcases h with ⟨h1, _⟩ | ⟨_, h1⟩
  · simp at h1
  · simpa using h1
theorem InsP.fin0 {x : Rw} {out : List Rw} {next : List Rw} (h : InsP x out out.length false next) : next ++ [x] = insR x out := by
  rcases h with ⟨_, rfl, h1⟩ | ⟨h1, _⟩
  · rw [List.take_of_length_le (Nat.le_refl _)] at h1 ⊢
    rw [insR_end x out h1]
  · simp at h1
/-! The same among cells. -/
def gtC (y x : Cl) : Bool := decide (x.1 < y.1 ∨ y.1 = x.1 ∧ x.2.1 < y.2.1)
def insC (x : Cl) : List Cl → List Cl
  | [] => [x]
  | y :: ys => if gtC y x then x :: y :: ys else y :: insC x ys
/-- Cells in order. -/
def sortC (l : List Cl) : List Cl := l.foldl (fun o x => insC x o) []
def insZ (x : Rw × Cl) : List (Rw × Cl) → List (Rw × Cl)
  | [] => [x]
  | y :: ys => if gtR y.1 x.1 then x :: y :: ys else y :: insZ x ys
theorem insZ_perm (x : Rw × Cl) : ∀ l, (insZ x l).Perm (x :: l)
  | [] => List.Perm.refl _
  | y :: ys => by
    unfold insZ
    split
    · exact List.Perm.refl _
    · exact ((insZ_perm x ys).cons y).trans (List.Perm.swap x y ys)
theorem insZ_fst (x : Rw × Cl) : ∀ l, (insZ x l).map Prod.fst = insR x.1 (l.map Prod.fst)
  | [] => rfl
  | y :: ys => by
    unfold insZ
    simp only [List.map_cons, insR]
    split
    · rfl
    · simp [insZ_fst x ys]
def keyed (p : Rw × Cl) : Prop := p.1.1 = p.2.1 ∧ p.1.2.1 = p.2.2.1
theorem insZ_snd (x : Rw × Cl) (hx : keyed x) : ∀ l, (∀ p ∈ l, keyed p) → (insZ x l).map Prod.snd = insC x.2 (l.map Prod.snd)
  | [], _ => rfl
  | y :: ys, h => by
    have hy := h y (by simp)
    have e : gtR y.1 x.1 = gtC y.2 x.2 := by
      unfold gtR gtC
      rw [hx.1, hx.2, hy.1, hy.2]
    unfold insZ
    simp only [List.map_cons, insC, e]
    split
    · rfl
    · simp [insZ_snd x hx ys (fun p hp => h p (by simp [hp]))]
theorem foldZ (z : List (Rw × Cl)) : ∀ o, (∀ p ∈ z, keyed p) → (∀ p ∈ o, keyed p) →
    ((z.foldl (fun o x => insZ x o) o).Perm (o ++ z) ∧ (z.foldl (fun o x => insZ x o) o).map Prod.fst = (z.map Prod.fst).foldl (fun o x => insR x o) (o.map Prod.fst) ∧ (z.foldl (fun o x => insZ x o) o).map Prod.snd = (z.map Prod.snd).foldl (fun o x => insC x o) (o.map Prod.snd)) := by
  induction z with
  | nil => intro o _ _; exact ⟨by simp, rfl, rfl⟩
  | cons x z ih =>
    intro o hz ho
    have hx := hz x (by simp)
    obtain ⟨h1, h2, h3⟩ := ih (insZ x o) (fun p hp => hz p (by simp [hp])) (fun p hp => by
      rcases List.mem_cons.1 ((insZ_perm x o).mem_iff.1 hp) with rfl | hp
      · exact hx
      · exact ho p hp)
    refine ⟨h1.trans ?_, ?_, ?_⟩
    · exact ((insZ_perm x o).append_right z).trans (List.perm_middle.symm)
    · rw [List.foldl_cons, h2, insZ_fst]
      rfl
    · rw [List.foldl_cons, h3, insZ_snd x hx o ho]
      rfl
def TxtZ (w : World) (B : Nat) (q : Option Nat) (z : List (Rw × Cl)) : Prop :=
  (∀ p ∈ z, RwOwn w B p.1 p.2 ∧ ∀ g, (rwT p.1).ownBlock = some g → q ≠ some g) ∧ z.Pairwise (fun a b => ∀ g, (rwT a.1).ownBlock = some g → (rwT b.1).ownBlock ≠ some g)
theorem TxtZ.perm {w : World} {B : Nat} {q : Option Nat} {z z' : List (Rw × Cl)} (h : TxtZ w B q z) (hp : z'.Perm z) : TxtZ w B q z' :=
  ⟨fun p hpm => h.1 p (hp.mem_iff.1 hpm), hp.symm.pairwise h.2 (fun hab g hg hg' => hab g hg' hg)⟩
theorem zip_getD (rs : List Rw) (l : List Cl) (k : Nat) (h : k < rs.length) (h' : k < l.length) : (rs.zip l)[k]'(by simp; omega) = (rs.getD k rw0, l.getD k cl0) := by
  simp [List.getD, h, h']
theorem TxtOwn.zip {w : World} {B : Nat} {q : Option Nat} {rs : List Rw} {l : List Cl} (h : TxtOwn w B q rs l) : TxtZ w B q (rs.zip l) := by
  obtain ⟨e, h1, h2, h3⟩ := h
  constructor
  · intro p hp
    obtain ⟨k, hk, rfl⟩ := List.getElem_of_mem hp
    have hk' : k < rs.length := by simp at hk; omega
    rw [zip_getD rs l k hk' (by omega)]
    exact ⟨h1 k hk', h2 k hk'⟩
  · rw [List.pairwise_iff_getElem]
    intro i j hi hj hij
    have hi' : i < rs.length := by simp at hi; omega
    have hj' : j < rs.length := by simp at hj; omega
    rw [zip_getD rs l i hi' (by omega), zip_getD rs l j hj' (by omega)]
    exact h3 i j hij hj'
theorem TxtZ.txt {w : World} {B : Nat} {q : Option Nat} {rs : List Rw} {l : List Cl} (e : rs.length = l.length) (h : TxtZ w B q (rs.zip l)) : TxtOwn w B q rs l := by
  have hm : ∀ k (hk : k < rs.length), (rs.getD k rw0, l.getD k cl0) ∈ rs.zip l := by
    intro k hk
    rw [← zip_getD rs l k hk (by omega)]
    exact List.getElem_mem _
  refine ⟨e, fun k hk => (h.1 _ (hm k hk)).1, fun k hk => (h.1 _ (hm k hk)).2, fun i k hik hk => ?_⟩
  have := List.pairwise_iff_getElem.1 h.2 i k (by simp; omega) (by simp; omega) hik
  rw [zip_getD rs l i (by omega) (by omega), zip_getD rs l k hk (by omega)] at this
  exact this
theorem TxtOwn.sort {w : World} {B : Nat} {q : Option Nat} {rs : List Rw} {l : List Cl} (h : TxtOwn w B q rs l) : TxtOwn w B q (sortR rs) (sortC l) := by
  have e := h.1
  have hz := h.zip
  have hk : ∀ p ∈ rs.zip l, keyed p := fun p hp => ⟨(hz.1 p hp).1.1, (hz.1 p hp).1.2.1⟩
  obtain ⟨h1, h2, h3⟩ := foldZ (rs.zip l) [] hk (fun p hp => by simp at hp)
  rw [List.nil_append] at h1
  rw [List.map_fst_zip (by omega)] at h2
  rw [List.map_snd_zip (by omega)] at h3
  have h4 := hz.perm h1
  generalize (rs.zip l).foldl (fun o x => insZ x o) [] = z at h2 h3 h4
  have e2 : sortR rs = z.map Prod.fst := h2.symm
  have e3 : sortC l = z.map Prod.snd := h3.symm
  rw [e2, e3]
  refine TxtZ.txt (by simp) ?_
  have : (z.map Prod.fst).zip (z.map Prod.snd) = z := by
    rw [List.zip_map']
    simp
  rw [this]
  exact h4
theorem insC_perm (x : Cl) : ∀ l, (insC x l).Perm (x :: l)
  | [] => List.Perm.refl _
  | y :: ys => by
    unfold insC
    split
    · exact List.Perm.refl _
    · exact ((insC_perm x ys).cons y).trans (List.Perm.swap x y ys)
theorem sortC_perm (l : List Cl) : (sortC l).Perm l := by
  have key : ∀ (l o : List Cl), (l.foldl (fun o x => insC x o) o).Perm (o ++ l) := by
    intro l
    induction l with
    | nil => intro o; simp
    | cons x l ih =>
      intro o
      exact (ih (insC x o)).trans (((insC_perm x o).append_right l).trans List.perm_middle.symm)
  simpa [sortC] using key l []
end Go.Proofs.Yteghidjbcpmfbaa
namespace Go.Proofs.Yteghidjbcpmfbaa
open Go.RowKit

/-- A cell turned. -/
def turnC (x : Cl) : Cl := (x.2.1, x.1, x.2.2.2.1, x.2.2.1, x.2.2.2.2)
/-- A table's cells, turned. -/
def turnL (l : List Cl) : List Cl := sortC (l.map turnC)
theorem turnL_mem (l : List Cl) (y : Cl) : y ∈ turnL l ↔ ∃ x ∈ l, turnC x = y := by
  unfold turnL
  rw [(sortC_perm _).mem_iff, List.mem_map]
theorem turnL_len (l : List Cl) : (turnL l).length = l.length := by
  unfold turnL
  rw [(sortC_perm _).length_eq, List.length_map]
/-- Behind, or at the same place. -/
def leC (x y : Cl) : Prop := gtC x y = false
theorem gtC_iff (y x : Cl) : gtC y x = true ↔ (x.1 < y.1 ∨ y.1 = x.1 ∧ x.2.1 < y.2.1) := decide_eq_true_iff
theorem leC_iff (x y : Cl) : leC x y ↔ ¬ (y.1 < x.1 ∨ x.1 = y.1 ∧ y.2.1 < x.2.1) := by
  unfold leC
  rw [← Bool.not_eq_true, gtC_iff]
theorem insC_sorted (x : Cl) : ∀ l : List Cl, l.Pairwise leC → (insC x l).Pairwise leC
  | [], _ => by simp [insC]
  | y :: ys, h => by
    obtain ⟨h1, h2⟩ := List.pairwise_cons.1 h
    unfold insC
    split
    · rename_i hg
      rw [gtC_iff] at hg
      refine List.pairwise_cons.2 ⟨fun z hz => ?_, h⟩
      rcases List.mem_cons.1 hz with rfl | hz
      · rw [leC_iff]; omega
      · have := h1 z hz
        rw [leC_iff] at this ⊢
        omega
    · rename_i hg
      rw [gtC_iff] at hg
      refine List.pairwise_cons.2 ⟨fun z hz => ?_, insC_sorted x ys h2⟩
      rcases List.mem_cons.1 ((insC_perm x ys).mem_iff.1 hz) with rfl | hz
      · rw [leC_iff]; omega
      · exact h1 z hz
theorem sortC_sorted (l : List Cl) : (sortC l).Pairwise leC := by
  have key : ∀ (l o : List Cl), o.Pairwise leC → (l.foldl (fun o x => insC x o) o).Pairwise leC := by
    intro l
    induction l with
    | nil => intro o h; exact h
    | cons x l ih => intro o h; exact ih _ (insC_sorted x o h)
  exact key l [] List.Pairwise.nil
theorem turn_atF (f : Nat → Nat) (a b : Nat) (hb : b < 5) : turnF f (a * 5 + b) = f (b * 5 + a) := by
  unfold turnF
  rw [show (a * 5 + b) % 5 = b from by omega, show (a * 5 + b) / 5 = a from by omega]
section
variable {R C : Nat} {l : List Cl}
/-- A square has the number m + 1 just if it is of cell m. -/
theorem num_iff (h : okB R C l = true) (a b m : Nat) (hb : b < C) : numF l l.length (a * 5 + b) = m + 1 ↔ m < l.length ∧ inB (l.getD m cl0) a b = true := by
  obtain ⟨hR, hC, hs, _⟩ := gridP_of_okB h
  have hw : ∀ i, i < l.length → wiB R C (l.getD i cl0) = true := fun j hj => (stepB_of (hs j hj)).1
  constructor
  · intro e
    exact numF_pos l R C l.length hw a b m (by omega) e
  · rintro ⟨h1, h2⟩
    exact numF_of hC.2 hs h1 a b h2
theorem cell_nat (h : okB R C l = true) (m : Nat) (hm : m < l.length) : ∃ a b d g : Nat, l.getD m cl0 = ((a : Int), (b : Int), (d : Int), (g : Int), (l.getD m cl0).2.2.2.2) ∧ 1 ≤ d ∧ 1 ≤ g ∧ a + d ≤ R ∧ b + g ≤ C := by
  obtain ⟨_, _, hs, _⟩ := gridP_of_okB h
  obtain ⟨w1, w2, w3⟩ := wiB_of (stepB_of (hs m hm)).1
  obtain ⟨⟨x1, x2, x3, x4, x5⟩, hx⟩ : ∃ x, l.getD m cl0 = x := ⟨_, rfl⟩
  rw [hx] at w1 w2 w3 ⊢
  simp only at w1 w2 w3
  refine ⟨x1.toNat, x2.toNat, x3.toNat, x4.toNat, ?_, by omega, by omega, by omega, by omega⟩
  simp only [Prod.mk.injEq]
  refine ⟨by omega, by omega, by omega, by omega, trivial⟩
theorem inB_cell {a b d g : Nat} {t : List Sg} (p q : Nat) : inB ((a : Int), (b : Int), (d : Int), (g : Int), t) p q = true ↔ a ≤ p ∧ p < a + d ∧ b ≤ q ∧ q < b + g := by
  show decide ((a : Int) ≤ (p : Int) ∧ (p : Int) < (a : Int) + (d : Int) ∧ (b : Int) ≤ (q : Int) ∧ (q : Int) < (b : Int) + (g : Int)) = true ↔ _
  rw [decide_eq_true_eq]
  omega
theorem turnL_get (k : Nat) (hk : k < (turnL l).length) : ∃ m, m < l.length ∧ (turnL l).getD k cl0 = turnC (l.getD m cl0) := by
  have h1 : (turnL l).getD k cl0 ∈ turnL l := by simp [List.getD, hk]
  obtain ⟨x, hx, e⟩ := (turnL_mem l _).1 h1
  obtain ⟨m, hm, rfl⟩ := List.getElem_of_mem hx
  exact ⟨m, hm, by rw [← e]; simp [List.getD, hm]⟩
theorem starts_apart (h : okB R C l = true) : (turnL l).Pairwise (fun x y => ¬ (x.1 = y.1 ∧ x.2.1 = y.2.1)) := by
  have hf : formB R C l = true := by
    simp only [okB, Bool.and_eq_true] at h
    exact h.1
  obtain ⟨_, _, _, hat⟩ := formB_of hf
  have h1 : l.Pairwise (fun x y => ¬ (x.2.1 = y.2.1 ∧ x.1 = y.1)) := by
    rw [List.pairwise_iff_getElem]
    intro i j hi hj hij
    have := ahead_of (ahead_far hat j i hj hij)
    rw [getD_get hi, getD_get hj] at this
    omega
  have h2 : (l.map turnC).Pairwise (fun x y => ¬ (x.1 = y.1 ∧ x.2.1 = y.2.1)) := by
    rw [List.pairwise_map]
    exact h1
  exact (sortC_perm _).symm.pairwise h2 (fun hab hba => hab ⟨hba.1.symm, hba.2.symm⟩)
theorem turn_data (h : okB R C l = true) (k : Nat) (hk : k < (turnL l).length) : ∃ m a b d g : Nat, m < l.length ∧ l.getD m cl0 = ((a : Int), (b : Int), (d : Int), (g : Int), (l.getD m cl0).2.2.2.2) ∧ (turnL l).getD k cl0 = ((b : Int), (a : Int), (g : Int), (d : Int), (l.getD m cl0).2.2.2.2) ∧ 1 ≤ d ∧ 1 ≤ g ∧ a + d ≤ R ∧ b + g ≤ C := by
  obtain ⟨m, hm, e⟩ := turnL_get k hk
  obtain ⟨a, b, d, g, e2, h1, h2, h3, h4⟩ := cell_nat h m hm
  refine ⟨m, a, b, d, g, hm, e2, ?_, h1, h2, h3, h4⟩
  rw [e]
  generalize (l.getD m cl0).2.2.2.2 = t at e2 ⊢
  rw [e2]
  rfl
theorem rep_turn (h : okB R C l = true) : Rep C R (turnF (numF l l.length)) (turnL l) := by
  obtain ⟨hR, hC, hs, ht⟩ := gridP_of_okB h
  have hR5 : R ≤ 5 := by omega
  have hC5 : C ≤ 5 := by omega
  have key : ∀ k, k < (turnL l).length → ∃ m a b d g : Nat, m < l.length ∧ (turnL l).getD k cl0 = ((b : Int), (a : Int), (g : Int), (d : Int), (l.getD m cl0).2.2.2.2) ∧ 1 ≤ d ∧ 1 ≤ g ∧ a + d ≤ R ∧ b + g ≤ C ∧ stR ((turnL l).getD k cl0) = b ∧ stC ((turnL l).getD k cl0) = a ∧ ∀ p q, q < C → (numF l l.length (p * 5 + q) = m + 1 ↔ a ≤ p ∧ p < a + d ∧ b ≤ q ∧ q < b + g) := by
    intro k hk
    obtain ⟨m, a, b, d, g, hm, e2, e3, h1, h2, h3, h4⟩ := turn_data h k hk
    refine ⟨m, a, b, d, g, hm, e3, h1, h2, h3, h4, by rw [e3]; simp [stR], by rw [e3]; simp [stC], ?_⟩
    intro p q hq
    rw [num_iff h p q m hq, e2, inB_cell]
    exact ⟨fun hh => hh.2, fun hh => ⟨hm, hh⟩⟩
  constructor
  · intro k hk
    obtain ⟨m, a, b, d, g, hm, e3, h1, h2, h3, h4, _, _, hnum⟩ := key k hk
    have n0 := (hnum a b (by omega)).2 (by omega)
    refine ⟨b, a, g, d, by rw [e3], by omega, by omega, ⟨fun i hi => ⟨by omega, ?_⟩, ?_⟩, fun j hj => ⟨by omega, ?_⟩, ?_⟩
    · rw [turn_atF _ _ _ (by omega), turn_atF _ _ _ (by omega), n0]
      exact (hnum a (b + i) (by omega)).2 (by omega)
    · rintro ⟨q1, q2⟩
      rw [turn_atF _ _ _ (by omega), turn_atF _ _ _ (by omega), n0] at q2
      have := (hnum a (b + g) q1).1 q2
      omega
    · rw [turn_atF _ _ _ (by omega), turn_atF _ _ _ (by omega), n0]
      exact (hnum (a + j) b (by omega)).2 (by omega)
    · rintro ⟨q1, q2⟩
      rw [turn_atF _ _ _ (by omega), turn_atF _ _ _ (by omega), n0] at q2
      have := (hnum (a + d) b (by omega)).1 q2
      omega
  · intro i k hik hk
    obtain ⟨m, a, b, d, g, hm, e3, h1, h2, h3, h4, s1, s2, _⟩ := key k hk
    obtain ⟨m', a', b', d', g', hm', e3', h1', h2', h3', h4', s1', s2', _⟩ := key i (by omega)
    have hle := List.pairwise_iff_getElem.1 (sortC_sorted (l.map turnC)) i k (show i < (turnL l).length by omega) hk hik
    have hne := List.pairwise_iff_getElem.1 (starts_apart h) i k (by omega) hk hik
    rw [leC_iff] at hle
    have g1 : (turnL l)[i]'(by omega) = (turnL l).getD i cl0 := (getD_get (by omega)).symm
    have g2 : (turnL l)[k] = (turnL l).getD k cl0 := (getD_get hk).symm
    have hle' : ¬ (((turnL l).getD k cl0).1 < ((turnL l).getD i cl0).1 ∨ ((turnL l).getD i cl0).1 = ((turnL l).getD k cl0).1 ∧ ((turnL l).getD k cl0).2.1 < ((turnL l).getD i cl0).2.1) := by
      rw [← g1, ← g2]
      exact hle
    rw [g1, g2] at hne
    rw [s1, s2, s1', s2']
    rw [e3, e3'] at hle' hne
    simp only at hle' hne
    unfold vis
    omega
  · intro k hk p q hv
    obtain ⟨m, a, b, d, g, hm, e3, h1, h2, h3, h4, s1, s2, hnum⟩ := key k hk
    rw [s1, s2] at hv ⊢
    have n0 := (hnum a b (by omega)).2 (by omega)
    have hq : q < 5 ∧ p < C := by unfold vis at hv; omega
    rw [turn_atF _ _ _ hq.1, turn_atF _ _ _ (by omega), n0]
    intro e
    have := (hnum q p hq.2).1 e
    unfold vis at hv
    omega
  · intro p q hv
    have hpq : p < C ∧ q < R := by unfold vis at hv; omega
    have h1 := (ht q p (by unfold vis; simp; omega)).1
    obtain ⟨m, hm⟩ : ∃ m, numF l l.length (q * 5 + p) = m + 1 := ⟨numF l l.length (q * 5 + p) - 1, by omega⟩
    obtain ⟨hml, hin⟩ := (num_iff h q p m hpq.1).1 hm
    obtain ⟨a, b, d, g, e2, q1, q2, q3, q4⟩ := cell_nat h m hml
    rw [e2, inB_cell] at hin
    by_cases hst : b = p ∧ a = q
    · left
      have hmem : turnC (l.getD m cl0) ∈ turnL l := (turnL_mem l _).2 ⟨l.getD m cl0, by simp [List.getD, hml], rfl⟩
      obtain ⟨k, hk, e⟩ := List.getElem_of_mem hmem
      refine ⟨k, hk, ?_, ?_⟩
      · rw [getD_get hk, e, e2]
        simp [turnC, stR, hst.1]
      · rw [getD_get hk, e, e2]
        simp [turnC, stC, hst.2]
    · right
      refine ⟨b, a, by unfold vis; omega, ?_⟩
      rw [turn_atF _ _ _ (by omega), turn_atF _ _ _ (by omega), hm]
      rw [num_iff h a b m (by omega), e2, inB_cell]
      exact ⟨hml, by omega⟩
end
end Go.Proofs.Yteghidjbcpmfbaa
namespace Go.Proofs.Yteghidjbcpmfbaa
open Go.RowKit

/-- Cells that tile a grid of numbers, in whatever order. -/
structure TilesM (R C : Nat) (f : Nat → Nat) (M : List Cl) : Prop where
  cell : ∀ x ∈ M, ∃ (a b d g : Nat) (t : List Sg), x = ((a : Int), (b : Int), (d : Int), (g : Int), t) ∧ 1 ≤ d ∧ 1 ≤ g ∧ a + d ≤ R ∧ b + g ≤ C ∧ ∀ p q, p < R → q < C → (f (p * 5 + q) = f (a * 5 + b) ↔ a ≤ p ∧ p < a + d ∧ b ≤ q ∧ q < b + g)
  all : ∀ p q, p < R → q < C → ∃ x ∈ M, inB x p q = true
  apart : M.Pairwise (fun x y => ¬ (x.1 = y.1 ∧ x.2.1 = y.2.1))

theorem TilesM.perm {R C : Nat} {f : Nat → Nat} {M N : List Cl} (h : TilesM R C f M) (hp : N.Perm M) : TilesM R C f N where
  cell := fun x hx => h.cell x (hp.mem_iff.1 hx)
  all := fun p q hp' hq => by
    obtain ⟨x, hx, hi⟩ := h.all p q hp' hq
    exact ⟨x, hp.mem_iff.2 hx, hi⟩
  apart := hp.symm.pairwise h.apart (fun hab hba => hab ⟨hba.1.symm, hba.2.symm⟩)
theorem getD_mem {l : List Cl} {k : Nat} (hk : k < l.length) : l.getD k cl0 ∈ l := by
  rw [getD_get hk]
  exact List.getElem_mem hk
theorem TilesM.sort {R C : Nat} {f : Nat → Nat} {M : List Cl} (h : TilesM R C f M) : TilesM R C f (sortC M) := h.perm (sortC_perm M)
/-- Sorted and apart is in order. -/
theorem TilesM.ahead {R C : Nat} {f : Nat → Nat} {M : List Cl} (h : TilesM R C f M) (i k : Nat) (hik : i < k) (hk : k < (sortC M).length) :
    ((sortC M).getD i cl0).1 < ((sortC M).getD k cl0).1 ∨ ((sortC M).getD i cl0).1 = ((sortC M).getD k cl0).1 ∧ ((sortC M).getD i cl0).2.1 < ((sortC M).getD k cl0).2.1 := by
  have hle := List.pairwise_iff_getElem.1 (sortC_sorted M) i k (by omega) hk hik
  have hne := List.pairwise_iff_getElem.1 h.sort.apart i k (by omega) hk hik
  rw [leC_iff] at hle
  rw [getD_get hk, getD_get (show i < (sortC M).length by omega)]
  omega
theorem rep_sort {R C : Nat} {f : Nat → Nat} {M : List Cl} (h : TilesM R C f M) : Rep R C f (sortC M) := by
  have hs := h.sort
  have key : ∀ k, k < (sortC M).length → ∃ (a b d g : Nat) (t : List Sg), (sortC M).getD k cl0 = ((a : Int), (b : Int), (d : Int), (g : Int), t) ∧ 1 ≤ d ∧ 1 ≤ g ∧ a + d ≤ R ∧ b + g ≤ C ∧ stR ((sortC M).getD k cl0) = a ∧ stC ((sortC M).getD k cl0) = b ∧ ∀ p q, p < R → q < C → (f (p * 5 + q) = f (a * 5 + b) ↔ a ≤ p ∧ p < a + d ∧ b ≤ q ∧ q < b + g) := by
    intro k hk
    obtain ⟨a, b, d, g, t, e, h1, h2, h3, h4, h5⟩ := hs.cell _ (getD_mem hk)
    exact ⟨a, b, d, g, t, e, h1, h2, h3, h4, by rw [e]; simp [stR], by rw [e]; simp [stC], h5⟩
  constructor
  · intro k hk
    obtain ⟨a, b, d, g, t, e, h1, h2, h3, h4, _, _, hn⟩ := key k hk
    refine ⟨a, b, d, g, by rw [e], by omega, by omega, ⟨fun i hi => ⟨by omega, (hn _ _ (by omega) (by omega)).2 (by omega)⟩, ?_⟩, fun j hj => ⟨by omega, (hn _ _ (by omega) (by omega)).2 (by omega)⟩, ?_⟩
    · rintro ⟨q1, q2⟩
      have := (hn _ _ q1 (by omega)).1 q2
      omega
    · rintro ⟨q1, q2⟩
      have := (hn _ _ (by omega) q1).1 q2
      omega
  · intro i k hik hk
    obtain ⟨a, b, d, g, t, e, h1, h2, h3, h4, s1, s2, _⟩ := key k hk
    obtain ⟨a', b', d', g', t', e', h1', h2', h3', h4', s1', s2', _⟩ := key i (by omega)
    have := h.ahead i k hik hk
    rw [s1, s2, s1', s2']
    rw [e, e'] at this
    simp only at this
    unfold vis
    omega
  · intro k hk p q hv
    obtain ⟨a, b, d, g, t, e, h1, h2, h3, h4, s1, s2, hn⟩ := key k hk
    rw [s1, s2] at hv ⊢
    have hpq : p < R ∧ q < C := by unfold vis at hv; omega
    intro e'
    have := (hn p q hpq.1 hpq.2).1 e'
    unfold vis at hv
    omega
  · intro p q hv
    have hpq : p < R ∧ q < C := by unfold vis at hv; omega
    obtain ⟨x, hx, hi⟩ := hs.all p q hpq.1 hpq.2
    obtain ⟨k, hk, e⟩ := List.getElem_of_mem hx
    rw [← getD_get hk] at e
    subst e
    obtain ⟨a, b, d, g, t, e, h1, h2, h3, h4, s1, s2, hn⟩ := key k hk
    rw [e, inB_cell] at hi
    by_cases hst : a = p ∧ b = q
    · exact .inl ⟨k, hk, by rw [s1, hst.1], by rw [s2, hst.2]⟩
    · exact .inr ⟨a, b, by unfold vis; omega, ((hn p q hpq.1 hpq.2).2 hi).symm⟩
/-- Such cells, in order, are a table that is ok. -/
theorem okB_sort {R C : Nat} {f : Nat → Nat} {M : List Cl} (h : TilesM R C f M) (hR : 1 ≤ R ∧ R ≤ 5) (hC : 1 ≤ C ∧ C ≤ 5) (hl : M.length ≤ 25) (ht : ∀ x ∈ M, textB x.2.2.2.2 = true) : okB R C (sortC M) = true := by
  have hs := h.sort
  have hlen : (sortC M).length = M.length := (sortC_perm M).length_eq
  have hform : formB R C (sortC M) = true := by
    simp only [formB, Bool.and_eq_true, decide_eq_true_eq, List.all_eq_true, List.mem_range]
    refine ⟨⟨⟨by omega, by omega⟩, by omega⟩, ?_⟩
    intro k hk
    obtain ⟨a, b, d, g, t, e, h1, h2, h3, h4, _⟩ := hs.cell _ (getD_mem hk)
    have htx := ht _ ((sortC_perm M).mem_iff.1 (getD_mem hk))
    simp only [atB, Bool.and_eq_true, Bool.or_eq_true, cellB, decide_eq_true_eq]
    refine ⟨⟨?_, htx⟩, ?_⟩
    · rw [e]
      simp only
      omega
    · by_cases hk0 : k = 0
      · exact .inl hk0
      · exact .inr (decide_eq_true (h.ahead (k - 1) k (by omega) hk))
  simp only [okB, hform, Bool.true_and, List.all_eq_true, List.mem_range, colB, decide_eq_true_eq]
  intro p hp q hq
  have hp' : p < R := by omega
  have hq' : q < C := by omega
  obtain ⟨x, hx, hi⟩ := hs.all p q hp' hq'
  obtain ⟨k, hk, e⟩ := List.getElem_of_mem hx
  subst e
  unfold cnt
  refine countP_one _ (sortC M) k hk hi ?_
  intro i hi' hp2
  obtain ⟨a, b, d, g, t, e, h1, h2, h3, h4, hn⟩ := hs.cell _ hx
  obtain ⟨a', b', d', g', t', e', h1', h2', h3', h4', hn'⟩ := hs.cell _ (List.getElem_mem hi')
  rw [e, inB_cell] at hi
  rw [e', inB_cell] at hp2
  have f1 := (hn p q hp' hq').2 hi
  have f2 := (hn' p q hp' hq').2 hp2
  have g1 := (hn a' b' (by omega) (by omega)).1 (by omega)
  have g2 := (hn' a b (by omega) (by omega)).1 (by omega)
  rcases Nat.lt_trichotomy i k with h7 | h7 | h7
  · have := List.pairwise_iff_getElem.1 hs.apart i k hi' hk h7
    rw [e, e'] at this
    simp only at this
    omega
  · exact h7
  · have := List.pairwise_iff_getElem.1 hs.apart k i hk hi' h7
    rw [e, e'] at this
    simp only at this
    omega
/-- A cell whose squares are just those of a number. -/
def NumC (R C : Nat) (f : Nat → Nat) (x : Cl) (m : Nat) : Prop := ∃ (a b d g : Nat) (t : List Sg), x = ((a : Int), (b : Int), (d : Int), (g : Int), t) ∧ 1 ≤ d ∧ 1 ≤ g ∧ a + d ≤ R ∧ b + g ≤ C ∧ ∀ p q, p < R → q < C → (f (p * 5 + q) = m ↔ a ≤ p ∧ p < a + d ∧ b ≤ q ∧ q < b + g)
theorem NumC.start {R C : Nat} {f : Nat → Nat} {x : Cl} {m : Nat} (h : NumC R C f x m) : f (stR x * 5 + stC x) = m := by
  obtain ⟨a, b, d, g, t, rfl, h1, h2, h3, h4, h5⟩ := h
  simp only [stR, stC, Int.toNat_natCast]
  exact (h5 a b (by omega) (by omega)).2 (by omega)
theorem tilesM_of {R C : Nat} {f : Nat → Nat} {M : List Cl} (h1 : ∀ x ∈ M, ∃ m, NumC R C f x m) (h2 : ∀ p q, p < R → q < C → ∃ x ∈ M, inB x p q = true)
    (h3 : M.Pairwise (fun x y => ∃ m m', m ≠ m' ∧ NumC R C f x m ∧ NumC R C f y m')) : TilesM R C f M where
  cell := fun x hx => by
    obtain ⟨m, hm⟩ := h1 x hx
    have hs := hm.start
    obtain ⟨a, b, d, g, t, rfl, q1, q2, q3, q4, q5⟩ := hm
    simp only [stR, stC, Int.toNat_natCast] at hs
    exact ⟨a, b, d, g, t, rfl, q1, q2, q3, q4, by rw [hs]; exact q5⟩
  all := h2
  apart := h3.imp (by
    rintro x y ⟨m, m', hne, hx, hy⟩ ⟨e1, e2⟩
    have s1 := hx.start
    have s2 := hy.start
    simp only [stR, stC, e1, e2] at s1 s2
    exact hne (s1.symm.trans s2))
end Go.Proofs.Yteghidjbcpmfbaa
namespace Go.Proofs.Yteghidjbcpmfbaa
open Go.RowKit

/-- Take number i first, what it yields told by a slot's number. -/
theorem take_at {P : Program} {ops : Array Oper} {Q : Exit → Act → World → Prop} {md : Region.Mode} {S : World → Prop} (i d : Nat) (v : Value) {oi : Oper} {fuel : Nat} {listed : Array Bool} {a : Act} {w : World} (hi : ops[i]? = some oi) (hd : oi.dst = some d)
    (hs : Region.noSelect ops = true) (hf : Region.free md ops listed i = true) (hr : (Region.ready md ops listed).contains i = true)
    (hQ : ∀ c a w, Q (.panic c) (a.put (some d) v) w → Q (.panic c) a w) (hy : YieldsIf P ops S oi v a) (hS : S w)
    (h : wpAnyH P md ops Q S fuel (listed.setIfInBounds i true) (a.put (some d) v) w) : wpAnyH P md ops Q S (fuel + 1) listed a w := by
  rw [← hd] at hQ h
  exact wpAnyH_take hi hs hf hr hQ hy hS h
end Go.Proofs.Yteghidjbcpmfbaa
namespace Go.Proofs.Yteghidjbcpmfbaa
open Go.RowKit

/-- How many of the first n bits are set. -/
def bitsN (x n : Nat) : Nat := ((List.range n).filter (fun i => x.testBit i)).length
theorem bitsN_add (x m n : Nat) : bitsN x (m + n) = bitsN x m + bitsN (x >>> m) n := by
  unfold bitsN
  rw [List.range_add, List.filter_append, List.length_append, List.filter_map, List.length_map]
  congr 3
  funext i
  simp [Nat.testBit_shiftRight]
theorem bitsN_8 : ∀ n : Fin 256, Lib.onesCount n.val = bitsN n.val 8 := by decide +kernel
theorem bitsN_mod (x : Nat) : bitsN (x % 256) 8 = bitsN x 8 := by
  unfold bitsN
  congr 1
  apply List.filter_congr
  intro i hi
  have : i < 8 := by simpa using hi
  rw [show (256 : Nat) = 2 ^ 8 from rfl, Nat.testBit_mod_two_pow]
  simp [this]
theorem ones8 (x : Nat) : Lib.onesCount (x % 256) = bitsN x 8 := by
  rw [bitsN_8 ⟨x % 256, by omega⟩, bitsN_mod]
theorem ones_bits (x : Nat) (h : x < 2 ^ 32) : Lib.onesCount (x / 16777216) + Lib.onesCount (x / 65536 % 256) + Lib.onesCount (x / 256 % 256) + Lib.onesCount (x % 256) = bitsN x 32 := by
  have e0 : x / 16777216 = x / 16777216 % 256 := by omega
  rw [e0, ones8, ones8, ones8, ones8, show (32 : Nat) = 8 + (8 + (8 + 8)) from rfl, bitsN_add, bitsN_add, bitsN_add, ← Nat.shiftRight_add, ← Nat.shiftRight_add, Nat.shiftRight_eq_div_pow, Nat.shiftRight_eq_div_pow, Nat.shiftRight_eq_div_pow]
  simp only [Nat.reduceAdd, Nat.reducePow]
  omega
theorem pop8_at (n : Nat) (h : n < 256) : Lib.pop8 (n : Int) = ((Lib.onesCount n : Nat) : Int) := Lib.pop8_eq ⟨n, h⟩
theorem and255 (y : Nat) (h : y < 2 ^ 26) : bits .and .u32 (y : Int) 255 = ((y % 256 : Nat) : Int) := by
  have := and_nat y 255 h (by decide)
  rw [show ((255 : Nat) : Int) = 255 from rfl] at this
  rw [this, show (255 : Nat) = 2 ^ 8 - 1 from rfl, Nat.and_two_pow_sub_one_eq_mod]

set_option maxRecDepth 100000 in
set_option maxHeartbeats 4000000 in
theorem ones_any (x : Nat) (hx : x < 2 ^ 26) (w : World) :
    Calls Try.prog 68 #[.int .u32 x] w fun e w' => e = .returned (.int .i64 (bitsN x 32)) ∧ ∃ q, w' = w.drewN q := by
  have HE : Hid (Lib.onesCount (x / 16777216) + Lib.onesCount (x / 65536 % 256) + Lib.onesCount (x / 256 % 256) + Lib.onesCount (x % 256) = bitsN x 32) := ones_bits x (by omega)
  obtain ⟨A, hA⟩ : ∃ A, x / 16777216 = A := ⟨_, rfl⟩
  obtain ⟨B, hB⟩ : ∃ A, x / 65536 % 256 = A := ⟨_, rfl⟩
  obtain ⟨C, hC⟩ : ∃ A, x / 256 % 256 = A := ⟨_, rfl⟩
  obtain ⟨D, hD⟩ : ∃ A, x % 256 = A := ⟨_, rfl⟩
  rw [hA, hB, hC, hD] at HE
  have HA : Hid (x / 16777216 = A) := hA
  have HB : Hid (bits .and .u32 ((x / 65536 : Nat) : Int) 255 = (B : Int)) := by
    show bits .and .u32 ((x / 65536 : Nat) : Int) 255 = (B : Int)
    rw [and255 _ (by omega), hB]
  have HC : Hid (bits .and .u32 ((x / 256 : Nat) : Int) 255 = (C : Int)) := by
    show bits .and .u32 ((x / 256 : Nat) : Int) 255 = (C : Int)
    rw [and255 _ (by omega), hC]
  have HD : Hid (bits .and .u32 (x : Int) 255 = (D : Int)) := by
    show bits .and .u32 (x : Int) 255 = (D : Int)
    rw [and255 _ (by omega), hD]
  have a0 : A < 256 := by omega
  have b0 : B < 256 := by omega
  have c0 : C < 256 := by omega
  have d0 : D < 256 := by omega
  have PA : Hid (Lib.pop8 (A : Int) = ((Lib.onesCount A : Nat) : Int)) := pop8_at A a0
  have PB : Hid (Lib.pop8 (B : Int) = ((Lib.onesCount B : Nat) : Int)) := pop8_at B b0
  have PC : Hid (Lib.pop8 (C : Int) = ((Lib.onesCount C : Nat) : Int)) := pop8_at C c0
  have PD : Hid (Lib.pop8 (D : Int) = ((Lib.onesCount D : Nat) : Int)) := pop8_at D d0
  have l1 := Lib.onesCount_le8 ⟨A, a0⟩
  have l2 := Lib.onesCount_le8 ⟨B, b0⟩
  have l3 := Lib.onesCount_le8 ⟨C, c0⟩
  have l4 := Lib.onesCount_le8 ⟨D, d0⟩
  simp only at l1 l2 l3 l4
  have i1 : (0 : Int) ≤ A := by omega
  have i2 : (A : Int) ≤ 255 := by omega
  have i3 : (0 : Int) ≤ B := by omega
  have i4 : (B : Int) ≤ 255 := by omega
  have i5 : (0 : Int) ≤ C := by omega
  have i6 : (C : Int) ≤ 255 := by omega
  have i7 : (0 : Int) ≤ D := by omega
  have i8 : (D : Int) ≤ 255 := by omega
  obtain ⟨p, hp⟩ : ∃ p, Lib.onesCount A = p := ⟨_, rfl⟩
  obtain ⟨q, hq⟩ : ∃ p, Lib.onesCount B = p := ⟨_, rfl⟩
  obtain ⟨r, hr⟩ : ∃ p, Lib.onesCount C = p := ⟨_, rfl⟩
  obtain ⟨s, hs⟩ : ∃ p, Lib.onesCount D = p := ⟨_, rfl⟩
  rw [hp, hq, hr, hs] at HE
  rw [hp] at PA l1
  rw [hq] at PB l2
  rw [hr] at PC l3
  rw [hs] at PD l4
  clear hA hB hC hD hp hq hr hs
  go_enter Try.func68, Try.ntmps68
  go_wp2_with fail
  refine wp_region_noPanic ?_
  refine wp_region_held_drew (S := fun _ => True) (by kernel_rfl) trivial (fun hHeld => ?_)
  refine take_at 0 3 (.int .u32 x) rfl rfl (by kernel_rfl) (by kernel_rfl) (by kernel_rfl) (fun _ _ _ h => h) (Or.inl ⟨by kernel_rfl, fun w' hS' => by go_simp⟩) hHeld ?_
  (try simp only [Act.put, List.setIfInBounds_toArray, List.set_cons_zero, List.set_cons_succ])
  refine take_at 1 4 (.int .u32 A) rfl rfl (by kernel_rfl) (by kernel_rfl) (by kernel_rfl) (fun _ _ _ h => h) (Or.inl ⟨by kernel_rfl, fun w' hS' => by rw [← HA.out]; go_simp⟩) hHeld ?_
  (try simp only [Act.put, List.setIfInBounds_toArray, List.set_cons_zero, List.set_cons_succ])
  refine take_at 2 5 (.int .u8 p) rfl rfl (by kernel_rfl) (by kernel_rfl) (by kernel_rfl) (fun _ _ _ h => h) (Or.inl ⟨by kernel_rfl, fun w' hS' => by rw [← PA.out]; go_simp⟩) hHeld ?_
  (try simp only [Act.put, List.setIfInBounds_toArray, List.set_cons_zero, List.set_cons_succ])
  refine take_at 3 6 (.int .u32 x) rfl rfl (by kernel_rfl) (by kernel_rfl) (by kernel_rfl) (fun _ _ _ h => h) (Or.inl ⟨by kernel_rfl, fun w' hS' => by go_simp⟩) hHeld ?_
  (try simp only [Act.put, List.setIfInBounds_toArray, List.set_cons_zero, List.set_cons_succ])
  refine take_at 4 7 (.int .u32 ((x / 65536 : Nat) : Int)) rfl rfl (by kernel_rfl) (by kernel_rfl) (by kernel_rfl) (fun _ _ _ h => h) (Or.inl ⟨by kernel_rfl, fun w' hS' => by go_simp⟩) hHeld ?_
  (try simp only [Act.put, List.setIfInBounds_toArray, List.set_cons_zero, List.set_cons_succ])
  refine take_at 5 8 (.int .u32 B) rfl rfl (by kernel_rfl) (by kernel_rfl) (by kernel_rfl) (fun _ _ _ h => h) (Or.inl ⟨by kernel_rfl, fun w' hS' => by rw [← HB.out]; go_simp⟩) hHeld ?_
  (try simp only [Act.put, List.setIfInBounds_toArray, List.set_cons_zero, List.set_cons_succ])
  refine take_at 6 9 (.int .u8 q) rfl rfl (by kernel_rfl) (by kernel_rfl) (by kernel_rfl) (fun _ _ _ h => h) (Or.inl ⟨by kernel_rfl, fun w' hS' => by rw [← PB.out]; go_simp⟩) hHeld ?_
  (try simp only [Act.put, List.setIfInBounds_toArray, List.set_cons_zero, List.set_cons_succ])
  refine take_at 7 10 (.int .u8 ((p + q : Nat) : Int)) rfl rfl (by kernel_rfl) (by kernel_rfl) (by kernel_rfl) (fun _ _ _ h => h) (Or.inl ⟨by kernel_rfl, fun w' hS' => by go_simp; simp only [IntKind.wrap, IntKind.bits, IntKind.signed]; simp; omega⟩) hHeld ?_
  (try simp only [Act.put, List.setIfInBounds_toArray, List.set_cons_zero, List.set_cons_succ])
  refine take_at 8 11 (.int .u32 x) rfl rfl (by kernel_rfl) (by kernel_rfl) (by kernel_rfl) (fun _ _ _ h => h) (Or.inl ⟨by kernel_rfl, fun w' hS' => by go_simp⟩) hHeld ?_
  (try simp only [Act.put, List.setIfInBounds_toArray, List.set_cons_zero, List.set_cons_succ])
  refine take_at 9 12 (.int .u32 ((x / 256 : Nat) : Int)) rfl rfl (by kernel_rfl) (by kernel_rfl) (by kernel_rfl) (fun _ _ _ h => h) (Or.inl ⟨by kernel_rfl, fun w' hS' => by go_simp⟩) hHeld ?_
  (try simp only [Act.put, List.setIfInBounds_toArray, List.set_cons_zero, List.set_cons_succ])
  refine take_at 10 13 (.int .u32 C) rfl rfl (by kernel_rfl) (by kernel_rfl) (by kernel_rfl) (fun _ _ _ h => h) (Or.inl ⟨by kernel_rfl, fun w' hS' => by rw [← HC.out]; go_simp⟩) hHeld ?_
  (try simp only [Act.put, List.setIfInBounds_toArray, List.set_cons_zero, List.set_cons_succ])
  refine take_at 11 14 (.int .u8 r) rfl rfl (by kernel_rfl) (by kernel_rfl) (by kernel_rfl) (fun _ _ _ h => h) (Or.inl ⟨by kernel_rfl, fun w' hS' => by rw [← PC.out]; go_simp⟩) hHeld ?_
  (try simp only [Act.put, List.setIfInBounds_toArray, List.set_cons_zero, List.set_cons_succ])
  refine take_at 12 15 (.int .u8 ((p + q + r : Nat) : Int)) rfl rfl (by kernel_rfl) (by kernel_rfl) (by kernel_rfl) (fun _ _ _ h => h) (Or.inl ⟨by kernel_rfl, fun w' hS' => by go_simp; simp only [IntKind.wrap, IntKind.bits, IntKind.signed]; simp; omega⟩) hHeld ?_
  (try simp only [Act.put, List.setIfInBounds_toArray, List.set_cons_zero, List.set_cons_succ])
  refine take_at 13 16 (.int .u32 x) rfl rfl (by kernel_rfl) (by kernel_rfl) (by kernel_rfl) (fun _ _ _ h => h) (Or.inl ⟨by kernel_rfl, fun w' hS' => by go_simp⟩) hHeld ?_
  (try simp only [Act.put, List.setIfInBounds_toArray, List.set_cons_zero, List.set_cons_succ])
  refine take_at 14 17 (.int .u32 D) rfl rfl (by kernel_rfl) (by kernel_rfl) (by kernel_rfl) (fun _ _ _ h => h) (Or.inl ⟨by kernel_rfl, fun w' hS' => by rw [← HD.out]; go_simp⟩) hHeld ?_
  (try simp only [Act.put, List.setIfInBounds_toArray, List.set_cons_zero, List.set_cons_succ])
  refine take_at 15 18 (.int .u8 s) rfl rfl (by kernel_rfl) (by kernel_rfl) (by kernel_rfl) (fun _ _ _ h => h) (Or.inl ⟨by kernel_rfl, fun w' hS' => by rw [← PD.out]; go_simp⟩) hHeld ?_
  (try simp only [Act.put, List.setIfInBounds_toArray, List.set_cons_zero, List.set_cons_succ])
  refine take_at 16 19 (.int .u8 ((p + q + r + s : Nat) : Int)) rfl rfl (by kernel_rfl) (by kernel_rfl) (by kernel_rfl) (fun _ _ _ h => h) (Or.inl ⟨by kernel_rfl, fun w' hS' => by go_simp; simp only [IntKind.wrap, IntKind.bits, IntKind.signed]; simp; omega⟩) hHeld ?_
  (try simp only [Act.put, List.setIfInBounds_toArray, List.set_cons_zero, List.set_cons_succ])
  refine take_at 17 20 (.int .i64 ((p + q + r + s : Nat) : Int)) rfl rfl (by kernel_rfl) (by kernel_rfl) (by kernel_rfl) (fun _ _ _ h => h) (Or.inl ⟨by kernel_rfl, fun w' hS' => by go_simp; simp only [IntKind.wrap, IntKind.bits, IntKind.signed]; simp; omega⟩) hHeld ?_
  (try simp only [Act.put, List.setIfInBounds_toArray, List.set_cons_zero, List.set_cons_succ])
  refine take_at 18 2 (.int .i64 ((p + q + r + s : Nat) : Int)) rfl rfl (by kernel_rfl) (by kernel_rfl) (by kernel_rfl) (fun _ _ _ h => h) (Or.inl ⟨by kernel_rfl, fun w' hS' => by go_simp⟩) hHeld ?_
  (try simp only [Act.put, List.setIfInBounds_toArray, List.set_cons_zero, List.set_cons_succ])
  refine wpAnyH_done (by kernel_rfl) ?_ _
  refine NoPanic.normal ?_
  go_wp2_with fail
  go_ret
  exact ⟨by rw [HE.out]; rfl, 1, rfl⟩
end Go.Proofs.Yteghidjbcpmfbaa
namespace Go.Proofs.Yteghidjbcpmfbaa
open Go.RowKit

/-- How many of the k places from s on are in [r, r + d). -/
def cntI (s k r d : Nat) : Nat := ((List.range k).filter (fun i => decide (r ≤ s + i ∧ s + i < r + d))).length
theorem cntI_zero (s r d : Nat) : cntI s 0 r d = 0 := rfl
theorem cntI_succ (s k r d : Nat) : cntI s (k + 1) r d = cntI s k r d + (if r ≤ s + k ∧ s + k < r + d then 1 else 0) := by
  unfold cntI
  rw [List.range_succ, List.filter_append, List.length_append]
  congr 1
  by_cases h : r ≤ s + k ∧ s + k < r + d
  · simp [h]
  · rw [if_neg h]
    simp only [List.filter_cons, List.filter_nil]
    rw [decide_eq_false h]
    rfl
theorem cntI_le (s k r d : Nat) : cntI s k r d ≤ k := by
  unfold cntI
  exact Nat.le_trans (List.length_filter_le _ _) (by simp)
/-- How many squares of a cell are in a rectangle. -/
def sqN (r c d g : Nat) (x : Cl) : Nat := cntI x.1.toNat x.2.2.1.toNat r d * cntI x.2.1.toNat x.2.2.2.1.toNat c g
def outsB (r c d g : Nat) (x : Cl) : Bool := decide (sqN r c d g x = 0)
def fullB (r c d g : Nat) (x : Cl) : Bool := decide (sqN r c d g x ≠ 0 ∧ sqN r c d g x = x.2.2.1.toNat * x.2.2.2.1.toNat)
def cutB (r c d g : Nat) (x : Cl) : Bool := !outsB r c d g x && !fullB r c d g x
def mOut (r c d g : Nat) (l : List Cl) : List Cl := l.filter (outsB r c d g)
def mTx (r c d g : Nat) (l : List Cl) : List Sg := (l.filter (fullB r c d g)).flatMap (fun x => x.2.2.2.2)
def mN (r c d g : Nat) (l : List Cl) : Nat := (l.filter (fullB r c d g)).length
/-- Whether a rectangle lies in so many rows and columns. -/
def bndB (R C r c d g : Int) : Bool := decide (0 ≤ r ∧ r ≤ R - 1) && decide (0 ≤ c ∧ c ≤ C - 1) && decide (1 ≤ d ∧ d ≤ R - r) && decide (1 ≤ g ∧ g ≤ C - c)
def mergeB (R C : Int) (l : List Cl) (r c d g : Int) : Bool := okB R C l && bndB R C r c d g && l.all (fun x => !cutB r.toNat c.toNat d.toNat g.toNat x) && decide (2 ≤ mN r.toNat c.toNat d.toNat g.toNat l) && textB (mTx r.toNat c.toNat d.toNat g.toNat l)
def mergeM (l : List Cl) (r c d g : Int) : List Cl := mOut r.toNat c.toNat d.toNat g.toNat l ++ [(r, c, d, g, mTx r.toNat c.toNat d.toNat g.toNat l)]
def mergeL (l : List Cl) (r c d g : Int) : List Cl := sortC (mergeM l r c d g)
section
variable (r c d g : Nat) (l : List Cl) (i : Nat)
theorem mOut_take (h : i < l.length) : mOut r c d g (l.take (i + 1)) = mOut r c d g (l.take i) ++ (if outsB r c d g (l.getD i cl0) then [l.getD i cl0] else []) := by
  unfold mOut
  rw [List.take_succ_eq_append_getElem h, List.filter_append, show l[i] = l.getD i cl0 by simp [List.getD, h]]
  congr 1
  simp only [List.filter_cons, List.filter_nil]
theorem mFull_take (h : i < l.length) : (l.take (i + 1)).filter (fullB r c d g) = (l.take i).filter (fullB r c d g) ++ (if fullB r c d g (l.getD i cl0) then [l.getD i cl0] else []) := by
  rw [List.take_succ_eq_append_getElem h, List.filter_append, show l[i] = l.getD i cl0 by simp [List.getD, h]]
  congr 1
  simp only [List.filter_cons, List.filter_nil]
theorem mTx_take (h : i < l.length) : mTx r c d g (l.take (i + 1)) = mTx r c d g (l.take i) ++ (if fullB r c d g (l.getD i cl0) then (l.getD i cl0).2.2.2.2 else []) := by
  unfold mTx
  rw [mFull_take r c d g l i h, List.flatMap_append]
  congr 1
  split <;> simp
theorem mN_take (h : i < l.length) : mN r c d g (l.take (i + 1)) = mN r c d g (l.take i) + (if fullB r c d g (l.getD i cl0) then 1 else 0) := by
  unfold mN
  rw [mFull_take r c d g l i h, List.length_append]
  congr 1
  split <;> simp
theorem mN_le : mN r c d g l ≤ l.length := List.length_filter_le _ _
theorem mOut_le : (mOut r c d g l).length ≤ l.length := List.length_filter_le _ _
theorem mTx_le (k : Nat) : ∀ l : List Cl, (∀ x ∈ l, x.2.2.2.2.length ≤ k) → (mTx r c d g l).length ≤ k * l.length
  | [], _ => by simp [mTx]
  | x :: l, h => by
    have h1 := mTx_le k l (fun y hy => h y (List.mem_cons_of_mem _ hy))
    have h2 := h x (List.mem_cons_self ..)
    unfold mTx at h1 ⊢
    rw [List.filter_cons]
    split
    · rw [List.flatMap_cons, List.length_append, List.length_cons, Nat.mul_succ]
      omega
    · rw [List.length_cons, Nat.mul_succ]
      omega
end
/-- A row more, whose text shares no memory with the others. -/
theorem TxtOwn.snocD {w : World} {B : Nat} {q : Option Nat} {rs : List Rw} {l : List Cl} {x : Rw} {y : Cl} (h : TxtOwn w B q rs l) (hx : RwOwn w B x y) (hq : ∀ g, (rwT x).ownBlock = some g → q ≠ some g)
    (hd : ∀ k, k < rs.length → ∀ g, (rwT (rs.getD k rw0)).ownBlock = some g → (rwT x).ownBlock ≠ some g) : TxtOwn w B q (rs ++ [x]) (l ++ [y]) := by
  obtain ⟨e, h1, h2, h3⟩ := h
  refine ⟨by simp [e], fun k hk => ?_, fun k hk => ?_, fun i k hik hk => ?_⟩
  · by_cases hlt : k < rs.length
    · rw [getD_snoc_lt _ _ _ _ hlt, getD_snoc_lt _ _ _ _ (by omega)]
      exact h1 k hlt
    · have hk' : k = rs.length := by simp at hk; omega
      rw [getD_snoc_eq _ _ _ _ hk', getD_snoc_eq _ _ _ _ (by omega)]
      exact hx
  · by_cases hlt : k < rs.length
    · rw [getD_snoc_lt _ _ _ _ hlt]
      exact h2 k hlt
    · have hk' : k = rs.length := by simp at hk; omega
      rw [getD_snoc_eq _ _ _ _ hk']
      exact hq
  · by_cases hlt' : k < rs.length
    · rw [getD_snoc_lt _ _ _ _ hlt', getD_snoc_lt _ _ _ _ (by omega)]
      exact h3 i k hik hlt'
    · have hk' : k = rs.length := by simp at hk; omega
      rw [getD_snoc_eq _ _ _ _ hk', getD_snoc_lt _ _ _ _ (by omega)]
      exact fun b hb => hd i (by omega) b hb
end Go.Proofs.Yteghidjbcpmfbaa
namespace Go.Proofs.Yteghidjbcpmfbaa
open Go.RowKit

set_option maxRecDepth 100000 in
set_option maxHeartbeats 4000000 in
theorem l2Copy_any (R C : Int) (a : Option Addr) (n cap : Nat) (l : List Cl) (w : World) (h : Tab w a n cap l) (hl : l.length ≤ 1000000) (ht : ∀ k, k < l.length → (l.getD k cl0).2.2.2.2.length ≤ 1000000) :
    Calls Try.prog 29 #[.agg #[.int .i64 R, .int .i64 C, .slice a n cap]] w fun z w' => (∃ a' c' rs, z = .returned (.agg #[.int .i64 R, .int .i64 C, .slice a' l.length c']) ∧ OwnT w' w.heap.size (.slice a' l.length c') rs l) ∧ Below w.heap.size w w' := by
  obtain ⟨i0, hi, hz0, hz1, hz2⟩ := info_parts Try.info44
  have H : Hid (Tab w a n cap l) := h
  have HTL : Hid (∀ k, k < l.length → (l.getD k cl0).2.2.2.2.length ≤ 1000000) := ht
  obtain ⟨hn, hc, hm, -⟩ := h
  unfold maxLen at hm
  have HN : Hid (n = l.length) := hn
  have hn6 : n ≤ 1000000 := by omega
  clear ht hn
  go_enter Try.func29, Try.ntmps29
  go_upto_region 1 with fail
  have B0 : Below w.heap.size w ((w.alloc (.cells #[.int .i64 R, .int .i64 C, .slice a n cap] 28)).alloc (.cells #[.int .i64 0, .int .i64 0, .slice none 0 0] 28)) := ((Below.refl _ _).alloc (Nat.le_refl _) _).alloc (by simp) _
  have G0 : RowAt ((w.alloc (.cells #[.int .i64 R, .int .i64 C, .slice a n cap] 28)).alloc (.cells #[.int .i64 0, .int .i64 0, .slice none 0 0] 28)) w.heap.size #[.int .i64 R, .int .i64 C, .slice a n cap] 28 := (rowAt_new w _ _).alloc _
  have G1 : RowAt ((w.alloc (.cells #[.int .i64 R, .int .i64 C, .slice a n cap] 28)).alloc (.cells #[.int .i64 0, .int .i64 0, .slice none 0 0] 28)) (w.heap.size + 1) #[.int .i64 0, .int .i64 0, .slice none 0 0] 28 := by
    have := rowAt_new (w.alloc (.cells #[.int .i64 R, .int .i64 C, .slice a n cap] 28)) #[.int .i64 0, .int .i64 0, .slice none 0 0] 28
    simpa using this
  generalize ((w.alloc (.cells #[.int .i64 R, .int .i64 C, .slice a n cap] 28)).alloc (.cells #[.int .i64 0, .int .i64 0, .slice none 0 0] 28)) = v at B0 G0 G1 ⊢
  have q0 : v.cell? ⟨w.heap.size, 0, none⟩ = some (.int .i64 R) := G0.cell 0
  have q1 : v.cell? ⟨w.heap.size, 1, none⟩ = some (.int .i64 C) := G0.cell 1
  go_upto_region 2 with fail
  have B1 : Below v.heap.size v (v.alloc (.cells #[.int .i64 R, .int .i64 C, .slice none 0 0] 28)) := (Below.refl _ _).alloc (Nat.le_refl _) _
  have G2 : RowAt (v.alloc (.cells #[.int .i64 R, .int .i64 C, .slice none 0 0] 28)) v.heap.size #[.int .i64 R, .int .i64 C, .slice none 0 0] 28 := rowAt_new _ _ _
  generalize (v.alloc (.cells #[.int .i64 R, .int .i64 C, .slice none 0 0] 28)) = v0 at B1 G2 ⊢
  have z0 := G0.lt
  have z1 := G1.lt
  have z2 := G2.lt
  have s01 := B0.size
  clear q0 q1
  go_wp2_with fail
  go_loopw [4] (fun iv wr => ∃ (i : Nat) (rs : List Rw) (a' : Option Addr) (c' : Nat), i ≤ n ∧ iv = .int .i64 i ∧ RowAt wr v.heap.size #[.int .i64 R, .int .i64 C, .slice a' i c'] 28 ∧ OwnR wr v0.heap.size (.slice a' i c') rs ∧ TxtOwn wr v0.heap.size (Value.slice a' i c').ownBlock rs (l.take i) ∧ Below v.heap.size v wr ∧ v0.heap.size ≤ wr.heap.size) (fun iv _ => n - (intOf iv).toNat)
  case atStart => exact ⟨0, [], none, 0, Nat.zero_le _, rfl, G2, OwnR.nil _ _, TxtOwn.nil _ _ _, B1, Nat.le_refl _⟩
  case round =>
    clear G2 B1
    obtain ⟨i, rs, a', c', hin, rfl, hT, hO, hX, hb, hs⟩ := hrel
    have HTb : Hid (RowAt wr v.heap.size #[.int .i64 R, .int .i64 C, .slice a' i c'] 28) := hT
    have HO : Hid (OwnR wr v0.heap.size (.slice a' i c') rs) := hO
    have HXt : Hid (TxtOwn wr v0.heap.size (Value.slice a' i c').ownBlock rs (l.take i)) := hX
    have HB : Hid (Below v.heap.size v wr) := hb
    have HW : Hid (Below w.heap.size w wr) := B0.trans (hb.mono s01)
    have k2 : wr.cell? ⟨w.heap.size, 2, none⟩ = some (.slice a n cap) := (G0.below hb z0).cell 2
    clear hT hO hX hb
    by_cases hlt : i < n
    · have hil : i < l.length := by rw [← HN.out]; exact hlt
      rcases H.out.2.2.2 with e | ⟨b, off, rfl, hbw, hcl⟩
      · rw [e] at hil
        exact absurd hil (by simp)
      obtain ⟨c0, c1, c2, c3, ta, tn, tc, c4, htx⟩ := (hcl i hil).below HW.out hbw
      have htl := HTL.out i hil
      obtain ⟨⟨r, c, d, g, tx⟩, hx⟩ : ∃ x, x = l.getD i cl0 := ⟨_, rfl⟩
      rw [← hx] at c0 c1 c2 c3 htx htl
      simp only at c0 c1 c2 c3 htx htl
      have HX : Hid ((r, c, d, g, tx) = l.getD i cl0) := hx
      have HTX : Hid (Txt wr ta tn tc tx) := htx
      have HTN : Hid (tn = tx.length) := htx.1
      have htn6 : tn ≤ 1000000 := by rw [HTN.out]; exact htl
      clear hcl hx htx
      go_upto_region 6 with fail
      have bA : Below wr.heap.size wr (wr.alloc (.cells #[.int .i64 r, .int .i64 c, .int .i64 d, .int .i64 g, .slice ta tn tc] 44)) := (Below.refl _ _).alloc (Nat.le_refl _) _
      have RA : RowAt (wr.alloc (.cells #[.int .i64 r, .int .i64 c, .int .i64 d, .int .i64 g, .slice ta tn tc] 44)) wr.heap.size #[.int .i64 r, .int .i64 c, .int .i64 d, .int .i64 g, .slice ta tn tc] 44 := rowAt_new _ _ _
      clear c0 c1 c2 c3 c4 k2
      generalize (wr.alloc (.cells #[.int .i64 r, .int .i64 c, .int .i64 d, .int .i64 g, .slice ta tn tc] 44)) = w1 at bA RA ⊢
      have s1 := bA.size
      have lA := RA.lt
      have e4 : w1.cell? ⟨wr.heap.size, 4, none⟩ = some (.slice ta tn tc) := RA.cell 4
      have HRA : Hid (RowAt w1 wr.heap.size #[.int .i64 r, .int .i64 c, .int .i64 d, .int .i64 g, .slice ta tn tc] 44) := RA
      clear RA
      go_upto_region 7 with (at_builtin; refine wpList_append_txt rfl (.tmp 23) (.tmp 25) rfl wr.heap.size (.slice (some ⟨w1.heap.size, 0, none⟩) 0 0) 0 [] rfl (World.ownsRow_lit w1 #[] 0 (by omega) (by unfold maxLen; omega) rfl) ta tn tc tx rfl ((HTX.out.below bA).below ((Below.refl _ _).alloc (Nat.le_refl _) _)) (by omega) (by simp; omega) ?_; intro v' w2 hown hgrow; obtain ⟨p, q, rfl, -⟩ := Own.shape (show Own w2 wr.heap.size v' tx by (rw [Nat.zero_add, List.nil_append, HTN.out] at hown; exact hown)); have R2 := RowAt.grown (HRA.out.alloc _) hgrow (by simp [Value.ownBlock]; omega); have f4 : w2.cell? ⟨wr.heap.size, 4, none⟩ = some (.slice ta tn tc) := R2.cell 4; have f5 := R2.frozen 4)
      have hO2 : Own w2 wr.heap.size (.slice p tx.length q) tx := by
        rw [Nat.zero_add, List.nil_append, HTN.out] at hown
        exact hown
      have O3 : Own (w2.setCell ⟨wr.heap.size, 4, none⟩ (.slice p tx.length q)) wr.heap.size (.slice p tx.length q) tx := own_set hO2 _ _ (rowAt_ne R2 hO2.row (by decide))
      have R3 := R2.setCell 4 (.slice p tx.length q)
      have b3 : Below wr.heap.size wr (w2.setCell ⟨wr.heap.size, 4, none⟩ (.slice p tx.length q)) := ((bA.alloc s1 _).grown hgrow (by simp; omega) (fun k hk => by simp [Value.ownBlock] at hk; omega)).setCell (p := ⟨wr.heap.size, 4, none⟩) (Nat.le_refl _) (.slice p tx.length q)
      clear f4 f5 e4 hown hgrow R2 hO2 bA
      generalize (w2.setCell ⟨wr.heap.size, 4, none⟩ (.slice p tx.length q)) = w3 at O3 R3 b3 ⊢
      have s3 := b3.size
      have d0 : w3.cell? ⟨wr.heap.size, 0, none⟩ = some (.int .i64 r) := R3.cell 0
      have d1 : w3.cell? ⟨wr.heap.size, 1, none⟩ = some (.int .i64 c) := R3.cell 1
      have d2 : w3.cell? ⟨wr.heap.size, 2, none⟩ = some (.int .i64 d) := R3.cell 2
      have d3 : w3.cell? ⟨wr.heap.size, 3, none⟩ = some (.int .i64 g) := R3.cell 3
      have d4 : w3.cell? ⟨wr.heap.size, 4, none⟩ = some (.slice p tx.length q) := R3.cell 4
      have lv : v.heap.size < wr.heap.size := by omega
      have HT3 : Hid (RowAt w3 v.heap.size #[.int .i64 R, .int .i64 C, .slice a' i c'] 28) := HTb.out.below b3 lv
      have HO3 : Hid (OwnR w3 v0.heap.size (.slice a' i c') rs) := own_below HO.out b3
      have HX3 : Hid (TxtOwn w3 v0.heap.size (Value.slice a' i c').ownBlock rs (l.take i)) := HXt.out.below b3
      have HOw : Hid (Own w3 wr.heap.size (.slice p tx.length q) tx) := O3
      have HB3 : Hid (Below v.heap.size v w3) := HB.out.trans (b3.mono (by omega))
      have t2 : w3.cell? ⟨v.heap.size, 2, none⟩ = some (.slice a' i c') := HT3.out.cell 2
      clear R3 O3 b3
      go_wp2_with (at_builtin; refine wpList_append_own _ rfl (.tmp 29) (.tmp 31) 26 rfl v0.heap.size 44 i0 _ 5 56 Try.underlying26 hi hz0 hz1 hz2 rfl (by decide) (.slice a' i c') _ _ rfl (HO3.out.row.alloc _) ⟨w3.heap.size, 0, none⟩ 1 1 [.int .i64 r, .int .i64 c, .int .i64 d, .int .i64 g, .slice p tx.length q] rfl rfl (cell_five_new _ _ _ _ _ _ _) (five_oneCell _ _ _ _ _ _ _) (by unfold maxLen; omega) (by omega) (by simp; omega) ?_; intro v' w5 hown' hgrow _; obtain ⟨a5, c5, rfl, ho5, hb5⟩ := ownR_step (B := v0.heap.size) (w := w3) (s := (r, c, d, g, p, tx.length, q)) HO3.out (Below.refl _ _) (by omega) hown' hgrow; have R5 := RowAt.grown (HT3.out.alloc _) hgrow (fun e => by have := (own_lt HO3.out.row e).1; omega); have q2 : w5.cell? ⟨v.heap.size, 2, none⟩ = some (.slice a' i c') := R5.cell 2; have q3 := R5.frozen 2)
      go_roundw
      case rel =>
        have tO : Own w5 v0.heap.size (.slice p tx.length q) tx := own_grown (Own.alloc (own_less HOw.out (by omega)) _) hgrow (fun b hb => own_kinds HO3.out HOw.out (by decide) b hb)
        have t5 : TxtOwn w5 v0.heap.size (Value.slice a' i c').ownBlock rs (l.take i) := (HX3.out.below ((Below.refl _ _).alloc (Nat.le_refl _) _)).grown hgrow (fun k hk b hb => HX3.out.2.2.1 k hk b hb)
        have t6 := t5.snoc (C := wr.heap.size) (x := (r, c, d, g, p, tx.length, q)) (y := (r, c, d, g, tx)) ⟨rfl, rfl, rfl, rfl, tO⟩ (fun b hb => own_kinds HO3.out HOw.out (by decide) b hb) (fun k hk b hb => HXt.out.blockLt k hk b hb) (fun b hb => (own_lt HOw.out.row hb).1)
        rw [show l.take i ++ [(r, c, d, g, tx)] = l.take (i + 1) from by rw [List.take_succ_eq_append_getElem hil, HX.out]; simp [List.getD, hil]] at t6
        have B5 : Below v.heap.size v w5 := ((HB3.out).alloc (by omega) _).grown hgrow (by simp; omega) (fun k hk => by have := (own_lt HO3.out.row hk).1; omega)
        have s5 := hgrow.size
        simp at s5
        refine ⟨i + 1, _, a5, c5, by omega, by go_num, R5.setCell 2 (.slice a5 (i + 1) c5), own_set ho5 _ _ (fun e => by have := (own_lt ho5.row e).1; simp at this; omega), (t6.anew ho5).setLow _ _ (by simp; omega), B5.setCell (p := ⟨v.heap.size, 2, none⟩) (Nat.le_refl _) (.slice a5 (i + 1) c5), by simp [World.setCell]; omega⟩
      case measure => simp [intOf]; omega
    · have e : i = n := by omega
      subst e
      have k0 : wr.cell? ⟨v.heap.size, 0, none⟩ = some (.int .i64 R) := HTb.out.cell 0
      have k1 : wr.cell? ⟨v.heap.size, 1, none⟩ = some (.int .i64 C) := HTb.out.cell 1
      have k3 : wr.cell? ⟨v.heap.size, 2, none⟩ = some (.slice a' i c') := HTb.out.cell 2
      have HG1 : Hid (RowAt wr (w.heap.size + 1) #[.int .i64 0, .int .i64 0, .slice none 0 0] 28) := G1.below HB.out z1
      go_wp2_with (refine wpList_store_row rfl 28 (.tmp 2) (.tmp 34) rfl (w.heap.size + 1) #[.int .i64 R, .int .i64 C, .slice a' i c'] rfl rfl 28 _ HG1.out tab_info rfl (cells3_one _ _ _ _ _) ?_)
      have hX := HXt.out
      have hO := HO.out
      rw [HN.out] at hX hO
      rw [List.take_of_length_le (Nat.le_refl _)] at hX
      refine bodyPost_ret (v := .agg #[.int .i64 R, .int .i64 C, .slice a' i c']) (results_cell_row (p := 2) (ty := 28) rfl _ _ (w.heap.size + 1) 28 _ _ _ rfl (RowAt.setRow HG1.out _) Try.underlying28 rfl tab_info) rfl ⟨⟨a', c', rs, by rw [HN.out], ?_⟩, below_row (B0.trans (HB.out.mono s01)) (by omega) _⟩
      exact OwnT.less (B' := v0.heap.size) ⟨own_row hO _ _ (fun e => by have := (own_lt hO.row e).1; omega), hX.rowLow _ _ (by omega)⟩ (by omega)
end Go.Proofs.Yteghidjbcpmfbaa
namespace Go.Proofs.Yteghidjbcpmfbaa
open Go.RowKit

theorem ownR_empty (w : World) (B : Nat) (hB : B ≤ w.heap.size) : OwnR (w.alloc (.cells #[] 44)) B (.slice (some ⟨w.heap.size, 0, none⟩) 0 0) [] := World.ownsRow_lit w #[] 0 hB (by unfold maxLen; omega) rfl
theorem RwAt.below {w w' : World} {b o : Nat} {x : Rw} (h : RwAt w b o x) (hb : Below w.heap.size w w') (hlt : b < w.heap.size) : RwAt w' b o x := by
  obtain ⟨c0, c1, c2, c3, c4⟩ := h
  exact ⟨(hb.cell (p := ⟨b, _, none⟩) hlt).trans c0, (hb.cell (p := ⟨b, _, none⟩) hlt).trans c1, (hb.cell (p := ⟨b, _, none⟩) hlt).trans c2, (hb.cell (p := ⟨b, _, none⟩) hlt).trans c3, (hb.cell (p := ⟨b, _, none⟩) hlt).trans c4⟩
theorem Rws.below {w w' : World} {a : Option Addr} {n cap : Nat} {l : List Rw} (h : Rws w a n cap l) (hb : Below w.heap.size w w') : Rws w' a n cap l := by
  obtain ⟨h1, h2, h3, h4⟩ := h
  refine ⟨h1, h2, h3, ?_⟩
  rcases h4 with h4 | ⟨b, off, h5, h6, h7⟩
  · exact .inl h4
  · refine .inr ⟨b, off, h5, Nat.lt_of_lt_of_le h6 hb.size, fun k hk => ?_⟩
    obtain ⟨c0, c1, c2, c3, c4⟩ := h7 k hk
    exact ⟨(hb.cell (p := ⟨b, _, none⟩) h6).trans c0, (hb.cell (p := ⟨b, _, none⟩) h6).trans c1, (hb.cell (p := ⟨b, _, none⟩) h6).trans c2, (hb.cell (p := ⟨b, _, none⟩) h6).trans c3, (hb.cell (p := ⟨b, _, none⟩) h6).trans c4⟩

set_option maxRecDepth 100000 in
set_option maxHeartbeats 8000000 in
theorem l2Sort_any (a : Option Addr) (n cap : Nat) (rs : List Rw) (w : World) (h : Rws w a n cap rs) (hn : n ≤ 1000) :
    Calls Try.prog 30 #[.slice a n cap] w fun z w' => (∃ a' c', z = .returned (.slice a' n c') ∧ OwnR w' w.heap.size (.slice a' n c') (sortR rs)) ∧ Below w.heap.size w w' := by
  obtain ⟨i0, hi, hz0, hz1, hz2⟩ := info_parts Try.info44
  have H : Hid (Rws w a n cap rs) := h
  have HN : Hid (n = rs.length) := h.1
  have hcn := h.2.1
  have hcm := h.2.2.1
  unfold maxLen at hcm
  clear h
  go_enter Try.func30, Try.ntmps30
  go_wp2_with fail
  go_loopw [3, 4] (fun ov iv wr => ∃ (i : Nat) (ao : Option Addr) (co : Nat), i ≤ n ∧ iv = .int .i64 i ∧ ov = .slice ao i co ∧ OwnR wr w.heap.size (.slice ao i co) (sortR (rs.take i)) ∧ Below w.heap.size w wr) (fun _ iv _ => n - (intOf iv).toNat)
  case atStart => exact ⟨0, _, _, Nat.zero_le _, rfl, rfl, ownR_empty w _ (Nat.le_refl _), (Below.refl _ _).alloc (Nat.le_refl _) _⟩
  case round =>
    obtain ⟨i, ao, co, hin, rfl, rfl, ho, hb⟩ := hrel
    have HO : Hid (OwnR wr w.heap.size (.slice ao i co) (sortR (rs.take i))) := ho
    have HB : Hid (Below w.heap.size w wr) := hb
    have sz := hb.size
    have hco := ho.rws.2.1
    have hcom := ho.rws.2.2.1
    unfold maxLen at hcom
    clear ho hb
    by_cases hlt : i < n
    · obtain ⟨wi, rfl⟩ : ∃ wi, wi = wr := ⟨wr, rfl⟩
      have hir : i < rs.length := by rw [← HN.out]; exact hlt
      obtain ⟨⟨xr, xc, xd, xg, xa, xn, xq⟩, hx⟩ : ∃ x, x = rs.getD i rw0 := ⟨_, rfl⟩
      have HX : Hid ((xr, xc, xd, xg, xa, xn, xq) = rs.getD i rw0) := hx
      rcases H.out.2.2.2 with e | ⟨b, off, rfl, hbw, hcl⟩
      · rw [e] at hir
        exact absurd hir (by simp)
      have hxa : RwAt w b (off + i * 5) (xr, xc, xd, xg, xa, xn, xq) := by rw [hx]; exact hcl i hir
      have HXA : Hid (RwAt wi b (off + i * 5) (xr, xc, xd, xg, xa, xn, xq)) := hxa.below HB.out hbw
      have hbwi : b < wi.heap.size := by omega
      have HSL : Hid ((sortR (rs.take i)).length = i) := by
        show (sortR (rs.take i)).length = i
        rw [sortR_len, List.length_take]
        omega
      clear hx hcl hxa
      go_wp2_with fail
      go_loopw [5, 6, 7] (fun nv dv kv wr => ∃ (k m : Nat) (done : Bool) (next : List Rw) (an : Option Addr) (cn : Nat), k ≤ i ∧ kv = .int .i64 k ∧ dv = .bool done ∧ nv = .slice an m cn ∧ InsP (xr, xc, xd, xg, xa, xn, xq) (sortR (rs.take i)) k done next ∧ OwnR wr wi.heap.size (.slice an m cn) next ∧ Below wi.heap.size wi wr) (fun _ _ kv _ => i - (intOf kv).toNat)
      case atStart => exact ⟨0, 0, false, [], _, _, Nat.zero_le _, rfl, rfl, rfl, .inl ⟨rfl, by simp, by simp⟩, ownR_empty wi _ (Nat.le_refl _), (Below.refl _ _).alloc (Nat.le_refl _) _⟩
      case round =>
        obtain ⟨k, m, done, next, an, cn, hki', rfl, rfl, rfl, hI, hNx, hq⟩ := hrel
        have HI : Hid (InsP (xr, xc, xd, xg, xa, xn, xq) (sortR (rs.take i)) k done next) := hI
        have HNx : Hid (OwnR wr wi.heap.size (.slice an m cn) next) := hNx
        have HQ : Hid (Below wi.heap.size wi wr) := hq
        have hml := hI.len (by rw [HSL.out]; exact hki')
        have hm2 : m = next.length := hNx.len
        have hmi : m ≤ 1001 := by
          have : done.toNat ≤ 1 := by cases done <;> decide
          omega
        have hcn1 := hNx.rws.2.1
        have hcn2 := hNx.rws.2.2.1
        unfold maxLen at hcn2
        have sq := hq.size
        obtain ⟨x0, x1, x2, x3, x4⟩ := HXA.out.below hq hbwi
        simp only at x0 x1 x2 x3 x4
        clear hI hNx hq hml hm2
        by_cases hki : k < i
        · have hks : k < (sortR (rs.take i)).length := by rw [HSL.out]; exact hki
          obtain ⟨⟨yr, yc, yd, yg, ya, yn, yq⟩, hy⟩ : ∃ y, y = (sortR (rs.take i)).getD k rw0 := ⟨_, rfl⟩
          have HY : Hid ((yr, yc, yd, yg, ya, yn, yq) = (sortR (rs.take i)).getD k rw0) := hy
          rcases HO.out.rws.2.2.2 with e | ⟨bo, oo, rfl, hbo, hol⟩
          · rw [e] at hks
            exact absurd hks (by simp)
          have HYA : Hid (RwAt wi bo (oo + k * 5) (yr, yc, yd, yg, ya, yn, yq)) := by
            show RwAt wi bo (oo + k * 5) (yr, yc, yd, yg, ya, yn, yq)
            rw [hy]
            exact hol k hks
          obtain ⟨y0, y1, y2, y3, y4⟩ := HYA.out.below HQ.out hbo
          simp only at y0 y1 y2 y3 y4
          clear hy hol
          cases done
          · rcases (show (xr < yr) ∨ (yr < xr) ∨ (yr = xr ∧ xc < yc) ∨ (yr = xr ∧ yc ≤ xc) from by omega) with m0 | m0 | ⟨m0, m1⟩ | ⟨m0, m1⟩
            · go_wp2_with fail
              go_quiet (fail)
              have HO0 : Hid (OwnR (wr.drewN nq) wi.heap.size (.slice an m cn) next) := own_below HNx.out (below_drewN (Below.refl wr.heap.size wr) nq)
              go_wp2_with (first | (at_builtin; refine wpList_append_own _ rfl (.tmp 63) (.tmp 68) 26 rfl wi.heap.size 44 i0 _ 5 56 Try.underlying26 hi hz0 hz1 hz2 rfl (by decide) _ _ _ rfl (HO0.out.row.alloc _) ⟨_, 0, none⟩ 1 1 [.int .i64 xr, .int .i64 xc, .int .i64 xd, .int .i64 xg, .slice xa xn xq] rfl rfl (cell_five_new _ _ _ _ _ _ _) (five_oneCell _ _ _ _ _ _ _) (by unfold maxLen; omega) (by omega) (by first | omega | (simp; omega)) ?_; intro v' w5 hown' hgrow _; obtain ⟨aw5, cw5, rfl, how5, hbw5⟩ := ownR_step (B := wi.heap.size) (w := wi) (s := (xr, xc, xd, xg, xa, xn, xq)) HO0.out (below_drewN HQ.out nq) (by first | omega | (simp; omega)) hown' hgrow; have HO1 : Hid (OwnR w5 wi.heap.size (.slice aw5 (m + 1) cw5) (next ++ [(xr, xc, xd, xg, xa, xn, xq)])) := how5; have sw5 := hbw5.size; obtain ⟨o0, o1, o2, o3, o4⟩ := HYA.out.below hbw5 hbo; clear how5 hown' hgrow) | (at_builtin; refine wpList_append_own _ rfl (.tmp 70) (.tmp 75) 26 rfl wi.heap.size 44 i0 _ 5 56 Try.underlying26 hi hz0 hz1 hz2 rfl (by decide) _ _ _ rfl (HO1.out.row.alloc _) ⟨_, 0, none⟩ 1 1 [.int .i64 yr, .int .i64 yc, .int .i64 yd, .int .i64 yg, .slice ya yn yq] rfl rfl (cell_five_new _ _ _ _ _ _ _) (five_oneCell _ _ _ _ _ _ _) (by unfold maxLen; omega) (by omega) (by first | omega | (simp; omega)) ?_; intro v' w6 hown' hgrow _; obtain ⟨aw6, cw6, rfl, how6, hbw6⟩ := ownR_step (B := wi.heap.size) (w := wi) (s := (yr, yc, yd, yg, ya, yn, yq)) HO1.out hbw5 (by first | omega | (simp; omega)) hown' hgrow))
              go_roundw
              case rel => exact ⟨k + 1, m + 1 + 1, true, _, aw6, cw6, by omega, by go_num, rfl, rfl, by rw [HY.out]; exact HI.out.put (by rw [HSL.out]; exact hki) (by rw [← HY.out]; exact decide_eq_true (by simp only; omega)), how6, hbw6⟩
              case measure => simp [intOf]; omega
            · have n1 : decide (xr < yr) = false := by simp; omega
              have n2 : (yr == xr) = false := by simp; omega
              go_wp2_with fail
              go_quiet (fail)
              have HO0 : Hid (OwnR (wr.drewN nq) wi.heap.size (.slice an m cn) next) := own_below HNx.out (below_drewN (Below.refl wr.heap.size wr) nq)
              go_wp2_with (at_builtin; refine wpList_append_own _ rfl (.tmp 70) (.tmp 75) 26 rfl wi.heap.size 44 i0 _ 5 56 Try.underlying26 hi hz0 hz1 hz2 rfl (by decide) _ _ _ rfl (HO0.out.row.alloc _) ⟨_, 0, none⟩ 1 1 [.int .i64 yr, .int .i64 yc, .int .i64 yd, .int .i64 yg, .slice ya yn yq] rfl rfl (cell_five_new _ _ _ _ _ _ _) (five_oneCell _ _ _ _ _ _ _) (by unfold maxLen; omega) (by omega) (by first | omega | (simp; omega)) ?_; intro v' w5 hown' hgrow _; obtain ⟨aw5, cw5, rfl, how5, hbw5⟩ := ownR_step (B := wi.heap.size) (w := wi) (s := (yr, yc, yd, yg, ya, yn, yq)) HO0.out (below_drewN HQ.out nq) (by first | omega | (simp; omega)) hown' hgrow)
              go_roundw
              case rel => exact ⟨k + 1, m + 1, false, _, aw5, cw5, by omega, by go_num, rfl, rfl, by rw [HY.out]; exact HI.out.skip hks (by rw [← HY.out]; exact decide_eq_false (by simp only; omega)), how5, hbw5⟩
              case measure => simp [intOf]; omega
            · subst m0
              have n1 : decide (yr < yr) = false := by simp
              go_wp2_with fail
              go_quiet (fail)
              have HO0 : Hid (OwnR (wr.drewN nq) wi.heap.size (.slice an m cn) next) := own_below HNx.out (below_drewN (Below.refl wr.heap.size wr) nq)
              go_wp2_with (first | (at_builtin; refine wpList_append_own _ rfl (.tmp 63) (.tmp 68) 26 rfl wi.heap.size 44 i0 _ 5 56 Try.underlying26 hi hz0 hz1 hz2 rfl (by decide) _ _ _ rfl (HO0.out.row.alloc _) ⟨_, 0, none⟩ 1 1 [.int .i64 yr, .int .i64 xc, .int .i64 xd, .int .i64 xg, .slice xa xn xq] rfl rfl (cell_five_new _ _ _ _ _ _ _) (five_oneCell _ _ _ _ _ _ _) (by unfold maxLen; omega) (by omega) (by first | omega | (simp; omega)) ?_; intro v' w5 hown' hgrow _; obtain ⟨aw5, cw5, rfl, how5, hbw5⟩ := ownR_step (B := wi.heap.size) (w := wi) (s := (yr, xc, xd, xg, xa, xn, xq)) HO0.out (below_drewN HQ.out nq) (by first | omega | (simp; omega)) hown' hgrow; have HO1 : Hid (OwnR w5 wi.heap.size (.slice aw5 (m + 1) cw5) (next ++ [(yr, xc, xd, xg, xa, xn, xq)])) := how5; have sw5 := hbw5.size; obtain ⟨o0, o1, o2, o3, o4⟩ := HYA.out.below hbw5 hbo; clear how5 hown' hgrow) | (at_builtin; refine wpList_append_own _ rfl (.tmp 70) (.tmp 75) 26 rfl wi.heap.size 44 i0 _ 5 56 Try.underlying26 hi hz0 hz1 hz2 rfl (by decide) _ _ _ rfl (HO1.out.row.alloc _) ⟨_, 0, none⟩ 1 1 [.int .i64 yr, .int .i64 yc, .int .i64 yd, .int .i64 yg, .slice ya yn yq] rfl rfl (cell_five_new _ _ _ _ _ _ _) (five_oneCell _ _ _ _ _ _ _) (by unfold maxLen; omega) (by omega) (by first | omega | (simp; omega)) ?_; intro v' w6 hown' hgrow _; obtain ⟨aw6, cw6, rfl, how6, hbw6⟩ := ownR_step (B := wi.heap.size) (w := wi) (s := (yr, yc, yd, yg, ya, yn, yq)) HO1.out hbw5 (by first | omega | (simp; omega)) hown' hgrow))
              go_roundw
              case rel => exact ⟨k + 1, m + 1 + 1, true, _, aw6, cw6, by omega, by go_num, rfl, rfl, by rw [HY.out]; exact HI.out.put (by rw [HSL.out]; exact hki) (by rw [← HY.out]; exact decide_eq_true (Or.inr ⟨rfl, m1⟩)), how6, hbw6⟩
              case measure => simp [intOf]; omega
            · subst m0
              have n1 : decide (yr < yr) = false := by simp
              have n3 : decide (xc < yc) = false := by simp; omega
              go_wp2_with fail
              go_quiet (fail)
              have HO0 : Hid (OwnR (wr.drewN nq) wi.heap.size (.slice an m cn) next) := own_below HNx.out (below_drewN (Below.refl wr.heap.size wr) nq)
              go_wp2_with (at_builtin; refine wpList_append_own _ rfl (.tmp 70) (.tmp 75) 26 rfl wi.heap.size 44 i0 _ 5 56 Try.underlying26 hi hz0 hz1 hz2 rfl (by decide) _ _ _ rfl (HO0.out.row.alloc _) ⟨_, 0, none⟩ 1 1 [.int .i64 yr, .int .i64 yc, .int .i64 yd, .int .i64 yg, .slice ya yn yq] rfl rfl (cell_five_new _ _ _ _ _ _ _) (five_oneCell _ _ _ _ _ _ _) (by unfold maxLen; omega) (by omega) (by first | omega | (simp; omega)) ?_; intro v' w5 hown' hgrow _; obtain ⟨aw5, cw5, rfl, how5, hbw5⟩ := ownR_step (B := wi.heap.size) (w := wi) (s := (yr, yc, yd, yg, ya, yn, yq)) HO0.out (below_drewN HQ.out nq) (by first | omega | (simp; omega)) hown' hgrow)
              go_roundw
              case rel => exact ⟨k + 1, m + 1, false, _, aw5, cw5, by omega, by go_num, rfl, rfl, by rw [HY.out]; exact HI.out.skip hks (by rw [← HY.out]; exact decide_eq_false (by simp only; omega)), how5, hbw5⟩
              case measure => simp [intOf]; omega
          · go_wp2_with fail
            go_quiet (fail)
            have HO0 : Hid (OwnR (wr.drewN nq) wi.heap.size (.slice an m cn) next) := own_below HNx.out (below_drewN (Below.refl wr.heap.size wr) nq)
            go_wp2_with (at_builtin; refine wpList_append_own _ rfl (.tmp 70) (.tmp 75) 26 rfl wi.heap.size 44 i0 _ 5 56 Try.underlying26 hi hz0 hz1 hz2 rfl (by decide) _ _ _ rfl (HO0.out.row.alloc _) ⟨_, 0, none⟩ 1 1 [.int .i64 yr, .int .i64 yc, .int .i64 yd, .int .i64 yg, .slice ya yn yq] rfl rfl (cell_five_new _ _ _ _ _ _ _) (five_oneCell _ _ _ _ _ _ _) (by unfold maxLen; omega) (by omega) (by first | omega | (simp; omega)) ?_; intro v' w5 hown' hgrow _; obtain ⟨aw5, cw5, rfl, how5, hbw5⟩ := ownR_step (B := wi.heap.size) (w := wi) (s := (yr, yc, yd, yg, ya, yn, yq)) HO0.out (below_drewN HQ.out nq) (by first | omega | (simp; omega)) hown' hgrow)
            go_roundw
            case rel => exact ⟨k + 1, m + 1, true, _, aw5, cw5, by omega, by go_num, rfl, rfl, by rw [HY.out]; exact HI.out.on hks, how5, hbw5⟩
            case measure => simp [intOf]; omega
        · have e : k = i := by omega
          subst e
          have HIF : Hid (InsP (xr, xc, xd, xg, xa, xn, xq) (sortR (rs.take k)) (sortR (rs.take k)).length done next) := by
            show InsP (xr, xc, xd, xg, xa, xn, xq) (sortR (rs.take k)) (sortR (rs.take k)).length done next
            rw [HSL.out]
            exact HI.out
          have HST : Hid (sortR (rs.take (k + 1)) = insR (xr, xc, xd, xg, xa, xn, xq) (sortR (rs.take k))) := by
            show sortR (rs.take (k + 1)) = _
            rw [sortR_take rs k hir, HX.out]
          cases done
          · go_wp2_with (at_builtin; refine wpList_append_own _ rfl (.tmp 79) (.tmp 84) 26 rfl wi.heap.size 44 i0 _ 5 56 Try.underlying26 hi hz0 hz1 hz2 rfl (by decide) _ _ _ rfl (HNx.out.row.alloc _) ⟨_, 0, none⟩ 1 1 [.int .i64 xr, .int .i64 xc, .int .i64 xd, .int .i64 xg, .slice xa xn xq] rfl rfl (cell_five_new _ _ _ _ _ _ _) (five_oneCell _ _ _ _ _ _ _) (by unfold maxLen; omega) (by omega) (by first | omega | (simp; omega)) ?_; intro v' w5 hown' hgrow _; obtain ⟨a5, c5, rfl, ho5, hb5⟩ := ownR_step (B := wi.heap.size) (w := wi) (s := (xr, xc, xd, xg, xa, xn, xq)) HNx.out HQ.out (by first | omega | (simp; omega)) hown' hgrow)
            go_roundw
            case rel =>
              have e1 := HIF.out.fin0
              rw [e1, ← HST.out] at ho5
              have e2 := ho5.len
              rw [sortR_len, List.length_take] at e2
              have e3 : m + 1 = k + 1 := by omega
              rw [e3] at ho5 ⊢
              exact ⟨k + 1, a5, c5, by omega, by go_num, rfl, own_less ho5 (by omega), HB.out.trans (hb5.mono (by omega))⟩
            case measure => simp [intOf]; omega
          · go_wp2_with fail
            go_roundw
            case rel =>
              have e1 := HIF.out.fin
              have ho5 := HNx.out
              rw [e1, ← HST.out] at ho5
              have e2 := ho5.len
              rw [sortR_len, List.length_take] at e2
              have e3 : m = k + 1 := by omega
              subst e3
              exact ⟨k + 1, an, cn, by omega, by go_num, rfl, own_less ho5 (by omega), HB.out.trans (HQ.out.mono (by omega))⟩
            case measure => simp [intOf]; omega
    · have e : i = n := by omega
      subst e
      go_wp2_with fail
      go_ret
      have ho := HO.out
      rw [List.take_of_length_le (by rw [HN.out]; exact Nat.le_refl _)] at ho
      exact ⟨⟨ao, co, rfl, ho⟩, HB.out⟩
end Go.Proofs.Yteghidjbcpmfbaa
