import Derived.Test.YteghidjbcpmfbaaGridOf
import Derived.Test.YteghidjbcpmfbaaApp
import Derived.Test.YteghidjbcpmfbaaNewP
namespace Go.Proofs.Yteghidjbcpmfbaa
open Go.RowKit

theorem cell_info : (Try.prog.info? 44).map (·.size) = some 5 := by kernel_rfl
/-- How far a cell goes: as long as the numbers are the same. -/
def Dn (R : Nat) (f : Nat → Nat) (a b d : Nat) : Prop := (∀ i, i < d → a + i < R ∧ f ((a + i) * 5 + b) = f (a * 5 + b)) ∧ ¬ (a + d < R ∧ f ((a + d) * 5 + b) = f (a * 5 + b))
def Rt (C : Nat) (f : Nat → Nat) (a b h : Nat) : Prop := (∀ j, j < h → b + j < C ∧ f (a * 5 + (b + j)) = f (a * 5 + b)) ∧ ¬ (b + h < C ∧ f (a * 5 + (b + h)) = f (a * 5 + b))

set_option maxRecDepth 100000 in
set_option maxHeartbeats 4000000 in
theorem cell_any (R C n : Nat) (f : Nat → Nat) (t : Nat → Sl) (a b : Nat) (tx : List Sg) (w : World) (hR : R ≤ 5) (hC : C ≤ 5) (ha : a < R) (hb : b < C) (hf : ∀ k, f k ≤ 25)
    (ht : Txt w (t (f (a * 5 + b))).1 (t (f (a * 5 + b))).2.1 (t (f (a * 5 + b))).2.2 tx) (hl : tx.length ≤ 1048576) :
    Calls Try.prog 60 #[.agg (gridA R C n f t), .int .i64 a, .int .i64 b] w fun z w' => (∃ d h p m c, z = .returned (.agg #[.int .i64 a, .int .i64 b, .int .i64 (d : Nat), .int .i64 (h : Nat), .slice p m c]) ∧ Dn R f a b d ∧ Rt C f a b h ∧ Own w' w.heap.size (.slice p m c) tx) ∧ Below w.heap.size w w' := by
  obtain ⟨i0, hi, hz0, hz1, hz2⟩ := info_parts Try.info89
  have HT : Hid (Txt w (t (f (a * 5 + b))).1 (t (f (a * 5 + b))).2.1 (t (f (a * 5 + b))).2.2 tx) := ht
  clear ht
  go_enter Try.func60, Try.ntmps60
  go_upto_region 1 with fail
  have B0 : Below w.heap.size w ((w.alloc (.cells (gridA R C n f t) 51)).alloc (.cells #[.int .i64 0, .int .i64 0, .int .i64 0, .int .i64 0, .slice none 0 0] 44)) := ((Below.refl _ _).alloc (Nat.le_refl _) _).alloc (by simp) _
  have G0 : GridAt ((w.alloc (.cells (gridA R C n f t) 51)).alloc (.cells #[.int .i64 0, .int .i64 0, .int .i64 0, .int .i64 0, .slice none 0 0] 44)) w.heap.size R C n f t := (gridAt_new w R C n f t).alloc _
  have G1 : RowAt ((w.alloc (.cells (gridA R C n f t) 51)).alloc (.cells #[.int .i64 0, .int .i64 0, .int .i64 0, .int .i64 0, .slice none 0 0] 44)) (w.heap.size + 1) #[.int .i64 0, .int .i64 0, .int .i64 0, .int .i64 0, .slice none 0 0] 44 := by
    have := rowAt_new (w.alloc (.cells (gridA R C n f t) 51)) #[.int .i64 0, .int .i64 0, .int .i64 0, .int .i64 0, .slice none 0 0] 44
    simpa using this
  generalize ((w.alloc (.cells (gridA R C n f t) 51)).alloc (.cells #[.int .i64 0, .int .i64 0, .int .i64 0, .int .i64 0, .slice none 0 0] 44)) = v0 at B0 G0 G1 ⊢
  have hm := hf (a * 5 + b)
  obtain ⟨m, HM⟩ : ∃ m, Hid (f (a * 5 + b) = m) := ⟨_, rfl⟩
  have k0 := G0.num (a * 5 + b) (by omega)
  rw [← Nat.add_assoc, HM.out] at k0
  rw [HM.out] at hm HT
  have k1 := G0.txt m (by omega)
  obtain ⟨⟨ta, tn, tc⟩, hts⟩ : ∃ s, t m = s := ⟨_, rfl⟩
  rw [hts] at k1 HT
  simp only [slV] at k1
  simp only at HT
  clear hts
  have b0 : (a : Int) < 5 := by omega
  have b1 : (b : Int) < 5 := by omega
  have b2 : (m : Int) < 26 := by omega
  go_upto_region 2 with fail
  have HTN : Hid (tn = tx.length) := HT.out.1
  have htl : tn ≤ 1048576 := by rw [HTN.out]; exact hl
  go_upto_region 3 with (at_builtin; refine wpList_append_txt rfl (.const (.slice none 0 0)) (.tmp 20) rfl v0.heap.size (.slice none 0 0) 0 [] rfl (World.ownsRow_nil _ _ _ _) ta tn tc tx rfl (HT.out.below B0) (by omega) (Nat.le_refl _) ?_; intro v' w1 hown hgrow; obtain ⟨p, q, rfl, -⟩ := Own.shape (show Own w1 v0.heap.size v' tx by (rw [Nat.zero_add, List.nil_append, HTN.out] at hown; exact hown)))
  have hO : Own w1 v0.heap.size (.slice p tx.length q) tx := by
    rw [Nat.zero_add, List.nil_append, HTN.out] at hown
    exact hown
  have hb1 : Below v0.heap.size v0 w1 := (Below.refl _ _).grown hgrow (Nat.le_refl _) (fun k hk => by simp [Value.ownBlock] at hk)
  clear hown hgrow
  have s1 := hb1.size
  have N0 : RowAt (w1.alloc (.cells #[.int .i64 a, .int .i64 b, .int .i64 0, .int .i64 0, .slice p tx.length q] 44)) w1.heap.size #[.int .i64 a, .int .i64 b, .int .i64 0, .int .i64 0, .slice p tx.length q] 44 := rowAt_new _ _ _
  have N1 : Below v0.heap.size v0 (w1.alloc (.cells #[.int .i64 a, .int .i64 b, .int .i64 0, .int .i64 0, .slice p tx.length q] 44)) := hb1.alloc s1 _
  have N2 : Own (w1.alloc (.cells #[.int .i64 a, .int .i64 b, .int .i64 0, .int .i64 0, .slice p tx.length q] 44)) v0.heap.size (.slice p tx.length q) tx := hO.alloc _
  generalize (w1.alloc (.cells #[.int .i64 a, .int .i64 b, .int .i64 0, .int .i64 0, .slice p tx.length q] 44)) = v2 at N0 N1 N2 ⊢
  have ob : ∀ g, (Value.slice p tx.length q).ownBlock = some g → g < w1.heap.size := fun g hg => (own_lt hO.row hg).2
  have HOB : Hid (∀ g, (Value.slice p tx.length q).ownBlock = some g → g < w1.heap.size) := ob
  clear hO ob k0 k1 hb1
  have z0 := G0.lt
  have z1 := G1.lt
  go_wp2_with fail
  go_loopw [23] (fun _ wr => ∃ d : Nat, d ≤ R - a ∧ (∀ i, i < d → a + i < R ∧ f ((a + i) * 5 + b) = m) ∧ RowAt wr w1.heap.size #[.int .i64 a, .int .i64 b, .int .i64 d, .int .i64 0, .slice p tx.length q] 44 ∧ Below v0.heap.size v0 wr ∧ Own wr v0.heap.size (.slice p tx.length q) tx) (fun _ wr => R - a - (match wr.cell? ⟨w1.heap.size, 2, none⟩ with | some v => (intOf v).toNat | none => 0))
  case atStart => exact ⟨0, Nat.zero_le _, fun i hi => by omega, N0, N1, N2⟩
  case round =>
    clear N0 N1 N2
    obtain ⟨d, hd, hall, hr, hbl, hO⟩ := hrel
    have HA : Hid (∀ i, i < d → a + i < R ∧ f ((a + i) * 5 + b) = m) := hall
    have HR : Hid (RowAt wr w1.heap.size #[.int .i64 a, .int .i64 b, .int .i64 d, .int .i64 0, .slice p tx.length q] 44) := hr
    have HB : Hid (Below v0.heap.size v0 wr) := hbl
    have HO : Hid (Own wr v0.heap.size (.slice p tx.length q) tx) := hO
    have e2 : wr.cell? ⟨w1.heap.size, 2, none⟩ = some (.int .i64 d) := hr.cell 2
    have e2f := hr.frozen 2
    have gg := G0.below hbl z0
    have g0 := gg.rows
    have g1 := gg.cols
    clear hall hr hbl hO
    by_cases h1 : a + d < R
    · have k0 := gg.num ((a + d) * 5 + b) (by omega)
      obtain ⟨x, hx⟩ : ∃ x, f ((a + d) * 5 + b) = x := ⟨_, rfl⟩
      have HXX : Hid (f ((a + d) * 5 + b) = x) := hx
      rw [← Nat.add_assoc, hx] at k0
      have hx25 := hf ((a + d) * 5 + b)
      rw [hx] at hx25
      have c0 : (a : Int) + d < R := by omega
      have c1 : (a : Int) + d < 5 := by omega
      clear gg hx
      by_cases h2 : x = m
      · have h2' : ((x : Int) == (m : Int)) = true := by simp [h2]
        have H2 : Hid (x = m) := h2
        clear h2
        go_wp2_with fail
        go_roundw
        case rel =>
          refine ⟨d + 1, by omega, ?_, ?_, HB.out.setCell (by show _ ≤ w1.heap.size; omega) _, own_set HO.out _ _ (fun e => by have := HOB.out _ e; simp at this)⟩
          · intro i hi
            by_cases hid : i = d
            · subst hid
              exact ⟨h1, HXX.out.trans H2.out⟩
            · exact HA.out i (by omega)
          · exact HR.out.setCell 2 (.int .i64 ((d : Int) + 1))
        case measure =>
          rw [show (wr.setCell ⟨w1.heap.size, 2, none⟩ (.int .i64 ((d : Int) + 1))).cell? ⟨w1.heap.size, 2, none⟩ = some (.int .i64 ((d : Int) + 1)) from (HR.out.setCell 2 (.int .i64 ((d : Int) + 1))).cell 2, e2]
          simp only [intOf]
          omega
      · have h2' : ((x : Int) == (m : Int)) = false := by simp; omega
        have H2 : Hid (¬ x = m) := h2
        clear h2
        go_wp2_with fail
        have HDn : Hid (Dn R f a b d) := ⟨fun i hi => ⟨(HA.out i hi).1, (HA.out i hi).2.trans HM.out.symm⟩, fun hh => H2.out (HXX.out.symm.trans (hh.2.trans HM.out))⟩
        have gg2 : Hid (GridAt wr w.heap.size R C n f t) := G0.below HB.out z0
        have lr : w1.heap.size < wr.heap.size := HR.out.lt
        clear e2 e2f g0 g1 k0 h2' c0 c1 h1
        go_loopw [47] (fun _ wr => ∃ h : Nat, h ≤ C - b ∧ (∀ j, j < h → b + j < C ∧ f (a * 5 + (b + j)) = m) ∧ RowAt wr w1.heap.size #[.int .i64 a, .int .i64 b, .int .i64 d, .int .i64 h, .slice p tx.length q] 44 ∧ Below v0.heap.size v0 wr ∧ Own wr v0.heap.size (.slice p tx.length q) tx) (fun _ wr => C - b - (match wr.cell? ⟨w1.heap.size, 3, none⟩ with | some v => (intOf v).toNat | none => 0))
        case atStart => exact ⟨0, Nat.zero_le _, fun j hj => by omega, HR.out, HB.out, HO.out⟩
        case round =>
          clear HR HB HO HA gg2
          obtain ⟨h, hh, hall, hr, hbl, hO⟩ := hrel
          have HA : Hid (∀ j, j < h → b + j < C ∧ f (a * 5 + (b + j)) = m) := hall
          have HR : Hid (RowAt wr w1.heap.size #[.int .i64 a, .int .i64 b, .int .i64 d, .int .i64 h, .slice p tx.length q] 44) := hr
          have HB : Hid (Below v0.heap.size v0 wr) := hbl
          have HO : Hid (Own wr v0.heap.size (.slice p tx.length q) tx) := hO
          have e3 : wr.cell? ⟨w1.heap.size, 3, none⟩ = some (.int .i64 h) := hr.cell 3
          have e3f := hr.frozen 3
          have gg := G0.below hbl z0
          have g1 := gg.cols
          have HG1 : Hid (RowAt wr (w.heap.size + 1) #[.int .i64 0, .int .i64 0, .int .i64 0, .int .i64 0, .slice none 0 0] 44) := G1.below hbl z1
          clear hall hr hbl hO
          by_cases h1 : b + h < C
          · have k0 := gg.num (a * 5 + (b + h)) (by omega)
            obtain ⟨y, hy⟩ : ∃ y, f (a * 5 + (b + h)) = y := ⟨_, rfl⟩
            have HY : Hid (f (a * 5 + (b + h)) = y) := hy
            rw [← Nat.add_assoc, hy] at k0
            have hy25 := hf (a * 5 + (b + h))
            rw [hy] at hy25
            have c0 : (b : Int) + h < C := by omega
            have c1 : (b : Int) + h < 5 := by omega
            clear gg hy
            by_cases h2 : y = m
            · have h2' : ((y : Int) == (m : Int)) = true := by simp [h2]
              have H2 : Hid (y = m) := h2
              clear h2
              go_wp2_with fail
              go_quiet (fail)
              go_wp2_with fail
              go_roundw
              case rel =>
                refine ⟨h + 1, by omega, ?_, HR.out.setCell 3 (.int .i64 ((h : Int) + 1)), (below_drewN HB.out _).setCell (by show _ ≤ w1.heap.size; omega) _, own_set (own_below HO.out (below_drewN (Below.refl _ _) _)) _ _ (fun e => by have := HOB.out _ e; simp at this)⟩
                intro i hi
                by_cases hid : i = h
                · subst hid
                  exact ⟨h1, HY.out.trans H2.out⟩
                · exact HA.out i (by omega)
              case measure =>
                rw [show ((wr.drewN nq).setCell ⟨w1.heap.size, 3, none⟩ (.int .i64 ((h : Int) + 1))).cell? ⟨w1.heap.size, 3, none⟩ = some (.int .i64 ((h : Int) + 1)) from ((HR.out.below (below_drewN (Below.refl wr.heap.size wr) nq) HR.out.lt).setCell 3 (.int .i64 ((h : Int) + 1))).cell 3, e3]
                simp only [intOf]
                omega
            · have h2' : ((y : Int) == (m : Int)) = false := by simp; omega
              have H2 : Hid (¬ y = m) := h2
              clear h2
              have d0 : wr.cell? ⟨w1.heap.size, 0, none⟩ = some (.int .i64 a) := HR.out.cell 0
              have d1 : wr.cell? ⟨w1.heap.size, 1, none⟩ = some (.int .i64 b) := HR.out.cell 1
              have d2 : wr.cell? ⟨w1.heap.size, 2, none⟩ = some (.int .i64 d) := HR.out.cell 2
              have d4 : wr.cell? ⟨w1.heap.size, 4, none⟩ = some (.slice p tx.length q) := HR.out.cell 4
              have HRt : Hid (Rt C f a b h) := ⟨fun j hj => ⟨(HA.out j hj).1, (HA.out j hj).2.trans HM.out.symm⟩, fun hh => H2.out (HY.out.symm.trans (hh.2.trans HM.out))⟩
              have lz := HG1.out.lt
              go_wp2_with fail
              go_quiet (fail)
              go_wp2_with (refine wpList_store_row rfl 44 (.tmp 6) (.tmp 71) rfl (w.heap.size + 1) #[.int .i64 a, .int .i64 b, .int .i64 d, .int .i64 h, .slice p tx.length q] rfl rfl 44 _ (HG1.out.below (below_drewN (Below.refl wr.heap.size wr) nq) lz) cell_info rfl (cells5_one _ _ _ _ _ _ _) ?_)
              refine bodyPost_ret (v := .agg #[.int .i64 a, .int .i64 b, .int .i64 d, .int .i64 h, .slice p tx.length q]) (results_cell_row (p := 6) (ty := 44) rfl _ _ (w.heap.size + 1) 44 _ _ _ rfl (RowAt.setRow (HG1.out.below (below_drewN (Below.refl wr.heap.size wr) nq) lz) _) Try.underlying44 rfl cell_info) rfl ⟨⟨d, h, p, tx.length, q, rfl, HDn.out, HRt.out, ?_⟩, below_row (below_drewN (B0.trans (HB.out.mono B0.size)) _) (by omega) _⟩
              exact own_less (own_row (own_below HO.out (below_drewN (Below.refl _ _) _)) _ _ (fun e => by have := (own_lt HO.out.row e).1; omega)) B0.size
          · have c0 : decide ((b : Int) + h < C) = false := by simp; omega
            have c0' : C ≤ b + h := by omega
            clear gg
            have d0 : wr.cell? ⟨w1.heap.size, 0, none⟩ = some (.int .i64 a) := HR.out.cell 0
            have d1 : wr.cell? ⟨w1.heap.size, 1, none⟩ = some (.int .i64 b) := HR.out.cell 1
            have d2 : wr.cell? ⟨w1.heap.size, 2, none⟩ = some (.int .i64 d) := HR.out.cell 2
            have d4 : wr.cell? ⟨w1.heap.size, 4, none⟩ = some (.slice p tx.length q) := HR.out.cell 4
            have HRt : Hid (Rt C f a b h) := ⟨fun j hj => ⟨(HA.out j hj).1, (HA.out j hj).2.trans HM.out.symm⟩, fun hh => h1 hh.1⟩
            have lz := HG1.out.lt
            go_wp2_with fail
            go_quiet (fail)
            go_wp2_with (refine wpList_store_row rfl 44 (.tmp 6) (.tmp 71) rfl (w.heap.size + 1) #[.int .i64 a, .int .i64 b, .int .i64 d, .int .i64 h, .slice p tx.length q] rfl rfl 44 _ (HG1.out.below (below_drewN (Below.refl wr.heap.size wr) nq) lz) cell_info rfl (cells5_one _ _ _ _ _ _ _) ?_)
            refine bodyPost_ret (v := .agg #[.int .i64 a, .int .i64 b, .int .i64 d, .int .i64 h, .slice p tx.length q]) (results_cell_row (p := 6) (ty := 44) rfl _ _ (w.heap.size + 1) 44 _ _ _ rfl (RowAt.setRow (HG1.out.below (below_drewN (Below.refl wr.heap.size wr) nq) lz) _) Try.underlying44 rfl cell_info) rfl ⟨⟨d, h, p, tx.length, q, rfl, HDn.out, HRt.out, ?_⟩, below_row (below_drewN (B0.trans (HB.out.mono B0.size)) _) (by omega) _⟩
            exact own_less (own_row (own_below HO.out (below_drewN (Below.refl _ _) _)) _ _ (fun e => by have := (own_lt HO.out.row e).1; omega)) B0.size
    · have c0 : ¬ (a : Int) + d < R := by omega
      clear gg
      go_wp2_with fail
      have HDn : Hid (Dn R f a b d) := ⟨fun i hi => ⟨(HA.out i hi).1, (HA.out i hi).2.trans HM.out.symm⟩, fun hh => h1 hh.1⟩
      have gg2 : Hid (GridAt wr w.heap.size R C n f t) := G0.below HB.out z0
      have lr : w1.heap.size < wr.heap.size := HR.out.lt
      clear e2 e2f g0 g1 c0 h1
      go_loopw [47] (fun _ wr => ∃ h : Nat, h ≤ C - b ∧ (∀ j, j < h → b + j < C ∧ f (a * 5 + (b + j)) = m) ∧ RowAt wr w1.heap.size #[.int .i64 a, .int .i64 b, .int .i64 d, .int .i64 h, .slice p tx.length q] 44 ∧ Below v0.heap.size v0 wr ∧ Own wr v0.heap.size (.slice p tx.length q) tx) (fun _ wr => C - b - (match wr.cell? ⟨w1.heap.size, 3, none⟩ with | some v => (intOf v).toNat | none => 0))
      case atStart => exact ⟨0, Nat.zero_le _, fun j hj => by omega, HR.out, HB.out, HO.out⟩
      case round =>
        clear HR HB HO HA gg2
        obtain ⟨h, hh, hall, hr, hbl, hO⟩ := hrel
        have HA : Hid (∀ j, j < h → b + j < C ∧ f (a * 5 + (b + j)) = m) := hall
        have HR : Hid (RowAt wr w1.heap.size #[.int .i64 a, .int .i64 b, .int .i64 d, .int .i64 h, .slice p tx.length q] 44) := hr
        have HB : Hid (Below v0.heap.size v0 wr) := hbl
        have HO : Hid (Own wr v0.heap.size (.slice p tx.length q) tx) := hO
        have e3 : wr.cell? ⟨w1.heap.size, 3, none⟩ = some (.int .i64 h) := hr.cell 3
        have e3f := hr.frozen 3
        have gg := G0.below hbl z0
        have g1 := gg.cols
        have HG1 : Hid (RowAt wr (w.heap.size + 1) #[.int .i64 0, .int .i64 0, .int .i64 0, .int .i64 0, .slice none 0 0] 44) := G1.below hbl z1
        clear hall hr hbl hO
        by_cases h1 : b + h < C
        · have k0 := gg.num (a * 5 + (b + h)) (by omega)
          obtain ⟨y, hy⟩ : ∃ y, f (a * 5 + (b + h)) = y := ⟨_, rfl⟩
          have HY : Hid (f (a * 5 + (b + h)) = y) := hy
          rw [← Nat.add_assoc, hy] at k0
          have hy25 := hf (a * 5 + (b + h))
          rw [hy] at hy25
          have c0 : (b : Int) + h < C := by omega
          have c1 : (b : Int) + h < 5 := by omega
          clear gg hy
          by_cases h2 : y = m
          · have h2' : ((y : Int) == (m : Int)) = true := by simp [h2]
            have H2 : Hid (y = m) := h2
            clear h2
            go_wp2_with fail
            go_quiet (fail)
            go_wp2_with fail
            go_roundw
            case rel =>
              refine ⟨h + 1, by omega, ?_, HR.out.setCell 3 (.int .i64 ((h : Int) + 1)), (below_drewN HB.out _).setCell (by show _ ≤ w1.heap.size; omega) _, own_set (own_below HO.out (below_drewN (Below.refl _ _) _)) _ _ (fun e => by have := HOB.out _ e; simp at this)⟩
              intro i hi
              by_cases hid : i = h
              · subst hid
                exact ⟨h1, HY.out.trans H2.out⟩
              · exact HA.out i (by omega)
            case measure =>
              rw [show ((wr.drewN nq).setCell ⟨w1.heap.size, 3, none⟩ (.int .i64 ((h : Int) + 1))).cell? ⟨w1.heap.size, 3, none⟩ = some (.int .i64 ((h : Int) + 1)) from ((HR.out.below (below_drewN (Below.refl wr.heap.size wr) nq) HR.out.lt).setCell 3 (.int .i64 ((h : Int) + 1))).cell 3, e3]
              simp only [intOf]
              omega
          · have h2' : ((y : Int) == (m : Int)) = false := by simp; omega
            have H2 : Hid (¬ y = m) := h2
            clear h2
            have d0 : wr.cell? ⟨w1.heap.size, 0, none⟩ = some (.int .i64 a) := HR.out.cell 0
            have d1 : wr.cell? ⟨w1.heap.size, 1, none⟩ = some (.int .i64 b) := HR.out.cell 1
            have d2 : wr.cell? ⟨w1.heap.size, 2, none⟩ = some (.int .i64 d) := HR.out.cell 2
            have d4 : wr.cell? ⟨w1.heap.size, 4, none⟩ = some (.slice p tx.length q) := HR.out.cell 4
            have HRt : Hid (Rt C f a b h) := ⟨fun j hj => ⟨(HA.out j hj).1, (HA.out j hj).2.trans HM.out.symm⟩, fun hh => H2.out (HY.out.symm.trans (hh.2.trans HM.out))⟩
            have lz := HG1.out.lt
            go_wp2_with fail
            go_quiet (fail)
            go_wp2_with (refine wpList_store_row rfl 44 (.tmp 6) (.tmp 71) rfl (w.heap.size + 1) #[.int .i64 a, .int .i64 b, .int .i64 d, .int .i64 h, .slice p tx.length q] rfl rfl 44 _ (HG1.out.below (below_drewN (Below.refl wr.heap.size wr) nq) lz) cell_info rfl (cells5_one _ _ _ _ _ _ _) ?_)
            refine bodyPost_ret (v := .agg #[.int .i64 a, .int .i64 b, .int .i64 d, .int .i64 h, .slice p tx.length q]) (results_cell_row (p := 6) (ty := 44) rfl _ _ (w.heap.size + 1) 44 _ _ _ rfl (RowAt.setRow (HG1.out.below (below_drewN (Below.refl wr.heap.size wr) nq) lz) _) Try.underlying44 rfl cell_info) rfl ⟨⟨d, h, p, tx.length, q, rfl, HDn.out, HRt.out, ?_⟩, below_row (below_drewN (B0.trans (HB.out.mono B0.size)) _) (by omega) _⟩
            exact own_less (own_row (own_below HO.out (below_drewN (Below.refl _ _) _)) _ _ (fun e => by have := (own_lt HO.out.row e).1; omega)) B0.size
        · have c0 : decide ((b : Int) + h < C) = false := by simp; omega
          have c0' : C ≤ b + h := by omega
          clear gg
          have d0 : wr.cell? ⟨w1.heap.size, 0, none⟩ = some (.int .i64 a) := HR.out.cell 0
          have d1 : wr.cell? ⟨w1.heap.size, 1, none⟩ = some (.int .i64 b) := HR.out.cell 1
          have d2 : wr.cell? ⟨w1.heap.size, 2, none⟩ = some (.int .i64 d) := HR.out.cell 2
          have d4 : wr.cell? ⟨w1.heap.size, 4, none⟩ = some (.slice p tx.length q) := HR.out.cell 4
          have HRt : Hid (Rt C f a b h) := ⟨fun j hj => ⟨(HA.out j hj).1, (HA.out j hj).2.trans HM.out.symm⟩, fun hh => h1 hh.1⟩
          have lz := HG1.out.lt
          go_wp2_with fail
          go_quiet (fail)
          go_wp2_with (refine wpList_store_row rfl 44 (.tmp 6) (.tmp 71) rfl (w.heap.size + 1) #[.int .i64 a, .int .i64 b, .int .i64 d, .int .i64 h, .slice p tx.length q] rfl rfl 44 _ (HG1.out.below (below_drewN (Below.refl wr.heap.size wr) nq) lz) cell_info rfl (cells5_one _ _ _ _ _ _ _) ?_)
          refine bodyPost_ret (v := .agg #[.int .i64 a, .int .i64 b, .int .i64 d, .int .i64 h, .slice p tx.length q]) (results_cell_row (p := 6) (ty := 44) rfl _ _ (w.heap.size + 1) 44 _ _ _ rfl (RowAt.setRow (HG1.out.below (below_drewN (Below.refl wr.heap.size wr) nq) lz) _) Try.underlying44 rfl cell_info) rfl ⟨⟨d, h, p, tx.length, q, rfl, HDn.out, HRt.out, ?_⟩, below_row (below_drewN (B0.trans (HB.out.mono B0.size)) _) (by omega) _⟩
          exact own_less (own_row (own_below HO.out (below_drewN (Below.refl _ _) _)) _ _ (fun e => by have := (own_lt HO.out.row e).1; omega)) B0.size
end Go.Proofs.Yteghidjbcpmfbaa
