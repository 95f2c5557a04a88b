import Derived.Test.YtdcebaneobkcoaaBA4
import Derived.Test.YtdcebaneobkcoaaBA1
import Derived.Deep.QuietTactic
import Derived.BigQuiet
import Derived.Deep.Cut
import Derived.Test.YtdcebaneobkcoaaBA2
import Derived.Laws.ResultCell
import Derived.Stop.Asserts
import Derived.Deep.Slices
namespace Go.Proofs.Ytdcebaneobkcoaa
open Go.RowKit

theorem BlsDr.sp {d : List Bl} (h : BlsDr d) (hl : d.length ≤ 9) : DocSp d := ⟨hl, fun x hx => (h x hx).sp⟩
theorem DrRes.weak {B g q0 q1 C C' : Nat} {w : World} {e : Ending} {w' : World} (h : DrRes B g q0 C w e w') (hq : q0 ≤ q1) (hC : C' ≤ C) : DrRes B g q1 C' w e w' := by
  obtain ⟨a, m, c, d, q, h0, ⟨rbs, h1⟩, h2, h3, h4, h5⟩ := h
  exact ⟨a, m, c, d, q, h0, ⟨rbs, h1.less hC⟩, h2, h3, by omega, h5.mono hC⟩
set_option maxRecDepth 100000 in
set_option maxHeartbeats 8000000 in
theorem l71Some_any (B g p : Nat) (w : World) (h : Rd B w g p) (hp : p ≤ 880000) :
    Calls Try.prog 33 #[.pointer (some ⟨g, 0, none⟩)] w fun e w' => DrRes B g (p + 3700) w.heap.size w e w' := by
  have hlt := h.lt
  have HR : Hid (Rd B w g p) := h
  clear h
  go_enter Try.func33, Try.ntmps33
  go_upto_region 1 with fail
  have F0 : Fr w.heap.size g w (w.alloc (.cells #[.slice none 0 0] 25)) := (Fr.refl _ _ w).alloc (Nat.le_refl _) _
  have G0 : RowAt (w.alloc (.cells #[.slice none 0 0] 25)) w.heap.size #[.slice none 0 0] 25 := rowAt_new w _ _
  have HR0 : Hid (Rd B (w.alloc (.cells #[.slice none 0 0] 25)) g p) := HR.out.alloc _
  generalize (w.alloc (.cells #[.slice none 0 0] 25)) = v0 at F0 G0 HR0 ⊢
  have s0 := F0.size
  have l0 := G0.lt
  have HG0 : Hid (RowAt v0 w.heap.size #[.slice none 0 0] 25) := G0
  have HF0 : Hid (Fr w.heap.size g w v0) := F0
  clear F0 G0
  go_wp2_with fail
  refine (l71Doc_any B g p _ HR0.out hp).mono ?_
  rintro e w2 ⟨a, m, c, d, q, rfl, ⟨rbs, hX⟩, hBD, hl, hr2, hq, hf2⟩
  have s2 := hf2.size
  have HG2 : Hid (RowAt w2 w.heap.size #[.slice none 0 0] 25) := HG0.out.fr hf2 (by omega)
  have HF2 : Hid (Fr w.heap.size g w w2) := HF0.out.trans (hf2.mono (by omega))
  have HBD : Hid (BlsDr d) := hBD
  have HX2 : Hid (DocX w2 v0.heap.size (.slice a m c) rbs d) := hX
  have HR2 : Hid (Rd B w2 g q) := hr2
  clear hX hBD hr2 hf2 HG0 HF0 HR0
  go_upto_region 2 with fail
  have T3 : RowAt (w2.alloc (.cells #[.slice a m c] 25)) w2.heap.size #[.slice a m c] 25 := rowAt_new _ _ _
  have HX3 : Hid (DocX (w2.alloc (.cells #[.slice a m c] 25)) v0.heap.size (.slice a m c) rbs d) := HX2.out.alloc _
  have HG3 : Hid (RowAt (w2.alloc (.cells #[.slice a m c] 25)) w.heap.size #[.slice none 0 0] 25) := HG2.out.alloc _
  have HF3 : Hid (Fr w.heap.size g w (w2.alloc (.cells #[.slice a m c] 25))) := HF2.out.alloc (by omega) _
  have HR3 : Hid (Rd B (w2.alloc (.cells #[.slice a m c] 25)) g q) := HR2.out.alloc _
  generalize (w2.alloc (.cells #[.slice a m c] 25)) = v3 at T3 HX3 HG3 HF3 HR3 ⊢
  obtain ⟨X, hX⟩ : ∃ X, w2.heap.size = X := ⟨_, rfl⟩
  rw [hX] at T3 ⊢
  have zT := T3.lt
  have hXw : w.heap.size ≤ X := by omega
  have HT3 : Hid (RowAt v3 X #[.slice a m c] 25) := T3
  clear T3 hX HX2 HG2 HF2 HR2
  go_wp2_with fail
  refine (pick_any B g q 10 _ HR3.out (by omega) (by omega) (by omega)).mono ?_
  rintro e w4 ⟨x, rfl, hx0, hx1, hr4, hg4⟩
  have f4 := fr_grown hg4
  have s4 := f4.size
  have HR4 : Hid (Rd B w4 g (q + 1)) := hr4
  have HT4 : Hid (RowAt w4 X #[.slice a m c] 25) := HT3.out.fr f4 (by omega)
  have HX4 : Hid (DocX w4 v0.heap.size (.slice a m c) rbs d) := HX3.out.fr f4 (by omega)
  have HG4 : Hid (RowAt w4 w.heap.size #[.slice none 0 0] 25) := HG3.out.fr f4 (by omega)
  have HF4 : Hid (Fr w.heap.size g w w4) := HF3.out.trans (f4.mono (by omega))
  have k4 : w4.cell? ⟨X, 0, none⟩ = some (.slice a m c) := HT4.out.cell 0
  clear hr4 hg4 f4 HT3 HX3 HG3 HF3 HR3
  by_cases h0 : x = 0
  · subst h0
    go_wp2_with (first | (go_at_call 60; refine (l71Odd_any B g (q + 1) a m c d _ HR4.out (by omega) HX4.out.dc HBD.out hl.1 hl.2).mono ?_; rintro e w5 ⟨a5, m5, c5, d5, q5, rfl, ⟨rbs5, hX5⟩, hS5, hr5, hq5, hf5⟩; have HG5 : Hid (RowAt w5 w.heap.size #[.slice none 0 0] 25) := HG4.out.fr hf5 (by omega); have s5 := hf5.size; have HX5 : Hid (DocX w5 w4.heap.size (.slice a5 m5 c5) rbs5 d5) := hX5; have HS5 : Hid (DocSp d5) := hS5; have HR5 : Hid (Rd B w5 g q5) := hr5; have HF5 : Hid (Fr w.heap.size g w w5) := HF4.out.trans (hf5.mono (by omega)); clear hX5 hS5 hr5 hf5) | (refine wpList_store_row rfl 25 (.tmp 2) (.tmp 11) rfl w.heap.size #[.slice a5 m5 c5] rfl rfl 25 _ HG5.out drdoc_info rfl (drcells1_one _ _ _) ?_))
    have bT : Below w.heap.size w5 (w5.setRow w.heap.size #[.slice a5 m5 c5]) := below_row (Below.refl _ _) (Nat.le_refl _) _
    refine bodyPost_ret (v := .agg #[.slice a5 m5 c5]) (results_cell_row (p := 2) (ty := 25) rfl _ _ w.heap.size 25 _ _ _ rfl (RowAt.setRow HG5.out _) Try.underlying25 rfl drdoc_info) rfl (drRes_mk (d' := d5) (q := q5) ⟨_, (docX_row HX5.out HG5.out _).less (by omega)⟩ HS5.out (HR5.out.below bT hlt) (by omega) (HF5.out.below bT))
  · have n0 : (x == 0) = false := by simp; omega
    go_wp2_with (refine wpList_store_row rfl 25 (.tmp 2) (.tmp 12) rfl w.heap.size #[.slice a m c] rfl rfl 25 _ HG4.out drdoc_info rfl (drcells1_one _ _ _) ?_)
    have bT : Below w.heap.size w4 (w4.setRow w.heap.size #[.slice a m c]) := below_row (Below.refl _ _) (Nat.le_refl _) _
    refine bodyPost_ret (v := .agg #[.slice a m c]) (results_cell_row (p := 2) (ty := 25) rfl _ _ w.heap.size 25 _ _ _ rfl (RowAt.setRow HG4.out _) Try.underlying25 rfl drdoc_info) rfl (drRes_mk (d' := d) (q := q + 1) ⟨_, (docX_row HX4.out HG4.out _).less (by omega)⟩ (HBD.out.sp (by omega)) (HR4.out.below bT hlt) (by omega) (HF4.out.below bT))
end Go.Proofs.Ytdcebaneobkcoaa
namespace Go.Proofs.Ytdcebaneobkcoaa
open Go.RowKit

theorem run_docK {w : World} {g : Nat} {s : Value} (h : RowAt w g #[s] 25) : (loadVar 25 ⟨g, 0, none⟩).run Try.prog w = .ok (.agg #[s]) w :=
  run_loadVar_row w g 25 25 #[s] (0, 0) _ h Try.underlying25 rfl drdoc_info
/-- What a drawing of a document and a place in it gives. -/
def KdRes (B g q0 C : Nat) (w : World) (e : Ending) (w' : World) : Prop := ∃ (a' : Option Addr) (m' c' : Nat) (d' : List Bl) (z : Int) (q : Nat), e = .returned (.tuple #[.agg #[.slice a' m' c'], .int .i64 z]) ∧ (∃ rbs, DocX w' C (.slice a' m' c') rbs d') ∧ DocSp d' ∧ -1 ≤ z ∧ z ≤ 11 ∧ Rd B w' g q ∧ q ≤ q0 ∧ Fr C g w w'
theorem kdRes_mk {B g q0 C m' c' q : Nat} {w w' : World} {a' : Option Addr} {d' : List Bl} {z : Int} (h1 : ∃ rbs, DocX w' C (.slice a' m' c') rbs d') (h2 : DocSp d') (z0 : -1 ≤ z) (z1 : z ≤ 11) (h3 : Rd B w' g q) (h4 : q ≤ q0) (h5 : Fr C g w w') : KdRes B g q0 C w (.returned (.tuple #[.agg #[.slice a' m' c'], .int .i64 z])) w' := ⟨a', m', c', d', z, q, rfl, h1, h2, z0, z1, h3, h4, h5⟩
/-- What stands in a round of the drawing. -/
def KdInv (B g : Nat) (w : World) (B0 X q1 : Nat) (a : Option Addr) (m c : Nat) (d : List Bl) (q : Nat) (wr : World) : Prop := ∃ rbs, m = d.length ∧ DocSp d ∧ q ≤ q1 ∧ B0 ≤ wr.heap.size ∧ RowAt wr w.heap.size #[.slice none 0 0] 25 ∧ RowAt wr X #[.slice a m c] 25 ∧ DocX wr B0 (.slice a m c) rbs d ∧ Rd B wr g q ∧ Fr w.heap.size g w wr
set_option maxRecDepth 100000 in
set_option maxHeartbeats 16000000 in
theorem l71Kinds_any (B g p : Nat) (kind : Int) (w : World) (h : Rd B w g p) (hp : p ≤ 800000) :
    Calls Try.prog 43 #[.pointer (some ⟨g, 0, none⟩), .int .i64 kind] w fun e w' => KdRes B g (p + 30000) w.heap.size w e w' := by
  have hlt := h.lt
  have HR : Hid (Rd B w g p) := h
  clear h
  go_enter Try.func43, Try.ntmps43
  go_upto_region 1 with fail
  have F0 : Fr w.heap.size g w (w.alloc (.cells #[.slice none 0 0] 25)) := (Fr.refl _ _ w).alloc (Nat.le_refl _) _
  have G0 : RowAt (w.alloc (.cells #[.slice none 0 0] 25)) w.heap.size #[.slice none 0 0] 25 := rowAt_new w _ _
  have HR0 : Hid (Rd B (w.alloc (.cells #[.slice none 0 0] 25)) g p) := HR.out.alloc _
  have sv : w.heap.size < (w.alloc (.cells #[.slice none 0 0] 25)).heap.size := by simp
  generalize (w.alloc (.cells #[.slice none 0 0] 25)) = v0 at F0 G0 HR0 sv ⊢
  have s0 := F0.size
  have HG0 : Hid (RowAt v0 w.heap.size #[.slice none 0 0] 25) := G0
  have HF0 : Hid (Fr w.heap.size g w v0) := F0
  clear F0 G0
  go_wp2_with fail
  refine (l71Some_any B g p _ HR0.out (by omega)).mono ?_
  rintro e w2 ⟨a, m, c, d, q, rfl, ⟨rbs, hX⟩, hS, hr2, hq, hf2⟩
  have s2 := hf2.size
  have HG2 : Hid (RowAt w2 w.heap.size #[.slice none 0 0] 25) := HG0.out.fr hf2 (by omega)
  have HF2 : Hid (Fr w.heap.size g w w2) := HF0.out.trans (hf2.mono (by omega))
  have HS : Hid (DocSp d) := hS
  have HX2 : Hid (DocX w2 v0.heap.size (.slice a m c) rbs d) := hX
  have HR2 : Hid (Rd B w2 g q) := hr2
  clear hX hS hr2 hf2 HG0 HF0 HR0
  go_upto_region 2 with fail
  have T3 : RowAt (w2.alloc (.cells #[.slice a m c] 25)) w2.heap.size #[.slice a m c] 25 := rowAt_new _ _ _
  have HX3 : Hid (DocX (w2.alloc (.cells #[.slice a m c] 25)) v0.heap.size (.slice a m c) rbs d) := HX2.out.alloc _
  have HG3 : Hid (RowAt (w2.alloc (.cells #[.slice a m c] 25)) w.heap.size #[.slice none 0 0] 25) := HG2.out.alloc _
  have HF3 : Hid (Fr w.heap.size g w (w2.alloc (.cells #[.slice a m c] 25))) := HF2.out.alloc (by omega) _
  have HR3 : Hid (Rd B (w2.alloc (.cells #[.slice a m c] 25)) g q) := HR2.out.alloc _
  have sv3 : w2.heap.size < (w2.alloc (.cells #[.slice a m c] 25)).heap.size := by simp
  generalize (w2.alloc (.cells #[.slice a m c] 25)) = v3 at T3 HX3 HG3 HF3 HR3 sv3 ⊢
  obtain ⟨X, hX⟩ : ∃ X, w2.heap.size = X := ⟨_, rfl⟩
  rw [hX] at T3 s2 sv3 ⊢
  have HT3 : Hid (RowAt v3 X #[.slice a m c] 25) := T3
  clear T3 hX HX2 HG2 HF2 HR2
  go_wp2_with fail
  go_loopw [7, 8, 9] (fun iv _ _ wr => ∃ (i : Nat) (a : Option Addr) (m c : Nat) (d : List Bl) (q : Nat), i ≤ 8 ∧ iv = .int .i64 (i : Int) ∧ wr.cell? ⟨X, 0, none⟩ = some (.slice a m c) ∧ KdInv B g w v0.heap.size X (p + 3700 + 3100 * i) a m c d q wr) (fun iv _ _ _ => 8 - (intOf iv).toNat)
  case atStart => exact ⟨0, a, m, c, d, q, by omega, rfl, HT3.out.cell 0, rbs, HX3.out.len, HS.out, by omega, by omega, HG3.out, HT3.out, HX3.out, HR3.out, HF3.out⟩
  case round =>
    clear HS hq HX3 HG3 HF3 HR3 HT3
    obtain ⟨i, a, m, c, d, q, hi, rfl, k6, rbs, hml, hS, hq, hsz, hG, hT, hX, hR, hF⟩ := hrel
    have hc1 := hX.dc.2.1
    have hc2 := hX.dc.2.2.1
    unfold maxLen at hc2
    have hm9 : m ≤ 9 := by rw [hml]; exact hS.1
    have HML : Hid (m = d.length) := hml
    have HS : Hid (DocSp d) := hS
    have HG : Hid (RowAt wr w.heap.size #[.slice none 0 0] 25) := hG
    have HT : Hid (RowAt wr X #[.slice a m c] 25) := hT
    have HX : Hid (DocX wr v0.heap.size (.slice a m c) rbs d) := hX
    have HR : Hid (Rd B wr g q) := hR
    have HF : Hid (Fr w.heap.size g w wr) := hF
    have zX := hT.lt
    clear hG hT hX hR hF hml hS
    by_cases hi8 : i < 8
    · have hib : (i : Int) < 8 := by omega
      go_wp2_with fail
      refine (pick_any B g q 10 _ HR.out (by omega) (by omega) (by omega)).mono ?_
      rintro e w4 ⟨x, rfl, hx0, hx1, hrw4, hgw4⟩
      have fw4 := fr_grown hgw4
      have sw4 := fw4.size
      have HRw4 : Hid (Rd B w4 g (q + 1)) := hrw4
      have HGw4 : Hid (RowAt w4 w.heap.size #[.slice none 0 0] 25) := HG.out.fr fw4 (by omega)
      have HTw4 : Hid (RowAt w4 X #[.slice a m c] 25) := HT.out.fr fw4 (by omega)
      have HXw4 : Hid (DocX w4 v0.heap.size (.slice a m c) rbs d) := HX.out.fr fw4 (by omega)
      have HFw4 : Hid (Fr w.heap.size g w w4) := HF.out.trans (fw4.mono (by omega))
      clear hrw4 hgw4 fw4
      clear HG HT HX HF HR
      by_cases hx : 0 < x
      · have k4 : w4.cell? ⟨X, 0, none⟩ = some (.slice a m c) := HTw4.out.cell 0
        go_wp2_with fail
        go_loopw [8, 9] (fun kv _ wr => ∃ (k q' : Nat), k ≤ m ∧ q' ≤ q + 1 + k ∧ kv = .int .i64 (k : Int) ∧ wr.cell? ⟨X, 0, none⟩ = some (.slice a m c) ∧ w4.heap.size ≤ wr.heap.size ∧ RowAt wr w.heap.size #[.slice none 0 0] 25 ∧ RowAt wr X #[.slice a m c] 25 ∧ DocX wr v0.heap.size (.slice a m c) rbs d ∧ Rd B wr g q' ∧ Fr w.heap.size g w wr) (fun kv _ _ => m - (intOf kv).toNat)
        case atStart => exact ⟨0, q + 1, Nat.zero_le _, by omega, rfl, k4, Nat.le_refl _, HGw4.out, HTw4.out, HXw4.out, HRw4.out, HFw4.out⟩
        case round =>
          clear HGw4 HTw4 HXw4 HRw4 HFw4 k4 k6
          obtain ⟨k, q', hk, hq', rfl, k5, hs5, hG, hT, hX, hR, hF⟩ := hrel
          have HGw5 : Hid (RowAt wr w.heap.size #[.slice none 0 0] 25) := hG
          have HTw5 : Hid (RowAt wr X #[.slice a m c] 25) := hT
          have HXw5 : Hid (DocX wr v0.heap.size (.slice a m c) rbs d) := hX
          have HRw5 : Hid (Rd B wr g q') := hR
          have HFw5 : Hid (Fr w.heap.size g w wr) := hF
          clear hG hT hX hR hF
          by_cases hkm : k < m
          · obtain ⟨at', hat⟩ : ∃ j, (k + i) % m = j := ⟨_, rfl⟩
            have hatm : at' < m := by rw [← hat]; exact Nat.mod_lt _ (by omega)
            have HAT : Hid (Int.tmod ((k : Int) + (i : Int)) (m : Int) = (at' : Int)) := by
              show Int.tmod ((k : Int) + (i : Int)) (m : Int) = (at' : Int)
              rw [← hat]
              rfl
            have hkb : (k : Int) < (m : Int) := by omega
            have hm0 : ¬ (m : Int) = 0 := by omega
            have hab : (at' : Int) < (m : Int) := by omega
            have ha0 : (0 : Int) ≤ (at' : Int) := by omega
            clear hat
            rcases HXw5.out.dc.2.2.2 with e | ⟨b, off, rfl, hbw, hcl⟩
            · have := HML.out
              rw [e] at this
              simp at this
              omega
            obtain ⟨_, _, _, _, _, _, c0, -⟩ := hcl at' (by rw [← HML.out]; exact hatm)
            generalize (d.getD at' bl0).1 = K at c0
            clear hcl
            have ht := HAT.out
            go_upto_region 9 with fail
            clear ht
            by_cases hK : K = kind
            · subst hK
              go_wp2_with fail
              refine (pick_any B g q' 2 _ HRw5.out (by omega) (by omega) (by omega)).mono ?_
              rintro e w6 ⟨y, rfl, hy0, hy1, hrw6, hgw6⟩
              have fw6 := fr_grown hgw6
              have sw6 := fw6.size
              have HRw6 : Hid (Rd B w6 g (q' + 1)) := hrw6
              have HGw6 : Hid (RowAt w6 w.heap.size #[.slice none 0 0] 25) := HGw5.out.fr fw6 (by omega)
              have HTw6 : Hid (RowAt w6 X #[.slice (some ⟨b, off, none⟩) m c] 25) := HTw5.out.fr fw6 (by omega)
              have HXw6 : Hid (DocX w6 v0.heap.size (.slice (some ⟨b, off, none⟩) m c) rbs d) := HXw5.out.fr fw6 (by omega)
              have HFw6 : Hid (Fr w.heap.size g w w6) := HFw5.out.trans (fw6.mono (by omega))
              clear hrw6 hgw6 fw6
              by_cases hy : y = 0
              · subst hy
                have k8 : w6.cell? ⟨X, 0, none⟩ = some (.slice (some ⟨b, off, none⟩) m c) := HTw6.out.cell 0
                go_wp2_with (refine wpList_store_row rfl 25 (.tmp 4) (.tmp 48) rfl w.heap.size #[.slice (some ⟨b, off, none⟩) m c] rfl rfl 25 _ HGw6.out drdoc_info rfl (drcells1_one _ _ _) ?_)
                have bT : Below w.heap.size w6 (w6.setRow w.heap.size #[.slice (some ⟨b, off, none⟩) m c]) := below_row (Below.refl _ _) (Nat.le_refl _) _
                refine bodyPost_ret (v := .tuple #[.agg #[.slice (some ⟨b, off, none⟩) m c], .int .i64 ((at' : Int))]) ?_ rfl (kdRes_mk (d' := d) (q := q' + 1) ⟨_, (docX_row HXw6.out HGw6.out _).less (by omega)⟩ HS.out (by omega) (by omega) (HRw6.out.below bT hlt) (by omega) (HFw6.out.below bT))
                rw [results_cell_tmp rfl]
                simp [asAddr, Result.andThen, run_docK (RowAt.setRow HGw6.out _)]
              · have hy2 : (y == 0) = false := by simp; exact hy
                have k8 : w6.cell? ⟨X, 0, none⟩ = some (.slice (some ⟨b, off, none⟩) m c) := HTw6.out.cell 0
                go_wp2_with fail
                go_roundw
                case rel => exact ⟨k + 1, q' + 1, by omega, by omega, by go_num, k8, by omega, HGw6.out, HTw6.out, HXw6.out, HRw6.out, HFw6.out⟩
                case measure => simp [intOf]; omega
            · have hK2 : (K == kind) = false := by simp; exact hK
              go_wp2_with fail
              go_roundw
              case rel => exact ⟨k + 1, q', by omega, by omega, by go_num, k5, by omega, HGw5.out, HTw5.out, HXw5.out, HRw5.out, HFw5.out⟩
              case measure => simp [intOf]; omega
          · have hkb : ¬ (k : Int) < (m : Int) := by omega
            go_wp2_with (first | (go_at_call 59; refine (l71Doc_any B g q' _ HRw5.out (by omega)).mono ?_; rintro e w6 ⟨a6, m6, c6, d6, q6, rfl, ⟨rbs6, hX6⟩, hBD6, hl6, hr6, hq6, hf6⟩; have s6 := hf6.size; have HX6 : Hid (DocX w6 wr.heap.size (.slice a6 m6 c6) rbs6 d6) := hX6; have HBD : Hid (BlsDr d6) := hBD6; have HR6 : Hid (Rd B w6 g q6) := hr6; have HT6 : Hid (RowAt w6 X #[.slice a m c] 25) := HTw5.out.fr hf6 (by omega); have HG6 : Hid (RowAt w6 w.heap.size #[.slice none 0 0] 25) := HGw5.out.fr hf6 (by omega); have HF6 : Hid (Fr w.heap.size g w w6) := HFw5.out.trans (hf6.mono (by omega)); clear hX6 hBD6 hr6 hf6) | (refine wpList_store_row rfl 25 (.tmp 6) (.tmp 51) rfl X #[.slice a6 m6 c6] rfl rfl 25 _ HT6.out drdoc_info rfl (drcells1_one _ _ _) ?_))
            have bT : Below w.heap.size w6 (w6.setRow X #[.slice a6 m6 c6]) := below_row (Below.refl _ _) (by omega) _
            have sz : (w6.setRow X #[.slice a6 m6 c6]).heap.size = w6.heap.size := by simp [World.setRow]
            go_roundw
            case rel => exact ⟨i + 1, a6, m6, c6, d6, q6, by omega, by go_num, (HT6.out.setRow _).cell 0, rbs6, HX6.out.len, HBD.out.sp (by omega), by omega, by rw [sz]; omega, HG6.out.setRowOther _ _ (by omega), HT6.out.setRow _, (docX_row HX6.out HT6.out _).less (by omega), HR6.out.below bT hlt, HF6.out.below bT⟩
            case measure => simp [intOf]; omega
      · have hx2 : x = 0 := by omega
        subst hx2
        obtain ⟨q, hq1⟩ : ∃ u, u = q + 1 := ⟨_, rfl⟩
        rw [← hq1] at HRw4
        have HG := HGw4
        have HT := HTw4
        have HX := HXw4
        have HR := HRw4
        have HF := HFw4
        clear HGw4 HTw4 HXw4 HRw4 HFw4 k6
        obtain ⟨w0, hw0⟩ : ∃ u, u = wr := ⟨wr, rfl⟩
        obtain ⟨wr, hwr⟩ : ∃ u, u = w4 := ⟨w4, rfl⟩
        subst w4
        go_wp2_with fail
        have fd : Fr wr.heap.size g wr wr.drew := (Fr.refl _ _ _).below ((Below.refl _ _).drew)
        have HGz : Hid (RowAt wr.drew w.heap.size #[.slice none 0 0] 25) := HG.out
        have HTz : Hid (RowAt wr.drew X #[.slice a m c] 25) := HT.out
        have HXz : Hid (DocX wr.drew v0.heap.size (.slice a m c) rbs d) := HX.out.fr fd (by omega)
        have HFz : Hid (Fr w.heap.size g w wr.drew) := HF.out.trans (fd.mono (by omega))
        have HRz : Hid (Rd B wr.drew g q) := HR.out.below ((Below.refl _ _).drew) HR.out.lt
        have sd : wr.heap.size = wr.drew.heap.size := rfl
        refine wp_region_noPanic ?_
        refine wp_region_L (fun w' => RowAt w' X #[.slice a m c] 25) 9 (by kernel_rfl) (HTz.out) (fun hHeld => ?_)
        generalize wr.drew = w7 at HGz HTz HXz HFz HRz sd hHeld ⊢
        clear fd HG HT HX HF HR
        refine takeL 0 52 (.agg #[.slice a m c]) rfl rfl (by kernel_rfl) (by kernel_rfl) (by kernel_rfl) (by kernel_rfl) (by kernel_rfl) (fun _ _ _ h => h) (yieldsIf_load_row (by kernel_rfl) 25 (.tmp 6) rfl X rfl 25 #[.slice a m c] (0, 0) _ (fun w' h => h) Try.underlying25 rfl drdoc_info) hHeld ?_
        (try simp only [Act.put, List.setIfInBounds_toArray, List.set_cons_zero, List.set_cons_succ])
        refine takeL 1 53 (.pointer (some ⟨g, 0, none⟩)) rfl rfl (by kernel_rfl) (by kernel_rfl) (by kernel_rfl) (by kernel_rfl) (by kernel_rfl) (fun _ _ _ h => h) (Or.inl ⟨by kernel_rfl, fun w' hS' => by go_simp⟩) hHeld ?_
        (try simp only [Act.put, List.setIfInBounds_toArray, List.set_cons_zero, List.set_cons_succ])
        refine takeL 2 54 (.pointer (some ⟨X, 0, none⟩)) rfl rfl (by kernel_rfl) (by kernel_rfl) (by kernel_rfl) (by kernel_rfl) (by kernel_rfl) (fun _ _ _ h => h) (Or.inl ⟨by kernel_rfl, fun w' hS' => by go_simp⟩) hHeld ?_
        (try simp only [Act.put, List.setIfInBounds_toArray, List.set_cons_zero, List.set_cons_succ])
        refine takeL 3 55 (.slice a m c) rfl rfl (by kernel_rfl) (by kernel_rfl) (by kernel_rfl) (by kernel_rfl) (by kernel_rfl) (fun _ _ _ h => h) (Or.inl ⟨by kernel_rfl, fun w' hS' => by have hc := RowAt.cell hS' 0; simp at hc; go_simp⟩) hHeld ?_
        (try simp only [Act.put, List.setIfInBounds_toArray, List.set_cons_zero, List.set_cons_succ])
        refine takeL 4 56 (.int .i64 (m : Int)) rfl rfl (by kernel_rfl) (by kernel_rfl) (by kernel_rfl) (by kernel_rfl) (by kernel_rfl) (fun _ _ _ h => h) (Or.inl ⟨by kernel_rfl, fun w' hS' => by go_simp⟩) hHeld ?_
        (try simp only [Act.put, List.setIfInBounds_toArray, List.set_cons_zero, List.set_cons_succ])
        refine takeL 5 57 (.int .i64 ((m : Int) + 2)) rfl rfl (by kernel_rfl) (by kernel_rfl) (by kernel_rfl) (by kernel_rfl) (by kernel_rfl) (fun _ _ _ h => h) (Or.inl ⟨by kernel_rfl, fun w' hS' => by go_simp; rw [IntKind.wrap_i64]; omega⟩) hHeld ?_
        (try simp only [Act.put, List.setIfInBounds_toArray, List.set_cons_zero, List.set_cons_succ])
        refine wpAnyL_ready (rs := [6]) (by kernel_rfl) (by simp) ?_
        refine AllReadyL.cons rfl (fun K hK => ?_) AllReadyL.nil
        go_simp
        go_at_call 52
        refine (pick_any B g q ((m : Int) + 2) _ HRz.out (by omega) (by omega) (by omega)).mono ?_
        rintro e w8 ⟨x, rfl, hx0, hx1, hr8, hg8⟩
        have fw8 := fr_grown hg8
        have sw8 := fw8.size
        have HRw8 : Hid (Rd B w8 g (q + 1)) := hr8
        have HGw8 : Hid (RowAt w8 w.heap.size #[.slice none 0 0] 25) := HGz.out.fr fw8 (by omega)
        have HTw8 : Hid (RowAt w8 X #[.slice a m c] 25) := HTz.out.fr fw8 (by omega)
        have HXw8 : Hid (DocX w8 v0.heap.size (.slice a m c) rbs d) := HXz.out.fr fw8 (by omega)
        have HFw8 : Hid (Fr w.heap.size g w w8) := HFz.out.trans (fw8.mono (by omega))
        clear hr8 hg8 fw8
        go_wp2_with fail
        refine hK.out _ _ (fun _ => HTw8.out) (fun hHeld => ?_)
        replace hHeld := hHeld (by decide)
        clear hK K
        (try simp only [Act.put, List.setIfInBounds_toArray, List.set_cons_zero, List.set_cons_succ])
        refine takeL 7 59 (.int .i64 (x - 1)) rfl rfl (by kernel_rfl) (by kernel_rfl) (by kernel_rfl) (by kernel_rfl) (by kernel_rfl) (fun _ _ _ h => h) (Or.inl ⟨by kernel_rfl, fun w' hS' => by go_simp; rw [IntKind.wrap_i64]; omega⟩) hHeld ?_
        (try simp only [Act.put, List.setIfInBounds_toArray, List.set_cons_zero, List.set_cons_succ])
        refine wpAnyL_ready (rs := [8]) (by kernel_rfl) (by simp) ?_
        refine AllReadyL.cons rfl (fun K hK => ?_) AllReadyL.nil
        rw [if_pos (by kernel_rfl)]
        refine wp_store_row 25 (.tmp 4) (.tmp 52) rfl w.heap.size #[.slice a m c] rfl rfl 25 _ HGw8.out drdoc_info rfl (drcells1_one _ _ _) ?_
        refine hK.out _ _ (fun _ => HTw8.out.setRowOther _ _ (by omega)) (fun hHeld => ?_)
        replace hHeld := hHeld (by decide)
        clear hK K
        (try simp only [Act.put, List.setIfInBounds_toArray])
        refine wpAnyL_ready (rs := [9]) (by kernel_rfl) (by simp) ?_
        refine AllReadyL.cons rfl (fun K hK => ?_) AllReadyL.nil
        go_simp
        refine hK.out _ _ (fun h => absurd rfl h) (fun _ => ?_)
        clear hK K
        (try simp only [Act.put, List.setIfInBounds_toArray, List.set_cons_zero, List.set_cons_succ])
        refine wpAnyL_done (by kernel_rfl) ?_ _
        refine NoPanic.normal ?_
        go_wp2_with fail
        have bT : Below w.heap.size w8 (w8.setRow w.heap.size #[.slice a m c]) := below_row (Below.refl _ _) (Nat.le_refl _) _
        refine bodyPost_ret (v := .tuple #[.agg #[.slice a m c], .int .i64 (x - 1)]) ?_ rfl (kdRes_mk (d' := d) (q := q + 1) ⟨_, (docX_row HXw8.out HGw8.out _).less (by omega)⟩ HS.out (by omega) (by omega) (HRw8.out.below bT hlt) (by omega) (HFw8.out.below bT))
        rw [results_cell_tmp rfl]
        simp [asAddr, Result.andThen, run_docK (RowAt.setRow HGw8.out _)]
    · have hib : ¬ (i : Int) < 8 := by omega
      go_wp2_with fail
      have fd : Fr wr.heap.size g wr wr.drew := (Fr.refl _ _ _).below ((Below.refl _ _).drew)
      have HGz : Hid (RowAt wr.drew w.heap.size #[.slice none 0 0] 25) := HG.out
      have HTz : Hid (RowAt wr.drew X #[.slice a m c] 25) := HT.out
      have HXz : Hid (DocX wr.drew v0.heap.size (.slice a m c) rbs d) := HX.out.fr fd (by omega)
      have HFz : Hid (Fr w.heap.size g w wr.drew) := HF.out.trans (fd.mono (by omega))
      have HRz : Hid (Rd B wr.drew g q) := HR.out.below ((Below.refl _ _).drew) HR.out.lt
      have sd : wr.heap.size = wr.drew.heap.size := rfl
      refine wp_region_noPanic ?_
      refine wp_region_L (fun w' => RowAt w' X #[.slice a m c] 25) 9 (by kernel_rfl) (HTz.out) (fun hHeld => ?_)
      generalize wr.drew = w7 at HGz HTz HXz HFz HRz sd hHeld ⊢
      clear fd HG HT HX HF HR
      refine takeL 0 52 (.agg #[.slice a m c]) rfl rfl (by kernel_rfl) (by kernel_rfl) (by kernel_rfl) (by kernel_rfl) (by kernel_rfl) (fun _ _ _ h => h) (yieldsIf_load_row (by kernel_rfl) 25 (.tmp 6) rfl X rfl 25 #[.slice a m c] (0, 0) _ (fun w' h => h) Try.underlying25 rfl drdoc_info) hHeld ?_
      (try simp only [Act.put, List.setIfInBounds_toArray, List.set_cons_zero, List.set_cons_succ])
      refine takeL 1 53 (.pointer (some ⟨g, 0, none⟩)) rfl rfl (by kernel_rfl) (by kernel_rfl) (by kernel_rfl) (by kernel_rfl) (by kernel_rfl) (fun _ _ _ h => h) (Or.inl ⟨by kernel_rfl, fun w' hS' => by go_simp⟩) hHeld ?_
      (try simp only [Act.put, List.setIfInBounds_toArray, List.set_cons_zero, List.set_cons_succ])
      refine takeL 2 54 (.pointer (some ⟨X, 0, none⟩)) rfl rfl (by kernel_rfl) (by kernel_rfl) (by kernel_rfl) (by kernel_rfl) (by kernel_rfl) (fun _ _ _ h => h) (Or.inl ⟨by kernel_rfl, fun w' hS' => by go_simp⟩) hHeld ?_
      (try simp only [Act.put, List.setIfInBounds_toArray, List.set_cons_zero, List.set_cons_succ])
      refine takeL 3 55 (.slice a m c) rfl rfl (by kernel_rfl) (by kernel_rfl) (by kernel_rfl) (by kernel_rfl) (by kernel_rfl) (fun _ _ _ h => h) (Or.inl ⟨by kernel_rfl, fun w' hS' => by have hc := RowAt.cell hS' 0; simp at hc; go_simp⟩) hHeld ?_
      (try simp only [Act.put, List.setIfInBounds_toArray, List.set_cons_zero, List.set_cons_succ])
      refine takeL 4 56 (.int .i64 (m : Int)) rfl rfl (by kernel_rfl) (by kernel_rfl) (by kernel_rfl) (by kernel_rfl) (by kernel_rfl) (fun _ _ _ h => h) (Or.inl ⟨by kernel_rfl, fun w' hS' => by go_simp⟩) hHeld ?_
      (try simp only [Act.put, List.setIfInBounds_toArray, List.set_cons_zero, List.set_cons_succ])
      refine takeL 5 57 (.int .i64 ((m : Int) + 2)) rfl rfl (by kernel_rfl) (by kernel_rfl) (by kernel_rfl) (by kernel_rfl) (by kernel_rfl) (fun _ _ _ h => h) (Or.inl ⟨by kernel_rfl, fun w' hS' => by go_simp; rw [IntKind.wrap_i64]; omega⟩) hHeld ?_
      (try simp only [Act.put, List.setIfInBounds_toArray, List.set_cons_zero, List.set_cons_succ])
      refine wpAnyL_ready (rs := [6]) (by kernel_rfl) (by simp) ?_
      refine AllReadyL.cons rfl (fun K hK => ?_) AllReadyL.nil
      go_simp
      go_at_call 52
      refine (pick_any B g q ((m : Int) + 2) _ HRz.out (by omega) (by omega) (by omega)).mono ?_
      rintro e w8 ⟨x, rfl, hx0, hx1, hr8, hg8⟩
      have fw8 := fr_grown hg8
      have sw8 := fw8.size
      have HRw8 : Hid (Rd B w8 g (q + 1)) := hr8
      have HGw8 : Hid (RowAt w8 w.heap.size #[.slice none 0 0] 25) := HGz.out.fr fw8 (by omega)
      have HTw8 : Hid (RowAt w8 X #[.slice a m c] 25) := HTz.out.fr fw8 (by omega)
      have HXw8 : Hid (DocX w8 v0.heap.size (.slice a m c) rbs d) := HXz.out.fr fw8 (by omega)
      have HFw8 : Hid (Fr w.heap.size g w w8) := HFz.out.trans (fw8.mono (by omega))
      clear hr8 hg8 fw8
      go_wp2_with fail
      refine hK.out _ _ (fun _ => HTw8.out) (fun hHeld => ?_)
      replace hHeld := hHeld (by decide)
      clear hK K
      (try simp only [Act.put, List.setIfInBounds_toArray, List.set_cons_zero, List.set_cons_succ])
      refine takeL 7 59 (.int .i64 (x - 1)) rfl rfl (by kernel_rfl) (by kernel_rfl) (by kernel_rfl) (by kernel_rfl) (by kernel_rfl) (fun _ _ _ h => h) (Or.inl ⟨by kernel_rfl, fun w' hS' => by go_simp; rw [IntKind.wrap_i64]; omega⟩) hHeld ?_
      (try simp only [Act.put, List.setIfInBounds_toArray, List.set_cons_zero, List.set_cons_succ])
      refine wpAnyL_ready (rs := [8]) (by kernel_rfl) (by simp) ?_
      refine AllReadyL.cons rfl (fun K hK => ?_) AllReadyL.nil
      rw [if_pos (by kernel_rfl)]
      refine wp_store_row 25 (.tmp 4) (.tmp 52) rfl w.heap.size #[.slice a m c] rfl rfl 25 _ HGw8.out drdoc_info rfl (drcells1_one _ _ _) ?_
      refine hK.out _ _ (fun _ => HTw8.out.setRowOther _ _ (by omega)) (fun hHeld => ?_)
      replace hHeld := hHeld (by decide)
      clear hK K
      (try simp only [Act.put, List.setIfInBounds_toArray])
      refine wpAnyL_ready (rs := [9]) (by kernel_rfl) (by simp) ?_
      refine AllReadyL.cons rfl (fun K hK => ?_) AllReadyL.nil
      go_simp
      refine hK.out _ _ (fun h => absurd rfl h) (fun _ => ?_)
      clear hK K
      (try simp only [Act.put, List.setIfInBounds_toArray, List.set_cons_zero, List.set_cons_succ])
      refine wpAnyL_done (by kernel_rfl) ?_ _
      refine NoPanic.normal ?_
      go_wp2_with fail
      have bT : Below w.heap.size w8 (w8.setRow w.heap.size #[.slice a m c]) := below_row (Below.refl _ _) (Nat.le_refl _) _
      refine bodyPost_ret (v := .tuple #[.agg #[.slice a m c], .int .i64 (x - 1)]) ?_ rfl (kdRes_mk (d' := d) (q := q + 1) ⟨_, (docX_row HXw8.out HGw8.out _).less (by omega)⟩ HS.out (by omega) (by omega) (HRw8.out.below bT hlt) (by omega) (HFw8.out.below bT))
      rw [results_cell_tmp rfl]
      simp [asAddr, Result.andThen, run_docK (RowAt.setRow HGw8.out _)]
end Go.Proofs.Ytdcebaneobkcoaa
namespace Go.Proofs.Ytdcebaneobkcoaa
open Go.RowKit

theorem sg_eq' (s t : Sg) : (s = t) ↔ (s.1 = t.1 ∧ s.2.1 = t.2.1 ∧ s.2.2 = t.2.2) := by
  obtain ⟨a, b, c⟩ := s
  obtain ⟨a', b', c'⟩ := t
  simp
theorem take_eq_succ' (l m : List Sg) (k : Nat) (h : k < l.length) (hl : l.length = m.length) (he : l.take k = m.take k) (hs : l.getD k (0, 0, 0) = m.getD k (0, 0, 0)) : l.take (k + 1) = m.take (k + 1) := by
  rw [List.take_succ_eq_append_getElem h, List.take_succ_eq_append_getElem (by omega), he]
  simp [List.getD, h, show k < m.length by omega] at hs
  rw [hs]

def sgEq (s t : Sg) : Bool := s.1 == t.1 && (s.2.1 == t.2.1 && s.2.2 == t.2.2)
theorem sgEq_iff (s t : Sg) : sgEq s t = true ↔ s = t := by simp [sgEq, sg_eq' s t]
theorem eqSgn (s t : Sg) (w : World) : (Op.equalIn 10000 101 (.agg #[.int .u8 s.1, .int .i64 s.2.1, .int .i64 s.2.2]) (.agg #[.int .u8 t.1, .int .i64 t.2.1, .int .i64 t.2.2])).run Try.prog w = .ok (sgEq s t) w := by
  have u3 := Try.underlying3
  have a3 := Try.isAgg3
  have z3 := Try.sizeOf3
  have u5 := Try.underlying5
  have a5 := Try.isAgg5
  have z5 := Try.sizeOf5
  have hS : Try.prog.underlying 101 = some (.struct (Try.prog.fieldsOf 101)) := by kernel_rfl
  have hp : Try.prog.stoodInHeld 101 = false := by kernel_rfl
  rw [show (10000 : Nat) = 9999 + 1 from rfl, run_equalIn_agg w 9999 101 _ _ hS hp]
  simp only [Program.fieldsOf, Try.underlying101]
  go_simp
  by_cases h1 : s.1 = t.1 <;> by_cases h2 : s.2.1 = t.2.1 <;> by_cases h3 : s.2.2 = t.2.2 <;> simp [sgEq, h1, h2, h3]
theorem eqSgn_is {s t : Sg} {x : Bool} (h : sgEq s t = x) (w : World) : (Op.equalIn 10000 101 (.agg #[.int .u8 s.1, .int .i64 s.2.1, .int .i64 s.2.2]) (.agg #[.int .u8 t.1, .int .i64 t.2.1, .int .i64 t.2.2])).run Try.prog w = .ok x w := h ▸ eqSgn s t w
theorem noGuard : Try.prog.eqGuardType Try.prog.depth 101 = false := by kernel_rfl

set_option maxHeartbeats 1000000 in
theorem lmSigns_any (a : Option Addr) (n cap : Nat) (l : List Sg) (a' : Option Addr) (n' cap' : Nat) (m : List Sg) (w : World) (h : Txt w a n cap l) (h' : Txt w a' n' cap' m) :
    Calls Try.prog 67 #[.slice a n cap, .slice a' n' cap'] w fun e w' => e = .returned (.bool (decide (l = m))) ∧ ∃ q, w' = w.drewN q := by
  obtain ⟨rfl, hc, hm, hl⟩ := h
  obtain ⟨rfl, hc', hm', hl'⟩ := h'
  unfold maxLen at hm hm'
  by_cases hlen : l.length = m.length
  · have hbq : ((l.length : Int) != (m.length : Int)) = false := by simp [hlen]
    rcases hl with rfl | ⟨b, off, rfl, hbw, hl⟩
    · obtain rfl : m = [] := List.eq_nil_of_length_eq_zero (by simpa using hlen.symm)
      go_enter Try.func67, Try.ntmps67
      go_wp2_with fail
      refine wp_loop_rounds 1 ?_
      rw [rounds_succ]
      go_wp2_with fail
      go_ret
      exact ⟨rfl, 0, rfl⟩
    · rcases hl' with rfl | ⟨b', off', rfl, hbw', hl'⟩
      · obtain rfl : l = [] := List.eq_nil_of_length_eq_zero (by simpa using hlen)
        go_enter Try.func67, Try.ntmps67
        go_wp2_with fail
        refine wp_loop_rounds 1 ?_
        rw [rounds_succ]
        go_wp2_with fail
        go_ret
        exact ⟨rfl, 0, rfl⟩
      · have HL : Hid (l.length = m.length) := hlen
        have hl1 : l.length ≤ m.length := by omega
        have hl2 : m.length ≤ l.length := by omega
        clear hlen
        go_enter Try.func67, Try.ntmps67
        go_wp2_with fail
        go_loopw [5] (fun i wr => ∃ (k q : Nat), k ≤ l.length ∧ i = .int .i64 k ∧ l.take k = m.take k ∧ wr = w.drewN q) (fun i _ => l.length - (intOf i).toNat)
        case atStart => exact ⟨0, 0, Nat.zero_le _, rfl, by simp, rfl⟩
        case round =>
          obtain ⟨k, q, hk, rfl, ht, rfl⟩ := hrel
          have HT : Hid (l.take k = m.take k) := ht
          clear ht
          by_cases hlt : k < l.length
          · have hlt' : k < m.length := by omega
            have hi1 : (k : Int) < (l.length : Int) := by omega
            have hi2 : (k : Int) < (m.length : Int) := by omega
            obtain ⟨c0, c1, c2⟩ := hl k hlt
            obtain ⟨d0, d1, d2⟩ := hl' k hlt'
            clear hl hl'
            obtain ⟨s, hs⟩ : ∃ s, s = l.getD k (0, 0, 0) := ⟨_, rfl⟩
            obtain ⟨t, ht⟩ : ∃ t, t = m.getD k (0, 0, 0) := ⟨_, rfl⟩
            rw [← hs] at c0 c1 c2
            rw [← ht] at d0 d1 d2
            have HS : Hid (s = l.getD k (0, 0, 0)) := hs
            have HM : Hid (t = m.getD k (0, 0, 0)) := ht
            clear hs ht
            have hgd := noGuard
            cases hb : sgEq s t
            · have hq := fun w => eqSgn_is hb w
              have HF : Hid (decide (l = m) = false) := by
                refine decide_eq_false (fun e => ?_)
                have e2 : s = t := by rw [HS.out, HM.out, e]
                rw [(sgEq_iff s t).2 e2] at hb
                exact absurd hb (by decide)
              clear hb
              go_wp2_with fail
              go_quiet (fail)
              go_wp2_with fail
              go_ret
              exact ⟨by rw [HF.out]; rfl, q + nq, by first | rfl | rw [World.drewN_drewN]⟩
            · have hq := fun w => eqSgn_is hb w
              have HB : Hid (s = t) := (sgEq_iff s t).1 hb
              clear hb
              go_wp2_with fail
              go_quiet (fail)
              go_wp2_with fail
              go_roundw
              case rel => exact ⟨k + 1, q + nq, by omega, by go_num, take_eq_succ' l m k hlt HL.out HT.out (by rw [← HS.out, ← HM.out]; exact HB.out), by first | rfl | rw [World.drewN_drewN]⟩
              case measure => simp [intOf]; omega
          · go_wp2_with fail
            go_ret
            refine ⟨?_, q, rfl⟩
            have := HT.out
            rw [List.take_of_length_le (by omega), List.take_of_length_le (by omega)] at this
            rw [decide_eq_true this]; rfl
  · have hbq : ((l.length : Int) != (m.length : Int)) = true := by simp; omega
    rw [decide_eq_false (fun e => hlen (by rw [e]))]
    go_enter Try.func67, Try.ntmps67
    go_wp2_with fail
    go_ret
    exact ⟨rfl, 0, rfl⟩

theorem lmSigns_is {a : Option Addr} {n cap : Nat} {l : List Sg} {a' : Option Addr} {n' cap' : Nat} {m : List Sg} {w : World} {x : Bool} (h : Txt w a n cap l) (h' : Txt w a' n' cap' m) (hx : decide (l = m) = x) :
    Calls Try.prog 67 #[.slice a n cap, .slice a' n' cap'] w fun e w' => e = .returned (.bool x) ∧ Below w.heap.size w w' := by
  refine (lmSigns_any a n cap l a' n' cap' m w h h').mono ?_
  rintro e w' ⟨rfl, q, rfl⟩
  exact ⟨by rw [hx], below_drewN (Below.refl _ _) _⟩
theorem lmSigns_same {a : Option Addr} {n cap : Nat} {l : List Sg} {a' : Option Addr} {n' cap' : Nat} {w : World} (h : Txt w a n cap l) (h' : Txt w a' n' cap' l) :
    Calls Try.prog 67 #[.slice a n cap, .slice a' n' cap'] w fun e w' => e = .returned (.bool true) ∧ Below w.heap.size w w' := lmSigns_is h h' (decide_eq_true rfl)
end Go.Proofs.Ytdcebaneobkcoaa
namespace Go.Proofs.Ytdcebaneobkcoaa
open Go.RowKit

theorem lmSigns_eq {a : Option Addr} {n cap : Nat} {l : List Sg} {a' : Option Addr} {n' cap' : Nat} {w : World} (h : Txt w a n cap l) (h' : Txt w a' n' cap' l) :
    Calls Try.prog 67 #[.slice a n cap, .slice a' n' cap'] w fun e w' => e = .returned (.bool true) ∧ Below w.heap.size w w' := by
  refine (lmSigns_any a n cap l a' n' cap' l w h h').mono ?_
  rintro e w' ⟨rfl, q, rfl⟩
  exact ⟨by rw [decide_eq_true rfl], below_drewN (Below.refl _ _) _⟩
set_option maxRecDepth 100000 in
set_option maxHeartbeats 4000000 in
theorem lmTable_same (R C : Int) (a : Option Addr) (n cap : Nat) (l : List Cl) (a' : Option Addr) (n' cap' : Nat) (w : World) (h : Tab w a n cap l) (h' : Tab w a' n' cap' l) :
    Calls Try.prog 68 #[.agg #[.int .i64 R, .int .i64 C, .slice a n cap], .agg #[.int .i64 R, .int .i64 C, .slice a' n' cap']] w fun e w' => e = .returned (.bool true) ∧ Below w.heap.size w w' := by
  have H : Hid (Tab w a n cap l) := h
  have H' : Hid (Tab w a' n' cap' l) := h'
  obtain ⟨rfl, hc, hm, -⟩ := h
  obtain ⟨rfl, hc', hm', -⟩ := h'
  unfold maxLen at hm hm'
  go_enter Try.func68, Try.ntmps68
  go_upto_region 1 with fail
  have B0 : Below w.heap.size w ((w.alloc (.cells #[.int .i64 R, .int .i64 C, .slice a l.length cap] 38)).alloc (.cells #[.int .i64 R, .int .i64 C, .slice a' l.length cap'] 38)) := ((Below.refl _ _).alloc (Nat.le_refl _) _).alloc (by simp) _
  have G0 : RowAt ((w.alloc (.cells #[.int .i64 R, .int .i64 C, .slice a l.length cap] 38)).alloc (.cells #[.int .i64 R, .int .i64 C, .slice a' l.length cap'] 38)) w.heap.size #[.int .i64 R, .int .i64 C, .slice a l.length cap] 38 := (rowAt_new w _ _).alloc _
  have G1 : RowAt ((w.alloc (.cells #[.int .i64 R, .int .i64 C, .slice a l.length cap] 38)).alloc (.cells #[.int .i64 R, .int .i64 C, .slice a' l.length cap'] 38)) (w.heap.size + 1) #[.int .i64 R, .int .i64 C, .slice a' l.length cap'] 38 := by
    have := rowAt_new (w.alloc (.cells #[.int .i64 R, .int .i64 C, .slice a l.length cap] 38)) #[.int .i64 R, .int .i64 C, .slice a' l.length cap'] 38
    simpa using this
  generalize ((w.alloc (.cells #[.int .i64 R, .int .i64 C, .slice a l.length cap] 38)).alloc (.cells #[.int .i64 R, .int .i64 C, .slice a' l.length cap'] 38)) = v at B0 G0 G1 ⊢
  have k0 : v.cell? ⟨w.heap.size, 0, none⟩ = some (.int .i64 R) := G0.cell 0
  have k1 : v.cell? ⟨w.heap.size, 1, none⟩ = some (.int .i64 C) := G0.cell 1
  have k2 : v.cell? ⟨w.heap.size, 2, none⟩ = some (.slice a l.length cap) := G0.cell 2
  have j0 : v.cell? ⟨w.heap.size + 1, 0, none⟩ = some (.int .i64 R) := G1.cell 0
  have j1 : v.cell? ⟨w.heap.size + 1, 1, none⟩ = some (.int .i64 C) := G1.cell 1
  have j2 : v.cell? ⟨w.heap.size + 1, 2, none⟩ = some (.slice a' l.length cap') := G1.cell 2
  have z0 := G0.lt
  have z1 := G1.lt
  have s0 := B0.size
  have HG0 : Hid (RowAt v w.heap.size #[.int .i64 R, .int .i64 C, .slice a l.length cap] 38) := G0
  have HG1 : Hid (RowAt v (w.heap.size + 1) #[.int .i64 R, .int .i64 C, .slice a' l.length cap'] 38) := G1
  clear G0 G1
  go_wp2_with fail
  go_loopw [5] (fun iv wr => ∃ i : Nat, i ≤ l.length ∧ iv = .int .i64 i ∧ Below v.heap.size v wr) (fun iv _ => l.length - (intOf iv).toNat)
  case atStart => exact ⟨0, Nat.zero_le _, rfl, Below.refl _ _⟩
  case round =>
    clear k0 k1 k2 j0 j1 j2
    obtain ⟨i, hi, rfl, hb⟩ := hrel
    have HB : Hid (Below v.heap.size v wr) := hb
    have HW : Hid (Below w.heap.size w wr) := B0.trans (hb.mono s0)
    have k2 : wr.cell? ⟨w.heap.size, 2, none⟩ = some (.slice a l.length cap) := (HG0.out.below hb z0).cell 2
    have j2 : wr.cell? ⟨w.heap.size + 1, 2, none⟩ = some (.slice a' l.length cap') := (HG1.out.below hb z1).cell 2
    have sz := hb.size
    clear hb
    by_cases hlt : i < l.length
    · rcases H.out.2.2.2 with e | ⟨b, off, rfl, hbw, hl⟩
      · rw [e] at hlt
        exact absurd hlt (by simp)
      rcases H'.out.2.2.2 with e | ⟨b', off', rfl, hbw', hl'⟩
      · rw [e] at hlt
        exact absurd hlt (by simp)
      obtain ⟨c0, c1, c2, c3, ta, tn, tc, c4, htx⟩ := (hl i hlt).below HW.out hbw
      have hcell' := (hl' i hlt)
      obtain ⟨⟨r, c, d, g, tx⟩, hx⟩ : ∃ x, x = l.getD i cl0 := ⟨_, rfl⟩
      rw [← hx] at c0 c1 c2 c3 htx hcell'
      simp only at c0 c1 c2 c3 htx
      have HTX : Hid (Txt wr ta tn tc tx) := htx
      have HC' : Hid (CellAt w b' (off' + i * 5) (r, c, d, g, tx)) := hcell'
      clear hl hl' hx htx hcell'
      go_upto_region 7 with fail
      have bA : Below wr.heap.size wr (wr.alloc (Obj.cells #[.int .i64 r, .int .i64 c, .int .i64 d, .int .i64 g, .slice ta tn tc] 74)) := (Below.refl _ _).alloc (Nat.le_refl _) _
      have RA : RowAt (wr.alloc (Obj.cells #[.int .i64 r, .int .i64 c, .int .i64 d, .int .i64 g, .slice ta tn tc] 74)) wr.heap.size #[.int .i64 r, .int .i64 c, .int .i64 d, .int .i64 g, .slice ta tn tc] 74 := rowAt_new _ _ _
      clear c0 c1 c2 c3 c4 k2
      generalize (wr.alloc (Obj.cells #[.int .i64 r, .int .i64 c, .int .i64 d, .int .i64 g, .slice ta tn tc] 74)) = w1 at bA RA ⊢
      have zr : w.heap.size + 1 < wr.heap.size := by omega
      have m2 := (bA.cell (p := ⟨w.heap.size + 1, 2, none⟩) zr).trans j2
      have s1 := bA.size
      obtain ⟨c0, c1, c2, c3, ua, un, uc, c4, hux⟩ := HC'.out.below (HW.out.trans (bA.mono (by omega))) hbw'
      simp only at c0 c1 c2 c3 hux
      have HUX : Hid (Txt w1 ua un uc tx) := hux
      clear hux j2
      go_upto_region 8 with fail
      have bB : Below wr.heap.size wr (w1.alloc (Obj.cells #[.int .i64 r, .int .i64 c, .int .i64 d, .int .i64 g, .slice ua un uc] 74)) := bA.alloc s1 _
      have RB : RowAt (w1.alloc (Obj.cells #[.int .i64 r, .int .i64 c, .int .i64 d, .int .i64 g, .slice ua un uc] 74)) w1.heap.size #[.int .i64 r, .int .i64 c, .int .i64 d, .int .i64 g, .slice ua un uc] 74 := rowAt_new _ _ _
      have RA2 : RowAt (w1.alloc (Obj.cells #[.int .i64 r, .int .i64 c, .int .i64 d, .int .i64 g, .slice ua un uc] 74)) wr.heap.size #[.int .i64 r, .int .i64 c, .int .i64 d, .int .i64 g, .slice ta tn tc] 74 := RA.alloc _
      have HU2 : Hid (Txt (w1.alloc (Obj.cells #[.int .i64 r, .int .i64 c, .int .i64 d, .int .i64 g, .slice ua un uc] 74)) ua un uc tx) := HUX.out.below ((Below.refl _ _).alloc (Nat.le_refl _) _)
      clear c0 c1 c2 c3 c4 m2 RA
      generalize (w1.alloc (Obj.cells #[.int .i64 r, .int .i64 c, .int .i64 d, .int .i64 g, .slice ua un uc] 74)) = w2 at bB RB RA2 HU2 ⊢
      have a0 : w2.cell? ⟨wr.heap.size, 0, none⟩ = some (.int .i64 r) := RA2.cell 0
      have a1 : w2.cell? ⟨wr.heap.size, 1, none⟩ = some (.int .i64 c) := RA2.cell 1
      have a2 : w2.cell? ⟨wr.heap.size, 2, none⟩ = some (.int .i64 d) := RA2.cell 2
      have a3 : w2.cell? ⟨wr.heap.size, 3, none⟩ = some (.int .i64 g) := RA2.cell 3
      have a4 : w2.cell? ⟨wr.heap.size, 4, none⟩ = some (.slice ta tn tc) := RA2.cell 4
      have b0 : w2.cell? ⟨w1.heap.size, 0, none⟩ = some (.int .i64 r) := RB.cell 0
      have b1 : w2.cell? ⟨w1.heap.size, 1, none⟩ = some (.int .i64 c) := RB.cell 1
      have b2 : w2.cell? ⟨w1.heap.size, 2, none⟩ = some (.int .i64 d) := RB.cell 2
      have b3 : w2.cell? ⟨w1.heap.size, 3, none⟩ = some (.int .i64 g) := RB.cell 3
      have b4 : w2.cell? ⟨w1.heap.size, 4, none⟩ = some (.slice ua un uc) := RB.cell 4
      clear RB RA2
      go_wp2_with (go_at_call 67; refine (lmSigns_eq (HTX.out.below bB) HU2.out).mono ?_; rintro e w3 ⟨rfl, hb3⟩)
      go_roundw
      case rel => exact ⟨i + 1, by omega, by go_num, HB.out.trans ((bB.trans (hb3.mono bB.size)).mono sz)⟩
      case measure => simp [intOf]; omega
    · go_wp2_with fail
      go_ret
      exact ⟨rfl, HW.out⟩
end Go.Proofs.Ytdcebaneobkcoaa
namespace Go.Proofs.Ytdcebaneobkcoaa
open Go.RowKit

set_option maxRecDepth 100000 in
set_option maxHeartbeats 4000000 in
theorem lmBlock_same {k v : Int} {ta : Option Addr} {tn tc : Nat} {R C : Int} {ca : Option Addr} {cn cc : Nat} {ta' : Option Addr} {tn' tc' : Nat} {ca' : Option Addr} {cn' cc' : Nat} {t : List Sg} {l : List Cl} {w : World} (ht : Txt w ta tn tc t) (hc : Tab w ca cn cc l) (ht' : Txt w ta' tn' tc' t) (hc' : Tab w ca' cn' cc' l) :
    Calls Try.prog 42 #[.agg #[.int .i64 k, .int .i64 v, .slice ta tn tc, .int .i64 R, .int .i64 C, .slice ca cn cc], .agg #[.int .i64 k, .int .i64 v, .slice ta' tn' tc', .int .i64 R, .int .i64 C, .slice ca' cn' cc']] w fun e w' => e = .returned (.bool true) ∧ Below w.heap.size w w' := by
  have HT : Hid (Txt w ta tn tc t) := ht
  have HC : Hid (Tab w ca cn cc l) := hc
  have HT' : Hid (Txt w ta' tn' tc' t) := ht'
  have HC' : Hid (Tab w ca' cn' cc' l) := hc'
  clear ht hc ht' hc'
  have hk : (k == k) = true := by simp
  have hv : (v == v) = true := by simp
  have bb : Below w.heap.size w ((w.alloc (.cells #[.int .i64 k, .int .i64 v, .slice ta tn tc, .int .i64 R, .int .i64 C, .slice ca cn cc] 40)).alloc (.cells #[.int .i64 k, .int .i64 v, .slice ta' tn' tc', .int .i64 R, .int .i64 C, .slice ca' cn' cc'] 40)) := ((Below.refl _ _).alloc (Nat.le_refl _) _).alloc (by simp) _
  have q3 : ∀ w1, Below ((w.alloc (.cells #[.int .i64 k, .int .i64 v, .slice ta tn tc, .int .i64 R, .int .i64 C, .slice ca cn cc] 40)).alloc (.cells #[.int .i64 k, .int .i64 v, .slice ta' tn' tc', .int .i64 R, .int .i64 C, .slice ca' cn' cc'] 40)).heap.size ((w.alloc (.cells #[.int .i64 k, .int .i64 v, .slice ta tn tc, .int .i64 R, .int .i64 C, .slice ca cn cc] 40)).alloc (.cells #[.int .i64 k, .int .i64 v, .slice ta' tn' tc', .int .i64 R, .int .i64 C, .slice ca' cn' cc'] 40)) w1 → RowAt w1 w.heap.size #[.int .i64 k, .int .i64 v, .slice ta tn tc, .int .i64 R, .int .i64 C, .slice ca cn cc] 40 ∧ RowAt w1 (w.heap.size + 1) #[.int .i64 k, .int .i64 v, .slice ta' tn' tc', .int .i64 R, .int .i64 C, .slice ca' cn' cc'] 40 := fun w1 h => by
    refine ⟨((rowAt_new w _ _).alloc _).below h (by simp; omega), ?_⟩
    have := (rowAt_new (w.alloc (.cells #[.int .i64 k, .int .i64 v, .slice ta tn tc, .int .i64 R, .int .i64 C, .slice ca cn cc] 40)) #[.int .i64 k, .int .i64 v, .slice ta' tn' tc', .int .i64 R, .int .i64 C, .slice ca' cn' cc'] 40).below h (by simp)
    simpa using this
  have HQ : Hid _ := q3
  clear q3
  go_enter Try.func42, Try.ntmps42
  go_wp2_with (first | (go_at_call 67; refine (lmSigns_eq (HT.out.below bb) (HT'.out.below bb)).mono ?_; rintro e w1 ⟨rfl, hb1⟩; have a3 := (HQ.out w1 hb1).1.cell 3; have a4 := (HQ.out w1 hb1).1.cell 4; have a5 := (HQ.out w1 hb1).1.cell 5; have b3 := (HQ.out w1 hb1).2.cell 3; have b4 := (HQ.out w1 hb1).2.cell 4; have b5 := (HQ.out w1 hb1).2.cell 5; simp at a3 a4 a5 b3 b4 b5) | (go_at_call 68; refine (lmTable_same R C _ _ _ l _ _ _ _ ((HC.out.below bb).below hb1) ((HC'.out.below bb).below hb1)).mono ?_; rintro e w2 ⟨rfl, hb2⟩))
  go_ret
  exact ⟨rfl, (bb.trans (hb1.mono bb.size)).trans (hb2.mono (Nat.le_trans bb.size hb1.size))⟩
set_option maxRecDepth 100000 in
set_option maxHeartbeats 4000000 in
theorem lmDoc_same {a : Option Addr} {n cap : Nat} {a' : Option Addr} {n' cap' : Nat} {d : List Bl} {w : World} (h : Dc w a n cap d) (h' : Dc w a' n' cap' d) :
    Calls Try.prog 14 #[.agg #[.slice a n cap], .agg #[.slice a' n' cap']] w fun e w' => e = .returned (.bool true) ∧ Below w.heap.size w w' := by
  obtain ⟨rfl, hc, hm, hl⟩ := h
  obtain ⟨rfl, hc', hm', hl'⟩ := h'
  unfold maxLen at hm hm'
  have hbq : ((d.length : Int) != (d.length : Int)) = false := by simp
  have HL : Hid (d = [] ∨ ∃ b off, a = some ⟨b, off, none⟩ ∧ b < w.heap.size ∧ ∀ k, k < d.length → BlockAt w b (off + k * 6) (d.getD k bl0)) := hl
  have HL' : Hid (d = [] ∨ ∃ b off, a' = some ⟨b, off, none⟩ ∧ b < w.heap.size ∧ ∀ k, k < d.length → BlockAt w b (off + k * 6) (d.getD k bl0)) := hl'
  clear hl hl'
  go_enter Try.func14, Try.ntmps14
  go_upto_region 1 with fail
  have B0 : Below w.heap.size w ((w.alloc (.cells #[.slice a d.length cap] 25)).alloc (.cells #[.slice a' d.length cap'] 25)) := ((Below.refl _ _).alloc (Nat.le_refl _) _).alloc (by simp) _
  have G0 : RowAt ((w.alloc (.cells #[.slice a d.length cap] 25)).alloc (.cells #[.slice a' d.length cap'] 25)) w.heap.size #[.slice a d.length cap] 25 := (rowAt_new w _ _).alloc _
  have G1 : RowAt ((w.alloc (.cells #[.slice a d.length cap] 25)).alloc (.cells #[.slice a' d.length cap'] 25)) (w.heap.size + 1) #[.slice a' d.length cap'] 25 := by
    have := rowAt_new (w.alloc (.cells #[.slice a d.length cap] 25)) #[.slice a' d.length cap'] 25
    simpa using this
  generalize ((w.alloc (.cells #[.slice a d.length cap] 25)).alloc (.cells #[.slice a' d.length cap'] 25)) = v0 at B0 G0 G1 ⊢
  have k0 : v0.cell? ⟨w.heap.size, 0, none⟩ = some (.slice a d.length cap) := G0.cell 0
  have k1 : v0.cell? ⟨w.heap.size + 1, 0, none⟩ = some (.slice a' d.length cap') := G1.cell 0
  have z0 := G0.lt
  have z1 := G1.lt
  have s0 := B0.size
  have HG0 : Hid (RowAt v0 w.heap.size #[.slice a d.length cap] 25) := G0
  have HG1 : Hid (RowAt v0 (w.heap.size + 1) #[.slice a' d.length cap'] 25) := G1
  have HB0 : Hid (Below w.heap.size w v0) := B0
  clear G0 G1 B0
  go_wp2_with fail
  go_loopw [5] (fun i wr => ∃ (k : Nat), k ≤ d.length ∧ i = .int .i64 k ∧ Below v0.heap.size v0 wr) (fun i _ => d.length - (intOf i).toNat)
  case atStart => exact ⟨0, Nat.zero_le _, rfl, Below.refl _ _⟩
  case round =>
    obtain ⟨k, hk, rfl, hbv⟩ := hrel
    have hsv := hbv.size
    have hbl : Below w.heap.size w wr := HB0.out.trans (hbv.mono s0)
    have hsz := hbl.size
    have HBV : Hid (Below v0.heap.size v0 wr) := hbv
    clear k0 k1
    have k0 : wr.cell? ⟨w.heap.size, 0, none⟩ = some (.slice a d.length cap) := (HG0.out.below hbv z0).cell 0
    have k1 : wr.cell? ⟨w.heap.size + 1, 0, none⟩ = some (.slice a' d.length cap') := (HG1.out.below hbv z1).cell 0
    clear hbv
    have HB : Hid (Below w.heap.size w wr) := hbl
    by_cases hlt : k < d.length
    · rcases HL.out with e | ⟨b, off, rfl, hbw, hl⟩
      · rw [e] at hlt
        exact absurd hlt (by simp)
      rcases HL'.out with e | ⟨b', off', rfl, hbw', hl'⟩
      · rw [e] at hlt
        exact absurd hlt (by simp)
      obtain ⟨ta, tn, tc, ca, cn, cc, hblk⟩ := (hl k hlt).below hbl hbw
      obtain ⟨ta', tn', tc', ca', cn', cc', hblk'⟩ := (hl' k hlt).below hbl hbw'
      clear hl hl'
      obtain ⟨⟨K, V, t, R, C, l⟩, hs⟩ : ∃ s, s = d.getD k bl0 := ⟨_, rfl⟩
      rw [← hs] at hblk hblk'
      obtain ⟨c0, c1, c2, c3, c4, c5, htx, htb⟩ := hblk
      obtain ⟨d0, d1, d2, d3, d4, d5, htx', htb'⟩ := hblk'
      simp only at c0 c1 c3 c4 htx htb d0 d1 d3 d4 htx' htb'
      have HT : Hid (Txt wr ta tn tc t) := htx
      have HT' : Hid (Txt wr ta' tn' tc' t) := htx'
      have HC : Hid (Tab wr ca cn cc l) := htb
      have HC' : Hid (Tab wr ca' cn' cc' l) := htb'
      clear hs htx htx' htb htb' hbl
      go_wp2_with fail
      go_region_with (go_at_call 42; refine (lmBlock_same (HT.out.below (Below.refl _ _).drew) (HC.out.below (Below.refl _ _).drew) (HT'.out.below (Below.refl _ _).drew) (HC'.out.below (Below.refl _ _).drew)).mono ?_; rintro e w1 ⟨rfl, hb1⟩)
      all_goals
        go_wp2_with fail
        go_roundw
        case rel => exact ⟨k + 1, by omega, by go_num, HBV.out.drew.trans (hb1.mono hsv)⟩
        case measure => simp [intOf]; omega
    · go_wp2_with fail
      go_ret
      exact ⟨rfl, HB.out⟩
end Go.Proofs.Ytdcebaneobkcoaa
namespace Go.Proofs.Ytdcebaneobkcoaa
open Go.RowKit

theorem isNoTable_is {R C : Int} {ca : Option Addr} {cn cc : Nat} {l : List Cl} {w : World} {x : Bool} (hx : noneB R C l = x) (h : Tab w ca cn cc l) :
    Calls Try.prog 79 #[.agg #[.int .i64 R, .int .i64 C, .slice ca cn cc]] w fun e w' => e = .returned (.bool x) ∧ Below w.heap.size w w' := by
  have hn := h.1
  have hl : (l = []) ↔ (cn = 0) := by rw [hn]; exact List.length_eq_zero_iff.symm
  have HX : Hid (noneB R C l = x) := hx
  have HL : Hid ((l = []) ↔ (cn = 0)) := hl
  clear h hn hl hx
  go_enter Try.func79, Try.ntmps79
  by_cases h1 : R = 0
  · by_cases h2 : C = 0
    · by_cases h3 : cn = 0
      · have HE : Hid (noneB R C l = true) := by
          show noneB R C l = true
          simp [noneB, h1, h2, HL.out.2 h3]
        have hxe : x = true := HX.out.symm.trans HE.out
        clear HE HX HL
        subst h1 h2 h3
        go_wp2
        all_goals go_ret
        all_goals exact ⟨by rw [hxe]; rfl, (Below.refl _ _).alloc (Nat.le_refl _) _⟩
      · have HE : Hid (noneB R C l = false) := by
          show noneB R C l = false
          simp [noneB, show ¬ l = [] from fun e => h3 (HL.out.1 e)]
        have hxe : x = false := HX.out.symm.trans HE.out
        clear HE HX HL
        subst h1 h2
        go_wp2
        all_goals go_ret
        all_goals exact ⟨by rw [hxe]; simp [h3], (Below.refl _ _).alloc (Nat.le_refl _) _⟩
    · subst h1
      go_wp2
      all_goals go_ret
      all_goals exact ⟨by rw [← HX.out]; simp [noneB, h2], (Below.refl _ _).alloc (Nat.le_refl _) _⟩
  · go_wp2
    all_goals go_ret
    all_goals exact ⟨by rw [← HX.out]; simp [noneB, h1], (Below.refl _ _).alloc (Nat.le_refl _) _⟩
end Go.Proofs.Ytdcebaneobkcoaa
namespace Go.Proofs.Ytdcebaneobkcoaa
open Go.RowKit

/-- A part as a value, by a block's kind. -/
def partV (k v : Int) (ta : Option Addr) (tn tc : Nat) (R C : Int) (ca : Option Addr) (cn cc : Nat) : Value :=
  if k = 1 then .iface 109 (.agg #[.slice ta tn tc]) else if k = 2 then .iface 111 (.agg #[.int .i64 v, .slice ta tn tc]) else if k = 3 then .iface 125 (.agg #[.int .i64 R, .int .i64 C, .slice ca cn cc]) else .nilIface
/-- Whether a block has nothing that is not of its kind. -/
def partB (k v : Int) (t : List Sg) (R C : Int) (l : List Cl) : Bool :=
  if k = 1 then decide (v = 0) && noneB R C l else if k = 2 then noneB R C l else if k = 3 then decide (v = 0) && decide (t = []) else false
set_option maxRecDepth 100000 in
set_option maxHeartbeats 4000000 in
theorem partOf_is {k v : Int} {ta : Option Addr} {tn tc : Nat} {R C : Int} {ca : Option Addr} {cn cc : Nat} {t : List Sg} {l : List Cl} {w : World} (ht : Txt w ta tn tc t) (hc : Tab w ca cn cc l) :
    Calls Try.prog 61 #[.agg #[.int .i64 k, .int .i64 v, .slice ta tn tc, .int .i64 R, .int .i64 C, .slice ca cn cc]] w fun e w' => e = .returned (.tuple #[partV k v ta tn tc R C ca cn cc, .bool (partB k v t R C l)]) ∧ Below w.heap.size w w' := by
  obtain ⟨nb, HNB⟩ : ∃ b, Hid (noneB R C l = b) := ⟨_, rfl⟩
  have HTN : Hid ((t = []) ↔ (tn = 0)) := by
    have hn := ht.1
    show (t = []) ↔ (tn = 0)
    rw [hn]
    exact List.length_eq_zero_iff.symm
  go_enter Try.func61, Try.ntmps61
  go_upto_region 1 with fail
  have B0 : Below w.heap.size w (w.alloc (.cells #[.int .i64 k, .int .i64 v, .slice ta tn tc, .int .i64 R, .int .i64 C, .slice ca cn cc] 40)) := (Below.refl _ _).alloc (Nat.le_refl _) _
  have G0 : RowAt (w.alloc (.cells #[.int .i64 k, .int .i64 v, .slice ta tn tc, .int .i64 R, .int .i64 C, .slice ca cn cc] 40)) w.heap.size #[.int .i64 k, .int .i64 v, .slice ta tn tc, .int .i64 R, .int .i64 C, .slice ca cn cc] 40 := rowAt_new _ _ _
  generalize (w.alloc (.cells #[.int .i64 k, .int .i64 v, .slice ta tn tc, .int .i64 R, .int .i64 C, .slice ca cn cc] 40)) = v0 at B0 G0 ⊢
  have HC0 : Hid (Tab v0 ca cn cc l) := hc.below B0
  have HB0 : Hid (Below w.heap.size w v0) := B0
  have HG0 : Hid (RowAt v0 w.heap.size #[.int .i64 k, .int .i64 v, .slice ta tn tc, .int .i64 R, .int .i64 C, .slice ca cn cc] 40) := G0
  have q0 : v0.cell? ⟨w.heap.size, 0, none⟩ = some (.int .i64 k) := G0.cell 0
  clear B0 G0 ht hc
  by_cases h1 : k = 1
  · subst h1
    go_upto_region 3 with fail
    clear q0
    by_cases hv : v = 0
    · subst hv
      cases nb
      · refine wp_region_noPanic ?_
        refine wp_region_held_drew (S := fun w' => RowAt w' w.heap.size #[.int .i64 1, .int .i64 0, .slice ta tn tc, .int .i64 R, .int .i64 C, .slice ca cn cc] 40) (by kernel_rfl) HG0.out (fun hHeld => ?_)
        refine take_at 0 8 (.pointer (some ⟨w.heap.size, 2, none⟩)) rfl rfl (by kernel_rfl) (by kernel_rfl) (by kernel_rfl) (fun _ _ _ h => h) (Or.inl ⟨by kernel_rfl, fun w' hS' => by go_simp⟩) hHeld ?_
        (try simp only [Act.put, List.setIfInBounds_toArray, List.set_cons_zero, List.set_cons_succ])
        refine take_at 1 9 (.slice ta tn tc) rfl rfl (by kernel_rfl) (by kernel_rfl) (by kernel_rfl) (fun _ _ _ h => h) (Or.inl ⟨by kernel_rfl, fun w' hS' => by have hc := RowAt.cell hS' 2; go_simp⟩) hHeld ?_
        (try simp only [Act.put, List.setIfInBounds_toArray, List.set_cons_zero, List.set_cons_succ])
        refine take_at 2 10 (.agg #[.slice ta tn tc]) rfl rfl (by kernel_rfl) (by kernel_rfl) (by kernel_rfl) (fun _ _ _ h => h) (Or.inl ⟨by kernel_rfl, fun w' hS' => by go_simp⟩) hHeld ?_
        (try simp only [Act.put, List.setIfInBounds_toArray, List.set_cons_zero, List.set_cons_succ])
        refine take_at 3 11 (.iface 109 (.agg #[.slice ta tn tc])) rfl rfl (by kernel_rfl) (by kernel_rfl) (by kernel_rfl) (fun _ _ _ h => h) (Or.inl ⟨by kernel_rfl, fun w' hS' => by go_simp⟩) hHeld ?_
        (try simp only [Act.put, List.setIfInBounds_toArray, List.set_cons_zero, List.set_cons_succ])
        refine take_at 4 12 (.pointer (some ⟨w.heap.size, 1, none⟩)) rfl rfl (by kernel_rfl) (by kernel_rfl) (by kernel_rfl) (fun _ _ _ h => h) (Or.inl ⟨by kernel_rfl, fun w' hS' => by go_simp⟩) hHeld ?_
        (try simp only [Act.put, List.setIfInBounds_toArray, List.set_cons_zero, List.set_cons_succ])
        refine take_at 5 13 (.int .i64 0) rfl rfl (by kernel_rfl) (by kernel_rfl) (by kernel_rfl) (fun _ _ _ h => h) (Or.inl ⟨by kernel_rfl, fun w' hS' => by have hc := RowAt.cell hS' 1; go_simp⟩) hHeld ?_
        (try simp only [Act.put, List.setIfInBounds_toArray, List.set_cons_zero, List.set_cons_succ])
        refine take_at 6 14 (.bool true) rfl rfl (by kernel_rfl) (by kernel_rfl) (by kernel_rfl) (fun _ _ _ h => h) (Or.inl ⟨by kernel_rfl, fun w' hS' => by go_simp⟩) hHeld ?_
        (try simp only [Act.put, List.setIfInBounds_toArray, List.set_cons_zero, List.set_cons_succ])
        refine take_at 7 15 (.bool true) rfl rfl (by kernel_rfl) (by kernel_rfl) (by kernel_rfl) (fun _ _ _ h => h) (Or.inl ⟨by kernel_rfl, fun w' hS' => by go_simp⟩) hHeld ?_
        (try simp only [Act.put, List.setIfInBounds_toArray, List.set_cons_zero, List.set_cons_succ])
        refine take_at 8 16 (.pointer (some ⟨w.heap.size, 3, none⟩)) rfl rfl (by kernel_rfl) (by kernel_rfl) (by kernel_rfl) (fun _ _ _ h => h) (Or.inl ⟨by kernel_rfl, fun w' hS' => by go_simp⟩) hHeld ?_
        (try simp only [Act.put, List.setIfInBounds_toArray, List.set_cons_zero, List.set_cons_succ])
        refine take_at 9 17 (.agg #[.int .i64 R, .int .i64 C, .slice ca cn cc]) rfl rfl (by kernel_rfl) (by kernel_rfl) (by kernel_rfl) (fun _ _ _ h => h) (Or.inl ⟨by kernel_rfl, fun w' hS' => by have h3 := RowAt.cell hS' 3; have h4 := RowAt.cell hS' 4; have h5 := RowAt.cell hS' 5; go_simp⟩) hHeld ?_
        (try simp only [Act.put, List.setIfInBounds_toArray, List.set_cons_zero, List.set_cons_succ])
        have HC1 : Hid (Tab v0.drew ca cn cc l) := HC0.out.below ((Below.refl _ _).drew)
        have HB1 : Hid (Below w.heap.size w v0.drew) := HB0.out.drew
        generalize v0.drew = u0 at HC1 HB1 hHeld ⊢
        refine wpAnyH_ready (rs := [10]) (by kernel_rfl) (by simp) ?_
        refine AllReadyH.cons rfl (fun K0 hK => ?_) AllReadyH.nil
        go_simp
        go_at_call 79
        refine (isNoTable_is HNB.out HC1.out).mono ?_
        rintro e u1 ⟨rfl, hb⟩
        have HB2 : Hid (Below w.heap.size w u1) := HB1.out.trans (hb.mono HB1.out.size)
        go_wp2_with fail
        refine hK.out _ _ (hHeld.below hb hHeld.lt) (fun hHeld => ?_)
        clear hK K0
        (try simp only [Act.put, List.setIfInBounds_toArray, List.set_cons_zero, List.set_cons_succ])
        refine take_at 11 19 (.bool false) rfl rfl (by kernel_rfl) (by kernel_rfl) (by kernel_rfl) (fun _ _ _ h => h) (Or.inl ⟨by kernel_rfl, fun w' hS' => by go_simp⟩) hHeld ?_
        (try simp only [Act.put, List.setIfInBounds_toArray, List.set_cons_zero, List.set_cons_succ])
        refine take_at 12 2 (.iface 109 (.agg #[.slice ta tn tc])) rfl rfl (by kernel_rfl) (by kernel_rfl) (by kernel_rfl) (fun _ _ _ h => h) (Or.inl ⟨by kernel_rfl, fun w' hS' => by go_simp⟩) hHeld ?_
        (try simp only [Act.put, List.setIfInBounds_toArray, List.set_cons_zero, List.set_cons_succ])
        refine take_at 13 3 (.bool false) rfl rfl (by kernel_rfl) (by kernel_rfl) (by kernel_rfl) (fun _ _ _ h => h) (Or.inl ⟨by kernel_rfl, fun w' hS' => by go_simp⟩) hHeld ?_
        (try simp only [Act.put, List.setIfInBounds_toArray, List.set_cons_zero, List.set_cons_succ])
        refine wpAnyH_done (by kernel_rfl) ?_ _
        refine NoPanic.normal ?_
        clear hHeld
        go_wp2_with fail
        go_ret2
        exact ⟨by simp [partV, partB, HNB.out], HB2.out⟩
      · refine wp_region_noPanic ?_
        refine wp_region_held_drew (S := fun w' => RowAt w' w.heap.size #[.int .i64 1, .int .i64 0, .slice ta tn tc, .int .i64 R, .int .i64 C, .slice ca cn cc] 40) (by kernel_rfl) HG0.out (fun hHeld => ?_)
        refine take_at 0 8 (.pointer (some ⟨w.heap.size, 2, none⟩)) rfl rfl (by kernel_rfl) (by kernel_rfl) (by kernel_rfl) (fun _ _ _ h => h) (Or.inl ⟨by kernel_rfl, fun w' hS' => by go_simp⟩) hHeld ?_
        (try simp only [Act.put, List.setIfInBounds_toArray, List.set_cons_zero, List.set_cons_succ])
        refine take_at 1 9 (.slice ta tn tc) rfl rfl (by kernel_rfl) (by kernel_rfl) (by kernel_rfl) (fun _ _ _ h => h) (Or.inl ⟨by kernel_rfl, fun w' hS' => by have hc := RowAt.cell hS' 2; go_simp⟩) hHeld ?_
        (try simp only [Act.put, List.setIfInBounds_toArray, List.set_cons_zero, List.set_cons_succ])
        refine take_at 2 10 (.agg #[.slice ta tn tc]) rfl rfl (by kernel_rfl) (by kernel_rfl) (by kernel_rfl) (fun _ _ _ h => h) (Or.inl ⟨by kernel_rfl, fun w' hS' => by go_simp⟩) hHeld ?_
        (try simp only [Act.put, List.setIfInBounds_toArray, List.set_cons_zero, List.set_cons_succ])
        refine take_at 3 11 (.iface 109 (.agg #[.slice ta tn tc])) rfl rfl (by kernel_rfl) (by kernel_rfl) (by kernel_rfl) (fun _ _ _ h => h) (Or.inl ⟨by kernel_rfl, fun w' hS' => by go_simp⟩) hHeld ?_
        (try simp only [Act.put, List.setIfInBounds_toArray, List.set_cons_zero, List.set_cons_succ])
        refine take_at 4 12 (.pointer (some ⟨w.heap.size, 1, none⟩)) rfl rfl (by kernel_rfl) (by kernel_rfl) (by kernel_rfl) (fun _ _ _ h => h) (Or.inl ⟨by kernel_rfl, fun w' hS' => by go_simp⟩) hHeld ?_
        (try simp only [Act.put, List.setIfInBounds_toArray, List.set_cons_zero, List.set_cons_succ])
        refine take_at 5 13 (.int .i64 0) rfl rfl (by kernel_rfl) (by kernel_rfl) (by kernel_rfl) (fun _ _ _ h => h) (Or.inl ⟨by kernel_rfl, fun w' hS' => by have hc := RowAt.cell hS' 1; go_simp⟩) hHeld ?_
        (try simp only [Act.put, List.setIfInBounds_toArray, List.set_cons_zero, List.set_cons_succ])
        refine take_at 6 14 (.bool true) rfl rfl (by kernel_rfl) (by kernel_rfl) (by kernel_rfl) (fun _ _ _ h => h) (Or.inl ⟨by kernel_rfl, fun w' hS' => by go_simp⟩) hHeld ?_
        (try simp only [Act.put, List.setIfInBounds_toArray, List.set_cons_zero, List.set_cons_succ])
        refine take_at 7 15 (.bool true) rfl rfl (by kernel_rfl) (by kernel_rfl) (by kernel_rfl) (fun _ _ _ h => h) (Or.inl ⟨by kernel_rfl, fun w' hS' => by go_simp⟩) hHeld ?_
        (try simp only [Act.put, List.setIfInBounds_toArray, List.set_cons_zero, List.set_cons_succ])
        refine take_at 8 16 (.pointer (some ⟨w.heap.size, 3, none⟩)) rfl rfl (by kernel_rfl) (by kernel_rfl) (by kernel_rfl) (fun _ _ _ h => h) (Or.inl ⟨by kernel_rfl, fun w' hS' => by go_simp⟩) hHeld ?_
        (try simp only [Act.put, List.setIfInBounds_toArray, List.set_cons_zero, List.set_cons_succ])
        refine take_at 9 17 (.agg #[.int .i64 R, .int .i64 C, .slice ca cn cc]) rfl rfl (by kernel_rfl) (by kernel_rfl) (by kernel_rfl) (fun _ _ _ h => h) (Or.inl ⟨by kernel_rfl, fun w' hS' => by have h3 := RowAt.cell hS' 3; have h4 := RowAt.cell hS' 4; have h5 := RowAt.cell hS' 5; go_simp⟩) hHeld ?_
        (try simp only [Act.put, List.setIfInBounds_toArray, List.set_cons_zero, List.set_cons_succ])
        have HC1 : Hid (Tab v0.drew ca cn cc l) := HC0.out.below ((Below.refl _ _).drew)
        have HB1 : Hid (Below w.heap.size w v0.drew) := HB0.out.drew
        generalize v0.drew = u0 at HC1 HB1 hHeld ⊢
        refine wpAnyH_ready (rs := [10]) (by kernel_rfl) (by simp) ?_
        refine AllReadyH.cons rfl (fun K0 hK => ?_) AllReadyH.nil
        go_simp
        go_at_call 79
        refine (isNoTable_is HNB.out HC1.out).mono ?_
        rintro e u1 ⟨rfl, hb⟩
        have HB2 : Hid (Below w.heap.size w u1) := HB1.out.trans (hb.mono HB1.out.size)
        go_wp2_with fail
        refine hK.out _ _ (hHeld.below hb hHeld.lt) (fun hHeld => ?_)
        clear hK K0
        (try simp only [Act.put, List.setIfInBounds_toArray, List.set_cons_zero, List.set_cons_succ])
        refine take_at 11 19 (.bool true) rfl rfl (by kernel_rfl) (by kernel_rfl) (by kernel_rfl) (fun _ _ _ h => h) (Or.inl ⟨by kernel_rfl, fun w' hS' => by go_simp⟩) hHeld ?_
        (try simp only [Act.put, List.setIfInBounds_toArray, List.set_cons_zero, List.set_cons_succ])
        refine take_at 12 2 (.iface 109 (.agg #[.slice ta tn tc])) rfl rfl (by kernel_rfl) (by kernel_rfl) (by kernel_rfl) (fun _ _ _ h => h) (Or.inl ⟨by kernel_rfl, fun w' hS' => by go_simp⟩) hHeld ?_
        (try simp only [Act.put, List.setIfInBounds_toArray, List.set_cons_zero, List.set_cons_succ])
        refine take_at 13 3 (.bool true) rfl rfl (by kernel_rfl) (by kernel_rfl) (by kernel_rfl) (fun _ _ _ h => h) (Or.inl ⟨by kernel_rfl, fun w' hS' => by go_simp⟩) hHeld ?_
        (try simp only [Act.put, List.setIfInBounds_toArray, List.set_cons_zero, List.set_cons_succ])
        refine wpAnyH_done (by kernel_rfl) ?_ _
        refine NoPanic.normal ?_
        clear hHeld
        go_wp2_with fail
        go_ret2
        exact ⟨by simp [partV, partB, HNB.out], HB2.out⟩
    · refine wp_region_noPanic ?_
      refine wp_region_held_drew (S := fun w' => RowAt w' w.heap.size #[.int .i64 1, .int .i64 v, .slice ta tn tc, .int .i64 R, .int .i64 C, .slice ca cn cc] 40) (by kernel_rfl) HG0.out (fun hHeld => ?_)
      refine take_at 0 8 (.pointer (some ⟨w.heap.size, 2, none⟩)) rfl rfl (by kernel_rfl) (by kernel_rfl) (by kernel_rfl) (fun _ _ _ h => h) (Or.inl ⟨by kernel_rfl, fun w' hS' => by go_simp⟩) hHeld ?_
      (try simp only [Act.put, List.setIfInBounds_toArray, List.set_cons_zero, List.set_cons_succ])
      refine take_at 1 9 (.slice ta tn tc) rfl rfl (by kernel_rfl) (by kernel_rfl) (by kernel_rfl) (fun _ _ _ h => h) (Or.inl ⟨by kernel_rfl, fun w' hS' => by have hc := RowAt.cell hS' 2; go_simp⟩) hHeld ?_
      (try simp only [Act.put, List.setIfInBounds_toArray, List.set_cons_zero, List.set_cons_succ])
      refine take_at 2 10 (.agg #[.slice ta tn tc]) rfl rfl (by kernel_rfl) (by kernel_rfl) (by kernel_rfl) (fun _ _ _ h => h) (Or.inl ⟨by kernel_rfl, fun w' hS' => by go_simp⟩) hHeld ?_
      (try simp only [Act.put, List.setIfInBounds_toArray, List.set_cons_zero, List.set_cons_succ])
      refine take_at 3 11 (.iface 109 (.agg #[.slice ta tn tc])) rfl rfl (by kernel_rfl) (by kernel_rfl) (by kernel_rfl) (fun _ _ _ h => h) (Or.inl ⟨by kernel_rfl, fun w' hS' => by go_simp⟩) hHeld ?_
      (try simp only [Act.put, List.setIfInBounds_toArray, List.set_cons_zero, List.set_cons_succ])
      refine take_at 4 12 (.pointer (some ⟨w.heap.size, 1, none⟩)) rfl rfl (by kernel_rfl) (by kernel_rfl) (by kernel_rfl) (fun _ _ _ h => h) (Or.inl ⟨by kernel_rfl, fun w' hS' => by go_simp⟩) hHeld ?_
      (try simp only [Act.put, List.setIfInBounds_toArray, List.set_cons_zero, List.set_cons_succ])
      refine take_at 5 13 (.int .i64 v) rfl rfl (by kernel_rfl) (by kernel_rfl) (by kernel_rfl) (fun _ _ _ h => h) (Or.inl ⟨by kernel_rfl, fun w' hS' => by have hc := RowAt.cell hS' 1; go_simp⟩) hHeld ?_
      (try simp only [Act.put, List.setIfInBounds_toArray, List.set_cons_zero, List.set_cons_succ])
      refine take_at 6 14 (.bool false) rfl rfl (by kernel_rfl) (by kernel_rfl) (by kernel_rfl) (fun _ _ _ h => h) (Or.inl ⟨by kernel_rfl, fun w' hS' => by go_simp <;> omega⟩) hHeld ?_
      (try simp only [Act.put, List.setIfInBounds_toArray, List.set_cons_zero, List.set_cons_succ])
      refine take_at 7 15 (.bool false) rfl rfl (by kernel_rfl) (by kernel_rfl) (by kernel_rfl) (fun _ _ _ h => h) (Or.inl ⟨by kernel_rfl, fun w' hS' => by go_simp⟩) hHeld ?_
      (try simp only [Act.put, List.setIfInBounds_toArray, List.set_cons_zero, List.set_cons_succ])
      refine take_at 8 16 (undef) rfl rfl (by kernel_rfl) (by kernel_rfl) (by kernel_rfl) (fun _ _ _ h => h) (Or.inr ⟨by kernel_rfl, rfl⟩) hHeld ?_
      (try simp only [Act.put, List.setIfInBounds_toArray, List.set_cons_zero, List.set_cons_succ])
      refine take_at 9 17 (undef) rfl rfl (by kernel_rfl) (by kernel_rfl) (by kernel_rfl) (fun _ _ _ h => h) (Or.inr ⟨by kernel_rfl, rfl⟩) hHeld ?_
      (try simp only [Act.put, List.setIfInBounds_toArray, List.set_cons_zero, List.set_cons_succ])
      refine take_at 10 18 (undef) rfl rfl (by kernel_rfl) (by kernel_rfl) (by kernel_rfl) (fun _ _ _ h => h) (Or.inr ⟨by kernel_rfl, rfl⟩) hHeld ?_
      (try simp only [Act.put, List.setIfInBounds_toArray, List.set_cons_zero, List.set_cons_succ])
      refine take_at 11 19 (.bool false) rfl rfl (by kernel_rfl) (by kernel_rfl) (by kernel_rfl) (fun _ _ _ h => h) (Or.inl ⟨by kernel_rfl, fun w' hS' => by go_simp⟩) hHeld ?_
      (try simp only [Act.put, List.setIfInBounds_toArray, List.set_cons_zero, List.set_cons_succ])
      refine take_at 12 2 (.iface 109 (.agg #[.slice ta tn tc])) rfl rfl (by kernel_rfl) (by kernel_rfl) (by kernel_rfl) (fun _ _ _ h => h) (Or.inl ⟨by kernel_rfl, fun w' hS' => by go_simp⟩) hHeld ?_
      (try simp only [Act.put, List.setIfInBounds_toArray, List.set_cons_zero, List.set_cons_succ])
      refine take_at 13 3 (.bool false) rfl rfl (by kernel_rfl) (by kernel_rfl) (by kernel_rfl) (fun _ _ _ h => h) (Or.inl ⟨by kernel_rfl, fun w' hS' => by go_simp⟩) hHeld ?_
      (try simp only [Act.put, List.setIfInBounds_toArray, List.set_cons_zero, List.set_cons_succ])
      refine wpAnyH_done (by kernel_rfl) ?_ _
      refine NoPanic.normal ?_
      clear hHeld
      go_wp2_with fail
      go_ret2
      exact ⟨by simp [partV, partB, hv], HB0.out.drew⟩
  · by_cases h2 : k = 2
    · subst h2
      go_upto_region 5 with fail
      clear q0
      cases nb
      · refine wp_region_noPanic ?_
        refine wp_region_held_drew (S := fun w' => RowAt w' w.heap.size #[.int .i64 2, .int .i64 v, .slice ta tn tc, .int .i64 R, .int .i64 C, .slice ca cn cc] 40) (by kernel_rfl) HG0.out (fun hHeld => ?_)
        refine take_at 0 22 (.pointer (some ⟨w.heap.size, 1, none⟩)) rfl rfl (by kernel_rfl) (by kernel_rfl) (by kernel_rfl) (fun _ _ _ h => h) (Or.inl ⟨by kernel_rfl, fun w' hS' => by go_simp⟩) hHeld ?_
        (try simp only [Act.put, List.setIfInBounds_toArray, List.set_cons_zero, List.set_cons_succ])
        refine take_at 1 23 (.int .i64 v) rfl rfl (by kernel_rfl) (by kernel_rfl) (by kernel_rfl) (fun _ _ _ h => h) (Or.inl ⟨by kernel_rfl, fun w' hS' => by have hc := RowAt.cell hS' 1; go_simp⟩) hHeld ?_
        (try simp only [Act.put, List.setIfInBounds_toArray, List.set_cons_zero, List.set_cons_succ])
        refine take_at 2 24 (.pointer (some ⟨w.heap.size, 2, none⟩)) rfl rfl (by kernel_rfl) (by kernel_rfl) (by kernel_rfl) (fun _ _ _ h => h) (Or.inl ⟨by kernel_rfl, fun w' hS' => by go_simp⟩) hHeld ?_
        (try simp only [Act.put, List.setIfInBounds_toArray, List.set_cons_zero, List.set_cons_succ])
        refine take_at 3 25 (.slice ta tn tc) rfl rfl (by kernel_rfl) (by kernel_rfl) (by kernel_rfl) (fun _ _ _ h => h) (Or.inl ⟨by kernel_rfl, fun w' hS' => by have hc := RowAt.cell hS' 2; go_simp⟩) hHeld ?_
        (try simp only [Act.put, List.setIfInBounds_toArray, List.set_cons_zero, List.set_cons_succ])
        refine take_at 4 26 (.agg #[.int .i64 v, .slice ta tn tc]) rfl rfl (by kernel_rfl) (by kernel_rfl) (by kernel_rfl) (fun _ _ _ h => h) (Or.inl ⟨by kernel_rfl, fun w' hS' => by go_simp⟩) hHeld ?_
        (try simp only [Act.put, List.setIfInBounds_toArray, List.set_cons_zero, List.set_cons_succ])
        refine take_at 5 27 (.iface 111 (.agg #[.int .i64 v, .slice ta tn tc])) rfl rfl (by kernel_rfl) (by kernel_rfl) (by kernel_rfl) (fun _ _ _ h => h) (Or.inl ⟨by kernel_rfl, fun w' hS' => by go_simp⟩) hHeld ?_
        (try simp only [Act.put, List.setIfInBounds_toArray, List.set_cons_zero, List.set_cons_succ])
        refine take_at 6 28 (.pointer (some ⟨w.heap.size, 3, none⟩)) rfl rfl (by kernel_rfl) (by kernel_rfl) (by kernel_rfl) (fun _ _ _ h => h) (Or.inl ⟨by kernel_rfl, fun w' hS' => by go_simp⟩) hHeld ?_
        (try simp only [Act.put, List.setIfInBounds_toArray, List.set_cons_zero, List.set_cons_succ])
        refine take_at 7 29 (.agg #[.int .i64 R, .int .i64 C, .slice ca cn cc]) rfl rfl (by kernel_rfl) (by kernel_rfl) (by kernel_rfl) (fun _ _ _ h => h) (Or.inl ⟨by kernel_rfl, fun w' hS' => by have h3 := RowAt.cell hS' 3; have h4 := RowAt.cell hS' 4; have h5 := RowAt.cell hS' 5; go_simp⟩) hHeld ?_
        (try simp only [Act.put, List.setIfInBounds_toArray, List.set_cons_zero, List.set_cons_succ])
        have HC1 : Hid (Tab v0.drew ca cn cc l) := HC0.out.below ((Below.refl _ _).drew)
        have HB1 : Hid (Below w.heap.size w v0.drew) := HB0.out.drew
        generalize v0.drew = u0 at HC1 HB1 hHeld ⊢
        refine wpAnyH_ready (rs := [8]) (by kernel_rfl) (by simp) ?_
        refine AllReadyH.cons rfl (fun K0 hK => ?_) AllReadyH.nil
        go_simp
        go_at_call 79
        refine (isNoTable_is HNB.out HC1.out).mono ?_
        rintro e u1 ⟨rfl, hb⟩
        have HB2 : Hid (Below w.heap.size w u1) := HB1.out.trans (hb.mono HB1.out.size)
        go_wp2_with fail
        refine hK.out _ _ (hHeld.below hb hHeld.lt) (fun hHeld => ?_)
        clear hK K0
        (try simp only [Act.put, List.setIfInBounds_toArray, List.set_cons_zero, List.set_cons_succ])
        refine take_at 9 2 (.iface 111 (.agg #[.int .i64 v, .slice ta tn tc])) rfl rfl (by kernel_rfl) (by kernel_rfl) (by kernel_rfl) (fun _ _ _ h => h) (Or.inl ⟨by kernel_rfl, fun w' hS' => by go_simp⟩) hHeld ?_
        (try simp only [Act.put, List.setIfInBounds_toArray, List.set_cons_zero, List.set_cons_succ])
        refine take_at 10 3 (.bool false) rfl rfl (by kernel_rfl) (by kernel_rfl) (by kernel_rfl) (fun _ _ _ h => h) (Or.inl ⟨by kernel_rfl, fun w' hS' => by go_simp⟩) hHeld ?_
        (try simp only [Act.put, List.setIfInBounds_toArray, List.set_cons_zero, List.set_cons_succ])
        refine wpAnyH_done (by kernel_rfl) ?_ _
        refine NoPanic.normal ?_
        clear hHeld
        go_wp2_with fail
        go_ret2
        exact ⟨by simp [partV, partB, HNB.out], HB2.out⟩
      · refine wp_region_noPanic ?_
        refine wp_region_held_drew (S := fun w' => RowAt w' w.heap.size #[.int .i64 2, .int .i64 v, .slice ta tn tc, .int .i64 R, .int .i64 C, .slice ca cn cc] 40) (by kernel_rfl) HG0.out (fun hHeld => ?_)
        refine take_at 0 22 (.pointer (some ⟨w.heap.size, 1, none⟩)) rfl rfl (by kernel_rfl) (by kernel_rfl) (by kernel_rfl) (fun _ _ _ h => h) (Or.inl ⟨by kernel_rfl, fun w' hS' => by go_simp⟩) hHeld ?_
        (try simp only [Act.put, List.setIfInBounds_toArray, List.set_cons_zero, List.set_cons_succ])
        refine take_at 1 23 (.int .i64 v) rfl rfl (by kernel_rfl) (by kernel_rfl) (by kernel_rfl) (fun _ _ _ h => h) (Or.inl ⟨by kernel_rfl, fun w' hS' => by have hc := RowAt.cell hS' 1; go_simp⟩) hHeld ?_
        (try simp only [Act.put, List.setIfInBounds_toArray, List.set_cons_zero, List.set_cons_succ])
        refine take_at 2 24 (.pointer (some ⟨w.heap.size, 2, none⟩)) rfl rfl (by kernel_rfl) (by kernel_rfl) (by kernel_rfl) (fun _ _ _ h => h) (Or.inl ⟨by kernel_rfl, fun w' hS' => by go_simp⟩) hHeld ?_
        (try simp only [Act.put, List.setIfInBounds_toArray, List.set_cons_zero, List.set_cons_succ])
        refine take_at 3 25 (.slice ta tn tc) rfl rfl (by kernel_rfl) (by kernel_rfl) (by kernel_rfl) (fun _ _ _ h => h) (Or.inl ⟨by kernel_rfl, fun w' hS' => by have hc := RowAt.cell hS' 2; go_simp⟩) hHeld ?_
        (try simp only [Act.put, List.setIfInBounds_toArray, List.set_cons_zero, List.set_cons_succ])
        refine take_at 4 26 (.agg #[.int .i64 v, .slice ta tn tc]) rfl rfl (by kernel_rfl) (by kernel_rfl) (by kernel_rfl) (fun _ _ _ h => h) (Or.inl ⟨by kernel_rfl, fun w' hS' => by go_simp⟩) hHeld ?_
        (try simp only [Act.put, List.setIfInBounds_toArray, List.set_cons_zero, List.set_cons_succ])
        refine take_at 5 27 (.iface 111 (.agg #[.int .i64 v, .slice ta tn tc])) rfl rfl (by kernel_rfl) (by kernel_rfl) (by kernel_rfl) (fun _ _ _ h => h) (Or.inl ⟨by kernel_rfl, fun w' hS' => by go_simp⟩) hHeld ?_
        (try simp only [Act.put, List.setIfInBounds_toArray, List.set_cons_zero, List.set_cons_succ])
        refine take_at 6 28 (.pointer (some ⟨w.heap.size, 3, none⟩)) rfl rfl (by kernel_rfl) (by kernel_rfl) (by kernel_rfl) (fun _ _ _ h => h) (Or.inl ⟨by kernel_rfl, fun w' hS' => by go_simp⟩) hHeld ?_
        (try simp only [Act.put, List.setIfInBounds_toArray, List.set_cons_zero, List.set_cons_succ])
        refine take_at 7 29 (.agg #[.int .i64 R, .int .i64 C, .slice ca cn cc]) rfl rfl (by kernel_rfl) (by kernel_rfl) (by kernel_rfl) (fun _ _ _ h => h) (Or.inl ⟨by kernel_rfl, fun w' hS' => by have h3 := RowAt.cell hS' 3; have h4 := RowAt.cell hS' 4; have h5 := RowAt.cell hS' 5; go_simp⟩) hHeld ?_
        (try simp only [Act.put, List.setIfInBounds_toArray, List.set_cons_zero, List.set_cons_succ])
        have HC1 : Hid (Tab v0.drew ca cn cc l) := HC0.out.below ((Below.refl _ _).drew)
        have HB1 : Hid (Below w.heap.size w v0.drew) := HB0.out.drew
        generalize v0.drew = u0 at HC1 HB1 hHeld ⊢
        refine wpAnyH_ready (rs := [8]) (by kernel_rfl) (by simp) ?_
        refine AllReadyH.cons rfl (fun K0 hK => ?_) AllReadyH.nil
        go_simp
        go_at_call 79
        refine (isNoTable_is HNB.out HC1.out).mono ?_
        rintro e u1 ⟨rfl, hb⟩
        have HB2 : Hid (Below w.heap.size w u1) := HB1.out.trans (hb.mono HB1.out.size)
        go_wp2_with fail
        refine hK.out _ _ (hHeld.below hb hHeld.lt) (fun hHeld => ?_)
        clear hK K0
        (try simp only [Act.put, List.setIfInBounds_toArray, List.set_cons_zero, List.set_cons_succ])
        refine take_at 9 2 (.iface 111 (.agg #[.int .i64 v, .slice ta tn tc])) rfl rfl (by kernel_rfl) (by kernel_rfl) (by kernel_rfl) (fun _ _ _ h => h) (Or.inl ⟨by kernel_rfl, fun w' hS' => by go_simp⟩) hHeld ?_
        (try simp only [Act.put, List.setIfInBounds_toArray, List.set_cons_zero, List.set_cons_succ])
        refine take_at 10 3 (.bool true) rfl rfl (by kernel_rfl) (by kernel_rfl) (by kernel_rfl) (fun _ _ _ h => h) (Or.inl ⟨by kernel_rfl, fun w' hS' => by go_simp⟩) hHeld ?_
        (try simp only [Act.put, List.setIfInBounds_toArray, List.set_cons_zero, List.set_cons_succ])
        refine wpAnyH_done (by kernel_rfl) ?_ _
        refine NoPanic.normal ?_
        clear hHeld
        go_wp2_with fail
        go_ret2
        exact ⟨by simp [partV, partB, HNB.out], HB2.out⟩
    · by_cases h3 : k = 3
      · subst h3
        go_upto_region 7 with fail
        clear q0
        by_cases hv : v = 0
        · subst hv
          by_cases htn : tn = 0
          · have hte := HTN.out.2 htn
            refine wp_region_noPanic ?_
            refine wp_region_held_drew (S := fun w' => RowAt w' w.heap.size #[.int .i64 3, .int .i64 0, .slice ta tn tc, .int .i64 R, .int .i64 C, .slice ca cn cc] 40) (by kernel_rfl) HG0.out (fun hHeld => ?_)
            refine take_at 0 33 (.pointer (some ⟨w.heap.size, 3, none⟩)) rfl rfl (by kernel_rfl) (by kernel_rfl) (by kernel_rfl) (fun _ _ _ h => h) (Or.inl ⟨by kernel_rfl, fun w' hS' => by go_simp⟩) hHeld ?_
            (try simp only [Act.put, List.setIfInBounds_toArray, List.set_cons_zero, List.set_cons_succ])
            refine take_at 1 34 (.agg #[.int .i64 R, .int .i64 C, .slice ca cn cc]) rfl rfl (by kernel_rfl) (by kernel_rfl) (by kernel_rfl) (fun _ _ _ h => h) (Or.inl ⟨by kernel_rfl, fun w' hS' => by have h3 := RowAt.cell hS' 3; have h4 := RowAt.cell hS' 4; have h5 := RowAt.cell hS' 5; go_simp⟩) hHeld ?_
            (try simp only [Act.put, List.setIfInBounds_toArray, List.set_cons_zero, List.set_cons_succ])
            refine take_at 2 35 (.agg #[.int .i64 R, .int .i64 C, .slice ca cn cc]) rfl rfl (by kernel_rfl) (by kernel_rfl) (by kernel_rfl) (fun _ _ _ h => h) (Or.inl ⟨by kernel_rfl, fun w' hS' => by go_simp⟩) hHeld ?_
            (try simp only [Act.put, List.setIfInBounds_toArray, List.set_cons_zero, List.set_cons_succ])
            refine take_at 3 36 (.iface 125 (.agg #[.int .i64 R, .int .i64 C, .slice ca cn cc])) rfl rfl (by kernel_rfl) (by kernel_rfl) (by kernel_rfl) (fun _ _ _ h => h) (Or.inl ⟨by kernel_rfl, fun w' hS' => by go_simp⟩) hHeld ?_
            (try simp only [Act.put, List.setIfInBounds_toArray, List.set_cons_zero, List.set_cons_succ])
            refine take_at 4 37 (.pointer (some ⟨w.heap.size, 1, none⟩)) rfl rfl (by kernel_rfl) (by kernel_rfl) (by kernel_rfl) (fun _ _ _ h => h) (Or.inl ⟨by kernel_rfl, fun w' hS' => by go_simp⟩) hHeld ?_
            (try simp only [Act.put, List.setIfInBounds_toArray, List.set_cons_zero, List.set_cons_succ])
            refine take_at 5 38 (.int .i64 0) rfl rfl (by kernel_rfl) (by kernel_rfl) (by kernel_rfl) (fun _ _ _ h => h) (Or.inl ⟨by kernel_rfl, fun w' hS' => by have hc := RowAt.cell hS' 1; go_simp⟩) hHeld ?_
            (try simp only [Act.put, List.setIfInBounds_toArray, List.set_cons_zero, List.set_cons_succ])
            refine take_at 6 39 (.bool true) rfl rfl (by kernel_rfl) (by kernel_rfl) (by kernel_rfl) (fun _ _ _ h => h) (Or.inl ⟨by kernel_rfl, fun w' hS' => by go_simp⟩) hHeld ?_
            (try simp only [Act.put, List.setIfInBounds_toArray, List.set_cons_zero, List.set_cons_succ])
            refine take_at 7 40 (.bool true) rfl rfl (by kernel_rfl) (by kernel_rfl) (by kernel_rfl) (fun _ _ _ h => h) (Or.inl ⟨by kernel_rfl, fun w' hS' => by go_simp⟩) hHeld ?_
            (try simp only [Act.put, List.setIfInBounds_toArray, List.set_cons_zero, List.set_cons_succ])
            refine take_at 8 41 (.pointer (some ⟨w.heap.size, 2, none⟩)) rfl rfl (by kernel_rfl) (by kernel_rfl) (by kernel_rfl) (fun _ _ _ h => h) (Or.inl ⟨by kernel_rfl, fun w' hS' => by go_simp⟩) hHeld ?_
            (try simp only [Act.put, List.setIfInBounds_toArray, List.set_cons_zero, List.set_cons_succ])
            refine take_at 9 42 (.slice ta tn tc) rfl rfl (by kernel_rfl) (by kernel_rfl) (by kernel_rfl) (fun _ _ _ h => h) (Or.inl ⟨by kernel_rfl, fun w' hS' => by have hc := RowAt.cell hS' 2; go_simp⟩) hHeld ?_
            (try simp only [Act.put, List.setIfInBounds_toArray, List.set_cons_zero, List.set_cons_succ])
            refine take_at 10 43 (.int .i64 tn) rfl rfl (by kernel_rfl) (by kernel_rfl) (by kernel_rfl) (fun _ _ _ h => h) (Or.inl ⟨by kernel_rfl, fun w' hS' => by go_simp⟩) hHeld ?_
            (try simp only [Act.put, List.setIfInBounds_toArray, List.set_cons_zero, List.set_cons_succ])
            refine take_at 11 44 (.bool true) rfl rfl (by kernel_rfl) (by kernel_rfl) (by kernel_rfl) (fun _ _ _ h => h) (Or.inl ⟨by kernel_rfl, fun w' hS' => by go_simp <;> omega⟩) hHeld ?_
            (try simp only [Act.put, List.setIfInBounds_toArray, List.set_cons_zero, List.set_cons_succ])
            refine take_at 12 45 (.bool true) rfl rfl (by kernel_rfl) (by kernel_rfl) (by kernel_rfl) (fun _ _ _ h => h) (Or.inl ⟨by kernel_rfl, fun w' hS' => by go_simp⟩) hHeld ?_
            (try simp only [Act.put, List.setIfInBounds_toArray, List.set_cons_zero, List.set_cons_succ])
            refine take_at 13 2 (.iface 125 (.agg #[.int .i64 R, .int .i64 C, .slice ca cn cc])) rfl rfl (by kernel_rfl) (by kernel_rfl) (by kernel_rfl) (fun _ _ _ h => h) (Or.inl ⟨by kernel_rfl, fun w' hS' => by go_simp⟩) hHeld ?_
            (try simp only [Act.put, List.setIfInBounds_toArray, List.set_cons_zero, List.set_cons_succ])
            refine take_at 14 3 (.bool true) rfl rfl (by kernel_rfl) (by kernel_rfl) (by kernel_rfl) (fun _ _ _ h => h) (Or.inl ⟨by kernel_rfl, fun w' hS' => by go_simp⟩) hHeld ?_
            (try simp only [Act.put, List.setIfInBounds_toArray, List.set_cons_zero, List.set_cons_succ])
            refine wpAnyH_done (by kernel_rfl) ?_ _
            refine NoPanic.normal ?_
            clear hHeld
            go_wp2_with fail
            go_ret2
            exact ⟨by simp [partV, partB, hte], HB0.out.drew⟩
          · have hte : ¬ t = [] := fun e => htn (HTN.out.1 e)
            refine wp_region_noPanic ?_
            refine wp_region_held_drew (S := fun w' => RowAt w' w.heap.size #[.int .i64 3, .int .i64 0, .slice ta tn tc, .int .i64 R, .int .i64 C, .slice ca cn cc] 40) (by kernel_rfl) HG0.out (fun hHeld => ?_)
            refine take_at 0 33 (.pointer (some ⟨w.heap.size, 3, none⟩)) rfl rfl (by kernel_rfl) (by kernel_rfl) (by kernel_rfl) (fun _ _ _ h => h) (Or.inl ⟨by kernel_rfl, fun w' hS' => by go_simp⟩) hHeld ?_
            (try simp only [Act.put, List.setIfInBounds_toArray, List.set_cons_zero, List.set_cons_succ])
            refine take_at 1 34 (.agg #[.int .i64 R, .int .i64 C, .slice ca cn cc]) rfl rfl (by kernel_rfl) (by kernel_rfl) (by kernel_rfl) (fun _ _ _ h => h) (Or.inl ⟨by kernel_rfl, fun w' hS' => by have h3 := RowAt.cell hS' 3; have h4 := RowAt.cell hS' 4; have h5 := RowAt.cell hS' 5; go_simp⟩) hHeld ?_
            (try simp only [Act.put, List.setIfInBounds_toArray, List.set_cons_zero, List.set_cons_succ])
            refine take_at 2 35 (.agg #[.int .i64 R, .int .i64 C, .slice ca cn cc]) rfl rfl (by kernel_rfl) (by kernel_rfl) (by kernel_rfl) (fun _ _ _ h => h) (Or.inl ⟨by kernel_rfl, fun w' hS' => by go_simp⟩) hHeld ?_
            (try simp only [Act.put, List.setIfInBounds_toArray, List.set_cons_zero, List.set_cons_succ])
            refine take_at 3 36 (.iface 125 (.agg #[.int .i64 R, .int .i64 C, .slice ca cn cc])) rfl rfl (by kernel_rfl) (by kernel_rfl) (by kernel_rfl) (fun _ _ _ h => h) (Or.inl ⟨by kernel_rfl, fun w' hS' => by go_simp⟩) hHeld ?_
            (try simp only [Act.put, List.setIfInBounds_toArray, List.set_cons_zero, List.set_cons_succ])
            refine take_at 4 37 (.pointer (some ⟨w.heap.size, 1, none⟩)) rfl rfl (by kernel_rfl) (by kernel_rfl) (by kernel_rfl) (fun _ _ _ h => h) (Or.inl ⟨by kernel_rfl, fun w' hS' => by go_simp⟩) hHeld ?_
            (try simp only [Act.put, List.setIfInBounds_toArray, List.set_cons_zero, List.set_cons_succ])
            refine take_at 5 38 (.int .i64 0) rfl rfl (by kernel_rfl) (by kernel_rfl) (by kernel_rfl) (fun _ _ _ h => h) (Or.inl ⟨by kernel_rfl, fun w' hS' => by have hc := RowAt.cell hS' 1; go_simp⟩) hHeld ?_
            (try simp only [Act.put, List.setIfInBounds_toArray, List.set_cons_zero, List.set_cons_succ])
            refine take_at 6 39 (.bool true) rfl rfl (by kernel_rfl) (by kernel_rfl) (by kernel_rfl) (fun _ _ _ h => h) (Or.inl ⟨by kernel_rfl, fun w' hS' => by go_simp⟩) hHeld ?_
            (try simp only [Act.put, List.setIfInBounds_toArray, List.set_cons_zero, List.set_cons_succ])
            refine take_at 7 40 (.bool true) rfl rfl (by kernel_rfl) (by kernel_rfl) (by kernel_rfl) (fun _ _ _ h => h) (Or.inl ⟨by kernel_rfl, fun w' hS' => by go_simp⟩) hHeld ?_
            (try simp only [Act.put, List.setIfInBounds_toArray, List.set_cons_zero, List.set_cons_succ])
            refine take_at 8 41 (.pointer (some ⟨w.heap.size, 2, none⟩)) rfl rfl (by kernel_rfl) (by kernel_rfl) (by kernel_rfl) (fun _ _ _ h => h) (Or.inl ⟨by kernel_rfl, fun w' hS' => by go_simp⟩) hHeld ?_
            (try simp only [Act.put, List.setIfInBounds_toArray, List.set_cons_zero, List.set_cons_succ])
            refine take_at 9 42 (.slice ta tn tc) rfl rfl (by kernel_rfl) (by kernel_rfl) (by kernel_rfl) (fun _ _ _ h => h) (Or.inl ⟨by kernel_rfl, fun w' hS' => by have hc := RowAt.cell hS' 2; go_simp⟩) hHeld ?_
            (try simp only [Act.put, List.setIfInBounds_toArray, List.set_cons_zero, List.set_cons_succ])
            refine take_at 10 43 (.int .i64 tn) rfl rfl (by kernel_rfl) (by kernel_rfl) (by kernel_rfl) (fun _ _ _ h => h) (Or.inl ⟨by kernel_rfl, fun w' hS' => by go_simp⟩) hHeld ?_
            (try simp only [Act.put, List.setIfInBounds_toArray, List.set_cons_zero, List.set_cons_succ])
            refine take_at 11 44 (.bool false) rfl rfl (by kernel_rfl) (by kernel_rfl) (by kernel_rfl) (fun _ _ _ h => h) (Or.inl ⟨by kernel_rfl, fun w' hS' => by go_simp <;> omega⟩) hHeld ?_
            (try simp only [Act.put, List.setIfInBounds_toArray, List.set_cons_zero, List.set_cons_succ])
            refine take_at 12 45 (.bool false) rfl rfl (by kernel_rfl) (by kernel_rfl) (by kernel_rfl) (fun _ _ _ h => h) (Or.inl ⟨by kernel_rfl, fun w' hS' => by go_simp⟩) hHeld ?_
            (try simp only [Act.put, List.setIfInBounds_toArray, List.set_cons_zero, List.set_cons_succ])
            refine take_at 13 2 (.iface 125 (.agg #[.int .i64 R, .int .i64 C, .slice ca cn cc])) rfl rfl (by kernel_rfl) (by kernel_rfl) (by kernel_rfl) (fun _ _ _ h => h) (Or.inl ⟨by kernel_rfl, fun w' hS' => by go_simp⟩) hHeld ?_
            (try simp only [Act.put, List.setIfInBounds_toArray, List.set_cons_zero, List.set_cons_succ])
            refine take_at 14 3 (.bool false) rfl rfl (by kernel_rfl) (by kernel_rfl) (by kernel_rfl) (fun _ _ _ h => h) (Or.inl ⟨by kernel_rfl, fun w' hS' => by go_simp⟩) hHeld ?_
            (try simp only [Act.put, List.setIfInBounds_toArray, List.set_cons_zero, List.set_cons_succ])
            refine wpAnyH_done (by kernel_rfl) ?_ _
            refine NoPanic.normal ?_
            clear hHeld
            go_wp2_with fail
            go_ret2
            exact ⟨by simp [partV, partB, hte], HB0.out.drew⟩
        · refine wp_region_noPanic ?_
          refine wp_region_held_drew (S := fun w' => RowAt w' w.heap.size #[.int .i64 3, .int .i64 v, .slice ta tn tc, .int .i64 R, .int .i64 C, .slice ca cn cc] 40) (by kernel_rfl) HG0.out (fun hHeld => ?_)
          refine take_at 0 33 (.pointer (some ⟨w.heap.size, 3, none⟩)) rfl rfl (by kernel_rfl) (by kernel_rfl) (by kernel_rfl) (fun _ _ _ h => h) (Or.inl ⟨by kernel_rfl, fun w' hS' => by go_simp⟩) hHeld ?_
          (try simp only [Act.put, List.setIfInBounds_toArray, List.set_cons_zero, List.set_cons_succ])
          refine take_at 1 34 (.agg #[.int .i64 R, .int .i64 C, .slice ca cn cc]) rfl rfl (by kernel_rfl) (by kernel_rfl) (by kernel_rfl) (fun _ _ _ h => h) (Or.inl ⟨by kernel_rfl, fun w' hS' => by have h3 := RowAt.cell hS' 3; have h4 := RowAt.cell hS' 4; have h5 := RowAt.cell hS' 5; go_simp⟩) hHeld ?_
          (try simp only [Act.put, List.setIfInBounds_toArray, List.set_cons_zero, List.set_cons_succ])
          refine take_at 2 35 (.agg #[.int .i64 R, .int .i64 C, .slice ca cn cc]) rfl rfl (by kernel_rfl) (by kernel_rfl) (by kernel_rfl) (fun _ _ _ h => h) (Or.inl ⟨by kernel_rfl, fun w' hS' => by go_simp⟩) hHeld ?_
          (try simp only [Act.put, List.setIfInBounds_toArray, List.set_cons_zero, List.set_cons_succ])
          refine take_at 3 36 (.iface 125 (.agg #[.int .i64 R, .int .i64 C, .slice ca cn cc])) rfl rfl (by kernel_rfl) (by kernel_rfl) (by kernel_rfl) (fun _ _ _ h => h) (Or.inl ⟨by kernel_rfl, fun w' hS' => by go_simp⟩) hHeld ?_
          (try simp only [Act.put, List.setIfInBounds_toArray, List.set_cons_zero, List.set_cons_succ])
          refine take_at 4 37 (.pointer (some ⟨w.heap.size, 1, none⟩)) rfl rfl (by kernel_rfl) (by kernel_rfl) (by kernel_rfl) (fun _ _ _ h => h) (Or.inl ⟨by kernel_rfl, fun w' hS' => by go_simp⟩) hHeld ?_
          (try simp only [Act.put, List.setIfInBounds_toArray, List.set_cons_zero, List.set_cons_succ])
          refine take_at 5 38 (.int .i64 v) rfl rfl (by kernel_rfl) (by kernel_rfl) (by kernel_rfl) (fun _ _ _ h => h) (Or.inl ⟨by kernel_rfl, fun w' hS' => by have hc := RowAt.cell hS' 1; go_simp⟩) hHeld ?_
          (try simp only [Act.put, List.setIfInBounds_toArray, List.set_cons_zero, List.set_cons_succ])
          refine take_at 6 39 (.bool false) rfl rfl (by kernel_rfl) (by kernel_rfl) (by kernel_rfl) (fun _ _ _ h => h) (Or.inl ⟨by kernel_rfl, fun w' hS' => by go_simp <;> omega⟩) hHeld ?_
          (try simp only [Act.put, List.setIfInBounds_toArray, List.set_cons_zero, List.set_cons_succ])
          refine take_at 7 40 (.bool false) rfl rfl (by kernel_rfl) (by kernel_rfl) (by kernel_rfl) (fun _ _ _ h => h) (Or.inl ⟨by kernel_rfl, fun w' hS' => by go_simp⟩) hHeld ?_
          (try simp only [Act.put, List.setIfInBounds_toArray, List.set_cons_zero, List.set_cons_succ])
          refine take_at 8 41 (undef) rfl rfl (by kernel_rfl) (by kernel_rfl) (by kernel_rfl) (fun _ _ _ h => h) (Or.inr ⟨by kernel_rfl, rfl⟩) hHeld ?_
          (try simp only [Act.put, List.setIfInBounds_toArray, List.set_cons_zero, List.set_cons_succ])
          refine take_at 9 42 (undef) rfl rfl (by kernel_rfl) (by kernel_rfl) (by kernel_rfl) (fun _ _ _ h => h) (Or.inr ⟨by kernel_rfl, rfl⟩) hHeld ?_
          (try simp only [Act.put, List.setIfInBounds_toArray, List.set_cons_zero, List.set_cons_succ])
          refine take_at 10 43 (undef) rfl rfl (by kernel_rfl) (by kernel_rfl) (by kernel_rfl) (fun _ _ _ h => h) (Or.inr ⟨by kernel_rfl, rfl⟩) hHeld ?_
          (try simp only [Act.put, List.setIfInBounds_toArray, List.set_cons_zero, List.set_cons_succ])
          refine take_at 11 44 (undef) rfl rfl (by kernel_rfl) (by kernel_rfl) (by kernel_rfl) (fun _ _ _ h => h) (Or.inr ⟨by kernel_rfl, rfl⟩) hHeld ?_
          (try simp only [Act.put, List.setIfInBounds_toArray, List.set_cons_zero, List.set_cons_succ])
          refine take_at 12 45 (.bool false) rfl rfl (by kernel_rfl) (by kernel_rfl) (by kernel_rfl) (fun _ _ _ h => h) (Or.inl ⟨by kernel_rfl, fun w' hS' => by go_simp⟩) hHeld ?_
          (try simp only [Act.put, List.setIfInBounds_toArray, List.set_cons_zero, List.set_cons_succ])
          refine take_at 13 2 (.iface 125 (.agg #[.int .i64 R, .int .i64 C, .slice ca cn cc])) rfl rfl (by kernel_rfl) (by kernel_rfl) (by kernel_rfl) (fun _ _ _ h => h) (Or.inl ⟨by kernel_rfl, fun w' hS' => by go_simp⟩) hHeld ?_
          (try simp only [Act.put, List.setIfInBounds_toArray, List.set_cons_zero, List.set_cons_succ])
          refine take_at 14 3 (.bool false) rfl rfl (by kernel_rfl) (by kernel_rfl) (by kernel_rfl) (fun _ _ _ h => h) (Or.inl ⟨by kernel_rfl, fun w' hS' => by go_simp⟩) hHeld ?_
          (try simp only [Act.put, List.setIfInBounds_toArray, List.set_cons_zero, List.set_cons_succ])
          refine wpAnyH_done (by kernel_rfl) ?_ _
          refine NoPanic.normal ?_
          clear hHeld
          go_wp2_with fail
          go_ret2
          exact ⟨by simp [partV, partB, hv], HB0.out.drew⟩
      · go_wp2_with fail
        go_ret2
        exact ⟨by simp [partV, partB, h1, h2, h3], HB0.out⟩
end Go.Proofs.Ytdcebaneobkcoaa
namespace Go.Proofs.Ytdcebaneobkcoaa
open Go.RowKit

theorem built_0 : Try.prog.built 193 [] = some (gridA 0 0 0 (fun _ => 0) (fun _ => sl0)) := by kernel_rfl
set_option maxRecDepth 100000 in
theorem built_2 (R C : Int) : Try.prog.built 193 [(0, .int .i64 R), (1, .int .i64 C)] = some (gridA R C 0 (fun _ => 0) (fun _ => sl0)) := by rfl
theorem wpList_grid0 {ops : Array Oper} {rest : List Oper} {o : Oper} {a : Act} {w : World} {Q : Exit → Act → World → Prop} (hg : o.guard = none) (ho : o.op = .build 193 #[])
    (h : wpList Try.prog ops Q rest (a.put o.dst (.agg (gridA 0 0 0 (fun _ => 0) (fun _ => sl0)))) w) : wpList Try.prog ops Q (o :: rest) a w := by
  have e : ((#[] : Array (Nat × Operand)).map fun (i, x) => (i, a.eval x)).toList = [] := by simp
  exact wpList_build hg 193 _ ho (by rw [e, built_0]; rfl) (by rw [e, built_0]; exact h)
theorem wpList_grid2 {ops : Array Oper} {rest : List Oper} {o : Oper} {a : Act} {w : World} {Q : Exit → Act → World → Prop} (hg : o.guard = none) (x y : Operand) (ho : o.op = .build 193 #[(0, x), (1, y)]) (R C : Int) (hx : a.eval x = .int .i64 R) (hy : a.eval y = .int .i64 C)
    (h : wpList Try.prog ops Q rest (a.put o.dst (.agg (gridA R C 0 (fun _ => 0) (fun _ => sl0)))) w) : wpList Try.prog ops Q (o :: rest) a w := by
  have e : ((#[(0, x), (1, y)] : Array (Nat × Operand)).map fun (i, x) => (i, a.eval x)).toList = [(0, .int .i64 R), (1, .int .i64 C)] := by simp [hx, hy]
  exact wpList_build hg 193 _ ho (by rw [e, built_2]; rfl) (by rw [e, built_2]; exact h)
theorem run_gridOf {w : World} {g : Nat} {R C : Int} {n : Nat} {f : Nat → Nat} {t : Nat → Sl} (h : GridAt w g R C n f t) : (loadVar 193 ⟨g, 0, none⟩).run Try.prog w = .ok (.agg (gridA R C n f t)) w :=
  run_loadVar_row w g 193 193 (gridA R C n f t) (0, 0) _ h Try.underlying193 rfl (grid_infoA _ _ _ _ _)
theorem implTextOk_isG {a : Option Addr} {n cap : Nat} {l : List Sg} {w : World} {x : Bool} (h : Txt w a n cap l) (hx : textB l = x) :
    Calls Try.prog 123 #[.slice a n cap] w fun e w' => e = .returned (.bool x) ∧ Below w.heap.size w w' := hx ▸ implTextOk_any a n cap l w h

theorem okB_no {R C : Int} {l : List Cl} (h : ¬ gridP R C l) : okB R C l = false := by
  rw [← Bool.not_eq_true, ← gridP_iff]
  exact h
/-- What gridOf gives. -/
def GridRes (R C : Int) (l : List Cl) (x : Bool) (z : Ending) (w' : World) : Prop :=
  (x = false ∧ z = .returned (.tuple #[.agg (gridA 0 0 0 (fun _ => 0) (fun _ => sl0)), .bool false])) ∨
  (x = true ∧ ∃ t : Nat → Sl, z = .returned (.tuple #[.agg (gridA R C l.length (numF l l.length) t), .bool true]) ∧ ∀ i, i < l.length → Txt w' (t (i + 1)).1 (t (i + 1)).2.1 (t (i + 1)).2.2 (l.getD i cl0).2.2.2.2)

set_option maxRecDepth 100000 in
set_option maxHeartbeats 4000000 in
theorem gridOf_is {R C : Int} {a : Option Addr} {n cap : Nat} {l : List Cl} {w : World} {x : Bool} (hx : okB R C l = x) (h : Tab w a n cap l) :
    Calls Try.prog 155 #[.agg #[.int .i64 R, .int .i64 C, .slice a n cap]] w fun z w' => GridRes R C l x z w' ∧ Below w.heap.size w w' := by
  have HX : Hid (okB R C l = x) := hx
  have H : Hid (Tab w a n cap l) := h
  obtain ⟨rfl, hc, hm, hl⟩ := h
  clear hx hl
  unfold maxLen at hm
  go_enter Try.func155, Try.ntmps155
  go_upto_region 1 with fail
  rw [← grid_zero]
  have B0 : Below w.heap.size w ((w.alloc (.cells #[.int .i64 R, .int .i64 C, .slice a l.length cap] 38)).alloc (.cells (gridA 0 0 0 (fun _ => 0) (fun _ => sl0)) 193)) := (((Below.refl _ _).alloc (Nat.le_refl _) _).alloc (by simp) _)
  have G1 : GridAt ((w.alloc (.cells #[.int .i64 R, .int .i64 C, .slice a l.length cap] 38)).alloc (.cells (gridA 0 0 0 (fun _ => 0) (fun _ => sl0)) 193)) (w.heap.size + 1) 0 0 0 (fun _ => 0) (fun _ => sl0) := by
    have := gridAt_new (w.alloc (.cells #[.int .i64 R, .int .i64 C, .slice a l.length cap] 38)) 0 0 0 (fun _ => 0) (fun _ => sl0)
    simpa using this
  have G2 : RowAt ((w.alloc (.cells #[.int .i64 R, .int .i64 C, .slice a l.length cap] 38)).alloc (.cells (gridA 0 0 0 (fun _ => 0) (fun _ => sl0)) 193)) w.heap.size #[.int .i64 R, .int .i64 C, .slice a l.length cap] 38 := (rowAt_new w _ _).alloc _
  generalize ((w.alloc (.cells #[.int .i64 R, .int .i64 C, .slice a l.length cap] 38)).alloc (.cells (gridA 0 0 0 (fun _ => 0) (fun _ => sl0)) 193)) = v0 at B0 G1 G2 ⊢
  have k0 : v0.cell? ⟨w.heap.size, 0, none⟩ = some (.int .i64 R) := G2.cell 0
  have k1 : v0.cell? ⟨w.heap.size, 1, none⟩ = some (.int .i64 C) := G2.cell 1
  have k2 : v0.cell? ⟨w.heap.size, 2, none⟩ = some (.slice a l.length cap) := G2.cell 2
  have HZ : Hid (GridAt v0 (w.heap.size + 1) 0 0 0 (fun _ => 0) (fun _ => sl0)) := G1
  clear G1
  cases s0 : sizeB R
  · have S0 : Hid (sizeB R = false) := s0
    clear s0
    go_upto_region 2 with (go_at_call 156; refine (sizeOk_is S0.out _).mono ?_; rintro e w1 ⟨rfl, hw1⟩; subst w1)
    go_wp2_with (first | (refine wpList_grid0 rfl rfl ?_) | (refine wpList_store_row rfl 193 (.tmp 2) (.tmp 18) rfl (w.heap.size + 1) (gridA 0 0 0 (fun _ => 0) (fun _ => sl0)) rfl rfl 193 _ HZ.out (grid_infoA _ _ _ _ _) (by rw [gridA_size]) (gridA_one _ _ _ _ _) ?_))
    refine bodyPost_ret (v := .tuple #[.agg (gridA 0 0 0 (fun _ => 0) (fun _ => sl0)), .bool false]) ?_ rfl ⟨.inl ⟨?_, rfl⟩, ?_⟩
    · rw [results_cell_tmp rfl]
      simp [asAddr, Result.andThen, run_gridOf (RowAt.setRow HZ.out (gridA 0 0 0 (fun _ => 0) (fun _ => sl0)))]
    · rw [← HX.out]
      exact okB_no (fun hp => by have := S0.out; simp [sizeB] at this; have := hp.1; omega)
    · exact below_row B0 (by omega) _
  cases s1 : sizeB C
  · have S0 : Hid (sizeB R = true) := s0
    have S1 : Hid (sizeB C = false) := s1
    clear s0 s1
    go_upto_region 2 with (first | (go_at_call_of 156 (Value.int IntKind.i64 R); refine (sizeOk_is S0.out _).mono ?_; rintro e w1 ⟨rfl, hw1⟩; subst w1) | (go_at_call_of 156 (Value.int IntKind.i64 C); refine (sizeOk_is S1.out _).mono ?_; rintro e w1 ⟨rfl, hw1⟩; subst w1))
    go_wp2_with (first | (refine wpList_grid0 rfl rfl ?_) | (refine wpList_store_row rfl 193 (.tmp 2) (.tmp 18) rfl (w.heap.size + 1) (gridA 0 0 0 (fun _ => 0) (fun _ => sl0)) rfl rfl 193 _ HZ.out (grid_infoA _ _ _ _ _) (by rw [gridA_size]) (gridA_one _ _ _ _ _) ?_))
    refine bodyPost_ret (v := .tuple #[.agg (gridA 0 0 0 (fun _ => 0) (fun _ => sl0)), .bool false]) ?_ rfl ⟨.inl ⟨?_, rfl⟩, ?_⟩
    · rw [results_cell_tmp rfl]
      simp [asAddr, Result.andThen, run_gridOf (RowAt.setRow HZ.out (gridA 0 0 0 (fun _ => 0) (fun _ => sl0)))]
    · rw [← HX.out]
      exact okB_no (fun hp => by have := S1.out; simp [sizeB] at this; have := hp.2.1; omega)
    · exact below_row B0 (by omega) _
  have hR : 1 ≤ R ∧ R ≤ 5 := of_decide_eq_true s0
  have hC : 1 ≤ C ∧ C ≤ 5 := of_decide_eq_true s1
  have S0 : Hid (sizeB R = true) := s0
  have S1 : Hid (sizeB C = true) := s1
  clear s0 s1
  obtain ⟨R, rfl⟩ : ∃ R' : Nat, R = R' := ⟨R.toNat, by omega⟩
  obtain ⟨C, rfl⟩ : ∃ C' : Nat, C = C' := ⟨C.toNat, by omega⟩
  go_upto_region 3 with (first | (go_at_call_of 156 (Value.int IntKind.i64 R); refine (sizeOk_is S0.out _).mono ?_; rintro e w1 ⟨rfl, hw1⟩; subst w1) | (go_at_call_of 156 (Value.int IntKind.i64 C); refine (sizeOk_is S1.out _).mono ?_; rintro e w1 ⟨rfl, hw1⟩; subst w1))
  clear S0 S1
  go_upto_region 4 with (first | (refine wpList_grid2 rfl (.tmp 20) (.tmp 22) rfl R C rfl rfl ?_) | (rw [← grid_zero]; refine wpList_store_row rfl 193 (.tmp 4) (.tmp 23) rfl v0.heap.size (gridA R C 0 (fun _ => 0) (fun _ => sl0)) rfl rfl 193 _ (gridAt_new _ _ _ _ _ _) (grid_infoA _ _ _ _ _) (by rw [gridA_size, gridA_size]) (gridA_one _ _ _ _ _) ?_))
  have G4 : GridAt ((v0.alloc (.cells (gridA 0 0 0 (fun _ => 0) (fun _ => sl0)) 193)).setRow v0.heap.size (gridA R C 0 (fun _ => 0) (fun _ => sl0))) v0.heap.size R C 0 (fun _ => 0) (fun _ => sl0) := RowAt.setRow (gridAt_new _ _ _ _ _ _) _
  have B4 : Below v0.heap.size v0 ((v0.alloc (.cells (gridA 0 0 0 (fun _ => 0) (fun _ => sl0)) 193)).setRow v0.heap.size (gridA R C 0 (fun _ => 0) (fun _ => sl0))) := below_row ((Below.refl _ _).alloc (Nat.le_refl _) _) (Nat.le_refl _) _
  generalize ((v0.alloc (.cells (gridA 0 0 0 (fun _ => 0) (fun _ => sl0)) 193)).setRow v0.heap.size (gridA R C 0 (fun _ => 0) (fun _ => sl0))) = v1 at G4 B4 ⊢
  have bt : w.heap.size < v0.heap.size := G2.lt
  have bz : w.heap.size + 1 < v0.heap.size := HZ.out.lt
  have j2 := (B4.cell (p := ⟨w.heap.size, 2, none⟩) bt).trans k2
  clear k0 k1 k2 G2
  go_wp2_with fail
  go_loopw [27] (fun i wr => ∃ (k : Nat) (t : Nat → Sl), k ≤ l.length ∧ i = .int .i64 k ∧ (∀ j, j < k → stepB R C l j = true) ∧ GridAt wr v0.heap.size R C k (numF l k) t ∧ (∀ j, j < k → Txt w (t (j + 1)).1 (t (j + 1)).2.1 (t (j + 1)).2.2 (l.getD j cl0).2.2.2.2) ∧ Below v0.heap.size v0 wr) (fun i _ => l.length - (intOf i).toNat)
  case atStart => exact ⟨0, _, Nat.zero_le _, rfl, fun j hj => by omega, G4, fun j hj => by omega, B4⟩
  case round =>
    clear G4 B4 j2
    obtain ⟨k, t, hk, rfl, hst, hg, htx, hb⟩ := hrel
    have HS : Hid (∀ j, j < k → stepB R C l j = true) := hst
    have HT : Hid (∀ j, j < k → Txt w (t (j + 1)).1 (t (j + 1)).2.1 (t (j + 1)).2.2 (l.getD j cl0).2.2.2.2) := htx
    have HG : Hid (GridAt wr v0.heap.size R C k (numF l k) t) := hg
    have HZr : Hid (GridAt wr (w.heap.size + 1) 0 0 0 (fun _ => 0) (fun _ => sl0)) := HZ.out.below hb bz
    have HB : Hid (Below v0.heap.size v0 wr) := hb
    have HW : Hid (Below w.heap.size w wr) := B0.trans (hb.mono B0.size)
    have hk25 := step_le hR.2 hC.2 hst
    have szr : v0.heap.size < wr.heap.size := hg.lt
    have gr := hg.rows
    have gc := hg.cols
    clear hst htx hg hb
    by_cases hlt : k < l.length
    · rcases H.out.2.2.2 with e | ⟨b, off, rfl, hbw, hl⟩
      · rw [e] at hlt
        exact absurd hlt (by simp)
      obtain ⟨c0, c1, c2, c3, ta, tn, tc, c4, ht⟩ := (hl k hlt)
      have HTX : Hid (Txt w ta tn tc (l.getD k cl0).2.2.2.2) := ht
      obtain ⟨c0, c1, c2, c3, -⟩ : CellAt wr b (off + k * 5) (l.getD k cl0) := (hl k hlt).below HW.out hbw
      have c4 := (HW.out.cell (p := ⟨b, _, none⟩) hbw).trans c4
      clear ht hl
      obtain ⟨⟨r, c, d, g, tx⟩, hx⟩ : ∃ x, x = l.getD k cl0 := ⟨_, rfl⟩
      rw [← hx] at c0 c1 c2 c3 HTX
      simp only at c0 c1 c2 c3 HTX
      have HXX : Hid ((r, c, d, g, tx) = l.getD k cl0) := hx
      clear hx
      go_upto_region 8 with (go_at_call 157; refine (rectOf_any _ _ _ _ _ _ _ _).mono ?_; rintro e w1 ⟨rfl, hb1⟩)
      have bA : Below wr.heap.size wr (wr.alloc (Obj.cells #[.int .i64 r, .int .i64 c, .int .i64 d, .int .i64 g, .slice ta tn tc] 74)) := (Below.refl _ _).alloc (Nat.le_refl _) _
      have sA : wr.heap.size < w1.heap.size := by have := hb1.size; simp at this; omega
      have b3 : Below wr.heap.size wr (w1.alloc (.cells #[.int .i64 r, .int .i64 c, .int .i64 d, .int .i64 g] 197)) := (bA.trans (hb1.mono (by simp))).alloc (Nat.le_of_lt sA) _
      have C3 : RowAt (w1.alloc (.cells #[.int .i64 r, .int .i64 c, .int .i64 d, .int .i64 g] 197)) wr.heap.size #[.int .i64 r, .int .i64 c, .int .i64 d, .int .i64 g, .slice ta tn tc] 74 := ((rowAt_new wr _ _).below hb1 (by simp)).alloc _
      have Q3 : RectAt (w1.alloc (.cells #[.int .i64 r, .int .i64 c, .int .i64 d, .int .i64 g] 197)) w1.heap.size r c d g := rowAt_new _ _ _
      generalize (w1.alloc (.cells #[.int .i64 r, .int .i64 c, .int .i64 d, .int .i64 g] 197)) = w3 at b3 C3 Q3 ⊢
      have gr := (HG.out.below b3 szr).rows
      have gc := (HG.out.below b3 szr).cols
      have e0 := Q3.c0
      have e1 := Q3.c1
      have e2 := Q3.c2
      have e3 := Q3.c3
      have e4 : w3.cell? ⟨wr.heap.size, 4, none⟩ = some (.slice ta tn tc) := C3.cell 4
      have HG3 : Hid (GridAt w3 v0.heap.size R C k (numF l k) t) := HG.out.below b3 szr
      have HZ3 : Hid (GridAt w3 (w.heap.size + 1) 0 0 0 (fun _ => 0) (fun _ => sl0)) := HZr.out.below b3 (by omega)
      have HQ3 : Hid (RectAt w3 w1.heap.size r c d g) := Q3
      have HC3 : Hid (RowAt w3 wr.heap.size #[.int .i64 r, .int .i64 c, .int .i64 d, .int .i64 g, .slice ta tn tc] 74) := C3
      have HB3 : Hid (Below v0.heap.size v0 w3) := HB.out.trans (b3.mono (by omega))
      have HW3 : Hid (Below w.heap.size w w3) := HW.out.trans (b3.mono (by omega))
      have s3 := b3.size
      have s4 := RowAt.lt Q3
      have s5 := B0.size
      clear HG HZr HB HW b3 C3 Q3 bA hb1 c0 c1 c2 c3 c4
      cases q0 : withB r c d g R C
      · have Q0 : Hid (withB r c d g R C = false) := q0
        clear q0
        go_upto_region 9 with (first | (go_at_call 158; refine (within_is Q0.out hR hC _).mono ?_; rintro e w4 ⟨rfl, hb4⟩))
        go_wp2_with (first | (refine wpList_grid0 rfl rfl ?_) | (refine wpList_store_row rfl 193 (.tmp 2) (.tmp 52) rfl (w.heap.size + 1) (gridA 0 0 0 (fun _ => 0) (fun _ => sl0)) rfl rfl 193 _ (HZ3.out.below hb4 (by omega)) (grid_infoA _ _ _ _ _) (by rw [gridA_size]) (gridA_one _ _ _ _ _) ?_))
        refine bodyPost_ret (v := .tuple #[.agg (gridA 0 0 0 (fun _ => 0) (fun _ => sl0)), .bool false]) ?_ rfl ⟨.inl ⟨?_, rfl⟩, ?_⟩
        · rw [results_cell_tmp rfl]
          simp [asAddr, Result.andThen, run_gridOf (RowAt.setRow (HZ3.out.below hb4 (by omega)) (gridA 0 0 0 (fun _ => 0) (fun _ => sl0)))]
        · rw [← HX.out]
          exact okB_no (fun hp => by have := hp.2.2.1 k hlt; rw [stepB_0 HXX.out Q0.out] at this; exact absurd this (by simp))
        · exact below_row (HW3.out.trans (hb4.mono (by omega))) (by omega) _
      obtain ⟨wz, wz2, wz3⟩ := wiB_of (x := (r, c, d, g, tx)) q0
      simp only at wz wz2 wz3
      obtain ⟨r, rfl⟩ : ∃ r' : Nat, r = r' := ⟨r.toNat, by omega⟩
      obtain ⟨c, rfl⟩ : ∃ r' : Nat, c = r' := ⟨c.toNat, by omega⟩
      obtain ⟨d, rfl⟩ : ∃ r' : Nat, d = r' := ⟨d.toNat, by omega⟩
      obtain ⟨g, rfl⟩ : ∃ r' : Nat, g = r' := ⟨g.toNat, by omega⟩
      have hrd : r + d ≤ R := by omega
      have hcg : c + g ≤ C := by omega
      have hR5 : R ≤ 5 := by omega
      have hC5 : C ≤ 5 := by omega
      have hd0 : 0 < d := by omega
      have hg0 : 0 < g := by omega
      have Q0 : Hid (withB r c d g R C = true) := q0
      have HF : Hid (∀ s, numF l k s ≤ 25) := fun s => Nat.le_trans (numF_le l k s) hk25
      clear q0 wz wz2 wz3
      cases q1 : freeB (numF l k) r c d g
      · have Q1 : Hid (freeB (numF l k) r c d g = false) := q1
        clear q1
        go_upto_region 9 with (first | (go_at_call 158; refine (within_is Q0.out hR hC _).mono ?_; rintro e w4 ⟨rfl, hb4⟩; have GG : GridAt w4 v0.heap.size R C k (numF l k) t := HG3.out.below hb4 (by omega); have QQ : RectAt w4 w1.heap.size r c d g := RowAt.below HQ3.out hb4 s4; have f0 := QQ.c0; have f1 := QQ.c1; have f2 := QQ.c2; have f3 := QQ.c3; have b4 : Hid (Below w3.heap.size w3 w4) := hb4; clear QQ) | (refine wpList_load_rowG (by rfl) 193 (.tmp 4) rfl v0.heap.size rfl 193 (gridA R C k (numF l k) t) (0, 0) _ GG Try.underlying193 rfl (grid_infoA _ _ _ _ _) ?_) | (go_at_call 159; refine (isFree_is Q1.out hR5 hC5 hrd hcg hd0 hg0 HF.out).mono ?_; rintro e w5 ⟨rfl, hb5⟩; have b5 : Hid (Below w3.heap.size w3 w5) := b4.out.trans (hb5.mono b4.out.size); have f4 : w5.cell? ⟨wr.heap.size, 4, none⟩ = some (.slice ta tn tc) := (RowAt.below HC3.out b5.out (by omega)).cell 4))
        clear GG f0 f1 f2 f3 f4
        go_wp2_with (first | (refine wpList_grid0 rfl rfl ?_) | (refine wpList_store_row rfl 193 (.tmp 2) (.tmp 52) rfl (w.heap.size + 1) (gridA 0 0 0 (fun _ => 0) (fun _ => sl0)) rfl rfl 193 _ (HZ3.out.below b5.out (by omega)) (grid_infoA _ _ _ _ _) (by rw [gridA_size]) (gridA_one _ _ _ _ _) ?_))
        refine bodyPost_ret (v := .tuple #[.agg (gridA 0 0 0 (fun _ => 0) (fun _ => sl0)), .bool false]) ?_ rfl ⟨.inl ⟨?_, rfl⟩, ?_⟩
        · rw [results_cell_tmp rfl]
          simp [asAddr, Result.andThen, run_gridOf (RowAt.setRow (HZ3.out.below b5.out (by omega)) (gridA 0 0 0 (fun _ => 0) (fun _ => sl0)))]
        · rw [← HX.out]
          exact okB_no (fun hp => by have := hp.2.2.1 k hlt; rw [stepB_1 HXX.out Q1.out] at this; exact absurd this (by simp))
        · exact below_row (HW3.out.trans (b5.out.mono (by omega))) (by omega) _
      have Q1 : Hid (freeB (numF l k) r c d g = true) := q1
      clear q1
      cases q2 : textB tx
      · have Q2 : Hid (textB tx = false) := q2
        clear q2
        go_upto_region 9 with (first | (go_at_call 158; refine (within_is Q0.out hR hC _).mono ?_; rintro e w4 ⟨rfl, hb4⟩; have GG : GridAt w4 v0.heap.size R C k (numF l k) t := HG3.out.below hb4 (by omega); have QQ : RectAt w4 w1.heap.size r c d g := RowAt.below HQ3.out hb4 s4; have f0 := QQ.c0; have f1 := QQ.c1; have f2 := QQ.c2; have f3 := QQ.c3; have b4 : Hid (Below w3.heap.size w3 w4) := hb4; clear QQ) | (refine wpList_load_rowG (by rfl) 193 (.tmp 4) rfl v0.heap.size rfl 193 (gridA R C k (numF l k) t) (0, 0) _ GG Try.underlying193 rfl (grid_infoA _ _ _ _ _) ?_) | (go_at_call 159; refine (isFree_is Q1.out hR5 hC5 hrd hcg hd0 hg0 HF.out).mono ?_; rintro e w5 ⟨rfl, hb5⟩; have b5 : Hid (Below w3.heap.size w3 w5) := b4.out.trans (hb5.mono b4.out.size); have f4 : w5.cell? ⟨wr.heap.size, 4, none⟩ = some (.slice ta tn tc) := (RowAt.below HC3.out b5.out (by omega)).cell 4) | (go_at_call 123; refine (implTextOk_isG ((HTX.out.below HW3.out).below (b5.out.mono (by omega))) Q2.out).mono ?_; rintro e w6 ⟨rfl, hb6⟩; have b6 : Hid (Below w3.heap.size w3 w6) := b5.out.trans (hb6.mono b5.out.size)))
        clear GG f0 f1 f2 f3 f4
        go_wp2_with (first | (refine wpList_grid0 rfl rfl ?_) | (refine wpList_store_row rfl 193 (.tmp 2) (.tmp 52) rfl (w.heap.size + 1) (gridA 0 0 0 (fun _ => 0) (fun _ => sl0)) rfl rfl 193 _ (HZ3.out.below b6.out (by omega)) (grid_infoA _ _ _ _ _) (by rw [gridA_size]) (gridA_one _ _ _ _ _) ?_))
        refine bodyPost_ret (v := .tuple #[.agg (gridA 0 0 0 (fun _ => 0) (fun _ => sl0)), .bool false]) ?_ rfl ⟨.inl ⟨?_, rfl⟩, ?_⟩
        · rw [results_cell_tmp rfl]
          simp [asAddr, Result.andThen, run_gridOf (RowAt.setRow (HZ3.out.below b6.out (by omega)) (gridA 0 0 0 (fun _ => 0) (fun _ => sl0)))]
        · rw [← HX.out]
          exact okB_no (fun hp => by have := hp.2.2.1 k hlt; rw [stepB_2 HXX.out Q2.out] at this; exact absurd this (by simp))
        · exact below_row (HW3.out.trans (b6.out.mono (by omega))) (by omega) _
      have Q2 : Hid (textB tx = true) := q2
      clear q2
      go_upto_region 10 with (first | (go_at_call 158; refine (within_is Q0.out hR hC _).mono ?_; rintro e w4 ⟨rfl, hb4⟩; have GG : GridAt w4 v0.heap.size R C k (numF l k) t := HG3.out.below hb4 (by omega); have QQ : RectAt w4 w1.heap.size r c d g := RowAt.below HQ3.out hb4 s4; have f0 := QQ.c0; have f1 := QQ.c1; have f2 := QQ.c2; have f3 := QQ.c3; have b4 : Hid (Below w3.heap.size w3 w4) := hb4; clear QQ) | (refine wpList_load_rowG (by rfl) 193 (.tmp 4) rfl v0.heap.size rfl 193 (gridA R C k (numF l k) t) (0, 0) _ GG Try.underlying193 rfl (grid_infoA _ _ _ _ _) ?_) | (go_at_call 159; refine (isFree_is Q1.out hR5 hC5 hrd hcg hd0 hg0 HF.out).mono ?_; rintro e w5 ⟨rfl, hb5⟩; have b5 : Hid (Below w3.heap.size w3 w5) := b4.out.trans (hb5.mono b4.out.size); have f4 : w5.cell? ⟨wr.heap.size, 4, none⟩ = some (.slice ta tn tc) := (RowAt.below HC3.out b5.out (by omega)).cell 4) | (go_at_call 123; refine (implTextOk_isG ((HTX.out.below HW3.out).below (b5.out.mono (by omega))) Q2.out).mono ?_; rintro e w6 ⟨rfl, hb6⟩; have b6 : Hid (Below w3.heap.size w3 w6) := b5.out.trans (hb6.mono b5.out.size)))
      clear GG f0 f1 f2 f3 f4
      have GG : Hid (GridAt w6 v0.heap.size R C k (numF l k) t) := HG3.out.below b6.out (by omega)
      have QQ : RectAt w6 w1.heap.size r c d g := RowAt.below HQ3.out b6.out s4
      have f0 := QQ.c0
      have f1 := QQ.c1
      have f2 := QQ.c2
      have f3 := QQ.c3
      have f4 : w6.cell? ⟨wr.heap.size, 4, none⟩ = some (.slice ta tn tc) := (RowAt.below HC3.out b6.out (by omega)).cell 4
      have s6 := b6.out.size
      have hk1 : k < 25 := by
        have := step_le (l := l) (K := k + 1) hR.2 hC.2 (fun j hj => by
          by_cases hjk : j = k
          · subst hjk
            exact stepB_mk HXX.out Q0.out Q1.out Q2.out
          · exact HS.out j (by omega))
        omega
      clear QQ
      go_wp2_with (first | (refine wpList_load_row rfl 193 (.tmp 4) rfl v0.heap.size rfl 193 (gridA R C k (numF l k) t) (0, 0) _ GG.out Try.underlying193 rfl (grid_infoA _ _ _ _ _) ?_) | (go_at_call 160; refine (lay_any R C k (numF l k) t r c d g (ta, tn, tc) _ (by omega) (by omega) hk1).mono ?_; rintro e w7 ⟨rfl, hb7⟩) | (refine wpList_store_row rfl 193 (.tmp 4) (.tmp 57) rfl v0.heap.size (gridA R C (k + 1) (giveF (numF l k) r c d g (k + 1)) (updS t (k + 1) (ta, tn, tc))) rfl rfl 193 _ (GG.out.below hb7 (by omega)) (grid_infoA _ _ _ _ _) (by rw [gridA_size, gridA_size]) (gridA_one _ _ _ _ _) ?_))
      go_roundw
      case rel =>
        refine ⟨k + 1, updS t (k + 1) (ta, tn, tc), by omega, by go_num, ?_, ?_, ?_, ?_⟩
        · intro j hj
          by_cases hjk : j = k
          · subst hjk
            exact stepB_mk HXX.out Q0.out Q1.out Q2.out
          · exact HS.out j (by omega)
        · have e : numF l (k + 1) = giveF (numF l k) r c d g (k + 1) := by
            simp only [numF, ← HXX.out, Int.toNat_natCast]
          rw [e]
          exact RowAt.setRow (GG.out.below hb7 (by omega)) _
        · intro j hj
          by_cases hjk : j = k
          · subst hjk
            rw [← HXX.out]
            simp only [updS, if_pos]
            exact HTX.out
          · simp only [updS, show ¬ j + 1 = k + 1 from by omega, if_false]
            exact HT.out j (by omega)
        · exact below_row ((HB3.out.trans (b6.out.mono (by omega))).trans (hb7.mono (by omega))) (Nat.le_refl _) _
      case measure => simp [intOf]; omega
    · have hkl : k = l.length := by omega
      subst hkl
      have HF : Hid (∀ s, numF l l.length s ≤ 25) := fun s => Nat.le_trans (numF_le l l.length s) hk25
      have HX2 : Hid (x = true ↔ Tiles R C (numF l l.length)) := by
        show x = true ↔ _
        rw [← HX.out, ← gridP_iff]
        constructor
        · intro hp
          have := hp.2.2.2
          simpa using this
        · intro hp
          exact ⟨hR, hC, HS.out, by simpa using hp⟩
      have hR5 : R ≤ 5 := by omega
      have hC5 : C ≤ 5 := by omega
      have s5 := B0.size
      cases x
      · go_upto_region 13 with (first | (refine wpList_load_row rfl 193 (.tmp 4) rfl v0.heap.size rfl 193 (gridA R C l.length (numF l l.length) t) (0, 0) _ HG.out Try.underlying193 rfl (grid_infoA _ _ _ _ _) ?_) | (go_at_call 161; refine (isTiled_is HX2.out hR5 hC5 HF.out).mono ?_; rintro e w4 ⟨rfl, hb4⟩))
        go_wp2_with (first | (refine wpList_grid0 rfl rfl ?_) | (refine wpList_store_row rfl 193 (.tmp 2) (.tmp 62) rfl (w.heap.size + 1) (gridA 0 0 0 (fun _ => 0) (fun _ => sl0)) rfl rfl 193 _ (HZr.out.below hb4 (by omega)) (grid_infoA _ _ _ _ _) (by rw [gridA_size]) (gridA_one _ _ _ _ _) ?_))
        refine bodyPost_ret (v := .tuple #[.agg (gridA 0 0 0 (fun _ => 0) (fun _ => sl0)), .bool false]) ?_ rfl ⟨.inl ⟨rfl, rfl⟩, ?_⟩
        · rw [results_cell_tmp rfl]
          simp [asAddr, Result.andThen, run_gridOf (RowAt.setRow (HZr.out.below hb4 (by omega)) (gridA 0 0 0 (fun _ => 0) (fun _ => sl0)))]
        · exact below_row (HW.out.trans (hb4.mono (by omega))) (by omega) _
      · go_upto_region 14 with (first | (refine wpList_load_row rfl 193 (.tmp 4) rfl v0.heap.size rfl 193 (gridA R C l.length (numF l l.length) t) (0, 0) _ HG.out Try.underlying193 rfl (grid_infoA _ _ _ _ _) ?_) | (go_at_call 161; refine (isTiled_is HX2.out hR5 hC5 HF.out).mono ?_; rintro e w4 ⟨rfl, hb4⟩))
        go_wp2_with (first | (refine wpList_load_row rfl 193 (.tmp 4) rfl v0.heap.size rfl 193 (gridA R C l.length (numF l l.length) t) (0, 0) _ (HG.out.below hb4 szr) Try.underlying193 rfl (grid_infoA _ _ _ _ _) ?_) | (refine wpList_store_row rfl 193 (.tmp 2) (.tmp 63) rfl (w.heap.size + 1) (gridA R C l.length (numF l l.length) t) rfl rfl 193 _ (HZr.out.below hb4 (by omega)) (grid_infoA _ _ _ _ _) (by rw [gridA_size, gridA_size]) (gridA_one _ _ _ _ _) ?_))
        have bF : Below w.heap.size w (w4.setRow (w.heap.size + 1) (gridA R C l.length (numF l l.length) t)) := below_row (HW.out.trans (hb4.mono (by omega))) (by omega) _
        refine bodyPost_ret (v := .tuple #[.agg (gridA R C l.length (numF l l.length) t), .bool true]) ?_ rfl ⟨.inr ⟨rfl, t, rfl, fun i hi => (HT.out i hi).below bF⟩, bF⟩
        · rw [results_cell_tmp rfl]
          simp [asAddr, Result.andThen, run_gridOf (RowAt.setRow (HZr.out.below hb4 (by omega)) (gridA R C l.length (numF l l.length) t))]
end Go.Proofs.Ytdcebaneobkcoaa
namespace Go.Proofs.Ytdcebaneobkcoaa
open Go.RowKit

set_option maxRecDepth 100000 in
set_option maxHeartbeats 4000000 in
theorem implTableOk_is {R C : Int} {a : Option Addr} {n cap : Nat} {l : List Cl} {w : World} {x : Bool} (hx : okB R C l = x) (h : Tab w a n cap l) :
    Calls Try.prog 152 #[.agg #[.int .i64 R, .int .i64 C, .slice a n cap]] w fun z w' => z = .returned (.bool x) ∧ Below w.heap.size w w' := by
  have HX : Hid (okB R C l = x) := hx
  have H : Hid (Tab w a n cap l) := h
  clear hx h
  go_enter Try.func152, Try.ntmps152
  go_upto_region 1 with fail
  have B0 : Below w.heap.size w (w.alloc (.cells #[.int .i64 R, .int .i64 C, .slice a n cap] 38)) := (Below.refl _ _).alloc (Nat.le_refl _) _
  have HT : Hid (Tab (w.alloc (.cells #[.int .i64 R, .int .i64 C, .slice a n cap] 38)) a n cap l) := H.out.below B0
  have G2 : RowAt (w.alloc (.cells #[.int .i64 R, .int .i64 C, .slice a n cap] 38)) w.heap.size #[.int .i64 R, .int .i64 C, .slice a n cap] 38 := rowAt_new w _ _
  generalize (w.alloc (.cells #[.int .i64 R, .int .i64 C, .slice a n cap] 38)) = v0 at B0 HT G2 ⊢
  have k0 : v0.cell? ⟨w.heap.size, 0, none⟩ = some (.int .i64 R) := G2.cell 0
  have k1 : v0.cell? ⟨w.heap.size, 1, none⟩ = some (.int .i64 C) := G2.cell 1
  have k2 : v0.cell? ⟨w.heap.size, 2, none⟩ = some (.slice a n cap) := G2.cell 2
  clear G2
  cases x
  · go_wp2_with (first | (go_at_call 155; refine (gridOf_is HX.out HT.out).mono ?_; rintro e w1 ⟨(⟨-, rfl⟩ | ⟨hno, -⟩), hb1⟩; rotate_left; exact absurd hno (by simp)) | (rw [← grid_zero]; refine wpList_store_row rfl 193 (.tmp 3) (.tmp 8) rfl w1.heap.size (gridA 0 0 0 (fun _ => 0) (fun _ => sl0)) rfl rfl 193 _ (gridAt_new _ _ _ _ _ _) (grid_infoA _ _ _ _ _) (by rw [gridA_size]) (gridA_one _ _ _ _ _) ?_))
    go_ret
    exact ⟨rfl, below_row ((B0.trans (hb1.mono B0.size)).alloc (Nat.le_trans B0.size hb1.size) _) (Nat.le_trans B0.size hb1.size) _⟩
  · go_wp2_with (first | (go_at_call 155; refine (gridOf_is HX.out HT.out).mono ?_; rintro e w1 ⟨(⟨hno, -⟩ | ⟨-, t, rfl, -⟩), hb1⟩; exact absurd hno (by simp)) | (rw [← grid_zero]; refine wpList_store_row rfl 193 (.tmp 3) (.tmp 8) rfl w1.heap.size (gridA R C l.length (numF l l.length) t) rfl rfl 193 _ (gridAt_new _ _ _ _ _ _) (grid_infoA _ _ _ _ _) (by rw [gridA_size, gridA_size]) (gridA_one _ _ _ _ _) ?_))
    go_ret
    exact ⟨rfl, below_row ((B0.trans (hb1.mono B0.size)).alloc (Nat.le_trans B0.size hb1.size) _) (Nat.le_trans B0.size hb1.size) _⟩
end Go.Proofs.Ytdcebaneobkcoaa
namespace Go.Proofs.Ytdcebaneobkcoaa
open Go.RowKit

set_option maxRecDepth 100000 in
set_option maxHeartbeats 4000000 in
theorem paraOk_is {ta : Option Addr} {tn tc : Nat} {t : List Sg} {w : World} {x : Bool} (hx : textB t = x) (ht : Txt w ta tn tc t) :
    Calls Try.prog 120 #[.agg #[.slice ta tn tc]] w fun e w' => e = .returned (.bool x) ∧ Below w.heap.size w w' := by
  have HX : Hid (textB t = x) := hx
  go_enter Try.func120, Try.ntmps120
  go_upto_region 1 with fail
  have B0 : Below w.heap.size w (w.alloc (.cells #[.slice ta tn tc] 109)) := (Below.refl _ _).alloc (Nat.le_refl _) _
  have q0 : (w.alloc (.cells #[.slice ta tn tc] 109)).cell? ⟨w.heap.size, 0, none⟩ = some (.slice ta tn tc) := by simp
  have HT : Hid (Txt (w.alloc (.cells #[.slice ta tn tc] 109)) ta tn tc t) := ht.below B0
  generalize (w.alloc (.cells #[.slice ta tn tc] 109)) = v0 at B0 q0 HT ⊢
  go_wp2_with fail
  refine (implTextOk_is HT.out HX.out).mono ?_
  rintro e u ⟨rfl, hb⟩
  go_wp2_with fail
  go_ret
  exact ⟨rfl, B0.trans (hb.mono B0.size)⟩
set_option maxRecDepth 100000 in
set_option maxHeartbeats 4000000 in
theorem itemOk_is {v : Int} {ta : Option Addr} {tn tc : Nat} {t : List Sg} {w : World} {x : Bool} (hx : (decide (0 ≤ v ∧ v ≤ 3) && textB t) = x) (ht : Txt w ta tn tc t) :
    Calls Try.prog 146 #[.agg #[.int .i64 v, .slice ta tn tc]] w fun e w' => e = .returned (.bool x) ∧ Below w.heap.size w w' := by
  have HX : Hid ((decide (0 ≤ v ∧ v ≤ 3) && textB t) = x) := hx
  obtain ⟨tb, HTB⟩ : ∃ b, Hid (textB t = b) := ⟨_, rfl⟩
  clear hx
  go_enter Try.func146, Try.ntmps146
  go_upto_region 1 with fail
  have B0 : Below w.heap.size w (w.alloc (.cells #[.int .i64 v, .slice ta tn tc] 111)) := (Below.refl _ _).alloc (Nat.le_refl _) _
  have G0 : RowAt (w.alloc (.cells #[.int .i64 v, .slice ta tn tc] 111)) w.heap.size #[.int .i64 v, .slice ta tn tc] 111 := rowAt_new _ _ _
  have HT : Hid (Txt (w.alloc (.cells #[.int .i64 v, .slice ta tn tc] 111)) ta tn tc t) := ht.below B0
  generalize (w.alloc (.cells #[.int .i64 v, .slice ta tn tc] 111)) = v0 at B0 G0 HT ⊢
  have q0 : v0.cell? ⟨w.heap.size, 0, none⟩ = some (.int .i64 v) := G0.cell 0
  have q1 : v0.cell? ⟨w.heap.size, 1, none⟩ = some (.slice ta tn tc) := G0.cell 1
  clear G0 ht
  by_cases h0 : 0 ≤ v
  · by_cases h3 : v ≤ 3
    · go_wp2_with (go_at_call 123; refine (implTextOk_is HT.out HTB.out).mono ?_; rintro e u ⟨rfl, hb⟩)
      go_ret
      refine ⟨?_, B0.trans (hb.mono B0.size)⟩
      rw [← HX.out, decide_eq_true (show 0 ≤ v ∧ v ≤ 3 from ⟨h0, h3⟩), HTB.out, Bool.true_and]
      rfl
    · go_wp2_with fail
      go_ret
      refine ⟨?_, B0⟩
      rw [← HX.out, decide_eq_false (show ¬ (0 ≤ v ∧ v ≤ 3) by omega), Bool.false_and]
      rfl
  · go_wp2_with fail
    go_ret
    refine ⟨?_, B0⟩
    rw [← HX.out, decide_eq_false (show ¬ (0 ≤ v ∧ v ≤ 3) by omega), Bool.false_and]
    rfl
set_option maxRecDepth 100000 in
set_option maxHeartbeats 4000000 in
theorem sheetOk_is {R C : Int} {ca : Option Addr} {cn cc : Nat} {l : List Cl} {w : World} {x : Bool} (hx : okB R C l = x) (ht : Tab w ca cn cc l) :
    Calls Try.prog 149 #[.agg #[.int .i64 R, .int .i64 C, .slice ca cn cc]] w fun e w' => e = .returned (.bool x) ∧ Below w.heap.size w w' := by
  have HX : Hid (okB R C l = x) := hx
  go_enter Try.func149, Try.ntmps149
  go_upto_region 1 with fail
  have B0 : Below w.heap.size w (w.alloc (.cells #[.int .i64 R, .int .i64 C, .slice ca cn cc] 125)) := (Below.refl _ _).alloc (Nat.le_refl _) _
  have G0 : RowAt (w.alloc (.cells #[.int .i64 R, .int .i64 C, .slice ca cn cc] 125)) w.heap.size #[.int .i64 R, .int .i64 C, .slice ca cn cc] 125 := rowAt_new _ _ _
  have HT : Hid (Tab (w.alloc (.cells #[.int .i64 R, .int .i64 C, .slice ca cn cc] 125)) ca cn cc l) := ht.below B0
  generalize (w.alloc (.cells #[.int .i64 R, .int .i64 C, .slice ca cn cc] 125)) = v0 at B0 G0 HT ⊢
  have q0 : v0.cell? ⟨w.heap.size, 0, none⟩ = some (.int .i64 R) := G0.cell 0
  have q1 : v0.cell? ⟨w.heap.size, 1, none⟩ = some (.int .i64 C) := G0.cell 1
  have q2 : v0.cell? ⟨w.heap.size, 2, none⟩ = some (.slice ca cn cc) := G0.cell 2
  clear G0 ht hx
  go_wp2_with fail
  refine (implTableOk_is HX.out HT.out).mono ?_
  rintro e u ⟨rfl, hb⟩
  go_wp2_with fail
  go_ret
  exact ⟨rfl, B0.trans (hb.mono B0.size)⟩
theorem item_info : (Try.prog.info? 111).map (fun i => (i.zero, i.size, i.bytes)) = some (some (.agg #[.int .i64 0, .slice none 0 0]), 2, 32) := by kernel_rfl
theorem assert_item (v : Value) (w : World) : (Instr.typeAssert (.iface 111 v) 65 111 true).run Try.prog w = .ok (.tuple #[v, .bool true]) w := by
  simp [Instr.typeAssert, run_underlying Try.underlying111, typeInfo]
theorem assert_other {t : TypeId} (ht : t ≠ 111) (v : Value) (w : World) : (Instr.typeAssert (.iface t v) 65 111 true).run Try.prog w = .ok (.tuple #[.agg #[.int .i64 0, .slice none 0 0], .bool false]) w := by
  obtain ⟨i0, hi, hz0, hz1, hz2⟩ := info_parts item_info
  simp [Instr.typeAssert, run_underlying Try.underlying111, typeInfo, zeroValue, hi, hz0, ht]
set_option maxRecDepth 100000 in
set_option maxHeartbeats 4000000 in
theorem levelOf_item (v : Int) (ta : Option Addr) (tn tc : Nat) (w : World) :
    Calls Try.prog 49 #[.iface 111 (.agg #[.int .i64 v, .slice ta tn tc])] w fun e w' => e = .returned (.int .i64 v) ∧ Below w.heap.size w w' := by
  go_enter Try.func49, Try.ntmps49
  go_wp2_with fail
  rw [assert_item]
  go_wp2_with fail
  go_ret
  exact ⟨rfl, (Below.refl _ _).alloc (Nat.le_refl _) _⟩
set_option maxRecDepth 100000 in
set_option maxHeartbeats 4000000 in
theorem levelOf_para (ta : Option Addr) (tn tc : Nat) (w : World) :
    Calls Try.prog 49 #[.iface 109 (.agg #[.slice ta tn tc])] w fun e w' => e = .returned (.int .i64 (-1)) ∧ Below w.heap.size w w' := by
  go_enter Try.func49, Try.ntmps49
  go_wp2_with fail
  rw [assert_other (by decide)]
  go_wp2_with fail
  go_ret
  exact ⟨rfl, Below.refl _ _⟩
set_option maxRecDepth 100000 in
set_option maxHeartbeats 4000000 in
theorem levelOf_sheet (R C : Int) (ca : Option Addr) (cn cc : Nat) (w : World) :
    Calls Try.prog 49 #[.iface 125 (.agg #[.int .i64 R, .int .i64 C, .slice ca cn cc])] w fun e w' => e = .returned (.int .i64 (-1)) ∧ Below w.heap.size w w' := by
  go_enter Try.func49, Try.ntmps49
  go_wp2_with fail
  rw [assert_other (by decide)]
  go_wp2_with fail
  go_ret
  exact ⟨rfl, Below.refl _ _⟩
end Go.Proofs.Ytdcebaneobkcoaa
namespace Go.Proofs.Ytdcebaneobkcoaa
open Go.RowKit

theorem para_info : (Try.prog.info? 109).map (fun i => (i.zero, i.size, i.bytes)) = some (some (.agg #[.slice none 0 0]), 1, 24) := by kernel_rfl
theorem assert_para (v : Value) (w : World) : (Instr.typeAssert (.iface 109 v) 65 109 true).run Try.prog w = .ok (.tuple #[v, .bool true]) w := by
  simp [Instr.typeAssert, run_underlying Try.underlying109, typeInfo]
theorem assert_noPara {t : TypeId} (ht : t ≠ 109) (v : Value) (w : World) : (Instr.typeAssert (.iface t v) 65 109 true).run Try.prog w = .ok (.tuple #[.agg #[.slice none 0 0], .bool false]) w := by
  obtain ⟨i0, hi, hz0, hz1, hz2⟩ := info_parts para_info
  simp [Instr.typeAssert, run_underlying Try.underlying109, typeInfo, zeroValue, hi, hz0, ht]
end Go.Proofs.Ytdcebaneobkcoaa
namespace Go.Proofs.Ytdcebaneobkcoaa
open Go.RowKit

/-- A part's cell at block b, o. -/
def PartAt (w : World) (b o : Nat) (x : Bl) : Prop := ∃ ta tn tc ca cn cc, w.cell? ⟨b, o, none⟩ = some (partV x.1 x.2.1 ta tn tc x.2.2.2.1 x.2.2.2.2.1 ca cn cc) ∧ Txt w ta tn tc x.2.2.1 ∧ Tab w ca cn cc x.2.2.2.2.2
/-- A slice value that reads as the parts of the blocks d. -/
def Outl (w : World) (a : Option Addr) (n cap : Nat) (d : List Bl) : Prop :=
  n = d.length ∧ n ≤ cap ∧ cap ≤ maxLen ∧ (d = [] ∨ ∃ b off, a = some ⟨b, off, none⟩ ∧ b < w.heap.size ∧ ∀ k, k < d.length → PartAt w b (off + k) (d.getD k bl0))
theorem PartAt.below {w w' : World} {b o : Nat} {x : Bl} (h : PartAt w b o x) (hb : Below w.heap.size w w') (hlt : b < w.heap.size) : PartAt w' b o x := by
  obtain ⟨ta, tn, tc, ca, cn, cc, h0, ht, hc⟩ := h
  exact ⟨ta, tn, tc, ca, cn, cc, (hb.cell (p := ⟨b, _, none⟩) hlt).trans h0, ht.below hb, hc.below hb⟩
theorem Outl.below {w w' : World} {a : Option Addr} {n cap : Nat} {d : List Bl} (h : Outl w a n cap d) (hb : Below w.heap.size w w') : Outl w' a n cap d := by
  obtain ⟨h1, h2, h3, h4⟩ := h
  refine ⟨h1, h2, h3, ?_⟩
  rcases h4 with h4 | ⟨b, off, h5, h6, h7⟩
  · exact .inl h4
  · exact .inr ⟨b, off, h5, Nat.lt_of_lt_of_le h6 hb.size, fun k hk => (h7 k hk).below hb h6⟩
def partOkB (x : Bl) : Bool := if x.1 = 1 then textB x.2.2.1 else if x.1 = 2 then decide (0 ≤ x.2.1 ∧ x.2.1 ≤ 3) && textB x.2.2.1 else okB x.2.2.2.1 x.2.2.2.2.1 x.2.2.2.2.2
def outK (d : List Bl) (k : Nat) : Bool := partOkB (d.getD k bl0) && !decide (aheadN d k + 1 < lvN (d.getD k bl0))
def outlB (d : List Bl) : Bool := decide (d.length ≤ 8) && (List.range d.length).all (outK d)
def kindB (x : Bl) : Prop := x.1 = 1 ∨ x.1 = 2 ∨ x.1 = 3
theorem outlB_no {d : List Bl} {i : Nat} (hi : i < d.length) (h : outK d i = false) : outlB d = false := by
  unfold outlB
  have : (List.range d.length).all (outK d) = false := by
    cases hq : (List.range d.length).all (outK d)
    · rfl
    · have := List.all_eq_true.1 hq i (List.mem_range.2 hi)
      rw [h] at this
      cases this
  rw [this, Bool.and_false]
theorem lv_small {x : Bl} (h : partOkB x = true) : -1 ≤ lvN x ∧ lvN x ≤ 3 := by
  unfold lvN
  by_cases h2 : x.1 = 2
  · rw [if_pos h2]
    unfold partOkB at h
    rw [if_neg (by omega), if_pos h2] at h
    simp only [Bool.and_eq_true, decide_eq_true_eq] at h
    omega
  · rw [if_neg h2]
    omega
theorem aheadO_small {d : List Bl} {i : Nat} (h : (List.range i).all (outK d) = true) : -1 ≤ aheadN d i ∧ aheadN d i ≤ 3 := by
  rcases i with _ | j
  · show (-1 : Int) ≤ -1 ∧ (-1 : Int) ≤ 3
    omega
  · have hj := List.all_eq_true.1 h j (List.mem_range.2 (by omega))
    unfold outK at hj
    rw [Bool.and_eq_true] at hj
    exact lv_small hj.1
set_option maxRecDepth 100000 in
set_option maxHeartbeats 8000000 in
theorem outlineOk_is {a : Option Addr} {n cap : Nat} {d : List Bl} {w : World} {x : Bool} (hx : outlB d = x) (h : Outl w a n cap d) (hk : ∀ y ∈ d, kindB y) :
    Calls Try.prog 62 #[.slice a n cap] w fun e w' => e = .returned (.bool x) ∧ Below w.heap.size w w' := by
  have HX : Hid (outlB d = x) := hx
  have HN : Hid (n = d.length) := h.1
  have hc := h.2.1
  have hm := h.2.2.1
  unfold maxLen at hm
  have H : Hid (Outl w a n cap d) := h
  have HK : Hid (∀ y ∈ d, kindB y) := hk
  clear h hx hk
  go_enter Try.func62, Try.ntmps62
  by_cases h8 : 8 < n
  · have h8' : (8 : Int) < (n : Int) := by omega
    go_wp2_with fail
    go_ret
    refine ⟨?_, Below.refl _ _⟩
    have hd : ¬ d.length ≤ 8 := by have := HN.out; omega
    rw [← HX.out]
    unfold outlB
    rw [decide_eq_false hd, Bool.false_and]
    rfl
  · have h8' : ¬ (8 : Int) < (n : Int) := by omega
    go_wp2_with fail
    go_loopw [3, 11] (fun av iv wr => ∃ (i : Nat) (ah : Int), i ≤ n ∧ iv = .int .i64 i ∧ av = .int .i64 ah ∧ ah = aheadN d i ∧ (List.range i).all (outK d) = true ∧ Below w.heap.size w wr) (fun _ iv _ => n - (intOf iv).toNat)
    case atStart => exact ⟨0, -1, Nat.zero_le _, rfl, rfl, rfl, rfl, Below.refl _ _⟩
    case round =>
      obtain ⟨i, ah, hi, rfl, rfl, hah, hall, hb⟩ := hrel
      have HAll : Hid ((List.range i).all (outK d) = true) := hall
      have HAH : Hid (aheadN d i = ah) := hah.symm
      have hsm : -1 ≤ ah ∧ ah ≤ 3 := by rw [hah]; exact aheadO_small hall
      have HB : Hid (Below w.heap.size w wr) := hb
      have HD : Hid (Outl wr a n cap d) := H.out.below hb
      clear hall hb hah
      by_cases hlt : i < n
      · have hil : i < d.length := by have := HN.out; omega
        have hib : (i : Int) < (n : Int) := by omega
        have hi0 : (0 : Int) ≤ (i : Int) := by omega
        rcases HD.out.2.2.2 with e | ⟨b, off, rfl, hbl, hcl⟩
        · rw [e] at hil
          exact absurd hil (by simp)
        obtain ⟨ta, tn, tc, ca, cn, cc, hcell, ht, htb⟩ := hcl i hil
        have hkd : kindB (d.getD i bl0) := by
          refine HK.out _ ?_
          rw [show d.getD i bl0 = d[i] by simp [List.getD, hil]]
          exact List.getElem_mem hil
        obtain ⟨⟨K, V, t, R, C, l⟩, hx⟩ : ∃ x, x = d.getD i bl0 := ⟨_, rfl⟩
        rw [← hx] at hcell ht htb hkd
        have HE : Hid (d.getD i bl0 = (K, V, t, R, C, l)) := hx.symm
        have HT : Hid (Txt wr ta tn tc t) := ht
        have HC : Hid (Tab wr ca cn cc l) := htb
        have HNX : Hid (lvN (K, V, t, R, C, l) = aheadN d (i + 1)) := by rw [← HE.out]; rfl
        obtain ⟨pb, HPB⟩ : ∃ b, Hid (partOkB (K, V, t, R, C, l) = b) := ⟨_, rfl⟩
        have HOK : Hid (outK d i = (pb && !decide (ah + 1 < lvN (K, V, t, R, C, l)))) := by
          show outK d i = _
          unfold outK
          rw [HE.out, HPB.out, HAH.out]
        clear hcl ht htb hx
        unfold kindB at hkd
        simp only at hkd hcell
        have sB := HB.out.size
        rcases hkd with hk1 | hk2 | hk3
        · subst hk1
          have c0 : wr.cell? ⟨b, off + i, none⟩ = some (.iface 109 (.agg #[.slice ta tn tc])) := hcell
          clear hcell
          have HP : Hid (textB t = pb) := HPB.out
          cases pb
          · have HO : Hid (outK d i = false) := by show outK d i = false; rw [HOK.out]; rfl
            go_wp2_with (change Calls Try.prog 120 #[.agg #[.slice ta tn tc]] _ _; refine (paraOk_is HP.out HT.out).mono ?_; rintro e u1 ⟨rfl, hb1⟩; replace HB : Hid (Below w.heap.size w u1) := HB.out.trans (hb1.mono sB); have sB1 := HB.out.size; clear hb1)
            go_ret
            exact ⟨by rw [← HX.out, outlB_no hil HO.out]; rfl, HB.out⟩
          · have HO : Hid (outK d i = true) := by show outK d i = true; rw [HOK.out]; simp [lvN]; omega
            go_wp2_with (first | (change Calls Try.prog 120 #[.agg #[.slice ta tn tc]] _ _; refine (paraOk_is HP.out HT.out).mono ?_; rintro e u1 ⟨rfl, hb1⟩; replace HB : Hid (Below w.heap.size w u1) := HB.out.trans (hb1.mono sB); have sB1 := HB.out.size; clear hb1) | (go_at_call 49; refine (levelOf_para ta tn tc _).mono ?_; rintro e u2 ⟨rfl, hb2⟩; replace HB : Hid (Below w.heap.size w u2) := HB.out.trans (hb2.mono HB.out.size); clear hb2))
            go_roundw
            case rel => exact ⟨i + 1, -1, by omega, by go_num, rfl, by rw [← HNX.out]; rfl, by rw [List.range_succ, List.all_append, HAll.out]; simp [HO.out], HB.out⟩
            case measure => simp [intOf]; omega
        · subst hk2
          have c0 : wr.cell? ⟨b, off + i, none⟩ = some (.iface 111 (.agg #[.int .i64 V, .slice ta tn tc])) := hcell
          clear hcell
          have HP : Hid ((decide (0 ≤ V ∧ V ≤ 3) && textB t) = pb) := HPB.out
          cases pb
          · have HO : Hid (outK d i = false) := by show outK d i = false; rw [HOK.out]; rfl
            go_wp2_with (change Calls Try.prog 146 #[.agg #[.int .i64 V, .slice ta tn tc]] _ _; refine (itemOk_is HP.out HT.out).mono ?_; rintro e u1 ⟨rfl, hb1⟩; replace HB : Hid (Below w.heap.size w u1) := HB.out.trans (hb1.mono sB); have sB1 := HB.out.size; clear hb1)
            go_ret
            exact ⟨by rw [← HX.out, outlB_no hil HO.out]; rfl, HB.out⟩
          · by_cases hlv : ah + 1 < V
            · have HO : Hid (outK d i = false) := by show outK d i = false; rw [HOK.out]; simp [lvN, hlv]
              go_wp2_with (first | (change Calls Try.prog 146 #[.agg #[.int .i64 V, .slice ta tn tc]] _ _; refine (itemOk_is HP.out HT.out).mono ?_; rintro e u1 ⟨rfl, hb1⟩; replace HB : Hid (Below w.heap.size w u1) := HB.out.trans (hb1.mono sB); have sB1 := HB.out.size; clear hb1) | (go_at_call 49; refine (levelOf_item V ta tn tc _).mono ?_; rintro e u2 ⟨rfl, hb2⟩; replace HB : Hid (Below w.heap.size w u2) := HB.out.trans (hb2.mono HB.out.size); clear hb2))
              go_ret
              exact ⟨by rw [← HX.out, outlB_no hil HO.out]; rfl, HB.out⟩
            · have HO : Hid (outK d i = true) := by show outK d i = true; rw [HOK.out]; simp [lvN, hlv]
              go_wp2_with (first | (change Calls Try.prog 146 #[.agg #[.int .i64 V, .slice ta tn tc]] _ _; refine (itemOk_is HP.out HT.out).mono ?_; rintro e u1 ⟨rfl, hb1⟩; replace HB : Hid (Below w.heap.size w u1) := HB.out.trans (hb1.mono sB); have sB1 := HB.out.size; clear hb1) | (go_at_call 49; refine (levelOf_item V ta tn tc _).mono ?_; rintro e u2 ⟨rfl, hb2⟩; replace HB : Hid (Below w.heap.size w u2) := HB.out.trans (hb2.mono HB.out.size); clear hb2))
              go_roundw
              case rel => exact ⟨i + 1, V, by omega, by go_num, rfl, by rw [← HNX.out]; rfl, by rw [List.range_succ, List.all_append, HAll.out]; simp [HO.out], HB.out⟩
              case measure => simp [intOf]; omega
        · subst hk3
          have c0 : wr.cell? ⟨b, off + i, none⟩ = some (.iface 125 (.agg #[.int .i64 R, .int .i64 C, .slice ca cn cc])) := hcell
          clear hcell
          have HP : Hid (okB R C l = pb) := HPB.out
          cases pb
          · have HO : Hid (outK d i = false) := by show outK d i = false; rw [HOK.out]; rfl
            go_wp2_with (change Calls Try.prog 149 #[.agg #[.int .i64 R, .int .i64 C, .slice ca cn cc]] _ _; refine (sheetOk_is HP.out HC.out).mono ?_; rintro e u1 ⟨rfl, hb1⟩; replace HB : Hid (Below w.heap.size w u1) := HB.out.trans (hb1.mono sB); have sB1 := HB.out.size; clear hb1)
            go_ret
            exact ⟨by rw [← HX.out, outlB_no hil HO.out]; rfl, HB.out⟩
          · have HO : Hid (outK d i = true) := by show outK d i = true; rw [HOK.out]; simp [lvN]; omega
            go_wp2_with (first | (change Calls Try.prog 149 #[.agg #[.int .i64 R, .int .i64 C, .slice ca cn cc]] _ _; refine (sheetOk_is HP.out HC.out).mono ?_; rintro e u1 ⟨rfl, hb1⟩; replace HB : Hid (Below w.heap.size w u1) := HB.out.trans (hb1.mono sB); have sB1 := HB.out.size; clear hb1) | (go_at_call 49; refine (levelOf_sheet R C ca cn cc _).mono ?_; rintro e u2 ⟨rfl, hb2⟩; replace HB : Hid (Below w.heap.size w u2) := HB.out.trans (hb2.mono HB.out.size); clear hb2))
            go_roundw
            case rel => exact ⟨i + 1, -1, by omega, by go_num, rfl, by rw [← HNX.out]; rfl, by rw [List.range_succ, List.all_append, HAll.out]; simp [HO.out], HB.out⟩
            case measure => simp [intOf]; omega
      · have hib : ¬ (i : Int) < (n : Int) := by omega
        obtain rfl : i = n := by omega
        go_wp2_with fail
        go_ret
        refine ⟨?_, HB.out⟩
        have hd : d.length ≤ 8 := by have := HN.out; omega
        rw [← HX.out]
        unfold outlB
        rw [decide_eq_true hd, Bool.true_and, ← HN.out, HAll.out]
        rfl
end Go.Proofs.Ytdcebaneobkcoaa
namespace Go.Proofs.Ytdcebaneobkcoaa
open Go.RowKit

theorem block_part (x : Bl) : blockB x = true ↔ kindB x ∧ partB x.1 x.2.1 x.2.2.1 x.2.2.2.1 x.2.2.2.2.1 x.2.2.2.2.2 = true ∧ partOkB x = true := by
  obtain ⟨k, v, t, R, C, l⟩ := x
  unfold blockB partB partOkB kindB
  simp only
  by_cases h1 : k = 1
  · subst h1
    simp [and_assoc, and_comm, and_left_comm]
  · by_cases h2 : k = 2
    · subst h2
      simp [and_assoc, and_comm, and_left_comm]
    · by_cases h3 : k = 3
      · subst h3
        simp [and_assoc, and_comm]
      · simp [h1, h2, h3]
theorem getD_bl {d : List Bl} {k : Nat} (hk : k < d.length) : d.getD k bl0 = d[k] := by simp [List.getD, hk]
/-- A document is ok just if each block is a part, and the parts are ok. -/
theorem doc_parts (d : List Bl) : docB d = true ↔ d.length ≤ 8 ∧ (∀ x ∈ d, kindB x ∧ partB x.1 x.2.1 x.2.2.1 x.2.2.2.1 x.2.2.2.2.1 x.2.2.2.2.2 = true) ∧ outlB d = true := by
  unfold docB outlB
  rw [Bool.and_eq_true, Bool.and_eq_true, decide_eq_true_eq, List.all_eq_true, List.all_eq_true]
  constructor
  · rintro ⟨h8, h⟩
    have hall : ∀ k, k < d.length → docK d k = true := fun k hk => h k (List.mem_range.2 hk)
    refine ⟨h8, fun x hx => ?_, h8, fun k hk => ?_⟩
    · obtain ⟨k, hk, e⟩ := List.getElem_of_mem hx
      have h1 := hall k hk
      unfold docK at h1
      rw [Bool.and_eq_true, block_part, getD_bl hk, e] at h1
      exact ⟨h1.1.1, h1.1.2.1⟩
    · have hk' := List.mem_range.1 hk
      have h1 := hall k hk'
      have ha := ahead_small (d := d) (i := k) (List.all_eq_true.2 fun j hj => hall j (by have := List.mem_range.1 hj; omega))
      unfold docK at h1
      rw [Bool.and_eq_true, block_part] at h1
      unfold outK
      rw [Bool.and_eq_true]
      refine ⟨h1.1.2.2, ?_⟩
      unfold lvN
      by_cases h2 : (d.getD k bl0).1 = 2
      · rw [if_pos h2]
        have h3 := h1.2
        rw [decide_eq_true h2, Bool.true_and] at h3
        exact h3
      · rw [if_neg h2, decide_eq_false (by omega)]
        rfl
  · rintro ⟨h8, hp, _, ho⟩
    refine ⟨h8, fun k hk => ?_⟩
    have hk' := List.mem_range.1 hk
    have h1 := ho k hk
    have h2 := hp (d.getD k bl0) (by rw [getD_bl hk']; exact List.getElem_mem hk')
    unfold outK at h1
    rw [Bool.and_eq_true] at h1
    unfold docK
    rw [Bool.and_eq_true, block_part]
    refine ⟨⟨h2.1, h2.2, h1.1⟩, ?_⟩
    have h3 := h1.2
    unfold lvN at h3
    by_cases hi : (d.getD k bl0).1 = 2
    · rw [if_pos hi] at h3
      rw [decide_eq_true hi, Bool.true_and]
      exact h3
    · rw [decide_eq_false hi, Bool.false_and]
      rfl
end Go.Proofs.Ytdcebaneobkcoaa
namespace Go.Proofs.Ytdcebaneobkcoaa
open Go.RowKit

/-- A value that owns a list of parts. -/
def OwnP (w : World) (B : Nat) (v : Value) (ps : List Value) : Prop := w.ownsRow B 65 1 v ps.length ps
section
variable {w w' : World} {B : Nat} {v : Value} {ps : List Value}
theorem OwnP.shape (h : OwnP w B v ps) : ∃ a cap, v = .slice a ps.length cap := by
  have h' := h
  unfold OwnP at h'
  rcases h'.2 with ⟨rfl, h0⟩ | ⟨g, cap, cur, rfl, r⟩
  · exact ⟨none, 0, by rw [h0]⟩
  · exact ⟨_, _, rfl⟩
theorem OwnP.below (h : OwnP w B v ps) (hb : Below w.heap.size w w') : OwnP w' B v ps := own_below h hb
theorem OwnP.nil (w : World) (B : Nat) : OwnP w B (.slice none 0 0) [] := World.ownsRow_nil _ _ _ _
theorem OwnP.len {a : Option Addr} {n cap : Nat} (h : OwnP w B (.slice a n cap) ps) : n = ps.length := by
  obtain ⟨a', c', he⟩ := h.shape
  simp only [Value.slice.injEq] at he
  exact he.2.1
theorem OwnP.row {a : Option Addr} {n cap : Nat} (h : OwnP w B (.slice a n cap) ps) : w.ownsRow B 65 1 (.slice a n cap) n ps := by
  have := h.len
  subst this
  exact h
end
theorem ownP_step {B : Nat} {w wr w1 : World} {a : Option Addr} {k c : Nat} {v' : Value} {l : List Value} {x : Value} {o : Obj} (ho : OwnP wr B (.slice a k c) l) (hbl : Below B w wr) (hB : B ≤ wr.heap.size)
    (hown : w1.ownsRow B 65 1 v' (k + 1) (l ++ [x])) (hgrow : (wr.alloc o).grownBy w1 (Value.slice a k c).ownBlock) :
    ∃ a' c', v' = .slice a' (k + 1) c' ∧ OwnP w1 B (.slice a' (k + 1) c') (l ++ [x]) ∧ Below B w w1 := by
  have hk := ho.len
  have h1 : OwnP w1 B v' (l ++ [x]) := by
    unfold OwnP
    rw [List.length_append, show l.length + [x].length = k + 1 by simp; omega]
    exact hown
  obtain ⟨a', c', rfl⟩ := h1.shape
  have e : (l ++ [x]).length = k + 1 := by simp; omega
  rw [e] at h1 ⊢
  refine ⟨a', c', rfl, h1, ?_⟩
  exact (hbl.alloc hB _).grown hgrow (by simp; omega) (fun q hq => (ho.row.lt q hq).1)
/-- A part that reads as a block. -/
def PartIs (w : World) (p : Value) (x : Bl) : Prop := ∃ ta tn tc ca cn cc, p = partV x.1 x.2.1 ta tn tc x.2.2.2.1 x.2.2.2.2.1 ca cn cc ∧ Txt w ta tn tc x.2.2.1 ∧ Tab w ca cn cc x.2.2.2.2.2
theorem PartIs.below {w w' : World} {p : Value} {x : Bl} (h : PartIs w p x) (hb : Below w.heap.size w w') : PartIs w' p x := by
  obtain ⟨ta, tn, tc, ca, cn, cc, h0, ht, hc⟩ := h
  exact ⟨ta, tn, tc, ca, cn, cc, h0, ht.below hb, hc.below hb⟩
theorem PartIs.belowB {w w' : World} {B : Nat} {p : Value} {x : Bl} (h : PartIs w p x) (hs : w.heap.size = B) (hb : Below B w w') : PartIs w' p x := by
  subst hs
  exact h.below hb
/-- Parts that read as blocks. -/
def PartsAre (w : World) (ps : List Value) (d : List Bl) : Prop := ps.length = d.length ∧ ∀ k, k < d.length → PartIs w (ps.getD k .nilIface) (d.getD k bl0)
theorem PartsAre.below {w w' : World} {ps : List Value} {d : List Bl} (h : PartsAre w ps d) (hb : Below w.heap.size w w') : PartsAre w' ps d := ⟨h.1, fun k hk => (h.2 k hk).below hb⟩
theorem PartsAre.nil (w : World) : PartsAre w [] [] := ⟨rfl, fun k hk => absurd hk (by simp)⟩
theorem PartsAre.snoc {w : World} {ps : List Value} {d : List Bl} {p : Value} {x : Bl} (h : PartsAre w ps d) (hp : PartIs w p x) : PartsAre w (ps ++ [p]) (d ++ [x]) := by
  refine ⟨by simp [h.1], fun k hk => ?_⟩
  by_cases hlt : k < d.length
  · have e1 : (ps ++ [p]).getD k .nilIface = ps.getD k .nilIface := by simp [List.getD, List.getElem?_append_left (show k < ps.length by rw [h.1]; exact hlt)]
    have e2 : (d ++ [x]).getD k bl0 = d.getD k bl0 := by simp [List.getD, List.getElem?_append_left hlt]
    rw [e1, e2]
    exact h.2 k hlt
  · have ek : k = d.length := by simp at hk; omega
    subst ek
    have e1 : (ps ++ [p]).getD d.length .nilIface = p := by simp [List.getD, ← h.1]
    have e2 : (d ++ [x]).getD d.length bl0 = x := by simp [List.getD]
    rw [e1, e2]
    exact hp
theorem outl_of {w : World} {B : Nat} {a : Option Addr} {n c : Nat} {ps : List Value} {d : List Bl} (h : OwnP w B (.slice a n c) ps) (hp : PartsAre w ps d) : Outl w a n c d := by
  have hn := h.len
  have h' := h.row
  rcases h'.2 with ⟨hv, h0⟩ | ⟨g, cap, cur, hv, hg, hgg, h1, h2, h3, h4⟩
  · cases hv
    exact ⟨by rw [hn, hp.1], Nat.le_refl _, by unfold maxLen; omega, .inl (List.eq_nil_of_length_eq_zero (by rw [← hp.1]; omega))⟩
  · simp only [Value.slice.injEq] at hv
    obtain ⟨rfl, -, rfl⟩ := hv
    refine ⟨by rw [hn, hp.1], h1, h2, .inr ⟨g, 0, rfl, ?_, fun k hk => ?_⟩⟩
    · exact (Array.getElem?_eq_some_iff.1 hgg).1
    · obtain ⟨ta, tn, tc, ca, cn, cc, e, ht, hc⟩ := hp.2 k hk
      refine ⟨ta, tn, tc, ca, cn, cc, ?_, ht, hc⟩
      have hk' : k < n := by rw [hn, hp.1]; exact hk
      have := h'.cellAt k (by omega)
      rw [Nat.zero_add, this, ← e]
      simp [List.getD, show k < ps.length by omega]
theorem Try.info65 : (Try.prog.info? 65).map (fun i => (i.zero, i.size, i.bytes)) = some (some .nilIface, 1, 16) := by kernel_rfl
theorem part_one (k v : Int) (ta : Option Addr) (tn tc : Nat) (R C : Int) (ca : Option Addr) (cn cc : Nat) : (partV k v ta tn tc R C ca cn cc).oneCell' = true := by
  unfold partV
  by_cases h1 : k = 1
  · rw [if_pos h1]; rfl
  · rw [if_neg h1]
    by_cases h2 : k = 2
    · rw [if_pos h2]; rfl
    · rw [if_neg h2]
      by_cases h3 : k = 3
      · rw [if_pos h3]; rfl
      · rw [if_neg h3]; rfl
theorem cell_new1p (w : World) (x : Value) (t : TypeId) : ∀ j u, [x][j]? = some u → (w.alloc (.cells #[x] t)).cell? ((⟨w.heap.size, 0, none⟩ : Addr).add j) = some u := by
  intro j u hj
  match j, hj with
  | 0, hj => simp at hj; subst hj; simp [Addr.add]
  | (j + 1), hj => simp at hj
theorem partB_kind {k v : Int} {t : List Sg} {R C : Int} {l : List Cl} (h : partB k v t R C l = true) : k = 1 ∨ k = 2 ∨ k = 3 := by
  unfold partB at h
  by_cases h1 : k = 1
  · exact .inl h1
  · by_cases h2 : k = 2
    · exact .inr (.inl h2)
    · by_cases h3 : k = 3
      · exact .inr (.inr h3)
      · simp [h1, h2, h3] at h
/-- What a block has nothing of that is not of its kind. -/
def partBB (x : Bl) : Bool := partB x.1 x.2.1 x.2.2.1 x.2.2.2.1 x.2.2.2.2.1 x.2.2.2.2.2
theorem doc_parts2 (d : List Bl) : docB d = true ↔ d.length ≤ 8 ∧ d.all partBB = true ∧ outlB d = true := by
  rw [doc_parts, List.all_eq_true]
  constructor
  · rintro ⟨h1, h2, h3⟩
    exact ⟨h1, fun x hx => (h2 x hx).2, h3⟩
  · rintro ⟨h1, h2, h3⟩
    exact ⟨h1, fun x hx => ⟨partB_kind (h2 x hx), h2 x hx⟩, h3⟩

set_option maxRecDepth 100000 in
set_option maxHeartbeats 8000000 in
theorem outlineOf_is {a : Option Addr} {n cap : Nat} {d : List Bl} {w : World} {x : Bool} (hx : docB d = x) (h : Dc w a n cap d) :
    Calls Try.prog 35 #[.agg #[.slice a n cap]] w fun e w' => ((x = false ∧ e = .returned (.tuple #[.slice none 0 0, .bool false])) ∨ (x = true ∧ ∃ pa pc ps, e = .returned (.tuple #[.slice pa n pc, .bool true]) ∧ OwnP w' w.heap.size (.slice pa n pc) ps ∧ PartsAre w ps d)) ∧ Below w.heap.size w w' := by
  have HX : Hid (docB d = x) := hx
  have hc := h.2.1
  have hm := h.2.2.1
  unfold maxLen at hm
  have HN : Hid (n = d.length) := h.1
  have H : Hid (Dc w a n cap d) := h
  clear h hx
  obtain ⟨i0, hi, hz0, hz1, hz2⟩ := info_parts Try.info65
  go_enter Try.func35, Try.ntmps35
  by_cases h8 : 8 < n
  · have h8' : (8 : Int) < (n : Int) := by omega
    go_wp2_with fail
    go_ret2
    refine ⟨.inl ⟨?_, rfl⟩, (Below.refl _ _).alloc (Nat.le_refl _) _⟩
    rw [← HX.out]
    unfold docB
    rw [decide_eq_false (by have := HN.out; omega), Bool.false_and]
  · have h8' : ¬ (8 : Int) < (n : Int) := by omega
    go_upto_region 4 with fail
    have B0 : Below w.heap.size w (w.alloc (.cells #[.slice a n cap] 25)) := (Below.refl _ _).alloc (Nat.le_refl _) _
    have D0 : Hid (Dc (w.alloc (.cells #[.slice a n cap] 25)) a n cap d) := H.out.below B0
    have G0 : RowAt (w.alloc (.cells #[.slice a n cap] 25)) w.heap.size #[.slice a n cap] 25 := rowAt_new _ _ _
    generalize w.alloc (.cells #[.slice a n cap] 25) = v0 at B0 D0 G0 ⊢
    have k0 : v0.cell? ⟨w.heap.size, 0, none⟩ = some (.slice a n cap) := G0.cell 0
    go_wp2_with fail
    clear k0
    have s0 := B0.size
    have HB0 : Hid (Below w.heap.size w v0) := B0
    clear B0
    go_loopw [4, 16] (fun pv iv wr => ∃ (i : Nat) (pa : Option Addr) (pc : Nat) (ps : List Value), i ≤ n ∧ iv = .int .i64 i ∧ pv = .slice pa i pc ∧ OwnP wr v0.heap.size (.slice pa i pc) ps ∧ PartsAre w ps (d.take i) ∧ (d.take i).all partBB = true ∧ Below v0.heap.size v0 wr) (fun _ iv _ => n - (intOf iv).toNat)
    case atStart => exact ⟨0, none, 0, [], Nat.zero_le _, rfl, rfl, OwnP.nil _ _, PartsAre.nil _, rfl, Below.refl _ _⟩
    case round =>
      obtain ⟨i, pa, pc, ps, hi', rfl, rfl, ho, hp, hall, hb⟩ := hrel
      have HO : Hid (OwnP wr v0.heap.size (.slice pa i pc) ps) := ho
      have HP : Hid (PartsAre w ps (d.take i)) := hp
      have HA : Hid ((d.take i).all partBB = true) := hall
      have HB : Hid (Below v0.heap.size v0 wr) := hb
      have sB := hb.size
      clear ho hp hall
      by_cases hlt : i < n
      · have hil : i < d.length := by have := HN.out; omega
        have hib : (i : Int) < (n : Int) := by omega
        have hi0 : (0 : Int) ≤ (i : Int) := by omega
        rcases H.out.2.2.2 with e | ⟨b, off, rfl, hbl, hcl⟩
        · rw [e] at hil
          exact absurd hil (by simp)
        obtain ⟨ta, tn, tc, ca, cn, cc, hblk0⟩ := hcl i hil
        have hblk := hblk0.below (HB0.out.trans (hb.mono s0)) hbl
        have HTK : Hid (d.take (i + 1) = d.take i ++ [d.getD i bl0]) := by
          show d.take (i + 1) = d.take i ++ [d.getD i bl0]
          rw [List.take_succ_eq_append_getElem hil, getD_bl hil]
        have HMEM : Hid (d.getD i bl0 ∈ d) := by
          show d.getD i bl0 ∈ d
          rw [getD_bl hil]
          exact List.getElem_mem hil
        obtain ⟨⟨K, V, t, R, C, l⟩, hx⟩ : ∃ x, x = d.getD i bl0 := ⟨_, rfl⟩
        rw [← hx] at hblk hblk0 HTK HMEM
        have HPI : Hid (PartIs w (partV K V ta tn tc R C ca cn cc) (K, V, t, R, C, l)) := ⟨ta, tn, tc, ca, cn, cc, rfl, hblk0.2.2.2.2.2.2.1, hblk0.2.2.2.2.2.2.2⟩
        clear hblk0
        obtain ⟨c0, c1, c2, c3, c4, c5, ht, htb⟩ := hblk
        simp only at c0 c1 c3 c4 ht htb
        obtain ⟨pb, HPB⟩ : ∃ b, Hid (partB K V t R C l = b) := ⟨_, rfl⟩
        clear hcl hx hb
        go_upto_region 7 with fail
        have hbA : Below wr.heap.size wr (wr.alloc (.cells #[.int .i64 K, .int .i64 V, .slice ta tn tc, .int .i64 R, .int .i64 C, .slice ca cn cc] 40)) := (Below.refl _ _).alloc (Nat.le_refl _) _
        have gA : RowAt (wr.alloc (.cells #[.int .i64 K, .int .i64 V, .slice ta tn tc, .int .i64 R, .int .i64 C, .slice ca cn cc] 40)) wr.heap.size #[.int .i64 K, .int .i64 V, .slice ta tn tc, .int .i64 R, .int .i64 C, .slice ca cn cc] 40 := rowAt_new _ _ _
        generalize wr.alloc (.cells #[.int .i64 K, .int .i64 V, .slice ta tn tc, .int .i64 R, .int .i64 C, .slice ca cn cc] 40) = u0 at hbA gA ⊢
        have HT : Hid (Txt u0 ta tn tc t) := ht.below hbA
        have HTB : Hid (Tab u0 ca cn cc l) := htb.below hbA
        have q0 : u0.cell? ⟨wr.heap.size, 0, none⟩ = some (.int .i64 K) := gA.cell 0
        have q1 : u0.cell? ⟨wr.heap.size, 1, none⟩ = some (.int .i64 V) := gA.cell 1
        have q2 : u0.cell? ⟨wr.heap.size, 2, none⟩ = some (.slice ta tn tc) := gA.cell 2
        have q3 : u0.cell? ⟨wr.heap.size, 3, none⟩ = some (.int .i64 R) := gA.cell 3
        have q4 : u0.cell? ⟨wr.heap.size, 4, none⟩ = some (.int .i64 C) := gA.cell 4
        have q5 : u0.cell? ⟨wr.heap.size, 5, none⟩ = some (.slice ca cn cc) := gA.cell 5
        have HBA : Hid (Below wr.heap.size wr u0) := hbA
        have sA := hbA.size
        clear ht htb c0 c1 c2 c3 c4 c5 hbA gA
        go_wp2_with fail
        refine (partOf_is HT.out HTB.out).mono ?_
        rintro e u1 ⟨rfl, hb1⟩
        rw [HPB.out]
        have hbB : Below wr.heap.size wr u1 := HBA.out.trans (hb1.mono sA)
        have s1 := hbB.size
        have HO1 : Hid (OwnP u1 v0.heap.size (.slice pa i pc) ps) := HO.out.below hbB
        have HB1 : Hid (Below v0.heap.size v0 u1) := HB.out.trans (hbB.mono sB)
        have hone := part_one K V ta tn tc R C ca cn cc
        clear q0 q1 q2 q3 q4 q5 hb1 hbB HBA
        cases pb
        · generalize partV K V ta tn tc R C ca cn cc = pv at HPI hone ⊢
          go_wp2_with fail
          go_ret2
          refine ⟨.inl ⟨?_, rfl⟩, HB0.out.trans (HB1.out.mono s0)⟩
          rw [← HX.out, ← Bool.not_eq_true, doc_parts2]
          rintro ⟨-, h2, -⟩
          have := List.all_eq_true.1 h2 _ HMEM.out
          rw [show partBB (K, V, t, R, C, l) = false from HPB.out] at this
          cases this
        · rcases partB_kind HPB.out with hK | hK | hK
          · subst hK
            have HP3 : Hid (PartIs w (.iface 109 (.agg #[.slice ta tn tc])) (1, V, t, R, C, l)) := HPI.out
            have ep : partV 1 V ta tn tc R C ca cn cc = .iface 109 (.agg #[.slice ta tn tc]) := rfl
            rw [ep]
            clear HPI hone ep
            go_wp2_with (at_builtin; refine wpList_append_own _ rfl (.tmp 27) (.tmp 29) 58 rfl v0.heap.size 65 i0 .nilIface 1 16 Try.underlying58 hi hz0 hz1 hz2 rfl (by decide) (.slice pa i pc) _ _ rfl (World.ownsRow.alloc HO1.out.row _) ⟨_, 0, none⟩ 1 1 [.iface 109 (.agg #[.slice ta tn tc])] rfl rfl (cell_new1p _ _ _) (by intro u hu; simp at hu; subst hu; rfl) (by unfold maxLen; omega) (by omega) (by simp; omega) ?_; intro v' u2 hown' hgrow _)
            obtain ⟨a', c', rfl, ho2, hb2⟩ := ownP_step (x := .iface 109 (.agg #[.slice ta tn tc])) HO1.out HB1.out (by omega) hown' hgrow
            go_roundw
            case rel =>
              refine ⟨i + 1, a', c', ps ++ [.iface 109 (.agg #[.slice ta tn tc])], by omega, by go_num, rfl, ho2, ?_, ?_, hb2⟩
              · rw [HTK.out]
                exact HP.out.snoc HP3.out
              · rw [HTK.out, List.all_append, HA.out]
                simp only [List.all_cons, List.all_nil, Bool.and_true, Bool.true_and]
                exact HPB.out
            case measure => simp [intOf]; omega
          · subst hK
            have HP3 : Hid (PartIs w (.iface 111 (.agg #[.int .i64 V, .slice ta tn tc])) (2, V, t, R, C, l)) := HPI.out
            have ep : partV 2 V ta tn tc R C ca cn cc = .iface 111 (.agg #[.int .i64 V, .slice ta tn tc]) := rfl
            rw [ep]
            clear HPI hone ep
            go_wp2_with (at_builtin; refine wpList_append_own _ rfl (.tmp 27) (.tmp 29) 58 rfl v0.heap.size 65 i0 .nilIface 1 16 Try.underlying58 hi hz0 hz1 hz2 rfl (by decide) (.slice pa i pc) _ _ rfl (World.ownsRow.alloc HO1.out.row _) ⟨_, 0, none⟩ 1 1 [.iface 111 (.agg #[.int .i64 V, .slice ta tn tc])] rfl rfl (cell_new1p _ _ _) (by intro u hu; simp at hu; subst hu; rfl) (by unfold maxLen; omega) (by omega) (by simp; omega) ?_; intro v' u2 hown' hgrow _)
            obtain ⟨a', c', rfl, ho2, hb2⟩ := ownP_step (x := .iface 111 (.agg #[.int .i64 V, .slice ta tn tc])) HO1.out HB1.out (by omega) hown' hgrow
            go_roundw
            case rel =>
              refine ⟨i + 1, a', c', ps ++ [.iface 111 (.agg #[.int .i64 V, .slice ta tn tc])], by omega, by go_num, rfl, ho2, ?_, ?_, hb2⟩
              · rw [HTK.out]
                exact HP.out.snoc HP3.out
              · rw [HTK.out, List.all_append, HA.out]
                simp only [List.all_cons, List.all_nil, Bool.and_true, Bool.true_and]
                exact HPB.out
            case measure => simp [intOf]; omega
          · subst hK
            have HP3 : Hid (PartIs w (.iface 125 (.agg #[.int .i64 R, .int .i64 C, .slice ca cn cc])) (3, V, t, R, C, l)) := HPI.out
            have ep : partV 3 V ta tn tc R C ca cn cc = .iface 125 (.agg #[.int .i64 R, .int .i64 C, .slice ca cn cc]) := rfl
            rw [ep]
            clear HPI hone ep
            go_wp2_with (at_builtin; refine wpList_append_own _ rfl (.tmp 27) (.tmp 29) 58 rfl v0.heap.size 65 i0 .nilIface 1 16 Try.underlying58 hi hz0 hz1 hz2 rfl (by decide) (.slice pa i pc) _ _ rfl (World.ownsRow.alloc HO1.out.row _) ⟨_, 0, none⟩ 1 1 [.iface 125 (.agg #[.int .i64 R, .int .i64 C, .slice ca cn cc])] rfl rfl (cell_new1p _ _ _) (by intro u hu; simp at hu; subst hu; rfl) (by unfold maxLen; omega) (by omega) (by simp; omega) ?_; intro v' u2 hown' hgrow _)
            obtain ⟨a', c', rfl, ho2, hb2⟩ := ownP_step (x := .iface 125 (.agg #[.int .i64 R, .int .i64 C, .slice ca cn cc])) HO1.out HB1.out (by omega) hown' hgrow
            go_roundw
            case rel =>
              refine ⟨i + 1, a', c', ps ++ [.iface 125 (.agg #[.int .i64 R, .int .i64 C, .slice ca cn cc])], by omega, by go_num, rfl, ho2, ?_, ?_, hb2⟩
              · rw [HTK.out]
                exact HP.out.snoc HP3.out
              · rw [HTK.out, List.all_append, HA.out]
                simp only [List.all_cons, List.all_nil, Bool.and_true, Bool.true_and]
                exact HPB.out
            case measure => simp [intOf]; omega
      · have hib : ¬ (i : Int) < (n : Int) := by omega
        obtain rfl : i = n := by omega
        have e : d.take i = d := List.take_of_length_le (by have := HN.out; omega)
        have HP2 : Hid (PartsAre w ps d) := by rw [← e]; exact HP.out
        have HA2 : Hid (d.all partBB = true) := by show d.all partBB = true; rw [← e]; exact HA.out
        have hk : ∀ y ∈ d, kindB y := fun y hy => partB_kind (List.all_eq_true.1 HA2.out y hy)
        obtain ⟨ob, HOB⟩ : ∃ b, Hid (outlB d = b) := ⟨_, rfl⟩
        have HOU : Hid (Outl wr pa i pc d) := outl_of HO.out (HP2.out.below (HB0.out.trans (hb.mono s0)))
        have HK : Hid (∀ y ∈ d, kindB y) := hk
        clear e hb hk
        cases ob
        · go_wp2_with (go_at_call 62; refine (outlineOk_is HOB.out HOU.out HK.out).mono ?_; rintro e u1 ⟨rfl, hb1⟩)
          go_ret2
          refine ⟨.inl ⟨?_, rfl⟩, HB0.out.trans ((HB.out.trans (hb1.mono sB)).mono s0)⟩
          rw [← HX.out, ← Bool.not_eq_true, doc_parts2, HOB.out]
          rintro ⟨-, -, h3⟩
          cases h3
        · go_wp2_with (go_at_call 62; refine (outlineOk_is HOB.out HOU.out HK.out).mono ?_; rintro e u1 ⟨rfl, hb1⟩)
          go_ret2
          refine ⟨.inr ⟨?_, pa, pc, ps, rfl, own_less (HO.out.below hb1) s0, HP2.out⟩, HB0.out.trans ((HB.out.trans (hb1.mono sB)).mono s0)⟩
          rw [← HX.out, doc_parts2]
          exact ⟨by have := HN.out; omega, HA2.out, HOB.out⟩
end Go.Proofs.Ytdcebaneobkcoaa
namespace Go.Proofs.Ytdcebaneobkcoaa
open Go.RowKit

/-- A list of parts of which one is read. -/
theorem ownP_at {w : World} {B : Nat} {pa : Option Addr} {n pc : Nat} {ps : List Value} (h : OwnP w B (.slice pa n pc) ps) {i : Nat} (hi : i < n) : ∃ g, pa = some ⟨g, 0, none⟩ ∧ B ≤ g ∧ g < w.heap.size ∧ w.cell? ⟨g, i, none⟩ = some (ps.getD i .nilIface) ∧ w.frozen? ⟨g, i, none⟩ = false := by
  have hr := h.row
  rcases hr.2 with ⟨hv, h0⟩ | ⟨g, cap, cur, hv, hg, hgg, _⟩
  · omega
  · simp only [Value.slice.injEq] at hv
    obtain ⟨rfl, -, rfl⟩ := hv
    refine ⟨g, rfl, hg, (Array.getElem?_eq_some_iff.1 hgg).1, ?_, hr.frozenAt i⟩
    have := hr.cellAt i (by omega)
    rw [this]
    have hl : i < ps.length := by rw [← h.len]; exact hi
    simp [List.getD, hl]
theorem levelOf_part {K V : Int} {ta : Option Addr} {tn tc : Nat} {R C : Int} {ca : Option Addr} {cn cc : Nat} {v : Int} {w : World} (hk : K = 1 ∨ K = 2 ∨ K = 3) (hv : (if K = 2 then V else -1) = v) :
    Calls Try.prog 49 #[partV K V ta tn tc R C ca cn cc] w fun e w' => e = .returned (.int .i64 v) ∧ Below w.heap.size w w' := by
  subst hv
  rcases hk with rfl | rfl | rfl
  · exact levelOf_para ta tn tc w
  · exact levelOf_item V ta tn tc w
  · exact levelOf_sheet R C ca cn cc w
end Go.Proofs.Ytdcebaneobkcoaa
namespace Go.Proofs.Ytdcebaneobkcoaa
open Go.RowKit

/-- The texts of a table that is ok are short, and its cells few. -/
theorem ok_small {R C : Int} {l : List Cl} (h : okB R C l = true) : l.length ≤ 25 ∧ ∀ x ∈ l, x.2.2.2.2.length ≤ 24 := by
  have hf : formB R C l = true := by
    simp only [okB, Bool.and_eq_true] at h
    exact h.1
  obtain ⟨_, _, hl, hat⟩ := formB_of hf
  refine ⟨hl, fun x hx => ?_⟩
  obtain ⟨k, hk, e⟩ := List.getElem_of_mem hx
  have := (cellB_of (atB_cell (hat k hk))).2.2.2.2
  rw [show l.getD k cl0 = x by rw [← e]; simp [List.getD, hk]] at this
  simp only [textB, Bool.and_eq_true, decide_eq_true_eq] at this
  exact this.1
end Go.Proofs.Ytdcebaneobkcoaa
namespace Go.Proofs.Ytdcebaneobkcoaa
open Go.RowKit

/-- A block that is a part in form is small. -/
theorem part_small {x : Bl} (h : partOkB x = true) : (x.1 = 1 ∨ x.1 = 2 → x.2.2.1.length ≤ 24) ∧ (x.1 = 3 → x.2.2.2.2.2.length ≤ 25 ∧ ∀ k, k < x.2.2.2.2.2.length → (x.2.2.2.2.2.getD k cl0).2.2.2.2.length ≤ 24) := by
  obtain ⟨k, v, t, R, C, l⟩ := x
  unfold partOkB at h
  simp only at h ⊢
  by_cases h1 : k = 1
  · subst h1
    simp [textB] at h
    exact ⟨fun _ => h.1, fun e => absurd e (by decide)⟩
  · by_cases h2 : k = 2
    · subst h2
      simp [textB] at h
      exact ⟨fun _ => h.2.1, fun e => absurd e (by decide)⟩
    · rw [if_neg h1, if_neg h2] at h
      obtain ⟨a, b⟩ := ok_small h
      refine ⟨fun e => by omega, fun _ => ⟨a, fun j hj => b _ ?_⟩⟩
      rw [show l.getD j cl0 = l[j] by simp [List.getD, hj]]
      exact List.getElem_mem hj
theorem outlB_part {d : List Bl} (h : outlB d = true) {k : Nat} (hk : k < d.length) : partOkB (d.getD k bl0) = true := by
  unfold outlB at h
  rw [Bool.and_eq_true, List.all_eq_true] at h
  have := h.2 k (List.mem_range.2 hk)
  unfold outK at this
  rw [Bool.and_eq_true] at this
  exact this.1
theorem partBB_para {v : Int} {t : List Sg} {R C : Int} {l : List Cl} (h : partBB (1, v, t, R, C, l) = true) : v = 0 ∧ R = 0 ∧ C = 0 ∧ l = [] := by
  simp [partBB, partB, noneB] at h
  exact ⟨h.1, h.2.1.1, h.2.1.2, h.2.2⟩
theorem partBB_item {v : Int} {t : List Sg} {R C : Int} {l : List Cl} (h : partBB (2, v, t, R, C, l) = true) : R = 0 ∧ C = 0 ∧ l = [] := by
  simp [partBB, partB, noneB] at h
  exact ⟨h.1.1, h.1.2, h.2⟩
theorem partBB_sheet {v : Int} {t : List Sg} {R C : Int} {l : List Cl} (h : partBB (3, v, t, R, C, l) = true) : v = 0 ∧ t = [] := by
  simp [partBB, partB] at h
  exact h
end Go.Proofs.Ytdcebaneobkcoaa
namespace Go.Proofs.Ytdcebaneobkcoaa
open Go.RowKit

set_option maxHeartbeats 1000000 in
theorem copiedSign_any {a : Option Addr} {n cap : Nat} {l : List Sg} {w : World} (h : Txt w a n cap l) (hn : n ≤ 1000000) :
    Calls Try.prog 122 #[.slice a n cap] w fun e w' => (∃ p q, e = .returned (.slice p n q) ∧ Own w' w.heap.size (.slice p n q) l) ∧ Below w.heap.size w w' := by
  have H : Hid (Txt w a n cap l) := h
  clear h
  go_enter Try.func122, Try.ntmps122
  go_wp2_with (at_builtin; refine wpList_append_txt rfl (.const (.slice none 0 0)) (.tmp 3) rfl w.heap.size (.slice none 0 0) 0 [] rfl (World.ownsRow_nil _ _ _ _) a n cap l rfl H.out (by omega) (Nat.le_refl _) ?_; intro v' w1 hown hgrow)
  go_ret
  have hb : Below w.heap.size w w1 := (Below.refl _ _).grown hgrow (Nat.le_refl _) (fun k hk => by simp [Value.ownBlock] at hk)
  have e := H.out.1
  subst e
  have ho : Own w1 w.heap.size v' l := by
    unfold Own
    simpa using hown
  obtain ⟨p, q, rfl, -⟩ := ho.shape
  exact ⟨⟨p, q, rfl, ho⟩, hb⟩
/-- The rows that a table's cells are. -/
theorem tab_rows {w : World} {a : Option Addr} {n cap : Nat} {l : List Cl} (h : Tab w a n cap l) : ∃ rs, Rws w a n cap rs ∧ Reads w rs l := by
  obtain ⟨h1, h2, h3, h4⟩ := h
  rcases h4 with rfl | ⟨b, off, rfl, hb, hl⟩
  · exact ⟨[], ⟨h1, h2, h3, .inl rfl⟩, Reads.nil _⟩
  · have each : ∀ i, i < l.length → ∃ x : Rw, RwAt w b (off + i * 5) x ∧ RwIs w x (l.getD i cl0) := by
      intro i hi
      obtain ⟨c0, c1, c2, c3, ta, tn, tc, c4, ht⟩ := hl i hi
      exact ⟨((l.getD i cl0).1, (l.getD i cl0).2.1, (l.getD i cl0).2.2.1, (l.getD i cl0).2.2.2.1, ta, tn, tc), ⟨c0, c1, c2, c3, c4⟩, rfl, rfl, rfl, rfl, ht⟩
    obtain ⟨q, hq⟩ := Go.Deep.choose_lt each
    refine ⟨(List.range l.length).map q, ⟨by simp [h1], h2, h3, .inr ⟨b, off, rfl, hb, fun k hk => ?_⟩⟩, by simp, fun k hk => ?_⟩
    · have hk' : k < l.length := by simpa using hk
      rw [show ((List.range l.length).map q).getD k rw0 = q k by simp [List.getD, hk']]
      exact (hq k hk').1
    · have hk' : k < l.length := by simpa using hk
      rw [show ((List.range l.length).map q).getD k rw0 = q k by simp [List.getD, hk']]
      exact (hq k hk').2
theorem flat5_oneC (l : List Rw) : ∀ u ∈ flat5 l, u.oneCell' = true := by
  intro u hu
  unfold flat5 at hu
  rw [List.mem_flatMap] at hu
  obtain ⟨x, -, hx⟩ := hu
  simp only [rwCells, List.mem_cons, List.not_mem_nil, or_false] at hx
  rcases hx with rfl | rfl | rfl | rfl | rfl <;> rfl
theorem news_rows {w : World} {b off : Nat} {l : List Rw} (h : ∀ k, k < l.length → RwAt w b (off + k * 5) (l.getD k rw0)) : ∀ j u, (flat5 l)[j]? = some u → w.cell? ((⟨b, off, none⟩ : Addr).add j) = some u := by
  intro j u hj
  have hlt : j < l.length * 5 := by
    have := (List.getElem?_eq_some_iff.1 hj).1
    rwa [flat5_length] at this
  have e : j = j / 5 * 5 + j % 5 := by omega
  obtain ⟨h0, h1, h2, h3, h4⟩ := h (j / 5) (by omega)
  have hg := flat5_get l (j / 5) (j % 5) (by omega) (by omega)
  rw [e] at hj
  rw [hg] at hj
  have em : j % 5 = 0 ∨ j % 5 = 1 ∨ j % 5 = 2 ∨ j % 5 = 3 ∨ j % 5 = 4 := by omega
  rw [Addr.add_lit, e]
  rcases em with m | m | m | m | m <;> rw [m] at hj ⊢ <;> simp only [rwCells] at hj <;> simp at hj <;> subst hj
  · exact h0
  · rw [← Nat.add_assoc]; exact h1
  · rw [← Nat.add_assoc]; exact h2
  · rw [← Nat.add_assoc]; exact h3
  · rw [← Nat.add_assoc]; exact h4
set_option maxHeartbeats 2000000 in
theorem copiedCell_any {a : Option Addr} {n cap : Nat} {rs : List Rw} {w : World} (h : Rws w a n cap rs) (hn : n ≤ 1000000) :
    Calls Try.prog 154 #[.slice a n cap] w fun e w' => (∃ p q, e = .returned (.slice p n q) ∧ OwnR w' w.heap.size (.slice p n q) rs) ∧ Below w.heap.size w w' := by
  have H : Hid (Rws w a n cap rs) := h
  clear h
  obtain ⟨i0, hi, hz0, hz1, hz2⟩ := info_parts Try.info74
  have fin : ∀ v' w1, w1.ownsRow w.heap.size 74 5 v' n (flat5 rs) → w.grownBy w1 none → (∃ p q, v' = .slice p n q ∧ OwnR w1 w.heap.size (.slice p n q) rs) ∧ Below w.heap.size w w1 := by
    intro v' w1 hown hgrow
    have hb : Below w.heap.size w w1 := (Below.refl _ _).grown hgrow (Nat.le_refl _) (fun k hk => by simp at hk)
    have e := H.out.1
    subst e
    have ho : OwnR w1 w.heap.size v' rs := hown
    obtain ⟨p, q, rfl, -⟩ := ho.shape
    exact ⟨⟨p, q, rfl, ho⟩, hb⟩
  have HF : Hid _ := fin
  clear fin
  rcases H.out.2.2.2 with he | ⟨b, off, rfl, hb, hl⟩
  · have hn0 : n = 0 := by rw [H.out.1, he]; rfl
    subst hn0
    go_enter Try.func154, Try.ntmps154
    go_wp2_with (at_builtin; refine wpList_append_empty rfl (.const (.slice none 0 0)) (.tmp 3) 36 rfl w.heap.size 74 i0 5 Try.underlying36 hi (.slice none 0 0) 0 [] rfl (World.ownsRow_nil _ _ _ _) a cap rfl ?_)
    go_ret
    obtain ⟨⟨p, q, e, ho⟩, hbb⟩ := HF.out (.slice none 0 0) w (by rw [he]; exact World.ownsRow_nil _ _ _ _) (grownBy_refl _ _)
    exact ⟨⟨p, q, by rw [← e]; rfl, ho⟩, hbb⟩
  · have HL : Hid (∀ k, k < rs.length → RwAt w b (off + k * 5) (rs.getD k rw0)) := hl
    have hc := H.out.2.1
    have hm := H.out.2.2.1
    have HN : Hid (n = rs.length) := H.out.1
    unfold maxLen at hm
    clear hl
    go_enter Try.func154, Try.ntmps154
    go_wp2_with (at_builtin; refine wpList_append_own w rfl (.const (.slice none 0 0)) (.tmp 3) 36 rfl w.heap.size 74 i0 _ 5 56 Try.underlying36 hi hz0 hz1 hz2 rfl (by decide) (.slice none 0 0) 0 [] rfl (World.ownsRow_nil _ _ _ _) ⟨b, off, none⟩ n cap (flat5 rs) rfl (by rw [flat5_length, HN.out]) (news_rows HL.out) (flat5_oneC rs) (by unfold maxLen; omega) (by omega) (Nat.le_refl _) ?_; intro v' w1 hown hgrow _)
    go_ret
    obtain ⟨⟨p, q, e, ho⟩, hbb⟩ := HF.out v' w1 (by simpa using hown) (by simpa [Value.ownBlock] using hgrow)
    exact ⟨⟨p, q, by rw [← e]; rfl, ho⟩, hbb⟩
theorem flat5_set4 (a b : List Rw) (r c d g : Int) (s t : Option Addr × Nat × Nat) : (flat5 (a ++ (r, c, d, g, s) :: b)).set (a.length * 5 + 4) (.slice t.1 t.2.1 t.2.2) = flat5 (a ++ (r, c, d, g, t) :: b) := by
  rw [flat5_append, flat5_append, List.set_append_right _ _ (by rw [flat5_length]; omega), flat5_length]
  have e : a.length * 5 + 4 - a.length * 5 = 4 := by omega
  rw [e]
  rfl
set_option maxRecDepth 100000 in
set_option maxHeartbeats 4000000 in
theorem copiedTable_any {R C : Int} {a : Option Addr} {n cap : Nat} {l : List Cl} {w : World} (h : Tab w a n cap l) (hl : l.length ≤ 1000) (ht : ∀ k, k < l.length → (l.getD k cl0).2.2.2.2.length ≤ 1000000) :
    Calls Try.prog 151 #[.agg #[.int .i64 R, .int .i64 C, .slice a n cap]] w fun e w' => (∃ p q rs, e = .returned (.agg #[.int .i64 R, .int .i64 C, .slice p n q]) ∧ OwnT w' w.heap.size (.slice p n q) rs l) ∧ Below w.heap.size w w' := by
  obtain ⟨rs0, hr0, hd0⟩ := tab_rows h
  have HN : Hid (n = l.length) := h.1
  have hn : n ≤ 1000 := by rw [h.1]; exact hl
  have HT : Hid (∀ k, k < l.length → (l.getD k cl0).2.2.2.2.length ≤ 1000000) := ht
  have hc := h.2.1
  have hm := h.2.2.1
  unfold maxLen at hm
  have HR0 : Hid (Reads w rs0 l) := hd0
  have HW0 : Hid (Rws w a n cap rs0) := hr0
  clear hr0 hd0 h ht
  go_enter Try.func151, Try.ntmps151
  go_upto_region 1 with fail
  have B0 : Below w.heap.size w ((w.alloc (.cells #[.int .i64 R, .int .i64 C, .slice a n cap] 38)).alloc (.cells #[.int .i64 0, .int .i64 0, .slice none 0 0] 38)) := ((Below.refl _ _).alloc (Nat.le_refl _) _).alloc (by simp) _
  have G0 : RowAt ((w.alloc (.cells #[.int .i64 R, .int .i64 C, .slice a n cap] 38)).alloc (.cells #[.int .i64 0, .int .i64 0, .slice none 0 0] 38)) w.heap.size #[.int .i64 R, .int .i64 C, .slice a n cap] 38 := (rowAt_new w _ _).alloc _
  have G1 : RowAt ((w.alloc (.cells #[.int .i64 R, .int .i64 C, .slice a n cap] 38)).alloc (.cells #[.int .i64 0, .int .i64 0, .slice none 0 0] 38)) (w.heap.size + 1) #[.int .i64 0, .int .i64 0, .slice none 0 0] 38 := by
    have := rowAt_new (w.alloc (.cells #[.int .i64 R, .int .i64 C, .slice a n cap] 38)) #[.int .i64 0, .int .i64 0, .slice none 0 0] 38
    simpa using this
  generalize ((w.alloc (.cells #[.int .i64 R, .int .i64 C, .slice a n cap] 38)).alloc (.cells #[.int .i64 0, .int .i64 0, .slice none 0 0] 38)) = v0 at B0 G0 G1 ⊢
  have k2 : v0.cell? ⟨w.heap.size, 2, none⟩ = some (.slice a n cap) := G0.cell 2
  have l0 := G0.lt
  have l1 := G1.lt
  have s0 := B0.size
  have H0 : Hid (RowAt v0 w.heap.size #[.int .i64 R, .int .i64 C, .slice a n cap] 38) := G0
  have H1 : Hid (RowAt v0 (w.heap.size + 1) #[.int .i64 0, .int .i64 0, .slice none 0 0] 38) := G1
  have HB0 : Hid (Below w.heap.size w v0) := B0
  have HW1 : Hid (Rws v0 a n cap rs0) := by
    obtain ⟨a1, a2, a3, a4⟩ := HW0.out
    refine ⟨a1, a2, a3, ?_⟩
    rcases a4 with a4 | ⟨b, off, a5, a6, a7⟩
    · exact .inl a4
    · refine .inr ⟨b, off, a5, by omega, fun k hk => ?_⟩
      obtain ⟨c0, c1, c2, c3, c4⟩ := a7 k hk
      exact ⟨(B0.cell (p := ⟨b, _, none⟩) a6).trans c0, (B0.cell (p := ⟨b, _, none⟩) a6).trans c1, (B0.cell (p := ⟨b, _, none⟩) a6).trans c2, (B0.cell (p := ⟨b, _, none⟩) a6).trans c3, (B0.cell (p := ⟨b, _, none⟩) a6).trans c4⟩
  clear G0 G1 B0 HW0
  go_upto_region 2 with (go_at_call 154; refine (copiedCell_any HW1.out (by omega)).mono ?_; rintro e w1 ⟨⟨p, q, rfl, ho1⟩, hb1⟩; have q1 : w1.cell? ⟨w.heap.size, 2, none⟩ = some (.slice a n cap) := (H0.out.below hb1 l0).cell 2; have q2 := (H0.out.below hb1 l0).frozen 2)
  have G0 := (H0.out.below hb1 l0).setCell 2 (.slice p n q)
  have G1 := (H1.out.below hb1 l1).other ⟨w.heap.size, 2, none⟩ (.slice p n q) (by simp)
  have B1 : Below w.heap.size w (w1.setCell ⟨w.heap.size, 2, none⟩ (.slice p n q)) := (HB0.out.trans (hb1.mono s0)).setCell (Nat.le_refl _) _
  have O1 : OwnR (w1.setCell ⟨w.heap.size, 2, none⟩ (.slice p n q)) v0.heap.size (.slice p n q) rs0 := own_set ho1 ⟨w.heap.size, 2, none⟩ (.slice p n q) (fun e => by have := (own_lt ho1 e).1; simp at this; omega)
  have ss : v0.heap.size ≤ (w1.setCell ⟨w.heap.size, 2, none⟩ (.slice p n q)).heap.size := by
    have := hb1.size
    simpa using this
  clear q1 q2 ho1 hb1 k2 H0 H1
  generalize (w1.setCell ⟨w.heap.size, 2, none⟩ (.slice p n q)) = w2 at G0 G1 B1 O1 ss ⊢
  have k2 : w2.cell? ⟨w.heap.size, 2, none⟩ = some (.slice p n q) := G0.cell 2
  have hq1 : n ≤ q := O1.rws.2.1
  have hq2 := O1.rws.2.2.1
  unfold maxLen at hq2
  have HRn : Hid (rs0.length = l.length) := HR0.out.1
  have l0' := G0.lt
  have l1' := G1.lt
  have H0 : Hid (RowAt w2 w.heap.size #[.int .i64 R, .int .i64 C, .slice p n q] 38) := G0
  have H1 : Hid (RowAt w2 (w.heap.size + 1) #[.int .i64 0, .int .i64 0, .slice none 0 0] 38) := G1
  have HB1 : Hid (Below w.heap.size w w2) := B1
  have HO1 : Hid (OwnR w2 v0.heap.size (.slice p n q) rs0) := O1
  clear G0 G1 B1 O1
  go_wp2_with fail
  clear k2
  go_loopw [12] (fun iv wr => ∃ (i : Nat) (ns : List Rw), i ≤ n ∧ iv = .int .i64 i ∧ ns.length = i ∧ RowAt wr w.heap.size #[.int .i64 R, .int .i64 C, .slice p n q] 38 ∧ RowAt wr (w.heap.size + 1) #[.int .i64 0, .int .i64 0, .slice none 0 0] 38 ∧ OwnR wr v0.heap.size (.slice p n q) (ns ++ rs0.drop i) ∧ TxtOwn wr v0.heap.size (Value.slice p n q).ownBlock ns (l.take i) ∧ v0.heap.size ≤ wr.heap.size ∧ Below w.heap.size w wr) (fun iv _ => n - (intOf iv).toNat)
  case atStart => exact ⟨0, [], Nat.zero_le _, rfl, rfl, H0.out, H1.out, HO1.out, TxtOwn.nil _ _ _, ss, HB1.out⟩
  case round =>
    obtain ⟨i, ns, hi, rfl, hns, hG0, hG1, hO, hT, hss, hB⟩ := hrel
    have HG0 : Hid (RowAt wr w.heap.size #[.int .i64 R, .int .i64 C, .slice p n q] 38) := hG0
    have HG1 : Hid (RowAt wr (w.heap.size + 1) #[.int .i64 0, .int .i64 0, .slice none 0 0] 38) := hG1
    have HO : Hid (OwnR wr v0.heap.size (.slice p n q) (ns ++ rs0.drop i)) := hO
    have HX : Hid (TxtOwn wr v0.heap.size (Value.slice p n q).ownBlock ns (l.take i)) := hT
    have HB : Hid (Below w.heap.size w wr) := hB
    have HNS : Hid (ns.length = i) := hns
    clear hG0 hG1 hO hT hB hns
    by_cases hlt : i < n
    · have hil : i < l.length := by have := HN.out; omega
      have hir : i < rs0.length := by have := HRn.out; omega
      have hib : (i : Int) < (n : Int) := by omega
      have hi0 : (0 : Int) ≤ (i : Int) := by omega
      obtain ⟨gb, rfl⟩ : ∃ gb, p = some ⟨gb, 0, none⟩ := by
        rcases HO.out.row.2 with ⟨hv, hz⟩ | ⟨g', cap', cur, hv, -⟩
        · omega
        · simp only [Value.slice.injEq] at hv
          exact ⟨g', hv.1⟩
      have HTK : Hid (l.take (i + 1) = l.take i ++ [l.getD i cl0]) := by
        show l.take (i + 1) = l.take i ++ [l.getD i cl0]
        rw [List.take_succ_eq_append_getElem hil]
        simp [List.getD, hil]
      have hdr : rs0.drop i = rs0.getD i rw0 :: rs0.drop (i + 1) := by
        rw [List.drop_eq_getElem_cons hir]
        simp [List.getD, hir]
      have hrd := HR0.out.2 i hir
      have hlen := HT.out i hil
      obtain ⟨⟨r, c, d, g, ta, tn, tc⟩, hx⟩ : ∃ x, x = rs0.getD i rw0 := ⟨_, rfl⟩
      rw [← hx] at hdr hrd
      obtain ⟨⟨yr, yc, yd, yg, tx⟩, hy⟩ : ∃ y, y = l.getD i cl0 := ⟨_, rfl⟩
      rw [← hy] at hrd HTK hlen
      obtain ⟨e0, e1, e2, e3, htx⟩ := hrd
      simp only at e0 e1 e2 e3 htx hlen
      subst e0 e1 e2 e3
      have htn : tn ≤ 1000000 := by rw [htx.1]; exact hlen
      have HDR : Hid (rs0.drop i = (r, c, d, g, ta, tn, tc) :: rs0.drop (i + 1)) := hdr
      have ho := HO.out
      rw [HDR.out] at ho
      have hrow := ho.row
      have hcl : ∀ j, j < 5 → wr.cell? ⟨gb, i * 5 + j, none⟩ = (rwCells (r, c, d, g, ta, tn, tc))[j]? := fun j hj => by
        have h1 := hrow.cellAt (i * 5 + j) (by omega)
        rw [h1, flat5_get _ i j (by simp; have := HNS.out; omega) hj]
        congr 2
        have := HNS.out
        subst this
        simp [List.getD]
      have c0 : wr.cell? ⟨gb, i * 5, none⟩ = some (.int .i64 r) := hcl 0 (by omega)
      have c1 : wr.cell? ⟨gb, i * 5 + 1, none⟩ = some (.int .i64 c) := hcl 1 (by omega)
      have c2 : wr.cell? ⟨gb, i * 5 + 2, none⟩ = some (.int .i64 d) := hcl 2 (by omega)
      have c3 : wr.cell? ⟨gb, i * 5 + 3, none⟩ = some (.int .i64 g) := hcl 3 (by omega)
      have c4 : wr.cell? ⟨gb, i * 5 + 4, none⟩ = some (.slice ta tn tc) := hcl 4 (by omega)
      have HTX : Hid (Txt wr ta tn tc tx) := htx.below HB.out
      have gb0 := own_lt hrow rfl
      have HOw : Hid (OwnR wr v0.heap.size (.slice (some ⟨gb, 0, none⟩) n q) (ns ++ (r, c, d, g, ta, tn, tc) :: rs0.drop (i + 1))) := ho
      clear hcl hrow ho hdr hx hy htx hlen HO
      go_upto_region 5 with fail
      have bA : Below wr.heap.size wr (wr.alloc (.cells #[.int .i64 r, .int .i64 c, .int .i64 d, .int .i64 g, .slice ta tn tc] 74)) := (Below.refl _ _).alloc (Nat.le_refl _) _
      have gA : RowAt (wr.alloc (.cells #[.int .i64 r, .int .i64 c, .int .i64 d, .int .i64 g, .slice ta tn tc] 74)) wr.heap.size #[.int .i64 r, .int .i64 c, .int .i64 d, .int .i64 g, .slice ta tn tc] 74 := rowAt_new _ _ _
      have sA : (wr.alloc (.cells #[.int .i64 r, .int .i64 c, .int .i64 d, .int .i64 g, .slice ta tn tc] 74)).heap.size = wr.heap.size + 1 := by simp
      clear c0 c1 c2 c3 c4
      generalize wr.alloc (.cells #[.int .i64 r, .int .i64 c, .int .i64 d, .int .i64 g, .slice ta tn tc] 74) = u0 at bA gA sA ⊢
      have w0 := HG0.out.lt
      have w1' := HG1.out.lt
      have HG0a : Hid (RowAt u0 w.heap.size #[.int .i64 R, .int .i64 C, .slice (some ⟨gb, 0, none⟩) n q] 38) := HG0.out.below bA w0
      have HG1a : Hid (RowAt u0 (w.heap.size + 1) #[.int .i64 0, .int .i64 0, .slice none 0 0] 38) := HG1.out.below bA w1'
      have HOa : Hid (OwnR u0 v0.heap.size (.slice (some ⟨gb, 0, none⟩) n q) (ns ++ (r, c, d, g, ta, tn, tc) :: rs0.drop (i + 1))) := HOw.out.below bA
      have HXa : Hid (TxtOwn u0 v0.heap.size (Value.slice (some ⟨gb, 0, none⟩) n q).ownBlock ns (l.take i)) := HX.out.below bA
      have HTXa : Hid (Txt u0 ta tn tc tx) := HTX.out.below bA
      have HBa : Hid (Below w.heap.size w u0) := HB.out.trans (bA.mono (by omega))
      have HC : Hid (RowAt u0 wr.heap.size #[.int .i64 r, .int .i64 c, .int .i64 d, .int .i64 g, .slice ta tn tc] 74) := gA
      have gb1 : gb < wr.heap.size := gb0.2
      have gb2 : v0.heap.size ≤ gb := gb0.1
      clear bA gA HG0 HG1 HOw HX HTX HB gb0
      refine wp_region_noPanic ?_
      refine wp_region_held_drew (S := fun w' => RowAt w' w.heap.size #[.int .i64 R, .int .i64 C, .slice (some ⟨gb, 0, none⟩) n q] 38 ∧ RowAt w' wr.heap.size #[.int .i64 r, .int .i64 c, .int .i64 d, .int .i64 g, .slice ta tn tc] 74) (by kernel_rfl) ⟨HG0a.out.drew, HC.out.drew⟩ (fun hHeld => ?_)
      have HOd : Hid (OwnR u0.drew v0.heap.size (.slice (some ⟨gb, 0, none⟩) n q) (ns ++ (r, c, d, g, ta, tn, tc) :: rs0.drop (i + 1))) := HOa.out.below (Below.refl _ _).drew
      have HXd : Hid (TxtOwn u0.drew v0.heap.size (Value.slice (some ⟨gb, 0, none⟩) n q).ownBlock ns (l.take i)) := HXa.out.below (Below.refl _ _).drew
      have HTXd : Hid (Txt u0.drew ta tn tc tx) := HTXa.out.below (Below.refl _ _).drew
      have HG1d : Hid (RowAt u0.drew (w.heap.size + 1) #[.int .i64 0, .int .i64 0, .slice none 0 0] 38) := HG1a.out.drew
      have HBd : Hid (Below w.heap.size w u0.drew) := HBa.out.drew
      have sd : u0.drew.heap.size = wr.heap.size + 1 := sA
      generalize u0.drew = u1 at hHeld HOd HXd HTXd HG1d HBd sd ⊢
      clear HOa HXa HTXa HG1a HBa HG0a HC sA
      refine take_at 0 17 (.pointer (some ⟨w.heap.size, 2, none⟩)) rfl rfl (by kernel_rfl) (by kernel_rfl) (by kernel_rfl) (fun _ _ _ h => h) (Or.inl ⟨by kernel_rfl, fun w' hS' => by go_simp⟩) hHeld ?_
      (try simp only [Act.put, List.setIfInBounds_toArray, List.set_cons_zero, List.set_cons_succ])
      refine take_at 1 18 (.slice (some ⟨gb, 0, none⟩) n q) rfl rfl (by kernel_rfl) (by kernel_rfl) (by kernel_rfl) (fun _ _ _ h => h) (Or.inl ⟨by kernel_rfl, fun w' hS' => by have hc := RowAt.cell hS'.1 2; go_simp⟩) hHeld ?_
      (try simp only [Act.put, List.setIfInBounds_toArray, List.set_cons_zero, List.set_cons_succ])
      refine take_at 2 19 (.int .i64 i) rfl rfl (by kernel_rfl) (by kernel_rfl) (by kernel_rfl) (fun _ _ _ h => h) (Or.inl ⟨by kernel_rfl, fun w' hS' => by go_simp⟩) hHeld ?_
      (try simp only [Act.put, List.setIfInBounds_toArray, List.set_cons_zero, List.set_cons_succ])
      refine take_at 3 20 (.pointer (some ⟨wr.heap.size, 4, none⟩)) rfl rfl (by kernel_rfl) (by kernel_rfl) (by kernel_rfl) (fun _ _ _ h => h) (Or.inl ⟨by kernel_rfl, fun w' hS' => by go_simp⟩) hHeld ?_
      (try simp only [Act.put, List.setIfInBounds_toArray, List.set_cons_zero, List.set_cons_succ])
      refine take_at 4 21 (.slice ta tn tc) rfl rfl (by kernel_rfl) (by kernel_rfl) (by kernel_rfl) (fun _ _ _ h => h) (Or.inl ⟨by kernel_rfl, fun w' hS' => by have hc := RowAt.cell hS'.2 4; go_simp⟩) hHeld ?_
      (try simp only [Act.put, List.setIfInBounds_toArray, List.set_cons_zero, List.set_cons_succ])
      refine wpAnyH_ready (rs := [5]) (by kernel_rfl) (by simp) ?_
      refine AllReadyH.cons rfl (fun K hK => ?_) AllReadyH.nil
      go_simp
      go_at_call 122
      refine (copiedSign_any HTXd.out htn).mono ?_
      rintro e u2 ⟨⟨tp, tq, rfl, hot⟩, hb2⟩
      have HO2 : Hid (OwnR u2 v0.heap.size (.slice (some ⟨gb, 0, none⟩) n q) (ns ++ (r, c, d, g, ta, tn, tc) :: rs0.drop (i + 1))) := HOd.out.below hb2
      have HX2 : Hid (TxtOwn u2 v0.heap.size (Value.slice (some ⟨gb, 0, none⟩) n q).ownBlock ns (l.take i)) := HXd.out.below hb2
      have HG12 : Hid (RowAt u2 (w.heap.size + 1) #[.int .i64 0, .int .i64 0, .slice none 0 0] 38) := HG1d.out.below hb2 (by omega)
      have HB2 : Hid (Below w.heap.size w u2) := HBd.out.trans (hb2.mono (by omega))
      have HOT : Hid (Own u2 u1.heap.size (.slice tp tn tq) tx) := hot
      have HXL : Hid (∀ k, k < ns.length → ∀ g, (rwT (ns.getD k rw0)).ownBlock = some g → g < u1.heap.size) := HXd.out.blockLt
      have s2 := hb2.size
      go_wp2_with fail
      refine hK.out _ _ (⟨RowAt.below hHeld.1 hb2 (by omega), RowAt.below hHeld.2 hb2 (by omega)⟩) (fun hHeld => ?_)
      clear hK K
      (try simp only [Act.put, List.setIfInBounds_toArray, List.set_cons_zero, List.set_cons_succ])
      clear hb2 hot HOd HXd HG1d HBd HTXd
      refine take_at 6 23 (.pointer (some ⟨gb, i * 5, none⟩)) rfl rfl (by kernel_rfl) (by kernel_rfl) (by kernel_rfl) (fun _ _ _ h => h) (Or.inl ⟨by kernel_rfl, fun w' hS' => by go_simp⟩) hHeld ?_
      (try simp only [Act.put, List.setIfInBounds_toArray, List.set_cons_zero, List.set_cons_succ])
      refine take_at 7 24 (.pointer (some ⟨gb, i * 5 + 4, none⟩)) rfl rfl (by kernel_rfl) (by kernel_rfl) (by kernel_rfl) (fun _ _ _ h => h) (Or.inl ⟨by kernel_rfl, fun w' hS' => by go_simp⟩) hHeld ?_
      (try simp only [Act.put, List.setIfInBounds_toArray, List.set_cons_zero, List.set_cons_succ])
      refine wpAnyH_ready (rs := [8]) (by kernel_rfl) (by simp) ?_
      refine AllReadyH.cons rfl (fun K hK => ?_) AllReadyH.nil
      have f4 := HO2.out.row.frozenAt (i * 5 + 4)
      obtain ⟨u4, d4⟩ : ∃ u, u2.cell? ⟨gb, i * 5 + 4, none⟩ = some u := by
        have h1 := HO2.out.row.1
        exact ⟨_, (HO2.out.row.cellAt (i * 5 + 4) (by omega)).trans (List.getElem?_eq_getElem (by omega))⟩
      rw [if_pos (by kernel_rfl)]
      go_simp
      refine hK.out _ _ ⟨RowAt.other hHeld.1 _ _ (by simp; omega), RowAt.other hHeld.2 _ _ (by simp; omega)⟩ (fun hHeld => ?_)
      clear hK K
      (try simp only [Act.put])
      refine wpAnyH_done (by kernel_rfl) ?_ _
      refine NoPanic.normal ?_
      have hG0 := hHeld.1
      clear hHeld
      go_wp2_with fail
      go_roundw
      case rel =>
        have hst := (HO2.out.row.stored (i * 5 + 4) (.slice tp tn tq)).1
        have en := HNS.out
        have e4 := flat5_set4 ns (rs0.drop (i + 1)) r c d g (ta, tn, tc) (tp, tn, tq)
        rw [en] at e4
        rw [e4] at hst
        have hO3 : OwnR (u2.setCell ⟨gb, i * 5 + 4, none⟩ (.slice tp tn tq)) v0.heap.size (.slice (some ⟨gb, 0, none⟩) n q) ((ns ++ [(r, c, d, g, tp, tn, tq)]) ++ rs0.drop (i + 1)) := by
          rw [List.append_assoc]
          have hl5 : n = (ns ++ (r, c, d, g, ta, tn, tc) :: rs0.drop (i + 1)).length := HO2.out.len
          have hl6 : (ns ++ (r, c, d, g, ta, tn, tc) :: rs0.drop (i + 1)).length = (ns ++ (r, c, d, g, tp, tn, tq) :: rs0.drop (i + 1)).length := by simp
          unfold OwnR
          rw [List.singleton_append, ← hl6, ← hl5]
          exact hst
        have hT3 := HX2.out.snoc (C := u1.heap.size) (x := (r, c, d, g, tp, tn, tq)) (y := (r, c, d, g, tx)) ⟨rfl, rfl, rfl, rfl, own_less HOT.out (by omega)⟩ (fun z hz => by have := (own_lt HOT.out hz).1; simp [Value.ownBlock]; omega) HXL.out (fun z hz => (own_lt HOT.out hz).1)
        rw [← HTK.out] at hT3
        refine ⟨i + 1, ns ++ [(r, c, d, g, tp, tn, tq)], by omega, by go_num, by simp [en], hG0, HG12.out.other _ _ (by simp; omega), hO3, ?_, by simp; omega, HB2.out.setCell (by show _ ≤ gb; omega) _⟩
        exact hT3.set _ _ rfl
      case measure => simp [intOf]; omega
    · have hib : ¬ (i : Int) < (n : Int) := by omega
      obtain rfl : i = n := by omega
      have e1 : l.take i = l := List.take_of_length_le (by have := HN.out; omega)
      have e2 : rs0.drop i = [] := List.drop_eq_nil_of_le (by have := HN.out; have := HRn.out; omega)
      have hX := HX.out
      have hO := HO.out
      rw [e1] at hX
      rw [e2, List.append_nil] at hO
      have HOw : Hid (OwnT wr v0.heap.size (.slice p i q) ns l) := ⟨hO, hX⟩
      have k0 : wr.cell? ⟨w.heap.size, 0, none⟩ = some (.int .i64 R) := HG0.out.cell 0
      have k1 : wr.cell? ⟨w.heap.size, 1, none⟩ = some (.int .i64 C) := HG0.out.cell 1
      have k2 : wr.cell? ⟨w.heap.size, 2, none⟩ = some (.slice p i q) := HG0.out.cell 2
      clear hX hO e1 e2
      have w1' := HG1.out.lt
      go_wp2_with (refine wpList_store_row rfl 38 (.tmp 2) (.tmp 26) rfl (w.heap.size + 1) #[.int .i64 R, .int .i64 C, .slice p i q] rfl rfl 38 _ HG1.out tab_info rfl (cells3_one _ _ _ _ _) ?_)
      refine bodyPost_ret (v := .agg #[.int .i64 R, .int .i64 C, .slice p i q]) (results_cell_row (p := 2) (ty := 38) rfl _ _ (w.heap.size + 1) 38 _ _ _ rfl (RowAt.setRow HG1.out _) Try.underlying38 rfl tab_info) rfl ⟨⟨p, q, rfl, ns, ?_⟩, below_row HB.out (by omega) _⟩
      exact OwnT.less (B' := v0.heap.size) ⟨own_row HOw.out.1 _ _ (fun e => by have := (own_lt HOw.out.1 e).1; omega), HOw.out.2.rowLow _ _ (by omega)⟩ (by omega)
end Go.Proofs.Ytdcebaneobkcoaa
namespace Go.Proofs.Ytdcebaneobkcoaa
open Go.RowKit

theorem block_info : (Try.prog.info? 40).map (·.size) = some 6 := by kernel_rfl
theorem Try.info40 : (Try.prog.info? 40).map (fun i => (i.zero, i.size, i.bytes)) = some (some (.agg #[.int .i64 0, .int .i64 0, .slice none 0 0, .int .i64 0, .int .i64 0, .slice none 0 0]), 6, 80) := by kernel_rfl
theorem cells6_one (a b : Int) (s : Option Addr) (n c : Nat) (x y : Int) (s' : Option Addr) (n' c' : Nat) : (#[Value.int .i64 a, .int .i64 b, .slice s n c, .int .i64 x, .int .i64 y, .slice s' n' c'] : Array Value).all (·.oneCell') = true := by
  simp [Value.oneCell']
theorem docI_info : (Try.prog.info? 25).map (·.size) = some 1 := by kernel_rfl
theorem cells1_one (a : Option Addr) (n c : Nat) : (#[Value.slice a n c] : Array Value).all (·.oneCell') = true := by simp [Value.oneCell']
end Go.Proofs.Ytdcebaneobkcoaa
