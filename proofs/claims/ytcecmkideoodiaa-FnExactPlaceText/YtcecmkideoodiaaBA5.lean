import Derived.Test.YtcecmkideoodiaaBA4
import Derived.Test.YtcecmkideoodiaaBA1
import Derived.Test.YtcecmkideoodiaaBA2
import Derived.Deep.Cut
import Derived.Laws.ResultCell
import Derived.Stop.Asserts
import Derived.LaidEql
import Derived.Deep.AppendLies
namespace Go.Proofs.Ytcecmkideoodiaa
open Go.RowKit

theorem BlsDr.sp {d : List Bl} (h : BlsDr d) (hl : d.length ≤ 9) : DocSp d := ⟨hl, fun x hx => (h x hx).sp⟩
theorem DrRes.weak {B g q0 q1 C C' : Nat} {w : World} {e : Ending} {w' : World} (h : DrRes B g q0 C w e w') (hq : q0 ≤ q1) (hC : C' ≤ C) : DrRes B g q1 C' w e w' := by
  obtain ⟨a, m, c, d, q, h0, ⟨rbs, h1⟩, h2, h3, h4, h5⟩ := h
  exact ⟨a, m, c, d, q, h0, ⟨rbs, h1.less hC⟩, h2, h3, by omega, h5.mono hC⟩
set_option maxRecDepth 100000 in
set_option maxHeartbeats 8000000 in
theorem l71Some_any (B g p : Nat) (w : World) (h : Rd B w g p) (hp : p ≤ 880000) :
    Calls Try.prog 23 #[.pointer (some ⟨g, 0, none⟩)] w fun e w' => DrRes B g (p + 3700) w.heap.size w e w' := by
  have hlt := h.lt
  have HR : Hid (Rd B w g p) := h
  clear h
  go_enter Try.func23, Try.ntmps23
  go_upto_region 1 with fail
  have F0 : Fr w.heap.size g w (w.alloc (.cells #[.slice none 0 0] 25)) := (Fr.refl _ _ w).alloc (Nat.le_refl _) _
  have G0 : RowAt (w.alloc (.cells #[.slice none 0 0] 25)) w.heap.size #[.slice none 0 0] 25 := rowAt_new w _ _
  have HR0 : Hid (Rd B (w.alloc (.cells #[.slice none 0 0] 25)) g p) := HR.out.alloc _
  generalize (w.alloc (.cells #[.slice none 0 0] 25)) = v0 at F0 G0 HR0 ⊢
  have s0 := F0.size
  have l0 := G0.lt
  have HG0 : Hid (RowAt v0 w.heap.size #[.slice none 0 0] 25) := G0
  have HF0 : Hid (Fr w.heap.size g w v0) := F0
  clear F0 G0
  go_wp2_with fail
  refine (l71Doc_any B g p _ HR0.out hp).mono ?_
  rintro e w2 ⟨a, m, c, d, q, rfl, ⟨rbs, hX⟩, hBD, hl, hr2, hq, hf2⟩
  have s2 := hf2.size
  have HG2 : Hid (RowAt w2 w.heap.size #[.slice none 0 0] 25) := HG0.out.fr hf2 (by omega)
  have HF2 : Hid (Fr w.heap.size g w w2) := HF0.out.trans (hf2.mono (by omega))
  have HBD : Hid (BlsDr d) := hBD
  have HX2 : Hid (DocX w2 v0.heap.size (.slice a m c) rbs d) := hX
  have HR2 : Hid (Rd B w2 g q) := hr2
  clear hX hBD hr2 hf2 HG0 HF0 HR0
  go_upto_region 2 with fail
  have T3 : RowAt (w2.alloc (.cells #[.slice a m c] 25)) w2.heap.size #[.slice a m c] 25 := rowAt_new _ _ _
  have HX3 : Hid (DocX (w2.alloc (.cells #[.slice a m c] 25)) v0.heap.size (.slice a m c) rbs d) := HX2.out.alloc _
  have HG3 : Hid (RowAt (w2.alloc (.cells #[.slice a m c] 25)) w.heap.size #[.slice none 0 0] 25) := HG2.out.alloc _
  have HF3 : Hid (Fr w.heap.size g w (w2.alloc (.cells #[.slice a m c] 25))) := HF2.out.alloc (by omega) _
  have HR3 : Hid (Rd B (w2.alloc (.cells #[.slice a m c] 25)) g q) := HR2.out.alloc _
  generalize (w2.alloc (.cells #[.slice a m c] 25)) = v3 at T3 HX3 HG3 HF3 HR3 ⊢
  obtain ⟨X, hX⟩ : ∃ X, w2.heap.size = X := ⟨_, rfl⟩
  rw [hX] at T3 ⊢
  have zT := T3.lt
  have hXw : w.heap.size ≤ X := by omega
  have HT3 : Hid (RowAt v3 X #[.slice a m c] 25) := T3
  clear T3 hX HX2 HG2 HF2 HR2
  go_wp2_with fail
  refine (pick_any B g q 10 _ HR3.out (by omega) (by omega) (by omega)).mono ?_
  rintro e w4 ⟨x, rfl, hx0, hx1, hr4, hg4⟩
  have f4 := fr_grown hg4
  have s4 := f4.size
  have HR4 : Hid (Rd B w4 g (q + 1)) := hr4
  have HT4 : Hid (RowAt w4 X #[.slice a m c] 25) := HT3.out.fr f4 (by omega)
  have HX4 : Hid (DocX w4 v0.heap.size (.slice a m c) rbs d) := HX3.out.fr f4 (by omega)
  have HG4 : Hid (RowAt w4 w.heap.size #[.slice none 0 0] 25) := HG3.out.fr f4 (by omega)
  have HF4 : Hid (Fr w.heap.size g w w4) := HF3.out.trans (f4.mono (by omega))
  have k4 : w4.cell? ⟨X, 0, none⟩ = some (.slice a m c) := HT4.out.cell 0
  clear hr4 hg4 f4 HT3 HX3 HG3 HF3 HR3
  by_cases h0 : x = 0
  · subst h0
    go_wp2_with (first | (go_at_call 40; refine (l71Odd_any B g (q + 1) a m c d _ HR4.out (by omega) HX4.out.dc HBD.out hl.1 hl.2).mono ?_; rintro e w5 ⟨a5, m5, c5, d5, q5, rfl, ⟨rbs5, hX5⟩, hS5, hr5, hq5, hf5⟩; have HG5 : Hid (RowAt w5 w.heap.size #[.slice none 0 0] 25) := HG4.out.fr hf5 (by omega); have s5 := hf5.size; have HX5 : Hid (DocX w5 w4.heap.size (.slice a5 m5 c5) rbs5 d5) := hX5; have HS5 : Hid (DocSp d5) := hS5; have HR5 : Hid (Rd B w5 g q5) := hr5; have HF5 : Hid (Fr w.heap.size g w w5) := HF4.out.trans (hf5.mono (by omega)); clear hX5 hS5 hr5 hf5) | (refine wpList_store_row rfl 25 (.tmp 2) (.tmp 11) rfl w.heap.size #[.slice a5 m5 c5] rfl rfl 25 _ HG5.out drdoc_info rfl (drcells1_one _ _ _) ?_))
    have bT : Below w.heap.size w5 (w5.setRow w.heap.size #[.slice a5 m5 c5]) := below_row (Below.refl _ _) (Nat.le_refl _) _
    refine bodyPost_ret (v := .agg #[.slice a5 m5 c5]) (results_cell_row (p := 2) (ty := 25) rfl _ _ w.heap.size 25 _ _ _ rfl (RowAt.setRow HG5.out _) Try.underlying25 rfl drdoc_info) rfl (drRes_mk (d' := d5) (q := q5) ⟨_, (docX_row HX5.out HG5.out _).less (by omega)⟩ HS5.out (HR5.out.below bT hlt) (by omega) (HF5.out.below bT))
  · have n0 : (x == 0) = false := by simp; omega
    go_wp2_with (refine wpList_store_row rfl 25 (.tmp 2) (.tmp 12) rfl w.heap.size #[.slice a m c] rfl rfl 25 _ HG4.out drdoc_info rfl (drcells1_one _ _ _) ?_)
    have bT : Below w.heap.size w4 (w4.setRow w.heap.size #[.slice a m c]) := below_row (Below.refl _ _) (Nat.le_refl _) _
    refine bodyPost_ret (v := .agg #[.slice a m c]) (results_cell_row (p := 2) (ty := 25) rfl _ _ w.heap.size 25 _ _ _ rfl (RowAt.setRow HG4.out _) Try.underlying25 rfl drdoc_info) rfl (drRes_mk (d' := d) (q := q + 1) ⟨_, (docX_row HX4.out HG4.out _).less (by omega)⟩ (HBD.out.sp (by omega)) (HR4.out.below bT hlt) (by omega) (HF4.out.below bT))
end Go.Proofs.Ytcecmkideoodiaa
namespace Go.Proofs.Ytcecmkideoodiaa
open Go.RowKit

theorem mono_dc (a : Option Addr) (n c : Nat) (d : List Bl) : Mono fun u => Dc u a n c d := fun _ _ h hb => h.below hb
theorem mono_txt (a : Option Addr) (n c : Nat) (l : List Sg) : Mono fun u => Txt u a n c l := fun _ _ h hb => h.below hb
theorem mono_tab (a : Option Addr) (n c : Nat) (l : List Cl) : Mono fun u => Tab u a n c l := fun _ _ h hb => h.below hb
end Go.Proofs.Ytcecmkideoodiaa
namespace Go.Proofs.Ytcecmkideoodiaa
open Go.RowKit

theorem drpl_info : (Try.prog.info? 27).map (·.size) = some 3 := by kernel_rfl
theorem drpl_ones (a b c : Int) : (#[Value.int .i64 a, .int .i64 b, .int .i64 c] : Array Value).all (·.oneCell') = true := by simp [Value.oneCell']
theorem run_place {w : World} {g : Nat} {a b c : Value} (h : RowAt w g #[a, b, c] 27) : (loadVar 27 ⟨g, 0, none⟩).run Try.prog w = .ok (.agg #[a, b, c]) w :=
  run_loadVar_row w g 27 27 #[a, b, c] (0, 0) _ h Try.underlying27 rfl drpl_info
theorem monoF_docx {g C : Nat} (hg : g < C) (v : Value) (d : List Bl) : MonoF g fun u => ∃ rbs, DocX u C v rbs d := fun _ _ h hf => h.elim fun rbs hr => ⟨rbs, hr.fr hf hg⟩
theorem DocX.blk {w : World} {B : Nat} {a : Option Addr} {n c : Nat} {rbs : List Rb} {d : List Bl} (h : DocX w B (.slice a n c) rbs d) {k : Nat} (hk : k < n) : ∃ b, a = some ⟨b, 0, none⟩ ∧ b < w.heap.size ∧ BlockIs w b (k * 6) (d.getD k bl0) (rbs.getD k rb0).2.2.1.1 (rbs.getD k rb0).2.2.1.2.1 (rbs.getD k rb0).2.2.1.2.2 (rbs.getD k rb0).2.2.2.2.2.1 (rbs.getD k rb0).2.2.2.2.2.2.1 (rbs.getD k rb0).2.2.2.2.2.2.2 := by
  have hn := h.len
  obtain ⟨h0, h2, h3⟩ := h
  have h0' := h0
  rcases h0.2 with ⟨hv, hz⟩ | ⟨g, cap, cur, hv, hg, hgg, hr1, hr2, hr3, hr4⟩
  · simp only [Value.slice.injEq] at hv
    omega
  · simp only [Value.slice.injEq] at hv
    obtain ⟨rfl, h6, rfl⟩ := hv
    refine ⟨g, rfl, (Array.getElem?_eq_some_iff.1 hgg).1, (h3 k (by omega)).at (fun j hj => ?_)⟩
    rw [h6] at h0'
    have hc := h0'.cellAt (k * 6 + j) (by omega)
    rw [hc]
    exact flat6_get rbs k (by omega) j hj
/-- What the drawing of a place gives. -/
def PlRes (B g q0 C : Nat) (w : World) (e : Ending) (w' : World) : Prop := ∃ (b c a : Int) (q : Nat), e = .returned (.agg #[.int .i64 b, .int .i64 c, .int .i64 a]) ∧ (-1 ≤ b ∧ b ≤ 9) ∧ (-1 ≤ c ∧ c ≤ 26) ∧ (-1 ≤ a ∧ a ≤ 26) ∧ Rd B w' g q ∧ q ≤ q0 ∧ Fr C g w w'
theorem plRes_mk {B g q0 C q : Nat} {w w' : World} {b c a : Int} (h1 : -1 ≤ b ∧ b ≤ 9) (h2 : -1 ≤ c ∧ c ≤ 26) (h3 : -1 ≤ a ∧ a ≤ 26) (h4 : Rd B w' g q) (h5 : q ≤ q0) (h6 : Fr C g w w') : PlRes B g q0 C w (.returned (.agg #[.int .i64 b, .int .i64 c, .int .i64 a])) w' := ⟨b, c, a, q, rfl, h1, h2, h3, h4, h5, h6⟩
set_option maxRecDepth 100000 in
set_option maxHeartbeats 16000000 in
theorem l71Place_any (B g p C : Nat) (a : Option Addr) (m c : Nat) (d : List Bl) (w : World) (h : Rd B w g p) (hp : p ≤ 900000) (hD : ∃ rbs, DocX w C (.slice a m c) rbs d) (hgC : g < C) (hS : DocSp d) :
    Calls Try.prog 24 #[.pointer (some ⟨g, 0, none⟩), .agg #[.slice a m c]] w fun e w' => PlRes B g (p + 5) w.heap.size w e w' := by
  have hlt := h.lt
  have HR : Hid (Rd B w g p) := h
  have HS : Hid (DocSp d) := hS
  obtain ⟨rbs, hD⟩ := hD
  have HD0 : Hid (DocX w C (.slice a m c) rbs d) := hD
  have HH := hdF_start w g
  have hc1 : m ≤ c := hD.dc.2.1
  have hc2 : c ≤ maxLen := hD.dc.2.2.1
  have hm9 : m ≤ 9 := by
    have : m = d.length := hD.len
    rw [this]
    exact hS.1
  unfold maxLen at hc2
  clear h hD hS
  go_enter Try.func24, Try.ntmps24
  go_upto_region 1 with fail
  replace HH := hdF_box HH (by first | omega | (simp; omega)) #[.slice a m c] 25
  replace HH := hdF_box HH (by first | omega | (simp; omega)) #[.int .i64 0, .int .i64 0, .int .i64 0] 27
  replace HR : Hid (Rd B ((w.alloc (.cells #[.slice a m c] 25)).alloc (.cells #[.int .i64 0, .int .i64 0, .int .i64 0] 27)) g (p)) := (HR.out.alloc _).alloc _
  have ev2 : (w.alloc (.cells #[.slice a m c] 25)).heap.size = w.heap.size + 1 := by simp
  rw [ev2] at HH
  have sv2 : w.heap.size + 1 < ((w.alloc (.cells #[.slice a m c] 25)).alloc (.cells #[.int .i64 0, .int .i64 0, .int .i64 0] 27)).heap.size := by simp
  generalize ((w.alloc (.cells #[.slice a m c] 25)).alloc (.cells #[.int .i64 0, .int .i64 0, .int .i64 0] 27)) = v2 at HH sv2 HR ⊢
  clear ev2
  have kD_0 : v2.cell? ⟨w.heap.size, 0, none⟩ = some (.slice a m c) := RowAt.cell (HH.out.row _ (List.Mem.tail _ (List.Mem.head _))).2 0
  by_cases hm0 : m = 0
  · have hmb : ((m : Int) == 0) = true := by simp [hm0]
    clear hm0
    go_wp2_with fail
    refine (pick_any B g (p) 4 _ HR.out (by omega) (by omega) (by omega)).mono ?_
    rintro e v3 ⟨x, rfl, hx0, hx1, hr, hgw⟩
    have hf := fr_grown hgw
    have sv3 := hf.size
    replace HR : Hid (Rd B v3 g (p + 1)) := hr
    replace HH := hdF_go HH hf
    clear kD_0
    have kD_0 : v3.cell? ⟨w.heap.size, 0, none⟩ = some (.slice a m c) := RowAt.cell (HH.out.row _ (List.Mem.tail _ (List.Mem.head _))).2 0
    clear hf hr hgw
    go_wp2_with fail
    refine (pick_any B g (p + 1) 3 _ HR.out (by omega) (by omega) (by omega)).mono ?_
    rintro e v4 ⟨y, rfl, hy0, hy1, hr, hgw⟩
    have hf := fr_grown hgw
    have sv4 := hf.size
    replace HR : Hid (Rd B v4 g (p + 1 + 1)) := hr
    replace HH := hdF_go HH hf
    clear kD_0
    have kD_0 : v4.cell? ⟨w.heap.size, 0, none⟩ = some (.slice a m c) := RowAt.cell (HH.out.row _ (List.Mem.tail _ (List.Mem.head _))).2 0
    clear hf hr hgw
    go_wp2_with fail
    refine (pick_any B g (p + 1 + 1) 4 _ HR.out (by omega) (by omega) (by omega)).mono ?_
    rintro e v5 ⟨z, rfl, hz0, hz1, hr, hgw⟩
    have hf := fr_grown hgw
    have sv5 := hf.size
    replace HR : Hid (Rd B v5 g (p + 1 + 1 + 1)) := hr
    replace HH := hdF_go HH hf
    clear kD_0
    have kD_0 : v5.cell? ⟨w.heap.size, 0, none⟩ = some (.slice a m c) := RowAt.cell (HH.out.row _ (List.Mem.tail _ (List.Mem.head _))).2 0
    clear hf hr hgw
    go_wp2_with (refine wpList_store_row rfl 27 (.tmp 4) (.tmp 26) rfl (w.heap.size + 1) #[.int .i64 (x - 1), .int .i64 (y - 1), .int .i64 (z - 1)] rfl rfl 27 _ (HH.out.row _ (List.Mem.head _)).2 drpl_info rfl (drpl_ones _ _ _) ?_)
    have bT : Below w.heap.size v5 (v5.setRow (w.heap.size + 1) #[.int .i64 (x - 1), .int .i64 (y - 1), .int .i64 (z - 1)]) := below_row (Below.refl _ _) (by omega) _
    refine bodyPost_ret (v := .agg #[.int .i64 (x - 1), .int .i64 (y - 1), .int .i64 (z - 1)]) (results_cell_row (p := 4) (ty := 27) rfl _ _ (w.heap.size + 1) 27 _ _ _ rfl (RowAt.setRow (HH.out.row _ (List.Mem.head _)).2 _) Try.underlying27 rfl drpl_info) rfl (plRes_mk (q0 := p + 5) (q := p + 1 + 1 + 1) (by omega) (by omega) (by omega) (HR.out.below bT hlt) (by omega) (HH.out.frame.below bT))
  have hm0 : ¬ (m : Int) = 0 := by omega
  have hmb : ((m : Int) == 0) = false := by simp; omega
  go_wp2_with fail
  refine (pick_any B g (p) 20 _ HR.out (by omega) (by omega) (by omega)).mono ?_
  rintro e v3 ⟨x0, rfl, hx00, hx01, hr, hgw⟩
  have hf := fr_grown hgw
  have sv3 := hf.size
  replace HR : Hid (Rd B v3 g (p + 1)) := hr
  replace HH := hdF_go HH hf
  clear kD_0
  have kD_0 : v3.cell? ⟨w.heap.size, 0, none⟩ = some (.slice a m c) := RowAt.cell (HH.out.row _ (List.Mem.tail _ (List.Mem.head _))).2 0
  clear hf hr hgw
  by_cases hx : x0 = 0
  · subst hx
    go_wp2_with fail
    refine (pick_any B g (p + 1) 4 _ HR.out (by omega) (by omega) (by omega)).mono ?_
    rintro e v4 ⟨x, rfl, hx0, hx1, hr, hgw⟩
    have hf := fr_grown hgw
    have sv4 := hf.size
    replace HR : Hid (Rd B v4 g (p + 1 + 1)) := hr
    replace HH := hdF_go HH hf
    clear kD_0
    have kD_0 : v4.cell? ⟨w.heap.size, 0, none⟩ = some (.slice a m c) := RowAt.cell (HH.out.row _ (List.Mem.tail _ (List.Mem.head _))).2 0
    clear hf hr hgw
    go_wp2_with fail
    refine (pick_any B g (p + 1 + 1) 3 _ HR.out (by omega) (by omega) (by omega)).mono ?_
    rintro e v5 ⟨y, rfl, hy0, hy1, hr, hgw⟩
    have hf := fr_grown hgw
    have sv5 := hf.size
    replace HR : Hid (Rd B v5 g (p + 1 + 1 + 1)) := hr
    replace HH := hdF_go HH hf
    clear kD_0
    have kD_0 : v5.cell? ⟨w.heap.size, 0, none⟩ = some (.slice a m c) := RowAt.cell (HH.out.row _ (List.Mem.tail _ (List.Mem.head _))).2 0
    clear hf hr hgw
    go_wp2_with fail
    refine (pick_any B g (p + 1 + 1 + 1) 4 _ HR.out (by omega) (by omega) (by omega)).mono ?_
    rintro e v6 ⟨z, rfl, hz0, hz1, hr, hgw⟩
    have hf := fr_grown hgw
    have sv6 := hf.size
    replace HR : Hid (Rd B v6 g (p + 1 + 1 + 1 + 1)) := hr
    replace HH := hdF_go HH hf
    clear kD_0
    have kD_0 : v6.cell? ⟨w.heap.size, 0, none⟩ = some (.slice a m c) := RowAt.cell (HH.out.row _ (List.Mem.tail _ (List.Mem.head _))).2 0
    clear hf hr hgw
    go_wp2_with (refine wpList_store_row rfl 27 (.tmp 4) (.tmp 26) rfl (w.heap.size + 1) #[.int .i64 (x - 1), .int .i64 (y - 1), .int .i64 (z - 1)] rfl rfl 27 _ (HH.out.row _ (List.Mem.head _)).2 drpl_info rfl (drpl_ones _ _ _) ?_)
    have bT : Below w.heap.size v6 (v6.setRow (w.heap.size + 1) #[.int .i64 (x - 1), .int .i64 (y - 1), .int .i64 (z - 1)]) := below_row (Below.refl _ _) (by omega) _
    refine bodyPost_ret (v := .agg #[.int .i64 (x - 1), .int .i64 (y - 1), .int .i64 (z - 1)]) (results_cell_row (p := 4) (ty := 27) rfl _ _ (w.heap.size + 1) 27 _ _ _ rfl (RowAt.setRow (HH.out.row _ (List.Mem.head _)).2 _) Try.underlying27 rfl drpl_info) rfl (plRes_mk (q0 := p + 5) (q := p + 1 + 1 + 1 + 1) (by omega) (by omega) (by omega) (HR.out.below bT hlt) (by omega) (HH.out.frame.below bT))
  have hxb : (x0 == 0) = false := by simp [hx]
  go_wp2_with fail
  refine (pick_any B g (p + 1) m _ HR.out (by omega) (by omega) (by omega)).mono ?_
  rintro e v4 ⟨k0, rfl, hk00, hk01, hr, hgw⟩
  have hf := fr_grown hgw
  have sv4 := hf.size
  replace HR : Hid (Rd B v4 g (p + 1 + 1)) := hr
  replace HH := hdF_go HH hf
  clear kD_0
  have kD_0 : v4.cell? ⟨w.heap.size, 0, none⟩ = some (.slice a m c) := RowAt.cell (HH.out.row _ (List.Mem.tail _ (List.Mem.head _))).2 0
  clear hf hr hgw
  obtain ⟨k, rfl⟩ : ∃ k : Nat, k0 = k := ⟨k0.toNat, by omega⟩
  have hkm : k < m := by omega
  go_upto_region 4 with fail
  replace HH := hdF_box HH (by first | omega | (simp; omega)) #[.int .i64 k, .int .i64 0, .int .i64 0] 27
  replace HR : Hid (Rd B (v4.alloc (.cells #[.int .i64 k, .int .i64 0, .int .i64 0] 27)) g (p + 1 + 1)) := HR.out.alloc _
  clear kD_0
  have sv5 : v4.heap.size < (v4.alloc (.cells #[.int .i64 k, .int .i64 0, .int .i64 0] 27)).heap.size := by simp
  generalize (v4.alloc (.cells #[.int .i64 k, .int .i64 0, .int .i64 0] 27)) = v5 at HH sv5 HR ⊢
  obtain ⟨XP, hXP⟩ : ∃ X, v4.heap.size = X := ⟨_, rfl⟩
  rw [hXP] at HH sv5 ⊢
  have kP_0 : v5.cell? ⟨XP, 0, none⟩ = some (.int .i64 k) := RowAt.cell (HH.out.row _ (List.Mem.head _)).2 0
  have kP_1 : v5.cell? ⟨XP, 1, none⟩ = some (.int .i64 0) := RowAt.cell (HH.out.row _ (List.Mem.head _)).2 1
  have kP_2 : v5.cell? ⟨XP, 2, none⟩ = some (.int .i64 0) := RowAt.cell (HH.out.row _ (List.Mem.head _)).2 2
  have kD_0 : v5.cell? ⟨w.heap.size, 0, none⟩ = some (.slice a m c) := RowAt.cell (HH.out.row _ (List.Mem.tail _ (List.Mem.tail _ (List.Mem.head _)))).2 0
  have HSK : Hid (BlSp (d.getD k bl0)) := HS.out.at k
  obtain ⟨b, rfl, hbw, hblk⟩ := (HD0.out.fr HH.out.frame hgC).blk hkm
  have hbx := HD0.out.2.2 k (by rw [← HD0.out.len]; exact hkm)
  obtain ⟨⟨K0, V0, ⟨ta, tn, tc⟩, R0, C0, ⟨ca, cn, cc⟩⟩, hrb⟩ : ∃ y, y = rbs.getD k rb0 := ⟨_, rfl⟩
  obtain ⟨⟨K, V, t, R, CC, l⟩, hy⟩ : ∃ y, y = d.getD k bl0 := ⟨_, rfl⟩
  rw [← hy] at hblk HSK hbx
  rw [← hrb] at hblk hbx
  have HOT : Hid (∃ rs, OwnT w C (.slice ca cn cc) rs l) := hbx.2.2
  have hbF : b < w.heap.size := by
    obtain ⟨q, hq, h2, _⟩ := HD0.out.blk hkm
    cases hq
    exact h2
  have htn : tn ≤ 25 := by have e : tn = t.length := hblk.2.2.2.2.2.2.1.1; rw [e]; exact HSK.out.2.1
  have htc : tn ≤ tc := hblk.2.2.2.2.2.2.1.2.1
  have htm : tc ≤ maxLen := hblk.2.2.2.2.2.2.1.2.2.1
  have hcn : cn ≤ 25 := by have e : cn = l.length := hblk.2.2.2.2.2.2.2.1; rw [e]; exact HSK.out.2.2.1
  have hcc : cn ≤ cc := hblk.2.2.2.2.2.2.2.2.1
  have hcm : cc ≤ maxLen := hblk.2.2.2.2.2.2.2.2.2.1
  have HL24 : Hid (∀ x ∈ l, x.2.2.2.2.length ≤ 24) := HSK.out.2.2.2
  unfold maxLen at htm hcm
  obtain ⟨c0, c1, c2, c3, c4, c5, -, -⟩ := hblk
  clear hy hrb hbx HSK
  have hk0 : (0 : Int) ≤ (k : Int) := by omega
  have hkb : (k : Int) < (m : Int) := by omega
  go_upto_region 5 with fail
  replace HH := hdF_box HH (by first | omega | (simp; omega)) #[.int .i64 K, .int .i64 V, .slice ta tn tc, .int .i64 R, .int .i64 CC, .slice ca cn cc] 39
  replace HR : Hid (Rd B (v5.alloc (.cells #[.int .i64 K, .int .i64 V, .slice ta tn tc, .int .i64 R, .int .i64 CC, .slice ca cn cc] 39)) g (p + 1 + 1)) := HR.out.alloc _
  clear kP_0 kP_1 kP_2 kD_0
  have sv6 : v5.heap.size < (v5.alloc (.cells #[.int .i64 K, .int .i64 V, .slice ta tn tc, .int .i64 R, .int .i64 CC, .slice ca cn cc] 39)).heap.size := by simp
  generalize (v5.alloc (.cells #[.int .i64 K, .int .i64 V, .slice ta tn tc, .int .i64 R, .int .i64 CC, .slice ca cn cc] 39)) = v6 at HH sv6 HR ⊢
  obtain ⟨XB, hXB⟩ : ∃ X, v5.heap.size = X := ⟨_, rfl⟩
  rw [hXB] at HH sv6 ⊢
  have kB_0 : v6.cell? ⟨XB, 0, none⟩ = some (.int .i64 K) := RowAt.cell (HH.out.row _ (List.Mem.head _)).2 0
  have kB_1 : v6.cell? ⟨XB, 1, none⟩ = some (.int .i64 V) := RowAt.cell (HH.out.row _ (List.Mem.head _)).2 1
  have kB_2 : v6.cell? ⟨XB, 2, none⟩ = some (.slice ta tn tc) := RowAt.cell (HH.out.row _ (List.Mem.head _)).2 2
  have kB_3 : v6.cell? ⟨XB, 3, none⟩ = some (.int .i64 R) := RowAt.cell (HH.out.row _ (List.Mem.head _)).2 3
  have kB_4 : v6.cell? ⟨XB, 4, none⟩ = some (.int .i64 CC) := RowAt.cell (HH.out.row _ (List.Mem.head _)).2 4
  have kB_5 : v6.cell? ⟨XB, 5, none⟩ = some (.slice ca cn cc) := RowAt.cell (HH.out.row _ (List.Mem.head _)).2 5
  have kP_0 : v6.cell? ⟨XP, 0, none⟩ = some (.int .i64 k) := RowAt.cell (HH.out.row _ (List.Mem.tail _ (List.Mem.head _))).2 0
  have kP_1 : v6.cell? ⟨XP, 1, none⟩ = some (.int .i64 0) := RowAt.cell (HH.out.row _ (List.Mem.tail _ (List.Mem.head _))).2 1
  have kP_2 : v6.cell? ⟨XP, 2, none⟩ = some (.int .i64 0) := RowAt.cell (HH.out.row _ (List.Mem.tail _ (List.Mem.head _))).2 2
  have kD_0 : v6.cell? ⟨w.heap.size, 0, none⟩ = some (.slice (some ⟨b, 0, none⟩) m c) := RowAt.cell (HH.out.row _ (List.Mem.tail _ (List.Mem.tail _ (List.Mem.tail _ (List.Mem.head _))))).2 0
  clear c0 c1 c2 c3 c4 c5
  have hXP : w.heap.size + 1 < XP := by omega
  have hXB : XP < XB := by omega
  by_cases hK : K = 3
  · by_cases hc0 : 0 < cn
    · have hk3 : (K == 3) = true := by simp [hK]
      have hcz : (0 : Int) < (cn : Int) := by omega
      go_wp2_with fail
      refine (pick_any B g (p + 1 + 1) cn _ HR.out (by omega) (by omega) (by omega)).mono ?_
      rintro e v7 ⟨j0, rfl, hj00, hj01, hr, hgw⟩
      have hf := fr_grown hgw
      have sv7 := hf.size
      replace HR : Hid (Rd B v7 g (p + 1 + 1 + 1)) := hr
      replace HH := hdF_go HH hf
      clear kB_0 kB_1 kB_2 kB_3 kB_4 kB_5 kP_0 kP_1 kP_2 kD_0
      have kB_0 : v7.cell? ⟨XB, 0, none⟩ = some (.int .i64 K) := RowAt.cell (HH.out.row _ (List.Mem.head _)).2 0
      have kB_1 : v7.cell? ⟨XB, 1, none⟩ = some (.int .i64 V) := RowAt.cell (HH.out.row _ (List.Mem.head _)).2 1
      have kB_2 : v7.cell? ⟨XB, 2, none⟩ = some (.slice ta tn tc) := RowAt.cell (HH.out.row _ (List.Mem.head _)).2 2
      have kB_3 : v7.cell? ⟨XB, 3, none⟩ = some (.int .i64 R) := RowAt.cell (HH.out.row _ (List.Mem.head _)).2 3
      have kB_4 : v7.cell? ⟨XB, 4, none⟩ = some (.int .i64 CC) := RowAt.cell (HH.out.row _ (List.Mem.head _)).2 4
      have kB_5 : v7.cell? ⟨XB, 5, none⟩ = some (.slice ca cn cc) := RowAt.cell (HH.out.row _ (List.Mem.head _)).2 5
      have kP_0 : v7.cell? ⟨XP, 0, none⟩ = some (.int .i64 k) := RowAt.cell (HH.out.row _ (List.Mem.tail _ (List.Mem.head _))).2 0
      have kP_1 : v7.cell? ⟨XP, 1, none⟩ = some (.int .i64 0) := RowAt.cell (HH.out.row _ (List.Mem.tail _ (List.Mem.head _))).2 1
      have kP_2 : v7.cell? ⟨XP, 2, none⟩ = some (.int .i64 0) := RowAt.cell (HH.out.row _ (List.Mem.tail _ (List.Mem.head _))).2 2
      have kD_0 : v7.cell? ⟨w.heap.size, 0, none⟩ = some (.slice (some ⟨b, 0, none⟩) m c) := RowAt.cell (HH.out.row _ (List.Mem.tail _ (List.Mem.tail _ (List.Mem.tail _ (List.Mem.head _))))).2 0
      clear hf hr hgw
      obtain ⟨j, rfl⟩ : ∃ j : Nat, j0 = j := ⟨j0.toNat, by omega⟩
      have hjn : (j : Int) < (cn : Int) := by omega
      have hj0 : (0 : Int) ≤ (j : Int) := by omega
      have fP1 := (RowAt.frozen (HH.out.row _ (List.Mem.tail _ (List.Mem.head _))).2 1)
      go_upto_region 8 with fail
      have bP1 : Below XP v7 (v7.setCell ⟨XP, 1, none⟩ (.int .i64 j)) := (Below.refl _ _).setCell (by show XP ≤ XP; omega) _
      have GP1 : RowAt (v7.setCell ⟨XP, 1, none⟩ (.int .i64 j)) XP #[.int .i64 k, .int .i64 j, .int .i64 0] 27 := RowAt.setCell (HH.out.row _ (List.Mem.tail _ (List.Mem.head _))).2 1 _
      have bP1d : Below (w.heap.size + 2) v7 (v7.setCell ⟨XP, 1, none⟩ (.int .i64 j)) := bP1.mono (by omega)
      have GZ1 : RowAt (v7.setCell ⟨XP, 1, none⟩ (.int .i64 j)) (w.heap.size + 1) #[.int .i64 0, .int .i64 0, .int .i64 0] 27 := RowAt.below (HH.out.row _ (List.Mem.tail _ (List.Mem.tail _ (List.Mem.head _)))).2 bP1 (by omega)
      have HRz1 : Hid (Rd B (v7.setCell ⟨XP, 1, none⟩ (.int .i64 j)) g (p + 1 + 1 + 1)) := HR.out.below bP1 (by omega)
      have HFz1 : Hid (Fr w.heap.size g w (v7.setCell ⟨XP, 1, none⟩ (.int .i64 j))) := HH.out.frame.below (bP1.mono (by omega))
      have GB1 : RowAt (v7.setCell ⟨XP, 1, none⟩ (.int .i64 j)) XB #[.int .i64 K, .int .i64 V, .slice ta tn tc, .int .i64 R, .int .i64 CC, .slice ca cn cc] 39 := by
        have := RowAt.other (HH.out.row _ (List.Mem.head _)).2 ⟨XP, 1, none⟩ (.int .i64 j) (by show XB ≠ XP; omega)
        exact this
      generalize (v7.setCell ⟨XP, 1, none⟩ (.int .i64 j)) = vy at bP1 GP1 GZ1 HRz1 HFz1 GB1 ⊢
      clear kB_0 kB_1 kB_2 kB_3 kB_4 kB_5 kP_0 kP_1 kP_2 kD_0
      have HTY : Hid (Tab vy ca cn cc l) := HOT.out.elim fun rs hr => (hr.fr HFz1.out hgC).tab
      have hjl : j < l.length := by rw [← HTY.out.1]; omega
      rcases HTY.out.2.2.2 with q | ⟨bb, oo, rfl, hbbw, hcl⟩
      · rw [q] at hjl
        exact absurd hjl (by simp)
      obtain ⟨-, -, -, -, xa, xn, xc, x4, hxt⟩ := hcl j hjl
      have hx24 : xn ≤ 24 := by
        rw [hxt.1, show l.getD j cl0 = l[j] by simp [List.getD, hjl]]
        exact HL24.out _ (List.getElem_mem hjl)
      have hxc := hxt.2.1
      have hxm := hxt.2.2.1
      unfold maxLen at hxm
      clear hcl hxt HTY
      have ky0 := GP1.cell 0
      have ky1 := GP1.cell 1
      have ky2 := GP1.cell 2
      simp at ky0 ky1 ky2
      have kb0 : vy.cell? ⟨XB, 0, none⟩ = some (.int .i64 K) := GB1.cell 0
      have kb1 : vy.cell? ⟨XB, 1, none⟩ = some (.int .i64 V) := GB1.cell 1
      have kb2 : vy.cell? ⟨XB, 2, none⟩ = some (.slice ta tn tc) := GB1.cell 2
      have kb3 : vy.cell? ⟨XB, 3, none⟩ = some (.int .i64 R) := GB1.cell 3
      have kb4 : vy.cell? ⟨XB, 4, none⟩ = some (.int .i64 CC) := GB1.cell 4
      have kb5 : vy.cell? ⟨XB, 5, none⟩ = some (.slice (some ⟨bb, oo, none⟩) cn cc) := GB1.cell 5
      go_wp2_with fail
      refine (pick_any B g (p + 1 + 1 + 1) ((xn : Int) + 1) _ HRz1.out (by omega) (by omega) (by omega)).mono ?_
      rintro e vq ⟨z, rfl, hz0, hz1, hr, hgw⟩
      have hf := fr_grown hgw
      have sq := hf.size
      have lP := GP1.lt
      have GP2 : RowAt vq XP #[.int .i64 k, .int .i64 j, .int .i64 0] 27 := GP1.fr hf (by omega)
      have GZ2 : RowAt vq (w.heap.size + 1) #[.int .i64 0, .int .i64 0, .int .i64 0] 27 := GZ1.fr hf (by omega)
      have HRq : Hid (Rd B vq g (p + 1 + 1 + 1 + 1)) := hr
      have HFq : Hid (Fr w.heap.size g w vq) := HFz1.out.trans (hf.mono (by have := bP1.size; omega))
      clear ky0 ky1 ky2 kb0 kb1 kb2 kb3 kb4 kb5 x4 hf hr hgw
      have kq0 := GP2.cell 0
      have kq1 := GP2.cell 1
      have kq2 := GP2.cell 2
      simp at kq0 kq1 kq2
      have fP := RowAt.frozen GP2 2
      go_upto_region 10 with fail
      have bP : Below (w.heap.size + 2) vq (vq.setCell ⟨XP, 2, none⟩ (.int .i64 z)) := (Below.refl _ _).setCell (by show w.heap.size + 2 ≤ XP; omega) _
      have GP : RowAt (vq.setCell ⟨XP, 2, none⟩ (.int .i64 z)) XP #[.int .i64 k, .int .i64 j, .int .i64 z] 27 := RowAt.setCell GP2 2 _
      have GZ : RowAt (vq.setCell ⟨XP, 2, none⟩ (.int .i64 z)) (w.heap.size + 1) #[.int .i64 0, .int .i64 0, .int .i64 0] 27 := RowAt.below GZ2 bP (by omega)
      have HRz : Hid (Rd B (vq.setCell ⟨XP, 2, none⟩ (.int .i64 z)) g (p + 1 + 1 + 1 + 1)) := HRq.out.below bP (by omega)
      have HFz : Hid (Fr w.heap.size g w (vq.setCell ⟨XP, 2, none⟩ (.int .i64 z))) := HFq.out.below (bP.mono (by omega))
      clear kq0 kq1 kq2 fP
      generalize (vq.setCell ⟨XP, 2, none⟩ (.int .i64 z)) = vz at bP GP GZ HRz HFz ⊢
      have kz0 := GP.cell 0
      have kz1 := GP.cell 1
      have kz2 := GP.cell 2
      simp at kz0 kz1 kz2
      go_wp2_with (refine wpList_store_row rfl 27 (.tmp 4) (.tmp 73) rfl (w.heap.size + 1) #[.int .i64 k, .int .i64 j, .int .i64 z] rfl rfl 27 _ GZ drpl_info rfl (drpl_ones _ _ _) ?_)
      have bT : Below w.heap.size vz (vz.setRow (w.heap.size + 1) #[.int .i64 k, .int .i64 j, .int .i64 z]) := below_row (Below.refl _ _) (by omega) _
      refine bodyPost_ret (v := .agg #[.int .i64 k, .int .i64 j, .int .i64 z]) (results_cell_row (p := 4) (ty := 27) rfl _ _ (w.heap.size + 1) 27 _ _ _ rfl (RowAt.setRow GZ _) Try.underlying27 rfl drpl_info) rfl (plRes_mk (q0 := p + 5) (q := p + 1 + 1 + 1 + 1) (by omega) (by omega) (by omega) (HRz.out.below bT hlt) (by omega) (HFz.out.below bT))
    · have hk3 : (K == 3) = true := by simp [hK]
      have hcz : ¬ (0 : Int) < (cn : Int) := by omega
      go_wp2_with fail
      refine (pick_any B g (p + 1 + 1) ((tn : Int) + 1) _ HR.out (by omega) (by omega) (by omega)).mono ?_
      rintro e v7 ⟨z, rfl, hz0, hz1, hr, hgw⟩
      have hf := fr_grown hgw
      have sv7 := hf.size
      replace HR : Hid (Rd B v7 g (p + 1 + 1 + 1)) := hr
      replace HH := hdF_go HH hf
      clear kB_0 kB_1 kB_2 kB_3 kB_4 kB_5 kP_0 kP_1 kP_2 kD_0
      have kB_0 : v7.cell? ⟨XB, 0, none⟩ = some (.int .i64 K) := RowAt.cell (HH.out.row _ (List.Mem.head _)).2 0
      have kB_1 : v7.cell? ⟨XB, 1, none⟩ = some (.int .i64 V) := RowAt.cell (HH.out.row _ (List.Mem.head _)).2 1
      have kB_2 : v7.cell? ⟨XB, 2, none⟩ = some (.slice ta tn tc) := RowAt.cell (HH.out.row _ (List.Mem.head _)).2 2
      have kB_3 : v7.cell? ⟨XB, 3, none⟩ = some (.int .i64 R) := RowAt.cell (HH.out.row _ (List.Mem.head _)).2 3
      have kB_4 : v7.cell? ⟨XB, 4, none⟩ = some (.int .i64 CC) := RowAt.cell (HH.out.row _ (List.Mem.head _)).2 4
      have kB_5 : v7.cell? ⟨XB, 5, none⟩ = some (.slice ca cn cc) := RowAt.cell (HH.out.row _ (List.Mem.head _)).2 5
      have kP_0 : v7.cell? ⟨XP, 0, none⟩ = some (.int .i64 k) := RowAt.cell (HH.out.row _ (List.Mem.tail _ (List.Mem.head _))).2 0
      have kP_1 : v7.cell? ⟨XP, 1, none⟩ = some (.int .i64 0) := RowAt.cell (HH.out.row _ (List.Mem.tail _ (List.Mem.head _))).2 1
      have kP_2 : v7.cell? ⟨XP, 2, none⟩ = some (.int .i64 0) := RowAt.cell (HH.out.row _ (List.Mem.tail _ (List.Mem.head _))).2 2
      have kD_0 : v7.cell? ⟨w.heap.size, 0, none⟩ = some (.slice (some ⟨b, 0, none⟩) m c) := RowAt.cell (HH.out.row _ (List.Mem.tail _ (List.Mem.tail _ (List.Mem.tail _ (List.Mem.head _))))).2 0
      clear hf hr hgw
      have fP := (RowAt.frozen (HH.out.row _ (List.Mem.tail _ (List.Mem.head _))).2 2)
      go_upto_region 10 with fail
      have bP : Below (w.heap.size + 2) v7 (v7.setCell ⟨XP, 2, none⟩ (.int .i64 z)) := (Below.refl _ _).setCell (by show w.heap.size + 2 ≤ XP; omega) _
      have GP : RowAt (v7.setCell ⟨XP, 2, none⟩ (.int .i64 z)) XP #[.int .i64 k, .int .i64 0, .int .i64 z] 27 := RowAt.setCell (HH.out.row _ (List.Mem.tail _ (List.Mem.head _))).2 2 _
      have GZ : RowAt (v7.setCell ⟨XP, 2, none⟩ (.int .i64 z)) (w.heap.size + 1) #[.int .i64 0, .int .i64 0, .int .i64 0] 27 := RowAt.below (HH.out.row _ (List.Mem.tail _ (List.Mem.tail _ (List.Mem.head _)))).2 bP (by omega)
      have HRz : Hid (Rd B (v7.setCell ⟨XP, 2, none⟩ (.int .i64 z)) g (p + 1 + 1 + 1)) := HR.out.below bP (by omega)
      have HFz : Hid (Fr w.heap.size g w (v7.setCell ⟨XP, 2, none⟩ (.int .i64 z))) := HH.out.frame.below (bP.mono (by omega))
      generalize (v7.setCell ⟨XP, 2, none⟩ (.int .i64 z)) = vz at bP GP GZ HRz HFz ⊢
      have kz0 := GP.cell 0
      have kz1 := GP.cell 1
      have kz2 := GP.cell 2
      simp at kz0 kz1 kz2
      clear kB_0 kB_1 kB_2 kB_3 kB_4 kB_5 kP_0 kP_1 kP_2 kD_0
      go_wp2_with (refine wpList_store_row rfl 27 (.tmp 4) (.tmp 73) rfl (w.heap.size + 1) #[.int .i64 k, .int .i64 0, .int .i64 z] rfl rfl 27 _ GZ drpl_info rfl (drpl_ones _ _ _) ?_)
      have bT : Below w.heap.size vz (vz.setRow (w.heap.size + 1) #[.int .i64 k, .int .i64 0, .int .i64 z]) := below_row (Below.refl _ _) (by omega) _
      refine bodyPost_ret (v := .agg #[.int .i64 k, .int .i64 0, .int .i64 z]) (results_cell_row (p := 4) (ty := 27) rfl _ _ (w.heap.size + 1) 27 _ _ _ rfl (RowAt.setRow GZ _) Try.underlying27 rfl drpl_info) rfl (plRes_mk (q0 := p + 5) (q := p + 1 + 1 + 1) (by omega) (by omega) (by omega) (HRz.out.below bT hlt) (by omega) (HFz.out.below bT))
  · have hk3 : (K == 3) = false := by simp [hK]
    go_wp2_with fail
    refine (pick_any B g (p + 1 + 1) ((tn : Int) + 1) _ HR.out (by omega) (by omega) (by omega)).mono ?_
    rintro e v7 ⟨z, rfl, hz0, hz1, hr, hgw⟩
    have hf := fr_grown hgw
    have sv7 := hf.size
    replace HR : Hid (Rd B v7 g (p + 1 + 1 + 1)) := hr
    replace HH := hdF_go HH hf
    clear kB_0 kB_1 kB_2 kB_3 kB_4 kB_5 kP_0 kP_1 kP_2 kD_0
    have kB_0 : v7.cell? ⟨XB, 0, none⟩ = some (.int .i64 K) := RowAt.cell (HH.out.row _ (List.Mem.head _)).2 0
    have kB_1 : v7.cell? ⟨XB, 1, none⟩ = some (.int .i64 V) := RowAt.cell (HH.out.row _ (List.Mem.head _)).2 1
    have kB_2 : v7.cell? ⟨XB, 2, none⟩ = some (.slice ta tn tc) := RowAt.cell (HH.out.row _ (List.Mem.head _)).2 2
    have kB_3 : v7.cell? ⟨XB, 3, none⟩ = some (.int .i64 R) := RowAt.cell (HH.out.row _ (List.Mem.head _)).2 3
    have kB_4 : v7.cell? ⟨XB, 4, none⟩ = some (.int .i64 CC) := RowAt.cell (HH.out.row _ (List.Mem.head _)).2 4
    have kB_5 : v7.cell? ⟨XB, 5, none⟩ = some (.slice ca cn cc) := RowAt.cell (HH.out.row _ (List.Mem.head _)).2 5
    have kP_0 : v7.cell? ⟨XP, 0, none⟩ = some (.int .i64 k) := RowAt.cell (HH.out.row _ (List.Mem.tail _ (List.Mem.head _))).2 0
    have kP_1 : v7.cell? ⟨XP, 1, none⟩ = some (.int .i64 0) := RowAt.cell (HH.out.row _ (List.Mem.tail _ (List.Mem.head _))).2 1
    have kP_2 : v7.cell? ⟨XP, 2, none⟩ = some (.int .i64 0) := RowAt.cell (HH.out.row _ (List.Mem.tail _ (List.Mem.head _))).2 2
    have kD_0 : v7.cell? ⟨w.heap.size, 0, none⟩ = some (.slice (some ⟨b, 0, none⟩) m c) := RowAt.cell (HH.out.row _ (List.Mem.tail _ (List.Mem.tail _ (List.Mem.tail _ (List.Mem.head _))))).2 0
    clear hf hr hgw
    have fP := (RowAt.frozen (HH.out.row _ (List.Mem.tail _ (List.Mem.head _))).2 2)
    go_upto_region 10 with fail
    have bP : Below (w.heap.size + 2) v7 (v7.setCell ⟨XP, 2, none⟩ (.int .i64 z)) := (Below.refl _ _).setCell (by show w.heap.size + 2 ≤ XP; omega) _
    have GP : RowAt (v7.setCell ⟨XP, 2, none⟩ (.int .i64 z)) XP #[.int .i64 k, .int .i64 0, .int .i64 z] 27 := RowAt.setCell (HH.out.row _ (List.Mem.tail _ (List.Mem.head _))).2 2 _
    have GZ : RowAt (v7.setCell ⟨XP, 2, none⟩ (.int .i64 z)) (w.heap.size + 1) #[.int .i64 0, .int .i64 0, .int .i64 0] 27 := RowAt.below (HH.out.row _ (List.Mem.tail _ (List.Mem.tail _ (List.Mem.head _)))).2 bP (by omega)
    have HRz : Hid (Rd B (v7.setCell ⟨XP, 2, none⟩ (.int .i64 z)) g (p + 1 + 1 + 1)) := HR.out.below bP (by omega)
    have HFz : Hid (Fr w.heap.size g w (v7.setCell ⟨XP, 2, none⟩ (.int .i64 z))) := HH.out.frame.below (bP.mono (by omega))
    generalize (v7.setCell ⟨XP, 2, none⟩ (.int .i64 z)) = vz at bP GP GZ HRz HFz ⊢
    have kz0 := GP.cell 0
    have kz1 := GP.cell 1
    have kz2 := GP.cell 2
    simp at kz0 kz1 kz2
    clear kB_0 kB_1 kB_2 kB_3 kB_4 kB_5 kP_0 kP_1 kP_2 kD_0
    go_wp2_with (refine wpList_store_row rfl 27 (.tmp 4) (.tmp 73) rfl (w.heap.size + 1) #[.int .i64 k, .int .i64 0, .int .i64 z] rfl rfl 27 _ GZ drpl_info rfl (drpl_ones _ _ _) ?_)
    have bT : Below w.heap.size vz (vz.setRow (w.heap.size + 1) #[.int .i64 k, .int .i64 0, .int .i64 z]) := below_row (Below.refl _ _) (by omega) _
    refine bodyPost_ret (v := .agg #[.int .i64 k, .int .i64 0, .int .i64 z]) (results_cell_row (p := 4) (ty := 27) rfl _ _ (w.heap.size + 1) 27 _ _ _ rfl (RowAt.setRow GZ _) Try.underlying27 rfl drpl_info) rfl (plRes_mk (q0 := p + 5) (q := p + 1 + 1 + 1) (by omega) (by omega) (by omega) (HRz.out.below bT hlt) (by omega) (HFz.out.below bT))
end Go.Proofs.Ytcecmkideoodiaa
namespace Go.Proofs.Ytcecmkideoodiaa
open Go.RowKit

theorem fr_set (u : World) (X : Nat) (cs : Array Value) : Fr u.heap.size X u (u.setRow X cs) := ⟨rfl, rfl, rfl, by simp [World.setRow], fun k _ hn => setRow_other u X k cs hn⟩
theorem results_cell2 {fn : Func} {p q : Tmp} {ty tz : TypeId} (h : fn.results = #[.cell p ty, .cell q tz]) (tmps : Array Value) (P : Program) (w : World) (g g' : Nat) (v v' : Value)
    (hp : tmps.getD p undef = .pointer (some ⟨g, 0, none⟩)) (h1 : (loadVar ty ⟨g, 0, none⟩).run P w = .ok v w) (hq : tmps.getD q undef = .pointer (some ⟨g', 0, none⟩)) (h2 : (loadVar tz ⟨g', 0, none⟩).run P w = .ok v' w) :
    (results fn tmps).run P w = .ok (.tuple #[v, v']) w := by
  have hp' : tmps[p]?.getD undef = .pointer (some ⟨g, 0, none⟩) := by simpa using hp
  have hq' : tmps[q]?.getD undef = .pointer (some ⟨g', 0, none⟩) := by simpa using hq
  simp [results, h, hp', hq', asAddr, h1, h2, Sem.run_bind, Result.andThen]
theorem run_docP {w : World} {g : Nat} {s : Value} (h : RowAt w g #[s] 25) : (loadVar 25 ⟨g, 0, none⟩).run Try.prog w = .ok (.agg #[s]) w :=
  run_loadVar_row w g 25 25 #[s] (0, 0) _ h Try.underlying25 rfl drdoc_info
theorem rd_row {B : Nat} {w : World} {g p X : Nat} (h : Rd B w g p) (hB : B ≤ X) (hn : X ≠ g) (cs : Array Value) : Rd B (w.setRow X cs) g p := by
  obtain ⟨h1, a, n, c, zs, h2, h3, h4⟩ := h
  have hb : Below B w (w.setRow X cs) := below_row (Below.refl _ _) hB _
  exact ⟨h1, a, n, c, zs, (setRow_other w X g cs (Ne.symm hn)).trans h2, h3.belowC hb (Nat.le_refl _), h4⟩
set_option maxRecDepth 100000 in
set_option maxHeartbeats 16000000 in
theorem drDrawPlaceText_any (B : Nat) (a : Option Addr) (n cap : Nat) (zs : List Int) (w : World) (h : Byt B w a n cap zs) (hB : B ≤ w.heap.size) :
    Calls Try.prog 11 #[.slice a n cap] w fun e w' => (∃ (a' : Option Addr) (m' c' : Nat) (d' : List Bl) (pb pc pa : Int), e = .returned (.tuple #[.agg #[.slice a' m' c'], .agg #[.int .i64 pb, .int .i64 pc, .int .i64 pa]]) ∧ Dc w' a' m' c' d' ∧ DocSp d' ∧ (-1 ≤ pb ∧ pb ≤ 9) ∧ (-1 ≤ pc ∧ pc ≤ 30) ∧ (-1 ≤ pa ∧ pa ≤ 30)) ∧ Below w.heap.size w w' := by
  have HY : Hid (Byt B w a n cap zs) := h
  clear h
  go_enter Try.func11, Try.ntmps11
  go_upto_region 1 with fail
  have B0 : Below w.heap.size w ((w.alloc (.cells #[.slice none 0 0] 25)).alloc (.cells #[.int .i64 0, .int .i64 0, .int .i64 0] 27)) := ((Below.refl _ _).alloc (Nat.le_refl _) _).alloc (by simp) _
  have Z0 : RowAt ((w.alloc (.cells #[.slice none 0 0] 25)).alloc (.cells #[.int .i64 0, .int .i64 0, .int .i64 0] 27)) w.heap.size #[.slice none 0 0] 25 := (rowAt_new _ _ _).alloc _
  have P0 : RowAt ((w.alloc (.cells #[.slice none 0 0] 25)).alloc (.cells #[.int .i64 0, .int .i64 0, .int .i64 0] 27)) (w.heap.size + 1) #[.int .i64 0, .int .i64 0, .int .i64 0] 27 := by
    have := rowAt_new (w.alloc (.cells #[.slice none 0 0] 25)) #[.int .i64 0, .int .i64 0, .int .i64 0] 27
    simpa using this
  have HY0 : Hid (Byt B ((w.alloc (.cells #[.slice none 0 0] 25)).alloc (.cells #[.int .i64 0, .int .i64 0, .int .i64 0] 27)) a n cap zs) := HY.out.belowC B0 hB
  generalize ((w.alloc (.cells #[.slice none 0 0] 25)).alloc (.cells #[.int .i64 0, .int .i64 0, .int .i64 0] 27)) = v0 at B0 Z0 P0 HY0 ⊢
  have s0 := B0.size
  have zz := P0.lt
  go_wp2_with fail
  refine (l6Open_any B a n cap zs _ HY0.out (by omega)).mono ?_
  rintro e w1 ⟨rfl, hr1, hb1⟩
  have s1 := hb1.size
  have HR1 : Hid (Rd B w1 v0.heap.size 0) := hr1
  have hlt := hr1.lt
  clear hr1
  obtain ⟨g, hg⟩ : ∃ g, v0.heap.size = g := ⟨_, rfl⟩
  have HB1 : Hid (Below w.heap.size w w1) := B0.trans (hb1.mono s0)
  have HZ1 : Hid (RowAt w1 w.heap.size #[.slice none 0 0] 25) := Z0.below hb1 (by omega)
  have HP1 : Hid (RowAt w1 (w.heap.size + 1) #[.int .i64 0, .int .i64 0, .int .i64 0] 27) := P0.below hb1 (by omega)
  rw [hg] at HR1 hlt s1 zz ⊢
  have hgw : w.heap.size + 1 < g := by omega
  clear B0 Z0 P0 HY0 HY hb1 hg
  go_wp2_with fail
  refine (l71Some_any B g 0 _ HR1.out (by omega)).mono ?_
  rintro e w2 ⟨a, m, c, d, q, rfl, ⟨rbs, hX⟩, hS, hr2, hq, hf2⟩
  have s2 := hf2.size
  have HZ2 : Hid (RowAt w2 w.heap.size #[.slice none 0 0] 25) := HZ1.out.fr hf2 (by omega)
  have HP2 : Hid (RowAt w2 (w.heap.size + 1) #[.int .i64 0, .int .i64 0, .int .i64 0] 27) := HP1.out.fr hf2 (by omega)
  have HB2 : Hid (Below w.heap.size w w2) := HB1.out.trans (below_of_frG hf2 (by have := HB1.out.size; omega) (by omega))
  have HS : Hid (DocSp d) := hS
  have HX2 : Hid (DocX w2 w1.heap.size (.slice a m c) rbs d) := hX
  have HR2 : Hid (Rd B w2 g q) := hr2
  have hm9 : m ≤ 9 := by rw [hX.len]; exact hS.1
  have hmc : m ≤ c := hX.dc.2.1
  have hmm : c ≤ maxLen := hX.dc.2.2.1
  unfold maxLen at hmm
  clear hX hS hr2 hf2 HZ1 HP1 HB1 HR1
  go_upto_region 3 with fail
  have T3 : RowAt (w2.alloc (.cells #[.slice a m c] 25)) w2.heap.size #[.slice a m c] 25 := rowAt_new _ _ _
  have HX3 : Hid (DocX (w2.alloc (.cells #[.slice a m c] 25)) w1.heap.size (.slice a m c) rbs d) := HX2.out.alloc _
  have HZ3 : Hid (RowAt (w2.alloc (.cells #[.slice a m c] 25)) w.heap.size #[.slice none 0 0] 25) := HZ2.out.alloc _
  have HP3 : Hid (RowAt (w2.alloc (.cells #[.slice a m c] 25)) (w.heap.size + 1) #[.int .i64 0, .int .i64 0, .int .i64 0] 27) := HP2.out.alloc _
  have HB3 : Hid (Below w.heap.size w (w2.alloc (.cells #[.slice a m c] 25))) := HB2.out.alloc (by omega) _
  have HR3 : Hid (Rd B (w2.alloc (.cells #[.slice a m c] 25)) g q) := HR2.out.alloc _
  have zT := T3.lt
  generalize (w2.alloc (.cells #[.slice a m c] 25)) = v3 at T3 HX3 HZ3 HP3 HB3 HR3 zT ⊢
  obtain ⟨X, hX⟩ : ∃ X, w2.heap.size = X := ⟨_, rfl⟩
  rw [hX] at T3 zT s2 ⊢
  have hXg : g < X := by omega
  have sB3 := HB3.out.size
  have HT3 : Hid (RowAt v3 X #[.slice a m c] 25) := T3
  clear T3 hX HX2 HZ2 HP2 HB2 HR2
  have hgX3 : g < v3.heap.size := by omega
  refine wp_region_noPanic ?_
  refine wp_region_held_drew (S := fun w' => RowAt w' X #[.slice a m c] 25) (by kernel_rfl) HT3.out (fun hHeld => ?_)
  have HXu0 : Hid (DocX v3.drew w1.heap.size (.slice a m c) rbs d) := HX3.out.below (Below.refl _ _).drew
  have HZu0 : Hid (RowAt v3.drew w.heap.size #[.slice none 0 0] 25) := HZ3.out.drew
  have HPu0 : Hid (RowAt v3.drew (w.heap.size + 1) #[.int .i64 0, .int .i64 0, .int .i64 0] 27) := HP3.out.drew
  have HTu0 : Hid (RowAt v3.drew X #[.slice a m c] 25) := HT3.out.drew
  have HRu0 : Hid (Rd B v3.drew g q) := HR3.out.below (Below.refl _ _).drew hgX3
  have HBu0 : Hid (Below w.heap.size w v3.drew) := HB3.out.drew
  have su0 : v3.heap.size ≤ v3.drew.heap.size := Nat.le_refl _
  generalize v3.drew = u0 at HXu0 HZu0 HPu0 HTu0 HRu0 HBu0 su0 hHeld ⊢
  clear HX3 HZ3 HP3 HT3 HR3 HB3
  refine take_at 0 10 (.agg #[.slice a m c]) rfl rfl (by kernel_rfl) (by kernel_rfl) (by kernel_rfl) (fun _ _ _ h => h) (yieldsIf_load_row (by kernel_rfl) 25 (.tmp 5) rfl X rfl 25 #[.slice a m c] (0, 0) _ (fun w' h => h) Try.underlying25 rfl drdoc_info) hHeld ?_
  (try simp only [Act.put, List.setIfInBounds_toArray, List.set_cons_zero, List.set_cons_succ])
  refine take_at 1 11 (.pointer (some ⟨g, 0, none⟩)) rfl rfl (by kernel_rfl) (by kernel_rfl) (by kernel_rfl) (fun _ _ _ h => h) (Or.inl ⟨by kernel_rfl, fun w' hS' => by go_simp⟩) hHeld ?_
  (try simp only [Act.put, List.setIfInBounds_toArray, List.set_cons_zero, List.set_cons_succ])
  refine take_at 2 12 (.agg #[.slice a m c]) rfl rfl (by kernel_rfl) (by kernel_rfl) (by kernel_rfl) (fun _ _ _ h => h) (yieldsIf_load_row (by kernel_rfl) 25 (.tmp 5) rfl X rfl 25 #[.slice a m c] (0, 0) _ (fun w' h => h) Try.underlying25 rfl drdoc_info) hHeld ?_
  (try simp only [Act.put, List.setIfInBounds_toArray, List.set_cons_zero, List.set_cons_succ])
  refine wpAnyH_ready (rs := [3]) (by kernel_rfl) (by simp) ?_
  refine AllReadyH.cons rfl (fun K hK => ?_) AllReadyH.nil
  go_simp
  go_at_call 24
  refine (l71Place_any B g q _ a m c d _ HRu0.out (by omega) ⟨rbs, HXu0.out⟩ (by omega) HS.out).mono ?_
  rintro _ u1 ⟨pb, pc, pa, q', rfl, hpb, hpc, hpa, hr, hq', hf⟩
  have su1 := hf.size
  have HZu1 : Hid (RowAt u1 w.heap.size #[.slice none 0 0] 25) := HZu0.out.fr hf (by omega)
  have HPu1 : Hid (RowAt u1 (w.heap.size + 1) #[.int .i64 0, .int .i64 0, .int .i64 0] 27) := HPu0.out.fr hf (by omega)
  have HXu1 : Hid (DocX u1 w1.heap.size (.slice a m c) rbs d) := HXu0.out.fr hf (by omega)
  have HTu1 : Hid (RowAt u1 X #[.slice a m c] 25) := HTu0.out.fr hf (by omega)
  have HRu1 : Hid (Rd B u1 g q') := hr
  have HBu1 : Hid (Below w.heap.size w u1) := HBu0.out.trans (below_of_frG hf (by omega) (by omega))
  go_wp2_with fail
  refine hK.out _ _ (HTu1.out) (fun hHeld => ?_)
  clear hK K hf hr HZu0 HPu0 HXu0 HTu0 HRu0 HBu0
  (try simp only [Act.put, List.setIfInBounds_toArray, List.set_cons_zero, List.set_cons_succ])
  refine wpAnyH_ready (rs := [4]) (by kernel_rfl) (by simp) ?_
  refine AllReadyH.cons rfl (fun K hK => ?_) AllReadyH.nil
  rw [if_pos (by kernel_rfl)]
  refine wp_store_row 25 (.tmp 2) (.tmp 10) rfl w.heap.size #[.slice a m c] rfl rfl 25 _ HZu1.out drdoc_info rfl (drcells1_one _ _ _) ?_
  refine hK.out _ _ (HTu1.out.fr (fr_set _ _ _) (by omega)) (fun hHeld => ?_)
  clear hK K
  (try simp only [Act.put])
  have fs := fr_set u1 w.heap.size #[.slice a m c]
  have HZu2 : Hid (RowAt (u1.setRow w.heap.size #[.slice a m c]) w.heap.size #[.slice a m c] 25) := HZu1.out.setRow _
  have HPu2 : Hid (RowAt (u1.setRow w.heap.size #[.slice a m c]) (w.heap.size + 1) #[.int .i64 0, .int .i64 0, .int .i64 0] 27) := HPu1.out.fr fs (by omega)
  have HXu2 : Hid (DocX (u1.setRow w.heap.size #[.slice a m c]) w1.heap.size (.slice a m c) rbs d) := HXu1.out.fr fs (by omega)
  have HTu2 : Hid (RowAt (u1.setRow w.heap.size #[.slice a m c]) X #[.slice a m c] 25) := HTu1.out.fr fs (by omega)
  have HRu2 : Hid (Rd B (u1.setRow w.heap.size #[.slice a m c]) g (q')) := rd_row HRu1.out (by omega) (by omega) _
  have HBu2 : Hid (Below w.heap.size w (u1.setRow w.heap.size #[.slice a m c])) := below_row HBu1.out (by omega) _
  have su2 : u1.heap.size ≤ (u1.setRow w.heap.size #[.slice a m c]).heap.size := fs.size
  generalize (u1.setRow w.heap.size #[.slice a m c]) = u2 at HZu2 HPu2 HXu2 HTu2 HRu2 HBu2 su2 hHeld ⊢
  clear fs HZu1 HPu1 HXu1 HTu1 HRu1 HBu1
  refine wpAnyH_ready (rs := [5]) (by kernel_rfl) (by simp) ?_
  refine AllReadyH.cons rfl (fun K hK => ?_) AllReadyH.nil
  rw [if_pos (by kernel_rfl)]
  refine wp_store_row 27 (.tmp 3) (.tmp 13) rfl (w.heap.size + 1) #[.int .i64 pb, .int .i64 pc, .int .i64 pa] rfl rfl 27 _ HPu2.out drpl_info rfl (drpl_ones _ _ _) ?_
  refine hK.out _ _ (HTu2.out.fr (fr_set _ _ _) (by omega)) (fun hHeld => ?_)
  clear hK K
  (try simp only [Act.put])
  have fs := fr_set u2 (w.heap.size + 1) #[.int .i64 pb, .int .i64 pc, .int .i64 pa]
  have HPu3 : Hid (RowAt (u2.setRow (w.heap.size + 1) #[.int .i64 pb, .int .i64 pc, .int .i64 pa]) (w.heap.size + 1) #[.int .i64 pb, .int .i64 pc, .int .i64 pa] 27) := HPu2.out.setRow _
  have HZu3 : Hid (RowAt (u2.setRow (w.heap.size + 1) #[.int .i64 pb, .int .i64 pc, .int .i64 pa]) w.heap.size #[.slice a m c] 25) := HZu2.out.fr fs (by omega)
  have HXu3 : Hid (DocX (u2.setRow (w.heap.size + 1) #[.int .i64 pb, .int .i64 pc, .int .i64 pa]) w1.heap.size (.slice a m c) rbs d) := HXu2.out.fr fs (by omega)
  have HTu3 : Hid (RowAt (u2.setRow (w.heap.size + 1) #[.int .i64 pb, .int .i64 pc, .int .i64 pa]) X #[.slice a m c] 25) := HTu2.out.fr fs (by omega)
  have HRu3 : Hid (Rd B (u2.setRow (w.heap.size + 1) #[.int .i64 pb, .int .i64 pc, .int .i64 pa]) g (q')) := rd_row HRu2.out (by omega) (by omega) _
  have HBu3 : Hid (Below w.heap.size w (u2.setRow (w.heap.size + 1) #[.int .i64 pb, .int .i64 pc, .int .i64 pa])) := below_row HBu2.out (by omega) _
  have su3 : u2.heap.size ≤ (u2.setRow (w.heap.size + 1) #[.int .i64 pb, .int .i64 pc, .int .i64 pa]).heap.size := fs.size
  generalize (u2.setRow (w.heap.size + 1) #[.int .i64 pb, .int .i64 pc, .int .i64 pa]) = u3 at HZu3 HPu3 HXu3 HTu3 HRu3 HBu3 su3 hHeld ⊢
  clear fs HZu2 HPu2 HXu2 HTu2 HRu2 HBu2
  refine wpAnyH_done (by kernel_rfl) ?_ _
  refine NoPanic.normal ?_
  go_wp2_with fail
  exact bodyPost_ret (v := .tuple #[.agg #[.slice a m c], .agg #[.int .i64 pb, .int .i64 pc, .int .i64 pa]]) (results_cell2 (p := 2) (q := 3) (ty := 25) (tz := 27) rfl _ _ _ w.heap.size (w.heap.size + 1) _ _ rfl (run_docP HZu3.out) rfl (run_place HPu3.out)) rfl ⟨⟨a, m, c, d, pb, pc, pa, rfl, HXu3.out.dc, HS.out, by omega, by omega, by omega⟩, HBu3.out⟩
end Go.Proofs.Ytcecmkideoodiaa
namespace Go.Proofs.Ytcecmkideoodiaa
open Go.RowKit

/-- The text of a block, or of a cell of it, if there is such a one. -/
def textIn (x : Bl) (c : Int) : Option (List Sg) :=
  if x.1 = 3 then (if 0 ≤ c ∧ c < (x.2.2.2.2.2.length : Int) then some (x.2.2.2.2.2.getD c.toNat cl0).2.2.2.2 else none) else if c = 0 then some x.2.2.1 else none
/-- The text that a place is in, if there is such a place. -/
def placeT (d : List Bl) (b c a : Int) : Option (List Sg) :=
  if 0 ≤ b ∧ b < (d.length : Int) then (textIn (d.getD b.toNat bl0) c).bind fun t => if 0 ≤ a ∧ a ≤ (t.length : Int) then some t else none else none
/-- As placeT, of a document that is ok. -/
def plT (d : List Bl) (b c a : Int) : Option (List Sg) := if docB d = true then placeT d b c a else none
theorem placeT_nil (b c a : Int) : placeT [] b c a = none := by
  unfold placeT
  rw [if_neg (by simp)]
theorem placeT_out {d : List Bl} {b c a : Int} (h : ¬ (0 ≤ b ∧ b < (d.length : Int))) : placeT d b c a = none := by
  unfold placeT
  rw [if_neg h]
theorem placeT_in {d : List Bl} {b c a : Int} (h : 0 ≤ b ∧ b < (d.length : Int)) : placeT d b c a = (textIn (d.getD b.toNat bl0) c).bind fun t => if 0 ≤ a ∧ a ≤ (t.length : Int) then some t else none := by
  unfold placeT
  rw [if_pos h]
end Go.Proofs.Ytcecmkideoodiaa
namespace Go.Proofs.Ytcecmkideoodiaa
open Go.RowKit

theorem isNoTable_is {R C : Int} {ca : Option Addr} {cn cc : Nat} {l : List Cl} {w : World} {x : Bool} (hx : noneB R C l = x) (h : Tab w ca cn cc l) :
    Calls Try.prog 57 #[.agg #[.int .i64 R, .int .i64 C, .slice ca cn cc]] w fun e w' => e = .returned (.bool x) ∧ Below w.heap.size w w' := by
  have hn := h.1
  have hl : (l = []) ↔ (cn = 0) := by rw [hn]; exact List.length_eq_zero_iff.symm
  have HX : Hid (noneB R C l = x) := hx
  have HL : Hid ((l = []) ↔ (cn = 0)) := hl
  clear h hn hl hx
  go_enter Try.func57, Try.ntmps57
  by_cases h1 : R = 0
  · by_cases h2 : C = 0
    · by_cases h3 : cn = 0
      · have HE : Hid (noneB R C l = true) := by
          show noneB R C l = true
          simp [noneB, h1, h2, HL.out.2 h3]
        have hxe : x = true := HX.out.symm.trans HE.out
        clear HE HX HL
        subst h1 h2 h3
        go_wp2
        all_goals go_ret
        all_goals exact ⟨by rw [hxe]; rfl, (Below.refl _ _).alloc (Nat.le_refl _) _⟩
      · have HE : Hid (noneB R C l = false) := by
          show noneB R C l = false
          simp [noneB, show ¬ l = [] from fun e => h3 (HL.out.1 e)]
        have hxe : x = false := HX.out.symm.trans HE.out
        clear HE HX HL
        subst h1 h2
        go_wp2
        all_goals go_ret
        all_goals exact ⟨by rw [hxe]; simp [h3], (Below.refl _ _).alloc (Nat.le_refl _) _⟩
    · subst h1
      go_wp2
      all_goals go_ret
      all_goals exact ⟨by rw [← HX.out]; simp [noneB, h2], (Below.refl _ _).alloc (Nat.le_refl _) _⟩
  · go_wp2
    all_goals go_ret
    all_goals exact ⟨by rw [← HX.out]; simp [noneB, h1], (Below.refl _ _).alloc (Nat.le_refl _) _⟩
end Go.Proofs.Ytcecmkideoodiaa
namespace Go.Proofs.Ytcecmkideoodiaa
open Go.RowKit

/-- A part as a value, by a block's kind. -/
def partV (k v : Int) (ta : Option Addr) (tn tc : Nat) (R C : Int) (ca : Option Addr) (cn cc : Nat) : Value :=
  if k = 1 then .iface 112 (.agg #[.slice ta tn tc]) else if k = 2 then .iface 115 (.agg #[.int .i64 v, .slice ta tn tc]) else if k = 3 then .iface 117 (.agg #[.int .i64 R, .int .i64 C, .slice ca cn cc]) else .nilIface
/-- Whether a block has nothing that is not of its kind. -/
def partB (k v : Int) (t : List Sg) (R C : Int) (l : List Cl) : Bool :=
  if k = 1 then decide (v = 0) && noneB R C l else if k = 2 then noneB R C l else if k = 3 then decide (v = 0) && decide (t = []) else false
set_option maxRecDepth 100000 in
set_option maxHeartbeats 4000000 in
theorem partOf_is {k v : Int} {ta : Option Addr} {tn tc : Nat} {R C : Int} {ca : Option Addr} {cn cc : Nat} {t : List Sg} {l : List Cl} {w : World} (ht : Txt w ta tn tc t) (hc : Tab w ca cn cc l) :
    Calls Try.prog 41 #[.agg #[.int .i64 k, .int .i64 v, .slice ta tn tc, .int .i64 R, .int .i64 C, .slice ca cn cc]] w fun e w' => e = .returned (.tuple #[partV k v ta tn tc R C ca cn cc, .bool (partB k v t R C l)]) ∧ Below w.heap.size w w' := by
  obtain ⟨nb, HNB⟩ : ∃ b, Hid (noneB R C l = b) := ⟨_, rfl⟩
  have HTN : Hid ((t = []) ↔ (tn = 0)) := by
    have hn := ht.1
    show (t = []) ↔ (tn = 0)
    rw [hn]
    exact List.length_eq_zero_iff.symm
  go_enter Try.func41, Try.ntmps41
  go_upto_region 1 with fail
  have B0 : Below w.heap.size w (w.alloc (.cells #[.int .i64 k, .int .i64 v, .slice ta tn tc, .int .i64 R, .int .i64 C, .slice ca cn cc] 39)) := (Below.refl _ _).alloc (Nat.le_refl _) _
  have G0 : RowAt (w.alloc (.cells #[.int .i64 k, .int .i64 v, .slice ta tn tc, .int .i64 R, .int .i64 C, .slice ca cn cc] 39)) w.heap.size #[.int .i64 k, .int .i64 v, .slice ta tn tc, .int .i64 R, .int .i64 C, .slice ca cn cc] 39 := rowAt_new _ _ _
  generalize (w.alloc (.cells #[.int .i64 k, .int .i64 v, .slice ta tn tc, .int .i64 R, .int .i64 C, .slice ca cn cc] 39)) = v0 at B0 G0 ⊢
  have HC0 : Hid (Tab v0 ca cn cc l) := hc.below B0
  have HB0 : Hid (Below w.heap.size w v0) := B0
  have HG0 : Hid (RowAt v0 w.heap.size #[.int .i64 k, .int .i64 v, .slice ta tn tc, .int .i64 R, .int .i64 C, .slice ca cn cc] 39) := G0
  have q0 : v0.cell? ⟨w.heap.size, 0, none⟩ = some (.int .i64 k) := G0.cell 0
  clear B0 G0 ht hc
  by_cases h1 : k = 1
  · subst h1
    go_upto_region 3 with fail
    clear q0
    by_cases hv : v = 0
    · subst hv
      cases nb
      · refine wp_region_noPanic ?_
        refine wp_region_held_drew (S := fun w' => RowAt w' w.heap.size #[.int .i64 1, .int .i64 0, .slice ta tn tc, .int .i64 R, .int .i64 C, .slice ca cn cc] 39) (by kernel_rfl) HG0.out (fun hHeld => ?_)
        refine take_at 0 8 (.pointer (some ⟨w.heap.size, 2, none⟩)) rfl rfl (by kernel_rfl) (by kernel_rfl) (by kernel_rfl) (fun _ _ _ h => h) (Or.inl ⟨by kernel_rfl, fun w' hS' => by go_simp⟩) hHeld ?_
        (try simp only [Act.put, List.setIfInBounds_toArray, List.set_cons_zero, List.set_cons_succ])
        refine take_at 1 9 (.slice ta tn tc) rfl rfl (by kernel_rfl) (by kernel_rfl) (by kernel_rfl) (fun _ _ _ h => h) (Or.inl ⟨by kernel_rfl, fun w' hS' => by have hc := RowAt.cell hS' 2; go_simp⟩) hHeld ?_
        (try simp only [Act.put, List.setIfInBounds_toArray, List.set_cons_zero, List.set_cons_succ])
        refine take_at 2 10 (.agg #[.slice ta tn tc]) rfl rfl (by kernel_rfl) (by kernel_rfl) (by kernel_rfl) (fun _ _ _ h => h) (Or.inl ⟨by kernel_rfl, fun w' hS' => by go_simp⟩) hHeld ?_
        (try simp only [Act.put, List.setIfInBounds_toArray, List.set_cons_zero, List.set_cons_succ])
        refine take_at 3 11 (.iface 112 (.agg #[.slice ta tn tc])) rfl rfl (by kernel_rfl) (by kernel_rfl) (by kernel_rfl) (fun _ _ _ h => h) (Or.inl ⟨by kernel_rfl, fun w' hS' => by go_simp⟩) hHeld ?_
        (try simp only [Act.put, List.setIfInBounds_toArray, List.set_cons_zero, List.set_cons_succ])
        refine take_at 4 12 (.pointer (some ⟨w.heap.size, 1, none⟩)) rfl rfl (by kernel_rfl) (by kernel_rfl) (by kernel_rfl) (fun _ _ _ h => h) (Or.inl ⟨by kernel_rfl, fun w' hS' => by go_simp⟩) hHeld ?_
        (try simp only [Act.put, List.setIfInBounds_toArray, List.set_cons_zero, List.set_cons_succ])
        refine take_at 5 13 (.int .i64 0) rfl rfl (by kernel_rfl) (by kernel_rfl) (by kernel_rfl) (fun _ _ _ h => h) (Or.inl ⟨by kernel_rfl, fun w' hS' => by have hc := RowAt.cell hS' 1; go_simp⟩) hHeld ?_
        (try simp only [Act.put, List.setIfInBounds_toArray, List.set_cons_zero, List.set_cons_succ])
        refine take_at 6 14 (.bool true) rfl rfl (by kernel_rfl) (by kernel_rfl) (by kernel_rfl) (fun _ _ _ h => h) (Or.inl ⟨by kernel_rfl, fun w' hS' => by go_simp⟩) hHeld ?_
        (try simp only [Act.put, List.setIfInBounds_toArray, List.set_cons_zero, List.set_cons_succ])
        refine take_at 7 15 (.bool true) rfl rfl (by kernel_rfl) (by kernel_rfl) (by kernel_rfl) (fun _ _ _ h => h) (Or.inl ⟨by kernel_rfl, fun w' hS' => by go_simp⟩) hHeld ?_
        (try simp only [Act.put, List.setIfInBounds_toArray, List.set_cons_zero, List.set_cons_succ])
        refine take_at 8 16 (.pointer (some ⟨w.heap.size, 3, none⟩)) rfl rfl (by kernel_rfl) (by kernel_rfl) (by kernel_rfl) (fun _ _ _ h => h) (Or.inl ⟨by kernel_rfl, fun w' hS' => by go_simp⟩) hHeld ?_
        (try simp only [Act.put, List.setIfInBounds_toArray, List.set_cons_zero, List.set_cons_succ])
        refine take_at 9 17 (.agg #[.int .i64 R, .int .i64 C, .slice ca cn cc]) rfl rfl (by kernel_rfl) (by kernel_rfl) (by kernel_rfl) (fun _ _ _ h => h) (Or.inl ⟨by kernel_rfl, fun w' hS' => by have h3 := RowAt.cell hS' 3; have h4 := RowAt.cell hS' 4; have h5 := RowAt.cell hS' 5; go_simp⟩) hHeld ?_
        (try simp only [Act.put, List.setIfInBounds_toArray, List.set_cons_zero, List.set_cons_succ])
        have HC1 : Hid (Tab v0.drew ca cn cc l) := HC0.out.below ((Below.refl _ _).drew)
        have HB1 : Hid (Below w.heap.size w v0.drew) := HB0.out.drew
        generalize v0.drew = u0 at HC1 HB1 hHeld ⊢
        refine wpAnyH_ready (rs := [10]) (by kernel_rfl) (by simp) ?_
        refine AllReadyH.cons rfl (fun K0 hK => ?_) AllReadyH.nil
        go_simp
        go_at_call 57
        refine (isNoTable_is HNB.out HC1.out).mono ?_
        rintro e u1 ⟨rfl, hb⟩
        have HB2 : Hid (Below w.heap.size w u1) := HB1.out.trans (hb.mono HB1.out.size)
        go_wp2_with fail
        refine hK.out _ _ (hHeld.below hb hHeld.lt) (fun hHeld => ?_)
        clear hK K0
        (try simp only [Act.put, List.setIfInBounds_toArray, List.set_cons_zero, List.set_cons_succ])
        refine take_at 11 19 (.bool false) rfl rfl (by kernel_rfl) (by kernel_rfl) (by kernel_rfl) (fun _ _ _ h => h) (Or.inl ⟨by kernel_rfl, fun w' hS' => by go_simp⟩) hHeld ?_
        (try simp only [Act.put, List.setIfInBounds_toArray, List.set_cons_zero, List.set_cons_succ])
        refine take_at 12 2 (.iface 112 (.agg #[.slice ta tn tc])) rfl rfl (by kernel_rfl) (by kernel_rfl) (by kernel_rfl) (fun _ _ _ h => h) (Or.inl ⟨by kernel_rfl, fun w' hS' => by go_simp⟩) hHeld ?_
        (try simp only [Act.put, List.setIfInBounds_toArray, List.set_cons_zero, List.set_cons_succ])
        refine take_at 13 3 (.bool false) rfl rfl (by kernel_rfl) (by kernel_rfl) (by kernel_rfl) (fun _ _ _ h => h) (Or.inl ⟨by kernel_rfl, fun w' hS' => by go_simp⟩) hHeld ?_
        (try simp only [Act.put, List.setIfInBounds_toArray, List.set_cons_zero, List.set_cons_succ])
        refine wpAnyH_done (by kernel_rfl) ?_ _
        refine NoPanic.normal ?_
        clear hHeld
        go_wp2_with fail
        go_ret2
        exact ⟨by simp [partV, partB, HNB.out], HB2.out⟩
      · refine wp_region_noPanic ?_
        refine wp_region_held_drew (S := fun w' => RowAt w' w.heap.size #[.int .i64 1, .int .i64 0, .slice ta tn tc, .int .i64 R, .int .i64 C, .slice ca cn cc] 39) (by kernel_rfl) HG0.out (fun hHeld => ?_)
        refine take_at 0 8 (.pointer (some ⟨w.heap.size, 2, none⟩)) rfl rfl (by kernel_rfl) (by kernel_rfl) (by kernel_rfl) (fun _ _ _ h => h) (Or.inl ⟨by kernel_rfl, fun w' hS' => by go_simp⟩) hHeld ?_
        (try simp only [Act.put, List.setIfInBounds_toArray, List.set_cons_zero, List.set_cons_succ])
        refine take_at 1 9 (.slice ta tn tc) rfl rfl (by kernel_rfl) (by kernel_rfl) (by kernel_rfl) (fun _ _ _ h => h) (Or.inl ⟨by kernel_rfl, fun w' hS' => by have hc := RowAt.cell hS' 2; go_simp⟩) hHeld ?_
        (try simp only [Act.put, List.setIfInBounds_toArray, List.set_cons_zero, List.set_cons_succ])
        refine take_at 2 10 (.agg #[.slice ta tn tc]) rfl rfl (by kernel_rfl) (by kernel_rfl) (by kernel_rfl) (fun _ _ _ h => h) (Or.inl ⟨by kernel_rfl, fun w' hS' => by go_simp⟩) hHeld ?_
        (try simp only [Act.put, List.setIfInBounds_toArray, List.set_cons_zero, List.set_cons_succ])
        refine take_at 3 11 (.iface 112 (.agg #[.slice ta tn tc])) rfl rfl (by kernel_rfl) (by kernel_rfl) (by kernel_rfl) (fun _ _ _ h => h) (Or.inl ⟨by kernel_rfl, fun w' hS' => by go_simp⟩) hHeld ?_
        (try simp only [Act.put, List.setIfInBounds_toArray, List.set_cons_zero, List.set_cons_succ])
        refine take_at 4 12 (.pointer (some ⟨w.heap.size, 1, none⟩)) rfl rfl (by kernel_rfl) (by kernel_rfl) (by kernel_rfl) (fun _ _ _ h => h) (Or.inl ⟨by kernel_rfl, fun w' hS' => by go_simp⟩) hHeld ?_
        (try simp only [Act.put, List.setIfInBounds_toArray, List.set_cons_zero, List.set_cons_succ])
        refine take_at 5 13 (.int .i64 0) rfl rfl (by kernel_rfl) (by kernel_rfl) (by kernel_rfl) (fun _ _ _ h => h) (Or.inl ⟨by kernel_rfl, fun w' hS' => by have hc := RowAt.cell hS' 1; go_simp⟩) hHeld ?_
        (try simp only [Act.put, List.setIfInBounds_toArray, List.set_cons_zero, List.set_cons_succ])
        refine take_at 6 14 (.bool true) rfl rfl (by kernel_rfl) (by kernel_rfl) (by kernel_rfl) (fun _ _ _ h => h) (Or.inl ⟨by kernel_rfl, fun w' hS' => by go_simp⟩) hHeld ?_
        (try simp only [Act.put, List.setIfInBounds_toArray, List.set_cons_zero, List.set_cons_succ])
        refine take_at 7 15 (.bool true) rfl rfl (by kernel_rfl) (by kernel_rfl) (by kernel_rfl) (fun _ _ _ h => h) (Or.inl ⟨by kernel_rfl, fun w' hS' => by go_simp⟩) hHeld ?_
        (try simp only [Act.put, List.setIfInBounds_toArray, List.set_cons_zero, List.set_cons_succ])
        refine take_at 8 16 (.pointer (some ⟨w.heap.size, 3, none⟩)) rfl rfl (by kernel_rfl) (by kernel_rfl) (by kernel_rfl) (fun _ _ _ h => h) (Or.inl ⟨by kernel_rfl, fun w' hS' => by go_simp⟩) hHeld ?_
        (try simp only [Act.put, List.setIfInBounds_toArray, List.set_cons_zero, List.set_cons_succ])
        refine take_at 9 17 (.agg #[.int .i64 R, .int .i64 C, .slice ca cn cc]) rfl rfl (by kernel_rfl) (by kernel_rfl) (by kernel_rfl) (fun _ _ _ h => h) (Or.inl ⟨by kernel_rfl, fun w' hS' => by have h3 := RowAt.cell hS' 3; have h4 := RowAt.cell hS' 4; have h5 := RowAt.cell hS' 5; go_simp⟩) hHeld ?_
        (try simp only [Act.put, List.setIfInBounds_toArray, List.set_cons_zero, List.set_cons_succ])
        have HC1 : Hid (Tab v0.drew ca cn cc l) := HC0.out.below ((Below.refl _ _).drew)
        have HB1 : Hid (Below w.heap.size w v0.drew) := HB0.out.drew
        generalize v0.drew = u0 at HC1 HB1 hHeld ⊢
        refine wpAnyH_ready (rs := [10]) (by kernel_rfl) (by simp) ?_
        refine AllReadyH.cons rfl (fun K0 hK => ?_) AllReadyH.nil
        go_simp
        go_at_call 57
        refine (isNoTable_is HNB.out HC1.out).mono ?_
        rintro e u1 ⟨rfl, hb⟩
        have HB2 : Hid (Below w.heap.size w u1) := HB1.out.trans (hb.mono HB1.out.size)
        go_wp2_with fail
        refine hK.out _ _ (hHeld.below hb hHeld.lt) (fun hHeld => ?_)
        clear hK K0
        (try simp only [Act.put, List.setIfInBounds_toArray, List.set_cons_zero, List.set_cons_succ])
        refine take_at 11 19 (.bool true) rfl rfl (by kernel_rfl) (by kernel_rfl) (by kernel_rfl) (fun _ _ _ h => h) (Or.inl ⟨by kernel_rfl, fun w' hS' => by go_simp⟩) hHeld ?_
        (try simp only [Act.put, List.setIfInBounds_toArray, List.set_cons_zero, List.set_cons_succ])
        refine take_at 12 2 (.iface 112 (.agg #[.slice ta tn tc])) rfl rfl (by kernel_rfl) (by kernel_rfl) (by kernel_rfl) (fun _ _ _ h => h) (Or.inl ⟨by kernel_rfl, fun w' hS' => by go_simp⟩) hHeld ?_
        (try simp only [Act.put, List.setIfInBounds_toArray, List.set_cons_zero, List.set_cons_succ])
        refine take_at 13 3 (.bool true) rfl rfl (by kernel_rfl) (by kernel_rfl) (by kernel_rfl) (fun _ _ _ h => h) (Or.inl ⟨by kernel_rfl, fun w' hS' => by go_simp⟩) hHeld ?_
        (try simp only [Act.put, List.setIfInBounds_toArray, List.set_cons_zero, List.set_cons_succ])
        refine wpAnyH_done (by kernel_rfl) ?_ _
        refine NoPanic.normal ?_
        clear hHeld
        go_wp2_with fail
        go_ret2
        exact ⟨by simp [partV, partB, HNB.out], HB2.out⟩
    · refine wp_region_noPanic ?_
      refine wp_region_held_drew (S := fun w' => RowAt w' w.heap.size #[.int .i64 1, .int .i64 v, .slice ta tn tc, .int .i64 R, .int .i64 C, .slice ca cn cc] 39) (by kernel_rfl) HG0.out (fun hHeld => ?_)
      refine take_at 0 8 (.pointer (some ⟨w.heap.size, 2, none⟩)) rfl rfl (by kernel_rfl) (by kernel_rfl) (by kernel_rfl) (fun _ _ _ h => h) (Or.inl ⟨by kernel_rfl, fun w' hS' => by go_simp⟩) hHeld ?_
      (try simp only [Act.put, List.setIfInBounds_toArray, List.set_cons_zero, List.set_cons_succ])
      refine take_at 1 9 (.slice ta tn tc) rfl rfl (by kernel_rfl) (by kernel_rfl) (by kernel_rfl) (fun _ _ _ h => h) (Or.inl ⟨by kernel_rfl, fun w' hS' => by have hc := RowAt.cell hS' 2; go_simp⟩) hHeld ?_
      (try simp only [Act.put, List.setIfInBounds_toArray, List.set_cons_zero, List.set_cons_succ])
      refine take_at 2 10 (.agg #[.slice ta tn tc]) rfl rfl (by kernel_rfl) (by kernel_rfl) (by kernel_rfl) (fun _ _ _ h => h) (Or.inl ⟨by kernel_rfl, fun w' hS' => by go_simp⟩) hHeld ?_
      (try simp only [Act.put, List.setIfInBounds_toArray, List.set_cons_zero, List.set_cons_succ])
      refine take_at 3 11 (.iface 112 (.agg #[.slice ta tn tc])) rfl rfl (by kernel_rfl) (by kernel_rfl) (by kernel_rfl) (fun _ _ _ h => h) (Or.inl ⟨by kernel_rfl, fun w' hS' => by go_simp⟩) hHeld ?_
      (try simp only [Act.put, List.setIfInBounds_toArray, List.set_cons_zero, List.set_cons_succ])
      refine take_at 4 12 (.pointer (some ⟨w.heap.size, 1, none⟩)) rfl rfl (by kernel_rfl) (by kernel_rfl) (by kernel_rfl) (fun _ _ _ h => h) (Or.inl ⟨by kernel_rfl, fun w' hS' => by go_simp⟩) hHeld ?_
      (try simp only [Act.put, List.setIfInBounds_toArray, List.set_cons_zero, List.set_cons_succ])
      refine take_at 5 13 (.int .i64 v) rfl rfl (by kernel_rfl) (by kernel_rfl) (by kernel_rfl) (fun _ _ _ h => h) (Or.inl ⟨by kernel_rfl, fun w' hS' => by have hc := RowAt.cell hS' 1; go_simp⟩) hHeld ?_
      (try simp only [Act.put, List.setIfInBounds_toArray, List.set_cons_zero, List.set_cons_succ])
      refine take_at 6 14 (.bool false) rfl rfl (by kernel_rfl) (by kernel_rfl) (by kernel_rfl) (fun _ _ _ h => h) (Or.inl ⟨by kernel_rfl, fun w' hS' => by go_simp <;> omega⟩) hHeld ?_
      (try simp only [Act.put, List.setIfInBounds_toArray, List.set_cons_zero, List.set_cons_succ])
      refine take_at 7 15 (.bool false) rfl rfl (by kernel_rfl) (by kernel_rfl) (by kernel_rfl) (fun _ _ _ h => h) (Or.inl ⟨by kernel_rfl, fun w' hS' => by go_simp⟩) hHeld ?_
      (try simp only [Act.put, List.setIfInBounds_toArray, List.set_cons_zero, List.set_cons_succ])
      refine take_at 8 16 (undef) rfl rfl (by kernel_rfl) (by kernel_rfl) (by kernel_rfl) (fun _ _ _ h => h) (Or.inr ⟨by kernel_rfl, rfl⟩) hHeld ?_
      (try simp only [Act.put, List.setIfInBounds_toArray, List.set_cons_zero, List.set_cons_succ])
      refine take_at 9 17 (undef) rfl rfl (by kernel_rfl) (by kernel_rfl) (by kernel_rfl) (fun _ _ _ h => h) (Or.inr ⟨by kernel_rfl, rfl⟩) hHeld ?_
      (try simp only [Act.put, List.setIfInBounds_toArray, List.set_cons_zero, List.set_cons_succ])
      refine take_at 10 18 (undef) rfl rfl (by kernel_rfl) (by kernel_rfl) (by kernel_rfl) (fun _ _ _ h => h) (Or.inr ⟨by kernel_rfl, rfl⟩) hHeld ?_
      (try simp only [Act.put, List.setIfInBounds_toArray, List.set_cons_zero, List.set_cons_succ])
      refine take_at 11 19 (.bool false) rfl rfl (by kernel_rfl) (by kernel_rfl) (by kernel_rfl) (fun _ _ _ h => h) (Or.inl ⟨by kernel_rfl, fun w' hS' => by go_simp⟩) hHeld ?_
      (try simp only [Act.put, List.setIfInBounds_toArray, List.set_cons_zero, List.set_cons_succ])
      refine take_at 12 2 (.iface 112 (.agg #[.slice ta tn tc])) rfl rfl (by kernel_rfl) (by kernel_rfl) (by kernel_rfl) (fun _ _ _ h => h) (Or.inl ⟨by kernel_rfl, fun w' hS' => by go_simp⟩) hHeld ?_
      (try simp only [Act.put, List.setIfInBounds_toArray, List.set_cons_zero, List.set_cons_succ])
      refine take_at 13 3 (.bool false) rfl rfl (by kernel_rfl) (by kernel_rfl) (by kernel_rfl) (fun _ _ _ h => h) (Or.inl ⟨by kernel_rfl, fun w' hS' => by go_simp⟩) hHeld ?_
      (try simp only [Act.put, List.setIfInBounds_toArray, List.set_cons_zero, List.set_cons_succ])
      refine wpAnyH_done (by kernel_rfl) ?_ _
      refine NoPanic.normal ?_
      clear hHeld
      go_wp2_with fail
      go_ret2
      exact ⟨by simp [partV, partB, hv], HB0.out.drew⟩
  · by_cases h2 : k = 2
    · subst h2
      go_upto_region 5 with fail
      clear q0
      cases nb
      · refine wp_region_noPanic ?_
        refine wp_region_held_drew (S := fun w' => RowAt w' w.heap.size #[.int .i64 2, .int .i64 v, .slice ta tn tc, .int .i64 R, .int .i64 C, .slice ca cn cc] 39) (by kernel_rfl) HG0.out (fun hHeld => ?_)
        refine take_at 0 22 (.pointer (some ⟨w.heap.size, 1, none⟩)) rfl rfl (by kernel_rfl) (by kernel_rfl) (by kernel_rfl) (fun _ _ _ h => h) (Or.inl ⟨by kernel_rfl, fun w' hS' => by go_simp⟩) hHeld ?_
        (try simp only [Act.put, List.setIfInBounds_toArray, List.set_cons_zero, List.set_cons_succ])
        refine take_at 1 23 (.int .i64 v) rfl rfl (by kernel_rfl) (by kernel_rfl) (by kernel_rfl) (fun _ _ _ h => h) (Or.inl ⟨by kernel_rfl, fun w' hS' => by have hc := RowAt.cell hS' 1; go_simp⟩) hHeld ?_
        (try simp only [Act.put, List.setIfInBounds_toArray, List.set_cons_zero, List.set_cons_succ])
        refine take_at 2 24 (.pointer (some ⟨w.heap.size, 2, none⟩)) rfl rfl (by kernel_rfl) (by kernel_rfl) (by kernel_rfl) (fun _ _ _ h => h) (Or.inl ⟨by kernel_rfl, fun w' hS' => by go_simp⟩) hHeld ?_
        (try simp only [Act.put, List.setIfInBounds_toArray, List.set_cons_zero, List.set_cons_succ])
        refine take_at 3 25 (.slice ta tn tc) rfl rfl (by kernel_rfl) (by kernel_rfl) (by kernel_rfl) (fun _ _ _ h => h) (Or.inl ⟨by kernel_rfl, fun w' hS' => by have hc := RowAt.cell hS' 2; go_simp⟩) hHeld ?_
        (try simp only [Act.put, List.setIfInBounds_toArray, List.set_cons_zero, List.set_cons_succ])
        refine take_at 4 26 (.agg #[.int .i64 v, .slice ta tn tc]) rfl rfl (by kernel_rfl) (by kernel_rfl) (by kernel_rfl) (fun _ _ _ h => h) (Or.inl ⟨by kernel_rfl, fun w' hS' => by go_simp⟩) hHeld ?_
        (try simp only [Act.put, List.setIfInBounds_toArray, List.set_cons_zero, List.set_cons_succ])
        refine take_at 5 27 (.iface 115 (.agg #[.int .i64 v, .slice ta tn tc])) rfl rfl (by kernel_rfl) (by kernel_rfl) (by kernel_rfl) (fun _ _ _ h => h) (Or.inl ⟨by kernel_rfl, fun w' hS' => by go_simp⟩) hHeld ?_
        (try simp only [Act.put, List.setIfInBounds_toArray, List.set_cons_zero, List.set_cons_succ])
        refine take_at 6 28 (.pointer (some ⟨w.heap.size, 3, none⟩)) rfl rfl (by kernel_rfl) (by kernel_rfl) (by kernel_rfl) (fun _ _ _ h => h) (Or.inl ⟨by kernel_rfl, fun w' hS' => by go_simp⟩) hHeld ?_
        (try simp only [Act.put, List.setIfInBounds_toArray, List.set_cons_zero, List.set_cons_succ])
        refine take_at 7 29 (.agg #[.int .i64 R, .int .i64 C, .slice ca cn cc]) rfl rfl (by kernel_rfl) (by kernel_rfl) (by kernel_rfl) (fun _ _ _ h => h) (Or.inl ⟨by kernel_rfl, fun w' hS' => by have h3 := RowAt.cell hS' 3; have h4 := RowAt.cell hS' 4; have h5 := RowAt.cell hS' 5; go_simp⟩) hHeld ?_
        (try simp only [Act.put, List.setIfInBounds_toArray, List.set_cons_zero, List.set_cons_succ])
        have HC1 : Hid (Tab v0.drew ca cn cc l) := HC0.out.below ((Below.refl _ _).drew)
        have HB1 : Hid (Below w.heap.size w v0.drew) := HB0.out.drew
        generalize v0.drew = u0 at HC1 HB1 hHeld ⊢
        refine wpAnyH_ready (rs := [8]) (by kernel_rfl) (by simp) ?_
        refine AllReadyH.cons rfl (fun K0 hK => ?_) AllReadyH.nil
        go_simp
        go_at_call 57
        refine (isNoTable_is HNB.out HC1.out).mono ?_
        rintro e u1 ⟨rfl, hb⟩
        have HB2 : Hid (Below w.heap.size w u1) := HB1.out.trans (hb.mono HB1.out.size)
        go_wp2_with fail
        refine hK.out _ _ (hHeld.below hb hHeld.lt) (fun hHeld => ?_)
        clear hK K0
        (try simp only [Act.put, List.setIfInBounds_toArray, List.set_cons_zero, List.set_cons_succ])
        refine take_at 9 2 (.iface 115 (.agg #[.int .i64 v, .slice ta tn tc])) rfl rfl (by kernel_rfl) (by kernel_rfl) (by kernel_rfl) (fun _ _ _ h => h) (Or.inl ⟨by kernel_rfl, fun w' hS' => by go_simp⟩) hHeld ?_
        (try simp only [Act.put, List.setIfInBounds_toArray, List.set_cons_zero, List.set_cons_succ])
        refine take_at 10 3 (.bool false) rfl rfl (by kernel_rfl) (by kernel_rfl) (by kernel_rfl) (fun _ _ _ h => h) (Or.inl ⟨by kernel_rfl, fun w' hS' => by go_simp⟩) hHeld ?_
        (try simp only [Act.put, List.setIfInBounds_toArray, List.set_cons_zero, List.set_cons_succ])
        refine wpAnyH_done (by kernel_rfl) ?_ _
        refine NoPanic.normal ?_
        clear hHeld
        go_wp2_with fail
        go_ret2
        exact ⟨by simp [partV, partB, HNB.out], HB2.out⟩
      · refine wp_region_noPanic ?_
        refine wp_region_held_drew (S := fun w' => RowAt w' w.heap.size #[.int .i64 2, .int .i64 v, .slice ta tn tc, .int .i64 R, .int .i64 C, .slice ca cn cc] 39) (by kernel_rfl) HG0.out (fun hHeld => ?_)
        refine take_at 0 22 (.pointer (some ⟨w.heap.size, 1, none⟩)) rfl rfl (by kernel_rfl) (by kernel_rfl) (by kernel_rfl) (fun _ _ _ h => h) (Or.inl ⟨by kernel_rfl, fun w' hS' => by go_simp⟩) hHeld ?_
        (try simp only [Act.put, List.setIfInBounds_toArray, List.set_cons_zero, List.set_cons_succ])
        refine take_at 1 23 (.int .i64 v) rfl rfl (by kernel_rfl) (by kernel_rfl) (by kernel_rfl) (fun _ _ _ h => h) (Or.inl ⟨by kernel_rfl, fun w' hS' => by have hc := RowAt.cell hS' 1; go_simp⟩) hHeld ?_
        (try simp only [Act.put, List.setIfInBounds_toArray, List.set_cons_zero, List.set_cons_succ])
        refine take_at 2 24 (.pointer (some ⟨w.heap.size, 2, none⟩)) rfl rfl (by kernel_rfl) (by kernel_rfl) (by kernel_rfl) (fun _ _ _ h => h) (Or.inl ⟨by kernel_rfl, fun w' hS' => by go_simp⟩) hHeld ?_
        (try simp only [Act.put, List.setIfInBounds_toArray, List.set_cons_zero, List.set_cons_succ])
        refine take_at 3 25 (.slice ta tn tc) rfl rfl (by kernel_rfl) (by kernel_rfl) (by kernel_rfl) (fun _ _ _ h => h) (Or.inl ⟨by kernel_rfl, fun w' hS' => by have hc := RowAt.cell hS' 2; go_simp⟩) hHeld ?_
        (try simp only [Act.put, List.setIfInBounds_toArray, List.set_cons_zero, List.set_cons_succ])
        refine take_at 4 26 (.agg #[.int .i64 v, .slice ta tn tc]) rfl rfl (by kernel_rfl) (by kernel_rfl) (by kernel_rfl) (fun _ _ _ h => h) (Or.inl ⟨by kernel_rfl, fun w' hS' => by go_simp⟩) hHeld ?_
        (try simp only [Act.put, List.setIfInBounds_toArray, List.set_cons_zero, List.set_cons_succ])
        refine take_at 5 27 (.iface 115 (.agg #[.int .i64 v, .slice ta tn tc])) rfl rfl (by kernel_rfl) (by kernel_rfl) (by kernel_rfl) (fun _ _ _ h => h) (Or.inl ⟨by kernel_rfl, fun w' hS' => by go_simp⟩) hHeld ?_
        (try simp only [Act.put, List.setIfInBounds_toArray, List.set_cons_zero, List.set_cons_succ])
        refine take_at 6 28 (.pointer (some ⟨w.heap.size, 3, none⟩)) rfl rfl (by kernel_rfl) (by kernel_rfl) (by kernel_rfl) (fun _ _ _ h => h) (Or.inl ⟨by kernel_rfl, fun w' hS' => by go_simp⟩) hHeld ?_
        (try simp only [Act.put, List.setIfInBounds_toArray, List.set_cons_zero, List.set_cons_succ])
        refine take_at 7 29 (.agg #[.int .i64 R, .int .i64 C, .slice ca cn cc]) rfl rfl (by kernel_rfl) (by kernel_rfl) (by kernel_rfl) (fun _ _ _ h => h) (Or.inl ⟨by kernel_rfl, fun w' hS' => by have h3 := RowAt.cell hS' 3; have h4 := RowAt.cell hS' 4; have h5 := RowAt.cell hS' 5; go_simp⟩) hHeld ?_
        (try simp only [Act.put, List.setIfInBounds_toArray, List.set_cons_zero, List.set_cons_succ])
        have HC1 : Hid (Tab v0.drew ca cn cc l) := HC0.out.below ((Below.refl _ _).drew)
        have HB1 : Hid (Below w.heap.size w v0.drew) := HB0.out.drew
        generalize v0.drew = u0 at HC1 HB1 hHeld ⊢
        refine wpAnyH_ready (rs := [8]) (by kernel_rfl) (by simp) ?_
        refine AllReadyH.cons rfl (fun K0 hK => ?_) AllReadyH.nil
        go_simp
        go_at_call 57
        refine (isNoTable_is HNB.out HC1.out).mono ?_
        rintro e u1 ⟨rfl, hb⟩
        have HB2 : Hid (Below w.heap.size w u1) := HB1.out.trans (hb.mono HB1.out.size)
        go_wp2_with fail
        refine hK.out _ _ (hHeld.below hb hHeld.lt) (fun hHeld => ?_)
        clear hK K0
        (try simp only [Act.put, List.setIfInBounds_toArray, List.set_cons_zero, List.set_cons_succ])
        refine take_at 9 2 (.iface 115 (.agg #[.int .i64 v, .slice ta tn tc])) rfl rfl (by kernel_rfl) (by kernel_rfl) (by kernel_rfl) (fun _ _ _ h => h) (Or.inl ⟨by kernel_rfl, fun w' hS' => by go_simp⟩) hHeld ?_
        (try simp only [Act.put, List.setIfInBounds_toArray, List.set_cons_zero, List.set_cons_succ])
        refine take_at 10 3 (.bool true) rfl rfl (by kernel_rfl) (by kernel_rfl) (by kernel_rfl) (fun _ _ _ h => h) (Or.inl ⟨by kernel_rfl, fun w' hS' => by go_simp⟩) hHeld ?_
        (try simp only [Act.put, List.setIfInBounds_toArray, List.set_cons_zero, List.set_cons_succ])
        refine wpAnyH_done (by kernel_rfl) ?_ _
        refine NoPanic.normal ?_
        clear hHeld
        go_wp2_with fail
        go_ret2
        exact ⟨by simp [partV, partB, HNB.out], HB2.out⟩
    · by_cases h3 : k = 3
      · subst h3
        go_upto_region 7 with fail
        clear q0
        by_cases hv : v = 0
        · subst hv
          by_cases htn : tn = 0
          · have hte := HTN.out.2 htn
            refine wp_region_noPanic ?_
            refine wp_region_held_drew (S := fun w' => RowAt w' w.heap.size #[.int .i64 3, .int .i64 0, .slice ta tn tc, .int .i64 R, .int .i64 C, .slice ca cn cc] 39) (by kernel_rfl) HG0.out (fun hHeld => ?_)
            refine take_at 0 33 (.pointer (some ⟨w.heap.size, 3, none⟩)) rfl rfl (by kernel_rfl) (by kernel_rfl) (by kernel_rfl) (fun _ _ _ h => h) (Or.inl ⟨by kernel_rfl, fun w' hS' => by go_simp⟩) hHeld ?_
            (try simp only [Act.put, List.setIfInBounds_toArray, List.set_cons_zero, List.set_cons_succ])
            refine take_at 1 34 (.agg #[.int .i64 R, .int .i64 C, .slice ca cn cc]) rfl rfl (by kernel_rfl) (by kernel_rfl) (by kernel_rfl) (fun _ _ _ h => h) (Or.inl ⟨by kernel_rfl, fun w' hS' => by have h3 := RowAt.cell hS' 3; have h4 := RowAt.cell hS' 4; have h5 := RowAt.cell hS' 5; go_simp⟩) hHeld ?_
            (try simp only [Act.put, List.setIfInBounds_toArray, List.set_cons_zero, List.set_cons_succ])
            refine take_at 2 35 (.agg #[.int .i64 R, .int .i64 C, .slice ca cn cc]) rfl rfl (by kernel_rfl) (by kernel_rfl) (by kernel_rfl) (fun _ _ _ h => h) (Or.inl ⟨by kernel_rfl, fun w' hS' => by go_simp⟩) hHeld ?_
            (try simp only [Act.put, List.setIfInBounds_toArray, List.set_cons_zero, List.set_cons_succ])
            refine take_at 3 36 (.iface 117 (.agg #[.int .i64 R, .int .i64 C, .slice ca cn cc])) rfl rfl (by kernel_rfl) (by kernel_rfl) (by kernel_rfl) (fun _ _ _ h => h) (Or.inl ⟨by kernel_rfl, fun w' hS' => by go_simp⟩) hHeld ?_
            (try simp only [Act.put, List.setIfInBounds_toArray, List.set_cons_zero, List.set_cons_succ])
            refine take_at 4 37 (.pointer (some ⟨w.heap.size, 1, none⟩)) rfl rfl (by kernel_rfl) (by kernel_rfl) (by kernel_rfl) (fun _ _ _ h => h) (Or.inl ⟨by kernel_rfl, fun w' hS' => by go_simp⟩) hHeld ?_
            (try simp only [Act.put, List.setIfInBounds_toArray, List.set_cons_zero, List.set_cons_succ])
            refine take_at 5 38 (.int .i64 0) rfl rfl (by kernel_rfl) (by kernel_rfl) (by kernel_rfl) (fun _ _ _ h => h) (Or.inl ⟨by kernel_rfl, fun w' hS' => by have hc := RowAt.cell hS' 1; go_simp⟩) hHeld ?_
            (try simp only [Act.put, List.setIfInBounds_toArray, List.set_cons_zero, List.set_cons_succ])
            refine take_at 6 39 (.bool true) rfl rfl (by kernel_rfl) (by kernel_rfl) (by kernel_rfl) (fun _ _ _ h => h) (Or.inl ⟨by kernel_rfl, fun w' hS' => by go_simp⟩) hHeld ?_
            (try simp only [Act.put, List.setIfInBounds_toArray, List.set_cons_zero, List.set_cons_succ])
            refine take_at 7 40 (.bool true) rfl rfl (by kernel_rfl) (by kernel_rfl) (by kernel_rfl) (fun _ _ _ h => h) (Or.inl ⟨by kernel_rfl, fun w' hS' => by go_simp⟩) hHeld ?_
            (try simp only [Act.put, List.setIfInBounds_toArray, List.set_cons_zero, List.set_cons_succ])
            refine take_at 8 41 (.pointer (some ⟨w.heap.size, 2, none⟩)) rfl rfl (by kernel_rfl) (by kernel_rfl) (by kernel_rfl) (fun _ _ _ h => h) (Or.inl ⟨by kernel_rfl, fun w' hS' => by go_simp⟩) hHeld ?_
            (try simp only [Act.put, List.setIfInBounds_toArray, List.set_cons_zero, List.set_cons_succ])
            refine take_at 9 42 (.slice ta tn tc) rfl rfl (by kernel_rfl) (by kernel_rfl) (by kernel_rfl) (fun _ _ _ h => h) (Or.inl ⟨by kernel_rfl, fun w' hS' => by have hc := RowAt.cell hS' 2; go_simp⟩) hHeld ?_
            (try simp only [Act.put, List.setIfInBounds_toArray, List.set_cons_zero, List.set_cons_succ])
            refine take_at 10 43 (.int .i64 tn) rfl rfl (by kernel_rfl) (by kernel_rfl) (by kernel_rfl) (fun _ _ _ h => h) (Or.inl ⟨by kernel_rfl, fun w' hS' => by go_simp⟩) hHeld ?_
            (try simp only [Act.put, List.setIfInBounds_toArray, List.set_cons_zero, List.set_cons_succ])
            refine take_at 11 44 (.bool true) rfl rfl (by kernel_rfl) (by kernel_rfl) (by kernel_rfl) (fun _ _ _ h => h) (Or.inl ⟨by kernel_rfl, fun w' hS' => by go_simp <;> omega⟩) hHeld ?_
            (try simp only [Act.put, List.setIfInBounds_toArray, List.set_cons_zero, List.set_cons_succ])
            refine take_at 12 45 (.bool true) rfl rfl (by kernel_rfl) (by kernel_rfl) (by kernel_rfl) (fun _ _ _ h => h) (Or.inl ⟨by kernel_rfl, fun w' hS' => by go_simp⟩) hHeld ?_
            (try simp only [Act.put, List.setIfInBounds_toArray, List.set_cons_zero, List.set_cons_succ])
            refine take_at 13 2 (.iface 117 (.agg #[.int .i64 R, .int .i64 C, .slice ca cn cc])) rfl rfl (by kernel_rfl) (by kernel_rfl) (by kernel_rfl) (fun _ _ _ h => h) (Or.inl ⟨by kernel_rfl, fun w' hS' => by go_simp⟩) hHeld ?_
            (try simp only [Act.put, List.setIfInBounds_toArray, List.set_cons_zero, List.set_cons_succ])
            refine take_at 14 3 (.bool true) rfl rfl (by kernel_rfl) (by kernel_rfl) (by kernel_rfl) (fun _ _ _ h => h) (Or.inl ⟨by kernel_rfl, fun w' hS' => by go_simp⟩) hHeld ?_
            (try simp only [Act.put, List.setIfInBounds_toArray, List.set_cons_zero, List.set_cons_succ])
            refine wpAnyH_done (by kernel_rfl) ?_ _
            refine NoPanic.normal ?_
            clear hHeld
            go_wp2_with fail
            go_ret2
            exact ⟨by simp [partV, partB, hte], HB0.out.drew⟩
          · have hte : ¬ t = [] := fun e => htn (HTN.out.1 e)
            refine wp_region_noPanic ?_
            refine wp_region_held_drew (S := fun w' => RowAt w' w.heap.size #[.int .i64 3, .int .i64 0, .slice ta tn tc, .int .i64 R, .int .i64 C, .slice ca cn cc] 39) (by kernel_rfl) HG0.out (fun hHeld => ?_)
            refine take_at 0 33 (.pointer (some ⟨w.heap.size, 3, none⟩)) rfl rfl (by kernel_rfl) (by kernel_rfl) (by kernel_rfl) (fun _ _ _ h => h) (Or.inl ⟨by kernel_rfl, fun w' hS' => by go_simp⟩) hHeld ?_
            (try simp only [Act.put, List.setIfInBounds_toArray, List.set_cons_zero, List.set_cons_succ])
            refine take_at 1 34 (.agg #[.int .i64 R, .int .i64 C, .slice ca cn cc]) rfl rfl (by kernel_rfl) (by kernel_rfl) (by kernel_rfl) (fun _ _ _ h => h) (Or.inl ⟨by kernel_rfl, fun w' hS' => by have h3 := RowAt.cell hS' 3; have h4 := RowAt.cell hS' 4; have h5 := RowAt.cell hS' 5; go_simp⟩) hHeld ?_
            (try simp only [Act.put, List.setIfInBounds_toArray, List.set_cons_zero, List.set_cons_succ])
            refine take_at 2 35 (.agg #[.int .i64 R, .int .i64 C, .slice ca cn cc]) rfl rfl (by kernel_rfl) (by kernel_rfl) (by kernel_rfl) (fun _ _ _ h => h) (Or.inl ⟨by kernel_rfl, fun w' hS' => by go_simp⟩) hHeld ?_
            (try simp only [Act.put, List.setIfInBounds_toArray, List.set_cons_zero, List.set_cons_succ])
            refine take_at 3 36 (.iface 117 (.agg #[.int .i64 R, .int .i64 C, .slice ca cn cc])) rfl rfl (by kernel_rfl) (by kernel_rfl) (by kernel_rfl) (fun _ _ _ h => h) (Or.inl ⟨by kernel_rfl, fun w' hS' => by go_simp⟩) hHeld ?_
            (try simp only [Act.put, List.setIfInBounds_toArray, List.set_cons_zero, List.set_cons_succ])
            refine take_at 4 37 (.pointer (some ⟨w.heap.size, 1, none⟩)) rfl rfl (by kernel_rfl) (by kernel_rfl) (by kernel_rfl) (fun _ _ _ h => h) (Or.inl ⟨by kernel_rfl, fun w' hS' => by go_simp⟩) hHeld ?_
            (try simp only [Act.put, List.setIfInBounds_toArray, List.set_cons_zero, List.set_cons_succ])
            refine take_at 5 38 (.int .i64 0) rfl rfl (by kernel_rfl) (by kernel_rfl) (by kernel_rfl) (fun _ _ _ h => h) (Or.inl ⟨by kernel_rfl, fun w' hS' => by have hc := RowAt.cell hS' 1; go_simp⟩) hHeld ?_
            (try simp only [Act.put, List.setIfInBounds_toArray, List.set_cons_zero, List.set_cons_succ])
            refine take_at 6 39 (.bool true) rfl rfl (by kernel_rfl) (by kernel_rfl) (by kernel_rfl) (fun _ _ _ h => h) (Or.inl ⟨by kernel_rfl, fun w' hS' => by go_simp⟩) hHeld ?_
            (try simp only [Act.put, List.setIfInBounds_toArray, List.set_cons_zero, List.set_cons_succ])
            refine take_at 7 40 (.bool true) rfl rfl (by kernel_rfl) (by kernel_rfl) (by kernel_rfl) (fun _ _ _ h => h) (Or.inl ⟨by kernel_rfl, fun w' hS' => by go_simp⟩) hHeld ?_
            (try simp only [Act.put, List.setIfInBounds_toArray, List.set_cons_zero, List.set_cons_succ])
            refine take_at 8 41 (.pointer (some ⟨w.heap.size, 2, none⟩)) rfl rfl (by kernel_rfl) (by kernel_rfl) (by kernel_rfl) (fun _ _ _ h => h) (Or.inl ⟨by kernel_rfl, fun w' hS' => by go_simp⟩) hHeld ?_
            (try simp only [Act.put, List.setIfInBounds_toArray, List.set_cons_zero, List.set_cons_succ])
            refine take_at 9 42 (.slice ta tn tc) rfl rfl (by kernel_rfl) (by kernel_rfl) (by kernel_rfl) (fun _ _ _ h => h) (Or.inl ⟨by kernel_rfl, fun w' hS' => by have hc := RowAt.cell hS' 2; go_simp⟩) hHeld ?_
            (try simp only [Act.put, List.setIfInBounds_toArray, List.set_cons_zero, List.set_cons_succ])
            refine take_at 10 43 (.int .i64 tn) rfl rfl (by kernel_rfl) (by kernel_rfl) (by kernel_rfl) (fun _ _ _ h => h) (Or.inl ⟨by kernel_rfl, fun w' hS' => by go_simp⟩) hHeld ?_
            (try simp only [Act.put, List.setIfInBounds_toArray, List.set_cons_zero, List.set_cons_succ])
            refine take_at 11 44 (.bool false) rfl rfl (by kernel_rfl) (by kernel_rfl) (by kernel_rfl) (fun _ _ _ h => h) (Or.inl ⟨by kernel_rfl, fun w' hS' => by go_simp <;> omega⟩) hHeld ?_
            (try simp only [Act.put, List.setIfInBounds_toArray, List.set_cons_zero, List.set_cons_succ])
            refine take_at 12 45 (.bool false) rfl rfl (by kernel_rfl) (by kernel_rfl) (by kernel_rfl) (fun _ _ _ h => h) (Or.inl ⟨by kernel_rfl, fun w' hS' => by go_simp⟩) hHeld ?_
            (try simp only [Act.put, List.setIfInBounds_toArray, List.set_cons_zero, List.set_cons_succ])
            refine take_at 13 2 (.iface 117 (.agg #[.int .i64 R, .int .i64 C, .slice ca cn cc])) rfl rfl (by kernel_rfl) (by kernel_rfl) (by kernel_rfl) (fun _ _ _ h => h) (Or.inl ⟨by kernel_rfl, fun w' hS' => by go_simp⟩) hHeld ?_
            (try simp only [Act.put, List.setIfInBounds_toArray, List.set_cons_zero, List.set_cons_succ])
            refine take_at 14 3 (.bool false) rfl rfl (by kernel_rfl) (by kernel_rfl) (by kernel_rfl) (fun _ _ _ h => h) (Or.inl ⟨by kernel_rfl, fun w' hS' => by go_simp⟩) hHeld ?_
            (try simp only [Act.put, List.setIfInBounds_toArray, List.set_cons_zero, List.set_cons_succ])
            refine wpAnyH_done (by kernel_rfl) ?_ _
            refine NoPanic.normal ?_
            clear hHeld
            go_wp2_with fail
            go_ret2
            exact ⟨by simp [partV, partB, hte], HB0.out.drew⟩
        · refine wp_region_noPanic ?_
          refine wp_region_held_drew (S := fun w' => RowAt w' w.heap.size #[.int .i64 3, .int .i64 v, .slice ta tn tc, .int .i64 R, .int .i64 C, .slice ca cn cc] 39) (by kernel_rfl) HG0.out (fun hHeld => ?_)
          refine take_at 0 33 (.pointer (some ⟨w.heap.size, 3, none⟩)) rfl rfl (by kernel_rfl) (by kernel_rfl) (by kernel_rfl) (fun _ _ _ h => h) (Or.inl ⟨by kernel_rfl, fun w' hS' => by go_simp⟩) hHeld ?_
          (try simp only [Act.put, List.setIfInBounds_toArray, List.set_cons_zero, List.set_cons_succ])
          refine take_at 1 34 (.agg #[.int .i64 R, .int .i64 C, .slice ca cn cc]) rfl rfl (by kernel_rfl) (by kernel_rfl) (by kernel_rfl) (fun _ _ _ h => h) (Or.inl ⟨by kernel_rfl, fun w' hS' => by have h3 := RowAt.cell hS' 3; have h4 := RowAt.cell hS' 4; have h5 := RowAt.cell hS' 5; go_simp⟩) hHeld ?_
          (try simp only [Act.put, List.setIfInBounds_toArray, List.set_cons_zero, List.set_cons_succ])
          refine take_at 2 35 (.agg #[.int .i64 R, .int .i64 C, .slice ca cn cc]) rfl rfl (by kernel_rfl) (by kernel_rfl) (by kernel_rfl) (fun _ _ _ h => h) (Or.inl ⟨by kernel_rfl, fun w' hS' => by go_simp⟩) hHeld ?_
          (try simp only [Act.put, List.setIfInBounds_toArray, List.set_cons_zero, List.set_cons_succ])
          refine take_at 3 36 (.iface 117 (.agg #[.int .i64 R, .int .i64 C, .slice ca cn cc])) rfl rfl (by kernel_rfl) (by kernel_rfl) (by kernel_rfl) (fun _ _ _ h => h) (Or.inl ⟨by kernel_rfl, fun w' hS' => by go_simp⟩) hHeld ?_
          (try simp only [Act.put, List.setIfInBounds_toArray, List.set_cons_zero, List.set_cons_succ])
          refine take_at 4 37 (.pointer (some ⟨w.heap.size, 1, none⟩)) rfl rfl (by kernel_rfl) (by kernel_rfl) (by kernel_rfl) (fun _ _ _ h => h) (Or.inl ⟨by kernel_rfl, fun w' hS' => by go_simp⟩) hHeld ?_
          (try simp only [Act.put, List.setIfInBounds_toArray, List.set_cons_zero, List.set_cons_succ])
          refine take_at 5 38 (.int .i64 v) rfl rfl (by kernel_rfl) (by kernel_rfl) (by kernel_rfl) (fun _ _ _ h => h) (Or.inl ⟨by kernel_rfl, fun w' hS' => by have hc := RowAt.cell hS' 1; go_simp⟩) hHeld ?_
          (try simp only [Act.put, List.setIfInBounds_toArray, List.set_cons_zero, List.set_cons_succ])
          refine take_at 6 39 (.bool false) rfl rfl (by kernel_rfl) (by kernel_rfl) (by kernel_rfl) (fun _ _ _ h => h) (Or.inl ⟨by kernel_rfl, fun w' hS' => by go_simp <;> omega⟩) hHeld ?_
          (try simp only [Act.put, List.setIfInBounds_toArray, List.set_cons_zero, List.set_cons_succ])
          refine take_at 7 40 (.bool false) rfl rfl (by kernel_rfl) (by kernel_rfl) (by kernel_rfl) (fun _ _ _ h => h) (Or.inl ⟨by kernel_rfl, fun w' hS' => by go_simp⟩) hHeld ?_
          (try simp only [Act.put, List.setIfInBounds_toArray, List.set_cons_zero, List.set_cons_succ])
          refine take_at 8 41 (undef) rfl rfl (by kernel_rfl) (by kernel_rfl) (by kernel_rfl) (fun _ _ _ h => h) (Or.inr ⟨by kernel_rfl, rfl⟩) hHeld ?_
          (try simp only [Act.put, List.setIfInBounds_toArray, List.set_cons_zero, List.set_cons_succ])
          refine take_at 9 42 (undef) rfl rfl (by kernel_rfl) (by kernel_rfl) (by kernel_rfl) (fun _ _ _ h => h) (Or.inr ⟨by kernel_rfl, rfl⟩) hHeld ?_
          (try simp only [Act.put, List.setIfInBounds_toArray, List.set_cons_zero, List.set_cons_succ])
          refine take_at 10 43 (undef) rfl rfl (by kernel_rfl) (by kernel_rfl) (by kernel_rfl) (fun _ _ _ h => h) (Or.inr ⟨by kernel_rfl, rfl⟩) hHeld ?_
          (try simp only [Act.put, List.setIfInBounds_toArray, List.set_cons_zero, List.set_cons_succ])
          refine take_at 11 44 (undef) rfl rfl (by kernel_rfl) (by kernel_rfl) (by kernel_rfl) (fun _ _ _ h => h) (Or.inr ⟨by kernel_rfl, rfl⟩) hHeld ?_
          (try simp only [Act.put, List.setIfInBounds_toArray, List.set_cons_zero, List.set_cons_succ])
          refine take_at 12 45 (.bool false) rfl rfl (by kernel_rfl) (by kernel_rfl) (by kernel_rfl) (fun _ _ _ h => h) (Or.inl ⟨by kernel_rfl, fun w' hS' => by go_simp⟩) hHeld ?_
          (try simp only [Act.put, List.setIfInBounds_toArray, List.set_cons_zero, List.set_cons_succ])
          refine take_at 13 2 (.iface 117 (.agg #[.int .i64 R, .int .i64 C, .slice ca cn cc])) rfl rfl (by kernel_rfl) (by kernel_rfl) (by kernel_rfl) (fun _ _ _ h => h) (Or.inl ⟨by kernel_rfl, fun w' hS' => by go_simp⟩) hHeld ?_
          (try simp only [Act.put, List.setIfInBounds_toArray, List.set_cons_zero, List.set_cons_succ])
          refine take_at 14 3 (.bool false) rfl rfl (by kernel_rfl) (by kernel_rfl) (by kernel_rfl) (fun _ _ _ h => h) (Or.inl ⟨by kernel_rfl, fun w' hS' => by go_simp⟩) hHeld ?_
          (try simp only [Act.put, List.setIfInBounds_toArray, List.set_cons_zero, List.set_cons_succ])
          refine wpAnyH_done (by kernel_rfl) ?_ _
          refine NoPanic.normal ?_
          clear hHeld
          go_wp2_with fail
          go_ret2
          exact ⟨by simp [partV, partB, hv], HB0.out.drew⟩
      · go_wp2_with fail
        go_ret2
        exact ⟨by simp [partV, partB, h1, h2, h3], HB0.out⟩
end Go.Proofs.Ytcecmkideoodiaa
namespace Go.Proofs.Ytcecmkideoodiaa
open Go.RowKit

theorem built_0 : Try.prog.built 189 [] = some (gridA 0 0 0 (fun _ => 0) (fun _ => sl0)) := by kernel_rfl
set_option maxRecDepth 100000 in
theorem built_2 (R C : Int) : Try.prog.built 189 [(0, .int .i64 R), (1, .int .i64 C)] = some (gridA R C 0 (fun _ => 0) (fun _ => sl0)) := by rfl
theorem wpList_grid0 {ops : Array Oper} {rest : List Oper} {o : Oper} {a : Act} {w : World} {Q : Exit → Act → World → Prop} (hg : o.guard = none) (ho : o.op = .build 189 #[])
    (h : wpList Try.prog ops Q rest (a.put o.dst (.agg (gridA 0 0 0 (fun _ => 0) (fun _ => sl0)))) w) : wpList Try.prog ops Q (o :: rest) a w := by
  have e : ((#[] : Array (Nat × Operand)).map fun (i, x) => (i, a.eval x)).toList = [] := by simp
  exact wpList_build hg 189 _ ho (by rw [e, built_0]; rfl) (by rw [e, built_0]; exact h)
theorem wpList_grid2 {ops : Array Oper} {rest : List Oper} {o : Oper} {a : Act} {w : World} {Q : Exit → Act → World → Prop} (hg : o.guard = none) (x y : Operand) (ho : o.op = .build 189 #[(0, x), (1, y)]) (R C : Int) (hx : a.eval x = .int .i64 R) (hy : a.eval y = .int .i64 C)
    (h : wpList Try.prog ops Q rest (a.put o.dst (.agg (gridA R C 0 (fun _ => 0) (fun _ => sl0)))) w) : wpList Try.prog ops Q (o :: rest) a w := by
  have e : ((#[(0, x), (1, y)] : Array (Nat × Operand)).map fun (i, x) => (i, a.eval x)).toList = [(0, .int .i64 R), (1, .int .i64 C)] := by simp [hx, hy]
  exact wpList_build hg 189 _ ho (by rw [e, built_2]; rfl) (by rw [e, built_2]; exact h)
theorem run_gridOf {w : World} {g : Nat} {R C : Int} {n : Nat} {f : Nat → Nat} {t : Nat → Sl} (h : GridAt w g R C n f t) : (loadVar 189 ⟨g, 0, none⟩).run Try.prog w = .ok (.agg (gridA R C n f t)) w :=
  run_loadVar_row w g 189 189 (gridA R C n f t) (0, 0) _ h Try.underlying189 rfl (grid_infoA _ _ _ _ _)
theorem implTextOk_isG {a : Option Addr} {n cap : Nat} {l : List Sg} {w : World} {x : Bool} (h : Txt w a n cap l) (hx : textB l = x) :
    Calls Try.prog 104 #[.slice a n cap] w fun e w' => e = .returned (.bool x) ∧ Below w.heap.size w w' := hx ▸ implTextOk_any a n cap l w h

theorem okB_no {R C : Int} {l : List Cl} (h : ¬ gridP R C l) : okB R C l = false := by
  rw [← Bool.not_eq_true, ← gridP_iff]
  exact h
/-- What gridOf gives. -/
def GridRes (R C : Int) (l : List Cl) (x : Bool) (z : Ending) (w' : World) : Prop :=
  (x = false ∧ z = .returned (.tuple #[.agg (gridA 0 0 0 (fun _ => 0) (fun _ => sl0)), .bool false])) ∨
  (x = true ∧ ∃ t : Nat → Sl, z = .returned (.tuple #[.agg (gridA R C l.length (numF l l.length) t), .bool true]) ∧ ∀ i, i < l.length → Txt w' (t (i + 1)).1 (t (i + 1)).2.1 (t (i + 1)).2.2 (l.getD i cl0).2.2.2.2)

set_option maxRecDepth 100000 in
set_option maxHeartbeats 4000000 in
theorem gridOf_is {R C : Int} {a : Option Addr} {n cap : Nat} {l : List Cl} {w : World} {x : Bool} (hx : okB R C l = x) (h : Tab w a n cap l) :
    Calls Try.prog 116 #[.agg #[.int .i64 R, .int .i64 C, .slice a n cap]] w fun z w' => GridRes R C l x z w' ∧ Below w.heap.size w w' := by
  have HX : Hid (okB R C l = x) := hx
  have H : Hid (Tab w a n cap l) := h
  obtain ⟨rfl, hc, hm, hl⟩ := h
  clear hx hl
  unfold maxLen at hm
  go_enter Try.func116, Try.ntmps116
  go_upto_region 1 with fail
  rw [← grid_zero]
  have B0 : Below w.heap.size w ((w.alloc (.cells #[.int .i64 R, .int .i64 C, .slice a l.length cap] 37)).alloc (.cells (gridA 0 0 0 (fun _ => 0) (fun _ => sl0)) 189)) := (((Below.refl _ _).alloc (Nat.le_refl _) _).alloc (by simp) _)
  have G1 : GridAt ((w.alloc (.cells #[.int .i64 R, .int .i64 C, .slice a l.length cap] 37)).alloc (.cells (gridA 0 0 0 (fun _ => 0) (fun _ => sl0)) 189)) (w.heap.size + 1) 0 0 0 (fun _ => 0) (fun _ => sl0) := by
    have := gridAt_new (w.alloc (.cells #[.int .i64 R, .int .i64 C, .slice a l.length cap] 37)) 0 0 0 (fun _ => 0) (fun _ => sl0)
    simpa using this
  have G2 : RowAt ((w.alloc (.cells #[.int .i64 R, .int .i64 C, .slice a l.length cap] 37)).alloc (.cells (gridA 0 0 0 (fun _ => 0) (fun _ => sl0)) 189)) w.heap.size #[.int .i64 R, .int .i64 C, .slice a l.length cap] 37 := (rowAt_new w _ _).alloc _
  generalize ((w.alloc (.cells #[.int .i64 R, .int .i64 C, .slice a l.length cap] 37)).alloc (.cells (gridA 0 0 0 (fun _ => 0) (fun _ => sl0)) 189)) = v0 at B0 G1 G2 ⊢
  have k0 : v0.cell? ⟨w.heap.size, 0, none⟩ = some (.int .i64 R) := G2.cell 0
  have k1 : v0.cell? ⟨w.heap.size, 1, none⟩ = some (.int .i64 C) := G2.cell 1
  have k2 : v0.cell? ⟨w.heap.size, 2, none⟩ = some (.slice a l.length cap) := G2.cell 2
  have HZ : Hid (GridAt v0 (w.heap.size + 1) 0 0 0 (fun _ => 0) (fun _ => sl0)) := G1
  clear G1
  cases s0 : sizeB R
  · have S0 : Hid (sizeB R = false) := s0
    clear s0
    go_upto_region 2 with (go_at_call 117; refine (sizeOk_is S0.out _).mono ?_; rintro e w1 ⟨rfl, hw1⟩; subst w1)
    go_wp2_with (first | (refine wpList_grid0 rfl rfl ?_) | (refine wpList_store_row rfl 189 (.tmp 2) (.tmp 18) rfl (w.heap.size + 1) (gridA 0 0 0 (fun _ => 0) (fun _ => sl0)) rfl rfl 189 _ HZ.out (grid_infoA _ _ _ _ _) (by rw [gridA_size]) (gridA_one _ _ _ _ _) ?_))
    refine bodyPost_ret (v := .tuple #[.agg (gridA 0 0 0 (fun _ => 0) (fun _ => sl0)), .bool false]) ?_ rfl ⟨.inl ⟨?_, rfl⟩, ?_⟩
    · rw [results_cell_tmp rfl]
      simp [asAddr, Result.andThen, run_gridOf (RowAt.setRow HZ.out (gridA 0 0 0 (fun _ => 0) (fun _ => sl0)))]
    · rw [← HX.out]
      exact okB_no (fun hp => by have := S0.out; simp [sizeB] at this; have := hp.1; omega)
    · exact below_row B0 (by omega) _
  cases s1 : sizeB C
  · have S0 : Hid (sizeB R = true) := s0
    have S1 : Hid (sizeB C = false) := s1
    clear s0 s1
    go_upto_region 2 with (first | (go_at_call_of 117 (Value.int IntKind.i64 R); refine (sizeOk_is S0.out _).mono ?_; rintro e w1 ⟨rfl, hw1⟩; subst w1) | (go_at_call_of 117 (Value.int IntKind.i64 C); refine (sizeOk_is S1.out _).mono ?_; rintro e w1 ⟨rfl, hw1⟩; subst w1))
    go_wp2_with (first | (refine wpList_grid0 rfl rfl ?_) | (refine wpList_store_row rfl 189 (.tmp 2) (.tmp 18) rfl (w.heap.size + 1) (gridA 0 0 0 (fun _ => 0) (fun _ => sl0)) rfl rfl 189 _ HZ.out (grid_infoA _ _ _ _ _) (by rw [gridA_size]) (gridA_one _ _ _ _ _) ?_))
    refine bodyPost_ret (v := .tuple #[.agg (gridA 0 0 0 (fun _ => 0) (fun _ => sl0)), .bool false]) ?_ rfl ⟨.inl ⟨?_, rfl⟩, ?_⟩
    · rw [results_cell_tmp rfl]
      simp [asAddr, Result.andThen, run_gridOf (RowAt.setRow HZ.out (gridA 0 0 0 (fun _ => 0) (fun _ => sl0)))]
    · rw [← HX.out]
      exact okB_no (fun hp => by have := S1.out; simp [sizeB] at this; have := hp.2.1; omega)
    · exact below_row B0 (by omega) _
  have hR : 1 ≤ R ∧ R ≤ 5 := of_decide_eq_true s0
  have hC : 1 ≤ C ∧ C ≤ 5 := of_decide_eq_true s1
  have S0 : Hid (sizeB R = true) := s0
  have S1 : Hid (sizeB C = true) := s1
  clear s0 s1
  obtain ⟨R, rfl⟩ : ∃ R' : Nat, R = R' := ⟨R.toNat, by omega⟩
  obtain ⟨C, rfl⟩ : ∃ C' : Nat, C = C' := ⟨C.toNat, by omega⟩
  go_upto_region 3 with (first | (go_at_call_of 117 (Value.int IntKind.i64 R); refine (sizeOk_is S0.out _).mono ?_; rintro e w1 ⟨rfl, hw1⟩; subst w1) | (go_at_call_of 117 (Value.int IntKind.i64 C); refine (sizeOk_is S1.out _).mono ?_; rintro e w1 ⟨rfl, hw1⟩; subst w1))
  clear S0 S1
  go_upto_region 4 with (first | (refine wpList_grid2 rfl (.tmp 20) (.tmp 22) rfl R C rfl rfl ?_) | (rw [← grid_zero]; refine wpList_store_row rfl 189 (.tmp 4) (.tmp 23) rfl v0.heap.size (gridA R C 0 (fun _ => 0) (fun _ => sl0)) rfl rfl 189 _ (gridAt_new _ _ _ _ _ _) (grid_infoA _ _ _ _ _) (by rw [gridA_size, gridA_size]) (gridA_one _ _ _ _ _) ?_))
  have G4 : GridAt ((v0.alloc (.cells (gridA 0 0 0 (fun _ => 0) (fun _ => sl0)) 189)).setRow v0.heap.size (gridA R C 0 (fun _ => 0) (fun _ => sl0))) v0.heap.size R C 0 (fun _ => 0) (fun _ => sl0) := RowAt.setRow (gridAt_new _ _ _ _ _ _) _
  have B4 : Below v0.heap.size v0 ((v0.alloc (.cells (gridA 0 0 0 (fun _ => 0) (fun _ => sl0)) 189)).setRow v0.heap.size (gridA R C 0 (fun _ => 0) (fun _ => sl0))) := below_row ((Below.refl _ _).alloc (Nat.le_refl _) _) (Nat.le_refl _) _
  generalize ((v0.alloc (.cells (gridA 0 0 0 (fun _ => 0) (fun _ => sl0)) 189)).setRow v0.heap.size (gridA R C 0 (fun _ => 0) (fun _ => sl0))) = v1 at G4 B4 ⊢
  have bt : w.heap.size < v0.heap.size := G2.lt
  have bz : w.heap.size + 1 < v0.heap.size := HZ.out.lt
  have j2 := (B4.cell (p := ⟨w.heap.size, 2, none⟩) bt).trans k2
  clear k0 k1 k2 G2
  go_wp2_with fail
  go_loopw [27] (fun i wr => ∃ (k : Nat) (t : Nat → Sl), k ≤ l.length ∧ i = .int .i64 k ∧ (∀ j, j < k → stepB R C l j = true) ∧ GridAt wr v0.heap.size R C k (numF l k) t ∧ (∀ j, j < k → Txt w (t (j + 1)).1 (t (j + 1)).2.1 (t (j + 1)).2.2 (l.getD j cl0).2.2.2.2) ∧ Below v0.heap.size v0 wr) (fun i _ => l.length - (intOf i).toNat)
  case atStart => exact ⟨0, _, Nat.zero_le _, rfl, fun j hj => by omega, G4, fun j hj => by omega, B4⟩
  case round =>
    clear G4 B4 j2
    obtain ⟨k, t, hk, rfl, hst, hg, htx, hb⟩ := hrel
    have HS : Hid (∀ j, j < k → stepB R C l j = true) := hst
    have HT : Hid (∀ j, j < k → Txt w (t (j + 1)).1 (t (j + 1)).2.1 (t (j + 1)).2.2 (l.getD j cl0).2.2.2.2) := htx
    have HG : Hid (GridAt wr v0.heap.size R C k (numF l k) t) := hg
    have HZr : Hid (GridAt wr (w.heap.size + 1) 0 0 0 (fun _ => 0) (fun _ => sl0)) := HZ.out.below hb bz
    have HB : Hid (Below v0.heap.size v0 wr) := hb
    have HW : Hid (Below w.heap.size w wr) := B0.trans (hb.mono B0.size)
    have hk25 := step_le hR.2 hC.2 hst
    have szr : v0.heap.size < wr.heap.size := hg.lt
    have gr := hg.rows
    have gc := hg.cols
    clear hst htx hg hb
    by_cases hlt : k < l.length
    · rcases H.out.2.2.2 with e | ⟨b, off, rfl, hbw, hl⟩
      · rw [e] at hlt
        exact absurd hlt (by simp)
      obtain ⟨c0, c1, c2, c3, ta, tn, tc, c4, ht⟩ := (hl k hlt)
      have HTX : Hid (Txt w ta tn tc (l.getD k cl0).2.2.2.2) := ht
      obtain ⟨c0, c1, c2, c3, -⟩ : CellAt wr b (off + k * 5) (l.getD k cl0) := (hl k hlt).below HW.out hbw
      have c4 := (HW.out.cell (p := ⟨b, _, none⟩) hbw).trans c4
      clear ht hl
      obtain ⟨⟨r, c, d, g, tx⟩, hx⟩ : ∃ x, x = l.getD k cl0 := ⟨_, rfl⟩
      rw [← hx] at c0 c1 c2 c3 HTX
      simp only at c0 c1 c2 c3 HTX
      have HXX : Hid ((r, c, d, g, tx) = l.getD k cl0) := hx
      clear hx
      go_upto_region 8 with (go_at_call 118; refine (rectOf_any _ _ _ _ _ _ _ _).mono ?_; rintro e w1 ⟨rfl, hb1⟩)
      have bA : Below wr.heap.size wr (wr.alloc (Obj.cells #[.int .i64 r, .int .i64 c, .int .i64 d, .int .i64 g, .slice ta tn tc] 41)) := (Below.refl _ _).alloc (Nat.le_refl _) _
      have sA : wr.heap.size < w1.heap.size := by have := hb1.size; simp at this; omega
      have b3 : Below wr.heap.size wr (w1.alloc (.cells #[.int .i64 r, .int .i64 c, .int .i64 d, .int .i64 g] 193)) := (bA.trans (hb1.mono (by simp))).alloc (Nat.le_of_lt sA) _
      have C3 : RowAt (w1.alloc (.cells #[.int .i64 r, .int .i64 c, .int .i64 d, .int .i64 g] 193)) wr.heap.size #[.int .i64 r, .int .i64 c, .int .i64 d, .int .i64 g, .slice ta tn tc] 41 := ((rowAt_new wr _ _).below hb1 (by simp)).alloc _
      have Q3 : RectAt (w1.alloc (.cells #[.int .i64 r, .int .i64 c, .int .i64 d, .int .i64 g] 193)) w1.heap.size r c d g := rowAt_new _ _ _
      generalize (w1.alloc (.cells #[.int .i64 r, .int .i64 c, .int .i64 d, .int .i64 g] 193)) = w3 at b3 C3 Q3 ⊢
      have gr := (HG.out.below b3 szr).rows
      have gc := (HG.out.below b3 szr).cols
      have e0 := Q3.c0
      have e1 := Q3.c1
      have e2 := Q3.c2
      have e3 := Q3.c3
      have e4 : w3.cell? ⟨wr.heap.size, 4, none⟩ = some (.slice ta tn tc) := C3.cell 4
      have HG3 : Hid (GridAt w3 v0.heap.size R C k (numF l k) t) := HG.out.below b3 szr
      have HZ3 : Hid (GridAt w3 (w.heap.size + 1) 0 0 0 (fun _ => 0) (fun _ => sl0)) := HZr.out.below b3 (by omega)
      have HQ3 : Hid (RectAt w3 w1.heap.size r c d g) := Q3
      have HC3 : Hid (RowAt w3 wr.heap.size #[.int .i64 r, .int .i64 c, .int .i64 d, .int .i64 g, .slice ta tn tc] 41) := C3
      have HB3 : Hid (Below v0.heap.size v0 w3) := HB.out.trans (b3.mono (by omega))
      have HW3 : Hid (Below w.heap.size w w3) := HW.out.trans (b3.mono (by omega))
      have s3 := b3.size
      have s4 := RowAt.lt Q3
      have s5 := B0.size
      clear HG HZr HB HW b3 C3 Q3 bA hb1 c0 c1 c2 c3 c4
      cases q0 : withB r c d g R C
      · have Q0 : Hid (withB r c d g R C = false) := q0
        clear q0
        go_upto_region 9 with (first | (go_at_call 119; refine (within_is Q0.out hR hC _).mono ?_; rintro e w4 ⟨rfl, hb4⟩))
        go_wp2_with (first | (refine wpList_grid0 rfl rfl ?_) | (refine wpList_store_row rfl 189 (.tmp 2) (.tmp 52) rfl (w.heap.size + 1) (gridA 0 0 0 (fun _ => 0) (fun _ => sl0)) rfl rfl 189 _ (HZ3.out.below hb4 (by omega)) (grid_infoA _ _ _ _ _) (by rw [gridA_size]) (gridA_one _ _ _ _ _) ?_))
        refine bodyPost_ret (v := .tuple #[.agg (gridA 0 0 0 (fun _ => 0) (fun _ => sl0)), .bool false]) ?_ rfl ⟨.inl ⟨?_, rfl⟩, ?_⟩
        · rw [results_cell_tmp rfl]
          simp [asAddr, Result.andThen, run_gridOf (RowAt.setRow (HZ3.out.below hb4 (by omega)) (gridA 0 0 0 (fun _ => 0) (fun _ => sl0)))]
        · rw [← HX.out]
          exact okB_no (fun hp => by have := hp.2.2.1 k hlt; rw [stepB_0 HXX.out Q0.out] at this; exact absurd this (by simp))
        · exact below_row (HW3.out.trans (hb4.mono (by omega))) (by omega) _
      obtain ⟨wz, wz2, wz3⟩ := wiB_of (x := (r, c, d, g, tx)) q0
      simp only at wz wz2 wz3
      obtain ⟨r, rfl⟩ : ∃ r' : Nat, r = r' := ⟨r.toNat, by omega⟩
      obtain ⟨c, rfl⟩ : ∃ r' : Nat, c = r' := ⟨c.toNat, by omega⟩
      obtain ⟨d, rfl⟩ : ∃ r' : Nat, d = r' := ⟨d.toNat, by omega⟩
      obtain ⟨g, rfl⟩ : ∃ r' : Nat, g = r' := ⟨g.toNat, by omega⟩
      have hrd : r + d ≤ R := by omega
      have hcg : c + g ≤ C := by omega
      have hR5 : R ≤ 5 := by omega
      have hC5 : C ≤ 5 := by omega
      have hd0 : 0 < d := by omega
      have hg0 : 0 < g := by omega
      have Q0 : Hid (withB r c d g R C = true) := q0
      have HF : Hid (∀ s, numF l k s ≤ 25) := fun s => Nat.le_trans (numF_le l k s) hk25
      clear q0 wz wz2 wz3
      cases q1 : freeB (numF l k) r c d g
      · have Q1 : Hid (freeB (numF l k) r c d g = false) := q1
        clear q1
        go_upto_region 9 with (first | (go_at_call 119; refine (within_is Q0.out hR hC _).mono ?_; rintro e w4 ⟨rfl, hb4⟩; have GG : GridAt w4 v0.heap.size R C k (numF l k) t := HG3.out.below hb4 (by omega); have QQ : RectAt w4 w1.heap.size r c d g := RowAt.below HQ3.out hb4 s4; have f0 := QQ.c0; have f1 := QQ.c1; have f2 := QQ.c2; have f3 := QQ.c3; have b4 : Hid (Below w3.heap.size w3 w4) := hb4; clear QQ) | (refine wpList_load_rowG (by rfl) 189 (.tmp 4) rfl v0.heap.size rfl 189 (gridA R C k (numF l k) t) (0, 0) _ GG Try.underlying189 rfl (grid_infoA _ _ _ _ _) ?_) | (go_at_call 120; refine (isFree_is Q1.out hR5 hC5 hrd hcg hd0 hg0 HF.out).mono ?_; rintro e w5 ⟨rfl, hb5⟩; have b5 : Hid (Below w3.heap.size w3 w5) := b4.out.trans (hb5.mono b4.out.size); have f4 : w5.cell? ⟨wr.heap.size, 4, none⟩ = some (.slice ta tn tc) := (RowAt.below HC3.out b5.out (by omega)).cell 4))
        clear GG f0 f1 f2 f3 f4
        go_wp2_with (first | (refine wpList_grid0 rfl rfl ?_) | (refine wpList_store_row rfl 189 (.tmp 2) (.tmp 52) rfl (w.heap.size + 1) (gridA 0 0 0 (fun _ => 0) (fun _ => sl0)) rfl rfl 189 _ (HZ3.out.below b5.out (by omega)) (grid_infoA _ _ _ _ _) (by rw [gridA_size]) (gridA_one _ _ _ _ _) ?_))
        refine bodyPost_ret (v := .tuple #[.agg (gridA 0 0 0 (fun _ => 0) (fun _ => sl0)), .bool false]) ?_ rfl ⟨.inl ⟨?_, rfl⟩, ?_⟩
        · rw [results_cell_tmp rfl]
          simp [asAddr, Result.andThen, run_gridOf (RowAt.setRow (HZ3.out.below b5.out (by omega)) (gridA 0 0 0 (fun _ => 0) (fun _ => sl0)))]
        · rw [← HX.out]
          exact okB_no (fun hp => by have := hp.2.2.1 k hlt; rw [stepB_1 HXX.out Q1.out] at this; exact absurd this (by simp))
        · exact below_row (HW3.out.trans (b5.out.mono (by omega))) (by omega) _
      have Q1 : Hid (freeB (numF l k) r c d g = true) := q1
      clear q1
      cases q2 : textB tx
      · have Q2 : Hid (textB tx = false) := q2
        clear q2
        go_upto_region 9 with (first | (go_at_call 119; refine (within_is Q0.out hR hC _).mono ?_; rintro e w4 ⟨rfl, hb4⟩; have GG : GridAt w4 v0.heap.size R C k (numF l k) t := HG3.out.below hb4 (by omega); have QQ : RectAt w4 w1.heap.size r c d g := RowAt.below HQ3.out hb4 s4; have f0 := QQ.c0; have f1 := QQ.c1; have f2 := QQ.c2; have f3 := QQ.c3; have b4 : Hid (Below w3.heap.size w3 w4) := hb4; clear QQ) | (refine wpList_load_rowG (by rfl) 189 (.tmp 4) rfl v0.heap.size rfl 189 (gridA R C k (numF l k) t) (0, 0) _ GG Try.underlying189 rfl (grid_infoA _ _ _ _ _) ?_) | (go_at_call 120; refine (isFree_is Q1.out hR5 hC5 hrd hcg hd0 hg0 HF.out).mono ?_; rintro e w5 ⟨rfl, hb5⟩; have b5 : Hid (Below w3.heap.size w3 w5) := b4.out.trans (hb5.mono b4.out.size); have f4 : w5.cell? ⟨wr.heap.size, 4, none⟩ = some (.slice ta tn tc) := (RowAt.below HC3.out b5.out (by omega)).cell 4) | (go_at_call 104; refine (implTextOk_isG ((HTX.out.below HW3.out).below (b5.out.mono (by omega))) Q2.out).mono ?_; rintro e w6 ⟨rfl, hb6⟩; have b6 : Hid (Below w3.heap.size w3 w6) := b5.out.trans (hb6.mono b5.out.size)))
        clear GG f0 f1 f2 f3 f4
        go_wp2_with (first | (refine wpList_grid0 rfl rfl ?_) | (refine wpList_store_row rfl 189 (.tmp 2) (.tmp 52) rfl (w.heap.size + 1) (gridA 0 0 0 (fun _ => 0) (fun _ => sl0)) rfl rfl 189 _ (HZ3.out.below b6.out (by omega)) (grid_infoA _ _ _ _ _) (by rw [gridA_size]) (gridA_one _ _ _ _ _) ?_))
        refine bodyPost_ret (v := .tuple #[.agg (gridA 0 0 0 (fun _ => 0) (fun _ => sl0)), .bool false]) ?_ rfl ⟨.inl ⟨?_, rfl⟩, ?_⟩
        · rw [results_cell_tmp rfl]
          simp [asAddr, Result.andThen, run_gridOf (RowAt.setRow (HZ3.out.below b6.out (by omega)) (gridA 0 0 0 (fun _ => 0) (fun _ => sl0)))]
        · rw [← HX.out]
          exact okB_no (fun hp => by have := hp.2.2.1 k hlt; rw [stepB_2 HXX.out Q2.out] at this; exact absurd this (by simp))
        · exact below_row (HW3.out.trans (b6.out.mono (by omega))) (by omega) _
      have Q2 : Hid (textB tx = true) := q2
      clear q2
      go_upto_region 10 with (first | (go_at_call 119; refine (within_is Q0.out hR hC _).mono ?_; rintro e w4 ⟨rfl, hb4⟩; have GG : GridAt w4 v0.heap.size R C k (numF l k) t := HG3.out.below hb4 (by omega); have QQ : RectAt w4 w1.heap.size r c d g := RowAt.below HQ3.out hb4 s4; have f0 := QQ.c0; have f1 := QQ.c1; have f2 := QQ.c2; have f3 := QQ.c3; have b4 : Hid (Below w3.heap.size w3 w4) := hb4; clear QQ) | (refine wpList_load_rowG (by rfl) 189 (.tmp 4) rfl v0.heap.size rfl 189 (gridA R C k (numF l k) t) (0, 0) _ GG Try.underlying189 rfl (grid_infoA _ _ _ _ _) ?_) | (go_at_call 120; refine (isFree_is Q1.out hR5 hC5 hrd hcg hd0 hg0 HF.out).mono ?_; rintro e w5 ⟨rfl, hb5⟩; have b5 : Hid (Below w3.heap.size w3 w5) := b4.out.trans (hb5.mono b4.out.size); have f4 : w5.cell? ⟨wr.heap.size, 4, none⟩ = some (.slice ta tn tc) := (RowAt.below HC3.out b5.out (by omega)).cell 4) | (go_at_call 104; refine (implTextOk_isG ((HTX.out.below HW3.out).below (b5.out.mono (by omega))) Q2.out).mono ?_; rintro e w6 ⟨rfl, hb6⟩; have b6 : Hid (Below w3.heap.size w3 w6) := b5.out.trans (hb6.mono b5.out.size)))
      clear GG f0 f1 f2 f3 f4
      have GG : Hid (GridAt w6 v0.heap.size R C k (numF l k) t) := HG3.out.below b6.out (by omega)
      have QQ : RectAt w6 w1.heap.size r c d g := RowAt.below HQ3.out b6.out s4
      have f0 := QQ.c0
      have f1 := QQ.c1
      have f2 := QQ.c2
      have f3 := QQ.c3
      have f4 : w6.cell? ⟨wr.heap.size, 4, none⟩ = some (.slice ta tn tc) := (RowAt.below HC3.out b6.out (by omega)).cell 4
      have s6 := b6.out.size
      have hk1 : k < 25 := by
        have := step_le (l := l) (K := k + 1) hR.2 hC.2 (fun j hj => by
          by_cases hjk : j = k
          · subst hjk
            exact stepB_mk HXX.out Q0.out Q1.out Q2.out
          · exact HS.out j (by omega))
        omega
      clear QQ
      go_wp2_with (first | (refine wpList_load_row rfl 189 (.tmp 4) rfl v0.heap.size rfl 189 (gridA R C k (numF l k) t) (0, 0) _ GG.out Try.underlying189 rfl (grid_infoA _ _ _ _ _) ?_) | (go_at_call 121; refine (lay_any R C k (numF l k) t r c d g (ta, tn, tc) _ (by omega) (by omega) hk1).mono ?_; rintro e w7 ⟨rfl, hb7⟩) | (refine wpList_store_row rfl 189 (.tmp 4) (.tmp 57) rfl v0.heap.size (gridA R C (k + 1) (giveF (numF l k) r c d g (k + 1)) (updS t (k + 1) (ta, tn, tc))) rfl rfl 189 _ (GG.out.below hb7 (by omega)) (grid_infoA _ _ _ _ _) (by rw [gridA_size, gridA_size]) (gridA_one _ _ _ _ _) ?_))
      go_roundw
      case rel =>
        refine ⟨k + 1, updS t (k + 1) (ta, tn, tc), by omega, by go_num, ?_, ?_, ?_, ?_⟩
        · intro j hj
          by_cases hjk : j = k
          · subst hjk
            exact stepB_mk HXX.out Q0.out Q1.out Q2.out
          · exact HS.out j (by omega)
        · have e : numF l (k + 1) = giveF (numF l k) r c d g (k + 1) := by
            simp only [numF, ← HXX.out, Int.toNat_natCast]
          rw [e]
          exact RowAt.setRow (GG.out.below hb7 (by omega)) _
        · intro j hj
          by_cases hjk : j = k
          · subst hjk
            rw [← HXX.out]
            simp only [updS, if_pos]
            exact HTX.out
          · simp only [updS, show ¬ j + 1 = k + 1 from by omega, if_false]
            exact HT.out j (by omega)
        · exact below_row ((HB3.out.trans (b6.out.mono (by omega))).trans (hb7.mono (by omega))) (Nat.le_refl _) _
      case measure => simp [intOf]; omega
    · have hkl : k = l.length := by omega
      subst hkl
      have HF : Hid (∀ s, numF l l.length s ≤ 25) := fun s => Nat.le_trans (numF_le l l.length s) hk25
      have HX2 : Hid (x = true ↔ Tiles R C (numF l l.length)) := by
        show x = true ↔ _
        rw [← HX.out, ← gridP_iff]
        constructor
        · intro hp
          have := hp.2.2.2
          simpa using this
        · intro hp
          exact ⟨hR, hC, HS.out, by simpa using hp⟩
      have hR5 : R ≤ 5 := by omega
      have hC5 : C ≤ 5 := by omega
      have s5 := B0.size
      cases x
      · go_upto_region 13 with (first | (refine wpList_load_row rfl 189 (.tmp 4) rfl v0.heap.size rfl 189 (gridA R C l.length (numF l l.length) t) (0, 0) _ HG.out Try.underlying189 rfl (grid_infoA _ _ _ _ _) ?_) | (go_at_call 122; refine (isTiled_is HX2.out hR5 hC5 HF.out).mono ?_; rintro e w4 ⟨rfl, hb4⟩))
        go_wp2_with (first | (refine wpList_grid0 rfl rfl ?_) | (refine wpList_store_row rfl 189 (.tmp 2) (.tmp 62) rfl (w.heap.size + 1) (gridA 0 0 0 (fun _ => 0) (fun _ => sl0)) rfl rfl 189 _ (HZr.out.below hb4 (by omega)) (grid_infoA _ _ _ _ _) (by rw [gridA_size]) (gridA_one _ _ _ _ _) ?_))
        refine bodyPost_ret (v := .tuple #[.agg (gridA 0 0 0 (fun _ => 0) (fun _ => sl0)), .bool false]) ?_ rfl ⟨.inl ⟨rfl, rfl⟩, ?_⟩
        · rw [results_cell_tmp rfl]
          simp [asAddr, Result.andThen, run_gridOf (RowAt.setRow (HZr.out.below hb4 (by omega)) (gridA 0 0 0 (fun _ => 0) (fun _ => sl0)))]
        · exact below_row (HW.out.trans (hb4.mono (by omega))) (by omega) _
      · go_upto_region 14 with (first | (refine wpList_load_row rfl 189 (.tmp 4) rfl v0.heap.size rfl 189 (gridA R C l.length (numF l l.length) t) (0, 0) _ HG.out Try.underlying189 rfl (grid_infoA _ _ _ _ _) ?_) | (go_at_call 122; refine (isTiled_is HX2.out hR5 hC5 HF.out).mono ?_; rintro e w4 ⟨rfl, hb4⟩))
        go_wp2_with (first | (refine wpList_load_row rfl 189 (.tmp 4) rfl v0.heap.size rfl 189 (gridA R C l.length (numF l l.length) t) (0, 0) _ (HG.out.below hb4 szr) Try.underlying189 rfl (grid_infoA _ _ _ _ _) ?_) | (refine wpList_store_row rfl 189 (.tmp 2) (.tmp 63) rfl (w.heap.size + 1) (gridA R C l.length (numF l l.length) t) rfl rfl 189 _ (HZr.out.below hb4 (by omega)) (grid_infoA _ _ _ _ _) (by rw [gridA_size, gridA_size]) (gridA_one _ _ _ _ _) ?_))
        have bF : Below w.heap.size w (w4.setRow (w.heap.size + 1) (gridA R C l.length (numF l l.length) t)) := below_row (HW.out.trans (hb4.mono (by omega))) (by omega) _
        refine bodyPost_ret (v := .tuple #[.agg (gridA R C l.length (numF l l.length) t), .bool true]) ?_ rfl ⟨.inr ⟨rfl, t, rfl, fun i hi => (HT.out i hi).below bF⟩, bF⟩
        · rw [results_cell_tmp rfl]
          simp [asAddr, Result.andThen, run_gridOf (RowAt.setRow (HZr.out.below hb4 (by omega)) (gridA R C l.length (numF l l.length) t))]
end Go.Proofs.Ytcecmkideoodiaa
namespace Go.Proofs.Ytcecmkideoodiaa
open Go.RowKit

set_option maxRecDepth 100000 in
set_option maxHeartbeats 4000000 in
theorem implTableOk_is {R C : Int} {a : Option Addr} {n cap : Nat} {l : List Cl} {w : World} {x : Bool} (hx : okB R C l = x) (h : Tab w a n cap l) :
    Calls Try.prog 115 #[.agg #[.int .i64 R, .int .i64 C, .slice a n cap]] w fun z w' => z = .returned (.bool x) ∧ Below w.heap.size w w' := by
  have HX : Hid (okB R C l = x) := hx
  have H : Hid (Tab w a n cap l) := h
  clear hx h
  go_enter Try.func115, Try.ntmps115
  go_upto_region 1 with fail
  have B0 : Below w.heap.size w (w.alloc (.cells #[.int .i64 R, .int .i64 C, .slice a n cap] 37)) := (Below.refl _ _).alloc (Nat.le_refl _) _
  have HT : Hid (Tab (w.alloc (.cells #[.int .i64 R, .int .i64 C, .slice a n cap] 37)) a n cap l) := H.out.below B0
  have G2 : RowAt (w.alloc (.cells #[.int .i64 R, .int .i64 C, .slice a n cap] 37)) w.heap.size #[.int .i64 R, .int .i64 C, .slice a n cap] 37 := rowAt_new w _ _
  generalize (w.alloc (.cells #[.int .i64 R, .int .i64 C, .slice a n cap] 37)) = v0 at B0 HT G2 ⊢
  have k0 : v0.cell? ⟨w.heap.size, 0, none⟩ = some (.int .i64 R) := G2.cell 0
  have k1 : v0.cell? ⟨w.heap.size, 1, none⟩ = some (.int .i64 C) := G2.cell 1
  have k2 : v0.cell? ⟨w.heap.size, 2, none⟩ = some (.slice a n cap) := G2.cell 2
  clear G2
  cases x
  · go_wp2_with (first | (go_at_call 116; refine (gridOf_is HX.out HT.out).mono ?_; rintro e w1 ⟨(⟨-, rfl⟩ | ⟨hno, -⟩), hb1⟩; rotate_left; exact absurd hno (by simp)) | (rw [← grid_zero]; refine wpList_store_row rfl 189 (.tmp 3) (.tmp 8) rfl w1.heap.size (gridA 0 0 0 (fun _ => 0) (fun _ => sl0)) rfl rfl 189 _ (gridAt_new _ _ _ _ _ _) (grid_infoA _ _ _ _ _) (by rw [gridA_size]) (gridA_one _ _ _ _ _) ?_))
    go_ret
    exact ⟨rfl, below_row ((B0.trans (hb1.mono B0.size)).alloc (Nat.le_trans B0.size hb1.size) _) (Nat.le_trans B0.size hb1.size) _⟩
  · go_wp2_with (first | (go_at_call 116; refine (gridOf_is HX.out HT.out).mono ?_; rintro e w1 ⟨(⟨hno, -⟩ | ⟨-, t, rfl, -⟩), hb1⟩; exact absurd hno (by simp)) | (rw [← grid_zero]; refine wpList_store_row rfl 189 (.tmp 3) (.tmp 8) rfl w1.heap.size (gridA R C l.length (numF l l.length) t) rfl rfl 189 _ (gridAt_new _ _ _ _ _ _) (grid_infoA _ _ _ _ _) (by rw [gridA_size, gridA_size]) (gridA_one _ _ _ _ _) ?_))
    go_ret
    exact ⟨rfl, below_row ((B0.trans (hb1.mono B0.size)).alloc (Nat.le_trans B0.size hb1.size) _) (Nat.le_trans B0.size hb1.size) _⟩
end Go.Proofs.Ytcecmkideoodiaa
namespace Go.Proofs.Ytcecmkideoodiaa
open Go.RowKit

set_option maxRecDepth 100000 in
set_option maxHeartbeats 4000000 in
theorem paraOk_is {ta : Option Addr} {tn tc : Nat} {t : List Sg} {w : World} {x : Bool} (hx : textB t = x) (ht : Txt w ta tn tc t) :
    Calls Try.prog 102 #[.agg #[.slice ta tn tc]] w fun e w' => e = .returned (.bool x) ∧ Below w.heap.size w w' := by
  have HX : Hid (textB t = x) := hx
  go_enter Try.func102, Try.ntmps102
  go_upto_region 1 with fail
  have B0 : Below w.heap.size w (w.alloc (.cells #[.slice ta tn tc] 112)) := (Below.refl _ _).alloc (Nat.le_refl _) _
  have q0 : (w.alloc (.cells #[.slice ta tn tc] 112)).cell? ⟨w.heap.size, 0, none⟩ = some (.slice ta tn tc) := by simp
  have HT : Hid (Txt (w.alloc (.cells #[.slice ta tn tc] 112)) ta tn tc t) := ht.below B0
  generalize (w.alloc (.cells #[.slice ta tn tc] 112)) = v0 at B0 q0 HT ⊢
  go_wp2_with fail
  refine (implTextOk_is HT.out HX.out).mono ?_
  rintro e u ⟨rfl, hb⟩
  go_wp2_with fail
  go_ret
  exact ⟨rfl, B0.trans (hb.mono B0.size)⟩
set_option maxRecDepth 100000 in
set_option maxHeartbeats 4000000 in
theorem itemOk_is {v : Int} {ta : Option Addr} {tn tc : Nat} {t : List Sg} {w : World} {x : Bool} (hx : (decide (0 ≤ v ∧ v ≤ 3) && textB t) = x) (ht : Txt w ta tn tc t) :
    Calls Try.prog 110 #[.agg #[.int .i64 v, .slice ta tn tc]] w fun e w' => e = .returned (.bool x) ∧ Below w.heap.size w w' := by
  have HX : Hid ((decide (0 ≤ v ∧ v ≤ 3) && textB t) = x) := hx
  obtain ⟨tb, HTB⟩ : ∃ b, Hid (textB t = b) := ⟨_, rfl⟩
  clear hx
  go_enter Try.func110, Try.ntmps110
  go_upto_region 1 with fail
  have B0 : Below w.heap.size w (w.alloc (.cells #[.int .i64 v, .slice ta tn tc] 115)) := (Below.refl _ _).alloc (Nat.le_refl _) _
  have G0 : RowAt (w.alloc (.cells #[.int .i64 v, .slice ta tn tc] 115)) w.heap.size #[.int .i64 v, .slice ta tn tc] 115 := rowAt_new _ _ _
  have HT : Hid (Txt (w.alloc (.cells #[.int .i64 v, .slice ta tn tc] 115)) ta tn tc t) := ht.below B0
  generalize (w.alloc (.cells #[.int .i64 v, .slice ta tn tc] 115)) = v0 at B0 G0 HT ⊢
  have q0 : v0.cell? ⟨w.heap.size, 0, none⟩ = some (.int .i64 v) := G0.cell 0
  have q1 : v0.cell? ⟨w.heap.size, 1, none⟩ = some (.slice ta tn tc) := G0.cell 1
  clear G0 ht
  by_cases h0 : 0 ≤ v
  · by_cases h3 : v ≤ 3
    · go_wp2_with (go_at_call 104; refine (implTextOk_is HT.out HTB.out).mono ?_; rintro e u ⟨rfl, hb⟩)
      go_ret
      refine ⟨?_, B0.trans (hb.mono B0.size)⟩
      rw [← HX.out, decide_eq_true (show 0 ≤ v ∧ v ≤ 3 from ⟨h0, h3⟩), HTB.out, Bool.true_and]
      rfl
    · go_wp2_with fail
      go_ret
      refine ⟨?_, B0⟩
      rw [← HX.out, decide_eq_false (show ¬ (0 ≤ v ∧ v ≤ 3) by omega), Bool.false_and]
      rfl
  · go_wp2_with fail
    go_ret
    refine ⟨?_, B0⟩
    rw [← HX.out, decide_eq_false (show ¬ (0 ≤ v ∧ v ≤ 3) by omega), Bool.false_and]
    rfl
set_option maxRecDepth 100000 in
set_option maxHeartbeats 4000000 in
theorem sheetOk_is {R C : Int} {ca : Option Addr} {cn cc : Nat} {l : List Cl} {w : World} {x : Bool} (hx : okB R C l = x) (ht : Tab w ca cn cc l) :
    Calls Try.prog 113 #[.agg #[.int .i64 R, .int .i64 C, .slice ca cn cc]] w fun e w' => e = .returned (.bool x) ∧ Below w.heap.size w w' := by
  have HX : Hid (okB R C l = x) := hx
  go_enter Try.func113, Try.ntmps113
  go_upto_region 1 with fail
  have B0 : Below w.heap.size w (w.alloc (.cells #[.int .i64 R, .int .i64 C, .slice ca cn cc] 117)) := (Below.refl _ _).alloc (Nat.le_refl _) _
  have G0 : RowAt (w.alloc (.cells #[.int .i64 R, .int .i64 C, .slice ca cn cc] 117)) w.heap.size #[.int .i64 R, .int .i64 C, .slice ca cn cc] 117 := rowAt_new _ _ _
  have HT : Hid (Tab (w.alloc (.cells #[.int .i64 R, .int .i64 C, .slice ca cn cc] 117)) ca cn cc l) := ht.below B0
  generalize (w.alloc (.cells #[.int .i64 R, .int .i64 C, .slice ca cn cc] 117)) = v0 at B0 G0 HT ⊢
  have q0 : v0.cell? ⟨w.heap.size, 0, none⟩ = some (.int .i64 R) := G0.cell 0
  have q1 : v0.cell? ⟨w.heap.size, 1, none⟩ = some (.int .i64 C) := G0.cell 1
  have q2 : v0.cell? ⟨w.heap.size, 2, none⟩ = some (.slice ca cn cc) := G0.cell 2
  clear G0 ht hx
  go_wp2_with fail
  refine (implTableOk_is HX.out HT.out).mono ?_
  rintro e u ⟨rfl, hb⟩
  go_wp2_with fail
  go_ret
  exact ⟨rfl, B0.trans (hb.mono B0.size)⟩
theorem item_info : (Try.prog.info? 115).map (fun i => (i.zero, i.size, i.bytes)) = some (some (.agg #[.int .i64 0, .slice none 0 0]), 2, 32) := by kernel_rfl
theorem assert_item (v : Value) (w : World) : (Instr.typeAssert (.iface 115 v) 84 115 true).run Try.prog w = .ok (.tuple #[v, .bool true]) w := by
  simp [Instr.typeAssert, run_underlying Try.underlying115, typeInfo]
theorem assert_other {t : TypeId} (ht : t ≠ 115) (v : Value) (w : World) : (Instr.typeAssert (.iface t v) 84 115 true).run Try.prog w = .ok (.tuple #[.agg #[.int .i64 0, .slice none 0 0], .bool false]) w := by
  obtain ⟨i0, hi, hz0, hz1, hz2⟩ := info_parts item_info
  simp [Instr.typeAssert, run_underlying Try.underlying115, typeInfo, zeroValue, hi, hz0, ht]
set_option maxRecDepth 100000 in
set_option maxHeartbeats 4000000 in
theorem levelOf_item (v : Int) (ta : Option Addr) (tn tc : Nat) (w : World) :
    Calls Try.prog 58 #[.iface 115 (.agg #[.int .i64 v, .slice ta tn tc])] w fun e w' => e = .returned (.int .i64 v) ∧ Below w.heap.size w w' := by
  go_enter Try.func58, Try.ntmps58
  go_wp2_with fail
  rw [assert_item]
  go_wp2_with fail
  go_ret
  exact ⟨rfl, (Below.refl _ _).alloc (Nat.le_refl _) _⟩
set_option maxRecDepth 100000 in
set_option maxHeartbeats 4000000 in
theorem levelOf_para (ta : Option Addr) (tn tc : Nat) (w : World) :
    Calls Try.prog 58 #[.iface 112 (.agg #[.slice ta tn tc])] w fun e w' => e = .returned (.int .i64 (-1)) ∧ Below w.heap.size w w' := by
  go_enter Try.func58, Try.ntmps58
  go_wp2_with fail
  rw [assert_other (by decide)]
  go_wp2_with fail
  go_ret
  exact ⟨rfl, Below.refl _ _⟩
set_option maxRecDepth 100000 in
set_option maxHeartbeats 4000000 in
theorem levelOf_sheet (R C : Int) (ca : Option Addr) (cn cc : Nat) (w : World) :
    Calls Try.prog 58 #[.iface 117 (.agg #[.int .i64 R, .int .i64 C, .slice ca cn cc])] w fun e w' => e = .returned (.int .i64 (-1)) ∧ Below w.heap.size w w' := by
  go_enter Try.func58, Try.ntmps58
  go_wp2_with fail
  rw [assert_other (by decide)]
  go_wp2_with fail
  go_ret
  exact ⟨rfl, Below.refl _ _⟩
end Go.Proofs.Ytcecmkideoodiaa
namespace Go.Proofs.Ytcecmkideoodiaa
open Go.RowKit

/-- A part's cell at block b, o. -/
def PartAt (w : World) (b o : Nat) (x : Bl) : Prop := ∃ ta tn tc ca cn cc, w.cell? ⟨b, o, none⟩ = some (partV x.1 x.2.1 ta tn tc x.2.2.2.1 x.2.2.2.2.1 ca cn cc) ∧ Txt w ta tn tc x.2.2.1 ∧ Tab w ca cn cc x.2.2.2.2.2
/-- A slice value that reads as the parts of the blocks d. -/
def Outl (w : World) (a : Option Addr) (n cap : Nat) (d : List Bl) : Prop :=
  n = d.length ∧ n ≤ cap ∧ cap ≤ maxLen ∧ (d = [] ∨ ∃ b off, a = some ⟨b, off, none⟩ ∧ b < w.heap.size ∧ ∀ k, k < d.length → PartAt w b (off + k) (d.getD k bl0))
theorem PartAt.below {w w' : World} {b o : Nat} {x : Bl} (h : PartAt w b o x) (hb : Below w.heap.size w w') (hlt : b < w.heap.size) : PartAt w' b o x := by
  obtain ⟨ta, tn, tc, ca, cn, cc, h0, ht, hc⟩ := h
  exact ⟨ta, tn, tc, ca, cn, cc, (hb.cell (p := ⟨b, _, none⟩) hlt).trans h0, ht.below hb, hc.below hb⟩
theorem Outl.below {w w' : World} {a : Option Addr} {n cap : Nat} {d : List Bl} (h : Outl w a n cap d) (hb : Below w.heap.size w w') : Outl w' a n cap d := by
  obtain ⟨h1, h2, h3, h4⟩ := h
  refine ⟨h1, h2, h3, ?_⟩
  rcases h4 with h4 | ⟨b, off, h5, h6, h7⟩
  · exact .inl h4
  · exact .inr ⟨b, off, h5, Nat.lt_of_lt_of_le h6 hb.size, fun k hk => (h7 k hk).below hb h6⟩
def partOkB (x : Bl) : Bool := if x.1 = 1 then textB x.2.2.1 else if x.1 = 2 then decide (0 ≤ x.2.1 ∧ x.2.1 ≤ 3) && textB x.2.2.1 else okB x.2.2.2.1 x.2.2.2.2.1 x.2.2.2.2.2
def outK (d : List Bl) (k : Nat) : Bool := partOkB (d.getD k bl0) && !decide (aheadN d k + 1 < lvN (d.getD k bl0))
def outlB (d : List Bl) : Bool := decide (d.length ≤ 8) && (List.range d.length).all (outK d)
def kindB (x : Bl) : Prop := x.1 = 1 ∨ x.1 = 2 ∨ x.1 = 3
theorem outlB_no {d : List Bl} {i : Nat} (hi : i < d.length) (h : outK d i = false) : outlB d = false := by
  unfold outlB
  have : (List.range d.length).all (outK d) = false := by
    cases hq : (List.range d.length).all (outK d)
    · rfl
    · have := List.all_eq_true.1 hq i (List.mem_range.2 hi)
      rw [h] at this
      cases this
  rw [this, Bool.and_false]
theorem lv_small {x : Bl} (h : partOkB x = true) : -1 ≤ lvN x ∧ lvN x ≤ 3 := by
  unfold lvN
  by_cases h2 : x.1 = 2
  · rw [if_pos h2]
    unfold partOkB at h
    rw [if_neg (by omega), if_pos h2] at h
    simp only [Bool.and_eq_true, decide_eq_true_eq] at h
    omega
  · rw [if_neg h2]
    omega
theorem aheadO_small {d : List Bl} {i : Nat} (h : (List.range i).all (outK d) = true) : -1 ≤ aheadN d i ∧ aheadN d i ≤ 3 := by
  rcases i with _ | j
  · show (-1 : Int) ≤ -1 ∧ (-1 : Int) ≤ 3
    omega
  · have hj := List.all_eq_true.1 h j (List.mem_range.2 (by omega))
    unfold outK at hj
    rw [Bool.and_eq_true] at hj
    exact lv_small hj.1
set_option maxRecDepth 100000 in
set_option maxHeartbeats 8000000 in
theorem outlineOk_is {a : Option Addr} {n cap : Nat} {d : List Bl} {w : World} {x : Bool} (hx : outlB d = x) (h : Outl w a n cap d) (hk : ∀ y ∈ d, kindB y) :
    Calls Try.prog 42 #[.slice a n cap] w fun e w' => e = .returned (.bool x) ∧ Below w.heap.size w w' := by
  have HX : Hid (outlB d = x) := hx
  have HN : Hid (n = d.length) := h.1
  have hc := h.2.1
  have hm := h.2.2.1
  unfold maxLen at hm
  have H : Hid (Outl w a n cap d) := h
  have HK : Hid (∀ y ∈ d, kindB y) := hk
  clear h hx hk
  go_enter Try.func42, Try.ntmps42
  by_cases h8 : 8 < n
  · have h8' : (8 : Int) < (n : Int) := by omega
    go_wp2_with fail
    go_ret
    refine ⟨?_, Below.refl _ _⟩
    have hd : ¬ d.length ≤ 8 := by have := HN.out; omega
    rw [← HX.out]
    unfold outlB
    rw [decide_eq_false hd, Bool.false_and]
    rfl
  · have h8' : ¬ (8 : Int) < (n : Int) := by omega
    go_wp2_with fail
    go_loopw [3, 11] (fun av iv wr => ∃ (i : Nat) (ah : Int), i ≤ n ∧ iv = .int .i64 i ∧ av = .int .i64 ah ∧ ah = aheadN d i ∧ (List.range i).all (outK d) = true ∧ Below w.heap.size w wr) (fun _ iv _ => n - (intOf iv).toNat)
    case atStart => exact ⟨0, -1, Nat.zero_le _, rfl, rfl, rfl, rfl, Below.refl _ _⟩
    case round =>
      obtain ⟨i, ah, hi, rfl, rfl, hah, hall, hb⟩ := hrel
      have HAll : Hid ((List.range i).all (outK d) = true) := hall
      have HAH : Hid (aheadN d i = ah) := hah.symm
      have hsm : -1 ≤ ah ∧ ah ≤ 3 := by rw [hah]; exact aheadO_small hall
      have HB : Hid (Below w.heap.size w wr) := hb
      have HD : Hid (Outl wr a n cap d) := H.out.below hb
      clear hall hb hah
      by_cases hlt : i < n
      · have hil : i < d.length := by have := HN.out; omega
        have hib : (i : Int) < (n : Int) := by omega
        have hi0 : (0 : Int) ≤ (i : Int) := by omega
        rcases HD.out.2.2.2 with e | ⟨b, off, rfl, hbl, hcl⟩
        · rw [e] at hil
          exact absurd hil (by simp)
        obtain ⟨ta, tn, tc, ca, cn, cc, hcell, ht, htb⟩ := hcl i hil
        have hkd : kindB (d.getD i bl0) := by
          refine HK.out _ ?_
          rw [show d.getD i bl0 = d[i] by simp [List.getD, hil]]
          exact List.getElem_mem hil
        obtain ⟨⟨K, V, t, R, C, l⟩, hx⟩ : ∃ x, x = d.getD i bl0 := ⟨_, rfl⟩
        rw [← hx] at hcell ht htb hkd
        have HE : Hid (d.getD i bl0 = (K, V, t, R, C, l)) := hx.symm
        have HT : Hid (Txt wr ta tn tc t) := ht
        have HC : Hid (Tab wr ca cn cc l) := htb
        have HNX : Hid (lvN (K, V, t, R, C, l) = aheadN d (i + 1)) := by rw [← HE.out]; rfl
        obtain ⟨pb, HPB⟩ : ∃ b, Hid (partOkB (K, V, t, R, C, l) = b) := ⟨_, rfl⟩
        have HOK : Hid (outK d i = (pb && !decide (ah + 1 < lvN (K, V, t, R, C, l)))) := by
          show outK d i = _
          unfold outK
          rw [HE.out, HPB.out, HAH.out]
        clear hcl ht htb hx
        unfold kindB at hkd
        simp only at hkd hcell
        have sB := HB.out.size
        rcases hkd with hk1 | hk2 | hk3
        · subst hk1
          have c0 : wr.cell? ⟨b, off + i, none⟩ = some (.iface 112 (.agg #[.slice ta tn tc])) := hcell
          clear hcell
          have HP : Hid (textB t = pb) := HPB.out
          cases pb
          · have HO : Hid (outK d i = false) := by show outK d i = false; rw [HOK.out]; rfl
            go_wp2_with (change Calls Try.prog 102 #[.agg #[.slice ta tn tc]] _ _; refine (paraOk_is HP.out HT.out).mono ?_; rintro e u1 ⟨rfl, hb1⟩; replace HB : Hid (Below w.heap.size w u1) := HB.out.trans (hb1.mono sB); have sB1 := HB.out.size; clear hb1)
            go_ret
            exact ⟨by rw [← HX.out, outlB_no hil HO.out]; rfl, HB.out⟩
          · have HO : Hid (outK d i = true) := by show outK d i = true; rw [HOK.out]; simp [lvN]; omega
            go_wp2_with (first | (change Calls Try.prog 102 #[.agg #[.slice ta tn tc]] _ _; refine (paraOk_is HP.out HT.out).mono ?_; rintro e u1 ⟨rfl, hb1⟩; replace HB : Hid (Below w.heap.size w u1) := HB.out.trans (hb1.mono sB); have sB1 := HB.out.size; clear hb1) | (go_at_call 58; refine (levelOf_para ta tn tc _).mono ?_; rintro e u2 ⟨rfl, hb2⟩; replace HB : Hid (Below w.heap.size w u2) := HB.out.trans (hb2.mono HB.out.size); clear hb2))
            go_roundw
            case rel => exact ⟨i + 1, -1, by omega, by go_num, rfl, by rw [← HNX.out]; rfl, by rw [List.range_succ, List.all_append, HAll.out]; simp [HO.out], HB.out⟩
            case measure => simp [intOf]; omega
        · subst hk2
          have c0 : wr.cell? ⟨b, off + i, none⟩ = some (.iface 115 (.agg #[.int .i64 V, .slice ta tn tc])) := hcell
          clear hcell
          have HP : Hid ((decide (0 ≤ V ∧ V ≤ 3) && textB t) = pb) := HPB.out
          cases pb
          · have HO : Hid (outK d i = false) := by show outK d i = false; rw [HOK.out]; rfl
            go_wp2_with (change Calls Try.prog 110 #[.agg #[.int .i64 V, .slice ta tn tc]] _ _; refine (itemOk_is HP.out HT.out).mono ?_; rintro e u1 ⟨rfl, hb1⟩; replace HB : Hid (Below w.heap.size w u1) := HB.out.trans (hb1.mono sB); have sB1 := HB.out.size; clear hb1)
            go_ret
            exact ⟨by rw [← HX.out, outlB_no hil HO.out]; rfl, HB.out⟩
          · by_cases hlv : ah + 1 < V
            · have HO : Hid (outK d i = false) := by show outK d i = false; rw [HOK.out]; simp [lvN, hlv]
              go_wp2_with (first | (change Calls Try.prog 110 #[.agg #[.int .i64 V, .slice ta tn tc]] _ _; refine (itemOk_is HP.out HT.out).mono ?_; rintro e u1 ⟨rfl, hb1⟩; replace HB : Hid (Below w.heap.size w u1) := HB.out.trans (hb1.mono sB); have sB1 := HB.out.size; clear hb1) | (go_at_call 58; refine (levelOf_item V ta tn tc _).mono ?_; rintro e u2 ⟨rfl, hb2⟩; replace HB : Hid (Below w.heap.size w u2) := HB.out.trans (hb2.mono HB.out.size); clear hb2))
              go_ret
              exact ⟨by rw [← HX.out, outlB_no hil HO.out]; rfl, HB.out⟩
            · have HO : Hid (outK d i = true) := by show outK d i = true; rw [HOK.out]; simp [lvN, hlv]
              go_wp2_with (first | (change Calls Try.prog 110 #[.agg #[.int .i64 V, .slice ta tn tc]] _ _; refine (itemOk_is HP.out HT.out).mono ?_; rintro e u1 ⟨rfl, hb1⟩; replace HB : Hid (Below w.heap.size w u1) := HB.out.trans (hb1.mono sB); have sB1 := HB.out.size; clear hb1) | (go_at_call 58; refine (levelOf_item V ta tn tc _).mono ?_; rintro e u2 ⟨rfl, hb2⟩; replace HB : Hid (Below w.heap.size w u2) := HB.out.trans (hb2.mono HB.out.size); clear hb2))
              go_roundw
              case rel => exact ⟨i + 1, V, by omega, by go_num, rfl, by rw [← HNX.out]; rfl, by rw [List.range_succ, List.all_append, HAll.out]; simp [HO.out], HB.out⟩
              case measure => simp [intOf]; omega
        · subst hk3
          have c0 : wr.cell? ⟨b, off + i, none⟩ = some (.iface 117 (.agg #[.int .i64 R, .int .i64 C, .slice ca cn cc])) := hcell
          clear hcell
          have HP : Hid (okB R C l = pb) := HPB.out
          cases pb
          · have HO : Hid (outK d i = false) := by show outK d i = false; rw [HOK.out]; rfl
            go_wp2_with (change Calls Try.prog 113 #[.agg #[.int .i64 R, .int .i64 C, .slice ca cn cc]] _ _; refine (sheetOk_is HP.out HC.out).mono ?_; rintro e u1 ⟨rfl, hb1⟩; replace HB : Hid (Below w.heap.size w u1) := HB.out.trans (hb1.mono sB); have sB1 := HB.out.size; clear hb1)
            go_ret
            exact ⟨by rw [← HX.out, outlB_no hil HO.out]; rfl, HB.out⟩
          · have HO : Hid (outK d i = true) := by show outK d i = true; rw [HOK.out]; simp [lvN]; omega
            go_wp2_with (first | (change Calls Try.prog 113 #[.agg #[.int .i64 R, .int .i64 C, .slice ca cn cc]] _ _; refine (sheetOk_is HP.out HC.out).mono ?_; rintro e u1 ⟨rfl, hb1⟩; replace HB : Hid (Below w.heap.size w u1) := HB.out.trans (hb1.mono sB); have sB1 := HB.out.size; clear hb1) | (go_at_call 58; refine (levelOf_sheet R C ca cn cc _).mono ?_; rintro e u2 ⟨rfl, hb2⟩; replace HB : Hid (Below w.heap.size w u2) := HB.out.trans (hb2.mono HB.out.size); clear hb2))
            go_roundw
            case rel => exact ⟨i + 1, -1, by omega, by go_num, rfl, by rw [← HNX.out]; rfl, by rw [List.range_succ, List.all_append, HAll.out]; simp [HO.out], HB.out⟩
            case measure => simp [intOf]; omega
      · have hib : ¬ (i : Int) < (n : Int) := by omega
        obtain rfl : i = n := by omega
        go_wp2_with fail
        go_ret
        refine ⟨?_, HB.out⟩
        have hd : d.length ≤ 8 := by have := HN.out; omega
        rw [← HX.out]
        unfold outlB
        rw [decide_eq_true hd, Bool.true_and, ← HN.out, HAll.out]
        rfl
end Go.Proofs.Ytcecmkideoodiaa
namespace Go.Proofs.Ytcecmkideoodiaa
open Go.RowKit

theorem block_part (x : Bl) : blockB x = true ↔ kindB x ∧ partB x.1 x.2.1 x.2.2.1 x.2.2.2.1 x.2.2.2.2.1 x.2.2.2.2.2 = true ∧ partOkB x = true := by
  obtain ⟨k, v, t, R, C, l⟩ := x
  unfold blockB partB partOkB kindB
  simp only
  by_cases h1 : k = 1
  · subst h1
    simp [and_assoc, and_comm, and_left_comm]
  · by_cases h2 : k = 2
    · subst h2
      simp [and_assoc, and_comm, and_left_comm]
    · by_cases h3 : k = 3
      · subst h3
        simp [and_assoc, and_comm]
      · simp [h1, h2, h3]
theorem getD_bl {d : List Bl} {k : Nat} (hk : k < d.length) : d.getD k bl0 = d[k] := by simp [List.getD, hk]
/-- A document is ok just if each block is a part, and the parts are ok. -/
theorem doc_parts (d : List Bl) : docB d = true ↔ d.length ≤ 8 ∧ (∀ x ∈ d, kindB x ∧ partB x.1 x.2.1 x.2.2.1 x.2.2.2.1 x.2.2.2.2.1 x.2.2.2.2.2 = true) ∧ outlB d = true := by
  unfold docB outlB
  rw [Bool.and_eq_true, Bool.and_eq_true, decide_eq_true_eq, List.all_eq_true, List.all_eq_true]
  constructor
  · rintro ⟨h8, h⟩
    have hall : ∀ k, k < d.length → docK d k = true := fun k hk => h k (List.mem_range.2 hk)
    refine ⟨h8, fun x hx => ?_, h8, fun k hk => ?_⟩
    · obtain ⟨k, hk, e⟩ := List.getElem_of_mem hx
      have h1 := hall k hk
      unfold docK at h1
      rw [Bool.and_eq_true, block_part, getD_bl hk, e] at h1
      exact ⟨h1.1.1, h1.1.2.1⟩
    · have hk' := List.mem_range.1 hk
      have h1 := hall k hk'
      have ha := ahead_small (d := d) (i := k) (List.all_eq_true.2 fun j hj => hall j (by have := List.mem_range.1 hj; omega))
      unfold docK at h1
      rw [Bool.and_eq_true, block_part] at h1
      unfold outK
      rw [Bool.and_eq_true]
      refine ⟨h1.1.2.2, ?_⟩
      unfold lvN
      by_cases h2 : (d.getD k bl0).1 = 2
      · rw [if_pos h2]
        have h3 := h1.2
        rw [decide_eq_true h2, Bool.true_and] at h3
        exact h3
      · rw [if_neg h2, decide_eq_false (by omega)]
        rfl
  · rintro ⟨h8, hp, _, ho⟩
    refine ⟨h8, fun k hk => ?_⟩
    have hk' := List.mem_range.1 hk
    have h1 := ho k hk
    have h2 := hp (d.getD k bl0) (by rw [getD_bl hk']; exact List.getElem_mem hk')
    unfold outK at h1
    rw [Bool.and_eq_true] at h1
    unfold docK
    rw [Bool.and_eq_true, block_part]
    refine ⟨⟨h2.1, h2.2, h1.1⟩, ?_⟩
    have h3 := h1.2
    unfold lvN at h3
    by_cases hi : (d.getD k bl0).1 = 2
    · rw [if_pos hi] at h3
      rw [decide_eq_true hi, Bool.true_and]
      exact h3
    · rw [decide_eq_false hi, Bool.false_and]
      rfl
end Go.Proofs.Ytcecmkideoodiaa
namespace Go.Proofs.Ytcecmkideoodiaa
open Go.RowKit

/-- A value that owns a list of parts. -/
def OwnP (w : World) (B : Nat) (v : Value) (ps : List Value) : Prop := w.ownsRow B 84 1 v ps.length ps
section
variable {w w' : World} {B : Nat} {v : Value} {ps : List Value}
theorem OwnP.shape (h : OwnP w B v ps) : ∃ a cap, v = .slice a ps.length cap := by
  have h' := h
  unfold OwnP at h'
  rcases h'.2 with ⟨rfl, h0⟩ | ⟨g, cap, cur, rfl, r⟩
  · exact ⟨none, 0, by rw [h0]⟩
  · exact ⟨_, _, rfl⟩
theorem OwnP.below (h : OwnP w B v ps) (hb : Below w.heap.size w w') : OwnP w' B v ps := own_below h hb
theorem OwnP.nil (w : World) (B : Nat) : OwnP w B (.slice none 0 0) [] := World.ownsRow_nil _ _ _ _
theorem OwnP.len {a : Option Addr} {n cap : Nat} (h : OwnP w B (.slice a n cap) ps) : n = ps.length := by
  obtain ⟨a', c', he⟩ := h.shape
  simp only [Value.slice.injEq] at he
  exact he.2.1
theorem OwnP.row {a : Option Addr} {n cap : Nat} (h : OwnP w B (.slice a n cap) ps) : w.ownsRow B 84 1 (.slice a n cap) n ps := by
  have := h.len
  subst this
  exact h
end
theorem ownP_step {B : Nat} {w wr w1 : World} {a : Option Addr} {k c : Nat} {v' : Value} {l : List Value} {x : Value} {o : Obj} (ho : OwnP wr B (.slice a k c) l) (hbl : Below B w wr) (hB : B ≤ wr.heap.size)
    (hown : w1.ownsRow B 84 1 v' (k + 1) (l ++ [x])) (hgrow : (wr.alloc o).grownBy w1 (Value.slice a k c).ownBlock) :
    ∃ a' c', v' = .slice a' (k + 1) c' ∧ OwnP w1 B (.slice a' (k + 1) c') (l ++ [x]) ∧ Below B w w1 := by
  have hk := ho.len
  have h1 : OwnP w1 B v' (l ++ [x]) := by
    unfold OwnP
    rw [List.length_append, show l.length + [x].length = k + 1 by simp; omega]
    exact hown
  obtain ⟨a', c', rfl⟩ := h1.shape
  have e : (l ++ [x]).length = k + 1 := by simp; omega
  rw [e] at h1 ⊢
  refine ⟨a', c', rfl, h1, ?_⟩
  exact (hbl.alloc hB _).grown hgrow (by simp; omega) (fun q hq => (ho.row.lt q hq).1)
/-- A part that reads as a block. -/
def PartIs (w : World) (p : Value) (x : Bl) : Prop := ∃ ta tn tc ca cn cc, p = partV x.1 x.2.1 ta tn tc x.2.2.2.1 x.2.2.2.2.1 ca cn cc ∧ Txt w ta tn tc x.2.2.1 ∧ Tab w ca cn cc x.2.2.2.2.2
theorem PartIs.below {w w' : World} {p : Value} {x : Bl} (h : PartIs w p x) (hb : Below w.heap.size w w') : PartIs w' p x := by
  obtain ⟨ta, tn, tc, ca, cn, cc, h0, ht, hc⟩ := h
  exact ⟨ta, tn, tc, ca, cn, cc, h0, ht.below hb, hc.below hb⟩
theorem PartIs.belowB {w w' : World} {B : Nat} {p : Value} {x : Bl} (h : PartIs w p x) (hs : w.heap.size = B) (hb : Below B w w') : PartIs w' p x := by
  subst hs
  exact h.below hb
/-- Parts that read as blocks. -/
def PartsAre (w : World) (ps : List Value) (d : List Bl) : Prop := ps.length = d.length ∧ ∀ k, k < d.length → PartIs w (ps.getD k .nilIface) (d.getD k bl0)
theorem PartsAre.below {w w' : World} {ps : List Value} {d : List Bl} (h : PartsAre w ps d) (hb : Below w.heap.size w w') : PartsAre w' ps d := ⟨h.1, fun k hk => (h.2 k hk).below hb⟩
theorem PartsAre.nil (w : World) : PartsAre w [] [] := ⟨rfl, fun k hk => absurd hk (by simp)⟩
theorem PartsAre.snoc {w : World} {ps : List Value} {d : List Bl} {p : Value} {x : Bl} (h : PartsAre w ps d) (hp : PartIs w p x) : PartsAre w (ps ++ [p]) (d ++ [x]) := by
  refine ⟨by simp [h.1], fun k hk => ?_⟩
  by_cases hlt : k < d.length
  · have e1 : (ps ++ [p]).getD k .nilIface = ps.getD k .nilIface := by simp [List.getD, List.getElem?_append_left (show k < ps.length by rw [h.1]; exact hlt)]
    have e2 : (d ++ [x]).getD k bl0 = d.getD k bl0 := by simp [List.getD, List.getElem?_append_left hlt]
    rw [e1, e2]
    exact h.2 k hlt
  · have ek : k = d.length := by simp at hk; omega
    subst ek
    have e1 : (ps ++ [p]).getD d.length .nilIface = p := by simp [List.getD, ← h.1]
    have e2 : (d ++ [x]).getD d.length bl0 = x := by simp [List.getD]
    rw [e1, e2]
    exact hp
theorem outl_of {w : World} {B : Nat} {a : Option Addr} {n c : Nat} {ps : List Value} {d : List Bl} (h : OwnP w B (.slice a n c) ps) (hp : PartsAre w ps d) : Outl w a n c d := by
  have hn := h.len
  have h' := h.row
  rcases h'.2 with ⟨hv, h0⟩ | ⟨g, cap, cur, hv, hg, hgg, h1, h2, h3, h4⟩
  · cases hv
    exact ⟨by rw [hn, hp.1], Nat.le_refl _, by unfold maxLen; omega, .inl (List.eq_nil_of_length_eq_zero (by rw [← hp.1]; omega))⟩
  · simp only [Value.slice.injEq] at hv
    obtain ⟨rfl, -, rfl⟩ := hv
    refine ⟨by rw [hn, hp.1], h1, h2, .inr ⟨g, 0, rfl, ?_, fun k hk => ?_⟩⟩
    · exact (Array.getElem?_eq_some_iff.1 hgg).1
    · obtain ⟨ta, tn, tc, ca, cn, cc, e, ht, hc⟩ := hp.2 k hk
      refine ⟨ta, tn, tc, ca, cn, cc, ?_, ht, hc⟩
      have hk' : k < n := by rw [hn, hp.1]; exact hk
      have := h'.cellAt k (by omega)
      rw [Nat.zero_add, this, ← e]
      simp [List.getD, show k < ps.length by omega]
theorem Try.info84 : (Try.prog.info? 84).map (fun i => (i.zero, i.size, i.bytes)) = some (some .nilIface, 1, 16) := by kernel_rfl
theorem part_one (k v : Int) (ta : Option Addr) (tn tc : Nat) (R C : Int) (ca : Option Addr) (cn cc : Nat) : (partV k v ta tn tc R C ca cn cc).oneCell' = true := by
  unfold partV
  by_cases h1 : k = 1
  · rw [if_pos h1]; rfl
  · rw [if_neg h1]
    by_cases h2 : k = 2
    · rw [if_pos h2]; rfl
    · rw [if_neg h2]
      by_cases h3 : k = 3
      · rw [if_pos h3]; rfl
      · rw [if_neg h3]; rfl
theorem cell_new1p (w : World) (x : Value) (t : TypeId) : ∀ j u, [x][j]? = some u → (w.alloc (.cells #[x] t)).cell? ((⟨w.heap.size, 0, none⟩ : Addr).add j) = some u := by
  intro j u hj
  match j, hj with
  | 0, hj => simp at hj; subst hj; simp [Addr.add]
  | (j + 1), hj => simp at hj
theorem partB_kind {k v : Int} {t : List Sg} {R C : Int} {l : List Cl} (h : partB k v t R C l = true) : k = 1 ∨ k = 2 ∨ k = 3 := by
  unfold partB at h
  by_cases h1 : k = 1
  · exact .inl h1
  · by_cases h2 : k = 2
    · exact .inr (.inl h2)
    · by_cases h3 : k = 3
      · exact .inr (.inr h3)
      · simp [h1, h2, h3] at h
/-- What a block has nothing of that is not of its kind. -/
def partBB (x : Bl) : Bool := partB x.1 x.2.1 x.2.2.1 x.2.2.2.1 x.2.2.2.2.1 x.2.2.2.2.2
theorem doc_parts2 (d : List Bl) : docB d = true ↔ d.length ≤ 8 ∧ d.all partBB = true ∧ outlB d = true := by
  rw [doc_parts, List.all_eq_true]
  constructor
  · rintro ⟨h1, h2, h3⟩
    exact ⟨h1, fun x hx => (h2 x hx).2, h3⟩
  · rintro ⟨h1, h2, h3⟩
    exact ⟨h1, fun x hx => ⟨partB_kind (h2 x hx), h2 x hx⟩, h3⟩

set_option maxRecDepth 100000 in
set_option maxHeartbeats 8000000 in
theorem outlineOf_is {a : Option Addr} {n cap : Nat} {d : List Bl} {w : World} {x : Bool} (hx : docB d = x) (h : Dc w a n cap d) :
    Calls Try.prog 26 #[.agg #[.slice a n cap]] w fun e w' => ((x = false ∧ e = .returned (.tuple #[.slice none 0 0, .bool false])) ∨ (x = true ∧ ∃ pa pc ps, e = .returned (.tuple #[.slice pa n pc, .bool true]) ∧ OwnP w' w.heap.size (.slice pa n pc) ps ∧ PartsAre w ps d)) ∧ Below w.heap.size w w' := by
  have HX : Hid (docB d = x) := hx
  have hc := h.2.1
  have hm := h.2.2.1
  unfold maxLen at hm
  have HN : Hid (n = d.length) := h.1
  have H : Hid (Dc w a n cap d) := h
  clear h hx
  obtain ⟨i0, hi, hz0, hz1, hz2⟩ := info_parts Try.info84
  go_enter Try.func26, Try.ntmps26
  by_cases h8 : 8 < n
  · have h8' : (8 : Int) < (n : Int) := by omega
    go_wp2_with fail
    go_ret2
    refine ⟨.inl ⟨?_, rfl⟩, (Below.refl _ _).alloc (Nat.le_refl _) _⟩
    rw [← HX.out]
    unfold docB
    rw [decide_eq_false (by have := HN.out; omega), Bool.false_and]
  · have h8' : ¬ (8 : Int) < (n : Int) := by omega
    go_upto_region 4 with fail
    have B0 : Below w.heap.size w (w.alloc (.cells #[.slice a n cap] 25)) := (Below.refl _ _).alloc (Nat.le_refl _) _
    have D0 : Hid (Dc (w.alloc (.cells #[.slice a n cap] 25)) a n cap d) := H.out.below B0
    have G0 : RowAt (w.alloc (.cells #[.slice a n cap] 25)) w.heap.size #[.slice a n cap] 25 := rowAt_new _ _ _
    generalize w.alloc (.cells #[.slice a n cap] 25) = v0 at B0 D0 G0 ⊢
    have k0 : v0.cell? ⟨w.heap.size, 0, none⟩ = some (.slice a n cap) := G0.cell 0
    go_wp2_with fail
    clear k0
    have s0 := B0.size
    have HB0 : Hid (Below w.heap.size w v0) := B0
    clear B0
    go_loopw [4, 16] (fun pv iv wr => ∃ (i : Nat) (pa : Option Addr) (pc : Nat) (ps : List Value), i ≤ n ∧ iv = .int .i64 i ∧ pv = .slice pa i pc ∧ OwnP wr v0.heap.size (.slice pa i pc) ps ∧ PartsAre w ps (d.take i) ∧ (d.take i).all partBB = true ∧ Below v0.heap.size v0 wr) (fun _ iv _ => n - (intOf iv).toNat)
    case atStart => exact ⟨0, none, 0, [], Nat.zero_le _, rfl, rfl, OwnP.nil _ _, PartsAre.nil _, rfl, Below.refl _ _⟩
    case round =>
      obtain ⟨i, pa, pc, ps, hi', rfl, rfl, ho, hp, hall, hb⟩ := hrel
      have HO : Hid (OwnP wr v0.heap.size (.slice pa i pc) ps) := ho
      have HP : Hid (PartsAre w ps (d.take i)) := hp
      have HA : Hid ((d.take i).all partBB = true) := hall
      have HB : Hid (Below v0.heap.size v0 wr) := hb
      have sB := hb.size
      clear ho hp hall
      by_cases hlt : i < n
      · have hil : i < d.length := by have := HN.out; omega
        have hib : (i : Int) < (n : Int) := by omega
        have hi0 : (0 : Int) ≤ (i : Int) := by omega
        rcases H.out.2.2.2 with e | ⟨b, off, rfl, hbl, hcl⟩
        · rw [e] at hil
          exact absurd hil (by simp)
        obtain ⟨ta, tn, tc, ca, cn, cc, hblk0⟩ := hcl i hil
        have hblk := hblk0.below (HB0.out.trans (hb.mono s0)) hbl
        have HTK : Hid (d.take (i + 1) = d.take i ++ [d.getD i bl0]) := by
          show d.take (i + 1) = d.take i ++ [d.getD i bl0]
          rw [List.take_succ_eq_append_getElem hil, getD_bl hil]
        have HMEM : Hid (d.getD i bl0 ∈ d) := by
          show d.getD i bl0 ∈ d
          rw [getD_bl hil]
          exact List.getElem_mem hil
        obtain ⟨⟨K, V, t, R, C, l⟩, hx⟩ : ∃ x, x = d.getD i bl0 := ⟨_, rfl⟩
        rw [← hx] at hblk hblk0 HTK HMEM
        have HPI : Hid (PartIs w (partV K V ta tn tc R C ca cn cc) (K, V, t, R, C, l)) := ⟨ta, tn, tc, ca, cn, cc, rfl, hblk0.2.2.2.2.2.2.1, hblk0.2.2.2.2.2.2.2⟩
        clear hblk0
        obtain ⟨c0, c1, c2, c3, c4, c5, ht, htb⟩ := hblk
        simp only at c0 c1 c3 c4 ht htb
        obtain ⟨pb, HPB⟩ : ∃ b, Hid (partB K V t R C l = b) := ⟨_, rfl⟩
        clear hcl hx hb
        go_upto_region 7 with fail
        have hbA : Below wr.heap.size wr (wr.alloc (.cells #[.int .i64 K, .int .i64 V, .slice ta tn tc, .int .i64 R, .int .i64 C, .slice ca cn cc] 39)) := (Below.refl _ _).alloc (Nat.le_refl _) _
        have gA : RowAt (wr.alloc (.cells #[.int .i64 K, .int .i64 V, .slice ta tn tc, .int .i64 R, .int .i64 C, .slice ca cn cc] 39)) wr.heap.size #[.int .i64 K, .int .i64 V, .slice ta tn tc, .int .i64 R, .int .i64 C, .slice ca cn cc] 39 := rowAt_new _ _ _
        generalize wr.alloc (.cells #[.int .i64 K, .int .i64 V, .slice ta tn tc, .int .i64 R, .int .i64 C, .slice ca cn cc] 39) = u0 at hbA gA ⊢
        have HT : Hid (Txt u0 ta tn tc t) := ht.below hbA
        have HTB : Hid (Tab u0 ca cn cc l) := htb.below hbA
        have q0 : u0.cell? ⟨wr.heap.size, 0, none⟩ = some (.int .i64 K) := gA.cell 0
        have q1 : u0.cell? ⟨wr.heap.size, 1, none⟩ = some (.int .i64 V) := gA.cell 1
        have q2 : u0.cell? ⟨wr.heap.size, 2, none⟩ = some (.slice ta tn tc) := gA.cell 2
        have q3 : u0.cell? ⟨wr.heap.size, 3, none⟩ = some (.int .i64 R) := gA.cell 3
        have q4 : u0.cell? ⟨wr.heap.size, 4, none⟩ = some (.int .i64 C) := gA.cell 4
        have q5 : u0.cell? ⟨wr.heap.size, 5, none⟩ = some (.slice ca cn cc) := gA.cell 5
        have HBA : Hid (Below wr.heap.size wr u0) := hbA
        have sA := hbA.size
        clear ht htb c0 c1 c2 c3 c4 c5 hbA gA
        go_wp2_with fail
        refine (partOf_is HT.out HTB.out).mono ?_
        rintro e u1 ⟨rfl, hb1⟩
        rw [HPB.out]
        have hbB : Below wr.heap.size wr u1 := HBA.out.trans (hb1.mono sA)
        have s1 := hbB.size
        have HO1 : Hid (OwnP u1 v0.heap.size (.slice pa i pc) ps) := HO.out.below hbB
        have HB1 : Hid (Below v0.heap.size v0 u1) := HB.out.trans (hbB.mono sB)
        have hone := part_one K V ta tn tc R C ca cn cc
        clear q0 q1 q2 q3 q4 q5 hb1 hbB HBA
        cases pb
        · generalize partV K V ta tn tc R C ca cn cc = pv at HPI hone ⊢
          go_wp2_with fail
          go_ret2
          refine ⟨.inl ⟨?_, rfl⟩, HB0.out.trans (HB1.out.mono s0)⟩
          rw [← HX.out, ← Bool.not_eq_true, doc_parts2]
          rintro ⟨-, h2, -⟩
          have := List.all_eq_true.1 h2 _ HMEM.out
          rw [show partBB (K, V, t, R, C, l) = false from HPB.out] at this
          cases this
        · rcases partB_kind HPB.out with hK | hK | hK
          · subst hK
            have HP3 : Hid (PartIs w (.iface 112 (.agg #[.slice ta tn tc])) (1, V, t, R, C, l)) := HPI.out
            have ep : partV 1 V ta tn tc R C ca cn cc = .iface 112 (.agg #[.slice ta tn tc]) := rfl
            rw [ep]
            clear HPI hone ep
            go_wp2_with (at_builtin; refine wpList_append_own _ rfl (.tmp 27) (.tmp 29) 59 rfl v0.heap.size 84 i0 .nilIface 1 16 Try.underlying59 hi hz0 hz1 hz2 rfl (by decide) (.slice pa i pc) _ _ rfl (World.ownsRow.alloc HO1.out.row _) ⟨_, 0, none⟩ 1 1 [.iface 112 (.agg #[.slice ta tn tc])] rfl rfl (cell_new1p _ _ _) (by intro u hu; simp at hu; subst hu; rfl) (by unfold maxLen; omega) (by omega) (by simp; omega) ?_; intro v' u2 hown' hgrow _)
            obtain ⟨a', c', rfl, ho2, hb2⟩ := ownP_step (x := .iface 112 (.agg #[.slice ta tn tc])) HO1.out HB1.out (by omega) hown' hgrow
            go_roundw
            case rel =>
              refine ⟨i + 1, a', c', ps ++ [.iface 112 (.agg #[.slice ta tn tc])], by omega, by go_num, rfl, ho2, ?_, ?_, hb2⟩
              · rw [HTK.out]
                exact HP.out.snoc HP3.out
              · rw [HTK.out, List.all_append, HA.out]
                simp only [List.all_cons, List.all_nil, Bool.and_true, Bool.true_and]
                exact HPB.out
            case measure => simp [intOf]; omega
          · subst hK
            have HP3 : Hid (PartIs w (.iface 115 (.agg #[.int .i64 V, .slice ta tn tc])) (2, V, t, R, C, l)) := HPI.out
            have ep : partV 2 V ta tn tc R C ca cn cc = .iface 115 (.agg #[.int .i64 V, .slice ta tn tc]) := rfl
            rw [ep]
            clear HPI hone ep
            go_wp2_with (at_builtin; refine wpList_append_own _ rfl (.tmp 27) (.tmp 29) 59 rfl v0.heap.size 84 i0 .nilIface 1 16 Try.underlying59 hi hz0 hz1 hz2 rfl (by decide) (.slice pa i pc) _ _ rfl (World.ownsRow.alloc HO1.out.row _) ⟨_, 0, none⟩ 1 1 [.iface 115 (.agg #[.int .i64 V, .slice ta tn tc])] rfl rfl (cell_new1p _ _ _) (by intro u hu; simp at hu; subst hu; rfl) (by unfold maxLen; omega) (by omega) (by simp; omega) ?_; intro v' u2 hown' hgrow _)
            obtain ⟨a', c', rfl, ho2, hb2⟩ := ownP_step (x := .iface 115 (.agg #[.int .i64 V, .slice ta tn tc])) HO1.out HB1.out (by omega) hown' hgrow
            go_roundw
            case rel =>
              refine ⟨i + 1, a', c', ps ++ [.iface 115 (.agg #[.int .i64 V, .slice ta tn tc])], by omega, by go_num, rfl, ho2, ?_, ?_, hb2⟩
              · rw [HTK.out]
                exact HP.out.snoc HP3.out
              · rw [HTK.out, List.all_append, HA.out]
                simp only [List.all_cons, List.all_nil, Bool.and_true, Bool.true_and]
                exact HPB.out
            case measure => simp [intOf]; omega
          · subst hK
            have HP3 : Hid (PartIs w (.iface 117 (.agg #[.int .i64 R, .int .i64 C, .slice ca cn cc])) (3, V, t, R, C, l)) := HPI.out
            have ep : partV 3 V ta tn tc R C ca cn cc = .iface 117 (.agg #[.int .i64 R, .int .i64 C, .slice ca cn cc]) := rfl
            rw [ep]
            clear HPI hone ep
            go_wp2_with (at_builtin; refine wpList_append_own _ rfl (.tmp 27) (.tmp 29) 59 rfl v0.heap.size 84 i0 .nilIface 1 16 Try.underlying59 hi hz0 hz1 hz2 rfl (by decide) (.slice pa i pc) _ _ rfl (World.ownsRow.alloc HO1.out.row _) ⟨_, 0, none⟩ 1 1 [.iface 117 (.agg #[.int .i64 R, .int .i64 C, .slice ca cn cc])] rfl rfl (cell_new1p _ _ _) (by intro u hu; simp at hu; subst hu; rfl) (by unfold maxLen; omega) (by omega) (by simp; omega) ?_; intro v' u2 hown' hgrow _)
            obtain ⟨a', c', rfl, ho2, hb2⟩ := ownP_step (x := .iface 117 (.agg #[.int .i64 R, .int .i64 C, .slice ca cn cc])) HO1.out HB1.out (by omega) hown' hgrow
            go_roundw
            case rel =>
              refine ⟨i + 1, a', c', ps ++ [.iface 117 (.agg #[.int .i64 R, .int .i64 C, .slice ca cn cc])], by omega, by go_num, rfl, ho2, ?_, ?_, hb2⟩
              · rw [HTK.out]
                exact HP.out.snoc HP3.out
              · rw [HTK.out, List.all_append, HA.out]
                simp only [List.all_cons, List.all_nil, Bool.and_true, Bool.true_and]
                exact HPB.out
            case measure => simp [intOf]; omega
      · have hib : ¬ (i : Int) < (n : Int) := by omega
        obtain rfl : i = n := by omega
        have e : d.take i = d := List.take_of_length_le (by have := HN.out; omega)
        have HP2 : Hid (PartsAre w ps d) := by rw [← e]; exact HP.out
        have HA2 : Hid (d.all partBB = true) := by show d.all partBB = true; rw [← e]; exact HA.out
        have hk : ∀ y ∈ d, kindB y := fun y hy => partB_kind (List.all_eq_true.1 HA2.out y hy)
        obtain ⟨ob, HOB⟩ : ∃ b, Hid (outlB d = b) := ⟨_, rfl⟩
        have HOU : Hid (Outl wr pa i pc d) := outl_of HO.out (HP2.out.below (HB0.out.trans (hb.mono s0)))
        have HK : Hid (∀ y ∈ d, kindB y) := hk
        clear e hb hk
        cases ob
        · go_wp2_with (go_at_call 42; refine (outlineOk_is HOB.out HOU.out HK.out).mono ?_; rintro e u1 ⟨rfl, hb1⟩)
          go_ret2
          refine ⟨.inl ⟨?_, rfl⟩, HB0.out.trans ((HB.out.trans (hb1.mono sB)).mono s0)⟩
          rw [← HX.out, ← Bool.not_eq_true, doc_parts2, HOB.out]
          rintro ⟨-, -, h3⟩
          cases h3
        · go_wp2_with (go_at_call 42; refine (outlineOk_is HOB.out HOU.out HK.out).mono ?_; rintro e u1 ⟨rfl, hb1⟩)
          go_ret2
          refine ⟨.inr ⟨?_, pa, pc, ps, rfl, own_less (HO.out.below hb1) s0, HP2.out⟩, HB0.out.trans ((HB.out.trans (hb1.mono sB)).mono s0)⟩
          rw [← HX.out, doc_parts2]
          exact ⟨by have := HN.out; omega, HA2.out, HOB.out⟩
end Go.Proofs.Ytcecmkideoodiaa
namespace Go.Proofs.Ytcecmkideoodiaa
open Go.RowKit

/-- The texts of a table that is ok are short, and its cells few. -/
theorem ok_small {R C : Int} {l : List Cl} (h : okB R C l = true) : l.length ≤ 25 ∧ ∀ x ∈ l, x.2.2.2.2.length ≤ 24 := by
  have hf : formB R C l = true := by
    simp only [okB, Bool.and_eq_true] at h
    exact h.1
  obtain ⟨_, _, hl, hat⟩ := formB_of hf
  refine ⟨hl, fun x hx => ?_⟩
  obtain ⟨k, hk, e⟩ := List.getElem_of_mem hx
  have := (cellB_of (atB_cell (hat k hk))).2.2.2.2
  rw [show l.getD k cl0 = x by rw [← e]; simp [List.getD, hk]] at this
  simp only [textB, Bool.and_eq_true, decide_eq_true_eq] at this
  exact this.1
end Go.Proofs.Ytcecmkideoodiaa
namespace Go.Proofs.Ytcecmkideoodiaa
open Go.RowKit

/-- A block that is a part in form is small. -/
theorem part_small {x : Bl} (h : partOkB x = true) : (x.1 = 1 ∨ x.1 = 2 → x.2.2.1.length ≤ 24) ∧ (x.1 = 3 → x.2.2.2.2.2.length ≤ 25 ∧ ∀ k, k < x.2.2.2.2.2.length → (x.2.2.2.2.2.getD k cl0).2.2.2.2.length ≤ 24) := by
  obtain ⟨k, v, t, R, C, l⟩ := x
  unfold partOkB at h
  simp only at h ⊢
  by_cases h1 : k = 1
  · subst h1
    simp [textB] at h
    exact ⟨fun _ => h.1, fun e => absurd e (by decide)⟩
  · by_cases h2 : k = 2
    · subst h2
      simp [textB] at h
      exact ⟨fun _ => h.2.1, fun e => absurd e (by decide)⟩
    · rw [if_neg h1, if_neg h2] at h
      obtain ⟨a, b⟩ := ok_small h
      refine ⟨fun e => by omega, fun _ => ⟨a, fun j hj => b _ ?_⟩⟩
      rw [show l.getD j cl0 = l[j] by simp [List.getD, hj]]
      exact List.getElem_mem hj
theorem outlB_part {d : List Bl} (h : outlB d = true) {k : Nat} (hk : k < d.length) : partOkB (d.getD k bl0) = true := by
  unfold outlB at h
  rw [Bool.and_eq_true, List.all_eq_true] at h
  have := h.2 k (List.mem_range.2 hk)
  unfold outK at this
  rw [Bool.and_eq_true] at this
  exact this.1
theorem partBB_para {v : Int} {t : List Sg} {R C : Int} {l : List Cl} (h : partBB (1, v, t, R, C, l) = true) : v = 0 ∧ R = 0 ∧ C = 0 ∧ l = [] := by
  simp [partBB, partB, noneB] at h
  exact ⟨h.1, h.2.1.1, h.2.1.2, h.2.2⟩
theorem partBB_item {v : Int} {t : List Sg} {R C : Int} {l : List Cl} (h : partBB (2, v, t, R, C, l) = true) : R = 0 ∧ C = 0 ∧ l = [] := by
  simp [partBB, partB, noneB] at h
  exact ⟨h.1.1, h.1.2, h.2⟩
theorem partBB_sheet {v : Int} {t : List Sg} {R C : Int} {l : List Cl} (h : partBB (3, v, t, R, C, l) = true) : v = 0 ∧ t = [] := by
  simp [partBB, partB] at h
  exact h
end Go.Proofs.Ytcecmkideoodiaa
namespace Go.Proofs.Ytcecmkideoodiaa
open Go.RowKit

/-- A list of parts of which one is read. -/
theorem ownP_at {w : World} {B : Nat} {pa : Option Addr} {n pc : Nat} {ps : List Value} (h : OwnP w B (.slice pa n pc) ps) {i : Nat} (hi : i < n) : ∃ g, pa = some ⟨g, 0, none⟩ ∧ B ≤ g ∧ g < w.heap.size ∧ w.cell? ⟨g, i, none⟩ = some (ps.getD i .nilIface) ∧ w.frozen? ⟨g, i, none⟩ = false := by
  have hr := h.row
  rcases hr.2 with ⟨hv, h0⟩ | ⟨g, cap, cur, hv, hg, hgg, _⟩
  · omega
  · simp only [Value.slice.injEq] at hv
    obtain ⟨rfl, -, rfl⟩ := hv
    refine ⟨g, rfl, hg, (Array.getElem?_eq_some_iff.1 hgg).1, ?_, hr.frozenAt i⟩
    have := hr.cellAt i (by omega)
    rw [this]
    have hl : i < ps.length := by rw [← h.len]; exact hi
    simp [List.getD, hl]
theorem levelOf_part {K V : Int} {ta : Option Addr} {tn tc : Nat} {R C : Int} {ca : Option Addr} {cn cc : Nat} {v : Int} {w : World} (hk : K = 1 ∨ K = 2 ∨ K = 3) (hv : (if K = 2 then V else -1) = v) :
    Calls Try.prog 58 #[partV K V ta tn tc R C ca cn cc] w fun e w' => e = .returned (.int .i64 v) ∧ Below w.heap.size w w' := by
  subst hv
  rcases hk with rfl | rfl | rfl
  · exact levelOf_para ta tn tc w
  · exact levelOf_item V ta tn tc w
  · exact levelOf_sheet R C ca cn cc w
end Go.Proofs.Ytcecmkideoodiaa
namespace Go.Proofs.Ytcecmkideoodiaa
open Go.RowKit

theorem para_info : (Try.prog.info? 112).map (fun i => (i.zero, i.size, i.bytes)) = some (some (.agg #[.slice none 0 0]), 1, 24) := by kernel_rfl
theorem assert_para (v : Value) (w : World) : (Instr.typeAssert (.iface 112 v) 84 112 true).run Try.prog w = .ok (.tuple #[v, .bool true]) w := by
  simp [Instr.typeAssert, run_underlying Try.underlying112, typeInfo]
theorem assert_noPara {t : TypeId} (ht : t ≠ 112) (v : Value) (w : World) : (Instr.typeAssert (.iface t v) 84 112 true).run Try.prog w = .ok (.tuple #[.agg #[.slice none 0 0], .bool false]) w := by
  obtain ⟨i0, hi, hz0, hz1, hz2⟩ := info_parts para_info
  simp [Instr.typeAssert, run_underlying Try.underlying112, typeInfo, zeroValue, hi, hz0, ht]
end Go.Proofs.Ytcecmkideoodiaa
namespace Go.Proofs.Ytcecmkideoodiaa
open Go.RowKit

/-- The error that says that there is no such place. -/
def noPl : Value := .iface 67 (.string ⟨#[116, 104, 101, 114, 101, 32, 105, 115, 32, 110, 111, 32, 115, 117, 99, 104, 32, 112, 108, 97, 99, 101]⟩)
set_option maxRecDepth 100000 in
set_option maxHeartbeats 4000000 in
theorem partAt_no {a : Option Addr} {n cap : Nat} {z : Int} {w : World} (h : ¬ (0 ≤ z ∧ z < (n : Int))) :
    Calls Try.prog 43 #[.slice a n cap, .int .i64 z] w fun e w' => e = .returned (.tuple #[.nilIface, noPl]) ∧ w' = w := by
  by_cases h0 : z < 0
  · go_enter Try.func43, Try.ntmps43
    go_wp2_with fail
    go_ret2
    exact ⟨rfl, rfl⟩
  · have h1 : (n : Int) ≤ z := by omega
    clear h
    go_enter Try.func43, Try.ntmps43
    go_wp2_with fail
    go_ret2
    exact ⟨rfl, rfl⟩
set_option maxRecDepth 100000 in
set_option maxHeartbeats 4000000 in
theorem partAt_yes {a : Option Addr} {n cap : Nat} {i : Nat} {d : List Bl} {w : World} (h : Outl w a n cap d) (hi : i < n) :
    Calls Try.prog 43 #[.slice a n cap, .int .i64 i] w fun e w' => (∃ p, e = .returned (.tuple #[p, .nilIface]) ∧ PartIs w p (d.getD i bl0)) ∧ w' = w := by
  obtain ⟨h1, h2, h3, h4⟩ := h
  unfold maxLen at h3
  have hid : i < d.length := by omega
  rcases h4 with q | ⟨b, off, rfl, hbl, hcl⟩
  · rw [q] at hid
    exact absurd hid (by simp)
  obtain ⟨ta, tn, tc, ca, cn, cc, hc, ht, hl⟩ := hcl i hid
  have HP : Hid (PartIs w (partV (d.getD i bl0).1 (d.getD i bl0).2.1 ta tn tc (d.getD i bl0).2.2.2.1 (d.getD i bl0).2.2.2.2.1 ca cn cc) (d.getD i bl0)) := ⟨_, _, _, _, _, _, rfl, ht, hl⟩
  generalize partV (d.getD i bl0).1 (d.getD i bl0).2.1 ta tn tc (d.getD i bl0).2.2.2.1 (d.getD i bl0).2.2.2.2.1 ca cn cc = p at hc HP
  have hi0 : (0 : Int) ≤ (i : Int) := by omega
  have hib : (i : Int) < (n : Int) := by omega
  clear hcl ht hl hid h1
  go_enter Try.func43, Try.ntmps43
  go_wp2_with fail
  go_ret2
  exact ⟨⟨p, rfl, HP.out⟩, rfl⟩
theorem sheet_info : (Try.prog.info? 117).map (fun i => (i.zero, i.size, i.bytes)) = some (some (.agg #[.int .i64 0, .int .i64 0, .slice none 0 0]), 3, 40) := by kernel_rfl
theorem assert_sheet (v : Value) (w : World) : (Instr.typeAssert (.iface 117 v) 84 117 true).run Try.prog w = .ok (.tuple #[v, .bool true]) w := by
  simp [Instr.typeAssert, run_underlying Try.underlying117, typeInfo]
/-- What textIn answers. -/
def TxIn (x : Bl) (c : Int) (e : Ending) (w' : World) : Prop := ∃ va vn vc, (textIn x c = none ∧ e = .returned (.tuple #[.slice va vn vc, .bool false])) ∨ (∃ t, textIn x c = some t ∧ e = .returned (.tuple #[.slice va vn vc, .bool true]) ∧ Txt w' va vn vc t)
theorem txIn_no {x : Bl} {c : Int} {w' : World} {va : Option Addr} {vn vc : Nat} (h : textIn x c = none) : TxIn x c (.returned (.tuple #[.slice va vn vc, .bool false])) w' := ⟨va, vn, vc, .inl ⟨h, rfl⟩⟩
theorem txIn_yes {x : Bl} {c : Int} {w' : World} {va : Option Addr} {vn vc : Nat} {t : List Sg} (h : textIn x c = some t) (ht : Txt w' va vn vc t) : TxIn x c (.returned (.tuple #[.slice va vn vc, .bool true])) w' := ⟨va, vn, vc, .inr ⟨t, h, rfl, ht⟩⟩
set_option maxRecDepth 100000 in
set_option maxHeartbeats 4000000 in
theorem textIn_para {ta : Option Addr} {tn tc : Nat} {V R C : Int} {l : List Cl} {t : List Sg} {c : Int} {w : World} (ht : Txt w ta tn tc t) :
    Calls Try.prog 44 #[.iface 112 (.agg #[.slice ta tn tc]), .int .i64 c] w fun e w' => TxIn (1, V, t, R, C, l) c e w' ∧ Below w.heap.size w w' := by
  have HT : Hid (Txt w ta tn tc t) := ht
  have HE : Hid (textIn (1, V, t, R, C, l) c = if c = 0 then some t else none) := rfl
  clear ht
  by_cases h : c = 0
  · rw [if_pos h] at HE
    go_enter Try.func44, Try.ntmps44
    go_wp2_with fail
    rw [assert_para]
    go_wp2_with fail
    go_ret2
    exact ⟨txIn_yes HE.out (HT.out.below ((Below.refl _ _).alloc (Nat.le_refl _) _)), (Below.refl _ _).alloc (Nat.le_refl _) _⟩
  · rw [if_neg h] at HE
    have hcf : (c == 0) = false := by simp [h]
    go_enter Try.func44, Try.ntmps44
    go_wp2_with fail
    rw [assert_para]
    go_wp2_with fail
    go_ret2
    exact ⟨txIn_no HE.out, (Below.refl _ _).alloc (Nat.le_refl _) _⟩
set_option maxRecDepth 100000 in
set_option maxHeartbeats 4000000 in
theorem textIn_item {ta : Option Addr} {tn tc : Nat} {V R C : Int} {l : List Cl} {t : List Sg} {c : Int} {w : World} (ht : Txt w ta tn tc t) :
    Calls Try.prog 44 #[.iface 115 (.agg #[.int .i64 V, .slice ta tn tc]), .int .i64 c] w fun e w' => TxIn (2, V, t, R, C, l) c e w' ∧ Below w.heap.size w w' := by
  have HT : Hid (Txt w ta tn tc t) := ht
  have HE : Hid (textIn (2, V, t, R, C, l) c = if c = 0 then some t else none) := rfl
  clear ht
  by_cases h : c = 0
  · rw [if_pos h] at HE
    go_enter Try.func44, Try.ntmps44
    go_wp2_with fail
    rw [assert_noPara (by decide)]
    go_wp2_with fail
    rw [assert_item]
    go_wp2_with fail
    go_ret2
    exact ⟨txIn_yes HE.out (HT.out.below ((Below.refl _ _).alloc (Nat.le_refl _) _)), (Below.refl _ _).alloc (Nat.le_refl _) _⟩
  · rw [if_neg h] at HE
    have hcf : (c == 0) = false := by simp [h]
    go_enter Try.func44, Try.ntmps44
    go_wp2_with fail
    rw [assert_noPara (by decide)]
    go_wp2_with fail
    rw [assert_item]
    go_wp2_with fail
    go_ret2
    exact ⟨txIn_no HE.out, (Below.refl _ _).alloc (Nat.le_refl _) _⟩
set_option maxRecDepth 100000 in
set_option maxHeartbeats 4000000 in
theorem textIn_sheet {ca : Option Addr} {cn cc : Nat} {V R C : Int} {l : List Cl} {t : List Sg} {c : Int} {w : World} (hc : Tab w ca cn cc l) :
    Calls Try.prog 44 #[.iface 117 (.agg #[.int .i64 R, .int .i64 C, .slice ca cn cc]), .int .i64 c] w fun e w' => TxIn (3, V, t, R, C, l) c e w' ∧ Below w.heap.size w w' := by
  have HE : Hid (textIn (3, V, t, R, C, l) c = if 0 ≤ c ∧ c < (l.length : Int) then some (l.getD c.toNat cl0).2.2.2.2 else none) := rfl
  obtain ⟨h1, h2, h3, h4⟩ := hc
  unfold maxLen at h3
  have HN : Hid (cn = l.length) := h1
  clear h1
  have B0 : Below w.heap.size w (w.alloc (.cells #[.int .i64 R, .int .i64 C, .slice ca cn cc] 117)) := (Below.refl _ _).alloc (Nat.le_refl _) _
  have HB0 : Hid (Below w.heap.size w (w.alloc (.cells #[.int .i64 R, .int .i64 C, .slice ca cn cc] 117))) := B0
  by_cases h0 : 0 ≤ c
  · by_cases hlt : c < (cn : Int)
    · obtain ⟨j, rfl⟩ : ∃ j : Nat, c = j := ⟨c.toNat, by omega⟩
      have hjl : j < l.length := by have := HN.out; omega
      rcases h4 with q | ⟨b, off, rfl, hbl, hcl⟩
      · rw [q] at hjl
        exact absurd hjl (by simp)
      obtain ⟨-, -, -, -, xa, xn, xc, hc4, hxt⟩ := (hcl j hjl).below B0 hbl
      have HXT : Hid (Txt (w.alloc (.cells #[.int .i64 R, .int .i64 C, .slice (some ⟨b, off, none⟩) cn cc] 117)) xa xn xc (l.getD j cl0).2.2.2.2) := hxt
      have HE2 : Hid (textIn (3, V, t, R, C, l) j = some (l.getD j cl0).2.2.2.2) := by
        show textIn (3, V, t, R, C, l) j = _
        rw [HE.out, if_pos ⟨by omega, by omega⟩]
        rfl
      clear HE hcl hxt B0
      go_enter Try.func44, Try.ntmps44
      go_wp2_with fail
      rw [assert_noPara (by decide)]
      go_wp2_with fail
      rw [assert_other (by decide)]
      go_wp2_with fail
      rw [assert_sheet]
      go_wp2_with fail
      go_ret2
      exact ⟨txIn_yes HE2.out HXT.out, HB0.out⟩
    · have HE2 : Hid (textIn (3, V, t, R, C, l) c = none) := by
        show textIn (3, V, t, R, C, l) c = _
        rw [HE.out, if_neg (by have := HN.out; omega)]
      clear HE h4 B0
      go_enter Try.func44, Try.ntmps44
      go_wp2_with fail
      rw [assert_noPara (by decide)]
      go_wp2_with fail
      rw [assert_other (by decide)]
      go_wp2_with fail
      rw [assert_sheet]
      go_wp2_with fail
      go_ret2
      exact ⟨txIn_no HE2.out, HB0.out⟩
  · have HE2 : Hid (textIn (3, V, t, R, C, l) c = none) := by
      show textIn (3, V, t, R, C, l) c = _
      rw [HE.out, if_neg (by omega)]
    clear HE h4 B0
    go_enter Try.func44, Try.ntmps44
    go_wp2_with fail
    rw [assert_noPara (by decide)]
    go_wp2_with fail
    rw [assert_other (by decide)]
    go_wp2_with fail
    rw [assert_sheet]
    go_wp2_with fail
    go_ret2
    exact ⟨txIn_no HE2.out, HB0.out⟩
theorem textIn_is {p : Value} {x : Bl} {c : Int} {w : World} (hp : PartIs w p x) (hk : kindB x) :
    Calls Try.prog 44 #[p, .int .i64 c] w fun e w' => TxIn x c e w' ∧ Below w.heap.size w w' := by
  obtain ⟨K, V, t, R, C, l⟩ := x
  obtain ⟨ta, tn, tc, ca, cn, cc, rfl, ht, hc⟩ := hp
  unfold kindB at hk
  simp only at hk ht hc
  rcases hk with rfl | rfl | rfl
  · exact textIn_para ht
  · exact textIn_item ht
  · exact textIn_sheet hc
/-- What textAt answers. -/
def TxAt (r : Option (List Sg)) (e : Ending) (w' : World) : Prop := (r = none ∧ e = .returned (.tuple #[.slice none 0 0, noPl])) ∨ (∃ t va vn vc, r = some t ∧ e = .returned (.tuple #[.slice va vn vc, .nilIface]) ∧ Txt w' va vn vc t)
theorem txAt_no {r : Option (List Sg)} {w' : World} (h : r = none) : TxAt r (.returned (.tuple #[.slice none 0 0, noPl])) w' := .inl ⟨h, rfl⟩
theorem txAt_yes {r : Option (List Sg)} {w' : World} {t : List Sg} {va : Option Addr} {vn vc : Nat} (h : r = some t) (ht : Txt w' va vn vc t) : TxAt r (.returned (.tuple #[.slice va vn vc, .nilIface])) w' := .inr ⟨t, va, vn, vc, h, rfl, ht⟩
theorem txIn_el {x : Bl} {c : Int} {e : Ending} {w' : World} (h : TxIn x c e w') : ∃ va vn vc, (textIn x c = none ∧ e = .returned (.tuple #[.slice va vn vc, .bool false])) ∨ (∃ t, textIn x c = some t ∧ e = .returned (.tuple #[.slice va vn vc, .bool true]) ∧ Txt w' va vn vc t) := h
set_option maxRecDepth 100000 in
set_option maxHeartbeats 8000000 in
theorem textAt_is {a : Option Addr} {n cap : Nat} {d : List Bl} {pb pc pa : Int} {w : World} (h : Outl w a n cap d) (hk : ∀ y ∈ d, kindB y) :
    Calls Try.prog 27 #[.slice a n cap, .agg #[.int .i64 pb, .int .i64 pc, .int .i64 pa]] w fun e w' => TxAt (placeT d pb pc pa) e w' ∧ Below w.heap.size w w' := by
  have HN : Hid (n = d.length) := h.1
  have hc := h.2.1
  have hm := h.2.2.1
  unfold maxLen at hm
  have H : Hid (Outl w a n cap d) := h
  have HK : Hid (∀ y ∈ d, kindB y) := hk
  clear h hk
  go_enter Try.func27, Try.ntmps27
  go_upto_region 1 with fail
  have B0 : Below w.heap.size w (w.alloc (.cells #[.int .i64 pb, .int .i64 pc, .int .i64 pa] 27)) := (Below.refl _ _).alloc (Nat.le_refl _) _
  have G0 : RowAt (w.alloc (.cells #[.int .i64 pb, .int .i64 pc, .int .i64 pa] 27)) w.heap.size #[.int .i64 pb, .int .i64 pc, .int .i64 pa] 27 := rowAt_new _ _ _
  generalize (w.alloc (.cells #[.int .i64 pb, .int .i64 pc, .int .i64 pa] 27)) = v0 at B0 G0 ⊢
  have k0 : v0.cell? ⟨w.heap.size, 0, none⟩ = some (.int .i64 pb) := G0.cell 0
  have k1 : v0.cell? ⟨w.heap.size, 1, none⟩ = some (.int .i64 pc) := G0.cell 1
  have k2 : v0.cell? ⟨w.heap.size, 2, none⟩ = some (.int .i64 pa) := G0.cell 2
  have s0 := B0.size
  have HG : Hid (RowAt v0 w.heap.size #[.int .i64 pb, .int .i64 pc, .int .i64 pa] 27) := G0
  have HB0 : Hid (Below w.heap.size w v0) := B0
  have HO : Hid (Outl v0 a n cap d) := H.out.below B0
  have l0 := G0.lt
  clear G0 B0
  by_cases hz : 0 ≤ pb ∧ pb < (n : Int)
  · obtain ⟨hz0, hz1⟩ := hz
    obtain ⟨i, rfl⟩ : ∃ i : Nat, pb = i := ⟨pb.toNat, by omega⟩
    have hin : i < n := by omega
    have hid : i < d.length := by have := HN.out; omega
    have HKI : Hid (kindB (d.getD i bl0)) := HK.out _ (by rw [getD_bl hid]; exact List.getElem_mem hid)
    have HP : Hid (placeT d i pc pa = (textIn (d.getD i bl0) pc).bind fun t => if 0 ≤ pa ∧ pa ≤ (t.length : Int) then some t else none) := by
      show placeT d i pc pa = _
      rw [placeT_in ⟨by omega, by omega⟩]
      rfl
    clear hid
    go_wp2_with fail
    refine (partAt_yes HO.out hin).mono ?_
    rintro e w1 ⟨⟨p, rfl, hp⟩, rfl⟩
    have HPI : Hid (PartIs w1 p (d.getD i bl0)) := hp
    clear hp
    go_wp2_with fail
    refine (textIn_is HPI.out HKI.out).mono ?_
    rintro e w2 ⟨ht, hb⟩
    have s2 := hb.size
    have k3 := (hb.cell (p := ⟨w.heap.size, 2, none⟩) l0).trans k2
    obtain ⟨va, vn, vc, (⟨he, rfl⟩ | ⟨t, he, rfl, htx⟩)⟩ := txIn_el ht
    · have HE : Hid (placeT d i pc pa = none) := by
        show placeT d i pc pa = none
        rw [HP.out, he]
        rfl
      clear he ht k0 k1
      go_wp2_with fail
      go_ret2
      exact ⟨txAt_no HE.out, HB0.out.trans (hb.mono s0)⟩
    · have HT : Hid (Txt w2 va vn vc t) := htx
      have HE : Hid (placeT d i pc pa = if 0 ≤ pa ∧ pa ≤ (vn : Int) then some t else none) := by
        show placeT d i pc pa = _
        rw [HP.out, he, htx.1]
        rfl
      have hvc := htx.2.1
      have hvm := htx.2.2.1
      unfold maxLen at hvm
      clear he ht k0 k1 htx HP
      by_cases h0 : 0 ≤ pa
      · by_cases h1 : pa ≤ (vn : Int)
        · rw [if_pos ⟨h0, h1⟩] at HE
          have d0 : ¬ pa < 0 := by omega
          have d1 : ¬ (vn : Int) < pa := by omega
          go_wp2_with fail
          go_ret2
          exact ⟨txAt_yes HE.out HT.out, HB0.out.trans (hb.mono s0)⟩
        · rw [if_neg (fun hh => h1 hh.2)] at HE
          have d0 : ¬ pa < 0 := by omega
          have d1 : (vn : Int) < pa := by omega
          go_wp2_with fail
          go_ret2
          exact ⟨txAt_no HE.out, HB0.out.trans (hb.mono s0)⟩
      · rw [if_neg (fun hh => h0 hh.1)] at HE
        have d0 : pa < 0 := by omega
        go_wp2_with fail
        go_ret2
        exact ⟨txAt_no HE.out, HB0.out.trans (hb.mono s0)⟩
  · have HE : Hid (placeT d pb pc pa = none) := placeT_out (by have := HN.out; omega)
    go_wp2_with fail
    refine (partAt_no hz).mono ?_
    rintro e w1 ⟨rfl, rfl⟩
    unfold noPl
    clear hz
    go_wp2_with fail
    go_ret2
    exact ⟨txAt_no HE.out, HB0.out⟩
end Go.Proofs.Ytcecmkideoodiaa
namespace Go.Proofs.Ytcecmkideoodiaa
open Go.RowKit Go.Extern.Stop Go.Stop Go.Extern

theorem Try.isTypeOfR (v : Value) (w : World) : (Extern.ReflectliteType.typeOf #[.iface 67 v]).run Try.prog w = .ok (.iface 120 (.agg #[.pointer (some ⟨1, 67, none⟩)])) w := by kernel_rfl
theorem Try.callComparableR (w : World) : (callFunc 130 #[.agg #[.pointer (some ⟨1, 67, none⟩)]]).run Try.prog w = .ok (.value (.bool true)) w := by
  have h := @run_callFunc_extern Try.prog 130 _ (Extern.ReflectliteType.method fun t => do Go.Extern.Rtype.noPackHeld "Comparable" t; pure (.bool (← typeInfo t).comparable)) Try.func130 (by kernel_rfl) (by kernel_rfl) (by kernel_rfl) (by kernel_rfl)
  exact (h _ _).trans (by kernel_rfl)
theorem Try.isMethodComparable (v : Value) (w : World) : (Go.method 318 120 v "Comparable").run Try.prog w = .ok (130, v) w := by kernel_rfl
theorem run_eql_iface_str {P : Program} (w : World) {t tx : TypeId} {ms : Array (String × TypeId)} (a : ByteArray) (ha : (a == a) = true)
    (ht : P.underlying t = some (.interface ms)) (hc : (P.info? tx).map (·.comparable) = some true) (hx : P.underlying tx = some .string) :
    (binOp .eql t (.iface tx (.string a)) (.iface tx (.string a))).run P w = .ok (.bool true) w := by
  cases hi : P.info? tx with
  | none => simp [hi] at hc
  | some i =>
    have hcc : i.comparable = true := by simpa [hi] using hc
    have h : ∀ d : Nat, (Op.equalIn (d + 2) t (.iface tx (.string a)) (.iface tx (.string a))).run P w = .ok true w := fun d => by
      simp [Op.equalIn, run_underlying ht, run_underlying hx, typeInfo, hi, hcc]
      exact ha
    simp only [binOp]
    simp [Op.equal, Op.maxDepth, h 9998]
theorem Try.refusalComp : (Try.prog.info? 67).map (·.comparable) = some true := by kernel_rfl
set_option maxRecDepth 100000 in
set_option maxHeartbeats 4000000 in
theorem isPl_same (w : World) :
    Calls Try.prog 28 #[noPl, noPl] w fun e w' => e = .returned (.bool true) ∧ w' = w := by
  unfold noPl
  have h8 := @run_callFunc_extern Try.prog 45 _ Extern.ReflectliteType.typeOf Try.func45 (by kernel_rfl) (by kernel_rfl) (by kernel_rfl) (by kernel_rfl)
  have h32 := Try.callComparableR
  have tT := Try.isTypeOfR
  have mR := Try.isMethodComparable
  have heq := run_eql_iface_str (P := Try.prog) w ⟨#[116, 104, 101, 114, 101, 32, 105, 115, 32, 110, 111, 32, 115, 117, 99, 104, 32, 112, 108, 97, 99, 101]⟩ (by kernel_rfl) Try.underlying63 Try.refusalComp Try.underlying67
  go_enter Try.func28, Try.ntmps28
  go_wp2
  refine wp_loop_rounds 1 ?_
  rw [rounds_succ]
  go_wp2
  go_ret
  exact ⟨rfl, rfl⟩
set_option maxRecDepth 100000 in
set_option maxHeartbeats 4000000 in
theorem isPl_nil (w : World) :
    Calls Try.prog 28 #[.nilIface, noPl] w fun e w' => e = .returned (.bool false) ∧ w' = w := by
  unfold noPl
  have hn := run_eql_iface_nil_left (P := Try.prog) w 67 (.string ⟨#[116, 104, 101, 114, 101, 32, 105, 115, 32, 110, 111, 32, 115, 117, 99, 104, 32, 112, 108, 97, 99, 101]⟩) Try.underlying63
  go_enter Try.func28, Try.ntmps28
  go_wp2
  go_ret
  exact ⟨rfl, rfl⟩
end Go.Proofs.Ytcecmkideoodiaa
namespace Go.Proofs.Ytcecmkideoodiaa
open Go.RowKit

set_option maxHeartbeats 1000000 in
theorem copiedSign_any {a : Option Addr} {n cap : Nat} {l : List Sg} {w : World} (h : Txt w a n cap l) (hn : n ≤ 1000000) :
    Calls Try.prog 33 #[.slice a n cap] w fun e w' => (∃ p q, e = .returned (.slice p n q) ∧ Own w' w.heap.size (.slice p n q) l) ∧ Below w.heap.size w w' := by
  have H : Hid (Txt w a n cap l) := h
  clear h
  go_enter Try.func33, Try.ntmps33
  go_wp2_with (at_builtin; refine wpList_append_txt rfl (.const (.slice none 0 0)) (.tmp 3) rfl w.heap.size (.slice none 0 0) 0 [] rfl (World.ownsRow_nil _ _ _ _) a n cap l rfl H.out (by omega) (Nat.le_refl _) ?_; intro v' w1 hown hgrow)
  go_ret
  have hb : Below w.heap.size w w1 := (Below.refl _ _).grown hgrow (Nat.le_refl _) (fun k hk => by simp [Value.ownBlock] at hk)
  have e := H.out.1
  subst e
  have ho : Own w1 w.heap.size v' l := by
    unfold Own
    simpa using hown
  obtain ⟨p, q, rfl, -⟩ := ho.shape
  exact ⟨⟨p, q, rfl, ho⟩, hb⟩
end Go.Proofs.Ytcecmkideoodiaa
namespace Go.Proofs.Ytcecmkideoodiaa
open Go.RowKit

theorem place_info : (Try.prog.info? 27).map (·.size) = some 3 := by kernel_rfl
theorem placeT_small {d : List Bl} (hd : docB d = true) {b c a : Int} {t : List Sg} (h : placeT d b c a = some t) : t.length ≤ 24 := by
  unfold placeT at h
  split at h
  · rename_i hb
    obtain ⟨i, rfl⟩ : ∃ i : Nat, b = i := ⟨b.toNat, by omega⟩
    obtain ⟨hn8, hall, hou⟩ := (doc_parts2 d).1 hd
    have hi : i < d.length := by omega
    have hp := outlB_part hou hi
    have hkd := partB_kind (List.all_eq_true.1 hall _ (List.getElem_mem hi))
    simp only [Int.toNat_natCast, getD_bl hi] at h hp
    generalize d[i] = x at h hp hkd
    obtain ⟨K, V, s, R, C, l⟩ := x
    obtain ⟨h1, h2⟩ := part_small hp
    simp only at h1 h2 hkd
    cases hx : textIn (K, V, s, R, C, l) c with
    | none => rw [hx] at h; simp at h
    | some t' =>
      rw [hx] at h
      simp only [Option.bind_some] at h
      split at h
      · cases h
        unfold textIn at hx
        simp only at hx
        split at hx
        · rename_i h3
          split at hx
          · rename_i hc
            cases hx
            exact (h2 h3).2 _ (by omega)
          · cases hx
        · split at hx
          · cases hx
            exact h1 (by omega)
          · cases hx
      · cases h
  · cases h
/-- The parts of a document that a call asks for. -/
def OutlOf (w : World) (d : List Bl) (v : Value) : Prop := ∃ pa n pc, v = .slice pa n pc ∧ Outl w pa n pc (if docB d = true then d else []) ∧ ∀ y ∈ (if docB d = true then d else []), kindB y
theorem outlOf_any {a : Option Addr} {n cap : Nat} {d : List Bl} {w : World} (h : Dc w a n cap d) :
    Calls Try.prog 26 #[.agg #[.slice a n cap]] w fun e w' => (∃ v, e = .returned (.tuple #[v, .bool (docB d)]) ∧ OutlOf w' d v) ∧ Below w.heap.size w w' := by
  refine (outlineOf_is rfl h).mono ?_
  rintro e w1 ⟨(⟨hx, rfl⟩ | ⟨hx, pa, pc, ps, rfl, ho, hp⟩), hb⟩
  · refine ⟨⟨_, by rw [hx], none, 0, 0, rfl, ?_⟩, hb⟩
    rw [hx]
    exact ⟨⟨rfl, Nat.le_refl _, by unfold maxLen; omega, .inl rfl⟩, fun y hy => absurd hy (by simp)⟩
  · refine ⟨⟨_, by rw [hx], pa, n, pc, rfl, ?_⟩, hb⟩
    rw [if_pos hx]
    exact ⟨outl_of ho (hp.below hb), fun y hy => partB_kind (List.all_eq_true.1 ((doc_parts2 d).1 hx).2.1 y hy)⟩
theorem placeT_of (d : List Bl) (b c a : Int) : placeT (if docB d = true then d else []) b c a = plT d b c a := by
  unfold plT
  by_cases h : docB d = true
  · rw [if_pos h, if_pos h]
  · rw [if_neg h, if_neg h, placeT_nil]
theorem textAt_of {d : List Bl} {v : Value} {pb pc pa : Int} {w : World} (h : OutlOf w d v) :
    Calls Try.prog 27 #[v, .agg #[.int .i64 pb, .int .i64 pc, .int .i64 pa]] w fun e w' => TxAt (plT d pb pc pa) e w' ∧ Below w.heap.size w w' := by
  obtain ⟨a, n, c, rfl, h1, h2⟩ := h
  have := textAt_is (pb := pb) (pc := pc) (pa := pa) h1 h2
  rw [placeT_of] at this
  exact this
set_option maxRecDepth 100000 in
set_option maxHeartbeats 8000000 in
theorem implPlaceOk_is {a : Option Addr} {n cap : Nat} {d : List Bl} {pb pc pa : Int} {w : World} {x : Bool} (hx : (plT d pb pc pa).isSome = x) (h : Dc w a n cap d) :
    Calls Try.prog 8 #[.agg #[.slice a n cap], .agg #[.int .i64 pb, .int .i64 pc, .int .i64 pa]] w fun e w' => e = .returned (.bool x) ∧ Below w.heap.size w w' := by
  have HX : Hid ((plT d pb pc pa).isSome = x) := hx
  have H : Hid (Dc w a n cap d) := h
  clear h hx
  go_enter Try.func8, Try.ntmps8
  go_upto_region 1 with fail
  have B0 : Below w.heap.size w ((w.alloc (.cells #[.slice a n cap] 25)).alloc (.cells #[.int .i64 pb, .int .i64 pc, .int .i64 pa] 27)) := ((Below.refl _ _).alloc (Nat.le_refl _) _).alloc (by simp) _
  have G0 : RowAt ((w.alloc (.cells #[.slice a n cap] 25)).alloc (.cells #[.int .i64 pb, .int .i64 pc, .int .i64 pa] 27)) w.heap.size #[.slice a n cap] 25 := (rowAt_new w _ _).alloc _
  have G1 : RowAt ((w.alloc (.cells #[.slice a n cap] 25)).alloc (.cells #[.int .i64 pb, .int .i64 pc, .int .i64 pa] 27)) (w.heap.size + 1) #[.int .i64 pb, .int .i64 pc, .int .i64 pa] 27 := by
    have := rowAt_new (w.alloc (.cells #[.slice a n cap] 25)) #[.int .i64 pb, .int .i64 pc, .int .i64 pa] 27
    simpa using this
  generalize ((w.alloc (.cells #[.slice a n cap] 25)).alloc (.cells #[.int .i64 pb, .int .i64 pc, .int .i64 pa] 27)) = v0 at B0 G0 G1 ⊢
  have k0 : v0.cell? ⟨w.heap.size, 0, none⟩ = some (.slice a n cap) := G0.cell 0
  have l1 := G1.lt
  have s0 := B0.size
  have HB0 : Hid (Below w.heap.size w v0) := B0
  have HD0 : Hid (Dc v0 a n cap d) := H.out.below B0
  have HG1 : Hid (RowAt v0 (w.heap.size + 1) #[.int .i64 pb, .int .i64 pc, .int .i64 pa] 27) := G1
  clear G0 G1 B0
  go_wp2_with fail
  refine (outlOf_any HD0.out).mono ?_
  rintro e w1 ⟨⟨v, rfl, ho⟩, hb1⟩
  have HO : Hid (OutlOf w1 d v) := ho
  have HG2 : Hid (RowAt w1 (w.heap.size + 1) #[.int .i64 pb, .int .i64 pc, .int .i64 pa] 27) := HG1.out.below hb1 l1
  have s1 := hb1.size
  clear ho k0
  go_wp2_with (refine wpList_load_row rfl 27 (.tmp 3) rfl (w.heap.size + 1) rfl 27 #[.int .i64 pb, .int .i64 pc, .int .i64 pa] (0, 0) _ HG2.out Try.underlying27 rfl place_info ?_)
  refine (textAt_of HO.out).mono ?_
  rintro e w2 ⟨ht, hb2⟩
  have s2 := hb2.size
  rcases ht with ⟨he, rfl⟩ | ⟨t, va, vn, vc, he, rfl, -⟩
  · have HE : Hid (x = false) := by
      show x = false
      rw [← HX.out, he]
      rfl
    clear he
    have hp : noPl = .iface 67 (.string ⟨#[116, 104, 101, 114, 101, 32, 105, 115, 32, 110, 111, 32, 115, 117, 99, 104, 32, 112, 108, 97, 99, 101]⟩) := rfl
    have HS := isPl_same
    rw [hp] at HS ⊢
    clear hp
    go_wp2_with fail
    refine (HS _).mono ?_
    rintro e w3 ⟨rfl, rfl⟩
    go_wp2_with fail
    go_ret
    exact ⟨by rw [HE.out]; rfl, (HB0.out.trans (hb1.mono s0)).trans (hb2.mono (by omega))⟩
  · have HE : Hid (x = true) := by
      show x = true
      rw [← HX.out, he]
      rfl
    clear he
    have HS := isPl_nil
    have hp : noPl = .iface 67 (.string ⟨#[116, 104, 101, 114, 101, 32, 105, 115, 32, 110, 111, 32, 115, 117, 99, 104, 32, 112, 108, 97, 99, 101]⟩) := rfl
    rw [hp] at HS
    clear hp
    go_wp2_with fail
    refine (HS _).mono ?_
    rintro e w3 ⟨rfl, rfl⟩
    go_wp2_with fail
    go_ret
    exact ⟨by rw [HE.out]; rfl, (HB0.out.trans (hb1.mono s0)).trans (hb2.mono (by omega))⟩
set_option maxRecDepth 100000 in
set_option maxHeartbeats 8000000 in
theorem implPlaceText_any {a : Option Addr} {n cap : Nat} {d : List Bl} {pb pc pa : Int} {w : World} (h : Dc w a n cap d) :
    Calls Try.prog 10 #[.agg #[.slice a n cap], .agg #[.int .i64 pb, .int .i64 pc, .int .i64 pa]] w fun e w' => (∃ p m q, e = .returned (.slice p m q) ∧ Own w' w.heap.size (.slice p m q) ((plT d pb pc pa).getD [])) ∧ Below w.heap.size w w' := by
  have H : Hid (Dc w a n cap d) := h
  clear h
  go_enter Try.func10, Try.ntmps10
  go_upto_region 1 with fail
  have B0 : Below w.heap.size w ((w.alloc (.cells #[.slice a n cap] 25)).alloc (.cells #[.int .i64 pb, .int .i64 pc, .int .i64 pa] 27)) := ((Below.refl _ _).alloc (Nat.le_refl _) _).alloc (by simp) _
  have G0 : RowAt ((w.alloc (.cells #[.slice a n cap] 25)).alloc (.cells #[.int .i64 pb, .int .i64 pc, .int .i64 pa] 27)) w.heap.size #[.slice a n cap] 25 := (rowAt_new w _ _).alloc _
  have G1 : RowAt ((w.alloc (.cells #[.slice a n cap] 25)).alloc (.cells #[.int .i64 pb, .int .i64 pc, .int .i64 pa] 27)) (w.heap.size + 1) #[.int .i64 pb, .int .i64 pc, .int .i64 pa] 27 := by
    have := rowAt_new (w.alloc (.cells #[.slice a n cap] 25)) #[.int .i64 pb, .int .i64 pc, .int .i64 pa] 27
    simpa using this
  generalize ((w.alloc (.cells #[.slice a n cap] 25)).alloc (.cells #[.int .i64 pb, .int .i64 pc, .int .i64 pa] 27)) = v0 at B0 G0 G1 ⊢
  have k0 : v0.cell? ⟨w.heap.size, 0, none⟩ = some (.slice a n cap) := G0.cell 0
  have l1 := G1.lt
  have s0 := B0.size
  have HB0 : Hid (Below w.heap.size w v0) := B0
  have HD0 : Hid (Dc v0 a n cap d) := H.out.below B0
  have HG1 : Hid (RowAt v0 (w.heap.size + 1) #[.int .i64 pb, .int .i64 pc, .int .i64 pa] 27) := G1
  clear G0 G1 B0
  go_wp2_with fail
  refine (outlOf_any HD0.out).mono ?_
  rintro e w1 ⟨⟨v, rfl, ho⟩, hb1⟩
  have HO : Hid (OutlOf w1 d v) := ho
  have HG2 : Hid (RowAt w1 (w.heap.size + 1) #[.int .i64 pb, .int .i64 pc, .int .i64 pa] 27) := HG1.out.below hb1 l1
  have s1 := hb1.size
  clear ho k0
  go_wp2_with (refine wpList_load_row rfl 27 (.tmp 3) rfl (w.heap.size + 1) rfl 27 #[.int .i64 pb, .int .i64 pc, .int .i64 pa] (0, 0) _ HG2.out Try.underlying27 rfl place_info ?_)
  refine (textAt_of HO.out).mono ?_
  rintro e w2 ⟨ht, hb2⟩
  have s2 := hb2.size
  have HS : Hid (docB d = false → plT d pb pc pa = none) := fun hd => by unfold plT; rw [hd]; rfl
  rcases ht with ⟨he, rfl⟩ | ⟨t, va, vn, vc, he, rfl, ht⟩
  · have HT : Hid (Txt w2 none 0 0 []) := ⟨rfl, Nat.le_refl _, by unfold maxLen; omega, .inl rfl⟩
    have HE : Hid ((plT d pb pc pa).getD [] = []) := by
      show (plT d pb pc pa).getD [] = []
      rw [he]
      rfl
    clear he
    unfold noPl
    go_wp2_with fail
    refine (copiedSign_any HT.out (by omega)).mono ?_
    rintro e w3 ⟨⟨p, q, rfl, ho⟩, hb3⟩
    go_wp2_with fail
    go_ret
    refine ⟨⟨p, 0, q, rfl, ?_⟩, ((HB0.out.trans (hb1.mono s0)).trans (hb2.mono (by omega))).trans (hb3.mono (by omega))⟩
    rw [HE.out]
    exact own_less ho (by omega)
  · have HE : Hid ((plT d pb pc pa).getD [] = t) := by
      show (plT d pb pc pa).getD [] = t
      rw [he]
      rfl
    have HT : Hid (Txt w2 va vn vc t) := ht
    have hvn : vn ≤ 24 := by
      rw [ht.1]
      have hd : docB d = true := by
        cases hd : docB d
        · rw [HS.out hd] at he; cases he
        · rfl
      unfold plT at he
      rw [if_pos hd] at he
      exact placeT_small hd he
    clear he ht
    go_wp2_with fail
    refine (copiedSign_any HT.out (by omega)).mono ?_
    rintro e w3 ⟨⟨p, q, rfl, ho⟩, hb3⟩
    go_wp2_with fail
    go_ret
    refine ⟨⟨p, vn, q, rfl, ?_⟩, ((HB0.out.trans (hb1.mono s0)).trans (hb2.mono (by omega))).trans (hb3.mono (by omega))⟩
    rw [HE.out]
    exact own_less ho (by omega)
end Go.Proofs.Ytcecmkideoodiaa
namespace Go.Proofs.Ytcecmkideoodiaa
open Go.RowKit

/-- 'append(v, t...)' at a step of a region that draws its order: v the call's own, t a text. -/
theorem step_append_txtD {w : World} {ops : Array Oper} {o : Oper} {a : Act} {K : Act → World → Prop} {Q : Exit → Act → World → Prop} {E : Prop} (d : Nat) (hd : o.dst = some d) (hgd : o.guard = none) (s x : Operand)
    (ho : o.op = .call { callee := .builtin .append, args := #[s, x], argTypes := #[31, 31] })
    (base : Nat) (v : Value) (n : Nat) (xs : List Value) (hs : a.eval s = v) (hown : w.ownsRow base 74 3 v n xs)
    (p : Option Addr) (m c : Nat) (l : List Sg) (hx : a.eval x = .slice p m c) (htx : Txt w p m c l) (h63 : n + m ≤ 1000000000) (hbase : base ≤ w.heap.size) (N : Nat) (hN : n + m = N)
    (h : ∀ q cap w', w'.ownsRow base 74 3 (.slice q N cap) N (xs ++ flat l) → w.grownBy w' v.ownBlock → K (a.put (some d) (.slice q N cap)) w') :
    if Region.wanted o (yielded ops a.tmps) = true then Oper.wp Try.prog o a w K Q else E := by
  subst hN
  obtain ⟨i0, hi, hz0, hz1, hz2⟩ := info_parts Try.info74
  obtain ⟨rfl, h2, h3, h4⟩ := htx
  rcases h4 with rfl | ⟨b, off, rfl, hb, hsn⟩
  · have hw : Region.wanted o (yielded ops a.tmps) = true := by simp [Region.wanted, hgd]
    have hrun := run_append_empty (P := Try.prog) (w := w) base 31 o.type 74 i0 3 Try.underlying31 hi v n xs hown p c
    rw [if_pos hw]
    have hh : ∃ q cap, v = .slice q n cap := by
      rcases hown.2 with ⟨rfl, h0⟩ | ⟨g, cap, cur, rfl, r⟩
      · exact ⟨none, 0, by rw [h0]⟩
      · exact ⟨_, _, rfl⟩
    obtain ⟨q, cap, rfl⟩ := hh
    have := h q cap w (by simpa [flat] using hown) (grownBy_refl _ _)
    unfold Oper.wp
    rw [← hd] at this
    simp [execOp, ho, resolve, invoke, builtin, hs, hx, hrun, Result.andThen]
    exact this
  · by_cases hl0 : l.length = 0
    · have hnil : l = [] := List.eq_nil_of_length_eq_zero hl0
      subst hnil
      have hw : Region.wanted o (yielded ops a.tmps) = true := by simp [Region.wanted, hgd]
      have hrun := run_append_empty (P := Try.prog) (w := w) base 31 o.type 74 i0 3 Try.underlying31 hi v n xs hown (some ⟨b, off, none⟩) c
      rw [if_pos hw]
      have hh : ∃ q cap, v = .slice q n cap := by
        rcases hown.2 with ⟨rfl, h0⟩ | ⟨g, cap, cur, rfl, r⟩
        · exact ⟨none, 0, by rw [h0]⟩
        · exact ⟨_, _, rfl⟩
      obtain ⟨q, cap, rfl⟩ := hh
      have := h q cap w (by simpa [flat] using hown) (grownBy_refl _ _)
      unfold Oper.wp
      rw [← hd] at this
      simp [execOp, ho, resolve, invoke, builtin, hs, hx, hrun, Result.andThen]
      exact this
    · refine step_append_lies w hgd s x _ ho base _ i0 _ 3 24 Try.underlying31 hi hz0 hz1 hz2 rfl (by decide) v n xs hs hown ⟨b, off, none⟩ l.length c (flat l) hx (by rw [flat_length]) (news_signs hsn) (flat_one l) (by omega) (by unfold maxLen; omega) (by omega) hbase _ rfl ?_
      intro g cap w' h5 h6 _ _
      rw [hd]
      exact h _ _ w' h5 h6
end Go.Proofs.Ytcecmkideoodiaa
