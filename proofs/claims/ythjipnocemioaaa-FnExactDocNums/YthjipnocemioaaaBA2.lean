import Derived.Test.YthjipnocemioaaaBA1
import Derived.Deep.Cut
import Derived.Deep.RegionHeld3
import Derived.Deep.AppendLies
namespace Go.Proofs.Ythjipnocemioaaa
open Go.RowKit

theorem block_info : (Try.prog.info? 49).map (·.size) = some 6 := by kernel_rfl
theorem Try.info49 : (Try.prog.info? 49).map (fun i => (i.zero, i.size, i.bytes)) = some (some (.agg #[.int .i64 0, .int .i64 0, .slice none 0 0, .int .i64 0, .int .i64 0, .slice none 0 0]), 6, 80) := by kernel_rfl
theorem cells6_one (a b : Int) (s : Option Addr) (n c : Nat) (x y : Int) (s' : Option Addr) (n' c' : Nat) : (#[Value.int .i64 a, .int .i64 b, .slice s n c, .int .i64 x, .int .i64 y, .slice s' n' c'] : Array Value).all (·.oneCell') = true := by
  simp [Value.oneCell']
set_option maxRecDepth 100000 in
set_option maxHeartbeats 4000000 in
theorem toBlock_any {k v : Int} {ta : Option Addr} {tn tc : Nat} {R C : Int} {ca : Option Addr} {cn cc : Nat} {t : List Sg} {l : List Cl} {w : World} (ht : Txt w ta tn tc t) (hc : Tab w ca cn cc l) (h1 : tn ≤ 1048576) (h2 : l.length + totT l ≤ 1048576) :
    Calls Try.prog 59 #[.agg #[.int .i64 k, .int .i64 v, .slice ta tn tc, .int .i64 R, .int .i64 C, .slice ca cn cc]] w fun e w' => (∃ tb cb mid, e = .returned (.agg #[.int .i64 k, .int .i64 v, .slice (some ⟨tb, 0, none⟩) tn tn, .int .i64 R, .int .i64 C, .slice (some ⟨cb, 0, none⟩) cn cn]) ∧ BlOwn w' w.heap.size mid w'.heap.size (k, v, (some ⟨tb, 0, none⟩, tn, tn), R, C, (some ⟨cb, 0, none⟩, cn, cn)) (k, v, t, R, C, l)) ∧ Below w.heap.size w w' := by
  have HT : Hid (Txt w ta tn tc t) := ht
  have HC : Hid (Tab w ca cn cc l) := hc
  clear ht hc
  go_enter Try.func59, Try.ntmps59
  go_upto_region 4 with fail
  have B0 : Below w.heap.size w (((w.alloc (.cells #[.int .i64 k, .int .i64 v, .slice ta tn tc, .int .i64 R, .int .i64 C, .slice ca cn cc] 91)).alloc (.cells #[.int .i64 0, .int .i64 0, .slice none 0 0, .int .i64 0, .int .i64 0, .slice none 0 0] 49)).alloc (.cells #[.int .i64 k, .int .i64 v, .slice none 0 0, .int .i64 0, .int .i64 0, .slice none 0 0] 49)) := (((Below.refl _ _).alloc (Nat.le_refl _) _).alloc (by simp) _).alloc (by simp; omega) _
  have G0 : RowAt (((w.alloc (.cells #[.int .i64 k, .int .i64 v, .slice ta tn tc, .int .i64 R, .int .i64 C, .slice ca cn cc] 91)).alloc (.cells #[.int .i64 0, .int .i64 0, .slice none 0 0, .int .i64 0, .int .i64 0, .slice none 0 0] 49)).alloc (.cells #[.int .i64 k, .int .i64 v, .slice none 0 0, .int .i64 0, .int .i64 0, .slice none 0 0] 49)) w.heap.size #[.int .i64 k, .int .i64 v, .slice ta tn tc, .int .i64 R, .int .i64 C, .slice ca cn cc] 91 := ((rowAt_new w _ _).alloc _).alloc _
  have G1 : RowAt (((w.alloc (.cells #[.int .i64 k, .int .i64 v, .slice ta tn tc, .int .i64 R, .int .i64 C, .slice ca cn cc] 91)).alloc (.cells #[.int .i64 0, .int .i64 0, .slice none 0 0, .int .i64 0, .int .i64 0, .slice none 0 0] 49)).alloc (.cells #[.int .i64 k, .int .i64 v, .slice none 0 0, .int .i64 0, .int .i64 0, .slice none 0 0] 49)) (w.heap.size + 1) #[.int .i64 0, .int .i64 0, .slice none 0 0, .int .i64 0, .int .i64 0, .slice none 0 0] 49 := by
    have := (rowAt_new (w.alloc (.cells #[.int .i64 k, .int .i64 v, .slice ta tn tc, .int .i64 R, .int .i64 C, .slice ca cn cc] 91)) #[.int .i64 0, .int .i64 0, .slice none 0 0, .int .i64 0, .int .i64 0, .slice none 0 0] 49).alloc (.cells #[.int .i64 k, .int .i64 v, .slice none 0 0, .int .i64 0, .int .i64 0, .slice none 0 0] 49)
    simpa using this
  have G2 : RowAt (((w.alloc (.cells #[.int .i64 k, .int .i64 v, .slice ta tn tc, .int .i64 R, .int .i64 C, .slice ca cn cc] 91)).alloc (.cells #[.int .i64 0, .int .i64 0, .slice none 0 0, .int .i64 0, .int .i64 0, .slice none 0 0] 49)).alloc (.cells #[.int .i64 k, .int .i64 v, .slice none 0 0, .int .i64 0, .int .i64 0, .slice none 0 0] 49)) (w.heap.size + 1 + 1) #[.int .i64 k, .int .i64 v, .slice none 0 0, .int .i64 0, .int .i64 0, .slice none 0 0] 49 := by
    have := (rowAt_new ((w.alloc (.cells #[.int .i64 k, .int .i64 v, .slice ta tn tc, .int .i64 R, .int .i64 C, .slice ca cn cc] 91)).alloc (.cells #[.int .i64 0, .int .i64 0, .slice none 0 0, .int .i64 0, .int .i64 0, .slice none 0 0] 49)) #[.int .i64 k, .int .i64 v, .slice none 0 0, .int .i64 0, .int .i64 0, .slice none 0 0] 49)
    simpa using this
  generalize (((w.alloc (.cells #[.int .i64 k, .int .i64 v, .slice ta tn tc, .int .i64 R, .int .i64 C, .slice ca cn cc] 91)).alloc (.cells #[.int .i64 0, .int .i64 0, .slice none 0 0, .int .i64 0, .int .i64 0, .slice none 0 0] 49)).alloc (.cells #[.int .i64 k, .int .i64 v, .slice none 0 0, .int .i64 0, .int .i64 0, .slice none 0 0] 49)) = v0 at B0 G0 G1 G2 ⊢
  have k2 : v0.cell? ⟨w.heap.size, 2, none⟩ = some (.slice ta tn tc) := G0.cell 2
  have l2 := G2.lt
  have l1 := G1.lt
  have l0 := G0.lt
  have H0 : Hid (RowAt v0 w.heap.size #[.int .i64 k, .int .i64 v, .slice ta tn tc, .int .i64 R, .int .i64 C, .slice ca cn cc] 91) := G0
  have H1 : Hid (RowAt v0 (w.heap.size + 1) #[.int .i64 0, .int .i64 0, .slice none 0 0, .int .i64 0, .int .i64 0, .slice none 0 0] 49) := G1
  have H2 : Hid (RowAt v0 (w.heap.size + 1 + 1) #[.int .i64 k, .int .i64 v, .slice none 0 0, .int .i64 0, .int .i64 0, .slice none 0 0] 49) := G2
  have s0 := B0.size
  have HB0 : Hid (Below w.heap.size w v0) := B0
  clear G0 G1 G2 B0
  go_upto_region 5 with (go_at_call 77; refine (toSignS_any _ _ _ t _ (HT.out.below HB0.out) h1).mono ?_; rintro e w1 ⟨rfl, ho1, hb1⟩; have q1 : w1.cell? ⟨w.heap.size + 1 + 1, 2, none⟩ = some (.slice none 0 0) := (H2.out.below hb1 l2).cell 2; have q2 := (H2.out.below hb1 l2).frozen 2)
  have lt1 := own_lt ho1 rfl
  have G2 := (H2.out.below hb1 l2).setCell 2 (.slice (some ⟨v0.heap.size, 0, none⟩) tn tn)
  have G1 := (H1.out.below hb1 l1).other ⟨w.heap.size + 1 + 1, 2, none⟩ (.slice (some ⟨v0.heap.size, 0, none⟩) tn tn) (by simp <;> omega)
  have G0 := (H0.out.below hb1 l0).other ⟨w.heap.size + 1 + 1, 2, none⟩ (.slice (some ⟨v0.heap.size, 0, none⟩) tn tn) (by simp <;> omega)
  have O1 := own_set ho1 ⟨w.heap.size + 1 + 1, 2, none⟩ (.slice (some ⟨v0.heap.size, 0, none⟩) tn tn) (by simp [Value.ownBlock]; omega)
  have B1 : Below w.heap.size w (w1.setCell ⟨w.heap.size + 1 + 1, 2, none⟩ (.slice (some ⟨v0.heap.size, 0, none⟩) tn tn)) := (HB0.out.trans (hb1.mono s0)).setCell (by show _ ≤ w.heap.size + 1 + 1; omega) _
  have ss : (w1.setCell ⟨w.heap.size + 1 + 1, 2, none⟩ (.slice (some ⟨v0.heap.size, 0, none⟩) tn tn)).heap.size = w1.heap.size := by simp
  have s1 := hb1.size
  clear q1 q2 ho1 hb1 k2 H0 H1 H2
  generalize (w1.setCell ⟨w.heap.size + 1 + 1, 2, none⟩ (.slice (some ⟨v0.heap.size, 0, none⟩) tn tn)) = w2 at G2 G1 G0 O1 B1 ss ⊢
  have g3 : w2.cell? ⟨w.heap.size, 3, none⟩ = some (.int .i64 R) := G0.cell 3
  have g4 : w2.cell? ⟨w.heap.size, 4, none⟩ = some (.int .i64 C) := G0.cell 4
  have g5 : w2.cell? ⟨w.heap.size, 5, none⟩ = some (.slice ca cn cc) := G0.cell 5
  have H1 : Hid (RowAt w2 (w.heap.size + 1) #[.int .i64 0, .int .i64 0, .slice none 0 0, .int .i64 0, .int .i64 0, .slice none 0 0] 49) := G1
  have H2 : Hid (RowAt w2 (w.heap.size + 1 + 1) #[.int .i64 k, .int .i64 v, .slice (some ⟨v0.heap.size, 0, none⟩) tn tn, .int .i64 0, .int .i64 0, .slice none 0 0] 49) := G2
  have HO1 : Hid (Own w2 v0.heap.size (.slice (some ⟨v0.heap.size, 0, none⟩) tn tn) t) := by
    have e := HT.out.1
    subst e
    exact O1
  have HB1 : Hid (Below w.heap.size w w2) := B1
  have e1 := G1.lt
  have e2 := G2.lt
  have s2 := B1.size
  clear G0 G1 G2 O1 B1
  go_upto_region 6 with (go_at_call 78; refine (toTable_any R C _ _ _ l _ (HC.out.below HB1.out) h2).mono ?_; rintro e w3 ⟨⟨cb, rs, hcb, rfl, ho3⟩, hb3⟩; have q3 : w3.cell? ⟨w.heap.size + 1 + 1, 3, none⟩ = some (.int .i64 0) := (H2.out.below hb3 e2).cell 3; have q4 : w3.cell? ⟨w.heap.size + 1 + 1, 3 + 1, none⟩ = some (.int .i64 0) := (H2.out.below hb3 e2).cell 4; have q5 : w3.cell? ⟨w.heap.size + 1 + 1, 3 + 2, none⟩ = some (.slice none 0 0) := (H2.out.below hb3 e2).cell 5; have f3 := (H2.out.below hb3 e2).frozen 3; have f4 := (H2.out.below hb3 e2).frozen (3 + 1); have f5 := (H2.out.below hb3 e2).frozen (3 + 2))
  have s3 := hb3.size
  have G2 := (((H2.out.below hb3 e2).setCell 3 (.int .i64 R)).setCell 4 (.int .i64 C)).setCell 5 (.slice (some ⟨cb, 0, none⟩) cn cn)
  have M4 : Mid (v0.heap.size) w3.heap.size w3 (((w3.setCell ⟨w.heap.size + 1 + 1, 3, none⟩ (.int .i64 R)).setCell ⟨w.heap.size + 1 + 1, 3 + 1, none⟩ (.int .i64 C)).setCell ⟨w.heap.size + 1 + 1, 3 + 2, none⟩ (.slice (some ⟨cb, 0, none⟩) cn cn)) := fun b hb hb' => by rw [Go.Deep.blk_setCell_other _ _ _ _ (by simp; omega), Go.Deep.blk_setCell_other _ _ _ _ (by simp; omega), Go.Deep.blk_setCell_other _ _ _ _ (by simp; omega)]
  have G1 := (((H1.out.below hb3 e1).other ⟨w.heap.size + 1 + 1, 3, none⟩ (.int .i64 R) (by simp <;> omega)).other ⟨w.heap.size + 1 + 1, 4, none⟩ (.int .i64 C) (by simp <;> omega)).other ⟨w.heap.size + 1 + 1, 5, none⟩ (.slice (some ⟨cb, 0, none⟩) cn cn) (by simp <;> omega)
  have B3 : Below w.heap.size w (((w3.setCell ⟨w.heap.size + 1 + 1, 3, none⟩ (.int .i64 R)).setCell ⟨w.heap.size + 1 + 1, 3 + 1, none⟩ (.int .i64 C)).setCell ⟨w.heap.size + 1 + 1, 3 + 2, none⟩ (.slice (some ⟨cb, 0, none⟩) cn cn)) := (((HB1.out.trans (hb3.mono s2)).setCell (by show _ ≤ w.heap.size + 1 + 1; omega) _).setCell (by show _ ≤ w.heap.size + 1 + 1; omega) _).setCell (by show _ ≤ w.heap.size + 1 + 1; omega) _
  have ss4 : (((w3.setCell ⟨w.heap.size + 1 + 1, 3, none⟩ (.int .i64 R)).setCell ⟨w.heap.size + 1 + 1, 3 + 1, none⟩ (.int .i64 C)).setCell ⟨w.heap.size + 1 + 1, 3 + 2, none⟩ (.slice (some ⟨cb, 0, none⟩) cn cn)).heap.size = w3.heap.size := by simp
  have lt3 : cb < w3.heap.size := (own_lt ho3.1 rfl).2
  have HBL : Hid (BlOwn w3 v0.heap.size w2.heap.size w3.heap.size (k, v, (some ⟨v0.heap.size, 0, none⟩, tn, tn), R, C, (some ⟨cb, 0, none⟩, cn, cn)) (k, v, t, R, C, l)) := by
    refine ⟨⟨rfl, rfl, rfl, rfl⟩, HO1.out.below hb3, ?_, ⟨rs, ho3, ?_, fun j hj g hg => ?_⟩, by omega, s3⟩
    · intro g hg
      simp [sl3V, Value.ownBlock] at hg
      omega
    · intro g hg
      simp [sl3V, Value.ownBlock] at hg
      omega
    · exact (own_lt (ho3.2.2.1 j hj).2.2.2.2 hg).2
  clear q3 q4 q5 f3 f4 f5 ho3 hb3 g3 g4 g5 H1 H2 HO1
  have HM4 : Hid (Mid v0.heap.size w3.heap.size w3 (((w3.setCell ⟨w.heap.size + 1 + 1, 3, none⟩ (.int .i64 R)).setCell ⟨w.heap.size + 1 + 1, 3 + 1, none⟩ (.int .i64 C)).setCell ⟨w.heap.size + 1 + 1, 3 + 2, none⟩ (.slice (some ⟨cb, 0, none⟩) cn cn))) := M4
  clear M4
  generalize (((w3.setCell ⟨w.heap.size + 1 + 1, 3, none⟩ (.int .i64 R)).setCell ⟨w.heap.size + 1 + 1, 3 + 1, none⟩ (.int .i64 C)).setCell ⟨w.heap.size + 1 + 1, 3 + 2, none⟩ (.slice (some ⟨cb, 0, none⟩) cn cn)) = w4 at G2 G1 HM4 B3 ss4 ⊢
  have e3 := G2.lt
  have j0 : w4.cell? ⟨w.heap.size + 1 + 1, 0, none⟩ = some (.int .i64 k) := G2.cell 0
  have j1 : w4.cell? ⟨w.heap.size + 1 + 1, 1, none⟩ = some (.int .i64 v) := G2.cell 1
  have j2 : w4.cell? ⟨w.heap.size + 1 + 1, 2, none⟩ = some (.slice (some ⟨v0.heap.size, 0, none⟩) tn tn) := G2.cell 2
  have j3 : w4.cell? ⟨w.heap.size + 1 + 1, 3, none⟩ = some (.int .i64 R) := G2.cell 3
  have j4 : w4.cell? ⟨w.heap.size + 1 + 1, 4, none⟩ = some (.int .i64 C) := G2.cell 4
  have j5 : w4.cell? ⟨w.heap.size + 1 + 1, 5, none⟩ = some (.slice (some ⟨cb, 0, none⟩) cn cn) := G2.cell 5
  have HR : Hid (RowAt w4 (w.heap.size + 1) #[.int .i64 0, .int .i64 0, .slice none 0 0, .int .i64 0, .int .i64 0, .slice none 0 0] 49) := G1
  have HB3 : Hid (Below w.heap.size w w4) := B3
  clear G1 G2 B3
  go_wp2_with ((refine wpList_store_row rfl 49 (.tmp 2) (.tmp 18) rfl (w.heap.size + 1) #[.int .i64 k, .int .i64 v, .slice (some ⟨v0.heap.size, 0, none⟩) tn tn, .int .i64 R, .int .i64 C, .slice (some ⟨cb, 0, none⟩) cn cn] rfl rfl 49 _ HR.out block_info rfl (cells6_one _ _ _ _ _ _ _ _ _ _) ?_))
  refine bodyPost_ret (v := .agg #[.int .i64 k, .int .i64 v, .slice (some ⟨v0.heap.size, 0, none⟩) tn tn, .int .i64 R, .int .i64 C, .slice (some ⟨cb, 0, none⟩) cn cn]) (results_cell_row (p := 2) (ty := 49) rfl _ _ (w.heap.size + 1) 49 _ _ _ rfl (RowAt.setRow HR.out _) Try.underlying49 rfl block_info) rfl ⟨⟨v0.heap.size, cb, w2.heap.size, rfl, ?_⟩, below_row HB3.out (by omega) _⟩
  have hh := (HBL.out.mid HM4.out).mid (w' := w4.setRow (w.heap.size + 1) #[.int .i64 k, .int .i64 v, .slice (some ⟨v0.heap.size, 0, none⟩) tn tn, .int .i64 R, .int .i64 C, .slice (some ⟨cb, 0, none⟩) cn cn]) (fun b hb hb' => setRow_other _ _ _ _ (by omega))
  obtain ⟨a1, a2, a3, a4, a5, a6⟩ := hh
  have sz : (w4.setRow (w.heap.size + 1) #[.int .i64 k, .int .i64 v, .slice (some ⟨v0.heap.size, 0, none⟩) tn tn, .int .i64 R, .int .i64 C, .slice (some ⟨cb, 0, none⟩) cn cn]).heap.size = w3.heap.size := by
    rw [← ss4]
    simp [World.setRow]
  rw [sz]
  exact ⟨a1, own_less a2 (by omega), a3, a4, by omega, a6⟩

theorem take_set6 (xs : List Value) (k : Nat) (a b c d e f : Value) (h : k * 6 + 6 ≤ xs.length) :
    ((((((xs.set (k * 6) a).set (k * 6 + 1) b).set (k * 6 + 2) c).set (k * 6 + 3) d).set (k * 6 + 4) e).set (k * 6 + 5) f).take ((k + 1) * 6) = xs.take (k * 6) ++ [a, b, c, d, e, f] := by
  apply List.ext_getElem?
  intro j
  by_cases h1 : j < k * 6
  · rw [List.getElem?_take, if_pos (by omega), List.getElem?_set_ne (by omega), List.getElem?_set_ne (by omega), List.getElem?_set_ne (by omega), List.getElem?_set_ne (by omega), List.getElem?_set_ne (by omega), List.getElem?_set_ne (by omega), List.getElem?_append_left (by simp; omega), List.getElem?_take, if_pos h1]
  · rw [List.getElem?_append_right (by simp; omega)]
    have e' : (xs.take (k * 6)).length = k * 6 := by simp; omega
    rw [e', List.getElem?_take]
    rcases (show j = k * 6 ∨ j = k * 6 + 1 ∨ j = k * 6 + 2 ∨ j = k * 6 + 3 ∨ j = k * 6 + 4 ∨ j = k * 6 + 5 ∨ k * 6 + 6 ≤ j from by omega) with rfl | rfl | rfl | rfl | rfl | rfl | hj
    · rw [if_pos (by omega), List.getElem?_set_ne (by omega), List.getElem?_set_ne (by omega), List.getElem?_set_ne (by omega), List.getElem?_set_ne (by omega), List.getElem?_set_ne (by omega), List.getElem?_set_self (by omega)]; simp
    · rw [if_pos (by omega), List.getElem?_set_ne (by omega), List.getElem?_set_ne (by omega), List.getElem?_set_ne (by omega), List.getElem?_set_ne (by omega), List.getElem?_set_self (by simp; omega), show k * 6 + 1 - k * 6 = 1 by omega]; simp
    · rw [if_pos (by omega), List.getElem?_set_ne (by omega), List.getElem?_set_ne (by omega), List.getElem?_set_ne (by omega), List.getElem?_set_self (by simp; omega), show k * 6 + 2 - k * 6 = 2 by omega]; simp
    · rw [if_pos (by omega), List.getElem?_set_ne (by omega), List.getElem?_set_ne (by omega), List.getElem?_set_self (by simp; omega), show k * 6 + 3 - k * 6 = 3 by omega]; simp
    · rw [if_pos (by omega), List.getElem?_set_ne (by omega), List.getElem?_set_self (by simp; omega), show k * 6 + 4 - k * 6 = 4 by omega]; simp
    · rw [if_pos (by omega), List.getElem?_set_self (by simp; omega), show k * 6 + 5 - k * 6 = 5 by omega]; simp
    · rw [if_neg (by omega), List.getElem?_eq_none (by simp; omega)]
set_option maxRecDepth 100000 in
set_option maxHeartbeats 4000000 in
theorem toBlockS_any {a : Option Addr} {n cap : Nat} {d : List Bl} {w : World} (h : Dc w a n cap d) (hn : d.length + totD d ≤ 1048576) :
    Calls Try.prog 32 #[.slice a n cap] w fun e w' => e = .returned (.slice (some ⟨w.heap.size, 0, none⟩) n n) ∧ (∃ rbs, DocOwn w' w.heap.size w'.heap.size (.slice (some ⟨w.heap.size, 0, none⟩) n n) rbs d) ∧ Below w.heap.size w w' := by
  obtain ⟨rfl, hc, hm, hl⟩ := h
  unfold maxLen at hm
  have HL : Hid (d = [] ∨ ∃ b off, a = some ⟨b, off, none⟩ ∧ b < w.heap.size ∧ ∀ k, k < d.length → BlockAt w b (off + k * 6) (d.getD k bl0)) := hl
  clear hl
  obtain ⟨i0, hi, hz0, hz1, hz2⟩ := info_parts Try.info49
  go_enter Try.func32, Try.ntmps32
  go_wp2_with (at_make; refine wpList_make_full _ rfl (.tmp 6) (.tmp 6) 27 rfl w.heap.size 49 i0 _ 6 Try.underlying27 hi hz0 hz1 .i64 .i64 _ _ d.length rfl rfl rfl rfl (by rw [hz2]; omega) (by unfold maxLen; omega) (Nat.le_refl _) ?_; intro w1 hown hgrow)
  have hb1 : Below w.heap.size w w1 := (Below.refl _ _).grown hgrow (Nat.le_refl _) (fun k hk => by simp at hk)
  clear hgrow
  obtain ⟨xs0, hown⟩ : ∃ xs, w1.ownsRow w.heap.size 49 6 (.slice (some ⟨w.heap.size, 0, none⟩) d.length d.length) d.length xs := ⟨_, hown⟩
  go_loopw [4] (fun i wr => ∃ (k : Nat) (xs : List Value) (rbs : List Rb), k ≤ d.length ∧ i = .int .i64 k ∧ wr.ownsRow w.heap.size 49 6 (.slice (some ⟨w.heap.size, 0, none⟩) d.length d.length) d.length xs ∧ xs.take (k * 6) = flat6 rbs ∧ BlsOwn wr w.heap.size wr.heap.size rbs (d.take k) ∧ Below w.heap.size w wr) (fun i _ => d.length - (intOf i).toNat)
  case atStart => exact ⟨0, xs0, [], Nat.zero_le _, rfl, hown, by simp [flat6], BlsOwn.nil _ _ _, hb1⟩
  case round =>
    obtain ⟨k, xs, rbs, hk, rfl, ho, hx, ht, hbl⟩ := hrel
    have hsz := hbl.size
    have HX : Hid (xs.take (k * 6) = flat6 rbs) := hx
    have HO : Hid (wr.ownsRow w.heap.size 49 6 (.slice (some ⟨w.heap.size, 0, none⟩) d.length d.length) d.length xs) := ho
    have HT : Hid (BlsOwn wr w.heap.size wr.heap.size rbs (d.take k)) := ht
    have lto : w.heap.size < wr.heap.size := (own_lt ho rfl).2
    have HBL : Hid (Below w.heap.size w wr) := hbl
    clear hx ho hown hb1 ht
    by_cases hlt : k < d.length
    · rcases HL.out with e | ⟨b, off, rfl, hbw, hl⟩
      · rw [e] at hlt
        exact absurd hlt (by simp)
      obtain ⟨ta, tn, tc, ca, cn, cc, hblk⟩ := (hl k hlt).below hbl hbw
      have hle := totD_le d k hlt
      have HTK : Hid (d.take (k + 1) = d.take k ++ [d.getD k bl0]) := by
        show d.take (k + 1) = d.take k ++ [d.getD k bl0]
        rw [List.take_succ_eq_append_getElem hlt]
        simp [List.getD, hlt]
      obtain ⟨⟨K, V, t, R, C, l⟩, hxx⟩ : ∃ x, x = d.getD k bl0 := ⟨_, rfl⟩
      rw [← hxx] at hblk HTK hle
      obtain ⟨c0, c1, c2, c3, c4, c5, htx, htb⟩ := hblk
      simp only at c0 c1 c3 c4 htx htb
      have htn : tn ≤ 1048576 := by
        rw [htx.1]
        have : t.length ≤ szB (K, V, t, R, C, l) := Nat.le_add_right _ _
        omega
      have hcn : l.length + totT l ≤ 1048576 := by
        have : l.length + totT l ≤ szB (K, V, t, R, C, l) := Nat.le_add_left _ _
        omega
      have HTX : Hid (Txt wr ta tn tc t) := htx
      have HTB : Hid (Tab wr ca cn cc l) := htb
      clear hl hle hxx htx htb hbl
      go_wp2_with fail
      refine (toBlock_any HTX.out HTB.out htn hcn).mono ?_
      rintro e w2 ⟨⟨tb, cb, md, rfl, how⟩, hb2⟩
      have ho2 := own_below HO.out hb2
      have f0 := ho2.frozenAt (k * 6)
      have f1 := ho2.frozenAt (k * 6 + 1)
      have f2 := ho2.frozenAt (k * 6 + 2)
      have f3 := ho2.frozenAt (k * 6 + 3)
      have f4 := ho2.frozenAt (k * 6 + 4)
      have f5 := ho2.frozenAt (k * 6 + 5)
      have hxl := ho2.1
      obtain ⟨u0, d0⟩ : ∃ u, w2.cell? ⟨w.heap.size, k * 6, none⟩ = some u := ⟨_, (ho2.cellAt (k * 6) (by omega)).trans (List.getElem?_eq_getElem (by omega))⟩
      obtain ⟨u1, d1⟩ : ∃ u, w2.cell? ⟨w.heap.size, k * 6 + 1, none⟩ = some u := ⟨_, (ho2.cellAt (k * 6 + 1) (by omega)).trans (List.getElem?_eq_getElem (by omega))⟩
      obtain ⟨u2, d2⟩ : ∃ u, w2.cell? ⟨w.heap.size, k * 6 + 2, none⟩ = some u := ⟨_, (ho2.cellAt (k * 6 + 2) (by omega)).trans (List.getElem?_eq_getElem (by omega))⟩
      obtain ⟨u3, d3⟩ : ∃ u, w2.cell? ⟨w.heap.size, k * 6 + 3, none⟩ = some u := ⟨_, (ho2.cellAt (k * 6 + 3) (by omega)).trans (List.getElem?_eq_getElem (by omega))⟩
      obtain ⟨u4, d4⟩ : ∃ u, w2.cell? ⟨w.heap.size, k * 6 + 4, none⟩ = some u := ⟨_, (ho2.cellAt (k * 6 + 4) (by omega)).trans (List.getElem?_eq_getElem (by omega))⟩
      obtain ⟨u5, d5⟩ : ∃ u, w2.cell? ⟨w.heap.size, k * 6 + 5, none⟩ = some u := ⟨_, (ho2.cellAt (k * 6 + 5) (by omega)).trans (List.getElem?_eq_getElem (by omega))⟩
      have s2 := hb2.size
      have HO2 : Hid (w2.ownsRow w.heap.size 49 6 (.slice (some ⟨w.heap.size, 0, none⟩) d.length d.length) d.length xs) := ho2
      have HT2 : Hid (BlsOwn w2 w.heap.size wr.heap.size rbs (d.take k)) := HT.out.kept (Mid.kept (fun b _ hb' => hb2.block b hb'))
      have HW : Hid (BlOwn w2 wr.heap.size md w2.heap.size (K, V, (some ⟨tb, 0, none⟩, tn, tn), R, C, (some ⟨cb, 0, none⟩, cn, cn)) (K, V, t, R, C, l)) := how
      have HB2 : Hid (Below w.heap.size w w2) := HBL.out.trans (hb2.mono hsz)
      clear ho2 HO hxl how hb2
      go_wp2_with fail
      go_roundw
      case rel =>
        obtain ⟨p0, _⟩ := HO2.out.stored (k * 6) (.int .i64 K)
        obtain ⟨p1, _⟩ := p0.stored (k * 6 + 1) (.int .i64 V)
        obtain ⟨p2, _⟩ := p1.stored (k * 6 + 2) (.slice (some ⟨tb, 0, none⟩) tn tn)
        obtain ⟨p3, _⟩ := p2.stored (k * 6 + 3) (.int .i64 R)
        obtain ⟨p4, _⟩ := p3.stored (k * 6 + 4) (.int .i64 C)
        obtain ⟨p5, _⟩ := p4.stored (k * 6 + 5) (.slice (some ⟨cb, 0, none⟩) cn cn)
        have hT := HT2.out.snoc hsz HW.out s2
        rw [← HTK.out] at hT
        refine ⟨k + 1, _, rbs ++ [(K, V, (some ⟨tb, 0, none⟩, tn, tn), R, C, (some ⟨cb, 0, none⟩, cn, cn))], by omega, by go_num, p5, ?_, ?_, ?_⟩
        · rw [take_set6 _ _ _ _ _ _ _ _ (by have := HO2.out.1; omega), HX.out, flat6_append]
          simp [flat6, rbCells, sl3V]
        · obtain ⟨r0, h0⟩ := own_rowAt HO2.out
          obtain ⟨r1, h1⟩ := own_rowAt p0
          obtain ⟨r2, h2⟩ := own_rowAt p1
          obtain ⟨r3, h3⟩ := own_rowAt p2
          obtain ⟨r4, h4⟩ := own_rowAt p3
          obtain ⟨r5, h5⟩ := own_rowAt p4
          exact ((((((hT.kept (kept_set h0 _ _ _ _)).kept (kept_set h1 _ _ _ _)).kept (kept_set h2 _ _ _ _)).kept (kept_set h3 _ _ _ _)).kept (kept_set h4 _ _ _ _)).kept (kept_set h5 _ _ _ _)).grow (by simp)
        · exact (((((HB2.out.setCell (Nat.le_refl _) _).setCell (Nat.le_refl _) _).setCell (Nat.le_refl _) _).setCell (Nat.le_refl _) _).setCell (Nat.le_refl _) _).setCell (Nat.le_refl _) _
      case measure => simp [intOf]; omega
    · go_wp2_with fail
      go_ret
      have e1 : d.take k = d := List.take_of_length_le (by omega)
      have hT := HT.out
      rw [e1] at hT
      have hxx : xs = flat6 rbs := by
        have h1 := HX.out
        have h2 := HO.out.1
        rw [List.take_of_length_le (by omega)] at h1
        exact h1
      refine ⟨rfl, ⟨rbs, ?_, ?_, hT.1, ?_⟩, HBL.out⟩
      · have := HO.out
        rw [hxx] at this
        rw [hT.1]
        exact this
      · intro g hg
        simp [Value.ownBlock] at hg
        omega
      · exact hT.2
theorem docI_info : (Try.prog.info? 29).map (·.size) = some 1 := by kernel_rfl
theorem cells1_one (a : Option Addr) (n c : Nat) : (#[Value.slice a n c] : Array Value).all (·.oneCell') = true := by simp [Value.oneCell']
set_option maxRecDepth 100000 in
set_option maxHeartbeats 4000000 in
theorem toDoc_any {a : Option Addr} {n cap : Nat} {d : List Bl} {w : World} (h : Dc w a n cap d) (hn : d.length + totD d ≤ 1048576) :
    Calls Try.prog 11 #[.agg #[.slice a n cap]] w fun e w' => (∃ b rbs, e = .returned (.agg #[.slice (some ⟨b, 0, none⟩) n n]) ∧ DocOwn w' w.heap.size w'.heap.size (.slice (some ⟨b, 0, none⟩) n n) rbs d) ∧ Below w.heap.size w w' := by
  have H : Hid (Dc w a n cap d) := h
  clear h
  go_enter Try.func11, Try.ntmps11
  go_upto_region 2 with fail
  have B0 : Below w.heap.size w (((w.alloc (.cells #[.slice a n cap] 24)).alloc (.cells #[.slice none 0 0] 29)).alloc (.cells #[.slice none 0 0] 29)) := (((Below.refl _ _).alloc (Nat.le_refl _) _).alloc (by simp) _).alloc (by simp; omega) _
  have G0 : RowAt (((w.alloc (.cells #[.slice a n cap] 24)).alloc (.cells #[.slice none 0 0] 29)).alloc (.cells #[.slice none 0 0] 29)) w.heap.size #[.slice a n cap] 24 := ((rowAt_new w _ _).alloc _).alloc _
  have G1 : RowAt (((w.alloc (.cells #[.slice a n cap] 24)).alloc (.cells #[.slice none 0 0] 29)).alloc (.cells #[.slice none 0 0] 29)) (w.heap.size + 1) #[.slice none 0 0] 29 := by
    have := (rowAt_new (w.alloc (.cells #[.slice a n cap] 24)) #[.slice none 0 0] 29).alloc (.cells #[.slice none 0 0] 29)
    simpa using this
  have G2 : RowAt (((w.alloc (.cells #[.slice a n cap] 24)).alloc (.cells #[.slice none 0 0] 29)).alloc (.cells #[.slice none 0 0] 29)) (w.heap.size + 1 + 1) #[.slice none 0 0] 29 := by
    have := (rowAt_new ((w.alloc (.cells #[.slice a n cap] 24)).alloc (.cells #[.slice none 0 0] 29)) #[.slice none 0 0] 29)
    simpa using this
  generalize (((w.alloc (.cells #[.slice a n cap] 24)).alloc (.cells #[.slice none 0 0] 29)).alloc (.cells #[.slice none 0 0] 29)) = v0 at B0 G0 G1 G2 ⊢
  have k2 : v0.cell? ⟨w.heap.size, 0, none⟩ = some (.slice a n cap) := G0.cell 0
  have l2 := G2.lt
  have l1 := G1.lt
  have H1 : Hid (RowAt v0 (w.heap.size + 1) #[.slice none 0 0] 29) := G1
  have H2 : Hid (RowAt v0 (w.heap.size + 1 + 1) #[.slice none 0 0] 29) := G2
  have s0 := B0.size
  have HB0 : Hid (Below w.heap.size w v0) := B0
  clear G0 G1 G2 B0
  go_upto_region 3 with (go_at_call 32; refine (toBlockS_any (H.out.below HB0.out) hn).mono ?_; rintro e w1 ⟨rfl, ⟨rbs, ho1⟩, hb1⟩; have q1 : w1.cell? ⟨w.heap.size + 1 + 1, 0, none⟩ = some (.slice none 0 0) := (H2.out.below hb1 l2).cell 0; have q2 := (H2.out.below hb1 l2).frozen 0)
  have G2 := (H2.out.below hb1 l2).setCell 0 (.slice (some ⟨v0.heap.size, 0, none⟩) n n)
  have G1 := (H1.out.below hb1 l1).other ⟨w.heap.size + 1 + 1, 0, none⟩ (.slice (some ⟨v0.heap.size, 0, none⟩) n n) (by simp <;> omega)
  have O1 : DocOwn (w1.setCell ⟨w.heap.size + 1 + 1, 0, none⟩ (.slice (some ⟨v0.heap.size, 0, none⟩) n n)) v0.heap.size w1.heap.size (.slice (some ⟨v0.heap.size, 0, none⟩) n n) rbs d := ho1.mid (fun b hb _ => Go.Deep.blk_setCell_other _ _ _ _ (by simp; omega))
  have B1 : Below w.heap.size w (w1.setCell ⟨w.heap.size + 1 + 1, 0, none⟩ (.slice (some ⟨v0.heap.size, 0, none⟩) n n)) := (HB0.out.trans (hb1.mono s0)).setCell (by show _ ≤ w.heap.size + 1 + 1; omega) _
  have ss : (w1.setCell ⟨w.heap.size + 1 + 1, 0, none⟩ (.slice (some ⟨v0.heap.size, 0, none⟩) n n)).heap.size = w1.heap.size := by simp
  have s1 := hb1.size
  clear q1 q2 ho1 hb1 k2 H1 H2
  generalize (w1.setCell ⟨w.heap.size + 1 + 1, 0, none⟩ (.slice (some ⟨v0.heap.size, 0, none⟩) n n)) = w2 at G2 G1 O1 B1 ss ⊢
  have e0 : w2.cell? ⟨w.heap.size + 1 + 1, 0, none⟩ = some (.slice (some ⟨v0.heap.size, 0, none⟩) n n) := G2.cell 0
  have HR : Hid (RowAt w2 (w.heap.size + 1) #[.slice none 0 0] 29) := G1
  have HO : Hid (DocOwn w2 v0.heap.size w1.heap.size (.slice (some ⟨v0.heap.size, 0, none⟩) n n) rbs d) := O1
  have HB1 : Hid (Below w.heap.size w w2) := B1
  clear G1 G2 O1 B1
  go_wp2_with ((refine wpList_store_row rfl 29 (.tmp 2) (.tmp 8) rfl (w.heap.size + 1) #[.slice (some ⟨v0.heap.size, 0, none⟩) n n] rfl rfl 29 _ HR.out docI_info rfl (cells1_one _ _ _) ?_))
  refine bodyPost_ret (v := .agg #[.slice (some ⟨v0.heap.size, 0, none⟩) n n]) (results_cell_row (p := 2) (ty := 29) rfl _ _ (w.heap.size + 1) 29 _ _ _ rfl (RowAt.setRow HR.out _) Try.underlying29 rfl docI_info) rfl ⟨⟨v0.heap.size, rbs, rfl, ?_⟩, below_row HB1.out (by omega) _⟩
  have sz : (w2.setRow (w.heap.size + 1) #[.slice (some ⟨v0.heap.size, 0, none⟩) n n]).heap.size = w1.heap.size := by
    rw [← ss]
    simp [World.setRow]
  rw [sz]
  exact (HO.out.mid (fun b hb hb' => setRow_other _ _ _ _ (by omega))).less (by omega) (Nat.le_refl _)
end Go.Proofs.Ythjipnocemioaaa
namespace Go.Proofs.Ythjipnocemioaaa
open Go.RowKit

set_option maxRecDepth 100000 in
set_option maxHeartbeats 4000000 in
theorem l3Block_is {k v : Int} {ta : Option Addr} {tn tc : Nat} {R C : Int} {ca : Option Addr} {cn cc : Nat} {t : List Sg} {l : List Cl} {w : World} {x : Bool} (hx : blockB (k, v, t, R, C, l) = x) (ht : Txt w ta tn tc t) (hc : Tab w ca cn cc l) :
    Calls Try.prog 30 #[.agg #[.int .i64 k, .int .i64 v, .slice ta tn tc, .int .i64 R, .int .i64 C, .slice ca cn cc]] w fun e w' => e = .returned (.bool x) ∧ Below w.heap.size w w' := by
  have HX : Hid (blockB (k, v, t, R, C, l) = x) := hx
  obtain ⟨tb, HTB⟩ : ∃ b, Hid (textB t = b) := ⟨_, rfl⟩
  obtain ⟨nb, HNB⟩ : ∃ b, Hid (noneB R C l = b) := ⟨_, rfl⟩
  obtain ⟨ob, HOB⟩ : ∃ b, Hid (okB R C l = b) := ⟨_, rfl⟩
  have HTN : Hid ((t = []) ↔ (tn = 0)) := by
    have hn := ht.1
    show (t = []) ↔ (tn = 0)
    rw [hn]
    exact List.length_eq_zero_iff.symm
  go_enter Try.func30, Try.ntmps30
  go_upto_region 1 with fail
  have B0 : Below w.heap.size w (w.alloc (.cells #[.int .i64 k, .int .i64 v, .slice ta tn tc, .int .i64 R, .int .i64 C, .slice ca cn cc] 49)) := (Below.refl _ _).alloc (Nat.le_refl _) _
  have G0 : RowAt (w.alloc (.cells #[.int .i64 k, .int .i64 v, .slice ta tn tc, .int .i64 R, .int .i64 C, .slice ca cn cc] 49)) w.heap.size #[.int .i64 k, .int .i64 v, .slice ta tn tc, .int .i64 R, .int .i64 C, .slice ca cn cc] 49 := rowAt_new _ _ _
  generalize (w.alloc (.cells #[.int .i64 k, .int .i64 v, .slice ta tn tc, .int .i64 R, .int .i64 C, .slice ca cn cc] 49)) = v0 at B0 G0 ⊢
  have HT0 : Hid (Txt v0 ta tn tc t) := ht.below B0
  have HC0 : Hid (Tab v0 ca cn cc l) := hc.below B0
  have q0 : v0.cell? ⟨w.heap.size, 0, none⟩ = some (.int .i64 k) := G0.cell 0
  have q1 : v0.cell? ⟨w.heap.size, 1, none⟩ = some (.int .i64 v) := G0.cell 1
  have q2 : v0.cell? ⟨w.heap.size, 2, none⟩ = some (.slice ta tn tc) := G0.cell 2
  have q3 : v0.cell? ⟨w.heap.size, 3, none⟩ = some (.int .i64 R) := G0.cell 3
  have q4 : v0.cell? ⟨w.heap.size, 4, none⟩ = some (.int .i64 C) := G0.cell 4
  have q5 : v0.cell? ⟨w.heap.size, 5, none⟩ = some (.slice ca cn cc) := G0.cell 5
  have HB0 : Hid (Below w.heap.size w v0) := B0
  have HG0 : Hid (RowAt v0 w.heap.size #[.int .i64 k, .int .i64 v, .slice ta tn tc, .int .i64 R, .int .i64 C, .slice ca cn cc] 49) := G0
  have z0 := G0.lt
  have s0 := B0.size
  clear B0 G0 ht hc hx
  by_cases h1 : k = 1
  · subst h1
    by_cases hv : v = 0
    · subst hv
      cases tb
      · go_wp2_with (go_at_call 56; refine (specTextOk_is HT0.out HTB.out).mono ?_; rintro e u1 ⟨rfl, hb⟩; have HC1 : Hid (Tab u1 ca cn cc l) := HC0.out.below hb; have HB1 : Hid (Below w.heap.size w u1) := HB0.out.trans (hb.mono s0); have hg := HG0.out.below hb z0; have p3 : u1.cell? ⟨w.heap.size, 3, none⟩ = some (.int .i64 R) := hg.cell 3; have p4 : u1.cell? ⟨w.heap.size, 4, none⟩ = some (.int .i64 C) := hg.cell 4; have p5 : u1.cell? ⟨w.heap.size, 5, none⟩ = some (.slice ca cn cc) := hg.cell 5; have s1 := HB1.out.size; clear hb hg)
        go_ret
        exact ⟨by rw [← HX.out]; simp [blockB, HTB.out], HB1.out⟩
      · cases nb
        · go_wp2_with (first | (go_at_call 56; refine (specTextOk_is HT0.out HTB.out).mono ?_; rintro e u1 ⟨rfl, hb⟩; have HC1 : Hid (Tab u1 ca cn cc l) := HC0.out.below hb; have HB1 : Hid (Below w.heap.size w u1) := HB0.out.trans (hb.mono s0); have hg := HG0.out.below hb z0; have p3 : u1.cell? ⟨w.heap.size, 3, none⟩ = some (.int .i64 R) := hg.cell 3; have p4 : u1.cell? ⟨w.heap.size, 4, none⟩ = some (.int .i64 C) := hg.cell 4; have p5 : u1.cell? ⟨w.heap.size, 5, none⟩ = some (.slice ca cn cc) := hg.cell 5; have s1 := HB1.out.size; clear hb hg) | (go_at_call 57; refine (l3None_is HNB.out HC1.out).mono ?_; rintro e u2 ⟨rfl, hb⟩; have HB2 : Hid (Below w.heap.size w u2) := HB1.out.trans (hb.mono s1); clear hb))
          go_ret
          exact ⟨by rw [← HX.out]; simp [blockB, HTB.out, HNB.out], HB2.out⟩
        · go_wp2_with (first | (go_at_call 56; refine (specTextOk_is HT0.out HTB.out).mono ?_; rintro e u1 ⟨rfl, hb⟩; have HC1 : Hid (Tab u1 ca cn cc l) := HC0.out.below hb; have HB1 : Hid (Below w.heap.size w u1) := HB0.out.trans (hb.mono s0); have hg := HG0.out.below hb z0; have p3 : u1.cell? ⟨w.heap.size, 3, none⟩ = some (.int .i64 R) := hg.cell 3; have p4 : u1.cell? ⟨w.heap.size, 4, none⟩ = some (.int .i64 C) := hg.cell 4; have p5 : u1.cell? ⟨w.heap.size, 5, none⟩ = some (.slice ca cn cc) := hg.cell 5; have s1 := HB1.out.size; clear hb hg) | (go_at_call 57; refine (l3None_is HNB.out HC1.out).mono ?_; rintro e u2 ⟨rfl, hb⟩; have HB2 : Hid (Below w.heap.size w u2) := HB1.out.trans (hb.mono s1); clear hb))
          go_ret
          exact ⟨by rw [← HX.out]; simp [blockB, HTB.out, HNB.out], HB2.out⟩
    · go_wp2_with fail
      go_ret
      exact ⟨by rw [← HX.out]; simp [blockB, hv], HB0.out⟩
  · by_cases h2 : k = 2
    · subst h2
      obtain ⟨lb, HL⟩ : ∃ b, Hid (decide (0 ≤ v ∧ v ≤ 3) = b) := ⟨_, rfl⟩
      cases lb
      · go_wp2_with (go_at_call 53; refine (l6In_of HL.out _).mono ?_; rintro e u0 ⟨rfl, hw0⟩; subst u0)
        go_ret
        exact ⟨by rw [← HX.out]; simp only [blockB, HL.out, Bool.false_and]; simp, HB0.out⟩
      · cases tb
        · go_wp2_with (first | (go_at_call 53; refine (l6In_of HL.out _).mono ?_; rintro e u0 ⟨rfl, hw0⟩; subst u0) | (go_at_call 56; refine (specTextOk_is HT0.out HTB.out).mono ?_; rintro e u1 ⟨rfl, hb⟩; have HC1 : Hid (Tab u1 ca cn cc l) := HC0.out.below hb; have HB1 : Hid (Below w.heap.size w u1) := HB0.out.trans (hb.mono s0); have hg := HG0.out.below hb z0; have p3 : u1.cell? ⟨w.heap.size, 3, none⟩ = some (.int .i64 R) := hg.cell 3; have p4 : u1.cell? ⟨w.heap.size, 4, none⟩ = some (.int .i64 C) := hg.cell 4; have p5 : u1.cell? ⟨w.heap.size, 5, none⟩ = some (.slice ca cn cc) := hg.cell 5; have s1 := HB1.out.size; clear hb hg))
          go_ret
          exact ⟨by rw [← HX.out]; simp [blockB, HTB.out], HB1.out⟩
        · cases nb
          · go_wp2_with (first | (go_at_call 53; refine (l6In_of HL.out _).mono ?_; rintro e u0 ⟨rfl, hw0⟩; subst u0) | (go_at_call 56; refine (specTextOk_is HT0.out HTB.out).mono ?_; rintro e u1 ⟨rfl, hb⟩; have HC1 : Hid (Tab u1 ca cn cc l) := HC0.out.below hb; have HB1 : Hid (Below w.heap.size w u1) := HB0.out.trans (hb.mono s0); have hg := HG0.out.below hb z0; have p3 : u1.cell? ⟨w.heap.size, 3, none⟩ = some (.int .i64 R) := hg.cell 3; have p4 : u1.cell? ⟨w.heap.size, 4, none⟩ = some (.int .i64 C) := hg.cell 4; have p5 : u1.cell? ⟨w.heap.size, 5, none⟩ = some (.slice ca cn cc) := hg.cell 5; have s1 := HB1.out.size; clear hb hg) | (go_at_call 57; refine (l3None_is HNB.out HC1.out).mono ?_; rintro e u2 ⟨rfl, hb⟩; have HB2 : Hid (Below w.heap.size w u2) := HB1.out.trans (hb.mono s1); clear hb))
            go_ret
            exact ⟨by rw [← HX.out]; simp [blockB, HTB.out, HNB.out], HB2.out⟩
          · go_wp2_with (first | (go_at_call 53; refine (l6In_of HL.out _).mono ?_; rintro e u0 ⟨rfl, hw0⟩; subst u0) | (go_at_call 56; refine (specTextOk_is HT0.out HTB.out).mono ?_; rintro e u1 ⟨rfl, hb⟩; have HC1 : Hid (Tab u1 ca cn cc l) := HC0.out.below hb; have HB1 : Hid (Below w.heap.size w u1) := HB0.out.trans (hb.mono s0); have hg := HG0.out.below hb z0; have p3 : u1.cell? ⟨w.heap.size, 3, none⟩ = some (.int .i64 R) := hg.cell 3; have p4 : u1.cell? ⟨w.heap.size, 4, none⟩ = some (.int .i64 C) := hg.cell 4; have p5 : u1.cell? ⟨w.heap.size, 5, none⟩ = some (.slice ca cn cc) := hg.cell 5; have s1 := HB1.out.size; clear hb hg) | (go_at_call 57; refine (l3None_is HNB.out HC1.out).mono ?_; rintro e u2 ⟨rfl, hb⟩; have HB2 : Hid (Below w.heap.size w u2) := HB1.out.trans (hb.mono s1); clear hb))
            go_ret
            exact ⟨by rw [← HX.out]; simp only [blockB, HTB.out, HNB.out, HL.out]; simp, HB2.out⟩
    · by_cases h3 : k = 3
      · subst h3
        by_cases hv : v = 0
        · subst hv
          by_cases ht0 : tn = 0
          · have hte : t = [] := HTN.out.2 ht0
            subst ht0
            cases ob
            · go_wp2_with (go_at_call 58; refine (specTableOk_is HOB.out HC0.out).mono ?_; rintro e u2 ⟨rfl, hb⟩; have HB2 : Hid (Below w.heap.size w u2) := HB0.out.trans (hb.mono s0); clear hb)
              go_ret
              exact ⟨by rw [← HX.out]; simp [blockB, HOB.out, hte], HB2.out⟩
            · go_wp2_with (go_at_call 58; refine (specTableOk_is HOB.out HC0.out).mono ?_; rintro e u2 ⟨rfl, hb⟩; have HB2 : Hid (Below w.heap.size w u2) := HB0.out.trans (hb.mono s0); clear hb)
              go_ret
              exact ⟨by rw [← HX.out]; simp [blockB, HOB.out, hte], HB2.out⟩
          · have hte : ¬ t = [] := fun e => ht0 (HTN.out.1 e)
            go_wp2_with fail
            go_ret
            exact ⟨by rw [← HX.out]; simp [blockB, hte], HB0.out⟩
        · go_wp2_with fail
          go_ret
          exact ⟨by rw [← HX.out]; simp [blockB, hv], HB0.out⟩
      · go_wp2_with fail
        go_ret
        exact ⟨by rw [← HX.out]; simp [blockB, h1, h2, h3], HB0.out⟩
end Go.Proofs.Ythjipnocemioaaa
namespace Go.Proofs.Ythjipnocemioaaa
open Go.RowKit

theorem yieldsIf_load_row {P : Program} {ops : Array Oper} {S : World → Prop} {op : Oper} {a : Act} (hw : Region.wanted op (yielded ops a.tmps) = true) (ty : TypeId) (x : Operand) (ho : op.op = .load ty x)
    (g : Nat) (hx : a.eval x = .pointer (some ⟨g, 0, none⟩)) (t : TypeId) (cs : Array Value) (fr : Nat × Nat) (d : TypeDesc) (hS : ∀ w, S w → w.heap[g]? = some (.cells cs t fr))
    (hu : P.underlying ty = some d) (hd : (match d with | .struct _ | .array _ _ => true | _ => false) = true) (hi : (P.info? ty).map (·.size) = some cs.size) : YieldsIf P ops S op (.agg cs) a :=
  .inl ⟨hw, fun w hw' => by
    unfold execOp
    simp only [ho, hx, Instr.loadAt, Instr.sureAddr, Sem.run_bind, Sem.run_pure, Result.andThen_ok, run_loadVar_row w g t ty cs fr d (hS w hw') hu hd hi]⟩
end Go.Proofs.Ythjipnocemioaaa
namespace Go.Proofs.Ythjipnocemioaaa
open Go.RowKit

/-- Take number i first, what it yields told by a slot's number. -/
theorem take_at {P : Program} {ops : Array Oper} {Q : Exit → Act → World → Prop} {md : Region.Mode} {S : World → Prop} (i d : Nat) (v : Value) {oi : Oper} {fuel : Nat} {listed : Array Bool} {a : Act} {w : World} (hi : ops[i]? = some oi) (hd : oi.dst = some d)
    (hs : Region.noSelect ops = true) (hf : Region.free md ops listed i = true) (hr : (Region.ready md ops listed).contains i = true)
    (hQ : ∀ c a w, Q (.panic c) (a.put (some d) v) w → Q (.panic c) a w) (hy : YieldsIf P ops S oi v a) (hS : S w)
    (h : wpAnyH P md ops Q S fuel (listed.setIfInBounds i true) (a.put (some d) v) w) : wpAnyH P md ops Q S (fuel + 1) listed a w := by
  rw [← hd] at hQ h
  exact wpAnyH_take hi hs hf hr hQ hy hS h
end Go.Proofs.Ythjipnocemioaaa
namespace Go.Proofs.Ythjipnocemioaaa
open Go.RowKit

theorem doc_info : (Try.prog.info? 29).map (·.size) = some 1 := by kernel_rfl
set_option maxRecDepth 100000 in
set_option maxHeartbeats 4000000 in
theorem l3Ahead_is {a : Option Addr} {n cap k : Nat} {d : List Bl} {w : World} {x : Int} (hx : aheadN d k = x) (h : Dc w a n cap d) (hk : k < d.length) :
    Calls Try.prog 31 #[.agg #[.slice a n cap], .int .i64 k] w fun e w' => e = .returned (.int .i64 x) ∧ Below w.heap.size w w' := by
  have HN : Hid (n = d.length) := h.1
  have hkn : k < n := by have := h.1; omega
  have hc := h.2.1
  have hm := h.2.2.1
  unfold maxLen at hm
  rcases h.2.2.2 with e | ⟨b, off, rfl, hb, hcl⟩
  · rw [e] at hk
    exact absurd hk (by simp)
  go_enter Try.func31, Try.ntmps31
  go_upto_region 1 with fail
  have B0 : Below w.heap.size w (w.alloc (.cells #[.slice (some ⟨b, off, none⟩) n cap] 29)) := (Below.refl _ _).alloc (Nat.le_refl _) _
  have q0 : (w.alloc (.cells #[.slice (some ⟨b, off, none⟩) n cap] 29)).cell? ⟨w.heap.size, 0, none⟩ = some (.slice (some ⟨b, off, none⟩) n cap) := by simp
  rcases k with _ | j
  · have hx' : x = -1 := by rw [← hx]; rfl
    clear hx
    subst hx'
    generalize (w.alloc (.cells #[.slice (some ⟨b, off, none⟩) n cap] 29)) = v0 at B0 q0 ⊢
    go_wp2_with fail
    go_ret
    exact ⟨rfl, B0⟩
  · have hj : j < d.length := by omega
    obtain ⟨ta, tn, tc, ca, cn, cc, c0, c1, -⟩ := (hcl j hj).below B0 hb
    have hx' : lvN (d.getD j bl0) = x := by rw [← hx]; rfl
    obtain ⟨K, HK⟩ : ∃ K, Hid ((d.getD j bl0).1 = K) := ⟨_, rfl⟩
    obtain ⟨V, HV⟩ : ∃ K, Hid ((d.getD j bl0).2.1 = K) := ⟨_, rfl⟩
    rw [HK.out] at c0
    rw [HV.out] at c1
    unfold lvN at hx'
    rw [HK.out, HV.out] at hx'
    have HX : Hid ((if K = 2 then V else -1) = x) := hx'
    have hj0 : (0 : Int) ≤ (j : Int) := by omega
    have hj1 : (j : Int) < (n : Int) := by omega
    have hj2 : (j : Int) ≤ 9223372036854775806 := by omega
    generalize (w.alloc (.cells #[.slice (some ⟨b, off, none⟩) n cap] 29)) = v0 at B0 q0 c0 c1 ⊢
    clear hcl hx hx'
    by_cases h2 : K = 2
    · subst h2
      have hxe : V = x := by have := HX.out; rw [if_pos rfl] at this; exact this
      go_wp2_with fail
      go_ret
      exact ⟨by rw [← hxe]; rfl, B0⟩
    · have hxe : -1 = x := by have := HX.out; rw [if_neg h2] at this; exact this
      have h2b : (K != 2) = true := by simp [h2]
      go_wp2_with fail
      go_ret
      exact ⟨by rw [← hxe]; rfl, B0⟩
theorem ahead_small {d : List Bl} {i : Nat} (h : (List.range i).all (docK d) = true) : -1 ≤ aheadN d i ∧ aheadN d i ≤ 3 := by
  rcases i with _ | j
  · show (-1 : Int) ≤ -1 ∧ (-1 : Int) ≤ 3
    omega
  · have hj := List.all_eq_true.1 h j (List.mem_range.2 (by omega))
    unfold docK at hj
    rw [Bool.and_eq_true] at hj
    have hb := hj.1
    show -1 ≤ lvN (d.getD j bl0) ∧ lvN (d.getD j bl0) ≤ 3
    unfold lvN
    by_cases h2 : (d.getD j bl0).1 = 2
    · rw [if_pos h2]
      unfold blockB at hb
      rw [if_neg (by omega), if_pos h2] at hb
      simp only [Bool.and_eq_true, decide_eq_true_eq] at hb
      omega
    · rw [if_neg h2]
      omega
theorem docB_no {d : List Bl} {i : Nat} (hi : i < d.length) (h : docK d i = false) : docB d = false := by
  unfold docB
  have : (List.range d.length).all (docK d) = false := by
    cases hq : (List.range d.length).all (docK d)
    · rfl
    · have := List.all_eq_true.1 hq i (List.mem_range.2 hi)
      rw [h] at this
      cases this
  rw [this, Bool.and_false]
set_option maxRecDepth 100000 in
set_option maxHeartbeats 8000000 in
theorem specDocOk_is {a : Option Addr} {n cap : Nat} {d : List Bl} {w : World} {x : Bool} (hx : docB d = x) (h : Dc w a n cap d) :
    Calls Try.prog 10 #[.agg #[.slice a n cap]] w fun e w' => e = .returned (.bool x) ∧ Below w.heap.size w w' := by
  have HX : Hid (docB d = x) := hx
  have HN : Hid (n = d.length) := h.1
  have hc := h.2.1
  have hm := h.2.2.1
  unfold maxLen at hm
  have H : Hid (Dc w a n cap d) := h
  clear h hx
  go_enter Try.func10, Try.ntmps10
  go_upto_region 1 with fail
  have B0 : Below w.heap.size w (w.alloc (.cells #[.slice a n cap] 29)) := (Below.refl _ _).alloc (Nat.le_refl _) _
  have G0 : RowAt (w.alloc (.cells #[.slice a n cap] 29)) w.heap.size #[.slice a n cap] 29 := rowAt_new _ _ _
  generalize (w.alloc (.cells #[.slice a n cap] 29)) = v0 at B0 G0 ⊢
  have HG : Hid (RowAt v0 w.heap.size #[.slice a n cap] 29) := G0
  have HB0 : Hid (Below w.heap.size w v0) := B0
  have q0 : v0.cell? ⟨w.heap.size, 0, none⟩ = some (.slice a n cap) := G0.cell 0
  have z0 := G0.lt
  clear B0 G0
  by_cases h8 : 8 < n
  · have h8' : (8 : Int) < (n : Int) := by omega
    go_wp2_with fail
    go_ret
    refine ⟨?_, HB0.out⟩
    have hd : ¬ d.length ≤ 8 := by have := HN.out; omega
    rw [← HX.out]
    unfold docB
    rw [decide_eq_false hd, Bool.false_and]
    rfl
  · have h8' : ¬ (8 : Int) < (n : Int) := by omega
    go_wp2_with fail
    clear q0
    go_loopw [3] (fun iv wr => ∃ i : Nat, i ≤ n ∧ iv = .int .i64 i ∧ (List.range i).all (docK d) = true ∧ Below w.heap.size w wr ∧ RowAt wr w.heap.size #[.slice a n cap] 29) (fun iv _ => n - (intOf iv).toNat)
    case atStart => exact ⟨0, Nat.zero_le _, rfl, rfl, HB0.out, HG.out⟩
    case round =>
      obtain ⟨i, hi, rfl, hall, hb, hr⟩ := hrel
      have HAll : Hid ((List.range i).all (docK d) = true) := hall
      have HB : Hid (Below w.heap.size w wr) := hb
      have HD : Hid (Dc wr a n cap d) := H.out.below hb
      have HR : Hid (RowAt wr w.heap.size #[.slice a n cap] 29) := hr
      have q1 : wr.cell? ⟨w.heap.size, 0, none⟩ = some (.slice a n cap) := hr.cell 0
      clear hall hb hr
      by_cases hlt : i < n
      · have hil : i < d.length := by have := HN.out; omega
        have hib : (i : Int) < (n : Int) := by omega
        have hi0 : (0 : Int) ≤ (i : Int) := by omega
        rcases HD.out.2.2.2 with e | ⟨b, off, rfl, hbl, hcl⟩
        · rw [e] at hil
          exact absurd hil (by simp)
        obtain ⟨ta, tn, tc, ca, cn, cc, hbi⟩ := hcl i hil
        obtain ⟨⟨K, V, t, R, C, l⟩, hx⟩ : ∃ x, x = d.getD i bl0 := ⟨_, rfl⟩
        rw [← hx] at hbi
        have HI : Hid (BlockIs wr b (off + i * 6) (K, V, t, R, C, l) ta tn tc ca cn cc) := hbi
        have HE : Hid (d.getD i bl0 = (K, V, t, R, C, l)) := hx.symm
        obtain ⟨bb, HBL⟩ : ∃ b, Hid (blockB (K, V, t, R, C, l) = b) := ⟨_, rfl⟩
        obtain ⟨ah, HAH⟩ : ∃ x, Hid (aheadN d i = x) := ⟨_, rfl⟩
        have hah : -1 ≤ ah ∧ ah ≤ 3 := by rw [← HAH.out]; exact ahead_small HAll.out
        have HDE : Hid (docK d i = (bb && !(decide (K = 2) && decide (ah + 1 < V)))) := by
          show docK d i = _
          unfold docK
          rw [HE.out, HBL.out, HAH.out]
        clear hcl hbi hx
        go_upto_region 6 with fail
        clear q1
        cases bb
        · have HDK : Hid (docK d i = false) := by show docK d i = false; rw [HDE.out]; rfl
          refine wp_region_noPanic ?_
          refine wp_region_held_drew (S := fun w' => RowAt w' w.heap.size #[.slice (some ⟨b, off, none⟩) n cap] 29 ∧ BlockIs w' b (off + i * 6) (K, V, t, R, C, l) ta tn tc ca cn cc) (by kernel_rfl) ⟨HR.out, HI.out.below ((Below.refl _ _).drew) hbl⟩ (fun hHeld => ?_)
          refine take_at 0 15 (.pointer (some ⟨w.heap.size, 0, none⟩)) rfl rfl (by kernel_rfl) (by kernel_rfl) (by kernel_rfl) (fun _ _ _ h => h) (Or.inl ⟨by kernel_rfl, fun w' hS' => by go_simp⟩) hHeld ?_
          (try simp only [Act.put, List.setIfInBounds_toArray, List.set_cons_zero, List.set_cons_succ])
          refine take_at 1 16 (.slice (some ⟨b, off, none⟩) n cap) rfl rfl (by kernel_rfl) (by kernel_rfl) (by kernel_rfl) (fun _ _ _ h => h) (Or.inl ⟨by kernel_rfl, fun w' hS' => by have hc := RowAt.cell hS'.1 0; go_simp⟩) hHeld ?_
          (try simp only [Act.put, List.setIfInBounds_toArray, List.set_cons_zero, List.set_cons_succ])
          refine take_at 2 17 (.int .i64 i) rfl rfl (by kernel_rfl) (by kernel_rfl) (by kernel_rfl) (fun _ _ _ h => h) (Or.inl ⟨by kernel_rfl, fun w' hS' => by go_simp⟩) hHeld ?_
          (try simp only [Act.put, List.setIfInBounds_toArray, List.set_cons_zero, List.set_cons_succ])
          refine take_at 3 18 (.pointer (some ⟨b, off + i * 6, none⟩)) rfl rfl (by kernel_rfl) (by kernel_rfl) (by kernel_rfl) (fun _ _ _ h => h) (Or.inl ⟨by kernel_rfl, fun w' hS' => by go_simp⟩) hHeld ?_
          (try simp only [Act.put, List.setIfInBounds_toArray, List.set_cons_zero, List.set_cons_succ])
          refine take_at 4 19 (.agg #[.int .i64 K, .int .i64 V, .slice ta tn tc, .int .i64 R, .int .i64 C, .slice ca cn cc]) rfl rfl (by kernel_rfl) (by kernel_rfl) (by kernel_rfl) (fun _ _ _ h => h) (Or.inl ⟨by kernel_rfl, fun w' hS' => by obtain ⟨e0, e1, e2, e3, e4, e5, -, -⟩ := hS'.2; go_simp⟩) hHeld ?_
          (try simp only [Act.put, List.setIfInBounds_toArray, List.set_cons_zero, List.set_cons_succ])
          replace HB : Hid (Below w.heap.size w wr.drew) := HB.out.drew
          replace HD : Hid (Dc wr.drew (some ⟨b, off, none⟩) n cap d) := HD.out.below ((Below.refl _ _).drew)
          replace hbl : b < wr.drew.heap.size := hbl
          clear HR HI
          generalize wr.drew = u0 at HB HD hbl hHeld ⊢
          refine wpAnyH_ready (rs := [5]) (by kernel_rfl) (by simp) ?_
          refine AllReadyH.cons rfl (fun K0 hK => ?_) AllReadyH.nil
          go_simp
          go_at_call 30
          refine (l3Block_is HBL.out hHeld.2.2.2.2.2.2.2.1 hHeld.2.2.2.2.2.2.2.2).mono ?_
          rintro e u1 ⟨rfl, hb1⟩
          replace HB : Hid (Below w.heap.size w u1) := HB.out.trans (hb1.mono HB.out.size)
          have HH : Hid (RowAt u1 w.heap.size #[.slice (some ⟨b, off, none⟩) n cap] 29 ∧ BlockIs u1 b (off + i * 6) (K, V, t, R, C, l) ta tn tc ca cn cc) := ⟨hHeld.1.below hb1 hHeld.1.lt, hHeld.2.below hb1 (by have := hb1.size; omega)⟩
          replace HD : Hid (Dc u1 (some ⟨b, off, none⟩) n cap d) := HD.out.below hb1
          replace hbl : b < u1.heap.size := by have := hb1.size; omega
          clear hb1 hHeld
          go_wp2_with fail
          refine hK.out _ _ HH.out (fun hHeld => ?_)
          clear hK K0 HH
          (try simp only [Act.put, List.setIfInBounds_toArray, List.set_cons_zero, List.set_cons_succ])
          refine take_at 6 21 (.bool true) rfl rfl (by kernel_rfl) (by kernel_rfl) (by kernel_rfl) (fun _ _ _ h => h) (Or.inl ⟨by kernel_rfl, fun w' hS' => by go_simp⟩) hHeld ?_
          (try simp only [Act.put, List.setIfInBounds_toArray, List.set_cons_zero, List.set_cons_succ])
          refine take_at 7 22 (.bool true) rfl rfl (by kernel_rfl) (by kernel_rfl) (by kernel_rfl) (fun _ _ _ h => h) (Or.inl ⟨by kernel_rfl, fun w' hS' => by go_simp⟩) hHeld ?_
          (try simp only [Act.put, List.setIfInBounds_toArray, List.set_cons_zero, List.set_cons_succ])
          refine take_at 8 23 (undef) rfl rfl (by kernel_rfl) (by kernel_rfl) (by kernel_rfl) (fun _ _ _ h => h) (Or.inr ⟨by kernel_rfl, rfl⟩) hHeld ?_
          (try simp only [Act.put, List.setIfInBounds_toArray, List.set_cons_zero, List.set_cons_succ])
          refine take_at 9 24 (undef) rfl rfl (by kernel_rfl) (by kernel_rfl) (by kernel_rfl) (fun _ _ _ h => h) (Or.inr ⟨by kernel_rfl, rfl⟩) hHeld ?_
          (try simp only [Act.put, List.setIfInBounds_toArray, List.set_cons_zero, List.set_cons_succ])
          refine take_at 10 25 (undef) rfl rfl (by kernel_rfl) (by kernel_rfl) (by kernel_rfl) (fun _ _ _ h => h) (Or.inr ⟨by kernel_rfl, rfl⟩) hHeld ?_
          (try simp only [Act.put, List.setIfInBounds_toArray, List.set_cons_zero, List.set_cons_succ])
          refine take_at 11 26 (undef) rfl rfl (by kernel_rfl) (by kernel_rfl) (by kernel_rfl) (fun _ _ _ h => h) (Or.inr ⟨by kernel_rfl, rfl⟩) hHeld ?_
          (try simp only [Act.put, List.setIfInBounds_toArray, List.set_cons_zero, List.set_cons_succ])
          refine take_at 12 27 (undef) rfl rfl (by kernel_rfl) (by kernel_rfl) (by kernel_rfl) (fun _ _ _ h => h) (Or.inr ⟨by kernel_rfl, rfl⟩) hHeld ?_
          (try simp only [Act.put, List.setIfInBounds_toArray, List.set_cons_zero, List.set_cons_succ])
          refine take_at 13 28 (undef) rfl rfl (by kernel_rfl) (by kernel_rfl) (by kernel_rfl) (fun _ _ _ h => h) (Or.inr ⟨by kernel_rfl, rfl⟩) hHeld ?_
          (try simp only [Act.put, List.setIfInBounds_toArray, List.set_cons_zero, List.set_cons_succ])
          refine take_at 14 29 (undef) rfl rfl (by kernel_rfl) (by kernel_rfl) (by kernel_rfl) (fun _ _ _ h => h) (Or.inr ⟨by kernel_rfl, rfl⟩) hHeld ?_
          (try simp only [Act.put, List.setIfInBounds_toArray, List.set_cons_zero, List.set_cons_succ])
          refine take_at 15 30 (undef) rfl rfl (by kernel_rfl) (by kernel_rfl) (by kernel_rfl) (fun _ _ _ h => h) (Or.inr ⟨by kernel_rfl, rfl⟩) hHeld ?_
          (try simp only [Act.put, List.setIfInBounds_toArray, List.set_cons_zero, List.set_cons_succ])
          refine take_at 16 31 (undef) rfl rfl (by kernel_rfl) (by kernel_rfl) (by kernel_rfl) (fun _ _ _ h => h) (Or.inr ⟨by kernel_rfl, rfl⟩) hHeld ?_
          (try simp only [Act.put, List.setIfInBounds_toArray, List.set_cons_zero, List.set_cons_succ])
          refine take_at 17 32 (undef) rfl rfl (by kernel_rfl) (by kernel_rfl) (by kernel_rfl) (fun _ _ _ h => h) (Or.inr ⟨by kernel_rfl, rfl⟩) hHeld ?_
          (try simp only [Act.put, List.setIfInBounds_toArray, List.set_cons_zero, List.set_cons_succ])
          refine take_at 18 33 (undef) rfl rfl (by kernel_rfl) (by kernel_rfl) (by kernel_rfl) (fun _ _ _ h => h) (Or.inr ⟨by kernel_rfl, rfl⟩) hHeld ?_
          (try simp only [Act.put, List.setIfInBounds_toArray, List.set_cons_zero, List.set_cons_succ])
          refine take_at 19 34 (undef) rfl rfl (by kernel_rfl) (by kernel_rfl) (by kernel_rfl) (fun _ _ _ h => h) (Or.inr ⟨by kernel_rfl, rfl⟩) hHeld ?_
          (try simp only [Act.put, List.setIfInBounds_toArray, List.set_cons_zero, List.set_cons_succ])
          refine take_at 20 35 (undef) rfl rfl (by kernel_rfl) (by kernel_rfl) (by kernel_rfl) (fun _ _ _ h => h) (Or.inr ⟨by kernel_rfl, rfl⟩) hHeld ?_
          (try simp only [Act.put, List.setIfInBounds_toArray, List.set_cons_zero, List.set_cons_succ])
          refine take_at 21 36 (undef) rfl rfl (by kernel_rfl) (by kernel_rfl) (by kernel_rfl) (fun _ _ _ h => h) (Or.inr ⟨by kernel_rfl, rfl⟩) hHeld ?_
          (try simp only [Act.put, List.setIfInBounds_toArray, List.set_cons_zero, List.set_cons_succ])
          refine take_at 22 37 (undef) rfl rfl (by kernel_rfl) (by kernel_rfl) (by kernel_rfl) (fun _ _ _ h => h) (Or.inr ⟨by kernel_rfl, rfl⟩) hHeld ?_
          (try simp only [Act.put, List.setIfInBounds_toArray, List.set_cons_zero, List.set_cons_succ])
          refine take_at 23 38 (undef) rfl rfl (by kernel_rfl) (by kernel_rfl) (by kernel_rfl) (fun _ _ _ h => h) (Or.inr ⟨by kernel_rfl, rfl⟩) hHeld ?_
          (try simp only [Act.put, List.setIfInBounds_toArray, List.set_cons_zero, List.set_cons_succ])
          refine take_at 24 39 (undef) rfl rfl (by kernel_rfl) (by kernel_rfl) (by kernel_rfl) (fun _ _ _ h => h) (Or.inr ⟨by kernel_rfl, rfl⟩) hHeld ?_
          (try simp only [Act.put, List.setIfInBounds_toArray, List.set_cons_zero, List.set_cons_succ])
          refine take_at 25 40 (undef) rfl rfl (by kernel_rfl) (by kernel_rfl) (by kernel_rfl) (fun _ _ _ h => h) (Or.inr ⟨by kernel_rfl, rfl⟩) hHeld ?_
          (try simp only [Act.put, List.setIfInBounds_toArray, List.set_cons_zero, List.set_cons_succ])
          refine take_at 26 41 (undef) rfl rfl (by kernel_rfl) (by kernel_rfl) (by kernel_rfl) (fun _ _ _ h => h) (Or.inr ⟨by kernel_rfl, rfl⟩) hHeld ?_
          (try simp only [Act.put, List.setIfInBounds_toArray, List.set_cons_zero, List.set_cons_succ])
          refine take_at 27 42 (undef) rfl rfl (by kernel_rfl) (by kernel_rfl) (by kernel_rfl) (fun _ _ _ h => h) (Or.inr ⟨by kernel_rfl, rfl⟩) hHeld ?_
          (try simp only [Act.put, List.setIfInBounds_toArray, List.set_cons_zero, List.set_cons_succ])
          refine take_at 28 43 (.bool true) rfl rfl (by kernel_rfl) (by kernel_rfl) (by kernel_rfl) (fun _ _ _ h => h) (Or.inl ⟨by kernel_rfl, fun w' hS' => by go_simp⟩) hHeld ?_
          (try simp only [Act.put, List.setIfInBounds_toArray, List.set_cons_zero, List.set_cons_succ])
          refine wpAnyH_done (by kernel_rfl) ?_ _
          refine NoPanic.normal ?_
          clear hHeld
          go_wp2_with fail
          go_ret
          exact ⟨by rw [docB_no hil HDK.out] at HX; rw [← HX.out]; rfl, HB.out⟩
        · by_cases hk2 : K = 2
          · subst hk2
            by_cases hlv : ah + 1 < V
            · have HDK : Hid (docK d i = false) := by show docK d i = false; rw [HDE.out]; simp [hlv]
              refine wp_region_noPanic ?_
              refine wp_region_held_drew (S := fun w' => RowAt w' w.heap.size #[.slice (some ⟨b, off, none⟩) n cap] 29 ∧ BlockIs w' b (off + i * 6) (2, V, t, R, C, l) ta tn tc ca cn cc) (by kernel_rfl) ⟨HR.out, HI.out.below ((Below.refl _ _).drew) hbl⟩ (fun hHeld => ?_)
              refine take_at 0 15 (.pointer (some ⟨w.heap.size, 0, none⟩)) rfl rfl (by kernel_rfl) (by kernel_rfl) (by kernel_rfl) (fun _ _ _ h => h) (Or.inl ⟨by kernel_rfl, fun w' hS' => by go_simp⟩) hHeld ?_
              (try simp only [Act.put, List.setIfInBounds_toArray, List.set_cons_zero, List.set_cons_succ])
              refine take_at 1 16 (.slice (some ⟨b, off, none⟩) n cap) rfl rfl (by kernel_rfl) (by kernel_rfl) (by kernel_rfl) (fun _ _ _ h => h) (Or.inl ⟨by kernel_rfl, fun w' hS' => by have hc := RowAt.cell hS'.1 0; go_simp⟩) hHeld ?_
              (try simp only [Act.put, List.setIfInBounds_toArray, List.set_cons_zero, List.set_cons_succ])
              refine take_at 2 17 (.int .i64 i) rfl rfl (by kernel_rfl) (by kernel_rfl) (by kernel_rfl) (fun _ _ _ h => h) (Or.inl ⟨by kernel_rfl, fun w' hS' => by go_simp⟩) hHeld ?_
              (try simp only [Act.put, List.setIfInBounds_toArray, List.set_cons_zero, List.set_cons_succ])
              refine take_at 3 18 (.pointer (some ⟨b, off + i * 6, none⟩)) rfl rfl (by kernel_rfl) (by kernel_rfl) (by kernel_rfl) (fun _ _ _ h => h) (Or.inl ⟨by kernel_rfl, fun w' hS' => by go_simp⟩) hHeld ?_
              (try simp only [Act.put, List.setIfInBounds_toArray, List.set_cons_zero, List.set_cons_succ])
              refine take_at 4 19 (.agg #[.int .i64 2, .int .i64 V, .slice ta tn tc, .int .i64 R, .int .i64 C, .slice ca cn cc]) rfl rfl (by kernel_rfl) (by kernel_rfl) (by kernel_rfl) (fun _ _ _ h => h) (Or.inl ⟨by kernel_rfl, fun w' hS' => by obtain ⟨e0, e1, e2, e3, e4, e5, -, -⟩ := hS'.2; go_simp⟩) hHeld ?_
              (try simp only [Act.put, List.setIfInBounds_toArray, List.set_cons_zero, List.set_cons_succ])
              replace HB : Hid (Below w.heap.size w wr.drew) := HB.out.drew
              replace HD : Hid (Dc wr.drew (some ⟨b, off, none⟩) n cap d) := HD.out.below ((Below.refl _ _).drew)
              replace hbl : b < wr.drew.heap.size := hbl
              clear HR HI
              generalize wr.drew = u0 at HB HD hbl hHeld ⊢
              refine wpAnyH_ready (rs := [5]) (by kernel_rfl) (by simp) ?_
              refine AllReadyH.cons rfl (fun K0 hK => ?_) AllReadyH.nil
              go_simp
              go_at_call 30
              refine (l3Block_is HBL.out hHeld.2.2.2.2.2.2.2.1 hHeld.2.2.2.2.2.2.2.2).mono ?_
              rintro e u1 ⟨rfl, hb1⟩
              replace HB : Hid (Below w.heap.size w u1) := HB.out.trans (hb1.mono HB.out.size)
              have HH : Hid (RowAt u1 w.heap.size #[.slice (some ⟨b, off, none⟩) n cap] 29 ∧ BlockIs u1 b (off + i * 6) (2, V, t, R, C, l) ta tn tc ca cn cc) := ⟨hHeld.1.below hb1 hHeld.1.lt, hHeld.2.below hb1 (by have := hb1.size; omega)⟩
              replace HD : Hid (Dc u1 (some ⟨b, off, none⟩) n cap d) := HD.out.below hb1
              replace hbl : b < u1.heap.size := by have := hb1.size; omega
              clear hb1 hHeld
              go_wp2_with fail
              refine hK.out _ _ HH.out (fun hHeld => ?_)
              clear hK K0 HH
              (try simp only [Act.put, List.setIfInBounds_toArray, List.set_cons_zero, List.set_cons_succ])
              refine take_at 6 21 (.bool false) rfl rfl (by kernel_rfl) (by kernel_rfl) (by kernel_rfl) (fun _ _ _ h => h) (Or.inl ⟨by kernel_rfl, fun w' hS' => by go_simp⟩) hHeld ?_
              (try simp only [Act.put, List.setIfInBounds_toArray, List.set_cons_zero, List.set_cons_succ])
              refine take_at 7 22 (.bool false) rfl rfl (by kernel_rfl) (by kernel_rfl) (by kernel_rfl) (fun _ _ _ h => h) (Or.inl ⟨by kernel_rfl, fun w' hS' => by go_simp⟩) hHeld ?_
              (try simp only [Act.put, List.setIfInBounds_toArray, List.set_cons_zero, List.set_cons_succ])
              refine take_at 8 23 (.pointer (some ⟨w.heap.size, 0, none⟩)) rfl rfl (by kernel_rfl) (by kernel_rfl) (by kernel_rfl) (fun _ _ _ h => h) (Or.inl ⟨by kernel_rfl, fun w' hS' => by go_simp⟩) hHeld ?_
              (try simp only [Act.put, List.setIfInBounds_toArray, List.set_cons_zero, List.set_cons_succ])
              refine take_at 9 24 (.slice (some ⟨b, off, none⟩) n cap) rfl rfl (by kernel_rfl) (by kernel_rfl) (by kernel_rfl) (fun _ _ _ h => h) (Or.inl ⟨by kernel_rfl, fun w' hS' => by have hc := RowAt.cell hS'.1 0; go_simp⟩) hHeld ?_
              (try simp only [Act.put, List.setIfInBounds_toArray, List.set_cons_zero, List.set_cons_succ])
              refine take_at 10 25 (.int .i64 i) rfl rfl (by kernel_rfl) (by kernel_rfl) (by kernel_rfl) (fun _ _ _ h => h) (Or.inl ⟨by kernel_rfl, fun w' hS' => by go_simp⟩) hHeld ?_
              (try simp only [Act.put, List.setIfInBounds_toArray, List.set_cons_zero, List.set_cons_succ])
              refine take_at 11 26 (.pointer (some ⟨b, off + i * 6, none⟩)) rfl rfl (by kernel_rfl) (by kernel_rfl) (by kernel_rfl) (fun _ _ _ h => h) (Or.inl ⟨by kernel_rfl, fun w' hS' => by go_simp⟩) hHeld ?_
              (try simp only [Act.put, List.setIfInBounds_toArray, List.set_cons_zero, List.set_cons_succ])
              refine take_at 12 27 (.pointer (some ⟨b, off + i * 6, none⟩)) rfl rfl (by kernel_rfl) (by kernel_rfl) (by kernel_rfl) (fun _ _ _ h => h) (Or.inl ⟨by kernel_rfl, fun w' hS' => by go_simp⟩) hHeld ?_
              (try simp only [Act.put, List.setIfInBounds_toArray, List.set_cons_zero, List.set_cons_succ])
              refine take_at 13 28 (.int .i64 2) rfl rfl (by kernel_rfl) (by kernel_rfl) (by kernel_rfl) (fun _ _ _ h => h) (Or.inl ⟨by kernel_rfl, fun w' hS' => by have hc := hS'.2.1; go_simp⟩) hHeld ?_
              (try simp only [Act.put, List.setIfInBounds_toArray, List.set_cons_zero, List.set_cons_succ])
              refine take_at 14 29 (.bool true) rfl rfl (by kernel_rfl) (by kernel_rfl) (by kernel_rfl) (fun _ _ _ h => h) (Or.inl ⟨by kernel_rfl, fun w' hS' => by go_simp⟩) hHeld ?_
              (try simp only [Act.put, List.setIfInBounds_toArray, List.set_cons_zero, List.set_cons_succ])
              refine take_at 15 30 (.bool true) rfl rfl (by kernel_rfl) (by kernel_rfl) (by kernel_rfl) (fun _ _ _ h => h) (Or.inl ⟨by kernel_rfl, fun w' hS' => by go_simp⟩) hHeld ?_
              (try simp only [Act.put, List.setIfInBounds_toArray, List.set_cons_zero, List.set_cons_succ])
              refine take_at 16 31 (.pointer (some ⟨w.heap.size, 0, none⟩)) rfl rfl (by kernel_rfl) (by kernel_rfl) (by kernel_rfl) (fun _ _ _ h => h) (Or.inl ⟨by kernel_rfl, fun w' hS' => by go_simp⟩) hHeld ?_
              (try simp only [Act.put, List.setIfInBounds_toArray, List.set_cons_zero, List.set_cons_succ])
              refine take_at 17 32 (.slice (some ⟨b, off, none⟩) n cap) rfl rfl (by kernel_rfl) (by kernel_rfl) (by kernel_rfl) (fun _ _ _ h => h) (Or.inl ⟨by kernel_rfl, fun w' hS' => by have hc := RowAt.cell hS'.1 0; go_simp⟩) hHeld ?_
              (try simp only [Act.put, List.setIfInBounds_toArray, List.set_cons_zero, List.set_cons_succ])
              refine take_at 18 33 (.int .i64 i) rfl rfl (by kernel_rfl) (by kernel_rfl) (by kernel_rfl) (fun _ _ _ h => h) (Or.inl ⟨by kernel_rfl, fun w' hS' => by go_simp⟩) hHeld ?_
              (try simp only [Act.put, List.setIfInBounds_toArray, List.set_cons_zero, List.set_cons_succ])
              refine take_at 19 34 (.pointer (some ⟨b, off + i * 6, none⟩)) rfl rfl (by kernel_rfl) (by kernel_rfl) (by kernel_rfl) (fun _ _ _ h => h) (Or.inl ⟨by kernel_rfl, fun w' hS' => by go_simp⟩) hHeld ?_
              (try simp only [Act.put, List.setIfInBounds_toArray, List.set_cons_zero, List.set_cons_succ])
              refine take_at 20 35 (.pointer (some ⟨b, off + i * 6 + 1, none⟩)) rfl rfl (by kernel_rfl) (by kernel_rfl) (by kernel_rfl) (fun _ _ _ h => h) (Or.inl ⟨by kernel_rfl, fun w' hS' => by go_simp⟩) hHeld ?_
              (try simp only [Act.put, List.setIfInBounds_toArray, List.set_cons_zero, List.set_cons_succ])
              refine take_at 21 36 (.int .i64 V) rfl rfl (by kernel_rfl) (by kernel_rfl) (by kernel_rfl) (fun _ _ _ h => h) (Or.inl ⟨by kernel_rfl, fun w' hS' => by have hc := hS'.2.2.1; go_simp⟩) hHeld ?_
              (try simp only [Act.put, List.setIfInBounds_toArray, List.set_cons_zero, List.set_cons_succ])
              refine take_at 22 37 (.agg #[.slice (some ⟨b, off, none⟩) n cap]) rfl rfl (by kernel_rfl) (by kernel_rfl) (by kernel_rfl) (fun _ _ _ h => h) (yieldsIf_load_row (by kernel_rfl) 29 (.tmp 1) rfl w.heap.size rfl 29 #[.slice (some ⟨b, off, none⟩) n cap] (0, 0) _ (fun w' h => h.1) Try.underlying29 rfl doc_info) hHeld ?_
              (try simp only [Act.put, List.setIfInBounds_toArray, List.set_cons_zero, List.set_cons_succ])
              refine take_at 23 38 (.int .i64 i) rfl rfl (by kernel_rfl) (by kernel_rfl) (by kernel_rfl) (fun _ _ _ h => h) (Or.inl ⟨by kernel_rfl, fun w' hS' => by go_simp⟩) hHeld ?_
              (try simp only [Act.put, List.setIfInBounds_toArray, List.set_cons_zero, List.set_cons_succ])
              refine wpAnyH_ready (rs := [24]) (by kernel_rfl) (by simp) ?_
              refine AllReadyH.cons rfl (fun K0 hK => ?_) AllReadyH.nil
              go_simp
              go_at_call 31
              refine (l3Ahead_is HAH.out HD.out hil).mono ?_
              rintro e u2 ⟨rfl, hb1⟩
              replace HB : Hid (Below w.heap.size w u2) := HB.out.trans (hb1.mono HB.out.size)
              have HH : Hid (RowAt u2 w.heap.size #[.slice (some ⟨b, off, none⟩) n cap] 29 ∧ BlockIs u2 b (off + i * 6) (2, V, t, R, C, l) ta tn tc ca cn cc) := ⟨hHeld.1.below hb1 hHeld.1.lt, hHeld.2.below hb1 (by have := hb1.size; omega)⟩
              replace HD : Hid (Dc u2 (some ⟨b, off, none⟩) n cap d) := HD.out.below hb1
              replace hbl : b < u2.heap.size := by have := hb1.size; omega
              clear hb1 hHeld
              go_wp2_with fail
              refine hK.out _ _ HH.out (fun hHeld => ?_)
              clear hK K0 HH
              (try simp only [Act.put, List.setIfInBounds_toArray, List.set_cons_zero, List.set_cons_succ])
              refine take_at 25 40 (.int .i64 (ah + 1)) rfl rfl (by kernel_rfl) (by kernel_rfl) (by kernel_rfl) (fun _ _ _ h => h) (Or.inl ⟨by kernel_rfl, fun w' hS' => by go_simp; rw [IntKind.wrap_i64]; omega⟩) hHeld ?_
              (try simp only [Act.put, List.setIfInBounds_toArray, List.set_cons_zero, List.set_cons_succ])
              refine take_at 26 41 (.bool true) rfl rfl (by kernel_rfl) (by kernel_rfl) (by kernel_rfl) (fun _ _ _ h => h) (Or.inl ⟨by kernel_rfl, fun w' hS' => by go_simp <;> omega⟩) hHeld ?_
              (try simp only [Act.put, List.setIfInBounds_toArray, List.set_cons_zero, List.set_cons_succ])
              refine take_at 27 42 (.bool true) rfl rfl (by kernel_rfl) (by kernel_rfl) (by kernel_rfl) (fun _ _ _ h => h) (Or.inl ⟨by kernel_rfl, fun w' hS' => by go_simp⟩) hHeld ?_
              (try simp only [Act.put, List.setIfInBounds_toArray, List.set_cons_zero, List.set_cons_succ])
              refine take_at 28 43 (.bool true) rfl rfl (by kernel_rfl) (by kernel_rfl) (by kernel_rfl) (fun _ _ _ h => h) (Or.inl ⟨by kernel_rfl, fun w' hS' => by go_simp⟩) hHeld ?_
              (try simp only [Act.put, List.setIfInBounds_toArray, List.set_cons_zero, List.set_cons_succ])
              refine wpAnyH_done (by kernel_rfl) ?_ _
              refine NoPanic.normal ?_
              clear hHeld
              go_wp2_with fail
              go_ret
              exact ⟨by rw [docB_no hil HDK.out] at HX; rw [← HX.out]; rfl, HB.out⟩
            · have HDK : Hid (docK d i = true) := by show docK d i = true; rw [HDE.out]; simp [hlv]
              refine wp_region_noPanic ?_
              refine wp_region_held_drew (S := fun w' => RowAt w' w.heap.size #[.slice (some ⟨b, off, none⟩) n cap] 29 ∧ BlockIs w' b (off + i * 6) (2, V, t, R, C, l) ta tn tc ca cn cc) (by kernel_rfl) ⟨HR.out, HI.out.below ((Below.refl _ _).drew) hbl⟩ (fun hHeld => ?_)
              refine take_at 0 15 (.pointer (some ⟨w.heap.size, 0, none⟩)) rfl rfl (by kernel_rfl) (by kernel_rfl) (by kernel_rfl) (fun _ _ _ h => h) (Or.inl ⟨by kernel_rfl, fun w' hS' => by go_simp⟩) hHeld ?_
              (try simp only [Act.put, List.setIfInBounds_toArray, List.set_cons_zero, List.set_cons_succ])
              refine take_at 1 16 (.slice (some ⟨b, off, none⟩) n cap) rfl rfl (by kernel_rfl) (by kernel_rfl) (by kernel_rfl) (fun _ _ _ h => h) (Or.inl ⟨by kernel_rfl, fun w' hS' => by have hc := RowAt.cell hS'.1 0; go_simp⟩) hHeld ?_
              (try simp only [Act.put, List.setIfInBounds_toArray, List.set_cons_zero, List.set_cons_succ])
              refine take_at 2 17 (.int .i64 i) rfl rfl (by kernel_rfl) (by kernel_rfl) (by kernel_rfl) (fun _ _ _ h => h) (Or.inl ⟨by kernel_rfl, fun w' hS' => by go_simp⟩) hHeld ?_
              (try simp only [Act.put, List.setIfInBounds_toArray, List.set_cons_zero, List.set_cons_succ])
              refine take_at 3 18 (.pointer (some ⟨b, off + i * 6, none⟩)) rfl rfl (by kernel_rfl) (by kernel_rfl) (by kernel_rfl) (fun _ _ _ h => h) (Or.inl ⟨by kernel_rfl, fun w' hS' => by go_simp⟩) hHeld ?_
              (try simp only [Act.put, List.setIfInBounds_toArray, List.set_cons_zero, List.set_cons_succ])
              refine take_at 4 19 (.agg #[.int .i64 2, .int .i64 V, .slice ta tn tc, .int .i64 R, .int .i64 C, .slice ca cn cc]) rfl rfl (by kernel_rfl) (by kernel_rfl) (by kernel_rfl) (fun _ _ _ h => h) (Or.inl ⟨by kernel_rfl, fun w' hS' => by obtain ⟨e0, e1, e2, e3, e4, e5, -, -⟩ := hS'.2; go_simp⟩) hHeld ?_
              (try simp only [Act.put, List.setIfInBounds_toArray, List.set_cons_zero, List.set_cons_succ])
              replace HB : Hid (Below w.heap.size w wr.drew) := HB.out.drew
              replace HD : Hid (Dc wr.drew (some ⟨b, off, none⟩) n cap d) := HD.out.below ((Below.refl _ _).drew)
              replace hbl : b < wr.drew.heap.size := hbl
              clear HR HI
              generalize wr.drew = u0 at HB HD hbl hHeld ⊢
              refine wpAnyH_ready (rs := [5]) (by kernel_rfl) (by simp) ?_
              refine AllReadyH.cons rfl (fun K0 hK => ?_) AllReadyH.nil
              go_simp
              go_at_call 30
              refine (l3Block_is HBL.out hHeld.2.2.2.2.2.2.2.1 hHeld.2.2.2.2.2.2.2.2).mono ?_
              rintro e u1 ⟨rfl, hb1⟩
              replace HB : Hid (Below w.heap.size w u1) := HB.out.trans (hb1.mono HB.out.size)
              have HH : Hid (RowAt u1 w.heap.size #[.slice (some ⟨b, off, none⟩) n cap] 29 ∧ BlockIs u1 b (off + i * 6) (2, V, t, R, C, l) ta tn tc ca cn cc) := ⟨hHeld.1.below hb1 hHeld.1.lt, hHeld.2.below hb1 (by have := hb1.size; omega)⟩
              replace HD : Hid (Dc u1 (some ⟨b, off, none⟩) n cap d) := HD.out.below hb1
              replace hbl : b < u1.heap.size := by have := hb1.size; omega
              clear hb1 hHeld
              go_wp2_with fail
              refine hK.out _ _ HH.out (fun hHeld => ?_)
              clear hK K0 HH
              (try simp only [Act.put, List.setIfInBounds_toArray, List.set_cons_zero, List.set_cons_succ])
              refine take_at 6 21 (.bool false) rfl rfl (by kernel_rfl) (by kernel_rfl) (by kernel_rfl) (fun _ _ _ h => h) (Or.inl ⟨by kernel_rfl, fun w' hS' => by go_simp⟩) hHeld ?_
              (try simp only [Act.put, List.setIfInBounds_toArray, List.set_cons_zero, List.set_cons_succ])
              refine take_at 7 22 (.bool false) rfl rfl (by kernel_rfl) (by kernel_rfl) (by kernel_rfl) (fun _ _ _ h => h) (Or.inl ⟨by kernel_rfl, fun w' hS' => by go_simp⟩) hHeld ?_
              (try simp only [Act.put, List.setIfInBounds_toArray, List.set_cons_zero, List.set_cons_succ])
              refine take_at 8 23 (.pointer (some ⟨w.heap.size, 0, none⟩)) rfl rfl (by kernel_rfl) (by kernel_rfl) (by kernel_rfl) (fun _ _ _ h => h) (Or.inl ⟨by kernel_rfl, fun w' hS' => by go_simp⟩) hHeld ?_
              (try simp only [Act.put, List.setIfInBounds_toArray, List.set_cons_zero, List.set_cons_succ])
              refine take_at 9 24 (.slice (some ⟨b, off, none⟩) n cap) rfl rfl (by kernel_rfl) (by kernel_rfl) (by kernel_rfl) (fun _ _ _ h => h) (Or.inl ⟨by kernel_rfl, fun w' hS' => by have hc := RowAt.cell hS'.1 0; go_simp⟩) hHeld ?_
              (try simp only [Act.put, List.setIfInBounds_toArray, List.set_cons_zero, List.set_cons_succ])
              refine take_at 10 25 (.int .i64 i) rfl rfl (by kernel_rfl) (by kernel_rfl) (by kernel_rfl) (fun _ _ _ h => h) (Or.inl ⟨by kernel_rfl, fun w' hS' => by go_simp⟩) hHeld ?_
              (try simp only [Act.put, List.setIfInBounds_toArray, List.set_cons_zero, List.set_cons_succ])
              refine take_at 11 26 (.pointer (some ⟨b, off + i * 6, none⟩)) rfl rfl (by kernel_rfl) (by kernel_rfl) (by kernel_rfl) (fun _ _ _ h => h) (Or.inl ⟨by kernel_rfl, fun w' hS' => by go_simp⟩) hHeld ?_
              (try simp only [Act.put, List.setIfInBounds_toArray, List.set_cons_zero, List.set_cons_succ])
              refine take_at 12 27 (.pointer (some ⟨b, off + i * 6, none⟩)) rfl rfl (by kernel_rfl) (by kernel_rfl) (by kernel_rfl) (fun _ _ _ h => h) (Or.inl ⟨by kernel_rfl, fun w' hS' => by go_simp⟩) hHeld ?_
              (try simp only [Act.put, List.setIfInBounds_toArray, List.set_cons_zero, List.set_cons_succ])
              refine take_at 13 28 (.int .i64 2) rfl rfl (by kernel_rfl) (by kernel_rfl) (by kernel_rfl) (fun _ _ _ h => h) (Or.inl ⟨by kernel_rfl, fun w' hS' => by have hc := hS'.2.1; go_simp⟩) hHeld ?_
              (try simp only [Act.put, List.setIfInBounds_toArray, List.set_cons_zero, List.set_cons_succ])
              refine take_at 14 29 (.bool true) rfl rfl (by kernel_rfl) (by kernel_rfl) (by kernel_rfl) (fun _ _ _ h => h) (Or.inl ⟨by kernel_rfl, fun w' hS' => by go_simp⟩) hHeld ?_
              (try simp only [Act.put, List.setIfInBounds_toArray, List.set_cons_zero, List.set_cons_succ])
              refine take_at 15 30 (.bool true) rfl rfl (by kernel_rfl) (by kernel_rfl) (by kernel_rfl) (fun _ _ _ h => h) (Or.inl ⟨by kernel_rfl, fun w' hS' => by go_simp⟩) hHeld ?_
              (try simp only [Act.put, List.setIfInBounds_toArray, List.set_cons_zero, List.set_cons_succ])
              refine take_at 16 31 (.pointer (some ⟨w.heap.size, 0, none⟩)) rfl rfl (by kernel_rfl) (by kernel_rfl) (by kernel_rfl) (fun _ _ _ h => h) (Or.inl ⟨by kernel_rfl, fun w' hS' => by go_simp⟩) hHeld ?_
              (try simp only [Act.put, List.setIfInBounds_toArray, List.set_cons_zero, List.set_cons_succ])
              refine take_at 17 32 (.slice (some ⟨b, off, none⟩) n cap) rfl rfl (by kernel_rfl) (by kernel_rfl) (by kernel_rfl) (fun _ _ _ h => h) (Or.inl ⟨by kernel_rfl, fun w' hS' => by have hc := RowAt.cell hS'.1 0; go_simp⟩) hHeld ?_
              (try simp only [Act.put, List.setIfInBounds_toArray, List.set_cons_zero, List.set_cons_succ])
              refine take_at 18 33 (.int .i64 i) rfl rfl (by kernel_rfl) (by kernel_rfl) (by kernel_rfl) (fun _ _ _ h => h) (Or.inl ⟨by kernel_rfl, fun w' hS' => by go_simp⟩) hHeld ?_
              (try simp only [Act.put, List.setIfInBounds_toArray, List.set_cons_zero, List.set_cons_succ])
              refine take_at 19 34 (.pointer (some ⟨b, off + i * 6, none⟩)) rfl rfl (by kernel_rfl) (by kernel_rfl) (by kernel_rfl) (fun _ _ _ h => h) (Or.inl ⟨by kernel_rfl, fun w' hS' => by go_simp⟩) hHeld ?_
              (try simp only [Act.put, List.setIfInBounds_toArray, List.set_cons_zero, List.set_cons_succ])
              refine take_at 20 35 (.pointer (some ⟨b, off + i * 6 + 1, none⟩)) rfl rfl (by kernel_rfl) (by kernel_rfl) (by kernel_rfl) (fun _ _ _ h => h) (Or.inl ⟨by kernel_rfl, fun w' hS' => by go_simp⟩) hHeld ?_
              (try simp only [Act.put, List.setIfInBounds_toArray, List.set_cons_zero, List.set_cons_succ])
              refine take_at 21 36 (.int .i64 V) rfl rfl (by kernel_rfl) (by kernel_rfl) (by kernel_rfl) (fun _ _ _ h => h) (Or.inl ⟨by kernel_rfl, fun w' hS' => by have hc := hS'.2.2.1; go_simp⟩) hHeld ?_
              (try simp only [Act.put, List.setIfInBounds_toArray, List.set_cons_zero, List.set_cons_succ])
              refine take_at 22 37 (.agg #[.slice (some ⟨b, off, none⟩) n cap]) rfl rfl (by kernel_rfl) (by kernel_rfl) (by kernel_rfl) (fun _ _ _ h => h) (yieldsIf_load_row (by kernel_rfl) 29 (.tmp 1) rfl w.heap.size rfl 29 #[.slice (some ⟨b, off, none⟩) n cap] (0, 0) _ (fun w' h => h.1) Try.underlying29 rfl doc_info) hHeld ?_
              (try simp only [Act.put, List.setIfInBounds_toArray, List.set_cons_zero, List.set_cons_succ])
              refine take_at 23 38 (.int .i64 i) rfl rfl (by kernel_rfl) (by kernel_rfl) (by kernel_rfl) (fun _ _ _ h => h) (Or.inl ⟨by kernel_rfl, fun w' hS' => by go_simp⟩) hHeld ?_
              (try simp only [Act.put, List.setIfInBounds_toArray, List.set_cons_zero, List.set_cons_succ])
              refine wpAnyH_ready (rs := [24]) (by kernel_rfl) (by simp) ?_
              refine AllReadyH.cons rfl (fun K0 hK => ?_) AllReadyH.nil
              go_simp
              go_at_call 31
              refine (l3Ahead_is HAH.out HD.out hil).mono ?_
              rintro e u2 ⟨rfl, hb1⟩
              replace HB : Hid (Below w.heap.size w u2) := HB.out.trans (hb1.mono HB.out.size)
              have HH : Hid (RowAt u2 w.heap.size #[.slice (some ⟨b, off, none⟩) n cap] 29 ∧ BlockIs u2 b (off + i * 6) (2, V, t, R, C, l) ta tn tc ca cn cc) := ⟨hHeld.1.below hb1 hHeld.1.lt, hHeld.2.below hb1 (by have := hb1.size; omega)⟩
              replace HD : Hid (Dc u2 (some ⟨b, off, none⟩) n cap d) := HD.out.below hb1
              replace hbl : b < u2.heap.size := by have := hb1.size; omega
              clear hb1 hHeld
              go_wp2_with fail
              refine hK.out _ _ HH.out (fun hHeld => ?_)
              clear hK K0 HH
              (try simp only [Act.put, List.setIfInBounds_toArray, List.set_cons_zero, List.set_cons_succ])
              refine take_at 25 40 (.int .i64 (ah + 1)) rfl rfl (by kernel_rfl) (by kernel_rfl) (by kernel_rfl) (fun _ _ _ h => h) (Or.inl ⟨by kernel_rfl, fun w' hS' => by go_simp; rw [IntKind.wrap_i64]; omega⟩) hHeld ?_
              (try simp only [Act.put, List.setIfInBounds_toArray, List.set_cons_zero, List.set_cons_succ])
              refine take_at 26 41 (.bool false) rfl rfl (by kernel_rfl) (by kernel_rfl) (by kernel_rfl) (fun _ _ _ h => h) (Or.inl ⟨by kernel_rfl, fun w' hS' => by go_simp <;> omega⟩) hHeld ?_
              (try simp only [Act.put, List.setIfInBounds_toArray, List.set_cons_zero, List.set_cons_succ])
              refine take_at 27 42 (.bool false) rfl rfl (by kernel_rfl) (by kernel_rfl) (by kernel_rfl) (fun _ _ _ h => h) (Or.inl ⟨by kernel_rfl, fun w' hS' => by go_simp⟩) hHeld ?_
              (try simp only [Act.put, List.setIfInBounds_toArray, List.set_cons_zero, List.set_cons_succ])
              refine take_at 28 43 (.bool false) rfl rfl (by kernel_rfl) (by kernel_rfl) (by kernel_rfl) (fun _ _ _ h => h) (Or.inl ⟨by kernel_rfl, fun w' hS' => by go_simp⟩) hHeld ?_
              (try simp only [Act.put, List.setIfInBounds_toArray, List.set_cons_zero, List.set_cons_succ])
              refine wpAnyH_done (by kernel_rfl) ?_ _
              refine NoPanic.normal ?_
              have HRR := hHeld.1
              clear hHeld
              go_wp2_with fail
              go_roundw
              case rel => exact ⟨i + 1, by omega, by go_num, by rw [List.range_succ, List.all_append, HAll.out]; simp [HDK.out], HB.out, HRR⟩
              case measure => simp [intOf]; omega
          · have HDK : Hid (docK d i = true) := by show docK d i = true; rw [HDE.out]; simp [hk2]
            refine wp_region_noPanic ?_
            refine wp_region_held_drew (S := fun w' => RowAt w' w.heap.size #[.slice (some ⟨b, off, none⟩) n cap] 29 ∧ BlockIs w' b (off + i * 6) (K, V, t, R, C, l) ta tn tc ca cn cc) (by kernel_rfl) ⟨HR.out, HI.out.below ((Below.refl _ _).drew) hbl⟩ (fun hHeld => ?_)
            refine take_at 0 15 (.pointer (some ⟨w.heap.size, 0, none⟩)) rfl rfl (by kernel_rfl) (by kernel_rfl) (by kernel_rfl) (fun _ _ _ h => h) (Or.inl ⟨by kernel_rfl, fun w' hS' => by go_simp⟩) hHeld ?_
            (try simp only [Act.put, List.setIfInBounds_toArray, List.set_cons_zero, List.set_cons_succ])
            refine take_at 1 16 (.slice (some ⟨b, off, none⟩) n cap) rfl rfl (by kernel_rfl) (by kernel_rfl) (by kernel_rfl) (fun _ _ _ h => h) (Or.inl ⟨by kernel_rfl, fun w' hS' => by have hc := RowAt.cell hS'.1 0; go_simp⟩) hHeld ?_
            (try simp only [Act.put, List.setIfInBounds_toArray, List.set_cons_zero, List.set_cons_succ])
            refine take_at 2 17 (.int .i64 i) rfl rfl (by kernel_rfl) (by kernel_rfl) (by kernel_rfl) (fun _ _ _ h => h) (Or.inl ⟨by kernel_rfl, fun w' hS' => by go_simp⟩) hHeld ?_
            (try simp only [Act.put, List.setIfInBounds_toArray, List.set_cons_zero, List.set_cons_succ])
            refine take_at 3 18 (.pointer (some ⟨b, off + i * 6, none⟩)) rfl rfl (by kernel_rfl) (by kernel_rfl) (by kernel_rfl) (fun _ _ _ h => h) (Or.inl ⟨by kernel_rfl, fun w' hS' => by go_simp⟩) hHeld ?_
            (try simp only [Act.put, List.setIfInBounds_toArray, List.set_cons_zero, List.set_cons_succ])
            refine take_at 4 19 (.agg #[.int .i64 K, .int .i64 V, .slice ta tn tc, .int .i64 R, .int .i64 C, .slice ca cn cc]) rfl rfl (by kernel_rfl) (by kernel_rfl) (by kernel_rfl) (fun _ _ _ h => h) (Or.inl ⟨by kernel_rfl, fun w' hS' => by obtain ⟨e0, e1, e2, e3, e4, e5, -, -⟩ := hS'.2; go_simp⟩) hHeld ?_
            (try simp only [Act.put, List.setIfInBounds_toArray, List.set_cons_zero, List.set_cons_succ])
            replace HB : Hid (Below w.heap.size w wr.drew) := HB.out.drew
            replace HD : Hid (Dc wr.drew (some ⟨b, off, none⟩) n cap d) := HD.out.below ((Below.refl _ _).drew)
            replace hbl : b < wr.drew.heap.size := hbl
            clear HR HI
            generalize wr.drew = u0 at HB HD hbl hHeld ⊢
            refine wpAnyH_ready (rs := [5]) (by kernel_rfl) (by simp) ?_
            refine AllReadyH.cons rfl (fun K0 hK => ?_) AllReadyH.nil
            go_simp
            go_at_call 30
            refine (l3Block_is HBL.out hHeld.2.2.2.2.2.2.2.1 hHeld.2.2.2.2.2.2.2.2).mono ?_
            rintro e u1 ⟨rfl, hb1⟩
            replace HB : Hid (Below w.heap.size w u1) := HB.out.trans (hb1.mono HB.out.size)
            have HH : Hid (RowAt u1 w.heap.size #[.slice (some ⟨b, off, none⟩) n cap] 29 ∧ BlockIs u1 b (off + i * 6) (K, V, t, R, C, l) ta tn tc ca cn cc) := ⟨hHeld.1.below hb1 hHeld.1.lt, hHeld.2.below hb1 (by have := hb1.size; omega)⟩
            replace HD : Hid (Dc u1 (some ⟨b, off, none⟩) n cap d) := HD.out.below hb1
            replace hbl : b < u1.heap.size := by have := hb1.size; omega
            clear hb1 hHeld
            go_wp2_with fail
            refine hK.out _ _ HH.out (fun hHeld => ?_)
            clear hK K0 HH
            (try simp only [Act.put, List.setIfInBounds_toArray, List.set_cons_zero, List.set_cons_succ])
            refine take_at 6 21 (.bool false) rfl rfl (by kernel_rfl) (by kernel_rfl) (by kernel_rfl) (fun _ _ _ h => h) (Or.inl ⟨by kernel_rfl, fun w' hS' => by go_simp⟩) hHeld ?_
            (try simp only [Act.put, List.setIfInBounds_toArray, List.set_cons_zero, List.set_cons_succ])
            refine take_at 7 22 (.bool false) rfl rfl (by kernel_rfl) (by kernel_rfl) (by kernel_rfl) (fun _ _ _ h => h) (Or.inl ⟨by kernel_rfl, fun w' hS' => by go_simp⟩) hHeld ?_
            (try simp only [Act.put, List.setIfInBounds_toArray, List.set_cons_zero, List.set_cons_succ])
            refine take_at 8 23 (.pointer (some ⟨w.heap.size, 0, none⟩)) rfl rfl (by kernel_rfl) (by kernel_rfl) (by kernel_rfl) (fun _ _ _ h => h) (Or.inl ⟨by kernel_rfl, fun w' hS' => by go_simp⟩) hHeld ?_
            (try simp only [Act.put, List.setIfInBounds_toArray, List.set_cons_zero, List.set_cons_succ])
            refine take_at 9 24 (.slice (some ⟨b, off, none⟩) n cap) rfl rfl (by kernel_rfl) (by kernel_rfl) (by kernel_rfl) (fun _ _ _ h => h) (Or.inl ⟨by kernel_rfl, fun w' hS' => by have hc := RowAt.cell hS'.1 0; go_simp⟩) hHeld ?_
            (try simp only [Act.put, List.setIfInBounds_toArray, List.set_cons_zero, List.set_cons_succ])
            refine take_at 10 25 (.int .i64 i) rfl rfl (by kernel_rfl) (by kernel_rfl) (by kernel_rfl) (fun _ _ _ h => h) (Or.inl ⟨by kernel_rfl, fun w' hS' => by go_simp⟩) hHeld ?_
            (try simp only [Act.put, List.setIfInBounds_toArray, List.set_cons_zero, List.set_cons_succ])
            refine take_at 11 26 (.pointer (some ⟨b, off + i * 6, none⟩)) rfl rfl (by kernel_rfl) (by kernel_rfl) (by kernel_rfl) (fun _ _ _ h => h) (Or.inl ⟨by kernel_rfl, fun w' hS' => by go_simp⟩) hHeld ?_
            (try simp only [Act.put, List.setIfInBounds_toArray, List.set_cons_zero, List.set_cons_succ])
            refine take_at 12 27 (.pointer (some ⟨b, off + i * 6, none⟩)) rfl rfl (by kernel_rfl) (by kernel_rfl) (by kernel_rfl) (fun _ _ _ h => h) (Or.inl ⟨by kernel_rfl, fun w' hS' => by go_simp⟩) hHeld ?_
            (try simp only [Act.put, List.setIfInBounds_toArray, List.set_cons_zero, List.set_cons_succ])
            refine take_at 13 28 (.int .i64 K) rfl rfl (by kernel_rfl) (by kernel_rfl) (by kernel_rfl) (fun _ _ _ h => h) (Or.inl ⟨by kernel_rfl, fun w' hS' => by have hc := hS'.2.1; go_simp⟩) hHeld ?_
            (try simp only [Act.put, List.setIfInBounds_toArray, List.set_cons_zero, List.set_cons_succ])
            refine take_at 14 29 (.bool false) rfl rfl (by kernel_rfl) (by kernel_rfl) (by kernel_rfl) (fun _ _ _ h => h) (Or.inl ⟨by kernel_rfl, fun w' hS' => by go_simp <;> omega⟩) hHeld ?_
            (try simp only [Act.put, List.setIfInBounds_toArray, List.set_cons_zero, List.set_cons_succ])
            refine take_at 15 30 (.bool false) rfl rfl (by kernel_rfl) (by kernel_rfl) (by kernel_rfl) (fun _ _ _ h => h) (Or.inl ⟨by kernel_rfl, fun w' hS' => by go_simp⟩) hHeld ?_
            (try simp only [Act.put, List.setIfInBounds_toArray, List.set_cons_zero, List.set_cons_succ])
            refine take_at 16 31 (undef) rfl rfl (by kernel_rfl) (by kernel_rfl) (by kernel_rfl) (fun _ _ _ h => h) (Or.inr ⟨by kernel_rfl, rfl⟩) hHeld ?_
            (try simp only [Act.put, List.setIfInBounds_toArray, List.set_cons_zero, List.set_cons_succ])
            refine take_at 17 32 (undef) rfl rfl (by kernel_rfl) (by kernel_rfl) (by kernel_rfl) (fun _ _ _ h => h) (Or.inr ⟨by kernel_rfl, rfl⟩) hHeld ?_
            (try simp only [Act.put, List.setIfInBounds_toArray, List.set_cons_zero, List.set_cons_succ])
            refine take_at 18 33 (undef) rfl rfl (by kernel_rfl) (by kernel_rfl) (by kernel_rfl) (fun _ _ _ h => h) (Or.inr ⟨by kernel_rfl, rfl⟩) hHeld ?_
            (try simp only [Act.put, List.setIfInBounds_toArray, List.set_cons_zero, List.set_cons_succ])
            refine take_at 19 34 (undef) rfl rfl (by kernel_rfl) (by kernel_rfl) (by kernel_rfl) (fun _ _ _ h => h) (Or.inr ⟨by kernel_rfl, rfl⟩) hHeld ?_
            (try simp only [Act.put, List.setIfInBounds_toArray, List.set_cons_zero, List.set_cons_succ])
            refine take_at 20 35 (undef) rfl rfl (by kernel_rfl) (by kernel_rfl) (by kernel_rfl) (fun _ _ _ h => h) (Or.inr ⟨by kernel_rfl, rfl⟩) hHeld ?_
            (try simp only [Act.put, List.setIfInBounds_toArray, List.set_cons_zero, List.set_cons_succ])
            refine take_at 21 36 (undef) rfl rfl (by kernel_rfl) (by kernel_rfl) (by kernel_rfl) (fun _ _ _ h => h) (Or.inr ⟨by kernel_rfl, rfl⟩) hHeld ?_
            (try simp only [Act.put, List.setIfInBounds_toArray, List.set_cons_zero, List.set_cons_succ])
            refine take_at 22 37 (undef) rfl rfl (by kernel_rfl) (by kernel_rfl) (by kernel_rfl) (fun _ _ _ h => h) (Or.inr ⟨by kernel_rfl, rfl⟩) hHeld ?_
            (try simp only [Act.put, List.setIfInBounds_toArray, List.set_cons_zero, List.set_cons_succ])
            refine take_at 23 38 (undef) rfl rfl (by kernel_rfl) (by kernel_rfl) (by kernel_rfl) (fun _ _ _ h => h) (Or.inr ⟨by kernel_rfl, rfl⟩) hHeld ?_
            (try simp only [Act.put, List.setIfInBounds_toArray, List.set_cons_zero, List.set_cons_succ])
            refine take_at 24 39 (undef) rfl rfl (by kernel_rfl) (by kernel_rfl) (by kernel_rfl) (fun _ _ _ h => h) (Or.inr ⟨by kernel_rfl, rfl⟩) hHeld ?_
            (try simp only [Act.put, List.setIfInBounds_toArray, List.set_cons_zero, List.set_cons_succ])
            refine take_at 25 40 (undef) rfl rfl (by kernel_rfl) (by kernel_rfl) (by kernel_rfl) (fun _ _ _ h => h) (Or.inr ⟨by kernel_rfl, rfl⟩) hHeld ?_
            (try simp only [Act.put, List.setIfInBounds_toArray, List.set_cons_zero, List.set_cons_succ])
            refine take_at 26 41 (undef) rfl rfl (by kernel_rfl) (by kernel_rfl) (by kernel_rfl) (fun _ _ _ h => h) (Or.inr ⟨by kernel_rfl, rfl⟩) hHeld ?_
            (try simp only [Act.put, List.setIfInBounds_toArray, List.set_cons_zero, List.set_cons_succ])
            refine take_at 27 42 (.bool false) rfl rfl (by kernel_rfl) (by kernel_rfl) (by kernel_rfl) (fun _ _ _ h => h) (Or.inl ⟨by kernel_rfl, fun w' hS' => by go_simp⟩) hHeld ?_
            (try simp only [Act.put, List.setIfInBounds_toArray, List.set_cons_zero, List.set_cons_succ])
            refine take_at 28 43 (.bool false) rfl rfl (by kernel_rfl) (by kernel_rfl) (by kernel_rfl) (fun _ _ _ h => h) (Or.inl ⟨by kernel_rfl, fun w' hS' => by go_simp⟩) hHeld ?_
            (try simp only [Act.put, List.setIfInBounds_toArray, List.set_cons_zero, List.set_cons_succ])
            refine wpAnyH_done (by kernel_rfl) ?_ _
            refine NoPanic.normal ?_
            have HRR := hHeld.1
            clear hHeld
            go_wp2_with fail
            go_roundw
            case rel => exact ⟨i + 1, by omega, by go_num, by rw [List.range_succ, List.all_append, HAll.out]; simp [HDK.out], HB.out, HRR⟩
            case measure => simp [intOf]; omega
      · have hib : ¬ (i : Int) < (n : Int) := by omega
        obtain rfl : i = n := by omega
        go_wp2_with fail
        go_ret
        refine ⟨?_, HB.out⟩
        have hd : d.length ≤ 8 := by have := HN.out; omega
        rw [← HX.out]
        unfold docB
        rw [decide_eq_true hd, Bool.true_and, ← HN.out, HAll.out]
        rfl
end Go.Proofs.Ythjipnocemioaaa
