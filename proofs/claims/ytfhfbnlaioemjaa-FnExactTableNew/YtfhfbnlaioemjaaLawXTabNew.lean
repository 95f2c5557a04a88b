import Derived.Test.YtfhfbnlaioemjaaHeldT
import Derived.Test.YtfhfbnlaioemjaaNewI
namespace Go.Proofs.Ytfhfbnlaioemjaa
open Go.RowKit

/-- What a call of TableNew gives. -/
def NewRes (R C : Int) (B : Nat) (x y : Int) (a : Option Addr) (n c : Nat) (l : List Cl) (w' : World) : Prop := (∃ rs, OwnT w' B (.slice a n c) rs l) ∧ x = (if newOk R C then R else 0) ∧ y = (if newOk R C then C else 0) ∧ l = (if newOk R C then newL R.toNat C.toNat else [])
theorem newRes_of {R C : Int} {w w' : World} {z : Ending} (h : ((newOk R C = false ∧ z = .returned (.agg #[.int .i64 0, .int .i64 0, .slice none 0 0])) ∨ (newOk R C = true ∧ ∃ a n c rs, z = .returned (.agg #[.int .i64 R, .int .i64 C, .slice a n c]) ∧ OwnT w' w.heap.size (.slice a n c) rs (newL R.toNat C.toNat))) ∧ Below w.heap.size w w') :
    (∃ x y a n c l, z = .returned (.agg #[.int .i64 x, .int .i64 y, .slice a n c]) ∧ NewRes R C w.heap.size x y a n c l w') ∧ Below w.heap.size w w' := by
  obtain ⟨h1 | h1, hb⟩ := h
  · obtain ⟨h2, rfl⟩ := h1
    refine ⟨⟨0, 0, none, 0, 0, [], rfl, ⟨[], OwnR.nil _ _, TxtOwn.nil _ _ _⟩, ?_, ?_, ?_⟩, hb⟩ <;> simp [h2]
  · obtain ⟨h2, a, n, c, rs, rfl, ho⟩ := h1
    refine ⟨⟨R, C, a, n, c, _, rfl, ⟨rs, ho⟩, ?_, ?_, ?_⟩, hb⟩ <;> simp [h2]
theorem totT_new (R C : Nat) : totT (newL R C) = 0 := by
  have : ∀ x ∈ newL R C, x.2.2.2.2.length = 0 := by
    intro x hx
    unfold newL at hx
    rw [newC_map] at hx
    obtain ⟨y, _, rfl⟩ := List.mem_map.1 hx
    rfl
  generalize newL R C = l at this
  unfold totT
  induction l with
  | nil => rfl
  | cons x l ih =>
    simp only [List.map_cons, List.sum_cons]
    rw [this x (by simp), ih (fun y hy => this y (by simp [hy]))]
theorem newRes_small {R C : Int} {B : Nat} {x y : Int} {a : Option Addr} {n c : Nat} {l : List Cl} {w : World} (h : NewRes R C B x y a n c l w) : l.length ≤ 25 ∧ totT l = 0 := by
  obtain ⟨_, _, _, rfl⟩ := h
  cases hN : newOk R C
  · simp [totT]
  · simp only [newOk, Bool.and_eq_true, decide_eq_true_eq] at hN
    simp only [if_true]
    rw [newL_len]
    exact ⟨Nat.mul_le_mul (show R.toNat ≤ 5 by omega) (show C.toNat ≤ 5 by omega), totT_new _ _⟩

set_option maxRecDepth 100000 in
set_option maxHeartbeats 8000000 in
theorem lawXTabNew_walk (R C : Int) (w : World) (_ : (Lit.int .i64 R).wf = true) (_ : (Lit.int .i64 C).wf = true) :
    Calls Try.prog 4 #[.int .i64 R, .int .i64 C] w fun e w' => e = .returned (.bool true) ∧ Below w.heap.size w w' := by
  go_enter Try.func4, Try.ntmps4
  go_wp2_with fail
  refine (specTableNew_any R C _).mono ?_
  intro e w1 hr
  obtain ⟨⟨x1, y1, a1, n1, c1, l1, rfl, hR1⟩, hb1⟩ := newRes_of hr
  clear hr
  have s1 := hb1.size
  go_upto_region 2 with fail
  have W1 : RowAt (w1.alloc (.cells #[.int .i64 x1, .int .i64 y1, .slice a1 n1 c1] 29)) w1.heap.size #[.int .i64 x1, .int .i64 y1, .slice a1 n1 c1] 29 := rowAt_new _ _ _
  have T1 : Tab (w1.alloc (.cells #[.int .i64 x1, .int .i64 y1, .slice a1 n1 c1] 29)) a1 n1 c1 l1 := by
    obtain ⟨rs, ho⟩ := hR1.1
    exact ho.tab.below ((Below.refl _ _).alloc (Nat.le_refl _) _)
  have B1 : Below w.heap.size w (w1.alloc (.cells #[.int .i64 x1, .int .i64 y1, .slice a1 n1 c1] 29)) := hb1.alloc s1 _
  generalize (w1.alloc (.cells #[.int .i64 x1, .int .i64 y1, .slice a1 n1 c1] 29)) = v1 at W1 T1 B1 ⊢
  have z1 := W1.lt
  go_wp2_with fail
  refine (implTableNew_any R C _).mono ?_
  intro e w2 hr
  obtain ⟨⟨x2, y2, a2, n2, c2, l2, rfl, hR2⟩, hb2⟩ := newRes_of hr
  clear hr
  obtain rfl : x2 = x1 := hR2.2.1.trans hR1.2.1.symm
  obtain rfl : y2 = y1 := hR2.2.2.1.trans hR1.2.2.1.symm
  obtain rfl : l2 = l1 := hR2.2.2.2.trans hR1.2.2.2.symm
  obtain ⟨hl25, ht0⟩ := newRes_small hR2
  obtain ⟨rs2, ho2⟩ := hR2.1
  have hx2 := hR2.2.1
  have hy2 := hR2.2.2.1
  have hl2 := hR2.2.2.2
  have HX : Hid (x2 = (if newOk R C then R else 0) ∧ y2 = (if newOk R C then C else 0) ∧ l2 = (if newOk R C then newL R.toNat C.toNat else [])) := ⟨hx2, hy2, hl2⟩
  clear hR1 hR2 hx2 hy2 hl2 hb1
  have s2 := hb2.size
  go_upto_region 3 with fail
  have W2 : RowAt (w2.alloc (.cells #[.int .i64 x2, .int .i64 y2, .slice a2 n2 c2] 29)) w2.heap.size #[.int .i64 x2, .int .i64 y2, .slice a2 n2 c2] 29 := rowAt_new _ _ _
  have V1 : RowAt (w2.alloc (.cells #[.int .i64 x2, .int .i64 y2, .slice a2 n2 c2] 29)) w1.heap.size #[.int .i64 x2, .int .i64 y2, .slice a1 n1 c1] 29 := (W1.below hb2 z1).alloc _
  have O2 : OwnT (w2.alloc (.cells #[.int .i64 x2, .int .i64 y2, .slice a2 n2 c2] 29)) v1.heap.size (.slice a2 n2 c2) rs2 l2 := ho2.below ((Below.refl _ _).alloc (Nat.le_refl _) _)
  have B2 : Below v1.heap.size v1 (w2.alloc (.cells #[.int .i64 x2, .int .i64 y2, .slice a2 n2 c2] 29)) := hb2.alloc s2 _
  generalize (w2.alloc (.cells #[.int .i64 x2, .int .i64 y2, .slice a2 n2 c2] 29)) = v2 at W2 V1 O2 B2 ⊢
  have z2 := W2.lt
  have s3 := B2.size
  have HT1 : Hid (Tab v1 a1 n1 c1 l2) := T1
  have HW2 : Hid (RowAt v2 w2.heap.size #[.int .i64 x2, .int .i64 y2, .slice a2 n2 c2] 29) := W2
  have HV1 : Hid (RowAt v2 w1.heap.size #[.int .i64 x2, .int .i64 y2, .slice a1 n1 c1] 29) := V1
  have HO2 : Hid (OwnT v2 v1.heap.size (.slice a2 n2 c2) rs2 l2) := O2
  have HB1 : Hid (Below w.heap.size w v1) := B1
  have HB2 : Hid (Below v1.heap.size v1 v2) := B2
  clear W1 T1 hb2 ho2 W2 V1 O2 B1 B2
  have p0 : v2.cell? ⟨w2.heap.size, 0, none⟩ = some (.int .i64 x2) := HW2.out.cell 0
  have p1 : v2.cell? ⟨w2.heap.size, 1, none⟩ = some (.int .i64 y2) := HW2.out.cell 1
  have p2 : v2.cell? ⟨w2.heap.size, 2, none⟩ = some (.slice a2 n2 c2) := HW2.out.cell 2
  have q0 : v2.cell? ⟨w1.heap.size, 0, none⟩ = some (.int .i64 x2) := HV1.out.cell 0
  have q1 : v2.cell? ⟨w1.heap.size, 1, none⟩ = some (.int .i64 y2) := HV1.out.cell 1
  have q2 : v2.cell? ⟨w1.heap.size, 2, none⟩ = some (.slice a1 n1 c1) := HV1.out.cell 2
  go_wp2_with fail
  refine (eqTable_same x2 y2 _ _ _ l2 _ _ _ _ HO2.out.tab (HT1.out.below HB2.out)).mono ?_
  rintro e w3 ⟨rfl, hb3⟩
  have s4 := hb3.size
  clear p0 p1 p2 q0 q1 q2
  have HW3 : Hid (RowAt w3 w2.heap.size #[.int .i64 x2, .int .i64 y2, .slice a2 n2 c2] 29) := HW2.out.below hb3 z2
  have HV3 : Hid (RowAt w3 w1.heap.size #[.int .i64 x2, .int .i64 y2, .slice a1 n1 c1] 29) := HV1.out.below hb3 (by omega)
  have HO3 : Hid (OwnT w3 v1.heap.size (.slice a2 n2 c2) rs2 l2) := HO2.out.below hb3
  have HB3 : Hid (Below v1.heap.size v1 w3) := HB2.out.trans (hb3.mono s3)
  clear hb3
  have p0 : w3.cell? ⟨w2.heap.size, 0, none⟩ = some (.int .i64 x2) := HW3.out.cell 0
  have p1 : w3.cell? ⟨w2.heap.size, 1, none⟩ = some (.int .i64 y2) := HW3.out.cell 1
  have p2 : w3.cell? ⟨w2.heap.size, 2, none⟩ = some (.slice a2 n2 c2) := HW3.out.cell 2
  go_wp2_with fail
  refine (markTable_any x2 y2 a2 n2 c2 rs2 l2 1 v1.heap.size _ HO3.out (by omega) (by omega) (by rw [ht0]; omega) (by omega)).mono ?_
  rintro e w4 ⟨rfl, ⟨rs4, ho4⟩, hb4, hs4⟩
  have s5 := hb4.size
  clear p0 p1 p2
  have HW4 : Hid (RowAt w4 w2.heap.size #[.int .i64 x2, .int .i64 y2, .slice a2 n2 c2] 29) := hs4 _ _ HW3.out
  have HV4 : Hid (RowAt w4 w1.heap.size #[.int .i64 x2, .int .i64 y2, .slice a1 n1 c1] 29) := hs4 _ _ HV3.out
  have HO4 : Hid (OwnT w4 v1.heap.size (.slice a2 n2 c2) rs4 (markL 1 l2)) := ho4
  have HB4 : Hid (Below v1.heap.size v1 w4) := HB3.out.trans hb4
  clear ho4 hb4 hs4
  obtain ⟨K, HK⟩ : ∃ K, Hid (kAt 1 l2 l2.length = K) := ⟨_, rfl⟩
  have kge : 0 ≤ K := by rw [← HK.out]; exact kAt_ge 1 l2 _ (by omega)
  rw [HK.out]
  have nk : ¬ K < 0 := by omega
  have ne : (K != K) = false := by simp
  have p0 : w4.cell? ⟨w2.heap.size, 0, none⟩ = some (.int .i64 x2) := HW4.out.cell 0
  have p1 : w4.cell? ⟨w2.heap.size, 1, none⟩ = some (.int .i64 y2) := HW4.out.cell 1
  have p2 : w4.cell? ⟨w2.heap.size, 2, none⟩ = some (.slice a2 n2 c2) := HW4.out.cell 2
  go_wp2_with fail
  refine (heldTable_any x2 y2 a2 n2 c2 l2 1 _ HO4.out.tab (by omega) (by rw [ht0]; omega) (by omega)).mono ?_
  rintro e w5 ⟨rfl, hb5⟩
  have s6 := hb5.size
  rw [HK.out]
  clear p0 p1 p2
  have HW5 : Hid (RowAt w5 w2.heap.size #[.int .i64 x2, .int .i64 y2, .slice a2 n2 c2] 29) := HW4.out.below hb5 (by omega)
  have HV5 : Hid (RowAt w5 w1.heap.size #[.int .i64 x2, .int .i64 y2, .slice a1 n1 c1] 29) := HV4.out.below hb5 (by omega)
  have HO5 : Hid (Tab w5 a2 n2 c2 (markL 1 l2)) := HO4.out.tab.below hb5
  have HB5 : Hid (Below v1.heap.size v1 w5) := HB4.out.trans (hb5.mono (by omega))
  clear hb5
  go_wp2_with fail
  refine (implTableNew_any R C _).mono ?_
  intro e w6 hr
  obtain ⟨⟨x3, y3, a3, n3, c3, l3, rfl, hR3⟩, hb6⟩ := newRes_of hr
  clear hr
  obtain rfl : x3 = x2 := hR3.2.1.trans HX.out.1.symm
  obtain rfl : y3 = y2 := hR3.2.2.1.trans HX.out.2.1.symm
  obtain rfl : l3 = l2 := hR3.2.2.2.trans HX.out.2.2.symm
  obtain ⟨rs3, ho3⟩ := hR3.1
  have s7 := hb6.size
  clear hR3
  go_upto_region 14 with fail
  have W6 : RowAt (w6.alloc (.cells #[.int .i64 x3, .int .i64 y3, .slice a3 n3 c3] 29)) w6.heap.size #[.int .i64 x3, .int .i64 y3, .slice a3 n3 c3] 29 := rowAt_new _ _ _
  have T6 : Tab (w6.alloc (.cells #[.int .i64 x3, .int .i64 y3, .slice a3 n3 c3] 29)) a3 n3 c3 l3 := ho3.tab.below ((Below.refl _ _).alloc (Nat.le_refl _) _)
  have B6 : Below w5.heap.size w5 (w6.alloc (.cells #[.int .i64 x3, .int .i64 y3, .slice a3 n3 c3] 29)) := hb6.alloc s7 _
  generalize (w6.alloc (.cells #[.int .i64 x3, .int .i64 y3, .slice a3 n3 c3] 29)) = v6 at W6 T6 B6 ⊢
  have z6 := W6.lt
  have s8 := B6.size
  have HW6 : Hid (RowAt v6 w6.heap.size #[.int .i64 x3, .int .i64 y3, .slice a3 n3 c3] 29) := W6
  have HT6 : Hid (Tab v6 a3 n3 c3 l3) := T6
  have HG6 : Hid (RowAt v6 w2.heap.size #[.int .i64 x3, .int .i64 y3, .slice a2 n2 c2] 29) := HW5.out.below B6 (by omega)
  have HV6 : Hid (RowAt v6 w1.heap.size #[.int .i64 x3, .int .i64 y3, .slice a1 n1 c1] 29) := HV5.out.below B6 (by omega)
  have HM6 : Hid (Tab v6 a2 n2 c2 (markL 1 l3)) := HO5.out.below B6
  have HB6 : Hid (Below v1.heap.size v1 v6) := HB5.out.trans (B6.mono (by omega))
  clear W6 T6 B6 ho3 hb6
  have p0 : v6.cell? ⟨w6.heap.size, 0, none⟩ = some (.int .i64 x3) := HW6.out.cell 0
  have p1 : v6.cell? ⟨w6.heap.size, 1, none⟩ = some (.int .i64 y3) := HW6.out.cell 1
  have p2 : v6.cell? ⟨w6.heap.size, 2, none⟩ = some (.slice a3 n3 c3) := HW6.out.cell 2
  have q0 : v6.cell? ⟨w1.heap.size, 0, none⟩ = some (.int .i64 x3) := HV6.out.cell 0
  have q1 : v6.cell? ⟨w1.heap.size, 1, none⟩ = some (.int .i64 y3) := HV6.out.cell 1
  have q2 : v6.cell? ⟨w1.heap.size, 2, none⟩ = some (.slice a1 n1 c1) := HV6.out.cell 2
  go_wp2_with fail
  refine (eqTable_same x3 y3 _ _ _ l3 _ _ _ _ HT6.out (HT1.out.below HB6.out)).mono ?_
  rintro e w7 ⟨rfl, hb7⟩
  have s9 := hb7.size
  clear p0 p1 p2 q0 q1 q2
  have HG7 : Hid (RowAt w7 w2.heap.size #[.int .i64 x3, .int .i64 y3, .slice a2 n2 c2] 29) := HG6.out.below hb7 (by omega)
  have HM7 : Hid (Tab w7 a2 n2 c2 (markL 1 l3)) := HM6.out.below hb7
  have p0 : w7.cell? ⟨w2.heap.size, 0, none⟩ = some (.int .i64 x3) := HG7.out.cell 0
  have p1 : w7.cell? ⟨w2.heap.size, 1, none⟩ = some (.int .i64 y3) := HG7.out.cell 1
  have p2 : w7.cell? ⟨w2.heap.size, 2, none⟩ = some (.slice a2 n2 c2) := HG7.out.cell 2
  go_wp2_with fail
  refine (heldTable_any x3 y3 a2 n2 c2 l3 1 _ HM7.out (by omega) (by rw [ht0]; omega) (by omega)).mono ?_
  rintro e w8 ⟨rfl, hb8⟩
  rw [HK.out]
  clear p0 p1 p2
  go_wp2_with fail
  go_ret
  exact ⟨rfl, (HB1.out.trans (HB6.out.mono HB1.out.size)).trans ((hb7.trans (hb8.mono s9)).mono (by have := HB1.out.size; omega))⟩
end Go.Proofs.Ytfhfbnlaioemjaa
