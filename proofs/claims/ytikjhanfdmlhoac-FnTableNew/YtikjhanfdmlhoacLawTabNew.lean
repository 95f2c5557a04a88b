import Derived.Test.YtikjhanfdmlhoacTurnNew
import Derived.Test.YtikjhanfdmlhoacLmT
import Derived.Test.YtikjhanfdmlhoacDrawNewT
namespace Go.Proofs.Ytikjhanfdmlhoac
open Go.RowKit

/-- What a call of TableNew gives. -/
def NewIs (R C : Int) (x y : Int) (l : List Cl) : Prop := x = (if newOk R C then R else 0) ∧ y = (if newOk R C then C else 0) ∧ l = (if newOk R C then newL R.toNat C.toNat else [])
theorem newIs_of {R C : Int} {w w' : World} {z : Ending} (h : ((newOk R C = false ∧ z = .returned (.agg #[.int .i64 0, .int .i64 0, .slice none 0 0])) ∨ (newOk R C = true ∧ ∃ a n c rs, z = .returned (.agg #[.int .i64 R, .int .i64 C, .slice a n c]) ∧ OwnT w' w.heap.size (.slice a n c) rs (newL R.toNat C.toNat))) ∧ Below w.heap.size w w') :
    (∃ x y a n c l, z = .returned (.agg #[.int .i64 x, .int .i64 y, .slice a n c]) ∧ NewIs R C x y l ∧ Tab w' a n c l) ∧ Below w.heap.size w w' := by
  obtain ⟨h1 | h1, hb⟩ := h
  · obtain ⟨h2, rfl⟩ := h1
    refine ⟨⟨0, 0, none, 0, 0, [], rfl, ⟨?_, ?_, ?_⟩, rfl, Nat.le_refl _, Nat.zero_le _, .inl rfl⟩, hb⟩ <;> simp [h2]
  · obtain ⟨h2, a, n, c, rs, rfl, ho⟩ := h1
    refine ⟨⟨R, C, a, n, c, _, rfl, ⟨?_, ?_, rfl⟩, ?_⟩, hb⟩
    · simp [h2]
    · simp [h2]
    · simpa [h2] using ho.tab

theorem wpList_fieldRows {w : World} {ops : Array Oper} {rest : List Oper} {o : Oper} {a : Act} {Q : Exit → Act → World → Prop} (hgd : o.guard = none) (x : Operand) (ho : o.op = .field 25 x 0) (R C : Int) (p : Option Addr) (n c : Nat) (hx : a.eval x = .agg #[.int .i64 R, .int .i64 C, .slice p n c])
    (h : wpList Try.prog ops Q rest (a.put o.dst (.int .i64 R)) w) : wpList Try.prog ops Q (o :: rest) a w := by
  refine wpList_plain hgd fun K hK => ?_
  have hr : (Instr.field 25 (.agg #[.int .i64 R, .int .i64 C, .slice p n c]) 0).run Try.prog w = .ok (.int .i64 R) w := by
    simp [Instr.field, run_underlying Try.underlying25 w, part, asAgg, isAgg, run_underlying Try.underlying3 w]
  unfold Oper.wp execOp
  simp only [ho, hx, hr, Sem.run_bind, Sem.run_pure, Result.andThen_ok]
  exact hK _ _ h

set_option maxRecDepth 100000 in
set_option maxHeartbeats 8000000 in
theorem lawTabNew_walk (a : Option Addr) (n cap : Nat) (zs : List Int) (w : World) (h : Byt w.heap.size w a n cap zs) :
    Calls Try.prog 4 #[.slice a n cap] w fun e w' => e = .returned (.bool true) ∧ Below w.heap.size w w' := by
  have HY : Hid (Byt w.heap.size w a n cap zs) := h
  have hc := h.2.1
  have hm := h.2.2.1
  unfold maxLen at hm
  clear h
  by_cases hn : 1048576 < n
  · have hd : decide ((1048576 : Int) < (n : Int)) = true := by simp; omega
    go_enter Try.func4, Try.ntmps4
    go_wp2_with fail
    go_ret
    exact ⟨rfl, Below.refl _ _⟩
  have hd : decide ((1048576 : Int) < (n : Int)) = false := by simp; omega
  go_enter Try.func4, Try.ntmps4
  go_wp2_with fail
  refine (drawTableNew_any w.heap.size a n cap zs _ HY.out (Nat.le_refl _)).mono ?_
  rintro e w1 ⟨⟨x, y, rfl, hx0, hx1, hy0, hy1⟩, hb1⟩
  have s1 := hb1.size
  obtain ⟨R, HR⟩ : ∃ R, Hid (x - 1 = R) := ⟨_, rfl⟩
  obtain ⟨C, HC⟩ : ∃ C, Hid (y - 1 = C) := ⟨_, rfl⟩
  rw [HR.out, HC.out]
  have r0 : -1 ≤ R := by rw [← HR.out]; omega
  have r1 : R ≤ 6 := by rw [← HR.out]; omega
  have c0 : -1 ≤ C := by rw [← HC.out]; omega
  have c1 : C ≤ 6 := by rw [← HC.out]; omega
  clear hx0 hx1 hy0 hy1
  go_wp2_with fail
  refine (implTableNew_any R C _).mono ?_
  intro e w2 hr
  obtain ⟨⟨X, Y, a2, n2, c2, l, rfl, hI, hT⟩, hb2⟩ := newIs_of hr
  clear hr
  have s2 := hb2.size
  go_upto_region 5 with fail
  have W2 : RowAt (w2.alloc (.cells #[.int .i64 X, .int .i64 Y, .slice a2 n2 c2] 25)) w2.heap.size #[.int .i64 X, .int .i64 Y, .slice a2 n2 c2] 25 := rowAt_new _ _ _
  have T2 : Tab (w2.alloc (.cells #[.int .i64 X, .int .i64 Y, .slice a2 n2 c2] 25)) a2 n2 c2 l := hT.below ((Below.refl _ _).alloc (Nat.le_refl _) _)
  have B2 : Below w.heap.size w (w2.alloc (.cells #[.int .i64 X, .int .i64 Y, .slice a2 n2 c2] 25)) := (hb1.trans (hb2.mono s1)).alloc (by omega) _
  generalize (w2.alloc (.cells #[.int .i64 X, .int .i64 Y, .slice a2 n2 c2] 25)) = v2 at W2 T2 B2 ⊢
  have z2 := W2.lt
  have sv := B2.size
  have HW2 : Hid (RowAt v2 w2.heap.size #[.int .i64 X, .int .i64 Y, .slice a2 n2 c2] 25) := W2
  have HT2 : Hid (Tab v2 a2 n2 c2 l) := T2
  have HB2 : Hid (Below w.heap.size w v2) := B2
  have HI : Hid (NewIs R C X Y l) := hI
  clear W2 T2 B2 hT hb2 hI hb1
  have p0 : v2.cell? ⟨w2.heap.size, 0, none⟩ = some (.int .i64 X) := HW2.out.cell 0
  have p1 : v2.cell? ⟨w2.heap.size, 1, none⟩ = some (.int .i64 Y) := HW2.out.cell 1
  have p2 : v2.cell? ⟨w2.heap.size, 2, none⟩ = some (.slice a2 n2 c2) := HW2.out.cell 2
  go_region_held3 (fun w' => w'.cell? ⟨w2.heap.size, 0, none⟩ = some (.int .i64 X) ∧ w'.cell? ⟨w2.heap.size, 1, none⟩ = some (.int .i64 Y) ∧ w'.cell? ⟨w2.heap.size, 2, none⟩ = some (.slice a2 n2 c2))
    (first
      | go_keep
      | (go_split_ands
         refine ⟨?_, ?_, ?_⟩
         · (rw [hb4.cell (p := ⟨w2.heap.size, 0, none⟩) (by have := hb3.size; simp at this; show w2.heap.size < _; omega)]; assumption)
         · (rw [hb4.cell (p := ⟨w2.heap.size, 1, none⟩) (by have := hb3.size; simp at this; show w2.heap.size < _; omega)]; assumption)
         · (rw [hb4.cell (p := ⟨w2.heap.size, 2, none⟩) (by have := hb3.size; simp at this; show w2.heap.size < _; omega)]; assumption))
      | (go_split_ands
         refine ⟨?_, ?_, ?_⟩
         · (rw [hb3.cell (p := ⟨w2.heap.size, 0, none⟩) (by simpa using z2)]; assumption)
         · (rw [hb3.cell (p := ⟨w2.heap.size, 1, none⟩) (by simpa using z2)]; assumption)
         · (rw [hb3.cell (p := ⟨w2.heap.size, 2, none⟩) (by simpa using z2)]; assumption)))
    ((first
      | (go_at_call 16; refine (specTableNew_any R C _).mono ?_; intro e w3 hr; obtain ⟨⟨X3, Y3, a3, n3, c3, l3, rfl, hI3, hT3⟩, hb3⟩ := newIs_of hr; clear hr; obtain rfl : X3 = X := hI3.1.trans HI.out.1.symm; obtain rfl : Y3 = Y := hI3.2.1.trans HI.out.2.1.symm; obtain rfl : l3 = l := hI3.2.2.trans HI.out.2.2.symm)
      | (go_at_call 15; refine (lmTable_same _ _ _ _ _ l3 _ _ _ _ ((HT2.out.below (Below.refl _ _).drew).below hb3) hT3).mono ?_; rintro e w4 ⟨rfl, hb4⟩)))
  have s3 := hb3.size
  simp only [World.size_drew] at s3
  have s4 := hb4.size
  have b24 : Below v2.heap.size v2 w4 := ((Below.refl _ _).drew.trans (hb3.mono (by simp only [World.size_drew]; omega))).trans (hb4.mono (by omega))
  have HW4 : Hid (RowAt w4 w2.heap.size #[.int .i64 X3, .int .i64 Y3, .slice a2 n2 c2] 25) := HW2.out.below b24 z2
  have HT4 : Hid (Tab w4 a2 n2 c2 l3) := HT2.out.below b24
  have HB4 : Hid (Below w.heap.size w w4) := HB2.out.trans (b24.mono sv)
  clear p0 p1 p2 b24 hb3 hb4 hT3 hI3 HW2 HT2 HB2
  go_wp2_with fail
  refine (specTableNew_any R C _).mono ?_
  intro e w5 hr
  obtain ⟨⟨X5, Y5, a5, n5, c5, l5, rfl, hI5, -⟩, hb5⟩ := newIs_of hr
  clear hr
  obtain rfl : X5 = X3 := hI5.1.trans HI.out.1.symm
  have s5 := hb5.size
  have HW5 : Hid (RowAt w5 w2.heap.size #[.int .i64 X5, .int .i64 Y3, .slice a2 n2 c2] 25) := HW4.out.below hb5 (by omega)
  have HT5 : Hid (Tab w5 a2 n2 c2 l3) := HT4.out.below hb5
  have HB5 : Hid (Below w.heap.size w w5) := HB4.out.trans (hb5.mono (by omega))
  clear hI5 hb5 HW4 HT4 HB4
  cases hN : newOk R C
  · obtain ⟨e1, e2, e3⟩ := HI.out
    rw [hN] at e1 e2 e3
    simp only [Bool.false_eq_true, if_false] at e1 e2 e3
    subst e1 e2 e3
    have hn0 : n2 = 0 := HT5.out.1
    subst hn0
    have p0 : w5.cell? ⟨w2.heap.size, 0, none⟩ = some (.int .i64 0) := HW5.out.cell 0
    have p1 : w5.cell? ⟨w2.heap.size, 1, none⟩ = some (.int .i64 0) := HW5.out.cell 1
    have p2 : w5.cell? ⟨w2.heap.size, 2, none⟩ = some (.slice a2 0 c2) := HW5.out.cell 2
    go_wp2_with (refine wpList_fieldRows rfl (.tmp 25) rfl _ _ _ _ _ rfl ?_)
    go_ret
    exact ⟨rfl, HB5.out⟩
  · obtain ⟨e1, e2, e3⟩ := HI.out
    rw [hN] at e1 e2 e3
    simp only [if_true] at e1 e2 e3
    subst e1 e2 e3
    have hRC : (1 ≤ X5 ∧ X5 ≤ 5) ∧ (1 ≤ Y3 ∧ Y3 ≤ 5) := by
      simpa only [newOk, Bool.and_eq_true, decide_eq_true_eq] using hN
    obtain ⟨R, rfl⟩ : ∃ R' : Nat, X5 = R' := ⟨X5.toNat, by omega⟩
    obtain ⟨C, rfl⟩ : ∃ C' : Nat, Y3 = C' := ⟨Y3.toNat, by omega⟩
    have hR : 1 ≤ R ∧ R ≤ 5 := by omega
    have hC : 1 ≤ C ∧ C ≤ 5 := by omega
    have HT6 : Hid (Tab w5 a2 n2 c2 (newL R C)) := by
      show Tab w5 a2 n2 c2 (newL R C)
      simpa using HT5.out
    have HOK : Hid (okB R C (newL R C) = true) := okB_new R C hR hC
    have hn2 : n2 = R * C := by
      have := HT6.out.1
      rw [newL_len] at this
      exact this
    have q25 : R * C ≤ 25 := Nat.mul_le_mul hR.2 hC.2
    have hnm : ((n2 : Int) == (R : Int) * (C : Int)) = true := by
      rw [hn2]
      simp
    have x0 : ((R : Int) == 0) = false := by simp; omega
    have HN2 : Hid (n2 = R * C) := hn2
    have nb : n2 ≤ 25 := by omega
    have m1 : (R : Int) * (C : Int) ≤ 25 := by
      have : ((R * C : Nat) : Int) ≤ 25 := by omega
      simpa using this
    have m0 : 0 ≤ (R : Int) * (C : Int) := Int.mul_nonneg (by omega) (by omega)
    have HNO : Hid (newOk (C : Int) (R : Int) = true) := by
      show newOk (C : Int) (R : Int) = true
      simp only [newOk, Bool.and_eq_true, decide_eq_true_eq]
      omega
    clear hN HI HT5 hn2 hRC q25
    have p0 : w5.cell? ⟨w2.heap.size, 0, none⟩ = some (.int .i64 R) := HW5.out.cell 0
    have p1 : w5.cell? ⟨w2.heap.size, 1, none⟩ = some (.int .i64 C) := HW5.out.cell 1
    have p2 : w5.cell? ⟨w2.heap.size, 2, none⟩ = some (.slice a2 n2 c2) := HW5.out.cell 2
    go_wp2_with (first | (refine wpList_fieldRows rfl (.tmp 25) rfl _ _ _ _ _ rfl ?_) | (go_at_call 10; refine (implTableOk_is HOK.out HT6.out).mono ?_; rintro e w6 ⟨rfl, hb6⟩; have s6 := hb6.size; have HW6 : Hid (RowAt w6 w2.heap.size #[.int .i64 R, .int .i64 C, .slice a2 n2 c2] 25) := HW5.out.below hb6 (by omega); have q0 : w6.cell? ⟨w2.heap.size, 0, none⟩ = some (.int .i64 R) := HW6.out.cell 0; have q1 : w6.cell? ⟨w2.heap.size, 1, none⟩ = some (.int .i64 C) := HW6.out.cell 1; have q2 : w6.cell? ⟨w2.heap.size, 2, none⟩ = some (.slice a2 n2 c2) := HW6.out.cell 2) | (go_at_call 17; refine (implTurnNew_any R C a2 n2 c2 _ hR hC (HT6.out.below hb6)).mono ?_; rintro e w7 ⟨⟨a7, n7, c7, r7, rfl, ho7⟩, hb7⟩))
    have s7 := hb7.size
    refine (implTableNew_any (C : Int) (R : Int) _).mono ?_
    intro e w8 hr
    obtain ⟨⟨X8, Y8, a8, n8, c8, l8, rfl, hI8, hT8⟩, hb8⟩ := newIs_of hr
    clear hr
    obtain ⟨e1, e2, e3⟩ := hI8
    rw [HNO.out] at e1 e2 e3
    simp only [if_true, Int.toNat_natCast] at e1 e2 e3
    subst e1 e2 e3
    have s8 := hb8.size
    have HT8 : Hid (Tab w8 a8 n8 c8 (newL C R)) := hT8
    have HT7 : Hid (Tab w8 a7 n7 c7 (newL C R)) := ho7.tab.below hb8
    clear hT8 ho7
    go_wp2_with fail
    refine (lmTable_same _ _ _ _ _ (newL C R) _ _ _ _ HT7.out HT8.out).mono ?_
    rintro e w9 ⟨rfl, hb9⟩
    go_wp2_with fail
    go_ret
    exact ⟨rfl, (((HB5.out.trans (hb6.mono (by omega))).trans (hb7.mono (by omega))).trans (hb8.mono (by omega))).trans (hb9.mono (by omega))⟩
end Go.Proofs.Ytikjhanfdmlhoac
