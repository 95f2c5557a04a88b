import Derived.Test.YtmemhmndfcdmbaoDrawNow
import Derived.Test.YtmemhmndfcdmbaoDrawOk
import Derived.Test.YtmemhmndfcdmbaoPicks
namespace Go.Proofs.Ytmemhmndfcdmbao
open Go.RowKit

theorem wpList_append_two {P : Program} (w : World) {ops : Array Oper} {rest : List Oper} {o : Oper} {a : Act} {Q : Exit → Act → World → Prop} (hgd : o.guard = none) (s x : Operand) (t : TypeId)
    (ho : o.op = .call { callee := .builtin .append, args := #[s, x], argTypes := #[t, t] })
    (base base' : Nat) (e : TypeId) (i : TypeInfo) (z : Value) (size bytes : Nat) (ht : P.underlying t = some (.slice e)) (hi : P.info? e = some i) (hz : i.zero = some z)
    (hsize : i.size = size) (hby : i.bytes = bytes) (hzs : z.cells.size = size) (hsz : 0 < size)
    (k n cap : Nat) (xs : List Value) (hs : a.eval s = .slice (some ⟨k, 0, none⟩) n cap) (hown : w.ownsRow base e size (.slice (some ⟨k, 0, none⟩) n cap) n xs)
    (xa : Option Addr) (m c : Nat) (news : List Value) (hx : a.eval x = .slice xa m c) (hsrc : w.ownsRow base' e size (.slice xa m c) m news) (h1 : ∀ u ∈ news, u.oneCell' = true)
    (h63 : n + m ≤ maxLen) (hbytes : (n + m) * bytes ≤ 140737488355328) (hbase : base ≤ w.heap.size) (nm : Nat) (hnm : n + m = nm)
    (h : ∀ g cap' w', w'.ownsRow base e size (.slice (some ⟨g, 0, none⟩) nm cap') nm (xs ++ news) → w.grownBy w' (some k) → wpList P ops Q rest (a.put o.dst (.slice (some ⟨g, 0, none⟩) nm cap')) w') :
    wpList P ops Q (o :: rest) a w := by
  subst hnm
  refine wpList_plain hgd fun K hK => ?_
  obtain ⟨g, cap', w', hr, h2, h3⟩ := run_append_two (P := P) w t o.type base base' e i z size bytes ht hi hz hsize hby hzs hsz k n cap xs hown xa m c news hsrc h1 h63 hbytes hbase
  unfold Oper.wp execOp
  simp only [ho, resolve, invoke, builtin, Sem.run_bind, Sem.run_pure, Result.andThen_ok, List.map_toArray, List.map_cons, List.map_nil, hs, hx, hr]
  exact hK _ _ (h g cap' w' h2 h3)

theorem textB_append {A B : List Sg} (ha : textB A = true) (hb : textB B = true) : textB (A ++ B) = decide (A.length + B.length ≤ 24) := by
  have h1 := textB_all ha
  have h2 := textB_all hb
  unfold textB
  have e : (A ++ B).all sgB = true := by
    rw [List.all_eq_true]
    intro s hs
    rcases List.mem_append.1 hs with h | h
    · exact h1 s h
    · exact h2 s h
  rw [e, List.length_append]
  simp
theorem pickL_two {q : Sg → Bool} {A B : List Sg} (ha : textB A = true) (hb : textB B = true) (hab : textB (A ++ B) = true) : pickL q A ++ pickL q B = pickL q (A ++ B) := by
  unfold pickL
  rw [ha, hb, hab, if_pos rfl, if_pos rfl, if_pos rfl]
  unfold bytesOf
  rw [List.filter_append, List.map_append]
theorem strOfNums_app (a b : List Int) : strOfNums a ++ strOfNums b = strOfNums (a ++ b) := by
  apply ByteArray.ext
  simp [strOfNums, ByteArray.data_append]
theorem pickL_le {q : Sg → Bool} {l : List Sg} : (pickL q l).length ≤ l.length := by
  unfold pickL
  cases h : textB l
  · simp
  · rw [if_pos rfl]
    unfold bytesOf
    rw [List.length_map]
    exact List.length_filter_le _ _

set_option maxHeartbeats 2000000 in
theorem fnTextTwo_walk (a : Option Addr) (n cap : Nat) (zs : List Int) (b : Option Addr) (m cap' : Nat) (ys : List Int) (w : World) (h : Byt w.heap.size w a n cap zs) (h' : Byt w.heap.size w b m cap' ys) :
    Calls Try.prog 4 #[.slice a n cap, .slice b m cap'] w fun e w' => e = .returned (.bool true) ∧ Below w.heap.size w w' := by
  have hc := h.2.1
  have hm := h.2.2.1
  have hc' := h'.2.1
  have hm' := h'.2.2.1
  unfold maxLen at hm hm'
  have HY : Hid (Byt w.heap.size w a n cap zs) := h
  have HZ : Hid (Byt w.heap.size w b m cap' ys) := h'
  clear h h'
  obtain ⟨i0, hi, hz0, hz1, hz2⟩ := info_parts Try.info28
  by_cases hn : n ≤ 1048576
  · have hd : decide ((1048576 : Int) < (n : Int)) = false := by simp; omega
    by_cases hn' : m ≤ 1048576
    · have hd' : decide ((1048576 : Int) < (m : Int)) = false := by simp; omega
      go_enter Try.func4, Try.ntmps4
      go_wp2_with fail
      refine (drawTextOk_any w.heap.size a n cap zs _ HY.out (Nat.le_refl _)).mono ?_
      rintro e w1 ⟨v, A, rfl, ho1, hl1, hb1⟩
      have s1 := hb1.size
      obtain ⟨a1, n1, c1, rfl, hn1⟩ := ho1.shapeL
      have hn25 : n1 ≤ 25 := by omega
      have HLA : Hid (n1 = A.length) := hn1
      have HOA : Hid (Own w1 w.heap.size (.slice a1 n1 c1) A) := ho1
      clear ho1 hn1
      go_wp2_with fail
      refine (drawTextNow_any w.heap.size b m cap' ys _ (HZ.out.same (fun k hk => hb1.block k hk)) s1).mono ?_
      rintro e w2 ⟨v, B, rfl, ho2, hl2, hb2⟩
      have s2 := hb2.size
      obtain ⟨a2, n2, c2, rfl, hn2⟩ := ho2.shapeL
      have hm25 : n2 ≤ 25 := by omega
      have HLB : Hid (n2 = B.length) := hn2
      have HOB : Hid (Own w2 w1.heap.size (.slice a2 n2 c2) B) := ho2
      have HOA2 : Hid (Own w2 w.heap.size (.slice a1 n1 c1) A) := HOA.out.below hb2
      have HB2 : Hid (Below w.heap.size w w2) := hb1.trans (hb2.mono s1)
      have hcA := HOA2.out.txt.2.1
      have hcmA := HOA2.out.txt.2.2.1
      have hcB := HOB.out.txt.2.1
      have hcmB := HOB.out.txt.2.2.1
      unfold maxLen at hcmA hcmB
      clear ho2 hn2 hb1 hb2
      cases hta : textB A
      · have HA : Hid (textB A = false) := hta
        clear hta
        go_wp2_with fail
        refine (implTextOk_is HOA2.out.txt HA.out).mono ?_
        rintro e w3 ⟨rfl, hb3⟩
        have s3 := hb3.size
        go_wp2_with fail
        refine (specTextOk_is (HOA2.out.txt.below hb3) HA.out).mono ?_
        rintro e w4 ⟨rfl, hb4⟩
        have s4 := hb4.size
        go_wp2_with fail
        refine (specTextOk_is ((HOA2.out.txt.below hb3).below hb4) HA.out).mono ?_
        rintro e w5 ⟨rfl, hb5⟩
        have s5 := hb5.size
        go_wp2_with fail
        refine (implTextOk_is (((HOA2.out.txt.below hb3).below hb4).below hb5) HA.out).mono ?_
        rintro e w6 ⟨rfl, hb6⟩
        have s6 := hb6.size
        go_wp2_with fail
        refine (specTextOk_is ((((HOA2.out.txt.below hb3).below hb4).below hb5).below hb6) HA.out).mono ?_
        rintro e w7 ⟨rfl, hb7⟩
        go_wp2_with fail
        go_ret
        exact ⟨rfl, ((((HB2.out.trans (hb3.mono (by omega))).trans (hb4.mono (by omega))).trans (hb5.mono (by omega))).trans (hb6.mono (by omega))).trans (hb7.mono (by omega))⟩
      · have HA : Hid (textB A = true) := hta
        clear hta
        go_wp2_with fail
        refine (implTextOk_is HOA2.out.txt HA.out).mono ?_
        rintro e w3 ⟨rfl, hb3⟩
        have s3 := hb3.size
        go_wp2_with fail
        refine (specTextOk_is (HOA2.out.txt.below hb3) HA.out).mono ?_
        rintro e w4 ⟨rfl, hb4⟩
        have s4 := hb4.size
        go_wp2_with fail
        refine (specTextOk_is ((HOA2.out.txt.below hb3).below hb4) HA.out).mono ?_
        rintro e w5 ⟨rfl, hb5⟩
        have s5 := hb5.size
        have HOA5 : Hid (Own w5 w.heap.size (.slice a1 n1 c1) A) := ((HOA2.out.below hb3).below hb4).below hb5
        have HOB5 : Hid (Own w5 w1.heap.size (.slice a2 n2 c2) B) := ((HOB.out.below hb3).below hb4).below hb5
        have HB5 : Hid (Below w.heap.size w w5) := ((HB2.out.trans (hb3.mono (by omega))).trans (hb4.mono (by omega))).trans (hb5.mono (by omega))
        clear hb3 hb4 hb5
        cases htbb : textB B
        · have HB : Hid (textB B = false) := htbb
          clear htbb
          go_wp2_with fail
          refine (specTextOk_is HOB5.out.txt HB.out).mono ?_
          rintro e w6 ⟨rfl, hb6⟩
          have s6 := hb6.size
          go_wp2_with fail
          refine (implTextOk_is (HOA5.out.txt.below hb6) HA.out).mono ?_
          rintro e w7 ⟨rfl, hb7⟩
          have s7 := hb7.size
          go_wp2_with fail
          refine (specTextOk_is ((HOA5.out.txt.below hb6).below hb7) HA.out).mono ?_
          rintro e w8 ⟨rfl, hb8⟩
          go_wp2_with fail
          go_ret
          exact ⟨rfl, ((HB5.out.trans (hb6.mono (by omega))).trans (hb7.mono (by omega))).trans (hb8.mono (by omega))⟩
        · have HB : Hid (textB B = true) := htbb
          clear htbb
          go_wp2_with fail
          refine (specTextOk_is HOB5.out.txt HB.out).mono ?_
          rintro e w6 ⟨rfl, hb6⟩
          have s6 := hb6.size
          have HOA6 : Hid (Own w6 w.heap.size (.slice a1 n1 c1) A) := HOA5.out.below hb6
          have HOB6 : Hid (Own w6 w1.heap.size (.slice a2 n2 c2) B) := HOB5.out.below hb6
          have HB6 : Hid (Below w.heap.size w w6) := HB5.out.trans (hb6.mono (by omega))
          clear hb6
          go_wp2_with (first
            | (have _t := hown7; at_builtin; refine wpList_append_two _ rfl (.tmp 43) (.tmp 44) 23 rfl w6.heap.size w1.heap.size 28 i0 (.agg #[.int .u8 0, .int .i64 0, .int .i64 0]) 3 24 Try.underlying23 hi hz0 hz1 hz2 rfl (by omega) g7 n1 c7 (flat A) rfl hown7 a2 n2 c2 (flat B) rfl (HOB6.out.below hb7).row (flat_oneCell B) (by unfold maxLen; omega) (by omega) (by omega) (n1 + n2) rfl ?_; intro g8 c8 w8 hown8 hgrow8)
            | (at_builtin; refine wpList_append_two _ rfl (.tmp 41) (.tmp 42) 23 rfl w6.heap.size w.heap.size 28 i0 (.agg #[.int .u8 0, .int .i64 0, .int .i64 0]) 3 24 Try.underlying23 hi hz0 hz1 hz2 rfl (by omega) w6.heap.size 0 0 [] rfl (own_empty_at (Nat.le_refl _) (heap_alloc_new w6 _)) a1 n1 c1 (flat A) rfl (HOA6.out.alloc _).row (flat_oneCell A) (by unfold maxLen; omega) (by omega) (by simp) n1 (Nat.zero_add n1) ?_; intro g7 c7 w7 hown7 hgrow7; simp only [List.nil_append] at hown7; have hb7 : Below w6.heap.size w6 w7 := ((Below.refl _ _).alloc (Nat.le_refl _) _).grown hgrow7 (by simp) (fun k hk => by simp at hk; omega); have s7 := hb7.size; have hg7 := (hown7.lt g7 rfl).1))
          have hb8 : Below w6.heap.size w6 w8 := hb7.grown hgrow8 s7 (fun k hk => by simp at hk; omega)
          have s8 := hb8.size
          have HO8 : Hid (Own w8 w6.heap.size (.slice (some ⟨g8, 0, none⟩) (n1 + n2) c8) (A ++ B)) := by
            show Own w8 w6.heap.size (.slice (some ⟨g8, 0, none⟩) (n1 + n2) c8) (A ++ B)
            unfold Own
            rw [flat_append, List.length_append, ← HLA.out, ← HLB.out]
            exact hown8
          have hc8 := HO8.out.txt.2.1
          have hcm8 := HO8.out.txt.2.2.1
          unfold maxLen at hcm8
          have HT8 : Hid (Txt w8 (some ⟨g8, 0, none⟩) (n1 + n2) c8 (A ++ B)) := HO8.out.txt
          have HTA : Hid (Txt w8 a1 n1 c1 A) := HOA6.out.txt.below hb8
          have HTB : Hid (Txt w8 a2 n2 c2 B) := HOB6.out.txt.below hb8
          clear hown7 hgrow7 hown8 hgrow8 hb7
          by_cases h24 : n1 + n2 ≤ 24
          · have HAB : Hid (textB (A ++ B) = true) := by
              show textB (A ++ B) = true
              rw [textB_append HA.out HB.out, ← HLA.out, ← HLB.out]
              simpa using h24
            have hd24 : decide ((n1 : Int) + (n2 : Int) ≤ 24) = true := by simp; omega
            obtain ⟨S1, hS1⟩ : ∃ S, strOfNums (pickL noOut A) = S := ⟨_, rfl⟩
            obtain ⟨S2, hS2⟩ : ∃ S, strOfNums (pickL noOut B) = S := ⟨_, rfl⟩
            obtain ⟨S, hS⟩ : ∃ S, strOfNums (pickL noOut (A ++ B)) = S := ⟨_, rfl⟩
            have hcat : S1 ++ S2 = S := by rw [← hS1, ← hS2, ← hS, strOfNums_app, pickL_two HA.out HB.out HAB.out]
            have z1 : S1.size ≤ 25 := by rw [← hS1, strOfNums_size]; exact Nat.le_trans pickL_le (by rw [← HLA.out]; exact hn25)
            have z2 : S2.size ≤ 25 := by rw [← hS2, strOfNums_size]; exact Nat.le_trans pickL_le (by rw [← HLB.out]; exact hm25)
            have HS1 : Hid (strOfNums (pickL noOut A) = S1) := hS1
            have HS2 : Hid (strOfNums (pickL noOut B) = S2) := hS2
            have HS : Hid (strOfNums (pickL noOut (A ++ B)) = S) := hS
            clear hS1 hS2 hS
            refine (implTextOk_is HT8.out HAB.out).mono ?_
            rintro e w9 ⟨rfl, hb9⟩
            have s9 := hb9.size
            go_wp2_with fail
            refine (implTextNow_is (HT8.out.below hb9) HS.out).mono ?_
            rintro e w10 ⟨rfl, hb10⟩
            have s10 := hb10.size
            go_wp2_with fail
            refine (implTextNow_is ((HTA.out.below hb9).below hb10) HS1.out).mono ?_
            rintro e w11 ⟨rfl, hb11⟩
            have s11 := hb11.size
            go_wp2_with fail
            refine (implTextNow_is (((HTB.out.below hb9).below hb10).below hb11) HS2.out).mono ?_
            rintro e w12 ⟨rfl, hb12⟩
            go_wp2_with fail
            go_ret
            exact ⟨rfl, ((((HB6.out.trans (hb8.mono (by omega))).trans (hb9.mono (by omega))).trans (hb10.mono (by omega))).trans (hb11.mono (by omega))).trans (hb12.mono (by omega))⟩
          · have HAB : Hid (textB (A ++ B) = false) := by
              show textB (A ++ B) = false
              rw [textB_append HA.out HB.out, ← HLA.out, ← HLB.out]
              simpa using h24
            have hd24 : decide ((n1 : Int) + (n2 : Int) ≤ 24) = false := by simp; omega
            refine (implTextOk_is HT8.out HAB.out).mono ?_
            rintro e w9 ⟨rfl, hb9⟩
            go_wp2_with fail
            go_ret
            exact ⟨rfl, (HB6.out.trans (hb8.mono (by omega))).trans (hb9.mono (by omega))⟩
    · have hd' : decide ((1048576 : Int) < (m : Int)) = true := by simp; omega
      go_enter Try.func4, Try.ntmps4
      go_wp2_with fail
      go_ret
      exact ⟨rfl, Below.refl _ _⟩
  · have hd : decide ((1048576 : Int) < (n : Int)) = true := by simp; omega
    go_enter Try.func4, Try.ntmps4
    go_wp2_with fail
    go_ret
    exact ⟨rfl, Below.refl _ _⟩
end Go.Proofs.Ytmemhmndfcdmbao
