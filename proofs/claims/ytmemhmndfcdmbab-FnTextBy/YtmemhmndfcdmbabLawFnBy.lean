import Derived.Test.YtmemhmndfcdmbabLmInts
import Derived.Test.YtmemhmndfcdmbabLmIn
import Derived.Test.YtmemhmndfcdmbabByNil
import Derived.Test.YtmemhmndfcdmbabDrawBy
namespace Go.Proofs.Ytmemhmndfcdmbab
open Go.RowKit

theorem implTextBy_is {a : Option Addr} {n cap : Nat} {l : List Sg} {w : World} (h : Txt w a n cap l) {L : List Int} (hL : specByL l = L) :
    Calls Try.prog 7 #[.slice a n cap] w fun e w' => ∃ v, e = .returned v ∧ OwnI w' w.heap.size v L ∧ Below w.heap.size w w' := by
  rw [← hL, ← by_eq]; exact implTextBy_any a n cap l w h
theorem specTextBy_is {a : Option Addr} {n cap : Nat} {l : List Sg} {w : World} (h : Txt w a n cap l) {L : List Int} (hL : specByL l = L) :
    Calls Try.prog 9 #[.slice a n cap] w fun e w' => ∃ v, e = .returned v ∧ OwnI w' w.heap.size v L ∧ Below w.heap.size w w' := by
  rw [← hL]; exact specTextBy_any a n cap l w h
theorem getD_mem (l : List Sg) (k : Nat) (h : k < l.length) : l.getD k (0, 0, 0) ∈ l := by simp [List.getD, h]
theorem pickL_byte {q : Sg → Bool} {l : List Sg} : ∀ n ∈ pickL q l, byteB n = true := by
  intro n hn
  unfold pickL at hn
  cases h : textB l
  · rw [h] at hn; simp at hn
  · rw [h, if_pos rfl] at hn
    obtain ⟨s, hs, rfl⟩ := List.mem_map.1 hn
    exact (sgB_parts (textB_all h s (List.mem_filter.1 hs).1)).1
/-- Two lists of bytes are the same text just if they are the same. -/
theorem strOfNums_inj {A B : List Int} (ha : ∀ n ∈ A, byteB n = true) (hb : ∀ n ∈ B, byteB n = true) (h : strOfNums A = strOfNums B) : A = B := by
  have e : A.map (fun n => UInt8.ofNat n.toNat) = B.map (fun n => UInt8.ofNat n.toNat) := by
    have := congrArg (fun s : ByteArray => s.data.toList) h
    simpa [strOfNums_data] using this
  have back : ∀ L : List Int, (∀ n ∈ L, byteB n = true) → (L.map (fun n => UInt8.ofNat n.toNat)).map (fun c => (c.toNat : Int)) = L := by
    intro L hL
    have e2 : L.map ((fun c : UInt8 => (c.toNat : Int)) ∘ (fun n : Int => UInt8.ofNat n.toNat)) = L.map id := by
      refine List.map_congr_left (fun n hn => ?_)
      have hb := hL n hn
      simp [byteB] at hb
      show ((UInt8.ofNat n.toNat).toNat : Int) = n
      rw [show (UInt8.ofNat n.toNat).toNat = n.toNat % 256 from UInt8.toNat_ofNat' ..]
      omega
    rw [List.map_map, e2, List.map_id]
  rw [← back A ha, ← back B hb, e]

set_option maxHeartbeats 4000000 in
theorem fnTextBy_walk (a : Option Addr) (n cap : Nat) (zs : List Int) (w : World) (h : Byt w.heap.size w a n cap zs) :
    Calls Try.prog 3 #[.slice a n cap] w fun e w' => e = .returned (.bool true) ∧ Below w.heap.size w w' := by
  have hc := h.2.1
  have hm := h.2.2.1
  unfold maxLen at hm
  by_cases hn : n ≤ 1048576
  · have hd : decide ((1048576 : Int) < (n : Int)) = false := by simp; omega
    have HY : Hid (Byt w.heap.size w a n cap zs) := h
    clear h
    go_enter Try.func3, Try.ntmps3
    go_wp2_with fail
    refine (drawTextBy_any w.heap.size a n cap zs _ HY.out (Nat.le_refl _)).mono ?_
    rintro e w1 ⟨v, l, rfl, ho1, hl1, hb1⟩
    have s1 := hb1.size
    obtain ⟨a1, n1, c1, rfl, hn1⟩ := ho1.shapeL
    have hn25 : n1 ≤ 25 := by omega
    have HL : Hid (n1 = l.length) := hn1
    have HT1 : Hid (Txt w1 a1 n1 c1 l) := ho1.txt
    have hcap := ho1.txt.2.1
    have hcm := ho1.txt.2.2.1
    unfold maxLen at hcm
    clear ho1 hn1
    obtain ⟨L, hLL⟩ : ∃ L, specByL l = L := ⟨_, rfl⟩
    have HLL : Hid (specByL l = L) := hLL
    have hL3 : L.length ≤ 3 := by rw [← hLL]; exact by_le l
    clear hLL
    go_wp2_with fail
    refine (implTextBy_is HT1.out HLL.out).mono ?_
    rintro e w2 ⟨v, rfl, ho2, hb2⟩
    have s2 := hb2.size
    obtain ⟨a2, n2, c2, rfl, hn2⟩ := ho2.shapeL
    have HN2 : Hid (n2 = L.length) := hn2
    have hn23 : n2 ≤ 3 := by omega
    have HI2 : Hid (Ints w2 a2 n2 c2 L) := ho2.ints
    have hcap2 := ho2.ints.2.1
    have hcm2 := ho2.ints.2.2.1
    unfold maxLen at hcm2
    clear ho2 hn2
    go_wp2_with fail
    refine (specTextBy_is (HT1.out.below hb2) HLL.out).mono ?_
    rintro e w3 ⟨v, rfl, ho3, hb3⟩
    have s3 := hb3.size
    obtain ⟨a3, n3, c3, rfl, hn3⟩ := ho3.shapeL
    have HI3 : Hid (Ints w3 a3 n3 c3 L) := ho3.ints
    clear ho3 hn3
    go_wp2_with fail
    refine (lmInts_same (HI2.out.below hb3) HI3.out).mono ?_
    rintro e w4 ⟨rfl, hb4⟩
    have s4 := hb4.size
    have HT4 : Hid (Txt w4 a1 n1 c1 l) := ((HT1.out.below hb2).below hb3).below hb4
    have HI4 : Hid (Ints w4 a2 n2 c2 L) := (HI2.out.below hb3).below hb4
    have HB4 : Hid (Below w.heap.size w w4) := ((hb1.trans (hb2.mono (by omega))).trans (hb3.mono (by omega))).trans (hb4.mono (by omega))
    clear hb1 hb2 hb3 hb4
    cases htb : textB l
    · have HB : Hid (textB l = false) := htb
      clear htb
      go_wp2_with fail
      refine (specTextOk_is HT4.out HB.out).mono ?_
      rintro e w5 ⟨rfl, hb5⟩
      have s5 := hb5.size
      go_wp2_with fail
      refine (specTextBy_is (HT4.out.below hb5) HLL.out).mono ?_
      rintro e w6 ⟨v, rfl, ho6, hb6⟩
      have s6 := hb6.size
      obtain ⟨a6, n6, c6, rfl, hn6⟩ := ho6.shapeL
      have HI6 : Hid (Ints w6 a6 n6 c6 L) := ho6.ints
      clear ho6 hn6
      go_wp2_with fail
      refine (lmInts_same ((HI4.out.below hb5).below hb6) HI6.out).mono ?_
      rintro e w7 ⟨rfl, hb7⟩
      go_wp2_with fail
      go_ret
      exact ⟨rfl, ((HB4.out.trans (hb5.mono (by omega))).trans (hb6.mono (by omega))).trans (hb7.mono (by omega))⟩
    · have HB : Hid (textB l = true) := htb
      clear htb
      go_wp2_with fail
      refine (specTextOk_is HT4.out HB.out).mono ?_
      rintro e w5 ⟨rfl, hb5⟩
      have s5 := hb5.size
      have HT5 : Hid (Txt w5 a1 n1 c1 l) := HT4.out.below hb5
      have HI5 : Hid (Ints w5 a2 n2 c2 L) := HI4.out.below hb5
      have HB5 : Hid (Below w.heap.size w w5) := HB4.out.trans (hb5.mono (by omega))
      clear hb5
      go_wp2_with fail
      go_loop [5] (fun i => ∃ k : Nat, k ≤ n1 ∧ i = .int .i64 (k : Int)) (fun i => n1 - (intOf i).toNat)
      case atStart => exact ⟨0, Nat.zero_le _, rfl⟩
      case round =>
        obtain ⟨k, hk, rfl⟩ := hrel
        by_cases hlt : k < n1
        · have hlt' : k < l.length := by rw [← HL.out]; exact hlt
          have HMem : Hid (l.getD k (0, 0, 0) ∈ l) := getD_mem l k hlt'
          rcases HT5.out.2.2.2 with hnil | ⟨b, off, rfl, hbw, hcells⟩
          · rw [hnil] at hlt'; exact absurd hlt' (by simp)
          · obtain ⟨c0, c1', c2'⟩ := hcells k hlt'
            clear hcells
            obtain ⟨s, hs⟩ : ∃ s, s = l.getD k (0, 0, 0) := ⟨_, rfl⟩
            rw [← hs] at c0 c1' c2'
            have HMs : Hid (s ∈ l) := by show s ∈ l; rw [hs]; exact HMem.out
            clear hs
            by_cases hi : 0 < s.2.1
            · by_cases ho : 0 < s.2.2
              · go_wp2_with fail
                refine (lmIn_yes HI5.out (by rw [← HLL.out]; exact in_by HB.out HMs.out hi)).mono ?_
                rintro e w6 ⟨rfl, rfl⟩
                go_wp2_with fail
                refine (lmIn_yes HI5.out (by rw [← HLL.out]; exact out_by HB.out HMs.out ho)).mono ?_
                rintro e w6 ⟨rfl, rfl⟩
                go_wp2_with fail
                go_round
                case rel => exact ⟨k + 1, by omega, by go_num⟩
                case measure => simp [intOf]; omega
              · have ho' : decide (0 < s.2.2) = false := by simp; omega
                go_wp2_with fail
                refine (lmIn_yes HI5.out (by rw [← HLL.out]; exact in_by HB.out HMs.out hi)).mono ?_
                rintro e w6 ⟨rfl, rfl⟩
                go_wp2_with fail
                go_round
                case rel => exact ⟨k + 1, by omega, by go_num⟩
                case measure => simp [intOf]; omega
            · have hi' : decide (0 < s.2.1) = false := by simp; omega
              by_cases ho : 0 < s.2.2
              · go_wp2_with fail
                refine (lmIn_yes HI5.out (by rw [← HLL.out]; exact out_by HB.out HMs.out ho)).mono ?_
                rintro e w6 ⟨rfl, rfl⟩
                go_wp2_with fail
                go_round
                case rel => exact ⟨k + 1, by omega, by go_num⟩
                case measure => simp [intOf]; omega
              · have ho' : decide (0 < s.2.2) = false := by simp; omega
                go_wp2_with fail
                go_round
                case rel => exact ⟨k + 1, by omega, by go_num⟩
                case measure => simp [intOf]; omega
        · obtain rfl : k = n1 := by omega
          go_wp2_with fail
          go_loopw [6] (fun i wr => ∃ (p q : Nat), i = .int .i64 ((p : Int) + 1) ∧ (p + 1 ≤ n2 ∨ p = 0) ∧ wr = w5.drewN q) (fun i _ => 4 - (intOf i).toNat)
          case atStart => exact ⟨0, 0, rfl, .inr rfl, rfl⟩
          case round =>
            obtain ⟨p, q, rfl, hp, rfl⟩ := hrel
            by_cases hpn : p + 1 < n2
            · have hpL : p + 1 < L.length := by rw [← HN2.out]; exact hpn
              have HAsc : Hid (L.getD p 0 < L.getD (p + 1) 0) := by show L.getD p 0 < L.getD (p + 1) 0; rw [← HLL.out]; exact by_asc l p (by rw [HLL.out]; exact hpL)
              rcases HI5.out.2.2.2 with hnil | ⟨b, off, rfl, hbw, hcells⟩
              · rw [hnil] at hpL; exact absurd hpL (by simp)
              · have d0 := hcells p (by omega)
                have d1 := hcells (p + 1) hpL
                clear hcells
                obtain ⟨x, hx⟩ : ∃ x, x = L.getD p 0 := ⟨_, rfl⟩
                obtain ⟨y, hy⟩ : ∃ y, y = L.getD (p + 1) 0 := ⟨_, rfl⟩
                rw [← hx] at d0
                rw [← hy] at d1
                have hxy : x < y := by rw [hx, hy]; exact HAsc.out
                have hxy' : decide (y ≤ x) = false := by simp; omega
                have j1 : (p : Int) < (n2 : Int) := by omega
                have j2 : (p : Int) + 1 < (n2 : Int) := by omega
                clear hx hy
                go_wp2_with fail
                go_quiet (fail)
                go_wp2_with fail
                go_roundw
                case rel => exact ⟨p + 1, q + nq, by go_num, .inl (by omega), by first | rfl | rw [World.drewN_drewN]⟩
                case measure => simp [intOf]; omega
            · have HTq : Hid (Txt (w5.drewN q) a1 k c1 l) := HT5.out.below (below_drewN (Below.refl _ _) _)
              have HBq : Hid (Below w.heap.size w (w5.drewN q)) := below_drewN HB5.out _
              have hszq : (w5.drewN q).heap.size = w5.heap.size := rfl
              obtain ⟨S, hS⟩ : ∃ S, strOfNums (pickL noOut l) = S := ⟨_, rfl⟩
              obtain ⟨U, hU⟩ : ∃ S, strOfNums (pickL noIn l) = S := ⟨_, rfl⟩
              have hnil := by_nil HB.out
              rw [HLL.out] at hnil
              have hS' : (pickL noOut l).length = S.size := by rw [← hS, strOfNums_size]
              rw [hS', ← HL.out] at hnil
              have HS : Hid (strOfNums (pickL noOut l) = S) := hS
              have HU : Hid (strOfNums (pickL noIn l) = U) := hU
              by_cases hSU : S = U
              · have e1 : pickL noOut l = pickL noIn l := strOfNums_inj pickL_byte pickL_byte (by rw [hS, hU, hSU])
                rw [decide_eq_true e1, Bool.true_and] at hnil
                subst hSU
                have hfin : (((n2 : Int) == 0) == ((S.size : Int) == (k : Int))) = true := by
                  by_cases h0 : L = []
                  · rw [decide_eq_true h0] at hnil
                    have f1 : S.size = k := of_decide_eq_true hnil.symm
                    have f2 : n2 = 0 := by rw [HN2.out, h0]; rfl
                    simp [f1, f2]
                  · rw [decide_eq_false h0] at hnil
                    have f1 : ¬ S.size = k := of_decide_eq_false hnil.symm
                    have f2 : ¬ n2 = 0 := fun e => h0 (List.eq_nil_of_length_eq_zero (by rw [← HN2.out]; exact e))
                    have g1 : ((S.size : Int) == (k : Int)) = false := by simp; omega
                    have g2 : ((n2 : Int) == 0) = false := by simp; omega
                    rw [g1, g2]; rfl
                have HF : Hid ((((n2 : Int) == 0) == ((S.size : Int) == (k : Int))) = true) := hfin
                clear hnil hS hU hS' e1 hfin
                go_wp2_with fail
                refine (implTextNow_is HTq.out HS.out).mono ?_
                rintro e w6 ⟨rfl, hb6⟩
                have s6 := hb6.size
                go_wp2_with fail
                refine (implTextWas_is (HTq.out.below hb6) HU.out).mono ?_
                rintro e w7 ⟨rfl, hb7⟩
                have s7 := hb7.size
                go_wp2_with fail
                refine (implTextNow_is ((HTq.out.below hb6).below hb7) HS.out).mono ?_
                rintro e w8 ⟨rfl, hb8⟩
                go_wp2_with fail
                go_ret
                exact ⟨congrArg (fun b => Ending.returned (Value.bool b)) HF.out, ((HBq.out.trans (hb6.mono (by omega))).trans (hb7.mono (by omega))).trans (hb8.mono (by omega))⟩
              · have e1 : ¬ pickL noOut l = pickL noIn l := fun e => hSU (by rw [← hS, ← hU, e])
                rw [decide_eq_false e1, Bool.false_and] at hnil
                have h0 : ¬ L = [] := of_decide_eq_false hnil
                have hn20 : ((n2 : Int) == 0) = false := by
                  have f2 : ¬ n2 = 0 := fun e => h0 (List.eq_nil_of_length_eq_zero (by rw [← HN2.out]; exact e))
                  simp; omega
                have hneq : (S.toList == U.toList) = false := by
                  rw [beq_eq_false_iff_ne]
                  intro e
                  apply hSU
                  rw [ByteArray.toList_eq, ByteArray.toList_eq] at e
                  apply ByteArray.ext
                  exact Array.toList_inj.1 e
                clear hnil hS hU hS' e1 h0 hSU
                go_wp2_with fail
                refine (implTextNow_is HTq.out HS.out).mono ?_
                rintro e w6 ⟨rfl, hb6⟩
                have s6 := hb6.size
                go_wp2_with fail
                refine (implTextWas_is (HTq.out.below hb6) HU.out).mono ?_
                rintro e w7 ⟨rfl, hb7⟩
                go_wp2_with fail
                go_ret
                exact ⟨rfl, (HBq.out.trans (hb6.mono (by omega))).trans (hb7.mono (by omega))⟩
  · have hd : decide ((1048576 : Int) < (n : Int)) = true := by simp; omega
    go_enter Try.func3, Try.ntmps3
    go_wp2_with fail
    go_ret
    exact ⟨rfl, Below.refl _ _⟩
end Go.Proofs.Ytmemhmndfcdmbab
