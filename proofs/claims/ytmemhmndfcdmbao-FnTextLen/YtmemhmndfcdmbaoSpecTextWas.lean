import Derived.Test.YtmemhmndfcdmbaoPicks
namespace Go.Proofs.Ytmemhmndfcdmbao
open Go.RowKit

set_option maxHeartbeats 1000000 in
theorem specTextWas_any (a : Option Addr) (n cap : Nat) (l : List Sg) (w : World) (h : Txt w a n cap l) :
    Calls Try.prog 7 #[.slice a n cap] w fun e w' => e = .returned (.string (strOfNums (pickL noIn l))) ∧ Below w.heap.size w w' := by
  have h0 := h
  obtain ⟨rfl, hc, hm, hl⟩ := h
  unfold maxLen at hm
  have HH : Hid (Txt w a l.length cap l) := h0
  clear h0
  obtain ⟨i0, hi, hz0, hz1, hz2⟩ := info_parts Try.info5
  rcases hl with rfl | ⟨b, off, rfl, hbw, hl⟩
  · have hcv := convert_own (OwnB.emptyNew w 0 (Nat.zero_le _))
    go_enter Try.func7, Try.ntmps7
    go_wp2_with fail
    refine wp_loop_rounds 1 ?_
    rw [rounds_succ]
    go_wp2_with fail
    go_ret
    exact ⟨rfl, (Below.refl _ _).alloc (Nat.le_refl _) _⟩
  · cases htb : textB l
    · rw [show pickL noIn l = [] from by simp [pickL, htb]]
      by_cases hz : l.length = 0
      · obtain rfl : l = [] := List.eq_nil_of_length_eq_zero hz
        exact absurd htb (by decide)
      · have hcv := fun w1 (hb1 : Below (w.alloc (.cells #[] 5)).heap.size (w.alloc (.cells #[] 5)) w1) => convert_own ((OwnB.emptyNew w 0 (Nat.zero_le _)).below hb1)
        have HC : Hid (∀ w1 : World, Below (w.alloc (.cells #[] 5)).heap.size (w.alloc (.cells #[] 5)) w1 → (convert 22 9 (.slice (some ⟨w.heap.size, 0, none⟩) 0 0)).run Try.prog w1 = .ok (.string (strOfNums [])) w1) := hcv
        clear hcv hl
        have hpos : 0 < l.length := by omega
        clear hz
        go_enter Try.func7, Try.ntmps7
        go_wp2_with fail
        refine wp_loop_rounds 1 ?_
        rw [rounds_succ]
        go_wp2_with (go_at_call 8; refine (specTextOk_is (HH.out.below ((Below.refl _ _).alloc (Nat.le_refl _) _)) htb).mono ?_; rintro e w1 ⟨rfl, hb1⟩; have hcv := HC.out _ hb1)
        go_ret
        exact ⟨rfl, ((Below.refl _ _).alloc (Nat.le_refl _) _).trans (hb1.mono (by simp))⟩
    · rw [show pickL noIn l = bytesOf (l.filter noIn) from by simp [pickL, htb]]
      have h24 := textB_len htb
      have HT : Hid (textB l = true) := htb
      clear htb
      go_enter Try.func7, Try.ntmps7
      go_wp2_with fail
      go_loopw [3, 4] (fun v i wr => ∃ (k : Nat) (a : Option Addr) (m c : Nat), k ≤ l.length ∧ i = .int .i64 k ∧ v = .slice a m c ∧ m ≤ k ∧ OwnB wr w.heap.size (.slice a m c) (bytesOf ((l.take k).filter noIn)) ∧ Below w.heap.size w wr) (fun _ i _ => l.length - (intOf i).toNat)
      case atStart => exact ⟨0, some ⟨w.heap.size, 0, none⟩, 0, 0, Nat.zero_le _, rfl, rfl, Nat.le_refl _, by simpa [bytesOf] using OwnB.emptyNew w w.heap.size (Nat.le_refl _), (Below.refl _ _).alloc (Nat.le_refl _) _⟩
      case round =>
        obtain ⟨k, a, m, c, hk, rfl, rfl, hmk, ho, hbl⟩ := hrel
        have hsz := hbl.size
        by_cases hlt : k < l.length
        · have HO : Hid (OwnB wr w.heap.size (.slice a m c) (bytesOf ((l.take k).filter noIn))) := ho
          clear ho
          have HL : Hid (SignsAt w b off l) := hl
          clear hl
          obtain ⟨s, hs⟩ : ∃ s, s = l.getD k (0, 0, 0) := ⟨_, rfl⟩
          have HS : Hid (s = l.getD k (0, 0, 0)) := hs
          clear hs
          go_wp2_with fail
          refine (specTextOk_is (HH.out.below hbl) HT.out).mono ?_
          rintro e w1 ⟨rfl, hb1⟩
          have s1 := hb1.size
          have hb01 := hbl.trans (hb1.mono hsz)
          obtain ⟨c0, c1, c2⟩ := (HL.out.below hb01 hbw) k hlt
          rw [← HS.out] at c0 c1 c2
          have HO1 : Hid (OwnB w1 w.heap.size (.slice a m c) (bytesOf ((l.take k).filter noIn))) := HO.out.below hb1
          cases hq : (s.2.1 == (0 : Int))
          · go_wp2_with fail
            go_roundw
            case rel => exact ⟨k + 1, a, m, c, by omega, by go_num, rfl, by omega, by rw [picked_no noIn l k hlt (by rw [← HS.out]; exact hq)]; exact HO1.out, hb01⟩
            case measure => simp [intOf]; omega
          · have HQ : Hid ((s.2.1 == (0 : Int)) = true) := hq
            go_wp2_with (at_builtin; refine wpList_append_own _ rfl (.tmp 22) (.tmp 28) 22 rfl w.heap.size 5 i0 (.int .u8 0) 1 1 Try.underlying22 hi hz0 hz1 hz2 rfl (by decide) (.slice a m c) _ _ rfl (HO1.out.row.alloc _) ⟨w1.heap.size, 0, none⟩ 1 1 [.int .u8 s.1] rfl rfl (cell_one_new' _ _ _) (byte_oneCell _) (by unfold maxLen; omega) (by omega) (by simp; omega) ?_; intro v' w2 hown' hgrow _)
            obtain ⟨a', c', rfl, ho2, hb2⟩ := ownB_step (x := s.1) HO1.out hb01 (by omega) hown' hgrow
            rw [HS.out, ← picked_yes noIn l k hlt (by rw [← HS.out]; exact HQ.out)] at ho2
            go_roundw
            case rel => exact ⟨k + 1, a', m + 1, c', by omega, by go_num, rfl, by omega, ho2, hb2⟩
            case measure => simp [intOf]; omega
        · obtain rfl : k = l.length := by omega
          rw [List.take_of_length_le (Nat.le_refl _)] at ho
          have hcv := convert_own ho
          clear ho
          go_wp2_with fail
          go_ret
          exact ⟨rfl, hbl⟩

theorem specTextWas_is {a : Option Addr} {n cap : Nat} {l : List Sg} {w : World} (h : Txt w a n cap l) {S : ByteArray} (hS : strOfNums (pickL noIn l) = S) :
    Calls Try.prog 7 #[.slice a n cap] w fun e w' => e = .returned (.string S) ∧ Below w.heap.size w w' := by
  rw [← hS]; exact specTextWas_any a n cap l w h

end Go.Proofs.Ytmemhmndfcdmbao
