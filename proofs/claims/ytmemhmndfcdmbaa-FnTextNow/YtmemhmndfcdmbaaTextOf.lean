import Derived.Test.YtmemhmndfcdmbaaOwn
namespace Go.Proofs.Ytmemhmndfcdmbaa
open Go.RowKit

def sgOf (c : UInt8) : Sg := (c.toNat, 0, 0)
def ofL (l : List UInt8) : List Sg := l.map sgOf
def ofS (l : List UInt8) : List Sg := if textB (ofL l) then ofL l else []

theorem ofL_take_succ (s : ByteArray) (k : Nat) (h : k < s.size) : ofL (s.data.toList.take (k + 1)) = ofL (s.data.toList.take k) ++ [((s[k].toNat : Int), 0, 0)] := by
  have h' : k < s.data.toList.length := by simpa using h
  rw [List.take_succ_eq_append_getElem h']
  simp only [ofL, List.map_append, List.map_cons, List.map_nil]
  rfl

theorem ofL_len (l : List UInt8) (k : Nat) (h : k ≤ l.length) : (ofL (l.take k)).length = k := by simp [ofL, h]
theorem not_textB_of_len {l : List Sg} (h : 24 < l.length) : textB l = false := by simp [textB]; omega

theorem ofS_long (s : ByteArray) (h : ¬ s.size ≤ 24) : ofS s.data.toList = [] := by
  unfold ofS
  rw [not_textB_of_len (by simp [ofL]; omega)]
  rfl

set_option maxHeartbeats 1000000 in
theorem implTextOf_any (s : ByteArray) (w : World) (hs : s.size ≤ 9223372036854775807) :
    Calls Try.prog 7 #[.string s] w fun e w' => ∃ v, e = .returned v ∧ Own w' w.heap.size v (ofS s.data.toList) ∧ Below w.heap.size w w' := by
  obtain ⟨i0, hi, hz0, hz1, hz2⟩ := info_parts Try.info38
  by_cases h24 : s.size ≤ 24
  · have h24' : decide ((24 : Int) < (s.size : Int)) = false := by simp; omega
    go_enter Try.func7, Try.ntmps7
    go_wp2_with fail
    go_loopw [3, 4] (fun v i wr => ∃ (k : Nat) (a : Option Addr) (c : Nat), k ≤ s.size ∧ i = .int .i64 k ∧ v = .slice a k c ∧ Own wr w.heap.size (.slice a k c) (ofL (s.data.toList.take k)) ∧ Below w.heap.size w wr) (fun _ i _ => s.size - (intOf i).toNat)
    case atStart => exact ⟨0, none, 0, Nat.zero_le _, rfl, rfl, by simpa [ofL] using Own.nil _ _, Below.refl _ _⟩
    case round =>
      obtain ⟨k, a, c, hk, rfl, rfl, ho, hbl⟩ := hrel
      have hsz := hbl.size
      have HO : Hid (Own wr w.heap.size (.slice a k c) (ofL (s.data.toList.take k))) := ho
      clear ho
      by_cases hlt : k < s.size
      · go_wp2_with (at_builtin; refine wpList_append_own _ rfl (.tmp 14) (.tmp 19) 24 rfl w.heap.size 38 i0 (.agg #[.int .u8 0, .int .i64 0, .int .i64 0]) 3 24 Try.underlying24 hi hz0 hz1 hz2 rfl (by decide) (.slice a k c) _ _ rfl (HO.out.row.alloc _) ⟨wr.heap.size, 0, none⟩ 1 1 [.int .u8 (s[k].toNat : Int), .int .i64 0, .int .i64 0] rfl rfl (cell_three_new _ _ _ _ _) (three_oneCell _ _ _) (by unfold maxLen; omega) (by omega) (by simp; omega) ?_; intro v' w1 hown' hgrow _)
        obtain ⟨a', c', rfl, ho1, hb1⟩ := own_step (s := ((s[k].toNat : Int), 0, 0)) HO.out hbl hsz hown' hgrow
        rw [← ofL_take_succ s k hlt] at ho1
        go_roundw
        case rel => exact ⟨k + 1, a', c', by omega, by go_num, rfl, ho1, hb1⟩
        case measure => simp [intOf]; omega
      · obtain rfl : k = s.size := by omega
        have ho := HO.out
        rw [List.take_of_length_le (by simp)] at ho
        cases htb : textB (ofL s.data.toList)
        · go_wp2_with (go_at_call 10; refine (implTextOk_is ho.txt htb).mono ?_; rintro e w1 ⟨rfl, hb1⟩)
          go_ret
          refine ⟨_, rfl, ?_, ?_⟩
          · unfold ofS; rw [htb]; exact Own.nil _ _
          · exact hbl.trans (hb1.mono hsz)
        · go_wp2_with (go_at_call 10; refine (implTextOk_is ho.txt htb).mono ?_; rintro e w1 ⟨rfl, hb1⟩)
          go_ret
          refine ⟨_, rfl, ?_, ?_⟩
          · unfold ofS; rw [htb]; exact ho.below hb1
          · exact hbl.trans (hb1.mono hsz)
  · have h24' : decide ((24 : Int) < (s.size : Int)) = true := by simp; omega
    rw [ofS_long s h24]
    go_enter Try.func7, Try.ntmps7
    go_wp2_with fail
    go_ret
    exact ⟨_, rfl, Own.nil _ _, Below.refl _ _⟩

set_option maxHeartbeats 1000000 in
theorem specTextOf_any (s : ByteArray) (w : World) (hs : s.size ≤ 9223372036854775807) :
    Calls Try.prog 9 #[.string s] w fun e w' => ∃ v, e = .returned v ∧ Own w' w.heap.size v (ofS s.data.toList) ∧ Below w.heap.size w w' := by
  obtain ⟨i0, hi, hz0, hz1, hz2⟩ := info_parts Try.info38
  by_cases h24 : s.size ≤ 24
  · have h24' : decide ((24 : Int) < (s.size : Int)) = false := by simp; omega
    go_enter Try.func9, Try.ntmps9
    go_wp2_with fail
    go_loopw [3, 4] (fun v i wr => ∃ (k : Nat) (a : Option Addr) (c : Nat), k ≤ s.size ∧ i = .int .i64 k ∧ v = .slice a k c ∧ Own wr w.heap.size (.slice a k c) (ofL (s.data.toList.take k)) ∧ Below w.heap.size w wr) (fun _ i _ => s.size - (intOf i).toNat)
    case atStart => exact ⟨0, some ⟨w.heap.size, 0, none⟩, 0, Nat.zero_le _, rfl, rfl, by simpa [ofL] using Own.emptyNew w w.heap.size (Nat.le_refl _), (Below.refl _ _).alloc (Nat.le_refl _) _⟩
    case round =>
      obtain ⟨k, a, c, hk, rfl, rfl, ho, hbl⟩ := hrel
      have hsz := hbl.size
      have HO : Hid (Own wr w.heap.size (.slice a k c) (ofL (s.data.toList.take k))) := ho
      clear ho
      by_cases hlt : k < s.size
      · go_wp2_with (at_builtin; refine wpList_append_own _ rfl (.tmp 16) (.tmp 21) 24 rfl w.heap.size 38 i0 (.agg #[.int .u8 0, .int .i64 0, .int .i64 0]) 3 24 Try.underlying24 hi hz0 hz1 hz2 rfl (by decide) (.slice a k c) _ _ rfl (HO.out.row.alloc _) ⟨wr.heap.size, 0, none⟩ 1 1 [.int .u8 (s[k].toNat : Int), .int .i64 0, .int .i64 0] rfl rfl (cell_three_new _ _ _ _ _) (three_oneCell _ _ _) (by unfold maxLen; omega) (by omega) (by simp; omega) ?_; intro v' w1 hown' hgrow _)
        obtain ⟨a', c', rfl, ho1, hb1⟩ := own_step (s := ((s[k].toNat : Int), 0, 0)) HO.out hbl hsz hown' hgrow
        rw [← ofL_take_succ s k hlt] at ho1
        go_roundw
        case rel => exact ⟨k + 1, a', c', by omega, by go_num, rfl, ho1, hb1⟩
        case measure => simp [intOf]; omega
      · obtain rfl : k = s.size := by omega
        have ho := HO.out
        rw [List.take_of_length_le (by simp)] at ho
        cases htb : textB (ofL s.data.toList)
        · go_wp2_with (go_at_call 16; refine (specTextOk_is ho.txt htb).mono ?_; rintro e w1 ⟨rfl, hb1⟩)
          go_ret
          refine ⟨_, rfl, ?_, ?_⟩
          · unfold ofS; rw [htb]; exact Own.emptyNew w1 w.heap.size (by have := hb1.size; omega)
          · exact (hbl.trans (hb1.mono hsz)).alloc (by have := hb1.size; omega) _
        · go_wp2_with (go_at_call 16; refine (specTextOk_is ho.txt htb).mono ?_; rintro e w1 ⟨rfl, hb1⟩)
          go_ret
          refine ⟨_, rfl, ?_, ?_⟩
          · unfold ofS; rw [htb]; exact ho.below hb1
          · exact hbl.trans (hb1.mono hsz)
  · have h24' : decide ((24 : Int) < (s.size : Int)) = true := by simp; omega
    rw [ofS_long s h24]
    go_enter Try.func9, Try.ntmps9
    go_wp2_with fail
    go_ret
    exact ⟨_, rfl, Own.emptyNew w w.heap.size (Nat.le_refl _), (Below.refl _ _).alloc (Nat.le_refl _) _⟩

end Go.Proofs.Ytmemhmndfcdmbaa
