import Derived.Test.YteghidjbcpmfbaaLeaf2
import Derived.Test.YteghidjbcpmfbaaPlainS
namespace Go.Proofs.Yteghidjbcpmfbaa
open Go.RowKit

theorem signOk_is {b i o : Int} {x : Bool} (h : signB b i o = x) (w : World) :
    Calls Try.prog 69 #[.agg #[.int .u8 b, .int .i64 i, .int .i64 o]] w fun e w' => e = .returned (.bool x) ∧ Below w.heap.size w w' := h ▸ signOk_any b i o w

set_option maxHeartbeats 1000000 in
theorem implTextOk_any (a : Option Addr) (n cap : Nat) (l : List Sg) (w : World) (h : Txt w a n cap l) :
    Calls Try.prog 49 #[.slice a n cap] w fun e w' => e = .returned (.bool (textB l)) ∧ Below w.heap.size w w' := by
  obtain ⟨rfl, hc, hm, hl⟩ := h
  unfold maxLen at hm
  by_cases h24 : 24 < l.length
  · have e : textB l = false := by simp [textB]; omega
    rw [e]
    go_enter Try.func49, Try.ntmps49
    go_wp2
    go_ret
    exact ⟨rfl, Below.refl _ _⟩
  · have h24' : decide ((24 : Int) < (l.length : Int)) = false := by simp; omega
    have HT : Hid (textB l = l.all sgB) := by
      show textB l = l.all sgB
      simp [textB]; omega
    rcases hl with rfl | ⟨b, off, rfl, hbw, hl⟩
    · rw [show textB [] = true from rfl]
      go_enter Try.func49, Try.ntmps49
      go_wp2
      refine wp_loop_rounds 1 ?_
      rw [rounds_succ]
      go_wp2
      go_ret
      exact ⟨rfl, Below.refl _ _⟩
    · rw [HT.out]
      clear HT
      go_enter Try.func49, Try.ntmps49
      go_wp2
      go_loopw [10] (fun i wr => ∃ k : Nat, k ≤ l.length ∧ i = .int .i64 k ∧ (l.take k).all sgB = true ∧ Below w.heap.size w wr) (fun i _ => l.length - (intOf i).toNat)
      case atStart => exact ⟨0, Nat.zero_le _, rfl, by simp, Below.refl _ _⟩
      case round =>
        obtain ⟨k, hk, rfl, hall, hbl⟩ := hrel
        have HA : Hid ((l.take k).all sgB = true) := hall
        clear hall
        by_cases hlt : k < l.length
        · obtain ⟨c0, c1, c2⟩ := (hl.below hbl hbw) k hlt
          clear hl
          obtain ⟨s, hs⟩ : ∃ s, s = l.getD k (0, 0, 0) := ⟨_, rfl⟩
          rw [← hs] at c0 c1 c2
          have HS : Hid (s = l.getD k (0, 0, 0)) := hs
          clear hs
          have hsz := hbl.size
          cases hb : signB s.1 s.2.1 s.2.2
          · have HF : Hid (l.all sgB = false) := all_false_of l k hlt sgB (by rw [← HS.out]; exact hb)
            go_wp2_with (go_at_call 69; refine (signOk_is hb _).mono ?_; rintro e w1 ⟨rfl, hb1⟩)
            go_ret
            exact ⟨by rw [HF.out]; rfl, (hbl.alloc hsz _).trans (hb1.mono (by simp; omega))⟩
          · go_wp2_with (go_at_call 69; refine (signOk_is hb _).mono ?_; rintro e w1 ⟨rfl, hb1⟩)
            go_roundw
            case rel => exact ⟨k + 1, by omega, by go_num, by rw [all_take_succ l k hlt, HA.out, ← HS.out]; exact hb, (hbl.alloc hsz _).trans (hb1.mono (by simp; omega))⟩
            case measure => simp [intOf]; omega
        · go_wp2
          go_ret
          exact ⟨by have hh := HA.out; rw [List.take_of_length_le (by omega)] at hh; rw [hh]; rfl, hbl⟩

end Go.Proofs.Yteghidjbcpmfbaa
