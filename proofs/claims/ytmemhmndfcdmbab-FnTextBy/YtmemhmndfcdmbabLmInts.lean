import Derived.Test.YtmemhmndfcdmbabByFacts
import Derived.Deep.QuietTactic
import Derived.BigQuiet
namespace Go.Proofs.Ytmemhmndfcdmbab
open Go.RowKit

theorem take_eq_int (l m : List Int) (k : Nat) (h : k < l.length) (hl : l.length = m.length) (he : l.take k = m.take k) (hs : l.getD k 0 = m.getD k 0) : l.take (k + 1) = m.take (k + 1) := by
  rw [List.take_succ_eq_append_getElem h, List.take_succ_eq_append_getElem (by omega), he]
  simp [List.getD, h, show k < m.length by omega] at hs
  rw [hs]

set_option maxRecDepth 100000 in
set_option maxHeartbeats 1000000 in
theorem lmInts_any (a : Option Addr) (n cap : Nat) (l : List Int) (a' : Option Addr) (n' cap' : Nat) (m : List Int) (w : World) (h : Ints w a n cap l) (h' : Ints w a' n' cap' m) :
    Calls Try.prog 8 #[.slice a n cap, .slice a' n' cap'] w fun e w' => e = .returned (.bool (decide (l = m))) ∧ ∃ q, w' = w.drewN q := by
  obtain ⟨rfl, hc, hm, hl⟩ := h
  obtain ⟨rfl, hc', hm', hl'⟩ := h'
  unfold maxLen at hm hm'
  by_cases hlen : l.length = m.length
  · have hbq : ((l.length : Int) != (m.length : Int)) = false := by simp [hlen]
    rcases hl with rfl | ⟨b, off, rfl, hbw, hl⟩
    · obtain rfl : m = [] := List.eq_nil_of_length_eq_zero (by simpa using hlen.symm)
      go_enter Try.func8, Try.ntmps8
      go_wp2_with fail
      refine wp_loop_rounds 1 ?_
      rw [rounds_succ]
      go_wp2_with fail
      go_ret
      exact ⟨rfl, 0, rfl⟩
    · rcases hl' with rfl | ⟨b', off', rfl, hbw', hl'⟩
      · obtain rfl : l = [] := List.eq_nil_of_length_eq_zero (by simpa using hlen)
        go_enter Try.func8, Try.ntmps8
        go_wp2_with fail
        refine wp_loop_rounds 1 ?_
        rw [rounds_succ]
        go_wp2_with fail
        go_ret
        exact ⟨rfl, 0, rfl⟩
      · have HL : Hid (l.length = m.length) := hlen
        have hl1 : l.length ≤ m.length := by omega
        have hl2 : m.length ≤ l.length := by omega
        clear hlen
        go_enter Try.func8, Try.ntmps8
        go_wp2_with fail
        go_loopw [5] (fun i wr => ∃ (k q : Nat), k ≤ l.length ∧ i = .int .i64 k ∧ l.take k = m.take k ∧ wr = w.drewN q) (fun i _ => l.length - (intOf i).toNat)
        case atStart => exact ⟨0, 0, Nat.zero_le _, rfl, by simp, rfl⟩
        case round =>
          obtain ⟨k, q, hk, rfl, ht, rfl⟩ := hrel
          have HT : Hid (l.take k = m.take k) := ht
          clear ht
          by_cases hlt : k < l.length
          · have hlt' : k < m.length := by omega
            have hi1 : (k : Int) < (l.length : Int) := by omega
            have hi2 : (k : Int) < (m.length : Int) := by omega
            have c0 := hl k hlt
            have d0 := hl' k hlt'
            clear hl hl'
            obtain ⟨s, hs⟩ : ∃ s, s = l.getD k 0 := ⟨_, rfl⟩
            obtain ⟨t, ht⟩ : ∃ t, t = m.getD k 0 := ⟨_, rfl⟩
            rw [← hs] at c0
            rw [← ht] at d0
            have HS : Hid (s = l.getD k 0) := hs
            have HM : Hid (t = m.getD k 0) := ht
            clear hs ht
            by_cases hb : s = t
            · have HB : Hid (s = t) := hb
              have hbb : (s != t) = false := by simp [hb]
              clear hb
              go_wp2_with fail
              go_quiet (fail)
              go_wp2_with fail
              go_roundw
              case rel => exact ⟨k + 1, q + nq, by omega, by go_num, take_eq_int l m k hlt HL.out HT.out (by rw [← HS.out, ← HM.out]; exact HB.out), by first | rfl | rw [World.drewN_drewN]⟩
              case measure => simp [intOf]; omega
            · have HF : Hid (decide (l = m) = false) := decide_eq_false (fun e => hb (by rw [HS.out, HM.out, e]))
              have hbb : (s != t) = true := by simp [hb]
              clear hb
              go_wp2_with fail
              go_quiet (fail)
              go_wp2_with fail
              go_ret
              exact ⟨by rw [HF.out]; rfl, q + nq, by first | rfl | rw [World.drewN_drewN]⟩
          · go_wp2_with fail
            go_ret
            refine ⟨?_, q, rfl⟩
            have := HT.out
            rw [List.take_of_length_le (by omega), List.take_of_length_le (by omega)] at this
            rw [decide_eq_true this]; rfl
  · have hbq : ((l.length : Int) != (m.length : Int)) = true := by simp; omega
    rw [decide_eq_false (fun e => hlen (by rw [e]))]
    go_enter Try.func8, Try.ntmps8
    go_wp2_with fail
    go_ret
    exact ⟨rfl, 0, rfl⟩

theorem lmInts_same {a : Option Addr} {n cap : Nat} {l : List Int} {a' : Option Addr} {n' cap' : Nat} {w : World} (h : Ints w a n cap l) (h' : Ints w a' n' cap' l) :
    Calls Try.prog 8 #[.slice a n cap, .slice a' n' cap'] w fun e w' => e = .returned (.bool true) ∧ Below w.heap.size w w' := by
  refine (lmInts_any a n cap l a' n' cap' l w h h').mono ?_
  rintro e w' ⟨rfl, q, rfl⟩
  exact ⟨by simp, below_drewN (Below.refl _ _) _⟩

end Go.Proofs.Ytmemhmndfcdmbab
