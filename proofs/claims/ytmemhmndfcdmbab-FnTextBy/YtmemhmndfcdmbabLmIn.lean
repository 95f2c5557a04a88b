import Derived.Test.YtmemhmndfcdmbabByFacts
namespace Go.Proofs.Ytmemhmndfcdmbab
open Go.RowKit

set_option maxHeartbeats 1000000 in
theorem lmIn_yes {a : Option Addr} {n cap : Nat} {l : List Int} {x : Int} {w : World} (h : Ints w a n cap l) (hx : x ∈ l) :
    Calls Try.prog 11 #[.slice a n cap, .int .i64 x] w fun e w' => e = .returned (.bool true) ∧ w' = w := by
  obtain ⟨rfl, hc, hm, hl⟩ := h
  unfold maxLen at hm
  rcases hl with rfl | ⟨b, off, rfl, hbw, hl⟩
  · simp at hx
  · go_enter Try.func11, Try.ntmps11
    go_wp2_with fail
    go_loop [5] (fun i => ∃ k : Nat, k ≤ l.length ∧ i = .int .i64 (k : Int) ∧ x ∉ l.take k) (fun i => l.length - (intOf i).toNat)
    case atStart => exact ⟨0, Nat.zero_le _, rfl, by simp⟩
    case round =>
      obtain ⟨k, hk, rfl, hno⟩ := hrel
      have HN : Hid (x ∉ l.take k) := hno
      have HX : Hid (x ∈ l) := hx
      clear hno hx
      by_cases hlt : k < l.length
      · have c0 := hl k hlt
        clear hl
        obtain ⟨s, hs⟩ : ∃ s, s = l.getD k 0 := ⟨_, rfl⟩
        rw [← hs] at c0
        have HS : Hid (s = l.getD k 0) := hs
        clear hs
        by_cases hq : s = x
        · have hqb : (s == x) = true := by simp [hq]
          clear hq
          go_wp2_with fail
          go_ret
          exact ⟨rfl, rfl⟩
        · have hqb : (s == x) = false := by simp [hq]
          have HN2 : Hid (x ∉ l.take (k + 1)) := by
            show x ∉ l.take (k + 1)
            have e : s = l[k] := by rw [HS.out]; simp [List.getD, hlt]
            rw [List.take_succ_eq_append_getElem hlt, List.mem_append]
            rintro (h | h)
            · exact HN.out h
            · simp at h; exact hq (by rw [e, h])
          clear hq
          go_wp2_with fail
          go_round
          case rel => exact ⟨k + 1, by omega, by go_num, HN2.out⟩
          case measure => simp [intOf]; omega
      · exfalso
        have := HN.out
        rw [List.take_of_length_le (by omega)] at this
        exact this HX.out
end Go.Proofs.Ytmemhmndfcdmbab
