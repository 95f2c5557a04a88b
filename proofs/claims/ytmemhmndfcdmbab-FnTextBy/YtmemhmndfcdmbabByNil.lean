import Derived.Test.YtmemhmndfcdmbabByFacts
import Derived.Test.YtmemhmndfcdmbabPicks
namespace Go.Proofs.Ytmemhmndfcdmbab
open Go.RowKit

/-- Nobody has suggested anything just if now is all, and as it was. -/
theorem by_nil {l : List Sg} (h : textB l = true) : decide (specByL l = []) = (decide (pickL noOut l = pickL noIn l) && decide ((pickL noOut l).length = l.length)) := by
  by_cases hz : ∀ s ∈ l, s.2.1 = 0 ∧ s.2.2 = 0
  · have e1 : l.filter noOut = l := by rw [List.filter_eq_self]; intro s hs; simp [noOut, (hz s hs).2]
    have e2 : l.filter noIn = l := by rw [List.filter_eq_self]; intro s hs; simp [noIn, (hz s hs).1]
    have e3 : specByL l = [] := by
      unfold specByL
      rw [h, if_pos rfl]
      unfold byTo
      rw [List.filter_eq_nil_iff]
      intro n hn
      obtain ⟨i, _, rfl⟩ := List.mem_map.1 hn
      intro ha
      obtain ⟨s, hs, hb⟩ := List.any_eq_true.1 ha
      have := hz s hs
      simp [isBy, this.1, this.2] at hb
      omega
    unfold pickL
    rw [e3, h, if_pos rfl, if_pos rfl, e1, e2]
    simp [bytesOf]
  · have hne : specByL l ≠ [] := by
      intro e
      apply hz
      intro s hs
      have hi := (sgB_parts (textB_all h s hs)).2.1
      have ho := (sgB_parts (textB_all h s hs)).2.2.1
      simp [whoB] at hi ho
      refine ⟨?_, ?_⟩
      · by_cases h0 : s.2.1 = 0
        · exact h0
        · have := in_by h hs (by omega)
          rw [e] at this
          simp at this
      · by_cases h0 : s.2.2 = 0
        · exact h0
        · have := out_by h hs (by omega)
          rw [e] at this
          simp at this
    rw [decide_eq_false hne]
    symm
    rw [Bool.and_eq_false_iff]
    by_cases hl : (pickL noOut l).length = l.length
    · left
      refine decide_eq_false (fun e => hz ?_)
      have hl2 : (pickL noIn l).length = l.length := by rw [← e]; exact hl
      unfold pickL at hl hl2
      rw [h, if_pos rfl] at hl hl2
      unfold bytesOf at hl hl2
      rw [List.length_map] at hl hl2
      have f1 := List.length_filter_eq_length_iff.1 hl
      have f2 := List.length_filter_eq_length_iff.1 hl2
      intro s hs
      have g1 := f1 s hs
      have g2 := f2 s hs
      simp [noOut, noIn] at g1 g2
      exact ⟨g2, g1⟩
    · right
      exact decide_eq_false hl
end Go.Proofs.Ytmemhmndfcdmbab
