import Derived.Test.YtmemhmndfcdmbabOwn
namespace Go.Proofs.Ytmemhmndfcdmbab
open Go.RowKit

theorem SignsAt.drop {w : World} {b off : Nat} {l : List Sg} (h : SignsAt w b off l) (k : Nat) : SignsAt w b (off + k * 3) (l.drop k) := by
  intro j hj
  have hj' : k + j < l.length := by simp at hj; omega
  have e : (l.drop k).getD j (0, 0, 0) = l.getD (k + j) (0, 0, 0) := by simp [List.getD]
  rw [e]
  have := h (k + j) hj'
  rw [show off + (k + j) * 3 = off + k * 3 + j * 3 by omega] at this
  exact this
theorem SignsAt.take {w : World} {b off : Nat} {l : List Sg} (h : SignsAt w b off l) (k : Nat) : SignsAt w b off (l.take k) := by
  intro j hj
  have hj' : j < l.length := by simp at hj; omega
  have hjk : j < k := by simp at hj; omega
  have e : (l.take k).getD j (0, 0, 0) = l.getD j (0, 0, 0) := by simp [List.getD, hjk]
  rw [e]
  exact h j hj'
theorem Txt.take {w : World} {a : Option Addr} {n cap : Nat} {l : List Sg} (h : Txt w a n cap l) (k : Nat) (hk : k ≤ n) : Txt w a k cap (l.take k) := by
  obtain ⟨h1, h2, h3, h4⟩ := h
  refine ⟨by simp; omega, by omega, h3, ?_⟩
  rcases h4 with rfl | ⟨b, off, h5, h6, h7⟩
  · exact .inl (by simp)
  · exact .inr ⟨b, off, h5, h6, h7.take k⟩
theorem Txt.drop {w : World} {a : Option Addr} {n cap : Nat} {l : List Sg} (h : Txt w a n cap l) (k : Nat) (hk : k ≤ n) : Txt w (Option.map (fun x => x.add (k * 3)) a) (n - k) (cap - k) (l.drop k) := by
  obtain ⟨h1, h2, h3, h4⟩ := h
  refine ⟨by simp; omega, by omega, by unfold maxLen at *; omega, ?_⟩
  rcases h4 with rfl | ⟨b, off, rfl, h6, h7⟩
  · exact .inl (by simp)
  · exact .inr ⟨b, off + k * 3, by simp [Addr.add_lit], h6, h7.drop k⟩
theorem Txt.dropEnd {w : World} {a : Option Addr} {n k : Nat} {l : List Sg} (h : Txt w a n k l) : Txt w a (n - k) 0 (l.drop k) := by
  obtain ⟨h1, h2, h3, h4⟩ := h
  have e : l.drop k = [] := List.drop_of_length_le (by omega)
  rw [e]
  exact ⟨by simp; omega, by omega, Nat.zero_le _, .inl rfl⟩
theorem textB_take {l : List Sg} (h : textB l = true) (k : Nat) : textB (l.take k) = true := by
  simp only [textB, Bool.and_eq_true, decide_eq_true_eq, List.all_eq_true] at h ⊢
  exact ⟨by have := h.1; simp; omega, fun s hs => h.2 s (List.mem_of_mem_take hs)⟩
theorem textB_drop {l : List Sg} (h : textB l = true) (k : Nat) : textB (l.drop k) = true := by
  simp only [textB, Bool.and_eq_true, decide_eq_true_eq, List.all_eq_true] at h ⊢
  exact ⟨by have := h.1; simp; omega, fun s hs => h.2 s (List.mem_of_mem_drop hs)⟩

end Go.Proofs.Ytmemhmndfcdmbab
