import Derived.Test.YtmemhmndfcdmbabNow
namespace Go.Proofs.Ytmemhmndfcdmbab
open Go.RowKit

theorem hasB7 {n : Int} (h : whoB n = true) : hasB 7 n = !(n == 0) := by
  simp [whoB] at h
  rcases (show n = 0 ∨ n = 1 ∨ n = 2 ∨ n = 3 from by omega) with rfl | rfl | rfl | rfl <;> rfl
def noOut (s : Sg) : Bool := s.2.2 == 0
def noIn (s : Sg) : Bool := s.2.1 == 0
def pickL (q : Sg → Bool) (l : List Sg) : List Int := if textB l then bytesOf (l.filter q) else []

theorem filter_congr' {q r : Sg → Bool} {l : List Sg} (h : ∀ s ∈ l, q s = r s) : l.filter q = l.filter r := List.filter_congr h

theorem nowL_eq (l : List Sg) : nowL l = pickL noOut l := by
  unfold nowL pickL settleL
  cases h : textB l
  · rfl
  · simp only [if_true]
    have e : l.filter (outQ 7) = l.filter noOut := filter_congr' (fun s hs => by
      have := sgB_parts (textB_all h s hs)
      simp [outQ, noOut, hasB7 this.2.2.1])
    unfold settled bytesOf
    rw [e, List.map_map]
    rfl
theorem wasL_eq (l : List Sg) : wasL l = pickL noIn l := by
  unfold wasL pickL settleL
  cases h : textB l
  · rfl
  · simp only [if_true]
    have e : l.filter (inQ 7) = l.filter noIn := filter_congr' (fun s hs => by
      have := sgB_parts (textB_all h s hs)
      simp [inQ, noIn, hasB7 this.2.1])
    unfold settled bytesOf
    rw [e, List.map_map]
    rfl

theorem picked_yes (q : Sg → Bool) (l : List Sg) (k : Nat) (hk : k < l.length) (h : q (l.getD k (0, 0, 0)) = true) :
    bytesOf ((l.take (k + 1)).filter q) = bytesOf ((l.take k).filter q) ++ [(l.getD k (0, 0, 0)).1] := by
  have e : l.getD k (0, 0, 0) = l[k] := by simp [List.getD, hk]
  rw [e] at h ⊢
  unfold bytesOf
  rw [List.take_succ_eq_append_getElem hk, List.filter_append, List.map_append]
  simp [h]
theorem picked_no (q : Sg → Bool) (l : List Sg) (k : Nat) (hk : k < l.length) (h : q (l.getD k (0, 0, 0)) = false) :
    bytesOf ((l.take (k + 1)).filter q) = bytesOf ((l.take k).filter q) := by
  have e : l.getD k (0, 0, 0) = l[k] := by simp [List.getD, hk]
  rw [e] at h
  unfold bytesOf
  rw [List.take_succ_eq_append_getElem hk, List.filter_append, List.map_append]
  simp [h]

theorem implTextNow_is {a : Option Addr} {n cap : Nat} {l : List Sg} {w : World} (h : Txt w a n cap l) {S : ByteArray} (hS : strOfNums (pickL noOut l) = S) :
    Calls Try.prog 12 #[.slice a n cap] w fun e w' => e = .returned (.string S) ∧ Below w.heap.size w w' := by
  rw [← hS, ← nowL_eq]; exact implTextNow_any a n cap l w h

theorem implTextWas_is {a : Option Addr} {n cap : Nat} {l : List Sg} {w : World} (h : Txt w a n cap l) {S : ByteArray} (hS : strOfNums (pickL noIn l) = S) :
    Calls Try.prog 13 #[.slice a n cap] w fun e w' => e = .returned (.string S) ∧ Below w.heap.size w w' := by
  rw [← hS, ← wasL_eq]; exact implTextWas_any a n cap l w h

end Go.Proofs.Ytmemhmndfcdmbab
