import Derived.Test.YtmemhmndfcdmbaaLm
import Derived.Test.YtmemhmndfcdmbaaTake
import Derived.Test.YtmemhmndfcdmbaaTextOf
import Derived.Test.YtmemhmndfcdmbaaDrawNow
import Derived.Test.YtmemhmndfcdmbaaDrawWas
namespace Go.Proofs.Ytmemhmndfcdmbaa
open Go.RowKit

theorem ofL_strOfNums (L : List Int) (h : ∀ n ∈ L, byteB n = true) : ofL (strOfNums L).data.toList = L.map (fun n => ((n, 0, 0) : Sg)) := by
  rw [strOfNums_data]
  unfold ofL
  rw [List.map_map]
  refine List.map_congr_left (fun n hn => ?_)
  have hb := h n hn
  simp [byteB] at hb
  show (((UInt8.ofNat n.toNat).toNat : Int), (0 : Int), (0 : Int)) = (n, 0, 0)
  rw [show (UInt8.ofNat n.toNat).toNat = n.toNat % 256 from UInt8.toNat_ofNat' ..]
  congr 1
  omega
theorem ofS_strOfNums (L : List Int) (hl : L.length ≤ 24) (h : ∀ n ∈ L, byteB n = true) : ofS (strOfNums L).data.toList = L.map (fun n => ((n, 0, 0) : Sg)) := by
  unfold ofS
  rw [ofL_strOfNums L h]
  have : textB (L.map (fun n => ((n, 0, 0) : Sg))) = true := by
    refine textB_of_all (by simpa using hl) ?_
    intro s hs
    obtain ⟨n, hn, rfl⟩ := List.mem_map.1 hs
    exact sgB_mk (h n hn) who0 who0 (.inl rfl)
  rw [this, if_pos rfl]
theorem pickL_mem {q : Sg → Bool} {l : List Sg} : ∀ n ∈ pickL q l, byteB n = true := by
  intro n hn
  unfold pickL at hn
  cases h : textB l
  · rw [h] at hn; simp at hn
  · rw [h, if_pos rfl] at hn
    obtain ⟨s, hs, rfl⟩ := List.mem_map.1 hn
    exact (sgB_parts (textB_all h s (List.mem_filter.1 hs).1)).1
theorem pickL_len {q : Sg → Bool} {l : List Sg} : (pickL q l).length ≤ l.length := by
  unfold pickL
  cases h : textB l
  · simp
  · rw [if_pos rfl]
    unfold bytesOf
    rw [List.length_map]
    exact List.length_filter_le _ _
theorem pickL_len24 {q : Sg → Bool} {l : List Sg} : (pickL q l).length ≤ 24 := by
  cases h : textB l
  · simp [pickL, h]
  · exact Nat.le_trans pickL_len (textB_len h)
theorem fm_plainOut (l : List Sg) : l.filterMap plainOut = (bytesOf (l.filter noOut)).map (fun n => ((n, 0, 0) : Sg)) := by
  induction l with
  | nil => rfl
  | cons s l ih =>
    by_cases h : s.2.2 = 0
    · rw [List.filterMap_cons_some (b := (s.1, 0, 0)) (by simp [plainOut, h]), List.filter_cons_of_pos (by simp [noOut, h]), ih]
      rfl
    · rw [List.filterMap_cons_none (by simp [plainOut, h]), List.filter_cons_of_neg (by simp [noOut, h]), ih]
theorem fm_plainIn (l : List Sg) : l.filterMap plainIn = (bytesOf (l.filter noIn)).map (fun n => ((n, 0, 0) : Sg)) := by
  induction l with
  | nil => rfl
  | cons s l ih =>
    by_cases h : s.2.1 = 0
    · rw [List.filterMap_cons_some (b := (s.1, 0, 0)) (by simp [plainIn, h]), List.filter_cons_of_pos (by simp [noIn, h]), ih]
      rfl
    · rw [List.filterMap_cons_none (by simp [plainIn, h]), List.filter_cons_of_neg (by simp [noIn, h]), ih]

theorem implTextNow_is {a : Option Addr} {n cap : Nat} {l : List Sg} {w : World} (h : Txt w a n cap l) {S : ByteArray} (hS : strOfNums (pickL noOut l) = S) :
    Calls Try.prog 11 #[.slice a n cap] w fun e w' => e = .returned (.string S) ∧ Below w.heap.size w w' := by
  rw [← hS, ← nowL_eq]; exact implTextNow_any a n cap l w h
theorem specTextNow_is {a : Option Addr} {n cap : Nat} {l : List Sg} {w : World} (h : Txt w a n cap l) {S : ByteArray} (hS : strOfNums (pickL noOut l) = S) :
    Calls Try.prog 15 #[.slice a n cap] w fun e w' => e = .returned (.string S) ∧ Below w.heap.size w w' := by
  rw [← hS]; exact specTextNow_any a n cap l w h

theorem implTextWas_is {a : Option Addr} {n cap : Nat} {l : List Sg} {w : World} (h : Txt w a n cap l) {S : ByteArray} (hS : strOfNums (pickL noIn l) = S) :
    Calls Try.prog 12 #[.slice a n cap] w fun e w' => e = .returned (.string S) ∧ Below w.heap.size w w' := by
  rw [← hS, ← wasL_eq]; exact implTextWas_any a n cap l w h
theorem specTextWas_is {a : Option Addr} {n cap : Nat} {l : List Sg} {w : World} (h : Txt w a n cap l) {S : ByteArray} (hS : strOfNums (pickL noIn l) = S) :
    Calls Try.prog 19 #[.slice a n cap] w fun e w' => e = .returned (.string S) ∧ Below w.heap.size w w' := by
  rw [← hS]; exact specTextWas_any a n cap l w h

end Go.Proofs.Ytmemhmndfcdmbaa
