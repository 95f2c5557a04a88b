import Derived.Test.YtmemhmndfcdmbabSpecBy
namespace Go.Proofs.Ytmemhmndfcdmbab
open Go.RowKit

/-- A slice value that reads as the ints l. -/
def Ints (w : World) (a : Option Addr) (n cap : Nat) (l : List Int) : Prop :=
  n = l.length ∧ n ≤ cap ∧ cap ≤ maxLen ∧ (l = [] ∨ ∃ b off, a = some ⟨b, off, none⟩ ∧ b < w.heap.size ∧ ∀ i, i < l.length → w.cell? ⟨b, off + i, none⟩ = some (.int .i64 (l.getD i 0)))
theorem Ints.below {w w' : World} {a : Option Addr} {n cap : Nat} {l : List Int} (h : Ints w a n cap l) (hb : Below w.heap.size w w') : Ints w' a n cap l := by
  obtain ⟨h1, h2, h3, h4⟩ := h
  refine ⟨h1, h2, h3, ?_⟩
  rcases h4 with h4 | ⟨b, off, h5, h6, h7⟩
  · exact .inl h4
  · exact .inr ⟨b, off, h5, Nat.lt_of_lt_of_le h6 hb.size, fun i hi => (hb.cell (p := ⟨b, _, none⟩) h6).trans (h7 i hi)⟩
theorem OwnI.ints {w : World} {B : Nat} {a : Option Addr} {n cap : Nat} {l : List Int} (h : OwnI w B (.slice a n cap) l) : Ints w a n cap l := by
  have hn := h.len
  have hr := h.row
  rcases hr.2 with ⟨hv, h0⟩ | ⟨g, cap', cur, hv, hB, hg, hnc, hcm, _⟩
  · simp only [Value.slice.injEq] at hv
    obtain ⟨rfl, rfl, rfl⟩ := hv
    exact ⟨hn, Nat.le_refl _, Nat.zero_le _, .inl (List.eq_nil_of_length_eq_zero hn.symm)⟩
  · simp only [Value.slice.injEq, true_and] at hv
    obtain ⟨rfl, rfl⟩ := hv
    refine ⟨hn, hnc, hcm, .inr ⟨g, 0, rfl, (Array.getElem?_eq_some_iff.1 hg).1, fun i hi => ?_⟩⟩
    rw [Nat.zero_add, hr.cellAt i (by omega), List.getElem?_map, List.getElem?_eq_getElem hi]
    simp [List.getD, hi]
theorem OwnI.shapeL {w : World} {B : Nat} {v : Value} {l : List Int} (h : OwnI w B v l) : ∃ a n cap, v = .slice a n cap ∧ n = l.length := by
  obtain ⟨a, cap, rfl⟩ := h.shape
  exact ⟨a, _, cap, rfl, rfl⟩

/-! Plain facts. -/
theorem hasB_or {m i o n : Int} (hm : 0 ≤ m ∧ m ≤ 7) (hi : whoB i = true) (ho : whoB o = true) (hn : n = 1 ∨ n = 2 ∨ n = 3) :
    hasB (orB m (orB (personN i) (personN o))) n = (hasB m n || (i == n || o == n)) ∧ 0 ≤ orB m (orB (personN i) (personN o)) ∧ orB m (orB (personN i) (personN o)) ≤ 7 := by
  simp [whoB] at hi ho
  rcases (show m = 0 ∨ m = 1 ∨ m = 2 ∨ m = 3 ∨ m = 4 ∨ m = 5 ∨ m = 6 ∨ m = 7 from by omega) with rfl | rfl | rfl | rfl | rfl | rfl | rfl | rfl <;>
  rcases (show i = 0 ∨ i = 1 ∨ i = 2 ∨ i = 3 from by omega) with rfl | rfl | rfl | rfl <;>
  rcases (show o = 0 ∨ o = 1 ∨ o = 2 ∨ o = 3 from by omega) with rfl | rfl | rfl | rfl <;>
  rcases hn with rfl | rfl | rfl <;> exact ⟨by decide, by decide, by decide⟩

theorem mask_fold (l : List Sg) (hs : ∀ s ∈ l, sgB s = true) : ∀ m : Int, 0 ≤ m ∧ m ≤ 7 → ∀ n : Int, n = 1 ∨ n = 2 ∨ n = 3 →
    hasB (l.foldl (fun m s => orB m (orB (personN s.2.1) (personN s.2.2))) m) n = (hasB m n || anyL n l) := by
  induction l with
  | nil => intro m _ n _; simp [anyL]
  | cons s l ih =>
    intro m hm n hn
    obtain ⟨_, hi, ho, _⟩ := sgB_parts (hs s (by simp))
    obtain ⟨e, h0, h7⟩ := hasB_or hm hi ho hn
    rw [List.foldl_cons, ih (fun t ht => hs t (by simp [ht])) _ ⟨h0, h7⟩ n hn, e]
    simp [anyL, isBy, Bool.or_assoc]
theorem hasB_zero (n : Int) : hasB 0 n = false := by
  unfold hasB
  have : bits BinOp.and IntKind.u8 0 (personN n) = 0 := by
    unfold personN
    split
    · rfl
    · split
      · rfl
      · split <;> rfl
  rw [this]
  rfl
theorem mask_has {l : List Sg} (h : textB l = true) {n : Int} (hn : n = 1 ∨ n = 2 ∨ n = 3) : hasB (maskL l) n = anyL n l := by
  unfold maskL
  rw [mask_fold l (textB_all h) 0 ⟨by decide, by decide⟩ n hn, hasB_zero]
  rfl
theorem by_eq (l : List Sg) : byL l = specByL l := by
  unfold byL specByL
  cases h : textB l
  · rfl
  · rw [if_pos rfl, if_pos rfl]
    unfold peopleL listTo byTo
    refine List.filter_congr (fun n hn => ?_)
    have : n = 1 ∨ n = 2 ∨ n = 3 := by
      obtain ⟨i, hi, rfl⟩ := List.mem_map.1 hn
      have := List.mem_range.1 hi
      omega
    exact mask_has h this

theorem mem_by {l : List Sg} (h : textB l = true) {n : Int} (hn : n = 1 ∨ n = 2 ∨ n = 3) (ha : anyL n l = true) : n ∈ specByL l := by
  unfold specByL
  rw [h, if_pos rfl]
  unfold byTo
  refine List.mem_filter.2 ⟨?_, ha⟩
  rcases hn with rfl | rfl | rfl
  · exact List.mem_map.2 ⟨0, by decide, rfl⟩
  · exact List.mem_map.2 ⟨1, by decide, rfl⟩
  · exact List.mem_map.2 ⟨2, by decide, rfl⟩
theorem in_by {l : List Sg} (h : textB l = true) {s : Sg} (hs : s ∈ l) (h0 : 0 < s.2.1) : s.2.1 ∈ specByL l := by
  have hw := (sgB_parts (textB_all h s hs)).2.1
  simp [whoB] at hw
  exact mem_by h (by omega) (List.any_eq_true.2 ⟨s, hs, by simp [isBy]⟩)
theorem out_by {l : List Sg} (h : textB l = true) {s : Sg} (hs : s ∈ l) (h0 : 0 < s.2.2) : s.2.2 ∈ specByL l := by
  have hw := (sgB_parts (textB_all h s hs)).2.2.1
  simp [whoB] at hw
  exact mem_by h (by omega) (List.any_eq_true.2 ⟨s, hs, by simp [isBy]⟩)
theorem by_le (l : List Sg) : (specByL l).length ≤ 3 := by
  unfold specByL
  cases textB l
  · simp
  · rw [if_pos rfl]
    unfold byTo
    refine Nat.le_trans (List.length_filter_le _ _) ?_
    decide
theorem by_asc (l : List Sg) : ∀ i, i + 1 < (specByL l).length → (specByL l).getD i 0 < (specByL l).getD (i + 1) 0 := by
  unfold specByL
  cases textB l
  · intro i hi; simp at hi
  · rw [if_pos rfl]
    have e : byTo l 4 = ([1, 2, 3] : List Int).filter (fun n => anyL n l) := rfl
    rw [e]
    cases h1 : anyL 1 l <;> cases h2 : anyL 2 l <;> cases h3 : anyL 3 l <;> simp only [List.filter_cons, List.filter_nil, h1, h2, h3, if_true, Bool.false_eq_true, if_false] <;> intro i hi <;> (have hi' := hi; simp at hi') <;> (first | omega | (rcases (show i = 0 ∨ i = 1 from by omega) with rfl | rfl <;> first | decide | (exfalso; simp at hi)))

end Go.Proofs.Ytmemhmndfcdmbab
