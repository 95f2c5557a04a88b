import Derived.Test.YtmemhmndfcdmbaaSpecNow
namespace Go.Proofs.Ytmemhmndfcdmbaa
open Go.RowKit

def tkL (who : Int) (l : List Sg) : List Sg := settleL (personN who) (outQ (personN who)) l
def dpL (who : Int) (l : List Sg) : List Sg := settleL (personN who) (inQ (personN who)) l

set_option maxHeartbeats 400000 in
theorem implTextTake_any (a : Option Addr) (n cap : Nat) (l : List Sg) (who : Int) (w : World) (h : Txt w a n cap l) :
    Calls Try.prog 31 #[.slice a n cap, .int .i64 who] w fun e w' => ∃ v, e = .returned v ∧ Own w' w.heap.size v (tkL who l) ∧ Below w.heap.size w w' := by
  have HH : Hid (Txt w a n cap l) := h
  clear h
  go_enter Try.func31, Try.ntmps31
  go_wp2_with fail
  refine (person_any _ _).mono ?_
  rintro e w0 ⟨rfl, rfl⟩
  go_wp2_with fail
  refine (settleOut_any a n cap l _ _ HH.out).mono ?_
  rintro e w1 ⟨v, rfl, ho1, hb1⟩
  obtain ⟨a1, c1, rfl, _⟩ := ho1.shape
  have HO : Hid (Own w1 w0.heap.size (.slice a1 (settleL (personN who) (outQ (personN who)) l).length c1) (tkL who l)) := ho1
  clear ho1
  go_wp2_with fail
  go_ret
  exact ⟨_, rfl, HO.out, hb1⟩

set_option maxHeartbeats 400000 in
theorem implTextDrop_any (a : Option Addr) (n cap : Nat) (l : List Sg) (who : Int) (w : World) (h : Txt w a n cap l) :
    Calls Try.prog 32 #[.slice a n cap, .int .i64 who] w fun e w' => ∃ v, e = .returned v ∧ Own w' w.heap.size v (dpL who l) ∧ Below w.heap.size w w' := by
  have HH : Hid (Txt w a n cap l) := h
  clear h
  go_enter Try.func32, Try.ntmps32
  go_wp2_with fail
  refine (person_any _ _).mono ?_
  rintro e w0 ⟨rfl, rfl⟩
  go_wp2_with fail
  refine (settleIn_any a n cap l _ _ HH.out).mono ?_
  rintro e w1 ⟨v, rfl, ho1, hb1⟩
  obtain ⟨a1, c1, rfl, _⟩ := ho1.shape
  have HO : Hid (Own w1 w0.heap.size (.slice a1 (settleL (personN who) (inQ (personN who)) l).length c1) (dpL who l)) := ho1
  clear ho1
  go_wp2_with fail
  go_ret
  exact ⟨_, rfl, HO.out, hb1⟩

/-- All taken, or dropped, up to person k - 1. -/
def allTo (take : Bool) (l : List Sg) : Nat → List Sg
  | 0 => l
  | k + 1 => if take then tkL (k + 1 : Nat) (allTo take l k) else dpL (k + 1 : Nat) (allTo take l k)

set_option maxHeartbeats 1000000 in
theorem lmAll_any (take : Bool) (a : Option Addr) (n cap : Nat) (l : List Sg) (w : World) (h : Txt w a n cap l) :
    Calls Try.prog 17 #[.slice a n cap, .bool take] w fun e w' => ∃ (a' : Option Addr) (n' c' : Nat), e = .returned (.slice a' n' c') ∧ Txt w' a' n' c' (allTo take l 3) ∧ Below w.heap.size w w' := by
  go_enter Try.func17, Try.ntmps17
  go_wp2_with fail
  go_loopw [0, 5] (fun v i wr => ∃ (k : Nat) (a : Option Addr) (m c : Nat), k ≤ 3 ∧ i = .int .i64 ((k : Int) + 1) ∧ v = .slice a m c ∧ Txt wr a m c (allTo take l k) ∧ Below w.heap.size w wr) (fun _ i _ => 4 - (intOf i).toNat)
  case atStart => exact ⟨0, a, n, cap, by omega, rfl, rfl, h, Below.refl _ _⟩
  case round =>
    obtain ⟨k, a, m, c, hk, rfl, rfl, ht, hbl⟩ := hrel
    have HT : Hid (Txt wr a m c (allTo take l k)) := ht
    have hsz := hbl.size
    clear ht h
    by_cases hlt : k = 3
    · subst hlt
      go_wp2_with fail
      go_ret
      exact ⟨a, m, c, rfl, HT.out, hbl⟩
    · cases take
      · go_wp2_with fail
        refine (implTextDrop_any a m c _ _ _ HT.out).mono ?_
        rintro e w1 ⟨v, rfl, ho1, hb1⟩
        obtain ⟨a1, c1, rfl, ht1⟩ := ho1.shape
        have HT1 : Hid (Txt w1 a1 (dpL ((k : Int) + 1) (allTo false l k)).length c1 (allTo false l (k + 1))) := ht1
        clear ho1 ht1
        go_wp2_with fail
        go_roundw
        case rel => exact ⟨k + 1, a1, _, c1, by omega, by go_num, rfl, HT1.out, hbl.trans (hb1.mono hsz)⟩
        case measure => simp [intOf]; omega
      · go_wp2_with fail
        refine (implTextTake_any a m c _ _ _ HT.out).mono ?_
        rintro e w1 ⟨v, rfl, ho1, hb1⟩
        obtain ⟨a1, c1, rfl, ht1⟩ := ho1.shape
        have HT1 : Hid (Txt w1 a1 (tkL ((k : Int) + 1) (allTo true l k)).length c1 (allTo true l (k + 1))) := ht1
        clear ho1 ht1
        go_wp2_with fail
        go_roundw
        case rel => exact ⟨k + 1, a1, _, c1, by omega, by go_num, rfl, HT1.out, hbl.trans (hb1.mono hsz)⟩
        case measure => simp [intOf]; omega

/-! Plain facts. -/
def stT (w : Int) (s : Sg) : Option Sg := if s.2.2 = w then none else some (s.1, if s.2.1 = w then 0 else s.2.1, if s.2.2 = w then 0 else s.2.2)
def stD (w : Int) (s : Sg) : Option Sg := if s.2.1 = w then none else some (s.1, if s.2.1 = w then 0 else s.2.1, if s.2.2 = w then 0 else s.2.2)

theorem hasB_one {w n : Int} (hw : w = 1 ∨ w = 2 ∨ w = 3) (hn : whoB n = true) : hasB (personN w) n = decide (n = w) := by
  simp [whoB] at hn
  rcases hw with rfl | rfl | rfl <;> rcases (show n = 0 ∨ n = 1 ∨ n = 2 ∨ n = 3 from by omega) with rfl | rfl | rfl | rfl <;> rfl

theorem tkL_eq {w : Int} (hw : w = 1 ∨ w = 2 ∨ w = 3) {l : List Sg} (h : textB l = true) : tkL w l = l.filterMap (stT w) := by
  unfold tkL settleL settled
  rw [h, if_pos rfl]
  have hs := textB_all h
  clear h
  induction l with
  | nil => rfl
  | cons s l ih =>
    obtain ⟨_, h1, h2, _⟩ := sgB_parts (hs s (by simp))
    have ih' := ih (fun t ht => hs t (by simp [ht]))
    by_cases hq : s.2.2 = w
    · rw [List.filter_cons_of_neg (by unfold outQ; rw [hasB_one hw h2]; simp [hq]), List.filterMap_cons_none (by simp [stT, hq])]
      exact ih'
    · rw [List.filter_cons_of_pos (by simp [outQ, hasB_one hw h2, hq]), List.map_cons, ih', List.filterMap_cons_some (b := (s.1, if s.2.1 = w then 0 else s.2.1, if s.2.2 = w then 0 else s.2.2)) (by simp [stT, hq])]
      simp [woN, hasB_one hw h1, hasB_one hw h2]
theorem dpL_eq {w : Int} (hw : w = 1 ∨ w = 2 ∨ w = 3) {l : List Sg} (h : textB l = true) : dpL w l = l.filterMap (stD w) := by
  unfold dpL settleL settled
  rw [h, if_pos rfl]
  have hs := textB_all h
  clear h
  induction l with
  | nil => rfl
  | cons s l ih =>
    obtain ⟨_, h1, h2, _⟩ := sgB_parts (hs s (by simp))
    have ih' := ih (fun t ht => hs t (by simp [ht]))
    by_cases hq : s.2.1 = w
    · rw [List.filter_cons_of_neg (by unfold inQ; rw [hasB_one hw h1]; simp [hq]), List.filterMap_cons_none (by simp [stD, hq])]
      exact ih'
    · rw [List.filter_cons_of_pos (by simp [inQ, hasB_one hw h1, hq]), List.map_cons, ih', List.filterMap_cons_some (b := (s.1, if s.2.1 = w then 0 else s.2.1, if s.2.2 = w then 0 else s.2.2)) (by simp [stD, hq])]
      simp [woN, hasB_one hw h1, hasB_one hw h2]

theorem sgB_mk {b i o : Int} (hb : byteB b = true) (hi : whoB i = true) (ho : whoB o = true) (h : o = 0 ∨ i ≠ o) : sgB (b, i, o) = true := by
  simp [sgB, signB, hb, hi, ho, h]
theorem who0 : whoB 0 = true := rfl
theorem textB_of_all {l : List Sg} (hl : l.length ≤ 24) (h : ∀ s ∈ l, sgB s = true) : textB l = true := by
  unfold textB
  rw [List.all_eq_true.2 h]
  simp [hl]
theorem sgB_stT {w : Int} {s t : Sg} (h : sgB s = true) (ht : stT w s = some t) : sgB t = true := by
  obtain ⟨hb, hi, ho, hn⟩ := sgB_parts h
  unfold stT at ht
  by_cases hq : s.2.2 = w
  · rw [if_pos hq] at ht; cases ht
  · rw [if_neg hq] at ht
    cases ht
    rw [if_neg hq]
    by_cases hp : s.2.1 = w
    · rw [if_pos hp]
      refine sgB_mk hb who0 ho ?_
      by_cases h0 : s.2.2 = 0
      · exact .inl h0
      · exact .inr (fun e => h0 e.symm)
    · rw [if_neg hp]; exact sgB_mk hb hi ho hn
theorem sgB_stD {w : Int} {s t : Sg} (h : sgB s = true) (ht : stD w s = some t) : sgB t = true := by
  obtain ⟨hb, hi, ho, hn⟩ := sgB_parts h
  unfold stD at ht
  by_cases hq : s.2.1 = w
  · rw [if_pos hq] at ht; cases ht
  · rw [if_neg hq] at ht
    cases ht
    rw [if_neg hq]
    by_cases hp : s.2.2 = w
    · rw [if_pos hp]; exact sgB_mk hb hi who0 (.inl rfl)
    · rw [if_neg hp]; exact sgB_mk hb hi ho hn
theorem textB_fm {f : Sg → Option Sg} (hf : ∀ s t, sgB s = true → f s = some t → sgB t = true) {l : List Sg} (h : textB l = true) : textB (l.filterMap f) = true := by
  refine textB_of_all (Nat.le_trans (List.length_filterMap_le _ _) (textB_len h)) ?_
  intro t ht
  obtain ⟨s, hs, e⟩ := List.mem_filterMap.1 ht
  exact hf s t (textB_all h s hs) e
theorem textB_tk {w : Int} (hw : w = 1 ∨ w = 2 ∨ w = 3) {l : List Sg} (h : textB l = true) : textB (tkL w l) = true := by
  rw [tkL_eq hw h]; exact textB_fm (fun _ _ => sgB_stT) h
theorem textB_dp {w : Int} (hw : w = 1 ∨ w = 2 ∨ w = 3) {l : List Sg} (h : textB l = true) : textB (dpL w l) = true := by
  rw [dpL_eq hw h]; exact textB_fm (fun _ _ => sgB_stD) h

theorem fm_congr {f g : Sg → Option Sg} {l : List Sg} (h : ∀ s ∈ l, f s = g s) : l.filterMap f = l.filterMap g := by
  induction l with
  | nil => rfl
  | cons s l ih =>
    have e := h s (by simp)
    have ih' := ih (fun t ht => h t (by simp [ht]))
    rw [List.filterMap_cons, List.filterMap_cons, e, ih']

def plainOut (s : Sg) : Option Sg := if s.2.2 = 0 then some (s.1, 0, 0) else none
def plainIn (s : Sg) : Option Sg := if s.2.1 = 0 then some (s.1, 0, 0) else none

theorem threeT {s : Sg} (h : sgB s = true) : ((stT 1 s).bind fun x => (stT 2 x).bind (stT 3)) = plainOut s := by
  obtain ⟨_, hi, ho, _⟩ := sgB_parts h
  obtain ⟨b, i, o⟩ := s
  simp [whoB] at hi ho
  rcases (show i = 0 ∨ i = 1 ∨ i = 2 ∨ i = 3 from by omega) with rfl | rfl | rfl | rfl <;> rcases (show o = 0 ∨ o = 1 ∨ o = 2 ∨ o = 3 from by omega) with rfl | rfl | rfl | rfl <;> rfl
theorem threeD {s : Sg} (h : sgB s = true) : ((stD 1 s).bind fun x => (stD 2 x).bind (stD 3)) = plainIn s := by
  obtain ⟨_, hi, ho, _⟩ := sgB_parts h
  obtain ⟨b, i, o⟩ := s
  simp [whoB] at hi ho
  rcases (show i = 0 ∨ i = 1 ∨ i = 2 ∨ i = 3 from by omega) with rfl | rfl | rfl | rfl <;> rcases (show o = 0 ∨ o = 1 ∨ o = 2 ∨ o = 3 from by omega) with rfl | rfl | rfl | rfl <;> rfl

theorem allTo_take {l : List Sg} (h : textB l = true) : allTo true l 3 = l.filterMap plainOut := by
  show tkL 3 (tkL 2 (tkL 1 l)) = _
  have h1 := textB_tk (.inl rfl) h
  have h2 := textB_tk (.inr (.inl rfl)) h1
  rw [tkL_eq (.inr (.inr rfl)) h2, tkL_eq (.inr (.inl rfl)) h1, tkL_eq (.inl rfl) h, List.filterMap_filterMap, List.filterMap_filterMap]
  exact fm_congr (fun s hs => threeT (textB_all h s hs))
theorem allTo_drop {l : List Sg} (h : textB l = true) : allTo false l 3 = l.filterMap plainIn := by
  show dpL 3 (dpL 2 (dpL 1 l)) = _
  have h1 := textB_dp (.inl rfl) h
  have h2 := textB_dp (.inr (.inl rfl)) h1
  rw [dpL_eq (.inr (.inr rfl)) h2, dpL_eq (.inr (.inl rfl)) h1, dpL_eq (.inl rfl) h, List.filterMap_filterMap, List.filterMap_filterMap]
  exact fm_congr (fun s hs => threeD (textB_all h s hs))
end Go.Proofs.Ytmemhmndfcdmbaa
