import Derived.Test.YtmemhmndfcdmbavBy
namespace Go.Proofs.Ytmemhmndfcdmbav
open Go.RowKit

def isBy (n : Int) (s : Sg) : Bool := s.2.1 == n || s.2.2 == n
def anyL (n : Int) (l : List Sg) : Bool := l.any (isBy n)
def byTo (l : List Sg) (k : Nat) : List Int := ((List.range (k - 1)).map fun i : Nat => ((i : Int) + 1)).filter (fun n => anyL n l)
def specByL (l : List Sg) : List Int := if textB l then byTo l 4 else []
theorem byTo_yes (l : List Sg) (k : Nat) (h1 : 1 ≤ k) (h : anyL (k : Int) l = true) : byTo l (k + 1) = byTo l k ++ [(k : Int)] := by
  unfold byTo
  obtain ⟨j, rfl⟩ : ∃ j, k = j + 1 := ⟨k - 1, by omega⟩
  rw [show j + 1 + 1 - 1 = j + 1 by omega, List.range_succ, List.map_append, List.filter_append]
  have h' : anyL ((j : Int) + 1) l = true := by simpa using h
  simp [h']
theorem byTo_no (l : List Sg) (k : Nat) (h1 : 1 ≤ k) (h : anyL (k : Int) l = false) : byTo l (k + 1) = byTo l k := by
  unfold byTo
  obtain ⟨j, rfl⟩ : ∃ j, k = j + 1 := ⟨k - 1, by omega⟩
  rw [show j + 1 + 1 - 1 = j + 1 by omega, List.range_succ, List.map_append, List.filter_append]
  have h' : anyL ((j : Int) + 1) l = false := by simpa using h
  simp [h']
theorem anyL_take_succ (n : Int) (l : List Sg) (k : Nat) (hk : k < l.length) : anyL n (l.take (k + 1)) = (anyL n (l.take k) || isBy n (l.getD k (0, 0, 0))) := by
  have e : l.getD k (0, 0, 0) = l[k] := by simp [List.getD, hk]
  rw [e]
  unfold anyL
  rw [List.take_succ_eq_append_getElem hk, List.any_append]
  simp
theorem OwnI.emptyNew (w : World) (B : Nat) (hB : B ≤ w.heap.size) : OwnI (w.alloc (.cells #[] 3)) B (.slice (some ⟨w.heap.size, 0, none⟩) 0 0) [] :=
  World.ownsRow_made w #[] 0 hB (Nat.zero_le _) rfl

set_option maxRecDepth 100000 in
set_option maxHeartbeats 2000000 in
theorem specTextBy_any (a : Option Addr) (n cap : Nat) (l : List Sg) (w : World) (h : Txt w a n cap l) :
    Calls Try.prog 8 #[.slice a n cap] w fun e w' => ∃ v, e = .returned v ∧ OwnI w' w.heap.size v (specByL l) ∧ Below w.heap.size w w' := by
  have HH : Hid (Txt w a n cap l) := h
  have hcap := h.2.1
  have hcm := h.2.2.1
  unfold maxLen at hcm
  have HL : Hid (n = l.length) := h.1
  obtain ⟨i0, hi, hz0, hz1, hz2⟩ := info_parts Try.info3
  cases htb : textB l
  · rw [show specByL l = [] from by simp [specByL, htb]]
    have HB : Hid (textB l = false) := htb
    clear h htb
    go_enter Try.func8, Try.ntmps8
    go_wp2_with fail
    refine wp_loop_rounds 1 ?_
    rw [rounds_succ]
    go_wp2_with fail
    refine (specTextOk_is (HH.out.below ((Below.refl _ _).alloc (Nat.le_refl _) _)) HB.out).mono ?_
    rintro e w1 ⟨rfl, hb1⟩
    have HO : Hid (OwnI w1 w.heap.size (.slice (some ⟨w.heap.size, 0, none⟩) 0 0) []) := (OwnI.emptyNew w w.heap.size (Nat.le_refl _)).below hb1
    go_wp2_with fail
    go_ret
    exact ⟨_, rfl, HO.out, ((Below.refl _ _).alloc (Nat.le_refl _) _).trans (hb1.mono (by simp))⟩
  · rw [show specByL l = byTo l 4 from by simp [specByL, htb]]
    have HB : Hid (textB l = true) := htb
    have hn24 : n ≤ 24 := by rw [HL.out]; exact textB_len htb
    clear h htb
    go_enter Try.func8, Try.ntmps8
    go_wp2_with fail
    go_loopw [3, 4] (fun v i wr => ∃ (k : Nat) (a' : Option Addr) (m c : Nat), 1 ≤ k ∧ k ≤ 4 ∧ i = .int .i64 (k : Int) ∧ v = .slice a' m c ∧ m ≤ k ∧ OwnI wr w.heap.size (.slice a' m c) (byTo l k) ∧ Below w.heap.size w wr) (fun _ i _ => 4 - (intOf i).toNat)
    case atStart => exact ⟨1, some ⟨w.heap.size, 0, none⟩, 0, 0, Nat.le_refl _, by omega, rfl, rfl, by omega, by simpa [byTo] using OwnI.emptyNew w w.heap.size (Nat.le_refl _), (Below.refl _ _).alloc (Nat.le_refl _) _⟩
    case round =>
      obtain ⟨k, a', m, c, hk1, hk4, rfl, rfl, hmk, ho, hbl⟩ := hrel
      have hsz := hbl.size
      have HO : Hid (OwnI wr w.heap.size (.slice a' m c) (byTo l k)) := ho
      clear ho
      by_cases hlt : k ≤ 3
      · go_wp2_with fail
        refine (specTextOk_is (HH.out.below hbl) HB.out).mono ?_
        rintro e w1 ⟨rfl, hb1⟩
        have s1 := hb1.size
        have hb01 := hbl.trans (hb1.mono hsz)
        have HO1 : Hid (OwnI w1 w.heap.size (.slice a' m c) (byTo l k)) := HO.out.below hb1
        have HT1 : Hid (Txt w1 a n cap l) := HH.out.below hb01
        go_wp2_with fail
        go_loop [5, 6] (fun sv i => ∃ j : Nat, j ≤ n ∧ i = .int .i64 (j : Int) ∧ sv = .bool (anyL (k : Int) (l.take j))) (fun _ i => n - (intOf i).toNat)
        case atStart => exact ⟨0, Nat.zero_le _, rfl, rfl⟩
        case round =>
          obtain ⟨j, hj, rfl, rfl⟩ := hrel
          by_cases hjn : j < n
          · have hjl : j < l.length := by rw [← HL.out]; exact hjn
            have HSu : Hid (anyL (k : Int) (l.take (j + 1)) = (anyL (k : Int) (l.take j) || isBy (k : Int) (l.getD j (0, 0, 0)))) := anyL_take_succ _ l j hjl
            rcases HT1.out.2.2.2 with hnil | ⟨b, off, rfl, hbw, hcells⟩
            · rw [hnil] at hjl; exact absurd hjl (by simp)
            · obtain ⟨c0, c1, c2⟩ := hcells j hjl
              clear hcells
              obtain ⟨s, hs⟩ : ∃ s, s = l.getD j (0, 0, 0) := ⟨_, rfl⟩
              rw [← hs] at c0 c1 c2
              have HSg : Hid (s = l.getD j (0, 0, 0)) := hs
              clear hs
              cases hb : anyL (k : Int) (l.take j)
              · cases h1 : (s.2.1 == (k : Int))
                · cases h2 : (s.2.2 == (k : Int))
                  · have HN : Hid (anyL (k : Int) (l.take (j + 1)) = false) := by show _ = _; rw [HSu.out, hb, ← HSg.out]; simp [isBy, h1, h2]
                    clear hb
                    go_wp2_with fail
                    go_round
                    case rel => exact ⟨j + 1, by omega, by go_num, by rw [HN.out]⟩
                    case measure => simp [intOf]; omega
                  · have HN : Hid (anyL (k : Int) (l.take (j + 1)) = true) := by show _ = _; rw [HSu.out, hb, ← HSg.out]; simp [isBy, h1, h2]
                    clear hb
                    go_wp2_with fail
                    go_round
                    case rel => exact ⟨j + 1, by omega, by go_num, by rw [HN.out]⟩
                    case measure => simp [intOf]; omega
                · have HN : Hid (anyL (k : Int) (l.take (j + 1)) = true) := by show _ = _; rw [HSu.out, hb, ← HSg.out]; simp [isBy, h1]
                  clear hb
                  go_wp2_with fail
                  go_round
                  case rel => exact ⟨j + 1, by omega, by go_num, by rw [HN.out]⟩
                  case measure => simp [intOf]; omega
              · have HN : Hid (anyL (k : Int) (l.take (j + 1)) = true) := by show _ = _; rw [HSu.out, hb]; simp
                clear hb
                go_wp2_with fail
                go_round
                case rel => exact ⟨j + 1, by omega, by go_num, by rw [HN.out]⟩
                case measure => simp [intOf]; omega
          · obtain rfl : j = n := by omega
            have eL : l.take j = l := List.take_of_length_le (by rw [← HL.out]; exact Nat.le_refl _)
            rw [eL]
            clear eL
            cases hb : anyL (k : Int) l
            · have HN : Hid (byTo l (k + 1) = byTo l k) := byTo_no l k hk1 hb
              clear hb
              go_wp2_with fail
              go_roundw
              case rel => exact ⟨k + 1, a', m, c, by omega, by omega, by go_num, rfl, by omega, by rw [HN.out]; exact HO1.out, hb01⟩
              case measure => simp [intOf]; omega
            · have HN : Hid (byTo l (k + 1) = byTo l k ++ [(k : Int)]) := byTo_yes l k hk1 hb
              clear hb
              go_wp2_with (at_builtin; refine wpList_append_own _ rfl (.tmp 42) (.tmp 44) 24 rfl w.heap.size 3 i0 (.int .i64 0) 1 8 Try.underlying24 hi hz0 hz1 hz2 rfl (by decide) (.slice a' m c) _ _ rfl (HO1.out.row.alloc _) ⟨_, 0, none⟩ 1 1 [.int .i64 (k : Int)] rfl rfl (cell_new1 _ _ _) (int_oneCell _) (by unfold maxLen; omega) (by omega) (by simp; omega) ?_; intro v' w2 hown' hgrow _)
              obtain ⟨a2, c2, rfl, ho2, hb2⟩ := ownI_step (x := (k : Int)) HO1.out hb01 (by omega) hown' hgrow
              rw [← HN.out] at ho2
              go_roundw
              case rel => exact ⟨k + 1, a2, m + 1, c2, by omega, by omega, by go_num, rfl, by omega, ho2, hb2⟩
              case measure => simp [intOf]; omega
      · obtain rfl : k = 4 := by omega
        go_wp2_with fail
        go_ret
        exact ⟨_, rfl, HO.out, hbl⟩
end Go.Proofs.Ytmemhmndfcdmbav
