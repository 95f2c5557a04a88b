import Derived.Test.YtmemhmndfcdmbabPeople
import Derived.Deep.RegionHeld3
import Derived.Deep.AppendLies
namespace Go.Proofs.Ytmemhmndfcdmbab
open Go.RowKit

set_option maxHeartbeats 400000 in
theorem without_any (p n : Int) (w : World) :
    Calls Try.prog 34 #[.int .u8 p, .int .i64 n] w fun e w' => e = .returned (.int .i64 (woN p n)) ∧ w' = w := by
  cases h : hasB p n
  · rw [show woN p n = n from by simp [woN, h]]
    go_enter Try.func34, Try.ntmps34
    go_wp2_with (go_at_call 32; refine (has_is h _).mono ?_; rintro e w' ⟨rfl, rfl⟩)
    go_ret
    exact ⟨rfl, rfl⟩
  · rw [show woN p n = 0 from by simp [woN, h]]
    go_enter Try.func34, Try.ntmps34
    go_wp2_with (go_at_call 32; refine (has_is h _).mono ?_; rintro e w' ⟨rfl, rfl⟩)
    go_ret
    exact ⟨rfl, rfl⟩

set_option maxHeartbeats 400000 in
theorem notTakenOut_any (b i o p : Int) (w : World) :
    Calls Try.prog 25 #[.agg #[.int .u8 b, .int .i64 i, .int .i64 o], .int .u8 p] w fun e w' => e = .returned (.bool (!hasB p o)) ∧ Below w.heap.size w w' := by
  go_enter Try.func25, Try.ntmps25
  go_wp2_with (go_at_call 32; refine (has_any _ _ _).mono ?_; rintro e w' ⟨rfl, rfl⟩)
  go_ret
  exact ⟨rfl, (Below.refl _ _).alloc (Nat.le_refl _) _⟩

set_option maxHeartbeats 400000 in
theorem notPutIn_any (b i o p : Int) (w : World) :
    Calls Try.prog 26 #[.agg #[.int .u8 b, .int .i64 i, .int .i64 o], .int .u8 p] w fun e w' => e = .returned (.bool (!hasB p i)) ∧ Below w.heap.size w w' := by
  go_enter Try.func26, Try.ntmps26
  go_wp2_with (go_at_call 32; refine (has_any _ _ _).mono ?_; rintro e w' ⟨rfl, rfl⟩)
  go_ret
  exact ⟨rfl, (Below.refl _ _).alloc (Nat.le_refl _) _⟩

/-- What stays, and how. -/
def settled (p : Int) (q : Sg → Bool) (l : List Sg) : List Sg := (l.filter q).map fun s => (s.1, woN p s.2.1, woN p s.2.2)
def outQ (p : Int) (s : Sg) : Bool := !hasB p s.2.2
def inQ (p : Int) (s : Sg) : Bool := !hasB p s.2.1
def settleL (p : Int) (q : Sg → Bool) (l : List Sg) : List Sg := if textB l then settled p q l else []

theorem settled_take_yes (p : Int) (q : Sg → Bool) (l : List Sg) (k : Nat) (hk : k < l.length) (h : q (l.getD k (0, 0, 0)) = true) :
    settled p q (l.take (k + 1)) = settled p q (l.take k) ++ [((l.getD k (0, 0, 0)).1, woN p (l.getD k (0, 0, 0)).2.1, woN p (l.getD k (0, 0, 0)).2.2)] := by
  have e : l.getD k (0, 0, 0) = l[k] := by simp [List.getD, hk]
  rw [e] at h ⊢
  unfold settled
  rw [List.take_succ_eq_append_getElem hk, List.filter_append, List.map_append]
  simp [h]
theorem settled_take_no (p : Int) (q : Sg → Bool) (l : List Sg) (k : Nat) (hk : k < l.length) (h : q (l.getD k (0, 0, 0)) = false) :
    settled p q (l.take (k + 1)) = settled p q (l.take k) := by
  have e : l.getD k (0, 0, 0) = l[k] := by simp [List.getD, hk]
  rw [e] at h
  unfold settled
  rw [List.take_succ_eq_append_getElem hk, List.filter_append, List.map_append]
  simp [h]
theorem settled_len (p : Int) (q : Sg → Bool) (l : List Sg) : (settled p q l).length ≤ l.length := by
  simp only [settled, List.length_map]
  exact List.length_filter_le _ _
theorem notTakenOut_is {s : Sg} {p : Int} {x : Bool} (h : outQ p s = x) (w : World) :
    Calls Try.prog 25 #[.agg #[.int .u8 s.1, .int .i64 s.2.1, .int .i64 s.2.2], .int .u8 p] w fun e w' => e = .returned (.bool x) ∧ Below w.heap.size w w' := h ▸ notTakenOut_any s.1 s.2.1 s.2.2 p w
theorem notPutIn_is {s : Sg} {p : Int} {x : Bool} (h : inQ p s = x) (w : World) :
    Calls Try.prog 26 #[.agg #[.int .u8 s.1, .int .i64 s.2.1, .int .i64 s.2.2], .int .u8 p] w fun e w' => e = .returned (.bool x) ∧ Below w.heap.size w w' := h ▸ notPutIn_any s.1 s.2.1 s.2.2 p w

set_option maxRecDepth 100000 in
set_option maxHeartbeats 2000000 in
theorem settleOut_any (a : Option Addr) (n cap : Nat) (l : List Sg) (p : Int) (w : World) (h : Txt w a n cap l) :
    Calls Try.prog 24 #[.slice a n cap, .int .u8 p, .func (.func 25) #[] #[]] w fun e w' => ∃ v, e = .returned v ∧ Own w' w.heap.size v (settleL p (outQ p) l) ∧ Below w.heap.size w w' := by
  have h0 := h
  obtain ⟨rfl, hc, hm, hl⟩ := h
  unfold maxLen at hm
  cases htb : textB l
  · rw [show settleL p (outQ p) l = [] from by simp [settleL, htb]]
    have HH : Hid (Txt w a l.length cap l) := h0
    clear h0 hl
    go_enter Try.func24, Try.ntmps24
    go_wp2_with (go_at_call 17; refine (implTextOk_is HH.out htb).mono ?_; rintro e w1 ⟨rfl, hb1⟩)
    go_ret
    exact ⟨_, rfl, Own.nil _ _, hb1⟩
  · rw [show settleL p (outQ p) l = settled p (outQ p) l from by simp [settleL, htb]]
    have HH : Hid (Txt w a l.length cap l) := h0
    have h24 := textB_len htb
    obtain ⟨i0, hi, hz0, hz1, hz2⟩ := info_parts Try.info30
    clear h0
    rcases hl with rfl | ⟨b, off, rfl, hbw, hl⟩
    · go_enter Try.func24, Try.ntmps24
      go_wp2_with (go_at_call 17; refine (implTextOk_is HH.out htb).mono ?_; rintro e w1 ⟨rfl, hb1⟩)
      refine wp_loop_rounds 1 ?_
      rw [rounds_succ]
      go_wp2_with fail
      go_ret
      exact ⟨_, rfl, by simpa [settled] using Own.nil _ _, hb1⟩
    · go_enter Try.func24, Try.ntmps24
      go_wp2_with (go_at_call 17; refine (implTextOk_is HH.out htb).mono ?_; rintro e w1 ⟨rfl, hb1⟩)
      have s1 := hb1.size
      go_loopw [7, 15] (fun v i wr => ∃ (k : Nat) (a : Option Addr) (m c : Nat), k ≤ l.length ∧ i = .int .i64 k ∧ v = .slice a m c ∧ m ≤ k ∧ Own wr w.heap.size (.slice a m c) (settled p (outQ p) (l.take k)) ∧ Below w.heap.size w wr) (fun _ i _ => l.length - (intOf i).toNat)
      case atStart => exact ⟨0, none, 0, 0, Nat.zero_le _, rfl, rfl, Nat.le_refl _, by simpa [settled] using Own.nil _ _, hb1⟩
      case round =>
        obtain ⟨k, a, m, c, hk, rfl, rfl, hmk, ho, hbl⟩ := hrel
        have hsz := hbl.size
        have HO : Hid (Own wr w.heap.size (.slice a m c) (settled p (outQ p) (l.take k))) := ho
        clear ho hb1 s1 htb
        by_cases hlt : k < l.length
        · obtain ⟨c0, c1, c2⟩ := (hl.below hbl hbw) k hlt
          clear hl
          obtain ⟨s, hs⟩ : ∃ s, s = l.getD k (0, 0, 0) := ⟨_, rfl⟩
          rw [← hs] at c0 c1 c2
          have HS : Hid (s = l.getD k (0, 0, 0)) := hs
          clear hs
          cases hq : outQ p s
          · have HQ : Hid (outQ p s = false) := hq
            clear hq
            go_wp2_with (go_at_call 25; refine (notTakenOut_is (s := s) HQ.out _).mono ?_; rintro e w2 ⟨rfl, hb2⟩)
            have ho2 : Own w2 w.heap.size (.slice a m c) (settled p (outQ p) (l.take (k + 1))) := by
              rw [settled_take_no p (outQ p) l k hlt (by rw [← HS.out]; exact HQ.out)]
              exact Own.below (Own.alloc HO.out _) hb2
            go_roundw
            case rel => exact ⟨k + 1, a, m, c, by omega, by go_num, rfl, by omega, ho2, (hbl.alloc hsz _).trans (hb2.mono (by simp; omega))⟩
            case measure => simp [intOf]; omega
          · have HQ : Hid (outQ p s = true) := hq
            clear hq
            go_wp2_with (go_at_call 25; refine (notTakenOut_is (s := s) HQ.out _).mono ?_; rintro e w2 ⟨rfl, hb2⟩)
            have z2 := hb2.size
            simp only [World.size_alloc] at z2
            have ag : (Value.slice a m c).ownBlock ≠ some wr.heap.size := fun e => by have := (HO.out.row.lt _ e).2; omega
            have d0 : w2.cell? ⟨wr.heap.size, 0, none⟩ = some (.int .u8 s.1) := (hb2.cell (p := ⟨wr.heap.size, 0, none⟩) (by simp)).trans (by simp)
            have d1 : w2.cell? ⟨wr.heap.size, 1, none⟩ = some (.int .i64 s.2.1) := (hb2.cell (p := ⟨wr.heap.size, 1, none⟩) (by simp)).trans (by simp)
            have d2 : w2.cell? ⟨wr.heap.size, 2, none⟩ = some (.int .i64 s.2.2) := (hb2.cell (p := ⟨wr.heap.size, 2, none⟩) (by simp)).trans (by simp)
            have HO2 : Hid (Own w2 w.heap.size (.slice a m c) (settled p (outQ p) (l.take k))) := Own.below (Own.alloc HO.out _) hb2
            clear c0 c1 c2
            go_region_held3 (fun w' => w'.cell? ⟨wr.heap.size, 0, none⟩ = some (.int .u8 s.1) ∧ w'.cell? ⟨wr.heap.size, 1, none⟩ = some (.int .i64 s.2.1) ∧ w'.cell? ⟨wr.heap.size, 2, none⟩ = some (.int .i64 s.2.2))
              (first
                | go_keep
                | (go_split_ands
                   refine ⟨?_, ?_, ?_⟩
                   · (rw [hgrow.cell_far _ (by simp; omega) (Ne.symm ag)]; assumption)
                   · (rw [hgrow.cell_far _ (by simp; omega) (Ne.symm ag)]; assumption)
                   · (rw [hgrow.cell_far _ (by simp; omega) (Ne.symm ag)]; assumption)))
              ((first
                | (go_at_call 34; refine (without_any _ _ _).mono ?_; rintro e w' ⟨rfl, rfl⟩)
                | (refine step_append_lies _ (by rfl) _ _ _ (by rfl) w.heap.size 30 i0 _ 3 24 Try.underlying23 hi hz0 hz1 hz2 rfl (by omega) (.slice a m c) m (flat (settled p (outQ p) (l.take k))) (by rfl) ((HO2.out.row.alloc _).drew) ⟨w2.heap.size, 0, none⟩ 1 1 [.int .u8 s.1, .int .i64 (woN p s.2.1), .int .i64 (woN p s.2.2)] (by rfl) (by rfl) (World.news_of_block (cs := #[.int .u8 s.1, .int .i64 (woN p s.2.1), .int .i64 (woN p s.2.2)]) (t := 30) (fr := (0, 0)) (heap_alloc_new w2 _)) (three_oneCell _ _ _) (by omega) (by unfold maxLen; omega) (by omega) (by simp; omega) (w2.heap.size + 1) (by simp) ?_; intro gg cc w3 hown3 hgrow hat hltg)))
            obtain ⟨a', c', hv, ho3, hb3⟩ := own_step (s := (s.1, woN p s.2.1, woN p s.2.2)) HO2.out ((hbl.alloc hsz _).trans (hb2.mono (by simp; omega))) (by omega) hown3 (grown_of_drew hgrow)
            have ho3' : Own w3 w.heap.size (.slice a' (m + 1) c') (settled p (outQ p) (l.take (k + 1))) := by
              rw [settled_take_yes p (outQ p) l k hlt (by rw [← HS.out]; exact HQ.out), ← HS.out]
              exact ho3
            have HV : Hid (Value.slice (some ⟨gg, 0, none⟩) (m + 1) cc = .slice a' (m + 1) c') := hv
            have HO3 : Hid (Own w3 w.heap.size (.slice a' (m + 1) c') (settled p (outQ p) (l.take (k + 1)))) := ho3'
            clear hv ho3 ho3' hown3 hgrow hat
            go_wp2_with fail
            go_roundw
            case rel => exact ⟨k + 1, a', m + 1, c', by omega, by go_num, HV.out, by omega, HO3.out, hb3⟩
            case measure => simp [intOf]; omega
        · obtain rfl : k = l.length := by omega
          have ho := HO.out
          rw [List.take_of_length_le (Nat.le_refl _)] at ho
          go_wp2_with fail
          go_ret
          exact ⟨_, rfl, ho, hbl⟩

set_option maxRecDepth 100000 in
set_option maxHeartbeats 2000000 in
theorem settleIn_any (a : Option Addr) (n cap : Nat) (l : List Sg) (p : Int) (w : World) (h : Txt w a n cap l) :
    Calls Try.prog 24 #[.slice a n cap, .int .u8 p, .func (.func 26) #[] #[]] w fun e w' => ∃ v, e = .returned v ∧ Own w' w.heap.size v (settleL p (inQ p) l) ∧ Below w.heap.size w w' := by
  have h0 := h
  obtain ⟨rfl, hc, hm, hl⟩ := h
  unfold maxLen at hm
  cases htb : textB l
  · rw [show settleL p (inQ p) l = [] from by simp [settleL, htb]]
    have HH : Hid (Txt w a l.length cap l) := h0
    clear h0 hl
    go_enter Try.func24, Try.ntmps24
    go_wp2_with (go_at_call 17; refine (implTextOk_is HH.out htb).mono ?_; rintro e w1 ⟨rfl, hb1⟩)
    go_ret
    exact ⟨_, rfl, Own.nil _ _, hb1⟩
  · rw [show settleL p (inQ p) l = settled p (inQ p) l from by simp [settleL, htb]]
    have HH : Hid (Txt w a l.length cap l) := h0
    have h24 := textB_len htb
    obtain ⟨i0, hi, hz0, hz1, hz2⟩ := info_parts Try.info30
    clear h0
    rcases hl with rfl | ⟨b, off, rfl, hbw, hl⟩
    · go_enter Try.func24, Try.ntmps24
      go_wp2_with (go_at_call 17; refine (implTextOk_is HH.out htb).mono ?_; rintro e w1 ⟨rfl, hb1⟩)
      refine wp_loop_rounds 1 ?_
      rw [rounds_succ]
      go_wp2_with fail
      go_ret
      exact ⟨_, rfl, by simpa [settled] using Own.nil _ _, hb1⟩
    · go_enter Try.func24, Try.ntmps24
      go_wp2_with (go_at_call 17; refine (implTextOk_is HH.out htb).mono ?_; rintro e w1 ⟨rfl, hb1⟩)
      have s1 := hb1.size
      go_loopw [7, 15] (fun v i wr => ∃ (k : Nat) (a : Option Addr) (m c : Nat), k ≤ l.length ∧ i = .int .i64 k ∧ v = .slice a m c ∧ m ≤ k ∧ Own wr w.heap.size (.slice a m c) (settled p (inQ p) (l.take k)) ∧ Below w.heap.size w wr) (fun _ i _ => l.length - (intOf i).toNat)
      case atStart => exact ⟨0, none, 0, 0, Nat.zero_le _, rfl, rfl, Nat.le_refl _, by simpa [settled] using Own.nil _ _, hb1⟩
      case round =>
        obtain ⟨k, a, m, c, hk, rfl, rfl, hmk, ho, hbl⟩ := hrel
        have hsz := hbl.size
        have HO : Hid (Own wr w.heap.size (.slice a m c) (settled p (inQ p) (l.take k))) := ho
        clear ho hb1 s1 htb
        by_cases hlt : k < l.length
        · obtain ⟨c0, c1, c2⟩ := (hl.below hbl hbw) k hlt
          clear hl
          obtain ⟨s, hs⟩ : ∃ s, s = l.getD k (0, 0, 0) := ⟨_, rfl⟩
          rw [← hs] at c0 c1 c2
          have HS : Hid (s = l.getD k (0, 0, 0)) := hs
          clear hs
          cases hq : inQ p s
          · have HQ : Hid (inQ p s = false) := hq
            clear hq
            go_wp2_with (go_at_call 26; refine (notPutIn_is (s := s) HQ.out _).mono ?_; rintro e w2 ⟨rfl, hb2⟩)
            have ho2 : Own w2 w.heap.size (.slice a m c) (settled p (inQ p) (l.take (k + 1))) := by
              rw [settled_take_no p (inQ p) l k hlt (by rw [← HS.out]; exact HQ.out)]
              exact Own.below (Own.alloc HO.out _) hb2
            go_roundw
            case rel => exact ⟨k + 1, a, m, c, by omega, by go_num, rfl, by omega, ho2, (hbl.alloc hsz _).trans (hb2.mono (by simp; omega))⟩
            case measure => simp [intOf]; omega
          · have HQ : Hid (inQ p s = true) := hq
            clear hq
            go_wp2_with (go_at_call 26; refine (notPutIn_is (s := s) HQ.out _).mono ?_; rintro e w2 ⟨rfl, hb2⟩)
            have z2 := hb2.size
            simp only [World.size_alloc] at z2
            have ag : (Value.slice a m c).ownBlock ≠ some wr.heap.size := fun e => by have := (HO.out.row.lt _ e).2; omega
            have d0 : w2.cell? ⟨wr.heap.size, 0, none⟩ = some (.int .u8 s.1) := (hb2.cell (p := ⟨wr.heap.size, 0, none⟩) (by simp)).trans (by simp)
            have d1 : w2.cell? ⟨wr.heap.size, 1, none⟩ = some (.int .i64 s.2.1) := (hb2.cell (p := ⟨wr.heap.size, 1, none⟩) (by simp)).trans (by simp)
            have d2 : w2.cell? ⟨wr.heap.size, 2, none⟩ = some (.int .i64 s.2.2) := (hb2.cell (p := ⟨wr.heap.size, 2, none⟩) (by simp)).trans (by simp)
            have HO2 : Hid (Own w2 w.heap.size (.slice a m c) (settled p (inQ p) (l.take k))) := Own.below (Own.alloc HO.out _) hb2
            clear c0 c1 c2
            go_region_held3 (fun w' => w'.cell? ⟨wr.heap.size, 0, none⟩ = some (.int .u8 s.1) ∧ w'.cell? ⟨wr.heap.size, 1, none⟩ = some (.int .i64 s.2.1) ∧ w'.cell? ⟨wr.heap.size, 2, none⟩ = some (.int .i64 s.2.2))
              (first
                | go_keep
                | (go_split_ands
                   refine ⟨?_, ?_, ?_⟩
                   · (rw [hgrow.cell_far _ (by simp; omega) (Ne.symm ag)]; assumption)
                   · (rw [hgrow.cell_far _ (by simp; omega) (Ne.symm ag)]; assumption)
                   · (rw [hgrow.cell_far _ (by simp; omega) (Ne.symm ag)]; assumption)))
              ((first
                | (go_at_call 34; refine (without_any _ _ _).mono ?_; rintro e w' ⟨rfl, rfl⟩)
                | (refine step_append_lies _ (by rfl) _ _ _ (by rfl) w.heap.size 30 i0 _ 3 24 Try.underlying23 hi hz0 hz1 hz2 rfl (by omega) (.slice a m c) m (flat (settled p (inQ p) (l.take k))) (by rfl) ((HO2.out.row.alloc _).drew) ⟨w2.heap.size, 0, none⟩ 1 1 [.int .u8 s.1, .int .i64 (woN p s.2.1), .int .i64 (woN p s.2.2)] (by rfl) (by rfl) (World.news_of_block (cs := #[.int .u8 s.1, .int .i64 (woN p s.2.1), .int .i64 (woN p s.2.2)]) (t := 30) (fr := (0, 0)) (heap_alloc_new w2 _)) (three_oneCell _ _ _) (by omega) (by unfold maxLen; omega) (by omega) (by simp; omega) (w2.heap.size + 1) (by simp) ?_; intro gg cc w3 hown3 hgrow hat hltg)))
            obtain ⟨a', c', hv, ho3, hb3⟩ := own_step (s := (s.1, woN p s.2.1, woN p s.2.2)) HO2.out ((hbl.alloc hsz _).trans (hb2.mono (by simp; omega))) (by omega) hown3 (grown_of_drew hgrow)
            have ho3' : Own w3 w.heap.size (.slice a' (m + 1) c') (settled p (inQ p) (l.take (k + 1))) := by
              rw [settled_take_yes p (inQ p) l k hlt (by rw [← HS.out]; exact HQ.out), ← HS.out]
              exact ho3
            have HV : Hid (Value.slice (some ⟨gg, 0, none⟩) (m + 1) cc = .slice a' (m + 1) c') := hv
            have HO3 : Hid (Own w3 w.heap.size (.slice a' (m + 1) c') (settled p (inQ p) (l.take (k + 1)))) := ho3'
            clear hv ho3 ho3' hown3 hgrow hat
            go_wp2_with fail
            go_roundw
            case rel => exact ⟨k + 1, a', m + 1, c', by omega, by go_num, HV.out, by omega, HO3.out, hb3⟩
            case measure => simp [intOf]; omega
        · obtain rfl : k = l.length := by omega
          have ho := HO.out
          rw [List.take_of_length_le (Nat.le_refl _)] at ho
          go_wp2_with fail
          go_ret
          exact ⟨_, rfl, ho, hbl⟩
end Go.Proofs.Ytmemhmndfcdmbab
