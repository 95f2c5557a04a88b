import Derived.Test.YtccoeachemnbnaaGreatDoorBA2
import Derived.Deep.RegionHeld3
import Derived.Deep.AppendLies
import Derived.Laws.BytesArg
import Derived.Test.YtccoeachemnbnaaGreatDoorBA1
import Derived.Deep.MidRow
namespace Go.Proofs.YtccoeachemnbnaaGreatDoor
open Go.RowKit

set_option maxHeartbeats 400000 in
theorem without_any (p n : Int) (w : World) :
    Calls Tryz.prog 63 #[.int .u8 p, .int .i64 n] w fun e w' => e = .returned (.int .i64 (woN p n)) ∧ w' = w := by
  cases h : hasB p n
  · rw [show woN p n = n from by simp [woN, h]]
    go_enter Tryz.func63, Tryz.ntmps63
    go_wp2_with (go_at_call 64; refine (phas_is h _).mono ?_; rintro e w' ⟨rfl, rfl⟩)
    go_ret
    exact ⟨rfl, rfl⟩
  · rw [show woN p n = 0 from by simp [woN, h]]
    go_enter Tryz.func63, Tryz.ntmps63
    go_wp2_with (go_at_call 64; refine (phas_is h _).mono ?_; rintro e w' ⟨rfl, rfl⟩)
    go_ret
    exact ⟨rfl, rfl⟩

set_option maxHeartbeats 400000 in
theorem notTakenOut_any (b i o p : Int) (w : World) :
    Calls Tryz.prog 48 #[.agg #[.int .u8 b, .int .i64 i, .int .i64 o], .int .u8 p] w fun e w' => e = .returned (.bool (!hasB p o)) ∧ Below w.heap.size w w' := by
  go_enter Tryz.func48, Tryz.ntmps48
  go_wp2_with (go_at_call 64; refine (has_any _ _ _).mono ?_; rintro e w' ⟨rfl, rfl⟩)
  go_ret
  exact ⟨rfl, (Below.refl _ _).alloc (Nat.le_refl _) _⟩

set_option maxHeartbeats 400000 in
theorem notPutIn_any (b i o p : Int) (w : World) :
    Calls Tryz.prog 44 #[.agg #[.int .u8 b, .int .i64 i, .int .i64 o], .int .u8 p] w fun e w' => e = .returned (.bool (!hasB p i)) ∧ Below w.heap.size w w' := by
  go_enter Tryz.func44, Tryz.ntmps44
  go_wp2_with (go_at_call 64; refine (has_any _ _ _).mono ?_; rintro e w' ⟨rfl, rfl⟩)
  go_ret
  exact ⟨rfl, (Below.refl _ _).alloc (Nat.le_refl _) _⟩

/-- What stays, and how. -/
def settled (p : Int) (q : Sg → Bool) (l : List Sg) : List Sg := (l.filter q).map fun s => (s.1, woN p s.2.1, woN p s.2.2)
def outQ (p : Int) (s : Sg) : Bool := !hasB p s.2.2
def inQ (p : Int) (s : Sg) : Bool := !hasB p s.2.1
def settleL (p : Int) (q : Sg → Bool) (l : List Sg) : List Sg := if textB l then settled p q l else []

theorem settled_take_yes (p : Int) (q : Sg → Bool) (l : List Sg) (k : Nat) (hk : k < l.length) (h : q (l.getD k (0, 0, 0)) = true) :
    settled p q (l.take (k + 1)) = settled p q (l.take k) ++ [((l.getD k (0, 0, 0)).1, woN p (l.getD k (0, 0, 0)).2.1, woN p (l.getD k (0, 0, 0)).2.2)] := by
  have e : l.getD k (0, 0, 0) = l[k] := by simp [List.getD, hk]
  rw [e] at h ⊢
  unfold settled
  rw [List.take_succ_eq_append_getElem hk, List.filter_append, List.map_append]
  simp [h]
theorem settled_take_no (p : Int) (q : Sg → Bool) (l : List Sg) (k : Nat) (hk : k < l.length) (h : q (l.getD k (0, 0, 0)) = false) :
    settled p q (l.take (k + 1)) = settled p q (l.take k) := by
  have e : l.getD k (0, 0, 0) = l[k] := by simp [List.getD, hk]
  rw [e] at h
  unfold settled
  rw [List.take_succ_eq_append_getElem hk, List.filter_append, List.map_append]
  simp [h]
theorem settled_len (p : Int) (q : Sg → Bool) (l : List Sg) : (settled p q l).length ≤ l.length := by
  simp only [settled, List.length_map]
  exact List.length_filter_le _ _
theorem notTakenOut_is {s : Sg} {p : Int} {x : Bool} (h : outQ p s = x) (w : World) :
    Calls Tryz.prog 48 #[.agg #[.int .u8 s.1, .int .i64 s.2.1, .int .i64 s.2.2], .int .u8 p] w fun e w' => e = .returned (.bool x) ∧ Below w.heap.size w w' := h ▸ notTakenOut_any s.1 s.2.1 s.2.2 p w
theorem notPutIn_is {s : Sg} {p : Int} {x : Bool} (h : inQ p s = x) (w : World) :
    Calls Tryz.prog 44 #[.agg #[.int .u8 s.1, .int .i64 s.2.1, .int .i64 s.2.2], .int .u8 p] w fun e w' => e = .returned (.bool x) ∧ Below w.heap.size w w' := h ▸ notPutIn_any s.1 s.2.1 s.2.2 p w

set_option maxRecDepth 100000 in
set_option maxHeartbeats 2000000 in
theorem settleOut_any (a : Option Addr) (n cap : Nat) (l : List Sg) (p : Int) (w : World) (h : Txt w a n cap l) :
    Calls Tryz.prog 43 #[.slice a n cap, .int .u8 p, .func (.func 48) #[] #[]] w fun e w' => ∃ v, e = .returned v ∧ Own w' w.heap.size v (settleL p (outQ p) l) ∧ Below w.heap.size w w' := by
  have h0 := h
  obtain ⟨rfl, hc, hm, hl⟩ := h
  unfold maxLen at hm
  cases htb : textB l
  · rw [show settleL p (outQ p) l = [] from by simp [settleL, htb]]
    have HH : Hid (Txt w a l.length cap l) := h0
    clear h0 hl
    go_enter Tryz.func43, Tryz.ntmps43
    go_wp2_with (go_at_call 62; refine (implTextOk_is HH.out htb).mono ?_; rintro e w1 ⟨rfl, hb1⟩)
    go_ret
    exact ⟨_, rfl, Own.nil _ _, hb1⟩
  · rw [show settleL p (outQ p) l = settled p (outQ p) l from by simp [settleL, htb]]
    have HH : Hid (Txt w a l.length cap l) := h0
    have h24 := textB_len htb
    obtain ⟨i0, hi, hz0, hz1, hz2⟩ := info_parts Tryz.info82
    clear h0
    rcases hl with rfl | ⟨b, off, rfl, hbw, hl⟩
    · go_enter Tryz.func43, Tryz.ntmps43
      go_wp2_with (go_at_call 62; refine (implTextOk_is HH.out htb).mono ?_; rintro e w1 ⟨rfl, hb1⟩)
      refine wp_loop_rounds 1 ?_
      rw [rounds_succ]
      go_wp2_with fail
      go_ret
      exact ⟨_, rfl, by simpa [settled] using Own.nil _ _, hb1⟩
    · go_enter Tryz.func43, Tryz.ntmps43
      go_wp2_with (go_at_call 62; refine (implTextOk_is HH.out htb).mono ?_; rintro e w1 ⟨rfl, hb1⟩)
      have s1 := hb1.size
      go_loopw [7, 15] (fun v i wr => ∃ (k : Nat) (a : Option Addr) (m c : Nat), k ≤ l.length ∧ i = .int .i64 k ∧ v = .slice a m c ∧ m ≤ k ∧ Own wr w.heap.size (.slice a m c) (settled p (outQ p) (l.take k)) ∧ Below w.heap.size w wr) (fun _ i _ => l.length - (intOf i).toNat)
      case atStart => exact ⟨0, none, 0, 0, Nat.zero_le _, rfl, rfl, Nat.le_refl _, by simpa [settled] using Own.nil _ _, hb1⟩
      case round =>
        obtain ⟨k, a, m, c, hk, rfl, rfl, hmk, ho, hbl⟩ := hrel
        have hsz := hbl.size
        have HO : Hid (Own wr w.heap.size (.slice a m c) (settled p (outQ p) (l.take k))) := ho
        clear ho hb1 s1 htb
        by_cases hlt : k < l.length
        · obtain ⟨c0, c1, c2⟩ := (hl.below hbl hbw) k hlt
          clear hl
          obtain ⟨s, hs⟩ : ∃ s, s = l.getD k (0, 0, 0) := ⟨_, rfl⟩
          rw [← hs] at c0 c1 c2
          have HS : Hid (s = l.getD k (0, 0, 0)) := hs
          clear hs
          cases hq : outQ p s
          · have HQ : Hid (outQ p s = false) := hq
            clear hq
            go_wp2_with (go_at_call 48; refine (notTakenOut_is (s := s) HQ.out _).mono ?_; rintro e w2 ⟨rfl, hb2⟩)
            have ho2 : Own w2 w.heap.size (.slice a m c) (settled p (outQ p) (l.take (k + 1))) := by
              rw [settled_take_no p (outQ p) l k hlt (by rw [← HS.out]; exact HQ.out)]
              exact Own.below (Own.alloc HO.out _) hb2
            go_roundw
            case rel => exact ⟨k + 1, a, m, c, by omega, by go_num, rfl, by omega, ho2, (hbl.alloc hsz _).trans (hb2.mono (by simp; omega))⟩
            case measure => simp [intOf]; omega
          · have HQ : Hid (outQ p s = true) := hq
            clear hq
            go_wp2_with (go_at_call 48; refine (notTakenOut_is (s := s) HQ.out _).mono ?_; rintro e w2 ⟨rfl, hb2⟩)
            have z2 := hb2.size
            simp only [World.size_alloc] at z2
            have ag : (Value.slice a m c).ownBlock ≠ some wr.heap.size := fun e => by have := (HO.out.row.lt _ e).2; omega
            have d0 : w2.cell? ⟨wr.heap.size, 0, none⟩ = some (.int .u8 s.1) := (hb2.cell (p := ⟨wr.heap.size, 0, none⟩) (by simp)).trans (by simp)
            have d1 : w2.cell? ⟨wr.heap.size, 1, none⟩ = some (.int .i64 s.2.1) := (hb2.cell (p := ⟨wr.heap.size, 1, none⟩) (by simp)).trans (by simp)
            have d2 : w2.cell? ⟨wr.heap.size, 2, none⟩ = some (.int .i64 s.2.2) := (hb2.cell (p := ⟨wr.heap.size, 2, none⟩) (by simp)).trans (by simp)
            have HO2 : Hid (Own w2 w.heap.size (.slice a m c) (settled p (outQ p) (l.take k))) := Own.below (Own.alloc HO.out _) hb2
            clear c0 c1 c2
            go_region_held3 (fun w' => w'.cell? ⟨wr.heap.size, 0, none⟩ = some (.int .u8 s.1) ∧ w'.cell? ⟨wr.heap.size, 1, none⟩ = some (.int .i64 s.2.1) ∧ w'.cell? ⟨wr.heap.size, 2, none⟩ = some (.int .i64 s.2.2))
              (first
                | go_keep
                | (go_split_ands
                   refine ⟨?_, ?_, ?_⟩
                   · (rw [hgrow.cell_far _ (by simp; omega) (Ne.symm ag)]; assumption)
                   · (rw [hgrow.cell_far _ (by simp; omega) (Ne.symm ag)]; assumption)
                   · (rw [hgrow.cell_far _ (by simp; omega) (Ne.symm ag)]; assumption)))
              ((first
                | (go_at_call 63; refine (without_any _ _ _).mono ?_; rintro e w' ⟨rfl, rfl⟩)
                | (refine step_append_lies _ (by rfl) _ _ _ (by rfl) w.heap.size 82 i0 _ 3 24 Tryz.underlying47 hi hz0 hz1 hz2 rfl (by omega) (.slice a m c) m (flat (settled p (outQ p) (l.take k))) (by rfl) ((HO2.out.row.alloc _).drew) ⟨w2.heap.size, 0, none⟩ 1 1 [.int .u8 s.1, .int .i64 (woN p s.2.1), .int .i64 (woN p s.2.2)] (by rfl) (by rfl) (World.news_of_block (cs := #[.int .u8 s.1, .int .i64 (woN p s.2.1), .int .i64 (woN p s.2.2)]) (t := 82) (fr := (0, 0)) (heap_alloc_new w2 _)) (three_oneCell _ _ _) (by omega) (by unfold maxLen; omega) (by omega) (by simp; omega) (w2.heap.size + 1) (by simp) ?_; intro gg cc w3 hown3 hgrow hat hltg)))
            obtain ⟨a', c', hv, ho3, hb3⟩ := own_step (s := (s.1, woN p s.2.1, woN p s.2.2)) HO2.out ((hbl.alloc hsz _).trans (hb2.mono (by simp; omega))) (by omega) hown3 (grown_of_drew hgrow)
            have ho3' : Own w3 w.heap.size (.slice a' (m + 1) c') (settled p (outQ p) (l.take (k + 1))) := by
              rw [settled_take_yes p (outQ p) l k hlt (by rw [← HS.out]; exact HQ.out), ← HS.out]
              exact ho3
            have HV : Hid (Value.slice (some ⟨gg, 0, none⟩) (m + 1) cc = .slice a' (m + 1) c') := hv
            have HO3 : Hid (Own w3 w.heap.size (.slice a' (m + 1) c') (settled p (outQ p) (l.take (k + 1)))) := ho3'
            clear hv ho3 ho3' hown3 hgrow hat
            go_wp2_with fail
            go_roundw
            case rel => exact ⟨k + 1, a', m + 1, c', by omega, by go_num, HV.out, by omega, HO3.out, hb3⟩
            case measure => simp [intOf]; omega
        · obtain rfl : k = l.length := by omega
          have ho := HO.out
          rw [List.take_of_length_le (Nat.le_refl _)] at ho
          go_wp2_with fail
          go_ret
          exact ⟨_, rfl, ho, hbl⟩

set_option maxRecDepth 100000 in
set_option maxHeartbeats 2000000 in
theorem settleIn_any (a : Option Addr) (n cap : Nat) (l : List Sg) (p : Int) (w : World) (h : Txt w a n cap l) :
    Calls Tryz.prog 43 #[.slice a n cap, .int .u8 p, .func (.func 44) #[] #[]] w fun e w' => ∃ v, e = .returned v ∧ Own w' w.heap.size v (settleL p (inQ p) l) ∧ Below w.heap.size w w' := by
  have h0 := h
  obtain ⟨rfl, hc, hm, hl⟩ := h
  unfold maxLen at hm
  cases htb : textB l
  · rw [show settleL p (inQ p) l = [] from by simp [settleL, htb]]
    have HH : Hid (Txt w a l.length cap l) := h0
    clear h0 hl
    go_enter Tryz.func43, Tryz.ntmps43
    go_wp2_with (go_at_call 62; refine (implTextOk_is HH.out htb).mono ?_; rintro e w1 ⟨rfl, hb1⟩)
    go_ret
    exact ⟨_, rfl, Own.nil _ _, hb1⟩
  · rw [show settleL p (inQ p) l = settled p (inQ p) l from by simp [settleL, htb]]
    have HH : Hid (Txt w a l.length cap l) := h0
    have h24 := textB_len htb
    obtain ⟨i0, hi, hz0, hz1, hz2⟩ := info_parts Tryz.info82
    clear h0
    rcases hl with rfl | ⟨b, off, rfl, hbw, hl⟩
    · go_enter Tryz.func43, Tryz.ntmps43
      go_wp2_with (go_at_call 62; refine (implTextOk_is HH.out htb).mono ?_; rintro e w1 ⟨rfl, hb1⟩)
      refine wp_loop_rounds 1 ?_
      rw [rounds_succ]
      go_wp2_with fail
      go_ret
      exact ⟨_, rfl, by simpa [settled] using Own.nil _ _, hb1⟩
    · go_enter Tryz.func43, Tryz.ntmps43
      go_wp2_with (go_at_call 62; refine (implTextOk_is HH.out htb).mono ?_; rintro e w1 ⟨rfl, hb1⟩)
      have s1 := hb1.size
      go_loopw [7, 15] (fun v i wr => ∃ (k : Nat) (a : Option Addr) (m c : Nat), k ≤ l.length ∧ i = .int .i64 k ∧ v = .slice a m c ∧ m ≤ k ∧ Own wr w.heap.size (.slice a m c) (settled p (inQ p) (l.take k)) ∧ Below w.heap.size w wr) (fun _ i _ => l.length - (intOf i).toNat)
      case atStart => exact ⟨0, none, 0, 0, Nat.zero_le _, rfl, rfl, Nat.le_refl _, by simpa [settled] using Own.nil _ _, hb1⟩
      case round =>
        obtain ⟨k, a, m, c, hk, rfl, rfl, hmk, ho, hbl⟩ := hrel
        have hsz := hbl.size
        have HO : Hid (Own wr w.heap.size (.slice a m c) (settled p (inQ p) (l.take k))) := ho
        clear ho hb1 s1 htb
        by_cases hlt : k < l.length
        · obtain ⟨c0, c1, c2⟩ := (hl.below hbl hbw) k hlt
          clear hl
          obtain ⟨s, hs⟩ : ∃ s, s = l.getD k (0, 0, 0) := ⟨_, rfl⟩
          rw [← hs] at c0 c1 c2
          have HS : Hid (s = l.getD k (0, 0, 0)) := hs
          clear hs
          cases hq : inQ p s
          · have HQ : Hid (inQ p s = false) := hq
            clear hq
            go_wp2_with (go_at_call 44; refine (notPutIn_is (s := s) HQ.out _).mono ?_; rintro e w2 ⟨rfl, hb2⟩)
            have ho2 : Own w2 w.heap.size (.slice a m c) (settled p (inQ p) (l.take (k + 1))) := by
              rw [settled_take_no p (inQ p) l k hlt (by rw [← HS.out]; exact HQ.out)]
              exact Own.below (Own.alloc HO.out _) hb2
            go_roundw
            case rel => exact ⟨k + 1, a, m, c, by omega, by go_num, rfl, by omega, ho2, (hbl.alloc hsz _).trans (hb2.mono (by simp; omega))⟩
            case measure => simp [intOf]; omega
          · have HQ : Hid (inQ p s = true) := hq
            clear hq
            go_wp2_with (go_at_call 44; refine (notPutIn_is (s := s) HQ.out _).mono ?_; rintro e w2 ⟨rfl, hb2⟩)
            have z2 := hb2.size
            simp only [World.size_alloc] at z2
            have ag : (Value.slice a m c).ownBlock ≠ some wr.heap.size := fun e => by have := (HO.out.row.lt _ e).2; omega
            have d0 : w2.cell? ⟨wr.heap.size, 0, none⟩ = some (.int .u8 s.1) := (hb2.cell (p := ⟨wr.heap.size, 0, none⟩) (by simp)).trans (by simp)
            have d1 : w2.cell? ⟨wr.heap.size, 1, none⟩ = some (.int .i64 s.2.1) := (hb2.cell (p := ⟨wr.heap.size, 1, none⟩) (by simp)).trans (by simp)
            have d2 : w2.cell? ⟨wr.heap.size, 2, none⟩ = some (.int .i64 s.2.2) := (hb2.cell (p := ⟨wr.heap.size, 2, none⟩) (by simp)).trans (by simp)
            have HO2 : Hid (Own w2 w.heap.size (.slice a m c) (settled p (inQ p) (l.take k))) := Own.below (Own.alloc HO.out _) hb2
            clear c0 c1 c2
            go_region_held3 (fun w' => w'.cell? ⟨wr.heap.size, 0, none⟩ = some (.int .u8 s.1) ∧ w'.cell? ⟨wr.heap.size, 1, none⟩ = some (.int .i64 s.2.1) ∧ w'.cell? ⟨wr.heap.size, 2, none⟩ = some (.int .i64 s.2.2))
              (first
                | go_keep
                | (go_split_ands
                   refine ⟨?_, ?_, ?_⟩
                   · (rw [hgrow.cell_far _ (by simp; omega) (Ne.symm ag)]; assumption)
                   · (rw [hgrow.cell_far _ (by simp; omega) (Ne.symm ag)]; assumption)
                   · (rw [hgrow.cell_far _ (by simp; omega) (Ne.symm ag)]; assumption)))
              ((first
                | (go_at_call 63; refine (without_any _ _ _).mono ?_; rintro e w' ⟨rfl, rfl⟩)
                | (refine step_append_lies _ (by rfl) _ _ _ (by rfl) w.heap.size 82 i0 _ 3 24 Tryz.underlying47 hi hz0 hz1 hz2 rfl (by omega) (.slice a m c) m (flat (settled p (inQ p) (l.take k))) (by rfl) ((HO2.out.row.alloc _).drew) ⟨w2.heap.size, 0, none⟩ 1 1 [.int .u8 s.1, .int .i64 (woN p s.2.1), .int .i64 (woN p s.2.2)] (by rfl) (by rfl) (World.news_of_block (cs := #[.int .u8 s.1, .int .i64 (woN p s.2.1), .int .i64 (woN p s.2.2)]) (t := 82) (fr := (0, 0)) (heap_alloc_new w2 _)) (three_oneCell _ _ _) (by omega) (by unfold maxLen; omega) (by omega) (by simp; omega) (w2.heap.size + 1) (by simp) ?_; intro gg cc w3 hown3 hgrow hat hltg)))
            obtain ⟨a', c', hv, ho3, hb3⟩ := own_step (s := (s.1, woN p s.2.1, woN p s.2.2)) HO2.out ((hbl.alloc hsz _).trans (hb2.mono (by simp; omega))) (by omega) hown3 (grown_of_drew hgrow)
            have ho3' : Own w3 w.heap.size (.slice a' (m + 1) c') (settled p (inQ p) (l.take (k + 1))) := by
              rw [settled_take_yes p (inQ p) l k hlt (by rw [← HS.out]; exact HQ.out), ← HS.out]
              exact ho3
            have HV : Hid (Value.slice (some ⟨gg, 0, none⟩) (m + 1) cc = .slice a' (m + 1) c') := hv
            have HO3 : Hid (Own w3 w.heap.size (.slice a' (m + 1) c') (settled p (inQ p) (l.take (k + 1)))) := ho3'
            clear hv ho3 ho3' hown3 hgrow hat
            go_wp2_with fail
            go_roundw
            case rel => exact ⟨k + 1, a', m + 1, c', by omega, by go_num, HV.out, by omega, HO3.out, hb3⟩
            case measure => simp [intOf]; omega
        · obtain rfl : k = l.length := by omega
          have ho := HO.out
          rw [List.take_of_length_le (Nat.le_refl _)] at ho
          go_wp2_with fail
          go_ret
          exact ⟨_, rfl, ho, hbl⟩
end Go.Proofs.YtccoeachemnbnaaGreatDoor
namespace Go.Proofs.YtccoeachemnbnaaGreatDoor
open Go.RowKit

/-- A value that owns a list of bytes. -/
def OwnB (w : World) (B : Nat) (v : Value) (ns : List Int) : Prop := w.ownsRow B 5 1 v ns.length (ns.map (Value.int .u8))

theorem OwnB.shape {w : World} {B : Nat} {v : Value} {ns : List Int} (h : OwnB w B v ns) : ∃ a cap, v = .slice a ns.length cap := by
  have h' := h
  unfold OwnB at h'
  rcases h'.2 with ⟨rfl, h0⟩ | ⟨g, cap, cur, rfl, r⟩
  · exact ⟨none, 0, by rw [h0]⟩
  · exact ⟨_, _, rfl⟩
theorem OwnB.below {w w' : World} {B : Nat} {v : Value} {l : List Int} (h : OwnB w B v l) (hb : Below w.heap.size w w') : OwnB w' B v l := own_below h hb
theorem OwnB.nil (w : World) (B : Nat) : OwnB w B (.slice none 0 0) [] := World.ownsRow_nil _ _ _ _
theorem OwnB.alloc {w : World} {B : Nat} {v : Value} {l : List Int} (h : OwnB w B v l) (o : Obj) : OwnB (w.alloc o) B v l := World.ownsRow.alloc h o
theorem OwnB.emptyNew (w : World) (B : Nat) (hB : B ≤ w.heap.size) : OwnB (w.alloc (.cells #[] 5)) B (.slice (some ⟨w.heap.size, 0, none⟩) 0 0) [] :=
  World.ownsRow_made w #[] 0 hB (Nat.zero_le _) rfl
theorem OwnB.len {w : World} {B : Nat} {a : Option Addr} {n cap : Nat} {l : List Int} (h : OwnB w B (.slice a n cap) l) : n = l.length := by
  obtain ⟨a', c', he⟩ := h.shape
  simp only [Value.slice.injEq] at he
  exact he.2.1
theorem OwnB.row {w : World} {B : Nat} {a : Option Addr} {n cap : Nat} {l : List Int} (h : OwnB w B (.slice a n cap) l) : w.ownsRow B 5 1 (.slice a n cap) n (l.map (Value.int .u8)) := by
  have := h.len
  subst this
  exact h

theorem ownB_step {B : Nat} {w wr w1 : World} {a : Option Addr} {k c : Nat} {v' : Value} {l : List Int} {x : Int} {o : Obj} (ho : OwnB wr B (.slice a k c) l) (hbl : Below B w wr) (hB : B ≤ wr.heap.size)
    (hown : w1.ownsRow B 5 1 v' (k + 1) (l.map (Value.int .u8) ++ [.int .u8 x])) (hgrow : (wr.alloc o).grownBy w1 (Value.slice a k c).ownBlock) :
    ∃ a' c', v' = .slice a' (k + 1) c' ∧ OwnB w1 B (.slice a' (k + 1) c') (l ++ [x]) ∧ Below B w w1 := by
  have hk := ho.len
  have h1 : OwnB w1 B v' (l ++ [x]) := by
    unfold OwnB
    rw [List.length_append, List.map_append, show l.length + [x].length = k + 1 by simp; omega]
    exact hown
  obtain ⟨a', c', rfl⟩ := h1.shape
  have e : (l ++ [x]).length = k + 1 := by simp; omega
  rw [e] at h1 ⊢
  refine ⟨a', c', rfl, h1, ?_⟩
  exact (hbl.alloc hB _).grown hgrow (by simp; omega) (fun q hq => (ho.row.lt q hq).1)

theorem convert_own {w : World} {B : Nat} {a : Option Addr} {n cap : Nat} {ns : List Int} (h : OwnB w B (.slice a n cap) ns) :
    (convert 22 9 (.slice a n cap)).run Tryz.prog w = .ok (.string (strOfNums ns)) w := by
  have hn := h.len
  have hr := h.row
  rcases hr.2 with ⟨hv, h0⟩ | ⟨g, cap', cur, hv, r⟩
  · simp only [Value.slice.injEq] at hv
    obtain ⟨rfl, rfl, rfl⟩ := hv
    have : ns = [] := List.eq_nil_of_length_eq_zero hn.symm
    subst this
    exact run_convert_bytes_nil w 22 5 Tryz.underlying22 Tryz.underlying5 0 0 _ Tryz.underlying9
  · simp only [Value.slice.injEq, true_and] at hv
    obtain ⟨rfl, rfl⟩ := hv
    refine run_convert_bytes_arg w 22 5 Tryz.underlying22 Tryz.underlying5 g 0 n cap ns hn.symm ?_ _ Tryz.underlying9
    intro i hi
    rw [Nat.zero_add, hr.cellAt i (by omega)]
    rw [List.getElem?_map, List.getElem?_eq_getElem (by omega)]
    simp [List.getD, show i < ns.length by omega]

theorem cell_one_new' (w : World) (x : Value) (t : TypeId) : ∀ j u, [x][j]? = some u → (w.alloc (.cells #[x] t)).cell? ((⟨w.heap.size, 0, none⟩ : Addr).add j) = some u := by
  intro j u hj
  match j, hj with
  | 0, hj => simp at hj; subst hj; simp [Addr.add]
  | (j + 1), hj => simp at hj
theorem byte_oneCell (x : Int) : ∀ u ∈ [Value.int .u8 x], u.oneCell' = true := by
  intro u hu
  simp at hu
  subst hu
  rfl

theorem Tryz.info5 : (Tryz.prog.info? 5).map (fun i => (i.zero, i.size, i.bytes)) = some (some (.int .u8 0), 1, 1) := by kernel_rfl

def bytesOf (l : List Sg) : List Int := l.map (·.1)
theorem bytesOf_take_succ (l : List Sg) (k : Nat) (hk : k < l.length) : bytesOf (l.take (k + 1)) = bytesOf (l.take k) ++ [(l.getD k (0, 0, 0)).1] := by
  have e : l.getD k (0, 0, 0) = l[k] := by simp [List.getD, hk]
  rw [e]
  unfold bytesOf
  rw [List.take_succ_eq_append_getElem hk, List.map_append]
  rfl

set_option maxHeartbeats 1000000 in
theorem textBytes_any (a : Option Addr) (n cap : Nat) (l : List Sg) (w : World) (h : Txt w a n cap l) (hn : n ≤ 1048576) :
    Calls Tryz.prog 42 #[.slice a n cap] w fun e w' => e = .returned (.string (strOfNums (bytesOf l))) ∧ Below w.heap.size w w' := by
  obtain ⟨rfl, hc, hm, hl⟩ := h
  unfold maxLen at hm
  obtain ⟨i0, hi, hz0, hz1, hz2⟩ := info_parts Tryz.info5
  rcases hl with rfl | ⟨b, off, rfl, hbw, hl⟩
  · have hcv := convert_own (OwnB.nil w 0)
    go_enter Tryz.func42, Tryz.ntmps42
    go_wp2_with fail
    refine wp_loop_rounds 1 ?_
    rw [rounds_succ]
    go_wp2_with fail
    go_ret
    exact ⟨rfl, Below.refl _ _⟩
  · go_enter Tryz.func42, Tryz.ntmps42
    go_wp2_with fail
    go_loopw [3, 8] (fun v i wr => ∃ (k : Nat) (a : Option Addr) (c : Nat), k ≤ l.length ∧ i = .int .i64 k ∧ v = .slice a k c ∧ OwnB wr w.heap.size (.slice a k c) (bytesOf (l.take k)) ∧ Below w.heap.size w wr) (fun _ i _ => l.length - (intOf i).toNat)
    case atStart => exact ⟨0, none, 0, Nat.zero_le _, rfl, rfl, by simpa [bytesOf] using OwnB.nil _ _, Below.refl _ _⟩
    case round =>
      obtain ⟨k, a, c, hk, rfl, rfl, ho, hbl⟩ := hrel
      have hsz := hbl.size
      by_cases hlt : k < l.length
      · have HO : Hid (OwnB wr w.heap.size (.slice a k c) (bytesOf (l.take k))) := ho
        clear ho
        obtain ⟨c0, c1, c2⟩ := (hl.below hbl hbw) k hlt
        clear hl
        obtain ⟨s, hs⟩ : ∃ s, s = l.getD k (0, 0, 0) := ⟨_, rfl⟩
        rw [← hs] at c0 c1 c2
        have HS : Hid (s = l.getD k (0, 0, 0)) := hs
        clear hs
        go_wp2_with (at_builtin; refine wpList_append_own _ rfl (.tmp 12) (.tmp 15) 22 rfl w.heap.size 5 i0 (.int .u8 0) 1 1 Tryz.underlying22 hi hz0 hz1 hz2 rfl (by decide) (.slice a k c) _ _ rfl ((HO.out.row.alloc _).alloc _) ⟨wr.heap.size + 1, 0, none⟩ 1 1 [.int .u8 s.1] rfl rfl (by have e := cell_one_new' (wr.alloc (.cells #[.int .u8 s.1, .int .i64 s.2.1, .int .i64 s.2.2] 82)) (.int .u8 s.1) 5; simpa using e) (byte_oneCell _) (by unfold maxLen; omega) (by omega) (by simp; omega) ?_; intro v' w1 hown' hgrow _)
        obtain ⟨a', c', rfl, ho1, hb1⟩ := ownB_step (x := s.1) (HO.out.alloc _) (hbl.alloc hsz _) (by simp; omega) hown' hgrow
        rw [HS.out, ← bytesOf_take_succ l k hlt] at ho1
        go_roundw
        case rel => exact ⟨k + 1, a', c', by omega, by go_num, rfl, ho1, hb1⟩
        case measure => simp [intOf]; omega
      · obtain rfl : k = l.length := by omega
        rw [List.take_of_length_le (Nat.le_refl _)] at ho
        have hcv := convert_own ho
        clear ho
        go_wp2_with fail
        go_ret
        exact ⟨rfl, hbl⟩

def nowL (l : List Sg) : List Int := bytesOf (settleL 7 (outQ 7) l)
def wasL (l : List Sg) : List Int := bytesOf (settleL 7 (inQ 7) l)
theorem settleL_len (p : Int) (q : Sg → Bool) (l : List Sg) : (settleL p q l).length ≤ 24 := by
  unfold settleL
  cases h : textB l
  · simp
  · have := settled_len p q l
    have := textB_len h
    simp
    omega

set_option maxHeartbeats 400000 in
theorem implTextNow_any (a : Option Addr) (n cap : Nat) (l : List Sg) (w : World) (h : Txt w a n cap l) :
    Calls Tryz.prog 29 #[.slice a n cap] w fun e w' => e = .returned (.string (strOfNums (nowL l))) ∧ Below w.heap.size w w' := by
  go_enter Tryz.func29, Tryz.ntmps29
  go_wp2_with fail
  refine (settleOut_any a n cap l 7 _ h).mono ?_
  rintro e w1 ⟨v, rfl, ho1, hb1⟩
  obtain ⟨a1, p1, rfl, ht1⟩ := ho1.shape
  have hl := settleL_len 7 (outQ 7) l
  have s1 := hb1.size
  go_wp2_with fail
  refine (textBytes_any _ _ _ _ _ ht1 (by omega)).mono ?_
  rintro e w2 ⟨rfl, hb2⟩
  go_wp2_with fail
  go_ret
  exact ⟨rfl, hb1.trans (hb2.mono s1)⟩

set_option maxHeartbeats 400000 in
theorem implTextWas_any (a : Option Addr) (n cap : Nat) (l : List Sg) (w : World) (h : Txt w a n cap l) :
    Calls Tryz.prog 22 #[.slice a n cap] w fun e w' => e = .returned (.string (strOfNums (wasL l))) ∧ Below w.heap.size w w' := by
  go_enter Tryz.func22, Tryz.ntmps22
  go_wp2_with fail
  refine (settleIn_any a n cap l 7 _ h).mono ?_
  rintro e w1 ⟨v, rfl, ho1, hb1⟩
  obtain ⟨a1, p1, rfl, ht1⟩ := ho1.shape
  have hl := settleL_len 7 (inQ 7) l
  have s1 := hb1.size
  go_wp2_with fail
  refine (textBytes_any _ _ _ _ _ ht1 (by omega)).mono ?_
  rintro e w2 ⟨rfl, hb2⟩
  go_wp2_with fail
  go_ret
  exact ⟨rfl, hb1.trans (hb2.mono s1)⟩
end Go.Proofs.YtccoeachemnbnaaGreatDoor
namespace Go.Proofs.YtccoeachemnbnaaGreatDoor
open Go.RowKit

/-- A fact on a world that stays where nothing old has turned. -/
def Mono (p : World → Prop) : Prop := ∀ u u' : World, p u → Below u.heap.size u u' → p u'
/-- What a walk carries from world to world: nothing of w0 has turned; rows of cells in blocks; facts that stay. -/
structure Hd (w0 : World) (rs : List (Nat × Array Value × TypeId)) (ps : List (World → Prop)) (u : World) : Prop where
  below : Below w0.heap.size w0 u
  row : ∀ r ∈ rs, RowAt u r.1 r.2.1 r.2.2
  fact : ∀ p ∈ ps, Mono p ∧ p u
section
variable {w0 u u' : World} {rs : List (Nat × Array Value × TypeId)} {ps : List (World → Prop)}
theorem Hd.go (h : Hd w0 rs ps u) (hb : Below u.heap.size u u') : Hd w0 rs ps u' :=
  ⟨h.below.trans (hb.mono h.below.size), fun r hr => (h.row r hr).below hb (h.row r hr).lt, fun p hp => ⟨(h.fact p hp).1, (h.fact p hp).1 u u' (h.fact p hp).2 hb⟩⟩
theorem hd_go (h : Hid (Hd w0 rs ps u)) (hb : Below u.heap.size u u') : Hid (Hd w0 rs ps u') := h.out.go hb
theorem hd_start (w : World) : Hid (Hd w [] [] w) := ⟨Below.refl _ _, fun r hr => absurd hr (by simp), fun p hp => absurd hp (by simp)⟩
theorem hd_add (h : Hid (Hd w0 rs ps u)) (p : World → Prop) (hm : Mono p) (hp : p u) : Hid (Hd w0 rs (p :: ps) u) :=
  ⟨h.out.below, h.out.row, fun q hq => by
    rcases List.mem_cons.1 hq with rfl | hq
    · exact ⟨hm, hp⟩
    · exact h.out.fact q hq⟩
theorem hd_row (h : Hid (Hd w0 rs ps u)) (X : Nat) (cs : Array Value) (ty : TypeId) (hr : RowAt u X cs ty) : Hid (Hd w0 ((X, cs, ty) :: rs) ps u) :=
  ⟨h.out.below, fun r hq => by
    rcases List.mem_cons.1 hq with rfl | hq
    · exact hr
    · exact h.out.row r hq, h.out.fact⟩
theorem hd_box (h : Hid (Hd w0 rs ps u)) (cs : Array Value) (ty : TypeId) : Hid (Hd w0 ((u.heap.size, cs, ty) :: rs) ps (u.alloc (.cells cs ty))) :=
  hd_row (hd_go h ((Below.refl _ _).alloc (Nat.le_refl _) _)) _ _ _ (rowAt_new _ _ _)
theorem hd_rowless {r : Nat × Array Value × TypeId} (h : Hid (Hd w0 (r :: rs) ps u)) : Hid (Hd w0 rs ps u) :=
  ⟨h.out.below, fun q hq => h.out.row q (List.mem_cons_of_mem _ hq), h.out.fact⟩
/-- A row that was made last is written. -/
theorem hd_set {X : Nat} {cs : Array Value} {ty : TypeId} {b : World} (hb : Hid (Hd w0 rs ps b)) (h : Hid (Hd w0 ((X, cs, ty) :: rs) ps u)) (hbu : Below b.heap.size b u) (hX : b.heap.size ≤ X) (cs' : Array Value) : Hid (Hd w0 ((X, cs', ty) :: rs) ps (u.setRow X cs')) :=
  hd_row (hd_go hb (below_row hbu hX cs')) _ _ _ ((h.out.row _ (List.mem_cons_self ..)).setRow cs')
theorem hd_drew (h : Hid (Hd w0 rs ps u)) : Hid (Hd w0 rs ps u.drew) := hd_go h (Below.refl _ _).drew
end
theorem code_gen {P : Program} {c : Code} {Q : Exit → Act → World → Prop} {a : Act} {w : World} (h : ∀ V, V = w → c.wp P Q a V) : c.wp P Q a w := h w rfl
end Go.Proofs.YtccoeachemnbnaaGreatDoor
namespace Go.Proofs.YtccoeachemnbnaaGreatDoor
open Go.RowKit

theorem mono_dc (a : Option Addr) (n c : Nat) (d : List Bl) : Mono fun u => Dc u a n c d := fun _ _ h hb => h.below hb
theorem mono_txt (a : Option Addr) (n c : Nat) (l : List Sg) : Mono fun u => Txt u a n c l := fun _ _ h hb => h.below hb
theorem mono_tab (a : Option Addr) (n c : Nat) (l : List Cl) : Mono fun u => Tab u a n c l := fun _ _ h hb => h.below hb
end Go.Proofs.YtccoeachemnbnaaGreatDoor
namespace Go.Proofs.YtccoeachemnbnaaGreatDoor
open Go.RowKit

theorem mono_row (X : Nat) (cs : Array Value) (ty : TypeId) : Mono fun u => RowAt u X cs ty := fun _ _ h hb => h.below hb h.lt
theorem mono_cell (b o : Nat) (v : Value) : Mono fun u => b < u.heap.size ∧ u.cell? ⟨b, o, none⟩ = some v := fun _ _ h hb => ⟨Nat.lt_of_lt_of_le h.1 hb.size, (hb.cell (p := ⟨b, o, none⟩) h.1).trans h.2⟩
theorem mono_ownS (B : Nat) (v : Value) (l : List Sg) : Mono fun u => Own u B v l := fun _ _ h hb => own_below h hb
theorem rowAt_mid (off n : Nat) {w : World} {b : Nat} {cs : Array Value} {ty : TypeId} (h : RowAt w b cs ty) : w.rangeAt b off ((cs.toList.drop off).take n) := by
  intro j v hv
  rw [h.cell, ← Array.getElem?_toList]
  simp only [List.getElem?_take, List.getElem?_drop] at hv
  split at hv
  · exact hv
  · cases hv
/-- A text cut at a place. -/
def cutA (a : Option Addr) (c k : Nat) : Option Addr := if c = k then a else Option.map (fun x => x.add (k * 3)) a
theorem txt_take {w : World} {a : Option Addr} {n cap : Nat} {l : List Sg} (h : Txt w a n cap l) {k : Nat} (hk : k ≤ n) : Txt w a k cap (l.take k) := by
  obtain ⟨h1, h2, h3, h4⟩ := h
  refine ⟨by simp; omega, by omega, h3, ?_⟩
  rcases h4 with rfl | ⟨b, off, h5, h6, h7⟩
  · exact .inl (by simp)
  · refine .inr ⟨b, off, h5, h6, fun j hj => ?_⟩
    have hj' : j < l.length := by simp at hj; omega
    have hjk : j < k := by simp at hj; omega
    have e : (l.take k).getD j (0, 0, 0) = l.getD j (0, 0, 0) := by simp [List.getD, hjk]
    rw [e]
    exact h7 j hj'
theorem txt_cut {w : World} {a : Option Addr} {n cap : Nat} {l : List Sg} (h : Txt w a n cap l) {k : Nat} (hk : k ≤ n) : Txt w (cutA a cap k) (n - k) (cap - k) (l.drop k) := by
  obtain ⟨h1, h2, h3, h4⟩ := h
  refine ⟨by simp; omega, by omega, by unfold maxLen at *; omega, ?_⟩
  by_cases hn : n = k
  · exact .inl (List.eq_nil_of_length_eq_zero (by simp; omega))
  rcases h4 with rfl | ⟨b, off, rfl, h6, h7⟩
  · exact .inl (by simp)
  · refine .inr ⟨b, off + k * 3, by unfold cutA; rw [if_neg (by omega)]; simp [Addr.add_lit], h6, fun j hj => ?_⟩
    have hj' : k + j < l.length := by simp at hj; omega
    have e : (l.drop k).getD j (0, 0, 0) = l.getD (k + j) (0, 0, 0) := by simp [List.getD]
    rw [e]
    have := h7 (k + j) hj'
    rw [show off + (k + j) * 3 = off + k * 3 + j * 3 by omega] at this
    exact this
end Go.Proofs.YtccoeachemnbnaaGreatDoor
namespace Go.Proofs.YtccoeachemnbnaaGreatDoor
open Go.RowKit

theorem strSize (l : List Int) : (strOfNums l).size = l.length := by simp [strOfNums, ByteArray.size]
set_option maxRecDepth 100000 in
set_option maxHeartbeats 16000000 in
theorem aheadNow {va : Option Addr} {vn vc : Nat} {w : World} : Calls Tryz.prog 37 #[.slice va vn vc, .func (.func 29) #[] #[]] w fun e w' => (∃ X Y, e = .returned (.func (.func 58) #[] #[.pointer (some ⟨Y, 0, none⟩), .pointer (some ⟨X, 0, none⟩)]) ∧ RowAt w' X #[.slice va vn vc] 47 ∧ RowAt w' Y #[.func (.func 29) #[] #[]] 46) ∧ Below w.heap.size w w' := by
  go_enter Tryz.func37, Tryz.ntmps37
  go_wp2_with fail
  go_ret
  refine ⟨⟨w.heap.size, w.heap.size + 1, rfl, (rowAt_new _ _ _).alloc _, ?_⟩, ((Below.refl _ _).alloc (Nat.le_refl _) _).alloc (by simp) _⟩
  have h := rowAt_new (w.alloc (.cells #[.slice va vn vc] 47)) #[.func (.func 29) #[] #[]] 46
  simpa using h
set_option maxRecDepth 100000 in
set_option maxHeartbeats 16000000 in
theorem countNow {va : Option Addr} {vn vc j X Y : Nat} {t : List Sg} {w : World} (hX : RowAt w X #[.slice va vn vc] 47) (hY : RowAt w Y #[.func (.func 29) #[] #[]] 46) (ht : Txt w va vn vc t) (hj : j ≤ vn) :
    Calls Tryz.prog 58 #[.int .i64 j, .pointer (some ⟨Y, 0, none⟩), .pointer (some ⟨X, 0, none⟩)] w fun e w' => e = .returned (.int .i64 ((nowL (t.take j)).length : Int)) ∧ Below w.heap.size w w' := by
  have hc := ht.2.1
  have hm := ht.2.2.1
  unfold maxLen at hm
  have hjc : j ≤ vc := by omega
  obtain ⟨S, HS⟩ : ∃ S, Hid (strOfNums (nowL (t.take j)) = S) := ⟨_, rfl⟩
  have hsz : (nowL (t.take j)).length = S.size := by rw [← HS.out, strSize]
  rw [hsz]
  have HH := hd_add (hd_row (hd_row (hd_start w) X _ _ hX) Y _ _ hY) (fun u => Txt u va vn vc t) (mono_txt _ _ _ _) ht
  clear hX hY ht hsz
  go_enter Tryz.func58, Tryz.ntmps58
  go_upto_region 1 with fail
  refine wp_region_noPanic ?_
  refine wp_region_held_drew (S := fun w' => Hd w [(Y, #[.func (.func 29) #[] #[]], 46), (X, #[.slice va vn vc], 47)] [fun u => Txt u va vn vc t] w') (by kernel_rfl) (HH.out.go (Below.refl _ _).drew) (fun hHeld => ?_)
  clear HH
  have sv1 : w.heap.size ≤ w.drew.heap.size := Nat.le_refl _
  generalize w.drew = v1 at hHeld sv1 ⊢
  refine take_at 0 5 (.func (.func 29) #[] #[]) rfl rfl (by kernel_rfl) (by kernel_rfl) (by kernel_rfl) (fun _ _ _ h => h) (Or.inl ⟨by kernel_rfl, fun w' hS' => by have hc := RowAt.cell (hS'.row _ (List.Mem.head _)) 0; go_simp⟩) hHeld ?_
  (try simp only [Act.put, List.setIfInBounds_toArray, List.set_cons_zero, List.set_cons_succ])
  refine take_at 1 6 (.slice va vn vc) rfl rfl (by kernel_rfl) (by kernel_rfl) (by kernel_rfl) (fun _ _ _ h => h) (Or.inl ⟨by kernel_rfl, fun w' hS' => by have hc := RowAt.cell (hS'.row _ (List.Mem.tail _ (List.Mem.head _))) 0; go_simp⟩) hHeld ?_
  (try simp only [Act.put, List.setIfInBounds_toArray, List.set_cons_zero, List.set_cons_succ])
  refine take_at 2 7 (.int .i64 j) rfl rfl (by kernel_rfl) (by kernel_rfl) (by kernel_rfl) (fun _ _ _ h => h) (Or.inl ⟨by kernel_rfl, fun w' hS' => by go_simp⟩) hHeld ?_
  (try simp only [Act.put, List.setIfInBounds_toArray, List.set_cons_zero, List.set_cons_succ])
  refine take_at 3 8 (.slice va j vc) rfl rfl (by kernel_rfl) (by kernel_rfl) (by kernel_rfl) (fun _ _ _ h => h) (Or.inl ⟨by kernel_rfl, fun w' hS' => by go_simp⟩) hHeld ?_
  (try simp only [Act.put, List.setIfInBounds_toArray, List.set_cons_zero, List.set_cons_succ])
  refine wpAnyH_ready (rs := [4]) (by kernel_rfl) (by simp) ?_
  refine AllReadyH.cons rfl (fun K hK => ?_) AllReadyH.nil
  go_simp
  change Calls Tryz.prog 29 #[.slice va j vc] _ _
  refine (implTextNow_any _ _ _ _ _ (txt_take ((hHeld.fact _ (List.Mem.head _)).2) hj)).mono ?_
  rintro _ v2 ⟨rfl, hb⟩
  have sv2 := hb.size
  rw [HS.out]
  go_wp2_with fail
  refine hK.out _ _ (hHeld.go hb) (fun hHeld => ?_)
  clear hK K hb
  (try simp only [Act.put, List.setIfInBounds_toArray, List.set_cons_zero, List.set_cons_succ])
  refine take_at 5 10 (.int .i64 S.size) rfl rfl (by kernel_rfl) (by kernel_rfl) (by kernel_rfl) (fun _ _ _ h => h) (Or.inl ⟨by kernel_rfl, fun w' hS' => by go_simp⟩) hHeld ?_
  (try simp only [Act.put, List.setIfInBounds_toArray, List.set_cons_zero, List.set_cons_succ])
  refine take_at 6 4 (.int .i64 S.size) rfl rfl (by kernel_rfl) (by kernel_rfl) (by kernel_rfl) (fun _ _ _ h => h) (Or.inl ⟨by kernel_rfl, fun w' hS' => by go_simp⟩) hHeld ?_
  (try simp only [Act.put, List.setIfInBounds_toArray, List.set_cons_zero, List.set_cons_succ])
  refine wpAnyH_done (by kernel_rfl) ?_ _
  refine NoPanic.normal ?_
  have HH : Hid (Hd w _ _ v2) := hHeld
  clear hHeld
  go_wp2_with fail
  go_ret
  exact ⟨rfl, HH.out.below⟩
set_option maxRecDepth 100000 in
set_option maxHeartbeats 16000000 in
theorem aheadWas {va : Option Addr} {vn vc : Nat} {w : World} : Calls Tryz.prog 37 #[.slice va vn vc, .func (.func 22) #[] #[]] w fun e w' => (∃ X Y, e = .returned (.func (.func 58) #[] #[.pointer (some ⟨Y, 0, none⟩), .pointer (some ⟨X, 0, none⟩)]) ∧ RowAt w' X #[.slice va vn vc] 47 ∧ RowAt w' Y #[.func (.func 22) #[] #[]] 46) ∧ Below w.heap.size w w' := by
  go_enter Tryz.func37, Tryz.ntmps37
  go_wp2_with fail
  go_ret
  refine ⟨⟨w.heap.size, w.heap.size + 1, rfl, (rowAt_new _ _ _).alloc _, ?_⟩, ((Below.refl _ _).alloc (Nat.le_refl _) _).alloc (by simp) _⟩
  have h := rowAt_new (w.alloc (.cells #[.slice va vn vc] 47)) #[.func (.func 22) #[] #[]] 46
  simpa using h
set_option maxRecDepth 100000 in
set_option maxHeartbeats 16000000 in
theorem countWas {va : Option Addr} {vn vc j X Y : Nat} {t : List Sg} {w : World} (hX : RowAt w X #[.slice va vn vc] 47) (hY : RowAt w Y #[.func (.func 22) #[] #[]] 46) (ht : Txt w va vn vc t) (hj : j ≤ vn) :
    Calls Tryz.prog 58 #[.int .i64 j, .pointer (some ⟨Y, 0, none⟩), .pointer (some ⟨X, 0, none⟩)] w fun e w' => e = .returned (.int .i64 ((wasL (t.take j)).length : Int)) ∧ Below w.heap.size w w' := by
  have hc := ht.2.1
  have hm := ht.2.2.1
  unfold maxLen at hm
  have hjc : j ≤ vc := by omega
  obtain ⟨S, HS⟩ : ∃ S, Hid (strOfNums (wasL (t.take j)) = S) := ⟨_, rfl⟩
  have hsz : (wasL (t.take j)).length = S.size := by rw [← HS.out, strSize]
  rw [hsz]
  have HH := hd_add (hd_row (hd_row (hd_start w) X _ _ hX) Y _ _ hY) (fun u => Txt u va vn vc t) (mono_txt _ _ _ _) ht
  clear hX hY ht hsz
  go_enter Tryz.func58, Tryz.ntmps58
  go_upto_region 1 with fail
  refine wp_region_noPanic ?_
  refine wp_region_held_drew (S := fun w' => Hd w [(Y, #[.func (.func 22) #[] #[]], 46), (X, #[.slice va vn vc], 47)] [fun u => Txt u va vn vc t] w') (by kernel_rfl) (HH.out.go (Below.refl _ _).drew) (fun hHeld => ?_)
  clear HH
  have sv1 : w.heap.size ≤ w.drew.heap.size := Nat.le_refl _
  generalize w.drew = v1 at hHeld sv1 ⊢
  refine take_at 0 5 (.func (.func 22) #[] #[]) rfl rfl (by kernel_rfl) (by kernel_rfl) (by kernel_rfl) (fun _ _ _ h => h) (Or.inl ⟨by kernel_rfl, fun w' hS' => by have hc := RowAt.cell (hS'.row _ (List.Mem.head _)) 0; go_simp⟩) hHeld ?_
  (try simp only [Act.put, List.setIfInBounds_toArray, List.set_cons_zero, List.set_cons_succ])
  refine take_at 1 6 (.slice va vn vc) rfl rfl (by kernel_rfl) (by kernel_rfl) (by kernel_rfl) (fun _ _ _ h => h) (Or.inl ⟨by kernel_rfl, fun w' hS' => by have hc := RowAt.cell (hS'.row _ (List.Mem.tail _ (List.Mem.head _))) 0; go_simp⟩) hHeld ?_
  (try simp only [Act.put, List.setIfInBounds_toArray, List.set_cons_zero, List.set_cons_succ])
  refine take_at 2 7 (.int .i64 j) rfl rfl (by kernel_rfl) (by kernel_rfl) (by kernel_rfl) (fun _ _ _ h => h) (Or.inl ⟨by kernel_rfl, fun w' hS' => by go_simp⟩) hHeld ?_
  (try simp only [Act.put, List.setIfInBounds_toArray, List.set_cons_zero, List.set_cons_succ])
  refine take_at 3 8 (.slice va j vc) rfl rfl (by kernel_rfl) (by kernel_rfl) (by kernel_rfl) (fun _ _ _ h => h) (Or.inl ⟨by kernel_rfl, fun w' hS' => by go_simp⟩) hHeld ?_
  (try simp only [Act.put, List.setIfInBounds_toArray, List.set_cons_zero, List.set_cons_succ])
  refine wpAnyH_ready (rs := [4]) (by kernel_rfl) (by simp) ?_
  refine AllReadyH.cons rfl (fun K hK => ?_) AllReadyH.nil
  go_simp
  change Calls Tryz.prog 22 #[.slice va j vc] _ _
  refine (implTextWas_any _ _ _ _ _ (txt_take ((hHeld.fact _ (List.Mem.head _)).2) hj)).mono ?_
  rintro _ v2 ⟨rfl, hb⟩
  have sv2 := hb.size
  rw [HS.out]
  go_wp2_with fail
  refine hK.out _ _ (hHeld.go hb) (fun hHeld => ?_)
  clear hK K hb
  (try simp only [Act.put, List.setIfInBounds_toArray, List.set_cons_zero, List.set_cons_succ])
  refine take_at 5 10 (.int .i64 S.size) rfl rfl (by kernel_rfl) (by kernel_rfl) (by kernel_rfl) (fun _ _ _ h => h) (Or.inl ⟨by kernel_rfl, fun w' hS' => by go_simp⟩) hHeld ?_
  (try simp only [Act.put, List.setIfInBounds_toArray, List.set_cons_zero, List.set_cons_succ])
  refine take_at 6 4 (.int .i64 S.size) rfl rfl (by kernel_rfl) (by kernel_rfl) (by kernel_rfl) (fun _ _ _ h => h) (Or.inl ⟨by kernel_rfl, fun w' hS' => by go_simp⟩) hHeld ?_
  (try simp only [Act.put, List.setIfInBounds_toArray, List.set_cons_zero, List.set_cons_succ])
  refine wpAnyH_done (by kernel_rfl) ?_ _
  refine NoPanic.normal ?_
  have HH : Hid (Hd w _ _ v2) := hHeld
  clear hHeld
  go_wp2_with fail
  go_ret
  exact ⟨rfl, HH.out.below⟩
end Go.Proofs.YtccoeachemnbnaaGreatDoor
namespace Go.Proofs.YtccoeachemnbnaaGreatDoor
open Go.RowKit

section
variable {P : Program} {ops : Array Oper} {Q : Exit → Act → World → Prop} {md : Region.Mode} {S : World → Prop} {z : Nat}

/-- Whatever order is picked from here on, and S holds behind every operation but number z. -/
def wpAnyL (P : Program) (md : Region.Mode) (ops : Array Oper) (Q : Exit → Act → World → Prop) (S : World → Prop) (z : Nat) : Nat → Array Bool → Act → World → Prop
  | 0, listed, a, w => Region.ready md ops listed = [] ∧ Q .normal a w
  | fuel + 1, listed, a, w =>
    (Region.ready md ops listed = [] → Q .normal a w) ∧
    ∀ i ∈ Region.ready md ops listed, wpOp P ops Q i (fun a' w' => (i ≠ z → S w') ∧ wpAnyL P md ops Q S z fuel (listed.setIfInBounds i true) a' w') a w
theorem wpAny_of_L : ∀ (fuel : Nat) (listed : Array Bool) (a : Act) (w : World), wpAnyL P md ops Q S z fuel listed a w → wpAny P md ops Q fuel listed a w
  | 0, _, _, _, h => h
  | fuel + 1, _, _, _, h => ⟨h.1, fun i hi => wpOp_mono (fun a' w' h' => wpAny_of_L fuel _ a' w' h'.2) (h.2 i hi)⟩
/-- Whatever is listed, all that it waits for is listed. -/
def ClosedL (md : Region.Mode) (ops : Array Oper) (listed : Array Bool) : Prop := ∀ (k : Nat) (o : Oper), ops[k]? = some o → listed.getD k false = true → ∀ e ∈ o.after, Region.binds md e = true → listed.getD e.on false = true
def closedB (md : Region.Mode) (ops : Array Oper) (listed : Array Bool) : Bool := (List.range ops.size).all fun k => !listed.getD k false || (ops[k]?.map fun o => o.after.all fun e => !Region.binds md e || listed.getD e.on false).getD true
theorem closedB_spec {listed : Array Bool} (h : closedB md ops listed = true) : ClosedL md ops listed := by
  intro k o ho hk e he hb
  unfold closedB at h
  rw [List.all_eq_true] at h
  have hlt : k < ops.size := (Array.getElem?_eq_some_iff.1 ho).1
  have := h k (List.mem_range.2 hlt)
  rw [hk, ho] at this
  simp only [Bool.not_true, Bool.false_or, Option.map_some, Option.getD_some, Array.all_eq_true_iff_forall_mem] at this
  have h2 := this e he
  rw [hb] at h2
  simpa using h2
theorem ClosedL.step {listed : Array Bool} {j : Nat} (h : ClosedL md ops listed) (hj : j ∈ Region.ready md ops listed) : ClosedL md ops (listed.setIfInBounds j true) := by
  intro k o ho hk e he hb
  by_cases hjk : j = k
  · subst hjk
    obtain ⟨-, o', ho', hall⟩ := mem_ready.1 hj
    rw [ho] at ho'
    cases ho'
    exact getD_set_true (hall e he hb)
  · rw [getD_set_ne false hjk] at hk
    exact getD_set_true (h k o ho hk e he hb)
/-- Number z waits for number i, perhaps by way of others. -/
def waitsB (md : Region.Mode) (ops : Array Oper) (i : Nat) : Nat → Nat → Bool
  | 0, _ => false
  | f + 1, j => (ops[j]?.map fun o => o.after.any fun e => Region.binds md e && (e.on == i || waitsB md ops i f e.on)).getD false
theorem waitsB_spec {i : Nat} {listed : Array Bool} (hc : ClosedL md ops listed) : ∀ (f j : Nat) (o : Oper), ops[j]? = some o → (∀ e ∈ o.after, Region.binds md e = true → listed.getD e.on false = true) → waitsB md ops i f j = true → listed.getD i false = true
  | 0, _, _, _, _, h => by simp [waitsB] at h
  | f + 1, j, o, ho, hall, h => by
    unfold waitsB at h
    rw [ho] at h
    simp only [Option.map_some, Option.getD_some] at h
    rw [← Array.any_toList, List.any_eq_true] at h
    obtain ⟨e, he, h3⟩ := h
    rw [Array.mem_toList_iff] at he
    simp only [Bool.and_eq_true, Bool.or_eq_true, beq_iff_eq] at h3
    obtain ⟨hb, h2⟩ := h3
    have hl := hall e he hb
    rcases h2 with rfl | h2
    · exact hl
    · cases ho2 : ops[e.on]? with
      | none =>
        cases f with
        | zero => simp [waitsB] at h2
        | succ f => unfold waitsB at h2; rw [ho2] at h2; simp at h2
      | some o2 => exact waitsB_spec hc f e.on o2 ho2 (hc e.on o2 ho2 hl) h2
/-- An operation that z waits for may be taken first, if it yields its value in every world that meets S. -/
theorem wpAnyL_first {i : Nat} {oi : Oper} {v : Value} (hi : ops[i]? = some oi) (hsel : ∀ (j : Nat) (o : Oper) cs b, ops[j]? = some o → o.op ≠ .select cs b)
    (hQ : ∀ c a w, Q (.panic c) (a.put oi.dst v) w → Q (.panic c) a w) (f0 : Nat) (hz : waitsB md ops i f0 z = true) :
    ∀ (fuel : Nat) (listed : Array Bool) (a : Act) (w : World), ClosedL md ops listed →
      (∀ j oj, ops[j]? = some oj → j ≠ i → listed.getD j true = false → (∀ e ∈ oj.after, Region.binds md e = true → e.on ≠ i) → oi.apart ops oj = true) →
      i ∈ Region.ready md ops listed → YieldsIf P ops S oi v a → S w →
      wpAnyL P md ops Q S z fuel (listed.setIfInBounds i true) (a.put oi.dst v) w → wpAnyL P md ops Q S z (fuel + 1) listed a w := by
  intro fuel
  induction fuel with
  | zero =>
    intro listed a w hcl _ hr hy hS H
    refine ⟨fun h => (by rw [h] at hr; cases hr), fun j hj => ?_⟩
    by_cases hji : j = i
    · subst hji; exact hy.wpOp hi hS ⟨fun _ => hS, H⟩
    · have := ready_mono hj hji
      rw [H.1] at this
      cases this
  | succ fuel ih =>
    intro listed a w hcl hfree hr hy hS H
    refine ⟨fun h => (by rw [h] at hr; cases hr), fun j hj => ?_⟩
    by_cases hji : j = i
    · subst hji; exact hy.wpOp hi hS ⟨fun _ => hS, H⟩
    · have h1 := H.2 j (ready_mono hj hji)
      obtain ⟨hjun, oj, hoj, hall⟩ := mem_ready.1 hj
      have hun := (mem_ready.1 hr).1
      have hnot : ∀ e ∈ oj.after, Region.binds md e = true → e.on ≠ i := fun e he hb heq => by
        have h1 := hall e he hb
        have h0 := (mem_ready.1 hr).1
        rw [heq] at h1
        rcases Nat.lt_or_ge i listed.size with h' | h'
        · simp [h'] at h0 h1; rw [h0] at h1; cases h1
        · simp [Array.getElem?_eq_none h'] at h1
      have hjz : j ≠ z := fun e => by
        subst e
        have h1 := waitsB_spec hcl f0 j oj hoj hall hz
        rcases Nat.lt_or_ge i listed.size with h' | h'
        · simp [h'] at hun h1; rw [hun] at h1; cases h1
        · simp [Array.getElem?_eq_none h'] at h1
      have h2 := wpOp_putIf hoj (hfree j oj hoj hji hjun hnot) (fun cs b => hsel i oi cs b hi) (fun cs b => hsel j oj cs b hoj) hQ hy h1
      have hfree' : ∀ k ok, ops[k]? = some ok → k ≠ i → (listed.setIfInBounds j true).getD k true = false →
          (∀ e ∈ ok.after, Region.binds md e = true → e.on ≠ i) → oi.apart ops ok = true := fun k ok hk hki hun hno => by
        refine hfree k ok hk hki ?_ hno
        by_cases hjk : j = k
        · subst hjk; exact hjun
        · rw [getD_set_ne true hjk] at hun; exact hun
      refine wpOp_mono (fun a' w' h3 => ⟨h3.2.1, ih (listed.setIfInBounds j true) a' w' (hcl.step hj) hfree' (ready_mono hr (Ne.symm hji)) h3.1 (h3.2.1 hjz) ?_⟩) h2
      rw [Array.setIfInBounds_comm _ _ hji]
      exact h3.2.2
/-- Take number i first, what it yields told by a slot's number; number z waits for it. -/
theorem takeL (i d : Nat) (v : Value) {oi : Oper} {fuel : Nat} {listed : Array Bool} {a : Act} {w : World} (hi : ops[i]? = some oi) (hd : oi.dst = some d)
    (hs : Region.noSelect ops = true) (hf : Region.free md ops listed i = true) (hr : (Region.ready md ops listed).contains i = true) (hc : closedB md ops listed = true) (hz : waitsB md ops i 40 z = true)
    (hQ : ∀ c a w, Q (.panic c) (a.put (some d) v) w → Q (.panic c) a w) (hy : YieldsIf P ops S oi v a) (hS : S w)
    (h : wpAnyL P md ops Q S z fuel (listed.setIfInBounds i true) (a.put (some d) v) w) : wpAnyL P md ops Q S z (fuel + 1) listed a w := by
  rw [← hd] at hQ h
  exact wpAnyL_first hi (Region.noSelect_spec hs) hQ 40 hz fuel listed a w (closedB_spec hc) (Region.free_spec hi hf) (by simpa using hr) hy hS h
def AllReadyL (P : Program) (md : Region.Mode) (ops : Array Oper) (Q : Exit → Act → World → Prop) (S : World → Prop) (z : Nat) (fuel : Nat) (listed : Array Bool) (a : Act) (w : World) (rs : List Nat) : Prop :=
  ∀ i ∈ rs, wpOp P ops Q i (fun a' w' => (i ≠ z → S w') ∧ wpAnyL P md ops Q S z fuel (listed.setIfInBounds i true) a' w') a w
theorem AllReadyL.nil {fuel : Nat} {listed : Array Bool} {a : Act} {w : World} : AllReadyL P md ops Q S z fuel listed a w [] := fun _ h => by cases h
theorem AllReadyL.cons {fuel : Nat} {listed : Array Bool} {a : Act} {w : World} {i : Nat} {o : Oper} {rs : List Nat} (ho : ops[i]? = some o)
    (h : ∀ K' : Act → World → Prop, Shut (∀ a w, (i ≠ z → S w) → ((i ≠ z → S w) → wpAnyL P md ops Q S z fuel (listed.setIfInBounds i true) a w) → K' a w) → if Region.wanted o (yielded ops a.tmps) = true then Oper.wp P o a w K' Q else K' (a.put o.dst undef) w)
    (hs : AllReadyL P md ops Q S z fuel listed a w rs) : AllReadyL P md ops Q S z fuel listed a w (i :: rs) := fun j hj => by
  rcases List.mem_cons.1 hj with rfl | hj
  · exact wpOp_step ho (fun K' hK => h K' (fun a w hS hW => hK a w ⟨hS, hW hS⟩))
  · exact hs j hj
theorem wpAnyL_ready {rs : List Nat} {fuel : Nat} {listed : Array Bool} {a : Act} {w : World} (hr : Region.ready md ops listed = rs) (hne : rs ≠ [])
    (h : AllReadyL P md ops Q S z fuel listed a w rs) : wpAnyL P md ops Q S z (fuel + 1) listed a w := ⟨fun h0 => absurd (hr ▸ h0) hne, hr ▸ h⟩
theorem wpAnyL_done {listed : Array Bool} {a : Act} {w : World} (hr : Region.ready md ops listed = []) (h : Q .normal a w) :
    ∀ fuel, wpAnyL P md ops Q S z fuel listed a w
  | 0 => ⟨hr, h⟩
  | _ + 1 => ⟨fun _ => h, by rw [hr]; simp⟩
/-- The beginning: S is shown of the world behind the draw; behind number z it is asked no more. -/
theorem wp_region_L (S : World → Prop) (z : Nat) {id : Nat} {a : Act} {w : World} (hm : P.follows .mixedOrders = true) (hS : S w.drew)
    (h : S w.drew → wpAnyL P .any ops Q S z ops.size (Array.replicate ops.size false) a w.drew) : (Code.region id ops true).wp P Q a w :=
  wp_region_any hm (wpAny_of_L _ _ _ _ (h hS))
end
end Go.Proofs.YtccoeachemnbnaaGreatDoor
namespace Go.Proofs.YtccoeachemnbnaaGreatDoor
open Go.RowKit

/-- What the package-level variable holds. -/
def GlobE (w : World) : Prop := ∃ a, 0 < w.heap.size ∧ w.cell? ⟨0, 0, none⟩ = some (cannotV a)
theorem mono_globE : Mono GlobE := fun _ _ ⟨a, h1, h2⟩ hb => ⟨a, Nat.lt_of_lt_of_le h1 hb.size, (hb.cell (p := ⟨0, 0, none⟩) h1).trans h2⟩
theorem mono_outlOf (d : List Bl) (v : Value) : Mono fun u => OutlOf u d v := fun _ _ h hb => by
  obtain ⟨a, n, c, e, h1, h2⟩ := h
  exact ⟨a, n, c, e, h1.below hb, h2⟩
/-- Where a place is, if of its text only what q leaves is there. -/
def spotF (q : List Sg → List Int) (d : List Bl) (b c a : Int) : Int × Int × Int := match plT d b c a with
  | some s => (b, c, ((q (s.take a.toNat)).length : Int))
  | none => (0, 0, 0)
theorem placeT_parts2 {d : List Bl} {pb pc pa : Int} {s : List Sg} (h : placeT d pb pc pa = some s) : ∃ i : Nat, pb = i ∧ i < d.length ∧ textIn (d.getD i bl0) pc = some s ∧ 0 ≤ pa ∧ pa ≤ (s.length : Int) := by
  by_cases hb : 0 ≤ pb ∧ pb < (d.length : Int)
  · rw [placeT_in hb] at h
    cases ht : textIn (d.getD pb.toNat bl0) pc with
    | none => rw [ht] at h; cases h
    | some t =>
      rw [ht] at h
      simp only [Option.bind_some] at h
      split at h
      · rename_i ha
        cases h
        exact ⟨pb.toNat, by omega, by omega, ht, ha.1, ha.2⟩
      · cases h
  · rw [placeT_out hb] at h
    cases h
theorem noPl_is : ∃ S, noPl = .iface 105 (.string S) := ⟨_, rfl⟩
set_option maxRecDepth 100000 in
set_option maxHeartbeats 16000000 in
theorem movedTo_is (b c a k : Int) (w : World) : Calls Tryz.prog 38 #[.agg #[.int .i64 b, .int .i64 c, .int .i64 a], .int .i64 k] w fun e w' => e = .returned (.agg #[.int .i64 b, .int .i64 c, .int .i64 k]) ∧ Below w.heap.size w w' := by
  go_enter Tryz.func38, Tryz.ntmps38
  go_wp2_with fail
  have hr : RowAt ((w.alloc (.cells #[.int .i64 b, .int .i64 c, .int .i64 k] 27)).alloc (.cells #[.int .i64 b, .int .i64 c, .int .i64 k] 27)) (w.heap.size + 1) #[.int .i64 b, .int .i64 c, .int .i64 k] 27 := by
    have h := rowAt_new (w.alloc (.cells #[.int .i64 b, .int .i64 c, .int .i64 k] 27)) #[.int .i64 b, .int .i64 c, .int .i64 k] 27
    simpa using h
  exact bodyPost_ret (v := .agg #[.int .i64 b, .int .i64 c, .int .i64 k]) (results_cell_row (p := 4) (ty := 27) rfl _ _ (w.heap.size + 1) 27 _ _ _ rfl hr Tryz.underlying27 rfl (by kernel_rfl)) rfl ⟨rfl, ((Below.refl _ _).alloc (Nat.le_refl _) _).alloc (by simp) _⟩
set_option maxRecDepth 100000 in
set_option maxHeartbeats 16000000 in
theorem spotByNow_no {a : Option Addr} {n cap : Nat} {d : List Bl} {pb pc pa : Int}  {w : World} (h : Dc w a n cap d) (hG : GlobE w) (hp : plT d pb pc pa = none) :
    Calls Tryz.prog 21 #[.agg #[.slice a n cap], .agg #[.int .i64 pb, .int .i64 pc, .int .i64 pa], .func (.func 29) #[] #[]] w fun e w' => e = .returned (.agg #[.int .i64 0, .int .i64 0, .int .i64 0]) ∧ Below w.heap.size w w' := by
  obtain ⟨S0, HS0⟩ : ∃ S, Hid (noPl = .iface 105 (.string S)) := noPl_is
  have HP : Hid (plT d pb pc pa = none) := hp
  skip
  have HH := hd_add (hd_add (hd_start w) (fun u => Dc u a n cap d) (mono_dc _ _ _ _) h) GlobE mono_globE hG
  clear h hG hp 
  go_enter Tryz.func21, Tryz.ntmps21
  go_upto_region 1 with fail
  replace HH := hd_box HH #[.slice a n cap] 25
  replace HH := hd_box HH #[.int .i64 pb, .int .i64 pc, .int .i64 pa] 27
  replace HH := hd_box HH #[.int .i64 0, .int .i64 0, .int .i64 0] 27
  have fv3 : ((w.alloc (.cells #[.slice a n cap] 25)).alloc (.cells #[.int .i64 pb, .int .i64 pc, .int .i64 pa] 27)).heap.size = w.heap.size + 2 := by simp
  have ev3 : (w.alloc (.cells #[.slice a n cap] 25)).heap.size = w.heap.size + 1 := by simp
  rw [fv3, ev3] at HH
  have sv3 : w.heap.size + 2 < (((w.alloc (.cells #[.slice a n cap] 25)).alloc (.cells #[.int .i64 pb, .int .i64 pc, .int .i64 pa] 27)).alloc (.cells #[.int .i64 0, .int .i64 0, .int .i64 0] 27)).heap.size := by simp
  generalize (((w.alloc (.cells #[.slice a n cap] 25)).alloc (.cells #[.int .i64 pb, .int .i64 pc, .int .i64 pa] 27)).alloc (.cells #[.int .i64 0, .int .i64 0, .int .i64 0] 27)) = v3 at HH sv3 ⊢
  clear ev3 fv3
  have kP_0 : v3.cell? ⟨w.heap.size + 1, 0, none⟩ = some (.int .i64 pb) := RowAt.cell (HH.out.row _ (List.Mem.tail _ (List.Mem.head _))) 0
  have kP_1 : v3.cell? ⟨w.heap.size + 1, 1, none⟩ = some (.int .i64 pc) := RowAt.cell (HH.out.row _ (List.Mem.tail _ (List.Mem.head _))) 1
  have kP_2 : v3.cell? ⟨w.heap.size + 1, 2, none⟩ = some (.int .i64 pa) := RowAt.cell (HH.out.row _ (List.Mem.tail _ (List.Mem.head _))) 2
  have kA_0 : v3.cell? ⟨w.heap.size, 0, none⟩ = some (.slice a n cap) := RowAt.cell (HH.out.row _ (List.Mem.tail _ (List.Mem.tail _ (List.Mem.head _)))) 0
  have sA := HH.out.below.size
  go_wp2_with fail
  refine (outlOf_any ((HH.out.fact _ (List.Mem.tail _ (List.Mem.head _))).2)).mono ?_
  rintro e v4 ⟨⟨ov, rfl, hov⟩, hb⟩
  have sv4 := hb.size
  replace HH := hd_go HH hb
  clear kP_0 kP_1 kP_2 kA_0
  replace HH := hd_add HH (fun u => OutlOf u d ov) (mono_outlOf _ _) hov
  have kP_0 : v4.cell? ⟨w.heap.size + 1, 0, none⟩ = some (.int .i64 pb) := RowAt.cell (HH.out.row _ (List.Mem.tail _ (List.Mem.head _))) 0
  have kP_1 : v4.cell? ⟨w.heap.size + 1, 1, none⟩ = some (.int .i64 pc) := RowAt.cell (HH.out.row _ (List.Mem.tail _ (List.Mem.head _))) 1
  have kP_2 : v4.cell? ⟨w.heap.size + 1, 2, none⟩ = some (.int .i64 pa) := RowAt.cell (HH.out.row _ (List.Mem.tail _ (List.Mem.head _))) 2
  have kA_0 : v4.cell? ⟨w.heap.size, 0, none⟩ = some (.slice a n cap) := RowAt.cell (HH.out.row _ (List.Mem.tail _ (List.Mem.tail _ (List.Mem.head _)))) 0
  clear hb hov
  go_wp2_with (refine wpList_load_row rfl 27 (.tmp 4) rfl (w.heap.size + 1) rfl 27 #[.int .i64 pb, .int .i64 pc, .int .i64 pa] (0, 0) _ ((HH.out.row _ (List.Mem.tail _ (List.Mem.head _)))) Tryz.underlying27 rfl (by kernel_rfl) ?_)
  refine (textAt_of ((HH.out.fact _ (List.Mem.head _)).2)).mono ?_
  rintro e v5 ⟨htx, hb⟩
  rw [HP.out] at htx
  have sv5 := hb.size
  replace HH := hd_go HH hb
  clear kP_0 kP_1 kP_2 kA_0
  have kP_0 : v5.cell? ⟨w.heap.size + 1, 0, none⟩ = some (.int .i64 pb) := RowAt.cell (HH.out.row _ (List.Mem.tail _ (List.Mem.head _))) 0
  have kP_1 : v5.cell? ⟨w.heap.size + 1, 1, none⟩ = some (.int .i64 pc) := RowAt.cell (HH.out.row _ (List.Mem.tail _ (List.Mem.head _))) 1
  have kP_2 : v5.cell? ⟨w.heap.size + 1, 2, none⟩ = some (.int .i64 pa) := RowAt.cell (HH.out.row _ (List.Mem.tail _ (List.Mem.head _))) 2
  have kA_0 : v5.cell? ⟨w.heap.size, 0, none⟩ = some (.slice a n cap) := RowAt.cell (HH.out.row _ (List.Mem.tail _ (List.Mem.tail _ (List.Mem.head _)))) 0
  obtain ⟨-, rfl⟩ := htx.resolve_right (fun ⟨_, _, _, _, ht, _⟩ => by cases ht)
  rw [HS0.out]
  obtain ⟨ea, hea, hec⟩ := (HH.out.fact _ (List.Mem.tail _ (List.Mem.head _))).2
  have HEC : Hid (_) := hec
  clear hb
  have kG := hec
  go_wp2_with fail
  refine (isCannot_yes HEC.out).mono ?_
  rintro e v6 ⟨rfl, hw⟩
  subst hw
  go_wp2_with (refine wpList_store_row rfl 27 (.tmp 6) (.tmp 26) rfl (w.heap.size + 2) #[.int .i64 0, .int .i64 0, .int .i64 0] rfl rfl 27 _ ((HH.out.row _ (List.Mem.head _))) (by kernel_rfl) rfl (by simp [Value.oneCell']) ?_)
  refine bodyPost_ret (v := .agg #[.int .i64 0, .int .i64 0, .int .i64 0]) (results_cell_row (p := 6) (ty := 27) rfl _ _ (w.heap.size + 2) 27 _ _ _ rfl (RowAt.setRow ((HH.out.row _ (List.Mem.head _))) _) Tryz.underlying27 rfl (by kernel_rfl)) rfl ⟨rfl, below_row HH.out.below (by omega) _⟩
set_option maxRecDepth 100000 in
set_option maxHeartbeats 16000000 in
theorem spotByNow_yes {a : Option Addr} {n cap : Nat} {d : List Bl} {pb pc : Int} {s : List Sg} {j : Nat} {w : World} (h : Dc w a n cap d) (hG : GlobE w) (hp : plT d pb pc j = some s) (hj : j ≤ s.length) :
    Calls Tryz.prog 21 #[.agg #[.slice a n cap], .agg #[.int .i64 pb, .int .i64 pc, .int .i64 (j : Int)], .func (.func 29) #[] #[]] w fun e w' => e = .returned (.agg #[.int .i64 pb, .int .i64 pc, .int .i64 ((nowL (s.take j)).length : Int)]) ∧ Below w.heap.size w w' := by
  obtain ⟨S0, HS0⟩ : ∃ S, Hid (noPl = .iface 105 (.string S)) := noPl_is
  have HP : Hid (plT d pb pc j = some s) := hp
  have HJ : Hid (j ≤ s.length) := hj
  have HH := hd_add (hd_add (hd_start w) (fun u => Dc u a n cap d) (mono_dc _ _ _ _) h) GlobE mono_globE hG
  clear h hG hp hj
  go_enter Tryz.func21, Tryz.ntmps21
  go_upto_region 1 with fail
  replace HH := hd_box HH #[.slice a n cap] 25
  replace HH := hd_box HH #[.int .i64 pb, .int .i64 pc, .int .i64 (j : Int)] 27
  replace HH := hd_box HH #[.int .i64 0, .int .i64 0, .int .i64 0] 27
  have fv3 : ((w.alloc (.cells #[.slice a n cap] 25)).alloc (.cells #[.int .i64 pb, .int .i64 pc, .int .i64 (j : Int)] 27)).heap.size = w.heap.size + 2 := by simp
  have ev3 : (w.alloc (.cells #[.slice a n cap] 25)).heap.size = w.heap.size + 1 := by simp
  rw [fv3, ev3] at HH
  have sv3 : w.heap.size + 2 < (((w.alloc (.cells #[.slice a n cap] 25)).alloc (.cells #[.int .i64 pb, .int .i64 pc, .int .i64 (j : Int)] 27)).alloc (.cells #[.int .i64 0, .int .i64 0, .int .i64 0] 27)).heap.size := by simp
  generalize (((w.alloc (.cells #[.slice a n cap] 25)).alloc (.cells #[.int .i64 pb, .int .i64 pc, .int .i64 (j : Int)] 27)).alloc (.cells #[.int .i64 0, .int .i64 0, .int .i64 0] 27)) = v3 at HH sv3 ⊢
  clear ev3 fv3
  have kP_0 : v3.cell? ⟨w.heap.size + 1, 0, none⟩ = some (.int .i64 pb) := RowAt.cell (HH.out.row _ (List.Mem.tail _ (List.Mem.head _))) 0
  have kP_1 : v3.cell? ⟨w.heap.size + 1, 1, none⟩ = some (.int .i64 pc) := RowAt.cell (HH.out.row _ (List.Mem.tail _ (List.Mem.head _))) 1
  have kP_2 : v3.cell? ⟨w.heap.size + 1, 2, none⟩ = some (.int .i64 (j : Int)) := RowAt.cell (HH.out.row _ (List.Mem.tail _ (List.Mem.head _))) 2
  have kA_0 : v3.cell? ⟨w.heap.size, 0, none⟩ = some (.slice a n cap) := RowAt.cell (HH.out.row _ (List.Mem.tail _ (List.Mem.tail _ (List.Mem.head _)))) 0
  have sA := HH.out.below.size
  go_wp2_with fail
  refine (outlOf_any ((HH.out.fact _ (List.Mem.tail _ (List.Mem.head _))).2)).mono ?_
  rintro e v4 ⟨⟨ov, rfl, hov⟩, hb⟩
  have sv4 := hb.size
  replace HH := hd_go HH hb
  clear kP_0 kP_1 kP_2 kA_0
  replace HH := hd_add HH (fun u => OutlOf u d ov) (mono_outlOf _ _) hov
  have kP_0 : v4.cell? ⟨w.heap.size + 1, 0, none⟩ = some (.int .i64 pb) := RowAt.cell (HH.out.row _ (List.Mem.tail _ (List.Mem.head _))) 0
  have kP_1 : v4.cell? ⟨w.heap.size + 1, 1, none⟩ = some (.int .i64 pc) := RowAt.cell (HH.out.row _ (List.Mem.tail _ (List.Mem.head _))) 1
  have kP_2 : v4.cell? ⟨w.heap.size + 1, 2, none⟩ = some (.int .i64 (j : Int)) := RowAt.cell (HH.out.row _ (List.Mem.tail _ (List.Mem.head _))) 2
  have kA_0 : v4.cell? ⟨w.heap.size, 0, none⟩ = some (.slice a n cap) := RowAt.cell (HH.out.row _ (List.Mem.tail _ (List.Mem.tail _ (List.Mem.head _)))) 0
  clear hb hov
  go_wp2_with (refine wpList_load_row rfl 27 (.tmp 4) rfl (w.heap.size + 1) rfl 27 #[.int .i64 pb, .int .i64 pc, .int .i64 (j : Int)] (0, 0) _ ((HH.out.row _ (List.Mem.tail _ (List.Mem.head _)))) Tryz.underlying27 rfl (by kernel_rfl) ?_)
  refine (textAt_of ((HH.out.fact _ (List.Mem.head _)).2)).mono ?_
  rintro e v5 ⟨htx, hb⟩
  rw [HP.out] at htx
  have sv5 := hb.size
  replace HH := hd_go HH hb
  clear kP_0 kP_1 kP_2 kA_0
  have kP_0 : v5.cell? ⟨w.heap.size + 1, 0, none⟩ = some (.int .i64 pb) := RowAt.cell (HH.out.row _ (List.Mem.tail _ (List.Mem.head _))) 0
  have kP_1 : v5.cell? ⟨w.heap.size + 1, 1, none⟩ = some (.int .i64 pc) := RowAt.cell (HH.out.row _ (List.Mem.tail _ (List.Mem.head _))) 1
  have kP_2 : v5.cell? ⟨w.heap.size + 1, 2, none⟩ = some (.int .i64 (j : Int)) := RowAt.cell (HH.out.row _ (List.Mem.tail _ (List.Mem.head _))) 2
  have kA_0 : v5.cell? ⟨w.heap.size, 0, none⟩ = some (.slice a n cap) := RowAt.cell (HH.out.row _ (List.Mem.tail _ (List.Mem.tail _ (List.Mem.head _)))) 0
  rcases htx with ⟨ht, -⟩ | ⟨t, va, vn, vc, ht, rfl, htt⟩
  · cases ht
  simp only [Option.some.injEq] at ht
  subst ht
  obtain ⟨ea, hea, hec⟩ := (HH.out.fact _ (List.Mem.tail _ (List.Mem.head _))).2
  have hvn : vn = s.length := htt.1
  have hjv : j ≤ vn := by have := HJ.out; omega
  clear hvn
  replace HH := hd_add HH (fun u => Txt u va vn vc s) (mono_txt _ _ _ _) htt
  clear htt hb
  have kG := hec
  go_wp2_with fail
  refine (isCannot_nil ea _).mono ?_
  rintro e v9 ⟨rfl, hw⟩
  subst hw
  clear kG hea hec
  go_wp2_with fail
  refine (aheadNow).mono ?_
  rintro e v6 ⟨⟨X, Y, rfl, hX, hY⟩, hb⟩
  have sv6 := hb.size
  replace HH := hd_go HH hb
  clear kP_0 kP_1 kP_2 kA_0
  have kP_0 : v6.cell? ⟨w.heap.size + 1, 0, none⟩ = some (.int .i64 pb) := RowAt.cell (HH.out.row _ (List.Mem.tail _ (List.Mem.head _))) 0
  have kP_1 : v6.cell? ⟨w.heap.size + 1, 1, none⟩ = some (.int .i64 pc) := RowAt.cell (HH.out.row _ (List.Mem.tail _ (List.Mem.head _))) 1
  have kP_2 : v6.cell? ⟨w.heap.size + 1, 2, none⟩ = some (.int .i64 (j : Int)) := RowAt.cell (HH.out.row _ (List.Mem.tail _ (List.Mem.head _))) 2
  have kA_0 : v6.cell? ⟨w.heap.size, 0, none⟩ = some (.slice a n cap) := RowAt.cell (HH.out.row _ (List.Mem.tail _ (List.Mem.tail _ (List.Mem.head _)))) 0
  replace HH := hd_row (hd_row HH X _ _ hX) Y _ _ hY
  clear hb hX hY
  clear kP_0 kP_1 kP_2 kA_0
  have kP_0 : v6.cell? ⟨w.heap.size + 1, 0, none⟩ = some (.int .i64 pb) := RowAt.cell (HH.out.row _ (List.Mem.tail _ (List.Mem.tail _ (List.Mem.tail _ (List.Mem.head _))))) 0
  have kP_1 : v6.cell? ⟨w.heap.size + 1, 1, none⟩ = some (.int .i64 pc) := RowAt.cell (HH.out.row _ (List.Mem.tail _ (List.Mem.tail _ (List.Mem.tail _ (List.Mem.head _))))) 1
  have kP_2 : v6.cell? ⟨w.heap.size + 1, 2, none⟩ = some (.int .i64 (j : Int)) := RowAt.cell (HH.out.row _ (List.Mem.tail _ (List.Mem.tail _ (List.Mem.tail _ (List.Mem.head _))))) 2
  have kA_0 : v6.cell? ⟨w.heap.size, 0, none⟩ = some (.slice a n cap) := RowAt.cell (HH.out.row _ (List.Mem.tail _ (List.Mem.tail _ (List.Mem.tail _ (List.Mem.tail _ (List.Mem.head _)))))) 0
  go_upto_region 6 with fail
  clear kP_0 kP_1 kP_2 kA_0
  refine wp_region_noPanic ?_
  refine wp_region_L (fun w' => Hd w [(Y, #[.func (.func 29) #[] #[]], 46), (X, #[.slice va vn vc], 47), (w.heap.size + 2, #[.int .i64 0, .int .i64 0, .int .i64 0], 27), (w.heap.size + 1, #[.int .i64 pb, .int .i64 pc, .int .i64 (j : Int)], 27), (w.heap.size, #[.slice a n cap], 25)] [fun u => Txt u va vn vc s, fun u => OutlOf u d ov, fun u => GlobE u, fun u => Dc u a n cap d] w') 6 (by kernel_rfl) ((HH.out.go (Below.refl _ _).drew)) (fun hHeld => ?_)
  clear HH
  have sv7 : v6.heap.size ≤ v6.drew.heap.size := Nat.le_refl _
  generalize v6.drew = v7 at hHeld sv7 ⊢
  refine takeL 0 30 (.agg #[.int .i64 pb, .int .i64 pc, .int .i64 (j : Int)]) rfl rfl (by kernel_rfl) (by kernel_rfl) (by kernel_rfl) (by kernel_rfl) (by kernel_rfl) (fun _ _ _ h => h) (yieldsIf_load_row (by kernel_rfl) 27 (.tmp 4) rfl (w.heap.size + 1) rfl 27 #[.int .i64 pb, .int .i64 pc, .int .i64 (j : Int)] (0, 0) _ (fun w' h => h.row _ (List.Mem.tail _ (List.Mem.tail _ (List.Mem.tail _ (List.Mem.head _))))) Tryz.underlying27 rfl (by kernel_rfl)) hHeld ?_
  (try simp only [Act.put, List.setIfInBounds_toArray, List.set_cons_zero, List.set_cons_succ])
  refine takeL 1 31 (.func (.func 58) #[] #[.pointer (some ⟨Y, 0, none⟩), .pointer (some ⟨X, 0, none⟩)]) rfl rfl (by kernel_rfl) (by kernel_rfl) (by kernel_rfl) (by kernel_rfl) (by kernel_rfl) (fun _ _ _ h => h) (Or.inl ⟨by kernel_rfl, fun w' hS' => by go_simp⟩) hHeld ?_
  (try simp only [Act.put, List.setIfInBounds_toArray, List.set_cons_zero, List.set_cons_succ])
  refine takeL 2 32 (.pointer (some ⟨w.heap.size + 1, 2, none⟩)) rfl rfl (by kernel_rfl) (by kernel_rfl) (by kernel_rfl) (by kernel_rfl) (by kernel_rfl) (fun _ _ _ h => h) (Or.inl ⟨by kernel_rfl, fun w' hS' => by go_simp⟩) hHeld ?_
  (try simp only [Act.put, List.setIfInBounds_toArray, List.set_cons_zero, List.set_cons_succ])
  refine takeL 3 33 (.int .i64 (j : Int)) rfl rfl (by kernel_rfl) (by kernel_rfl) (by kernel_rfl) (by kernel_rfl) (by kernel_rfl) (fun _ _ _ h => h) (Or.inl ⟨by kernel_rfl, fun w' hS' => by have hc := RowAt.cell (hS'.row _ (List.Mem.tail _ (List.Mem.tail _ (List.Mem.tail _ (List.Mem.head _))))) 2; go_simp⟩) hHeld ?_
  (try simp only [Act.put, List.setIfInBounds_toArray, List.set_cons_zero, List.set_cons_succ])
  refine wpAnyL_ready (rs := [4]) (by kernel_rfl) (by simp) ?_
  refine AllReadyL.cons rfl (fun K hK => ?_) AllReadyL.nil
  go_simp
  change Calls Tryz.prog 58 #[.int .i64 (j : Int), .pointer (some ⟨Y, 0, none⟩), .pointer (some ⟨X, 0, none⟩)] _ _
  refine (countNow ((hHeld.row _ (List.Mem.tail _ (List.Mem.head _)))) ((hHeld.row _ (List.Mem.head _))) ((hHeld.fact _ (List.Mem.head _)).2) hjv).mono ?_
  rintro _ v8 ⟨rfl, hb⟩
  have sv8 := hb.size
  obtain ⟨N, HN⟩ : ∃ N, Hid ((nowL (s.take j)).length = N) := ⟨_, rfl⟩
  rw [HN.out]
  go_wp2_with fail
  refine hK.out _ _ (fun _ => hHeld.go hb) (fun hHeld => ?_)
  replace hHeld := hHeld (by decide)
  clear hK K hb
  (try simp only [Act.put, List.setIfInBounds_toArray, List.set_cons_zero, List.set_cons_succ])
  refine wpAnyL_ready (rs := [5]) (by kernel_rfl) (by simp) ?_
  refine AllReadyL.cons rfl (fun K hK => ?_) AllReadyL.nil
  go_simp
  go_at_call 38
  refine (movedTo_is pb pc (j : Int) (N : Int) _).mono ?_
  rintro _ v9 ⟨rfl, hb⟩
  have sv9 := hb.size
  go_wp2_with fail
  refine hK.out _ _ (fun _ => hHeld.go hb) (fun hHeld => ?_)
  replace hHeld := hHeld (by decide)
  clear hK K hb
  (try simp only [Act.put, List.setIfInBounds_toArray, List.set_cons_zero, List.set_cons_succ])
  refine wpAnyL_ready (rs := [6]) (by kernel_rfl) (by simp) ?_
  refine AllReadyL.cons rfl (fun K hK => ?_) AllReadyL.nil
  rw [if_pos (by kernel_rfl)]
  refine wp_store_row 27 (.tmp 6) (.tmp 35) rfl (w.heap.size + 2) #[.int .i64 pb, .int .i64 pc, .int .i64 (N : Int)] rfl rfl 27 _ ((hHeld.row _ (List.Mem.tail _ (List.Mem.tail _ (List.Mem.head _))))) (by kernel_rfl) rfl (by simp [Value.oneCell']) ?_
  refine hK.out _ _ (fun h => absurd rfl h) (fun _ => ?_)
  clear hK K
  (try simp only [Act.put, List.setIfInBounds_toArray])
  refine wpAnyL_done (by kernel_rfl) ?_ _
  refine NoPanic.normal ?_
  have HH : Hid (Hd w _ _ v9) := hHeld
  clear hHeld
  have kP_0 : v9.cell? ⟨w.heap.size + 1, 0, none⟩ = some (.int .i64 pb) := RowAt.cell (HH.out.row _ (List.Mem.tail _ (List.Mem.tail _ (List.Mem.tail _ (List.Mem.head _))))) 0
  have kP_1 : v9.cell? ⟨w.heap.size + 1, 1, none⟩ = some (.int .i64 pc) := RowAt.cell (HH.out.row _ (List.Mem.tail _ (List.Mem.tail _ (List.Mem.tail _ (List.Mem.head _))))) 1
  have kP_2 : v9.cell? ⟨w.heap.size + 1, 2, none⟩ = some (.int .i64 (j : Int)) := RowAt.cell (HH.out.row _ (List.Mem.tail _ (List.Mem.tail _ (List.Mem.tail _ (List.Mem.head _))))) 2
  have kA_0 : v9.cell? ⟨w.heap.size, 0, none⟩ = some (.slice a n cap) := RowAt.cell (HH.out.row _ (List.Mem.tail _ (List.Mem.tail _ (List.Mem.tail _ (List.Mem.tail _ (List.Mem.head _)))))) 0
  go_wp2_with fail
  rw [HN.out]
  refine bodyPost_ret (v := .agg #[.int .i64 pb, .int .i64 pc, .int .i64 (N : Int)]) (results_cell_row (p := 6) (ty := 27) rfl _ _ (w.heap.size + 2) 27 _ _ _ rfl (RowAt.setRow ((HH.out.row _ (List.Mem.tail _ (List.Mem.tail _ (List.Mem.head _))))) _) Tryz.underlying27 rfl (by kernel_rfl)) rfl ⟨rfl, below_row HH.out.below (by omega) _⟩
set_option maxRecDepth 100000 in
set_option maxHeartbeats 16000000 in
theorem implSpotNow_any {a : Option Addr} {n cap : Nat} {d : List Bl} {pb pc pa x y z : Int} {w : World} (hx : spotF nowL d pb pc pa = (x, y, z)) (h : Dc w a n cap d) (hG : GlobE w) :
    Calls Tryz.prog 11 #[.agg #[.slice a n cap], .agg #[.int .i64 pb, .int .i64 pc, .int .i64 pa]] w fun e w' => e = .returned (.agg #[.int .i64 x, .int .i64 y, .int .i64 z]) ∧ Below w.heap.size w w' := by
  have hby : ∀ (u : World), Dc u a n cap d → GlobE u → Calls Tryz.prog 21 #[.agg #[.slice a n cap], .agg #[.int .i64 pb, .int .i64 pc, .int .i64 pa], .func (.func 29) #[] #[]] u fun e w' => e = .returned (.agg #[.int .i64 x, .int .i64 y, .int .i64 z]) ∧ Below u.heap.size u w' := by
    intro u hu hGu
    unfold spotF at hx
    cases hp : plT d pb pc pa with
    | none =>
      rw [hp] at hx
      simp only [Prod.mk.injEq] at hx
      obtain ⟨rfl, rfl, rfl⟩ := hx
      exact spotByNow_no hu hGu hp
    | some s =>
      rw [hp] at hx
      simp only [Prod.mk.injEq] at hx
      obtain ⟨rfl, rfl, rfl⟩ := hx
      have h2 := hp
      unfold plT at h2
      split at h2
      · obtain ⟨i, rfl, -, -, h0, h1⟩ := placeT_parts2 h2
        obtain ⟨j, rfl⟩ : ∃ j : Nat, pa = j := ⟨pa.toNat, by omega⟩
        rw [Int.toNat_natCast]
        exact spotByNow_yes hu hGu hp (by omega)
      · cases h2
  have HBY : Hid (_) := hby
  have HH := hd_add (hd_add (hd_start w) (fun u => Dc u a n cap d) (mono_dc _ _ _ _) h) GlobE mono_globE hG
  clear h hG hx hby
  go_enter Tryz.func11, Tryz.ntmps11
  go_upto_region 1 with fail
  replace HH := hd_box HH #[.slice a n cap] 25
  replace HH := hd_box HH #[.int .i64 pb, .int .i64 pc, .int .i64 pa] 27
  replace HH := hd_box HH #[.int .i64 0, .int .i64 0, .int .i64 0] 27
  have fv3 : ((w.alloc (.cells #[.slice a n cap] 25)).alloc (.cells #[.int .i64 pb, .int .i64 pc, .int .i64 pa] 27)).heap.size = w.heap.size + 2 := by simp
  have ev3 : (w.alloc (.cells #[.slice a n cap] 25)).heap.size = w.heap.size + 1 := by simp
  rw [fv3, ev3] at HH
  have sv3 : w.heap.size + 2 < (((w.alloc (.cells #[.slice a n cap] 25)).alloc (.cells #[.int .i64 pb, .int .i64 pc, .int .i64 pa] 27)).alloc (.cells #[.int .i64 0, .int .i64 0, .int .i64 0] 27)).heap.size := by simp
  generalize (((w.alloc (.cells #[.slice a n cap] 25)).alloc (.cells #[.int .i64 pb, .int .i64 pc, .int .i64 pa] 27)).alloc (.cells #[.int .i64 0, .int .i64 0, .int .i64 0] 27)) = v3 at HH sv3 ⊢
  clear ev3 fv3
  have kA_0 : v3.cell? ⟨w.heap.size, 0, none⟩ = some (.slice a n cap) := RowAt.cell (HH.out.row _ (List.Mem.tail _ (List.Mem.tail _ (List.Mem.head _)))) 0
  have sA := HH.out.below.size
  go_wp2_with (refine wpList_load_row rfl 27 (.tmp 3) rfl (w.heap.size + 1) rfl 27 #[.int .i64 pb, .int .i64 pc, .int .i64 pa] (0, 0) _ ((HH.out.row _ (List.Mem.tail _ (List.Mem.head _)))) Tryz.underlying27 rfl (by kernel_rfl) ?_)
  refine (HBY.out _ ((HH.out.fact _ (List.Mem.tail _ (List.Mem.head _))).2) ((HH.out.fact _ (List.Mem.head _)).2)).mono ?_
  rintro e v4 ⟨rfl, hb⟩
  have sv4 := hb.size
  replace HH := hd_go HH hb
  clear kA_0
  have kA_0 : v4.cell? ⟨w.heap.size, 0, none⟩ = some (.slice a n cap) := RowAt.cell (HH.out.row _ (List.Mem.tail _ (List.Mem.tail _ (List.Mem.head _)))) 0
  clear hb
  go_wp2_with (refine wpList_store_row rfl 27 (.tmp 4) (.tmp 7) rfl (w.heap.size + 2) #[.int .i64 x, .int .i64 y, .int .i64 z] rfl rfl 27 _ ((HH.out.row _ (List.Mem.head _))) (by kernel_rfl) rfl (by simp [Value.oneCell']) ?_)
  refine bodyPost_ret (v := .agg #[.int .i64 x, .int .i64 y, .int .i64 z]) (results_cell_row (p := 4) (ty := 27) rfl _ _ (w.heap.size + 2) 27 _ _ _ rfl (RowAt.setRow ((HH.out.row _ (List.Mem.head _))) _) Tryz.underlying27 rfl (by kernel_rfl)) rfl ⟨rfl, below_row HH.out.below (by omega) _⟩
set_option maxRecDepth 100000 in
set_option maxHeartbeats 16000000 in
theorem spotByWas_no {a : Option Addr} {n cap : Nat} {d : List Bl} {pb pc pa : Int}  {w : World} (h : Dc w a n cap d) (hG : GlobE w) (hp : plT d pb pc pa = none) :
    Calls Tryz.prog 21 #[.agg #[.slice a n cap], .agg #[.int .i64 pb, .int .i64 pc, .int .i64 pa], .func (.func 22) #[] #[]] w fun e w' => e = .returned (.agg #[.int .i64 0, .int .i64 0, .int .i64 0]) ∧ Below w.heap.size w w' := by
  obtain ⟨S0, HS0⟩ : ∃ S, Hid (noPl = .iface 105 (.string S)) := noPl_is
  have HP : Hid (plT d pb pc pa = none) := hp
  skip
  have HH := hd_add (hd_add (hd_start w) (fun u => Dc u a n cap d) (mono_dc _ _ _ _) h) GlobE mono_globE hG
  clear h hG hp 
  go_enter Tryz.func21, Tryz.ntmps21
  go_upto_region 1 with fail
  replace HH := hd_box HH #[.slice a n cap] 25
  replace HH := hd_box HH #[.int .i64 pb, .int .i64 pc, .int .i64 pa] 27
  replace HH := hd_box HH #[.int .i64 0, .int .i64 0, .int .i64 0] 27
  have fv3 : ((w.alloc (.cells #[.slice a n cap] 25)).alloc (.cells #[.int .i64 pb, .int .i64 pc, .int .i64 pa] 27)).heap.size = w.heap.size + 2 := by simp
  have ev3 : (w.alloc (.cells #[.slice a n cap] 25)).heap.size = w.heap.size + 1 := by simp
  rw [fv3, ev3] at HH
  have sv3 : w.heap.size + 2 < (((w.alloc (.cells #[.slice a n cap] 25)).alloc (.cells #[.int .i64 pb, .int .i64 pc, .int .i64 pa] 27)).alloc (.cells #[.int .i64 0, .int .i64 0, .int .i64 0] 27)).heap.size := by simp
  generalize (((w.alloc (.cells #[.slice a n cap] 25)).alloc (.cells #[.int .i64 pb, .int .i64 pc, .int .i64 pa] 27)).alloc (.cells #[.int .i64 0, .int .i64 0, .int .i64 0] 27)) = v3 at HH sv3 ⊢
  clear ev3 fv3
  have kP_0 : v3.cell? ⟨w.heap.size + 1, 0, none⟩ = some (.int .i64 pb) := RowAt.cell (HH.out.row _ (List.Mem.tail _ (List.Mem.head _))) 0
  have kP_1 : v3.cell? ⟨w.heap.size + 1, 1, none⟩ = some (.int .i64 pc) := RowAt.cell (HH.out.row _ (List.Mem.tail _ (List.Mem.head _))) 1
  have kP_2 : v3.cell? ⟨w.heap.size + 1, 2, none⟩ = some (.int .i64 pa) := RowAt.cell (HH.out.row _ (List.Mem.tail _ (List.Mem.head _))) 2
  have kA_0 : v3.cell? ⟨w.heap.size, 0, none⟩ = some (.slice a n cap) := RowAt.cell (HH.out.row _ (List.Mem.tail _ (List.Mem.tail _ (List.Mem.head _)))) 0
  have sA := HH.out.below.size
  go_wp2_with fail
  refine (outlOf_any ((HH.out.fact _ (List.Mem.tail _ (List.Mem.head _))).2)).mono ?_
  rintro e v4 ⟨⟨ov, rfl, hov⟩, hb⟩
  have sv4 := hb.size
  replace HH := hd_go HH hb
  clear kP_0 kP_1 kP_2 kA_0
  replace HH := hd_add HH (fun u => OutlOf u d ov) (mono_outlOf _ _) hov
  have kP_0 : v4.cell? ⟨w.heap.size + 1, 0, none⟩ = some (.int .i64 pb) := RowAt.cell (HH.out.row _ (List.Mem.tail _ (List.Mem.head _))) 0
  have kP_1 : v4.cell? ⟨w.heap.size + 1, 1, none⟩ = some (.int .i64 pc) := RowAt.cell (HH.out.row _ (List.Mem.tail _ (List.Mem.head _))) 1
  have kP_2 : v4.cell? ⟨w.heap.size + 1, 2, none⟩ = some (.int .i64 pa) := RowAt.cell (HH.out.row _ (List.Mem.tail _ (List.Mem.head _))) 2
  have kA_0 : v4.cell? ⟨w.heap.size, 0, none⟩ = some (.slice a n cap) := RowAt.cell (HH.out.row _ (List.Mem.tail _ (List.Mem.tail _ (List.Mem.head _)))) 0
  clear hb hov
  go_wp2_with (refine wpList_load_row rfl 27 (.tmp 4) rfl (w.heap.size + 1) rfl 27 #[.int .i64 pb, .int .i64 pc, .int .i64 pa] (0, 0) _ ((HH.out.row _ (List.Mem.tail _ (List.Mem.head _)))) Tryz.underlying27 rfl (by kernel_rfl) ?_)
  refine (textAt_of ((HH.out.fact _ (List.Mem.head _)).2)).mono ?_
  rintro e v5 ⟨htx, hb⟩
  rw [HP.out] at htx
  have sv5 := hb.size
  replace HH := hd_go HH hb
  clear kP_0 kP_1 kP_2 kA_0
  have kP_0 : v5.cell? ⟨w.heap.size + 1, 0, none⟩ = some (.int .i64 pb) := RowAt.cell (HH.out.row _ (List.Mem.tail _ (List.Mem.head _))) 0
  have kP_1 : v5.cell? ⟨w.heap.size + 1, 1, none⟩ = some (.int .i64 pc) := RowAt.cell (HH.out.row _ (List.Mem.tail _ (List.Mem.head _))) 1
  have kP_2 : v5.cell? ⟨w.heap.size + 1, 2, none⟩ = some (.int .i64 pa) := RowAt.cell (HH.out.row _ (List.Mem.tail _ (List.Mem.head _))) 2
  have kA_0 : v5.cell? ⟨w.heap.size, 0, none⟩ = some (.slice a n cap) := RowAt.cell (HH.out.row _ (List.Mem.tail _ (List.Mem.tail _ (List.Mem.head _)))) 0
  obtain ⟨-, rfl⟩ := htx.resolve_right (fun ⟨_, _, _, _, ht, _⟩ => by cases ht)
  rw [HS0.out]
  obtain ⟨ea, hea, hec⟩ := (HH.out.fact _ (List.Mem.tail _ (List.Mem.head _))).2
  have HEC : Hid (_) := hec
  clear hb
  have kG := hec
  go_wp2_with fail
  refine (isCannot_yes HEC.out).mono ?_
  rintro e v6 ⟨rfl, hw⟩
  subst hw
  go_wp2_with (refine wpList_store_row rfl 27 (.tmp 6) (.tmp 26) rfl (w.heap.size + 2) #[.int .i64 0, .int .i64 0, .int .i64 0] rfl rfl 27 _ ((HH.out.row _ (List.Mem.head _))) (by kernel_rfl) rfl (by simp [Value.oneCell']) ?_)
  refine bodyPost_ret (v := .agg #[.int .i64 0, .int .i64 0, .int .i64 0]) (results_cell_row (p := 6) (ty := 27) rfl _ _ (w.heap.size + 2) 27 _ _ _ rfl (RowAt.setRow ((HH.out.row _ (List.Mem.head _))) _) Tryz.underlying27 rfl (by kernel_rfl)) rfl ⟨rfl, below_row HH.out.below (by omega) _⟩
set_option maxRecDepth 100000 in
set_option maxHeartbeats 16000000 in
theorem spotByWas_yes {a : Option Addr} {n cap : Nat} {d : List Bl} {pb pc : Int} {s : List Sg} {j : Nat} {w : World} (h : Dc w a n cap d) (hG : GlobE w) (hp : plT d pb pc j = some s) (hj : j ≤ s.length) :
    Calls Tryz.prog 21 #[.agg #[.slice a n cap], .agg #[.int .i64 pb, .int .i64 pc, .int .i64 (j : Int)], .func (.func 22) #[] #[]] w fun e w' => e = .returned (.agg #[.int .i64 pb, .int .i64 pc, .int .i64 ((wasL (s.take j)).length : Int)]) ∧ Below w.heap.size w w' := by
  obtain ⟨S0, HS0⟩ : ∃ S, Hid (noPl = .iface 105 (.string S)) := noPl_is
  have HP : Hid (plT d pb pc j = some s) := hp
  have HJ : Hid (j ≤ s.length) := hj
  have HH := hd_add (hd_add (hd_start w) (fun u => Dc u a n cap d) (mono_dc _ _ _ _) h) GlobE mono_globE hG
  clear h hG hp hj
  go_enter Tryz.func21, Tryz.ntmps21
  go_upto_region 1 with fail
  replace HH := hd_box HH #[.slice a n cap] 25
  replace HH := hd_box HH #[.int .i64 pb, .int .i64 pc, .int .i64 (j : Int)] 27
  replace HH := hd_box HH #[.int .i64 0, .int .i64 0, .int .i64 0] 27
  have fv3 : ((w.alloc (.cells #[.slice a n cap] 25)).alloc (.cells #[.int .i64 pb, .int .i64 pc, .int .i64 (j : Int)] 27)).heap.size = w.heap.size + 2 := by simp
  have ev3 : (w.alloc (.cells #[.slice a n cap] 25)).heap.size = w.heap.size + 1 := by simp
  rw [fv3, ev3] at HH
  have sv3 : w.heap.size + 2 < (((w.alloc (.cells #[.slice a n cap] 25)).alloc (.cells #[.int .i64 pb, .int .i64 pc, .int .i64 (j : Int)] 27)).alloc (.cells #[.int .i64 0, .int .i64 0, .int .i64 0] 27)).heap.size := by simp
  generalize (((w.alloc (.cells #[.slice a n cap] 25)).alloc (.cells #[.int .i64 pb, .int .i64 pc, .int .i64 (j : Int)] 27)).alloc (.cells #[.int .i64 0, .int .i64 0, .int .i64 0] 27)) = v3 at HH sv3 ⊢
  clear ev3 fv3
  have kP_0 : v3.cell? ⟨w.heap.size + 1, 0, none⟩ = some (.int .i64 pb) := RowAt.cell (HH.out.row _ (List.Mem.tail _ (List.Mem.head _))) 0
  have kP_1 : v3.cell? ⟨w.heap.size + 1, 1, none⟩ = some (.int .i64 pc) := RowAt.cell (HH.out.row _ (List.Mem.tail _ (List.Mem.head _))) 1
  have kP_2 : v3.cell? ⟨w.heap.size + 1, 2, none⟩ = some (.int .i64 (j : Int)) := RowAt.cell (HH.out.row _ (List.Mem.tail _ (List.Mem.head _))) 2
  have kA_0 : v3.cell? ⟨w.heap.size, 0, none⟩ = some (.slice a n cap) := RowAt.cell (HH.out.row _ (List.Mem.tail _ (List.Mem.tail _ (List.Mem.head _)))) 0
  have sA := HH.out.below.size
  go_wp2_with fail
  refine (outlOf_any ((HH.out.fact _ (List.Mem.tail _ (List.Mem.head _))).2)).mono ?_
  rintro e v4 ⟨⟨ov, rfl, hov⟩, hb⟩
  have sv4 := hb.size
  replace HH := hd_go HH hb
  clear kP_0 kP_1 kP_2 kA_0
  replace HH := hd_add HH (fun u => OutlOf u d ov) (mono_outlOf _ _) hov
  have kP_0 : v4.cell? ⟨w.heap.size + 1, 0, none⟩ = some (.int .i64 pb) := RowAt.cell (HH.out.row _ (List.Mem.tail _ (List.Mem.head _))) 0
  have kP_1 : v4.cell? ⟨w.heap.size + 1, 1, none⟩ = some (.int .i64 pc) := RowAt.cell (HH.out.row _ (List.Mem.tail _ (List.Mem.head _))) 1
  have kP_2 : v4.cell? ⟨w.heap.size + 1, 2, none⟩ = some (.int .i64 (j : Int)) := RowAt.cell (HH.out.row _ (List.Mem.tail _ (List.Mem.head _))) 2
  have kA_0 : v4.cell? ⟨w.heap.size, 0, none⟩ = some (.slice a n cap) := RowAt.cell (HH.out.row _ (List.Mem.tail _ (List.Mem.tail _ (List.Mem.head _)))) 0
  clear hb hov
  go_wp2_with (refine wpList_load_row rfl 27 (.tmp 4) rfl (w.heap.size + 1) rfl 27 #[.int .i64 pb, .int .i64 pc, .int .i64 (j : Int)] (0, 0) _ ((HH.out.row _ (List.Mem.tail _ (List.Mem.head _)))) Tryz.underlying27 rfl (by kernel_rfl) ?_)
  refine (textAt_of ((HH.out.fact _ (List.Mem.head _)).2)).mono ?_
  rintro e v5 ⟨htx, hb⟩
  rw [HP.out] at htx
  have sv5 := hb.size
  replace HH := hd_go HH hb
  clear kP_0 kP_1 kP_2 kA_0
  have kP_0 : v5.cell? ⟨w.heap.size + 1, 0, none⟩ = some (.int .i64 pb) := RowAt.cell (HH.out.row _ (List.Mem.tail _ (List.Mem.head _))) 0
  have kP_1 : v5.cell? ⟨w.heap.size + 1, 1, none⟩ = some (.int .i64 pc) := RowAt.cell (HH.out.row _ (List.Mem.tail _ (List.Mem.head _))) 1
  have kP_2 : v5.cell? ⟨w.heap.size + 1, 2, none⟩ = some (.int .i64 (j : Int)) := RowAt.cell (HH.out.row _ (List.Mem.tail _ (List.Mem.head _))) 2
  have kA_0 : v5.cell? ⟨w.heap.size, 0, none⟩ = some (.slice a n cap) := RowAt.cell (HH.out.row _ (List.Mem.tail _ (List.Mem.tail _ (List.Mem.head _)))) 0
  rcases htx with ⟨ht, -⟩ | ⟨t, va, vn, vc, ht, rfl, htt⟩
  · cases ht
  simp only [Option.some.injEq] at ht
  subst ht
  obtain ⟨ea, hea, hec⟩ := (HH.out.fact _ (List.Mem.tail _ (List.Mem.head _))).2
  have hvn : vn = s.length := htt.1
  have hjv : j ≤ vn := by have := HJ.out; omega
  clear hvn
  replace HH := hd_add HH (fun u => Txt u va vn vc s) (mono_txt _ _ _ _) htt
  clear htt hb
  have kG := hec
  go_wp2_with fail
  refine (isCannot_nil ea _).mono ?_
  rintro e v9 ⟨rfl, hw⟩
  subst hw
  clear kG hea hec
  go_wp2_with fail
  refine (aheadWas).mono ?_
  rintro e v6 ⟨⟨X, Y, rfl, hX, hY⟩, hb⟩
  have sv6 := hb.size
  replace HH := hd_go HH hb
  clear kP_0 kP_1 kP_2 kA_0
  have kP_0 : v6.cell? ⟨w.heap.size + 1, 0, none⟩ = some (.int .i64 pb) := RowAt.cell (HH.out.row _ (List.Mem.tail _ (List.Mem.head _))) 0
  have kP_1 : v6.cell? ⟨w.heap.size + 1, 1, none⟩ = some (.int .i64 pc) := RowAt.cell (HH.out.row _ (List.Mem.tail _ (List.Mem.head _))) 1
  have kP_2 : v6.cell? ⟨w.heap.size + 1, 2, none⟩ = some (.int .i64 (j : Int)) := RowAt.cell (HH.out.row _ (List.Mem.tail _ (List.Mem.head _))) 2
  have kA_0 : v6.cell? ⟨w.heap.size, 0, none⟩ = some (.slice a n cap) := RowAt.cell (HH.out.row _ (List.Mem.tail _ (List.Mem.tail _ (List.Mem.head _)))) 0
  replace HH := hd_row (hd_row HH X _ _ hX) Y _ _ hY
  clear hb hX hY
  clear kP_0 kP_1 kP_2 kA_0
  have kP_0 : v6.cell? ⟨w.heap.size + 1, 0, none⟩ = some (.int .i64 pb) := RowAt.cell (HH.out.row _ (List.Mem.tail _ (List.Mem.tail _ (List.Mem.tail _ (List.Mem.head _))))) 0
  have kP_1 : v6.cell? ⟨w.heap.size + 1, 1, none⟩ = some (.int .i64 pc) := RowAt.cell (HH.out.row _ (List.Mem.tail _ (List.Mem.tail _ (List.Mem.tail _ (List.Mem.head _))))) 1
  have kP_2 : v6.cell? ⟨w.heap.size + 1, 2, none⟩ = some (.int .i64 (j : Int)) := RowAt.cell (HH.out.row _ (List.Mem.tail _ (List.Mem.tail _ (List.Mem.tail _ (List.Mem.head _))))) 2
  have kA_0 : v6.cell? ⟨w.heap.size, 0, none⟩ = some (.slice a n cap) := RowAt.cell (HH.out.row _ (List.Mem.tail _ (List.Mem.tail _ (List.Mem.tail _ (List.Mem.tail _ (List.Mem.head _)))))) 0
  go_upto_region 6 with fail
  clear kP_0 kP_1 kP_2 kA_0
  refine wp_region_noPanic ?_
  refine wp_region_L (fun w' => Hd w [(Y, #[.func (.func 22) #[] #[]], 46), (X, #[.slice va vn vc], 47), (w.heap.size + 2, #[.int .i64 0, .int .i64 0, .int .i64 0], 27), (w.heap.size + 1, #[.int .i64 pb, .int .i64 pc, .int .i64 (j : Int)], 27), (w.heap.size, #[.slice a n cap], 25)] [fun u => Txt u va vn vc s, fun u => OutlOf u d ov, fun u => GlobE u, fun u => Dc u a n cap d] w') 6 (by kernel_rfl) ((HH.out.go (Below.refl _ _).drew)) (fun hHeld => ?_)
  clear HH
  have sv7 : v6.heap.size ≤ v6.drew.heap.size := Nat.le_refl _
  generalize v6.drew = v7 at hHeld sv7 ⊢
  refine takeL 0 30 (.agg #[.int .i64 pb, .int .i64 pc, .int .i64 (j : Int)]) rfl rfl (by kernel_rfl) (by kernel_rfl) (by kernel_rfl) (by kernel_rfl) (by kernel_rfl) (fun _ _ _ h => h) (yieldsIf_load_row (by kernel_rfl) 27 (.tmp 4) rfl (w.heap.size + 1) rfl 27 #[.int .i64 pb, .int .i64 pc, .int .i64 (j : Int)] (0, 0) _ (fun w' h => h.row _ (List.Mem.tail _ (List.Mem.tail _ (List.Mem.tail _ (List.Mem.head _))))) Tryz.underlying27 rfl (by kernel_rfl)) hHeld ?_
  (try simp only [Act.put, List.setIfInBounds_toArray, List.set_cons_zero, List.set_cons_succ])
  refine takeL 1 31 (.func (.func 58) #[] #[.pointer (some ⟨Y, 0, none⟩), .pointer (some ⟨X, 0, none⟩)]) rfl rfl (by kernel_rfl) (by kernel_rfl) (by kernel_rfl) (by kernel_rfl) (by kernel_rfl) (fun _ _ _ h => h) (Or.inl ⟨by kernel_rfl, fun w' hS' => by go_simp⟩) hHeld ?_
  (try simp only [Act.put, List.setIfInBounds_toArray, List.set_cons_zero, List.set_cons_succ])
  refine takeL 2 32 (.pointer (some ⟨w.heap.size + 1, 2, none⟩)) rfl rfl (by kernel_rfl) (by kernel_rfl) (by kernel_rfl) (by kernel_rfl) (by kernel_rfl) (fun _ _ _ h => h) (Or.inl ⟨by kernel_rfl, fun w' hS' => by go_simp⟩) hHeld ?_
  (try simp only [Act.put, List.setIfInBounds_toArray, List.set_cons_zero, List.set_cons_succ])
  refine takeL 3 33 (.int .i64 (j : Int)) rfl rfl (by kernel_rfl) (by kernel_rfl) (by kernel_rfl) (by kernel_rfl) (by kernel_rfl) (fun _ _ _ h => h) (Or.inl ⟨by kernel_rfl, fun w' hS' => by have hc := RowAt.cell (hS'.row _ (List.Mem.tail _ (List.Mem.tail _ (List.Mem.tail _ (List.Mem.head _))))) 2; go_simp⟩) hHeld ?_
  (try simp only [Act.put, List.setIfInBounds_toArray, List.set_cons_zero, List.set_cons_succ])
  refine wpAnyL_ready (rs := [4]) (by kernel_rfl) (by simp) ?_
  refine AllReadyL.cons rfl (fun K hK => ?_) AllReadyL.nil
  go_simp
  change Calls Tryz.prog 58 #[.int .i64 (j : Int), .pointer (some ⟨Y, 0, none⟩), .pointer (some ⟨X, 0, none⟩)] _ _
  refine (countWas ((hHeld.row _ (List.Mem.tail _ (List.Mem.head _)))) ((hHeld.row _ (List.Mem.head _))) ((hHeld.fact _ (List.Mem.head _)).2) hjv).mono ?_
  rintro _ v8 ⟨rfl, hb⟩
  have sv8 := hb.size
  obtain ⟨N, HN⟩ : ∃ N, Hid ((wasL (s.take j)).length = N) := ⟨_, rfl⟩
  rw [HN.out]
  go_wp2_with fail
  refine hK.out _ _ (fun _ => hHeld.go hb) (fun hHeld => ?_)
  replace hHeld := hHeld (by decide)
  clear hK K hb
  (try simp only [Act.put, List.setIfInBounds_toArray, List.set_cons_zero, List.set_cons_succ])
  refine wpAnyL_ready (rs := [5]) (by kernel_rfl) (by simp) ?_
  refine AllReadyL.cons rfl (fun K hK => ?_) AllReadyL.nil
  go_simp
  go_at_call 38
  refine (movedTo_is pb pc (j : Int) (N : Int) _).mono ?_
  rintro _ v9 ⟨rfl, hb⟩
  have sv9 := hb.size
  go_wp2_with fail
  refine hK.out _ _ (fun _ => hHeld.go hb) (fun hHeld => ?_)
  replace hHeld := hHeld (by decide)
  clear hK K hb
  (try simp only [Act.put, List.setIfInBounds_toArray, List.set_cons_zero, List.set_cons_succ])
  refine wpAnyL_ready (rs := [6]) (by kernel_rfl) (by simp) ?_
  refine AllReadyL.cons rfl (fun K hK => ?_) AllReadyL.nil
  rw [if_pos (by kernel_rfl)]
  refine wp_store_row 27 (.tmp 6) (.tmp 35) rfl (w.heap.size + 2) #[.int .i64 pb, .int .i64 pc, .int .i64 (N : Int)] rfl rfl 27 _ ((hHeld.row _ (List.Mem.tail _ (List.Mem.tail _ (List.Mem.head _))))) (by kernel_rfl) rfl (by simp [Value.oneCell']) ?_
  refine hK.out _ _ (fun h => absurd rfl h) (fun _ => ?_)
  clear hK K
  (try simp only [Act.put, List.setIfInBounds_toArray])
  refine wpAnyL_done (by kernel_rfl) ?_ _
  refine NoPanic.normal ?_
  have HH : Hid (Hd w _ _ v9) := hHeld
  clear hHeld
  have kP_0 : v9.cell? ⟨w.heap.size + 1, 0, none⟩ = some (.int .i64 pb) := RowAt.cell (HH.out.row _ (List.Mem.tail _ (List.Mem.tail _ (List.Mem.tail _ (List.Mem.head _))))) 0
  have kP_1 : v9.cell? ⟨w.heap.size + 1, 1, none⟩ = some (.int .i64 pc) := RowAt.cell (HH.out.row _ (List.Mem.tail _ (List.Mem.tail _ (List.Mem.tail _ (List.Mem.head _))))) 1
  have kP_2 : v9.cell? ⟨w.heap.size + 1, 2, none⟩ = some (.int .i64 (j : Int)) := RowAt.cell (HH.out.row _ (List.Mem.tail _ (List.Mem.tail _ (List.Mem.tail _ (List.Mem.head _))))) 2
  have kA_0 : v9.cell? ⟨w.heap.size, 0, none⟩ = some (.slice a n cap) := RowAt.cell (HH.out.row _ (List.Mem.tail _ (List.Mem.tail _ (List.Mem.tail _ (List.Mem.tail _ (List.Mem.head _)))))) 0
  go_wp2_with fail
  rw [HN.out]
  refine bodyPost_ret (v := .agg #[.int .i64 pb, .int .i64 pc, .int .i64 (N : Int)]) (results_cell_row (p := 6) (ty := 27) rfl _ _ (w.heap.size + 2) 27 _ _ _ rfl (RowAt.setRow ((HH.out.row _ (List.Mem.tail _ (List.Mem.tail _ (List.Mem.head _))))) _) Tryz.underlying27 rfl (by kernel_rfl)) rfl ⟨rfl, below_row HH.out.below (by omega) _⟩
set_option maxRecDepth 100000 in
set_option maxHeartbeats 16000000 in
theorem implSpotWas_any {a : Option Addr} {n cap : Nat} {d : List Bl} {pb pc pa x y z : Int} {w : World} (hx : spotF wasL d pb pc pa = (x, y, z)) (h : Dc w a n cap d) (hG : GlobE w) :
    Calls Tryz.prog 8 #[.agg #[.slice a n cap], .agg #[.int .i64 pb, .int .i64 pc, .int .i64 pa]] w fun e w' => e = .returned (.agg #[.int .i64 x, .int .i64 y, .int .i64 z]) ∧ Below w.heap.size w w' := by
  have hby : ∀ (u : World), Dc u a n cap d → GlobE u → Calls Tryz.prog 21 #[.agg #[.slice a n cap], .agg #[.int .i64 pb, .int .i64 pc, .int .i64 pa], .func (.func 22) #[] #[]] u fun e w' => e = .returned (.agg #[.int .i64 x, .int .i64 y, .int .i64 z]) ∧ Below u.heap.size u w' := by
    intro u hu hGu
    unfold spotF at hx
    cases hp : plT d pb pc pa with
    | none =>
      rw [hp] at hx
      simp only [Prod.mk.injEq] at hx
      obtain ⟨rfl, rfl, rfl⟩ := hx
      exact spotByWas_no hu hGu hp
    | some s =>
      rw [hp] at hx
      simp only [Prod.mk.injEq] at hx
      obtain ⟨rfl, rfl, rfl⟩ := hx
      have h2 := hp
      unfold plT at h2
      split at h2
      · obtain ⟨i, rfl, -, -, h0, h1⟩ := placeT_parts2 h2
        obtain ⟨j, rfl⟩ : ∃ j : Nat, pa = j := ⟨pa.toNat, by omega⟩
        rw [Int.toNat_natCast]
        exact spotByWas_yes hu hGu hp (by omega)
      · cases h2
  have HBY : Hid (_) := hby
  have HH := hd_add (hd_add (hd_start w) (fun u => Dc u a n cap d) (mono_dc _ _ _ _) h) GlobE mono_globE hG
  clear h hG hx hby
  go_enter Tryz.func8, Tryz.ntmps8
  go_upto_region 1 with fail
  replace HH := hd_box HH #[.slice a n cap] 25
  replace HH := hd_box HH #[.int .i64 pb, .int .i64 pc, .int .i64 pa] 27
  replace HH := hd_box HH #[.int .i64 0, .int .i64 0, .int .i64 0] 27
  have fv3 : ((w.alloc (.cells #[.slice a n cap] 25)).alloc (.cells #[.int .i64 pb, .int .i64 pc, .int .i64 pa] 27)).heap.size = w.heap.size + 2 := by simp
  have ev3 : (w.alloc (.cells #[.slice a n cap] 25)).heap.size = w.heap.size + 1 := by simp
  rw [fv3, ev3] at HH
  have sv3 : w.heap.size + 2 < (((w.alloc (.cells #[.slice a n cap] 25)).alloc (.cells #[.int .i64 pb, .int .i64 pc, .int .i64 pa] 27)).alloc (.cells #[.int .i64 0, .int .i64 0, .int .i64 0] 27)).heap.size := by simp
  generalize (((w.alloc (.cells #[.slice a n cap] 25)).alloc (.cells #[.int .i64 pb, .int .i64 pc, .int .i64 pa] 27)).alloc (.cells #[.int .i64 0, .int .i64 0, .int .i64 0] 27)) = v3 at HH sv3 ⊢
  clear ev3 fv3
  have kA_0 : v3.cell? ⟨w.heap.size, 0, none⟩ = some (.slice a n cap) := RowAt.cell (HH.out.row _ (List.Mem.tail _ (List.Mem.tail _ (List.Mem.head _)))) 0
  have sA := HH.out.below.size
  go_wp2_with (refine wpList_load_row rfl 27 (.tmp 3) rfl (w.heap.size + 1) rfl 27 #[.int .i64 pb, .int .i64 pc, .int .i64 pa] (0, 0) _ ((HH.out.row _ (List.Mem.tail _ (List.Mem.head _)))) Tryz.underlying27 rfl (by kernel_rfl) ?_)
  refine (HBY.out _ ((HH.out.fact _ (List.Mem.tail _ (List.Mem.head _))).2) ((HH.out.fact _ (List.Mem.head _)).2)).mono ?_
  rintro e v4 ⟨rfl, hb⟩
  have sv4 := hb.size
  replace HH := hd_go HH hb
  clear kA_0
  have kA_0 : v4.cell? ⟨w.heap.size, 0, none⟩ = some (.slice a n cap) := RowAt.cell (HH.out.row _ (List.Mem.tail _ (List.Mem.tail _ (List.Mem.head _)))) 0
  clear hb
  go_wp2_with (refine wpList_store_row rfl 27 (.tmp 4) (.tmp 7) rfl (w.heap.size + 2) #[.int .i64 x, .int .i64 y, .int .i64 z] rfl rfl 27 _ ((HH.out.row _ (List.Mem.head _))) (by kernel_rfl) rfl (by simp [Value.oneCell']) ?_)
  refine bodyPost_ret (v := .agg #[.int .i64 x, .int .i64 y, .int .i64 z]) (results_cell_row (p := 4) (ty := 27) rfl _ _ (w.heap.size + 2) 27 _ _ _ rfl (RowAt.setRow ((HH.out.row _ (List.Mem.head _))) _) Tryz.underlying27 rfl (by kernel_rfl)) rfl ⟨rfl, below_row HH.out.below (by omega) _⟩
end Go.Proofs.YtccoeachemnbnaaGreatDoor
namespace Go.Proofs.YtccoeachemnbnaaGreatDoor
open Go.RowKit

theorem run_append_empty {P : Program} {w : World} (base : Nat) (t ty e : TypeId) (i : TypeInfo) (size : Nat) (ht : P.underlying t = some (.slice e)) (hi : P.info? e = some i)
    (v : Value) (n : Nat) (xs : List Value) (hown : w.ownsRow base e size v n xs) (p : Option Addr) (c : Nat) :
    (Builtin.append_ #[t, t] ty #[v, .slice p 0 c]).run P w = .ok v w := by
  rcases hown.2 with ⟨rfl, rfl⟩ | ⟨g, cap, cur, rfl, _, _, hnc, _⟩
  · cases p <;> simp [Builtin.append_, run_underlying ht, sizeOf, typeInfo, hi, Builtin.lenOf, Builtin.firstCells, loadCells, loadCellsFrom]
  · cases p <;> simp [Builtin.append_, run_underlying ht, sizeOf, typeInfo, hi, Builtin.lenOf, Builtin.firstCells, loadCells, loadCellsFrom, hnc, storeCells]
theorem wpList_append_empty {P : Program} {w : World} {ops : Array Oper} {rest : List Oper} {o : Oper} {a : Act} {Q : Exit → Act → World → Prop} (hgd : o.guard = none) (s x : Operand) (t : TypeId)
    (ho : o.op = .call { callee := .builtin .append, args := #[s, x], argTypes := #[t, t] })
    (base : Nat) (e : TypeId) (i : TypeInfo) (size : Nat) (ht : P.underlying t = some (.slice e)) (hi : P.info? e = some i)
    (v : Value) (n : Nat) (xs : List Value) (hs : a.eval s = v) (hown : w.ownsRow base e size v n xs) (p : Option Addr) (c : Nat) (hx : a.eval x = .slice p 0 c)
    (h : wpList P ops Q rest (a.put o.dst v) w) : wpList P ops Q (o :: rest) a w := by
  refine wpList_plain hgd fun K hK => ?_
  have hrun := run_append_empty (P := P) (w := w) base t o.type e i size ht hi v n xs hown p c
  unfold Oper.wp
  simp [execOp, ho, resolve, invoke, builtin, hs, hx, hrun, Result.andThen]
  exact hK _ _ h
theorem grownBy_refl (w : World) (r : Option Nat) : w.grownBy w r := ⟨rfl, rfl, rfl, Nat.le_refl _, fun _ _ _ => rfl⟩
theorem flat_one (l : List Sg) : ∀ u ∈ flat l, u.oneCell' = true := by
  intro u hu
  simp only [flat, List.mem_flatMap, sgCells] at hu
  obtain ⟨s, _, hs⟩ := hu
  simp at hs
  rcases hs with rfl | rfl | rfl <;> rfl
theorem news_signs {w : World} {b off : Nat} {l : List Sg} (h : SignsAt w b off l) : ∀ j u, (flat l)[j]? = some u → w.cell? ((⟨b, off, none⟩ : Addr).add j) = some u := by
  intro j u hj
  have hlt : j < l.length * 3 := by
    rw [← flat_length]
    exact (List.getElem?_eq_some_iff.1 hj).1
  have e : (⟨b, off, none⟩ : Addr).add j = ⟨b, off + j, none⟩ := by simp [Addr.add]
  rw [e]
  obtain ⟨g0, g1, g2⟩ := flat_get l (j / 3) (by omega)
  obtain ⟨h0, h1, h2⟩ := h (j / 3) (by omega)
  rcases (show j = j / 3 * 3 ∨ j = j / 3 * 3 + 1 ∨ j = j / 3 * 3 + 2 from by omega) with e | e | e
  · rw [e] at hj ⊢
    rw [← hj, g0]
    exact h0
  · rw [e] at hj ⊢
    rw [← hj, g1, ← Nat.add_assoc]
    exact h1
  · rw [e] at hj ⊢
    rw [← hj, g2, ← Nat.add_assoc]
    exact h2
/-- 'append(v, t...)', v the call's own, t a text. -/
theorem wpList_append_txt {w : World} {ops : Array Oper} {rest : List Oper} {o : Oper} {a : Act} {Q : Exit → Act → World → Prop} (hgd : o.guard = none) (s x : Operand)
    (ho : o.op = .call { callee := .builtin .append, args := #[s, x], argTypes := #[47, 47] })
    (base : Nat) (v : Value) (n : Nat) (xs : List Value) (hs : a.eval s = v) (hown : w.ownsRow base 82 3 v n xs)
    (p : Option Addr) (m c : Nat) (l : List Sg) (hx : a.eval x = .slice p m c) (htx : Txt w p m c l) (h63 : n + m ≤ 1000000000) (hbase : base ≤ w.heap.size)
    (h : ∀ v' w', w'.ownsRow base 82 3 v' (n + m) (xs ++ flat l) → w.grownBy w' v.ownBlock → wpList Tryz.prog ops Q rest (a.put o.dst v') w') : wpList Tryz.prog ops Q (o :: rest) a w := by
  obtain ⟨i0, hi, hz0, hz1, hz2⟩ := info_parts Tryz.info82
  obtain ⟨rfl, h2, h3, h4⟩ := htx
  rcases h4 with rfl | ⟨b, off, rfl, hb, hsn⟩
  · refine wpList_append_empty hgd s x 47 ho base 82 i0 3 Tryz.underlying47 hi v n xs hs hown p c hx ?_
    exact h v w (by simpa [flat] using hown) (grownBy_refl _ _)
  · refine wpList_append_own w hgd s x 47 ho base 82 i0 _ 3 24 Tryz.underlying47 hi hz0 hz1 hz2 rfl (by decide) v n xs hs hown ⟨b, off, none⟩ l.length c (flat l) hx (by rw [flat_length]) (news_signs hsn) (flat_one l) (by unfold maxLen; omega) (by omega) hbase ?_
    intro v' w' h5 h6 _
    exact h v' w' h5 h6
end Go.Proofs.YtccoeachemnbnaaGreatDoor
namespace Go.Proofs.YtccoeachemnbnaaGreatDoor
open Go.RowKit

/-- 'append(v, t...)' at a step of a region that draws its order: v the call's own, t a text. -/
theorem step_append_txtD {w : World} {ops : Array Oper} {o : Oper} {a : Act} {K : Act → World → Prop} {Q : Exit → Act → World → Prop} {E : Prop} (d : Nat) (hd : o.dst = some d) (hgd : o.guard = none) (s x : Operand)
    (ho : o.op = .call { callee := .builtin .append, args := #[s, x], argTypes := #[47, 47] })
    (base : Nat) (v : Value) (n : Nat) (xs : List Value) (hs : a.eval s = v) (hown : w.ownsRow base 82 3 v n xs)
    (p : Option Addr) (m c : Nat) (l : List Sg) (hx : a.eval x = .slice p m c) (htx : Txt w p m c l) (h63 : n + m ≤ 1000000000) (hbase : base ≤ w.heap.size) (N : Nat) (hN : n + m = N)
    (h : ∀ q cap w', w'.ownsRow base 82 3 (.slice q N cap) N (xs ++ flat l) → w.grownBy w' v.ownBlock → K (a.put (some d) (.slice q N cap)) w') :
    if Region.wanted o (yielded ops a.tmps) = true then Oper.wp Tryz.prog o a w K Q else E := by
  subst hN
  obtain ⟨i0, hi, hz0, hz1, hz2⟩ := info_parts Tryz.info82
  obtain ⟨rfl, h2, h3, h4⟩ := htx
  rcases h4 with rfl | ⟨b, off, rfl, hb, hsn⟩
  · have hw : Region.wanted o (yielded ops a.tmps) = true := by simp [Region.wanted, hgd]
    have hrun := run_append_empty (P := Tryz.prog) (w := w) base 47 o.type 82 i0 3 Tryz.underlying47 hi v n xs hown p c
    rw [if_pos hw]
    have hh : ∃ q cap, v = .slice q n cap := by
      rcases hown.2 with ⟨rfl, h0⟩ | ⟨g, cap, cur, rfl, r⟩
      · exact ⟨none, 0, by rw [h0]⟩
      · exact ⟨_, _, rfl⟩
    obtain ⟨q, cap, rfl⟩ := hh
    have := h q cap w (by simpa [flat] using hown) (grownBy_refl _ _)
    unfold Oper.wp
    rw [← hd] at this
    simp [execOp, ho, resolve, invoke, builtin, hs, hx, hrun, Result.andThen]
    exact this
  · by_cases hl0 : l.length = 0
    · have hnil : l = [] := List.eq_nil_of_length_eq_zero hl0
      subst hnil
      have hw : Region.wanted o (yielded ops a.tmps) = true := by simp [Region.wanted, hgd]
      have hrun := run_append_empty (P := Tryz.prog) (w := w) base 47 o.type 82 i0 3 Tryz.underlying47 hi v n xs hown (some ⟨b, off, none⟩) c
      rw [if_pos hw]
      have hh : ∃ q cap, v = .slice q n cap := by
        rcases hown.2 with ⟨rfl, h0⟩ | ⟨g, cap, cur, rfl, r⟩
        · exact ⟨none, 0, by rw [h0]⟩
        · exact ⟨_, _, rfl⟩
      obtain ⟨q, cap, rfl⟩ := hh
      have := h q cap w (by simpa [flat] using hown) (grownBy_refl _ _)
      unfold Oper.wp
      rw [← hd] at this
      simp [execOp, ho, resolve, invoke, builtin, hs, hx, hrun, Result.andThen]
      exact this
    · refine step_append_lies w hgd s x _ ho base _ i0 _ 3 24 Tryz.underlying47 hi hz0 hz1 hz2 rfl (by decide) v n xs hs hown ⟨b, off, none⟩ l.length c (flat l) hx (by rw [flat_length]) (news_signs hsn) (flat_one l) (by omega) (by unfold maxLen; omega) (by omega) hbase _ rfl ?_
      intro g cap w' h5 h6 _ _
      rw [hd]
      exact h _ _ w' h5 h6
end Go.Proofs.YtccoeachemnbnaaGreatDoor
namespace Go.Proofs.YtccoeachemnbnaaGreatDoor
open Go.RowKit

theorem place_infoS : (Tryz.prog.info? 27).map (·.size) = some 3 := by kernel_rfl
theorem doc_infoS : (Tryz.prog.info? 25).map (·.size) = some 1 := by kernel_rfl
set_option maxRecDepth 100000 in
set_option maxHeartbeats 4000000 in
theorem l11Cell_is {K V : Int} {ta : Option Addr} {tn tc : Nat} {R C : Int} {ca : Option Addr} {cn cc : Nat} {t : List Sg} {l : List Cl} {c : Int} {w : World} {x : Bool} (hx : (textIn (K, V, t, R, C, l) c).isSome = x) (ht : Txt w ta tn tc t) (hc : Tab w ca cn cc l) :
    Calls Tryz.prog 27 #[.agg #[.int .i64 K, .int .i64 V, .slice ta tn tc, .int .i64 R, .int .i64 C, .slice ca cn cc], .int .i64 c] w fun e w' => e = .returned (.bool x) ∧ Below w.heap.size w w' := by
  have HX : Hid ((textIn (K, V, t, R, C, l) c).isSome = x) := hx
  have HT : Hid (Txt w ta tn tc t) := ht
  have HC : Hid (Tab w ca cn cc l) := hc
  have HN : Hid (cn = l.length) := hc.1
  have h1 := hc.2.1
  have h2 := hc.2.2.1
  unfold maxLen at h2
  clear hx ht hc
  go_enter Tryz.func27, Tryz.ntmps27
  go_upto_region 1 with fail
  have B0 : Below w.heap.size w (w.alloc (.cells #[.int .i64 K, .int .i64 V, .slice ta tn tc, .int .i64 R, .int .i64 C, .slice ca cn cc] 56)) := (Below.refl _ _).alloc (Nat.le_refl _) _
  have G0 : RowAt (w.alloc (.cells #[.int .i64 K, .int .i64 V, .slice ta tn tc, .int .i64 R, .int .i64 C, .slice ca cn cc] 56)) w.heap.size #[.int .i64 K, .int .i64 V, .slice ta tn tc, .int .i64 R, .int .i64 C, .slice ca cn cc] 56 := rowAt_new _ _ _
  have HT0 : Hid (Txt (w.alloc (.cells #[.int .i64 K, .int .i64 V, .slice ta tn tc, .int .i64 R, .int .i64 C, .slice ca cn cc] 56)) ta tn tc t) := HT.out.below B0
  have HC0 : Hid (Tab (w.alloc (.cells #[.int .i64 K, .int .i64 V, .slice ta tn tc, .int .i64 R, .int .i64 C, .slice ca cn cc] 56)) ca cn cc l) := HC.out.below B0
  generalize (w.alloc (.cells #[.int .i64 K, .int .i64 V, .slice ta tn tc, .int .i64 R, .int .i64 C, .slice ca cn cc] 56)) = v0 at B0 G0 HT0 HC0 ⊢
  have q0 : v0.cell? ⟨w.heap.size, 0, none⟩ = some (.int .i64 K) := G0.cell 0
  have q5 : v0.cell? ⟨w.heap.size, 5, none⟩ = some (.slice ca cn cc) := G0.cell 5
  have HB0 : Hid (Below w.heap.size w v0) := B0
  clear B0 G0
  by_cases h3 : K = 3
  · subst h3
    have HX2 : Hid (decide (0 ≤ c ∧ c ≤ (cn : Int) - 1) = x) := by
      show decide (0 ≤ c ∧ c ≤ (cn : Int) - 1) = x
      rw [← HX.out]
      unfold textIn
      simp only [if_true]
      by_cases hh : 0 ≤ c ∧ c ≤ (cn : Int) - 1
      · rw [decide_eq_true hh, if_pos (by have := HN.out; omega)]
        rfl
      · rw [decide_eq_false hh, if_neg (by have := HN.out; omega)]
        rfl
    have CALL : Hid (∀ u, Calls Tryz.prog 26 #[.int .i64 c, .int .i64 0, .int .i64 ((cn : Int) - 1)] u fun e w' => e = .returned (.bool x) ∧ w' = u) := fun u => by
      have := l6In_gen c 0 ((cn : Int) - 1) u
      rw [HX2.out] at this
      exact this
    go_wp2_with (go_at_call 26; refine (CALL.out _).mono ?_; rintro e w1 ⟨rfl, rfl⟩)
    go_ret
    exact ⟨rfl, HB0.out⟩
  · have HX2 : Hid ((c == 0) = x) := by
      show (c == 0) = x
      rw [← HX.out]
      unfold textIn
      simp only [if_neg h3]
      by_cases hh : c = 0
      · rw [if_pos hh, hh]
        rfl
      · rw [if_neg hh]
        simp [hh]
    go_wp2_with fail
    go_ret
    exact ⟨by rw [← HX2.out]; rfl, HB0.out⟩
set_option maxRecDepth 100000 in
set_option maxHeartbeats 4000000 in
theorem l11Text_any {K V : Int} {ta : Option Addr} {tn tc : Nat} {R C : Int} {ca : Option Addr} {cn cc : Nat} {t s : List Sg} {l : List Cl} {c : Int} {w : World} (hx : textIn (K, V, t, R, C, l) c = some s) (ht : Txt w ta tn tc t) (hc : Tab w ca cn cc l) :
    Calls Tryz.prog 28 #[.agg #[.int .i64 K, .int .i64 V, .slice ta tn tc, .int .i64 R, .int .i64 C, .slice ca cn cc], .int .i64 c] w fun e w' => (∃ va vn vc, e = .returned (.slice va vn vc) ∧ Txt w' va vn vc s) ∧ Below w.heap.size w w' := by
  have HT : Hid (Txt w ta tn tc t) := ht
  have HC : Hid (Tab w ca cn cc l) := hc
  have HN : Hid (cn = l.length) := hc.1
  have h1 := hc.2.1
  have h2 := hc.2.2.1
  unfold maxLen at h2
  unfold textIn at hx
  simp only at hx
  clear ht hc
  by_cases h3 : K = 3
  · subst h3
    rw [if_pos rfl] at hx
    split at hx
    · rename_i hcc
      obtain ⟨j, rfl⟩ : ∃ j : Nat, c = j := ⟨c.toNat, by omega⟩
      cases hx
      have hjl : j < l.length := by omega
      have hjn : (j : Int) < (cn : Int) := by have := HN.out; omega
      go_enter Tryz.func28, Tryz.ntmps28
      go_upto_region 1 with fail
      have B0 : Below w.heap.size w (w.alloc (.cells #[.int .i64 3, .int .i64 V, .slice ta tn tc, .int .i64 R, .int .i64 C, .slice ca cn cc] 56)) := (Below.refl _ _).alloc (Nat.le_refl _) _
      have G0 : RowAt (w.alloc (.cells #[.int .i64 3, .int .i64 V, .slice ta tn tc, .int .i64 R, .int .i64 C, .slice ca cn cc] 56)) w.heap.size #[.int .i64 3, .int .i64 V, .slice ta tn tc, .int .i64 R, .int .i64 C, .slice ca cn cc] 56 := rowAt_new _ _ _
      have HT0 : Hid (Txt (w.alloc (.cells #[.int .i64 3, .int .i64 V, .slice ta tn tc, .int .i64 R, .int .i64 C, .slice ca cn cc] 56)) ta tn tc t) := HT.out.below B0
      have HC0 : Hid (Tab (w.alloc (.cells #[.int .i64 3, .int .i64 V, .slice ta tn tc, .int .i64 R, .int .i64 C, .slice ca cn cc] 56)) ca cn cc l) := HC.out.below B0
      generalize (w.alloc (.cells #[.int .i64 3, .int .i64 V, .slice ta tn tc, .int .i64 R, .int .i64 C, .slice ca cn cc] 56)) = v0 at B0 G0 HT0 HC0 ⊢
      have q0 : v0.cell? ⟨w.heap.size, 0, none⟩ = some (.int .i64 3) := G0.cell 0
      have q5 : v0.cell? ⟨w.heap.size, 5, none⟩ = some (.slice ca cn cc) := G0.cell 5
      have HB0 : Hid (Below w.heap.size w v0) := B0
      clear B0 G0
      rcases HC0.out.2.2.2 with q | ⟨b, off, rfl, hbl, hcl⟩
      · rw [q] at hjl
        exact absurd hjl (by simp)
      obtain ⟨-, -, -, -, xa, xn, xc, hc4, hxt⟩ := hcl j hjl
      have HXT : Hid (Txt v0 xa xn xc (l.getD j cl0).2.2.2.2) := hxt
      clear hcl hxt hcc
      go_wp2_with fail
      go_ret
      exact ⟨⟨xa, xn, xc, rfl, HXT.out⟩, HB0.out⟩
    · cases hx
  · rw [if_neg h3] at hx
    split at hx
    · rename_i hcc
      subst hcc
      cases hx
      go_enter Tryz.func28, Tryz.ntmps28
      go_upto_region 1 with fail
      have B0 : Below w.heap.size w (w.alloc (.cells #[.int .i64 K, .int .i64 V, .slice ta tn tc, .int .i64 R, .int .i64 C, .slice ca cn cc] 56)) := (Below.refl _ _).alloc (Nat.le_refl _) _
      have G0 : RowAt (w.alloc (.cells #[.int .i64 K, .int .i64 V, .slice ta tn tc, .int .i64 R, .int .i64 C, .slice ca cn cc] 56)) w.heap.size #[.int .i64 K, .int .i64 V, .slice ta tn tc, .int .i64 R, .int .i64 C, .slice ca cn cc] 56 := rowAt_new _ _ _
      have HT0 : Hid (Txt (w.alloc (.cells #[.int .i64 K, .int .i64 V, .slice ta tn tc, .int .i64 R, .int .i64 C, .slice ca cn cc] 56)) ta tn tc t) := HT.out.below B0
      have HC0 : Hid (Tab (w.alloc (.cells #[.int .i64 K, .int .i64 V, .slice ta tn tc, .int .i64 R, .int .i64 C, .slice ca cn cc] 56)) ca cn cc l) := HC.out.below B0
      generalize (w.alloc (.cells #[.int .i64 K, .int .i64 V, .slice ta tn tc, .int .i64 R, .int .i64 C, .slice ca cn cc] 56)) = v0 at B0 G0 HT0 HC0 ⊢
      have q0 : v0.cell? ⟨w.heap.size, 0, none⟩ = some (.int .i64 K) := G0.cell 0
      have q2 : v0.cell? ⟨w.heap.size, 2, none⟩ = some (.slice ta tn tc) := G0.cell 2
      have HB0 : Hid (Below w.heap.size w v0) := B0
      clear B0 G0
      go_wp2_with fail
      go_ret
      exact ⟨⟨ta, tn, tc, rfl, HT0.out⟩, HB0.out⟩
    · cases hx
/-- What a call over a document and a place reads. -/
def DpS (w' : World) (g : Nat) (s : Value) (pb pc pa : Int) : Prop := RowAt w' g #[s] 25 ∧ RowAt w' (g + 1) #[.int .i64 pb, .int .i64 pc, .int .i64 pa] 27
theorem DpS.below {w w' : World} {g : Nat} {s : Value} {pb pc pa : Int} (h : DpS w g s pb pc pa) (hb : Below w.heap.size w w') : DpS w' g s pb pc pa := ⟨h.1.below hb h.1.lt, h.2.below hb h.2.lt⟩
/-- As DpS, and a block. -/
def DpB (w' : World) (g : Nat) (s : Value) (pb pc pa : Int) (b o : Nat) (y : Bl) (ta : Option Addr) (tn tc : Nat) (ca : Option Addr) (cn cc : Nat) : Prop := DpS w' g s pb pc pa ∧ BlockIs w' b o y ta tn tc ca cn cc ∧ b < w'.heap.size
theorem DpB.below {w w' : World} {g : Nat} {s : Value} {pb pc pa : Int} {b o : Nat} {y : Bl} {ta : Option Addr} {tn tc : Nat} {ca : Option Addr} {cn cc : Nat} (h : DpB w g s pb pc pa b o y ta tn tc ca cn cc) (hb : Below w.heap.size w w') : DpB w' g s pb pc pa b o y ta tn tc ca cn cc := ⟨h.1.below hb, h.2.1.below hb h.2.2, Nat.lt_of_lt_of_le h.2.2 hb.size⟩
set_option maxRecDepth 100000 in
set_option maxHeartbeats 16000000 in
theorem specPlaceOk_is {a : Option Addr} {n cap : Nat} {d : List Bl} {pb pc pa : Int} {w : World} {x : Bool} (hx : (plT d pb pc pa).isSome = x) (h : Dc w a n cap d) :
    Calls Tryz.prog 10 #[.agg #[.slice a n cap], .agg #[.int .i64 pb, .int .i64 pc, .int .i64 pa]] w fun e w' => e = .returned (.bool x) ∧ Below w.heap.size w w' := by
  have HX : Hid ((plT d pb pc pa).isSome = x) := hx
  have HN : Hid (n = d.length) := h.1
  have hc := h.2.1
  have hm := h.2.2.1
  unfold maxLen at hm
  have H : Hid (Dc w a n cap d) := h
  clear h hx
  obtain ⟨y, HY⟩ : ∃ y, Hid (docB d = y) := ⟨_, rfl⟩
  go_enter Tryz.func10, Tryz.ntmps10
  go_upto_region 1 with fail
  have B0 : Below w.heap.size w ((w.alloc (.cells #[.slice a n cap] 25)).alloc (.cells #[.int .i64 pb, .int .i64 pc, .int .i64 pa] 27)) := ((Below.refl _ _).alloc (Nat.le_refl _) _).alloc (by simp) _
  have G0 : RowAt ((w.alloc (.cells #[.slice a n cap] 25)).alloc (.cells #[.int .i64 pb, .int .i64 pc, .int .i64 pa] 27)) w.heap.size #[.slice a n cap] 25 := (rowAt_new w _ _).alloc _
  have G1 : RowAt ((w.alloc (.cells #[.slice a n cap] 25)).alloc (.cells #[.int .i64 pb, .int .i64 pc, .int .i64 pa] 27)) (w.heap.size + 1) #[.int .i64 pb, .int .i64 pc, .int .i64 pa] 27 := by
    have := rowAt_new (w.alloc (.cells #[.slice a n cap] 25)) #[.int .i64 pb, .int .i64 pc, .int .i64 pa] 27
    simpa using this
  generalize ((w.alloc (.cells #[.slice a n cap] 25)).alloc (.cells #[.int .i64 pb, .int .i64 pc, .int .i64 pa] 27)) = v0 at B0 G0 G1 ⊢
  have s0 := B0.size
  have HB0 : Hid (Below w.heap.size w v0) := B0
  have HD0 : Hid (Dc v0 a n cap d) := H.out.below B0
  have HS0 : Hid (DpS v0 w.heap.size (.slice a n cap) pb pc pa) := ⟨G0, G1⟩
  clear G0 G1 B0
  obtain ⟨X, HXX⟩ : ∃ X, Hid (w.heap.size = X) := ⟨_, rfl⟩
  rw [HXX.out] at HS0
  have hXe := HXX.out
  rw [hXe]
  clear hXe
  have hfix : ∀ {B : Nat} {w1 w2 : World}, Below w.heap.size w1 w2 → Below w.heap.size w1 w2 := fun h => h
  have HXX2 := HXX
  cases y
  · have HE : Hid (x = false) := by
      show x = false
      rw [← HX.out]
      unfold plT
      rw [HY.out]
      rfl
    have HS1 : Hid (DpS v0 X (.slice a n cap) pb pc pa) := HS0
    refine wp_region_noPanic ?_
    refine wp_region_held_drew (S := fun w' => DpS w' X (.slice a n cap) pb pc pa) (by kernel_rfl) HS1.out (fun hHeld => ?_)
    have HBd : Hid (Below w.heap.size w v0.drew) := HB0.out.drew
    have HDd : Hid (Dc v0.drew a n cap d) := HD0.out.below ((Below.refl _ _).drew)
    have sd : w.heap.size ≤ v0.drew.heap.size := s0
    generalize v0.drew = u0 at hHeld HBd HDd sd ⊢
    clear HS1 HB0 HD0
    refine take_at 0 5 (.agg #[.slice a n cap]) rfl rfl (by kernel_rfl) (by kernel_rfl) (by kernel_rfl) (fun _ _ _ h => h) (yieldsIf_load_row (by kernel_rfl) 25 (.tmp 2) rfl X rfl 25 #[.slice a n cap] (0, 0) _ (fun w' h => h.1) Tryz.underlying25 rfl doc_infoS) hHeld ?_
    (try simp only [Act.put, List.setIfInBounds_toArray, List.set_cons_zero, List.set_cons_succ])
    refine wpAnyH_ready (rs := [1]) (by kernel_rfl) (by simp) ?_
    refine AllReadyH.cons rfl (fun K0 hK => ?_) AllReadyH.nil
    go_simp
    go_at_call 25
    refine (specDocOk_is HY.out HDd.out).mono ?_
    rintro _ u1 ⟨rfl, hb⟩
    have HBd1 : Hid (Below w.heap.size w u1) := HBd.out.trans (hb.mono sd)
    have sd1 : w.heap.size ≤ u1.heap.size := Nat.le_trans sd hb.size
    go_wp2_with fail
    refine hK.out _ _ (hHeld.below hb) (fun hHeld => ?_)
    clear hK K0 hb
    (try simp only [Act.put, List.setIfInBounds_toArray, List.set_cons_zero, List.set_cons_succ])
    refine take_at 2 7 (.bool false) rfl rfl (by kernel_rfl) (by kernel_rfl) (by kernel_rfl) (fun _ _ _ h => h) (Or.inl ⟨by kernel_rfl, fun w' hS' => by go_simp⟩) hHeld ?_
    (try simp only [Act.put, List.setIfInBounds_toArray, List.set_cons_zero, List.set_cons_succ])
    refine take_at 3 8 (undef) rfl rfl (by kernel_rfl) (by kernel_rfl) (by kernel_rfl) (fun _ _ _ h => h) (Or.inr ⟨by kernel_rfl, rfl⟩) hHeld ?_
    (try simp only [Act.put, List.setIfInBounds_toArray, List.set_cons_zero, List.set_cons_succ])
    refine take_at 4 9 (undef) rfl rfl (by kernel_rfl) (by kernel_rfl) (by kernel_rfl) (fun _ _ _ h => h) (Or.inr ⟨by kernel_rfl, rfl⟩) hHeld ?_
    (try simp only [Act.put, List.setIfInBounds_toArray, List.set_cons_zero, List.set_cons_succ])
    refine take_at 5 10 (undef) rfl rfl (by kernel_rfl) (by kernel_rfl) (by kernel_rfl) (fun _ _ _ h => h) (Or.inr ⟨by kernel_rfl, rfl⟩) hHeld ?_
    (try simp only [Act.put, List.setIfInBounds_toArray, List.set_cons_zero, List.set_cons_succ])
    refine take_at 6 11 (undef) rfl rfl (by kernel_rfl) (by kernel_rfl) (by kernel_rfl) (fun _ _ _ h => h) (Or.inr ⟨by kernel_rfl, rfl⟩) hHeld ?_
    (try simp only [Act.put, List.setIfInBounds_toArray, List.set_cons_zero, List.set_cons_succ])
    refine take_at 7 12 (undef) rfl rfl (by kernel_rfl) (by kernel_rfl) (by kernel_rfl) (fun _ _ _ h => h) (Or.inr ⟨by kernel_rfl, rfl⟩) hHeld ?_
    (try simp only [Act.put, List.setIfInBounds_toArray, List.set_cons_zero, List.set_cons_succ])
    refine take_at 8 13 (undef) rfl rfl (by kernel_rfl) (by kernel_rfl) (by kernel_rfl) (fun _ _ _ h => h) (Or.inr ⟨by kernel_rfl, rfl⟩) hHeld ?_
    (try simp only [Act.put, List.setIfInBounds_toArray, List.set_cons_zero, List.set_cons_succ])
    refine take_at 9 14 (undef) rfl rfl (by kernel_rfl) (by kernel_rfl) (by kernel_rfl) (fun _ _ _ h => h) (Or.inr ⟨by kernel_rfl, rfl⟩) hHeld ?_
    (try simp only [Act.put, List.setIfInBounds_toArray, List.set_cons_zero, List.set_cons_succ])
    refine take_at 10 15 (.bool false) rfl rfl (by kernel_rfl) (by kernel_rfl) (by kernel_rfl) (fun _ _ _ h => h) (Or.inl ⟨by kernel_rfl, fun w' hS' => by go_simp⟩) hHeld ?_
    (try simp only [Act.put, List.setIfInBounds_toArray, List.set_cons_zero, List.set_cons_succ])
    refine take_at 11 16 (.bool false) rfl rfl (by kernel_rfl) (by kernel_rfl) (by kernel_rfl) (fun _ _ _ h => h) (Or.inl ⟨by kernel_rfl, fun w' hS' => by go_simp⟩) hHeld ?_
    (try simp only [Act.put, List.setIfInBounds_toArray, List.set_cons_zero, List.set_cons_succ])
    refine take_at 12 17 (undef) rfl rfl (by kernel_rfl) (by kernel_rfl) (by kernel_rfl) (fun _ _ _ h => h) (Or.inr ⟨by kernel_rfl, rfl⟩) hHeld ?_
    (try simp only [Act.put, List.setIfInBounds_toArray, List.set_cons_zero, List.set_cons_succ])
    refine take_at 13 18 (undef) rfl rfl (by kernel_rfl) (by kernel_rfl) (by kernel_rfl) (fun _ _ _ h => h) (Or.inr ⟨by kernel_rfl, rfl⟩) hHeld ?_
    (try simp only [Act.put, List.setIfInBounds_toArray, List.set_cons_zero, List.set_cons_succ])
    refine take_at 14 19 (undef) rfl rfl (by kernel_rfl) (by kernel_rfl) (by kernel_rfl) (fun _ _ _ h => h) (Or.inr ⟨by kernel_rfl, rfl⟩) hHeld ?_
    (try simp only [Act.put, List.setIfInBounds_toArray, List.set_cons_zero, List.set_cons_succ])
    refine take_at 15 20 (undef) rfl rfl (by kernel_rfl) (by kernel_rfl) (by kernel_rfl) (fun _ _ _ h => h) (Or.inr ⟨by kernel_rfl, rfl⟩) hHeld ?_
    (try simp only [Act.put, List.setIfInBounds_toArray, List.set_cons_zero, List.set_cons_succ])
    refine take_at 16 21 (undef) rfl rfl (by kernel_rfl) (by kernel_rfl) (by kernel_rfl) (fun _ _ _ h => h) (Or.inr ⟨by kernel_rfl, rfl⟩) hHeld ?_
    (try simp only [Act.put, List.setIfInBounds_toArray, List.set_cons_zero, List.set_cons_succ])
    refine take_at 17 22 (undef) rfl rfl (by kernel_rfl) (by kernel_rfl) (by kernel_rfl) (fun _ _ _ h => h) (Or.inr ⟨by kernel_rfl, rfl⟩) hHeld ?_
    (try simp only [Act.put, List.setIfInBounds_toArray, List.set_cons_zero, List.set_cons_succ])
    refine take_at 18 23 (undef) rfl rfl (by kernel_rfl) (by kernel_rfl) (by kernel_rfl) (fun _ _ _ h => h) (Or.inr ⟨by kernel_rfl, rfl⟩) hHeld ?_
    (try simp only [Act.put, List.setIfInBounds_toArray, List.set_cons_zero, List.set_cons_succ])
    refine take_at 19 24 (undef) rfl rfl (by kernel_rfl) (by kernel_rfl) (by kernel_rfl) (fun _ _ _ h => h) (Or.inr ⟨by kernel_rfl, rfl⟩) hHeld ?_
    (try simp only [Act.put, List.setIfInBounds_toArray, List.set_cons_zero, List.set_cons_succ])
    refine take_at 20 25 (undef) rfl rfl (by kernel_rfl) (by kernel_rfl) (by kernel_rfl) (fun _ _ _ h => h) (Or.inr ⟨by kernel_rfl, rfl⟩) hHeld ?_
    (try simp only [Act.put, List.setIfInBounds_toArray, List.set_cons_zero, List.set_cons_succ])
    refine take_at 21 26 (.bool false) rfl rfl (by kernel_rfl) (by kernel_rfl) (by kernel_rfl) (fun _ _ _ h => h) (Or.inl ⟨by kernel_rfl, fun w' hS' => by go_simp⟩) hHeld ?_
    (try simp only [Act.put, List.setIfInBounds_toArray, List.set_cons_zero, List.set_cons_succ])
    refine take_at 22 27 (.bool false) rfl rfl (by kernel_rfl) (by kernel_rfl) (by kernel_rfl) (fun _ _ _ h => h) (Or.inl ⟨by kernel_rfl, fun w' hS' => by go_simp⟩) hHeld ?_
    (try simp only [Act.put, List.setIfInBounds_toArray, List.set_cons_zero, List.set_cons_succ])
    refine take_at 23 28 (undef) rfl rfl (by kernel_rfl) (by kernel_rfl) (by kernel_rfl) (fun _ _ _ h => h) (Or.inr ⟨by kernel_rfl, rfl⟩) hHeld ?_
    (try simp only [Act.put, List.setIfInBounds_toArray, List.set_cons_zero, List.set_cons_succ])
    refine take_at 24 29 (undef) rfl rfl (by kernel_rfl) (by kernel_rfl) (by kernel_rfl) (fun _ _ _ h => h) (Or.inr ⟨by kernel_rfl, rfl⟩) hHeld ?_
    (try simp only [Act.put, List.setIfInBounds_toArray, List.set_cons_zero, List.set_cons_succ])
    refine take_at 25 30 (undef) rfl rfl (by kernel_rfl) (by kernel_rfl) (by kernel_rfl) (fun _ _ _ h => h) (Or.inr ⟨by kernel_rfl, rfl⟩) hHeld ?_
    (try simp only [Act.put, List.setIfInBounds_toArray, List.set_cons_zero, List.set_cons_succ])
    refine take_at 26 31 (undef) rfl rfl (by kernel_rfl) (by kernel_rfl) (by kernel_rfl) (fun _ _ _ h => h) (Or.inr ⟨by kernel_rfl, rfl⟩) hHeld ?_
    (try simp only [Act.put, List.setIfInBounds_toArray, List.set_cons_zero, List.set_cons_succ])
    refine take_at 27 32 (undef) rfl rfl (by kernel_rfl) (by kernel_rfl) (by kernel_rfl) (fun _ _ _ h => h) (Or.inr ⟨by kernel_rfl, rfl⟩) hHeld ?_
    (try simp only [Act.put, List.setIfInBounds_toArray, List.set_cons_zero, List.set_cons_succ])
    refine take_at 28 33 (undef) rfl rfl (by kernel_rfl) (by kernel_rfl) (by kernel_rfl) (fun _ _ _ h => h) (Or.inr ⟨by kernel_rfl, rfl⟩) hHeld ?_
    (try simp only [Act.put, List.setIfInBounds_toArray, List.set_cons_zero, List.set_cons_succ])
    refine take_at 29 34 (undef) rfl rfl (by kernel_rfl) (by kernel_rfl) (by kernel_rfl) (fun _ _ _ h => h) (Or.inr ⟨by kernel_rfl, rfl⟩) hHeld ?_
    (try simp only [Act.put, List.setIfInBounds_toArray, List.set_cons_zero, List.set_cons_succ])
    refine take_at 30 35 (undef) rfl rfl (by kernel_rfl) (by kernel_rfl) (by kernel_rfl) (fun _ _ _ h => h) (Or.inr ⟨by kernel_rfl, rfl⟩) hHeld ?_
    (try simp only [Act.put, List.setIfInBounds_toArray, List.set_cons_zero, List.set_cons_succ])
    refine take_at 31 36 (undef) rfl rfl (by kernel_rfl) (by kernel_rfl) (by kernel_rfl) (fun _ _ _ h => h) (Or.inr ⟨by kernel_rfl, rfl⟩) hHeld ?_
    (try simp only [Act.put, List.setIfInBounds_toArray, List.set_cons_zero, List.set_cons_succ])
    refine take_at 32 37 (undef) rfl rfl (by kernel_rfl) (by kernel_rfl) (by kernel_rfl) (fun _ _ _ h => h) (Or.inr ⟨by kernel_rfl, rfl⟩) hHeld ?_
    (try simp only [Act.put, List.setIfInBounds_toArray, List.set_cons_zero, List.set_cons_succ])
    refine take_at 33 38 (undef) rfl rfl (by kernel_rfl) (by kernel_rfl) (by kernel_rfl) (fun _ _ _ h => h) (Or.inr ⟨by kernel_rfl, rfl⟩) hHeld ?_
    (try simp only [Act.put, List.setIfInBounds_toArray, List.set_cons_zero, List.set_cons_succ])
    refine take_at 34 39 (undef) rfl rfl (by kernel_rfl) (by kernel_rfl) (by kernel_rfl) (fun _ _ _ h => h) (Or.inr ⟨by kernel_rfl, rfl⟩) hHeld ?_
    (try simp only [Act.put, List.setIfInBounds_toArray, List.set_cons_zero, List.set_cons_succ])
    refine take_at 35 40 (undef) rfl rfl (by kernel_rfl) (by kernel_rfl) (by kernel_rfl) (fun _ _ _ h => h) (Or.inr ⟨by kernel_rfl, rfl⟩) hHeld ?_
    (try simp only [Act.put, List.setIfInBounds_toArray, List.set_cons_zero, List.set_cons_succ])
    refine take_at 36 41 (.bool false) rfl rfl (by kernel_rfl) (by kernel_rfl) (by kernel_rfl) (fun _ _ _ h => h) (Or.inl ⟨by kernel_rfl, fun w' hS' => by go_simp⟩) hHeld ?_
    (try simp only [Act.put, List.setIfInBounds_toArray, List.set_cons_zero, List.set_cons_succ])
    refine take_at 37 4 (.bool false) rfl rfl (by kernel_rfl) (by kernel_rfl) (by kernel_rfl) (fun _ _ _ h => h) (Or.inl ⟨by kernel_rfl, fun w' hS' => by go_simp⟩) hHeld ?_
    (try simp only [Act.put, List.setIfInBounds_toArray, List.set_cons_zero, List.set_cons_succ])
    refine wpAnyH_done (by kernel_rfl) ?_ _
    refine NoPanic.normal ?_
    go_wp2_with fail
    go_ret
    exact ⟨by rw [HE.out]; rfl, HXX.out ▸ HBd1.out⟩
  have HPL : Hid ((placeT d pb pc pa).isSome = x) := by
    show (placeT d pb pc pa).isSome = x
    rw [← HX.out]
    unfold plT
    rw [HY.out]
    rfl
  have hwn : IntKind.i64.wrap ((n : Int) - 1) = (n : Int) - 1 := by rw [IntKind.wrap_i64]; omega
  have CALL1 : Hid (∀ u, Calls Tryz.prog 26 #[.int .i64 pb, .int .i64 0, .int .i64 ((n : Int) - 1)] u fun e w' => e = .returned (.bool (decide (0 ≤ pb ∧ pb ≤ (n : Int) - 1))) ∧ w' = u) := fun u => l6In_gen _ _ _ u
  by_cases hz : 0 ≤ pb ∧ pb ≤ (n : Int) - 1
  · rw [decide_eq_true hz] at CALL1
    obtain ⟨hz0, hz1⟩ := hz
    obtain ⟨i, rfl⟩ : ∃ i : Nat, pb = i := ⟨pb.toNat, by omega⟩
    have hin : (i : Int) < (n : Int) := by omega
    have hi0 : (0 : Int) ≤ (i : Int) := by omega
    have hid : i < d.length := by have := HN.out; omega
    rcases HD0.out.2.2.2 with e | ⟨b, off, rfl, hbl, hcl⟩
    · rw [e] at hid
      exact absurd hid (by simp)
    obtain ⟨ta, tn, tc, ca, cn, cc, hblk⟩ := hcl i hid
    obtain ⟨⟨K, V, t, RR, C, l⟩, hy⟩ : ∃ y, y = d.getD i bl0 := ⟨_, rfl⟩
    rw [← hy] at hblk
    have HPT : Hid (placeT d i pc pa = (textIn (K, V, t, RR, C, l) pc).bind fun t => if 0 ≤ pa ∧ pa ≤ (t.length : Int) then some t else none) := by
      show placeT d i pc pa = _
      rw [placeT_in ⟨by omega, by omega⟩, hy]
      rfl
    have HS1 : Hid (DpB v0 X (.slice (some ⟨b, off, none⟩) n cap) i pc pa b (off + i * 6) (K, V, t, RR, C, l) ta tn tc ca cn cc) := ⟨HS0.out, hblk, hbl⟩
    clear hcl hblk hbl hy HS0
    cases hti : textIn (K, V, t, RR, C, l) pc with
    | none =>
      have HQ : Hid ((textIn (K, V, t, RR, C, l) pc).isSome = false) := by
        show (textIn (K, V, t, RR, C, l) pc).isSome = false
        rw [hti]
        rfl
      have HE : Hid (x = false) := by
        show x = false
        rw [← HPL.out, HPT.out, hti]
        rfl
      clear hti
      refine wp_region_noPanic ?_
      refine wp_region_held_drew (S := fun w' => DpB w' X (.slice (some ⟨b, off, none⟩) n cap) i pc pa b (off + i * 6) (K, V, t, RR, C, l) ta tn tc ca cn cc) (by kernel_rfl) HS1.out (fun hHeld => ?_)
      have HBd : Hid (Below w.heap.size w v0.drew) := HB0.out.drew
      have HDd : Hid (Dc v0.drew (some ⟨b, off, none⟩) n cap d) := HD0.out.below ((Below.refl _ _).drew)
      have sd : w.heap.size ≤ v0.drew.heap.size := s0
      generalize v0.drew = u0 at hHeld HBd HDd sd ⊢
      clear HS1 HB0 HD0
      refine take_at 0 5 (.agg #[.slice (some ⟨b, off, none⟩) n cap]) rfl rfl (by kernel_rfl) (by kernel_rfl) (by kernel_rfl) (fun _ _ _ h => h) (yieldsIf_load_row (by kernel_rfl) 25 (.tmp 2) rfl X rfl 25 #[.slice (some ⟨b, off, none⟩) n cap] (0, 0) _ (fun w' h => h.1.1) Tryz.underlying25 rfl doc_infoS) hHeld ?_
      (try simp only [Act.put, List.setIfInBounds_toArray, List.set_cons_zero, List.set_cons_succ])
      refine wpAnyH_ready (rs := [1]) (by kernel_rfl) (by simp) ?_
      refine AllReadyH.cons rfl (fun K0 hK => ?_) AllReadyH.nil
      go_simp
      go_at_call 25
      refine (specDocOk_is HY.out HDd.out).mono ?_
      rintro _ u1 ⟨rfl, hb⟩
      have HBd1 : Hid (Below w.heap.size w u1) := HBd.out.trans (hb.mono sd)
      have sd1 : w.heap.size ≤ u1.heap.size := Nat.le_trans sd hb.size
      go_wp2_with fail
      refine hK.out _ _ (hHeld.below hb) (fun hHeld => ?_)
      clear hK K0 hb
      (try simp only [Act.put, List.setIfInBounds_toArray, List.set_cons_zero, List.set_cons_succ])
      refine take_at 2 7 (.bool true) rfl rfl (by kernel_rfl) (by kernel_rfl) (by kernel_rfl) (fun _ _ _ h => h) (Or.inl ⟨by kernel_rfl, fun w' hS' => by go_simp⟩) hHeld ?_
      (try simp only [Act.put, List.setIfInBounds_toArray, List.set_cons_zero, List.set_cons_succ])
      refine take_at 3 8 (.pointer (some ⟨X + 1, 0, none⟩)) rfl rfl (by kernel_rfl) (by kernel_rfl) (by kernel_rfl) (fun _ _ _ h => h) (Or.inl ⟨by kernel_rfl, fun w' hS' => by go_simp⟩) hHeld ?_
      (try simp only [Act.put, List.setIfInBounds_toArray, List.set_cons_zero, List.set_cons_succ])
      refine take_at 4 9 (.int .i64 i) rfl rfl (by kernel_rfl) (by kernel_rfl) (by kernel_rfl) (fun _ _ _ h => h) (Or.inl ⟨by kernel_rfl, fun w' hS' => by have hc := RowAt.cell hS'.1.2 0; go_simp⟩) hHeld ?_
      (try simp only [Act.put, List.setIfInBounds_toArray, List.set_cons_zero, List.set_cons_succ])
      refine take_at 5 10 (.pointer (some ⟨X, 0, none⟩)) rfl rfl (by kernel_rfl) (by kernel_rfl) (by kernel_rfl) (fun _ _ _ h => h) (Or.inl ⟨by kernel_rfl, fun w' hS' => by go_simp⟩) hHeld ?_
      (try simp only [Act.put, List.setIfInBounds_toArray, List.set_cons_zero, List.set_cons_succ])
      refine take_at 6 11 (.slice (some ⟨b, off, none⟩) n cap) rfl rfl (by kernel_rfl) (by kernel_rfl) (by kernel_rfl) (fun _ _ _ h => h) (Or.inl ⟨by kernel_rfl, fun w' hS' => by have hc := RowAt.cell hS'.1.1 0; go_simp⟩) hHeld ?_
      (try simp only [Act.put, List.setIfInBounds_toArray, List.set_cons_zero, List.set_cons_succ])
      refine take_at 7 12 (.int .i64 n) rfl rfl (by kernel_rfl) (by kernel_rfl) (by kernel_rfl) (fun _ _ _ h => h) (Or.inl ⟨by kernel_rfl, fun w' hS' => by go_simp⟩) hHeld ?_
      (try simp only [Act.put, List.setIfInBounds_toArray, List.set_cons_zero, List.set_cons_succ])
      refine take_at 8 13 (.int .i64 ((n : Int) - 1)) rfl rfl (by kernel_rfl) (by kernel_rfl) (by kernel_rfl) (fun _ _ _ h => h) (Or.inl ⟨by kernel_rfl, fun w' hS' => by go_simp⟩) hHeld ?_
      (try simp only [Act.put, List.setIfInBounds_toArray, List.set_cons_zero, List.set_cons_succ])
      refine wpAnyH_ready (rs := [9]) (by kernel_rfl) (by simp) ?_
      refine AllReadyH.cons rfl (fun K0 hK => ?_) AllReadyH.nil
      go_simp
      go_at_call 26
      refine (CALL1.out _).mono ?_
      rintro _ u2 ⟨rfl, hw⟩
      subst hw
      have HBd2 := HBd1
      have sd2 := sd1
      go_wp2_with fail
      refine hK.out _ _ hHeld (fun hHeld => ?_)
      clear hK K0
      (try simp only [Act.put, List.setIfInBounds_toArray, List.set_cons_zero, List.set_cons_succ])
      refine take_at 10 15 (.bool true) rfl rfl (by kernel_rfl) (by kernel_rfl) (by kernel_rfl) (fun _ _ _ h => h) (Or.inl ⟨by kernel_rfl, fun w' hS' => by go_simp⟩) hHeld ?_
      (try simp only [Act.put, List.setIfInBounds_toArray, List.set_cons_zero, List.set_cons_succ])
      refine take_at 11 16 (.bool true) rfl rfl (by kernel_rfl) (by kernel_rfl) (by kernel_rfl) (fun _ _ _ h => h) (Or.inl ⟨by kernel_rfl, fun w' hS' => by go_simp⟩) hHeld ?_
      (try simp only [Act.put, List.setIfInBounds_toArray, List.set_cons_zero, List.set_cons_succ])
      refine take_at 12 17 (.pointer (some ⟨X, 0, none⟩)) rfl rfl (by kernel_rfl) (by kernel_rfl) (by kernel_rfl) (fun _ _ _ h => h) (Or.inl ⟨by kernel_rfl, fun w' hS' => by go_simp⟩) hHeld ?_
      (try simp only [Act.put, List.setIfInBounds_toArray, List.set_cons_zero, List.set_cons_succ])
      refine take_at 13 18 (.slice (some ⟨b, off, none⟩) n cap) rfl rfl (by kernel_rfl) (by kernel_rfl) (by kernel_rfl) (fun _ _ _ h => h) (Or.inl ⟨by kernel_rfl, fun w' hS' => by have hc := RowAt.cell hS'.1.1 0; go_simp⟩) hHeld ?_
      (try simp only [Act.put, List.setIfInBounds_toArray, List.set_cons_zero, List.set_cons_succ])
      refine take_at 14 19 (.pointer (some ⟨X + 1, 0, none⟩)) rfl rfl (by kernel_rfl) (by kernel_rfl) (by kernel_rfl) (fun _ _ _ h => h) (Or.inl ⟨by kernel_rfl, fun w' hS' => by go_simp⟩) hHeld ?_
      (try simp only [Act.put, List.setIfInBounds_toArray, List.set_cons_zero, List.set_cons_succ])
      refine take_at 15 20 (.int .i64 i) rfl rfl (by kernel_rfl) (by kernel_rfl) (by kernel_rfl) (fun _ _ _ h => h) (Or.inl ⟨by kernel_rfl, fun w' hS' => by have hc := RowAt.cell hS'.1.2 0; go_simp⟩) hHeld ?_
      (try simp only [Act.put, List.setIfInBounds_toArray, List.set_cons_zero, List.set_cons_succ])
      refine take_at 16 21 (.pointer (some ⟨b, off + i * 6, none⟩)) rfl rfl (by kernel_rfl) (by kernel_rfl) (by kernel_rfl) (fun _ _ _ h => h) (Or.inl ⟨by kernel_rfl, fun w' hS' => by go_simp⟩) hHeld ?_
      (try simp only [Act.put, List.setIfInBounds_toArray, List.set_cons_zero, List.set_cons_succ])
      refine take_at 17 22 (.agg #[.int .i64 K, .int .i64 V, .slice ta tn tc, .int .i64 RR, .int .i64 C, .slice ca cn cc]) rfl rfl (by kernel_rfl) (by kernel_rfl) (by kernel_rfl) (fun _ _ _ h => h) (Or.inl ⟨by kernel_rfl, fun w' hS' => by obtain ⟨e0, e1, e2, e3, e4, e5, -, -⟩ := hS'.2.1; go_simp⟩) hHeld ?_
      (try simp only [Act.put, List.setIfInBounds_toArray, List.set_cons_zero, List.set_cons_succ])
      refine take_at 18 23 (.pointer (some ⟨X + 1, 1, none⟩)) rfl rfl (by kernel_rfl) (by kernel_rfl) (by kernel_rfl) (fun _ _ _ h => h) (Or.inl ⟨by kernel_rfl, fun w' hS' => by go_simp⟩) hHeld ?_
      (try simp only [Act.put, List.setIfInBounds_toArray, List.set_cons_zero, List.set_cons_succ])
      refine take_at 19 24 (.int .i64 pc) rfl rfl (by kernel_rfl) (by kernel_rfl) (by kernel_rfl) (fun _ _ _ h => h) (Or.inl ⟨by kernel_rfl, fun w' hS' => by have hc := RowAt.cell hS'.1.2 1; go_simp⟩) hHeld ?_
      (try simp only [Act.put, List.setIfInBounds_toArray, List.set_cons_zero, List.set_cons_succ])
      refine wpAnyH_ready (rs := [20]) (by kernel_rfl) (by simp) ?_
      refine AllReadyH.cons rfl (fun K0 hK => ?_) AllReadyH.nil
      go_simp
      go_at_call 27
      refine (l11Cell_is HQ.out hHeld.2.1.2.2.2.2.2.2.1 hHeld.2.1.2.2.2.2.2.2.2).mono ?_
      rintro _ u3 ⟨rfl, hb⟩
      have HBd3 : Hid (Below w.heap.size w u3) := HBd2.out.trans (hb.mono sd2)
      have sd3 : w.heap.size ≤ u3.heap.size := Nat.le_trans sd2 hb.size
      go_wp2_with fail
      refine hK.out _ _ (hHeld.below hb) (fun hHeld => ?_)
      clear hK K0 hb
      (try simp only [Act.put, List.setIfInBounds_toArray, List.set_cons_zero, List.set_cons_succ])
      refine take_at 21 26 (.bool false) rfl rfl (by kernel_rfl) (by kernel_rfl) (by kernel_rfl) (fun _ _ _ h => h) (Or.inl ⟨by kernel_rfl, fun w' hS' => by go_simp⟩) hHeld ?_
      (try simp only [Act.put, List.setIfInBounds_toArray, List.set_cons_zero, List.set_cons_succ])
      refine take_at 22 27 (.bool false) rfl rfl (by kernel_rfl) (by kernel_rfl) (by kernel_rfl) (fun _ _ _ h => h) (Or.inl ⟨by kernel_rfl, fun w' hS' => by go_simp⟩) hHeld ?_
      (try simp only [Act.put, List.setIfInBounds_toArray, List.set_cons_zero, List.set_cons_succ])
      refine take_at 23 28 (undef) rfl rfl (by kernel_rfl) (by kernel_rfl) (by kernel_rfl) (fun _ _ _ h => h) (Or.inr ⟨by kernel_rfl, rfl⟩) hHeld ?_
      (try simp only [Act.put, List.setIfInBounds_toArray, List.set_cons_zero, List.set_cons_succ])
      refine take_at 24 29 (undef) rfl rfl (by kernel_rfl) (by kernel_rfl) (by kernel_rfl) (fun _ _ _ h => h) (Or.inr ⟨by kernel_rfl, rfl⟩) hHeld ?_
      (try simp only [Act.put, List.setIfInBounds_toArray, List.set_cons_zero, List.set_cons_succ])
      refine take_at 25 30 (undef) rfl rfl (by kernel_rfl) (by kernel_rfl) (by kernel_rfl) (fun _ _ _ h => h) (Or.inr ⟨by kernel_rfl, rfl⟩) hHeld ?_
      (try simp only [Act.put, List.setIfInBounds_toArray, List.set_cons_zero, List.set_cons_succ])
      refine take_at 26 31 (undef) rfl rfl (by kernel_rfl) (by kernel_rfl) (by kernel_rfl) (fun _ _ _ h => h) (Or.inr ⟨by kernel_rfl, rfl⟩) hHeld ?_
      (try simp only [Act.put, List.setIfInBounds_toArray, List.set_cons_zero, List.set_cons_succ])
      refine take_at 27 32 (undef) rfl rfl (by kernel_rfl) (by kernel_rfl) (by kernel_rfl) (fun _ _ _ h => h) (Or.inr ⟨by kernel_rfl, rfl⟩) hHeld ?_
      (try simp only [Act.put, List.setIfInBounds_toArray, List.set_cons_zero, List.set_cons_succ])
      refine take_at 28 33 (undef) rfl rfl (by kernel_rfl) (by kernel_rfl) (by kernel_rfl) (fun _ _ _ h => h) (Or.inr ⟨by kernel_rfl, rfl⟩) hHeld ?_
      (try simp only [Act.put, List.setIfInBounds_toArray, List.set_cons_zero, List.set_cons_succ])
      refine take_at 29 34 (undef) rfl rfl (by kernel_rfl) (by kernel_rfl) (by kernel_rfl) (fun _ _ _ h => h) (Or.inr ⟨by kernel_rfl, rfl⟩) hHeld ?_
      (try simp only [Act.put, List.setIfInBounds_toArray, List.set_cons_zero, List.set_cons_succ])
      refine take_at 30 35 (undef) rfl rfl (by kernel_rfl) (by kernel_rfl) (by kernel_rfl) (fun _ _ _ h => h) (Or.inr ⟨by kernel_rfl, rfl⟩) hHeld ?_
      (try simp only [Act.put, List.setIfInBounds_toArray, List.set_cons_zero, List.set_cons_succ])
      refine take_at 31 36 (undef) rfl rfl (by kernel_rfl) (by kernel_rfl) (by kernel_rfl) (fun _ _ _ h => h) (Or.inr ⟨by kernel_rfl, rfl⟩) hHeld ?_
      (try simp only [Act.put, List.setIfInBounds_toArray, List.set_cons_zero, List.set_cons_succ])
      refine take_at 32 37 (undef) rfl rfl (by kernel_rfl) (by kernel_rfl) (by kernel_rfl) (fun _ _ _ h => h) (Or.inr ⟨by kernel_rfl, rfl⟩) hHeld ?_
      (try simp only [Act.put, List.setIfInBounds_toArray, List.set_cons_zero, List.set_cons_succ])
      refine take_at 33 38 (undef) rfl rfl (by kernel_rfl) (by kernel_rfl) (by kernel_rfl) (fun _ _ _ h => h) (Or.inr ⟨by kernel_rfl, rfl⟩) hHeld ?_
      (try simp only [Act.put, List.setIfInBounds_toArray, List.set_cons_zero, List.set_cons_succ])
      refine take_at 34 39 (undef) rfl rfl (by kernel_rfl) (by kernel_rfl) (by kernel_rfl) (fun _ _ _ h => h) (Or.inr ⟨by kernel_rfl, rfl⟩) hHeld ?_
      (try simp only [Act.put, List.setIfInBounds_toArray, List.set_cons_zero, List.set_cons_succ])
      refine take_at 35 40 (undef) rfl rfl (by kernel_rfl) (by kernel_rfl) (by kernel_rfl) (fun _ _ _ h => h) (Or.inr ⟨by kernel_rfl, rfl⟩) hHeld ?_
      (try simp only [Act.put, List.setIfInBounds_toArray, List.set_cons_zero, List.set_cons_succ])
      refine take_at 36 41 (.bool false) rfl rfl (by kernel_rfl) (by kernel_rfl) (by kernel_rfl) (fun _ _ _ h => h) (Or.inl ⟨by kernel_rfl, fun w' hS' => by go_simp⟩) hHeld ?_
      (try simp only [Act.put, List.setIfInBounds_toArray, List.set_cons_zero, List.set_cons_succ])
      refine take_at 37 4 (.bool false) rfl rfl (by kernel_rfl) (by kernel_rfl) (by kernel_rfl) (fun _ _ _ h => h) (Or.inl ⟨by kernel_rfl, fun w' hS' => by go_simp⟩) hHeld ?_
      (try simp only [Act.put, List.setIfInBounds_toArray, List.set_cons_zero, List.set_cons_succ])
      refine wpAnyH_done (by kernel_rfl) ?_ _
      refine NoPanic.normal ?_
      go_wp2_with fail
      go_ret
      exact ⟨by rw [HE.out]; rfl, HXX.out ▸ HBd3.out⟩
    | some s =>
      have HQ : Hid ((textIn (K, V, t, RR, C, l) pc).isSome = true) := by
        show (textIn (K, V, t, RR, C, l) pc).isSome = true
        rw [hti]
        rfl
      have HTX : Hid (textIn (K, V, t, RR, C, l) pc = some s) := hti
      have CALL2 : Hid (∀ xn : Nat, xn = s.length → ∀ u, Calls Tryz.prog 26 #[.int .i64 pa, .int .i64 0, .int .i64 xn] u fun e w' => e = .returned (.bool x) ∧ w' = u) := fun xn hxn u => by
        have := l6In_gen pa 0 xn u
        have e : decide (0 ≤ pa ∧ pa ≤ (xn : Int)) = x := by
          rw [← HPL.out, HPT.out, HTX.out, hxn]
          by_cases hh : 0 ≤ pa ∧ pa ≤ (s.length : Int)
          · rw [decide_eq_true hh, Option.bind_some, if_pos hh]; rfl
          · rw [decide_eq_false hh, Option.bind_some, if_neg hh]; rfl
        rw [e] at this
        exact this
      clear hti
      refine wp_region_noPanic ?_
      refine wp_region_held_drew (S := fun w' => DpB w' X (.slice (some ⟨b, off, none⟩) n cap) i pc pa b (off + i * 6) (K, V, t, RR, C, l) ta tn tc ca cn cc) (by kernel_rfl) HS1.out (fun hHeld => ?_)
      have HBd : Hid (Below w.heap.size w v0.drew) := HB0.out.drew
      have HDd : Hid (Dc v0.drew (some ⟨b, off, none⟩) n cap d) := HD0.out.below ((Below.refl _ _).drew)
      have sd : w.heap.size ≤ v0.drew.heap.size := s0
      generalize v0.drew = u0 at hHeld HBd HDd sd ⊢
      clear HS1 HB0 HD0
      refine take_at 0 5 (.agg #[.slice (some ⟨b, off, none⟩) n cap]) rfl rfl (by kernel_rfl) (by kernel_rfl) (by kernel_rfl) (fun _ _ _ h => h) (yieldsIf_load_row (by kernel_rfl) 25 (.tmp 2) rfl X rfl 25 #[.slice (some ⟨b, off, none⟩) n cap] (0, 0) _ (fun w' h => h.1.1) Tryz.underlying25 rfl doc_infoS) hHeld ?_
      (try simp only [Act.put, List.setIfInBounds_toArray, List.set_cons_zero, List.set_cons_succ])
      refine wpAnyH_ready (rs := [1]) (by kernel_rfl) (by simp) ?_
      refine AllReadyH.cons rfl (fun K0 hK => ?_) AllReadyH.nil
      go_simp
      go_at_call 25
      refine (specDocOk_is HY.out HDd.out).mono ?_
      rintro _ u1 ⟨rfl, hb⟩
      have HBd1 : Hid (Below w.heap.size w u1) := HBd.out.trans (hb.mono sd)
      have sd1 : w.heap.size ≤ u1.heap.size := Nat.le_trans sd hb.size
      go_wp2_with fail
      refine hK.out _ _ (hHeld.below hb) (fun hHeld => ?_)
      clear hK K0 hb
      (try simp only [Act.put, List.setIfInBounds_toArray, List.set_cons_zero, List.set_cons_succ])
      refine take_at 2 7 (.bool true) rfl rfl (by kernel_rfl) (by kernel_rfl) (by kernel_rfl) (fun _ _ _ h => h) (Or.inl ⟨by kernel_rfl, fun w' hS' => by go_simp⟩) hHeld ?_
      (try simp only [Act.put, List.setIfInBounds_toArray, List.set_cons_zero, List.set_cons_succ])
      refine take_at 3 8 (.pointer (some ⟨X + 1, 0, none⟩)) rfl rfl (by kernel_rfl) (by kernel_rfl) (by kernel_rfl) (fun _ _ _ h => h) (Or.inl ⟨by kernel_rfl, fun w' hS' => by go_simp⟩) hHeld ?_
      (try simp only [Act.put, List.setIfInBounds_toArray, List.set_cons_zero, List.set_cons_succ])
      refine take_at 4 9 (.int .i64 i) rfl rfl (by kernel_rfl) (by kernel_rfl) (by kernel_rfl) (fun _ _ _ h => h) (Or.inl ⟨by kernel_rfl, fun w' hS' => by have hc := RowAt.cell hS'.1.2 0; go_simp⟩) hHeld ?_
      (try simp only [Act.put, List.setIfInBounds_toArray, List.set_cons_zero, List.set_cons_succ])
      refine take_at 5 10 (.pointer (some ⟨X, 0, none⟩)) rfl rfl (by kernel_rfl) (by kernel_rfl) (by kernel_rfl) (fun _ _ _ h => h) (Or.inl ⟨by kernel_rfl, fun w' hS' => by go_simp⟩) hHeld ?_
      (try simp only [Act.put, List.setIfInBounds_toArray, List.set_cons_zero, List.set_cons_succ])
      refine take_at 6 11 (.slice (some ⟨b, off, none⟩) n cap) rfl rfl (by kernel_rfl) (by kernel_rfl) (by kernel_rfl) (fun _ _ _ h => h) (Or.inl ⟨by kernel_rfl, fun w' hS' => by have hc := RowAt.cell hS'.1.1 0; go_simp⟩) hHeld ?_
      (try simp only [Act.put, List.setIfInBounds_toArray, List.set_cons_zero, List.set_cons_succ])
      refine take_at 7 12 (.int .i64 n) rfl rfl (by kernel_rfl) (by kernel_rfl) (by kernel_rfl) (fun _ _ _ h => h) (Or.inl ⟨by kernel_rfl, fun w' hS' => by go_simp⟩) hHeld ?_
      (try simp only [Act.put, List.setIfInBounds_toArray, List.set_cons_zero, List.set_cons_succ])
      refine take_at 8 13 (.int .i64 ((n : Int) - 1)) rfl rfl (by kernel_rfl) (by kernel_rfl) (by kernel_rfl) (fun _ _ _ h => h) (Or.inl ⟨by kernel_rfl, fun w' hS' => by go_simp⟩) hHeld ?_
      (try simp only [Act.put, List.setIfInBounds_toArray, List.set_cons_zero, List.set_cons_succ])
      refine wpAnyH_ready (rs := [9]) (by kernel_rfl) (by simp) ?_
      refine AllReadyH.cons rfl (fun K0 hK => ?_) AllReadyH.nil
      go_simp
      go_at_call 26
      refine (CALL1.out _).mono ?_
      rintro _ u2 ⟨rfl, hw⟩
      subst hw
      have HBd2 := HBd1
      have sd2 := sd1
      go_wp2_with fail
      refine hK.out _ _ hHeld (fun hHeld => ?_)
      clear hK K0
      (try simp only [Act.put, List.setIfInBounds_toArray, List.set_cons_zero, List.set_cons_succ])
      refine take_at 10 15 (.bool true) rfl rfl (by kernel_rfl) (by kernel_rfl) (by kernel_rfl) (fun _ _ _ h => h) (Or.inl ⟨by kernel_rfl, fun w' hS' => by go_simp⟩) hHeld ?_
      (try simp only [Act.put, List.setIfInBounds_toArray, List.set_cons_zero, List.set_cons_succ])
      refine take_at 11 16 (.bool true) rfl rfl (by kernel_rfl) (by kernel_rfl) (by kernel_rfl) (fun _ _ _ h => h) (Or.inl ⟨by kernel_rfl, fun w' hS' => by go_simp⟩) hHeld ?_
      (try simp only [Act.put, List.setIfInBounds_toArray, List.set_cons_zero, List.set_cons_succ])
      refine take_at 12 17 (.pointer (some ⟨X, 0, none⟩)) rfl rfl (by kernel_rfl) (by kernel_rfl) (by kernel_rfl) (fun _ _ _ h => h) (Or.inl ⟨by kernel_rfl, fun w' hS' => by go_simp⟩) hHeld ?_
      (try simp only [Act.put, List.setIfInBounds_toArray, List.set_cons_zero, List.set_cons_succ])
      refine take_at 13 18 (.slice (some ⟨b, off, none⟩) n cap) rfl rfl (by kernel_rfl) (by kernel_rfl) (by kernel_rfl) (fun _ _ _ h => h) (Or.inl ⟨by kernel_rfl, fun w' hS' => by have hc := RowAt.cell hS'.1.1 0; go_simp⟩) hHeld ?_
      (try simp only [Act.put, List.setIfInBounds_toArray, List.set_cons_zero, List.set_cons_succ])
      refine take_at 14 19 (.pointer (some ⟨X + 1, 0, none⟩)) rfl rfl (by kernel_rfl) (by kernel_rfl) (by kernel_rfl) (fun _ _ _ h => h) (Or.inl ⟨by kernel_rfl, fun w' hS' => by go_simp⟩) hHeld ?_
      (try simp only [Act.put, List.setIfInBounds_toArray, List.set_cons_zero, List.set_cons_succ])
      refine take_at 15 20 (.int .i64 i) rfl rfl (by kernel_rfl) (by kernel_rfl) (by kernel_rfl) (fun _ _ _ h => h) (Or.inl ⟨by kernel_rfl, fun w' hS' => by have hc := RowAt.cell hS'.1.2 0; go_simp⟩) hHeld ?_
      (try simp only [Act.put, List.setIfInBounds_toArray, List.set_cons_zero, List.set_cons_succ])
      refine take_at 16 21 (.pointer (some ⟨b, off + i * 6, none⟩)) rfl rfl (by kernel_rfl) (by kernel_rfl) (by kernel_rfl) (fun _ _ _ h => h) (Or.inl ⟨by kernel_rfl, fun w' hS' => by go_simp⟩) hHeld ?_
      (try simp only [Act.put, List.setIfInBounds_toArray, List.set_cons_zero, List.set_cons_succ])
      refine take_at 17 22 (.agg #[.int .i64 K, .int .i64 V, .slice ta tn tc, .int .i64 RR, .int .i64 C, .slice ca cn cc]) rfl rfl (by kernel_rfl) (by kernel_rfl) (by kernel_rfl) (fun _ _ _ h => h) (Or.inl ⟨by kernel_rfl, fun w' hS' => by obtain ⟨e0, e1, e2, e3, e4, e5, -, -⟩ := hS'.2.1; go_simp⟩) hHeld ?_
      (try simp only [Act.put, List.setIfInBounds_toArray, List.set_cons_zero, List.set_cons_succ])
      refine take_at 18 23 (.pointer (some ⟨X + 1, 1, none⟩)) rfl rfl (by kernel_rfl) (by kernel_rfl) (by kernel_rfl) (fun _ _ _ h => h) (Or.inl ⟨by kernel_rfl, fun w' hS' => by go_simp⟩) hHeld ?_
      (try simp only [Act.put, List.setIfInBounds_toArray, List.set_cons_zero, List.set_cons_succ])
      refine take_at 19 24 (.int .i64 pc) rfl rfl (by kernel_rfl) (by kernel_rfl) (by kernel_rfl) (fun _ _ _ h => h) (Or.inl ⟨by kernel_rfl, fun w' hS' => by have hc := RowAt.cell hS'.1.2 1; go_simp⟩) hHeld ?_
      (try simp only [Act.put, List.setIfInBounds_toArray, List.set_cons_zero, List.set_cons_succ])
      refine wpAnyH_ready (rs := [20]) (by kernel_rfl) (by simp) ?_
      refine AllReadyH.cons rfl (fun K0 hK => ?_) AllReadyH.nil
      go_simp
      go_at_call 27
      refine (l11Cell_is HQ.out hHeld.2.1.2.2.2.2.2.2.1 hHeld.2.1.2.2.2.2.2.2.2).mono ?_
      rintro _ u3 ⟨rfl, hb⟩
      have HBd3 : Hid (Below w.heap.size w u3) := HBd2.out.trans (hb.mono sd2)
      have sd3 : w.heap.size ≤ u3.heap.size := Nat.le_trans sd2 hb.size
      go_wp2_with fail
      refine hK.out _ _ (hHeld.below hb) (fun hHeld => ?_)
      clear hK K0 hb
      (try simp only [Act.put, List.setIfInBounds_toArray, List.set_cons_zero, List.set_cons_succ])
      refine take_at 21 26 (.bool true) rfl rfl (by kernel_rfl) (by kernel_rfl) (by kernel_rfl) (fun _ _ _ h => h) (Or.inl ⟨by kernel_rfl, fun w' hS' => by go_simp⟩) hHeld ?_
      (try simp only [Act.put, List.setIfInBounds_toArray, List.set_cons_zero, List.set_cons_succ])
      refine take_at 22 27 (.bool true) rfl rfl (by kernel_rfl) (by kernel_rfl) (by kernel_rfl) (fun _ _ _ h => h) (Or.inl ⟨by kernel_rfl, fun w' hS' => by go_simp⟩) hHeld ?_
      (try simp only [Act.put, List.setIfInBounds_toArray, List.set_cons_zero, List.set_cons_succ])
      refine take_at 23 28 (.pointer (some ⟨X + 1, 2, none⟩)) rfl rfl (by kernel_rfl) (by kernel_rfl) (by kernel_rfl) (fun _ _ _ h => h) (Or.inl ⟨by kernel_rfl, fun w' hS' => by go_simp⟩) hHeld ?_
      (try simp only [Act.put, List.setIfInBounds_toArray, List.set_cons_zero, List.set_cons_succ])
      refine take_at 24 29 (.int .i64 pa) rfl rfl (by kernel_rfl) (by kernel_rfl) (by kernel_rfl) (fun _ _ _ h => h) (Or.inl ⟨by kernel_rfl, fun w' hS' => by have hc := RowAt.cell hS'.1.2 2; go_simp⟩) hHeld ?_
      (try simp only [Act.put, List.setIfInBounds_toArray, List.set_cons_zero, List.set_cons_succ])
      refine take_at 25 30 (.pointer (some ⟨X, 0, none⟩)) rfl rfl (by kernel_rfl) (by kernel_rfl) (by kernel_rfl) (fun _ _ _ h => h) (Or.inl ⟨by kernel_rfl, fun w' hS' => by go_simp⟩) hHeld ?_
      (try simp only [Act.put, List.setIfInBounds_toArray, List.set_cons_zero, List.set_cons_succ])
      refine take_at 26 31 (.slice (some ⟨b, off, none⟩) n cap) rfl rfl (by kernel_rfl) (by kernel_rfl) (by kernel_rfl) (fun _ _ _ h => h) (Or.inl ⟨by kernel_rfl, fun w' hS' => by have hc := RowAt.cell hS'.1.1 0; go_simp⟩) hHeld ?_
      (try simp only [Act.put, List.setIfInBounds_toArray, List.set_cons_zero, List.set_cons_succ])
      refine take_at 27 32 (.pointer (some ⟨X + 1, 0, none⟩)) rfl rfl (by kernel_rfl) (by kernel_rfl) (by kernel_rfl) (fun _ _ _ h => h) (Or.inl ⟨by kernel_rfl, fun w' hS' => by go_simp⟩) hHeld ?_
      (try simp only [Act.put, List.setIfInBounds_toArray, List.set_cons_zero, List.set_cons_succ])
      refine take_at 28 33 (.int .i64 i) rfl rfl (by kernel_rfl) (by kernel_rfl) (by kernel_rfl) (fun _ _ _ h => h) (Or.inl ⟨by kernel_rfl, fun w' hS' => by have hc := RowAt.cell hS'.1.2 0; go_simp⟩) hHeld ?_
      (try simp only [Act.put, List.setIfInBounds_toArray, List.set_cons_zero, List.set_cons_succ])
      refine take_at 29 34 (.pointer (some ⟨b, off + i * 6, none⟩)) rfl rfl (by kernel_rfl) (by kernel_rfl) (by kernel_rfl) (fun _ _ _ h => h) (Or.inl ⟨by kernel_rfl, fun w' hS' => by go_simp⟩) hHeld ?_
      (try simp only [Act.put, List.setIfInBounds_toArray, List.set_cons_zero, List.set_cons_succ])
      refine take_at 30 35 (.agg #[.int .i64 K, .int .i64 V, .slice ta tn tc, .int .i64 RR, .int .i64 C, .slice ca cn cc]) rfl rfl (by kernel_rfl) (by kernel_rfl) (by kernel_rfl) (fun _ _ _ h => h) (Or.inl ⟨by kernel_rfl, fun w' hS' => by obtain ⟨e0, e1, e2, e3, e4, e5, -, -⟩ := hS'.2.1; go_simp⟩) hHeld ?_
      (try simp only [Act.put, List.setIfInBounds_toArray, List.set_cons_zero, List.set_cons_succ])
      refine take_at 31 36 (.pointer (some ⟨X + 1, 1, none⟩)) rfl rfl (by kernel_rfl) (by kernel_rfl) (by kernel_rfl) (fun _ _ _ h => h) (Or.inl ⟨by kernel_rfl, fun w' hS' => by go_simp⟩) hHeld ?_
      (try simp only [Act.put, List.setIfInBounds_toArray, List.set_cons_zero, List.set_cons_succ])
      refine take_at 32 37 (.int .i64 pc) rfl rfl (by kernel_rfl) (by kernel_rfl) (by kernel_rfl) (fun _ _ _ h => h) (Or.inl ⟨by kernel_rfl, fun w' hS' => by have hc := RowAt.cell hS'.1.2 1; go_simp⟩) hHeld ?_
      (try simp only [Act.put, List.setIfInBounds_toArray, List.set_cons_zero, List.set_cons_succ])
      refine wpAnyH_ready (rs := [33]) (by kernel_rfl) (by simp) ?_
      refine AllReadyH.cons rfl (fun K0 hK => ?_) AllReadyH.nil
      go_simp
      go_at_call 28
      refine (l11Text_any HTX.out hHeld.2.1.2.2.2.2.2.2.1 hHeld.2.1.2.2.2.2.2.2.2).mono ?_
      rintro _ u4 ⟨⟨xa, xn, xc, rfl, hxt⟩, hb⟩
      have hxn := hxt.1
      have HBd4 : Hid (Below w.heap.size w u4) := HBd3.out.trans (hb.mono sd3)
      have sd4 : w.heap.size ≤ u4.heap.size := Nat.le_trans sd3 hb.size
      have HXN : Hid (xn = s.length) := hxn
      have hxc := hxt.2.1
      have hxm := hxt.2.2.1
      unfold maxLen at hxm
      clear hxt hxn
      go_wp2_with fail
      refine hK.out _ _ (hHeld.below hb) (fun hHeld => ?_)
      clear hK K0 hb
      (try simp only [Act.put, List.setIfInBounds_toArray, List.set_cons_zero, List.set_cons_succ])
      refine take_at 34 39 (.int .i64 xn) rfl rfl (by kernel_rfl) (by kernel_rfl) (by kernel_rfl) (fun _ _ _ h => h) (Or.inl ⟨by kernel_rfl, fun w' hS' => by go_simp⟩) hHeld ?_
      (try simp only [Act.put, List.setIfInBounds_toArray, List.set_cons_zero, List.set_cons_succ])
      refine wpAnyH_ready (rs := [35]) (by kernel_rfl) (by simp) ?_
      refine AllReadyH.cons rfl (fun K0 hK => ?_) AllReadyH.nil
      go_simp
      go_at_call 26
      refine (CALL2.out xn HXN.out _).mono ?_
      rintro _ u5 ⟨rfl, hw⟩
      subst hw
      have HBd5 := HBd4
      have sd5 := sd4
      go_wp2_with fail
      refine hK.out _ _ hHeld (fun hHeld => ?_)
      clear hK K0
      (try simp only [Act.put, List.setIfInBounds_toArray, List.set_cons_zero, List.set_cons_succ])
      refine take_at 36 41 (.bool x) rfl rfl (by kernel_rfl) (by kernel_rfl) (by kernel_rfl) (fun _ _ _ h => h) (Or.inl ⟨by kernel_rfl, fun w' hS' => by go_simp⟩) hHeld ?_
      (try simp only [Act.put, List.setIfInBounds_toArray, List.set_cons_zero, List.set_cons_succ])
      refine take_at 37 4 (.bool x) rfl rfl (by kernel_rfl) (by kernel_rfl) (by kernel_rfl) (fun _ _ _ h => h) (Or.inl ⟨by kernel_rfl, fun w' hS' => by go_simp⟩) hHeld ?_
      (try simp only [Act.put, List.setIfInBounds_toArray, List.set_cons_zero, List.set_cons_succ])
      refine wpAnyH_done (by kernel_rfl) ?_ _
      refine NoPanic.normal ?_
      go_wp2_with fail
      go_ret
      exact ⟨rfl, HXX.out ▸ HBd5.out⟩
  · rw [decide_eq_false hz] at CALL1
    have HE : Hid (x = false) := by
      show x = false
      rw [← HPL.out, placeT_out (by have := HN.out; omega)]
      rfl
    have HS1 : Hid (DpS v0 X (.slice a n cap) pb pc pa) := HS0
    clear hz
    refine wp_region_noPanic ?_
    refine wp_region_held_drew (S := fun w' => DpS w' X (.slice a n cap) pb pc pa) (by kernel_rfl) HS1.out (fun hHeld => ?_)
    have HBd : Hid (Below w.heap.size w v0.drew) := HB0.out.drew
    have HDd : Hid (Dc v0.drew a n cap d) := HD0.out.below ((Below.refl _ _).drew)
    have sd : w.heap.size ≤ v0.drew.heap.size := s0
    generalize v0.drew = u0 at hHeld HBd HDd sd ⊢
    clear HS1 HB0 HD0
    refine take_at 0 5 (.agg #[.slice a n cap]) rfl rfl (by kernel_rfl) (by kernel_rfl) (by kernel_rfl) (fun _ _ _ h => h) (yieldsIf_load_row (by kernel_rfl) 25 (.tmp 2) rfl X rfl 25 #[.slice a n cap] (0, 0) _ (fun w' h => h.1) Tryz.underlying25 rfl doc_infoS) hHeld ?_
    (try simp only [Act.put, List.setIfInBounds_toArray, List.set_cons_zero, List.set_cons_succ])
    refine wpAnyH_ready (rs := [1]) (by kernel_rfl) (by simp) ?_
    refine AllReadyH.cons rfl (fun K0 hK => ?_) AllReadyH.nil
    go_simp
    go_at_call 25
    refine (specDocOk_is HY.out HDd.out).mono ?_
    rintro _ u1 ⟨rfl, hb⟩
    have HBd1 : Hid (Below w.heap.size w u1) := HBd.out.trans (hb.mono sd)
    have sd1 : w.heap.size ≤ u1.heap.size := Nat.le_trans sd hb.size
    go_wp2_with fail
    refine hK.out _ _ (hHeld.below hb) (fun hHeld => ?_)
    clear hK K0 hb
    (try simp only [Act.put, List.setIfInBounds_toArray, List.set_cons_zero, List.set_cons_succ])
    refine take_at 2 7 (.bool true) rfl rfl (by kernel_rfl) (by kernel_rfl) (by kernel_rfl) (fun _ _ _ h => h) (Or.inl ⟨by kernel_rfl, fun w' hS' => by go_simp⟩) hHeld ?_
    (try simp only [Act.put, List.setIfInBounds_toArray, List.set_cons_zero, List.set_cons_succ])
    refine take_at 3 8 (.pointer (some ⟨X + 1, 0, none⟩)) rfl rfl (by kernel_rfl) (by kernel_rfl) (by kernel_rfl) (fun _ _ _ h => h) (Or.inl ⟨by kernel_rfl, fun w' hS' => by go_simp⟩) hHeld ?_
    (try simp only [Act.put, List.setIfInBounds_toArray, List.set_cons_zero, List.set_cons_succ])
    refine take_at 4 9 (.int .i64 pb) rfl rfl (by kernel_rfl) (by kernel_rfl) (by kernel_rfl) (fun _ _ _ h => h) (Or.inl ⟨by kernel_rfl, fun w' hS' => by have hc := RowAt.cell hS'.2 0; go_simp⟩) hHeld ?_
    (try simp only [Act.put, List.setIfInBounds_toArray, List.set_cons_zero, List.set_cons_succ])
    refine take_at 5 10 (.pointer (some ⟨X, 0, none⟩)) rfl rfl (by kernel_rfl) (by kernel_rfl) (by kernel_rfl) (fun _ _ _ h => h) (Or.inl ⟨by kernel_rfl, fun w' hS' => by go_simp⟩) hHeld ?_
    (try simp only [Act.put, List.setIfInBounds_toArray, List.set_cons_zero, List.set_cons_succ])
    refine take_at 6 11 (.slice a n cap) rfl rfl (by kernel_rfl) (by kernel_rfl) (by kernel_rfl) (fun _ _ _ h => h) (Or.inl ⟨by kernel_rfl, fun w' hS' => by have hc := RowAt.cell hS'.1 0; go_simp⟩) hHeld ?_
    (try simp only [Act.put, List.setIfInBounds_toArray, List.set_cons_zero, List.set_cons_succ])
    refine take_at 7 12 (.int .i64 n) rfl rfl (by kernel_rfl) (by kernel_rfl) (by kernel_rfl) (fun _ _ _ h => h) (Or.inl ⟨by kernel_rfl, fun w' hS' => by go_simp⟩) hHeld ?_
    (try simp only [Act.put, List.setIfInBounds_toArray, List.set_cons_zero, List.set_cons_succ])
    refine take_at 8 13 (.int .i64 ((n : Int) - 1)) rfl rfl (by kernel_rfl) (by kernel_rfl) (by kernel_rfl) (fun _ _ _ h => h) (Or.inl ⟨by kernel_rfl, fun w' hS' => by go_simp⟩) hHeld ?_
    (try simp only [Act.put, List.setIfInBounds_toArray, List.set_cons_zero, List.set_cons_succ])
    refine wpAnyH_ready (rs := [9]) (by kernel_rfl) (by simp) ?_
    refine AllReadyH.cons rfl (fun K0 hK => ?_) AllReadyH.nil
    go_simp
    go_at_call 26
    refine (CALL1.out _).mono ?_
    rintro _ u2 ⟨rfl, hw⟩
    subst hw
    have HBd2 := HBd1
    have sd2 := sd1
    go_wp2_with fail
    refine hK.out _ _ hHeld (fun hHeld => ?_)
    clear hK K0
    (try simp only [Act.put, List.setIfInBounds_toArray, List.set_cons_zero, List.set_cons_succ])
    refine take_at 10 15 (.bool false) rfl rfl (by kernel_rfl) (by kernel_rfl) (by kernel_rfl) (fun _ _ _ h => h) (Or.inl ⟨by kernel_rfl, fun w' hS' => by go_simp⟩) hHeld ?_
    (try simp only [Act.put, List.setIfInBounds_toArray, List.set_cons_zero, List.set_cons_succ])
    refine take_at 11 16 (.bool false) rfl rfl (by kernel_rfl) (by kernel_rfl) (by kernel_rfl) (fun _ _ _ h => h) (Or.inl ⟨by kernel_rfl, fun w' hS' => by go_simp⟩) hHeld ?_
    (try simp only [Act.put, List.setIfInBounds_toArray, List.set_cons_zero, List.set_cons_succ])
    refine take_at 12 17 (undef) rfl rfl (by kernel_rfl) (by kernel_rfl) (by kernel_rfl) (fun _ _ _ h => h) (Or.inr ⟨by kernel_rfl, rfl⟩) hHeld ?_
    (try simp only [Act.put, List.setIfInBounds_toArray, List.set_cons_zero, List.set_cons_succ])
    refine take_at 13 18 (undef) rfl rfl (by kernel_rfl) (by kernel_rfl) (by kernel_rfl) (fun _ _ _ h => h) (Or.inr ⟨by kernel_rfl, rfl⟩) hHeld ?_
    (try simp only [Act.put, List.setIfInBounds_toArray, List.set_cons_zero, List.set_cons_succ])
    refine take_at 14 19 (undef) rfl rfl (by kernel_rfl) (by kernel_rfl) (by kernel_rfl) (fun _ _ _ h => h) (Or.inr ⟨by kernel_rfl, rfl⟩) hHeld ?_
    (try simp only [Act.put, List.setIfInBounds_toArray, List.set_cons_zero, List.set_cons_succ])
    refine take_at 15 20 (undef) rfl rfl (by kernel_rfl) (by kernel_rfl) (by kernel_rfl) (fun _ _ _ h => h) (Or.inr ⟨by kernel_rfl, rfl⟩) hHeld ?_
    (try simp only [Act.put, List.setIfInBounds_toArray, List.set_cons_zero, List.set_cons_succ])
    refine take_at 16 21 (undef) rfl rfl (by kernel_rfl) (by kernel_rfl) (by kernel_rfl) (fun _ _ _ h => h) (Or.inr ⟨by kernel_rfl, rfl⟩) hHeld ?_
    (try simp only [Act.put, List.setIfInBounds_toArray, List.set_cons_zero, List.set_cons_succ])
    refine take_at 17 22 (undef) rfl rfl (by kernel_rfl) (by kernel_rfl) (by kernel_rfl) (fun _ _ _ h => h) (Or.inr ⟨by kernel_rfl, rfl⟩) hHeld ?_
    (try simp only [Act.put, List.setIfInBounds_toArray, List.set_cons_zero, List.set_cons_succ])
    refine take_at 18 23 (undef) rfl rfl (by kernel_rfl) (by kernel_rfl) (by kernel_rfl) (fun _ _ _ h => h) (Or.inr ⟨by kernel_rfl, rfl⟩) hHeld ?_
    (try simp only [Act.put, List.setIfInBounds_toArray, List.set_cons_zero, List.set_cons_succ])
    refine take_at 19 24 (undef) rfl rfl (by kernel_rfl) (by kernel_rfl) (by kernel_rfl) (fun _ _ _ h => h) (Or.inr ⟨by kernel_rfl, rfl⟩) hHeld ?_
    (try simp only [Act.put, List.setIfInBounds_toArray, List.set_cons_zero, List.set_cons_succ])
    refine take_at 20 25 (undef) rfl rfl (by kernel_rfl) (by kernel_rfl) (by kernel_rfl) (fun _ _ _ h => h) (Or.inr ⟨by kernel_rfl, rfl⟩) hHeld ?_
    (try simp only [Act.put, List.setIfInBounds_toArray, List.set_cons_zero, List.set_cons_succ])
    refine take_at 21 26 (.bool false) rfl rfl (by kernel_rfl) (by kernel_rfl) (by kernel_rfl) (fun _ _ _ h => h) (Or.inl ⟨by kernel_rfl, fun w' hS' => by go_simp⟩) hHeld ?_
    (try simp only [Act.put, List.setIfInBounds_toArray, List.set_cons_zero, List.set_cons_succ])
    refine take_at 22 27 (.bool false) rfl rfl (by kernel_rfl) (by kernel_rfl) (by kernel_rfl) (fun _ _ _ h => h) (Or.inl ⟨by kernel_rfl, fun w' hS' => by go_simp⟩) hHeld ?_
    (try simp only [Act.put, List.setIfInBounds_toArray, List.set_cons_zero, List.set_cons_succ])
    refine take_at 23 28 (undef) rfl rfl (by kernel_rfl) (by kernel_rfl) (by kernel_rfl) (fun _ _ _ h => h) (Or.inr ⟨by kernel_rfl, rfl⟩) hHeld ?_
    (try simp only [Act.put, List.setIfInBounds_toArray, List.set_cons_zero, List.set_cons_succ])
    refine take_at 24 29 (undef) rfl rfl (by kernel_rfl) (by kernel_rfl) (by kernel_rfl) (fun _ _ _ h => h) (Or.inr ⟨by kernel_rfl, rfl⟩) hHeld ?_
    (try simp only [Act.put, List.setIfInBounds_toArray, List.set_cons_zero, List.set_cons_succ])
    refine take_at 25 30 (undef) rfl rfl (by kernel_rfl) (by kernel_rfl) (by kernel_rfl) (fun _ _ _ h => h) (Or.inr ⟨by kernel_rfl, rfl⟩) hHeld ?_
    (try simp only [Act.put, List.setIfInBounds_toArray, List.set_cons_zero, List.set_cons_succ])
    refine take_at 26 31 (undef) rfl rfl (by kernel_rfl) (by kernel_rfl) (by kernel_rfl) (fun _ _ _ h => h) (Or.inr ⟨by kernel_rfl, rfl⟩) hHeld ?_
    (try simp only [Act.put, List.setIfInBounds_toArray, List.set_cons_zero, List.set_cons_succ])
    refine take_at 27 32 (undef) rfl rfl (by kernel_rfl) (by kernel_rfl) (by kernel_rfl) (fun _ _ _ h => h) (Or.inr ⟨by kernel_rfl, rfl⟩) hHeld ?_
    (try simp only [Act.put, List.setIfInBounds_toArray, List.set_cons_zero, List.set_cons_succ])
    refine take_at 28 33 (undef) rfl rfl (by kernel_rfl) (by kernel_rfl) (by kernel_rfl) (fun _ _ _ h => h) (Or.inr ⟨by kernel_rfl, rfl⟩) hHeld ?_
    (try simp only [Act.put, List.setIfInBounds_toArray, List.set_cons_zero, List.set_cons_succ])
    refine take_at 29 34 (undef) rfl rfl (by kernel_rfl) (by kernel_rfl) (by kernel_rfl) (fun _ _ _ h => h) (Or.inr ⟨by kernel_rfl, rfl⟩) hHeld ?_
    (try simp only [Act.put, List.setIfInBounds_toArray, List.set_cons_zero, List.set_cons_succ])
    refine take_at 30 35 (undef) rfl rfl (by kernel_rfl) (by kernel_rfl) (by kernel_rfl) (fun _ _ _ h => h) (Or.inr ⟨by kernel_rfl, rfl⟩) hHeld ?_
    (try simp only [Act.put, List.setIfInBounds_toArray, List.set_cons_zero, List.set_cons_succ])
    refine take_at 31 36 (undef) rfl rfl (by kernel_rfl) (by kernel_rfl) (by kernel_rfl) (fun _ _ _ h => h) (Or.inr ⟨by kernel_rfl, rfl⟩) hHeld ?_
    (try simp only [Act.put, List.setIfInBounds_toArray, List.set_cons_zero, List.set_cons_succ])
    refine take_at 32 37 (undef) rfl rfl (by kernel_rfl) (by kernel_rfl) (by kernel_rfl) (fun _ _ _ h => h) (Or.inr ⟨by kernel_rfl, rfl⟩) hHeld ?_
    (try simp only [Act.put, List.setIfInBounds_toArray, List.set_cons_zero, List.set_cons_succ])
    refine take_at 33 38 (undef) rfl rfl (by kernel_rfl) (by kernel_rfl) (by kernel_rfl) (fun _ _ _ h => h) (Or.inr ⟨by kernel_rfl, rfl⟩) hHeld ?_
    (try simp only [Act.put, List.setIfInBounds_toArray, List.set_cons_zero, List.set_cons_succ])
    refine take_at 34 39 (undef) rfl rfl (by kernel_rfl) (by kernel_rfl) (by kernel_rfl) (fun _ _ _ h => h) (Or.inr ⟨by kernel_rfl, rfl⟩) hHeld ?_
    (try simp only [Act.put, List.setIfInBounds_toArray, List.set_cons_zero, List.set_cons_succ])
    refine take_at 35 40 (undef) rfl rfl (by kernel_rfl) (by kernel_rfl) (by kernel_rfl) (fun _ _ _ h => h) (Or.inr ⟨by kernel_rfl, rfl⟩) hHeld ?_
    (try simp only [Act.put, List.setIfInBounds_toArray, List.set_cons_zero, List.set_cons_succ])
    refine take_at 36 41 (.bool false) rfl rfl (by kernel_rfl) (by kernel_rfl) (by kernel_rfl) (fun _ _ _ h => h) (Or.inl ⟨by kernel_rfl, fun w' hS' => by go_simp⟩) hHeld ?_
    (try simp only [Act.put, List.setIfInBounds_toArray, List.set_cons_zero, List.set_cons_succ])
    refine take_at 37 4 (.bool false) rfl rfl (by kernel_rfl) (by kernel_rfl) (by kernel_rfl) (fun _ _ _ h => h) (Or.inl ⟨by kernel_rfl, fun w' hS' => by go_simp⟩) hHeld ?_
    (try simp only [Act.put, List.setIfInBounds_toArray, List.set_cons_zero, List.set_cons_succ])
    refine wpAnyH_done (by kernel_rfl) ?_ _
    refine NoPanic.normal ?_
    go_wp2_with fail
    go_ret
    exact ⟨by rw [HE.out]; rfl, HXX.out ▸ HBd2.out⟩
theorem textIn_small {x : Bl} (h : blockB x = true) {c : Int} {s : List Sg} (hs : textIn x c = some s) : s.length ≤ 24 := by
  obtain ⟨K, V, t, R, C, l⟩ := x
  unfold textIn at hs
  unfold blockB at h
  simp only at h hs
  by_cases h3 : K = 3
  · subst h3
    rw [if_pos rfl] at hs
    rw [if_neg (by decide), if_neg (by decide), if_pos rfl, Bool.and_eq_true] at h
    split at hs
    · rename_i hc
      cases hs
      have hj : c.toNat < l.length := by omega
      rw [show l.getD c.toNat cl0 = l[c.toNat] by simp [List.getD, hj]]
      exact (ok_small h.2).2 _ (List.getElem_mem hj)
    · cases hs
  · rw [if_neg h3] at hs
    split at hs
    · cases hs
      by_cases h1 : K = 1
      · rw [if_pos h1] at h
        simp [textB] at h
        omega
      · rw [if_neg h1] at h
        by_cases h2 : K = 2
        · rw [if_pos h2] at h
          simp [textB] at h
          omega
        · rw [if_neg h2, if_neg h3] at h
          cases h
    · cases hs
theorem plT_parts {d : List Bl} {pb pc pa : Int} {s : List Sg} (h : plT d pb pc pa = some s) : ∃ i : Nat, pb = i ∧ i < d.length ∧ blockB (d.getD i bl0) = true ∧ textIn (d.getD i bl0) pc = some s ∧ 0 ≤ pa ∧ pa ≤ (s.length : Int) := by
  unfold plT at h
  split at h
  · rename_i hd
    unfold placeT at h
    split at h
    · rename_i hb
      obtain ⟨i, rfl⟩ : ∃ i : Nat, pb = i := ⟨pb.toNat, by omega⟩
      have hi : i < d.length := by omega
      simp only [Int.toNat_natCast] at h
      cases hx : textIn (d.getD i bl0) pc with
      | none => rw [hx] at h; simp at h
      | some t =>
        rw [hx] at h
        simp only [Option.bind_some] at h
        split at h
        · rename_i ha
          cases h
          unfold docB at hd
          rw [Bool.and_eq_true, List.all_eq_true] at hd
          have hk := hd.2 i (List.mem_range.2 hi)
          unfold docK at hk
          rw [Bool.and_eq_true] at hk
          exact ⟨i, rfl, hi, hk.1, hx, ha.1, ha.2⟩
        · cases h
    · cases h
  · cases h
set_option maxRecDepth 100000 in
set_option maxHeartbeats 16000000 in
theorem specPlaceText_any {a : Option Addr} {n cap : Nat} {d : List Bl} {pb pc pa : Int} {w : World} (h : Dc w a n cap d) :
    Calls Tryz.prog 24 #[.agg #[.slice a n cap], .agg #[.int .i64 pb, .int .i64 pc, .int .i64 pa]] w fun e w' => (∃ p m q, e = .returned (.slice p m q) ∧ Own w' w.heap.size (.slice p m q) ((plT d pb pc pa).getD [])) ∧ Below w.heap.size w w' := by
  have HN : Hid (n = d.length) := h.1
  have hc := h.2.1
  have hm := h.2.2.1
  unfold maxLen at hm
  have H : Hid (Dc w a n cap d) := h
  clear h
  obtain ⟨x, HX⟩ : ∃ x, Hid ((plT d pb pc pa).isSome = x) := ⟨_, rfl⟩
  go_enter Tryz.func24, Tryz.ntmps24
  go_upto_region 1 with fail
  have B0 : Below w.heap.size w ((w.alloc (.cells #[.slice a n cap] 25)).alloc (.cells #[.int .i64 pb, .int .i64 pc, .int .i64 pa] 27)) := ((Below.refl _ _).alloc (Nat.le_refl _) _).alloc (by simp) _
  have G0 : RowAt ((w.alloc (.cells #[.slice a n cap] 25)).alloc (.cells #[.int .i64 pb, .int .i64 pc, .int .i64 pa] 27)) w.heap.size #[.slice a n cap] 25 := (rowAt_new w _ _).alloc _
  have G1 : RowAt ((w.alloc (.cells #[.slice a n cap] 25)).alloc (.cells #[.int .i64 pb, .int .i64 pc, .int .i64 pa] 27)) (w.heap.size + 1) #[.int .i64 pb, .int .i64 pc, .int .i64 pa] 27 := by
    have := rowAt_new (w.alloc (.cells #[.slice a n cap] 25)) #[.int .i64 pb, .int .i64 pc, .int .i64 pa] 27
    simpa using this
  generalize ((w.alloc (.cells #[.slice a n cap] 25)).alloc (.cells #[.int .i64 pb, .int .i64 pc, .int .i64 pa] 27)) = v0 at B0 G0 G1 ⊢
  have s0 := B0.size
  have HB0 : Hid (Below w.heap.size w v0) := B0
  have HD0 : Hid (Dc v0 a n cap d) := H.out.below B0
  have HS0 : Hid (DpS v0 w.heap.size (.slice a n cap) pb pc pa) := ⟨G0, G1⟩
  clear G0 G1 B0
  have q0 := HS0.out.1.cell 0
  simp at q0
  go_wp2_with (refine wpList_load_row rfl 27 (.tmp 3) rfl (w.heap.size + 1) rfl 27 #[.int .i64 pb, .int .i64 pc, .int .i64 pa] (0, 0) _ HS0.out.2 Tryz.underlying27 rfl place_infoS ?_)
  refine (specPlaceOk_is HX.out HD0.out).mono ?_
  rintro e v1 ⟨rfl, hb1⟩
  have HB1 : Hid (Below w.heap.size w v1) := HB0.out.trans (hb1.mono s0)
  have HS1' : Hid (DpS v1 w.heap.size (.slice a n cap) pb pc pa) := HS0.out.below hb1
  have HD1 : Hid (Dc v1 a n cap d) := HD0.out.below hb1
  have s1 := HB1.out.size
  clear HS0 HD0 HB0 q0 hb1
  cases x
  · have HE : Hid ((plT d pb pc pa).getD [] = []) := by
      show (plT d pb pc pa).getD [] = []
      cases hp : plT d pb pc pa with
      | none => rfl
      | some s => have := HX.out; rw [hp] at this; cases this
    go_wp2_with fail
    go_ret
    rw [HE.out]
    exact ⟨⟨_, _, _, rfl, World.ownsRow_lit v1 #[] 0 s1 (by unfold maxLen; omega) rfl⟩, HB1.out.alloc s1 _⟩
  · obtain ⟨s, hs⟩ : ∃ s, plT d pb pc pa = some s := by
      cases hp : plT d pb pc pa with
      | none => have := HX.out; rw [hp] at this; cases this
      | some s => exact ⟨s, rfl⟩
    obtain ⟨i, rfl, hid, hbo, hti, -, -⟩ := plT_parts hs
    have HE : Hid ((plT d i pc pa).getD [] = s) := by
      show (plT d i pc pa).getD [] = s
      rw [hs]
      rfl
    have HS24 : Hid (s.length ≤ 24) := textIn_small hbo hti
    have hin : (i : Int) < (n : Int) := by have := HN.out; omega
    have hi0 : (0 : Int) ≤ (i : Int) := by omega
    rcases HD1.out.2.2.2 with e | ⟨b, off, rfl, hbl, hcl⟩
    · rw [e] at hid
      exact absurd hid (by simp)
    obtain ⟨ta, tn, tc, ca, cn, cc, hblk⟩ := hcl i hid
    obtain ⟨⟨K, V, t, RR, C, l⟩, hy⟩ : ∃ y, y = d.getD i bl0 := ⟨_, rfl⟩
    rw [← hy] at hblk hti
    have HTX : Hid (textIn (K, V, t, RR, C, l) pc = some s) := hti
    have HS1 : Hid (DpB v1 w.heap.size (.slice (some ⟨b, off, none⟩) n cap) i pc pa b (off + i * 6) (K, V, t, RR, C, l) ta tn tc ca cn cc) := ⟨HS1'.out, hblk, hbl⟩
    clear hcl hblk hbl hy HS1' hs hbo hti HX HD1 H
    go_upto_region 3 with fail
    refine wp_region_noPanic ?_
    refine wp_region_L (fun w' => DpB w' w.heap.size (.slice (some ⟨b, off, none⟩) n cap) i pc pa b (off + i * 6) (K, V, t, RR, C, l) ta tn tc ca cn cc) 11 (by kernel_rfl) (HS1.out) (fun hHeld => ?_)
    replace hHeld := hHeld
    have HBd : Hid (Below w.heap.size w v1.drew) := HB1.out.drew
    have sd : w.heap.size ≤ v1.drew.heap.size := HB1.out.size
    generalize v1.drew = u0 at hHeld HBd sd ⊢
    clear HS1 HB1
    refine takeL 1 11 (.pointer (some ⟨w.heap.size, 0, none⟩)) rfl rfl (by kernel_rfl) (by kernel_rfl) (by kernel_rfl) (by kernel_rfl) (by kernel_rfl) (fun _ _ _ h => h) (Or.inl ⟨by kernel_rfl, fun w' hS' => by go_simp⟩) hHeld ?_
    (try simp only [Act.put, List.setIfInBounds_toArray, List.set_cons_zero, List.set_cons_succ])
    refine takeL 2 12 (.slice (some ⟨b, off, none⟩) n cap) rfl rfl (by kernel_rfl) (by kernel_rfl) (by kernel_rfl) (by kernel_rfl) (by kernel_rfl) (fun _ _ _ h => h) (Or.inl ⟨by kernel_rfl, fun w' hS' => by have hc := RowAt.cell hS'.1.1 0; go_simp⟩) hHeld ?_
    (try simp only [Act.put, List.setIfInBounds_toArray, List.set_cons_zero, List.set_cons_succ])
    refine takeL 3 13 (.pointer (some ⟨w.heap.size + 1, 0, none⟩)) rfl rfl (by kernel_rfl) (by kernel_rfl) (by kernel_rfl) (by kernel_rfl) (by kernel_rfl) (fun _ _ _ h => h) (Or.inl ⟨by kernel_rfl, fun w' hS' => by go_simp⟩) hHeld ?_
    (try simp only [Act.put, List.setIfInBounds_toArray, List.set_cons_zero, List.set_cons_succ])
    refine takeL 4 14 (.int .i64 i) rfl rfl (by kernel_rfl) (by kernel_rfl) (by kernel_rfl) (by kernel_rfl) (by kernel_rfl) (fun _ _ _ h => h) (Or.inl ⟨by kernel_rfl, fun w' hS' => by have hc := RowAt.cell hS'.1.2 0; go_simp⟩) hHeld ?_
    (try simp only [Act.put, List.setIfInBounds_toArray, List.set_cons_zero, List.set_cons_succ])
    refine takeL 5 15 (.pointer (some ⟨b, off + i * 6, none⟩)) rfl rfl (by kernel_rfl) (by kernel_rfl) (by kernel_rfl) (by kernel_rfl) (by kernel_rfl) (fun _ _ _ h => h) (Or.inl ⟨by kernel_rfl, fun w' hS' => by go_simp⟩) hHeld ?_
    (try simp only [Act.put, List.setIfInBounds_toArray, List.set_cons_zero, List.set_cons_succ])
    refine takeL 6 16 (.agg #[.int .i64 K, .int .i64 V, .slice ta tn tc, .int .i64 RR, .int .i64 C, .slice ca cn cc]) rfl rfl (by kernel_rfl) (by kernel_rfl) (by kernel_rfl) (by kernel_rfl) (by kernel_rfl) (fun _ _ _ h => h) (Or.inl ⟨by kernel_rfl, fun w' hS' => by obtain ⟨e0, e1, e2, e3, e4, e5, -, -⟩ := hS'.2.1; go_simp⟩) hHeld ?_
    (try simp only [Act.put, List.setIfInBounds_toArray, List.set_cons_zero, List.set_cons_succ])
    refine takeL 7 17 (.pointer (some ⟨w.heap.size + 1, 1, none⟩)) rfl rfl (by kernel_rfl) (by kernel_rfl) (by kernel_rfl) (by kernel_rfl) (by kernel_rfl) (fun _ _ _ h => h) (Or.inl ⟨by kernel_rfl, fun w' hS' => by go_simp⟩) hHeld ?_
    (try simp only [Act.put, List.setIfInBounds_toArray, List.set_cons_zero, List.set_cons_succ])
    refine takeL 8 18 (.int .i64 pc) rfl rfl (by kernel_rfl) (by kernel_rfl) (by kernel_rfl) (by kernel_rfl) (by kernel_rfl) (fun _ _ _ h => h) (Or.inl ⟨by kernel_rfl, fun w' hS' => by have hc := RowAt.cell hS'.1.2 1; go_simp⟩) hHeld ?_
    (try simp only [Act.put, List.setIfInBounds_toArray, List.set_cons_zero, List.set_cons_succ])
    refine wpAnyL_ready (rs := [0, 9]) (by kernel_rfl) (by simp) ?_
    refine AllReadyL.cons rfl (fun K0 hK => ?_) (AllReadyL.cons rfl (fun K0 hK => ?_) AllReadyL.nil)
    · have hH0 := hHeld
      go_simp
      refine hK.out _ _ (fun _ => hHeld.below ((Below.refl _ _).alloc (Nat.le_refl _) _)) (fun hHeld => ?_)
      replace hHeld := hHeld (by decide)
      clear hK K0
      (try simp only [Act.put, List.setIfInBounds_toArray, List.set_cons_zero, List.set_cons_succ])
      have hbA0 : Below u0.heap.size u0 (u0.alloc (.cells #[] 82)) := (Below.refl _ _).alloc (Nat.le_refl _) _
      have HBa : Hid (Below w.heap.size w (u0.alloc (.cells #[] 82))) := HBd.out.alloc sd _
      have sa : w.heap.size ≤ (u0.alloc (.cells #[] 82)).heap.size := HBa.out.size
      have HOa : Hid (World.ownsRow (u0.alloc (.cells #[] 82)) u0.heap.size 82 3 (.slice (some ⟨u0.heap.size, 0, none⟩) 0 0) 0 []) := World.ownsRow_lit u0 #[] 0 (Nat.le_refl _) (by unfold maxLen; omega) rfl
      refine wpAnyL_ready (rs := [9]) (by kernel_rfl) (by simp) ?_
      refine AllReadyL.cons rfl (fun K0 hK => ?_) AllReadyL.nil
      go_simp
      go_at_call 28
      refine (l11Text_any HTX.out hHeld.2.1.2.2.2.2.2.2.1 hHeld.2.1.2.2.2.2.2.2.2).mono ?_
      rintro _ u2 ⟨⟨xa, xn, xc, rfl, hxt⟩, hb⟩
      have HXT : Hid (Txt u2 xa xn xc s) := hxt
      have hxn : xn ≤ 24 := by rw [hxt.1]; exact HS24.out
      have HBc : Hid (Below w.heap.size w u2) := HBa.out.trans (hb.mono sa)
      have sc : w.heap.size ≤ u2.heap.size := HBc.out.size
      have HOc : Hid (World.ownsRow u2 u0.heap.size 82 3 (.slice (some ⟨u0.heap.size, 0, none⟩) 0 0) 0 []) := own_below HOa.out hb
      have hbA : Below u0.heap.size u0 u2 := hbA0.trans (hb.mono (by simp))
      have sg : u0.heap.size < u2.heap.size := by have := hb.size; simp at this; omega
      go_wp2_with fail
      refine hK.out _ _ (fun _ => hHeld.below hb) (fun hHeld => ?_)
      replace hHeld := hHeld (by decide)
      clear hK K0 hxt hb
      (try simp only [Act.put, List.setIfInBounds_toArray, List.set_cons_zero, List.set_cons_succ])
      refine wpAnyL_ready (rs := [10]) (by kernel_rfl) (by simp) ?_
      refine AllReadyL.cons rfl (fun K0 hK => ?_) AllReadyL.nil
      refine step_append_txtD 20 (by rfl) (by rfl) _ _ (by rfl) u0.heap.size _ 0 [] (by rfl) HOc.out xa xn xc s (by rfl) HXT.out (by omega) (by omega) xn (by omega) ?_
      intro q qc u3 hown hgrow
      have HO3 : Hid (Own u3 u0.heap.size (.slice q xn qc) s) := by
        show Own u3 u0.heap.size (.slice q xn qc) s
        have e := HXT.out.1
        subst e
        unfold Own
        simpa using hown
      have HB3 : Hid (Below w.heap.size w u3) := HBc.out.grown hgrow (by omega) (fun g hg => by simp [Value.ownBlock] at hg; omega)
      have hb3 : Below u0.heap.size u0 u3 := hbA.grown hgrow (by omega) (fun g hg => by simp [Value.ownBlock] at hg; omega)
      refine hK.out _ _ (fun _ => hH0.below hb3) (fun hL => ?_)
      clear hK K0 hown hgrow
      (try simp only [Act.put, List.setIfInBounds_toArray, List.set_cons_zero, List.set_cons_succ])
      refine wpAnyL_ready (rs := [11]) (by kernel_rfl) (by simp) ?_
      refine AllReadyL.cons rfl (fun K0 hK => ?_) AllReadyL.nil
      go_simp
      refine hK.out _ _ (fun h => absurd rfl h) (fun hL2 => ?_)
      clear hK K0
      (try simp only [Act.put, List.setIfInBounds_toArray, List.set_cons_zero, List.set_cons_succ])
      refine wpAnyL_done (by kernel_rfl) ?_ _
      refine NoPanic.normal ?_
      go_wp2_with fail
      go_ret
      rw [HE.out]
      exact ⟨⟨q, xn, qc, rfl, own_less HO3.out (by omega)⟩, HB3.out⟩
    · go_simp
      go_at_call 28
      refine (l11Text_any HTX.out hHeld.2.1.2.2.2.2.2.2.1 hHeld.2.1.2.2.2.2.2.2.2).mono ?_
      rintro _ u1 ⟨⟨xa, xn, xc, rfl, hxt⟩, hb⟩
      have HXT : Hid (Txt u1 xa xn xc s) := hxt
      have hxn : xn ≤ 24 := by rw [hxt.1]; exact HS24.out
      have HBc : Hid (Below w.heap.size w u1) := HBd.out.trans (hb.mono sd)
      have sc : w.heap.size ≤ u1.heap.size := HBc.out.size
      have sg := hb.size


      go_wp2_with fail
      refine hK.out _ _ (fun _ => hHeld.below hb) (fun hHeld => ?_)
      replace hHeld := hHeld (by decide)
      clear hK K0 hxt hb
      (try simp only [Act.put, List.setIfInBounds_toArray, List.set_cons_zero, List.set_cons_succ])
      refine wpAnyL_ready (rs := [0]) (by kernel_rfl) (by simp) ?_
      refine AllReadyL.cons rfl (fun K0 hK => ?_) AllReadyL.nil
      have hH0 := hHeld
      go_simp
      refine hK.out _ _ (fun _ => hHeld.below ((Below.refl _ _).alloc (Nat.le_refl _) _)) (fun hHeld => ?_)
      replace hHeld := hHeld (by decide)
      clear hK K0
      (try simp only [Act.put, List.setIfInBounds_toArray, List.set_cons_zero, List.set_cons_succ])
      have HOc : Hid (World.ownsRow (u1.alloc (.cells #[] 82)) u1.heap.size 82 3 (.slice (some ⟨u1.heap.size, 0, none⟩) 0 0) 0 []) := World.ownsRow_lit u1 #[] 0 (Nat.le_refl _) (by unfold maxLen; omega) rfl
      have hbB : Below u1.heap.size u1 (u1.alloc (.cells #[] 82)) := (Below.refl _ _).alloc (Nat.le_refl _) _
      have sq : u1.heap.size < (u1.alloc (.cells #[] 82)).heap.size := by simp
      replace HBc : Hid (Below w.heap.size w (u1.alloc (.cells #[] 82))) := HBc.out.alloc sc _
      replace HXT : Hid (Txt (u1.alloc (.cells #[] 82)) xa xn xc s) := HXT.out.below ((Below.refl _ _).alloc (Nat.le_refl _) _)
      refine wpAnyL_ready (rs := [10]) (by kernel_rfl) (by simp) ?_
      refine AllReadyL.cons rfl (fun K0 hK => ?_) AllReadyL.nil
      refine step_append_txtD 20 (by rfl) (by rfl) _ _ (by rfl) u1.heap.size _ 0 [] (by rfl) HOc.out xa xn xc s (by rfl) HXT.out (by omega) (by omega) xn (by omega) ?_
      intro q qc u3 hown hgrow
      have HO3 : Hid (Own u3 u1.heap.size (.slice q xn qc) s) := by
        show Own u3 u1.heap.size (.slice q xn qc) s
        have e := HXT.out.1
        subst e
        unfold Own
        simpa using hown
      have HB3 : Hid (Below w.heap.size w u3) := HBc.out.grown hgrow (by omega) (fun g hg => by simp [Value.ownBlock] at hg; omega)
      have hb3 : Below u1.heap.size u1 u3 := hbB.grown hgrow (by omega) (fun g hg => by simp [Value.ownBlock] at hg; omega)
      refine hK.out _ _ (fun _ => hH0.below hb3) (fun hL => ?_)
      clear hK K0 hown hgrow
      (try simp only [Act.put, List.setIfInBounds_toArray, List.set_cons_zero, List.set_cons_succ])
      refine wpAnyL_ready (rs := [11]) (by kernel_rfl) (by simp) ?_
      refine AllReadyL.cons rfl (fun K0 hK => ?_) AllReadyL.nil
      go_simp
      refine hK.out _ _ (fun h => absurd rfl h) (fun hL2 => ?_)
      clear hK K0
      (try simp only [Act.put, List.setIfInBounds_toArray, List.set_cons_zero, List.set_cons_succ])
      refine wpAnyL_done (by kernel_rfl) ?_ _
      refine NoPanic.normal ?_
      go_wp2_with fail
      go_ret
      rw [HE.out]
      exact ⟨⟨q, xn, qc, rfl, own_less HO3.out (by omega)⟩, HB3.out⟩
end Go.Proofs.YtccoeachemnbnaaGreatDoor
namespace Go.Proofs.YtccoeachemnbnaaGreatDoor
open Go.RowKit

theorem hasB7 {n : Int} (h : whoB n = true) : hasB 7 n = !(n == 0) := by
  simp [whoB] at h
  rcases (show n = 0 ∨ n = 1 ∨ n = 2 ∨ n = 3 from by omega) with rfl | rfl | rfl | rfl <;> rfl
def noOut (s : Sg) : Bool := s.2.2 == 0
def noIn (s : Sg) : Bool := s.2.1 == 0
def pickL (q : Sg → Bool) (l : List Sg) : List Int := if textB l then bytesOf (l.filter q) else []

theorem filter_congr' {q r : Sg → Bool} {l : List Sg} (h : ∀ s ∈ l, q s = r s) : l.filter q = l.filter r := List.filter_congr h

theorem nowL_eq (l : List Sg) : nowL l = pickL noOut l := by
  unfold nowL pickL settleL
  cases h : textB l
  · rfl
  · simp only [if_true]
    have e : l.filter (outQ 7) = l.filter noOut := filter_congr' (fun s hs => by
      have := sgB_parts (textB_all h s hs)
      simp [outQ, noOut, hasB7 this.2.2.1])
    unfold settled bytesOf
    rw [e, List.map_map]
    rfl
theorem wasL_eq (l : List Sg) : wasL l = pickL noIn l := by
  unfold wasL pickL settleL
  cases h : textB l
  · rfl
  · simp only [if_true]
    have e : l.filter (inQ 7) = l.filter noIn := filter_congr' (fun s hs => by
      have := sgB_parts (textB_all h s hs)
      simp [inQ, noIn, hasB7 this.2.1])
    unfold settled bytesOf
    rw [e, List.map_map]
    rfl

theorem picked_yes (q : Sg → Bool) (l : List Sg) (k : Nat) (hk : k < l.length) (h : q (l.getD k (0, 0, 0)) = true) :
    bytesOf ((l.take (k + 1)).filter q) = bytesOf ((l.take k).filter q) ++ [(l.getD k (0, 0, 0)).1] := by
  have e : l.getD k (0, 0, 0) = l[k] := by simp [List.getD, hk]
  rw [e] at h ⊢
  unfold bytesOf
  rw [List.take_succ_eq_append_getElem hk, List.filter_append, List.map_append]
  simp [h]
theorem picked_no (q : Sg → Bool) (l : List Sg) (k : Nat) (hk : k < l.length) (h : q (l.getD k (0, 0, 0)) = false) :
    bytesOf ((l.take (k + 1)).filter q) = bytesOf ((l.take k).filter q) := by
  have e : l.getD k (0, 0, 0) = l[k] := by simp [List.getD, hk]
  rw [e] at h
  unfold bytesOf
  rw [List.take_succ_eq_append_getElem hk, List.filter_append, List.map_append]
  simp [h]

theorem implTextNow_is {a : Option Addr} {n cap : Nat} {l : List Sg} {w : World} (h : Txt w a n cap l) {S : ByteArray} (hS : strOfNums (pickL noOut l) = S) :
    Calls Tryz.prog 29 #[.slice a n cap] w fun e w' => e = .returned (.string S) ∧ Below w.heap.size w w' := by
  rw [← hS, ← nowL_eq]; exact implTextNow_any a n cap l w h

theorem implTextWas_is {a : Option Addr} {n cap : Nat} {l : List Sg} {w : World} (h : Txt w a n cap l) {S : ByteArray} (hS : strOfNums (pickL noIn l) = S) :
    Calls Tryz.prog 22 #[.slice a n cap] w fun e w' => e = .returned (.string S) ∧ Below w.heap.size w w' := by
  rw [← hS, ← wasL_eq]; exact implTextWas_any a n cap l w h

end Go.Proofs.YtccoeachemnbnaaGreatDoor
namespace Go.Proofs.YtccoeachemnbnaaGreatDoor
open Go.RowKit

set_option maxHeartbeats 1000000 in
theorem specTextNow_any (a : Option Addr) (n cap : Nat) (l : List Sg) (w : World) (h : Txt w a n cap l) :
    Calls Tryz.prog 31 #[.slice a n cap] w fun e w' => e = .returned (.string (strOfNums (pickL noOut l))) ∧ Below w.heap.size w w' := by
  have h0 := h
  obtain ⟨rfl, hc, hm, hl⟩ := h
  unfold maxLen at hm
  have HH : Hid (Txt w a l.length cap l) := h0
  clear h0
  obtain ⟨i0, hi, hz0, hz1, hz2⟩ := info_parts Tryz.info5
  rcases hl with rfl | ⟨b, off, rfl, hbw, hl⟩
  · have hcv := convert_own (OwnB.emptyNew w 0 (Nat.zero_le _))
    go_enter Tryz.func31, Tryz.ntmps31
    go_wp2_with fail
    refine wp_loop_rounds 1 ?_
    rw [rounds_succ]
    go_wp2_with fail
    go_ret
    exact ⟨rfl, (Below.refl _ _).alloc (Nat.le_refl _) _⟩
  · cases htb : textB l
    · rw [show pickL noOut l = [] from by simp [pickL, htb]]
      by_cases hz : l.length = 0
      · obtain rfl : l = [] := List.eq_nil_of_length_eq_zero hz
        exact absurd htb (by decide)
      · have hcv := fun w1 (hb1 : Below (w.alloc (.cells #[] 5)).heap.size (w.alloc (.cells #[] 5)) w1) => convert_own ((OwnB.emptyNew w 0 (Nat.zero_le _)).below hb1)
        have HC : Hid (∀ w1 : World, Below (w.alloc (.cells #[] 5)).heap.size (w.alloc (.cells #[] 5)) w1 → (convert 22 9 (.slice (some ⟨w.heap.size, 0, none⟩) 0 0)).run Tryz.prog w1 = .ok (.string (strOfNums [])) w1) := hcv
        clear hcv hl
        have hpos : 0 < l.length := by omega
        clear hz
        go_enter Tryz.func31, Tryz.ntmps31
        go_wp2_with fail
        refine wp_loop_rounds 1 ?_
        rw [rounds_succ]
        go_wp2_with (go_at_call 45; refine (specTextOk_is (HH.out.below ((Below.refl _ _).alloc (Nat.le_refl _) _)) htb).mono ?_; rintro e w1 ⟨rfl, hb1⟩; have hcv := HC.out _ hb1)
        go_ret
        exact ⟨rfl, ((Below.refl _ _).alloc (Nat.le_refl _) _).trans (hb1.mono (by simp))⟩
    · rw [show pickL noOut l = bytesOf (l.filter noOut) from by simp [pickL, htb]]
      have h24 := textB_len htb
      have HT : Hid (textB l = true) := htb
      clear htb
      go_enter Tryz.func31, Tryz.ntmps31
      go_wp2_with fail
      go_loopw [3, 4] (fun v i wr => ∃ (k : Nat) (a : Option Addr) (m c : Nat), k ≤ l.length ∧ i = .int .i64 k ∧ v = .slice a m c ∧ m ≤ k ∧ OwnB wr w.heap.size (.slice a m c) (bytesOf ((l.take k).filter noOut)) ∧ Below w.heap.size w wr) (fun _ i _ => l.length - (intOf i).toNat)
      case atStart => exact ⟨0, some ⟨w.heap.size, 0, none⟩, 0, 0, Nat.zero_le _, rfl, rfl, Nat.le_refl _, by simpa [bytesOf] using OwnB.emptyNew w w.heap.size (Nat.le_refl _), (Below.refl _ _).alloc (Nat.le_refl _) _⟩
      case round =>
        obtain ⟨k, a, m, c, hk, rfl, rfl, hmk, ho, hbl⟩ := hrel
        have hsz := hbl.size
        by_cases hlt : k < l.length
        · have HO : Hid (OwnB wr w.heap.size (.slice a m c) (bytesOf ((l.take k).filter noOut))) := ho
          clear ho
          have HL : Hid (SignsAt w b off l) := hl
          clear hl
          obtain ⟨s, hs⟩ : ∃ s, s = l.getD k (0, 0, 0) := ⟨_, rfl⟩
          have HS : Hid (s = l.getD k (0, 0, 0)) := hs
          clear hs
          go_wp2_with fail
          refine (specTextOk_is (HH.out.below hbl) HT.out).mono ?_
          rintro e w1 ⟨rfl, hb1⟩
          have s1 := hb1.size
          have hb01 := hbl.trans (hb1.mono hsz)
          obtain ⟨c0, c1, c2⟩ := (HL.out.below hb01 hbw) k hlt
          rw [← HS.out] at c0 c1 c2
          have HO1 : Hid (OwnB w1 w.heap.size (.slice a m c) (bytesOf ((l.take k).filter noOut))) := HO.out.below hb1
          cases hq : (s.2.2 == (0 : Int))
          · go_wp2_with fail
            go_roundw
            case rel => exact ⟨k + 1, a, m, c, by omega, by go_num, rfl, by omega, by rw [picked_no noOut l k hlt (by rw [← HS.out]; exact hq)]; exact HO1.out, hb01⟩
            case measure => simp [intOf]; omega
          · have HQ : Hid ((s.2.2 == (0 : Int)) = true) := hq
            go_wp2_with (at_builtin; refine wpList_append_own _ rfl (.tmp 22) (.tmp 28) 22 rfl w.heap.size 5 i0 (.int .u8 0) 1 1 Tryz.underlying22 hi hz0 hz1 hz2 rfl (by decide) (.slice a m c) _ _ rfl (HO1.out.row.alloc _) ⟨w1.heap.size, 0, none⟩ 1 1 [.int .u8 s.1] rfl rfl (cell_one_new' _ _ _) (byte_oneCell _) (by unfold maxLen; omega) (by omega) (by simp; omega) ?_; intro v' w2 hown' hgrow _)
            obtain ⟨a', c', rfl, ho2, hb2⟩ := ownB_step (x := s.1) HO1.out hb01 (by omega) hown' hgrow
            rw [HS.out, ← picked_yes noOut l k hlt (by rw [← HS.out]; exact HQ.out)] at ho2
            go_roundw
            case rel => exact ⟨k + 1, a', m + 1, c', by omega, by go_num, rfl, by omega, ho2, hb2⟩
            case measure => simp [intOf]; omega
        · obtain rfl : k = l.length := by omega
          rw [List.take_of_length_le (Nat.le_refl _)] at ho
          have hcv := convert_own ho
          clear ho
          go_wp2_with fail
          go_ret
          exact ⟨rfl, hbl⟩

theorem specTextNow_is {a : Option Addr} {n cap : Nat} {l : List Sg} {w : World} (h : Txt w a n cap l) {S : ByteArray} (hS : strOfNums (pickL noOut l) = S) :
    Calls Tryz.prog 31 #[.slice a n cap] w fun e w' => e = .returned (.string S) ∧ Below w.heap.size w w' := by
  rw [← hS]; exact specTextNow_any a n cap l w h

end Go.Proofs.YtccoeachemnbnaaGreatDoor
namespace Go.Proofs.YtccoeachemnbnaaGreatDoor
open Go.RowKit

set_option maxHeartbeats 1000000 in
theorem specTextWas_any (a : Option Addr) (n cap : Nat) (l : List Sg) (w : World) (h : Txt w a n cap l) :
    Calls Tryz.prog 23 #[.slice a n cap] w fun e w' => e = .returned (.string (strOfNums (pickL noIn l))) ∧ Below w.heap.size w w' := by
  have h0 := h
  obtain ⟨rfl, hc, hm, hl⟩ := h
  unfold maxLen at hm
  have HH : Hid (Txt w a l.length cap l) := h0
  clear h0
  obtain ⟨i0, hi, hz0, hz1, hz2⟩ := info_parts Tryz.info5
  rcases hl with rfl | ⟨b, off, rfl, hbw, hl⟩
  · have hcv := convert_own (OwnB.emptyNew w 0 (Nat.zero_le _))
    go_enter Tryz.func23, Tryz.ntmps23
    go_wp2_with fail
    refine wp_loop_rounds 1 ?_
    rw [rounds_succ]
    go_wp2_with fail
    go_ret
    exact ⟨rfl, (Below.refl _ _).alloc (Nat.le_refl _) _⟩
  · cases htb : textB l
    · rw [show pickL noIn l = [] from by simp [pickL, htb]]
      by_cases hz : l.length = 0
      · obtain rfl : l = [] := List.eq_nil_of_length_eq_zero hz
        exact absurd htb (by decide)
      · have hcv := fun w1 (hb1 : Below (w.alloc (.cells #[] 5)).heap.size (w.alloc (.cells #[] 5)) w1) => convert_own ((OwnB.emptyNew w 0 (Nat.zero_le _)).below hb1)
        have HC : Hid (∀ w1 : World, Below (w.alloc (.cells #[] 5)).heap.size (w.alloc (.cells #[] 5)) w1 → (convert 22 9 (.slice (some ⟨w.heap.size, 0, none⟩) 0 0)).run Tryz.prog w1 = .ok (.string (strOfNums [])) w1) := hcv
        clear hcv hl
        have hpos : 0 < l.length := by omega
        clear hz
        go_enter Tryz.func23, Tryz.ntmps23
        go_wp2_with fail
        refine wp_loop_rounds 1 ?_
        rw [rounds_succ]
        go_wp2_with (go_at_call 45; refine (specTextOk_is (HH.out.below ((Below.refl _ _).alloc (Nat.le_refl _) _)) htb).mono ?_; rintro e w1 ⟨rfl, hb1⟩; have hcv := HC.out _ hb1)
        go_ret
        exact ⟨rfl, ((Below.refl _ _).alloc (Nat.le_refl _) _).trans (hb1.mono (by simp))⟩
    · rw [show pickL noIn l = bytesOf (l.filter noIn) from by simp [pickL, htb]]
      have h24 := textB_len htb
      have HT : Hid (textB l = true) := htb
      clear htb
      go_enter Tryz.func23, Tryz.ntmps23
      go_wp2_with fail
      go_loopw [3, 4] (fun v i wr => ∃ (k : Nat) (a : Option Addr) (m c : Nat), k ≤ l.length ∧ i = .int .i64 k ∧ v = .slice a m c ∧ m ≤ k ∧ OwnB wr w.heap.size (.slice a m c) (bytesOf ((l.take k).filter noIn)) ∧ Below w.heap.size w wr) (fun _ i _ => l.length - (intOf i).toNat)
      case atStart => exact ⟨0, some ⟨w.heap.size, 0, none⟩, 0, 0, Nat.zero_le _, rfl, rfl, Nat.le_refl _, by simpa [bytesOf] using OwnB.emptyNew w w.heap.size (Nat.le_refl _), (Below.refl _ _).alloc (Nat.le_refl _) _⟩
      case round =>
        obtain ⟨k, a, m, c, hk, rfl, rfl, hmk, ho, hbl⟩ := hrel
        have hsz := hbl.size
        by_cases hlt : k < l.length
        · have HO : Hid (OwnB wr w.heap.size (.slice a m c) (bytesOf ((l.take k).filter noIn))) := ho
          clear ho
          have HL : Hid (SignsAt w b off l) := hl
          clear hl
          obtain ⟨s, hs⟩ : ∃ s, s = l.getD k (0, 0, 0) := ⟨_, rfl⟩
          have HS : Hid (s = l.getD k (0, 0, 0)) := hs
          clear hs
          go_wp2_with fail
          refine (specTextOk_is (HH.out.below hbl) HT.out).mono ?_
          rintro e w1 ⟨rfl, hb1⟩
          have s1 := hb1.size
          have hb01 := hbl.trans (hb1.mono hsz)
          obtain ⟨c0, c1, c2⟩ := (HL.out.below hb01 hbw) k hlt
          rw [← HS.out] at c0 c1 c2
          have HO1 : Hid (OwnB w1 w.heap.size (.slice a m c) (bytesOf ((l.take k).filter noIn))) := HO.out.below hb1
          cases hq : (s.2.1 == (0 : Int))
          · go_wp2_with fail
            go_roundw
            case rel => exact ⟨k + 1, a, m, c, by omega, by go_num, rfl, by omega, by rw [picked_no noIn l k hlt (by rw [← HS.out]; exact hq)]; exact HO1.out, hb01⟩
            case measure => simp [intOf]; omega
          · have HQ : Hid ((s.2.1 == (0 : Int)) = true) := hq
            go_wp2_with (at_builtin; refine wpList_append_own _ rfl (.tmp 22) (.tmp 28) 22 rfl w.heap.size 5 i0 (.int .u8 0) 1 1 Tryz.underlying22 hi hz0 hz1 hz2 rfl (by decide) (.slice a m c) _ _ rfl (HO1.out.row.alloc _) ⟨w1.heap.size, 0, none⟩ 1 1 [.int .u8 s.1] rfl rfl (cell_one_new' _ _ _) (byte_oneCell _) (by unfold maxLen; omega) (by omega) (by simp; omega) ?_; intro v' w2 hown' hgrow _)
            obtain ⟨a', c', rfl, ho2, hb2⟩ := ownB_step (x := s.1) HO1.out hb01 (by omega) hown' hgrow
            rw [HS.out, ← picked_yes noIn l k hlt (by rw [← HS.out]; exact HQ.out)] at ho2
            go_roundw
            case rel => exact ⟨k + 1, a', m + 1, c', by omega, by go_num, rfl, by omega, ho2, hb2⟩
            case measure => simp [intOf]; omega
        · obtain rfl : k = l.length := by omega
          rw [List.take_of_length_le (Nat.le_refl _)] at ho
          have hcv := convert_own ho
          clear ho
          go_wp2_with fail
          go_ret
          exact ⟨rfl, hbl⟩

theorem specTextWas_is {a : Option Addr} {n cap : Nat} {l : List Sg} {w : World} (h : Txt w a n cap l) {S : ByteArray} (hS : strOfNums (pickL noIn l) = S) :
    Calls Tryz.prog 23 #[.slice a n cap] w fun e w' => e = .returned (.string S) ∧ Below w.heap.size w w' := by
  rw [← hS]; exact specTextWas_any a n cap l w h

end Go.Proofs.YtccoeachemnbnaaGreatDoor
