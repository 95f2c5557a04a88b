import Derived.Test.YtmemhmndfcdmbavByFacts
import Derived.Test.YtmemhmndfcdmbavMark
namespace Go.Proofs.Ytmemhmndfcdmbav
open Go.RowKit

def markedI (k : Int) (n : Nat) : List Int := (List.range n).map fun i : Nat => k + i
theorem markedI_len (k : Int) (n : Nat) : (markedI k n).length = n := by simp [markedI]
theorem markedI_succ (k : Int) (n : Nat) : markedI k (n + 1) = markedI k n ++ [k + n] := by simp [markedI, List.range_succ]
theorem markedI_get (k : Int) (n j : Nat) (h : j < n) : (markedI k n).getD j 0 = k + j := by simp [markedI, List.getD, h]

theorem set_mark (k0 : Int) (j : Nat) (l : List Int) (hlt : j < l.length) :
    ((markedI k0 j ++ l.drop j).map (Value.int .i64)).set j (.int .i64 (k0 + j)) = (markedI k0 (j + 1) ++ l.drop (j + 1)).map (Value.int .i64) := by
  have e1 : (markedI k0 j ++ l.drop j).map (Value.int .i64) = (markedI k0 j).map (Value.int .i64) ++ (Value.int .i64 l[j] :: (l.drop (j + 1)).map (Value.int .i64)) := by
    rw [List.drop_eq_getElem_cons hlt, List.map_append, List.map_cons]
  have e2 : (markedI k0 (j + 1) ++ l.drop (j + 1)).map (Value.int .i64) = (markedI k0 j).map (Value.int .i64) ++ (Value.int .i64 (k0 + j) :: (l.drop (j + 1)).map (Value.int .i64)) := by
    rw [markedI_succ, List.map_append, List.map_append]
    simp
  have hl : ((markedI k0 j).map (Value.int .i64)).length = j := by rw [List.length_map, markedI_len]
  rw [e1, e2, List.set_append_right _ _ (by omega), hl, Nat.sub_self]
  rfl

set_option maxRecDepth 100000 in
set_option maxHeartbeats 1000000 in
theorem markIntS_at (g n c : Nat) (l : List Int) (k0 : Int) (B : Nat) (w : World) (h : OwnI w B (.slice (some ⟨g, 0, none⟩) n c) l) (hn : n ≤ 1048576) (h0 : 0 ≤ k0) (h1 : k0 ≤ 1048576) :
    Calls Try.prog 14 #[.slice (some ⟨g, 0, none⟩) n c, .int .i64 k0] w fun e w' => e = .returned (.int .i64 (k0 + n)) ∧ OwnI w' B (.slice (some ⟨g, 0, none⟩) n c) (markedI k0 n) ∧ w.grownBy w' (some g) := by
  have hlen := h.len
  have hcap := h.ints.2.1
  have hcm := h.ints.2.2.1
  unfold maxLen at hcm
  have HO : Hid (w.ownsRow B 3 1 (.slice (some ⟨g, 0, none⟩) n c) n (l.map (Value.int .i64))) := h.row
  clear h
  subst hlen
  go_enter Try.func14, Try.ntmps14
  go_wp2_with fail
  go_loopw [1, 5] (fun kk i wr => ∃ (j : Nat), j ≤ l.length ∧ i = .int .i64 j ∧ kk = .int .i64 (k0 + j) ∧ wr.ownsRow B 3 1 (.slice (some ⟨g, 0, none⟩) l.length c) l.length ((markedI k0 j ++ l.drop j).map (Value.int .i64)) ∧ w.grownBy wr (some g)) (fun _ i _ => l.length - (intOf i).toNat)
  case atStart => exact ⟨0, Nat.zero_le _, rfl, by simp, by simpa [markedI] using HO.out, ⟨rfl, rfl, rfl, Nat.le_refl _, fun _ _ _ => rfl⟩⟩
  case round =>
    obtain ⟨j, hj, rfl, rfl, ho, hg⟩ := hrel
    by_cases hlt : j < l.length
    · have f0 := ho.frozenAt j
      have hxl := ho.1
      obtain ⟨u0, d0⟩ : ∃ u, wr.cell? ⟨g, j, none⟩ = some u := ⟨_, (ho.cellAt j (by omega)).trans (List.getElem?_eq_getElem (by omega))⟩
      have HR : Hid (wr.ownsRow B 3 1 (.slice (some ⟨g, 0, none⟩) l.length c) l.length ((markedI k0 j ++ l.drop j).map (Value.int .i64))) := ho
      clear ho hxl
      go_wp2_with fail
      go_roundw
      case rel =>
        obtain ⟨p0, _⟩ := HR.out.stored j (.int .i64 (k0 + j))
        refine ⟨j + 1, by omega, by go_num, by congr 1; omega, ?_, grown_setCell hg _ _⟩
        have e := set_mark k0 j l hlt
        rw [← e]
        exact p0
      case measure => simp [intOf]; omega
    · obtain rfl : j = l.length := by omega
      rw [List.drop_of_length_le (Nat.le_refl _), List.append_nil] at ho
      go_wp2_with fail
      go_ret
      refine ⟨rfl, ?_, hg⟩
      unfold OwnI
      rw [markedI_len]
      exact ho

set_option maxRecDepth 100000 in
set_option maxHeartbeats 1000000 in
theorem markIntS_nil (a : Option Addr) (c : Nat) (k0 : Int) (w : World) :
    Calls Try.prog 14 #[.slice a 0 c, .int .i64 k0] w fun e w' => e = .returned (.int .i64 k0) ∧ w' = w := by
  go_enter Try.func14, Try.ntmps14
  go_wp2_with fail
  refine wp_loop_rounds 1 ?_
  rw [rounds_succ]
  go_wp2_with fail
  go_ret
  exact ⟨rfl, rfl⟩
theorem markIntS_any (a : Option Addr) (n c : Nat) (l : List Int) (k0 : Int) (B : Nat) (w : World) (h : OwnI w B (.slice a n c) l) (hn : n ≤ 1048576) (h0 : 0 ≤ k0) (h1 : k0 ≤ 1048576) :
    Calls Try.prog 14 #[.slice a n c, .int .i64 k0] w fun e w' => e = .returned (.int .i64 (k0 + n)) ∧ OwnI w' B (.slice a n c) (markedI k0 n) ∧ w.grownBy w' (Value.slice a n c).ownBlock := by
  have hl := h.len
  rcases h.row.2 with ⟨hv, h0'⟩ | ⟨g, cap, cur, hv, r⟩
  · simp only [Value.slice.injEq] at hv
    obtain ⟨rfl, rfl, rfl⟩ := hv
    refine (markIntS_nil _ _ k0 w).mono ?_
    rintro e w' ⟨rfl, rfl⟩
    exact ⟨by simp, by simpa [markedI] using OwnI.nil _ _, grown_refl _ _⟩
  · simp only [Value.slice.injEq, true_and] at hv
    obtain ⟨rfl, rfl⟩ := hv
    exact markIntS_at g n c l k0 B w h hn h0 h1

set_option maxRecDepth 100000 in
set_option maxHeartbeats 1000000 in
theorem heldIntS_any (a : Option Addr) (n c : Nat) (k0 : Int) (w : World) (h : Ints w a n c (markedI k0 n)) (hn : n ≤ 1048576) (h0 : 0 ≤ k0) (h1 : k0 ≤ 1048576) :
    Calls Try.prog 15 #[.slice a n c, .int .i64 k0] w fun e w' => e = .returned (.int .i64 (k0 + n)) ∧ w' = w := by
  obtain ⟨-, hc, hm, hl⟩ := h
  unfold maxLen at hm
  by_cases hz : n = 0
  · subst hz
    go_enter Try.func15, Try.ntmps15
    go_wp2_with fail
    refine wp_loop_rounds 1 ?_
    rw [rounds_succ]
    go_wp2_with fail
    go_ret
    exact ⟨by simp, rfl⟩
  · rcases hl with hl | ⟨b, off, rfl, hbw, hl⟩
    · exfalso
      have := markedI_len k0 n
      rw [hl] at this
      exact hz this.symm
    · go_enter Try.func15, Try.ntmps15
      go_wp2_with fail
      go_loop [1, 5] (fun kk i => ∃ (j : Nat), j ≤ n ∧ i = .int .i64 j ∧ kk = .int .i64 (k0 + j)) (fun _ i => n - (intOf i).toNat)
      case atStart => exact ⟨0, Nat.zero_le _, rfl, by simp⟩
      case round =>
        obtain ⟨j, hj, rfl, rfl⟩ := hrel
        by_cases hlt : j < n
        · have c0 := hl j (by rw [markedI_len]; exact hlt)
          rw [markedI_get k0 n j hlt] at c0
          clear hl
          go_wp2_with fail
          go_round
          case rel => exact ⟨j + 1, by omega, by go_num, by congr 1; omega⟩
          case measure => simp [intOf]; omega
        · obtain rfl : j = n := by omega
          go_wp2_with fail
          go_ret
          exact ⟨rfl, rfl⟩
end Go.Proofs.Ytmemhmndfcdmbav
