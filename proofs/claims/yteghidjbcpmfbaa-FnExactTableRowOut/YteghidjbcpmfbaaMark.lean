import Derived.Test.YteghidjbcpmfbaaOwn
namespace Go.Proofs.Yteghidjbcpmfbaa
open Go.RowKit

/-- The sign that the marker lays at place i, from k on. -/
def mk (k : Int) (i : Nat) : Sg := ((k + 3 * i) % 256, k + 3 * i + 1, k + 3 * i + 1 + 1)
def marked (k : Int) (n : Nat) : List Sg := (List.range n).map (mk k)
theorem marked_len (k : Int) (n : Nat) : (marked k n).length = n := by simp [marked]
theorem marked_succ (k : Int) (n : Nat) : marked k (n + 1) = marked k n ++ [mk k n] := by simp [marked, List.range_succ]
theorem marked_get (k : Int) (n j : Nat) (h : j < n) : (marked k n).getD j (0, 0, 0) = mk k j := by simp [marked, List.getD, h]

theorem grown_refl (w : World) (r : Option Nat) : w.grownBy w r := ⟨rfl, rfl, rfl, Nat.le_refl _, fun _ _ _ => rfl⟩
theorem grown_setCell {w wr : World} {g : Nat} (h : w.grownBy wr (some g)) (o : Nat) (u : Value) : w.grownBy (wr.setCell ⟨g, o, none⟩ u) (some g) :=
  ⟨h.os, h.tape, h.output, Nat.le_trans h.size (by simp [World.setCell]), fun k hk hne => (Below.heap_setCell wr ⟨g, o, none⟩ u k (fun e => hne (by simp [e]))).trans (h.block k hk hne)⟩

theorem flat_set3 (A R : List Sg) (s t : Sg) : (((flat (A ++ s :: R)).set (A.length * 3) (.int .u8 t.1)).set (A.length * 3 + 1) (.int .i64 t.2.1)).set (A.length * 3 + 2) (.int .i64 t.2.2) = flat (A ++ [t] ++ R) := by
  have e1 : flat (A ++ s :: R) = flat A ++ (sgCells s ++ flat R) := by simp [flat]
  have e2 : flat (A ++ [t] ++ R) = flat A ++ (sgCells t ++ flat R) := by simp [flat]
  have hl := flat_length A
  rw [e1, e2, List.set_append_right _ _ (by omega), List.set_append_right _ _ (by omega), List.set_append_right _ _ (by omega), hl]
  simp [sgCells]

set_option maxHeartbeats 1000000 in
theorem markSignS_at (g n c : Nat) (l : List Sg) (k0 : Int) (B : Nat) (w : World) (h : Own w B (.slice (some ⟨g, 0, none⟩) n c) l) (hn : n ≤ 1048576) (h0 : 0 ≤ k0) (h1 : k0 ≤ 100000000) :
    Calls Try.prog 62 #[.slice (some ⟨g, 0, none⟩) n c, .int .i64 k0] w fun e w' => e = .returned (.int .i64 (k0 + 3 * n)) ∧ Own w' B (.slice (some ⟨g, 0, none⟩) n c) (marked k0 n) ∧ w.grownBy w' (some g) := by
  have hlen := h.len
  have hcap := h.txt.2.1
  have hcm := h.txt.2.2.1
  unfold maxLen at hcm
  have HO : Hid (w.ownsRow B 89 3 (.slice (some ⟨g, 0, none⟩) n c) n (flat l)) := h.row
  clear h
  subst hlen
  go_enter Try.func62, Try.ntmps62
  go_wp2_with fail
  go_loopw [1, 5] (fun kk i wr => ∃ (j : Nat), j ≤ l.length ∧ i = .int .i64 j ∧ kk = .int .i64 (k0 + 3 * j) ∧ wr.ownsRow B 89 3 (.slice (some ⟨g, 0, none⟩) l.length c) l.length (flat (marked k0 j ++ l.drop j)) ∧ w.grownBy wr (some g)) (fun _ i _ => l.length - (intOf i).toNat)
  case atStart => exact ⟨0, Nat.zero_le _, rfl, by simp, by simpa [marked] using HO.out, ⟨rfl, rfl, rfl, Nat.le_refl _, fun _ _ _ => rfl⟩⟩
  case round =>
    obtain ⟨j, hj, rfl, rfl, ho, hg⟩ := hrel
    by_cases hlt : j < l.length
    · have f0 := ho.frozenAt (j * 3)
      have f1 := ho.frozenAt (j * 3 + 1)
      have f2 := ho.frozenAt (j * 3 + 2)
      have hxl := ho.1
      obtain ⟨u0, d0⟩ : ∃ u, wr.cell? ⟨g, j * 3, none⟩ = some u := ⟨_, (ho.cellAt (j * 3) (by omega)).trans (List.getElem?_eq_getElem (by omega))⟩
      obtain ⟨u1, d1⟩ : ∃ u, wr.cell? ⟨g, j * 3 + 1, none⟩ = some u := ⟨_, (ho.cellAt (j * 3 + 1) (by omega)).trans (List.getElem?_eq_getElem (by omega))⟩
      obtain ⟨u2, d2⟩ : ∃ u, wr.cell? ⟨g, j * 3 + 2, none⟩ = some u := ⟨_, (ho.cellAt (j * 3 + 2) (by omega)).trans (List.getElem?_eq_getElem (by omega))⟩
      have HR : Hid (wr.ownsRow B 89 3 (.slice (some ⟨g, 0, none⟩) l.length c) l.length (flat (marked k0 j ++ l.drop j))) := ho
      clear ho hxl
      go_wp2_with fail
      go_roundw
      case rel =>
        obtain ⟨p0, _⟩ := HR.out.stored (j * 3) (.int .u8 (mk k0 j).1)
        obtain ⟨p1, _⟩ := p0.stored (j * 3 + 1) (.int .i64 (mk k0 j).2.1)
        obtain ⟨p2, _⟩ := p1.stored (j * 3 + 2) (.int .i64 (mk k0 j).2.2)
        refine ⟨j + 1, by omega, by go_num, ?_, ?_, grown_setCell (grown_setCell (grown_setCell hg _ _) _ _) _ _⟩
        · congr 1; omega
        · have e := flat_set3 (marked k0 j) (l.drop (j + 1)) (l[j]'hlt) (mk k0 j)
          rw [marked_len, ← List.drop_eq_getElem_cons hlt] at e
          rw [marked_succ, ← e]
          exact p2
      case measure => simp [intOf]; omega
    · obtain rfl : j = l.length := by omega
      rw [List.drop_of_length_le (Nat.le_refl _), List.append_nil] at ho
      go_wp2_with fail
      go_ret
      refine ⟨rfl, ?_, hg⟩
      unfold Own
      rw [marked_len]
      exact ho

set_option maxHeartbeats 1000000 in
theorem markSignS_nil (a : Option Addr) (c : Nat) (k0 : Int) (w : World) :
    Calls Try.prog 62 #[.slice a 0 c, .int .i64 k0] w fun e w' => e = .returned (.int .i64 k0) ∧ w' = w := by
  go_enter Try.func62, Try.ntmps62
  go_wp2_with fail
  refine wp_loop_rounds 1 ?_
  rw [rounds_succ]
  go_wp2_with fail
  go_ret
  exact ⟨rfl, rfl⟩

/-- The marker writes into what is owned alone. -/
theorem markSignS_any (a : Option Addr) (n c : Nat) (l : List Sg) (k0 : Int) (B : Nat) (w : World) (h : Own w B (.slice a n c) l) (hn : n ≤ 1048576) (h0 : 0 ≤ k0) (h1 : k0 ≤ 100000000) :
    Calls Try.prog 62 #[.slice a n c, .int .i64 k0] w fun e w' => e = .returned (.int .i64 (k0 + 3 * n)) ∧ Own w' B (.slice a n c) (marked k0 n) ∧ w.grownBy w' (Value.slice a n c).ownBlock := by
  have hl := h.len
  rcases h.row.2 with ⟨hv, h0'⟩ | ⟨g, cap, cur, hv, r⟩
  · simp only [Value.slice.injEq] at hv
    obtain ⟨rfl, rfl, rfl⟩ := hv
    refine (markSignS_nil _ _ k0 w).mono ?_
    rintro e w' ⟨rfl, rfl⟩
    exact ⟨by simp, by simpa [marked] using Own.nil _ _, grown_refl _ _⟩
  · simp only [Value.slice.injEq, true_and] at hv
    obtain ⟨rfl, rfl⟩ := hv
    exact markSignS_at g n c l k0 B w h hn h0 h1

set_option maxHeartbeats 2000000 in
theorem heldSignS_any (a : Option Addr) (n c : Nat) (k0 : Int) (w : World) (h : Txt w a n c (marked k0 n)) (hn : n ≤ 1048576) (h0 : 0 ≤ k0) (h1 : k0 ≤ 100000000) :
    Calls Try.prog 63 #[.slice a n c, .int .i64 k0] w fun e w' => e = .returned (.int .i64 (k0 + 3 * n)) ∧ w' = w := by
  obtain ⟨-, hc, hm, hl⟩ := h
  unfold maxLen at hm
  by_cases hz : n = 0
  · subst hz
    go_enter Try.func63, Try.ntmps63
    go_wp2_with fail
    refine wp_loop_rounds 1 ?_
    rw [rounds_succ]
    go_wp2_with fail
    go_ret
    exact ⟨by simp, rfl⟩
  · rcases hl with hl | ⟨b, off, rfl, hbw, hl⟩
    · exfalso
      have := marked_len k0 n
      rw [hl] at this
      exact hz this.symm
    · go_enter Try.func63, Try.ntmps63
      go_wp2_with fail
      go_loop [1, 5] (fun kk i => ∃ (j : Nat), j ≤ n ∧ i = .int .i64 j ∧ kk = .int .i64 (k0 + 3 * j)) (fun _ i => n - (intOf i).toNat)
      case atStart => exact ⟨0, Nat.zero_le _, rfl, by simp⟩
      case round =>
        obtain ⟨j, hj, rfl, rfl⟩ := hrel
        by_cases hlt : j < n
        · obtain ⟨c0, c1, c2⟩ := hl j (by rw [marked_len]; exact hlt)
          rw [marked_get k0 n j hlt] at c0 c1 c2
          clear hl
          simp only [mk] at c0 c1 c2
          go_wp2_with fail
          go_round
          case rel => exact ⟨j + 1, by omega, by go_num, by congr 1; omega⟩
          case measure => simp [intOf]; omega
        · obtain rfl : j = n := by omega
          go_wp2_with fail
          go_ret
          exact ⟨rfl, rfl⟩
end Go.Proofs.Yteghidjbcpmfbaa
