import Derived.Test.YtmemhmndfcdmbaaDrawS
namespace Go.Proofs.Ytmemhmndfcdmbaa
open Go.RowKit

theorem Rd.alloc {B : Nat} {w : World} {g p : Nat} (h : Rd B w g p) (o : Obj) : Rd B (w.alloc o) g p :=
  h.below ((Below.refl w.heap.size w).alloc (Nat.le_refl _) o) h.lt

theorem grown_trans {a b c : World} {g : Nat} (h : a.grownBy b (some g)) (k : b.grownBy c (some g)) : a.grownBy c (some g) :=
  ⟨k.os.trans h.os, k.tape.trans h.tape, k.output.trans h.output, Nat.le_trans h.size k.size, fun i hi hne => (k.block i (Nat.lt_of_lt_of_le hi h.size) hne).trans (h.block i hi hne)⟩
theorem grown_alloc {a b : World} {g : Option Nat} (h : a.grownBy b g) (o : Obj) : a.grownBy (b.alloc o) g :=
  ⟨h.os, h.tape, h.output, by have := h.size; simp; omega, fun i hi hne => by
    rw [Below.heap_alloc b o i (Nat.lt_of_lt_of_le hi h.size)]; exact h.block i hi hne⟩
theorem grown_below {a b c : World} {g : Option Nat} (h : a.grownBy b g) (k : Below b.heap.size b c) : a.grownBy c g :=
  ⟨k.os.trans h.os, k.tape.trans h.tape, k.output.trans h.output, Nat.le_trans h.size k.size, fun i hi hne => (k.block i (Nat.lt_of_lt_of_le hi h.size)).trans (h.block i hi hne)⟩
/-- A cell of a block that was there and is not the reader's. -/
theorem grown_cell {a b : World} {g : Nat} (h : a.grownBy b (some g)) {k o : Nat} (hk : k < a.heap.size) (hne : k ≠ g) : b.cell? ⟨k, o, none⟩ = a.cell? ⟨k, o, none⟩ :=
  World.cell?_of_block (w := a) (h.block k hk (by simpa using hne))

/-- One of the six letters that are drawn. -/
theorem six_cell (w1 w2 : World) (g : Nat) (hg : g < w1.heap.size) (h : (w1.alloc (.cells #[.int .u8 97, .int .u8 98, .int .u8 122, .int .u8 32, .int .u8 48, .int .u8 57] 5)).grownBy w2 (some g)) (x : Int) (h0 : 0 ≤ x) (h1 : x < 6) :
    ∃ z : Int, w2.cell? ⟨w1.heap.size, x.toNat, none⟩ = some (.int .u8 z) ∧ byteB z = true := by
  have e : ∀ o, w2.cell? ⟨w1.heap.size, o, none⟩ = (#[Value.int .u8 97, .int .u8 98, .int .u8 122, .int .u8 32, .int .u8 48, .int .u8 57])[o]? := fun o =>
    (grown_cell h (by simp) (by omega)).trans (cell_of_row _ _ _ _ _ _ (heap_alloc_new w1 _))
  rcases (show x = 0 ∨ x = 1 ∨ x = 2 ∨ x = 3 ∨ x = 4 ∨ x = 5 from by omega) with rfl | rfl | rfl | rfl | rfl | rfl
  · exact ⟨97, e 0, rfl⟩
  · exact ⟨98, e 1, rfl⟩
  · exact ⟨122, e 2, rfl⟩
  · exact ⟨32, e 3, rfl⟩
  · exact ⟨48, e 4, rfl⟩
  · exact ⟨57, e 5, rfl⟩

theorem convert_one (w : World) (z : Int) : (convert 22 9 (.slice (some ⟨w.heap.size, 0, none⟩) 1 1)).run Try.prog (w.alloc (.cells #[.int .u8 z] 5)) = .ok (.string (strOfNums [z])) (w.alloc (.cells #[.int .u8 z] 5)) :=
  convert_own (B := 0) (ns := [z]) (World.ownsRow_lit w #[.int .u8 z] 1 (Nat.zero_le _) (by unfold maxLen; omega) rfl)

theorem l6Many_is (n : Nat) (hn : n ≤ 25) (w : World) {m : Int} (hm : (n : Int) = m) :
    Calls Try.prog 34 #[.string ⟨#[97]⟩, .int .i64 m] w fun e w' => (∃ s : ByteArray, e = .returned (.string s) ∧ s.size ≤ 25) ∧ w' = w := hm ▸ l6Many_any n hn w

set_option maxHeartbeats 2000000 in
theorem l71Plain_any (B g p : Nat) (w : World) (h : Rd B w g p) (hp : p ≤ 1000) :
    Calls Try.prog 20 #[.pointer (some ⟨g, 0, none⟩)] w fun e w' => (∃ s : ByteArray, e = .returned (.string s) ∧ s.size ≤ 25) ∧ w.grownBy w' (some g) := by
  have hlt := h.lt
  go_enter Try.func20, Try.ntmps20
  go_wp2_with fail
  refine (pick_any B g p 6 _ h (by omega) (by omega) (by omega)).mono ?_
  rintro e w1 ⟨x, rfl, hx0, hx1, hr1, hg1⟩
  go_wp2_with fail
  go_loopw [3, 4] (fun sv nv wr => ∃ (S : ByteArray) (k q : Nat), sv = .string S ∧ nv = .int .i64 (k : Int) ∧ S.size + k ≤ 5 ∧ q + k ≤ p + 6 ∧ Rd B wr g q ∧ w.grownBy wr (some g)) (fun _ nv _ => (intOf nv).toNat)
  case atStart => exact ⟨⟨#[]⟩, x.toNat, p + 1, rfl, by congr 1; omega, by simp [ByteArray.size]; omega, by omega, hr1, hg1⟩
  case round =>
    obtain ⟨S, k, q, rfl, rfl, hsk, hqk, hr, hg⟩ := hrel
    have hsz := hg.size
    by_cases h0 : k = 0
    · subst h0
      have HR : Hid (Rd B wr g q) := hr
      clear hr hr1 h
      go_wp2_with fail
      refine (pick_any B g q 16 _ HR.out (by omega) (by omega) (by omega)).mono ?_
      rintro e w2 ⟨y, rfl, hy0, hy1, hr2, hg2⟩
      by_cases hya : y = 0
      · subst hya
        go_wp2_with fail
        go_ret
        exact ⟨⟨_, rfl, by rw [ByteArray.size_append]; show S.size + 1 ≤ 25; omega⟩, grown_trans hg hg2⟩
      · have hy' : (y == 0) = false := by simp; omega
        by_cases hyb : y = 1
        · subst hyb
          have HR2 : Hid (Rd B w2 g (q + 1)) := hr2
          clear hr2
          go_wp2_with fail
          refine (pick_any B g (q + 1) 2 _ HR2.out (by omega) (by omega) (by omega)).mono ?_
          rintro e w3 ⟨u, rfl, hu0, hu1, hr3, hg3⟩
          obtain ⟨U, rfl⟩ := Int.eq_ofNat_of_zero_le hu0
          go_wp2_with fail
          refine (l6Many_is (24 + U) (by omega) _ (by omega)).mono ?_
          rintro e w4 ⟨⟨s, rfl, hs⟩, rfl⟩
          go_wp2_with fail
          go_ret
          exact ⟨⟨s, rfl, hs⟩, grown_trans (grown_trans hg hg2) hg3⟩
        · have hy'' : (y == 1) = false := by simp; omega
          go_wp2_with fail
          go_ret
          exact ⟨⟨_, rfl, by omega⟩, grown_trans hg hg2⟩
    · have HR : Hid (Rd B wr g q) := hr
      clear hr hr1 h
      have hpos : (0 : Int) < (k : Int) := by omega
      go_wp2_with fail
      refine (pick_any B g q 6 _ (HR.out.alloc _) (by omega) (by omega) (by omega)).mono ?_
      rintro e w2 ⟨y, rfl, hy0, hy1, hr2, hg2⟩
      obtain ⟨z, hz, _⟩ := six_cell wr w2 g (HR.out.lt) hg2 y hy0 hy1
      have hcv := convert_one w2 z
      have hss : (strOfNums [z]).size ≤ 1 := by rw [strOfNums_size]; simp
      have HR2 : Hid (Rd B w2 g (q + 1)) := hr2
      clear hr2
      go_wp2_with fail
      go_roundw
      case rel => exact ⟨S ++ strOfNums [z], k - 1, q + 1, rfl, by congr 1; omega, by rw [ByteArray.size_append]; omega, by omega, HR2.out.alloc _, grown_alloc (grown_trans (grown_alloc hg _) hg2) _⟩
      case measure => simp [intOf]; omega

set_option maxHeartbeats 400000 in
theorem drawTextOf_any (B : Nat) (a : Option Addr) (n cap : Nat) (zs : List Int) (w : World) (h : Byt B w a n cap zs) (hB : B ≤ w.heap.size) :
    Calls Try.prog 6 #[.slice a n cap] w fun e w' => (∃ s : ByteArray, e = .returned (.string s) ∧ s.size ≤ 25) ∧ Below w.heap.size w w' := by
  go_enter Try.func6, Try.ntmps6
  go_wp2_with fail
  refine (l6Open_any B a n cap zs _ h hB).mono ?_
  rintro e w1 ⟨rfl, hr1, hb1⟩
  have hz1 := hr1.lt
  go_wp2_with fail
  refine (l71Plain_any B _ 0 _ hr1 (by omega)).mono ?_
  rintro e w2 ⟨⟨s, rfl, hs⟩, hg2⟩
  go_wp2_with fail
  go_ret
  exact ⟨⟨s, rfl, hs⟩, hb1.grown hg2 (by omega) (fun k hk => by simp at hk; omega)⟩
end Go.Proofs.Ytmemhmndfcdmbaa
