import Derived.Test.YtikjhanfdmlhoacDraw
namespace Go.Proofs.Ytikjhanfdmlhoac
open Go.RowKit

theorem Byt.take {B : Nat} {w : World} {a : Option Addr} {n cap : Nat} {zs : List Int} (h : Byt B w a n cap zs) (k : Nat) (hk : k ≤ n) : Byt B w a k cap (zs.take k) := by
  obtain ⟨h1, h2, h3, h4, h5⟩ := h
  have e : ∀ i, i < k → (zs.take k).getD i 0 = zs.getD i 0 := fun i hi => by simp [List.getD, hi]
  refine ⟨by simp; omega, by omega, h3, fun i => ?_, ?_⟩
  · by_cases hi : i < k
    · rw [e i hi]; exact h4 i
    · have : (zs.take k)[i]? = none := List.getElem?_eq_none (by simp; omega)
      simp [List.getD, this]
  · rcases h5 with rfl | ⟨b, off, h6, h7, h8⟩
    · exact .inl (by simp)
    · exact .inr ⟨b, off, h6, h7, fun i hi => by
        have hi' : i < k := by simp at hi; omega
        rw [e i hi']; exact h8 i (by omega)⟩

set_option maxHeartbeats 400000 in
theorem l6Open_any (B : Nat) (a : Option Addr) (n cap : Nat) (zs : List Int) (w : World) (h : Byt B w a n cap zs) (hB : B ≤ w.heap.size) :
    Calls Try.prog 28 #[.slice a n cap] w fun e w' => e = .returned (.pointer (some ⟨w.heap.size, 0, none⟩)) ∧ Rd B w' w.heap.size 0 ∧ Below w.heap.size w w' := by
  have hc := h.2.1
  have hm := h.2.2.1
  unfold maxLen at hm
  have HY : Hid (Byt B w a n cap zs) := h
  clear h
  by_cases hn : 2000 < n
  · have hd : decide ((2000 : Int) < (n : Int)) = true := by simp; omega
    go_enter Try.func28, Try.ntmps28
    go_wp2_with fail
    go_ret
    have hbl : Below w.heap.size w (w.alloc (.cells #[.slice a 2000 cap, .int .i64 0] 73)) := (Below.refl _ _).alloc (Nat.le_refl _) _
    refine ⟨rfl, ⟨hB, a, 2000, cap, zs.take 2000, heap_alloc_new w _, (HY.out.take 2000 (by omega)).same (fun k hk => hbl.block k (by omega)), Nat.le_refl _⟩, hbl⟩
  · have hd : decide ((2000 : Int) < (n : Int)) = false := by simp; omega
    go_enter Try.func28, Try.ntmps28
    go_wp2_with fail
    go_ret
    have hbl : Below w.heap.size w (w.alloc (.cells #[.slice a n cap, .int .i64 0] 73)) := (Below.refl _ _).alloc (Nat.le_refl _) _
    exact ⟨rfl, ⟨hB, a, n, cap, zs, heap_alloc_new w _, HY.out.same (fun k hk => hbl.block k (by omega)), by omega⟩, hbl⟩

theorem Rd.alloc {B : Nat} {w : World} {g p : Nat} (h : Rd B w g p) (o : Obj) : Rd B (w.alloc o) g p :=
  h.below ((Below.refl w.heap.size w).alloc (Nat.le_refl _) o) h.lt

theorem grown_trans {a b c : World} {g : Nat} (h : a.grownBy b (some g)) (k : b.grownBy c (some g)) : a.grownBy c (some g) :=
  ⟨k.os.trans h.os, k.tape.trans h.tape, k.output.trans h.output, Nat.le_trans h.size k.size, fun i hi hne => (k.block i (Nat.lt_of_lt_of_le hi h.size) hne).trans (h.block i hi hne)⟩
theorem grown_alloc {a b : World} {g : Option Nat} (h : a.grownBy b g) (o : Obj) : a.grownBy (b.alloc o) g :=
  ⟨h.os, h.tape, h.output, by have := h.size; simp; omega, fun i hi hne => by
    rw [Below.heap_alloc b o i (Nat.lt_of_lt_of_le hi h.size)]; exact h.block i hi hne⟩
theorem grown_below {a b c : World} {g : Option Nat} (h : a.grownBy b g) (k : Below b.heap.size b c) : a.grownBy c g :=
  ⟨k.os.trans h.os, k.tape.trans h.tape, k.output.trans h.output, Nat.le_trans h.size k.size, fun i hi hne => (k.block i (Nat.lt_of_lt_of_le hi h.size)).trans (h.block i hi hne)⟩
/-- A cell of a block that was there and is not the reader's. -/
theorem grown_cell {a b : World} {g : Nat} (h : a.grownBy b (some g)) {k o : Nat} (hk : k < a.heap.size) (hne : k ≠ g) : b.cell? ⟨k, o, none⟩ = a.cell? ⟨k, o, none⟩ :=
  World.cell?_of_block (w := a) (h.block k hk (by simpa using hne))

/-- One of the six letters that are drawn. -/
theorem six_cell (w1 w2 : World) (g : Nat) (hg : g < w1.heap.size) (h : (w1.alloc (.cells #[.int .u8 97, .int .u8 98, .int .u8 122, .int .u8 32, .int .u8 48, .int .u8 57] 5)).grownBy w2 (some g)) (x : Int) (h0 : 0 ≤ x) (h1 : x < 6) :
    ∃ z : Int, w2.cell? ⟨w1.heap.size, x.toNat, none⟩ = some (.int .u8 z) ∧ byteB z = true := by
  have e : ∀ o, w2.cell? ⟨w1.heap.size, o, none⟩ = (#[Value.int .u8 97, .int .u8 98, .int .u8 122, .int .u8 32, .int .u8 48, .int .u8 57])[o]? := fun o =>
    (grown_cell h (by simp) (by omega)).trans (cell_of_row _ _ _ _ _ _ (heap_alloc_new w1 _))
  rcases (show x = 0 ∨ x = 1 ∨ x = 2 ∨ x = 3 ∨ x = 4 ∨ x = 5 from by omega) with rfl | rfl | rfl | rfl | rfl | rfl
  · exact ⟨97, e 0, rfl⟩
  · exact ⟨98, e 1, rfl⟩
  · exact ⟨122, e 2, rfl⟩
  · exact ⟨32, e 3, rfl⟩
  · exact ⟨48, e 4, rfl⟩
  · exact ⟨57, e 5, rfl⟩

end Go.Proofs.Ytikjhanfdmlhoac
