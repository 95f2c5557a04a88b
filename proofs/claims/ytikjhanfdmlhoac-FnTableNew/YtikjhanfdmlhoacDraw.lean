import Derived.Test.YtikjhanfdmlhoacOwn
import Derived.Deep.QuietTactic
import Derived.BigQuiet
namespace Go.Proofs.Ytikjhanfdmlhoac
open Go.RowKit

/-- A slice value that reads as the bytes zs, in a block below B. -/
def Byt (B : Nat) (w : World) (a : Option Addr) (n cap : Nat) (zs : List Int) : Prop :=
  n = zs.length ∧ n ≤ cap ∧ cap ≤ maxLen ∧ (∀ i : Nat, 0 ≤ zs.getD i 0 ∧ zs.getD i 0 ≤ 255) ∧ (zs = [] ∨ ∃ b off, a = some ⟨b, off, none⟩ ∧ b < B ∧ ∀ i, i < zs.length → w.cell? ⟨b, off + i, none⟩ = some (.int .u8 (zs.getD i 0)))

theorem Byt.same {B : Nat} {w w' : World} {a : Option Addr} {n cap : Nat} {zs : List Int} (h : Byt B w a n cap zs) (hb : ∀ k, k < B → w'.heap[k]? = w.heap[k]?) : Byt B w' a n cap zs := by
  obtain ⟨h1, h2, h3, h4, h5⟩ := h
  refine ⟨h1, h2, h3, h4, ?_⟩
  rcases h5 with h5 | ⟨b, off, h6, h7, h8⟩
  · exact .inl h5
  · exact .inr ⟨b, off, h6, h7, fun i hi => (World.cell?_of_block (w := w) (hb b h7)).trans (h8 i hi)⟩

/-- The reader of a code: its block, the bytes (below B), how many numbers were drawn. -/
def Rd (B : Nat) (w : World) (g p : Nat) : Prop :=
  B ≤ g ∧ ∃ a n c zs, w.heap[g]? = some (.cells #[.slice a n c, .int .i64 (p : Int)] 73 (0, 0)) ∧ Byt B w a n c zs ∧ n ≤ 2000

theorem Rd.lt {B : Nat} {w : World} {g p : Nat} (h : Rd B w g p) : g < w.heap.size := by
  obtain ⟨_, a, n, c, zs, hg, _⟩ := h
  exact (Array.getElem?_eq_some_iff.1 hg).1

/-- What leaves the blocks that were there as they were leaves the reader. -/
theorem Rd.below {B : Nat} {w w' : World} {g p : Nat} (h : Rd B w g p) {C : Nat} (hb : Below C w w') (hC : g < C) : Rd B w' g p := by
  obtain ⟨hB, a, n, c, zs, hg, hy, hn⟩ := h
  exact ⟨hB, a, n, c, zs, (hb.block g hC).trans hg, hy.same (fun k hk => hb.block k (by omega)), hn⟩

theorem pick_lt (x n : Int) (h : 1 ≤ n) : 0 ≤ x % n ∧ x % n < n := ⟨Int.emod_nonneg _ (by omega), Int.emod_lt_of_pos _ (by omega)⟩

theorem xor_i64 (a b : Int) (h1 : 0 ≤ a) (h2 : a < 1099511627776) (h3 : 0 ≤ b) (h4 : b < 1099511627776) : 0 ≤ bits .xor .i64 a b ∧ bits .xor .i64 a b < 1099511627776 := by
  obtain ⟨A, rfl⟩ := Int.eq_ofNat_of_zero_le h1
  obtain ⟨B, rfl⟩ := Int.eq_ofNat_of_zero_le h3
  have hx : A ^^^ B < 2 ^ 40 := Nat.xor_lt_two_pow (by omega) (by omega)
  have e1 : (BitVec.ofInt 64 (A : Int)).toNat = A := by
    rw [BitVec.ofInt_natCast, BitVec.toNat_ofNat]; exact Nat.mod_eq_of_lt (by omega)
  have e2 : (BitVec.ofInt 64 (B : Int)).toNat = B := by
    rw [BitVec.ofInt_natCast, BitVec.toNat_ofNat]; exact Nat.mod_eq_of_lt (by omega)
  have e : bits .xor .i64 (A : Int) (B : Int) = ((A ^^^ B : Nat) : Int) := by
    show IntKind.i64.wrap ((BitVec.ofInt 64 (A : Int) ^^^ BitVec.ofInt 64 (B : Int)).toNat : Int) = _
    rw [BitVec.toNat_xor, e1, e2, IntKind.wrap_i64]
    omega
  rw [e]
  omega

/-- A number more is drawn. -/
theorem rd_step {B : Nat} {w : World} {g p : Nat} (h : Rd B w g p) : Rd B (w.setCell ⟨g, 1, none⟩ (.int .i64 ((p : Int) + 1))) g (p + 1) := by
  obtain ⟨hB, a, n, c, zs, hg, hy, hn⟩ := h
  refine ⟨hB, a, n, c, zs, ?_, hy.same (fun k hk => heap_setCell_other w ⟨g, 1, none⟩ k _ (by simp; omega)), hn⟩
  rw [heap_setCell_same w g 1 _ _ _ hg]
  simp
theorem rd_drewN {B : Nat} {w : World} {g p : Nat} (h : Rd B w g p) (n : Nat) : Rd B (w.drewN n) g p := h
theorem grown_setCell' (w : World) (g o : Nat) (u : Value) : w.grownBy (w.setCell ⟨g, o, none⟩ u) (some g) :=
  ⟨rfl, rfl, rfl, by simp [World.setCell], fun k _ hne => Below.heap_setCell w ⟨g, o, none⟩ u k (fun e => hne (by simp [e]))⟩
theorem grown_drewN {w w' : World} {r : Option Nat} (h : w.grownBy w' r) (n : Nat) : w.grownBy (w'.drewN n) r := ⟨h.os, h.tape, h.output, h.size, h.block⟩

set_option maxRecDepth 100000 in
set_option maxHeartbeats 2000000 in
theorem pick_any (B g p : Nat) (n : Int) (w : World) (h : Rd B w g p) (hp : p ≤ 1000000) (h1 : 1 ≤ n) (h2 : n ≤ 1000) :
    Calls Try.prog 30 #[.pointer (some ⟨g, 0, none⟩), .int .i64 n] w fun e w' => ∃ x : Int, e = .returned (.int .i64 x) ∧ 0 ≤ x ∧ x < n ∧ Rd B w' g (p + 1) ∧ w.grownBy w' (some g) := by
  obtain ⟨hB, a, m, c, zs, hg, hy, hm⟩ := h
  have c0 : w.cell? ⟨g, 0, none⟩ = some (.slice a m c) := by rw [cell_of_row w g 0 _ _ _ hg]; rfl
  have c1 : w.cell? ⟨g, 1, none⟩ = some (.int .i64 (p : Int)) := by rw [cell_of_row w g 1 _ _ _ hg]; rfl
  have f1 : w.frozen? ⟨g, 1, none⟩ = false := frozen_of_row w g 1 _ _ hg
  have hn1 : decide (n < 1) = false := by simp; omega
  have HY : Hid (Byt B w a m c zs) := hy
  obtain ⟨hmz, hmc, hcm, hz, hcells⟩ := hy
  unfold maxLen at hcm
  by_cases h0 : m = 0
  · subst h0
    have HG : Hid (w.heap[g]? = some (.cells #[.slice a 0 c, .int .i64 (p : Int)] 73 (0, 0))) := hg
    clear hg hcells hmz hz
    go_enter Try.func30, Try.ntmps30
    go_wp2_with fail
    go_ret
    exact ⟨_, rfl, Int.le_refl _, by omega, rd_step ⟨hB, _, _, _, zs, HG.out, HY.out, hm⟩, grown_setCell' _ _ _ _⟩
  · rcases hcells with hnil | ⟨b, off, rfl, hbB, hcells⟩
    · rw [hnil] at hmz
      exact absurd hmz h0
    · have hm0 : ((m : Int) == 0) = false := by simp; omega
      by_cases hlt : p < m
      · have hzp := hz p
        have cz : w.cell? ⟨b, off + p, none⟩ = some (.int .u8 (zs.getD p 0)) := hcells p (by omega)
        obtain ⟨z, hzz⟩ : ∃ z, z = zs.getD p 0 := ⟨_, rfl⟩
        rw [← hzz] at cz hzp
        have HG : Hid (w.heap[g]? = some (.cells #[.slice (some ⟨b, off, none⟩) m c, .int .i64 (p : Int)] 73 (0, 0))) := hg
        clear hg hcells hzz hmz hz
        have cz' : (w.setCell ⟨g, 1, none⟩ (.int .i64 ((p : Int) + 1))).cell? ⟨b, off + p, none⟩ = some (.int .u8 z) := by
          rw [World.cell?_of_block (heap_setCell_other w ⟨g, 1, none⟩ b _ (by simp; omega))]; exact cz
        go_enter Try.func30, Try.ntmps30
        go_wp2_with fail
        go_ret
        exact ⟨_, rfl, (pick_lt _ _ h1).1, (pick_lt _ _ h1).2, rd_step ⟨hB, _, _, _, zs, HG.out, HY.out, hm⟩, grown_setCell' _ _ _ _⟩
      · have hmp : m ≤ p := by omega
        obtain ⟨j1, hj1⟩ : ∃ j, j = p % m := ⟨_, rfl⟩
        obtain ⟨j2, hj2⟩ : ∃ j, j = (p * 7 + 3) % m := ⟨_, rfl⟩
        have hj1m : j1 < m := by rw [hj1]; exact Nat.mod_lt _ (by omega)
        have hj2m : j2 < m := by rw [hj2]; exact Nat.mod_lt _ (by omega)
        obtain ⟨z1, hz1⟩ : ∃ z, z = zs.getD j1 0 := ⟨_, rfl⟩
        obtain ⟨z2, hz2⟩ : ∃ z, z = zs.getD j2 0 := ⟨_, rfl⟩
        have hzp1 := hz j1
        have hzp2 := hz j2
        have cz1 : w.cell? ⟨b, off + j1, none⟩ = some (.int .u8 (zs.getD j1 0)) := hcells j1 (by omega)
        have cz2 : w.cell? ⟨b, off + j2, none⟩ = some (.int .u8 (zs.getD j2 0)) := hcells j2 (by omega)
        rw [← hz1] at cz1 hzp1
        rw [← hz2] at cz2 hzp2
        have HG : Hid (w.heap[g]? = some (.cells #[.slice (some ⟨b, off, none⟩) m c, .int .i64 (p : Int)] 73 (0, 0))) := hg
        clear hg hcells hz1 hz2 hmz hz
        have k1 : (w.setCell ⟨g, 1, none⟩ (.int .i64 ((p : Int) + 1))).cell? ⟨b, off + p % m, none⟩ = some (.int .u8 z1) := by
          rw [World.cell?_of_block (heap_setCell_other w ⟨g, 1, none⟩ b _ (by simp; omega)), ← hj1]; exact cz1
        have k2 : (w.setCell ⟨g, 1, none⟩ (.int .i64 ((p : Int) + 1))).cell? ⟨b, off + (p * 7 + 3) % m, none⟩ = some (.int .u8 z2) := by
          rw [World.cell?_of_block (heap_setCell_other w ⟨g, 1, none⟩ b _ (by simp; omega)), ← hj2]; exact cz2
        have q1 : (p : Int) % (m : Int) < (m : Int) := Int.emod_lt_of_pos _ (by omega)
        have q2 : ((p : Int) * 7 + 3) % (m : Int) < (m : Int) := Int.emod_lt_of_pos _ (by omega)
        have q3 : 0 ≤ (p : Int) % (m : Int) := Int.emod_nonneg _ (by omega)
        have q4 : 0 ≤ ((p : Int) * 7 + 3) % (m : Int) := Int.emod_nonneg _ (by omega)
        have q5 : 0 ≤ (p : Int) / (m : Int) := Int.ediv_nonneg (by omega) (by omega)
        have q6 : (p : Int) / (m : Int) ≤ 1000000 := Int.le_trans (Int.ediv_le_self _ (by omega)) (by omega)
        clear hj1 hj2 hj1m hj2m cz1 cz2
        go_enter Try.func30, Try.ntmps30
        go_wp2_with fail
        go_quiet (fail)
        have x0 : 0 ≤ z1 * 131 + z2 * 1117 + (p : Int) * 29 + (p : Int) / (m : Int) * 53 := by omega
        have x1 : z1 * 131 + z2 * 1117 + (p : Int) * 29 + (p : Int) / (m : Int) * 53 < 1099511627776 := by omega
        generalize z1 * 131 + z2 * 1117 + (p : Int) * 29 + (p : Int) / (m : Int) * 53 = X at x0 x1 ⊢
        have y0 := (xor_i64 X (X / 64) x0 x1 (by omega) (by omega)).1
        have y1 := (xor_i64 X (X / 64) x0 x1 (by omega) (by omega)).2
        go_wp2_with fail
        go_ret
        exact ⟨_, rfl, (pick_lt _ _ h1).1, (pick_lt _ _ h1).2, rd_drewN (rd_step ⟨hB, _, _, _, zs, HG.out, HY.out, hm⟩) _, grown_drewN (grown_setCell' _ _ _ _) _⟩
end Go.Proofs.Ytikjhanfdmlhoac
