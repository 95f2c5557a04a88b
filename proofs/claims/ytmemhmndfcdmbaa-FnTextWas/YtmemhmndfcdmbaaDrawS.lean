import Derived.Test.YtmemhmndfcdmbaaDraw
import Derived.Test.YtmemhmndfcdmbaaNow
namespace Go.Proofs.Ytmemhmndfcdmbaa
open Go.RowKit

theorem Byt.take {B : Nat} {w : World} {a : Option Addr} {n cap : Nat} {zs : List Int} (h : Byt B w a n cap zs) (k : Nat) (hk : k ≤ n) : Byt B w a k cap (zs.take k) := by
  obtain ⟨h1, h2, h3, h4, h5⟩ := h
  have e : ∀ i, i < k → (zs.take k).getD i 0 = zs.getD i 0 := fun i hi => by simp [List.getD, hi]
  refine ⟨by simp; omega, by omega, h3, fun i => ?_, ?_⟩
  · by_cases hi : i < k
    · rw [e i hi]; exact h4 i
    · have : (zs.take k)[i]? = none := List.getElem?_eq_none (by simp; omega)
      simp [List.getD, this]
  · rcases h5 with rfl | ⟨b, off, h6, h7, h8⟩
    · exact .inl (by simp)
    · exact .inr ⟨b, off, h6, h7, fun i hi => by
        have hi' : i < k := by simp at hi; omega
        rw [e i hi']; exact h8 i (by omega)⟩

set_option maxHeartbeats 400000 in
theorem l6Open_any (B : Nat) (a : Option Addr) (n cap : Nat) (zs : List Int) (w : World) (h : Byt B w a n cap zs) (hB : B ≤ w.heap.size) :
    Calls Try.prog 21 #[.slice a n cap] w fun e w' => e = .returned (.pointer (some ⟨w.heap.size, 0, none⟩)) ∧ Rd B w' w.heap.size 0 ∧ Below w.heap.size w w' := by
  have hc := h.2.1
  have hm := h.2.2.1
  unfold maxLen at hm
  have HY : Hid (Byt B w a n cap zs) := h
  clear h
  by_cases hn : 2000 < n
  · have hd : decide ((2000 : Int) < (n : Int)) = true := by simp; omega
    go_enter Try.func21, Try.ntmps21
    go_wp2_with fail
    go_ret
    have hbl : Below w.heap.size w (w.alloc (.cells #[.slice a 2000 cap, .int .i64 0] 50)) := (Below.refl _ _).alloc (Nat.le_refl _) _
    refine ⟨rfl, ⟨hB, a, 2000, cap, zs.take 2000, heap_alloc_new w _, (HY.out.take 2000 (by omega)).same (fun k hk => hbl.block k (by omega)), Nat.le_refl _⟩, hbl⟩
  · have hd : decide ((2000 : Int) < (n : Int)) = false := by simp; omega
    go_enter Try.func21, Try.ntmps21
    go_wp2_with fail
    go_ret
    have hbl : Below w.heap.size w (w.alloc (.cells #[.slice a n cap, .int .i64 0] 50)) := (Below.refl _ _).alloc (Nat.le_refl _) _
    exact ⟨rfl, ⟨hB, a, n, cap, zs, heap_alloc_new w _, HY.out.same (fun k hk => hbl.block k (by omega)), by omega⟩, hbl⟩

theorem many_even (s o k : Nat) (h : o + s * k ≤ 25) (he : k % 2 = 0) : o + (s + s) * (k / 2) ≤ 25 := by
  have e : s * k = (s + s) * (k / 2) := by
    rw [← Nat.two_mul, Nat.mul_comm 2 s, Nat.mul_assoc, show 2 * (k / 2) = k by omega]
  omega
theorem many_odd (s o k : Nat) (h : o + s * k ≤ 25) (he : k % 2 = 1) : o + s + (s + s) * (k / 2) ≤ 25 := by
  have e : s * k = s + (s + s) * (k / 2) := by
    have : s + (s + s) * (k / 2) = s * (1 + 2 * (k / 2)) := by
      rw [← Nat.two_mul, Nat.mul_comm 2 s, Nat.mul_assoc, Nat.mul_add, Nat.mul_one]
    rw [this, show 1 + 2 * (k / 2) = k by omega]
  omega

set_option maxHeartbeats 1000000 in
theorem l6Many_any (n : Nat) (hn : n ≤ 25) (w : World) :
    Calls Try.prog 34 #[.string ⟨#[97]⟩, .int .i64 (n : Int)] w fun e w' => (∃ s : ByteArray, e = .returned (.string s) ∧ s.size ≤ 25) ∧ w' = w := by
  go_enter Try.func34, Try.ntmps34
  go_wp2_with fail
  go_loop [0, 1, 5] (fun sv kv ov => ∃ (S O : ByteArray) (k : Nat), sv = .string S ∧ kv = .int .i64 (k : Int) ∧ ov = .string O ∧ O.size + S.size * k ≤ 25 ∧ k ≤ 25 ∧ 1 ≤ S.size) (fun _ kv _ => (intOf kv).toNat)
  case atStart => exact ⟨⟨#[97]⟩, ⟨#[]⟩, n, rfl, rfl, rfl, by simp [ByteArray.size]; omega, hn, by simp [ByteArray.size]⟩
  case round =>
    obtain ⟨S, O, k, rfl, rfl, rfl, hle, hk, hs⟩ := hrel
    by_cases h0 : k = 0
    · subst h0
      go_wp2_with fail
      go_ret
      exact ⟨⟨O, rfl, by omega⟩, rfl⟩
    · have hS : S.size ≤ 25 := Nat.le_trans (Nat.le_mul_of_pos_right _ (by omega)) (Nat.le_trans (Nat.le_add_left _ _) hle)
      have hO : O.size ≤ 25 := Nat.le_trans (Nat.le_add_right _ _) hle
      have hpos : (0 : Int) < (k : Int) := by omega
      have hsum : S.size + S.size ≤ 9223372036854775807 := by omega
      have hsum2 : O.size + S.size ≤ 9223372036854775807 := by omega
      have HL : Hid (O.size + S.size * k ≤ 25) := hle
      clear hle
      rcases Nat.mod_two_eq_zero_or_one k with he | ho
      · have hq : ((k : Int) % 2 == 1) = false := by simp; omega
        have HE : Hid (k % 2 = 0) := he
        clear he
        go_wp2_with fail
        go_round
        case rel => exact ⟨S ++ S, O, k / 2, rfl, by go_num, rfl, by rw [ByteArray.size_append]; exact many_even _ _ _ HL.out HE.out, by omega, by rw [ByteArray.size_append]; omega⟩
        case measure => simp [intOf]; omega
      · have hq : ((k : Int) % 2 == 1) = true := by simp; omega
        have HE : Hid (k % 2 = 1) := ho
        clear ho
        go_wp2_with fail
        go_round
        case rel => exact ⟨S ++ S, O ++ S, k / 2, rfl, by go_num, rfl, by rw [ByteArray.size_append, ByteArray.size_append]; exact many_odd _ _ _ HL.out HE.out, by omega, by rw [ByteArray.size_append]; omega⟩
        case measure => simp [intOf]; omega
end Go.Proofs.Ytmemhmndfcdmbaa
