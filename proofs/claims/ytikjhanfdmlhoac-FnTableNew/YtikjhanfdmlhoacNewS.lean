import Derived.Test.YtikjhanfdmlhoacTabW
import Derived.Deep.Cut
namespace Go.Proofs.Ytikjhanfdmlhoac
open Go.RowKit

def rwOne (i j : Nat) : Rw := (i, j, 1, 1, none, 0, 0)
def clOne (i j : Nat) : Cl := (i, j, 1, 1, [])
def newR (C i j : Nat) : List Rw := ((List.range i).flatMap fun a => (List.range C).map fun b => rwOne a b) ++ (List.range j).map fun b => rwOne i b
def newC (C i j : Nat) : List Cl := ((List.range i).flatMap fun a => (List.range C).map fun b => clOne a b) ++ (List.range j).map fun b => clOne i b
/-- The cells of a new table. -/
def newL (R C : Nat) : List Cl := newC C R 0
theorem newR_row (C i : Nat) : newR C i C = newR C (i + 1) 0 := by simp [newR, List.range_succ]
theorem newC_row (C i : Nat) : newC C i C = newC C (i + 1) 0 := by simp [newC, List.range_succ]
theorem newR_succ (C i j : Nat) : newR C i (j + 1) = newR C i j ++ [rwOne i j] := by simp [newR, List.range_succ]
theorem newC_succ (C i j : Nat) : newC C i (j + 1) = newC C i j ++ [clOne i j] := by simp [newC, List.range_succ]
theorem newR_len (C : Nat) : ∀ i j, (newR C i j).length = i * C + j
  | 0, j => by simp [newR]
  | i + 1, j => by
    have h := newR_len C i C
    rw [newR_row] at h
    simp only [newR, List.length_append, List.length_map, List.length_range] at h ⊢
    rw [Nat.succ_mul]
    omega
theorem map_getD {α β : Type} (f : α → β) (l : List α) (k : Nat) (d : α) (e : β) (h : k < l.length) : (l.map f).getD k e = f (l.getD k d) := by simp [List.getD, h]
def rwCl (x : Rw) : Cl := (x.1, x.2.1, x.2.2.1, x.2.2.2.1, [])
theorem newC_map (C i j : Nat) : newC C i j = (newR C i j).map rwCl := by
  simp only [newC, newR, List.map_append, List.map_map, List.map_flatMap]
  rfl
def nilT (x : Rw) : Prop := x.2.2.2.2 = (none, 0, 0)
theorem newR_nil (C i j : Nat) : ∀ x ∈ newR C i j, nilT x := by
  intro x hx
  simp only [newR, List.mem_append, List.mem_flatMap, List.mem_map] at hx
  rcases hx with ⟨a, _, b, _, rfl⟩ | ⟨b, _, rfl⟩ <;> rfl
theorem txtOwn_nil {w : World} {B : Nat} {q : Option Nat} {rs : List Rw} (h : ∀ x ∈ rs, nilT x) : TxtOwn w B q rs (rs.map rwCl) := by
  have key : ∀ k, k < rs.length → rwT (rs.getD k rw0) = .slice none 0 0 := by
    intro k hk
    have := h (rs.getD k rw0) (by simp [List.getD, hk])
    unfold nilT at this
    simp only [rwT, this]
  refine ⟨by simp, fun k hk => ?_, fun k hk g hg => ?_, fun i k hik hk g hg => ?_⟩
  · rw [map_getD rwCl rs k rw0 cl0 hk]
    refine ⟨rfl, rfl, rfl, rfl, ?_⟩
    rw [key k hk]
    exact Own.nil _ _
  · rw [key k hk] at hg
    simp [Value.ownBlock] at hg
  · rw [key i (by omega)] at hg
    simp [Value.ownBlock] at hg
theorem cell_five_new (w : World) (a b c d e : Value) (t : TypeId) : ∀ j u, [a, b, c, d, e][j]? = some u → (w.alloc (.cells #[a, b, c, d, e] t)).cell? ((⟨w.heap.size, 0, none⟩ : Addr).add j) = some u := by
  intro j u hj
  match j, hj with
  | 0, hj => simp at hj; subst hj; simp [Addr.add]
  | 1, hj => simp at hj; subst hj; simp [Addr.add]
  | 2, hj => simp at hj; subst hj; simp [Addr.add]
  | 3, hj => simp at hj; subst hj; simp [Addr.add]
  | 4, hj => simp at hj; subst hj; simp [Addr.add]
  | (j + 5), hj => simp at hj
theorem five_oneCell (a b c d : Int) (p : Option Addr) (n m : Nat) : ∀ u ∈ [Value.int .i64 a, .int .i64 b, .int .i64 c, .int .i64 d, .slice p n m], u.oneCell' = true := by
  intro u hu
  simp at hu
  rcases hu with rfl | rfl | rfl | rfl | rfl <;> rfl
/-- A new table's value: rows and columns that do not fit give none. -/
def newOk (R C : Int) : Bool := decide (1 ≤ R ∧ R ≤ 5) && decide (1 ≤ C ∧ C ≤ 5)

set_option maxRecDepth 100000 in
set_option maxHeartbeats 4000000 in
theorem specTableNew_any (R C : Int) (w : World) :
    Calls Try.prog 16 #[.int .i64 R, .int .i64 C] w fun z w' => ((newOk R C = false ∧ z = .returned (.agg #[.int .i64 0, .int .i64 0, .slice none 0 0])) ∨ (newOk R C = true ∧ ∃ a n c rs, z = .returned (.agg #[.int .i64 R, .int .i64 C, .slice a n c]) ∧ OwnT w' w.heap.size (.slice a n c) rs (newL R.toNat C.toNat))) ∧ Below w.heap.size w w' := by
  obtain ⟨i0, hi, hz0, hz1, hz2⟩ := info_parts Try.info30
  cases h0 : decide (1 ≤ R ∧ R ≤ 5)
  · have H0 : Hid (decide (1 ≤ R ∧ R ≤ 5) = false) := h0
    clear h0
    go_enter Try.func16, Try.ntmps16
    go_wp2_with (go_at_call 39; refine (l6In_of H0.out _).mono ?_; rintro e w1 ⟨rfl, rfl⟩)
    refine bodyPost_ret (v := .agg #[.int .i64 0, .int .i64 0, .slice none 0 0]) (by simp [results, Try.results16, go_sem]) rfl ⟨.inl ⟨by simp only [newOk, H0.out, Bool.false_and], rfl⟩, ?_⟩
    exact (Below.refl _ _).alloc (Nat.le_refl _) _
  cases h1 : decide (1 ≤ C ∧ C ≤ 5)
  · have H0 : Hid (decide (1 ≤ R ∧ R ≤ 5) = true) := h0
    have H1 : Hid (decide (1 ≤ C ∧ C ≤ 5) = false) := h1
    clear h0 h1
    go_enter Try.func16, Try.ntmps16
    go_wp2_with (first | (go_at_call_of 39 (Value.int IntKind.i64 R); refine (l6In_of H0.out _).mono ?_; rintro e w1 ⟨rfl, rfl⟩) | (go_at_call_of 39 (Value.int IntKind.i64 C); refine (l6In_of H1.out _).mono ?_; rintro e w1 ⟨rfl, rfl⟩))
    refine bodyPost_ret (v := .agg #[.int .i64 0, .int .i64 0, .slice none 0 0]) (by simp [results, Try.results16, go_sem]) rfl ⟨.inl ⟨by simp only [newOk, H1.out, Bool.and_false], rfl⟩, ?_⟩
    exact (Below.refl _ _).alloc (Nat.le_refl _) _
  have hR := of_decide_eq_true h0
  have hC := of_decide_eq_true h1
  have HN : Hid (newOk R C = true) := by show newOk R C = true; simp only [newOk, h0, h1, Bool.and_self]
  have H0 : Hid (decide (1 ≤ R ∧ R ≤ 5) = true) := h0
  have H1 : Hid (decide (1 ≤ C ∧ C ≤ 5) = true) := h1
  clear h0 h1
  obtain ⟨R, rfl⟩ : ∃ R' : Nat, R = R' := ⟨R.toNat, by omega⟩
  obtain ⟨C, rfl⟩ : ∃ C' : Nat, C = C' := ⟨C.toNat, by omega⟩
  go_enter Try.func16, Try.ntmps16
  go_upto_region 4 with (first | (go_at_call_of 39 (Value.int IntKind.i64 R); refine (l6In_of H0.out _).mono ?_; rintro e w1 ⟨rfl, rfl⟩) | (go_at_call_of 39 (Value.int IntKind.i64 C); refine (l6In_of H1.out _).mono ?_; rintro e w1 ⟨rfl, rfl⟩))
  clear H0 H1
  have B0 : Below w.heap.size w ((w.alloc (.cells #[.int .i64 0, .int .i64 0, .slice none 0 0] 25)).alloc (.cells #[.int .i64 R, .int .i64 C, .slice none 0 0] 25)) := ((Below.refl _ _).alloc (Nat.le_refl _) _).alloc (by simp) _
  have G0 : RowAt ((w.alloc (.cells #[.int .i64 0, .int .i64 0, .slice none 0 0] 25)).alloc (.cells #[.int .i64 R, .int .i64 C, .slice none 0 0] 25)) w.heap.size #[.int .i64 0, .int .i64 0, .slice none 0 0] 25 := (rowAt_new w _ _).alloc _
  have G1 : RowAt ((w.alloc (.cells #[.int .i64 0, .int .i64 0, .slice none 0 0] 25)).alloc (.cells #[.int .i64 R, .int .i64 C, .slice none 0 0] 25)) (w.heap.size + 1) #[.int .i64 R, .int .i64 C, .slice none 0 0] 25 := by
    have := (rowAt_new (w.alloc (.cells #[.int .i64 0, .int .i64 0, .slice none 0 0] 25)) #[.int .i64 R, .int .i64 C, .slice none 0 0] 25)
    simpa using this
  generalize ((w.alloc (.cells #[.int .i64 0, .int .i64 0, .slice none 0 0] 25)).alloc (.cells #[.int .i64 R, .int .i64 C, .slice none 0 0] 25)) = v0 at B0 G0 G1 ⊢
  have z1 := G1.lt
  go_wp2_with fail
  go_loopw [6] (fun iv wr => ∃ i : Nat, i ≤ R ∧ iv = .int .i64 i ∧ ∃ (a : Option Addr) (c : Nat), RowAt wr (w.heap.size + 1) #[.int .i64 R, .int .i64 C, .slice a (i * C + 0) c] 25 ∧ OwnR wr v0.heap.size (.slice a (i * C + 0) c) (newR C i 0) ∧ RowAt wr w.heap.size #[.int .i64 0, .int .i64 0, .slice none 0 0] 25 ∧ Below w.heap.size w wr ∧ v0.heap.size ≤ wr.heap.size) (fun iv _ => R - (intOf iv).toNat)
  case atStart => exact ⟨0, Nat.zero_le _, rfl, none, 0, by simpa using G1, by simpa [newR] using OwnR.nil _ _, G0, B0, Nat.le_refl _⟩
  case round =>
    clear G0 G1
    obtain ⟨i, hi', rfl, a, c, g1, ho, g0, hb, hs⟩ := hrel
    have HG1 : Hid (RowAt wr (w.heap.size + 1) #[.int .i64 R, .int .i64 C, .slice a (i * C + 0) c] 25) := g1
    have HG0 : Hid (RowAt wr w.heap.size #[.int .i64 0, .int .i64 0, .slice none 0 0] 25) := g0
    have HO : Hid (OwnR wr v0.heap.size (.slice a (i * C + 0) c) (newR C i 0)) := ho
    have HB : Hid (Below w.heap.size w wr) := hb
    clear g1 g0 ho hb
    by_cases hlt : i < R
    · go_wp2_with fail
      go_loopw [7] (fun jv wr => ∃ j : Nat, j ≤ C ∧ jv = .int .i64 j ∧ ∃ (a : Option Addr) (c : Nat), RowAt wr (w.heap.size + 1) #[.int .i64 R, .int .i64 C, .slice a (i * C + j) c] 25 ∧ OwnR wr v0.heap.size (.slice a (i * C + j) c) (newR C i j) ∧ RowAt wr w.heap.size #[.int .i64 0, .int .i64 0, .slice none 0 0] 25 ∧ Below w.heap.size w wr ∧ v0.heap.size ≤ wr.heap.size) (fun jv _ => C - (intOf jv).toNat)
      case atStart => exact ⟨0, Nat.zero_le _, rfl, a, c, HG1.out, HO.out, HG0.out, HB.out, hs⟩
      case round =>
        clear HG1 HG0 HO HB hs
        obtain ⟨j, hj, rfl, a, c, g1, ho, g0, hb, hs⟩ := hrel
        have hlen := ho.len
        have hlm : i * C ≤ 4 * 5 := Nat.mul_le_mul (by omega) (by omega)
        obtain ⟨m, HM⟩ : ∃ m, Hid (i * C + j = m) := ⟨_, rfl⟩
        have hm : m ≤ 25 := by have := HM.out; omega
        rw [HM.out] at g1 ho
        have HG1 : Hid (RowAt wr (w.heap.size + 1) #[.int .i64 R, .int .i64 C, .slice a m c] 25) := g1
        have HG0 : Hid (RowAt wr w.heap.size #[.int .i64 0, .int .i64 0, .slice none 0 0] 25) := g0
        have HO : Hid (OwnR wr v0.heap.size (.slice a m c) (newR C i j)) := ho
        have HB : Hid (Below w.heap.size w wr) := hb
        have k2 : wr.cell? ⟨w.heap.size + 1, 2, none⟩ = some (.slice a m c) := g1.cell 2
        have f2 := g1.frozen 2
        have lg1 := g1.lt
        have hcap := ho.rws.2.1
        have hcm := ho.rws.2.2.1
        unfold maxLen at hcm
        clear g1 g0 ho hb hlen
        by_cases hlj : j < C
        · go_wp2_with (at_builtin; refine wpList_append_own _ rfl (.tmp 31) (.tmp 35) 23 rfl v0.heap.size 30 i0 _ 5 56 Try.underlying23 hi hz0 hz1 hz2 rfl (by decide) (.slice a m c) _ _ rfl (HO.out.row.alloc _) ⟨wr.heap.size, 0, none⟩ 1 1 [.int .i64 (i : Int), .int .i64 (j : Int), .int .i64 1, .int .i64 1, .slice none 0 0] rfl rfl (cell_five_new _ _ _ _ _ _ _) (five_oneCell _ _ _ _ _ _ _) (by unfold maxLen; omega) (by omega) (by simp; omega) ?_; intro v' w1 hown' hgrow _; obtain ⟨a', c', rfl, ho3, hb3⟩ := ownR_step (B := v0.heap.size) (w := wr) (s := rwOne i j) HO.out (Below.refl _ _) hs hown' hgrow; have R1 := RowAt.grown (HG1.out.alloc _) hgrow (fun e => by have := (own_lt HO.out.row e).1; omega); have q2 : w1.cell? ⟨w.heap.size + 1, 2, none⟩ = some (.slice a m c) := R1.cell 2; have q3 := R1.frozen 2)
          go_roundw
          case rel =>
            have e1 : i * C + (j + 1) = m + 1 := by have := HM.out; omega
            refine ⟨j + 1, by omega, by go_num, a', c', ?_, ?_, ?_, ?_, ?_⟩
            · rw [e1]
              exact R1.setCell 2 (.slice a' (m + 1) c')
            · rw [e1, newR_succ]
              refine own_set ho3 _ _ (fun e => ?_)
              have := (own_lt ho3 e).1
              simp at this
              omega
            · exact (RowAt.grown (HG0.out.alloc _) hgrow (fun e => by have := (own_lt HO.out.row e).1; omega)).other _ _ (by simp)
            · exact ((HB.out.alloc (by omega) _).grown hgrow (by simp; omega) (fun q hq => by have := (own_lt HO.out.row hq).1; omega)).setCell (by show w.heap.size ≤ w.heap.size + 1; omega) _
            · have := hb3.size
              simp [World.setCell]
              omega
          case measure => simp [intOf]; omega
        · go_wp2_with fail
          go_roundw
          case rel =>
            have e1 : j = C := by omega
            have e2 : (i + 1) * C + 0 = m := by have := HM.out; rw [Nat.succ_mul]; omega
            refine ⟨i + 1, by omega, by go_num, a, c, ?_, ?_, HG0.out, HB.out, hs⟩
            · rw [e2]
              exact HG1.out
            · rw [e2, ← newR_row, ← e1]
              have := HO.out
              rw [e1] at this ⊢
              exact this
          case measure => simp [intOf]; omega
    · have e1 : i = R := by omega
      subst e1
      obtain ⟨m, HM⟩ : ∃ m, Hid (i * C + 0 = m) := ⟨_, rfl⟩
      rw [HM.out] at HG1 HO
      have k0 : wr.cell? ⟨w.heap.size + 1, 0, none⟩ = some (.int .i64 i) := HG1.out.cell 0
      have k1 : wr.cell? ⟨w.heap.size + 1, 1, none⟩ = some (.int .i64 C) := HG1.out.cell 1
      have k2 : wr.cell? ⟨w.heap.size + 1, 2, none⟩ = some (.slice a m c) := HG1.out.cell 2
      go_wp2_with (refine wpList_store_row rfl 25 (.tmp 4) (.tmp 38) rfl w.heap.size #[.int .i64 i, .int .i64 C, .slice a m c] rfl rfl 25 _ HG0.out tab_info rfl (cells3_one _ _ _ _ _) ?_)
      refine bodyPost_ret (v := .agg #[.int .i64 i, .int .i64 C, .slice a m c]) (results_cell_row (p := 4) (ty := 25) rfl _ _ w.heap.size 25 _ _ _ rfl (RowAt.setRow HG0.out _) Try.underlying25 rfl tab_info) rfl ⟨.inr ⟨HN.out, a, m, c, newR C i 0, rfl, ?_⟩, below_row HB.out (Nat.le_refl _) _⟩
      refine OwnT.less (B' := v0.heap.size) ⟨own_row HO.out _ _ (fun e => by have := (own_lt HO.out.row e).1; omega), ?_⟩ (by omega)
      have := txtOwn_nil (w := wr.setRow w.heap.size #[.int .i64 i, .int .i64 C, .slice a m c]) (B := v0.heap.size) (q := (Value.slice a m c).ownBlock) (newR_nil C i 0)
      rw [← newC_map] at this
      simpa [newL] using this
end Go.Proofs.Ytikjhanfdmlhoac
