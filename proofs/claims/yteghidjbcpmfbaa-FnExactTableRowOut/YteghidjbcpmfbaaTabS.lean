import Derived.Test.YteghidjbcpmfbaaPlainS
import Derived.Deep.QuietTactic
import Derived.BigQuiet
namespace Go.Proofs.Yteghidjbcpmfbaa
open Go.RowKit

/-- A cell: its row, its column, how far it goes down and to the right, its text. -/
abbrev Cl := Int × Int × Int × Int × List Sg
def cl0 : Cl := (0, 0, 0, 0, [])

/-- The cells of a table's cell at block b from o on. -/
def CellAt (w : World) (b o : Nat) (x : Cl) : Prop :=
  w.cell? ⟨b, o, none⟩ = some (.int .i64 x.1) ∧ w.cell? ⟨b, o + 1, none⟩ = some (.int .i64 x.2.1) ∧ w.cell? ⟨b, o + 2, none⟩ = some (.int .i64 x.2.2.1) ∧ w.cell? ⟨b, o + 3, none⟩ = some (.int .i64 x.2.2.2.1) ∧
    ∃ a n cap, w.cell? ⟨b, o + 4, none⟩ = some (.slice a n cap) ∧ Txt w a n cap x.2.2.2.2

/-- A slice value that reads as the cells l. -/
def Tab (w : World) (a : Option Addr) (n cap : Nat) (l : List Cl) : Prop :=
  n = l.length ∧ n ≤ cap ∧ cap ≤ maxLen ∧ (l = [] ∨ ∃ b off, a = some ⟨b, off, none⟩ ∧ b < w.heap.size ∧ ∀ k, k < l.length → CellAt w b (off + k * 5) (l.getD k cl0))

theorem CellAt.below {w w' : World} {b o : Nat} {x : Cl} (h : CellAt w b o x) (hb : Below w.heap.size w w') (hlt : b < w.heap.size) : CellAt w' b o x := by
  obtain ⟨h0, h1, h2, h3, a, n, cap, h4, ht⟩ := h
  exact ⟨(hb.cell (p := ⟨b, _, none⟩) hlt).trans h0, (hb.cell (p := ⟨b, _, none⟩) hlt).trans h1, (hb.cell (p := ⟨b, _, none⟩) hlt).trans h2, (hb.cell (p := ⟨b, _, none⟩) hlt).trans h3, a, n, cap, (hb.cell (p := ⟨b, _, none⟩) hlt).trans h4, ht.below hb⟩
theorem Tab.below {w w' : World} {a : Option Addr} {n cap : Nat} {l : List Cl} (h : Tab w a n cap l) (hb : Below w.heap.size w w') : Tab w' a n cap l := by
  obtain ⟨h1, h2, h3, h4⟩ := h
  refine ⟨h1, h2, h3, ?_⟩
  rcases h4 with h4 | ⟨b, off, h5, h6, h7⟩
  · exact .inl h4
  · exact .inr ⟨b, off, h5, Nat.lt_of_lt_of_le h6 hb.size, fun k hk => (h7 k hk).below hb h6⟩

def inB (x : Cl) (r c : Int) : Bool := decide (x.1 ≤ r ∧ r < x.1 + x.2.2.1 ∧ x.2.1 ≤ c ∧ c < x.2.1 + x.2.2.2.1)
/-- Numbers that no sum of two takes out of range. -/
def sml (n : Int) : Prop := -1000000 ≤ n ∧ n ≤ 1000000

set_option maxHeartbeats 1000000 in
theorem l2In_any (r c d h : Int) (ta : Option Addr) (tn tc : Nat) (a b : Int) (w : World) (hr : sml r) (hc : sml c) (hd : sml d) (hh : sml h) :
    Calls Try.prog 43 #[.agg #[.int .i64 r, .int .i64 c, .int .i64 d, .int .i64 h, .slice ta tn tc], .int .i64 a, .int .i64 b] w fun e w' => e = .returned (.bool (inB (r, c, d, h, []) a b)) ∧ Below w.heap.size w w' := by
  obtain ⟨r0, r1⟩ := hr
  obtain ⟨c0, c1⟩ := hc
  obtain ⟨d0, d1⟩ := hd
  obtain ⟨e0, e1⟩ := hh
  go_enter Try.func43, Try.ntmps43
  go_wp2
  all_goals go_ret
  all_goals refine ⟨congrArg (fun x => Ending.returned (.bool x)) ?_, (Below.refl _ _).alloc (Nat.le_refl _) _⟩
  all_goals show _ = decide (r ≤ a ∧ a < r + d ∧ c ≤ b ∧ b < c + h)
  all_goals first | exact decide_eq_decide.2 (by omega) | exact (decide_eq_false (by omega)).symm

/-- A cell in form, in a table of so many rows and columns. -/
def cellB (R C : Int) (x : Cl) : Bool := decide (0 ≤ x.1 ∧ x.1 ≤ R - 1) && decide (0 ≤ x.2.1 ∧ x.2.1 ≤ C - 1) && decide (1 ≤ x.2.2.1 ∧ x.2.2.1 ≤ R - x.1) && decide (1 ≤ x.2.2.2.1 ∧ x.2.2.2.1 ≤ C - x.2.1) && textB x.2.2.2.2
/-- One cell ahead of another. -/
def ahead (x y : Cl) : Bool := decide (x.1 < y.1 ∨ x.1 = y.1 ∧ x.2.1 < y.2.1)
/-- The cell at k in form, and behind the one ahead of it. -/
def atB (R C : Int) (l : List Cl) (k : Nat) : Bool := cellB R C (l.getD k cl0) && (decide (k = 0) || ahead (l.getD (k - 1) cl0) (l.getD k cl0))
def tabV (R C : Int) (a : Option Addr) (n cap : Nat) : Value := .agg #[.int .i64 R, .int .i64 C, .slice a n cap]
def formB (R C : Int) (l : List Cl) : Bool := decide (1 ≤ R ∧ R ≤ 5) && decide (1 ≤ C ∧ C ≤ 5) && decide (l.length ≤ 25) && (List.range l.length).all (atB R C l)

theorem formB_0 {R C : Int} {l : List Cl} (h : decide (1 ≤ R ∧ R ≤ 5) = false) : formB R C l = false := by simp [formB, h]
theorem formB_1 {R C : Int} {l : List Cl} (h : decide (1 ≤ C ∧ C ≤ 5) = false) : formB R C l = false := by simp [formB, h]
theorem formB_2 {R C : Int} {l : List Cl} (h : ¬ l.length ≤ 25) : formB R C l = false := by simp [formB, h]
theorem formB_3 {R C : Int} {l : List Cl} (h0 : decide (1 ≤ R ∧ R ≤ 5) = true) (h1 : decide (1 ≤ C ∧ C ≤ 5) = true) (h2 : l.length ≤ 25) : formB R C l = (List.range l.length).all (atB R C l) := by simp only [formB, h0, h1, h2, decide_true, Bool.true_and]
theorem range_all_succ (n : Nat) (p : Nat → Bool) : (List.range (n + 1)).all p = ((List.range n).all p && p n) := by simp [List.range_succ]
theorem range_all_false {n k : Nat} {p : Nat → Bool} (hk : k < n) (h : p k = false) : (List.range n).all p = false := by
  rw [← Bool.not_eq_true, List.all_eq_true]
  intro hh
  rw [hh k (by simpa using hk)] at h
  exact absurd h (by simp)

set_option maxRecDepth 100000 in
set_option maxHeartbeats 4000000 in
theorem l2Form_any (R C : Int) (a : Option Addr) (n cap : Nat) (l : List Cl) (w : World) (h : Tab w a n cap l) :
    Calls Try.prog 53 #[.agg #[.int .i64 R, .int .i64 C, .slice a n cap]] w fun e w' => e = .returned (.bool (formB R C l)) ∧ Below w.heap.size w w' := by
  obtain ⟨rfl, hc, hm, hl⟩ := h
  unfold maxLen at hm
  cases h0 : decide (1 ≤ R ∧ R ≤ 5)
  · rw [formB_0 h0]
    have H0 : Hid (decide (1 ≤ R ∧ R ≤ 5) = false) := h0
    clear h0
    go_enter Try.func53, Try.ntmps53
    go_wp2_with (go_at_call 28; refine (l6In_of H0.out _).mono ?_; rintro e w1 ⟨rfl, rfl⟩)
    go_ret
    exact ⟨rfl, (Below.refl _ _).alloc (Nat.le_refl _) _⟩
  cases h1 : decide (1 ≤ C ∧ C ≤ 5)
  · rw [formB_1 h1]
    have H0 : Hid (decide (1 ≤ R ∧ R ≤ 5) = true) := h0
    have H1 : Hid (decide (1 ≤ C ∧ C ≤ 5) = false) := h1
    clear h0 h1
    go_enter Try.func53, Try.ntmps53
    go_wp2_with (first | (go_at_call_of 28 (Value.int IntKind.i64 R); refine (l6In_of H0.out _).mono ?_; rintro e w1 ⟨rfl, rfl⟩) | (go_at_call_of 28 (Value.int IntKind.i64 C); refine (l6In_of H1.out _).mono ?_; rintro e w1 ⟨rfl, rfl⟩))
    go_ret
    exact ⟨rfl, (Below.refl _ _).alloc (Nat.le_refl _) _⟩
  by_cases h2 : l.length ≤ 25
  · rw [formB_3 h0 h1 h2]
    have hR := of_decide_eq_true h0
    have hC := of_decide_eq_true h1
    have H0 : Hid (decide (1 ≤ R ∧ R ≤ 5) = true) := h0
    have H1 : Hid (decide (1 ≤ C ∧ C ≤ 5) = true) := h1
    have H2 : decide ((25 : Int) < (l.length : Int)) = false := by simp; omega
    clear h0 h1
    go_enter Try.func53, Try.ntmps53
    go_wp2_with (first | (go_at_call_of 28 (Value.int IntKind.i64 R); refine (l6In_of H0.out _).mono ?_; rintro e w1 ⟨rfl, rfl⟩) | (go_at_call_of 28 (Value.int IntKind.i64 C); refine (l6In_of H1.out _).mono ?_; rintro e w1 ⟨rfl, rfl⟩))
    rcases hl with rfl | ⟨b, off, rfl, hbw, hl⟩
    · refine wp_loop_rounds 1 ?_
      rw [rounds_succ]
      go_wp2_with fail
      go_ret
      exact ⟨rfl, (Below.refl _ _).alloc (Nat.le_refl _) _⟩
    have B0 : Below w.heap.size w (w.alloc (Obj.cells #[.int .i64 R, .int .i64 C, .slice (some ⟨b, off, none⟩) l.length cap] 28)) := (Below.refl _ _).alloc (Nat.le_refl _) _
    have k0 : (w.alloc (Obj.cells #[.int .i64 R, .int .i64 C, .slice (some ⟨b, off, none⟩) l.length cap] 28)).cell? ⟨w.heap.size, 0, none⟩ = some (.int .i64 R) := by simp
    have k1 : (w.alloc (Obj.cells #[.int .i64 R, .int .i64 C, .slice (some ⟨b, off, none⟩) l.length cap] 28)).cell? ⟨w.heap.size, 1, none⟩ = some (.int .i64 C) := by simp
    have k2 : (w.alloc (Obj.cells #[.int .i64 R, .int .i64 C, .slice (some ⟨b, off, none⟩) l.length cap] 28)).cell? ⟨w.heap.size, 2, none⟩ = some (.slice (some ⟨b, off, none⟩) l.length cap) := by simp
    have z0 : w.heap.size < (w.alloc (Obj.cells #[.int .i64 R, .int .i64 C, .slice (some ⟨b, off, none⟩) l.length cap] 28)).heap.size := by simp
    generalize (w.alloc (Obj.cells #[.int .i64 R, .int .i64 C, .slice (some ⟨b, off, none⟩) l.length cap] 28)) = v at B0 k0 k1 k2 z0 ⊢
    go_loopw [3] (fun i wr => ∃ k : Nat, k ≤ l.length ∧ i = .int .i64 k ∧ (List.range k).all (atB R C l) = true ∧ Below v.heap.size v wr) (fun i _ => l.length - (intOf i).toNat)
    case atStart => exact ⟨0, Nat.zero_le _, rfl, by simp, Below.refl _ _⟩
    case round =>
      obtain ⟨k, hk, rfl, hall, hbl⟩ := hrel
      have HA : Hid ((List.range k).all (atB R C l) = true) := hall
      clear hall
      have HB : Hid (Below w.heap.size w wr) := B0.trans (hbl.mono (Nat.le_of_lt z0))
      have HVr : Hid (Below v.heap.size v wr) := hbl
      have j0 := (hbl.cell (p := ⟨w.heap.size, 0, none⟩) z0).trans k0
      have j1 := (hbl.cell (p := ⟨w.heap.size, 1, none⟩) z0).trans k1
      have j2 := (hbl.cell (p := ⟨w.heap.size, 2, none⟩) z0).trans k2
      have hsz : w.heap.size < wr.heap.size := Nat.lt_of_lt_of_le z0 hbl.size
      clear k0 k1 k2 B0 hbl z0
      by_cases hlt : k < l.length
      · obtain ⟨c0, c1, c2, c3, ta, tn, tc, c4, ht⟩ := (hl k hlt).below HB.out hbw
        obtain ⟨⟨r, c, d, g, t⟩, hx⟩ : ∃ x, x = l.getD k cl0 := ⟨_, rfl⟩
        rw [← hx] at c0 c1 c2 c3 ht
        simp only at c0 c1 c2 c3 ht
        have HX : Hid ((r, c, d, g, t) = l.getD k cl0) := hx
        have HT : Hid (Txt wr ta tn tc t) := ht
        have HL : Hid (∀ k, k < l.length → CellAt w b (off + k * 5) (l.getD k cl0)) := hl
        clear hl hx ht
        cases q0 : decide (0 ≤ r ∧ r ≤ R - 1)
        · have HF : Hid ((List.range l.length).all (atB R C l) = false) := range_all_false hlt (by simp only [atB, ← HX.out, cellB, q0, Bool.false_and])
          have Q0 : Hid (decide (0 ≤ r ∧ r ≤ R - 1) = false) := q0
          clear q0
          go_wp2_with (first | (go_at_call_of 28 (Value.int IntKind.i64 r); refine (l6In_of Q0.out _).mono ?_; rintro e w1 ⟨rfl, rfl⟩))
          go_ret
          exact ⟨by rw [HF.out]; rfl, HB.out.alloc (Nat.le_of_lt hsz) _⟩
        have o0 := of_decide_eq_true q0
        have Q0 : Hid (decide (0 ≤ r ∧ r ≤ R - 1) = true) := q0
        cases q1 : decide (0 ≤ c ∧ c ≤ C - 1)
        · have HF : Hid ((List.range l.length).all (atB R C l) = false) := range_all_false hlt (by simp only [atB, ← HX.out, cellB, q0, q1, Bool.false_and, Bool.true_and])
          have Q1 : Hid (decide (0 ≤ c ∧ c ≤ C - 1) = false) := q1
          clear q0 q1
          go_wp2_with (first | (go_at_call_of 28 (Value.int IntKind.i64 r); refine (l6In_of Q0.out _).mono ?_; rintro e w1 ⟨rfl, rfl⟩) | (go_at_call_of 28 (Value.int IntKind.i64 c); refine (l6In_of Q1.out _).mono ?_; rintro e w1 ⟨rfl, rfl⟩))
          go_ret
          exact ⟨by rw [HF.out]; rfl, HB.out.alloc (Nat.le_of_lt hsz) _⟩
        have o1 := of_decide_eq_true q1
        have Q1 : Hid (decide (0 ≤ c ∧ c ≤ C - 1) = true) := q1
        cases q2 : decide (1 ≤ d ∧ d ≤ R - r)
        · have HF : Hid ((List.range l.length).all (atB R C l) = false) := range_all_false hlt (by simp only [atB, ← HX.out, cellB, q0, q1, q2, Bool.false_and, Bool.true_and])
          have Q2 : Hid (decide (1 ≤ d ∧ d ≤ R - r) = false) := q2
          clear q0 q1 q2
          go_wp2_with (first | (go_at_call_of 28 (Value.int IntKind.i64 r); refine (l6In_of Q0.out _).mono ?_; rintro e w1 ⟨rfl, rfl⟩) | (go_at_call_of 28 (Value.int IntKind.i64 c); refine (l6In_of Q1.out _).mono ?_; rintro e w1 ⟨rfl, rfl⟩) | (go_at_call_of 28 (Value.int IntKind.i64 d); refine (l6In_of Q2.out _).mono ?_; rintro e w1 ⟨rfl, rfl⟩))
          go_ret
          exact ⟨by rw [HF.out]; rfl, HB.out.alloc (Nat.le_of_lt hsz) _⟩
        have o2 := of_decide_eq_true q2
        have Q2 : Hid (decide (1 ≤ d ∧ d ≤ R - r) = true) := q2
        cases q3 : decide (1 ≤ g ∧ g ≤ C - c)
        · have HF : Hid ((List.range l.length).all (atB R C l) = false) := range_all_false hlt (by simp only [atB, ← HX.out, cellB, q0, q1, q2, q3, Bool.false_and, Bool.true_and])
          have Q3 : Hid (decide (1 ≤ g ∧ g ≤ C - c) = false) := q3
          clear q0 q1 q2 q3
          go_wp2_with (first | (go_at_call_of 28 (Value.int IntKind.i64 r); refine (l6In_of Q0.out _).mono ?_; rintro e w1 ⟨rfl, rfl⟩) | (go_at_call_of 28 (Value.int IntKind.i64 c); refine (l6In_of Q1.out _).mono ?_; rintro e w1 ⟨rfl, rfl⟩) | (go_at_call_of 28 (Value.int IntKind.i64 d); refine (l6In_of Q2.out _).mono ?_; rintro e w1 ⟨rfl, rfl⟩) | (go_at_call_of 28 (Value.int IntKind.i64 g); refine (l6In_of Q3.out _).mono ?_; rintro e w1 ⟨rfl, rfl⟩))
          go_ret
          exact ⟨by rw [HF.out]; rfl, HB.out.alloc (Nat.le_of_lt hsz) _⟩
        have o3 := of_decide_eq_true q3
        have Q3 : Hid (decide (1 ≤ g ∧ g ≤ C - c) = true) := q3
        cases q4 : textB t
        · have HF : Hid ((List.range l.length).all (atB R C l) = false) := range_all_false hlt (by simp only [atB, ← HX.out, cellB, q0, q1, q2, q3, q4, Bool.false_and, Bool.true_and])
          have Q4 : Hid (textB t = false) := q4
          clear q0 q1 q2 q3 q4
          go_wp2_with (first | (go_at_call_of 28 (Value.int IntKind.i64 r); refine (l6In_of Q0.out _).mono ?_; rintro e w1 ⟨rfl, rfl⟩) | (go_at_call_of 28 (Value.int IntKind.i64 c); refine (l6In_of Q1.out _).mono ?_; rintro e w1 ⟨rfl, rfl⟩) | (go_at_call_of 28 (Value.int IntKind.i64 d); refine (l6In_of Q2.out _).mono ?_; rintro e w1 ⟨rfl, rfl⟩) | (go_at_call_of 28 (Value.int IntKind.i64 g); refine (l6In_of Q3.out _).mono ?_; rintro e w1 ⟨rfl, rfl⟩) | (go_at_call 44; refine (specTextOk_is (HT.out.below ((Below.refl _ _).alloc (Nat.le_refl _) _)) Q4.out).mono ?_; rintro e w2 ⟨rfl, hb2⟩))
          go_ret
          exact ⟨by rw [HF.out]; rfl, (HB.out.alloc (Nat.le_of_lt hsz) _).trans (hb2.mono (by simp; omega))⟩
        have Q4 : Hid (textB t = true) := q4
        have HC : Hid (cellB R C (l.getD k cl0) = true) := by
          show cellB R C (l.getD k cl0) = true
          simp only [← HX.out, cellB, q0, q1, q2, q3, q4, Bool.true_and]
        clear q0 q1 q2 q3 q4
        go_wp2_with (first | (go_at_call_of 28 (Value.int IntKind.i64 r); refine (l6In_of Q0.out _).mono ?_; rintro e w1 ⟨rfl, rfl⟩) | (go_at_call_of 28 (Value.int IntKind.i64 c); refine (l6In_of Q1.out _).mono ?_; rintro e w1 ⟨rfl, rfl⟩) | (go_at_call_of 28 (Value.int IntKind.i64 d); refine (l6In_of Q2.out _).mono ?_; rintro e w1 ⟨rfl, rfl⟩) | (go_at_call_of 28 (Value.int IntKind.i64 g); refine (l6In_of Q3.out _).mono ?_; rintro e w1 ⟨rfl, rfl⟩) | (go_at_call 44; refine (specTextOk_is (HT.out.below ((Below.refl _ _).alloc (Nat.le_refl _) _)) Q4.out).mono ?_; rintro e w2 ⟨rfl, hb2⟩))
        have bA : Below wr.heap.size wr (wr.alloc (Obj.cells #[.int .i64 r, .int .i64 c, .int .i64 d, .int .i64 g, .slice ta tn tc] 44)) := (Below.refl _ _).alloc (Nat.le_refl _) _
        have b2 : Below wr.heap.size wr w2 := bA.trans (hb2.mono (by simp))
        have d0 : w2.cell? ⟨wr.heap.size, 0, none⟩ = some (.int .i64 r) := (hb2.cell (p := ⟨wr.heap.size, 0, none⟩) (by simp)).trans (by simp)
        have d1 : w2.cell? ⟨wr.heap.size, 1, none⟩ = some (.int .i64 c) := (hb2.cell (p := ⟨wr.heap.size, 1, none⟩) (by simp)).trans (by simp)
        have t2 := (b2.cell (p := ⟨w.heap.size, 2, none⟩) hsz).trans j2
        have HB2 : Hid (Below w.heap.size w w2) := HB.out.trans (b2.mono (Nat.le_of_lt hsz))
        have HV : Hid (Below v.heap.size v w2) := HVr.out.trans (b2.mono HVr.out.size)
        clear bA b2 hb2 c0 c1 c2 c3 c4 j0 j1 j2 o0 o1 o2 o3
        by_cases hk0 : k = 0
        · subst hk0
          go_quiet (fail)
          go_wp2_with fail
          go_roundw
          case rel => exact ⟨1, by omega, by go_num, by rw [range_all_succ, HA.out]; simp only [atB, HC.out]; rfl, below_drewN HV.out _⟩
          case measure => simp [intOf]; omega
        have hz : 0 < k := by omega
        obtain ⟨j, hj, hjl, hk1, HJ⟩ : ∃ j : Nat, Hid (k - 1 = j) ∧ j < l.length ∧ ((k : Int) - 1) = (j : Int) ∧ Hid (k = j + 1) := ⟨k - 1, rfl, by omega, by omega, show k = k - 1 + 1 from by omega⟩
        obtain ⟨e0, e1, -⟩ := (HL.out j hjl).below HB2.out hbw
        obtain ⟨⟨r', c', y⟩, hy⟩ : ∃ x, x = l.getD j cl0 := ⟨_, rfl⟩
        rw [← hy] at e0 e1
        simp only at e0 e1
        have HY : Hid ((r', c', y) = l.getD j cl0) := hy
        clear hy hk0
        have HAt : Hid (atB R C l k = ahead (r', c', y) (r, c, d, g, t)) := by
          show atB R C l k = _
          have n0 : decide (k = 0) = false := decide_eq_false (by omega)
          unfold atB
          rw [HC.out, hj.out, ← HX.out, ← HY.out, n0]
          rfl
        rcases (show (r < r') ∨ (r' < r) ∨ (r' = r ∧ c ≤ c') ∨ (r' = r ∧ c' < c) from by omega) with m0 | m0 | ⟨m0, m1⟩ | ⟨m0, m1⟩
        · have HF : Hid ((List.range l.length).all (atB R C l) = false) := range_all_false hlt (by rw [HAt.out]; exact decide_eq_false (by simp only; omega))
          go_quiet (fail)
          go_wp2_with fail
          go_ret
          exact ⟨by rw [HF.out]; rfl, below_drewN HB2.out _⟩
        · have n1 : ¬ r < r' := by omega
          have n2 : (r' == r) = false := by simp; omega
          have HG : Hid (atB R C l k = true) := HAt.out.trans (decide_eq_true (by simp only; omega))
          go_quiet (fail)
          go_wp2_with fail
          go_roundw
          case rel => exact ⟨k + 1, by omega, by go_num, by rw [range_all_succ, HA.out, HG.out]; rfl, below_drewN HV.out _⟩
          case measure => simp [intOf]; omega
        · have HF : Hid ((List.range l.length).all (atB R C l) = false) := range_all_false hlt (by rw [HAt.out]; exact decide_eq_false (by simp only; omega))
          subst m0
          go_quiet (fail)
          go_wp2_with fail
          go_ret
          exact ⟨by rw [HF.out]; rfl, below_drewN HB2.out _⟩
        · have HG : Hid (atB R C l k = true) := HAt.out.trans (decide_eq_true (by simp only; omega))
          subst m0
          have n3 : ¬ c ≤ c' := by omega
          go_quiet (fail)
          go_wp2_with fail
          go_roundw
          case rel => exact ⟨k + 1, by omega, by go_num, by rw [range_all_succ, HA.out, HG.out]; rfl, below_drewN HV.out _⟩
          case measure => simp [intOf]; omega
      · go_wp2_with fail
        go_ret
        exact ⟨by have hh := HA.out; rw [show k = l.length from by omega] at hh; rw [hh]; rfl, HB.out⟩
  · rw [formB_2 h2]
    have H0 : Hid (decide (1 ≤ R ∧ R ≤ 5) = true) := h0
    have H1 : Hid (decide (1 ≤ C ∧ C ≤ 5) = true) := h1
    have H2 : (25 : Int) < (l.length : Int) := by omega
    clear h0 h1
    go_enter Try.func53, Try.ntmps53
    go_wp2_with (first | (go_at_call_of 28 (Value.int IntKind.i64 R); refine (l6In_of H0.out _).mono ?_; rintro e w1 ⟨rfl, rfl⟩) | (go_at_call_of 28 (Value.int IntKind.i64 C); refine (l6In_of H1.out _).mono ?_; rintro e w1 ⟨rfl, rfl⟩))
    go_ret
    exact ⟨rfl, (Below.refl _ _).alloc (Nat.le_refl _) _⟩
end Go.Proofs.Yteghidjbcpmfbaa
