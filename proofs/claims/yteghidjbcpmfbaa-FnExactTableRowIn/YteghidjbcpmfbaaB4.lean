import Derived.Test.YteghidjbcpmfbaaB2
import Derived.Test.YteghidjbcpmfbaaB3
import Derived.Deep.QuietTactic
import Derived.BigQuiet
import Derived.Test.YteghidjbcpmfbaaB1
import Derived.Laws.OwnMore
import Derived.OwnWalk
namespace Go.Proofs.Yteghidjbcpmfbaa
open Go.RowKit

/-- A grid's squares, filled up as far as (i, j): what was of a cell stays, each other square is a new cell. -/
def Filled (C : Nat) (f : Nat → Nat) (t : Nat → Sl) (n i j : Nat) (f' : Nat → Nat) (t' : Nat → Sl) (n' : Nat) : Prop :=
  n ≤ n' ∧ n' ≤ 25 ∧ (∀ s, f' s ≤ n') ∧ (∀ k, k ≤ n → t' k = t k) ∧ (∀ k, 1 ≤ k → k ≤ n' → ∃ s, s < 25 ∧ f' s = k) ∧
  (∀ a b, vis i j C a b → f (a * 5 + b) ≠ 0 → f' (a * 5 + b) = f (a * 5 + b)) ∧
  (∀ a b, vis i j C a b → f (a * 5 + b) = 0 → n < f' (a * 5 + b) ∧ t' (f' (a * 5 + b)) = sl0) ∧
  (∀ a b a' b', vis i j C a b → vis i j C a' b' → f (a * 5 + b) = 0 → f' (a * 5 + b) = f' (a' * 5 + b') → a = a' ∧ b = b') ∧
  (∀ a b, b < 5 → ¬ vis i j C a b → f' (a * 5 + b) = f (a * 5 + b))

theorem Filled.row {C : Nat} {f f' : Nat → Nat} {t t' : Nat → Sl} {n n' i : Nat} (h : Filled C f t n i C f' t' n') : Filled C f t n (i + 1) 0 f' t' n' := by
  have e : ∀ a b, vis i C C a b ↔ vis (i + 1) 0 C a b := by
    intro a b
    unfold vis
    omega
  obtain ⟨h1, h2, h3, h4, h5, h6, h7, h8, h9⟩ := h
  refine ⟨h1, h2, h3, h4, h5, ?_, ?_, ?_, ?_⟩
  · intro a b hv
    exact h6 a b ((e a b).2 hv)
  · intro a b hv
    exact h7 a b ((e a b).2 hv)
  · intro a b a' b' hv hv'
    exact h8 a b a' b' ((e a b).2 hv) ((e a' b').2 hv')
  · intro a b hb hv
    exact h9 a b hb (fun hh => hv ((e a b).1 hh))
theorem Filled.skip {C : Nat} {f f' : Nat → Nat} {t t' : Nat → Sl} {n n' i j : Nat} (h : Filled C f t n i j f' t' n') (hC : C ≤ 5) (hj : j < C) (hf : ∀ s, f s ≤ n) (hz : f' (i * 5 + j) ≠ 0) : Filled C f t n i (j + 1) f' t' n' := by
  obtain ⟨h1, h2, h3, h4, h5, h6, h7, h8, h9⟩ := h
  have hnow : f' (i * 5 + j) = f (i * 5 + j) := h9 i j (by omega) (by unfold vis; omega)
  have hv : ∀ a b, vis i (j + 1) C a b → vis i j C a b ∨ (a = i ∧ b = j) := by
    intro a b hh
    unfold vis at hh ⊢
    omega
  refine ⟨h1, h2, h3, h4, h5, ?_, ?_, ?_, ?_⟩
  · intro a b hh hne
    rcases hv a b hh with h | ⟨rfl, rfl⟩
    · exact h6 a b h hne
    · exact hnow
  · intro a b hh he
    rcases hv a b hh with h | ⟨rfl, rfl⟩
    · exact h7 a b h he
    · rw [hnow] at hz
      exact absurd he hz
  · intro a b a' b' hh hh' he hq
    rcases hv a b hh with h | ⟨rfl, rfl⟩
    · rcases hv a' b' hh' with h' | ⟨rfl, rfl⟩
      · exact h8 a b a' b' h h' he hq
      · have := (h7 a b h he).1
        have := hf (a' * 5 + b')
        rw [hnow] at hq
        omega
    · rw [hnow] at hz
      exact absurd he hz
  · intro a b hb hh
    exact h9 a b hb (fun h => hh (by unfold vis at h ⊢; omega))
theorem Filled.lay {C : Nat} {f f' : Nat → Nat} {t t' : Nat → Sl} {n n' i j : Nat} (h : Filled C f t n i j f' t' n') (hC : C ≤ 5) (hi : i < 5) (hj : j < C) (_ : ∀ s, f s ≤ n) (hz : f' (i * 5 + j) = 0) :
    n' < 25 ∧ Filled C f t n i (j + 1) (giveF f' i j 1 1 (n' + 1)) (updS t' (n' + 1) sl0) (n' + 1) := by
  obtain ⟨h1, h2, h3, h4, h5, h6, h7, h8, h9⟩ := h
  have hnow : f' (i * 5 + j) = f (i * 5 + j) := h9 i j (by omega) (by unfold vis; omega)
  have hlt : n' < 25 := by
    have := pigeon f' 25 (List.range (n' + 1)) List.nodup_range (by
      intro x hx
      have hx' : x < n' + 1 := by simpa using hx
      by_cases h0 : x = 0
      · exact ⟨i * 5 + j, by omega, by rw [h0]; exact hz⟩
      · exact h5 x (by omega) (by omega))
    simp at this
    omega
  have hg : ∀ a b, b < 5 → ¬ (a = i ∧ b = j) → giveF f' i j 1 1 (n' + 1) (a * 5 + b) = f' (a * 5 + b) := by
    intro a b hb hne
    unfold giveF
    rw [show (a * 5 + b) / 5 = a from by omega, show (a * 5 + b) % 5 = b from by omega, if_neg (by omega)]
  have hg0 : giveF f' i j 1 1 (n' + 1) (i * 5 + j) = n' + 1 := by
    unfold giveF
    rw [show (i * 5 + j) / 5 = i from by omega, show (i * 5 + j) % 5 = j from by omega, if_pos (by omega)]
  have hv : ∀ a b, vis i (j + 1) C a b → (vis i j C a b ∧ ¬ (a = i ∧ b = j) ∧ b < 5) ∨ (a = i ∧ b = j) := by
    intro a b hh
    unfold vis at hh ⊢
    omega
  refine ⟨hlt, by omega, by omega, ?_, ?_, ?_, ?_, ?_, ?_, ?_⟩
  · intro s
    unfold giveF
    split
    · exact Nat.le_refl _
    · exact Nat.le_succ_of_le (h3 s)
  · intro k hk
    simp only [updS, show ¬ k = n' + 1 from by omega, if_false]
    exact h4 k hk
  · intro k k1 k2
    by_cases hk : k = n' + 1
    · exact ⟨i * 5 + j, by omega, by rw [hg0, hk]⟩
    · obtain ⟨s, s1, s2⟩ := h5 k k1 (by omega)
      refine ⟨s, s1, ?_⟩
      have hne : ¬ (s / 5 = i ∧ s % 5 = j) := by
        rintro ⟨e1, e2⟩
        have : s = i * 5 + j := by omega
        rw [this, hz] at s2
        omega
      have := hg (s / 5) (s % 5) (by omega) hne
      rw [show s / 5 * 5 + s % 5 = s from by omega] at this
      rw [this]
      exact s2
  · intro a b hh hne
    rcases hv a b hh with ⟨h, h', hb⟩ | ⟨rfl, rfl⟩
    · rw [hg a b hb h']
      exact h6 a b h hne
    · rw [← hnow] at hne
      exact absurd hz hne
  · intro a b hh he
    rcases hv a b hh with ⟨h, h', hb⟩ | ⟨rfl, rfl⟩
    · rw [hg a b hb h']
      obtain ⟨q1, q2⟩ := h7 a b h he
      refine ⟨q1, ?_⟩
      have := h3 (a * 5 + b)
      simp only [updS, show ¬ f' (a * 5 + b) = n' + 1 from by omega, if_false]
      exact q2
    · rw [hg0]
      refine ⟨by omega, ?_⟩
      simp only [updS, if_true]
  · intro a b a' b' hh hh' he hq
    rcases hv a b hh with ⟨h, h', hb⟩ | ⟨rfl, rfl⟩
    · rw [hg a b hb h'] at hq
      rcases hv a' b' hh' with ⟨g, g', gb⟩ | ⟨rfl, rfl⟩
      · rw [hg a' b' gb g'] at hq
        exact h8 a b a' b' h g he hq
      · rw [hg0] at hq
        have := h3 (a * 5 + b)
        omega
    · rw [hg0] at hq
      rcases hv a' b' hh' with ⟨g, g', gb⟩ | ⟨rfl, rfl⟩
      · rw [hg a' b' gb g'] at hq
        have := h3 (a' * 5 + b')
        omega
      · exact ⟨rfl, rfl⟩
  · intro a b hb hh
    have hne : ¬ (a = i ∧ b = j) := by
      rintro ⟨rfl, rfl⟩
      exact hh (by unfold vis; omega)
    rw [hg a b hb hne]
    exact h9 a b hb (fun h => hh (by unfold vis at h ⊢; omega))
theorem Filled.start {C : Nat} {f : Nat → Nat} {t : Nat → Sl} {n : Nat} (hn : n ≤ 25) (hf : ∀ s, f s ≤ n) (hs : ∀ k, 1 ≤ k → k ≤ n → ∃ s, s < 25 ∧ f s = k) : Filled C f t n 0 0 f t n := by
  have hv : ∀ a b, ¬ vis 0 0 C a b := by
    intro a b hh
    unfold vis at hh
    omega
  exact ⟨Nat.le_refl _, hn, hf, fun _ _ => rfl, hs, fun a b h => absurd h (hv a b), fun a b h => absurd h (hv a b), fun a b a' b' h => absurd h (hv a b), fun _ _ _ _ => rfl⟩

set_option maxRecDepth 100000 in
set_option maxHeartbeats 4000000 in
theorem fillUp_any (R C n : Nat) (f : Nat → Nat) (t : Nat → Sl) (w : World) (hR : R ≤ 5) (hC : C ≤ 5) (hn : n ≤ 25) (hf : ∀ s, f s ≤ n) (hs : ∀ k, 1 ≤ k → k ≤ n → ∃ s, s < 25 ∧ f s = k) :
    Calls Try.prog 35 #[.agg (gridA R C n f t)] w fun z w' => (∃ f' t' n', z = .returned (.agg (gridA R C n' f' t')) ∧ Filled C f t n R 0 f' t' n') ∧ Below w.heap.size w w' := by
  have HF : Hid (∀ s, f s ≤ n) := hf
  have HS : Hid (Filled C f t n 0 0 f t n) := Filled.start hn hf hs
  clear hf hs
  go_enter Try.func35, Try.ntmps35
  go_upto_region 1 with fail
  rw [← grid_zero]
  have B0 : Below w.heap.size w ((w.alloc (.cells (gridA R C n f t) 51)).alloc (.cells (gridA 0 0 0 (fun _ => 0) (fun _ => sl0)) 51)) := ((Below.refl _ _).alloc (Nat.le_refl _) _).alloc (by simp) _
  have G0 : GridAt ((w.alloc (.cells (gridA R C n f t) 51)).alloc (.cells (gridA 0 0 0 (fun _ => 0) (fun _ => sl0)) 51)) w.heap.size R C n f t := (gridAt_new w R C n f t).alloc _
  have G1 : GridAt ((w.alloc (.cells (gridA R C n f t) 51)).alloc (.cells (gridA 0 0 0 (fun _ => 0) (fun _ => sl0)) 51)) (w.heap.size + 1) 0 0 0 (fun _ => 0) (fun _ => sl0) := by
    have := gridAt_new (w.alloc (.cells (gridA R C n f t) 51)) 0 0 0 (fun _ => 0) (fun _ => sl0)
    simpa using this
  generalize ((w.alloc (.cells (gridA R C n f t) 51)).alloc (.cells (gridA 0 0 0 (fun _ => 0) (fun _ => sl0)) 51)) = v0 at B0 G0 G1 ⊢
  have k0 := G0.rows
  go_wp2_with fail
  go_loopw [7] (fun iv wr => ∃ (i : Nat) (f' : Nat → Nat) (t' : Nat → Sl) (n' : Nat), i ≤ R ∧ iv = .int .i64 i ∧ Filled C f t n i 0 f' t' n' ∧ GridAt wr w.heap.size R C n' f' t' ∧ GridAt wr (w.heap.size + 1) 0 0 0 (fun _ => 0) (fun _ => sl0) ∧ Below w.heap.size w wr) (fun iv _ => R - (intOf iv).toNat)
  case atStart => exact ⟨0, f, t, n, Nat.zero_le _, rfl, HS.out, G0, G1, B0⟩
  case round =>
    clear k0 G0 G1 B0
    obtain ⟨i, f', t', n', hi, rfl, hfl, hg, hz, hb⟩ := hrel
    have HL : Hid (Filled C f t n i 0 f' t' n') := hfl
    have HG : Hid (GridAt wr w.heap.size R C n' f' t') := hg
    have HZ : Hid (GridAt wr (w.heap.size + 1) 0 0 0 (fun _ => 0) (fun _ => sl0)) := hz
    have HB : Hid (Below w.heap.size w wr) := hb
    have g1 := hg.cols
    clear hfl hg hz hb
    by_cases hlt : i < R
    · go_wp2_with fail
      go_loopw [12] (fun jv wr => ∃ (j : Nat) (f' : Nat → Nat) (t' : Nat → Sl) (n' : Nat), j ≤ C ∧ jv = .int .i64 j ∧ Filled C f t n i j f' t' n' ∧ GridAt wr w.heap.size R C n' f' t' ∧ GridAt wr (w.heap.size + 1) 0 0 0 (fun _ => 0) (fun _ => sl0) ∧ Below w.heap.size w wr) (fun jv _ => C - (intOf jv).toNat)
      case atStart => exact ⟨0, f', t', n', Nat.zero_le _, rfl, HL.out, HG.out, HZ.out, HB.out⟩
      case round =>
        clear HL HG HZ HB g1
        obtain ⟨j, f', t', n', hj, rfl, hfl, hg, hz, hb⟩ := hrel
        have HL : Hid (Filled C f t n i j f' t' n') := hfl
        have HG : Hid (GridAt wr w.heap.size R C n' f' t') := hg
        have HZ : Hid (GridAt wr (w.heap.size + 1) 0 0 0 (fun _ => 0) (fun _ => sl0)) := hz
        have HB : Hid (Below w.heap.size w wr) := hb
        have zl := hz.lt
        by_cases hlj : j < C
        · have k1 := hg.num (i * 5 + j) (by omega)
          obtain ⟨x, hx⟩ : ∃ x, f' (i * 5 + j) = x := ⟨_, rfl⟩
          have HX : Hid (f' (i * 5 + j) = x) := hx
          rw [← Nat.add_assoc, hx] at k1
          have b0 : (i : Int) < 5 := by omega
          have b1 : (j : Int) < 5 := by omega
          clear hfl hg hz hb hx
          by_cases h0 : x = 0
          · subst h0
            obtain ⟨hn25, hL⟩ := HL.out.lay hC (by omega) hlj HF.out HX.out
            have HL2 : Hid (Filled C f t n i (j + 1) (giveF f' i j 1 1 (n' + 1)) (updS t' (n' + 1) sl0) (n' + 1)) := hL
            clear hL
            go_wp2_with (first | (refine wpList_load_row rfl 51 (.tmp 1) rfl w.heap.size rfl 51 (gridA R C n' f' t') (0, 0) _ HG.out Try.underlying51 rfl (grid_infoA _ _ _ _ _) ?_) | (go_at_call 56; refine (lay_any R C n' f' t' i j 1 1 sl0 _ (by omega) (by omega) hn25).mono ?_; rintro e w4 ⟨rfl, hb4⟩) | (refine wpList_store_row rfl 51 (.tmp 1) (.tmp 26) rfl w.heap.size (gridA R C (n' + 1) (giveF f' i j 1 1 (n' + 1)) (updS t' (n' + 1) sl0)) rfl rfl 51 _ (HG.out.below hb4 (by omega)) (grid_infoA _ _ _ _ _) (by rw [gridA_size, gridA_size]) (gridA_one _ _ _ _ _) ?_))
            go_roundw
            case rel => exact ⟨j + 1, _, _, n' + 1, by omega, by go_num, HL2.out, RowAt.setRow (HG.out.below hb4 (by omega)) _, RowAt.setRowOther (HZ.out.below hb4 zl) _ _ (by omega), below_row (HB.out.trans (hb4.mono (by omega))) (Nat.le_refl _) _⟩
            case measure => simp [intOf]; omega
          · have n0 : ((x : Int) == 0) = false := by simp; omega
            have HL2 : Hid (Filled C f t n i (j + 1) f' t' n') := HL.out.skip hC hlj HF.out (by rw [HX.out]; exact h0)
            go_wp2_with fail
            go_roundw
            case rel => exact ⟨j + 1, f', t', n', by omega, by go_num, HL2.out, HG.out, HZ.out, HB.out⟩
            case measure => simp [intOf]; omega
        · clear hfl hg hz hb
          go_wp2_with fail
          go_roundw
          case rel =>
            have hh := HL.out
            rw [show j = C from by omega] at hh
            exact ⟨i + 1, f', t', n', by omega, by go_num, hh.row, HG.out, HZ.out, HB.out⟩
          case measure => simp [intOf]; omega
    · have hid : i = R := by omega
      subst hid
      go_wp2_with (first | (refine wpList_load_row rfl 51 (.tmp 1) rfl w.heap.size rfl 51 (gridA i C n' f' t') (0, 0) _ HG.out Try.underlying51 rfl (grid_infoA _ _ _ _ _) ?_) | (refine wpList_store_row rfl 51 (.tmp 2) (.tmp 29) rfl (w.heap.size + 1) (gridA i C n' f' t') rfl rfl 51 _ HZ.out (grid_infoA _ _ _ _ _) (by rw [gridA_size, gridA_size]) (gridA_one _ _ _ _ _) ?_))
      refine bodyPost_ret (v := .agg (gridA i C n' f' t')) (results_cell_row (p := 2) (ty := 51) rfl _ _ (w.heap.size + 1) 51 _ _ _ rfl (RowAt.setRow HZ.out _) Try.underlying51 rfl (grid_infoA _ _ _ _ _)) rfl ⟨⟨f', t', n', rfl, HL.out⟩, ?_⟩
      exact below_row HB.out (by omega) _
end Go.Proofs.Yteghidjbcpmfbaa
namespace Go.Proofs.Yteghidjbcpmfbaa
open Go.RowKit

/-- What filling up leaves: what was of a cell stays, each other square has a number of its own. -/
def FillP (C : Nat) (f : Nat → Nat) (n I : Nat) (f2 : Nat → Nat) : Prop :=
  (∀ a b, vis I 0 C a b → f (a * 5 + b) ≠ 0 → f2 (a * 5 + b) = f (a * 5 + b)) ∧ (∀ a b, vis I 0 C a b → f (a * 5 + b) = 0 → n < f2 (a * 5 + b)) ∧
  (∀ a b a' b', vis I 0 C a b → vis I 0 C a' b' → f (a * 5 + b) = 0 → f2 (a * 5 + b) = f2 (a' * 5 + b') → a = a' ∧ b = b')
theorem Filled.fillP {C : Nat} {f f' : Nat → Nat} {t t' : Nat → Sl} {n n' I : Nat} (h : Filled C f t n I 0 f' t' n') : FillP C f n I f' := by
  obtain ⟨h1, h2, h3, h4, h5, h6, h7, h8, h9⟩ := h
  exact ⟨h6, fun a b hv h0 => (h7 a b hv h0).1, h8⟩
theorem fillP_any (C n I : Nat) (f : Nat → Nat) (hC : C ≤ 5) (hn : n ≤ 25) (hf : ∀ s, f s ≤ n) : FillP C f n I (fun s => if f s = 0 then 100 + s else f s) := by
  refine ⟨fun a b _ h0 => if_neg h0, fun a b _ h0 => ?_, fun a b a' b' hv hv' h0 e => ?_⟩
  · simp only [h0, if_true]
    omega
  · simp only [h0, if_true] at e
    have h1 := hf (a' * 5 + b')
    unfold vis at hv hv'
    split at e <;> omega
/-- A cell when a row is put in. -/
def inC (at' : Int) (x : Cl) : Cl := if at' ≤ x.1 then (x.1 + 1, x.2.1, x.2.2.1, x.2.2.2.1, x.2.2.2.2) else if at' < x.1 + x.2.2.1 then (x.1, x.2.1, x.2.2.1 + 1, x.2.2.2.1, x.2.2.2.2) else x
/-- Whether a cell goes through the new row at a column. -/
def overB (at' : Int) (x : Cl) (c : Int) : Bool := decide (x.1 < at' ∧ at' < x.1 + x.2.2.1 ∧ x.2.1 ≤ c ∧ c < x.2.1 + x.2.2.2.1)
def takenB (at' : Int) (l : List Cl) (c : Int) : Bool := l.any (fun x => overB at' x c)
def newI (at' C : Int) (l : List Cl) : List Cl := ((List.range C.toNat).filter (fun c : Nat => !takenB at' l c)).map (fun c : Nat => (at', (c : Int), 1, 1, []))
def inM (at' C : Int) (l : List Cl) : List Cl := l.map (inC at') ++ newI at' C l
def inL (at' C : Int) (l : List Cl) : List Cl := sortC (inM at' C l)
/-- Whether a row can be put in. -/
def rowInB (R C : Int) (l : List Cl) (t' : Int) : Bool := okB R C l && decide (0 ≤ t' ∧ t' ≤ R) && decide (R < 5)
theorem inC_txt (at' : Int) (x : Cl) : (inC at' x).2.2.2.2 = x.2.2.2.2 := by
  unfold inC
  split
  · rfl
  · split <;> rfl
section
variable {R C : Nat} {l : List Cl}
theorem inF_at (f h : Nat → Nat) (a p q : Nat) (hq : q < 5) : inF R a f h (p * 5 + q) = if p = a then h q else if a < p ∧ p ≤ R then f ((p - 1) * 5 + q) else f (p * 5 + q) := by
  unfold inF copyF
  rw [show (p * 5 + q) / 5 = p by omega, show (p * 5 + q) % 5 = q by omega]
  by_cases h1 : p = a
  · rw [if_pos h1, if_pos h1]
  · rw [if_neg h1, if_neg h1]
    by_cases h2 : a < p ∧ p ≤ R
    · rw [if_pos h2, if_pos h2, show p * 5 + q - 5 = (p - 1) * 5 + q by omega]
    · rw [if_neg h2, if_neg h2]
theorem thr_iff (f : Nat → Nat) (a q m : Nat) : thrF R a f q = m + 1 ↔ a ≠ 0 ∧ a ≠ R ∧ f ((a - 1) * 5 + q) = m + 1 ∧ f (a * 5 + q) = m + 1 := by
  unfold thrF
  by_cases h1 : a = 0 ∨ a = R
  · rw [if_pos h1]
    omega
  · rw [if_neg h1]
    by_cases h2 : f ((a - 1) * 5 + q) = f (a * 5 + q)
    · rw [if_pos h2]
      omega
    · rw [if_neg h2]
      omega
/-- A square has the number m + 1 just if it is of cell m. -/
theorem in_iff (h : okB R C l = true) (a m p q : Nat) (ha : a ≤ R) (hm : m < l.length) (hp : p < R + 1) (hq : q < C) : inF R a (numF l l.length) (thrF R a (numF l l.length)) (p * 5 + q) = m + 1 ↔ inB (inC a (l.getD m cl0)) p q = true := by
  obtain ⟨hR, hC, _, _⟩ := gridP_of_okB h
  obtain ⟨r, b, d, g, e, h1, h2, h3, h4⟩ := cell_nat h m hm
  rw [inF_at _ _ a p q (by omega)]
  have hn : ∀ p, numF l l.length (p * 5 + q) = m + 1 ↔ r ≤ p ∧ p < r + d ∧ b ≤ q ∧ q < b + g := by
    intro p
    rw [num_iff h p q m hq, e, inB_cell]
    exact ⟨fun hh => hh.2, fun hh => ⟨hm, hh⟩⟩
  have hrhs : inB (inC a (l.getD m cl0)) p q = true ↔ (if a ≤ r then r + 1 ≤ p ∧ p < r + 1 + d else if a < r + d then r ≤ p ∧ p < r + (d + 1) else r ≤ p ∧ p < r + d) ∧ b ≤ q ∧ q < b + g := by
    generalize (l.getD m cl0).2.2.2.2 = t at e
    rw [e]
    unfold inC
    simp only
    by_cases c1 : a ≤ r
    · rw [if_pos (show (a : Int) ≤ (r : Int) by omega), if_pos c1]
      simp only [inB, decide_eq_true_eq]
      omega
    · rw [if_neg (show ¬ (a : Int) ≤ (r : Int) by omega), if_neg c1]
      by_cases c2 : a < r + d
      · rw [if_pos (show (a : Int) < (r : Int) + (d : Int) by omega), if_pos c2]
        simp only [inB, decide_eq_true_eq]
        omega
      · rw [if_neg (show ¬ (a : Int) < (r : Int) + (d : Int) by omega), if_neg c2]
        simp only [inB, decide_eq_true_eq]
        omega
  rw [hrhs]
  by_cases hpa : p = a
  · rw [if_pos hpa, thr_iff, hn, hn]
    subst hpa
    by_cases c1 : p ≤ r
    · rw [if_pos c1]; omega
    · rw [if_neg c1]
      by_cases c2 : p < r + d
      · rw [if_pos c2]; omega
      · rw [if_neg c2]; omega
  · rw [if_neg hpa]
    by_cases hap : a < p ∧ p ≤ R
    · rw [if_pos hap, hn]
      by_cases c1 : a ≤ r
      · rw [if_pos c1]; omega
      · rw [if_neg c1]
        by_cases c2 : a < r + d
        · rw [if_pos c2]; omega
        · rw [if_neg c2]; omega
    · rw [if_neg hap, hn]
      by_cases c1 : a ≤ r
      · rw [if_pos c1]; omega
      · rw [if_neg c1]
        by_cases c2 : a < r + d
        · rw [if_pos c2]; omega
        · rw [if_neg c2]; omega
theorem inF_le (a k : Nat) : inF R a (numF l l.length) (thrF R a (numF l l.length)) k ≤ l.length := by
  unfold inF copyF thrF
  have h1 := numF_le l l.length (k - 5)
  have h2 := numF_le l l.length k
  have h3 := numF_le l l.length (a * 5 + k % 5)
  split
  · split
    · omega
    · split <;> omega
  · split <;> omega
theorem in_shape (h : okB R C l = true) (a m : Nat) (hm : m < l.length) : ∃ (r b d g : Nat) (t : List Sg), inC a (l.getD m cl0) = ((r : Int), (b : Int), (d : Int), (g : Int), t) ∧ 1 ≤ d ∧ 1 ≤ g ∧ r + d ≤ R + 1 ∧ b + g ≤ C := by
  obtain ⟨r, b, d, g, e, h1, h2, h3, h4⟩ := cell_nat h m hm
  generalize (l.getD m cl0).2.2.2.2 = t at e
  rw [e]
  unfold inC
  simp only
  by_cases c1 : (a : Int) ≤ (r : Int)
  · rw [if_pos c1]
    exact ⟨r + 1, b, d, g, t, by simp, h1, h2, by omega, h4⟩
  · rw [if_neg c1]
    by_cases c2 : (a : Int) < (r : Int) + (d : Int)
    · rw [if_pos c2]
      exact ⟨r, b, d + 1, g, t, by simp, by omega, h2, by omega, h4⟩
    · rw [if_neg c2]
      exact ⟨r, b, d, g, t, rfl, h1, h2, by omega, h4⟩
/-- The new row's squares through which no cell goes have no number. -/
theorem in_zero (h : okB R C l = true) (a q : Nat) (ha : a ≤ R) (hq : q < C) : inF R a (numF l l.length) (thrF R a (numF l l.length)) (a * 5 + q) = 0 ↔ takenB a l q = false := by
  have key : (∃ m, m < l.length ∧ inF R a (numF l l.length) (thrF R a (numF l l.length)) (a * 5 + q) = m + 1) ↔ takenB a l q = true := by
    unfold takenB
    rw [List.any_eq_true]
    constructor
    · rintro ⟨m, hm, e⟩
      refine ⟨_, getD_mem hm, ?_⟩
      rw [in_iff h a m a q ha hm (by omega) hq] at e
      obtain ⟨r, b, d, g, e2, h1, h2, h3, h4⟩ := cell_nat h m hm
      generalize (l.getD m cl0).2.2.2.2 = t at e2
      rw [e2] at e ⊢
      unfold inC at e
      unfold overB
      simp only [decide_eq_true_eq] at e ⊢
      by_cases c1 : (a : Int) ≤ (r : Int)
      · rw [if_pos c1] at e
        simp only [inB, decide_eq_true_eq] at e
        omega
      · rw [if_neg c1] at e
        by_cases c2 : (a : Int) < (r : Int) + (d : Int)
        · rw [if_pos c2] at e
          simp only [inB, decide_eq_true_eq] at e
          omega
        · rw [if_neg c2] at e
          simp only [inB, decide_eq_true_eq] at e
          omega
    · rintro ⟨x, hx, ho⟩
      obtain ⟨m, hm, e⟩ := List.getElem_of_mem hx
      rw [← getD_get hm] at e
      subst e
      refine ⟨m, hm, ?_⟩
      rw [in_iff h a m a q ha hm (by omega) hq]
      obtain ⟨r, b, d, g, e2, h1, h2, h3, h4⟩ := cell_nat h m hm
      generalize (l.getD m cl0).2.2.2.2 = t at e2
      rw [e2] at ho ⊢
      unfold overB at ho
      unfold inC
      simp only [decide_eq_true_eq] at ho ⊢
      rw [if_neg (by omega), if_pos (by omega)]
      simp only [inB, decide_eq_true_eq]
      omega
  have hle := inF_le (R := R) (l := l) a (a * 5 + q)
  rw [← Bool.not_eq_true, ← key]
  constructor
  · rintro e ⟨m, _, e2⟩
    omega
  · intro hno
    rcases Nat.eq_zero_or_pos (inF R a (numF l l.length) (thrF R a (numF l l.length)) (a * 5 + q)) with h0 | h0
    · exact h0
    · exact absurd ⟨_, show inF R a (numF l l.length) (thrF R a (numF l l.length)) (a * 5 + q) - 1 < l.length by omega, by omega⟩ hno
theorem in_zero_row (h : okB R C l = true) (a p q : Nat) (ha : a ≤ R) (hp : p < R + 1) (hq : q < C) (h0 : inF R a (numF l l.length) (thrF R a (numF l l.length)) (p * 5 + q) = 0) : p = a := by
  obtain ⟨hR, hC, _, ht⟩ := gridP_of_okB h
  rcases Nat.lt_trichotomy p a with h1 | h1 | h1
  · rw [inF_at _ _ a p q (by omega), if_neg (by omega), if_neg (by omega)] at h0
    have := (ht p q (by unfold vis; simp; omega)).1
    omega
  · exact h1
  · rw [inF_at _ _ a p q (by omega), if_neg (by omega), if_pos (by omega)] at h0
    have := (ht (p - 1) q (by unfold vis; simp; omega)).1
    omega
/-- Every number is still there. -/
theorem in_used (h : okB R C l = true) (a : Nat) (ha : a ≤ R) (hR4 : R ≤ 4) : ∀ k, 1 ≤ k → k ≤ l.length → ∃ s, s < 25 ∧ inF R a (numF l l.length) (thrF R a (numF l l.length)) s = k := by
  obtain ⟨_, hC, _, _⟩ := gridP_of_okB h
  intro k h1 h2
  obtain ⟨r, b, d, g, t, e, q1, q2, q3, q4⟩ := in_shape h a (k - 1) (by omega)
  refine ⟨r * 5 + b, by omega, ?_⟩
  have := (in_iff h a (k - 1) r b ha (by omega) (by omega) (by omega)).2 (by rw [e, inB_cell]; omega)
  omega
variable {f2 : Nat → Nat}
theorem in_numC (h : okB R C l = true) (a m : Nat) (ha : a ≤ R) (hm : m < l.length) (hF : FillP C (inF R a (numF l l.length) (thrF R a (numF l l.length))) l.length (R + 1) f2) : NumC (R + 1) C f2 (inC a (l.getD m cl0)) (m + 1) := by
  obtain ⟨r, b, d, g, tx, e, q1, q2, q3, q4⟩ := in_shape h a m hm
  refine ⟨r, b, d, g, tx, e, q1, q2, q3, q4, fun p q hp hq => ?_⟩
  have key := in_iff h a m p q ha hm hp hq
  rw [e, inB_cell] at key
  rw [← key]
  obtain ⟨h6, h7, h8⟩ := hF
  have hv : vis (R + 1) 0 C p q := by unfold vis; omega
  by_cases h0 : inF R a (numF l l.length) (thrF R a (numF l l.length)) (p * 5 + q) = 0
  · have := h7 p q hv h0
    omega
  · rw [h6 p q hv h0]
theorem new_numC (h : okB R C l = true) (a c : Nat) (ha : a ≤ R) (hc : c < C) (ht : takenB a l c = false) (hF : FillP C (inF R a (numF l l.length) (thrF R a (numF l l.length))) l.length (R + 1) f2) : NumC (R + 1) C f2 ((a : Int), (c : Int), 1, 1, []) (f2 (a * 5 + c)) := by
  refine ⟨a, c, 1, 1, [], rfl, Nat.le_refl _, Nat.le_refl _, by omega, by omega, fun p q hp hq => ?_⟩
  obtain ⟨h6, h7, h8⟩ := hF
  have h0 := (in_zero h a c ha hc).2 ht
  constructor
  · intro e
    have := h8 a c p q (by unfold vis; omega) (by unfold vis; omega) h0 e.symm
    omega
  · intro hh
    obtain rfl : p = a := by omega
    obtain rfl : q = c := by omega
    rfl
theorem newI_mem {a : Nat} {x : Cl} : x ∈ newI a C l ↔ ∃ c : Nat, c < C ∧ takenB a l c = false ∧ x = ((a : Int), (c : Int), 1, 1, []) := by
  unfold newI
  simp only [List.mem_map, List.mem_filter, List.mem_range, Int.toNat_natCast, Bool.not_eq_true']
  constructor
  · rintro ⟨c, ⟨h1, h2⟩, rfl⟩
    exact ⟨c, h1, h2, rfl⟩
  · rintro ⟨c, h1, h2, rfl⟩
    exact ⟨c, ⟨h1, h2⟩, rfl⟩
theorem tiles_in (h : okB R C l = true) (a : Nat) (ha : a ≤ R) (hF : FillP C (inF R a (numF l l.length) (thrF R a (numF l l.length))) l.length (R + 1) f2) : TilesM (R + 1) C f2 (inM a C l) := by
  refine tilesM_of ?_ ?_ ?_
  · intro x hx
    rcases List.mem_append.1 hx with hx | hx
    · obtain ⟨y, hy, rfl⟩ := List.mem_map.1 hx
      obtain ⟨m, hm, e⟩ := List.getElem_of_mem hy
      rw [← getD_get hm] at e
      subst e
      exact ⟨m + 1, in_numC h a m ha hm hF⟩
    · obtain ⟨c, hc, ht, rfl⟩ := newI_mem.1 hx
      exact ⟨_, new_numC h a c ha hc ht hF⟩
  · intro p q hp hq
    by_cases h0 : inF R a (numF l l.length) (thrF R a (numF l l.length)) (p * 5 + q) = 0
    · obtain rfl := in_zero_row h a p q ha hp hq h0
      refine ⟨((p : Int), (q : Int), 1, 1, []), List.mem_append.2 (.inr (newI_mem.2 ⟨q, hq, (in_zero h p q ha hq).1 h0, rfl⟩)), ?_⟩
      simp [inB]
      omega
    · have hle := inF_le (R := R) (l := l) a (p * 5 + q)
      obtain ⟨m, hm⟩ : ∃ m, inF R a (numF l l.length) (thrF R a (numF l l.length)) (p * 5 + q) = m + 1 := ⟨_, (Nat.succ_pred h0).symm⟩
      have hml : m < l.length := by omega
      exact ⟨_, List.mem_append.2 (.inl (List.mem_map.2 ⟨_, getD_mem hml, rfl⟩)), (in_iff h a m p q ha hml hp hq).1 hm⟩
  · unfold inM
    rw [List.pairwise_append]
    refine ⟨?_, ?_, ?_⟩
    · rw [List.pairwise_map, List.pairwise_iff_getElem]
      intro i k hi hk hik
      rw [← getD_get hi, ← getD_get hk]
      exact ⟨i + 1, k + 1, by omega, in_numC h a i ha hi hF, in_numC h a k ha hk hF⟩
    · unfold newI
      rw [List.pairwise_map]
      have hnd : ((List.range (C : Int).toNat).filter (fun c : Nat => !takenB a l c)).Pairwise (fun x y => x ≠ y) := List.Pairwise.filter _ List.nodup_range
      refine List.Pairwise.imp_of_mem ?_ hnd
      intro c c' hc hc' hne
      simp only [List.mem_filter, List.mem_range, Int.toNat_natCast, Bool.not_eq_true'] at hc hc'
      refine ⟨_, _, ?_, new_numC h a c ha hc.1 hc.2 hF, new_numC h a c' ha hc'.1 hc'.2 hF⟩
      intro e
      obtain ⟨h6, h7, h8⟩ := hF
      exact hne (h8 a c a c' (by unfold vis; omega) (by unfold vis; omega) ((in_zero h a c ha hc.1).2 hc.2) e).2
    · intro x hx y hy
      obtain ⟨z, hz, rfl⟩ := List.mem_map.1 hx
      obtain ⟨m, hm, e⟩ := List.getElem_of_mem hz
      rw [← getD_get hm] at e
      subst e
      obtain ⟨c, hc, ht, rfl⟩ := newI_mem.1 hy
      refine ⟨m + 1, _, ?_, in_numC h a m ha hm hF, new_numC h a c ha hc ht hF⟩
      obtain ⟨h6, h7, h8⟩ := hF
      have := h7 a c (by unfold vis; omega) ((in_zero h a c ha hc).2 ht)
      omega
end
/-- No more cells than squares. -/
theorem TilesM.few {R C : Nat} {f : Nat → Nat} {M : List Cl} (h : TilesM R C f M) (hR : R ≤ 5) (hC : C ≤ 5) : M.length ≤ 25 := by
  have := pigeon (fun s => s) 25 (M.map (fun x => stR x * 5 + stC x)) (by
    rw [List.nodup_iff_pairwise_ne, List.pairwise_map]
    refine List.Pairwise.imp_of_mem ?_ h.apart
    intro x y hx hy hne e
    obtain ⟨a, b, d, g, t, rfl, h1, h2, h3, h4, -⟩ := h.cell x hx
    obtain ⟨a', b', d', g', t', rfl, h1', h2', h3', h4', -⟩ := h.cell y hy
    simp only [stR, stC, Int.toNat_natCast] at e
    exact hne ⟨by simp only; omega, by simp only; omega⟩) (by
    intro x hx
    obtain ⟨y, hy, rfl⟩ := List.mem_map.1 hx
    obtain ⟨a, b, d, g, t, rfl, h1, h2, h3, h4, -⟩ := h.cell y hy
    exact ⟨_, by simp only [stR, stC, Int.toNat_natCast]; omega, rfl⟩)
  simpa using this
end Go.Proofs.Yteghidjbcpmfbaa
namespace Go.Proofs.Yteghidjbcpmfbaa
open Go.RowKit

theorem ok_txtI {R C : Int} {l : List Cl} (h : okB R C l = true) : ∀ x ∈ l, textB x.2.2.2.2 = true := by
  intro x hx
  obtain ⟨k, hk, e⟩ := List.getElem_of_mem hx
  have := (stepB_of ((gridP_of_okB h).2.2.1 k hk)).2.2
  rw [show l.getD k cl0 = x by rw [← e]; simp [List.getD, hk]] at this
  exact this
theorem tiles_in_any {R C : Nat} {l : List Cl} (h : okB R C l = true) (a : Nat) (ha : a ≤ R) : ∃ f2, TilesM (R + 1) C f2 (inM a C l) := by
  obtain ⟨hR, hC, _, _⟩ := gridP_of_okB h
  exact ⟨_, tiles_in h a ha (fillP_any C l.length (R + 1) _ (by omega) (ok_small h).1 (fun s => inF_le a s))⟩
theorem ok_in {R C t' : Int} {l : List Cl} (h : rowInB R C l t' = true) : okB (R + 1) C (inL t' C l) = true := by
  simp only [rowInB, Bool.and_eq_true, decide_eq_true_eq] at h
  obtain ⟨⟨h1, h2⟩, h3⟩ := h
  obtain ⟨hR, hC, _, _⟩ := gridP_of_okB h1
  obtain ⟨R, rfl⟩ : ∃ R' : Nat, R = R' := ⟨R.toNat, by omega⟩
  obtain ⟨C, rfl⟩ : ∃ C' : Nat, C = C' := ⟨C.toNat, by omega⟩
  obtain ⟨p, rfl⟩ : ∃ p : Nat, t' = p := ⟨t'.toNat, by omega⟩
  obtain ⟨f2, ht⟩ := tiles_in_any h1 p (by omega)
  rw [show (R : Int) + 1 = ((R + 1 : Nat) : Int) by omega]
  refine okB_sort ht (by omega) (by omega) (ht.few (by omega) (by omega)) ?_
  intro x hx
  rcases List.mem_append.1 hx with hx | hx
  · obtain ⟨y, hy, rfl⟩ := List.mem_map.1 hx
    rw [inC_txt]
    exact ok_txtI h1 _ hy
  · obtain ⟨c, _, _, rfl⟩ := newI_mem.1 hx
    rfl
theorem small_in {R C : Int} {l : List Cl} {t' : Int} : rowInB R C l t' = true → (inL t' C l).length ≤ 50 ∧ ∀ x ∈ inL t' C l, x.2.2.2.2.length ≤ 24 := by
  intro h
  obtain ⟨h1, h2⟩ := ok_small (ok_in h)
  exact ⟨by omega, h2⟩
end Go.Proofs.Yteghidjbcpmfbaa
namespace Go.Proofs.Yteghidjbcpmfbaa
open Go.RowKit

set_option maxRecDepth 100000 in
set_option maxHeartbeats 8000000 in
theorem implTableRowIn_any (R C t' : Int) (a : Option Addr) (n cap : Nat) (l : List Cl) (w : World) (h : Tab w a n cap l) :
    Calls Try.prog 12 #[.agg #[.int .i64 R, .int .i64 C, .slice a n cap], .int .i64 t'] w fun z w' => TabRes w.heap.size (rowInB R C l t') (R + 1) C (inL t' C l) z w' ∧ Below w.heap.size w w' := by
  have H : Hid (Tab w a n cap l) := h
  clear h
  obtain ⟨ok, HX⟩ : ∃ x, Hid (okB R C l = x) := ⟨_, rfl⟩
  go_enter Try.func12, Try.ntmps12
  go_upto_region 1 with fail
  have B0 : Below w.heap.size w ((w.alloc (.cells #[.int .i64 R, .int .i64 C, .slice a n cap] 28)).alloc (.cells #[.int .i64 0, .int .i64 0, .slice none 0 0] 28)) := ((Below.refl _ _).alloc (Nat.le_refl _) _).alloc (by simp) _
  have G0 : RowAt ((w.alloc (.cells #[.int .i64 R, .int .i64 C, .slice a n cap] 28)).alloc (.cells #[.int .i64 0, .int .i64 0, .slice none 0 0] 28)) w.heap.size #[.int .i64 R, .int .i64 C, .slice a n cap] 28 := (rowAt_new w _ _).alloc _
  have G1 : RowAt ((w.alloc (.cells #[.int .i64 R, .int .i64 C, .slice a n cap] 28)).alloc (.cells #[.int .i64 0, .int .i64 0, .slice none 0 0] 28)) (w.heap.size + 1) #[.int .i64 0, .int .i64 0, .slice none 0 0] 28 := by
    have := rowAt_new (w.alloc (.cells #[.int .i64 R, .int .i64 C, .slice a n cap] 28)) #[.int .i64 0, .int .i64 0, .slice none 0 0] 28
    simpa using this
  have HT : Hid (Tab ((w.alloc (.cells #[.int .i64 R, .int .i64 C, .slice a n cap] 28)).alloc (.cells #[.int .i64 0, .int .i64 0, .slice none 0 0] 28)) a n cap l) := H.out.below B0
  generalize ((w.alloc (.cells #[.int .i64 R, .int .i64 C, .slice a n cap] 28)).alloc (.cells #[.int .i64 0, .int .i64 0, .slice none 0 0] 28)) = v at B0 G0 G1 HT ⊢
  have k0 : v.cell? ⟨w.heap.size, 0, none⟩ = some (.int .i64 R) := G0.cell 0
  have k1 : v.cell? ⟨w.heap.size, 1, none⟩ = some (.int .i64 C) := G0.cell 1
  have k2 : v.cell? ⟨w.heap.size, 2, none⟩ = some (.slice a n cap) := G0.cell 2
  have z0 := G0.lt
  have z1 := G1.lt
  have s0 := B0.size
  have HG0 : Hid (RowAt v w.heap.size #[.int .i64 R, .int .i64 C, .slice a n cap] 28) := G0
  have HG1 : Hid (RowAt v (w.heap.size + 1) #[.int .i64 0, .int .i64 0, .slice none 0 0] 28) := G1
  have HB0 : Hid (Below w.heap.size w v) := B0
  clear G0 G1 B0
  cases ok
  · go_upto_region 2 with (first | (go_at_call 32; refine (gridOf_is HX.out HT.out).mono ?_; rintro e w1 ⟨hres, hb1⟩; rcases hres.symm with ⟨hno, -⟩ | ⟨-, rfl⟩; exact absurd hno (by simp)) | (rw [← grid_zero]; refine wpList_store_row rfl 51 (.tmp 6) (.tmp 11) rfl w1.heap.size (gridA 0 0 0 (fun _ => 0) (fun _ => sl0)) rfl rfl 51 _ (gridAt_new _ _ _ _ _ _) (grid_infoA _ _ _ _ _) (by rw [gridA_size]) (gridA_one _ _ _ _ _) ?_))
    have s1 := hb1.size
    have B2 : Below v.heap.size v ((w1.alloc (.cells (gridA 0 0 0 (fun _ => 0) (fun _ => sl0)) 51)).setRow w1.heap.size (gridA 0 0 0 (fun _ => 0) (fun _ => sl0))) := below_row (hb1.alloc s1 _) s1 _
    generalize ((w1.alloc (.cells (gridA 0 0 0 (fun _ => 0) (fun _ => sl0)) 51)).setRow w1.heap.size (gridA 0 0 0 (fun _ => 0) (fun _ => sl0))) = v2 at B2 ⊢
    have HG2 : Hid (RowAt v2 (w.heap.size + 1) #[.int .i64 0, .int .i64 0, .slice none 0 0] 28) := HG1.out.below B2 z1
    have HNB : Hid (rowInB R C l t' = false) := by
      show rowInB R C l t' = false
      simp only [rowInB, HX.out, Bool.false_and]
    clear k0 k1 k2
    go_wp2_with ((refine wpList_store_row rfl 28 (.tmp 4) (.tmp 32) rfl (w.heap.size + 1) #[.int .i64 0, .int .i64 0, .slice none 0 0] rfl rfl 28 _ HG2.out tab_info rfl (cells3_one _ _ _ _ _) ?_))
    refine bodyPost_ret (v := .tuple #[.agg #[.int .i64 0, .int .i64 0, .slice none 0 0], .bool false]) ?_ rfl ⟨.inl ⟨HNB.out, rfl⟩, below_row (HB0.out.trans (B2.mono s0)) (by omega) _⟩
    rw [results_cell_tmp rfl]
    simp [asAddr, Result.andThen, run_tabOf (RowAt.setRow HG2.out #[.int .i64 0, .int .i64 0, .slice none 0 0])]

  · obtain ⟨hR, hC, hst, -⟩ := gridP_of_okB HX.out
    obtain ⟨R, rfl⟩ : ∃ R' : Nat, R = R' := ⟨R.toNat, by omega⟩
    obtain ⟨C, rfl⟩ : ∃ C' : Nat, C = C' := ⟨C.toNat, by omega⟩
    have hn25 : l.length ≤ 25 := step_le (l := l) (K := l.length) (R := R) (C := C) (by omega) (by omega) hst
    have HST : Hid (∀ k, k < l.length → (l.getD k cl0).2.2.2.2.length ≤ 24) := fun k hk => by
      have := (stepB_of (hst k hk)).2.2
      simp only [textB, Bool.and_eq_true, decide_eq_true_eq] at this
      exact this.1
    clear hst
    go_upto_region 2 with (first | (go_at_call 32; refine (gridOf_is HX.out HT.out).mono ?_; rintro e w1 ⟨(⟨hno, -⟩ | ⟨-, t, rfl, ht1⟩), hb1⟩; exact absurd hno (by simp)) | (rw [← grid_zero]; refine wpList_store_row rfl 51 (.tmp 6) (.tmp 11) rfl w1.heap.size (gridA R C l.length (numF l l.length) t) rfl rfl 51 _ (gridAt_new _ _ _ _ _ _) (grid_infoA _ _ _ _ _) (by rw [gridA_size, gridA_size]) (gridA_one _ _ _ _ _) ?_))
    have s1 := hb1.size
    have B2 : Below v.heap.size v ((w1.alloc (.cells (gridA 0 0 0 (fun _ => 0) (fun _ => sl0)) 51)).setRow w1.heap.size (gridA R C l.length (numF l l.length) t)) := below_row (hb1.alloc s1 _) s1 _
    have B3 : Below w1.heap.size w1 ((w1.alloc (.cells (gridA 0 0 0 (fun _ => 0) (fun _ => sl0)) 51)).setRow w1.heap.size (gridA R C l.length (numF l l.length) t)) := below_row ((Below.refl _ _).alloc (Nat.le_refl _) _) (Nat.le_refl _) _
    have HG : Hid (GridAt ((w1.alloc (.cells (gridA 0 0 0 (fun _ => 0) (fun _ => sl0)) 51)).setRow w1.heap.size (gridA R C l.length (numF l l.length) t)) w1.heap.size R C l.length (numF l l.length) t) := RowAt.setRow (gridAt_new _ _ _ _ _ _) _
    generalize ((w1.alloc (.cells (gridA 0 0 0 (fun _ => 0) (fun _ => sl0)) 51)).setRow w1.heap.size (gridA R C l.length (numF l l.length) t)) = v2 at B2 B3 HG ⊢
    have HTx : Hid (∀ i, i < l.length → Txt v2 (t (i + 1)).1 (t (i + 1)).2.1 (t (i + 1)).2.2 (l.getD i cl0).2.2.2.2) := fun i hi => (ht1 i hi).below B3
    have HG2 : Hid (RowAt v2 (w.heap.size + 1) #[.int .i64 0, .int .i64 0, .slice none 0 0] 28) := HG1.out.below B2 z1
    have q0 : v2.cell? ⟨w.heap.size, 0, none⟩ = some (.int .i64 R) := (HG0.out.below B2 z0).cell 0
    have s2 := B2.size
    clear k0 k1 k2 ht1 hb1 B3
    obtain ⟨N, HN⟩ : ∃ N, Hid (l.length = N) := ⟨_, rfl⟩
    obtain ⟨f, HF⟩ : ∃ f, Hid (numF l l.length = f) := ⟨_, rfl⟩
    rw [HF.out] at HG
    rw [HN.out] at HG hn25
    by_cases hR2 : ¬ R < 5
    · have HS0 : Hid (sizeB ((R : Int) + 1) = false) := decide_eq_false (by omega)
      have HNB : Hid (rowInB R C l t' = false) := by
        show rowInB R C l t' = false
        simp only [rowInB, Bool.and_eq_false_iff, decide_eq_false_iff_not]
        omega
      go_wp2_with (first | (go_at_call 33; refine (sizeOk_is HS0.out _).mono ?_; rintro e w9 ⟨rfl, hw9⟩; subst w9) | (refine wpList_store_row rfl 28 (.tmp 4) (.tmp 32) rfl (w.heap.size + 1) #[.int .i64 0, .int .i64 0, .slice none 0 0] rfl rfl 28 _ HG2.out tab_info rfl (cells3_one _ _ _ _ _) ?_))
      refine bodyPost_ret (v := .tuple #[.agg #[.int .i64 0, .int .i64 0, .slice none 0 0], .bool false]) ?_ rfl ⟨.inl ⟨HNB.out, rfl⟩, below_row (HB0.out.trans (B2.mono s0)) (by omega) _⟩
      rw [results_cell_tmp rfl]
      simp [asAddr, Result.andThen, run_tabOf (RowAt.setRow HG2.out #[.int .i64 0, .int .i64 0, .slice none 0 0])]
    have HS0 : Hid (sizeB ((R : Int) + 1) = true) := decide_eq_true (by omega)
    by_cases ht0 : t' < 0
    · have HNB : Hid (rowInB R C l t' = false) := by
        show rowInB R C l t' = false
        simp only [rowInB, Bool.and_eq_false_iff, decide_eq_false_iff_not]
        omega
      go_wp2_with (first | (go_at_call 33; refine (sizeOk_is HS0.out _).mono ?_; rintro e w9 ⟨rfl, hw9⟩; subst w9) | (refine wpList_store_row rfl 28 (.tmp 4) (.tmp 32) rfl (w.heap.size + 1) #[.int .i64 0, .int .i64 0, .slice none 0 0] rfl rfl 28 _ HG2.out tab_info rfl (cells3_one _ _ _ _ _) ?_))
      refine bodyPost_ret (v := .tuple #[.agg #[.int .i64 0, .int .i64 0, .slice none 0 0], .bool false]) ?_ rfl ⟨.inl ⟨HNB.out, rfl⟩, below_row (HB0.out.trans (B2.mono s0)) (by omega) _⟩
      rw [results_cell_tmp rfl]
      simp [asAddr, Result.andThen, run_tabOf (RowAt.setRow HG2.out #[.int .i64 0, .int .i64 0, .slice none 0 0])]
    by_cases ht1 : (R : Int) < t'
    · have HNB : Hid (rowInB R C l t' = false) := by
        show rowInB R C l t' = false
        simp only [rowInB, Bool.and_eq_false_iff, decide_eq_false_iff_not]
        omega
      go_wp2_with (first | (go_at_call 33; refine (sizeOk_is HS0.out _).mono ?_; rintro e w9 ⟨rfl, hw9⟩; subst w9) | (refine wpList_store_row rfl 28 (.tmp 4) (.tmp 32) rfl (w.heap.size + 1) #[.int .i64 0, .int .i64 0, .slice none 0 0] rfl rfl 28 _ HG2.out tab_info rfl (cells3_one _ _ _ _ _) ?_))
      refine bodyPost_ret (v := .tuple #[.agg #[.int .i64 0, .int .i64 0, .slice none 0 0], .bool false]) ?_ rfl ⟨.inl ⟨HNB.out, rfl⟩, below_row (HB0.out.trans (B2.mono s0)) (by omega) _⟩
      rw [results_cell_tmp rfl]
      simp [asAddr, Result.andThen, run_tabOf (RowAt.setRow HG2.out #[.int .i64 0, .int .i64 0, .slice none 0 0])]
    obtain ⟨p, rfl⟩ : ∃ p : Nat, t' = p := ⟨t'.toNat, by omega⟩
    have hp : p ≤ R := by omega
    have HYB : Hid (rowInB R C l p = true) := by
      show rowInB R C l p = true
      simp only [rowInB, HX.out, Bool.true_and, Bool.and_eq_true, decide_eq_true_eq]
      omega
    have HB2 : Hid (Below v.heap.size v v2) := B2
    clear B2
    have hR4 : R ≤ 4 := by omega
    have HFL : Hid (∀ s, inF R p f (thrF R p f) s ≤ N) := fun s => by rw [← HF.out, ← HN.out]; exact inF_le p s
    have HFU : Hid (∀ k, 1 ≤ k → k ≤ N → ∃ s, s < 25 ∧ inF R p f (thrF R p f) s = k) := by
      show ∀ k, 1 ≤ k → k ≤ N → ∃ s, s < 25 ∧ inF R p f (thrF R p f) s = k
      rw [← HF.out, ← HN.out]
      exact in_used HX.out p hp hR4
    go_wp2_with (first | (go_at_call 33; refine (sizeOk_is HS0.out _).mono ?_; rintro e w9 ⟨rfl, hw9⟩; subst w9) | (refine wpList_load_row rfl 51 (.tmp 6) rfl w1.heap.size rfl 51 (gridA R C N f t) (0, 0) _ HG.out Try.underlying51 rfl (grid_infoA _ _ _ _ _) ?_) | (go_at_call 34; refine (rowIn_any R C N p f t _ hp hR4).mono ?_; rintro e w3 ⟨rfl, hb3⟩) | (go_at_call 35; refine (fillUp_any (R + 1) C N (inF R p f (thrF R p f)) t _ (by omega) (by omega) hn25 HFL.out HFU.out).mono ?_; rintro e w5 ⟨⟨f2, t2, n2, rfl, hF2⟩, hb5⟩))
    have hF3 : Filled C (inF R p (numF l l.length) (thrF R p (numF l l.length))) t l.length (R + 1) 0 f2 t2 n2 := by rw [HF.out, HN.out]; exact hF2
    have hFP := hF3.fillP
    have htl := tiles_in HX.out p hp hFP
    have hrep : Rep (R + 1) C f2 (inL p C l) := rep_sort htl
    have hlen2 : (inL p C l).length ≤ 25 := by
      show (sortC (inM p C l)).length ≤ 25
      rw [(sortC_perm _).length_eq]
      exact htl.few (by omega) (by omega)
    have hle : ∀ k, f2 k ≤ 25 := fun k => Nat.le_trans (hF2.2.2.1 k) hF2.2.1
    have ht : ∀ k, k < (inL p C l).length → Txt w5 (t2 (f2 (stR ((inL p C l).getD k cl0) * 5 + stC ((inL p C l).getD k cl0)))).1 (t2 (f2 (stR ((inL p C l).getD k cl0) * 5 + stC ((inL p C l).getD k cl0)))).2.1 (t2 (f2 (stR ((inL p C l).getD k cl0) * 5 + stC ((inL p C l).getD k cl0)))).2.2 ((inL p C l).getD k cl0).2.2.2.2 ∧ ((inL p C l).getD k cl0).2.2.2.2.length ≤ 1048576 := by
      intro k hk
      have hmem := (sortC_perm (inM p C l)).mem_iff.1 (getD_mem hk)
      rcases List.mem_append.1 hmem with hx | hx
      · obtain ⟨y, hy, e⟩ := List.mem_map.1 hx
        obtain ⟨m, hm, e'⟩ := List.getElem_of_mem hy
        rw [← getD_get hm] at e'
        subst e'
        have e2 := (in_numC HX.out p m hp hm hFP).start
        have e3 : ((inL p C l).getD k cl0).2.2.2.2 = (l.getD m cl0).2.2.2.2 := by
          show ((sortC (inM p C l)).getD k cl0).2.2.2.2 = _
          rw [← e, inC_txt]
        rw [e] at e2
        have e4 : f2 (stR ((inL p C l).getD k cl0) * 5 + stC ((inL p C l).getD k cl0)) = m + 1 := e2
        have hmN : m + 1 ≤ N := by have := HN.out; omega
        rw [e3, e4, hF2.2.2.2.1 (m + 1) hmN]
        have hL := HST.out m hm
        exact ⟨((HTx.out m hm).below hb3).below hb5, by omega⟩
      · obtain ⟨c, hc, htk, e⟩ := newI_mem.1 hx
        have e1 : (inL p C l).getD k cl0 = ((p : Int), (c : Int), 1, 1, []) := e
        rw [e1]
        simp only [stR, stC, Int.toNat_natCast]
        have h0 := (in_zero HX.out p c hp hc).2 htk
        have := (hF3.2.2.2.2.2.2.1 p c (by unfold vis; omega) h0).2
        rw [this]
        exact ⟨⟨rfl, Nat.le_refl _, Nat.zero_le _, .inl rfl⟩, by simp⟩
    refine (table_any (R + 1) C n2 f2 t2 (inL p C l) _ (by omega) (by omega) hle hrep hlen2 ht).mono ?_
    rintro e w4 ⟨⟨a', c', rs, rfl, hO⟩, hb4⟩
    have s3 := hb3.size
    have s5 := hb5.size
    have s4 := hb4.size
    have HG4 : Hid (RowAt w4 (w.heap.size + 1) #[.int .i64 0, .int .i64 0, .slice none 0 0] 28) := ((HG2.out.below hb3 (by omega)).below hb5 (by omega)).below hb4 (by omega)
    have HO : Hid (OwnT w4 w5.heap.size (.slice a' (inL p C l).length c') rs (inL p C l)) := hO
    obtain ⟨X, HXX⟩ : ∃ X, Hid (((R + 1 : Nat) : Int) = X) := ⟨_, rfl⟩
    obtain ⟨M, HM⟩ : ∃ M, Hid ((inL p C l).length = M) := ⟨_, rfl⟩
    rw [HXX.out, HM.out]
    rw [HM.out] at HO
    clear hO hrep ht hlen2 hle hF2 hF3 hFP htl
    go_wp2_with (refine wpList_store_row rfl 28 (.tmp 4) (.tmp 37) rfl (w.heap.size + 1) #[.int .i64 X, .int .i64 C, .slice a' M c'] rfl rfl 28 _ HG4.out tab_info rfl (cells3_one _ _ _ _ _) ?_)
    have bF : Below w.heap.size w w4 := (((HB0.out.trans (HB2.out.mono s0)).trans (hb3.mono (by omega))).trans (hb5.mono (by omega))).trans (hb4.mono (by omega))
    refine bodyPost_ret (v := .tuple #[.agg #[.int .i64 X, .int .i64 C, .slice a' M c'], .bool true]) ?_ rfl ⟨.inr ⟨HYB.out, a', c', rs, ?_, ?_⟩, below_row bF (by omega) _⟩
    · rw [results_cell_tmp rfl]
      simp [asAddr, Result.andThen, run_tabOf (RowAt.setRow HG4.out #[.int .i64 X, .int .i64 C, .slice a' M c'])]
    · rw [HM.out, show (R : Int) + 1 = X by rw [← HXX.out]; omega]
    · rw [HM.out]
      exact OwnT.less (B' := w5.heap.size) ⟨own_row HO.out.1 _ _ (fun e => by have := (own_lt HO.out.1.row e).1; omega), HO.out.2.rowLow _ _ (by omega)⟩ (by omega)
end Go.Proofs.Yteghidjbcpmfbaa
namespace Go.Proofs.Yteghidjbcpmfbaa
open Go.RowKit

set_option maxRecDepth 100000 in
set_option maxHeartbeats 4000000 in
theorem l2Copy_any (R C : Int) (a : Option Addr) (n cap : Nat) (l : List Cl) (w : World) (h : Tab w a n cap l) (hl : l.length ≤ 1000000) (ht : ∀ k, k < l.length → (l.getD k cl0).2.2.2.2.length ≤ 1000000) :
    Calls Try.prog 29 #[.agg #[.int .i64 R, .int .i64 C, .slice a n cap]] w fun z w' => (∃ a' c' rs, z = .returned (.agg #[.int .i64 R, .int .i64 C, .slice a' l.length c']) ∧ OwnT w' w.heap.size (.slice a' l.length c') rs l) ∧ Below w.heap.size w w' := by
  obtain ⟨i0, hi, hz0, hz1, hz2⟩ := info_parts Try.info44
  have H : Hid (Tab w a n cap l) := h
  have HTL : Hid (∀ k, k < l.length → (l.getD k cl0).2.2.2.2.length ≤ 1000000) := ht
  obtain ⟨hn, hc, hm, -⟩ := h
  unfold maxLen at hm
  have HN : Hid (n = l.length) := hn
  have hn6 : n ≤ 1000000 := by omega
  clear ht hn
  go_enter Try.func29, Try.ntmps29
  go_upto_region 1 with fail
  have B0 : Below w.heap.size w ((w.alloc (.cells #[.int .i64 R, .int .i64 C, .slice a n cap] 28)).alloc (.cells #[.int .i64 0, .int .i64 0, .slice none 0 0] 28)) := ((Below.refl _ _).alloc (Nat.le_refl _) _).alloc (by simp) _
  have G0 : RowAt ((w.alloc (.cells #[.int .i64 R, .int .i64 C, .slice a n cap] 28)).alloc (.cells #[.int .i64 0, .int .i64 0, .slice none 0 0] 28)) w.heap.size #[.int .i64 R, .int .i64 C, .slice a n cap] 28 := (rowAt_new w _ _).alloc _
  have G1 : RowAt ((w.alloc (.cells #[.int .i64 R, .int .i64 C, .slice a n cap] 28)).alloc (.cells #[.int .i64 0, .int .i64 0, .slice none 0 0] 28)) (w.heap.size + 1) #[.int .i64 0, .int .i64 0, .slice none 0 0] 28 := by
    have := rowAt_new (w.alloc (.cells #[.int .i64 R, .int .i64 C, .slice a n cap] 28)) #[.int .i64 0, .int .i64 0, .slice none 0 0] 28
    simpa using this
  generalize ((w.alloc (.cells #[.int .i64 R, .int .i64 C, .slice a n cap] 28)).alloc (.cells #[.int .i64 0, .int .i64 0, .slice none 0 0] 28)) = v at B0 G0 G1 ⊢
  have q0 : v.cell? ⟨w.heap.size, 0, none⟩ = some (.int .i64 R) := G0.cell 0
  have q1 : v.cell? ⟨w.heap.size, 1, none⟩ = some (.int .i64 C) := G0.cell 1
  go_upto_region 2 with fail
  have B1 : Below v.heap.size v (v.alloc (.cells #[.int .i64 R, .int .i64 C, .slice none 0 0] 28)) := (Below.refl _ _).alloc (Nat.le_refl _) _
  have G2 : RowAt (v.alloc (.cells #[.int .i64 R, .int .i64 C, .slice none 0 0] 28)) v.heap.size #[.int .i64 R, .int .i64 C, .slice none 0 0] 28 := rowAt_new _ _ _
  generalize (v.alloc (.cells #[.int .i64 R, .int .i64 C, .slice none 0 0] 28)) = v0 at B1 G2 ⊢
  have z0 := G0.lt
  have z1 := G1.lt
  have z2 := G2.lt
  have s01 := B0.size
  clear q0 q1
  go_wp2_with fail
  go_loopw [4] (fun iv wr => ∃ (i : Nat) (rs : List Rw) (a' : Option Addr) (c' : Nat), i ≤ n ∧ iv = .int .i64 i ∧ RowAt wr v.heap.size #[.int .i64 R, .int .i64 C, .slice a' i c'] 28 ∧ OwnR wr v0.heap.size (.slice a' i c') rs ∧ TxtOwn wr v0.heap.size (Value.slice a' i c').ownBlock rs (l.take i) ∧ Below v.heap.size v wr ∧ v0.heap.size ≤ wr.heap.size) (fun iv _ => n - (intOf iv).toNat)
  case atStart => exact ⟨0, [], none, 0, Nat.zero_le _, rfl, G2, OwnR.nil _ _, TxtOwn.nil _ _ _, B1, Nat.le_refl _⟩
  case round =>
    clear G2 B1
    obtain ⟨i, rs, a', c', hin, rfl, hT, hO, hX, hb, hs⟩ := hrel
    have HTb : Hid (RowAt wr v.heap.size #[.int .i64 R, .int .i64 C, .slice a' i c'] 28) := hT
    have HO : Hid (OwnR wr v0.heap.size (.slice a' i c') rs) := hO
    have HXt : Hid (TxtOwn wr v0.heap.size (Value.slice a' i c').ownBlock rs (l.take i)) := hX
    have HB : Hid (Below v.heap.size v wr) := hb
    have HW : Hid (Below w.heap.size w wr) := B0.trans (hb.mono s01)
    have k2 : wr.cell? ⟨w.heap.size, 2, none⟩ = some (.slice a n cap) := (G0.below hb z0).cell 2
    clear hT hO hX hb
    by_cases hlt : i < n
    · have hil : i < l.length := by rw [← HN.out]; exact hlt
      rcases H.out.2.2.2 with e | ⟨b, off, rfl, hbw, hcl⟩
      · rw [e] at hil
        exact absurd hil (by simp)
      obtain ⟨c0, c1, c2, c3, ta, tn, tc, c4, htx⟩ := (hcl i hil).below HW.out hbw
      have htl := HTL.out i hil
      obtain ⟨⟨r, c, d, g, tx⟩, hx⟩ : ∃ x, x = l.getD i cl0 := ⟨_, rfl⟩
      rw [← hx] at c0 c1 c2 c3 htx htl
      simp only at c0 c1 c2 c3 htx htl
      have HX : Hid ((r, c, d, g, tx) = l.getD i cl0) := hx
      have HTX : Hid (Txt wr ta tn tc tx) := htx
      have HTN : Hid (tn = tx.length) := htx.1
      have htn6 : tn ≤ 1000000 := by rw [HTN.out]; exact htl
      clear hcl hx htx
      go_upto_region 6 with fail
      have bA : Below wr.heap.size wr (wr.alloc (.cells #[.int .i64 r, .int .i64 c, .int .i64 d, .int .i64 g, .slice ta tn tc] 44)) := (Below.refl _ _).alloc (Nat.le_refl _) _
      have RA : RowAt (wr.alloc (.cells #[.int .i64 r, .int .i64 c, .int .i64 d, .int .i64 g, .slice ta tn tc] 44)) wr.heap.size #[.int .i64 r, .int .i64 c, .int .i64 d, .int .i64 g, .slice ta tn tc] 44 := rowAt_new _ _ _
      clear c0 c1 c2 c3 c4 k2
      generalize (wr.alloc (.cells #[.int .i64 r, .int .i64 c, .int .i64 d, .int .i64 g, .slice ta tn tc] 44)) = w1 at bA RA ⊢
      have s1 := bA.size
      have lA := RA.lt
      have e4 : w1.cell? ⟨wr.heap.size, 4, none⟩ = some (.slice ta tn tc) := RA.cell 4
      have HRA : Hid (RowAt w1 wr.heap.size #[.int .i64 r, .int .i64 c, .int .i64 d, .int .i64 g, .slice ta tn tc] 44) := RA
      clear RA
      go_upto_region 7 with (at_builtin; refine wpList_append_txt rfl (.tmp 23) (.tmp 25) rfl wr.heap.size (.slice (some ⟨w1.heap.size, 0, none⟩) 0 0) 0 [] rfl (World.ownsRow_lit w1 #[] 0 (by omega) (by unfold maxLen; omega) rfl) ta tn tc tx rfl ((HTX.out.below bA).below ((Below.refl _ _).alloc (Nat.le_refl _) _)) (by omega) (by simp; omega) ?_; intro v' w2 hown hgrow; obtain ⟨p, q, rfl, -⟩ := Own.shape (show Own w2 wr.heap.size v' tx by (rw [Nat.zero_add, List.nil_append, HTN.out] at hown; exact hown)); have R2 := RowAt.grown (HRA.out.alloc _) hgrow (by simp [Value.ownBlock]; omega); have f4 : w2.cell? ⟨wr.heap.size, 4, none⟩ = some (.slice ta tn tc) := R2.cell 4; have f5 := R2.frozen 4)
      have hO2 : Own w2 wr.heap.size (.slice p tx.length q) tx := by
        rw [Nat.zero_add, List.nil_append, HTN.out] at hown
        exact hown
      have O3 : Own (w2.setCell ⟨wr.heap.size, 4, none⟩ (.slice p tx.length q)) wr.heap.size (.slice p tx.length q) tx := own_set hO2 _ _ (rowAt_ne R2 hO2.row (by decide))
      have R3 := R2.setCell 4 (.slice p tx.length q)
      have b3 : Below wr.heap.size wr (w2.setCell ⟨wr.heap.size, 4, none⟩ (.slice p tx.length q)) := ((bA.alloc s1 _).grown hgrow (by simp; omega) (fun k hk => by simp [Value.ownBlock] at hk; omega)).setCell (p := ⟨wr.heap.size, 4, none⟩) (Nat.le_refl _) (.slice p tx.length q)
      clear f4 f5 e4 hown hgrow R2 hO2 bA
      generalize (w2.setCell ⟨wr.heap.size, 4, none⟩ (.slice p tx.length q)) = w3 at O3 R3 b3 ⊢
      have s3 := b3.size
      have d0 : w3.cell? ⟨wr.heap.size, 0, none⟩ = some (.int .i64 r) := R3.cell 0
      have d1 : w3.cell? ⟨wr.heap.size, 1, none⟩ = some (.int .i64 c) := R3.cell 1
      have d2 : w3.cell? ⟨wr.heap.size, 2, none⟩ = some (.int .i64 d) := R3.cell 2
      have d3 : w3.cell? ⟨wr.heap.size, 3, none⟩ = some (.int .i64 g) := R3.cell 3
      have d4 : w3.cell? ⟨wr.heap.size, 4, none⟩ = some (.slice p tx.length q) := R3.cell 4
      have lv : v.heap.size < wr.heap.size := by omega
      have HT3 : Hid (RowAt w3 v.heap.size #[.int .i64 R, .int .i64 C, .slice a' i c'] 28) := HTb.out.below b3 lv
      have HO3 : Hid (OwnR w3 v0.heap.size (.slice a' i c') rs) := own_below HO.out b3
      have HX3 : Hid (TxtOwn w3 v0.heap.size (Value.slice a' i c').ownBlock rs (l.take i)) := HXt.out.below b3
      have HOw : Hid (Own w3 wr.heap.size (.slice p tx.length q) tx) := O3
      have HB3 : Hid (Below v.heap.size v w3) := HB.out.trans (b3.mono (by omega))
      have t2 : w3.cell? ⟨v.heap.size, 2, none⟩ = some (.slice a' i c') := HT3.out.cell 2
      clear R3 O3 b3
      go_wp2_with (at_builtin; refine wpList_append_own _ rfl (.tmp 29) (.tmp 31) 26 rfl v0.heap.size 44 i0 _ 5 56 Try.underlying26 hi hz0 hz1 hz2 rfl (by decide) (.slice a' i c') _ _ rfl (HO3.out.row.alloc _) ⟨w3.heap.size, 0, none⟩ 1 1 [.int .i64 r, .int .i64 c, .int .i64 d, .int .i64 g, .slice p tx.length q] rfl rfl (cell_five_new _ _ _ _ _ _ _) (five_oneCell _ _ _ _ _ _ _) (by unfold maxLen; omega) (by omega) (by simp; omega) ?_; intro v' w5 hown' hgrow _; obtain ⟨a5, c5, rfl, ho5, hb5⟩ := ownR_step (B := v0.heap.size) (w := w3) (s := (r, c, d, g, p, tx.length, q)) HO3.out (Below.refl _ _) (by omega) hown' hgrow; have R5 := RowAt.grown (HT3.out.alloc _) hgrow (fun e => by have := (own_lt HO3.out.row e).1; omega); have q2 : w5.cell? ⟨v.heap.size, 2, none⟩ = some (.slice a' i c') := R5.cell 2; have q3 := R5.frozen 2)
      go_roundw
      case rel =>
        have tO : Own w5 v0.heap.size (.slice p tx.length q) tx := own_grown (Own.alloc (own_less HOw.out (by omega)) _) hgrow (fun b hb => own_kinds HO3.out HOw.out (by decide) b hb)
        have t5 : TxtOwn w5 v0.heap.size (Value.slice a' i c').ownBlock rs (l.take i) := (HX3.out.below ((Below.refl _ _).alloc (Nat.le_refl _) _)).grown hgrow (fun k hk b hb => HX3.out.2.2.1 k hk b hb)
        have t6 := t5.snoc (C := wr.heap.size) (x := (r, c, d, g, p, tx.length, q)) (y := (r, c, d, g, tx)) ⟨rfl, rfl, rfl, rfl, tO⟩ (fun b hb => own_kinds HO3.out HOw.out (by decide) b hb) (fun k hk b hb => HXt.out.blockLt k hk b hb) (fun b hb => (own_lt HOw.out.row hb).1)
        rw [show l.take i ++ [(r, c, d, g, tx)] = l.take (i + 1) from by rw [List.take_succ_eq_append_getElem hil, HX.out]; simp [List.getD, hil]] at t6
        have B5 : Below v.heap.size v w5 := ((HB3.out).alloc (by omega) _).grown hgrow (by simp; omega) (fun k hk => by have := (own_lt HO3.out.row hk).1; omega)
        have s5 := hgrow.size
        simp at s5
        refine ⟨i + 1, _, a5, c5, by omega, by go_num, R5.setCell 2 (.slice a5 (i + 1) c5), own_set ho5 _ _ (fun e => by have := (own_lt ho5.row e).1; simp at this; omega), (t6.anew ho5).setLow _ _ (by simp; omega), B5.setCell (p := ⟨v.heap.size, 2, none⟩) (Nat.le_refl _) (.slice a5 (i + 1) c5), by simp [World.setCell]; omega⟩
      case measure => simp [intOf]; omega
    · have e : i = n := by omega
      subst e
      have k0 : wr.cell? ⟨v.heap.size, 0, none⟩ = some (.int .i64 R) := HTb.out.cell 0
      have k1 : wr.cell? ⟨v.heap.size, 1, none⟩ = some (.int .i64 C) := HTb.out.cell 1
      have k3 : wr.cell? ⟨v.heap.size, 2, none⟩ = some (.slice a' i c') := HTb.out.cell 2
      have HG1 : Hid (RowAt wr (w.heap.size + 1) #[.int .i64 0, .int .i64 0, .slice none 0 0] 28) := G1.below HB.out z1
      go_wp2_with (refine wpList_store_row rfl 28 (.tmp 2) (.tmp 34) rfl (w.heap.size + 1) #[.int .i64 R, .int .i64 C, .slice a' i c'] rfl rfl 28 _ HG1.out tab_info rfl (cells3_one _ _ _ _ _) ?_)
      have hX := HXt.out
      have hO := HO.out
      rw [HN.out] at hX hO
      rw [List.take_of_length_le (Nat.le_refl _)] at hX
      refine bodyPost_ret (v := .agg #[.int .i64 R, .int .i64 C, .slice a' i c']) (results_cell_row (p := 2) (ty := 28) rfl _ _ (w.heap.size + 1) 28 _ _ _ rfl (RowAt.setRow HG1.out _) Try.underlying28 rfl tab_info) rfl ⟨⟨a', c', rs, by rw [HN.out], ?_⟩, below_row (B0.trans (HB.out.mono s01)) (by omega) _⟩
      exact OwnT.less (B' := v0.heap.size) ⟨own_row hO _ _ (fun e => by have := (own_lt hO.row e).1; omega), hX.rowLow _ _ (by omega)⟩ (by omega)
end Go.Proofs.Yteghidjbcpmfbaa
namespace Go.Proofs.Yteghidjbcpmfbaa
open Go.RowKit

theorem ownR_empty (w : World) (B : Nat) (hB : B ≤ w.heap.size) : OwnR (w.alloc (.cells #[] 44)) B (.slice (some ⟨w.heap.size, 0, none⟩) 0 0) [] := World.ownsRow_lit w #[] 0 hB (by unfold maxLen; omega) rfl
theorem RwAt.below {w w' : World} {b o : Nat} {x : Rw} (h : RwAt w b o x) (hb : Below w.heap.size w w') (hlt : b < w.heap.size) : RwAt w' b o x := by
  obtain ⟨c0, c1, c2, c3, c4⟩ := h
  exact ⟨(hb.cell (p := ⟨b, _, none⟩) hlt).trans c0, (hb.cell (p := ⟨b, _, none⟩) hlt).trans c1, (hb.cell (p := ⟨b, _, none⟩) hlt).trans c2, (hb.cell (p := ⟨b, _, none⟩) hlt).trans c3, (hb.cell (p := ⟨b, _, none⟩) hlt).trans c4⟩
theorem Rws.below {w w' : World} {a : Option Addr} {n cap : Nat} {l : List Rw} (h : Rws w a n cap l) (hb : Below w.heap.size w w') : Rws w' a n cap l := by
  obtain ⟨h1, h2, h3, h4⟩ := h
  refine ⟨h1, h2, h3, ?_⟩
  rcases h4 with h4 | ⟨b, off, h5, h6, h7⟩
  · exact .inl h4
  · refine .inr ⟨b, off, h5, Nat.lt_of_lt_of_le h6 hb.size, fun k hk => ?_⟩
    obtain ⟨c0, c1, c2, c3, c4⟩ := h7 k hk
    exact ⟨(hb.cell (p := ⟨b, _, none⟩) h6).trans c0, (hb.cell (p := ⟨b, _, none⟩) h6).trans c1, (hb.cell (p := ⟨b, _, none⟩) h6).trans c2, (hb.cell (p := ⟨b, _, none⟩) h6).trans c3, (hb.cell (p := ⟨b, _, none⟩) h6).trans c4⟩

set_option maxRecDepth 100000 in
set_option maxHeartbeats 8000000 in
theorem l2Sort_any (a : Option Addr) (n cap : Nat) (rs : List Rw) (w : World) (h : Rws w a n cap rs) (hn : n ≤ 1000) :
    Calls Try.prog 30 #[.slice a n cap] w fun z w' => (∃ a' c', z = .returned (.slice a' n c') ∧ OwnR w' w.heap.size (.slice a' n c') (sortR rs)) ∧ Below w.heap.size w w' := by
  obtain ⟨i0, hi, hz0, hz1, hz2⟩ := info_parts Try.info44
  have H : Hid (Rws w a n cap rs) := h
  have HN : Hid (n = rs.length) := h.1
  have hcn := h.2.1
  have hcm := h.2.2.1
  unfold maxLen at hcm
  clear h
  go_enter Try.func30, Try.ntmps30
  go_wp2_with fail
  go_loopw [3, 4] (fun ov iv wr => ∃ (i : Nat) (ao : Option Addr) (co : Nat), i ≤ n ∧ iv = .int .i64 i ∧ ov = .slice ao i co ∧ OwnR wr w.heap.size (.slice ao i co) (sortR (rs.take i)) ∧ Below w.heap.size w wr) (fun _ iv _ => n - (intOf iv).toNat)
  case atStart => exact ⟨0, _, _, Nat.zero_le _, rfl, rfl, ownR_empty w _ (Nat.le_refl _), (Below.refl _ _).alloc (Nat.le_refl _) _⟩
  case round =>
    obtain ⟨i, ao, co, hin, rfl, rfl, ho, hb⟩ := hrel
    have HO : Hid (OwnR wr w.heap.size (.slice ao i co) (sortR (rs.take i))) := ho
    have HB : Hid (Below w.heap.size w wr) := hb
    have sz := hb.size
    have hco := ho.rws.2.1
    have hcom := ho.rws.2.2.1
    unfold maxLen at hcom
    clear ho hb
    by_cases hlt : i < n
    · obtain ⟨wi, rfl⟩ : ∃ wi, wi = wr := ⟨wr, rfl⟩
      have hir : i < rs.length := by rw [← HN.out]; exact hlt
      obtain ⟨⟨xr, xc, xd, xg, xa, xn, xq⟩, hx⟩ : ∃ x, x = rs.getD i rw0 := ⟨_, rfl⟩
      have HX : Hid ((xr, xc, xd, xg, xa, xn, xq) = rs.getD i rw0) := hx
      rcases H.out.2.2.2 with e | ⟨b, off, rfl, hbw, hcl⟩
      · rw [e] at hir
        exact absurd hir (by simp)
      have hxa : RwAt w b (off + i * 5) (xr, xc, xd, xg, xa, xn, xq) := by rw [hx]; exact hcl i hir
      have HXA : Hid (RwAt wi b (off + i * 5) (xr, xc, xd, xg, xa, xn, xq)) := hxa.below HB.out hbw
      have hbwi : b < wi.heap.size := by omega
      have HSL : Hid ((sortR (rs.take i)).length = i) := by
        show (sortR (rs.take i)).length = i
        rw [sortR_len, List.length_take]
        omega
      clear hx hcl hxa
      go_wp2_with fail
      go_loopw [5, 6, 7] (fun nv dv kv wr => ∃ (k m : Nat) (done : Bool) (next : List Rw) (an : Option Addr) (cn : Nat), k ≤ i ∧ kv = .int .i64 k ∧ dv = .bool done ∧ nv = .slice an m cn ∧ InsP (xr, xc, xd, xg, xa, xn, xq) (sortR (rs.take i)) k done next ∧ OwnR wr wi.heap.size (.slice an m cn) next ∧ Below wi.heap.size wi wr) (fun _ _ kv _ => i - (intOf kv).toNat)
      case atStart => exact ⟨0, 0, false, [], _, _, Nat.zero_le _, rfl, rfl, rfl, .inl ⟨rfl, by simp, by simp⟩, ownR_empty wi _ (Nat.le_refl _), (Below.refl _ _).alloc (Nat.le_refl _) _⟩
      case round =>
        obtain ⟨k, m, done, next, an, cn, hki', rfl, rfl, rfl, hI, hNx, hq⟩ := hrel
        have HI : Hid (InsP (xr, xc, xd, xg, xa, xn, xq) (sortR (rs.take i)) k done next) := hI
        have HNx : Hid (OwnR wr wi.heap.size (.slice an m cn) next) := hNx
        have HQ : Hid (Below wi.heap.size wi wr) := hq
        have hml := hI.len (by rw [HSL.out]; exact hki')
        have hm2 : m = next.length := hNx.len
        have hmi : m ≤ 1001 := by
          have : done.toNat ≤ 1 := by cases done <;> decide
          omega
        have hcn1 := hNx.rws.2.1
        have hcn2 := hNx.rws.2.2.1
        unfold maxLen at hcn2
        have sq := hq.size
        obtain ⟨x0, x1, x2, x3, x4⟩ := HXA.out.below hq hbwi
        simp only at x0 x1 x2 x3 x4
        clear hI hNx hq hml hm2
        by_cases hki : k < i
        · have hks : k < (sortR (rs.take i)).length := by rw [HSL.out]; exact hki
          obtain ⟨⟨yr, yc, yd, yg, ya, yn, yq⟩, hy⟩ : ∃ y, y = (sortR (rs.take i)).getD k rw0 := ⟨_, rfl⟩
          have HY : Hid ((yr, yc, yd, yg, ya, yn, yq) = (sortR (rs.take i)).getD k rw0) := hy
          rcases HO.out.rws.2.2.2 with e | ⟨bo, oo, rfl, hbo, hol⟩
          · rw [e] at hks
            exact absurd hks (by simp)
          have HYA : Hid (RwAt wi bo (oo + k * 5) (yr, yc, yd, yg, ya, yn, yq)) := by
            show RwAt wi bo (oo + k * 5) (yr, yc, yd, yg, ya, yn, yq)
            rw [hy]
            exact hol k hks
          obtain ⟨y0, y1, y2, y3, y4⟩ := HYA.out.below HQ.out hbo
          simp only at y0 y1 y2 y3 y4
          clear hy hol
          cases done
          · rcases (show (xr < yr) ∨ (yr < xr) ∨ (yr = xr ∧ xc < yc) ∨ (yr = xr ∧ yc ≤ xc) from by omega) with m0 | m0 | ⟨m0, m1⟩ | ⟨m0, m1⟩
            · go_wp2_with fail
              go_quiet (fail)
              have HO0 : Hid (OwnR (wr.drewN nq) wi.heap.size (.slice an m cn) next) := own_below HNx.out (below_drewN (Below.refl wr.heap.size wr) nq)
              go_wp2_with (first | (at_builtin; refine wpList_append_own _ rfl (.tmp 63) (.tmp 68) 26 rfl wi.heap.size 44 i0 _ 5 56 Try.underlying26 hi hz0 hz1 hz2 rfl (by decide) _ _ _ rfl (HO0.out.row.alloc _) ⟨_, 0, none⟩ 1 1 [.int .i64 xr, .int .i64 xc, .int .i64 xd, .int .i64 xg, .slice xa xn xq] rfl rfl (cell_five_new _ _ _ _ _ _ _) (five_oneCell _ _ _ _ _ _ _) (by unfold maxLen; omega) (by omega) (by first | omega | (simp; omega)) ?_; intro v' w5 hown' hgrow _; obtain ⟨aw5, cw5, rfl, how5, hbw5⟩ := ownR_step (B := wi.heap.size) (w := wi) (s := (xr, xc, xd, xg, xa, xn, xq)) HO0.out (below_drewN HQ.out nq) (by first | omega | (simp; omega)) hown' hgrow; have HO1 : Hid (OwnR w5 wi.heap.size (.slice aw5 (m + 1) cw5) (next ++ [(xr, xc, xd, xg, xa, xn, xq)])) := how5; have sw5 := hbw5.size; obtain ⟨o0, o1, o2, o3, o4⟩ := HYA.out.below hbw5 hbo; clear how5 hown' hgrow) | (at_builtin; refine wpList_append_own _ rfl (.tmp 70) (.tmp 75) 26 rfl wi.heap.size 44 i0 _ 5 56 Try.underlying26 hi hz0 hz1 hz2 rfl (by decide) _ _ _ rfl (HO1.out.row.alloc _) ⟨_, 0, none⟩ 1 1 [.int .i64 yr, .int .i64 yc, .int .i64 yd, .int .i64 yg, .slice ya yn yq] rfl rfl (cell_five_new _ _ _ _ _ _ _) (five_oneCell _ _ _ _ _ _ _) (by unfold maxLen; omega) (by omega) (by first | omega | (simp; omega)) ?_; intro v' w6 hown' hgrow _; obtain ⟨aw6, cw6, rfl, how6, hbw6⟩ := ownR_step (B := wi.heap.size) (w := wi) (s := (yr, yc, yd, yg, ya, yn, yq)) HO1.out hbw5 (by first | omega | (simp; omega)) hown' hgrow))
              go_roundw
              case rel => exact ⟨k + 1, m + 1 + 1, true, _, aw6, cw6, by omega, by go_num, rfl, rfl, by rw [HY.out]; exact HI.out.put (by rw [HSL.out]; exact hki) (by rw [← HY.out]; exact decide_eq_true (by simp only; omega)), how6, hbw6⟩
              case measure => simp [intOf]; omega
            · have n1 : decide (xr < yr) = false := by simp; omega
              have n2 : (yr == xr) = false := by simp; omega
              go_wp2_with fail
              go_quiet (fail)
              have HO0 : Hid (OwnR (wr.drewN nq) wi.heap.size (.slice an m cn) next) := own_below HNx.out (below_drewN (Below.refl wr.heap.size wr) nq)
              go_wp2_with (at_builtin; refine wpList_append_own _ rfl (.tmp 70) (.tmp 75) 26 rfl wi.heap.size 44 i0 _ 5 56 Try.underlying26 hi hz0 hz1 hz2 rfl (by decide) _ _ _ rfl (HO0.out.row.alloc _) ⟨_, 0, none⟩ 1 1 [.int .i64 yr, .int .i64 yc, .int .i64 yd, .int .i64 yg, .slice ya yn yq] rfl rfl (cell_five_new _ _ _ _ _ _ _) (five_oneCell _ _ _ _ _ _ _) (by unfold maxLen; omega) (by omega) (by first | omega | (simp; omega)) ?_; intro v' w5 hown' hgrow _; obtain ⟨aw5, cw5, rfl, how5, hbw5⟩ := ownR_step (B := wi.heap.size) (w := wi) (s := (yr, yc, yd, yg, ya, yn, yq)) HO0.out (below_drewN HQ.out nq) (by first | omega | (simp; omega)) hown' hgrow)
              go_roundw
              case rel => exact ⟨k + 1, m + 1, false, _, aw5, cw5, by omega, by go_num, rfl, rfl, by rw [HY.out]; exact HI.out.skip hks (by rw [← HY.out]; exact decide_eq_false (by simp only; omega)), how5, hbw5⟩
              case measure => simp [intOf]; omega
            · subst m0
              have n1 : decide (yr < yr) = false := by simp
              go_wp2_with fail
              go_quiet (fail)
              have HO0 : Hid (OwnR (wr.drewN nq) wi.heap.size (.slice an m cn) next) := own_below HNx.out (below_drewN (Below.refl wr.heap.size wr) nq)
              go_wp2_with (first | (at_builtin; refine wpList_append_own _ rfl (.tmp 63) (.tmp 68) 26 rfl wi.heap.size 44 i0 _ 5 56 Try.underlying26 hi hz0 hz1 hz2 rfl (by decide) _ _ _ rfl (HO0.out.row.alloc _) ⟨_, 0, none⟩ 1 1 [.int .i64 yr, .int .i64 xc, .int .i64 xd, .int .i64 xg, .slice xa xn xq] rfl rfl (cell_five_new _ _ _ _ _ _ _) (five_oneCell _ _ _ _ _ _ _) (by unfold maxLen; omega) (by omega) (by first | omega | (simp; omega)) ?_; intro v' w5 hown' hgrow _; obtain ⟨aw5, cw5, rfl, how5, hbw5⟩ := ownR_step (B := wi.heap.size) (w := wi) (s := (yr, xc, xd, xg, xa, xn, xq)) HO0.out (below_drewN HQ.out nq) (by first | omega | (simp; omega)) hown' hgrow; have HO1 : Hid (OwnR w5 wi.heap.size (.slice aw5 (m + 1) cw5) (next ++ [(yr, xc, xd, xg, xa, xn, xq)])) := how5; have sw5 := hbw5.size; obtain ⟨o0, o1, o2, o3, o4⟩ := HYA.out.below hbw5 hbo; clear how5 hown' hgrow) | (at_builtin; refine wpList_append_own _ rfl (.tmp 70) (.tmp 75) 26 rfl wi.heap.size 44 i0 _ 5 56 Try.underlying26 hi hz0 hz1 hz2 rfl (by decide) _ _ _ rfl (HO1.out.row.alloc _) ⟨_, 0, none⟩ 1 1 [.int .i64 yr, .int .i64 yc, .int .i64 yd, .int .i64 yg, .slice ya yn yq] rfl rfl (cell_five_new _ _ _ _ _ _ _) (five_oneCell _ _ _ _ _ _ _) (by unfold maxLen; omega) (by omega) (by first | omega | (simp; omega)) ?_; intro v' w6 hown' hgrow _; obtain ⟨aw6, cw6, rfl, how6, hbw6⟩ := ownR_step (B := wi.heap.size) (w := wi) (s := (yr, yc, yd, yg, ya, yn, yq)) HO1.out hbw5 (by first | omega | (simp; omega)) hown' hgrow))
              go_roundw
              case rel => exact ⟨k + 1, m + 1 + 1, true, _, aw6, cw6, by omega, by go_num, rfl, rfl, by rw [HY.out]; exact HI.out.put (by rw [HSL.out]; exact hki) (by rw [← HY.out]; exact decide_eq_true (Or.inr ⟨rfl, m1⟩)), how6, hbw6⟩
              case measure => simp [intOf]; omega
            · subst m0
              have n1 : decide (yr < yr) = false := by simp
              have n3 : decide (xc < yc) = false := by simp; omega
              go_wp2_with fail
              go_quiet (fail)
              have HO0 : Hid (OwnR (wr.drewN nq) wi.heap.size (.slice an m cn) next) := own_below HNx.out (below_drewN (Below.refl wr.heap.size wr) nq)
              go_wp2_with (at_builtin; refine wpList_append_own _ rfl (.tmp 70) (.tmp 75) 26 rfl wi.heap.size 44 i0 _ 5 56 Try.underlying26 hi hz0 hz1 hz2 rfl (by decide) _ _ _ rfl (HO0.out.row.alloc _) ⟨_, 0, none⟩ 1 1 [.int .i64 yr, .int .i64 yc, .int .i64 yd, .int .i64 yg, .slice ya yn yq] rfl rfl (cell_five_new _ _ _ _ _ _ _) (five_oneCell _ _ _ _ _ _ _) (by unfold maxLen; omega) (by omega) (by first | omega | (simp; omega)) ?_; intro v' w5 hown' hgrow _; obtain ⟨aw5, cw5, rfl, how5, hbw5⟩ := ownR_step (B := wi.heap.size) (w := wi) (s := (yr, yc, yd, yg, ya, yn, yq)) HO0.out (below_drewN HQ.out nq) (by first | omega | (simp; omega)) hown' hgrow)
              go_roundw
              case rel => exact ⟨k + 1, m + 1, false, _, aw5, cw5, by omega, by go_num, rfl, rfl, by rw [HY.out]; exact HI.out.skip hks (by rw [← HY.out]; exact decide_eq_false (by simp only; omega)), how5, hbw5⟩
              case measure => simp [intOf]; omega
          · go_wp2_with fail
            go_quiet (fail)
            have HO0 : Hid (OwnR (wr.drewN nq) wi.heap.size (.slice an m cn) next) := own_below HNx.out (below_drewN (Below.refl wr.heap.size wr) nq)
            go_wp2_with (at_builtin; refine wpList_append_own _ rfl (.tmp 70) (.tmp 75) 26 rfl wi.heap.size 44 i0 _ 5 56 Try.underlying26 hi hz0 hz1 hz2 rfl (by decide) _ _ _ rfl (HO0.out.row.alloc _) ⟨_, 0, none⟩ 1 1 [.int .i64 yr, .int .i64 yc, .int .i64 yd, .int .i64 yg, .slice ya yn yq] rfl rfl (cell_five_new _ _ _ _ _ _ _) (five_oneCell _ _ _ _ _ _ _) (by unfold maxLen; omega) (by omega) (by first | omega | (simp; omega)) ?_; intro v' w5 hown' hgrow _; obtain ⟨aw5, cw5, rfl, how5, hbw5⟩ := ownR_step (B := wi.heap.size) (w := wi) (s := (yr, yc, yd, yg, ya, yn, yq)) HO0.out (below_drewN HQ.out nq) (by first | omega | (simp; omega)) hown' hgrow)
            go_roundw
            case rel => exact ⟨k + 1, m + 1, true, _, aw5, cw5, by omega, by go_num, rfl, rfl, by rw [HY.out]; exact HI.out.on hks, how5, hbw5⟩
            case measure => simp [intOf]; omega
        · have e : k = i := by omega
          subst e
          have HIF : Hid (InsP (xr, xc, xd, xg, xa, xn, xq) (sortR (rs.take k)) (sortR (rs.take k)).length done next) := by
            show InsP (xr, xc, xd, xg, xa, xn, xq) (sortR (rs.take k)) (sortR (rs.take k)).length done next
            rw [HSL.out]
            exact HI.out
          have HST : Hid (sortR (rs.take (k + 1)) = insR (xr, xc, xd, xg, xa, xn, xq) (sortR (rs.take k))) := by
            show sortR (rs.take (k + 1)) = _
            rw [sortR_take rs k hir, HX.out]
          cases done
          · go_wp2_with (at_builtin; refine wpList_append_own _ rfl (.tmp 79) (.tmp 84) 26 rfl wi.heap.size 44 i0 _ 5 56 Try.underlying26 hi hz0 hz1 hz2 rfl (by decide) _ _ _ rfl (HNx.out.row.alloc _) ⟨_, 0, none⟩ 1 1 [.int .i64 xr, .int .i64 xc, .int .i64 xd, .int .i64 xg, .slice xa xn xq] rfl rfl (cell_five_new _ _ _ _ _ _ _) (five_oneCell _ _ _ _ _ _ _) (by unfold maxLen; omega) (by omega) (by first | omega | (simp; omega)) ?_; intro v' w5 hown' hgrow _; obtain ⟨a5, c5, rfl, ho5, hb5⟩ := ownR_step (B := wi.heap.size) (w := wi) (s := (xr, xc, xd, xg, xa, xn, xq)) HNx.out HQ.out (by first | omega | (simp; omega)) hown' hgrow)
            go_roundw
            case rel =>
              have e1 := HIF.out.fin0
              rw [e1, ← HST.out] at ho5
              have e2 := ho5.len
              rw [sortR_len, List.length_take] at e2
              have e3 : m + 1 = k + 1 := by omega
              rw [e3] at ho5 ⊢
              exact ⟨k + 1, a5, c5, by omega, by go_num, rfl, own_less ho5 (by omega), HB.out.trans (hb5.mono (by omega))⟩
            case measure => simp [intOf]; omega
          · go_wp2_with fail
            go_roundw
            case rel =>
              have e1 := HIF.out.fin
              have ho5 := HNx.out
              rw [e1, ← HST.out] at ho5
              have e2 := ho5.len
              rw [sortR_len, List.length_take] at e2
              have e3 : m = k + 1 := by omega
              subst e3
              exact ⟨k + 1, an, cn, by omega, by go_num, rfl, own_less ho5 (by omega), HB.out.trans (HQ.out.mono (by omega))⟩
            case measure => simp [intOf]; omega
    · have e : i = n := by omega
      subst e
      go_wp2_with fail
      go_ret
      have ho := HO.out
      rw [List.take_of_length_le (by rw [HN.out]; exact Nat.le_refl _)] at ho
      exact ⟨⟨ao, co, rfl, ho⟩, HB.out⟩
end Go.Proofs.Yteghidjbcpmfbaa
namespace Go.Proofs.Yteghidjbcpmfbaa
open Go.RowKit

/-- A row turned. -/
def turnR (x : Rw) : Rw := (x.2.1, x.1, x.2.2.2.1, x.2.2.1, x.2.2.2.2)
theorem TxtOwn.turn {w : World} {B : Nat} {q : Option Nat} {rs : List Rw} {l : List Cl} (h : TxtOwn w B q rs l) : TxtOwn w B q (rs.map turnR) (l.map turnC) := by
  obtain ⟨e, h1, h2, h3⟩ := h
  refine ⟨by simpa using e, fun k hk => ?_, fun k hk => ?_, fun i k hik hk => ?_⟩
  · have hk' : k < rs.length := by simpa using hk
    rw [map_getD turnR rs k rw0 rw0 hk', map_getD turnC l k cl0 cl0 (by omega)]
    obtain ⟨a0, a1, a2, a3, a4⟩ := h1 k hk'
    exact ⟨a1, a0, a3, a2, a4⟩
  · have hk' : k < rs.length := by simpa using hk
    rw [map_getD turnR rs k rw0 rw0 hk']
    exact h2 k hk'
  · have hk' : k < rs.length := by simpa using hk
    rw [map_getD turnR rs k rw0 rw0 hk', map_getD turnR rs i rw0 rw0 (by omega)]
    exact h3 i k hik hk'
theorem wpList_fieldCells {w : World} {ops : Array Oper} {rest : List Oper} {o : Oper} {a : Act} {Q : Exit → Act → World → Prop} (hgd : o.guard = none) (x : Operand) (ho : o.op = .field 28 x 2) (R C : Int) (p : Option Addr) (n c : Nat) (hx : a.eval x = .agg #[.int .i64 R, .int .i64 C, .slice p n c])
    (h : wpList Try.prog ops Q rest (a.put o.dst (.slice p n c)) w) : wpList Try.prog ops Q (o :: rest) a w := by
  refine wpList_plain hgd fun K hK => ?_
  have hr : (Instr.field 28 (.agg #[.int .i64 R, .int .i64 C, .slice p n c]) 2).run Try.prog w = .ok (.slice p n c) w := by
    simp [Instr.field, run_underlying Try.underlying28 w, part, asAgg, isAgg, run_underlying Try.underlying26 w]
  unfold Oper.wp execOp
  simp only [ho, hx, hr, Sem.run_bind, Sem.run_pure, Result.andThen_ok]
  exact hK _ _ h
set_option maxRecDepth 100000 in
set_option maxHeartbeats 8000000 in
theorem specTableTurn_any (R C : Int) (a : Option Addr) (n cap : Nat) (l : List Cl) (w : World) (h : Tab w a n cap l) :
    Calls Try.prog 41 #[.agg #[.int .i64 R, .int .i64 C, .slice a n cap]] w fun z w' => ((okB R C l = false ∧ z = .returned (.agg #[.int .i64 0, .int .i64 0, .slice none 0 0])) ∨ (okB R C l = true ∧ ∃ a' c' rs, z = .returned (.agg #[.int .i64 C, .int .i64 R, .slice a' l.length c']) ∧ OwnT w' w.heap.size (.slice a' l.length c') rs (turnL l))) ∧ Below w.heap.size w w' := by
  obtain ⟨i0, hi, hz0, hz1, hz2⟩ := info_parts Try.info44
  have H : Hid (Tab w a n cap l) := h
  clear h
  obtain ⟨ok, HX⟩ : ∃ x, Hid (okB R C l = x) := ⟨_, rfl⟩
  go_enter Try.func41, Try.ntmps41
  go_upto_region 1 with fail
  have B0 : Below w.heap.size w ((w.alloc (.cells #[.int .i64 R, .int .i64 C, .slice a n cap] 28)).alloc (.cells #[.int .i64 0, .int .i64 0, .slice none 0 0] 28)) := ((Below.refl _ _).alloc (Nat.le_refl _) _).alloc (by simp) _
  have G0 : RowAt ((w.alloc (.cells #[.int .i64 R, .int .i64 C, .slice a n cap] 28)).alloc (.cells #[.int .i64 0, .int .i64 0, .slice none 0 0] 28)) w.heap.size #[.int .i64 R, .int .i64 C, .slice a n cap] 28 := (rowAt_new w _ _).alloc _
  have G1 : RowAt ((w.alloc (.cells #[.int .i64 R, .int .i64 C, .slice a n cap] 28)).alloc (.cells #[.int .i64 0, .int .i64 0, .slice none 0 0] 28)) (w.heap.size + 1) #[.int .i64 0, .int .i64 0, .slice none 0 0] 28 := by
    have := rowAt_new (w.alloc (.cells #[.int .i64 R, .int .i64 C, .slice a n cap] 28)) #[.int .i64 0, .int .i64 0, .slice none 0 0] 28
    simpa using this
  have HT : Hid (Tab ((w.alloc (.cells #[.int .i64 R, .int .i64 C, .slice a n cap] 28)).alloc (.cells #[.int .i64 0, .int .i64 0, .slice none 0 0] 28)) a n cap l) := H.out.below B0
  generalize ((w.alloc (.cells #[.int .i64 R, .int .i64 C, .slice a n cap] 28)).alloc (.cells #[.int .i64 0, .int .i64 0, .slice none 0 0] 28)) = v at B0 G0 G1 HT ⊢
  have k0 : v.cell? ⟨w.heap.size, 0, none⟩ = some (.int .i64 R) := G0.cell 0
  have k1 : v.cell? ⟨w.heap.size, 1, none⟩ = some (.int .i64 C) := G0.cell 1
  have k2 : v.cell? ⟨w.heap.size, 2, none⟩ = some (.slice a n cap) := G0.cell 2
  have s0 := B0.size
  have z0 := G0.lt
  have z1 := G1.lt
  have HG0 : Hid (RowAt v w.heap.size #[.int .i64 R, .int .i64 C, .slice a n cap] 28) := G0
  have HG1 : Hid (RowAt v (w.heap.size + 1) #[.int .i64 0, .int .i64 0, .slice none 0 0] 28) := G1
  have HB0 : Hid (Below w.heap.size w v) := B0
  clear G0 G1 B0
  cases ok
  · go_wp2_with (first | (go_at_call 27; refine (specTableOk_any R C a n cap l _ HT.out).mono ?_; rw [HX.out]; rintro e w1 ⟨rfl, hb1⟩; have HG2 : Hid (RowAt w1 (w.heap.size + 1) #[.int .i64 0, .int .i64 0, .slice none 0 0] 28) := HG1.out.below hb1 z1) | (refine wpList_store_row rfl 28 (.tmp 2) (.tmp 10) rfl (w.heap.size + 1) #[.int .i64 0, .int .i64 0, .slice none 0 0] rfl rfl 28 _ HG2.out tab_info rfl (cells3_one _ _ _ _ _) ?_))
    refine bodyPost_ret (v := .agg #[.int .i64 0, .int .i64 0, .slice none 0 0]) (results_cell_row (p := 2) (ty := 28) rfl _ _ (w.heap.size + 1) 28 _ _ _ rfl (RowAt.setRow HG2.out _) Try.underlying28 rfl tab_info) rfl ⟨.inl ⟨HX.out, rfl⟩, below_row (HB0.out.trans (hb1.mono s0)) (by omega) _⟩
  · have hg := gridP_of_okB HX.out
    have hl25 : l.length ≤ 25 := (formB_of (show formB R C l = true by have := HX.out; simp only [okB, Bool.and_eq_true] at this; exact this.1)).2.2.1
    have HTL : Hid (∀ k, k < l.length → (l.getD k cl0).2.2.2.2.length ≤ 1000000) := fun k hk => by
      have := (stepB_of (hg.2.2.1 k hk)).2.2
      simp only [textB, Bool.and_eq_true, decide_eq_true_eq] at this
      omega
    have HN : Hid (n = l.length) := H.out.1
    clear hg
    go_upto_region 3 with (go_at_call 27; refine (specTableOk_any R C a n cap l _ HT.out).mono ?_; rw [HX.out]; rintro e w1 ⟨rfl, hb1⟩; have q0 := (hb1.cell (p := ⟨w.heap.size, 0, none⟩) z0).trans k0; have q1 := (hb1.cell (p := ⟨w.heap.size, 1, none⟩) z0).trans k1; have q2 := (hb1.cell (p := ⟨w.heap.size, 2, none⟩) z0).trans k2)
    clear k0 k1 k2
    have s1 := hb1.size
    go_upto_region 4 with fail
    have B2 : Below w1.heap.size w1 (w1.alloc (.cells #[.int .i64 C, .int .i64 R, .slice none 0 0] 28)) := (Below.refl _ _).alloc (Nat.le_refl _) _
    have G2 : RowAt (w1.alloc (.cells #[.int .i64 C, .int .i64 R, .slice none 0 0] 28)) w1.heap.size #[.int .i64 C, .int .i64 R, .slice none 0 0] 28 := rowAt_new _ _ _
    generalize (w1.alloc (.cells #[.int .i64 C, .int .i64 R, .slice none 0 0] 28)) = v2 at B2 G2 ⊢
    have z2 := G2.lt
    have s2 := B2.size
    have r0 := (B2.cell (p := ⟨w.heap.size, 0, none⟩) (by show w.heap.size < w1.heap.size; omega)).trans q0
    have r1 := (B2.cell (p := ⟨w.heap.size, 1, none⟩) (by show w.heap.size < w1.heap.size; omega)).trans q1
    have r2 := (B2.cell (p := ⟨w.heap.size, 2, none⟩) (by show w.heap.size < w1.heap.size; omega)).trans q2
    have HT2 : Hid (Tab v2 a n cap l) := (HT.out.below hb1).below B2
    clear q0 q1 q2
    go_upto_region 6 with (first | (go_at_call 29; refine (l2Copy_any R C a n cap l _ HT2.out (by omega) HTL.out).mono ?_; rintro e w2 ⟨⟨al, cl, rs, rfl, hOl⟩, hb2⟩) | (refine wpList_fieldCells rfl (.tmp 17) rfl R C al l.length cl rfl ?_))
    clear r0 r1 r2
    have s3 := hb2.size
    have G3 : RowAt w2 w1.heap.size #[.int .i64 C, .int .i64 R, .slice none 0 0] 28 := G2.below hb2 z2
    have B3 : Below w1.heap.size w1 w2 := B2.trans (hb2.mono s2)
    have HLB : Hid (∀ g, (Value.slice al l.length cl).ownBlock = some g → g < w2.heap.size) := fun g hg => (own_lt hOl.1.row hg).2
    have HLT : Hid (∀ k, k < rs.length → ∀ g, (rwT (rs.getD k rw0)).ownBlock = some g → g < w2.heap.size) := fun k hk g hg => hOl.2.blockLt k hk g hg
    have HRL : Hid (rs.length = l.length) := hOl.2.1
    obtain ⟨N, hN⟩ : ∃ N, l.length = N := ⟨_, rfl⟩
    have HNN : Hid (l.length = N) := hN
    rw [hN] at hOl hl25 HLB ⊢
    clear hN G2 B2 hb2
    go_wp2_with fail
    go_loopw [5] (fun iv wr => ∃ (i : Nat) (a' : Option Addr) (c' : Nat), i ≤ N ∧ iv = .int .i64 i ∧ RowAt wr w1.heap.size #[.int .i64 C, .int .i64 R, .slice a' i c'] 28 ∧ OwnR wr w2.heap.size (.slice a' i c') ((rs.take i).map turnR) ∧ OwnT wr v2.heap.size (.slice al N cl) rs l ∧ Below w1.heap.size w1 wr ∧ w2.heap.size ≤ wr.heap.size) (fun iv _ => N - (intOf iv).toNat)
    case atStart => exact ⟨0, none, 0, Nat.zero_le _, rfl, G3, OwnR.nil _ _, hOl, B3, Nat.le_refl _⟩
    case round =>
      clear G3 B3 hOl
      obtain ⟨i, a', c', hin, rfl, hT, hO, hL, hb, hs⟩ := hrel
      have HTb : Hid (RowAt wr w1.heap.size #[.int .i64 C, .int .i64 R, .slice a' i c'] 28) := hT
      have HO : Hid (OwnR wr w2.heap.size (.slice a' i c') ((rs.take i).map turnR)) := hO
      have HL : Hid (OwnT wr v2.heap.size (.slice al N cl) rs l) := hL
      have HB : Hid (Below w1.heap.size w1 wr) := hb
      have hcl := hL.1.rws.2.1
      have hcm := hL.1.rws.2.2.1
      unfold maxLen at hcm
      clear hT hO hL hb
      by_cases hlt : i < N
      · have hir : i < rs.length := by have := HRL.out; have := HNN.out; omega
        obtain ⟨⟨xr, xc, xd, xg, xa, xn, xq⟩, hx⟩ : ∃ x, x = rs.getD i rw0 := ⟨_, rfl⟩
        have HXr : Hid ((xr, xc, xd, xg, xa, xn, xq) = rs.getD i rw0) := hx
        rcases HL.out.1.rws.2.2.2 with e | ⟨b, off, rfl, hbw, hat⟩
        · rw [e] at hir
          exact absurd hir (by simp)
        have hxa : RwAt wr b (off + i * 5) (xr, xc, xd, xg, xa, xn, xq) := by rw [hx]; exact hat i hir
        obtain ⟨x0, x1, x2, x3, x4⟩ := hxa
        simp only at x0 x1 x2 x3 x4
        clear hx hat
        go_upto_region 9 with fail
        have bA : Below wr.heap.size wr (wr.alloc (.cells #[.int .i64 xr, .int .i64 xc, .int .i64 xd, .int .i64 xg, .slice xa xn xq] 44)) := (Below.refl _ _).alloc (Nat.le_refl _) _
        have RA : RowAt (wr.alloc (.cells #[.int .i64 xr, .int .i64 xc, .int .i64 xd, .int .i64 xg, .slice xa xn xq] 44)) wr.heap.size #[.int .i64 xr, .int .i64 xc, .int .i64 xd, .int .i64 xg, .slice xa xn xq] 44 := rowAt_new _ _ _
        clear x0 x1 x2 x3 x4
        generalize (wr.alloc (.cells #[.int .i64 xr, .int .i64 xc, .int .i64 xd, .int .i64 xg, .slice xa xn xq] 44)) = w3 at bA RA ⊢
        have s4 := bA.size
        have y0 : w3.cell? ⟨wr.heap.size, 0, none⟩ = some (.int .i64 xr) := RA.cell 0
        have y1 : w3.cell? ⟨wr.heap.size, 1, none⟩ = some (.int .i64 xc) := RA.cell 1
        have y2 : w3.cell? ⟨wr.heap.size, 2, none⟩ = some (.int .i64 xd) := RA.cell 2
        have y3 : w3.cell? ⟨wr.heap.size, 3, none⟩ = some (.int .i64 xg) := RA.cell 3
        have y4 : w3.cell? ⟨wr.heap.size, 4, none⟩ = some (.slice xa xn xq) := RA.cell 4
        have HT3 : Hid (RowAt w3 w1.heap.size #[.int .i64 C, .int .i64 R, .slice a' i c'] 28) := HTb.out.below bA (by omega)
        have HO3 : Hid (OwnR w3 w2.heap.size (.slice a' i c') ((rs.take i).map turnR)) := HO.out.below bA
        have HL3 : Hid (OwnT w3 v2.heap.size (.slice (some ⟨b, off, none⟩) N cl) rs l) := HL.out.below bA
        have HB3 : Hid (Below w1.heap.size w1 w3) := HB.out.trans (bA.mono (by omega))
        have t2 : w3.cell? ⟨w1.heap.size, 2, none⟩ = some (.slice a' i c') := HT3.out.cell 2
        have hci := HO3.out.rws.2.1
        have hcim := HO3.out.rws.2.2.1
        unfold maxLen at hcim
        clear bA RA
        go_wp2_with (at_builtin; refine wpList_append_own _ rfl (.tmp 30) (.tmp 42) 26 rfl w2.heap.size 44 i0 _ 5 56 Try.underlying26 hi hz0 hz1 hz2 rfl (by decide) (.slice a' i c') _ _ rfl (HO3.out.row.alloc _) ⟨w3.heap.size, 0, none⟩ 1 1 [.int .i64 xc, .int .i64 xr, .int .i64 xg, .int .i64 xd, .slice xa xn xq] rfl rfl (cell_five_new _ _ _ _ _ _ _) (five_oneCell _ _ _ _ _ _ _) (by unfold maxLen; omega) (by omega) (by simp; omega) ?_; intro v' w5 hown' hgrow _; obtain ⟨a5, c5, rfl, ho5, hb5⟩ := ownR_step (B := w2.heap.size) (w := w3) (s := (xc, xr, xg, xd, xa, xn, xq)) HO3.out (Below.refl _ _) (by omega) hown' hgrow; have R5 := RowAt.grown (HT3.out.alloc _) hgrow (fun e => by have := (own_lt HO3.out.row e).1; omega); have q2 : w5.cell? ⟨w1.heap.size, 2, none⟩ = some (.slice a' i c') := R5.cell 2; have q3 := R5.frozen 2)
        go_roundw
        case rel =>
          have hb6 : Below w3.heap.size w3 (w3.alloc (.cells #[.int .i64 xc, .int .i64 xr, .int .i64 xg, .int .i64 xd, .slice xa xn xq] 44)) := (Below.refl _ _).alloc (Nat.le_refl _) _
          have hL5 : OwnT w5 v2.heap.size (.slice (some ⟨b, off, none⟩) N cl) rs l := by
            have hL4 := HL3.out.below hb6
            refine ⟨own_grown hL4.1 hgrow (fun g hg e => ?_), hL4.2.grown hgrow (fun k hk g hg e => ?_)⟩
            · have p1 := HLB.out g hg
              have p2 := (own_lt HO3.out.row e).1
              omega
            · have p1 := HLT.out k hk g hg
              have p2 := (own_lt HO3.out.row e).1
              omega
          have B5 : Below w1.heap.size w1 w5 := ((HB3.out).alloc (by omega) _).grown hgrow (by simp; omega) (fun k hk => by have := (own_lt HO3.out.row hk).1; omega)
          have s5 := hgrow.size
          simp at s5
          refine ⟨i + 1, a5, c5, by omega, by go_num, R5.setCell 2 (.slice a5 (i + 1) c5), ?_, ?_, B5.setCell (p := ⟨w1.heap.size, 2, none⟩) (Nat.le_refl _) (.slice a5 (i + 1) c5), by simp [World.setCell]; omega⟩
          · rw [List.take_succ_eq_append_getElem hir, List.map_append, show [rs[i]].map turnR = [(xc, xr, xg, xd, xa, xn, xq)] from by
              rw [show rs[i] = (xr, xc, xd, xg, xa, xn, xq) from by rw [HXr.out]; simp [List.getD, hir]]
              rfl]
            exact own_set ho5 _ _ (fun e => by have := (own_lt ho5.row e).1; simp at this; omega)
          · exact ⟨own_set hL5.1 _ _ (fun e => by have := (own_lt hL5.1.row e).1; simp at this; omega), hL5.2.setLow _ _ (by simp; omega)⟩
        case measure => simp [intOf]; omega
      · have e : i = N := by omega
        subst e
        have hT := HO.out
        rw [List.take_of_length_le (by have := HRL.out; have := HNN.out; omega)] at hT
        have HO1 : Hid (OwnR wr w2.heap.size (.slice a' i c') (rs.map turnR)) := hT
        have k2 : wr.cell? ⟨w1.heap.size, 2, none⟩ = some (.slice a' i c') := HTb.out.cell 2
        clear hT
        go_upto_region 11 with (go_at_call 30; refine (l2Sort_any a' i c' (rs.map turnR) _ HO1.out.rws (by omega)).mono ?_; rintro e w3 ⟨⟨a3, c3, rfl, ho3⟩, hb3⟩; have R3 := HTb.out.below hb3 (by omega); have q2 : w3.cell? ⟨w1.heap.size, 2, none⟩ = some (.slice a' i c') := R3.cell 2; have q3 := R3.frozen 2)
        have sz3 := hb3.size
        have R4 : RowAt (w3.setCell ⟨w1.heap.size, 2, none⟩ (.slice a3 i c3)) w1.heap.size #[.int .i64 C, .int .i64 R, .slice a3 i c3] 28 := R3.setCell 2 (.slice a3 i c3)
        have B4 : Below w1.heap.size w1 (w3.setCell ⟨w1.heap.size, 2, none⟩ (.slice a3 i c3)) := (HB.out.trans (hb3.mono (by omega))).setCell (p := ⟨w1.heap.size, 2, none⟩) (Nat.le_refl _) _
        have O4 : OwnR (w3.setCell ⟨w1.heap.size, 2, none⟩ (.slice a3 i c3)) w2.heap.size (.slice a3 i c3) (sortR (rs.map turnR)) := own_set (own_less ho3 (by omega)) _ _ (fun e => by have := (own_lt ho3.row e).1; simp at this; omega)
        have T4 : TxtOwn (w3.setCell ⟨w1.heap.size, 2, none⟩ (.slice a3 i c3)) v2.heap.size (Value.slice a3 i c3).ownBlock (sortR (rs.map turnR)) (turnL l) := by
          have := ((HL.out.2.turn.sort).below hb3).setLow ⟨w1.heap.size, 2, none⟩ (.slice a3 i c3) (by simp; omega)
          exact this.anew O4
        clear q2 q3 R3 k2 ho3
        generalize (w3.setCell ⟨w1.heap.size, 2, none⟩ (.slice a3 i c3)) = w4 at R4 B4 O4 T4 ⊢
        have HO4 : Hid (OwnR w4 w2.heap.size (.slice a3 i c3) (sortR (rs.map turnR))) := O4
        have HT4 : Hid (TxtOwn w4 v2.heap.size (Value.slice a3 i c3).ownBlock (sortR (rs.map turnR)) (turnL l)) := T4
        have HB4 : Hid (Below w1.heap.size w1 w4) := B4
        have k0 : w4.cell? ⟨w1.heap.size, 0, none⟩ = some (.int .i64 C) := R4.cell 0
        have k1 : w4.cell? ⟨w1.heap.size, 1, none⟩ = some (.int .i64 R) := R4.cell 1
        have k2 : w4.cell? ⟨w1.heap.size, 2, none⟩ = some (.slice a3 i c3) := R4.cell 2
        have HG2 : Hid (RowAt w4 (w.heap.size + 1) #[.int .i64 0, .int .i64 0, .slice none 0 0] 28) := (HG1.out.below hb1 z1).below B4 (by omega)
        clear O4 T4 B4 R4
        go_wp2_with (refine wpList_store_row rfl 28 (.tmp 2) (.tmp 49) rfl (w.heap.size + 1) #[.int .i64 C, .int .i64 R, .slice a3 i c3] rfl rfl 28 _ HG2.out tab_info rfl (cells3_one _ _ _ _ _) ?_)
        refine bodyPost_ret (v := .agg #[.int .i64 C, .int .i64 R, .slice a3 i c3]) (results_cell_row (p := 2) (ty := 28) rfl _ _ (w.heap.size + 1) 28 _ _ _ rfl (RowAt.setRow HG2.out _) Try.underlying28 rfl tab_info) rfl ⟨.inr ⟨HX.out, a3, c3, sortR (rs.map turnR), by rw [HNN.out], ?_⟩, below_row ((HB0.out.trans (hb1.mono s0)).trans (HB4.out.mono (by omega))) (by omega) _⟩
        rw [HNN.out]
        exact OwnT.less (B' := v2.heap.size) ⟨own_row (own_less HO4.out (by omega)) _ _ (fun e => by have := (own_lt HO4.out.row e).1; omega), HT4.out.rowLow _ _ (by omega)⟩ (by omega)
end Go.Proofs.Yteghidjbcpmfbaa
namespace Go.Proofs.Yteghidjbcpmfbaa
open Go.RowKit

theorem getD_setE {α : Type} (l : List α) (i : Nat) (x d : α) (h : i < l.length) : (l.set i x).getD i d = x := by simp [List.getD, h]
theorem getD_setN {α : Type} (l : List α) (i k : Nat) (x d : α) (h : i ≠ k) : (l.set i x).getD k d = l.getD k d := by simp [List.getD, List.getElem?_set_ne h]
theorem flat5_put (rs : List Rw) (i j : Nat) (hi : i < rs.length) (hj : j < 5) (v : Value) (x : Rw) (hx : rwCells x = (rwCells (rs.getD i rw0)).set j v) : (flat5 rs).set (i * 5 + j) v = flat5 (rs.set i x) := by
  apply List.ext_getElem?
  intro s
  have hlen := flat5_length rs
  by_cases hs : s < rs.length * 5
  · have hs5 : s = s / 5 * 5 + s % 5 := by omega
    have hk : s / 5 < rs.length := by omega
    have hm : s % 5 < 5 := by omega
    generalize s / 5 = k at hs5 hk
    generalize s % 5 = r at hs5 hm
    subst hs5
    rw [flat5_get (rs.set i x) k r (by simpa using hk) hm]
    by_cases hki : i = k
    · subst hki
      rw [getD_setE _ _ _ _ hi, hx]
      by_cases hr : j = r
      · subst hr
        rw [List.getElem?_set_self (by omega), List.getElem?_set_self (by simp [rwCells]; omega)]
      · rw [List.getElem?_set_ne (by omega), List.getElem?_set_ne hr, flat5_get rs i r hi hm]
    · rw [getD_setN _ _ _ _ _ hki, List.getElem?_set_ne (by omega), flat5_get rs k r hk hm]
  · rw [List.getElem?_eq_none (by simp; omega), List.getElem?_eq_none (by rw [flat5_length]; simp; omega)]
/-- A number of a row is written. -/
theorem OwnT.put {w : World} {B g n c : Nat} {rs : List Rw} {l : List Cl} (h : OwnT w B (.slice (some ⟨g, 0, none⟩) n c) rs l) (i j : Nat) (hi : i < rs.length) (hj : j < 5) (v : Value) (x : Rw) (y : Cl)
    (hx : rwCells x = (rwCells (rs.getD i rw0)).set j v) (hT : rwT x = rwT (rs.getD i rw0)) (hy : y.2.2.2.2 = (l.getD i cl0).2.2.2.2) (he : x.1 = y.1 ∧ x.2.1 = y.2.1 ∧ x.2.2.1 = y.2.2.1 ∧ x.2.2.2.1 = y.2.2.2.1) :
    OwnT (w.setCell ⟨g, i * 5 + j, none⟩ v) B (.slice (some ⟨g, 0, none⟩) n c) (rs.set i x) (l.set i y) := by
  have hl := h.2.1
  have hn := h.1.len
  obtain ⟨p0, _⟩ := h.1.row.stored (i * 5 + j) v
  rw [flat5_put rs i j hi hj v x hx] at p0
  have t0 := h.2.set ⟨g, i * 5 + j, none⟩ v rfl
  have hTT : ∀ k, rwT ((rs.set i x).getD k rw0) = rwT (rs.getD k rw0) := by
    intro k
    by_cases hki : i = k
    · subst hki
      rw [getD_setE _ _ _ _ hi, hT]
    · rw [getD_setN _ _ _ _ _ hki]
  refine ⟨?_, by simp [hl], fun k hk' => ?_, fun k hk' b hb => ?_, fun a b hab hb q hq => ?_⟩
  · unfold OwnR
    rw [List.length_set, ← hn]
    exact p0
  · simp only [List.length_set] at hk'
    by_cases hki : i = k
    · subst hki
      rw [getD_setE _ _ _ _ hi, getD_setE _ _ _ _ (by omega)]
      obtain ⟨_, _, _, _, h4⟩ := t0.2.1 i hk'
      exact ⟨he.1, he.2.1, he.2.2.1, he.2.2.2, by rw [hT, hy]; exact h4⟩
    · rw [getD_setN _ _ _ _ _ hki, getD_setN _ _ _ _ _ hki]
      exact t0.2.1 k hk'
  · simp only [List.length_set] at hk'
    rw [hTT] at hb
    exact t0.2.2.1 k hk' b hb
  · simp only [List.length_set] at hb
    rw [hTT] at hq ⊢
    exact t0.2.2.2 a b hab hb q hq
/-- The first i turned by f, the others as they were. -/
def mix {α : Type} (f : α → α) (xs : List α) (i : Nat) : List α := (xs.take i).map f ++ xs.drop i
theorem mix_len {α : Type} (f : α → α) (xs : List α) (i : Nat) : (mix f xs i).length = xs.length := by simp [mix]; omega
theorem mix_zero {α : Type} (f : α → α) (xs : List α) : mix f xs 0 = xs := by simp [mix]
theorem mix_all {α : Type} (f : α → α) (xs : List α) (i : Nat) (h : xs.length ≤ i) : mix f xs i = xs.map f := by
  unfold mix
  rw [List.take_of_length_le h, List.drop_eq_nil_of_le h, List.append_nil]
theorem mix_at {α : Type} (f : α → α) (xs : List α) (i : Nat) (d : α) (h : i < xs.length) : (mix f xs i).getD i d = xs.getD i d := by
  unfold mix
  rw [List.getD_eq_getElem?_getD, List.getD_eq_getElem?_getD, List.getElem?_append_right (by simp only [List.length_map, List.length_take]; omega), List.length_map, List.length_take, Nat.min_eq_left (by omega), Nat.sub_self, List.getElem?_drop, Nat.add_zero]
theorem mix_succ {α : Type} (f : α → α) (xs : List α) (i : Nat) (d : α) (h : i < xs.length) : mix f xs (i + 1) = (mix f xs i).set i (f (xs.getD i d)) := by
  unfold mix
  rw [List.take_succ_eq_append_getElem h, List.map_append, List.set_append_right _ _ (by simp only [List.length_map, List.length_take]; omega), List.length_map, List.length_take, Nat.min_eq_left (by omega), Nat.sub_self, List.drop_eq_getElem_cons h]
  simp only [List.getD, List.getElem?_eq_getElem h, Option.getD_some, List.map_cons, List.map_nil, List.append_assoc, List.set_cons_zero, List.singleton_append]
theorem mix_same {α : Type} (f : α → α) (xs : List α) (i : Nat) (d : α) (h : i < xs.length) (e : f (xs.getD i d) = xs.getD i d) : mix f xs (i + 1) = mix f xs i := by
  rw [mix_succ f xs i d h, e]
  apply List.ext_getElem?
  intro k
  by_cases hk : i = k
  · subst hk
    rw [List.getElem?_set_self (by rw [mix_len]; exact h)]
    have := mix_at f xs i d h
    rw [List.getD_eq_getElem?_getD] at this
    have h2 : i < (mix f xs i).length := by rw [mix_len]; exact h
    rw [List.getElem?_eq_getElem h2] at this ⊢
    simp at this
    rw [this]
    simp [List.getD]
  · rw [List.getElem?_set_ne hk]
/-- Truth values, one for each of so many places. -/
def boolL (n : Nat) (p : Nat → Bool) : List Value := (List.range n).map (fun c => Value.bool (p c))
theorem boolL_len (n : Nat) (p : Nat → Bool) : (boolL n p).length = n := by simp [boolL]
theorem boolL_get (n : Nat) (p : Nat → Bool) (c : Nat) (h : c < n) : (boolL n p)[c]? = some (.bool (p c)) := by
  unfold boolL
  rw [List.getElem?_map, List.getElem?_range h]
  rfl
theorem boolL_set (n : Nat) (p : Nat → Bool) (c : Nat) (b : Bool) : (boolL n p).set c (.bool b) = boolL n (fun k => if k = c then b else p k) := by
  apply List.ext_getElem?
  intro k
  by_cases hk : k < n
  · rw [boolL_get _ _ _ hk]
    by_cases hc : c = k
    · subst hc
      rw [List.getElem?_set_self (by rw [boolL_len]; exact hk), if_pos rfl]
    · rw [List.getElem?_set_ne hc, boolL_get _ _ _ hk, if_neg (Ne.symm hc)]
  · rw [List.getElem?_eq_none (by simp [boolL_len]; omega), List.getElem?_eq_none (by rw [boolL_len]; omega)]
theorem boolL_same {n : Nat} {p q : Nat → Bool} (h : ∀ c, c < n → p c = q c) : boolL n p = boolL n q := by
  unfold boolL
  apply List.map_congr_left
  intro c hc
  rw [h c (by simpa using hc)]
theorem made_bools (n : Nat) : (madeCells (Value.bool false).cells (n * 1)).toList = boolL n (fun _ => false) := by
  rw [show (Value.bool false).cells = #[.bool false] from rfl, toList_madeCells_one, Nat.mul_one]
  apply List.ext_getElem?
  intro k
  by_cases hk : k < n
  · rw [boolL_get _ _ _ hk, List.getElem?_replicate, if_pos hk]
  · rw [List.getElem?_eq_none (by simp; omega), List.getElem?_eq_none (by rw [boolL_len]; omega)]
end Go.Proofs.Yteghidjbcpmfbaa
namespace Go.Proofs.Yteghidjbcpmfbaa
open Go.RowKit

theorem bool_info : (Try.prog.info? 4).map (fun i => (i.zero, i.size, i.bytes)) = some (some (.bool false), 1, 1) := by kernel_rfl
/-- A row when a row of the table is put in. -/
def inRw (at' : Int) (x : Rw) : Rw := if at' ≤ x.1 then (x.1 + 1, x.2.1, x.2.2.1, x.2.2.2.1, x.2.2.2.2) else if at' < x.1 + x.2.2.1 then (x.1, x.2.1, x.2.2.1 + 1, x.2.2.2.1, x.2.2.2.2) else x
def newRw (at' : Int) (p : Nat → Bool) (j : Nat) : List Rw := ((List.range j).filter (fun c => !p c)).map (fun c : Nat => (at', (c : Int), 1, 1, none, 0, 0))
def newCl (at' : Int) (p : Nat → Bool) (j : Nat) : List Cl := ((List.range j).filter (fun c => !p c)).map (fun c : Nat => (at', (c : Int), 1, 1, []))
theorem newRw_put (at' : Int) (p : Nat → Bool) (j : Nat) (h : p j = false) : newRw at' p (j + 1) = newRw at' p j ++ [(at', (j : Int), 1, 1, none, 0, 0)] := by
  simp [newRw, List.range_succ, List.filter_append, h]
theorem newRw_skip (at' : Int) (p : Nat → Bool) (j : Nat) (h : p j = true) : newRw at' p (j + 1) = newRw at' p j := by
  simp [newRw, List.range_succ, List.filter_append, h]
theorem newCl_put (at' : Int) (p : Nat → Bool) (j : Nat) (h : p j = false) : newCl at' p (j + 1) = newCl at' p j ++ [(at', (j : Int), 1, 1, [])] := by
  simp [newCl, List.range_succ, List.filter_append, h]
theorem newCl_skip (at' : Int) (p : Nat → Bool) (j : Nat) (h : p j = true) : newCl at' p (j + 1) = newCl at' p j := by
  simp [newCl, List.range_succ, List.filter_append, h]
theorem newRw_len (at' : Int) (p : Nat → Bool) (j : Nat) : (newRw at' p j).length ≤ j := by
  unfold newRw
  rw [List.length_map]
  exact Nat.le_trans (List.length_filter_le _ _) (by simp)
theorem taken_take (t' : Int) (l : List Cl) (i : Nat) (h : i < l.length) (c : Int) : takenB t' (l.take (i + 1)) c = (takenB t' (l.take i) c || overB t' (l.getD i cl0) c) := by
  unfold takenB
  rw [List.take_succ_eq_append_getElem h, List.any_append]
  simp [List.getD, h]
theorem txt_nil_cell (w : World) (B : Nat) (t' : Int) (j : Nat) : RwOwn w B (t', (j : Int), 1, 1, none, 0, 0) (t', (j : Int), 1, 1, []) := ⟨rfl, rfl, rfl, rfl, World.ownsRow_nil _ _ _ _⟩

set_option maxRecDepth 100000 in
set_option maxHeartbeats 8000000 in
theorem specTableRowIn_any (R C t' : Int) (a : Option Addr) (n cap : Nat) (l : List Cl) (w : World) (h : Tab w a n cap l) :
    Calls Try.prog 10 #[.agg #[.int .i64 R, .int .i64 C, .slice a n cap], .int .i64 t'] w fun z w' => TabRes w.heap.size (rowInB R C l t') (R + 1) C (inL t' C l) z w' ∧ Below w.heap.size w w' := by
  obtain ⟨i0, hi, hz0, hz1, hz2⟩ := info_parts Try.info44
  obtain ⟨ib, hbi, hbz, hbs, hbb⟩ := info_parts bool_info
  have H : Hid (Tab w a n cap l) := h
  clear h
  obtain ⟨ok, HX⟩ : ∃ x, Hid (okB R C l = x) := ⟨_, rfl⟩
  go_enter Try.func10, Try.ntmps10
  go_upto_region 1 with fail
  have B0 : Below w.heap.size w ((w.alloc (.cells #[.int .i64 R, .int .i64 C, .slice a n cap] 28)).alloc (.cells #[.int .i64 0, .int .i64 0, .slice none 0 0] 28)) := ((Below.refl _ _).alloc (Nat.le_refl _) _).alloc (by simp) _
  have G0 : RowAt ((w.alloc (.cells #[.int .i64 R, .int .i64 C, .slice a n cap] 28)).alloc (.cells #[.int .i64 0, .int .i64 0, .slice none 0 0] 28)) w.heap.size #[.int .i64 R, .int .i64 C, .slice a n cap] 28 := (rowAt_new w _ _).alloc _
  have G1 : RowAt ((w.alloc (.cells #[.int .i64 R, .int .i64 C, .slice a n cap] 28)).alloc (.cells #[.int .i64 0, .int .i64 0, .slice none 0 0] 28)) (w.heap.size + 1) #[.int .i64 0, .int .i64 0, .slice none 0 0] 28 := by
    have := rowAt_new (w.alloc (.cells #[.int .i64 R, .int .i64 C, .slice a n cap] 28)) #[.int .i64 0, .int .i64 0, .slice none 0 0] 28
    simpa using this
  have HT : Hid (Tab ((w.alloc (.cells #[.int .i64 R, .int .i64 C, .slice a n cap] 28)).alloc (.cells #[.int .i64 0, .int .i64 0, .slice none 0 0] 28)) a n cap l) := H.out.below B0
  generalize ((w.alloc (.cells #[.int .i64 R, .int .i64 C, .slice a n cap] 28)).alloc (.cells #[.int .i64 0, .int .i64 0, .slice none 0 0] 28)) = v at B0 G0 G1 HT ⊢
  have k0 : v.cell? ⟨w.heap.size, 0, none⟩ = some (.int .i64 R) := G0.cell 0
  have k1 : v.cell? ⟨w.heap.size, 1, none⟩ = some (.int .i64 C) := G0.cell 1
  have k2 : v.cell? ⟨w.heap.size, 2, none⟩ = some (.slice a n cap) := G0.cell 2
  have s0 := B0.size
  have z0 := G0.lt
  have z1 := G1.lt
  have HG0 : Hid (RowAt v w.heap.size #[.int .i64 R, .int .i64 C, .slice a n cap] 28) := G0
  have HG1 : Hid (RowAt v (w.heap.size + 1) #[.int .i64 0, .int .i64 0, .slice none 0 0] 28) := G1
  have HB0 : Hid (Below w.heap.size w v) := B0
  clear G0 G1 B0
  cases ok
  · have HNB : Hid (rowInB R C l t' = false) := by
      show rowInB R C l t' = false
      simp only [rowInB, HX.out, Bool.false_and]
    go_wp2_with (first | (go_at_call 27; refine (specTableOk_any R C a n cap l _ HT.out).mono ?_; rw [HX.out]; rintro e w1 ⟨rfl, hb1⟩; have HG2 : Hid (RowAt w1 (w.heap.size + 1) #[.int .i64 0, .int .i64 0, .slice none 0 0] 28) := HG1.out.below hb1 z1; have q0 := (hb1.cell (p := ⟨w.heap.size, 0, none⟩) z0).trans k0; have q1 := (hb1.cell (p := ⟨w.heap.size, 1, none⟩) z0).trans k1; have q2 := (hb1.cell (p := ⟨w.heap.size, 2, none⟩) z0).trans k2) | (refine wpList_store_row rfl 28 (.tmp 4) (.tmp 27) rfl (w.heap.size + 1) #[.int .i64 0, .int .i64 0, .slice none 0 0] rfl rfl 28 _ HG2.out tab_info rfl (cells3_one _ _ _ _ _) ?_))
    refine bodyPost_ret (v := .tuple #[.agg #[.int .i64 0, .int .i64 0, .slice none 0 0], .bool false]) ?_ rfl ⟨.inl ⟨HNB.out, rfl⟩, below_row (HB0.out.trans (hb1.mono s0)) (by omega) _⟩
    rw [results_cell_tmp rfl]
    simp [asAddr, Result.andThen, run_tabOf (RowAt.setRow HG2.out #[.int .i64 0, .int .i64 0, .slice none 0 0])]
  · have hg := gridP_of_okB HX.out
    obtain ⟨hR, hC, -, -⟩ := hg
    have hl25 : l.length ≤ 25 := (formB_of (show formB R C l = true by have := HX.out; simp only [okB, Bool.and_eq_true] at this; exact this.1)).2.2.1
    have HTL : Hid (∀ k, k < l.length → (l.getD k cl0).2.2.2.2.length ≤ 1000000) := fun k hk => by
      have := (stepB_of ((gridP_of_okB HX.out).2.2.1 k hk)).2.2
      simp only [textB, Bool.and_eq_true, decide_eq_true_eq] at this
      omega
    have HN : Hid (n = l.length) := H.out.1
    by_cases hin : 0 ≤ t' ∧ t' ≤ R
    case neg =>
      have HS0 : Hid (decide (0 ≤ t' ∧ t' ≤ R) = false) := decide_eq_false hin
      have HNB : Hid (rowInB R C l t' = false) := by
        show rowInB R C l t' = false
        simp only [rowInB, Bool.and_eq_false_iff, decide_eq_false_iff_not]
        omega
      go_wp2_with (first | (go_at_call 27; refine (specTableOk_any R C a n cap l _ HT.out).mono ?_; rw [HX.out]; rintro e w1 ⟨rfl, hb1⟩; have HG2 : Hid (RowAt w1 (w.heap.size + 1) #[.int .i64 0, .int .i64 0, .slice none 0 0] 28) := HG1.out.below hb1 z1; have q0 := (hb1.cell (p := ⟨w.heap.size, 0, none⟩) z0).trans k0; have q1 := (hb1.cell (p := ⟨w.heap.size, 1, none⟩) z0).trans k1; have q2 := (hb1.cell (p := ⟨w.heap.size, 2, none⟩) z0).trans k2) | (go_at_call 28; refine (l6In_of HS0.out _).mono ?_; rintro e w9 ⟨rfl, hw9⟩; subst w9) | (refine wpList_store_row rfl 28 (.tmp 4) (.tmp 27) rfl (w.heap.size + 1) #[.int .i64 0, .int .i64 0, .slice none 0 0] rfl rfl 28 _ HG2.out tab_info rfl (cells3_one _ _ _ _ _) ?_))
      refine bodyPost_ret (v := .tuple #[.agg #[.int .i64 0, .int .i64 0, .slice none 0 0], .bool false]) ?_ rfl ⟨.inl ⟨HNB.out, rfl⟩, below_row (HB0.out.trans (hb1.mono s0)) (by omega) _⟩
      rw [results_cell_tmp rfl]
      simp [asAddr, Result.andThen, run_tabOf (RowAt.setRow HG2.out #[.int .i64 0, .int .i64 0, .slice none 0 0])]
    have HS0 : Hid (decide (0 ≤ t' ∧ t' ≤ R) = true) := decide_eq_true hin
    by_cases hR2 : 5 ≤ R
    · have HNB : Hid (rowInB R C l t' = false) := by
        show rowInB R C l t' = false
        simp only [rowInB, Bool.and_eq_false_iff, decide_eq_false_iff_not]
        omega
      go_wp2_with (first | (go_at_call 27; refine (specTableOk_any R C a n cap l _ HT.out).mono ?_; rw [HX.out]; rintro e w1 ⟨rfl, hb1⟩; have HG2 : Hid (RowAt w1 (w.heap.size + 1) #[.int .i64 0, .int .i64 0, .slice none 0 0] 28) := HG1.out.below hb1 z1; have q0 := (hb1.cell (p := ⟨w.heap.size, 0, none⟩) z0).trans k0; have q1 := (hb1.cell (p := ⟨w.heap.size, 1, none⟩) z0).trans k1; have q2 := (hb1.cell (p := ⟨w.heap.size, 2, none⟩) z0).trans k2) | (go_at_call 28; refine (l6In_of HS0.out _).mono ?_; rintro e w9 ⟨rfl, hw9⟩; subst w9) | (refine wpList_store_row rfl 28 (.tmp 4) (.tmp 27) rfl (w.heap.size + 1) #[.int .i64 0, .int .i64 0, .slice none 0 0] rfl rfl 28 _ HG2.out tab_info rfl (cells3_one _ _ _ _ _) ?_))
      refine bodyPost_ret (v := .tuple #[.agg #[.int .i64 0, .int .i64 0, .slice none 0 0], .bool false]) ?_ rfl ⟨.inl ⟨HNB.out, rfl⟩, below_row (HB0.out.trans (hb1.mono s0)) (by omega) _⟩
      rw [results_cell_tmp rfl]
      simp [asAddr, Result.andThen, run_tabOf (RowAt.setRow HG2.out #[.int .i64 0, .int .i64 0, .slice none 0 0])]
    have HYB : Hid (rowInB R C l t' = true) := by
      show rowInB R C l t' = true
      simp only [rowInB, HX.out, Bool.true_and, Bool.and_eq_true, decide_eq_true_eq]
      omega
    have hok := HX.out
    obtain ⟨C, rfl⟩ : ∃ C' : Nat, C = C' := ⟨C.toNat, by omega⟩
    clear hok
    have HT1 := HT
    go_upto_region 3 with (first | (go_at_call 27; refine (specTableOk_any R C a n cap l _ HT.out).mono ?_; rw [HX.out]; rintro e w1 ⟨rfl, hb1⟩; have HG2 : Hid (RowAt w1 (w.heap.size + 1) #[.int .i64 0, .int .i64 0, .slice none 0 0] 28) := HG1.out.below hb1 z1; have q0 := (hb1.cell (p := ⟨w.heap.size, 0, none⟩) z0).trans k0; have q1 := (hb1.cell (p := ⟨w.heap.size, 1, none⟩) z0).trans k1; have q2 := (hb1.cell (p := ⟨w.heap.size, 2, none⟩) z0).trans k2) | (go_at_call 28; refine (l6In_of HS0.out _).mono ?_; rintro e w9 ⟨rfl, hw9⟩; subst w9))
    clear k0 k1 k2
    have s1 := hb1.size
    have HT2 : Hid (Tab w1 a n cap l) := HT.out.below hb1
    go_upto_region 4 with (go_at_call 29; refine (l2Copy_any R C a n cap l _ HT2.out (by omega) HTL.out).mono ?_; rintro e w2 ⟨⟨al, cl, rs, rfl, hOl⟩, hb2⟩)
    have s2 := hb2.size
    have HRL : Hid (rs.length = l.length) := hOl.2.1
    have HRN : Hid (∀ k, k < rs.length → (0 ≤ (rs.getD k rw0).1 ∧ (rs.getD k rw0).1 ≤ 5) ∧ (1 ≤ (rs.getD k rw0).2.2.1 ∧ (rs.getD k rw0).2.2.1 ≤ 5) ∧ (0 ≤ (rs.getD k rw0).2.1 ∧ 1 ≤ (rs.getD k rw0).2.2.2.1 ∧ (rs.getD k rw0).2.1 + (rs.getD k rw0).2.2.2.1 ≤ C)) := fun k hk => by
      obtain ⟨e0, e1, e2, e3, -⟩ := hOl.2.2.1 k hk
      have hk' : k < l.length := by rw [← HRL.out]; exact hk
      have := wiB_of (stepB_of ((gridP_of_okB HX.out).2.2.1 k hk')).1
      rw [e0, e1, e2, e3]
      omega
    have HRE : Hid (∀ k, k < rs.length → (rs.getD k rw0).1 = (l.getD k cl0).1 ∧ (rs.getD k rw0).2.1 = (l.getD k cl0).2.1 ∧ (rs.getD k rw0).2.2.1 = (l.getD k cl0).2.2.1 ∧ (rs.getD k rw0).2.2.2.1 = (l.getD k cl0).2.2.2.1) := fun k hk => by
      obtain ⟨e0, e1, e2, e3, -⟩ := hOl.2.2.1 k hk
      exact ⟨e0, e1, e2, e3⟩
    obtain ⟨N, hN⟩ : ∃ N, l.length = N := ⟨_, rfl⟩
    have HNN : Hid (l.length = N) := hN
    rw [hN] at hOl hl25 ⊢
    clear hN
    have R2 : RowAt (w2.alloc (.cells #[.int .i64 R, .int .i64 C, .slice al N cl] 28)) w2.heap.size #[.int .i64 R, .int .i64 C, .slice al N cl] 28 := rowAt_new _ _ _
    have B2 : Below w1.heap.size w1 (w2.alloc (.cells #[.int .i64 R, .int .i64 C, .slice al N cl] 28)) := hb2.alloc s2 _
    have O2 : OwnT (w2.alloc (.cells #[.int .i64 R, .int .i64 C, .slice al N cl] 28)) w1.heap.size (.slice al N cl) rs l := hOl.below ((Below.refl _ _).alloc (Nat.le_refl _) _)
    generalize (w2.alloc (.cells #[.int .i64 R, .int .i64 C, .slice al N cl] 28)) = v2 at R2 B2 O2 ⊢
    have r0 := (B2.cell (p := ⟨w.heap.size, 0, none⟩) (by show w.heap.size < w1.heap.size; omega)).trans q0
    have r1 := (B2.cell (p := ⟨w.heap.size, 1, none⟩) (by show w.heap.size < w1.heap.size; omega)).trans q1
    have f0 := R2.cell 0
    have f1 := R2.frozen 0
    have sv2 := B2.size
    have z2 := R2.lt
    have HQ1 : Hid (w1.cell? ⟨w.heap.size, 1, none⟩ = some (.int .i64 C)) := q1
    clear q0 q1 q2 hb2 hOl
    have f0' : v2.cell? ⟨w2.heap.size, 0, none⟩ = some (.int .i64 R) := f0
    clear f0
    go_upto_region 5 with fail
    have R3 : RowAt (v2.setCell ⟨w2.heap.size, 0, none⟩ (.int .i64 (R + 1))) w2.heap.size #[.int .i64 (R + 1), .int .i64 C, .slice al N cl] 28 := R2.setCell 0 (.int .i64 (R + 1))
    have B3 : Below w1.heap.size w1 (v2.setCell ⟨w2.heap.size, 0, none⟩ (.int .i64 (R + 1))) := B2.setCell (p := ⟨w2.heap.size, 0, none⟩) s2 _
    have hneG : (Value.slice al N cl).ownBlock ≠ some w2.heap.size := rowAt_ne R2 O2.1.row (by decide)
    have O3 : OwnT (v2.setCell ⟨w2.heap.size, 0, none⟩ (.int .i64 (R + 1))) w1.heap.size (.slice al N cl) rs l := ⟨own_set O2.1 _ _ hneG, O2.2.1, fun k hk => by
      obtain ⟨h0, h1, h2, h3, h4⟩ := O2.2.2.1 k hk
      exact ⟨h0, h1, h2, h3, own_set h4 _ _ (rowAt_ne R2 h4 (by decide))⟩, O2.2.2.2⟩
    have r3 : (v2.setCell ⟨w2.heap.size, 0, none⟩ (.int .i64 (R + 1))).cell? ⟨w.heap.size, 1, none⟩ = some (.int .i64 C) := (World.cell?_of_block (w := v2) (Below.heap_setCell v2 ⟨w2.heap.size, 0, none⟩ _ w.heap.size (by show w.heap.size ≠ w2.heap.size; omega))).trans r1
    clear f0' f1 r0 r1 R2 B2 O2
    generalize (v2.setCell ⟨w2.heap.size, 0, none⟩ (.int .i64 (R + 1))) = v3 at R3 B3 O3 r3 ⊢
    have sv3 := B3.size
    have z3 := R3.lt
    go_upto_region 7 with (at_make; refine wpList_make_full _ rfl (.tmp 35) (.tmp 35) 41 rfl w1.heap.size 4 ib (.bool false) 1 Try.underlying41 hbi hbz hbs .i64 .i64 C C C rfl rfl rfl rfl (by rw [hbb]; omega) (by unfold maxLen; omega) sv3 ?_; intro w4 hmk hgk)
    rw [made_bools] at hmk
    have B4 : Below v3.heap.size v3 w4 := ⟨hgk.os, hgk.tape, hgk.output, hgk.size, fun k hk => hgk.block k hk (by simp)⟩
    have sv4 := B4.size
    have R4 : RowAt w4 w2.heap.size #[.int .i64 (R + 1), .int .i64 C, .slice al N cl] 28 := R3.below B4 z3
    have O4 : OwnT w4 w1.heap.size (.slice al N cl) rs l := O3.below B4
    have W4 : Below w1.heap.size w1 w4 := B3.trans (B4.mono sv3)
    have r4 : w4.cell? ⟨w.heap.size, 1, none⟩ = some (.int .i64 C) := (B4.cell (p := ⟨w.heap.size, 1, none⟩) (by show w.heap.size < v3.heap.size; omega)).trans r3
    obtain ⟨T, hTe⟩ : ∃ T, v3.heap.size = T := ⟨_, rfl⟩
    rw [hTe] at hmk ⊢
    have hTw : w2.heap.size < T := by omega
    clear R3 B3 O3 r3 r4 B4 hgk
    go_wp2_with fail
    go_loopw [8] (fun iv wr => ∃ i : Nat, i ≤ N ∧ iv = .int .i64 i ∧ RowAt wr w2.heap.size #[.int .i64 (R + 1), .int .i64 C, .slice al N cl] 28 ∧ OwnT wr w1.heap.size (.slice al N cl) (mix (inRw t') rs i) (mix (inC t') l i) ∧ wr.ownsRow w1.heap.size 4 1 (.slice (some ⟨T, 0, none⟩) C C) C (boolL C (fun c : Nat => takenB t' (l.take i) c)) ∧ Below w1.heap.size w1 wr ∧ w4.heap.size ≤ wr.heap.size) (fun iv _ => N - (intOf iv).toNat)
    case atStart => exact ⟨0, Nat.zero_le _, rfl, R4, by rw [mix_zero, mix_zero]; exact O4, by simpa [takenB] using hmk, W4, Nat.le_refl _⟩
    case round =>
      clear R4 O4 hmk W4
      obtain ⟨i, hin', rfl, hR', hO', hK', hb', hs'⟩ := hrel
      have HRo : Hid (RowAt wr w2.heap.size #[.int .i64 (R + 1), .int .i64 C, .slice al N cl] 28) := hR'
      have HO : Hid (OwnT wr w1.heap.size (.slice al N cl) (mix (inRw t') rs i) (mix (inC t') l i)) := hO'
      have HK : Hid (wr.ownsRow w1.heap.size 4 1 (.slice (some ⟨T, 0, none⟩) C C) C (boolL C (fun c : Nat => takenB t' (l.take i) c))) := hK'
      have HB : Hid (Below w1.heap.size w1 wr) := hb'
      have hTl : T < wr.heap.size := (own_lt hK' rfl).2
      have zG := hR'.lt
      by_cases hlt : i < N
      · have hir : i < rs.length := by have := HRL.out; have := HNN.out; omega
        have hil : i < l.length := by have := HNN.out; omega
        obtain ⟨⟨n0, n1⟩, ⟨n2, n3⟩, n4, n5, n6⟩ := HRN.out i hir
        have hre := HRE.out i hir
        obtain ⟨⟨xr, xc, xd, xg, xa, xn, xq⟩, hx⟩ : ∃ x, x = rs.getD i rw0 := ⟨_, rfl⟩
        have HXr : Hid (rs.getD i rw0 = (xr, xc, xd, xg, xa, xn, xq)) := hx.symm
        rw [← hx] at n0 n1 n2 n3 n4 n5 n6 hre
        simp only at n0 n1 n2 n3 n4 n5 n6 hre
        have HRe : Hid (xr = (l.getD i cl0).1 ∧ xc = (l.getD i cl0).2.1 ∧ xd = (l.getD i cl0).2.2.1 ∧ xg = (l.getD i cl0).2.2.2.1) := hre
        clear hre
        obtain ⟨xc, rfl⟩ : ∃ c' : Nat, xc = c' := ⟨xc.toNat, by omega⟩
        obtain ⟨xg, rfl⟩ : ∃ c' : Nat, xg = c' := ⟨xg.toNat, by omega⟩
        rcases hO'.1.row.2 with ⟨hv, hz⟩ | ⟨g, cap', cur, hv, hgB, -⟩
        · exfalso; omega
        simp only [Value.slice.injEq, true_and] at hv
        obtain ⟨rfl, hcc⟩ := hv
        clear hcc
        have hrow := hO'.1.row
        have hml : i < (mix (inRw t') rs i).length := by rw [mix_len]; exact hir
        have hxl := hrow.1
        have hgT : g ≠ T := fun e => own_kinds hrow hK' (by decide) T rfl (by rw [e]; rfl)
        have hgG : g ≠ w2.heap.size := fun e => rowAt_ne hR' hrow (by decide) (by rw [e]; rfl)
        have hglt : g < wr.heap.size := (own_lt hrow rfl).2
        have hcl := hO'.1.rws.2.1
        have hcm := hO'.1.rws.2.2.1
        unfold maxLen at hcm
        have cell : ∀ j, j < 5 → wr.cell? ⟨g, i * 5 + j, none⟩ = (rwCells (xr, (xc : Int), xd, (xg : Int), xa, xn, xq))[j]? := fun j hj => by
          rw [hrow.cellAt (i * 5 + j) (by omega), flat5_get _ i j hml hj, mix_at _ _ _ _ hir, ← hx]
        have x0 : wr.cell? ⟨g, i * 5, none⟩ = some (.int .i64 xr) := cell 0 (by omega)
        have x1 : wr.cell? ⟨g, i * 5 + 1, none⟩ = some (.int .i64 xc) := cell 1 (by omega)
        have x2 : wr.cell? ⟨g, i * 5 + 2, none⟩ = some (.int .i64 xd) := cell 2 (by omega)
        have x3 : wr.cell? ⟨g, i * 5 + 3, none⟩ = some (.int .i64 xg) := cell 3 (by omega)
        have x4 : wr.cell? ⟨g, i * 5 + 4, none⟩ = some (.slice xa xn xq) := cell 4 (by omega)
        have fz0 := hrow.frozenAt (i * 5)
        have fz2 := hrow.frozenAt (i * 5 + 2)
        have k2 : wr.cell? ⟨w2.heap.size, 2, none⟩ = some (.slice (some ⟨g, 0, none⟩) N cl) := hR'.cell 2
        clear cell hR' hO' hK' hb' hrow hx hxl
        go_upto_region 10 with fail
        have bA : Below wr.heap.size wr (wr.alloc (.cells #[.int .i64 xr, .int .i64 xc, .int .i64 xd, .int .i64 xg, .slice xa xn xq] 44)) := (Below.refl _ _).alloc (Nat.le_refl _) _
        have RA : RowAt (wr.alloc (.cells #[.int .i64 xr, .int .i64 xc, .int .i64 xd, .int .i64 xg, .slice xa xn xq] 44)) wr.heap.size #[.int .i64 xr, .int .i64 xc, .int .i64 xd, .int .i64 xg, .slice xa xn xq] 44 := rowAt_new _ _ _
        generalize (wr.alloc (.cells #[.int .i64 xr, .int .i64 xc, .int .i64 xd, .int .i64 xg, .slice xa xn xq] 44)) = w5 at bA RA ⊢
        have s5 := bA.size
        have x0' := (bA.cell (p := ⟨g, i * 5, none⟩) hglt).trans x0
        have x2' := (bA.cell (p := ⟨g, i * 5 + 2, none⟩) hglt).trans x2
        have fz0' := (bA.frozen (p := ⟨g, i * 5, none⟩) hglt).trans fz0
        have fz2' := (bA.frozen (p := ⟨g, i * 5 + 2, none⟩) hglt).trans fz2
        have k2' := (bA.cell (p := ⟨w2.heap.size, 2, none⟩) zG).trans k2
        have y0 : w5.cell? ⟨wr.heap.size, 0, none⟩ = some (.int .i64 xr) := RA.cell 0
        have y2 : w5.cell? ⟨wr.heap.size, 2, none⟩ = some (.int .i64 xd) := RA.cell 2
        have HR5 : Hid (RowAt w5 w2.heap.size #[.int .i64 (R + 1), .int .i64 C, .slice (some ⟨g, 0, none⟩) N cl] 28) := HRo.out.below bA zG
        have HO5 : Hid (OwnT w5 w1.heap.size (.slice (some ⟨g, 0, none⟩) N cl) (mix (inRw t') rs i) (mix (inC t') l i)) := HO.out.below bA
        have HK5 : Hid (w5.ownsRow w1.heap.size 4 1 (.slice (some ⟨T, 0, none⟩) C C) C (boolL C (fun c : Nat => takenB t' (l.take i) c))) := own_below HK.out bA
        have HB5 : Hid (Below w1.heap.size w1 w5) := HB.out.trans (bA.mono (by omega))
        have HRA : Hid (RowAt w5 wr.heap.size #[.int .i64 xr, .int .i64 xc, .int .i64 xd, .int .i64 xg, .slice xa xn xq] 44) := RA
        have hgw : g ≠ wr.heap.size := by omega
        clear x0 x1 x2 x3 x4 fz0 fz2 k2 bA RA
        by_cases d1 : t' ≤ xr
        · have hin1 : inRw t' (rs.getD i rw0) = (xr + 1, (xc : Int), xd, (xg : Int), xa, xn, xq) := by
            rw [HXr.out]
            unfold inRw
            rw [if_pos (show t' ≤ xr from d1)]
          have hin2 : inC t' (l.getD i cl0) = ((l.getD i cl0).1 + 1, (l.getD i cl0).2.1, (l.getD i cl0).2.2.1, (l.getD i cl0).2.2.2.1, (l.getD i cl0).2.2.2.2) := by
            unfold inC
            rw [if_pos (by rw [← HRe.out.1]; exact d1)]
          have HP : Hid (OwnT (w5.setCell ⟨g, i * 5 + 0, none⟩ (.int .i64 (xr + 1))) w1.heap.size (.slice (some ⟨g, 0, none⟩) N cl) (mix (inRw t') rs (i + 1)) (mix (inC t') l (i + 1))) := by
            show OwnT _ _ _ _ _
            rw [mix_succ (inRw t') rs i rw0 hir, mix_succ (inC t') l i cl0 hil, hin1, hin2]
            refine HO5.out.put i 0 hml (by omega) _ _ _ ?_ ?_ ?_ ?_
            · rw [mix_at _ _ _ _ hir, HXr.out]; rfl
            · rw [mix_at _ _ _ _ hir, HXr.out]; rfl
            · rw [mix_at _ _ _ _ hil]
            · have := HRe.out
              simp only
              omega
          have HQ : Hid (boolL C (fun c : Nat => takenB t' (l.take (i + 1)) c) = boolL C (fun c : Nat => takenB t' (l.take i) c)) := boolL_same (fun c _ => by
            rw [taken_take t' l i hil]
            have : overB t' (l.getD i cl0) c = false := decide_eq_false (by rw [← HRe.out.1]; omega)
            rw [this, Bool.or_false])
          clear hin1 hin2
          go_wp2_with fail
          go_roundw
          case rel =>
            refine ⟨i + 1, by omega, by go_num, HR5.out.other _ _ (by show w2.heap.size ≠ g; omega), HP.out, ?_, HB5.out.setCell (p := ⟨g, i * 5, none⟩) hgB _, by simp [World.setCell]; omega⟩
            rw [HQ.out]
            exact own_set HK5.out _ _ (fun e => by simp [Value.ownBlock] at e; omega)
          case measure => simp [intOf]; omega
        by_cases d2 : t' < xr + xd
        · have hin1 : inRw t' (rs.getD i rw0) = (xr, (xc : Int), xd + 1, (xg : Int), xa, xn, xq) := by
            rw [HXr.out]
            unfold inRw
            rw [if_neg (show ¬ t' ≤ xr from d1), if_pos (show t' < xr + xd from d2)]
          have hin2 : inC t' (l.getD i cl0) = ((l.getD i cl0).1, (l.getD i cl0).2.1, (l.getD i cl0).2.2.1 + 1, (l.getD i cl0).2.2.2.1, (l.getD i cl0).2.2.2.2) := by
            unfold inC
            rw [if_neg (by rw [← HRe.out.1]; exact d1), if_pos (by rw [← HRe.out.1, ← HRe.out.2.2.1]; exact d2)]
          have HP : Hid (OwnT (w5.setCell ⟨g, i * 5 + 2, none⟩ (.int .i64 (xd + 1))) w1.heap.size (.slice (some ⟨g, 0, none⟩) N cl) (mix (inRw t') rs (i + 1)) (mix (inC t') l (i + 1))) := by
            show OwnT _ _ _ _ _
            rw [mix_succ (inRw t') rs i rw0 hir, mix_succ (inC t') l i cl0 hil, hin1, hin2]
            refine HO5.out.put i 2 hml (by omega) _ _ _ ?_ ?_ ?_ ?_
            · rw [mix_at _ _ _ _ hir, HXr.out]; rfl
            · rw [mix_at _ _ _ _ hir, HXr.out]; rfl
            · rw [mix_at _ _ _ _ hil]
            · have := HRe.out
              simp only
              omega
          have HQ : Hid (boolL C (fun c : Nat => takenB t' (l.take (i + 1)) c) = boolL C (fun c : Nat => takenB t' (l.take i) c || decide (xc ≤ c ∧ c < xc + xg))) := boolL_same (fun c _ => by
            rw [taken_take t' l i hil]
            congr 1
            unfold overB
            have := HRe.out
            rw [decide_eq_decide, ← this.1, ← this.2.1, ← this.2.2.1, ← this.2.2.2]
            omega)
          clear hin1 hin2
          go_upto_region 14 with fail
          have HR6 : Hid (RowAt (w5.setCell ⟨g, i * 5 + 2, none⟩ (.int .i64 (xd + 1))) w2.heap.size #[.int .i64 (R + 1), .int .i64 C, .slice (some ⟨g, 0, none⟩) N cl] 28) := HR5.out.other _ _ (by show w2.heap.size ≠ g; omega)
          have HA6 : Hid (RowAt (w5.setCell ⟨g, i * 5 + 2, none⟩ (.int .i64 (xd + 1))) wr.heap.size #[.int .i64 xr, .int .i64 xc, .int .i64 xd, .int .i64 xg, .slice xa xn xq] 44) := HRA.out.other _ _ (by show wr.heap.size ≠ g; omega)
          have HK6 : Hid ((w5.setCell ⟨g, i * 5 + 2, none⟩ (.int .i64 (xd + 1))).ownsRow w1.heap.size 4 1 (.slice (some ⟨T, 0, none⟩) C C) C (boolL C (fun c : Nat => takenB t' (l.take i) c))) := own_set HK5.out _ _ (fun e => by simp [Value.ownBlock] at e; omega)
          have HB6 : Hid (Below w1.heap.size w1 (w5.setCell ⟨g, i * 5 + 2, none⟩ (.int .i64 (xd + 1)))) := HB5.out.setCell (p := ⟨g, i * 5 + 2, none⟩) hgB _
          have sz6 : wr.heap.size < (w5.setCell ⟨g, i * 5 + 2, none⟩ (.int .i64 (xd + 1))).heap.size := HA6.out.lt
          clear x0' x2' fz0' fz2' k2' y0 y2
          generalize (w5.setCell ⟨g, i * 5 + 2, none⟩ (.int .i64 (xd + 1))) = w6 at HP HR6 HA6 HK6 HB6 sz6 ⊢
          obtain ⟨S, hSe⟩ : ∃ S, wr.heap.size = S := ⟨_, rfl⟩
          rw [hSe] at HA6 sz6 hTl hglt hs' zG hgw ⊢
          clear HR5 HO5 HK5 HB5 HRA HRo HO HK HB s5 hSe
          go_wp2_with fail
          go_loopw [10] (fun kv wq => ∃ k : Nat, k ≤ xg ∧ kv = .int .i64 k ∧ RowAt wq S #[.int .i64 xr, .int .i64 xc, .int .i64 xd, .int .i64 xg, .slice xa xn xq] 44 ∧ RowAt wq w2.heap.size #[.int .i64 (R + 1), .int .i64 C, .slice (some ⟨g, 0, none⟩) N cl] 28 ∧ OwnT wq w1.heap.size (.slice (some ⟨g, 0, none⟩) N cl) (mix (inRw t') rs (i + 1)) (mix (inC t') l (i + 1)) ∧ wq.ownsRow w1.heap.size 4 1 (.slice (some ⟨T, 0, none⟩) C C) C (boolL C (fun c : Nat => takenB t' (l.take i) c || decide (xc ≤ c ∧ c < xc + k))) ∧ Below w1.heap.size w1 wq ∧ S < wq.heap.size) (fun kv _ => xg - (intOf kv).toNat)
          case atStart => exact ⟨0, Nat.zero_le _, rfl, HA6.out, HR6.out, HP.out, by
            rw [boolL_same (q := fun c : Nat => takenB t' (l.take i) c) (fun c _ => by rw [decide_eq_false (by omega), Bool.or_false])]
            exact HK6.out, HB6.out, sz6⟩
          case round =>
            clear HA6 HR6 HP HK6 HB6
            obtain ⟨k, hk, rfl, hA7, hR7, hO7, hK7, hb7, hs7⟩ := hrel
            have HA7 : Hid (RowAt wr S #[.int .i64 xr, .int .i64 xc, .int .i64 xd, .int .i64 xg, .slice xa xn xq] 44) := hA7
            have HR7 : Hid (RowAt wr w2.heap.size #[.int .i64 (R + 1), .int .i64 C, .slice (some ⟨g, 0, none⟩) N cl] 28) := hR7
            have HO7 : Hid (OwnT wr w1.heap.size (.slice (some ⟨g, 0, none⟩) N cl) (mix (inRw t') rs (i + 1)) (mix (inC t') l (i + 1))) := hO7
            have HK7 : Hid (wr.ownsRow w1.heap.size 4 1 (.slice (some ⟨T, 0, none⟩) C C) C (boolL C (fun c : Nat => takenB t' (l.take i) c || decide (xc ≤ c ∧ c < xc + k)))) := hK7
            have HB7 : Hid (Below w1.heap.size w1 wr) := hb7
            have u1 : wr.cell? ⟨S, 1, none⟩ = some (.int .i64 xc) := hA7.cell 1
            have u3 : wr.cell? ⟨S, 3, none⟩ = some (.int .i64 xg) := hA7.cell 3
            have hTl7 : w1.heap.size ≤ T := (own_lt hK7 rfl).1
            by_cases hlk : k < xg
            · have hck : (xc : Int) + k < C := by omega
              obtain ⟨b7, hb7c⟩ : ∃ b : Bool, wr.cell? ⟨T, xc + k, none⟩ = some (.bool b) := ⟨_, (hK7.cellAt (xc + k) (by omega)).trans (boolL_get C _ (xc + k) (by omega))⟩
              have hb7f := hK7.frozenAt (xc + k)
              clear hA7 hR7 hO7 hK7 hb7
              go_wp2_with fail
              go_roundw
              case rel =>
                obtain ⟨p1, -⟩ := HK7.out.stored (xc + k) (.bool true)
                rw [boolL_set] at p1
                refine ⟨k + 1, by omega, by go_num, HA7.out.other _ _ (by show S ≠ T; omega), HR7.out.other _ _ (by show w2.heap.size ≠ T; omega), ⟨own_set HO7.out.1 _ _ (fun e => by simp [Value.ownBlock] at e; omega), HO7.out.2.1, fun q hq => by
                  obtain ⟨h0, h1, h2, h3, h4⟩ := HO7.out.2.2.1 q hq
                  exact ⟨h0, h1, h2, h3, own_set h4 _ _ (fun e => own_kinds h4 HK7.out (by decide) T rfl e)⟩, HO7.out.2.2.2⟩, ?_, HB7.out.setCell (p := ⟨T, xc + k, none⟩) hTl7 _, by simp [World.setCell]; omega⟩
                rw [boolL_same (q := fun c : Nat => if c = xc + k then true else (takenB t' (l.take i) c || decide (xc ≤ c ∧ c < xc + k))) (fun c _ => by
                  by_cases hc : c = xc + k
                  · rw [if_pos hc, decide_eq_true (by omega), Bool.or_true]
                  · rw [if_neg hc]
                    congr 1
                    exact decide_eq_decide.2 (by omega))]
                exact p1
              case measure => simp [intOf]; omega
            · have ek : k = xg := by omega
              clear hA7 hR7 hO7 hK7 hb7
              go_wp2_with fail
              go_roundw
              case rel =>
                refine ⟨i + 1, by omega, by go_num, HR7.out, HO7.out, ?_, HB7.out, by omega⟩
                rw [HQ.out, ← ek]
                exact HK7.out
              case measure => simp [intOf]; omega
        · have hin1 : inRw t' (rs.getD i rw0) = rs.getD i rw0 := by
            rw [HXr.out]
            unfold inRw
            rw [if_neg (show ¬ t' ≤ xr from d1), if_neg (show ¬ t' < xr + xd from d2)]
          have hin2 : inC t' (l.getD i cl0) = l.getD i cl0 := by
            unfold inC
            rw [if_neg (by rw [← HRe.out.1]; exact d1), if_neg (by rw [← HRe.out.1, ← HRe.out.2.2.1]; exact d2)]
          have HM1 : Hid (mix (inRw t') rs (i + 1) = mix (inRw t') rs i) := mix_same _ _ _ rw0 hir hin1
          have HM2 : Hid (mix (inC t') l (i + 1) = mix (inC t') l i) := mix_same _ _ _ cl0 hil hin2
          have HQ : Hid (boolL C (fun c : Nat => takenB t' (l.take (i + 1)) c) = boolL C (fun c : Nat => takenB t' (l.take i) c)) := boolL_same (fun c _ => by
            rw [taken_take t' l i hil]
            have : overB t' (l.getD i cl0) c = false := decide_eq_false (by rw [← HRe.out.1, ← HRe.out.2.2.1]; omega)
            rw [this, Bool.or_false])
          clear hin1 hin2
          go_wp2_with fail
          go_roundw
          case rel =>
            refine ⟨i + 1, by omega, by go_num, HR5.out, ?_, ?_, HB5.out, by omega⟩
            · rw [HM1.out, HM2.out]
              exact HO5.out
            · rw [HQ.out]
              exact HK5.out
          case measure => simp [intOf]; omega
      · have e : i = N := by omega
        subst e
        have k2 : wr.cell? ⟨w2.heap.size, 2, none⟩ = some (.slice al i cl) := hR'.cell 2
        rw [mix_all _ _ _ (by have := HRL.out; have := HNN.out; omega), mix_all _ _ _ (by have := HNN.out; omega)] at hO'
        rw [List.take_of_length_le (by have := HNN.out; omega)] at hK'
        have HO1 : Hid (OwnT wr w1.heap.size (.slice al i cl) (rs.map (inRw t')) (l.map (inC t'))) := hO'
        have HK1 : Hid (wr.ownsRow w1.heap.size 4 1 (.slice (some ⟨T, 0, none⟩) C C) C (boolL C (fun c : Nat => takenB t' l c))) := hK'
        obtain ⟨p, HPd⟩ : ∃ p : Nat → Bool, Hid ((fun c : Nat => takenB t' l c) = p) := ⟨_, rfl⟩
        rw [HPd.out] at HK1
        have k1 : wr.cell? ⟨w.heap.size, 1, none⟩ = some (.int .i64 C) := (HB.out.cell (p := ⟨w.heap.size, 1, none⟩) (by show w.heap.size < w1.heap.size; omega)).trans HQ1.out
        clear hR' hO' hK' hb' HO HK
        obtain ⟨rs1, HRS⟩ : ∃ rs1, Hid (rs.map (inRw t') = rs1) := ⟨_, rfl⟩
        obtain ⟨l1, HLS⟩ : ∃ l1, Hid (l.map (inC t') = l1) := ⟨_, rfl⟩
        rw [HRS.out, HLS.out] at HO1
        have HNi : Hid (i = rs1.length) := HO1.out.1.len
        go_wp2_with fail
        clear k2
        go_loopw [11] (fun jv wr => ∃ (j : Nat) (a' : Option Addr) (c' m' : Nat), j ≤ C ∧ jv = .int .i64 j ∧ m' = i + (newRw t' p j).length ∧ RowAt wr w2.heap.size #[.int .i64 (R + 1), .int .i64 C, .slice a' m' c'] 28 ∧ OwnR wr w1.heap.size (.slice a' m' c') (rs1 ++ newRw t' p j) ∧ TxtOwn wr w1.heap.size (Value.slice a' m' c').ownBlock (rs1 ++ newRw t' p j) (l1 ++ newCl t' p j) ∧ wr.ownsRow w1.heap.size 4 1 (.slice (some ⟨T, 0, none⟩) C C) C (boolL C p) ∧ Below w1.heap.size w1 wr ∧ w4.heap.size ≤ wr.heap.size) (fun jv _ => C - (intOf jv).toNat)
        case atStart => exact ⟨0, al, cl, i, Nat.zero_le _, rfl, by simp [newRw], HRo.out, by simpa [newRw] using HO1.out.1, by simpa [newRw, newCl] using HO1.out.2, HK1.out, HB.out, hs'⟩
        case round =>
          clear HO1 HK1 HB HRo k1 hTl zG hs'
          obtain ⟨j, a', c', m', hj, rfl, hm', hR', hO', hX', hK', hb', hs'⟩ := hrel
          have hml := newRw_len t' p j
          have HM' : Hid (m' = i + (newRw t' p j).length) := hm'
          have HRo : Hid (RowAt wr w2.heap.size #[.int .i64 (R + 1), .int .i64 C, .slice a' m' c'] 28) := hR'
          have HO : Hid (OwnR wr w1.heap.size (.slice a' m' c') (rs1 ++ newRw t' p j)) := hO'
          have HXt : Hid (TxtOwn wr w1.heap.size (Value.slice a' m' c').ownBlock (rs1 ++ newRw t' p j) (l1 ++ newCl t' p j)) := hX'
          have HK : Hid (wr.ownsRow w1.heap.size 4 1 (.slice (some ⟨T, 0, none⟩) C C) C (boolL C p)) := hK'
          have HB : Hid (Below w1.heap.size w1 wr) := hb'
          have k1 : wr.cell? ⟨w.heap.size, 1, none⟩ = some (.int .i64 C) := (hb'.cell (p := ⟨w.heap.size, 1, none⟩) (by show w.heap.size < w1.heap.size; omega)).trans HQ1.out
          have k2 : wr.cell? ⟨w2.heap.size, 2, none⟩ = some (.slice a' m' c') := hR'.cell 2
          have zG := hR'.lt
          have hcap := hO'.rws.2.1
          have hcm := hO'.rws.2.2.1
          unfold maxLen at hcm
          have hm30 : m' ≤ 30 := by omega
          by_cases hlj : j < C
          · have t1 : wr.cell? ⟨T, j, none⟩ = some (.bool (p j)) := (hK'.cellAt j (by omega)).trans (boolL_get C p j hlj)
            clear hR' hO' hX' hK' hb' hm' hml
            cases hpj : p j
            · rw [hpj] at t1
              have HPj : Hid (p j = false) := hpj
              clear hpj
              go_wp2_with (at_builtin; refine wpList_append_own _ rfl (.tmp 102) (.tmp 106) 26 rfl w1.heap.size 44 i0 _ 5 56 Try.underlying26 hi hz0 hz1 hz2 rfl (by decide) (.slice a' m' c') _ _ rfl (HO.out.row.alloc _) ⟨wr.heap.size, 0, none⟩ 1 1 [.int .i64 t', .int .i64 (j : Int), .int .i64 1, .int .i64 1, .slice none 0 0] rfl rfl (cell_five_new _ _ _ _ _ _ _) (five_oneCell _ _ _ _ _ _ _) (by unfold maxLen; omega) (by omega) (by simp; omega) ?_; intro v' w5 hown' hgrow _; obtain ⟨a5, c5, rfl, ho5, hb5⟩ := ownR_step (B := w1.heap.size) (w := wr) (s := (t', (j : Int), 1, 1, none, 0, 0)) HO.out (Below.refl _ _) (by omega) hown' hgrow; have R5 := RowAt.grown (HRo.out.alloc _) hgrow (rowAt_ne HRo.out HO.out.row (by decide)); have q2 : w5.cell? ⟨w2.heap.size, 2, none⟩ = some (.slice a' m' c') := R5.cell 2; have q3 := R5.frozen 2)
              go_roundw
              case rel =>
                have s5 := hgrow.size
                simp at s5
                have eR : rs1 ++ newRw t' p (j + 1) = (rs1 ++ newRw t' p j) ++ [(t', (j : Int), 1, 1, none, 0, 0)] := by rw [newRw_put t' p j HPj.out, List.append_assoc]
                have eC : l1 ++ newCl t' p (j + 1) = (l1 ++ newCl t' p j) ++ [(t', (j : Int), 1, 1, [])] := by rw [newCl_put t' p j HPj.out, List.append_assoc]
                have t5 : TxtOwn w5 w1.heap.size (Value.slice a' m' c').ownBlock (rs1 ++ newRw t' p j) (l1 ++ newCl t' p j) := (HXt.out.below ((Below.refl _ _).alloc (Nat.le_refl _) _)).grown hgrow (fun k hk b hb => HXt.out.2.2.1 k hk b hb)
                have t6 := t5.snoc (C := wr.heap.size) (x := (t', (j : Int), 1, 1, none, 0, 0)) (y := (t', (j : Int), 1, 1, [])) (txt_nil_cell _ _ _ _) (fun b hb => by simp [rwT, Value.ownBlock] at hb) (fun k hk b hb => HXt.out.blockLt k hk b hb) (fun b hb => by simp [rwT, Value.ownBlock] at hb)
                have B5 : Below w1.heap.size w1 w5 := ((HB.out).alloc (by omega) _).grown hgrow (by simp; omega) (fun k hk => (own_lt HO.out.row hk).1)
                have hneG : (Value.slice a5 (m' + 1) c5).ownBlock ≠ some w2.heap.size := rowAt_ne R5 ho5.row (by decide)
                refine ⟨j + 1, a5, c5, m' + 1, by omega, by go_num, ?_, R5.setCell 2 (.slice a5 (m' + 1) c5), ?_, ?_, ?_, B5.setCell (p := ⟨w2.heap.size, 2, none⟩) s2 (.slice a5 (m' + 1) c5), by simp [World.setCell]; omega⟩
                · have e9 := HM'.out
                  rw [newRw_put t' p j HPj.out, List.length_append]
                  simp only [List.length_cons, List.length_nil]
                  omega
                · rw [eR]
                  exact own_set ho5 _ _ hneG
                · rw [eR, eC]
                  have t7 := t6.anew ho5
                  exact ⟨t7.1, fun q hq => by
                    obtain ⟨h0, h1, h2, h3, h4⟩ := t7.2.1 q hq
                    exact ⟨h0, h1, h2, h3, own_set h4 _ _ (rowAt_ne R5 h4 (by decide))⟩, t7.2.2⟩
                · exact own_set (own_grown (own_below HK.out ((Below.refl _ _).alloc (Nat.le_refl _) _)) hgrow (fun g hg e => own_kinds HO.out.row HK.out (by decide) g hg e)) _ _ (fun e => by simp [Value.ownBlock] at e; omega)
              case measure => simp [intOf]; omega
            · rw [hpj] at t1
              have HPj : Hid (p j = true) := hpj
              clear hpj
              go_wp2_with fail
              go_roundw
              case rel =>
                refine ⟨j + 1, a', c', m', by omega, by go_num, ?_, HRo.out, ?_, ?_, HK.out, HB.out, hs'⟩
                · rw [newRw_skip t' p j HPj.out]
                  exact HM'.out
                · rw [newRw_skip t' p j HPj.out]
                  exact HO.out
                · rw [newRw_skip t' p j HPj.out, newCl_skip t' p j HPj.out]
                  exact HXt.out
              case measure => simp [intOf]; omega
          · have e : j = C := by omega
            subst e
            clear hR' hO' hX' hK' hb' hm' hml
            go_upto_region 24 with (go_at_call 30; refine (l2Sort_any a' m' c' (rs1 ++ newRw t' p j) _ HO.out.rws (by omega)).mono ?_; rintro e w3 ⟨⟨a3, c3, rfl, ho3⟩, hb3⟩; have R3 := HRo.out.below hb3 zG; have q2 : w3.cell? ⟨w2.heap.size, 2, none⟩ = some (.slice a' m' c') := R3.cell 2; have q3 := R3.frozen 2)
            have sz3 := hb3.size
            have R4 : RowAt (w3.setCell ⟨w2.heap.size, 2, none⟩ (.slice a3 m' c3)) w2.heap.size #[.int .i64 (R + 1), .int .i64 j, .slice a3 m' c3] 28 := R3.setCell 2 (.slice a3 m' c3)
            have B4 : Below w1.heap.size w1 (w3.setCell ⟨w2.heap.size, 2, none⟩ (.slice a3 m' c3)) := (HB.out.trans (hb3.mono (by omega))).setCell (p := ⟨w2.heap.size, 2, none⟩) s2 _
            have O4 : OwnR (w3.setCell ⟨w2.heap.size, 2, none⟩ (.slice a3 m' c3)) w1.heap.size (.slice a3 m' c3) (sortR (rs1 ++ newRw t' p j)) := own_set (own_less ho3 (by omega)) _ _ (rowAt_ne R3 ho3.row (by decide))
            have T4 : TxtOwn (w3.setCell ⟨w2.heap.size, 2, none⟩ (.slice a3 m' c3)) w1.heap.size (Value.slice a3 m' c3).ownBlock (sortR (rs1 ++ newRw t' p j)) (sortC (l1 ++ newCl t' p j)) := by
              have t7 := (HXt.out.sort).below hb3
              have t8 : TxtOwn (w3.setCell ⟨w2.heap.size, 2, none⟩ (.slice a3 m' c3)) w1.heap.size (Value.slice a' m' c').ownBlock (sortR (rs1 ++ newRw t' p j)) (sortC (l1 ++ newCl t' p j)) := ⟨t7.1, fun q hq => by
                obtain ⟨h0, h1, h2, h3, h4⟩ := t7.2.1 q hq
                exact ⟨h0, h1, h2, h3, own_set h4 _ _ (rowAt_ne R3 h4 (by decide))⟩, t7.2.2⟩
              exact t8.anew O4
            have HEL : Hid (sortC (l1 ++ newCl t' p j) = inL t' j l) := by
              show sortC (l1 ++ newCl t' p j) = sortC (inM t' j l)
              unfold inM newI newCl
              rw [← HLS.out, ← HPd.out, Int.toNat_natCast]
            rw [HEL.out] at T4
            have HML : Hid (m' = (inL t' j l).length) := by
              show m' = (inL t' j l).length
              have e1 := O4.len
              have e2 := T4.1
              omega
            clear q2 q3 R3 k1 k2 ho3
            generalize (w3.setCell ⟨w2.heap.size, 2, none⟩ (.slice a3 m' c3)) = w5 at R4 B4 O4 T4 ⊢
            have HO4 : Hid (OwnR w5 w1.heap.size (.slice a3 m' c3) (sortR (rs1 ++ newRw t' p j))) := O4
            have HT4 : Hid (TxtOwn w5 w1.heap.size (Value.slice a3 m' c3).ownBlock (sortR (rs1 ++ newRw t' p j)) (inL t' j l)) := T4
            have HB4 : Hid (Below w1.heap.size w1 w5) := B4
            have k0 : w5.cell? ⟨w2.heap.size, 0, none⟩ = some (.int .i64 (R + 1)) := R4.cell 0
            have k1 : w5.cell? ⟨w2.heap.size, 1, none⟩ = some (.int .i64 j) := R4.cell 1
            have k2 : w5.cell? ⟨w2.heap.size, 2, none⟩ = some (.slice a3 m' c3) := R4.cell 2
            have HG4 : Hid (RowAt w5 (w.heap.size + 1) #[.int .i64 0, .int .i64 0, .slice none 0 0] 28) := HG2.out.below B4 (by omega)
            clear O4 T4 B4 R4
            go_wp2_with (refine wpList_store_row rfl 28 (.tmp 4) (.tmp 113) rfl (w.heap.size + 1) #[.int .i64 (R + 1), .int .i64 j, .slice a3 m' c3] rfl rfl 28 _ HG4.out tab_info rfl (cells3_one _ _ _ _ _) ?_)
            refine bodyPost_ret (v := .tuple #[.agg #[.int .i64 (R + 1), .int .i64 j, .slice a3 m' c3], .bool true]) ?_ rfl ⟨.inr ⟨HYB.out, a3, c3, sortR (rs1 ++ newRw t' p j), by rw [← HML.out], ?_⟩, below_row ((HB0.out.trans (hb1.mono s0)).trans (HB4.out.mono (by omega))) (by omega) _⟩
            · rw [results_cell_tmp rfl]
              simp [asAddr, Result.andThen, run_tabOf (RowAt.setRow HG4.out #[.int .i64 (R + 1), .int .i64 j, .slice a3 m' c3])]
            · rw [← HML.out]
              exact OwnT.less (B' := w1.heap.size) ⟨own_row HO4.out _ _ (fun e => by have := (own_lt HO4.out.row e).1; omega), HT4.out.rowLow _ _ (by omega)⟩ (by omega)
end Go.Proofs.Yteghidjbcpmfbaa
