import Derived.Test.YtdcebaneobkcoaaBA5
import Derived.Test.YtdcebaneobkcoaaBA6
import Derived.Test.YtdcebaneobkcoaaBA4
import Derived.Test.YtdcebaneobkcoaaBA1
namespace Go.Proofs.Ytdcebaneobkcoaa
open Go.RowKit

theorem outl_iff (d : List Bl) : outlB d = true ↔ d.length ≤ 8 ∧ ∀ k, k < d.length → partOkB (d.getD k bl0) = true ∧ lvN (d.getD k bl0) ≤ aheadN d k + 1 := by
  unfold outlB
  rw [Bool.and_eq_true, decide_eq_true_eq, List.all_eq_true]
  constructor
  · rintro ⟨h1, h2⟩
    refine ⟨h1, fun k hk => ?_⟩
    have := h2 k (List.mem_range.2 hk)
    unfold outK at this
    rw [Bool.and_eq_true] at this
    refine ⟨this.1, ?_⟩
    have h3 := this.2
    rw [Bool.not_eq_true', decide_eq_false_iff_not] at h3
    omega
  · rintro ⟨h1, h2⟩
    refine ⟨h1, fun k hk => ?_⟩
    obtain ⟨h3, h4⟩ := h2 k (List.mem_range.1 hk)
    unfold outK
    rw [Bool.and_eq_true]
    refine ⟨h3, ?_⟩
    rw [Bool.not_eq_true', decide_eq_false_iff_not]
    omega
end Go.Proofs.Ytdcebaneobkcoaa
namespace Go.Proofs.Ytdcebaneobkcoaa
open Go.RowKit

theorem getD_set_self {d : List Bl} {i : Nat} {x : Bl} (h : i < d.length) : (d.set i x).getD i bl0 = x := by simp [List.getD, h]
theorem getD_set_other {d : List Bl} {i k : Nat} {x : Bl} (h : i ≠ k) : (d.set i x).getD k bl0 = d.getD k bl0 := by simp [List.getD, List.getElem?_set_ne h]
theorem ahead_ge {d : List Bl} (h : ∀ k, k < d.length → partOkB (d.getD k bl0) = true) {k : Nat} (hk : k ≤ d.length) : -1 ≤ aheadN d k := by
  unfold aheadN
  by_cases h0 : k = 0
  · rw [if_pos h0]; omega
  · rw [if_neg h0]
    exact (lv_small (h (k - 1) (by omega))).1
/-- An item of level 0 in a paragraph's place is in order. -/
theorem enl_ok {d d' : List Bl} {i : Nat} (h : outlB d = true) (hi : i < d.length) (e : enlF d i = some d') : outlB d' = true := by
  unfold enlF at e
  by_cases h1 : (d.getD i bl0).1 = 1
  · rw [if_pos h1] at e
    cases e
    obtain ⟨h8, hk⟩ := (outl_iff d).1 h
    have ha : ∀ {k : Nat}, k ≤ d.length → -1 ≤ aheadN d k := fun hk' => ahead_ge (fun k hk' => (hk k hk').1) hk'
    have hl1 : lvN (d.getD i bl0) = -1 := by unfold lvN; rw [if_neg (by omega)]
    refine (outl_iff _).2 ⟨by simpa using h8, fun k hkl => ?_⟩
    rw [List.length_set] at hkl
    have hah : aheadN (d.set i (2, 0, (d.getD i bl0).2.2.1, 0, 0, [])) k = if k = i + 1 then 0 else aheadN d k := by
      unfold aheadN
      by_cases h0 : k = 0
      · rw [if_pos h0, if_neg (by omega), if_pos h0]
      · rw [if_neg h0, if_neg h0]
        by_cases hki : k = i + 1
        · rw [if_pos hki, show k - 1 = i by omega, getD_set_self hi]
          rfl
        · rw [if_neg hki, getD_set_other (by omega)]
    rw [hah]
    by_cases hki : i = k
    · subst hki
      rw [getD_set_self hi, if_neg (by omega)]
      have := ha (k := i) (by omega)
      refine ⟨?_, ?_⟩
      · have hp := (hk i hi).1
        unfold partOkB at hp ⊢
        rw [if_pos h1] at hp
        simp
        exact hp
      · show (0 : Int) ≤ _
        omega
    · rw [getD_set_other hki]
      refine ⟨(hk k hkl).1, ?_⟩
      have := (hk k hkl).2
      by_cases hk1 : k = i + 1
      · rw [if_pos hk1]
        subst hk1
        unfold aheadN at this
        rw [if_neg (by omega), show i + 1 - 1 = i by omega, hl1] at this
        omega
      · rw [if_neg hk1]
        exact this
  · rw [if_neg h1] at e
    cases e
theorem deep_get {d : List Bl} {i : Nat} {z : Int} {k : Nat} (hk : k < d.length) : (deepL d i z).getD k bl0 = if i ≤ k ∧ k < endL d i then bump z (d.getD k bl0) else d.getD k bl0 := deepTo_get hk
theorem lv_bump {x : Bl} {z : Int} (h : x.1 = 2) : lvN (bump z x) = lvN x + z := by
  unfold lvN bump
  simp only
  rw [if_pos h, if_pos h]
theorem endL_next {d : List Bl} {i : Nat} (hi : i < d.length) (h : endL d i < d.length) : lvN (d.getD (endL d i) bl0) ≤ lvN (d.getD i bl0) := by
  by_cases hq : lvN (d.getD (endL d i) bl0) ≤ lvN (d.getD i bl0)
  · exact hq
  · exfalso
    have h1 : lvN (d.getD i bl0) < lvN (d.getD (endL d i) bl0) := by omega
    -- then one more were below
    obtain ⟨E, hE⟩ : ∃ E, E = endL d i := ⟨_, rfl⟩
    have hge : i + 1 ≤ E := by rw [hE]; unfold endL; omega
    have hex : ∃ F, E < F ∧ F ≤ d.length ∧ endL d i = F := by
      have key : ∀ (n F : Nat), d.length - F = n → E < F → F ≤ d.length → (∀ k, i < k → k < F → lvN (d.getD i bl0) < lvN (d.getD k bl0)) → ∃ F, E < F ∧ F ≤ d.length ∧ endL d i = F := by
        intro n
        induction n with
        | zero =>
          intro F hn hF hFl hall
          exact ⟨F, hF, hFl, endL_of (by omega) hFl hall (fun h => by omega)⟩
        | succ n ih =>
          intro F hn hF hFl hall
          by_cases hd : lvN (d.getD i bl0) < lvN (d.getD F bl0)
          · exact ih (F + 1) (by omega) (by omega) (by omega) (fun k h1 h2 => by
              by_cases e : k = F
              · subst e; exact hd
              · exact hall k h1 (by omega))
          · exact ⟨F, hF, hFl, endL_of (by omega) hFl hall (fun _ => hd)⟩
      refine key (d.length - (E + 1)) (E + 1) rfl (by omega) (by omega) (fun k h2 h3 => ?_)
      by_cases e : k = E
      · rw [e, hE]; exact h1
      · exact endL_deeper hi h2 (by omega)
    obtain ⟨F, hF, -, he⟩ := hex
    omega
theorem lift_ok {d d' : List Bl} {i : Nat} (h : outlB d = true) (hi : i < d.length) (e : liftF d i = some d') : outlB d' = true := by
  unfold liftF at e
  by_cases h1 : (d.getD i bl0).1 = 2
  · rw [if_pos h1] at e
    obtain ⟨h8, hk⟩ := (outl_iff d).1 h
    have ha : ∀ {k : Nat}, k ≤ d.length → -1 ≤ aheadN d k := fun hk' => ahead_ge (fun k hk' => (hk k hk').1) hk'
    have hl1 : lvN (d.getD i bl0) = (d.getD i bl0).2.1 := by unfold lvN; rw [if_pos h1]
    have hg := group_items h hi h1
    by_cases h2 : 0 < (d.getD i bl0).2.1
    · rw [if_pos h2] at e
      cases e
      have hE1 : i + 1 ≤ endL d i := by unfold endL; omega
      have hE2 := endL_le (d := d) (i := i) hi
      have hlv : ∀ k, k < d.length → lvN ((deepL d i (-1)).getD k bl0) = if i ≤ k ∧ k < endL d i then lvN (d.getD k bl0) - 1 else lvN (d.getD k bl0) := fun k hkl => by
        rw [deep_get hkl]
        by_cases hin : i ≤ k ∧ k < endL d i
        · rw [if_pos hin, if_pos hin, lv_bump (hg k hin.1 hin.2).1]
          omega
        · rw [if_neg hin, if_neg hin]
      have hgr : ∀ k, i ≤ k → k < endL d i → (d.getD i bl0).2.1 ≤ lvN (d.getD k bl0) := fun k a b => by
        by_cases e : k = i
        · subst e; rw [hl1]; omega
        · have := endL_deeper hi (by omega) b
          rw [hl1] at this
          omega
      refine (outl_iff _).2 ⟨by rw [deepL, deepTo_len]; exact h8, fun k hkl => ?_⟩
      rw [deepL, deepTo_len] at hkl
      refine ⟨?_, ?_⟩
      · rw [deep_get hkl]
        by_cases hin : i ≤ k ∧ k < endL d i
        · rw [if_pos hin]
          obtain ⟨g2, g0, g3⟩ := hg k hin.1 hin.2
          have hp := (hk k hkl).1
          have hlo := hgr k hin.1 hin.2
          unfold lvN at hlo
          rw [if_pos g2] at hlo
          unfold partOkB at hp ⊢
          unfold bump
          simp only
          rw [if_neg (by omega), if_pos g2, Bool.and_eq_true, decide_eq_true_eq] at hp
          rw [if_neg (by omega), if_pos g2, Bool.and_eq_true, decide_eq_true_eq]
          exact ⟨by omega, hp.2⟩
        · rw [if_neg hin]
          exact (hk k hkl).1
      · have hold := (hk k hkl).2
        rw [hlv k hkl]
        unfold aheadN at hold ⊢
        by_cases hk0 : k = 0
        · rw [if_pos hk0] at hold ⊢
          by_cases hin : i ≤ k ∧ k < endL d i
          · rw [if_pos hin]; omega
          · rw [if_neg hin]; exact hold
        · rw [if_neg hk0] at hold ⊢
          rw [hlv (k - 1) (by omega)]
          by_cases hin : i ≤ k ∧ k < endL d i
          · rw [if_pos hin]
            by_cases hin' : i ≤ k - 1 ∧ k - 1 < endL d i
            · rw [if_pos hin']; omega
            · rw [if_neg hin']; omega
          · rw [if_neg hin]
            by_cases hin' : i ≤ k - 1 ∧ k - 1 < endL d i
            · rw [if_pos hin']
              have hke : k = endL d i := by omega
              have hn := endL_next hi (by rw [← hke]; exact hkl)
              rw [← hke, hl1] at hn
              have := hgr (k - 1) hin'.1 hin'.2
              omega
            · rw [if_neg hin']; exact hold
    · rw [if_neg h2] at e
      by_cases h3 : endL d i = i + 1
      · rw [if_pos h3] at e
        cases e
        have h0 : (d.getD i bl0).2.1 = 0 := by
          have := (hg i (Nat.le_refl _) (by omega)).2.1
          omega
        refine (outl_iff _).2 ⟨by simpa using h8, fun k hkl => ?_⟩
        rw [List.length_set] at hkl
        have hah : aheadN (d.set i (1, 0, (d.getD i bl0).2.2.1, 0, 0, [])) k = if k = i + 1 then -1 else aheadN d k := by
          unfold aheadN
          by_cases hk0 : k = 0
          · rw [if_pos hk0, if_neg (by omega), if_pos hk0]
          · rw [if_neg hk0, if_neg hk0]
            by_cases hki : k = i + 1
            · rw [if_pos hki, show k - 1 = i by omega, getD_set_self hi]
              rfl
            · rw [if_neg hki, getD_set_other (by omega)]
        rw [hah]
        by_cases hki : i = k
        · subst hki
          rw [getD_set_self hi, if_neg (by omega)]
          have := ha (k := i) (by omega)
          refine ⟨?_, ?_⟩
          · have hp := (hk i hi).1
            unfold partOkB at hp ⊢
            rw [if_neg (by omega), if_pos h1, Bool.and_eq_true] at hp
            simp
            exact hp.2
          · show (-1 : Int) ≤ _
            omega
        · rw [getD_set_other hki]
          refine ⟨(hk k hkl).1, ?_⟩
          by_cases hk1 : k = i + 1
          · rw [if_pos hk1]
            have hn := endL_next hi (by rw [h3, ← hk1]; exact hkl)
            rw [h3, ← hk1, hl1, h0] at hn
            omega
          · rw [if_neg hk1]
            exact (hk k hkl).2
      · rw [if_neg h3] at e
        cases e
  · rw [if_neg h1] at e
    cases e
end Go.Proofs.Ytdcebaneobkcoaa
namespace Go.Proofs.Ytdcebaneobkcoaa
open Go.RowKit

/-- What is sunk is lifted again. -/
theorem sink_lift {d x : List Bl} {z : Int} (h : docF sinkF d z = some x) : docF liftF x z = some d ∧ docB x = true := by
  unfold docF at h
  split at h
  · rename_i hc
    obtain ⟨hd, hz0, hz1⟩ := hc
    obtain ⟨i, rfl⟩ : ∃ i : Nat, z = i := ⟨z.toNat, by omega⟩
    have hi : i < d.length := by omega
    simp only [Int.toNat_natCast] at h ⊢
    obtain ⟨h8, hall, hou⟩ := docB_parts hd
    cases he : sinkF d i with
    | none => rw [he] at h; simp at h
    | some d' =>
      rw [he] at h
      simp only [Option.bind_some] at h
      split at h
      · rename_i ho
        cases h
        obtain ⟨hf, hl⟩ := sinkF_form hall hou hi he
        have hx : docB x = true := (doc_parts2 x).2 ⟨by omega, hf, ho⟩
        refine ⟨?_, hx⟩
        unfold sinkF at he
        split at he
        · rename_i h1
          cases he
          have hit : ∀ k, i ≤ k → k < endL d i → (d.getD k bl0).1 = 2 := fun k hk hk' => (group_items hou hi h1 k hk hk').1
          have hle := endL_le hi
          have hge : i + 1 ≤ endL d i := by unfold endL; omega
          have gin : ∀ k, i ≤ k → k < endL d i → (deepL d i 1).getD k bl0 = bump 1 (d.getD k bl0) := fun k hk hk' => by rw [deep_get (by omega), if_pos ⟨hk, hk'⟩]
          have lin : ∀ k, i ≤ k → k < endL d i → lvN ((deepL d i 1).getD k bl0) = lvN (d.getD k bl0) + 1 := fun k hk hk' => by rw [gin k hk hk', lv_bump (hit k hk hk')]
          have hend : endL (deepL d i 1) i = endL d i := by
            refine endL_of hge (by rw [hl]; exact hle) (fun k hk hk' => ?_) (fun hk => ?_)
            · rw [lin i (Nat.le_refl _) (by omega), lin k (by omega) hk']
              have := endL_deeper hi hk hk'
              omega
            · rw [hl] at hk
              rw [lin i (Nat.le_refl _) (by omega), deep_get hk, if_neg (by omega)]
              have := endL_next hi hk
              omega
          have hk2 : ((deepL d i 1).getD i bl0).1 = 2 := by rw [gin i (Nat.le_refl _) (by omega)]; exact h1
          have hlv : ((deepL d i 1).getD i bl0).2.1 = (d.getD i bl0).2.1 + 1 := by rw [gin i (Nat.le_refl _) (by omega)]; rfl
          have hpos := (group_items hou hi h1 i (Nat.le_refl _) (by omega)).2.1
          have hlf : liftF (deepL d i 1) i = some d := by
            unfold liftF
            rw [if_pos hk2, if_pos (by omega)]
            congr 1
            refine bl_ext ?_ (fun k hk => ?_)
            · show (deepTo (deepL d i 1) i (-1) _).length = d.length
              rw [deepTo_len, hl]
            · rw [deep_get (by rw [hl]; exact hk), hend]
              by_cases hin : i ≤ k ∧ k < endL d i
              · rw [if_pos hin, gin k hin.1 hin.2]
                unfold bump
                obtain ⟨y1, y2, y3⟩ := d.getD k bl0
                show (y1, y2 + 1 + -1, y3) = (y1, y2, y3)
                rw [show y2 + 1 + -1 = y2 by omega]
              · rw [if_neg hin, deep_get hk, if_neg hin]
          unfold docF
          rw [if_pos ⟨hx, by omega, by omega⟩]
          simp only [Int.toNat_natCast]
          rw [hlf]
          simp [hou]
        · cases he
      · cases h
  · cases h
end Go.Proofs.Ytdcebaneobkcoaa
namespace Go.Proofs.Ytdcebaneobkcoaa
open Go.RowKit

/-- Whether a block is an item of an ok document. -/
def itemB (d : List Bl) (z : Int) : Bool := docB d && (decide (0 ≤ z ∧ z ≤ (d.length : Int) - 1) && decide ((d.getD z.toNat bl0).1 = 2))
set_option maxRecDepth 100000 in
set_option maxHeartbeats 4000000 in
theorem l3Item_is {a : Option Addr} {n cap : Nat} {d : List Bl} {z : Int} {w : World} {x : Bool} (hx : itemB d z = x) (h : Dc w a n cap d) :
    Calls Try.prog 53 #[.agg #[.slice a n cap], .int .i64 z] w fun e w' => e = .returned (.bool x) ∧ Below w.heap.size w w' := by
  have HN : Hid (n = d.length) := h.1
  have hc := h.2.1
  have hm := h.2.2.1
  unfold maxLen at hm
  have H : Hid (Dc w a n cap d) := h
  have HX : Hid (itemB d z = x) := hx
  clear h hx
  obtain ⟨y, HY⟩ : ∃ y, Hid (docB d = y) := ⟨_, rfl⟩
  go_enter Try.func53, Try.ntmps53
  go_upto_region 1 with fail
  have B0 : Below w.heap.size w (w.alloc (.cells #[.slice a n cap] 25)) := (Below.refl _ _).alloc (Nat.le_refl _) _
  have G0 : RowAt (w.alloc (.cells #[.slice a n cap] 25)) w.heap.size #[.slice a n cap] 25 := rowAt_new _ _ _
  generalize (w.alloc (.cells #[.slice a n cap] 25)) = v0 at B0 G0 ⊢
  have k0 : v0.cell? ⟨w.heap.size, 0, none⟩ = some (.slice a n cap) := G0.cell 0
  have l0 := G0.lt
  have HG : Hid (RowAt v0 w.heap.size #[.slice a n cap] 25) := G0
  have HB0 : Hid (Below w.heap.size w v0) := B0
  have HD0 : Hid (Dc v0 a n cap d) := H.out.below B0
  have s0 := B0.size
  clear G0 B0
  cases y
  · have hxf : x = false := by rw [← HX.out]; unfold itemB; rw [HY.out]; rfl
    subst hxf
    go_wp2_with (go_at_call 13; refine (specDocOk_is HY.out HD0.out).mono ?_; rintro e w1 ⟨rfl, hb1⟩)
    go_ret
    exact ⟨rfl, HB0.out.trans (hb1.mono s0)⟩
  · have HX2 : Hid ((decide (0 ≤ z ∧ z ≤ (n : Int) - 1) && decide ((d.getD z.toNat bl0).1 = 2)) = x) := by
      show (decide (0 ≤ z ∧ z ≤ (n : Int) - 1) && decide ((d.getD z.toNat bl0).1 = 2)) = x
      rw [← HX.out]
      unfold itemB
      rw [HY.out, HN.out]
      rfl
    clear HX
    have CALL1 : Hid (∀ u, Calls Try.prog 44 #[.int .i64 z, .int .i64 0, .int .i64 ((n : Int) - 1)] u fun e w' => e = .returned (.bool (decide (0 ≤ z ∧ z ≤ (n : Int) - 1))) ∧ w' = u) := fun u => l6In_gen _ _ _ u
    by_cases hz : 0 ≤ z ∧ z ≤ (n : Int) - 1
    · rw [decide_eq_true hz] at CALL1 HX2
      obtain ⟨hz0, hz1⟩ := hz
      obtain ⟨i, rfl⟩ : ∃ i : Nat, z = i := ⟨z.toNat, by omega⟩
      have hzn : (i : Int) < (n : Int) := by omega
      have hid : i < d.length := by have := HN.out; omega
      rcases HD0.out.2.2.2 with e | ⟨b, off, rfl, hbl, hcl⟩
      · rw [e] at hid
        exact absurd hid (by simp)
      obtain ⟨ta, tn, tc, ca, cn, cc, hblk⟩ := hcl i hid
      have c0 := hblk.1
      obtain ⟨K, HK⟩ : ∃ K, Hid ((d.getD i bl0).1 = K) := ⟨_, rfl⟩
      rw [HK.out] at c0
      have HX3 : Hid (decide (K = 2) = x) := by
        have := HX2.out
        simp only [Int.toNat_natCast, Bool.true_and, HK.out] at this
        exact this
      clear hcl hblk HX2
      have hkx : (K == 2) = x := by rw [← HX3.out]; rfl
      cases x
      · have hk2 : ¬ K = 2 := by have := HX3.out; simpa using this
        go_wp2_with (first | (go_at_call 13; refine (specDocOk_is HY.out HD0.out).mono ?_; rintro e w1 ⟨rfl, hb1⟩; have k1 := (HG.out.below hb1 l0).cell 0; simp at k1; have c1 := (hb1.cell (p := ⟨b, off + i * 6, none⟩) hbl).trans c0) | (go_at_call 44; refine (CALL1.out _).mono ?_; rintro e w2 ⟨rfl, hw2⟩; subst w2))
        go_ret
        exact ⟨rfl, HB0.out.trans (hb1.mono s0)⟩
      · have hk2 : K = 2 := by have := HX3.out; simpa using this
        subst hk2
        go_wp2_with (first | (go_at_call 13; refine (specDocOk_is HY.out HD0.out).mono ?_; rintro e w1 ⟨rfl, hb1⟩; have k1 := (HG.out.below hb1 l0).cell 0; simp at k1; have c1 := (hb1.cell (p := ⟨b, off + i * 6, none⟩) hbl).trans c0) | (go_at_call 44; refine (CALL1.out _).mono ?_; rintro e w2 ⟨rfl, hw2⟩; subst w2))
        go_ret
        exact ⟨rfl, HB0.out.trans (hb1.mono s0)⟩
    · rw [decide_eq_false hz] at CALL1 HX2
      have hxf : x = false := by rw [← HX2.out]; rfl
      subst hxf
      clear hz
      go_wp2_with (first | (go_at_call 13; refine (specDocOk_is HY.out HD0.out).mono ?_; rintro e w1 ⟨rfl, hb1⟩; have k1 := (HG.out.below hb1 l0).cell 0; simp at k1) | (go_at_call 44; refine (CALL1.out _).mono ?_; rintro e w2 ⟨rfl, hw2⟩; subst w2))
      go_ret
      exact ⟨rfl, HB0.out.trans (hb1.mono s0)⟩
/-- What l3Below reads. -/
def Read3 (w' : World) (g : Nat) (s : Value) (b o1 o2 : Nat) (K V V0 : Int) : Prop := RowAt w' g #[s] 25 ∧ w'.cell? ⟨b, o1, none⟩ = some (.int .i64 K) ∧ w'.cell? ⟨b, o1 + 1, none⟩ = some (.int .i64 V) ∧ w'.cell? ⟨b, o2 + 1, none⟩ = some (.int .i64 V0)
set_option maxRecDepth 100000 in
set_option maxHeartbeats 8000000 in
theorem l3Below_any {a : Option Addr} {n cap : Nat} {d : List Bl} {i : Nat} {w : World} (h : Dc w a n cap d) (hi : i < n) (hn : n ≤ 8) (h2 : (d.getD i bl0).1 = 2) (hv : 0 ≤ (d.getD i bl0).2.1) :
    Calls Try.prog 54 #[.agg #[.slice a n cap], .int .i64 i] w fun e w' => e = .returned (.int .i64 (belL d i)) ∧ Below w.heap.size w w' := by
  have HN : Hid (n = d.length) := h.1
  have hc := h.2.1
  have hm := h.2.2.1
  unfold maxLen at hm
  have H : Hid (Dc w a n cap d) := h
  have HLV : Hid (lvN (d.getD i bl0) = (d.getD i bl0).2.1) := by
    show lvN (d.getD i bl0) = _
    unfold lvN
    rw [if_pos h2]
  have HV : Hid (0 ≤ (d.getD i bl0).2.1) := hv
  clear h h2 hv
  go_enter Try.func54, Try.ntmps54
  go_upto_region 1 with fail
  have B0 : Below w.heap.size w (w.alloc (.cells #[.slice a n cap] 25)) := (Below.refl _ _).alloc (Nat.le_refl _) _
  have G0 : RowAt (w.alloc (.cells #[.slice a n cap] 25)) w.heap.size #[.slice a n cap] 25 := rowAt_new _ _ _
  generalize (w.alloc (.cells #[.slice a n cap] 25)) = v0 at B0 G0 ⊢
  have HG : Hid (RowAt v0 w.heap.size #[.slice a n cap] 25) := G0
  have HB0 : Hid (Below w.heap.size w v0) := B0
  have HD0 : Hid (Dc v0 a n cap d) := H.out.below B0
  have s0 := B0.size
  have l0 := G0.lt
  clear G0 B0
  go_wp2_with fail
  go_loopw [5, 6] (fun nv ev wr => ∃ (e : Nat), i + 1 ≤ e ∧ e ≤ n ∧ ev = .int .i64 e ∧ nv = .int .i64 ((e : Int) - (i : Int) - 1) ∧ (∀ k, i < k → k < e → lvN (d.getD i bl0) < lvN (d.getD k bl0)) ∧ Below v0.heap.size v0 wr) (fun _ ev _ => n - (intOf ev).toNat)
  case atStart => exact ⟨i + 1, Nat.le_refl _, by omega, by go_num, by congr 1; omega, fun k h1 h2 => by omega, Below.refl _ _⟩
  case round =>
    obtain ⟨e, he1, he2, rfl, rfl, hall, hb⟩ := hrel
    have HAll : Hid (∀ k, i < k → k < e → lvN (d.getD i bl0) < lvN (d.getD k bl0)) := hall
    have HB : Hid (Below v0.heap.size v0 wr) := hb
    have HGr : Hid (RowAt wr w.heap.size #[.slice a n cap] 25) := HG.out.below hb l0
    have hid : i < d.length := by have := HN.out; omega
    clear hall
    rcases HD0.out.2.2.2 with q | ⟨b, off, rfl, hbl, hcl⟩
    · rw [q] at hid
      exact absurd hid (by simp)
    have hib : (i : Int) < (n : Int) := by omega
    have hi0 : (0 : Int) ≤ (i : Int) := by omega
    have he0 : (0 : Int) ≤ (e : Int) := by omega
    by_cases hlt : e < n
    · have hed : e < d.length := by have := HN.out; omega
      have heb : (e : Int) < (n : Int) := by omega
      obtain ⟨ta, tn, tc, ca, cn, cc, hb1⟩ := (hcl i hid).below hb hbl
      obtain ⟨ta', tn', tc', ca', cn', cc', hb2⟩ := (hcl e hed).below hb hbl
      have q1 := hb1.2.1
      have q2 := hb2.1
      have q3 := hb2.2.1
      obtain ⟨V0, HV0⟩ : ∃ V, Hid ((d.getD i bl0).2.1 = V) := ⟨_, rfl⟩
      obtain ⟨K, HK⟩ : ∃ V, Hid ((d.getD e bl0).1 = V) := ⟨_, rfl⟩
      obtain ⟨V, HVe⟩ : ∃ V, Hid ((d.getD e bl0).2.1 = V) := ⟨_, rfl⟩
      have HQ : Hid (lvN (d.getD i bl0) < lvN (d.getD e bl0) ↔ (K = 2 ∧ V0 < V)) := by
        show lvN (d.getD i bl0) < lvN (d.getD e bl0) ↔ (K = 2 ∧ V0 < V)
        have h1 := HLV.out
        have h2 := HV.out
        rw [h1, HV0.out]
        rw [HV0.out] at h2
        unfold lvN
        rw [HK.out, HVe.out]
        by_cases hk : K = 2
        · rw [if_pos hk]; simp [hk]
        · rw [if_neg hk]; simp [hk]; omega
      rw [HV0.out] at q1
      rw [HK.out] at q2
      rw [HVe.out] at q3
      have HR : Hid (Read3 wr w.heap.size (.slice (some ⟨b, off, none⟩) n cap) b (off + e * 6) (off + i * 6) K V V0) := ⟨HGr.out, q2, q3, q1⟩
      clear hb hb1 hb2 q1 q2 q3 hcl
      by_cases hk2 : K = 2
      · subst hk2
        obtain ⟨x, HX⟩ : ∃ x, Hid (decide (V0 < V) = x) := ⟨_, rfl⟩
        go_wp2_with fail
        refine wp_region_noPanic ?_
        refine wp_region_held_drew (S := fun w' => Read3 w' w.heap.size (.slice (some ⟨b, off, none⟩) n cap) b (off + e * 6) (off + i * 6) 2 V V0) (by kernel_rfl) HR.out (fun hHeld => ?_)
        have HBd : Hid (Below v0.heap.size v0 wr.drew) := HB.out.drew
        generalize wr.drew = u0 at hHeld HBd ⊢
        clear HB HR
        refine take_at 0 9 (.int .i64 e) rfl rfl (by kernel_rfl) (by kernel_rfl) (by kernel_rfl) (fun _ _ _ h => h) (Or.inl ⟨by kernel_rfl, fun w' hS' => by go_simp⟩) hHeld ?_
        (try simp only [Act.put, List.setIfInBounds_toArray, List.set_cons_zero, List.set_cons_succ])
        refine take_at 1 10 (.pointer (some ⟨w.heap.size, 0, none⟩)) rfl rfl (by kernel_rfl) (by kernel_rfl) (by kernel_rfl) (fun _ _ _ h => h) (Or.inl ⟨by kernel_rfl, fun w' hS' => by go_simp⟩) hHeld ?_
        (try simp only [Act.put, List.setIfInBounds_toArray, List.set_cons_zero, List.set_cons_succ])
        refine take_at 2 11 (.slice (some ⟨b, off, none⟩) n cap) rfl rfl (by kernel_rfl) (by kernel_rfl) (by kernel_rfl) (fun _ _ _ h => h) (Or.inl ⟨by kernel_rfl, fun w' hS' => by have hc := RowAt.cell hS'.1 0; go_simp⟩) hHeld ?_
        (try simp only [Act.put, List.setIfInBounds_toArray, List.set_cons_zero, List.set_cons_succ])
        refine take_at 3 12 (.int .i64 n) rfl rfl (by kernel_rfl) (by kernel_rfl) (by kernel_rfl) (fun _ _ _ h => h) (Or.inl ⟨by kernel_rfl, fun w' hS' => by go_simp⟩) hHeld ?_
        (try simp only [Act.put, List.setIfInBounds_toArray, List.set_cons_zero, List.set_cons_succ])
        refine take_at 4 13 (.bool true) rfl rfl (by kernel_rfl) (by kernel_rfl) (by kernel_rfl) (fun _ _ _ h => h) (Or.inl ⟨by kernel_rfl, fun w' hS' => by go_simp⟩) hHeld ?_
        (try simp only [Act.put, List.setIfInBounds_toArray, List.set_cons_zero, List.set_cons_succ])
        refine take_at 5 14 (.bool true) rfl rfl (by kernel_rfl) (by kernel_rfl) (by kernel_rfl) (fun _ _ _ h => h) (Or.inl ⟨by kernel_rfl, fun w' hS' => by go_simp⟩) hHeld ?_
        (try simp only [Act.put, List.setIfInBounds_toArray, List.set_cons_zero, List.set_cons_succ])
        refine take_at 6 15 (.pointer (some ⟨w.heap.size, 0, none⟩)) rfl rfl (by kernel_rfl) (by kernel_rfl) (by kernel_rfl) (fun _ _ _ h => h) (Or.inl ⟨by kernel_rfl, fun w' hS' => by go_simp⟩) hHeld ?_
        (try simp only [Act.put, List.setIfInBounds_toArray, List.set_cons_zero, List.set_cons_succ])
        refine take_at 7 16 (.slice (some ⟨b, off, none⟩) n cap) rfl rfl (by kernel_rfl) (by kernel_rfl) (by kernel_rfl) (fun _ _ _ h => h) (Or.inl ⟨by kernel_rfl, fun w' hS' => by have hc := RowAt.cell hS'.1 0; go_simp⟩) hHeld ?_
        (try simp only [Act.put, List.setIfInBounds_toArray, List.set_cons_zero, List.set_cons_succ])
        refine take_at 8 17 (.int .i64 e) rfl rfl (by kernel_rfl) (by kernel_rfl) (by kernel_rfl) (fun _ _ _ h => h) (Or.inl ⟨by kernel_rfl, fun w' hS' => by go_simp⟩) hHeld ?_
        (try simp only [Act.put, List.setIfInBounds_toArray, List.set_cons_zero, List.set_cons_succ])
        refine take_at 9 18 (.pointer (some ⟨b, off + e * 6, none⟩)) rfl rfl (by kernel_rfl) (by kernel_rfl) (by kernel_rfl) (fun _ _ _ h => h) (Or.inl ⟨by kernel_rfl, fun w' hS' => by go_simp⟩) hHeld ?_
        (try simp only [Act.put, List.setIfInBounds_toArray, List.set_cons_zero, List.set_cons_succ])
        refine take_at 10 19 (.pointer (some ⟨b, off + e * 6, none⟩)) rfl rfl (by kernel_rfl) (by kernel_rfl) (by kernel_rfl) (fun _ _ _ h => h) (Or.inl ⟨by kernel_rfl, fun w' hS' => by go_simp⟩) hHeld ?_
        (try simp only [Act.put, List.setIfInBounds_toArray, List.set_cons_zero, List.set_cons_succ])
        refine take_at 11 20 (.int .i64 2) rfl rfl (by kernel_rfl) (by kernel_rfl) (by kernel_rfl) (fun _ _ _ h => h) (Or.inl ⟨by kernel_rfl, fun w' hS' => by have hc := hS'.2.1; go_simp⟩) hHeld ?_
        (try simp only [Act.put, List.setIfInBounds_toArray, List.set_cons_zero, List.set_cons_succ])
        refine take_at 12 21 (.bool true) rfl rfl (by kernel_rfl) (by kernel_rfl) (by kernel_rfl) (fun _ _ _ h => h) (Or.inl ⟨by kernel_rfl, fun w' hS' => by go_simp⟩) hHeld ?_
        (try simp only [Act.put, List.setIfInBounds_toArray, List.set_cons_zero, List.set_cons_succ])
        refine take_at 13 22 (.bool true) rfl rfl (by kernel_rfl) (by kernel_rfl) (by kernel_rfl) (fun _ _ _ h => h) (Or.inl ⟨by kernel_rfl, fun w' hS' => by go_simp⟩) hHeld ?_
        (try simp only [Act.put, List.setIfInBounds_toArray, List.set_cons_zero, List.set_cons_succ])
        refine take_at 14 23 (.bool true) rfl rfl (by kernel_rfl) (by kernel_rfl) (by kernel_rfl) (fun _ _ _ h => h) (Or.inl ⟨by kernel_rfl, fun w' hS' => by go_simp⟩) hHeld ?_
        (try simp only [Act.put, List.setIfInBounds_toArray, List.set_cons_zero, List.set_cons_succ])
        refine take_at 15 24 (.pointer (some ⟨w.heap.size, 0, none⟩)) rfl rfl (by kernel_rfl) (by kernel_rfl) (by kernel_rfl) (fun _ _ _ h => h) (Or.inl ⟨by kernel_rfl, fun w' hS' => by go_simp⟩) hHeld ?_
        (try simp only [Act.put, List.setIfInBounds_toArray, List.set_cons_zero, List.set_cons_succ])
        refine take_at 16 25 (.slice (some ⟨b, off, none⟩) n cap) rfl rfl (by kernel_rfl) (by kernel_rfl) (by kernel_rfl) (fun _ _ _ h => h) (Or.inl ⟨by kernel_rfl, fun w' hS' => by have hc := RowAt.cell hS'.1 0; go_simp⟩) hHeld ?_
        (try simp only [Act.put, List.setIfInBounds_toArray, List.set_cons_zero, List.set_cons_succ])
        refine take_at 17 26 (.int .i64 e) rfl rfl (by kernel_rfl) (by kernel_rfl) (by kernel_rfl) (fun _ _ _ h => h) (Or.inl ⟨by kernel_rfl, fun w' hS' => by go_simp⟩) hHeld ?_
        (try simp only [Act.put, List.setIfInBounds_toArray, List.set_cons_zero, List.set_cons_succ])
        refine take_at 18 27 (.pointer (some ⟨b, off + e * 6, none⟩)) rfl rfl (by kernel_rfl) (by kernel_rfl) (by kernel_rfl) (fun _ _ _ h => h) (Or.inl ⟨by kernel_rfl, fun w' hS' => by go_simp⟩) hHeld ?_
        (try simp only [Act.put, List.setIfInBounds_toArray, List.set_cons_zero, List.set_cons_succ])
        refine take_at 19 28 (.pointer (some ⟨b, off + e * 6 + 1, none⟩)) rfl rfl (by kernel_rfl) (by kernel_rfl) (by kernel_rfl) (fun _ _ _ h => h) (Or.inl ⟨by kernel_rfl, fun w' hS' => by go_simp⟩) hHeld ?_
        (try simp only [Act.put, List.setIfInBounds_toArray, List.set_cons_zero, List.set_cons_succ])
        refine take_at 20 29 (.int .i64 V) rfl rfl (by kernel_rfl) (by kernel_rfl) (by kernel_rfl) (fun _ _ _ h => h) (Or.inl ⟨by kernel_rfl, fun w' hS' => by have hc := hS'.2.2.1; go_simp⟩) hHeld ?_
        (try simp only [Act.put, List.setIfInBounds_toArray, List.set_cons_zero, List.set_cons_succ])
        refine take_at 21 30 (.pointer (some ⟨w.heap.size, 0, none⟩)) rfl rfl (by kernel_rfl) (by kernel_rfl) (by kernel_rfl) (fun _ _ _ h => h) (Or.inl ⟨by kernel_rfl, fun w' hS' => by go_simp⟩) hHeld ?_
        (try simp only [Act.put, List.setIfInBounds_toArray, List.set_cons_zero, List.set_cons_succ])
        refine take_at 22 31 (.slice (some ⟨b, off, none⟩) n cap) rfl rfl (by kernel_rfl) (by kernel_rfl) (by kernel_rfl) (fun _ _ _ h => h) (Or.inl ⟨by kernel_rfl, fun w' hS' => by have hc := RowAt.cell hS'.1 0; go_simp⟩) hHeld ?_
        (try simp only [Act.put, List.setIfInBounds_toArray, List.set_cons_zero, List.set_cons_succ])
        refine take_at 23 32 (.int .i64 i) rfl rfl (by kernel_rfl) (by kernel_rfl) (by kernel_rfl) (fun _ _ _ h => h) (Or.inl ⟨by kernel_rfl, fun w' hS' => by go_simp⟩) hHeld ?_
        (try simp only [Act.put, List.setIfInBounds_toArray, List.set_cons_zero, List.set_cons_succ])
        refine take_at 24 33 (.pointer (some ⟨b, off + i * 6, none⟩)) rfl rfl (by kernel_rfl) (by kernel_rfl) (by kernel_rfl) (fun _ _ _ h => h) (Or.inl ⟨by kernel_rfl, fun w' hS' => by go_simp⟩) hHeld ?_
        (try simp only [Act.put, List.setIfInBounds_toArray, List.set_cons_zero, List.set_cons_succ])
        refine take_at 25 34 (.pointer (some ⟨b, off + i * 6 + 1, none⟩)) rfl rfl (by kernel_rfl) (by kernel_rfl) (by kernel_rfl) (fun _ _ _ h => h) (Or.inl ⟨by kernel_rfl, fun w' hS' => by go_simp⟩) hHeld ?_
        (try simp only [Act.put, List.setIfInBounds_toArray, List.set_cons_zero, List.set_cons_succ])
        refine take_at 26 35 (.int .i64 V0) rfl rfl (by kernel_rfl) (by kernel_rfl) (by kernel_rfl) (fun _ _ _ h => h) (Or.inl ⟨by kernel_rfl, fun w' hS' => by have hc := hS'.2.2.2; go_simp⟩) hHeld ?_
        (try simp only [Act.put, List.setIfInBounds_toArray, List.set_cons_zero, List.set_cons_succ])
        refine take_at 27 36 (.bool x) rfl rfl (by kernel_rfl) (by kernel_rfl) (by kernel_rfl) (fun _ _ _ h => h) (Or.inl ⟨by kernel_rfl, fun w' hS' => by have hq := HX.out; go_simp⟩) hHeld ?_
        (try simp only [Act.put, List.setIfInBounds_toArray, List.set_cons_zero, List.set_cons_succ])
        refine take_at 28 37 (.bool x) rfl rfl (by kernel_rfl) (by kernel_rfl) (by kernel_rfl) (fun _ _ _ h => h) (Or.inl ⟨by kernel_rfl, fun w' hS' => by go_simp⟩) hHeld ?_
        (try simp only [Act.put, List.setIfInBounds_toArray, List.set_cons_zero, List.set_cons_succ])
        refine wpAnyH_done (by kernel_rfl) ?_ _
        refine NoPanic.normal ?_
        clear hHeld
        cases x
        · have hx : ¬ V0 < V := by have := HX.out; simp at this; omega
          go_wp2_with fail
          go_ret
          refine ⟨?_, HB0.out.trans (HBd.out.mono s0)⟩
          have he := endL_of he1 (by have := HN.out; omega) HAll.out (fun _ => by rw [HQ.out]; omega)
          have hbe : ((e : Int) - (i : Int) - 1) = (belL d i : Int) := by
            unfold endL at he
            omega
          rw [← hbe]
          rfl
        · have hx : V0 < V := by have := HX.out; simpa using this
          go_wp2_with fail
          go_roundw
          case rel =>
            refine ⟨e + 1, by omega, by omega, by go_num, by go_num, fun k hk1 hk2 => ?_, HBd.out⟩
            by_cases hke : k = e
            · subst hke
              exact HQ.out.2 ⟨by first | trivial | rfl, hx⟩
            · exact HAll.out k hk1 (by omega)
          case measure => simp [intOf]; omega
      · go_wp2_with fail
        refine wp_region_noPanic ?_
        refine wp_region_held_drew (S := fun w' => Read3 w' w.heap.size (.slice (some ⟨b, off, none⟩) n cap) b (off + e * 6) (off + i * 6) K V V0) (by kernel_rfl) HR.out (fun hHeld => ?_)
        have HBd : Hid (Below v0.heap.size v0 wr.drew) := HB.out.drew
        generalize wr.drew = u0 at hHeld HBd ⊢
        clear HB HR
        refine take_at 0 9 (.int .i64 e) rfl rfl (by kernel_rfl) (by kernel_rfl) (by kernel_rfl) (fun _ _ _ h => h) (Or.inl ⟨by kernel_rfl, fun w' hS' => by go_simp⟩) hHeld ?_
        (try simp only [Act.put, List.setIfInBounds_toArray, List.set_cons_zero, List.set_cons_succ])
        refine take_at 1 10 (.pointer (some ⟨w.heap.size, 0, none⟩)) rfl rfl (by kernel_rfl) (by kernel_rfl) (by kernel_rfl) (fun _ _ _ h => h) (Or.inl ⟨by kernel_rfl, fun w' hS' => by go_simp⟩) hHeld ?_
        (try simp only [Act.put, List.setIfInBounds_toArray, List.set_cons_zero, List.set_cons_succ])
        refine take_at 2 11 (.slice (some ⟨b, off, none⟩) n cap) rfl rfl (by kernel_rfl) (by kernel_rfl) (by kernel_rfl) (fun _ _ _ h => h) (Or.inl ⟨by kernel_rfl, fun w' hS' => by have hc := RowAt.cell hS'.1 0; go_simp⟩) hHeld ?_
        (try simp only [Act.put, List.setIfInBounds_toArray, List.set_cons_zero, List.set_cons_succ])
        refine take_at 3 12 (.int .i64 n) rfl rfl (by kernel_rfl) (by kernel_rfl) (by kernel_rfl) (fun _ _ _ h => h) (Or.inl ⟨by kernel_rfl, fun w' hS' => by go_simp⟩) hHeld ?_
        (try simp only [Act.put, List.setIfInBounds_toArray, List.set_cons_zero, List.set_cons_succ])
        refine take_at 4 13 (.bool true) rfl rfl (by kernel_rfl) (by kernel_rfl) (by kernel_rfl) (fun _ _ _ h => h) (Or.inl ⟨by kernel_rfl, fun w' hS' => by go_simp⟩) hHeld ?_
        (try simp only [Act.put, List.setIfInBounds_toArray, List.set_cons_zero, List.set_cons_succ])
        refine take_at 5 14 (.bool true) rfl rfl (by kernel_rfl) (by kernel_rfl) (by kernel_rfl) (fun _ _ _ h => h) (Or.inl ⟨by kernel_rfl, fun w' hS' => by go_simp⟩) hHeld ?_
        (try simp only [Act.put, List.setIfInBounds_toArray, List.set_cons_zero, List.set_cons_succ])
        refine take_at 6 15 (.pointer (some ⟨w.heap.size, 0, none⟩)) rfl rfl (by kernel_rfl) (by kernel_rfl) (by kernel_rfl) (fun _ _ _ h => h) (Or.inl ⟨by kernel_rfl, fun w' hS' => by go_simp⟩) hHeld ?_
        (try simp only [Act.put, List.setIfInBounds_toArray, List.set_cons_zero, List.set_cons_succ])
        refine take_at 7 16 (.slice (some ⟨b, off, none⟩) n cap) rfl rfl (by kernel_rfl) (by kernel_rfl) (by kernel_rfl) (fun _ _ _ h => h) (Or.inl ⟨by kernel_rfl, fun w' hS' => by have hc := RowAt.cell hS'.1 0; go_simp⟩) hHeld ?_
        (try simp only [Act.put, List.setIfInBounds_toArray, List.set_cons_zero, List.set_cons_succ])
        refine take_at 8 17 (.int .i64 e) rfl rfl (by kernel_rfl) (by kernel_rfl) (by kernel_rfl) (fun _ _ _ h => h) (Or.inl ⟨by kernel_rfl, fun w' hS' => by go_simp⟩) hHeld ?_
        (try simp only [Act.put, List.setIfInBounds_toArray, List.set_cons_zero, List.set_cons_succ])
        refine take_at 9 18 (.pointer (some ⟨b, off + e * 6, none⟩)) rfl rfl (by kernel_rfl) (by kernel_rfl) (by kernel_rfl) (fun _ _ _ h => h) (Or.inl ⟨by kernel_rfl, fun w' hS' => by go_simp⟩) hHeld ?_
        (try simp only [Act.put, List.setIfInBounds_toArray, List.set_cons_zero, List.set_cons_succ])
        refine take_at 10 19 (.pointer (some ⟨b, off + e * 6, none⟩)) rfl rfl (by kernel_rfl) (by kernel_rfl) (by kernel_rfl) (fun _ _ _ h => h) (Or.inl ⟨by kernel_rfl, fun w' hS' => by go_simp⟩) hHeld ?_
        (try simp only [Act.put, List.setIfInBounds_toArray, List.set_cons_zero, List.set_cons_succ])
        refine take_at 11 20 (.int .i64 K) rfl rfl (by kernel_rfl) (by kernel_rfl) (by kernel_rfl) (fun _ _ _ h => h) (Or.inl ⟨by kernel_rfl, fun w' hS' => by have hc := hS'.2.1; go_simp⟩) hHeld ?_
        (try simp only [Act.put, List.setIfInBounds_toArray, List.set_cons_zero, List.set_cons_succ])
        refine take_at 12 21 (.bool false) rfl rfl (by kernel_rfl) (by kernel_rfl) (by kernel_rfl) (fun _ _ _ h => h) (Or.inl ⟨by kernel_rfl, fun w' hS' => by go_simp <;> omega⟩) hHeld ?_
        (try simp only [Act.put, List.setIfInBounds_toArray, List.set_cons_zero, List.set_cons_succ])
        refine take_at 13 22 (.bool false) rfl rfl (by kernel_rfl) (by kernel_rfl) (by kernel_rfl) (fun _ _ _ h => h) (Or.inl ⟨by kernel_rfl, fun w' hS' => by go_simp⟩) hHeld ?_
        (try simp only [Act.put, List.setIfInBounds_toArray, List.set_cons_zero, List.set_cons_succ])
        refine take_at 14 23 (.bool false) rfl rfl (by kernel_rfl) (by kernel_rfl) (by kernel_rfl) (fun _ _ _ h => h) (Or.inl ⟨by kernel_rfl, fun w' hS' => by go_simp⟩) hHeld ?_
        (try simp only [Act.put, List.setIfInBounds_toArray, List.set_cons_zero, List.set_cons_succ])
        refine take_at 15 24 (undef) rfl rfl (by kernel_rfl) (by kernel_rfl) (by kernel_rfl) (fun _ _ _ h => h) (Or.inr ⟨by kernel_rfl, rfl⟩) hHeld ?_
        (try simp only [Act.put, List.setIfInBounds_toArray, List.set_cons_zero, List.set_cons_succ])
        refine take_at 16 25 (undef) rfl rfl (by kernel_rfl) (by kernel_rfl) (by kernel_rfl) (fun _ _ _ h => h) (Or.inr ⟨by kernel_rfl, rfl⟩) hHeld ?_
        (try simp only [Act.put, List.setIfInBounds_toArray, List.set_cons_zero, List.set_cons_succ])
        refine take_at 17 26 (undef) rfl rfl (by kernel_rfl) (by kernel_rfl) (by kernel_rfl) (fun _ _ _ h => h) (Or.inr ⟨by kernel_rfl, rfl⟩) hHeld ?_
        (try simp only [Act.put, List.setIfInBounds_toArray, List.set_cons_zero, List.set_cons_succ])
        refine take_at 18 27 (undef) rfl rfl (by kernel_rfl) (by kernel_rfl) (by kernel_rfl) (fun _ _ _ h => h) (Or.inr ⟨by kernel_rfl, rfl⟩) hHeld ?_
        (try simp only [Act.put, List.setIfInBounds_toArray, List.set_cons_zero, List.set_cons_succ])
        refine take_at 19 28 (undef) rfl rfl (by kernel_rfl) (by kernel_rfl) (by kernel_rfl) (fun _ _ _ h => h) (Or.inr ⟨by kernel_rfl, rfl⟩) hHeld ?_
        (try simp only [Act.put, List.setIfInBounds_toArray, List.set_cons_zero, List.set_cons_succ])
        refine take_at 20 29 (undef) rfl rfl (by kernel_rfl) (by kernel_rfl) (by kernel_rfl) (fun _ _ _ h => h) (Or.inr ⟨by kernel_rfl, rfl⟩) hHeld ?_
        (try simp only [Act.put, List.setIfInBounds_toArray, List.set_cons_zero, List.set_cons_succ])
        refine take_at 21 30 (undef) rfl rfl (by kernel_rfl) (by kernel_rfl) (by kernel_rfl) (fun _ _ _ h => h) (Or.inr ⟨by kernel_rfl, rfl⟩) hHeld ?_
        (try simp only [Act.put, List.setIfInBounds_toArray, List.set_cons_zero, List.set_cons_succ])
        refine take_at 22 31 (undef) rfl rfl (by kernel_rfl) (by kernel_rfl) (by kernel_rfl) (fun _ _ _ h => h) (Or.inr ⟨by kernel_rfl, rfl⟩) hHeld ?_
        (try simp only [Act.put, List.setIfInBounds_toArray, List.set_cons_zero, List.set_cons_succ])
        refine take_at 23 32 (undef) rfl rfl (by kernel_rfl) (by kernel_rfl) (by kernel_rfl) (fun _ _ _ h => h) (Or.inr ⟨by kernel_rfl, rfl⟩) hHeld ?_
        (try simp only [Act.put, List.setIfInBounds_toArray, List.set_cons_zero, List.set_cons_succ])
        refine take_at 24 33 (undef) rfl rfl (by kernel_rfl) (by kernel_rfl) (by kernel_rfl) (fun _ _ _ h => h) (Or.inr ⟨by kernel_rfl, rfl⟩) hHeld ?_
        (try simp only [Act.put, List.setIfInBounds_toArray, List.set_cons_zero, List.set_cons_succ])
        refine take_at 25 34 (undef) rfl rfl (by kernel_rfl) (by kernel_rfl) (by kernel_rfl) (fun _ _ _ h => h) (Or.inr ⟨by kernel_rfl, rfl⟩) hHeld ?_
        (try simp only [Act.put, List.setIfInBounds_toArray, List.set_cons_zero, List.set_cons_succ])
        refine take_at 26 35 (undef) rfl rfl (by kernel_rfl) (by kernel_rfl) (by kernel_rfl) (fun _ _ _ h => h) (Or.inr ⟨by kernel_rfl, rfl⟩) hHeld ?_
        (try simp only [Act.put, List.setIfInBounds_toArray, List.set_cons_zero, List.set_cons_succ])
        refine take_at 27 36 (undef) rfl rfl (by kernel_rfl) (by kernel_rfl) (by kernel_rfl) (fun _ _ _ h => h) (Or.inr ⟨by kernel_rfl, rfl⟩) hHeld ?_
        (try simp only [Act.put, List.setIfInBounds_toArray, List.set_cons_zero, List.set_cons_succ])
        refine take_at 28 37 (.bool false) rfl rfl (by kernel_rfl) (by kernel_rfl) (by kernel_rfl) (fun _ _ _ h => h) (Or.inl ⟨by kernel_rfl, fun w' hS' => by go_simp⟩) hHeld ?_
        (try simp only [Act.put, List.setIfInBounds_toArray, List.set_cons_zero, List.set_cons_succ])
        refine wpAnyH_done (by kernel_rfl) ?_ _
        refine NoPanic.normal ?_
        clear hHeld
        go_wp2_with fail
        go_ret
        refine ⟨?_, HB0.out.trans (HBd.out.mono s0)⟩
        have he := endL_of he1 (by have := HN.out; omega) HAll.out (fun _ => by rw [HQ.out]; omega)
        have hbe : ((e : Int) - (i : Int) - 1) = (belL d i : Int) := by
          unfold endL at he
          omega
        rw [← hbe]
        rfl
    · obtain rfl : e = n := by omega
      have heb : ¬ (e : Int) < (e : Int) := by omega
      clear hb hcl
      go_wp2_with fail
      refine wp_region_noPanic ?_
      refine wp_region_held_drew (S := fun w' => RowAt w' w.heap.size #[.slice (some ⟨b, off, none⟩) e cap] 25) (by kernel_rfl) HGr.out.drew (fun hHeld => ?_)
      have HBd : Hid (Below v0.heap.size v0 wr.drew) := HB.out.drew
      generalize wr.drew = u0 at hHeld HBd ⊢
      clear HB
      refine take_at 0 9 (.int .i64 e) rfl rfl (by kernel_rfl) (by kernel_rfl) (by kernel_rfl) (fun _ _ _ h => h) (Or.inl ⟨by kernel_rfl, fun w' hS' => by go_simp⟩) hHeld ?_
      (try simp only [Act.put, List.setIfInBounds_toArray, List.set_cons_zero, List.set_cons_succ])
      refine take_at 1 10 (.pointer (some ⟨w.heap.size, 0, none⟩)) rfl rfl (by kernel_rfl) (by kernel_rfl) (by kernel_rfl) (fun _ _ _ h => h) (Or.inl ⟨by kernel_rfl, fun w' hS' => by go_simp⟩) hHeld ?_
      (try simp only [Act.put, List.setIfInBounds_toArray, List.set_cons_zero, List.set_cons_succ])
      refine take_at 2 11 (.slice (some ⟨b, off, none⟩) e cap) rfl rfl (by kernel_rfl) (by kernel_rfl) (by kernel_rfl) (fun _ _ _ h => h) (Or.inl ⟨by kernel_rfl, fun w' hS' => by have hc := RowAt.cell hS' 0; go_simp⟩) hHeld ?_
      (try simp only [Act.put, List.setIfInBounds_toArray, List.set_cons_zero, List.set_cons_succ])
      refine take_at 3 12 (.int .i64 e) rfl rfl (by kernel_rfl) (by kernel_rfl) (by kernel_rfl) (fun _ _ _ h => h) (Or.inl ⟨by kernel_rfl, fun w' hS' => by go_simp⟩) hHeld ?_
      (try simp only [Act.put, List.setIfInBounds_toArray, List.set_cons_zero, List.set_cons_succ])
      refine take_at 4 13 (.bool false) rfl rfl (by kernel_rfl) (by kernel_rfl) (by kernel_rfl) (fun _ _ _ h => h) (Or.inl ⟨by kernel_rfl, fun w' hS' => by go_simp⟩) hHeld ?_
      (try simp only [Act.put, List.setIfInBounds_toArray, List.set_cons_zero, List.set_cons_succ])
      refine take_at 5 14 (.bool false) rfl rfl (by kernel_rfl) (by kernel_rfl) (by kernel_rfl) (fun _ _ _ h => h) (Or.inl ⟨by kernel_rfl, fun w' hS' => by go_simp⟩) hHeld ?_
      (try simp only [Act.put, List.setIfInBounds_toArray, List.set_cons_zero, List.set_cons_succ])
      refine take_at 6 15 (undef) rfl rfl (by kernel_rfl) (by kernel_rfl) (by kernel_rfl) (fun _ _ _ h => h) (Or.inr ⟨by kernel_rfl, rfl⟩) hHeld ?_
      (try simp only [Act.put, List.setIfInBounds_toArray, List.set_cons_zero, List.set_cons_succ])
      refine take_at 7 16 (undef) rfl rfl (by kernel_rfl) (by kernel_rfl) (by kernel_rfl) (fun _ _ _ h => h) (Or.inr ⟨by kernel_rfl, rfl⟩) hHeld ?_
      (try simp only [Act.put, List.setIfInBounds_toArray, List.set_cons_zero, List.set_cons_succ])
      refine take_at 8 17 (undef) rfl rfl (by kernel_rfl) (by kernel_rfl) (by kernel_rfl) (fun _ _ _ h => h) (Or.inr ⟨by kernel_rfl, rfl⟩) hHeld ?_
      (try simp only [Act.put, List.setIfInBounds_toArray, List.set_cons_zero, List.set_cons_succ])
      refine take_at 9 18 (undef) rfl rfl (by kernel_rfl) (by kernel_rfl) (by kernel_rfl) (fun _ _ _ h => h) (Or.inr ⟨by kernel_rfl, rfl⟩) hHeld ?_
      (try simp only [Act.put, List.setIfInBounds_toArray, List.set_cons_zero, List.set_cons_succ])
      refine take_at 10 19 (undef) rfl rfl (by kernel_rfl) (by kernel_rfl) (by kernel_rfl) (fun _ _ _ h => h) (Or.inr ⟨by kernel_rfl, rfl⟩) hHeld ?_
      (try simp only [Act.put, List.setIfInBounds_toArray, List.set_cons_zero, List.set_cons_succ])
      refine take_at 11 20 (undef) rfl rfl (by kernel_rfl) (by kernel_rfl) (by kernel_rfl) (fun _ _ _ h => h) (Or.inr ⟨by kernel_rfl, rfl⟩) hHeld ?_
      (try simp only [Act.put, List.setIfInBounds_toArray, List.set_cons_zero, List.set_cons_succ])
      refine take_at 12 21 (undef) rfl rfl (by kernel_rfl) (by kernel_rfl) (by kernel_rfl) (fun _ _ _ h => h) (Or.inr ⟨by kernel_rfl, rfl⟩) hHeld ?_
      (try simp only [Act.put, List.setIfInBounds_toArray, List.set_cons_zero, List.set_cons_succ])
      refine take_at 13 22 (.bool false) rfl rfl (by kernel_rfl) (by kernel_rfl) (by kernel_rfl) (fun _ _ _ h => h) (Or.inl ⟨by kernel_rfl, fun w' hS' => by go_simp⟩) hHeld ?_
      (try simp only [Act.put, List.setIfInBounds_toArray, List.set_cons_zero, List.set_cons_succ])
      refine take_at 14 23 (.bool false) rfl rfl (by kernel_rfl) (by kernel_rfl) (by kernel_rfl) (fun _ _ _ h => h) (Or.inl ⟨by kernel_rfl, fun w' hS' => by go_simp⟩) hHeld ?_
      (try simp only [Act.put, List.setIfInBounds_toArray, List.set_cons_zero, List.set_cons_succ])
      refine take_at 15 24 (undef) rfl rfl (by kernel_rfl) (by kernel_rfl) (by kernel_rfl) (fun _ _ _ h => h) (Or.inr ⟨by kernel_rfl, rfl⟩) hHeld ?_
      (try simp only [Act.put, List.setIfInBounds_toArray, List.set_cons_zero, List.set_cons_succ])
      refine take_at 16 25 (undef) rfl rfl (by kernel_rfl) (by kernel_rfl) (by kernel_rfl) (fun _ _ _ h => h) (Or.inr ⟨by kernel_rfl, rfl⟩) hHeld ?_
      (try simp only [Act.put, List.setIfInBounds_toArray, List.set_cons_zero, List.set_cons_succ])
      refine take_at 17 26 (undef) rfl rfl (by kernel_rfl) (by kernel_rfl) (by kernel_rfl) (fun _ _ _ h => h) (Or.inr ⟨by kernel_rfl, rfl⟩) hHeld ?_
      (try simp only [Act.put, List.setIfInBounds_toArray, List.set_cons_zero, List.set_cons_succ])
      refine take_at 18 27 (undef) rfl rfl (by kernel_rfl) (by kernel_rfl) (by kernel_rfl) (fun _ _ _ h => h) (Or.inr ⟨by kernel_rfl, rfl⟩) hHeld ?_
      (try simp only [Act.put, List.setIfInBounds_toArray, List.set_cons_zero, List.set_cons_succ])
      refine take_at 19 28 (undef) rfl rfl (by kernel_rfl) (by kernel_rfl) (by kernel_rfl) (fun _ _ _ h => h) (Or.inr ⟨by kernel_rfl, rfl⟩) hHeld ?_
      (try simp only [Act.put, List.setIfInBounds_toArray, List.set_cons_zero, List.set_cons_succ])
      refine take_at 20 29 (undef) rfl rfl (by kernel_rfl) (by kernel_rfl) (by kernel_rfl) (fun _ _ _ h => h) (Or.inr ⟨by kernel_rfl, rfl⟩) hHeld ?_
      (try simp only [Act.put, List.setIfInBounds_toArray, List.set_cons_zero, List.set_cons_succ])
      refine take_at 21 30 (undef) rfl rfl (by kernel_rfl) (by kernel_rfl) (by kernel_rfl) (fun _ _ _ h => h) (Or.inr ⟨by kernel_rfl, rfl⟩) hHeld ?_
      (try simp only [Act.put, List.setIfInBounds_toArray, List.set_cons_zero, List.set_cons_succ])
      refine take_at 22 31 (undef) rfl rfl (by kernel_rfl) (by kernel_rfl) (by kernel_rfl) (fun _ _ _ h => h) (Or.inr ⟨by kernel_rfl, rfl⟩) hHeld ?_
      (try simp only [Act.put, List.setIfInBounds_toArray, List.set_cons_zero, List.set_cons_succ])
      refine take_at 23 32 (undef) rfl rfl (by kernel_rfl) (by kernel_rfl) (by kernel_rfl) (fun _ _ _ h => h) (Or.inr ⟨by kernel_rfl, rfl⟩) hHeld ?_
      (try simp only [Act.put, List.setIfInBounds_toArray, List.set_cons_zero, List.set_cons_succ])
      refine take_at 24 33 (undef) rfl rfl (by kernel_rfl) (by kernel_rfl) (by kernel_rfl) (fun _ _ _ h => h) (Or.inr ⟨by kernel_rfl, rfl⟩) hHeld ?_
      (try simp only [Act.put, List.setIfInBounds_toArray, List.set_cons_zero, List.set_cons_succ])
      refine take_at 25 34 (undef) rfl rfl (by kernel_rfl) (by kernel_rfl) (by kernel_rfl) (fun _ _ _ h => h) (Or.inr ⟨by kernel_rfl, rfl⟩) hHeld ?_
      (try simp only [Act.put, List.setIfInBounds_toArray, List.set_cons_zero, List.set_cons_succ])
      refine take_at 26 35 (undef) rfl rfl (by kernel_rfl) (by kernel_rfl) (by kernel_rfl) (fun _ _ _ h => h) (Or.inr ⟨by kernel_rfl, rfl⟩) hHeld ?_
      (try simp only [Act.put, List.setIfInBounds_toArray, List.set_cons_zero, List.set_cons_succ])
      refine take_at 27 36 (undef) rfl rfl (by kernel_rfl) (by kernel_rfl) (by kernel_rfl) (fun _ _ _ h => h) (Or.inr ⟨by kernel_rfl, rfl⟩) hHeld ?_
      (try simp only [Act.put, List.setIfInBounds_toArray, List.set_cons_zero, List.set_cons_succ])
      refine take_at 28 37 (.bool false) rfl rfl (by kernel_rfl) (by kernel_rfl) (by kernel_rfl) (fun _ _ _ h => h) (Or.inl ⟨by kernel_rfl, fun w' hS' => by go_simp⟩) hHeld ?_
      (try simp only [Act.put, List.setIfInBounds_toArray, List.set_cons_zero, List.set_cons_succ])
      refine wpAnyH_done (by kernel_rfl) ?_ _
      refine NoPanic.normal ?_
      clear hHeld
      go_wp2_with fail
      go_ret
      refine ⟨?_, HB0.out.trans (HBd.out.mono s0)⟩
      have he := endL_of he1 (by have := HN.out; omega) HAll.out (fun h => by have := HN.out; omega)
      have hbe : ((e : Int) - (i : Int) - 1) = (belL d i : Int) := by
        unfold endL at he
        omega
      rw [← hbe]
      rfl
end Go.Proofs.Ytdcebaneobkcoaa
namespace Go.Proofs.Ytdcebaneobkcoaa
open Go.RowKit

theorem docB_small {d : List Bl} (h : docB d = true) (k : Nat) (hk : k < d.length) : SmB (d.getD k bl0) := by
  obtain ⟨h8, hall, hou⟩ := docB_parts h
  have hp := part_small (outlB_part hou hk)
  have hb := List.all_eq_true.1 hall (d.getD k bl0) (by rw [getD_bl hk]; exact List.getElem_mem hk)
  obtain ⟨⟨K, V, t, R, C, l⟩, hx⟩ : ∃ x, x = d.getD k bl0 := ⟨_, rfl⟩
  rw [← hx] at hp hb ⊢
  simp only at hp
  rcases partB_kind hb with hK | hK | hK
  · subst hK
    obtain ⟨-, -, -, rfl⟩ := partBB_para hb
    have := hp.1 (.inl rfl)
    exact ⟨by show t.length ≤ _; omega, by simp, fun k hk => absurd hk (by simp)⟩
  · subst hK
    obtain ⟨-, -, rfl⟩ := partBB_item hb
    have := hp.1 (.inr rfl)
    exact ⟨by show t.length ≤ _; omega, by simp, fun k hk => absurd hk (by simp)⟩
  · subst hK
    obtain ⟨-, rfl⟩ := partBB_sheet hb
    obtain ⟨h1, h2⟩ := hp.2 rfl
    exact ⟨by simp, by show l.length ≤ _; omega, fun j hj => by have := h2 j hj; show (l.getD j cl0).2.2.2.2.length ≤ _; omega⟩
set_option maxRecDepth 100000 in
set_option maxHeartbeats 8000000 in
theorem specDocItem_any {a : Option Addr} {n cap : Nat} {d : List Bl} {z : Int} {w : World} (h : Dc w a n cap d) :
    Calls Try.prog 17 #[.agg #[.slice a n cap], .int .i64 z] w fun e w' => DocRes (docF enlF d z) w.heap.size e w' ∧ Below w.heap.size w w' := by
  unfold DocRes
  have HN : Hid (n = d.length) := h.1
  have hc := h.2.1
  have hm := h.2.2.1
  unfold maxLen at hm
  have H : Hid (Dc w a n cap d) := h
  clear h
  obtain ⟨x, HX⟩ : ∃ x, Hid (docB d = x) := ⟨_, rfl⟩
  go_enter Try.func17, Try.ntmps17
  go_upto_region 1 with fail
  have B0 : Below w.heap.size w ((w.alloc (.cells #[.slice a n cap] 25)).alloc (.cells #[.slice none 0 0] 25)) := ((Below.refl _ _).alloc (Nat.le_refl _) _).alloc (by simp) _
  have G0 : RowAt ((w.alloc (.cells #[.slice a n cap] 25)).alloc (.cells #[.slice none 0 0] 25)) w.heap.size #[.slice a n cap] 25 := (rowAt_new w _ _).alloc _
  have G1 : RowAt ((w.alloc (.cells #[.slice a n cap] 25)).alloc (.cells #[.slice none 0 0] 25)) (w.heap.size + 1) #[.slice none 0 0] 25 := by
    have := rowAt_new (w.alloc (.cells #[.slice a n cap] 25)) #[.slice none 0 0] 25
    simpa using this
  generalize ((w.alloc (.cells #[.slice a n cap] 25)).alloc (.cells #[.slice none 0 0] 25)) = v0 at B0 G0 G1 ⊢
  have k0 : v0.cell? ⟨w.heap.size, 0, none⟩ = some (.slice a n cap) := G0.cell 0
  have l0 := G0.lt
  have l1 := G1.lt
  have s0 := B0.size
  have H0 : Hid (RowAt v0 w.heap.size #[.slice a n cap] 25) := G0
  have H1 : Hid (RowAt v0 (w.heap.size + 1) #[.slice none 0 0] 25) := G1
  have HB0 : Hid (Below w.heap.size w v0) := B0
  have HD0 : Hid (Dc v0 a n cap d) := H.out.below B0
  clear G0 G1 B0
  cases x
  · have HNO : Hid (docF enlF d z = none) := by
      show docF enlF d z = none
      unfold docF
      rw [if_neg (by rw [HX.out]; simp)]
    go_wp2_with (first | (go_at_call 13; refine (specDocOk_is HX.out HD0.out).mono ?_; rintro e w1 ⟨rfl, hb1⟩; have HZ : Hid (RowAt w1 (w.heap.size + 1) #[.slice none 0 0] 25) := H1.out.below hb1 l1) | (refine wpList_store_row rfl 25 (.tmp 4) (.tmp 28) rfl (w.heap.size + 1) #[.slice none 0 0] rfl rfl 25 _ HZ.out docI_info rfl (cells1_one _ _ _) ?_))
    refine bodyPost_ret (v := .tuple #[.agg #[.slice none 0 0], .bool false]) ?_ rfl ⟨.inl ⟨HNO.out, rfl⟩, below_row (HB0.out.trans (hb1.mono s0)) (by omega) _⟩
    rw [results_cell_tmp rfl]
    simp [asAddr, Result.andThen, run_docOf (RowAt.setRow HZ.out _)]
  obtain ⟨hn8', hall, hou⟩ := docB_parts HX.out
  have hn8 : n ≤ 8 := by rw [HN.out]; exact hn8'
  have HALL : Hid (d.all partBB = true) := hall
  have HOU : Hid (outlB d = true) := hou
  clear hall hou hn8'
  have CALL1 : Hid (∀ u, Calls Try.prog 44 #[.int .i64 z, .int .i64 0, .int .i64 ((n : Int) - 1)] u fun e w' => e = .returned (.bool (decide (0 ≤ z ∧ z ≤ (n : Int) - 1))) ∧ w' = u) := fun u => l6In_gen _ _ _ u
  by_cases hz : 0 ≤ z ∧ z ≤ (n : Int) - 1
  rotate_left
  · rw [decide_eq_false hz] at CALL1
    have HNO : Hid (docF enlF d z = none) := by
      show docF enlF d z = none
      unfold docF
      rw [if_neg (by have := HN.out; omega)]
    clear hz
    go_wp2_with (first | (go_at_call 13; refine (specDocOk_is HX.out HD0.out).mono ?_; rintro e w1 ⟨rfl, hb1⟩; have HZ : Hid (RowAt w1 (w.heap.size + 1) #[.slice none 0 0] 25) := H1.out.below hb1 l1; have k1 := (H0.out.below hb1 l0).cell 0; simp at k1) | (go_at_call 44; refine (CALL1.out _).mono ?_; rintro e w2 ⟨rfl, hw2⟩; subst w2) | (refine wpList_store_row rfl 25 (.tmp 4) (.tmp 28) rfl (w.heap.size + 1) #[.slice none 0 0] rfl rfl 25 _ HZ.out docI_info rfl (cells1_one _ _ _) ?_))
    refine bodyPost_ret (v := .tuple #[.agg #[.slice none 0 0], .bool false]) ?_ rfl ⟨.inl ⟨HNO.out, rfl⟩, below_row (HB0.out.trans (hb1.mono s0)) (by omega) _⟩
    rw [results_cell_tmp rfl]
    simp [asAddr, Result.andThen, run_docOf (RowAt.setRow HZ.out _)]
  · rw [decide_eq_true hz] at CALL1
    obtain ⟨hz0, hz1⟩ := hz
    obtain ⟨i, rfl⟩ : ∃ i : Nat, z = i := ⟨z.toNat, by omega⟩
    have hzn : (i : Int) < (n : Int) := by omega
    have hid : i < d.length := by have := HN.out; omega
    have HFE : Hid (docF enlF d i = (enlF d i).bind fun d' => if outlB d' = true then some d' else none) := by
      show docF enlF d i = _
      unfold docF
      rw [if_pos ⟨HX.out, by omega, by have := HN.out; omega⟩]
      rfl
    rcases HD0.out.2.2.2 with e | ⟨b, off, rfl, hbl, hcl⟩
    · rw [e] at hid
      exact absurd hid (by simp)
    obtain ⟨ta, tn, tc, ca, cn, cc, hblk⟩ := hcl i hid
    have c0 := hblk.1
    obtain ⟨K, HK⟩ : ∃ K, Hid ((d.getD i bl0).1 = K) := ⟨_, rfl⟩
    rw [HK.out] at c0
    clear hcl hblk
    by_cases hk1 : K = 1
    rotate_left
    · have HNO : Hid (docF enlF d i = none) := by
        show docF enlF d i = none
        rw [HFE.out]
        unfold enlF
        rw [HK.out, if_neg hk1]
        rfl
      have hkb : (K != 1) = true := by simp [hk1]
      go_wp2_with (first | (go_at_call 13; refine (specDocOk_is HX.out HD0.out).mono ?_; rintro e w1 ⟨rfl, hb1⟩; have HZ : Hid (RowAt w1 (w.heap.size + 1) #[.slice none 0 0] 25) := H1.out.below hb1 l1; have k1 := (H0.out.below hb1 l0).cell 0; simp at k1; have c1 := (hb1.cell (p := ⟨b, off + i * 6, none⟩) hbl).trans c0) | (go_at_call 44; refine (CALL1.out _).mono ?_; rintro e w2 ⟨rfl, hw2⟩; subst w2) | (refine wpList_store_row rfl 25 (.tmp 4) (.tmp 28) rfl (w.heap.size + 1) #[.slice none 0 0] rfl rfl 25 _ HZ.out docI_info rfl (cells1_one _ _ _) ?_))
      refine bodyPost_ret (v := .tuple #[.agg #[.slice none 0 0], .bool false]) ?_ rfl ⟨.inl ⟨HNO.out, rfl⟩, below_row (HB0.out.trans (hb1.mono s0)) (by omega) _⟩
      rw [results_cell_tmp rfl]
      simp [asAddr, Result.andThen, run_docOf (RowAt.setRow HZ.out _)]
    · subst hk1
      obtain ⟨d', HD'⟩ : ∃ d', Hid (enlF d i = some d') := by
        unfold enlF
        rw [HK.out, if_pos rfl]
        exact ⟨_, rfl⟩
      have HYES : Hid (docF enlF d i = some d') := by
        show docF enlF d i = some d'
        rw [HFE.out, HD'.out, Option.bind_some, if_pos (enl_ok HOU.out hid HD'.out)]
      have HSET : Hid (d.set i (2, (d.getD i bl0).2) = d') := by
        show d.set i (2, (d.getD i bl0).2) = d'
        have h1 := HD'.out
        unfold enlF at h1
        rw [HK.out, if_pos rfl] at h1
        have h2 := List.all_eq_true.1 HALL.out (d.getD i bl0) (by rw [getD_bl hid]; exact List.getElem_mem hid)
        have h3 := HK.out
        obtain ⟨⟨K, V, t, R, C, l⟩, hx⟩ : ∃ x, x = d.getD i bl0 := ⟨_, rfl⟩
        rw [← hx] at h1 h2 h3 ⊢
        simp only at h3
        subst h3
        obtain ⟨rfl, rfl, rfl, rfl⟩ := partBB_para h2
        simpa using h1
      go_upto_region 3 with (first | (go_at_call 13; refine (specDocOk_is HX.out HD0.out).mono ?_; rintro e w1 ⟨rfl, hb1⟩; have k1 := (H0.out.below hb1 l0).cell 0; simp at k1; have c1 := (hb1.cell (p := ⟨b, off + i * 6, none⟩) hbl).trans c0) | (go_at_call 44; refine (CALL1.out _).mono ?_; rintro e w2 ⟨rfl, hw2⟩; subst w2))
      have s1 := hb1.size
      have HZ1 : Hid (RowAt w1 (w.heap.size + 1) #[.slice none 0 0] 25) := H1.out.below hb1 l1
      have HB1 : Hid (Below w.heap.size w w1) := HB0.out.trans (hb1.mono s0)
      have HD1 : Hid (Dc w1 (some ⟨b, off, none⟩) n cap d) := HD0.out.below hb1
      have HSM : Hid (∀ k, k < d.length → SmB (d.getD k bl0)) := docB_small HX.out
      clear k0 c0 c1 hb1 H0 H1 HB0 HD0
      go_wp2_with fail
      refine (l3Copy_any HD1.out (by omega) HSM.out).mono ?_
      rintro e w2 ⟨⟨p, q, rbs, rfl, ho2⟩, hb2⟩
      have s2 := hb2.size
      go_upto_region 4 with fail
      have A3 : Below w2.heap.size w2 (w2.alloc (.cells #[.slice p n q] 25)) := (Below.refl _ _).alloc (Nat.le_refl _) _
      have G3 : RowAt (w2.alloc (.cells #[.slice p n q] 25)) w2.heap.size #[.slice p n q] 25 := rowAt_new _ _ _
      have O3 : DocOwn (w2.alloc (.cells #[.slice p n q] 25)) w1.heap.size w2.heap.size (.slice p n q) rbs d := ho2.below (Nat.le_refl _) A3
      have Z3 : RowAt (w2.alloc (.cells #[.slice p n q] 25)) (w.heap.size + 1) #[.slice none 0 0] 25 := (HZ1.out.below hb2 (by omega)).alloc _
      have B3 : Below w.heap.size w (w2.alloc (.cells #[.slice p n q] 25)) := (HB1.out.trans (hb2.mono (by omega))).alloc (by omega) _
      clear k1 ho2 hb2 A3
      generalize w2.alloc (.cells #[.slice p n q] 25) = w3 at G3 O3 Z3 B3 ⊢
      have k3 : w3.cell? ⟨w2.heap.size, 0, none⟩ = some (.slice p n q) := G3.cell 0
      have hq1 := O3.dc.2.1
      have hq2 := O3.dc.2.2.1
      unfold maxLen at hq2
      obtain ⟨g, rfl, hg1, hg2, hcs, hfz⟩ := docOwn_at O3 (show i < n by omega)
      have q0 : w3.cell? ⟨g, i * 6, none⟩ = some (.int .i64 (rbs.getD i rb0).1) := hcs 0 (by omega)
      have f0 : w3.frozen? ⟨g, i * 6, none⟩ = false := hfz 0
      have gE : g < w2.heap.size := O3.2.1 g rfl
      have O4 := docOwn_kind O3 i hid 2
      rw [HSET.out] at O4
      have HO4 : Hid (DocOwn (w3.setCell ⟨g, i * 6, none⟩ (.int .i64 2)) w1.heap.size w2.heap.size (.slice (some ⟨g, 0, none⟩) n q) (rbs.set i (2, (rbs.getD i rb0).2)) d') := O4
      have G4 : RowAt (w3.setCell ⟨g, i * 6, none⟩ (.int .i64 2)) w2.heap.size #[.slice (some ⟨g, 0, none⟩) n q] 25 := G3.other _ _ (by simp; omega)
      have HZ4 : Hid (RowAt (w3.setCell ⟨g, i * 6, none⟩ (.int .i64 2)) (w.heap.size + 1) #[.slice none 0 0] 25) := Z3.other _ _ (by simp; omega)
      have HB4 : Hid (Below w.heap.size w (w3.setCell ⟨g, i * 6, none⟩ (.int .i64 2))) := B3.setCell (by show _ ≤ g; omega) _
      have zz : w2.heap.size < w3.heap.size := G3.lt
      clear hcs hfz O3 O4 Z3 B3
      go_upto_region 5 with fail
      have sz4 : w2.heap.size < (w3.setCell ⟨g, i * 6, none⟩ (.int .i64 2)).heap.size := by simpa using zz
      clear k3 q0 f0 G3
      generalize w3.setCell ⟨g, i * 6, none⟩ (.int .i64 2) = w4 at HO4 G4 HZ4 HB4 sz4 ⊢
      have k4 : w4.cell? ⟨w2.heap.size, 0, none⟩ = some (.slice (some ⟨g, 0, none⟩) n q) := G4.cell 0
      have HLN : Hid (n = d'.length) := HO4.out.len
      go_wp2_with (refine wpList_store_row rfl 25 (.tmp 4) (.tmp 36) rfl (w.heap.size + 1) #[.slice (some ⟨g, 0, none⟩) n q] rfl rfl 25 _ HZ4.out docI_info rfl (cells1_one _ _ _) ?_)
      refine bodyPost_ret (v := .tuple #[.agg #[.slice (some ⟨g, 0, none⟩) n q], .bool true]) ?_ rfl ⟨.inr ⟨d', some ⟨g, 0, none⟩, q, rbs.set i (2, (rbs.getD i rb0).2), HYES.out, by rw [← HLN.out], ?_⟩, below_row HB4.out (by omega) _⟩
      · rw [results_cell_tmp rfl]
        simp [asAddr, Result.andThen, run_docOf (RowAt.setRow HZ4.out _)]
      · have sz : (w4.setRow (w.heap.size + 1) #[.slice (some ⟨g, 0, none⟩) n q]).heap.size = w4.heap.size := by simp [World.setRow]
        rw [sz, ← HLN.out]
        exact (HO4.out.mid (fun b hb hb' => setRow_other _ _ _ _ (by omega))).less (by omega) (by omega)
end Go.Proofs.Ytdcebaneobkcoaa
namespace Go.Proofs.Ytdcebaneobkcoaa
open Go.RowKit

/-- Whether a block is an item: what that says. -/
theorem item_of {d : List Bl} {z : Int} (h : itemB d z = true) : docB d = true ∧ ∃ i : Nat, z = i ∧ i < d.length ∧ (d.getD i bl0).1 = 2 := by
  unfold itemB at h
  rw [Bool.and_eq_true, Bool.and_eq_true, decide_eq_true_eq, decide_eq_true_eq] at h
  obtain ⟨h1, ⟨h2, h3⟩, h4⟩ := h
  exact ⟨h1, z.toNat, by omega, by omega, h4⟩
theorem no_item {F : List Bl → Nat → Option (List Bl)} {d : List Bl} {z : Int} (h : itemB d z = false) (hF : ∀ d i, ¬ (List.getD d i bl0).1 = 2 → F d i = none) : docF F d z = none := by
  unfold docF
  by_cases hc : docB d = true ∧ 0 ≤ z ∧ z < d.length
  · rw [if_pos hc]
    unfold itemB at h
    rw [hc.1, Bool.true_and, decide_eq_true (by omega), Bool.true_and, decide_eq_false_iff_not] at h
    rw [hF d z.toNat h]
    rfl
  · rw [if_neg hc]
set_option maxRecDepth 100000 in
set_option maxHeartbeats 8000000 in
theorem specDocSink_any {a : Option Addr} {n cap : Nat} {d : List Bl} {z : Int} {w : World} (h : Dc w a n cap d) :
    Calls Try.prog 28 #[.agg #[.slice a n cap], .int .i64 z] w fun e w' => DocRes (docF sinkF d z) w.heap.size e w' ∧ Below w.heap.size w w' := by
  unfold DocRes
  have HN : Hid (n = d.length) := h.1
  have hc := h.2.1
  have hm := h.2.2.1
  unfold maxLen at hm
  have H : Hid (Dc w a n cap d) := h
  clear h
  obtain ⟨x, HX⟩ : ∃ x, Hid (itemB d z = x) := ⟨_, rfl⟩
  go_enter Try.func28, Try.ntmps28
  go_upto_region 1 with fail
  have B0 : Below w.heap.size w ((w.alloc (.cells #[.slice a n cap] 25)).alloc (.cells #[.slice none 0 0] 25)) := ((Below.refl _ _).alloc (Nat.le_refl _) _).alloc (by simp) _
  have G0 : RowAt ((w.alloc (.cells #[.slice a n cap] 25)).alloc (.cells #[.slice none 0 0] 25)) w.heap.size #[.slice a n cap] 25 := (rowAt_new w _ _).alloc _
  have G1 : RowAt ((w.alloc (.cells #[.slice a n cap] 25)).alloc (.cells #[.slice none 0 0] 25)) (w.heap.size + 1) #[.slice none 0 0] 25 := by
    have := rowAt_new (w.alloc (.cells #[.slice a n cap] 25)) #[.slice none 0 0] 25
    simpa using this
  generalize ((w.alloc (.cells #[.slice a n cap] 25)).alloc (.cells #[.slice none 0 0] 25)) = v0 at B0 G0 G1 ⊢
  have k0 : v0.cell? ⟨w.heap.size, 0, none⟩ = some (.slice a n cap) := G0.cell 0
  have l0 := G0.lt
  have l1 := G1.lt
  have s0 := B0.size
  have H0 : Hid (RowAt v0 w.heap.size #[.slice a n cap] 25) := G0
  have H1 : Hid (RowAt v0 (w.heap.size + 1) #[.slice none 0 0] 25) := G1
  have HB0 : Hid (Below w.heap.size w v0) := B0
  have HD0 : Hid (Dc v0 a n cap d) := H.out.below B0
  clear G0 G1 B0
  cases x
  · have HNO : Hid (docF sinkF d z = none) := no_item HX.out (fun d i h => by unfold sinkF; rw [if_neg h])
    go_wp2_with (first | (go_at_call 53; refine (l3Item_is HX.out HD0.out).mono ?_; rintro e w1 ⟨rfl, hb1⟩; have HZ : Hid (RowAt w1 (w.heap.size + 1) #[.slice none 0 0] 25) := H1.out.below hb1 l1) | (refine wpList_store_row rfl 25 (.tmp 4) (.tmp 12) rfl (w.heap.size + 1) #[.slice none 0 0] rfl rfl 25 _ HZ.out docI_info rfl (cells1_one _ _ _) ?_))
    refine bodyPost_ret (v := .tuple #[.agg #[.slice none 0 0], .bool false]) ?_ rfl ⟨.inl ⟨HNO.out, rfl⟩, below_row (HB0.out.trans (hb1.mono s0)) (by omega) _⟩
    rw [results_cell_tmp rfl]
    simp [asAddr, Result.andThen, run_docOf (RowAt.setRow HZ.out _)]
  obtain ⟨hdb, i, rfl, hid, hk2⟩ := item_of HX.out
  obtain ⟨hn8', hall, hou⟩ := docB_parts hdb
  have hn8 : n ≤ 8 := by rw [HN.out]; exact hn8'
  have hin : i < n := by rw [HN.out]; exact hid
  have HDB : Hid (docB d = true) := hdb
  have HALL : Hid (d.all partBB = true) := hall
  have HOU : Hid (outlB d = true) := hou
  have HK2 : Hid ((d.getD i bl0).1 = 2) := hk2
  have HGR : Hid (∀ k, i ≤ k → k < endL d i → (d.getD k bl0).1 = 2 ∧ 0 ≤ (d.getD k bl0).2.1 ∧ (d.getD k bl0).2.1 ≤ 3) := group_items hou hid hk2
  have HFE : Hid (docF sinkF d i = (sinkF d i).bind fun d' => if outlB d' = true then some d' else none) := by
    show docF sinkF d i = _
    unfold docF
    rw [if_pos ⟨hdb, by omega, by omega⟩]
    rfl
  have hEn : endL d i ≤ n := by rw [HN.out]; exact endL_le hid
  have HEB : Hid (endL d i = i + 1 + belL d i) := rfl
  have HV0 : Hid (0 ≤ (d.getD i bl0).2.1) := (group_items hou hid hk2 i (Nat.le_refl _) (by unfold endL; omega)).2.1
  clear hall hou hn8' hk2 hdb
  obtain ⟨E, HE⟩ : ∃ E, Hid (endL d i = E) := ⟨_, rfl⟩
  obtain ⟨bl, HBL⟩ : ∃ b, Hid (belL d i = b) := ⟨_, rfl⟩
  have hEb : E = i + 1 + bl := by rw [← HE.out, ← HBL.out]; exact HEB.out
  rw [HE.out] at hEn HGR
  go_upto_region 3 with (go_at_call 53; refine (l3Item_is HX.out HD0.out).mono ?_; rintro e w1 ⟨rfl, hb1⟩; have k1 := (H0.out.below hb1 l0).cell 0; simp at k1)
  have s1 := hb1.size
  have HA1 : Hid (RowAt w1 w.heap.size #[.slice a n cap] 25) := H0.out.below hb1 l0
  have HZ1 : Hid (RowAt w1 (w.heap.size + 1) #[.slice none 0 0] 25) := H1.out.below hb1 l1
  have HB1 : Hid (Below w.heap.size w w1) := HB0.out.trans (hb1.mono s0)
  have HD1 : Hid (Dc w1 a n cap d) := HD0.out.below hb1
  have HSM : Hid (∀ k, k < d.length → SmB (d.getD k bl0)) := docB_small HDB.out
  clear k0 hb1 H0 H1 HB0 HD0
  go_wp2_with fail
  refine (l3Copy_any HD1.out (by omega) HSM.out).mono ?_
  rintro e w2 ⟨⟨p, q, rbs, rfl, ho2⟩, hb2⟩
  have s2 := hb2.size
  go_upto_region 4 with fail
  have A3 : Below w2.heap.size w2 (w2.alloc (.cells #[.slice p n q] 25)) := (Below.refl _ _).alloc (Nat.le_refl _) _
  have G3 : RowAt (w2.alloc (.cells #[.slice p n q] 25)) w2.heap.size #[.slice p n q] 25 := rowAt_new _ _ _
  have O3 : DocOwn (w2.alloc (.cells #[.slice p n q] 25)) w1.heap.size w2.heap.size (.slice p n q) rbs d := ho2.below (Nat.le_refl _) A3
  have B3 : Below w1.heap.size w1 (w2.alloc (.cells #[.slice p n q] 25)) := hb2.alloc s2 _
  clear k1 ho2 hb2 A3
  generalize w2.alloc (.cells #[.slice p n q] 25) = w3 at G3 O3 B3 ⊢
  have hq1 := O3.dc.2.1
  have hq2 := O3.dc.2.2.1
  unfold maxLen at hq2
  obtain ⟨g, rfl, hg1, hg2, -, -⟩ := docOwn_at O3 hin
  have gE : g < w2.heap.size := O3.2.1 g rfl
  have HG3 : Hid (RowAt w3 w2.heap.size #[.slice (some ⟨g, 0, none⟩) n q] 25) := G3
  have HO3 : Hid (DocOwn w3 w1.heap.size w2.heap.size (.slice (some ⟨g, 0, none⟩) n q) rbs d) := O3
  have HB3 : Hid (Below w1.heap.size w1 w3) := B3
  have zz := G3.lt
  have s3 := B3.size
  have z0 := HA1.out.lt
  have z1 := HZ1.out.lt
  clear G3 O3 B3
  go_wp2_with fail
  go_loopw [7] (fun mv wr => ∃ (m : Nat) (rbs' : List Rb), i ≤ m ∧ m ≤ E ∧ mv = .int .i64 m ∧ RowAt wr w2.heap.size #[.slice (some ⟨g, 0, none⟩) n q] 25 ∧ DocOwn wr w1.heap.size w2.heap.size (.slice (some ⟨g, 0, none⟩) n q) rbs' (deepTo d i (1) m) ∧ w3.heap.size ≤ wr.heap.size ∧ Below w1.heap.size w1 wr) (fun mv _ => E - (intOf mv).toNat)
  case atStart => exact ⟨i, rbs, Nat.le_refl _, by omega, rfl, HG3.out, by rw [deepTo_start]; exact HO3.out, Nat.le_refl _, HB3.out⟩
  case round =>
    obtain ⟨m, rbs', hm1, hm2, rfl, hG, hO, hs, hB⟩ := hrel
    have HGm : Hid (RowAt wr w2.heap.size #[.slice (some ⟨g, 0, none⟩) n q] 25) := hG
    have HOm : Hid (DocOwn wr w1.heap.size w2.heap.size (.slice (some ⟨g, 0, none⟩) n q) rbs' (deepTo d i (1) m)) := hO
    have HBm : Hid (Below w1.heap.size w1 wr) := hB
    have a0 : wr.cell? ⟨w.heap.size, 0, none⟩ = some (.slice a n cap) := (HA1.out.below hB z0).cell 0
    clear hG hB
    by_cases hlt : m < E
    · have hmd : m < d.length := by have := HN.out; omega
      have hmn : (m : Int) < (n : Int) := by omega
      have hm0 : (0 : Int) ≤ (m : Int) := by omega
      have hle : (m : Int) ≤ (i : Int) + (bl : Int) := by omega
      go_upto_region 7 with (go_at_call 54; refine (l3Below_any (HD1.out.below HBm.out) hin hn8 HK2.out HV0.out).mono ?_; rintro e uc ⟨rfl, hbc⟩; rw [HBL.out])
      have HBc : Hid (Below w1.heap.size w1 uc) := HBm.out.trans (hbc.mono (by omega))
      have HGc : Hid (RowAt uc w2.heap.size #[.slice (some ⟨g, 0, none⟩) n q] 25) := HGm.out.below hbc (by omega)
      have HOc : Hid (DocOwn uc w1.heap.size w2.heap.size (.slice (some ⟨g, 0, none⟩) n q) rbs' (deepTo d i 1 m)) := HOm.out.below (by omega) hbc
      have sc : w3.heap.size ≤ uc.heap.size := Nat.le_trans hs hbc.size
      clear hbc HGm HOm HBm a0
      obtain ⟨_, he, -, -, hcs, hfz⟩ := docOwn_at HOc.out (show m < n by omega)
      cases he
      have hcell := hcs 1 (by omega)
      have hfr := hfz 1
      have hget : (deepTo d i (1) m).getD m bl0 = d.getD m bl0 := by rw [deepTo_get hmd, if_neg (by omega)]
      have hbv : (rbs'.getD m rb0).2.1 = (d.getD m bl0).2.1 := by
        obtain ⟨lo, mid, hi, h1, -⟩ := HOc.out.2.2.2
        have := (h1 m (by rw [deepTo_len]; exact hmd)).2.2.1.2.1
        rw [hget] at this
        exact this
      obtain ⟨V, HV⟩ : ∃ V, Hid ((d.getD m bl0).2.1 = V) := ⟨_, rfl⟩
      have hc1 : uc.cell? ⟨g, m * 6 + 1, none⟩ = some (.int .i64 V) := by
        have h1 : (rbCells (rbs'.getD m rb0))[1]? = some (.int .i64 (rbs'.getD m rb0).2.1) := rfl
        rw [hcell, h1, hbv, HV.out]
      obtain ⟨-, hv0, hv3⟩ := HGR.out m hm1 hlt
      rw [HV.out] at hv0 hv3
      have HLV : Hid (DocOwn (uc.setCell ⟨g, m * 6 + 1, none⟩ (.int .i64 (V + 1))) w1.heap.size w2.heap.size (.slice (some ⟨g, 0, none⟩) n q) (rbs'.set m ((rbs'.getD m rb0).1, V + 1, (rbs'.getD m rb0).2.2)) (deepTo d i (1) (m + 1))) := by
        have h1 := docOwn_level HOc.out m (by rw [deepTo_len]; exact hmd) (V + 1)
        rw [hget] at h1
        rw [deepTo_succ hm1]
        have h2 : bump (1) (d.getD m bl0) = ((d.getD m bl0).1, V + 1, (d.getD m bl0).2.2) := by
          unfold bump
          rw [HV.out]
        rw [h2]
        exact h1
      have HC1 : Hid (uc.cell? ⟨g, m * 6 + 1, none⟩ = some (.int .i64 V)) := hc1
      have HF1 : Hid (uc.frozen? ⟨g, m * 6 + 1, none⟩ = false) := hfr
      clear hcs hfz hcell hfr hget hbv hc1 hO
      refine wp_region_noPanic ?_
      refine wp_region_held_drew (S := fun w' => RowAt w' w2.heap.size #[.slice (some ⟨g, 0, none⟩) n q] 25) (by kernel_rfl) HGc.out.drew (fun hHeld => ?_)
      have HLd : Hid (DocOwn (uc.drew.setCell ⟨g, m * 6 + 1, none⟩ (.int .i64 (V + 1))) w1.heap.size w2.heap.size (.slice (some ⟨g, 0, none⟩) n q) (rbs'.set m ((rbs'.getD m rb0).1, V + 1, (rbs'.getD m rb0).2.2)) (deepTo d i (1) (m + 1))) := HLV.out
      have HCd : Hid (uc.drew.cell? ⟨g, m * 6 + 1, none⟩ = some (.int .i64 V)) := HC1.out
      have HFd : Hid (uc.drew.frozen? ⟨g, m * 6 + 1, none⟩ = false) := HF1.out
      have HBd : Hid (Below w1.heap.size w1 uc.drew) := HBc.out.drew
      have sd : w3.heap.size ≤ uc.drew.heap.size := sc
      generalize uc.drew = u1 at hHeld HLd HCd HFd HBd sd ⊢
      clear HLV HC1 HF1 HBc sc HGc HOc
      refine take_at 0 25 (.pointer (some ⟨w2.heap.size, 0, none⟩)) rfl rfl (by kernel_rfl) (by kernel_rfl) (by kernel_rfl) (fun _ _ _ h => h) (Or.inl ⟨by kernel_rfl, fun w' hS' => by go_simp⟩) hHeld ?_
      (try simp only [Act.put, List.setIfInBounds_toArray, List.set_cons_zero, List.set_cons_succ])
      refine take_at 1 26 (.slice (some ⟨g, 0, none⟩) n q) rfl rfl (by kernel_rfl) (by kernel_rfl) (by kernel_rfl) (fun _ _ _ h => h) (Or.inl ⟨by kernel_rfl, fun w' hS' => by have hc := RowAt.cell hS' 0; go_simp⟩) hHeld ?_
      (try simp only [Act.put, List.setIfInBounds_toArray, List.set_cons_zero, List.set_cons_succ])
      refine take_at 2 27 (.int .i64 m) rfl rfl (by kernel_rfl) (by kernel_rfl) (by kernel_rfl) (fun _ _ _ h => h) (Or.inl ⟨by kernel_rfl, fun w' hS' => by go_simp⟩) hHeld ?_
      (try simp only [Act.put, List.setIfInBounds_toArray, List.set_cons_zero, List.set_cons_succ])
      refine take_at 3 28 (.pointer (some ⟨w2.heap.size, 0, none⟩)) rfl rfl (by kernel_rfl) (by kernel_rfl) (by kernel_rfl) (fun _ _ _ h => h) (Or.inl ⟨by kernel_rfl, fun w' hS' => by go_simp⟩) hHeld ?_
      (try simp only [Act.put, List.setIfInBounds_toArray, List.set_cons_zero, List.set_cons_succ])
      refine take_at 4 29 (.slice (some ⟨g, 0, none⟩) n q) rfl rfl (by kernel_rfl) (by kernel_rfl) (by kernel_rfl) (fun _ _ _ h => h) (Or.inl ⟨by kernel_rfl, fun w' hS' => by have hc := RowAt.cell hS' 0; go_simp⟩) hHeld ?_
      (try simp only [Act.put, List.setIfInBounds_toArray, List.set_cons_zero, List.set_cons_succ])
      refine take_at 5 30 (.int .i64 m) rfl rfl (by kernel_rfl) (by kernel_rfl) (by kernel_rfl) (fun _ _ _ h => h) (Or.inl ⟨by kernel_rfl, fun w' hS' => by go_simp⟩) hHeld ?_
      (try simp only [Act.put, List.setIfInBounds_toArray, List.set_cons_zero, List.set_cons_succ])
      refine take_at 6 31 (.pointer (some ⟨g, m * 6, none⟩)) rfl rfl (by kernel_rfl) (by kernel_rfl) (by kernel_rfl) (fun _ _ _ h => h) (Or.inl ⟨by kernel_rfl, fun w' hS' => by go_simp⟩) hHeld ?_
      (try simp only [Act.put, List.setIfInBounds_toArray, List.set_cons_zero, List.set_cons_succ])
      refine take_at 7 32 (.pointer (some ⟨g, m * 6 + 1, none⟩)) rfl rfl (by kernel_rfl) (by kernel_rfl) (by kernel_rfl) (fun _ _ _ h => h) (Or.inl ⟨by kernel_rfl, fun w' hS' => by go_simp⟩) hHeld ?_
      (try simp only [Act.put, List.setIfInBounds_toArray, List.set_cons_zero, List.set_cons_succ])
      refine wpAnyH_ready (rs := [8]) (by kernel_rfl) (by simp) ?_
      refine AllReadyH.cons rfl (fun K hK => ?_) AllReadyH.nil
      have d4 := HCd.out
      go_simp
      refine hK.out _ _ hHeld (fun hHeld => ?_)
      clear hK K d4
      (try simp only [Act.put, List.setIfInBounds_toArray, List.set_cons_zero, List.set_cons_succ])
      refine take_at 9 34 (.int .i64 (V + 1)) rfl rfl (by kernel_rfl) (by kernel_rfl) (by kernel_rfl) (fun _ _ _ h => h) (Or.inl ⟨by kernel_rfl, fun w' hS' => by go_simp; rw [IntKind.wrap_i64]; omega⟩) hHeld ?_
      (try simp only [Act.put, List.setIfInBounds_toArray, List.set_cons_zero, List.set_cons_succ])
      refine take_at 10 35 (.pointer (some ⟨g, m * 6, none⟩)) rfl rfl (by kernel_rfl) (by kernel_rfl) (by kernel_rfl) (fun _ _ _ h => h) (Or.inl ⟨by kernel_rfl, fun w' hS' => by go_simp⟩) hHeld ?_
      (try simp only [Act.put, List.setIfInBounds_toArray, List.set_cons_zero, List.set_cons_succ])
      refine take_at 11 36 (.pointer (some ⟨g, m * 6 + 1, none⟩)) rfl rfl (by kernel_rfl) (by kernel_rfl) (by kernel_rfl) (fun _ _ _ h => h) (Or.inl ⟨by kernel_rfl, fun w' hS' => by go_simp⟩) hHeld ?_
      (try simp only [Act.put, List.setIfInBounds_toArray, List.set_cons_zero, List.set_cons_succ])
      refine wpAnyH_ready (rs := [12]) (by kernel_rfl) (by simp) ?_
      refine AllReadyH.cons rfl (fun K hK => ?_) AllReadyH.nil
      have d4 := HCd.out
      have f4 := HFd.out
      rw [if_pos (by kernel_rfl)]
      go_simp
      refine hK.out _ _ (RowAt.other hHeld _ _ (by simp; omega)) (fun hHeld => ?_)
      clear hK K d4 f4
      (try simp only [Act.put])
      refine wpAnyH_done (by kernel_rfl) ?_ _
      refine NoPanic.normal ?_
      have hG9 := hHeld
      clear hHeld
      go_wp2_with fail
      go_roundw
      case rel => exact ⟨m + 1, _, by omega, by omega, by go_num, hG9, HLd.out, by simpa using sd, HBd.out.setCell (p := ⟨g, m * 6 + 1, none⟩) hg1 _⟩
      case measure => simp [intOf]; omega
    · obtain rfl : m = E := by omega
      have hle : ¬ (m : Int) ≤ (i : Int) + (bl : Int) := by omega
      obtain ⟨d', HD'⟩ : ∃ d', Hid (sinkF d i = some d') := by
        unfold sinkF
        rw [HK2.out, if_pos rfl]
        exact ⟨_, rfl⟩
      have HDE : Hid (deepTo d i 1 m = d') := by
        show deepTo d i 1 m = d'
        have h1 := HD'.out
        unfold sinkF at h1
        rw [HK2.out, if_pos rfl] at h1
        have h2 : deepL d i 1 = d' := by simpa using h1
        rw [← h2, ← HE.out]
        rfl
      obtain ⟨hall', hlen'⟩ := sinkF_form HALL.out HOU.out hid HD'.out
      obtain ⟨y, HY⟩ : ∃ y, Hid (outlB d' = y) := ⟨_, rfl⟩
      have HYD : Hid (docB d' = y) := by
        show docB d' = y
        rw [← HY.out, Bool.eq_iff_iff, doc_parts2]
        refine ⟨fun h => h.2.2, fun h => ⟨?_, hall', h⟩⟩
        have := h
        unfold outlB at this
        rw [Bool.and_eq_true, decide_eq_true_eq] at this
        exact this.1
      have HFQ : Hid (docF sinkF d i = if y = true then some d' else none) := by
        show docF sinkF d i = _
        rw [HFE.out, HD'.out, Option.bind_some, HY.out]
      have hOE := HOm.out
      rw [HDE.out] at hOE
      have HLN : Hid (n = d'.length) := hOE.len
      clear hall' hlen' hO
      go_upto_region 8 with (go_at_call 54; refine (l3Below_any (HD1.out.below HBm.out) hin hn8 HK2.out HV0.out).mono ?_; rintro e uc ⟨rfl, hbc⟩; rw [HBL.out])
      have HBc : Hid (Below w1.heap.size w1 uc) := HBm.out.trans (hbc.mono (by omega))
      have HGc : Hid (RowAt uc w2.heap.size #[.slice (some ⟨g, 0, none⟩) n q] 25) := HGm.out.below hbc (by omega)
      have HOc : Hid (DocOwn uc w1.heap.size w2.heap.size (.slice (some ⟨g, 0, none⟩) n q) rbs' d') := hOE.below (by omega) hbc
      have sc : w3.heap.size ≤ uc.heap.size := Nat.le_trans hs hbc.size
      have b0 : uc.cell? ⟨w2.heap.size, 0, none⟩ = some (.slice (some ⟨g, 0, none⟩) n q) := HGc.out.cell 0
      clear hbc HGm HOm HBm a0 hOE
      go_wp2_with fail
      refine (specDocOk_is HYD.out HOc.out.dc).mono ?_
      rintro e u5 ⟨rfl, hb5⟩
      have s5 := hb5.size
      have HZ5 : Hid (RowAt u5 (w.heap.size + 1) #[.slice none 0 0] 25) := (HZ1.out.below HBc.out z1).below hb5 (by omega)
      have HG5 : Hid (RowAt u5 w2.heap.size #[.slice (some ⟨g, 0, none⟩) n q] 25) := HGc.out.below hb5 (by omega)
      have HO5 : Hid (DocOwn u5 w1.heap.size w2.heap.size (.slice (some ⟨g, 0, none⟩) n q) rbs' d') := HOc.out.below (by omega) hb5
      have HB5 : Hid (Below w.heap.size w u5) := HB1.out.trans ((HBc.out.trans (hb5.mono (by omega))).mono (by omega))
      have b5 : u5.cell? ⟨w2.heap.size, 0, none⟩ = some (.slice (some ⟨g, 0, none⟩) n q) := HG5.out.cell 0
      clear b0 hb5
      cases y
      · have HNO : Hid (docF sinkF d i = none) := HFQ.out
        go_wp2_with (refine wpList_store_row rfl 25 (.tmp 4) (.tmp 40) rfl (w.heap.size + 1) #[.slice none 0 0] rfl rfl 25 _ HZ5.out docI_info rfl (cells1_one _ _ _) ?_)
        refine bodyPost_ret (v := .tuple #[.agg #[.slice none 0 0], .bool false]) ?_ rfl ⟨.inl ⟨HNO.out, rfl⟩, below_row HB5.out (by omega) _⟩
        rw [results_cell_tmp rfl]
        simp [asAddr, Result.andThen, run_docOf (RowAt.setRow HZ5.out _)]
      · have HYES : Hid (docF sinkF d i = some d') := HFQ.out
        go_wp2_with (refine wpList_store_row rfl 25 (.tmp 4) (.tmp 41) rfl (w.heap.size + 1) #[.slice (some ⟨g, 0, none⟩) n q] rfl rfl 25 _ HZ5.out docI_info rfl (cells1_one _ _ _) ?_)
        refine bodyPost_ret (v := .tuple #[.agg #[.slice (some ⟨g, 0, none⟩) n q], .bool true]) ?_ rfl ⟨.inr ⟨d', some ⟨g, 0, none⟩, q, rbs', HYES.out, by rw [← HLN.out], ?_⟩, below_row HB5.out (by omega) _⟩
        · rw [results_cell_tmp rfl]
          simp [asAddr, Result.andThen, run_docOf (RowAt.setRow HZ5.out _)]
        · have sz : (u5.setRow (w.heap.size + 1) #[.slice (some ⟨g, 0, none⟩) n q]).heap.size = u5.heap.size := by simp [World.setRow]
          rw [sz, ← HLN.out]
          exact (HO5.out.mid (fun b hb hb' => setRow_other _ _ _ _ (by omega))).less (by omega) (by omega)
end Go.Proofs.Ytdcebaneobkcoaa
namespace Go.Proofs.Ytdcebaneobkcoaa
open Go.RowKit

/-- What stands in a round of the drawing. -/
def SiInv (B g : Nat) (w : World) (B0 X q1 : Nat) (a : Option Addr) (m c : Nat) (d : List Bl) (q : Nat) (wr : World) : Prop := ∃ rbs, m = d.length ∧ DocSp d ∧ q ≤ q1 ∧ X < wr.heap.size ∧ RowAt wr w.heap.size #[.slice none 0 0] 25 ∧ RowAt wr X #[.slice a m c] 25 ∧ DocX wr B0 (.slice a m c) rbs d ∧ Rd B wr g q ∧ Below w.heap.size w wr
theorem rd_row {B g p X : Nat} {w : World} {cs : Array Value} (h : Rd B w g p) (hX : g < X) : Rd B (w.setRow X cs) g p := by
  have hlt := h.lt
  exact h.below (below_row (B := g + 1) (Below.refl _ _) (by omega) _) (by omega)
set_option maxRecDepth 100000 in
set_option maxHeartbeats 16000000 in
theorem drDrawDocSink_any (B : Nat) (a : Option Addr) (n cap : Nat) (zs : List Int) (w : World) (h : Byt B w a n cap zs) (hB : B ≤ w.heap.size) :
    Calls Try.prog 27 #[.slice a n cap] w fun e w' => (∃ (a' : Option Addr) (m' c' : Nat) (d' : List Bl) (z : Int), e = .returned (.tuple #[.agg #[.slice a' m' c'], .int .i64 z]) ∧ Dc w' a' m' c' d' ∧ DocSp d' ∧ -1 ≤ z ∧ z ≤ 11) ∧ Below w.heap.size w w' := by
  have HY : Hid (Byt B w a n cap zs) := h
  clear h
  go_enter Try.func27, Try.ntmps27
  go_upto_region 1 with fail
  have B0 : Below w.heap.size w (w.alloc (.cells #[.slice none 0 0] 25)) := (Below.refl _ _).alloc (Nat.le_refl _) _
  have Z0 : RowAt (w.alloc (.cells #[.slice none 0 0] 25)) w.heap.size #[.slice none 0 0] 25 := rowAt_new _ _ _
  have HY0 : Hid (Byt B (w.alloc (.cells #[.slice none 0 0] 25)) a n cap zs) := HY.out.belowC B0 hB
  generalize (w.alloc (.cells #[.slice none 0 0] 25)) = v0 at B0 Z0 HY0 ⊢
  have s0 := B0.size
  have zz := Z0.lt
  go_wp2_with fail
  refine (l6Open_any B a n cap zs _ HY0.out (by omega)).mono ?_
  rintro e w1 ⟨rfl, hr1, hb1⟩
  have s1 := hb1.size
  have HR1 : Hid (Rd B w1 v0.heap.size 0) := hr1
  have hlt := hr1.lt
  clear hr1
  obtain ⟨g, hg⟩ : ∃ g, v0.heap.size = g := ⟨_, rfl⟩
  rw [hg] at HR1 hlt s1 ⊢
  have hgw : w.heap.size < g := by omega
  go_wp2_with fail
  refine (l71Kinds_any B g 0 2 _ HR1.out (by omega)).mono ?_
  rintro e w2 ⟨a, m, c, d, z, q, rfl, ⟨rbs, hX⟩, hS, hz0, hz1, hr2, hq2, hf2⟩
  have s2 := hf2.size
  have HGw2 : Hid (RowAt w2 w.heap.size #[.slice none 0 0] 25) := (Z0.below hb1 (by omega)).fr hf2 (by omega)
  have HBww2 : Hid (Below w.heap.size w w2) := below_of_fr3 B0 hb1 hf2 (by omega) s0
  have HXw2 : Hid (DocX w2 w1.heap.size (.slice a m c) rbs d) := hX
  have HS : Hid (DocSp d) := hS
  have HRw2 : Hid (Rd B w2 g q) := hr2
  clear hX hS hr2 hf2 hb1 Z0 B0 HR1 HY0 HY hg
  go_upto_region 3 with fail
  have T3 : RowAt (w2.alloc (.cells #[.slice a m c] 25)) w2.heap.size #[.slice a m c] 25 := rowAt_new _ _ _
  have HX3 : Hid (DocX (w2.alloc (.cells #[.slice a m c] 25)) w1.heap.size (.slice a m c) rbs d) := HXw2.out.alloc _
  have HG3 : Hid (RowAt (w2.alloc (.cells #[.slice a m c] 25)) w.heap.size #[.slice none 0 0] 25) := HGw2.out.alloc _
  have HB3 : Hid (Below w.heap.size w (w2.alloc (.cells #[.slice a m c] 25))) := HBww2.out.alloc (by omega) _
  have HR3 : Hid (Rd B (w2.alloc (.cells #[.slice a m c] 25)) g q) := HRw2.out.alloc _
  have sv3 : w2.heap.size < (w2.alloc (.cells #[.slice a m c] 25)).heap.size := by simp
  generalize (w2.alloc (.cells #[.slice a m c] 25)) = v3 at T3 HX3 HG3 HB3 HR3 sv3 ⊢
  obtain ⟨X, hX⟩ : ∃ X, w2.heap.size = X := ⟨_, rfl⟩
  rw [hX] at T3 s2 sv3 ⊢
  have HT3 : Hid (RowAt v3 X #[.slice a m c] 25) := T3
  clear T3 hX HXw2 HGw2 HBww2 HRw2
  go_wp2_with fail
  go_loopw [6, 7, 8, 9] (fun zv iv _ _ wr => ∃ (i : Nat) (a : Option Addr) (m c : Nat) (d : List Bl) (z : Int) (q : Nat), i ≤ 8 ∧ iv = .int .i64 (i : Int) ∧ zv = .int .i64 z ∧ -1 ≤ z ∧ z ≤ 11 ∧ wr.cell? ⟨X, 0, none⟩ = some (.slice a m c) ∧ SiInv B g w w1.heap.size X (30000 + 30100 * i) a m c d q wr) (fun _ iv _ _ _ => 8 - (intOf iv).toNat)
  case atStart => exact ⟨0, a, m, c, d, z, q, by omega, rfl, rfl, hz0, hz1, HT3.out.cell 0, rbs, HX3.out.len, HS.out, by omega, by omega, HG3.out, HT3.out, HX3.out, HR3.out, HB3.out⟩
  case round =>
    clear HS hq2 HX3 HG3 HB3 HR3 HT3 hz0 hz1
    obtain ⟨i, a, m, c, d, z, q, hi, rfl, rfl, hz0, hz1, k6, rbs, hml, hS, hq, hsz, hG, hT, hX, hR, hF⟩ := hrel
    have HS : Hid (DocSp d) := hS
    have HG : Hid (RowAt wr w.heap.size #[.slice none 0 0] 25) := hG
    have HT : Hid (RowAt wr X #[.slice a m c] 25) := hT
    have HX : Hid (DocX wr w1.heap.size (.slice a m c) rbs d) := hX
    have HR : Hid (Rd B wr g q) := hR
    have HBw : Hid (Below w.heap.size w wr) := hF
    have zX := hT.lt
    clear hG hT hX hR hF hml hS
    by_cases hi8 : i < 8
    · have hib : (i : Int) < 8 := by omega
      go_wp2_with fail
      refine (pick_any B g q 10 _ HR.out (by omega) (by omega) (by omega)).mono ?_
      rintro e w4 ⟨x, rfl, hx0, hx1, hr4, hg4⟩
      have f4 := fr_grown hg4
      have s4 := f4.size
      have HRw4 : Hid (Rd B w4 g (q + 1)) := hr4
      have HGw4 : Hid (RowAt w4 w.heap.size #[.slice none 0 0] 25) := HG.out.fr f4 (by omega)
      have HTw4 : Hid (RowAt w4 X #[.slice a m c] 25) := HT.out.fr f4 (by omega)
      have HXw4 : Hid (DocX w4 w1.heap.size (.slice a m c) rbs d) := HX.out.fr f4 hlt
      have HBww4 : Hid (Below w.heap.size w w4) := HBw.out.trans (below_of_frG f4 (by omega) (by omega))
      have k4 : w4.cell? ⟨X, 0, none⟩ = some (.slice a m c) := HTw4.out.cell 0
      clear hr4 hg4 f4 HG HT HX HBw HR k6
      by_cases hx : 0 < x
      · go_wp2_with fail
        refine (specDocSink_any HXw4.out.dc).mono ?_
        rintro e w5 ⟨hres, hb5⟩
        obtain ⟨p5, m5, q5, _, rfl, -⟩ := docRes_of hres
        generalize (docF sinkF d z).isSome = ok
        have s5 := hb5.size
        have HGw5 : Hid (RowAt w5 w.heap.size #[.slice none 0 0] 25) := HGw4.out.below hb5 (by omega)
        have HTw5 : Hid (RowAt w5 X #[.slice a m c] 25) := HTw4.out.below hb5 (by omega)
        have HXw5 : Hid (DocX w5 w1.heap.size (.slice a m c) rbs d) := HXw4.out.below hb5
        have HBww5 : Hid (Below w.heap.size w w5) := HBww4.out.trans (hb5.mono (by omega))
        have HRw5 : Hid (Rd B w5 g (q + 1)) := HRw4.out.below hb5 HRw4.out.lt
        clear hb5 hres HGw4 HTw4 HXw4 HBww4 HRw4 k4
        go_upto_region 7 with fail
        have HGw7 : Hid (RowAt (w5.alloc (.cells #[.slice p5 m5 q5] 25)) w.heap.size #[.slice none 0 0] 25) := HGw5.out.alloc _
        have HTw7 : Hid (RowAt (w5.alloc (.cells #[.slice p5 m5 q5] 25)) X #[.slice a m c] 25) := HTw5.out.alloc _
        have HXw7 : Hid (DocX (w5.alloc (.cells #[.slice p5 m5 q5] 25)) w1.heap.size (.slice a m c) rbs d) := HXw5.out.alloc _
        have HBww7 : Hid (Below w.heap.size w (w5.alloc (.cells #[.slice p5 m5 q5] 25))) := HBww5.out.alloc (by omega) _
        have HRw7 : Hid (Rd B (w5.alloc (.cells #[.slice p5 m5 q5] 25)) g (q + 1)) := HRw5.out.alloc _
        have sv7 : w5.heap.size < (w5.alloc (.cells #[.slice p5 m5 q5] 25)).heap.size := by simp
        generalize (w5.alloc (.cells #[.slice p5 m5 q5] 25)) = w7 at HGw7 HTw7 HXw7 HBww7 HRw7 sv7 ⊢
        have k7 : w7.cell? ⟨X, 0, none⟩ = some (.slice a m c) := HTw7.out.cell 0
        clear HGw5 HTw5 HXw5 HBww5 HRw5
        cases ok
        · go_wp2_with (first | (go_at_call 43; refine (l71Kinds_any B g (q + 1) 2 _ HRw7.out (by omega)).mono ?_; rintro e w6 ⟨a6, m6, c6, d6, z6, q6, rfl, ⟨rbs6, hX6⟩, hS6, hz60, hz61, hr6, hq6, hf6⟩; have s6 := hf6.size; have HX6 : Hid (DocX w6 w7.heap.size (.slice a6 m6 c6) rbs6 d6) := hX6; have HS6 : Hid (DocSp d6) := hS6; have HR6 : Hid (Rd B w6 g q6) := hr6; have HT6 : Hid (RowAt w6 X #[.slice a m c] 25) := HTw7.out.fr hf6 (by omega); have HG6 : Hid (RowAt w6 w.heap.size #[.slice none 0 0] 25) := HGw7.out.fr hf6 (by omega); have HB6 : Hid (Below w.heap.size w w6) := HBww7.out.trans (below_of_frG hf6 (by omega) (by omega)); clear hX6 hS6 hr6 hf6) | (refine wpList_store_row rfl 25 (.tmp 5) (.tmp 38) rfl X #[.slice a6 m6 c6] rfl rfl 25 _ HT6.out drdoc_info rfl (drcells1_one _ _ _) ?_))
          have bT : Below w.heap.size w6 (w6.setRow X #[.slice a6 m6 c6]) := below_row (Below.refl _ _) (by omega) _
          have sz : (w6.setRow X #[.slice a6 m6 c6]).heap.size = w6.heap.size := by simp [World.setRow]
          go_roundw
          case rel => exact ⟨i + 1, a6, m6, c6, d6, z6, q6, by omega, by go_num, rfl, hz60, hz61, (HT6.out.setRow _).cell 0, rbs6, HX6.out.len, HS6.out, by omega, by rw [sz]; omega, HG6.out.setRowOther _ _ (by omega), HT6.out.setRow _, (docX_row HX6.out HT6.out _).less (by omega), rd_row HR6.out (by omega), HB6.out.trans bT⟩
          case measure => simp [intOf]; omega
        · go_wp2_with (refine wpList_store_row rfl 25 (.tmp 2) (.tmp 33) rfl w.heap.size #[.slice a m c] rfl rfl 25 _ HGw7.out drdoc_info rfl (drcells1_one _ _ _) ?_)
          refine bodyPost_ret (v := .tuple #[.agg #[.slice a m c], .int .i64 z]) ?_ rfl ⟨⟨a, m, c, d, z, rfl, (docX_row HXw7.out HGw7.out _).dc, HS.out, hz0, hz1⟩, below_row HBww7.out (Nat.le_refl _) _⟩
          rw [results_cell_tmp rfl]
          simp [asAddr, Result.andThen, run_docK (RowAt.setRow HGw7.out _)]
      · have hx2 : x = 0 := by omega
        subst hx2
        go_wp2_with (refine wpList_store_row rfl 25 (.tmp 2) (.tmp 40) rfl w.heap.size #[.slice a m c] rfl rfl 25 _ HGw4.out drdoc_info rfl (drcells1_one _ _ _) ?_)
        refine bodyPost_ret (v := .tuple #[.agg #[.slice a m c], .int .i64 z]) ?_ rfl ⟨⟨a, m, c, d, z, rfl, (docX_row HXw4.out HGw4.out _).dc, HS.out, hz0, hz1⟩, below_row HBww4.out (Nat.le_refl _) _⟩
        rw [results_cell_tmp rfl]
        simp [asAddr, Result.andThen, run_docK (RowAt.setRow HGw4.out _)]
    · have hib : ¬ (i : Int) < 8 := by omega
      go_wp2_with (refine wpList_store_row rfl 25 (.tmp 2) (.tmp 40) rfl w.heap.size #[.slice a m c] rfl rfl 25 _ HG.out drdoc_info rfl (drcells1_one _ _ _) ?_)
      refine bodyPost_ret (v := .tuple #[.agg #[.slice a m c], .int .i64 z]) ?_ rfl ⟨⟨a, m, c, d, z, rfl, (docX_row HX.out HG.out _).dc, HS.out, hz0, hz1⟩, below_row HBw.out (Nat.le_refl _) _⟩
      rw [results_cell_tmp rfl]
      simp [asAddr, Result.andThen, run_docK (RowAt.setRow HG.out _)]
end Go.Proofs.Ytdcebaneobkcoaa
