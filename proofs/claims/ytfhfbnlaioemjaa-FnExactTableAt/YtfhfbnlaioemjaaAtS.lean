import Derived.Test.YtfhfbnlaioemjaaTabAt
import Derived.Deep.Cut
namespace Go.Proofs.Ytfhfbnlaioemjaa
open Go.RowKit

set_option maxRecDepth 100000 in
set_option maxHeartbeats 4000000 in
theorem specTableAt_is {R C r c : Int} {a : Option Addr} {n cap : Nat} {l : List Cl} {w : World} {x : Int} (hx : atN R C l r c = x) (h : Tab w a n cap l) :
    Calls Try.prog 15 #[.agg #[.int .i64 R, .int .i64 C, .slice a n cap], .int .i64 r, .int .i64 c] w fun z w' => z = .returned (.int .i64 x) ∧ Below w.heap.size w w' := by
  have HX : Hid (atN R C l r c = x) := hx
  have H : Hid (Tab w a n cap l) := h
  obtain ⟨rfl, hc, hm, -⟩ := h
  unfold maxLen at hm
  clear hx
  go_enter Try.func15, Try.ntmps15
  go_upto_region 1 with fail
  have B0 : Below w.heap.size w (w.alloc (.cells #[.int .i64 R, .int .i64 C, .slice a l.length cap] 29)) := (Below.refl _ _).alloc (Nat.le_refl _) _
  have k0 : (w.alloc (.cells #[.int .i64 R, .int .i64 C, .slice a l.length cap] 29)).cell? ⟨w.heap.size, 0, none⟩ = some (.int .i64 R) := by simp
  have k1 : (w.alloc (.cells #[.int .i64 R, .int .i64 C, .slice a l.length cap] 29)).cell? ⟨w.heap.size, 1, none⟩ = some (.int .i64 C) := by simp
  have k2 : (w.alloc (.cells #[.int .i64 R, .int .i64 C, .slice a l.length cap] 29)).cell? ⟨w.heap.size, 2, none⟩ = some (.slice a l.length cap) := by simp
  have z0 : w.heap.size < (w.alloc (.cells #[.int .i64 R, .int .i64 C, .slice a l.length cap] 29)).heap.size := by simp
  generalize (w.alloc (.cells #[.int .i64 R, .int .i64 C, .slice a l.length cap] 29)) = v0 at B0 k0 k1 k2 z0 ⊢
  go_wp2_with fail
  go_loopw [7] (fun i wr => ∃ k : Nat, k ≤ l.length ∧ i = .int .i64 k ∧ (∀ j, j < k → inB (l.getD j cl0) r c = false) ∧ Below v0.heap.size v0 wr) (fun i _ => l.length - (intOf i).toNat)
  case atStart => exact ⟨0, Nat.zero_le _, rfl, fun j hj => by omega, Below.refl _ _⟩
  case round =>
    obtain ⟨k, hk, rfl, hall, hb⟩ := hrel
    have HA : Hid (∀ j, j < k → inB (l.getD j cl0) r c = false) := hall
    have HB : Hid (Below v0.heap.size v0 wr) := hb
    have HW : Hid (Below w.heap.size w wr) := B0.trans (hb.mono B0.size)
    have j0 := (hb.cell (p := ⟨w.heap.size, 0, none⟩) z0).trans k0
    have j1 := (hb.cell (p := ⟨w.heap.size, 1, none⟩) z0).trans k1
    have j2 := (hb.cell (p := ⟨w.heap.size, 2, none⟩) z0).trans k2
    have sz := hb.size
    have s5 := B0.size
    have zz : w.heap.size < wr.heap.size := by omega
    clear hall hb k0 k1 k2
    by_cases hlt : k < l.length
    · cases ho : okB R C l
      · have HO : Hid (okB R C l = false) := ho
        clear ho
        go_wp2_with (go_at_call 7; refine (specTableOk_is HO.out (H.out.below HW.out)).mono ?_; rintro e w2 ⟨rfl, hb2⟩)
        go_ret
        refine ⟨?_, HW.out.trans (hb2.mono (by omega))⟩
        rw [← HX.out]
        simp only [atN, HO.out]
        rfl
      · have hf := formB_of (okB_form ho)
        obtain ⟨hR, hC, -, hat⟩ := hf
        have HO : Hid (okB R C l = true) := ho
        clear ho
        rcases H.out.2.2.2 with e | ⟨b, off, rfl, hbw, hl⟩
        · rw [e] at hlt
          exact absurd hlt (by simp)
        obtain ⟨⟨s0, s1⟩, ⟨s2, s3⟩, ⟨s4, s5'⟩, ⟨s6, s7⟩, -⟩ := cellB_of (atB_cell (hat k hlt))
        have HC : Hid (CellAt w b (off + k * 5) (l.getD k cl0)) := hl k hlt
        clear hl hat
        obtain ⟨⟨cr, cc, cd, cg, tx⟩, hxx⟩ : ∃ x, x = l.getD k cl0 := ⟨_, rfl⟩
        rw [← hxx] at HC s0 s1 s2 s3 s4 s5' s6 s7
        simp only at HC s0 s1 s2 s3 s4 s5' s6 s7
        have HXX : Hid ((cr, cc, cd, cg, tx) = l.getD k cl0) := hxx
        clear hxx
        have y0 : sml cr := ⟨by omega, by omega⟩
        have y1 : sml cc := ⟨by omega, by omega⟩
        have y2 : sml cd := ⟨by omega, by omega⟩
        have y3 : sml cg := ⟨by omega, by omega⟩
        clear s0 s1 s2 s3 s4 s5' s6 s7
        obtain ⟨z, hz⟩ : ∃ z, inB (cr, cc, cd, cg, tx) r c = z := ⟨_, rfl⟩
        have HZ : Hid (inB (cr, cc, cd, cg, tx) r c = z) := hz
        clear hz
        cases z
        · go_wp2_with (first | (go_at_call 7; refine (specTableOk_is HO.out (H.out.below HW.out)).mono ?_; rintro e w2 ⟨rfl, hb2⟩; have bw : Hid (Below w.heap.size w w2) := HW.out.trans (hb2.mono (by omega)); have m2 := (hb2.cell (p := ⟨w.heap.size, 2, none⟩) zz).trans j2; obtain ⟨c0, c1, c2, c3, ta, tn, tc, c4, -⟩ := HC.out.below bw.out hbw) | (go_at_call 19; refine (l2In_is (t := tx) HZ.out ta tn tc _ y0 y1 y2 y3).mono ?_; rintro e w3 ⟨rfl, hb3⟩))
          go_roundw
          case rel =>
            refine ⟨k + 1, by omega, by go_num, ?_, (HB.out.trans (hb2.mono sz)).trans (hb3.mono (Nat.le_trans sz hb2.size))⟩
            intro j hj
            by_cases hjk : j = k
            · subst hjk
              rw [← HXX.out]
              exact HZ.out
            · exact HA.out j (by omega)
          case measure => simp [intOf]; omega
        · go_wp2_with (first | (go_at_call 7; refine (specTableOk_is HO.out (H.out.below HW.out)).mono ?_; rintro e w2 ⟨rfl, hb2⟩; have bw : Hid (Below w.heap.size w w2) := HW.out.trans (hb2.mono (by omega)); have m2 := (hb2.cell (p := ⟨w.heap.size, 2, none⟩) zz).trans j2; obtain ⟨c0, c1, c2, c3, ta, tn, tc, c4, -⟩ := HC.out.below bw.out hbw) | (go_at_call 19; refine (l2In_is (t := tx) HZ.out ta tn tc _ y0 y1 y2 y3).mono ?_; rintro e w3 ⟨rfl, hb3⟩))
          go_ret
          refine ⟨?_, bw.out.trans (hb3.mono bw.out.size)⟩
          rw [← HX.out]
          have hh := findIdx_some l k r c hlt HA.out (by rw [← HXX.out]; exact HZ.out)
          simp only [atN, HO.out, hh]
          rfl
    · go_wp2_with fail
      go_ret
      refine ⟨?_, HW.out⟩
      rw [← HX.out]
      have hh := findIdx_none l r c (fun j hj => HA.out j (by omega))
      simp only [atN, hh]
      split <;> rfl
end Go.Proofs.Ytfhfbnlaioemjaa
