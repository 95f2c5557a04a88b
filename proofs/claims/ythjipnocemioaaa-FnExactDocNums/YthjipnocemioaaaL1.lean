import Derived.Test.YthjipnocemioaaaBD3
import Derived.Test.YthjipnocemioaaaBA2
import Derived.Test.YthjipnocemioaaaBA1
import Derived.Test.YthjipnocemioaaaBN1
namespace Go.Proofs.Ythjipnocemioaaa
open Go.RowKit

theorem NnOwn.mid {w w' : World} {B E : Nat} {v : Value} {vs : List Value} {nss : List (List Int)} (h : NnOwn w B E v vs nss) (ho : ∀ b, B ≤ b → b < E → w'.heap[b]? = w.heap[b]?) : NnOwn w' B E v vs nss := by
  refine ⟨⟨h.1.1, ?_⟩, h.2.1, h.2.2.kept (fun b _ _ hb hb' _ hr => (ho b hb hb').trans hr)⟩
  rcases h.1.2 with hn | ⟨g, cap, cur, hv, hg, hgg, rest⟩
  · exact .inl hn
  · exact .inr ⟨g, cap, cur, hv, hg, (ho g hg (h.2.1 g (by rw [hv]; rfl))).trans hgg, rest⟩
set_option maxRecDepth 100000 in
set_option maxHeartbeats 16000000 in
theorem lawFnExactDocNums_walk (a : Option Addr) (n cap : Nat) (d : List Bl) (w : World) (h : Dc w a n cap d) :
    Calls Try.prog 5 #[.agg #[.slice a n cap]] w fun e w' => e = .returned (.bool true) ∧ Below w.heap.size w w' := by
  have H : Hid (Dc w a n cap d) := h
  clear h
  obtain ⟨r, HRR⟩ : ∃ r, Hid ((if docB d = true then numsL d d.length else []) = r) := ⟨_, rfl⟩
  have hsm : r.length ≤ 100 ∧ ∀ k, k < r.length → (r.getD k []).length ≤ 100 := by
    rw [← HRR.out]
    split
    · rename_i hd
      have h8 : d.length ≤ 8 := ((doc_parts2 d).1 hd).1
      refine ⟨by simp [numsL]; omega, fun k hk => ?_⟩
      have hk' : k < d.length := by simpa [numsL] using hk
      have e : (numsL d d.length).getD k [] = numK d k := by simp [numsL, List.getD, hk']
      rw [e]
      unfold numK
      have : (cnL (cnD d (k + 1))).length = 4 := rfl
      rw [List.length_take]
      omega
    · exact ⟨by simp, fun k hk => by simp at hk⟩
  obtain ⟨r1, r2⟩ := hsm
  have R2 : Hid (∀ k, k < r.length → (r.getD k []).length ≤ 100) := r2
  clear r2
  have HSP : Hid (∀ {a : Option Addr} {n cap : Nat} {u : World}, Dc u a n cap d → Calls Try.prog 16 #[.agg #[.slice a n cap]] u fun e w' => (∃ p m q, e = .returned (.slice p m q) ∧ Nn w' p m q r) ∧ Below u.heap.size u w') := fun hu => (specDocNums_any hu).mono fun e w' hr => by
    rw [HRR.out] at hr
    exact hr
  have HIM : Hid (∀ {a : Option Addr} {n cap : Nat} {u : World}, Dc u a n cap d → Calls Try.prog 17 #[.agg #[.slice a n cap]] u fun e w' => (∃ p m q vs, e = .returned (.slice p m q) ∧ NnOwn w' u.heap.size w'.heap.size (.slice p m q) vs r) ∧ Below u.heap.size u w') := fun hu => (implDocNums_any hu).mono fun e w' hr => by
    rw [HRR.out] at hr
    exact hr
  clear HRR
  go_enter Try.func5, Try.ntmps5
  go_upto_region 1 with fail
  have B0 : Below w.heap.size w (w.alloc (.cells #[.slice a n cap] 24)) := (Below.refl _ _).alloc (Nat.le_refl _) _
  have G0 : RowAt (w.alloc (.cells #[.slice a n cap] 24)) w.heap.size #[.slice a n cap] 24 := rowAt_new w _ _
  generalize (w.alloc (.cells #[.slice a n cap] 24)) = v0 at B0 G0 ⊢
  have k0 : v0.cell? ⟨w.heap.size, 0, none⟩ = some (.slice a n cap) := G0.cell 0
  have z0 := G0.lt
  have HG : Hid (RowAt v0 w.heap.size #[.slice a n cap] 24) := G0
  have T0 : Hid (Dc v0 a n cap d) := H.out.below B0
  clear G0
  go_wp2_with fail
  refine (szDoc_any T0.out).mono ?_
  rintro e w1 ⟨(rfl | ⟨hle, rfl⟩), hb1⟩
  · go_wp2_with fail
    go_ret
    exact ⟨rfl, B0.trans (hb1.mono B0.size)⟩
  have T1 : Hid (Dc w1 a n cap d) := T0.out.below hb1
  have s0 := B0.size
  have s1 := hb1.size
  have HB1 : Hid (Below w.heap.size w w1) := B0.trans (hb1.mono s0)
  have HG1 : Hid (RowAt w1 w.heap.size #[.slice a n cap] 24) := HG.out.below hb1 z0
  have j0 : w1.cell? ⟨w.heap.size, 0, none⟩ = some (.slice a n cap) := HG1.out.cell 0
  have n0 : ¬ (1048576 - (d.length : Int) - (totD d : Nat)) < 0 := by omega
  have z1 : w.heap.size < w1.heap.size := by omega
  clear k0 HG hb1 B0
  go_wp2_with fail
  refine (toDoc_any T1.out hle).mono ?_
  rintro e w2 ⟨⟨b2, r2, rfl, ho2⟩, hb2⟩
  have s2 := hb2.size
  go_wp2_with fail
  refine (HSP.out ho2.dc).mono ?_
  rintro e w3 ⟨⟨p1, m1, q1, rfl, ho3⟩, hb3⟩
  have s3 := hb3.size
  have b13 : Below w1.heap.size w1 w3 := hb2.trans (hb3.mono s2)
  clear hb2 hb3 ho2 j0
  have z3 : w.heap.size < w3.heap.size := by omega
  have HG3 : Hid (RowAt w3 w.heap.size #[.slice a n cap] 24) := HG1.out.below b13 z1
  have T3 : Hid (Dc w3 a n cap d) := T1.out.below b13
  have HB3 : Hid (Below w.heap.size w w3) := HB1.out.trans (b13.mono (by omega))
  have HT1 : Hid (Nn w3 p1 m1 q1 r) := ho3
  clear b13 HG1 T1 HB1 ho3
  have i0 : w3.cell? ⟨w.heap.size, 0, none⟩ = some (.slice a n cap) := HG3.out.cell 0
  go_wp2_with fail
  refine (toDoc_any T3.out hle).mono ?_
  rintro e w4 ⟨⟨b4, r4, rfl, ho4⟩, hb4⟩
  clear i0
  have s5 := hb4.size
  go_upto_region 7 with fail
  have X4 : RowAt (w4.alloc (.cells #[.slice (some ⟨b4, 0, none⟩) n n] 29)) w4.heap.size #[.slice (some ⟨b4, 0, none⟩) n n] 29 := rowAt_new _ _ _
  have O4 : DocOwn (w4.alloc (.cells #[.slice (some ⟨b4, 0, none⟩) n n] 29)) w3.heap.size w4.heap.size (.slice (some ⟨b4, 0, none⟩) n n) r4 d := ho4.below (Nat.le_refl _) ((Below.refl _ _).alloc (Nat.le_refl _) _)
  have B4 : Below w3.heap.size w3 (w4.alloc (.cells #[.slice (some ⟨b4, 0, none⟩) n n] 29)) := hb4.alloc s5 _
  generalize (w4.alloc (.cells #[.slice (some ⟨b4, 0, none⟩) n n] 29)) = v4 at X4 O4 B4 ⊢
  have zx := X4.lt
  have s6 := B4.size
  have HX4 : Hid (RowAt v4 w4.heap.size #[.slice (some ⟨b4, 0, none⟩) n n] 29) := X4
  have HO4 : Hid (DocOwn v4 w3.heap.size w4.heap.size (.slice (some ⟨b4, 0, none⟩) n n) r4 d) := O4
  have HB4 : Hid (Below w3.heap.size w3 v4) := B4
  clear X4 O4 B4 ho4 hb4
  have e0 : v4.cell? ⟨w4.heap.size, 0, none⟩ = some (.slice (some ⟨b4, 0, none⟩) n n) := HX4.out.cell 0
  go_wp2_with fail
  refine (HIM.out HO4.out.dc).mono ?_
  rintro e w5 ⟨⟨p2, m2, q2, vs, rfl, ho5⟩, hb5⟩
  clear e0
  have s7 := hb5.size
  have HO5 : Hid (NnOwn w5 v4.heap.size w5.heap.size (.slice p2 m2 q2) vs r) := ho5
  have HX5 : Hid (RowAt w5 w4.heap.size #[.slice (some ⟨b4, 0, none⟩) n n] 29) := HX4.out.below hb5 zx
  have HP5 : Hid (DocOwn w5 w3.heap.size w4.heap.size (.slice (some ⟨b4, 0, none⟩) n n) r4 d) := HO4.out.below (by omega) hb5
  have HB5 : Hid (Below w3.heap.size w3 w5) := HB4.out.trans (hb5.mono s6)
  clear ho5 hb5
  go_upto_region 10 with (go_at_call 18; refine (eqIntSS_same HO5.out.nn (HT1.out.below HB5.out)).mono ?_; rintro e w6 ⟨rfl, hb6⟩)
  have s9 := hb6.size
  have HB6 : Hid (Below w3.heap.size w3 w6) := HB5.out.trans (hb6.mono (by omega))
  have HX6 : Hid (RowAt w6 w4.heap.size #[.slice (some ⟨b4, 0, none⟩) n n] 29) := HX5.out.below hb6 (by omega)
  have HO6 : Hid (NnOwn w6 v4.heap.size w5.heap.size (.slice p2 m2 q2) vs r) := HO5.out.below (by omega) hb6
  have HP6 : Hid (DocOwn w6 w3.heap.size w4.heap.size (.slice (some ⟨b4, 0, none⟩) n n) r4 d) := HP5.out.below (by omega) hb6
  clear hb6
  have e0 : w6.cell? ⟨w4.heap.size, 0, none⟩ = some (.slice (some ⟨b4, 0, none⟩) n n) := HX6.out.cell 0
  have i0 : w6.cell? ⟨w.heap.size, 0, none⟩ = some (.slice a n cap) := (HG3.out.below HB6.out z3).cell 0
  have y6 : w.heap.size < w6.heap.size := by omega
  have z6 : w4.heap.size < w6.heap.size := by omega
  go_wp2_with fail
  go_region_held3 (fun w' => w'.cell? ⟨w.heap.size, 0, none⟩ = some (.slice a n cap) ∧ w'.cell? ⟨w4.heap.size, 0, none⟩ = some (.slice (some ⟨b4, 0, none⟩) n n))
    (first
      | go_keep
      | (go_split_ands
         refine ⟨?_, ?_⟩
         · (rw [hb8.cell (p := ⟨w.heap.size, 0, none⟩) (by have := hb7.size; simp at this; show w.heap.size < _; omega)]; assumption)
         · (rw [hb8.cell (p := ⟨w4.heap.size, 0, none⟩) (by have := hb7.size; simp at this; show w4.heap.size < _; omega)]; assumption))
      | (go_split_ands
         refine ⟨?_, ?_⟩
         · (rw [hb7.cell (p := ⟨w.heap.size, 0, none⟩) (by simpa using y6)]; assumption)
         · (rw [hb7.cell (p := ⟨w4.heap.size, 0, none⟩) (by simpa using z6)]; assumption)))
    ((first
      | (go_at_call 11; refine (toDoc_any ((T3.out.below HB6.out).below (Below.refl _ _).drew) hle).mono ?_; rintro e w7 ⟨⟨b7, r7, rfl, ho7⟩, hb7⟩)
      | (go_at_call 13; refine (eqDoc_same ((HP6.out.dc.below (Below.refl _ _).drew).below hb7) ho7.dc).mono ?_; rintro e w8 ⟨rfl, hb8⟩)))
  have s10 := hb7.size
  simp only [World.size_drew] at s10
  have s11 := hb8.size
  have b68 : Below w6.heap.size w6 w8 := ((Below.refl w6.heap.size w6).drew.trans (hb7.mono (by simp only [World.size_drew]; omega))).trans (hb8.mono (by omega))
  clear e0 i0
  have HB8 : Hid (Below w3.heap.size w3 w8) := HB6.out.trans (b68.mono (by omega))
  have HX8 : Hid (RowAt w8 w4.heap.size #[.slice (some ⟨b4, 0, none⟩) n n] 29) := HX6.out.below b68 (by omega)
  have HO8 : Hid (NnOwn w8 v4.heap.size w5.heap.size (.slice p2 m2 q2) vs r) := HO6.out.below (by omega) b68
  have HP8 : Hid (DocOwn w8 w3.heap.size w4.heap.size (.slice (some ⟨b4, 0, none⟩) n n) r4 d) := HP6.out.below (by omega) b68
  clear hb7 hb8 ho7 b68
  have e0 : w8.cell? ⟨w4.heap.size, 0, none⟩ = some (.slice (some ⟨b4, 0, none⟩) n n) := HX8.out.cell 0
  go_wp2_with fail
  refine (markDoc_over HP8.out (by omega) (by omega) (by omega) (by omega) hle).mono ?_
  rintro e w9 ⟨rfl, -, hb9, hov⟩
  have s12 := hb9.size
  clear e0
  have HB9 : Hid (Below w3.heap.size w3 w9) := HB8.out.trans hb9
  have HO9 : Hid (NnOwn w9 v4.heap.size w5.heap.size (.slice p2 m2 q2) vs r) := HO8.out.mid (fun b hb hb' => hov b (by omega) (by omega))
  clear hb9 hov
  obtain ⟨K, HK⟩ : ∃ K, Hid (kD 1 d d.length = K) := ⟨_, rfl⟩
  have kge : 0 ≤ K := by rw [← HK.out]; exact kD_ge d _ (by omega)
  rw [HK.out]
  have nk : ¬ K < 0 := by omega
  go_upto_region 16 with (go_at_call 18; refine (eqIntSS_same HO9.out.nn (HT1.out.below HB9.out)).mono ?_; rintro e w10 ⟨rfl, hb10⟩)
  have s13 := hb10.size
  have HB10 : Hid (Below w3.heap.size w3 w10) := HB9.out.trans (hb10.mono (by omega))
  have HO10 : Hid (NnOwn w10 v4.heap.size w5.heap.size (.slice p2 m2 q2) vs r) := HO9.out.below (by omega) hb10
  clear hb10
  go_wp2_with fail
  refine (markIntSS_over HO10.out (by omega) (by omega) (by omega) r1 R2.out).mono ?_
  rintro e w11 ⟨rfl, ho11, hb11, -⟩
  have s14 := hb11.size
  have HB11 : Hid (Below w3.heap.size w3 w11) := HB10.out.trans (hb11.mono (by omega))
  have HM11 : Hid (Nn w11 p2 m2 q2 (markNs 1 r r.length)) := ho11.nn
  clear ho11 hb11
  obtain ⟨M, HM⟩ : ∃ M, Hid (kN 1 r r.length = M) := ⟨_, rfl⟩
  have mge : 0 ≤ M := by rw [← HM.out]; exact kN_ge r _ (by omega)
  rw [HM.out]
  have nm : ¬ M < 0 := by omega
  have ne : (M != M) = false := by simp
  go_wp2_with fail
  refine (heldIntSS_any HM11.out (by omega) (by omega) r1 R2.out).mono ?_
  rintro e w12 ⟨rfl, hw12⟩
  subst w12
  rw [HM.out]
  have i0 : w11.cell? ⟨w.heap.size, 0, none⟩ = some (.slice a n cap) := (HG3.out.below HB11.out z3).cell 0
  go_wp2_with fail
  refine (toDoc_any (T3.out.below HB11.out) hle).mono ?_
  rintro e w13 ⟨⟨b13, r13, rfl, ho13⟩, hb13⟩
  have s16 := hb13.size
  go_wp2_with fail
  refine (HIM.out ho13.dc).mono ?_
  rintro e w14 ⟨⟨p3, m3, q3, rs3, rfl, ho14⟩, hb14⟩
  have s17 := hb14.size
  have b24 : Below w11.heap.size w11 w14 := hb13.trans (hb14.mono s16)
  have HT14 : Hid (Nn w14 p3 m3 q3 r) := ho14.nn
  clear hb13 hb14 ho13 ho14 i0
  have HM14 : Hid (Nn w14 p2 m2 q2 (markNs 1 r r.length)) := HM11.out.below b24
  have HB14 : Hid (Below w3.heap.size w3 w14) := HB11.out.trans (b24.mono (by omega))
  clear b24
  go_upto_region 27 with (go_at_call 18; refine (eqIntSS_same HT14.out (HT1.out.below HB14.out)).mono ?_; rintro e w15 ⟨rfl, hb15⟩)
  have s19 := hb15.size
  have HM15 : Hid (Nn w15 p2 m2 q2 (markNs 1 r r.length)) := HM14.out.below hb15
  go_wp2_with fail
  refine (heldIntSS_any HM15.out (by omega) (by omega) r1 R2.out).mono ?_
  rintro e w16 ⟨rfl, hw16⟩
  subst w16
  rw [HM.out]
  go_wp2_with fail
  go_ret
  exact ⟨rfl, (HB3.out.trans (HB14.out.mono (by omega))).trans (hb15.mono (by omega))⟩
end Go.Proofs.Ythjipnocemioaaa
