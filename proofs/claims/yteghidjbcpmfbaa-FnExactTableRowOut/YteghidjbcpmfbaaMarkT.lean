import Derived.Test.YteghidjbcpmfbaaTabE
import Derived.Test.YteghidjbcpmfbaaMark
namespace Go.Proofs.Yteghidjbcpmfbaa
open Go.RowKit

/-- The cell that the marker lays, from k on. -/
def mkC (k : Int) (n : Nat) : Cl := (k, k + 1, k + 2, k + 3, marked (k + 4) n)
def kAt (k0 : Int) (l : List Cl) (i : Nat) : Int := k0 + 4 * i + 3 * (totT (l.take i) : Nat)
def markL (k0 : Int) (l : List Cl) : List Cl := (List.range l.length).map fun k => mkC (kAt k0 l k) (l.getD k cl0).2.2.2.2.length
theorem markL_len (k0 : Int) (l : List Cl) : (markL k0 l).length = l.length := by simp [markL]
theorem markL_get (k0 : Int) (l : List Cl) (k : Nat) (h : k < l.length) : (markL k0 l).getD k cl0 = mkC (kAt k0 l k) (l.getD k cl0).2.2.2.2.length := by
  simp only [markL, List.getD, List.getElem?_map, List.getElem?_range h, Option.map_some, Option.getD_some]
theorem kAt_succ (k0 : Int) (l : List Cl) (i : Nat) (h : i < l.length) : kAt k0 l (i + 1) = kAt k0 l i + 4 + 3 * ((l.getD i cl0).2.2.2.2.length : Nat) := by
  unfold kAt
  rw [totT_take l i h]
  omega
theorem kAt_ge (k0 : Int) (l : List Cl) (i : Nat) (h : 0 ≤ k0) : 0 ≤ kAt k0 l i := by
  unfold kAt
  omega
theorem kAt_le (k0 : Int) (l : List Cl) (i : Nat) (h : i ≤ l.length) : kAt k0 l i ≤ k0 + 4 * l.length + 3 * (totT l : Nat) := by
  unfold kAt
  have := totT_append (l.take i) (l.drop i)
  rw [List.take_append_drop] at this
  omega
theorem getD_set_eq {α : Type} (l : List α) (i : Nat) (x d : α) (h : i < l.length) : (l.set i x).getD i d = x := by simp [List.getD, h]
theorem getD_set_ne {α : Type} (l : List α) (i k : Nat) (x d : α) (h : i ≠ k) : (l.set i x).getD k d = l.getD k d := by simp [List.getD, List.getElem?_set_ne h]
theorem TxtOwn.upd {w w' : World} {B : Nat} {q : Option Nat} {rs : List Rw} {l : List Cl} (h : TxtOwn w B q rs l) (i : Nat) (hi : i < rs.length) (x : Rw) (y : Cl) (hx : rwT x = rwT (rs.getD i rw0)) (ho : RwOwn w' B x y)
    (hk : ∀ k, k < rs.length → k ≠ i → Own w' B (rwT (rs.getD k rw0)) (l.getD k cl0).2.2.2.2) : TxtOwn w' B q (rs.set i x) (l.set i y) := by
  have hl := h.1
  have hT : ∀ k, rwT ((rs.set i x).getD k rw0) = rwT (rs.getD k rw0) := by
    intro k
    by_cases hki : i = k
    · subst hki
      rw [getD_set_eq _ _ _ _ hi, hx]
    · rw [getD_set_ne _ _ _ _ _ hki]
  refine ⟨by simp [hl], fun k hk' => ?_, fun k hk' g hg => ?_, fun a b hab hb g hg => ?_⟩
  · simp only [List.length_set] at hk'
    by_cases hki : i = k
    · subst hki
      rw [getD_set_eq _ _ _ _ hi, getD_set_eq _ _ _ _ (by omega)]
      exact ho
    · rw [getD_set_ne _ _ _ _ _ hki, getD_set_ne _ _ _ _ _ hki]
      obtain ⟨h0, h1, h2, h3, _⟩ := h.2.1 k hk'
      exact ⟨h0, h1, h2, h3, hk k hk' (Ne.symm hki)⟩
  · simp only [List.length_set] at hk'
    rw [hT] at hg
    exact h.2.2.1 k hk' g hg
  · simp only [List.length_set] at hb
    rw [hT] at hg ⊢
    exact h.2.2.2 a b hab hb g hg
theorem flat5_set (rs : List Rw) (i : Nat) (hi : i < rs.length) (a b c d : Int) (s : Option Addr × Nat × Nat) (hs : (rs.getD i rw0).2.2.2.2 = s) :
    (((((flat5 rs).set (i * 5) (.int .i64 a)).set (i * 5 + 1) (.int .i64 b)).set (i * 5 + 2) (.int .i64 c)).set (i * 5 + 3) (.int .i64 d)) = flat5 (rs.set i (a, b, c, d, s)) := by
  apply List.ext_getElem?
  intro j
  have hlen := flat5_length rs
  by_cases hj : j < rs.length * 5
  · have hj5 : j = j / 5 * 5 + j % 5 := by omega
    have hk : j / 5 < rs.length := by omega
    have hm : j % 5 < 5 := by omega
    generalize j / 5 = k at hj5 hk
    generalize j % 5 = r at hj5 hm
    subst hj5
    rw [flat5_get (rs.set i (a, b, c, d, s)) k r (by simpa using hk) hm]
    by_cases hki : i = k
    · subst hki
      rw [getD_set_eq _ _ _ _ hi]
      have hold := flat5_get rs i 4 hi (by omega)
      rcases (show r = 0 ∨ r = 1 ∨ r = 2 ∨ r = 3 ∨ r = 4 from by omega) with rfl | rfl | rfl | rfl | rfl
      · rw [List.getElem?_set_ne (by omega), List.getElem?_set_ne (by omega), List.getElem?_set_ne (by omega), Nat.add_zero, List.getElem?_set_self (by omega)]; rfl
      · rw [List.getElem?_set_ne (by omega), List.getElem?_set_ne (by omega), List.getElem?_set_self (by simp; omega)]; rfl
      · rw [List.getElem?_set_ne (by omega), List.getElem?_set_self (by simp; omega)]; rfl
      · rw [List.getElem?_set_self (by simp; omega)]; rfl
      · rw [List.getElem?_set_ne (by omega), List.getElem?_set_ne (by omega), List.getElem?_set_ne (by omega), List.getElem?_set_ne (by omega), hold, ← hs]; rfl
    · rw [getD_set_ne _ _ _ _ _ hki, List.getElem?_set_ne (by omega), List.getElem?_set_ne (by omega), List.getElem?_set_ne (by omega), List.getElem?_set_ne (by omega)]
      exact flat5_get rs k r hk hm
  · rw [List.getElem?_eq_none (by simp; omega), List.getElem?_eq_none (by rw [flat5_length]; simp; omega)]

/-- Tables that lie elsewhere stay as they are. -/
def Stay (w w' : World) : Prop := ∀ b cs, RowAt w b cs 28 → RowAt w' b cs 28

/-- From block E on nothing has turned. -/
def Over (E : Nat) (w w' : World) : Prop := ∀ b, E ≤ b → b < w.heap.size → w'.heap[b]? = w.heap[b]?
theorem own_over {w w' : World} {B E e size n : Nat} {v : Value} {xs : List Value} (h : w.ownsRow B e size v n xs) (hE : E ≤ B) (ho : Over E w w') : w'.ownsRow B e size v n xs := by
  refine ⟨h.1, ?_⟩
  rcases h.2 with hn | ⟨g, cap, cur, rfl, hg, hgg, rest⟩
  · exact .inl hn
  · exact .inr ⟨g, cap, cur, rfl, hg, by rw [ho g (by omega) (Array.getElem?_eq_some_iff.1 hgg).1]; exact hgg, rest⟩
theorem OwnT.over {w w' : World} {B E : Nat} {v : Value} {rs : List Rw} {l : List Cl} (h : OwnT w B v rs l) (hE : E ≤ B) (ho : Over E w w') : OwnT w' B v rs l :=
  ⟨own_over h.1 hE ho, h.2.1, fun k hk => by
    obtain ⟨a0, a1, a2, a3, a4⟩ := h.2.2.1 k hk
    exact ⟨a0, a1, a2, a3, own_over a4 hE ho⟩, h.2.2.2.1, h.2.2.2.2⟩

set_option maxRecDepth 100000 in
set_option maxHeartbeats 4000000 in
theorem markCellS_over (a : Option Addr) (n c : Nat) (rs : List Rw) (l : List Cl) (k0 : Int) (B E : Nat) (w : World) (h : OwnT w B (.slice a n c) rs l) (hE : ∀ g, (Value.slice a n c).ownBlock = some g → g < E) (hT : ∀ k, k < rs.length → ∀ g, (rwT (rs.getD k rw0)).ownBlock = some g → g < E) (h0 : 0 ≤ k0) (h1 : k0 + 4 * l.length + 3 * (totT l : Nat) ≤ 50000000) (h2 : totT l ≤ 1048576) :
    Calls Try.prog 38 #[.slice a n c, .int .i64 k0] w fun e w' => e = .returned (.int .i64 (kAt k0 l l.length)) ∧ (∃ rs', OwnT w' B (.slice a n c) rs' (markL k0 l)) ∧ Below B w w' ∧ Stay w w' ∧ Over E w w' := by
  have hn := h.len
  have htab := h.tab
  have hcm := htab.2.2.1
  have hcn := htab.2.1
  unfold maxLen at hcm
  have HOT : Hid (OwnT w B (.slice a n c) rs l) := h
  have HE : Hid (∀ g, (Value.slice a n c).ownBlock = some g → g < E) := hE
  have HTE : Hid (∀ k, k < rs.length → ∀ g, (rwT (rs.getD k rw0)).ownBlock = some g → g < E) := hT
  clear hE hT
  clear h htab
  subst hn
  go_enter Try.func38, Try.ntmps38
  go_wp2_with fail
  go_loopw [1, 5] (fun kk iv wr => ∃ (i : Nat) (rs' : List Rw) (l' : List Cl), i ≤ l.length ∧ iv = .int .i64 i ∧ kk = .int .i64 (kAt k0 l i) ∧ OwnT wr B (.slice a l.length c) rs' l' ∧ (∀ k, k < l.length → (l'.getD k cl0).2.2.2.2.length = (l.getD k cl0).2.2.2.2.length) ∧ (∀ k, k < i → l'.getD k cl0 = mkC (kAt k0 l k) (l.getD k cl0).2.2.2.2.length) ∧ Below B w wr ∧ Stay w wr ∧ Over E w wr ∧ (∀ k, k < rs'.length → ∀ g, (rwT (rs'.getD k rw0)).ownBlock = some g → g < E)) (fun _ iv _ => l.length - (intOf iv).toNat)
  case atStart => exact ⟨0, rs, l, Nat.zero_le _, rfl, by simp [kAt, totT], HOT.out, fun _ _ => rfl, fun k hk => by omega, Below.refl _ _, fun _ _ hh => hh, fun _ _ _ => rfl, HTE.out⟩
  case round =>
    obtain ⟨i, rs', l', hi, rfl, rfl, ho, hlen, hdone, hb, hstay, hov, hte⟩ := hrel
    have HOv : Hid (Over E w wr) := hov
    have HTe : Hid (∀ k, k < rs'.length → ∀ g, (rwT (rs'.getD k rw0)).ownBlock = some g → g < E) := hte
    have HSz : Hid (w.heap.size ≤ wr.heap.size) := hb.size
    have HSt : Hid (Stay w wr) := hstay
    have HO : Hid (OwnT wr B (.slice a l.length c) rs' l') := ho
    have HLn : Hid (∀ k, k < l.length → (l'.getD k cl0).2.2.2.2.length = (l.getD k cl0).2.2.2.2.length) := hlen
    have HD : Hid (∀ k, k < i → l'.getD k cl0 = mkC (kAt k0 l k) (l.getD k cl0).2.2.2.2.length) := hdone
    have HB : Hid (Below B w wr) := hb
    have HLL : Hid (l.length = l'.length) := ho.len
    have HRL : Hid (l.length = rs'.length) := ho.1.len
    clear hlen hdone hb hstay hov hte
    by_cases hlt : i < l.length
    · have kge := kAt_ge k0 l i h0
      have kle := kAt_le k0 l i (by omega)
      have HSU : Hid (kAt k0 l (i + 1) = kAt k0 l i + 4 + 3 * ((l.getD i cl0).2.2.2.2.length : Nat)) := kAt_succ k0 l i hlt
      have hK : ∃ K, Hid (kAt k0 l i = K) := ⟨_, rfl⟩
      obtain ⟨K, HK⟩ := hK
      rw [HK.out] at kge kle ⊢
      rcases ho.1.row.2 with ⟨hv, hz⟩ | ⟨g, cap, cur, hv, hgB, hgg, _⟩
      · exfalso; omega
      simp only [Value.slice.injEq, true_and] at hv
      obtain ⟨rfl, rfl⟩ := hv
      have hrow := ho.1.row
      have glt := (own_lt hrow rfl).2
      have hxl := hrow.1
      have f0 := hrow.frozenAt (i * 5)
      have f1 := hrow.frozenAt (i * 5 + 1)
      have f2 := hrow.frozenAt (i * 5 + 2)
      have f3 := hrow.frozenAt (i * 5 + 3)
      obtain ⟨u0, d0⟩ : ∃ u, wr.cell? ⟨g, i * 5, none⟩ = some u := ⟨_, (hrow.cellAt (i * 5) (by omega)).trans (List.getElem?_eq_getElem (by omega))⟩
      obtain ⟨u1, d1⟩ : ∃ u, wr.cell? ⟨g, i * 5 + 1, none⟩ = some u := ⟨_, (hrow.cellAt (i * 5 + 1) (by omega)).trans (List.getElem?_eq_getElem (by omega))⟩
      obtain ⟨u2, d2⟩ : ∃ u, wr.cell? ⟨g, i * 5 + 2, none⟩ = some u := ⟨_, (hrow.cellAt (i * 5 + 2) (by omega)).trans (List.getElem?_eq_getElem (by omega))⟩
      obtain ⟨u3, d3⟩ : ∃ u, wr.cell? ⟨g, i * 5 + 3, none⟩ = some u := ⟨_, (hrow.cellAt (i * 5 + 3) (by omega)).trans (List.getElem?_eq_getElem (by omega))⟩
      have hK2 : K ≤ 50000000 := by omega
      clear ho hrow hxl hgg kle
      go_upto_region 12 with fail
      obtain ⟨⟨p, m, q⟩, hs⟩ : ∃ s, (rs'.getD i rw0).2.2.2.2 = s := ⟨_, rfl⟩
      obtain ⟨p0, _⟩ := HO.out.1.row.stored (i * 5) (.int .i64 K)
      obtain ⟨p1, _⟩ := p0.stored (i * 5 + 1) (.int .i64 (K + 1))
      obtain ⟨p2, _⟩ := p1.stored (i * 5 + 2) (.int .i64 (K + 1 + 1))
      obtain ⟨p3, _⟩ := p2.stored (i * 5 + 3) (.int .i64 (K + 1 + 1 + 1))
      have hir : i < rs'.length := by rw [← HRL.out]; exact hlt
      rw [flat5_set rs' i hir _ _ _ _ (p, m, q) hs] at p3
      have t3 : TxtOwn ((((wr.setCell ⟨g, i * 5, none⟩ (.int .i64 K)).setCell ⟨g, i * 5 + 1, none⟩ (.int .i64 (K + 1))).setCell ⟨g, i * 5 + 2, none⟩ (.int .i64 (K + 1 + 1))).setCell ⟨g, i * 5 + 3, none⟩ (.int .i64 (K + 1 + 1 + 1))) B (some g) rs' l' := (((HO.out.2.set ⟨g, i * 5, none⟩ (.int .i64 K) rfl).set ⟨g, i * 5 + 1, none⟩ (.int .i64 (K + 1)) rfl).set ⟨g, i * 5 + 2, none⟩ (.int .i64 (K + 1 + 1)) rfl).set ⟨g, i * 5 + 3, none⟩ (.int .i64 (K + 1 + 1 + 1)) rfl
      have b3 : Below B w ((((wr.setCell ⟨g, i * 5, none⟩ (.int .i64 K)).setCell ⟨g, i * 5 + 1, none⟩ (.int .i64 (K + 1))).setCell ⟨g, i * 5 + 2, none⟩ (.int .i64 (K + 1 + 1))).setCell ⟨g, i * 5 + 3, none⟩ (.int .i64 (K + 1 + 1 + 1))) := (((HB.out.setCell (p := ⟨g, i * 5, none⟩) hgB (.int .i64 K)).setCell (p := ⟨g, i * 5 + 1, none⟩) hgB (.int .i64 (K + 1))).setCell (p := ⟨g, i * 5 + 2, none⟩) hgB (.int .i64 (K + 1 + 1))).setCell (p := ⟨g, i * 5 + 3, none⟩) hgB (.int .i64 (K + 1 + 1 + 1))
      have st3 : Stay wr ((((wr.setCell ⟨g, i * 5, none⟩ (.int .i64 K)).setCell ⟨g, i * 5 + 1, none⟩ (.int .i64 (K + 1))).setCell ⟨g, i * 5 + 2, none⟩ (.int .i64 (K + 1 + 1))).setCell ⟨g, i * 5 + 3, none⟩ (.int .i64 (K + 1 + 1 + 1))) := by
        intro b cs hh
        have hne : b ≠ g := fun e => rowAt_ne hh HO.out.1.row (by decide) (by rw [e]; rfl)
        exact (((hh.other ⟨g, i * 5, none⟩ (.int .i64 K) hne).other ⟨g, i * 5 + 1, none⟩ (.int .i64 (K + 1)) hne).other ⟨g, i * 5 + 2, none⟩ (.int .i64 (K + 1 + 1)) hne).other ⟨g, i * 5 + 3, none⟩ (.int .i64 (K + 1 + 1 + 1)) hne
      have sz3 : ((((wr.setCell ⟨g, i * 5, none⟩ (.int .i64 K)).setCell ⟨g, i * 5 + 1, none⟩ (.int .i64 (K + 1))).setCell ⟨g, i * 5 + 2, none⟩ (.int .i64 (K + 1 + 1))).setCell ⟨g, i * 5 + 3, none⟩ (.int .i64 (K + 1 + 1 + 1))).heap.size = wr.heap.size := by simp only [Go.Deep.nblk_setCell]
      have ov3 : Over E w ((((wr.setCell ⟨g, i * 5, none⟩ (.int .i64 K)).setCell ⟨g, i * 5 + 1, none⟩ (.int .i64 (K + 1))).setCell ⟨g, i * 5 + 2, none⟩ (.int .i64 (K + 1 + 1))).setCell ⟨g, i * 5 + 3, none⟩ (.int .i64 (K + 1 + 1 + 1))) := by
        intro b hb1 hb2
        have hge : g < E := HE.out g rfl
        have hne : b ≠ g := by omega
        rw [Below.heap_setCell _ _ _ _ hne, Below.heap_setCell _ _ _ _ hne, Below.heap_setCell _ _ _ _ hne, Below.heap_setCell _ _ _ _ hne]
        exact HOv.out b hb1 hb2
      clear p0 p1 p2 d0 d1 d2 d3 f0 f1 f2 f3
      generalize ((((wr.setCell ⟨g, i * 5, none⟩ (.int .i64 K)).setCell ⟨g, i * 5 + 1, none⟩ (.int .i64 (K + 1))).setCell ⟨g, i * 5 + 2, none⟩ (.int .i64 (K + 1 + 1))).setCell ⟨g, i * 5 + 3, none⟩ (.int .i64 (K + 1 + 1 + 1))) = v at p3 t3 b3 sz3 st3 ov3 ⊢
      have HS3 : Hid (Stay wr v) := st3
      have HOv3 : Hid (Over E w v) := ov3
      clear st3 ov3
      have hc4 : v.cell? ⟨g, i * 5 + 4, none⟩ = some (.slice p m q) := by
        rw [p3.cellAt (i * 5 + 4) (by omega), flat5_get _ i 4 (by simpa using hir) (by omega), getD_set_eq _ _ _ _ hir]
        rfl
      have hto : Own v B (.slice p m q) (l'.getD i cl0).2.2.2.2 := by
        have := (t3.2.1 i hir).2.2.2.2
        unfold rwT at this
        rw [hs] at this
        exact this
      have HMN : Hid (m = (l.getD i cl0).2.2.2.2.length) := hto.len.trans (HLn.out i hlt)
      have HTO : Hid (Own v B (.slice p m q) (l'.getD i cl0).2.2.2.2) := hto
      have HP3 : Hid (v.ownsRow B 44 5 (.slice (some ⟨g, 0, none⟩) l.length c) l.length (flat5 (rs'.set i (K, K + 1, K + 1 + 1, K + 1 + 1 + 1, p, m, q)))) := p3
      have HT3 : Hid (TxtOwn v B (some g) rs' l') := t3
      have HS : Hid ((rs'.getD i rw0).2.2.2.2 = (p, m, q)) := hs
      have hm6 : m ≤ 1048576 := by
        have := totT_le l i hlt
        rw [HMN.out]
        omega
      clear hto p3 t3 hs
      go_wp2_with (go_at_call 62; refine (markSignS_any p m q (l'.getD i cl0).2.2.2.2 _ B _ HTO.out hm6 (by omega) (by omega)).mono ?_; rintro e w2 ⟨rfl, hO2, hg2⟩)
      go_roundw
      case rel =>
        have hT : rwT (rs'.getD i rw0) = .slice p m q := by
          unfold rwT
          rw [HS.out]
        have hne : ∀ g', (Value.slice p m q).ownBlock = some g' → some g ≠ some g' := fun g' hg' => HT3.out.2.2.1 i hir g' (by rw [hT]; exact hg')
        have e4 : K + 1 + 1 + 1 + 1 = K + 4 := by omega
        rw [e4] at hO2
        have hR : OwnR w2 B (.slice (some ⟨g, 0, none⟩) l.length c) (rs'.set i (K, K + 1, K + 1 + 1, K + 1 + 1 + 1, p, m, q)) := by
          unfold OwnR
          rw [List.length_set, ← HRL.out]
          exact own_grown HP3.out hg2 (fun g' hg' hq => by
            have e : g = g' := by simpa [Value.ownBlock] using hg'
            exact hne g' hq (by rw [e]))
        have hX : TxtOwn w2 B (some g) (rs'.set i (K, K + 1, K + 1 + 1, K + 1 + 1 + 1, p, m, q)) (l'.set i (mkC K m)) := by
          refine HT3.out.upd i hir _ _ (by rw [hT]; rfl) ⟨rfl, rfl, by show K + 1 + 1 = K + 2; omega, by show K + 1 + 1 + 1 = K + 3; omega, hO2⟩ ?_
          intro k hk hki
          refine own_grown (HT3.out.2.1 k hk).2.2.2.2 hg2 (fun g' hg' hq => ?_)
          rcases Nat.lt_or_ge k i with h3 | h3
          · exact HT3.out.2.2.2 k i h3 hir g' hg' (by rw [hT]; exact hq)
          · exact HT3.out.2.2.2 i k (by omega) hk g' (by rw [hT]; exact hq) hg'
        have hil : i < l'.length := by rw [← HLL.out]; exact hlt
        refine ⟨i + 1, _, l'.set i (mkC K m), by omega, by go_num, ?_, ⟨hR, hX⟩, ?_, ?_, ?_, ?_, ?_, ?_⟩
        · rw [HSU.out, HK.out, ← HMN.out]
          congr 1
          omega
        · intro k hk
          by_cases hki : i = k
          · subst hki
            rw [getD_set_eq _ _ _ _ hil, ← HMN.out]
            exact marked_len _ _
          · rw [getD_set_ne _ _ _ _ _ hki]
            exact HLn.out k hk
        · intro k hk
          by_cases hki : i = k
          · subst hki
            rw [getD_set_eq _ _ _ _ hil, HK.out, ← HMN.out]
          · rw [getD_set_ne _ _ _ _ _ hki]
            exact HD.out k (by omega)
        · exact b3.grown hg2 (by rw [sz3]; omega) (fun q' hq' => (own_lt HTO.out.row hq').1)
        · intro b cs hh
          have h3 := HS3.out b cs (HSt.out b cs hh)
          exact h3.grown hg2 (rowAt_ne h3 HTO.out.row (by decide))
        · intro b hb1 hb2
          have e5 := HSz.out
          refine (hg2.block b (by rw [sz3]; omega) (fun e => ?_)).trans (HOv3.out b hb1 hb2)
          have := HTe.out i hir b (by rw [hT]; exact e.symm)
          omega
        · intro k hk g' hg'
          simp only [List.length_set] at hk
          refine HTe.out k hk g' ?_
          by_cases hki : i = k
          · subst hki
            rw [getD_set_eq _ _ _ _ hir] at hg'
            rw [hT]
            exact hg'
          · rw [getD_set_ne _ _ _ _ _ hki] at hg'
            exact hg'
      case measure => simp [intOf]; omega
    · have e : i = l.length := by omega
      subst e
      have hL : l' = markL k0 l := by
        apply List.ext_getElem?
        intro k
        by_cases hk : k < l.length
        · have h3 := HD.out k hk
          rw [← markL_get k0 l k hk] at h3
          have hk' : k < l'.length := by rw [← HLL.out]; exact hk
          have hk2 : k < (markL k0 l).length := by rw [markL_len]; exact hk
          simp only [List.getD, List.getElem?_eq_getElem hk', List.getElem?_eq_getElem hk2, Option.getD_some] at h3
          rw [List.getElem?_eq_getElem hk', List.getElem?_eq_getElem hk2, h3]
        · rw [List.getElem?_eq_none (by rw [← HLL.out]; omega), List.getElem?_eq_none (by rw [markL_len]; omega)]
      have ho2 := HO.out
      rw [hL] at ho2
      have HO2 : Hid (OwnT wr B (.slice a l.length c) rs' (markL k0 l)) := ho2
      clear ho ho2 hL
      go_wp2_with fail
      go_ret
      exact ⟨rfl, ⟨rs', HO2.out⟩, HB.out, HSt.out, HOv.out⟩
theorem markCellS_any (a : Option Addr) (n c : Nat) (rs : List Rw) (l : List Cl) (k0 : Int) (B : Nat) (w : World) (h : OwnT w B (.slice a n c) rs l) (h0 : 0 ≤ k0) (h1 : k0 + 4 * l.length + 3 * (totT l : Nat) ≤ 50000000) (h2 : totT l ≤ 1048576) :
    Calls Try.prog 38 #[.slice a n c, .int .i64 k0] w fun e w' => e = .returned (.int .i64 (kAt k0 l l.length)) ∧ (∃ rs', OwnT w' B (.slice a n c) rs' (markL k0 l)) ∧ Below B w w' ∧ Stay w w' :=
  (markCellS_over a n c rs l k0 B w.heap.size w h (fun _ hg => (own_lt h.1.row hg).2) (fun k hk g hg => h.2.blockLt k hk g hg) h0 h1 h2).mono fun _ _ ⟨q1, q2, q3, q4, _⟩ => ⟨q1, q2, q3, q4⟩
end Go.Proofs.Yteghidjbcpmfbaa
