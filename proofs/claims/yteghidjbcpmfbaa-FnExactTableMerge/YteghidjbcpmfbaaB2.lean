import Derived.Test.YteghidjbcpmfbaaB1
import Derived.Laws.ResultCell
import Derived.Deep.RegionHeld3
import Derived.Deep.LoopGhost
import Derived.Deep.QuietTactic
import Derived.BigQuiet
import Derived.Deep.Cut
namespace Go.Proofs.Yteghidjbcpmfbaa
open Go.RowKit

/-- The cell that the marker lays, from k on. -/
def mkC (k : Int) (n : Nat) : Cl := (k, k + 1, k + 2, k + 3, marked (k + 4) n)
def kAt (k0 : Int) (l : List Cl) (i : Nat) : Int := k0 + 4 * i + 3 * (totT (l.take i) : Nat)
def markL (k0 : Int) (l : List Cl) : List Cl := (List.range l.length).map fun k => mkC (kAt k0 l k) (l.getD k cl0).2.2.2.2.length
theorem markL_len (k0 : Int) (l : List Cl) : (markL k0 l).length = l.length := by simp [markL]
theorem markL_get (k0 : Int) (l : List Cl) (k : Nat) (h : k < l.length) : (markL k0 l).getD k cl0 = mkC (kAt k0 l k) (l.getD k cl0).2.2.2.2.length := by
  simp only [markL, List.getD, List.getElem?_map, List.getElem?_range h, Option.map_some, Option.getD_some]
theorem kAt_succ (k0 : Int) (l : List Cl) (i : Nat) (h : i < l.length) : kAt k0 l (i + 1) = kAt k0 l i + 4 + 3 * ((l.getD i cl0).2.2.2.2.length : Nat) := by
  unfold kAt
  rw [totT_take l i h]
  omega
theorem kAt_ge (k0 : Int) (l : List Cl) (i : Nat) (h : 0 ≤ k0) : 0 ≤ kAt k0 l i := by
  unfold kAt
  omega
theorem kAt_le (k0 : Int) (l : List Cl) (i : Nat) (h : i ≤ l.length) : kAt k0 l i ≤ k0 + 4 * l.length + 3 * (totT l : Nat) := by
  unfold kAt
  have := totT_append (l.take i) (l.drop i)
  rw [List.take_append_drop] at this
  omega
theorem getD_set_eq {α : Type} (l : List α) (i : Nat) (x d : α) (h : i < l.length) : (l.set i x).getD i d = x := by simp [List.getD, h]
theorem getD_set_ne {α : Type} (l : List α) (i k : Nat) (x d : α) (h : i ≠ k) : (l.set i x).getD k d = l.getD k d := by simp [List.getD, List.getElem?_set_ne h]
theorem TxtOwn.upd {w w' : World} {B : Nat} {q : Option Nat} {rs : List Rw} {l : List Cl} (h : TxtOwn w B q rs l) (i : Nat) (hi : i < rs.length) (x : Rw) (y : Cl) (hx : rwT x = rwT (rs.getD i rw0)) (ho : RwOwn w' B x y)
    (hk : ∀ k, k < rs.length → k ≠ i → Own w' B (rwT (rs.getD k rw0)) (l.getD k cl0).2.2.2.2) : TxtOwn w' B q (rs.set i x) (l.set i y) := by
  have hl := h.1
  have hT : ∀ k, rwT ((rs.set i x).getD k rw0) = rwT (rs.getD k rw0) := by
    intro k
    by_cases hki : i = k
    · subst hki
      rw [getD_set_eq _ _ _ _ hi, hx]
    · rw [getD_set_ne _ _ _ _ _ hki]
  refine ⟨by simp [hl], fun k hk' => ?_, fun k hk' g hg => ?_, fun a b hab hb g hg => ?_⟩
  · simp only [List.length_set] at hk'
    by_cases hki : i = k
    · subst hki
      rw [getD_set_eq _ _ _ _ hi, getD_set_eq _ _ _ _ (by omega)]
      exact ho
    · rw [getD_set_ne _ _ _ _ _ hki, getD_set_ne _ _ _ _ _ hki]
      obtain ⟨h0, h1, h2, h3, _⟩ := h.2.1 k hk'
      exact ⟨h0, h1, h2, h3, hk k hk' (Ne.symm hki)⟩
  · simp only [List.length_set] at hk'
    rw [hT] at hg
    exact h.2.2.1 k hk' g hg
  · simp only [List.length_set] at hb
    rw [hT] at hg ⊢
    exact h.2.2.2 a b hab hb g hg
theorem flat5_set (rs : List Rw) (i : Nat) (hi : i < rs.length) (a b c d : Int) (s : Option Addr × Nat × Nat) (hs : (rs.getD i rw0).2.2.2.2 = s) :
    (((((flat5 rs).set (i * 5) (.int .i64 a)).set (i * 5 + 1) (.int .i64 b)).set (i * 5 + 2) (.int .i64 c)).set (i * 5 + 3) (.int .i64 d)) = flat5 (rs.set i (a, b, c, d, s)) := by
  apply List.ext_getElem?
  intro j
  have hlen := flat5_length rs
  by_cases hj : j < rs.length * 5
  · have hj5 : j = j / 5 * 5 + j % 5 := by omega
    have hk : j / 5 < rs.length := by omega
    have hm : j % 5 < 5 := by omega
    generalize j / 5 = k at hj5 hk
    generalize j % 5 = r at hj5 hm
    subst hj5
    rw [flat5_get (rs.set i (a, b, c, d, s)) k r (by simpa using hk) hm]
    by_cases hki : i = k
    · subst hki
      rw [getD_set_eq _ _ _ _ hi]
      have hold := flat5_get rs i 4 hi (by omega)
      rcases (show r = 0 ∨ r = 1 ∨ r = 2 ∨ r = 3 ∨ r = 4 from by omega) with rfl | rfl | rfl | rfl | rfl
      · rw [List.getElem?_set_ne (by omega), List.getElem?_set_ne (by omega), List.getElem?_set_ne (by omega), Nat.add_zero, List.getElem?_set_self (by omega)]; rfl
      · rw [List.getElem?_set_ne (by omega), List.getElem?_set_ne (by omega), List.getElem?_set_self (by simp; omega)]; rfl
      · rw [List.getElem?_set_ne (by omega), List.getElem?_set_self (by simp; omega)]; rfl
      · rw [List.getElem?_set_self (by simp; omega)]; rfl
      · rw [List.getElem?_set_ne (by omega), List.getElem?_set_ne (by omega), List.getElem?_set_ne (by omega), List.getElem?_set_ne (by omega), hold, ← hs]; rfl
    · rw [getD_set_ne _ _ _ _ _ hki, List.getElem?_set_ne (by omega), List.getElem?_set_ne (by omega), List.getElem?_set_ne (by omega), List.getElem?_set_ne (by omega)]
      exact flat5_get rs k r hk hm
  · rw [List.getElem?_eq_none (by simp; omega), List.getElem?_eq_none (by rw [flat5_length]; simp; omega)]

/-- Tables that lie elsewhere stay as they are. -/
def Stay (w w' : World) : Prop := ∀ b cs, RowAt w b cs 28 → RowAt w' b cs 28

/-- From block E on nothing has turned. -/
def Over (E : Nat) (w w' : World) : Prop := ∀ b, E ≤ b → b < w.heap.size → w'.heap[b]? = w.heap[b]?
theorem own_over {w w' : World} {B E e size n : Nat} {v : Value} {xs : List Value} (h : w.ownsRow B e size v n xs) (hE : E ≤ B) (ho : Over E w w') : w'.ownsRow B e size v n xs := by
  refine ⟨h.1, ?_⟩
  rcases h.2 with hn | ⟨g, cap, cur, rfl, hg, hgg, rest⟩
  · exact .inl hn
  · exact .inr ⟨g, cap, cur, rfl, hg, by rw [ho g (by omega) (Array.getElem?_eq_some_iff.1 hgg).1]; exact hgg, rest⟩
theorem OwnT.over {w w' : World} {B E : Nat} {v : Value} {rs : List Rw} {l : List Cl} (h : OwnT w B v rs l) (hE : E ≤ B) (ho : Over E w w') : OwnT w' B v rs l :=
  ⟨own_over h.1 hE ho, h.2.1, fun k hk => by
    obtain ⟨a0, a1, a2, a3, a4⟩ := h.2.2.1 k hk
    exact ⟨a0, a1, a2, a3, own_over a4 hE ho⟩, h.2.2.2.1, h.2.2.2.2⟩

set_option maxRecDepth 100000 in
set_option maxHeartbeats 4000000 in
theorem markCellS_over (a : Option Addr) (n c : Nat) (rs : List Rw) (l : List Cl) (k0 : Int) (B E : Nat) (w : World) (h : OwnT w B (.slice a n c) rs l) (hE : ∀ g, (Value.slice a n c).ownBlock = some g → g < E) (hT : ∀ k, k < rs.length → ∀ g, (rwT (rs.getD k rw0)).ownBlock = some g → g < E) (h0 : 0 ≤ k0) (h1 : k0 + 4 * l.length + 3 * (totT l : Nat) ≤ 50000000) (h2 : totT l ≤ 1048576) :
    Calls Try.prog 38 #[.slice a n c, .int .i64 k0] w fun e w' => e = .returned (.int .i64 (kAt k0 l l.length)) ∧ (∃ rs', OwnT w' B (.slice a n c) rs' (markL k0 l)) ∧ Below B w w' ∧ Stay w w' ∧ Over E w w' := by
  have hn := h.len
  have htab := h.tab
  have hcm := htab.2.2.1
  have hcn := htab.2.1
  unfold maxLen at hcm
  have HOT : Hid (OwnT w B (.slice a n c) rs l) := h
  have HE : Hid (∀ g, (Value.slice a n c).ownBlock = some g → g < E) := hE
  have HTE : Hid (∀ k, k < rs.length → ∀ g, (rwT (rs.getD k rw0)).ownBlock = some g → g < E) := hT
  clear hE hT
  clear h htab
  subst hn
  go_enter Try.func38, Try.ntmps38
  go_wp2_with fail
  go_loopw [1, 5] (fun kk iv wr => ∃ (i : Nat) (rs' : List Rw) (l' : List Cl), i ≤ l.length ∧ iv = .int .i64 i ∧ kk = .int .i64 (kAt k0 l i) ∧ OwnT wr B (.slice a l.length c) rs' l' ∧ (∀ k, k < l.length → (l'.getD k cl0).2.2.2.2.length = (l.getD k cl0).2.2.2.2.length) ∧ (∀ k, k < i → l'.getD k cl0 = mkC (kAt k0 l k) (l.getD k cl0).2.2.2.2.length) ∧ Below B w wr ∧ Stay w wr ∧ Over E w wr ∧ (∀ k, k < rs'.length → ∀ g, (rwT (rs'.getD k rw0)).ownBlock = some g → g < E)) (fun _ iv _ => l.length - (intOf iv).toNat)
  case atStart => exact ⟨0, rs, l, Nat.zero_le _, rfl, by simp [kAt, totT], HOT.out, fun _ _ => rfl, fun k hk => by omega, Below.refl _ _, fun _ _ hh => hh, fun _ _ _ => rfl, HTE.out⟩
  case round =>
    obtain ⟨i, rs', l', hi, rfl, rfl, ho, hlen, hdone, hb, hstay, hov, hte⟩ := hrel
    have HOv : Hid (Over E w wr) := hov
    have HTe : Hid (∀ k, k < rs'.length → ∀ g, (rwT (rs'.getD k rw0)).ownBlock = some g → g < E) := hte
    have HSz : Hid (w.heap.size ≤ wr.heap.size) := hb.size
    have HSt : Hid (Stay w wr) := hstay
    have HO : Hid (OwnT wr B (.slice a l.length c) rs' l') := ho
    have HLn : Hid (∀ k, k < l.length → (l'.getD k cl0).2.2.2.2.length = (l.getD k cl0).2.2.2.2.length) := hlen
    have HD : Hid (∀ k, k < i → l'.getD k cl0 = mkC (kAt k0 l k) (l.getD k cl0).2.2.2.2.length) := hdone
    have HB : Hid (Below B w wr) := hb
    have HLL : Hid (l.length = l'.length) := ho.len
    have HRL : Hid (l.length = rs'.length) := ho.1.len
    clear hlen hdone hb hstay hov hte
    by_cases hlt : i < l.length
    · have kge := kAt_ge k0 l i h0
      have kle := kAt_le k0 l i (by omega)
      have HSU : Hid (kAt k0 l (i + 1) = kAt k0 l i + 4 + 3 * ((l.getD i cl0).2.2.2.2.length : Nat)) := kAt_succ k0 l i hlt
      have hK : ∃ K, Hid (kAt k0 l i = K) := ⟨_, rfl⟩
      obtain ⟨K, HK⟩ := hK
      rw [HK.out] at kge kle ⊢
      rcases ho.1.row.2 with ⟨hv, hz⟩ | ⟨g, cap, cur, hv, hgB, hgg, _⟩
      · exfalso; omega
      simp only [Value.slice.injEq, true_and] at hv
      obtain ⟨rfl, rfl⟩ := hv
      have hrow := ho.1.row
      have glt := (own_lt hrow rfl).2
      have hxl := hrow.1
      have f0 := hrow.frozenAt (i * 5)
      have f1 := hrow.frozenAt (i * 5 + 1)
      have f2 := hrow.frozenAt (i * 5 + 2)
      have f3 := hrow.frozenAt (i * 5 + 3)
      obtain ⟨u0, d0⟩ : ∃ u, wr.cell? ⟨g, i * 5, none⟩ = some u := ⟨_, (hrow.cellAt (i * 5) (by omega)).trans (List.getElem?_eq_getElem (by omega))⟩
      obtain ⟨u1, d1⟩ : ∃ u, wr.cell? ⟨g, i * 5 + 1, none⟩ = some u := ⟨_, (hrow.cellAt (i * 5 + 1) (by omega)).trans (List.getElem?_eq_getElem (by omega))⟩
      obtain ⟨u2, d2⟩ : ∃ u, wr.cell? ⟨g, i * 5 + 2, none⟩ = some u := ⟨_, (hrow.cellAt (i * 5 + 2) (by omega)).trans (List.getElem?_eq_getElem (by omega))⟩
      obtain ⟨u3, d3⟩ : ∃ u, wr.cell? ⟨g, i * 5 + 3, none⟩ = some u := ⟨_, (hrow.cellAt (i * 5 + 3) (by omega)).trans (List.getElem?_eq_getElem (by omega))⟩
      have hK2 : K ≤ 50000000 := by omega
      clear ho hrow hxl hgg kle
      go_upto_region 12 with fail
      obtain ⟨⟨p, m, q⟩, hs⟩ : ∃ s, (rs'.getD i rw0).2.2.2.2 = s := ⟨_, rfl⟩
      obtain ⟨p0, _⟩ := HO.out.1.row.stored (i * 5) (.int .i64 K)
      obtain ⟨p1, _⟩ := p0.stored (i * 5 + 1) (.int .i64 (K + 1))
      obtain ⟨p2, _⟩ := p1.stored (i * 5 + 2) (.int .i64 (K + 1 + 1))
      obtain ⟨p3, _⟩ := p2.stored (i * 5 + 3) (.int .i64 (K + 1 + 1 + 1))
      have hir : i < rs'.length := by rw [← HRL.out]; exact hlt
      rw [flat5_set rs' i hir _ _ _ _ (p, m, q) hs] at p3
      have t3 : TxtOwn ((((wr.setCell ⟨g, i * 5, none⟩ (.int .i64 K)).setCell ⟨g, i * 5 + 1, none⟩ (.int .i64 (K + 1))).setCell ⟨g, i * 5 + 2, none⟩ (.int .i64 (K + 1 + 1))).setCell ⟨g, i * 5 + 3, none⟩ (.int .i64 (K + 1 + 1 + 1))) B (some g) rs' l' := (((HO.out.2.set ⟨g, i * 5, none⟩ (.int .i64 K) rfl).set ⟨g, i * 5 + 1, none⟩ (.int .i64 (K + 1)) rfl).set ⟨g, i * 5 + 2, none⟩ (.int .i64 (K + 1 + 1)) rfl).set ⟨g, i * 5 + 3, none⟩ (.int .i64 (K + 1 + 1 + 1)) rfl
      have b3 : Below B w ((((wr.setCell ⟨g, i * 5, none⟩ (.int .i64 K)).setCell ⟨g, i * 5 + 1, none⟩ (.int .i64 (K + 1))).setCell ⟨g, i * 5 + 2, none⟩ (.int .i64 (K + 1 + 1))).setCell ⟨g, i * 5 + 3, none⟩ (.int .i64 (K + 1 + 1 + 1))) := (((HB.out.setCell (p := ⟨g, i * 5, none⟩) hgB (.int .i64 K)).setCell (p := ⟨g, i * 5 + 1, none⟩) hgB (.int .i64 (K + 1))).setCell (p := ⟨g, i * 5 + 2, none⟩) hgB (.int .i64 (K + 1 + 1))).setCell (p := ⟨g, i * 5 + 3, none⟩) hgB (.int .i64 (K + 1 + 1 + 1))
      have st3 : Stay wr ((((wr.setCell ⟨g, i * 5, none⟩ (.int .i64 K)).setCell ⟨g, i * 5 + 1, none⟩ (.int .i64 (K + 1))).setCell ⟨g, i * 5 + 2, none⟩ (.int .i64 (K + 1 + 1))).setCell ⟨g, i * 5 + 3, none⟩ (.int .i64 (K + 1 + 1 + 1))) := by
        intro b cs hh
        have hne : b ≠ g := fun e => rowAt_ne hh HO.out.1.row (by decide) (by rw [e]; rfl)
        exact (((hh.other ⟨g, i * 5, none⟩ (.int .i64 K) hne).other ⟨g, i * 5 + 1, none⟩ (.int .i64 (K + 1)) hne).other ⟨g, i * 5 + 2, none⟩ (.int .i64 (K + 1 + 1)) hne).other ⟨g, i * 5 + 3, none⟩ (.int .i64 (K + 1 + 1 + 1)) hne
      have sz3 : ((((wr.setCell ⟨g, i * 5, none⟩ (.int .i64 K)).setCell ⟨g, i * 5 + 1, none⟩ (.int .i64 (K + 1))).setCell ⟨g, i * 5 + 2, none⟩ (.int .i64 (K + 1 + 1))).setCell ⟨g, i * 5 + 3, none⟩ (.int .i64 (K + 1 + 1 + 1))).heap.size = wr.heap.size := by simp only [Go.Deep.nblk_setCell]
      have ov3 : Over E w ((((wr.setCell ⟨g, i * 5, none⟩ (.int .i64 K)).setCell ⟨g, i * 5 + 1, none⟩ (.int .i64 (K + 1))).setCell ⟨g, i * 5 + 2, none⟩ (.int .i64 (K + 1 + 1))).setCell ⟨g, i * 5 + 3, none⟩ (.int .i64 (K + 1 + 1 + 1))) := by
        intro b hb1 hb2
        have hge : g < E := HE.out g rfl
        have hne : b ≠ g := by omega
        rw [Below.heap_setCell _ _ _ _ hne, Below.heap_setCell _ _ _ _ hne, Below.heap_setCell _ _ _ _ hne, Below.heap_setCell _ _ _ _ hne]
        exact HOv.out b hb1 hb2
      clear p0 p1 p2 d0 d1 d2 d3 f0 f1 f2 f3
      generalize ((((wr.setCell ⟨g, i * 5, none⟩ (.int .i64 K)).setCell ⟨g, i * 5 + 1, none⟩ (.int .i64 (K + 1))).setCell ⟨g, i * 5 + 2, none⟩ (.int .i64 (K + 1 + 1))).setCell ⟨g, i * 5 + 3, none⟩ (.int .i64 (K + 1 + 1 + 1))) = v at p3 t3 b3 sz3 st3 ov3 ⊢
      have HS3 : Hid (Stay wr v) := st3
      have HOv3 : Hid (Over E w v) := ov3
      clear st3 ov3
      have hc4 : v.cell? ⟨g, i * 5 + 4, none⟩ = some (.slice p m q) := by
        rw [p3.cellAt (i * 5 + 4) (by omega), flat5_get _ i 4 (by simpa using hir) (by omega), getD_set_eq _ _ _ _ hir]
        rfl
      have hto : Own v B (.slice p m q) (l'.getD i cl0).2.2.2.2 := by
        have := (t3.2.1 i hir).2.2.2.2
        unfold rwT at this
        rw [hs] at this
        exact this
      have HMN : Hid (m = (l.getD i cl0).2.2.2.2.length) := hto.len.trans (HLn.out i hlt)
      have HTO : Hid (Own v B (.slice p m q) (l'.getD i cl0).2.2.2.2) := hto
      have HP3 : Hid (v.ownsRow B 44 5 (.slice (some ⟨g, 0, none⟩) l.length c) l.length (flat5 (rs'.set i (K, K + 1, K + 1 + 1, K + 1 + 1 + 1, p, m, q)))) := p3
      have HT3 : Hid (TxtOwn v B (some g) rs' l') := t3
      have HS : Hid ((rs'.getD i rw0).2.2.2.2 = (p, m, q)) := hs
      have hm6 : m ≤ 1048576 := by
        have := totT_le l i hlt
        rw [HMN.out]
        omega
      clear hto p3 t3 hs
      go_wp2_with (go_at_call 62; refine (markSignS_any p m q (l'.getD i cl0).2.2.2.2 _ B _ HTO.out hm6 (by omega) (by omega)).mono ?_; rintro e w2 ⟨rfl, hO2, hg2⟩)
      go_roundw
      case rel =>
        have hT : rwT (rs'.getD i rw0) = .slice p m q := by
          unfold rwT
          rw [HS.out]
        have hne : ∀ g', (Value.slice p m q).ownBlock = some g' → some g ≠ some g' := fun g' hg' => HT3.out.2.2.1 i hir g' (by rw [hT]; exact hg')
        have e4 : K + 1 + 1 + 1 + 1 = K + 4 := by omega
        rw [e4] at hO2
        have hR : OwnR w2 B (.slice (some ⟨g, 0, none⟩) l.length c) (rs'.set i (K, K + 1, K + 1 + 1, K + 1 + 1 + 1, p, m, q)) := by
          unfold OwnR
          rw [List.length_set, ← HRL.out]
          exact own_grown HP3.out hg2 (fun g' hg' hq => by
            have e : g = g' := by simpa [Value.ownBlock] using hg'
            exact hne g' hq (by rw [e]))
        have hX : TxtOwn w2 B (some g) (rs'.set i (K, K + 1, K + 1 + 1, K + 1 + 1 + 1, p, m, q)) (l'.set i (mkC K m)) := by
          refine HT3.out.upd i hir _ _ (by rw [hT]; rfl) ⟨rfl, rfl, by show K + 1 + 1 = K + 2; omega, by show K + 1 + 1 + 1 = K + 3; omega, hO2⟩ ?_
          intro k hk hki
          refine own_grown (HT3.out.2.1 k hk).2.2.2.2 hg2 (fun g' hg' hq => ?_)
          rcases Nat.lt_or_ge k i with h3 | h3
          · exact HT3.out.2.2.2 k i h3 hir g' hg' (by rw [hT]; exact hq)
          · exact HT3.out.2.2.2 i k (by omega) hk g' (by rw [hT]; exact hq) hg'
        have hil : i < l'.length := by rw [← HLL.out]; exact hlt
        refine ⟨i + 1, _, l'.set i (mkC K m), by omega, by go_num, ?_, ⟨hR, hX⟩, ?_, ?_, ?_, ?_, ?_, ?_⟩
        · rw [HSU.out, HK.out, ← HMN.out]
          congr 1
          omega
        · intro k hk
          by_cases hki : i = k
          · subst hki
            rw [getD_set_eq _ _ _ _ hil, ← HMN.out]
            exact marked_len _ _
          · rw [getD_set_ne _ _ _ _ _ hki]
            exact HLn.out k hk
        · intro k hk
          by_cases hki : i = k
          · subst hki
            rw [getD_set_eq _ _ _ _ hil, HK.out, ← HMN.out]
          · rw [getD_set_ne _ _ _ _ _ hki]
            exact HD.out k (by omega)
        · exact b3.grown hg2 (by rw [sz3]; omega) (fun q' hq' => (own_lt HTO.out.row hq').1)
        · intro b cs hh
          have h3 := HS3.out b cs (HSt.out b cs hh)
          exact h3.grown hg2 (rowAt_ne h3 HTO.out.row (by decide))
        · intro b hb1 hb2
          have e5 := HSz.out
          refine (hg2.block b (by rw [sz3]; omega) (fun e => ?_)).trans (HOv3.out b hb1 hb2)
          have := HTe.out i hir b (by rw [hT]; exact e.symm)
          omega
        · intro k hk g' hg'
          simp only [List.length_set] at hk
          refine HTe.out k hk g' ?_
          by_cases hki : i = k
          · subst hki
            rw [getD_set_eq _ _ _ _ hir] at hg'
            rw [hT]
            exact hg'
          · rw [getD_set_ne _ _ _ _ _ hki] at hg'
            exact hg'
      case measure => simp [intOf]; omega
    · have e : i = l.length := by omega
      subst e
      have hL : l' = markL k0 l := by
        apply List.ext_getElem?
        intro k
        by_cases hk : k < l.length
        · have h3 := HD.out k hk
          rw [← markL_get k0 l k hk] at h3
          have hk' : k < l'.length := by rw [← HLL.out]; exact hk
          have hk2 : k < (markL k0 l).length := by rw [markL_len]; exact hk
          simp only [List.getD, List.getElem?_eq_getElem hk', List.getElem?_eq_getElem hk2, Option.getD_some] at h3
          rw [List.getElem?_eq_getElem hk', List.getElem?_eq_getElem hk2, h3]
        · rw [List.getElem?_eq_none (by rw [← HLL.out]; omega), List.getElem?_eq_none (by rw [markL_len]; omega)]
      have ho2 := HO.out
      rw [hL] at ho2
      have HO2 : Hid (OwnT wr B (.slice a l.length c) rs' (markL k0 l)) := ho2
      clear ho ho2 hL
      go_wp2_with fail
      go_ret
      exact ⟨rfl, ⟨rs', HO2.out⟩, HB.out, HSt.out, HOv.out⟩
theorem markCellS_any (a : Option Addr) (n c : Nat) (rs : List Rw) (l : List Cl) (k0 : Int) (B : Nat) (w : World) (h : OwnT w B (.slice a n c) rs l) (h0 : 0 ≤ k0) (h1 : k0 + 4 * l.length + 3 * (totT l : Nat) ≤ 50000000) (h2 : totT l ≤ 1048576) :
    Calls Try.prog 38 #[.slice a n c, .int .i64 k0] w fun e w' => e = .returned (.int .i64 (kAt k0 l l.length)) ∧ (∃ rs', OwnT w' B (.slice a n c) rs' (markL k0 l)) ∧ Below B w w' ∧ Stay w w' :=
  (markCellS_over a n c rs l k0 B w.heap.size w h (fun _ hg => (own_lt h.1.row hg).2) (fun k hk g hg => h.2.blockLt k hk g hg) h0 h1 h2).mono fun _ _ ⟨q1, q2, q3, q4, _⟩ => ⟨q1, q2, q3, q4⟩
end Go.Proofs.Yteghidjbcpmfbaa
namespace Go.Proofs.Yteghidjbcpmfbaa
open Go.RowKit

set_option maxRecDepth 100000 in
set_option maxHeartbeats 4000000 in
theorem heldCellS_any (a : Option Addr) (n c : Nat) (l : List Cl) (k0 : Int) (w : World) (h : Tab w a n c (markL k0 l)) (h0 : 0 ≤ k0) (h1 : k0 + 4 * l.length + 3 * (totT l : Nat) ≤ 50000000) (h2 : totT l ≤ 1048576) :
    Calls Try.prog 39 #[.slice a n c, .int .i64 k0] w fun e w' => e = .returned (.int .i64 (kAt k0 l l.length)) ∧ w' = w := by
  obtain ⟨hn, hc, hm, hl⟩ := h
  rw [markL_len] at hn
  subst hn
  unfold maxLen at hm
  have HL : Hid (markL k0 l = [] ∨ ∃ b off, a = some ⟨b, off, none⟩ ∧ b < w.heap.size ∧ ∀ k, k < (markL k0 l).length → CellAt w b (off + k * 5) ((markL k0 l).getD k cl0)) := hl
  clear hl
  go_enter Try.func39, Try.ntmps39
  go_wp2_with fail
  go_loop [1, 5] (fun kk iv => ∃ (i : Nat), i ≤ l.length ∧ iv = .int .i64 i ∧ kk = .int .i64 (kAt k0 l i)) (fun _ iv => l.length - (intOf iv).toNat)
  case atStart => exact ⟨0, Nat.zero_le _, rfl, by simp [kAt, totT]⟩
  case round =>
    obtain ⟨i, hi, rfl, rfl⟩ := hrel
    by_cases hlt : i < l.length
    · have kge := kAt_ge k0 l i h0
      have kle := kAt_le k0 l i (by omega)
      have HSU : Hid (kAt k0 l (i + 1) = kAt k0 l i + 4 + 3 * ((l.getD i cl0).2.2.2.2.length : Nat)) := kAt_succ k0 l i hlt
      have hlt2 : i < (markL k0 l).length := by rw [markL_len]; exact hlt
      rcases HL.out with e | ⟨b, off, rfl, hbw, hl⟩
      · rw [e] at hlt2
        exact absurd hlt2 (by simp)
      have hcell := hl i hlt2
      rw [markL_get k0 l i hlt] at hcell
      obtain ⟨K, HK⟩ : ∃ K, Hid (kAt k0 l i = K) := ⟨_, rfl⟩
      rw [HK.out] at kge kle hcell ⊢
      obtain ⟨m, HM⟩ : ∃ m, Hid ((l.getD i cl0).2.2.2.2.length = m) := ⟨_, rfl⟩
      rw [HM.out] at hcell
      have hm6 : m ≤ 1048576 := by
        have := totT_le l i hlt
        rw [← HM.out]
        omega
      obtain ⟨c0, c1, c2, c3, p, tn, q, c4, htx⟩ := hcell
      simp only [mkC] at c0 c1 c2 c3 htx
      have HTN : Hid (tn = m) := htx.1.trans (marked_len _ _)
      have htx' := htx
      rw [HTN.out] at htx' c4
      have HTX : Hid (Txt w p m q (marked (K + 1 + 1 + 1 + 1) m)) := by
        show Txt w p m q (marked (K + 1 + 1 + 1 + 1) m)
        rw [show K + 1 + 1 + 1 + 1 = K + 4 from by omega]
        exact htx'
      rw [show K + 2 = K + 1 + 1 from by omega] at c2
      rw [show K + 3 = K + 1 + 1 + 1 from by omega] at c3
      have hK2 : K ≤ 50000000 := by omega
      have nk : ¬ K + 1 + 1 + 1 + 1 + 3 * (m : Int) < 0 := by omega
      clear hl htx htx' kle
      go_wp2_with (go_at_call 63; refine (heldSignS_any p m q _ _ HTX.out hm6 (by omega) (by omega)).mono ?_; rintro e w2 ⟨rfl, hw2⟩; subst w2)
      go_round
      case rel =>
        refine ⟨i + 1, by omega, by go_num, ?_⟩
        rw [HSU.out, HK.out, HM.out]
        congr 1
        omega
      case measure => simp [intOf]; omega
    · have e : i = l.length := by omega
      subst e
      go_wp2_with fail
      go_ret
      exact ⟨rfl, rfl⟩
set_option maxHeartbeats 1000000 in
theorem markTable_any (R C : Int) (a : Option Addr) (n c : Nat) (rs : List Rw) (l : List Cl) (k0 : Int) (B : Nat) (w : World) (h : OwnT w B (.slice a n c) rs l) (hB : B ≤ w.heap.size) (h0 : 0 ≤ k0) (h1 : k0 + 4 * l.length + 3 * (totT l : Nat) ≤ 50000000) (h2 : totT l ≤ 1048576) :
    Calls Try.prog 14 #[.agg #[.int .i64 R, .int .i64 C, .slice a n c], .int .i64 k0] w fun e w' => e = .returned (.int .i64 (kAt k0 l l.length)) ∧ (∃ rs', OwnT w' B (.slice a n c) rs' (markL k0 l)) ∧ Below B w w' ∧ Stay w w' := by
  have H : Hid (OwnT w B (.slice a n c) rs l) := h
  clear h
  go_enter Try.func14, Try.ntmps14
  go_wp2_with (go_at_call 38; refine (markCellS_any _ _ _ rs l _ B _ (H.out.below ((Below.refl _ _).alloc (Nat.le_refl _) _)) h0 h1 h2).mono ?_; rintro e w1 ⟨rfl, ⟨rs', ho1⟩, hb1, hs1⟩)
  go_ret
  exact ⟨rfl, ⟨rs', ho1⟩, ((Below.refl _ _).alloc hB _).trans hb1, fun b cs hh => hs1 b cs (hh.alloc _)⟩
set_option maxHeartbeats 1000000 in
theorem markTable_over (R C : Int) (a : Option Addr) (n c : Nat) (rs : List Rw) (l : List Cl) (k0 : Int) (B E : Nat) (w : World) (h : OwnT w B (.slice a n c) rs l) (hE : ∀ g, (Value.slice a n c).ownBlock = some g → g < E) (hT : ∀ k, k < rs.length → ∀ g, (rwT (rs.getD k rw0)).ownBlock = some g → g < E) (hB : B ≤ w.heap.size) (h0 : 0 ≤ k0) (h1 : k0 + 4 * l.length + 3 * (totT l : Nat) ≤ 50000000) (h2 : totT l ≤ 1048576) :
    Calls Try.prog 14 #[.agg #[.int .i64 R, .int .i64 C, .slice a n c], .int .i64 k0] w fun e w' => e = .returned (.int .i64 (kAt k0 l l.length)) ∧ (∃ rs', OwnT w' B (.slice a n c) rs' (markL k0 l)) ∧ Below B w w' ∧ Stay w w' ∧ Over E w w' := by
  have H : Hid (OwnT w B (.slice a n c) rs l) := h
  have HE : Hid (∀ g, (Value.slice a n c).ownBlock = some g → g < E) := hE
  have HTE : Hid (∀ k, k < rs.length → ∀ g, (rwT (rs.getD k rw0)).ownBlock = some g → g < E) := hT
  clear h hE hT
  go_enter Try.func14, Try.ntmps14
  go_wp2_with (go_at_call 38; refine (markCellS_over _ _ _ rs l _ B E _ (H.out.below ((Below.refl _ _).alloc (Nat.le_refl _) _)) HE.out HTE.out h0 h1 h2).mono ?_; rintro e w1 ⟨rfl, ⟨rs', ho1⟩, hb1, hs1, ho⟩)
  go_ret
  exact ⟨rfl, ⟨rs', ho1⟩, ((Below.refl _ _).alloc hB _).trans hb1, fun b cs hh => hs1 b cs (hh.alloc _), fun b hb1' hb2' => (ho b hb1' (by simp; omega)).trans (Below.heap_alloc _ _ _ hb2')⟩
set_option maxHeartbeats 1000000 in
theorem heldTable_any (R C : Int) (a : Option Addr) (n c : Nat) (l : List Cl) (k0 : Int) (w : World) (h : Tab w a n c (markL k0 l)) (h0 : 0 ≤ k0) (h1 : k0 + 4 * l.length + 3 * (totT l : Nat) ≤ 50000000) (h2 : totT l ≤ 1048576) :
    Calls Try.prog 15 #[.agg #[.int .i64 R, .int .i64 C, .slice a n c], .int .i64 k0] w fun e w' => e = .returned (.int .i64 (kAt k0 l l.length)) ∧ Below w.heap.size w w' := by
  have H : Hid (Tab w a n c (markL k0 l)) := h
  have kge := kAt_ge k0 l l.length h0
  have nk : ¬ kAt k0 l l.length < 0 := by omega
  clear h
  go_enter Try.func15, Try.ntmps15
  go_wp2_with (go_at_call 39; refine (heldCellS_any _ _ _ l _ _ (H.out.below ((Below.refl _ _).alloc (Nat.le_refl _) _)) h0 h1 h2).mono ?_; rintro e w1 ⟨rfl, hw1⟩; subst w1)
  go_ret
  exact ⟨rfl, (Below.refl _ _).alloc (Nat.le_refl _) _⟩
end Go.Proofs.Yteghidjbcpmfbaa
namespace Go.Proofs.Yteghidjbcpmfbaa
open Go.RowKit

/-- What a function gives that answers a table and whether there is one. -/
def TabRes (B : Nat) (ok : Bool) (X Y : Int) (L : List Cl) (z : Ending) (w' : World) : Prop :=
  (ok = false ∧ z = .returned (.tuple #[.agg #[.int .i64 0, .int .i64 0, .slice none 0 0], .bool false])) ∨
  (ok = true ∧ ∃ a c rs, z = .returned (.tuple #[.agg #[.int .i64 X, .int .i64 Y, .slice a L.length c], .bool true]) ∧ OwnT w' B (.slice a L.length c) rs L)
theorem run_tabOf {w : World} {g : Nat} {x y s : Value} (h : RowAt w g #[x, y, s] 28) : (loadVar 28 ⟨g, 0, none⟩).run Try.prog w = .ok (.agg #[x, y, s]) w :=
  run_loadVar_row w g 28 28 #[x, y, s] (0, 0) _ h Try.underlying28 rfl tab_info
end Go.Proofs.Yteghidjbcpmfbaa
namespace Go.Proofs.Yteghidjbcpmfbaa
open Go.RowKit

def sizeB (n : Int) : Bool := decide (1 ≤ n ∧ n ≤ 5)
set_option maxHeartbeats 400000 in
theorem sizeOk_is {n : Int} {x : Bool} (h : sizeB n = x) (w : World) :
    Calls Try.prog 33 #[.int .i64 n] w fun e w' => e = .returned (.bool x) ∧ w' = w := by
  subst h
  rcases (show (1 ≤ n ∧ n ≤ 5) ∨ (1 ≤ n ∧ ¬ n ≤ 5) ∨ (¬ 1 ≤ n) from by omega) with ⟨h0, h1⟩ | ⟨h0, h1⟩ | h0
  · rw [show sizeB n = true from decide_eq_true (by omega)]
    go_enter Try.func33, Try.ntmps33
    go_wp2
    go_ret
    exact ⟨rfl, rfl⟩
  all_goals
    rw [show sizeB n = false from decide_eq_false (by omega)]
    go_enter Try.func33, Try.ntmps33
    go_wp2
    go_ret
    exact ⟨rfl, rfl⟩

def spanB (f s e : Int) : Bool := decide (1 ≤ s ∧ s ≤ e ∧ 0 ≤ f ∧ f ≤ e - s)
set_option maxHeartbeats 800000 in
theorem span_is {f s e : Int} {x : Bool} (h : spanB f s e = x) (he : 1 ≤ e ∧ e ≤ 5) (w : World) :
    Calls Try.prog 66 #[.int .i64 f, .int .i64 s, .int .i64 e] w fun z w' => z = .returned (.bool x) ∧ w' = w := by
  subst h
  obtain ⟨he0, he1⟩ := he
  rcases (show (1 ≤ s ∧ s ≤ e ∧ 0 ≤ f ∧ f ≤ e - s) ∨ (1 ≤ s ∧ s ≤ e ∧ 0 ≤ f ∧ ¬ f ≤ e - s) ∨ (1 ≤ s ∧ s ≤ e ∧ ¬ 0 ≤ f) ∨ (1 ≤ s ∧ ¬ s ≤ e) ∨ (¬ 1 ≤ s) from by omega) with ⟨h0, h1, h2, h3⟩ | ⟨h0, h1, h2, h3⟩ | ⟨h0, h1, h2⟩ | ⟨h0, h1⟩ | h0
  · rw [show spanB f s e = true from decide_eq_true (by omega)]
    go_enter Try.func66, Try.ntmps66
    go_wp2
    go_ret
    exact ⟨rfl, rfl⟩
  all_goals
    rw [show spanB f s e = false from decide_eq_false (by omega)]
    go_enter Try.func66, Try.ntmps66
    go_wp2
    go_ret
    exact ⟨rfl, rfl⟩

/-- A rectangle's value. -/
def recV (r c d h : Int) : Array Value := #[.int .i64 r, .int .i64 c, .int .i64 d, .int .i64 h]
def withB (r c d h R C : Int) : Bool := spanB r d R && spanB c h C
set_option maxHeartbeats 800000 in
theorem within_is {r c d h R C : Int} {x : Bool} (hx : withB r c d h R C = x) (hR : 1 ≤ R ∧ R ≤ 5) (hC : 1 ≤ C ∧ C ≤ 5) (w : World) :
    Calls Try.prog 45 #[.agg #[.int .i64 r, .int .i64 c, .int .i64 d, .int .i64 h], .int .i64 R, .int .i64 C] w fun z w' => z = .returned (.bool x) ∧ Below w.heap.size w w' := by
  subst hx
  cases h0 : spanB r d R
  · rw [show withB r c d h R C = false from by simp [withB, h0]]
    have H0 : Hid (spanB r d R = false) := h0
    clear h0
    go_enter Try.func45, Try.ntmps45
    go_wp2_with (go_at_call 66; refine (span_is H0.out hR _).mono ?_; rintro e w' ⟨rfl, rfl⟩)
    go_ret
    exact ⟨rfl, (Below.refl _ _).alloc (Nat.le_refl _) _⟩
  · obtain ⟨y, hy⟩ : ∃ y, spanB c h C = y := ⟨_, rfl⟩
    rw [show withB r c d h R C = y from by simp [withB, h0, hy]]
    have H0 : Hid (spanB r d R = true) := h0
    have H1 : Hid (spanB c h C = y) := hy
    clear h0 hy
    go_enter Try.func45, Try.ntmps45
    go_wp2_with (first | (go_at_call_of 66 (Value.int IntKind.i64 r); refine (span_is H0.out hR _).mono ?_; rintro e w' ⟨rfl, rfl⟩) | (go_at_call_of 66 (Value.int IntKind.i64 c); refine (span_is H1.out hC _).mono ?_; rintro e w' ⟨rfl, rfl⟩))
    go_ret
    exact ⟨rfl, (Below.refl _ _).alloc (Nat.le_refl _) _⟩

def recB (r c d h a b : Int) : Bool := decide (r ≤ a ∧ a < r + d ∧ c ≤ b ∧ b < c + h)
set_option maxHeartbeats 1600000 in
theorem has_is {r c d h a b : Int} {x : Bool} (hx : recB r c d h a b = x) (hr : sml r) (hc : sml c) (hd : sml d) (hh : sml h) (w : World) :
    Calls Try.prog 67 #[.agg #[.int .i64 r, .int .i64 c, .int .i64 d, .int .i64 h], .int .i64 a, .int .i64 b] w fun z w' => z = .returned (.bool x) ∧ Below w.heap.size w w' := by
  subst hx
  obtain ⟨r0, r1⟩ := hr
  obtain ⟨c0, c1⟩ := hc
  obtain ⟨d0, d1⟩ := hd
  obtain ⟨e0, e1⟩ := hh
  go_enter Try.func67, Try.ntmps67
  go_wp2
  all_goals go_ret
  all_goals refine ⟨congrArg (fun x => Ending.returned (.bool x)) ?_, (Below.refl _ _).alloc (Nat.le_refl _) _⟩
  all_goals show _ = decide (r ≤ a ∧ a < r + d ∧ c ≤ b ∧ b < c + h)
  all_goals first | exact decide_eq_decide.2 (by omega) | exact (decide_eq_false (by omega)).symm

set_option maxHeartbeats 800000 in
theorem rectOf_any (r c d h : Int) (ta : Option Addr) (tn tc : Nat) (w : World) :
    Calls Try.prog 51 #[.agg #[.int .i64 r, .int .i64 c, .int .i64 d, .int .i64 h, .slice ta tn tc]] w fun z w' => z = .returned (.agg #[.int .i64 r, .int .i64 c, .int .i64 d, .int .i64 h]) ∧ Below w.heap.size w w' := by
  go_enter Try.func51, Try.ntmps51
  go_wp2
  refine bodyPost_ret (v := .agg #[.int .i64 r, .int .i64 c, .int .i64 d, .int .i64 h]) (by simp [results, Try.results51, go_sem]) rfl ⟨rfl, ?_⟩
  exact ((Below.refl _ _).alloc (Nat.le_refl _) _).alloc (by simp) _
end Go.Proofs.Yteghidjbcpmfbaa
namespace Go.Proofs.Yteghidjbcpmfbaa
open Go.RowKit

/-- A text as it lies: its slice. -/
abbrev Sl := Option Addr × Nat × Nat
def slV (s : Sl) : Value := .slice s.1 s.2.1 s.2.2
def sl0 : Sl := (none, 0, 0)
/-- A grid's value: rows, columns, cells, the squares' numbers, the numbers' texts. -/
def gridL (R C : Int) (n : Nat) (f : Nat → Nat) (t : Nat → Sl) : List Value :=
  .int .i64 R :: .int .i64 C :: .int .i64 n :: ((List.range 25).map (fun k => Value.int .i64 (f k)) ++ (List.range 26).map (fun k => slV (t k)))
def gridA (R C : Int) (n : Nat) (f : Nat → Nat) (t : Nat → Sl) : Array Value := (gridL R C n f t).toArray
def upd (f : Nat → Nat) (k v : Nat) : Nat → Nat := fun j => if j = k then v else f j
def updS (f : Nat → Sl) (k : Nat) (v : Sl) : Nat → Sl := fun j => if j = k then v else f j

theorem gridL_length (R C : Int) (n : Nat) (f : Nat → Nat) (t : Nat → Sl) : (gridL R C n f t).length = 54 := by simp [gridL]
theorem gridA_size (R C : Int) (n : Nat) (f : Nat → Nat) (t : Nat → Sl) : (gridA R C n f t).size = 54 := by simp [gridA, gridL_length]
theorem gridA_get (R C : Int) (n : Nat) (f : Nat → Nat) (t : Nat → Sl) (i : Nat) : (gridA R C n f t)[i]? = if i = 0 then some (.int .i64 R) else if i = 1 then some (.int .i64 C) else if i = 2 then some (.int .i64 n) else if i < 28 then some (.int .i64 (f (i - 3))) else if i < 54 then some (slV (t (i - 28))) else none := by
  simp only [gridA, List.getElem?_toArray, gridL]
  match i with
  | 0 => rfl
  | 1 => rfl
  | 2 => rfl
  | j + 3 =>
    simp only [List.getElem?_cons_succ]
    rw [if_neg (by omega), if_neg (by omega), if_neg (by omega)]
    by_cases h : j < 25
    · rw [List.getElem?_append_left (by simpa using h), if_pos (by omega)]
      simp [h]
    · rw [List.getElem?_append_right (by simp; omega), if_neg (by omega)]
      simp only [List.length_map, List.length_range, List.getElem?_map]
      by_cases h2 : j < 51
      · rw [if_pos (by omega), show j + 3 - 28 = j - 25 from by omega]
        simp [show j - 25 < 26 from by omega]
      · rw [if_neg (by omega), List.getElem?_eq_none (by simp; omega)]
        rfl
theorem gridA_num (R C : Int) (n : Nat) (f : Nat → Nat) (t : Nat → Sl) (k : Nat) (hk : k < 25) : (gridA R C n f t)[3 + k]? = some (.int .i64 (f k)) := by
  rw [gridA_get, if_neg (by omega), if_neg (by omega), if_neg (by omega), if_pos (by omega), show 3 + k - 3 = k from by omega]
theorem gridA_txt (R C : Int) (n : Nat) (f : Nat → Nat) (t : Nat → Sl) (k : Nat) (hk : k < 26) : (gridA R C n f t)[28 + k]? = some (slV (t k)) := by
  rw [gridA_get, if_neg (by omega), if_neg (by omega), if_neg (by omega), if_neg (by omega), if_pos (by omega), show 28 + k - 28 = k from by omega]
theorem gridA_set_num (R C : Int) (n : Nat) (f : Nat → Nat) (t : Nat → Sl) (k v : Nat) (hk : k < 25) : (gridA R C n f t).setIfInBounds (3 + k) (.int .i64 v) = gridA R C n (upd f k v) t := by
  apply Array.ext_getElem?
  intro i
  rw [Array.getElem?_setIfInBounds, gridA_get, gridA_get, gridA_size]
  by_cases h : 3 + k = i
  · subst h
    simp only [if_pos, show 3 + k < 54 from by omega, show ¬ 3 + k = 0 from by omega, show ¬ 3 + k = 1 from by omega, show ¬ 3 + k = 2 from by omega, show 3 + k < 28 from by omega, if_false, upd, show 3 + k - 3 = k from by omega]
  · rw [if_neg h]
    simp only [upd]
    by_cases h3 : i < 3
    · match i, h3 with
      | 0, _ => rfl
      | 1, _ => rfl
      | 2, _ => rfl
    · rw [if_neg (show ¬ i - 3 = k from by omega)]
theorem gridA_set_txt (R C : Int) (n : Nat) (f : Nat → Nat) (t : Nat → Sl) (k : Nat) (v : Sl) (hk : k < 26) : (gridA R C n f t).setIfInBounds (28 + k) (slV v) = gridA R C n f (updS t k v) := by
  apply Array.ext_getElem?
  intro i
  rw [Array.getElem?_setIfInBounds, gridA_get, gridA_get, gridA_size]
  by_cases h : 28 + k = i
  · subst h
    simp only [if_pos, show 28 + k < 54 from by omega, show ¬ 28 + k = 0 from by omega, show ¬ 28 + k = 1 from by omega, show ¬ 28 + k = 2 from by omega, show ¬ 28 + k < 28 from by omega, if_false, updS, show 28 + k - 28 = k from by omega]
  · rw [if_neg h]
    simp only [updS]
    by_cases h3 : i < 28
    · simp only [if_pos h3]
    · rw [if_neg (show ¬ i - 28 = k from by omega)]
theorem gridA_set_cells (R C : Int) (n m : Nat) (f : Nat → Nat) (t : Nat → Sl) : (gridA R C n f t).setIfInBounds 2 (.int .i64 m) = gridA R C m f t := by
  apply Array.ext_getElem?
  intro i
  rw [Array.getElem?_setIfInBounds, gridA_get, gridA_get, gridA_size]
  by_cases h : 2 = i
  · subst h; rfl
  · rw [if_neg h]
    by_cases h3 : i = 2
    · exact absurd h3.symm h
    · simp only [if_neg h3]
theorem gridA_one (R C : Int) (n : Nat) (f : Nat → Nat) (t : Nat → Sl) : (gridA R C n f t).all (·.oneCell') = true := by
  refine Array.all_eq_true_iff_forall_mem.2 ?_
  intro v hv
  simp only [gridA, List.mem_toArray, gridL, List.mem_cons, List.mem_append, List.mem_map] at hv
  rcases hv with rfl | rfl | rfl | ⟨k, _, rfl⟩ | ⟨k, _, rfl⟩ <;> rfl

/-- A grid that lies in a block of its own. -/
def GridAt (w : World) (b : Nat) (R C : Int) (n : Nat) (f : Nat → Nat) (t : Nat → Sl) : Prop := RowAt w b (gridA R C n f t) 51
section
variable {w w' : World} {b : Nat} {R C : Int} {n : Nat} {f : Nat → Nat} {t : Nat → Sl}
theorem GridAt.lt (h : GridAt w b R C n f t) : b < w.heap.size := RowAt.lt h
theorem GridAt.rows (h : GridAt w b R C n f t) : w.cell? ⟨b, 0, none⟩ = some (.int .i64 R) := by rw [RowAt.cell h, gridA_get]; rfl
theorem GridAt.cols (h : GridAt w b R C n f t) : w.cell? ⟨b, 1, none⟩ = some (.int .i64 C) := by rw [RowAt.cell h, gridA_get]; rfl
theorem GridAt.cells (h : GridAt w b R C n f t) : w.cell? ⟨b, 2, none⟩ = some (.int .i64 n) := by rw [RowAt.cell h, gridA_get]; rfl
theorem GridAt.num (h : GridAt w b R C n f t) (k : Nat) (hk : k < 25) : w.cell? ⟨b, 3 + k, none⟩ = some (.int .i64 (f k)) := by rw [RowAt.cell h, gridA_num _ _ _ _ _ _ hk]
theorem GridAt.txt (h : GridAt w b R C n f t) (k : Nat) (hk : k < 26) : w.cell? ⟨b, 28 + k, none⟩ = some (slV (t k)) := by rw [RowAt.cell h, gridA_txt _ _ _ _ _ _ hk]
theorem GridAt.frozen (h : GridAt w b R C n f t) (o : Nat) : w.frozen? ⟨b, o, none⟩ = false := RowAt.frozen h o
theorem GridAt.below (h : GridAt w b R C n f t) {B : Nat} (hb : Below B w w') (hB : b < B) : GridAt w' b R C n f t := RowAt.below h hb hB
theorem GridAt.alloc (h : GridAt w b R C n f t) (o : Obj) : GridAt (w.alloc o) b R C n f t := RowAt.alloc h o
theorem GridAt.setNum (h : GridAt w b R C n f t) (k v : Nat) (hk : k < 25) : GridAt (w.setCell ⟨b, 3 + k, none⟩ (.int .i64 v)) b R C n (upd f k v) t := by
  unfold GridAt
  rw [← gridA_set_num _ _ _ _ _ _ _ hk]
  exact RowAt.setCell h _ _
theorem GridAt.setTxt (h : GridAt w b R C n f t) (k : Nat) (v : Sl) (hk : k < 26) : GridAt (w.setCell ⟨b, 28 + k, none⟩ (slV v)) b R C n f (updS t k v) := by
  unfold GridAt
  rw [← gridA_set_txt _ _ _ _ _ _ _ hk]
  exact RowAt.setCell h _ _
theorem GridAt.setCells (h : GridAt w b R C n f t) (m : Nat) : GridAt (w.setCell ⟨b, 2, none⟩ (.int .i64 m)) b R C m f t := by
  unfold GridAt
  rw [← gridA_set_cells R C n m]
  exact RowAt.setCell h _ _
theorem GridAt.other (h : GridAt w b R C n f t) (a : Addr) (u : Value) (hb : b ≠ a.block) : GridAt (w.setCell a u) b R C n f t := RowAt.other h a u hb
end
theorem gridAt_new (w : World) (R C : Int) (n : Nat) (f : Nat → Nat) (t : Nat → Sl) : GridAt (w.alloc (.cells (gridA R C n f t) 51)) w.heap.size R C n f t := rowAt_new _ _ _
/-- A rectangle that lies in a block of its own. -/
def RectAt (w : World) (b : Nat) (r c d h : Int) : Prop := RowAt w b #[.int .i64 r, .int .i64 c, .int .i64 d, .int .i64 h] 63
section
variable {w w' : World} {b : Nat} {r c d g : Int}
theorem RectAt.c0 (h : RectAt w b r c d g) : w.cell? ⟨b, 0, none⟩ = some (.int .i64 r) := RowAt.cell h 0
theorem RectAt.c1 (h : RectAt w b r c d g) : w.cell? ⟨b, 1, none⟩ = some (.int .i64 c) := RowAt.cell h 1
theorem RectAt.c2 (h : RectAt w b r c d g) : w.cell? ⟨b, 2, none⟩ = some (.int .i64 d) := RowAt.cell h 2
theorem RectAt.c3 (h : RectAt w b r c d g) : w.cell? ⟨b, 3, none⟩ = some (.int .i64 g) := RowAt.cell h 3
end
theorem grid_info : (Try.prog.info? 51).map (·.size) = some 54 := by kernel_rfl
theorem grid_infoA (R C : Int) (n : Nat) (f : Nat → Nat) (t : Nat → Sl) : (Try.prog.info? 51).map (·.size) = some (gridA R C n f t).size := by rw [gridA_size]; exact grid_info
end Go.Proofs.Yteghidjbcpmfbaa
namespace Go.Proofs.Yteghidjbcpmfbaa
open Go.RowKit

/-- The squares ahead of a place, going through all rows. -/
def vis (i j : Nat) (C : Nat) (a b : Nat) : Prop := b < C ∧ (a < i ∨ a = i ∧ b < j)
def inR (r c d h a b : Nat) : Prop := r ≤ a ∧ a < r + d ∧ c ≤ b ∧ b < c + h
/-- A number whose bits are the numbers of some squares. -/
def Mask (x : Nat) (f : Nat → Nat) (p : Nat → Nat → Prop) : Prop := x < 2 ^ 26 ∧ ∀ k, x.testBit k = true ↔ ∃ a b, p a b ∧ f (a * 5 + b) = k

theorem or_nat (y p : Nat) (hy : y < 2 ^ 26) (hp : p < 2 ^ 26) : bits .or .u32 (y : Int) (p : Int) = ((y ||| p : Nat) : Int) := by
  have ho : y ||| p < 2 ^ 26 := Nat.or_lt_two_pow hy hp
  show IntKind.u32.wrap (((BitVec.ofInt 32 (y : Int)) ||| (BitVec.ofInt 32 (p : Int))).toNat : Int) = _
  rw [BitVec.ofInt_natCast, BitVec.ofInt_natCast, BitVec.toNat_or, BitVec.toNat_ofNat, BitVec.toNat_ofNat, Nat.mod_eq_of_lt (a := y) (by omega), Nat.mod_eq_of_lt (a := p) (by omega)]
  generalize y ||| p = z at ho ⊢
  simp only [IntKind.wrap, IntKind.bits, IntKind.signed]
  simp
  omega
theorem pow_lt26 {m : Nat} (hm : m ≤ 25) : 2 ^ m < 2 ^ 26 := Nat.pow_lt_pow_right (by decide) (by omega)
theorem pow_mod (m : Nat) (hm : m ≤ 25) : ((2 : Int) ^ m % 4294967296) = ((2 ^ m : Nat) : Int) := by
  have hp := pow_lt26 hm
  rw [show ((2 : Int) ^ m) = ((2 ^ m : Nat) : Int) from by simp]
  generalize 2 ^ m = p at hp ⊢
  omega
theorem or_pow (y m : Nat) (hy : y < 2 ^ 26) (hm : m ≤ 25) : bits .or .u32 (y : Int) (2 ^ m % 4294967296) = ((y ||| 2 ^ m : Nat) : Int) := by
  rw [pow_mod m hm, or_nat y _ hy (pow_lt26 hm)]
theorem Mask.snoc {y m a0 b0 : Nat} {f : Nat → Nat} {p q : Nat → Nat → Prop} (h : Mask y f p) (hm : m ≤ 25) (hf : f (a0 * 5 + b0) = m) (hp : ∀ a b, q a b ↔ p a b ∨ (a = a0 ∧ b = b0)) : Mask (y ||| 2 ^ m) f q := by
  refine ⟨Nat.or_lt_two_pow h.1 (Nat.pow_lt_pow_right (by decide) (by omega)), ?_⟩
  intro k
  rw [Nat.testBit_or, Bool.or_eq_true, h.2 k, Nat.testBit_two_pow, decide_eq_true_eq]
  constructor
  · rintro (⟨a, b, h1, h2⟩ | rfl)
    · exact ⟨a, b, (hp a b).2 (.inl h1), h2⟩
    · exact ⟨a0, b0, (hp a0 b0).2 (.inr ⟨rfl, rfl⟩), hf⟩
  · rintro ⟨a, b, h1, h2⟩
    rcases (hp a b).1 h1 with h3 | ⟨rfl, rfl⟩
    · exact .inl ⟨a, b, h3, h2⟩
    · exact .inr (hf.symm.trans h2)
theorem Mask.same {y : Nat} {f : Nat → Nat} {p q : Nat → Nat → Prop} (h : Mask y f p) (hp : ∀ a b, q a b ↔ p a b) : Mask y f q := by
  refine ⟨h.1, fun k => ?_⟩
  rw [h.2 k]
  simp only [hp]
theorem Mask.zero {f : Nat → Nat} {p : Nat → Nat → Prop} (hp : ∀ a b, ¬ p a b) : Mask 0 f p := by
  refine ⟨by decide, fun k => ?_⟩
  simp only [Nat.zero_testBit, Bool.false_eq_true, false_iff]
  rintro ⟨a, b, h, _⟩
  exact hp a b h
theorem recB_true {r c d h a b : Nat} (e : recB r c d h a b = true) : inR r c d h a b := by
  have := of_decide_eq_true e
  unfold inR
  omega
theorem recB_false {r c d h a b : Nat} (e : recB r c d h a b = false) : ¬ inR r c d h a b := by
  have := of_decide_eq_false e
  unfold inR
  omega

set_option maxRecDepth 100000 in
set_option maxHeartbeats 4000000 in
theorem parted_any (R C n : Nat) (f : Nat → Nat) (t : Nat → Sl) (r c d h : Nat) (w : World) (hR : R ≤ 5) (hC : C ≤ 5) (hr : r + d ≤ 5) (hc : c + h ≤ 5) (hf : ∀ k, f k ≤ 25) :
    Calls Try.prog 46 #[.agg (gridA R C n f t), .agg #[.int .i64 r, .int .i64 c, .int .i64 d, .int .i64 h]] w fun z w' => (∃ x y : Nat, z = .returned (.tuple #[.int .u32 x, .int .u32 y]) ∧ Mask x f (fun a b => vis R 0 C a b ∧ inR r c d h a b) ∧ Mask y f (fun a b => vis R 0 C a b ∧ ¬ inR r c d h a b)) ∧ Below w.heap.size w w' := by
  go_enter Try.func46, Try.ntmps46
  go_upto_region 1 with fail
  have B0 : Below w.heap.size w ((w.alloc (.cells (gridA R C n f t) 51)).alloc (.cells #[.int .i64 r, .int .i64 c, .int .i64 d, .int .i64 h] 63)) := (((Below.refl _ _).alloc (Nat.le_refl _) _).alloc (by simp) _)
  have G0 : GridAt ((w.alloc (.cells (gridA R C n f t) 51)).alloc (.cells #[.int .i64 r, .int .i64 c, .int .i64 d, .int .i64 h] 63)) w.heap.size R C n f t := (gridAt_new w R C n f t).alloc _
  have G2 : RectAt ((w.alloc (.cells (gridA R C n f t) 51)).alloc (.cells #[.int .i64 r, .int .i64 c, .int .i64 d, .int .i64 h] 63)) (w.heap.size + 1) r c d h := by
    have := (rowAt_new (w.alloc (.cells (gridA R C n f t) 51)) #[.int .i64 r, .int .i64 c, .int .i64 d, .int .i64 h] 63)
    simpa [RectAt] using this
  generalize ((w.alloc (.cells (gridA R C n f t) 51)).alloc (.cells #[.int .i64 r, .int .i64 c, .int .i64 d, .int .i64 h] 63)) = v0 at B0 G0 G2 ⊢
  have k0 := G0.rows
  go_wp2_with fail
  go_loopw [4, 5, 11] (fun xv yv iv wr => ∃ i x y : Nat, i ≤ R ∧ iv = .int .i64 i ∧ xv = .int .u32 x ∧ yv = .int .u32 y ∧ Mask x f (fun a b => vis i 0 C a b ∧ inR r c d h a b) ∧ Mask y f (fun a b => vis i 0 C a b ∧ ¬ inR r c d h a b) ∧ Below v0.heap.size v0 wr) (fun _ _ iv _ => R - (intOf iv).toNat)
  case atStart => exact ⟨0, 0, 0, Nat.zero_le _, rfl, rfl, rfl, Mask.zero (fun a b hh => by simp [vis] at hh), Mask.zero (fun a b hh => by simp [vis] at hh), Below.refl _ _⟩
  case round =>
    clear k0
    obtain ⟨i, x, y, hi, rfl, rfl, rfl, hx, hy, hb⟩ := hrel
    have HX : Hid (Mask x f (fun a b => vis i 0 C a b ∧ inR r c d h a b)) := hx
    have HY : Hid (Mask y f (fun a b => vis i 0 C a b ∧ ¬ inR r c d h a b)) := hy
    have HG : Hid (GridAt wr w.heap.size R C n f t) := G0.below hb G0.lt
    have HQ : Hid (RectAt wr (w.heap.size + 1) r c d h) := RowAt.below G2 hb (RowAt.lt G2)
    have HB : Hid (Below v0.heap.size v0 wr) := hb
    have k1 := HG.out.cols
    clear hx hy hb
    by_cases hlt : i < R
    · have b0 : (i : Int) < 5 := by omega
      have b1 : (C : Int) ≤ 5 := by omega
      go_wp2_with fail
      go_quiet (fail)
      go_wp2_with fail
      go_loopw [4, 5, 21] (fun xv yv jv wq => ∃ j x y : Nat, j ≤ C ∧ jv = .int .i64 j ∧ xv = .int .u32 x ∧ yv = .int .u32 y ∧ Mask x f (fun a b => vis i j C a b ∧ inR r c d h a b) ∧ Mask y f (fun a b => vis i j C a b ∧ ¬ inR r c d h a b) ∧ Below v0.heap.size v0 wq) (fun _ _ jv _ => C - (intOf jv).toNat)
      case atStart => exact ⟨0, x, y, Nat.zero_le _, rfl, rfl, rfl, HX.out, HY.out, below_drewN HB.out _⟩
      case round =>
        clear HX HY HG HQ HB k1
        obtain ⟨j, x, y, hj, rfl, rfl, rfl, hx, hy, hb⟩ := hrel
        have HX : Hid (Mask x f (fun a b => vis i j C a b ∧ inR r c d h a b)) := hx
        have HY : Hid (Mask y f (fun a b => vis i j C a b ∧ ¬ inR r c d h a b)) := hy
        have HB : Hid (Below v0.heap.size v0 wr) := hb
        by_cases hlj : j < C
        · have k1 := (G0.below hb G0.lt).num (i * 5 + j) (by omega)
          have HQ : RectAt wr (w.heap.size + 1) r c d h := RowAt.below G2 hb (RowAt.lt G2)
          have hm := hf (i * 5 + j)
          obtain ⟨m, HM⟩ : ∃ m, Hid (f (i * 5 + j) = m) := ⟨_, rfl⟩
          rw [← Nat.add_assoc, HM.out] at k1
          rw [HM.out] at hm
          have e0 := HQ.c0
          have e1 := HQ.c1
          have e2 := HQ.c2
          have e3 := HQ.c3
          have sz := hb.size
          clear hx hy hb HQ
          cases hz : recB r c d h i j
          · have HH : Hid (recB r c d h i j = false) := hz
            clear hz
            go_wp2_with (go_at_call 67; refine (has_is HH.out ⟨by omega, by omega⟩ ⟨by omega, by omega⟩ ⟨by omega, by omega⟩ ⟨by omega, by omega⟩ _).mono ?_; rintro e w4 ⟨rfl, hb4⟩)
            go_roundw
            case rel =>
              refine ⟨j + 1, x, y ||| 2 ^ m, by omega, by go_num, rfl, by rw [or_pow y m HY.out.1 hm], HX.out.same ?_, HY.out.snoc hm HM.out ?_, HB.out.trans (hb4.mono sz)⟩
              · intro a b
                have hn := recB_false HH.out
                constructor
                · rintro ⟨⟨h1, h2⟩, h3⟩
                  refine ⟨⟨h1, ?_⟩, h3⟩
                  rcases h2 with h2 | ⟨rfl, h2⟩
                  · exact .inl h2
                  · refine .inr ⟨rfl, ?_⟩
                    rcases Nat.lt_or_ge b j with h4 | h4
                    · exact h4
                    · obtain rfl : b = j := by omega
                      exact absurd h3 hn
                · rintro ⟨⟨h1, h2⟩, h3⟩
                  exact ⟨⟨h1, by omega⟩, h3⟩
              · intro a b
                have hn := recB_false HH.out
                constructor
                · rintro ⟨⟨h1, h2⟩, h3⟩
                  by_cases h4 : a = i ∧ b = j
                  · exact .inr h4
                  · exact .inl ⟨⟨h1, by omega⟩, h3⟩
                · rintro (⟨⟨h1, h2⟩, h3⟩ | ⟨rfl, rfl⟩)
                  · exact ⟨⟨h1, by omega⟩, h3⟩
                  · exact ⟨⟨hlj, by omega⟩, hn⟩
            case measure => simp [intOf]; omega
          · have HH : Hid (recB r c d h i j = true) := hz
            clear hz
            go_wp2_with (go_at_call 67; refine (has_is HH.out ⟨by omega, by omega⟩ ⟨by omega, by omega⟩ ⟨by omega, by omega⟩ ⟨by omega, by omega⟩ _).mono ?_; rintro e w4 ⟨rfl, hb4⟩)
            go_roundw
            case rel =>
              refine ⟨j + 1, x ||| 2 ^ m, y, by omega, by go_num, by rw [or_pow x m HX.out.1 hm], rfl, HX.out.snoc hm HM.out ?_, HY.out.same ?_, HB.out.trans (hb4.mono sz)⟩
              · intro a b
                have hn := recB_true HH.out
                constructor
                · rintro ⟨⟨h1, h2⟩, h3⟩
                  by_cases h4 : a = i ∧ b = j
                  · exact .inr h4
                  · exact .inl ⟨⟨h1, by omega⟩, h3⟩
                · rintro (⟨⟨h1, h2⟩, h3⟩ | ⟨rfl, rfl⟩)
                  · exact ⟨⟨h1, by omega⟩, h3⟩
                  · exact ⟨⟨hlj, by omega⟩, hn⟩
              · intro a b
                have hn := recB_true HH.out
                constructor
                · rintro ⟨⟨h1, h2⟩, h3⟩
                  refine ⟨⟨h1, ?_⟩, h3⟩
                  rcases h2 with h2 | ⟨rfl, h2⟩
                  · exact .inl h2
                  · refine .inr ⟨rfl, ?_⟩
                    rcases Nat.lt_or_ge b j with h4 | h4
                    · exact h4
                    · obtain rfl : b = j := by omega
                      exact absurd hn h3
                · rintro ⟨⟨h1, h2⟩, h3⟩
                  exact ⟨⟨h1, by omega⟩, h3⟩
            case measure => simp [intOf]; omega
        · clear hx hy hb
          go_wp2_with fail
          go_roundw
          case rel =>
            refine ⟨i + 1, x, y, by omega, by go_num, rfl, rfl, HX.out.same ?_, HY.out.same ?_, HB.out⟩
            · intro a b
              exact and_congr_left' (by unfold vis; omega)
            · intro a b
              exact and_congr_left' (by unfold vis; omega)
          case measure => simp [intOf]; omega
    · go_wp2_with fail
      refine bodyPost_ret (v := .tuple #[.int .u32 x, .int .u32 y]) (by simp [results, Try.results46, go_sem]) rfl ⟨⟨x, y, rfl, ?_, ?_⟩, B0.trans (HB.out.mono B0.size)⟩
      · obtain rfl : i = R := by omega
        exact HX.out
      · obtain rfl : i = R := by omega
        exact HY.out
end Go.Proofs.Yteghidjbcpmfbaa
namespace Go.Proofs.Yteghidjbcpmfbaa
open Go.RowKit

/-- Each square is of a cell, and going through all squares each number is met behind all lesser ones. -/
def Tiles (R C : Nat) (f : Nat → Nat) : Prop := ∀ a b, vis R 0 C a b → 1 ≤ f (a * 5 + b) ∧ ∀ k, 1 ≤ k → k < f (a * 5 + b) → ∃ a' b', vis a b C a' b' ∧ f (a' * 5 + b') = k
/-- So far, and m is the greatest number met. -/
def Met (C : Nat) (f : Nat → Nat) (i j m : Nat) : Prop :=
  (∀ a b, vis i j C a b → (1 ≤ f (a * 5 + b) ∧ f (a * 5 + b) ≤ m) ∧ ∀ k, 1 ≤ k → k < f (a * 5 + b) → ∃ a' b', vis a b C a' b' ∧ f (a' * 5 + b') = k) ∧ (∀ k, 1 ≤ k → k ≤ m → ∃ a b, vis i j C a b ∧ f (a * 5 + b) = k)
theorem Met.row {C : Nat} {f : Nat → Nat} {i m : Nat} (h : Met C f i C m) : Met C f (i + 1) 0 m := by
  refine ⟨fun a b hv => h.1 a b ?_, fun k h1 h2 => ?_⟩
  · unfold vis at hv ⊢
    omega
  · obtain ⟨a, b, h3, h4⟩ := h.2 k h1 h2
    exact ⟨a, b, by unfold vis at h3 ⊢; omega, h4⟩
theorem Met.next {C : Nat} {f : Nat → Nat} {i j m : Nat} (h : Met C f i j m) (hj : j < C) (h0 : 1 ≤ f (i * 5 + j)) (h1 : f (i * 5 + j) ≤ m + 1) : Met C f i (j + 1) (max m (f (i * 5 + j))) := by
  refine ⟨fun a b hv => ?_, fun k k1 k2 => ?_⟩
  · by_cases hh : a = i ∧ b = j
    · obtain ⟨rfl, rfl⟩ := hh
      refine ⟨⟨h0, Nat.le_max_right _ _⟩, fun k k1 k2 => ?_⟩
      exact h.2 k k1 (by omega)
    · obtain ⟨⟨h2, h3⟩, h4⟩ := h.1 a b (by unfold vis at hv ⊢; omega)
      exact ⟨⟨h2, Nat.le_trans h3 (Nat.le_max_left _ _)⟩, h4⟩
  · by_cases hk : k ≤ m
    · obtain ⟨a, b, h3, h4⟩ := h.2 k k1 hk
      exact ⟨a, b, by unfold vis at h3 ⊢; omega, h4⟩
    · exact ⟨i, j, by unfold vis; omega, by omega⟩
theorem Met.zero (C : Nat) (f : Nat → Nat) : Met C f 0 0 0 := by
  refine ⟨fun a b hv => ?_, fun k k1 k2 => by omega⟩
  unfold vis at hv
  omega
theorem Met.bad {R C : Nat} {f : Nat → Nat} {i j m : Nat} (h : Met C f i j m) (hi : i < R) (hj : j < C) (hb : f (i * 5 + j) = 0 ∨ m + 1 < f (i * 5 + j)) : ¬ Tiles R C f := by
  intro ht
  obtain ⟨h1, h2⟩ := ht i j (by unfold vis; omega)
  rcases hb with hb | hb
  · omega
  · obtain ⟨a, b, h3, h4⟩ := h2 (m + 1) (by omega) hb
    have := (h.1 a b h3).1.2
    omega
theorem Met.good {R C : Nat} {f : Nat → Nat} {m : Nat} (h : Met C f R 0 m) : Tiles R C f := fun a b hv => ⟨(h.1 a b hv).1.1, (h.1 a b hv).2⟩

set_option maxRecDepth 100000 in
set_option maxHeartbeats 4000000 in
theorem isTiled_is {R C n : Nat} {f : Nat → Nat} {t : Nat → Sl} {w : World} {x : Bool} (hx : x = true ↔ Tiles R C f) (hR : R ≤ 5) (hC : C ≤ 5) (hf : ∀ k, f k ≤ 25) :
    Calls Try.prog 57 #[.agg (gridA R C n f t)] w fun z w' => z = .returned (.bool x) ∧ Below w.heap.size w w' := by
  have HX : Hid (x = true ↔ Tiles R C f) := hx
  clear hx
  go_enter Try.func57, Try.ntmps57
  go_upto_region 1 with fail
  have B0 : Below w.heap.size w (w.alloc (.cells (gridA R C n f t) 51)) := (Below.refl _ _).alloc (Nat.le_refl _) _
  have G0 : GridAt (w.alloc (.cells (gridA R C n f t) 51)) w.heap.size R C n f t := gridAt_new w R C n f t
  generalize (w.alloc (.cells (gridA R C n f t) 51)) = v0 at B0 G0 ⊢
  have k0 := G0.rows
  go_wp2_with fail
  go_loopw [3, 9] (fun mv iv wr => ∃ i m : Nat, i ≤ R ∧ m ≤ 25 ∧ iv = .int .i64 i ∧ mv = .int .i64 m ∧ Met C f i 0 m ∧ Below v0.heap.size v0 wr) (fun _ iv _ => R - (intOf iv).toNat)
  case atStart => exact ⟨0, 0, Nat.zero_le _, Nat.zero_le _, rfl, rfl, Met.zero C f, Below.refl _ _⟩
  case round =>
    clear k0
    obtain ⟨i, m, hi, hm, rfl, rfl, hM, hb⟩ := hrel
    have HM : Hid (Met C f i 0 m) := hM
    have HB : Hid (Below v0.heap.size v0 wr) := hb
    have k1 := (G0.below hb G0.lt).cols
    clear hM hb
    by_cases hlt : i < R
    · have b0 : (i : Int) < 5 := by omega
      have b1 : (C : Int) ≤ 5 := by omega
      go_wp2_with fail
      go_quiet (fail)
      go_wp2_with fail
      go_loopw [3, 19] (fun mv jv wr => ∃ j m : Nat, j ≤ C ∧ m ≤ 25 ∧ jv = .int .i64 j ∧ mv = .int .i64 m ∧ Met C f i j m ∧ Below v0.heap.size v0 wr) (fun _ jv _ => C - (intOf jv).toNat)
      case atStart => exact ⟨0, m, Nat.zero_le _, hm, rfl, rfl, HM.out, below_drewN HB.out _⟩
      case round =>
        clear HM HB k1
        obtain ⟨j, m, hj, hm, rfl, rfl, hM, hb⟩ := hrel
        have HM : Hid (Met C f i j m) := hM
        have HB : Hid (Below v0.heap.size v0 wr) := hb
        by_cases hlj : j < C
        · have k1 := (G0.below hb G0.lt).num (i * 5 + j) (by omega)
          have hq := hf (i * 5 + j)
          obtain ⟨q, HQ⟩ : ∃ q, Hid (f (i * 5 + j) = q) := ⟨_, rfl⟩
          rw [← Nat.add_assoc, HQ.out] at k1
          rw [HQ.out] at hq
          clear hM hb
          rcases (show q = 0 ∨ (¬ q = 0 ∧ m + 1 < q) ∨ (¬ q = 0 ∧ q ≤ m + 1) from by omega) with rfl | ⟨q0, q1⟩ | ⟨q0, q1⟩
          · go_wp2_with fail
            go_ret
            refine ⟨congrArg (fun b => Ending.returned (.bool b)) ?_, B0.trans (HB.out.mono B0.size)⟩
            show false = x
            cases x
            · rfl
            · exact absurd (HX.out.1 rfl) (HM.out.bad hlt hlj (.inl HQ.out))
          · have n0 : ((q : Int) == 0) = false := by simp; omega
            have n1 : (m : Int) + 1 < (q : Int) := by omega
            go_wp2_with fail
            go_ret
            refine ⟨congrArg (fun b => Ending.returned (.bool b)) ?_, B0.trans (HB.out.mono B0.size)⟩
            show false = x
            cases x
            · rfl
            · exact absurd (HX.out.1 rfl) (HM.out.bad hlt hlj (.inr (by rw [HQ.out]; exact q1)))
          · have n0 : ((q : Int) == 0) = false := by simp; omega
            have n1 : ¬ (m : Int) + 1 < (q : Int) := by omega
            go_wp2_with fail
            go_roundw
            case rel =>
              have hN := HM.out.next hlj (by rw [HQ.out]; omega) (by rw [HQ.out]; omega)
              rw [HQ.out] at hN
              refine ⟨j + 1, max m q, by omega, by omega, by go_num, ?_, hN, HB.out⟩
              by_cases hmq : m < q
              · rw [if_pos hmq, Nat.max_eq_right (by omega)]
              · rw [if_neg hmq, Nat.max_eq_left (by omega)]
            case measure => simp [intOf]; omega
        · clear hM hb
          go_wp2_with fail
          go_roundw
          case rel =>
            have hh := HM.out
            rw [show j = C from by omega] at hh
            exact ⟨i + 1, m, by omega, hm, by go_num, rfl, hh.row, HB.out⟩
          case measure => simp [intOf]; omega
    · go_wp2_with fail
      go_ret
      refine ⟨congrArg (fun b => Ending.returned (.bool b)) ?_, B0.trans (HB.out.mono B0.size)⟩
      show true = x
      have hh := HM.out
      rw [show i = R from by omega] at hh
      exact (HX.out.2 hh.good).symm
end Go.Proofs.Yteghidjbcpmfbaa
namespace Go.Proofs.Yteghidjbcpmfbaa
open Go.RowKit

/-- No square of a rectangle is of a cell. -/
def freeB (f : Nat → Nat) (r c d h : Nat) : Bool := (List.range d).all fun i => (List.range h).all fun j => f ((r + i) * 5 + (c + j)) == 0
theorem freeB_iff {f : Nat → Nat} {r c d h : Nat} : freeB f r c d h = true ↔ ∀ a b, inR r c d h a b → f (a * 5 + b) = 0 := by
  simp only [freeB, List.all_eq_true, List.mem_range, beq_iff_eq, inR]
  constructor
  · intro hh a b ⟨h1, h2, h3, h4⟩
    have := hh (a - r) (by omega) (b - c) (by omega)
    rwa [show r + (a - r) = a from by omega, show c + (b - c) = b from by omega] at this
  · intro hh i hi j hj
    exact hh (r + i) (c + j) ⟨by omega, by omega, by omega, by omega⟩
theorem mask_one {x : Nat} {f : Nat → Nat} {R C r c d h : Nat} (hx : Mask x f (fun a b => vis R 0 C a b ∧ inR r c d h a b)) (hd : 0 < d) (hh : 0 < h) (hR : r + d ≤ R) (hC : c + h ≤ C) : decide ((x : Int) = 1) = freeB f r c d h := by
  have key : x = 1 ↔ freeB f r c d h = true := by
    rw [freeB_iff]
    constructor
    · rintro rfl a b hab
      have h1 := (hx.2 (f (a * 5 + b))).2 ⟨a, b, ⟨by unfold vis; unfold inR at hab; omega, hab⟩, rfl⟩
      rw [show (1 : Nat) = 2 ^ 0 from rfl, Nat.testBit_two_pow, decide_eq_true_eq] at h1
      exact h1.symm
    · intro hz
      apply Nat.eq_of_testBit_eq
      intro k
      rw [Bool.eq_iff_iff, hx.2 k, show (1 : Nat) = 2 ^ 0 from rfl, Nat.testBit_two_pow, decide_eq_true_eq]
      constructor
      · rintro ⟨a, b, ⟨_, h2⟩, h3⟩
        rw [hz a b h2] at h3
        exact h3
      · rintro rfl
        exact ⟨r, c, ⟨by unfold vis; omega, by unfold inR; omega⟩, hz r c (by unfold inR; omega)⟩
  cases hf : freeB f r c d h
  · rw [hf] at key
    refine decide_eq_false ?_
    intro e
    exact absurd (key.1 (by omega)) (by simp)
  · rw [hf] at key
    refine decide_eq_true ?_
    have := key.2 rfl
    omega

set_option maxRecDepth 100000 in
set_option maxHeartbeats 4000000 in
theorem isFree_is {R C n : Nat} {f : Nat → Nat} {t : Nat → Sl} {r c d h : Nat} {w : World} {x : Bool} (hx : freeB f r c d h = x) (hR : R ≤ 5) (hC : C ≤ 5) (hr : r + d ≤ R) (hc : c + h ≤ C) (hd : 0 < d) (hh : 0 < h) (hf : ∀ k, f k ≤ 25) :
    Calls Try.prog 55 #[.agg (gridA R C n f t), .agg #[.int .i64 r, .int .i64 c, .int .i64 d, .int .i64 h]] w fun z w' => z = .returned (.bool x) ∧ Below w.heap.size w w' := by
  have HX : Hid (freeB f r c d h = x) := hx
  clear hx
  go_enter Try.func55, Try.ntmps55
  go_upto_region 1 with fail
  have B0 : Below w.heap.size w ((w.alloc (.cells (gridA R C n f t) 51)).alloc (.cells #[.int .i64 r, .int .i64 c, .int .i64 d, .int .i64 h] 63)) := (((Below.refl _ _).alloc (Nat.le_refl _) _).alloc (by simp) _)
  have G0 : GridAt ((w.alloc (.cells (gridA R C n f t) 51)).alloc (.cells #[.int .i64 r, .int .i64 c, .int .i64 d, .int .i64 h] 63)) w.heap.size R C n f t := (gridAt_new w R C n f t).alloc _
  have G2 : RectAt ((w.alloc (.cells (gridA R C n f t) 51)).alloc (.cells #[.int .i64 r, .int .i64 c, .int .i64 d, .int .i64 h] 63)) (w.heap.size + 1) r c d h := by
    have := (rowAt_new (w.alloc (.cells (gridA R C n f t) 51)) #[.int .i64 r, .int .i64 c, .int .i64 d, .int .i64 h] 63)
    simpa [RectAt] using this
  generalize ((w.alloc (.cells (gridA R C n f t) 51)).alloc (.cells #[.int .i64 r, .int .i64 c, .int .i64 d, .int .i64 h] 63)) = v0 at B0 G0 G2 ⊢
  have e0 := G2.c0
  have e1 := G2.c1
  have e2 := G2.c2
  have e3 := G2.c3
  have HG : Hid (GridAt v0 w.heap.size R C n f t) := G0
  clear G0 G2
  go_wp2_with (first | (refine wpList_load_row rfl 51 (.tmp 2) rfl w.heap.size rfl 51 (gridA R C n f t) (0, 0) _ HG.out Try.underlying51 rfl (grid_infoA _ _ _ _ _) ?_) | (go_at_call 46; refine (parted_any R C n f t r c d h _ hR hC (by omega) (by omega) hf).mono ?_; rintro e w4 ⟨⟨xx, yy, rfl, hxx, -⟩, hb4⟩))
  go_ret
  refine ⟨congrArg (fun b => Ending.returned (.bool b)) ?_, B0.trans (hb4.mono B0.size)⟩
  show ((xx : Int) == 1) = x
  rw [← HX.out, ← mask_one hxx hd hh hr hc, Bool.eq_iff_iff]
  simp
end Go.Proofs.Yteghidjbcpmfbaa
namespace Go.Proofs.Yteghidjbcpmfbaa
open Go.RowKit

/-- All squares of a rectangle have the number v. -/
def giveF (f : Nat → Nat) (r c d h v : Nat) : Nat → Nat := fun k => if r ≤ k / 5 ∧ k / 5 < r + d ∧ c ≤ k % 5 ∧ k % 5 < c + h then v else f k
def giveI (f : Nat → Nat) (r c h v i j : Nat) : Nat → Nat := fun k => if (r ≤ k / 5 ∧ k / 5 < r + i ∧ c ≤ k % 5 ∧ k % 5 < c + h) ∨ (k / 5 = r + i ∧ c ≤ k % 5 ∧ k % 5 < c + j) then v else f k
theorem giveI_zero (f : Nat → Nat) (r c h v : Nat) : giveI f r c h v 0 0 = f := by
  funext k
  unfold giveI
  rw [if_neg (by omega)]
theorem giveI_end (f : Nat → Nat) (r c d h v : Nat) : giveI f r c h v d 0 = giveF f r c d h v := by
  funext k
  unfold giveI giveF
  by_cases hh : r ≤ k / 5 ∧ k / 5 < r + d ∧ c ≤ k % 5 ∧ k % 5 < c + h
  · rw [if_pos (by omega), if_pos hh]
  · rw [if_neg (by omega), if_neg hh]
theorem giveI_row (f : Nat → Nat) (r c h v i : Nat) : giveI f r c h v i h = giveI f r c h v (i + 1) 0 := by
  funext k
  unfold giveI
  by_cases hh : (r ≤ k / 5 ∧ k / 5 < r + i ∧ c ≤ k % 5 ∧ k % 5 < c + h) ∨ (k / 5 = r + i ∧ c ≤ k % 5 ∧ k % 5 < c + h)
  · rw [if_pos hh, if_pos (by omega)]
  · rw [if_neg hh, if_neg (by omega)]
theorem giveI_upd (f : Nat → Nat) (r c h v i j : Nat) (hj : c + j < 5) : upd (giveI f r c h v i j) ((r + i) * 5 + (c + j)) v = giveI f r c h v i (j + 1) := by
  funext k
  unfold upd giveI
  by_cases h0 : k = (r + i) * 5 + (c + j)
  · rw [if_pos h0, if_pos (by omega)]
  · rw [if_neg h0]
    by_cases hh : (r ≤ k / 5 ∧ k / 5 < r + i ∧ c ≤ k % 5 ∧ k % 5 < c + h) ∨ (k / 5 = r + i ∧ c ≤ k % 5 ∧ k % 5 < c + j)
    · rw [if_pos hh, if_pos (by omega)]
    · rw [if_neg hh, if_neg (by omega)]
theorem grid_zero : gridA 0 0 0 (fun _ => 0) (fun _ => sl0) = #[.int .i64 0, .int .i64 0, .int .i64 0, .int .i64 0, .int .i64 0, .int .i64 0, .int .i64 0, .int .i64 0, .int .i64 0, .int .i64 0, .int .i64 0, .int .i64 0, .int .i64 0, .int .i64 0, .int .i64 0, .int .i64 0, .int .i64 0, .int .i64 0, .int .i64 0, .int .i64 0, .int .i64 0, .int .i64 0, .int .i64 0, .int .i64 0, .int .i64 0, .int .i64 0, .int .i64 0, .int .i64 0, .slice none 0 0, .slice none 0 0, .slice none 0 0, .slice none 0 0, .slice none 0 0, .slice none 0 0, .slice none 0 0, .slice none 0 0, .slice none 0 0, .slice none 0 0, .slice none 0 0, .slice none 0 0, .slice none 0 0, .slice none 0 0, .slice none 0 0, .slice none 0 0, .slice none 0 0, .slice none 0 0, .slice none 0 0, .slice none 0 0, .slice none 0 0, .slice none 0 0, .slice none 0 0, .slice none 0 0, .slice none 0 0, .slice none 0 0] := rfl

set_option maxRecDepth 100000 in
set_option maxHeartbeats 4000000 in
theorem give_any (R C : Int) (n : Nat) (f : Nat → Nat) (t : Nat → Sl) (r c d h v : Nat) (w : World) (hr : r + d ≤ 5) (hc : c + h ≤ 5) :
    Calls Try.prog 50 #[.agg (gridA R C n f t), .agg #[.int .i64 r, .int .i64 c, .int .i64 d, .int .i64 h], .int .i64 v] w fun z w' => z = .returned (.agg (gridA R C n (giveF f r c d h v) t)) ∧ Below w.heap.size w w' := by
  go_enter Try.func50, Try.ntmps50
  go_wp2_with fail
  rw [← grid_zero]
  have B0 : Below w.heap.size w (((w.alloc (.cells (gridA R C n f t) 51)).alloc (.cells #[.int .i64 r, .int .i64 c, .int .i64 d, .int .i64 h] 63)).alloc (.cells (gridA 0 0 0 (fun _ => 0) (fun _ => sl0)) 51)) := (((Below.refl _ _).alloc (Nat.le_refl _) _).alloc (by simp) _).alloc (by simp; omega) _
  have G0 : GridAt (((w.alloc (.cells (gridA R C n f t) 51)).alloc (.cells #[.int .i64 r, .int .i64 c, .int .i64 d, .int .i64 h] 63)).alloc (.cells (gridA 0 0 0 (fun _ => 0) (fun _ => sl0)) 51)) w.heap.size R C n f t := ((gridAt_new w R C n f t).alloc _).alloc _
  have G1 : GridAt (((w.alloc (.cells (gridA R C n f t) 51)).alloc (.cells #[.int .i64 r, .int .i64 c, .int .i64 d, .int .i64 h] 63)).alloc (.cells (gridA 0 0 0 (fun _ => 0) (fun _ => sl0)) 51)) (w.heap.size + 1 + 1) 0 0 0 (fun _ => 0) (fun _ => sl0) := by
    have := gridAt_new ((w.alloc (.cells (gridA R C n f t) 51)).alloc (.cells #[.int .i64 r, .int .i64 c, .int .i64 d, .int .i64 h] 63)) 0 0 0 (fun _ => 0) (fun _ => sl0)
    simpa using this
  have G2 : RectAt (((w.alloc (.cells (gridA R C n f t) 51)).alloc (.cells #[.int .i64 r, .int .i64 c, .int .i64 d, .int .i64 h] 63)).alloc (.cells (gridA 0 0 0 (fun _ => 0) (fun _ => sl0)) 51)) (w.heap.size + 1) r c d h := by
    have := (rowAt_new (w.alloc (.cells (gridA R C n f t) 51)) #[.int .i64 r, .int .i64 c, .int .i64 d, .int .i64 h] 63).alloc (.cells (gridA 0 0 0 (fun _ => 0) (fun _ => sl0)) 51)
    simpa [RectAt] using this
  generalize (((w.alloc (.cells (gridA R C n f t) 51)).alloc (.cells #[.int .i64 r, .int .i64 c, .int .i64 d, .int .i64 h] 63)).alloc (.cells (gridA 0 0 0 (fun _ => 0) (fun _ => sl0)) 51)) = v0 at B0 G0 G1 G2 ⊢
  go_loopw [11] (fun i wr => ∃ k : Nat, k ≤ d ∧ i = .int .i64 k ∧ GridAt wr w.heap.size R C n (giveI f r c h v k 0) t ∧ GridAt wr (w.heap.size + 1 + 1) 0 0 0 (fun _ => 0) (fun _ => sl0) ∧ RectAt wr (w.heap.size + 1) r c d h ∧ Below w.heap.size w wr) (fun i _ => d - (intOf i).toNat)
  case atStart => exact ⟨0, Nat.zero_le _, rfl, by rw [giveI_zero]; exact G0, G1, G2, B0⟩
  case round =>
    clear B0 G0 G1 G2
    obtain ⟨i, hi, rfl, hg, hz, hq, hb⟩ := hrel
    have HG : Hid (GridAt wr w.heap.size R C n (giveI f r c h v i 0) t) := hg
    have HZ : Hid (GridAt wr (w.heap.size + 1 + 1) 0 0 0 (fun _ => 0) (fun _ => sl0)) := hz
    have HQ : Hid (RectAt wr (w.heap.size + 1) r c d h) := hq
    have HB : Hid (Below w.heap.size w wr) := hb
    have k3 := hq.c3
    clear hg hz hb hq
    by_cases hlt : i < d
    · go_wp2_with fail
      go_loopw [16] (fun jj wq => ∃ j : Nat, j ≤ h ∧ jj = .int .i64 j ∧ GridAt wq w.heap.size R C n (giveI f r c h v i j) t ∧ GridAt wq (w.heap.size + 1 + 1) 0 0 0 (fun _ => 0) (fun _ => sl0) ∧ RectAt wq (w.heap.size + 1) r c d h ∧ Below w.heap.size w wq) (fun jj _ => h - (intOf jj).toNat)
      case atStart => exact ⟨0, Nat.zero_le _, rfl, HG.out, HZ.out, HQ.out, HB.out⟩
      case round =>
        clear HG HZ k3 HB HQ
        obtain ⟨j, hj, rfl, hg, hz, hq, hb⟩ := hrel
        have HG : Hid (GridAt wr w.heap.size R C n (giveI f r c h v i j) t) := hg
        have HZ : Hid (GridAt wr (w.heap.size + 1 + 1) 0 0 0 (fun _ => 0) (fun _ => sl0)) := hz
        have HQ : Hid (RectAt wr (w.heap.size + 1) r c d h) := hq
        have HB : Hid (Below w.heap.size w wr) := hb
        by_cases hlj : j < h
        · have q := hg.num ((r + i) * 5 + (c + j)) (by omega)
          have fz := hg.frozen (3 + ((r + i) * 5 + (c + j)))
          have k0 := hq.c0
          have k1 := hq.c1
          rw [← Nat.add_assoc] at q fz
          have b0 : (r : Int) + i < 5 := by omega
          have b1 : (c : Int) + j < 5 := by omega
          clear hg hz hb hq
          go_wp2_with fail
          go_region
          all_goals go_wp2_with fail
          all_goals go_roundw
          case rel =>
            have sN := HG.out.setNum ((r + i) * 5 + (c + j)) v (by omega)
            rw [giveI_upd f r c h v i j (by omega), ← Nat.add_assoc] at sN
            exact ⟨j + 1, by omega, by go_num, sN, HZ.out.other _ _ (by simp <;> omega), RowAt.other HQ.out _ _ (by simp), HB.out.drew.setCell (Nat.le_refl _) _⟩
          case measure => simp [intOf]; omega
        · clear hg hz hb hq
          go_wp2_with fail
          go_roundw
          case rel =>
            have hh := HG.out
            rw [show j = h from by omega, giveI_row] at hh
            exact ⟨i + 1, by omega, by go_num, hh, HZ.out, HQ.out, HB.out⟩
          case measure => simp [intOf]; omega
    · have hid : i = d := by omega
      subst hid
      go_wp2_with (first | (refine wpList_load_row rfl 51 (.tmp 3) rfl w.heap.size rfl 51 (gridA R C n (giveI f r c h v i 0) t) (0, 0) _ HG.out Try.underlying51 rfl (grid_infoA _ _ _ _ _) ?_) | (refine wpList_store_row rfl 51 (.tmp 6) (.tmp 33) rfl (w.heap.size + 1 + 1) (gridA R C n (giveI f r c h v i 0) t) rfl rfl 51 _ HZ.out (grid_infoA _ _ _ _ _) (by rw [gridA_size, gridA_size]) (gridA_one _ _ _ _ _) ?_))
      have hz := RowAt.setRow HZ.out (gridA R C n (giveI f r c h v i 0) t)
      refine bodyPost_ret (v := .agg (gridA R C n (giveI f r c h v i 0) t)) (results_cell_row (p := 6) (ty := 51) rfl _ _ (w.heap.size + 1 + 1) 51 _ _ _ rfl hz Try.underlying51 rfl (grid_infoA _ _ _ _ _)) rfl ⟨by rw [giveI_end], ?_⟩
      exact below_row HB.out (by omega) _
end Go.Proofs.Yteghidjbcpmfbaa
namespace Go.Proofs.Yteghidjbcpmfbaa
open Go.RowKit

theorem give_is {R C : Int} {n : Nat} {f : Nat → Nat} {t : Nat → Sl} {r c d h v : Nat} {w : World} {G : Array Value} (hG : gridA R C n f t = G) (hr : r + d ≤ 5) (hc : c + h ≤ 5) :
    Calls Try.prog 50 #[.agg G, .agg #[.int .i64 r, .int .i64 c, .int .i64 d, .int .i64 h], .int .i64 v] w fun z w' => z = .returned (.agg (gridA R C n (giveF f r c d h v) t)) ∧ Below w.heap.size w w' := hG ▸ give_any R C n f t r c d h v w hr hc

set_option maxRecDepth 100000 in
set_option maxHeartbeats 4000000 in
theorem lay_any (R C : Int) (n : Nat) (f : Nat → Nat) (t : Nat → Sl) (r c d h : Nat) (s : Sl) (w : World) (hr : r + d ≤ 5) (hc : c + h ≤ 5) (hn : n < 25) :
    Calls Try.prog 56 #[.agg (gridA R C n f t), .agg #[.int .i64 r, .int .i64 c, .int .i64 d, .int .i64 h], slV s] w fun z w' => z = .returned (.agg (gridA R C (n + 1) (giveF f r c d h (n + 1)) (updS t (n + 1) s))) ∧ Below w.heap.size w w' := by
  obtain ⟨sa, sn, sc⟩ := s
  unfold slV
  go_enter Try.func56, Try.ntmps56
  go_upto_region 1 with fail
  rw [← grid_zero]
  have B0 : Below w.heap.size w (((w.alloc (.cells (gridA R C n f t) 51)).alloc (.cells #[.int .i64 r, .int .i64 c, .int .i64 d, .int .i64 h] 63)).alloc (.cells (gridA 0 0 0 (fun _ => 0) (fun _ => sl0)) 51)) := (((Below.refl _ _).alloc (Nat.le_refl _) _).alloc (by simp) _).alloc (by simp; omega) _
  have G0 : GridAt (((w.alloc (.cells (gridA R C n f t) 51)).alloc (.cells #[.int .i64 r, .int .i64 c, .int .i64 d, .int .i64 h] 63)).alloc (.cells (gridA 0 0 0 (fun _ => 0) (fun _ => sl0)) 51)) w.heap.size R C n f t := ((gridAt_new w R C n f t).alloc _).alloc _
  have G1 : GridAt (((w.alloc (.cells (gridA R C n f t) 51)).alloc (.cells #[.int .i64 r, .int .i64 c, .int .i64 d, .int .i64 h] 63)).alloc (.cells (gridA 0 0 0 (fun _ => 0) (fun _ => sl0)) 51)) (w.heap.size + 1 + 1) 0 0 0 (fun _ => 0) (fun _ => sl0) := by
    have := gridAt_new ((w.alloc (.cells (gridA R C n f t) 51)).alloc (.cells #[.int .i64 r, .int .i64 c, .int .i64 d, .int .i64 h] 63)) 0 0 0 (fun _ => 0) (fun _ => sl0)
    simpa using this
  have G2 : RectAt (((w.alloc (.cells (gridA R C n f t) 51)).alloc (.cells #[.int .i64 r, .int .i64 c, .int .i64 d, .int .i64 h] 63)).alloc (.cells (gridA 0 0 0 (fun _ => 0) (fun _ => sl0)) 51)) (w.heap.size + 1) r c d h := by
    have := (rowAt_new (w.alloc (.cells (gridA R C n f t) 51)) #[.int .i64 r, .int .i64 c, .int .i64 d, .int .i64 h] 63).alloc (.cells (gridA 0 0 0 (fun _ => 0) (fun _ => sl0)) 51)
    simpa [RectAt] using this
  generalize (((w.alloc (.cells (gridA R C n f t) 51)).alloc (.cells #[.int .i64 r, .int .i64 c, .int .i64 d, .int .i64 h] 63)).alloc (.cells (gridA 0 0 0 (fun _ => 0) (fun _ => sl0)) 51)) = w1 at B0 G0 G1 G2 ⊢
  have p0 := G0.cells
  have p1 := G0.frozen 2
  go_upto_region 2 with fail
  rw [show (n : Int) + 1 = ((n + 1 : Nat) : Int) from by omega]
  have X0 := G0.setCells (n + 1)
  have X1 := G1.other ⟨w.heap.size, 2, none⟩ (.int .i64 ((n + 1 : Nat) : Int)) (by simp <;> omega)
  have X2 : RectAt _ _ _ _ _ _ := RowAt.other G2 ⟨w.heap.size, 2, none⟩ (.int .i64 ((n + 1 : Nat) : Int)) (by simp)
  have X3 := B0.setCell (p := ⟨w.heap.size, 2, none⟩) (Nat.le_refl _) (.int .i64 ((n + 1 : Nat) : Int))
  clear p0 p1 G0 G1 G2 B0
  generalize (w1.setCell ⟨w.heap.size, 2, none⟩ (.int .i64 ((n + 1 : Nat) : Int))) = w2 at X0 X1 X2 X3 ⊢
  obtain ⟨m, hm⟩ : ∃ m, n + 1 = m := ⟨_, rfl⟩
  rw [hm] at X0 ⊢
  have p0 := X0.cells
  have p1 := X0.txt m (by omega)
  have p2 := X0.frozen (28 + m)
  have p3 : (m : Int) < 26 := by omega
  go_upto_region 3 with fail
  have Y0 := X0.setTxt m (sa, sn, sc) (by omega)
  have Y1 := X1.other ⟨w.heap.size, 28 + m, none⟩ (slV (sa, sn, sc)) (by simp <;> omega)
  have Y2 : RectAt _ _ _ _ _ _ := RowAt.other X2 ⟨w.heap.size, 28 + m, none⟩ (slV (sa, sn, sc)) (by simp)
  have Y3 := X3.setCell (p := ⟨w.heap.size, 28 + m, none⟩) (Nat.le_refl _) (slV (sa, sn, sc))
  clear p0 p1 p2 X0 X1 X2 X3
  generalize hgen : (w2.setCell ⟨w.heap.size, 28 + m, none⟩ (slV (sa, sn, sc))) = w3 at Y0 Y1 Y2 Y3
  rw [show w2.setCell ⟨w.heap.size, 28 + m, none⟩ (Value.slice sa sn sc) = w3 from hgen]
  clear hgen
  have q0 := Y0.cells
  have e0 := Y2.c0
  have e1 := Y2.c1
  have e2 := Y2.c2
  have e3 := Y2.c3
  have HG : Hid (GridAt w3 w.heap.size R C m f (updS t m (sa, sn, sc))) := Y0
  have HZ : Hid (GridAt w3 (w.heap.size + 1 + 1) 0 0 0 (fun _ => 0) (fun _ => sl0)) := Y1
  have HB : Hid (Below w.heap.size w w3) := Y3
  have hlt := Y1.lt
  clear Y0 Y1 Y2 Y3
  go_wp2_with (first | (refine wpList_load_row rfl 51 (.tmp 3) rfl w.heap.size rfl 51 (gridA R C m f (updS t m (sa, sn, sc))) (0, 0) _ HG.out Try.underlying51 rfl (grid_infoA _ _ _ _ _) ?_) | (go_at_call 50; refine (give_any R C m f (updS t m (sa, sn, sc)) r c d h m _ hr hc).mono ?_; rintro e w4 ⟨rfl, hb4⟩) | (refine wpList_store_row rfl 51 (.tmp 6) (.tmp 20) rfl (w.heap.size + 1 + 1) (gridA R C m (giveF f r c d h m) (updS t m (sa, sn, sc))) rfl rfl 51 _ (HZ.out.below hb4 hlt) (grid_infoA _ _ _ _ _) (by rw [gridA_size, gridA_size]) (gridA_one _ _ _ _ _) ?_))
  have hz := RowAt.setRow (HZ.out.below hb4 hlt) (gridA R C m (giveF f r c d h m) (updS t m (sa, sn, sc)))
  refine bodyPost_ret (v := .agg (gridA R C m (giveF f r c d h m) (updS t m (sa, sn, sc)))) (results_cell_row (p := 6) (ty := 51) rfl _ _ (w.heap.size + 1 + 1) 51 _ _ _ rfl hz Try.underlying51 rfl (grid_infoA _ _ _ _ _)) rfl ⟨by rw [hm], ?_⟩
  exact below_row (HB.out.trans (hb4.mono (by omega))) (by omega) _
end Go.Proofs.Yteghidjbcpmfbaa
namespace Go.Proofs.Yteghidjbcpmfbaa
open Go.RowKit

theorem formB_of {R C : Int} {l : List Cl} (h : formB R C l = true) : (1 ≤ R ∧ R ≤ 5) ∧ (1 ≤ C ∧ C ≤ 5) ∧ l.length ≤ 25 ∧ ∀ k, k < l.length → atB R C l k = true := by
  simp only [formB, Bool.and_eq_true, decide_eq_true_eq, List.all_eq_true, List.mem_range] at h
  obtain ⟨⟨⟨h0, h1⟩, h2⟩, h3⟩ := h
  exact ⟨h0, h1, h2, h3⟩
theorem cellB_of {R C : Int} {x : Cl} (h : cellB R C x = true) : (0 ≤ x.1 ∧ x.1 ≤ R - 1) ∧ (0 ≤ x.2.1 ∧ x.2.1 ≤ C - 1) ∧ (1 ≤ x.2.2.1 ∧ x.2.2.1 ≤ R - x.1) ∧ (1 ≤ x.2.2.2.1 ∧ x.2.2.2.1 ≤ C - x.2.1) ∧ textB x.2.2.2.2 = true := by
  simp only [cellB, Bool.and_eq_true, decide_eq_true_eq] at h
  obtain ⟨⟨⟨⟨h0, h1⟩, h2⟩, h3⟩, h4⟩ := h
  exact ⟨h0, h1, h2, h3, h4⟩
theorem atB_cell {R C : Int} {l : List Cl} {k : Nat} (h : atB R C l k = true) : cellB R C (l.getD k cl0) = true := by
  simp only [atB, Bool.and_eq_true] at h
  exact h.1

/-- How many of the cells a square is of. -/
def cnt (l : List Cl) (r c : Int) : Nat := l.countP fun x => inB x r c
def colB (C : Int) (l : List Cl) (r : Nat) : Bool := (List.range C.toNat).all fun c => decide (cnt l r c = 1)
def okB (R C : Int) (l : List Cl) : Bool := formB R C l && (List.range R.toNat).all (colB C l)
theorem cnt_take_succ (l : List Cl) (r c : Int) (k : Nat) (hk : k < l.length) : cnt (l.take (k + 1)) r c = cnt (l.take k) r c + (inB (l.getD k cl0) r c).toNat := by
  have e : l.getD k cl0 = l[k] := by simp [List.getD, hk]
  unfold cnt
  rw [e, List.take_succ_eq_append_getElem hk, List.countP_append]
  cases h : inB l[k] r c <;> simp [h]
theorem cnt_le (l : List Cl) (r c : Int) : cnt l r c ≤ l.length := List.countP_le_length

theorem l2In_is {r c d h : Int} {t : List Sg} {a b : Int} {z : Bool} (hz : inB (r, c, d, h, t) a b = z) (ta : Option Addr) (tn tc : Nat) (w : World) (hr : sml r) (hc : sml c) (hd : sml d) (hh : sml h) :
    Calls Try.prog 43 #[.agg #[.int .i64 r, .int .i64 c, .int .i64 d, .int .i64 h, .slice ta tn tc], .int .i64 a, .int .i64 b] w fun e w' => e = .returned (.bool z) ∧ Below w.heap.size w w' := by
  subst hz
  exact l2In_any r c d h ta tn tc a b w hr hc hd hh
theorem l2Form_is {R C : Int} {a : Option Addr} {n cap : Nat} {l : List Cl} {w : World} {x : Bool} (hx : formB R C l = x) (h : Tab w a n cap l) :
    Calls Try.prog 53 #[.agg #[.int .i64 R, .int .i64 C, .slice a n cap]] w fun e w' => e = .returned (.bool x) ∧ Below w.heap.size w w' := hx ▸ l2Form_any R C a n cap l w h

set_option maxRecDepth 100000 in
set_option maxHeartbeats 4000000 in
theorem specTableOk_any (R C : Int) (a : Option Addr) (n cap : Nat) (l : List Cl) (w : World) (h : Tab w a n cap l) :
    Calls Try.prog 27 #[.agg #[.int .i64 R, .int .i64 C, .slice a n cap]] w fun e w' => e = .returned (.bool (okB R C l)) ∧ Below w.heap.size w w' := by
  have H : Hid (Tab w a n cap l) := h
  obtain ⟨rfl, hc, hm, hl⟩ := h
  unfold maxLen at hm
  cases hf : formB R C l
  · rw [show okB R C l = false from by simp only [okB, hf, Bool.false_and]]
    have HF : Hid (formB R C l = false) := hf
    clear hf hl
    go_enter Try.func27, Try.ntmps27
    go_wp2_with (go_at_call 53; refine (l2Form_is HF.out (H.out.below ((Below.refl _ _).alloc (Nat.le_refl _) _))).mono ?_; rintro e w1 ⟨rfl, hb1⟩)
    go_ret
    exact ⟨rfl, ((Below.refl _ _).alloc (Nat.le_refl _) _).trans (hb1.mono (by simp))⟩
  rw [show okB R C l = (List.range R.toNat).all (colB C l) from by simp only [okB, hf, Bool.true_and]]
  obtain ⟨hR, hC, hlen, hat⟩ := formB_of hf
  have HF : Hid (formB R C l = true) := hf
  have HT : Hid (∀ k, k < l.length → atB R C l k = true) := hat
  have HL : Hid (l = [] ∨ ∃ b off, a = some ⟨b, off, none⟩ ∧ b < w.heap.size ∧ ∀ k, k < l.length → CellAt w b (off + k * 5) (l.getD k cl0)) := hl
  clear hf hl hat
  go_enter Try.func27, Try.ntmps27
  go_wp2_with (go_at_call 53; refine (l2Form_is HF.out (H.out.below ((Below.refl _ _).alloc (Nat.le_refl _) _))).mono ?_; rintro e w1 ⟨rfl, hb1⟩)
  have k0 : w1.cell? ⟨w.heap.size, 0, none⟩ = some (.int .i64 R) := (hb1.cell (p := ⟨w.heap.size, 0, none⟩) (by simp)).trans (by simp)
  have k1 : w1.cell? ⟨w.heap.size, 1, none⟩ = some (.int .i64 C) := (hb1.cell (p := ⟨w.heap.size, 1, none⟩) (by simp)).trans (by simp)
  have k2 : w1.cell? ⟨w.heap.size, 2, none⟩ = some (.slice a l.length cap) := (hb1.cell (p := ⟨w.heap.size, 2, none⟩) (by simp)).trans (by simp)
  have z0 : w.heap.size < w1.heap.size := by have := hb1.size; simp at this; omega
  have B0 : Hid (Below w.heap.size w w1) := ((Below.refl _ _).alloc (Nat.le_refl _) _).trans (hb1.mono (by simp))
  clear hb1
  go_loopw [3] (fun i wr => ∃ k : Nat, (k : Int) ≤ R ∧ i = .int .i64 k ∧ (List.range k).all (colB C l) = true ∧ Below w1.heap.size w1 wr) (fun i _ => R.toNat - (intOf i).toNat)
  case atStart => exact ⟨0, by omega, rfl, by simp, Below.refl _ _⟩
  case round =>
    obtain ⟨p, hp, rfl, hall, hbl⟩ := hrel
    have HA : Hid ((List.range p).all (colB C l) = true) := hall
    have HB : Hid (Below w1.heap.size w1 wr) := hbl
    have j0 := (hbl.cell (p := ⟨w.heap.size, 0, none⟩) z0).trans k0
    have j1 := (hbl.cell (p := ⟨w.heap.size, 1, none⟩) z0).trans k1
    have j2 := (hbl.cell (p := ⟨w.heap.size, 2, none⟩) z0).trans k2
    have zr : w.heap.size < wr.heap.size := Nat.lt_of_lt_of_le z0 hbl.size
    have sr := hbl.size
    clear hall hbl
    by_cases hlt : (p : Int) < R
    · clear k0 k1 k2
      go_wp2_with fail
      go_loopw [4] (fun i wq => ∃ k : Nat, (k : Int) ≤ C ∧ i = .int .i64 k ∧ ((List.range k).all fun c => decide (cnt l p c = 1)) = true ∧ Below wr.heap.size wr wq) (fun i _ => C.toNat - (intOf i).toNat)
      case atStart => exact ⟨0, by omega, rfl, by simp, Below.refl _ _⟩
      case round =>
        obtain ⟨q, hq, rfl, hall, hbl⟩ := hrel
        have HA2 : Hid (((List.range q).all fun c => decide (cnt l p c = 1)) = true) := hall
        have HB2 : Hid _ := hbl
        have i0 := (hbl.cell (p := ⟨w.heap.size, 0, none⟩) zr).trans j0
        have i1 := (hbl.cell (p := ⟨w.heap.size, 1, none⟩) zr).trans j1
        have i2 := (hbl.cell (p := ⟨w.heap.size, 2, none⟩) zr).trans j2
        have zq := Nat.lt_of_lt_of_le zr hbl.size
        have sq := hbl.size
        clear hall hbl
        by_cases hlq : (q : Int) < C
        · clear j0 j1 j2
          go_wp2_with fail
          go_loopw [5, 6] (fun nv i wi => ∃ k : Nat, k ≤ l.length ∧ i = .int .i64 k ∧ nv = .int .i64 (cnt (l.take k) p q : Nat) ∧ Below wr.heap.size wr wi) (fun _ i _ => l.length - (intOf i).toNat)
          case atStart => exact ⟨0, by omega, rfl, rfl, Below.refl _ _⟩
          case round =>
            obtain ⟨k, hk, rfl, rfl, hbl⟩ := hrel
            have HB3 : Hid _ := hbl
            have g0 := (hbl.cell (p := ⟨w.heap.size, 0, none⟩) zq).trans i0
            have g1 := (hbl.cell (p := ⟨w.heap.size, 1, none⟩) zq).trans i1
            have g2 := (hbl.cell (p := ⟨w.heap.size, 2, none⟩) zq).trans i2
            have zi := Nat.lt_of_lt_of_le zq hbl.size
            have si := hbl.size
            clear hbl i0 i1 i2
            have HW : Hid (Below w.heap.size w wr) := B0.out.trans ((HB.out.trans ((HB2.out.trans (HB3.out.mono sq)).mono sr)).mono (Nat.le_of_lt z0))
            by_cases hlk : k < l.length
            · rcases HL.out with e | ⟨b, off, rfl, hbw, hl⟩
              · rw [e] at hlk
                exact absurd hlk (by simp)
              obtain ⟨c0, c1, c2, c3, ta, tn, tc, c4, -⟩ := (hl k hlk).below HW.out hbw
              obtain ⟨⟨s0, s1⟩, ⟨s2, s3⟩, ⟨s4, s5⟩, ⟨s6, s7⟩, -⟩ := cellB_of (atB_cell (HT.out k hlk))
              have hn := cnt_take_succ l p q k hlk
              have hle := cnt_le (l.take k) p q
              obtain ⟨⟨r, c, d, g, t⟩, hx⟩ : ∃ x, x = l.getD k cl0 := ⟨_, rfl⟩
              rw [← hx] at c0 c1 c2 c3 s0 s1 s2 s3 s4 s5 s6 s7 hn
              simp only at c0 c1 c2 c3 s0 s1 s2 s3 s4 s5 s6 s7
              rw [List.length_take] at hle
              generalize cnt (l.take k) p q = m at hn hle ⊢
              have hm25 : m ≤ 25 := by omega
              clear hle hx hl
              have y0 : sml r := ⟨by omega, by omega⟩
              have y1 : sml c := ⟨by omega, by omega⟩
              have y2 : sml d := ⟨by omega, by omega⟩
              have y3 : sml g := ⟨by omega, by omega⟩
              clear s0 s1 s2 s3 s4 s5 s6 s7
              cases hz : inB (r, c, d, g, t) p q
              · rw [hz] at hn
                have HN : Hid (cnt (l.take (k + 1)) p q = m) := hn
                have HZ : Hid (inB (r, c, d, g, t) p q = false) := hz
                clear hn hz
                go_wp2_with (go_at_call 43; refine (l2In_is (t := t) HZ.out ta tn tc _ y0 y1 y2 y3).mono ?_; rintro e w3 ⟨rfl, hb3⟩)
                go_roundw
                case rel => exact ⟨k + 1, by omega, by go_num, by rw [HN.out], HB3.out.trans (hb3.mono si)⟩
                case measure => simp [intOf]; omega
              · rw [hz] at hn
                have HN : Hid (cnt (l.take (k + 1)) p q = m + 1) := hn
                have HZ : Hid (inB (r, c, d, g, t) p q = true) := hz
                clear hn hz
                go_wp2_with (go_at_call 43; refine (l2In_is (t := t) HZ.out ta tn tc _ y0 y1 y2 y3).mono ?_; rintro e w3 ⟨rfl, hb3⟩)
                go_roundw
                case rel => exact ⟨k + 1, by omega, by go_num, by rw [HN.out]; go_num, HB3.out.trans (hb3.mono si)⟩
                case measure => simp [intOf]; omega
            · have e : l.take k = l := List.take_of_length_le (by omega)
              rw [e]
              have hle := cnt_le l p q
              by_cases h1 : cnt l p q = 1
              · have HC1 : Hid (cnt l p q = 1) := h1
                rw [h1]
                clear e hle h1
                go_wp2_with fail
                go_roundw
                case rel => exact ⟨q + 1, by omega, by go_num, by rw [range_all_succ, HA2.out, HC1.out]; rfl, HB2.out.trans (HB3.out.mono sq)⟩
                case measure => simp [intOf]; omega
              · have HF : Hid ((List.range R.toNat).all (colB C l) = false) := range_all_false (k := p) (by omega) (range_all_false (k := q) (by omega) (decide_eq_false h1))
                generalize cnt l p q = m at h1 hle ⊢
                have hb : ((m : Int) != 1) = true := by simp; omega
                clear e
                go_wp2_with fail
                go_ret
                exact ⟨by rw [HF.out]; rfl, HW.out⟩
        · clear j1 j2
          go_wp2_with fail
          go_roundw
          case rel => exact ⟨p + 1, by omega, by go_num, by rw [range_all_succ, HA.out]; have hh := HA2.out; rw [show q = C.toNat from by omega] at hh; simp only [colB, hh]; rfl, HB.out.trans (HB2.out.mono sr)⟩
          case measure => simp [intOf]; omega
    · go_wp2_with fail
      go_ret
      exact ⟨by have hh := HA.out; rw [show p = R.toNat from by omega] at hh; rw [hh]; rfl, B0.out.trans (HB.out.mono (Nat.le_of_lt z0))⟩
end Go.Proofs.Yteghidjbcpmfbaa
namespace Go.Proofs.Yteghidjbcpmfbaa
open Go.RowKit

/-- The squares' numbers when k cells are laid. -/
def numF (l : List Cl) : Nat → Nat → Nat
  | 0 => fun _ => 0
  | k + 1 => giveF (numF l k) (l.getD k cl0).1.toNat (l.getD k cl0).2.1.toNat (l.getD k cl0).2.2.1.toNat (l.getD k cl0).2.2.2.1.toNat (k + 1)
def wiB (R C : Int) (x : Cl) : Bool := withB x.1 x.2.1 x.2.2.1 x.2.2.2.1 R C
def frB (f : Nat → Nat) (x : Cl) : Bool := freeB f x.1.toNat x.2.1.toNat x.2.2.1.toNat x.2.2.2.1.toNat
/-- The cell k may be laid. -/
def stepB (R C : Int) (l : List Cl) (k : Nat) : Bool := wiB R C (l.getD k cl0) && frB (numF l k) (l.getD k cl0) && textB (l.getD k cl0).2.2.2.2
def gridP (R C : Int) (l : List Cl) : Prop := (1 ≤ R ∧ R ≤ 5) ∧ (1 ≤ C ∧ C ≤ 5) ∧ (∀ k, k < l.length → stepB R C l k = true) ∧ Tiles R.toNat C.toNat (numF l l.length)

theorem numF_le (l : List Cl) : ∀ k s, numF l k s ≤ k
  | 0, s => Nat.le_refl _
  | k + 1, s => by
    show giveF _ _ _ _ _ _ s ≤ _
    unfold giveF
    split
    · exact Nat.le_refl _
    · exact Nat.le_succ_of_le (numF_le l k s)
theorem wiB_of {R C : Int} {x : Cl} (h : wiB R C x = true) : (0 ≤ x.1 ∧ 0 ≤ x.2.1 ∧ 1 ≤ x.2.2.1 ∧ 1 ≤ x.2.2.2.1) ∧ x.1 + x.2.2.1 ≤ R ∧ x.2.1 + x.2.2.2.1 ≤ C := by
  simp only [wiB, withB, spanB, Bool.and_eq_true, decide_eq_true_eq] at h
  omega
theorem stepB_of {R C : Int} {l : List Cl} {k : Nat} (h : stepB R C l k = true) : wiB R C (l.getD k cl0) = true ∧ frB (numF l k) (l.getD k cl0) = true ∧ textB (l.getD k cl0).2.2.2.2 = true := by
  simp only [stepB, Bool.and_eq_true] at h
  exact ⟨h.1.1, h.1.2, h.2⟩
theorem stepB_mk {R C : Int} {l : List Cl} {k r c d g : Nat} {tx : List Sg} (hx : ((r : Int), (c : Int), (d : Int), (g : Int), tx) = l.getD k cl0) (q0 : withB r c d g R C = true) (q1 : freeB (numF l k) r c d g = true) (q2 : textB tx = true) : stepB R C l k = true := by
  simp only [stepB, wiB, frB, ← hx, Int.toNat_natCast, q0, q1, q2, Bool.and_self]
theorem stepB_0 {R C : Int} {l : List Cl} {k : Nat} {r c d g : Int} {tx : List Sg} (hx : (r, c, d, g, tx) = l.getD k cl0) (q0 : withB r c d g R C = false) : stepB R C l k = false := by
  simp only [stepB, wiB, ← hx, q0, Bool.false_and]
theorem stepB_1 {R C : Int} {l : List Cl} {k r c d g : Nat} {tx : List Sg} (hx : ((r : Int), (c : Int), (d : Int), (g : Int), tx) = l.getD k cl0) (q1 : freeB (numF l k) r c d g = false) : stepB R C l k = false := by
  simp only [stepB, frB, ← hx, Int.toNat_natCast, q1, Bool.false_and, Bool.and_false]
theorem stepB_2 {R C : Int} {l : List Cl} {k : Nat} {r c d g : Int} {tx : List Sg} (hx : (r, c, d, g, tx) = l.getD k cl0) (q2 : textB tx = false) : stepB R C l k = false := by
  simp only [stepB, ← hx, q2, Bool.and_false]
theorem inB_nat {x : Cl} {a b : Nat} (h : 0 ≤ x.1 ∧ 0 ≤ x.2.1 ∧ 1 ≤ x.2.2.1 ∧ 1 ≤ x.2.2.2.1) : inB x a b = true ↔ inR x.1.toNat x.2.1.toNat x.2.2.1.toNat x.2.2.2.1.toNat a b := by
  simp only [inB, decide_eq_true_eq, inR]
  omega
/-- What the numbers say. -/
theorem numF_pos (l : List Cl) (R C : Int) : ∀ K, (∀ i, i < K → wiB R C (l.getD i cl0) = true) → ∀ a b m, b < 5 → numF l K (a * 5 + b) = m + 1 → m < K ∧ inB (l.getD m cl0) a b = true
  | 0, _, a, b, m, _, h => by simp [numF] at h
  | K + 1, hw, a, b, m, hb, h => by
    have h' : giveF (numF l K) (l.getD K cl0).1.toNat (l.getD K cl0).2.1.toNat (l.getD K cl0).2.2.1.toNat (l.getD K cl0).2.2.2.1.toNat (K + 1) (a * 5 + b) = m + 1 := h
    unfold giveF at h'
    rw [show (a * 5 + b) / 5 = a from by omega, show (a * 5 + b) % 5 = b from by omega] at h'
    split at h'
    · rename_i hh
      obtain rfl : K = m := by omega
      exact ⟨by omega, (inB_nat (wiB_of (hw K (by omega))).1).2 hh⟩
    · obtain ⟨h1, h2⟩ := numF_pos l R C K (fun i hi => hw i (by omega)) a b m hb h'
      exact ⟨by omega, h2⟩
theorem numF_zero (l : List Cl) (R C : Int) : ∀ K, (∀ i, i < K → wiB R C (l.getD i cl0) = true) → ∀ a b, b < 5 → numF l K (a * 5 + b) = 0 → ∀ i, i < K → inB (l.getD i cl0) a b = false
  | 0, _, a, b, _, h => by intro i hi; omega
  | K + 1, hw, a, b, hb, h => by
    have h' : giveF (numF l K) (l.getD K cl0).1.toNat (l.getD K cl0).2.1.toNat (l.getD K cl0).2.2.1.toNat (l.getD K cl0).2.2.2.1.toNat (K + 1) (a * 5 + b) = 0 := h
    unfold giveF at h'
    rw [show (a * 5 + b) / 5 = a from by omega, show (a * 5 + b) % 5 = b from by omega] at h'
    split at h'
    · omega
    · rename_i hh
      intro i hi
      by_cases hiK : i = K
      · subst hiK
        rw [← Bool.not_eq_true, inB_nat (wiB_of (hw i (by omega))).1]
        exact hh
      · exact numF_zero l R C K (fun i hi => hw i (by omega)) a b hb h' i (by omega)
/-- No square is of two cells. -/
theorem step_apart {R C : Int} {l : List Cl} {K : Nat} (hC : C ≤ 5) (hs : ∀ i, i < K → stepB R C l i = true) {i k : Nat} (hik : i < k) (hk : k < K) (a b : Nat) (h1 : inB (l.getD i cl0) a b = true) (h2 : inB (l.getD k cl0) a b = true) : False := by
  obtain ⟨w1, w2, _⟩ := stepB_of (hs k hk)
  obtain ⟨w3, w4, w5⟩ := wiB_of w1
  have hz := (freeB_iff.1 w2) a b ((inB_nat w3).1 h2)
  have hb : b < 5 := by
    have := (inB_nat w3).1 h2
    unfold inR at this
    omega
  have := numF_zero l R C k (fun j hj => (stepB_of (hs j (by omega))).1) a b hb hz i hik
  rw [this] at h1
  exact absurd h1 (by simp)
/-- A square that is of a cell has its number. -/
theorem numF_of {R C : Int} {l : List Cl} {K : Nat} (hC : C ≤ 5) (hs : ∀ i, i < K → stepB R C l i = true) {i : Nat} (hi : i < K) (a b : Nat) (h : inB (l.getD i cl0) a b = true) : numF l K (a * 5 + b) = i + 1 := by
  have hw : ∀ i, i < K → wiB R C (l.getD i cl0) = true := fun j hj => (stepB_of (hs j hj)).1
  have hb : b < 5 := by
    have := (inB_nat (wiB_of (hw i hi)).1).1 h
    have := (wiB_of (hw i hi))
    unfold inR at *
    omega
  cases hm : numF l K (a * 5 + b) with
  | zero =>
    have := numF_zero l R C K hw a b hb hm i hi
    rw [this] at h
    exact absurd h (by simp)
  | succ m =>
    obtain ⟨h1, h2⟩ := numF_pos l R C K hw a b m hb hm
    rcases Nat.lt_trichotomy m i with h3 | h3 | h3
    · exact (step_apart hC hs h3 hi a b h2 h).elim
    · rw [h3]
    · exact (step_apart hC hs h3 h1 a b h h2).elim
theorem inB_start {R C : Int} {x : Cl} (h : wiB R C x = true) : inB x (x.1.toNat : Nat) (x.2.1.toNat : Nat) = true := by
  have := wiB_of h
  simp only [inB, decide_eq_true_eq]
  omega
/-- Just so many numbers as squares. -/
theorem pigeon (f : Nat → Nat) : ∀ (N : Nat) (L : List Nat), L.Nodup → (∀ x ∈ L, ∃ s, s < N ∧ f s = x) → L.length ≤ N
  | 0, L, _, h => by
    cases L with
    | nil => exact Nat.le_refl _
    | cons x L =>
      obtain ⟨s, hs, _⟩ := h x (by simp)
      omega
  | N + 1, L, hn, h => by
    have := pigeon f N (L.erase (f N)) (hn.erase _) (fun x hx => by
      have hx1 := List.mem_of_mem_erase hx
      obtain ⟨s, hs, e⟩ := h x hx1
      refine ⟨s, ?_, e⟩
      rcases Nat.lt_or_ge s N with h1 | h1
      · exact h1
      · obtain rfl : s = N := by omega
        rw [← e] at hx
        exact absurd hx (hn.not_mem_erase))
    rw [List.length_erase] at this
    split at this <;> omega
theorem step_le {R C : Int} {l : List Cl} {K : Nat} (hR : R ≤ 5) (hC : C ≤ 5) (hs : ∀ i, i < K → stepB R C l i = true) : K ≤ 25 := by
  have := pigeon (fun s => numF l K s) 25 ((List.range K).map (· + 1)) (by
    rw [List.nodup_iff_pairwise_ne, List.pairwise_map]
    exact List.nodup_range.imp (fun h => by omega)) (by
    intro x hx
    obtain ⟨i, hi, rfl⟩ := List.mem_map.1 hx
    have hi' : i < K := by simpa using hi
    have w := (stepB_of (hs i hi')).1
    have hh := wiB_of w
    exact ⟨(l.getD i cl0).1.toNat * 5 + (l.getD i cl0).2.1.toNat, by omega, numF_of hC hs hi' _ _ (inB_start w)⟩)
  simpa using this
end Go.Proofs.Yteghidjbcpmfbaa
namespace Go.Proofs.Yteghidjbcpmfbaa
open Go.RowKit

theorem countP_two {α : Type} (p : α → Bool) (l : List α) (i j : Nat) (hij : i < j) (hj : j < l.length) (h1 : p (l[i]'(by omega)) = true) (h2 : p l[j] = true) : 2 ≤ l.countP p := by
  have e : l = l.take (i + 1) ++ l.drop (i + 1) := (List.take_append_drop _ _).symm
  rw [e, List.countP_append]
  have c1 : 0 < (l.take (i + 1)).countP p := List.countP_pos_iff.2 ⟨l[i], by
    rw [List.mem_take_iff_getElem]
    exact ⟨i, by omega, rfl⟩, h1⟩
  have c2 : 0 < (l.drop (i + 1)).countP p := List.countP_pos_iff.2 ⟨l[j], by
    rw [List.mem_drop_iff_getElem]
    exact ⟨j - (i + 1), by omega, by congr 1; omega⟩, h2⟩
  omega
theorem getD_get {l : List Cl} {k : Nat} (hk : k < l.length) : l.getD k cl0 = l[k] := by simp [List.getD, hk]
theorem countP_one {α : Type} (p : α → Bool) (l : List α) (k : Nat) (hk : k < l.length) (h : p l[k] = true) (hu : ∀ i (hi : i < l.length), p l[i] = true → i = k) : l.countP p = 1 := by
  have h1 : 0 < l.countP p := List.countP_pos_iff.2 ⟨l[k], List.getElem_mem hk, h⟩
  induction l generalizing k with
  | nil => simp at hk
  | cons x l ih =>
    cases k with
    | zero =>
      have hx : p x = true := h
      rw [List.countP_cons_of_pos hx]
      have : l.countP p = 0 := List.countP_eq_zero.2 (by
        intro y hy hpy
        obtain ⟨i, hi, rfl⟩ := List.getElem_of_mem hy
        have := hu (i + 1) (by simpa using hi) (by simpa using hpy)
        omega)
      omega
    | succ k =>
      have hx : ¬ p x = true := fun hx => by
        have := hu 0 (by simp) hx
        omega
      rw [List.countP_cons_of_neg hx]
      have hk' : k < l.length := by simpa using hk
      refine ih k hk' h (fun i hi hp => ?_) (List.countP_pos_iff.2 ⟨l[k], List.getElem_mem hk', h⟩)
      have := hu (i + 1) (by simpa using hi) (by simpa using hp)
      omega
theorem ahead_of {x y : Cl} (h : ahead x y = true) : x.1 < y.1 ∨ x.1 = y.1 ∧ x.2.1 < y.2.1 := of_decide_eq_true h
theorem ahead_far {R C : Int} {l : List Cl} (h : ∀ k, k < l.length → atB R C l k = true) : ∀ (k i : Nat), k < l.length → i < k → ahead (l.getD i cl0) (l.getD k cl0) = true
  | 0, i, _, hi => by omega
  | k + 1, i, hk, hi => by
    have h1 : ahead (l.getD k cl0) (l.getD (k + 1) cl0) = true := by
      have := h (k + 1) hk
      simp only [atB, Bool.and_eq_true, Bool.or_eq_true, decide_eq_true_eq] at this
      rcases this.2 with h2 | h2
      · omega
      · exact h2
    by_cases hik : i = k
    · subst hik
      exact h1
    · have h2 := ahead_of (ahead_far h k i (by omega) (by omega))
      have h3 := ahead_of h1
      exact decide_eq_true (by omega)

theorem okB_of_gridP {R C : Int} {l : List Cl} (h : gridP R C l) : okB R C l = true := by
  obtain ⟨hR, hC, hs, ht⟩ := h
  have hw : ∀ i, i < l.length → wiB R C (l.getD i cl0) = true := fun j hj => (stepB_of (hs j hj)).1
  have hform : formB R C l = true := by
    have hlen := step_le hR.2 hC.2 hs
    simp only [formB, Bool.and_eq_true, decide_eq_true_eq, List.all_eq_true, List.mem_range]
    refine ⟨⟨⟨hR, hC⟩, hlen⟩, ?_⟩
    intro k hk
    obtain ⟨w1, _, w3⟩ := stepB_of (hs k hk)
    have w4 := wiB_of w1
    simp only [atB, Bool.and_eq_true, Bool.or_eq_true, cellB, decide_eq_true_eq]
    refine ⟨⟨⟨⟨⟨by omega, by omega⟩, by omega, by omega⟩, by omega, by omega⟩, w3⟩, ?_⟩
    by_cases hk0 : k = 0
    · exact .inl hk0
    · right
      have e := numF_of hC.2 hs hk _ _ (inB_start w1)
      obtain ⟨_, t2⟩ := ht (l.getD k cl0).1.toNat (l.getD k cl0).2.1.toNat (by unfold vis; omega)
      obtain ⟨a, b, h3, h4⟩ := t2 k (by omega) (by omega)
      have hb : b < 5 := by unfold vis at h3; omega
      obtain ⟨_, h5⟩ := numF_pos l R C l.length hw a b (k - 1) hb (by omega)
      simp only [inB, decide_eq_true_eq] at h5
      refine decide_eq_true ?_
      unfold vis at h3
      omega
  simp only [okB, hform, Bool.true_and, List.all_eq_true, List.mem_range, colB, decide_eq_true_eq]
  intro a ha b hb
  obtain ⟨t1, _⟩ := ht a b (by unfold vis; omega)
  obtain ⟨h1, h2⟩ := numF_pos l R C l.length hw a b (numF l l.length (a * 5 + b) - 1) (by omega) (by omega)
  generalize numF l l.length (a * 5 + b) - 1 = m at h1 h2
  unfold cnt
  rw [getD_get h1] at h2
  refine countP_one _ l m h1 h2 ?_
  intro i hi hp
  rw [← getD_get hi] at hp
  rw [← getD_get h1] at h2
  rcases Nat.lt_trichotomy i m with h3 | h3 | h3
  · exact (step_apart hC.2 hs h3 h1 a b hp h2).elim
  · exact h3
  · exact (step_apart hC.2 hs h3 hi a b h2 hp).elim
theorem okB_cnt {R C : Int} {l : List Cl} (h : okB R C l = true) (a b : Nat) (ha : (a : Int) < R) (hb : (b : Int) < C) : cnt l a b = 1 := by
  simp only [okB, Bool.and_eq_true, List.all_eq_true, List.mem_range, colB, decide_eq_true_eq] at h
  exact h.2 a (by omega) b (by omega)
theorem okB_apart {R C : Int} {l : List Cl} (h : okB R C l = true) (a b : Nat) (ha : (a : Int) < R) (hb : (b : Int) < C) {i k : Nat} (hik : i < k) (hk : k < l.length) (h1 : inB (l.getD i cl0) a b = true) (h2 : inB (l.getD k cl0) a b = true) : False := by
  have := okB_cnt h a b ha hb
  rw [getD_get (by omega)] at h1
  rw [getD_get hk] at h2
  have c := countP_two (fun x => inB x a b) l i k hik hk h1 h2
  unfold cnt at this
  omega
theorem gridP_of_okB {R C : Int} {l : List Cl} (h : okB R C l = true) : gridP R C l := by
  have hf : formB R C l = true := by
    simp only [okB, Bool.and_eq_true] at h
    exact h.1
  obtain ⟨hR, hC, hlen, hat⟩ := formB_of hf
  have hw : ∀ i, i < l.length → wiB R C (l.getD i cl0) = true := by
    intro i hi
    have := cellB_of (atB_cell (hat i hi))
    simp only [wiB, withB, spanB, Bool.and_eq_true, decide_eq_true_eq]
    omega
  have hs : ∀ k, k < l.length → stepB R C l k = true := by
    intro k hk
    have w := hw k hk
    obtain ⟨w1, w2, w3⟩ := wiB_of w
    simp only [stepB, Bool.and_eq_true]
    refine ⟨⟨w, ?_⟩, (cellB_of (atB_cell (hat k hk))).2.2.2.2⟩
    refine freeB_iff.2 ?_
    intro a b hab
    have hb : b < 5 := by unfold inR at hab; omega
    have ha' : (a : Int) < R := by unfold inR at hab; omega
    have hb' : (b : Int) < C := by unfold inR at hab; omega
    cases hm : numF l k (a * 5 + b) with
    | zero => rfl
    | succ m =>
      obtain ⟨h1, h2⟩ := numF_pos l R C k (fun i hi => hw i (by omega)) a b m hb hm
      exact (okB_apart h a b ha' hb' h1 hk h2 ((inB_nat w1).2 hab)).elim
  refine ⟨hR, hC, hs, ?_⟩
  intro a b hv
  have ha' : (a : Int) < R := by unfold vis at hv; omega
  have hb' : (b : Int) < C := by unfold vis at hv; omega
  have hb : b < 5 := by omega
  constructor
  · have hc := okB_cnt h a b ha' hb'
    rcases Nat.eq_zero_or_pos (numF l l.length (a * 5 + b)) with h0 | h0
    · have hz := numF_zero l R C l.length hw a b hb h0
      have : cnt l a b = 0 := List.countP_eq_zero.2 (by
        intro x hx hp
        obtain ⟨i, hi, rfl⟩ := List.getElem_of_mem hx
        have := hz i hi
        rw [getD_get hi] at this
        rw [this] at hp
        exact absurd hp (by simp))
      omega
    · exact h0
  · intro k k1 k2
    obtain ⟨h1, h2⟩ := numF_pos l R C l.length hw a b (numF l l.length (a * 5 + b) - 1) hb (by omega)
    have hk : k - 1 < numF l l.length (a * 5 + b) - 1 := by omega
    generalize numF l l.length (a * 5 + b) - 1 = m at h1 h2 hk
    have h3 := ahead_of (ahead_far hat m (k - 1) h1 hk)
    have w := hw (k - 1) (by omega)
    have w' := wiB_of w
    refine ⟨(l.getD (k - 1) cl0).1.toNat, (l.getD (k - 1) cl0).2.1.toNat, ?_, ?_⟩
    · simp only [inB, decide_eq_true_eq] at h2
      unfold vis
      omega
    · rw [numF_of hC.2 hs (show k - 1 < l.length by omega) _ _ (inB_start w)]
      omega
theorem gridP_iff {R C : Int} {l : List Cl} : gridP R C l ↔ okB R C l = true := ⟨okB_of_gridP, gridP_of_okB⟩
end Go.Proofs.Yteghidjbcpmfbaa
namespace Go.Proofs.Yteghidjbcpmfbaa
open Go.RowKit

/-- What a call gives that answers a table and whether there is one. -/
def FRes (ok : Bool) (X Y : Int) (L : List Cl) (B : Nat) (x y : Int) (a : Option Addr) (n c : Nat) (l' : List Cl) (g : Bool) (w' : World) : Prop := (∃ rs, OwnT w' B (.slice a n c) rs l') ∧ x = (if ok then X else 0) ∧ y = (if ok then Y else 0) ∧ l' = (if ok then L else []) ∧ g = ok
theorem fRes_of {ok : Bool} {X Y : Int} {L : List Cl} {w w' : World} {z : Ending} (h : TabRes w.heap.size ok X Y L z w' ∧ Below w.heap.size w w') :
    (∃ x y a n c l' g, z = .returned (.tuple #[.agg #[.int .i64 x, .int .i64 y, .slice a n c], .bool g]) ∧ FRes ok X Y L w.heap.size x y a n c l' g w') ∧ Below w.heap.size w w' := by
  obtain ⟨h1 | h1, hb⟩ := h
  · obtain ⟨h2, rfl⟩ := h1
    refine ⟨⟨0, 0, none, 0, 0, [], false, rfl, ⟨[], OwnR.nil _ _, TxtOwn.nil _ _ _⟩, ?_, ?_, ?_, ?_⟩, hb⟩ <;> simp [h2]
  · obtain ⟨h2, a, c, rs, rfl, ho⟩ := h1
    refine ⟨⟨X, Y, a, _, c, _, true, rfl, ⟨rs, ho⟩, ?_, ?_, ?_, ?_⟩, hb⟩ <;> simp [h2]
theorem totT_le24 : ∀ L : List Cl, (∀ x ∈ L, x.2.2.2.2.length ≤ 24) → totT L ≤ 24 * L.length
  | [], _ => by simp [totT]
  | x :: L, h => by
    have h1 := totT_le24 L (fun y hy => h y (List.mem_cons_of_mem _ hy))
    have h2 := h x (List.mem_cons_self ..)
    unfold totT at h1 ⊢
    simp only [List.map_cons, List.sum_cons, List.length_cons]
    omega
theorem fRes_small {ok : Bool} {X Y : Int} {L : List Cl} {B : Nat} {x y : Int} {a : Option Addr} {n c : Nat} {l' : List Cl} {g : Bool} {w : World} (h : FRes ok X Y L B x y a n c l' g w) (hs : ok = true → L.length ≤ 50 ∧ ∀ x ∈ L, x.2.2.2.2.length ≤ 24) : l'.length ≤ 50 ∧ totT l' ≤ 1200 := by
  obtain ⟨_, _, _, rfl, _⟩ := h
  cases ok
  · simp [totT]
  · obtain ⟨h1, h2⟩ := hs rfl
    have := totT_le24 L h2
    simp only [if_true]
    omega
/-- The texts of a table that is ok are short, and its cells few. -/
theorem ok_small {R C : Int} {l : List Cl} (h : okB R C l = true) : l.length ≤ 25 ∧ ∀ x ∈ l, x.2.2.2.2.length ≤ 24 := by
  have hf : formB R C l = true := by
    simp only [okB, Bool.and_eq_true] at h
    exact h.1
  obtain ⟨_, _, hl, hat⟩ := formB_of hf
  refine ⟨hl, fun x hx => ?_⟩
  obtain ⟨k, hk, e⟩ := List.getElem_of_mem hx
  have := (cellB_of (atB_cell (hat k hk))).2.2.2.2
  rw [show l.getD k cl0 = x by rw [← e]; simp [List.getD, hk]] at this
  simp only [textB, Bool.and_eq_true, decide_eq_true_eq] at this
  exact this.1
end Go.Proofs.Yteghidjbcpmfbaa
namespace Go.Proofs.Yteghidjbcpmfbaa
open Go.RowKit

theorem built_0 : Try.prog.built 51 [] = some (gridA 0 0 0 (fun _ => 0) (fun _ => sl0)) := by kernel_rfl
set_option maxRecDepth 100000 in
theorem built_2 (R C : Int) : Try.prog.built 51 [(0, .int .i64 R), (1, .int .i64 C)] = some (gridA R C 0 (fun _ => 0) (fun _ => sl0)) := by rfl
theorem wpList_grid0 {ops : Array Oper} {rest : List Oper} {o : Oper} {a : Act} {w : World} {Q : Exit → Act → World → Prop} (hg : o.guard = none) (ho : o.op = .build 51 #[])
    (h : wpList Try.prog ops Q rest (a.put o.dst (.agg (gridA 0 0 0 (fun _ => 0) (fun _ => sl0)))) w) : wpList Try.prog ops Q (o :: rest) a w := by
  have e : ((#[] : Array (Nat × Operand)).map fun (i, x) => (i, a.eval x)).toList = [] := by simp
  exact wpList_build hg 51 _ ho (by rw [e, built_0]; rfl) (by rw [e, built_0]; exact h)
theorem wpList_grid2 {ops : Array Oper} {rest : List Oper} {o : Oper} {a : Act} {w : World} {Q : Exit → Act → World → Prop} (hg : o.guard = none) (x y : Operand) (ho : o.op = .build 51 #[(0, x), (1, y)]) (R C : Int) (hx : a.eval x = .int .i64 R) (hy : a.eval y = .int .i64 C)
    (h : wpList Try.prog ops Q rest (a.put o.dst (.agg (gridA R C 0 (fun _ => 0) (fun _ => sl0)))) w) : wpList Try.prog ops Q (o :: rest) a w := by
  have e : ((#[(0, x), (1, y)] : Array (Nat × Operand)).map fun (i, x) => (i, a.eval x)).toList = [(0, .int .i64 R), (1, .int .i64 C)] := by simp [hx, hy]
  exact wpList_build hg 51 _ ho (by rw [e, built_2]; rfl) (by rw [e, built_2]; exact h)
theorem run_gridOf {w : World} {g : Nat} {R C : Int} {n : Nat} {f : Nat → Nat} {t : Nat → Sl} (h : GridAt w g R C n f t) : (loadVar 51 ⟨g, 0, none⟩).run Try.prog w = .ok (.agg (gridA R C n f t)) w :=
  run_loadVar_row w g 51 51 (gridA R C n f t) (0, 0) _ h Try.underlying51 rfl (grid_infoA _ _ _ _ _)
theorem implTextOk_isG {a : Option Addr} {n cap : Nat} {l : List Sg} {w : World} {x : Bool} (h : Txt w a n cap l) (hx : textB l = x) :
    Calls Try.prog 49 #[.slice a n cap] w fun e w' => e = .returned (.bool x) ∧ Below w.heap.size w w' := hx ▸ implTextOk_any a n cap l w h

theorem okB_no {R C : Int} {l : List Cl} (h : ¬ gridP R C l) : okB R C l = false := by
  rw [← Bool.not_eq_true, ← gridP_iff]
  exact h
/-- What gridOf gives. -/
def GridRes (R C : Int) (l : List Cl) (x : Bool) (z : Ending) (w' : World) : Prop :=
  (x = false ∧ z = .returned (.tuple #[.agg (gridA 0 0 0 (fun _ => 0) (fun _ => sl0)), .bool false])) ∨
  (x = true ∧ ∃ t : Nat → Sl, z = .returned (.tuple #[.agg (gridA R C l.length (numF l l.length) t), .bool true]) ∧ ∀ i, i < l.length → Txt w' (t (i + 1)).1 (t (i + 1)).2.1 (t (i + 1)).2.2 (l.getD i cl0).2.2.2.2)

set_option maxRecDepth 100000 in
set_option maxHeartbeats 4000000 in
theorem gridOf_is {R C : Int} {a : Option Addr} {n cap : Nat} {l : List Cl} {w : World} {x : Bool} (hx : okB R C l = x) (h : Tab w a n cap l) :
    Calls Try.prog 32 #[.agg #[.int .i64 R, .int .i64 C, .slice a n cap]] w fun z w' => GridRes R C l x z w' ∧ Below w.heap.size w w' := by
  have HX : Hid (okB R C l = x) := hx
  have H : Hid (Tab w a n cap l) := h
  obtain ⟨rfl, hc, hm, hl⟩ := h
  clear hx hl
  unfold maxLen at hm
  go_enter Try.func32, Try.ntmps32
  go_upto_region 1 with fail
  rw [← grid_zero]
  have B0 : Below w.heap.size w ((w.alloc (.cells #[.int .i64 R, .int .i64 C, .slice a l.length cap] 28)).alloc (.cells (gridA 0 0 0 (fun _ => 0) (fun _ => sl0)) 51)) := (((Below.refl _ _).alloc (Nat.le_refl _) _).alloc (by simp) _)
  have G1 : GridAt ((w.alloc (.cells #[.int .i64 R, .int .i64 C, .slice a l.length cap] 28)).alloc (.cells (gridA 0 0 0 (fun _ => 0) (fun _ => sl0)) 51)) (w.heap.size + 1) 0 0 0 (fun _ => 0) (fun _ => sl0) := by
    have := gridAt_new (w.alloc (.cells #[.int .i64 R, .int .i64 C, .slice a l.length cap] 28)) 0 0 0 (fun _ => 0) (fun _ => sl0)
    simpa using this
  have G2 : RowAt ((w.alloc (.cells #[.int .i64 R, .int .i64 C, .slice a l.length cap] 28)).alloc (.cells (gridA 0 0 0 (fun _ => 0) (fun _ => sl0)) 51)) w.heap.size #[.int .i64 R, .int .i64 C, .slice a l.length cap] 28 := (rowAt_new w _ _).alloc _
  generalize ((w.alloc (.cells #[.int .i64 R, .int .i64 C, .slice a l.length cap] 28)).alloc (.cells (gridA 0 0 0 (fun _ => 0) (fun _ => sl0)) 51)) = v0 at B0 G1 G2 ⊢
  have k0 : v0.cell? ⟨w.heap.size, 0, none⟩ = some (.int .i64 R) := G2.cell 0
  have k1 : v0.cell? ⟨w.heap.size, 1, none⟩ = some (.int .i64 C) := G2.cell 1
  have k2 : v0.cell? ⟨w.heap.size, 2, none⟩ = some (.slice a l.length cap) := G2.cell 2
  have HZ : Hid (GridAt v0 (w.heap.size + 1) 0 0 0 (fun _ => 0) (fun _ => sl0)) := G1
  clear G1
  cases s0 : sizeB R
  · have S0 : Hid (sizeB R = false) := s0
    clear s0
    go_upto_region 2 with (go_at_call 33; refine (sizeOk_is S0.out _).mono ?_; rintro e w1 ⟨rfl, hw1⟩; subst w1)
    go_wp2_with (first | (refine wpList_grid0 rfl rfl ?_) | (refine wpList_store_row rfl 51 (.tmp 2) (.tmp 18) rfl (w.heap.size + 1) (gridA 0 0 0 (fun _ => 0) (fun _ => sl0)) rfl rfl 51 _ HZ.out (grid_infoA _ _ _ _ _) (by rw [gridA_size]) (gridA_one _ _ _ _ _) ?_))
    refine bodyPost_ret (v := .tuple #[.agg (gridA 0 0 0 (fun _ => 0) (fun _ => sl0)), .bool false]) ?_ rfl ⟨.inl ⟨?_, rfl⟩, ?_⟩
    · rw [results_cell_tmp rfl]
      simp [asAddr, Result.andThen, run_gridOf (RowAt.setRow HZ.out (gridA 0 0 0 (fun _ => 0) (fun _ => sl0)))]
    · rw [← HX.out]
      exact okB_no (fun hp => by have := S0.out; simp [sizeB] at this; have := hp.1; omega)
    · exact below_row B0 (by omega) _
  cases s1 : sizeB C
  · have S0 : Hid (sizeB R = true) := s0
    have S1 : Hid (sizeB C = false) := s1
    clear s0 s1
    go_upto_region 2 with (first | (go_at_call_of 33 (Value.int IntKind.i64 R); refine (sizeOk_is S0.out _).mono ?_; rintro e w1 ⟨rfl, hw1⟩; subst w1) | (go_at_call_of 33 (Value.int IntKind.i64 C); refine (sizeOk_is S1.out _).mono ?_; rintro e w1 ⟨rfl, hw1⟩; subst w1))
    go_wp2_with (first | (refine wpList_grid0 rfl rfl ?_) | (refine wpList_store_row rfl 51 (.tmp 2) (.tmp 18) rfl (w.heap.size + 1) (gridA 0 0 0 (fun _ => 0) (fun _ => sl0)) rfl rfl 51 _ HZ.out (grid_infoA _ _ _ _ _) (by rw [gridA_size]) (gridA_one _ _ _ _ _) ?_))
    refine bodyPost_ret (v := .tuple #[.agg (gridA 0 0 0 (fun _ => 0) (fun _ => sl0)), .bool false]) ?_ rfl ⟨.inl ⟨?_, rfl⟩, ?_⟩
    · rw [results_cell_tmp rfl]
      simp [asAddr, Result.andThen, run_gridOf (RowAt.setRow HZ.out (gridA 0 0 0 (fun _ => 0) (fun _ => sl0)))]
    · rw [← HX.out]
      exact okB_no (fun hp => by have := S1.out; simp [sizeB] at this; have := hp.2.1; omega)
    · exact below_row B0 (by omega) _
  have hR : 1 ≤ R ∧ R ≤ 5 := of_decide_eq_true s0
  have hC : 1 ≤ C ∧ C ≤ 5 := of_decide_eq_true s1
  have S0 : Hid (sizeB R = true) := s0
  have S1 : Hid (sizeB C = true) := s1
  clear s0 s1
  obtain ⟨R, rfl⟩ : ∃ R' : Nat, R = R' := ⟨R.toNat, by omega⟩
  obtain ⟨C, rfl⟩ : ∃ C' : Nat, C = C' := ⟨C.toNat, by omega⟩
  go_upto_region 3 with (first | (go_at_call_of 33 (Value.int IntKind.i64 R); refine (sizeOk_is S0.out _).mono ?_; rintro e w1 ⟨rfl, hw1⟩; subst w1) | (go_at_call_of 33 (Value.int IntKind.i64 C); refine (sizeOk_is S1.out _).mono ?_; rintro e w1 ⟨rfl, hw1⟩; subst w1))
  clear S0 S1
  go_upto_region 4 with (first | (refine wpList_grid2 rfl (.tmp 20) (.tmp 22) rfl R C rfl rfl ?_) | (rw [← grid_zero]; refine wpList_store_row rfl 51 (.tmp 4) (.tmp 23) rfl v0.heap.size (gridA R C 0 (fun _ => 0) (fun _ => sl0)) rfl rfl 51 _ (gridAt_new _ _ _ _ _ _) (grid_infoA _ _ _ _ _) (by rw [gridA_size, gridA_size]) (gridA_one _ _ _ _ _) ?_))
  have G4 : GridAt ((v0.alloc (.cells (gridA 0 0 0 (fun _ => 0) (fun _ => sl0)) 51)).setRow v0.heap.size (gridA R C 0 (fun _ => 0) (fun _ => sl0))) v0.heap.size R C 0 (fun _ => 0) (fun _ => sl0) := RowAt.setRow (gridAt_new _ _ _ _ _ _) _
  have B4 : Below v0.heap.size v0 ((v0.alloc (.cells (gridA 0 0 0 (fun _ => 0) (fun _ => sl0)) 51)).setRow v0.heap.size (gridA R C 0 (fun _ => 0) (fun _ => sl0))) := below_row ((Below.refl _ _).alloc (Nat.le_refl _) _) (Nat.le_refl _) _
  generalize ((v0.alloc (.cells (gridA 0 0 0 (fun _ => 0) (fun _ => sl0)) 51)).setRow v0.heap.size (gridA R C 0 (fun _ => 0) (fun _ => sl0))) = v1 at G4 B4 ⊢
  have bt : w.heap.size < v0.heap.size := G2.lt
  have bz : w.heap.size + 1 < v0.heap.size := HZ.out.lt
  have j2 := (B4.cell (p := ⟨w.heap.size, 2, none⟩) bt).trans k2
  clear k0 k1 k2 G2
  go_wp2_with fail
  go_loopw [27] (fun i wr => ∃ (k : Nat) (t : Nat → Sl), k ≤ l.length ∧ i = .int .i64 k ∧ (∀ j, j < k → stepB R C l j = true) ∧ GridAt wr v0.heap.size R C k (numF l k) t ∧ (∀ j, j < k → Txt w (t (j + 1)).1 (t (j + 1)).2.1 (t (j + 1)).2.2 (l.getD j cl0).2.2.2.2) ∧ Below v0.heap.size v0 wr) (fun i _ => l.length - (intOf i).toNat)
  case atStart => exact ⟨0, _, Nat.zero_le _, rfl, fun j hj => by omega, G4, fun j hj => by omega, B4⟩
  case round =>
    clear G4 B4 j2
    obtain ⟨k, t, hk, rfl, hst, hg, htx, hb⟩ := hrel
    have HS : Hid (∀ j, j < k → stepB R C l j = true) := hst
    have HT : Hid (∀ j, j < k → Txt w (t (j + 1)).1 (t (j + 1)).2.1 (t (j + 1)).2.2 (l.getD j cl0).2.2.2.2) := htx
    have HG : Hid (GridAt wr v0.heap.size R C k (numF l k) t) := hg
    have HZr : Hid (GridAt wr (w.heap.size + 1) 0 0 0 (fun _ => 0) (fun _ => sl0)) := HZ.out.below hb bz
    have HB : Hid (Below v0.heap.size v0 wr) := hb
    have HW : Hid (Below w.heap.size w wr) := B0.trans (hb.mono B0.size)
    have hk25 := step_le hR.2 hC.2 hst
    have szr : v0.heap.size < wr.heap.size := hg.lt
    have gr := hg.rows
    have gc := hg.cols
    clear hst htx hg hb
    by_cases hlt : k < l.length
    · rcases H.out.2.2.2 with e | ⟨b, off, rfl, hbw, hl⟩
      · rw [e] at hlt
        exact absurd hlt (by simp)
      obtain ⟨c0, c1, c2, c3, ta, tn, tc, c4, ht⟩ := (hl k hlt)
      have HTX : Hid (Txt w ta tn tc (l.getD k cl0).2.2.2.2) := ht
      obtain ⟨c0, c1, c2, c3, -⟩ : CellAt wr b (off + k * 5) (l.getD k cl0) := (hl k hlt).below HW.out hbw
      have c4 := (HW.out.cell (p := ⟨b, _, none⟩) hbw).trans c4
      clear ht hl
      obtain ⟨⟨r, c, d, g, tx⟩, hx⟩ : ∃ x, x = l.getD k cl0 := ⟨_, rfl⟩
      rw [← hx] at c0 c1 c2 c3 HTX
      simp only at c0 c1 c2 c3 HTX
      have HXX : Hid ((r, c, d, g, tx) = l.getD k cl0) := hx
      clear hx
      go_upto_region 8 with (go_at_call 51; refine (rectOf_any _ _ _ _ _ _ _ _).mono ?_; rintro e w1 ⟨rfl, hb1⟩)
      have bA : Below wr.heap.size wr (wr.alloc (Obj.cells #[.int .i64 r, .int .i64 c, .int .i64 d, .int .i64 g, .slice ta tn tc] 44)) := (Below.refl _ _).alloc (Nat.le_refl _) _
      have sA : wr.heap.size < w1.heap.size := by have := hb1.size; simp at this; omega
      have b3 : Below wr.heap.size wr (w1.alloc (.cells #[.int .i64 r, .int .i64 c, .int .i64 d, .int .i64 g] 63)) := (bA.trans (hb1.mono (by simp))).alloc (Nat.le_of_lt sA) _
      have C3 : RowAt (w1.alloc (.cells #[.int .i64 r, .int .i64 c, .int .i64 d, .int .i64 g] 63)) wr.heap.size #[.int .i64 r, .int .i64 c, .int .i64 d, .int .i64 g, .slice ta tn tc] 44 := ((rowAt_new wr _ _).below hb1 (by simp)).alloc _
      have Q3 : RectAt (w1.alloc (.cells #[.int .i64 r, .int .i64 c, .int .i64 d, .int .i64 g] 63)) w1.heap.size r c d g := rowAt_new _ _ _
      generalize (w1.alloc (.cells #[.int .i64 r, .int .i64 c, .int .i64 d, .int .i64 g] 63)) = w3 at b3 C3 Q3 ⊢
      have gr := (HG.out.below b3 szr).rows
      have gc := (HG.out.below b3 szr).cols
      have e0 := Q3.c0
      have e1 := Q3.c1
      have e2 := Q3.c2
      have e3 := Q3.c3
      have e4 : w3.cell? ⟨wr.heap.size, 4, none⟩ = some (.slice ta tn tc) := C3.cell 4
      have HG3 : Hid (GridAt w3 v0.heap.size R C k (numF l k) t) := HG.out.below b3 szr
      have HZ3 : Hid (GridAt w3 (w.heap.size + 1) 0 0 0 (fun _ => 0) (fun _ => sl0)) := HZr.out.below b3 (by omega)
      have HQ3 : Hid (RectAt w3 w1.heap.size r c d g) := Q3
      have HC3 : Hid (RowAt w3 wr.heap.size #[.int .i64 r, .int .i64 c, .int .i64 d, .int .i64 g, .slice ta tn tc] 44) := C3
      have HB3 : Hid (Below v0.heap.size v0 w3) := HB.out.trans (b3.mono (by omega))
      have HW3 : Hid (Below w.heap.size w w3) := HW.out.trans (b3.mono (by omega))
      have s3 := b3.size
      have s4 := RowAt.lt Q3
      have s5 := B0.size
      clear HG HZr HB HW b3 C3 Q3 bA hb1 c0 c1 c2 c3 c4
      cases q0 : withB r c d g R C
      · have Q0 : Hid (withB r c d g R C = false) := q0
        clear q0
        go_upto_region 9 with (first | (go_at_call 45; refine (within_is Q0.out hR hC _).mono ?_; rintro e w4 ⟨rfl, hb4⟩))
        go_wp2_with (first | (refine wpList_grid0 rfl rfl ?_) | (refine wpList_store_row rfl 51 (.tmp 2) (.tmp 52) rfl (w.heap.size + 1) (gridA 0 0 0 (fun _ => 0) (fun _ => sl0)) rfl rfl 51 _ (HZ3.out.below hb4 (by omega)) (grid_infoA _ _ _ _ _) (by rw [gridA_size]) (gridA_one _ _ _ _ _) ?_))
        refine bodyPost_ret (v := .tuple #[.agg (gridA 0 0 0 (fun _ => 0) (fun _ => sl0)), .bool false]) ?_ rfl ⟨.inl ⟨?_, rfl⟩, ?_⟩
        · rw [results_cell_tmp rfl]
          simp [asAddr, Result.andThen, run_gridOf (RowAt.setRow (HZ3.out.below hb4 (by omega)) (gridA 0 0 0 (fun _ => 0) (fun _ => sl0)))]
        · rw [← HX.out]
          exact okB_no (fun hp => by have := hp.2.2.1 k hlt; rw [stepB_0 HXX.out Q0.out] at this; exact absurd this (by simp))
        · exact below_row (HW3.out.trans (hb4.mono (by omega))) (by omega) _
      obtain ⟨wz, wz2, wz3⟩ := wiB_of (x := (r, c, d, g, tx)) q0
      simp only at wz wz2 wz3
      obtain ⟨r, rfl⟩ : ∃ r' : Nat, r = r' := ⟨r.toNat, by omega⟩
      obtain ⟨c, rfl⟩ : ∃ r' : Nat, c = r' := ⟨c.toNat, by omega⟩
      obtain ⟨d, rfl⟩ : ∃ r' : Nat, d = r' := ⟨d.toNat, by omega⟩
      obtain ⟨g, rfl⟩ : ∃ r' : Nat, g = r' := ⟨g.toNat, by omega⟩
      have hrd : r + d ≤ R := by omega
      have hcg : c + g ≤ C := by omega
      have hR5 : R ≤ 5 := by omega
      have hC5 : C ≤ 5 := by omega
      have hd0 : 0 < d := by omega
      have hg0 : 0 < g := by omega
      have Q0 : Hid (withB r c d g R C = true) := q0
      have HF : Hid (∀ s, numF l k s ≤ 25) := fun s => Nat.le_trans (numF_le l k s) hk25
      clear q0 wz wz2 wz3
      cases q1 : freeB (numF l k) r c d g
      · have Q1 : Hid (freeB (numF l k) r c d g = false) := q1
        clear q1
        go_upto_region 9 with (first | (go_at_call 45; refine (within_is Q0.out hR hC _).mono ?_; rintro e w4 ⟨rfl, hb4⟩; have GG : GridAt w4 v0.heap.size R C k (numF l k) t := HG3.out.below hb4 (by omega); have QQ : RectAt w4 w1.heap.size r c d g := RowAt.below HQ3.out hb4 s4; have f0 := QQ.c0; have f1 := QQ.c1; have f2 := QQ.c2; have f3 := QQ.c3; have b4 : Hid (Below w3.heap.size w3 w4) := hb4; clear QQ) | (refine wpList_load_rowG (by rfl) 51 (.tmp 4) rfl v0.heap.size rfl 51 (gridA R C k (numF l k) t) (0, 0) _ GG Try.underlying51 rfl (grid_infoA _ _ _ _ _) ?_) | (go_at_call 55; refine (isFree_is Q1.out hR5 hC5 hrd hcg hd0 hg0 HF.out).mono ?_; rintro e w5 ⟨rfl, hb5⟩; have b5 : Hid (Below w3.heap.size w3 w5) := b4.out.trans (hb5.mono b4.out.size); have f4 : w5.cell? ⟨wr.heap.size, 4, none⟩ = some (.slice ta tn tc) := (RowAt.below HC3.out b5.out (by omega)).cell 4))
        clear GG f0 f1 f2 f3 f4
        go_wp2_with (first | (refine wpList_grid0 rfl rfl ?_) | (refine wpList_store_row rfl 51 (.tmp 2) (.tmp 52) rfl (w.heap.size + 1) (gridA 0 0 0 (fun _ => 0) (fun _ => sl0)) rfl rfl 51 _ (HZ3.out.below b5.out (by omega)) (grid_infoA _ _ _ _ _) (by rw [gridA_size]) (gridA_one _ _ _ _ _) ?_))
        refine bodyPost_ret (v := .tuple #[.agg (gridA 0 0 0 (fun _ => 0) (fun _ => sl0)), .bool false]) ?_ rfl ⟨.inl ⟨?_, rfl⟩, ?_⟩
        · rw [results_cell_tmp rfl]
          simp [asAddr, Result.andThen, run_gridOf (RowAt.setRow (HZ3.out.below b5.out (by omega)) (gridA 0 0 0 (fun _ => 0) (fun _ => sl0)))]
        · rw [← HX.out]
          exact okB_no (fun hp => by have := hp.2.2.1 k hlt; rw [stepB_1 HXX.out Q1.out] at this; exact absurd this (by simp))
        · exact below_row (HW3.out.trans (b5.out.mono (by omega))) (by omega) _
      have Q1 : Hid (freeB (numF l k) r c d g = true) := q1
      clear q1
      cases q2 : textB tx
      · have Q2 : Hid (textB tx = false) := q2
        clear q2
        go_upto_region 9 with (first | (go_at_call 45; refine (within_is Q0.out hR hC _).mono ?_; rintro e w4 ⟨rfl, hb4⟩; have GG : GridAt w4 v0.heap.size R C k (numF l k) t := HG3.out.below hb4 (by omega); have QQ : RectAt w4 w1.heap.size r c d g := RowAt.below HQ3.out hb4 s4; have f0 := QQ.c0; have f1 := QQ.c1; have f2 := QQ.c2; have f3 := QQ.c3; have b4 : Hid (Below w3.heap.size w3 w4) := hb4; clear QQ) | (refine wpList_load_rowG (by rfl) 51 (.tmp 4) rfl v0.heap.size rfl 51 (gridA R C k (numF l k) t) (0, 0) _ GG Try.underlying51 rfl (grid_infoA _ _ _ _ _) ?_) | (go_at_call 55; refine (isFree_is Q1.out hR5 hC5 hrd hcg hd0 hg0 HF.out).mono ?_; rintro e w5 ⟨rfl, hb5⟩; have b5 : Hid (Below w3.heap.size w3 w5) := b4.out.trans (hb5.mono b4.out.size); have f4 : w5.cell? ⟨wr.heap.size, 4, none⟩ = some (.slice ta tn tc) := (RowAt.below HC3.out b5.out (by omega)).cell 4) | (go_at_call 49; refine (implTextOk_isG ((HTX.out.below HW3.out).below (b5.out.mono (by omega))) Q2.out).mono ?_; rintro e w6 ⟨rfl, hb6⟩; have b6 : Hid (Below w3.heap.size w3 w6) := b5.out.trans (hb6.mono b5.out.size)))
        clear GG f0 f1 f2 f3 f4
        go_wp2_with (first | (refine wpList_grid0 rfl rfl ?_) | (refine wpList_store_row rfl 51 (.tmp 2) (.tmp 52) rfl (w.heap.size + 1) (gridA 0 0 0 (fun _ => 0) (fun _ => sl0)) rfl rfl 51 _ (HZ3.out.below b6.out (by omega)) (grid_infoA _ _ _ _ _) (by rw [gridA_size]) (gridA_one _ _ _ _ _) ?_))
        refine bodyPost_ret (v := .tuple #[.agg (gridA 0 0 0 (fun _ => 0) (fun _ => sl0)), .bool false]) ?_ rfl ⟨.inl ⟨?_, rfl⟩, ?_⟩
        · rw [results_cell_tmp rfl]
          simp [asAddr, Result.andThen, run_gridOf (RowAt.setRow (HZ3.out.below b6.out (by omega)) (gridA 0 0 0 (fun _ => 0) (fun _ => sl0)))]
        · rw [← HX.out]
          exact okB_no (fun hp => by have := hp.2.2.1 k hlt; rw [stepB_2 HXX.out Q2.out] at this; exact absurd this (by simp))
        · exact below_row (HW3.out.trans (b6.out.mono (by omega))) (by omega) _
      have Q2 : Hid (textB tx = true) := q2
      clear q2
      go_upto_region 10 with (first | (go_at_call 45; refine (within_is Q0.out hR hC _).mono ?_; rintro e w4 ⟨rfl, hb4⟩; have GG : GridAt w4 v0.heap.size R C k (numF l k) t := HG3.out.below hb4 (by omega); have QQ : RectAt w4 w1.heap.size r c d g := RowAt.below HQ3.out hb4 s4; have f0 := QQ.c0; have f1 := QQ.c1; have f2 := QQ.c2; have f3 := QQ.c3; have b4 : Hid (Below w3.heap.size w3 w4) := hb4; clear QQ) | (refine wpList_load_rowG (by rfl) 51 (.tmp 4) rfl v0.heap.size rfl 51 (gridA R C k (numF l k) t) (0, 0) _ GG Try.underlying51 rfl (grid_infoA _ _ _ _ _) ?_) | (go_at_call 55; refine (isFree_is Q1.out hR5 hC5 hrd hcg hd0 hg0 HF.out).mono ?_; rintro e w5 ⟨rfl, hb5⟩; have b5 : Hid (Below w3.heap.size w3 w5) := b4.out.trans (hb5.mono b4.out.size); have f4 : w5.cell? ⟨wr.heap.size, 4, none⟩ = some (.slice ta tn tc) := (RowAt.below HC3.out b5.out (by omega)).cell 4) | (go_at_call 49; refine (implTextOk_isG ((HTX.out.below HW3.out).below (b5.out.mono (by omega))) Q2.out).mono ?_; rintro e w6 ⟨rfl, hb6⟩; have b6 : Hid (Below w3.heap.size w3 w6) := b5.out.trans (hb6.mono b5.out.size)))
      clear GG f0 f1 f2 f3 f4
      have GG : Hid (GridAt w6 v0.heap.size R C k (numF l k) t) := HG3.out.below b6.out (by omega)
      have QQ : RectAt w6 w1.heap.size r c d g := RowAt.below HQ3.out b6.out s4
      have f0 := QQ.c0
      have f1 := QQ.c1
      have f2 := QQ.c2
      have f3 := QQ.c3
      have f4 : w6.cell? ⟨wr.heap.size, 4, none⟩ = some (.slice ta tn tc) := (RowAt.below HC3.out b6.out (by omega)).cell 4
      have s6 := b6.out.size
      have hk1 : k < 25 := by
        have := step_le (l := l) (K := k + 1) hR.2 hC.2 (fun j hj => by
          by_cases hjk : j = k
          · subst hjk
            exact stepB_mk HXX.out Q0.out Q1.out Q2.out
          · exact HS.out j (by omega))
        omega
      clear QQ
      go_wp2_with (first | (refine wpList_load_row rfl 51 (.tmp 4) rfl v0.heap.size rfl 51 (gridA R C k (numF l k) t) (0, 0) _ GG.out Try.underlying51 rfl (grid_infoA _ _ _ _ _) ?_) | (go_at_call 56; refine (lay_any R C k (numF l k) t r c d g (ta, tn, tc) _ (by omega) (by omega) hk1).mono ?_; rintro e w7 ⟨rfl, hb7⟩) | (refine wpList_store_row rfl 51 (.tmp 4) (.tmp 57) rfl v0.heap.size (gridA R C (k + 1) (giveF (numF l k) r c d g (k + 1)) (updS t (k + 1) (ta, tn, tc))) rfl rfl 51 _ (GG.out.below hb7 (by omega)) (grid_infoA _ _ _ _ _) (by rw [gridA_size, gridA_size]) (gridA_one _ _ _ _ _) ?_))
      go_roundw
      case rel =>
        refine ⟨k + 1, updS t (k + 1) (ta, tn, tc), by omega, by go_num, ?_, ?_, ?_, ?_⟩
        · intro j hj
          by_cases hjk : j = k
          · subst hjk
            exact stepB_mk HXX.out Q0.out Q1.out Q2.out
          · exact HS.out j (by omega)
        · have e : numF l (k + 1) = giveF (numF l k) r c d g (k + 1) := by
            simp only [numF, ← HXX.out, Int.toNat_natCast]
          rw [e]
          exact RowAt.setRow (GG.out.below hb7 (by omega)) _
        · intro j hj
          by_cases hjk : j = k
          · subst hjk
            rw [← HXX.out]
            simp only [updS, if_pos]
            exact HTX.out
          · simp only [updS, show ¬ j + 1 = k + 1 from by omega, if_false]
            exact HT.out j (by omega)
        · exact below_row ((HB3.out.trans (b6.out.mono (by omega))).trans (hb7.mono (by omega))) (Nat.le_refl _) _
      case measure => simp [intOf]; omega
    · have hkl : k = l.length := by omega
      subst hkl
      have HF : Hid (∀ s, numF l l.length s ≤ 25) := fun s => Nat.le_trans (numF_le l l.length s) hk25
      have HX2 : Hid (x = true ↔ Tiles R C (numF l l.length)) := by
        show x = true ↔ _
        rw [← HX.out, ← gridP_iff]
        constructor
        · intro hp
          have := hp.2.2.2
          simpa using this
        · intro hp
          exact ⟨hR, hC, HS.out, by simpa using hp⟩
      have hR5 : R ≤ 5 := by omega
      have hC5 : C ≤ 5 := by omega
      have s5 := B0.size
      cases x
      · go_upto_region 13 with (first | (refine wpList_load_row rfl 51 (.tmp 4) rfl v0.heap.size rfl 51 (gridA R C l.length (numF l l.length) t) (0, 0) _ HG.out Try.underlying51 rfl (grid_infoA _ _ _ _ _) ?_) | (go_at_call 57; refine (isTiled_is HX2.out hR5 hC5 HF.out).mono ?_; rintro e w4 ⟨rfl, hb4⟩))
        go_wp2_with (first | (refine wpList_grid0 rfl rfl ?_) | (refine wpList_store_row rfl 51 (.tmp 2) (.tmp 62) rfl (w.heap.size + 1) (gridA 0 0 0 (fun _ => 0) (fun _ => sl0)) rfl rfl 51 _ (HZr.out.below hb4 (by omega)) (grid_infoA _ _ _ _ _) (by rw [gridA_size]) (gridA_one _ _ _ _ _) ?_))
        refine bodyPost_ret (v := .tuple #[.agg (gridA 0 0 0 (fun _ => 0) (fun _ => sl0)), .bool false]) ?_ rfl ⟨.inl ⟨rfl, rfl⟩, ?_⟩
        · rw [results_cell_tmp rfl]
          simp [asAddr, Result.andThen, run_gridOf (RowAt.setRow (HZr.out.below hb4 (by omega)) (gridA 0 0 0 (fun _ => 0) (fun _ => sl0)))]
        · exact below_row (HW.out.trans (hb4.mono (by omega))) (by omega) _
      · go_upto_region 14 with (first | (refine wpList_load_row rfl 51 (.tmp 4) rfl v0.heap.size rfl 51 (gridA R C l.length (numF l l.length) t) (0, 0) _ HG.out Try.underlying51 rfl (grid_infoA _ _ _ _ _) ?_) | (go_at_call 57; refine (isTiled_is HX2.out hR5 hC5 HF.out).mono ?_; rintro e w4 ⟨rfl, hb4⟩))
        go_wp2_with (first | (refine wpList_load_row rfl 51 (.tmp 4) rfl v0.heap.size rfl 51 (gridA R C l.length (numF l l.length) t) (0, 0) _ (HG.out.below hb4 szr) Try.underlying51 rfl (grid_infoA _ _ _ _ _) ?_) | (refine wpList_store_row rfl 51 (.tmp 2) (.tmp 63) rfl (w.heap.size + 1) (gridA R C l.length (numF l l.length) t) rfl rfl 51 _ (HZr.out.below hb4 (by omega)) (grid_infoA _ _ _ _ _) (by rw [gridA_size, gridA_size]) (gridA_one _ _ _ _ _) ?_))
        have bF : Below w.heap.size w (w4.setRow (w.heap.size + 1) (gridA R C l.length (numF l l.length) t)) := below_row (HW.out.trans (hb4.mono (by omega))) (by omega) _
        refine bodyPost_ret (v := .tuple #[.agg (gridA R C l.length (numF l l.length) t), .bool true]) ?_ rfl ⟨.inr ⟨rfl, t, rfl, fun i hi => (HT.out i hi).below bF⟩, bF⟩
        · rw [results_cell_tmp rfl]
          simp [asAddr, Result.andThen, run_gridOf (RowAt.setRow (HZr.out.below hb4 (by omega)) (gridA R C l.length (numF l l.length) t))]
end Go.Proofs.Yteghidjbcpmfbaa
namespace Go.Proofs.Yteghidjbcpmfbaa
open Go.RowKit

theorem run_append_empty {P : Program} {w : World} (base : Nat) (t ty e : TypeId) (i : TypeInfo) (size : Nat) (ht : P.underlying t = some (.slice e)) (hi : P.info? e = some i)
    (v : Value) (n : Nat) (xs : List Value) (hown : w.ownsRow base e size v n xs) (p : Option Addr) (c : Nat) :
    (Builtin.append_ #[t, t] ty #[v, .slice p 0 c]).run P w = .ok v w := by
  rcases hown.2 with ⟨rfl, rfl⟩ | ⟨g, cap, cur, rfl, _, _, hnc, _⟩
  · cases p <;> simp [Builtin.append_, run_underlying ht, sizeOf, typeInfo, hi, Builtin.lenOf, Builtin.firstCells, loadCells, loadCellsFrom]
  · cases p <;> simp [Builtin.append_, run_underlying ht, sizeOf, typeInfo, hi, Builtin.lenOf, Builtin.firstCells, loadCells, loadCellsFrom, hnc, storeCells]
theorem wpList_append_empty {P : Program} {w : World} {ops : Array Oper} {rest : List Oper} {o : Oper} {a : Act} {Q : Exit → Act → World → Prop} (hgd : o.guard = none) (s x : Operand) (t : TypeId)
    (ho : o.op = .call { callee := .builtin .append, args := #[s, x], argTypes := #[t, t] })
    (base : Nat) (e : TypeId) (i : TypeInfo) (size : Nat) (ht : P.underlying t = some (.slice e)) (hi : P.info? e = some i)
    (v : Value) (n : Nat) (xs : List Value) (hs : a.eval s = v) (hown : w.ownsRow base e size v n xs) (p : Option Addr) (c : Nat) (hx : a.eval x = .slice p 0 c)
    (h : wpList P ops Q rest (a.put o.dst v) w) : wpList P ops Q (o :: rest) a w := by
  refine wpList_plain hgd fun K hK => ?_
  have hrun := run_append_empty (P := P) (w := w) base t o.type e i size ht hi v n xs hown p c
  unfold Oper.wp
  simp [execOp, ho, resolve, invoke, builtin, hs, hx, hrun, Result.andThen]
  exact hK _ _ h
theorem grownBy_refl (w : World) (r : Option Nat) : w.grownBy w r := ⟨rfl, rfl, rfl, Nat.le_refl _, fun _ _ _ => rfl⟩
theorem flat_one (l : List Sg) : ∀ u ∈ flat l, u.oneCell' = true := by
  intro u hu
  simp only [flat, List.mem_flatMap, sgCells] at hu
  obtain ⟨s, _, hs⟩ := hu
  simp at hs
  rcases hs with rfl | rfl | rfl <;> rfl
theorem news_signs {w : World} {b off : Nat} {l : List Sg} (h : SignsAt w b off l) : ∀ j u, (flat l)[j]? = some u → w.cell? ((⟨b, off, none⟩ : Addr).add j) = some u := by
  intro j u hj
  have hlt : j < l.length * 3 := by
    rw [← flat_length]
    exact (List.getElem?_eq_some_iff.1 hj).1
  have e : (⟨b, off, none⟩ : Addr).add j = ⟨b, off + j, none⟩ := by simp [Addr.add]
  rw [e]
  obtain ⟨g0, g1, g2⟩ := flat_get l (j / 3) (by omega)
  obtain ⟨h0, h1, h2⟩ := h (j / 3) (by omega)
  rcases (show j = j / 3 * 3 ∨ j = j / 3 * 3 + 1 ∨ j = j / 3 * 3 + 2 from by omega) with e | e | e
  · rw [e] at hj ⊢
    rw [← hj, g0]
    exact h0
  · rw [e] at hj ⊢
    rw [← hj, g1, ← Nat.add_assoc]
    exact h1
  · rw [e] at hj ⊢
    rw [← hj, g2, ← Nat.add_assoc]
    exact h2
/-- 'append(v, t...)', v the call's own, t a text. -/
theorem wpList_append_txt {w : World} {ops : Array Oper} {rest : List Oper} {o : Oper} {a : Act} {Q : Exit → Act → World → Prop} (hgd : o.guard = none) (s x : Operand)
    (ho : o.op = .call { callee := .builtin .append, args := #[s, x], argTypes := #[42, 42] })
    (base : Nat) (v : Value) (n : Nat) (xs : List Value) (hs : a.eval s = v) (hown : w.ownsRow base 89 3 v n xs)
    (p : Option Addr) (m c : Nat) (l : List Sg) (hx : a.eval x = .slice p m c) (htx : Txt w p m c l) (h63 : n + m ≤ 1000000000) (hbase : base ≤ w.heap.size)
    (h : ∀ v' w', w'.ownsRow base 89 3 v' (n + m) (xs ++ flat l) → w.grownBy w' v.ownBlock → wpList Try.prog ops Q rest (a.put o.dst v') w') : wpList Try.prog ops Q (o :: rest) a w := by
  obtain ⟨i0, hi, hz0, hz1, hz2⟩ := info_parts Try.info89
  obtain ⟨rfl, h2, h3, h4⟩ := htx
  rcases h4 with rfl | ⟨b, off, rfl, hb, hsn⟩
  · refine wpList_append_empty hgd s x 42 ho base 89 i0 3 Try.underlying42 hi v n xs hs hown p c hx ?_
    exact h v w (by simpa [flat] using hown) (grownBy_refl _ _)
  · refine wpList_append_own w hgd s x 42 ho base 89 i0 _ 3 24 Try.underlying42 hi hz0 hz1 hz2 rfl (by decide) v n xs hs hown ⟨b, off, none⟩ l.length c (flat l) hx (by rw [flat_length]) (news_signs hsn) (flat_one l) (by unfold maxLen; omega) (by omega) hbase ?_
    intro v' w' h5 h6 _
    exact h v' w' h5 h6
end Go.Proofs.Yteghidjbcpmfbaa
namespace Go.Proofs.Yteghidjbcpmfbaa
open Go.RowKit

def rwOne (i j : Nat) : Rw := (i, j, 1, 1, none, 0, 0)
def clOne (i j : Nat) : Cl := (i, j, 1, 1, [])
def newR (C i j : Nat) : List Rw := ((List.range i).flatMap fun a => (List.range C).map fun b => rwOne a b) ++ (List.range j).map fun b => rwOne i b
def newC (C i j : Nat) : List Cl := ((List.range i).flatMap fun a => (List.range C).map fun b => clOne a b) ++ (List.range j).map fun b => clOne i b
/-- The cells of a new table. -/
def newL (R C : Nat) : List Cl := newC C R 0
theorem newR_row (C i : Nat) : newR C i C = newR C (i + 1) 0 := by simp [newR, List.range_succ]
theorem newC_row (C i : Nat) : newC C i C = newC C (i + 1) 0 := by simp [newC, List.range_succ]
theorem newR_succ (C i j : Nat) : newR C i (j + 1) = newR C i j ++ [rwOne i j] := by simp [newR, List.range_succ]
theorem newC_succ (C i j : Nat) : newC C i (j + 1) = newC C i j ++ [clOne i j] := by simp [newC, List.range_succ]
theorem newR_len (C : Nat) : ∀ i j, (newR C i j).length = i * C + j
  | 0, j => by simp [newR]
  | i + 1, j => by
    have h := newR_len C i C
    rw [newR_row] at h
    simp only [newR, List.length_append, List.length_map, List.length_range] at h ⊢
    rw [Nat.succ_mul]
    omega
theorem map_getD {α β : Type} (f : α → β) (l : List α) (k : Nat) (d : α) (e : β) (h : k < l.length) : (l.map f).getD k e = f (l.getD k d) := by simp [List.getD, h]
def rwCl (x : Rw) : Cl := (x.1, x.2.1, x.2.2.1, x.2.2.2.1, [])
theorem newC_map (C i j : Nat) : newC C i j = (newR C i j).map rwCl := by
  simp only [newC, newR, List.map_append, List.map_map, List.map_flatMap]
  rfl
def nilT (x : Rw) : Prop := x.2.2.2.2 = (none, 0, 0)
theorem newR_nil (C i j : Nat) : ∀ x ∈ newR C i j, nilT x := by
  intro x hx
  simp only [newR, List.mem_append, List.mem_flatMap, List.mem_map] at hx
  rcases hx with ⟨a, _, b, _, rfl⟩ | ⟨b, _, rfl⟩ <;> rfl
theorem txtOwn_nil {w : World} {B : Nat} {q : Option Nat} {rs : List Rw} (h : ∀ x ∈ rs, nilT x) : TxtOwn w B q rs (rs.map rwCl) := by
  have key : ∀ k, k < rs.length → rwT (rs.getD k rw0) = .slice none 0 0 := by
    intro k hk
    have := h (rs.getD k rw0) (by simp [List.getD, hk])
    unfold nilT at this
    simp only [rwT, this]
  refine ⟨by simp, fun k hk => ?_, fun k hk g hg => ?_, fun i k hik hk g hg => ?_⟩
  · rw [map_getD rwCl rs k rw0 cl0 hk]
    refine ⟨rfl, rfl, rfl, rfl, ?_⟩
    rw [key k hk]
    exact Own.nil _ _
  · rw [key k hk] at hg
    simp [Value.ownBlock] at hg
  · rw [key i (by omega)] at hg
    simp [Value.ownBlock] at hg
theorem cell_five_new (w : World) (a b c d e : Value) (t : TypeId) : ∀ j u, [a, b, c, d, e][j]? = some u → (w.alloc (.cells #[a, b, c, d, e] t)).cell? ((⟨w.heap.size, 0, none⟩ : Addr).add j) = some u := by
  intro j u hj
  match j, hj with
  | 0, hj => simp at hj; subst hj; simp [Addr.add]
  | 1, hj => simp at hj; subst hj; simp [Addr.add]
  | 2, hj => simp at hj; subst hj; simp [Addr.add]
  | 3, hj => simp at hj; subst hj; simp [Addr.add]
  | 4, hj => simp at hj; subst hj; simp [Addr.add]
  | (j + 5), hj => simp at hj
theorem five_oneCell (a b c d : Int) (p : Option Addr) (n m : Nat) : ∀ u ∈ [Value.int .i64 a, .int .i64 b, .int .i64 c, .int .i64 d, .slice p n m], u.oneCell' = true := by
  intro u hu
  simp at hu
  rcases hu with rfl | rfl | rfl | rfl | rfl <;> rfl
end Go.Proofs.Yteghidjbcpmfbaa
