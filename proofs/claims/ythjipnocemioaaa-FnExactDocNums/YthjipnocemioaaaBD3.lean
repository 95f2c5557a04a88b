import Derived.Test.YthjipnocemioaaaBA1
import Derived.Test.YthjipnocemioaaaBD2
namespace Go.Proofs.Ythjipnocemioaaa
open Go.RowKit

/-- The sign that the marker lays at place i, from k on. -/
def mk (k : Int) (i : Nat) : Sg := ((k + 3 * i) % 256, k + 3 * i + 1, k + 3 * i + 1 + 1)
def marked (k : Int) (n : Nat) : List Sg := (List.range n).map (mk k)
theorem marked_len (k : Int) (n : Nat) : (marked k n).length = n := by simp [marked]
theorem marked_succ (k : Int) (n : Nat) : marked k (n + 1) = marked k n ++ [mk k n] := by simp [marked, List.range_succ]
theorem marked_get (k : Int) (n j : Nat) (h : j < n) : (marked k n).getD j (0, 0, 0) = mk k j := by simp [marked, List.getD, h]

theorem grown_refl (w : World) (r : Option Nat) : w.grownBy w r := ⟨rfl, rfl, rfl, Nat.le_refl _, fun _ _ _ => rfl⟩
theorem grown_setCell {w wr : World} {g : Nat} (h : w.grownBy wr (some g)) (o : Nat) (u : Value) : w.grownBy (wr.setCell ⟨g, o, none⟩ u) (some g) :=
  ⟨h.os, h.tape, h.output, Nat.le_trans h.size (by simp [World.setCell]), fun k hk hne => (Below.heap_setCell wr ⟨g, o, none⟩ u k (fun e => hne (by simp [e]))).trans (h.block k hk hne)⟩

theorem flat_set3 (A R : List Sg) (s t : Sg) : (((flat (A ++ s :: R)).set (A.length * 3) (.int .u8 t.1)).set (A.length * 3 + 1) (.int .i64 t.2.1)).set (A.length * 3 + 2) (.int .i64 t.2.2) = flat (A ++ [t] ++ R) := by
  have e1 : flat (A ++ s :: R) = flat A ++ (sgCells s ++ flat R) := by simp [flat]
  have e2 : flat (A ++ [t] ++ R) = flat A ++ (sgCells t ++ flat R) := by simp [flat]
  have hl := flat_length A
  rw [e1, e2, List.set_append_right _ _ (by omega), List.set_append_right _ _ (by omega), List.set_append_right _ _ (by omega), hl]
  simp [sgCells]

set_option maxHeartbeats 1000000 in
theorem markSignS_at (g n c : Nat) (l : List Sg) (k0 : Int) (B : Nat) (w : World) (h : Own w B (.slice (some ⟨g, 0, none⟩) n c) l) (hn : n ≤ 1048576) (h0 : 0 ≤ k0) (h1 : k0 ≤ 100000000) :
    Calls Try.prog 64 #[.slice (some ⟨g, 0, none⟩) n c, .int .i64 k0] w fun e w' => e = .returned (.int .i64 (k0 + 3 * n)) ∧ Own w' B (.slice (some ⟨g, 0, none⟩) n c) (marked k0 n) ∧ w.grownBy w' (some g) := by
  have hlen := h.len
  have hcap := h.txt.2.1
  have hcm := h.txt.2.2.1
  unfold maxLen at hcm
  have HO : Hid (w.ownsRow B 100 3 (.slice (some ⟨g, 0, none⟩) n c) n (flat l)) := h.row
  clear h
  subst hlen
  go_enter Try.func64, Try.ntmps64
  go_wp2_with fail
  go_loopw [1, 5] (fun kk i wr => ∃ (j : Nat), j ≤ l.length ∧ i = .int .i64 j ∧ kk = .int .i64 (k0 + 3 * j) ∧ wr.ownsRow B 100 3 (.slice (some ⟨g, 0, none⟩) l.length c) l.length (flat (marked k0 j ++ l.drop j)) ∧ w.grownBy wr (some g)) (fun _ i _ => l.length - (intOf i).toNat)
  case atStart => exact ⟨0, Nat.zero_le _, rfl, by simp, by simpa [marked] using HO.out, ⟨rfl, rfl, rfl, Nat.le_refl _, fun _ _ _ => rfl⟩⟩
  case round =>
    obtain ⟨j, hj, rfl, rfl, ho, hg⟩ := hrel
    by_cases hlt : j < l.length
    · have f0 := ho.frozenAt (j * 3)
      have f1 := ho.frozenAt (j * 3 + 1)
      have f2 := ho.frozenAt (j * 3 + 2)
      have hxl := ho.1
      obtain ⟨u0, d0⟩ : ∃ u, wr.cell? ⟨g, j * 3, none⟩ = some u := ⟨_, (ho.cellAt (j * 3) (by omega)).trans (List.getElem?_eq_getElem (by omega))⟩
      obtain ⟨u1, d1⟩ : ∃ u, wr.cell? ⟨g, j * 3 + 1, none⟩ = some u := ⟨_, (ho.cellAt (j * 3 + 1) (by omega)).trans (List.getElem?_eq_getElem (by omega))⟩
      obtain ⟨u2, d2⟩ : ∃ u, wr.cell? ⟨g, j * 3 + 2, none⟩ = some u := ⟨_, (ho.cellAt (j * 3 + 2) (by omega)).trans (List.getElem?_eq_getElem (by omega))⟩
      have HR : Hid (wr.ownsRow B 100 3 (.slice (some ⟨g, 0, none⟩) l.length c) l.length (flat (marked k0 j ++ l.drop j))) := ho
      clear ho hxl
      go_wp2_with fail
      go_roundw
      case rel =>
        obtain ⟨p0, _⟩ := HR.out.stored (j * 3) (.int .u8 (mk k0 j).1)
        obtain ⟨p1, _⟩ := p0.stored (j * 3 + 1) (.int .i64 (mk k0 j).2.1)
        obtain ⟨p2, _⟩ := p1.stored (j * 3 + 2) (.int .i64 (mk k0 j).2.2)
        refine ⟨j + 1, by omega, by go_num, ?_, ?_, grown_setCell (grown_setCell (grown_setCell hg _ _) _ _) _ _⟩
        · congr 1; omega
        · have e := flat_set3 (marked k0 j) (l.drop (j + 1)) (l[j]'hlt) (mk k0 j)
          rw [marked_len, ← List.drop_eq_getElem_cons hlt] at e
          rw [marked_succ, ← e]
          exact p2
      case measure => simp [intOf]; omega
    · obtain rfl : j = l.length := by omega
      rw [List.drop_of_length_le (Nat.le_refl _), List.append_nil] at ho
      go_wp2_with fail
      go_ret
      refine ⟨rfl, ?_, hg⟩
      unfold Own
      rw [marked_len]
      exact ho

set_option maxHeartbeats 1000000 in
theorem markSignS_nil (a : Option Addr) (c : Nat) (k0 : Int) (w : World) :
    Calls Try.prog 64 #[.slice a 0 c, .int .i64 k0] w fun e w' => e = .returned (.int .i64 k0) ∧ w' = w := by
  go_enter Try.func64, Try.ntmps64
  go_wp2_with fail
  refine wp_loop_rounds 1 ?_
  rw [rounds_succ]
  go_wp2_with fail
  go_ret
  exact ⟨rfl, rfl⟩

/-- The marker writes into what is owned alone. -/
theorem markSignS_any (a : Option Addr) (n c : Nat) (l : List Sg) (k0 : Int) (B : Nat) (w : World) (h : Own w B (.slice a n c) l) (hn : n ≤ 1048576) (h0 : 0 ≤ k0) (h1 : k0 ≤ 100000000) :
    Calls Try.prog 64 #[.slice a n c, .int .i64 k0] w fun e w' => e = .returned (.int .i64 (k0 + 3 * n)) ∧ Own w' B (.slice a n c) (marked k0 n) ∧ w.grownBy w' (Value.slice a n c).ownBlock := by
  have hl := h.len
  rcases h.row.2 with ⟨hv, h0'⟩ | ⟨g, cap, cur, hv, r⟩
  · simp only [Value.slice.injEq] at hv
    obtain ⟨rfl, rfl, rfl⟩ := hv
    refine (markSignS_nil _ _ k0 w).mono ?_
    rintro e w' ⟨rfl, rfl⟩
    exact ⟨by simp, by simpa [marked] using Own.nil _ _, grown_refl _ _⟩
  · simp only [Value.slice.injEq, true_and] at hv
    obtain ⟨rfl, rfl⟩ := hv
    exact markSignS_at g n c l k0 B w h hn h0 h1

set_option maxHeartbeats 2000000 in
theorem heldSignS_any (a : Option Addr) (n c : Nat) (k0 : Int) (w : World) (h : Txt w a n c (marked k0 n)) (hn : n ≤ 1048576) (h0 : 0 ≤ k0) (h1 : k0 ≤ 100000000) :
    Calls Try.prog 69 #[.slice a n c, .int .i64 k0] w fun e w' => e = .returned (.int .i64 (k0 + 3 * n)) ∧ w' = w := by
  obtain ⟨-, hc, hm, hl⟩ := h
  unfold maxLen at hm
  by_cases hz : n = 0
  · subst hz
    go_enter Try.func69, Try.ntmps69
    go_wp2_with fail
    refine wp_loop_rounds 1 ?_
    rw [rounds_succ]
    go_wp2_with fail
    go_ret
    exact ⟨by simp, rfl⟩
  · rcases hl with hl | ⟨b, off, rfl, hbw, hl⟩
    · exfalso
      have := marked_len k0 n
      rw [hl] at this
      exact hz this.symm
    · go_enter Try.func69, Try.ntmps69
      go_wp2_with fail
      go_loop [1, 5] (fun kk i => ∃ (j : Nat), j ≤ n ∧ i = .int .i64 j ∧ kk = .int .i64 (k0 + 3 * j)) (fun _ i => n - (intOf i).toNat)
      case atStart => exact ⟨0, Nat.zero_le _, rfl, by simp⟩
      case round =>
        obtain ⟨j, hj, rfl, rfl⟩ := hrel
        by_cases hlt : j < n
        · obtain ⟨c0, c1, c2⟩ := hl j (by rw [marked_len]; exact hlt)
          rw [marked_get k0 n j hlt] at c0 c1 c2
          clear hl
          simp only [mk] at c0 c1 c2
          go_wp2_with fail
          go_round
          case rel => exact ⟨j + 1, by omega, by go_num, by congr 1; omega⟩
          case measure => simp [intOf]; omega
        · obtain rfl : j = n := by omega
          go_wp2_with fail
          go_ret
          exact ⟨rfl, rfl⟩
end Go.Proofs.Ythjipnocemioaaa
namespace Go.Proofs.Ythjipnocemioaaa
open Go.RowKit

/-- The cell that the marker lays, from k on. -/
def mkC (k : Int) (n : Nat) : Cl := (k, k + 1, k + 2, k + 3, marked (k + 4) n)
def kAt (k0 : Int) (l : List Cl) (i : Nat) : Int := k0 + 4 * i + 3 * (totT (l.take i) : Nat)
def markL (k0 : Int) (l : List Cl) : List Cl := (List.range l.length).map fun k => mkC (kAt k0 l k) (l.getD k cl0).2.2.2.2.length
theorem markL_len (k0 : Int) (l : List Cl) : (markL k0 l).length = l.length := by simp [markL]
theorem markL_get (k0 : Int) (l : List Cl) (k : Nat) (h : k < l.length) : (markL k0 l).getD k cl0 = mkC (kAt k0 l k) (l.getD k cl0).2.2.2.2.length := by
  simp only [markL, List.getD, List.getElem?_map, List.getElem?_range h, Option.map_some, Option.getD_some]
theorem kAt_succ (k0 : Int) (l : List Cl) (i : Nat) (h : i < l.length) : kAt k0 l (i + 1) = kAt k0 l i + 4 + 3 * ((l.getD i cl0).2.2.2.2.length : Nat) := by
  unfold kAt
  rw [totT_take l i h]
  omega
theorem kAt_ge (k0 : Int) (l : List Cl) (i : Nat) (h : 0 ≤ k0) : 0 ≤ kAt k0 l i := by
  unfold kAt
  omega
theorem kAt_le (k0 : Int) (l : List Cl) (i : Nat) (h : i ≤ l.length) : kAt k0 l i ≤ k0 + 4 * l.length + 3 * (totT l : Nat) := by
  unfold kAt
  have := totT_append (l.take i) (l.drop i)
  rw [List.take_append_drop] at this
  omega
theorem getD_set_eq {α : Type} (l : List α) (i : Nat) (x d : α) (h : i < l.length) : (l.set i x).getD i d = x := by simp [List.getD, h]
theorem getD_set_ne {α : Type} (l : List α) (i k : Nat) (x d : α) (h : i ≠ k) : (l.set i x).getD k d = l.getD k d := by simp [List.getD, List.getElem?_set_ne h]
theorem TxtOwn.upd {w w' : World} {B : Nat} {q : Option Nat} {rs : List Rw} {l : List Cl} (h : TxtOwn w B q rs l) (i : Nat) (hi : i < rs.length) (x : Rw) (y : Cl) (hx : rwT x = rwT (rs.getD i rw0)) (ho : RwOwn w' B x y)
    (hk : ∀ k, k < rs.length → k ≠ i → Own w' B (rwT (rs.getD k rw0)) (l.getD k cl0).2.2.2.2) : TxtOwn w' B q (rs.set i x) (l.set i y) := by
  have hl := h.1
  have hT : ∀ k, rwT ((rs.set i x).getD k rw0) = rwT (rs.getD k rw0) := by
    intro k
    by_cases hki : i = k
    · subst hki
      rw [getD_set_eq _ _ _ _ hi, hx]
    · rw [getD_set_ne _ _ _ _ _ hki]
  refine ⟨by simp [hl], fun k hk' => ?_, fun k hk' g hg => ?_, fun a b hab hb g hg => ?_⟩
  · simp only [List.length_set] at hk'
    by_cases hki : i = k
    · subst hki
      rw [getD_set_eq _ _ _ _ hi, getD_set_eq _ _ _ _ (by omega)]
      exact ho
    · rw [getD_set_ne _ _ _ _ _ hki, getD_set_ne _ _ _ _ _ hki]
      obtain ⟨h0, h1, h2, h3, _⟩ := h.2.1 k hk'
      exact ⟨h0, h1, h2, h3, hk k hk' (Ne.symm hki)⟩
  · simp only [List.length_set] at hk'
    rw [hT] at hg
    exact h.2.2.1 k hk' g hg
  · simp only [List.length_set] at hb
    rw [hT] at hg ⊢
    exact h.2.2.2 a b hab hb g hg
theorem flat5_set (rs : List Rw) (i : Nat) (hi : i < rs.length) (a b c d : Int) (s : Option Addr × Nat × Nat) (hs : (rs.getD i rw0).2.2.2.2 = s) :
    (((((flat5 rs).set (i * 5) (.int .i64 a)).set (i * 5 + 1) (.int .i64 b)).set (i * 5 + 2) (.int .i64 c)).set (i * 5 + 3) (.int .i64 d)) = flat5 (rs.set i (a, b, c, d, s)) := by
  apply List.ext_getElem?
  intro j
  have hlen := flat5_length rs
  by_cases hj : j < rs.length * 5
  · have hj5 : j = j / 5 * 5 + j % 5 := by omega
    have hk : j / 5 < rs.length := by omega
    have hm : j % 5 < 5 := by omega
    generalize j / 5 = k at hj5 hk
    generalize j % 5 = r at hj5 hm
    subst hj5
    rw [flat5_get (rs.set i (a, b, c, d, s)) k r (by simpa using hk) hm]
    by_cases hki : i = k
    · subst hki
      rw [getD_set_eq _ _ _ _ hi]
      have hold := flat5_get rs i 4 hi (by omega)
      rcases (show r = 0 ∨ r = 1 ∨ r = 2 ∨ r = 3 ∨ r = 4 from by omega) with rfl | rfl | rfl | rfl | rfl
      · rw [List.getElem?_set_ne (by omega), List.getElem?_set_ne (by omega), List.getElem?_set_ne (by omega), Nat.add_zero, List.getElem?_set_self (by omega)]; rfl
      · rw [List.getElem?_set_ne (by omega), List.getElem?_set_ne (by omega), List.getElem?_set_self (by simp; omega)]; rfl
      · rw [List.getElem?_set_ne (by omega), List.getElem?_set_self (by simp; omega)]; rfl
      · rw [List.getElem?_set_self (by simp; omega)]; rfl
      · rw [List.getElem?_set_ne (by omega), List.getElem?_set_ne (by omega), List.getElem?_set_ne (by omega), List.getElem?_set_ne (by omega), hold, ← hs]; rfl
    · rw [getD_set_ne _ _ _ _ _ hki, List.getElem?_set_ne (by omega), List.getElem?_set_ne (by omega), List.getElem?_set_ne (by omega), List.getElem?_set_ne (by omega)]
      exact flat5_get rs k r hk hm
  · rw [List.getElem?_eq_none (by simp; omega), List.getElem?_eq_none (by rw [flat5_length]; simp; omega)]

/-- Tables that lie elsewhere stay as they are. -/
def Stay (w w' : World) : Prop := ∀ b cs, RowAt w b cs 47 → RowAt w' b cs 47

/-- From block E on nothing has turned. -/
def Over (E : Nat) (w w' : World) : Prop := ∀ b, E ≤ b → b < w.heap.size → w'.heap[b]? = w.heap[b]?
theorem own_over {w w' : World} {B E e size n : Nat} {v : Value} {xs : List Value} (h : w.ownsRow B e size v n xs) (hE : E ≤ B) (ho : Over E w w') : w'.ownsRow B e size v n xs := by
  refine ⟨h.1, ?_⟩
  rcases h.2 with hn | ⟨g, cap, cur, rfl, hg, hgg, rest⟩
  · exact .inl hn
  · exact .inr ⟨g, cap, cur, rfl, hg, by rw [ho g (by omega) (Array.getElem?_eq_some_iff.1 hgg).1]; exact hgg, rest⟩
theorem OwnT.over {w w' : World} {B E : Nat} {v : Value} {rs : List Rw} {l : List Cl} (h : OwnT w B v rs l) (hE : E ≤ B) (ho : Over E w w') : OwnT w' B v rs l :=
  ⟨own_over h.1 hE ho, h.2.1, fun k hk => by
    obtain ⟨a0, a1, a2, a3, a4⟩ := h.2.2.1 k hk
    exact ⟨a0, a1, a2, a3, own_over a4 hE ho⟩, h.2.2.2.1, h.2.2.2.2⟩

set_option maxRecDepth 100000 in
set_option maxHeartbeats 4000000 in
theorem markCellS_over (a : Option Addr) (n c : Nat) (rs : List Rw) (l : List Cl) (k0 : Int) (B E : Nat) (w : World) (h : OwnT w B (.slice a n c) rs l) (hE : ∀ g, (Value.slice a n c).ownBlock = some g → g < E) (hT : ∀ k, k < rs.length → ∀ g, (rwT (rs.getD k rw0)).ownBlock = some g → g < E) (h0 : 0 ≤ k0) (h1 : k0 + 4 * l.length + 3 * (totT l : Nat) ≤ 50000000) (h2 : totT l ≤ 1048576) :
    Calls Try.prog 65 #[.slice a n c, .int .i64 k0] w fun e w' => e = .returned (.int .i64 (kAt k0 l l.length)) ∧ (∃ rs', OwnT w' B (.slice a n c) rs' (markL k0 l)) ∧ Below B w w' ∧ Stay w w' ∧ Over E w w' := by
  have hn := h.len
  have htab := h.tab
  have hcm := htab.2.2.1
  have hcn := htab.2.1
  unfold maxLen at hcm
  have HOT : Hid (OwnT w B (.slice a n c) rs l) := h
  have HE : Hid (∀ g, (Value.slice a n c).ownBlock = some g → g < E) := hE
  have HTE : Hid (∀ k, k < rs.length → ∀ g, (rwT (rs.getD k rw0)).ownBlock = some g → g < E) := hT
  clear hE hT
  clear h htab
  subst hn
  go_enter Try.func65, Try.ntmps65
  go_wp2_with fail
  go_loopw [1, 5] (fun kk iv wr => ∃ (i : Nat) (rs' : List Rw) (l' : List Cl), i ≤ l.length ∧ iv = .int .i64 i ∧ kk = .int .i64 (kAt k0 l i) ∧ OwnT wr B (.slice a l.length c) rs' l' ∧ (∀ k, k < l.length → (l'.getD k cl0).2.2.2.2.length = (l.getD k cl0).2.2.2.2.length) ∧ (∀ k, k < i → l'.getD k cl0 = mkC (kAt k0 l k) (l.getD k cl0).2.2.2.2.length) ∧ Below B w wr ∧ Stay w wr ∧ Over E w wr ∧ (∀ k, k < rs'.length → ∀ g, (rwT (rs'.getD k rw0)).ownBlock = some g → g < E)) (fun _ iv _ => l.length - (intOf iv).toNat)
  case atStart => exact ⟨0, rs, l, Nat.zero_le _, rfl, by simp [kAt, totT], HOT.out, fun _ _ => rfl, fun k hk => by omega, Below.refl _ _, fun _ _ hh => hh, fun _ _ _ => rfl, HTE.out⟩
  case round =>
    obtain ⟨i, rs', l', hi, rfl, rfl, ho, hlen, hdone, hb, hstay, hov, hte⟩ := hrel
    have HOv : Hid (Over E w wr) := hov
    have HTe : Hid (∀ k, k < rs'.length → ∀ g, (rwT (rs'.getD k rw0)).ownBlock = some g → g < E) := hte
    have HSz : Hid (w.heap.size ≤ wr.heap.size) := hb.size
    have HSt : Hid (Stay w wr) := hstay
    have HO : Hid (OwnT wr B (.slice a l.length c) rs' l') := ho
    have HLn : Hid (∀ k, k < l.length → (l'.getD k cl0).2.2.2.2.length = (l.getD k cl0).2.2.2.2.length) := hlen
    have HD : Hid (∀ k, k < i → l'.getD k cl0 = mkC (kAt k0 l k) (l.getD k cl0).2.2.2.2.length) := hdone
    have HB : Hid (Below B w wr) := hb
    have HLL : Hid (l.length = l'.length) := ho.len
    have HRL : Hid (l.length = rs'.length) := ho.1.len
    clear hlen hdone hb hstay hov hte
    by_cases hlt : i < l.length
    · have kge := kAt_ge k0 l i h0
      have kle := kAt_le k0 l i (by omega)
      have HSU : Hid (kAt k0 l (i + 1) = kAt k0 l i + 4 + 3 * ((l.getD i cl0).2.2.2.2.length : Nat)) := kAt_succ k0 l i hlt
      have hK : ∃ K, Hid (kAt k0 l i = K) := ⟨_, rfl⟩
      obtain ⟨K, HK⟩ := hK
      rw [HK.out] at kge kle ⊢
      rcases ho.1.row.2 with ⟨hv, hz⟩ | ⟨g, cap, cur, hv, hgB, hgg, _⟩
      · exfalso; omega
      simp only [Value.slice.injEq, true_and] at hv
      obtain ⟨rfl, rfl⟩ := hv
      have hrow := ho.1.row
      have glt := (own_lt hrow rfl).2
      have hxl := hrow.1
      have f0 := hrow.frozenAt (i * 5)
      have f1 := hrow.frozenAt (i * 5 + 1)
      have f2 := hrow.frozenAt (i * 5 + 2)
      have f3 := hrow.frozenAt (i * 5 + 3)
      obtain ⟨u0, d0⟩ : ∃ u, wr.cell? ⟨g, i * 5, none⟩ = some u := ⟨_, (hrow.cellAt (i * 5) (by omega)).trans (List.getElem?_eq_getElem (by omega))⟩
      obtain ⟨u1, d1⟩ : ∃ u, wr.cell? ⟨g, i * 5 + 1, none⟩ = some u := ⟨_, (hrow.cellAt (i * 5 + 1) (by omega)).trans (List.getElem?_eq_getElem (by omega))⟩
      obtain ⟨u2, d2⟩ : ∃ u, wr.cell? ⟨g, i * 5 + 2, none⟩ = some u := ⟨_, (hrow.cellAt (i * 5 + 2) (by omega)).trans (List.getElem?_eq_getElem (by omega))⟩
      obtain ⟨u3, d3⟩ : ∃ u, wr.cell? ⟨g, i * 5 + 3, none⟩ = some u := ⟨_, (hrow.cellAt (i * 5 + 3) (by omega)).trans (List.getElem?_eq_getElem (by omega))⟩
      have hK2 : K ≤ 50000000 := by omega
      clear ho hrow hxl hgg kle
      go_upto_region 12 with fail
      obtain ⟨⟨p, m, q⟩, hs⟩ : ∃ s, (rs'.getD i rw0).2.2.2.2 = s := ⟨_, rfl⟩
      obtain ⟨p0, _⟩ := HO.out.1.row.stored (i * 5) (.int .i64 K)
      obtain ⟨p1, _⟩ := p0.stored (i * 5 + 1) (.int .i64 (K + 1))
      obtain ⟨p2, _⟩ := p1.stored (i * 5 + 2) (.int .i64 (K + 1 + 1))
      obtain ⟨p3, _⟩ := p2.stored (i * 5 + 3) (.int .i64 (K + 1 + 1 + 1))
      have hir : i < rs'.length := by rw [← HRL.out]; exact hlt
      rw [flat5_set rs' i hir _ _ _ _ (p, m, q) hs] at p3
      have t3 : TxtOwn ((((wr.setCell ⟨g, i * 5, none⟩ (.int .i64 K)).setCell ⟨g, i * 5 + 1, none⟩ (.int .i64 (K + 1))).setCell ⟨g, i * 5 + 2, none⟩ (.int .i64 (K + 1 + 1))).setCell ⟨g, i * 5 + 3, none⟩ (.int .i64 (K + 1 + 1 + 1))) B (some g) rs' l' := (((HO.out.2.set ⟨g, i * 5, none⟩ (.int .i64 K) rfl).set ⟨g, i * 5 + 1, none⟩ (.int .i64 (K + 1)) rfl).set ⟨g, i * 5 + 2, none⟩ (.int .i64 (K + 1 + 1)) rfl).set ⟨g, i * 5 + 3, none⟩ (.int .i64 (K + 1 + 1 + 1)) rfl
      have b3 : Below B w ((((wr.setCell ⟨g, i * 5, none⟩ (.int .i64 K)).setCell ⟨g, i * 5 + 1, none⟩ (.int .i64 (K + 1))).setCell ⟨g, i * 5 + 2, none⟩ (.int .i64 (K + 1 + 1))).setCell ⟨g, i * 5 + 3, none⟩ (.int .i64 (K + 1 + 1 + 1))) := (((HB.out.setCell (p := ⟨g, i * 5, none⟩) hgB (.int .i64 K)).setCell (p := ⟨g, i * 5 + 1, none⟩) hgB (.int .i64 (K + 1))).setCell (p := ⟨g, i * 5 + 2, none⟩) hgB (.int .i64 (K + 1 + 1))).setCell (p := ⟨g, i * 5 + 3, none⟩) hgB (.int .i64 (K + 1 + 1 + 1))
      have st3 : Stay wr ((((wr.setCell ⟨g, i * 5, none⟩ (.int .i64 K)).setCell ⟨g, i * 5 + 1, none⟩ (.int .i64 (K + 1))).setCell ⟨g, i * 5 + 2, none⟩ (.int .i64 (K + 1 + 1))).setCell ⟨g, i * 5 + 3, none⟩ (.int .i64 (K + 1 + 1 + 1))) := by
        intro b cs hh
        have hne : b ≠ g := fun e => rowAt_ne hh HO.out.1.row (by decide) (by rw [e]; rfl)
        exact (((hh.other ⟨g, i * 5, none⟩ (.int .i64 K) hne).other ⟨g, i * 5 + 1, none⟩ (.int .i64 (K + 1)) hne).other ⟨g, i * 5 + 2, none⟩ (.int .i64 (K + 1 + 1)) hne).other ⟨g, i * 5 + 3, none⟩ (.int .i64 (K + 1 + 1 + 1)) hne
      have sz3 : ((((wr.setCell ⟨g, i * 5, none⟩ (.int .i64 K)).setCell ⟨g, i * 5 + 1, none⟩ (.int .i64 (K + 1))).setCell ⟨g, i * 5 + 2, none⟩ (.int .i64 (K + 1 + 1))).setCell ⟨g, i * 5 + 3, none⟩ (.int .i64 (K + 1 + 1 + 1))).heap.size = wr.heap.size := by simp only [Go.Deep.nblk_setCell]
      have ov3 : Over E w ((((wr.setCell ⟨g, i * 5, none⟩ (.int .i64 K)).setCell ⟨g, i * 5 + 1, none⟩ (.int .i64 (K + 1))).setCell ⟨g, i * 5 + 2, none⟩ (.int .i64 (K + 1 + 1))).setCell ⟨g, i * 5 + 3, none⟩ (.int .i64 (K + 1 + 1 + 1))) := by
        intro b hb1 hb2
        have hge : g < E := HE.out g rfl
        have hne : b ≠ g := by omega
        rw [Below.heap_setCell _ _ _ _ hne, Below.heap_setCell _ _ _ _ hne, Below.heap_setCell _ _ _ _ hne, Below.heap_setCell _ _ _ _ hne]
        exact HOv.out b hb1 hb2
      clear p0 p1 p2 d0 d1 d2 d3 f0 f1 f2 f3
      generalize ((((wr.setCell ⟨g, i * 5, none⟩ (.int .i64 K)).setCell ⟨g, i * 5 + 1, none⟩ (.int .i64 (K + 1))).setCell ⟨g, i * 5 + 2, none⟩ (.int .i64 (K + 1 + 1))).setCell ⟨g, i * 5 + 3, none⟩ (.int .i64 (K + 1 + 1 + 1))) = v at p3 t3 b3 sz3 st3 ov3 ⊢
      have HS3 : Hid (Stay wr v) := st3
      have HOv3 : Hid (Over E w v) := ov3
      clear st3 ov3
      have hc4 : v.cell? ⟨g, i * 5 + 4, none⟩ = some (.slice p m q) := by
        rw [p3.cellAt (i * 5 + 4) (by omega), flat5_get _ i 4 (by simpa using hir) (by omega), getD_set_eq _ _ _ _ hir]
        rfl
      have hto : Own v B (.slice p m q) (l'.getD i cl0).2.2.2.2 := by
        have := (t3.2.1 i hir).2.2.2.2
        unfold rwT at this
        rw [hs] at this
        exact this
      have HMN : Hid (m = (l.getD i cl0).2.2.2.2.length) := hto.len.trans (HLn.out i hlt)
      have HTO : Hid (Own v B (.slice p m q) (l'.getD i cl0).2.2.2.2) := hto
      have HP3 : Hid (v.ownsRow B 59 5 (.slice (some ⟨g, 0, none⟩) l.length c) l.length (flat5 (rs'.set i (K, K + 1, K + 1 + 1, K + 1 + 1 + 1, p, m, q)))) := p3
      have HT3 : Hid (TxtOwn v B (some g) rs' l') := t3
      have HS : Hid ((rs'.getD i rw0).2.2.2.2 = (p, m, q)) := hs
      have hm6 : m ≤ 1048576 := by
        have := totT_le l i hlt
        rw [HMN.out]
        omega
      clear hto p3 t3 hs
      go_wp2_with (go_at_call 64; refine (markSignS_any p m q (l'.getD i cl0).2.2.2.2 _ B _ HTO.out hm6 (by omega) (by omega)).mono ?_; rintro e w2 ⟨rfl, hO2, hg2⟩)
      go_roundw
      case rel =>
        have hT : rwT (rs'.getD i rw0) = .slice p m q := by
          unfold rwT
          rw [HS.out]
        have hne : ∀ g', (Value.slice p m q).ownBlock = some g' → some g ≠ some g' := fun g' hg' => HT3.out.2.2.1 i hir g' (by rw [hT]; exact hg')
        have e4 : K + 1 + 1 + 1 + 1 = K + 4 := by omega
        rw [e4] at hO2
        have hR : OwnR w2 B (.slice (some ⟨g, 0, none⟩) l.length c) (rs'.set i (K, K + 1, K + 1 + 1, K + 1 + 1 + 1, p, m, q)) := by
          unfold OwnR
          rw [List.length_set, ← HRL.out]
          exact own_grown HP3.out hg2 (fun g' hg' hq => by
            have e : g = g' := by simpa [Value.ownBlock] using hg'
            exact hne g' hq (by rw [e]))
        have hX : TxtOwn w2 B (some g) (rs'.set i (K, K + 1, K + 1 + 1, K + 1 + 1 + 1, p, m, q)) (l'.set i (mkC K m)) := by
          refine HT3.out.upd i hir _ _ (by rw [hT]; rfl) ⟨rfl, rfl, by show K + 1 + 1 = K + 2; omega, by show K + 1 + 1 + 1 = K + 3; omega, hO2⟩ ?_
          intro k hk hki
          refine own_grown (HT3.out.2.1 k hk).2.2.2.2 hg2 (fun g' hg' hq => ?_)
          rcases Nat.lt_or_ge k i with h3 | h3
          · exact HT3.out.2.2.2 k i h3 hir g' hg' (by rw [hT]; exact hq)
          · exact HT3.out.2.2.2 i k (by omega) hk g' (by rw [hT]; exact hq) hg'
        have hil : i < l'.length := by rw [← HLL.out]; exact hlt
        refine ⟨i + 1, _, l'.set i (mkC K m), by omega, by go_num, ?_, ⟨hR, hX⟩, ?_, ?_, ?_, ?_, ?_, ?_⟩
        · rw [HSU.out, HK.out, ← HMN.out]
          congr 1
          omega
        · intro k hk
          by_cases hki : i = k
          · subst hki
            rw [getD_set_eq _ _ _ _ hil, ← HMN.out]
            exact marked_len _ _
          · rw [getD_set_ne _ _ _ _ _ hki]
            exact HLn.out k hk
        · intro k hk
          by_cases hki : i = k
          · subst hki
            rw [getD_set_eq _ _ _ _ hil, HK.out, ← HMN.out]
          · rw [getD_set_ne _ _ _ _ _ hki]
            exact HD.out k (by omega)
        · exact b3.grown hg2 (by rw [sz3]; omega) (fun q' hq' => (own_lt HTO.out.row hq').1)
        · intro b cs hh
          have h3 := HS3.out b cs (HSt.out b cs hh)
          exact h3.grown hg2 (rowAt_ne h3 HTO.out.row (by decide))
        · intro b hb1 hb2
          have e5 := HSz.out
          refine (hg2.block b (by rw [sz3]; omega) (fun e => ?_)).trans (HOv3.out b hb1 hb2)
          have := HTe.out i hir b (by rw [hT]; exact e.symm)
          omega
        · intro k hk g' hg'
          simp only [List.length_set] at hk
          refine HTe.out k hk g' ?_
          by_cases hki : i = k
          · subst hki
            rw [getD_set_eq _ _ _ _ hir] at hg'
            rw [hT]
            exact hg'
          · rw [getD_set_ne _ _ _ _ _ hki] at hg'
            exact hg'
      case measure => simp [intOf]; omega
    · have e : i = l.length := by omega
      subst e
      have hL : l' = markL k0 l := by
        apply List.ext_getElem?
        intro k
        by_cases hk : k < l.length
        · have h3 := HD.out k hk
          rw [← markL_get k0 l k hk] at h3
          have hk' : k < l'.length := by rw [← HLL.out]; exact hk
          have hk2 : k < (markL k0 l).length := by rw [markL_len]; exact hk
          simp only [List.getD, List.getElem?_eq_getElem hk', List.getElem?_eq_getElem hk2, Option.getD_some] at h3
          rw [List.getElem?_eq_getElem hk', List.getElem?_eq_getElem hk2, h3]
        · rw [List.getElem?_eq_none (by rw [← HLL.out]; omega), List.getElem?_eq_none (by rw [markL_len]; omega)]
      have ho2 := HO.out
      rw [hL] at ho2
      have HO2 : Hid (OwnT wr B (.slice a l.length c) rs' (markL k0 l)) := ho2
      clear ho ho2 hL
      go_wp2_with fail
      go_ret
      exact ⟨rfl, ⟨rs', HO2.out⟩, HB.out, HSt.out, HOv.out⟩
theorem markCellS_any (a : Option Addr) (n c : Nat) (rs : List Rw) (l : List Cl) (k0 : Int) (B : Nat) (w : World) (h : OwnT w B (.slice a n c) rs l) (h0 : 0 ≤ k0) (h1 : k0 + 4 * l.length + 3 * (totT l : Nat) ≤ 50000000) (h2 : totT l ≤ 1048576) :
    Calls Try.prog 65 #[.slice a n c, .int .i64 k0] w fun e w' => e = .returned (.int .i64 (kAt k0 l l.length)) ∧ (∃ rs', OwnT w' B (.slice a n c) rs' (markL k0 l)) ∧ Below B w w' ∧ Stay w w' :=
  (markCellS_over a n c rs l k0 B w.heap.size w h (fun _ hg => (own_lt h.1.row hg).2) (fun k hk g hg => h.2.blockLt k hk g hg) h0 h1 h2).mono fun _ _ ⟨q1, q2, q3, q4, _⟩ => ⟨q1, q2, q3, q4⟩
end Go.Proofs.Ythjipnocemioaaa
namespace Go.Proofs.Ythjipnocemioaaa
open Go.RowKit

/-- Rows of blocks stay as they are. -/
def StayB (w w' : World) : Prop := ∀ b cs, RowAt w b cs 49 → RowAt w' b cs 49

set_option maxRecDepth 100000 in
set_option maxHeartbeats 4000000 in
theorem markCellS_overB (a : Option Addr) (n c : Nat) (rs : List Rw) (l : List Cl) (k0 : Int) (B E : Nat) (w : World) (h : OwnT w B (.slice a n c) rs l) (hE : ∀ g, (Value.slice a n c).ownBlock = some g → g < E) (hT : ∀ k, k < rs.length → ∀ g, (rwT (rs.getD k rw0)).ownBlock = some g → g < E) (h0 : 0 ≤ k0) (h1 : k0 + 4 * l.length + 3 * (totT l : Nat) ≤ 50000000) (h2 : totT l ≤ 1048576) :
    Calls Try.prog 65 #[.slice a n c, .int .i64 k0] w fun e w' => e = .returned (.int .i64 (kAt k0 l l.length)) ∧ (∃ rs', OwnT w' B (.slice a n c) rs' (markL k0 l) ∧ ∀ k, k < rs'.length → ∀ g, (rwT (rs'.getD k rw0)).ownBlock = some g → g < E) ∧ Below B w w' ∧ StayB w w' ∧ Over E w w' := by
  have hn := h.len
  have htab := h.tab
  have hcm := htab.2.2.1
  have hcn := htab.2.1
  unfold maxLen at hcm
  have HOT : Hid (OwnT w B (.slice a n c) rs l) := h
  have HE : Hid (∀ g, (Value.slice a n c).ownBlock = some g → g < E) := hE
  have HTE : Hid (∀ k, k < rs.length → ∀ g, (rwT (rs.getD k rw0)).ownBlock = some g → g < E) := hT
  clear hE hT
  clear h htab
  subst hn
  go_enter Try.func65, Try.ntmps65
  go_wp2_with fail
  go_loopw [1, 5] (fun kk iv wr => ∃ (i : Nat) (rs' : List Rw) (l' : List Cl), i ≤ l.length ∧ iv = .int .i64 i ∧ kk = .int .i64 (kAt k0 l i) ∧ OwnT wr B (.slice a l.length c) rs' l' ∧ (∀ k, k < l.length → (l'.getD k cl0).2.2.2.2.length = (l.getD k cl0).2.2.2.2.length) ∧ (∀ k, k < i → l'.getD k cl0 = mkC (kAt k0 l k) (l.getD k cl0).2.2.2.2.length) ∧ Below B w wr ∧ StayB w wr ∧ Over E w wr ∧ (∀ k, k < rs'.length → ∀ g, (rwT (rs'.getD k rw0)).ownBlock = some g → g < E)) (fun _ iv _ => l.length - (intOf iv).toNat)
  case atStart => exact ⟨0, rs, l, Nat.zero_le _, rfl, by simp [kAt, totT], HOT.out, fun _ _ => rfl, fun k hk => by omega, Below.refl _ _, fun _ _ hh => hh, fun _ _ _ => rfl, HTE.out⟩
  case round =>
    obtain ⟨i, rs', l', hi, rfl, rfl, ho, hlen, hdone, hb, hstay, hov, hte⟩ := hrel
    have HOv : Hid (Over E w wr) := hov
    have HTe : Hid (∀ k, k < rs'.length → ∀ g, (rwT (rs'.getD k rw0)).ownBlock = some g → g < E) := hte
    have HSz : Hid (w.heap.size ≤ wr.heap.size) := hb.size
    have HSt : Hid (StayB w wr) := hstay
    have HO : Hid (OwnT wr B (.slice a l.length c) rs' l') := ho
    have HLn : Hid (∀ k, k < l.length → (l'.getD k cl0).2.2.2.2.length = (l.getD k cl0).2.2.2.2.length) := hlen
    have HD : Hid (∀ k, k < i → l'.getD k cl0 = mkC (kAt k0 l k) (l.getD k cl0).2.2.2.2.length) := hdone
    have HB : Hid (Below B w wr) := hb
    have HLL : Hid (l.length = l'.length) := ho.len
    have HRL : Hid (l.length = rs'.length) := ho.1.len
    clear hlen hdone hb hstay hov hte
    by_cases hlt : i < l.length
    · have kge := kAt_ge k0 l i h0
      have kle := kAt_le k0 l i (by omega)
      have HSU : Hid (kAt k0 l (i + 1) = kAt k0 l i + 4 + 3 * ((l.getD i cl0).2.2.2.2.length : Nat)) := kAt_succ k0 l i hlt
      have hK : ∃ K, Hid (kAt k0 l i = K) := ⟨_, rfl⟩
      obtain ⟨K, HK⟩ := hK
      rw [HK.out] at kge kle ⊢
      rcases ho.1.row.2 with ⟨hv, hz⟩ | ⟨g, cap, cur, hv, hgB, hgg, _⟩
      · exfalso; omega
      simp only [Value.slice.injEq, true_and] at hv
      obtain ⟨rfl, rfl⟩ := hv
      have hrow := ho.1.row
      have glt := (own_lt hrow rfl).2
      have hxl := hrow.1
      have f0 := hrow.frozenAt (i * 5)
      have f1 := hrow.frozenAt (i * 5 + 1)
      have f2 := hrow.frozenAt (i * 5 + 2)
      have f3 := hrow.frozenAt (i * 5 + 3)
      obtain ⟨u0, d0⟩ : ∃ u, wr.cell? ⟨g, i * 5, none⟩ = some u := ⟨_, (hrow.cellAt (i * 5) (by omega)).trans (List.getElem?_eq_getElem (by omega))⟩
      obtain ⟨u1, d1⟩ : ∃ u, wr.cell? ⟨g, i * 5 + 1, none⟩ = some u := ⟨_, (hrow.cellAt (i * 5 + 1) (by omega)).trans (List.getElem?_eq_getElem (by omega))⟩
      obtain ⟨u2, d2⟩ : ∃ u, wr.cell? ⟨g, i * 5 + 2, none⟩ = some u := ⟨_, (hrow.cellAt (i * 5 + 2) (by omega)).trans (List.getElem?_eq_getElem (by omega))⟩
      obtain ⟨u3, d3⟩ : ∃ u, wr.cell? ⟨g, i * 5 + 3, none⟩ = some u := ⟨_, (hrow.cellAt (i * 5 + 3) (by omega)).trans (List.getElem?_eq_getElem (by omega))⟩
      have hK2 : K ≤ 50000000 := by omega
      clear ho hrow hxl hgg kle
      go_upto_region 12 with fail
      obtain ⟨⟨p, m, q⟩, hs⟩ : ∃ s, (rs'.getD i rw0).2.2.2.2 = s := ⟨_, rfl⟩
      obtain ⟨p0, _⟩ := HO.out.1.row.stored (i * 5) (.int .i64 K)
      obtain ⟨p1, _⟩ := p0.stored (i * 5 + 1) (.int .i64 (K + 1))
      obtain ⟨p2, _⟩ := p1.stored (i * 5 + 2) (.int .i64 (K + 1 + 1))
      obtain ⟨p3, _⟩ := p2.stored (i * 5 + 3) (.int .i64 (K + 1 + 1 + 1))
      have hir : i < rs'.length := by rw [← HRL.out]; exact hlt
      rw [flat5_set rs' i hir _ _ _ _ (p, m, q) hs] at p3
      have t3 : TxtOwn ((((wr.setCell ⟨g, i * 5, none⟩ (.int .i64 K)).setCell ⟨g, i * 5 + 1, none⟩ (.int .i64 (K + 1))).setCell ⟨g, i * 5 + 2, none⟩ (.int .i64 (K + 1 + 1))).setCell ⟨g, i * 5 + 3, none⟩ (.int .i64 (K + 1 + 1 + 1))) B (some g) rs' l' := (((HO.out.2.set ⟨g, i * 5, none⟩ (.int .i64 K) rfl).set ⟨g, i * 5 + 1, none⟩ (.int .i64 (K + 1)) rfl).set ⟨g, i * 5 + 2, none⟩ (.int .i64 (K + 1 + 1)) rfl).set ⟨g, i * 5 + 3, none⟩ (.int .i64 (K + 1 + 1 + 1)) rfl
      have b3 : Below B w ((((wr.setCell ⟨g, i * 5, none⟩ (.int .i64 K)).setCell ⟨g, i * 5 + 1, none⟩ (.int .i64 (K + 1))).setCell ⟨g, i * 5 + 2, none⟩ (.int .i64 (K + 1 + 1))).setCell ⟨g, i * 5 + 3, none⟩ (.int .i64 (K + 1 + 1 + 1))) := (((HB.out.setCell (p := ⟨g, i * 5, none⟩) hgB (.int .i64 K)).setCell (p := ⟨g, i * 5 + 1, none⟩) hgB (.int .i64 (K + 1))).setCell (p := ⟨g, i * 5 + 2, none⟩) hgB (.int .i64 (K + 1 + 1))).setCell (p := ⟨g, i * 5 + 3, none⟩) hgB (.int .i64 (K + 1 + 1 + 1))
      have st3 : StayB wr ((((wr.setCell ⟨g, i * 5, none⟩ (.int .i64 K)).setCell ⟨g, i * 5 + 1, none⟩ (.int .i64 (K + 1))).setCell ⟨g, i * 5 + 2, none⟩ (.int .i64 (K + 1 + 1))).setCell ⟨g, i * 5 + 3, none⟩ (.int .i64 (K + 1 + 1 + 1))) := by
        intro b cs hh
        have hne : b ≠ g := fun e => rowAt_ne hh HO.out.1.row (by decide) (by rw [e]; rfl)
        exact (((hh.other ⟨g, i * 5, none⟩ (.int .i64 K) hne).other ⟨g, i * 5 + 1, none⟩ (.int .i64 (K + 1)) hne).other ⟨g, i * 5 + 2, none⟩ (.int .i64 (K + 1 + 1)) hne).other ⟨g, i * 5 + 3, none⟩ (.int .i64 (K + 1 + 1 + 1)) hne
      have sz3 : ((((wr.setCell ⟨g, i * 5, none⟩ (.int .i64 K)).setCell ⟨g, i * 5 + 1, none⟩ (.int .i64 (K + 1))).setCell ⟨g, i * 5 + 2, none⟩ (.int .i64 (K + 1 + 1))).setCell ⟨g, i * 5 + 3, none⟩ (.int .i64 (K + 1 + 1 + 1))).heap.size = wr.heap.size := by simp only [Go.Deep.nblk_setCell]
      have ov3 : Over E w ((((wr.setCell ⟨g, i * 5, none⟩ (.int .i64 K)).setCell ⟨g, i * 5 + 1, none⟩ (.int .i64 (K + 1))).setCell ⟨g, i * 5 + 2, none⟩ (.int .i64 (K + 1 + 1))).setCell ⟨g, i * 5 + 3, none⟩ (.int .i64 (K + 1 + 1 + 1))) := by
        intro b hb1 hb2
        have hge : g < E := HE.out g rfl
        have hne : b ≠ g := by omega
        rw [Below.heap_setCell _ _ _ _ hne, Below.heap_setCell _ _ _ _ hne, Below.heap_setCell _ _ _ _ hne, Below.heap_setCell _ _ _ _ hne]
        exact HOv.out b hb1 hb2
      clear p0 p1 p2 d0 d1 d2 d3 f0 f1 f2 f3
      generalize ((((wr.setCell ⟨g, i * 5, none⟩ (.int .i64 K)).setCell ⟨g, i * 5 + 1, none⟩ (.int .i64 (K + 1))).setCell ⟨g, i * 5 + 2, none⟩ (.int .i64 (K + 1 + 1))).setCell ⟨g, i * 5 + 3, none⟩ (.int .i64 (K + 1 + 1 + 1))) = v at p3 t3 b3 sz3 st3 ov3 ⊢
      have HS3 : Hid (StayB wr v) := st3
      have HOv3 : Hid (Over E w v) := ov3
      clear st3 ov3
      have hc4 : v.cell? ⟨g, i * 5 + 4, none⟩ = some (.slice p m q) := by
        rw [p3.cellAt (i * 5 + 4) (by omega), flat5_get _ i 4 (by simpa using hir) (by omega), getD_set_eq _ _ _ _ hir]
        rfl
      have hto : Own v B (.slice p m q) (l'.getD i cl0).2.2.2.2 := by
        have := (t3.2.1 i hir).2.2.2.2
        unfold rwT at this
        rw [hs] at this
        exact this
      have HMN : Hid (m = (l.getD i cl0).2.2.2.2.length) := hto.len.trans (HLn.out i hlt)
      have HTO : Hid (Own v B (.slice p m q) (l'.getD i cl0).2.2.2.2) := hto
      have HP3 : Hid (v.ownsRow B 59 5 (.slice (some ⟨g, 0, none⟩) l.length c) l.length (flat5 (rs'.set i (K, K + 1, K + 1 + 1, K + 1 + 1 + 1, p, m, q)))) := p3
      have HT3 : Hid (TxtOwn v B (some g) rs' l') := t3
      have HS : Hid ((rs'.getD i rw0).2.2.2.2 = (p, m, q)) := hs
      have hm6 : m ≤ 1048576 := by
        have := totT_le l i hlt
        rw [HMN.out]
        omega
      clear hto p3 t3 hs
      go_wp2_with (go_at_call 64; refine (markSignS_any p m q (l'.getD i cl0).2.2.2.2 _ B _ HTO.out hm6 (by omega) (by omega)).mono ?_; rintro e w2 ⟨rfl, hO2, hg2⟩)
      go_roundw
      case rel =>
        have hT : rwT (rs'.getD i rw0) = .slice p m q := by
          unfold rwT
          rw [HS.out]
        have hne : ∀ g', (Value.slice p m q).ownBlock = some g' → some g ≠ some g' := fun g' hg' => HT3.out.2.2.1 i hir g' (by rw [hT]; exact hg')
        have e4 : K + 1 + 1 + 1 + 1 = K + 4 := by omega
        rw [e4] at hO2
        have hR : OwnR w2 B (.slice (some ⟨g, 0, none⟩) l.length c) (rs'.set i (K, K + 1, K + 1 + 1, K + 1 + 1 + 1, p, m, q)) := by
          unfold OwnR
          rw [List.length_set, ← HRL.out]
          exact own_grown HP3.out hg2 (fun g' hg' hq => by
            have e : g = g' := by simpa [Value.ownBlock] using hg'
            exact hne g' hq (by rw [e]))
        have hX : TxtOwn w2 B (some g) (rs'.set i (K, K + 1, K + 1 + 1, K + 1 + 1 + 1, p, m, q)) (l'.set i (mkC K m)) := by
          refine HT3.out.upd i hir _ _ (by rw [hT]; rfl) ⟨rfl, rfl, by show K + 1 + 1 = K + 2; omega, by show K + 1 + 1 + 1 = K + 3; omega, hO2⟩ ?_
          intro k hk hki
          refine own_grown (HT3.out.2.1 k hk).2.2.2.2 hg2 (fun g' hg' hq => ?_)
          rcases Nat.lt_or_ge k i with h3 | h3
          · exact HT3.out.2.2.2 k i h3 hir g' hg' (by rw [hT]; exact hq)
          · exact HT3.out.2.2.2 i k (by omega) hk g' (by rw [hT]; exact hq) hg'
        have hil : i < l'.length := by rw [← HLL.out]; exact hlt
        refine ⟨i + 1, _, l'.set i (mkC K m), by omega, by go_num, ?_, ⟨hR, hX⟩, ?_, ?_, ?_, ?_, ?_, ?_⟩
        · rw [HSU.out, HK.out, ← HMN.out]
          congr 1
          omega
        · intro k hk
          by_cases hki : i = k
          · subst hki
            rw [getD_set_eq _ _ _ _ hil, ← HMN.out]
            exact marked_len _ _
          · rw [getD_set_ne _ _ _ _ _ hki]
            exact HLn.out k hk
        · intro k hk
          by_cases hki : i = k
          · subst hki
            rw [getD_set_eq _ _ _ _ hil, HK.out, ← HMN.out]
          · rw [getD_set_ne _ _ _ _ _ hki]
            exact HD.out k (by omega)
        · exact b3.grown hg2 (by rw [sz3]; omega) (fun q' hq' => (own_lt HTO.out.row hq').1)
        · intro b cs hh
          have h3 := HS3.out b cs (HSt.out b cs hh)
          exact h3.grown hg2 (rowAt_ne h3 HTO.out.row (by decide))
        · intro b hb1 hb2
          have e5 := HSz.out
          refine (hg2.block b (by rw [sz3]; omega) (fun e => ?_)).trans (HOv3.out b hb1 hb2)
          have := HTe.out i hir b (by rw [hT]; exact e.symm)
          omega
        · intro k hk g' hg'
          simp only [List.length_set] at hk
          refine HTe.out k hk g' ?_
          by_cases hki : i = k
          · subst hki
            rw [getD_set_eq _ _ _ _ hir] at hg'
            rw [hT]
            exact hg'
          · rw [getD_set_ne _ _ _ _ _ hki] at hg'
            exact hg'
      case measure => simp [intOf]; omega
    · have e : i = l.length := by omega
      subst e
      have hL : l' = markL k0 l := by
        apply List.ext_getElem?
        intro k
        by_cases hk : k < l.length
        · have h3 := HD.out k hk
          rw [← markL_get k0 l k hk] at h3
          have hk' : k < l'.length := by rw [← HLL.out]; exact hk
          have hk2 : k < (markL k0 l).length := by rw [markL_len]; exact hk
          simp only [List.getD, List.getElem?_eq_getElem hk', List.getElem?_eq_getElem hk2, Option.getD_some] at h3
          rw [List.getElem?_eq_getElem hk', List.getElem?_eq_getElem hk2, h3]
        · rw [List.getElem?_eq_none (by rw [← HLL.out]; omega), List.getElem?_eq_none (by rw [markL_len]; omega)]
      have ho2 := HO.out
      rw [hL] at ho2
      have HO2 : Hid (OwnT wr B (.slice a l.length c) rs' (markL k0 l)) := ho2
      clear ho ho2 hL
      go_wp2_with fail
      go_ret
      exact ⟨rfl, ⟨rs', HO2.out, HTe.out⟩, HB.out, HSt.out, HOv.out⟩
end Go.Proofs.Ythjipnocemioaaa
namespace Go.Proofs.Ythjipnocemioaaa
open Go.RowKit

theorem rb_getD_set_self {l : List Rb} {i : Nat} {x : Rb} (h : i < l.length) : (l.set i x).getD i rb0 = x := by simp [List.getD, h]
theorem rb_getD_set_other {l : List Rb} {i k : Nat} {x : Rb} (h : i ≠ k) : (l.set i x).getD k rb0 = l.getD k rb0 := by simp [List.getD, List.getElem?_set_ne h]
theorem bl_getD_set_self {l : List Bl} {i : Nat} {x : Bl} (h : i < l.length) : (l.set i x).getD i bl0 = x := by simp [List.getD, h]
theorem bl_getD_set_other {l : List Bl} {i k : Nat} {x : Bl} (h : i ≠ k) : (l.set i x).getD k bl0 = l.getD k bl0 := by simp [List.getD, List.getElem?_set_ne h]
theorem flat6_set (rbs : List Rb) (m j : Nat) (hm : m < rbs.length) (hj : j < 6) (u : Value) (x : Rb) (hx : rbCells x = (rbCells (rbs.getD m rb0)).set j u) : (flat6 rbs).set (m * 6 + j) u = flat6 (rbs.set m x) := by
  apply List.ext_getElem?
  intro i
  have hlen := flat6_length rbs
  by_cases hi : i < rbs.length * 6
  · have hi6 : i = i / 6 * 6 + i % 6 := by omega
    have hk : i / 6 < rbs.length := by omega
    have hr : i % 6 < 6 := by omega
    generalize i / 6 = k at hi6 hk
    generalize i % 6 = r at hi6 hr
    subst hi6
    rw [flat6_get (rbs.set m x) k (by simpa using hk) r hr]
    by_cases hkm : m = k
    · subst hkm
      rw [rb_getD_set_self hm, hx]
      by_cases hjr : j = r
      · subst hjr
        rw [List.getElem?_set_self (by omega), List.getElem?_set_self (by simp [rbCells]; omega)]
      · rw [List.getElem?_set_ne (by omega), List.getElem?_set_ne hjr]
        exact flat6_get rbs m hk r hr
    · rw [rb_getD_set_other hkm, List.getElem?_set_ne (by omega)]
      exact flat6_get rbs k hk r hr
  · rw [List.getElem?_eq_none (by simp; omega), List.getElem?_eq_none (by rw [flat6_length]; simp; omega)]
/-- The row of a document's blocks behind a store into one of its cells. -/
theorem rows_set {w : World} {B g n c : Nat} {rbs : List Rb} (h : w.ownsRow B 49 6 (.slice (some ⟨g, 0, none⟩) n c) rbs.length (flat6 rbs)) (m j : Nat) (hm : m < rbs.length) (hj : j < 6) (u : Value) (x : Rb) (hx : rbCells x = (rbCells (rbs.getD m rb0)).set j u) : (w.setCell ⟨g, m * 6 + j, none⟩ u).ownsRow B 49 6 (.slice (some ⟨g, 0, none⟩) n c) (rbs.set m x).length (flat6 (rbs.set m x)) := by
  have hn : n = rbs.length := by
    rcases h.2 with ⟨hv, _⟩ | ⟨g', cap, cur, hv, _⟩
    · cases hv
    · simp only [Value.slice.injEq] at hv
      exact hv.2.1
  subst hn
  have := (h.stored (m * 6 + j) u).1
  rw [flat6_set rbs m j hm hj u x hx] at this
  rw [List.length_set]
  exact this
theorem BlsOwn.upd {w w' : World} {B E : Nat} {rbs : List Rb} {d : List Bl} (h : BlsOwn w B E rbs d) (hk : Kept B E w w') (m : Nat) (x : Rb) (y : Bl) (hxy : ∀ lo mid hi, BlOwn w' lo mid hi (rbs.getD m rb0) (d.getD m bl0) → BlOwn w' lo mid hi x y) : BlsOwn w' B E (rbs.set m x) (d.set m y) := by
  obtain ⟨h0, lo, mid, hi, h1, h2⟩ := h.kept hk
  refine ⟨by simp [h0], lo, mid, hi, fun k hk => ?_, fun k hk => h2 k (by simpa using hk)⟩
  simp only [List.length_set] at hk
  obtain ⟨a, b, c⟩ := h1 k hk
  refine ⟨a, b, ?_⟩
  by_cases e : m = k
  · subst e
    rw [rb_getD_set_self (by omega), bl_getD_set_self hk]
    exact hxy _ _ _ c
  · rw [rb_getD_set_other e, bl_getD_set_other e]
    exact c
theorem docOwn_kind {w : World} {B E g n c : Nat} {rbs : List Rb} {d : List Bl} (h : DocOwn w B E (.slice (some ⟨g, 0, none⟩) n c) rbs d) (m : Nat) (hm : m < d.length) (k : Int) : DocOwn (w.setCell ⟨g, m * 6, none⟩ (.int .i64 k)) B E (.slice (some ⟨g, 0, none⟩) n c) (rbs.set m (k, (rbs.getD m rb0).2)) (d.set m (k, (d.getD m bl0).2)) := by
  have hl := h.2.2.1
  obtain ⟨cur, hcur⟩ := own_rowAt h.1
  refine docOwn_of ?_ h.2.1 (h.bls.upd (kept_set hcur _ _ _ _) m _ _ (fun lo mid hi hb => ⟨⟨rfl, hb.1.2⟩, hb.2⟩))
  have := rows_set h.1 m 0 (by omega) (by omega) (.int .i64 k) (k, (rbs.getD m rb0).2) rfl
  rwa [Nat.add_zero] at this
theorem docOwn_level {w : World} {B E g n c : Nat} {rbs : List Rb} {d : List Bl} (h : DocOwn w B E (.slice (some ⟨g, 0, none⟩) n c) rbs d) (m : Nat) (hm : m < d.length) (v : Int) : DocOwn (w.setCell ⟨g, m * 6 + 1, none⟩ (.int .i64 v)) B E (.slice (some ⟨g, 0, none⟩) n c) (rbs.set m ((rbs.getD m rb0).1, v, (rbs.getD m rb0).2.2)) (d.set m ((d.getD m bl0).1, v, (d.getD m bl0).2.2)) := by
  have hl := h.2.2.1
  obtain ⟨cur, hcur⟩ := own_rowAt h.1
  refine docOwn_of ?_ h.2.1 (h.bls.upd (kept_set hcur _ _ _ _) m _ _ (fun lo mid hi hb => ⟨⟨hb.1.1, rfl, hb.1.2.2⟩, hb.2⟩))
  exact rows_set h.1 m 1 (by omega) (by omega) (.int .i64 v) _ rfl
/-- A document's row is read. -/
theorem docOwn_at {w : World} {B E : Nat} {pa : Option Addr} {n pc : Nat} {rbs : List Rb} {d : List Bl} (h : DocOwn w B E (.slice pa n pc) rbs d) {i : Nat} (hi : i < n) : ∃ g, pa = some ⟨g, 0, none⟩ ∧ B ≤ g ∧ g < w.heap.size ∧ (∀ j, j < 6 → w.cell? ⟨g, i * 6 + j, none⟩ = (rbCells (rbs.getD i rb0))[j]?) ∧ ∀ j, w.frozen? ⟨g, i * 6 + j, none⟩ = false := by
  have hn := h.len
  have hl := h.2.2.1
  have hr := h.1
  rcases hr.2 with ⟨hv, h0⟩ | ⟨g, cap, cur, hv, hg, hgg, _⟩
  · omega
  · simp only [Value.slice.injEq] at hv
    obtain ⟨rfl, h6, rfl⟩ := hv
    rw [← h6] at hr
    refine ⟨g, rfl, hg, (Array.getElem?_eq_some_iff.1 hgg).1, fun j hj => ?_, fun j => hr.frozenAt _⟩
    rw [hr.cellAt (i * 6 + j) (by omega)]
    exact flat6_get rbs i (by omega) j hj
end Go.Proofs.Ythjipnocemioaaa
namespace Go.Proofs.Ythjipnocemioaaa
open Go.RowKit

/-- The block that the marker lays, from K on. -/
def mkB (K : Int) (x : Bl) : Bl := (K, K + 1, marked (K + 1 + 1) x.2.2.1.length, K + 1 + 1 + 3 * (x.2.2.1.length : Nat), K + 1 + 1 + 3 * (x.2.2.1.length : Nat) + 1, markL (K + 1 + 1 + 3 * (x.2.2.1.length : Nat) + 1 + 1) x.2.2.2.2.2)
def szM (x : Bl) : Nat := 4 + 3 * x.2.2.1.length + 4 * x.2.2.2.2.2.length + 3 * totT x.2.2.2.2.2
def kD (k0 : Int) (d : List Bl) (i : Nat) : Int := k0 + (((d.take i).map szM).sum : Nat)
/-- The first i blocks are marked. -/
def markTo (k0 : Int) (d : List Bl) (i : Nat) : List Bl := (List.range d.length).map fun k => if k < i then mkB (kD k0 d k) (d.getD k bl0) else d.getD k bl0
theorem markTo_len (k0 : Int) (d : List Bl) (i : Nat) : (markTo k0 d i).length = d.length := by simp [markTo]
theorem markTo_get {k0 : Int} {d : List Bl} {i k : Nat} (hk : k < d.length) : (markTo k0 d i).getD k bl0 = if k < i then mkB (kD k0 d k) (d.getD k bl0) else d.getD k bl0 := by
  simp only [markTo, List.getD, List.getElem?_map, List.getElem?_range hk, Option.map_some, Option.getD_some]
theorem getD_bl' {d : List Bl} {k : Nat} (hk : k < d.length) : d.getD k bl0 = d[k] := by simp [List.getD, hk]
theorem bl_ext' {a b : List Bl} (hl : a.length = b.length) (h : ∀ k, k < b.length → a.getD k bl0 = b.getD k bl0) : a = b := by
  apply List.ext_getElem hl
  intro k h1 h2
  have := h k h2
  rwa [getD_bl' h1, getD_bl' h2] at this
theorem markTo_zero (k0 : Int) (d : List Bl) : markTo k0 d 0 = d := bl_ext' (markTo_len _ _ _) fun k hk => by rw [markTo_get hk, if_neg (by omega)]
theorem markTo_succ {k0 : Int} {d : List Bl} {m : Nat} : markTo k0 d (m + 1) = (markTo k0 d m).set m (mkB (kD k0 d m) (d.getD m bl0)) := by
  refine bl_ext' (by simp [markTo_len]) fun k hk => ?_
  rw [List.length_set, markTo_len] at hk
  rw [markTo_get hk]
  by_cases e : m = k
  · subst e
    rw [if_pos (by omega), bl_getD_set_self (by rw [markTo_len]; exact hk)]
  · rw [bl_getD_set_other e, markTo_get hk]
    by_cases h1 : k < m
    · rw [if_pos h1, if_pos (by omega)]
    · rw [if_neg h1, if_neg (by omega)]
theorem kD_succ {k0 : Int} {d : List Bl} {i : Nat} (h : i < d.length) : kD k0 d (i + 1) = kD k0 d i + (szM (d.getD i bl0) : Nat) := by
  unfold kD
  rw [List.take_succ_eq_append_getElem h, List.map_append, List.sum_append, getD_bl' h]
  simp
  omega
theorem kD_ge {k0 : Int} (d : List Bl) (i : Nat) (h : 0 ≤ k0) : 0 ≤ kD k0 d i := by
  unfold kD
  omega
theorem szM_le (x : Bl) : szM x ≤ 4 + 4 * szB x := by
  unfold szM szB
  omega
theorem kD_le {k0 : Int} {d : List Bl} : ∀ {i : Nat}, i ≤ d.length → kD k0 d i ≤ k0 + 4 * (i : Nat) + 4 * (totD (d.take i) : Nat) := by
  intro i
  induction i with
  | zero => intro _; simp [kD, totD]
  | succ i ih =>
    intro h
    have h1 := ih (by omega)
    rw [kD_succ (by omega), totD_take d i (by omega)]
    have := szM_le (d.getD i bl0)
    omega
theorem chain_le {lo mid hi : Nat → Nat} {n : Nat} (h1 : ∀ k, k < n → lo k ≤ mid k ∧ mid k ≤ hi k) (h2 : ∀ k, k + 1 < n → hi k ≤ lo (k + 1)) : ∀ {i k : Nat}, i < k → k < n → hi i ≤ lo k := by
  intro i k
  induction k with
  | zero => intro h _; omega
  | succ k ih =>
    intro h hk
    have hs := h2 k hk
    by_cases e : i = k
    · subst e; exact hs
    · have := ih (by omega) (by omega)
      have := h1 k (by omega)
      omega
theorem own_stay {w w' : World} {B size n : Nat} {v : Value} {xs : List Value} (h : w.ownsRow B 49 size v n xs) (hs : StayB w w') : w'.ownsRow B 49 size v n xs := by
  refine ⟨h.1, ?_⟩
  rcases h.2 with hn | ⟨g, cap, cur, rfl, hg, hgg, rest⟩
  · exact .inl hn
  · exact .inr ⟨g, cap, cur, rfl, hg, hs g cur hgg, rest⟩
theorem rows_at {w : World} {B g n c : Nat} {rbs : List Rb} (h : w.ownsRow B 49 6 (.slice (some ⟨g, 0, none⟩) n c) rbs.length (flat6 rbs)) {i : Nat} (hi : i < rbs.length) : (∀ j, j < 6 → w.cell? ⟨g, i * 6 + j, none⟩ = (rbCells (rbs.getD i rb0))[j]?) ∧ ∀ j, w.frozen? ⟨g, i * 6 + j, none⟩ = false := by
  have hn : n = rbs.length := by
    rcases h.2 with ⟨hv, _⟩ | ⟨g', cap, cur, hv, _⟩
    · cases hv
    · simp only [Value.slice.injEq] at hv
      exact hv.2.1
  subst hn
  refine ⟨fun j hj => ?_, fun j => h.frozenAt _⟩
  rw [h.cellAt (i * 6 + j) (by omega)]
  exact flat6_get rbs i hi j hj
set_option maxRecDepth 100000 in
set_option maxHeartbeats 16000000 in
theorem markBlockS_over {a : Option Addr} {n c : Nat} {rbs : List Rb} {d : List Bl} {k0 : Int} {B E : Nat} {w : World} (h : DocOwn w B E (.slice a n c) rbs d) (hE : E ≤ w.heap.size) (hB : B ≤ E) (h0 : 0 ≤ k0) (h1 : k0 ≤ 1000) (h2 : d.length + totD d ≤ 1048576) :
    Calls Try.prog 43 #[.slice a n c, .int .i64 k0] w fun e w' => e = .returned (.int .i64 (kD k0 d d.length)) ∧ (∃ rbs', DocOwn w' B E (.slice a n c) rbs' (markTo k0 d d.length)) ∧ Below B w w' ∧ Over E w w' := by
  have hn := h.len
  have hc1 := h.dc.2.1
  have hc2 := h.dc.2.2.1
  unfold maxLen at hc2
  subst hn
  have H : Hid (DocOwn w B E (.slice a d.length c) rbs d) := h
  have HKL : Hid (∀ i, i ≤ d.length → 0 ≤ kD k0 d i ∧ kD k0 d i ≤ 10000000) := fun i hi => by
    refine ⟨kD_ge d i h0, ?_⟩
    have h3 := kD_le (k0 := k0) hi
    have h4 := totD_append (d.take i) (d.drop i)
    rw [List.take_append_drop] at h4
    omega
  clear h
  go_enter Try.func43, Try.ntmps43
  go_wp2_with fail
  go_loopw [1, 5] (fun kk iv wr => ∃ (i : Nat) (rbs' : List Rb), i ≤ d.length ∧ iv = .int .i64 i ∧ kk = .int .i64 (kD k0 d i) ∧ DocOwn wr B E (.slice a d.length c) rbs' (markTo k0 d i) ∧ w.heap.size ≤ wr.heap.size ∧ Below B w wr ∧ Over E w wr) (fun _ iv _ => d.length - (intOf iv).toNat)
  case atStart => exact ⟨0, rbs, Nat.zero_le _, rfl, by simp [kD], by rw [markTo_zero]; exact H.out, Nat.le_refl _, Below.refl _ _, fun _ _ _ => rfl⟩
  case round =>
    obtain ⟨i, rbs', hi, rfl, rfl, ho, hsz, hb, hov⟩ := hrel
    have HO : Hid (DocOwn wr B E (.slice a d.length c) rbs' (markTo k0 d i)) := ho
    have HB : Hid (Below B w wr) := hb
    have HOv : Hid (Over E w wr) := hov
    clear hb hov
    obtain ⟨kge, kle⟩ := HKL.out i hi
    by_cases hlt : i < d.length
    · have hib : (i : Int) < (d.length : Int) := by omega
      have hi0 : (0 : Int) ≤ (i : Int) := by omega
      have HSU : Hid (kD k0 d (i + 1) = kD k0 d i + (szM (d.getD i bl0) : Nat)) := kD_succ hlt
      have HMS : Hid (markTo k0 d (i + 1) = (markTo k0 d i).set i (mkB (kD k0 d i) (d.getD i bl0))) := markTo_succ
      have hle := totD_le d i hlt
      obtain ⟨g, rfl, hg1, hg2, hcs, hfz⟩ := docOwn_at ho hlt
      have gE : g < E := ho.2.1 g rfl
      obtain ⟨lo, mid, hi', hbl, hch⟩ := ho.2.2.2
      have hlen := ho.2.2.1
      rw [markTo_len] at hlen hbl hch
      have hbi := hbl i hlt
      rw [markTo_get hlt, if_neg (by omega)] at hbi
      obtain ⟨hBl, hhE, hbo⟩ := hbi
      obtain ⟨K, HK⟩ : ∃ K, Hid (kD k0 d i = K) := ⟨_, rfl⟩
      rw [HK.out] at kge kle HSU HMS ⊢
      have HFAM : Hid (∀ k, k < d.length → k ≠ i → BlOwn wr (lo k) (mid k) (hi' k) (rbs'.getD k rb0) ((markTo k0 d i).getD k bl0)) := fun k hk _ => (hbl k hk).2.2
      have HCH : Hid (∀ k, k < d.length → k ≠ i → B ≤ lo k ∧ hi' k ≤ E ∧ (hi' k ≤ lo i ∨ hi' i ≤ lo k)) := fun k hk hne => by
        have hm : ∀ k, k < d.length → lo k ≤ mid k ∧ mid k ≤ hi' k := fun k hk => (hbl k hk).2.2.2.2.2.2
        refine ⟨(hbl k hk).1, (hbl k hk).2.1, ?_⟩
        rcases Nat.lt_or_gt_of_ne hne with h | h
        · exact .inl (chain_le hm hch h hlt)
        · exact .inr (chain_le hm hch h hk)
      have HHI : Hid (∀ k, k < d.length → B ≤ lo k ∧ hi' k ≤ E) := fun k hk => ⟨(hbl k hk).1, (hbl k hk).2.1⟩
      have HCH2 : Hid (∀ k, k + 1 < d.length → hi' k ≤ lo (k + 1)) := hch
      obtain ⟨⟨xk, xv, ⟨p, tn, q⟩, xR, xC, ⟨p', cn, q'⟩⟩, hx⟩ : ∃ x, x = rbs'.getD i rb0 := ⟨_, rfl⟩
      obtain ⟨⟨yk, yv, t, yR, yC, l⟩, hy⟩ : ∃ x, x = d.getD i bl0 := ⟨_, rfl⟩
      rw [← hx] at hbo
      rw [← hy] at hbo HSU HMS hle
      obtain ⟨-, hot, htm, ⟨rs, hoT, hcE, hrE⟩, hlm, hmh⟩ := hbo
      simp only [sl3V] at hot htm hoT hcE hlm hmh
      have htl : tn = t.length := Own.len hot
      have htn : tn ≤ 1048576 := by
        have : t.length ≤ szB (yk, yv, t, yR, yC, l) := Nat.le_add_right _ _
        omega
      have hll : l.length ≤ 1048576 ∧ totT l ≤ 1048576 := by
        have : l.length + totT l ≤ szB (yk, yv, t, yR, yC, l) := Nat.le_add_left _ _
        omega
      obtain ⟨hl1, hl2⟩ := hll
      have HTL : Hid (tn = t.length) := htl
      have HLEN : Hid (rbs'.length = d.length) := hlen
      have hli : i < rbs'.length := by omega
      clear htl hlen
      have c0 := hcs 0 (by omega)
      have c1 := hcs 1 (by omega)
      rw [← hx] at c0 c1
      have d0 : wr.cell? ⟨g, i * 6, none⟩ = some (.int .i64 xk) := c0
      have d1 : wr.cell? ⟨g, i * 6 + 1, none⟩ = some (.int .i64 xv) := c1
      have f0 : wr.frozen? ⟨g, i * 6, none⟩ = false := hfz 0
      have f1 := hfz 1
      have hrow := ho.1
      have r1 : (wr.setCell ⟨g, i * 6, none⟩ (.int .i64 K)).ownsRow B 49 6 (.slice (some ⟨g, 0, none⟩) d.length c) (rbs'.set i (K, xv, (p, tn, q), xR, xC, (p', cn, q'))).length (flat6 (rbs'.set i (K, xv, (p, tn, q), xR, xC, (p', cn, q')))) := by
        have := rows_set hrow i 0 hli (by omega) (.int .i64 K) (K, xv, (p, tn, q), xR, xC, (p', cn, q')) (by rw [← hx]; rfl)
        rwa [Nat.add_zero] at this
      have r2 : ((wr.setCell ⟨g, i * 6, none⟩ (.int .i64 K)).setCell ⟨g, i * 6 + 1, none⟩ (.int .i64 (K + 1))).ownsRow B 49 6 (.slice (some ⟨g, 0, none⟩) d.length c) (rbs'.set i (K, K + 1, (p, tn, q), xR, xC, (p', cn, q'))).length (flat6 (rbs'.set i (K, K + 1, (p, tn, q), xR, xC, (p', cn, q')))) := by
        have := rows_set r1 i 1 (by simpa using hli) (by omega) (.int .i64 (K + 1)) (K, K + 1, (p, tn, q), xR, xC, (p', cn, q')) (by rw [rb_getD_set_self hli]; rfl)
        rwa [List.set_set] at this
      obtain ⟨cur0, hcur0⟩ := own_rowAt hrow
      obtain ⟨cur1, hcur1⟩ := own_rowAt r1
      have K1 : ∀ B E, Kept B E wr ((wr.setCell ⟨g, i * 6, none⟩ (.int .i64 K)).setCell ⟨g, i * 6 + 1, none⟩ (.int .i64 (K + 1))) := fun B E => (kept_set hcur0 B E _ _).trans (kept_set hcur1 B E _ _)
      have F1 : Hid (∀ k, k < d.length → k ≠ i → BlOwn ((wr.setCell ⟨g, i * 6, none⟩ (.int .i64 K)).setCell ⟨g, i * 6 + 1, none⟩ (.int .i64 (K + 1))) (lo k) (mid k) (hi' k) (rbs'.getD k rb0) ((markTo k0 d i).getD k bl0)) := fun k hk hne => (HFAM.out k hk hne).kept (K1 _ _)
      have T1 : Own ((wr.setCell ⟨g, i * 6, none⟩ (.int .i64 K)).setCell ⟨g, i * 6 + 1, none⟩ (.int .i64 (K + 1))) (lo i) (.slice p tn q) t := own_kept hot (by decide) htm (K1 _ _)
      have C1 : OwnT ((wr.setCell ⟨g, i * 6, none⟩ (.int .i64 K)).setCell ⟨g, i * 6 + 1, none⟩ (.int .i64 (K + 1))) (mid i) (.slice p' cn q') rs l := ownT_kept hoT hcE hrE (K1 _ _)
      have B1 : Below B w ((wr.setCell ⟨g, i * 6, none⟩ (.int .i64 K)).setCell ⟨g, i * 6 + 1, none⟩ (.int .i64 (K + 1))) := (HB.out.setCell (p := ⟨g, i * 6, none⟩) hg1 _).setCell (p := ⟨g, i * 6 + 1, none⟩) hg1 _
      have O1 : Over E w ((wr.setCell ⟨g, i * 6, none⟩ (.int .i64 K)).setCell ⟨g, i * 6 + 1, none⟩ (.int .i64 (K + 1))) := fun b hb hb' => by
        rw [Go.Deep.blk_setCell_other _ _ _ _ (by simp; omega), Go.Deep.blk_setCell_other _ _ _ _ (by simp; omega)]
        exact HOv.out b hb hb'
      have sz1 : w.heap.size ≤ ((wr.setCell ⟨g, i * 6, none⟩ (.int .i64 K)).setCell ⟨g, i * 6 + 1, none⟩ (.int .i64 (K + 1))).heap.size := by simpa using hsz
      have HTM : Hid (∀ g, (Value.slice p tn q).ownBlock = some g → g < mid i) := htm
      have HCE : Hid (∀ g, (Value.slice p' cn q').ownBlock = some g → g < hi' i) := hcE
      have HRE : Hid (∀ k, k < rs.length → ∀ g, (rwT (rs.getD k rw0)).ownBlock = some g → g < hi' i) := hrE
      clear ho hcs hfz hbl hch hot htm hoT hcE hrE r1 hcur0 hcur1 K1 hrow hx hy HO HB HOv HFAM
      go_upto_region 8 with fail
      clear d0 d1 f0 f1 c0 c1
      generalize ((wr.setCell ⟨g, i * 6, none⟩ (.int .i64 K)).setCell ⟨g, i * 6 + 1, none⟩ (.int .i64 (K + 1))) = v1 at r2 F1 T1 C1 B1 O1 sz1 ⊢
      have hl2' : i < (rbs'.set i (K, K + 1, (p, tn, q), xR, xC, (p', cn, q'))).length := by simpa using hli
      have k2 : v1.cell? ⟨g, i * 6 + 2, none⟩ = some (.slice p tn q) := by
        have := (rows_at r2 hl2').1 2 (by omega)
        rw [rb_getD_set_self hli] at this
        exact this
      have HR2 : Hid (v1.ownsRow B 49 6 (.slice (some ⟨g, 0, none⟩) d.length c) (rbs'.set i (K, K + 1, (p, tn, q), xR, xC, (p', cn, q'))).length (flat6 (rbs'.set i (K, K + 1, (p, tn, q), xR, xC, (p', cn, q'))))) := r2
      have HT1 : Hid (Own v1 (lo i) (.slice p tn q) t) := T1
      have HC1 : Hid (OwnT v1 (mid i) (.slice p' cn q') rs l) := C1
      have HB1 : Hid (Below B w v1) := B1
      have HO1 : Hid (Over E w v1) := O1
      clear r2 T1 C1 B1 O1
      go_upto_region 9 with (go_at_call 64; refine (markSignS_any p tn q t _ (lo i) _ HT1.out htn (by omega) (by omega)).mono ?_; rintro e w2 ⟨rfl, ho2, hgrow⟩)
      have tlt : ∀ z, (Value.slice p tn q).ownBlock = some z → lo i ≤ z ∧ z < mid i := fun z hz => ⟨(own_lt HT1.out hz).1, HTM.out z hz⟩
      have s2 := hgrow.size
      have same : ∀ b, b < E → ¬ (lo i ≤ b ∧ b < mid i) → w2.heap[b]? = v1.heap[b]? := fun b hb hn => hgrow.block b (by omega) (fun e => hn (tlt b e.symm))
      have F2 : Hid (∀ k, k < d.length → k ≠ i → BlOwn w2 (lo k) (mid k) (hi' k) (rbs'.getD k rb0) ((markTo k0 d i).getD k bl0)) := fun k hk hne => (F1.out k hk hne).mid (fun b hb hb' => by
        obtain ⟨h1, h2, h3⟩ := HCH.out k hk hne
        exact same b (by omega) (by omega))
      have C2 : OwnT w2 (mid i) (.slice p' cn q') rs l := ownT_kept HC1.out HCE.out HRE.out (Mid.kept (fun b hb hb' => same b (by omega) (by omega)))
      have r2 : w2.ownsRow B 49 6 (.slice (some ⟨g, 0, none⟩) d.length c) (rbs'.set i (K, K + 1, (p, tn, q), xR, xC, (p', cn, q'))).length (flat6 (rbs'.set i (K, K + 1, (p, tn, q), xR, xC, (p', cn, q')))) := own_grown HR2.out hgrow (fun z hz e => own_kinds HR2.out HT1.out (by decide) z e hz)
      have B2 : Below B w w2 := HB1.out.grown hgrow (by omega) (fun z hz => by have := (tlt z hz).1; omega)
      have O2 : Over E w w2 := fun b hb hb' => by
        rw [hgrow.block b (by omega) (fun e => by have := tlt b e.symm; omega)]
        exact HO1.out b hb hb'
      have HT2 : Hid (Own w2 (lo i) (.slice p tn q) (marked (K + 1 + 1) tn)) := ho2
      have sz2 : w.heap.size ≤ w2.heap.size := by omega
      clear ho2 hgrow k2 HR2 HT1 HC1 HB1 HO1 F1 tlt same
      have q3 : w2.cell? ⟨g, i * 6 + 3, none⟩ = some (.int .i64 xR) := by
        have := (rows_at r2 hl2').1 3 (by omega)
        rw [rb_getD_set_self hli] at this
        exact this
      have q4 : w2.cell? ⟨g, i * 6 + 4, none⟩ = some (.int .i64 xC) := by
        have := (rows_at r2 hl2').1 4 (by omega)
        rw [rb_getD_set_self hli] at this
        exact this
      have f3 := (rows_at r2 hl2').2 3
      have f4 := (rows_at r2 hl2').2 4
      have r3 : (w2.setCell ⟨g, i * 6 + 3, none⟩ (.int .i64 (K + 1 + 1 + 3 * (tn : Int)))).ownsRow B 49 6 (.slice (some ⟨g, 0, none⟩) d.length c) (rbs'.set i (K, K + 1, (p, tn, q), (K + 1 + 1 + 3 * (tn : Int)), xC, (p', cn, q'))).length (flat6 (rbs'.set i (K, K + 1, (p, tn, q), (K + 1 + 1 + 3 * (tn : Int)), xC, (p', cn, q')))) := by
        have := rows_set r2 i 3 hl2' (by omega) (.int .i64 (K + 1 + 1 + 3 * (tn : Int))) (K, K + 1, (p, tn, q), (K + 1 + 1 + 3 * (tn : Int)), xC, (p', cn, q')) (by rw [rb_getD_set_self hli]; rfl)
        rwa [List.set_set] at this
      have r4 : ((w2.setCell ⟨g, i * 6 + 3, none⟩ (.int .i64 (K + 1 + 1 + 3 * (tn : Int)))).setCell ⟨g, i * 6 + 4, none⟩ (.int .i64 ((K + 1 + 1 + 3 * (tn : Int)) + 1))).ownsRow B 49 6 (.slice (some ⟨g, 0, none⟩) d.length c) (rbs'.set i (K, K + 1, (p, tn, q), (K + 1 + 1 + 3 * (tn : Int)), (K + 1 + 1 + 3 * (tn : Int)) + 1, (p', cn, q'))).length (flat6 (rbs'.set i (K, K + 1, (p, tn, q), (K + 1 + 1 + 3 * (tn : Int)), (K + 1 + 1 + 3 * (tn : Int)) + 1, (p', cn, q')))) := by
        have := rows_set r3 i 4 (by simpa using hli) (by omega) (.int .i64 ((K + 1 + 1 + 3 * (tn : Int)) + 1)) (K, K + 1, (p, tn, q), (K + 1 + 1 + 3 * (tn : Int)), (K + 1 + 1 + 3 * (tn : Int)) + 1, (p', cn, q')) (by rw [rb_getD_set_self hli]; rfl)
        rwa [List.set_set] at this
      obtain ⟨cur2, hcur2⟩ := own_rowAt r2
      obtain ⟨cur3, hcur3⟩ := own_rowAt r3
      have K3' : ∀ B E, Kept B E w2 ((w2.setCell ⟨g, i * 6 + 3, none⟩ (.int .i64 (K + 1 + 1 + 3 * (tn : Int)))).setCell ⟨g, i * 6 + 4, none⟩ (.int .i64 ((K + 1 + 1 + 3 * (tn : Int)) + 1))) := fun B E => (kept_set hcur2 B E _ _).trans (kept_set hcur3 B E _ _)
      have F3 : Hid (∀ k, k < d.length → k ≠ i → BlOwn ((w2.setCell ⟨g, i * 6 + 3, none⟩ (.int .i64 (K + 1 + 1 + 3 * (tn : Int)))).setCell ⟨g, i * 6 + 4, none⟩ (.int .i64 ((K + 1 + 1 + 3 * (tn : Int)) + 1))) (lo k) (mid k) (hi' k) (rbs'.getD k rb0) ((markTo k0 d i).getD k bl0)) := fun k hk hne => (F2.out k hk hne).kept (K3' _ _)
      have T3 : Own ((w2.setCell ⟨g, i * 6 + 3, none⟩ (.int .i64 (K + 1 + 1 + 3 * (tn : Int)))).setCell ⟨g, i * 6 + 4, none⟩ (.int .i64 ((K + 1 + 1 + 3 * (tn : Int)) + 1))) (lo i) (.slice p tn q) (marked (K + 1 + 1) tn) := own_kept HT2.out (by decide) HTM.out (K3' _ _)
      have C3 : OwnT ((w2.setCell ⟨g, i * 6 + 3, none⟩ (.int .i64 (K + 1 + 1 + 3 * (tn : Int)))).setCell ⟨g, i * 6 + 4, none⟩ (.int .i64 ((K + 1 + 1 + 3 * (tn : Int)) + 1))) (mid i) (.slice p' cn q') rs l := ownT_kept C2 HCE.out HRE.out (K3' _ _)
      have B3 : Below B w ((w2.setCell ⟨g, i * 6 + 3, none⟩ (.int .i64 (K + 1 + 1 + 3 * (tn : Int)))).setCell ⟨g, i * 6 + 4, none⟩ (.int .i64 ((K + 1 + 1 + 3 * (tn : Int)) + 1))) := (B2.setCell (p := ⟨g, i * 6 + 3, none⟩) hg1 _).setCell (p := ⟨g, i * 6 + 4, none⟩) hg1 _
      have O3 : Over E w ((w2.setCell ⟨g, i * 6 + 3, none⟩ (.int .i64 (K + 1 + 1 + 3 * (tn : Int)))).setCell ⟨g, i * 6 + 4, none⟩ (.int .i64 ((K + 1 + 1 + 3 * (tn : Int)) + 1))) := fun b hb hb' => by
        rw [Go.Deep.blk_setCell_other _ _ _ _ (by simp; omega), Go.Deep.blk_setCell_other _ _ _ _ (by simp; omega)]
        exact O2 b hb hb'
      have sz3 : w.heap.size ≤ ((w2.setCell ⟨g, i * 6 + 3, none⟩ (.int .i64 (K + 1 + 1 + 3 * (tn : Int)))).setCell ⟨g, i * 6 + 4, none⟩ (.int .i64 ((K + 1 + 1 + 3 * (tn : Int)) + 1))).heap.size := by simpa using sz2
      clear r2 r3 hcur2 hcur3 K3' C2 B2 O2 F2 HT2
      go_upto_region 13 with fail
      clear q3 q4 f3 f4
      generalize ((w2.setCell ⟨g, i * 6 + 3, none⟩ (.int .i64 (K + 1 + 1 + 3 * (tn : Int)))).setCell ⟨g, i * 6 + 4, none⟩ (.int .i64 ((K + 1 + 1 + 3 * (tn : Int)) + 1))) = v3 at r4 F3 T3 C3 B3 O3 sz3 ⊢
      have k5 : v3.cell? ⟨g, i * 6 + 5, none⟩ = some (.slice p' cn q') := by
        have := (rows_at r4 (by simpa using hli)).1 5 (by omega)
        rw [rb_getD_set_self hli] at this
        exact this
      have HR4 : Hid (v3.ownsRow B 49 6 (.slice (some ⟨g, 0, none⟩) d.length c) (rbs'.set i (K, K + 1, (p, tn, q), (K + 1 + 1 + 3 * (tn : Int)), (K + 1 + 1 + 3 * (tn : Int)) + 1, (p', cn, q'))).length (flat6 (rbs'.set i (K, K + 1, (p, tn, q), (K + 1 + 1 + 3 * (tn : Int)), (K + 1 + 1 + 3 * (tn : Int)) + 1, (p', cn, q'))))) := r4
      have HT3 : Hid (Own v3 (lo i) (.slice p tn q) (marked (K + 1 + 1) tn)) := T3
      have HC3 : Hid (OwnT v3 (mid i) (.slice p' cn q') rs l) := C3
      have HB3 : Hid (Below B w v3) := B3
      have HO3 : Hid (Over E w v3) := O3
      have hBm : B ≤ mid i := by have := (HHI.out i hlt).1; omega
      clear r4 T3 C3 B3 O3
      go_wp2_with (go_at_call 65; refine (markCellS_overB p' cn q' rs l _ (mid i) (hi' i) _ HC3.out HCE.out HRE.out (by omega) (by omega) hl2).mono ?_; rintro e w4 ⟨rfl, ⟨rs4, ho4, hr4⟩, hb4, hst4, hov4⟩)
      have s4 := hb4.size
      go_roundw
      case rel =>
        have hend : kD k0 d (i + 1) = kAt ((K + 1 + 1 + 3 * (tn : Int)) + 1 + 1) l l.length := by
          rw [HSU.out]
          unfold kAt szM
          rw [List.take_of_length_le (Nat.le_refl _)]
          simp only
          rw [← HTL.out]
          omega
        refine ⟨i + 1, rbs'.set i (K, K + 1, (p, tn, q), (K + 1 + 1 + 3 * (tn : Int)), (K + 1 + 1 + 3 * (tn : Int)) + 1, (p', cn, q')), by omega, by go_num, by rw [hend], ?_, by omega, HB3.out.trans (hb4.mono hBm), fun b hb hb' => ?_⟩
        · refine docOwn_of (own_stay HR4.out hst4) (fun z hz => by simp [Value.ownBlock] at hz; omega) ⟨by rw [HMS.out]; simp [HLEN.out, markTo_len], lo, mid, hi', fun k hk => ?_, fun k hk => HCH2.out k (by rw [markTo_len] at hk; exact hk)⟩
          rw [markTo_len] at hk
          obtain ⟨hb1, hb2⟩ := HHI.out k hk
          refine ⟨hb1, hb2, ?_⟩
          rw [HMS.out]
          by_cases e : i = k
          · subst e
            rw [rb_getD_set_self hli, bl_getD_set_self (by rw [markTo_len]; exact hlt)]
            refine ⟨⟨rfl, rfl, ?_, ?_⟩, ?_, HTM.out, ⟨rs4, ?_, HCE.out, hr4⟩, hlm, hmh⟩
            · show (K + 1 + 1 + 3 * (tn : Int)) = _
              rw [HTL.out]
              rfl
            · show (K + 1 + 1 + 3 * (tn : Int)) + 1 = _
              rw [HTL.out]
              rfl
            · have hT4 : Own w4 (lo i) (.slice p tn q) (marked (K + 1 + 1) tn) := own_mid HT3.out HTM.out (fun b hb hb' => hb4.block b (by omega))
              show Own w4 (lo i) (.slice p tn q) (marked (K + 1 + 1) t.length)
              rw [← HTL.out]
              exact hT4
            · show OwnT w4 (mid i) (.slice p' cn q') rs4 (markL (K + 1 + 1 + 3 * (t.length : Int) + 1 + 1) l)
              rw [← HTL.out]
              exact ho4
          · rw [rb_getD_set_other e, bl_getD_set_other e]
            refine (F3.out k hk (Ne.symm e)).mid (fun b hb hb' => ?_)
            obtain ⟨h1, h2, h3⟩ := HCH.out k hk (Ne.symm e)
            rcases h3 with h3 | h3
            · exact hb4.block b (by omega)
            · exact hov4 b (by omega) (by omega)
        · rw [hov4 b (by have := (HHI.out i hlt).2; omega) (by omega)]
          exact HO3.out b hb hb'
      case measure => simp [intOf]; omega
    · obtain rfl : i = d.length := by omega
      clear ho
      go_wp2_with fail
      go_ret
      exact ⟨rfl, ⟨rbs', HO.out⟩, HB.out, HOv.out⟩
end Go.Proofs.Ythjipnocemioaaa
namespace Go.Proofs.Ythjipnocemioaaa
open Go.RowKit

set_option maxRecDepth 100000 in
set_option maxHeartbeats 4000000 in
theorem heldCellS_c (a : Option Addr) (n c : Nat) (l : List Cl) (k0 : Int) (w : World) (h : Tab w a n c (markL k0 l)) (h0 : 0 ≤ k0) (h1 : k0 + 4 * l.length + 3 * (totT l : Nat) ≤ 50000000) (h2 : totT l ≤ 1048576) :
    Calls Try.prog 70 #[.slice a n c, .int .i64 k0] w fun e w' => e = .returned (.int .i64 (kAt k0 l l.length)) ∧ w' = w := by
  obtain ⟨hn, hc, hm, hl⟩ := h
  rw [markL_len] at hn
  subst hn
  unfold maxLen at hm
  have HL : Hid (markL k0 l = [] ∨ ∃ b off, a = some ⟨b, off, none⟩ ∧ b < w.heap.size ∧ ∀ k, k < (markL k0 l).length → CellAt w b (off + k * 5) ((markL k0 l).getD k cl0)) := hl
  clear hl
  go_enter Try.func70, Try.ntmps70
  go_wp2_with fail
  go_loop [1, 5] (fun kk iv => ∃ (i : Nat), i ≤ l.length ∧ iv = .int .i64 i ∧ kk = .int .i64 (kAt k0 l i)) (fun _ iv => l.length - (intOf iv).toNat)
  case atStart => exact ⟨0, Nat.zero_le _, rfl, by simp [kAt, totT]⟩
  case round =>
    obtain ⟨i, hi, rfl, rfl⟩ := hrel
    by_cases hlt : i < l.length
    · have kge := kAt_ge k0 l i h0
      have kle := kAt_le k0 l i (by omega)
      have HSU : Hid (kAt k0 l (i + 1) = kAt k0 l i + 4 + 3 * ((l.getD i cl0).2.2.2.2.length : Nat)) := kAt_succ k0 l i hlt
      have hlt2 : i < (markL k0 l).length := by rw [markL_len]; exact hlt
      rcases HL.out with e | ⟨b, off, rfl, hbw, hl⟩
      · rw [e] at hlt2
        exact absurd hlt2 (by simp)
      have hcell := hl i hlt2
      rw [markL_get k0 l i hlt] at hcell
      obtain ⟨K, HK⟩ : ∃ K, Hid (kAt k0 l i = K) := ⟨_, rfl⟩
      rw [HK.out] at kge kle hcell ⊢
      obtain ⟨m, HM⟩ : ∃ m, Hid ((l.getD i cl0).2.2.2.2.length = m) := ⟨_, rfl⟩
      rw [HM.out] at hcell
      have hm6 : m ≤ 1048576 := by
        have := totT_le l i hlt
        rw [← HM.out]
        omega
      obtain ⟨c0, c1, c2, c3, p, tn, q, c4, htx⟩ := hcell
      simp only [mkC] at c0 c1 c2 c3 htx
      have HTN : Hid (tn = m) := htx.1.trans (marked_len _ _)
      have htx' := htx
      rw [HTN.out] at htx' c4
      have HTX : Hid (Txt w p m q (marked (K + 1 + 1 + 1 + 1) m)) := by
        show Txt w p m q (marked (K + 1 + 1 + 1 + 1) m)
        rw [show K + 1 + 1 + 1 + 1 = K + 4 from by omega]
        exact htx'
      rw [show K + 2 = K + 1 + 1 from by omega] at c2
      rw [show K + 3 = K + 1 + 1 + 1 from by omega] at c3
      have hK2 : K ≤ 50000000 := by omega
      have nk : ¬ K + 1 + 1 + 1 + 1 + 3 * (m : Int) < 0 := by omega
      clear hl htx htx' kle
      go_wp2_with (go_at_call 69; refine (heldSignS_any p m q _ _ HTX.out hm6 (by omega) (by omega)).mono ?_; rintro e w2 ⟨rfl, hw2⟩; subst w2)
      go_round
      case rel =>
        refine ⟨i + 1, by omega, by go_num, ?_⟩
        rw [HSU.out, HK.out, HM.out]
        congr 1
        omega
      case measure => simp [intOf]; omega
    · have e : i = l.length := by omega
      subst e
      go_wp2_with fail
      go_ret
      exact ⟨rfl, rfl⟩
end Go.Proofs.Ythjipnocemioaaa
namespace Go.Proofs.Ythjipnocemioaaa
open Go.RowKit

set_option maxRecDepth 100000 in
set_option maxHeartbeats 8000000 in
theorem heldBlockS_any {a : Option Addr} {n c : Nat} {d : List Bl} {k0 : Int} {w : World} (h : Dc w a n c (markTo k0 d d.length)) (h0 : 0 ≤ k0) (h1 : k0 ≤ 1000) (h2 : d.length + totD d ≤ 1048576) :
    Calls Try.prog 51 #[.slice a n c, .int .i64 k0] w fun e w' => e = .returned (.int .i64 (kD k0 d d.length)) ∧ w' = w := by
  obtain ⟨hn, hc, hm, hl⟩ := h
  rw [markTo_len] at hn hl
  subst hn
  unfold maxLen at hm
  have HL : Hid (markTo k0 d d.length = [] ∨ ∃ b off, a = some ⟨b, off, none⟩ ∧ b < w.heap.size ∧ ∀ k, k < d.length → BlockAt w b (off + k * 6) ((markTo k0 d d.length).getD k bl0)) := hl
  have HKL : Hid (∀ i, i ≤ d.length → 0 ≤ kD k0 d i ∧ kD k0 d i ≤ 10000000) := fun i hi => by
    refine ⟨kD_ge d i h0, ?_⟩
    have h3 := kD_le (k0 := k0) hi
    have h4 := totD_append (d.take i) (d.drop i)
    rw [List.take_append_drop] at h4
    omega
  clear hl
  go_enter Try.func51, Try.ntmps51
  go_wp2_with fail
  go_loop [1, 5] (fun kk iv => ∃ (i : Nat), i ≤ d.length ∧ iv = .int .i64 i ∧ kk = .int .i64 (kD k0 d i)) (fun _ iv => d.length - (intOf iv).toNat)
  case atStart => exact ⟨0, Nat.zero_le _, rfl, by simp [kD]⟩
  case round =>
    obtain ⟨i, hi, rfl, rfl⟩ := hrel
    by_cases hlt : i < d.length
    · obtain ⟨kge, kle⟩ := HKL.out i hi
      have HSU : Hid (kD k0 d (i + 1) = kD k0 d i + (szM (d.getD i bl0) : Nat)) := kD_succ hlt
      have hle := totD_le d i hlt
      rcases HL.out with e | ⟨b, off, rfl, hbw, hl⟩
      · have := markTo_len k0 d d.length
        rw [e] at this
        simp at this
        omega
      have hblk := hl i hlt
      rw [markTo_get hlt, if_pos hlt] at hblk
      obtain ⟨K, HK⟩ : ∃ K, Hid (kD k0 d i = K) := ⟨_, rfl⟩
      rw [HK.out] at kge kle hblk HSU ⊢
      obtain ⟨⟨yk, yv, t, yR, yC, l⟩, hy⟩ : ∃ x, x = d.getD i bl0 := ⟨_, rfl⟩
      rw [← hy] at hblk HSU hle
      obtain ⟨p, tn, q, p', cn, q', c0, c1, c2, c3, c4, c5, htx, htb⟩ := hblk
      simp only [mkB] at c0 c1 c3 c4 htx htb
      have htl : tn = t.length := htx.1.trans (marked_len _ _)
      rw [← htl] at htx htb c3 c4
      have htn : tn ≤ 1048576 := by
        have : t.length ≤ szB (yk, yv, t, yR, yC, l) := Nat.le_add_right _ _
        omega
      have hll : l.length ≤ 1048576 ∧ totT l ≤ 1048576 := by
        have : l.length + totT l ≤ szB (yk, yv, t, yR, yC, l) := Nat.le_add_left _ _
        omega
      obtain ⟨hl1, hl2⟩ := hll
      have HTL : Hid (tn = t.length) := htl
      have HTX : Hid (Txt w p tn q (marked (K + 1 + 1) tn)) := htx
      have HTB : Hid (Tab w p' cn q' (markL (K + 1 + 1 + 3 * (tn : Int) + 1 + 1) l)) := htb
      have n1 : ¬ K + 1 + 1 + 3 * (tn : Int) < 0 := by omega
      have hend : kD k0 d (i + 1) = kAt (K + 1 + 1 + 3 * (tn : Int) + 1 + 1) l l.length := by
        rw [HSU.out]
        unfold kAt szM
        rw [List.take_of_length_le (Nat.le_refl _)]
        simp only
        rw [← HTL.out]
        omega
      have HEND : Hid (kD k0 d (i + 1) = kAt (K + 1 + 1 + 3 * (tn : Int) + 1 + 1) l l.length) := hend
      obtain ⟨Z, HZ⟩ : ∃ Z, Hid (kAt (K + 1 + 1 + 3 * (tn : Int) + 1 + 1) l l.length = Z) := ⟨_, rfl⟩
      have hz0 : 0 ≤ Z := by
        rw [← HZ.out]
        exact kAt_ge _ _ _ (by omega)
      have n2 : ¬ Z < 0 := by omega
      have m0 : (K != K) = false := by simp
      have m1 : (K + 1 != K + 1) = false := by simp
      have m3 : (K + 1 + 1 + 3 * (tn : Int) != K + 1 + 1 + 3 * (tn : Int)) = false := by simp
      have m4 : (K + 1 + 1 + 3 * (tn : Int) + 1 != K + 1 + 1 + 3 * (tn : Int) + 1) = false := by simp
      have hib : (i : Int) < (d.length : Int) := by omega
      have hi0 : (0 : Int) ≤ (i : Int) := by omega
      clear hl htx htb htl hend hy
      go_wp2_with (first | (go_at_call 69; refine (heldSignS_any p tn q _ _ HTX.out htn (by omega) (by omega)).mono ?_; rintro e w2 ⟨rfl, hw2⟩; subst w2) | (go_at_call 70; refine (heldCellS_c p' cn q' l _ _ HTB.out (by omega) (by omega) hl2).mono ?_; rintro e w3 ⟨rfl, hw3⟩; subst w3; rw [HZ.out]))
      go_round
      case rel => exact ⟨i + 1, by omega, by go_num, by rw [HEND.out, HZ.out]⟩
      case measure => simp [intOf]; omega
    · obtain rfl : i = d.length := by omega
      go_wp2_with fail
      go_ret
      exact ⟨rfl, rfl⟩
set_option maxHeartbeats 2000000 in
theorem heldDoc_any {a : Option Addr} {n c : Nat} {d : List Bl} {k0 : Int} {w : World} (h : Dc w a n c (markTo k0 d d.length)) (h0 : 0 ≤ k0) (h1 : k0 ≤ 1000) (h2 : d.length + totD d ≤ 1048576) :
    Calls Try.prog 24 #[.agg #[.slice a n c], .int .i64 k0] w fun e w' => e = .returned (.int .i64 (kD k0 d d.length)) ∧ Below w.heap.size w w' := by
  have H : Hid (Dc w a n c (markTo k0 d d.length)) := h
  obtain ⟨Z, HZ⟩ : ∃ Z, Hid (kD k0 d d.length = Z) := ⟨_, rfl⟩
  have hz : ¬ Z < 0 := by
    rw [← HZ.out]
    have := kD_ge (k0 := k0) d d.length h0
    omega
  rw [HZ.out]
  clear h
  have B0 : Below w.heap.size w (w.alloc (.cells #[.slice a n c] 29)) := (Below.refl _ _).alloc (Nat.le_refl _) _
  go_enter Try.func24, Try.ntmps24
  go_wp2_with (go_at_call 51; refine (heldBlockS_any (H.out.below B0) h0 h1 h2).mono ?_; rintro e w1 ⟨rfl, hw1⟩; subst w1; rw [HZ.out])
  go_ret
  exact ⟨rfl, B0⟩
set_option maxHeartbeats 2000000 in
theorem markDoc_over {a : Option Addr} {n c : Nat} {rbs : List Rb} {d : List Bl} {k0 : Int} {B E : Nat} {w : World} (h : DocOwn w B E (.slice a n c) rbs d) (hE : E ≤ w.heap.size) (hB : B ≤ E) (h0 : 0 ≤ k0) (h1 : k0 ≤ 1000) (h2 : d.length + totD d ≤ 1048576) :
    Calls Try.prog 19 #[.agg #[.slice a n c], .int .i64 k0] w fun e w' => e = .returned (.int .i64 (kD k0 d d.length)) ∧ (∃ rbs', DocOwn w' B E (.slice a n c) rbs' (markTo k0 d d.length)) ∧ Below B w w' ∧ Over E w w' := by
  have H : Hid (DocOwn w B E (.slice a n c) rbs d) := h
  clear h
  have B0 : Below w.heap.size w (w.alloc (.cells #[.slice a n c] 29)) := (Below.refl _ _).alloc (Nat.le_refl _) _
  go_enter Try.func19, Try.ntmps19
  go_wp2_with (go_at_call 43; refine (markBlockS_over (H.out.below hE B0) (by simp; omega) hB h0 h1 h2).mono ?_; rintro e w1 ⟨rfl, ⟨rbs', ho1⟩, hb1, hov1⟩)
  go_ret
  exact ⟨rfl, ⟨rbs', ho1⟩, (B0.mono (by omega)).trans hb1, fun b hb hb' => (hov1 b hb (by simp; omega)).trans (Below.heap_alloc _ _ _ hb')⟩
end Go.Proofs.Ythjipnocemioaaa
namespace Go.Proofs.Ythjipnocemioaaa
open Go.RowKit

theorem docRes_of {r : Option (List Bl)} {B : Nat} {e : Ending} {w' : World} (h : DocRes r B e w') : ∃ p m q rbs, e = .returned (.tuple #[.agg #[.slice p m q], .bool r.isSome]) ∧ DocOwn w' B w'.heap.size (.slice p m q) rbs (r.getD []) := by
  rcases h with ⟨rfl, rfl⟩ | ⟨d', p, q, rbs, rfl, rfl, ho⟩
  · exact ⟨none, 0, 0, [], rfl, DocOwn.nil _ _ _⟩
  · exact ⟨p, _, q, rbs, rfl, ho⟩
theorem totT_small : ∀ l : List Cl, (∀ x ∈ l, x.2.2.2.2.length ≤ 24) → totT l ≤ 24 * l.length
  | [], _ => by simp [totT]
  | x :: l, h => by
    have ih := totT_small l (fun y hy => h y (List.mem_cons_of_mem _ hy))
    have hx := h x List.mem_cons_self
    have e : totT (x :: l) = x.2.2.2.2.length + totT l := by simp [totT]
    rw [e, List.length_cons]
    omega
theorem totD_small : ∀ d : List Bl, (∀ x ∈ d, szB x ≤ 1000) → totD d ≤ 1000 * d.length
  | [], _ => by simp [totD]
  | x :: l, h => by
    have ih := totD_small l (fun y hy => h y (List.mem_cons_of_mem _ hy))
    have hx := h x List.mem_cons_self
    have e : totD (x :: l) = szB x + totD l := by simp [totD]
    rw [e, List.length_cons]
    omega
theorem ok_small_doc {d : List Bl} (hall : d.all partBB = true) (hou : outlB d = true) : d.length + totD d ≤ 1048576 := by
  have h8 : d.length ≤ 8 := by
    have := hou
    unfold outlB at this
    rw [Bool.and_eq_true, decide_eq_true_eq] at this
    exact this.1
  have := totD_small d (fun x hx => by
    obtain ⟨k, hk, e⟩ := List.getElem_of_mem hx
    have hp := outlB_part hou hk
    rw [getD_bl hk, e] at hp
    have hb := List.all_eq_true.1 hall x hx
    obtain ⟨K, V, t, R, C, l⟩ := x
    have hs := part_small hp
    simp only at hs
    unfold szB
    simp only
    rcases partB_kind hb with hK | hK | hK
    · subst hK
      obtain ⟨-, -, -, rfl⟩ := partBB_para hb
      have := hs.1 (.inl rfl)
      simp [totT]
      omega
    · subst hK
      obtain ⟨-, -, rfl⟩ := partBB_item hb
      have := hs.1 (.inr rfl)
      simp [totT]
      omega
    · subst hK
      obtain ⟨-, rfl⟩ := partBB_sheet hb
      unfold partOkB at hp
      simp only at hp
      rw [if_neg (by decide), if_neg (by decide)] at hp
      obtain ⟨h1, h2⟩ := ok_small hp
      have := totT_small l h2
      simp
      omega)
  omega
theorem docF_small {F : List Bl → Nat → Option (List Bl)} (hF : ∀ {d d' : List Bl} {i : Nat}, d.all partBB = true → outlB d = true → i < d.length → F d i = some d' → d'.all partBB = true ∧ d'.length = d.length) (d : List Bl) (z : Int) : ((docF F d z).getD []).length + totD ((docF F d z).getD []) ≤ 1048576 := by
  unfold docF
  by_cases h : docB d = true ∧ 0 ≤ z ∧ z < d.length
  · rw [if_pos h]
    obtain ⟨h1, h2, h3⟩ := docB_parts h.1
    cases hr : F d z.toNat
    · simp [totD]
    · rename_i d'
      rw [Option.bind_some]
      by_cases ho : outlB d' = true
      · rw [if_pos ho]
        exact ok_small_doc (hF h2 h3 (by omega) hr).1 ho
      · rw [if_neg ho]
        simp [totD]
  · rw [if_neg h]
    simp [totD]
end Go.Proofs.Ythjipnocemioaaa
