import Derived.Test.YtkgdocohdjebfaaBA2
import Derived.Test.YtkgdocohdjebfaaBA1
namespace Go.Proofs.Ytkgdocohdjebfaa
open Go.RowKit

/-- What a walk holds of the world: what lay there first, rows in blocks, and tables that read as lists. -/
def Hold (w0 : World) (rs : List (Nat × Array Value × TypeId)) (ts : List (Option Addr × Nat × Nat × List Cl)) (u : World) : Prop :=
  Below w0.heap.size w0 u ∧ (∀ r ∈ rs, RowAt u r.1 r.2.1 r.2.2) ∧ ∀ t ∈ ts, Tab u t.1 t.2.1 t.2.2.1 t.2.2.2
section
variable {w0 u u' : World} {rs : List (Nat × Array Value × TypeId)} {ts : List (Option Addr × Nat × Nat × List Cl)}
theorem Hold.go (h : Hold w0 rs ts u) (hb : Below u.heap.size u u') : Hold w0 rs ts u' :=
  ⟨h.1.trans (hb.mono h.1.size), fun r hr => (h.2.1 r hr).below hb (h.2.1 r hr).lt, fun t ht => (h.2.2 t ht).below hb⟩
theorem Hold.drew (h : Hold w0 rs ts u) : Hold w0 rs ts u.drew := h.go ((Below.refl _ _).drew)
theorem Hold.add (h : Hold w0 rs ts u) {a : Option Addr} {n c : Nat} {l : List Cl} (ht : Tab u a n c l) : Hold w0 rs ((a, n, c, l) :: ts) u := by
  refine ⟨h.1, h.2.1, fun t hm => ?_⟩
  rcases List.mem_cons.1 hm with rfl | hm
  · exact ht
  · exact h.2.2 t hm
theorem Hold.alloc (h : Hold w0 rs ts u) (cs : Array Value) (ty : TypeId) : Hold w0 ((u.heap.size, cs, ty) :: rs) ts (u.alloc (.cells cs ty)) := by
  refine ⟨h.1.alloc h.1.size _, fun r hm => ?_, fun t hm => (h.2.2 t hm).below ((Below.refl _ _).alloc (Nat.le_refl _) _)⟩
  rcases List.mem_cons.1 hm with rfl | hm
  · exact rowAt_new _ _ _
  · exact (h.2.1 r hm).alloc _
theorem Hold.row (h : Hold w0 rs ts u) (i : Nat) {b : Nat} {cs : Array Value} {ty : TypeId} (e : rs[i]? = some (b, cs, ty)) : RowAt u b cs ty := h.2.1 _ (List.mem_of_getElem? e)
theorem Hold.tab (h : Hold w0 rs ts u) (i : Nat) {a : Option Addr} {n c : Nat} {l : List Cl} (e : ts[i]? = some (a, n, c, l)) : Tab u a n c l := h.2.2 _ (List.mem_of_getElem? e)
/-- What a call gives that answers a table, laid into a block of its own. -/
theorem Hold.res (h : Hold w0 rs ts u) (hb : Below u.heap.size u u') {a : Option Addr} {n c : Nat} {l : List Cl} (ht : Tab u' a n c l) (cs : Array Value) (ty : TypeId) : Hold w0 ((u'.heap.size, cs, ty) :: rs) ((a, n, c, l) :: ts) (u'.alloc (.cells cs ty)) :=
  ((h.go hb).add ht).alloc cs ty
theorem Hold.first {w : World} {a : Option Addr} {n c : Nat} {l : List Cl} (hb : Below w.heap.size w u) (ht : Tab u a n c l) (cs : Array Value) (ty : TypeId) : Hold w [(u.heap.size, cs, ty)] [(a, n, c, l)] (u.alloc (.cells cs ty)) :=
  Hold.alloc (Hold.add ⟨hb, by simp, by simp⟩ ht) cs ty
end
theorem hold_tab_nil (w : World) : Tab w none 0 0 [] := ⟨rfl, Nat.le_refl _, Nat.zero_le _, .inl rfl⟩
theorem tabRes_t {B : Nat} {ok : Bool} {X Y : Int} {L : List Cl} {z : Ending} {w' : World} (hok : ok = true) (h : TabRes B ok X Y L z w') :
    ∃ a n c, z = .returned (.tuple #[.agg #[.int .i64 X, .int .i64 Y, .slice a n c], .bool true]) ∧ Tab w' a n c L := by
  rcases h with ⟨h2, _⟩ | ⟨_, a, c, rs, rfl, ho⟩
  · rw [hok] at h2
    cases h2
  · exact ⟨a, _, c, rfl, ho.tab⟩
theorem tabRes_f {B : Nat} {ok : Bool} {X Y : Int} {L : List Cl} {z : Ending} {w' : World} (hok : ok = false) (h : TabRes B ok X Y L z w') :
    ∃ a n c, z = .returned (.tuple #[.agg #[.int .i64 0, .int .i64 0, .slice a n c], .bool false]) ∧ Tab w' a n c [] := by
  rcases h with ⟨_, rfl⟩ | ⟨h2, _⟩
  · exact ⟨none, 0, 0, rfl, hold_tab_nil _⟩
  · rw [hok] at h2
    cases h2
end Go.Proofs.Ytkgdocohdjebfaa
namespace Go.Proofs.Ytkgdocohdjebfaa
open Go.RowKit

/-- The number of the first cell that a square is of. -/
def atN (R C : Int) (l : List Cl) (r c : Int) : Int := if okB R C l then (match l.findIdx? fun x => inB x r c with | some i => (i : Int) | none => -1) else -1
theorem okB_form {R C : Int} {l : List Cl} (h : okB R C l = true) : formB R C l = true := by
  simp only [okB, Bool.and_eq_true] at h
  exact h.1
theorem specTableOk_is {R C : Int} {a : Option Addr} {n cap : Nat} {l : List Cl} {w : World} {x : Bool} (hx : okB R C l = x) (h : Tab w a n cap l) :
    Calls Try.prog 42 #[.agg #[.int .i64 R, .int .i64 C, .slice a n cap]] w fun e w' => e = .returned (.bool x) ∧ Below w.heap.size w w' := hx ▸ specTableOk_any R C a n cap l w h
theorem findIdx_some (l : List Cl) (k : Nat) (r c : Int) (hk : k < l.length) (h0 : ∀ j, j < k → inB (l.getD j cl0) r c = false) (h1 : inB (l.getD k cl0) r c = true) : (l.findIdx? fun x => inB x r c) = some k := by
  rw [List.findIdx?_eq_some_iff_getElem]
  refine ⟨hk, by simpa [List.getD, hk] using h1, ?_⟩
  intro j hj
  have := h0 j hj
  simpa [List.getD, show j < l.length from by omega] using this
theorem findIdx_none (l : List Cl) (r c : Int) (h0 : ∀ j, j < l.length → inB (l.getD j cl0) r c = false) : (l.findIdx? fun x => inB x r c) = none := by
  rw [List.findIdx?_eq_none_iff]
  intro x hx
  obtain ⟨j, hj, rfl⟩ := List.getElem_of_mem hx
  have := h0 j hj
  simpa [List.getD, hj] using this

end Go.Proofs.Ytkgdocohdjebfaa
namespace Go.Proofs.Ytkgdocohdjebfaa
open Go.RowKit

theorem atN_in {R C : Int} {l : List Cl} (h : okB R C l = true) (a b : Nat) (ha : (a : Int) < R) (hb : (b : Int) < C) : atN R C l a b = (numF l l.length (a * 5 + b) : Int) - 1 ∧ 1 ≤ numF l l.length (a * 5 + b) := by
  obtain ⟨hR, hC, hs, ht⟩ := gridP_of_okB h
  have hw : ∀ i, i < l.length → wiB R C (l.getD i cl0) = true := fun j hj => (stepB_of (hs j hj)).1
  obtain ⟨t1, -⟩ := ht a b (by unfold vis; omega)
  obtain ⟨h1, h2⟩ := numF_pos l R C l.length hw a b (numF l l.length (a * 5 + b) - 1) (by omega) (by omega)
  refine ⟨?_, t1⟩
  have hh := findIdx_some l (numF l l.length (a * 5 + b) - 1) a b h1 (fun j hj => by
    rw [← Bool.not_eq_true]
    intro h3
    exact step_apart hC.2 hs hj h1 a b h3 h2) h2
  simp only [atN, h, if_true, hh]
  omega
theorem atN_out {R C : Int} {l : List Cl} (h : okB R C l = true) (a b : Int) (hn : ¬ (0 ≤ a ∧ a < R ∧ 0 ≤ b ∧ b < C)) : atN R C l a b = -1 := by
  obtain ⟨hR, hC, hs, -⟩ := gridP_of_okB h
  have hh := findIdx_none l a b (fun j hj => by
    have := wiB_of (stepB_of (hs j hj)).1
    refine decide_eq_false ?_
    omega)
  simp only [atN, h, if_true, hh]

set_option maxRecDepth 100000 in
set_option maxHeartbeats 4000000 in
theorem implTableAt_is {R C r c : Int} {a : Option Addr} {n cap : Nat} {l : List Cl} {w : World} {x : Int} (hx : atN R C l r c = x) (h : Tab w a n cap l) :
    Calls Try.prog 20 #[.agg #[.int .i64 R, .int .i64 C, .slice a n cap], .int .i64 r, .int .i64 c] w fun z w' => z = .returned (.int .i64 x) ∧ Below w.heap.size w w' := by
  have HX : Hid (atN R C l r c = x) := hx
  have H : Hid (Tab w a n cap l) := h
  clear hx h
  go_enter Try.func20, Try.ntmps20
  go_upto_region 1 with fail
  have B0 : Below w.heap.size w (w.alloc (.cells #[.int .i64 R, .int .i64 C, .slice a n cap] 25)) := (Below.refl _ _).alloc (Nat.le_refl _) _
  have HT : Hid (Tab (w.alloc (.cells #[.int .i64 R, .int .i64 C, .slice a n cap] 25)) a n cap l) := H.out.below B0
  have G2 : RowAt (w.alloc (.cells #[.int .i64 R, .int .i64 C, .slice a n cap] 25)) w.heap.size #[.int .i64 R, .int .i64 C, .slice a n cap] 25 := rowAt_new w _ _
  generalize (w.alloc (.cells #[.int .i64 R, .int .i64 C, .slice a n cap] 25)) = v0 at B0 HT G2 ⊢
  have k0 : v0.cell? ⟨w.heap.size, 0, none⟩ = some (.int .i64 R) := G2.cell 0
  have k1 : v0.cell? ⟨w.heap.size, 1, none⟩ = some (.int .i64 C) := G2.cell 1
  have k2 : v0.cell? ⟨w.heap.size, 2, none⟩ = some (.slice a n cap) := G2.cell 2
  have z0 := G2.lt
  cases ho : okB R C l
  · have HO : Hid (okB R C l = false) := ho
    clear ho
    go_wp2_with (first | (go_at_call 33; refine (gridOf_is HO.out HT.out).mono ?_; rintro e w1 ⟨(⟨-, rfl⟩ | ⟨hno, -⟩), hb1⟩; rotate_left; exact absurd hno (by simp)) | (rw [← grid_zero]; refine wpList_store_row rfl 51 (.tmp 7) (.tmp 12) rfl w1.heap.size (gridA 0 0 0 (fun _ => 0) (fun _ => sl0)) rfl rfl 51 _ (gridAt_new _ _ _ _ _ _) (grid_infoA _ _ _ _ _) (by rw [gridA_size]) (gridA_one _ _ _ _ _) ?_))
    go_ret
    refine ⟨?_, below_row ((B0.trans (hb1.mono B0.size)).alloc (Nat.le_trans B0.size hb1.size) _) (Nat.le_trans B0.size hb1.size) _⟩
    rw [← HX.out]
    simp only [atN, HO.out]
    rfl
  · have HO : Hid (okB R C l = true) := ho
    obtain ⟨hR, hC, -⟩ := gridP_of_okB ho
    clear ho
    go_upto_region 2 with (first | (go_at_call 33; refine (gridOf_is HO.out HT.out).mono ?_; rintro e w1 ⟨(⟨hno, -⟩ | ⟨-, t, rfl, -⟩), hb1⟩; exact absurd hno (by simp)) | (rw [← grid_zero]; refine wpList_store_row rfl 51 (.tmp 7) (.tmp 12) rfl w1.heap.size (gridA R C l.length (numF l l.length) t) rfl rfl 51 _ (gridAt_new _ _ _ _ _ _) (grid_infoA _ _ _ _ _) (by rw [gridA_size, gridA_size]) (gridA_one _ _ _ _ _) ?_))
    have B2 : Below v0.heap.size v0 ((w1.alloc (.cells (gridA 0 0 0 (fun _ => 0) (fun _ => sl0)) 51)).setRow w1.heap.size (gridA R C l.length (numF l l.length) t)) := below_row (hb1.alloc hb1.size _) hb1.size _
    have HG : Hid (GridAt ((w1.alloc (.cells (gridA 0 0 0 (fun _ => 0) (fun _ => sl0)) 51)).setRow w1.heap.size (gridA R C l.length (numF l l.length) t)) w1.heap.size R C l.length (numF l l.length) t) := RowAt.setRow (gridAt_new _ _ _ _ _ _) _
    generalize ((w1.alloc (.cells (gridA 0 0 0 (fun _ => 0) (fun _ => sl0)) 51)).setRow w1.heap.size (gridA R C l.length (numF l l.length) t)) = v2 at B2 HG ⊢
    have j0 := (B2.cell (p := ⟨w.heap.size, 0, none⟩) z0).trans k0
    have j1 := (B2.cell (p := ⟨w.heap.size, 1, none⟩) z0).trans k1
    have hg := HG.out.lt
    clear k0 k1 k2 G2 hb1
    cases hq : withB r c 1 1 R C
    · have HQ : Hid (withB r c 1 1 R C = false) := hq
      clear hq
      go_wp2_with (go_at_call 47; refine (within_is HQ.out hR hC _).mono ?_; rintro e w3 ⟨rfl, hb3⟩)
      go_ret
      refine ⟨?_, (B0.trans (B2.mono B0.size)).trans (hb3.mono (Nat.le_trans B0.size B2.size))⟩
      rw [← HX.out, atN_out HO.out r c (fun hh => by
        have := HQ.out
        simp only [withB, spanB, Bool.and_eq_false_iff, decide_eq_false_iff_not] at this
        omega)]
      rfl
    · have HQ : Hid (withB r c 1 1 R C = true) := hq
      have hr : (0 ≤ r ∧ r < R) ∧ (0 ≤ c ∧ c < C) := by
        simp only [withB, spanB, Bool.and_eq_true, decide_eq_true_eq] at hq
        omega
      clear hq
      obtain ⟨r, rfl⟩ : ∃ r' : Nat, r = r' := ⟨r.toNat, by omega⟩
      obtain ⟨c, rfl⟩ : ∃ r' : Nat, c = r' := ⟨c.toNat, by omega⟩
      obtain ⟨e1, e2⟩ := atN_in HO.out r c hr.1.2 hr.2.2
      have e3 := Nat.le_trans (numF_le l l.length (r * 5 + c)) (step_le hR.2 hC.2 (gridP_of_okB HO.out).2.2.1)
      obtain ⟨m, HM⟩ : ∃ m, Hid (numF l l.length (r * 5 + c) = m) := ⟨_, rfl⟩
      rw [HM.out] at e1 e2 e3
      have HE : Hid (x = (m : Int) - 1) := HX.out.symm.trans e1
      have b0 : (r : Int) < 5 := by omega
      have b1 : (c : Int) < 5 := by omega
      clear e1
      go_wp2_with (go_at_call 47; refine (within_is HQ.out hR hC _).mono ?_; rintro e w3 ⟨rfl, hb3⟩; have q := (HG.out.below hb3 hg).num (r * 5 + c) (by omega); rw [← Nat.add_assoc, HM.out] at q)
      go_ret
      refine ⟨?_, (B0.trans (B2.mono B0.size)).trans (hb3.mono (Nat.le_trans B0.size B2.size))⟩
      rw [HE.out]
      rfl
end Go.Proofs.Ytkgdocohdjebfaa
