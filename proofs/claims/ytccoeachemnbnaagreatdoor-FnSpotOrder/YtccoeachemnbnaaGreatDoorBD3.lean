import Derived.Test.YtccoeachemnbnaaGreatDoorBD2
import Derived.Test.YtccoeachemnbnaaGreatDoorBD1
import Derived.Test.YtccoeachemnbnaaGreatDoorBA3
namespace Go.Proofs.YtccoeachemnbnaaGreatDoor
open Go.RowKit

theorem setRow_otherX (w : World) (g b : Nat) (cs : Array Value) (h : b ≠ g) : (w.setRow g cs).heap[b]? = w.heap[b]? := by
  simp only [World.setRow]
  rw [Array.getElem?_modify]
  simp [Ne.symm h]
/-- A drawn block, perhaps spoilt. -/
def BlSp (y : Bl) : Prop := (-9 ≤ y.2.1 ∧ y.2.1 ≤ 9) ∧ y.2.2.1.length ≤ 25 ∧ y.2.2.2.2.2.length ≤ 25 ∧ ∀ x ∈ y.2.2.2.2.2, x.2.2.2.2.length ≤ 24
theorem BlDr.sp {y : Bl} (h : BlDr y) : BlSp y := ⟨by have := h.1; omega, by have := h.2.1; omega, h.2.2.1, h.2.2.2⟩
theorem BlSp.smb {y : Bl} (h : BlSp y) : SmB y := by
  obtain ⟨h0, h1, h2, h3⟩ := h
  refine ⟨by omega, by omega, fun k hk => ?_⟩
  have := h3 (y.2.2.2.2.2.getD k cl0) (by simp [List.getD, hk])
  omega
theorem BlDr.smb {y : Bl} (h : BlDr y) : SmB y := h.sp.smb
/-- A drawn document, perhaps spoilt: at most nine blocks, each small. -/
def DocSp (d : List Bl) : Prop := d.length ≤ 9 ∧ ∀ x ∈ d, BlSp x
theorem blSp0 : BlSp bl0 := ⟨by decide, by decide, by decide, fun x hx => absurd hx (by simp [bl0])⟩
theorem DocSp.at {d : List Bl} (h : DocSp d) (k : Nat) : BlSp (d.getD k bl0) := by
  by_cases hk : k < d.length
  · exact h.2 _ (by simp [List.getD, hk])
  · rw [show d.getD k bl0 = bl0 by simp [List.getD, Nat.le_of_not_lt hk]]
    exact blSp0
theorem DocSp.set {d : List Bl} (h : DocSp d) (k : Nat) (y : Bl) (hy : BlSp y) : DocSp (d.set k y) := by
  refine ⟨by simpa using h.1, fun x hx => ?_⟩
  rcases List.mem_or_eq_of_mem_set hx with q | q
  · exact h.2 x q
  · rw [q]; exact hy
theorem DocSp.cons {d : List Bl} {y : Bl} (h : DocSp d) (hl : d.length ≤ 8) (hy : BlSp y) : DocSp (y :: d) := by
  refine ⟨by simpa using hl, fun x hx => ?_⟩
  rcases List.mem_cons.1 hx with q | q
  · rw [q]; exact hy
  · exact h.2 x q
theorem DocSp.del {d : List Bl} (h : DocSp d) (k : Nat) : DocSp (d.take k ++ d.drop (k + 1)) := by
  refine ⟨by have := h.1; simp; omega, fun x hx => ?_⟩
  rcases List.mem_append.1 hx with q | q
  · exact h.2 x (List.mem_of_mem_take q)
  · exact h.2 x (List.mem_of_mem_drop q)
theorem blSp_snoc {d : List Bl} (h : ∀ x ∈ d, BlSp x) : ∀ x ∈ d ++ [(1, 0, [], 0, 0, [])], BlSp x := fun x hx => by
  rcases List.mem_append.1 hx with q | q
  · exact h x q
  · rw [List.mem_singleton.1 q]; exact ⟨by decide, by decide, by decide, fun x hx => absurd hx (by simp)⟩
/-- A row of a document is read. -/
theorem docX_at {w : World} {B g n pc i : Nat} {rbs : List Rb} {d : List Bl} (h : DocX w B (.slice (some ⟨g, 0, none⟩) n pc) rbs d) (hi : i < n) : (∀ j, j < 6 → w.cell? ⟨g, i * 6 + j, none⟩ = (rbCells (rbs.getD i rb0))[j]?) ∧ (∀ j, w.frozen? ⟨g, i * 6 + j, none⟩ = false) ∧ B ≤ g ∧ g < w.heap.size := by
  have hn := h.len
  have hl := h.2.1
  have hr := h.1
  rw [hl, ← hn] at hr
  refine ⟨fun j hj => ?_, fun j => hr.frozenAt _, own_lt hr rfl⟩
  rw [hr.cellAt (i * 6 + j) (by omega)]
  exact flat6_get rbs i (by omega) j hj
theorem docX_there {w : World} {B g n pc i : Nat} {rbs : List Rb} {d : List Bl} (h : DocX w B (.slice (some ⟨g, 0, none⟩) n pc) rbs d) (hi : i < n) : w.there g (i * 6 + 3) 3 := fun j hj => by
  obtain ⟨h1, h2, -, -⟩ := docX_at h hi
  have e := h1 (3 + j) (by omega)
  have f := h2 (3 + j)
  rw [← Nat.add_assoc] at e f
  rcases (show j = 0 ∨ j = 1 ∨ j = 2 by omega) with rfl | rfl | rfl
  · exact ⟨by rw [e]; rfl, f⟩
  · exact ⟨by rw [e]; rfl, f⟩
  · exact ⟨by rw [e]; rfl, f⟩
theorem flat6_one (rs : List Rb) : ∀ u ∈ flat6 rs, u.oneCell' = true := by
  intro u hu
  unfold flat6 at hu
  rw [List.mem_flatMap] at hu
  obtain ⟨s, _, hs⟩ := hu
  exact rbX_one s u hs
theorem flat6_take (rs : List Rb) (k : Nat) : flat6 (rs.take k) = (flat6 rs).take (k * 6) := by
  induction k generalizing rs with
  | zero => simp [flat6]
  | succ k ih =>
    cases rs with
    | nil => simp [flat6]
    | cons x rs =>
      show rbCells x ++ flat6 (rs.take k) = (rbCells x ++ flat6 rs).take ((k + 1) * 6)
      rw [ih, show (k + 1) * 6 = (rbCells x).length + k * 6 from by simp [rbCells]; omega, List.take_length_add_append]
theorem flat6_drop (rs : List Rb) (k : Nat) : flat6 (rs.drop k) = (flat6 rs).drop (k * 6) := by
  induction k generalizing rs with
  | zero => simp
  | succ k ih =>
    cases rs with
    | nil => simp [flat6]
    | cons x rs =>
      show flat6 (rs.drop k) = (rbCells x ++ flat6 rs).drop ((k + 1) * 6)
      rw [ih, show (k + 1) * 6 = (rbCells x).length + k * 6 from by simp [rbCells]; omega, List.drop_length_add_append]
theorem docX_rw {w : World} {B g n pc : Nat} {rbs : List Rb} {d : List Bl} (h : DocX w B (.slice (some ⟨g, 0, none⟩) n pc) rbs d) : w.ownsRow B 56 6 (.slice (some ⟨g, 0, none⟩) n pc) n (flat6 rbs) := by
  have hr := h.1
  rw [h.2.1, ← h.len] at hr
  exact hr
theorem docX_news {w : World} {B g n pc : Nat} {rbs : List Rb} {d : List Bl} (h : DocX w B (.slice (some ⟨g, 0, none⟩) n pc) rbs d) : ∀ j u, (flat6 rbs)[j]? = some u → w.cell? ((⟨g, 0, none⟩ : Addr).add j) = some u := fun j u hj => by
  have hr := docX_rw h
  have hl := h.2.1
  have hn := h.len
  have hlt : j < n * 6 := by
    have := (List.getElem?_eq_some_iff.1 hj).1
    rw [flat6_length] at this
    omega
  have e : (⟨g, 0, none⟩ : Addr).add j = ⟨g, j, none⟩ := by simp [Addr.add]; intro h; omega
  rw [e, hr.cellAt j hlt]
  exact hj
theorem DocX.row_lt {w : World} {B g n pc : Nat} {rbs : List Rb} {d : List Bl} (h : DocX w B (.slice (some ⟨g, 0, none⟩) n pc) rbs d) : B ≤ g ∧ g < w.heap.size := own_lt h.1 rfl
theorem docX_first {w : World} {B g n pc k : Nat} {rbs : List Rb} {d : List Bl} (h : DocX w B (.slice (some ⟨g, 0, none⟩) n pc) rbs d) (hk : k < n) : w.ownsRow B 56 6 (.slice (some ⟨g, 0, none⟩) k pc) k (flat6 (rbs.take k)) := by
  have hr := docX_rw h
  have hl := h.2.1
  have hlen := h.len
  refine ⟨by rw [flat6_length, List.length_take]; omega, ?_⟩
  rcases hr.2 with ⟨hv, _⟩ | ⟨g', cap, cur, hv, hB, hg, hn, hm, hs, hp⟩
  · simp at hv
  · simp only [Value.slice.injEq, Option.some.injEq, Addr.mk.injEq, and_true, true_and] at hv
    obtain ⟨rfl, rfl⟩ := hv
    refine .inr ⟨g, pc, cur, rfl, hB, hg, by omega, hm, hs, ?_⟩
    rw [flat6_take, ← hp, List.take_take, Nat.min_eq_left (by omega)]
theorem docX_rest {w : World} {B g n pc k M : Nat} {rbs : List Rb} {d : List Bl} (h : DocX w B (.slice (some ⟨g, 0, none⟩) n pc) rbs d) (hM : n - (k + 1) = M) : (flat6 (rbs.drop (k + 1))).length = M * 6 ∧ ∀ j u, (flat6 (rbs.drop (k + 1)))[j]? = some u → w.cell? ((⟨g, (k + 1) * 6, none⟩ : Addr).add j) = some u := by
  have hr := docX_rw h
  have hl := h.2.1
  have hn := h.len
  have e0 : (flat6 (rbs.drop (k + 1))).length = M * 6 := by rw [flat6_length, List.length_drop]; congr 1; omega
  refine ⟨e0, fun j u hj => ?_⟩
  have hlt : j < M * 6 := by
    rw [← e0]
    exact (List.getElem?_eq_some_iff.1 hj).1
  have e : (⟨g, (k + 1) * 6, none⟩ : Addr).add j = ⟨g, (k + 1) * 6 + j, none⟩ := by simp [Addr.add]
  rw [e, hr.cellAt ((k + 1) * 6 + j) (by omega), ← List.getElem?_drop, ← flat6_drop]
  exact hj
theorem rb_getD_del (l : List Rb) (k j : Nat) (hk : k < l.length) : (l.take k ++ l.drop (k + 1)).getD j rb0 = l.getD (if j < k then j else j + 1) rb0 := getD_del l k j rb0 hk
theorem docX_del {w w' : World} {B : Nat} {v v' : Value} {rbs : List Rb} {d : List Bl} (h : DocX w B v rbs d) (hk : Kept B w.heap.size w w') (k : Nat) (hkd : k < d.length) (hrow : w'.ownsRow B 56 6 v' (rbs.take k ++ rbs.drop (k + 1)).length (flat6 (rbs.take k ++ rbs.drop (k + 1)))) : DocX w' B v' (rbs.take k ++ rbs.drop (k + 1)) (d.take k ++ d.drop (k + 1)) := by
  have hl := h.2.1
  refine ⟨hrow, by simp; omega, fun j hj => ?_⟩
  have hj' : j < d.length - 1 := by simp at hj; omega
  rw [getD_del rbs k j rb0 (by omega), getD_del d k j bl0 hkd]
  by_cases h1 : j < k
  · rw [if_pos h1]
    exact (h.2.2 j (by omega)).kept hk
  · rw [if_neg h1]
    exact (h.2.2 (j + 1) (by omega)).kept hk
/-- A block ahead of a document's, in a row of its own. -/
theorem docX_cons {w7 w8 : World} {B n : Nat} {y : Int} {v v' x : Value} {rbs : List Rb} {d : List Bl} (h : DocX w7 B v rbs d) (hn : n = d.length) (hx : ∀ g, x.ownBlock = some g → ∃ cur, RowAt w7 g cur 56) (hown : w8.ownsRow B 56 6 v' (1 + n) ([.int .i64 2, .int .i64 (1 + y), .slice none 0 0, .int .i64 0, .int .i64 0, .slice none 0 0] ++ flat6 rbs)) (hg : w7.grownBy w8 x.ownBlock) :
    DocX w8 B v' ((2, 1 + y, (none, 0, 0), 0, 0, (none, 0, 0)) :: rbs) ((2, 1 + y, [], 0, 0, []) :: d) := by
  have hk : Kept B w7.heap.size w7 w8 := kept_grown hx hg _ _
  have hl := h.2.1
  refine ⟨?_, by simp [hl], fun k hk' => ?_⟩
  · rw [List.length_cons, hl, ← hn, Nat.add_comm]
    exact hown
  · rcases k with _ | k
    · exact ⟨⟨rfl, rfl, rfl, rfl⟩, World.ownsRow_nil _ _ _ _, [], World.ownsRow_nil _ _ _ _, TxtOwn.nil _ _ _⟩
    · exact (h.2.2 k (by simpa using hk')).kept hk
def lenC (w : World) (X : Nat) : Nat := match w.cell? ⟨X, 0, none⟩ with
  | some (.slice _ n _) => n
  | _ => 0
def rbP : Rb := (1, 0, (none, 0, 0), 0, 0, (none, 0, 0))
def blP : Bl := (1, 0, [], 0, 0, [])
theorem case4_step {w w6 w8 : World} {B0 B g q m oc : Nat} {oa : Option Addr} {v' : Value} {rbs' : List Rb} {d' : List Bl} (hX : DocX w6 B (.slice oa m oc) rbs' d') (hm : m = d'.length) (hG : RowAt w6 w.heap.size #[.slice oa m oc] 25) (hZ : RowAt w6 (w.heap.size + 1) #[.slice none 0 0] 25) (hR : Rd B0 w6 g q) (hF : Fr w.heap.size g w w6)
    (hown : w8.ownsRow B 56 6 v' (m + 1) (flat6 rbs' ++ [.int .i64 1, .int .i64 0, .slice none 0 0, .int .i64 0, .int .i64 0, .slice none 0 0])) (hgrow : (w6.alloc (.cells #[.int .i64 1, .int .i64 0, .slice none 0 0, .int .i64 0, .int .i64 0, .slice none 0 0] 56)).grownBy w8 (Value.slice oa m oc).ownBlock)
    (h1 : w.heap.size + 2 ≤ B) (h2 : g < w.heap.size) (h3 : w.heap.size ≤ w6.heap.size) (_ : True) :
    ∃ oa' oc', Hid (DocX w8 B (.slice oa' (m + 1) oc') (rbs' ++ [rbP]) (d' ++ [blP])) ∧ v' = .slice oa' (m + 1) oc' ∧ Hid (RowAt w8 w.heap.size #[.slice oa m oc] 25) ∧ Hid (RowAt w8 (w.heap.size + 1) #[.slice none 0 0] 25) ∧ Hid (Rd B0 w8 g q) ∧ Hid (Fr w.heap.size g w w8) ∧ w6.heap.size ≤ w8.heap.size ∧ w8.cell? ⟨w.heap.size, 0, none⟩ = some (.slice oa m oc) ∧ w8.frozen? ⟨w.heap.size, 0, none⟩ = false := by
  have hne : ∀ b, (Value.slice oa m oc).ownBlock = some b → B ≤ b := fun b hb => (own_lt hX.1 hb).1
  have hX8 : DocX w8 B v' (rbs' ++ [rbP]) (d' ++ [blP]) := docX_snoc (hX.alloc _) hm (x := rbP) (y := blP) ⟨⟨rfl, rfl, rfl, rfl⟩, World.ownsRow_nil _ _ _ _, [], World.ownsRow_nil _ _ _ _, TxtOwn.nil _ _ _⟩ hown hgrow
  have hG8 : RowAt w8 w.heap.size #[.slice oa m oc] 25 := (hG.alloc _).grown hgrow (fun e => by have := hne _ e; omega)
  have hs := hgrow.size
  simp only [World.size_alloc] at hs
  obtain ⟨oa', oc', rfl⟩ : ∃ a c, v' = .slice a (m + 1) c := by
    obtain ⟨a1, c1, e1⟩ := hX8.shape
    refine ⟨a1, c1, ?_⟩
    rw [e1, List.length_append, ← hm]
    rfl
  refine ⟨oa', oc', hX8, rfl, hG8, (hZ.alloc _).grown hgrow (fun e => by have := hne _ e; omega), (hR.alloc _).grownAt hgrow (fun b hb => by have := hne _ hb; omega), (hF.alloc h3 _).grownAt hgrow (by simp; omega) (fun b hb => by have := hne _ hb; omega), by omega, by have := hG8.cell 0; simpa using this, hG8.frozen 0⟩
/-- What a drawing of a document that is perhaps spoilt gives. -/
def DrRes (B g q0 C : Nat) (w : World) (e : Ending) (w' : World) : Prop := ∃ (a' : Option Addr) (m' c' : Nat) (d' : List Bl) (q : Nat), e = .returned (.agg #[.slice a' m' c']) ∧ (∃ rbs, DocX w' C (.slice a' m' c') rbs d') ∧ DocSp d' ∧ Rd B w' g q ∧ q ≤ q0 ∧ Fr C g w w'
theorem drRes_mk {B g q0 C m' c' q : Nat} {w w' : World} {a' : Option Addr} {d' : List Bl} (h1 : ∃ rbs, DocX w' C (.slice a' m' c') rbs d') (h2 : DocSp d') (h3 : Rd B w' g q) (h4 : q ≤ q0) (h5 : Fr C g w w') : DrRes B g q0 C w (.returned (.agg #[.slice a' m' c'])) w' := ⟨a', m', c', d', q, rfl, h1, h2, h3, h4, h5⟩
set_option maxRecDepth 100000 in
set_option maxHeartbeats 16000000 in
theorem l71Odd_any (B g p : Nat) (a : Option Addr) (n cap : Nat) (d : List Bl) (w : World) (h : Rd B w g p) (hp : p ≤ 885000) (hD : Dc w a n cap d) (hsm : BlsDr d) (hn1 : 1 ≤ d.length) (hn6 : d.length ≤ 6) :
    Calls Tryz.prog 61 #[.pointer (some ⟨g, 0, none⟩), .agg #[.slice a n cap]] w fun e w' => DrRes B g (p + 600) w.heap.size w e w' := by
  obtain ⟨i0, hi0, hz0, hz1, hz2⟩ := info_parts infoX_block
  have hlt := h.lt
  have HR : Hid (Rd B w g p) := h
  have HDa : Hid (Dc w a n cap d) := hD
  have HN : Hid (n = d.length) := hD.1
  have hnn1 : 1 ≤ n := by rw [HN.out]; exact hn1
  have hnn6 : n ≤ 6 := by rw [HN.out]; exact hn6
  have HSP : Hid (DocSp d) := ⟨by omega, fun x hx => (hsm x hx).sp⟩
  have HDL : Hid (∀ k, k < d.length → BlDr (d.getD k bl0)) := fun k hk => hsm _ (by simp [List.getD, hk])
  clear h hD hsm hn1 hn6
  go_enter Tryz.func61, Tryz.ntmps61
  go_upto_region 1 with fail
  have B0 : Below w.heap.size w ((w.alloc (.cells #[.slice a n cap] 25)).alloc (.cells #[.slice none 0 0] 25)) := ((Below.refl _ _).alloc (Nat.le_refl _) _).alloc (by simp) _
  have G0 : RowAt ((w.alloc (.cells #[.slice a n cap] 25)).alloc (.cells #[.slice none 0 0] 25)) w.heap.size #[.slice a n cap] 25 := (rowAt_new w _ _).alloc _
  have G1 : RowAt ((w.alloc (.cells #[.slice a n cap] 25)).alloc (.cells #[.slice none 0 0] 25)) (w.heap.size + 1) #[.slice none 0 0] 25 := by
    have := rowAt_new (w.alloc (.cells #[.slice a n cap] 25)) #[.slice none 0 0] 25
    simpa using this
  have HDv : Hid (Dc ((w.alloc (.cells #[.slice a n cap] 25)).alloc (.cells #[.slice none 0 0] 25)) a n cap d) := HDa.out.below B0
  generalize ((w.alloc (.cells #[.slice a n cap] 25)).alloc (.cells #[.slice none 0 0] 25)) = v at B0 G0 G1 HDv ⊢
  have HG0 : Hid (RowAt v w.heap.size #[.slice a n cap] 25) := G0
  have HG1 : Hid (RowAt v (w.heap.size + 1) #[.slice none 0 0] 25) := G1
  have HB0 : Hid (Below w.heap.size w v) := B0
  have s0 := B0.size
  have z0 := G0.lt
  have z1 := G1.lt
  have k0 : v.cell? ⟨w.heap.size, 0, none⟩ = some (.slice a n cap) := G0.cell 0
  clear G0 G1 B0
  go_upto_region 2 with (first | (go_at_call 77; refine (l3Copy_any HDv.out (by omega) (fun k hk => (HDL.out k hk).smb)).mono ?_; rintro e w1 ⟨⟨oa, cl, rbs, rfl, hOl⟩, hb1⟩; have HG0w : Hid (RowAt w1 w.heap.size #[.slice a n cap] 25) := HG0.out.below hb1 z0) | (refine wpList_store_row rfl 25 (.tmp 3) (.tmp 7) rfl w.heap.size #[.slice oa n cl] rfl rfl 25 _ HG0w.out drdoc_info rfl (drcells1_one _ _ _) ?_))
  have s1 := hb1.size
  obtain ⟨gq, rfl⟩ : ∃ gq, oa = some ⟨gq, 0, none⟩ := by
    rcases hOl.1.2 with ⟨hv, hz⟩ | ⟨g', cap', cur, hv, -⟩
    · exfalso
      simp only [Value.slice.injEq] at hv
      omega
    · simp only [Value.slice.injEq] at hv
      exact ⟨g', hv.1⟩
  obtain ⟨E, hE⟩ : ∃ E, E = w1.heap.size := ⟨_, rfl⟩
  rw [← hE] at hOl
  have bS : Below w.heap.size w1 (w1.setRow w.heap.size #[.slice (some ⟨gq, 0, none⟩) n cl]) := below_row (Below.refl _ _) (Nat.le_refl _) _
  have T2 : RowAt (w1.setRow w.heap.size #[.slice (some ⟨gq, 0, none⟩) n cl]) w.heap.size #[.slice (some ⟨gq, 0, none⟩) n cl] 25 := HG0w.out.setRow _
  have O2 : DocOwn (w1.setRow w.heap.size #[.slice (some ⟨gq, 0, none⟩) n cl]) v.heap.size E (.slice (some ⟨gq, 0, none⟩) n cl) rbs d := hOl.mid (fun b hb hb' => setRow_otherX _ _ _ _ (by omega))
  have Z2 : RowAt (w1.setRow w.heap.size #[.slice (some ⟨gq, 0, none⟩) n cl]) (w.heap.size + 1) #[.slice none 0 0] 25 := (HG1.out.below hb1 z1).setRowOther _ _ (by omega)
  have F2 : Fr w.heap.size g w (w1.setRow w.heap.size #[.slice (some ⟨gq, 0, none⟩) n cl]) := (((Fr.refl _ _ w).below HB0.out).below (hb1.mono s0)).below bS
  have R2 : Rd B (w1.setRow w.heap.size #[.slice (some ⟨gq, 0, none⟩) n cl]) g p := ((HR.out.below HB0.out hlt).below hb1 (by omega)).below bS hlt
  have z2 : w1.heap.size ≤ (w1.setRow w.heap.size #[.slice (some ⟨gq, 0, none⟩) n cl]).heap.size := bS.size
  generalize (w1.setRow w.heap.size #[.slice (some ⟨gq, 0, none⟩) n cl]) = v2 at T2 O2 Z2 F2 R2 z2 ⊢
  have t2 : v2.cell? ⟨w.heap.size, 0, none⟩ = some (.slice (some ⟨gq, 0, none⟩) n cl) := T2.cell 0
  have HT2 : Hid (RowAt v2 w.heap.size #[.slice (some ⟨gq, 0, none⟩) n cl] 25) := T2
  have HO2 : Hid (DocOwn v2 v.heap.size E (.slice (some ⟨gq, 0, none⟩) n cl) rbs d) := O2
  have HZ2 : Hid (RowAt v2 (w.heap.size + 1) #[.slice none 0 0] 25) := Z2
  have HF2 : Hid (Fr w.heap.size g w v2) := F2
  have HR2 : Hid (Rd B v2 g p) := R2
  clear T2 O2 Z2 F2 R2 bS hOl hb1 HG0 HG1 HDv HDa HR k0 HG0w
  have hcl := HO2.out.dc.2.1
  have hcm := HO2.out.dc.2.2.1
  unfold maxLen at hcm
  have hgq := (docX_at HO2.out.x (i := 0) (by omega)).2.2
  go_wp2_with fail
  refine (pick_any B g p (n : Int) _ HR2.out (by omega) (by omega) (by omega)).mono ?_
  rintro e w3 ⟨k, rfl, hk0, hk1, hr3, hg3⟩
  obtain ⟨k, rfl⟩ : ∃ q : Nat, k = q := ⟨k.toNat, by omega⟩
  have hkn : k < n := by omega
  have hkd : k < d.length := by rw [← HN.out]; exact hkn
  have f3 := fr_grown hg3
  have s3 := f3.size
  have HT3 : Hid (RowAt w3 w.heap.size #[.slice (some ⟨gq, 0, none⟩) n cl] 25) := HT2.out.fr f3 (by omega)
  have HO3 : Hid (DocOwn w3 v.heap.size E (.slice (some ⟨gq, 0, none⟩) n cl) rbs d) := HO2.out.mid (fun b hb hb' => f3.block b (by omega) (by omega))
  have HZ3 : Hid (RowAt w3 (w.heap.size + 1) #[.slice none 0 0] 25) := HZ2.out.fr f3 (by omega)
  have HF3 : Hid (Fr w.heap.size g w w3) := HF2.out.trans (f3.mono (by omega))
  have HR3 : Hid (Rd B w3 g (p + 1)) := hr3
  clear hr3 hg3 f3 HT2 HO2 HZ2 HF2 HR2 t2
  go_wp2_with fail
  refine (pick_any B g (p + 1) 7 _ HR3.out (by omega) (by omega) (by omega)).mono ?_
  rintro e w4 ⟨sw, rfl, hs0, hs1, hr4, hg4⟩
  have f4 := fr_grown hg4
  have s4 := f4.size
  have HT4 : Hid (RowAt w4 w.heap.size #[.slice (some ⟨gq, 0, none⟩) n cl] 25) := HT3.out.fr f4 (by omega)
  have HO4 : Hid (DocOwn w4 v.heap.size E (.slice (some ⟨gq, 0, none⟩) n cl) rbs d) := HO3.out.mid (fun b hb hb' => f4.block b (by omega) (by omega))
  have HZ4 : Hid (RowAt w4 (w.heap.size + 1) #[.slice none 0 0] 25) := HZ3.out.fr f4 (by omega)
  have HF4 : Hid (Fr w.heap.size g w w4) := HF3.out.trans (f4.mono (by omega))
  have HR4 : Hid (Rd B w4 g (p + 1 + 1)) := hr4
  clear hr4 hg4 f4 HT3 HO3 HZ3 HF3 HR3
  have t2 : w4.cell? ⟨w.heap.size, 0, none⟩ = some (.slice (some ⟨gq, 0, none⟩) n cl) := HT4.out.cell 0
  have hgB : v.heap.size ≤ gq := hgq.1
  have hgl : gq < w4.heap.size := by omega
  have hEs : E ≤ w4.heap.size := by omega
  rcases (show sw = 0 ∨ sw = 1 ∨ sw = 2 ∨ sw = 3 ∨ sw = 4 ∨ sw = 5 ∨ sw = 6 by omega) with rfl | rfl | rfl | rfl | rfl | rfl | rfl
  · go_upto_region 6 with fail
    have fd : Fr w4.heap.size g w4 w4.drew := (Fr.refl _ _ _).below ((Below.refl _ _).drew)
    have HTd : Hid (RowAt w4.drew w.heap.size #[.slice (some ⟨gq, 0, none⟩) n cl] 25) := HT4.out
    have HRd : Hid (Rd B w4.drew g (p + 1 + 1)) := HR4.out.below ((Below.refl _ _).drew) HR4.out.lt
    have HOd : Hid (DocOwn w4.drew v.heap.size E (.slice (some ⟨gq, 0, none⟩) n cl) rbs d) := HO4.out.mid (fun b _ _ => rfl)
    have HZd : Hid (RowAt w4.drew (w.heap.size + 1) #[.slice none 0 0] 25) := HZ4.out
    have HFd : Hid (Fr w.heap.size g w w4.drew) := HF4.out.trans (fd.mono (by omega))
    have sd : w4.heap.size = w4.drew.heap.size := rfl
    refine wp_region_noPanic ?_
    refine wp_region_L (fun w' => RowAt w' w.heap.size #[.slice (some ⟨gq, 0, none⟩) n cl] 25) 7 (by kernel_rfl) (HTd.out) (fun hHeld => ?_)
    generalize w4.drew = w5 at HTd HRd HOd HZd HFd sd hHeld ⊢
    clear fd HT4 HO4 HZ4 HF4 HR4 t2
    refine takeL 0 28 (.pointer (some ⟨w.heap.size, 0, none⟩)) rfl rfl (by kernel_rfl) (by kernel_rfl) (by kernel_rfl) (by kernel_rfl) (by kernel_rfl) (fun _ _ _ h => h) (Or.inl ⟨by kernel_rfl, fun w' hS' => by go_simp⟩) hHeld ?_
    (try simp only [Act.put, List.setIfInBounds_toArray, List.set_cons_zero, List.set_cons_succ])
    refine takeL 1 29 (.slice (some ⟨gq, 0, none⟩) n cl) rfl rfl (by kernel_rfl) (by kernel_rfl) (by kernel_rfl) (by kernel_rfl) (by kernel_rfl) (fun _ _ _ h => h) (Or.inl ⟨by kernel_rfl, fun w' hS' => by have hc := RowAt.cell hS' 0; simp at hc; go_simp⟩) hHeld ?_
    (try simp only [Act.put, List.setIfInBounds_toArray, List.set_cons_zero, List.set_cons_succ])
    refine takeL 2 30 (.int .i64 k) rfl rfl (by kernel_rfl) (by kernel_rfl) (by kernel_rfl) (by kernel_rfl) (by kernel_rfl) (fun _ _ _ h => h) (Or.inl ⟨by kernel_rfl, fun w' hS' => by go_simp⟩) hHeld ?_
    (try simp only [Act.put, List.setIfInBounds_toArray, List.set_cons_zero, List.set_cons_succ])
    refine takeL 3 31 (.pointer (some ⟨g, 0, none⟩)) rfl rfl (by kernel_rfl) (by kernel_rfl) (by kernel_rfl) (by kernel_rfl) (by kernel_rfl) (fun _ _ _ h => h) (Or.inl ⟨by kernel_rfl, fun w' hS' => by go_simp⟩) hHeld ?_
    (try simp only [Act.put, List.setIfInBounds_toArray, List.set_cons_zero, List.set_cons_succ])
    refine wpAnyL_ready (rs := [4]) (by kernel_rfl) (by simp) ?_
    refine AllReadyL.cons rfl (fun K hK => ?_) AllReadyL.nil
    go_simp
    go_at_call 60
    refine (pick_any B g (p + 1 + 1) _ _ HRd.out (by omega) (by omega) (by omega)).mono ?_
    rintro e w6 ⟨y, rfl, hy0, hy1, hr6, hg6⟩
    have hf6 := fr_grown hg6
    have s6 := hf6.size
    have HT6 : Hid (RowAt w6 w.heap.size #[.slice (some ⟨gq, 0, none⟩) n cl] 25) := HTd.out.fr hf6 (by omega)
    have HZ6 : Hid (RowAt w6 (w.heap.size + 1) #[.slice none 0 0] 25) := HZd.out.fr hf6 (by omega)
    have HX6 : Hid (DocX w6 v.heap.size (.slice (some ⟨gq, 0, none⟩) n cl) rbs d) := HOd.out.x.fr hf6 (by omega)
    have HF6 : Hid (Fr w.heap.size g w w6) := HFd.out.trans (hf6.mono (by omega))
    have HR6 : Hid (Rd B w6 g (p + 1 + 1 + 1)) := hr6
    clear hr6 hg6 hf6 HTd HZd HOd HFd HRd
    go_wp2_with fail
    refine hK.out _ _ (fun _ => HT6.out) (fun hHeld => ?_)
    replace hHeld := hHeld (by decide)
    clear hK K
    (try simp only [Act.put, List.setIfInBounds_toArray, List.set_cons_zero, List.set_cons_succ])
    obtain ⟨x4, fz4, hgB, hgl⟩ := docX_at HX6.out (i := k) hkn
    have x4 := x4 0 (by omega)
    have fz4 := fz4 0
    simp [rbCells] at x4 fz4
    refine takeL 5 33 (.pointer (some ⟨gq, k * 6, none⟩)) rfl rfl (by kernel_rfl) (by kernel_rfl) (by kernel_rfl) (by kernel_rfl) (by kernel_rfl) (fun _ _ _ h => h) (Or.inl ⟨by kernel_rfl, fun w' hS' => by go_simp⟩) hHeld ?_
    (try simp only [Act.put, List.setIfInBounds_toArray, List.set_cons_zero, List.set_cons_succ])
    refine takeL 6 34 (.pointer (some ⟨gq, k * 6, none⟩)) rfl rfl (by kernel_rfl) (by kernel_rfl) (by kernel_rfl) (by kernel_rfl) (by kernel_rfl) (fun _ _ _ h => h) (Or.inl ⟨by kernel_rfl, fun w' hS' => by go_simp⟩) hHeld ?_
    (try simp only [Act.put, List.setIfInBounds_toArray, List.set_cons_zero, List.set_cons_succ])
    refine wpAnyL_ready (rs := [7]) (by kernel_rfl) (by simp) ?_
    refine AllReadyL.cons rfl (fun K hK => ?_) AllReadyL.nil
    go_simp
    refine hK.out _ _ (fun h => absurd rfl h) (fun _ => ?_)
    clear hK K
    (try simp only [Act.put, List.setIfInBounds_toArray, List.set_cons_zero, List.set_cons_succ])
    refine wpAnyL_done (by kernel_rfl) ?_ _
    refine NoPanic.normal ?_
    clear x4 fz4
    have HTe : Hid (RowAt (w6.setCell ⟨gq, k * 6, none⟩ (.int .i64 y)) w.heap.size #[.slice (some ⟨gq, 0, none⟩) n cl] 25) := HT6.out.other ⟨gq, k * 6, none⟩ _ (by show w.heap.size ≠ gq; omega)
    have HOe : Hid (DocX (w6.setCell ⟨gq, k * 6, none⟩ (.int .i64 y)) v.heap.size (.slice (some ⟨gq, 0, none⟩) n cl) (rbs.set k (y, (rbs.getD k rb0).2)) (d.set k (y, (d.getD k bl0).2))) := docX_kind HX6.out k hkd y
    have HZe : Hid (RowAt (w6.setCell ⟨gq, k * 6, none⟩ (.int .i64 y)) (w.heap.size + 1) #[.slice none 0 0] 25) := HZ6.out.other ⟨gq, k * 6, none⟩ _ (by show w.heap.size + 1 ≠ gq; omega)
    have HRe : Hid (Rd B (w6.setCell ⟨gq, k * 6, none⟩ (.int .i64 y)) g (p + 1 + 1 + 1)) := HR6.out.setCell (by show g < gq; omega) _
    have HFe : Hid (Fr w.heap.size g w (w6.setCell ⟨gq, k * 6, none⟩ (.int .i64 y))) := HF6.out.setCell (p := ⟨gq, k * 6, none⟩) (by show w.heap.size ≤ gq; omega) _
    clear HT6 HZ6 HX6 HF6 HR6
    generalize (w6.setCell ⟨gq, k * 6, none⟩ (.int .i64 y)) = w9 at HTe HOe HZe HRe HFe ⊢
    have te : w9.cell? ⟨w.heap.size, 0, none⟩ = some (.slice (some ⟨gq, 0, none⟩) n cl) := HTe.out.cell 0
    go_wp2_with (refine wpList_store_row rfl 25 (.tmp 4) (.tmp 95) rfl (w.heap.size + 1) #[.slice (some ⟨gq, 0, none⟩) n cl] rfl rfl 25 _ HZe.out drdoc_info rfl (drcells1_one _ _ _) ?_)
    have bT : Below (w.heap.size + 1) w9 (w9.setRow (w.heap.size + 1) #[.slice (some ⟨gq, 0, none⟩) n cl]) := below_row (Below.refl _ _) (Nat.le_refl _) _
    refine bodyPost_ret (v := .agg #[.slice (some ⟨gq, 0, none⟩) n cl]) (results_cell_row (p := 4) (ty := 25) rfl _ _ (w.heap.size + 1) 25 _ _ _ rfl (RowAt.setRow HZe.out _) Tryz.underlying25 rfl drdoc_info) rfl (drRes_mk (d' := (d.set k (y, (d.getD k bl0).2))) (q := (p + 1 + 1 + 1)) ⟨_, (docX_row HOe.out HZe.out _).less (by omega)⟩ (HSP.out.set k _ ⟨(HSP.out.at k).1, (HSP.out.at k).2⟩) (HRe.out.below bT (by omega)) (by omega) (HFe.out.below (bT.mono (by omega))))
  · go_upto_region 8 with fail
    have fd : Fr w4.heap.size g w4 w4.drew := (Fr.refl _ _ _).below ((Below.refl _ _).drew)
    have HTd : Hid (RowAt w4.drew w.heap.size #[.slice (some ⟨gq, 0, none⟩) n cl] 25) := HT4.out
    have HRd : Hid (Rd B w4.drew g (p + 1 + 1)) := HR4.out.below ((Below.refl _ _).drew) HR4.out.lt
    have HOd : Hid (DocOwn w4.drew v.heap.size E (.slice (some ⟨gq, 0, none⟩) n cl) rbs d) := HO4.out.mid (fun b _ _ => rfl)
    have HZd : Hid (RowAt w4.drew (w.heap.size + 1) #[.slice none 0 0] 25) := HZ4.out
    have HFd : Hid (Fr w.heap.size g w w4.drew) := HF4.out.trans (fd.mono (by omega))
    have sd : w4.heap.size = w4.drew.heap.size := rfl
    refine wp_region_noPanic ?_
    refine wp_region_L (fun w' => RowAt w' w.heap.size #[.slice (some ⟨gq, 0, none⟩) n cl] 25) 8 (by kernel_rfl) (HTd.out) (fun hHeld => ?_)
    generalize w4.drew = w5 at HTd HRd HOd HZd HFd sd hHeld ⊢
    clear fd HT4 HO4 HZ4 HF4 HR4 t2
    refine takeL 0 37 (.pointer (some ⟨w.heap.size, 0, none⟩)) rfl rfl (by kernel_rfl) (by kernel_rfl) (by kernel_rfl) (by kernel_rfl) (by kernel_rfl) (fun _ _ _ h => h) (Or.inl ⟨by kernel_rfl, fun w' hS' => by go_simp⟩) hHeld ?_
    (try simp only [Act.put, List.setIfInBounds_toArray, List.set_cons_zero, List.set_cons_succ])
    refine takeL 1 38 (.slice (some ⟨gq, 0, none⟩) n cl) rfl rfl (by kernel_rfl) (by kernel_rfl) (by kernel_rfl) (by kernel_rfl) (by kernel_rfl) (fun _ _ _ h => h) (Or.inl ⟨by kernel_rfl, fun w' hS' => by have hc := RowAt.cell hS' 0; simp at hc; go_simp⟩) hHeld ?_
    (try simp only [Act.put, List.setIfInBounds_toArray, List.set_cons_zero, List.set_cons_succ])
    refine takeL 2 39 (.int .i64 k) rfl rfl (by kernel_rfl) (by kernel_rfl) (by kernel_rfl) (by kernel_rfl) (by kernel_rfl) (fun _ _ _ h => h) (Or.inl ⟨by kernel_rfl, fun w' hS' => by go_simp⟩) hHeld ?_
    (try simp only [Act.put, List.setIfInBounds_toArray, List.set_cons_zero, List.set_cons_succ])
    refine takeL 3 40 (.pointer (some ⟨g, 0, none⟩)) rfl rfl (by kernel_rfl) (by kernel_rfl) (by kernel_rfl) (by kernel_rfl) (by kernel_rfl) (fun _ _ _ h => h) (Or.inl ⟨by kernel_rfl, fun w' hS' => by go_simp⟩) hHeld ?_
    (try simp only [Act.put, List.setIfInBounds_toArray, List.set_cons_zero, List.set_cons_succ])
    refine wpAnyL_ready (rs := [4]) (by kernel_rfl) (by simp) ?_
    refine AllReadyL.cons rfl (fun K hK => ?_) AllReadyL.nil
    go_simp
    go_at_call 60
    refine (pick_any B g (p + 1 + 1) _ _ HRd.out (by omega) (by omega) (by omega)).mono ?_
    rintro e w6 ⟨y, rfl, hy0, hy1, hr6, hg6⟩
    have hf6 := fr_grown hg6
    have s6 := hf6.size
    have HT6 : Hid (RowAt w6 w.heap.size #[.slice (some ⟨gq, 0, none⟩) n cl] 25) := HTd.out.fr hf6 (by omega)
    have HZ6 : Hid (RowAt w6 (w.heap.size + 1) #[.slice none 0 0] 25) := HZd.out.fr hf6 (by omega)
    have HX6 : Hid (DocX w6 v.heap.size (.slice (some ⟨gq, 0, none⟩) n cl) rbs d) := HOd.out.x.fr hf6 (by omega)
    have HF6 : Hid (Fr w.heap.size g w w6) := HFd.out.trans (hf6.mono (by omega))
    have HR6 : Hid (Rd B w6 g (p + 1 + 1 + 1)) := hr6
    clear hr6 hg6 hf6 HTd HZd HOd HFd HRd
    go_wp2_with fail
    refine hK.out _ _ (fun _ => HT6.out) (fun hHeld => ?_)
    replace hHeld := hHeld (by decide)
    clear hK K
    (try simp only [Act.put, List.setIfInBounds_toArray, List.set_cons_zero, List.set_cons_succ])
    refine takeL 5 42 (.int .i64 (y - 1)) rfl rfl (by kernel_rfl) (by kernel_rfl) (by kernel_rfl) (by kernel_rfl) (by kernel_rfl) (fun _ _ _ h => h) (Or.inl ⟨by kernel_rfl, fun w' hS' => by go_simp; rw [IntKind.wrap_i64]; omega⟩) hHeld ?_
    (try simp only [Act.put, List.setIfInBounds_toArray, List.set_cons_zero, List.set_cons_succ])
    obtain ⟨x4, fz4, hgB, hgl⟩ := docX_at HX6.out (i := k) hkn
    have x4 := x4 1 (by omega)
    have fz4 := fz4 1
    simp [rbCells] at x4 fz4
    refine takeL 6 43 (.pointer (some ⟨gq, k * 6, none⟩)) rfl rfl (by kernel_rfl) (by kernel_rfl) (by kernel_rfl) (by kernel_rfl) (by kernel_rfl) (fun _ _ _ h => h) (Or.inl ⟨by kernel_rfl, fun w' hS' => by go_simp⟩) hHeld ?_
    (try simp only [Act.put, List.setIfInBounds_toArray, List.set_cons_zero, List.set_cons_succ])
    refine takeL 7 44 (.pointer (some ⟨gq, k * 6 + 1, none⟩)) rfl rfl (by kernel_rfl) (by kernel_rfl) (by kernel_rfl) (by kernel_rfl) (by kernel_rfl) (fun _ _ _ h => h) (Or.inl ⟨by kernel_rfl, fun w' hS' => by go_simp⟩) hHeld ?_
    (try simp only [Act.put, List.setIfInBounds_toArray, List.set_cons_zero, List.set_cons_succ])
    refine wpAnyL_ready (rs := [8]) (by kernel_rfl) (by simp) ?_
    refine AllReadyL.cons rfl (fun K hK => ?_) AllReadyL.nil
    go_simp
    refine hK.out _ _ (fun h => absurd rfl h) (fun _ => ?_)
    clear hK K
    (try simp only [Act.put])
    refine wpAnyL_done (by kernel_rfl) ?_ _
    refine NoPanic.normal ?_
    clear x4 fz4
    have HTe : Hid (RowAt (w6.setCell ⟨gq, k * 6 + 1, none⟩ (.int .i64 (y - 1))) w.heap.size #[.slice (some ⟨gq, 0, none⟩) n cl] 25) := HT6.out.other ⟨gq, k * 6 + 1, none⟩ _ (by show w.heap.size ≠ gq; omega)
    have HOe : Hid (DocX (w6.setCell ⟨gq, k * 6 + 1, none⟩ (.int .i64 (y - 1))) v.heap.size (.slice (some ⟨gq, 0, none⟩) n cl) (rbs.set k ((rbs.getD k rb0).1, (y - 1), (rbs.getD k rb0).2.2)) (d.set k ((d.getD k bl0).1, (y - 1), (d.getD k bl0).2.2))) := docX_level HX6.out k hkd (y - 1)
    have HZe : Hid (RowAt (w6.setCell ⟨gq, k * 6 + 1, none⟩ (.int .i64 (y - 1))) (w.heap.size + 1) #[.slice none 0 0] 25) := HZ6.out.other ⟨gq, k * 6 + 1, none⟩ _ (by show w.heap.size + 1 ≠ gq; omega)
    have HRe : Hid (Rd B (w6.setCell ⟨gq, k * 6 + 1, none⟩ (.int .i64 (y - 1))) g (p + 1 + 1 + 1)) := HR6.out.setCell (by show g < gq; omega) _
    have HFe : Hid (Fr w.heap.size g w (w6.setCell ⟨gq, k * 6 + 1, none⟩ (.int .i64 (y - 1)))) := HF6.out.setCell (p := ⟨gq, k * 6 + 1, none⟩) (by show w.heap.size ≤ gq; omega) _
    clear HT6 HZ6 HX6 HF6 HR6
    generalize (w6.setCell ⟨gq, k * 6 + 1, none⟩ (.int .i64 (y - 1))) = w9 at HTe HOe HZe HRe HFe ⊢
    have te : w9.cell? ⟨w.heap.size, 0, none⟩ = some (.slice (some ⟨gq, 0, none⟩) n cl) := HTe.out.cell 0
    go_wp2_with (refine wpList_store_row rfl 25 (.tmp 4) (.tmp 95) rfl (w.heap.size + 1) #[.slice (some ⟨gq, 0, none⟩) n cl] rfl rfl 25 _ HZe.out drdoc_info rfl (drcells1_one _ _ _) ?_)
    have bT : Below (w.heap.size + 1) w9 (w9.setRow (w.heap.size + 1) #[.slice (some ⟨gq, 0, none⟩) n cl]) := below_row (Below.refl _ _) (Nat.le_refl _) _
    refine bodyPost_ret (v := .agg #[.slice (some ⟨gq, 0, none⟩) n cl]) (results_cell_row (p := 4) (ty := 25) rfl _ _ (w.heap.size + 1) 25 _ _ _ rfl (RowAt.setRow HZe.out _) Tryz.underlying25 rfl drdoc_info) rfl (drRes_mk (d' := (d.set k ((d.getD k bl0).1, (y - 1), (d.getD k bl0).2.2))) (q := (p + 1 + 1 + 1)) ⟨_, (docX_row HOe.out HZe.out _).less (by omega)⟩ (HSP.out.set k _ ⟨by show -9 ≤ y - 1 ∧ y - 1 ≤ 9; omega, (HSP.out.at k).2⟩) (HRe.out.below bT (by omega)) (by omega) (HFe.out.below (bT.mono (by omega))))
  · go_upto_region 10 with fail
    obtain ⟨⟨xa, xn, xq⟩, hx⟩ : ∃ x, x = (rbs.getD k rb0).2.2.1 := ⟨_, rfl⟩
    have HXr : Hid ((rbs.getD k rb0).2.2.1 = (xa, xn, xq)) := hx.symm
    clear hx
    have HXC : Hid (∀ w' : World, w'.ownsRow v.heap.size 56 6 (.slice (some ⟨gq, 0, none⟩) n cl) rbs.length (flat6 rbs) → w'.cell? ⟨gq, k * 6 + 2, none⟩ = some (.slice xa xn xq)) := fun w' ho => by
      have hl := HO4.out.2.2.1
      have hr := ho
      rw [hl, ← HN.out] at hr
      rw [hr.cellAt (k * 6 + 2) (by omega), flat6_get _ k (by omega) 2 (by omega)]
      show some (sl3V (rbs.getD k rb0).2.2.1) = _
      rw [HXr.out]
      rfl
    have x5 := HXC.out _ HO4.out.1
    have fd : Fr w4.heap.size g w4 w4.drew := (Fr.refl _ _ _).below ((Below.refl _ _).drew)
    have HTd : Hid (RowAt w4.drew w.heap.size #[.slice (some ⟨gq, 0, none⟩) n cl] 25) := HT4.out
    have HRd : Hid (Rd B w4.drew g (p + 1 + 1)) := HR4.out.below ((Below.refl _ _).drew) HR4.out.lt
    have HOd : Hid (DocOwn w4.drew v.heap.size E (.slice (some ⟨gq, 0, none⟩) n cl) rbs d) := HO4.out.mid (fun b _ _ => rfl)
    have HZd : Hid (RowAt w4.drew (w.heap.size + 1) #[.slice none 0 0] 25) := HZ4.out
    have HFd : Hid (Fr w.heap.size g w w4.drew) := HF4.out.trans (fd.mono (by omega))
    have sd : w4.heap.size = w4.drew.heap.size := rfl
    refine wp_region_noPanic ?_
    refine wp_region_L (fun w' => RowAt w' w.heap.size #[.slice (some ⟨gq, 0, none⟩) n cl] 25 ∧ w'.cell? ⟨gq, k * 6 + 2, none⟩ = some (.slice xa xn xq)) 13 (by kernel_rfl) (⟨HTd.out, x5⟩) (fun hHeld => ?_)
    generalize w4.drew = w5 at HTd HRd HOd HZd HFd sd hHeld x5 ⊢
    clear fd HT4 HO4 HZ4 HF4 HR4 t2
    refine takeL 0 47 (.pointer (some ⟨w.heap.size, 0, none⟩)) rfl rfl (by kernel_rfl) (by kernel_rfl) (by kernel_rfl) (by kernel_rfl) (by kernel_rfl) (fun _ _ _ h => h) (Or.inl ⟨by kernel_rfl, fun w' hS' => by go_simp⟩) hHeld ?_
    (try simp only [Act.put, List.setIfInBounds_toArray, List.set_cons_zero, List.set_cons_succ])
    refine takeL 1 48 (.slice (some ⟨gq, 0, none⟩) n cl) rfl rfl (by kernel_rfl) (by kernel_rfl) (by kernel_rfl) (by kernel_rfl) (by kernel_rfl) (fun _ _ _ h => h) (Or.inl ⟨by kernel_rfl, fun w' hS' => by have hc := RowAt.cell hS'.1 0; have hd := hS'.2; simp at hc; go_simp⟩) hHeld ?_
    (try simp only [Act.put, List.setIfInBounds_toArray, List.set_cons_zero, List.set_cons_succ])
    refine takeL 2 49 (.int .i64 k) rfl rfl (by kernel_rfl) (by kernel_rfl) (by kernel_rfl) (by kernel_rfl) (by kernel_rfl) (fun _ _ _ h => h) (Or.inl ⟨by kernel_rfl, fun w' hS' => by go_simp⟩) hHeld ?_
    (try simp only [Act.put, List.setIfInBounds_toArray, List.set_cons_zero, List.set_cons_succ])
    refine takeL 3 50 (.pointer (some ⟨g, 0, none⟩)) rfl rfl (by kernel_rfl) (by kernel_rfl) (by kernel_rfl) (by kernel_rfl) (by kernel_rfl) (fun _ _ _ h => h) (Or.inl ⟨by kernel_rfl, fun w' hS' => by go_simp⟩) hHeld ?_
    (try simp only [Act.put, List.setIfInBounds_toArray, List.set_cons_zero, List.set_cons_succ])
    refine takeL 4 51 (.pointer (some ⟨w.heap.size, 0, none⟩)) rfl rfl (by kernel_rfl) (by kernel_rfl) (by kernel_rfl) (by kernel_rfl) (by kernel_rfl) (fun _ _ _ h => h) (Or.inl ⟨by kernel_rfl, fun w' hS' => by go_simp⟩) hHeld ?_
    (try simp only [Act.put, List.setIfInBounds_toArray, List.set_cons_zero, List.set_cons_succ])
    refine takeL 5 52 (.slice (some ⟨gq, 0, none⟩) n cl) rfl rfl (by kernel_rfl) (by kernel_rfl) (by kernel_rfl) (by kernel_rfl) (by kernel_rfl) (fun _ _ _ h => h) (Or.inl ⟨by kernel_rfl, fun w' hS' => by have hc := RowAt.cell hS'.1 0; have hd := hS'.2; simp at hc; go_simp⟩) hHeld ?_
    (try simp only [Act.put, List.setIfInBounds_toArray, List.set_cons_zero, List.set_cons_succ])
    refine takeL 6 53 (.int .i64 k) rfl rfl (by kernel_rfl) (by kernel_rfl) (by kernel_rfl) (by kernel_rfl) (by kernel_rfl) (fun _ _ _ h => h) (Or.inl ⟨by kernel_rfl, fun w' hS' => by go_simp⟩) hHeld ?_
    (try simp only [Act.put, List.setIfInBounds_toArray, List.set_cons_zero, List.set_cons_succ])
    refine takeL 7 54 (.pointer (some ⟨gq, k * 6, none⟩)) rfl rfl (by kernel_rfl) (by kernel_rfl) (by kernel_rfl) (by kernel_rfl) (by kernel_rfl) (fun _ _ _ h => h) (Or.inl ⟨by kernel_rfl, fun w' hS' => by go_simp⟩) hHeld ?_
    (try simp only [Act.put, List.setIfInBounds_toArray, List.set_cons_zero, List.set_cons_succ])
    refine takeL 8 55 (.pointer (some ⟨gq, k * 6 + 2, none⟩)) rfl rfl (by kernel_rfl) (by kernel_rfl) (by kernel_rfl) (by kernel_rfl) (by kernel_rfl) (fun _ _ _ h => h) (Or.inl ⟨by kernel_rfl, fun w' hS' => by go_simp⟩) hHeld ?_
    (try simp only [Act.put, List.setIfInBounds_toArray, List.set_cons_zero, List.set_cons_succ])
    refine takeL 9 56 (.slice xa xn xq) rfl rfl (by kernel_rfl) (by kernel_rfl) (by kernel_rfl) (by kernel_rfl) (by kernel_rfl) (fun _ _ _ h => h) (Or.inl ⟨by kernel_rfl, fun w' hS' => by have hd := hS'.2; go_simp⟩) hHeld ?_
    (try simp only [Act.put, List.setIfInBounds_toArray, List.set_cons_zero, List.set_cons_succ])
    have HOk : Hid (Own w5 v.heap.size (.slice xa xn xq) (d.getD k bl0).2.2.1) := by
      have := (HOd.out.x.2.2 k hkd).2.1
      rw [HXr.out] at this
      exact this
    have hxn : xn ≤ 24 := by have := HOk.out.len; have := (HDL.out k hkd).2.1; omega
    refine wpAnyL_ready (rs := [10]) (by kernel_rfl) (by simp) ?_
    refine AllReadyL.cons rfl (fun K hK => ?_) AllReadyL.nil
    go_simp
    go_at_call 78
    refine (l71Bad_fo B g (p + 1 + 1) v.heap.size xa xn xq _ _ HRd.out (by omega) HOk.out (by omega) (by omega) hxn).mono ?_
    rintro e w6 ⟨vv, tx, q6, rfl, hO6, hl6, hr6, hq6, hf6, -⟩
    obtain ⟨pa, pc, rfl⟩ := Own.shapeN hO6 rfl
    obtain ⟨pn, hpn⟩ : ∃ pn, tx.length = pn := ⟨_, rfl⟩
    have HL6 : Hid (tx.length ≤ 25) := hl6
    rw [hpn] at hO6 ⊢
    have hf6' : Fo g (sl3V (rbs.getD k rb0).2.2.1).ownBlock w5 w6 := by rw [HXr.out]; exact hf6
    have s6 := hf6.size
    have HT6 : Hid (RowAt w6 w.heap.size #[.slice (some ⟨gq, 0, none⟩) n cl] 25) := (hf6.block w.heap.size HTd.out.lt (by omega) (fun e => rowAt_ne HTd.out HOk.out.row (by decide) e.symm)).trans HTd.out
    have HZ6 : Hid (RowAt w6 (w.heap.size + 1) #[.slice none 0 0] 25) := (hf6.block (w.heap.size + 1) HZd.out.lt (by omega) (fun e => rowAt_ne HZd.out HOk.out.row (by decide) e.symm)).trans HZd.out
    have HOR : Hid (w6.ownsRow v.heap.size 56 6 (.slice (some ⟨gq, 0, none⟩) n cl) rbs.length (flat6 rbs)) := own_fo HOd.out.1 hf6 (by omega) (fun b hb e => own_kinds HOd.out.1 HOk.out (by decide) b e hb)
    have HFo : Hid (Fo g (sl3V (rbs.getD k rb0).2.2.1).ownBlock w5 w6) := hf6'
    have HF6 : Hid (Fr w.heap.size g w w6) := HFd.out.trans (hf6.fr (by omega) (fun b hb => by have := (own_lt HOk.out.row hb).1; omega))
    have HR6 : Hid (Rd B w6 g q6) := hr6
    have HO6 : Hid (Own w6 v.heap.size (sl3V (pa, pn, pc)) tx) := hO6
    have x6 := HXC.out _ HOR.out
    have fz6 : w6.frozen? ⟨gq, k * 6 + 2, none⟩ = false := by
      have h1 := HOR.out
      have h2 := HOd.out.2.2.1
      rw [h2, ← HN.out] at h1
      exact h1.frozenAt (k * 6 + 2)
    clear hr6 hf6 hf6' hO6 hl6 hHeld hpn
    go_wp2_with fail
    refine hK.out _ _ (fun _ => ⟨HT6.out, x6⟩) (fun hHeld => ?_)
    replace hHeld := hHeld (by decide)
    clear hK K 
    (try simp only [Act.put, List.setIfInBounds_toArray, List.set_cons_zero, List.set_cons_succ])
    refine takeL 11 58 (.pointer (some ⟨gq, k * 6, none⟩)) rfl rfl (by kernel_rfl) (by kernel_rfl) (by kernel_rfl) (by kernel_rfl) (by kernel_rfl) (fun _ _ _ h => h) (Or.inl ⟨by kernel_rfl, fun w' hS' => by go_simp⟩) hHeld ?_
    (try simp only [Act.put, List.setIfInBounds_toArray, List.set_cons_zero, List.set_cons_succ])
    refine takeL 12 59 (.pointer (some ⟨gq, k * 6 + 2, none⟩)) rfl rfl (by kernel_rfl) (by kernel_rfl) (by kernel_rfl) (by kernel_rfl) (by kernel_rfl) (fun _ _ _ h => h) (Or.inl ⟨by kernel_rfl, fun w' hS' => by go_simp⟩) hHeld ?_
    (try simp only [Act.put, List.setIfInBounds_toArray, List.set_cons_zero, List.set_cons_succ])
    refine wpAnyL_ready (rs := [13]) (by kernel_rfl) (by simp) ?_
    refine AllReadyL.cons rfl (fun K hK => ?_) AllReadyL.nil
    go_simp
    refine hK.out _ _ (fun h => absurd rfl h) (fun _ => ?_)
    clear hK K
    (try simp only [Act.put, List.setIfInBounds_toArray, List.set_cons_zero, List.set_cons_succ])
    refine wpAnyL_done (by kernel_rfl) ?_ _
    refine NoPanic.normal ?_
    have HTe : Hid (RowAt (w6.setCell ⟨gq, k * 6 + 2, none⟩ (.slice pa pn pc)) w.heap.size #[.slice (some ⟨gq, 0, none⟩) n cl] 25) := HT6.out.other ⟨gq, k * 6 + 2, none⟩ _ (by show w.heap.size ≠ gq; omega)
    have HOe : Hid (DocX (w6.setCell ⟨gq, k * 6 + 2, none⟩ (.slice pa pn pc)) v.heap.size (.slice (some ⟨gq, 0, none⟩) n cl) (rbs.set k ((rbs.getD k rb0).1, (rbs.getD k rb0).2.1, (pa, pn, pc), (rbs.getD k rb0).2.2.2)) (d.set k ((d.getD k bl0).1, (d.getD k bl0).2.1, tx, (d.getD k bl0).2.2.2))) := docX_bad HOd.out k hkd HFo.out (by omega) (pa, pn, pc) tx HO6.out
    have HZe : Hid (RowAt (w6.setCell ⟨gq, k * 6 + 2, none⟩ (.slice pa pn pc)) (w.heap.size + 1) #[.slice none 0 0] 25) := HZ6.out.other ⟨gq, k * 6 + 2, none⟩ _ (by show w.heap.size + 1 ≠ gq; omega)
    have HRe : Hid (Rd B (w6.setCell ⟨gq, k * 6 + 2, none⟩ (.slice pa pn pc)) g (q6)) := HR6.out.setCell (by show g < gq; omega) _
    have HFe : Hid (Fr w.heap.size g w (w6.setCell ⟨gq, k * 6 + 2, none⟩ (.slice pa pn pc))) := HF6.out.setCell (p := ⟨gq, k * 6 + 2, none⟩) (by show w.heap.size ≤ gq; omega) _
    clear x6 fz6 HT6 HOR HZ6 HF6 HR6 HO6 HFo HOd HTd HZd HFd HRd
    generalize (w6.setCell ⟨gq, k * 6 + 2, none⟩ (.slice pa pn pc)) = w9 at HTe HOe HZe HRe HFe ⊢
    have te : w9.cell? ⟨w.heap.size, 0, none⟩ = some (.slice (some ⟨gq, 0, none⟩) n cl) := HTe.out.cell 0
    go_wp2_with (refine wpList_store_row rfl 25 (.tmp 4) (.tmp 95) rfl (w.heap.size + 1) #[.slice (some ⟨gq, 0, none⟩) n cl] rfl rfl 25 _ HZe.out drdoc_info rfl (drcells1_one _ _ _) ?_)
    have bT : Below (w.heap.size + 1) w9 (w9.setRow (w.heap.size + 1) #[.slice (some ⟨gq, 0, none⟩) n cl]) := below_row (Below.refl _ _) (Nat.le_refl _) _
    refine bodyPost_ret (v := .agg #[.slice (some ⟨gq, 0, none⟩) n cl]) (results_cell_row (p := 4) (ty := 25) rfl _ _ (w.heap.size + 1) 25 _ _ _ rfl (RowAt.setRow HZe.out _) Tryz.underlying25 rfl drdoc_info) rfl (drRes_mk (d' := (d.set k ((d.getD k bl0).1, (d.getD k bl0).2.1, tx, (d.getD k bl0).2.2.2))) (q := q6) ⟨_, (docX_row HOe.out HZe.out _).less (by omega)⟩ (HSP.out.set k _ ⟨(HSP.out.at k).1, HL6.out, (HSP.out.at k).2.2⟩) (HRe.out.below bT (by omega)) (by omega) (HFe.out.below (bT.mono (by omega))))
  · go_upto_region 12 with fail
    have fd : Fr w4.heap.size g w4 w4.drew := (Fr.refl _ _ _).below ((Below.refl _ _).drew)
    have HTd : Hid (RowAt w4.drew w.heap.size #[.slice (some ⟨gq, 0, none⟩) n cl] 25) := HT4.out
    have HRd : Hid (Rd B w4.drew g (p + 1 + 1)) := HR4.out.below ((Below.refl _ _).drew) HR4.out.lt
    have HOd : Hid (DocOwn w4.drew v.heap.size E (.slice (some ⟨gq, 0, none⟩) n cl) rbs d) := HO4.out.mid (fun b _ _ => rfl)
    have HZd : Hid (RowAt w4.drew (w.heap.size + 1) #[.slice none 0 0] 25) := HZ4.out
    have HFd : Hid (Fr w.heap.size g w w4.drew) := HF4.out.trans (fd.mono (by omega))
    have sd : w4.heap.size = w4.drew.heap.size := rfl
    refine wp_region_noPanic ?_
    refine wp_region_L (fun w' => RowAt w' w.heap.size #[.slice (some ⟨gq, 0, none⟩) n cl] 25) 7 (by kernel_rfl) (HTd.out) (fun hHeld => ?_)
    generalize w4.drew = w5 at HTd HRd HOd HZd HFd sd hHeld ⊢
    clear fd HT4 HO4 HZ4 HF4 HR4 t2
    refine takeL 0 62 (.pointer (some ⟨w.heap.size, 0, none⟩)) rfl rfl (by kernel_rfl) (by kernel_rfl) (by kernel_rfl) (by kernel_rfl) (by kernel_rfl) (fun _ _ _ h => h) (Or.inl ⟨by kernel_rfl, fun w' hS' => by go_simp⟩) hHeld ?_
    (try simp only [Act.put, List.setIfInBounds_toArray, List.set_cons_zero, List.set_cons_succ])
    refine takeL 1 63 (.slice (some ⟨gq, 0, none⟩) n cl) rfl rfl (by kernel_rfl) (by kernel_rfl) (by kernel_rfl) (by kernel_rfl) (by kernel_rfl) (fun _ _ _ h => h) (Or.inl ⟨by kernel_rfl, fun w' hS' => by have hc := RowAt.cell hS' 0; simp at hc; go_simp⟩) hHeld ?_
    (try simp only [Act.put, List.setIfInBounds_toArray, List.set_cons_zero, List.set_cons_succ])
    refine takeL 2 64 (.int .i64 k) rfl rfl (by kernel_rfl) (by kernel_rfl) (by kernel_rfl) (by kernel_rfl) (by kernel_rfl) (fun _ _ _ h => h) (Or.inl ⟨by kernel_rfl, fun w' hS' => by go_simp⟩) hHeld ?_
    (try simp only [Act.put, List.setIfInBounds_toArray, List.set_cons_zero, List.set_cons_succ])
    refine takeL 3 65 (.pointer (some ⟨g, 0, none⟩)) rfl rfl (by kernel_rfl) (by kernel_rfl) (by kernel_rfl) (by kernel_rfl) (by kernel_rfl) (fun _ _ _ h => h) (Or.inl ⟨by kernel_rfl, fun w' hS' => by go_simp⟩) hHeld ?_
    (try simp only [Act.put, List.setIfInBounds_toArray, List.set_cons_zero, List.set_cons_succ])
    refine wpAnyL_ready (rs := [4]) (by kernel_rfl) (by simp) ?_
    refine AllReadyL.cons rfl (fun K hK => ?_) AllReadyL.nil
    go_simp
    go_at_call 79
    refine (l71Table_any B g (p + 1 + 1) _ HRd.out (by omega)).mono ?_
    rintro e w6 ⟨R, C, xa, xn, xc, rs, l, q, rfl, hO6, hS6, hr6, hq6, hf6⟩
    have s6 := hf6.size
    have HT6 : Hid (RowAt w6 w.heap.size #[.slice (some ⟨gq, 0, none⟩) n cl] 25) := HTd.out.fr hf6 (by omega)
    have HZ6 : Hid (RowAt w6 (w.heap.size + 1) #[.slice none 0 0] 25) := HZd.out.fr hf6 (by omega)
    have HX6 : Hid (DocX w6 v.heap.size (.slice (some ⟨gq, 0, none⟩) n cl) rbs d) := HOd.out.x.fr hf6 (by omega)
    have HF6 : Hid (Fr w.heap.size g w w6) := HFd.out.trans (hf6.mono (by omega))
    have HR6 : Hid (Rd B w6 g q) := hr6
    have HT : Hid (OwnT w6 v.heap.size (sl3V (xa, xn, xc)) rs l) := hO6.less (by omega)
    have HS : Hid (TabSm R C l) := hS6
    clear hr6 hf6 hO6 hS6 HTd HZd HOd HFd HRd
    go_wp2_with fail
    refine hK.out _ _ (fun _ => HT6.out) (fun hHeld => ?_)
    replace hHeld := hHeld (by decide)
    clear hK K
    (try simp only [Act.put, List.setIfInBounds_toArray, List.set_cons_zero, List.set_cons_succ])
    obtain ⟨-, fz4, hgB, hgl⟩ := docX_at HX6.out (i := k) hkn
    refine takeL 5 67 (.pointer (some ⟨gq, k * 6, none⟩)) rfl rfl (by kernel_rfl) (by kernel_rfl) (by kernel_rfl) (by kernel_rfl) (by kernel_rfl) (fun _ _ _ h => h) (Or.inl ⟨by kernel_rfl, fun w' hS' => by go_simp⟩) hHeld ?_
    (try simp only [Act.put, List.setIfInBounds_toArray, List.set_cons_zero, List.set_cons_succ])
    refine takeL 6 68 (.pointer (some ⟨gq, k * 6 + 3, none⟩)) rfl rfl (by kernel_rfl) (by kernel_rfl) (by kernel_rfl) (by kernel_rfl) (by kernel_rfl) (fun _ _ _ h => h) (Or.inl ⟨by kernel_rfl, fun w' hS' => by go_simp⟩) hHeld ?_
    (try simp only [Act.put, List.setIfInBounds_toArray, List.set_cons_zero, List.set_cons_succ])
    refine wpAnyL_ready (rs := [7]) (by kernel_rfl) (by simp) ?_
    refine AllReadyL.cons rfl (fun K hK => ?_) AllReadyL.nil
    rw [if_pos (by kernel_rfl)]
    refine wp_store_mid 54 (.tmp 68) (.tmp 66) rfl gq (k * 6 + 3) #[.int .i64 (R : Int), .int .i64 (C : Int), .slice xa xn xc] rfl rfl ?_ tab_info (by simp [Value.oneCell']) ?_
    · exact docX_there HX6.out hkn
    refine hK.out _ _ (fun h => absurd rfl h) (fun _ => ?_)
    clear hK K
    (try simp only [Act.put, List.setIfInBounds_toArray])
    refine wpAnyL_done (by kernel_rfl) ?_ _
    refine NoPanic.normal ?_
    have HTe : Hid (RowAt (w6.setCells gq (k * 6 + 3) [.int .i64 (R : Int), .int .i64 (C : Int), .slice xa xn xc]) w.heap.size #[.slice (some ⟨gq, 0, none⟩) n cl] 25) := by
      show RowAt (((w6.setCell _ _).setCell _ _).setCell _ _) _ _ _
      exact (((HT6.out.other ⟨gq, k * 6 + 3, none⟩ _ (by show w.heap.size ≠ gq; omega)).other ⟨gq, k * 6 + 3 + 1, none⟩ _ (by show w.heap.size ≠ gq; omega)).other ⟨gq, k * 6 + 3 + 2, none⟩ _ (by show w.heap.size ≠ gq; omega))
    have HOe : Hid (DocX (w6.setCells gq (k * 6 + 3) [.int .i64 (R : Int), .int .i64 (C : Int), .slice xa xn xc]) v.heap.size (.slice (some ⟨gq, 0, none⟩) n cl) (rbs.set k ((rbs.getD k rb0).1, (rbs.getD k rb0).2.1, (rbs.getD k rb0).2.2.1, (R : Int), (C : Int), (xa, xn, xc))) (d.set k ((d.getD k bl0).1, (d.getD k bl0).2.1, (d.getD k bl0).2.2.1, (R : Int), (C : Int), l))) := docX_table HX6.out k hkd R C (xa, xn, xc) rs l HT.out
    have HZe : Hid (RowAt (w6.setCells gq (k * 6 + 3) [.int .i64 (R : Int), .int .i64 (C : Int), .slice xa xn xc]) (w.heap.size + 1) #[.slice none 0 0] 25) := by
      show RowAt (((w6.setCell _ _).setCell _ _).setCell _ _) _ _ _
      exact (((HZ6.out.other ⟨gq, k * 6 + 3, none⟩ _ (by show w.heap.size + 1 ≠ gq; omega)).other ⟨gq, k * 6 + 3 + 1, none⟩ _ (by show w.heap.size + 1 ≠ gq; omega)).other ⟨gq, k * 6 + 3 + 2, none⟩ _ (by show w.heap.size + 1 ≠ gq; omega))
    have HRe : Hid (Rd B (w6.setCells gq (k * 6 + 3) [.int .i64 (R : Int), .int .i64 (C : Int), .slice xa xn xc]) g (q)) := by
      show Rd B (((w6.setCell _ _).setCell _ _).setCell _ _) g q
      exact ((HR6.out.setCell (by show g < gq; omega) _).setCell (by show g < gq; omega) _).setCell (by show g < gq; omega) _
    have HFe : Hid (Fr w.heap.size g w (w6.setCells gq (k * 6 + 3) [.int .i64 (R : Int), .int .i64 (C : Int), .slice xa xn xc])) := by
      show Fr w.heap.size g w (((w6.setCell _ _).setCell _ _).setCell _ _)
      exact ((HF6.out.setCell (by show w.heap.size ≤ gq; omega) _).setCell (by show w.heap.size ≤ gq; omega) _).setCell (by show w.heap.size ≤ gq; omega) _
    clear HT6 HZ6 HX6 HF6 HR6
    generalize (w6.setCells gq (k * 6 + 3) [.int .i64 (R : Int), .int .i64 (C : Int), .slice xa xn xc]) = w9 at HTe HOe HZe HRe HFe ⊢
    have te : w9.cell? ⟨w.heap.size, 0, none⟩ = some (.slice (some ⟨gq, 0, none⟩) n cl) := HTe.out.cell 0
    go_wp2_with (refine wpList_store_row rfl 25 (.tmp 4) (.tmp 95) rfl (w.heap.size + 1) #[.slice (some ⟨gq, 0, none⟩) n cl] rfl rfl 25 _ HZe.out drdoc_info rfl (drcells1_one _ _ _) ?_)
    have bT : Below (w.heap.size + 1) w9 (w9.setRow (w.heap.size + 1) #[.slice (some ⟨gq, 0, none⟩) n cl]) := below_row (Below.refl _ _) (Nat.le_refl _) _
    refine bodyPost_ret (v := .agg #[.slice (some ⟨gq, 0, none⟩) n cl]) (results_cell_row (p := 4) (ty := 25) rfl _ _ (w.heap.size + 1) 25 _ _ _ rfl (RowAt.setRow HZe.out _) Tryz.underlying25 rfl drdoc_info) rfl (drRes_mk (d' := (d.set k ((d.getD k bl0).1, (d.getD k bl0).2.1, (d.getD k bl0).2.2.1, (R : Int), (C : Int), l))) (q := q) ⟨_, (docX_row HOe.out HZe.out _).less (by omega)⟩ (HSP.out.set k ((d.getD k bl0).1, (d.getD k bl0).2.1, (d.getD k bl0).2.2.1, (R : Int), (C : Int), l) ⟨(HSP.out.at k).1, (HSP.out.at k).2.1, HS.out.2.2.1.2, HS.out.2.2.2⟩) (HRe.out.below bT (by omega)) (by omega) (HFe.out.below (bT.mono (by omega))))
  · go_wp2_with fail
    go_loopw [] (fun wr => ∃ (oa : Option Addr) (m oc q : Nat) (rbs' : List Rb) (d' : List Bl), True ∧ 1 ≤ m ∧ m ≤ 9 ∧ m = d'.length ∧ q + (9 - m) ≤ p + 12 ∧ v.heap.size ≤ wr.heap.size ∧ wr.cell? ⟨w.heap.size, 0, none⟩ = some (.slice oa m oc) ∧ RowAt wr w.heap.size #[.slice oa m oc] 25 ∧ RowAt wr (w.heap.size + 1) #[.slice none 0 0] 25 ∧ DocX wr v.heap.size (.slice oa m oc) rbs' d' ∧ (∀ x ∈ d', BlSp x) ∧ Rd B wr g q ∧ Fr w.heap.size g w wr) (fun wr => 10 - lenC wr w.heap.size)
    case atStart => exact ⟨some ⟨gq, 0, none⟩, n, cl, p + 1 + 1, rbs, d, trivial, by omega, by omega, HN.out, by omega, by omega, t2, HT4.out, HZ4.out, HO4.out.x, HSP.out.2, HR4.out, HF4.out⟩
    case round =>
      obtain ⟨oa, m, oc, q, rbs', d', -, hm1, hm9, hml, hq, hvs, t5, hG, hZ, hX, hsp, hr, hF⟩ := hrel
      have hc1 := hX.dc.2.1
      have hc2 := hX.dc.2.2.1
      unfold maxLen at hc2
      have HLM : Hid (lenC wr w.heap.size = m) := by show lenC wr w.heap.size = m; unfold lenC; rw [t5]
      have HML : Hid (m = d'.length) := hml
      have HG : Hid (RowAt wr w.heap.size #[.slice oa m oc] 25) := hG
      have HZ : Hid (RowAt wr (w.heap.size + 1) #[.slice none 0 0] 25) := hZ
      have HX : Hid (DocX wr v.heap.size (.slice oa m oc) rbs' d') := hX
      have HS : Hid (∀ x ∈ d', BlSp x) := hsp
      have HR : Hid (Rd B wr g q) := hr
      have HF : Hid (Fr w.heap.size g w wr) := hF
      clear hG hZ hX hsp hr hF hml t5 t2 HT4 HO4 HZ4 HF4 HR4
      go_upto_region 14 with fail
      have fd : Fr wr.heap.size g wr wr.drew := (Fr.refl _ _ _).below ((Below.refl _ _).drew)
      have HGd : Hid (RowAt wr.drew w.heap.size #[.slice oa m oc] 25) := HG.out
      have HRd : Hid (Rd B wr.drew g q) := HR.out.below ((Below.refl _ _).drew) HR.out.lt
      have HXd : Hid (DocX wr.drew v.heap.size (.slice oa m oc) rbs' d') := HX.out.fr fd (by omega)
      have HZd : Hid (RowAt wr.drew (w.heap.size + 1) #[.slice none 0 0] 25) := HZ.out
      have HFd : Hid (Fr w.heap.size g w wr.drew) := HF.out.trans (fd.mono (by omega))
      have sd : wr.heap.size = wr.drew.heap.size := rfl
      refine wp_region_noPanic ?_
      refine wp_region_held_drew (S := fun w' => RowAt w' w.heap.size #[.slice oa m oc] 25) (by kernel_rfl) HGd.out (fun hHeld => ?_)
      generalize wr.drew = w5 at HGd HRd HXd HZd HFd sd hHeld ⊢
      clear fd HG HX HZ HF HR
      refine take_at 0 71 (.pointer (some ⟨w.heap.size, 0, none⟩)) rfl rfl (by kernel_rfl) (by kernel_rfl) (by kernel_rfl) (fun _ _ _ h => h) (Or.inl ⟨by kernel_rfl, fun w' hS' => by go_simp⟩) hHeld ?_
      (try simp only [Act.put, List.setIfInBounds_toArray, List.set_cons_zero, List.set_cons_succ])
      refine take_at 1 72 (.slice oa m oc) rfl rfl (by kernel_rfl) (by kernel_rfl) (by kernel_rfl) (fun _ _ _ h => h) (Or.inl ⟨by kernel_rfl, fun w' hS' => by have hc := RowAt.cell hS' 0; simp at hc; go_simp⟩) hHeld ?_
      (try simp only [Act.put, List.setIfInBounds_toArray, List.set_cons_zero, List.set_cons_succ])
      refine take_at 2 73 (.int .i64 (m : Int)) rfl rfl (by kernel_rfl) (by kernel_rfl) (by kernel_rfl) (fun _ _ _ h => h) (Or.inl ⟨by kernel_rfl, fun w' hS' => by go_simp⟩) hHeld ?_
      (try simp only [Act.put, List.setIfInBounds_toArray, List.set_cons_zero, List.set_cons_succ])
      refine take_at 3 74 (.pointer (some ⟨g, 0, none⟩)) rfl rfl (by kernel_rfl) (by kernel_rfl) (by kernel_rfl) (fun _ _ _ h => h) (Or.inl ⟨by kernel_rfl, fun w' hS' => by go_simp⟩) hHeld ?_
      (try simp only [Act.put, List.setIfInBounds_toArray, List.set_cons_zero, List.set_cons_succ])
      refine wpAnyH_ready (rs := [4]) (by kernel_rfl) (by simp) ?_
      refine AllReadyH.cons rfl (fun K hK => ?_) AllReadyH.nil
      go_simp
      go_at_call 60
      refine (pick_any B g q _ _ HRd.out (by omega) (by omega) (by omega)).mono ?_
      rintro e w6 ⟨y, rfl, hy0, hy1, hr6, hg6⟩
      have hf6 := fr_grown hg6
      have s6 := hf6.size
      have HG6 : Hid (RowAt w6 w.heap.size #[.slice oa m oc] 25) := HGd.out.fr hf6 (by omega)
      have HZ6 : Hid (RowAt w6 (w.heap.size + 1) #[.slice none 0 0] 25) := HZd.out.fr hf6 (by omega)
      have HX6 : Hid (DocX w6 v.heap.size (.slice oa m oc) rbs' d') := HXd.out.fr hf6 (by omega)
      have HF6 : Hid (Fr w.heap.size g w w6) := HFd.out.trans (hf6.mono (by omega))
      have HR6 : Hid (Rd B w6 g (q + 1)) := hr6
      clear hr6 hg6 hf6 HGd HZd HXd HFd HRd
      go_wp2_with fail
      refine hK.out _ _ (HG6.out) (fun hHeld => ?_)
      clear hK K
      (try simp only [Act.put, List.setIfInBounds_toArray, List.set_cons_zero, List.set_cons_succ])
      refine take_at 5 76 (.int .i64 (8 + y)) rfl rfl (by kernel_rfl) (by kernel_rfl) (by kernel_rfl) (fun _ _ _ h => h) (Or.inl ⟨by kernel_rfl, fun w' hS' => by go_simp; rw [IntKind.wrap_i64]; omega⟩) hHeld ?_
      (try simp only [Act.put, List.setIfInBounds_toArray, List.set_cons_zero, List.set_cons_succ])
      refine take_at 6 77 (.bool (decide ((m : Int) < 8 + y))) rfl rfl (by kernel_rfl) (by kernel_rfl) (by kernel_rfl) (fun _ _ _ h => h) (Or.inl ⟨by kernel_rfl, fun w' hS' => by go_simp⟩) hHeld ?_
      (try simp only [Act.put, List.setIfInBounds_toArray, List.set_cons_zero, List.set_cons_succ])
      refine wpAnyH_done (by kernel_rfl) ?_ _
      refine NoPanic.normal ?_
      by_cases hgo : (m : Int) < 8 + y
      · have hgd : decide ((m : Int) < 8 + y) = true := decide_eq_true hgo
        have d6 := RowAt.cell HG6.out 0
        simp at d6
        have f6 := RowAt.frozen HG6.out 0
        have hrw : w6.ownsRow v.heap.size 56 6 (.slice oa m oc) m (flat6 rbs') := by
          have h1 := HX6.out.1
          have h2 := HX6.out.2.1
          have h3 := HX6.out.len
          rw [h2, ← h3] at h1
          exact h1
        have HRW : Hid (w6.ownsRow v.heap.size 56 6 (.slice oa m oc) m (flat6 rbs')) := hrw
        clear hrw
        rw [hgd]
        go_wp2_with (at_builtin; refine wpList_append_own _ rfl (.tmp 79) (.tmp 81) 23 rfl v.heap.size 56 i0 _ 6 80 Tryz.underlying23 hi0 hz0 hz1 hz2 rfl (by decide) (.slice oa m oc) m (flat6 rbs') rfl (World.ownsRow.alloc HRW.out _) ⟨w6.heap.size, 0, none⟩ 1 1 [.int .i64 1, .int .i64 0, .slice none 0 0, .int .i64 0, .int .i64 0, .slice none 0 0] rfl rfl (cellsX_new _ _ _ _ _ _ _ _) (rbX_one rbP) (by unfold maxLen; omega) (by omega) (by simp; omega) ?_; intro v' w8 hown hgrow _; obtain ⟨oa', oc', HX8, rfl, HG8, HZ8, HR8, HF8, s8, c8, z8⟩ := case4_step HX6.out HML.out HG6.out HZ6.out HR6.out HF6.out hown hgrow (by omega) (by omega) (by omega) trivial)
        go_roundw
        case rel =>
          refine ⟨oa', m + 1, oc', q + 1, rbs' ++ [rbP], d' ++ [blP], trivial, by omega, by omega, by have := HML.out; simp; omega, by omega, by simp; omega, (HG8.out.setCell 0 _).cell 0, (HG8.out.setCell 0 _), HZ8.out.other _ _ (by simp), docX_other HX8.out HG8.out trivial _ _, ?_, HR8.out.setCell (by show g < w.heap.size; omega) _, HF8.out.setCell (by show w.heap.size ≤ w.heap.size; omega) _⟩
          exact blSp_snoc HS.out
        case measure =>
          have e1 := (HG8.out.setCell 0 (.slice oa' (m + 1) oc')).cell 0
          simp at e1
          have e2 : lenC (w8.setCell ⟨w.heap.size, 0, none⟩ (.slice oa' (m + 1) oc')) w.heap.size = m + 1 := by unfold lenC; rw [e1]
          have e3 := HLM.out
          rw [e2, e3]
          omega
      · have hgd : decide ((m : Int) < 8 + y) = false := decide_eq_false hgo
        rw [hgd]
        have HTe := HG6
        have HOe := HX6
        have HZe := HZ6
        have HRe := HR6
        have HFe := HF6
        clear HG6 HX6 HZ6 HR6 HF6
        have te : w6.cell? ⟨w.heap.size, 0, none⟩ = some (.slice oa m oc) := HTe.out.cell 0
        go_wp2_with (refine wpList_store_row rfl 25 (.tmp 4) (.tmp 95) rfl (w.heap.size + 1) #[.slice oa m oc] rfl rfl 25 _ HZe.out drdoc_info rfl (drcells1_one _ _ _) ?_)
        have bT : Below (w.heap.size + 1) w6 (w6.setRow (w.heap.size + 1) #[.slice oa m oc]) := below_row (Below.refl _ _) (Nat.le_refl _) _
        refine bodyPost_ret (v := .agg #[.slice oa m oc]) (results_cell_row (p := 4) (ty := 25) rfl _ _ (w.heap.size + 1) 25 _ _ _ rfl (RowAt.setRow HZe.out _) Tryz.underlying25 rfl drdoc_info) rfl (drRes_mk (d' := d') (q := (q + 1)) ⟨_, (docX_row HOe.out HZe.out _).less (by omega)⟩ (⟨by have := HML.out; omega, HS.out⟩) (HRe.out.below bT (by omega)) (by omega) (HFe.out.below (bT.mono (by omega))))
  · go_upto_region 17 with fail
    have fd : Fr w4.heap.size g w4 w4.drew := (Fr.refl _ _ _).below ((Below.refl _ _).drew)
    have HTd : Hid (RowAt w4.drew w.heap.size #[.slice (some ⟨gq, 0, none⟩) n cl] 25) := HT4.out
    have HRd : Hid (Rd B w4.drew g (p + 1 + 1)) := HR4.out.below ((Below.refl _ _).drew) HR4.out.lt
    have HOd : Hid (DocOwn w4.drew v.heap.size E (.slice (some ⟨gq, 0, none⟩) n cl) rbs d) := HO4.out.mid (fun b _ _ => rfl)
    have HZd : Hid (RowAt w4.drew (w.heap.size + 1) #[.slice none 0 0] 25) := HZ4.out
    have HFd : Hid (Fr w.heap.size g w w4.drew) := HF4.out.trans (fd.mono (by omega))
    have sd : w4.heap.size = w4.drew.heap.size := rfl
    refine wp_region_noPanic ?_
    refine wp_region_L (fun w' => RowAt w' w.heap.size #[.slice (some ⟨gq, 0, none⟩) n cl] 25) 9 (by kernel_rfl) (HTd.out) (fun hHeld => ?_)
    generalize w4.drew = w5 at HTd HRd HOd HZd HFd sd hHeld ⊢
    clear fd HT4 HO4 HZ4 HF4 HR4 t2
    refine takeL 0 86 (.pointer (some ⟨g, 0, none⟩)) rfl rfl (by kernel_rfl) (by kernel_rfl) (by kernel_rfl) (by kernel_rfl) (by kernel_rfl) (fun _ _ _ h => h) (Or.inl ⟨by kernel_rfl, fun w' hS' => by go_simp⟩) hHeld ?_
    (try simp only [Act.put, List.setIfInBounds_toArray, List.set_cons_zero, List.set_cons_succ])
    refine takeL 5 91 (.pointer (some ⟨w.heap.size, 0, none⟩)) rfl rfl (by kernel_rfl) (by kernel_rfl) (by kernel_rfl) (by kernel_rfl) (by kernel_rfl) (fun _ _ _ h => h) (Or.inl ⟨by kernel_rfl, fun w' hS' => by go_simp⟩) hHeld ?_
    (try simp only [Act.put, List.setIfInBounds_toArray, List.set_cons_zero, List.set_cons_succ])
    refine takeL 6 92 (.slice (some ⟨gq, 0, none⟩) n cl) rfl rfl (by kernel_rfl) (by kernel_rfl) (by kernel_rfl) (by kernel_rfl) (by kernel_rfl) (fun _ _ _ h => h) (Or.inl ⟨by kernel_rfl, fun w' hS' => by have hc := RowAt.cell hS' 0; simp at hc; go_simp⟩) hHeld ?_
    (try simp only [Act.put, List.setIfInBounds_toArray, List.set_cons_zero, List.set_cons_succ])
    refine wpAnyL_ready (rs := [1]) (by kernel_rfl) (by simp) ?_
    refine AllReadyL.cons rfl (fun K hK => ?_) AllReadyL.nil
    go_simp
    go_at_call 60
    refine (pick_any B g (p + 1 + 1) _ _ HRd.out (by omega) (by omega) (by omega)).mono ?_
    rintro e w6 ⟨y, rfl, hy0, hy1, hr6, hg6⟩
    have hf6 := fr_grown hg6
    have s6 := hf6.size
    have HT6 : Hid (RowAt w6 w.heap.size #[.slice (some ⟨gq, 0, none⟩) n cl] 25) := HTd.out.fr hf6 (by omega)
    have HZ6 : Hid (RowAt w6 (w.heap.size + 1) #[.slice none 0 0] 25) := HZd.out.fr hf6 (by omega)
    have HX6 : Hid (DocX w6 v.heap.size (.slice (some ⟨gq, 0, none⟩) n cl) rbs d) := HOd.out.x.fr hf6 (by omega)
    have HF6 : Hid (Fr w.heap.size g w w6) := HFd.out.trans (hf6.mono (by omega))
    have HR6 : Hid (Rd B w6 g (p + 1 + 1 + 1)) := hr6
    clear hr6 hg6 hf6 HTd HZd HOd HFd HRd
    go_wp2_with fail
    refine hK.out _ _ (fun _ => HT6.out) (fun hHeld => ?_)
    replace hHeld := hHeld (by decide)
    clear hK K
    (try simp only [Act.put, List.setIfInBounds_toArray, List.set_cons_zero, List.set_cons_succ])
    refine takeL 2 88 (.int .i64 (1 + y)) rfl rfl (by kernel_rfl) (by kernel_rfl) (by kernel_rfl) (by kernel_rfl) (by kernel_rfl) (fun _ _ _ h => h) (Or.inl ⟨by kernel_rfl, fun w' hS' => by go_simp; rw [IntKind.wrap_i64]; omega⟩) hHeld ?_
    (try simp only [Act.put, List.setIfInBounds_toArray, List.set_cons_zero, List.set_cons_succ])
    refine takeL 3 89 (.agg #[.int .i64 2, .int .i64 (1 + y), .slice none 0 0, .int .i64 0, .int .i64 0, .slice none 0 0]) rfl rfl (by kernel_rfl) (by kernel_rfl) (by kernel_rfl) (by kernel_rfl) (by kernel_rfl) (fun _ _ _ h => h) (Or.inl ⟨by kernel_rfl, fun w' hS' => by go_simp⟩) hHeld ?_
    (try simp only [Act.put, List.setIfInBounds_toArray, List.set_cons_zero, List.set_cons_succ])
    refine wpAnyL_ready (rs := [4]) (by kernel_rfl) (by simp) ?_
    refine AllReadyL.cons rfl (fun K hK => ?_) AllReadyL.nil
    go_simp
    have HO7 : Hid ((w6.alloc (.cells #[.int .i64 2, .int .i64 (1 + y), .slice none 0 0, .int .i64 0, .int .i64 0, .slice none 0 0] 56)).ownsRow v.heap.size 56 6 (.slice (some ⟨w6.heap.size, 0, none⟩) 1 1) 1 [.int .i64 2, .int .i64 (1 + y), .slice none 0 0, .int .i64 0, .int .i64 0, .slice none 0 0]) := World.ownsRow_lit w6 #[.int .i64 2, .int .i64 (1 + y), .slice none 0 0, .int .i64 0, .int .i64 0, .slice none 0 0] 1 (by omega) (by unfold maxLen; omega) rfl
    have HT7 : Hid (RowAt (w6.alloc (.cells #[.int .i64 2, .int .i64 (1 + y), .slice none 0 0, .int .i64 0, .int .i64 0, .slice none 0 0] 56)) w.heap.size #[.slice (some ⟨gq, 0, none⟩) n cl] 25) := HT6.out.alloc _
    have HZ7 : Hid (RowAt (w6.alloc (.cells #[.int .i64 2, .int .i64 (1 + y), .slice none 0 0, .int .i64 0, .int .i64 0, .slice none 0 0] 56)) (w.heap.size + 1) #[.slice none 0 0] 25) := HZ6.out.alloc _
    have HX7 : Hid (DocX (w6.alloc (.cells #[.int .i64 2, .int .i64 (1 + y), .slice none 0 0, .int .i64 0, .int .i64 0, .slice none 0 0] 56)) v.heap.size (.slice (some ⟨gq, 0, none⟩) n cl) rbs d) := HX6.out.alloc _
    have HR7 : Hid (Rd B (w6.alloc (.cells #[.int .i64 2, .int .i64 (1 + y), .slice none 0 0, .int .i64 0, .int .i64 0, .slice none 0 0] 56)) g (p + 1 + 1 + 1)) := HR6.out.alloc _
    have HF7 : Hid (Fr w.heap.size g w (w6.alloc (.cells #[.int .i64 2, .int .i64 (1 + y), .slice none 0 0, .int .i64 0, .int .i64 0, .slice none 0 0] 56))) := HF6.out.alloc (by omega) _
    have s7 : (w6.alloc (.cells #[.int .i64 2, .int .i64 (1 + y), .slice none 0 0, .int .i64 0, .int .i64 0, .slice none 0 0] 56)).heap.size = w6.heap.size + 1 := by simp
    have hlg := HX6.out.row_lt
    refine hK.out _ _ (fun _ => HT7.out) (fun hHeld => ?_)
    replace hHeld := hHeld (by decide)
    clear hK K HT6 HZ6 HX6 HR6 HF6
    (try simp only [Act.put, List.setIfInBounds_toArray, List.set_cons_zero, List.set_cons_succ])
    generalize (w6.alloc (.cells #[.int .i64 2, .int .i64 (1 + y), .slice none 0 0, .int .i64 0, .int .i64 0, .slice none 0 0] 56)) = w7 at HO7 HT7 HZ7 HX7 HR7 HF7 s7 hHeld ⊢
    refine wpAnyL_ready (rs := [7]) (by kernel_rfl) (by simp) ?_
    refine AllReadyL.cons rfl (fun K hK => ?_) AllReadyL.nil
    rw [if_pos (by kernel_rfl)]
    refine wp_append_own w7 (.tmp 90) (.tmp 92) 23 rfl v.heap.size 56 i0 _ 6 80 Tryz.underlying23 hi0 hz0 hz1 hz2 rfl (by decide) (.slice (some ⟨w6.heap.size, 0, none⟩) 1 1) 1 [.int .i64 2, .int .i64 (1 + y), .slice none 0 0, .int .i64 0, .int .i64 0, .slice none 0 0] rfl HO7.out ⟨gq, 0, none⟩ n cl (flat6 rbs) rfl (by rw [flat6_length]; have := HX7.out.2.1; have := HN.out; omega) (docX_news HX7.out) (flat6_one _) (by unfold maxLen; omega) (by omega) (by omega) ?_
    intro v' w8 hown hgrow _
    have s8 := hgrow.size
    have hne : ∀ b, (Value.slice (some ⟨w6.heap.size, 0, none⟩) 1 1).ownBlock = some b → b = w6.heap.size := fun b hb => by simp [Value.ownBlock] at hb; exact hb.symm
    have HX8 : Hid (DocX w8 v.heap.size v' ((2, 1 + y, (none, 0, 0), 0, 0, (none, 0, 0)) :: rbs) ((2, 1 + y, [], 0, 0, []) :: d)) := docX_cons HX7.out HN.out (own_rowAts HO7.out) hown hgrow
    have HT8 : Hid (RowAt w8 w.heap.size #[.slice (some ⟨gq, 0, none⟩) n cl] 25) := HT7.out.grown hgrow (fun e => by have := hne _ e; omega)
    have HZ8 : Hid (RowAt w8 (w.heap.size + 1) #[.slice none 0 0] 25) := HZ7.out.grown hgrow (fun e => by have := hne _ e; omega)
    have HR8 : Hid (Rd B w8 g (p + 1 + 1 + 1)) := HR7.out.grownAt hgrow (fun b hb => by have := hne _ hb; omega)
    have HF8 : Hid (Fr w.heap.size g w w8) := HF7.out.grownAt hgrow (by omega) (fun b hb => by have := hne _ hb; omega)
    obtain ⟨oa, oc, rfl⟩ : ∃ a c, v' = .slice a (1 + n) c := by
      obtain ⟨a1, c1, e1⟩ := HX8.out.shape
      refine ⟨a1, c1, ?_⟩
      rw [e1, List.length_cons, ← HN.out, Nat.add_comm]
    refine hK.out _ _ (fun _ => HT8.out) (fun hHeld => ?_)
    replace hHeld := hHeld (by decide)
    clear hK K hown hgrow hne HO7 HT7 HZ7 HX7 HR7 HF7
    (try simp only [Act.put, List.setIfInBounds_toArray])
    refine takeL 8 94 (.pointer (some ⟨w.heap.size, 0, none⟩)) rfl rfl (by kernel_rfl) (by kernel_rfl) (by kernel_rfl) (by kernel_rfl) (by kernel_rfl) (fun _ _ _ h => h) (Or.inl ⟨by kernel_rfl, fun w' hS' => by go_simp⟩) hHeld ?_
    (try simp only [Act.put])
    refine wpAnyL_ready (rs := [9]) (by kernel_rfl) (by simp) ?_
    refine AllReadyL.cons rfl (fun K hK => ?_) AllReadyL.nil
    have d8 := RowAt.cell HT8.out 0
    have f8 := RowAt.frozen HT8.out 0
    simp at d8
    rw [if_pos (by kernel_rfl)]
    go_simp
    refine hK.out _ _ (fun h => absurd rfl h) (fun _ => ?_)
    clear hK K
    (try simp only [Act.put, List.setIfInBounds_toArray, List.set_cons_zero, List.set_cons_succ])
    refine wpAnyL_done (by kernel_rfl) ?_ _
    refine NoPanic.normal ?_
    clear d8 f8
    have HTe : Hid (RowAt (w8.setCell ⟨w.heap.size, 0, none⟩ (.slice oa (1 + n) oc)) w.heap.size #[.slice oa (1 + n) oc] 25) := HT8.out.setCell 0 _
    have HOe : Hid (DocX (w8.setCell ⟨w.heap.size, 0, none⟩ (.slice oa (1 + n) oc)) v.heap.size (.slice oa (1 + n) oc) ((2, 1 + y, (none, 0, 0), 0, 0, (none, 0, 0)) :: rbs) ((2, 1 + y, [], 0, 0, []) :: d)) := docX_other HX8.out HT8.out trivial _ _
    have HZe : Hid (RowAt (w8.setCell ⟨w.heap.size, 0, none⟩ (.slice oa (1 + n) oc)) (w.heap.size + 1) #[.slice none 0 0] 25) := HZ8.out.other _ _ (by simp)
    have HRe : Hid (Rd B (w8.setCell ⟨w.heap.size, 0, none⟩ (.slice oa (1 + n) oc)) g (p + 1 + 1 + 1)) := HR8.out.setCell (by show g < w.heap.size; omega) _
    have HFe : Hid (Fr w.heap.size g w (w8.setCell ⟨w.heap.size, 0, none⟩ (.slice oa (1 + n) oc))) := HF8.out.setCell (by show w.heap.size ≤ w.heap.size; omega) _
    clear HT8 HZ8 HX8 HF8 HR8
    generalize (w8.setCell ⟨w.heap.size, 0, none⟩ (.slice oa (1 + n) oc)) = w9 at HTe HOe HZe HRe HFe ⊢
    have te : w9.cell? ⟨w.heap.size, 0, none⟩ = some (.slice oa (1 + n) oc) := HTe.out.cell 0
    go_wp2_with (refine wpList_store_row rfl 25 (.tmp 4) (.tmp 95) rfl (w.heap.size + 1) #[.slice oa (1 + n) oc] rfl rfl 25 _ HZe.out drdoc_info rfl (drcells1_one _ _ _) ?_)
    have bT : Below (w.heap.size + 1) w9 (w9.setRow (w.heap.size + 1) #[.slice oa (1 + n) oc]) := below_row (Below.refl _ _) (Nat.le_refl _) _
    refine bodyPost_ret (v := .agg #[.slice oa (1 + n) oc]) (results_cell_row (p := 4) (ty := 25) rfl _ _ (w.heap.size + 1) 25 _ _ _ rfl (RowAt.setRow HZe.out _) Tryz.underlying25 rfl drdoc_info) rfl (drRes_mk (d' := ((2, 1 + y, [], 0, 0, []) :: d)) (q := (p + 1 + 1 + 1)) ⟨_, (docX_row HOe.out HZe.out _).less (by omega)⟩ (HSP.out.cons (by have := HN.out; omega) ⟨by show -9 ≤ 1 + y ∧ 1 + y ≤ 9; omega, by simp, by simp, by simp⟩) (HRe.out.below bT (by omega)) (by omega) (HFe.out.below (bT.mono (by omega))))
  · go_upto_region 4 with fail
    obtain ⟨M, hM⟩ : ∃ M, n - (k + 1) = M := ⟨_, rfl⟩
    have b1 : ((k + 1 : Nat) : Int) ≤ (n : Int) := by omega
    have b2 : (0 : Int) ≤ ((k + 1 : Nat) : Int) := by omega
    have b3 : (n : Int) ≤ (cl : Int) := by omega
    have b4 : (k : Int) ≤ (cl : Int) := by omega
    have HMM : Hid (n - (k + 1) = M) := hM
    by_cases hMp : 0 < M
    · have hM25 : k + M ≤ 25 := by omega
      have hkN2 : k + 1 < n := by omega
      clear hM
      have fd : Fr w4.heap.size g w4 w4.drew := (Fr.refl _ _ _).below ((Below.refl _ _).drew)
      have HTd : Hid (RowAt w4.drew w.heap.size #[.slice (some ⟨gq, 0, none⟩) n cl] 25) := HT4.out
      have HRd : Hid (Rd B w4.drew g (p + 1 + 1)) := HR4.out.below ((Below.refl _ _).drew) HR4.out.lt
      have HOd : Hid (DocOwn w4.drew v.heap.size E (.slice (some ⟨gq, 0, none⟩) n cl) rbs d) := HO4.out.mid (fun b _ _ => rfl)
      have HZd : Hid (RowAt w4.drew (w.heap.size + 1) #[.slice none 0 0] 25) := HZ4.out
      have HFd : Hid (Fr w.heap.size g w w4.drew) := HF4.out.trans (fd.mono (by omega))
      have sd : w4.heap.size = w4.drew.heap.size := rfl
      refine wp_region_noPanic ?_
      refine wp_region_L (fun w' => RowAt w' w.heap.size #[.slice (some ⟨gq, 0, none⟩) n cl] 25) 11 (by kernel_rfl) (HTd.out) (fun hHeld => ?_)
      generalize w4.drew = w5 at HTd HRd HOd HZd HFd sd hHeld ⊢
      clear fd HT4 HO4 HZ4 HF4 HR4 t2
      refine takeL 0 15 (.pointer (some ⟨w.heap.size, 0, none⟩)) rfl rfl (by kernel_rfl) (by kernel_rfl) (by kernel_rfl) (by kernel_rfl) (by kernel_rfl) (fun _ _ _ h => h) (Or.inl ⟨by kernel_rfl, fun w' hS' => by go_simp⟩) hHeld ?_
      (try simp only [Act.put, List.setIfInBounds_toArray, List.set_cons_zero, List.set_cons_succ])
      refine takeL 1 16 (.slice (some ⟨gq, 0, none⟩) n cl) rfl rfl (by kernel_rfl) (by kernel_rfl) (by kernel_rfl) (by kernel_rfl) (by kernel_rfl) (fun _ _ _ h => h) (Or.inl ⟨by kernel_rfl, fun w' hS' => by have hc := RowAt.cell hS' 0; simp at hc; go_simp⟩) hHeld ?_
      (try simp only [Act.put, List.setIfInBounds_toArray, List.set_cons_zero, List.set_cons_succ])
      refine takeL 2 17 (.int .i64 k) rfl rfl (by kernel_rfl) (by kernel_rfl) (by kernel_rfl) (by kernel_rfl) (by kernel_rfl) (fun _ _ _ h => h) (Or.inl ⟨by kernel_rfl, fun w' hS' => by go_simp⟩) hHeld ?_
      (try simp only [Act.put, List.setIfInBounds_toArray, List.set_cons_zero, List.set_cons_succ])
      refine takeL 3 18 (.slice (some ⟨gq, 0, none⟩) k cl) rfl rfl (by kernel_rfl) (by kernel_rfl) (by kernel_rfl) (by kernel_rfl) (by kernel_rfl) (fun _ _ _ h => h) (Or.inl ⟨by kernel_rfl, fun w' hS' => by go_simp⟩) hHeld ?_
      (try simp only [Act.put, List.setIfInBounds_toArray, List.set_cons_zero, List.set_cons_succ])
      refine takeL 4 19 (.pointer (some ⟨w.heap.size, 0, none⟩)) rfl rfl (by kernel_rfl) (by kernel_rfl) (by kernel_rfl) (by kernel_rfl) (by kernel_rfl) (fun _ _ _ h => h) (Or.inl ⟨by kernel_rfl, fun w' hS' => by go_simp⟩) hHeld ?_
      (try simp only [Act.put, List.setIfInBounds_toArray, List.set_cons_zero, List.set_cons_succ])
      refine takeL 5 20 (.slice (some ⟨gq, 0, none⟩) n cl) rfl rfl (by kernel_rfl) (by kernel_rfl) (by kernel_rfl) (by kernel_rfl) (by kernel_rfl) (fun _ _ _ h => h) (Or.inl ⟨by kernel_rfl, fun w' hS' => by have hc := RowAt.cell hS' 0; simp at hc; go_simp⟩) hHeld ?_
      (try simp only [Act.put, List.setIfInBounds_toArray, List.set_cons_zero, List.set_cons_succ])
      refine takeL 6 21 (.int .i64 k) rfl rfl (by kernel_rfl) (by kernel_rfl) (by kernel_rfl) (by kernel_rfl) (by kernel_rfl) (fun _ _ _ h => h) (Or.inl ⟨by kernel_rfl, fun w' hS' => by go_simp⟩) hHeld ?_
      (try simp only [Act.put, List.setIfInBounds_toArray, List.set_cons_zero, List.set_cons_succ])
      refine takeL 7 22 (.int .i64 ((k + 1 : Nat) : Int)) rfl rfl (by kernel_rfl) (by kernel_rfl) (by kernel_rfl) (by kernel_rfl) (by kernel_rfl) (fun _ _ _ h => h) (Or.inl ⟨by kernel_rfl, fun w' hS' => by go_simp; rw [IntKind.wrap_i64]; omega⟩) hHeld ?_
      (try simp only [Act.put, List.setIfInBounds_toArray, List.set_cons_zero, List.set_cons_succ])
      refine takeL 8 23 (.slice (some ⟨gq, (k + 1) * 6, none⟩) M (cl - (k + 1))) rfl rfl (by kernel_rfl) (by kernel_rfl) (by kernel_rfl) (by kernel_rfl) (by kernel_rfl) (fun _ _ _ h => h) (Or.inl ⟨by kernel_rfl, fun w' hS' => by go_simp; rw [if_pos (by omega), if_neg (by omega), HMM.out]⟩) hHeld ?_
      (try simp only [Act.put, List.setIfInBounds_toArray, List.set_cons_zero, List.set_cons_succ])
      refine wpAnyL_ready (rs := [9]) (by kernel_rfl) (by simp) ?_
      refine AllReadyL.cons rfl (fun K hK => ?_) AllReadyL.nil
      refine step_append_liesD _ 24 (by rfl) (by rfl) _ _ _ (by rfl) v.heap.size 56 i0 _ 6 80 Tryz.underlying23 hi0 hz0 hz1 hz2 rfl (by omega) (.slice (some ⟨gq, 0, none⟩) k cl) k (flat6 (rbs.take k)) (by rfl) (docX_first HOd.out.x hkn) ⟨gq, (k + 1) * 6, none⟩ M (cl - (k + 1)) (flat6 (rbs.drop (k + 1))) (by rfl) (docX_rest HOd.out.x HMM.out).1 (docX_rest HOd.out.x HMM.out).2 (flat6_one _) hMp (by unfold maxLen; omega) (by omega) (by omega) w5.heap.size rfl ?_
      intro gg cc w6 hown6 hgrow6 hat6 hlt6
      have s6 := hgrow6.size
      have hob : ∀ b, (Value.slice (some ⟨gq, 0, none⟩) k cl).ownBlock = some b → b = gq := fun b hb => by simp [Value.ownBlock] at hb; exact hb.symm
      have HT6 : Hid (RowAt w6 w.heap.size #[.slice (some ⟨gq, 0, none⟩) n cl] 25) := RowAt.grown HTd.out hgrow6 (fun e => by have := hob _ e; omega)
      have HZ6 : Hid (RowAt w6 (w.heap.size + 1) #[.slice none 0 0] 25) := RowAt.grown HZd.out hgrow6 (fun e => by have := hob _ e; omega)
      have HF6 : Hid (Fr w.heap.size g w w6) := HFd.out.grownAt hgrow6 (by omega) (fun b hb => by have := hob _ hb; omega)
      have HR6 : Hid (Rd B w6 g (p + 1 + 1)) := HRd.out.grownAt hgrow6 (fun b hb => by have := hob _ hb; omega)
      have HX6 : Hid (DocX w6 v.heap.size (.slice (some ⟨gg, 0, none⟩) (k + M) cc) (rbs.take k ++ rbs.drop (k + 1)) (d.take k ++ d.drop (k + 1))) := docX_del HOd.out.x (kept_grown (own_rowAts (docX_first HOd.out.x hkn)) hgrow6 _ _) k hkd (by
        rw [flat6_append, List.length_append, List.length_take, Nat.min_eq_left (by have := HOd.out.2.2.1; have := HN.out; omega), List.length_drop, show rbs.length - (k + 1) = M by have := HOd.out.2.2.1; have := HN.out; have := HMM.out; omega]
        exact hown6)
      refine hK.out _ _ (fun _ => HT6.out) (fun hHeld => ?_)
      replace hHeld := hHeld (by decide)
      clear hK K hown6 hgrow6 hat6 hob HTd HZd HOd HFd HRd
      (try simp only [Act.put, List.setIfInBounds_toArray, List.set_cons_zero, List.set_cons_succ])
      refine takeL 10 25 (.pointer (some ⟨w.heap.size, 0, none⟩)) rfl rfl (by kernel_rfl) (by kernel_rfl) (by kernel_rfl) (by kernel_rfl) (by kernel_rfl) (fun _ _ _ h => h) (Or.inl ⟨by kernel_rfl, fun w' hS' => by go_simp⟩) hHeld ?_
      (try simp only [Act.put, List.setIfInBounds_toArray, List.set_cons_zero, List.set_cons_succ])
      refine wpAnyL_ready (rs := [11]) (by kernel_rfl) (by simp) ?_
      refine AllReadyL.cons rfl (fun K hK => ?_) AllReadyL.nil
      have d6 := RowAt.cell HT6.out 0
      have f6 := RowAt.frozen HT6.out 0
      simp at d6
      go_simp
      refine hK.out _ _ (fun h => absurd rfl h) (fun _ => ?_)
      clear hK K
      (try simp only [Act.put, List.setIfInBounds_toArray, List.set_cons_zero, List.set_cons_succ])
      refine wpAnyL_done (by kernel_rfl) ?_ _
      refine NoPanic.normal ?_
      clear d6 f6
      have HTe : Hid (RowAt (w6.setCell ⟨w.heap.size, 0, none⟩ (.slice (some ⟨gg, 0, none⟩) (k + M) cc)) w.heap.size #[.slice (some ⟨gg, 0, none⟩) (k + M) cc] 25) := HT6.out.setCell 0 _
      have HOe : Hid (DocX (w6.setCell ⟨w.heap.size, 0, none⟩ (.slice (some ⟨gg, 0, none⟩) (k + M) cc)) v.heap.size (.slice (some ⟨gg, 0, none⟩) (k + M) cc) (rbs.take k ++ rbs.drop (k + 1)) (d.take k ++ d.drop (k + 1))) := docX_other HX6.out HT6.out trivial _ _
      have HZe : Hid (RowAt (w6.setCell ⟨w.heap.size, 0, none⟩ (.slice (some ⟨gg, 0, none⟩) (k + M) cc)) (w.heap.size + 1) #[.slice none 0 0] 25) := HZ6.out.other _ _ (by simp)
      have HRe : Hid (Rd B (w6.setCell ⟨w.heap.size, 0, none⟩ (.slice (some ⟨gg, 0, none⟩) (k + M) cc)) g (p + 1 + 1)) := HR6.out.setCell (by show g < w.heap.size; omega) _
      have HFe : Hid (Fr w.heap.size g w (w6.setCell ⟨w.heap.size, 0, none⟩ (.slice (some ⟨gg, 0, none⟩) (k + M) cc))) := HF6.out.setCell (by show w.heap.size ≤ w.heap.size; omega) _
      clear HT6 HZ6 HX6 HF6 HR6
      generalize (w6.setCell ⟨w.heap.size, 0, none⟩ (.slice (some ⟨gg, 0, none⟩) (k + M) cc)) = w9 at HTe HOe HZe HRe HFe ⊢
      have te : w9.cell? ⟨w.heap.size, 0, none⟩ = some (.slice (some ⟨gg, 0, none⟩) (k + M) cc) := HTe.out.cell 0
      go_wp2_with (refine wpList_store_row rfl 25 (.tmp 4) (.tmp 95) rfl (w.heap.size + 1) #[.slice (some ⟨gg, 0, none⟩) (k + M) cc] rfl rfl 25 _ HZe.out drdoc_info rfl (drcells1_one _ _ _) ?_)
      have bT : Below (w.heap.size + 1) w9 (w9.setRow (w.heap.size + 1) #[.slice (some ⟨gg, 0, none⟩) (k + M) cc]) := below_row (Below.refl _ _) (Nat.le_refl _) _
      refine bodyPost_ret (v := .agg #[.slice (some ⟨gg, 0, none⟩) (k + M) cc]) (results_cell_row (p := 4) (ty := 25) rfl _ _ (w.heap.size + 1) 25 _ _ _ rfl (RowAt.setRow HZe.out _) Tryz.underlying25 rfl drdoc_info) rfl (drRes_mk (d' := (d.take k ++ d.drop (k + 1))) (q := (p + 1 + 1)) ⟨_, (docX_row HOe.out HZe.out _).less (by omega)⟩ (HSP.out.del k) (HRe.out.below bT (by omega)) (by omega) (HFe.out.below (bT.mono (by omega))))
    · have hM0 : M = 0 := by omega
      subst hM0
      clear hM
      obtain ⟨ax, HAX⟩ : ∃ ax, Hid ((if cl = k + 1 then some (⟨gq, 0, none⟩ : Addr) else some ⟨gq, (k + 1) * 6, none⟩) = ax) := ⟨_, rfl⟩
      obtain ⟨cx, HCX⟩ : ∃ cx, Hid (cl - (k + 1) = cx) := ⟨_, rfl⟩
      have fd : Fr w4.heap.size g w4 w4.drew := (Fr.refl _ _ _).below ((Below.refl _ _).drew)
      have HTd : Hid (RowAt w4.drew w.heap.size #[.slice (some ⟨gq, 0, none⟩) n cl] 25) := HT4.out
      have HRd : Hid (Rd B w4.drew g (p + 1 + 1)) := HR4.out.below ((Below.refl _ _).drew) HR4.out.lt
      have HOd : Hid (DocOwn w4.drew v.heap.size E (.slice (some ⟨gq, 0, none⟩) n cl) rbs d) := HO4.out.mid (fun b _ _ => rfl)
      have HZd : Hid (RowAt w4.drew (w.heap.size + 1) #[.slice none 0 0] 25) := HZ4.out
      have HFd : Hid (Fr w.heap.size g w w4.drew) := HF4.out.trans (fd.mono (by omega))
      have sd : w4.heap.size = w4.drew.heap.size := rfl
      refine wp_region_noPanic ?_
      refine wp_region_L (fun w' => RowAt w' w.heap.size #[.slice (some ⟨gq, 0, none⟩) n cl] 25) 11 (by kernel_rfl) (HTd.out) (fun hHeld => ?_)
      generalize w4.drew = w5 at HTd HRd HOd HZd HFd sd hHeld ⊢
      clear fd HT4 HO4 HZ4 HF4 HR4 t2
      refine takeL 0 15 (.pointer (some ⟨w.heap.size, 0, none⟩)) rfl rfl (by kernel_rfl) (by kernel_rfl) (by kernel_rfl) (by kernel_rfl) (by kernel_rfl) (fun _ _ _ h => h) (Or.inl ⟨by kernel_rfl, fun w' hS' => by go_simp⟩) hHeld ?_
      (try simp only [Act.put, List.setIfInBounds_toArray, List.set_cons_zero, List.set_cons_succ])
      refine takeL 1 16 (.slice (some ⟨gq, 0, none⟩) n cl) rfl rfl (by kernel_rfl) (by kernel_rfl) (by kernel_rfl) (by kernel_rfl) (by kernel_rfl) (fun _ _ _ h => h) (Or.inl ⟨by kernel_rfl, fun w' hS' => by have hc := RowAt.cell hS' 0; simp at hc; go_simp⟩) hHeld ?_
      (try simp only [Act.put, List.setIfInBounds_toArray, List.set_cons_zero, List.set_cons_succ])
      refine takeL 2 17 (.int .i64 k) rfl rfl (by kernel_rfl) (by kernel_rfl) (by kernel_rfl) (by kernel_rfl) (by kernel_rfl) (fun _ _ _ h => h) (Or.inl ⟨by kernel_rfl, fun w' hS' => by go_simp⟩) hHeld ?_
      (try simp only [Act.put, List.setIfInBounds_toArray, List.set_cons_zero, List.set_cons_succ])
      refine takeL 3 18 (.slice (some ⟨gq, 0, none⟩) k cl) rfl rfl (by kernel_rfl) (by kernel_rfl) (by kernel_rfl) (by kernel_rfl) (by kernel_rfl) (fun _ _ _ h => h) (Or.inl ⟨by kernel_rfl, fun w' hS' => by go_simp⟩) hHeld ?_
      (try simp only [Act.put, List.setIfInBounds_toArray, List.set_cons_zero, List.set_cons_succ])
      refine takeL 4 19 (.pointer (some ⟨w.heap.size, 0, none⟩)) rfl rfl (by kernel_rfl) (by kernel_rfl) (by kernel_rfl) (by kernel_rfl) (by kernel_rfl) (fun _ _ _ h => h) (Or.inl ⟨by kernel_rfl, fun w' hS' => by go_simp⟩) hHeld ?_
      (try simp only [Act.put, List.setIfInBounds_toArray, List.set_cons_zero, List.set_cons_succ])
      refine takeL 5 20 (.slice (some ⟨gq, 0, none⟩) n cl) rfl rfl (by kernel_rfl) (by kernel_rfl) (by kernel_rfl) (by kernel_rfl) (by kernel_rfl) (fun _ _ _ h => h) (Or.inl ⟨by kernel_rfl, fun w' hS' => by have hc := RowAt.cell hS' 0; simp at hc; go_simp⟩) hHeld ?_
      (try simp only [Act.put, List.setIfInBounds_toArray, List.set_cons_zero, List.set_cons_succ])
      refine takeL 6 21 (.int .i64 k) rfl rfl (by kernel_rfl) (by kernel_rfl) (by kernel_rfl) (by kernel_rfl) (by kernel_rfl) (fun _ _ _ h => h) (Or.inl ⟨by kernel_rfl, fun w' hS' => by go_simp⟩) hHeld ?_
      (try simp only [Act.put, List.setIfInBounds_toArray, List.set_cons_zero, List.set_cons_succ])
      refine takeL 7 22 (.int .i64 ((k + 1 : Nat) : Int)) rfl rfl (by kernel_rfl) (by kernel_rfl) (by kernel_rfl) (by kernel_rfl) (by kernel_rfl) (fun _ _ _ h => h) (Or.inl ⟨by kernel_rfl, fun w' hS' => by go_simp; rw [IntKind.wrap_i64]; omega⟩) hHeld ?_
      (try simp only [Act.put, List.setIfInBounds_toArray, List.set_cons_zero, List.set_cons_succ])
      refine takeL 8 23 (.slice ax 0 cx) rfl rfl (by kernel_rfl) (by kernel_rfl) (by kernel_rfl) (by kernel_rfl) (by kernel_rfl) (fun _ _ _ h => h) (Or.inl ⟨by kernel_rfl, fun w' hS' => by go_simp; rw [if_pos (by omega), HAX.out, HCX.out, HMM.out]⟩) hHeld ?_
      (try simp only [Act.put, List.setIfInBounds_toArray, List.set_cons_zero, List.set_cons_succ])
      refine wpAnyL_ready (rs := [9]) (by kernel_rfl) (by simp) ?_
      refine AllReadyL.cons rfl (fun K hK => ?_) AllReadyL.nil
      refine step_append_empty (by rfl) _ _ _ (by rfl) v.heap.size 56 i0 6 Tryz.underlying23 hi0 (.slice (some ⟨gq, 0, none⟩) k cl) k (flat6 (rbs.take k)) (by rfl) (docX_first HOd.out.x hkn) _ _ (by rfl) 24 (by rfl) ?_
      have s6 : w5.heap.size ≤ w5.heap.size := Nat.le_refl _
      have HT6 := HTd
      have HZ6 := HZd
      have HF6 := HFd
      have HR6 := HRd
      have HX6 : Hid (DocX w5 v.heap.size (.slice (some ⟨gq, 0, none⟩) k cl) (rbs.take k ++ rbs.drop (k + 1)) (d.take k ++ d.drop (k + 1))) := docX_del HOd.out.x (fun b cs ty _ _ _ h => h) k hkd (by
        rw [flat6_append, List.length_append, List.length_take, Nat.min_eq_left (by have := HOd.out.2.2.1; have := HN.out; omega), List.length_drop, show rbs.length - (k + 1) = 0 by have := HOd.out.2.2.1; have := HN.out; have := HMM.out; omega, List.drop_eq_nil_of_le (by have := HOd.out.2.2.1; have := HN.out; have := HMM.out; omega)]
        show w5.ownsRow _ _ _ _ _ (flat6 (rbs.take k) ++ [])
        rw [List.append_nil]
        exact docX_first HOd.out.x hkn)
      refine hK.out _ _ (fun _ => HT6.out) (fun hHeld => ?_)
      replace hHeld := hHeld (by decide)
      clear hK K HTd HZd HOd HFd HRd
      (try simp only [Act.put, List.setIfInBounds_toArray, List.set_cons_zero, List.set_cons_succ])
      refine takeL 10 25 (.pointer (some ⟨w.heap.size, 0, none⟩)) rfl rfl (by kernel_rfl) (by kernel_rfl) (by kernel_rfl) (by kernel_rfl) (by kernel_rfl) (fun _ _ _ h => h) (Or.inl ⟨by kernel_rfl, fun w' hS' => by go_simp⟩) hHeld ?_
      (try simp only [Act.put, List.setIfInBounds_toArray, List.set_cons_zero, List.set_cons_succ])
      refine wpAnyL_ready (rs := [11]) (by kernel_rfl) (by simp) ?_
      refine AllReadyL.cons rfl (fun K hK => ?_) AllReadyL.nil
      have d6 := RowAt.cell HT6.out 0
      have f6 := RowAt.frozen HT6.out 0
      simp at d6
      go_simp
      refine hK.out _ _ (fun h => absurd rfl h) (fun _ => ?_)
      clear hK K
      (try simp only [Act.put, List.setIfInBounds_toArray, List.set_cons_zero, List.set_cons_succ])
      refine wpAnyL_done (by kernel_rfl) ?_ _
      refine NoPanic.normal ?_
      clear d6 f6
      have HTe : Hid (RowAt (w5.setCell ⟨w.heap.size, 0, none⟩ (.slice (some ⟨gq, 0, none⟩) k cl)) w.heap.size #[.slice (some ⟨gq, 0, none⟩) k cl] 25) := HT6.out.setCell 0 _
      have HOe : Hid (DocX (w5.setCell ⟨w.heap.size, 0, none⟩ (.slice (some ⟨gq, 0, none⟩) k cl)) v.heap.size (.slice (some ⟨gq, 0, none⟩) k cl) (rbs.take k ++ rbs.drop (k + 1)) (d.take k ++ d.drop (k + 1))) := docX_other HX6.out HT6.out trivial _ _
      have HZe : Hid (RowAt (w5.setCell ⟨w.heap.size, 0, none⟩ (.slice (some ⟨gq, 0, none⟩) k cl)) (w.heap.size + 1) #[.slice none 0 0] 25) := HZ6.out.other _ _ (by simp)
      have HRe : Hid (Rd B (w5.setCell ⟨w.heap.size, 0, none⟩ (.slice (some ⟨gq, 0, none⟩) k cl)) g (p + 1 + 1)) := HR6.out.setCell (by show g < w.heap.size; omega) _
      have HFe : Hid (Fr w.heap.size g w (w5.setCell ⟨w.heap.size, 0, none⟩ (.slice (some ⟨gq, 0, none⟩) k cl))) := HF6.out.setCell (by show w.heap.size ≤ w.heap.size; omega) _
      clear HT6 HZ6 HX6 HF6 HR6
      generalize (w5.setCell ⟨w.heap.size, 0, none⟩ (.slice (some ⟨gq, 0, none⟩) k cl)) = w9 at HTe HOe HZe HRe HFe ⊢
      have te : w9.cell? ⟨w.heap.size, 0, none⟩ = some (.slice (some ⟨gq, 0, none⟩) k cl) := HTe.out.cell 0
      go_wp2_with (refine wpList_store_row rfl 25 (.tmp 4) (.tmp 95) rfl (w.heap.size + 1) #[.slice (some ⟨gq, 0, none⟩) k cl] rfl rfl 25 _ HZe.out drdoc_info rfl (drcells1_one _ _ _) ?_)
      have bT : Below (w.heap.size + 1) w9 (w9.setRow (w.heap.size + 1) #[.slice (some ⟨gq, 0, none⟩) k cl]) := below_row (Below.refl _ _) (Nat.le_refl _) _
      refine bodyPost_ret (v := .agg #[.slice (some ⟨gq, 0, none⟩) k cl]) (results_cell_row (p := 4) (ty := 25) rfl _ _ (w.heap.size + 1) 25 _ _ _ rfl (RowAt.setRow HZe.out _) Tryz.underlying25 rfl drdoc_info) rfl (drRes_mk (d' := (d.take k ++ d.drop (k + 1))) (q := (p + 1 + 1)) ⟨_, (docX_row HOe.out HZe.out _).less (by omega)⟩ (HSP.out.del k) (HRe.out.below bT (by omega)) (by omega) (HFe.out.below (bT.mono (by omega))))
end Go.Proofs.YtccoeachemnbnaaGreatDoor
namespace Go.Proofs.YtccoeachemnbnaaGreatDoor
open Go.RowKit

theorem Byt.belowC {B C : Nat} {w w' : World} {a : Option Addr} {n cap : Nat} {zs : List Int} (h : Byt B w a n cap zs) (hb : Below C w w') (hC : B ≤ C) : Byt B w' a n cap zs := by
  obtain ⟨h1, h2, h3, h4, h5⟩ := h
  refine ⟨h1, h2, h3, h4, ?_⟩
  rcases h5 with h5 | ⟨b, off, e, hlt, hc⟩
  · exact .inl h5
  · exact .inr ⟨b, off, e, hlt, fun i hi => (hb.cell (p := ⟨b, off + i, none⟩) (by show b < C; omega)).trans (hc i hi)⟩
theorem results_cell_tmp2 {fn : Func} {p u u' : Tmp} {ty : TypeId} (h : fn.results = #[.cell p ty, .tmp u, .tmp u']) (tmps : Array Value) (P : Program) (w : World) :
    (results fn tmps).run P w =
      ((asAddr (tmps.getD p undef)).run P w).andThen fun a w₁ => ((loadVar ty a).run P w₁).andThen fun v w₂ => .ok (.tuple #[v, tmps.getD u undef, tmps.getD u' undef]) w₂ := by
  simp only [results, h]
  simp [Sem.run_bind, Result.andThen]
theorem below_of_frG {C g : Nat} {a b : World} (h : Fr a.heap.size g a b) (hC : C ≤ a.heap.size) (hg : C ≤ g) : Below C a b := ⟨h.os, h.tape, h.output, h.size, fun k hk => h.block k (by omega) (by omega)⟩
theorem below_of_fr3 {C g : Nat} {w a b c : World} (h0 : Below C w a) (h1 : Below a.heap.size a b) (h2 : Fr b.heap.size g b c) (hg : C ≤ g) (hC : C ≤ a.heap.size) : Below C w c :=
  (h0.trans (h1.mono hC)).trans (below_of_frG h2 (Nat.le_trans hC h1.size) hg)

end Go.Proofs.YtccoeachemnbnaaGreatDoor
namespace Go.Proofs.YtccoeachemnbnaaGreatDoor
open Go.RowKit

theorem BlsDr.sp {d : List Bl} (h : BlsDr d) (hl : d.length ≤ 9) : DocSp d := ⟨hl, fun x hx => (h x hx).sp⟩
theorem DrRes.weak {B g q0 q1 C C' : Nat} {w : World} {e : Ending} {w' : World} (h : DrRes B g q0 C w e w') (hq : q0 ≤ q1) (hC : C' ≤ C) : DrRes B g q1 C' w e w' := by
  obtain ⟨a, m, c, d, q, h0, ⟨rbs, h1⟩, h2, h3, h4, h5⟩ := h
  exact ⟨a, m, c, d, q, h0, ⟨rbs, h1.less hC⟩, h2, h3, by omega, h5.mono hC⟩
set_option maxRecDepth 100000 in
set_option maxHeartbeats 8000000 in
theorem l71Some_any (B g p : Nat) (w : World) (h : Rd B w g p) (hp : p ≤ 880000) :
    Calls Tryz.prog 40 #[.pointer (some ⟨g, 0, none⟩)] w fun e w' => DrRes B g (p + 3700) w.heap.size w e w' := by
  have hlt := h.lt
  have HR : Hid (Rd B w g p) := h
  clear h
  go_enter Tryz.func40, Tryz.ntmps40
  go_upto_region 1 with fail
  have F0 : Fr w.heap.size g w (w.alloc (.cells #[.slice none 0 0] 25)) := (Fr.refl _ _ w).alloc (Nat.le_refl _) _
  have G0 : RowAt (w.alloc (.cells #[.slice none 0 0] 25)) w.heap.size #[.slice none 0 0] 25 := rowAt_new w _ _
  have HR0 : Hid (Rd B (w.alloc (.cells #[.slice none 0 0] 25)) g p) := HR.out.alloc _
  generalize (w.alloc (.cells #[.slice none 0 0] 25)) = v0 at F0 G0 HR0 ⊢
  have s0 := F0.size
  have l0 := G0.lt
  have HG0 : Hid (RowAt v0 w.heap.size #[.slice none 0 0] 25) := G0
  have HF0 : Hid (Fr w.heap.size g w v0) := F0
  clear F0 G0
  go_wp2_with fail
  refine (l71Doc_any B g p _ HR0.out hp).mono ?_
  rintro e w2 ⟨a, m, c, d, q, rfl, ⟨rbs, hX⟩, hBD, hl, hr2, hq, hf2⟩
  have s2 := hf2.size
  have HG2 : Hid (RowAt w2 w.heap.size #[.slice none 0 0] 25) := HG0.out.fr hf2 (by omega)
  have HF2 : Hid (Fr w.heap.size g w w2) := HF0.out.trans (hf2.mono (by omega))
  have HBD : Hid (BlsDr d) := hBD
  have HX2 : Hid (DocX w2 v0.heap.size (.slice a m c) rbs d) := hX
  have HR2 : Hid (Rd B w2 g q) := hr2
  clear hX hBD hr2 hf2 HG0 HF0 HR0
  go_upto_region 2 with fail
  have T3 : RowAt (w2.alloc (.cells #[.slice a m c] 25)) w2.heap.size #[.slice a m c] 25 := rowAt_new _ _ _
  have HX3 : Hid (DocX (w2.alloc (.cells #[.slice a m c] 25)) v0.heap.size (.slice a m c) rbs d) := HX2.out.alloc _
  have HG3 : Hid (RowAt (w2.alloc (.cells #[.slice a m c] 25)) w.heap.size #[.slice none 0 0] 25) := HG2.out.alloc _
  have HF3 : Hid (Fr w.heap.size g w (w2.alloc (.cells #[.slice a m c] 25))) := HF2.out.alloc (by omega) _
  have HR3 : Hid (Rd B (w2.alloc (.cells #[.slice a m c] 25)) g q) := HR2.out.alloc _
  generalize (w2.alloc (.cells #[.slice a m c] 25)) = v3 at T3 HX3 HG3 HF3 HR3 ⊢
  obtain ⟨X, hX⟩ : ∃ X, w2.heap.size = X := ⟨_, rfl⟩
  rw [hX] at T3 ⊢
  have zT := T3.lt
  have hXw : w.heap.size ≤ X := by omega
  have HT3 : Hid (RowAt v3 X #[.slice a m c] 25) := T3
  clear T3 hX HX2 HG2 HF2 HR2
  go_wp2_with fail
  refine (pick_any B g q 10 _ HR3.out (by omega) (by omega) (by omega)).mono ?_
  rintro e w4 ⟨x, rfl, hx0, hx1, hr4, hg4⟩
  have f4 := fr_grown hg4
  have s4 := f4.size
  have HR4 : Hid (Rd B w4 g (q + 1)) := hr4
  have HT4 : Hid (RowAt w4 X #[.slice a m c] 25) := HT3.out.fr f4 (by omega)
  have HX4 : Hid (DocX w4 v0.heap.size (.slice a m c) rbs d) := HX3.out.fr f4 (by omega)
  have HG4 : Hid (RowAt w4 w.heap.size #[.slice none 0 0] 25) := HG3.out.fr f4 (by omega)
  have HF4 : Hid (Fr w.heap.size g w w4) := HF3.out.trans (f4.mono (by omega))
  have k4 : w4.cell? ⟨X, 0, none⟩ = some (.slice a m c) := HT4.out.cell 0
  clear hr4 hg4 f4 HT3 HX3 HG3 HF3 HR3
  by_cases h0 : x = 0
  · subst h0
    go_wp2_with (first | (go_at_call 61; refine (l71Odd_any B g (q + 1) a m c d _ HR4.out (by omega) HX4.out.dc HBD.out hl.1 hl.2).mono ?_; rintro e w5 ⟨a5, m5, c5, d5, q5, rfl, ⟨rbs5, hX5⟩, hS5, hr5, hq5, hf5⟩; have HG5 : Hid (RowAt w5 w.heap.size #[.slice none 0 0] 25) := HG4.out.fr hf5 (by omega); have s5 := hf5.size; have HX5 : Hid (DocX w5 w4.heap.size (.slice a5 m5 c5) rbs5 d5) := hX5; have HS5 : Hid (DocSp d5) := hS5; have HR5 : Hid (Rd B w5 g q5) := hr5; have HF5 : Hid (Fr w.heap.size g w w5) := HF4.out.trans (hf5.mono (by omega)); clear hX5 hS5 hr5 hf5) | (refine wpList_store_row rfl 25 (.tmp 2) (.tmp 11) rfl w.heap.size #[.slice a5 m5 c5] rfl rfl 25 _ HG5.out drdoc_info rfl (drcells1_one _ _ _) ?_))
    have bT : Below w.heap.size w5 (w5.setRow w.heap.size #[.slice a5 m5 c5]) := below_row (Below.refl _ _) (Nat.le_refl _) _
    refine bodyPost_ret (v := .agg #[.slice a5 m5 c5]) (results_cell_row (p := 2) (ty := 25) rfl _ _ w.heap.size 25 _ _ _ rfl (RowAt.setRow HG5.out _) Tryz.underlying25 rfl drdoc_info) rfl (drRes_mk (d' := d5) (q := q5) ⟨_, (docX_row HX5.out HG5.out _).less (by omega)⟩ HS5.out (HR5.out.below bT hlt) (by omega) (HF5.out.below bT))
  · have n0 : (x == 0) = false := by simp; omega
    go_wp2_with (refine wpList_store_row rfl 25 (.tmp 2) (.tmp 12) rfl w.heap.size #[.slice a m c] rfl rfl 25 _ HG4.out drdoc_info rfl (drcells1_one _ _ _) ?_)
    have bT : Below w.heap.size w4 (w4.setRow w.heap.size #[.slice a m c]) := below_row (Below.refl _ _) (Nat.le_refl _) _
    refine bodyPost_ret (v := .agg #[.slice a m c]) (results_cell_row (p := 2) (ty := 25) rfl _ _ w.heap.size 25 _ _ _ rfl (RowAt.setRow HG4.out _) Tryz.underlying25 rfl drdoc_info) rfl (drRes_mk (d' := d) (q := q + 1) ⟨_, (docX_row HX4.out HG4.out _).less (by omega)⟩ (HBD.out.sp (by omega)) (HR4.out.below bT hlt) (by omega) (HF4.out.below bT))
end Go.Proofs.YtccoeachemnbnaaGreatDoor
namespace Go.Proofs.YtccoeachemnbnaaGreatDoor
open Go.RowKit

theorem drpl_info : (Tryz.prog.info? 27).map (·.size) = some 3 := by kernel_rfl
theorem drpl_ones (a b c : Int) : (#[Value.int .i64 a, .int .i64 b, .int .i64 c] : Array Value).all (·.oneCell') = true := by simp [Value.oneCell']
theorem run_place {w : World} {g : Nat} {a b c : Value} (h : RowAt w g #[a, b, c] 27) : (loadVar 27 ⟨g, 0, none⟩).run Tryz.prog w = .ok (.agg #[a, b, c]) w :=
  run_loadVar_row w g 27 27 #[a, b, c] (0, 0) _ h Tryz.underlying27 rfl drpl_info
theorem monoF_docx {g C : Nat} (hg : g < C) (v : Value) (d : List Bl) : MonoF g fun u => ∃ rbs, DocX u C v rbs d := fun _ _ h hf => h.elim fun rbs hr => ⟨rbs, hr.fr hf hg⟩
theorem DocX.blk {w : World} {B : Nat} {a : Option Addr} {n c : Nat} {rbs : List Rb} {d : List Bl} (h : DocX w B (.slice a n c) rbs d) {k : Nat} (hk : k < n) : ∃ b, a = some ⟨b, 0, none⟩ ∧ b < w.heap.size ∧ BlockIs w b (k * 6) (d.getD k bl0) (rbs.getD k rb0).2.2.1.1 (rbs.getD k rb0).2.2.1.2.1 (rbs.getD k rb0).2.2.1.2.2 (rbs.getD k rb0).2.2.2.2.2.1 (rbs.getD k rb0).2.2.2.2.2.2.1 (rbs.getD k rb0).2.2.2.2.2.2.2 := by
  have hn := h.len
  obtain ⟨h0, h2, h3⟩ := h
  have h0' := h0
  rcases h0.2 with ⟨hv, hz⟩ | ⟨g, cap, cur, hv, hg, hgg, hr1, hr2, hr3, hr4⟩
  · simp only [Value.slice.injEq] at hv
    omega
  · simp only [Value.slice.injEq] at hv
    obtain ⟨rfl, h6, rfl⟩ := hv
    refine ⟨g, rfl, (Array.getElem?_eq_some_iff.1 hgg).1, (h3 k (by omega)).at (fun j hj => ?_)⟩
    rw [h6] at h0'
    have hc := h0'.cellAt (k * 6 + j) (by omega)
    rw [hc]
    exact flat6_get rbs k (by omega) j hj
/-- What the drawing of a place gives. -/
def PlRes (B g q0 C : Nat) (w : World) (e : Ending) (w' : World) : Prop := ∃ (b c a : Int) (q : Nat), e = .returned (.agg #[.int .i64 b, .int .i64 c, .int .i64 a]) ∧ (-1 ≤ b ∧ b ≤ 9) ∧ (-1 ≤ c ∧ c ≤ 26) ∧ (-1 ≤ a ∧ a ≤ 26) ∧ Rd B w' g q ∧ q ≤ q0 ∧ Fr C g w w'
theorem plRes_mk {B g q0 C q : Nat} {w w' : World} {b c a : Int} (h1 : -1 ≤ b ∧ b ≤ 9) (h2 : -1 ≤ c ∧ c ≤ 26) (h3 : -1 ≤ a ∧ a ≤ 26) (h4 : Rd B w' g q) (h5 : q ≤ q0) (h6 : Fr C g w w') : PlRes B g q0 C w (.returned (.agg #[.int .i64 b, .int .i64 c, .int .i64 a])) w' := ⟨b, c, a, q, rfl, h1, h2, h3, h4, h5, h6⟩
set_option maxRecDepth 100000 in
set_option maxHeartbeats 16000000 in
theorem l71Place_any (B g p C : Nat) (a : Option Addr) (m c : Nat) (d : List Bl) (w : World) (h : Rd B w g p) (hp : p ≤ 900000) (hD : ∃ rbs, DocX w C (.slice a m c) rbs d) (hgC : g < C) (hS : DocSp d) :
    Calls Tryz.prog 41 #[.pointer (some ⟨g, 0, none⟩), .agg #[.slice a m c]] w fun e w' => PlRes B g (p + 5) w.heap.size w e w' := by
  have hlt := h.lt
  have HR : Hid (Rd B w g p) := h
  have HS : Hid (DocSp d) := hS
  obtain ⟨rbs, hD⟩ := hD
  have HD0 : Hid (DocX w C (.slice a m c) rbs d) := hD
  have HH := hdF_start w g
  have hc1 : m ≤ c := hD.dc.2.1
  have hc2 : c ≤ maxLen := hD.dc.2.2.1
  have hm9 : m ≤ 9 := by
    have : m = d.length := hD.len
    rw [this]
    exact hS.1
  unfold maxLen at hc2
  clear h hD hS
  go_enter Tryz.func41, Tryz.ntmps41
  go_upto_region 1 with fail
  replace HH := hdF_box HH (by first | omega | (simp; omega)) #[.slice a m c] 25
  replace HH := hdF_box HH (by first | omega | (simp; omega)) #[.int .i64 0, .int .i64 0, .int .i64 0] 27
  replace HR : Hid (Rd B ((w.alloc (.cells #[.slice a m c] 25)).alloc (.cells #[.int .i64 0, .int .i64 0, .int .i64 0] 27)) g (p)) := (HR.out.alloc _).alloc _
  have ev2 : (w.alloc (.cells #[.slice a m c] 25)).heap.size = w.heap.size + 1 := by simp
  rw [ev2] at HH
  have sv2 : w.heap.size + 1 < ((w.alloc (.cells #[.slice a m c] 25)).alloc (.cells #[.int .i64 0, .int .i64 0, .int .i64 0] 27)).heap.size := by simp
  generalize ((w.alloc (.cells #[.slice a m c] 25)).alloc (.cells #[.int .i64 0, .int .i64 0, .int .i64 0] 27)) = v2 at HH sv2 HR ⊢
  clear ev2
  have kD_0 : v2.cell? ⟨w.heap.size, 0, none⟩ = some (.slice a m c) := RowAt.cell (HH.out.row _ (List.Mem.tail _ (List.Mem.head _))).2 0
  by_cases hm0 : m = 0
  · have hmb : ((m : Int) == 0) = true := by simp [hm0]
    clear hm0
    go_wp2_with fail
    refine (pick_any B g (p) 4 _ HR.out (by omega) (by omega) (by omega)).mono ?_
    rintro e v3 ⟨x, rfl, hx0, hx1, hr, hgw⟩
    have hf := fr_grown hgw
    have sv3 := hf.size
    replace HR : Hid (Rd B v3 g (p + 1)) := hr
    replace HH := hdF_go HH hf
    clear kD_0
    have kD_0 : v3.cell? ⟨w.heap.size, 0, none⟩ = some (.slice a m c) := RowAt.cell (HH.out.row _ (List.Mem.tail _ (List.Mem.head _))).2 0
    clear hf hr hgw
    go_wp2_with fail
    refine (pick_any B g (p + 1) 3 _ HR.out (by omega) (by omega) (by omega)).mono ?_
    rintro e v4 ⟨y, rfl, hy0, hy1, hr, hgw⟩
    have hf := fr_grown hgw
    have sv4 := hf.size
    replace HR : Hid (Rd B v4 g (p + 1 + 1)) := hr
    replace HH := hdF_go HH hf
    clear kD_0
    have kD_0 : v4.cell? ⟨w.heap.size, 0, none⟩ = some (.slice a m c) := RowAt.cell (HH.out.row _ (List.Mem.tail _ (List.Mem.head _))).2 0
    clear hf hr hgw
    go_wp2_with fail
    refine (pick_any B g (p + 1 + 1) 4 _ HR.out (by omega) (by omega) (by omega)).mono ?_
    rintro e v5 ⟨z, rfl, hz0, hz1, hr, hgw⟩
    have hf := fr_grown hgw
    have sv5 := hf.size
    replace HR : Hid (Rd B v5 g (p + 1 + 1 + 1)) := hr
    replace HH := hdF_go HH hf
    clear kD_0
    have kD_0 : v5.cell? ⟨w.heap.size, 0, none⟩ = some (.slice a m c) := RowAt.cell (HH.out.row _ (List.Mem.tail _ (List.Mem.head _))).2 0
    clear hf hr hgw
    go_wp2_with (refine wpList_store_row rfl 27 (.tmp 4) (.tmp 26) rfl (w.heap.size + 1) #[.int .i64 (x - 1), .int .i64 (y - 1), .int .i64 (z - 1)] rfl rfl 27 _ (HH.out.row _ (List.Mem.head _)).2 drpl_info rfl (drpl_ones _ _ _) ?_)
    have bT : Below w.heap.size v5 (v5.setRow (w.heap.size + 1) #[.int .i64 (x - 1), .int .i64 (y - 1), .int .i64 (z - 1)]) := below_row (Below.refl _ _) (by omega) _
    refine bodyPost_ret (v := .agg #[.int .i64 (x - 1), .int .i64 (y - 1), .int .i64 (z - 1)]) (results_cell_row (p := 4) (ty := 27) rfl _ _ (w.heap.size + 1) 27 _ _ _ rfl (RowAt.setRow (HH.out.row _ (List.Mem.head _)).2 _) Tryz.underlying27 rfl drpl_info) rfl (plRes_mk (q0 := p + 5) (q := p + 1 + 1 + 1) (by omega) (by omega) (by omega) (HR.out.below bT hlt) (by omega) (HH.out.frame.below bT))
  have hm0 : ¬ (m : Int) = 0 := by omega
  have hmb : ((m : Int) == 0) = false := by simp; omega
  go_wp2_with fail
  refine (pick_any B g (p) 20 _ HR.out (by omega) (by omega) (by omega)).mono ?_
  rintro e v3 ⟨x0, rfl, hx00, hx01, hr, hgw⟩
  have hf := fr_grown hgw
  have sv3 := hf.size
  replace HR : Hid (Rd B v3 g (p + 1)) := hr
  replace HH := hdF_go HH hf
  clear kD_0
  have kD_0 : v3.cell? ⟨w.heap.size, 0, none⟩ = some (.slice a m c) := RowAt.cell (HH.out.row _ (List.Mem.tail _ (List.Mem.head _))).2 0
  clear hf hr hgw
  by_cases hx : x0 = 0
  · subst hx
    go_wp2_with fail
    refine (pick_any B g (p + 1) 4 _ HR.out (by omega) (by omega) (by omega)).mono ?_
    rintro e v4 ⟨x, rfl, hx0, hx1, hr, hgw⟩
    have hf := fr_grown hgw
    have sv4 := hf.size
    replace HR : Hid (Rd B v4 g (p + 1 + 1)) := hr
    replace HH := hdF_go HH hf
    clear kD_0
    have kD_0 : v4.cell? ⟨w.heap.size, 0, none⟩ = some (.slice a m c) := RowAt.cell (HH.out.row _ (List.Mem.tail _ (List.Mem.head _))).2 0
    clear hf hr hgw
    go_wp2_with fail
    refine (pick_any B g (p + 1 + 1) 3 _ HR.out (by omega) (by omega) (by omega)).mono ?_
    rintro e v5 ⟨y, rfl, hy0, hy1, hr, hgw⟩
    have hf := fr_grown hgw
    have sv5 := hf.size
    replace HR : Hid (Rd B v5 g (p + 1 + 1 + 1)) := hr
    replace HH := hdF_go HH hf
    clear kD_0
    have kD_0 : v5.cell? ⟨w.heap.size, 0, none⟩ = some (.slice a m c) := RowAt.cell (HH.out.row _ (List.Mem.tail _ (List.Mem.head _))).2 0
    clear hf hr hgw
    go_wp2_with fail
    refine (pick_any B g (p + 1 + 1 + 1) 4 _ HR.out (by omega) (by omega) (by omega)).mono ?_
    rintro e v6 ⟨z, rfl, hz0, hz1, hr, hgw⟩
    have hf := fr_grown hgw
    have sv6 := hf.size
    replace HR : Hid (Rd B v6 g (p + 1 + 1 + 1 + 1)) := hr
    replace HH := hdF_go HH hf
    clear kD_0
    have kD_0 : v6.cell? ⟨w.heap.size, 0, none⟩ = some (.slice a m c) := RowAt.cell (HH.out.row _ (List.Mem.tail _ (List.Mem.head _))).2 0
    clear hf hr hgw
    go_wp2_with (refine wpList_store_row rfl 27 (.tmp 4) (.tmp 26) rfl (w.heap.size + 1) #[.int .i64 (x - 1), .int .i64 (y - 1), .int .i64 (z - 1)] rfl rfl 27 _ (HH.out.row _ (List.Mem.head _)).2 drpl_info rfl (drpl_ones _ _ _) ?_)
    have bT : Below w.heap.size v6 (v6.setRow (w.heap.size + 1) #[.int .i64 (x - 1), .int .i64 (y - 1), .int .i64 (z - 1)]) := below_row (Below.refl _ _) (by omega) _
    refine bodyPost_ret (v := .agg #[.int .i64 (x - 1), .int .i64 (y - 1), .int .i64 (z - 1)]) (results_cell_row (p := 4) (ty := 27) rfl _ _ (w.heap.size + 1) 27 _ _ _ rfl (RowAt.setRow (HH.out.row _ (List.Mem.head _)).2 _) Tryz.underlying27 rfl drpl_info) rfl (plRes_mk (q0 := p + 5) (q := p + 1 + 1 + 1 + 1) (by omega) (by omega) (by omega) (HR.out.below bT hlt) (by omega) (HH.out.frame.below bT))
  have hxb : (x0 == 0) = false := by simp [hx]
  go_wp2_with fail
  refine (pick_any B g (p + 1) m _ HR.out (by omega) (by omega) (by omega)).mono ?_
  rintro e v4 ⟨k0, rfl, hk00, hk01, hr, hgw⟩
  have hf := fr_grown hgw
  have sv4 := hf.size
  replace HR : Hid (Rd B v4 g (p + 1 + 1)) := hr
  replace HH := hdF_go HH hf
  clear kD_0
  have kD_0 : v4.cell? ⟨w.heap.size, 0, none⟩ = some (.slice a m c) := RowAt.cell (HH.out.row _ (List.Mem.tail _ (List.Mem.head _))).2 0
  clear hf hr hgw
  obtain ⟨k, rfl⟩ : ∃ k : Nat, k0 = k := ⟨k0.toNat, by omega⟩
  have hkm : k < m := by omega
  go_upto_region 4 with fail
  replace HH := hdF_box HH (by first | omega | (simp; omega)) #[.int .i64 k, .int .i64 0, .int .i64 0] 27
  replace HR : Hid (Rd B (v4.alloc (.cells #[.int .i64 k, .int .i64 0, .int .i64 0] 27)) g (p + 1 + 1)) := HR.out.alloc _
  clear kD_0
  have sv5 : v4.heap.size < (v4.alloc (.cells #[.int .i64 k, .int .i64 0, .int .i64 0] 27)).heap.size := by simp
  generalize (v4.alloc (.cells #[.int .i64 k, .int .i64 0, .int .i64 0] 27)) = v5 at HH sv5 HR ⊢
  obtain ⟨XP, hXP⟩ : ∃ X, v4.heap.size = X := ⟨_, rfl⟩
  rw [hXP] at HH sv5 ⊢
  have kP_0 : v5.cell? ⟨XP, 0, none⟩ = some (.int .i64 k) := RowAt.cell (HH.out.row _ (List.Mem.head _)).2 0
  have kP_1 : v5.cell? ⟨XP, 1, none⟩ = some (.int .i64 0) := RowAt.cell (HH.out.row _ (List.Mem.head _)).2 1
  have kP_2 : v5.cell? ⟨XP, 2, none⟩ = some (.int .i64 0) := RowAt.cell (HH.out.row _ (List.Mem.head _)).2 2
  have kD_0 : v5.cell? ⟨w.heap.size, 0, none⟩ = some (.slice a m c) := RowAt.cell (HH.out.row _ (List.Mem.tail _ (List.Mem.tail _ (List.Mem.head _)))).2 0
  have HSK : Hid (BlSp (d.getD k bl0)) := HS.out.at k
  obtain ⟨b, rfl, hbw, hblk⟩ := (HD0.out.fr HH.out.frame hgC).blk hkm
  have hbx := HD0.out.2.2 k (by rw [← HD0.out.len]; exact hkm)
  obtain ⟨⟨K0, V0, ⟨ta, tn, tc⟩, R0, C0, ⟨ca, cn, cc⟩⟩, hrb⟩ : ∃ y, y = rbs.getD k rb0 := ⟨_, rfl⟩
  obtain ⟨⟨K, V, t, R, CC, l⟩, hy⟩ : ∃ y, y = d.getD k bl0 := ⟨_, rfl⟩
  rw [← hy] at hblk HSK hbx
  rw [← hrb] at hblk hbx
  have HOT : Hid (∃ rs, OwnT w C (.slice ca cn cc) rs l) := hbx.2.2
  have hbF : b < w.heap.size := by
    obtain ⟨q, hq, h2, _⟩ := HD0.out.blk hkm
    cases hq
    exact h2
  have htn : tn ≤ 25 := by have e : tn = t.length := hblk.2.2.2.2.2.2.1.1; rw [e]; exact HSK.out.2.1
  have htc : tn ≤ tc := hblk.2.2.2.2.2.2.1.2.1
  have htm : tc ≤ maxLen := hblk.2.2.2.2.2.2.1.2.2.1
  have hcn : cn ≤ 25 := by have e : cn = l.length := hblk.2.2.2.2.2.2.2.1; rw [e]; exact HSK.out.2.2.1
  have hcc : cn ≤ cc := hblk.2.2.2.2.2.2.2.2.1
  have hcm : cc ≤ maxLen := hblk.2.2.2.2.2.2.2.2.2.1
  have HL24 : Hid (∀ x ∈ l, x.2.2.2.2.length ≤ 24) := HSK.out.2.2.2
  unfold maxLen at htm hcm
  obtain ⟨c0, c1, c2, c3, c4, c5, -, -⟩ := hblk
  clear hy hrb hbx HSK
  have hk0 : (0 : Int) ≤ (k : Int) := by omega
  have hkb : (k : Int) < (m : Int) := by omega
  go_upto_region 5 with fail
  replace HH := hdF_box HH (by first | omega | (simp; omega)) #[.int .i64 K, .int .i64 V, .slice ta tn tc, .int .i64 R, .int .i64 CC, .slice ca cn cc] 56
  replace HR : Hid (Rd B (v5.alloc (.cells #[.int .i64 K, .int .i64 V, .slice ta tn tc, .int .i64 R, .int .i64 CC, .slice ca cn cc] 56)) g (p + 1 + 1)) := HR.out.alloc _
  clear kP_0 kP_1 kP_2 kD_0
  have sv6 : v5.heap.size < (v5.alloc (.cells #[.int .i64 K, .int .i64 V, .slice ta tn tc, .int .i64 R, .int .i64 CC, .slice ca cn cc] 56)).heap.size := by simp
  generalize (v5.alloc (.cells #[.int .i64 K, .int .i64 V, .slice ta tn tc, .int .i64 R, .int .i64 CC, .slice ca cn cc] 56)) = v6 at HH sv6 HR ⊢
  obtain ⟨XB, hXB⟩ : ∃ X, v5.heap.size = X := ⟨_, rfl⟩
  rw [hXB] at HH sv6 ⊢
  have kB_0 : v6.cell? ⟨XB, 0, none⟩ = some (.int .i64 K) := RowAt.cell (HH.out.row _ (List.Mem.head _)).2 0
  have kB_1 : v6.cell? ⟨XB, 1, none⟩ = some (.int .i64 V) := RowAt.cell (HH.out.row _ (List.Mem.head _)).2 1
  have kB_2 : v6.cell? ⟨XB, 2, none⟩ = some (.slice ta tn tc) := RowAt.cell (HH.out.row _ (List.Mem.head _)).2 2
  have kB_3 : v6.cell? ⟨XB, 3, none⟩ = some (.int .i64 R) := RowAt.cell (HH.out.row _ (List.Mem.head _)).2 3
  have kB_4 : v6.cell? ⟨XB, 4, none⟩ = some (.int .i64 CC) := RowAt.cell (HH.out.row _ (List.Mem.head _)).2 4
  have kB_5 : v6.cell? ⟨XB, 5, none⟩ = some (.slice ca cn cc) := RowAt.cell (HH.out.row _ (List.Mem.head _)).2 5
  have kP_0 : v6.cell? ⟨XP, 0, none⟩ = some (.int .i64 k) := RowAt.cell (HH.out.row _ (List.Mem.tail _ (List.Mem.head _))).2 0
  have kP_1 : v6.cell? ⟨XP, 1, none⟩ = some (.int .i64 0) := RowAt.cell (HH.out.row _ (List.Mem.tail _ (List.Mem.head _))).2 1
  have kP_2 : v6.cell? ⟨XP, 2, none⟩ = some (.int .i64 0) := RowAt.cell (HH.out.row _ (List.Mem.tail _ (List.Mem.head _))).2 2
  have kD_0 : v6.cell? ⟨w.heap.size, 0, none⟩ = some (.slice (some ⟨b, 0, none⟩) m c) := RowAt.cell (HH.out.row _ (List.Mem.tail _ (List.Mem.tail _ (List.Mem.tail _ (List.Mem.head _))))).2 0
  clear c0 c1 c2 c3 c4 c5
  have hXP : w.heap.size + 1 < XP := by omega
  have hXB : XP < XB := by omega
  by_cases hK : K = 3
  · by_cases hc0 : 0 < cn
    · have hk3 : (K == 3) = true := by simp [hK]
      have hcz : (0 : Int) < (cn : Int) := by omega
      go_wp2_with fail
      refine (pick_any B g (p + 1 + 1) cn _ HR.out (by omega) (by omega) (by omega)).mono ?_
      rintro e v7 ⟨j0, rfl, hj00, hj01, hr, hgw⟩
      have hf := fr_grown hgw
      have sv7 := hf.size
      replace HR : Hid (Rd B v7 g (p + 1 + 1 + 1)) := hr
      replace HH := hdF_go HH hf
      clear kB_0 kB_1 kB_2 kB_3 kB_4 kB_5 kP_0 kP_1 kP_2 kD_0
      have kB_0 : v7.cell? ⟨XB, 0, none⟩ = some (.int .i64 K) := RowAt.cell (HH.out.row _ (List.Mem.head _)).2 0
      have kB_1 : v7.cell? ⟨XB, 1, none⟩ = some (.int .i64 V) := RowAt.cell (HH.out.row _ (List.Mem.head _)).2 1
      have kB_2 : v7.cell? ⟨XB, 2, none⟩ = some (.slice ta tn tc) := RowAt.cell (HH.out.row _ (List.Mem.head _)).2 2
      have kB_3 : v7.cell? ⟨XB, 3, none⟩ = some (.int .i64 R) := RowAt.cell (HH.out.row _ (List.Mem.head _)).2 3
      have kB_4 : v7.cell? ⟨XB, 4, none⟩ = some (.int .i64 CC) := RowAt.cell (HH.out.row _ (List.Mem.head _)).2 4
      have kB_5 : v7.cell? ⟨XB, 5, none⟩ = some (.slice ca cn cc) := RowAt.cell (HH.out.row _ (List.Mem.head _)).2 5
      have kP_0 : v7.cell? ⟨XP, 0, none⟩ = some (.int .i64 k) := RowAt.cell (HH.out.row _ (List.Mem.tail _ (List.Mem.head _))).2 0
      have kP_1 : v7.cell? ⟨XP, 1, none⟩ = some (.int .i64 0) := RowAt.cell (HH.out.row _ (List.Mem.tail _ (List.Mem.head _))).2 1
      have kP_2 : v7.cell? ⟨XP, 2, none⟩ = some (.int .i64 0) := RowAt.cell (HH.out.row _ (List.Mem.tail _ (List.Mem.head _))).2 2
      have kD_0 : v7.cell? ⟨w.heap.size, 0, none⟩ = some (.slice (some ⟨b, 0, none⟩) m c) := RowAt.cell (HH.out.row _ (List.Mem.tail _ (List.Mem.tail _ (List.Mem.tail _ (List.Mem.head _))))).2 0
      clear hf hr hgw
      obtain ⟨j, rfl⟩ : ∃ j : Nat, j0 = j := ⟨j0.toNat, by omega⟩
      have hjn : (j : Int) < (cn : Int) := by omega
      have hj0 : (0 : Int) ≤ (j : Int) := by omega
      have fP1 := (RowAt.frozen (HH.out.row _ (List.Mem.tail _ (List.Mem.head _))).2 1)
      go_upto_region 8 with fail
      have bP1 : Below XP v7 (v7.setCell ⟨XP, 1, none⟩ (.int .i64 j)) := (Below.refl _ _).setCell (by show XP ≤ XP; omega) _
      have GP1 : RowAt (v7.setCell ⟨XP, 1, none⟩ (.int .i64 j)) XP #[.int .i64 k, .int .i64 j, .int .i64 0] 27 := RowAt.setCell (HH.out.row _ (List.Mem.tail _ (List.Mem.head _))).2 1 _
      have bP1d : Below (w.heap.size + 2) v7 (v7.setCell ⟨XP, 1, none⟩ (.int .i64 j)) := bP1.mono (by omega)
      have GZ1 : RowAt (v7.setCell ⟨XP, 1, none⟩ (.int .i64 j)) (w.heap.size + 1) #[.int .i64 0, .int .i64 0, .int .i64 0] 27 := RowAt.below (HH.out.row _ (List.Mem.tail _ (List.Mem.tail _ (List.Mem.head _)))).2 bP1 (by omega)
      have HRz1 : Hid (Rd B (v7.setCell ⟨XP, 1, none⟩ (.int .i64 j)) g (p + 1 + 1 + 1)) := HR.out.below bP1 (by omega)
      have HFz1 : Hid (Fr w.heap.size g w (v7.setCell ⟨XP, 1, none⟩ (.int .i64 j))) := HH.out.frame.below (bP1.mono (by omega))
      have GB1 : RowAt (v7.setCell ⟨XP, 1, none⟩ (.int .i64 j)) XB #[.int .i64 K, .int .i64 V, .slice ta tn tc, .int .i64 R, .int .i64 CC, .slice ca cn cc] 56 := by
        have := RowAt.other (HH.out.row _ (List.Mem.head _)).2 ⟨XP, 1, none⟩ (.int .i64 j) (by show XB ≠ XP; omega)
        exact this
      generalize (v7.setCell ⟨XP, 1, none⟩ (.int .i64 j)) = vy at bP1 GP1 GZ1 HRz1 HFz1 GB1 ⊢
      clear kB_0 kB_1 kB_2 kB_3 kB_4 kB_5 kP_0 kP_1 kP_2 kD_0
      have HTY : Hid (Tab vy ca cn cc l) := HOT.out.elim fun rs hr => (hr.fr HFz1.out hgC).tab
      have hjl : j < l.length := by rw [← HTY.out.1]; omega
      rcases HTY.out.2.2.2 with q | ⟨bb, oo, rfl, hbbw, hcl⟩
      · rw [q] at hjl
        exact absurd hjl (by simp)
      obtain ⟨-, -, -, -, xa, xn, xc, x4, hxt⟩ := hcl j hjl
      have hx24 : xn ≤ 24 := by
        rw [hxt.1, show l.getD j cl0 = l[j] by simp [List.getD, hjl]]
        exact HL24.out _ (List.getElem_mem hjl)
      have hxc := hxt.2.1
      have hxm := hxt.2.2.1
      unfold maxLen at hxm
      clear hcl hxt HTY
      have ky0 := GP1.cell 0
      have ky1 := GP1.cell 1
      have ky2 := GP1.cell 2
      simp at ky0 ky1 ky2
      have kb0 : vy.cell? ⟨XB, 0, none⟩ = some (.int .i64 K) := GB1.cell 0
      have kb1 : vy.cell? ⟨XB, 1, none⟩ = some (.int .i64 V) := GB1.cell 1
      have kb2 : vy.cell? ⟨XB, 2, none⟩ = some (.slice ta tn tc) := GB1.cell 2
      have kb3 : vy.cell? ⟨XB, 3, none⟩ = some (.int .i64 R) := GB1.cell 3
      have kb4 : vy.cell? ⟨XB, 4, none⟩ = some (.int .i64 CC) := GB1.cell 4
      have kb5 : vy.cell? ⟨XB, 5, none⟩ = some (.slice (some ⟨bb, oo, none⟩) cn cc) := GB1.cell 5
      go_wp2_with fail
      refine (pick_any B g (p + 1 + 1 + 1) ((xn : Int) + 1) _ HRz1.out (by omega) (by omega) (by omega)).mono ?_
      rintro e vq ⟨z, rfl, hz0, hz1, hr, hgw⟩
      have hf := fr_grown hgw
      have sq := hf.size
      have lP := GP1.lt
      have GP2 : RowAt vq XP #[.int .i64 k, .int .i64 j, .int .i64 0] 27 := GP1.fr hf (by omega)
      have GZ2 : RowAt vq (w.heap.size + 1) #[.int .i64 0, .int .i64 0, .int .i64 0] 27 := GZ1.fr hf (by omega)
      have HRq : Hid (Rd B vq g (p + 1 + 1 + 1 + 1)) := hr
      have HFq : Hid (Fr w.heap.size g w vq) := HFz1.out.trans (hf.mono (by have := bP1.size; omega))
      clear ky0 ky1 ky2 kb0 kb1 kb2 kb3 kb4 kb5 x4 hf hr hgw
      have kq0 := GP2.cell 0
      have kq1 := GP2.cell 1
      have kq2 := GP2.cell 2
      simp at kq0 kq1 kq2
      have fP := RowAt.frozen GP2 2
      go_upto_region 10 with fail
      have bP : Below (w.heap.size + 2) vq (vq.setCell ⟨XP, 2, none⟩ (.int .i64 z)) := (Below.refl _ _).setCell (by show w.heap.size + 2 ≤ XP; omega) _
      have GP : RowAt (vq.setCell ⟨XP, 2, none⟩ (.int .i64 z)) XP #[.int .i64 k, .int .i64 j, .int .i64 z] 27 := RowAt.setCell GP2 2 _
      have GZ : RowAt (vq.setCell ⟨XP, 2, none⟩ (.int .i64 z)) (w.heap.size + 1) #[.int .i64 0, .int .i64 0, .int .i64 0] 27 := RowAt.below GZ2 bP (by omega)
      have HRz : Hid (Rd B (vq.setCell ⟨XP, 2, none⟩ (.int .i64 z)) g (p + 1 + 1 + 1 + 1)) := HRq.out.below bP (by omega)
      have HFz : Hid (Fr w.heap.size g w (vq.setCell ⟨XP, 2, none⟩ (.int .i64 z))) := HFq.out.below (bP.mono (by omega))
      clear kq0 kq1 kq2 fP
      generalize (vq.setCell ⟨XP, 2, none⟩ (.int .i64 z)) = vz at bP GP GZ HRz HFz ⊢
      have kz0 := GP.cell 0
      have kz1 := GP.cell 1
      have kz2 := GP.cell 2
      simp at kz0 kz1 kz2
      go_wp2_with (refine wpList_store_row rfl 27 (.tmp 4) (.tmp 73) rfl (w.heap.size + 1) #[.int .i64 k, .int .i64 j, .int .i64 z] rfl rfl 27 _ GZ drpl_info rfl (drpl_ones _ _ _) ?_)
      have bT : Below w.heap.size vz (vz.setRow (w.heap.size + 1) #[.int .i64 k, .int .i64 j, .int .i64 z]) := below_row (Below.refl _ _) (by omega) _
      refine bodyPost_ret (v := .agg #[.int .i64 k, .int .i64 j, .int .i64 z]) (results_cell_row (p := 4) (ty := 27) rfl _ _ (w.heap.size + 1) 27 _ _ _ rfl (RowAt.setRow GZ _) Tryz.underlying27 rfl drpl_info) rfl (plRes_mk (q0 := p + 5) (q := p + 1 + 1 + 1 + 1) (by omega) (by omega) (by omega) (HRz.out.below bT hlt) (by omega) (HFz.out.below bT))
    · have hk3 : (K == 3) = true := by simp [hK]
      have hcz : ¬ (0 : Int) < (cn : Int) := by omega
      go_wp2_with fail
      refine (pick_any B g (p + 1 + 1) ((tn : Int) + 1) _ HR.out (by omega) (by omega) (by omega)).mono ?_
      rintro e v7 ⟨z, rfl, hz0, hz1, hr, hgw⟩
      have hf := fr_grown hgw
      have sv7 := hf.size
      replace HR : Hid (Rd B v7 g (p + 1 + 1 + 1)) := hr
      replace HH := hdF_go HH hf
      clear kB_0 kB_1 kB_2 kB_3 kB_4 kB_5 kP_0 kP_1 kP_2 kD_0
      have kB_0 : v7.cell? ⟨XB, 0, none⟩ = some (.int .i64 K) := RowAt.cell (HH.out.row _ (List.Mem.head _)).2 0
      have kB_1 : v7.cell? ⟨XB, 1, none⟩ = some (.int .i64 V) := RowAt.cell (HH.out.row _ (List.Mem.head _)).2 1
      have kB_2 : v7.cell? ⟨XB, 2, none⟩ = some (.slice ta tn tc) := RowAt.cell (HH.out.row _ (List.Mem.head _)).2 2
      have kB_3 : v7.cell? ⟨XB, 3, none⟩ = some (.int .i64 R) := RowAt.cell (HH.out.row _ (List.Mem.head _)).2 3
      have kB_4 : v7.cell? ⟨XB, 4, none⟩ = some (.int .i64 CC) := RowAt.cell (HH.out.row _ (List.Mem.head _)).2 4
      have kB_5 : v7.cell? ⟨XB, 5, none⟩ = some (.slice ca cn cc) := RowAt.cell (HH.out.row _ (List.Mem.head _)).2 5
      have kP_0 : v7.cell? ⟨XP, 0, none⟩ = some (.int .i64 k) := RowAt.cell (HH.out.row _ (List.Mem.tail _ (List.Mem.head _))).2 0
      have kP_1 : v7.cell? ⟨XP, 1, none⟩ = some (.int .i64 0) := RowAt.cell (HH.out.row _ (List.Mem.tail _ (List.Mem.head _))).2 1
      have kP_2 : v7.cell? ⟨XP, 2, none⟩ = some (.int .i64 0) := RowAt.cell (HH.out.row _ (List.Mem.tail _ (List.Mem.head _))).2 2
      have kD_0 : v7.cell? ⟨w.heap.size, 0, none⟩ = some (.slice (some ⟨b, 0, none⟩) m c) := RowAt.cell (HH.out.row _ (List.Mem.tail _ (List.Mem.tail _ (List.Mem.tail _ (List.Mem.head _))))).2 0
      clear hf hr hgw
      have fP := (RowAt.frozen (HH.out.row _ (List.Mem.tail _ (List.Mem.head _))).2 2)
      go_upto_region 10 with fail
      have bP : Below (w.heap.size + 2) v7 (v7.setCell ⟨XP, 2, none⟩ (.int .i64 z)) := (Below.refl _ _).setCell (by show w.heap.size + 2 ≤ XP; omega) _
      have GP : RowAt (v7.setCell ⟨XP, 2, none⟩ (.int .i64 z)) XP #[.int .i64 k, .int .i64 0, .int .i64 z] 27 := RowAt.setCell (HH.out.row _ (List.Mem.tail _ (List.Mem.head _))).2 2 _
      have GZ : RowAt (v7.setCell ⟨XP, 2, none⟩ (.int .i64 z)) (w.heap.size + 1) #[.int .i64 0, .int .i64 0, .int .i64 0] 27 := RowAt.below (HH.out.row _ (List.Mem.tail _ (List.Mem.tail _ (List.Mem.head _)))).2 bP (by omega)
      have HRz : Hid (Rd B (v7.setCell ⟨XP, 2, none⟩ (.int .i64 z)) g (p + 1 + 1 + 1)) := HR.out.below bP (by omega)
      have HFz : Hid (Fr w.heap.size g w (v7.setCell ⟨XP, 2, none⟩ (.int .i64 z))) := HH.out.frame.below (bP.mono (by omega))
      generalize (v7.setCell ⟨XP, 2, none⟩ (.int .i64 z)) = vz at bP GP GZ HRz HFz ⊢
      have kz0 := GP.cell 0
      have kz1 := GP.cell 1
      have kz2 := GP.cell 2
      simp at kz0 kz1 kz2
      clear kB_0 kB_1 kB_2 kB_3 kB_4 kB_5 kP_0 kP_1 kP_2 kD_0
      go_wp2_with (refine wpList_store_row rfl 27 (.tmp 4) (.tmp 73) rfl (w.heap.size + 1) #[.int .i64 k, .int .i64 0, .int .i64 z] rfl rfl 27 _ GZ drpl_info rfl (drpl_ones _ _ _) ?_)
      have bT : Below w.heap.size vz (vz.setRow (w.heap.size + 1) #[.int .i64 k, .int .i64 0, .int .i64 z]) := below_row (Below.refl _ _) (by omega) _
      refine bodyPost_ret (v := .agg #[.int .i64 k, .int .i64 0, .int .i64 z]) (results_cell_row (p := 4) (ty := 27) rfl _ _ (w.heap.size + 1) 27 _ _ _ rfl (RowAt.setRow GZ _) Tryz.underlying27 rfl drpl_info) rfl (plRes_mk (q0 := p + 5) (q := p + 1 + 1 + 1) (by omega) (by omega) (by omega) (HRz.out.below bT hlt) (by omega) (HFz.out.below bT))
  · have hk3 : (K == 3) = false := by simp [hK]
    go_wp2_with fail
    refine (pick_any B g (p + 1 + 1) ((tn : Int) + 1) _ HR.out (by omega) (by omega) (by omega)).mono ?_
    rintro e v7 ⟨z, rfl, hz0, hz1, hr, hgw⟩
    have hf := fr_grown hgw
    have sv7 := hf.size
    replace HR : Hid (Rd B v7 g (p + 1 + 1 + 1)) := hr
    replace HH := hdF_go HH hf
    clear kB_0 kB_1 kB_2 kB_3 kB_4 kB_5 kP_0 kP_1 kP_2 kD_0
    have kB_0 : v7.cell? ⟨XB, 0, none⟩ = some (.int .i64 K) := RowAt.cell (HH.out.row _ (List.Mem.head _)).2 0
    have kB_1 : v7.cell? ⟨XB, 1, none⟩ = some (.int .i64 V) := RowAt.cell (HH.out.row _ (List.Mem.head _)).2 1
    have kB_2 : v7.cell? ⟨XB, 2, none⟩ = some (.slice ta tn tc) := RowAt.cell (HH.out.row _ (List.Mem.head _)).2 2
    have kB_3 : v7.cell? ⟨XB, 3, none⟩ = some (.int .i64 R) := RowAt.cell (HH.out.row _ (List.Mem.head _)).2 3
    have kB_4 : v7.cell? ⟨XB, 4, none⟩ = some (.int .i64 CC) := RowAt.cell (HH.out.row _ (List.Mem.head _)).2 4
    have kB_5 : v7.cell? ⟨XB, 5, none⟩ = some (.slice ca cn cc) := RowAt.cell (HH.out.row _ (List.Mem.head _)).2 5
    have kP_0 : v7.cell? ⟨XP, 0, none⟩ = some (.int .i64 k) := RowAt.cell (HH.out.row _ (List.Mem.tail _ (List.Mem.head _))).2 0
    have kP_1 : v7.cell? ⟨XP, 1, none⟩ = some (.int .i64 0) := RowAt.cell (HH.out.row _ (List.Mem.tail _ (List.Mem.head _))).2 1
    have kP_2 : v7.cell? ⟨XP, 2, none⟩ = some (.int .i64 0) := RowAt.cell (HH.out.row _ (List.Mem.tail _ (List.Mem.head _))).2 2
    have kD_0 : v7.cell? ⟨w.heap.size, 0, none⟩ = some (.slice (some ⟨b, 0, none⟩) m c) := RowAt.cell (HH.out.row _ (List.Mem.tail _ (List.Mem.tail _ (List.Mem.tail _ (List.Mem.head _))))).2 0
    clear hf hr hgw
    have fP := (RowAt.frozen (HH.out.row _ (List.Mem.tail _ (List.Mem.head _))).2 2)
    go_upto_region 10 with fail
    have bP : Below (w.heap.size + 2) v7 (v7.setCell ⟨XP, 2, none⟩ (.int .i64 z)) := (Below.refl _ _).setCell (by show w.heap.size + 2 ≤ XP; omega) _
    have GP : RowAt (v7.setCell ⟨XP, 2, none⟩ (.int .i64 z)) XP #[.int .i64 k, .int .i64 0, .int .i64 z] 27 := RowAt.setCell (HH.out.row _ (List.Mem.tail _ (List.Mem.head _))).2 2 _
    have GZ : RowAt (v7.setCell ⟨XP, 2, none⟩ (.int .i64 z)) (w.heap.size + 1) #[.int .i64 0, .int .i64 0, .int .i64 0] 27 := RowAt.below (HH.out.row _ (List.Mem.tail _ (List.Mem.tail _ (List.Mem.head _)))).2 bP (by omega)
    have HRz : Hid (Rd B (v7.setCell ⟨XP, 2, none⟩ (.int .i64 z)) g (p + 1 + 1 + 1)) := HR.out.below bP (by omega)
    have HFz : Hid (Fr w.heap.size g w (v7.setCell ⟨XP, 2, none⟩ (.int .i64 z))) := HH.out.frame.below (bP.mono (by omega))
    generalize (v7.setCell ⟨XP, 2, none⟩ (.int .i64 z)) = vz at bP GP GZ HRz HFz ⊢
    have kz0 := GP.cell 0
    have kz1 := GP.cell 1
    have kz2 := GP.cell 2
    simp at kz0 kz1 kz2
    clear kB_0 kB_1 kB_2 kB_3 kB_4 kB_5 kP_0 kP_1 kP_2 kD_0
    go_wp2_with (refine wpList_store_row rfl 27 (.tmp 4) (.tmp 73) rfl (w.heap.size + 1) #[.int .i64 k, .int .i64 0, .int .i64 z] rfl rfl 27 _ GZ drpl_info rfl (drpl_ones _ _ _) ?_)
    have bT : Below w.heap.size vz (vz.setRow (w.heap.size + 1) #[.int .i64 k, .int .i64 0, .int .i64 z]) := below_row (Below.refl _ _) (by omega) _
    refine bodyPost_ret (v := .agg #[.int .i64 k, .int .i64 0, .int .i64 z]) (results_cell_row (p := 4) (ty := 27) rfl _ _ (w.heap.size + 1) 27 _ _ _ rfl (RowAt.setRow GZ _) Tryz.underlying27 rfl drpl_info) rfl (plRes_mk (q0 := p + 5) (q := p + 1 + 1 + 1) (by omega) (by omega) (by omega) (HRz.out.below bT hlt) (by omega) (HFz.out.below bT))
end Go.Proofs.YtccoeachemnbnaaGreatDoor
namespace Go.Proofs.YtccoeachemnbnaaGreatDoor
open Go.RowKit

theorem fr_set (u : World) (X : Nat) (cs : Array Value) : Fr u.heap.size X u (u.setRow X cs) := ⟨rfl, rfl, rfl, by simp [World.setRow], fun k _ hn => setRow_other u X k cs hn⟩
theorem results_cell2 {fn : Func} {p q : Tmp} {ty tz : TypeId} (h : fn.results = #[.cell p ty, .cell q tz]) (tmps : Array Value) (P : Program) (w : World) (g g' : Nat) (v v' : Value)
    (hp : tmps.getD p undef = .pointer (some ⟨g, 0, none⟩)) (h1 : (loadVar ty ⟨g, 0, none⟩).run P w = .ok v w) (hq : tmps.getD q undef = .pointer (some ⟨g', 0, none⟩)) (h2 : (loadVar tz ⟨g', 0, none⟩).run P w = .ok v' w) :
    (results fn tmps).run P w = .ok (.tuple #[v, v']) w := by
  have hp' : tmps[p]?.getD undef = .pointer (some ⟨g, 0, none⟩) := by simpa using hp
  have hq' : tmps[q]?.getD undef = .pointer (some ⟨g', 0, none⟩) := by simpa using hq
  simp [results, h, hp', hq', asAddr, h1, h2, Sem.run_bind, Result.andThen]
theorem run_docP {w : World} {g : Nat} {s : Value} (h : RowAt w g #[s] 25) : (loadVar 25 ⟨g, 0, none⟩).run Tryz.prog w = .ok (.agg #[s]) w :=
  run_loadVar_row w g 25 25 #[s] (0, 0) _ h Tryz.underlying25 rfl drdoc_info
theorem rd_row {B : Nat} {w : World} {g p X : Nat} (h : Rd B w g p) (hB : B ≤ X) (hn : X ≠ g) (cs : Array Value) : Rd B (w.setRow X cs) g p := by
  obtain ⟨h1, a, n, c, zs, h2, h3, h4⟩ := h
  have hb : Below B w (w.setRow X cs) := below_row (Below.refl _ _) hB _
  exact ⟨h1, a, n, c, zs, (setRow_other w X g cs (Ne.symm hn)).trans h2, h3.belowC hb (Nat.le_refl _), h4⟩
set_option maxRecDepth 100000 in
set_option maxHeartbeats 16000000 in
theorem drDrawPlaceText_any (B : Nat) (a : Option Addr) (n cap : Nat) (zs : List Int) (w : World) (h : Byt B w a n cap zs) (hB : B ≤ w.heap.size) :
    Calls Tryz.prog 20 #[.slice a n cap] w fun e w' => (∃ (a' : Option Addr) (m' c' : Nat) (d' : List Bl) (pb pc pa : Int), e = .returned (.tuple #[.agg #[.slice a' m' c'], .agg #[.int .i64 pb, .int .i64 pc, .int .i64 pa]]) ∧ Dc w' a' m' c' d' ∧ DocSp d' ∧ (-1 ≤ pb ∧ pb ≤ 9) ∧ (-1 ≤ pc ∧ pc ≤ 30) ∧ (-1 ≤ pa ∧ pa ≤ 30)) ∧ Below w.heap.size w w' := by
  have HY : Hid (Byt B w a n cap zs) := h
  clear h
  go_enter Tryz.func20, Tryz.ntmps20
  go_upto_region 1 with fail
  have B0 : Below w.heap.size w ((w.alloc (.cells #[.slice none 0 0] 25)).alloc (.cells #[.int .i64 0, .int .i64 0, .int .i64 0] 27)) := ((Below.refl _ _).alloc (Nat.le_refl _) _).alloc (by simp) _
  have Z0 : RowAt ((w.alloc (.cells #[.slice none 0 0] 25)).alloc (.cells #[.int .i64 0, .int .i64 0, .int .i64 0] 27)) w.heap.size #[.slice none 0 0] 25 := (rowAt_new _ _ _).alloc _
  have P0 : RowAt ((w.alloc (.cells #[.slice none 0 0] 25)).alloc (.cells #[.int .i64 0, .int .i64 0, .int .i64 0] 27)) (w.heap.size + 1) #[.int .i64 0, .int .i64 0, .int .i64 0] 27 := by
    have := rowAt_new (w.alloc (.cells #[.slice none 0 0] 25)) #[.int .i64 0, .int .i64 0, .int .i64 0] 27
    simpa using this
  have HY0 : Hid (Byt B ((w.alloc (.cells #[.slice none 0 0] 25)).alloc (.cells #[.int .i64 0, .int .i64 0, .int .i64 0] 27)) a n cap zs) := HY.out.belowC B0 hB
  generalize ((w.alloc (.cells #[.slice none 0 0] 25)).alloc (.cells #[.int .i64 0, .int .i64 0, .int .i64 0] 27)) = v0 at B0 Z0 P0 HY0 ⊢
  have s0 := B0.size
  have zz := P0.lt
  go_wp2_with fail
  refine (l6Open_any B a n cap zs _ HY0.out (by omega)).mono ?_
  rintro e w1 ⟨rfl, hr1, hb1⟩
  have s1 := hb1.size
  have HR1 : Hid (Rd B w1 v0.heap.size 0) := hr1
  have hlt := hr1.lt
  clear hr1
  obtain ⟨g, hg⟩ : ∃ g, v0.heap.size = g := ⟨_, rfl⟩
  have HB1 : Hid (Below w.heap.size w w1) := B0.trans (hb1.mono s0)
  have HZ1 : Hid (RowAt w1 w.heap.size #[.slice none 0 0] 25) := Z0.below hb1 (by omega)
  have HP1 : Hid (RowAt w1 (w.heap.size + 1) #[.int .i64 0, .int .i64 0, .int .i64 0] 27) := P0.below hb1 (by omega)
  rw [hg] at HR1 hlt s1 zz ⊢
  have hgw : w.heap.size + 1 < g := by omega
  clear B0 Z0 P0 HY0 HY hb1 hg
  go_wp2_with fail
  refine (l71Some_any B g 0 _ HR1.out (by omega)).mono ?_
  rintro e w2 ⟨a, m, c, d, q, rfl, ⟨rbs, hX⟩, hS, hr2, hq, hf2⟩
  have s2 := hf2.size
  have HZ2 : Hid (RowAt w2 w.heap.size #[.slice none 0 0] 25) := HZ1.out.fr hf2 (by omega)
  have HP2 : Hid (RowAt w2 (w.heap.size + 1) #[.int .i64 0, .int .i64 0, .int .i64 0] 27) := HP1.out.fr hf2 (by omega)
  have HB2 : Hid (Below w.heap.size w w2) := HB1.out.trans (below_of_frG hf2 (by have := HB1.out.size; omega) (by omega))
  have HS : Hid (DocSp d) := hS
  have HX2 : Hid (DocX w2 w1.heap.size (.slice a m c) rbs d) := hX
  have HR2 : Hid (Rd B w2 g q) := hr2
  have hm9 : m ≤ 9 := by rw [hX.len]; exact hS.1
  have hmc : m ≤ c := hX.dc.2.1
  have hmm : c ≤ maxLen := hX.dc.2.2.1
  unfold maxLen at hmm
  clear hX hS hr2 hf2 HZ1 HP1 HB1 HR1
  go_upto_region 3 with fail
  have T3 : RowAt (w2.alloc (.cells #[.slice a m c] 25)) w2.heap.size #[.slice a m c] 25 := rowAt_new _ _ _
  have HX3 : Hid (DocX (w2.alloc (.cells #[.slice a m c] 25)) w1.heap.size (.slice a m c) rbs d) := HX2.out.alloc _
  have HZ3 : Hid (RowAt (w2.alloc (.cells #[.slice a m c] 25)) w.heap.size #[.slice none 0 0] 25) := HZ2.out.alloc _
  have HP3 : Hid (RowAt (w2.alloc (.cells #[.slice a m c] 25)) (w.heap.size + 1) #[.int .i64 0, .int .i64 0, .int .i64 0] 27) := HP2.out.alloc _
  have HB3 : Hid (Below w.heap.size w (w2.alloc (.cells #[.slice a m c] 25))) := HB2.out.alloc (by omega) _
  have HR3 : Hid (Rd B (w2.alloc (.cells #[.slice a m c] 25)) g q) := HR2.out.alloc _
  have zT := T3.lt
  generalize (w2.alloc (.cells #[.slice a m c] 25)) = v3 at T3 HX3 HZ3 HP3 HB3 HR3 zT ⊢
  obtain ⟨X, hX⟩ : ∃ X, w2.heap.size = X := ⟨_, rfl⟩
  rw [hX] at T3 zT s2 ⊢
  have hXg : g < X := by omega
  have sB3 := HB3.out.size
  have HT3 : Hid (RowAt v3 X #[.slice a m c] 25) := T3
  clear T3 hX HX2 HZ2 HP2 HB2 HR2
  have hgX3 : g < v3.heap.size := by omega
  refine wp_region_noPanic ?_
  refine wp_region_held_drew (S := fun w' => RowAt w' X #[.slice a m c] 25) (by kernel_rfl) HT3.out (fun hHeld => ?_)
  have HXu0 : Hid (DocX v3.drew w1.heap.size (.slice a m c) rbs d) := HX3.out.below (Below.refl _ _).drew
  have HZu0 : Hid (RowAt v3.drew w.heap.size #[.slice none 0 0] 25) := HZ3.out.drew
  have HPu0 : Hid (RowAt v3.drew (w.heap.size + 1) #[.int .i64 0, .int .i64 0, .int .i64 0] 27) := HP3.out.drew
  have HTu0 : Hid (RowAt v3.drew X #[.slice a m c] 25) := HT3.out.drew
  have HRu0 : Hid (Rd B v3.drew g q) := HR3.out.below (Below.refl _ _).drew hgX3
  have HBu0 : Hid (Below w.heap.size w v3.drew) := HB3.out.drew
  have su0 : v3.heap.size ≤ v3.drew.heap.size := Nat.le_refl _
  generalize v3.drew = u0 at HXu0 HZu0 HPu0 HTu0 HRu0 HBu0 su0 hHeld ⊢
  clear HX3 HZ3 HP3 HT3 HR3 HB3
  refine take_at 0 10 (.agg #[.slice a m c]) rfl rfl (by kernel_rfl) (by kernel_rfl) (by kernel_rfl) (fun _ _ _ h => h) (yieldsIf_load_row (by kernel_rfl) 25 (.tmp 5) rfl X rfl 25 #[.slice a m c] (0, 0) _ (fun w' h => h) Tryz.underlying25 rfl drdoc_info) hHeld ?_
  (try simp only [Act.put, List.setIfInBounds_toArray, List.set_cons_zero, List.set_cons_succ])
  refine take_at 1 11 (.pointer (some ⟨g, 0, none⟩)) rfl rfl (by kernel_rfl) (by kernel_rfl) (by kernel_rfl) (fun _ _ _ h => h) (Or.inl ⟨by kernel_rfl, fun w' hS' => by go_simp⟩) hHeld ?_
  (try simp only [Act.put, List.setIfInBounds_toArray, List.set_cons_zero, List.set_cons_succ])
  refine take_at 2 12 (.agg #[.slice a m c]) rfl rfl (by kernel_rfl) (by kernel_rfl) (by kernel_rfl) (fun _ _ _ h => h) (yieldsIf_load_row (by kernel_rfl) 25 (.tmp 5) rfl X rfl 25 #[.slice a m c] (0, 0) _ (fun w' h => h) Tryz.underlying25 rfl drdoc_info) hHeld ?_
  (try simp only [Act.put, List.setIfInBounds_toArray, List.set_cons_zero, List.set_cons_succ])
  refine wpAnyH_ready (rs := [3]) (by kernel_rfl) (by simp) ?_
  refine AllReadyH.cons rfl (fun K hK => ?_) AllReadyH.nil
  go_simp
  go_at_call 41
  refine (l71Place_any B g q _ a m c d _ HRu0.out (by omega) ⟨rbs, HXu0.out⟩ (by omega) HS.out).mono ?_
  rintro _ u1 ⟨pb, pc, pa, q', rfl, hpb, hpc, hpa, hr, hq', hf⟩
  have su1 := hf.size
  have HZu1 : Hid (RowAt u1 w.heap.size #[.slice none 0 0] 25) := HZu0.out.fr hf (by omega)
  have HPu1 : Hid (RowAt u1 (w.heap.size + 1) #[.int .i64 0, .int .i64 0, .int .i64 0] 27) := HPu0.out.fr hf (by omega)
  have HXu1 : Hid (DocX u1 w1.heap.size (.slice a m c) rbs d) := HXu0.out.fr hf (by omega)
  have HTu1 : Hid (RowAt u1 X #[.slice a m c] 25) := HTu0.out.fr hf (by omega)
  have HRu1 : Hid (Rd B u1 g q') := hr
  have HBu1 : Hid (Below w.heap.size w u1) := HBu0.out.trans (below_of_frG hf (by omega) (by omega))
  go_wp2_with fail
  refine hK.out _ _ (HTu1.out) (fun hHeld => ?_)
  clear hK K hf hr HZu0 HPu0 HXu0 HTu0 HRu0 HBu0
  (try simp only [Act.put, List.setIfInBounds_toArray, List.set_cons_zero, List.set_cons_succ])
  refine wpAnyH_ready (rs := [4]) (by kernel_rfl) (by simp) ?_
  refine AllReadyH.cons rfl (fun K hK => ?_) AllReadyH.nil
  rw [if_pos (by kernel_rfl)]
  refine wp_store_row 25 (.tmp 2) (.tmp 10) rfl w.heap.size #[.slice a m c] rfl rfl 25 _ HZu1.out drdoc_info rfl (drcells1_one _ _ _) ?_
  refine hK.out _ _ (HTu1.out.fr (fr_set _ _ _) (by omega)) (fun hHeld => ?_)
  clear hK K
  (try simp only [Act.put])
  have fs := fr_set u1 w.heap.size #[.slice a m c]
  have HZu2 : Hid (RowAt (u1.setRow w.heap.size #[.slice a m c]) w.heap.size #[.slice a m c] 25) := HZu1.out.setRow _
  have HPu2 : Hid (RowAt (u1.setRow w.heap.size #[.slice a m c]) (w.heap.size + 1) #[.int .i64 0, .int .i64 0, .int .i64 0] 27) := HPu1.out.fr fs (by omega)
  have HXu2 : Hid (DocX (u1.setRow w.heap.size #[.slice a m c]) w1.heap.size (.slice a m c) rbs d) := HXu1.out.fr fs (by omega)
  have HTu2 : Hid (RowAt (u1.setRow w.heap.size #[.slice a m c]) X #[.slice a m c] 25) := HTu1.out.fr fs (by omega)
  have HRu2 : Hid (Rd B (u1.setRow w.heap.size #[.slice a m c]) g (q')) := rd_row HRu1.out (by omega) (by omega) _
  have HBu2 : Hid (Below w.heap.size w (u1.setRow w.heap.size #[.slice a m c])) := below_row HBu1.out (by omega) _
  have su2 : u1.heap.size ≤ (u1.setRow w.heap.size #[.slice a m c]).heap.size := fs.size
  generalize (u1.setRow w.heap.size #[.slice a m c]) = u2 at HZu2 HPu2 HXu2 HTu2 HRu2 HBu2 su2 hHeld ⊢
  clear fs HZu1 HPu1 HXu1 HTu1 HRu1 HBu1
  refine wpAnyH_ready (rs := [5]) (by kernel_rfl) (by simp) ?_
  refine AllReadyH.cons rfl (fun K hK => ?_) AllReadyH.nil
  rw [if_pos (by kernel_rfl)]
  refine wp_store_row 27 (.tmp 3) (.tmp 13) rfl (w.heap.size + 1) #[.int .i64 pb, .int .i64 pc, .int .i64 pa] rfl rfl 27 _ HPu2.out drpl_info rfl (drpl_ones _ _ _) ?_
  refine hK.out _ _ (HTu2.out.fr (fr_set _ _ _) (by omega)) (fun hHeld => ?_)
  clear hK K
  (try simp only [Act.put])
  have fs := fr_set u2 (w.heap.size + 1) #[.int .i64 pb, .int .i64 pc, .int .i64 pa]
  have HPu3 : Hid (RowAt (u2.setRow (w.heap.size + 1) #[.int .i64 pb, .int .i64 pc, .int .i64 pa]) (w.heap.size + 1) #[.int .i64 pb, .int .i64 pc, .int .i64 pa] 27) := HPu2.out.setRow _
  have HZu3 : Hid (RowAt (u2.setRow (w.heap.size + 1) #[.int .i64 pb, .int .i64 pc, .int .i64 pa]) w.heap.size #[.slice a m c] 25) := HZu2.out.fr fs (by omega)
  have HXu3 : Hid (DocX (u2.setRow (w.heap.size + 1) #[.int .i64 pb, .int .i64 pc, .int .i64 pa]) w1.heap.size (.slice a m c) rbs d) := HXu2.out.fr fs (by omega)
  have HTu3 : Hid (RowAt (u2.setRow (w.heap.size + 1) #[.int .i64 pb, .int .i64 pc, .int .i64 pa]) X #[.slice a m c] 25) := HTu2.out.fr fs (by omega)
  have HRu3 : Hid (Rd B (u2.setRow (w.heap.size + 1) #[.int .i64 pb, .int .i64 pc, .int .i64 pa]) g (q')) := rd_row HRu2.out (by omega) (by omega) _
  have HBu3 : Hid (Below w.heap.size w (u2.setRow (w.heap.size + 1) #[.int .i64 pb, .int .i64 pc, .int .i64 pa])) := below_row HBu2.out (by omega) _
  have su3 : u2.heap.size ≤ (u2.setRow (w.heap.size + 1) #[.int .i64 pb, .int .i64 pc, .int .i64 pa]).heap.size := fs.size
  generalize (u2.setRow (w.heap.size + 1) #[.int .i64 pb, .int .i64 pc, .int .i64 pa]) = u3 at HZu3 HPu3 HXu3 HTu3 HRu3 HBu3 su3 hHeld ⊢
  clear fs HZu2 HPu2 HXu2 HTu2 HRu2 HBu2
  refine wpAnyH_done (by kernel_rfl) ?_ _
  refine NoPanic.normal ?_
  go_wp2_with fail
  exact bodyPost_ret (v := .tuple #[.agg #[.slice a m c], .agg #[.int .i64 pb, .int .i64 pc, .int .i64 pa]]) (results_cell2 (p := 2) (q := 3) (ty := 25) (tz := 27) rfl _ _ _ w.heap.size (w.heap.size + 1) _ _ rfl (run_docP HZu3.out) rfl (run_place HPu3.out)) rfl ⟨⟨a, m, c, d, pb, pc, pa, rfl, HXu3.out.dc, HS.out, by omega, by omega, by omega⟩, HBu3.out⟩
end Go.Proofs.YtccoeachemnbnaaGreatDoor
