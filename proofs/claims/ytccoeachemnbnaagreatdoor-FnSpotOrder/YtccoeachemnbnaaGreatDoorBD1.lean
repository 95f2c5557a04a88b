import Derived.Test.YtccoeachemnbnaaGreatDoorBA1
import Derived.Deep.Cut
import Derived.Test.YtccoeachemnbnaaGreatDoorBA3
import Derived.Deep.QuietTactic
import Derived.BigQuiet
import Derived.Laws.ResultCell
import Derived.Test.YtccoeachemnbnaaGreatDoorBA2
import Derived.Deep.AppendLies
import Derived.Laws.OwnMore
import Derived.Test.YtccoeachemnbnaaGreatDoorBA4
namespace Go.Proofs.YtccoeachemnbnaaGreatDoor
open Go.RowKit

/-- One row behind another. -/
def gtR (y x : Rw) : Bool := decide (x.1 < y.1 ∨ y.1 = x.1 ∧ x.2.1 < y.2.1)
def insR (x : Rw) : List Rw → List Rw
  | [] => [x]
  | y :: ys => if gtR y x then x :: y :: ys else y :: insR x ys
def sortR (l : List Rw) : List Rw := l.foldl (fun o x => insR x o) []
theorem insR_len (x : Rw) : ∀ l, (insR x l).length = l.length + 1
  | [] => rfl
  | y :: ys => by
    unfold insR
    split
    · rfl
    · simp [insR_len x ys]
theorem sortR_take (l : List Rw) (i : Nat) (h : i < l.length) : sortR (l.take (i + 1)) = insR (l.getD i rw0) (sortR (l.take i)) := by
  have e : l.getD i rw0 = l[i] := by simp [List.getD, h]
  unfold sortR
  rw [List.take_succ_eq_append_getElem h, List.foldl_append, e]
  rfl
theorem sortR_len (l : List Rw) : (sortR l).length = l.length := by
  have key : ∀ (l o : List Rw), (l.foldl (fun o x => insR x o) o).length = o.length + l.length := by
    intro l
    induction l with
    | nil => intro o; rfl
    | cons x l ih => intro o; simp only [List.foldl_cons, ih, insR_len, List.length_cons]; omega
  unfold sortR
  simpa using key l []
theorem insR_end (x : Rw) : ∀ l, (∀ y ∈ l, gtR y x = false) → insR x l = l ++ [x]
  | [], _ => rfl
  | y :: ys, h => by
    unfold insR
    rw [h y (by simp)]
    simp [insR_end x ys (fun z hz => h z (by simp [hz]))]
theorem insR_at (x : Rw) : ∀ (l : List Rw) (k : Nat) (hk : k < l.length), (∀ y ∈ l.take k, gtR y x = false) → gtR l[k] x = true → insR x l = l.take k ++ x :: l.drop k
  | [], k, hk, _, _ => by simp at hk
  | y :: ys, 0, _, _, h => by
    unfold insR
    simp only [List.getElem_cons_zero] at h
    rw [h]
    rfl
  | y :: ys, k + 1, hk, hn, h => by
    unfold insR
    rw [hn y (by simp)]
    have := insR_at x ys k (by simpa using hk) (fun z hz => hn z (by simp [hz])) (by simpa using h)
    simp [this]
/-- How far the row x is put in among the first k rows. -/
def InsP (x : Rw) (out : List Rw) (k : Nat) (done : Bool) (next : List Rw) : Prop :=
  (done = false ∧ next = out.take k ∧ ∀ y ∈ out.take k, gtR y x = false) ∨ (done = true ∧ next ++ out.drop k = insR x out)
theorem InsP.len {x : Rw} {out : List Rw} {k : Nat} {done : Bool} {next : List Rw} (h : InsP x out k done next) (hk : k ≤ out.length) : next.length = k + done.toNat := by
  rcases h with ⟨rfl, rfl, _⟩ | ⟨rfl, e⟩
  · simp; omega
  · have := congrArg List.length e
    rw [insR_len, List.length_append, List.length_drop] at this
    simp
    omega
theorem InsP.skip {x : Rw} {out : List Rw} {k : Nat} {next : List Rw} (h : InsP x out k false next) (hk : k < out.length) (hg : gtR (out.getD k rw0) x = false) : InsP x out (k + 1) false (next ++ [out.getD k rw0]) := by
  have e : out.getD k rw0 = out[k] := by simp [List.getD, hk]
  rcases h with ⟨_, rfl, h2⟩ | ⟨h1, _⟩
  · refine .inl ⟨rfl, ?_, ?_⟩
    · rw [e, List.take_succ_eq_append_getElem hk]
    · intro y hy
      rw [List.take_succ_eq_append_getElem hk] at hy
      rcases List.mem_append.1 hy with hy | hy
      · exact h2 y hy
      · simp at hy
        rw [hy, ← e]
        exact hg
  · simp at h1
theorem InsP.put {x : Rw} {out : List Rw} {k : Nat} {next : List Rw} (h : InsP x out k false next) (hk : k < out.length) (hg : gtR (out.getD k rw0) x = true) : InsP x out (k + 1) true (next ++ [x] ++ [out.getD k rw0]) := by
  have e : out.getD k rw0 = out[k] := by simp [List.getD, hk]
  rcases h with ⟨_, rfl, h2⟩ | ⟨h1, _⟩
  · refine .inr ⟨rfl, ?_⟩
    rw [e] at hg ⊢
    rw [insR_at x out k hk h2 hg]
    simp only [List.append_assoc, List.cons_append, List.nil_append]
    rw [← List.drop_eq_getElem_cons hk]
  · simp at h1
theorem InsP.on {x : Rw} {out : List Rw} {k : Nat} {next : List Rw} (h : InsP x out k true next) (hk : k < out.length) : InsP x out (k + 1) true (next ++ [out.getD k rw0]) := by
  have e : out.getD k rw0 = out[k] := by simp [List.getD, hk]
  rcases h with ⟨h1, _⟩ | ⟨_, h1⟩
  · simp at h1
  · refine .inr ⟨rfl, ?_⟩
    rw [← h1, e, List.drop_eq_getElem_cons hk]
    simp
theorem InsP.fin {x : Rw} {out : List Rw} {next : List Rw} (h : InsP x out out.length true next) : next = insR x out := by
  rcases h with ⟨h1, _⟩ | ⟨_, h1⟩
  · simp at h1
  · simpa using h1
theorem InsP.fin0 {x : Rw} {out : List Rw} {next : List Rw} (h : InsP x out out.length false next) : next ++ [x] = insR x out := by
  rcases h with ⟨_, rfl, h1⟩ | ⟨h1, _⟩
  · rw [List.take_of_length_le (Nat.le_refl _)] at h1 ⊢
    rw [insR_end x out h1]
  · simp at h1
/-! The same among cells. -/
def gtC (y x : Cl) : Bool := decide (x.1 < y.1 ∨ y.1 = x.1 ∧ x.2.1 < y.2.1)
def insC (x : Cl) : List Cl → List Cl
  | [] => [x]
  | y :: ys => if gtC y x then x :: y :: ys else y :: insC x ys
/-- Cells in order. -/
def sortC (l : List Cl) : List Cl := l.foldl (fun o x => insC x o) []
def insZ (x : Rw × Cl) : List (Rw × Cl) → List (Rw × Cl)
  | [] => [x]
  | y :: ys => if gtR y.1 x.1 then x :: y :: ys else y :: insZ x ys
theorem insZ_perm (x : Rw × Cl) : ∀ l, (insZ x l).Perm (x :: l)
  | [] => List.Perm.refl _
  | y :: ys => by
    unfold insZ
    split
    · exact List.Perm.refl _
    · exact ((insZ_perm x ys).cons y).trans (List.Perm.swap x y ys)
theorem insZ_fst (x : Rw × Cl) : ∀ l, (insZ x l).map Prod.fst = insR x.1 (l.map Prod.fst)
  | [] => rfl
  | y :: ys => by
    unfold insZ
    simp only [List.map_cons, insR]
    split
    · rfl
    · simp [insZ_fst x ys]
def keyed (p : Rw × Cl) : Prop := p.1.1 = p.2.1 ∧ p.1.2.1 = p.2.2.1
theorem insZ_snd (x : Rw × Cl) (hx : keyed x) : ∀ l, (∀ p ∈ l, keyed p) → (insZ x l).map Prod.snd = insC x.2 (l.map Prod.snd)
  | [], _ => rfl
  | y :: ys, h => by
    have hy := h y (by simp)
    have e : gtR y.1 x.1 = gtC y.2 x.2 := by
      unfold gtR gtC
      rw [hx.1, hx.2, hy.1, hy.2]
    unfold insZ
    simp only [List.map_cons, insC, e]
    split
    · rfl
    · simp [insZ_snd x hx ys (fun p hp => h p (by simp [hp]))]
theorem foldZ (z : List (Rw × Cl)) : ∀ o, (∀ p ∈ z, keyed p) → (∀ p ∈ o, keyed p) →
    ((z.foldl (fun o x => insZ x o) o).Perm (o ++ z) ∧ (z.foldl (fun o x => insZ x o) o).map Prod.fst = (z.map Prod.fst).foldl (fun o x => insR x o) (o.map Prod.fst) ∧ (z.foldl (fun o x => insZ x o) o).map Prod.snd = (z.map Prod.snd).foldl (fun o x => insC x o) (o.map Prod.snd)) := by
  induction z with
  | nil => intro o _ _; exact ⟨by simp, rfl, rfl⟩
  | cons x z ih =>
    intro o hz ho
    have hx := hz x (by simp)
    obtain ⟨h1, h2, h3⟩ := ih (insZ x o) (fun p hp => hz p (by simp [hp])) (fun p hp => by
      rcases List.mem_cons.1 ((insZ_perm x o).mem_iff.1 hp) with rfl | hp
      · exact hx
      · exact ho p hp)
    refine ⟨h1.trans ?_, ?_, ?_⟩
    · exact ((insZ_perm x o).append_right z).trans (List.perm_middle.symm)
    · rw [List.foldl_cons, h2, insZ_fst]
      rfl
    · rw [List.foldl_cons, h3, insZ_snd x hx o ho]
      rfl
def TxtZ (w : World) (B : Nat) (q : Option Nat) (z : List (Rw × Cl)) : Prop :=
  (∀ p ∈ z, RwOwn w B p.1 p.2 ∧ ∀ g, (rwT p.1).ownBlock = some g → q ≠ some g) ∧ z.Pairwise (fun a b => ∀ g, (rwT a.1).ownBlock = some g → (rwT b.1).ownBlock ≠ some g)
theorem TxtZ.perm {w : World} {B : Nat} {q : Option Nat} {z z' : List (Rw × Cl)} (h : TxtZ w B q z) (hp : z'.Perm z) : TxtZ w B q z' :=
  ⟨fun p hpm => h.1 p (hp.mem_iff.1 hpm), hp.symm.pairwise h.2 (fun hab g hg hg' => hab g hg' hg)⟩
theorem zip_getD (rs : List Rw) (l : List Cl) (k : Nat) (h : k < rs.length) (h' : k < l.length) : (rs.zip l)[k]'(by simp; omega) = (rs.getD k rw0, l.getD k cl0) := by
  simp [List.getD, h, h']
theorem TxtOwn.zip {w : World} {B : Nat} {q : Option Nat} {rs : List Rw} {l : List Cl} (h : TxtOwn w B q rs l) : TxtZ w B q (rs.zip l) := by
  obtain ⟨e, h1, h2, h3⟩ := h
  constructor
  · intro p hp
    obtain ⟨k, hk, rfl⟩ := List.getElem_of_mem hp
    have hk' : k < rs.length := by simp at hk; omega
    rw [zip_getD rs l k hk' (by omega)]
    exact ⟨h1 k hk', h2 k hk'⟩
  · rw [List.pairwise_iff_getElem]
    intro i j hi hj hij
    have hi' : i < rs.length := by simp at hi; omega
    have hj' : j < rs.length := by simp at hj; omega
    rw [zip_getD rs l i hi' (by omega), zip_getD rs l j hj' (by omega)]
    exact h3 i j hij hj'
theorem TxtZ.txt {w : World} {B : Nat} {q : Option Nat} {rs : List Rw} {l : List Cl} (e : rs.length = l.length) (h : TxtZ w B q (rs.zip l)) : TxtOwn w B q rs l := by
  have hm : ∀ k (hk : k < rs.length), (rs.getD k rw0, l.getD k cl0) ∈ rs.zip l := by
    intro k hk
    rw [← zip_getD rs l k hk (by omega)]
    exact List.getElem_mem _
  refine ⟨e, fun k hk => (h.1 _ (hm k hk)).1, fun k hk => (h.1 _ (hm k hk)).2, fun i k hik hk => ?_⟩
  have := List.pairwise_iff_getElem.1 h.2 i k (by simp; omega) (by simp; omega) hik
  rw [zip_getD rs l i (by omega) (by omega), zip_getD rs l k hk (by omega)] at this
  exact this
theorem TxtOwn.sort {w : World} {B : Nat} {q : Option Nat} {rs : List Rw} {l : List Cl} (h : TxtOwn w B q rs l) : TxtOwn w B q (sortR rs) (sortC l) := by
  have e := h.1
  have hz := h.zip
  have hk : ∀ p ∈ rs.zip l, keyed p := fun p hp => ⟨(hz.1 p hp).1.1, (hz.1 p hp).1.2.1⟩
  obtain ⟨h1, h2, h3⟩ := foldZ (rs.zip l) [] hk (fun p hp => by simp at hp)
  rw [List.nil_append] at h1
  rw [List.map_fst_zip (by omega)] at h2
  rw [List.map_snd_zip (by omega)] at h3
  have h4 := hz.perm h1
  generalize (rs.zip l).foldl (fun o x => insZ x o) [] = z at h2 h3 h4
  have e2 : sortR rs = z.map Prod.fst := h2.symm
  have e3 : sortC l = z.map Prod.snd := h3.symm
  rw [e2, e3]
  refine TxtZ.txt (by simp) ?_
  have : (z.map Prod.fst).zip (z.map Prod.snd) = z := by
    rw [List.zip_map']
    simp
  rw [this]
  exact h4
theorem insC_perm (x : Cl) : ∀ l, (insC x l).Perm (x :: l)
  | [] => List.Perm.refl _
  | y :: ys => by
    unfold insC
    split
    · exact List.Perm.refl _
    · exact ((insC_perm x ys).cons y).trans (List.Perm.swap x y ys)
theorem sortC_perm (l : List Cl) : (sortC l).Perm l := by
  have key : ∀ (l o : List Cl), (l.foldl (fun o x => insC x o) o).Perm (o ++ l) := by
    intro l
    induction l with
    | nil => intro o; simp
    | cons x l ih =>
      intro o
      exact (ih (insC x o)).trans (((insC_perm x o).append_right l).trans List.perm_middle.symm)
  simpa [sortC] using key l []
end Go.Proofs.YtccoeachemnbnaaGreatDoor
namespace Go.Proofs.YtccoeachemnbnaaGreatDoor
open Go.RowKit

/-- How many of the k places from s on are in [r, r + d). -/
def cntI (s k r d : Nat) : Nat := ((List.range k).filter (fun i => decide (r ≤ s + i ∧ s + i < r + d))).length
theorem cntI_zero (s r d : Nat) : cntI s 0 r d = 0 := rfl
theorem cntI_succ (s k r d : Nat) : cntI s (k + 1) r d = cntI s k r d + (if r ≤ s + k ∧ s + k < r + d then 1 else 0) := by
  unfold cntI
  rw [List.range_succ, List.filter_append, List.length_append]
  congr 1
  by_cases h : r ≤ s + k ∧ s + k < r + d
  · simp [h]
  · rw [if_neg h]
    simp only [List.filter_cons, List.filter_nil]
    rw [decide_eq_false h]
    rfl
theorem cntI_le (s k r d : Nat) : cntI s k r d ≤ k := by
  unfold cntI
  exact Nat.le_trans (List.length_filter_le _ _) (by simp)
/-- How many squares of a cell are in a rectangle. -/
def sqN (r c d g : Nat) (x : Cl) : Nat := cntI x.1.toNat x.2.2.1.toNat r d * cntI x.2.1.toNat x.2.2.2.1.toNat c g
def outsB (r c d g : Nat) (x : Cl) : Bool := decide (sqN r c d g x = 0)
def fullB (r c d g : Nat) (x : Cl) : Bool := decide (sqN r c d g x ≠ 0 ∧ sqN r c d g x = x.2.2.1.toNat * x.2.2.2.1.toNat)
def cutB (r c d g : Nat) (x : Cl) : Bool := !outsB r c d g x && !fullB r c d g x
def mOut (r c d g : Nat) (l : List Cl) : List Cl := l.filter (outsB r c d g)
def mTx (r c d g : Nat) (l : List Cl) : List Sg := (l.filter (fullB r c d g)).flatMap (fun x => x.2.2.2.2)
def mN (r c d g : Nat) (l : List Cl) : Nat := (l.filter (fullB r c d g)).length
/-- Whether a rectangle lies in so many rows and columns. -/
def bndB (R C r c d g : Int) : Bool := decide (0 ≤ r ∧ r ≤ R - 1) && decide (0 ≤ c ∧ c ≤ C - 1) && decide (1 ≤ d ∧ d ≤ R - r) && decide (1 ≤ g ∧ g ≤ C - c)
def mergeB (R C : Int) (l : List Cl) (r c d g : Int) : Bool := okB R C l && bndB R C r c d g && l.all (fun x => !cutB r.toNat c.toNat d.toNat g.toNat x) && decide (2 ≤ mN r.toNat c.toNat d.toNat g.toNat l) && textB (mTx r.toNat c.toNat d.toNat g.toNat l)
def mergeM (l : List Cl) (r c d g : Int) : List Cl := mOut r.toNat c.toNat d.toNat g.toNat l ++ [(r, c, d, g, mTx r.toNat c.toNat d.toNat g.toNat l)]
def mergeL (l : List Cl) (r c d g : Int) : List Cl := sortC (mergeM l r c d g)
section
variable (r c d g : Nat) (l : List Cl) (i : Nat)
theorem mOut_take (h : i < l.length) : mOut r c d g (l.take (i + 1)) = mOut r c d g (l.take i) ++ (if outsB r c d g (l.getD i cl0) then [l.getD i cl0] else []) := by
  unfold mOut
  rw [List.take_succ_eq_append_getElem h, List.filter_append, show l[i] = l.getD i cl0 by simp [List.getD, h]]
  congr 1
  simp only [List.filter_cons, List.filter_nil]
theorem mFull_take (h : i < l.length) : (l.take (i + 1)).filter (fullB r c d g) = (l.take i).filter (fullB r c d g) ++ (if fullB r c d g (l.getD i cl0) then [l.getD i cl0] else []) := by
  rw [List.take_succ_eq_append_getElem h, List.filter_append, show l[i] = l.getD i cl0 by simp [List.getD, h]]
  congr 1
  simp only [List.filter_cons, List.filter_nil]
theorem mTx_take (h : i < l.length) : mTx r c d g (l.take (i + 1)) = mTx r c d g (l.take i) ++ (if fullB r c d g (l.getD i cl0) then (l.getD i cl0).2.2.2.2 else []) := by
  unfold mTx
  rw [mFull_take r c d g l i h, List.flatMap_append]
  congr 1
  split <;> simp
theorem mN_take (h : i < l.length) : mN r c d g (l.take (i + 1)) = mN r c d g (l.take i) + (if fullB r c d g (l.getD i cl0) then 1 else 0) := by
  unfold mN
  rw [mFull_take r c d g l i h, List.length_append]
  congr 1
  split <;> simp
theorem mN_le : mN r c d g l ≤ l.length := List.length_filter_le _ _
theorem mOut_le : (mOut r c d g l).length ≤ l.length := List.length_filter_le _ _
theorem mTx_le (k : Nat) : ∀ l : List Cl, (∀ x ∈ l, x.2.2.2.2.length ≤ k) → (mTx r c d g l).length ≤ k * l.length
  | [], _ => by simp [mTx]
  | x :: l, h => by
    have h1 := mTx_le k l (fun y hy => h y (List.mem_cons_of_mem _ hy))
    have h2 := h x (List.mem_cons_self ..)
    unfold mTx at h1 ⊢
    rw [List.filter_cons]
    split
    · rw [List.flatMap_cons, List.length_append, List.length_cons, Nat.mul_succ]
      omega
    · rw [List.length_cons, Nat.mul_succ]
      omega
end
/-- A row more, whose text shares no memory with the others. -/
theorem TxtOwn.snocD {w : World} {B : Nat} {q : Option Nat} {rs : List Rw} {l : List Cl} {x : Rw} {y : Cl} (h : TxtOwn w B q rs l) (hx : RwOwn w B x y) (hq : ∀ g, (rwT x).ownBlock = some g → q ≠ some g)
    (hd : ∀ k, k < rs.length → ∀ g, (rwT (rs.getD k rw0)).ownBlock = some g → (rwT x).ownBlock ≠ some g) : TxtOwn w B q (rs ++ [x]) (l ++ [y]) := by
  obtain ⟨e, h1, h2, h3⟩ := h
  refine ⟨by simp [e], fun k hk => ?_, fun k hk => ?_, fun i k hik hk => ?_⟩
  · by_cases hlt : k < rs.length
    · rw [getD_snoc_lt _ _ _ _ hlt, getD_snoc_lt _ _ _ _ (by omega)]
      exact h1 k hlt
    · have hk' : k = rs.length := by simp at hk; omega
      rw [getD_snoc_eq _ _ _ _ hk', getD_snoc_eq _ _ _ _ (by omega)]
      exact hx
  · by_cases hlt : k < rs.length
    · rw [getD_snoc_lt _ _ _ _ hlt]
      exact h2 k hlt
    · have hk' : k = rs.length := by simp at hk; omega
      rw [getD_snoc_eq _ _ _ _ hk']
      exact hq
  · by_cases hlt' : k < rs.length
    · rw [getD_snoc_lt _ _ _ _ hlt', getD_snoc_lt _ _ _ _ (by omega)]
      exact h3 i k hik hlt'
    · have hk' : k = rs.length := by simp at hk; omega
      rw [getD_snoc_eq _ _ _ _ hk', getD_snoc_lt _ _ _ _ (by omega)]
      exact fun b hb => hd i (by omega) b hb
end Go.Proofs.YtccoeachemnbnaaGreatDoor
namespace Go.Proofs.YtccoeachemnbnaaGreatDoor
open Go.RowKit

def rwOne (i j : Nat) : Rw := (i, j, 1, 1, none, 0, 0)
def clOne (i j : Nat) : Cl := (i, j, 1, 1, [])
def newR (C i j : Nat) : List Rw := ((List.range i).flatMap fun a => (List.range C).map fun b => rwOne a b) ++ (List.range j).map fun b => rwOne i b
def newC (C i j : Nat) : List Cl := ((List.range i).flatMap fun a => (List.range C).map fun b => clOne a b) ++ (List.range j).map fun b => clOne i b
/-- The cells of a new table. -/
def newL (R C : Nat) : List Cl := newC C R 0
theorem newR_row (C i : Nat) : newR C i C = newR C (i + 1) 0 := by simp [newR, List.range_succ]
theorem newC_row (C i : Nat) : newC C i C = newC C (i + 1) 0 := by simp [newC, List.range_succ]
theorem newR_succ (C i j : Nat) : newR C i (j + 1) = newR C i j ++ [rwOne i j] := by simp [newR, List.range_succ]
theorem newC_succ (C i j : Nat) : newC C i (j + 1) = newC C i j ++ [clOne i j] := by simp [newC, List.range_succ]
theorem newR_len (C : Nat) : ∀ i j, (newR C i j).length = i * C + j
  | 0, j => by simp [newR]
  | i + 1, j => by
    have h := newR_len C i C
    rw [newR_row] at h
    simp only [newR, List.length_append, List.length_map, List.length_range] at h ⊢
    rw [Nat.succ_mul]
    omega
theorem map_getD {α β : Type} (f : α → β) (l : List α) (k : Nat) (d : α) (e : β) (h : k < l.length) : (l.map f).getD k e = f (l.getD k d) := by simp [List.getD, h]
def rwCl (x : Rw) : Cl := (x.1, x.2.1, x.2.2.1, x.2.2.2.1, [])
theorem newC_map (C i j : Nat) : newC C i j = (newR C i j).map rwCl := by
  simp only [newC, newR, List.map_append, List.map_map, List.map_flatMap]
  rfl
def nilT (x : Rw) : Prop := x.2.2.2.2 = (none, 0, 0)
theorem newR_nil (C i j : Nat) : ∀ x ∈ newR C i j, nilT x := by
  intro x hx
  simp only [newR, List.mem_append, List.mem_flatMap, List.mem_map] at hx
  rcases hx with ⟨a, _, b, _, rfl⟩ | ⟨b, _, rfl⟩ <;> rfl
theorem txtOwn_nil {w : World} {B : Nat} {q : Option Nat} {rs : List Rw} (h : ∀ x ∈ rs, nilT x) : TxtOwn w B q rs (rs.map rwCl) := by
  have key : ∀ k, k < rs.length → rwT (rs.getD k rw0) = .slice none 0 0 := by
    intro k hk
    have := h (rs.getD k rw0) (by simp [List.getD, hk])
    unfold nilT at this
    simp only [rwT, this]
  refine ⟨by simp, fun k hk => ?_, fun k hk g hg => ?_, fun i k hik hk g hg => ?_⟩
  · rw [map_getD rwCl rs k rw0 cl0 hk]
    refine ⟨rfl, rfl, rfl, rfl, ?_⟩
    rw [key k hk]
    exact Own.nil _ _
  · rw [key k hk] at hg
    simp [Value.ownBlock] at hg
  · rw [key i (by omega)] at hg
    simp [Value.ownBlock] at hg
theorem cell_five_new (w : World) (a b c d e : Value) (t : TypeId) : ∀ j u, [a, b, c, d, e][j]? = some u → (w.alloc (.cells #[a, b, c, d, e] t)).cell? ((⟨w.heap.size, 0, none⟩ : Addr).add j) = some u := by
  intro j u hj
  match j, hj with
  | 0, hj => simp at hj; subst hj; simp [Addr.add]
  | 1, hj => simp at hj; subst hj; simp [Addr.add]
  | 2, hj => simp at hj; subst hj; simp [Addr.add]
  | 3, hj => simp at hj; subst hj; simp [Addr.add]
  | 4, hj => simp at hj; subst hj; simp [Addr.add]
  | (j + 5), hj => simp at hj
theorem five_oneCell (a b c d : Int) (p : Option Addr) (n m : Nat) : ∀ u ∈ [Value.int .i64 a, .int .i64 b, .int .i64 c, .int .i64 d, .slice p n m], u.oneCell' = true := by
  intro u hu
  simp at hu
  rcases hu with rfl | rfl | rfl | rfl | rfl <;> rfl
end Go.Proofs.YtccoeachemnbnaaGreatDoor
namespace Go.Proofs.YtccoeachemnbnaaGreatDoor
open Go.RowKit

set_option maxRecDepth 100000 in
set_option maxHeartbeats 4000000 in
theorem l2Copy_any (R C : Int) (a : Option Addr) (n cap : Nat) (l : List Cl) (w : World) (h : Tab w a n cap l) (hl : l.length ≤ 1000000) (ht : ∀ k, k < l.length → (l.getD k cl0).2.2.2.2.length ≤ 1000000) :
    Calls Tryz.prog 90 #[.agg #[.int .i64 R, .int .i64 C, .slice a n cap]] w fun z w' => (∃ a' c' rs, z = .returned (.agg #[.int .i64 R, .int .i64 C, .slice a' l.length c']) ∧ OwnT w' w.heap.size (.slice a' l.length c') rs l) ∧ Below w.heap.size w w' := by
  obtain ⟨i0, hi, hz0, hz1, hz2⟩ := info_parts Tryz.info86
  have H : Hid (Tab w a n cap l) := h
  have HTL : Hid (∀ k, k < l.length → (l.getD k cl0).2.2.2.2.length ≤ 1000000) := ht
  obtain ⟨hn, hc, hm, -⟩ := h
  unfold maxLen at hm
  have HN : Hid (n = l.length) := hn
  have hn6 : n ≤ 1000000 := by omega
  clear ht hn
  go_enter Tryz.func90, Tryz.ntmps90
  go_upto_region 1 with fail
  have B0 : Below w.heap.size w ((w.alloc (.cells #[.int .i64 R, .int .i64 C, .slice a n cap] 54)).alloc (.cells #[.int .i64 0, .int .i64 0, .slice none 0 0] 54)) := ((Below.refl _ _).alloc (Nat.le_refl _) _).alloc (by simp) _
  have G0 : RowAt ((w.alloc (.cells #[.int .i64 R, .int .i64 C, .slice a n cap] 54)).alloc (.cells #[.int .i64 0, .int .i64 0, .slice none 0 0] 54)) w.heap.size #[.int .i64 R, .int .i64 C, .slice a n cap] 54 := (rowAt_new w _ _).alloc _
  have G1 : RowAt ((w.alloc (.cells #[.int .i64 R, .int .i64 C, .slice a n cap] 54)).alloc (.cells #[.int .i64 0, .int .i64 0, .slice none 0 0] 54)) (w.heap.size + 1) #[.int .i64 0, .int .i64 0, .slice none 0 0] 54 := by
    have := rowAt_new (w.alloc (.cells #[.int .i64 R, .int .i64 C, .slice a n cap] 54)) #[.int .i64 0, .int .i64 0, .slice none 0 0] 54
    simpa using this
  generalize ((w.alloc (.cells #[.int .i64 R, .int .i64 C, .slice a n cap] 54)).alloc (.cells #[.int .i64 0, .int .i64 0, .slice none 0 0] 54)) = v at B0 G0 G1 ⊢
  have q0 : v.cell? ⟨w.heap.size, 0, none⟩ = some (.int .i64 R) := G0.cell 0
  have q1 : v.cell? ⟨w.heap.size, 1, none⟩ = some (.int .i64 C) := G0.cell 1
  go_upto_region 2 with fail
  have B1 : Below v.heap.size v (v.alloc (.cells #[.int .i64 R, .int .i64 C, .slice none 0 0] 54)) := (Below.refl _ _).alloc (Nat.le_refl _) _
  have G2 : RowAt (v.alloc (.cells #[.int .i64 R, .int .i64 C, .slice none 0 0] 54)) v.heap.size #[.int .i64 R, .int .i64 C, .slice none 0 0] 54 := rowAt_new _ _ _
  generalize (v.alloc (.cells #[.int .i64 R, .int .i64 C, .slice none 0 0] 54)) = v0 at B1 G2 ⊢
  have z0 := G0.lt
  have z1 := G1.lt
  have z2 := G2.lt
  have s01 := B0.size
  clear q0 q1
  go_wp2_with fail
  go_loopw [4] (fun iv wr => ∃ (i : Nat) (rs : List Rw) (a' : Option Addr) (c' : Nat), i ≤ n ∧ iv = .int .i64 i ∧ RowAt wr v.heap.size #[.int .i64 R, .int .i64 C, .slice a' i c'] 54 ∧ OwnR wr v0.heap.size (.slice a' i c') rs ∧ TxtOwn wr v0.heap.size (Value.slice a' i c').ownBlock rs (l.take i) ∧ Below v.heap.size v wr ∧ v0.heap.size ≤ wr.heap.size) (fun iv _ => n - (intOf iv).toNat)
  case atStart => exact ⟨0, [], none, 0, Nat.zero_le _, rfl, G2, OwnR.nil _ _, TxtOwn.nil _ _ _, B1, Nat.le_refl _⟩
  case round =>
    clear G2 B1
    obtain ⟨i, rs, a', c', hin, rfl, hT, hO, hX, hb, hs⟩ := hrel
    have HTb : Hid (RowAt wr v.heap.size #[.int .i64 R, .int .i64 C, .slice a' i c'] 54) := hT
    have HO : Hid (OwnR wr v0.heap.size (.slice a' i c') rs) := hO
    have HXt : Hid (TxtOwn wr v0.heap.size (Value.slice a' i c').ownBlock rs (l.take i)) := hX
    have HB : Hid (Below v.heap.size v wr) := hb
    have HW : Hid (Below w.heap.size w wr) := B0.trans (hb.mono s01)
    have k2 : wr.cell? ⟨w.heap.size, 2, none⟩ = some (.slice a n cap) := (G0.below hb z0).cell 2
    clear hT hO hX hb
    by_cases hlt : i < n
    · have hil : i < l.length := by rw [← HN.out]; exact hlt
      rcases H.out.2.2.2 with e | ⟨b, off, rfl, hbw, hcl⟩
      · rw [e] at hil
        exact absurd hil (by simp)
      obtain ⟨c0, c1, c2, c3, ta, tn, tc, c4, htx⟩ := (hcl i hil).below HW.out hbw
      have htl := HTL.out i hil
      obtain ⟨⟨r, c, d, g, tx⟩, hx⟩ : ∃ x, x = l.getD i cl0 := ⟨_, rfl⟩
      rw [← hx] at c0 c1 c2 c3 htx htl
      simp only at c0 c1 c2 c3 htx htl
      have HX : Hid ((r, c, d, g, tx) = l.getD i cl0) := hx
      have HTX : Hid (Txt wr ta tn tc tx) := htx
      have HTN : Hid (tn = tx.length) := htx.1
      have htn6 : tn ≤ 1000000 := by rw [HTN.out]; exact htl
      clear hcl hx htx
      go_upto_region 6 with fail
      have bA : Below wr.heap.size wr (wr.alloc (.cells #[.int .i64 r, .int .i64 c, .int .i64 d, .int .i64 g, .slice ta tn tc] 86)) := (Below.refl _ _).alloc (Nat.le_refl _) _
      have RA : RowAt (wr.alloc (.cells #[.int .i64 r, .int .i64 c, .int .i64 d, .int .i64 g, .slice ta tn tc] 86)) wr.heap.size #[.int .i64 r, .int .i64 c, .int .i64 d, .int .i64 g, .slice ta tn tc] 86 := rowAt_new _ _ _
      clear c0 c1 c2 c3 c4 k2
      generalize (wr.alloc (.cells #[.int .i64 r, .int .i64 c, .int .i64 d, .int .i64 g, .slice ta tn tc] 86)) = w1 at bA RA ⊢
      have s1 := bA.size
      have lA := RA.lt
      have e4 : w1.cell? ⟨wr.heap.size, 4, none⟩ = some (.slice ta tn tc) := RA.cell 4
      have HRA : Hid (RowAt w1 wr.heap.size #[.int .i64 r, .int .i64 c, .int .i64 d, .int .i64 g, .slice ta tn tc] 86) := RA
      clear RA
      go_upto_region 7 with (at_builtin; refine wpList_append_txt rfl (.tmp 23) (.tmp 25) rfl wr.heap.size (.slice (some ⟨w1.heap.size, 0, none⟩) 0 0) 0 [] rfl (World.ownsRow_lit w1 #[] 0 (by omega) (by unfold maxLen; omega) rfl) ta tn tc tx rfl ((HTX.out.below bA).below ((Below.refl _ _).alloc (Nat.le_refl _) _)) (by omega) (by simp; omega) ?_; intro v' w2 hown hgrow; obtain ⟨p, q, rfl, -⟩ := Own.shape (show Own w2 wr.heap.size v' tx by (rw [Nat.zero_add, List.nil_append, HTN.out] at hown; exact hown)); have R2 := RowAt.grown (HRA.out.alloc _) hgrow (by simp [Value.ownBlock]; omega); have f4 : w2.cell? ⟨wr.heap.size, 4, none⟩ = some (.slice ta tn tc) := R2.cell 4; have f5 := R2.frozen 4)
      have hO2 : Own w2 wr.heap.size (.slice p tx.length q) tx := by
        rw [Nat.zero_add, List.nil_append, HTN.out] at hown
        exact hown
      have O3 : Own (w2.setCell ⟨wr.heap.size, 4, none⟩ (.slice p tx.length q)) wr.heap.size (.slice p tx.length q) tx := own_set hO2 _ _ (rowAt_ne R2 hO2.row (by decide))
      have R3 := R2.setCell 4 (.slice p tx.length q)
      have b3 : Below wr.heap.size wr (w2.setCell ⟨wr.heap.size, 4, none⟩ (.slice p tx.length q)) := ((bA.alloc s1 _).grown hgrow (by simp; omega) (fun k hk => by simp [Value.ownBlock] at hk; omega)).setCell (p := ⟨wr.heap.size, 4, none⟩) (Nat.le_refl _) (.slice p tx.length q)
      clear f4 f5 e4 hown hgrow R2 hO2 bA
      generalize (w2.setCell ⟨wr.heap.size, 4, none⟩ (.slice p tx.length q)) = w3 at O3 R3 b3 ⊢
      have s3 := b3.size
      have d0 : w3.cell? ⟨wr.heap.size, 0, none⟩ = some (.int .i64 r) := R3.cell 0
      have d1 : w3.cell? ⟨wr.heap.size, 1, none⟩ = some (.int .i64 c) := R3.cell 1
      have d2 : w3.cell? ⟨wr.heap.size, 2, none⟩ = some (.int .i64 d) := R3.cell 2
      have d3 : w3.cell? ⟨wr.heap.size, 3, none⟩ = some (.int .i64 g) := R3.cell 3
      have d4 : w3.cell? ⟨wr.heap.size, 4, none⟩ = some (.slice p tx.length q) := R3.cell 4
      have lv : v.heap.size < wr.heap.size := by omega
      have HT3 : Hid (RowAt w3 v.heap.size #[.int .i64 R, .int .i64 C, .slice a' i c'] 54) := HTb.out.below b3 lv
      have HO3 : Hid (OwnR w3 v0.heap.size (.slice a' i c') rs) := own_below HO.out b3
      have HX3 : Hid (TxtOwn w3 v0.heap.size (Value.slice a' i c').ownBlock rs (l.take i)) := HXt.out.below b3
      have HOw : Hid (Own w3 wr.heap.size (.slice p tx.length q) tx) := O3
      have HB3 : Hid (Below v.heap.size v w3) := HB.out.trans (b3.mono (by omega))
      have t2 : w3.cell? ⟨v.heap.size, 2, none⟩ = some (.slice a' i c') := HT3.out.cell 2
      clear R3 O3 b3
      go_wp2_with (at_builtin; refine wpList_append_own _ rfl (.tmp 29) (.tmp 31) 52 rfl v0.heap.size 86 i0 _ 5 56 Tryz.underlying52 hi hz0 hz1 hz2 rfl (by decide) (.slice a' i c') _ _ rfl (HO3.out.row.alloc _) ⟨w3.heap.size, 0, none⟩ 1 1 [.int .i64 r, .int .i64 c, .int .i64 d, .int .i64 g, .slice p tx.length q] rfl rfl (cell_five_new _ _ _ _ _ _ _) (five_oneCell _ _ _ _ _ _ _) (by unfold maxLen; omega) (by omega) (by simp; omega) ?_; intro v' w5 hown' hgrow _; obtain ⟨a5, c5, rfl, ho5, hb5⟩ := ownR_step (B := v0.heap.size) (w := w3) (s := (r, c, d, g, p, tx.length, q)) HO3.out (Below.refl _ _) (by omega) hown' hgrow; have R5 := RowAt.grown (HT3.out.alloc _) hgrow (fun e => by have := (own_lt HO3.out.row e).1; omega); have q2 : w5.cell? ⟨v.heap.size, 2, none⟩ = some (.slice a' i c') := R5.cell 2; have q3 := R5.frozen 2)
      go_roundw
      case rel =>
        have tO : Own w5 v0.heap.size (.slice p tx.length q) tx := own_grown (Own.alloc (own_less HOw.out (by omega)) _) hgrow (fun b hb => own_kinds HO3.out HOw.out (by decide) b hb)
        have t5 : TxtOwn w5 v0.heap.size (Value.slice a' i c').ownBlock rs (l.take i) := (HX3.out.below ((Below.refl _ _).alloc (Nat.le_refl _) _)).grown hgrow (fun k hk b hb => HX3.out.2.2.1 k hk b hb)
        have t6 := t5.snoc (C := wr.heap.size) (x := (r, c, d, g, p, tx.length, q)) (y := (r, c, d, g, tx)) ⟨rfl, rfl, rfl, rfl, tO⟩ (fun b hb => own_kinds HO3.out HOw.out (by decide) b hb) (fun k hk b hb => HXt.out.blockLt k hk b hb) (fun b hb => (own_lt HOw.out.row hb).1)
        rw [show l.take i ++ [(r, c, d, g, tx)] = l.take (i + 1) from by rw [List.take_succ_eq_append_getElem hil, HX.out]; simp [List.getD, hil]] at t6
        have B5 : Below v.heap.size v w5 := ((HB3.out).alloc (by omega) _).grown hgrow (by simp; omega) (fun k hk => by have := (own_lt HO3.out.row hk).1; omega)
        have s5 := hgrow.size
        simp at s5
        refine ⟨i + 1, _, a5, c5, by omega, by go_num, R5.setCell 2 (.slice a5 (i + 1) c5), own_set ho5 _ _ (fun e => by have := (own_lt ho5.row e).1; simp at this; omega), (t6.anew ho5).setLow _ _ (by simp; omega), B5.setCell (p := ⟨v.heap.size, 2, none⟩) (Nat.le_refl _) (.slice a5 (i + 1) c5), by simp [World.setCell]; omega⟩
      case measure => simp [intOf]; omega
    · have e : i = n := by omega
      subst e
      have k0 : wr.cell? ⟨v.heap.size, 0, none⟩ = some (.int .i64 R) := HTb.out.cell 0
      have k1 : wr.cell? ⟨v.heap.size, 1, none⟩ = some (.int .i64 C) := HTb.out.cell 1
      have k3 : wr.cell? ⟨v.heap.size, 2, none⟩ = some (.slice a' i c') := HTb.out.cell 2
      have HG1 : Hid (RowAt wr (w.heap.size + 1) #[.int .i64 0, .int .i64 0, .slice none 0 0] 54) := G1.below HB.out z1
      go_wp2_with (refine wpList_store_row rfl 54 (.tmp 2) (.tmp 34) rfl (w.heap.size + 1) #[.int .i64 R, .int .i64 C, .slice a' i c'] rfl rfl 54 _ HG1.out tab_info rfl (cells3_one _ _ _ _ _) ?_)
      have hX := HXt.out
      have hO := HO.out
      rw [HN.out] at hX hO
      rw [List.take_of_length_le (Nat.le_refl _)] at hX
      refine bodyPost_ret (v := .agg #[.int .i64 R, .int .i64 C, .slice a' i c']) (results_cell_row (p := 2) (ty := 54) rfl _ _ (w.heap.size + 1) 54 _ _ _ rfl (RowAt.setRow HG1.out _) Tryz.underlying54 rfl tab_info) rfl ⟨⟨a', c', rs, by rw [HN.out], ?_⟩, below_row (B0.trans (HB.out.mono s01)) (by omega) _⟩
      exact OwnT.less (B' := v0.heap.size) ⟨own_row hO _ _ (fun e => by have := (own_lt hO.row e).1; omega), hX.rowLow _ _ (by omega)⟩ (by omega)
end Go.Proofs.YtccoeachemnbnaaGreatDoor
namespace Go.Proofs.YtccoeachemnbnaaGreatDoor
open Go.RowKit

theorem ownR_empty (w : World) (B : Nat) (hB : B ≤ w.heap.size) : OwnR (w.alloc (.cells #[] 86)) B (.slice (some ⟨w.heap.size, 0, none⟩) 0 0) [] := World.ownsRow_lit w #[] 0 hB (by unfold maxLen; omega) rfl
theorem RwAt.below {w w' : World} {b o : Nat} {x : Rw} (h : RwAt w b o x) (hb : Below w.heap.size w w') (hlt : b < w.heap.size) : RwAt w' b o x := by
  obtain ⟨c0, c1, c2, c3, c4⟩ := h
  exact ⟨(hb.cell (p := ⟨b, _, none⟩) hlt).trans c0, (hb.cell (p := ⟨b, _, none⟩) hlt).trans c1, (hb.cell (p := ⟨b, _, none⟩) hlt).trans c2, (hb.cell (p := ⟨b, _, none⟩) hlt).trans c3, (hb.cell (p := ⟨b, _, none⟩) hlt).trans c4⟩
theorem Rws.below {w w' : World} {a : Option Addr} {n cap : Nat} {l : List Rw} (h : Rws w a n cap l) (hb : Below w.heap.size w w') : Rws w' a n cap l := by
  obtain ⟨h1, h2, h3, h4⟩ := h
  refine ⟨h1, h2, h3, ?_⟩
  rcases h4 with h4 | ⟨b, off, h5, h6, h7⟩
  · exact .inl h4
  · refine .inr ⟨b, off, h5, Nat.lt_of_lt_of_le h6 hb.size, fun k hk => ?_⟩
    obtain ⟨c0, c1, c2, c3, c4⟩ := h7 k hk
    exact ⟨(hb.cell (p := ⟨b, _, none⟩) h6).trans c0, (hb.cell (p := ⟨b, _, none⟩) h6).trans c1, (hb.cell (p := ⟨b, _, none⟩) h6).trans c2, (hb.cell (p := ⟨b, _, none⟩) h6).trans c3, (hb.cell (p := ⟨b, _, none⟩) h6).trans c4⟩

set_option maxRecDepth 100000 in
set_option maxHeartbeats 8000000 in
theorem l2Sort_any (a : Option Addr) (n cap : Nat) (rs : List Rw) (w : World) (h : Rws w a n cap rs) (hn : n ≤ 1000) :
    Calls Tryz.prog 98 #[.slice a n cap] w fun z w' => (∃ a' c', z = .returned (.slice a' n c') ∧ OwnR w' w.heap.size (.slice a' n c') (sortR rs)) ∧ Below w.heap.size w w' := by
  obtain ⟨i0, hi, hz0, hz1, hz2⟩ := info_parts Tryz.info86
  have H : Hid (Rws w a n cap rs) := h
  have HN : Hid (n = rs.length) := h.1
  have hcn := h.2.1
  have hcm := h.2.2.1
  unfold maxLen at hcm
  clear h
  go_enter Tryz.func98, Tryz.ntmps98
  go_wp2_with fail
  go_loopw [3, 4] (fun ov iv wr => ∃ (i : Nat) (ao : Option Addr) (co : Nat), i ≤ n ∧ iv = .int .i64 i ∧ ov = .slice ao i co ∧ OwnR wr w.heap.size (.slice ao i co) (sortR (rs.take i)) ∧ Below w.heap.size w wr) (fun _ iv _ => n - (intOf iv).toNat)
  case atStart => exact ⟨0, _, _, Nat.zero_le _, rfl, rfl, ownR_empty w _ (Nat.le_refl _), (Below.refl _ _).alloc (Nat.le_refl _) _⟩
  case round =>
    obtain ⟨i, ao, co, hin, rfl, rfl, ho, hb⟩ := hrel
    have HO : Hid (OwnR wr w.heap.size (.slice ao i co) (sortR (rs.take i))) := ho
    have HB : Hid (Below w.heap.size w wr) := hb
    have sz := hb.size
    have hco := ho.rws.2.1
    have hcom := ho.rws.2.2.1
    unfold maxLen at hcom
    clear ho hb
    by_cases hlt : i < n
    · obtain ⟨wi, rfl⟩ : ∃ wi, wi = wr := ⟨wr, rfl⟩
      have hir : i < rs.length := by rw [← HN.out]; exact hlt
      obtain ⟨⟨xr, xc, xd, xg, xa, xn, xq⟩, hx⟩ : ∃ x, x = rs.getD i rw0 := ⟨_, rfl⟩
      have HX : Hid ((xr, xc, xd, xg, xa, xn, xq) = rs.getD i rw0) := hx
      rcases H.out.2.2.2 with e | ⟨b, off, rfl, hbw, hcl⟩
      · rw [e] at hir
        exact absurd hir (by simp)
      have hxa : RwAt w b (off + i * 5) (xr, xc, xd, xg, xa, xn, xq) := by rw [hx]; exact hcl i hir
      have HXA : Hid (RwAt wi b (off + i * 5) (xr, xc, xd, xg, xa, xn, xq)) := hxa.below HB.out hbw
      have hbwi : b < wi.heap.size := by omega
      have HSL : Hid ((sortR (rs.take i)).length = i) := by
        show (sortR (rs.take i)).length = i
        rw [sortR_len, List.length_take]
        omega
      clear hx hcl hxa
      go_wp2_with fail
      go_loopw [5, 6, 7] (fun nv dv kv wr => ∃ (k m : Nat) (done : Bool) (next : List Rw) (an : Option Addr) (cn : Nat), k ≤ i ∧ kv = .int .i64 k ∧ dv = .bool done ∧ nv = .slice an m cn ∧ InsP (xr, xc, xd, xg, xa, xn, xq) (sortR (rs.take i)) k done next ∧ OwnR wr wi.heap.size (.slice an m cn) next ∧ Below wi.heap.size wi wr) (fun _ _ kv _ => i - (intOf kv).toNat)
      case atStart => exact ⟨0, 0, false, [], _, _, Nat.zero_le _, rfl, rfl, rfl, .inl ⟨rfl, by simp, by simp⟩, ownR_empty wi _ (Nat.le_refl _), (Below.refl _ _).alloc (Nat.le_refl _) _⟩
      case round =>
        obtain ⟨k, m, done, next, an, cn, hki', rfl, rfl, rfl, hI, hNx, hq⟩ := hrel
        have HI : Hid (InsP (xr, xc, xd, xg, xa, xn, xq) (sortR (rs.take i)) k done next) := hI
        have HNx : Hid (OwnR wr wi.heap.size (.slice an m cn) next) := hNx
        have HQ : Hid (Below wi.heap.size wi wr) := hq
        have hml := hI.len (by rw [HSL.out]; exact hki')
        have hm2 : m = next.length := hNx.len
        have hmi : m ≤ 1001 := by
          have : done.toNat ≤ 1 := by cases done <;> decide
          omega
        have hcn1 := hNx.rws.2.1
        have hcn2 := hNx.rws.2.2.1
        unfold maxLen at hcn2
        have sq := hq.size
        obtain ⟨x0, x1, x2, x3, x4⟩ := HXA.out.below hq hbwi
        simp only at x0 x1 x2 x3 x4
        clear hI hNx hq hml hm2
        by_cases hki : k < i
        · have hks : k < (sortR (rs.take i)).length := by rw [HSL.out]; exact hki
          obtain ⟨⟨yr, yc, yd, yg, ya, yn, yq⟩, hy⟩ : ∃ y, y = (sortR (rs.take i)).getD k rw0 := ⟨_, rfl⟩
          have HY : Hid ((yr, yc, yd, yg, ya, yn, yq) = (sortR (rs.take i)).getD k rw0) := hy
          rcases HO.out.rws.2.2.2 with e | ⟨bo, oo, rfl, hbo, hol⟩
          · rw [e] at hks
            exact absurd hks (by simp)
          have HYA : Hid (RwAt wi bo (oo + k * 5) (yr, yc, yd, yg, ya, yn, yq)) := by
            show RwAt wi bo (oo + k * 5) (yr, yc, yd, yg, ya, yn, yq)
            rw [hy]
            exact hol k hks
          obtain ⟨y0, y1, y2, y3, y4⟩ := HYA.out.below HQ.out hbo
          simp only at y0 y1 y2 y3 y4
          clear hy hol
          cases done
          · rcases (show (xr < yr) ∨ (yr < xr) ∨ (yr = xr ∧ xc < yc) ∨ (yr = xr ∧ yc ≤ xc) from by omega) with m0 | m0 | ⟨m0, m1⟩ | ⟨m0, m1⟩
            · go_wp2_with fail
              go_quiet (fail)
              have HO0 : Hid (OwnR (wr.drewN nq) wi.heap.size (.slice an m cn) next) := own_below HNx.out (below_drewN (Below.refl wr.heap.size wr) nq)
              go_wp2_with (first | (at_builtin; refine wpList_append_own _ rfl (.tmp 63) (.tmp 68) 52 rfl wi.heap.size 86 i0 _ 5 56 Tryz.underlying52 hi hz0 hz1 hz2 rfl (by decide) _ _ _ rfl (HO0.out.row.alloc _) ⟨_, 0, none⟩ 1 1 [.int .i64 xr, .int .i64 xc, .int .i64 xd, .int .i64 xg, .slice xa xn xq] rfl rfl (cell_five_new _ _ _ _ _ _ _) (five_oneCell _ _ _ _ _ _ _) (by unfold maxLen; omega) (by omega) (by first | omega | (simp; omega)) ?_; intro v' w5 hown' hgrow _; obtain ⟨aw5, cw5, rfl, how5, hbw5⟩ := ownR_step (B := wi.heap.size) (w := wi) (s := (xr, xc, xd, xg, xa, xn, xq)) HO0.out (below_drewN HQ.out nq) (by first | omega | (simp; omega)) hown' hgrow; have HO1 : Hid (OwnR w5 wi.heap.size (.slice aw5 (m + 1) cw5) (next ++ [(xr, xc, xd, xg, xa, xn, xq)])) := how5; have sw5 := hbw5.size; obtain ⟨o0, o1, o2, o3, o4⟩ := HYA.out.below hbw5 hbo; clear how5 hown' hgrow) | (at_builtin; refine wpList_append_own _ rfl (.tmp 70) (.tmp 75) 52 rfl wi.heap.size 86 i0 _ 5 56 Tryz.underlying52 hi hz0 hz1 hz2 rfl (by decide) _ _ _ rfl (HO1.out.row.alloc _) ⟨_, 0, none⟩ 1 1 [.int .i64 yr, .int .i64 yc, .int .i64 yd, .int .i64 yg, .slice ya yn yq] rfl rfl (cell_five_new _ _ _ _ _ _ _) (five_oneCell _ _ _ _ _ _ _) (by unfold maxLen; omega) (by omega) (by first | omega | (simp; omega)) ?_; intro v' w6 hown' hgrow _; obtain ⟨aw6, cw6, rfl, how6, hbw6⟩ := ownR_step (B := wi.heap.size) (w := wi) (s := (yr, yc, yd, yg, ya, yn, yq)) HO1.out hbw5 (by first | omega | (simp; omega)) hown' hgrow))
              go_roundw
              case rel => exact ⟨k + 1, m + 1 + 1, true, _, aw6, cw6, by omega, by go_num, rfl, rfl, by rw [HY.out]; exact HI.out.put (by rw [HSL.out]; exact hki) (by rw [← HY.out]; exact decide_eq_true (by simp only; omega)), how6, hbw6⟩
              case measure => simp [intOf]; omega
            · have n1 : decide (xr < yr) = false := by simp; omega
              have n2 : (yr == xr) = false := by simp; omega
              go_wp2_with fail
              go_quiet (fail)
              have HO0 : Hid (OwnR (wr.drewN nq) wi.heap.size (.slice an m cn) next) := own_below HNx.out (below_drewN (Below.refl wr.heap.size wr) nq)
              go_wp2_with (at_builtin; refine wpList_append_own _ rfl (.tmp 70) (.tmp 75) 52 rfl wi.heap.size 86 i0 _ 5 56 Tryz.underlying52 hi hz0 hz1 hz2 rfl (by decide) _ _ _ rfl (HO0.out.row.alloc _) ⟨_, 0, none⟩ 1 1 [.int .i64 yr, .int .i64 yc, .int .i64 yd, .int .i64 yg, .slice ya yn yq] rfl rfl (cell_five_new _ _ _ _ _ _ _) (five_oneCell _ _ _ _ _ _ _) (by unfold maxLen; omega) (by omega) (by first | omega | (simp; omega)) ?_; intro v' w5 hown' hgrow _; obtain ⟨aw5, cw5, rfl, how5, hbw5⟩ := ownR_step (B := wi.heap.size) (w := wi) (s := (yr, yc, yd, yg, ya, yn, yq)) HO0.out (below_drewN HQ.out nq) (by first | omega | (simp; omega)) hown' hgrow)
              go_roundw
              case rel => exact ⟨k + 1, m + 1, false, _, aw5, cw5, by omega, by go_num, rfl, rfl, by rw [HY.out]; exact HI.out.skip hks (by rw [← HY.out]; exact decide_eq_false (by simp only; omega)), how5, hbw5⟩
              case measure => simp [intOf]; omega
            · subst m0
              have n1 : decide (yr < yr) = false := by simp
              go_wp2_with fail
              go_quiet (fail)
              have HO0 : Hid (OwnR (wr.drewN nq) wi.heap.size (.slice an m cn) next) := own_below HNx.out (below_drewN (Below.refl wr.heap.size wr) nq)
              go_wp2_with (first | (at_builtin; refine wpList_append_own _ rfl (.tmp 63) (.tmp 68) 52 rfl wi.heap.size 86 i0 _ 5 56 Tryz.underlying52 hi hz0 hz1 hz2 rfl (by decide) _ _ _ rfl (HO0.out.row.alloc _) ⟨_, 0, none⟩ 1 1 [.int .i64 yr, .int .i64 xc, .int .i64 xd, .int .i64 xg, .slice xa xn xq] rfl rfl (cell_five_new _ _ _ _ _ _ _) (five_oneCell _ _ _ _ _ _ _) (by unfold maxLen; omega) (by omega) (by first | omega | (simp; omega)) ?_; intro v' w5 hown' hgrow _; obtain ⟨aw5, cw5, rfl, how5, hbw5⟩ := ownR_step (B := wi.heap.size) (w := wi) (s := (yr, xc, xd, xg, xa, xn, xq)) HO0.out (below_drewN HQ.out nq) (by first | omega | (simp; omega)) hown' hgrow; have HO1 : Hid (OwnR w5 wi.heap.size (.slice aw5 (m + 1) cw5) (next ++ [(yr, xc, xd, xg, xa, xn, xq)])) := how5; have sw5 := hbw5.size; obtain ⟨o0, o1, o2, o3, o4⟩ := HYA.out.below hbw5 hbo; clear how5 hown' hgrow) | (at_builtin; refine wpList_append_own _ rfl (.tmp 70) (.tmp 75) 52 rfl wi.heap.size 86 i0 _ 5 56 Tryz.underlying52 hi hz0 hz1 hz2 rfl (by decide) _ _ _ rfl (HO1.out.row.alloc _) ⟨_, 0, none⟩ 1 1 [.int .i64 yr, .int .i64 yc, .int .i64 yd, .int .i64 yg, .slice ya yn yq] rfl rfl (cell_five_new _ _ _ _ _ _ _) (five_oneCell _ _ _ _ _ _ _) (by unfold maxLen; omega) (by omega) (by first | omega | (simp; omega)) ?_; intro v' w6 hown' hgrow _; obtain ⟨aw6, cw6, rfl, how6, hbw6⟩ := ownR_step (B := wi.heap.size) (w := wi) (s := (yr, yc, yd, yg, ya, yn, yq)) HO1.out hbw5 (by first | omega | (simp; omega)) hown' hgrow))
              go_roundw
              case rel => exact ⟨k + 1, m + 1 + 1, true, _, aw6, cw6, by omega, by go_num, rfl, rfl, by rw [HY.out]; exact HI.out.put (by rw [HSL.out]; exact hki) (by rw [← HY.out]; exact decide_eq_true (Or.inr ⟨rfl, m1⟩)), how6, hbw6⟩
              case measure => simp [intOf]; omega
            · subst m0
              have n1 : decide (yr < yr) = false := by simp
              have n3 : decide (xc < yc) = false := by simp; omega
              go_wp2_with fail
              go_quiet (fail)
              have HO0 : Hid (OwnR (wr.drewN nq) wi.heap.size (.slice an m cn) next) := own_below HNx.out (below_drewN (Below.refl wr.heap.size wr) nq)
              go_wp2_with (at_builtin; refine wpList_append_own _ rfl (.tmp 70) (.tmp 75) 52 rfl wi.heap.size 86 i0 _ 5 56 Tryz.underlying52 hi hz0 hz1 hz2 rfl (by decide) _ _ _ rfl (HO0.out.row.alloc _) ⟨_, 0, none⟩ 1 1 [.int .i64 yr, .int .i64 yc, .int .i64 yd, .int .i64 yg, .slice ya yn yq] rfl rfl (cell_five_new _ _ _ _ _ _ _) (five_oneCell _ _ _ _ _ _ _) (by unfold maxLen; omega) (by omega) (by first | omega | (simp; omega)) ?_; intro v' w5 hown' hgrow _; obtain ⟨aw5, cw5, rfl, how5, hbw5⟩ := ownR_step (B := wi.heap.size) (w := wi) (s := (yr, yc, yd, yg, ya, yn, yq)) HO0.out (below_drewN HQ.out nq) (by first | omega | (simp; omega)) hown' hgrow)
              go_roundw
              case rel => exact ⟨k + 1, m + 1, false, _, aw5, cw5, by omega, by go_num, rfl, rfl, by rw [HY.out]; exact HI.out.skip hks (by rw [← HY.out]; exact decide_eq_false (by simp only; omega)), how5, hbw5⟩
              case measure => simp [intOf]; omega
          · go_wp2_with fail
            go_quiet (fail)
            have HO0 : Hid (OwnR (wr.drewN nq) wi.heap.size (.slice an m cn) next) := own_below HNx.out (below_drewN (Below.refl wr.heap.size wr) nq)
            go_wp2_with (at_builtin; refine wpList_append_own _ rfl (.tmp 70) (.tmp 75) 52 rfl wi.heap.size 86 i0 _ 5 56 Tryz.underlying52 hi hz0 hz1 hz2 rfl (by decide) _ _ _ rfl (HO0.out.row.alloc _) ⟨_, 0, none⟩ 1 1 [.int .i64 yr, .int .i64 yc, .int .i64 yd, .int .i64 yg, .slice ya yn yq] rfl rfl (cell_five_new _ _ _ _ _ _ _) (five_oneCell _ _ _ _ _ _ _) (by unfold maxLen; omega) (by omega) (by first | omega | (simp; omega)) ?_; intro v' w5 hown' hgrow _; obtain ⟨aw5, cw5, rfl, how5, hbw5⟩ := ownR_step (B := wi.heap.size) (w := wi) (s := (yr, yc, yd, yg, ya, yn, yq)) HO0.out (below_drewN HQ.out nq) (by first | omega | (simp; omega)) hown' hgrow)
            go_roundw
            case rel => exact ⟨k + 1, m + 1, true, _, aw5, cw5, by omega, by go_num, rfl, rfl, by rw [HY.out]; exact HI.out.on hks, how5, hbw5⟩
            case measure => simp [intOf]; omega
        · have e : k = i := by omega
          subst e
          have HIF : Hid (InsP (xr, xc, xd, xg, xa, xn, xq) (sortR (rs.take k)) (sortR (rs.take k)).length done next) := by
            show InsP (xr, xc, xd, xg, xa, xn, xq) (sortR (rs.take k)) (sortR (rs.take k)).length done next
            rw [HSL.out]
            exact HI.out
          have HST : Hid (sortR (rs.take (k + 1)) = insR (xr, xc, xd, xg, xa, xn, xq) (sortR (rs.take k))) := by
            show sortR (rs.take (k + 1)) = _
            rw [sortR_take rs k hir, HX.out]
          cases done
          · go_wp2_with (at_builtin; refine wpList_append_own _ rfl (.tmp 79) (.tmp 84) 52 rfl wi.heap.size 86 i0 _ 5 56 Tryz.underlying52 hi hz0 hz1 hz2 rfl (by decide) _ _ _ rfl (HNx.out.row.alloc _) ⟨_, 0, none⟩ 1 1 [.int .i64 xr, .int .i64 xc, .int .i64 xd, .int .i64 xg, .slice xa xn xq] rfl rfl (cell_five_new _ _ _ _ _ _ _) (five_oneCell _ _ _ _ _ _ _) (by unfold maxLen; omega) (by omega) (by first | omega | (simp; omega)) ?_; intro v' w5 hown' hgrow _; obtain ⟨a5, c5, rfl, ho5, hb5⟩ := ownR_step (B := wi.heap.size) (w := wi) (s := (xr, xc, xd, xg, xa, xn, xq)) HNx.out HQ.out (by first | omega | (simp; omega)) hown' hgrow)
            go_roundw
            case rel =>
              have e1 := HIF.out.fin0
              rw [e1, ← HST.out] at ho5
              have e2 := ho5.len
              rw [sortR_len, List.length_take] at e2
              have e3 : m + 1 = k + 1 := by omega
              rw [e3] at ho5 ⊢
              exact ⟨k + 1, a5, c5, by omega, by go_num, rfl, own_less ho5 (by omega), HB.out.trans (hb5.mono (by omega))⟩
            case measure => simp [intOf]; omega
          · go_wp2_with fail
            go_roundw
            case rel =>
              have e1 := HIF.out.fin
              have ho5 := HNx.out
              rw [e1, ← HST.out] at ho5
              have e2 := ho5.len
              rw [sortR_len, List.length_take] at e2
              have e3 : m = k + 1 := by omega
              subst e3
              exact ⟨k + 1, an, cn, by omega, by go_num, rfl, own_less ho5 (by omega), HB.out.trans (HQ.out.mono (by omega))⟩
            case measure => simp [intOf]; omega
    · have e : i = n := by omega
      subst e
      go_wp2_with fail
      go_ret
      have ho := HO.out
      rw [List.take_of_length_le (by rw [HN.out]; exact Nat.le_refl _)] at ho
      exact ⟨⟨ao, co, rfl, ho⟩, HB.out⟩
end Go.Proofs.YtccoeachemnbnaaGreatDoor
namespace Go.Proofs.YtccoeachemnbnaaGreatDoor
open Go.RowKit

/-- What a function gives that answers a table and whether there is one. -/
def TabRes (B : Nat) (ok : Bool) (X Y : Int) (L : List Cl) (z : Ending) (w' : World) : Prop :=
  (ok = false ∧ z = .returned (.tuple #[.agg #[.int .i64 0, .int .i64 0, .slice none 0 0], .bool false])) ∨
  (ok = true ∧ ∃ a c rs, z = .returned (.tuple #[.agg #[.int .i64 X, .int .i64 Y, .slice a L.length c], .bool true]) ∧ OwnT w' B (.slice a L.length c) rs L)
theorem run_tabOf {w : World} {g : Nat} {x y s : Value} (h : RowAt w g #[x, y, s] 54) : (loadVar 54 ⟨g, 0, none⟩).run Tryz.prog w = .ok (.agg #[x, y, s]) w :=
  run_loadVar_row w g 54 54 #[x, y, s] (0, 0) _ h Tryz.underlying54 rfl tab_info
end Go.Proofs.YtccoeachemnbnaaGreatDoor
namespace Go.Proofs.YtccoeachemnbnaaGreatDoor
open Go.RowKit

/-- 'append(v, t...)', v the call's own, t a text; the value lies where it lay, or where nothing lay. -/
theorem wpList_append_txtL {w : World} {ops : Array Oper} {rest : List Oper} {o : Oper} {a : Act} {Q : Exit → Act → World → Prop} (hgd : o.guard = none) (s x : Operand)
    (ho : o.op = .call { callee := .builtin .append, args := #[s, x], argTypes := #[47, 47] })
    (base : Nat) (v : Value) (n : Nat) (xs : List Value) (hs : a.eval s = v) (hown : w.ownsRow base 82 3 v n xs)
    (p : Option Addr) (m c : Nat) (l : List Sg) (hx : a.eval x = .slice p m c) (htx : Txt w p m c l) (h63 : n + m ≤ 1000000000) (hbase : base ≤ w.heap.size)
    (h : ∀ v' w', w'.ownsRow base 82 3 v' (n + m) (xs ++ flat l) → w.grownBy w' v.ownBlock → (∀ b, v'.ownBlock = some b → v.ownBlock = some b ∨ w.heap.size ≤ b) → wpList Tryz.prog ops Q rest (a.put o.dst v') w') : wpList Tryz.prog ops Q (o :: rest) a w := by
  obtain ⟨i0, hi, hz0, hz1, hz2⟩ := info_parts Tryz.info82
  obtain ⟨rfl, h2, h3, h4⟩ := htx
  rcases h4 with rfl | ⟨b, off, rfl, hb, hsn⟩
  · refine wpList_append_empty hgd s x 47 ho base 82 i0 3 Tryz.underlying47 hi v n xs hs hown p c hx ?_
    exact h v w (by simpa [flat] using hown) (grownBy_refl _ _) (fun b hb => .inl hb)
  · by_cases h0 : l.length = 0
    · obtain rfl : l = [] := List.eq_nil_of_length_eq_zero h0
      refine wpList_append_empty hgd s x 47 ho base 82 i0 3 Tryz.underlying47 hi v n xs hs hown _ c hx ?_
      exact h v w (by simpa [flat] using hown) (grownBy_refl _ _) (fun b hb => .inl hb)
    · refine wpList_append_lies w hgd s x 47 ho base 82 i0 _ 3 24 Tryz.underlying47 hi hz0 hz1 hz2 rfl (by decide) v n xs hs hown ⟨b, off, none⟩ l.length c (flat l) hx (by rw [flat_length]) (news_signs hsn) (flat_one l) (by omega) (by unfold maxLen; omega) (by omega) hbase w.heap.size rfl ?_
      intro g cap w' h5 h6 h7 _
      refine h _ w' h5 h6 (fun b' hb' => ?_)
      have e : g = b' := by simpa [Value.ownBlock] using hb'
      subst e
      rcases h7 with h7 | h7
      · exact .inl h7
      · exact .inr (by omega)

set_option maxRecDepth 100000 in
set_option maxHeartbeats 8000000 in
theorem specTableMerge_any (R C r c d g : Int) (a : Option Addr) (n cap : Nat) (l : List Cl) (w : World) (h : Tab w a n cap l) :
    Calls Tryz.prog 92 #[.agg #[.int .i64 R, .int .i64 C, .slice a n cap], .int .i64 r, .int .i64 c, .int .i64 d, .int .i64 g] w fun z w' => TabRes w.heap.size (mergeB R C l r c d g) R C (mergeL l r c d g) z w' ∧ Below w.heap.size w w' := by
  obtain ⟨i0, hi, hz0, hz1, hz2⟩ := info_parts Tryz.info86
  have H : Hid (Tab w a n cap l) := h
  clear h
  obtain ⟨ok, HX⟩ : ∃ x, Hid (okB R C l = x) := ⟨_, rfl⟩
  go_enter Tryz.func92, Tryz.ntmps92
  go_upto_region 1 with fail
  have B0 : Below w.heap.size w ((w.alloc (.cells #[.int .i64 R, .int .i64 C, .slice a n cap] 54)).alloc (.cells #[.int .i64 0, .int .i64 0, .slice none 0 0] 54)) := ((Below.refl _ _).alloc (Nat.le_refl _) _).alloc (by simp) _
  have G0 : RowAt ((w.alloc (.cells #[.int .i64 R, .int .i64 C, .slice a n cap] 54)).alloc (.cells #[.int .i64 0, .int .i64 0, .slice none 0 0] 54)) w.heap.size #[.int .i64 R, .int .i64 C, .slice a n cap] 54 := (rowAt_new w _ _).alloc _
  have G1 : RowAt ((w.alloc (.cells #[.int .i64 R, .int .i64 C, .slice a n cap] 54)).alloc (.cells #[.int .i64 0, .int .i64 0, .slice none 0 0] 54)) (w.heap.size + 1) #[.int .i64 0, .int .i64 0, .slice none 0 0] 54 := by
    have := rowAt_new (w.alloc (.cells #[.int .i64 R, .int .i64 C, .slice a n cap] 54)) #[.int .i64 0, .int .i64 0, .slice none 0 0] 54
    simpa using this
  have HT : Hid (Tab ((w.alloc (.cells #[.int .i64 R, .int .i64 C, .slice a n cap] 54)).alloc (.cells #[.int .i64 0, .int .i64 0, .slice none 0 0] 54)) a n cap l) := H.out.below B0
  generalize ((w.alloc (.cells #[.int .i64 R, .int .i64 C, .slice a n cap] 54)).alloc (.cells #[.int .i64 0, .int .i64 0, .slice none 0 0] 54)) = v at B0 G0 G1 HT ⊢
  have k0 : v.cell? ⟨w.heap.size, 0, none⟩ = some (.int .i64 R) := G0.cell 0
  have k1 : v.cell? ⟨w.heap.size, 1, none⟩ = some (.int .i64 C) := G0.cell 1
  have k2 : v.cell? ⟨w.heap.size, 2, none⟩ = some (.slice a n cap) := G0.cell 2
  have s0 := B0.size
  have z0 := G0.lt
  have z1 := G1.lt
  have HG0 : Hid (RowAt v w.heap.size #[.int .i64 R, .int .i64 C, .slice a n cap] 54) := G0
  have HG1 : Hid (RowAt v (w.heap.size + 1) #[.int .i64 0, .int .i64 0, .slice none 0 0] 54) := G1
  have HB0 : Hid (Below w.heap.size w v) := B0
  clear G0 G1 B0
  cases ok
  · have HNB : Hid (mergeB R C l r c d g = false) := by
      show mergeB R C l r c d g = false
      simp only [mergeB, HX.out, Bool.false_and]
    go_wp2_with (first | (go_at_call 67; refine (specTableOk_any R C a n cap l _ HT.out).mono ?_; rw [HX.out]; rintro e w1 ⟨rfl, hb1⟩; have HG2 : Hid (RowAt w1 (w.heap.size + 1) #[.int .i64 0, .int .i64 0, .slice none 0 0] 54) := HG1.out.below hb1 z1; have q0 := (hb1.cell (p := ⟨w.heap.size, 0, none⟩) z0).trans k0; have q1 := (hb1.cell (p := ⟨w.heap.size, 1, none⟩) z0).trans k1; have q2 := (hb1.cell (p := ⟨w.heap.size, 2, none⟩) z0).trans k2) | (refine wpList_store_row rfl 54 (.tmp 10) (.tmp 57) rfl (w.heap.size + 1) #[.int .i64 0, .int .i64 0, .slice none 0 0] rfl rfl 54 _ HG2.out tab_info rfl (cells3_one _ _ _ _ _) ?_))
    refine bodyPost_ret (v := .tuple #[.agg #[.int .i64 0, .int .i64 0, .slice none 0 0], .bool false]) ?_ rfl ⟨.inl ⟨HNB.out, rfl⟩, below_row (HB0.out.trans (hb1.mono s0)) (by omega) _⟩
    rw [results_cell_tmp rfl]
    simp [asAddr, Result.andThen, run_tabOf (RowAt.setRow HG2.out #[.int .i64 0, .int .i64 0, .slice none 0 0])]
  · have hg := gridP_of_okB HX.out
    obtain ⟨hR, hC, -, -⟩ := hg
    have hl25 : l.length ≤ 25 := (formB_of (show formB R C l = true by have := HX.out; simp only [okB, Bool.and_eq_true] at this; exact this.1)).2.2.1
    have HTL : Hid (∀ x ∈ l, x.2.2.2.2.length ≤ 24) := fun x hx => by
      obtain ⟨k, hk, e⟩ := List.getElem_of_mem hx
      have := (stepB_of ((gridP_of_okB HX.out).2.2.1 k hk)).2.2
      rw [show l.getD k cl0 = x by rw [← e]; simp [List.getD, hk]] at this
      simp only [textB, Bool.and_eq_true, decide_eq_true_eq] at this
      omega
    have HN : Hid (n = l.length) := H.out.1
    by_cases hc0 : 0 ≤ r ∧ r ≤ R - 1
    case neg =>
      have HS0 : Hid (decide (0 ≤ r ∧ r ≤ R - 1) = false) := decide_eq_false hc0
      have HNB : Hid (mergeB R C l r c d g = false) := by
        show mergeB R C l r c d g = false
        simp only [mergeB, bndB, HS0.out, Bool.false_and, Bool.and_false]
      go_wp2_with (first | (go_at_call 67; refine (specTableOk_any R C a n cap l _ HT.out).mono ?_; rw [HX.out]; rintro e w1 ⟨rfl, hb1⟩; have HG2 : Hid (RowAt w1 (w.heap.size + 1) #[.int .i64 0, .int .i64 0, .slice none 0 0] 54) := HG1.out.below hb1 z1; have q0 := (hb1.cell (p := ⟨w.heap.size, 0, none⟩) z0).trans k0; have q1 := (hb1.cell (p := ⟨w.heap.size, 1, none⟩) z0).trans k1; have q2 := (hb1.cell (p := ⟨w.heap.size, 2, none⟩) z0).trans k2) | (go_at_call_of 26 (Value.int IntKind.i64 r); refine (l6In_of HS0.out _).mono ?_; rintro e w9 ⟨rfl, hw9⟩; subst w9) | (refine wpList_store_row rfl 54 (.tmp 10) (.tmp 57) rfl (w.heap.size + 1) #[.int .i64 0, .int .i64 0, .slice none 0 0] rfl rfl 54 _ HG2.out tab_info rfl (cells3_one _ _ _ _ _) ?_))
      refine bodyPost_ret (v := .tuple #[.agg #[.int .i64 0, .int .i64 0, .slice none 0 0], .bool false]) ?_ rfl ⟨.inl ⟨HNB.out, rfl⟩, below_row (HB0.out.trans (hb1.mono s0)) (by omega) _⟩
      rw [results_cell_tmp rfl]
      simp [asAddr, Result.andThen, run_tabOf (RowAt.setRow HG2.out #[.int .i64 0, .int .i64 0, .slice none 0 0])]
    have HS0 : Hid (decide (0 ≤ r ∧ r ≤ R - 1) = true) := decide_eq_true hc0
    by_cases hc1 : 0 ≤ c ∧ c ≤ C - 1
    case neg =>
      have HS1 : Hid (decide (0 ≤ c ∧ c ≤ C - 1) = false) := decide_eq_false hc1
      have HNB : Hid (mergeB R C l r c d g = false) := by
        show mergeB R C l r c d g = false
        simp only [mergeB, bndB, HS1.out, Bool.false_and, Bool.and_false]
      go_wp2_with (first | (go_at_call 67; refine (specTableOk_any R C a n cap l _ HT.out).mono ?_; rw [HX.out]; rintro e w1 ⟨rfl, hb1⟩; have HG2 : Hid (RowAt w1 (w.heap.size + 1) #[.int .i64 0, .int .i64 0, .slice none 0 0] 54) := HG1.out.below hb1 z1; have q0 := (hb1.cell (p := ⟨w.heap.size, 0, none⟩) z0).trans k0; have q1 := (hb1.cell (p := ⟨w.heap.size, 1, none⟩) z0).trans k1; have q2 := (hb1.cell (p := ⟨w.heap.size, 2, none⟩) z0).trans k2) | (go_at_call_of 26 (Value.int IntKind.i64 r); refine (l6In_of HS0.out _).mono ?_; rintro e w9 ⟨rfl, hw9⟩; subst w9) | (go_at_call_of 26 (Value.int IntKind.i64 c); refine (l6In_of HS1.out _).mono ?_; rintro e w9 ⟨rfl, hw9⟩; subst w9) | (refine wpList_store_row rfl 54 (.tmp 10) (.tmp 57) rfl (w.heap.size + 1) #[.int .i64 0, .int .i64 0, .slice none 0 0] rfl rfl 54 _ HG2.out tab_info rfl (cells3_one _ _ _ _ _) ?_))
      refine bodyPost_ret (v := .tuple #[.agg #[.int .i64 0, .int .i64 0, .slice none 0 0], .bool false]) ?_ rfl ⟨.inl ⟨HNB.out, rfl⟩, below_row (HB0.out.trans (hb1.mono s0)) (by omega) _⟩
      rw [results_cell_tmp rfl]
      simp [asAddr, Result.andThen, run_tabOf (RowAt.setRow HG2.out #[.int .i64 0, .int .i64 0, .slice none 0 0])]
    have HS1 : Hid (decide (0 ≤ c ∧ c ≤ C - 1) = true) := decide_eq_true hc1
    by_cases hc2 : 1 ≤ d ∧ d ≤ R - r
    case neg =>
      have HS2 : Hid (decide (1 ≤ d ∧ d ≤ R - r) = false) := decide_eq_false hc2
      have HNB : Hid (mergeB R C l r c d g = false) := by
        show mergeB R C l r c d g = false
        simp only [mergeB, bndB, HS2.out, Bool.false_and, Bool.and_false]
      go_wp2_with (first | (go_at_call 67; refine (specTableOk_any R C a n cap l _ HT.out).mono ?_; rw [HX.out]; rintro e w1 ⟨rfl, hb1⟩; have HG2 : Hid (RowAt w1 (w.heap.size + 1) #[.int .i64 0, .int .i64 0, .slice none 0 0] 54) := HG1.out.below hb1 z1; have q0 := (hb1.cell (p := ⟨w.heap.size, 0, none⟩) z0).trans k0; have q1 := (hb1.cell (p := ⟨w.heap.size, 1, none⟩) z0).trans k1; have q2 := (hb1.cell (p := ⟨w.heap.size, 2, none⟩) z0).trans k2) | (go_at_call_of 26 (Value.int IntKind.i64 r); refine (l6In_of HS0.out _).mono ?_; rintro e w9 ⟨rfl, hw9⟩; subst w9) | (go_at_call_of 26 (Value.int IntKind.i64 c); refine (l6In_of HS1.out _).mono ?_; rintro e w9 ⟨rfl, hw9⟩; subst w9) | (go_at_call_of 26 (Value.int IntKind.i64 d); refine (l6In_of HS2.out _).mono ?_; rintro e w9 ⟨rfl, hw9⟩; subst w9) | (refine wpList_store_row rfl 54 (.tmp 10) (.tmp 57) rfl (w.heap.size + 1) #[.int .i64 0, .int .i64 0, .slice none 0 0] rfl rfl 54 _ HG2.out tab_info rfl (cells3_one _ _ _ _ _) ?_))
      refine bodyPost_ret (v := .tuple #[.agg #[.int .i64 0, .int .i64 0, .slice none 0 0], .bool false]) ?_ rfl ⟨.inl ⟨HNB.out, rfl⟩, below_row (HB0.out.trans (hb1.mono s0)) (by omega) _⟩
      rw [results_cell_tmp rfl]
      simp [asAddr, Result.andThen, run_tabOf (RowAt.setRow HG2.out #[.int .i64 0, .int .i64 0, .slice none 0 0])]
    have HS2 : Hid (decide (1 ≤ d ∧ d ≤ R - r) = true) := decide_eq_true hc2
    by_cases hc3 : 1 ≤ g ∧ g ≤ C - c
    case neg =>
      have HS3 : Hid (decide (1 ≤ g ∧ g ≤ C - c) = false) := decide_eq_false hc3
      have HNB : Hid (mergeB R C l r c d g = false) := by
        show mergeB R C l r c d g = false
        simp only [mergeB, bndB, HS3.out, Bool.false_and, Bool.and_false]
      go_wp2_with (first | (go_at_call 67; refine (specTableOk_any R C a n cap l _ HT.out).mono ?_; rw [HX.out]; rintro e w1 ⟨rfl, hb1⟩; have HG2 : Hid (RowAt w1 (w.heap.size + 1) #[.int .i64 0, .int .i64 0, .slice none 0 0] 54) := HG1.out.below hb1 z1; have q0 := (hb1.cell (p := ⟨w.heap.size, 0, none⟩) z0).trans k0; have q1 := (hb1.cell (p := ⟨w.heap.size, 1, none⟩) z0).trans k1; have q2 := (hb1.cell (p := ⟨w.heap.size, 2, none⟩) z0).trans k2) | (go_at_call_of 26 (Value.int IntKind.i64 r); refine (l6In_of HS0.out _).mono ?_; rintro e w9 ⟨rfl, hw9⟩; subst w9) | (go_at_call_of 26 (Value.int IntKind.i64 c); refine (l6In_of HS1.out _).mono ?_; rintro e w9 ⟨rfl, hw9⟩; subst w9) | (go_at_call_of 26 (Value.int IntKind.i64 d); refine (l6In_of HS2.out _).mono ?_; rintro e w9 ⟨rfl, hw9⟩; subst w9) | (go_at_call_of 26 (Value.int IntKind.i64 g); refine (l6In_of HS3.out _).mono ?_; rintro e w9 ⟨rfl, hw9⟩; subst w9) | (refine wpList_store_row rfl 54 (.tmp 10) (.tmp 57) rfl (w.heap.size + 1) #[.int .i64 0, .int .i64 0, .slice none 0 0] rfl rfl 54 _ HG2.out tab_info rfl (cells3_one _ _ _ _ _) ?_))
      refine bodyPost_ret (v := .tuple #[.agg #[.int .i64 0, .int .i64 0, .slice none 0 0], .bool false]) ?_ rfl ⟨.inl ⟨HNB.out, rfl⟩, below_row (HB0.out.trans (hb1.mono s0)) (by omega) _⟩
      rw [results_cell_tmp rfl]
      simp [asAddr, Result.andThen, run_tabOf (RowAt.setRow HG2.out #[.int .i64 0, .int .i64 0, .slice none 0 0])]
    have HS3 : Hid (decide (1 ≤ g ∧ g ≤ C - c) = true) := decide_eq_true hc3
    have HBD : Hid (bndB R C r c d g = true) := by
      show bndB R C r c d g = true
      simp only [bndB, HS0.out, HS1.out, HS2.out, HS3.out, Bool.and_self]
    obtain ⟨r, rfl⟩ : ∃ r' : Nat, r = r' := ⟨r.toNat, by omega⟩
    obtain ⟨c, rfl⟩ : ∃ c' : Nat, c = c' := ⟨c.toNat, by omega⟩
    obtain ⟨d, rfl⟩ : ∃ d' : Nat, d = d' := ⟨d.toNat, by omega⟩
    obtain ⟨g, rfl⟩ : ∃ g' : Nat, g = g' := ⟨g.toNat, by omega⟩
    go_upto_region 3 with (first | (go_at_call 67; refine (specTableOk_any R C a n cap l _ HT.out).mono ?_; rw [HX.out]; rintro e w1 ⟨rfl, hb1⟩; have HG2 : Hid (RowAt w1 (w.heap.size + 1) #[.int .i64 0, .int .i64 0, .slice none 0 0] 54) := HG1.out.below hb1 z1; have q0 := (hb1.cell (p := ⟨w.heap.size, 0, none⟩) z0).trans k0; have q1 := (hb1.cell (p := ⟨w.heap.size, 1, none⟩) z0).trans k1; have q2 := (hb1.cell (p := ⟨w.heap.size, 2, none⟩) z0).trans k2) | (go_at_call_of 26 (Value.int IntKind.i64 r); refine (l6In_of HS0.out _).mono ?_; rintro e w9 ⟨rfl, hw9⟩; subst w9) | (go_at_call_of 26 (Value.int IntKind.i64 c); refine (l6In_of HS1.out _).mono ?_; rintro e w9 ⟨rfl, hw9⟩; subst w9) | (go_at_call_of 26 (Value.int IntKind.i64 d); refine (l6In_of HS2.out _).mono ?_; rintro e w9 ⟨rfl, hw9⟩; subst w9) | (go_at_call_of 26 (Value.int IntKind.i64 g); refine (l6In_of HS3.out _).mono ?_; rintro e w9 ⟨rfl, hw9⟩; subst w9))
    clear k0 k1 k2
    have s1 := hb1.size
    have HT1 : Hid (Tab w1 a n cap l) := HT.out.below hb1
    go_upto_region 4 with fail
    have B1 : Below w1.heap.size w1 (w1.alloc (.cells #[.int .i64 r, .int .i64 c, .int .i64 d, .int .i64 g, .slice none 0 0] 86)) := (Below.refl _ _).alloc (Nat.le_refl _) _
    have RO1 : RowAt (w1.alloc (.cells #[.int .i64 r, .int .i64 c, .int .i64 d, .int .i64 g, .slice none 0 0] 86)) w1.heap.size #[.int .i64 r, .int .i64 c, .int .i64 d, .int .i64 g, .slice none 0 0] 86 := rowAt_new w1 _ _
    have sz1 : (w1.alloc (.cells #[.int .i64 r, .int .i64 c, .int .i64 d, .int .i64 g, .slice none 0 0] 86)).heap.size = w1.heap.size + 1 := by simp
    have HQ2 : Hid (w1.cell? ⟨w.heap.size, 2, none⟩ = some (.slice a n cap)) := q2
    generalize (w1.alloc (.cells #[.int .i64 r, .int .i64 c, .int .i64 d, .int .i64 g, .slice none 0 0] 86)) = v1 at B1 RO1 sz1 ⊢
    have p0 := (B1.cell (p := ⟨w.heap.size, 0, none⟩) (by show w.heap.size < w1.heap.size; omega)).trans q0
    have p1 := (B1.cell (p := ⟨w.heap.size, 1, none⟩) (by show w.heap.size < w1.heap.size; omega)).trans q1
    clear q0 q1 q2
    go_upto_region 5 with fail
    have B2 : Below w1.heap.size w1 (v1.alloc (.cells #[.int .i64 R, .int .i64 C, .slice none 0 0] 54)) := B1.alloc (by omega) _
    have RO : RowAt (v1.alloc (.cells #[.int .i64 R, .int .i64 C, .slice none 0 0] 54)) w1.heap.size #[.int .i64 r, .int .i64 c, .int .i64 d, .int .i64 g, .slice none 0 0] 86 := RO1.alloc _
    have RG : RowAt (v1.alloc (.cells #[.int .i64 R, .int .i64 C, .slice none 0 0] 54)) (w1.heap.size + 1) #[.int .i64 R, .int .i64 C, .slice none 0 0] 54 := by
      have := rowAt_new v1 #[.int .i64 R, .int .i64 C, .slice none 0 0] 54
      rw [sz1] at this
      exact this
    clear p0 p1 RO1 B1
    generalize (v1.alloc (.cells #[.int .i64 R, .int .i64 C, .slice none 0 0] 54)) = v2 at B2 RO RG ⊢
    have zO := RO.lt
    have zG := RG.lt
    go_wp2_with fail
    go_loopw [14, 15] (fun nv iv wr => ∃ (i : Nat) (a' : Option Addr) (m' c' : Nat) (rs : List Rw) (pa : Option Addr) (pn pc : Nat), i ≤ n ∧ iv = .int .i64 i ∧ nv = .int .i64 (mN r c d g (l.take i) : Nat) ∧ (∀ k, k < i → cutB r c d g (l.getD k cl0) = false) ∧ RowAt wr w1.heap.size #[.int .i64 r, .int .i64 c, .int .i64 d, .int .i64 g, .slice pa pn pc] 86 ∧ Own wr v2.heap.size (.slice pa pn pc) (mTx r c d g (l.take i)) ∧ RowAt wr (w1.heap.size + 1) #[.int .i64 R, .int .i64 C, .slice a' m' c'] 54 ∧ OwnR wr v2.heap.size (.slice a' m' c') rs ∧ TxtOwn wr v2.heap.size (Value.slice a' m' c').ownBlock rs (mOut r c d g (l.take i)) ∧ (∀ k, k < rs.length → ∀ b, (rwT (rs.getD k rw0)).ownBlock = some b → (Value.slice pa pn pc).ownBlock ≠ some b) ∧ Below w1.heap.size w1 wr ∧ v2.heap.size ≤ wr.heap.size) (fun _ iv _ => n - (intOf iv).toNat)
    case atStart => exact ⟨0, none, 0, 0, [], none, 0, 0, Nat.zero_le _, rfl, rfl, fun k hk => by omega, RO, World.ownsRow_nil _ _ _ _, RG, OwnR.nil _ _, TxtOwn.nil _ _ _, fun k hk => by simp at hk, B2, Nat.le_refl _⟩
    case round =>
      clear RO RG B2
      obtain ⟨i, a', m', c', rs, pa, pn, pc, hin, rfl, rfl, hcut, hO1, hTx, hG1, hOR, hTO, hdis, hb, hs⟩ := hrel
      have hmN : mN r c d g (l.take i) ≤ i := by have := mN_le r c d g (l.take i); simp only [List.length_take] at this; omega
      have hmO : (mOut r c d g (l.take i)).length ≤ i := by have := mOut_le r c d g (l.take i); simp only [List.length_take] at this; omega
      have HCut : Hid (∀ k, k < i → cutB r c d g (l.getD k cl0) = false) := hcut
      have hpn := hTx.len
      have hm'l := hOR.len
      have hrl := hTO.1
      have htl : (mTx r c d g (l.take i)).length ≤ 24 * 25 := by
        have h1 := mTx_le r c d g 24 (l.take i) (fun x hx => HTL.out x (List.mem_of_mem_take hx))
        have h2 : (l.take i).length ≤ 25 := by simp only [List.length_take]; omega
        have h3 : 24 * (l.take i).length ≤ 24 * 25 := Nat.mul_le_mul_left _ h2
        omega
      have HO1 : Hid (RowAt wr w1.heap.size #[.int .i64 r, .int .i64 c, .int .i64 d, .int .i64 g, .slice pa pn pc] 86) := hO1
      have HTx : Hid (Own wr v2.heap.size (.slice pa pn pc) (mTx r c d g (l.take i))) := hTx
      have HG1' : Hid (RowAt wr (w1.heap.size + 1) #[.int .i64 R, .int .i64 C, .slice a' m' c'] 54) := hG1
      have HOR : Hid (OwnR wr v2.heap.size (.slice a' m' c') rs) := hOR
      have HTO : Hid (TxtOwn wr v2.heap.size (Value.slice a' m' c').ownBlock rs (mOut r c d g (l.take i))) := hTO
      have HDis : Hid (∀ k, k < rs.length → ∀ b, (rwT (rs.getD k rw0)).ownBlock = some b → (Value.slice pa pn pc).ownBlock ≠ some b) := hdis
      have HB : Hid (Below w1.heap.size w1 wr) := hb
      have hpn6 : pn ≤ 600 := by omega
      have hm25 : m' ≤ 25 := by have := HN.out; omega
      have hcap := hOR.rws.2.1
      have hcm := hOR.rws.2.2.1
      unfold maxLen at hcm
      have k2 : wr.cell? ⟨w.heap.size, 2, none⟩ = some (.slice a n cap) := (hb.cell (p := ⟨w.heap.size, 2, none⟩) (by show w.heap.size < w1.heap.size; omega)).trans HQ2.out
      have htb := HT1.out.below hb
      have HTB : Hid (Tab wr a n cap l) := htb
      have hc1 := htb.2.1
      have hc2 := htb.2.2.1
      unfold maxLen at hc2
      obtain ⟨nN, HNn⟩ : ∃ q, Hid (mN r c d g (l.take i) = q) := ⟨_, rfl⟩
      rw [HNn.out] at hmN ⊢
      clear hcut hO1 hTx hG1 hOR hTO hdis hb hpn hm'l hrl htl hmO htb
      by_cases hlt : i < n
      · have hil : i < l.length := by rw [← HN.out]; exact hlt
        rcases HTB.out.2.2.2 with e | ⟨b, off, rfl, hbw, hcl⟩
        · rw [e] at hil
          exact absurd hil (by simp)
        obtain ⟨c0, c1, c2, c3, ta, tn, tc, c4, htx⟩ := hcl i hil
        have hwi := wiB_of (stepB_of ((gridP_of_okB HX.out).2.2.1 i hil)).1
        have htl := HTL.out (l.getD i cl0) (by simp [List.getD, hil])
        obtain ⟨⟨xr, xc, xd, xg, tx⟩, hx⟩ : ∃ x, x = l.getD i cl0 := ⟨_, rfl⟩
        have HXx : Hid (l.getD i cl0 = (xr, xc, xd, xg, tx)) := hx.symm
        rw [← hx] at c0 c1 c2 c3 htx hwi htl
        simp only at c0 c1 c2 c3 htx hwi htl
        obtain ⟨xr, rfl⟩ : ∃ q : Nat, xr = q := ⟨xr.toNat, by omega⟩
        obtain ⟨xc, rfl⟩ : ∃ q : Nat, xc = q := ⟨xc.toNat, by omega⟩
        obtain ⟨xd, rfl⟩ : ∃ q : Nat, xd = q := ⟨xd.toNat, by omega⟩
        obtain ⟨xg, rfl⟩ : ∃ q : Nat, xg = q := ⟨xg.toNat, by omega⟩
        have HTN : Hid (tn = tx.length) := htx.1
        have htn24 : tn ≤ 24 := by rw [htx.1]; omega
        have HTT : Hid (Txt wr ta tn tc tx) := htx
        clear hx hcl htx
        go_upto_region 10 with fail
        have bA : Below wr.heap.size wr (wr.alloc (.cells #[.int .i64 xr, .int .i64 xc, .int .i64 xd, .int .i64 xg, .slice ta tn tc] 86)) := (Below.refl _ _).alloc (Nat.le_refl _) _
        have RA : RowAt (wr.alloc (.cells #[.int .i64 xr, .int .i64 xc, .int .i64 xd, .int .i64 xg, .slice ta tn tc] 86)) wr.heap.size #[.int .i64 xr, .int .i64 xc, .int .i64 xd, .int .i64 xg, .slice ta tn tc] 86 := rowAt_new _ _ _
        generalize (wr.alloc (.cells #[.int .i64 xr, .int .i64 xc, .int .i64 xd, .int .i64 xg, .slice ta tn tc] 86)) = w3 at bA RA ⊢
        have s3 := bA.size
        obtain ⟨S, hSe⟩ : ∃ S, wr.heap.size = S := ⟨_, rfl⟩
        have zS : wr.heap.size < w3.heap.size := RA.lt
        have HRA : Hid (RowAt w3 S #[.int .i64 xr, .int .i64 xc, .int .i64 xd, .int .i64 xg, .slice ta tn tc] 86) := by rw [← hSe]; exact RA
        have HO3 : Hid (RowAt w3 w1.heap.size #[.int .i64 r, .int .i64 c, .int .i64 d, .int .i64 g, .slice pa pn pc] 86) := HO1.out.below bA (by omega)
        have HTx3 : Hid (Own w3 v2.heap.size (.slice pa pn pc) (mTx r c d g (l.take i))) := Own.below HTx.out bA
        have HG3 : Hid (RowAt w3 (w1.heap.size + 1) #[.int .i64 R, .int .i64 C, .slice a' m' c'] 54) := HG1'.out.below bA (by omega)
        have HOR3 : Hid (OwnR w3 v2.heap.size (.slice a' m' c') rs) := HOR.out.below bA
        have HTO3 : Hid (TxtOwn w3 v2.heap.size (Value.slice a' m' c').ownBlock rs (mOut r c d g (l.take i))) := HTO.out.below bA
        have HTT3 : Hid (Txt w3 ta tn tc tx) := HTT.out.below bA
        have HB3 : Hid (Below w1.heap.size w1 w3) := HB.out.trans (bA.mono (by omega))
        have HLT : Hid (∀ k, k < rs.length → ∀ q, (rwT (rs.getD k rw0)).ownBlock = some q → q < S) := fun k hk q hq => by rw [← hSe]; exact HTO.out.blockLt k hk q hq
        have HPL : Hid (∀ q, (Value.slice pa pn pc).ownBlock = some q → q < S) := fun q hq => by rw [← hSe]; exact (own_lt HTx.out.row hq).2
        have HAL : Hid (∀ q, (Value.slice a' m' c').ownBlock = some q → q < S) := fun q hq => by rw [← hSe]; exact (own_lt HOR.out.row hq).2
        have y0 : w3.cell? ⟨wr.heap.size, 0, none⟩ = some (.int .i64 xr) := RA.cell 0
        rw [hSe] at y0 zS hs ⊢
        clear bA RA c0 c1 c2 c3 c4 k2 HO1 HTx HG1' HOR HTO HTT HB hSe
        go_wp2_with fail
        clear y0
        go_loopw [17, 18] (fun sv av wr => ∃ k : Nat, k ≤ xd ∧ av = .int .i64 ((xr : Int) + (k : Int)) ∧ sv = .int .i64 ((cntI xr k r d * cntI xc xg c g : Nat) : Int) ∧ Below w3.heap.size w3 wr) (fun _ av _ => xr + xd - (intOf av).toNat)
        case atStart => exact ⟨0, Nat.zero_le _, by simp, by rw [cntI_zero, Nat.zero_mul]; rfl, Below.refl _ _⟩
        case round =>
          obtain ⟨k, hk, rfl, rfl, hbk⟩ := hrel
          have HBk : Hid (Below w3.heap.size w3 wr) := hbk
          have u0 : wr.cell? ⟨S, 0, none⟩ = some (.int .i64 xr) := (HRA.out.below hbk zS).cell 0
          have u1 : wr.cell? ⟨S, 1, none⟩ = some (.int .i64 xc) := (HRA.out.below hbk zS).cell 1
          have u2 : wr.cell? ⟨S, 2, none⟩ = some (.int .i64 xd) := (HRA.out.below hbk zS).cell 2
          have u3 : wr.cell? ⟨S, 3, none⟩ = some (.int .i64 xg) := (HRA.out.below hbk zS).cell 3
          have hq1 := cntI_le xr k r d
          have hq2 := cntI_le xc xg c g
          have hq3 : cntI xr k r d * cntI xc xg c g ≤ 5 * 5 := Nat.mul_le_mul (by omega) (by omega)
          obtain ⟨A, HA⟩ : ∃ A, Hid (cntI xr k r d * cntI xc xg c g = A) := ⟨_, rfl⟩
          rw [HA.out] at hq3 ⊢
          clear hbk hq1 hq2
          by_cases hkd : k < xd
          · go_wp2_with fail
            go_loopw [17, 19] (fun sv bv wr => ∃ j A' : Nat, j ≤ xg ∧ bv = .int .i64 ((xc : Int) + (j : Int)) ∧ sv = .int .i64 (A' : Nat) ∧ Hid (A' = A + (if r ≤ xr + k ∧ xr + k < r + d then cntI xc j c g else 0)) ∧ Below w3.heap.size w3 wr) (fun _ bv _ => xc + xg - (intOf bv).toNat)
            case atStart => exact ⟨0, A, Nat.zero_le _, by simp, rfl, by show A = _; rw [cntI_zero]; split <;> rfl, HBk.out⟩
            case round =>
              clear HBk u0 u1 u2 u3
              obtain ⟨j, A', hj, rfl, rfl, HA', hbj⟩ := hrel
              have HBj : Hid (Below w3.heap.size w3 wr) := hbj
              have u1 : wr.cell? ⟨S, 1, none⟩ = some (.int .i64 xc) := (HRA.out.below hbj zS).cell 1
              have u3 : wr.cell? ⟨S, 3, none⟩ = some (.int .i64 xg) := (HRA.out.below hbj zS).cell 3
              have o0 : wr.cell? ⟨w1.heap.size, 0, none⟩ = some (.int .i64 r) := (HO3.out.below hbj (by omega)).cell 0
              have o1 : wr.cell? ⟨w1.heap.size, 1, none⟩ = some (.int .i64 c) := (HO3.out.below hbj (by omega)).cell 1
              have o2 : wr.cell? ⟨w1.heap.size, 2, none⟩ = some (.int .i64 d) := (HO3.out.below hbj (by omega)).cell 2
              have o3 : wr.cell? ⟨w1.heap.size, 3, none⟩ = some (.int .i64 g) := (HO3.out.below hbj (by omega)).cell 3
              have o4 : wr.cell? ⟨w1.heap.size, 4, none⟩ = some (.slice pa pn pc) := (HO3.out.below hbj (by omega)).cell 4
              have sj := hbj.size
              have hA50 : A' ≤ 50 := by
                have e := HA'.out
                have := cntI_le xc j c g
                split at e <;> omega
              clear hbj
              by_cases hjg : j < xg
              · obtain ⟨q, HQ⟩ : ∃ q, Hid (inB ((r : Int), (c : Int), (d : Int), (g : Int), []) ((xr : Int) + k) ((xc : Int) + j) = q) := ⟨_, rfl⟩
                have hQd : q = decide ((r ≤ xr + k ∧ xr + k < r + d) ∧ (c ≤ xc + j ∧ xc + j < c + g)) := by
                  rw [← HQ.out]
                  unfold inB
                  exact decide_eq_decide.2 (by simp only; omega)
                have HQd : Hid (q = decide ((r ≤ xr + k ∧ xr + k < r + d) ∧ (c ≤ xc + j ∧ xc + j < c + g))) := hQd
                clear hQd
                cases q
                · go_wp2_with (go_at_call 83; refine (l2In_any r c d g pa pn pc _ _ _ ⟨by omega, by omega⟩ ⟨by omega, by omega⟩ ⟨by omega, by omega⟩ ⟨by omega, by omega⟩).mono ?_; rw [HQ.out]; rintro e w9 ⟨rfl, hb9⟩)
                  go_roundw
                  case rel =>
                    refine ⟨j + 1, A', by omega, ?_, rfl, ?_, HBj.out.trans (hb9.mono sj)⟩
                    · congr 1 <;> omega
                    · show A' = _
                      have hno := of_decide_eq_false HQd.out.symm
                      rw [HA'.out, cntI_succ]
                      by_cases h1 : r ≤ xr + k ∧ xr + k < r + d
                      · rw [if_pos h1, if_pos h1, if_neg (fun h2 => hno ⟨h1, h2⟩), Nat.add_zero]
                      · rw [if_neg h1, if_neg h1]
                  case measure => simp [intOf]; omega
                · go_wp2_with (go_at_call 83; refine (l2In_any r c d g pa pn pc _ _ _ ⟨by omega, by omega⟩ ⟨by omega, by omega⟩ ⟨by omega, by omega⟩ ⟨by omega, by omega⟩).mono ?_; rw [HQ.out]; rintro e w9 ⟨rfl, hb9⟩)
                  go_roundw
                  case rel =>
                    refine ⟨j + 1, A' + 1, by omega, ?_, ?_, ?_, HBj.out.trans (hb9.mono sj)⟩
                    · congr 1 <;> omega
                    · congr 1
                    · show A' + 1 = _
                      have hyes := of_decide_eq_true HQd.out.symm
                      rw [HA'.out, cntI_succ, if_pos hyes.1, if_pos hyes.1, if_pos hyes.2]
                      omega
                  case measure => simp [intOf]; omega
              · have ej : j = xg := by omega
                go_wp2_with fail
                go_roundw
                case rel =>
                  refine ⟨k + 1, by omega, ?_, ?_, HBj.out⟩
                  · congr 1 <;> omega
                  · have e1 := HA'.out
                    rw [ej] at e1
                    have e2 := HA.out
                    rw [cntI_succ, Nat.add_mul, e2, e1]
                    congr 2
                    split <;> simp
                case measure => simp [intOf]; omega
          · have ek : k = xd := by omega
            subst ek
            have HSQ : Hid (sqN r c d g (l.getD i cl0) = A) := by
              show sqN r c d g (l.getD i cl0) = A
              rw [HXx.out]
              unfold sqN
              simp only [Int.toNat_natCast]
              exact HA.out
            have sk := HBk.out.size
            have HRA4 : Hid (RowAt wr S #[.int .i64 xr, .int .i64 xc, .int .i64 k, .int .i64 xg, .slice ta tn tc] 86) := HRA.out.below HBk.out zS
            have HO4 : Hid (RowAt wr w1.heap.size #[.int .i64 r, .int .i64 c, .int .i64 d, .int .i64 g, .slice pa pn pc] 86) := HO3.out.below HBk.out (by omega)
            have HTx4 : Hid (Own wr v2.heap.size (.slice pa pn pc) (mTx r c d g (l.take i))) := Own.below HTx3.out HBk.out
            have HG4 : Hid (RowAt wr (w1.heap.size + 1) #[.int .i64 R, .int .i64 C, .slice a' m' c'] 54) := HG3.out.below HBk.out (by omega)
            have HOR4 : Hid (OwnR wr v2.heap.size (.slice a' m' c') rs) := HOR3.out.below HBk.out
            have HTO4 : Hid (TxtOwn wr v2.heap.size (Value.slice a' m' c').ownBlock rs (mOut r c d g (l.take i))) := HTO3.out.below HBk.out
            have HTT4 : Hid (Txt wr ta tn tc tx) := HTT3.out.below HBk.out
            have HB4 : Hid (Below w1.heap.size w1 wr) := HB3.out.trans (HBk.out.mono (by omega))
            have hSw : S < wr.heap.size := HRA4.out.lt
            have hOw : w1.heap.size < wr.heap.size := HO4.out.lt
            clear HRA HO3 HTx3 HG3 HOR3 HTO3 HTT3 HB3 HBk HA
            by_cases hA0 : A = 0
            · have HO0 : Hid (outsB r c d g (l.getD i cl0) = true) := decide_eq_true (by rw [HSQ.out]; exact hA0)
              have HF0 : Hid (fullB r c d g (l.getD i cl0) = false) := decide_eq_false (by rw [HSQ.out]; omega)
              have d4 : wr.cell? ⟨S, 4, none⟩ = some (.slice ta tn tc) := HRA4.out.cell 4
              subst hA0
              go_upto_region 23 with (at_builtin; refine wpList_append_txt rfl (.tmp 112) (.tmp 114) rfl wr.heap.size (.slice (some ⟨wr.heap.size, 0, none⟩) 0 0) 0 [] rfl (World.ownsRow_lit wr #[] 0 (Nat.le_refl _) (by unfold maxLen; omega) rfl) ta tn tc tx rfl (HTT4.out.below ((Below.refl _ _).alloc (Nat.le_refl _) _)) (by omega) (by simp) ?_; intro v' w5 hown hgrow; obtain ⟨p, q, rfl, -⟩ := Own.shape (show Own w5 wr.heap.size v' tx by (rw [Nat.zero_add, List.nil_append, HTN.out] at hown; exact hown)); have R5 := RowAt.grown (HRA4.out.alloc _) hgrow (by simp [Value.ownBlock]; omega); have f4 : w5.cell? ⟨S, 4, none⟩ = some (.slice ta tn tc) := R5.cell 4; have f5 := R5.frozen 4)
              have hO5 : Own w5 wr.heap.size (.slice p tx.length q) tx := by
                rw [Nat.zero_add, List.nil_append, HTN.out] at hown
                exact hown
              have b5 : Below wr.heap.size wr w5 := ((Below.refl _ _).alloc (Nat.le_refl _) _).grown hgrow (by simp) (fun k hk => by simp [Value.ownBlock] at hk; omega)
              have s5 := b5.size
              have R6 := R5.setCell 4 (.slice p tx.length q)
              have O6 : Own (w5.setCell ⟨S, 4, none⟩ (.slice p tx.length q)) wr.heap.size (.slice p tx.length q) tx := own_set hO5 _ _ (fun e => by have := (own_lt hO5.row e).1; simp at this; omega)
              have HO6 : Hid (RowAt (w5.setCell ⟨S, 4, none⟩ (.slice p tx.length q)) w1.heap.size #[.int .i64 r, .int .i64 c, .int .i64 d, .int .i64 g, .slice pa pn pc] 86) := (HO4.out.below b5 (by omega)).other _ _ (by show w1.heap.size ≠ S; omega)
              have HTx6 : Hid (Own (w5.setCell ⟨S, 4, none⟩ (.slice p tx.length q)) v2.heap.size (.slice pa pn pc) (mTx r c d g (l.take i))) := own_set (own_below HTx4.out b5) _ _ (fun e => by have := HPL.out _ e; simp at this)
              have HG6 : Hid (RowAt (w5.setCell ⟨S, 4, none⟩ (.slice p tx.length q)) (w1.heap.size + 1) #[.int .i64 R, .int .i64 C, .slice a' m' c'] 54) := (HG4.out.below b5 (by omega)).other _ _ (by show w1.heap.size + 1 ≠ S; omega)
              have HOR6 : Hid (OwnR (w5.setCell ⟨S, 4, none⟩ (.slice p tx.length q)) v2.heap.size (.slice a' m' c') rs) := own_set (own_below HOR4.out b5) _ _ (fun e => by have := HAL.out _ e; simp at this)
              have HTO6 : Hid (TxtOwn (w5.setCell ⟨S, 4, none⟩ (.slice p tx.length q)) v2.heap.size (Value.slice a' m' c').ownBlock rs (mOut r c d g (l.take i))) := by
                have t5 := HTO4.out.below b5
                exact ⟨t5.1, fun k' hk' => by
                  obtain ⟨h0, h1, h2, h3, h4⟩ := t5.2.1 k' hk'
                  exact ⟨h0, h1, h2, h3, own_set h4 _ _ (fun e => by have := HLT.out k' hk' _ e; simp at this)⟩, t5.2.2⟩
              have HB6 : Hid (Below w1.heap.size w1 (w5.setCell ⟨S, 4, none⟩ (.slice p tx.length q))) := (HB4.out.trans (b5.mono (by omega))).setCell (p := ⟨S, 4, none⟩) (by show w1.heap.size ≤ S; omega) _
              have sz6 : w5.heap.size ≤ (w5.setCell ⟨S, 4, none⟩ (.slice p tx.length q)).heap.size := by simp [World.setCell]
              clear f4 f5 d4 hown hgrow R5 hO5 HO4 HTx4 HG4 HOR4 HTO4 HB4 b5
              generalize (w5.setCell ⟨S, 4, none⟩ (.slice p tx.length q)) = w6 at R6 O6 HO6 HTx6 HG6 HOR6 HTO6 HB6 sz6 ⊢
              have e0 : w6.cell? ⟨S, 0, none⟩ = some (.int .i64 xr) := R6.cell 0
              have e1 : w6.cell? ⟨S, 1, none⟩ = some (.int .i64 xc) := R6.cell 1
              have e2 : w6.cell? ⟨S, 2, none⟩ = some (.int .i64 k) := R6.cell 2
              have e3 : w6.cell? ⟨S, 3, none⟩ = some (.int .i64 xg) := R6.cell 3
              have e4 : w6.cell? ⟨S, 4, none⟩ = some (.slice p tx.length q) := R6.cell 4
              have t2 : w6.cell? ⟨w1.heap.size + 1, 2, none⟩ = some (.slice a' m' c') := HG6.out.cell 2
              have HOw : Hid (Own w6 wr.heap.size (.slice p tx.length q) tx) := O6
              clear R6 O6 u0 u1 u2 u3
              go_wp2_with (at_builtin; refine wpList_append_own _ rfl (.tmp 118) (.tmp 120) 52 rfl v2.heap.size 86 i0 _ 5 56 Tryz.underlying52 hi hz0 hz1 hz2 rfl (by decide) (.slice a' m' c') _ _ rfl (HOR6.out.row.alloc _) ⟨w6.heap.size, 0, none⟩ 1 1 [.int .i64 xr, .int .i64 xc, .int .i64 k, .int .i64 xg, .slice p tx.length q] rfl rfl (cell_five_new _ _ _ _ _ _ _) (five_oneCell _ _ _ _ _ _ _) (by unfold maxLen; omega) (by omega) (by simp; omega) ?_; intro v' w7 hown' hgrow _; obtain ⟨a5, c5, rfl, ho5, hb5⟩ := ownR_step (B := v2.heap.size) (w := w6) (s := ((xr : Int), (xc : Int), (k : Int), (xg : Int), p, tx.length, q)) HOR6.out (Below.refl _ _) (by omega) hown' hgrow; have R5 := RowAt.grown (HG6.out.alloc _) hgrow (fun e => by have := (own_lt HOR6.out.row e).1; omega); have q2 : w7.cell? ⟨w1.heap.size + 1, 2, none⟩ = some (.slice a' m' c') := R5.cell 2; have q3 := R5.frozen 2)
              go_roundw
              case rel =>
                have s7 := hgrow.size
                simp at s7
                have tO : Own w7 v2.heap.size (.slice p tx.length q) tx := own_grown (Own.alloc (own_less HOw.out (by omega)) _) hgrow (fun b' hb' => own_kinds HOR6.out HOw.out (by decide) b' hb')
                have t5 : TxtOwn w7 v2.heap.size (Value.slice a' m' c').ownBlock rs (mOut r c d g (l.take i)) := (HTO6.out.below ((Below.refl _ _).alloc (Nat.le_refl _) _)).grown hgrow (fun k' hk' b' hb' => HTO6.out.2.2.1 k' hk' b' hb')
                have hge : ∀ b', (Value.slice p tx.length q).ownBlock = some b' → wr.heap.size ≤ b' := fun b' hb' => (own_lt HOw.out.row hb').1
                have t6 := t5.snocD (x := ((xr : Int), (xc : Int), (k : Int), (xg : Int), p, tx.length, q)) (y := ((xr : Int), (xc : Int), (k : Int), (xg : Int), tx)) ⟨rfl, rfl, rfl, rfl, tO⟩ (fun b' hb' => own_kinds HOR6.out HOw.out (by decide) b' hb') (fun k' hk' b' hb' e => by have h1 := HLT.out k' hk' b' hb'; have h2 := hge b' e; omega)
                have B7 : Below w1.heap.size w1 w7 := ((HB6.out).alloc (by omega) _).grown hgrow (by simp; omega) (fun k' hk' => by have := (own_lt HOR6.out.row hk').1; omega)
                have hneG : (Value.slice a5 (m' + 1) c5).ownBlock ≠ some (w1.heap.size + 1) := fun e => by have := (own_lt ho5.row e).1; omega
                have eO : mOut r c d g (l.take (i + 1)) = mOut r c d g (l.take i) ++ [((xr : Int), (xc : Int), (k : Int), (xg : Int), tx)] := by rw [mOut_take r c d g l i hil, if_pos HO0.out, HXx.out]
                have eT : mTx r c d g (l.take (i + 1)) = mTx r c d g (l.take i) := by rw [mTx_take r c d g l i hil, HF0.out]; simp
                have eN : mN r c d g (l.take (i + 1)) = nN := by rw [mN_take r c d g l i hil, HF0.out, HNn.out]; simp
                have hX7 := own_grown (Own.alloc HTx6.out _) hgrow (fun b' hb' => own_kinds HOR6.out HTx6.out (by decide) b' hb')
                refine ⟨i + 1, a5, m' + 1, c5, rs ++ [((xr : Int), (xc : Int), (k : Int), (xg : Int), p, tx.length, q)], pa, pn, pc, by omega, by go_num, by rw [eN], ?_, (RowAt.grown (HO6.out.alloc _) hgrow (fun e => by have := (own_lt HOR6.out.row e).1; omega)).other _ _ (by show w1.heap.size ≠ w1.heap.size + 1; omega), ?_, R5.setCell 2 (.slice a5 (m' + 1) c5), own_set ho5 _ _ hneG, ?_, ?_, B7.setCell (p := ⟨w1.heap.size + 1, 2, none⟩) (by show w1.heap.size ≤ w1.heap.size + 1; omega) _, by simp [World.setCell]; omega⟩
                · intro k' hk'
                  by_cases e : k' = i
                  · subst e
                    unfold cutB
                    rw [HO0.out]
                    rfl
                  · exact HCut.out k' (by omega)
                · rw [eT]
                  exact own_set hX7 _ _ (fun e => by have := (own_lt hX7 e).1; simp at this; omega)
                · rw [eO]
                  exact (t6.anew ho5).setLow _ _ (by show w1.heap.size + 1 < v2.heap.size; omega)
                · intro k' hk' b' hb'
                  by_cases hkl : k' < rs.length
                  · rw [getD_snoc_lt _ _ _ _ hkl] at hb'
                    exact HDis.out k' hkl b' hb'
                  · have hk'' : k' = rs.length := by simp at hk'; omega
                    rw [getD_snoc_eq _ _ _ _ hk''] at hb'
                    intro e
                    have h1 := hge b' hb'
                    have h2 := HPL.out b' e
                    omega
              case measure => simp [intOf]; omega
            have hA0' : ((A : Int) == 0) = false := by simp; omega
            have hPle : k * xg ≤ 5 * 5 := Nat.mul_le_mul (by omega) (by omega)
            obtain ⟨P, HP⟩ : ∃ P, Hid (k * xg = P) := ⟨_, rfl⟩
            have hPI : (k : Int) * (xg : Int) = (P : Int) := by rw [← HP.out]; exact (Int.natCast_mul k xg).symm
            rw [HP.out] at hPle
            by_cases hAf : A = P
            · have HO0 : Hid (outsB r c d g (l.getD i cl0) = false) := decide_eq_false (by rw [HSQ.out]; exact hA0)
              have HF0 : Hid (fullB r c d g (l.getD i cl0) = true) := decide_eq_true (by
                rw [HSQ.out, HXx.out]
                simp only [Int.toNat_natCast]
                exact ⟨hA0, by rw [HP.out]; exact hAf⟩)
              have hAP : ((A : Int) == (P : Int)) = true := by simp [hAf]
              have d4 : wr.cell? ⟨S, 4, none⟩ = some (.slice ta tn tc) := HRA4.out.cell 4
              have o4 : wr.cell? ⟨w1.heap.size, 4, none⟩ = some (.slice pa pn pc) := HO4.out.cell 4
              clear hAf hA0
              go_wp2_with (at_builtin; refine wpList_append_txtL rfl (.tmp 131) (.tmp 133) rfl v2.heap.size (.slice pa pn pc) pn _ rfl HTx4.out.row ta tn tc tx rfl HTT4.out (by omega) (by omega) ?_; intro v' w5 hown hgrow hlie; obtain ⟨p, q, rfl⟩ := Own.shapeN (n := pn + tn) (show Own w5 v2.heap.size v' (mTx r c d g (l.take i) ++ tx) by (unfold Own; rw [flat_append, List.length_append, ← HTx4.out.len, ← HTN.out]; exact hown)) (by rw [List.length_append, ← HTx4.out.len, ← HTN.out]); have R5 := RowAt.grown HO4.out hgrow (fun e => by have := (own_lt HTx4.out.row e).1; omega); have f4 : w5.cell? ⟨w1.heap.size, 4, none⟩ = some (.slice pa pn pc) := R5.cell 4; have f5 := R5.frozen 4)
              go_roundw
              case rel =>
                have hOn : Own w5 v2.heap.size (.slice p (pn + tn) q) (mTx r c d g (l.take i) ++ tx) := by
                  unfold Own
                  rw [flat_append, List.length_append, ← HTx4.out.len, ← HTN.out]
                  exact hown
                have eO : mOut r c d g (l.take (i + 1)) = mOut r c d g (l.take i) := by rw [mOut_take r c d g l i hil, HO0.out]; simp
                have eT : mTx r c d g (l.take (i + 1)) = mTx r c d g (l.take i) ++ tx := by rw [mTx_take r c d g l i hil, if_pos HF0.out, HXx.out]
                have eN : mN r c d g (l.take (i + 1)) = nN + 1 := by rw [mN_take r c d g l i hil, if_pos HF0.out, HNn.out]
                have s5 := hgrow.size
                refine ⟨i + 1, a', m', c', rs, p, pn + tn, q, by omega, by go_num, by rw [eN]; go_num, ?_, R5.setCell 4 (.slice p (pn + tn) q), ?_, (RowAt.grown HG4.out hgrow (fun e => by have := (own_lt HTx4.out.row e).1; omega)).other _ _ (by show w1.heap.size + 1 ≠ w1.heap.size; omega), ?_, ?_, ?_, (HB4.out.grown hgrow (by omega) (fun k' hk' => by have := (own_lt HTx4.out.row hk').1; omega)).setCell (p := ⟨w1.heap.size, 4, none⟩) (Nat.le_refl _) _, by simp [World.setCell]; omega⟩
                · intro k' hk'
                  by_cases e : k' = i
                  · subst e
                    unfold cutB
                    rw [HF0.out]
                    simp
                  · exact HCut.out k' (by omega)
                · rw [eT]
                  exact own_set hOn _ _ (fun e => by have := (own_lt hOn.row e).1; simp at this; omega)
                · have h6 := own_grown HOR4.out hgrow (own_kinds HTx4.out.row HOR4.out (by decide))
                  exact own_set h6 _ _ (fun e => by have := (own_lt h6 e).1; simp at this; omega)
                · rw [eO]
                  exact (HTO4.out.grown hgrow (fun k' hk' b' hb' => HDis.out k' hk' b' hb')).setLow _ _ (by show w1.heap.size < v2.heap.size; omega)
                · intro k' hk' b' hb' e
                  rcases hlie b' e with h1 | h1
                  · exact HDis.out k' hk' b' hb' h1
                  · have := HLT.out k' hk' b' hb'
                    omega
              case measure => simp [intOf]; omega
            · have hAP : ((A : Int) == (P : Int)) = false := by simp; omega
              have HNB : Hid (mergeB R C l r c d g = false) := by
                show mergeB R C l r c d g = false
                have hc : cutB r c d g (l.getD i cl0) = true := by
                  unfold cutB outsB fullB
                  rw [HSQ.out, HXx.out]
                  simp only [Int.toNat_natCast, HP.out]
                  rw [decide_eq_false hA0, decide_eq_false (fun hh => hAf hh.2)]
                  rfl
                have hall : (l.all (fun x => !cutB r c d g x)) = false := by
                  rw [← Bool.not_eq_true, List.all_eq_true]
                  intro hh
                  have := hh _ (show l.getD i cl0 ∈ l by simp [List.getD, hil])
                  rw [hc] at this
                  exact absurd this (by simp)
                simp only [mergeB, Int.toNat_natCast, hall, Bool.and_false, Bool.false_and]
              have HG5 : Hid (RowAt wr (w.heap.size + 1) #[.int .i64 0, .int .i64 0, .slice none 0 0] 54) := HG2.out.below HB4.out (by omega)
              clear hAf hA0
              go_wp2_with (refine wpList_store_row rfl 54 (.tmp 10) (.tmp 109) rfl (w.heap.size + 1) #[.int .i64 0, .int .i64 0, .slice none 0 0] rfl rfl 54 _ HG5.out tab_info rfl (cells3_one _ _ _ _ _) ?_)
              refine bodyPost_ret (v := .tuple #[.agg #[.int .i64 0, .int .i64 0, .slice none 0 0], .bool false]) ?_ rfl ⟨.inl ⟨HNB.out, rfl⟩, below_row ((HB0.out.trans (hb1.mono s0)).trans (HB4.out.mono (by omega))) (by omega) _⟩
              rw [results_cell_tmp rfl]
              simp [asAddr, Result.andThen, run_tabOf (RowAt.setRow HG5.out #[.int .i64 0, .int .i64 0, .slice none 0 0])]
      · have ei : i = n := by omega
        have hlen : l.length ≤ i := by have := HN.out; omega
        have htake : l.take i = l := List.take_of_length_le hlen
        have HCA : Hid (l.all (fun x => !cutB r c d g x) = true) := by
          show l.all (fun x => !cutB r c d g x) = true
          rw [List.all_eq_true]
          intro x hx
          obtain ⟨k, hk, e⟩ := List.getElem_of_mem hx
          have := HCut.out k (by omega)
          rw [show l.getD k cl0 = x by rw [← e]; simp [List.getD, hk]] at this
          rw [this]
          rfl
        rw [htake] at HTx HTO HNn
        have HG5 : Hid (RowAt wr (w.heap.size + 1) #[.int .i64 0, .int .i64 0, .slice none 0 0] 54) := HG2.out.below HB.out (by omega)
        have o4 : wr.cell? ⟨w1.heap.size, 4, none⟩ = some (.slice pa pn pc) := HO1.out.cell 4
        clear htake
        by_cases hn2 : nN < 2
        · have HNB : Hid (mergeB R C l r c d g = false) := by
            show mergeB R C l r c d g = false
            have : decide (2 ≤ mN r c d g l) = false := decide_eq_false (by rw [HNn.out]; omega)
            simp only [mergeB, Int.toNat_natCast, this, Bool.and_false, Bool.false_and]
          go_wp2_with (refine wpList_store_row rfl 54 (.tmp 10) (.tmp 146) rfl (w.heap.size + 1) #[.int .i64 0, .int .i64 0, .slice none 0 0] rfl rfl 54 _ HG5.out tab_info rfl (cells3_one _ _ _ _ _) ?_)
          refine bodyPost_ret (v := .tuple #[.agg #[.int .i64 0, .int .i64 0, .slice none 0 0], .bool false]) ?_ rfl ⟨.inl ⟨HNB.out, rfl⟩, below_row ((HB0.out.trans (hb1.mono s0)).trans (HB.out.mono (by omega))) (by omega) _⟩
          rw [results_cell_tmp rfl]
          simp [asAddr, Result.andThen, run_tabOf (RowAt.setRow HG5.out #[.int .i64 0, .int .i64 0, .slice none 0 0])]
        cases htb : textB (mTx r c d g l)
        · have HTb : Hid (textB (mTx r c d g l) = false) := htb
          have HNB : Hid (mergeB R C l r c d g = false) := by
            show mergeB R C l r c d g = false
            simp only [mergeB, Int.toNat_natCast, htb, Bool.and_false]
          clear htb
          go_wp2_with (first | (go_at_call 45; refine (specTextOk_is HTx.out.txt HTb.out).mono ?_; rintro e w6 ⟨rfl, hb6⟩; have HG6 : Hid (RowAt w6 (w.heap.size + 1) #[.int .i64 0, .int .i64 0, .slice none 0 0] 54) := HG5.out.below hb6 HG5.out.lt) | (refine wpList_store_row rfl 54 (.tmp 10) (.tmp 146) rfl (w.heap.size + 1) #[.int .i64 0, .int .i64 0, .slice none 0 0] rfl rfl 54 _ HG6.out tab_info rfl (cells3_one _ _ _ _ _) ?_))
          refine bodyPost_ret (v := .tuple #[.agg #[.int .i64 0, .int .i64 0, .slice none 0 0], .bool false]) ?_ rfl ⟨.inl ⟨HNB.out, rfl⟩, below_row (((HB0.out.trans (hb1.mono s0)).trans (HB.out.mono (by omega))).trans (hb6.mono (by omega))) (by omega) _⟩
          rw [results_cell_tmp rfl]
          simp [asAddr, Result.andThen, run_tabOf (RowAt.setRow HG6.out #[.int .i64 0, .int .i64 0, .slice none 0 0])]
        · have HTb : Hid (textB (mTx r c d g l) = true) := htb
          have HYB : Hid (mergeB R C l r c d g = true) := by
            show mergeB R C l r c d g = true
            have : decide (2 ≤ mN r c d g l) = true := decide_eq_true (by rw [HNn.out]; omega)
            simp only [mergeB, Int.toNat_natCast, this, htb, HX.out, HBD.out, HCA.out, Bool.and_self]
          clear htb
          go_upto_region 29 with (go_at_call 45; refine (specTextOk_is HTx.out.txt HTb.out).mono ?_; rintro e w6 ⟨rfl, hb6⟩)
          have s6 := hb6.size
          have HO6 : RowAt w6 w1.heap.size #[.int .i64 r, .int .i64 c, .int .i64 d, .int .i64 g, .slice pa pn pc] 86 := HO1.out.below hb6 (by omega)
          have HG6 : Hid (RowAt w6 (w1.heap.size + 1) #[.int .i64 R, .int .i64 C, .slice a' m' c'] 54) := HG1'.out.below hb6 (by omega)
          have HTx6 : Hid (Own w6 v2.heap.size (.slice pa pn pc) (mTx r c d g l)) := own_below HTx.out hb6
          have HOR6 : Hid (OwnR w6 v2.heap.size (.slice a' m' c') rs) := HOR.out.below hb6
          have HTO6 : Hid (TxtOwn w6 v2.heap.size (Value.slice a' m' c').ownBlock rs (mOut r c d g l)) := HTO.out.below hb6
          have HB6 : Hid (Below w1.heap.size w1 w6) := HB.out.trans (hb6.mono (by omega))
          have HZ6 : Hid (RowAt w6 (w.heap.size + 1) #[.int .i64 0, .int .i64 0, .slice none 0 0] 54) := HG5.out.below hb6 HG5.out.lt
          have e0 : w6.cell? ⟨w1.heap.size, 0, none⟩ = some (.int .i64 r) := HO6.cell 0
          have e1 : w6.cell? ⟨w1.heap.size, 1, none⟩ = some (.int .i64 c) := HO6.cell 1
          have e2 : w6.cell? ⟨w1.heap.size, 2, none⟩ = some (.int .i64 d) := HO6.cell 2
          have e3 : w6.cell? ⟨w1.heap.size, 3, none⟩ = some (.int .i64 g) := HO6.cell 3
          have e4 : w6.cell? ⟨w1.heap.size, 4, none⟩ = some (.slice pa pn pc) := HO6.cell 4
          have t2 : w6.cell? ⟨w1.heap.size + 1, 2, none⟩ = some (.slice a' m' c') := HG6.out.cell 2
          obtain ⟨x1, HX1⟩ : ∃ x1 : Rw, Hid (((r : Int), (c : Int), (d : Int), (g : Int), pa, pn, pc) = x1) := ⟨_, rfl⟩
          clear o4 k2 HO6 HO1 HTx HG1' HOR HTO HB HG5 hb6
          go_upto_region 30 with (first | (at_builtin; refine wpList_append_own _ rfl (.tmp 148) (.tmp 150) 52 rfl v2.heap.size 86 i0 _ 5 56 Tryz.underlying52 hi hz0 hz1 hz2 rfl (by decide) (.slice a' m' c') _ _ rfl (HOR6.out.row.alloc _) ⟨w6.heap.size, 0, none⟩ 1 1 [.int .i64 r, .int .i64 c, .int .i64 d, .int .i64 g, .slice pa pn pc] rfl rfl (cell_five_new _ _ _ _ _ _ _) (five_oneCell _ _ _ _ _ _ _) (by unfold maxLen; omega) (by omega) (by simp; omega) ?_; intro v' w7 hown' hgrow _; obtain ⟨a5, c5, rfl, ho5, hb5⟩ := ownR_step (B := v2.heap.size) (w := w6) (s := ((r : Int), (c : Int), (d : Int), (g : Int), pa, pn, pc)) HOR6.out (Below.refl _ _) (by omega) hown' hgrow; have HR5 : Hid (RowAt w7 (w1.heap.size + 1) #[.int .i64 R, .int .i64 C, .slice a' m' c'] 54) := RowAt.grown (HG6.out.alloc _) hgrow (fun e => by have := (own_lt HOR6.out.row e).1; omega); have HO5 : Hid (OwnR w7 v2.heap.size (.slice a5 (m' + 1) c5) (rs ++ [((r : Int), (c : Int), (d : Int), (g : Int), pa, pn, pc)])) := ho5) | (go_at_call 98; refine (l2Sort_any a5 (m' + 1) c5 (rs ++ [((r : Int), (c : Int), (d : Int), (g : Int), pa, pn, pc)]) _ HO5.out.rws (by omega)).mono ?_; rintro e w8 ⟨⟨a3, c3, rfl, ho3⟩, hb3⟩; have R8 := HR5.out.below hb3 HR5.out.lt; have q2 : w8.cell? ⟨w1.heap.size + 1, 2, none⟩ = some (.slice a' m' c') := R8.cell 2; have q3 := R8.frozen 2))
          have s7 := hgrow.size
          simp at s7
          have s8 := hb3.size
          have t5 : TxtOwn w7 v2.heap.size (Value.slice a' m' c').ownBlock rs (mOut r c d g l) := (HTO6.out.below ((Below.refl _ _).alloc (Nat.le_refl _) _)).grown hgrow (fun k' hk' b' hb' => HTO6.out.2.2.1 k' hk' b' hb')
          have tO : Own w7 v2.heap.size (.slice pa pn pc) (mTx r c d g l) := own_grown (Own.alloc HTx6.out _) hgrow (fun b' hb' => own_kinds HOR6.out HTx6.out (by decide) b' hb')
          have t6 := t5.snocD (x := ((r : Int), (c : Int), (d : Int), (g : Int), pa, pn, pc)) (y := ((r : Int), (c : Int), (d : Int), (g : Int), mTx r c d g l)) ⟨rfl, rfl, rfl, rfl, tO⟩ (fun b' hb' => own_kinds HOR6.out HTx6.out (by decide) b' hb') (fun k' hk' b' hb' => HDis.out k' hk' b' hb')
          have R9 : RowAt (w8.setCell ⟨w1.heap.size + 1, 2, none⟩ (.slice a3 (m' + 1) c3)) (w1.heap.size + 1) #[.int .i64 R, .int .i64 C, .slice a3 (m' + 1) c3] 54 := R8.setCell 2 (.slice a3 (m' + 1) c3)
          have B7 : Below w1.heap.size w1 w7 := ((HB6.out).alloc (by omega) _).grown hgrow (by simp; omega) (fun k' hk' => by have := (own_lt HOR6.out.row hk').1; omega)
          have B9 : Below w1.heap.size w1 (w8.setCell ⟨w1.heap.size + 1, 2, none⟩ (.slice a3 (m' + 1) c3)) := (B7.trans (hb3.mono (by omega))).setCell (p := ⟨w1.heap.size + 1, 2, none⟩) (by show w1.heap.size ≤ w1.heap.size + 1; omega) _
          have O9 : OwnR (w8.setCell ⟨w1.heap.size + 1, 2, none⟩ (.slice a3 (m' + 1) c3)) v2.heap.size (.slice a3 (m' + 1) c3) (sortR (rs ++ [((r : Int), (c : Int), (d : Int), (g : Int), pa, pn, pc)])) := own_set (own_less ho3 (by omega)) _ _ (fun e => by have := (own_lt ho3.row e).1; simp at this; omega)
          have T9 : TxtOwn (w8.setCell ⟨w1.heap.size + 1, 2, none⟩ (.slice a3 (m' + 1) c3)) v2.heap.size (Value.slice a3 (m' + 1) c3).ownBlock (sortR (rs ++ [((r : Int), (c : Int), (d : Int), (g : Int), pa, pn, pc)])) (mergeL l r c d g) := by
            have t7 := ((t6.sort).below hb3).setLow ⟨w1.heap.size + 1, 2, none⟩ (.slice a3 (m' + 1) c3) (by show w1.heap.size + 1 < v2.heap.size; omega)
            exact t7.anew O9
          have HML : Hid (m' + 1 = (mergeL l r c d g).length) := by
            show m' + 1 = (mergeL l r c d g).length
            have e1 := O9.len
            have e2 := T9.1
            omega
          have HZ9 : Hid (RowAt (w8.setCell ⟨w1.heap.size + 1, 2, none⟩ (.slice a3 (m' + 1) c3)) (w.heap.size + 1) #[.int .i64 0, .int .i64 0, .slice none 0 0] 54) := HG2.out.below B9 (by omega)
          clear q2 q3 R8 ho3 e0 e1 e2 e3 e4 t2 t5 t6 tO
          generalize (w8.setCell ⟨w1.heap.size + 1, 2, none⟩ (.slice a3 (m' + 1) c3)) = w9 at R9 B9 O9 T9 HZ9 ⊢
          have HO9 : Hid (OwnR w9 v2.heap.size (.slice a3 (m' + 1) c3) (sortR (rs ++ [((r : Int), (c : Int), (d : Int), (g : Int), pa, pn, pc)]))) := O9
          have HT9 : Hid (TxtOwn w9 v2.heap.size (Value.slice a3 (m' + 1) c3).ownBlock (sortR (rs ++ [((r : Int), (c : Int), (d : Int), (g : Int), pa, pn, pc)])) (mergeL l r c d g)) := T9
          have HB9 : Hid (Below w1.heap.size w1 w9) := B9
          have k0 : w9.cell? ⟨w1.heap.size + 1, 0, none⟩ = some (.int .i64 R) := R9.cell 0
          have k1 : w9.cell? ⟨w1.heap.size + 1, 1, none⟩ = some (.int .i64 C) := R9.cell 1
          have k2 : w9.cell? ⟨w1.heap.size + 1, 2, none⟩ = some (.slice a3 (m' + 1) c3) := R9.cell 2
          clear O9 T9 B9 R9
          go_wp2_with (refine wpList_store_row rfl 54 (.tmp 10) (.tmp 154) rfl (w.heap.size + 1) #[.int .i64 R, .int .i64 C, .slice a3 (m' + 1) c3] rfl rfl 54 _ HZ9.out tab_info rfl (cells3_one _ _ _ _ _) ?_)
          refine bodyPost_ret (v := .tuple #[.agg #[.int .i64 R, .int .i64 C, .slice a3 (m' + 1) c3], .bool true]) ?_ rfl ⟨.inr ⟨HYB.out, a3, c3, sortR (rs ++ [((r : Int), (c : Int), (d : Int), (g : Int), pa, pn, pc)]), by rw [← HML.out], ?_⟩, below_row ((HB0.out.trans (hb1.mono s0)).trans (HB9.out.mono (by omega))) (by omega) _⟩
          · rw [results_cell_tmp rfl]
            simp [asAddr, Result.andThen, run_tabOf (RowAt.setRow HZ9.out #[.int .i64 R, .int .i64 C, .slice a3 (m' + 1) c3])]
          · rw [← HML.out]
            exact OwnT.less (B' := v2.heap.size) ⟨own_row HO9.out _ _ (fun e => by have := (own_lt HO9.out.row e).1; omega), HT9.out.rowLow _ _ (by omega)⟩ (by omega)
end Go.Proofs.YtccoeachemnbnaaGreatDoor
namespace Go.Proofs.YtccoeachemnbnaaGreatDoor
open Go.RowKit

theorem getD_setE {α : Type} (l : List α) (i : Nat) (x d : α) (h : i < l.length) : (l.set i x).getD i d = x := by simp [List.getD, h]
theorem getD_setN {α : Type} (l : List α) (i k : Nat) (x d : α) (h : i ≠ k) : (l.set i x).getD k d = l.getD k d := by simp [List.getD, List.getElem?_set_ne h]
theorem flat5_put (rs : List Rw) (i j : Nat) (hi : i < rs.length) (hj : j < 5) (v : Value) (x : Rw) (hx : rwCells x = (rwCells (rs.getD i rw0)).set j v) : (flat5 rs).set (i * 5 + j) v = flat5 (rs.set i x) := by
  apply List.ext_getElem?
  intro s
  have hlen := flat5_length rs
  by_cases hs : s < rs.length * 5
  · have hs5 : s = s / 5 * 5 + s % 5 := by omega
    have hk : s / 5 < rs.length := by omega
    have hm : s % 5 < 5 := by omega
    generalize s / 5 = k at hs5 hk
    generalize s % 5 = r at hs5 hm
    subst hs5
    rw [flat5_get (rs.set i x) k r (by simpa using hk) hm]
    by_cases hki : i = k
    · subst hki
      rw [getD_setE _ _ _ _ hi, hx]
      by_cases hr : j = r
      · subst hr
        rw [List.getElem?_set_self (by omega), List.getElem?_set_self (by simp [rwCells]; omega)]
      · rw [List.getElem?_set_ne (by omega), List.getElem?_set_ne hr, flat5_get rs i r hi hm]
    · rw [getD_setN _ _ _ _ _ hki, List.getElem?_set_ne (by omega), flat5_get rs k r hk hm]
  · rw [List.getElem?_eq_none (by simp; omega), List.getElem?_eq_none (by rw [flat5_length]; simp; omega)]
/-- A number of a row is written. -/
theorem OwnT.put {w : World} {B g n c : Nat} {rs : List Rw} {l : List Cl} (h : OwnT w B (.slice (some ⟨g, 0, none⟩) n c) rs l) (i j : Nat) (hi : i < rs.length) (hj : j < 5) (v : Value) (x : Rw) (y : Cl)
    (hx : rwCells x = (rwCells (rs.getD i rw0)).set j v) (hT : rwT x = rwT (rs.getD i rw0)) (hy : y.2.2.2.2 = (l.getD i cl0).2.2.2.2) (he : x.1 = y.1 ∧ x.2.1 = y.2.1 ∧ x.2.2.1 = y.2.2.1 ∧ x.2.2.2.1 = y.2.2.2.1) :
    OwnT (w.setCell ⟨g, i * 5 + j, none⟩ v) B (.slice (some ⟨g, 0, none⟩) n c) (rs.set i x) (l.set i y) := by
  have hl := h.2.1
  have hn := h.1.len
  obtain ⟨p0, _⟩ := h.1.row.stored (i * 5 + j) v
  rw [flat5_put rs i j hi hj v x hx] at p0
  have t0 := h.2.set ⟨g, i * 5 + j, none⟩ v rfl
  have hTT : ∀ k, rwT ((rs.set i x).getD k rw0) = rwT (rs.getD k rw0) := by
    intro k
    by_cases hki : i = k
    · subst hki
      rw [getD_setE _ _ _ _ hi, hT]
    · rw [getD_setN _ _ _ _ _ hki]
  refine ⟨?_, by simp [hl], fun k hk' => ?_, fun k hk' b hb => ?_, fun a b hab hb q hq => ?_⟩
  · unfold OwnR
    rw [List.length_set, ← hn]
    exact p0
  · simp only [List.length_set] at hk'
    by_cases hki : i = k
    · subst hki
      rw [getD_setE _ _ _ _ hi, getD_setE _ _ _ _ (by omega)]
      obtain ⟨_, _, _, _, h4⟩ := t0.2.1 i hk'
      exact ⟨he.1, he.2.1, he.2.2.1, he.2.2.2, by rw [hT, hy]; exact h4⟩
    · rw [getD_setN _ _ _ _ _ hki, getD_setN _ _ _ _ _ hki]
      exact t0.2.1 k hk'
  · simp only [List.length_set] at hk'
    rw [hTT] at hb
    exact t0.2.2.1 k hk' b hb
  · simp only [List.length_set] at hb
    rw [hTT] at hq ⊢
    exact t0.2.2.2 a b hab hb q hq
/-- The first i turned by f, the others as they were. -/
def mix {α : Type} (f : α → α) (xs : List α) (i : Nat) : List α := (xs.take i).map f ++ xs.drop i
theorem mix_len {α : Type} (f : α → α) (xs : List α) (i : Nat) : (mix f xs i).length = xs.length := by simp [mix]; omega
theorem mix_zero {α : Type} (f : α → α) (xs : List α) : mix f xs 0 = xs := by simp [mix]
theorem mix_all {α : Type} (f : α → α) (xs : List α) (i : Nat) (h : xs.length ≤ i) : mix f xs i = xs.map f := by
  unfold mix
  rw [List.take_of_length_le h, List.drop_eq_nil_of_le h, List.append_nil]
theorem mix_at {α : Type} (f : α → α) (xs : List α) (i : Nat) (d : α) (h : i < xs.length) : (mix f xs i).getD i d = xs.getD i d := by
  unfold mix
  rw [List.getD_eq_getElem?_getD, List.getD_eq_getElem?_getD, List.getElem?_append_right (by simp only [List.length_map, List.length_take]; omega), List.length_map, List.length_take, Nat.min_eq_left (by omega), Nat.sub_self, List.getElem?_drop, Nat.add_zero]
theorem mix_succ {α : Type} (f : α → α) (xs : List α) (i : Nat) (d : α) (h : i < xs.length) : mix f xs (i + 1) = (mix f xs i).set i (f (xs.getD i d)) := by
  unfold mix
  rw [List.take_succ_eq_append_getElem h, List.map_append, List.set_append_right _ _ (by simp only [List.length_map, List.length_take]; omega), List.length_map, List.length_take, Nat.min_eq_left (by omega), Nat.sub_self, List.drop_eq_getElem_cons h]
  simp only [List.getD, List.getElem?_eq_getElem h, Option.getD_some, List.map_cons, List.map_nil, List.append_assoc, List.set_cons_zero, List.singleton_append]
theorem mix_same {α : Type} (f : α → α) (xs : List α) (i : Nat) (d : α) (h : i < xs.length) (e : f (xs.getD i d) = xs.getD i d) : mix f xs (i + 1) = mix f xs i := by
  rw [mix_succ f xs i d h, e]
  apply List.ext_getElem?
  intro k
  by_cases hk : i = k
  · subst hk
    rw [List.getElem?_set_self (by rw [mix_len]; exact h)]
    have := mix_at f xs i d h
    rw [List.getD_eq_getElem?_getD] at this
    have h2 : i < (mix f xs i).length := by rw [mix_len]; exact h
    rw [List.getElem?_eq_getElem h2] at this ⊢
    simp at this
    rw [this]
    simp [List.getD]
  · rw [List.getElem?_set_ne hk]
/-- Truth values, one for each of so many places. -/
def boolL (n : Nat) (p : Nat → Bool) : List Value := (List.range n).map (fun c => Value.bool (p c))
theorem boolL_len (n : Nat) (p : Nat → Bool) : (boolL n p).length = n := by simp [boolL]
theorem boolL_get (n : Nat) (p : Nat → Bool) (c : Nat) (h : c < n) : (boolL n p)[c]? = some (.bool (p c)) := by
  unfold boolL
  rw [List.getElem?_map, List.getElem?_range h]
  rfl
theorem boolL_set (n : Nat) (p : Nat → Bool) (c : Nat) (b : Bool) : (boolL n p).set c (.bool b) = boolL n (fun k => if k = c then b else p k) := by
  apply List.ext_getElem?
  intro k
  by_cases hk : k < n
  · rw [boolL_get _ _ _ hk]
    by_cases hc : c = k
    · subst hc
      rw [List.getElem?_set_self (by rw [boolL_len]; exact hk), if_pos rfl]
    · rw [List.getElem?_set_ne hc, boolL_get _ _ _ hk, if_neg (Ne.symm hc)]
  · rw [List.getElem?_eq_none (by simp [boolL_len]; omega), List.getElem?_eq_none (by rw [boolL_len]; omega)]
theorem boolL_same {n : Nat} {p q : Nat → Bool} (h : ∀ c, c < n → p c = q c) : boolL n p = boolL n q := by
  unfold boolL
  apply List.map_congr_left
  intro c hc
  rw [h c (by simpa using hc)]
theorem made_bools (n : Nat) : (madeCells (Value.bool false).cells (n * 1)).toList = boolL n (fun _ => false) := by
  rw [show (Value.bool false).cells = #[.bool false] from rfl, toList_madeCells_one, Nat.mul_one]
  apply List.ext_getElem?
  intro k
  by_cases hk : k < n
  · rw [boolL_get _ _ _ hk, List.getElem?_replicate, if_pos hk]
  · rw [List.getElem?_eq_none (by simp; omega), List.getElem?_eq_none (by rw [boolL_len]; omega)]
end Go.Proofs.YtccoeachemnbnaaGreatDoor
namespace Go.Proofs.YtccoeachemnbnaaGreatDoor
open Go.RowKit

/-- A new table's value: rows and columns that do not fit give none. -/
def newOk (R C : Int) : Bool := decide (1 ≤ R ∧ R ≤ 5) && decide (1 ≤ C ∧ C ≤ 5)

set_option maxRecDepth 100000 in
set_option maxHeartbeats 4000000 in
theorem specTableNew_any (R C : Int) (w : World) :
    Calls Tryz.prog 91 #[.int .i64 R, .int .i64 C] w fun z w' => ((newOk R C = false ∧ z = .returned (.agg #[.int .i64 0, .int .i64 0, .slice none 0 0])) ∨ (newOk R C = true ∧ ∃ a n c rs, z = .returned (.agg #[.int .i64 R, .int .i64 C, .slice a n c]) ∧ OwnT w' w.heap.size (.slice a n c) rs (newL R.toNat C.toNat))) ∧ Below w.heap.size w w' := by
  obtain ⟨i0, hi, hz0, hz1, hz2⟩ := info_parts Tryz.info86
  cases h0 : decide (1 ≤ R ∧ R ≤ 5)
  · have H0 : Hid (decide (1 ≤ R ∧ R ≤ 5) = false) := h0
    clear h0
    go_enter Tryz.func91, Tryz.ntmps91
    go_wp2_with (go_at_call 26; refine (l6In_of H0.out _).mono ?_; rintro e w1 ⟨rfl, rfl⟩)
    refine bodyPost_ret (v := .agg #[.int .i64 0, .int .i64 0, .slice none 0 0]) (by simp [results, Tryz.results91, go_sem]) rfl ⟨.inl ⟨by simp only [newOk, H0.out, Bool.false_and], rfl⟩, ?_⟩
    exact (Below.refl _ _).alloc (Nat.le_refl _) _
  cases h1 : decide (1 ≤ C ∧ C ≤ 5)
  · have H0 : Hid (decide (1 ≤ R ∧ R ≤ 5) = true) := h0
    have H1 : Hid (decide (1 ≤ C ∧ C ≤ 5) = false) := h1
    clear h0 h1
    go_enter Tryz.func91, Tryz.ntmps91
    go_wp2_with (first | (go_at_call_of 26 (Value.int IntKind.i64 R); refine (l6In_of H0.out _).mono ?_; rintro e w1 ⟨rfl, rfl⟩) | (go_at_call_of 26 (Value.int IntKind.i64 C); refine (l6In_of H1.out _).mono ?_; rintro e w1 ⟨rfl, rfl⟩))
    refine bodyPost_ret (v := .agg #[.int .i64 0, .int .i64 0, .slice none 0 0]) (by simp [results, Tryz.results91, go_sem]) rfl ⟨.inl ⟨by simp only [newOk, H1.out, Bool.and_false], rfl⟩, ?_⟩
    exact (Below.refl _ _).alloc (Nat.le_refl _) _
  have hR := of_decide_eq_true h0
  have hC := of_decide_eq_true h1
  have HN : Hid (newOk R C = true) := by show newOk R C = true; simp only [newOk, h0, h1, Bool.and_self]
  have H0 : Hid (decide (1 ≤ R ∧ R ≤ 5) = true) := h0
  have H1 : Hid (decide (1 ≤ C ∧ C ≤ 5) = true) := h1
  clear h0 h1
  obtain ⟨R, rfl⟩ : ∃ R' : Nat, R = R' := ⟨R.toNat, by omega⟩
  obtain ⟨C, rfl⟩ : ∃ C' : Nat, C = C' := ⟨C.toNat, by omega⟩
  go_enter Tryz.func91, Tryz.ntmps91
  go_upto_region 4 with (first | (go_at_call_of 26 (Value.int IntKind.i64 R); refine (l6In_of H0.out _).mono ?_; rintro e w1 ⟨rfl, rfl⟩) | (go_at_call_of 26 (Value.int IntKind.i64 C); refine (l6In_of H1.out _).mono ?_; rintro e w1 ⟨rfl, rfl⟩))
  clear H0 H1
  have B0 : Below w.heap.size w ((w.alloc (.cells #[.int .i64 0, .int .i64 0, .slice none 0 0] 54)).alloc (.cells #[.int .i64 R, .int .i64 C, .slice none 0 0] 54)) := ((Below.refl _ _).alloc (Nat.le_refl _) _).alloc (by simp) _
  have G0 : RowAt ((w.alloc (.cells #[.int .i64 0, .int .i64 0, .slice none 0 0] 54)).alloc (.cells #[.int .i64 R, .int .i64 C, .slice none 0 0] 54)) w.heap.size #[.int .i64 0, .int .i64 0, .slice none 0 0] 54 := (rowAt_new w _ _).alloc _
  have G1 : RowAt ((w.alloc (.cells #[.int .i64 0, .int .i64 0, .slice none 0 0] 54)).alloc (.cells #[.int .i64 R, .int .i64 C, .slice none 0 0] 54)) (w.heap.size + 1) #[.int .i64 R, .int .i64 C, .slice none 0 0] 54 := by
    have := (rowAt_new (w.alloc (.cells #[.int .i64 0, .int .i64 0, .slice none 0 0] 54)) #[.int .i64 R, .int .i64 C, .slice none 0 0] 54)
    simpa using this
  generalize ((w.alloc (.cells #[.int .i64 0, .int .i64 0, .slice none 0 0] 54)).alloc (.cells #[.int .i64 R, .int .i64 C, .slice none 0 0] 54)) = v0 at B0 G0 G1 ⊢
  have z1 := G1.lt
  go_wp2_with fail
  go_loopw [6] (fun iv wr => ∃ i : Nat, i ≤ R ∧ iv = .int .i64 i ∧ ∃ (a : Option Addr) (c : Nat), RowAt wr (w.heap.size + 1) #[.int .i64 R, .int .i64 C, .slice a (i * C + 0) c] 54 ∧ OwnR wr v0.heap.size (.slice a (i * C + 0) c) (newR C i 0) ∧ RowAt wr w.heap.size #[.int .i64 0, .int .i64 0, .slice none 0 0] 54 ∧ Below w.heap.size w wr ∧ v0.heap.size ≤ wr.heap.size) (fun iv _ => R - (intOf iv).toNat)
  case atStart => exact ⟨0, Nat.zero_le _, rfl, none, 0, by simpa using G1, by simpa [newR] using OwnR.nil _ _, G0, B0, Nat.le_refl _⟩
  case round =>
    clear G0 G1
    obtain ⟨i, hi', rfl, a, c, g1, ho, g0, hb, hs⟩ := hrel
    have HG1 : Hid (RowAt wr (w.heap.size + 1) #[.int .i64 R, .int .i64 C, .slice a (i * C + 0) c] 54) := g1
    have HG0 : Hid (RowAt wr w.heap.size #[.int .i64 0, .int .i64 0, .slice none 0 0] 54) := g0
    have HO : Hid (OwnR wr v0.heap.size (.slice a (i * C + 0) c) (newR C i 0)) := ho
    have HB : Hid (Below w.heap.size w wr) := hb
    clear g1 g0 ho hb
    by_cases hlt : i < R
    · go_wp2_with fail
      go_loopw [7] (fun jv wr => ∃ j : Nat, j ≤ C ∧ jv = .int .i64 j ∧ ∃ (a : Option Addr) (c : Nat), RowAt wr (w.heap.size + 1) #[.int .i64 R, .int .i64 C, .slice a (i * C + j) c] 54 ∧ OwnR wr v0.heap.size (.slice a (i * C + j) c) (newR C i j) ∧ RowAt wr w.heap.size #[.int .i64 0, .int .i64 0, .slice none 0 0] 54 ∧ Below w.heap.size w wr ∧ v0.heap.size ≤ wr.heap.size) (fun jv _ => C - (intOf jv).toNat)
      case atStart => exact ⟨0, Nat.zero_le _, rfl, a, c, HG1.out, HO.out, HG0.out, HB.out, hs⟩
      case round =>
        clear HG1 HG0 HO HB hs
        obtain ⟨j, hj, rfl, a, c, g1, ho, g0, hb, hs⟩ := hrel
        have hlen := ho.len
        have hlm : i * C ≤ 4 * 5 := Nat.mul_le_mul (by omega) (by omega)
        obtain ⟨m, HM⟩ : ∃ m, Hid (i * C + j = m) := ⟨_, rfl⟩
        have hm : m ≤ 25 := by have := HM.out; omega
        rw [HM.out] at g1 ho
        have HG1 : Hid (RowAt wr (w.heap.size + 1) #[.int .i64 R, .int .i64 C, .slice a m c] 54) := g1
        have HG0 : Hid (RowAt wr w.heap.size #[.int .i64 0, .int .i64 0, .slice none 0 0] 54) := g0
        have HO : Hid (OwnR wr v0.heap.size (.slice a m c) (newR C i j)) := ho
        have HB : Hid (Below w.heap.size w wr) := hb
        have k2 : wr.cell? ⟨w.heap.size + 1, 2, none⟩ = some (.slice a m c) := g1.cell 2
        have f2 := g1.frozen 2
        have lg1 := g1.lt
        have hcap := ho.rws.2.1
        have hcm := ho.rws.2.2.1
        unfold maxLen at hcm
        clear g1 g0 ho hb hlen
        by_cases hlj : j < C
        · go_wp2_with (at_builtin; refine wpList_append_own _ rfl (.tmp 31) (.tmp 35) 52 rfl v0.heap.size 86 i0 _ 5 56 Tryz.underlying52 hi hz0 hz1 hz2 rfl (by decide) (.slice a m c) _ _ rfl (HO.out.row.alloc _) ⟨wr.heap.size, 0, none⟩ 1 1 [.int .i64 (i : Int), .int .i64 (j : Int), .int .i64 1, .int .i64 1, .slice none 0 0] rfl rfl (cell_five_new _ _ _ _ _ _ _) (five_oneCell _ _ _ _ _ _ _) (by unfold maxLen; omega) (by omega) (by simp; omega) ?_; intro v' w1 hown' hgrow _; obtain ⟨a', c', rfl, ho3, hb3⟩ := ownR_step (B := v0.heap.size) (w := wr) (s := rwOne i j) HO.out (Below.refl _ _) hs hown' hgrow; have R1 := RowAt.grown (HG1.out.alloc _) hgrow (fun e => by have := (own_lt HO.out.row e).1; omega); have q2 : w1.cell? ⟨w.heap.size + 1, 2, none⟩ = some (.slice a m c) := R1.cell 2; have q3 := R1.frozen 2)
          go_roundw
          case rel =>
            have e1 : i * C + (j + 1) = m + 1 := by have := HM.out; omega
            refine ⟨j + 1, by omega, by go_num, a', c', ?_, ?_, ?_, ?_, ?_⟩
            · rw [e1]
              exact R1.setCell 2 (.slice a' (m + 1) c')
            · rw [e1, newR_succ]
              refine own_set ho3 _ _ (fun e => ?_)
              have := (own_lt ho3 e).1
              simp at this
              omega
            · exact (RowAt.grown (HG0.out.alloc _) hgrow (fun e => by have := (own_lt HO.out.row e).1; omega)).other _ _ (by simp)
            · exact ((HB.out.alloc (by omega) _).grown hgrow (by simp; omega) (fun q hq => by have := (own_lt HO.out.row hq).1; omega)).setCell (by show w.heap.size ≤ w.heap.size + 1; omega) _
            · have := hb3.size
              simp [World.setCell]
              omega
          case measure => simp [intOf]; omega
        · go_wp2_with fail
          go_roundw
          case rel =>
            have e1 : j = C := by omega
            have e2 : (i + 1) * C + 0 = m := by have := HM.out; rw [Nat.succ_mul]; omega
            refine ⟨i + 1, by omega, by go_num, a, c, ?_, ?_, HG0.out, HB.out, hs⟩
            · rw [e2]
              exact HG1.out
            · rw [e2, ← newR_row, ← e1]
              have := HO.out
              rw [e1] at this ⊢
              exact this
          case measure => simp [intOf]; omega
    · have e1 : i = R := by omega
      subst e1
      obtain ⟨m, HM⟩ : ∃ m, Hid (i * C + 0 = m) := ⟨_, rfl⟩
      rw [HM.out] at HG1 HO
      have k0 : wr.cell? ⟨w.heap.size + 1, 0, none⟩ = some (.int .i64 i) := HG1.out.cell 0
      have k1 : wr.cell? ⟨w.heap.size + 1, 1, none⟩ = some (.int .i64 C) := HG1.out.cell 1
      have k2 : wr.cell? ⟨w.heap.size + 1, 2, none⟩ = some (.slice a m c) := HG1.out.cell 2
      go_wp2_with (refine wpList_store_row rfl 54 (.tmp 4) (.tmp 38) rfl w.heap.size #[.int .i64 i, .int .i64 C, .slice a m c] rfl rfl 54 _ HG0.out tab_info rfl (cells3_one _ _ _ _ _) ?_)
      refine bodyPost_ret (v := .agg #[.int .i64 i, .int .i64 C, .slice a m c]) (results_cell_row (p := 4) (ty := 54) rfl _ _ w.heap.size 54 _ _ _ rfl (RowAt.setRow HG0.out _) Tryz.underlying54 rfl tab_info) rfl ⟨.inr ⟨HN.out, a, m, c, newR C i 0, rfl, ?_⟩, below_row HB.out (Nat.le_refl _) _⟩
      refine OwnT.less (B' := v0.heap.size) ⟨own_row HO.out _ _ (fun e => by have := (own_lt HO.out.row e).1; omega), ?_⟩ (by omega)
      have := txtOwn_nil (w := wr.setRow w.heap.size #[.int .i64 i, .int .i64 C, .slice a m c]) (B := v0.heap.size) (q := (Value.slice a m c).ownBlock) (newR_nil C i 0)
      rw [← newC_map] at this
      simpa [newL] using this
end Go.Proofs.YtccoeachemnbnaaGreatDoor
namespace Go.Proofs.YtccoeachemnbnaaGreatDoor
open Go.RowKit

/-- A slice value that reads as the bytes zs, in a block below B. -/
def Byt (B : Nat) (w : World) (a : Option Addr) (n cap : Nat) (zs : List Int) : Prop :=
  n = zs.length ∧ n ≤ cap ∧ cap ≤ maxLen ∧ (∀ i : Nat, 0 ≤ zs.getD i 0 ∧ zs.getD i 0 ≤ 255) ∧ (zs = [] ∨ ∃ b off, a = some ⟨b, off, none⟩ ∧ b < B ∧ ∀ i, i < zs.length → w.cell? ⟨b, off + i, none⟩ = some (.int .u8 (zs.getD i 0)))

theorem Byt.same {B : Nat} {w w' : World} {a : Option Addr} {n cap : Nat} {zs : List Int} (h : Byt B w a n cap zs) (hb : ∀ k, k < B → w'.heap[k]? = w.heap[k]?) : Byt B w' a n cap zs := by
  obtain ⟨h1, h2, h3, h4, h5⟩ := h
  refine ⟨h1, h2, h3, h4, ?_⟩
  rcases h5 with h5 | ⟨b, off, h6, h7, h8⟩
  · exact .inl h5
  · exact .inr ⟨b, off, h6, h7, fun i hi => (World.cell?_of_block (w := w) (hb b h7)).trans (h8 i hi)⟩

/-- The reader of a code: its block, the bytes (below B), how many numbers were drawn. -/
def Rd (B : Nat) (w : World) (g p : Nat) : Prop :=
  B ≤ g ∧ ∃ a n c zs, w.heap[g]? = some (.cells #[.slice a n c, .int .i64 (p : Int)] 111 (0, 0)) ∧ Byt B w a n c zs ∧ n ≤ 2000

theorem Rd.lt {B : Nat} {w : World} {g p : Nat} (h : Rd B w g p) : g < w.heap.size := by
  obtain ⟨_, a, n, c, zs, hg, _⟩ := h
  exact (Array.getElem?_eq_some_iff.1 hg).1

/-- What leaves the blocks that were there as they were leaves the reader. -/
theorem Rd.below {B : Nat} {w w' : World} {g p : Nat} (h : Rd B w g p) {C : Nat} (hb : Below C w w') (hC : g < C) : Rd B w' g p := by
  obtain ⟨hB, a, n, c, zs, hg, hy, hn⟩ := h
  exact ⟨hB, a, n, c, zs, (hb.block g hC).trans hg, hy.same (fun k hk => hb.block k (by omega)), hn⟩

theorem pick_lt (x n : Int) (h : 1 ≤ n) : 0 ≤ x % n ∧ x % n < n := ⟨Int.emod_nonneg _ (by omega), Int.emod_lt_of_pos _ (by omega)⟩

theorem xor_i64 (a b : Int) (h1 : 0 ≤ a) (h2 : a < 1099511627776) (h3 : 0 ≤ b) (h4 : b < 1099511627776) : 0 ≤ bits .xor .i64 a b ∧ bits .xor .i64 a b < 1099511627776 := by
  obtain ⟨A, rfl⟩ := Int.eq_ofNat_of_zero_le h1
  obtain ⟨B, rfl⟩ := Int.eq_ofNat_of_zero_le h3
  have hx : A ^^^ B < 2 ^ 40 := Nat.xor_lt_two_pow (by omega) (by omega)
  have e1 : (BitVec.ofInt 64 (A : Int)).toNat = A := by
    rw [BitVec.ofInt_natCast, BitVec.toNat_ofNat]; exact Nat.mod_eq_of_lt (by omega)
  have e2 : (BitVec.ofInt 64 (B : Int)).toNat = B := by
    rw [BitVec.ofInt_natCast, BitVec.toNat_ofNat]; exact Nat.mod_eq_of_lt (by omega)
  have e : bits .xor .i64 (A : Int) (B : Int) = ((A ^^^ B : Nat) : Int) := by
    show IntKind.i64.wrap ((BitVec.ofInt 64 (A : Int) ^^^ BitVec.ofInt 64 (B : Int)).toNat : Int) = _
    rw [BitVec.toNat_xor, e1, e2, IntKind.wrap_i64]
    omega
  rw [e]
  omega

/-- A number more is drawn. -/
theorem rd_step {B : Nat} {w : World} {g p : Nat} (h : Rd B w g p) : Rd B (w.setCell ⟨g, 1, none⟩ (.int .i64 ((p : Int) + 1))) g (p + 1) := by
  obtain ⟨hB, a, n, c, zs, hg, hy, hn⟩ := h
  refine ⟨hB, a, n, c, zs, ?_, hy.same (fun k hk => heap_setCell_other w ⟨g, 1, none⟩ k _ (by simp; omega)), hn⟩
  rw [heap_setCell_same w g 1 _ _ _ hg]
  simp
theorem rd_drewN {B : Nat} {w : World} {g p : Nat} (h : Rd B w g p) (n : Nat) : Rd B (w.drewN n) g p := h
theorem grown_setCell' (w : World) (g o : Nat) (u : Value) : w.grownBy (w.setCell ⟨g, o, none⟩ u) (some g) :=
  ⟨rfl, rfl, rfl, by simp [World.setCell], fun k _ hne => Below.heap_setCell w ⟨g, o, none⟩ u k (fun e => hne (by simp [e]))⟩
theorem grown_drewN {w w' : World} {r : Option Nat} (h : w.grownBy w' r) (n : Nat) : w.grownBy (w'.drewN n) r := ⟨h.os, h.tape, h.output, h.size, h.block⟩

set_option maxRecDepth 100000 in
set_option maxHeartbeats 2000000 in
theorem pick_any (B g p : Nat) (n : Int) (w : World) (h : Rd B w g p) (hp : p ≤ 1000000) (h1 : 1 ≤ n) (h2 : n ≤ 1000) :
    Calls Tryz.prog 60 #[.pointer (some ⟨g, 0, none⟩), .int .i64 n] w fun e w' => ∃ x : Int, e = .returned (.int .i64 x) ∧ 0 ≤ x ∧ x < n ∧ Rd B w' g (p + 1) ∧ w.grownBy w' (some g) := by
  obtain ⟨hB, a, m, c, zs, hg, hy, hm⟩ := h
  have c0 : w.cell? ⟨g, 0, none⟩ = some (.slice a m c) := by rw [cell_of_row w g 0 _ _ _ hg]; rfl
  have c1 : w.cell? ⟨g, 1, none⟩ = some (.int .i64 (p : Int)) := by rw [cell_of_row w g 1 _ _ _ hg]; rfl
  have f1 : w.frozen? ⟨g, 1, none⟩ = false := frozen_of_row w g 1 _ _ hg
  have hn1 : decide (n < 1) = false := by simp; omega
  have HY : Hid (Byt B w a m c zs) := hy
  obtain ⟨hmz, hmc, hcm, hz, hcells⟩ := hy
  unfold maxLen at hcm
  by_cases h0 : m = 0
  · subst h0
    have HG : Hid (w.heap[g]? = some (.cells #[.slice a 0 c, .int .i64 (p : Int)] 111 (0, 0))) := hg
    clear hg hcells hmz hz
    go_enter Tryz.func60, Tryz.ntmps60
    go_wp2_with fail
    go_ret
    exact ⟨_, rfl, Int.le_refl _, by omega, rd_step ⟨hB, _, _, _, zs, HG.out, HY.out, hm⟩, grown_setCell' _ _ _ _⟩
  · rcases hcells with hnil | ⟨b, off, rfl, hbB, hcells⟩
    · rw [hnil] at hmz
      exact absurd hmz h0
    · have hm0 : ((m : Int) == 0) = false := by simp; omega
      by_cases hlt : p < m
      · have hzp := hz p
        have cz : w.cell? ⟨b, off + p, none⟩ = some (.int .u8 (zs.getD p 0)) := hcells p (by omega)
        obtain ⟨z, hzz⟩ : ∃ z, z = zs.getD p 0 := ⟨_, rfl⟩
        rw [← hzz] at cz hzp
        have HG : Hid (w.heap[g]? = some (.cells #[.slice (some ⟨b, off, none⟩) m c, .int .i64 (p : Int)] 111 (0, 0))) := hg
        clear hg hcells hzz hmz hz
        have cz' : (w.setCell ⟨g, 1, none⟩ (.int .i64 ((p : Int) + 1))).cell? ⟨b, off + p, none⟩ = some (.int .u8 z) := by
          rw [World.cell?_of_block (heap_setCell_other w ⟨g, 1, none⟩ b _ (by simp; omega))]; exact cz
        go_enter Tryz.func60, Tryz.ntmps60
        go_wp2_with fail
        go_ret
        exact ⟨_, rfl, (pick_lt _ _ h1).1, (pick_lt _ _ h1).2, rd_step ⟨hB, _, _, _, zs, HG.out, HY.out, hm⟩, grown_setCell' _ _ _ _⟩
      · have hmp : m ≤ p := by omega
        obtain ⟨j1, hj1⟩ : ∃ j, j = p % m := ⟨_, rfl⟩
        obtain ⟨j2, hj2⟩ : ∃ j, j = (p * 7 + 3) % m := ⟨_, rfl⟩
        have hj1m : j1 < m := by rw [hj1]; exact Nat.mod_lt _ (by omega)
        have hj2m : j2 < m := by rw [hj2]; exact Nat.mod_lt _ (by omega)
        obtain ⟨z1, hz1⟩ : ∃ z, z = zs.getD j1 0 := ⟨_, rfl⟩
        obtain ⟨z2, hz2⟩ : ∃ z, z = zs.getD j2 0 := ⟨_, rfl⟩
        have hzp1 := hz j1
        have hzp2 := hz j2
        have cz1 : w.cell? ⟨b, off + j1, none⟩ = some (.int .u8 (zs.getD j1 0)) := hcells j1 (by omega)
        have cz2 : w.cell? ⟨b, off + j2, none⟩ = some (.int .u8 (zs.getD j2 0)) := hcells j2 (by omega)
        rw [← hz1] at cz1 hzp1
        rw [← hz2] at cz2 hzp2
        have HG : Hid (w.heap[g]? = some (.cells #[.slice (some ⟨b, off, none⟩) m c, .int .i64 (p : Int)] 111 (0, 0))) := hg
        clear hg hcells hz1 hz2 hmz hz
        have k1 : (w.setCell ⟨g, 1, none⟩ (.int .i64 ((p : Int) + 1))).cell? ⟨b, off + p % m, none⟩ = some (.int .u8 z1) := by
          rw [World.cell?_of_block (heap_setCell_other w ⟨g, 1, none⟩ b _ (by simp; omega)), ← hj1]; exact cz1
        have k2 : (w.setCell ⟨g, 1, none⟩ (.int .i64 ((p : Int) + 1))).cell? ⟨b, off + (p * 7 + 3) % m, none⟩ = some (.int .u8 z2) := by
          rw [World.cell?_of_block (heap_setCell_other w ⟨g, 1, none⟩ b _ (by simp; omega)), ← hj2]; exact cz2
        have q1 : (p : Int) % (m : Int) < (m : Int) := Int.emod_lt_of_pos _ (by omega)
        have q2 : ((p : Int) * 7 + 3) % (m : Int) < (m : Int) := Int.emod_lt_of_pos _ (by omega)
        have q3 : 0 ≤ (p : Int) % (m : Int) := Int.emod_nonneg _ (by omega)
        have q4 : 0 ≤ ((p : Int) * 7 + 3) % (m : Int) := Int.emod_nonneg _ (by omega)
        have q5 : 0 ≤ (p : Int) / (m : Int) := Int.ediv_nonneg (by omega) (by omega)
        have q6 : (p : Int) / (m : Int) ≤ 1000000 := Int.le_trans (Int.ediv_le_self _ (by omega)) (by omega)
        clear hj1 hj2 hj1m hj2m cz1 cz2
        go_enter Tryz.func60, Tryz.ntmps60
        go_wp2_with fail
        go_quiet (fail)
        have x0 : 0 ≤ z1 * 131 + z2 * 1117 + (p : Int) * 29 + (p : Int) / (m : Int) * 53 := by omega
        have x1 : z1 * 131 + z2 * 1117 + (p : Int) * 29 + (p : Int) / (m : Int) * 53 < 1099511627776 := by omega
        generalize z1 * 131 + z2 * 1117 + (p : Int) * 29 + (p : Int) / (m : Int) * 53 = X at x0 x1 ⊢
        have y0 := (xor_i64 X (X / 64) x0 x1 (by omega) (by omega)).1
        have y1 := (xor_i64 X (X / 64) x0 x1 (by omega) (by omega)).2
        go_wp2_with fail
        go_ret
        exact ⟨_, rfl, (pick_lt _ _ h1).1, (pick_lt _ _ h1).2, rd_drewN (rd_step ⟨hB, _, _, _, zs, HG.out, HY.out, hm⟩) _, grown_drewN (grown_setCell' _ _ _ _) _⟩
end Go.Proofs.YtccoeachemnbnaaGreatDoor
namespace Go.Proofs.YtccoeachemnbnaaGreatDoor
open Go.RowKit

theorem Byt.take {B : Nat} {w : World} {a : Option Addr} {n cap : Nat} {zs : List Int} (h : Byt B w a n cap zs) (k : Nat) (hk : k ≤ n) : Byt B w a k cap (zs.take k) := by
  obtain ⟨h1, h2, h3, h4, h5⟩ := h
  have e : ∀ i, i < k → (zs.take k).getD i 0 = zs.getD i 0 := fun i hi => by simp [List.getD, hi]
  refine ⟨by simp; omega, by omega, h3, fun i => ?_, ?_⟩
  · by_cases hi : i < k
    · rw [e i hi]; exact h4 i
    · have : (zs.take k)[i]? = none := List.getElem?_eq_none (by simp; omega)
      simp [List.getD, this]
  · rcases h5 with rfl | ⟨b, off, h6, h7, h8⟩
    · exact .inl (by simp)
    · exact .inr ⟨b, off, h6, h7, fun i hi => by
        have hi' : i < k := by simp at hi; omega
        rw [e i hi']; exact h8 i (by omega)⟩

set_option maxHeartbeats 400000 in
theorem l6Open_any (B : Nat) (a : Option Addr) (n cap : Nat) (zs : List Int) (w : World) (h : Byt B w a n cap zs) (hB : B ≤ w.heap.size) :
    Calls Tryz.prog 39 #[.slice a n cap] w fun e w' => e = .returned (.pointer (some ⟨w.heap.size, 0, none⟩)) ∧ Rd B w' w.heap.size 0 ∧ Below w.heap.size w w' := by
  have hc := h.2.1
  have hm := h.2.2.1
  unfold maxLen at hm
  have HY : Hid (Byt B w a n cap zs) := h
  clear h
  by_cases hn : 2000 < n
  · have hd : decide ((2000 : Int) < (n : Int)) = true := by simp; omega
    go_enter Tryz.func39, Tryz.ntmps39
    go_wp2_with fail
    go_ret
    have hbl : Below w.heap.size w (w.alloc (.cells #[.slice a 2000 cap, .int .i64 0] 111)) := (Below.refl _ _).alloc (Nat.le_refl _) _
    refine ⟨rfl, ⟨hB, a, 2000, cap, zs.take 2000, heap_alloc_new w _, (HY.out.take 2000 (by omega)).same (fun k hk => hbl.block k (by omega)), Nat.le_refl _⟩, hbl⟩
  · have hd : decide ((2000 : Int) < (n : Int)) = false := by simp; omega
    go_enter Tryz.func39, Tryz.ntmps39
    go_wp2_with fail
    go_ret
    have hbl : Below w.heap.size w (w.alloc (.cells #[.slice a n cap, .int .i64 0] 111)) := (Below.refl _ _).alloc (Nat.le_refl _) _
    exact ⟨rfl, ⟨hB, a, n, cap, zs, heap_alloc_new w _, HY.out.same (fun k hk => hbl.block k (by omega)), by omega⟩, hbl⟩

theorem Rd.alloc {B : Nat} {w : World} {g p : Nat} (h : Rd B w g p) (o : Obj) : Rd B (w.alloc o) g p :=
  h.below ((Below.refl w.heap.size w).alloc (Nat.le_refl _) o) h.lt

theorem grown_trans {a b c : World} {g : Nat} (h : a.grownBy b (some g)) (k : b.grownBy c (some g)) : a.grownBy c (some g) :=
  ⟨k.os.trans h.os, k.tape.trans h.tape, k.output.trans h.output, Nat.le_trans h.size k.size, fun i hi hne => (k.block i (Nat.lt_of_lt_of_le hi h.size) hne).trans (h.block i hi hne)⟩
theorem grown_alloc {a b : World} {g : Option Nat} (h : a.grownBy b g) (o : Obj) : a.grownBy (b.alloc o) g :=
  ⟨h.os, h.tape, h.output, by have := h.size; simp; omega, fun i hi hne => by
    rw [Below.heap_alloc b o i (Nat.lt_of_lt_of_le hi h.size)]; exact h.block i hi hne⟩
theorem grown_below {a b c : World} {g : Option Nat} (h : a.grownBy b g) (k : Below b.heap.size b c) : a.grownBy c g :=
  ⟨k.os.trans h.os, k.tape.trans h.tape, k.output.trans h.output, Nat.le_trans h.size k.size, fun i hi hne => (k.block i (Nat.lt_of_lt_of_le hi h.size)).trans (h.block i hi hne)⟩
/-- A cell of a block that was there and is not the reader's. -/
theorem grown_cell {a b : World} {g : Nat} (h : a.grownBy b (some g)) {k o : Nat} (hk : k < a.heap.size) (hne : k ≠ g) : b.cell? ⟨k, o, none⟩ = a.cell? ⟨k, o, none⟩ :=
  World.cell?_of_block (w := a) (h.block k hk (by simpa using hne))

/-- One of the six letters that are drawn. -/
theorem six_cell (w1 w2 : World) (g : Nat) (hg : g < w1.heap.size) (h : (w1.alloc (.cells #[.int .u8 97, .int .u8 98, .int .u8 122, .int .u8 32, .int .u8 48, .int .u8 57] 5)).grownBy w2 (some g)) (x : Int) (h0 : 0 ≤ x) (h1 : x < 6) :
    ∃ z : Int, w2.cell? ⟨w1.heap.size, x.toNat, none⟩ = some (.int .u8 z) ∧ byteB z = true := by
  have e : ∀ o, w2.cell? ⟨w1.heap.size, o, none⟩ = (#[Value.int .u8 97, .int .u8 98, .int .u8 122, .int .u8 32, .int .u8 48, .int .u8 57])[o]? := fun o =>
    (grown_cell h (by simp) (by omega)).trans (cell_of_row _ _ _ _ _ _ (heap_alloc_new w1 _))
  rcases (show x = 0 ∨ x = 1 ∨ x = 2 ∨ x = 3 ∨ x = 4 ∨ x = 5 from by omega) with rfl | rfl | rfl | rfl | rfl | rfl
  · exact ⟨97, e 0, rfl⟩
  · exact ⟨98, e 1, rfl⟩
  · exact ⟨122, e 2, rfl⟩
  · exact ⟨32, e 3, rfl⟩
  · exact ⟨48, e 4, rfl⟩
  · exact ⟨57, e 5, rfl⟩

end Go.Proofs.YtccoeachemnbnaaGreatDoor
namespace Go.Proofs.YtccoeachemnbnaaGreatDoor
open Go.RowKit

/-- Below C nothing but block g has turned. -/
structure Fr (C g : Nat) (w w' : World) : Prop where
  os : w'.os = w.os
  tape : w'.tape = w.tape
  output : w'.output = w.output
  size : w.heap.size ≤ w'.heap.size
  block : ∀ k, k < C → k ≠ g → w'.heap[k]? = w.heap[k]?
theorem Fr.refl (C g : Nat) (w : World) : Fr C g w w := ⟨rfl, rfl, rfl, Nat.le_refl _, fun _ _ _ => rfl⟩
theorem Fr.trans {C g : Nat} {a b c : World} (h : Fr C g a b) (k : Fr C g b c) : Fr C g a c :=
  ⟨k.os.trans h.os, k.tape.trans h.tape, k.output.trans h.output, Nat.le_trans h.size k.size, fun i hi hn => (k.block i hi hn).trans (h.block i hi hn)⟩
theorem Fr.mono {C C' g : Nat} {a b : World} (h : Fr C g a b) (hC : C' ≤ C) : Fr C' g a b := ⟨h.os, h.tape, h.output, h.size, fun i hi hn => h.block i (by omega) hn⟩
theorem Fr.alloc {C g : Nat} {a b : World} (h : Fr C g a b) (hC : C ≤ b.heap.size) (o : Obj) : Fr C g a (b.alloc o) :=
  h.trans ⟨rfl, rfl, rfl, by simp, fun k hk _ => Below.heap_alloc _ _ _ (by omega)⟩
theorem Fr.setCell {C g : Nat} {a b : World} (h : Fr C g a b) {p : Addr} (hp : C ≤ p.block) (u : Value) : Fr C g a (b.setCell p u) :=
  h.trans ⟨rfl, rfl, rfl, by simp [World.setCell], fun k hk _ => Below.heap_setCell _ _ _ _ (by omega)⟩
theorem Fr.grown {C g : Nat} {a b c : World} (h : Fr C g a b) (hg : b.grownBy c (some g)) (hC : C ≤ b.heap.size) : Fr C g a c :=
  h.trans ⟨hg.os, hg.tape, hg.output, hg.size, fun k hk hn => hg.block k (by omega) (by simpa using hn)⟩
theorem Fr.below {C g : Nat} {a b c : World} (h : Fr C g a b) (hb : Below C b c) : Fr C g a c :=
  h.trans ⟨hb.os, hb.tape, hb.output, hb.size, fun k hk _ => hb.block k hk⟩
theorem Fr.grownAt {C g : Nat} {a b c : World} {r : Option Nat} (h : Fr C g a b) (hg : b.grownBy c r) (hC : C ≤ b.heap.size) (hr : ∀ k, r = some k → C ≤ k) : Fr C g a c :=
  h.trans ⟨hg.os, hg.tape, hg.output, hg.size, fun k hk _ => hg.block k (by omega) (fun e => by have := hr k e.symm; omega)⟩
theorem Fr.cell {C g : Nat} {a b : World} (h : Fr C g a b) {k o : Nat} (hk : k < C) (hn : k ≠ g) : b.cell? ⟨k, o, none⟩ = a.cell? ⟨k, o, none⟩ := World.cell?_of_block (w := a) (h.block k hk hn)
theorem Fr.frozen {C g : Nat} {a b : World} (h : Fr C g a b) {k o : Nat} (hk : k < C) (hn : k ≠ g) : b.frozen? ⟨k, o, none⟩ = a.frozen? ⟨k, o, none⟩ := World.frozen?_of_block (w := a) (h.block k hk hn)

theorem own_fr {C g : Nat} {w w' : World} {e size n : Nat} {v : Value} {xs : List Value} (h : w.ownsRow C e size v n xs) (hf : Fr w.heap.size g w w') (hg : g < C) : w'.ownsRow C e size v n xs := by
  refine ⟨h.1, ?_⟩
  rcases h.2 with hn | ⟨k, cap, cur, rfl, hk, hkk, rest⟩
  · exact .inl hn
  · exact .inr ⟨k, cap, cur, rfl, hk, by rw [hf.block k (Array.getElem?_eq_some_iff.1 hkk).1 (by omega)]; exact hkk, rest⟩
theorem Own.fr {C g : Nat} {w w' : World} {v : Value} {l : List Sg} (h : Own w C v l) (hf : Fr w.heap.size g w w') (hg : g < C) : Own w' C v l := own_fr h hf hg
theorem Rd.setCell {B : Nat} {w : World} {g p : Nat} (h : Rd B w g p) {q : Addr} (hq : g < q.block) (u : Value) : Rd B (w.setCell q u) g p := by
  obtain ⟨hB, a, n, c, zs, hg, hy, hn⟩ := h
  exact ⟨hB, a, n, c, zs, (Below.heap_setCell w q u g (by omega)).trans hg, hy.same (fun k hk => Below.heap_setCell w q u k (by omega)), hn⟩
theorem Rd.grownAt {B : Nat} {w w' : World} {g p : Nat} {r : Option Nat} (h : Rd B w g p) (hg : w.grownBy w' r) (hr : ∀ k, r = some k → g < k) : Rd B w' g p := by
  have hlt := h.lt
  obtain ⟨hB, a, n, c, zs, hgg, hy, hn⟩ := h
  exact ⟨hB, a, n, c, zs, (hg.block g hlt (fun e => by have := hr g e.symm; omega)).trans hgg, hy.same (fun k hk => hg.block k (by omega) (fun e => by have := hr k e.symm; omega)), hn⟩

/-- What the append of one sign leaves, in the drawing functions. -/
theorem own_step_fr {C g : Nat} {w wc w1 : World} {a : Option Addr} {k c : Nat} {v' : Value} {l : List Sg} {s : Sg} {o : Obj} (ho : Own wc C (.slice a k c) l) (hf : Fr C g w wc) (hC : C ≤ wc.heap.size)
    (hown : w1.ownsRow C 82 3 v' (k + 1) (flat l ++ sgCells s)) (hgrow : (wc.alloc o).grownBy w1 (Value.slice a k c).ownBlock) :
    ∃ a' c', v' = .slice a' (k + 1) c' ∧ Own w1 C (.slice a' (k + 1) c') (l ++ [s]) ∧ Fr C g w w1 := by
  have hk := ho.len
  have h1 : Own w1 C v' (l ++ [s]) := Own.snoc hown (by omega) rfl
  obtain ⟨a', c', rfl⟩ := h1.shapeN (n := k + 1) (by simp; omega)
  refine ⟨a', c', rfl, h1, ?_⟩
  exact (hf.alloc hC _).grownAt hgrow (by simp; omega) (fun q hq => (ho.row.lt q hq).1)

set_option maxRecDepth 100000 in
set_option maxHeartbeats 4000000 in
theorem l71Text_any (B g p most : Nat) (w : World) (h : Rd B w g p) (hp : p ≤ 900000) (hmost : most ≤ 24) :
    Calls Tryz.prog 89 #[.pointer (some ⟨g, 0, none⟩), .int .i64 (most : Int)] w fun e w' => ∃ (v : Value) (l : List Sg) (q : Nat), e = .returned v ∧ Own w' w.heap.size v l ∧ l.length ≤ most ∧ Rd B w' g q ∧ q ≤ p + 1 + 3 * most ∧ Fr w.heap.size g w w' := by
  have hlt := h.lt
  obtain ⟨i0, hi, hz0, hz1, hz2⟩ := info_parts Tryz.info82
  have HR : Hid (Rd B w g p) := h
  clear h
  go_enter Tryz.func89, Tryz.ntmps89
  go_wp2_with fail
  refine (pick_any B g p ((most : Int) + 1) _ (HR.out.alloc _) (by omega) (by omega) (by omega)).mono ?_
  rintro e w1 ⟨x, rfl, hx0, hx1, hr1, hg1⟩
  go_wp2_with fail
  go_loopw [5, 6] (fun v nv wr => ∃ (a : Option Addr) (m c k q : Nat) (l : List Sg), v = .slice a m c ∧ nv = .int .i64 (k : Int) ∧ m + k ≤ most ∧ q + 3 * k ≤ p + 1 + 3 * most ∧ Own wr w.heap.size (.slice a m c) l ∧ Rd B wr g q ∧ Fr w.heap.size g w wr) (fun _ nv _ => (intOf nv).toNat)
  case atStart =>
    have hf : Fr w.heap.size g w w1 := ((Fr.refl _ _ w).alloc (Nat.le_refl _) _).grown hg1 (by simp)
    refine ⟨some ⟨w.heap.size, 0, none⟩, 0, 0, x.toNat, p + 1, [], rfl, by congr 1; omega, by omega, by omega, ?_, hr1, hf⟩
    exact (World.ownsRow.kept (Own.emptyNew w w.heap.size (Nat.le_refl _)) hg1 (.inr (by simp [Value.ownBlock]; omega)))
  case round =>
    obtain ⟨a, m, c, k, q, l, rfl, rfl, hmk, hqk, ho, hr, hf⟩ := hrel
    have hsz := hf.size
    have hol := ho.len
    by_cases h0 : k = 0
    · subst h0
      clear hr1 hg1
      have HO : Hid (Own wr w.heap.size (.slice a m c) l) := ho
      clear ho
      go_wp2_with fail
      go_ret
      exact ⟨_, l, q, rfl, HO.out, by omega, hr, by omega, hf⟩
    · have HO : Hid (Own wr w.heap.size (.slice a m c) l) := ho
      have HRR : Hid (Rd B wr g q) := hr
      have hgw : g < wr.heap.size := by omega
      have HL : Hid (m = l.length) := hol
      clear ho hr hr1 hg1 hol
      have hpos : (0 : Int) < (k : Int) := by omega
      go_wp2_with fail
      refine (pick_any B g q 6 _ (HRR.out.alloc _) (by omega) (by omega) (by omega)).mono ?_
      rintro e w2 ⟨y, rfl, hy0, hy1, hr2, hg2⟩
      obtain ⟨z, hz, _⟩ := six_cell wr w2 g hgw hg2 y hy0 hy1
      have hf2 : Fr wr.heap.size g wr w2 := ((Fr.refl _ _ wr).alloc (Nat.le_refl _) _).grown hg2 (by simp)
      have z2 := hf2.size
      have HR2 : Hid (Rd B w2 g (q + 1)) := hr2
      clear hr2
      go_wp2_with fail
      refine (pick_any B g (q + 1) 5 _ (HR2.out.alloc _) (by omega) (by omega) (by omega)).mono ?_
      rintro e w3 ⟨u, rfl, hu0, hu1, hr3, hg3⟩
      have z3 := hg3.size
      simp only [World.size_alloc] at z3
      have hf3 : Fr wr.heap.size g wr w3 := (hf2.alloc z2 _).grown hg3 (by simp; omega)
      have e0 : w3.heap[w2.heap.size]? = some (.cells #[.int .u8 z, .int .i64 0, .int .i64 0] 82 (0, 0)) := (hg3.block w2.heap.size (by simp) (by simp; omega)).trans (heap_alloc_new w2 _)
      have HE : Hid (w3.heap[w2.heap.size]? = some (.cells #[.int .u8 z, .int .i64 0, .int .i64 0] 82 (0, 0))) := e0
      have HR3 : Hid (Rd B w3 g (q + 2)) := hr3
      clear hr3 e0 hz
      have hsb : w2.heap.size < w3.heap.size := by omega
      by_cases h0u : u = 0
      · subst h0u
        go_wp2_with fail
        refine (pick_any B g (q + 2) 3 _ HR3.out (by omega) (by omega) (by omega)).mono ?_
        rintro e w4 ⟨x4, rfl, hx40, hx41, hr4, hg4⟩
        have z4 := hg4.size
        have hf4 : Fr wr.heap.size g wr w4 := hf3.grown hg4 (by omega)
        have e4 : w4.heap[w2.heap.size]? = some (.cells #[.int .u8 z, .int .i64 0, .int .i64 0] 82 (0, 0)) := (hg4.block w2.heap.size hsb (by simp; omega)).trans HE.out
        have d0 : w4.cell? ⟨w2.heap.size, 0, none⟩ = some (.int .u8 z) := by rw [cell_of_row w4 _ 0 _ _ _ e4]; rfl
        have d1 : w4.cell? ⟨w2.heap.size, 1, none⟩ = some (.int .i64 0) := by rw [cell_of_row w4 _ 1 _ _ _ e4]; rfl
        have d2 : w4.cell? ⟨w2.heap.size, 2, none⟩ = some (.int .i64 0) := by rw [cell_of_row w4 _ 2 _ _ _ e4]; rfl
        have f1 : w4.frozen? ⟨w2.heap.size, 1, none⟩ = false := frozen_of_row w4 _ 1 _ _ e4
        have f2 : w4.frozen? ⟨w2.heap.size, 2, none⟩ = false := frozen_of_row w4 _ 2 _ _ e4
        clear e4
        have HR4 : Hid (Rd B w4 g (q + 3)) := hr4
        clear hr4
        have HO4 : Hid (Own (w4.setCell ⟨w2.heap.size, 1, none⟩ (.int .i64 (1 + x4))) w.heap.size (.slice a m c) l) := HO.out.fr (hf4.setCell (by simp; omega) _) hlt
        go_wp2_with (at_builtin; refine wpList_append_own _ rfl (.tmp 48) (.tmp 50) 47 rfl w.heap.size 82 i0 (.agg #[.int .u8 0, .int .i64 0, .int .i64 0]) 3 24 Tryz.underlying47 hi hz0 hz1 hz2 rfl (by decide) (.slice a m c) _ _ rfl (HO4.out.row.alloc _) ⟨_, 0, none⟩ 1 1 [.int .u8 z, .int .i64 (1 + x4), .int .i64 0] rfl rfl (by have e := cell_three_new (w4.setCell ⟨w2.heap.size, 1, none⟩ (.int .i64 (1 + x4))) (.int .u8 z) (.int .i64 (1 + x4)) (.int .i64 0) 82; simpa using e) (three_oneCell _ _ _) (by unfold maxLen; omega) (by omega) (by simp; omega) ?_; intro v' w9 hown' hgrow _)
        obtain ⟨a', c', rfl, ho9, hf9⟩ := own_step_fr (s := (z, 1 + x4, 0)) HO4.out (hf.trans ((hf4.setCell (by simp; omega) _).mono hsz)) (by simp; omega) hown' hgrow
        have hr9 : Rd B w9 g (q + 3) := ((HR4.out.setCell (by simp; omega) _).alloc _).grownAt hgrow (fun k hk => by have := ((HO4.out).row.lt k hk).1; omega)
        go_roundw
        case rel => exact ⟨a', m + 1, c', k - 1, q + 3, _, rfl, by congr 1; omega, by omega, by omega, ho9, hr9, hf9⟩
        case measure => simp [intOf]; omega
      · have g0 : (u == 0) = false := by simp; omega
        by_cases h1u : u = 1
        · subst h1u
          go_wp2_with fail
          refine (pick_any B g (q + 2) 3 _ HR3.out (by omega) (by omega) (by omega)).mono ?_
          rintro e w4 ⟨x4, rfl, hx40, hx41, hr4, hg4⟩
          have z4 := hg4.size
          have hf4 : Fr wr.heap.size g wr w4 := hf3.grown hg4 (by omega)
          have e4 : w4.heap[w2.heap.size]? = some (.cells #[.int .u8 z, .int .i64 0, .int .i64 0] 82 (0, 0)) := (hg4.block w2.heap.size hsb (by simp; omega)).trans HE.out
          have d0 : w4.cell? ⟨w2.heap.size, 0, none⟩ = some (.int .u8 z) := by rw [cell_of_row w4 _ 0 _ _ _ e4]; rfl
          have d1 : w4.cell? ⟨w2.heap.size, 1, none⟩ = some (.int .i64 0) := by rw [cell_of_row w4 _ 1 _ _ _ e4]; rfl
          have d2 : w4.cell? ⟨w2.heap.size, 2, none⟩ = some (.int .i64 0) := by rw [cell_of_row w4 _ 2 _ _ _ e4]; rfl
          have f1 : w4.frozen? ⟨w2.heap.size, 1, none⟩ = false := frozen_of_row w4 _ 1 _ _ e4
          have f2 : w4.frozen? ⟨w2.heap.size, 2, none⟩ = false := frozen_of_row w4 _ 2 _ _ e4
          clear e4
          have HR4 : Hid (Rd B w4 g (q + 3)) := hr4
          clear hr4
          have HO4 : Hid (Own (w4.setCell ⟨w2.heap.size, 2, none⟩ (.int .i64 (1 + x4))) w.heap.size (.slice a m c) l) := HO.out.fr (hf4.setCell (by simp; omega) _) hlt
          go_wp2_with (at_builtin; refine wpList_append_own _ rfl (.tmp 48) (.tmp 50) 47 rfl w.heap.size 82 i0 (.agg #[.int .u8 0, .int .i64 0, .int .i64 0]) 3 24 Tryz.underlying47 hi hz0 hz1 hz2 rfl (by decide) (.slice a m c) _ _ rfl (HO4.out.row.alloc _) ⟨_, 0, none⟩ 1 1 [.int .u8 z, .int .i64 0, .int .i64 (1 + x4)] rfl rfl (by have e := cell_three_new (w4.setCell ⟨w2.heap.size, 2, none⟩ (.int .i64 (1 + x4))) (.int .u8 z) (.int .i64 0) (.int .i64 (1 + x4)) 82; simpa using e) (three_oneCell _ _ _) (by unfold maxLen; omega) (by omega) (by simp; omega) ?_; intro v' w9 hown' hgrow _)
          obtain ⟨a', c', rfl, ho9, hf9⟩ := own_step_fr (s := (z, 0, 1 + x4)) HO4.out (hf.trans ((hf4.setCell (by simp; omega) _).mono hsz)) (by simp; omega) hown' hgrow
          have hr9 : Rd B w9 g (q + 3) := ((HR4.out.setCell (by simp; omega) _).alloc _).grownAt hgrow (fun k hk => by have := ((HO4.out).row.lt k hk).1; omega)
          go_roundw
          case rel => exact ⟨a', m + 1, c', k - 1, q + 3, _, rfl, by congr 1; omega, by omega, by omega, ho9, hr9, hf9⟩
          case measure => simp [intOf]; omega
        · have g1 : (u == 1) = false := by simp; omega
          by_cases h2u : u = 2
          · subst h2u
            go_wp2_with fail
            refine (pick_any B g (q + 2) 3 _ HR3.out (by omega) (by omega) (by omega)).mono ?_
            rintro e w4 ⟨x4, rfl, hx40, hx41, hr4, hg4⟩
            have z4 := hg4.size
            have hf4 : Fr wr.heap.size g wr w4 := hf3.grown hg4 (by omega)
            have e4 : w4.heap[w2.heap.size]? = some (.cells #[.int .u8 z, .int .i64 0, .int .i64 0] 82 (0, 0)) := (hg4.block w2.heap.size hsb (by simp; omega)).trans HE.out
            have d0 : w4.cell? ⟨w2.heap.size, 0, none⟩ = some (.int .u8 z) := by rw [cell_of_row w4 _ 0 _ _ _ e4]; rfl
            have d1 : w4.cell? ⟨w2.heap.size, 1, none⟩ = some (.int .i64 0) := by rw [cell_of_row w4 _ 1 _ _ _ e4]; rfl
            have d2 : w4.cell? ⟨w2.heap.size, 2, none⟩ = some (.int .i64 0) := by rw [cell_of_row w4 _ 2 _ _ _ e4]; rfl
            have f1 : w4.frozen? ⟨w2.heap.size, 1, none⟩ = false := frozen_of_row w4 _ 1 _ _ e4
            have f2 : w4.frozen? ⟨w2.heap.size, 2, none⟩ = false := frozen_of_row w4 _ 2 _ _ e4
            clear e4
            have HR4 : Hid (Rd B w4 g (q + 3)) := hr4
            clear hr4
            have HO4 : Hid (Own ((w4.setCell ⟨w2.heap.size, 1, none⟩ (.int .i64 (1 + x4))).setCell ⟨w2.heap.size, 2, none⟩ (.int .i64 ((1 + x4) % 3 + 1))) w.heap.size (.slice a m c) l) := HO.out.fr ((hf4.setCell (by simp; omega) _).setCell (by simp; omega) _) hlt
            go_wp2_with (at_builtin; refine wpList_append_own _ rfl (.tmp 48) (.tmp 50) 47 rfl w.heap.size 82 i0 (.agg #[.int .u8 0, .int .i64 0, .int .i64 0]) 3 24 Tryz.underlying47 hi hz0 hz1 hz2 rfl (by decide) (.slice a m c) _ _ rfl (HO4.out.row.alloc _) ⟨_, 0, none⟩ 1 1 [.int .u8 z, .int .i64 (1 + x4), .int .i64 ((1 + x4) % 3 + 1)] rfl rfl (by have e := cell_three_new ((w4.setCell ⟨w2.heap.size, 1, none⟩ (.int .i64 (1 + x4))).setCell ⟨w2.heap.size, 2, none⟩ (.int .i64 ((1 + x4) % 3 + 1))) (.int .u8 z) (.int .i64 (1 + x4)) (.int .i64 ((1 + x4) % 3 + 1)) 82; simpa using e) (three_oneCell _ _ _) (by unfold maxLen; omega) (by omega) (by simp; omega) ?_; intro v' w9 hown' hgrow _)
            obtain ⟨a', c', rfl, ho9, hf9⟩ := own_step_fr (s := (z, 1 + x4, (1 + x4) % 3 + 1)) HO4.out (hf.trans (((hf4.setCell (by simp; omega) _).setCell (by simp; omega) _).mono hsz)) (by simp; omega) hown' hgrow
            have hr9 : Rd B w9 g (q + 3) := (((HR4.out.setCell (by simp; omega) _).setCell (by simp; omega) _).alloc _).grownAt hgrow (fun k hk => by have := ((HO4.out).row.lt k hk).1; omega)
            go_roundw
            case rel => exact ⟨a', m + 1, c', k - 1, q + 3, _, rfl, by congr 1; omega, by omega, by omega, ho9, hr9, hf9⟩
            case measure => simp [intOf]; omega
          · have g2 : (u == 2) = false := by simp; omega
            have d0 : w3.cell? ⟨w2.heap.size, 0, none⟩ = some (.int .u8 z) := by rw [cell_of_row w3 _ 0 _ _ _ HE.out]; rfl
            have d1 : w3.cell? ⟨w2.heap.size, 1, none⟩ = some (.int .i64 0) := by rw [cell_of_row w3 _ 1 _ _ _ HE.out]; rfl
            have d2 : w3.cell? ⟨w2.heap.size, 2, none⟩ = some (.int .i64 0) := by rw [cell_of_row w3 _ 2 _ _ _ HE.out]; rfl
            have HO3 : Hid (Own w3 w.heap.size (.slice a m c) l) := HO.out.fr hf3 hlt
            go_wp2_with (at_builtin; refine wpList_append_own _ rfl (.tmp 48) (.tmp 50) 47 rfl w.heap.size 82 i0 (.agg #[.int .u8 0, .int .i64 0, .int .i64 0]) 3 24 Tryz.underlying47 hi hz0 hz1 hz2 rfl (by decide) (.slice a m c) _ _ rfl (HO3.out.row.alloc _) ⟨_, 0, none⟩ 1 1 [.int .u8 z, .int .i64 0, .int .i64 0] rfl rfl (by have e := cell_three_new (w3) (.int .u8 z) (.int .i64 0) (.int .i64 0) 82; simpa using e) (three_oneCell _ _ _) (by unfold maxLen; omega) (by omega) (by simp; omega) ?_; intro v' w9 hown' hgrow _)
            obtain ⟨a', c', rfl, ho9, hf9⟩ := own_step_fr (s := (z, 0, 0)) HO3.out (hf.trans (hf3.mono hsz)) (by omega) hown' hgrow
            have hr9 : Rd B w9 g (q + 2) := ((HR3.out).alloc _).grownAt hgrow (fun k hk => by have := ((HO3.out).row.lt k hk).1; omega)
            go_roundw
            case rel => exact ⟨a', m + 1, c', k - 1, q + 2, _, rfl, by congr 1; omega, by omega, by omega, ho9, hr9, hf9⟩
            case measure => simp [intOf]; omega
end Go.Proofs.YtccoeachemnbnaaGreatDoor
namespace Go.Proofs.YtccoeachemnbnaaGreatDoor
open Go.RowKit

theorem OwnT.fr {C g : Nat} {w w' : World} {v : Value} {rs : List Rw} {l : List Cl} (h : OwnT w C v rs l) (hf : Fr w.heap.size g w w') (hg : g < C) : OwnT w' C v rs l :=
  ⟨own_fr h.1 hf hg, h.2.1, fun k hk => by
    obtain ⟨h0, h1, h2, h3, h4⟩ := h.2.2.1 k hk
    exact ⟨h0, h1, h2, h3, own_fr h4 hf hg⟩, h.2.2.2⟩
theorem RowAt.fr {g b : Nat} {w w' : World} {cs : Array Value} {ty : TypeId} (h : RowAt w b cs ty) (hf : Fr w.heap.size g w w') (hne : b ≠ g) : RowAt w' b cs ty := (hf.block b h.lt hne).trans h
theorem fr_grown {g : Nat} {w w' : World} (h : w.grownBy w' (some g)) : Fr w.heap.size g w w' := (Fr.refl _ _ _).grown h (Nat.le_refl _)
theorem fr_below {g : Nat} {w w' : World} (h : Below w.heap.size w w') : Fr w.heap.size g w w' := (Fr.refl _ _ _).below h
/-- What a call gives that answers a table and whether there is one, told by one. -/
def FResM (ok : Bool) (X Y : Int) (L : List Cl) (B : Nat) (x y : Int) (a : Option Addr) (n c : Nat) (l' : List Cl) (g : Bool) (w' : World) : Prop := (∃ rs, OwnT w' B (.slice a n c) rs l') ∧ g = ok ∧ (g = true → x = X ∧ y = Y ∧ l' = L)
theorem fResM_of {ok : Bool} {X Y : Int} {L : List Cl} {w w' : World} {z : Ending} (h : TabRes w.heap.size ok X Y L z w' ∧ Below w.heap.size w w') :
    (∃ x y a n c l' g, z = .returned (.tuple #[.agg #[.int .i64 x, .int .i64 y, .slice a n c], .bool g]) ∧ FResM ok X Y L w.heap.size x y a n c l' g w') ∧ Below w.heap.size w w' := by
  obtain ⟨h1 | h1, hb⟩ := h
  · obtain ⟨h2, rfl⟩ := h1
    exact ⟨⟨0, 0, none, 0, 0, [], false, rfl, ⟨[], OwnR.nil _ _, TxtOwn.nil _ _ _⟩, h2.symm, fun e => absurd e (by simp)⟩, hb⟩
  · obtain ⟨h2, a, c, rs, rfl, ho⟩ := h1
    exact ⟨⟨X, Y, a, _, c, _, true, rfl, ⟨rs, ho⟩, h2.symm, fun _ => ⟨rfl, rfl, rfl⟩⟩, hb⟩
/-- A table that was drawn: few cells, short texts. -/
def TabSm (R C : Nat) (l : List Cl) : Prop := (1 ≤ R ∧ R ≤ 4) ∧ (1 ≤ C ∧ C ≤ 4) ∧ (1 ≤ l.length ∧ l.length ≤ 25) ∧ ∀ x ∈ l, x.2.2.2.2.length ≤ 24
theorem newC_len (C : Nat) : ∀ i j, (newC C i j).length = i * C + j
  | 0, j => by
    induction j with
    | zero => simp [newC]
    | succ j ih => rw [newC_succ, List.length_append, ih]; simp
  | i + 1, 0 => by rw [← newC_row, newC_len C i C, Nat.succ_mul]; rfl
  | i + 1, j + 1 => by
    rw [newC_succ, List.length_append, newC_len C (i + 1) j]
    rfl
theorem tabSm_new (R C : Nat) (hR : 1 ≤ R ∧ R ≤ 4) (hC : 1 ≤ C ∧ C ≤ 4) : TabSm R C (newL R C) := by
  have hl : (newL R C).length = R * C := newC_len C R 0
  have h1 : 1 * 1 ≤ R * C := Nat.mul_le_mul hR.1 hC.1
  have h2 : R * C ≤ 4 * 4 := Nat.mul_le_mul hR.2 hC.2
  refine ⟨hR, hC, by omega, fun x hx => ?_⟩
  unfold newL at hx
  rw [newC_map] at hx
  obtain ⟨y, hy, rfl⟩ := List.mem_map.1 hx
  simp [rwCl]
theorem tabSm_merge {R C : Nat} {l : List Cl} {r c d g : Int} (h : TabSm R C l) (hm : mergeB R C l r c d g = true) : TabSm R C (mergeL l r c d g) := by
  obtain ⟨hR, hC, hl, ht⟩ := h
  simp only [mergeB, Bool.and_eq_true, decide_eq_true_eq] at hm
  have hlen : (mergeL l r c d g).length = (mOut r.toNat c.toNat d.toNat g.toNat l).length + 1 := by
    show (sortC (mergeM l r c d g)).length = _
    rw [(sortC_perm _).length_eq]
    simp [mergeM]
  have hsum : (mOut r.toNat c.toNat d.toNat g.toNat l).length + mN r.toNat c.toNat d.toNat g.toNat l ≤ l.length := by
    unfold mOut mN
    clear hlen hm ht hl
    induction l with
    | nil => simp
    | cons x l ih =>
      rw [List.filter_cons, List.filter_cons, List.length_cons]
      have hno : ¬ (outsB r.toNat c.toNat d.toNat g.toNat x = true ∧ fullB r.toNat c.toNat d.toNat g.toNat x = true) := by
        rintro ⟨h1, h2⟩
        have h1' := of_decide_eq_true h1
        have h2' := of_decide_eq_true h2
        exact h2'.1 h1'
      cases h1 : outsB r.toNat c.toNat d.toNat g.toNat x <;> cases h2 : fullB r.toNat c.toNat d.toNat g.toNat x <;> simp_all <;> omega
  refine ⟨hR, hC, by omega, fun x hx => ?_⟩
  have hx' : x ∈ mergeM l r c d g := (sortC_perm _).mem_iff.1 hx
  unfold mergeM at hx'
  rcases List.mem_append.1 hx' with h1 | h1
  · exact ht x (List.mem_filter.1 h1).1
  · simp only [List.mem_singleton] at h1
    subst h1
    have := hm.2
    simp only [textB, Bool.and_eq_true, decide_eq_true_eq] at this
    exact this.1
/-- A text of a row is written. -/
theorem OwnT.putT {w : World} {B q n c : Nat} {rs : List Rw} {l : List Cl} (h : OwnT w B (.slice (some ⟨q, 0, none⟩) n c) rs l) (i : Nat) (hi : i < rs.length) (pa : Option Addr) (pn pc : Nat) (tx : List Sg)
    (hO : Own w B (.slice pa pn pc) tx) (hd : ∀ k, k < rs.length → ∀ b, (rwT (rs.getD k rw0)).ownBlock = some b → (Value.slice pa pn pc).ownBlock ≠ some b) :
    OwnT (w.setCell ⟨q, i * 5 + 4, none⟩ (.slice pa pn pc)) B (.slice (some ⟨q, 0, none⟩) n c) (rs.set i ((rs.getD i rw0).1, (rs.getD i rw0).2.1, (rs.getD i rw0).2.2.1, (rs.getD i rw0).2.2.2.1, pa, pn, pc)) (l.set i ((l.getD i cl0).1, (l.getD i cl0).2.1, (l.getD i cl0).2.2.1, (l.getD i cl0).2.2.2.1, tx)) := by
  have hl := h.2.1
  have hn := h.1.len
  obtain ⟨p0, _⟩ := h.1.row.stored (i * 5 + 4) (.slice pa pn pc)
  rw [flat5_put rs i 4 hi (by omega) _ ((rs.getD i rw0).1, (rs.getD i rw0).2.1, (rs.getD i rw0).2.2.1, (rs.getD i rw0).2.2.2.1, pa, pn, pc) rfl] at p0
  have t0 := h.2.set ⟨q, i * 5 + 4, none⟩ (.slice pa pn pc) rfl
  have hk0 : ∀ b, (Value.slice pa pn pc).ownBlock = some b → (Value.slice (some ⟨q, 0, none⟩) n c).ownBlock ≠ some b := own_kinds h.1.row hO.row (by decide)
  have hO' : Own (w.setCell ⟨q, i * 5 + 4, none⟩ (.slice pa pn pc)) B (.slice pa pn pc) tx := own_set hO _ _ (fun e => hk0 _ e rfl)
  refine ⟨?_, by simp [hl], fun k hk' => ?_, fun k hk' b hb => ?_, fun a b hab hb z hz => ?_⟩
  · unfold OwnR
    rw [List.length_set, ← hn]
    exact p0
  · simp only [List.length_set] at hk'
    by_cases hki : i = k
    · subst hki
      rw [getD_setE _ _ _ _ hi, getD_setE _ _ _ _ (by omega)]
      obtain ⟨h0, h1, h2, h3, _⟩ := t0.2.1 i hk'
      exact ⟨h0, h1, h2, h3, hO'⟩
    · rw [getD_setN _ _ _ _ _ hki, getD_setN _ _ _ _ _ hki]
      exact t0.2.1 k hk'
  · simp only [List.length_set] at hk'
    by_cases hki : i = k
    · subst hki
      rw [getD_setE _ _ _ _ hi] at hb
      exact hk0 b hb
    · rw [getD_setN _ _ _ _ _ hki] at hb
      exact t0.2.2.1 k hk' b hb
  · simp only [List.length_set] at hb
    by_cases hai : i = a
    · subst hai
      rw [getD_setE _ _ _ _ hi] at hz
      rw [getD_setN _ _ _ _ _ (by omega)]
      intro e
      exact hd b hb z e hz
    · rw [getD_setN _ _ _ _ _ hai] at hz
      by_cases hbi : i = b
      · subst hbi
        rw [getD_setE _ _ _ _ hi]
        exact hd a (by omega) z hz
      · rw [getD_setN _ _ _ _ _ hbi]
        exact t0.2.2.2 a b hab hb z hz
end Go.Proofs.YtccoeachemnbnaaGreatDoor
namespace Go.Proofs.YtccoeachemnbnaaGreatDoor
open Go.RowKit

/-- A fact on a world that stays where, of what is old, nothing but block g has turned. -/
def MonoF (g : Nat) (p : World → Prop) : Prop := ∀ u u' : World, p u → Fr u.heap.size g u u' → p u'
/-- What a walk over a reader at g carries. -/
structure HdF (w0 : World) (C g : Nat) (rs : List (Nat × Array Value × TypeId)) (ps : List (World → Prop)) (u : World) : Prop where
  frame : Fr C g w0 u
  base : C ≤ u.heap.size
  row : ∀ r ∈ rs, r.1 ≠ g ∧ RowAt u r.1 r.2.1 r.2.2
  fact : ∀ p ∈ ps, MonoF g p ∧ p u
section
variable {w0 u u' : World} {C g : Nat} {rs : List (Nat × Array Value × TypeId)} {ps : List (World → Prop)}
theorem hdF_go (h : Hid (HdF w0 C g rs ps u)) (hf : Fr u.heap.size g u u') : Hid (HdF w0 C g rs ps u') :=
  ⟨h.out.frame.trans (hf.mono h.out.base), Nat.le_trans h.out.base hf.size, fun r hr => ⟨(h.out.row r hr).1, (h.out.row r hr).2.fr hf (h.out.row r hr).1⟩, fun p hp => ⟨(h.out.fact p hp).1, (h.out.fact p hp).1 u u' (h.out.fact p hp).2 hf⟩⟩
theorem hdF_start (w : World) (g : Nat) : Hid (HdF w w.heap.size g [] [] w) := ⟨Fr.refl _ _ _, Nat.le_refl _, fun r hr => absurd hr (by simp), fun p hp => absurd hp (by simp)⟩
theorem hdF_add (h : Hid (HdF w0 C g rs ps u)) (p : World → Prop) (hm : MonoF g p) (hp : p u) : Hid (HdF w0 C g rs (p :: ps) u) :=
  ⟨h.out.frame, h.out.base, h.out.row, fun q hq => by
    rcases List.mem_cons.1 hq with rfl | hq
    · exact ⟨hm, hp⟩
    · exact h.out.fact q hq⟩
theorem hdF_row (h : Hid (HdF w0 C g rs ps u)) (X : Nat) (cs : Array Value) (ty : TypeId) (hX : X ≠ g) (hr : RowAt u X cs ty) : Hid (HdF w0 C g ((X, cs, ty) :: rs) ps u) :=
  ⟨h.out.frame, h.out.base, fun r hq => by
    rcases List.mem_cons.1 hq with rfl | hq
    · exact ⟨hX, hr⟩
    · exact h.out.row r hq, h.out.fact⟩
theorem hdF_box (h : Hid (HdF w0 C g rs ps u)) (hg : g < u.heap.size) (cs : Array Value) (ty : TypeId) : Hid (HdF w0 C g ((u.heap.size, cs, ty) :: rs) ps (u.alloc (.cells cs ty))) :=
  hdF_row (hdF_go h (fr_below ((Below.refl _ _).alloc (Nat.le_refl _) _))) _ _ _ (by omega) (rowAt_new _ _ _)
theorem hdF_less {r : Nat × Array Value × TypeId} (h : Hid (HdF w0 C g (r :: rs) ps u)) : Hid (HdF w0 C g rs ps u) :=
  ⟨h.out.frame, h.out.base, fun q hq => h.out.row q (List.mem_cons_of_mem _ hq), h.out.fact⟩
end
end Go.Proofs.YtccoeachemnbnaaGreatDoor
namespace Go.Proofs.YtccoeachemnbnaaGreatDoor
open Go.RowKit

theorem rb_getD_set_self {l : List Rb} {i : Nat} {x : Rb} (h : i < l.length) : (l.set i x).getD i rb0 = x := by simp [List.getD, h]
theorem rb_getD_set_other {l : List Rb} {i k : Nat} {x : Rb} (h : i ≠ k) : (l.set i x).getD k rb0 = l.getD k rb0 := by simp [List.getD, List.getElem?_set_ne h]
theorem bl_getD_set_self {l : List Bl} {i : Nat} {x : Bl} (h : i < l.length) : (l.set i x).getD i bl0 = x := by simp [List.getD, h]
theorem bl_getD_set_other {l : List Bl} {i k : Nat} {x : Bl} (h : i ≠ k) : (l.set i x).getD k bl0 = l.getD k bl0 := by simp [List.getD, List.getElem?_set_ne h]
theorem flat6_set (rbs : List Rb) (m j : Nat) (hm : m < rbs.length) (hj : j < 6) (u : Value) (x : Rb) (hx : rbCells x = (rbCells (rbs.getD m rb0)).set j u) : (flat6 rbs).set (m * 6 + j) u = flat6 (rbs.set m x) := by
  apply List.ext_getElem?
  intro i
  have hlen := flat6_length rbs
  by_cases hi : i < rbs.length * 6
  · have hi6 : i = i / 6 * 6 + i % 6 := by omega
    have hk : i / 6 < rbs.length := by omega
    have hr : i % 6 < 6 := by omega
    generalize i / 6 = k at hi6 hk
    generalize i % 6 = r at hi6 hr
    subst hi6
    rw [flat6_get (rbs.set m x) k (by simpa using hk) r hr]
    by_cases hkm : m = k
    · subst hkm
      rw [rb_getD_set_self hm, hx]
      by_cases hjr : j = r
      · subst hjr
        rw [List.getElem?_set_self (by omega), List.getElem?_set_self (by simp [rbCells]; omega)]
      · rw [List.getElem?_set_ne (by omega), List.getElem?_set_ne hjr]
        exact flat6_get rbs m hk r hr
    · rw [rb_getD_set_other hkm, List.getElem?_set_ne (by omega)]
      exact flat6_get rbs k hk r hr
  · rw [List.getElem?_eq_none (by simp; omega), List.getElem?_eq_none (by rw [flat6_length]; simp; omega)]
/-- The row of a document's blocks behind a store into one of its cells. -/
theorem rows_set {w : World} {B g n c : Nat} {rbs : List Rb} (h : w.ownsRow B 56 6 (.slice (some ⟨g, 0, none⟩) n c) rbs.length (flat6 rbs)) (m j : Nat) (hm : m < rbs.length) (hj : j < 6) (u : Value) (x : Rb) (hx : rbCells x = (rbCells (rbs.getD m rb0)).set j u) : (w.setCell ⟨g, m * 6 + j, none⟩ u).ownsRow B 56 6 (.slice (some ⟨g, 0, none⟩) n c) (rbs.set m x).length (flat6 (rbs.set m x)) := by
  have hn : n = rbs.length := by
    rcases h.2 with ⟨hv, _⟩ | ⟨g', cap, cur, hv, _⟩
    · cases hv
    · simp only [Value.slice.injEq] at hv
      exact hv.2.1
  subst hn
  have := (h.stored (m * 6 + j) u).1
  rw [flat6_set rbs m j hm hj u x hx] at this
  rw [List.length_set]
  exact this
theorem BlsOwn.upd {w w' : World} {B E : Nat} {rbs : List Rb} {d : List Bl} (h : BlsOwn w B E rbs d) (hk : Kept B E w w') (m : Nat) (x : Rb) (y : Bl) (hxy : ∀ lo mid hi, BlOwn w' lo mid hi (rbs.getD m rb0) (d.getD m bl0) → BlOwn w' lo mid hi x y) : BlsOwn w' B E (rbs.set m x) (d.set m y) := by
  obtain ⟨h0, lo, mid, hi, h1, h2⟩ := h.kept hk
  refine ⟨by simp [h0], lo, mid, hi, fun k hk => ?_, fun k hk => h2 k (by simpa using hk)⟩
  simp only [List.length_set] at hk
  obtain ⟨a, b, c⟩ := h1 k hk
  refine ⟨a, b, ?_⟩
  by_cases e : m = k
  · subst e
    rw [rb_getD_set_self (by omega), bl_getD_set_self hk]
    exact hxy _ _ _ c
  · rw [rb_getD_set_other e, bl_getD_set_other e]
    exact c
theorem docOwn_kind {w : World} {B E g n c : Nat} {rbs : List Rb} {d : List Bl} (h : DocOwn w B E (.slice (some ⟨g, 0, none⟩) n c) rbs d) (m : Nat) (hm : m < d.length) (k : Int) : DocOwn (w.setCell ⟨g, m * 6, none⟩ (.int .i64 k)) B E (.slice (some ⟨g, 0, none⟩) n c) (rbs.set m (k, (rbs.getD m rb0).2)) (d.set m (k, (d.getD m bl0).2)) := by
  have hl := h.2.2.1
  obtain ⟨cur, hcur⟩ := own_rowAt h.1
  refine docOwn_of ?_ h.2.1 (h.bls.upd (kept_set hcur _ _ _ _) m _ _ (fun lo mid hi hb => ⟨⟨rfl, hb.1.2⟩, hb.2⟩))
  have := rows_set h.1 m 0 (by omega) (by omega) (.int .i64 k) (k, (rbs.getD m rb0).2) rfl
  rwa [Nat.add_zero] at this
theorem docOwn_level {w : World} {B E g n c : Nat} {rbs : List Rb} {d : List Bl} (h : DocOwn w B E (.slice (some ⟨g, 0, none⟩) n c) rbs d) (m : Nat) (hm : m < d.length) (v : Int) : DocOwn (w.setCell ⟨g, m * 6 + 1, none⟩ (.int .i64 v)) B E (.slice (some ⟨g, 0, none⟩) n c) (rbs.set m ((rbs.getD m rb0).1, v, (rbs.getD m rb0).2.2)) (d.set m ((d.getD m bl0).1, v, (d.getD m bl0).2.2)) := by
  have hl := h.2.2.1
  obtain ⟨cur, hcur⟩ := own_rowAt h.1
  refine docOwn_of ?_ h.2.1 (h.bls.upd (kept_set hcur _ _ _ _) m _ _ (fun lo mid hi hb => ⟨⟨hb.1.1, rfl, hb.1.2.2⟩, hb.2⟩))
  exact rows_set h.1 m 1 (by omega) (by omega) (.int .i64 v) _ rfl
/-- A document's row is read. -/
theorem docOwn_at {w : World} {B E : Nat} {pa : Option Addr} {n pc : Nat} {rbs : List Rb} {d : List Bl} (h : DocOwn w B E (.slice pa n pc) rbs d) {i : Nat} (hi : i < n) : ∃ g, pa = some ⟨g, 0, none⟩ ∧ B ≤ g ∧ g < w.heap.size ∧ (∀ j, j < 6 → w.cell? ⟨g, i * 6 + j, none⟩ = (rbCells (rbs.getD i rb0))[j]?) ∧ ∀ j, w.frozen? ⟨g, i * 6 + j, none⟩ = false := by
  have hn := h.len
  have hl := h.2.2.1
  have hr := h.1
  rcases hr.2 with ⟨hv, h0⟩ | ⟨g, cap, cur, hv, hg, hgg, _⟩
  · omega
  · simp only [Value.slice.injEq] at hv
    obtain ⟨rfl, h6, rfl⟩ := hv
    rw [← h6] at hr
    refine ⟨g, rfl, hg, (Array.getElem?_eq_some_iff.1 hgg).1, fun j hj => ?_, fun j => hr.frozenAt _⟩
    rw [hr.cellAt (i * 6 + j) (by omega)]
    exact flat6_get rbs i (by omega) j hj
end Go.Proofs.YtccoeachemnbnaaGreatDoor
namespace Go.Proofs.YtccoeachemnbnaaGreatDoor
open Go.RowKit

/-- What stays while a table is drawn. -/
def TInv (B g T R C : Nat) (w : World) (a : Option Addr) (n c : Nat) (rs : List Rw) (l : List Cl) (q : Nat) (w' : World) : Prop :=
  RowAt w' T #[.int .i64 R, .int .i64 C, .slice a n c] 54 ∧ OwnT w' w.heap.size (.slice a n c) rs l ∧ RowAt w' w.heap.size #[.int .i64 0, .int .i64 0, .slice none 0 0] 54 ∧ Rd B w' g q ∧ Fr w.heap.size g w w' ∧ T < w'.heap.size ∧ w.heap.size < T ∧ g < w.heap.size

variable {B g T R C : Nat} {w : World} {a : Option Addr} {n c : Nat} {rs : List Rw} {l : List Cl} {q q' : Nat} {w' w'' : World}

theorem TInv.fr (h : TInv B g T R C w a n c rs l q w') (hf : Fr w'.heap.size g w' w'') (hr : Rd B w'' g q') : TInv B g T R C w a n c rs l q' w'' := by
  obtain ⟨h1, h2, h3, h4, h5, h6, h7, h8⟩ := h
  have s := hf.size
  exact ⟨h1.fr hf (by omega), h2.fr hf h8, h3.fr hf (by omega), hr, h5.trans (hf.mono (by omega)), by omega, h7, h8⟩
theorem TInv.grown (h : TInv B g T R C w a n c rs l q w') (hg : w'.grownBy w'' (some g)) (hr : Rd B w'' g q') : TInv B g T R C w a n c rs l q' w'' := h.fr (fr_grown hg) hr
theorem TInv.below (h : TInv B g T R C w a n c rs l q w') (hb : Below w'.heap.size w' w'') : TInv B g T R C w a n c rs l q w'' :=
  h.fr (fr_below hb) (h.2.2.2.1.below hb h.2.2.2.1.lt)
theorem TInv.alloc (h : TInv B g T R C w a n c rs l q w') (o : Obj) : TInv B g T R C w a n c rs l q (w'.alloc o) := h.below ((Below.refl _ _).alloc (Nat.le_refl _) o)
theorem TInv.row (h : TInv B g T R C w a n c rs l q w') : RowAt w' T #[.int .i64 R, .int .i64 C, .slice a n c] 54 := h.1
theorem TInv.rd (h : TInv B g T R C w a n c rs l q w') : Rd B w' g q := h.2.2.2.1
theorem TInv.own (h : TInv B g T R C w a n c rs l q w') : OwnT w' w.heap.size (.slice a n c) rs l := h.2.1
/-- A row besides, above all: written anew it leaves all as it is. -/
theorem TInv.setRow (h : TInv B g T R C w a n c rs l q w') (X : Nat) {old : Array Value} (hX : RowAt w' X old 54) (hT : T < X) (cs : Array Value) : TInv B g T R C w a n c rs l q (w'.setRow X cs) := by
  obtain ⟨h1, h2, h3, h4, h5, h6, h7, h8⟩ := h
  refine ⟨h1.setRowOther X cs (by omega), ⟨own_row h2.1 X cs (rowAt_ne hX h2.1 (by decide)), ?_⟩, h3.setRowOther X cs (by omega), h4.below (below_row (Below.refl X w') (Nat.le_refl _) cs) (by omega), h5.below (below_row (Below.refl _ w') (by omega) cs), ?_, h7, h8⟩
  · exact ⟨h2.2.1, fun k hk => by
      obtain ⟨e1, e2, e3, e4, e5⟩ := h2.2.2.1 k hk
      exact ⟨e1, e2, e3, e4, own_row e5 X cs (rowAt_ne hX e5 (by decide))⟩, h2.2.2.2⟩
  · have := below_row (Below.refl X w') (Nat.le_refl _) cs
    have := this.size
    omega
theorem OwnT.setRowT {B X : Nat} {v : Value} {rs : List Rw} {l : List Cl} {old : Array Value} {w' : World} (h : OwnT w' B v rs l) (hX : RowAt w' X old 54) (cs : Array Value) : OwnT (w'.setRow X cs) B v rs l :=
  ⟨own_row h.1 X cs (rowAt_ne hX h.1 (by decide)), h.2.1, fun k hk => by
      obtain ⟨e1, e2, e3, e4, e5⟩ := h.2.2.1 k hk
      exact ⟨e1, e2, e3, e4, own_row e5 X cs (rowAt_ne hX e5 (by decide))⟩, h.2.2.2⟩
end Go.Proofs.YtccoeachemnbnaaGreatDoor
