import Derived.Test.YteghidjbcpmfbaaTabW
namespace Go.Proofs.Yteghidjbcpmfbaa
open Go.RowKit

/-- One row behind another. -/
def gtR (y x : Rw) : Bool := decide (x.1 < y.1 ∨ y.1 = x.1 ∧ x.2.1 < y.2.1)
def insR (x : Rw) : List Rw → List Rw
  | [] => [x]
  | y :: ys => if gtR y x then x :: y :: ys else y :: insR x ys
def sortR (l : List Rw) : List Rw := l.foldl (fun o x => insR x o) []
theorem insR_len (x : Rw) : ∀ l, (insR x l).length = l.length + 1
  | [] => rfl
  | y :: ys => by
    unfold insR
    split
    · rfl
    · simp [insR_len x ys]
theorem sortR_take (l : List Rw) (i : Nat) (h : i < l.length) : sortR (l.take (i + 1)) = insR (l.getD i rw0) (sortR (l.take i)) := by
  have e : l.getD i rw0 = l[i] := by simp [List.getD, h]
  unfold sortR
  rw [List.take_succ_eq_append_getElem h, List.foldl_append, e]
  rfl
theorem sortR_len (l : List Rw) : (sortR l).length = l.length := by
  have key : ∀ (l o : List Rw), (l.foldl (fun o x => insR x o) o).length = o.length + l.length := by
    intro l
    induction l with
    | nil => intro o; rfl
    | cons x l ih => intro o; simp only [List.foldl_cons, ih, insR_len, List.length_cons]; omega
  unfold sortR
  simpa using key l []
theorem insR_end (x : Rw) : ∀ l, (∀ y ∈ l, gtR y x = false) → insR x l = l ++ [x]
  | [], _ => rfl
  | y :: ys, h => by
    unfold insR
    rw [h y (by simp)]
    simp [insR_end x ys (fun z hz => h z (by simp [hz]))]
theorem insR_at (x : Rw) : ∀ (l : List Rw) (k : Nat) (hk : k < l.length), (∀ y ∈ l.take k, gtR y x = false) → gtR l[k] x = true → insR x l = l.take k ++ x :: l.drop k
  | [], k, hk, _, _ => by simp at hk
  | y :: ys, 0, _, _, h => by
    unfold insR
    simp only [List.getElem_cons_zero] at h
    rw [h]
    rfl
  | y :: ys, k + 1, hk, hn, h => by
    unfold insR
    rw [hn y (by simp)]
    have := insR_at x ys k (by simpa using hk) (fun z hz => hn z (by simp [hz])) (by simpa using h)
    simp [this]
/-- How far the row x is put in among the first k rows. -/
def InsP (x : Rw) (out : List Rw) (k : Nat) (done : Bool) (next : List Rw) : Prop :=
  (done = false ∧ next = out.take k ∧ ∀ y ∈ out.take k, gtR y x = false) ∨ (done = true ∧ next ++ out.drop k = insR x out)
theorem InsP.len {x : Rw} {out : List Rw} {k : Nat} {done : Bool} {next : List Rw} (h : InsP x out k done next) (hk : k ≤ out.length) : next.length = k + done.toNat := by
  rcases h with ⟨rfl, rfl, _⟩ | ⟨rfl, e⟩
  · simp; omega
  · have := congrArg List.length e
    rw [insR_len, List.length_append, List.length_drop] at this
    simp
    omega
theorem InsP.skip {x : Rw} {out : List Rw} {k : Nat} {next : List Rw} (h : InsP x out k false next) (hk : k < out.length) (hg : gtR (out.getD k rw0) x = false) : InsP x out (k + 1) false (next ++ [out.getD k rw0]) := by
  have e : out.getD k rw0 = out[k] := by simp [List.getD, hk]
  rcases h with ⟨_, rfl, h2⟩ | ⟨h1, _⟩
  · refine .inl ⟨rfl, ?_, ?_⟩
    · rw [e, List.take_succ_eq_append_getElem hk]
    · intro y hy
      rw [List.take_succ_eq_append_getElem hk] at hy
      rcases List.mem_append.1 hy with hy | hy
      · exact h2 y hy
      · simp at hy
        rw [hy, ← e]
        exact hg
  · simp at h1
theorem InsP.put {x : Rw} {out : List Rw} {k : Nat} {next : List Rw} (h : InsP x out k false next) (hk : k < out.length) (hg : gtR (out.getD k rw0) x = true) : InsP x out (k + 1) true (next ++ [x] ++ [out.getD k rw0]) := by
  have e : out.getD k rw0 = out[k] := by simp [List.getD, hk]
  rcases h with ⟨_, rfl, h2⟩ | ⟨h1, _⟩
  · refine .inr ⟨rfl, ?_⟩
    rw [e] at hg ⊢
    rw [insR_at x out k hk h2 hg]
    simp only [List.append_assoc, List.cons_append, List.nil_append]
    rw [← List.drop_eq_getElem_cons hk]
  · simp at h1
theorem InsP.on {x : Rw} {out : List Rw} {k : Nat} {next : List Rw} (h : InsP x out k true next) (hk : k < out.length) : InsP x out (k + 1) true (next ++ [out.getD k rw0]) := by
  have e : out.getD k rw0 = out[k] := by simp [List.getD, hk]
  rcases h with ⟨h1, _⟩ | ⟨_, h1⟩
  · simp at h1
  · refine .inr ⟨rfl, ?_⟩
    rw [← h1, e, List.drop_eq_getElem_cons hk]
    simp
theorem InsP.fin {x : Rw} {out : List Rw} {next : List Rw} (h : InsP x out out.length true next) : next = insR x out := by
  rcases h with ⟨h1, _⟩ | ⟨_, h1⟩
  · simp at h1
  · simpa using h1
theorem InsP.fin0 {x : Rw} {out : List Rw} {next : List Rw} (h : InsP x out out.length false next) : next ++ [x] = insR x out := by
  rcases h with ⟨_, rfl, h1⟩ | ⟨h1, _⟩
  · rw [List.take_of_length_le (Nat.le_refl _)] at h1 ⊢
    rw [insR_end x out h1]
  · simp at h1
/-! The same among cells. -/
def gtC (y x : Cl) : Bool := decide (x.1 < y.1 ∨ y.1 = x.1 ∧ x.2.1 < y.2.1)
def insC (x : Cl) : List Cl → List Cl
  | [] => [x]
  | y :: ys => if gtC y x then x :: y :: ys else y :: insC x ys
/-- Cells in order. -/
def sortC (l : List Cl) : List Cl := l.foldl (fun o x => insC x o) []
def insZ (x : Rw × Cl) : List (Rw × Cl) → List (Rw × Cl)
  | [] => [x]
  | y :: ys => if gtR y.1 x.1 then x :: y :: ys else y :: insZ x ys
theorem insZ_perm (x : Rw × Cl) : ∀ l, (insZ x l).Perm (x :: l)
  | [] => List.Perm.refl _
  | y :: ys => by
    unfold insZ
    split
    · exact List.Perm.refl _
    · exact ((insZ_perm x ys).cons y).trans (List.Perm.swap x y ys)
theorem insZ_fst (x : Rw × Cl) : ∀ l, (insZ x l).map Prod.fst = insR x.1 (l.map Prod.fst)
  | [] => rfl
  | y :: ys => by
    unfold insZ
    simp only [List.map_cons, insR]
    split
    · rfl
    · simp [insZ_fst x ys]
def keyed (p : Rw × Cl) : Prop := p.1.1 = p.2.1 ∧ p.1.2.1 = p.2.2.1
theorem insZ_snd (x : Rw × Cl) (hx : keyed x) : ∀ l, (∀ p ∈ l, keyed p) → (insZ x l).map Prod.snd = insC x.2 (l.map Prod.snd)
  | [], _ => rfl
  | y :: ys, h => by
    have hy := h y (by simp)
    have e : gtR y.1 x.1 = gtC y.2 x.2 := by
      unfold gtR gtC
      rw [hx.1, hx.2, hy.1, hy.2]
    unfold insZ
    simp only [List.map_cons, insC, e]
    split
    · rfl
    · simp [insZ_snd x hx ys (fun p hp => h p (by simp [hp]))]
theorem foldZ (z : List (Rw × Cl)) : ∀ o, (∀ p ∈ z, keyed p) → (∀ p ∈ o, keyed p) →
    ((z.foldl (fun o x => insZ x o) o).Perm (o ++ z) ∧ (z.foldl (fun o x => insZ x o) o).map Prod.fst = (z.map Prod.fst).foldl (fun o x => insR x o) (o.map Prod.fst) ∧ (z.foldl (fun o x => insZ x o) o).map Prod.snd = (z.map Prod.snd).foldl (fun o x => insC x o) (o.map Prod.snd)) := by
  induction z with
  | nil => intro o _ _; exact ⟨by simp, rfl, rfl⟩
  | cons x z ih =>
    intro o hz ho
    have hx := hz x (by simp)
    obtain ⟨h1, h2, h3⟩ := ih (insZ x o) (fun p hp => hz p (by simp [hp])) (fun p hp => by
      rcases List.mem_cons.1 ((insZ_perm x o).mem_iff.1 hp) with rfl | hp
      · exact hx
      · exact ho p hp)
    refine ⟨h1.trans ?_, ?_, ?_⟩
    · exact ((insZ_perm x o).append_right z).trans (List.perm_middle.symm)
    · rw [List.foldl_cons, h2, insZ_fst]
      rfl
    · rw [List.foldl_cons, h3, insZ_snd x hx o ho]
      rfl
def TxtZ (w : World) (B : Nat) (q : Option Nat) (z : List (Rw × Cl)) : Prop :=
  (∀ p ∈ z, RwOwn w B p.1 p.2 ∧ ∀ g, (rwT p.1).ownBlock = some g → q ≠ some g) ∧ z.Pairwise (fun a b => ∀ g, (rwT a.1).ownBlock = some g → (rwT b.1).ownBlock ≠ some g)
theorem TxtZ.perm {w : World} {B : Nat} {q : Option Nat} {z z' : List (Rw × Cl)} (h : TxtZ w B q z) (hp : z'.Perm z) : TxtZ w B q z' :=
  ⟨fun p hpm => h.1 p (hp.mem_iff.1 hpm), hp.symm.pairwise h.2 (fun hab g hg hg' => hab g hg' hg)⟩
theorem zip_getD (rs : List Rw) (l : List Cl) (k : Nat) (h : k < rs.length) (h' : k < l.length) : (rs.zip l)[k]'(by simp; omega) = (rs.getD k rw0, l.getD k cl0) := by
  simp [List.getD, h, h']
theorem TxtOwn.zip {w : World} {B : Nat} {q : Option Nat} {rs : List Rw} {l : List Cl} (h : TxtOwn w B q rs l) : TxtZ w B q (rs.zip l) := by
  obtain ⟨e, h1, h2, h3⟩ := h
  constructor
  · intro p hp
    obtain ⟨k, hk, rfl⟩ := List.getElem_of_mem hp
    have hk' : k < rs.length := by simp at hk; omega
    rw [zip_getD rs l k hk' (by omega)]
    exact ⟨h1 k hk', h2 k hk'⟩
  · rw [List.pairwise_iff_getElem]
    intro i j hi hj hij
    have hi' : i < rs.length := by simp at hi; omega
    have hj' : j < rs.length := by simp at hj; omega
    rw [zip_getD rs l i hi' (by omega), zip_getD rs l j hj' (by omega)]
    exact h3 i j hij hj'
theorem TxtZ.txt {w : World} {B : Nat} {q : Option Nat} {rs : List Rw} {l : List Cl} (e : rs.length = l.length) (h : TxtZ w B q (rs.zip l)) : TxtOwn w B q rs l := by
  have hm : ∀ k (hk : k < rs.length), (rs.getD k rw0, l.getD k cl0) ∈ rs.zip l := by
    intro k hk
    rw [← zip_getD rs l k hk (by omega)]
    exact List.getElem_mem _
  refine ⟨e, fun k hk => (h.1 _ (hm k hk)).1, fun k hk => (h.1 _ (hm k hk)).2, fun i k hik hk => ?_⟩
  have := List.pairwise_iff_getElem.1 h.2 i k (by simp; omega) (by simp; omega) hik
  rw [zip_getD rs l i (by omega) (by omega), zip_getD rs l k hk (by omega)] at this
  exact this
theorem TxtOwn.sort {w : World} {B : Nat} {q : Option Nat} {rs : List Rw} {l : List Cl} (h : TxtOwn w B q rs l) : TxtOwn w B q (sortR rs) (sortC l) := by
  have e := h.1
  have hz := h.zip
  have hk : ∀ p ∈ rs.zip l, keyed p := fun p hp => ⟨(hz.1 p hp).1.1, (hz.1 p hp).1.2.1⟩
  obtain ⟨h1, h2, h3⟩ := foldZ (rs.zip l) [] hk (fun p hp => by simp at hp)
  rw [List.nil_append] at h1
  rw [List.map_fst_zip (by omega)] at h2
  rw [List.map_snd_zip (by omega)] at h3
  have h4 := hz.perm h1
  generalize (rs.zip l).foldl (fun o x => insZ x o) [] = z at h2 h3 h4
  have e2 : sortR rs = z.map Prod.fst := h2.symm
  have e3 : sortC l = z.map Prod.snd := h3.symm
  rw [e2, e3]
  refine TxtZ.txt (by simp) ?_
  have : (z.map Prod.fst).zip (z.map Prod.snd) = z := by
    rw [List.zip_map']
    simp
  rw [this]
  exact h4
theorem insC_perm (x : Cl) : ∀ l, (insC x l).Perm (x :: l)
  | [] => List.Perm.refl _
  | y :: ys => by
    unfold insC
    split
    · exact List.Perm.refl _
    · exact ((insC_perm x ys).cons y).trans (List.Perm.swap x y ys)
theorem sortC_perm (l : List Cl) : (sortC l).Perm l := by
  have key : ∀ (l o : List Cl), (l.foldl (fun o x => insC x o) o).Perm (o ++ l) := by
    intro l
    induction l with
    | nil => intro o; simp
    | cons x l ih =>
      intro o
      exact (ih (insC x o)).trans (((insC_perm x o).append_right l).trans List.perm_middle.symm)
  simpa [sortC] using key l []
end Go.Proofs.Yteghidjbcpmfbaa
