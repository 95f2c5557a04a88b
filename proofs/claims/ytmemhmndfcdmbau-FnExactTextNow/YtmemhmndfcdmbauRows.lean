/-
  No cell of these rows narrows 'for every input' (looked for: loops, veiled, ifaces, maps, wideKeys, modest, calm, conditions, laid).
  DERIVED. THE GIVEN ROWS OF THIS SEAT. 6 by the template 'for every input the law returns true; each argument reads behind the call as it read before'; 0 by the template 'total and deterministic' (their statements: YtmemhmndfcdmbauTotals.lean).
  GIVEN WITH THE SEED: the statements are not yours to turn. If you find one false, say at which input.
  Laid BY PROGRAM, IN A SANDBOX (cutbox-rows.mjs): the forced cells as the released guide's own fill.sh prints them over the translation 02aafc58ce421634… (all of the seat's roots in one cut). By AI agents, Wed Nov 11 2026. No macro, syntax, notation, axiom, sorry.
-/
import Derived.Test.YtmemhmndfcdmbauChecked
import GoSem.Claim
import GoSem.ClaimJoined
import GoSem.ClaimMapViews
import Derived.JoinedTies
import Derived.KernelRfl
namespace Go.Proofs.Ytmemhmndfcdmbau
/- THE CELL 'sum', in the pinned program and in every row, IS THE sha256 OF THE DUMP (.gsa) THAT YtmemhmndfcdmbauProg.lean LOADS. Nothing in Lean hashes anything: it is a label: what it is worth is what the hold of that sum in a sandbox is worth. -/
noncomputable def Try.pinned : Pinned := { name := "ytmemhmndfcdmbau", sum := "02aafc58ce42163417d561e6ed0606e187b733cf6e9aa1e3507da54dd8ba244b", checked := Try.checked }
namespace Rows
def none {H : Type} : Left H := { results := [], args := [] }

/-- 'laws.FnExactHistUndo': WHATEVER THE INPUT: true; the input reads as it did. -/
def fnExactHistUndoSpec : ChangeSpec := { name := "fnExactHistUndo", fn := fun _ => fun
  | [d] => { results := [.lit (.bool true)], args := [d] }
  | _ => none }
def fnExactHistUndoRow : OpenClaim := { program := "ytmemhmndfcdmbau", sum := "02aafc58ce42163417d561e6ed0606e187b733cf6e9aa1e3507da54dd8ba244b", func := "loop.example/limner/laws.FnExactHistUndo", spec := "fnExactHistUndo", apart := false }
def FnExactHistUndoSaid : Prop := fnExactHistUndoRow.holds Try.pinned (OpenSpec.ofChange fnExactHistUndoSpec)

/-- ITS FALSE NEIGHBOUR: 'it returns false'. Refute it at one input. -/
def fnExactHistUndoWrong : ChangeSpec := { name := "fnExactHistUndo", fn := fun _ => fun
  | [d] => { results := [.lit (.bool false)], args := [d] }
  | _ => none }
def FnExactHistUndoWrongFalsely : Prop := fnExactHistUndoRow.holds Try.pinned (OpenSpec.ofChange fnExactHistUndoWrong)

/-- 'laws.FnExactHistRedo': WHATEVER THE INPUT: true; the input reads as it did. -/
def fnExactHistRedoSpec : ChangeSpec := { name := "fnExactHistRedo", fn := fun _ => fun
  | [d] => { results := [.lit (.bool true)], args := [d] }
  | _ => none }
def fnExactHistRedoRow : OpenClaim := { program := "ytmemhmndfcdmbau", sum := "02aafc58ce42163417d561e6ed0606e187b733cf6e9aa1e3507da54dd8ba244b", func := "loop.example/limner/laws.FnExactHistRedo", spec := "fnExactHistRedo", apart := false }
def FnExactHistRedoSaid : Prop := fnExactHistRedoRow.holds Try.pinned (OpenSpec.ofChange fnExactHistRedoSpec)

/-- ITS FALSE NEIGHBOUR: 'it returns false'. Refute it at one input. -/
def fnExactHistRedoWrong : ChangeSpec := { name := "fnExactHistRedo", fn := fun _ => fun
  | [d] => { results := [.lit (.bool false)], args := [d] }
  | _ => none }
def FnExactHistRedoWrongFalsely : Prop := fnExactHistRedoRow.holds Try.pinned (OpenSpec.ofChange fnExactHistRedoWrong)

/-- 'laws.FnExactTextOk': WHATEVER THE INPUT: true; the input reads as it did. -/
def fnExactTextOkSpec : ChangeSpec := { name := "fnExactTextOk", fn := fun _ => fun
  | [d] => { results := [.lit (.bool true)], args := [d] }
  | _ => none }
def fnExactTextOkRow : OpenClaim := { program := "ytmemhmndfcdmbau", sum := "02aafc58ce42163417d561e6ed0606e187b733cf6e9aa1e3507da54dd8ba244b", func := "loop.example/limner/laws.FnExactTextOk", spec := "fnExactTextOk", apart := false }
def FnExactTextOkSaid : Prop := fnExactTextOkRow.holds Try.pinned (OpenSpec.ofChange fnExactTextOkSpec)

/-- ITS FALSE NEIGHBOUR: 'it returns false'. Refute it at one input. -/
def fnExactTextOkWrong : ChangeSpec := { name := "fnExactTextOk", fn := fun _ => fun
  | [d] => { results := [.lit (.bool false)], args := [d] }
  | _ => none }
def FnExactTextOkWrongFalsely : Prop := fnExactTextOkRow.holds Try.pinned (OpenSpec.ofChange fnExactTextOkWrong)

/-- 'laws.FnExactTextOf': WHATEVER THE INPUT: true; the input reads as it did. -/
def fnExactTextOfSpec : ChangeSpec := { name := "fnExactTextOf", fn := fun _ => fun
  | [d] => { results := [.lit (.bool true)], args := [d] }
  | _ => none }
def fnExactTextOfRow : OpenClaim := { program := "ytmemhmndfcdmbau", sum := "02aafc58ce42163417d561e6ed0606e187b733cf6e9aa1e3507da54dd8ba244b", func := "loop.example/limner/laws.FnExactTextOf", spec := "fnExactTextOf", apart := false }
def FnExactTextOfSaid : Prop := fnExactTextOfRow.holds Try.pinned (OpenSpec.ofChange fnExactTextOfSpec)

/-- ITS FALSE NEIGHBOUR: 'it returns false'. Refute it at one input. -/
def fnExactTextOfWrong : ChangeSpec := { name := "fnExactTextOf", fn := fun _ => fun
  | [d] => { results := [.lit (.bool false)], args := [d] }
  | _ => none }
def FnExactTextOfWrongFalsely : Prop := fnExactTextOfRow.holds Try.pinned (OpenSpec.ofChange fnExactTextOfWrong)

/-- 'laws.FnExactTextNow': WHATEVER THE INPUT: true; the input reads as it did. -/
def fnExactTextNowSpec : ChangeSpec := { name := "fnExactTextNow", fn := fun _ => fun
  | [d] => { results := [.lit (.bool true)], args := [d] }
  | _ => none }
def fnExactTextNowRow : OpenClaim := { program := "ytmemhmndfcdmbau", sum := "02aafc58ce42163417d561e6ed0606e187b733cf6e9aa1e3507da54dd8ba244b", func := "loop.example/limner/laws.FnExactTextNow", spec := "fnExactTextNow", unfollowed := true, recurses := true, apart := false }
def FnExactTextNowSaid : Prop := fnExactTextNowRow.holds Try.pinned (OpenSpec.ofChange fnExactTextNowSpec)

/-- ITS FALSE NEIGHBOUR: 'it returns false'. Refute it at one input. -/
def fnExactTextNowWrong : ChangeSpec := { name := "fnExactTextNow", fn := fun _ => fun
  | [d] => { results := [.lit (.bool false)], args := [d] }
  | _ => none }
def FnExactTextNowWrongFalsely : Prop := fnExactTextNowRow.holds Try.pinned (OpenSpec.ofChange fnExactTextNowWrong)

/-- 'laws.FnExactTextWas': WHATEVER THE INPUT: true; the input reads as it did. -/
def fnExactTextWasSpec : ChangeSpec := { name := "fnExactTextWas", fn := fun _ => fun
  | [d] => { results := [.lit (.bool true)], args := [d] }
  | _ => none }
def fnExactTextWasRow : OpenClaim := { program := "ytmemhmndfcdmbau", sum := "02aafc58ce42163417d561e6ed0606e187b733cf6e9aa1e3507da54dd8ba244b", func := "loop.example/limner/laws.FnExactTextWas", spec := "fnExactTextWas", unfollowed := true, recurses := true, apart := false }
def FnExactTextWasSaid : Prop := fnExactTextWasRow.holds Try.pinned (OpenSpec.ofChange fnExactTextWasSpec)

/-- ITS FALSE NEIGHBOUR: 'it returns false'. Refute it at one input. -/
def fnExactTextWasWrong : ChangeSpec := { name := "fnExactTextWas", fn := fun _ => fun
  | [d] => { results := [.lit (.bool false)], args := [d] }
  | _ => none }
def FnExactTextWasWrongFalsely : Prop := fnExactTextWasRow.holds Try.pinned (OpenSpec.ofChange fnExactTextWasWrong)

/- THE SECOND FORM. 'bulk': how many values and letters a reading holds, each counted each time it is reached (what is shared counts as often as it is met; a slice's spare places count too). A statement '..UptoSaid' is the law's where the arguments, and the package variables that the reading takes, are together of bulk at most 1048576: NARROWER than '..Said'. Prove '..Said' where nothing that the law and all that it calls make is longer than what came in: it says more and counts as full. Else prove '..UptoSaid'. A law counts once. -/
mutual
def uptoBulk {H : Type} : DataW H → Nat
  | .lit (.string bytes) => bytes.length + 1
  | .lit _ => 1
  | .nil => 1
  | .ptr d => uptoBulk d + 1
  | .slice elems spare => uptoBulkAll elems + uptoBulkAll spare + 1
  | .agg parts => uptoBulkAll parts + 1
  | .iface _ d => uptoBulk d + 1
  | .map entries => uptoBulkEntries entries + 1
  | .held _ => 1
def uptoBulkAll {H : Type} : List (DataW H) → Nat
  | [] => 0
  | d :: r => uptoBulk d + uptoBulkAll r
def uptoBulkEntries {H : Type} : List (Lit × DataW H) → Nat
  | [] => 0
  | x :: r => uptoBulkEntry x + uptoBulkEntries r
def uptoBulkEntry {H : Type} : Lit × DataW H → Nat
  | (.string bytes, d) => bytes.length + uptoBulk d + 1
  | (_, d) => uptoBulk d + 1
 end
def uptoSmall : (H : Type) → List (DataW H) → Bool := fun _ ds => decide (uptoBulkAll ds ≤ 1048576)
def OpenSpec.upto (s : _root_.Go.ChangeSpec) : _root_.Go.OpenSpec := { _root_.Go.OpenSpec.ofChange s with cond := some uptoSmall }

/-- 'laws.FnExactHistUndo', WHERE WHAT IT READS IS OF BULK AT MOST 1048576: true; the input reads as it did. -/
def fnExactHistUndoUptoRow : OpenClaim := { program := "ytmemhmndfcdmbau", sum := "02aafc58ce42163417d561e6ed0606e187b733cf6e9aa1e3507da54dd8ba244b", func := "loop.example/limner/laws.FnExactHistUndo", spec := "fnExactHistUndo", apart := false, narrowed := true }
def FnExactHistUndoUptoSaid : Prop := fnExactHistUndoUptoRow.holds Try.pinned (OpenSpec.upto fnExactHistUndoSpec)

/-- 'laws.FnExactHistRedo', WHERE WHAT IT READS IS OF BULK AT MOST 1048576: true; the input reads as it did. -/
def fnExactHistRedoUptoRow : OpenClaim := { program := "ytmemhmndfcdmbau", sum := "02aafc58ce42163417d561e6ed0606e187b733cf6e9aa1e3507da54dd8ba244b", func := "loop.example/limner/laws.FnExactHistRedo", spec := "fnExactHistRedo", apart := false, narrowed := true }
def FnExactHistRedoUptoSaid : Prop := fnExactHistRedoUptoRow.holds Try.pinned (OpenSpec.upto fnExactHistRedoSpec)

/-- 'laws.FnExactTextOk', WHERE WHAT IT READS IS OF BULK AT MOST 1048576: true; the input reads as it did. -/
def fnExactTextOkUptoRow : OpenClaim := { program := "ytmemhmndfcdmbau", sum := "02aafc58ce42163417d561e6ed0606e187b733cf6e9aa1e3507da54dd8ba244b", func := "loop.example/limner/laws.FnExactTextOk", spec := "fnExactTextOk", apart := false, narrowed := true }
def FnExactTextOkUptoSaid : Prop := fnExactTextOkUptoRow.holds Try.pinned (OpenSpec.upto fnExactTextOkSpec)

/-- 'laws.FnExactTextOf', WHERE WHAT IT READS IS OF BULK AT MOST 1048576: true; the input reads as it did. -/
def fnExactTextOfUptoRow : OpenClaim := { program := "ytmemhmndfcdmbau", sum := "02aafc58ce42163417d561e6ed0606e187b733cf6e9aa1e3507da54dd8ba244b", func := "loop.example/limner/laws.FnExactTextOf", spec := "fnExactTextOf", apart := false, narrowed := true }
def FnExactTextOfUptoSaid : Prop := fnExactTextOfUptoRow.holds Try.pinned (OpenSpec.upto fnExactTextOfSpec)

/-- 'laws.FnExactTextNow', WHERE WHAT IT READS IS OF BULK AT MOST 1048576: true; the input reads as it did. -/
def fnExactTextNowUptoRow : OpenClaim := { program := "ytmemhmndfcdmbau", sum := "02aafc58ce42163417d561e6ed0606e187b733cf6e9aa1e3507da54dd8ba244b", func := "loop.example/limner/laws.FnExactTextNow", spec := "fnExactTextNow", unfollowed := true, recurses := true, apart := false, narrowed := true }
def FnExactTextNowUptoSaid : Prop := fnExactTextNowUptoRow.holds Try.pinned (OpenSpec.upto fnExactTextNowSpec)

/-- 'laws.FnExactTextWas', WHERE WHAT IT READS IS OF BULK AT MOST 1048576: true; the input reads as it did. -/
def fnExactTextWasUptoRow : OpenClaim := { program := "ytmemhmndfcdmbau", sum := "02aafc58ce42163417d561e6ed0606e187b733cf6e9aa1e3507da54dd8ba244b", func := "loop.example/limner/laws.FnExactTextWas", spec := "fnExactTextWas", unfollowed := true, recurses := true, apart := false, narrowed := true }
def FnExactTextWasUptoSaid : Prop := fnExactTextWasUptoRow.holds Try.pinned (OpenSpec.upto fnExactTextWasSpec)

end Rows
end Go.Proofs.Ytmemhmndfcdmbau
