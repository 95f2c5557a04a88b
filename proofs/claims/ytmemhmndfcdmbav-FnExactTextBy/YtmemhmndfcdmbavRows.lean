/-
  No cell of these rows narrows 'for every input' (looked for: loops, veiled, ifaces, maps, wideKeys, modest, calm, conditions, laid).
  DERIVED. THE GIVEN ROWS OF THIS SEAT. 4 by the template 'for every input the law returns true; each argument reads behind the call as it read before'; 0 by the template 'total and deterministic' (their statements: YtmemhmndfcdmbavTotals.lean).
  GIVEN WITH THE SEED: the statements are not yours to turn. If you find one false, say at which input.
  Laid BY PROGRAM, IN A SANDBOX (cutbox-rows.mjs): the forced cells as the released guide's own fill.sh prints them over the translation 9eaa37450e008613… (all of the seat's roots in one cut). By AI agents, Wed Nov 11 2026. No macro, syntax, notation, axiom, sorry.
-/
import Derived.Test.YtmemhmndfcdmbavChecked
import GoSem.Claim
import GoSem.ClaimJoined
import GoSem.ClaimMapViews
import Derived.JoinedTies
import Derived.KernelRfl
namespace Go.Proofs.Ytmemhmndfcdmbav
/- THE CELL 'sum', in the pinned program and in every row, IS THE sha256 OF THE DUMP (.gsa) THAT YtmemhmndfcdmbavProg.lean LOADS. Nothing in Lean hashes anything: it is a label: what it is worth is what the hold of that sum in a sandbox is worth. -/
noncomputable def Try.pinned : Pinned := { name := "ytmemhmndfcdmbav", sum := "9eaa37450e008613b8b72fa966b095d76a64e45662a8d1e7ed90beb0ff3de412", checked := Try.checked }
namespace Rows
def none {H : Type} : Left H := { results := [], args := [] }

/-- 'laws.FnExactTextBy': WHATEVER THE INPUT: true; the input reads as it did. -/
def fnExactTextBySpec : ChangeSpec := { name := "fnExactTextBy", fn := fun _ => fun
  | [d] => { results := [.lit (.bool true)], args := [d] }
  | _ => none }
def fnExactTextByRow : OpenClaim := { program := "ytmemhmndfcdmbav", sum := "9eaa37450e008613b8b72fa966b095d76a64e45662a8d1e7ed90beb0ff3de412", func := "loop.example/limner/laws.FnExactTextBy", spec := "fnExactTextBy", apart := false }
def FnExactTextBySaid : Prop := fnExactTextByRow.holds Try.pinned (OpenSpec.ofChange fnExactTextBySpec)

/-- ITS FALSE NEIGHBOUR: 'it returns false'. Refute it at one input. -/
def fnExactTextByWrong : ChangeSpec := { name := "fnExactTextBy", fn := fun _ => fun
  | [d] => { results := [.lit (.bool false)], args := [d] }
  | _ => none }
def FnExactTextByWrongFalsely : Prop := fnExactTextByRow.holds Try.pinned (OpenSpec.ofChange fnExactTextByWrong)

/-- 'laws.FnExactSugIn': WHATEVER THE INPUT: true; the input reads as it did. -/
def fnExactSugInSpec : ChangeSpec := { name := "fnExactSugIn", fn := fun _ => fun
  | [d1, d2, d3, d4] => { results := [.lit (.bool true)], args := [d1, d2, d3, d4] }
  | _ => none }
def fnExactSugInRow : OpenClaim := { program := "ytmemhmndfcdmbav", sum := "9eaa37450e008613b8b72fa966b095d76a64e45662a8d1e7ed90beb0ff3de412", func := "loop.example/limner/laws.FnExactSugIn", spec := "fnExactSugIn", apart := false }
def FnExactSugInSaid : Prop := fnExactSugInRow.holds Try.pinned (OpenSpec.ofChange fnExactSugInSpec)

/-- ITS FALSE NEIGHBOUR: 'it returns false'. Refute it at one input. -/
def fnExactSugInWrong : ChangeSpec := { name := "fnExactSugIn", fn := fun _ => fun
  | [d1, d2, d3, d4] => { results := [.lit (.bool false)], args := [d1, d2, d3, d4] }
  | _ => none }
def FnExactSugInWrongFalsely : Prop := fnExactSugInRow.holds Try.pinned (OpenSpec.ofChange fnExactSugInWrong)

/-- 'laws.FnExactSugOut': WHATEVER THE INPUT: true; the input reads as it did. -/
def fnExactSugOutSpec : ChangeSpec := { name := "fnExactSugOut", fn := fun _ => fun
  | [d1, d2, d3, d4] => { results := [.lit (.bool true)], args := [d1, d2, d3, d4] }
  | _ => none }
def fnExactSugOutRow : OpenClaim := { program := "ytmemhmndfcdmbav", sum := "9eaa37450e008613b8b72fa966b095d76a64e45662a8d1e7ed90beb0ff3de412", func := "loop.example/limner/laws.FnExactSugOut", spec := "fnExactSugOut", apart := false }
def FnExactSugOutSaid : Prop := fnExactSugOutRow.holds Try.pinned (OpenSpec.ofChange fnExactSugOutSpec)

/-- ITS FALSE NEIGHBOUR: 'it returns false'. Refute it at one input. -/
def fnExactSugOutWrong : ChangeSpec := { name := "fnExactSugOut", fn := fun _ => fun
  | [d1, d2, d3, d4] => { results := [.lit (.bool false)], args := [d1, d2, d3, d4] }
  | _ => none }
def FnExactSugOutWrongFalsely : Prop := fnExactSugOutRow.holds Try.pinned (OpenSpec.ofChange fnExactSugOutWrong)

/-- 'laws.FnExactSugTake': WHATEVER THE INPUT: true; the input reads as it did. -/
def fnExactSugTakeSpec : ChangeSpec := { name := "fnExactSugTake", fn := fun _ => fun
  | [d1, d2] => { results := [.lit (.bool true)], args := [d1, d2] }
  | _ => none }
def fnExactSugTakeRow : OpenClaim := { program := "ytmemhmndfcdmbav", sum := "9eaa37450e008613b8b72fa966b095d76a64e45662a8d1e7ed90beb0ff3de412", func := "loop.example/limner/laws.FnExactSugTake", spec := "fnExactSugTake", apart := false }
def FnExactSugTakeSaid : Prop := fnExactSugTakeRow.holds Try.pinned (OpenSpec.ofChange fnExactSugTakeSpec)

/-- ITS FALSE NEIGHBOUR: 'it returns false'. Refute it at one input. -/
def fnExactSugTakeWrong : ChangeSpec := { name := "fnExactSugTake", fn := fun _ => fun
  | [d1, d2] => { results := [.lit (.bool false)], args := [d1, d2] }
  | _ => none }
def FnExactSugTakeWrongFalsely : Prop := fnExactSugTakeRow.holds Try.pinned (OpenSpec.ofChange fnExactSugTakeWrong)

/- THE SECOND FORM. 'bulk': how many values and letters a reading holds, each counted each time it is reached (what is shared counts as often as it is met; a slice's spare places count too). A statement '..UptoSaid' is the law's where the arguments, and the package variables that the reading takes, are together of bulk at most 1048576: NARROWER than '..Said'. Prove '..Said' where nothing that the law and all that it calls make is longer than what came in: it says more and counts as full. Else prove '..UptoSaid'. A law counts once. -/
mutual
def uptoBulk {H : Type} : DataW H → Nat
  | .lit (.string bytes) => bytes.length + 1
  | .lit _ => 1
  | .nil => 1
  | .ptr d => uptoBulk d + 1
  | .slice elems spare => uptoBulkAll elems + uptoBulkAll spare + 1
  | .agg parts => uptoBulkAll parts + 1
  | .iface _ d => uptoBulk d + 1
  | .map entries => uptoBulkEntries entries + 1
  | .held _ => 1
def uptoBulkAll {H : Type} : List (DataW H) → Nat
  | [] => 0
  | d :: r => uptoBulk d + uptoBulkAll r
def uptoBulkEntries {H : Type} : List (Lit × DataW H) → Nat
  | [] => 0
  | x :: r => uptoBulkEntry x + uptoBulkEntries r
def uptoBulkEntry {H : Type} : Lit × DataW H → Nat
  | (.string bytes, d) => bytes.length + uptoBulk d + 1
  | (_, d) => uptoBulk d + 1
 end
def uptoSmall : (H : Type) → List (DataW H) → Bool := fun _ ds => decide (uptoBulkAll ds ≤ 1048576)
def OpenSpec.upto (s : _root_.Go.ChangeSpec) : _root_.Go.OpenSpec := { _root_.Go.OpenSpec.ofChange s with cond := some uptoSmall }

/-- 'laws.FnExactTextBy', WHERE WHAT IT READS IS OF BULK AT MOST 1048576: true; the input reads as it did. -/
def fnExactTextByUptoRow : OpenClaim := { program := "ytmemhmndfcdmbav", sum := "9eaa37450e008613b8b72fa966b095d76a64e45662a8d1e7ed90beb0ff3de412", func := "loop.example/limner/laws.FnExactTextBy", spec := "fnExactTextBy", apart := false, narrowed := true }
def FnExactTextByUptoSaid : Prop := fnExactTextByUptoRow.holds Try.pinned (OpenSpec.upto fnExactTextBySpec)

/-- 'laws.FnExactSugIn', WHERE WHAT IT READS IS OF BULK AT MOST 1048576: true; the input reads as it did. -/
def fnExactSugInUptoRow : OpenClaim := { program := "ytmemhmndfcdmbav", sum := "9eaa37450e008613b8b72fa966b095d76a64e45662a8d1e7ed90beb0ff3de412", func := "loop.example/limner/laws.FnExactSugIn", spec := "fnExactSugIn", apart := false, narrowed := true }
def FnExactSugInUptoSaid : Prop := fnExactSugInUptoRow.holds Try.pinned (OpenSpec.upto fnExactSugInSpec)

/-- 'laws.FnExactSugOut', WHERE WHAT IT READS IS OF BULK AT MOST 1048576: true; the input reads as it did. -/
def fnExactSugOutUptoRow : OpenClaim := { program := "ytmemhmndfcdmbav", sum := "9eaa37450e008613b8b72fa966b095d76a64e45662a8d1e7ed90beb0ff3de412", func := "loop.example/limner/laws.FnExactSugOut", spec := "fnExactSugOut", apart := false, narrowed := true }
def FnExactSugOutUptoSaid : Prop := fnExactSugOutUptoRow.holds Try.pinned (OpenSpec.upto fnExactSugOutSpec)

/-- 'laws.FnExactSugTake', WHERE WHAT IT READS IS OF BULK AT MOST 1048576: true; the input reads as it did. -/
def fnExactSugTakeUptoRow : OpenClaim := { program := "ytmemhmndfcdmbav", sum := "9eaa37450e008613b8b72fa966b095d76a64e45662a8d1e7ed90beb0ff3de412", func := "loop.example/limner/laws.FnExactSugTake", spec := "fnExactSugTake", apart := false, narrowed := true }
def FnExactSugTakeUptoSaid : Prop := fnExactSugTakeUptoRow.holds Try.pinned (OpenSpec.upto fnExactSugTakeSpec)

end Rows
end Go.Proofs.Ytmemhmndfcdmbav
