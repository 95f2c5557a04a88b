/-
  No cell of these rows narrows 'for every input' (looked for: loops, veiled, ifaces, maps, wideKeys, modest, calm, conditions, laid).
  DERIVED. THE GIVEN ROWS OF THIS SEAT. 5 by the template 'for every input the law returns true; each argument reads behind the call as it read before'; 0 by the template 'total and deterministic' (their statements: YtbigbbfbikhjdabTotals.lean).
  GIVEN WITH THE SEED: the statements are not yours to turn. If you find one false, say at which input.
  Laid BY PROGRAM, IN A SANDBOX (cutbox-rows.mjs): the forced cells as the released guide's own fill.sh prints them over the translation e33cc673fd486c23… (all of the seat's roots in one cut). By AI agents, Wed Nov 11 2026. No macro, syntax, notation, axiom, sorry.
-/
import Derived.Test.YtbigbbfbikhjdabChecked
import GoSem.Claim
import GoSem.ClaimJoined
import GoSem.ClaimMapViews
import Derived.JoinedTies
import Derived.KernelRfl
namespace Go.Proofs.Ytbigbbfbikhjdab
/- THE CELL 'sum', in the pinned program and in every row, IS THE sha256 OF THE DUMP (.gsa) THAT YtbigbbfbikhjdabProg.lean LOADS. Nothing in Lean hashes anything: it is a label: what it is worth is what the hold of that sum in a sandbox is worth. -/
noncomputable def Try.pinned : Pinned := { name := "ytbigbbfbikhjdab", sum := "e33cc673fd486c239a14891db29ae5ae97bb70306382e8c4b736d32af3e7ac76", checked := Try.checked }
namespace Rows
def none {H : Type} : Left H := { results := [], args := [] }

/-- 'laws.FnTableCross': WHATEVER THE INPUT: true; the input reads as it did. -/
def fnTableCrossSpec : ChangeSpec := { name := "fnTableCross", fn := fun _ => fun
  | [d1, d2] => { results := [.lit (.bool true)], args := [d1, d2] }
  | _ => none }
def fnTableCrossRow : OpenClaim := { program := "ytbigbbfbikhjdab", sum := "e33cc673fd486c239a14891db29ae5ae97bb70306382e8c4b736d32af3e7ac76", func := "loop.example/limner/laws.FnTableCross", spec := "fnTableCross", apart := false }
def FnTableCrossSaid : Prop := fnTableCrossRow.holds Try.pinned (OpenSpec.ofChange fnTableCrossSpec)

/-- ITS FALSE NEIGHBOUR: 'it returns false'. Refute it at one input. -/
def fnTableCrossWrong : ChangeSpec := { name := "fnTableCross", fn := fun _ => fun
  | [d1, d2] => { results := [.lit (.bool false)], args := [d1, d2] }
  | _ => none }
def FnTableCrossWrongFalsely : Prop := fnTableCrossRow.holds Try.pinned (OpenSpec.ofChange fnTableCrossWrong)

/-- 'laws.FnTableRowTwo': WHATEVER THE INPUT: true; the input reads as it did. -/
def fnTableRowTwoSpec : ChangeSpec := { name := "fnTableRowTwo", fn := fun _ => fun
  | [d1, d2] => { results := [.lit (.bool true)], args := [d1, d2] }
  | _ => none }
def fnTableRowTwoRow : OpenClaim := { program := "ytbigbbfbikhjdab", sum := "e33cc673fd486c239a14891db29ae5ae97bb70306382e8c4b736d32af3e7ac76", func := "loop.example/limner/laws.FnTableRowTwo", spec := "fnTableRowTwo", apart := false }
def FnTableRowTwoSaid : Prop := fnTableRowTwoRow.holds Try.pinned (OpenSpec.ofChange fnTableRowTwoSpec)

/-- ITS FALSE NEIGHBOUR: 'it returns false'. Refute it at one input. -/
def fnTableRowTwoWrong : ChangeSpec := { name := "fnTableRowTwo", fn := fun _ => fun
  | [d1, d2] => { results := [.lit (.bool false)], args := [d1, d2] }
  | _ => none }
def FnTableRowTwoWrongFalsely : Prop := fnTableRowTwoRow.holds Try.pinned (OpenSpec.ofChange fnTableRowTwoWrong)

/-- 'laws.FnTableRowOutTwo': WHATEVER THE INPUT: true; the input reads as it did. -/
def fnTableRowOutTwoSpec : ChangeSpec := { name := "fnTableRowOutTwo", fn := fun _ => fun
  | [d1, d2] => { results := [.lit (.bool true)], args := [d1, d2] }
  | _ => none }
def fnTableRowOutTwoRow : OpenClaim := { program := "ytbigbbfbikhjdab", sum := "e33cc673fd486c239a14891db29ae5ae97bb70306382e8c4b736d32af3e7ac76", func := "loop.example/limner/laws.FnTableRowOutTwo", spec := "fnTableRowOutTwo", apart := false }
def FnTableRowOutTwoSaid : Prop := fnTableRowOutTwoRow.holds Try.pinned (OpenSpec.ofChange fnTableRowOutTwoSpec)

/-- ITS FALSE NEIGHBOUR: 'it returns false'. Refute it at one input. -/
def fnTableRowOutTwoWrong : ChangeSpec := { name := "fnTableRowOutTwo", fn := fun _ => fun
  | [d1, d2] => { results := [.lit (.bool false)], args := [d1, d2] }
  | _ => none }
def FnTableRowOutTwoWrongFalsely : Prop := fnTableRowOutTwoRow.holds Try.pinned (OpenSpec.ofChange fnTableRowOutTwoWrong)

/-- 'laws.FnTableColIn': WHATEVER THE INPUT: true; the input reads as it did. -/
def fnTableColInSpec : ChangeSpec := { name := "fnTableColIn", fn := fun _ => fun
  | [d] => { results := [.lit (.bool true)], args := [d] }
  | _ => none }
def fnTableColInRow : OpenClaim := { program := "ytbigbbfbikhjdab", sum := "e33cc673fd486c239a14891db29ae5ae97bb70306382e8c4b736d32af3e7ac76", func := "loop.example/limner/laws.FnTableColIn", spec := "fnTableColIn", apart := false }
def FnTableColInSaid : Prop := fnTableColInRow.holds Try.pinned (OpenSpec.ofChange fnTableColInSpec)

/-- ITS FALSE NEIGHBOUR: 'it returns false'. Refute it at one input. -/
def fnTableColInWrong : ChangeSpec := { name := "fnTableColIn", fn := fun _ => fun
  | [d] => { results := [.lit (.bool false)], args := [d] }
  | _ => none }
def FnTableColInWrongFalsely : Prop := fnTableColInRow.holds Try.pinned (OpenSpec.ofChange fnTableColInWrong)

/-- 'laws.FnTableCells': WHATEVER THE INPUT: true; the input reads as it did. -/
def fnTableCellsSpec : ChangeSpec := { name := "fnTableCells", fn := fun _ => fun
  | [d] => { results := [.lit (.bool true)], args := [d] }
  | _ => none }
def fnTableCellsRow : OpenClaim := { program := "ytbigbbfbikhjdab", sum := "e33cc673fd486c239a14891db29ae5ae97bb70306382e8c4b736d32af3e7ac76", func := "loop.example/limner/laws.FnTableCells", spec := "fnTableCells", apart := false }
def FnTableCellsSaid : Prop := fnTableCellsRow.holds Try.pinned (OpenSpec.ofChange fnTableCellsSpec)

/-- ITS FALSE NEIGHBOUR: 'it returns false'. Refute it at one input. -/
def fnTableCellsWrong : ChangeSpec := { name := "fnTableCells", fn := fun _ => fun
  | [d] => { results := [.lit (.bool false)], args := [d] }
  | _ => none }
def FnTableCellsWrongFalsely : Prop := fnTableCellsRow.holds Try.pinned (OpenSpec.ofChange fnTableCellsWrong)

/- THE SECOND FORM. 'bulk': how many values and letters a reading holds, each counted each time it is reached (what is shared counts as often as it is met; a slice's spare places count too). A statement '..UptoSaid' is the law's where the arguments, and the package variables that the reading takes, are together of bulk at most 1048576: NARROWER than '..Said'. Prove '..Said' where nothing that the law and all that it calls make is longer than what came in: it says more and counts as full. Else prove '..UptoSaid'. A law counts once. -/
mutual
def uptoBulk {H : Type} : DataW H → Nat
  | .lit (.string bytes) => bytes.length + 1
  | .lit _ => 1
  | .nil => 1
  | .ptr d => uptoBulk d + 1
  | .slice elems spare => uptoBulkAll elems + uptoBulkAll spare + 1
  | .agg parts => uptoBulkAll parts + 1
  | .iface _ d => uptoBulk d + 1
  | .map entries => uptoBulkEntries entries + 1
  | .held _ => 1
def uptoBulkAll {H : Type} : List (DataW H) → Nat
  | [] => 0
  | d :: r => uptoBulk d + uptoBulkAll r
def uptoBulkEntries {H : Type} : List (Lit × DataW H) → Nat
  | [] => 0
  | x :: r => uptoBulkEntry x + uptoBulkEntries r
def uptoBulkEntry {H : Type} : Lit × DataW H → Nat
  | (.string bytes, d) => bytes.length + uptoBulk d + 1
  | (_, d) => uptoBulk d + 1
 end
def uptoSmall : (H : Type) → List (DataW H) → Bool := fun _ ds => decide (uptoBulkAll ds ≤ 1048576)
def OpenSpec.upto (s : _root_.Go.ChangeSpec) : _root_.Go.OpenSpec := { _root_.Go.OpenSpec.ofChange s with cond := some uptoSmall }

/-- 'laws.FnTableCross', WHERE WHAT IT READS IS OF BULK AT MOST 1048576: true; the input reads as it did. -/
def fnTableCrossUptoRow : OpenClaim := { program := "ytbigbbfbikhjdab", sum := "e33cc673fd486c239a14891db29ae5ae97bb70306382e8c4b736d32af3e7ac76", func := "loop.example/limner/laws.FnTableCross", spec := "fnTableCross", apart := false, narrowed := true }
def FnTableCrossUptoSaid : Prop := fnTableCrossUptoRow.holds Try.pinned (OpenSpec.upto fnTableCrossSpec)

/-- 'laws.FnTableRowTwo', WHERE WHAT IT READS IS OF BULK AT MOST 1048576: true; the input reads as it did. -/
def fnTableRowTwoUptoRow : OpenClaim := { program := "ytbigbbfbikhjdab", sum := "e33cc673fd486c239a14891db29ae5ae97bb70306382e8c4b736d32af3e7ac76", func := "loop.example/limner/laws.FnTableRowTwo", spec := "fnTableRowTwo", apart := false, narrowed := true }
def FnTableRowTwoUptoSaid : Prop := fnTableRowTwoUptoRow.holds Try.pinned (OpenSpec.upto fnTableRowTwoSpec)

/-- 'laws.FnTableRowOutTwo', WHERE WHAT IT READS IS OF BULK AT MOST 1048576: true; the input reads as it did. -/
def fnTableRowOutTwoUptoRow : OpenClaim := { program := "ytbigbbfbikhjdab", sum := "e33cc673fd486c239a14891db29ae5ae97bb70306382e8c4b736d32af3e7ac76", func := "loop.example/limner/laws.FnTableRowOutTwo", spec := "fnTableRowOutTwo", apart := false, narrowed := true }
def FnTableRowOutTwoUptoSaid : Prop := fnTableRowOutTwoUptoRow.holds Try.pinned (OpenSpec.upto fnTableRowOutTwoSpec)

/-- 'laws.FnTableColIn', WHERE WHAT IT READS IS OF BULK AT MOST 1048576: true; the input reads as it did. -/
def fnTableColInUptoRow : OpenClaim := { program := "ytbigbbfbikhjdab", sum := "e33cc673fd486c239a14891db29ae5ae97bb70306382e8c4b736d32af3e7ac76", func := "loop.example/limner/laws.FnTableColIn", spec := "fnTableColIn", apart := false, narrowed := true }
def FnTableColInUptoSaid : Prop := fnTableColInUptoRow.holds Try.pinned (OpenSpec.upto fnTableColInSpec)

/-- 'laws.FnTableCells', WHERE WHAT IT READS IS OF BULK AT MOST 1048576: true; the input reads as it did. -/
def fnTableCellsUptoRow : OpenClaim := { program := "ytbigbbfbikhjdab", sum := "e33cc673fd486c239a14891db29ae5ae97bb70306382e8c4b736d32af3e7ac76", func := "loop.example/limner/laws.FnTableCells", spec := "fnTableCells", apart := false, narrowed := true }
def FnTableCellsUptoSaid : Prop := fnTableCellsUptoRow.holds Try.pinned (OpenSpec.upto fnTableCellsSpec)

end Rows
end Go.Proofs.Ytbigbbfbikhjdab
