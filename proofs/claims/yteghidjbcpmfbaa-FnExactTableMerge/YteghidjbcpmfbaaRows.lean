/-
  No cell of these rows narrows 'for every input' (looked for: loops, veiled, ifaces, maps, wideKeys, modest, calm, conditions, laid).
  DERIVED. THE GIVEN ROWS OF THIS SEAT. 6 by the template 'for every input the law returns true; each argument reads behind the call as it read before'; 0 by the template 'total and deterministic' (their statements: YteghidjbcpmfbaaTotals.lean).
  GIVEN WITH THE SEED: the statements are not yours to turn. If you find one false, say at which input.
  Laid BY PROGRAM, IN A SANDBOX (cutbox-rows.mjs): the forced cells as the released guide's own fill.sh prints them over the translation 447bdcce3fed5682… (all of the seat's roots in one cut). By AI agents, Wed Nov 11 2026. No macro, syntax, notation, axiom, sorry.
-/
import Derived.Test.YteghidjbcpmfbaaChecked
import GoSem.Claim
import GoSem.ClaimJoined
import GoSem.ClaimMapViews
import Derived.JoinedTies
import Derived.KernelRfl
namespace Go.Proofs.Yteghidjbcpmfbaa
/- THE CELL 'sum', in the pinned program and in every row, IS THE sha256 OF THE DUMP (.gsa) THAT YteghidjbcpmfbaaProg.lean LOADS. Nothing in Lean hashes anything: it is a label: what it is worth is what the hold of that sum in a sandbox is worth. -/
noncomputable def Try.pinned : Pinned := { name := "yteghidjbcpmfbaa", sum := "447bdcce3fed56820cca07cd38262447805313e93dc2f1d34b963613bcf8092d", checked := Try.checked }
namespace Rows
def none {H : Type} : Left H := { results := [], args := [] }

/-- 'laws.FnExactTableRowIn': WHATEVER THE INPUT: true; the input reads as it did. -/
def fnExactTableRowInSpec : ChangeSpec := { name := "fnExactTableRowIn", fn := fun _ => fun
  | [d1, d2] => { results := [.lit (.bool true)], args := [d1, d2] }
  | _ => none }
def fnExactTableRowInRow : OpenClaim := { program := "yteghidjbcpmfbaa", sum := "447bdcce3fed56820cca07cd38262447805313e93dc2f1d34b963613bcf8092d", func := "loop.example/limner/laws.FnExactTableRowIn", spec := "fnExactTableRowIn", apart := false }
def FnExactTableRowInSaid : Prop := fnExactTableRowInRow.holds Try.pinned (OpenSpec.ofChange fnExactTableRowInSpec)

/-- ITS FALSE NEIGHBOUR: 'it returns false'. Refute it at one input. -/
def fnExactTableRowInWrong : ChangeSpec := { name := "fnExactTableRowIn", fn := fun _ => fun
  | [d1, d2] => { results := [.lit (.bool false)], args := [d1, d2] }
  | _ => none }
def FnExactTableRowInWrongFalsely : Prop := fnExactTableRowInRow.holds Try.pinned (OpenSpec.ofChange fnExactTableRowInWrong)

/-- 'laws.FnExactTableRowOut': WHATEVER THE INPUT: true; the input reads as it did. -/
def fnExactTableRowOutSpec : ChangeSpec := { name := "fnExactTableRowOut", fn := fun _ => fun
  | [d1, d2] => { results := [.lit (.bool true)], args := [d1, d2] }
  | _ => none }
def fnExactTableRowOutRow : OpenClaim := { program := "yteghidjbcpmfbaa", sum := "447bdcce3fed56820cca07cd38262447805313e93dc2f1d34b963613bcf8092d", func := "loop.example/limner/laws.FnExactTableRowOut", spec := "fnExactTableRowOut", apart := false }
def FnExactTableRowOutSaid : Prop := fnExactTableRowOutRow.holds Try.pinned (OpenSpec.ofChange fnExactTableRowOutSpec)

/-- ITS FALSE NEIGHBOUR: 'it returns false'. Refute it at one input. -/
def fnExactTableRowOutWrong : ChangeSpec := { name := "fnExactTableRowOut", fn := fun _ => fun
  | [d1, d2] => { results := [.lit (.bool false)], args := [d1, d2] }
  | _ => none }
def FnExactTableRowOutWrongFalsely : Prop := fnExactTableRowOutRow.holds Try.pinned (OpenSpec.ofChange fnExactTableRowOutWrong)

/-- 'laws.FnExactTableColIn': WHATEVER THE INPUT: true; the input reads as it did. -/
def fnExactTableColInSpec : ChangeSpec := { name := "fnExactTableColIn", fn := fun _ => fun
  | [d1, d2] => { results := [.lit (.bool true)], args := [d1, d2] }
  | _ => none }
def fnExactTableColInRow : OpenClaim := { program := "yteghidjbcpmfbaa", sum := "447bdcce3fed56820cca07cd38262447805313e93dc2f1d34b963613bcf8092d", func := "loop.example/limner/laws.FnExactTableColIn", spec := "fnExactTableColIn", apart := false }
def FnExactTableColInSaid : Prop := fnExactTableColInRow.holds Try.pinned (OpenSpec.ofChange fnExactTableColInSpec)

/-- ITS FALSE NEIGHBOUR: 'it returns false'. Refute it at one input. -/
def fnExactTableColInWrong : ChangeSpec := { name := "fnExactTableColIn", fn := fun _ => fun
  | [d1, d2] => { results := [.lit (.bool false)], args := [d1, d2] }
  | _ => none }
def FnExactTableColInWrongFalsely : Prop := fnExactTableColInRow.holds Try.pinned (OpenSpec.ofChange fnExactTableColInWrong)

/-- 'laws.FnExactTableColOut': WHATEVER THE INPUT: true; the input reads as it did. -/
def fnExactTableColOutSpec : ChangeSpec := { name := "fnExactTableColOut", fn := fun _ => fun
  | [d1, d2] => { results := [.lit (.bool true)], args := [d1, d2] }
  | _ => none }
def fnExactTableColOutRow : OpenClaim := { program := "yteghidjbcpmfbaa", sum := "447bdcce3fed56820cca07cd38262447805313e93dc2f1d34b963613bcf8092d", func := "loop.example/limner/laws.FnExactTableColOut", spec := "fnExactTableColOut", apart := false }
def FnExactTableColOutSaid : Prop := fnExactTableColOutRow.holds Try.pinned (OpenSpec.ofChange fnExactTableColOutSpec)

/-- ITS FALSE NEIGHBOUR: 'it returns false'. Refute it at one input. -/
def fnExactTableColOutWrong : ChangeSpec := { name := "fnExactTableColOut", fn := fun _ => fun
  | [d1, d2] => { results := [.lit (.bool false)], args := [d1, d2] }
  | _ => none }
def FnExactTableColOutWrongFalsely : Prop := fnExactTableColOutRow.holds Try.pinned (OpenSpec.ofChange fnExactTableColOutWrong)

/-- 'laws.FnExactTableMerge': WHATEVER THE INPUT: true; the input reads as it did. -/
def fnExactTableMergeSpec : ChangeSpec := { name := "fnExactTableMerge", fn := fun _ => fun
  | [d1, d2, d3, d4, d5] => { results := [.lit (.bool true)], args := [d1, d2, d3, d4, d5] }
  | _ => none }
def fnExactTableMergeRow : OpenClaim := { program := "yteghidjbcpmfbaa", sum := "447bdcce3fed56820cca07cd38262447805313e93dc2f1d34b963613bcf8092d", func := "loop.example/limner/laws.FnExactTableMerge", spec := "fnExactTableMerge", apart := false }
def FnExactTableMergeSaid : Prop := fnExactTableMergeRow.holds Try.pinned (OpenSpec.ofChange fnExactTableMergeSpec)

/-- ITS FALSE NEIGHBOUR: 'it returns false'. Refute it at one input. -/
def fnExactTableMergeWrong : ChangeSpec := { name := "fnExactTableMerge", fn := fun _ => fun
  | [d1, d2, d3, d4, d5] => { results := [.lit (.bool false)], args := [d1, d2, d3, d4, d5] }
  | _ => none }
def FnExactTableMergeWrongFalsely : Prop := fnExactTableMergeRow.holds Try.pinned (OpenSpec.ofChange fnExactTableMergeWrong)

/-- 'laws.FnExactTableSplit': WHATEVER THE INPUT: true; the input reads as it did. -/
def fnExactTableSplitSpec : ChangeSpec := { name := "fnExactTableSplit", fn := fun _ => fun
  | [d1, d2] => { results := [.lit (.bool true)], args := [d1, d2] }
  | _ => none }
def fnExactTableSplitRow : OpenClaim := { program := "yteghidjbcpmfbaa", sum := "447bdcce3fed56820cca07cd38262447805313e93dc2f1d34b963613bcf8092d", func := "loop.example/limner/laws.FnExactTableSplit", spec := "fnExactTableSplit", apart := false }
def FnExactTableSplitSaid : Prop := fnExactTableSplitRow.holds Try.pinned (OpenSpec.ofChange fnExactTableSplitSpec)

/-- ITS FALSE NEIGHBOUR: 'it returns false'. Refute it at one input. -/
def fnExactTableSplitWrong : ChangeSpec := { name := "fnExactTableSplit", fn := fun _ => fun
  | [d1, d2] => { results := [.lit (.bool false)], args := [d1, d2] }
  | _ => none }
def FnExactTableSplitWrongFalsely : Prop := fnExactTableSplitRow.holds Try.pinned (OpenSpec.ofChange fnExactTableSplitWrong)

/- THE SECOND FORM. 'bulk': how many values and letters a reading holds, each counted each time it is reached (what is shared counts as often as it is met; a slice's spare places count too). A statement '..UptoSaid' is the law's where the arguments, and the package variables that the reading takes, are together of bulk at most 1048576: NARROWER than '..Said'. Prove '..Said' where nothing that the law and all that it calls make is longer than what came in: it says more and counts as full. Else prove '..UptoSaid'. A law counts once. -/
mutual
def uptoBulk {H : Type} : DataW H → Nat
  | .lit (.string bytes) => bytes.length + 1
  | .lit _ => 1
  | .nil => 1
  | .ptr d => uptoBulk d + 1
  | .slice elems spare => uptoBulkAll elems + uptoBulkAll spare + 1
  | .agg parts => uptoBulkAll parts + 1
  | .iface _ d => uptoBulk d + 1
  | .map entries => uptoBulkEntries entries + 1
  | .held _ => 1
def uptoBulkAll {H : Type} : List (DataW H) → Nat
  | [] => 0
  | d :: r => uptoBulk d + uptoBulkAll r
def uptoBulkEntries {H : Type} : List (Lit × DataW H) → Nat
  | [] => 0
  | x :: r => uptoBulkEntry x + uptoBulkEntries r
def uptoBulkEntry {H : Type} : Lit × DataW H → Nat
  | (.string bytes, d) => bytes.length + uptoBulk d + 1
  | (_, d) => uptoBulk d + 1
 end
def uptoSmall : (H : Type) → List (DataW H) → Bool := fun _ ds => decide (uptoBulkAll ds ≤ 1048576)
def OpenSpec.upto (s : _root_.Go.ChangeSpec) : _root_.Go.OpenSpec := { _root_.Go.OpenSpec.ofChange s with cond := some uptoSmall }

/-- 'laws.FnExactTableRowIn', WHERE WHAT IT READS IS OF BULK AT MOST 1048576: true; the input reads as it did. -/
def fnExactTableRowInUptoRow : OpenClaim := { program := "yteghidjbcpmfbaa", sum := "447bdcce3fed56820cca07cd38262447805313e93dc2f1d34b963613bcf8092d", func := "loop.example/limner/laws.FnExactTableRowIn", spec := "fnExactTableRowIn", apart := false, narrowed := true }
def FnExactTableRowInUptoSaid : Prop := fnExactTableRowInUptoRow.holds Try.pinned (OpenSpec.upto fnExactTableRowInSpec)

/-- 'laws.FnExactTableRowOut', WHERE WHAT IT READS IS OF BULK AT MOST 1048576: true; the input reads as it did. -/
def fnExactTableRowOutUptoRow : OpenClaim := { program := "yteghidjbcpmfbaa", sum := "447bdcce3fed56820cca07cd38262447805313e93dc2f1d34b963613bcf8092d", func := "loop.example/limner/laws.FnExactTableRowOut", spec := "fnExactTableRowOut", apart := false, narrowed := true }
def FnExactTableRowOutUptoSaid : Prop := fnExactTableRowOutUptoRow.holds Try.pinned (OpenSpec.upto fnExactTableRowOutSpec)

/-- 'laws.FnExactTableColIn', WHERE WHAT IT READS IS OF BULK AT MOST 1048576: true; the input reads as it did. -/
def fnExactTableColInUptoRow : OpenClaim := { program := "yteghidjbcpmfbaa", sum := "447bdcce3fed56820cca07cd38262447805313e93dc2f1d34b963613bcf8092d", func := "loop.example/limner/laws.FnExactTableColIn", spec := "fnExactTableColIn", apart := false, narrowed := true }
def FnExactTableColInUptoSaid : Prop := fnExactTableColInUptoRow.holds Try.pinned (OpenSpec.upto fnExactTableColInSpec)

/-- 'laws.FnExactTableColOut', WHERE WHAT IT READS IS OF BULK AT MOST 1048576: true; the input reads as it did. -/
def fnExactTableColOutUptoRow : OpenClaim := { program := "yteghidjbcpmfbaa", sum := "447bdcce3fed56820cca07cd38262447805313e93dc2f1d34b963613bcf8092d", func := "loop.example/limner/laws.FnExactTableColOut", spec := "fnExactTableColOut", apart := false, narrowed := true }
def FnExactTableColOutUptoSaid : Prop := fnExactTableColOutUptoRow.holds Try.pinned (OpenSpec.upto fnExactTableColOutSpec)

/-- 'laws.FnExactTableMerge', WHERE WHAT IT READS IS OF BULK AT MOST 1048576: true; the input reads as it did. -/
def fnExactTableMergeUptoRow : OpenClaim := { program := "yteghidjbcpmfbaa", sum := "447bdcce3fed56820cca07cd38262447805313e93dc2f1d34b963613bcf8092d", func := "loop.example/limner/laws.FnExactTableMerge", spec := "fnExactTableMerge", apart := false, narrowed := true }
def FnExactTableMergeUptoSaid : Prop := fnExactTableMergeUptoRow.holds Try.pinned (OpenSpec.upto fnExactTableMergeSpec)

/-- 'laws.FnExactTableSplit', WHERE WHAT IT READS IS OF BULK AT MOST 1048576: true; the input reads as it did. -/
def fnExactTableSplitUptoRow : OpenClaim := { program := "yteghidjbcpmfbaa", sum := "447bdcce3fed56820cca07cd38262447805313e93dc2f1d34b963613bcf8092d", func := "loop.example/limner/laws.FnExactTableSplit", spec := "fnExactTableSplit", apart := false, narrowed := true }
def FnExactTableSplitUptoSaid : Prop := fnExactTableSplitUptoRow.holds Try.pinned (OpenSpec.upto fnExactTableSplitSpec)

end Rows
end Go.Proofs.Yteghidjbcpmfbaa
