/-
  No cell of these rows narrows 'for every input' (looked for: loops, veiled, ifaces, maps, wideKeys, modest, calm, conditions, laid).
  DERIVED. THE GIVEN ROWS OF THIS SEAT. 6 by the template 'for every input the law returns true; each argument reads behind the call as it read before'; 0 by the template 'total and deterministic' (their statements: YtbigbbfbikhjdaaTotals.lean).
  GIVEN WITH THE SEED: the statements are not yours to turn. If you find one false, say at which input.
  Laid BY PROGRAM, IN A SANDBOX (cutbox-rows.mjs): the forced cells as the released guide's own fill.sh prints them over the translation 664d8473fe3441f2… (all of the seat's roots in one cut). By AI agents, Wed Nov 11 2026. No macro, syntax, notation, axiom, sorry.
-/
import Derived.Test.YtbigbbfbikhjdaaChecked
import GoSem.Claim
import GoSem.ClaimJoined
import GoSem.ClaimMapViews
import Derived.JoinedTies
import Derived.KernelRfl
namespace Go.Proofs.Ytbigbbfbikhjdaa
/- THE CELL 'sum', in the pinned program and in every row, IS THE sha256 OF THE DUMP (.gsa) THAT YtbigbbfbikhjdaaProg.lean LOADS. Nothing in Lean hashes anything: it is a label: what it is worth is what the hold of that sum in a sandbox is worth. -/
noncomputable def Try.pinned : Pinned := { name := "ytbigbbfbikhjdaa", sum := "664d8473fe3441f2427216d263734470b25491a361211e6a8925ba4541088520", checked := Try.checked }
namespace Rows
def none {H : Type} : Left H := { results := [], args := [] }

/-- 'laws.FnTableRow': WHATEVER THE INPUT: true; the input reads as it did. -/
def fnTableRowSpec : ChangeSpec := { name := "fnTableRow", fn := fun _ => fun
  | [d] => { results := [.lit (.bool true)], args := [d] }
  | _ => none }
def fnTableRowRow : OpenClaim := { program := "ytbigbbfbikhjdaa", sum := "664d8473fe3441f2427216d263734470b25491a361211e6a8925ba4541088520", func := "loop.example/limner/laws.FnTableRow", spec := "fnTableRow", apart := false }
def FnTableRowSaid : Prop := fnTableRowRow.holds Try.pinned (OpenSpec.ofChange fnTableRowSpec)

/-- ITS FALSE NEIGHBOUR: 'it returns false'. Refute it at one input. -/
def fnTableRowWrong : ChangeSpec := { name := "fnTableRow", fn := fun _ => fun
  | [d] => { results := [.lit (.bool false)], args := [d] }
  | _ => none }
def FnTableRowWrongFalsely : Prop := fnTableRowRow.holds Try.pinned (OpenSpec.ofChange fnTableRowWrong)

/-- 'laws.FnTableRowIn': WHATEVER THE INPUT: true; the input reads as it did. -/
def fnTableRowInSpec : ChangeSpec := { name := "fnTableRowIn", fn := fun _ => fun
  | [d] => { results := [.lit (.bool true)], args := [d] }
  | _ => none }
def fnTableRowInRow : OpenClaim := { program := "ytbigbbfbikhjdaa", sum := "664d8473fe3441f2427216d263734470b25491a361211e6a8925ba4541088520", func := "loop.example/limner/laws.FnTableRowIn", spec := "fnTableRowIn", apart := false }
def FnTableRowInSaid : Prop := fnTableRowInRow.holds Try.pinned (OpenSpec.ofChange fnTableRowInSpec)

/-- ITS FALSE NEIGHBOUR: 'it returns false'. Refute it at one input. -/
def fnTableRowInWrong : ChangeSpec := { name := "fnTableRowIn", fn := fun _ => fun
  | [d] => { results := [.lit (.bool false)], args := [d] }
  | _ => none }
def FnTableRowInWrongFalsely : Prop := fnTableRowInRow.holds Try.pinned (OpenSpec.ofChange fnTableRowInWrong)

/-- 'laws.FnTableRowOut': WHATEVER THE INPUT: true; the input reads as it did. -/
def fnTableRowOutSpec : ChangeSpec := { name := "fnTableRowOut", fn := fun _ => fun
  | [d] => { results := [.lit (.bool true)], args := [d] }
  | _ => none }
def fnTableRowOutRow : OpenClaim := { program := "ytbigbbfbikhjdaa", sum := "664d8473fe3441f2427216d263734470b25491a361211e6a8925ba4541088520", func := "loop.example/limner/laws.FnTableRowOut", spec := "fnTableRowOut", apart := false }
def FnTableRowOutSaid : Prop := fnTableRowOutRow.holds Try.pinned (OpenSpec.ofChange fnTableRowOutSpec)

/-- ITS FALSE NEIGHBOUR: 'it returns false'. Refute it at one input. -/
def fnTableRowOutWrong : ChangeSpec := { name := "fnTableRowOut", fn := fun _ => fun
  | [d] => { results := [.lit (.bool false)], args := [d] }
  | _ => none }
def FnTableRowOutWrongFalsely : Prop := fnTableRowOutRow.holds Try.pinned (OpenSpec.ofChange fnTableRowOutWrong)

/-- 'laws.FnTableCol': WHATEVER THE INPUT: true; the input reads as it did. -/
def fnTableColSpec : ChangeSpec := { name := "fnTableCol", fn := fun _ => fun
  | [d] => { results := [.lit (.bool true)], args := [d] }
  | _ => none }
def fnTableColRow : OpenClaim := { program := "ytbigbbfbikhjdaa", sum := "664d8473fe3441f2427216d263734470b25491a361211e6a8925ba4541088520", func := "loop.example/limner/laws.FnTableCol", spec := "fnTableCol", apart := false }
def FnTableColSaid : Prop := fnTableColRow.holds Try.pinned (OpenSpec.ofChange fnTableColSpec)

/-- ITS FALSE NEIGHBOUR: 'it returns false'. Refute it at one input. -/
def fnTableColWrong : ChangeSpec := { name := "fnTableCol", fn := fun _ => fun
  | [d] => { results := [.lit (.bool false)], args := [d] }
  | _ => none }
def FnTableColWrongFalsely : Prop := fnTableColRow.holds Try.pinned (OpenSpec.ofChange fnTableColWrong)

/-- 'laws.FnTableColBack': WHATEVER THE INPUT: true; the input reads as it did. -/
def fnTableColBackSpec : ChangeSpec := { name := "fnTableColBack", fn := fun _ => fun
  | [d] => { results := [.lit (.bool true)], args := [d] }
  | _ => none }
def fnTableColBackRow : OpenClaim := { program := "ytbigbbfbikhjdaa", sum := "664d8473fe3441f2427216d263734470b25491a361211e6a8925ba4541088520", func := "loop.example/limner/laws.FnTableColBack", spec := "fnTableColBack", apart := false }
def FnTableColBackSaid : Prop := fnTableColBackRow.holds Try.pinned (OpenSpec.ofChange fnTableColBackSpec)

/-- ITS FALSE NEIGHBOUR: 'it returns false'. Refute it at one input. -/
def fnTableColBackWrong : ChangeSpec := { name := "fnTableColBack", fn := fun _ => fun
  | [d] => { results := [.lit (.bool false)], args := [d] }
  | _ => none }
def FnTableColBackWrongFalsely : Prop := fnTableColBackRow.holds Try.pinned (OpenSpec.ofChange fnTableColBackWrong)

/-- 'laws.FnTableSigns': WHATEVER THE INPUT: true; the input reads as it did. -/
def fnTableSignsSpec : ChangeSpec := { name := "fnTableSigns", fn := fun _ => fun
  | [d1, d2] => { results := [.lit (.bool true)], args := [d1, d2] }
  | _ => none }
def fnTableSignsRow : OpenClaim := { program := "ytbigbbfbikhjdaa", sum := "664d8473fe3441f2427216d263734470b25491a361211e6a8925ba4541088520", func := "loop.example/limner/laws.FnTableSigns", spec := "fnTableSigns", apart := false }
def FnTableSignsSaid : Prop := fnTableSignsRow.holds Try.pinned (OpenSpec.ofChange fnTableSignsSpec)

/-- ITS FALSE NEIGHBOUR: 'it returns false'. Refute it at one input. -/
def fnTableSignsWrong : ChangeSpec := { name := "fnTableSigns", fn := fun _ => fun
  | [d1, d2] => { results := [.lit (.bool false)], args := [d1, d2] }
  | _ => none }
def FnTableSignsWrongFalsely : Prop := fnTableSignsRow.holds Try.pinned (OpenSpec.ofChange fnTableSignsWrong)

/- THE SECOND FORM. 'bulk': how many values and letters a reading holds, each counted each time it is reached (what is shared counts as often as it is met; a slice's spare places count too). A statement '..UptoSaid' is the law's where the arguments, and the package variables that the reading takes, are together of bulk at most 1048576: NARROWER than '..Said'. Prove '..Said' where nothing that the law and all that it calls make is longer than what came in: it says more and counts as full. Else prove '..UptoSaid'. A law counts once. -/
mutual
def uptoBulk {H : Type} : DataW H → Nat
  | .lit (.string bytes) => bytes.length + 1
  | .lit _ => 1
  | .nil => 1
  | .ptr d => uptoBulk d + 1
  | .slice elems spare => uptoBulkAll elems + uptoBulkAll spare + 1
  | .agg parts => uptoBulkAll parts + 1
  | .iface _ d => uptoBulk d + 1
  | .map entries => uptoBulkEntries entries + 1
  | .held _ => 1
def uptoBulkAll {H : Type} : List (DataW H) → Nat
  | [] => 0
  | d :: r => uptoBulk d + uptoBulkAll r
def uptoBulkEntries {H : Type} : List (Lit × DataW H) → Nat
  | [] => 0
  | x :: r => uptoBulkEntry x + uptoBulkEntries r
def uptoBulkEntry {H : Type} : Lit × DataW H → Nat
  | (.string bytes, d) => bytes.length + uptoBulk d + 1
  | (_, d) => uptoBulk d + 1
 end
def uptoSmall : (H : Type) → List (DataW H) → Bool := fun _ ds => decide (uptoBulkAll ds ≤ 1048576)
def OpenSpec.upto (s : _root_.Go.ChangeSpec) : _root_.Go.OpenSpec := { _root_.Go.OpenSpec.ofChange s with cond := some uptoSmall }

/-- 'laws.FnTableRow', WHERE WHAT IT READS IS OF BULK AT MOST 1048576: true; the input reads as it did. -/
def fnTableRowUptoRow : OpenClaim := { program := "ytbigbbfbikhjdaa", sum := "664d8473fe3441f2427216d263734470b25491a361211e6a8925ba4541088520", func := "loop.example/limner/laws.FnTableRow", spec := "fnTableRow", apart := false, narrowed := true }
def FnTableRowUptoSaid : Prop := fnTableRowUptoRow.holds Try.pinned (OpenSpec.upto fnTableRowSpec)

/-- 'laws.FnTableRowIn', WHERE WHAT IT READS IS OF BULK AT MOST 1048576: true; the input reads as it did. -/
def fnTableRowInUptoRow : OpenClaim := { program := "ytbigbbfbikhjdaa", sum := "664d8473fe3441f2427216d263734470b25491a361211e6a8925ba4541088520", func := "loop.example/limner/laws.FnTableRowIn", spec := "fnTableRowIn", apart := false, narrowed := true }
def FnTableRowInUptoSaid : Prop := fnTableRowInUptoRow.holds Try.pinned (OpenSpec.upto fnTableRowInSpec)

/-- 'laws.FnTableRowOut', WHERE WHAT IT READS IS OF BULK AT MOST 1048576: true; the input reads as it did. -/
def fnTableRowOutUptoRow : OpenClaim := { program := "ytbigbbfbikhjdaa", sum := "664d8473fe3441f2427216d263734470b25491a361211e6a8925ba4541088520", func := "loop.example/limner/laws.FnTableRowOut", spec := "fnTableRowOut", apart := false, narrowed := true }
def FnTableRowOutUptoSaid : Prop := fnTableRowOutUptoRow.holds Try.pinned (OpenSpec.upto fnTableRowOutSpec)

/-- 'laws.FnTableCol', WHERE WHAT IT READS IS OF BULK AT MOST 1048576: true; the input reads as it did. -/
def fnTableColUptoRow : OpenClaim := { program := "ytbigbbfbikhjdaa", sum := "664d8473fe3441f2427216d263734470b25491a361211e6a8925ba4541088520", func := "loop.example/limner/laws.FnTableCol", spec := "fnTableCol", apart := false, narrowed := true }
def FnTableColUptoSaid : Prop := fnTableColUptoRow.holds Try.pinned (OpenSpec.upto fnTableColSpec)

/-- 'laws.FnTableColBack', WHERE WHAT IT READS IS OF BULK AT MOST 1048576: true; the input reads as it did. -/
def fnTableColBackUptoRow : OpenClaim := { program := "ytbigbbfbikhjdaa", sum := "664d8473fe3441f2427216d263734470b25491a361211e6a8925ba4541088520", func := "loop.example/limner/laws.FnTableColBack", spec := "fnTableColBack", apart := false, narrowed := true }
def FnTableColBackUptoSaid : Prop := fnTableColBackUptoRow.holds Try.pinned (OpenSpec.upto fnTableColBackSpec)

/-- 'laws.FnTableSigns', WHERE WHAT IT READS IS OF BULK AT MOST 1048576: true; the input reads as it did. -/
def fnTableSignsUptoRow : OpenClaim := { program := "ytbigbbfbikhjdaa", sum := "664d8473fe3441f2427216d263734470b25491a361211e6a8925ba4541088520", func := "loop.example/limner/laws.FnTableSigns", spec := "fnTableSigns", apart := false, narrowed := true }
def FnTableSignsUptoSaid : Prop := fnTableSignsUptoRow.holds Try.pinned (OpenSpec.upto fnTableSignsSpec)

end Rows
end Go.Proofs.Ytbigbbfbikhjdaa
