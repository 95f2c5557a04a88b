/-
  No cell of these rows narrows 'for every input' (looked for: loops, veiled, ifaces, maps, wideKeys, modest, calm, conditions, laid).
  DERIVED. THE GIVEN ROWS OF THIS SEAT. 6 by the template 'for every input the law returns true; each argument reads behind the call as it read before'; 0 by the template 'total and deterministic' (their statements: YtkgdocohdjebfaaTotals.lean).
  GIVEN WITH THE SEED: the statements are not yours to turn. If you find one false, say at which input.
  Laid BY PROGRAM, IN A SANDBOX (cutbox-rows.mjs): the forced cells as the released guide's own fill.sh prints them over the translation a694e98c032bf6be… (all of the seat's roots in one cut). By AI agents, Wed Nov 11 2026. No macro, syntax, notation, axiom, sorry.
-/
import Derived.Test.YtkgdocohdjebfaaChecked
import GoSem.Claim
import GoSem.ClaimJoined
import GoSem.ClaimMapViews
import Derived.JoinedTies
import Derived.KernelRfl
namespace Go.Proofs.Ytkgdocohdjebfaa
/- THE CELL 'sum', in the pinned program and in every row, IS THE sha256 OF THE DUMP (.gsa) THAT YtkgdocohdjebfaaProg.lean LOADS. Nothing in Lean hashes anything: it is a label: what it is worth is what the hold of that sum in a sandbox is worth. -/
noncomputable def Try.pinned : Pinned := { name := "ytkgdocohdjebfaa", sum := "a694e98c032bf6bee3c63a73ce4058e82f7902302fb6907395b5dcf7c57bdf65", checked := Try.checked }
namespace Rows
def none {H : Type} : Left H := { results := [], args := [] }

/-- 'laws.FnTableCol': WHATEVER THE INPUT: true; the input reads as it did. -/
def fnTableColSpec : ChangeSpec := { name := "fnTableCol", fn := fun _ => fun
  | [d] => { results := [.lit (.bool true)], args := [d] }
  | _ => none }
def fnTableColRow : OpenClaim := { program := "ytkgdocohdjebfaa", sum := "a694e98c032bf6bee3c63a73ce4058e82f7902302fb6907395b5dcf7c57bdf65", func := "loop.example/limner/laws.FnTableCol", spec := "fnTableCol", apart := false }
def FnTableColSaid : Prop := fnTableColRow.holds Try.pinned (OpenSpec.ofChange fnTableColSpec)

/-- ITS FALSE NEIGHBOUR: 'it returns false'. Refute it at one input. -/
def fnTableColWrong : ChangeSpec := { name := "fnTableCol", fn := fun _ => fun
  | [d] => { results := [.lit (.bool false)], args := [d] }
  | _ => none }
def FnTableColWrongFalsely : Prop := fnTableColRow.holds Try.pinned (OpenSpec.ofChange fnTableColWrong)

/-- 'laws.FnTableMerge': WHATEVER THE INPUT: true; the input reads as it did. -/
def fnTableMergeSpec : ChangeSpec := { name := "fnTableMerge", fn := fun _ => fun
  | [d] => { results := [.lit (.bool true)], args := [d] }
  | _ => none }
def fnTableMergeRow : OpenClaim := { program := "ytkgdocohdjebfaa", sum := "a694e98c032bf6bee3c63a73ce4058e82f7902302fb6907395b5dcf7c57bdf65", func := "loop.example/limner/laws.FnTableMerge", spec := "fnTableMerge", apart := false }
def FnTableMergeSaid : Prop := fnTableMergeRow.holds Try.pinned (OpenSpec.ofChange fnTableMergeSpec)

/-- ITS FALSE NEIGHBOUR: 'it returns false'. Refute it at one input. -/
def fnTableMergeWrong : ChangeSpec := { name := "fnTableMerge", fn := fun _ => fun
  | [d] => { results := [.lit (.bool false)], args := [d] }
  | _ => none }
def FnTableMergeWrongFalsely : Prop := fnTableMergeRow.holds Try.pinned (OpenSpec.ofChange fnTableMergeWrong)

/-- 'laws.FnTableMergeNow': WHATEVER THE INPUT: true; the input reads as it did. -/
def fnTableMergeNowSpec : ChangeSpec := { name := "fnTableMergeNow", fn := fun _ => fun
  | [d] => { results := [.lit (.bool true)], args := [d] }
  | _ => none }
def fnTableMergeNowRow : OpenClaim := { program := "ytkgdocohdjebfaa", sum := "a694e98c032bf6bee3c63a73ce4058e82f7902302fb6907395b5dcf7c57bdf65", func := "loop.example/limner/laws.FnTableMergeNow", spec := "fnTableMergeNow", unfollowed := true, recurses := true, apart := false }
def FnTableMergeNowSaid : Prop := fnTableMergeNowRow.holds Try.pinned (OpenSpec.ofChange fnTableMergeNowSpec)

/-- ITS FALSE NEIGHBOUR: 'it returns false'. Refute it at one input. -/
def fnTableMergeNowWrong : ChangeSpec := { name := "fnTableMergeNow", fn := fun _ => fun
  | [d] => { results := [.lit (.bool false)], args := [d] }
  | _ => none }
def FnTableMergeNowWrongFalsely : Prop := fnTableMergeNowRow.holds Try.pinned (OpenSpec.ofChange fnTableMergeNowWrong)

/-- 'laws.FnTableSplit': WHATEVER THE INPUT: true; the input reads as it did. -/
def fnTableSplitSpec : ChangeSpec := { name := "fnTableSplit", fn := fun _ => fun
  | [d] => { results := [.lit (.bool true)], args := [d] }
  | _ => none }
def fnTableSplitRow : OpenClaim := { program := "ytkgdocohdjebfaa", sum := "a694e98c032bf6bee3c63a73ce4058e82f7902302fb6907395b5dcf7c57bdf65", func := "loop.example/limner/laws.FnTableSplit", spec := "fnTableSplit", apart := false }
def FnTableSplitSaid : Prop := fnTableSplitRow.holds Try.pinned (OpenSpec.ofChange fnTableSplitSpec)

/-- ITS FALSE NEIGHBOUR: 'it returns false'. Refute it at one input. -/
def fnTableSplitWrong : ChangeSpec := { name := "fnTableSplit", fn := fun _ => fun
  | [d] => { results := [.lit (.bool false)], args := [d] }
  | _ => none }
def FnTableSplitWrongFalsely : Prop := fnTableSplitRow.holds Try.pinned (OpenSpec.ofChange fnTableSplitWrong)

/-- 'laws.FnTableBack': WHATEVER THE INPUT: true; the input reads as it did. -/
def fnTableBackSpec : ChangeSpec := { name := "fnTableBack", fn := fun _ => fun
  | [d] => { results := [.lit (.bool true)], args := [d] }
  | _ => none }
def fnTableBackRow : OpenClaim := { program := "ytkgdocohdjebfaa", sum := "a694e98c032bf6bee3c63a73ce4058e82f7902302fb6907395b5dcf7c57bdf65", func := "loop.example/limner/laws.FnTableBack", spec := "fnTableBack", apart := false }
def FnTableBackSaid : Prop := fnTableBackRow.holds Try.pinned (OpenSpec.ofChange fnTableBackSpec)

/-- ITS FALSE NEIGHBOUR: 'it returns false'. Refute it at one input. -/
def fnTableBackWrong : ChangeSpec := { name := "fnTableBack", fn := fun _ => fun
  | [d] => { results := [.lit (.bool false)], args := [d] }
  | _ => none }
def FnTableBackWrongFalsely : Prop := fnTableBackRow.holds Try.pinned (OpenSpec.ofChange fnTableBackWrong)

/-- 'laws.FnTableMergeTurn': WHATEVER THE INPUT: true; the input reads as it did. -/
def fnTableMergeTurnSpec : ChangeSpec := { name := "fnTableMergeTurn", fn := fun _ => fun
  | [d] => { results := [.lit (.bool true)], args := [d] }
  | _ => none }
def fnTableMergeTurnRow : OpenClaim := { program := "ytkgdocohdjebfaa", sum := "a694e98c032bf6bee3c63a73ce4058e82f7902302fb6907395b5dcf7c57bdf65", func := "loop.example/limner/laws.FnTableMergeTurn", spec := "fnTableMergeTurn", apart := false }
def FnTableMergeTurnSaid : Prop := fnTableMergeTurnRow.holds Try.pinned (OpenSpec.ofChange fnTableMergeTurnSpec)

/-- ITS FALSE NEIGHBOUR: 'it returns false'. Refute it at one input. -/
def fnTableMergeTurnWrong : ChangeSpec := { name := "fnTableMergeTurn", fn := fun _ => fun
  | [d] => { results := [.lit (.bool false)], args := [d] }
  | _ => none }
def FnTableMergeTurnWrongFalsely : Prop := fnTableMergeTurnRow.holds Try.pinned (OpenSpec.ofChange fnTableMergeTurnWrong)

/- THE SECOND FORM. 'bulk': how many values and letters a reading holds, each counted each time it is reached (what is shared counts as often as it is met; a slice's spare places count too). A statement '..UptoSaid' is the law's where the arguments, and the package variables that the reading takes, are together of bulk at most 1048576: NARROWER than '..Said'. Prove '..Said' where nothing that the law and all that it calls make is longer than what came in: it says more and counts as full. Else prove '..UptoSaid'. A law counts once. -/
mutual
def uptoBulk {H : Type} : DataW H → Nat
  | .lit (.string bytes) => bytes.length + 1
  | .lit _ => 1
  | .nil => 1
  | .ptr d => uptoBulk d + 1
  | .slice elems spare => uptoBulkAll elems + uptoBulkAll spare + 1
  | .agg parts => uptoBulkAll parts + 1
  | .iface _ d => uptoBulk d + 1
  | .map entries => uptoBulkEntries entries + 1
  | .held _ => 1
def uptoBulkAll {H : Type} : List (DataW H) → Nat
  | [] => 0
  | d :: r => uptoBulk d + uptoBulkAll r
def uptoBulkEntries {H : Type} : List (Lit × DataW H) → Nat
  | [] => 0
  | x :: r => uptoBulkEntry x + uptoBulkEntries r
def uptoBulkEntry {H : Type} : Lit × DataW H → Nat
  | (.string bytes, d) => bytes.length + uptoBulk d + 1
  | (_, d) => uptoBulk d + 1
 end
def uptoSmall : (H : Type) → List (DataW H) → Bool := fun _ ds => decide (uptoBulkAll ds ≤ 1048576)
def OpenSpec.upto (s : _root_.Go.ChangeSpec) : _root_.Go.OpenSpec := { _root_.Go.OpenSpec.ofChange s with cond := some uptoSmall }

/-- 'laws.FnTableCol', WHERE WHAT IT READS IS OF BULK AT MOST 1048576: true; the input reads as it did. -/
def fnTableColUptoRow : OpenClaim := { program := "ytkgdocohdjebfaa", sum := "a694e98c032bf6bee3c63a73ce4058e82f7902302fb6907395b5dcf7c57bdf65", func := "loop.example/limner/laws.FnTableCol", spec := "fnTableCol", apart := false, narrowed := true }
def FnTableColUptoSaid : Prop := fnTableColUptoRow.holds Try.pinned (OpenSpec.upto fnTableColSpec)

/-- 'laws.FnTableMerge', WHERE WHAT IT READS IS OF BULK AT MOST 1048576: true; the input reads as it did. -/
def fnTableMergeUptoRow : OpenClaim := { program := "ytkgdocohdjebfaa", sum := "a694e98c032bf6bee3c63a73ce4058e82f7902302fb6907395b5dcf7c57bdf65", func := "loop.example/limner/laws.FnTableMerge", spec := "fnTableMerge", apart := false, narrowed := true }
def FnTableMergeUptoSaid : Prop := fnTableMergeUptoRow.holds Try.pinned (OpenSpec.upto fnTableMergeSpec)

/-- 'laws.FnTableMergeNow', WHERE WHAT IT READS IS OF BULK AT MOST 1048576: true; the input reads as it did. -/
def fnTableMergeNowUptoRow : OpenClaim := { program := "ytkgdocohdjebfaa", sum := "a694e98c032bf6bee3c63a73ce4058e82f7902302fb6907395b5dcf7c57bdf65", func := "loop.example/limner/laws.FnTableMergeNow", spec := "fnTableMergeNow", unfollowed := true, recurses := true, apart := false, narrowed := true }
def FnTableMergeNowUptoSaid : Prop := fnTableMergeNowUptoRow.holds Try.pinned (OpenSpec.upto fnTableMergeNowSpec)

/-- 'laws.FnTableSplit', WHERE WHAT IT READS IS OF BULK AT MOST 1048576: true; the input reads as it did. -/
def fnTableSplitUptoRow : OpenClaim := { program := "ytkgdocohdjebfaa", sum := "a694e98c032bf6bee3c63a73ce4058e82f7902302fb6907395b5dcf7c57bdf65", func := "loop.example/limner/laws.FnTableSplit", spec := "fnTableSplit", apart := false, narrowed := true }
def FnTableSplitUptoSaid : Prop := fnTableSplitUptoRow.holds Try.pinned (OpenSpec.upto fnTableSplitSpec)

/-- 'laws.FnTableBack', WHERE WHAT IT READS IS OF BULK AT MOST 1048576: true; the input reads as it did. -/
def fnTableBackUptoRow : OpenClaim := { program := "ytkgdocohdjebfaa", sum := "a694e98c032bf6bee3c63a73ce4058e82f7902302fb6907395b5dcf7c57bdf65", func := "loop.example/limner/laws.FnTableBack", spec := "fnTableBack", apart := false, narrowed := true }
def FnTableBackUptoSaid : Prop := fnTableBackUptoRow.holds Try.pinned (OpenSpec.upto fnTableBackSpec)

/-- 'laws.FnTableMergeTurn', WHERE WHAT IT READS IS OF BULK AT MOST 1048576: true; the input reads as it did. -/
def fnTableMergeTurnUptoRow : OpenClaim := { program := "ytkgdocohdjebfaa", sum := "a694e98c032bf6bee3c63a73ce4058e82f7902302fb6907395b5dcf7c57bdf65", func := "loop.example/limner/laws.FnTableMergeTurn", spec := "fnTableMergeTurn", apart := false, narrowed := true }
def FnTableMergeTurnUptoSaid : Prop := fnTableMergeTurnUptoRow.holds Try.pinned (OpenSpec.upto fnTableMergeTurnSpec)

end Rows
end Go.Proofs.Ytkgdocohdjebfaa
