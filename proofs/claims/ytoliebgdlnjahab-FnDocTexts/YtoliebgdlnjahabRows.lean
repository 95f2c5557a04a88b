/-
  No cell of these rows narrows 'for every input' (looked for: loops, veiled, ifaces, maps, wideKeys, modest, calm, conditions, laid).
  DERIVED. THE GIVEN ROWS OF THIS SEAT. 6 by the template 'for every input the law returns true; each argument reads behind the call as it read before'; 0 by the template 'total and deterministic' (their statements: YtoliebgdlnjahabTotals.lean).
  GIVEN WITH THE SEED: the statements are not yours to turn. If you find one false, say at which input.
  Laid BY PROGRAM, IN A SANDBOX (cutbox-rows.mjs): the forced cells as the released guide's own fill.sh prints them over the translation f1591fed5cd3696b… (all of the seat's roots in one cut). By AI agents, Wed Nov 11 2026. No macro, syntax, notation, axiom, sorry.
-/
import Derived.Test.YtoliebgdlnjahabChecked
import GoSem.Claim
import GoSem.ClaimJoined
import GoSem.ClaimMapViews
import Derived.JoinedTies
import Derived.KernelRfl
namespace Go.Proofs.Ytoliebgdlnjahab
/- THE CELL 'sum', in the pinned program and in every row, IS THE sha256 OF THE DUMP (.gsa) THAT YtoliebgdlnjahabProg.lean LOADS. Nothing in Lean hashes anything: it is a label: what it is worth is what the hold of that sum in a sandbox is worth. -/
noncomputable def Try.pinned : Pinned := { name := "ytoliebgdlnjahab", sum := "f1591fed5cd3696b30b9805db129e3e6811fd0dc736e9c3c8939f7d39096aa4b", checked := Try.checked }
namespace Rows
def none {H : Type} : Left H := { results := [], args := [] }

/-- 'laws.FnDocSink': WHATEVER THE INPUT: true; the input reads as it did. -/
def fnDocSinkSpec : ChangeSpec := { name := "fnDocSink", fn := fun _ => fun
  | [d] => { results := [.lit (.bool true)], args := [d] }
  | _ => none }
def fnDocSinkRow : OpenClaim := { program := "ytoliebgdlnjahab", sum := "f1591fed5cd3696b30b9805db129e3e6811fd0dc736e9c3c8939f7d39096aa4b", func := "loop.example/limner/laws.FnDocSink", spec := "fnDocSink", unfollowed := true, recurses := true, apart := false }
def FnDocSinkSaid : Prop := fnDocSinkRow.holds Try.pinned (OpenSpec.ofChange fnDocSinkSpec)

/-- ITS FALSE NEIGHBOUR: 'it returns false'. Refute it at one input. -/
def fnDocSinkWrong : ChangeSpec := { name := "fnDocSink", fn := fun _ => fun
  | [d] => { results := [.lit (.bool false)], args := [d] }
  | _ => none }
def FnDocSinkWrongFalsely : Prop := fnDocSinkRow.holds Try.pinned (OpenSpec.ofChange fnDocSinkWrong)

/-- 'laws.FnDocSinkOne': WHATEVER THE INPUT: true; the input reads as it did. -/
def fnDocSinkOneSpec : ChangeSpec := { name := "fnDocSinkOne", fn := fun _ => fun
  | [d] => { results := [.lit (.bool true)], args := [d] }
  | _ => none }
def fnDocSinkOneRow : OpenClaim := { program := "ytoliebgdlnjahab", sum := "f1591fed5cd3696b30b9805db129e3e6811fd0dc736e9c3c8939f7d39096aa4b", func := "loop.example/limner/laws.FnDocSinkOne", spec := "fnDocSinkOne", unfollowed := true, recurses := true, apart := false }
def FnDocSinkOneSaid : Prop := fnDocSinkOneRow.holds Try.pinned (OpenSpec.ofChange fnDocSinkOneSpec)

/-- ITS FALSE NEIGHBOUR: 'it returns false'. Refute it at one input. -/
def fnDocSinkOneWrong : ChangeSpec := { name := "fnDocSinkOne", fn := fun _ => fun
  | [d] => { results := [.lit (.bool false)], args := [d] }
  | _ => none }
def FnDocSinkOneWrongFalsely : Prop := fnDocSinkOneRow.holds Try.pinned (OpenSpec.ofChange fnDocSinkOneWrong)

/-- 'laws.FnDocLift': WHATEVER THE INPUT: true; the input reads as it did. -/
def fnDocLiftSpec : ChangeSpec := { name := "fnDocLift", fn := fun _ => fun
  | [d] => { results := [.lit (.bool true)], args := [d] }
  | _ => none }
def fnDocLiftRow : OpenClaim := { program := "ytoliebgdlnjahab", sum := "f1591fed5cd3696b30b9805db129e3e6811fd0dc736e9c3c8939f7d39096aa4b", func := "loop.example/limner/laws.FnDocLift", spec := "fnDocLift", unfollowed := true, recurses := true, apart := false }
def FnDocLiftSaid : Prop := fnDocLiftRow.holds Try.pinned (OpenSpec.ofChange fnDocLiftSpec)

/-- ITS FALSE NEIGHBOUR: 'it returns false'. Refute it at one input. -/
def fnDocLiftWrong : ChangeSpec := { name := "fnDocLift", fn := fun _ => fun
  | [d] => { results := [.lit (.bool false)], args := [d] }
  | _ => none }
def FnDocLiftWrongFalsely : Prop := fnDocLiftRow.holds Try.pinned (OpenSpec.ofChange fnDocLiftWrong)

/-- 'laws.FnDocItem': WHATEVER THE INPUT: true; the input reads as it did. -/
def fnDocItemSpec : ChangeSpec := { name := "fnDocItem", fn := fun _ => fun
  | [d] => { results := [.lit (.bool true)], args := [d] }
  | _ => none }
def fnDocItemRow : OpenClaim := { program := "ytoliebgdlnjahab", sum := "f1591fed5cd3696b30b9805db129e3e6811fd0dc736e9c3c8939f7d39096aa4b", func := "loop.example/limner/laws.FnDocItem", spec := "fnDocItem", unfollowed := true, recurses := true, apart := false }
def FnDocItemSaid : Prop := fnDocItemRow.holds Try.pinned (OpenSpec.ofChange fnDocItemSpec)

/-- ITS FALSE NEIGHBOUR: 'it returns false'. Refute it at one input. -/
def fnDocItemWrong : ChangeSpec := { name := "fnDocItem", fn := fun _ => fun
  | [d] => { results := [.lit (.bool false)], args := [d] }
  | _ => none }
def FnDocItemWrongFalsely : Prop := fnDocItemRow.holds Try.pinned (OpenSpec.ofChange fnDocItemWrong)

/-- 'laws.FnDocTexts': WHATEVER THE INPUT: true; the input reads as it did. -/
def fnDocTextsSpec : ChangeSpec := { name := "fnDocTexts", fn := fun _ => fun
  | [d] => { results := [.lit (.bool true)], args := [d] }
  | _ => none }
def fnDocTextsRow : OpenClaim := { program := "ytoliebgdlnjahab", sum := "f1591fed5cd3696b30b9805db129e3e6811fd0dc736e9c3c8939f7d39096aa4b", func := "loop.example/limner/laws.FnDocTexts", spec := "fnDocTexts", unfollowed := true, recurses := true, apart := false }
def FnDocTextsSaid : Prop := fnDocTextsRow.holds Try.pinned (OpenSpec.ofChange fnDocTextsSpec)

/-- ITS FALSE NEIGHBOUR: 'it returns false'. Refute it at one input. -/
def fnDocTextsWrong : ChangeSpec := { name := "fnDocTexts", fn := fun _ => fun
  | [d] => { results := [.lit (.bool false)], args := [d] }
  | _ => none }
def FnDocTextsWrongFalsely : Prop := fnDocTextsRow.holds Try.pinned (OpenSpec.ofChange fnDocTextsWrong)

/-- 'laws.FnDocBreak': WHATEVER THE INPUT: true; the input reads as it did. -/
def fnDocBreakSpec : ChangeSpec := { name := "fnDocBreak", fn := fun _ => fun
  | [d1, d2] => { results := [.lit (.bool true)], args := [d1, d2] }
  | _ => none }
def fnDocBreakRow : OpenClaim := { program := "ytoliebgdlnjahab", sum := "f1591fed5cd3696b30b9805db129e3e6811fd0dc736e9c3c8939f7d39096aa4b", func := "loop.example/limner/laws.FnDocBreak", spec := "fnDocBreak", unfollowed := true, recurses := true, apart := false }
def FnDocBreakSaid : Prop := fnDocBreakRow.holds Try.pinned (OpenSpec.ofChange fnDocBreakSpec)

/-- ITS FALSE NEIGHBOUR: 'it returns false'. Refute it at one input. -/
def fnDocBreakWrong : ChangeSpec := { name := "fnDocBreak", fn := fun _ => fun
  | [d1, d2] => { results := [.lit (.bool false)], args := [d1, d2] }
  | _ => none }
def FnDocBreakWrongFalsely : Prop := fnDocBreakRow.holds Try.pinned (OpenSpec.ofChange fnDocBreakWrong)

/- THE SECOND FORM. 'bulk': how many values and letters a reading holds, each counted each time it is reached (what is shared counts as often as it is met; a slice's spare places count too). A statement '..UptoSaid' is the law's where the arguments, and the package variables that the reading takes, are together of bulk at most 1048576: NARROWER than '..Said'. Prove '..Said' where nothing that the law and all that it calls make is longer than what came in: it says more and counts as full. Else prove '..UptoSaid'. A law counts once. -/
mutual
def uptoBulk {H : Type} : DataW H → Nat
  | .lit (.string bytes) => bytes.length + 1
  | .lit _ => 1
  | .nil => 1
  | .ptr d => uptoBulk d + 1
  | .slice elems spare => uptoBulkAll elems + uptoBulkAll spare + 1
  | .agg parts => uptoBulkAll parts + 1
  | .iface _ d => uptoBulk d + 1
  | .map entries => uptoBulkEntries entries + 1
  | .held _ => 1
def uptoBulkAll {H : Type} : List (DataW H) → Nat
  | [] => 0
  | d :: r => uptoBulk d + uptoBulkAll r
def uptoBulkEntries {H : Type} : List (Lit × DataW H) → Nat
  | [] => 0
  | x :: r => uptoBulkEntry x + uptoBulkEntries r
def uptoBulkEntry {H : Type} : Lit × DataW H → Nat
  | (.string bytes, d) => bytes.length + uptoBulk d + 1
  | (_, d) => uptoBulk d + 1
 end
def uptoSmall : (H : Type) → List (DataW H) → Bool := fun _ ds => decide (uptoBulkAll ds ≤ 1048576)
def OpenSpec.upto (s : _root_.Go.ChangeSpec) : _root_.Go.OpenSpec := { _root_.Go.OpenSpec.ofChange s with cond := some uptoSmall }

/-- 'laws.FnDocSink', WHERE WHAT IT READS IS OF BULK AT MOST 1048576: true; the input reads as it did. -/
def fnDocSinkUptoRow : OpenClaim := { program := "ytoliebgdlnjahab", sum := "f1591fed5cd3696b30b9805db129e3e6811fd0dc736e9c3c8939f7d39096aa4b", func := "loop.example/limner/laws.FnDocSink", spec := "fnDocSink", unfollowed := true, recurses := true, apart := false, narrowed := true }
def FnDocSinkUptoSaid : Prop := fnDocSinkUptoRow.holds Try.pinned (OpenSpec.upto fnDocSinkSpec)

/-- 'laws.FnDocSinkOne', WHERE WHAT IT READS IS OF BULK AT MOST 1048576: true; the input reads as it did. -/
def fnDocSinkOneUptoRow : OpenClaim := { program := "ytoliebgdlnjahab", sum := "f1591fed5cd3696b30b9805db129e3e6811fd0dc736e9c3c8939f7d39096aa4b", func := "loop.example/limner/laws.FnDocSinkOne", spec := "fnDocSinkOne", unfollowed := true, recurses := true, apart := false, narrowed := true }
def FnDocSinkOneUptoSaid : Prop := fnDocSinkOneUptoRow.holds Try.pinned (OpenSpec.upto fnDocSinkOneSpec)

/-- 'laws.FnDocLift', WHERE WHAT IT READS IS OF BULK AT MOST 1048576: true; the input reads as it did. -/
def fnDocLiftUptoRow : OpenClaim := { program := "ytoliebgdlnjahab", sum := "f1591fed5cd3696b30b9805db129e3e6811fd0dc736e9c3c8939f7d39096aa4b", func := "loop.example/limner/laws.FnDocLift", spec := "fnDocLift", unfollowed := true, recurses := true, apart := false, narrowed := true }
def FnDocLiftUptoSaid : Prop := fnDocLiftUptoRow.holds Try.pinned (OpenSpec.upto fnDocLiftSpec)

/-- 'laws.FnDocItem', WHERE WHAT IT READS IS OF BULK AT MOST 1048576: true; the input reads as it did. -/
def fnDocItemUptoRow : OpenClaim := { program := "ytoliebgdlnjahab", sum := "f1591fed5cd3696b30b9805db129e3e6811fd0dc736e9c3c8939f7d39096aa4b", func := "loop.example/limner/laws.FnDocItem", spec := "fnDocItem", unfollowed := true, recurses := true, apart := false, narrowed := true }
def FnDocItemUptoSaid : Prop := fnDocItemUptoRow.holds Try.pinned (OpenSpec.upto fnDocItemSpec)

/-- 'laws.FnDocTexts', WHERE WHAT IT READS IS OF BULK AT MOST 1048576: true; the input reads as it did. -/
def fnDocTextsUptoRow : OpenClaim := { program := "ytoliebgdlnjahab", sum := "f1591fed5cd3696b30b9805db129e3e6811fd0dc736e9c3c8939f7d39096aa4b", func := "loop.example/limner/laws.FnDocTexts", spec := "fnDocTexts", unfollowed := true, recurses := true, apart := false, narrowed := true }
def FnDocTextsUptoSaid : Prop := fnDocTextsUptoRow.holds Try.pinned (OpenSpec.upto fnDocTextsSpec)

/-- 'laws.FnDocBreak', WHERE WHAT IT READS IS OF BULK AT MOST 1048576: true; the input reads as it did. -/
def fnDocBreakUptoRow : OpenClaim := { program := "ytoliebgdlnjahab", sum := "f1591fed5cd3696b30b9805db129e3e6811fd0dc736e9c3c8939f7d39096aa4b", func := "loop.example/limner/laws.FnDocBreak", spec := "fnDocBreak", unfollowed := true, recurses := true, apart := false, narrowed := true }
def FnDocBreakUptoSaid : Prop := fnDocBreakUptoRow.holds Try.pinned (OpenSpec.upto fnDocBreakSpec)

end Rows
end Go.Proofs.Ytoliebgdlnjahab
