/-
  No cell of these rows narrows 'for every input' (looked for: loops, veiled, ifaces, maps, wideKeys, modest, calm, conditions, laid).
  DERIVED. THE GIVEN ROWS OF THIS SEAT. 6 by the template 'for every input the law returns true; each argument reads behind the call as it read before'; 0 by the template 'total and deterministic' (their statements: YtoliebgdlnjahaaTotals.lean).
  GIVEN WITH THE SEED: the statements are not yours to turn. If you find one false, say at which input.
  Laid BY PROGRAM, IN A SANDBOX (cutbox-rows.mjs): the forced cells as the released guide's own fill.sh prints them over the translation d11b7e61e01cd045… (all of the seat's roots in one cut). By AI agents, Wed Nov 11 2026. No macro, syntax, notation, axiom, sorry.
-/
import Derived.Test.YtoliebgdlnjahaaChecked
import GoSem.Claim
import GoSem.ClaimJoined
import GoSem.ClaimMapViews
import Derived.JoinedTies
import Derived.KernelRfl
namespace Go.Proofs.Ytoliebgdlnjahaa
/- THE CELL 'sum', in the pinned program and in every row, IS THE sha256 OF THE DUMP (.gsa) THAT YtoliebgdlnjahaaProg.lean LOADS. Nothing in Lean hashes anything: it is a label: what it is worth is what the hold of that sum in a sandbox is worth. -/
noncomputable def Try.pinned : Pinned := { name := "ytoliebgdlnjahaa", sum := "d11b7e61e01cd045cb185f01bf38e155a656284d90861d783f3de75ac929665b", checked := Try.checked }
namespace Rows
def none {H : Type} : Left H := { results := [], args := [] }

/-- 'laws.FnDocOk': WHATEVER THE INPUT: true; the input reads as it did. -/
def fnDocOkSpec : ChangeSpec := { name := "fnDocOk", fn := fun _ => fun
  | [d1, d2] => { results := [.lit (.bool true)], args := [d1, d2] }
  | _ => none }
def fnDocOkRow : OpenClaim := { program := "ytoliebgdlnjahaa", sum := "d11b7e61e01cd045cb185f01bf38e155a656284d90861d783f3de75ac929665b", func := "loop.example/limner/laws.FnDocOk", spec := "fnDocOk", unfollowed := true, recurses := true, apart := false }
def FnDocOkSaid : Prop := fnDocOkRow.holds Try.pinned (OpenSpec.ofChange fnDocOkSpec)

/-- ITS FALSE NEIGHBOUR: 'it returns false'. Refute it at one input. -/
def fnDocOkWrong : ChangeSpec := { name := "fnDocOk", fn := fun _ => fun
  | [d1, d2] => { results := [.lit (.bool false)], args := [d1, d2] }
  | _ => none }
def FnDocOkWrongFalsely : Prop := fnDocOkRow.holds Try.pinned (OpenSpec.ofChange fnDocOkWrong)

/-- 'laws.FnDocOne': WHATEVER THE INPUT: true; the input reads as it did. -/
def fnDocOneSpec : ChangeSpec := { name := "fnDocOne", fn := fun _ => fun
  | [d1, d2] => { results := [.lit (.bool true)], args := [d1, d2] }
  | _ => none }
def fnDocOneRow : OpenClaim := { program := "ytoliebgdlnjahaa", sum := "d11b7e61e01cd045cb185f01bf38e155a656284d90861d783f3de75ac929665b", func := "loop.example/limner/laws.FnDocOne", spec := "fnDocOne", inPlace := ["internal/abi.NoEscape"], unfollowed := true, recurses := true, apart := false }
def FnDocOneSaid : Prop := fnDocOneRow.holds Try.pinned (OpenSpec.ofChange fnDocOneSpec)

/-- ITS FALSE NEIGHBOUR: 'it returns false'. Refute it at one input. -/
def fnDocOneWrong : ChangeSpec := { name := "fnDocOne", fn := fun _ => fun
  | [d1, d2] => { results := [.lit (.bool false)], args := [d1, d2] }
  | _ => none }
def FnDocOneWrongFalsely : Prop := fnDocOneRow.holds Try.pinned (OpenSpec.ofChange fnDocOneWrong)

/-- 'laws.FnDocTwo': WHATEVER THE INPUT: true; the input reads as it did. -/
def fnDocTwoSpec : ChangeSpec := { name := "fnDocTwo", fn := fun _ => fun
  | [d1, d2] => { results := [.lit (.bool true)], args := [d1, d2] }
  | _ => none }
def fnDocTwoRow : OpenClaim := { program := "ytoliebgdlnjahaa", sum := "d11b7e61e01cd045cb185f01bf38e155a656284d90861d783f3de75ac929665b", func := "loop.example/limner/laws.FnDocTwo", spec := "fnDocTwo", inPlace := ["internal/abi.NoEscape"], unfollowed := true, recurses := true, apart := false }
def FnDocTwoSaid : Prop := fnDocTwoRow.holds Try.pinned (OpenSpec.ofChange fnDocTwoSpec)

/-- ITS FALSE NEIGHBOUR: 'it returns false'. Refute it at one input. -/
def fnDocTwoWrong : ChangeSpec := { name := "fnDocTwo", fn := fun _ => fun
  | [d1, d2] => { results := [.lit (.bool false)], args := [d1, d2] }
  | _ => none }
def FnDocTwoWrongFalsely : Prop := fnDocTwoRow.holds Try.pinned (OpenSpec.ofChange fnDocTwoWrong)

/-- 'laws.FnDocNums': WHATEVER THE INPUT: true; the input reads as it did. -/
def fnDocNumsSpec : ChangeSpec := { name := "fnDocNums", fn := fun _ => fun
  | [d] => { results := [.lit (.bool true)], args := [d] }
  | _ => none }
def fnDocNumsRow : OpenClaim := { program := "ytoliebgdlnjahaa", sum := "d11b7e61e01cd045cb185f01bf38e155a656284d90861d783f3de75ac929665b", func := "loop.example/limner/laws.FnDocNums", spec := "fnDocNums", unfollowed := true, recurses := true, apart := false }
def FnDocNumsSaid : Prop := fnDocNumsRow.holds Try.pinned (OpenSpec.ofChange fnDocNumsSpec)

/-- ITS FALSE NEIGHBOUR: 'it returns false'. Refute it at one input. -/
def fnDocNumsWrong : ChangeSpec := { name := "fnDocNums", fn := fun _ => fun
  | [d] => { results := [.lit (.bool false)], args := [d] }
  | _ => none }
def FnDocNumsWrongFalsely : Prop := fnDocNumsRow.holds Try.pinned (OpenSpec.ofChange fnDocNumsWrong)

/-- 'laws.FnDocNext': WHATEVER THE INPUT: true; the input reads as it did. -/
def fnDocNextSpec : ChangeSpec := { name := "fnDocNext", fn := fun _ => fun
  | [d] => { results := [.lit (.bool true)], args := [d] }
  | _ => none }
def fnDocNextRow : OpenClaim := { program := "ytoliebgdlnjahaa", sum := "d11b7e61e01cd045cb185f01bf38e155a656284d90861d783f3de75ac929665b", func := "loop.example/limner/laws.FnDocNext", spec := "fnDocNext", unfollowed := true, recurses := true, apart := false }
def FnDocNextSaid : Prop := fnDocNextRow.holds Try.pinned (OpenSpec.ofChange fnDocNextSpec)

/-- ITS FALSE NEIGHBOUR: 'it returns false'. Refute it at one input. -/
def fnDocNextWrong : ChangeSpec := { name := "fnDocNext", fn := fun _ => fun
  | [d] => { results := [.lit (.bool false)], args := [d] }
  | _ => none }
def FnDocNextWrongFalsely : Prop := fnDocNextRow.holds Try.pinned (OpenSpec.ofChange fnDocNextWrong)

/-- 'laws.FnDocNumsOrder': WHATEVER THE INPUT: true; the input reads as it did. -/
def fnDocNumsOrderSpec : ChangeSpec := { name := "fnDocNumsOrder", fn := fun _ => fun
  | [d] => { results := [.lit (.bool true)], args := [d] }
  | _ => none }
def fnDocNumsOrderRow : OpenClaim := { program := "ytoliebgdlnjahaa", sum := "d11b7e61e01cd045cb185f01bf38e155a656284d90861d783f3de75ac929665b", func := "loop.example/limner/laws.FnDocNumsOrder", spec := "fnDocNumsOrder", unfollowed := true, recurses := true, apart := false }
def FnDocNumsOrderSaid : Prop := fnDocNumsOrderRow.holds Try.pinned (OpenSpec.ofChange fnDocNumsOrderSpec)

/-- ITS FALSE NEIGHBOUR: 'it returns false'. Refute it at one input. -/
def fnDocNumsOrderWrong : ChangeSpec := { name := "fnDocNumsOrder", fn := fun _ => fun
  | [d] => { results := [.lit (.bool false)], args := [d] }
  | _ => none }
def FnDocNumsOrderWrongFalsely : Prop := fnDocNumsOrderRow.holds Try.pinned (OpenSpec.ofChange fnDocNumsOrderWrong)

/- THE SECOND FORM. 'bulk': how many values and letters a reading holds, each counted each time it is reached (what is shared counts as often as it is met; a slice's spare places count too). A statement '..UptoSaid' is the law's where the arguments, and the package variables that the reading takes, are together of bulk at most 1048576: NARROWER than '..Said'. Prove '..Said' where nothing that the law and all that it calls make is longer than what came in: it says more and counts as full. Else prove '..UptoSaid'. A law counts once. -/
mutual
def uptoBulk {H : Type} : DataW H → Nat
  | .lit (.string bytes) => bytes.length + 1
  | .lit _ => 1
  | .nil => 1
  | .ptr d => uptoBulk d + 1
  | .slice elems spare => uptoBulkAll elems + uptoBulkAll spare + 1
  | .agg parts => uptoBulkAll parts + 1
  | .iface _ d => uptoBulk d + 1
  | .map entries => uptoBulkEntries entries + 1
  | .held _ => 1
def uptoBulkAll {H : Type} : List (DataW H) → Nat
  | [] => 0
  | d :: r => uptoBulk d + uptoBulkAll r
def uptoBulkEntries {H : Type} : List (Lit × DataW H) → Nat
  | [] => 0
  | x :: r => uptoBulkEntry x + uptoBulkEntries r
def uptoBulkEntry {H : Type} : Lit × DataW H → Nat
  | (.string bytes, d) => bytes.length + uptoBulk d + 1
  | (_, d) => uptoBulk d + 1
 end
def uptoSmall : (H : Type) → List (DataW H) → Bool := fun _ ds => decide (uptoBulkAll ds ≤ 1048576)
def OpenSpec.upto (s : _root_.Go.ChangeSpec) : _root_.Go.OpenSpec := { _root_.Go.OpenSpec.ofChange s with cond := some uptoSmall }

/-- 'laws.FnDocOk', WHERE WHAT IT READS IS OF BULK AT MOST 1048576: true; the input reads as it did. -/
def fnDocOkUptoRow : OpenClaim := { program := "ytoliebgdlnjahaa", sum := "d11b7e61e01cd045cb185f01bf38e155a656284d90861d783f3de75ac929665b", func := "loop.example/limner/laws.FnDocOk", spec := "fnDocOk", unfollowed := true, recurses := true, apart := false, narrowed := true }
def FnDocOkUptoSaid : Prop := fnDocOkUptoRow.holds Try.pinned (OpenSpec.upto fnDocOkSpec)

/-- 'laws.FnDocOne', WHERE WHAT IT READS IS OF BULK AT MOST 1048576: true; the input reads as it did. -/
def fnDocOneUptoRow : OpenClaim := { program := "ytoliebgdlnjahaa", sum := "d11b7e61e01cd045cb185f01bf38e155a656284d90861d783f3de75ac929665b", func := "loop.example/limner/laws.FnDocOne", spec := "fnDocOne", inPlace := ["internal/abi.NoEscape"], unfollowed := true, recurses := true, apart := false, narrowed := true }
def FnDocOneUptoSaid : Prop := fnDocOneUptoRow.holds Try.pinned (OpenSpec.upto fnDocOneSpec)

/-- 'laws.FnDocTwo', WHERE WHAT IT READS IS OF BULK AT MOST 1048576: true; the input reads as it did. -/
def fnDocTwoUptoRow : OpenClaim := { program := "ytoliebgdlnjahaa", sum := "d11b7e61e01cd045cb185f01bf38e155a656284d90861d783f3de75ac929665b", func := "loop.example/limner/laws.FnDocTwo", spec := "fnDocTwo", inPlace := ["internal/abi.NoEscape"], unfollowed := true, recurses := true, apart := false, narrowed := true }
def FnDocTwoUptoSaid : Prop := fnDocTwoUptoRow.holds Try.pinned (OpenSpec.upto fnDocTwoSpec)

/-- 'laws.FnDocNums', WHERE WHAT IT READS IS OF BULK AT MOST 1048576: true; the input reads as it did. -/
def fnDocNumsUptoRow : OpenClaim := { program := "ytoliebgdlnjahaa", sum := "d11b7e61e01cd045cb185f01bf38e155a656284d90861d783f3de75ac929665b", func := "loop.example/limner/laws.FnDocNums", spec := "fnDocNums", unfollowed := true, recurses := true, apart := false, narrowed := true }
def FnDocNumsUptoSaid : Prop := fnDocNumsUptoRow.holds Try.pinned (OpenSpec.upto fnDocNumsSpec)

/-- 'laws.FnDocNext', WHERE WHAT IT READS IS OF BULK AT MOST 1048576: true; the input reads as it did. -/
def fnDocNextUptoRow : OpenClaim := { program := "ytoliebgdlnjahaa", sum := "d11b7e61e01cd045cb185f01bf38e155a656284d90861d783f3de75ac929665b", func := "loop.example/limner/laws.FnDocNext", spec := "fnDocNext", unfollowed := true, recurses := true, apart := false, narrowed := true }
def FnDocNextUptoSaid : Prop := fnDocNextUptoRow.holds Try.pinned (OpenSpec.upto fnDocNextSpec)

/-- 'laws.FnDocNumsOrder', WHERE WHAT IT READS IS OF BULK AT MOST 1048576: true; the input reads as it did. -/
def fnDocNumsOrderUptoRow : OpenClaim := { program := "ytoliebgdlnjahaa", sum := "d11b7e61e01cd045cb185f01bf38e155a656284d90861d783f3de75ac929665b", func := "loop.example/limner/laws.FnDocNumsOrder", spec := "fnDocNumsOrder", unfollowed := true, recurses := true, apart := false, narrowed := true }
def FnDocNumsOrderUptoSaid : Prop := fnDocNumsOrderUptoRow.holds Try.pinned (OpenSpec.upto fnDocNumsOrderSpec)

end Rows
end Go.Proofs.Ytoliebgdlnjahaa
