/-
  No cell of these rows narrows 'for every input' (looked for: loops, veiled, ifaces, maps, wideKeys, modest, calm, conditions, laid).
  DERIVED. THE GIVEN ROWS OF THIS SEAT. 6 by the template 'for every input the law returns true; each argument reads behind the call as it read before'; 0 by the template 'total and deterministic' (their statements: YthjipnocemioaaaTotals.lean).
  GIVEN WITH THE SEED: the statements are not yours to turn. If you find one false, say at which input.
  Laid BY PROGRAM, IN A SANDBOX (cutbox-rows.mjs): the forced cells as the released guide's own fill.sh prints them over the translation 3e4de660a288fa38… (all of the seat's roots in one cut). By AI agents, Wed Nov 11 2026. No macro, syntax, notation, axiom, sorry.
-/
import Derived.Test.YthjipnocemioaaaChecked
import GoSem.Claim
import GoSem.ClaimJoined
import GoSem.ClaimMapViews
import Derived.JoinedTies
import Derived.KernelRfl
namespace Go.Proofs.Ythjipnocemioaaa
/- THE CELL 'sum', in the pinned program and in every row, IS THE sha256 OF THE DUMP (.gsa) THAT YthjipnocemioaaaProg.lean LOADS. Nothing in Lean hashes anything: it is a label: what it is worth is what the hold of that sum in a sandbox is worth. -/
noncomputable def Try.pinned : Pinned := { name := "ythjipnocemioaaa", sum := "3e4de660a288fa38371f70b3e7bb0f5e26a4cb9fe458d848fbcf4cd87c245069", checked := Try.checked }
namespace Rows
def none {H : Type} : Left H := { results := [], args := [] }

/-- 'laws.FnExactDocOk': WHATEVER THE INPUT: true; the input reads as it did. -/
def fnExactDocOkSpec : ChangeSpec := { name := "fnExactDocOk", fn := fun _ => fun
  | [d] => { results := [.lit (.bool true)], args := [d] }
  | _ => none }
def fnExactDocOkRow : OpenClaim := { program := "ythjipnocemioaaa", sum := "3e4de660a288fa38371f70b3e7bb0f5e26a4cb9fe458d848fbcf4cd87c245069", func := "loop.example/limner/laws.FnExactDocOk", spec := "fnExactDocOk", unfollowed := true, recurses := true, apart := false }
def FnExactDocOkSaid : Prop := fnExactDocOkRow.holds Try.pinned (OpenSpec.ofChange fnExactDocOkSpec)

/-- ITS FALSE NEIGHBOUR: 'it returns false'. Refute it at one input. -/
def fnExactDocOkWrong : ChangeSpec := { name := "fnExactDocOk", fn := fun _ => fun
  | [d] => { results := [.lit (.bool false)], args := [d] }
  | _ => none }
def FnExactDocOkWrongFalsely : Prop := fnExactDocOkRow.holds Try.pinned (OpenSpec.ofChange fnExactDocOkWrong)

/-- 'laws.FnExactDocWrite': WHATEVER THE INPUT: true; the input reads as it did. -/
def fnExactDocWriteSpec : ChangeSpec := { name := "fnExactDocWrite", fn := fun _ => fun
  | [d] => { results := [.lit (.bool true)], args := [d] }
  | _ => none }
def fnExactDocWriteRow : OpenClaim := { program := "ythjipnocemioaaa", sum := "3e4de660a288fa38371f70b3e7bb0f5e26a4cb9fe458d848fbcf4cd87c245069", func := "loop.example/limner/laws.FnExactDocWrite", spec := "fnExactDocWrite", inPlace := ["internal/abi.NoEscape"], unfollowed := true, recurses := true, apart := false }
def FnExactDocWriteSaid : Prop := fnExactDocWriteRow.holds Try.pinned (OpenSpec.ofChange fnExactDocWriteSpec)

/-- ITS FALSE NEIGHBOUR: 'it returns false'. Refute it at one input. -/
def fnExactDocWriteWrong : ChangeSpec := { name := "fnExactDocWrite", fn := fun _ => fun
  | [d] => { results := [.lit (.bool false)], args := [d] }
  | _ => none }
def FnExactDocWriteWrongFalsely : Prop := fnExactDocWriteRow.holds Try.pinned (OpenSpec.ofChange fnExactDocWriteWrong)

/-- 'laws.FnExactDocNums': WHATEVER THE INPUT: true; the input reads as it did. -/
def fnExactDocNumsSpec : ChangeSpec := { name := "fnExactDocNums", fn := fun _ => fun
  | [d] => { results := [.lit (.bool true)], args := [d] }
  | _ => none }
def fnExactDocNumsRow : OpenClaim := { program := "ythjipnocemioaaa", sum := "3e4de660a288fa38371f70b3e7bb0f5e26a4cb9fe458d848fbcf4cd87c245069", func := "loop.example/limner/laws.FnExactDocNums", spec := "fnExactDocNums", unfollowed := true, recurses := true, apart := false }
def FnExactDocNumsSaid : Prop := fnExactDocNumsRow.holds Try.pinned (OpenSpec.ofChange fnExactDocNumsSpec)

/-- ITS FALSE NEIGHBOUR: 'it returns false'. Refute it at one input. -/
def fnExactDocNumsWrong : ChangeSpec := { name := "fnExactDocNums", fn := fun _ => fun
  | [d] => { results := [.lit (.bool false)], args := [d] }
  | _ => none }
def FnExactDocNumsWrongFalsely : Prop := fnExactDocNumsRow.holds Try.pinned (OpenSpec.ofChange fnExactDocNumsWrong)

/-- 'laws.FnExactDocSink': WHATEVER THE INPUT: true; the input reads as it did. -/
def fnExactDocSinkSpec : ChangeSpec := { name := "fnExactDocSink", fn := fun _ => fun
  | [d1, d2] => { results := [.lit (.bool true)], args := [d1, d2] }
  | _ => none }
def fnExactDocSinkRow : OpenClaim := { program := "ythjipnocemioaaa", sum := "3e4de660a288fa38371f70b3e7bb0f5e26a4cb9fe458d848fbcf4cd87c245069", func := "loop.example/limner/laws.FnExactDocSink", spec := "fnExactDocSink", unfollowed := true, recurses := true, apart := false }
def FnExactDocSinkSaid : Prop := fnExactDocSinkRow.holds Try.pinned (OpenSpec.ofChange fnExactDocSinkSpec)

/-- ITS FALSE NEIGHBOUR: 'it returns false'. Refute it at one input. -/
def fnExactDocSinkWrong : ChangeSpec := { name := "fnExactDocSink", fn := fun _ => fun
  | [d1, d2] => { results := [.lit (.bool false)], args := [d1, d2] }
  | _ => none }
def FnExactDocSinkWrongFalsely : Prop := fnExactDocSinkRow.holds Try.pinned (OpenSpec.ofChange fnExactDocSinkWrong)

/-- 'laws.FnExactDocLift': WHATEVER THE INPUT: true; the input reads as it did. -/
def fnExactDocLiftSpec : ChangeSpec := { name := "fnExactDocLift", fn := fun _ => fun
  | [d1, d2] => { results := [.lit (.bool true)], args := [d1, d2] }
  | _ => none }
def fnExactDocLiftRow : OpenClaim := { program := "ythjipnocemioaaa", sum := "3e4de660a288fa38371f70b3e7bb0f5e26a4cb9fe458d848fbcf4cd87c245069", func := "loop.example/limner/laws.FnExactDocLift", spec := "fnExactDocLift", unfollowed := true, recurses := true, apart := false }
def FnExactDocLiftSaid : Prop := fnExactDocLiftRow.holds Try.pinned (OpenSpec.ofChange fnExactDocLiftSpec)

/-- ITS FALSE NEIGHBOUR: 'it returns false'. Refute it at one input. -/
def fnExactDocLiftWrong : ChangeSpec := { name := "fnExactDocLift", fn := fun _ => fun
  | [d1, d2] => { results := [.lit (.bool false)], args := [d1, d2] }
  | _ => none }
def FnExactDocLiftWrongFalsely : Prop := fnExactDocLiftRow.holds Try.pinned (OpenSpec.ofChange fnExactDocLiftWrong)

/-- 'laws.FnExactDocItem': WHATEVER THE INPUT: true; the input reads as it did. -/
def fnExactDocItemSpec : ChangeSpec := { name := "fnExactDocItem", fn := fun _ => fun
  | [d1, d2] => { results := [.lit (.bool true)], args := [d1, d2] }
  | _ => none }
def fnExactDocItemRow : OpenClaim := { program := "ythjipnocemioaaa", sum := "3e4de660a288fa38371f70b3e7bb0f5e26a4cb9fe458d848fbcf4cd87c245069", func := "loop.example/limner/laws.FnExactDocItem", spec := "fnExactDocItem", unfollowed := true, recurses := true, apart := false }
def FnExactDocItemSaid : Prop := fnExactDocItemRow.holds Try.pinned (OpenSpec.ofChange fnExactDocItemSpec)

/-- ITS FALSE NEIGHBOUR: 'it returns false'. Refute it at one input. -/
def fnExactDocItemWrong : ChangeSpec := { name := "fnExactDocItem", fn := fun _ => fun
  | [d1, d2] => { results := [.lit (.bool false)], args := [d1, d2] }
  | _ => none }
def FnExactDocItemWrongFalsely : Prop := fnExactDocItemRow.holds Try.pinned (OpenSpec.ofChange fnExactDocItemWrong)

/- THE SECOND FORM. 'bulk': how many values and letters a reading holds, each counted each time it is reached (what is shared counts as often as it is met; a slice's spare places count too). A statement '..UptoSaid' is the law's where the arguments, and the package variables that the reading takes, are together of bulk at most 1048576: NARROWER than '..Said'. Prove '..Said' where nothing that the law and all that it calls make is longer than what came in: it says more and counts as full. Else prove '..UptoSaid'. A law counts once. -/
mutual
def uptoBulk {H : Type} : DataW H → Nat
  | .lit (.string bytes) => bytes.length + 1
  | .lit _ => 1
  | .nil => 1
  | .ptr d => uptoBulk d + 1
  | .slice elems spare => uptoBulkAll elems + uptoBulkAll spare + 1
  | .agg parts => uptoBulkAll parts + 1
  | .iface _ d => uptoBulk d + 1
  | .map entries => uptoBulkEntries entries + 1
  | .held _ => 1
def uptoBulkAll {H : Type} : List (DataW H) → Nat
  | [] => 0
  | d :: r => uptoBulk d + uptoBulkAll r
def uptoBulkEntries {H : Type} : List (Lit × DataW H) → Nat
  | [] => 0
  | x :: r => uptoBulkEntry x + uptoBulkEntries r
def uptoBulkEntry {H : Type} : Lit × DataW H → Nat
  | (.string bytes, d) => bytes.length + uptoBulk d + 1
  | (_, d) => uptoBulk d + 1
 end
def uptoSmall : (H : Type) → List (DataW H) → Bool := fun _ ds => decide (uptoBulkAll ds ≤ 1048576)
def OpenSpec.upto (s : _root_.Go.ChangeSpec) : _root_.Go.OpenSpec := { _root_.Go.OpenSpec.ofChange s with cond := some uptoSmall }

/-- 'laws.FnExactDocOk', WHERE WHAT IT READS IS OF BULK AT MOST 1048576: true; the input reads as it did. -/
def fnExactDocOkUptoRow : OpenClaim := { program := "ythjipnocemioaaa", sum := "3e4de660a288fa38371f70b3e7bb0f5e26a4cb9fe458d848fbcf4cd87c245069", func := "loop.example/limner/laws.FnExactDocOk", spec := "fnExactDocOk", unfollowed := true, recurses := true, apart := false, narrowed := true }
def FnExactDocOkUptoSaid : Prop := fnExactDocOkUptoRow.holds Try.pinned (OpenSpec.upto fnExactDocOkSpec)

/-- 'laws.FnExactDocWrite', WHERE WHAT IT READS IS OF BULK AT MOST 1048576: true; the input reads as it did. -/
def fnExactDocWriteUptoRow : OpenClaim := { program := "ythjipnocemioaaa", sum := "3e4de660a288fa38371f70b3e7bb0f5e26a4cb9fe458d848fbcf4cd87c245069", func := "loop.example/limner/laws.FnExactDocWrite", spec := "fnExactDocWrite", inPlace := ["internal/abi.NoEscape"], unfollowed := true, recurses := true, apart := false, narrowed := true }
def FnExactDocWriteUptoSaid : Prop := fnExactDocWriteUptoRow.holds Try.pinned (OpenSpec.upto fnExactDocWriteSpec)

/-- 'laws.FnExactDocNums', WHERE WHAT IT READS IS OF BULK AT MOST 1048576: true; the input reads as it did. -/
def fnExactDocNumsUptoRow : OpenClaim := { program := "ythjipnocemioaaa", sum := "3e4de660a288fa38371f70b3e7bb0f5e26a4cb9fe458d848fbcf4cd87c245069", func := "loop.example/limner/laws.FnExactDocNums", spec := "fnExactDocNums", unfollowed := true, recurses := true, apart := false, narrowed := true }
def FnExactDocNumsUptoSaid : Prop := fnExactDocNumsUptoRow.holds Try.pinned (OpenSpec.upto fnExactDocNumsSpec)

/-- 'laws.FnExactDocSink', WHERE WHAT IT READS IS OF BULK AT MOST 1048576: true; the input reads as it did. -/
def fnExactDocSinkUptoRow : OpenClaim := { program := "ythjipnocemioaaa", sum := "3e4de660a288fa38371f70b3e7bb0f5e26a4cb9fe458d848fbcf4cd87c245069", func := "loop.example/limner/laws.FnExactDocSink", spec := "fnExactDocSink", unfollowed := true, recurses := true, apart := false, narrowed := true }
def FnExactDocSinkUptoSaid : Prop := fnExactDocSinkUptoRow.holds Try.pinned (OpenSpec.upto fnExactDocSinkSpec)

/-- 'laws.FnExactDocLift', WHERE WHAT IT READS IS OF BULK AT MOST 1048576: true; the input reads as it did. -/
def fnExactDocLiftUptoRow : OpenClaim := { program := "ythjipnocemioaaa", sum := "3e4de660a288fa38371f70b3e7bb0f5e26a4cb9fe458d848fbcf4cd87c245069", func := "loop.example/limner/laws.FnExactDocLift", spec := "fnExactDocLift", unfollowed := true, recurses := true, apart := false, narrowed := true }
def FnExactDocLiftUptoSaid : Prop := fnExactDocLiftUptoRow.holds Try.pinned (OpenSpec.upto fnExactDocLiftSpec)

/-- 'laws.FnExactDocItem', WHERE WHAT IT READS IS OF BULK AT MOST 1048576: true; the input reads as it did. -/
def fnExactDocItemUptoRow : OpenClaim := { program := "ythjipnocemioaaa", sum := "3e4de660a288fa38371f70b3e7bb0f5e26a4cb9fe458d848fbcf4cd87c245069", func := "loop.example/limner/laws.FnExactDocItem", spec := "fnExactDocItem", unfollowed := true, recurses := true, apart := false, narrowed := true }
def FnExactDocItemUptoSaid : Prop := fnExactDocItemUptoRow.holds Try.pinned (OpenSpec.upto fnExactDocItemSpec)

end Rows
end Go.Proofs.Ythjipnocemioaaa
