/-
  No cell of these rows narrows 'for every input' (looked for: loops, veiled, ifaces, maps, wideKeys, modest, calm, conditions, laid).
  DERIVED. THE GIVEN ROWS OF THIS SEAT. 7 by the template 'for every input the law returns true; each argument reads behind the call as it read before'; 0 by the template 'total and deterministic' (their statements: YtdcebaneobkcoaaTotals.lean).
  GIVEN WITH THE SEED: the statements are not yours to turn. If you find one false, say at which input.
  Laid BY PROGRAM, IN A SANDBOX (cutbox-rows.mjs): the forced cells as the released guide's own fill.sh prints them over the translation b2094b84af8ad2b4… (all of the seat's roots in one cut). By AI agents, Wed Nov 11 2026. No macro, syntax, notation, axiom, sorry.
-/
import Derived.Test.YtdcebaneobkcoaaChecked
import GoSem.Claim
import GoSem.ClaimJoined
import GoSem.ClaimMapViews
import Derived.JoinedTies
import Derived.KernelRfl
namespace Go.Proofs.Ytdcebaneobkcoaa
/- THE CELL 'sum', in the pinned program and in every row, IS THE sha256 OF THE DUMP (.gsa) THAT YtdcebaneobkcoaaProg.lean LOADS. Nothing in Lean hashes anything: it is a label: what it is worth is what the hold of that sum in a sandbox is worth. -/
noncomputable def Try.pinned : Pinned := { name := "ytdcebaneobkcoaa", sum := "b2094b84af8ad2b405a08c036afe799b23a0bb640c426b0f515d663076e340e3", checked := Try.checked }
namespace Rows
def none {H : Type} : Left H := { results := [], args := [] }

/-- 'laws.FnDocOne': WHATEVER THE INPUT: true; the input reads as it did. -/
def fnDocOneSpec : ChangeSpec := { name := "fnDocOne", fn := fun _ => fun
  | [d1, d2] => { results := [.lit (.bool true)], args := [d1, d2] }
  | _ => none }
def fnDocOneRow : OpenClaim := { program := "ytdcebaneobkcoaa", sum := "b2094b84af8ad2b405a08c036afe799b23a0bb640c426b0f515d663076e340e3", func := "loop.example/limner/laws.FnDocOne", spec := "fnDocOne", inPlace := ["internal/abi.NoEscape"], unfollowed := true, recurses := true, apart := false }
def FnDocOneSaid : Prop := fnDocOneRow.holds Try.pinned (OpenSpec.ofChange fnDocOneSpec)

/-- ITS FALSE NEIGHBOUR: 'it returns false'. Refute it at one input. -/
def fnDocOneWrong : ChangeSpec := { name := "fnDocOne", fn := fun _ => fun
  | [d1, d2] => { results := [.lit (.bool false)], args := [d1, d2] }
  | _ => none }
def FnDocOneWrongFalsely : Prop := fnDocOneRow.holds Try.pinned (OpenSpec.ofChange fnDocOneWrong)

/-- 'laws.FnDocTwo': WHATEVER THE INPUT: true; the input reads as it did. -/
def fnDocTwoSpec : ChangeSpec := { name := "fnDocTwo", fn := fun _ => fun
  | [d1, d2] => { results := [.lit (.bool true)], args := [d1, d2] }
  | _ => none }
def fnDocTwoRow : OpenClaim := { program := "ytdcebaneobkcoaa", sum := "b2094b84af8ad2b405a08c036afe799b23a0bb640c426b0f515d663076e340e3", func := "loop.example/limner/laws.FnDocTwo", spec := "fnDocTwo", inPlace := ["internal/abi.NoEscape"], unfollowed := true, recurses := true, apart := false }
def FnDocTwoSaid : Prop := fnDocTwoRow.holds Try.pinned (OpenSpec.ofChange fnDocTwoSpec)

/-- ITS FALSE NEIGHBOUR: 'it returns false'. Refute it at one input. -/
def fnDocTwoWrong : ChangeSpec := { name := "fnDocTwo", fn := fun _ => fun
  | [d1, d2] => { results := [.lit (.bool false)], args := [d1, d2] }
  | _ => none }
def FnDocTwoWrongFalsely : Prop := fnDocTwoRow.holds Try.pinned (OpenSpec.ofChange fnDocTwoWrong)

/-- 'laws.FnDocItem': WHATEVER THE INPUT: true; the input reads as it did. -/
def fnDocItemSpec : ChangeSpec := { name := "fnDocItem", fn := fun _ => fun
  | [d] => { results := [.lit (.bool true)], args := [d] }
  | _ => none }
def fnDocItemRow : OpenClaim := { program := "ytdcebaneobkcoaa", sum := "b2094b84af8ad2b405a08c036afe799b23a0bb640c426b0f515d663076e340e3", func := "loop.example/limner/laws.FnDocItem", spec := "fnDocItem", unfollowed := true, recurses := true, apart := false }
def FnDocItemSaid : Prop := fnDocItemRow.holds Try.pinned (OpenSpec.ofChange fnDocItemSpec)

/-- ITS FALSE NEIGHBOUR: 'it returns false'. Refute it at one input. -/
def fnDocItemWrong : ChangeSpec := { name := "fnDocItem", fn := fun _ => fun
  | [d] => { results := [.lit (.bool false)], args := [d] }
  | _ => none }
def FnDocItemWrongFalsely : Prop := fnDocItemRow.holds Try.pinned (OpenSpec.ofChange fnDocItemWrong)

/-- 'laws.FnDocBreak': WHATEVER THE INPUT: true; the input reads as it did. -/
def fnDocBreakSpec : ChangeSpec := { name := "fnDocBreak", fn := fun _ => fun
  | [d1, d2] => { results := [.lit (.bool true)], args := [d1, d2] }
  | _ => none }
def fnDocBreakRow : OpenClaim := { program := "ytdcebaneobkcoaa", sum := "b2094b84af8ad2b405a08c036afe799b23a0bb640c426b0f515d663076e340e3", func := "loop.example/limner/laws.FnDocBreak", spec := "fnDocBreak", unfollowed := true, recurses := true, apart := false }
def FnDocBreakSaid : Prop := fnDocBreakRow.holds Try.pinned (OpenSpec.ofChange fnDocBreakSpec)

/-- ITS FALSE NEIGHBOUR: 'it returns false'. Refute it at one input. -/
def fnDocBreakWrong : ChangeSpec := { name := "fnDocBreak", fn := fun _ => fun
  | [d1, d2] => { results := [.lit (.bool false)], args := [d1, d2] }
  | _ => none }
def FnDocBreakWrongFalsely : Prop := fnDocBreakRow.holds Try.pinned (OpenSpec.ofChange fnDocBreakWrong)

/-- 'laws.FnDocSame': WHATEVER THE INPUT: true; the input reads as it did. -/
def fnDocSameSpec : ChangeSpec := { name := "fnDocSame", fn := fun _ => fun
  | [d1, d2] => { results := [.lit (.bool true)], args := [d1, d2] }
  | _ => none }
def fnDocSameRow : OpenClaim := { program := "ytdcebaneobkcoaa", sum := "b2094b84af8ad2b405a08c036afe799b23a0bb640c426b0f515d663076e340e3", func := "loop.example/limner/laws.FnDocSame", spec := "fnDocSame", unfollowed := true, recurses := true, apart := false }
def FnDocSameSaid : Prop := fnDocSameRow.holds Try.pinned (OpenSpec.ofChange fnDocSameSpec)

/-- ITS FALSE NEIGHBOUR: 'it returns false'. Refute it at one input. -/
def fnDocSameWrong : ChangeSpec := { name := "fnDocSame", fn := fun _ => fun
  | [d1, d2] => { results := [.lit (.bool false)], args := [d1, d2] }
  | _ => none }
def FnDocSameWrongFalsely : Prop := fnDocSameRow.holds Try.pinned (OpenSpec.ofChange fnDocSameWrong)

/-- 'laws.FnDocSinkFirst': WHATEVER THE INPUT: true; the input reads as it did. -/
def fnDocSinkFirstSpec : ChangeSpec := { name := "fnDocSinkFirst", fn := fun _ => fun
  | [d] => { results := [.lit (.bool true)], args := [d] }
  | _ => none }
def fnDocSinkFirstRow : OpenClaim := { program := "ytdcebaneobkcoaa", sum := "b2094b84af8ad2b405a08c036afe799b23a0bb640c426b0f515d663076e340e3", func := "loop.example/limner/laws.FnDocSinkFirst", spec := "fnDocSinkFirst", unfollowed := true, recurses := true, apart := false }
def FnDocSinkFirstSaid : Prop := fnDocSinkFirstRow.holds Try.pinned (OpenSpec.ofChange fnDocSinkFirstSpec)

/-- ITS FALSE NEIGHBOUR: 'it returns false'. Refute it at one input. -/
def fnDocSinkFirstWrong : ChangeSpec := { name := "fnDocSinkFirst", fn := fun _ => fun
  | [d] => { results := [.lit (.bool false)], args := [d] }
  | _ => none }
def FnDocSinkFirstWrongFalsely : Prop := fnDocSinkFirstRow.holds Try.pinned (OpenSpec.ofChange fnDocSinkFirstWrong)

/-- 'laws.FnExactDocWrite': WHATEVER THE INPUT: true; the input reads as it did. -/
def fnExactDocWriteSpec : ChangeSpec := { name := "fnExactDocWrite", fn := fun _ => fun
  | [d] => { results := [.lit (.bool true)], args := [d] }
  | _ => none }
def fnExactDocWriteRow : OpenClaim := { program := "ytdcebaneobkcoaa", sum := "b2094b84af8ad2b405a08c036afe799b23a0bb640c426b0f515d663076e340e3", func := "loop.example/limner/laws.FnExactDocWrite", spec := "fnExactDocWrite", inPlace := ["internal/abi.NoEscape"], unfollowed := true, recurses := true, apart := false }
def FnExactDocWriteSaid : Prop := fnExactDocWriteRow.holds Try.pinned (OpenSpec.ofChange fnExactDocWriteSpec)

/-- ITS FALSE NEIGHBOUR: 'it returns false'. Refute it at one input. -/
def fnExactDocWriteWrong : ChangeSpec := { name := "fnExactDocWrite", fn := fun _ => fun
  | [d] => { results := [.lit (.bool false)], args := [d] }
  | _ => none }
def FnExactDocWriteWrongFalsely : Prop := fnExactDocWriteRow.holds Try.pinned (OpenSpec.ofChange fnExactDocWriteWrong)

/- THE SECOND FORM. 'bulk': how many values and letters a reading holds, each counted each time it is reached (what is shared counts as often as it is met; a slice's spare places count too). A statement '..UptoSaid' is the law's where the arguments, and the package variables that the reading takes, are together of bulk at most 1048576: NARROWER than '..Said'. Prove '..Said' where nothing that the law and all that it calls make is longer than what came in: it says more and counts as full. Else prove '..UptoSaid'. A law counts once. -/
mutual
def uptoBulk {H : Type} : DataW H → Nat
  | .lit (.string bytes) => bytes.length + 1
  | .lit _ => 1
  | .nil => 1
  | .ptr d => uptoBulk d + 1
  | .slice elems spare => uptoBulkAll elems + uptoBulkAll spare + 1
  | .agg parts => uptoBulkAll parts + 1
  | .iface _ d => uptoBulk d + 1
  | .map entries => uptoBulkEntries entries + 1
  | .held _ => 1
def uptoBulkAll {H : Type} : List (DataW H) → Nat
  | [] => 0
  | d :: r => uptoBulk d + uptoBulkAll r
def uptoBulkEntries {H : Type} : List (Lit × DataW H) → Nat
  | [] => 0
  | x :: r => uptoBulkEntry x + uptoBulkEntries r
def uptoBulkEntry {H : Type} : Lit × DataW H → Nat
  | (.string bytes, d) => bytes.length + uptoBulk d + 1
  | (_, d) => uptoBulk d + 1
 end
def uptoSmall : (H : Type) → List (DataW H) → Bool := fun _ ds => decide (uptoBulkAll ds ≤ 1048576)
def OpenSpec.upto (s : _root_.Go.ChangeSpec) : _root_.Go.OpenSpec := { _root_.Go.OpenSpec.ofChange s with cond := some uptoSmall }

/-- 'laws.FnDocOne', WHERE WHAT IT READS IS OF BULK AT MOST 1048576: true; the input reads as it did. -/
def fnDocOneUptoRow : OpenClaim := { program := "ytdcebaneobkcoaa", sum := "b2094b84af8ad2b405a08c036afe799b23a0bb640c426b0f515d663076e340e3", func := "loop.example/limner/laws.FnDocOne", spec := "fnDocOne", inPlace := ["internal/abi.NoEscape"], unfollowed := true, recurses := true, apart := false, narrowed := true }
def FnDocOneUptoSaid : Prop := fnDocOneUptoRow.holds Try.pinned (OpenSpec.upto fnDocOneSpec)

/-- 'laws.FnDocTwo', WHERE WHAT IT READS IS OF BULK AT MOST 1048576: true; the input reads as it did. -/
def fnDocTwoUptoRow : OpenClaim := { program := "ytdcebaneobkcoaa", sum := "b2094b84af8ad2b405a08c036afe799b23a0bb640c426b0f515d663076e340e3", func := "loop.example/limner/laws.FnDocTwo", spec := "fnDocTwo", inPlace := ["internal/abi.NoEscape"], unfollowed := true, recurses := true, apart := false, narrowed := true }
def FnDocTwoUptoSaid : Prop := fnDocTwoUptoRow.holds Try.pinned (OpenSpec.upto fnDocTwoSpec)

/-- 'laws.FnDocItem', WHERE WHAT IT READS IS OF BULK AT MOST 1048576: true; the input reads as it did. -/
def fnDocItemUptoRow : OpenClaim := { program := "ytdcebaneobkcoaa", sum := "b2094b84af8ad2b405a08c036afe799b23a0bb640c426b0f515d663076e340e3", func := "loop.example/limner/laws.FnDocItem", spec := "fnDocItem", unfollowed := true, recurses := true, apart := false, narrowed := true }
def FnDocItemUptoSaid : Prop := fnDocItemUptoRow.holds Try.pinned (OpenSpec.upto fnDocItemSpec)

/-- 'laws.FnDocBreak', WHERE WHAT IT READS IS OF BULK AT MOST 1048576: true; the input reads as it did. -/
def fnDocBreakUptoRow : OpenClaim := { program := "ytdcebaneobkcoaa", sum := "b2094b84af8ad2b405a08c036afe799b23a0bb640c426b0f515d663076e340e3", func := "loop.example/limner/laws.FnDocBreak", spec := "fnDocBreak", unfollowed := true, recurses := true, apart := false, narrowed := true }
def FnDocBreakUptoSaid : Prop := fnDocBreakUptoRow.holds Try.pinned (OpenSpec.upto fnDocBreakSpec)

/-- 'laws.FnDocSame', WHERE WHAT IT READS IS OF BULK AT MOST 1048576: true; the input reads as it did. -/
def fnDocSameUptoRow : OpenClaim := { program := "ytdcebaneobkcoaa", sum := "b2094b84af8ad2b405a08c036afe799b23a0bb640c426b0f515d663076e340e3", func := "loop.example/limner/laws.FnDocSame", spec := "fnDocSame", unfollowed := true, recurses := true, apart := false, narrowed := true }
def FnDocSameUptoSaid : Prop := fnDocSameUptoRow.holds Try.pinned (OpenSpec.upto fnDocSameSpec)

/-- 'laws.FnDocSinkFirst', WHERE WHAT IT READS IS OF BULK AT MOST 1048576: true; the input reads as it did. -/
def fnDocSinkFirstUptoRow : OpenClaim := { program := "ytdcebaneobkcoaa", sum := "b2094b84af8ad2b405a08c036afe799b23a0bb640c426b0f515d663076e340e3", func := "loop.example/limner/laws.FnDocSinkFirst", spec := "fnDocSinkFirst", unfollowed := true, recurses := true, apart := false, narrowed := true }
def FnDocSinkFirstUptoSaid : Prop := fnDocSinkFirstUptoRow.holds Try.pinned (OpenSpec.upto fnDocSinkFirstSpec)

/-- 'laws.FnExactDocWrite', WHERE WHAT IT READS IS OF BULK AT MOST 1048576: true; the input reads as it did. -/
def fnExactDocWriteUptoRow : OpenClaim := { program := "ytdcebaneobkcoaa", sum := "b2094b84af8ad2b405a08c036afe799b23a0bb640c426b0f515d663076e340e3", func := "loop.example/limner/laws.FnExactDocWrite", spec := "fnExactDocWrite", inPlace := ["internal/abi.NoEscape"], unfollowed := true, recurses := true, apart := false, narrowed := true }
def FnExactDocWriteUptoSaid : Prop := fnExactDocWriteUptoRow.holds Try.pinned (OpenSpec.upto fnExactDocWriteSpec)

end Rows
end Go.Proofs.Ytdcebaneobkcoaa
