/-
  No cell of these rows narrows 'for every input' (looked for: loops, veiled, ifaces, maps, wideKeys, modest, calm, conditions, laid).
  DERIVED. THE GIVEN ROWS OF THIS SEAT. 4 by the template 'for every input the law returns true; each argument reads behind the call as it read before'; 0 by the template 'total and deterministic' (their statements: YtcecmkideoodiaaTotals.lean).
  GIVEN WITH THE SEED: the statements are not yours to turn. If you find one false, say at which input.
  Laid BY PROGRAM, IN A SANDBOX (cutbox-rows.mjs): the forced cells as the released guide's own fill.sh prints them over the translation 8ed3b4c9e4ff4f51… (all of the seat's roots in one cut). By AI agents, Wed Nov 11 2026. No macro, syntax, notation, axiom, sorry.
-/
import Derived.Test.YtcecmkideoodiaaChecked
import GoSem.Claim
import GoSem.ClaimJoined
import GoSem.ClaimMapViews
import Derived.JoinedTies
import Derived.KernelRfl
namespace Go.Proofs.Ytcecmkideoodiaa
/- THE CELL 'sum', in the pinned program and in every row, IS THE sha256 OF THE DUMP (.gsa) THAT YtcecmkideoodiaaProg.lean LOADS. Nothing in Lean hashes anything: it is a label: what it is worth is what the hold of that sum in a sandbox is worth. -/
noncomputable def Try.pinned : Pinned := { name := "ytcecmkideoodiaa", sum := "8ed3b4c9e4ff4f514e7cd6573ce0f1446c50c8f187b4ed15f0d45dd34aafc2a6", checked := Try.checked }
namespace Rows
def none {H : Type} : Left H := { results := [], args := [] }

/-- 'laws.FnPlaceOk': WHATEVER THE INPUT: true; the input reads as it did. -/
def fnPlaceOkSpec : ChangeSpec := { name := "fnPlaceOk", fn := fun _ => fun
  | [d] => { results := [.lit (.bool true)], args := [d] }
  | _ => none }
def fnPlaceOkRow : OpenClaim := { program := "ytcecmkideoodiaa", sum := "8ed3b4c9e4ff4f514e7cd6573ce0f1446c50c8f187b4ed15f0d45dd34aafc2a6", func := "loop.example/limner/laws.FnPlaceOk", spec := "fnPlaceOk", inPlace := ["internal/reflectlite.TypeOf"], unfollowed := true, recurses := true, apart := false }
def FnPlaceOkSaid : Prop := fnPlaceOkRow.holds Try.pinned (OpenSpec.ofChange fnPlaceOkSpec)

/-- ITS FALSE NEIGHBOUR: 'it returns false'. Refute it at one input. -/
def fnPlaceOkWrong : ChangeSpec := { name := "fnPlaceOk", fn := fun _ => fun
  | [d] => { results := [.lit (.bool false)], args := [d] }
  | _ => none }
def FnPlaceOkWrongFalsely : Prop := fnPlaceOkRow.holds Try.pinned (OpenSpec.ofChange fnPlaceOkWrong)

/-- 'laws.FnPlaceText': WHATEVER THE INPUT: true; the input reads as it did. -/
def fnPlaceTextSpec : ChangeSpec := { name := "fnPlaceText", fn := fun _ => fun
  | [d] => { results := [.lit (.bool true)], args := [d] }
  | _ => none }
def fnPlaceTextRow : OpenClaim := { program := "ytcecmkideoodiaa", sum := "8ed3b4c9e4ff4f514e7cd6573ce0f1446c50c8f187b4ed15f0d45dd34aafc2a6", func := "loop.example/limner/laws.FnPlaceText", spec := "fnPlaceText", unfollowed := true, recurses := true, apart := false }
def FnPlaceTextSaid : Prop := fnPlaceTextRow.holds Try.pinned (OpenSpec.ofChange fnPlaceTextSpec)

/-- ITS FALSE NEIGHBOUR: 'it returns false'. Refute it at one input. -/
def fnPlaceTextWrong : ChangeSpec := { name := "fnPlaceText", fn := fun _ => fun
  | [d] => { results := [.lit (.bool false)], args := [d] }
  | _ => none }
def FnPlaceTextWrongFalsely : Prop := fnPlaceTextRow.holds Try.pinned (OpenSpec.ofChange fnPlaceTextWrong)

/-- 'laws.FnExactPlaceOk': WHATEVER THE INPUT: true; the input reads as it did. -/
def fnExactPlaceOkSpec : ChangeSpec := { name := "fnExactPlaceOk", fn := fun _ => fun
  | [d1, d2] => { results := [.lit (.bool true)], args := [d1, d2] }
  | _ => none }
def fnExactPlaceOkRow : OpenClaim := { program := "ytcecmkideoodiaa", sum := "8ed3b4c9e4ff4f514e7cd6573ce0f1446c50c8f187b4ed15f0d45dd34aafc2a6", func := "loop.example/limner/laws.FnExactPlaceOk", spec := "fnExactPlaceOk", inPlace := ["internal/reflectlite.TypeOf"], unfollowed := true, recurses := true, apart := false }
def FnExactPlaceOkSaid : Prop := fnExactPlaceOkRow.holds Try.pinned (OpenSpec.ofChange fnExactPlaceOkSpec)

/-- ITS FALSE NEIGHBOUR: 'it returns false'. Refute it at one input. -/
def fnExactPlaceOkWrong : ChangeSpec := { name := "fnExactPlaceOk", fn := fun _ => fun
  | [d1, d2] => { results := [.lit (.bool false)], args := [d1, d2] }
  | _ => none }
def FnExactPlaceOkWrongFalsely : Prop := fnExactPlaceOkRow.holds Try.pinned (OpenSpec.ofChange fnExactPlaceOkWrong)

/-- 'laws.FnExactPlaceText': WHATEVER THE INPUT: true; the input reads as it did. -/
def fnExactPlaceTextSpec : ChangeSpec := { name := "fnExactPlaceText", fn := fun _ => fun
  | [d1, d2] => { results := [.lit (.bool true)], args := [d1, d2] }
  | _ => none }
def fnExactPlaceTextRow : OpenClaim := { program := "ytcecmkideoodiaa", sum := "8ed3b4c9e4ff4f514e7cd6573ce0f1446c50c8f187b4ed15f0d45dd34aafc2a6", func := "loop.example/limner/laws.FnExactPlaceText", spec := "fnExactPlaceText", unfollowed := true, recurses := true, apart := false }
def FnExactPlaceTextSaid : Prop := fnExactPlaceTextRow.holds Try.pinned (OpenSpec.ofChange fnExactPlaceTextSpec)

/-- ITS FALSE NEIGHBOUR: 'it returns false'. Refute it at one input. -/
def fnExactPlaceTextWrong : ChangeSpec := { name := "fnExactPlaceText", fn := fun _ => fun
  | [d1, d2] => { results := [.lit (.bool false)], args := [d1, d2] }
  | _ => none }
def FnExactPlaceTextWrongFalsely : Prop := fnExactPlaceTextRow.holds Try.pinned (OpenSpec.ofChange fnExactPlaceTextWrong)

/- THE SECOND FORM. 'bulk': how many values and letters a reading holds, each counted each time it is reached (what is shared counts as often as it is met; a slice's spare places count too). A statement '..UptoSaid' is the law's where the arguments, and the package variables that the reading takes, are together of bulk at most 1048576: NARROWER than '..Said'. Prove '..Said' where nothing that the law and all that it calls make is longer than what came in: it says more and counts as full. Else prove '..UptoSaid'. A law counts once. -/
mutual
def uptoBulk {H : Type} : DataW H → Nat
  | .lit (.string bytes) => bytes.length + 1
  | .lit _ => 1
  | .nil => 1
  | .ptr d => uptoBulk d + 1
  | .slice elems spare => uptoBulkAll elems + uptoBulkAll spare + 1
  | .agg parts => uptoBulkAll parts + 1
  | .iface _ d => uptoBulk d + 1
  | .map entries => uptoBulkEntries entries + 1
  | .held _ => 1
def uptoBulkAll {H : Type} : List (DataW H) → Nat
  | [] => 0
  | d :: r => uptoBulk d + uptoBulkAll r
def uptoBulkEntries {H : Type} : List (Lit × DataW H) → Nat
  | [] => 0
  | x :: r => uptoBulkEntry x + uptoBulkEntries r
def uptoBulkEntry {H : Type} : Lit × DataW H → Nat
  | (.string bytes, d) => bytes.length + uptoBulk d + 1
  | (_, d) => uptoBulk d + 1
 end
def uptoSmall : (H : Type) → List (DataW H) → Bool := fun _ ds => decide (uptoBulkAll ds ≤ 1048576)
def OpenSpec.upto (s : _root_.Go.ChangeSpec) : _root_.Go.OpenSpec := { _root_.Go.OpenSpec.ofChange s with cond := some uptoSmall }

/-- 'laws.FnPlaceOk', WHERE WHAT IT READS IS OF BULK AT MOST 1048576: true; the input reads as it did. -/
def fnPlaceOkUptoRow : OpenClaim := { program := "ytcecmkideoodiaa", sum := "8ed3b4c9e4ff4f514e7cd6573ce0f1446c50c8f187b4ed15f0d45dd34aafc2a6", func := "loop.example/limner/laws.FnPlaceOk", spec := "fnPlaceOk", inPlace := ["internal/reflectlite.TypeOf"], unfollowed := true, recurses := true, apart := false, narrowed := true }
def FnPlaceOkUptoSaid : Prop := fnPlaceOkUptoRow.holds Try.pinned (OpenSpec.upto fnPlaceOkSpec)

/-- 'laws.FnPlaceText', WHERE WHAT IT READS IS OF BULK AT MOST 1048576: true; the input reads as it did. -/
def fnPlaceTextUptoRow : OpenClaim := { program := "ytcecmkideoodiaa", sum := "8ed3b4c9e4ff4f514e7cd6573ce0f1446c50c8f187b4ed15f0d45dd34aafc2a6", func := "loop.example/limner/laws.FnPlaceText", spec := "fnPlaceText", unfollowed := true, recurses := true, apart := false, narrowed := true }
def FnPlaceTextUptoSaid : Prop := fnPlaceTextUptoRow.holds Try.pinned (OpenSpec.upto fnPlaceTextSpec)

/-- 'laws.FnExactPlaceOk', WHERE WHAT IT READS IS OF BULK AT MOST 1048576: true; the input reads as it did. -/
def fnExactPlaceOkUptoRow : OpenClaim := { program := "ytcecmkideoodiaa", sum := "8ed3b4c9e4ff4f514e7cd6573ce0f1446c50c8f187b4ed15f0d45dd34aafc2a6", func := "loop.example/limner/laws.FnExactPlaceOk", spec := "fnExactPlaceOk", inPlace := ["internal/reflectlite.TypeOf"], unfollowed := true, recurses := true, apart := false, narrowed := true }
def FnExactPlaceOkUptoSaid : Prop := fnExactPlaceOkUptoRow.holds Try.pinned (OpenSpec.upto fnExactPlaceOkSpec)

/-- 'laws.FnExactPlaceText', WHERE WHAT IT READS IS OF BULK AT MOST 1048576: true; the input reads as it did. -/
def fnExactPlaceTextUptoRow : OpenClaim := { program := "ytcecmkideoodiaa", sum := "8ed3b4c9e4ff4f514e7cd6573ce0f1446c50c8f187b4ed15f0d45dd34aafc2a6", func := "loop.example/limner/laws.FnExactPlaceText", spec := "fnExactPlaceText", unfollowed := true, recurses := true, apart := false, narrowed := true }
def FnExactPlaceTextUptoSaid : Prop := fnExactPlaceTextUptoRow.holds Try.pinned (OpenSpec.upto fnExactPlaceTextSpec)

end Rows
end Go.Proofs.Ytcecmkideoodiaa
