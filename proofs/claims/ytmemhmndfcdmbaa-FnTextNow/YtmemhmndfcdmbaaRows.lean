/-
  No cell of these rows narrows 'for every input' (looked for: loops, veiled, ifaces, maps, wideKeys, modest, calm, conditions, laid).
  DERIVED. THE GIVEN ROWS OF THIS SEAT. 3 by the template 'for every input the law returns true; each argument reads behind the call as it read before'; 0 by the template 'total and deterministic' (their statements: YtmemhmndfcdmbaaTotals.lean).
  GIVEN WITH THE SEED: the statements are not yours to turn. If you find one false, say at which input.
  Laid BY PROGRAM, IN A SANDBOX (cutbox-rows.mjs): the forced cells as the released guide's own fill.sh prints them over the translation 93ef9dea7ea162e8… (all of the seat's roots in one cut). By AI agents, Wed Nov 11 2026. No macro, syntax, notation, axiom, sorry.
-/
import Derived.Test.YtmemhmndfcdmbaaChecked
import GoSem.Claim
import GoSem.ClaimJoined
import GoSem.ClaimMapViews
import Derived.JoinedTies
import Derived.KernelRfl
namespace Go.Proofs.Ytmemhmndfcdmbaa
/- THE CELL 'sum', in the pinned program and in every row, IS THE sha256 OF THE DUMP (.gsa) THAT YtmemhmndfcdmbaaProg.lean LOADS. Nothing in Lean hashes anything: it is a label: what it is worth is what the hold of that sum in a sandbox is worth. -/
noncomputable def Try.pinned : Pinned := { name := "ytmemhmndfcdmbaa", sum := "93ef9dea7ea162e8f45f0da89c71f37f3ec3c1efd56f4a3c71ce625971e74f8a", checked := Try.checked }
namespace Rows
def none {H : Type} : Left H := { results := [], args := [] }

/-- 'laws.FnTextOf': WHATEVER THE INPUT: true; the input reads as it did. -/
def fnTextOfSpec : ChangeSpec := { name := "fnTextOf", fn := fun _ => fun
  | [d] => { results := [.lit (.bool true)], args := [d] }
  | _ => none }
def fnTextOfRow : OpenClaim := { program := "ytmemhmndfcdmbaa", sum := "93ef9dea7ea162e8f45f0da89c71f37f3ec3c1efd56f4a3c71ce625971e74f8a", func := "loop.example/limner/laws.FnTextOf", spec := "fnTextOf", unfollowed := true, recurses := true, apart := false }
def FnTextOfSaid : Prop := fnTextOfRow.holds Try.pinned (OpenSpec.ofChange fnTextOfSpec)

/-- ITS FALSE NEIGHBOUR: 'it returns false'. Refute it at one input. -/
def fnTextOfWrong : ChangeSpec := { name := "fnTextOf", fn := fun _ => fun
  | [d] => { results := [.lit (.bool false)], args := [d] }
  | _ => none }
def FnTextOfWrongFalsely : Prop := fnTextOfRow.holds Try.pinned (OpenSpec.ofChange fnTextOfWrong)

/-- 'laws.FnTextNow': WHATEVER THE INPUT: true; the input reads as it did. -/
def fnTextNowSpec : ChangeSpec := { name := "fnTextNow", fn := fun _ => fun
  | [d] => { results := [.lit (.bool true)], args := [d] }
  | _ => none }
def fnTextNowRow : OpenClaim := { program := "ytmemhmndfcdmbaa", sum := "93ef9dea7ea162e8f45f0da89c71f37f3ec3c1efd56f4a3c71ce625971e74f8a", func := "loop.example/limner/laws.FnTextNow", spec := "fnTextNow", unfollowed := true, recurses := true, apart := false }
def FnTextNowSaid : Prop := fnTextNowRow.holds Try.pinned (OpenSpec.ofChange fnTextNowSpec)

/-- ITS FALSE NEIGHBOUR: 'it returns false'. Refute it at one input. -/
def fnTextNowWrong : ChangeSpec := { name := "fnTextNow", fn := fun _ => fun
  | [d] => { results := [.lit (.bool false)], args := [d] }
  | _ => none }
def FnTextNowWrongFalsely : Prop := fnTextNowRow.holds Try.pinned (OpenSpec.ofChange fnTextNowWrong)

/-- 'laws.FnTextWas': WHATEVER THE INPUT: true; the input reads as it did. -/
def fnTextWasSpec : ChangeSpec := { name := "fnTextWas", fn := fun _ => fun
  | [d] => { results := [.lit (.bool true)], args := [d] }
  | _ => none }
def fnTextWasRow : OpenClaim := { program := "ytmemhmndfcdmbaa", sum := "93ef9dea7ea162e8f45f0da89c71f37f3ec3c1efd56f4a3c71ce625971e74f8a", func := "loop.example/limner/laws.FnTextWas", spec := "fnTextWas", unfollowed := true, recurses := true, apart := false }
def FnTextWasSaid : Prop := fnTextWasRow.holds Try.pinned (OpenSpec.ofChange fnTextWasSpec)

/-- ITS FALSE NEIGHBOUR: 'it returns false'. Refute it at one input. -/
def fnTextWasWrong : ChangeSpec := { name := "fnTextWas", fn := fun _ => fun
  | [d] => { results := [.lit (.bool false)], args := [d] }
  | _ => none }
def FnTextWasWrongFalsely : Prop := fnTextWasRow.holds Try.pinned (OpenSpec.ofChange fnTextWasWrong)

/- THE SECOND FORM. 'bulk': how many values and letters a reading holds, each counted each time it is reached (what is shared counts as often as it is met; a slice's spare places count too). A statement '..UptoSaid' is the law's where the arguments, and the package variables that the reading takes, are together of bulk at most 1048576: NARROWER than '..Said'. Prove '..Said' where nothing that the law and all that it calls make is longer than what came in: it says more and counts as full. Else prove '..UptoSaid'. A law counts once. -/
mutual
def uptoBulk {H : Type} : DataW H → Nat
  | .lit (.string bytes) => bytes.length + 1
  | .lit _ => 1
  | .nil => 1
  | .ptr d => uptoBulk d + 1
  | .slice elems spare => uptoBulkAll elems + uptoBulkAll spare + 1
  | .agg parts => uptoBulkAll parts + 1
  | .iface _ d => uptoBulk d + 1
  | .map entries => uptoBulkEntries entries + 1
  | .held _ => 1
def uptoBulkAll {H : Type} : List (DataW H) → Nat
  | [] => 0
  | d :: r => uptoBulk d + uptoBulkAll r
def uptoBulkEntries {H : Type} : List (Lit × DataW H) → Nat
  | [] => 0
  | x :: r => uptoBulkEntry x + uptoBulkEntries r
def uptoBulkEntry {H : Type} : Lit × DataW H → Nat
  | (.string bytes, d) => bytes.length + uptoBulk d + 1
  | (_, d) => uptoBulk d + 1
 end
def uptoSmall : (H : Type) → List (DataW H) → Bool := fun _ ds => decide (uptoBulkAll ds ≤ 1048576)
def OpenSpec.upto (s : _root_.Go.ChangeSpec) : _root_.Go.OpenSpec := { _root_.Go.OpenSpec.ofChange s with cond := some uptoSmall }

/-- 'laws.FnTextOf', WHERE WHAT IT READS IS OF BULK AT MOST 1048576: true; the input reads as it did. -/
def fnTextOfUptoRow : OpenClaim := { program := "ytmemhmndfcdmbaa", sum := "93ef9dea7ea162e8f45f0da89c71f37f3ec3c1efd56f4a3c71ce625971e74f8a", func := "loop.example/limner/laws.FnTextOf", spec := "fnTextOf", unfollowed := true, recurses := true, apart := false, narrowed := true }
def FnTextOfUptoSaid : Prop := fnTextOfUptoRow.holds Try.pinned (OpenSpec.upto fnTextOfSpec)

/-- 'laws.FnTextNow', WHERE WHAT IT READS IS OF BULK AT MOST 1048576: true; the input reads as it did. -/
def fnTextNowUptoRow : OpenClaim := { program := "ytmemhmndfcdmbaa", sum := "93ef9dea7ea162e8f45f0da89c71f37f3ec3c1efd56f4a3c71ce625971e74f8a", func := "loop.example/limner/laws.FnTextNow", spec := "fnTextNow", unfollowed := true, recurses := true, apart := false, narrowed := true }
def FnTextNowUptoSaid : Prop := fnTextNowUptoRow.holds Try.pinned (OpenSpec.upto fnTextNowSpec)

/-- 'laws.FnTextWas', WHERE WHAT IT READS IS OF BULK AT MOST 1048576: true; the input reads as it did. -/
def fnTextWasUptoRow : OpenClaim := { program := "ytmemhmndfcdmbaa", sum := "93ef9dea7ea162e8f45f0da89c71f37f3ec3c1efd56f4a3c71ce625971e74f8a", func := "loop.example/limner/laws.FnTextWas", spec := "fnTextWas", unfollowed := true, recurses := true, apart := false, narrowed := true }
def FnTextWasUptoSaid : Prop := fnTextWasUptoRow.holds Try.pinned (OpenSpec.upto fnTextWasSpec)

end Rows
end Go.Proofs.Ytmemhmndfcdmbaa
