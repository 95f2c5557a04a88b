/-
  No cell of these rows narrows 'for every input' (looked for: loops, veiled, ifaces, maps, wideKeys, modest, calm, conditions, laid).
  DERIVED. THE GIVEN ROWS OF THIS SEAT. 3 by the template 'for every input the law returns true; each argument reads behind the call as it read before'; 0 by the template 'total and deterministic' (their statements: YtpllholgmidpnaaTotals.lean).
  GIVEN WITH THE SEED: the statements are not yours to turn. If you find one false, say at which input.
  Laid BY PROGRAM, IN A SANDBOX (cutbox-rows.mjs): the forced cells as the released guide's own fill.sh prints them over the translation b5b172470b2fb544… (all of the seat's roots in one cut). By AI agents, Wed Nov 11 2026. No macro, syntax, notation, axiom, sorry.
-/
import Derived.Test.YtpllholgmidpnaaChecked
import GoSem.Claim
import GoSem.ClaimJoined
import GoSem.ClaimMapViews
import Derived.JoinedTies
import Derived.KernelRfl
namespace Go.Proofs.Ytpllholgmidpnaa
/- THE CELL 'sum', in the pinned program and in every row, IS THE sha256 OF THE DUMP (.gsa) THAT YtpllholgmidpnaaProg.lean LOADS. Nothing in Lean hashes anything: it is a label: what it is worth is what the hold of that sum in a sandbox is worth. -/
noncomputable def Try.pinned : Pinned := { name := "ytpllholgmidpnaa", sum := "b5b172470b2fb544dc589fb5482e4a6d8ad188eb15f9b67c771c639655aba326", checked := Try.checked }
namespace Rows
def none {H : Type} : Left H := { results := [], args := [] }

/-- 'laws.FnTextBy': WHATEVER THE INPUT: true; the input reads as it did. -/
def fnTextBySpec : ChangeSpec := { name := "fnTextBy", fn := fun _ => fun
  | [d] => { results := [.lit (.bool true)], args := [d] }
  | _ => none }
def fnTextByRow : OpenClaim := { program := "ytpllholgmidpnaa", sum := "b5b172470b2fb544dc589fb5482e4a6d8ad188eb15f9b67c771c639655aba326", func := "loop.example/limner/laws.FnTextBy", spec := "fnTextBy", unfollowed := true, recurses := true, apart := false }
def FnTextBySaid : Prop := fnTextByRow.holds Try.pinned (OpenSpec.ofChange fnTextBySpec)

/-- ITS FALSE NEIGHBOUR: 'it returns false'. Refute it at one input. -/
def fnTextByWrong : ChangeSpec := { name := "fnTextBy", fn := fun _ => fun
  | [d] => { results := [.lit (.bool false)], args := [d] }
  | _ => none }
def FnTextByWrongFalsely : Prop := fnTextByRow.holds Try.pinned (OpenSpec.ofChange fnTextByWrong)

/-- 'laws.FnExactTextOf': WHATEVER THE INPUT: true; the input reads as it did. -/
def fnExactTextOfSpec : ChangeSpec := { name := "fnExactTextOf", fn := fun _ => fun
  | [d] => { results := [.lit (.bool true)], args := [d] }
  | _ => none }
def fnExactTextOfRow : OpenClaim := { program := "ytpllholgmidpnaa", sum := "b5b172470b2fb544dc589fb5482e4a6d8ad188eb15f9b67c771c639655aba326", func := "loop.example/limner/laws.FnExactTextOf", spec := "fnExactTextOf", apart := false }
def FnExactTextOfSaid : Prop := fnExactTextOfRow.holds Try.pinned (OpenSpec.ofChange fnExactTextOfSpec)

/-- ITS FALSE NEIGHBOUR: 'it returns false'. Refute it at one input. -/
def fnExactTextOfWrong : ChangeSpec := { name := "fnExactTextOf", fn := fun _ => fun
  | [d] => { results := [.lit (.bool false)], args := [d] }
  | _ => none }
def FnExactTextOfWrongFalsely : Prop := fnExactTextOfRow.holds Try.pinned (OpenSpec.ofChange fnExactTextOfWrong)

/-- 'laws.FnExactTextBy': WHATEVER THE INPUT: true; the input reads as it did. -/
def fnExactTextBySpec : ChangeSpec := { name := "fnExactTextBy", fn := fun _ => fun
  | [d] => { results := [.lit (.bool true)], args := [d] }
  | _ => none }
def fnExactTextByRow : OpenClaim := { program := "ytpllholgmidpnaa", sum := "b5b172470b2fb544dc589fb5482e4a6d8ad188eb15f9b67c771c639655aba326", func := "loop.example/limner/laws.FnExactTextBy", spec := "fnExactTextBy", apart := false }
def FnExactTextBySaid : Prop := fnExactTextByRow.holds Try.pinned (OpenSpec.ofChange fnExactTextBySpec)

/-- ITS FALSE NEIGHBOUR: 'it returns false'. Refute it at one input. -/
def fnExactTextByWrong : ChangeSpec := { name := "fnExactTextBy", fn := fun _ => fun
  | [d] => { results := [.lit (.bool false)], args := [d] }
  | _ => none }
def FnExactTextByWrongFalsely : Prop := fnExactTextByRow.holds Try.pinned (OpenSpec.ofChange fnExactTextByWrong)

/- THE SECOND FORM. 'bulk': how many values and letters a reading holds, each counted each time it is reached (what is shared counts as often as it is met; a slice's spare places count too). A statement '..UptoSaid' is the law's where the arguments, and the package variables that the reading takes, are together of bulk at most 1048576: NARROWER than '..Said'. Prove '..Said' where nothing that the law and all that it calls make is longer than what came in: it says more and counts as full. Else prove '..UptoSaid'. A law counts once. -/
mutual
def uptoBulk {H : Type} : DataW H → Nat
  | .lit (.string bytes) => bytes.length + 1
  | .lit _ => 1
  | .nil => 1
  | .ptr d => uptoBulk d + 1
  | .slice elems spare => uptoBulkAll elems + uptoBulkAll spare + 1
  | .agg parts => uptoBulkAll parts + 1
  | .iface _ d => uptoBulk d + 1
  | .map entries => uptoBulkEntries entries + 1
  | .held _ => 1
def uptoBulkAll {H : Type} : List (DataW H) → Nat
  | [] => 0
  | d :: r => uptoBulk d + uptoBulkAll r
def uptoBulkEntries {H : Type} : List (Lit × DataW H) → Nat
  | [] => 0
  | x :: r => uptoBulkEntry x + uptoBulkEntries r
def uptoBulkEntry {H : Type} : Lit × DataW H → Nat
  | (.string bytes, d) => bytes.length + uptoBulk d + 1
  | (_, d) => uptoBulk d + 1
 end
def uptoSmall : (H : Type) → List (DataW H) → Bool := fun _ ds => decide (uptoBulkAll ds ≤ 1048576)
def OpenSpec.upto (s : _root_.Go.ChangeSpec) : _root_.Go.OpenSpec := { _root_.Go.OpenSpec.ofChange s with cond := some uptoSmall }

/-- 'laws.FnTextBy', WHERE WHAT IT READS IS OF BULK AT MOST 1048576: true; the input reads as it did. -/
def fnTextByUptoRow : OpenClaim := { program := "ytpllholgmidpnaa", sum := "b5b172470b2fb544dc589fb5482e4a6d8ad188eb15f9b67c771c639655aba326", func := "loop.example/limner/laws.FnTextBy", spec := "fnTextBy", unfollowed := true, recurses := true, apart := false, narrowed := true }
def FnTextByUptoSaid : Prop := fnTextByUptoRow.holds Try.pinned (OpenSpec.upto fnTextBySpec)

/-- 'laws.FnExactTextOf', WHERE WHAT IT READS IS OF BULK AT MOST 1048576: true; the input reads as it did. -/
def fnExactTextOfUptoRow : OpenClaim := { program := "ytpllholgmidpnaa", sum := "b5b172470b2fb544dc589fb5482e4a6d8ad188eb15f9b67c771c639655aba326", func := "loop.example/limner/laws.FnExactTextOf", spec := "fnExactTextOf", apart := false, narrowed := true }
def FnExactTextOfUptoSaid : Prop := fnExactTextOfUptoRow.holds Try.pinned (OpenSpec.upto fnExactTextOfSpec)

/-- 'laws.FnExactTextBy', WHERE WHAT IT READS IS OF BULK AT MOST 1048576: true; the input reads as it did. -/
def fnExactTextByUptoRow : OpenClaim := { program := "ytpllholgmidpnaa", sum := "b5b172470b2fb544dc589fb5482e4a6d8ad188eb15f9b67c771c639655aba326", func := "loop.example/limner/laws.FnExactTextBy", spec := "fnExactTextBy", apart := false, narrowed := true }
def FnExactTextByUptoSaid : Prop := fnExactTextByUptoRow.holds Try.pinned (OpenSpec.upto fnExactTextBySpec)

end Rows
end Go.Proofs.Ytpllholgmidpnaa
