/-
  NARROWER THAN 'FOR EVERY INPUT', by the rows' own cells (each row's printed sentence says how): FnSpotOrder: ifaces, laid · FnExactSpotNow: ifaces, laid · FnExactSpotWas: ifaces, laid · FnExactSpotRaw: ifaces, laid.
  DERIVED. THE GIVEN ROWS OF THIS SEAT. 4 by the template 'for every input the law returns true; each argument reads behind the call as it read before'; 0 by the template 'total and deterministic' (their statements: YtccoeachemnbnaaGreatDoorTotals.lean).
  GIVEN WITH THE SEED: the statements are not yours to turn. If you find one false, say at which input.
  Laid BY PROGRAM, IN A SANDBOX (cutbox-rows.mjs): the forced cells as the released guide's own fill.sh prints them over the translation 557998e4139d842d… (all of the seat's roots in one cut). By AI agents, Wed Nov 11 2026. No macro, syntax, notation, axiom, sorry.
-/
import Derived.Test.YtccoeachemnbnaaGreatDoorChecked
import GoSem.Claim
import GoSem.ClaimJoined
import GoSem.ClaimMapViews
import Derived.JoinedTies
import Derived.KernelRfl
namespace Go.Proofs.YtccoeachemnbnaaGreatDoor
/- THE CELL 'sum', in the pinned program and in every row, IS THE sha256 OF THE DUMP (.gsa) THAT YtccoeachemnbnaaGreatDoorProg.lean LOADS. Nothing in Lean hashes anything: it is a label: what it is worth is what the hold of that sum in a sandbox is worth. -/
noncomputable def Tryz.pinned : Pinned := { name := "ytccoeachemnbnaagreatdoor", sum := "557998e4139d842d38b691ce747b0af7c36b82b0d195f410ed121b16d247a00e", checked := Tryz.checked }
namespace Rows
def none {H : Type} : Left H := { results := [], args := [] }

/- WHAT THE LISTED PACKAGE-LEVEL VARIABLES READ AS WHEN THE CALL BEGINS. Each datum BY PROGRAM (the guide's laid-datum.mjs) off the statement by which the dump's own 'gosem.cut.vars' lays the variable. In a bare row this is a premise. The card (YtccoeachemnbnaaGreatDoorCards.lean) ties it to the program's text. -/
def laid_loop_example_limner_impl_errCannot {H : Type} : DataW H := .iface "*errors.errorString" (.ptr (.agg [.lit (.string [105, 116, 32, 99, 97, 110, 110, 111, 116, 32, 98, 101, 32, 100, 111, 110, 101])]))

/-- 'laws.FnSpotOrder': WHATEVER THE INPUT: true; the input reads as it did. -/
def fnSpotOrderSpec : ChangeSpec := { name := "fnSpotOrder", vars := ["loop.example/limner/impl.errCannot"], fn := fun _ => fun
  | [d, g1] => { results := [.lit (.bool true)], args := [d], vars := [g1] }
  | _ => none }
def fnSpotOrderRow : OpenClaim := { program := "ytccoeachemnbnaagreatdoor", sum := "557998e4139d842d38b691ce747b0af7c36b82b0d195f410ed121b16d247a00e", func := "loop.example/limner/laws.FnSpotOrder", spec := "fnSpotOrder", inPlace := ["internal/reflectlite.TypeOf"], unfollowed := true, recurses := true, named := ["loop.example/limner/impl.errCannot"], ifaces := true, apart := false, laid := [("loop.example/limner/impl.errCannot", laid_loop_example_limner_impl_errCannot)] }
def FnSpotOrderSaid : Prop := fnSpotOrderRow.holds Tryz.pinned (OpenSpec.ofChange fnSpotOrderSpec)

/-- ITS FALSE NEIGHBOUR: 'it returns false'. Refute it at one input. -/
def fnSpotOrderWrong : ChangeSpec := { name := "fnSpotOrder", vars := ["loop.example/limner/impl.errCannot"], fn := fun _ => fun
  | [d, g1] => { results := [.lit (.bool false)], args := [d], vars := [g1] }
  | _ => none }
def FnSpotOrderWrongFalsely : Prop := fnSpotOrderRow.holds Tryz.pinned (OpenSpec.ofChange fnSpotOrderWrong)

/-- 'laws.FnExactSpotNow': WHATEVER THE INPUT: true; the input reads as it did. -/
def fnExactSpotNowSpec : ChangeSpec := { name := "fnExactSpotNow", vars := ["loop.example/limner/impl.errCannot"], fn := fun _ => fun
  | [d1, d2, g1] => { results := [.lit (.bool true)], args := [d1, d2], vars := [g1] }
  | _ => none }
def fnExactSpotNowRow : OpenClaim := { program := "ytccoeachemnbnaagreatdoor", sum := "557998e4139d842d38b691ce747b0af7c36b82b0d195f410ed121b16d247a00e", func := "loop.example/limner/laws.FnExactSpotNow", spec := "fnExactSpotNow", inPlace := ["internal/reflectlite.TypeOf"], unfollowed := true, recurses := true, named := ["loop.example/limner/impl.errCannot"], ifaces := true, apart := false, laid := [("loop.example/limner/impl.errCannot", laid_loop_example_limner_impl_errCannot)] }
def FnExactSpotNowSaid : Prop := fnExactSpotNowRow.holds Tryz.pinned (OpenSpec.ofChange fnExactSpotNowSpec)

/-- ITS FALSE NEIGHBOUR: 'it returns false'. Refute it at one input. -/
def fnExactSpotNowWrong : ChangeSpec := { name := "fnExactSpotNow", vars := ["loop.example/limner/impl.errCannot"], fn := fun _ => fun
  | [d1, d2, g1] => { results := [.lit (.bool false)], args := [d1, d2], vars := [g1] }
  | _ => none }
def FnExactSpotNowWrongFalsely : Prop := fnExactSpotNowRow.holds Tryz.pinned (OpenSpec.ofChange fnExactSpotNowWrong)

/-- 'laws.FnExactSpotWas': WHATEVER THE INPUT: true; the input reads as it did. -/
def fnExactSpotWasSpec : ChangeSpec := { name := "fnExactSpotWas", vars := ["loop.example/limner/impl.errCannot"], fn := fun _ => fun
  | [d1, d2, g1] => { results := [.lit (.bool true)], args := [d1, d2], vars := [g1] }
  | _ => none }
def fnExactSpotWasRow : OpenClaim := { program := "ytccoeachemnbnaagreatdoor", sum := "557998e4139d842d38b691ce747b0af7c36b82b0d195f410ed121b16d247a00e", func := "loop.example/limner/laws.FnExactSpotWas", spec := "fnExactSpotWas", inPlace := ["internal/reflectlite.TypeOf"], unfollowed := true, recurses := true, named := ["loop.example/limner/impl.errCannot"], ifaces := true, apart := false, laid := [("loop.example/limner/impl.errCannot", laid_loop_example_limner_impl_errCannot)] }
def FnExactSpotWasSaid : Prop := fnExactSpotWasRow.holds Tryz.pinned (OpenSpec.ofChange fnExactSpotWasSpec)

/-- ITS FALSE NEIGHBOUR: 'it returns false'. Refute it at one input. -/
def fnExactSpotWasWrong : ChangeSpec := { name := "fnExactSpotWas", vars := ["loop.example/limner/impl.errCannot"], fn := fun _ => fun
  | [d1, d2, g1] => { results := [.lit (.bool false)], args := [d1, d2], vars := [g1] }
  | _ => none }
def FnExactSpotWasWrongFalsely : Prop := fnExactSpotWasRow.holds Tryz.pinned (OpenSpec.ofChange fnExactSpotWasWrong)

/-- 'laws.FnExactSpotRaw': WHATEVER THE INPUT: true; the input reads as it did. -/
def fnExactSpotRawSpec : ChangeSpec := { name := "fnExactSpotRaw", vars := ["loop.example/limner/impl.errCannot"], fn := fun _ => fun
  | [d1, d2, g1] => { results := [.lit (.bool true)], args := [d1, d2], vars := [g1] }
  | _ => none }
def fnExactSpotRawRow : OpenClaim := { program := "ytccoeachemnbnaagreatdoor", sum := "557998e4139d842d38b691ce747b0af7c36b82b0d195f410ed121b16d247a00e", func := "loop.example/limner/laws.FnExactSpotRaw", spec := "fnExactSpotRaw", inPlace := ["internal/reflectlite.TypeOf"], unfollowed := true, recurses := true, named := ["loop.example/limner/impl.errCannot"], ifaces := true, apart := false, laid := [("loop.example/limner/impl.errCannot", laid_loop_example_limner_impl_errCannot)] }
def FnExactSpotRawSaid : Prop := fnExactSpotRawRow.holds Tryz.pinned (OpenSpec.ofChange fnExactSpotRawSpec)

/-- ITS FALSE NEIGHBOUR: 'it returns false'. Refute it at one input. -/
def fnExactSpotRawWrong : ChangeSpec := { name := "fnExactSpotRaw", vars := ["loop.example/limner/impl.errCannot"], fn := fun _ => fun
  | [d1, d2, g1] => { results := [.lit (.bool false)], args := [d1, d2], vars := [g1] }
  | _ => none }
def FnExactSpotRawWrongFalsely : Prop := fnExactSpotRawRow.holds Tryz.pinned (OpenSpec.ofChange fnExactSpotRawWrong)

/- THE SECOND FORM. 'bulk': how many values and letters a reading holds, each counted each time it is reached (what is shared counts as often as it is met; a slice's spare places count too). A statement '..UptoSaid' is the law's where the arguments, and the package variables that the reading takes, are together of bulk at most 1048576: NARROWER than '..Said'. Prove '..Said' where nothing that the law and all that it calls make is longer than what came in: it says more and counts as full. Else prove '..UptoSaid'. A law counts once. -/
mutual
def uptoBulk {H : Type} : DataW H → Nat
  | .lit (.string bytes) => bytes.length + 1
  | .lit _ => 1
  | .nil => 1
  | .ptr d => uptoBulk d + 1
  | .slice elems spare => uptoBulkAll elems + uptoBulkAll spare + 1
  | .agg parts => uptoBulkAll parts + 1
  | .iface _ d => uptoBulk d + 1
  | .map entries => uptoBulkEntries entries + 1
  | .held _ => 1
def uptoBulkAll {H : Type} : List (DataW H) → Nat
  | [] => 0
  | d :: r => uptoBulk d + uptoBulkAll r
def uptoBulkEntries {H : Type} : List (Lit × DataW H) → Nat
  | [] => 0
  | x :: r => uptoBulkEntry x + uptoBulkEntries r
def uptoBulkEntry {H : Type} : Lit × DataW H → Nat
  | (.string bytes, d) => bytes.length + uptoBulk d + 1
  | (_, d) => uptoBulk d + 1
 end
def uptoSmall : (H : Type) → List (DataW H) → Bool := fun _ ds => decide (uptoBulkAll ds ≤ 1048576)
def OpenSpec.upto (s : _root_.Go.ChangeSpec) : _root_.Go.OpenSpec := { _root_.Go.OpenSpec.ofChange s with cond := some uptoSmall }

/-- 'laws.FnSpotOrder', WHERE WHAT IT READS IS OF BULK AT MOST 1048576: true; the input reads as it did. -/
def fnSpotOrderUptoRow : OpenClaim := { program := "ytccoeachemnbnaagreatdoor", sum := "557998e4139d842d38b691ce747b0af7c36b82b0d195f410ed121b16d247a00e", func := "loop.example/limner/laws.FnSpotOrder", spec := "fnSpotOrder", inPlace := ["internal/reflectlite.TypeOf"], unfollowed := true, recurses := true, named := ["loop.example/limner/impl.errCannot"], ifaces := true, apart := false, laid := [("loop.example/limner/impl.errCannot", laid_loop_example_limner_impl_errCannot)], narrowed := true }
def FnSpotOrderUptoSaid : Prop := fnSpotOrderUptoRow.holds Tryz.pinned (OpenSpec.upto fnSpotOrderSpec)

/-- 'laws.FnExactSpotNow', WHERE WHAT IT READS IS OF BULK AT MOST 1048576: true; the input reads as it did. -/
def fnExactSpotNowUptoRow : OpenClaim := { program := "ytccoeachemnbnaagreatdoor", sum := "557998e4139d842d38b691ce747b0af7c36b82b0d195f410ed121b16d247a00e", func := "loop.example/limner/laws.FnExactSpotNow", spec := "fnExactSpotNow", inPlace := ["internal/reflectlite.TypeOf"], unfollowed := true, recurses := true, named := ["loop.example/limner/impl.errCannot"], ifaces := true, apart := false, laid := [("loop.example/limner/impl.errCannot", laid_loop_example_limner_impl_errCannot)], narrowed := true }
def FnExactSpotNowUptoSaid : Prop := fnExactSpotNowUptoRow.holds Tryz.pinned (OpenSpec.upto fnExactSpotNowSpec)

/-- 'laws.FnExactSpotWas', WHERE WHAT IT READS IS OF BULK AT MOST 1048576: true; the input reads as it did. -/
def fnExactSpotWasUptoRow : OpenClaim := { program := "ytccoeachemnbnaagreatdoor", sum := "557998e4139d842d38b691ce747b0af7c36b82b0d195f410ed121b16d247a00e", func := "loop.example/limner/laws.FnExactSpotWas", spec := "fnExactSpotWas", inPlace := ["internal/reflectlite.TypeOf"], unfollowed := true, recurses := true, named := ["loop.example/limner/impl.errCannot"], ifaces := true, apart := false, laid := [("loop.example/limner/impl.errCannot", laid_loop_example_limner_impl_errCannot)], narrowed := true }
def FnExactSpotWasUptoSaid : Prop := fnExactSpotWasUptoRow.holds Tryz.pinned (OpenSpec.upto fnExactSpotWasSpec)

/-- 'laws.FnExactSpotRaw', WHERE WHAT IT READS IS OF BULK AT MOST 1048576: true; the input reads as it did. -/
def fnExactSpotRawUptoRow : OpenClaim := { program := "ytccoeachemnbnaagreatdoor", sum := "557998e4139d842d38b691ce747b0af7c36b82b0d195f410ed121b16d247a00e", func := "loop.example/limner/laws.FnExactSpotRaw", spec := "fnExactSpotRaw", inPlace := ["internal/reflectlite.TypeOf"], unfollowed := true, recurses := true, named := ["loop.example/limner/impl.errCannot"], ifaces := true, apart := false, laid := [("loop.example/limner/impl.errCannot", laid_loop_example_limner_impl_errCannot)], narrowed := true }
def FnExactSpotRawUptoSaid : Prop := fnExactSpotRawUptoRow.holds Tryz.pinned (OpenSpec.upto fnExactSpotRawSpec)

end Rows
end Go.Proofs.YtccoeachemnbnaaGreatDoor
