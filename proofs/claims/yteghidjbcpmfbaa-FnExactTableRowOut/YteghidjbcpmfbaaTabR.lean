import Derived.Test.YteghidjbcpmfbaaTabW
import Derived.Laws.ResultCell
namespace Go.Proofs.Yteghidjbcpmfbaa
open Go.RowKit

/-- What a function gives that answers a table and whether there is one. -/
def TabRes (B : Nat) (ok : Bool) (X Y : Int) (L : List Cl) (z : Ending) (w' : World) : Prop :=
  (ok = false ∧ z = .returned (.tuple #[.agg #[.int .i64 0, .int .i64 0, .slice none 0 0], .bool false])) ∨
  (ok = true ∧ ∃ a c rs, z = .returned (.tuple #[.agg #[.int .i64 X, .int .i64 Y, .slice a L.length c], .bool true]) ∧ OwnT w' B (.slice a L.length c) rs L)
theorem run_tabOf {w : World} {g : Nat} {x y s : Value} (h : RowAt w g #[x, y, s] 28) : (loadVar 28 ⟨g, 0, none⟩).run Try.prog w = .ok (.agg #[x, y, s]) w :=
  run_loadVar_row w g 28 28 #[x, y, s] (0, 0) _ h Try.underlying28 rfl tab_info
end Go.Proofs.Yteghidjbcpmfbaa
