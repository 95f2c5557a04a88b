import Derived.Test.YteghidjbcpmfbaaPlain
import Derived.Test.YteghidjbcpmfbaaOwnS
namespace Go.Proofs.Yteghidjbcpmfbaa
open Go.RowKit

theorem implTextOk_is {a : Option Addr} {n cap : Nat} {l : List Sg} {w : World} {x : Bool} (h : Txt w a n cap l) (hx : textB l = x) :
    Calls Try.prog 49 #[.slice a n cap] w fun e w' => e = .returned (.bool x) ∧ Below w.heap.size w w' := hx ▸ implTextOk_any a n cap l w h
end Go.Proofs.Yteghidjbcpmfbaa
