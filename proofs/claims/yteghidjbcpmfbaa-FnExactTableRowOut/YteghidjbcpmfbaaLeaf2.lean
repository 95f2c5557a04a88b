import Derived.Test.YteghidjbcpmfbaaLeaf
import Derived.Test.YteghidjbcpmfbaaLeaf2S
import Derived.Deep.RegionWith
namespace Go.Proofs.Yteghidjbcpmfbaa
open Go.RowKit

theorem and_person (i o : Int) (hi : whoB i = true) (ho : whoB o = true) : (bits BinOp.and IntKind.u8 (personN i) (personN o) == 0) = decide (o = 0 ∨ i ≠ o) := by
  simp [whoB] at hi ho
  rcases (show i = 0 ∨ i = 1 ∨ i = 2 ∨ i = 3 from by omega) with rfl | rfl | rfl | rfl <;> rcases (show o = 0 ∨ o = 1 ∨ o = 2 ∨ o = 3 from by omega) with rfl | rfl | rfl | rfl <;> rfl

theorem byteOk_is {b : Int} {x : Bool} (h : byteB b = x) (w : World) : Calls Try.prog 73 #[.int .u8 b] w fun e w' => e = .returned (.bool x) ∧ w' = w := h ▸ byteOk_any b w
theorem whoOk_is {n : Int} {x : Bool} (h : whoB n = x) (w : World) : Calls Try.prog 74 #[.int .i64 n] w fun e w' => e = .returned (.bool x) ∧ w' = w := h ▸ whoOk_any n w

set_option maxHeartbeats 1000000 in
theorem signOk_b (b i o : Int) (w : World) (hb : byteB b = false) :
    Calls Try.prog 69 #[.agg #[.int .u8 b, .int .i64 i, .int .i64 o]] w fun e w' => e = .returned (.bool (signB b i o)) ∧ Below w.heap.size w w' := by
  rw [show signB b i o = false from by simp [signB, hb]]
  go_enter Try.func69, Try.ntmps69
  go_wp2_with fail
  go_quiet ((first | (go_at_call 73; exact Calls.quiet_of_same (byteOk_is hb _))))
  go_wp2
  go_ret
  refine ⟨rfl, ?_⟩
  refine below_drewN ?_ _
  exact (Below.refl _ _).alloc (Nat.le_refl _) _

set_option maxHeartbeats 1000000 in
theorem signOk_i (b i o : Int) (w : World) (hb : byteB b = true) (hi : whoB i = false) :
    Calls Try.prog 69 #[.agg #[.int .u8 b, .int .i64 i, .int .i64 o]] w fun e w' => e = .returned (.bool (signB b i o)) ∧ Below w.heap.size w w' := by
  rw [show signB b i o = false from by simp [signB, hi]]
  go_enter Try.func69, Try.ntmps69
  go_wp2_with fail
  go_quiet ((first | (go_at_call 73; exact Calls.quiet_of_same (byteOk_is hb _)) | (go_at_call_of 74 (Value.int IntKind.i64 i); exact Calls.quiet_of_same (whoOk_is hi _))))
  go_wp2
  go_ret
  refine ⟨rfl, ?_⟩
  refine below_drewN ?_ _
  exact (Below.refl _ _).alloc (Nat.le_refl _) _

set_option maxHeartbeats 1000000 in
theorem signOk_o (b i o : Int) (w : World) (hb : byteB b = true) (hi : whoB i = true) (ho : whoB o = false) :
    Calls Try.prog 69 #[.agg #[.int .u8 b, .int .i64 i, .int .i64 o]] w fun e w' => e = .returned (.bool (signB b i o)) ∧ Below w.heap.size w w' := by
  rw [show signB b i o = false from by simp [signB, ho]]
  go_enter Try.func69, Try.ntmps69
  go_wp2_with fail
  go_quiet ((first | (go_at_call 73; exact Calls.quiet_of_same (byteOk_is hb _)) | (go_at_call_of 74 (Value.int IntKind.i64 i); exact Calls.quiet_of_same (whoOk_is hi _)) | (go_at_call_of 74 (Value.int IntKind.i64 o); exact Calls.quiet_of_same (whoOk_is ho _))))
  go_wp2
  go_ret
  refine ⟨rfl, ?_⟩
  refine below_drewN ?_ _
  exact (Below.refl _ _).alloc (Nat.le_refl _) _

set_option maxHeartbeats 1000000 in
theorem signOk_y (b i o : Int) (w : World) (hb : byteB b = true) (hi : whoB i = true) (ho : whoB o = true) :
    Calls Try.prog 69 #[.agg #[.int .u8 b, .int .i64 i, .int .i64 o]] w fun e w' => e = .returned (.bool (signB b i o)) ∧ Below w.heap.size w w' := by
  have hp : Hid ((bits BinOp.and IntKind.u8 (personN i) (personN o) == 0) = signB b i o) := by
    show (bits BinOp.and IntKind.u8 (personN i) (personN o) == 0) = signB b i o
    rw [and_person i o hi ho]; simp [signB, hb, hi, ho]
  go_enter Try.func69, Try.ntmps69
  go_wp2_with fail
  go_quiet ((first | (go_at_call 73; exact Calls.quiet_of_same (byteOk_is hb _)) | (go_at_call_of 74 (Value.int IntKind.i64 i); exact Calls.quiet_of_same (whoOk_is hi _)) | (go_at_call_of 74 (Value.int IntKind.i64 o); exact Calls.quiet_of_same (whoOk_is ho _)) | (go_at_call 75; exact Calls.quiet_of_same (person_any _ _))))
  rw [hp.out]
  go_wp2
  go_ret
  refine ⟨rfl, ?_⟩
  refine below_drewN ?_ _
  exact (Below.refl _ _).alloc (Nat.le_refl _) _

theorem signOk_any (b i o : Int) (w : World) :
    Calls Try.prog 69 #[.agg #[.int .u8 b, .int .i64 i, .int .i64 o]] w fun e w' => e = .returned (.bool (signB b i o)) ∧ Below w.heap.size w w' := by
  cases hb : byteB b
  · exact signOk_b b i o w hb
  · cases hi : whoB i
    · exact signOk_i b i o w hb hi
    · cases ho : whoB o
      · exact signOk_o b i o w hb hi ho
      · exact signOk_y b i o w hb hi ho

end Go.Proofs.Yteghidjbcpmfbaa
