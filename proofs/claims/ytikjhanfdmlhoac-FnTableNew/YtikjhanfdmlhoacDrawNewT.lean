import Derived.Test.YtikjhanfdmlhoacDrawO
namespace Go.Proofs.Ytikjhanfdmlhoac
open Go.RowKit

set_option maxHeartbeats 1000000 in
theorem drawTableNew_any (B : Nat) (a : Option Addr) (n cap : Nat) (zs : List Int) (w : World) (h : Byt B w a n cap zs) (hB : B ≤ w.heap.size) :
    Calls Try.prog 13 #[.slice a n cap] w fun e w' => (∃ x y : Int, e = .returned (.tuple #[.int .i64 (x - 1), .int .i64 (y - 1)]) ∧ 0 ≤ x ∧ x < 8 ∧ 0 ≤ y ∧ y < 8) ∧ Below w.heap.size w w' := by
  go_enter Try.func13, Try.ntmps13
  go_wp2_with fail
  refine (l6Open_any B a n cap zs _ h hB).mono ?_
  rintro e w0 ⟨rfl, hr0, hb0⟩
  have s0 := hb0.size
  have hlt0 := hr0.lt
  have HR0 : Hid (Rd B w0 w.heap.size 0) := hr0
  clear hr0
  go_wp2_with fail
  refine (pick_any B w.heap.size 0 8 _ HR0.out (by omega) (by omega) (by omega)).mono ?_
  rintro e w1 ⟨x, rfl, hx0, hx1, hr1, hg1⟩
  have HR1 : Hid (Rd B w1 w.heap.size (0 + 1)) := hr1
  have s1 := hg1.size
  clear hr1
  go_wp2_with fail
  refine (pick_any B w.heap.size (0 + 1) 8 _ HR1.out (by omega) (by omega) (by omega)).mono ?_
  rintro e w2 ⟨y, rfl, hy0, hy1, hr2, hg2⟩
  have s2 := hg2.size
  go_wp2_with fail
  refine bodyPost_ret (v := .tuple #[.int .i64 (x - 1), .int .i64 (y - 1)]) (by simp [results, Try.results13, go_sem]) rfl ⟨⟨x, y, rfl, hx0, hx1, hy0, hy1⟩, ?_⟩
  exact (hb0.grown hg1 (by omega) (fun q hq => by simp at hq; omega)).grown hg2 (by omega) (fun q hq => by simp at hq; omega)
end Go.Proofs.Ytikjhanfdmlhoac
