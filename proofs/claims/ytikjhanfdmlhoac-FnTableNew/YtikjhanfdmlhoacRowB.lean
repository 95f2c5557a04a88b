import Derived.Test.YtikjhanfdmlhoacRowKit
import Derived.Test.YtikjhanfdmlhoacDraw
namespace Go.Proofs.Ytikjhanfdmlhoac
open Go.ChangeShapes Go.WideShapes Go.ChangeAt Go.RowKit

theorem byt_nil (W : World) : Byt W.heap.size W none 0 0 [] := ⟨rfl, Nat.le_refl _, Nat.zero_le _, fun i => by simp, .inl rfl⟩

theorem byt_of {W : World} {x : Addr} {len cap : Nat} {zs : List Int} (hl : len ≤ cap) (hm : cap ≤ maxLen) (hz : zs.length = cap) (hcell : ∀ i, i < zs.length → W.cell? (x.add i) = some (.int .u8 (zs.getD i 0)))
    (hwz : ∀ n ∈ zs, (Lit.int .u8 n).wf = true) : Byt W.heap.size W (some x) len cap (zs.take len) := by
  have e : ∀ i, i < len → (zs.take len).getD i 0 = zs.getD i 0 := fun i hi => by simp [List.getD, hi]
  refine ⟨by simp; omega, hl, hm, fun i => ?_, ?_⟩
  · by_cases hi : i < len
    · rw [e i hi]
      have hm : zs.getD i 0 ∈ zs := by
        rw [List.getD, List.getElem?_eq_getElem (by omega)]
        simp
      have := hwz _ hm
      simp [Lit.wf, IntKind.min, IntKind.max, IntKind.signed, IntKind.bits] at this
      simp only [List.getD] at *
      omega
    · have : (zs.take len)[i]? = none := List.getElem?_eq_none (by simp; omega)
      simp [List.getD, this]
  · by_cases h0 : len = 0
    · subst h0; exact .inl (by simp)
    · obtain ⟨b, off, spot⟩ := x
      have hc := hcell 0 (by omega)
      have hspot : spot = none := by simpa [Addr.add] using World.cell?_spot hc
      subst hspot
      refine .inr ⟨b, off, rfl, by have := World.block_lt_of_cell? _ _ hc; simpa [Addr.add_lit] using this, fun i hi => ?_⟩
      have hi' : i < len := by simp at hi; omega
      rw [e i hi']
      have := hcell i (by omega)
      simpa only [Addr.add_lit] using this
end Go.Proofs.Ytikjhanfdmlhoac
