/- Texts of this seat in one: PR. -/
import Derived.Test.YtahdkdpliphcnaaMQ

/- LiftIdeal of the reading side. -/
namespace Go.Proofs.Ytahdkdpliphcnaa
open Go.RowKit Go.Shelf
set_option maxRecDepth 100000

/-- The lists of a new ring. -/
theorem NewRing.ints {D k : Nat} {w : World} {v : Value} {n o : Int} {X Y : List Int} (h : NewRing D w v n o k X Y) (hk : k ≤ 1048570) (hX : X.length = k) (hY : Y.length = k) : ∃ A c2 B c3, v = .agg #[.int .i64 n, .int .i64 o, .slice A k c2, .slice B k c3] ∧ Ints w w.heap.size A k X ∧ Ints w w.heap.size B k Y ∧ k ≤ c2 ∧ k ≤ c3 := by
  obtain ⟨v2, v3, rfl, h2, h3, _⟩ := h
  obtain ⟨A, l2, c2, rfl, hA, hc2, _⟩ := SliceOut.of_row h2 hX hk
  obtain ⟨B, l3, c3, rfl, hB, hc3, _⟩ := SliceOut.of_row h3 hY hk
  have e2 := hA.ints.1.symm.trans hX
  have e3 := hB.ints.1.symm.trans hY
  subst e2
  rw [e3] at hB hc3
  exact ⟨A, c2, B, c3, by rw [e3], hA.ints, hB.ints, hc2, hc3⟩

end Go.Proofs.Ytahdkdpliphcnaa

