/- Texts of this seat in one: W9 WA. -/
import Derived.Test.YtlcpbdbdiahmjaaMF
import Derived.Test.YtlcpbdbdiahmjaaMB

/- The drawing side: draws of stage 2. -/
namespace Go.Proofs.Ytlcpbdbdiahmjaa
open Go.RowKit
set_option maxRecDepth 100000

end Go.Proofs.Ytlcpbdbdiahmjaa



/- The drawing side: l2Order, a list of new numbers. -/
namespace Go.Proofs.Ytlcpbdbdiahmjaa
open Go.RowKit
set_option maxRecDepth 100000

/-- A row of ints that a call has made. -/
def OrdR (D : Nat) (w : World) (b k cap : Nat) : Prop := ∃ L : List Int, L.length = k ∧ w.ownsRow D 3 1 (.slice (some ⟨b, 0, none⟩) k cap) k (intsV L)
section
variable {D b k cap g : Nat} {w w' : World}
theorem OrdR.lt (h : OrdR D w b k cap) : D ≤ b ∧ b < w.heap.size := by
  obtain ⟨L, _, h2⟩ := h
  exact h2.lt b rfl
theorem OrdR.wk (h : OrdR D w b k cap) (hw : Wk g w w') (hg : g < D) : OrdR D w' b k cap := by
  have h0 := h.lt
  obtain ⟨L, h1, h2⟩ := h
  exact ⟨L, h1, h2.kept hw.grown (.inr fun e => by injection e with e; have e : b = g := e; omega)⟩
theorem OrdR.next (h : OrdR D w b k cap) (hb : Below w.heap.size w w') : OrdR D w' b k cap := by
  obtain ⟨L, h1, h2⟩ := h
  exact ⟨L, h1, own_next h2 hb⟩
theorem OrdR.at_ (h : OrdR D w b k cap) {j : Nat} (hj : j < k) : (∃ x : Int, w.cell? ⟨b, j, none⟩ = some (.int .i64 x)) ∧ w.frozen? ⟨b, j, none⟩ = false := by
  obtain ⟨L, h1, h2⟩ := h
  refine ⟨⟨_, (h2.cellAt j (by omega)).trans (intsV_get (by omega))⟩, h2.frozenAt j⟩
theorem OrdR.set_ (h : OrdR D w b k cap) (j : Nat) (x : Int) : OrdR D (w.setCell ⟨b, j, none⟩ (.int .i64 x)) b k cap := by
  obtain ⟨L, h1, h2⟩ := h
  refine ⟨L.set j x, by simpa using h1, ?_⟩
  rw [← intsV_set]
  exact (h2.stored j (.int .i64 x)).1
end

end Go.Proofs.Ytlcpbdbdiahmjaa

