/- Texts of this seat in one: W9 WA. -/
import Derived.Test.YtcbodedpahdobaaMF
import Derived.Test.YtcbodedpahdobaaMB

/- The drawing side: draws of stage 2. -/
namespace Go.Proofs.Ytcbodedpahdobaa
open Go.RowKit
set_option maxRecDepth 100000

end Go.Proofs.Ytcbodedpahdobaa


/- The drawing side: l2Order, a list of new numbers. -/
namespace Go.Proofs.Ytcbodedpahdobaa
open Go.RowKit
set_option maxRecDepth 100000

/-- A row of ints that a call has made. -/
def OrdR (D : Nat) (w : World) (b k cap : Nat) : Prop := ∃ L : List Int, L.length = k ∧ w.ownsRow D 3 1 (.slice (some ⟨b, 0, none⟩) k cap) k (intsV L)
section
variable {D b k cap g : Nat} {w w' : World}
theorem OrdR.lt (h : OrdR D w b k cap) : D ≤ b ∧ b < w.heap.size := by
  obtain ⟨L, _, h2⟩ := h
  exact h2.lt b rfl
theorem OrdR.wk (h : OrdR D w b k cap) (hw : Wk g w w') (hg : g < D) : OrdR D w' b k cap := by
  have h0 := h.lt
  obtain ⟨L, h1, h2⟩ := h
  exact ⟨L, h1, h2.kept hw.grown (.inr fun e => by injection e with e; have e : b = g := e; omega)⟩
theorem OrdR.next (h : OrdR D w b k cap) (hb : Below w.heap.size w w') : OrdR D w' b k cap := by
  obtain ⟨L, h1, h2⟩ := h
  exact ⟨L, h1, own_next h2 hb⟩
theorem OrdR.at_ (h : OrdR D w b k cap) {j : Nat} (hj : j < k) : (∃ x : Int, w.cell? ⟨b, j, none⟩ = some (.int .i64 x)) ∧ w.frozen? ⟨b, j, none⟩ = false := by
  obtain ⟨L, h1, h2⟩ := h
  refine ⟨⟨_, (h2.cellAt j (by omega)).trans (intsV_get (by omega))⟩, h2.frozenAt j⟩
theorem OrdR.set_ (h : OrdR D w b k cap) (j : Nat) (x : Int) : OrdR D (w.setCell ⟨b, j, none⟩ (.int .i64 x)) b k cap := by
  obtain ⟨L, h1, h2⟩ := h
  refine ⟨L.set j x, by simpa using h1, ?_⟩
  rw [← intsV_set]
  exact (h2.stored j (.int .i64 x)).1
theorem OrdR.out_ (h : OrdR D w b k cap) (hk : k ≤ 1000000) : ∃ L, SliceOut D w (.slice (some ⟨b, 0, none⟩) k cap) L := by
  obtain ⟨L, h1, h2⟩ := h
  refine ⟨L, _, _, _, rfl, own_of_row h2 h1, ?_, by omega⟩
  rcases h2.2 with ⟨e, _⟩ | ⟨g', cap', cur, e, _, _, hnc, _⟩
  · cases e
  · injection e with e1 e2 e3
    subst e3
    exact hnc
theorem row_zero {D : Nat} {w : World} {v : Value} {xs : List Value} {T : TypeId} (h : w.ownsRow D T 1 v 0 xs) : ∃ A cap, v = .slice A 0 cap ∧ SliceOut D w (.slice A 0 cap) [] := by
  rcases h.2 with ⟨rfl, _⟩ | ⟨g', cap', cur, rfl, _⟩
  · exact ⟨_, _, rfl, SliceOut.nil⟩
  · exact ⟨_, _, rfl, _, _, _, rfl, Own.nil, Nat.zero_le _, by omega⟩
theorem Wk.setFar (h : Wk g w w') {p : Addr} (hp : w.heap.size ≤ p.block) (u : Value) : Wk g w (w'.setCell p u) :=
  ⟨h.os, h.tape, h.output, by simpa using h.size, fun i hi hg => (Below.heap_setCell w' p u i (by omega)).trans (h.block i hi hg)⟩
theorem Rdr.setFar {j : Nat} (h : Rdr w g j) {p : Addr} (hp : g < p.block) (u : Value) : Rdr (w.setCell p u) g j := by
  obtain ⟨A, n, c, q, h1, h2, h3, h4⟩ := h
  exact ⟨A, n, c, q, h1.far (by omega) _, h2, h3, h4.cells fun a ha => World.cell?_setCell_other _ _ _ _ fun e => by subst e; omega⟩
end

end Go.Proofs.Ytcbodedpahdobaa
