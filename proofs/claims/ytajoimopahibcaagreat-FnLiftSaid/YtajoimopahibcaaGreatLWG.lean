
import Derived.Test.YtajoimopahibcaaGreatMF
import Derived.Test.YtajoimopahibcaaGreatLWF
/- The drawing side: a ring and two ideals (l4Pair), and the draws that hand them on. -/
namespace Go.Proofs.YtajoimopahibcaaGreat
open Go.RowKit
set_option maxRecDepth 100000

/-- An ideal as it was drawn: a list of the call's own, of up to 17 numbers. -/
def Dr (D : Nat) (w : World) (v : Value) : Prop := ∃ L, SliceOut D w v L ∧ L.length ≤ 17
theorem Dr.shape {D : Nat} {w : World} {v : Value} (h : Dr D w v) : ∃ (A : Option Addr) (n c : Nat), v = .slice A n c := by
  obtain ⟨L, ⟨A, l, c, e, _⟩, _⟩ := h
  exact ⟨A, l, c, e⟩
theorem Dr.lower {D D' : Nat} {w : World} {v : Value} (h : Dr D w v) (hD : D' ≤ D) : Dr D' w v := by
  obtain ⟨L, h1, h2⟩ := h
  exact ⟨L, h1.down hD, h2⟩
theorem Dr.next {D : Nat} {w w' : World} {v : Value} (h : Dr D w v) (hb : Below w.heap.size w w') : Dr D w' v := by
  obtain ⟨L, h1, h2⟩ := h
  exact ⟨L, h1.next hb, h2⟩
theorem Dr.wkT {g D : Nat} {T : Nat → Option Obj} {w w' : World} {v : Value} (h : Dr D w v) (hw : WkT g T w w') (hg : g < D) (hT : ∀ k, D ≤ k → T k = none) : Dr D w' v := by
  obtain ⟨L, ⟨A, l, c, e, h1, h2⟩, h3⟩ := h
  exact ⟨L, ⟨A, l, c, e, h1.wkT hw hg hT, h2⟩, h3⟩
theorem Dr.wk {g D : Nat} {w w' : World} {v : Value} (h : Dr D w v) (hw : Wk g w w') (hg : g < D) : Dr D w' v := h.wkT (T := fun _ => none) (WkT.of hw) hg (fun _ _ => rfl)
/-- What the last statement of l4Pair draws. -/
structure P4Phi (D b : Nat) (cs : Array Value) (i : Nat) (v : Value) (w : World) : Prop where
  c : i = 4 → Dr D w v
  s : i = 5 → Blk w b 25 cs
structure P4Sh (i : Nat) (v : Value) : Prop where
  c : i = 4 → ∃ (A : Option Addr) (n c : Nat), v = .slice A n c
theorem P4Sh_zero (i : Nat) : P4Sh i (.slice none 0 0) := ⟨fun _ => ⟨none, 0, 0, rfl⟩⟩

end Go.Proofs.YtajoimopahibcaaGreat

