/- Texts of this seat in one: J1 J2. -/
import Derived.Test.YtajoimopahibcaaGreatMG
import Derived.Test.YtajoimopahibcaaGreatMN

/- AssociatesOf of the program. -/
namespace Go.Proofs.YtajoimopahibcaaGreat
open Go.RowKit Go.Shelf
set_option maxRecDepth 100000
attribute [local go_sem] Oper.semAt_some

/-- A row of the call's own lies in no block of marks. -/
theorem SliceOut.putObj {D l : Nat} {w : World} {v : Value} {Z : List Int} {o o' : Obj} (h : SliceOut D w v Z) (hl : w.heap[l]? = some o) (ho : ∀ cs t s, o ≠ .cells cs t s) : SliceOut D (w.putObj l o') v Z := by
  obtain ⟨A, n, c, e, h1, h2⟩ := h
  refine ⟨A, n, c, e, ⟨h1.1, fun hn => ?_⟩, h2⟩
  obtain ⟨g, off, eA, hD, hg, hc⟩ := h1.2 hn
  have hne : g ≠ l := by
    rintro rfl
    have := (hc 0 hn).1
    unfold World.cell? at this
    simp only [hl] at this
    cases o <;> simp at this
    exact ho _ _ _ rfl
  have hb : (w.putObj l o').heap[g]? = w.heap[g]? := World.putObj_heap_other hne
  refine ⟨g, off, eA, hD, by simpa [World.putObj] using hg, fun k hk => ?_⟩
  rw [World.cell?_of_block (a := ⟨g, off + k, none⟩) hb, World.frozen?_of_block (a := ⟨g, off + k, none⟩) hb]
  exact hc k hk

end Go.Proofs.YtajoimopahibcaaGreat



/- AssociatesOf of the reading side. -/
namespace Go.Proofs.YtajoimopahibcaaGreat
open Go.RowKit
set_option maxRecDepth 100000

end Go.Proofs.YtajoimopahibcaaGreat

