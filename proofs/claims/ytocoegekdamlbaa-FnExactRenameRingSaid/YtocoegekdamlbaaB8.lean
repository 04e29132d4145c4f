
/- Lists that are the same: the library's Equal, l1Same; SameRing of both sides. -/
import Derived.Test.YtocoegekdamlbaaB4
namespace Go.Proofs.Ytocoegekdamlbaa
open Go.RowKit

theorem Blk.next {w w' : World} {g : Nat} {t : TypeId} {cs : Array Value} (h : Blk w g t cs) (hb : Below w.heap.size w w') : Blk w' g t cs := h.below hb h.lt
theorem blk4 {w : World} {g : Nat} {t : TypeId} {a b c d : Value} (h : Blk w g t #[a, b, c, d]) : w.cell? ⟨g, 0, none⟩ = some a ∧ w.cell? ⟨g, 1, none⟩ = some b ∧ w.cell? ⟨g, 2, none⟩ = some c ∧ w.cell? ⟨g, 3, none⟩ = some d :=
  ⟨h.cell 0, h.cell 1, h.cell 2, h.cell 3⟩
theorem below_step {w w1 w2 : World} (h : Below w.heap.size w w1) (hb : Below w1.heap.size w1 w2) : Below w.heap.size w w2 := h.trans (hb.mono h.size)

def eqL (xs ys : List Int) : Bool := decide (xs = ys)
def AlikeTo (xs ys : List Int) (k : Nat) : Prop := ∀ j, j < k → xs[j]?.getD 0 = ys[j]?.getD 0
theorem eqL_true {xs ys : List Int} (hl : xs.length = ys.length) (h : AlikeTo xs ys xs.length) : eqL xs ys = true := by
  refine decide_eq_true (List.ext_getElem hl fun j h1 h2 => ?_)
  have := h j h1
  rw [List.getElem?_eq_getElem h1, List.getElem?_eq_getElem h2] at this
  exact this
theorem eqL_false {xs ys : List Int} {k : Nat} (h : ¬ xs[k]?.getD 0 = ys[k]?.getD 0) : eqL xs ys = false := decide_eq_false fun e => h (by rw [e])
theorem eqL_len {xs ys : List Int} (h : xs.length ≠ ys.length) : eqL xs ys = false := decide_eq_false fun e => h (by rw [e])

/-- Two rings are the same. -/
def sameB (n o : Int) (X Y : List Int) (n' o' : Int) (X' Y' : List Int) : Bool := eq4 n o X.length Y.length n' o' X'.length Y'.length && (eqL X X' && eqL Y Y')
theorem sameB_eq {n o n' o' : Int} {X Y X' Y' : List Int} : sameB n o X Y n' o' X' Y' = (n == n' && (o == o' && (eqL X X' && eqL Y Y'))) := by
  unfold sameB eq4
  cases h1 : eqL X X'
  · simp
  · cases h2 : eqL Y Y'
    · simp
    · have e1 := of_decide_eq_true h1
      have e2 := of_decide_eq_true h2
      subst e1; subst e2
      simp

attribute [local go_sem] eq_shape

end Go.Proofs.Ytocoegekdamlbaa
