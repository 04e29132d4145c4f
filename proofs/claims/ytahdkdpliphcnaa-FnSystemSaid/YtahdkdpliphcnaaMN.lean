/- Texts of this seat in one: M9 O1 O2 O3 O4 O5 O6 O7 O8 O9. -/
import Derived.Test.YtahdkdpliphcnaaMG
import Derived.RangeFuncNested
import Derived.RangeFuncCalls
import Derived.OrdersIn
import Derived.TacticsInMore
import Derived.Test.YtahdkdpliphcnaaMB
import Derived.Test.YtahdkdpliphcnaaMC

/- Regions that draw their order, within a round of a range over a function: what holds outside of rounds holds there. -/
namespace Go.Proofs.Ytahdkdpliphcnaa
open Go.RowKit

section
variable {P : Program} {ops : Array Oper} {Q : Exit → Act → World → Prop}
end
end Go.Proofs.Ytahdkdpliphcnaa



/- Plain facts: ideals of a ring given by tables, the least one with some elements, sums of two, multiples of one. No program in sight. -/
namespace Go.Proofs.Ytahdkdpliphcnaa
open Go.RowKit

section
variable {m e : Nat} {S P : Nat → Nat} {p q r : Nat → Bool}
theorem RTab.Aas (R : RTab m S P e) {a b c : Nat} (ha : a < m) (hb : b < m) (hc : c < m) : S (S (a * m + b) * m + c) = S (a * m + S (b * m + c)) := congrArg Fin.val (R.Aa ⟨a, ha⟩ ⟨b, hb⟩ ⟨c, hc⟩)
theorem RTab.Acs (R : RTab m S P e) {a b : Nat} (ha : a < m) (hb : b < m) : S (a * m + b) = S (b * m + a) := R.s.comm ha hb
theorem RTab.A4 (R : RTab m S P e) {a b c d : Nat} (ha : a < m) (hb : b < m) (hc : c < m) (hd : d < m) : S (S (a * m + b) * m + S (c * m + d)) = S (S (a * m + c) * m + S (b * m + d)) := by
  rw [R.Aas ha hb (R.sc hc hd), ← R.Aas hb hc hd, R.Acs hb hc, R.Aas hc hb hd, ← R.Aas ha hc (R.sc hb hd)]
end
end Go.Proofs.Ytahdkdpliphcnaa



/- Plain facts: lists that are ideals, and what is made of them. No program in sight. -/
namespace Go.Proofs.Ytahdkdpliphcnaa
open Go.RowKit

section
variable {m e : Nat} {S P : Nat → Nat} {p q : Nat → Bool}
end

section
variable {n o : Int} {X Y L K : List Int}
end
end Go.Proofs.Ytahdkdpliphcnaa



/- Sets as arrays by what tells their elements; iterators over elements; the library's iterator over a list. -/
namespace Go.Proofs.Ytahdkdpliphcnaa
open Go.RowKit Go.Shelf
set_option maxRecDepth 100000
attribute [local go_sem] Oper.semAt_some

def setP (p : Nat → Bool) : Array Value := (Array.range 16).map fun i => .bool (p i)
section
variable {p q : Nat → Bool} {l : List Nat} {i k m : Nat}
theorem setP_size : (setP p).size = 16 := by simp [setP]
/-- The elements of a set up to 16. -/
def pl (p : Nat → Bool) : List Nat := (List.range 16).filter p
theorem setP_put : (setP p).setIfInBounds k (.bool true) = setP (fun i => p i || decide (i = k)) := by
  apply Array.ext
  · simp [setP]
  · intro i h1 _
    have h16 : i < 16 := by simpa [setP] using h1
    rw [Array.getElem_setIfInBounds (by rw [setP_size]; exact h16)]
    simp only [setP, Array.getElem_map, Array.getElem_range]
    split
    · rename_i e
      subst e
      simp
    · rename_i e
      rw [decide_eq_false (fun h => e h.symm), Bool.or_false]
end

theorem Blk.put {g a : Nat} {p : Nat → Bool} {w : World} {t : TypeId} (hb : Blk w g t (setP p)) : Blk (w.setCell ⟨g, a, none⟩ (.bool true)) g t (setP (fun i => p i || decide (i = a))) := by
  have := hb.set_ a (.bool true)
  rwa [setP_put] at this

end Go.Proofs.Ytahdkdpliphcnaa



/- Iterators over elements whose test captures variables. -/
namespace Go.Proofs.Ytahdkdpliphcnaa
open Go.RowKit Go.Shelf
set_option maxRecDepth 100000
attribute [local go_sem] Oper.semAt_some

end Go.Proofs.Ytahdkdpliphcnaa



/- The program's sets: multiples of an element, the whole ring; the elements of a set as a list; what is outside of one. -/
namespace Go.Proofs.Ytahdkdpliphcnaa
open Go.RowKit Go.Shelf
set_option maxRecDepth 100000
attribute [local go_sem] Oper.semAt_some

end Go.Proofs.Ytahdkdpliphcnaa



/- The program's sets: the whole ring; the elements of a set as a list; what is outside of one. -/
namespace Go.Proofs.Ytahdkdpliphcnaa
open Go.RowKit Go.Shelf
set_option maxRecDepth 100000
attribute [local go_sem] Oper.semAt_some

section
variable {n l0 : Nat} {P : Program} {ops : Array Oper} {rest : List Oper} {o : Oper} {a : Act} {w : World} {Q : Exit → Act → World → Prop}
end

end Go.Proofs.Ytahdkdpliphcnaa



/- What an operation makes of two sets: the program's pairwise, a range over a function within one. -/
namespace Go.Proofs.Ytahdkdpliphcnaa
open Go.RowKit Go.Shelf
set_option maxRecDepth 100000
attribute [local go_sem] Oper.semAt_some

section
variable {m : Nat} {T : Nat → Nat} {p q : Nat → Bool}
end

end Go.Proofs.Ytahdkdpliphcnaa



/- The program's sums of ideals and the least ideal with the elements of an iterator. -/
namespace Go.Proofs.Ytahdkdpliphcnaa
open Go.RowKit Go.Shelf
set_option maxRecDepth 100000
attribute [local go_sem] Oper.semAt_some

theorem Blk.inC {V : World} {g : Nat} {t : TypeId} {cs : Array Value} (h : Blk V g t cs) : ∀ x, extC V x → x.heap[g]? = some (.cells cs t (0, 0)) := fun _ ⟨u, hu⟩ => by rw [hu]; exact h.next (ext_below V u)
end Go.Proofs.Ytahdkdpliphcnaa



/- IdealOf and IsIdeal of the program; the set of an ideal. -/
namespace Go.Proofs.Ytahdkdpliphcnaa
open Go.RowKit Go.Shelf
set_option maxRecDepth 100000
attribute [local go_sem] Oper.semAt_some

end Go.Proofs.Ytahdkdpliphcnaa

