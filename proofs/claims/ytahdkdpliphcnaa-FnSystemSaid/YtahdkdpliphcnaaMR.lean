/- Texts of this seat in one: PH PI PJ PK PL PM PN PQ. -/
import Derived.Test.YtahdkdpliphcnaaMQ
import Derived.Maps.OwnSet
import Derived.Test.YtahdkdpliphcnaaMN
import Derived.Test.YtahdkdpliphcnaaMO
import Derived.Test.YtahdkdpliphcnaaMJ

/- An append of one element of several cells, inside a region that draws its order. -/
namespace Go.Proofs.Ytahdkdpliphcnaa
open Go.RowKit Go.Shelf
set_option maxRecDepth 100000

section
variable {D size bytes n b : Nat} {e t ty : TypeId} {i0 : TypeInfo} {z : Value} {v : Value} {x : World} {xs news : List Value}
end

/-! ### what a region asks of such an append: a slice of one element (maker a) and the append (maker b) -/
def GpR (row : Option Nat) (D : Nat) (e : TypeId) (size n : Nat) (xs news : List Value) (w w' : World) : Prop :=
  w.grownBy w' row ∧ (∀ u, w.ownsRow D e size u (n + 1) (xs ++ news) → w'.ownsRow D e size u (n + 1) (xs ++ news)) ∧ ∀ u, w.ownsRow D e size u n xs → w'.ownsRow D e size u n xs
section
variable {row : Option Nat} {D D0 size n : Nat} {e : TypeId} {xs news : List Value} {ia ib : Nat}
theorem GpR.refl (w : World) : GpR row D e size n xs news w w := ⟨grownBy_refl w, fun _ h => h, fun _ h => h⟩
theorem GpR.trans (a b c : World) (h : GpR row D e size n xs news a b) (h' : GpR row D e size n xs news b c) : GpR row D e size n xs news a c := ⟨grownBy_trans h.1 h'.1, fun v hv => h'.2.1 v (h.2.1 v hv), fun v hv => h'.2.2 v (h.2.2 v hv)⟩
theorem GpR.of_below {w w' : World} (hb : Below w.heap.size w w') : GpR row D e size n xs news w w' := ⟨grownBy_below hb, fun _ h => own_nextK h hb, fun _ h => own_nextK h hb⟩
theorem GpR.drew (w : World) : GpR row D e size n xs news w w.drew := GpR.of_below (Below.refl _ _).drew
end
instance (row : Option Nat) (D : Nat) (e : TypeId) (size n : Nat) (xs news : List Value) (V : World) : Nonempty (ExtR (GpR row D e size n xs news) V) := ⟨⟨V, GpR.refl V⟩⟩

end Go.Proofs.Ytahdkdpliphcnaa



/- A map from elements to classes: what it holds, element by element. -/
namespace Go.Proofs.Ytahdkdpliphcnaa
open Go.RowKit Go.Shelf
set_option maxRecDepth 100000

def clsD (a b : Int) : DataW Unit := .agg [.lit (.int .i64 a), .lit (.int .i64 b)]
/-- How a class in a map reads. -/
def clsE (v : Value) : Option (DataW Unit × List MemPlace) := match v with
  | .agg cs => match cs.toList with
    | [.int .i64 a, .int .i64 b] => some (clsD a b, [])
    | _ => none
  | _ => none
/-- Block b is a map of at most k entries that holds these classes. -/
def MapC (k : Nat) (w : World) (b : Nat) (f : Nat → Option (Nat × Nat)) : Prop :=
  ∃ n D, n ≤ k ∧ w.ownsMap Try.prog 3 clsE b n D ∧ ∀ x : Nat, x ≤ 1000000 → (f x = none → Maps.has D (.int .i64 (x : Int)) = false) ∧ ∀ i l, f x = some (i, l) → Maps.has D (.int .i64 (x : Int)) = true ∧ ∀ z, D.atKey (.int .i64 (x : Int)) z = clsD i l
section
variable {k b : Nat} {w w' : World} {f : Nat → Option (Nat × Nat)}
theorem MapC.lt (h : MapC k w b f) : b < w.heap.size := by obtain ⟨n, D, _, h1, _⟩ := h; exact h1.lt
theorem MapC.kept {row : Option Nat} (h : MapC k w b f) (hg : w.grownBy w' row) (hne : some b ≠ row) : MapC k w' b f := by
  obtain ⟨n, D, h0, h1, h2⟩ := h
  exact ⟨n, D, h0, h1.kept hg hne, h2⟩
theorem MapC.next (h : MapC k w b f) (hb : Below w.heap.size w w') : MapC k w' b f := h.kept (row := none) (grownBy_below hb) (by simp)
theorem MapC.heap (h : MapC k w b f) (hh : w'.heap[b]? = w.heap[b]?) : MapC k w' b f := by
  obtain ⟨n, D, h0, ⟨es, clock, hb, rest⟩, h2⟩ := h
  exact ⟨n, D, h0, ⟨es, clock, hh.trans hb, rest⟩, h2⟩
theorem MapC.more (h : MapC k w b f) {k' : Nat} (hk : k ≤ k') : MapC k' w b f := by
  obtain ⟨n, D, h0, h1⟩ := h
  exact ⟨n, D, Nat.le_trans h0 hk, h1⟩
theorem MapC.made (w : World) : MapC 0 (w.alloc (.map #[] 0)) w.heap.size (fun _ => none) :=
  ⟨0, .map [], Nat.le_refl _, World.ownsMap_made _ _ _ _, fun _ _ => ⟨fun _ => rfl, fun _ _ h => by cases h⟩⟩
end

end Go.Proofs.Ytahdkdpliphcnaa



/- addClass of the program: one more class. -/
namespace Go.Proofs.Ytahdkdpliphcnaa
open Go.RowKit Go.Shelf
set_option maxRecDepth 100000
attribute [local go_sem] Oper.semAt_some

end Go.Proofs.Ytahdkdpliphcnaa



/- quotientOf of the program: all classes by an ideal. -/
namespace Go.Proofs.Ytahdkdpliphcnaa
open Go.RowKit Go.Shelf
set_option maxRecDepth 100000

section
variable {m e k : Nat} {S P : Nat → Nat} {p : Nat → Bool}
end

section
variable {w : World} {b : Nat} {v0 v1 v2 v3 v4 v5 : Value}
end

end Go.Proofs.Ytahdkdpliphcnaa



/- The methods of a quotient. -/
namespace Go.Proofs.Ytahdkdpliphcnaa
open Go.RowKit Go.Shelf
set_option maxRecDepth 100000

section
variable {m e b1 o1 la ca b2 o2 lb cb : Nat} {vC : Value} {bm : Nat}
end

end Go.Proofs.Ytahdkdpliphcnaa



/- The program's maker of rings, at a quotient. -/
namespace Go.Proofs.Ytahdkdpliphcnaa
open Go.RowKit
set_option maxRecDepth 100000

end Go.Proofs.Ytahdkdpliphcnaa



/- The ring of a quotient, as the program makes it. -/
namespace Go.Proofs.Ytahdkdpliphcnaa
open Go.RowKit Go.Shelf
set_option maxRecDepth 100000

end Go.Proofs.Ytahdkdpliphcnaa



/- PushIdeal of the program. -/
namespace Go.Proofs.Ytahdkdpliphcnaa
open Go.RowKit Go.Shelf
set_option maxRecDepth 100000

end Go.Proofs.Ytahdkdpliphcnaa

