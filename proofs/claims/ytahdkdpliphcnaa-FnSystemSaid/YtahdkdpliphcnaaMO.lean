/- Texts of this seat in one: OA OB OC OD OE OF OI OJ OG OH OM ON OP OQ OR OT OU OV. -/
import Derived.Test.YtahdkdpliphcnaaMN
import Derived.Deep.Cut
import Derived.Test.YtahdkdpliphcnaaMC
import Derived.ArgAppend

/- The reading side's sets: put, the set of a list, the least ideal with some elements. -/
namespace Go.Proofs.Ytahdkdpliphcnaa
open Go.RowKit
set_option maxRecDepth 100000

section
variable {G c c' p : Nat → Bool} {b : Bool} {k : Nat}
theorem filt_le (h : ∀ i, c i = true → c' i = true) : ∀ l : List Nat, (l.filter c).length ≤ (l.filter c').length
  | [] => Nat.le_refl _
  | x :: l => by
    have ih := filt_le h l
    have hx := h x
    cases h1 : c x <;> cases h2 : c' x <;> simp_all <;> omega
theorem filt_lt (h : ∀ i, c i = true → c' i = true) : ∀ l : List Nat, (∃ i ∈ l, c' i = true ∧ c i = false) → (l.filter c).length < (l.filter c').length
  | [], ⟨_, hi, _⟩ => absurd hi (by simp)
  | x :: l, ⟨i, hi, h1, h2⟩ => by
    have hx := h x
    rcases List.mem_cons.1 hi with rfl | hi
    · have := filt_le h l
      simp [h1, h2]
      omega
    · have ih := filt_lt h l ⟨i, hi, h1, h2⟩
      cases h3 : c x <;> cases h4 : c' x <;> simp_all <;> omega
/-- A pass over the elements, so far. -/
structure PassOk (G c c' : Nat → Bool) (b : Bool) : Prop where
  mono : ∀ i, c i = true → c' i = true
  le : ∀ i, c' i = true → G i = true
  grown : b = true → ∃ i, i < 16 ∧ c' i = true ∧ c i = false
  same : b = false → c' = c
theorem PassOk.start (h : ∀ i, c i = true → G i = true) : PassOk G c c false := ⟨fun _ h => h, h, fun e => (by cases e), fun _ => rfl⟩
theorem PassOk.add (h : PassOk G c c' b) (hG : G k = true) (hk : k < 16) (hn : c' k = false) : PassOk G c (fun i => c' i || decide (i = k)) true where
  mono := fun i hi => by rw [h.mono i hi]; rfl
  le := fun i hi => by
    rw [Bool.or_eq_true, decide_eq_true_iff] at hi
    exact hi.elim (h.le i) (fun e => e ▸ hG)
  grown := fun _ => ⟨k, hk, by simp, by
    cases e : c k
    · rfl
    · rw [h.mono k e] at hn; cases hn⟩
  same := fun e => by cases e
theorem PassOk.len (h : PassOk G c c' true) : (pl c).length < (pl c').length := by
  obtain ⟨i, h1, h2, h3⟩ := h.grown rfl
  exact filt_lt h.mono _ ⟨i, List.mem_range.2 h1, h2, h3⟩
end

end Go.Proofs.Ytahdkdpliphcnaa



/- The reading side's least ideal with some elements: three loops, till nothing is put in. -/
namespace Go.Proofs.Ytahdkdpliphcnaa
open Go.RowKit
set_option maxRecDepth 100000

section
variable {m e : Nat} {S P : Nat → Nat} {c : Nat → Bool}
end

end Go.Proofs.Ytahdkdpliphcnaa



/- IdealOf and IsIdeal of the reading side; IsIdeal of the program; the set of an ideal. -/
namespace Go.Proofs.Ytahdkdpliphcnaa
open Go.RowKit Go.Shelf
set_option maxRecDepth 100000

end Go.Proofs.Ytahdkdpliphcnaa



/- The set of an ideal; functions of two ideals; meets and products of the program. -/
namespace Go.Proofs.Ytahdkdpliphcnaa
open Go.RowKit Go.Shelf
set_option maxRecDepth 100000
attribute [local go_sem] Oper.semAt_some

end Go.Proofs.Ytahdkdpliphcnaa



/- Functions of two ideals, of the program: sums, products, meets. -/
namespace Go.Proofs.Ytahdkdpliphcnaa
open Go.RowKit Go.Shelf
set_option maxRecDepth 100000
attribute [local go_sem] Oper.semAt_some

end Go.Proofs.Ytahdkdpliphcnaa



/- Products and meets of ideals of the program; SumIdeal, ProductIdeal, MeetIdeal. -/
namespace Go.Proofs.Ytahdkdpliphcnaa
open Go.RowKit Go.Shelf
set_option maxRecDepth 100000
attribute [local go_sem] Oper.semAt_some

end Go.Proofs.Ytahdkdpliphcnaa



/- The reading side's functions of two ideals: products, meets, quotients. -/
namespace Go.Proofs.Ytahdkdpliphcnaa
open Go.RowKit Go.Shelf
set_option maxRecDepth 100000

end Go.Proofs.Ytahdkdpliphcnaa



/- The reading side's MeetIdeal and RadicalOf. -/
namespace Go.Proofs.Ytahdkdpliphcnaa
open Go.RowKit Go.Shelf
set_option maxRecDepth 100000

end Go.Proofs.Ytahdkdpliphcnaa



/- RadicalOf of the program; no two elements outside of an ideal have a product in it. -/
namespace Go.Proofs.Ytahdkdpliphcnaa
open Go.RowKit Go.Shelf
set_option maxRecDepth 100000
attribute [local go_sem] Oper.semAt_some

end Go.Proofs.Ytahdkdpliphcnaa



/- RadicalOf of the program; the search for two elements outside of an ideal with a product in it. -/
namespace Go.Proofs.Ytahdkdpliphcnaa
open Go.RowKit Go.Shelf
set_option maxRecDepth 100000
attribute [local go_sem] Oper.semAt_some

end Go.Proofs.Ytahdkdpliphcnaa



/- IsPrimeIdeal and IsMaximalIdeal of the program. -/
namespace Go.Proofs.Ytahdkdpliphcnaa
open Go.RowKit Go.Shelf
set_option maxRecDepth 100000
attribute [local go_sem] Oper.semAt_some
attribute [local go_sem ↓] Go.wp_at_zero Go.wp_at_succ

end Go.Proofs.Ytahdkdpliphcnaa



/- IsPrimeIdeal of the reading side. -/
namespace Go.Proofs.Ytahdkdpliphcnaa
open Go.RowKit Go.Shelf
set_option maxRecDepth 100000
end Go.Proofs.Ytahdkdpliphcnaa



/- GeneratorOf of both sides. -/
namespace Go.Proofs.Ytahdkdpliphcnaa
open Go.RowKit Go.Shelf
set_option maxRecDepth 100000
attribute [local go_sem ↓] Go.wp_at_zero Go.wp_at_succ

section
variable {m : Nat} {P : Nat → Nat} {p : Nat → Bool}
end

end Go.Proofs.Ytahdkdpliphcnaa



/- ProductIdeal of the reading side. -/
namespace Go.Proofs.Ytahdkdpliphcnaa
open Go.RowKit Go.Shelf
set_option maxRecDepth 100000

end Go.Proofs.Ytahdkdpliphcnaa



/- IsMaximalIdeal of the program. -/
namespace Go.Proofs.Ytahdkdpliphcnaa
open Go.RowKit Go.Shelf
set_option maxRecDepth 100000
attribute [local go_sem] Oper.semAt_some
attribute [local go_sem ↓] Go.wp_at_zero Go.wp_at_succ

end Go.Proofs.Ytahdkdpliphcnaa



/- The sum of two ideals as the reading side makes it: two appends in a region that draws its order. -/
namespace Go.Proofs.Ytahdkdpliphcnaa
open Go.RowKit Go.Shelf
set_option maxRecDepth 100000

/-- A row of the call's own that begins with these numbers. -/
def Sm (D : Nat) (Z : List Int) (v : Value) (w : World) : Prop :=
  ∃ g cap, v = .slice (some ⟨g, 0, none⟩) Z.length cap ∧ D ≤ g ∧ g < w.heap.size ∧ Z.length ≤ cap ∧
    (∀ j, j < cap → (w.cell? ⟨g, j, none⟩).isSome = true ∧ w.frozen? ⟨g, j, none⟩ = false) ∧ (∀ (j : Nat) (y : Int), Z[j]? = some y → w.cell? ⟨g, j, none⟩ = some (.int .i64 y))
theorem Sm.next {D : Nat} {Z : List Int} {v : Value} {w w' : World} (h : Sm D Z v w) (hb : Below w.heap.size w w') : Sm D Z v w' := by
  obtain ⟨g, cap, e, h1, h2, h3, h4, h5⟩ := h
  refine ⟨g, cap, e, h1, Nat.lt_of_lt_of_le h2 hb.size, h3, fun j hj => ?_, fun j y hy => ?_⟩
  · rw [hb.cell (p := ⟨g, j, none⟩) h2, hb.frozen (p := ⟨g, j, none⟩) h2]; exact h4 j hj
  · rw [hb.cell (p := ⟨g, j, none⟩) h2]; exact h5 j y hy
def SmR (D : Nat) (L Z : List Int) (w w' : World) : Prop := Below D w w' ∧ (∀ v, Sm D L v w → Sm D L v w') ∧ (∀ v, Sm D Z v w → Sm D Z v w')
section
variable {D : Nat} {L Z : List Int}
theorem SmR.refl (w : World) : SmR D L Z w w := ⟨Below.refl _ _, fun _ h => h, fun _ h => h⟩
theorem SmR.trans (a b c : World) (h : SmR D L Z a b) (h' : SmR D L Z b c) : SmR D L Z a c := ⟨h.1.trans h'.1, fun v hv => h'.2.1 v (h.2.1 v hv), fun v hv => h'.2.2 v (h.2.2 v hv)⟩
theorem SmR.of_below {w w' : World} (hb : Below w.heap.size w w') (hD : D ≤ w.heap.size) : SmR D L Z w w' := ⟨hb.mono hD, fun _ h => h.next hb, fun _ h => h.next hb⟩
theorem SmR.drew (w : World) (hD : D ≤ w.heap.size) : SmR D L Z w w.drew := SmR.of_below (Below.refl _ _).drew hD
end
end Go.Proofs.Ytahdkdpliphcnaa



/- l4Sum and SumIdeal of the reading side. -/
namespace Go.Proofs.Ytahdkdpliphcnaa
open Go.RowKit Go.Shelf
set_option maxRecDepth 100000

end Go.Proofs.Ytahdkdpliphcnaa



/- IsMaximalIdeal of the reading side. -/
namespace Go.Proofs.Ytahdkdpliphcnaa
open Go.RowKit Go.Shelf
set_option maxRecDepth 100000

section
variable {m : Nat} {S P : Nat → Nat} {p : Nat → Bool}
end
end Go.Proofs.Ytahdkdpliphcnaa

