/- Texts of this seat in one: PY PZ QA QB. -/
import Derived.Test.YtajoimopahibcaaMR
import Derived.Test.YtajoimopahibcaaMS

/- The members of a class of a quotient. -/
namespace Go.Proofs.Ytajoimopahibcaa
open Go.RowKit Go.Shelf
set_option maxRecDepth 100000

end Go.Proofs.Ytajoimopahibcaa



/- ClassesOf of the program: slices of slices none of which share a place. -/
namespace Go.Proofs.Ytajoimopahibcaa
open Go.RowKit Go.Shelf
set_option maxRecDepth 100000

/-- No two of these slices lie in one block. -/
def LLp (xs : List Value) : Prop := ∀ (i j : Nat) (B : Option Addr) (l c : Nat) (B' : Option Addr) (l' c' : Nat), i ≠ j → xs[i]? = some (Value.slice B l c) → xs[j]? = some (Value.slice B' l' c') → ∀ (g off g' off' : Nat), 0 < l → 0 < l' → B = some ⟨g, off, none⟩ → B' = some ⟨g', off', none⟩ → g ≠ g'
/-- A slice of slices of ints of the call's own, each in a block of its own. -/
def LLq (D : Nat) (w : World) (v : Value) (ZZ : List (List Int)) : Prop := ∃ xs, w.ownsRow D 23 1 v ZZ.length xs ∧ LLs D w v.ownBlock xs ZZ ∧ LLp xs
theorem LLq.next {D : Nat} {w w' : World} {v : Value} {ZZ : List (List Int)} (h : LLq D w v ZZ) (hb : Below w.heap.size w w') : LLq D w' v ZZ := by
  obtain ⟨xs, h1, h2, h3⟩ := h
  exact ⟨xs, own_nextK h1 hb, h2.next hb, h3⟩
theorem LLq.down {D D' : Nat} {w : World} {v : Value} {ZZ : List (List Int)} (h : LLq D w v ZZ) (hD : D' ≤ D) : LLq D' w v ZZ := by
  obtain ⟨xs, h1, h2, h3⟩ := h
  exact ⟨xs, own_base h1 hD, ⟨h2.1, fun i Z hZ => by obtain ⟨B, l, c, e1, e2, e3⟩ := h2.2 i Z hZ; exact ⟨B, l, c, e1, e2.down hD, e3⟩⟩, h3⟩
theorem LLq.lists {D : Nat} {w : World} {v : Value} {ZZ : List (List Int)} (h : LLq D w v ZZ) : LLo D w v ZZ := by
  obtain ⟨xs, h1, h2, _⟩ := h
  exact ⟨xs, h1, h2⟩
theorem LLq.nil {D : Nat} {w : World} : LLq D w (.slice none 0 0) [] := ⟨[], ⟨by simp, .inl ⟨rfl, rfl⟩⟩, ⟨rfl, fun i Z hZ => by simp at hZ⟩, fun i j B l c B' l' c' _ h => by simp at h⟩
theorem LLs.more {D l c : Nat} {w w' : World} {v v' : Value} {xs : List Value} {ZZ : List (List Int)} {Z : List Int} {B : Option Addr} {o : Obj} (h : LLs D w v.ownBlock xs ZZ) (hB : Own w D B l Z) (hl : l ≤ c) (hl' : l ≤ 1048570)
    (hap : ∀ g off, 0 < l → B = some ⟨g, off, none⟩ → v.ownBlock ≠ some g) (hg : (w.alloc o).grownBy w' v.ownBlock) (hloc : v'.ownBlock = v.ownBlock ∨ v'.ownBlock = some (w.alloc o).heap.size) : LLs D w' v'.ownBlock (xs ++ [.slice B l c]) (ZZ ++ [Z]) := by
  have hg0 : w.grownBy w' v.ownBlock := ⟨hg.os, hg.tape, hg.output, Nat.le_trans (by simp) hg.size, fun k hk hr => (hg.block k (by simp; omega) hr).trans (Below.heap_alloc w o k hk)⟩
  have new : ∀ {B : Option Addr} {n : Nat} {Z : List Int}, Own w D B n Z → (∀ g off, 0 < n → B = some ⟨g, off, none⟩ → v.ownBlock ≠ some g) → ∀ g off, 0 < n → B = some ⟨g, off, none⟩ → v'.ownBlock ≠ some g := fun {B n Z} hO hA g off hn e e' => by
    rcases hloc with h1 | h1
    · exact hA g off hn e (h1 ▸ e')
    · obtain ⟨g2, off2, e2, _, hlt, _⟩ := hO.2 hn
      rw [e] at e2
      simp only [Option.some.injEq, Addr.mk.injEq, and_true] at e2
      rw [h1] at e'
      simp at e'
      omega
  refine ⟨by simp [h.1], fun i Y hY => ?_⟩
  rcases Nat.lt_or_ge i ZZ.length with hi | hi
  · rw [List.getElem?_append_left hi] at hY
    obtain ⟨B1, l1, c1, e1, e2, e3, e4, e5⟩ := h.2 i Y hY
    exact ⟨B1, l1, c1, by rw [List.getElem?_append_left (by rw [h.1]; exact hi)]; exact e1, e2.grown_ hg0 e5, e3, e4, new e2 e5⟩
  · rw [List.getElem?_append_right hi] at hY
    have e0 : i - ZZ.length = 0 := by
      have := (List.getElem?_eq_some_iff.1 hY).1
      simp at this
      omega
    rw [e0] at hY
    simp at hY
    subst hY
    refine ⟨B, l, c, ?_, hB.grown_ hg0 hap, hl, hl', new hB hap⟩
    rw [List.getElem?_append_right (by rw [h.1]; exact hi), h.1, e0]
    rfl
/-- What was there lies below. -/
theorem LLs.old {D : Nat} {w : World} {row : Option Nat} {xs : List Value} {ZZ : List (List Int)} (h : LLs D w row xs ZZ) : ∀ (i : Nat) (B : Option Addr) (l c g off : Nat), xs[i]? = some (Value.slice B l c) → 0 < l → B = some ⟨g, off, none⟩ → g < w.heap.size := fun i B l c g off hx hl e => by
  have hi : i < ZZ.length := by rw [← h.1]; exact (List.getElem?_eq_some_iff.1 hx).1
  obtain ⟨B1, l1, c1, e1, e2, _⟩ := h.2 i _ (List.getElem?_eq_getElem hi)
  rw [hx] at e1
  simp only [Option.some.injEq, Value.slice.injEq] at e1
  obtain ⟨rfl, rfl, rfl⟩ := e1
  obtain ⟨g2, off2, e3, _, hlt, _⟩ := e2.2 hl
  rw [e] at e3
  simp only [Option.some.injEq, Addr.mk.injEq, and_true] at e3
  omega
theorem LLp.more {xs : List Value} {E l c : Nat} {B : Option Addr} (h : LLp xs) (ho : ∀ (i : Nat) (B : Option Addr) (l c g off : Nat), xs[i]? = some (Value.slice B l c) → 0 < l → B = some ⟨g, off, none⟩ → g < E) (hn : ∀ g off, 0 < l → B = some ⟨g, off, none⟩ → E ≤ g) : LLp (xs ++ [.slice B l c]) := by
  have last : ∀ {i : Nat} {B1 : Option Addr} {l1 c1 : Nat}, ¬ i < xs.length → (xs ++ [Value.slice B l c])[i]? = some (Value.slice B1 l1 c1) → i = xs.length ∧ B1 = B ∧ l1 = l := fun {i B1 l1 c1} hi hx => by
    rw [List.getElem?_append_right (by omega)] at hx
    have e0 : i - xs.length = 0 := by
      have := (List.getElem?_eq_some_iff.1 hx).1
      simp at this
      omega
    rw [e0] at hx
    simp at hx
    exact ⟨by omega, hx.1.symm, hx.2.1.symm⟩
  intro i j B1 l1 c1 B2 l2 c2 hij h1 h2 g off g' off' hl1 hl2 e1 e2
  by_cases hi : i < xs.length
  · rw [List.getElem?_append_left hi] at h1
    by_cases hj : j < xs.length
    · rw [List.getElem?_append_left hj] at h2
      exact h i j B1 l1 c1 B2 l2 c2 hij h1 h2 g off g' off' hl1 hl2 e1 e2
    · obtain ⟨_, rfl, rfl⟩ := last hj h2
      have := ho i B1 l1 c1 g off h1 hl1 e1
      have := hn g' off' hl2 e2
      omega
  · obtain ⟨hi2, rfl, rfl⟩ := last hi h1
    by_cases hj : j < xs.length
    · rw [List.getElem?_append_left hj] at h2
      have := ho j B2 l2 c2 g' off' h2 hl2 e2
      have := hn g off hl1 e1
      omega
    · obtain ⟨hj2, _⟩ := last hj h2
      omega

end Go.Proofs.Ytajoimopahibcaa



/- ClassesOf of the program. -/
namespace Go.Proofs.Ytajoimopahibcaa
open Go.RowKit Go.Shelf
set_option maxRecDepth 100000

end Go.Proofs.Ytajoimopahibcaa



/- The reading side's copy of a slice of slices. -/
namespace Go.Proofs.Ytajoimopahibcaa
open Go.RowKit Go.Shelf
set_option maxRecDepth 100000

/-- A slice of slices of ints that can be read, none perhaps. -/
def LLr (w : World) (v : Value) (ZZ : List (List Int)) : Prop := ∃ A cap, v = .slice A ZZ.length cap ∧ ∀ (i : Nat) (Z : List Int), ZZ[i]? = some Z → ∃ (g : Nat) (B : Option Addr) (c : Nat), A = some ⟨g, 0, none⟩ ∧ g < w.heap.size ∧ w.cell? ⟨g, i, none⟩ = some (.slice B Z.length c) ∧ Z.length ≤ c ∧ Z.length ≤ 1048570 ∧ Ints w w.heap.size B Z.length Z
theorem LLr.next {w w' : World} {v : Value} {ZZ : List (List Int)} (h : LLr w v ZZ) (hb : Below w.heap.size w w') : LLr w' v ZZ := by
  obtain ⟨A, cap, e, h3⟩ := h
  refine ⟨A, cap, e, fun i Z hZ => ?_⟩
  obtain ⟨g, B, c, e0, h2, e1, e2, e3, e4⟩ := h3 i Z hZ
  exact ⟨g, B, c, e0, Nat.lt_of_lt_of_le h2 hb.size, (hb.cell (p := ⟨g, i, none⟩) h2).trans e1, e2, e3, e4.next hb⟩
end Go.Proofs.Ytajoimopahibcaa

