/- Texts of this seat in one: PA PB PC PD PE PF PG PP. -/
import Derived.Test.YtahdkdpliphcnaaMN
import Derived.Test.YtahdkdpliphcnaaMO
import Derived.Maps.AppendAt
import Derived.Test.YtahdkdpliphcnaaMC
import Derived.Test.YtahdkdpliphcnaaMG

/- Plain facts: the classes of elements by an ideal. No program in sight. -/
namespace Go.Proofs.Ytahdkdpliphcnaa
open Go.RowKit

section
variable {m e : Nat} {S P : Nat → Nat} {p : Nat → Bool}
/-! ### names -/
end
end Go.Proofs.Ytahdkdpliphcnaa



/- A slice of slices of ints that the call itself makes, one element after another. -/
namespace Go.Proofs.Ytahdkdpliphcnaa
open Go.RowKit Go.Shelf
set_option maxRecDepth 100000

theorem sl_info : (Try.prog.info? 22).map (fun i => (i.zero, i.size, i.bytes)) = some (some (.slice none 0 0), 1, 24) := by kernel_rfl
/-- These values are slices of the call's own, with these contents, and none lies in the row that holds them. -/
def LLs (D : Nat) (w : World) (row : Option Nat) (xs : List Value) (ZZ : List (List Int)) : Prop :=
  xs.length = ZZ.length ∧ ∀ (i : Nat) (Z : List Int), ZZ[i]? = some Z → ∃ (B : Option Addr) (l c : Nat), xs[i]? = some (Value.slice B l c) ∧ Own w D B l Z ∧ l ≤ c ∧ l ≤ 1048570 ∧ ∀ (g off : Nat), 0 < l → B = some ⟨g, off, none⟩ → row ≠ some g
/-- A slice of slices of ints of the call's own. -/
def LLo (D : Nat) (w : World) (v : Value) (ZZ : List (List Int)) : Prop := ∃ xs, w.ownsRow D 22 1 v ZZ.length xs ∧ LLs D w v.ownBlock xs ZZ

theorem Own.grown_ {D n : Nat} {A : Option Addr} {xs : List Int} {w w' : World} {row : Option Nat} (h : Own w D A n xs) (hg : w.grownBy w' row) (hap : ∀ g off, 0 < n → A = some ⟨g, off, none⟩ → row ≠ some g) : Own w' D A n xs :=
  ⟨h.1, fun hn => by
    obtain ⟨g, off, e, hD, hlt, hc⟩ := h.2 hn
    have hb : w'.heap[g]? = w.heap[g]? := hg.block g hlt (fun e' => hap g off hn e e'.symm)
    refine ⟨g, off, e, hD, Nat.lt_of_lt_of_le hlt hg.size, fun k hk => ?_⟩
    rw [World.cell?_of_block (a := ⟨g, off + k, none⟩) hb, World.frozen?_of_block (a := ⟨g, off + k, none⟩) hb]
    exact hc k hk⟩
theorem LLs.next {D : Nat} {w w' : World} {row : Option Nat} {xs : List Value} {ZZ : List (List Int)} (h : LLs D w row xs ZZ) (hb : Below w.heap.size w w') : LLs D w' row xs ZZ :=
  ⟨h.1, fun i Z hZ => by obtain ⟨B, l, c, h1, h2, h3⟩ := h.2 i Z hZ; exact ⟨B, l, c, h1, h2.next hb, h3⟩⟩
theorem LLo.next {D : Nat} {w w' : World} {v : Value} {ZZ : List (List Int)} (h : LLo D w v ZZ) (hb : Below w.heap.size w w') : LLo D w' v ZZ := by
  obtain ⟨xs, h1, h2⟩ := h
  exact ⟨xs, own_nextK h1 hb, h2.next hb⟩
theorem LLo.empty {D : Nat} {w : World} {v : Value} (h : w.ownsRow D 22 1 v 0 []) : LLo D w v [] := ⟨[], h, rfl, fun i Z hZ => by simp at hZ⟩
/-- One more. -/
theorem LLo.more {D l c : Nat} {w w' : World} {v v' : Value} {xs : List Value} {ZZ : List (List Int)} {Z : List Int} {B : Option Addr} {o : Obj} (_hv : w.ownsRow D 22 1 v ZZ.length xs) (h : LLs D w v.ownBlock xs ZZ) (hB : Own w D B l Z) (hl : l ≤ c) (hl' : l ≤ 1048570)
    (hap : ∀ g off, 0 < l → B = some ⟨g, off, none⟩ → v.ownBlock ≠ some g) (hw' : w'.ownsRow D 22 1 v' (ZZ.length + 1) (xs ++ [.slice B l c])) (hg : (w.alloc o).grownBy w' v.ownBlock) (hloc : v'.ownBlock = v.ownBlock ∨ v'.ownBlock = some (w.alloc o).heap.size) : LLo D w' v' (ZZ ++ [Z]) := by
  have hg0 : w.grownBy w' v.ownBlock := ⟨hg.os, hg.tape, hg.output, Nat.le_trans (by simp) hg.size, fun k hk hr => (hg.block k (by simp; omega) hr).trans (Below.heap_alloc w o k hk)⟩
  have new : ∀ {B : Option Addr} {n : Nat} {Z : List Int}, Own w D B n Z → (∀ g off, 0 < n → B = some ⟨g, off, none⟩ → v.ownBlock ≠ some g) → ∀ g off, 0 < n → B = some ⟨g, off, none⟩ → v'.ownBlock ≠ some g := fun {B n Z} hO hA g off hn e e' => by
    rcases hloc with h1 | h1
    · exact hA g off hn e (h1 ▸ e')
    · obtain ⟨g2, off2, e2, _, hlt, _⟩ := hO.2 hn
      rw [e] at e2
      simp only [Option.some.injEq, Addr.mk.injEq, and_true] at e2
      rw [h1] at e'
      simp at e'
      omega
  refine ⟨xs ++ [.slice B l c], by simpa using hw', by simp [h.1], fun i Y hY => ?_⟩
  rcases Nat.lt_or_ge i ZZ.length with hi | hi
  · rw [List.getElem?_append_left hi] at hY
    obtain ⟨B1, l1, c1, e1, e2, e3, e4, e5⟩ := h.2 i Y hY
    exact ⟨B1, l1, c1, by rw [List.getElem?_append_left (by rw [h.1]; exact hi)]; exact e1, e2.grown_ hg0 e5, e3, e4, new e2 e5⟩
  · rw [List.getElem?_append_right hi] at hY
    have e0 : i - ZZ.length = 0 := by
      have := (List.getElem?_eq_some_iff.1 hY).1
      simp at this
      omega
    rw [e0] at hY
    simp at hY
    subst hY
    refine ⟨B, l, c, ?_, hB.grown_ hg0 hap, hl, hl', new hB hap⟩
    rw [List.getElem?_append_right (by rw [h.1]; exact hi), h.1, e0]
    rfl

/-- A slice of slices of ints that can be read. -/
def LLi (w : World) (v : Value) (ZZ : List (List Int)) : Prop := ∃ g cap, v = .slice (some ⟨g, 0, none⟩) ZZ.length cap ∧ ZZ.length ≤ cap ∧ g < w.heap.size ∧ ∀ (i : Nat) (Z : List Int), ZZ[i]? = some Z → ∃ (B : Option Addr) (c : Nat), w.cell? ⟨g, i, none⟩ = some (.slice B Z.length c) ∧ Z.length ≤ c ∧ Z.length ≤ 1048570 ∧ Ints w w.heap.size B Z.length Z
theorem LLi.next {w w' : World} {v : Value} {ZZ : List (List Int)} (h : LLi w v ZZ) (hb : Below w.heap.size w w') : LLi w' v ZZ := by
  obtain ⟨g, cap, e, h1, h2, h3⟩ := h
  refine ⟨g, cap, e, h1, Nat.lt_of_lt_of_le h2 hb.size, fun i Z hZ => ?_⟩
  obtain ⟨B, c, e1, e2, e3, e4⟩ := h3 i Z hZ
  exact ⟨B, c, (hb.cell (p := ⟨g, i, none⟩) h2).trans e1, e2, e3, e4.next hb⟩
theorem LLo.read {D : Nat} {w : World} {v : Value} {ZZ : List (List Int)} (h : LLo D w v ZZ) (hn : 1 ≤ ZZ.length) : LLi w v ZZ := by
  obtain ⟨xs, h1, h2⟩ := h
  rcases h1.2 with ⟨_, h0⟩ | ⟨g, cap, cur, rfl, hg, hb, hc, _, hs, ht⟩
  · omega
  · have hb' : Blk w g 22 cur := hb
    refine ⟨g, cap, rfl, hc, hb'.lt, fun i Z hZ => ?_⟩
    obtain ⟨B, l, c, e1, e2, e3, e4, _⟩ := h2.2 i Z hZ
    have hl := e2.1
    have hi : i < ZZ.length := (List.getElem?_eq_some_iff.1 hZ).1
    refine ⟨B, c, ?_, by rw [hl]; exact e3, by rw [hl]; exact e4, by rw [hl]; exact e2.ints⟩
    rw [hb'.cell i, hl]
    have e5 : cur.toList[i]? = xs[i]? := by rw [← ht, List.getElem?_take]; simp; omega
    rw [← Array.getElem?_toList, e5, e1]

end Go.Proofs.Ytahdkdpliphcnaa



/- l5Classes of the reading side. -/
namespace Go.Proofs.Ytahdkdpliphcnaa
open Go.RowKit Go.Shelf
set_option maxRecDepth 100000

section
variable {m k : Nat} {S : Nat → Nat} {p : Nat → Bool}
end

end Go.Proofs.Ytahdkdpliphcnaa



/- l5Map of the reading side: the index of the class of each element. -/
namespace Go.Proofs.Ytahdkdpliphcnaa
open Go.RowKit Go.Shelf
set_option maxRecDepth 100000

section
variable {m : Nat} {f h : Nat → Nat}
end
section
variable {m e i : Nat} {S P : Nat → Nat} {p : Nat → Bool}
end

end Go.Proofs.Ytahdkdpliphcnaa



/- An append to a row of the call's own inside a region that draws its order. -/
namespace Go.Proofs.Ytahdkdpliphcnaa
open Go.RowKit Go.Shelf
set_option maxRecDepth 100000

def numL (k : Nat) (f : Nat → Nat) : List Int := (List.range k).map fun j => (f j : Int)
def numV (k : Nat) (f : Nat → Nat) : List Value := (numL k f).map (.int .i64)
section
variable {k : Nat} {f : Nat → Nat}
end
def OwnK (D k : Nat) (f : Nat → Nat) (v : Value) (w : World) : Prop := w.ownsRow D 3 1 v k (numV k f)
theorem addr_add (b off j : Nat) : (⟨b, off, none⟩ : Addr).add j = ⟨b, off + j, none⟩ := by simp [Addr.add]
/-! ### what the region asks of its makers -/
def ApR (row : Option Nat) (D k : Nat) (f : Nat → Nat) (w w' : World) : Prop := w.grownBy w' row ∧ (∀ v, OwnK D (k + 1) f v w → OwnK D (k + 1) f v w') ∧ ∀ v, OwnK D k f v w → OwnK D k f v w'
section
variable {row : Option Nat} {D k : Nat} {f : Nat → Nat}
theorem grownBy_refl (w : World) : w.grownBy w row := ⟨rfl, rfl, rfl, Nat.le_refl _, fun _ _ _ => rfl⟩
theorem grownBy_trans {a b c : World} (h : a.grownBy b row) (h' : b.grownBy c row) : a.grownBy c row :=
  ⟨h'.os.trans h.os, h'.tape.trans h.tape, h'.output.trans h.output, Nat.le_trans h.size h'.size, fun j hj hr => (h'.block j (Nat.lt_of_lt_of_le hj h.size) hr).trans (h.block j hj hr)⟩
theorem grownBy_below {a b : World} (h : Below a.heap.size a b) : a.grownBy b row := ⟨h.os, h.tape, h.output, h.size, fun j hj _ => h.block j hj⟩
theorem ApR.refl (w : World) : ApR row D k f w w := ⟨grownBy_refl w, fun _ h => h, fun _ h => h⟩
theorem ApR.trans (a b c : World) (h : ApR row D k f a b) (h' : ApR row D k f b c) : ApR row D k f a c := ⟨grownBy_trans h.1 h'.1, fun v hv => h'.2.1 v (h.2.1 v hv), fun v hv => h'.2.2 v (h.2.2 v hv)⟩
theorem ApR.of_below {w w' : World} (hb : Below w.heap.size w w') : ApR row D k f w w' := ⟨grownBy_below hb, fun _ h => own_nextK h hb, fun _ h => own_nextK h hb⟩
theorem ApR.drew (w : World) : ApR row D k f w w.drew := ApR.of_below (Below.refl _ _).drew
end
section
variable {row : Option Nat} {D D0 k c : Nat} {f : Nat → Nat}
end
end Go.Proofs.Ytahdkdpliphcnaa



/- l5Quotient of the reading side: the ring of the classes. -/
namespace Go.Proofs.Ytahdkdpliphcnaa
open Go.RowKit Go.Shelf
set_option maxRecDepth 100000

section
variable {m e : Nat} {S P : Nat → Nat} {p : Nat → Bool}
end

end Go.Proofs.Ytahdkdpliphcnaa



/- QuotientRing of the reading side. -/
namespace Go.Proofs.Ytahdkdpliphcnaa
open Go.RowKit Go.Shelf
set_option maxRecDepth 100000

end Go.Proofs.Ytahdkdpliphcnaa



/- PushIdeal of the reading side. -/
namespace Go.Proofs.Ytahdkdpliphcnaa
open Go.RowKit Go.Shelf
set_option maxRecDepth 100000

end Go.Proofs.Ytahdkdpliphcnaa

