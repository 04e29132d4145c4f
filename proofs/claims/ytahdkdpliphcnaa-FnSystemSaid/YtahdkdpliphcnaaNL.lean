/- Texts of this seat in one: D0 CO. -/
import Derived.Test.YtahdkdpliphcnaaMB
import Derived.ProofKit
import Derived.Lib.SmallJoins
import Derived.Test.YtahdkdpliphcnaaNI
import Derived.Test.YtahdkdpliphcnaaMV
import Derived.Test.YtahdkdpliphcnaaNH
import Derived.Test.YtahdkdpliphcnaaNG
import Derived.Deep.Matrix

/- What every law's row is made of: one ring that came in. -/
namespace Go.Proofs.Ytahdkdpliphcnaa
open Go.ChangeShapes Go.WideShapes Go.ChangeAt Go.RowKit Go.Joins
set_option maxRecDepth 100000

theorem Try.own : ownKnob Try.prog.godebug = none := by kernel_rfl
theorem Try.laidOut : laidOutB Try.prog = true := by kernel_rfl
section
variable {H : Type} {enc : TypeId × Value → H} {w : World}
end

end Go.Proofs.Ytahdkdpliphcnaa



/- Laws over slices of slices that come in: their sizes, their copies, equality, marks. -/
namespace Go.Proofs.Ytahdkdpliphcnaa
open Go.RowKit Go.Shelf
set_option maxRecDepth 100000

/-- Nothing has turned but the places of these slices. -/
def ButAll (w w' : World) (n : Nat) (Bs : Nat → Option Addr) (ls : Nat → Nat) : Prop := w'.heap.size = w.heap.size ∧ ∀ p, (∀ i, i < n → ¬ InS (Bs i) (ls i) p) → w'.cell? p = w.cell? p ∧ w'.frozen? p = w.frozen? p
theorem ButAll.refl {w : World} {n : Nat} {Bs : Nat → Option Addr} {ls : Nat → Nat} : ButAll w w n Bs ls := ⟨rfl, fun _ _ => ⟨rfl, rfl⟩⟩
theorem ButAll.more {w w' w'' : World} {n y : Nat} {Bs : Nat → Option Addr} {ls : Nat → Nat} (h : ButAll w w' n Bs ls) (hy : y < n) (hb : ButIn w' w'' (Bs y) (ls y)) : ButAll w w'' n Bs ls :=
  ⟨hb.1.trans h.1, fun p hp => ⟨(hb.2 p (hp y hy)).1.trans (h.2 p hp).1, (hb.2 p (hp y hy)).2.trans (h.2 p hp).2⟩⟩
/-- A slice of slices of the call's own, by its lists' places. -/
def LLn (D n : Nat) (w : World) (A : Option Addr) (Bs : Nat → Option Addr) (cs ls : Nat → Nat) (F : Nat → List Int) : Prop :=
  ∀ i, i < n → ∃ g, A = some ⟨g, 0, none⟩ ∧ D ≤ g ∧ g < w.heap.size ∧ w.cell? ⟨g, i, none⟩ = some (.slice (Bs i) (ls i) (cs i)) ∧ ls i ≤ cs i ∧ ls i ≤ 1048576 ∧ Own w D (Bs i) (ls i) (F i) ∧ ∀ p : Addr, p.block = g → ¬ InS (Bs i) (ls i) p
theorem LLn.next {D n : Nat} {w w' : World} {A : Option Addr} {Bs : Nat → Option Addr} {cs ls : Nat → Nat} {F : Nat → List Int} (h : LLn D n w A Bs cs ls F) (hb : Below w.heap.size w w') : LLn D n w' A Bs cs ls F := fun i hi => by
  obtain ⟨g, e, h0, h1, h2, h3, h4, h5, h6⟩ := h i hi
  exact ⟨g, e, h0, Nat.lt_of_lt_of_le h1 hb.size, (hb.cell (p := ⟨g, i, none⟩) h1).trans h2, h3, h4, h5.next hb, h6⟩
theorem LLn.keep {D n : Nat} {w w' : World} {A : Option Addr} {Bs : Nat → Option Addr} {cs ls : Nat → Nat} {F : Nat → List Int} (h : LLn D n w A Bs cs ls F) (hs : w.heap.size ≤ w'.heap.size) (hk : ∀ p : Addr, D ≤ p.block → p.block < w.heap.size → w'.cell? p = w.cell? p ∧ w'.frozen? p = w.frozen? p) : LLn D n w' A Bs cs ls F := fun i hi => by
  obtain ⟨g, e, h0, h1, h2, h3, h4, h5, h6⟩ := h i hi
  exact ⟨g, e, h0, Nat.lt_of_lt_of_le h1 hs, (hk ⟨g, i, none⟩ h0 h1).1.trans h2, h3, h4, h5.keep hs hk, h6⟩

theorem LLn.marked {D n g1 g2 k1 k2 : Nat} {w w' : World} {A : Option Addr} {Bs : Nat → Option Addr} {cs ls : Nat → Nat} {F : Nat → List Int} (h : LLn D n w A Bs cs ls F) (hs : w.heap.size ≤ w'.heap.size)
    (hk : ∀ p : Addr, p.block < w.heap.size → ¬ InS (some ⟨g1, 0, none⟩) k1 p → ¬ InS (some ⟨g2, 0, none⟩) k2 p → w'.cell? p = w.cell? p ∧ w'.frozen? p = w.frozen? p) (h1 : g1 < D) (h2 : g2 < D) : LLn D n w' A Bs cs ls F :=
  h.keep hs fun p hD hp => hk p hp (not_inS (by omega)) (not_inS (by omega))
theorem LLn.rws {D : Nat} {w : World} {A : Option Addr} {Bs : Nat → Option Addr} {cs : Nat → Nat} {RR : List (List Int)} (cap : Nat) (h : LLn D RR.length w A Bs cs (lsZ RR) (fZ RR)) : Rws w w.heap.size (.slice A RR.length cap) RR :=
  ⟨A, cap, rfl, fun i Z hZ => by
    have hi : i < RR.length := (List.getElem?_eq_some_iff.1 hZ).1
    obtain ⟨g, e, _, h1, h2, h3, h4, h5, _⟩ := h i hi
    have e1 := fZ_some hZ
    have e2 : lsZ RR i = Z.length := by unfold lsZ; rw [e1]
    rw [e2] at h2 h3 h4 h5
    rw [e1] at h5
    exact ⟨g, 0, Bs i, cs i, e, h1, by rw [Nat.zero_add]; exact h2, h3, by omega, h5.ints⟩⟩

/-- The copy of a slice of slices. -/
def CpyR (D E : Nat) (w : World) (RR : List (List Int)) : Prop :=
  ∃ Bs : Nat → Option Addr, LLn D RR.length w (some ⟨D, 0, none⟩) Bs (lsZ RR) (lsZ RR) (fZ RR) ∧ (∀ i j, i < RR.length → j < RR.length → i ≠ j → Apart (Bs i) (lsZ RR i) (Bs j) (lsZ RR j)) ∧ ∀ i, i < RR.length → ∀ p, InS (Bs i) (lsZ RR i) p → p.block < E
theorem CpyR.next {D E : Nat} {w w' : World} {RR : List (List Int)} (h : CpyR D E w RR) (hb : Below w.heap.size w w') : CpyR D E w' RR := by
  obtain ⟨Bs, h1, h2, h3⟩ := h
  exact ⟨Bs, h1.next hb, h2, h3⟩
theorem CpyR.rws {D E : Nat} {w : World} {RR : List (List Int)} (h : CpyR D E w RR) : Rws w w.heap.size (.slice (some ⟨D, 0, none⟩) RR.length RR.length) RR := by
  obtain ⟨Bs, h1, _, _⟩ := h
  exact h1.rws _
theorem CpyR.marked {D E g1 g2 k1 k2 : Nat} {w w' : World} {RR : List (List Int)} (h : CpyR D E w RR) (hs : w.heap.size ≤ w'.heap.size)
    (hk : ∀ p : Addr, p.block < w.heap.size → ¬ InS (some ⟨g1, 0, none⟩) k1 p → ¬ InS (some ⟨g2, 0, none⟩) k2 p → w'.cell? p = w.cell? p ∧ w'.frozen? p = w.frozen? p) (h1 : g1 < D) (h2 : g2 < D) : CpyR D E w' RR := by
  obtain ⟨Bs, a1, a2, a3⟩ := h
  exact ⟨Bs, a1.marked hs hk h1 h2, a2, a3⟩
section
open Go.ChangeShapes Go.WideShapes Go.ChangeAt Go.Joins
variable {H : Type} {enc : TypeId × Value → H} {w : World}
end

end Go.Proofs.Ytahdkdpliphcnaa

