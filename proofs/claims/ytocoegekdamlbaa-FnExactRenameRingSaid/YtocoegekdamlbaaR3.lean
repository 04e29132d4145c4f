
/- Boxes of rings, and what marks leave of them. -/
import Derived.Test.YtocoegekdamlbaaR2
import Derived.Test.YtocoegekdamlbaaC5
namespace Go.Proofs.Ytocoegekdamlbaa
open Go.RowKit
set_option maxRecDepth 100000

/-- Four cells of a box. -/
def C4 (w : World) (b : Nat) (v0 v1 v2 v3 : Value) : Prop := b < w.heap.size ∧ w.cell? ⟨b, 0, none⟩ = some v0 ∧ w.cell? ⟨b, 1, none⟩ = some v1 ∧ w.cell? ⟨b, 2, none⟩ = some v2 ∧ w.cell? ⟨b, 3, none⟩ = some v3
theorem C4.of {w : World} {b : Nat} {t : TypeId} {v0 v1 v2 v3 : Value} (h : Blk w b t #[v0, v1, v2, v3]) : C4 w b v0 v1 v2 v3 := ⟨h.lt, h.cell 0, h.cell 1, h.cell 2, h.cell 3⟩
theorem C4.next {w w' : World} {b : Nat} {v0 v1 v2 v3 : Value} (h : C4 w b v0 v1 v2 v3) (hb : Below w.heap.size w w') : C4 w' b v0 v1 v2 v3 :=
  ⟨Nat.lt_of_lt_of_le h.1 hb.size, (hb.cell h.1).trans h.2.1, (hb.cell h.1).trans h.2.2.1, (hb.cell h.1).trans h.2.2.2.1, (hb.cell h.1).trans h.2.2.2.2⟩
theorem C4.below {w w' : World} {b D : Nat} {v0 v1 v2 v3 : Value} (h : C4 w b v0 v1 v2 v3) (hb : Below D w w') (hD : b < D) : C4 w' b v0 v1 v2 v3 :=
  ⟨Nat.lt_of_lt_of_le h.1 hb.size, (hb.cell hD).trans h.2.1, (hb.cell hD).trans h.2.2.1, (hb.cell hD).trans h.2.2.2.1, (hb.cell hD).trans h.2.2.2.2⟩
theorem C4.keep {w w' : World} {b : Nat} {v0 v1 v2 v3 : Value} (h : C4 w b v0 v1 v2 v3) (hs : w.heap.size ≤ w'.heap.size) (hk : ∀ p : Addr, p.block = b → w'.cell? p = w.cell? p) : C4 w' b v0 v1 v2 v3 :=
  ⟨Nat.lt_of_lt_of_le h.1 hs, (hk _ rfl).trans h.2.1, (hk _ rfl).trans h.2.2.1, (hk _ rfl).trans h.2.2.2.1, (hk _ rfl).trans h.2.2.2.2⟩
theorem Own.keep {w w' : World} {D n : Nat} {A : Option Addr} {xs : List Int} (h : Own w D A n xs) (hs : w.heap.size ≤ w'.heap.size) (hk : ∀ p : Addr, D ≤ p.block → p.block < w.heap.size → w'.cell? p = w.cell? p ∧ w'.frozen? p = w.frozen? p) : Own w' D A n xs :=
  ⟨h.1, fun hn => by
    obtain ⟨g, off, e, hD, hg, hc⟩ := h.2 hn
    exact ⟨g, off, e, hD, Nat.lt_of_lt_of_le hg hs, fun k hkk => ⟨(hk ⟨g, off + k, none⟩ hD hg).1.trans (hc k hkk).1, (hk ⟨g, off + k, none⟩ hD hg).2.trans (hc k hkk).2⟩⟩⟩
/-- A slice of the call's own holds no place that was not there. -/
theorem own_old {w : World} {D n : Nat} {A : Option Addr} {xs : List Int} (h : Own w D A n xs) {p : Addr} (hp : w.heap.size ≤ p.block) : ¬ InS A n p := by
  rintro ⟨g, off, j, e, hj, rfl⟩
  obtain ⟨g', off', e', _, hg, _⟩ := h.2 (by omega)
  rw [e] at e'
  simp only [Option.some.injEq, Addr.mk.injEq, and_true] at e'
  have : w.heap.size ≤ g := hp
  omega
theorem own_young {w : World} {D n : Nat} {A : Option Addr} {xs : List Int} (h : Own w D A n xs) {p : Addr} (hp : p.block < D) : ¬ InS A n p := by
  rintro ⟨g, off, j, e, hj, rfl⟩
  obtain ⟨g', off', e', hD, _, _⟩ := h.2 (by omega)
  rw [e] at e'
  simp only [Option.some.injEq, Addr.mk.injEq, and_true] at e'
  have : g < D := hp
  omega
theorem apart_ne {x1 x2 n m : Nat} (h : x1 ≠ x2) : Apart (some ⟨x1, 0, none⟩) n (some ⟨x2, 0, none⟩) m := by
  rintro p ⟨g, off, j, e, _, rfl⟩ ⟨g', off', j', e', _, ep⟩
  have e1 : x1 = g := by simpa using congrArg (fun x => x.map Addr.block) e
  have e2 : x2 = g' := by simpa using congrArg (fun x => x.map Addr.block) e'
  have e3 : g = g' := by injection ep
  exact h (e1.trans (e3.trans e2.symm))
theorem not_inS {p : Addr} {g k : Nat} (h : p.block ≠ g) : ¬ InS (some ⟨g, 0, none⟩) k p := by
  rintro ⟨q, off, j, e, _, rfl⟩
  simp only [Option.some.injEq, Addr.mk.injEq, and_true] at e
  exact h e.1.symm
/-- What the marks of a ring leave of a box. -/
theorem C4.marked {w w' : World} {b g1 g2 k1 k2 : Nat} {v0 v1 v2 v3 : Value} (h : C4 w b v0 v1 v2 v3) (hs : w.heap.size ≤ w'.heap.size)
    (hk : ∀ p : Addr, p.block < w.heap.size → ¬ InS (some ⟨g1, 0, none⟩) k1 p → ¬ InS (some ⟨g2, 0, none⟩) k2 p → w'.cell? p = w.cell? p ∧ w'.frozen? p = w.frozen? p) (h1 : b ≠ g1) (h2 : b ≠ g2) : C4 w' b v0 v1 v2 v3 :=
  h.keep hs fun p hp => (hk p (by rw [hp]; exact h.1) (not_inS (by rw [hp]; exact h1)) (not_inS (by rw [hp]; exact h2))).1
theorem C4.markedI {w w' : World} {b g k : Nat} {v0 v1 v2 v3 : Value} (h : C4 w b v0 v1 v2 v3) (hb : ButIn w w' (some ⟨g, 0, none⟩) k) (h1 : b ≠ g) : C4 w' b v0 v1 v2 v3 :=
  h.keep (by rw [hb.1]; exact Nat.le_refl _) fun p hp => (hb.2 p (not_inS (by rw [hp]; exact h1))).1

end Go.Proofs.Ytocoegekdamlbaa
