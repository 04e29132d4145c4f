/- Texts of this seat in one: R2 R3. -/
import Derived.Test.YtahdkdpliphcnaaMC
import Derived.Test.YtahdkdpliphcnaaMB

/- Rings that a call hands out, with the blocks of empty slices. -/
namespace Go.Proofs.Ytahdkdpliphcnaa
open Go.RowKit
set_option maxRecDepth 100000

/-- A ring whose memory is the call's own, the blocks of empty slices too. -/
def RingOutB (D : Nat) (w : World) (v : Value) (n o : Int) (X Y : List Int) : Prop :=
  ∃ (A : Option Addr) (la ca : Nat) (B : Option Addr) (lb cb : Nat), v = .agg #[.int .i64 n, .int .i64 o, .slice A la ca, .slice B lb cb] ∧ Own w D A la X ∧ Own w D B lb Y ∧ (Apart A la B lb ∧ la ≤ 1048570 ∧ lb ≤ 1048570 ∧ la + lb ≤ 1048570 ∧ la ≤ ca ∧ lb ≤ cb) ∧ (∀ a, A = some a → D ≤ a.block ∧ a.block < w.heap.size) ∧ (∀ a, B = some a → D ≤ a.block ∧ a.block < w.heap.size)
theorem RingOutB.zero {D : Nat} {w : World} : RingOutB D w (.agg #[.int .i64 0, .int .i64 0, .slice none 0 0, .slice none 0 0]) 0 0 [] [] :=
  ⟨none, 0, 0, none, 0, 0, rfl, Own.nil, Own.nil, ⟨fun p h => (by obtain ⟨_, _, _, e, _⟩ := h; cases e), by omega, by omega, by omega, by omega, by omega⟩, fun _ h => (by cases h), fun _ h => (by cases h)⟩
theorem RingOutB.next {D : Nat} {w w' : World} {v : Value} {n o : Int} {X Y : List Int} (h : RingOutB D w v n o X Y) (hb : Below w.heap.size w w') : RingOutB D w' v n o X Y := by
  obtain ⟨A, la, ca, B, lb, cb, e, h1, h2, h3, h4, h5⟩ := h
  exact ⟨A, la, ca, B, lb, cb, e, h1.next hb, h2.next hb, h3, fun a ha => ⟨(h4 a ha).1, Nat.lt_of_lt_of_le (h4 a ha).2 hb.size⟩, fun a ha => ⟨(h5 a ha).1, Nat.lt_of_lt_of_le (h5 a ha).2 hb.size⟩⟩
theorem RingOutB.lower {D D' : Nat} {w : World} {v : Value} {n o : Int} {X Y : List Int} (h : RingOutB D w v n o X Y) (hD : D' ≤ D) : RingOutB D' w v n o X Y := by
  obtain ⟨A, la, ca, B, lb, cb, e, h1, h2, h3, h4, h5⟩ := h
  exact ⟨A, la, ca, B, lb, cb, e, h1.lower hD, h2.lower hD, h3, fun a ha => ⟨Nat.le_trans hD (h4 a ha).1, (h4 a ha).2⟩, fun a ha => ⟨Nat.le_trans hD (h5 a ha).1, (h5 a ha).2⟩⟩
end Go.Proofs.Ytahdkdpliphcnaa



/- Boxes of rings, and what marks leave of them. -/
namespace Go.Proofs.Ytahdkdpliphcnaa
open Go.RowKit
set_option maxRecDepth 100000

/-- Four cells of a box. -/
def C4 (w : World) (b : Nat) (v0 v1 v2 v3 : Value) : Prop := b < w.heap.size ∧ w.cell? ⟨b, 0, none⟩ = some v0 ∧ w.cell? ⟨b, 1, none⟩ = some v1 ∧ w.cell? ⟨b, 2, none⟩ = some v2 ∧ w.cell? ⟨b, 3, none⟩ = some v3
theorem C4.of {w : World} {b : Nat} {t : TypeId} {v0 v1 v2 v3 : Value} (h : Blk w b t #[v0, v1, v2, v3]) : C4 w b v0 v1 v2 v3 := ⟨h.lt, h.cell 0, h.cell 1, h.cell 2, h.cell 3⟩
theorem C4.next {w w' : World} {b : Nat} {v0 v1 v2 v3 : Value} (h : C4 w b v0 v1 v2 v3) (hb : Below w.heap.size w w') : C4 w' b v0 v1 v2 v3 :=
  ⟨Nat.lt_of_lt_of_le h.1 hb.size, (hb.cell h.1).trans h.2.1, (hb.cell h.1).trans h.2.2.1, (hb.cell h.1).trans h.2.2.2.1, (hb.cell h.1).trans h.2.2.2.2⟩
theorem C4.below {w w' : World} {b D : Nat} {v0 v1 v2 v3 : Value} (h : C4 w b v0 v1 v2 v3) (hb : Below D w w') (hD : b < D) : C4 w' b v0 v1 v2 v3 :=
  ⟨Nat.lt_of_lt_of_le h.1 hb.size, (hb.cell hD).trans h.2.1, (hb.cell hD).trans h.2.2.1, (hb.cell hD).trans h.2.2.2.1, (hb.cell hD).trans h.2.2.2.2⟩
theorem C4.keep {w w' : World} {b : Nat} {v0 v1 v2 v3 : Value} (h : C4 w b v0 v1 v2 v3) (hs : w.heap.size ≤ w'.heap.size) (hk : ∀ p : Addr, p.block = b → w'.cell? p = w.cell? p) : C4 w' b v0 v1 v2 v3 :=
  ⟨Nat.lt_of_lt_of_le h.1 hs, (hk _ rfl).trans h.2.1, (hk _ rfl).trans h.2.2.1, (hk _ rfl).trans h.2.2.2.1, (hk _ rfl).trans h.2.2.2.2⟩
theorem Own.keep {w w' : World} {D n : Nat} {A : Option Addr} {xs : List Int} (h : Own w D A n xs) (hs : w.heap.size ≤ w'.heap.size) (hk : ∀ p : Addr, D ≤ p.block → p.block < w.heap.size → w'.cell? p = w.cell? p ∧ w'.frozen? p = w.frozen? p) : Own w' D A n xs :=
  ⟨h.1, fun hn => by
    obtain ⟨g, off, e, hD, hg, hc⟩ := h.2 hn
    exact ⟨g, off, e, hD, Nat.lt_of_lt_of_le hg hs, fun k hkk => ⟨(hk ⟨g, off + k, none⟩ hD hg).1.trans (hc k hkk).1, (hk ⟨g, off + k, none⟩ hD hg).2.trans (hc k hkk).2⟩⟩⟩
theorem not_inS {p : Addr} {g k : Nat} (h : p.block ≠ g) : ¬ InS (some ⟨g, 0, none⟩) k p := by
  rintro ⟨q, off, j, e, _, rfl⟩
  simp only [Option.some.injEq, Addr.mk.injEq, and_true] at e
  exact h e.1.symm
/-- What the marks of a ring leave of a box. -/
theorem C4.marked {w w' : World} {b g1 g2 k1 k2 : Nat} {v0 v1 v2 v3 : Value} (h : C4 w b v0 v1 v2 v3) (hs : w.heap.size ≤ w'.heap.size)
    (hk : ∀ p : Addr, p.block < w.heap.size → ¬ InS (some ⟨g1, 0, none⟩) k1 p → ¬ InS (some ⟨g2, 0, none⟩) k2 p → w'.cell? p = w.cell? p ∧ w'.frozen? p = w.frozen? p) (h1 : b ≠ g1) (h2 : b ≠ g2) : C4 w' b v0 v1 v2 v3 :=
  h.keep hs fun p hp => (hk p (by rw [hp]; exact h.1) (not_inS (by rw [hp]; exact h1)) (not_inS (by rw [hp]; exact h2))).1
end Go.Proofs.Ytahdkdpliphcnaa

