/- Texts of this seat in one: R2. -/
import Derived.Test.YtlcpbdbdiahmjaaMC

/- Rings that a call hands out, with the blocks of empty slices. -/
namespace Go.Proofs.Ytlcpbdbdiahmjaa
open Go.RowKit
set_option maxRecDepth 100000

/-- A ring whose memory is the call's own, the blocks of empty slices too. -/
def RingOutB (D : Nat) (w : World) (v : Value) (n o : Int) (X Y : List Int) : Prop :=
  ∃ (A : Option Addr) (la ca : Nat) (B : Option Addr) (lb cb : Nat), v = .agg #[.int .i64 n, .int .i64 o, .slice A la ca, .slice B lb cb] ∧ Own w D A la X ∧ Own w D B lb Y ∧ (Apart A la B lb ∧ la ≤ 1048570 ∧ lb ≤ 1048570 ∧ la + lb ≤ 1048570 ∧ la ≤ ca ∧ lb ≤ cb) ∧ (∀ a, A = some a → D ≤ a.block ∧ a.block < w.heap.size) ∧ (∀ a, B = some a → D ≤ a.block ∧ a.block < w.heap.size)
theorem RingOutB.zero {D : Nat} {w : World} : RingOutB D w (.agg #[.int .i64 0, .int .i64 0, .slice none 0 0, .slice none 0 0]) 0 0 [] [] :=
  ⟨none, 0, 0, none, 0, 0, rfl, Own.nil, Own.nil, ⟨fun p h => (by obtain ⟨_, _, _, e, _⟩ := h; cases e), by omega, by omega, by omega, by omega, by omega⟩, fun _ h => (by cases h), fun _ h => (by cases h)⟩
theorem RingOutB.next {D : Nat} {w w' : World} {v : Value} {n o : Int} {X Y : List Int} (h : RingOutB D w v n o X Y) (hb : Below w.heap.size w w') : RingOutB D w' v n o X Y := by
  obtain ⟨A, la, ca, B, lb, cb, e, h1, h2, h3, h4, h5⟩ := h
  exact ⟨A, la, ca, B, lb, cb, e, h1.next hb, h2.next hb, h3, fun a ha => ⟨(h4 a ha).1, Nat.lt_of_lt_of_le (h4 a ha).2 hb.size⟩, fun a ha => ⟨(h5 a ha).1, Nat.lt_of_lt_of_le (h5 a ha).2 hb.size⟩⟩
theorem RingOutB.lower {D D' : Nat} {w : World} {v : Value} {n o : Int} {X Y : List Int} (h : RingOutB D w v n o X Y) (hD : D' ≤ D) : RingOutB D' w v n o X Y := by
  obtain ⟨A, la, ca, B, lb, cb, e, h1, h2, h3, h4, h5⟩ := h
  exact ⟨A, la, ca, B, lb, cb, e, h1.lower hD, h2.lower hD, h3, fun a ha => ⟨Nat.le_trans hD (h4 a ha).1, (h4 a ha).2⟩, fun a ha => ⟨Nat.le_trans hD (h5 a ha).1, (h5 a ha).2⟩⟩
end Go.Proofs.Ytlcpbdbdiahmjaa

