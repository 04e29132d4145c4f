
/- Lists that a call hands out: own memory; what the marks of a ring leave of them. -/
import Derived.Test.YtocoegekdamlbaaC4
import Derived.Test.YtocoegekdamlbaaC3
namespace Go.Proofs.Ytocoegekdamlbaa
open Go.RowKit

/-- A list whose memory is the call's own. -/
def SliceOut (D : Nat) (w : World) (v : Value) (Z : List Int) : Prop := ∃ (A : Option Addr) (l c : Nat), v = .slice A l c ∧ Own w D A l Z ∧ l ≤ c ∧ l ≤ 1048570
theorem SliceOut.nil {D : Nat} {w : World} : SliceOut D w (.slice none 0 0) [] := ⟨none, 0, 0, rfl, Own.nil, Nat.le_refl _, by omega⟩
theorem SliceOut.next {D : Nat} {w w' : World} {v : Value} {Z : List Int} (h : SliceOut D w v Z) (hb : Below w.heap.size w w') : SliceOut D w' v Z := by
  obtain ⟨A, l, c, e, h1, h2⟩ := h
  exact ⟨A, l, c, e, h1.next hb, h2⟩
theorem Own.down {w : World} {D D' n : Nat} {A : Option Addr} {xs : List Int} (h : Own w D A n xs) (hD : D' ≤ D) : Own w D' A n xs :=
  ⟨h.1, fun hn => by
    obtain ⟨g, off, e, h1, h2⟩ := h.2 hn
    exact ⟨g, off, e, Nat.le_trans hD h1, h2⟩⟩
theorem SliceOut.down {D D' : Nat} {w : World} {v : Value} {Z : List Int} (h : SliceOut D w v Z) (hD : D' ≤ D) : SliceOut D' w v Z := by
  obtain ⟨A, l, c, e, h1, h2⟩ := h
  exact ⟨A, l, c, e, h1.down hD, h2⟩
theorem SliceOut.of_row {D n : Nat} {w : World} {v : Value} {Z : List Int} {T : TypeId} (h : w.ownsRow D T 1 v n (Z.map (.int .i64))) (hn : Z.length = n) (hl : n ≤ 1048570) : SliceOut D w v Z := by
  rcases h.2 with ⟨rfl, h0⟩ | ⟨g, cap, cur, rfl, _, _, hc, _⟩
  · subst h0
    obtain rfl := List.eq_nil_of_length_eq_zero hn
    exact SliceOut.nil
  · exact ⟨_, _, _, rfl, own_of_row h hn, hc, hl⟩
/-- What the marks of a ring leave of another list. -/
theorem Own.marked {w w' : World} {D n g1 g2 k1 k2 : Nat} {A : Option Addr} {xs : List Int} (h : Own w D A n xs) (hs : w.heap.size ≤ w'.heap.size)
    (hk : ∀ p : Addr, p.block < w.heap.size → ¬ InS (some ⟨g1, 0, none⟩) k1 p → ¬ InS (some ⟨g2, 0, none⟩) k2 p → w'.cell? p = w.cell? p ∧ w'.frozen? p = w.frozen? p) (h1 : g1 < D) (h2 : g2 < D) : Own w' D A n xs :=
  ⟨h.1, fun hn => by
    obtain ⟨g, off, e, hD, hg, hc⟩ := h.2 hn
    refine ⟨g, off, e, hD, Nat.lt_of_lt_of_le hg hs, fun k hkn => ?_⟩
    have := hk ⟨g, off + k, none⟩ hg (fun ⟨g', off', j, e', _, ep⟩ => by
        simp only [Option.some.injEq, Addr.mk.injEq, and_true] at e' ep
        omega) (fun ⟨g', off', j, e', _, ep⟩ => by
        simp only [Option.some.injEq, Addr.mk.injEq, and_true] at e' ep
        omega)
    exact ⟨this.1.trans (hc k hkn).1, this.2.trans (hc k hkn).2⟩⟩
/-- What the marks of a list leave of another list. -/
theorem Own.markedI {w w' : World} {D n g k : Nat} {A : Option Addr} {xs : List Int} (h : Own w D A n xs) (hb : ButIn w w' (some ⟨g, 0, none⟩) k) (hg : g < D) : Own w' D A n xs :=
  h.kept hb fun p ⟨q, off, j, e, _, ep⟩ ⟨q', off', j', e', _, ep'⟩ => by
    subst ep
    simp only [Option.some.injEq, Addr.mk.injEq, and_true] at e' ep'
    obtain ⟨q2, off2, e2, hD, _⟩ := h.2 (by omega)
    rw [e] at e2
    simp only [Option.some.injEq, Addr.mk.injEq, and_true] at e2
    omega
theorem apart_two {g1 g2 k1 k2 : Nat} (h : g1 < g2) : Apart (some ⟨g1, 0, none⟩) k1 (some ⟨g2, 0, none⟩) k2 := by
  rintro p ⟨q, off, j, e, _, rfl⟩ ⟨q', off', j', e', _, ep⟩
  simp only [Option.some.injEq, Addr.mk.injEq, and_true] at e e' ep
  omega

end Go.Proofs.Ytocoegekdamlbaa
