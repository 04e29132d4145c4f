/- Texts of this seat in one: D0. -/
import Derived.Test.YtlcpbdbdiahmjaaMB
import Derived.ProofKit
import Derived.Lib.SmallJoins

/- What every law's row is made of: one ring that came in. -/
namespace Go.Proofs.Ytlcpbdbdiahmjaa
open Go.ChangeShapes Go.WideShapes Go.ChangeAt Go.RowKit Go.Joins
set_option maxRecDepth 100000

theorem Try.own : ownKnob Try.prog.godebug = none := by kernel_rfl
theorem Try.laidOut : laidOutB Try.prog = true := by kernel_rfl
theorem Try.cellsInt : Try.prog.cellsOf 3 = 1 := by kernel_rfl

section
variable {H : Type} {enc : TypeId × Value → H} {w : World}
theorem ints_of_trod {t fuel : Nat} {v : Value} {x : DataW H × List MemPlace} (ht : Try.prog.underlying t = some (.slice 3)) (h : DataW.trod enc Try.prog w 0 (fun _ => true) true fuel t [v] = some x) (hlt : ∀ y ∈ x.2, y.block < w.heap.size) :
    ∃ A len cap xs, v = .slice A len cap ∧ Ints w w.heap.size A len xs ∧ len ≤ 9223372036854775807 ∧ len ≤ cap := by
  rcases open_ints ht Try.underlying3 Try.cellsInt h with ⟨hcs, _⟩ | ⟨a, len, cap, zs, hcs, _, hl, hm, hz, hx, hcell, _⟩
  · simp at hcs
    exact ⟨none, 0, 0, [], hcs, ⟨rfl, fun h => absurd h (by omega)⟩, by omega, Nat.le_refl _⟩
  · simp at hcs
    simp only [if_true] at hz
    unfold maxLen at hm
    refine ⟨some a, len, cap, zs.take len, hcs, ⟨by simp; omega, fun h0 => ?_⟩, by omega, hl⟩
    obtain ⟨b, off, spot⟩ := a
    have hspot : spot = none := by simpa [Addr.add] using World.cell?_spot (hcell 0 (by omega))
    subst hspot
    have hp : MemPlace.cell b off ∈ x.2 := by
      rw [hx]
      exact MemPlace.mem_row.2 ⟨0, by omega, by simp⟩
    refine ⟨b, off, rfl, hlt _ hp, fun k y hy => ?_⟩
    have hk : k < len := by
      rcases Nat.lt_or_ge k len with h1 | h1
      · exact h1
      · rw [List.getElem?_eq_none (by simp; omega)] at hy; cases hy
    rw [List.getElem?_take, if_pos hk] at hy
    have := hcell k (by omega)
    rw [add_plain] at this
    rw [this, List.getD_eq_getElem?_getD, hy]; rfl

theorem wf_bounds {n : Int} (h : (Lit.int .i64 n).wf = true) : -9223372036854775808 ≤ n ∧ n ≤ 9223372036854775807 := by
  have h1 : IntKind.i64.min = -9223372036854775808 := rfl
  have h2 : IntKind.i64.max = 9223372036854775807 := rfl
  simp only [Lit.wf, Bool.and_eq_true, decide_eq_true_eq] at h
  omega
theorem ring_of_trod {base : Nat} {v : Value} {d : DataW H} {p : List MemPlace} (hv : Value.okWide Try.prog w .any base 45 v) (h : DataW.Trod enc Try.prog w 0 (fun _ => true) true 45 v d p) (hlt : ∀ y ∈ p, y.block < w.heap.size) :
    ∃ (n o : Int) (A B : Option Addr) (la ca lb cb : Nat) (X Y : List Int), v = .agg #[.int .i64 n, .int .i64 o, .slice A la ca, .slice B lb cb] ∧ Ints w w.heap.size A la X ∧ Ints w w.heap.size B lb Y ∧ la ≤ 9223372036854775807 ∧ lb ≤ 9223372036854775807 ∧ -9223372036854775808 ≤ n ∧ n ≤ 9223372036854775807 := by
  obtain ⟨v0, v1, v2, v3, y0, y1, y2, y3, n, rfl, rfl, rfl, h0, h1, h2, h3⟩ := open_agg4 Try.underlying45 (by kernel_rfl) (by kernel_rfl) hv h
  obtain ⟨i0, e0, _, w0⟩ := DataW.trod_int Try.underlying3 h0
  obtain ⟨i1, e1, _, _⟩ := DataW.trod_int Try.underlying3 h1
  simp only [List.mem_append] at hlt
  obtain ⟨A, la, ca, X, e2, hX, hla, _⟩ := ints_of_trod Try.underlying23 h2 (fun y hy => hlt y (.inr (.inr (.inl hy))))
  obtain ⟨B, lb, cb, Y, e3, hY, hlb, _⟩ := ints_of_trod Try.underlying23 h3 (fun y hy => hlt y (.inr (.inr (.inr hy))))
  simp only [List.cons.injEq, and_true] at e0 e1
  subst e0; subst e1; subst e2; subst e3
  exact ⟨_, _, _, _, _, _, _, _, X, Y, rfl, hX, hY, hla, hlb, wf_bounds w0⟩
end

end Go.Proofs.Ytlcpbdbdiahmjaa

