/- Texts of this seat in one: PR. -/
import Derived.Test.YtdhjcgbaaghnoaaMQ

/- LiftIdeal of the reading side. -/
namespace Go.Proofs.Ytdhjcgbaaghnoaa
open Go.RowKit Go.Shelf
set_option maxRecDepth 100000

/-- Whether a list is an ideal of the quotient. -/
noncomputable def quB (n o : Int) (X Y L K : List Int) : Bool := isIdB (qN n.toNat (tabOf X) (setL L) : Int) (namK n.toNat (tabOf X) (setL L) n.toNat o.toNat : Int) (numL (qN n.toNat (tabOf X) (setL L) * qN n.toNat (tabOf X) (setL L)) (quoF n.toNat (tabOf X) (setL L) (tabOf X))) (numL (qN n.toNat (tabOf X) (setL L) * qN n.toNat (tabOf X) (setL L)) (quoF n.toNat (tabOf X) (setL L) (tabOf Y))) K
noncomputable def lftB (n o : Int) (X Y L K : List Int) : Bool := isIdB n o X Y L && quB n o X Y L K
/-- The elements whose classes are in an ideal of the quotient. -/
noncomputable def abvB (m : Nat) (S : Nat → Nat) (p q : Nat → Bool) : Nat → Bool := fun i => q (namK m S p m i)
noncomputable def lftL (n o : Int) (X Y L K : List Int) : List Int := if lftB n o X Y L K = true then lstP n.toNat (fun i => abvB n.toNat (tabOf X) (setL L) (setL K) i && decide (i < n.toNat)) else []
theorem lft_yes {n o : Int} {X Y L K : List Int} (h : lftB n o X Y L K = true) : lftL n o X Y L K = lstP n.toNat (fun i => abvB n.toNat (tabOf X) (setL L) (setL K) i && decide (i < n.toNat)) := if_pos h
theorem lft_no {n o : Int} {X Y L K : List Int} (h : lftB n o X Y L K = false) : lftL n o X Y L K = [] := if_neg (by rw [h]; simp)
theorem lft_no1 {n o : Int} {X Y L K : List Int} (h : isIdB n o X Y L = false) : lftB n o X Y L K = false := by unfold lftB; rw [h]; rfl
theorem lft_eq {n o : Int} {X Y L K : List Int} (h : isIdB n o X Y L = true) : lftB n o X Y L K = quB n o X Y L K := by unfold lftB; rw [h]; rfl
theorem quB_at {m e : Nat} {X Y L K : List Int} {p : Nat → Bool} (hp : setL L = p) : quB m e X Y L K = isIdB (qN m (tabOf X) p : Int) (namK m (tabOf X) p m e : Int) (numL (qN m (tabOf X) p * qN m (tabOf X) p) (quoF m (tabOf X) p (tabOf X))) (numL (qN m (tabOf X) p * qN m (tabOf X) p) (quoF m (tabOf X) p (tabOf Y))) K := by
  unfold quB; rw [hp]; rfl
/-- The lists of a new ring. -/
theorem NewRing.ints {D k : Nat} {w : World} {v : Value} {n o : Int} {X Y : List Int} (h : NewRing D w v n o k X Y) (hk : k ≤ 1048570) (hX : X.length = k) (hY : Y.length = k) : ∃ A c2 B c3, v = .agg #[.int .i64 n, .int .i64 o, .slice A k c2, .slice B k c3] ∧ Ints w w.heap.size A k X ∧ Ints w w.heap.size B k Y ∧ k ≤ c2 ∧ k ≤ c3 := by
  obtain ⟨v2, v3, rfl, h2, h3, _⟩ := h
  obtain ⟨A, l2, c2, rfl, hA, hc2, _⟩ := SliceOut.of_row h2 hX hk
  obtain ⟨B, l3, c3, rfl, hB, hc3, _⟩ := SliceOut.of_row h3 hY hk
  have e2 := hA.ints.1.symm.trans hX
  have e3 := hB.ints.1.symm.trans hY
  subst e2
  rw [e3] at hB hc3
  exact ⟨A, c2, B, c3, by rw [e3], hA.ints, hB.ints, hc2, hc3⟩

end Go.Proofs.Ytdhjcgbaaghnoaa
