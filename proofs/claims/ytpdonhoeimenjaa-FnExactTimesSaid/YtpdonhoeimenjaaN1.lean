
/- Plain facts: repeated operations with one element come back; orders in a table. No program in sight. -/
import Derived.Test.YtpdonhoeimenjaaM1
namespace Go.Proofs.Ytpdonhoeimenjaa
open Go.RowKit

/-- So many times an element in a table, from z on. -/
def seqZ (m : Nat) (T : Nat → Nat) (z a : Nat) : Nat → Nat
  | 0 => z
  | k + 1 => T (seqZ m T z a k * m + a)
/-- d is the least number of times, from 1 on, that an element gives z. -/
def IsOrdZ (m : Nat) (T : Nat → Nat) (z a d : Nat) : Prop := 1 ≤ d ∧ d ≤ m ∧ seqZ m T z a d = z ∧ ∀ j, 1 ≤ j → j < d → seqZ m T z a j ≠ z
section
variable {m : Nat} {T S P : Nat → Nat} {z e a d : Nat}
theorem seqZ_T : ∀ k, seqZ m S 0 a k = seqT m S a k
  | 0 => rfl
  | k + 1 => by
    show S (seqZ m S 0 a k * m + a) = S (seqT m S a k * m + a)
    rw [seqZ_T k]
theorem isOrd_z (h : IsOrd m S a d) : IsOrdZ m S 0 a d := by
  refine ⟨h.1, h.2.1, ?_, fun j h1 h2 => ?_⟩
  · rw [seqZ_T]; exact h.2.2.1
  · rw [seqZ_T]; exact h.2.2.2 j h1 h2
theorem seqZ_lt (hT : ∀ k, k < m * m → T k < m) (hz : z < m) (ha : a < m) : ∀ k, seqZ m T z a k < m
  | 0 => hz
  | k + 1 => hT _ (idx_lt (seqZ_lt hT hz ha k) ha)
theorem seqZ_one (h : OpLaw m T z) (hz : z < m) (ha : a < m) : seqZ m T z a 1 = a := by
  have h1 := h.comm hz ha
  have h2 := h.zero ha
  show T (z * m + a) = a
  rw [h1, h2]
/-- An element with an inverse. -/
def UnitAt (m : Nat) (P : Nat → Nat) (e a : Nat) : Prop := ∃ c, c < m ∧ P (a * m + c) = e
theorem unit_inj (h : OpLaw m P e) (hu : UnitAt m P e a) (ha : a < m) {x y : Nat} (hx : x < m) (hy : y < m) (he : P (x * m + a) = P (y * m + a)) : x = y := by
  obtain ⟨c, hc, h0⟩ := hu
  have e1 := h.assoc hx ha hc
  have e2 := h.assoc hy ha hc
  rw [h0, h.zero hx] at e1
  rw [h0, h.zero hy] at e2
  rw [← e1, ← e2, he]
theorem seqZ_back (hP : ∀ k, k < m * m → P k < m) (h : OpLaw m P e) (he : e < m) (hu : UnitAt m P e a) (ha : a < m) : ∀ i d, seqZ m P e a i = seqZ m P e a (i + d) → seqZ m P e a d = e
  | 0, d, q => by rw [Nat.zero_add] at q; exact q.symm
  | i + 1, d, q => by
    refine seqZ_back hP h he hu ha i d ?_
    rw [show i + 1 + d = (i + d) + 1 by omega] at q
    exact unit_inj h hu ha (seqZ_lt hP he ha i) (seqZ_lt hP he ha (i + d)) q
theorem ordZ_exists (hP : ∀ k, k < m * m → P k < m) (h : OpLaw m P e) (he : e < m) (hu : UnitAt m P e a) (ha : a < m) : ∃ d, IsOrdZ m P e a d := by
  obtain ⟨i, j, hij, hj, q⟩ := pigeon m (seqZ m P e a) (fun i _ => seqZ_lt hP he ha i)
  have h0 := seqZ_back hP h he hu ha i (j - i) (by rw [show i + (j - i) = j by omega]; exact q)
  obtain ⟨k, hk, ⟨hk1, hk0⟩, hl⟩ := least_of (p := fun d => 1 ≤ d ∧ seqZ m P e a d = e) (j - i) ⟨by omega, h0⟩
  exact ⟨k, hk1, by omega, hk0, fun j hj1 hj2 q => hl j hj2 ⟨hj1, q⟩⟩
noncomputable def ordZ (m : Nat) (P : Nat → Nat) (e a : Nat) : Nat := Classical.epsilon (IsOrdZ m P e a)
theorem ordZ_spec (hP : ∀ k, k < m * m → P k < m) (h : OpLaw m P e) (he : e < m) (hu : UnitAt m P e a) (ha : a < m) : IsOrdZ m P e a (ordZ m P e a) := Classical.epsilon_spec (ordZ_exists hP h he hu ha)

/-- The place of One in a row of products, or -1. -/
def invN (m : Nat) (P : Nat → Nat) (e a : Nat) : Int := idx (rowL m P a) e
theorem inv_unit : 0 ≤ invN m P e a ↔ UnitAt m P e a := by
  unfold invN UnitAt
  rw [idx_nonneg]
  exact rowL_mem
theorem inv_bounds : -1 ≤ invN m P e a ∧ invN m P e a ≤ m := by
  have := idx_bounds (rowL m P a) e
  rw [rowL_length] at this
  unfold invN
  omega
end

end Go.Proofs.Ytpdonhoeimenjaa
