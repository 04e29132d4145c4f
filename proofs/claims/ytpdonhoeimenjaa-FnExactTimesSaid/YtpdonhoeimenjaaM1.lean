
/- Plain facts on tables of sums: repeated sums come back to 0 in at most as many steps as there are elements. No program in sight. -/
import Derived.Test.YtpdonhoeimenjaaB2
namespace Go.Proofs.Ytpdonhoeimenjaa
open Go.RowKit

/-- So many times an element. -/
def seqT (m : Nat) (S : Nat → Nat) (a : Nat) : Nat → Nat
  | 0 => 0
  | k + 1 => S (seqT m S a k * m + a)

theorem pigeon : ∀ (m : Nat) (f : Nat → Nat), (∀ i, i ≤ m → f i < m) → ∃ i j, i < j ∧ j ≤ m ∧ f i = f j
  | 0, f, h => absurd (h 0 (Nat.le_refl _)) (by omega)
  | m + 1, f, h => by
    by_cases hx : ∃ i, i ≤ m ∧ f i = f (m + 1)
    · obtain ⟨i, hi, e⟩ := hx
      exact ⟨i, m + 1, by omega, Nat.le_refl _, e⟩
    · have hne : ∀ i, i ≤ m → f i ≠ f (m + 1) := fun i hi e => hx ⟨i, hi, e⟩
      have hv := h (m + 1) (Nat.le_refl _)
      obtain ⟨i, j, hij, hj, e⟩ := pigeon m (fun i => if f i > f (m + 1) then f i - 1 else f i) (fun i hi => by
        have h1 := h i (by omega)
        have h2 := hne i hi
        show (if f i > f (m + 1) then f i - 1 else f i) < m
        split <;> omega)
      refine ⟨i, j, hij, by omega, ?_⟩
      have h1 := hne i (by omega)
      have h2 := hne j hj
      have e' : (if f i > f (m + 1) then f i - 1 else f i) = (if f j > f (m + 1) then f j - 1 else f j) := e
      split at e' <;> split at e' <;> omega

section
variable {m : Nat} {S : Nat → Nat}
theorem OpLaw.zero {e a : Nat} {T : Nat → Nat} (h : OpLaw m T e) (ha : a < m) : T (a * m + e) = a := (h a ha).1
theorem OpLaw.comm {e a b : Nat} {T : Nat → Nat} (h : OpLaw m T e) (ha : a < m) (hb : b < m) : T (a * m + b) = T (b * m + a) := ((h a ha).2 b hb).1
theorem OpLaw.assoc {e a b c : Nat} {T : Nat → Nat} (h : OpLaw m T e) (ha : a < m) (hb : b < m) (hc : c < m) : T (T (a * m + b) * m + c) = T (a * m + T (b * m + c)) := ((h a ha).2 b hb).2 c hc

theorem seqT_lt (hS : ∀ k, k < m * m → S k < m) (hm : 1 ≤ m) {a : Nat} (ha : a < m) : ∀ k, seqT m S a k < m
  | 0 => hm
  | k + 1 => hS _ (idx_lt (seqT_lt hS hm ha k) ha)
/-- Sums with one element differ where the others do. -/
theorem sum_inj (h : OpLaw m S 0) (hn : NegLaw m S) {a x y : Nat} (ha : a < m) (hx : x < m) (hy : y < m) (e : S (x * m + a) = S (y * m + a)) : x = y := by
  obtain ⟨c, hc, h0⟩ := rowL_mem.1 (show ((0 : Nat) : Int) ∈ rowL m S a from hn a ha)
  have e1 := h.assoc hx ha hc
  have e2 := h.assoc hy ha hc
  rw [h0, h.zero hx] at e1
  rw [h0, h.zero hy] at e2
  rw [← e1, ← e2, e]
theorem seqT_back (hS : ∀ k, k < m * m → S k < m) (h : OpLaw m S 0) (hn : NegLaw m S) (hm : 1 ≤ m) {a : Nat} (ha : a < m) : ∀ i d, seqT m S a i = seqT m S a (i + d) → seqT m S a d = 0
  | 0, d, e => by rw [Nat.zero_add] at e; exact e.symm
  | i + 1, d, e => by
    refine seqT_back hS h hn hm ha i d ?_
    rw [show i + 1 + d = (i + d) + 1 by omega] at e
    exact sum_inj h hn ha (seqT_lt hS hm ha i) (seqT_lt hS hm ha (i + d)) e

/-- d is the least number of times, from 1 on, that an element has the sum 0. -/
def IsOrd (m : Nat) (S : Nat → Nat) (a d : Nat) : Prop := 1 ≤ d ∧ d ≤ m ∧ seqT m S a d = 0 ∧ ∀ j, 1 ≤ j → j < d → seqT m S a j ≠ 0
theorem least_of {p : Nat → Prop} : ∀ n, p n → ∃ k, k ≤ n ∧ p k ∧ ∀ j, j < k → ¬ p j
  | n, hn => by
    by_cases h : ∃ j, j < n ∧ p j
    · obtain ⟨j, hj, hp⟩ := h
      obtain ⟨k, hk, hpk, hl⟩ := least_of j hp
      exact ⟨k, by omega, hpk, hl⟩
    · exact ⟨n, Nat.le_refl _, hn, fun j hj hp => h ⟨j, hj, hp⟩⟩
  termination_by n => n
theorem ord_exists (hS : ∀ k, k < m * m → S k < m) (h : OpLaw m S 0) (hn : NegLaw m S) (hm : 1 ≤ m) {a : Nat} (ha : a < m) : ∃ d, IsOrd m S a d := by
  obtain ⟨i, j, hij, hj, e⟩ := pigeon m (seqT m S a) (fun i _ => seqT_lt hS hm ha i)
  have h0 := seqT_back hS h hn hm ha i (j - i) (by rw [show i + (j - i) = j by omega]; exact e)
  obtain ⟨k, hk, ⟨hk1, hk0⟩, hl⟩ := least_of (p := fun d => 1 ≤ d ∧ seqT m S a d = 0) (j - i) ⟨by omega, h0⟩
  exact ⟨k, hk1, by omega, hk0, fun j hj1 hj2 e => hl j hj2 ⟨hj1, e⟩⟩
theorem ord_unique {a d d' : Nat} (h : IsOrd m S a d) (h' : IsOrd m S a d') : d = d' := by
  rcases Nat.lt_trichotomy d d' with hl | hl | hl
  · exact absurd h.2.2.1 (h'.2.2.2 d h.1 hl)
  · exact hl
  · exact absurd h'.2.2.1 (h.2.2.2 d' h'.1 hl)
noncomputable def ordN (m : Nat) (S : Nat → Nat) (a : Nat) : Nat := Classical.epsilon (IsOrd m S a)
theorem ordN_spec (hS : ∀ k, k < m * m → S k < m) (h : OpLaw m S 0) (hn : NegLaw m S) (hm : 1 ≤ m) {a : Nat} (ha : a < m) : IsOrd m S a (ordN m S a) := Classical.epsilon_spec (ord_exists hS h hn hm ha)
theorem seqT_one (h : OpLaw m S 0) (hm : 1 ≤ m) {a : Nat} (ha : a < m) : seqT m S a 1 = a := by
  have h1 := h.comm hm ha
  have h2 := h.zero ha
  show S (0 * m + a) = a
  rw [h1, h2]
end

/-- A product of so many factors, by squares. -/
def powF (m : Nat) (P : Nat → Nat) : Nat → Nat → Nat → Nat → Nat
  | 0, r, _, _ => r
  | f + 1, r, s, n => if n = 0 then r else powF m P f (if n % 2 = 1 then P (r * m + s) else r) (P (s * m + s)) (n / 2)
theorem powF_zero {m : Nat} {P : Nat → Nat} {f r s : Nat} : powF m P f r s 0 = r := by
  cases f <;> simp [powF]
theorem powF_odd {m : Nat} {P : Nat → Nat} {f r s n : Nat} (h : n % 2 = 1) : powF m P (f + 1) r s n = powF m P f (P (r * m + s)) (P (s * m + s)) (n / 2) := by
  rw [powF, if_neg (by omega), if_pos h]
theorem powF_even {m : Nat} {P : Nat → Nat} {f r s n : Nat} (h : n % 2 ≠ 1) (h0 : n ≠ 0) : powF m P (f + 1) r s n = powF m P f r (P (s * m + s)) (n / 2) := by
  rw [powF, if_neg h0, if_neg h]

end Go.Proofs.Ytpdonhoeimenjaa
