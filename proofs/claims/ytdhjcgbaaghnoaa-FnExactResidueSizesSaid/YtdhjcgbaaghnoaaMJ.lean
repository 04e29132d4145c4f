/- Texts of this seat in one: G3 G4. -/
import Derived.Test.YtdhjcgbaaghnoaaMC

/- The methods of the making of the integers by a number. -/
namespace Go.Proofs.Ytdhjcgbaaghnoaa
open Go.RowKit
set_option maxRecDepth 100000

/-- What the walk of 'made' asks of a making: its methods, wherever the call stands. -/
structure Making (w0 : World) (mv : Value) (fsize fone felement fnumber fsum fproduct : Nat) (m o : Nat) (El : Nat → Value) (SV PV : Nat → Nat → Value) (S P : Nat → Nat → Nat) (oneV : Value) : Prop where
  size : ∀ w, Below w0.heap.size w0 w → Calls Try.prog fsize #[mv] w fun e w' => e = .returned (.int .i64 m) ∧ Below w.heap.size w w'
  one : ∀ w, Below w0.heap.size w0 w → Calls Try.prog fone #[mv] w fun e w' => e = .returned oneV ∧ Below w.heap.size w w'
  oneNum : ∀ w, Below w0.heap.size w0 w → Calls Try.prog fnumber #[mv, oneV] w fun e w' => e = .returned (.int .i64 o) ∧ Below w.heap.size w w'
  element : ∀ w, Below w0.heap.size w0 w → ∀ a, a < m → Calls Try.prog felement #[mv, .int .i64 a] w fun e w' => e = .returned (El a) ∧ Below w.heap.size w w'
  sum : ∀ w, Below w0.heap.size w0 w → ∀ a b, a < m → b < m → Calls Try.prog fsum #[mv, El a, El b] w fun e w' => e = .returned (SV a b) ∧ Below w.heap.size w w'
  product : ∀ w, Below w0.heap.size w0 w → ∀ a b, a < m → b < m → Calls Try.prog fproduct #[mv, El a, El b] w fun e w' => e = .returned (PV a b) ∧ Below w.heap.size w w'
  sumNum : ∀ w, Below w0.heap.size w0 w → ∀ a b, a < m → b < m → Calls Try.prog fnumber #[mv, SV a b] w fun e w' => e = .returned (.int .i64 (S a b)) ∧ Below w.heap.size w w'
  prodNum : ∀ w, Below w0.heap.size w0 w → ∀ a b, a < m → b < m → Calls Try.prog fnumber #[mv, PV a b] w fun e w' => e = .returned (.int .i64 (P a b)) ∧ Below w.heap.size w w'

end Go.Proofs.Ytdhjcgbaaghnoaa


/- The program's maker of rings, at the integers by a number. -/
namespace Go.Proofs.Ytdhjcgbaaghnoaa
open Go.RowKit
set_option maxRecDepth 100000

def tabZ (m : Nat) (f : Nat → Nat → Nat) (k : Nat) : List Int := (List.range k).map fun j => ((f (j / m) (j % m) : Nat) : Int)
theorem tabZ_succ {m k : Nat} {f : Nat → Nat → Nat} : tabZ m f (k + 1) = tabZ m f k ++ [((f (k / m) (k % m) : Nat) : Int)] := by simp [tabZ, List.range_succ]

def madePhi (D m : Nat) (i : Nat) (v : Value) (w : World) : Prop :=
  if i = 17 then ∃ g, v = .pointer (some ⟨g, 0, none⟩) ∧ D ≤ g ∧ Blk w g 27 #[.int .i64 0, .int .i64 0, .slice none 0 0, .slice none 0 0]
  else ∃ g, v = .slice (some ⟨g, 0, none⟩) 0 (m * m) ∧ D ≤ g ∧ Blk w g 3 (madeCells #[.int .i64 0] (m * m))
theorem madePhi_stable {D m : Nat} (i : Nat) (v : Value) (w w' : World) (h : madePhi D m i v w) (hb : Below w.heap.size w w') : madePhi D m i v w' := by
  unfold madePhi at *
  split
  · rename_i e
    rw [if_pos e] at h
    obtain ⟨g, h1, h2, h3⟩ := h
    exact ⟨g, h1, h2, h3.below hb h3.lt⟩
  · rename_i e
    rw [if_neg e] at h
    obtain ⟨g, h1, h2, h3⟩ := h
    exact ⟨g, h1, h2, h3.below hb h3.lt⟩
def madeSh (m : Nat) (i : Nat) (v : Value) : Prop := if i = 17 then ∃ g, v = .pointer (some ⟨g, 0, none⟩) else ∃ g, v = .slice (some ⟨g, 0, none⟩) 0 (m * m)
theorem madeSh_of {D m : Nat} (i : Nat) (v : Value) (w : World) (h : madePhi D m i v w) : madeSh m i v := by
  unfold madePhi at h
  unfold madeSh
  split <;> rename_i e
  · rw [if_pos e] at h
    exact ⟨h.choose, h.choose_spec.1⟩
  · rw [if_neg e] at h
    exact ⟨h.choose, h.choose_spec.1⟩
def madeMk (i : Nat) : Bool := i == 11 || i == 15 || i == 17

theorem idx_parts {m a b : Nat} (hb : b < m) : (a * m + b) / m = a ∧ (a * m + b) % m = b := by
  have hm : 0 < m := by omega
  refine ⟨?_, ?_⟩
  · rw [Nat.mul_comm, Nat.mul_add_div hm, Nat.div_eq_of_lt hb, Nat.add_zero]
  · rw [Nat.mul_comm, Nat.mul_add_mod, Nat.mod_eq_of_lt hb]
theorem tabZ_at {m a b : Nat} {f : Nat → Nat → Nat} (hb : b < m) : tabZ m f (a * m + b + 1) = tabZ m f (a * m + b) ++ [((f a b : Nat) : Int)] := by
  obtain ⟨e1, e2⟩ := idx_parts (a := a) hb
  rw [tabZ_succ, e1, e2]

end Go.Proofs.Ytdhjcgbaaghnoaa
