
/- The program's maker of rings, at the integers by a number. -/
import Derived.Test.YtocoegekdamlbaaG3
import Derived.Test.YtocoegekdamlbaaM3
namespace Go.Proofs.Ytocoegekdamlbaa
open Go.RowKit
set_option maxRecDepth 100000

def tabZ (m : Nat) (f : Nat → Nat → Nat) (k : Nat) : List Int := (List.range k).map fun j => ((f (j / m) (j % m) : Nat) : Int)
theorem tabZ_succ {m k : Nat} {f : Nat → Nat → Nat} : tabZ m f (k + 1) = tabZ m f k ++ [((f (k / m) (k % m) : Nat) : Int)] := by simp [tabZ, List.range_succ]

def madePhi (D m : Nat) (i : Nat) (v : Value) (w : World) : Prop :=
  if i = 17 then ∃ g, v = .pointer (some ⟨g, 0, none⟩) ∧ D ≤ g ∧ Blk w g 28 #[.int .i64 0, .int .i64 0, .slice none 0 0, .slice none 0 0]
  else ∃ g, v = .slice (some ⟨g, 0, none⟩) 0 (m * m) ∧ D ≤ g ∧ Blk w g 3 (madeCells #[.int .i64 0] (m * m))
theorem madePhi_stable {D m : Nat} (i : Nat) (v : Value) (w w' : World) (h : madePhi D m i v w) (hb : Below w.heap.size w w') : madePhi D m i v w' := by
  unfold madePhi at *
  split
  · rename_i e
    rw [if_pos e] at h
    obtain ⟨g, h1, h2, h3⟩ := h
    exact ⟨g, h1, h2, h3.below hb h3.lt⟩
  · rename_i e
    rw [if_neg e] at h
    obtain ⟨g, h1, h2, h3⟩ := h
    exact ⟨g, h1, h2, h3.below hb h3.lt⟩
def madeSh (m : Nat) (i : Nat) (v : Value) : Prop := if i = 17 then ∃ g, v = .pointer (some ⟨g, 0, none⟩) else ∃ g, v = .slice (some ⟨g, 0, none⟩) 0 (m * m)
theorem madeSh_of {D m : Nat} (i : Nat) (v : Value) (w : World) (h : madePhi D m i v w) : madeSh m i v := by
  unfold madePhi at h
  unfold madeSh
  split <;> rename_i e
  · rw [if_pos e] at h
    exact ⟨h.choose, h.choose_spec.1⟩
  · rw [if_neg e] at h
    exact ⟨h.choose, h.choose_spec.1⟩
def madeMk (i : Nat) : Bool := i == 11 || i == 15 || i == 17

theorem idx_parts {m a b : Nat} (hb : b < m) : (a * m + b) / m = a ∧ (a * m + b) % m = b := by
  have hm : 0 < m := by omega
  refine ⟨?_, ?_⟩
  · rw [Nat.mul_comm, Nat.mul_add_div hm, Nat.div_eq_of_lt hb, Nat.add_zero]
  · rw [Nat.mul_comm, Nat.mul_add_mod, Nat.mod_eq_of_lt hb]
theorem tabZ_at {m a b : Nat} {f : Nat → Nat → Nat} (hb : b < m) : tabZ m f (a * m + b + 1) = tabZ m f (a * m + b) ++ [((f a b : Nat) : Int)] := by
  obtain ⟨e1, e2⟩ := idx_parts (a := a) hb
  rw [tabZ_succ, e1, e2]

end Go.Proofs.Ytocoegekdamlbaa
