
/- The contracts of the reading side's Add and Mul. -/
import Derived.Test.YtocoegekdamlbaaB3
import Derived.Test.YtocoegekdamlbaaC1
namespace Go.Proofs.Ytocoegekdamlbaa
open Go.RowKit

theorem ints_two {w : World} {u v : Int} {T : TypeId} : Ints (w.alloc (.cells #[.int .i64 u, .int .i64 v] T)) (w.heap.size + 1) (some ⟨w.heap.size, 0, none⟩) 2 [u, v] := by
  refine ⟨rfl, fun _ => ⟨_, _, rfl, Nat.lt_succ_self _, fun k x hx => ?_⟩⟩
  rcases k with _ | _ | k
  · simp at hx
    subst hx
    exact cell_of_row _ _ _ _ _ (0, 0) (heap_alloc_new w _)
  · simp at hx
    subst hx
    exact cell_of_row _ _ _ _ _ (0, 0) (heap_alloc_new w _)
  · simp at hx
/-- The bound of l1Elements, of a size. -/
def hiOf (n : Int) : Int := wrap64 (n - 1)
theorem hi_valid {n o : Int} {X Y : List Int} (h : validB n o X Y = true) : hiOf n = n - 1 := by
  unfold validB at h
  rw [Bool.and_eq_true] at h
  obtain ⟨h1, h2, _⟩ := fitsB_iff.1 h.1
  exact wrap_in (by omega) (by omega)
theorem elB_two {n a b : Int} : elB (n - 1) [a, b] = true ↔ inB n a = true ∧ inB n b = true := by
  rw [elB_allB]
  unfold allB
  rw [decide_eq_true_eq]
  constructor
  · intro h; exact ⟨h 0 (by simp), h 1 (by simp)⟩
  · rintro ⟨h1, h2⟩ k hk
    rcases k with _ | _ | k
    · exact h1
    · exact h2
    · simp at hk; omega
end Go.Proofs.Ytocoegekdamlbaa
