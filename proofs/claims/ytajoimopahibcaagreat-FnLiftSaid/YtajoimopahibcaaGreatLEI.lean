
import Derived.Test.YtajoimopahibcaaGreatLEG
import Derived.Test.YtajoimopahibcaaGreatMO
import Derived.Test.YtajoimopahibcaaGreatNA
/- What FnPrimeIdeal and FnRadical want of the lists of ideals. -/
namespace Go.Proofs.YtajoimopahibcaaGreat
open Go.RowKit

theorem eqL_iff {a b : List Int} : eqL a b = true ↔ a = b := decide_eq_true_iff
/-- Whether a list lies above another one: the sum of both is itself. -/
noncomputable def abvI (n o : Int) (X Y L Z : List Int) : Bool := eqL (sumL n o X Y L Z) Z

section
variable {m e : Nat} {X Y L Z : List Int} {p q : Nat → Bool}
theorem abv_iff (hv : validB m e X Y = true) (hp : Idl m (tabOf X) (tabOf Y) p) (hq : Idl m (tabOf X) (tabOf Y) q) : abvI m e X Y (lstP m p) (lstP m q) = true ↔ ∀ i, p i = true → q i = true := by
  have R := rtab_of_valid hv
  unfold abvI
  rw [eqL_iff, sum_at hv hp hq]
  constructor
  · intro h i hi
    have e1 := lst_uniq (R.sum_idl hp hq).lt hq.lt h
    rw [← e1]
    exact R.sum_left hp hq hi
  · intro h
    rw [R.sum_in hp hq h]
/-- How many of the first lists lie above. -/
noncomputable def abvC (n o : Int) (X Y L : List Int) (ZZ : List (List Int)) : Nat := (ZZ.filter fun Z => abvI n o X Y L Z).length
theorem abvC_yes {n o : Int} {X Y L Z : List Int} {ZZ : List (List Int)} (h : abvI n o X Y L Z = true) : abvC n o X Y L (ZZ ++ [Z]) = abvC n o X Y L ZZ + 1 := by
  unfold abvC
  rw [List.filter_append, List.length_append]
  simp [h]
theorem abvC_no {n o : Int} {X Y L Z : List Int} {ZZ : List (List Int)} (h : abvI n o X Y L Z = false) : abvC n o X Y L (ZZ ++ [Z]) = abvC n o X Y L ZZ := by
  unfold abvC
  rw [List.filter_append, List.length_append]
  simp [h]
theorem abvC_le {n o : Int} {X Y L : List Int} {ZZ : List (List Int)} : abvC n o X Y L ZZ ≤ ZZ.length := List.length_filter_le _ _
theorem als_mem (hv : validB m e X Y = true) (hm' : m ≤ 16) : ∀ l, l ∈ alsL m e X Y ↔ ∃ p, Idl m (tabOf X) (tabOf Y) p ∧ l = lstP m p := by
  rw [als_yes hv]
  exact ((rtab_of_valid hv).isAll hm').2
theorem als_nodup (hv : validB m e X Y = true) (hm' : m ≤ 16) : (alsL m e X Y).Nodup := by
  rw [als_yes hv]
  exact srt_nodup ((rtab_of_valid hv).isAll hm').1
end
end Go.Proofs.YtajoimopahibcaaGreat

