
import Derived.Test.YtcbodedpahdobaaLEB
import Derived.Test.YtcbodedpahdobaaMY
/- Plain facts of the law of subrings: the list that SubringOf hands back. No program in sight. -/
namespace Go.Proofs.Ytcbodedpahdobaa
open Go.RowKit

section
variable {m e : Nat} {X Y L : List Int}
/-- What the list of the least subring is. -/
theorem sbr_list (h : ideB m e X Y L = true) : sbrL m e X Y L = lstP m (subG m (tabOf X) (tabOf Y) e (setL L)) ∧ Sbr m (tabOf X) (tabOf Y) e (subG m (tabOf X) (tabOf Y) e (setL L)) ∧ RTab m (tabOf X) (tabOf Y) e := by
  have hR := rtab_of_valid (ide_data h).1
  refine ⟨?_, hR.sub_sbr, hR⟩
  rw [sbr_yes h, Int.toNat_natCast, Int.toNat_natCast]
/-- It is its own. -/
theorem sbr_again (h : ideB m e X Y L = true) : ideB m e X Y (sbrL m e X Y L) = true ∧ sbrL m e X Y (sbrL m e X Y L) = sbrL m e X Y L := by
  obtain ⟨h1, h2, _⟩ := sbr_list h
  have h0 : ideB m e X Y (sbrL m e X Y L) = true := ide_yes (ide_data h).1 (all_iff.2 fun x hx => by
    rw [h1] at hx
    obtain ⟨i, rfl, hi, _⟩ := lst_mem.1 hx
    omega)
  refine ⟨h0, ?_⟩
  rw [(sbr_list h0).1, h1, setL_lst h2.lt]
  congr 1
  exact (sub_eq h2 (fun _ h => h) fun i hi => sub_ge h2.lt hi).symm
/-- It holds the given elements. -/
theorem sbr_holds (h : ideB m e X Y L = true) {x : Int} (hx : x ∈ L) : x ∈ sbrL m e X Y L := by
  obtain ⟨h1, h2, _⟩ := sbr_list h
  have hb := all_iff.1 (ide_data h).2 x hx
  have hs : setL L x.toNat = true := memB_iff.2 (List.mem_map.2 ⟨x, hx, rfl⟩)
  rw [h1]
  exact lst_mem.2 ⟨x.toNat, by omega, by omega, sub_ge (fun i hi => by have := setL_lt (ide_data h).2 hi; omega) hs⟩
/-- That of nothing. -/
theorem sbr_nil (h : ideB m e X Y L = true) : ideB m e X Y [] = true ∧ (sbrL m e X Y []).length = ordN m (tabOf X) e := by
  have h0 : ideB m e X Y [] = true := ide_yes (ide_data h).1 (all_iff.2 fun x hx => by cases hx)
  obtain ⟨h1, _, R⟩ := sbr_list h0
  refine ⟨h0, ?_⟩
  rw [h1]
  exact R.sub_nil_len
end

end Go.Proofs.Ytcbodedpahdobaa
