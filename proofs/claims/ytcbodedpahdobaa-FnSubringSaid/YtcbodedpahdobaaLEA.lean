
import Derived.Test.YtcbodedpahdobaaMG
import Derived.Test.YtcbodedpahdobaaMN
/- Plain facts of the laws of ideals and subrings: their lists ascend, are closed, are their own, and their lengths divide the size. No program in sight. -/
namespace Go.Proofs.Ytcbodedpahdobaa
open Go.RowKit

section
variable {m e : Nat} {S P : Nat → Nat} {p : Nat → Bool}
/-- A list of a set ascends. -/
theorem selTo_asc : ∀ k, k ≤ m → (selTo m p k).Pairwise (fun a b => a.1 < b.1)
  | 0, _ => by simp [selTo]
  | k + 1, hk => by
    have ih := selTo_asc k (by omega)
    cases hp : p k
    · rw [selTo_no hp]; exact ih
    · rw [selTo_yes (by omega) hp, List.pairwise_append]
      refine ⟨ih, by simp, fun a ha b hb => ?_⟩
      rw [List.mem_singleton] at hb
      subst hb
      exact ((selTo_in k (by omega)).1 ha).1
theorem lst_asc : (lstP m p).Pairwise (· < ·) := by
  unfold lstP finI
  rw [List.pairwise_map]
  exact (selTo_asc m (Nat.le_refl _)).imp fun h => by exact_mod_cast h
theorem lst_lt {i j : Nat} {x y : Int} (h : i < j) (hx : (lstP m p)[i]? = some x) (hy : (lstP m p)[j]? = some y) : x < y := by
  obtain ⟨h1, rfl⟩ := List.getElem?_eq_some_iff.1 hx
  obtain ⟨h2, rfl⟩ := List.getElem?_eq_some_iff.1 hy
  exact List.pairwise_iff_getElem.1 lst_asc i j h1 h2 h
theorem lst_mem {x : Int} : x ∈ lstP m p ↔ ∃ i : Nat, x = i ∧ i < m ∧ p i = true := by
  unfold lstP
  rw [finI_N, List.mem_map]
  constructor
  · rintro ⟨i, h, rfl⟩
    exact ⟨i, rfl, (lst_in (m := m) (p := p)).1 h⟩
  · rintro ⟨i, rfl, h⟩
    exact ⟨i, (lst_in (m := m) (p := p)).2 h, rfl⟩
/-- A set closed under sums holds the negatives of its elements. -/
theorem RTab.clo_neg (R : RTab m S P e) (h0 : p 0 = true) (hl : ∀ i, p i = true → i < m) (hs : ∀ i j, p i = true → p j = true → p (S (i * m + j)) = true) {i : Nat} (hi : p i = true) : ∃ j, p j = true ∧ S (i * m + j) = 0 := by
  have ha := hl i hi
  have h1 : ∀ k, p (seqT m S i k) = true := fun k => by
    induction k with
    | zero => exact h0
    | succ k ih => exact hs _ _ ih hi
  have ho := R.ord ha
  refine ⟨seqT m S i (ordN m S i - 1), h1 _, ?_⟩
  have h2 := R.seq_add ha 1 (ordN m S i - 1)
  rw [show 1 + (ordN m S i - 1) = ordN m S i from by have := ho.1; omega, ho.2.2.1, seqT_one R.s R.hm ha] at h2
  exact h2.symm
/-- The number of elements of a set closed under sums divides the size. -/
theorem RTab.lst_dvd (R : RTab m S P e) (h0 : p 0 = true) (hl : ∀ i, p i = true → i < m) (hs : ∀ i j, p i = true → p j = true → p (S (i * m + j)) = true) : (lstP m p).length ∣ m := by
  have hin : ∀ x, x ∈ (selTo m p m).map Fin.val ↔ p x = true := fun x => by
    rw [List.mem_map]
    constructor
    · rintro ⟨y, hy, rfl⟩
      exact ((selTo_in m (Nat.le_refl _)).1 hy).2
    · intro h
      exact ⟨⟨x, hl x h⟩, (selTo_in m (Nat.le_refl _)).2 ⟨hl x h, h⟩, rfl⟩
  have h := R.sub_dvd ((selTo m p m).map Fin.val) (fun x hx => hl x ((hin x).1 hx)) (by
    rw [List.nodup_iff_pairwise_ne, List.pairwise_map]
    exact (List.nodup_iff_pairwise_ne.1 (selTo_nodup m (Nat.le_refl _))).imp fun hne he => hne (Fin.ext he)) ((hin 0).2 h0)
    (fun x hx y hy => (hin _).2 (hs x y ((hin x).1 hx) ((hin y).1 hy)))
    (fun x hx => by
      obtain ⟨y, h1, h2⟩ := R.clo_neg h0 hl hs ((hin x).1 hx)
      exact ⟨y, (hin y).2 h1, h2⟩)
  rw [List.length_map] at h
  rw [lst_len]
  exact h
theorem RTab.idl_dvd (R : RTab m S P e) (hp : Idl m S P p) : (lstP m p).length ∣ m := R.lst_dvd hp.z hp.lt hp.s
theorem Idl.lst_pos (hp : Idl m S P p) (hm : 1 ≤ m) : 1 ≤ (lstP m p).length := by
  have h : (0 : Int) ∈ lstP m p := lst_mem.2 ⟨0, rfl, by omega, hp.z⟩
  exact List.length_pos_of_mem h
end

section
variable {m e : Nat} {X Y L : List Int}
/-- What the list of the least ideal is. -/
theorem ide_list (h : ideB m e X Y L = true) : ideL m e X Y L = lstP m (genB m (tabOf X) (tabOf Y) (setL L)) ∧ Idl m (tabOf X) (tabOf Y) (genB m (tabOf X) (tabOf Y) (setL L)) ∧ RTab m (tabOf X) (tabOf Y) e := by
  have hR := rtab_of_valid (ide_data h).1
  exact ⟨ideL_yes h, hR.gen_idl, hR⟩
/-- It is an ideal. -/
theorem ide_isId (h : ideB m e X Y L = true) : isIdB m e X Y (ideL m e X Y L) = true := by
  obtain ⟨h1, h2, _⟩ := ide_list h
  rw [h1]
  exact isId_of (ide_data h).1 h2
/-- It is its own. -/
theorem ide_again (h : ideB m e X Y L = true) : ideB m e X Y (ideL m e X Y L) = true ∧ ideL m e X Y (ideL m e X Y L) = ideL m e X Y L := by
  have h0 := isId_ide (ide_isId h)
  obtain ⟨h1, h2, _⟩ := ide_list h
  refine ⟨h0, ?_⟩
  rw [ideL_yes h0, h1]
  unfold genL
  rw [Int.toNat_natCast, setL_lst h2.lt, gen_self h2]
/-- It holds the given elements. -/
theorem ide_holds (h : ideB m e X Y L = true) {x : Int} (hx : x ∈ L) : x ∈ ideL m e X Y L := by
  obtain ⟨h1, h2, _⟩ := ide_list h
  have hb := all_iff.1 (ide_data h).2 x hx
  have hs : setL L x.toNat = true := memB_iff.2 (List.mem_map.2 ⟨x, hx, rfl⟩)
  rw [h1]
  exact lst_mem.2 ⟨x.toNat, by omega, by omega, gen_ge (fun i hi => by have := setL_lt (ide_data h).2 hi; omega) hs⟩
end

end Go.Proofs.Ytcbodedpahdobaa
