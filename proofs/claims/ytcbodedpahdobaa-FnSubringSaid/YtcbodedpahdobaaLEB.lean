
import Derived.Test.YtcbodedpahdobaaLEA
import Derived.Test.YtcbodedpahdobaaMB
import Derived.Test.YtcbodedpahdobaaMY
/- Plain facts of the law of subrings: the least subring's list is its own, its length divides the size, and that of nothing is as long as the characteristic. No program in sight. -/
namespace Go.Proofs.Ytcbodedpahdobaa
open Go.RowKit

section
variable {m e : Nat} {S P : Nat → Nat} {q : Nat → Bool}
theorem RTab.sbr_neg (R : RTab m S P e) (hq : Sbr m S P e q) {i : Nat} (hi : q i = true) : ∃ j, q j = true ∧ S (i * m + j) = 0 := R.clo_neg (R.sub_zero hq) hq.lt hq.s hi
theorem RTab.sbr_dvd (R : RTab m S P e) (hq : Sbr m S P e q) : (lstP m q).length ∣ m := R.lst_dvd (R.sub_zero hq) hq.lt hq.s
theorem RTab.sbr_pos (R : RTab m S P e) (hq : Sbr m S P e q) : 1 ≤ (lstP m q).length := by
  have h : (0 : Int) ∈ lstP m q := lst_mem.2 ⟨0, rfl, by have := R.hm; omega, R.sub_zero hq⟩
  exact List.length_pos_of_mem h
/-- The multiples of One. -/
noncomputable def oneB (m : Nat) (S : Nat → Nat) (e x : Nat) : Bool := propB (∃ k, seqT m S e k = x)
theorem oneB_iff {x : Nat} : oneB m S e x = true ↔ ∃ k, seqT m S e k = x := propB_iff
theorem RTab.one_sbr (R : RTab m S P e) : Sbr m S P e (oneB m S e) where
  lt i h := by
    obtain ⟨k, rfl⟩ := oneB_iff.1 h
    exact R.seq_lt R.he k
  o := oneB_iff.2 ⟨1, seqT_one R.s R.hm R.he⟩
  s i j hi hj := by
    obtain ⟨a, rfl⟩ := oneB_iff.1 hi
    obtain ⟨b, rfl⟩ := oneB_iff.1 hj
    exact oneB_iff.2 ⟨a + b, R.seq_add R.he a b⟩
  t i j hi hj := by
    obtain ⟨a, rfl⟩ := oneB_iff.1 hi
    obtain ⟨b, rfl⟩ := oneB_iff.1 hj
    rw [R.seq_one (R.seq_lt R.he b) a]
    refine oneB_iff.2 ⟨b * a, ?_⟩
    induction a with
    | zero => rfl
    | succ a ih => rw [Nat.mul_succ, R.seq_add R.he, ih (oneB_iff.2 ⟨a, rfl⟩)]; rfl
theorem RTab.sub_nil (R : RTab m S P e) : subG m S P e (memB []) = oneB m S e := bool_ext fun x => by
  constructor
  · exact sub_le R.one_sbr fun i h => by have := memB_iff.1 h; cases this
  · intro h
    obtain ⟨k, rfl⟩ := oneB_iff.1 h
    have hq : Sbr m S P e (subG m S P e (memB [])) := R.sub_sbr
    induction k with
    | zero => exact R.sub_zero hq
    | succ k ih => exact hq.s _ _ (ih (oneB_iff.2 ⟨k, rfl⟩)) hq.o
/-- The subring of nothing is as long as the characteristic. -/
theorem RTab.sub_nil_len (R : RTab m S P e) : (lstP m (subG m S P e (memB []))).length = ordN m S e := by
  rw [R.sub_nil, lst_len]
  have h1 : ((selTo m (oneB m S e) m).map Fin.val).Nodup := by
    rw [List.nodup_iff_pairwise_ne, List.pairwise_map]
    exact (List.nodup_iff_pairwise_ne.1 (selTo_nodup m (Nat.le_refl _))).imp fun hne he => hne (Fin.ext he)
  have h2 : ((List.range (ordN m S e)).map (seqT m S e)).Nodup := by
    rw [List.nodup_iff_pairwise_ne, List.pairwise_map]
    refine List.Pairwise.imp_of_mem ?_ (List.nodup_iff_pairwise_ne.1 List.nodup_range)
    intro i j hi hj hne h
    have hi' := List.mem_range.1 hi
    have hj' := List.mem_range.1 hj
    have key : ∀ i j, i < j → j < ordN m S e → seqT m S e i = seqT m S e j → False := by
      intro i j hij hj e2
      have := seqT_back R.sl R.s R.n R.hm R.he i (j - i) (by rw [show i + (j - i) = j by omega]; exact e2)
      exact (R.ord R.he).2.2.2 (j - i) (by omega) (by omega) this
    rcases Nat.lt_or_gt_of_ne hne with hl | hl
    · exact key i j hl hj' h
    · exact key j i hl hi' h.symm
  have h3 := ((List.perm_ext_iff_of_nodup h1 h2).2 fun x => by
    rw [List.mem_map, List.mem_map]
    constructor
    · rintro ⟨y, hy, rfl⟩
      obtain ⟨k, hk⟩ := oneB_iff.1 ((selTo_in m (Nat.le_refl _)).1 hy).2
      have ho := (R.ord R.he).1
      exact ⟨k % ordN m S e, List.mem_range.2 (Nat.mod_lt _ ho), (R.seq_mod R.he k).trans hk⟩
    · rintro ⟨k, _, rfl⟩
      exact ⟨⟨seqT m S e k, R.seq_lt R.he k⟩, (selTo_in m (Nat.le_refl _)).2 ⟨R.seq_lt R.he k, oneB_iff.2 ⟨k, rfl⟩⟩, rfl⟩).length_eq
  simpa using h3
end

end Go.Proofs.Ytcbodedpahdobaa
