
import Derived.Test.YtajoimopahibcaaLEG
import Derived.Test.YtajoimopahibcaaLSC
import Derived.Test.YtajoimopahibcaaMG
import Derived.Test.YtajoimopahibcaaMB
/- What FnSolveLinear wants: solutions of a linear equation, and those of its zeros. -/
namespace Go.Proofs.Ytajoimopahibcaa
open Go.RowKit

section
variable {m e : Nat} {S P : Nat → Nat} {a b : Nat}
/-- The elements whose product with a is 0. -/
def annP (m : Nat) (P : Nat → Nat) (a i : Nat) : Bool := decide (i < m) && decide (P (a * m + i) = 0)
theorem annP_iff {i : Nat} : annP m P a i = true ↔ i < m ∧ P (a * m + i) = 0 := by
  unfold annP
  rw [Bool.and_eq_true, decide_eq_true_iff, decide_eq_true_iff]
theorem RTab.ann_idl (R : RTab m S P e) (ha : a < m) : Idl m S P (annP m P a) where
  lt := fun i h => (annP_iff.1 h).1
  z := annP_iff.2 ⟨R.hm, R.M00 ha⟩
  s := fun i j hi hj => by
    obtain ⟨i1, i2⟩ := annP_iff.1 hi
    obtain ⟨j1, j2⟩ := annP_iff.1 hj
    exact annP_iff.2 ⟨R.sc i1 j1, by rw [R.Md ha i1 j1, i2, j2]; exact R.A00 R.hm⟩
  t := fun i j hi hj => by
    obtain ⟨i1, i2⟩ := annP_iff.1 hi
    exact annP_iff.2 ⟨R.pc i1 hj, by rw [← R.Mas ha i1 hj, i2, R.Mcs R.hm hj]; exact R.M00 hj⟩
theorem RTab.ann_class (R : RTab m S P e) (ha : a < m) {x y : Nat} (hx : x < m) (hy : y < m) : cosB m S (annP m P a) x y = true ↔ P (a * m + y) = P (a * m + x) := by
  rw [cos_iff]
  constructor
  · rintro ⟨z, hz, rfl⟩
    obtain ⟨z1, z2⟩ := annP_iff.1 hz
    rw [R.Md ha hx z1, z2]
    exact R.A00 (R.pc ha hx)
  · intro h
    obtain ⟨c, cm, _, hc⟩ := R.negEx hx
    refine ⟨S (c * m + y), annP_iff.2 ⟨R.sc cm hy, ?_⟩, ?_⟩
    · rw [R.Md ha cm hy, h, ← R.Md ha cm hx, R.Acs cm hx, hc]
      exact R.M00 ha
    · rw [← R.Aas hx cm hy, hc, R.Acs R.hm hy]
      exact R.A00 hy
theorem RTab.ann_count (R : RTab m S P e) (ha : a < m) : (lstP m (annP m P a)).length * (lstP m (mulB m P a)).length = m := by
  have h := fibersN (c := (lstP m (annP m P a)).length) (fun x => P (a * m + x)) (finN (selTo m (mulB m P a) m)) (List.range m) elsN_nodup (fun x hx => ?_) (fun k hk => ?_)
  · rw [List.length_range, elsN_len] at h
    exact h.symm
  · rw [List.mem_range] at hx
    exact lst_in.2 ⟨R.pc ha hx, mulB_iff.2 ⟨x, hx, rfl⟩⟩
  · obtain ⟨k1, k2⟩ := lst_in.1 hk
    obtain ⟨x0, h0, rfl⟩ := mulB_iff.1 k2
    rw [← R.cos_len (R.ann_idl ha) h0]
    refine ((List.perm_ext_iff_of_nodup (List.nodup_range.filter _) elsN_nodup).2 fun x => ?_).length_eq
    rw [List.mem_filter, lst_in, List.mem_range, decide_eq_true_iff]
    constructor
    · rintro ⟨h1, h2⟩
      exact ⟨h1, (R.ann_class ha h0 h1).2 h2⟩
    · rintro ⟨h1, h2⟩
      exact ⟨h1, (R.ann_class ha h0 h1).1 h2⟩
end

section
variable {m e : Nat} {X Y : List Int} {a b : Nat}
theorem sln_lst (hv : validB m e X Y = true) (ha : a < m) (hb : b < m) : slnL m e X Y a b = lstP m (slnP m (tabOf X) (tabOf Y) a b) := slnL_yes hv (inB_true ⟨by omega, by omega⟩) (inB_true ⟨by omega, by omega⟩)
theorem sln_iff {S P : Nat → Nat} {x : Nat} : slnP m S P a b x = true ↔ S (P (a * m + x) * m + b) = 0 := decide_eq_true_iff
/-- What FnSolveLinear wants. -/
theorem solveLinear_law (hv : validB m e X Y = true) (ha : a < m) (hb : b < m) :
    ideL m e X Y [(a : Int)] = lstP m (mulB m (tabOf Y) a) ∧ isIdB m e X Y (slnL m e X Y a (0 : Nat)) = true ∧
    (∀ x ∈ slnL m e X Y a b, ∃ k : Nat, x = (k : Int) ∧ k < m ∧ ((tabOf Y (a * m + k) : Nat) : Int) = negN m (tabOf X) b) ∧
    (slnL m e X Y a b ≠ [] ↔ (b : Int) ∈ ideL m e X Y [(a : Int)]) ∧ (slnL m e X Y a b = [] ∨ (slnL m e X Y a b).length = (slnL m e X Y a (0 : Nat)).length) ∧
    (slnL m e X Y a (0 : Nat)).length * (ideL m e X Y [(a : Int)]).length = m ∧ ((slnL m e X Y a (0 : Nat)).length = 1 ↔ 0 ≤ invN m (tabOf Y) e a) := by
  have R := rtab_of_valid hv
  have hide : ideL m e X Y [(a : Int)] = lstP m (mulB m (tabOf Y) a) := by
    have hb : ideB m e X Y [(a : Int)] = true := ide_yes hv (all_iff.2 fun x hx => by
      rw [List.mem_singleton] at hx
      subst hx
      omega)
    rw [ideL_yes hb]
    unfold genL
    rw [Int.toNat_natCast, show setL [(a : Int)] = memB [a] from by unfold setL natL; simp, R.gen_one ha]
  have hz : slnL m e X Y a (0 : Nat) = lstP m (annP m (tabOf Y) a) := by
    rw [sln_lst hv ha R.hm]
    refine lst_congr fun i hi => ?_
    rw [Bool.eq_iff_iff, sln_iff, annP_iff, R.A00 (R.pc ha hi)]
    exact ⟨fun h => ⟨hi, h⟩, fun h => h.2⟩
  have hann := R.ann_idl ha
  obtain ⟨nb, nbm, hnb, hnb0⟩ := R.negEx hb
  have hsol : ∀ x, x < m → (slnP m (tabOf X) (tabOf Y) a b x = true ↔ tabOf Y (a * m + x) = nb) := fun x hx => by
    rw [sln_iff]
    constructor
    · intro h
      have h1 := R.neg_eq hb (R.pc ha hx) (by rw [R.Acs hb (R.pc ha hx)]; exact h)
      rw [h1] at hnb
      omega
    · intro h
      rw [h, R.Acs nbm hb]
      exact hnb0
  have mem_lst : ∀ {p : Nat → Bool} {y : Int}, y ∈ lstP m p ↔ ∃ k : Nat, y = (k : Int) ∧ k < m ∧ p k = true := fun {p y} => by
    show y ∈ finI (selTo m p m) ↔ _
    rw [finI_N, List.mem_map]
    constructor
    · rintro ⟨k, hk, rfl⟩
      obtain ⟨h1, h2⟩ := lst_in.1 hk
      exact ⟨k, rfl, h1, h2⟩
    · rintro ⟨k, rfl, h1, h2⟩
      exact ⟨k, lst_in.2 ⟨h1, h2⟩, rfl⟩
  have hne : slnL m e X Y a b ≠ [] ↔ ∃ x, x < m ∧ tabOf Y (a * m + x) = nb := by
    rw [sln_lst hv ha hb]
    constructor
    · intro h
      obtain ⟨y, hy⟩ := List.exists_mem_of_ne_nil _ h
      obtain ⟨k, rfl, hk, hk2⟩ := mem_lst.1 hy
      exact ⟨k, hk, (hsol k hk).1 hk2⟩
    · rintro ⟨x, hx, h⟩ he
      have : (x : Int) ∈ lstP m (slnP m (tabOf X) (tabOf Y) a b) := mem_lst.2 ⟨x, rfl, hx, (hsol x hx).2 h⟩
      rw [he] at this
      cases this
  refine ⟨hide, by rw [hz]; exact isId_of hv hann, fun x hx => ?_, ?_, ?_, by rw [hz, hide]; exact R.ann_count ha, ?_⟩
  · rw [sln_lst hv ha hb] at hx
    obtain ⟨k, rfl, hk, hk2⟩ := mem_lst.1 hx
    exact ⟨k, rfl, hk, by rw [(hsol k hk).1 hk2, hnb]⟩
  · rw [hne, hide, mem_lst]
    constructor
    · rintro ⟨x, hx, h⟩
      obtain ⟨c, cm, _, hc⟩ := R.negEx hx
      refine ⟨b, rfl, hb, mulB_iff.2 ⟨c, cm, ?_⟩⟩
      have h1 := R.mul_neg ha hx cm hc
      rw [h] at h1
      have h2 := R.neg_eq nbm (R.pc ha cm) h1
      have h3 := R.neg_eq nbm hb (by rw [R.Acs nbm hb]; exact hnb0)
      rw [h3] at h2
      omega
    · rintro ⟨k, hk, _, hk2⟩
      have e1 : k = b := by omega
      subst e1
      obtain ⟨y, hy, hy2⟩ := mulB_iff.1 hk2
      obtain ⟨c, cm, _, hc⟩ := R.negEx hy
      refine ⟨c, cm, ?_⟩
      have h1 := R.mul_neg ha hy cm hc
      rw [hy2] at h1
      have h2 := R.neg_eq hb (R.pc ha cm) h1
      rw [h2] at hnb
      omega
  · by_cases he : slnL m e X Y a b = []
    · exact .inl he
    · refine .inr ?_
      obtain ⟨x, hx, h⟩ := hne.1 he
      rw [hz, sln_lst hv ha hb, ← R.cos_len hann hx, ← elsN_len]
      refine ((List.perm_ext_iff_of_nodup elsN_nodup elsN_nodup).2 fun y => ?_).length_eq
      rw [lst_in, lst_in]
      constructor
      · rintro ⟨h1, h2⟩
        exact ⟨h1, (R.ann_class ha hx h1).2 (by rw [(hsol y h1).1 h2, h])⟩
      · rintro ⟨h1, h2⟩
        exact ⟨h1, (hsol y h1).2 (by rw [(R.ann_class ha hx h1).1 h2, h])⟩
  · rw [hz]
    constructor
    · intro h1
      have h2 := R.ann_count ha
      rw [h1, Nat.one_mul] at h2
      obtain ⟨y, hy, hy2⟩ := mulB_iff.1 (whole_iff.1 (lst_whole.1 h2) e R.he)
      rw [R.inv_eq ha hy hy2]
      omega
    · intro h1
      obtain ⟨c, cm, _, hc⟩ := inv_data h1
      have e1 : annP m (tabOf Y) a = mulB m (tabOf Y) 0 := bool_ext fun i => by
        rw [annP_iff, mulB_iff]
        constructor
        · rintro ⟨h2, h3⟩
          refine ⟨0, R.hm, ?_⟩
          rw [R.M00 R.hm]
          have : tabOf Y (c * m + tabOf Y (a * m + i)) = i := by
            rw [← R.Mas cm ha h2, R.Mcs cm ha, hc, R.Mcs R.he h2]
            exact R.M11 h2
          rw [h3, R.M00 cm] at this
          exact this
        · rintro ⟨y, hy, rfl⟩
          rw [R.Mcs R.hm hy, R.M00 hy]
          exact ⟨R.hm, R.M00 ha⟩
      have h2 := R.ann_count ha
      have h3 : wholeB m (mulB m (tabOf Y) a) = true := R.whole_one (R.mul_idl ha) (mulB_iff.2 ⟨c, cm, hc⟩)
      rw [lst_whole.2 h3] at h2
      have hm := R.hm
      exact Nat.eq_of_mul_eq_mul_right hm (by rw [h2, Nat.one_mul])
end
end Go.Proofs.Ytajoimopahibcaa

