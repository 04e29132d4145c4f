
import Derived.Test.YtajoimopahibcaaGreatLEG
import Derived.Test.YtajoimopahibcaaGreatMO
import Derived.Test.YtajoimopahibcaaGreatNA
/- What FnPrimeIdeal and FnRadical want of the lists of ideals. -/
namespace Go.Proofs.YtajoimopahibcaaGreat
open Go.RowKit

theorem eqL_iff {a b : List Int} : eqL a b = true ↔ a = b := decide_eq_true_iff
/-- Whether a list lies above another one: the sum of both is itself. -/
noncomputable def abvI (n o : Int) (X Y L Z : List Int) : Bool := eqL (sumL n o X Y L Z) Z

section
variable {m e : Nat} {X Y L Z : List Int} {p q : Nat → Bool}
theorem abv_iff (hv : validB m e X Y = true) (hp : Idl m (tabOf X) (tabOf Y) p) (hq : Idl m (tabOf X) (tabOf Y) q) : abvI m e X Y (lstP m p) (lstP m q) = true ↔ ∀ i, p i = true → q i = true := by
  have R := rtab_of_valid hv
  unfold abvI
  rw [eqL_iff, sum_at hv hp hq]
  constructor
  · intro h i hi
    have e1 := lst_uniq (R.sum_idl hp hq).lt hq.lt h
    rw [← e1]
    exact R.sum_left hp hq hi
  · intro h
    rw [R.sum_in hp hq h]
/-- How many of the first lists lie above. -/
noncomputable def abvC (n o : Int) (X Y L : List Int) (ZZ : List (List Int)) : Nat := (ZZ.filter fun Z => abvI n o X Y L Z).length
theorem abvC_yes {n o : Int} {X Y L Z : List Int} {ZZ : List (List Int)} (h : abvI n o X Y L Z = true) : abvC n o X Y L (ZZ ++ [Z]) = abvC n o X Y L ZZ + 1 := by
  unfold abvC
  rw [List.filter_append, List.length_append]
  simp [h]
theorem abvC_no {n o : Int} {X Y L Z : List Int} {ZZ : List (List Int)} (h : abvI n o X Y L Z = false) : abvC n o X Y L (ZZ ++ [Z]) = abvC n o X Y L ZZ := by
  unfold abvC
  rw [List.filter_append, List.length_append]
  simp [h]
theorem abvC_le {n o : Int} {X Y L : List Int} {ZZ : List (List Int)} : abvC n o X Y L ZZ ≤ ZZ.length := List.length_filter_le _ _
theorem als_mem (hv : validB m e X Y = true) (hm' : m ≤ 16) : ∀ l, l ∈ alsL m e X Y ↔ ∃ p, Idl m (tabOf X) (tabOf Y) p ∧ l = lstP m p := by
  rw [als_yes hv]
  exact ((rtab_of_valid hv).isAll hm').2
theorem als_nodup (hv : validB m e X Y = true) (hm' : m ≤ 16) : (alsL m e X Y).Nodup := by
  rw [als_yes hv]
  exact srt_nodup ((rtab_of_valid hv).isAll hm').1
/-- What FnPrimeIdeal wants. -/
theorem primeIdeal_law (h : isIdB m e X Y L = true) (hm' : m ≤ 16) : priB m e X Y L = mxmB m e X Y L ∧ (abvC m e X Y L (alsL m e X Y) = 2 ↔ mxmB m e X Y L = true) ∧ (∀ g : Nat, genV m e X Y L = (g : Int) → ideL m e X Y [(g : Int)] = L ∧ ideB m e X Y [(g : Int)] = true) ∧ (genV m e X Y L = -1 ∨ ∃ g : Nat, g < m ∧ genV m e X Y L = (g : Int)) := by
  obtain ⟨hv, hp, eL⟩ := isId_data h
  have R := rtab_of_valid hv
  obtain ⟨p, ep⟩ : ∃ p, setL L = p := ⟨_, rfl⟩
  have hgv := genV_yes h ep
  have hpm : priB m e X Y L = primeB m (tabOf Y) p := by unfold priB; rw [h, Int.toNat_natCast, ep]; rfl
  have hmm : mxmB m e X Y L = maxB m (tabOf X) (tabOf Y) p := by unfold mxmB; rw [h, Int.toNat_natCast, ep]; rfl
  rw [ep] at hp eL
  have hg : ∀ k f, k + f = m → genN m (tabOf Y) p f k = -1 ∨ ∃ g, g < m ∧ mulB m (tabOf Y) g = p ∧ genN m (tabOf Y) p f k = (g : Int) := by
    intro k f
    induction f generalizing k with
    | zero => intro _; exact .inl rfl
    | succ f ih =>
      intro hk
      by_cases c : mulB m (tabOf Y) k = p
      · exact .inr ⟨k, by omega, c, genN_yes c⟩
      · rw [genN_step c]
        exact ih (k + 1) (by omega)
  refine ⟨by rw [hpm, hmm, R.prime_is_max hp], ?_, ?_, ?_⟩
  · rw [hmm]
    unfold abvC
    refine R.above_two hp ((als_nodup hv hm').filter _) fun l => ?_
    rw [List.mem_filter, als_mem hv hm']
    constructor
    · rintro ⟨⟨q, hq, rfl⟩, h2⟩
      refine ⟨q, hq, rfl, ?_⟩
      rw [eL] at h2
      exact (abv_iff hv hp hq).1 h2
    · rintro ⟨q, hq, rfl, h2⟩
      refine ⟨⟨q, hq, rfl⟩, ?_⟩
      rw [eL]
      exact (abv_iff hv hp hq).2 h2
  · intro g hgg
    rcases hg 0 m (by omega) with h1 | ⟨g', hgm, hmul, h1⟩
    · rw [hgv, h1] at hgg; omega
    · have e1 : g' = g := by rw [hgv, h1] at hgg; omega
      subst e1
      have hb : ideB m e X Y [(g' : Int)] = true := ide_yes hv (all_iff.2 fun x hx => by
        rw [List.mem_singleton] at hx
        subst hx
        omega)
      refine ⟨?_, hb⟩
      rw [ideL_yes hb]
      unfold genL
      rw [Int.toNat_natCast, show setL [(g' : Int)] = memB [g'] from by unfold setL natL; simp, R.gen_one hgm, hmul, eL]
  · rw [hgv]
    rcases hg 0 m (by omega) with h1 | ⟨g', hgm, _, h1⟩
    · exact .inl h1
    · exact .inr ⟨g', hgm, h1⟩

/-- The meet of the prime ideals above, of a list, so far. -/
noncomputable def mtF (n o : Int) (X Y L : List Int) : List (List Int) → List Int → List Int
  | [], M => M
  | Z :: ZZ, M => mtF n o X Y L ZZ (if priB n o X Y Z && abvI n o X Y L Z then metL n o X Y M Z else M)
theorem mtF_snoc {n o : Int} {X Y L Z : List Int} : ∀ (ZZ : List (List Int)) (M : List Int), mtF n o X Y L (ZZ ++ [Z]) M = if priB n o X Y Z && abvI n o X Y L Z then metL n o X Y (mtF n o X Y L ZZ M) Z else mtF n o X Y L ZZ M
  | [], _ => rfl
  | _ :: ZZ, M => by
    show mtF n o X Y L (ZZ ++ [Z]) _ = _
    rw [mtF_snoc ZZ]
    rfl
theorem mtF_at (hv : validB m e X Y = true) (hp : Idl m (tabOf X) (tabOf Y) p) : ∀ (ZZ : List (List Int)) (r : Nat → Bool), (∀ l ∈ ZZ, ∃ q, Idl m (tabOf X) (tabOf Y) q ∧ l = lstP m q) → Idl m (tabOf X) (tabOf Y) r → ∃ s, Idl m (tabOf X) (tabOf Y) s ∧ mtF m e X Y (lstP m p) ZZ (lstP m r) = lstP m s ∧
    ∀ i, s i = true ↔ r i = true ∧ ∀ q, lstP m q ∈ ZZ → Idl m (tabOf X) (tabOf Y) q → (∀ i, p i = true → q i = true) → primeB m (tabOf Y) q = true → q i = true
  | [], r, _, hr => ⟨r, hr, rfl, fun i => ⟨fun h => ⟨h, fun q hq => absurd hq (by simp)⟩, fun h => h.1⟩⟩
  | Z :: ZZ, r, hZ, hr => by
    obtain ⟨q, hq, rfl⟩ := hZ Z (List.mem_cons_self ..)
    have hrest : ∀ l ∈ ZZ, ∃ q, Idl m (tabOf X) (tabOf Y) q ∧ l = lstP m q := fun l hl => hZ l (List.mem_cons_of_mem _ hl)
    have hpr : priB m e X Y (lstP m q) = primeB m (tabOf Y) q := by
      unfold priB
      rw [isId_of hv hq, Int.toNat_natCast, setL_lst hq.lt]
      rfl
    cases hc : (priB m e X Y (lstP m q) && abvI m e X Y (lstP m p) (lstP m q)) with
    | true =>
      obtain ⟨s, hs, e1, h1⟩ := mtF_at hv hp ZZ (fun i => r i && q i) hrest (meet_idl hr hq)
      refine ⟨s, hs, ?_, fun i => ?_⟩
      · show mtF m e X Y (lstP m p) ZZ _ = _
        rw [if_pos hc, met_at hv hr hq]
        exact e1
      · rw [Bool.and_eq_true, hpr, abv_iff hv hp hq] at hc
        rw [h1, Bool.and_eq_true]
        constructor
        · rintro ⟨⟨h2, h3⟩, h4⟩
          refine ⟨h2, fun q' hm hq' ha hpq => ?_⟩
          rcases List.mem_cons.1 hm with h5 | h5
          · rw [lst_uniq hq'.lt hq.lt h5]; exact h3
          · exact h4 q' h5 hq' ha hpq
        · rintro ⟨h2, h3⟩
          exact ⟨⟨h2, h3 q (List.mem_cons_self ..) hq hc.2 hc.1⟩, fun q' hm => h3 q' (List.mem_cons_of_mem _ hm)⟩
    | false =>
      obtain ⟨s, hs, e1, h1⟩ := mtF_at hv hp ZZ r hrest hr
      refine ⟨s, hs, ?_, fun i => ?_⟩
      · show mtF m e X Y (lstP m p) ZZ _ = _
        rw [if_neg (by rw [hc]; simp)]
        exact e1
      · rw [h1]
        constructor
        · rintro ⟨h2, h4⟩
          refine ⟨h2, fun q' hm hq' ha hpq => ?_⟩
          rcases List.mem_cons.1 hm with h5 | h5
          · exfalso
            have e2 := lst_uniq hq'.lt hq.lt h5
            subst e2
            have : (priB m e X Y (lstP m q') && abvI m e X Y (lstP m p) (lstP m q')) = true := by
              rw [Bool.and_eq_true, hpr, abv_iff hv hp hq]
              exact ⟨hpq, ha⟩
            rw [hc] at this
            cases this
          · exact h4 q' h5 hq' ha hpq
        · rintro ⟨h2, h3⟩
          exact ⟨h2, fun q' hm => h3 q' (List.mem_cons_of_mem _ hm)⟩
/-- The radical as a set of elements of the ring. -/
noncomputable def radM (m : Nat) (P : Nat → Nat) (e : Nat) (p : Nat → Bool) (i : Nat) : Bool := decide (i < m) && radB m P e p i
theorem rad_at (h : isIdB m e X Y L = true) (hp : setL L = p) : radL m e X Y L = lstP m (radM m (tabOf Y) e p) := by
  unfold radL
  rw [if_pos h, Int.toNat_natCast, Int.toNat_natCast, hp]
  exact lst_congr fun i hi => by unfold radM; rw [decide_eq_true hi, Bool.true_and]
theorem whole_at (hv : validB m e X Y = true) : ideL m e X Y [(e : Int)] = lstP m (allM m) ∧ ideB m e X Y [(e : Int)] = true := by
  have R := rtab_of_valid hv
  have he := R.he
  have hb : ideB m e X Y [(e : Int)] = true := ide_yes hv (all_iff.2 fun x hx => by
    rw [List.mem_singleton] at hx
    subst hx
    omega)
  refine ⟨?_, hb⟩
  rw [ideL_yes hb]
  unfold genL
  rw [Int.toNat_natCast, show setL [(e : Int)] = memB [e] from by unfold setL natL; simp, R.gen_one he]
  congr 1
  exact bool_ext fun i => ⟨fun hi => decide_eq_true ((R.mul_idl he).lt i hi), fun hi => mulB_iff.2 ⟨i, of_decide_eq_true hi, by rw [R.Mcs he (of_decide_eq_true hi)]; exact R.M11 (of_decide_eq_true hi)⟩⟩
/-- What FnRadical wants. -/
theorem radical_law (h : isIdB m e X Y L = true) (hm' : m ≤ 16) : isIdB m e X Y (radL m e X Y L) = true ∧ radL m e X Y (radL m e X Y L) = radL m e X Y L ∧ sumL m e X Y L (radL m e X Y L) = radL m e X Y L ∧ mtF m e X Y L (alsL m e X Y) (ideL m e X Y [(e : Int)]) = radL m e X Y L ∧ ideB m e X Y [(e : Int)] = true := by
  obtain ⟨hv, hp, eL⟩ := isId_data h
  have R := rtab_of_valid hv
  obtain ⟨p, ep⟩ : ∃ p, setL L = p := ⟨_, rfl⟩
  have hr := rad_at h ep
  rw [ep] at hp eL
  obtain ⟨w1, w2⟩ := whole_at hv
  obtain ⟨s, hs, e1, h1⟩ := mtF_at hv hp (alsL m e X Y) (allM m) (fun l hl => (als_mem hv hm' l).1 hl) (allM_idl R)
  have hsr : s = radM m (tabOf Y) e p := bool_ext fun i => by
    rw [h1]
    unfold radM
    rw [Bool.and_eq_true]
    constructor
    · rintro ⟨h2, h3⟩
      refine ⟨h2, (R.rad_primes hm' hp (of_decide_eq_true h2)).2 fun q hq ha hpr => h3 q ((als_mem hv hm' _).2 ⟨q, hq, rfl⟩) hq ha hpr⟩
    · rintro ⟨h2, h3⟩
      exact ⟨h2, fun q _ hq ha hpr => (R.rad_primes hm' hp (of_decide_eq_true h2)).1 h3 q hq ha hpr⟩
  rw [hsr] at hs e1
  have hid := isId_of hv hs
  have hps : ∀ i, p i = true → radM m (tabOf Y) e p i = true := fun i hi => by
    unfold radM
    rw [Bool.and_eq_true]
    exact ⟨decide_eq_true (hp.lt i hi), (R.rad_iff hm' hp (hp.lt i hi)).2 ⟨1, by rw [R.pw_one (hp.lt i hi)]; exact hi⟩⟩
  refine ⟨by rw [hr]; exact hid, ?_, ?_, ?_, w2⟩
  · rw [hr, rad_at hid (setL_lst hs.lt)]
    congr 1
    refine bool_ext fun i => ⟨fun hi => ?_, fun hi => ?_⟩
    · unfold radM at hi ⊢
      rw [Bool.and_eq_true] at hi ⊢
      have him := of_decide_eq_true hi.1
      refine ⟨hi.1, ?_⟩
      obtain ⟨k, hk⟩ := (R.rad_iff hm' (p := fun i => decide (i < m) && radB m (tabOf Y) e p i) hs him).1 hi.2
      rw [Bool.and_eq_true] at hk
      obtain ⟨k2, hk2⟩ := (R.rad_iff hm' hp (R.pw_lt him k)).1 hk.2
      rw [R.pw_mul him] at hk2
      exact (R.rad_iff hm' hp him).2 ⟨_, hk2⟩
    · have him := hs.lt i hi
      show (decide (i < m) && radB m (tabOf Y) e (radM m (tabOf Y) e p) i) = true
      rw [Bool.and_eq_true]
      exact ⟨decide_eq_true him, (R.rad_iff hm' hs him).2 ⟨1, by rw [R.pw_one him]; exact hi⟩⟩
  · rw [hr]
    have := sum_at hv hp hs
    rw [R.sum_in hp hs hps] at this
    rw [eL]
    exact this
  · rw [hr, w1, eL]
    exact e1
end
end Go.Proofs.YtajoimopahibcaaGreat

