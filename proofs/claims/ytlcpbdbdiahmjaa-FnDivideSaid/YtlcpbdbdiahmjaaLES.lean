
import Derived.Test.YtlcpbdbdiahmjaaLEQ
import Derived.Test.YtlcpbdbdiahmjaaLER
import Derived.Test.YtlcpbdbdiahmjaaMG
/- What FnDivide asks. No program in sight. -/
namespace Go.Proofs.Ytlcpbdbdiahmjaa
open Go.RowKit
set_option maxRecDepth 100000

section
variable {m e : Nat} {X Y L K : List Int}
theorem RTab.cv_out {S P : Nat → Nat} (R : RTab m S P e) {f g : Nat → Fin m} {lg t : Nat} : ∀ i, i + lg ≤ t + 1 → R.cv f g lg t i = R.t
  | 0, _ => rfl
  | i + 1, h => by
    show R.A (R.cv f g lg t i) (if i ≤ t ∧ t < i + lg then R.M (f i) (g (t - i)) else R.t) = R.t
    rw [R.cv_out i (by omega), if_neg (by omega), R.A0]
/-- The coefficients of a product. -/
theorem q_pmu (R : RTab m (tabOf X) (tabOf Y) e) (h : pmuB m e X Y L K = true) (h1 : polB m e X Y L = true) (h2 : polB m e X Y K = true) (t : Nat) : R.q (tabOf (pmuL m e X Y L K) t) = R.cv (fun a => R.q (tabOf L a)) (fun a => R.q (tabOf K a)) K.length t L.length := by
  have hm := R.mul_cv (t := t) (lf := L.length) (lg := K.length) (F := tabOf L) (G := tabOf K) (fun i _ => tab_lt h1 i) (fun i _ => tab_lt h2 i) L.length (Nat.le_refl _)
  rw [pmuL_yes h]
  unfold mulK
  rw [tab_lst]
  by_cases c : t < L.length + K.length
  · rw [if_pos c, ← hm]
    unfold mulG
    rw [Int.toNat_natCast]
  · rw [if_neg c, R.q0, R.cv_out _ (by omega)]
theorem divO_over {S P F G : Nat → Nat} {lf lg inv : Nat} (hl : lg ≤ lf) : ∀ d i, lf + 1 - lg ≤ i → divO m S P F lf G lg inv d i = 0
  | 0, _, _ => rfl
  | d + 1, i, h => by
    show putF _ _ _ i = 0
    unfold putF
    rw [if_neg (by omega)]
    exact divO_over hl d i h
theorem divO_lt {S P F G : Nat → Nat} {lf lg inv : Nat} (R : RTab m S P e) (hF : ∀ i, i < lf → F i < m) (hG : ∀ i, i < lg → G i < m) (hi : inv < m) (hg : 1 ≤ lg) (hl : lg ≤ lf) : ∀ d, d ≤ lf + 1 - lg → ∀ i, divO m S P F lf G lg inv d i < m
  | 0, _, _ => R.hm
  | d + 1, hd, i => by
    show putF _ _ _ i < m
    unfold putF
    split
    · exact R.pc (divR_lt R hF hG hi hg d (by omega) _ (by omega)) hi
    · exact divO_lt R hF hG hi hg hl d (by omega) i
theorem divide_law (h : pdvB m e X Y L K = true) (hm' : m ≤ 16) :
    pmuB m e X Y (pdvQ m e X Y L K) K = true ∧ twoB m e X Y (pmuL m e X Y (pdvQ m e X Y L K) K) (pdvR m e X Y L K) = true
    ∧ padL m e X Y (pmuL m e X Y (pdvQ m e X Y L K) K) (pdvR m e X Y L K) = L ∧ (pdvR m e X Y L K).length < K.length := by
  have eQ : pdvQ m e X Y L K = lstF (pdvF m e X Y L K) (tlN (pdvF m e X Y L K) L.length) := if_pos h
  have eR : pdvR m e X Y L K = lstF (pdvG m e X Y L K) (tlN (pdvG m e X Y L K) L.length) := if_pos h
  unfold pdvB at h
  rw [Bool.and_eq_true, Bool.and_eq_true, decide_eq_true_eq, decide_eq_true_eq] at h
  obtain ⟨ht, hk, hi⟩ := h
  obtain ⟨h1, h2⟩ := two_data ht
  obtain ⟨hv, l8, _, _, lt⟩ := pol_data h1
  obtain ⟨_, k8, _⟩ := pol_data h2
  obtain ⟨_, _, fF, fG, _, _⟩ := two_facts ht rfl rfl
  have R := rtab_of_valid hv
  unfold pdvI at hi
  rw [Int.toNat_natCast, Int.toNat_natCast] at hi
  obtain ⟨c, hc, ec, hu⟩ := inv_data hi
  have eI : (pdvI (m : Int) (e : Int) Y K).toNat = c := by
    unfold pdvI
    rw [Int.toNat_natCast, Int.toNat_natCast, ec, Int.toNat_natCast]
  obtain ⟨lf, hlf⟩ : ∃ x, L.length = x := ⟨_, rfl⟩
  obtain ⟨lg, hlg⟩ : ∃ x, K.length = x := ⟨_, rfl⟩
  have eF : pdvF m e X Y L K = divO m (tabOf X) (tabOf Y) (tabOf L) lf (tabOf K) lg c (lf + 1 - lg) := by unfold pdvF; rw [eI, Int.toNat_natCast, hlf, hlg]
  have eG : pdvG m e X Y L K = divR m (tabOf X) (tabOf Y) (tabOf L) lf (tabOf K) lg c (lf + 1 - lg) := by unfold pdvG; rw [eI, Int.toNat_natCast, hlf, hlg]
  rw [eF, hlf] at eQ
  rw [eG, hlf] at eR
  rw [hlf] at l8 lt fF
  rw [hlg] at k8 hk hu fG
  have hg : 1 ≤ lg := by omega
  obtain ⟨Q, hQ⟩ : ∃ x, divO m (tabOf X) (tabOf Y) (tabOf L) lf (tabOf K) lg c (lf + 1 - lg) = x := ⟨_, rfl⟩
  obtain ⟨T, hT⟩ : ∃ x, divR m (tabOf X) (tabOf Y) (tabOf L) lf (tabOf K) lg c (lf + 1 - lg) = x := ⟨_, rfl⟩
  rw [hQ] at eQ
  rw [hT] at eR
  have bT : ∀ i, i < lf → T i < m := by rw [← hT]; exact divR_lt R fF fG hc hg _ (Nat.le_refl _)
  have bQ : ∀ i, Q i < m := fun i => by
    rw [← hQ]
    by_cases hl : lg ≤ lf
    · exact divO_lt R fF fG hc hg hl _ (Nat.le_refl _) i
    · rw [show lf + 1 - lg = 0 by omega]; exact R.hm
  have zQ : ∀ i, lf + 1 - lg ≤ i → Q i = 0 := fun i hi => by
    rw [← hQ]
    by_cases hl : lg ≤ lf
    · exact divO_over hl _ i hi
    · rw [show lf + 1 - lg = 0 by omega]; rfl
  have sum : ∀ t, t < lf → R.A (R.cv (fun a => R.q (Q a)) (fun a => R.q (tabOf K a)) lg t (lf + 1 - lg)) (R.q (T t)) = R.q (tabOf L t) := fun t htl => by
    rw [← hQ, ← hT]
    by_cases hl : lg ≤ lf
    · exact R.div_sum fF fG hc hg hl _ (Nat.le_refl _) t htl
    · rw [show lf + 1 - lg = 0 by omega]
      exact R.Z0 _
  -- the rest is short
  have hr : tlN T lf < lg := by
    obtain ⟨d, hi1, hr⟩ := dgo_inv R fF fG hc hg hu lf 0 _ (DInv.start (S := tabOf X) (P := tabOf Y) (G := tabOf K) (lg := lg) (inv := c) fF lt) (Nat.le_refl _)
    generalize dgo m (tabOf X) (tabOf Y) (tabOf K) lg c lf ⟨fun _ => 0, 0, tabOf L, lf⟩ = s at hi1 hr
    have hrl := hi1.rl
    have hdn := hi1.dn
    have hq : DInv m (tabOf X) (tabOf Y) (tabOf L) lf (tabOf K) lg c (lf + 1 - lg) s := by
      have := hi1.skips R fF fG hc hg (lf + 1 - lg - d) d (by omega) (by omega)
      rwa [show d + (lf + 1 - lg - d) = lf + 1 - lg by omega] at this
    have := tl_unique (F := T) (l := lf) (k := s.r) (by have := hq.rl; omega) (fun i a b => by rw [← hT]; exact hq.rz i a b) (fun a => by rw [← hT, ← hq.re _ (by omega)]; exact hq.rt a)
    omega
  have lQ : tlN Q lf ≤ lf + 1 - lg := by
    rcases Nat.lt_or_ge (lf + 1 - lg) (tlN Q lf) with c1 | c1
    · exact absurd (zQ (tlN Q lf - 1) (by omega)) (tl_last lf (by omega))
    · exact c1
  have vQ : polB m e X Y (pdvQ m e X Y L K) = true := by
    rw [eQ]
    have := tl_le (F := Q) lf
    exact polB_lst hv (by omega) fun i _ => bQ i
  have vR : polB m e X Y (pdvR m e X Y L K) = true := by
    rw [eR]
    have := tl_le (F := T) lf
    exact polB_lst hv (by omega) bT
  have nQ : (pdvQ m e X Y L K).length = tlN Q lf := by rw [eQ, lstF_len]
  have fits := pmu_fits vQ h2 (by rw [nQ, hlg]; omega)
  have vP := (eval_law (two_yes vQ h2) hm').2.2.1 fits
  have tw := two_yes vP vR
  refine ⟨fits, tw, ?_, by rw [eR, lstF_len, hlg]; exact hr⟩
  refine R.tab_ext (eval_law tw hm').2.1 h1 fun t => ?_
  rw [q_pad R tw, q_pmu R fits vQ h2, nQ, hlg]
  have tq : ∀ a, R.q (tabOf (pdvQ m e X Y L K) a) = R.q (Q a) := fun a => by
    rw [eQ, tab_lst]
    by_cases c1 : a < lf
    · rw [if_pos c1]
    · rw [if_neg c1, zQ a (by omega)]
  have e1 : R.cv (fun a => R.q (tabOf (pdvQ m e X Y L K) a)) (fun a => R.q (tabOf K a)) lg t (tlN Q lf) = R.cv (fun a => R.q (Q a)) (fun a => R.q (tabOf K a)) lg t (lf + 1 - lg) := by
    rw [R.cv_congr (f' := fun a => R.q (Q a)) _ (fun a _ => tq a)]
    have hx := R.cv_ex (f := fun a => R.q (Q a)) (g := fun a => R.q (tabOf K a)) (lg := lg) (t := t) (i := tlN Q lf) (lf + 1 - lg - tlN Q lf) (fun a a1 a2 => by
      show R.q (Q a) = R.t
      rcases Nat.lt_or_ge a lf with c1 | c1
      · rw [tl_above lf a a1 c1, R.q0]
      · rw [zQ a (by omega), R.q0])
    rw [show tlN Q lf + (lf + 1 - lg - tlN Q lf) = lf + 1 - lg by omega] at hx
    exact hx.symm
  rw [e1, eR, tab_lst]
  by_cases c1 : t < lf
  · rw [if_pos c1]
    exact sum t c1
  · rw [if_neg c1, R.q0, R.A0, tab_out (Z := L) (by omega), R.q0]
    rcases Nat.lt_or_ge lf lg with c2 | c2
    · rw [show lf + 1 - lg = 0 by omega]
      rfl
    · exact R.cv_out _ (by omega)
end

end Go.Proofs.Ytlcpbdbdiahmjaa

