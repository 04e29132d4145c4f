
import Derived.Test.YtkjanhcajopfhaaLEP
/- What FnDerive asks. No program in sight. -/
namespace Go.Proofs.Ytkjanhcajopfhaa
open Go.RowKit
set_option maxRecDepth 100000

section
variable {m e : Nat} {X Y L K : List Int}
theorem RTab.tab_ext {S P : Nat → Nat} (R : RTab m S P e) (h1 : polB m e X Y L = true) (h2 : polB m e X Y K = true) (h : ∀ i, R.q (tabOf L i) = R.q (tabOf K i)) : L = K :=
  pol_ext h1 h2 fun i => R.q_inj (tab_lt h1 i) (tab_lt h2 i) (h i)
theorem pol_der (h : polB m e X Y L = true) : polB m e X Y (pdeL m e X Y L) = true ∧ (pdeL m e X Y L).length ≤ L.length - 1 := by
  obtain ⟨hv, h8, _⟩ := pol_data h
  have R := rtab_of_valid hv
  rw [pdeL_yes h rfl, lstF_len]
  have hl := tl_le (F := derF m (tabOf X) (tabOf L)) (L.length - 1)
  exact ⟨polB_lst hv (by omega) fun i _ => R.seq_lt (tab_lt h (i + 1)) _, hl⟩
theorem q_pde (R : RTab m (tabOf X) (tabOf Y) e) (h : polB m e X Y L = true) (i : Nat) : R.q (tabOf (pdeL m e X Y L) i) = R.ks (R.q (tabOf L (i + 1))) (i + 1) := by
  rw [pdeL_yes h rfl, tab_lst]
  by_cases c : i < L.length - 1
  · rw [if_pos c, R.q_der (tab_lt h (i + 1))]
  · rw [if_neg c, tab_out (Z := L) (by omega), R.q0, R.ks_zero]
theorem ex_tab (i : Nat) : exF (tabOf L) L.length i = tabOf L i := by
  unfold exF
  by_cases c : i < L.length
  · rw [if_pos c]
  · rw [if_neg c, tab_out (by omega)]
theorem q_pad (R : RTab m (tabOf X) (tabOf Y) e) (h : twoB m e X Y L K = true) (i : Nat) : R.q (tabOf (padL m e X Y L K) i) = R.A (R.q (tabOf L i)) (R.q (tabOf K i)) := by
  obtain ⟨h1, h2⟩ := two_data h
  rw [padL_yes h]
  unfold sumK
  rw [tab_lst]
  by_cases c : i < max L.length K.length
  · rw [if_pos c]
    unfold sumF
    rw [Int.toNat_natCast]
    unfold addF
    rw [ex_tab]
    by_cases d : i < K.length
    · rw [if_pos d, R.qS (tab_lt h1 i) (tab_lt h2 i)]
    · rw [if_neg d, tab_out (Z := K) (by omega), R.q0, R.A0]
  · rw [if_neg c, tab_out (Z := K) (by omega), tab_out (Z := L) (by omega), R.q0, R.A0]
theorem q_pmu1 (R : RTab m (tabOf X) (tabOf Y) e) (h : pmuB m e X Y L K = true) (h1 : polB m e X Y L = true) (h2 : polB m e X Y K = true) (hk : K.length = 1) (i : Nat) : R.q (tabOf (pmuL m e X Y L K) i) = R.M (R.q (tabOf L i)) (R.q (tabOf K 0)) := by
  have hm := R.mul_one (lf := L.length) (F := tabOf L) (G := tabOf K) (tab_lt h1) (fun i _ => tab_lt h2 i) i L.length (Nat.le_refl _)
  rw [pmuL_yes h]
  unfold mulK
  rw [tab_lst]
  have e1 : mulG m X Y L K i = mulF m (tabOf X) (tabOf Y) (tabOf L) (tabOf K) 1 (L.length * 1) i := by unfold mulG; rw [Int.toNat_natCast, hk]
  rw [e1]
  by_cases c : i < L.length
  · rw [if_pos (by omega), hm, if_pos c]
  · rw [if_neg c] at hm
    rw [tab_out (Z := L) (by omega), R.q0, R.T0]
    split
    · exact hm
    · exact R.q0
theorem q_pmu2 (R : RTab m (tabOf X) (tabOf Y) e) (h : pmuB m e X Y L K = true) (h1 : polB m e X Y L = true) (h2 : polB m e X Y K = true) (hk : K.length = 2) (i : Nat) : R.q (tabOf (pmuL m e X Y L K) i) = R.A (R.M (R.q (tabOf L i)) (R.q (tabOf K 0))) (if 1 ≤ i then R.M (R.q (tabOf L (i - 1))) (R.q (tabOf K 1)) else R.t) := by
  have hm := R.mul_two (lf := L.length) (F := tabOf L) (G := tabOf K) (tab_lt h1) (fun i _ => tab_lt h2 i) i L.length (Nat.le_refl _)
  rw [pmuL_yes h]
  unfold mulK
  rw [tab_lst]
  have e1 : mulG m X Y L K i = mulF m (tabOf X) (tabOf Y) (tabOf L) (tabOf K) 2 (L.length * 2) i := by unfold mulG; rw [Int.toNat_natCast, hk]
  rw [e1]
  have a1 : (if i < L.length then R.M (R.q (tabOf L i)) (R.q (tabOf K 0)) else R.t) = R.M (R.q (tabOf L i)) (R.q (tabOf K 0)) := by
    by_cases c : i < L.length
    · rw [if_pos c]
    · rw [if_neg c, tab_out (Z := L) (by omega), R.q0, R.T0]
  have a2 : (if 1 ≤ i ∧ i ≤ L.length then R.M (R.q (tabOf L (i - 1))) (R.q (tabOf K 1)) else R.t) = if 1 ≤ i then R.M (R.q (tabOf L (i - 1))) (R.q (tabOf K 1)) else R.t := by
    by_cases c : 1 ≤ i
    · by_cases d : i ≤ L.length
      · rw [if_pos ⟨c, d⟩, if_pos c]
      · rw [if_neg (fun h => d h.2), if_pos c, tab_out (Z := L) (by omega), R.q0, R.T0]
    · rw [if_neg (fun h => c h.1), if_neg c]
  rw [a1, a2] at hm
  by_cases c : i < L.length + K.length
  · rw [if_pos c, hm]
  · rw [if_neg c, R.q0, tab_out (Z := L) (by omega), R.q0, R.T0, R.Z0]
    by_cases d : 1 ≤ i
    · rw [if_pos d, tab_out (Z := L) (by omega), R.q0, R.T0]
    · rw [if_neg d]
theorem pmu_fits (h1 : polB m e X Y L = true) (h2 : polB m e X Y K = true) (h : L.length + K.length ≤ 9) : pmuB m e X Y L K = true := by
  obtain ⟨_, a8, _⟩ := pol_data h1
  obtain ⟨_, b8, _⟩ := pol_data h2
  have hl : mulK m X Y L K ≤ L.length + K.length := tl_le _
  have h8 : mulK m X Y L K ≤ 8 := by
    by_cases c : L.length + K.length ≤ 8
    · omega
    · have : mulK m X Y L K < L.length + K.length := mul_short (by omega) (by omega)
      omega
  unfold pmuB
  rw [two_yes h1 h2, decide_eq_true h8]
  rfl
theorem pol_nil (hv : validB m e X Y = true) : polB m e X Y [] = true := polB_yes hv (by simp) (allB_true fun j hj => absurd hj (by simp)) (by unfold lastB; simp)
/-- In the ring of one element no polynomial has coefficients. -/
theorem pol_one (h : polB m e X Y L = true) (hm : m = 1) : L = [] := by
  obtain ⟨hv, _⟩ := pol_data h
  exact pol_ext h (pol_nil hv) fun i => by
    have := tab_lt h i
    have : tabOf [] i = 0 := tab_out (by simp)
    omega
theorem RTab.e_ne {S P : Nat → Nat} (R : RTab m S P e) (hm : 1 < m) : e ≠ 0 := fun h => by
  have h0 : R.o = R.t := Fin.ext h
  have h1 := R.M1 ⟨1, hm⟩
  rw [h0, R.M0] at h1
  have := congrArg Fin.val h1
  exact absurd this (by show ¬ (0 : Nat) = 1; omega)
theorem pol_lin {c : Nat} (hv : validB m e X Y = true) (hm : 1 < m) (hc : c < m) : polB m e X Y [(c : Int), (e : Int)] = true := by
  have R := rtab_of_valid hv
  have he := R.he
  have hn := R.e_ne hm
  refine polB_yes hv (by simp) (allB_true fun j hj => ?_) ?_
  · match j, hj with
    | 0, _ => exact inB_true (by simp; omega)
    | 1, _ => exact inB_true (by simp; omega)
    | j + 2, hj => exact absurd (show j + 2 < 2 from hj) (by omega)
  · unfold lastB
    refine decide_eq_true (.inr ?_)
    simp
    omega
theorem pol_e (hv : validB m e X Y = true) (hm : 1 < m) : polB m e X Y [(e : Int)] = true := by
  have R := rtab_of_valid hv
  have he := R.he
  have hn := R.e_ne hm
  refine polB_yes hv (by simp) (allB_true fun j hj => ?_) ?_
  · match j, hj with
    | 0, _ => exact inB_true (by simp; omega)
    | j + 1, hj => simp at hj
  · unfold lastB
    refine decide_eq_true (.inr ?_)
    simp
    omega
theorem pde_lin {c : Nat} (hv : validB m e X Y = true) (hm : 1 < m) (hc : c < m) : pdeL m e X Y [(c : Int), (e : Int)] = [(e : Int)] := by
  have R := rtab_of_valid hv
  have hp := pol_lin hv hm hc
  refine R.tab_ext (pol_der hp).1 (pol_e hv hm) fun i => ?_
  rw [q_pde R hp]
  match i with
  | 0 =>
    show R.A R.t (R.q (tabOf [(c : Int), (e : Int)] 1)) = R.q (tabOf [(e : Int)] 0)
    rw [R.Z0]
    rfl
  | i + 1 =>
    rw [tab_out (Z := [(c : Int), (e : Int)]) (by simp), tab_out (Z := [(e : Int)]) (by simp), R.q0, R.ks_zero]
/-- What FnDerive asks. -/
theorem derive_law (h : polB m e X Y L = true) {c : Nat} (hc : c < m) {G : List Int} (hG : G = if 1 < m then [(c : Int), (e : Int)] else []) (hm' : m ≤ 16) :
    polB m e X Y (pdeL m e X Y L) = true ∧ (pdeL m e X Y L).length ≤ L.length - 1 ∧ polB m e X Y G = true ∧ polB m e X Y (pdeL m e X Y G) = true
    ∧ pmuB m e X Y (pdeL m e X Y L) G = true ∧ pmuB m e X Y L (pdeL m e X Y G) = true
    ∧ twoB m e X Y (pmuL m e X Y (pdeL m e X Y L) G) (pmuL m e X Y L (pdeL m e X Y G)) = true ∧ polB m e X Y (pmuL m e X Y L G) = true
    ∧ (pmuB m e X Y L G = true → pdeL m e X Y (pmuL m e X Y L G) = padL m e X Y (pmuL m e X Y (pdeL m e X Y L) G) (pmuL m e X Y L (pdeL m e X Y G)))
    ∧ twoB m e X Y L L = true ∧ polB m e X Y (padL m e X Y L L) = true ∧ twoB m e X Y (pdeL m e X Y L) (pdeL m e X Y L) = true
    ∧ pdeL m e X Y (padL m e X Y L L) = padL m e X Y (pdeL m e X Y L) (pdeL m e X Y L) := by
  obtain ⟨hv, h8, _⟩ := pol_data h
  have R := rtab_of_valid hv
  obtain ⟨hd, hdl⟩ := pol_der h
  have hg : polB m e X Y G = true := by
    rw [hG]
    split
    · rename_i hm; exact pol_lin hv hm hc
    · exact pol_nil hv
  have hdg := (pol_der hg).1
  have hgl : G.length ≤ 2 := by rw [hG]; split <;> simp
  have hdgl : (pdeL m e X Y G).length ≤ 1 := by have := (pol_der hg).2; omega
  have f1 := pmu_fits hd hg (by omega)
  have f2 := pmu_fits h hdg (by omega)
  have p1 := (eval_law (two_yes hd hg) hm').2.2.1 f1
  have p2 := (eval_law (two_yes h hdg) hm').2.2.1 f2
  have p3 : polB m e X Y (pmuL m e X Y L G) = true := by
    cases hp : pmuB m e X Y L G
    · rw [pmuL_no hp]; exact pol_nil hv
    · exact (eval_law (two_yes h hg) hm').2.2.1 hp
  have t1 := two_yes p1 p2
  have t2 := two_yes h h
  have t3 := two_yes hd hd
  have s1 := (eval_law t1 hm').2.1
  have s2 := (eval_law t2 hm').2.1
  have s3 := (eval_law t3 hm').2.1
  refine ⟨hd, hdl, hg, hdg, f1, f2, t1, p3, fun hp => ?_, t2, s2, t3, ?_⟩
  · by_cases hm : 1 < m
    · rw [if_pos hm] at hG
      subst hG
      have hl := pde_lin hv hm hc
      have ee : R.q (tabOf [(e : Int)] 0) = R.o := R.qe
      have cc : tabOf [(c : Int), (e : Int)] 0 = c := rfl
      have ce : R.q (tabOf [(c : Int), (e : Int)] 1) = R.o := R.qe
      rw [hl] at f2 s1 t1 ⊢
      refine R.tab_ext (pol_der p3).1 s1 fun i => ?_
      rw [q_pde R p3, q_pad R t1, q_pmu2 R hp h hg rfl, q_pmu2 R f1 hd hg rfl, q_pmu1 R f2 h (pol_e hv hm) rfl, ee, cc, ce, R.M1, if_pos (by omega), R.M1, Nat.add_sub_cancel, R.ks_add, R.ks_mul, q_pde R h]
      have hk : (if 1 ≤ i then R.q (tabOf (pdeL m e X Y L) (i - 1)) else R.t) = R.ks (R.q (tabOf L i)) i := by
        by_cases d : 1 ≤ i
        · rw [if_pos d, q_pde R h, Nat.sub_add_cancel d]
        · rw [if_neg d, show i = 0 by omega]
          rfl
      rw [hk, R.M1, R.Aa]
      rfl
    · have e1 : m = 1 := by have := R.hm; omega
      rw [pol_one (pol_der p3).1 e1, pol_one s1 e1]
  · refine R.tab_ext (pol_der s2).1 s3 fun i => ?_
    rw [q_pde R s2, q_pad R t2, q_pad R t3, q_pde R h, R.ks_add]
end

end Go.Proofs.Ytkjanhcajopfhaa

