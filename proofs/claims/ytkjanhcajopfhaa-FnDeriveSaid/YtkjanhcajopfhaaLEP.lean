
import Derived.Test.YtkjanhcajopfhaaLEO
import Derived.Test.YtkjanhcajopfhaaNH
/- What FnDerive wants: coefficients of sums, derivatives and of products by a polynomial of one or two coefficients. No program in sight. -/
namespace Go.Proofs.Ytkjanhcajopfhaa
open Go.RowKit
set_option maxRecDepth 100000

section
variable {m e : Nat} {S P : Nat → Nat} {X Y L K : List Int}
/-- The coefficient of such a list, wherever. -/
theorem tab_lst {F : Nat → Nat} {l : Nat} (i : Nat) : tabOf (lstF F (tlN F l)) i = if i < l then F i else 0 := by
  rcases Nat.lt_or_ge i (tlN F l) with h | h
  · have := tl_le (F := F) l
    rw [lstF_tab h, if_pos (by omega)]
  · have h0 : tabOf (lstF F (tlN F l)) i = 0 := by
      unfold tabOf
      rw [List.getElem?_eq_none (by rw [lstF_len]; exact h)]
      rfl
    rw [h0]
    by_cases hl : i < l
    · rw [if_pos hl, tl_above l i h hl]
    · rw [if_neg hl]
theorem tab_out {Z : List Int} {i : Nat} (h : Z.length ≤ i) : tabOf Z i = 0 := by
  unfold tabOf
  rw [List.getElem?_eq_none h]
  rfl
/-- Polynomials with the same coefficients are one. -/
theorem pol_ext (h1 : polB m e X Y L = true) (h2 : polB m e X Y K = true) (h : ∀ i, tabOf L i = tabOf K i) : L = K := by
  obtain ⟨_, _, _, a1, a2⟩ := pol_data h1
  obtain ⟨_, _, _, b1, b2⟩ := pol_data h2
  have la : L.length ≠ 0 → tabOf L (L.length - 1) ≠ 0 := fun h0 => by
    have := tl_last (F := tabOf L) L.length (by rw [a2]; exact h0)
    rw [a2] at this
    exact this
  have lb : K.length ≠ 0 → tabOf K (K.length - 1) ≠ 0 := fun h0 => by
    have := tl_last (F := tabOf K) K.length (by rw [b2]; exact h0)
    rw [b2] at this
    exact this
  have hl : L.length = K.length := by
    rcases Nat.lt_trichotomy L.length K.length with c | c | c
    · exact absurd ((h _).symm.trans (tab_out (by omega))) (lb (by omega))
    · exact c
    · exact absurd ((h _).trans (tab_out (by omega))) (la (by omega))
  rw [← a1, ← b1, hl]
  exact lstF_congr fun i _ => h i
theorem tab_lt (h : polB m e X Y L = true) (i : Nat) : tabOf L i < m := by
  obtain ⟨hv, _, a, _, _⟩ := pol_data h
  rcases Nat.lt_or_ge i L.length with c | c
  · simpa using (a i c).2
  · rw [tab_out c]; exact (rtab_of_valid hv).hm
/-- So many times. -/
def RTab.ks (R : RTab m S P e) (a : Fin m) : Nat → Fin m
  | 0 => R.t
  | k + 1 => R.A (R.ks a k) a
theorem RTab.q_seq (R : RTab m S P e) {a : Nat} (ha : a < m) : ∀ k, R.q (seqT m S a k) = R.ks (R.q a) k
  | 0 => R.q0
  | k + 1 => by
    show R.q (S (seqT m S a k * m + a)) = R.A (R.ks (R.q a) k) (R.q a)
    rw [R.qS (R.seq_lt ha k) ha, R.q_seq ha k]
theorem RTab.ks_add (R : RTab m S P e) (a b : Fin m) : ∀ k, R.ks (R.A a b) k = R.A (R.ks a k) (R.ks b k)
  | 0 => (R.A0 _).symm
  | k + 1 => by
    show R.A (R.ks (R.A a b) k) (R.A a b) = R.A (R.A (R.ks a k) a) (R.A (R.ks b k) b)
    rw [R.ks_add a b k, R.A4]
theorem RTab.ks_mul (R : RTab m S P e) (a c : Fin m) : ∀ k, R.ks (R.M a c) k = R.M (R.ks a k) c
  | 0 => (R.T0 _).symm
  | k + 1 => by
    show R.A (R.ks (R.M a c) k) (R.M a c) = R.M (R.A (R.ks a k) a) c
    rw [R.ks_mul a c k, R.AM]
theorem RTab.ks_zero (R : RTab m S P e) : ∀ k, R.ks R.t k = R.t
  | 0 => rfl
  | k + 1 => by
    show R.A (R.ks R.t k) R.t = R.t
    rw [R.A0, R.ks_zero k]
theorem RTab.q_der (R : RTab m S P e) {F : Nat → Nat} {i : Nat} (ha : F (i + 1) < m) : R.q (derF m S F i) = R.ks (R.q (F (i + 1))) (i + 1) := by
  rw [← R.q_seq ha]
  unfold derF
  congr 1
  refine R.seq_emod ha ?_
  rw [cnt_emod (R.ord ha).1, Int.emod_emod_of_dvd _ (Int.dvd_refl _)]
  rfl
/-- The product by one coefficient. -/
theorem RTab.mul_one (R : RTab m S P e) {F G : Nat → Nat} {lf : Nat} (hF : ∀ i, F i < m) (hG : ∀ i, i < 1 → G i < m) (t : Nat) : ∀ i, i ≤ lf → R.q (mulF m S P F G 1 (i * 1) t) = if t < i then R.M (R.q (F t)) (R.q (G 0)) else R.t
  | 0 => fun _ => by rw [if_neg (by omega)]; exact R.q0
  | i + 1 => fun hi => by
    have ih := R.mul_one (lf := lf) hF hG t i (by omega)
    have hl : ∀ k, k ≤ lf * 1 → mulF m S P F G 1 k t < m := fun k hk => mul_lt (lf := lf) R.hm R.sl R.pl (fun i _ => hF i) hG k hk t
    have st := mul_step (m := m) (S := S) (P := P) (F := F) (G := G) (lg := 1) (i := i) (j := 0) (t := t) (by omega)
    rw [show (i + 1) * 1 = i * 1 + 0 + 1 by omega, st]
    by_cases c : t = i
    · rw [if_pos (by omega), R.qS (hl _ (by omega)) (R.pc (hF i) (hG 0 (by omega))), R.qP (hF i) (hG 0 (by omega)), show i * 1 + 0 = i * 1 by omega, ih, if_neg (by omega), if_pos (by omega), R.Z0, c]
    · rw [if_neg (by omega), show i * 1 + 0 = i * 1 by omega, ih]
      by_cases d : t < i
      · rw [if_pos d, if_pos (by omega)]
      · rw [if_neg d, if_neg (by omega)]
/-- The product by two coefficients. -/
theorem RTab.mul_two (R : RTab m S P e) {F G : Nat → Nat} {lf : Nat} (hF : ∀ i, F i < m) (hG : ∀ i, i < 2 → G i < m) (t : Nat) : ∀ i, i ≤ lf → R.q (mulF m S P F G 2 (i * 2) t) = R.A (if t < i then R.M (R.q (F t)) (R.q (G 0)) else R.t) (if 1 ≤ t ∧ t ≤ i then R.M (R.q (F (t - 1))) (R.q (G 1)) else R.t)
  | 0 => fun _ => by rw [if_neg (by omega), if_neg (by omega), R.A0]; exact R.q0
  | i + 1 => fun hi => by
    have ih := R.mul_two (lf := lf) hF hG t i (by omega)
    have hl : ∀ k, k ≤ lf * 2 → mulF m S P F G 2 k t < m := fun k hk => mul_lt (lf := lf) R.hm R.sl R.pl (fun i _ => hF i) hG k hk t
    have s0 := mul_step (m := m) (S := S) (P := P) (F := F) (G := G) (lg := 2) (i := i) (j := 0) (t := t) (by omega)
    have s1 := mul_step (m := m) (S := S) (P := P) (F := F) (G := G) (lg := 2) (i := i) (j := 1) (t := t) (by omega)
    have b0 := hl (i * 2) (by omega)
    have b1 := hl (i * 2 + 0 + 1) (by omega)
    have p0 := R.pc (hF i) (hG 0 (by omega))
    have p1 := R.pc (hF i) (hG 1 (by omega))
    rw [show i * 2 + 0 = i * 2 by omega] at s0 b1
    have s1' : mulF m S P F G 2 ((i + 1) * 2) t = if t = i + 1 then S (mulF m S P F G 2 (i * 2 + 1) t * m + P (F i * m + G 1)) else mulF m S P F G 2 (i * 2 + 1) t := by
      rw [show (i + 1) * 2 = i * 2 + 1 + 1 by omega]; exact s1
    rw [s1']
    by_cases c1 : t = i + 1
    · rw [if_pos c1, R.qS b1 p1, R.qP (hF i) (hG 1 (by omega)), s0, if_neg (by omega), ih, if_neg (by omega), if_neg (by omega), if_neg (by omega), if_pos (by omega), R.A0, show t - 1 = i by omega]
    · rw [if_neg c1, s0]
      by_cases c0 : t = i
      · rw [if_pos (by omega), R.qS b0 p0, R.qP (hF i) (hG 0 (by omega)), ih, if_neg (by omega), if_pos (show t < i + 1 by omega), R.Z0, R.Ac, c0]
        by_cases d : 1 ≤ i
        · rw [if_pos (by omega), if_pos (by omega)]
        · rw [if_neg (by omega), if_neg (by omega)]
      · rw [if_neg (by omega), ih]
        by_cases d : t < i
        · rw [if_pos d, if_pos (show t < i + 1 by omega)]
          by_cases d1 : 1 ≤ t
          · rw [if_pos (by omega), if_pos (by omega)]
          · rw [if_neg (by omega), if_neg (by omega)]
        · rw [if_neg d, if_neg (show ¬ t < i + 1 by omega), if_neg (by omega), if_neg (by omega)]
end

end Go.Proofs.Ytkjanhcajopfhaa

