
import Derived.Test.YtlcpbdbdiahmjaaLEN
/- For FnDivide: products of polynomials coefficient by coefficient; dividend = quotient times divisor plus rest. No program in sight. -/
namespace Go.Proofs.Ytlcpbdbdiahmjaa
open Go.RowKit
set_option maxRecDepth 100000

section
variable {m e : Nat} {S P : Nat → Nat}
/-- The coefficient at t of the product of the first i coefficients of f with g. -/
def RTab.cv (R : RTab m S P e) (f g : Nat → Fin m) (lg t : Nat) : Nat → Fin m
  | 0 => R.t
  | i + 1 => R.A (R.cv f g lg t i) (if i ≤ t ∧ t < i + lg then R.M (f i) (g (t - i)) else R.t)
theorem RTab.mul_cvj (R : RTab m S P e) {F G : Nat → Nat} {lf lg t : Nat} (hF : ∀ i, i < lf → F i < m) (hG : ∀ i, i < lg → G i < m) : ∀ i j, i < lf → j ≤ lg →
    R.q (mulF m S P F G lg (i * lg) t) = R.cv (fun a => R.q (F a)) (fun a => R.q (G a)) lg t i →
    R.q (mulF m S P F G lg (i * lg + j) t) = R.A (R.cv (fun a => R.q (F a)) (fun a => R.q (G a)) lg t i) (if i ≤ t ∧ t < i + j then R.M (R.q (F i)) (R.q (G (t - i))) else R.t)
  | i, 0, _, _, h => by rw [Nat.add_zero, h, if_neg (by omega), R.A0]
  | i, j + 1, hi, hj, h => by
    have ih := R.mul_cvj hF hG i j hi (by omega) h
    have hk : i * lg + j ≤ lf * lg := by
      have h1 : (i + 1) * lg ≤ lf * lg := Nat.mul_le_mul_right _ hi
      rw [Nat.succ_mul] at h1
      omega
    have b := mul_lt (lf := lf) R.hm R.sl R.pl hF hG (i * lg + j) hk t
    rw [show i * lg + (j + 1) = i * lg + j + 1 by omega, mul_step (by omega)]
    by_cases c : t = i + j
    · rw [if_pos c, R.qS b (R.pc (hF i hi) (hG j (by omega))), R.qP (hF i hi) (hG j (by omega)), ih, if_neg (by omega), R.A0, if_pos (by omega), show t - i = j by omega]
    · rw [if_neg c, ih]
      by_cases d : i ≤ t ∧ t < i + j
      · rw [if_pos d, if_pos (by omega)]
      · rw [if_neg d, if_neg (by omega)]
theorem RTab.mul_cv (R : RTab m S P e) {F G : Nat → Nat} {lf lg t : Nat} (hF : ∀ i, i < lf → F i < m) (hG : ∀ i, i < lg → G i < m) : ∀ i, i ≤ lf →
    R.q (mulF m S P F G lg (i * lg) t) = R.cv (fun a => R.q (F a)) (fun a => R.q (G a)) lg t i
  | 0, _ => by rw [Nat.zero_mul]; exact R.q0
  | i + 1, hi => by
    rw [Nat.succ_mul, R.mul_cvj hF hG i lg (by omega) (Nat.le_refl _) (R.mul_cv hF hG i (by omega))]
    rfl
theorem RTab.cv_congr (R : RTab m S P e) {f f' g : Nat → Fin m} {lg t : Nat} : ∀ i, (∀ a, a < i → f a = f' a) → R.cv f g lg t i = R.cv f' g lg t i
  | 0, _ => rfl
  | i + 1, h => by
    show R.A (R.cv f g lg t i) _ = R.A (R.cv f' g lg t i) _
    rw [R.cv_congr i (fun a ha => h a (by omega)), h i (by omega)]
theorem RTab.cv_zero (R : RTab m S P e) {f g : Nat → Fin m} {lg t : Nat} : ∀ i, (∀ a, a < i → f a = R.t) → R.cv f g lg t i = R.t
  | 0, _ => rfl
  | i + 1, h => by
    show R.A (R.cv f g lg t i) _ = R.t
    rw [R.cv_zero i (fun a ha => h a (by omega)), h i (by omega), R.T0, R.Z0]
    split <;> rfl
/-- Coefficients of f that are 0 may be left out. -/
theorem RTab.cv_ex (R : RTab m S P e) {f g : Nat → Fin m} {lg t i : Nat} : ∀ d, (∀ a, i ≤ a → a < i + d → f a = R.t) → R.cv f g lg t (i + d) = R.cv f g lg t i
  | 0, _ => rfl
  | d + 1, h => by
    show R.A (R.cv f g lg t (i + d)) (if i + d ≤ t ∧ t < i + d + lg then R.M (f (i + d)) (g (t - (i + d))) else R.t) = _
    rw [R.cv_ex d (fun a h1 h2 => h a h1 (by omega)), h (i + d) (by omega) (by omega), R.T0]
    split <;> rw [R.A0]
/-- One coefficient more. -/
theorem RTab.cv_put (R : RTab m S P e) {f f' g : Nat → Fin m} {lg t s : Nat} {c : Fin m} (h0 : f s = R.t) (h : ∀ a, f' a = if a = s then c else f a) : ∀ i, R.cv f' g lg t i = R.A (R.cv f g lg t i) (if s < i ∧ s ≤ t ∧ t < s + lg then R.M c (g (t - s)) else R.t)
  | 0 => by rw [if_neg (by omega), R.A0]; rfl
  | i + 1 => by
    show R.A (R.cv f' g lg t i) (if i ≤ t ∧ t < i + lg then R.M (f' i) (g (t - i)) else R.t) = R.A (R.A (R.cv f g lg t i) (if i ≤ t ∧ t < i + lg then R.M (f i) (g (t - i)) else R.t)) _
    rw [R.cv_put h0 h i, h i]
    by_cases e1 : i = s
    · subst e1
      rw [if_neg (by omega), R.A0, if_pos rfl, h0, R.T0]
      by_cases d : i ≤ t ∧ t < i + lg
      · rw [if_pos d, if_pos d, if_pos (by omega), R.A0]
      · rw [if_neg d, if_neg d, if_neg (by omega), R.A0, R.A0]
    · rw [if_neg e1]
      by_cases d : s < i ∧ s ≤ t ∧ t < s + lg
      · rw [if_pos d, if_pos (show s < i + 1 ∧ s ≤ t ∧ t < s + lg by omega), R.Aa, R.Aa, R.Ac (R.M c _)]
      · rw [if_neg d, if_neg (show ¬ (s < i + 1 ∧ s ≤ t ∧ t < s + lg) by omega), R.A0, R.A0]
theorem RTab.q_ng (R : RTab m S P e) {a : Nat} (ha : a < m) : R.A (R.q a) (R.q (ngN m S a)) = R.t := by
  rw [← R.qS ha (R.ng_lt ha), R.ng_sum ha, R.q0]
theorem divO_none {F G : Nat → Nat} {lf lg inv : Nat} : ∀ d i, i + d < lf + 1 - lg → divO m S P F lf G lg inv d i = 0
  | 0, _, _ => rfl
  | d + 1, i, h => by
    show putF _ _ _ i = 0
    unfold putF
    rw [if_neg (by omega)]
    exact divO_none d i (by omega)
/-- The dividend is the quotient times the divisor, and the rest. -/
theorem RTab.div_sum (R : RTab m S P e) {F G : Nat → Nat} {lf lg inv : Nat} (hF : ∀ i, i < lf → F i < m) (hG : ∀ i, i < lg → G i < m) (hi : inv < m) (hg : 1 ≤ lg) (hl : lg ≤ lf) : ∀ d, d ≤ lf + 1 - lg → ∀ t, t < lf →
    R.A (R.cv (fun a => R.q (divO m S P F lf G lg inv d a)) (fun a => R.q (G a)) lg t (lf + 1 - lg)) (R.q (divR m S P F lf G lg inv d t)) = R.q (F t)
  | 0, _, t, _ => by
    rw [R.cv_zero (f := fun a => R.q (divO m S P F lf G lg inv 0 a)) _ (fun _ _ => R.q0), R.Z0]
    rfl
  | d + 1, hd, t, ht => by
    have ih := R.div_sum hF hG hi hg hl d (by omega) t ht
    have b := divR_lt R hF hG hi hg d (by omega)
    obtain ⟨s, hs⟩ : ∃ s, lf - lg - d = s := ⟨_, rfl⟩
    obtain ⟨c, hc⟩ : ∃ c, topT m P inv lg s (divR m S P F lf G lg inv d) = c := ⟨_, rfl⟩
    have hcm : c < m := by rw [← hc]; exact R.pc (b _ (by omega)) hi
    have hO : ∀ a, R.q (divO m S P F lf G lg inv (d + 1) a) = if a = s then R.q c else R.q (divO m S P F lf G lg inv d a) := fun a => by
      show R.q (putF (divO m S P F lf G lg inv d) (lf - lg - d) (topT m P inv lg (lf - lg - d) (divR m S P F lf G lg inv d)) a) = _
      rw [hs, hc]
      unfold putF
      split <;> rfl
    have h0 : R.q (divO m S P F lf G lg inv d s) = R.t := by rw [divO_none d s (by omega), R.q0]
    have hR : divR m S P F lf G lg inv (d + 1) t = if s ≤ t ∧ t < s + lg then S (divR m S P F lf G lg inv d t * m + ngN m S (P (c * m + G (t - s)))) else divR m S P F lf G lg inv d t := by
      show subF m S P G (lf - lg - d) (topT m P inv lg (lf - lg - d) (divR m S P F lf G lg inv d)) (divR m S P F lf G lg inv d) lg t = _
      rw [hs, hc]
      rfl
    rw [R.cv_put (f := fun a => R.q (divO m S P F lf G lg inv d a)) (f' := fun a => R.q (divO m S P F lf G lg inv (d + 1) a)) (s := s) (c := R.q c) h0 hO, hR]
    by_cases k : s ≤ t ∧ t < s + lg
    · have gm := hG (t - s) (by omega)
      have pm := R.pc hcm gm
      rw [if_pos (by omega), if_pos k, R.qS (b t ht) (R.ng_lt pm), ← R.qP hcm gm, R.A4, R.q_ng pm, R.A0]
      exact ih
    · rw [if_neg (by omega), if_neg k, R.A0]
      exact ih
end

end Go.Proofs.Ytlcpbdbdiahmjaa

