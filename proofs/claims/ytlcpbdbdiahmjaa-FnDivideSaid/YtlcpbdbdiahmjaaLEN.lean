
import Derived.Test.YtlcpbdbdiahmjaaNG
/- Plain facts: values of polynomials: sums of products with powers; of sums, products, and without zeros at the end. No program in sight. -/
namespace Go.Proofs.Ytlcpbdbdiahmjaa
open Go.RowKit

section
variable {m e : Nat} {S P : Nat → Nat}
/-- A number as an element. -/
def RTab.q (R : RTab m S P e) (x : Nat) : Fin m := ⟨x % m, Nat.mod_lt _ R.hm⟩
theorem RTab.qv (R : RTab m S P e) {x : Nat} (h : x < m) : (R.q x).1 = x := Nat.mod_eq_of_lt h
theorem RTab.qS (R : RTab m S P e) {x y : Nat} (hx : x < m) (hy : y < m) : R.q (S (x * m + y)) = R.A (R.q x) (R.q y) := Fin.ext (by
  rw [R.qv (R.sc hx hy)]
  show _ = S ((R.q x).1 * m + (R.q y).1)
  rw [R.qv hx, R.qv hy])
theorem RTab.qP (R : RTab m S P e) {x y : Nat} (hx : x < m) (hy : y < m) : R.q (P (x * m + y)) = R.M (R.q x) (R.q y) := Fin.ext (by
  rw [R.qv (R.pc hx hy)]
  show _ = P ((R.q x).1 * m + (R.q y).1)
  rw [R.qv hx, R.qv hy])
theorem RTab.q0 (R : RTab m S P e) : R.q 0 = R.t := Fin.ext (R.qv R.hm)
theorem RTab.qe (R : RTab m S P e) : R.q e = R.o := Fin.ext (R.qv R.he)
theorem RTab.q_inj (R : RTab m S P e) {x y : Nat} (hx : x < m) (hy : y < m) (h : R.q x = R.q y) : x = y := by
  have := congrArg Fin.val h
  rwa [R.qv hx, R.qv hy] at this
def RTab.po (R : RTab m S P e) (a : Fin m) : Nat → Fin m
  | 0 => R.o
  | k + 1 => R.M (R.po a k) a
theorem RTab.po_add (R : RTab m S P e) (a : Fin m) (i : Nat) : ∀ j, R.po a (i + j) = R.M (R.po a i) (R.po a j)
  | 0 => (R.M1 _).symm
  | j + 1 => by
    show R.M (R.po a (i + j)) a = R.M (R.po a i) (R.M (R.po a j) a)
    rw [R.po_add a i j, R.Ma]
/-- The sum of the products of coefficients and powers. -/
def RTab.sm (R : RTab m S P e) (F : Nat → Fin m) (a : Fin m) : Nat → Fin m
  | 0 => R.t
  | l + 1 => R.A (R.sm F a l) (R.M (F l) (R.po a l))
theorem RTab.sm_congr (R : RTab m S P e) {F G : Nat → Fin m} {a : Fin m} : ∀ l, (∀ i, i < l → F i = G i) → R.sm F a l = R.sm G a l
  | 0 => fun _ => rfl
  | l + 1 => fun h => by
    show R.A (R.sm F a l) (R.M (F l) (R.po a l)) = R.A (R.sm G a l) (R.M (G l) (R.po a l))
    rw [R.sm_congr l (fun i hi => h i (by omega)), h l (by omega)]
theorem RTab.A4 (R : RTab m S P e) (a b c d : Fin m) : R.A (R.A a b) (R.A c d) = R.A (R.A a c) (R.A b d) := by
  rw [R.Aa, R.Aa, ← R.Aa b c d, R.Ac b c, R.Aa c b d]
theorem RTab.sm_add (R : RTab m S P e) {F G : Nat → Fin m} {a : Fin m} : ∀ l, R.sm (fun i => R.A (F i) (G i)) a l = R.A (R.sm F a l) (R.sm G a l)
  | 0 => (R.A0 _).symm
  | l + 1 => by
    show R.A (R.sm (fun i => R.A (F i) (G i)) a l) (R.M (R.A (F l) (G l)) (R.po a l)) = R.A (R.A (R.sm F a l) (R.M (F l) (R.po a l))) (R.A (R.sm G a l) (R.M (G l) (R.po a l)))
    rw [R.sm_add l, R.AM, R.A4]
theorem RTab.sm_zero (R : RTab m S P e) {F : Nat → Fin m} {a : Fin m} {k : Nat} : ∀ d, (∀ i, k ≤ i → i < k + d → F i = R.t) → R.sm F a (k + d) = R.sm F a k
  | 0 => fun _ => rfl
  | d + 1 => fun h => by
    show R.A (R.sm F a (k + d)) (R.M (F (k + d)) (R.po a (k + d))) = _
    rw [h (k + d) (by omega) (by omega), R.T0, R.A0]
    exact R.sm_zero d (fun i h1 h2 => h i h1 (by omega))
/-- One coefficient more by d. -/
theorem RTab.sm_put (R : RTab m S P e) {F G : Nat → Fin m} {a d : Fin m} {t : Nat} (h : ∀ i, G i = if i = t then R.A (F i) d else F i) : ∀ l, R.sm G a l = if t < l then R.A (R.sm F a l) (R.M d (R.po a t)) else R.sm F a l
  | 0 => rfl
  | l + 1 => by
    show R.A (R.sm G a l) (R.M (G l) (R.po a l)) = _
    rw [R.sm_put h l, h l]
    rcases Nat.lt_trichotomy t l with h1 | h1 | h1
    · rw [if_pos h1, if_neg (by omega), if_pos (by omega)]
      show R.A (R.A (R.sm F a l) (R.M d (R.po a t))) (R.M (F l) (R.po a l)) = R.A (R.A (R.sm F a l) (R.M (F l) (R.po a l))) (R.M d (R.po a t))
      rw [R.Aa, R.Aa, R.Ac (R.M d (R.po a t))]
    · subst h1
      rw [if_neg (by omega), if_pos rfl, if_pos (by omega)]
      show R.A (R.sm F a t) (R.M (R.A (F t) d) (R.po a t)) = R.A (R.A (R.sm F a t) (R.M (F t) (R.po a t))) (R.M d (R.po a t))
      rw [R.AM, R.Aa]
    · rw [if_neg (by omega), if_neg (by omega), if_neg (by omega)]
      rfl

/-- A value, the top coefficient apart. -/
theorem RTab.ev_top (R : RTab m S P e) {F : Nat → Nat} {a l : Nat} (ha : a < m) (hF : ∀ i, i < l + 1 → F i < m) : ∀ d, d ≤ l → R.q (evN m S P F (l + 1) a (d + 1)) = R.A (R.M (R.q (F l)) (R.po (R.q a) d)) (R.q (evN m S P F l a d))
  | 0 => fun _ => by
    show R.q (S (P (0 * m + a) * m + F (l + 1 - 1 - 0))) = R.A (R.M (R.q (F l)) R.o) (R.q 0)
    rw [R.P0 ha, R.S1 (hF _ (by omega)), R.M1, R.q0, R.A0]
    rfl
  | d + 1 => fun hd => by
    have h1 := ev_lt (l := l + 1) R.hm R.sl R.pl hF ha (d + 1) (by omega)
    have h2 := ev_lt (l := l) R.hm R.sl R.pl (fun i hi => hF i (by omega)) ha d (by omega)
    show R.q (S (P (evN m S P F (l + 1) a (d + 1) * m + a) * m + F (l + 1 - 1 - (d + 1)))) = R.A (R.M (R.q (F l)) (R.M (R.po (R.q a) d) (R.q a))) (R.q (S (P (evN m S P F l a d * m + a) * m + F (l - 1 - d))))
    rw [R.qS (R.pc h1 ha) (hF _ (by omega)), R.qP h1 ha, R.ev_top ha hF d (by omega), R.qS (R.pc h2 ha) (hF _ (by omega)), R.qP h2 ha, R.AM, R.Aa, R.Ma, show l + 1 - 1 - (d + 1) = l - 1 - d by omega]
theorem RTab.at_sm (R : RTab m S P e) {F : Nat → Nat} {a : Nat} (ha : a < m) : ∀ l, (∀ i, i < l → F i < m) → R.q (atN m S P F l a) = R.sm (fun i => R.q (F i)) (R.q a) l
  | 0 => fun _ => R.q0
  | l + 1 => fun hF => by
    have h := R.ev_top ha hF l (Nat.le_refl _)
    have h2 := R.at_sm ha l (fun i hi => hF i (by omega))
    unfold atN at *
    rw [h, h2, R.Ac]
    rfl
/-- Zeros at the end don't count. -/
theorem RTab.at_trim (R : RTab m S P e) {F : Nat → Nat} {a l : Nat} (ha : a < m) (hF : ∀ i, i < l → F i < m) : atN m S P F (tlN F l) a = atN m S P F l a := by
  have h1 := tl_le (F := F) l
  have hF' : ∀ i, i < tlN F l → F i < m := fun i hi => hF i (by omega)
  refine R.q_inj (at_lt R.hm R.sl R.pl hF' ha) (at_lt R.hm R.sl R.pl hF ha) ?_
  rw [R.at_sm ha _ hF', R.at_sm ha _ hF]
  have := R.sm_zero (F := fun i => R.q (F i)) (a := R.q a) (k := tlN F l) (l - tlN F l) (fun i h2 h3 => by
    show R.q (F i) = R.t
    rw [tl_above l i h2 (by omega), R.q0])
  rw [show tlN F l + (l - tlN F l) = l by omega] at this
  exact this.symm
theorem RTab.at_ex (R : RTab m S P e) {F : Nat → Nat} {a l k : Nat} (ha : a < m) (hF : ∀ i, i < l → F i < m) (hk : l ≤ k) : atN m S P (exF F l) k a = atN m S P F l a := by
  refine R.q_inj (at_lt R.hm R.sl R.pl (fun i _ => ex_lt R.hm hF i) ha) (at_lt R.hm R.sl R.pl hF ha) ?_
  rw [R.at_sm ha _ (fun i _ => ex_lt R.hm hF i), R.at_sm ha _ hF]
  have := R.sm_zero (F := fun i => R.q (exF F l i)) (a := R.q a) (k := l) (k - l) (fun i h2 h3 => by
    show R.q (exF F l i) = R.t
    rw [show exF F l i = 0 from if_neg (by omega), R.q0])
  rw [show l + (k - l) = k by omega] at this
  rw [this]
  exact R.sm_congr l fun i hi => by
    show R.q (exF F l i) = R.q (F i)
    rw [show exF F l i = F i from if_pos hi]
/-- The value of a sum. -/
theorem RTab.at_add (R : RTab m S P e) {F G : Nat → Nat} {a lf lg : Nat} (ha : a < m) (hF : ∀ i, i < lf → F i < m) (hG : ∀ i, i < lg → G i < m) : atN m S P (addF m S F lf G lg) (max lf lg) a = S (atN m S P F lf a * m + atN m S P G lg a) := by
  have hA : ∀ i, addF m S F lf G lg i < m := add_lt R.hm R.sl hF hG (Nat.le_refl _)
  have h1 := at_lt R.hm R.sl R.pl hF ha
  have h2 := at_lt R.hm R.sl R.pl hG ha
  refine R.q_inj (at_lt R.hm R.sl R.pl (fun i _ => hA i) ha) (R.sc h1 h2) ?_
  rw [R.at_sm ha _ (fun i _ => hA i), R.qS h1 h2, ← R.at_ex ha hF (Nat.le_max_left lf lg), ← R.at_ex ha hG (Nat.le_max_right lf lg), R.at_sm ha _ (fun i _ => ex_lt R.hm hF i), R.at_sm ha _ (fun i _ => ex_lt R.hm hG i), ← R.sm_add]
  refine R.sm_congr _ fun i _ => ?_
  show R.q (addF m S F lf G lg i) = R.A (R.q (exF F lf i)) (R.q (exF G lg i))
  rw [← R.qS (ex_lt R.hm hF i) (ex_lt R.hm hG i)]
  unfold addF
  split
  · rename_i hh; rw [show exF G lg i = G i from if_pos hh]
  · rename_i hh; rw [show exF G lg i = 0 from if_neg hh, R.S0 (ex_lt R.hm hF i)]
/-- The value of a product. -/
theorem RTab.mul_sm (R : RTab m S P e) {F G : Nat → Nat} {lf lg a : Nat} (hF : ∀ i, i < lf → F i < m) (hG : ∀ i, i < lg → G i < m) : ∀ i j, i < lf → j ≤ lg →
    R.sm (fun t => R.q (mulF m S P F G lg (i * lg + j) t)) (R.q a) (lf + lg) = R.A (R.sm (fun t => R.q (mulF m S P F G lg (i * lg) t)) (R.q a) (lf + lg)) (R.M (R.M (R.q (F i)) (R.po (R.q a) i)) (R.sm (fun t => R.q (G t)) (R.q a) j))
  | i, 0 => fun _ _ => by
    show R.sm (fun t => R.q (mulF m S P F G lg (i * lg) t)) (R.q a) (lf + lg) = R.A _ (R.M _ R.t)
    rw [R.M0, R.A0]
  | i, j + 1 => fun hi hj => by
    have ih := R.mul_sm (a := a) hF hG i j hi (by omega)
    have hin : i * lg + j ≤ lf * lg := by
      have : (i + 1) * lg ≤ lf * lg := Nat.mul_le_mul_right _ hi
      have h2 : (i + 1) * lg = i * lg + lg := Nat.succ_mul _ _
      omega
    have hml := mul_lt (m := m) (S := S) (P := P) R.hm R.sl R.pl hF hG (i * lg + j) hin
    have hp := R.sm_put (F := fun t => R.q (mulF m S P F G lg (i * lg + j) t)) (G := fun t => R.q (mulF m S P F G lg (i * lg + (j + 1)) t)) (a := R.q a) (d := R.M (R.q (F i)) (R.q (G j))) (t := i + j) (fun t => by
      show R.q (mulF m S P F G lg (i * lg + j + 1) t) = _
      rw [mul_step (by omega)]
      split
      · rw [R.qS (hml _) (R.pc (hF i hi) (hG j (by omega))), R.qP (hF i hi) (hG j (by omega)), ‹t = i + j›]
      · rfl) (lf + lg)
    rw [hp, if_pos (by omega), ih]
    show _ = R.A _ (R.M (R.M (R.q (F i)) (R.po (R.q a) i)) (R.A (R.sm (fun t => R.q (G t)) (R.q a) j) (R.M (R.q (G j)) (R.po (R.q a) j))))
    rw [R.MA, R.Aa, R.po_add]
    congr 2
    rw [R.Ma, R.Ma, ← R.Ma (R.q (G j)), R.Mc (R.q (G j)) (R.po (R.q a) i), R.Ma]
theorem RTab.mul_sum (R : RTab m S P e) {F G : Nat → Nat} {lf lg a : Nat} (hF : ∀ i, i < lf → F i < m) (hG : ∀ i, i < lg → G i < m) : ∀ i, i ≤ lf →
    R.sm (fun t => R.q (mulF m S P F G lg (i * lg) t)) (R.q a) (lf + lg) = R.M (R.sm (fun t => R.q (F t)) (R.q a) i) (R.sm (fun t => R.q (G t)) (R.q a) lg)
  | 0 => fun _ => by
    rw [Nat.zero_mul]
    show R.sm (fun _ => R.q 0) (R.q a) (lf + lg) = R.M R.t _
    rw [R.T0]
    have := R.sm_zero (F := fun _ => R.q 0) (a := R.q a) (k := 0) (lf + lg) (fun _ _ _ => R.q0)
    rw [Nat.zero_add] at this
    exact this
  | i + 1 => fun hi => by
    have h := R.mul_sm (a := a) hF hG i lg (by omega) (Nat.le_refl _)
    rw [Nat.succ_mul, h, R.mul_sum hF hG i (by omega)]
    exact (R.AM _ _ _).symm
theorem RTab.at_mul (R : RTab m S P e) {F G : Nat → Nat} {a lf lg : Nat} (ha : a < m) (hF : ∀ i, i < lf → F i < m) (hG : ∀ i, i < lg → G i < m) : atN m S P (mulF m S P F G lg (lf * lg)) (lf + lg) a = P (atN m S P F lf a * m + atN m S P G lg a) := by
  have hA := mul_lt (m := m) (S := S) (P := P) R.hm R.sl R.pl hF hG (lf * lg) (Nat.le_refl _)
  have h1 := at_lt R.hm R.sl R.pl hF ha
  have h2 := at_lt R.hm R.sl R.pl hG ha
  refine R.q_inj (at_lt R.hm R.sl R.pl (fun i _ => hA i) ha) (R.pc h1 h2) ?_
  rw [R.at_sm ha _ (fun i _ => hA i), R.qP h1 h2, R.at_sm ha _ hF, R.at_sm ha _ hG, R.mul_sum hF hG lf (Nat.le_refl _)]
/-- A product's top place is never written. -/
theorem mul_top {m lf lg : Nat} {S P F G : Nat → Nat} (hl : 0 < lf) (hg : 0 < lg) : ∀ k, k ≤ lf * lg → mulF m S P F G lg k (lf + lg - 1) = 0
  | 0 => fun _ => rfl
  | k + 1 => fun hk => by
    have h1 : k / lg < lf := by rw [Nat.div_lt_iff_lt_mul hg]; omega
    have h2 : k % lg < lg := Nat.mod_lt _ hg
    show (if lf + lg - 1 = k / lg + k % lg then _ else mulF m S P F G lg k (lf + lg - 1)) = 0
    rw [if_neg (by omega)]
    exact mul_top hl hg k (by omega)
theorem mul_short {m lf lg : Nat} {S P F G : Nat → Nat} (hl : 0 < lf) (hg : 0 < lg) : tlN (mulF m S P F G lg (lf * lg)) (lf + lg) < lf + lg := by
  have h := mul_top (m := m) (S := S) (P := P) (F := F) (G := G) hl hg (lf * lg) (Nat.le_refl _)
  obtain ⟨k, hk⟩ : ∃ k, lf + lg = k + 1 := ⟨lf + lg - 1, by omega⟩
  rw [hk] at h ⊢
  have h' : mulF m S P F G lg (lf * lg) k = 0 := by simpa using h
  rw [tl_zero h']
  have := tl_le (F := mulF m S P F G lg (lf * lg)) k
  omega
end

end Go.Proofs.Ytlcpbdbdiahmjaa

