/- Texts of this seat in one: FA FB FC FD FE FF FG FH. -/
import Derived.Test.YtlcpbdbdiahmjaaMB
import Derived.Test.YtlcpbdbdiahmjaaMG
import Derived.Laws.AppendOwnNone
import Derived.Lib.BufferMore
import Derived.Test.YtlcpbdbdiahmjaaMC
import Derived.Test.YtlcpbdbdiahmjaaMQ

/- Plain facts: polynomials as functions of coefficients: values, sums, products, derivatives, what the laws hand back. No program in sight. -/
namespace Go.Proofs.Ytlcpbdbdiahmjaa
open Go.RowKit

/-- The last one of a list is not 0. -/
def lastB (Z : List Int) : Bool := decide (Z.length = 0 ∨ Z[Z.length - 1]?.getD 0 ≠ 0)
/-- A list is a polynomial over a ring. -/
noncomputable def polB (n o : Int) (X Y Z : List Int) : Bool := validB n o X Y && (decide (Z.length ≤ 8) && (allB n Z && lastB Z))
/-- The coefficients without zeros at the end: how many. -/
def tlN (F : Nat → Nat) : Nat → Nat
  | 0 => 0
  | l + 1 => if F l = 0 then tlN F l else l + 1
/-- The list of the first coefficients. -/
def lstF (F : Nat → Nat) (l : Nat) : List Int := (List.range l).map fun i => ((F i : Nat) : Int)
/-- The value, d coefficients from the top being in it. -/
def evN (m : Nat) (S P : Nat → Nat) (F : Nat → Nat) (l a : Nat) : Nat → Nat
  | 0 => 0
  | d + 1 => S (P (evN m S P F l a d * m + a) * m + F (l - 1 - d))
def atN (m : Nat) (S P : Nat → Nat) (F : Nat → Nat) (l a : Nat) : Nat := evN m S P F l a l
def exF (F : Nat → Nat) (l i : Nat) : Nat := if i < l then F i else 0
/-- The sums of the first k coefficients of the second one with those of the first one. -/
def addF (m : Nat) (S : Nat → Nat) (F : Nat → Nat) (lf : Nat) (G : Nat → Nat) (k i : Nat) : Nat := if i < k then S (exF F lf i * m + G i) else exF F lf i
/-- Coefficients of the product, k steps being done. -/
def mulF (m : Nat) (S P : Nat → Nat) (F : Nat → Nat) (G : Nat → Nat) (lg : Nat) : Nat → Nat → Nat
  | 0 => fun _ => 0
  | k + 1 => fun t => if t = k / lg + k % lg then S (mulF m S P F G lg k t * m + P (F (k / lg) * m + G (k % lg))) else mulF m S P F G lg k t
section
variable {m l k a : Nat} {S P F G : Nat → Nat}
theorem tl_le : ∀ l, tlN F l ≤ l
  | 0 => Nat.le_refl _
  | l + 1 => by
    have := tl_le l
    show (if F l = 0 then tlN F l else l + 1) ≤ l + 1
    split <;> omega
theorem tl_zero (h : F l = 0) : tlN F (l + 1) = tlN F l := if_pos h
theorem tl_top (h : F l ≠ 0) : tlN F (l + 1) = l + 1 := if_neg h
theorem tl_above : ∀ l, ∀ i, tlN F l ≤ i → i < l → F i = 0
  | 0 => fun i _ h => absurd h (by omega)
  | l + 1 => fun i h1 h2 => by
    by_cases h : F l = 0
    · rw [tl_zero h] at h1
      rcases Nat.lt_or_ge i l with h3 | h3
      · exact tl_above l i h1 h3
      · rw [show i = l by omega]; exact h
    · rw [tl_top h] at h1; omega
theorem tl_last : ∀ l, tlN F l ≠ 0 → F (tlN F l - 1) ≠ 0
  | 0 => fun h => absurd rfl h
  | l + 1 => fun h => by
    by_cases h0 : F l = 0
    · rw [tl_zero h0] at h ⊢; exact tl_last l h
    · rw [tl_top h0]; exact h0
/-- The number of coefficients is told by what is 0 above and not 0 at its end. -/
theorem tl_unique (h1 : k ≤ l) (h2 : ∀ i, k ≤ i → i < l → F i = 0) (h3 : k ≠ 0 → F (k - 1) ≠ 0) : tlN F l = k := by
  have a1 := tl_le (F := F) l
  rcases Nat.lt_trichotomy (tlN F l) k with h | h | h
  · exact absurd (tl_above l (k - 1) (by omega) (by omega)) (h3 (by omega))
  · exact h
  · exact absurd (h2 (tlN F l - 1) (by omega) (by omega)) (tl_last l (by omega))
theorem lstF_len : (lstF F l).length = l := by simp [lstF]
theorem lstF_get {i : Nat} (h : i < l) : (lstF F l)[i]? = some ((F i : Nat) : Int) := by
  unfold lstF
  rw [List.getElem?_map, List.getElem?_range h]
  rfl
theorem lstF_succ : lstF F (l + 1) = lstF F l ++ [((F l : Nat) : Int)] := by simp [lstF, List.range_succ]
theorem lstF_congr (h : ∀ i, i < l → F i = G i) : lstF F l = lstF G l := List.map_congr_left fun i hi => by rw [h i (List.mem_range.1 hi)]
theorem lstF_tab {i : Nat} (h : i < l) : tabOf (lstF F l) i = F i := by unfold tabOf; rw [lstF_get h]; simp
theorem lstF_of {Z : List Int} (h : ∀ i, i < Z.length → Z[i]?.getD 0 = (tabOf Z i : Int)) : lstF (tabOf Z) Z.length = Z := by
  apply List.ext_getElem?
  intro i
  rcases Nat.lt_or_ge i Z.length with hi | hi
  · rw [lstF_get hi, ← h i hi, List.getElem?_eq_getElem hi]; rfl
  · rw [List.getElem?_eq_none hi, List.getElem?_eq_none (by rw [lstF_len]; exact hi)]
theorem ev_lt (hm : 1 ≤ m) (hS : ∀ k, k < m * m → S k < m) (hP : ∀ k, k < m * m → P k < m) (hF : ∀ i, i < l → F i < m) (ha : a < m) : ∀ d, d ≤ l → evN m S P F l a d < m
  | 0 => fun _ => hm
  | d + 1 => fun h => hS _ (idx_lt (hP _ (idx_lt (ev_lt hm hS hP hF ha d (by omega)) ha)) (hF _ (by omega)))
theorem at_lt (hm : 1 ≤ m) (hS : ∀ k, k < m * m → S k < m) (hP : ∀ k, k < m * m → P k < m) (hF : ∀ i, i < l → F i < m) (ha : a < m) : atN m S P F l a < m := ev_lt hm hS hP hF ha l (Nat.le_refl _)
theorem ev_congr (h : ∀ i, i < l → F i = G i) : ∀ d, d ≤ l → evN m S P F l a d = evN m S P G l a d
  | 0 => fun _ => rfl
  | d + 1 => fun hd => by
    show S (P (evN m S P F l a d * m + a) * m + F (l - 1 - d)) = S (P (evN m S P G l a d * m + a) * m + G (l - 1 - d))
    rw [ev_congr h d (by omega), h _ (by omega)]
theorem at_congr (h : ∀ i, i < l → F i = G i) : atN m S P F l a = atN m S P G l a := ev_congr h l (Nat.le_refl _)
theorem ex_lt (hm : 1 ≤ m) (hF : ∀ i, i < l → F i < m) (i : Nat) : exF F l i < m := by
  unfold exF
  split
  · rename_i h; exact hF i h
  · exact hm
theorem add_lt {lg : Nat} (hm : 1 ≤ m) (hS : ∀ k, k < m * m → S k < m) (hF : ∀ i, i < l → F i < m) (hG : ∀ i, i < lg → G i < m) (hk : k ≤ lg) (i : Nat) : addF m S F l G k i < m := by
  unfold addF
  split
  · rename_i h; exact hS _ (idx_lt (ex_lt hm hF i) (hG i (by omega)))
  · exact ex_lt hm hF i
theorem add_zero : addF m S F l G 0 = exF F l := funext fun i => if_neg (by omega)
theorem add_step {i : Nat} : addF m S F l G (k + 1) i = if i = k then S (exF F l i * m + G i) else addF m S F l G k i := by
  unfold addF
  by_cases h : i = k
  · subst h; rw [if_pos (by omega), if_pos rfl]
  · rw [if_neg h]
    by_cases h2 : i < k
    · rw [if_pos h2, if_pos (by omega)]
    · rw [if_neg h2, if_neg (by omega)]
theorem mul_lt {lf lg : Nat} (hm : 1 ≤ m) (hS : ∀ k, k < m * m → S k < m) (hP : ∀ k, k < m * m → P k < m) (hF : ∀ i, i < lf → F i < m) (hG : ∀ i, i < lg → G i < m) : ∀ k, k ≤ lf * lg → ∀ t, mulF m S P F G lg k t < m
  | 0 => fun _ _ => hm
  | k + 1 => fun hk t => by
    have ih := mul_lt hm hS hP hF hG k (by omega)
    have hg : 0 < lg := by
      rcases Nat.eq_zero_or_pos lg with h | h
      · subst h; simp at hk
      · exact h
    have h1 : k / lg < lf := by rw [Nat.div_lt_iff_lt_mul hg]; omega
    have h2 : k % lg < lg := Nat.mod_lt _ hg
    show (if t = k / lg + k % lg then S (mulF m S P F G lg k t * m + P (F (k / lg) * m + G (k % lg))) else mulF m S P F G lg k t) < m
    split
    · exact hS _ (idx_lt (ih t) (hP _ (idx_lt (hF _ h1) (hG _ h2))))
    · exact ih t
theorem mul_step {lg i j t : Nat} (hj : j < lg) : mulF m S P F G lg (i * lg + j + 1) t = if t = i + j then S (mulF m S P F G lg (i * lg + j) t * m + P (F i * m + G j)) else mulF m S P F G lg (i * lg + j) t := by
  have h1 : (i * lg + j) / lg = i := by rw [Nat.mul_comm, Nat.mul_add_div (by omega), Nat.div_eq_of_lt hj, Nat.add_zero]
  have h2 : (i * lg + j) % lg = j := by rw [Nat.mul_comm, Nat.mul_add_mod, Nat.mod_eq_of_lt hj]
  show (if t = (i * lg + j) / lg + (i * lg + j) % lg then S (mulF m S P F G lg (i * lg + j) t * m + P (F ((i * lg + j) / lg) * m + G ((i * lg + j) % lg))) else mulF m S P F G lg (i * lg + j) t) = _
  rw [h1, h2]
end

/-- What a polynomial's list says. -/
theorem pol_data {n o : Int} {X Y Z : List Int} (h : polB n o X Y Z = true) : validB n o X Y = true ∧ Z.length ≤ 8 ∧ (∀ i, i < Z.length → Z[i]?.getD 0 = (tabOf Z i : Int) ∧ tabOf Z i < n.toNat) ∧ lstF (tabOf Z) Z.length = Z ∧ tlN (tabOf Z) Z.length = Z.length := by
  unfold polB at h
  rw [Bool.and_eq_true, Bool.and_eq_true, Bool.and_eq_true, decide_eq_true_eq] at h
  obtain ⟨h1, h2, h3, h4⟩ := h
  have h5 : ∀ i, i < Z.length → Z[i]?.getD 0 = (tabOf Z i : Int) ∧ tabOf Z i < n.toNat := fun i hi => by
    have h6 := of_decide_eq_true (of_decide_eq_true h3 i hi)
    have h7 : tabOf Z i = (Z[i]?.getD 0).toNat := rfl
    omega
  refine ⟨h1, h2, h5, lstF_of fun i hi => (h5 i hi).1, ?_⟩
  refine tl_unique (Nat.le_refl _) (fun i h6 h7 => absurd h7 (by omega)) fun h6 h7 => ?_
  have h8 := of_decide_eq_true h4
  have h9 := (h5 (Z.length - 1) (by omega)).1
  rw [h7] at h9
  rcases h8 with h8 | h8
  · exact h6 h8
  · exact h8 h9
noncomputable def evaV (n o : Int) (X Y Z : List Int) (a : Int) : Int := ifV (polB n o X Y Z = true ∧ inB n a = true) (atN n.toNat (tabOf X) (tabOf Y) (tabOf Z) Z.length a.toNat : Nat)
noncomputable def twoB (n o : Int) (X Y Z V : List Int) : Bool := polB n o X Y Z && polB n o X Y V
def sumF (n : Int) (X Z V : List Int) : Nat → Nat := addF n.toNat (tabOf X) (tabOf Z) Z.length (tabOf V) V.length
def sumK (n : Int) (X Z V : List Int) : Nat := tlN (sumF n X Z V) (max Z.length V.length)
noncomputable def padL (n o : Int) (X Y Z V : List Int) : List Int := if twoB n o X Y Z V = true then lstF (sumF n X Z V) (sumK n X Z V) else []
def mulG (n : Int) (X Y Z V : List Int) : Nat → Nat := mulF n.toNat (tabOf X) (tabOf Y) (tabOf Z) (tabOf V) V.length (Z.length * V.length)
def mulK (n : Int) (X Y Z V : List Int) : Nat := tlN (mulG n X Y Z V) (Z.length + V.length)
noncomputable def pmuB (n o : Int) (X Y Z V : List Int) : Bool := twoB n o X Y Z V && decide (mulK n X Y Z V ≤ 8)
noncomputable def pmuL (n o : Int) (X Y Z V : List Int) : List Int := if pmuB n o X Y Z V = true then lstF (mulG n X Y Z V) (mulK n X Y Z V) else []
end Go.Proofs.Ytlcpbdbdiahmjaa



/- Plain facts: division of polynomials: both sides' ways, and that they come to the same. No program in sight. -/
namespace Go.Proofs.Ytlcpbdbdiahmjaa
open Go.RowKit

def ngN (m : Nat) (S : Nat → Nat) (a : Nat) : Nat := (negN m S a).toNat
def putF (F : Nat → Nat) (k v : Nat) : Nat → Nat := fun i => if i = k then v else F i
/-- The reading side: the rest with k of a row's products taken away from the place at. -/
def subF (m : Nat) (S P : Nat → Nat) (G : Nat → Nat) (at_ t : Nat) (R : Nat → Nat) (k : Nat) : Nat → Nat := fun i => if at_ ≤ i ∧ i < at_ + k then S (R i * m + ngN m S (P (t * m + G (i - at_)))) else R i
def topT (m : Nat) (P : Nat → Nat) (inv lg at_ : Nat) (R : Nat → Nat) : Nat := P (R (at_ + lg - 1) * m + inv)
/-- The rest and the quotient behind d rounds, from the place lf - lg down. -/
def divR (m : Nat) (S P : Nat → Nat) (F : Nat → Nat) (lf : Nat) (G : Nat → Nat) (lg inv : Nat) : Nat → Nat → Nat
  | 0 => F
  | d + 1 => subF m S P G (lf - lg - d) (topT m P inv lg (lf - lg - d) (divR m S P F lf G lg inv d)) (divR m S P F lf G lg inv d) lg
def divO (m : Nat) (S P : Nat → Nat) (F : Nat → Nat) (lf : Nat) (G : Nat → Nat) (lg inv : Nat) : Nat → Nat → Nat
  | 0 => fun _ => 0
  | d + 1 => putF (divO m S P F lf G lg inv d) (lf - lg - d) (topT m P inv lg (lf - lg - d) (divR m S P F lf G lg inv d))
/-- The program's way: quotient and rest, without zeros at the end. -/
structure DSt where
  Q : Nat → Nat
  q : Nat
  R : Nat → Nat
  r : Nat
def monF (k t : Nat) : Nat → Nat := fun i => if i = k then t else 0
def monL (k t : Nat) : Nat := tlN (monF k t) (k + 1)
def prdF (m : Nat) (S P : Nat → Nat) (G : Nat → Nat) (lg k t : Nat) : Nat → Nat := mulF m S P (monF k t) G lg (monL k t * lg)
def prdK (m : Nat) (S P : Nat → Nat) (G : Nat → Nat) (lg k t : Nat) : Nat := tlN (prdF m S P G lg k t) (monL k t + lg)
def ngF (m : Nat) (S : Nat → Nat) (F : Nat → Nat) : Nat → Nat := fun i => ngN m S (F i)
def dstep (m : Nat) (S P : Nat → Nat) (G : Nat → Nat) (lg inv : Nat) (s : DSt) : DSt :=
  let k := s.r - lg
  let t := P (s.R (s.r - 1) * m + inv)
  let Q := addF m S s.Q s.q (monF k t) (monL k t)
  let N := ngF m S (prdF m S P G lg k t)
  let n := tlN N (prdK m S P G lg k t)
  let R := addF m S s.R s.r N n
  ⟨Q, tlN Q (max s.q (monL k t)), R, tlN R (max s.r n)⟩
def dgo (m : Nat) (S P : Nat → Nat) (G : Nat → Nat) (lg inv : Nat) : Nat → DSt → DSt
  | 0, s => s
  | f + 1, s => if lg ≤ s.r then dgo m S P G lg inv f (dstep m S P G lg inv s) else s

section
variable {m e lf lg inv d : Nat} {S P F G : Nat → Nat}
theorem RTab.S0 (R : RTab m S P e) {a : Nat} (ha : a < m) : S (a * m + 0) = a := R.s.zero ha
theorem RTab.S1 (R : RTab m S P e) {a : Nat} (ha : a < m) : S (0 * m + a) = a := by rw [R.s.comm R.hm ha]; exact R.s.zero ha
theorem RTab.P0 (R : RTab m S P e) {a : Nat} (ha : a < m) : P (0 * m + a) = 0 := congrArg Fin.val (R.T0 ⟨a, ha⟩)
theorem RTab.ng_lt (R : RTab m S P e) {a : Nat} (ha : a < m) : ngN m S a < m := by
  obtain ⟨c, hc, e1, _⟩ := R.negEx ha
  unfold ngN
  rw [e1]; simpa using hc
theorem RTab.ng_sum (R : RTab m S P e) {a : Nat} (ha : a < m) : S (a * m + ngN m S a) = 0 := by
  obtain ⟨c, hc, e1, e2⟩ := R.negEx ha
  unfold ngN
  rw [e1]; simpa using e2
theorem RTab.ng_zero (R : RTab m S P e) : ngN m S 0 = 0 := by
  have h := R.ng_sum R.hm
  rwa [R.S1 (R.ng_lt R.hm)] at h
theorem RTab.ng_ne (R : RTab m S P e) {a : Nat} (ha : a < m) (h : ngN m S a = 0) : a = 0 := by
  have h1 := R.ng_sum ha
  rwa [h, R.S0 ha] at h1
theorem RTab.ng_cast (R : RTab m S P e) {a : Nat} (ha : a < m) : negN m S a = (ngN m S a : Int) := by
  obtain ⟨c, hc, e1, _⟩ := R.negEx ha
  unfold ngN
  rw [e1]; simp

/-- What both sides hold: d rounds of the reading side, the program's state. -/
structure DInv (m : Nat) (S P : Nat → Nat) (F : Nat → Nat) (lf : Nat) (G : Nat → Nat) (lg inv d : Nat) (s : DSt) : Prop where
  dn : d ≤ lf + 1 - lg
  rl : s.r + d ≤ lf
  rb : ∀ i, i < s.r → s.R i < m
  re : ∀ i, i < s.r → s.R i = divR m S P F lf G lg inv d i
  rz : ∀ i, s.r ≤ i → i < lf → divR m S P F lf G lg inv d i = 0
  rt : s.r ≠ 0 → s.R (s.r - 1) ≠ 0
  ql : s.q ≤ lf + 1 - lg
  qb : ∀ i, i < s.q → s.Q i < m
  qe : ∀ i, i < s.q → s.Q i = divO m S P F lf G lg inv d i
  qz : ∀ i, s.q ≤ i → divO m S P F lf G lg inv d i = 0
  qt : s.q ≠ 0 → s.Q (s.q - 1) ≠ 0
  qd : ∀ i, i + d < lf + 1 - lg → divO m S P F lf G lg inv d i = 0

theorem DInv.start (hF : ∀ i, i < lf → F i < m) (ht : tlN F lf = lf) : DInv m S P F lf G lg inv 0 ⟨fun _ => 0, 0, F, lf⟩ := by
  refine ⟨Nat.zero_le _, Nat.le_refl _, hF, fun i _ => rfl, fun i h1 h2 => absurd h2 (Nat.not_lt.2 h1), fun h => ?_, Nat.zero_le _, fun i h => absurd h (Nat.not_lt_zero _), fun i h => absurd h (Nat.not_lt_zero _), fun i _ => rfl, fun h => absurd rfl h, fun i _ => rfl⟩
  have := tl_last (F := F) lf (by rw [ht]; exact h)
  rwa [ht] at this

theorem sub_zero (R : RTab m S P e) (hG : ∀ i, i < lg → G i < m) {at_ : Nat} {T : Nat → Nat} (hT : ∀ i, i < lf → T i < m) (_hl : at_ + lg ≤ lf) : ∀ i, i < lf → subF m S P G at_ 0 T lg i = T i := fun i hi => by
  unfold subF
  split
  · rename_i h
    rw [R.P0 (hG _ (by omega)), R.ng_zero, R.S0 (hT i hi)]
  · rfl

theorem divR_lt (R : RTab m S P e) (hF : ∀ i, i < lf → F i < m) (hG : ∀ i, i < lg → G i < m) (hi : inv < m) (hg : 1 ≤ lg) : ∀ d, d ≤ lf + 1 - lg → ∀ i, i < lf → divR m S P F lf G lg inv d i < m
  | 0 => fun _ i h => hF i h
  | d + 1 => fun hd i h => by
    have ih := divR_lt R hF hG hi hg d (by omega)
    show subF m S P G (lf - lg - d) (topT m P inv lg (lf - lg - d) (divR m S P F lf G lg inv d)) (divR m S P F lf G lg inv d) lg i < m
    unfold subF
    split
    · rename_i h1
      exact R.sc (ih i h) (R.ng_lt (R.pc (R.pc (ih _ (by omega)) hi) (hG _ (by omega))))
    · exact ih i h

/-- A round of the reading side at a place where there is nothing to take away. -/
theorem DInv.skip (R : RTab m S P e) (hF : ∀ i, i < lf → F i < m) (hG : ∀ i, i < lg → G i < m) (hi : inv < m) (hg : 1 ≤ lg) {s : DSt} (h : DInv m S P F lf G lg inv d s) (hd : d < lf + 1 - lg) (hr : s.r + d < lf) : DInv m S P F lf G lg inv (d + 1) s := by
  have ht : topT m P inv lg (lf - lg - d) (divR m S P F lf G lg inv d) = 0 := by
    unfold topT
    rw [h.rz _ (by omega) (by omega), R.P0 hi]
  have hR : ∀ i, i < lf → divR m S P F lf G lg inv (d + 1) i = divR m S P F lf G lg inv d i := fun i hil => by
    show subF m S P G (lf - lg - d) (topT m P inv lg (lf - lg - d) (divR m S P F lf G lg inv d)) (divR m S P F lf G lg inv d) lg i = _
    rw [ht]
    exact sub_zero R hG (divR_lt R hF hG hi hg d (by omega)) (by omega) i hil
  have hO : ∀ i, divO m S P F lf G lg inv (d + 1) i = divO m S P F lf G lg inv d i := fun i => by
    show putF (divO m S P F lf G lg inv d) (lf - lg - d) (topT m P inv lg (lf - lg - d) (divR m S P F lf G lg inv d)) i = _
    unfold putF
    split
    · rename_i hx
      rw [ht, hx, h.qd _ (by omega)]
    · rfl
  exact ⟨by omega, by omega, h.rb, fun i h1 => (h.re i h1).trans (hR i (by have := h.rl; omega)).symm, fun i h1 h2 => (hR i h2).trans (h.rz i h1 h2), h.rt, h.ql, h.qb, fun i h1 => (h.qe i h1).trans (hO i).symm, fun i h1 => (hO i).trans (h.qz i h1), h.qt, fun i h1 => (hO i).trans (h.qd i (by omega))⟩

theorem mon_lt (hm : 1 ≤ m) {k t : Nat} (ht : t < m) (i : Nat) : monF k t i < m := by
  unfold monF
  split <;> omega
theorem mon_len {k t : Nat} (h : t ≠ 0) : monL k t = k + 1 := tl_top (by unfold monF; rw [if_pos rfl]; exact h)
/-- The product with a polynomial of one coefficient, row by row. -/
theorem mon_rows (R : RTab m S P e) (hG : ∀ i, i < lg → G i < m) {k t : Nat} (_ht : t < m) : ∀ a j, a < k → j ≤ lg → ∀ i, mulF m S P (monF k t) G lg (a * lg + j) i = 0 := by
  intro a
  induction a with
  | zero =>
    intro j
    induction j with
    | zero => intro _ _ i; show mulF m S P (monF k t) G lg (0 * lg + 0) i = 0; rw [show 0 * lg + 0 = 0 by omega]; rfl
    | succ j ih =>
      intro h1 h2 i
      rw [show 0 * lg + (j + 1) = 0 * lg + j + 1 by omega, mul_step (by omega)]
      have h3 := ih h1 (by omega)
      split
      · rw [h3, show monF k t 0 = 0 from if_neg (by omega), R.P0 (hG j (by omega)), R.S0 R.hm]
      · exact h3 i
  | succ a iha =>
    intro j
    induction j with
    | zero =>
      intro h1 h2 i
      rw [show (a + 1) * lg + 0 = a * lg + lg by rw [Nat.succ_mul]; rfl]
      exact iha lg (by omega) (Nat.le_refl _) i
    | succ j ih =>
      intro h1 h2 i
      rw [show (a + 1) * lg + (j + 1) = (a + 1) * lg + j + 1 by omega, mul_step (by omega)]
      have h3 := ih h1 (by omega)
      split
      · rw [h3, show monF k t (a + 1) = 0 from if_neg (by omega), R.P0 (hG j (by omega)), R.S0 R.hm]
      · exact h3 i
theorem mon_start (R : RTab m S P e) (hG : ∀ i, i < lg → G i < m) {k t : Nat} (ht : t < m) (i : Nat) : mulF m S P (monF k t) G lg (k * lg) i = 0 := by
  rcases Nat.eq_zero_or_pos k with h | h
  · subst h; rw [Nat.zero_mul]; rfl
  · have := mon_rows (k := k) R hG ht (k - 1) lg (by omega) (Nat.le_refl _) i
    have e1 : (k - 1) * lg + lg = k * lg := by rw [← Nat.succ_mul, Nat.succ_eq_add_one, Nat.sub_add_cancel h]
    rwa [e1] at this
theorem mon_prod (R : RTab m S P e) (hG : ∀ i, i < lg → G i < m) {k t : Nat} (ht : t < m) : ∀ j, j ≤ lg → ∀ i, mulF m S P (monF k t) G lg (k * lg + j) i = if k ≤ i ∧ i < k + j then P (t * m + G (i - k)) else 0
  | 0 => fun _ i => by rw [Nat.add_zero, mon_start R hG ht, if_neg (by omega)]
  | j + 1 => fun hj i => by
    have ih := mon_prod (k := k) R hG ht j (by omega)
    rw [show k * lg + (j + 1) = k * lg + j + 1 by omega, mul_step (by omega)]
    by_cases h : i = k + j
    · subst h
      rw [if_pos rfl, ih, if_neg (by omega), if_pos (by omega), show monF k t k = t from if_pos rfl, show k + j - k = j by omega]
      exact R.S1 (R.pc ht (hG j (by omega)))
    · rw [if_neg h, ih]
      by_cases h2 : k ≤ i ∧ i < k + j
      · rw [if_pos h2, if_pos (by omega)]
      · rw [if_neg h2, if_neg (by omega)]

/-- A round of both sides. -/
theorem DInv.step (R : RTab m S P e) (hF : ∀ i, i < lf → F i < m) (hG : ∀ i, i < lg → G i < m) (hi : inv < m) (hg : 1 ≤ lg) (hu : P (G (lg - 1) * m + inv) = e) {s : DSt} (h : DInv m S P F lf G lg inv d s) (hd : d < lf + 1 - lg) (hr : s.r + d = lf) : DInv m S P F lf G lg inv (d + 1) (dstep m S P G lg inv s) := by
  obtain ⟨k, hk⟩ : ∃ k, s.r - lg = k := ⟨_, rfl⟩
  obtain ⟨t, ht⟩ : ∃ t, P (s.R (s.r - 1) * m + inv) = t := ⟨_, rfl⟩
  have hrl : lg ≤ s.r := by omega
  have hr1 : s.r ≠ 0 := by omega
  have hx := h.rb (s.r - 1) (by omega)
  have htm : t < m := by rw [← ht]; exact R.pc hx hi
  have hgl := hG (lg - 1) (by omega)
  -- t times the last coefficient is the rest's last one
  have hback : P (t * m + G (lg - 1)) = s.R (s.r - 1) := by
    rw [← ht]
    have h1 := congrArg Fin.val (R.Ma ⟨_, hx⟩ ⟨inv, hi⟩ ⟨_, hgl⟩)
    have h2 : P (inv * m + G (lg - 1)) = e := by rw [R.p.comm hi hgl]; exact hu
    have h3 : P (s.R (s.r - 1) * m + P (inv * m + G (lg - 1))) = s.R (s.r - 1) := by rw [h2]; exact R.p.zero hx
    exact h1.trans h3
  have ht0 : t ≠ 0 := fun h0 => h.rt hr1 (by rw [← hback, h0]; exact R.P0 hgl)
  have hml : monL k t = k + 1 := mon_len ht0
  have hM : ∀ i, prdF m S P G lg k t i = if k ≤ i ∧ i < k + lg then P (t * m + G (i - k)) else 0 := fun i => by
    unfold prdF
    rw [hml, show (k + 1) * lg = k * lg + lg from Nat.succ_mul _ _]
    exact mon_prod R hG htm lg (Nat.le_refl _) i
  have hMb : ∀ i, prdF m S P G lg k t i < m := fun i => by
    rw [hM]
    split
    · exact R.pc htm (hG _ (by omega))
    · exact R.hm
  have hK : prdK m S P G lg k t = s.r := by
    unfold prdK
    rw [hml]
    refine tl_unique (by omega) (fun i h1 h2 => ?_) fun _ => ?_
    · rw [hM, if_neg (by omega)]
    · rw [hM, if_pos (by omega), show s.r - 1 - k = lg - 1 by omega, hback]
      exact h.rt hr1
  have hN : tlN (ngF m S (prdF m S P G lg k t)) s.r = s.r := by
    refine tl_unique (Nat.le_refl _) (fun i h1 h2 => absurd h2 (by omega)) fun _ h0 => ?_
    have h1 := R.ng_ne (hMb _) h0
    rw [hM, if_pos (by omega), show s.r - 1 - k = lg - 1 by omega, hback] at h1
    exact h.rt hr1 h1
  have hat : lf - lg - d = k := by omega
  have htop : topT m P inv lg k (divR m S P F lf G lg inv d) = t := by
    unfold topT
    rw [show k + lg - 1 = s.r - 1 by omega, ← h.re _ (by omega), ht]
  have hst : dstep m S P G lg inv s = ⟨addF m S s.Q s.q (monF k t) (k + 1), tlN (addF m S s.Q s.q (monF k t) (k + 1)) (max s.q (k + 1)), addF m S s.R s.r (ngF m S (prdF m S P G lg k t)) s.r, tlN (addF m S s.R s.r (ngF m S (prdF m S P G lg k t)) s.r) (max s.r s.r)⟩ := by
    unfold dstep
    simp only [hk, ht, hml, hK, hN]
  -- the rest
  have hRn : ∀ i, i < s.r → addF m S s.R s.r (ngF m S (prdF m S P G lg k t)) s.r i = divR m S P F lf G lg inv (d + 1) i := fun i hil => by
    show _ = subF m S P G (lf - lg - d) (topT m P inv lg (lf - lg - d) (divR m S P F lf G lg inv d)) (divR m S P F lf G lg inv d) lg i
    rw [hat, htop]
    unfold addF subF
    rw [if_pos hil, show exF s.R s.r i = s.R i from if_pos hil, ← h.re i hil, show ngF m S (prdF m S P G lg k t) i = ngN m S (prdF m S P G lg k t i) from rfl, hM]
    by_cases h2 : k ≤ i ∧ i < k + lg
    · rw [if_pos h2, if_pos h2]
    · rw [if_neg h2, if_neg h2, R.ng_zero, R.S0 (h.rb i hil)]
  have hRz : ∀ i, s.r ≤ i → i < lf → divR m S P F lf G lg inv (d + 1) i = 0 := fun i h1 h2 => by
    show subF m S P G (lf - lg - d) (topT m P inv lg (lf - lg - d) (divR m S P F lf G lg inv d)) (divR m S P F lf G lg inv d) lg i = 0
    rw [hat]
    unfold subF
    rw [if_neg (by omega)]
    exact h.rz i h1 h2
  have hRt : divR m S P F lf G lg inv (d + 1) (s.r - 1) = 0 := by
    show subF m S P G (lf - lg - d) (topT m P inv lg (lf - lg - d) (divR m S P F lf G lg inv d)) (divR m S P F lf G lg inv d) lg (s.r - 1) = 0
    rw [hat, htop]
    unfold subF
    rw [if_pos (by omega), ← h.re _ (by omega), show s.r - 1 - k = lg - 1 by omega, hback]
    exact R.ng_sum hx
  obtain ⟨A, hA⟩ : ∃ A, addF m S s.R s.r (ngF m S (prdF m S P G lg k t)) s.r = A := ⟨_, rfl⟩
  obtain ⟨B, hB⟩ : ∃ B, addF m S s.Q s.q (monF k t) (k + 1) = B := ⟨_, rfl⟩
  rw [hA] at hRn hst
  rw [hB] at hst
  have hlen : tlN A s.r ≤ s.r - 1 := by
    have e1 : s.r = (s.r - 1) + 1 := by omega
    rw [e1, tl_zero (by rw [hRn _ (by omega)]; exact hRt)]
    exact tl_le _
  -- the quotient
  have hB' : ∀ i, B i = if i < k + 1 then S (exF s.Q s.q i * m + monF k t i) else exF s.Q s.q i := fun i => by rw [← hB]; rfl
  have hQb : ∀ i, exF s.Q s.q i < m := ex_lt R.hm h.qb
  have hQe : ∀ i, exF s.Q s.q i = divO m S P F lf G lg inv d i := fun i => by
    unfold exF
    split
    · rename_i hh; exact h.qe i hh
    · rename_i hh; exact (h.qz i (by omega)).symm
  have hBe : ∀ i, B i = divO m S P F lf G lg inv (d + 1) i := fun i => by
    show _ = putF (divO m S P F lf G lg inv d) (lf - lg - d) (topT m P inv lg (lf - lg - d) (divR m S P F lf G lg inv d)) i
    rw [hat, htop, hB']
    unfold putF monF
    by_cases h1 : i = k
    · subst h1
      rw [if_pos (by omega), if_pos rfl, if_pos rfl, hQe, h.qd _ (by omega), R.S1 htm]
    · rw [if_neg h1, if_neg h1]
      split
      · rw [R.S0 (hQb i), hQe]
      · exact hQe i
  have hBb : ∀ i, B i < m := fun i => by
    rw [hB']
    split
    · exact R.sc (hQb i) (mon_lt R.hm htm i)
    · exact hQb i
  have hBz : ∀ i, max s.q (k + 1) ≤ i → B i = 0 := fun i h1 => by
    rw [hB', if_neg (by omega)]
    exact if_neg (by omega)
  rw [hst]
  have hrl' := h.rl
  have hql := h.ql
  refine ⟨by omega, ?_, ?_, ?_, ?_, ?_, ?_, ?_, ?_, ?_, ?_, ?_⟩
  · show tlN A (max s.r s.r) + (d + 1) ≤ lf
    rw [Nat.max_self]; omega
  · intro i hil
    show A i < m
    have hil' : i < tlN A (max s.r s.r) := hil
    rw [Nat.max_self] at hil'
    rw [hRn i (by omega)]
    exact divR_lt R hF hG hi hg (d + 1) (by omega) i (by omega)
  · intro i hil
    have hil' : i < tlN A (max s.r s.r) := hil
    rw [Nat.max_self] at hil'
    exact hRn i (by omega)
  · intro i h1 h2
    have h1' : tlN A (max s.r s.r) ≤ i := h1
    rw [Nat.max_self] at h1'
    rcases Nat.lt_or_ge i s.r with h3 | h3
    · rw [← hRn i h3]; exact tl_above s.r i h1' h3
    · exact hRz i h3 h2
  · intro h1
    have h1' : tlN A (max s.r s.r) ≠ 0 := h1
    show A (tlN A (max s.r s.r) - 1) ≠ 0
    exact tl_last _ h1'
  · show tlN B (max s.q (k + 1)) ≤ lf + 1 - lg
    have := tl_le (F := B) (max s.q (k + 1))
    omega
  · exact fun i _ => hBb i
  · exact fun i _ => hBe i
  · intro i h1
    have h1' : tlN B (max s.q (k + 1)) ≤ i := h1
    rw [← hBe]
    rcases Nat.lt_or_ge i (max s.q (k + 1)) with h3 | h3
    · exact tl_above _ i h1' h3
    · exact hBz i h3
  · intro h1
    exact tl_last _ h1
  · intro i h1
    show putF (divO m S P F lf G lg inv d) (lf - lg - d) _ i = 0
    unfold putF
    rw [if_neg (by omega)]
    exact h.qd i (by omega)

/-- Rounds with nothing to take away, up to where there is. -/
theorem DInv.skips (R : RTab m S P e) (hF : ∀ i, i < lf → F i < m) (hG : ∀ i, i < lg → G i < m) (hi : inv < m) (hg : 1 ≤ lg) {s : DSt} : ∀ x d, DInv m S P F lf G lg inv d s → d + x ≤ lf + 1 - lg → s.r + d + x ≤ lf → DInv m S P F lf G lg inv (d + x) s
  | 0 => fun _ h _ _ => h
  | x + 1 => fun d h h1 h2 => by
    have := DInv.skips R hF hG hi hg x (d + 1) (h.skip R hF hG hi hg (by omega) (by omega)) (by omega) (by omega)
    rwa [show d + (x + 1) = d + 1 + x by omega]
theorem dgo_inv (R : RTab m S P e) (hF : ∀ i, i < lf → F i < m) (hG : ∀ i, i < lg → G i < m) (hi : inv < m) (hg : 1 ≤ lg) (hu : P (G (lg - 1) * m + inv) = e) : ∀ f d s, DInv m S P F lf G lg inv d s → s.r ≤ f → ∃ d', DInv m S P F lf G lg inv d' (dgo m S P G lg inv f s) ∧ (dgo m S P G lg inv f s).r < lg
  | 0 => fun d s h hf => ⟨d, h, by show s.r < lg; omega⟩
  | f + 1 => fun d s h hf => by
    show ∃ d', DInv m S P F lf G lg inv d' (if lg ≤ s.r then dgo m S P G lg inv f (dstep m S P G lg inv s) else s) ∧ (if lg ≤ s.r then dgo m S P G lg inv f (dstep m S P G lg inv s) else s).r < lg
    by_cases hc : lg ≤ s.r
    · rw [if_pos hc]
      have hrl := h.rl
      have h1 := h.skips R hF hG hi hg (lf - s.r - d) d (by omega) (by omega)
      rw [show d + (lf - s.r - d) = lf - s.r by omega] at h1
      have h2 := h1.step R hF hG hi hg hu (by omega) (by omega)
      refine dgo_inv R hF hG hi hg hu f _ _ h2 ?_
      have := h2.rl
      omega
    · rw [if_neg hc]
      exact ⟨d, h, by omega⟩
/-- Both sides come to the same quotient and rest. -/
theorem div_same (R : RTab m S P e) (hF : ∀ i, i < lf → F i < m) (hG : ∀ i, i < lg → G i < m) (hi : inv < m) (hg : 1 ≤ lg) (hu : P (G (lg - 1) * m + inv) = e) (ht : tlN F lf = lf) :
    lstF (dgo m S P G lg inv lf ⟨fun _ => 0, 0, F, lf⟩).Q (dgo m S P G lg inv lf ⟨fun _ => 0, 0, F, lf⟩).q = lstF (divO m S P F lf G lg inv (lf + 1 - lg)) (tlN (divO m S P F lf G lg inv (lf + 1 - lg)) lf) ∧
    lstF (dgo m S P G lg inv lf ⟨fun _ => 0, 0, F, lf⟩).R (dgo m S P G lg inv lf ⟨fun _ => 0, 0, F, lf⟩).r = lstF (divR m S P F lf G lg inv (lf + 1 - lg)) (tlN (divR m S P F lf G lg inv (lf + 1 - lg)) lf) := by
  obtain ⟨d, h, hr⟩ := dgo_inv R hF hG hi hg hu lf 0 _ (DInv.start (S := S) (P := P) (G := G) (lg := lg) (inv := inv) hF ht) (Nat.le_refl _)
  generalize dgo m S P G lg inv lf ⟨fun _ => 0, 0, F, lf⟩ = s at h hr
  have hrl := h.rl
  have hdn := h.dn
  have hq : DInv m S P F lf G lg inv (lf + 1 - lg) s := by
    have := h.skips R hF hG hi hg (lf + 1 - lg - d) d (by omega) (by omega)
    rwa [show d + (lf + 1 - lg - d) = lf + 1 - lg by omega] at this
  have hql := hq.ql
  have hrl2 := hq.rl
  refine ⟨?_, ?_⟩
  · rw [tl_unique (k := s.q) (by omega) (fun i h1 _ => hq.qz i h1) fun h1 => ?_]
    · exact lstF_congr fun i hi => hq.qe i hi
    · rw [← hq.qe _ (by omega)]; exact hq.qt h1
  · rw [tl_unique (k := s.r) (by omega) (fun i h1 h2 => hq.rz i h1 h2) fun h1 => ?_]
    · exact lstF_congr fun i hi => hq.re i hi
    · rw [← hq.re _ (by omega)]; exact hq.rt h1
end

noncomputable def pdvI (n o : Int) (Y V : List Int) : Int := invN n.toNat (tabOf Y) o.toNat (tabOf V (V.length - 1))
noncomputable def pdvB (n o : Int) (X Y Z V : List Int) : Bool := twoB n o X Y Z V && (decide (V.length ≠ 0) && decide (0 ≤ pdvI n o Y V))
noncomputable def pdvF (n o : Int) (X Y Z V : List Int) : Nat → Nat := divO n.toNat (tabOf X) (tabOf Y) (tabOf Z) Z.length (tabOf V) V.length (pdvI n o Y V).toNat (Z.length + 1 - V.length)
noncomputable def pdvG (n o : Int) (X Y Z V : List Int) : Nat → Nat := divR n.toNat (tabOf X) (tabOf Y) (tabOf Z) Z.length (tabOf V) V.length (pdvI n o Y V).toNat (Z.length + 1 - V.length)
noncomputable def pdvQ (n o : Int) (X Y Z V : List Int) : List Int := if pdvB n o X Y Z V = true then lstF (pdvF n o X Y Z V) (tlN (pdvF n o X Y Z V) Z.length) else []
noncomputable def pdvR (n o : Int) (X Y Z V : List Int) : List Int := if pdvB n o X Y Z V = true then lstF (pdvG n o X Y Z V) (tlN (pdvG n o X Y Z V) Z.length) else []

end Go.Proofs.Ytlcpbdbdiahmjaa



/- PolyValid of both sides. -/
namespace Go.Proofs.Ytlcpbdbdiahmjaa
open Go.RowKit
set_option maxRecDepth 100000

section
variable {n o : Int} {X Y Z : List Int}
theorem polB_v (h : validB n o X Y = false) : polB n o X Y Z = false := by unfold polB; rw [h]; rfl
theorem polB_8 (h : ¬ Z.length ≤ 8) : polB n o X Y Z = false := by unfold polB; rw [decide_eq_false h]; simp
theorem polB_a (h : allB n Z = false) : polB n o X Y Z = false := by unfold polB; rw [h]; simp
theorem polB_l (h : lastB Z = false) : polB n o X Y Z = false := by unfold polB; rw [h]; simp
theorem polB_yes (h1 : validB n o X Y = true) (h2 : Z.length ≤ 8) (h3 : allB n Z = true) (h4 : lastB Z = true) : polB n o X Y Z = true := by unfold polB; rw [h1, h3, h4, decide_eq_true h2]; rfl
theorem ints_cell {w : World} {B n k : Nat} {A : Option Addr} {xs : List Int} (h : Ints w B A n xs) (hk : k < n) : ∃ b off, A = some ⟨b, off, none⟩ ∧ b < B ∧ w.cell? ⟨b, off + k, none⟩ = some (.int .i64 (xs[k]?.getD 0)) := by
  obtain ⟨b, off, e, h1, h2⟩ := h.2 (by omega)
  have hl := h.1
  refine ⟨b, off, e, h1, h2 k _ ?_⟩
  rw [List.getElem?_eq_getElem (by omega)]
  rfl
end

set_option maxHeartbeats 4000000 in
theorem pol_any (n o : Int) (A B F : Option Addr) (la ca lb cb lf cf : Nat) (X Y Z : List Int) (w : World) (hX : Ints w w.heap.size A la X) (hY : Ints w w.heap.size B lb Y) (hF : Ints w w.heap.size F lf Z) (hla : la ≤ 9223372036854775807) (hlb : lb ≤ 9223372036854775807) (hlf : lf ≤ 9223372036854775807) (hca : la ≤ ca) (hcb : lb ≤ cb) :
    Calls Try.prog 113 #[.agg #[.int .i64 n, .int .i64 o, .slice A la ca, .slice B lb cb], .slice F lf cf] w fun e' w' => e' = .returned (.bool (polB n o X Y Z)) ∧ Below w.heap.size w w' := by
  have hZ := hF.1
  obtain ⟨W, hW⟩ : ∃ W, w.alloc (.cells #[.int .i64 n, .int .i64 o, .slice A la ca, .slice B lb cb] 25) = W := ⟨_, rfl⟩
  have k0 : Blk W w.heap.size 25 #[.int .i64 n, .int .i64 o, .slice A la ca, .slice B lb cb] := by subst hW; exact Blk.new w _ _
  have b0 : Below w.heap.size w W := by subst hW; exact (Below.refl _ _).alloc (Nat.le_refl _) _
  have HX := Lib.hid hX
  have HY := Lib.hid hY
  have HF := Lib.hid hF
  have K0 := Lib.hid k0
  have B0 := Lib.hid b0
  have HW := Lib.hid hW
  have HH := Lib.hid (show wrap64 (n - 1) = hiOf n from rfl)
  have hs0 := k0.lt
  obtain ⟨c0, c1, c2, c3⟩ := blk4 k0
  clear hX hY hF k0 b0 hW
  by_cases h8 : lf ≤ 8
  rotate_left
  · have hz := Lib.hid (polB_8 (n := n) (o := o) (X := X) (Y := Y) (Z := Z) (by omega))
    have t1 : ¬ (lf : Int) ≤ 8 := by omega
    have t2 : (8 : Int) < (lf : Int) := by omega
    go_enter Try.func113, Try.ntmps113
    go_wp2_with (fail)
    rw [HW.out]
    go_wp2
    go_ret
    exact ⟨ret_bool hz.out.symm, B0.out⟩
  have t1 : (lf : Int) ≤ 8 := by omega
  have t2 : ¬ (8 : Int) < (lf : Int) := by omega
  cases hv : validB n o X Y
  · have hz := Lib.hid (polB_v (Z := Z) hv)
    go_enter Try.func113, Try.ntmps113
    go_wp2_with (fail)
    rw [HW.out]
    go_wp2_with (first
      | (go_at_call 71; (with_reducible refine (valid_any _ _ _ _ _ _ _ _ X Y _ (HX.out.next B0.out) (HY.out.next B0.out) hla hlb hca hcb).mono ?_); rintro e1 w1 ⟨rfl, hb1⟩; have K1 := Lib.hid (K0.out.next hb1); have B1 := Lib.hid (below_step B0.out hb1); clear hb1; clear c0 c1 c2 c3; obtain ⟨c0, c1, c2, c3⟩ := blk4 K1.out)
      | fail)
    go_ret
    exact ⟨ret_bool hz.out.symm, B1.out⟩
  cases ha : allB n Z
  · have hz := Lib.hid (polB_a (o := o) (X := X) (Y := Y) ha)
    go_enter Try.func113, Try.ntmps113
    go_wp2_with (fail)
    rw [HW.out]
    go_wp2_with (first
      | (go_at_call 71; (with_reducible refine (valid_any _ _ _ _ _ _ _ _ X Y _ (HX.out.next B0.out) (HY.out.next B0.out) hla hlb hca hcb).mono ?_); rintro e1 w1 ⟨rfl, hb1⟩; have K1 := Lib.hid (K0.out.next hb1); have B1 := Lib.hid (below_step B0.out hb1); clear hb1; clear c0 c1 c2 c3; obtain ⟨c0, c1, c2, c3⟩ := blk4 K1.out)
      | (go_at_call 119; (with_reducible refine (hasAll_any _ _ _ _ _ _ _ _ _ _ _ Z _ (HF.out.next B1.out) hlf).mono ?_); rintro e2 w2 ⟨rfl, hb2⟩; have K2 := Lib.hid (K1.out.next hb2); have B2 := Lib.hid (below_step B1.out hb2); clear hb2; clear c0 c1 c2 c3; obtain ⟨c0, c1, c2, c3⟩ := blk4 K2.out)
      | fail)
    go_ret
    exact ⟨ret_bool hz.out.symm, B2.out⟩
  by_cases h0 : lf = 0
  · subst h0
    have hl : lastB Z = true := decide_eq_true (.inl hZ)
    have hz := Lib.hid (polB_yes hv (by omega) ha hl)
    go_enter Try.func113, Try.ntmps113
    go_wp2_with (fail)
    rw [HW.out]
    go_wp2_with (first
      | (go_at_call 71; (with_reducible refine (valid_any _ _ _ _ _ _ _ _ X Y _ (HX.out.next B0.out) (HY.out.next B0.out) hla hlb hca hcb).mono ?_); rintro e1 w1 ⟨rfl, hb1⟩; have K1 := Lib.hid (K0.out.next hb1); have B1 := Lib.hid (below_step B0.out hb1); clear hb1; clear c0 c1 c2 c3; obtain ⟨c0, c1, c2, c3⟩ := blk4 K1.out)
      | (go_at_call 119; (with_reducible refine (hasAll_any _ _ _ _ _ _ _ _ _ _ _ Z _ (HF.out.next B1.out) hlf).mono ?_); rintro e2 w2 ⟨rfl, hb2⟩; have K2 := Lib.hid (K1.out.next hb2); have B2 := Lib.hid (below_step B1.out hb2); clear hb2; clear c0 c1 c2 c3; obtain ⟨c0, c1, c2, c3⟩ := blk4 K2.out)
      | fail)
    go_ret
    exact ⟨ret_bool hz.out.symm, B2.out⟩
  · obtain ⟨k, rfl⟩ : ∃ k, lf = k + 1 := ⟨lf - 1, by omega⟩
    obtain ⟨b, off, rfl, hb, hc0⟩ := ints_cell (k := k) HF.out (by omega)
    obtain ⟨z, hzz⟩ : ∃ z, Z[k]?.getD 0 = z := ⟨_, rfl⟩
    rw [hzz] at hc0
    have fc := B0.out.cell (p := ⟨b, off + k, none⟩) hb |>.trans hc0
    have HC := Lib.hid hc0
    have tk : ((k + 1 : Nat) : Int) = (k : Int) + 1 := by omega
    have tk2 : ¬ ((k : Int) + 1 = 0) := by omega
    have tk3 : (((k : Int) + 1) == 0) = false := by rw [beq_eq_false_iff_ne]; omega
    have tk4 : IntKind.i64.wrap ((k : Int) + 1 - 1) = (k : Int) := by rw [IntWalk.i64_in _ (by omega)]; omega
    clear hc0
    by_cases hz0 : z = 0
    · have hl : lastB Z = false := decide_eq_false (by rw [show Z.length - 1 = k by omega, hzz]; rintro (h | h); omega; exact h hz0)
      have tz : (z != 0) = false := by rw [hz0]; rfl
      have tz2 : (z == 0) = true := by rw [hz0]; rfl
      have hz := Lib.hid (polB_l (n := n) (o := o) (X := X) (Y := Y) hl)
      subst hz0
      go_enter Try.func113, Try.ntmps113
      go_wp2_with (fail)
      rw [HW.out]
      go_wp2_with (first
        | (go_at_call 71; (with_reducible refine (valid_any _ _ _ _ _ _ _ _ X Y _ (HX.out.next B0.out) (HY.out.next B0.out) hla hlb hca hcb).mono ?_); rintro e1 w1 ⟨rfl, hb1⟩; have K1 := Lib.hid (K0.out.next hb1); have B1 := Lib.hid (below_step B0.out hb1); clear fc; have fc := (B1.out.cell (p := ⟨b, off + k, none⟩) hb).trans HC.out; clear hb1; clear c0 c1 c2 c3; obtain ⟨c0, c1, c2, c3⟩ := blk4 K1.out)
        | (go_at_call 119; (with_reducible refine (hasAll_any _ _ _ _ _ _ _ _ _ _ _ Z _ (HF.out.next B1.out) hlf).mono ?_); rintro e2 w2 ⟨rfl, hb2⟩; have K2 := Lib.hid (K1.out.next hb2); have B2 := Lib.hid (below_step B1.out hb2); clear fc; have fc := (B2.out.cell (p := ⟨b, off + k, none⟩) hb).trans HC.out; clear hb2; clear c0 c1 c2 c3; obtain ⟨c0, c1, c2, c3⟩ := blk4 K2.out)
        | fail)
      go_ret
      exact ⟨ret_bool hz.out.symm, B2.out⟩
    · have hl : lastB Z = true := decide_eq_true (.inr (by rw [show Z.length - 1 = k by omega, hzz]; exact hz0))
      have tz : (z != 0) = true := by rw [bne_iff_ne]; exact hz0
      have tz2 : (z == 0) = false := by rw [beq_eq_false_iff_ne]; exact hz0
      have hz := Lib.hid (polB_yes hv (by omega) ha hl)
      go_enter Try.func113, Try.ntmps113
      go_wp2_with (fail)
      rw [HW.out]
      go_wp2_with (first
        | (go_at_call 71; (with_reducible refine (valid_any _ _ _ _ _ _ _ _ X Y _ (HX.out.next B0.out) (HY.out.next B0.out) hla hlb hca hcb).mono ?_); rintro e1 w1 ⟨rfl, hb1⟩; have K1 := Lib.hid (K0.out.next hb1); have B1 := Lib.hid (below_step B0.out hb1); clear fc; have fc := (B1.out.cell (p := ⟨b, off + k, none⟩) hb).trans HC.out; clear hb1; clear c0 c1 c2 c3; obtain ⟨c0, c1, c2, c3⟩ := blk4 K1.out)
        | (go_at_call 119; (with_reducible refine (hasAll_any _ _ _ _ _ _ _ _ _ _ _ Z _ (HF.out.next B1.out) hlf).mono ?_); rintro e2 w2 ⟨rfl, hb2⟩; have K2 := Lib.hid (K1.out.next hb2); have B2 := Lib.hid (below_step B1.out hb2); clear fc; have fc := (B2.out.cell (p := ⟨b, off + k, none⟩) hb).trans HC.out; clear hb2; clear c0 c1 c2 c3; obtain ⟨c0, c1, c2, c3⟩ := blk4 K2.out)
        | fail)
      go_ret
      exact ⟨ret_bool hz.out.symm, B2.out⟩

set_option maxHeartbeats 4000000 in
theorem spol_any (n o : Int) (A B F : Option Addr) (la ca lb cb lf cf : Nat) (X Y Z : List Int) (w : World) (hX : Ints w w.heap.size A la X) (hY : Ints w w.heap.size B lb Y) (hF : Ints w w.heap.size F lf Z) (hla : la ≤ 9223372036854775807) (hlb : lb ≤ 9223372036854775807) (hlf : lf ≤ 9223372036854775807) (hca : la ≤ ca) (hcb : lb ≤ cb) :
    Calls Try.prog 95 #[.agg #[.int .i64 n, .int .i64 o, .slice A la ca, .slice B lb cb], .slice F lf cf] w fun e' w' => e' = .returned (.bool (polB n o X Y Z)) ∧ Below w.heap.size w w' := by
  have hZ := hF.1
  obtain ⟨W, hW⟩ : ∃ W, w.alloc (.cells #[.int .i64 n, .int .i64 o, .slice A la ca, .slice B lb cb] 25) = W := ⟨_, rfl⟩
  have k0 : Blk W w.heap.size 25 #[.int .i64 n, .int .i64 o, .slice A la ca, .slice B lb cb] := by subst hW; exact Blk.new w _ _
  have b0 : Below w.heap.size w W := by subst hW; exact (Below.refl _ _).alloc (Nat.le_refl _) _
  have HX := Lib.hid hX
  have HY := Lib.hid hY
  have HF := Lib.hid hF
  have K0 := Lib.hid k0
  have B0 := Lib.hid b0
  have HW := Lib.hid hW
  have HH := Lib.hid (show wrap64 (n - 1) = hiOf n from rfl)
  have hs0 := k0.lt
  obtain ⟨c0, c1, c2, c3⟩ := blk4 k0
  clear hX hY hF k0 b0 hW
  cases hel : elB (hiOf n) Z
  · have hz := Lib.hid (show polB n o X Y Z = false from by
      cases hv : validB n o X Y
      · exact polB_v hv
      · exact polB_a (by rw [hi_valid hv, elB_allB] at hel; exact hel))
    go_enter Try.func95, Try.ntmps95
    go_wp2_with (fail)
    rw [HW.out]
    go_wp2_with (first
      | (go_at_call 74; (with_reducible refine (l1Elements_any _ _ _ _ _ Z _ _ HH.out (HF.out.next B0.out) hlf).mono ?_); rintro e51 w51 ⟨rfl, rfl⟩)
      | fail)
    go_ret
    exact ⟨ret_bool hz.out.symm, B0.out⟩
  by_cases h8 : lf ≤ 8
  rotate_left
  · have hz := Lib.hid (polB_8 (n := n) (o := o) (X := X) (Y := Y) (Z := Z) (by omega))
    have t1 : ¬ (lf : Int) ≤ 8 := by omega
    have t2 : (8 : Int) < (lf : Int) := by omega
    go_enter Try.func95, Try.ntmps95
    go_wp2_with (fail)
    rw [HW.out]
    go_wp2_with (first
      | (go_at_call 74; (with_reducible refine (l1Elements_any _ _ _ _ _ Z _ _ HH.out (HF.out.next B0.out) hlf).mono ?_); rintro e51 w51 ⟨rfl, rfl⟩)
      | fail)
    go_ret
    exact ⟨ret_bool hz.out.symm, B0.out⟩
  have t1 : (lf : Int) ≤ 8 := by omega
  have t2 : ¬ (8 : Int) < (lf : Int) := by omega
  by_cases h0 : lf = 0
  · subst h0
    have hl : lastB Z = true := decide_eq_true (.inl hZ)
    cases hv : validB n o X Y
    · have hz := Lib.hid (polB_v (Z := Z) hv)
      go_enter Try.func95, Try.ntmps95
      go_wp2_with (fail)
      rw [HW.out]
      go_wp2_with (first
        | (go_at_call 74; (with_reducible refine (l1Elements_any _ _ _ _ _ Z _ _ HH.out (HF.out.next B0.out) hlf).mono ?_); rintro e51 w51 ⟨rfl, rfl⟩)
        | (go_at_call 75; (with_reducible refine (specValid_any _ _ _ _ _ _ _ _ X Y _ (HX.out.next B0.out) (HY.out.next B0.out) hla hlb hca hcb).mono ?_); rintro e1 w1 ⟨rfl, hb1⟩; have K1 := Lib.hid (K0.out.next hb1); have B1 := Lib.hid (below_step B0.out hb1); clear hb1; clear c0 c1 c2 c3; obtain ⟨c0, c1, c2, c3⟩ := blk4 K1.out)
        | fail)
      go_ret
      exact ⟨ret_bool hz.out.symm, B1.out⟩
    · have hz := Lib.hid (polB_yes hv (by omega) (by rw [hi_valid hv, elB_allB] at hel; exact hel) hl)
      go_enter Try.func95, Try.ntmps95
      go_wp2_with (fail)
      rw [HW.out]
      go_wp2_with (first
        | (go_at_call 74; (with_reducible refine (l1Elements_any _ _ _ _ _ Z _ _ HH.out (HF.out.next B0.out) hlf).mono ?_); rintro e51 w51 ⟨rfl, rfl⟩)
        | (go_at_call 75; (with_reducible refine (specValid_any _ _ _ _ _ _ _ _ X Y _ (HX.out.next B0.out) (HY.out.next B0.out) hla hlb hca hcb).mono ?_); rintro e1 w1 ⟨rfl, hb1⟩; have K1 := Lib.hid (K0.out.next hb1); have B1 := Lib.hid (below_step B0.out hb1); clear hb1; clear c0 c1 c2 c3; obtain ⟨c0, c1, c2, c3⟩ := blk4 K1.out)
        | fail)
      go_ret
      exact ⟨ret_bool hz.out.symm, B1.out⟩
  · obtain ⟨k, rfl⟩ : ∃ k, lf = k + 1 := ⟨lf - 1, by omega⟩
    obtain ⟨b, off, rfl, hb, hc0⟩ := ints_cell (k := k) HF.out (by omega)
    obtain ⟨z, hzz⟩ : ∃ z, Z[k]?.getD 0 = z := ⟨_, rfl⟩
    rw [hzz] at hc0
    have fc := B0.out.cell (p := ⟨b, off + k, none⟩) hb |>.trans hc0
    have HC := Lib.hid hc0
    have tk : ((k + 1 : Nat) : Int) = (k : Int) + 1 := by omega
    have tk2 : ¬ ((k : Int) + 1 = 0) := by omega
    have tk3 : (((k : Int) + 1) == 0) = false := by rw [beq_eq_false_iff_ne]; omega
    have tk4 : IntKind.i64.wrap ((k : Int) + 1 - 1) = (k : Int) := by rw [IntWalk.i64_in _ (by omega)]; omega
    clear hc0
    by_cases hz0 : z = 0
    · have hl : lastB Z = false := decide_eq_false (by rw [show Z.length - 1 = k by omega, hzz]; rintro (h | h); omega; exact h hz0)
      have tz : (z != 0) = false := by rw [hz0]; rfl
      have tz2 : (z == 0) = true := by rw [hz0]; rfl
      have hz := Lib.hid (polB_l (n := n) (o := o) (X := X) (Y := Y) hl)
      subst hz0
      go_enter Try.func95, Try.ntmps95
      go_wp2_with (fail)
      rw [HW.out]
      go_wp2_with (first
        | (go_at_call 74; (with_reducible refine (l1Elements_any _ _ _ _ _ Z _ _ HH.out (HF.out.next B0.out) hlf).mono ?_); rintro e51 w51 ⟨rfl, rfl⟩)
        | fail)
      go_ret
      exact ⟨ret_bool hz.out.symm, B0.out⟩
    · have hl : lastB Z = true := decide_eq_true (.inr (by rw [show Z.length - 1 = k by omega, hzz]; exact hz0))
      have tz : (z != 0) = true := by rw [bne_iff_ne]; exact hz0
      have tz2 : (z == 0) = false := by rw [beq_eq_false_iff_ne]; exact hz0
      cases hv : validB n o X Y
      · have hz := Lib.hid (polB_v (Z := Z) hv)
        go_enter Try.func95, Try.ntmps95
        go_wp2_with (fail)
        rw [HW.out]
        go_wp2_with (first
          | (go_at_call 74; (with_reducible refine (l1Elements_any _ _ _ _ _ Z _ _ HH.out (HF.out.next B0.out) hlf).mono ?_); rintro e51 w51 ⟨rfl, rfl⟩)
          | (go_at_call 75; (with_reducible refine (specValid_any _ _ _ _ _ _ _ _ X Y _ (HX.out.next B0.out) (HY.out.next B0.out) hla hlb hca hcb).mono ?_); rintro e1 w1 ⟨rfl, hb1⟩; have K1 := Lib.hid (K0.out.next hb1); have B1 := Lib.hid (below_step B0.out hb1); clear fc; have fc := (B1.out.cell (p := ⟨b, off + k, none⟩) hb).trans HC.out; clear hb1; clear c0 c1 c2 c3; obtain ⟨c0, c1, c2, c3⟩ := blk4 K1.out)
          | fail)
        go_ret
        exact ⟨ret_bool hz.out.symm, B1.out⟩
      · have hz := Lib.hid (polB_yes hv (by omega) (by rw [hi_valid hv, elB_allB] at hel; exact hel) hl)
        go_enter Try.func95, Try.ntmps95
        go_wp2_with (fail)
        rw [HW.out]
        go_wp2_with (first
          | (go_at_call 74; (with_reducible refine (l1Elements_any _ _ _ _ _ Z _ _ HH.out (HF.out.next B0.out) hlf).mono ?_); rintro e51 w51 ⟨rfl, rfl⟩)
          | (go_at_call 75; (with_reducible refine (specValid_any _ _ _ _ _ _ _ _ X Y _ (HX.out.next B0.out) (HY.out.next B0.out) hla hlb hca hcb).mono ?_); rintro e1 w1 ⟨rfl, hb1⟩; have K1 := Lib.hid (K0.out.next hb1); have B1 := Lib.hid (below_step B0.out hb1); clear fc; have fc := (B1.out.cell (p := ⟨b, off + k, none⟩) hb).trans HC.out; clear hb1; clear c0 c1 c2 c3; obtain ⟨c0, c1, c2, c3⟩ := blk4 K1.out)
          | fail)
        go_ret
        exact ⟨ret_bool hz.out.symm, B1.out⟩

end Go.Proofs.Ytlcpbdbdiahmjaa



/- Coefficients in memory; Clone; the reading side's l9Trim and l9At. -/
namespace Go.Proofs.Ytlcpbdbdiahmjaa
open Go.RowKit
set_option maxRecDepth 100000

/-- Coefficients whose memory is the call's own. -/
def PolV (D : Nat) (w : World) (v : Value) (l : Nat) (F : Nat → Nat) : Prop := ∃ (A : Option Addr) (c : Nat), v = .slice A l c ∧ Own w D A l (lstF F l) ∧ l ≤ c ∧ l ≤ 1000 ∧ ((A = none ∧ c = 0) ∨ ∃ b off, A = some ⟨b, off, none⟩)
theorem PolV.out {D : Nat} {w : World} {v : Value} {l : Nat} {F : Nat → Nat} (h : PolV D w v l F) : SliceOut D w v (lstF F l) := by
  obtain ⟨A, c, e, h1, h2, h3, _⟩ := h
  exact ⟨A, l, c, e, h1, h2, by omega⟩
theorem PolV.next {D : Nat} {w w' : World} {v : Value} {l : Nat} {F : Nat → Nat} (h : PolV D w v l F) (hb : Below w.heap.size w w') : PolV D w' v l F := by
  obtain ⟨A, c, e, h1, h2, h3, h4⟩ := h
  exact ⟨A, c, e, h1.next hb, h2, h3, h4⟩
theorem PolV.down {D D' : Nat} {w : World} {v : Value} {l : Nat} {F : Nat → Nat} (h : PolV D w v l F) (hD : D' ≤ D) : PolV D' w v l F := by
  obtain ⟨A, c, e, h1, h2⟩ := h
  exact ⟨A, c, e, h1.down hD, h2⟩
theorem PolV.of_row {D : Nat} {w : World} {v : Value} {l : Nat} {F : Nat → Nat} {T : TypeId} (h : w.ownsRow D T 1 v l ((lstF F l).map (.int .i64))) (hl : l ≤ 1000) : PolV D w v l F := by
  rcases h.2 with ⟨rfl, h0⟩ | ⟨g, cap, cur, rfl, _, _, hc, _⟩
  · subst h0
    exact ⟨none, 0, rfl, Own.nil, Nat.le_refl _, by omega, .inl ⟨rfl, rfl⟩⟩
  · exact ⟨_, _, rfl, own_of_row h lstF_len, hc, hl, .inr ⟨g, 0, rfl⟩⟩
theorem PolV.congr {D : Nat} {w : World} {v : Value} {l : Nat} {F G : Nat → Nat} (h : PolV D w v l F) (he : ∀ i, i < l → F i = G i) : PolV D w v l G := by
  obtain ⟨A, c, e, h1, h2⟩ := h
  exact ⟨A, c, e, by rw [← lstF_congr he]; exact h1, h2⟩
theorem PolV.nil {D : Nat} {w : World} {F : Nat → Nat} : PolV D w (.slice none 0 0) 0 F := ⟨none, 0, rfl, Own.nil, Nat.le_refl _, by omega, .inl ⟨rfl, rfl⟩⟩
/-- Fewer of them. -/
theorem Own.less {w : World} {D l k : Nat} {A : Option Addr} {F : Nat → Nat} (h : Own w D A l (lstF F l)) (hk : k ≤ l) : Own w D A k (lstF F k) :=
  ⟨lstF_len, fun hn => by
    obtain ⟨g, off, e, h1, h2, h3⟩ := h.2 (by omega)
    refine ⟨g, off, e, h1, h2, fun j hj => ?_⟩
    have := h3 j (by omega)
    rwa [lstF_get (by omega)] at this ⊢⟩
theorem ints_adds {w : World} {B n : Nat} {ad : Addr} {xs : List Int} (h : Ints w B (some ad) n xs) (j : Nat) (u : Value) (hj : (xs.map (Value.int .i64))[j]? = some u) : w.cell? (ad.add j) = some u := by
  rw [List.getElem?_map] at hj
  cases hq : xs[j]? with
  | none => rw [hq] at hj; cases hj
  | some y =>
    rw [hq] at hj
    simp only [Option.map_some, Option.some.injEq] at hj
    subst hj
    have hlt : j < xs.length := by
      rcases Nat.lt_or_ge j xs.length with h1 | h1
      · exact h1
      · rw [List.getElem?_eq_none h1] at hq; cases hq
    have hl := h.1
    obtain ⟨b, off, e', hb, hc⟩ := h.2 (by omega)
    simp only [Option.some.injEq] at e'
    subst e'
    have hadd : (⟨b, off, none⟩ : Addr).add j = ⟨b, off + j, none⟩ := by unfold Addr.add; split <;> simp_all
    rw [hadd]
    exact hc j y hq
theorem lstF_cell {w : World} {B b off l i : Nat} {F : Nat → Nat} (h : Ints w B (some ⟨b, off, none⟩) l (lstF F l)) (hi : i < l) : w.cell? ⟨b, off + i, none⟩ = some (.int .i64 ((F i : Nat) : Int)) := by
  obtain ⟨b', off', e, _, h2⟩ := h.2 (by omega)
  simp only [Option.some.injEq, Addr.mk.injEq, and_true] at e
  obtain ⟨rfl, rfl⟩ := e
  exact h2 i _ (lstF_get hi)
theorem lstF_addr {w : World} {B l : Nat} {A : Option Addr} {F : Nat → Nat} (h : Ints w B A l (lstF F l)) (hl : 0 < l) : ∃ b off, A = some ⟨b, off, none⟩ ∧ b < B := by
  obtain ⟨b, off, e, h1, _⟩ := h.2 hl
  exact ⟨b, off, e, h1⟩
theorem map_one {xs : List Int} : ∀ u ∈ xs.map (Value.int .i64), u.oneCell' = true := by
  intro u hu
  simp only [List.mem_map] at hu
  obtain ⟨y, _, rfl⟩ := hu
  rfl

theorem cloneP_any (E : Option Addr) (n cap C : Nat) (xs : List Int) (w : World) (hx : Ints w C E n xs) (hC : C ≤ w.heap.size) (hn' : n ≤ 1000) :
    Calls Try.prog 114 #[.slice E n cap] w fun e w' => ∃ v, e = .returned v ∧ w'.ownsRow w.heap.size 3 1 v n (xs.map (.int .i64)) ∧ Below w.heap.size w w' := by
  obtain ⟨i0, hi, hz0, hz1, hz2⟩ := info_parts int_info
  have hxl := hx.1
  cases E with
  | none =>
    have hn0 : n = 0 := by
      rcases Nat.eq_zero_or_pos n with h | h
      · exact h
      · obtain ⟨_, _, e, _⟩ := hx.2 h; cases e
    subst hn0
    obtain rfl := List.eq_nil_of_length_eq_zero hxl
    have hnil := Go.Lib.run_eql_slice_nil_nil (P := Try.prog) w 0 cap Try.underlying23
    clear hx
    go_enter Try.func114, Try.ntmps114
    go_wp2
    go_ret
    exact ⟨_, rfl, World.ownsRow_nil _ _ _ _, Below.refl _ _⟩
  | some ad =>
    have O0 := Lib.hid (own_lit_K (w := w) (base := w.heap.size) (e := 3) [] (Nat.le_refl _) (by unfold maxLen; simp))
    have B0 := Lib.hid ((Below.refl w.heap.size w).alloc (Nat.le_refl _) (.cells #[] 3))
    have hx2 : Ints (w.alloc (.cells #[] 3)) C (some ad) n xs := hx.below ((Below.refl _ w).alloc (Nat.le_refl _) _) hC
    have hcl := Lib.hid (ints_adds hx2)
    have hnil := Go.Lib.run_eql_slice_some_nil (P := Try.prog) w ad n cap Try.underlying23
    clear hx hx2
    go_enter Try.func114, Try.ntmps114
    go_wp2_with (at_builtin; refine wpList_append_own _ rfl _ _ 23 rfl w.heap.size 3 i0 (.int .i64 0) 1 8 Try.underlying23 hi hz0 hz1 hz2 rfl (by decide) _ _ _ rfl O0.out ad n cap (xs.map (.int .i64)) rfl (by simp [hxl]) hcl.out map_one (by unfold maxLen; simp; omega) (by simp; omega) (by simp) ?_; intro v3 w3 hown3 hg3 _)
    have B3 := Lib.hid (B0.out.grown hg3 (by simp) (fun k hk => (O0.out.lt k hk).1))
    have O3 := Lib.hid (show w3.ownsRow w.heap.size 3 1 v3 n (xs.map (.int .i64)) by simpa using hown3)
    clear hown3 hg3
    go_wp2
    go_ret
    exact ⟨_, rfl, O3.out, B3.out⟩

set_option maxHeartbeats 1000000 in
theorem l9Trim_any (D : Nat) (v : Value) (l : Nat) (F : Nat → Nat) (w : World) (h : PolV D w v l F) :
    Calls Try.prog 54 #[v] w fun e w' => ∃ v', e = .returned v' ∧ PolV w.heap.size w' v' (tlN F l) F ∧ Below w.heap.size w w' := by
  obtain ⟨i0, hi, hz0, hz1, hz2⟩ := info_parts int_info
  obtain ⟨A, c, rfl, ho, hc, hl, hA⟩ := h
  have HI := Lib.hid ho.ints
  clear ho
  rcases hA with ⟨rfl, rfl⟩ | ⟨b, off, rfl⟩
  · have hl0 : l = 0 := by omega
    subst hl0
    go_enter Try.func54, Try.ntmps54
    go_wp2
    go_loopg [0] 1 (fun g s wr => s = .slice none 0 0 ∧ Below w.heap.size w wr)
    case atStart => exact ⟨rfl, Below.refl _ _⟩
    case round =>
      obtain ⟨rfl, hb⟩ := hrel
      have B1 := Lib.hid hb
      have hsz := hb.size
      clear hb
      have O0 := Lib.hid (own_lit_K (w := wr) (base := w.heap.size) (e := 3) [] hsz (by unfold maxLen; simp))
      have B2 := Lib.hid (B1.out.alloc hsz (.cells #[] 3))
      go_wp2_with (at_builtin; refine wpList_append_own_none rfl _ _ 23 rfl w.heap.size 3 i0 1 Try.underlying23 hi (by rw [hz1]) _ 0 [] rfl O0.out rfl ?_)
      go_ret
      exact ⟨_, rfl, show PolV w.heap.size _ _ 0 F from PolV.of_row O0.out (by omega), B2.out⟩
  · go_enter Try.func54, Try.ntmps54
    go_wp2
    go_loopg [0] l (fun g s wr => ∃ k : Nat, k ≤ l ∧ k ≤ g ∧ s = .slice (some ⟨b, off, none⟩) k c ∧ tlN F k = tlN F l ∧ Below w.heap.size w wr)
    case atStart => exact ⟨l, Nat.le_refl _, Nat.le_refl _, rfl, rfl, Below.refl _ _⟩
    case round =>
      obtain ⟨k, hk, hg, rfl, htl, hb⟩ := hrel
      have B1 := Lib.hid hb
      have hsz := hb.size
      have HI1 := Lib.hid (HI.out.next hb)
      have HT := Lib.hid htl
      clear hb htl
      have O0 := Lib.hid (own_lit_K (w := wr) (base := w.heap.size) (e := 3) [] hsz (by unfold maxLen; simp))
      have B2 := Lib.hid (B1.out.alloc hsz (.cells #[] 3))
      have hcl := Lib.hid (show ∀ (j : Nat) (u : Value), ((lstF F k).map (Value.int .i64))[j]? = some u → (wr.alloc (.cells #[] 3)).cell? ((⟨b, off, none⟩ : Addr).add j) = some u from
        ints_adds (B := w.heap.size) (n := k) ⟨lstF_len, fun hn => by
          obtain ⟨b', off', e, h1, h2⟩ := HI.out.2 (by omega)
          simp only [Option.some.injEq, Addr.mk.injEq, and_true] at e
          obtain ⟨rfl, rfl⟩ := e
          refine ⟨_, _, rfl, h1, fun j x hx => ?_⟩
          have hj : j < k := by
            rcases Nat.lt_or_ge j k with h3 | h3
            · exact h3
            · rw [List.getElem?_eq_none (by rw [lstF_len]; exact h3)] at hx; cases hx
          rw [lstF_get hj] at hx
          simp only [Option.some.injEq] at hx
          subst hx
          exact (B2.out.cell (p := ⟨_, _, none⟩) h1).trans (lstF_cell HI.out (by omega))⟩)
      cases k with
      | zero =>
        go_wp2_with (at_builtin; refine wpList_append_own _ rfl _ _ 23 rfl w.heap.size 3 i0 (.int .i64 0) 1 8 Try.underlying23 hi hz0 hz1 hz2 rfl (by decide) _ _ _ rfl O0.out ⟨b, off, none⟩ 0 c ((lstF F 0).map (.int .i64)) rfl (by simp [lstF_len]) hcl.out map_one (by unfold maxLen; simp) (by simp) (by simp; omega) ?_; intro v3 w3 hown3 hg3 _)
        have B3 := Lib.hid (B2.out.grown hg3 (by simp; omega) (fun k hk => (O0.out.lt k hk).1))
        have O3 := Lib.hid (show w3.ownsRow w.heap.size 3 1 v3 0 ((lstF F 0).map (.int .i64)) by simpa using hown3)
        clear hown3 hg3
        go_wp2
        go_ret
        exact ⟨_, rfl, by rw [← HT.out]; exact (show PolV w.heap.size _ _ 0 F from PolV.of_row O3.out (by omega)), B3.out⟩
      | succ k =>
        have hc0 := lstF_cell HI1.out (i := k) (by omega)
        by_cases h0 : F k = 0
        · rw [h0] at hc0
          have t0 := Lib.hid ((tl_zero h0).symm.trans HT.out)
          go_wp2
          go_roundg k
          case measure => omega
          case rel => exact ⟨k, by omega, by omega, by go_num, t0.out, B1.out⟩
        · have t1 : (((F k : Nat) : Int) == 0) = false := by rw [beq_eq_false_iff_ne]; omega
          have t2 : ¬ ((F k : Nat) : Int) = 0 := by omega
          have t3 := Lib.hid ((tl_top h0).symm.trans HT.out)
          go_wp2_with (at_builtin; refine wpList_append_own _ rfl _ _ 23 rfl w.heap.size 3 i0 (.int .i64 0) 1 8 Try.underlying23 hi hz0 hz1 hz2 rfl (by decide) _ _ _ rfl O0.out ⟨b, off, none⟩ (k + 1) c ((lstF F (k + 1)).map (.int .i64)) rfl (by simp [lstF_len]) hcl.out map_one (by unfold maxLen; simp; omega) (by simp; omega) (by simp; omega) ?_; intro v3 w3 hown3 hg3 _)
          have B3 := Lib.hid (B2.out.grown hg3 (by simp; omega) (fun k hk => (O0.out.lt k hk).1))
          have O3 := Lib.hid (show w3.ownsRow w.heap.size 3 1 v3 (k + 1) ((lstF F (k + 1)).map (.int .i64)) by simpa using hown3)
          clear hown3 hg3
          go_wp2
          go_ret
          exact ⟨_, rfl, by rw [← HT.out, tl_top h0]; exact PolV.of_row O3.out (by omega), B3.out⟩

end Go.Proofs.Ytlcpbdbdiahmjaa



/- The reading side's l9Add. -/
namespace Go.Proofs.Ytlcpbdbdiahmjaa
open Go.RowKit
set_option maxRecDepth 100000

section
variable {F : Nat → Nat} {l k v : Nat}
theorem lstV_len : ((lstF F l).map (Value.int .i64)).length = l := by rw [List.length_map, lstF_len]
theorem lstV_get (h : k < l) : ((lstF F l).map (Value.int .i64))[k]? = some (.int .i64 ((F k : Nat) : Int)) := by
  rw [List.getElem?_map, lstF_get h]; rfl
theorem lstV_set (_ : k < l) : ((lstF F l).map (Value.int .i64)).set k (.int .i64 ((v : Nat) : Int)) = (lstF (putF F k v) l).map (Value.int .i64) := by
  apply List.ext_getElem?
  intro j
  rcases Nat.lt_or_ge j l with hj | hj
  · rw [List.getElem?_set, lstV_get hj, lstV_get hj, lstV_len]
    by_cases e : k = j
    · subst e; rw [if_pos rfl, if_pos hj]; unfold putF; rw [if_pos rfl]
    · rw [if_neg e]; unfold putF; rw [if_neg (fun h => e h.symm)]
  · rw [List.getElem?_eq_none (by rw [List.length_set, lstV_len]; exact hj), List.getElem?_eq_none (by rw [lstV_len]; exact hj)]
theorem lstV_made {n : Nat} : (madeCells (Value.int .i64 0).cells (n * 1)).toList = (lstF (fun _ => 0) n).map (Value.int .i64) := by
  apply List.ext_getElem?
  intro j
  by_cases hj : j < n
  · rw [lstV_get hj]
    simp [madeCells, Value.cells, hj, Nat.mod_one]
  · rw [List.getElem?_eq_none (by simp [madeCells]; omega), List.getElem?_eq_none (by rw [lstV_len]; omega)]
theorem add_put {m i lf : Nat} {S F G : Nat → Nat} : putF (addF m S F lf G i) i (S (exF F lf i * m + G i)) = addF m S F lf G (i + 1) := funext fun j => by
  rw [add_step]
  unfold putF
  by_cases h : j = i
  · rw [if_pos h, if_pos h, h]
  · rw [if_neg h, if_neg h]
theorem add_at {m i lf : Nat} {S F G : Nat → Nat} : addF m S F lf G i i = exF F lf i := if_neg (by omega)
theorem mul_put {m i j lg : Nat} {S P F G : Nat → Nat} (h : j < lg) : putF (mulF m S P F G lg (i * lg + j)) (i + j) (S (mulF m S P F G lg (i * lg + j) (i + j) * m + P (F i * m + G j))) = mulF m S P F G lg (i * lg + j + 1) := funext fun t => by
  rw [mul_step h]
  unfold putF
  split
  · rename_i e; rw [e]
  · rfl
end

/-- Nothing is appended by a slice of no block, whatever its capacity. -/
theorem run_append_none_c {P : Program} {w : World} {base : Nat} {t ty e : TypeId} {i : TypeInfo} {size : Nat} (ht : P.underlying t = some (.slice e)) (hi : P.info? e = some i) {v : Value} {n : Nat} {xs : List Value} (c : Nat) (hown : w.ownsRow base e size v n xs) :
    (Builtin.append_ #[t, t] ty #[v, .slice none 0 c]).run P w = .ok v w := by
  rcases hown.2 with ⟨rfl, rfl⟩ | ⟨g, cap, cur, rfl, _, _, hnc, _⟩
  · simp [Builtin.append_, run_underlying ht, sizeOf, typeInfo, hi, Builtin.lenOf, Builtin.firstCells]
  · simp [Builtin.append_, run_underlying ht, sizeOf, typeInfo, hi, Builtin.lenOf, Builtin.firstCells, hnc, storeCells]
theorem wp_append_none_c {P : Program} {w : World} {ops : Array Oper} {rest : List Oper} {o : Oper} {a : Act} {Q : Exit → Act → World → Prop} (hgd : o.guard = none) (s x : Operand) (t : TypeId) (ho : o.op = .call { callee := .builtin .append, args := #[s, x], argTypes := #[t, t] })
    (base : Nat) (e : TypeId) (i : TypeInfo) (size : Nat) (ht : P.underlying t = some (.slice e)) (hi : P.info? e = some i) (v : Value) (n c : Nat) (xs : List Value) (hs : a.eval s = v) (hown : w.ownsRow base e size v n xs) (hx : a.eval x = .slice none 0 c)
    (h : wpList P ops Q rest (a.put o.dst v) w) : wpList P ops Q (o :: rest) a w := by
  refine wpList_plain hgd fun K hK => ?_
  have hrun := run_append_none_c (ty := o.type) ht hi c hown
  unfold Oper.wp
  simp [execOp, ho, resolve, invoke, builtin, hs, hx, hrun, Result.andThen]
  exact hK _ _ h

end Go.Proofs.Ytlcpbdbdiahmjaa



/- An append whose element a call makes, in one region that draws its order: the places of call, slice and append as letters. -/
namespace Go.Proofs.Ytlcpbdbdiahmjaa
open Go.RowKit
set_option maxRecDepth 100000

section
variable {row : Option Nat} {ic ia ib D D0 k c : Nat} {f : Nat → Nat}
end
/-- A struct is loaded whole in a region that draws its order. -/
theorem wpQuiet_load_rowP {P : Program} {ops : Array Oper} {C : World → Prop} {Q : Act → Prop} {rest : List Oper} {o : Oper} {a : Act} (hgd : o.guard = none) (ty : TypeId) (x : Operand) (ho : o.op = .load ty x)
    (g : Nat) (hx : a.eval x = .pointer (some ⟨g, 0, none⟩)) (t : TypeId) (cs : Array Value) (d : TypeDesc) (hg : ∀ w, C w → w.heap[g]? = some (.cells cs t (0, 0)))
    (hu : P.underlying ty = some d) (hd : (match d with | .struct _ | .array _ _ => true | _ => false) = true) (hi : (P.info? ty).map (·.size) = some cs.size)
    (h : wpQuiet P ops C Q rest (a.put o.dst (.agg cs))) : wpQuiet P ops C Q (o :: rest) a := by
  unfold wpQuiet
  rw [if_pos (by simp [Region.wanted, hgd])]
  refine ⟨.agg cs, fun w hw => ?_, h⟩
  unfold Oper.quietAt execOp
  simp only [ho, hx, Instr.loadAt, Instr.sureAddr, Sem.run_bind, Sem.run_pure, Result.andThen_ok, run_loadVar_row w g t ty cs (0, 0) d (hg w hw) hu hd hi]
  exact ⟨rfl, rfl⟩

end Go.Proofs.Ytlcpbdbdiahmjaa



/- The reading side's l9Mul. -/
namespace Go.Proofs.Ytlcpbdbdiahmjaa
open Go.RowKit
set_option maxRecDepth 100000

theorem mul_in {k lf lg : Nat} (h : k < lf) : k * lg + lg ≤ lf * lg := by
  rw [← Nat.succ_mul]
  exact Nat.mul_le_mul_right _ h

end Go.Proofs.Ytlcpbdbdiahmjaa



/- The reading side's l9Derived. -/
namespace Go.Proofs.Ytlcpbdbdiahmjaa
open Go.RowKit Go.Shelf
set_option maxRecDepth 100000

end Go.Proofs.Ytlcpbdbdiahmjaa

