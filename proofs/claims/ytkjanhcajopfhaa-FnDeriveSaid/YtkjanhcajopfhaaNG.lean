/- Texts of this seat in one: FA FB FC FD FE FF FG FH. -/
import Derived.Test.YtkjanhcajopfhaaMB
import Derived.Test.YtkjanhcajopfhaaMG
import Derived.Laws.AppendOwnNone
import Derived.Lib.BufferMore
import Derived.Test.YtkjanhcajopfhaaMC
import Derived.Test.YtkjanhcajopfhaaMQ

/- Plain facts: polynomials as functions of coefficients: values, sums, products, derivatives, what the laws hand back. No program in sight. -/
namespace Go.Proofs.Ytkjanhcajopfhaa
open Go.RowKit

/-- The last one of a list is not 0. -/
def lastB (Z : List Int) : Bool := decide (Z.length = 0 ∨ Z[Z.length - 1]?.getD 0 ≠ 0)
/-- A list is a polynomial over a ring. -/
noncomputable def polB (n o : Int) (X Y Z : List Int) : Bool := validB n o X Y && (decide (Z.length ≤ 8) && (allB n Z && lastB Z))
/-- The coefficients without zeros at the end: how many. -/
def tlN (F : Nat → Nat) : Nat → Nat
  | 0 => 0
  | l + 1 => if F l = 0 then tlN F l else l + 1
/-- The list of the first coefficients. -/
def lstF (F : Nat → Nat) (l : Nat) : List Int := (List.range l).map fun i => ((F i : Nat) : Int)
/-- The value, d coefficients from the top being in it. -/
def evN (m : Nat) (S P : Nat → Nat) (F : Nat → Nat) (l a : Nat) : Nat → Nat
  | 0 => 0
  | d + 1 => S (P (evN m S P F l a d * m + a) * m + F (l - 1 - d))
def atN (m : Nat) (S P : Nat → Nat) (F : Nat → Nat) (l a : Nat) : Nat := evN m S P F l a l
def exF (F : Nat → Nat) (l i : Nat) : Nat := if i < l then F i else 0
/-- The sums of the first k coefficients of the second one with those of the first one. -/
def addF (m : Nat) (S : Nat → Nat) (F : Nat → Nat) (lf : Nat) (G : Nat → Nat) (k i : Nat) : Nat := if i < k then S (exF F lf i * m + G i) else exF F lf i
/-- Coefficients of the product, k steps being done. -/
def mulF (m : Nat) (S P : Nat → Nat) (F : Nat → Nat) (G : Nat → Nat) (lg : Nat) : Nat → Nat → Nat
  | 0 => fun _ => 0
  | k + 1 => fun t => if t = k / lg + k % lg then S (mulF m S P F G lg k t * m + P (F (k / lg) * m + G (k % lg))) else mulF m S P F G lg k t
noncomputable def derF (m : Nat) (S : Nat → Nat) (F : Nat → Nat) (i : Nat) : Nat := seqT m S (F (i + 1)) (cntN ((i : Int) + 1) (ordN m S (F (i + 1))))

section
variable {m l k a : Nat} {S P F G : Nat → Nat}
theorem tl_le : ∀ l, tlN F l ≤ l
  | 0 => Nat.le_refl _
  | l + 1 => by
    have := tl_le l
    show (if F l = 0 then tlN F l else l + 1) ≤ l + 1
    split <;> omega
theorem tl_zero (h : F l = 0) : tlN F (l + 1) = tlN F l := if_pos h
theorem tl_top (h : F l ≠ 0) : tlN F (l + 1) = l + 1 := if_neg h
theorem tl_above : ∀ l, ∀ i, tlN F l ≤ i → i < l → F i = 0
  | 0 => fun i _ h => absurd h (by omega)
  | l + 1 => fun i h1 h2 => by
    by_cases h : F l = 0
    · rw [tl_zero h] at h1
      rcases Nat.lt_or_ge i l with h3 | h3
      · exact tl_above l i h1 h3
      · rw [show i = l by omega]; exact h
    · rw [tl_top h] at h1; omega
theorem tl_last : ∀ l, tlN F l ≠ 0 → F (tlN F l - 1) ≠ 0
  | 0 => fun h => absurd rfl h
  | l + 1 => fun h => by
    by_cases h0 : F l = 0
    · rw [tl_zero h0] at h ⊢; exact tl_last l h
    · rw [tl_top h0]; exact h0
/-- The number of coefficients is told by what is 0 above and not 0 at its end. -/
theorem tl_unique (h1 : k ≤ l) (h2 : ∀ i, k ≤ i → i < l → F i = 0) (h3 : k ≠ 0 → F (k - 1) ≠ 0) : tlN F l = k := by
  have a1 := tl_le (F := F) l
  rcases Nat.lt_trichotomy (tlN F l) k with h | h | h
  · exact absurd (tl_above l (k - 1) (by omega) (by omega)) (h3 (by omega))
  · exact h
  · exact absurd (h2 (tlN F l - 1) (by omega) (by omega)) (tl_last l (by omega))
theorem lstF_len : (lstF F l).length = l := by simp [lstF]
theorem lstF_get {i : Nat} (h : i < l) : (lstF F l)[i]? = some ((F i : Nat) : Int) := by
  unfold lstF
  rw [List.getElem?_map, List.getElem?_range h]
  rfl
theorem lstF_congr (h : ∀ i, i < l → F i = G i) : lstF F l = lstF G l := List.map_congr_left fun i hi => by rw [h i (List.mem_range.1 hi)]
theorem lstF_tab {i : Nat} (h : i < l) : tabOf (lstF F l) i = F i := by unfold tabOf; rw [lstF_get h]; simp
theorem lstF_of {Z : List Int} (h : ∀ i, i < Z.length → Z[i]?.getD 0 = (tabOf Z i : Int)) : lstF (tabOf Z) Z.length = Z := by
  apply List.ext_getElem?
  intro i
  rcases Nat.lt_or_ge i Z.length with hi | hi
  · rw [lstF_get hi, ← h i hi, List.getElem?_eq_getElem hi]; rfl
  · rw [List.getElem?_eq_none hi, List.getElem?_eq_none (by rw [lstF_len]; exact hi)]
theorem ev_lt (hm : 1 ≤ m) (hS : ∀ k, k < m * m → S k < m) (hP : ∀ k, k < m * m → P k < m) (hF : ∀ i, i < l → F i < m) (ha : a < m) : ∀ d, d ≤ l → evN m S P F l a d < m
  | 0 => fun _ => hm
  | d + 1 => fun h => hS _ (idx_lt (hP _ (idx_lt (ev_lt hm hS hP hF ha d (by omega)) ha)) (hF _ (by omega)))
theorem at_lt (hm : 1 ≤ m) (hS : ∀ k, k < m * m → S k < m) (hP : ∀ k, k < m * m → P k < m) (hF : ∀ i, i < l → F i < m) (ha : a < m) : atN m S P F l a < m := ev_lt hm hS hP hF ha l (Nat.le_refl _)
theorem ev_congr (h : ∀ i, i < l → F i = G i) : ∀ d, d ≤ l → evN m S P F l a d = evN m S P G l a d
  | 0 => fun _ => rfl
  | d + 1 => fun hd => by
    show S (P (evN m S P F l a d * m + a) * m + F (l - 1 - d)) = S (P (evN m S P G l a d * m + a) * m + G (l - 1 - d))
    rw [ev_congr h d (by omega), h _ (by omega)]
theorem at_congr (h : ∀ i, i < l → F i = G i) : atN m S P F l a = atN m S P G l a := ev_congr h l (Nat.le_refl _)
theorem ex_lt (hm : 1 ≤ m) (hF : ∀ i, i < l → F i < m) (i : Nat) : exF F l i < m := by
  unfold exF
  split
  · rename_i h; exact hF i h
  · exact hm
theorem add_lt {lg : Nat} (hm : 1 ≤ m) (hS : ∀ k, k < m * m → S k < m) (hF : ∀ i, i < l → F i < m) (hG : ∀ i, i < lg → G i < m) (hk : k ≤ lg) (i : Nat) : addF m S F l G k i < m := by
  unfold addF
  split
  · rename_i h; exact hS _ (idx_lt (ex_lt hm hF i) (hG i (by omega)))
  · exact ex_lt hm hF i
theorem add_zero : addF m S F l G 0 = exF F l := funext fun i => if_neg (by omega)
theorem add_step {i : Nat} : addF m S F l G (k + 1) i = if i = k then S (exF F l i * m + G i) else addF m S F l G k i := by
  unfold addF
  by_cases h : i = k
  · subst h; rw [if_pos (by omega), if_pos rfl]
  · rw [if_neg h]
    by_cases h2 : i < k
    · rw [if_pos h2, if_pos (by omega)]
    · rw [if_neg h2, if_neg (by omega)]
theorem mul_lt {lf lg : Nat} (hm : 1 ≤ m) (hS : ∀ k, k < m * m → S k < m) (hP : ∀ k, k < m * m → P k < m) (hF : ∀ i, i < lf → F i < m) (hG : ∀ i, i < lg → G i < m) : ∀ k, k ≤ lf * lg → ∀ t, mulF m S P F G lg k t < m
  | 0 => fun _ _ => hm
  | k + 1 => fun hk t => by
    have ih := mul_lt hm hS hP hF hG k (by omega)
    have hg : 0 < lg := by
      rcases Nat.eq_zero_or_pos lg with h | h
      · subst h; simp at hk
      · exact h
    have h1 : k / lg < lf := by rw [Nat.div_lt_iff_lt_mul hg]; omega
    have h2 : k % lg < lg := Nat.mod_lt _ hg
    show (if t = k / lg + k % lg then S (mulF m S P F G lg k t * m + P (F (k / lg) * m + G (k % lg))) else mulF m S P F G lg k t) < m
    split
    · exact hS _ (idx_lt (ih t) (hP _ (idx_lt (hF _ h1) (hG _ h2))))
    · exact ih t
theorem mul_step {lg i j t : Nat} (hj : j < lg) : mulF m S P F G lg (i * lg + j + 1) t = if t = i + j then S (mulF m S P F G lg (i * lg + j) t * m + P (F i * m + G j)) else mulF m S P F G lg (i * lg + j) t := by
  have h1 : (i * lg + j) / lg = i := by rw [Nat.mul_comm, Nat.mul_add_div (by omega), Nat.div_eq_of_lt hj, Nat.add_zero]
  have h2 : (i * lg + j) % lg = j := by rw [Nat.mul_comm, Nat.mul_add_mod, Nat.mod_eq_of_lt hj]
  show (if t = (i * lg + j) / lg + (i * lg + j) % lg then S (mulF m S P F G lg (i * lg + j) t * m + P (F ((i * lg + j) / lg) * m + G ((i * lg + j) % lg))) else mulF m S P F G lg (i * lg + j) t) = _
  rw [h1, h2]
end

/-- What a polynomial's list says. -/
theorem pol_data {n o : Int} {X Y Z : List Int} (h : polB n o X Y Z = true) : validB n o X Y = true ∧ Z.length ≤ 8 ∧ (∀ i, i < Z.length → Z[i]?.getD 0 = (tabOf Z i : Int) ∧ tabOf Z i < n.toNat) ∧ lstF (tabOf Z) Z.length = Z ∧ tlN (tabOf Z) Z.length = Z.length := by
  unfold polB at h
  rw [Bool.and_eq_true, Bool.and_eq_true, Bool.and_eq_true, decide_eq_true_eq] at h
  obtain ⟨h1, h2, h3, h4⟩ := h
  have h5 : ∀ i, i < Z.length → Z[i]?.getD 0 = (tabOf Z i : Int) ∧ tabOf Z i < n.toNat := fun i hi => by
    have h6 := of_decide_eq_true (of_decide_eq_true h3 i hi)
    have h7 : tabOf Z i = (Z[i]?.getD 0).toNat := rfl
    omega
  refine ⟨h1, h2, h5, lstF_of fun i hi => (h5 i hi).1, ?_⟩
  refine tl_unique (Nat.le_refl _) (fun i h6 h7 => absurd h7 (by omega)) fun h6 h7 => ?_
  have h8 := of_decide_eq_true h4
  have h9 := (h5 (Z.length - 1) (by omega)).1
  rw [h7] at h9
  rcases h8 with h8 | h8
  · exact h6 h8
  · exact h8 h9
noncomputable def evaV (n o : Int) (X Y Z : List Int) (a : Int) : Int := ifV (polB n o X Y Z = true ∧ inB n a = true) (atN n.toNat (tabOf X) (tabOf Y) (tabOf Z) Z.length a.toNat : Nat)
noncomputable def twoB (n o : Int) (X Y Z V : List Int) : Bool := polB n o X Y Z && polB n o X Y V
def sumF (n : Int) (X Z V : List Int) : Nat → Nat := addF n.toNat (tabOf X) (tabOf Z) Z.length (tabOf V) V.length
def sumK (n : Int) (X Z V : List Int) : Nat := tlN (sumF n X Z V) (max Z.length V.length)
noncomputable def padL (n o : Int) (X Y Z V : List Int) : List Int := if twoB n o X Y Z V = true then lstF (sumF n X Z V) (sumK n X Z V) else []
def mulG (n : Int) (X Y Z V : List Int) : Nat → Nat := mulF n.toNat (tabOf X) (tabOf Y) (tabOf Z) (tabOf V) V.length (Z.length * V.length)
def mulK (n : Int) (X Y Z V : List Int) : Nat := tlN (mulG n X Y Z V) (Z.length + V.length)
noncomputable def pmuB (n o : Int) (X Y Z V : List Int) : Bool := twoB n o X Y Z V && decide (mulK n X Y Z V ≤ 8)
noncomputable def pmuL (n o : Int) (X Y Z V : List Int) : List Int := if pmuB n o X Y Z V = true then lstF (mulG n X Y Z V) (mulK n X Y Z V) else []
noncomputable def pdeL (n o : Int) (X Y Z : List Int) : List Int := if polB n o X Y Z = true then lstF (derF n.toNat (tabOf X) (tabOf Z)) (tlN (derF n.toNat (tabOf X) (tabOf Z)) (Z.length - 1)) else []
end Go.Proofs.Ytkjanhcajopfhaa



/- Plain facts: division of polynomials: both sides' ways, and that they come to the same. No program in sight. -/
namespace Go.Proofs.Ytkjanhcajopfhaa
open Go.RowKit

def ngN (m : Nat) (S : Nat → Nat) (a : Nat) : Nat := (negN m S a).toNat
def putF (F : Nat → Nat) (k v : Nat) : Nat → Nat := fun i => if i = k then v else F i
/-- The reading side: the rest with k of a row's products taken away from the place at. -/
def subF (m : Nat) (S P : Nat → Nat) (G : Nat → Nat) (at_ t : Nat) (R : Nat → Nat) (k : Nat) : Nat → Nat := fun i => if at_ ≤ i ∧ i < at_ + k then S (R i * m + ngN m S (P (t * m + G (i - at_)))) else R i
def topT (m : Nat) (P : Nat → Nat) (inv lg at_ : Nat) (R : Nat → Nat) : Nat := P (R (at_ + lg - 1) * m + inv)
/-- The rest and the quotient behind d rounds, from the place lf - lg down. -/
def divR (m : Nat) (S P : Nat → Nat) (F : Nat → Nat) (lf : Nat) (G : Nat → Nat) (lg inv : Nat) : Nat → Nat → Nat
  | 0 => F
  | d + 1 => subF m S P G (lf - lg - d) (topT m P inv lg (lf - lg - d) (divR m S P F lf G lg inv d)) (divR m S P F lf G lg inv d) lg
def divO (m : Nat) (S P : Nat → Nat) (F : Nat → Nat) (lf : Nat) (G : Nat → Nat) (lg inv : Nat) : Nat → Nat → Nat
  | 0 => fun _ => 0
  | d + 1 => putF (divO m S P F lf G lg inv d) (lf - lg - d) (topT m P inv lg (lf - lg - d) (divR m S P F lf G lg inv d))
/-- The program's way: quotient and rest, without zeros at the end. -/
structure DSt where
  Q : Nat → Nat
  q : Nat
  R : Nat → Nat
  r : Nat
section
variable {m e lf lg inv d : Nat} {S P F G : Nat → Nat}
theorem RTab.S0 (R : RTab m S P e) {a : Nat} (ha : a < m) : S (a * m + 0) = a := R.s.zero ha
theorem RTab.S1 (R : RTab m S P e) {a : Nat} (ha : a < m) : S (0 * m + a) = a := by rw [R.s.comm R.hm ha]; exact R.s.zero ha
theorem RTab.P0 (R : RTab m S P e) {a : Nat} (ha : a < m) : P (0 * m + a) = 0 := congrArg Fin.val (R.T0 ⟨a, ha⟩)
theorem RTab.ng_lt (R : RTab m S P e) {a : Nat} (ha : a < m) : ngN m S a < m := by
  obtain ⟨c, hc, e1, _⟩ := R.negEx ha
  unfold ngN
  rw [e1]; simpa using hc
theorem RTab.ng_sum (R : RTab m S P e) {a : Nat} (ha : a < m) : S (a * m + ngN m S a) = 0 := by
  obtain ⟨c, hc, e1, e2⟩ := R.negEx ha
  unfold ngN
  rw [e1]; simpa using e2
theorem RTab.ng_zero (R : RTab m S P e) : ngN m S 0 = 0 := by
  have h := R.ng_sum R.hm
  rwa [R.S1 (R.ng_lt R.hm)] at h
/-- What both sides hold: d rounds of the reading side, the program's state. -/
structure DInv (m : Nat) (S P : Nat → Nat) (F : Nat → Nat) (lf : Nat) (G : Nat → Nat) (lg inv d : Nat) (s : DSt) : Prop where
  dn : d ≤ lf + 1 - lg
  rl : s.r + d ≤ lf
  rb : ∀ i, i < s.r → s.R i < m
  re : ∀ i, i < s.r → s.R i = divR m S P F lf G lg inv d i
  rz : ∀ i, s.r ≤ i → i < lf → divR m S P F lf G lg inv d i = 0
  rt : s.r ≠ 0 → s.R (s.r - 1) ≠ 0
  ql : s.q ≤ lf + 1 - lg
  qb : ∀ i, i < s.q → s.Q i < m
  qe : ∀ i, i < s.q → s.Q i = divO m S P F lf G lg inv d i
  qz : ∀ i, s.q ≤ i → divO m S P F lf G lg inv d i = 0
  qt : s.q ≠ 0 → s.Q (s.q - 1) ≠ 0
  qd : ∀ i, i + d < lf + 1 - lg → divO m S P F lf G lg inv d i = 0

theorem DInv.start (hF : ∀ i, i < lf → F i < m) (ht : tlN F lf = lf) : DInv m S P F lf G lg inv 0 ⟨fun _ => 0, 0, F, lf⟩ := by
  refine ⟨Nat.zero_le _, Nat.le_refl _, hF, fun i _ => rfl, fun i h1 h2 => absurd h2 (Nat.not_lt.2 h1), fun h => ?_, Nat.zero_le _, fun i h => absurd h (Nat.not_lt_zero _), fun i h => absurd h (Nat.not_lt_zero _), fun i _ => rfl, fun h => absurd rfl h, fun i _ => rfl⟩
  have := tl_last (F := F) lf (by rw [ht]; exact h)
  rwa [ht] at this

theorem sub_zero (R : RTab m S P e) (hG : ∀ i, i < lg → G i < m) {at_ : Nat} {T : Nat → Nat} (hT : ∀ i, i < lf → T i < m) (_hl : at_ + lg ≤ lf) : ∀ i, i < lf → subF m S P G at_ 0 T lg i = T i := fun i hi => by
  unfold subF
  split
  · rename_i h
    rw [R.P0 (hG _ (by omega)), R.ng_zero, R.S0 (hT i hi)]
  · rfl

theorem divR_lt (R : RTab m S P e) (hF : ∀ i, i < lf → F i < m) (hG : ∀ i, i < lg → G i < m) (hi : inv < m) (hg : 1 ≤ lg) : ∀ d, d ≤ lf + 1 - lg → ∀ i, i < lf → divR m S P F lf G lg inv d i < m
  | 0 => fun _ i h => hF i h
  | d + 1 => fun hd i h => by
    have ih := divR_lt R hF hG hi hg d (by omega)
    show subF m S P G (lf - lg - d) (topT m P inv lg (lf - lg - d) (divR m S P F lf G lg inv d)) (divR m S P F lf G lg inv d) lg i < m
    unfold subF
    split
    · rename_i h1
      exact R.sc (ih i h) (R.ng_lt (R.pc (R.pc (ih _ (by omega)) hi) (hG _ (by omega))))
    · exact ih i h

/-- A round of the reading side at a place where there is nothing to take away. -/
theorem DInv.skip (R : RTab m S P e) (hF : ∀ i, i < lf → F i < m) (hG : ∀ i, i < lg → G i < m) (hi : inv < m) (hg : 1 ≤ lg) {s : DSt} (h : DInv m S P F lf G lg inv d s) (hd : d < lf + 1 - lg) (hr : s.r + d < lf) : DInv m S P F lf G lg inv (d + 1) s := by
  have ht : topT m P inv lg (lf - lg - d) (divR m S P F lf G lg inv d) = 0 := by
    unfold topT
    rw [h.rz _ (by omega) (by omega), R.P0 hi]
  have hR : ∀ i, i < lf → divR m S P F lf G lg inv (d + 1) i = divR m S P F lf G lg inv d i := fun i hil => by
    show subF m S P G (lf - lg - d) (topT m P inv lg (lf - lg - d) (divR m S P F lf G lg inv d)) (divR m S P F lf G lg inv d) lg i = _
    rw [ht]
    exact sub_zero R hG (divR_lt R hF hG hi hg d (by omega)) (by omega) i hil
  have hO : ∀ i, divO m S P F lf G lg inv (d + 1) i = divO m S P F lf G lg inv d i := fun i => by
    show putF (divO m S P F lf G lg inv d) (lf - lg - d) (topT m P inv lg (lf - lg - d) (divR m S P F lf G lg inv d)) i = _
    unfold putF
    split
    · rename_i hx
      rw [ht, hx, h.qd _ (by omega)]
    · rfl
  exact ⟨by omega, by omega, h.rb, fun i h1 => (h.re i h1).trans (hR i (by have := h.rl; omega)).symm, fun i h1 h2 => (hR i h2).trans (h.rz i h1 h2), h.rt, h.ql, h.qb, fun i h1 => (h.qe i h1).trans (hO i).symm, fun i h1 => (hO i).trans (h.qz i h1), h.qt, fun i h1 => (hO i).trans (h.qd i (by omega))⟩

end

end Go.Proofs.Ytkjanhcajopfhaa



/- PolyValid of both sides. -/
namespace Go.Proofs.Ytkjanhcajopfhaa
open Go.RowKit
set_option maxRecDepth 100000

section
variable {n o : Int} {X Y Z : List Int}
theorem polB_v (h : validB n o X Y = false) : polB n o X Y Z = false := by unfold polB; rw [h]; rfl
theorem polB_8 (h : ¬ Z.length ≤ 8) : polB n o X Y Z = false := by unfold polB; rw [decide_eq_false h]; simp
theorem polB_a (h : allB n Z = false) : polB n o X Y Z = false := by unfold polB; rw [h]; simp
theorem polB_l (h : lastB Z = false) : polB n o X Y Z = false := by unfold polB; rw [h]; simp
theorem polB_yes (h1 : validB n o X Y = true) (h2 : Z.length ≤ 8) (h3 : allB n Z = true) (h4 : lastB Z = true) : polB n o X Y Z = true := by unfold polB; rw [h1, h3, h4, decide_eq_true h2]; rfl
theorem ints_cell {w : World} {B n k : Nat} {A : Option Addr} {xs : List Int} (h : Ints w B A n xs) (hk : k < n) : ∃ b off, A = some ⟨b, off, none⟩ ∧ b < B ∧ w.cell? ⟨b, off + k, none⟩ = some (.int .i64 (xs[k]?.getD 0)) := by
  obtain ⟨b, off, e, h1, h2⟩ := h.2 (by omega)
  have hl := h.1
  refine ⟨b, off, e, h1, h2 k _ ?_⟩
  rw [List.getElem?_eq_getElem (by omega)]
  rfl
end

set_option maxHeartbeats 4000000 in
theorem pol_any (n o : Int) (A B F : Option Addr) (la ca lb cb lf cf : Nat) (X Y Z : List Int) (w : World) (hX : Ints w w.heap.size A la X) (hY : Ints w w.heap.size B lb Y) (hF : Ints w w.heap.size F lf Z) (hla : la ≤ 9223372036854775807) (hlb : lb ≤ 9223372036854775807) (hlf : lf ≤ 9223372036854775807) (hca : la ≤ ca) (hcb : lb ≤ cb) :
    Calls Try.prog 17 #[.agg #[.int .i64 n, .int .i64 o, .slice A la ca, .slice B lb cb], .slice F lf cf] w fun e' w' => e' = .returned (.bool (polB n o X Y Z)) ∧ Below w.heap.size w w' := by
  have hZ := hF.1
  obtain ⟨W, hW⟩ : ∃ W, w.alloc (.cells #[.int .i64 n, .int .i64 o, .slice A la ca, .slice B lb cb] 27) = W := ⟨_, rfl⟩
  have k0 : Blk W w.heap.size 27 #[.int .i64 n, .int .i64 o, .slice A la ca, .slice B lb cb] := by subst hW; exact Blk.new w _ _
  have b0 : Below w.heap.size w W := by subst hW; exact (Below.refl _ _).alloc (Nat.le_refl _) _
  have HX := Lib.hid hX
  have HY := Lib.hid hY
  have HF := Lib.hid hF
  have K0 := Lib.hid k0
  have B0 := Lib.hid b0
  have HW := Lib.hid hW
  have HH := Lib.hid (show wrap64 (n - 1) = hiOf n from rfl)
  have hs0 := k0.lt
  obtain ⟨c0, c1, c2, c3⟩ := blk4 k0
  clear hX hY hF k0 b0 hW
  by_cases h8 : lf ≤ 8
  rotate_left
  · have hz := Lib.hid (polB_8 (n := n) (o := o) (X := X) (Y := Y) (Z := Z) (by omega))
    have t1 : ¬ (lf : Int) ≤ 8 := by omega
    have t2 : (8 : Int) < (lf : Int) := by omega
    go_enter Try.func17, Try.ntmps17
    go_wp2_with (fail)
    rw [HW.out]
    go_wp2
    go_ret
    exact ⟨ret_bool hz.out.symm, B0.out⟩
  have t1 : (lf : Int) ≤ 8 := by omega
  have t2 : ¬ (8 : Int) < (lf : Int) := by omega
  cases hv : validB n o X Y
  · have hz := Lib.hid (polB_v (Z := Z) hv)
    go_enter Try.func17, Try.ntmps17
    go_wp2_with (fail)
    rw [HW.out]
    go_wp2_with (first
      | (go_at_call 44; (with_reducible refine (valid_any _ _ _ _ _ _ _ _ X Y _ (HX.out.next B0.out) (HY.out.next B0.out) hla hlb hca hcb).mono ?_); rintro e1 w1 ⟨rfl, hb1⟩; have K1 := Lib.hid (K0.out.next hb1); have B1 := Lib.hid (below_step B0.out hb1); clear hb1; clear c0 c1 c2 c3; obtain ⟨c0, c1, c2, c3⟩ := blk4 K1.out)
      | fail)
    go_ret
    exact ⟨ret_bool hz.out.symm, B1.out⟩
  cases ha : allB n Z
  · have hz := Lib.hid (polB_a (o := o) (X := X) (Y := Y) ha)
    go_enter Try.func17, Try.ntmps17
    go_wp2_with (fail)
    rw [HW.out]
    go_wp2_with (first
      | (go_at_call 44; (with_reducible refine (valid_any _ _ _ _ _ _ _ _ X Y _ (HX.out.next B0.out) (HY.out.next B0.out) hla hlb hca hcb).mono ?_); rintro e1 w1 ⟨rfl, hb1⟩; have K1 := Lib.hid (K0.out.next hb1); have B1 := Lib.hid (below_step B0.out hb1); clear hb1; clear c0 c1 c2 c3; obtain ⟨c0, c1, c2, c3⟩ := blk4 K1.out)
      | (go_at_call 45; (with_reducible refine (hasAll_any _ _ _ _ _ _ _ _ _ _ _ Z _ (HF.out.next B1.out) hlf).mono ?_); rintro e2 w2 ⟨rfl, hb2⟩; have K2 := Lib.hid (K1.out.next hb2); have B2 := Lib.hid (below_step B1.out hb2); clear hb2; clear c0 c1 c2 c3; obtain ⟨c0, c1, c2, c3⟩ := blk4 K2.out)
      | fail)
    go_ret
    exact ⟨ret_bool hz.out.symm, B2.out⟩
  by_cases h0 : lf = 0
  · subst h0
    have hl : lastB Z = true := decide_eq_true (.inl hZ)
    have hz := Lib.hid (polB_yes hv (by omega) ha hl)
    go_enter Try.func17, Try.ntmps17
    go_wp2_with (fail)
    rw [HW.out]
    go_wp2_with (first
      | (go_at_call 44; (with_reducible refine (valid_any _ _ _ _ _ _ _ _ X Y _ (HX.out.next B0.out) (HY.out.next B0.out) hla hlb hca hcb).mono ?_); rintro e1 w1 ⟨rfl, hb1⟩; have K1 := Lib.hid (K0.out.next hb1); have B1 := Lib.hid (below_step B0.out hb1); clear hb1; clear c0 c1 c2 c3; obtain ⟨c0, c1, c2, c3⟩ := blk4 K1.out)
      | (go_at_call 45; (with_reducible refine (hasAll_any _ _ _ _ _ _ _ _ _ _ _ Z _ (HF.out.next B1.out) hlf).mono ?_); rintro e2 w2 ⟨rfl, hb2⟩; have K2 := Lib.hid (K1.out.next hb2); have B2 := Lib.hid (below_step B1.out hb2); clear hb2; clear c0 c1 c2 c3; obtain ⟨c0, c1, c2, c3⟩ := blk4 K2.out)
      | fail)
    go_ret
    exact ⟨ret_bool hz.out.symm, B2.out⟩
  · obtain ⟨k, rfl⟩ : ∃ k, lf = k + 1 := ⟨lf - 1, by omega⟩
    obtain ⟨b, off, rfl, hb, hc0⟩ := ints_cell (k := k) HF.out (by omega)
    obtain ⟨z, hzz⟩ : ∃ z, Z[k]?.getD 0 = z := ⟨_, rfl⟩
    rw [hzz] at hc0
    have fc := B0.out.cell (p := ⟨b, off + k, none⟩) hb |>.trans hc0
    have HC := Lib.hid hc0
    have tk : ((k + 1 : Nat) : Int) = (k : Int) + 1 := by omega
    have tk2 : ¬ ((k : Int) + 1 = 0) := by omega
    have tk3 : (((k : Int) + 1) == 0) = false := by rw [beq_eq_false_iff_ne]; omega
    have tk4 : IntKind.i64.wrap ((k : Int) + 1 - 1) = (k : Int) := by rw [IntWalk.i64_in _ (by omega)]; omega
    clear hc0
    by_cases hz0 : z = 0
    · have hl : lastB Z = false := decide_eq_false (by rw [show Z.length - 1 = k by omega, hzz]; rintro (h | h); omega; exact h hz0)
      have tz : (z != 0) = false := by rw [hz0]; rfl
      have tz2 : (z == 0) = true := by rw [hz0]; rfl
      have hz := Lib.hid (polB_l (n := n) (o := o) (X := X) (Y := Y) hl)
      subst hz0
      go_enter Try.func17, Try.ntmps17
      go_wp2_with (fail)
      rw [HW.out]
      go_wp2_with (first
        | (go_at_call 44; (with_reducible refine (valid_any _ _ _ _ _ _ _ _ X Y _ (HX.out.next B0.out) (HY.out.next B0.out) hla hlb hca hcb).mono ?_); rintro e1 w1 ⟨rfl, hb1⟩; have K1 := Lib.hid (K0.out.next hb1); have B1 := Lib.hid (below_step B0.out hb1); clear fc; have fc := (B1.out.cell (p := ⟨b, off + k, none⟩) hb).trans HC.out; clear hb1; clear c0 c1 c2 c3; obtain ⟨c0, c1, c2, c3⟩ := blk4 K1.out)
        | (go_at_call 45; (with_reducible refine (hasAll_any _ _ _ _ _ _ _ _ _ _ _ Z _ (HF.out.next B1.out) hlf).mono ?_); rintro e2 w2 ⟨rfl, hb2⟩; have K2 := Lib.hid (K1.out.next hb2); have B2 := Lib.hid (below_step B1.out hb2); clear fc; have fc := (B2.out.cell (p := ⟨b, off + k, none⟩) hb).trans HC.out; clear hb2; clear c0 c1 c2 c3; obtain ⟨c0, c1, c2, c3⟩ := blk4 K2.out)
        | fail)
      go_ret
      exact ⟨ret_bool hz.out.symm, B2.out⟩
    · have hl : lastB Z = true := decide_eq_true (.inr (by rw [show Z.length - 1 = k by omega, hzz]; exact hz0))
      have tz : (z != 0) = true := by rw [bne_iff_ne]; exact hz0
      have tz2 : (z == 0) = false := by rw [beq_eq_false_iff_ne]; exact hz0
      have hz := Lib.hid (polB_yes hv (by omega) ha hl)
      go_enter Try.func17, Try.ntmps17
      go_wp2_with (fail)
      rw [HW.out]
      go_wp2_with (first
        | (go_at_call 44; (with_reducible refine (valid_any _ _ _ _ _ _ _ _ X Y _ (HX.out.next B0.out) (HY.out.next B0.out) hla hlb hca hcb).mono ?_); rintro e1 w1 ⟨rfl, hb1⟩; have K1 := Lib.hid (K0.out.next hb1); have B1 := Lib.hid (below_step B0.out hb1); clear fc; have fc := (B1.out.cell (p := ⟨b, off + k, none⟩) hb).trans HC.out; clear hb1; clear c0 c1 c2 c3; obtain ⟨c0, c1, c2, c3⟩ := blk4 K1.out)
        | (go_at_call 45; (with_reducible refine (hasAll_any _ _ _ _ _ _ _ _ _ _ _ Z _ (HF.out.next B1.out) hlf).mono ?_); rintro e2 w2 ⟨rfl, hb2⟩; have K2 := Lib.hid (K1.out.next hb2); have B2 := Lib.hid (below_step B1.out hb2); clear fc; have fc := (B2.out.cell (p := ⟨b, off + k, none⟩) hb).trans HC.out; clear hb2; clear c0 c1 c2 c3; obtain ⟨c0, c1, c2, c3⟩ := blk4 K2.out)
        | fail)
      go_ret
      exact ⟨ret_bool hz.out.symm, B2.out⟩

set_option maxHeartbeats 4000000 in
theorem spol_any (n o : Int) (A B F : Option Addr) (la ca lb cb lf cf : Nat) (X Y Z : List Int) (w : World) (hX : Ints w w.heap.size A la X) (hY : Ints w w.heap.size B lb Y) (hF : Ints w w.heap.size F lf Z) (hla : la ≤ 9223372036854775807) (hlb : lb ≤ 9223372036854775807) (hlf : lf ≤ 9223372036854775807) (hca : la ≤ ca) (hcb : lb ≤ cb) :
    Calls Try.prog 14 #[.agg #[.int .i64 n, .int .i64 o, .slice A la ca, .slice B lb cb], .slice F lf cf] w fun e' w' => e' = .returned (.bool (polB n o X Y Z)) ∧ Below w.heap.size w w' := by
  have hZ := hF.1
  obtain ⟨W, hW⟩ : ∃ W, w.alloc (.cells #[.int .i64 n, .int .i64 o, .slice A la ca, .slice B lb cb] 27) = W := ⟨_, rfl⟩
  have k0 : Blk W w.heap.size 27 #[.int .i64 n, .int .i64 o, .slice A la ca, .slice B lb cb] := by subst hW; exact Blk.new w _ _
  have b0 : Below w.heap.size w W := by subst hW; exact (Below.refl _ _).alloc (Nat.le_refl _) _
  have HX := Lib.hid hX
  have HY := Lib.hid hY
  have HF := Lib.hid hF
  have K0 := Lib.hid k0
  have B0 := Lib.hid b0
  have HW := Lib.hid hW
  have HH := Lib.hid (show wrap64 (n - 1) = hiOf n from rfl)
  have hs0 := k0.lt
  obtain ⟨c0, c1, c2, c3⟩ := blk4 k0
  clear hX hY hF k0 b0 hW
  cases hel : elB (hiOf n) Z
  · have hz := Lib.hid (show polB n o X Y Z = false from by
      cases hv : validB n o X Y
      · exact polB_v hv
      · exact polB_a (by rw [hi_valid hv, elB_allB] at hel; exact hel))
    go_enter Try.func14, Try.ntmps14
    go_wp2_with (fail)
    rw [HW.out]
    go_wp2_with (first
      | (go_at_call 42; (with_reducible refine (l1Elements_any _ _ _ _ _ Z _ _ HH.out (HF.out.next B0.out) hlf).mono ?_); rintro e51 w51 ⟨rfl, rfl⟩)
      | fail)
    go_ret
    exact ⟨ret_bool hz.out.symm, B0.out⟩
  by_cases h8 : lf ≤ 8
  rotate_left
  · have hz := Lib.hid (polB_8 (n := n) (o := o) (X := X) (Y := Y) (Z := Z) (by omega))
    have t1 : ¬ (lf : Int) ≤ 8 := by omega
    have t2 : (8 : Int) < (lf : Int) := by omega
    go_enter Try.func14, Try.ntmps14
    go_wp2_with (fail)
    rw [HW.out]
    go_wp2_with (first
      | (go_at_call 42; (with_reducible refine (l1Elements_any _ _ _ _ _ Z _ _ HH.out (HF.out.next B0.out) hlf).mono ?_); rintro e51 w51 ⟨rfl, rfl⟩)
      | fail)
    go_ret
    exact ⟨ret_bool hz.out.symm, B0.out⟩
  have t1 : (lf : Int) ≤ 8 := by omega
  have t2 : ¬ (8 : Int) < (lf : Int) := by omega
  by_cases h0 : lf = 0
  · subst h0
    have hl : lastB Z = true := decide_eq_true (.inl hZ)
    cases hv : validB n o X Y
    · have hz := Lib.hid (polB_v (Z := Z) hv)
      go_enter Try.func14, Try.ntmps14
      go_wp2_with (fail)
      rw [HW.out]
      go_wp2_with (first
        | (go_at_call 42; (with_reducible refine (l1Elements_any _ _ _ _ _ Z _ _ HH.out (HF.out.next B0.out) hlf).mono ?_); rintro e51 w51 ⟨rfl, rfl⟩)
        | (go_at_call 43; (with_reducible refine (specValid_any _ _ _ _ _ _ _ _ X Y _ (HX.out.next B0.out) (HY.out.next B0.out) hla hlb hca hcb).mono ?_); rintro e1 w1 ⟨rfl, hb1⟩; have K1 := Lib.hid (K0.out.next hb1); have B1 := Lib.hid (below_step B0.out hb1); clear hb1; clear c0 c1 c2 c3; obtain ⟨c0, c1, c2, c3⟩ := blk4 K1.out)
        | fail)
      go_ret
      exact ⟨ret_bool hz.out.symm, B1.out⟩
    · have hz := Lib.hid (polB_yes hv (by omega) (by rw [hi_valid hv, elB_allB] at hel; exact hel) hl)
      go_enter Try.func14, Try.ntmps14
      go_wp2_with (fail)
      rw [HW.out]
      go_wp2_with (first
        | (go_at_call 42; (with_reducible refine (l1Elements_any _ _ _ _ _ Z _ _ HH.out (HF.out.next B0.out) hlf).mono ?_); rintro e51 w51 ⟨rfl, rfl⟩)
        | (go_at_call 43; (with_reducible refine (specValid_any _ _ _ _ _ _ _ _ X Y _ (HX.out.next B0.out) (HY.out.next B0.out) hla hlb hca hcb).mono ?_); rintro e1 w1 ⟨rfl, hb1⟩; have K1 := Lib.hid (K0.out.next hb1); have B1 := Lib.hid (below_step B0.out hb1); clear hb1; clear c0 c1 c2 c3; obtain ⟨c0, c1, c2, c3⟩ := blk4 K1.out)
        | fail)
      go_ret
      exact ⟨ret_bool hz.out.symm, B1.out⟩
  · obtain ⟨k, rfl⟩ : ∃ k, lf = k + 1 := ⟨lf - 1, by omega⟩
    obtain ⟨b, off, rfl, hb, hc0⟩ := ints_cell (k := k) HF.out (by omega)
    obtain ⟨z, hzz⟩ : ∃ z, Z[k]?.getD 0 = z := ⟨_, rfl⟩
    rw [hzz] at hc0
    have fc := B0.out.cell (p := ⟨b, off + k, none⟩) hb |>.trans hc0
    have HC := Lib.hid hc0
    have tk : ((k + 1 : Nat) : Int) = (k : Int) + 1 := by omega
    have tk2 : ¬ ((k : Int) + 1 = 0) := by omega
    have tk3 : (((k : Int) + 1) == 0) = false := by rw [beq_eq_false_iff_ne]; omega
    have tk4 : IntKind.i64.wrap ((k : Int) + 1 - 1) = (k : Int) := by rw [IntWalk.i64_in _ (by omega)]; omega
    clear hc0
    by_cases hz0 : z = 0
    · have hl : lastB Z = false := decide_eq_false (by rw [show Z.length - 1 = k by omega, hzz]; rintro (h | h); omega; exact h hz0)
      have tz : (z != 0) = false := by rw [hz0]; rfl
      have tz2 : (z == 0) = true := by rw [hz0]; rfl
      have hz := Lib.hid (polB_l (n := n) (o := o) (X := X) (Y := Y) hl)
      subst hz0
      go_enter Try.func14, Try.ntmps14
      go_wp2_with (fail)
      rw [HW.out]
      go_wp2_with (first
        | (go_at_call 42; (with_reducible refine (l1Elements_any _ _ _ _ _ Z _ _ HH.out (HF.out.next B0.out) hlf).mono ?_); rintro e51 w51 ⟨rfl, rfl⟩)
        | fail)
      go_ret
      exact ⟨ret_bool hz.out.symm, B0.out⟩
    · have hl : lastB Z = true := decide_eq_true (.inr (by rw [show Z.length - 1 = k by omega, hzz]; exact hz0))
      have tz : (z != 0) = true := by rw [bne_iff_ne]; exact hz0
      have tz2 : (z == 0) = false := by rw [beq_eq_false_iff_ne]; exact hz0
      cases hv : validB n o X Y
      · have hz := Lib.hid (polB_v (Z := Z) hv)
        go_enter Try.func14, Try.ntmps14
        go_wp2_with (fail)
        rw [HW.out]
        go_wp2_with (first
          | (go_at_call 42; (with_reducible refine (l1Elements_any _ _ _ _ _ Z _ _ HH.out (HF.out.next B0.out) hlf).mono ?_); rintro e51 w51 ⟨rfl, rfl⟩)
          | (go_at_call 43; (with_reducible refine (specValid_any _ _ _ _ _ _ _ _ X Y _ (HX.out.next B0.out) (HY.out.next B0.out) hla hlb hca hcb).mono ?_); rintro e1 w1 ⟨rfl, hb1⟩; have K1 := Lib.hid (K0.out.next hb1); have B1 := Lib.hid (below_step B0.out hb1); clear fc; have fc := (B1.out.cell (p := ⟨b, off + k, none⟩) hb).trans HC.out; clear hb1; clear c0 c1 c2 c3; obtain ⟨c0, c1, c2, c3⟩ := blk4 K1.out)
          | fail)
        go_ret
        exact ⟨ret_bool hz.out.symm, B1.out⟩
      · have hz := Lib.hid (polB_yes hv (by omega) (by rw [hi_valid hv, elB_allB] at hel; exact hel) hl)
        go_enter Try.func14, Try.ntmps14
        go_wp2_with (fail)
        rw [HW.out]
        go_wp2_with (first
          | (go_at_call 42; (with_reducible refine (l1Elements_any _ _ _ _ _ Z _ _ HH.out (HF.out.next B0.out) hlf).mono ?_); rintro e51 w51 ⟨rfl, rfl⟩)
          | (go_at_call 43; (with_reducible refine (specValid_any _ _ _ _ _ _ _ _ X Y _ (HX.out.next B0.out) (HY.out.next B0.out) hla hlb hca hcb).mono ?_); rintro e1 w1 ⟨rfl, hb1⟩; have K1 := Lib.hid (K0.out.next hb1); have B1 := Lib.hid (below_step B0.out hb1); clear fc; have fc := (B1.out.cell (p := ⟨b, off + k, none⟩) hb).trans HC.out; clear hb1; clear c0 c1 c2 c3; obtain ⟨c0, c1, c2, c3⟩ := blk4 K1.out)
          | fail)
        go_ret
        exact ⟨ret_bool hz.out.symm, B1.out⟩

end Go.Proofs.Ytkjanhcajopfhaa



/- Coefficients in memory; Clone; the reading side's l9Trim and l9At. -/
namespace Go.Proofs.Ytkjanhcajopfhaa
open Go.RowKit
set_option maxRecDepth 100000

/-- Coefficients whose memory is the call's own. -/
def PolV (D : Nat) (w : World) (v : Value) (l : Nat) (F : Nat → Nat) : Prop := ∃ (A : Option Addr) (c : Nat), v = .slice A l c ∧ Own w D A l (lstF F l) ∧ l ≤ c ∧ l ≤ 1000 ∧ ((A = none ∧ c = 0) ∨ ∃ b off, A = some ⟨b, off, none⟩)
theorem PolV.out {D : Nat} {w : World} {v : Value} {l : Nat} {F : Nat → Nat} (h : PolV D w v l F) : SliceOut D w v (lstF F l) := by
  obtain ⟨A, c, e, h1, h2, h3, _⟩ := h
  exact ⟨A, l, c, e, h1, h2, by omega⟩
theorem PolV.next {D : Nat} {w w' : World} {v : Value} {l : Nat} {F : Nat → Nat} (h : PolV D w v l F) (hb : Below w.heap.size w w') : PolV D w' v l F := by
  obtain ⟨A, c, e, h1, h2, h3, h4⟩ := h
  exact ⟨A, c, e, h1.next hb, h2, h3, h4⟩
theorem PolV.down {D D' : Nat} {w : World} {v : Value} {l : Nat} {F : Nat → Nat} (h : PolV D w v l F) (hD : D' ≤ D) : PolV D' w v l F := by
  obtain ⟨A, c, e, h1, h2⟩ := h
  exact ⟨A, c, e, h1.down hD, h2⟩
theorem PolV.of_row {D : Nat} {w : World} {v : Value} {l : Nat} {F : Nat → Nat} {T : TypeId} (h : w.ownsRow D T 1 v l ((lstF F l).map (.int .i64))) (hl : l ≤ 1000) : PolV D w v l F := by
  rcases h.2 with ⟨rfl, h0⟩ | ⟨g, cap, cur, rfl, _, _, hc, _⟩
  · subst h0
    exact ⟨none, 0, rfl, Own.nil, Nat.le_refl _, by omega, .inl ⟨rfl, rfl⟩⟩
  · exact ⟨_, _, rfl, own_of_row h lstF_len, hc, hl, .inr ⟨g, 0, rfl⟩⟩
theorem PolV.congr {D : Nat} {w : World} {v : Value} {l : Nat} {F G : Nat → Nat} (h : PolV D w v l F) (he : ∀ i, i < l → F i = G i) : PolV D w v l G := by
  obtain ⟨A, c, e, h1, h2⟩ := h
  exact ⟨A, c, e, by rw [← lstF_congr he]; exact h1, h2⟩
theorem PolV.nil {D : Nat} {w : World} {F : Nat → Nat} : PolV D w (.slice none 0 0) 0 F := ⟨none, 0, rfl, Own.nil, Nat.le_refl _, by omega, .inl ⟨rfl, rfl⟩⟩
/-- Fewer of them. -/
theorem Own.less {w : World} {D l k : Nat} {A : Option Addr} {F : Nat → Nat} (h : Own w D A l (lstF F l)) (hk : k ≤ l) : Own w D A k (lstF F k) :=
  ⟨lstF_len, fun hn => by
    obtain ⟨g, off, e, h1, h2, h3⟩ := h.2 (by omega)
    refine ⟨g, off, e, h1, h2, fun j hj => ?_⟩
    have := h3 j (by omega)
    rwa [lstF_get (by omega)] at this ⊢⟩
theorem ints_adds {w : World} {B n : Nat} {ad : Addr} {xs : List Int} (h : Ints w B (some ad) n xs) (j : Nat) (u : Value) (hj : (xs.map (Value.int .i64))[j]? = some u) : w.cell? (ad.add j) = some u := by
  rw [List.getElem?_map] at hj
  cases hq : xs[j]? with
  | none => rw [hq] at hj; cases hj
  | some y =>
    rw [hq] at hj
    simp only [Option.map_some, Option.some.injEq] at hj
    subst hj
    have hlt : j < xs.length := by
      rcases Nat.lt_or_ge j xs.length with h1 | h1
      · exact h1
      · rw [List.getElem?_eq_none h1] at hq; cases hq
    have hl := h.1
    obtain ⟨b, off, e', hb, hc⟩ := h.2 (by omega)
    simp only [Option.some.injEq] at e'
    subst e'
    have hadd : (⟨b, off, none⟩ : Addr).add j = ⟨b, off + j, none⟩ := by unfold Addr.add; split <;> simp_all
    rw [hadd]
    exact hc j y hq
theorem lstF_cell {w : World} {B b off l i : Nat} {F : Nat → Nat} (h : Ints w B (some ⟨b, off, none⟩) l (lstF F l)) (hi : i < l) : w.cell? ⟨b, off + i, none⟩ = some (.int .i64 ((F i : Nat) : Int)) := by
  obtain ⟨b', off', e, _, h2⟩ := h.2 (by omega)
  simp only [Option.some.injEq, Addr.mk.injEq, and_true] at e
  obtain ⟨rfl, rfl⟩ := e
  exact h2 i _ (lstF_get hi)
theorem lstF_addr {w : World} {B l : Nat} {A : Option Addr} {F : Nat → Nat} (h : Ints w B A l (lstF F l)) (hl : 0 < l) : ∃ b off, A = some ⟨b, off, none⟩ ∧ b < B := by
  obtain ⟨b, off, e, h1, _⟩ := h.2 hl
  exact ⟨b, off, e, h1⟩
theorem map_one {xs : List Int} : ∀ u ∈ xs.map (Value.int .i64), u.oneCell' = true := by
  intro u hu
  simp only [List.mem_map] at hu
  obtain ⟨y, _, rfl⟩ := hu
  rfl

theorem cloneP_any (E : Option Addr) (n cap C : Nat) (xs : List Int) (w : World) (hx : Ints w C E n xs) (hC : C ≤ w.heap.size) (hn' : n ≤ 1000) :
    Calls Try.prog 84 #[.slice E n cap] w fun e w' => ∃ v, e = .returned v ∧ w'.ownsRow w.heap.size 3 1 v n (xs.map (.int .i64)) ∧ Below w.heap.size w w' := by
  obtain ⟨i0, hi, hz0, hz1, hz2⟩ := info_parts int_info
  have hxl := hx.1
  cases E with
  | none =>
    have hn0 : n = 0 := by
      rcases Nat.eq_zero_or_pos n with h | h
      · exact h
      · obtain ⟨_, _, e, _⟩ := hx.2 h; cases e
    subst hn0
    obtain rfl := List.eq_nil_of_length_eq_zero hxl
    have hnil := Go.Lib.run_eql_slice_nil_nil (P := Try.prog) w 0 cap Try.underlying22
    clear hx
    go_enter Try.func84, Try.ntmps84
    go_wp2
    go_ret
    exact ⟨_, rfl, World.ownsRow_nil _ _ _ _, Below.refl _ _⟩
  | some ad =>
    have O0 := Lib.hid (own_lit_K (w := w) (base := w.heap.size) (e := 3) [] (Nat.le_refl _) (by unfold maxLen; simp))
    have B0 := Lib.hid ((Below.refl w.heap.size w).alloc (Nat.le_refl _) (.cells #[] 3))
    have hx2 : Ints (w.alloc (.cells #[] 3)) C (some ad) n xs := hx.below ((Below.refl _ w).alloc (Nat.le_refl _) _) hC
    have hcl := Lib.hid (ints_adds hx2)
    have hnil := Go.Lib.run_eql_slice_some_nil (P := Try.prog) w ad n cap Try.underlying22
    clear hx hx2
    go_enter Try.func84, Try.ntmps84
    go_wp2_with (at_builtin; refine wpList_append_own _ rfl _ _ 22 rfl w.heap.size 3 i0 (.int .i64 0) 1 8 Try.underlying22 hi hz0 hz1 hz2 rfl (by decide) _ _ _ rfl O0.out ad n cap (xs.map (.int .i64)) rfl (by simp [hxl]) hcl.out map_one (by unfold maxLen; simp; omega) (by simp; omega) (by simp) ?_; intro v3 w3 hown3 hg3 _)
    have B3 := Lib.hid (B0.out.grown hg3 (by simp) (fun k hk => (O0.out.lt k hk).1))
    have O3 := Lib.hid (show w3.ownsRow w.heap.size 3 1 v3 n (xs.map (.int .i64)) by simpa using hown3)
    clear hown3 hg3
    go_wp2
    go_ret
    exact ⟨_, rfl, O3.out, B3.out⟩

set_option maxHeartbeats 1000000 in
theorem l9Trim_any (D : Nat) (v : Value) (l : Nat) (F : Nat → Nat) (w : World) (h : PolV D w v l F) :
    Calls Try.prog 60 #[v] w fun e w' => ∃ v', e = .returned v' ∧ PolV w.heap.size w' v' (tlN F l) F ∧ Below w.heap.size w w' := by
  obtain ⟨i0, hi, hz0, hz1, hz2⟩ := info_parts int_info
  obtain ⟨A, c, rfl, ho, hc, hl, hA⟩ := h
  have HI := Lib.hid ho.ints
  clear ho
  rcases hA with ⟨rfl, rfl⟩ | ⟨b, off, rfl⟩
  · have hl0 : l = 0 := by omega
    subst hl0
    go_enter Try.func60, Try.ntmps60
    go_wp2
    go_loopg [0] 1 (fun g s wr => s = .slice none 0 0 ∧ Below w.heap.size w wr)
    case atStart => exact ⟨rfl, Below.refl _ _⟩
    case round =>
      obtain ⟨rfl, hb⟩ := hrel
      have B1 := Lib.hid hb
      have hsz := hb.size
      clear hb
      have O0 := Lib.hid (own_lit_K (w := wr) (base := w.heap.size) (e := 3) [] hsz (by unfold maxLen; simp))
      have B2 := Lib.hid (B1.out.alloc hsz (.cells #[] 3))
      go_wp2_with (at_builtin; refine wpList_append_own_none rfl _ _ 22 rfl w.heap.size 3 i0 1 Try.underlying22 hi (by rw [hz1]) _ 0 [] rfl O0.out rfl ?_)
      go_ret
      exact ⟨_, rfl, show PolV w.heap.size _ _ 0 F from PolV.of_row O0.out (by omega), B2.out⟩
  · go_enter Try.func60, Try.ntmps60
    go_wp2
    go_loopg [0] l (fun g s wr => ∃ k : Nat, k ≤ l ∧ k ≤ g ∧ s = .slice (some ⟨b, off, none⟩) k c ∧ tlN F k = tlN F l ∧ Below w.heap.size w wr)
    case atStart => exact ⟨l, Nat.le_refl _, Nat.le_refl _, rfl, rfl, Below.refl _ _⟩
    case round =>
      obtain ⟨k, hk, hg, rfl, htl, hb⟩ := hrel
      have B1 := Lib.hid hb
      have hsz := hb.size
      have HI1 := Lib.hid (HI.out.next hb)
      have HT := Lib.hid htl
      clear hb htl
      have O0 := Lib.hid (own_lit_K (w := wr) (base := w.heap.size) (e := 3) [] hsz (by unfold maxLen; simp))
      have B2 := Lib.hid (B1.out.alloc hsz (.cells #[] 3))
      have hcl := Lib.hid (show ∀ (j : Nat) (u : Value), ((lstF F k).map (Value.int .i64))[j]? = some u → (wr.alloc (.cells #[] 3)).cell? ((⟨b, off, none⟩ : Addr).add j) = some u from
        ints_adds (B := w.heap.size) (n := k) ⟨lstF_len, fun hn => by
          obtain ⟨b', off', e, h1, h2⟩ := HI.out.2 (by omega)
          simp only [Option.some.injEq, Addr.mk.injEq, and_true] at e
          obtain ⟨rfl, rfl⟩ := e
          refine ⟨_, _, rfl, h1, fun j x hx => ?_⟩
          have hj : j < k := by
            rcases Nat.lt_or_ge j k with h3 | h3
            · exact h3
            · rw [List.getElem?_eq_none (by rw [lstF_len]; exact h3)] at hx; cases hx
          rw [lstF_get hj] at hx
          simp only [Option.some.injEq] at hx
          subst hx
          exact (B2.out.cell (p := ⟨_, _, none⟩) h1).trans (lstF_cell HI.out (by omega))⟩)
      cases k with
      | zero =>
        go_wp2_with (at_builtin; refine wpList_append_own _ rfl _ _ 22 rfl w.heap.size 3 i0 (.int .i64 0) 1 8 Try.underlying22 hi hz0 hz1 hz2 rfl (by decide) _ _ _ rfl O0.out ⟨b, off, none⟩ 0 c ((lstF F 0).map (.int .i64)) rfl (by simp [lstF_len]) hcl.out map_one (by unfold maxLen; simp) (by simp) (by simp; omega) ?_; intro v3 w3 hown3 hg3 _)
        have B3 := Lib.hid (B2.out.grown hg3 (by simp; omega) (fun k hk => (O0.out.lt k hk).1))
        have O3 := Lib.hid (show w3.ownsRow w.heap.size 3 1 v3 0 ((lstF F 0).map (.int .i64)) by simpa using hown3)
        clear hown3 hg3
        go_wp2
        go_ret
        exact ⟨_, rfl, by rw [← HT.out]; exact (show PolV w.heap.size _ _ 0 F from PolV.of_row O3.out (by omega)), B3.out⟩
      | succ k =>
        have hc0 := lstF_cell HI1.out (i := k) (by omega)
        by_cases h0 : F k = 0
        · rw [h0] at hc0
          have t0 := Lib.hid ((tl_zero h0).symm.trans HT.out)
          go_wp2
          go_roundg k
          case measure => omega
          case rel => exact ⟨k, by omega, by omega, by go_num, t0.out, B1.out⟩
        · have t1 : (((F k : Nat) : Int) == 0) = false := by rw [beq_eq_false_iff_ne]; omega
          have t2 : ¬ ((F k : Nat) : Int) = 0 := by omega
          have t3 := Lib.hid ((tl_top h0).symm.trans HT.out)
          go_wp2_with (at_builtin; refine wpList_append_own _ rfl _ _ 22 rfl w.heap.size 3 i0 (.int .i64 0) 1 8 Try.underlying22 hi hz0 hz1 hz2 rfl (by decide) _ _ _ rfl O0.out ⟨b, off, none⟩ (k + 1) c ((lstF F (k + 1)).map (.int .i64)) rfl (by simp [lstF_len]) hcl.out map_one (by unfold maxLen; simp; omega) (by simp; omega) (by simp; omega) ?_; intro v3 w3 hown3 hg3 _)
          have B3 := Lib.hid (B2.out.grown hg3 (by simp; omega) (fun k hk => (O0.out.lt k hk).1))
          have O3 := Lib.hid (show w3.ownsRow w.heap.size 3 1 v3 (k + 1) ((lstF F (k + 1)).map (.int .i64)) by simpa using hown3)
          clear hown3 hg3
          go_wp2
          go_ret
          exact ⟨_, rfl, by rw [← HT.out, tl_top h0]; exact PolV.of_row O3.out (by omega), B3.out⟩

end Go.Proofs.Ytkjanhcajopfhaa



/- The reading side's l9Add. -/
namespace Go.Proofs.Ytkjanhcajopfhaa
open Go.RowKit
set_option maxRecDepth 100000

section
variable {F : Nat → Nat} {l k v : Nat}
theorem lstV_len : ((lstF F l).map (Value.int .i64)).length = l := by rw [List.length_map, lstF_len]
theorem lstV_get (h : k < l) : ((lstF F l).map (Value.int .i64))[k]? = some (.int .i64 ((F k : Nat) : Int)) := by
  rw [List.getElem?_map, lstF_get h]; rfl
theorem lstV_set (_ : k < l) : ((lstF F l).map (Value.int .i64)).set k (.int .i64 ((v : Nat) : Int)) = (lstF (putF F k v) l).map (Value.int .i64) := by
  apply List.ext_getElem?
  intro j
  rcases Nat.lt_or_ge j l with hj | hj
  · rw [List.getElem?_set, lstV_get hj, lstV_get hj, lstV_len]
    by_cases e : k = j
    · subst e; rw [if_pos rfl, if_pos hj]; unfold putF; rw [if_pos rfl]
    · rw [if_neg e]; unfold putF; rw [if_neg (fun h => e h.symm)]
  · rw [List.getElem?_eq_none (by rw [List.length_set, lstV_len]; exact hj), List.getElem?_eq_none (by rw [lstV_len]; exact hj)]
theorem lstV_made {n : Nat} : (madeCells (Value.int .i64 0).cells (n * 1)).toList = (lstF (fun _ => 0) n).map (Value.int .i64) := by
  apply List.ext_getElem?
  intro j
  by_cases hj : j < n
  · rw [lstV_get hj]
    simp [madeCells, Value.cells, hj, Nat.mod_one]
  · rw [List.getElem?_eq_none (by simp [madeCells]; omega), List.getElem?_eq_none (by rw [lstV_len]; omega)]
theorem add_put {m i lf : Nat} {S F G : Nat → Nat} : putF (addF m S F lf G i) i (S (exF F lf i * m + G i)) = addF m S F lf G (i + 1) := funext fun j => by
  rw [add_step]
  unfold putF
  by_cases h : j = i
  · rw [if_pos h, if_pos h, h]
  · rw [if_neg h, if_neg h]
theorem add_at {m i lf : Nat} {S F G : Nat → Nat} : addF m S F lf G i i = exF F lf i := if_neg (by omega)
theorem mul_put {m i j lg : Nat} {S P F G : Nat → Nat} (h : j < lg) : putF (mulF m S P F G lg (i * lg + j)) (i + j) (S (mulF m S P F G lg (i * lg + j) (i + j) * m + P (F i * m + G j))) = mulF m S P F G lg (i * lg + j + 1) := funext fun t => by
  rw [mul_step h]
  unfold putF
  split
  · rename_i e; rw [e]
  · rfl
end

end Go.Proofs.Ytkjanhcajopfhaa



/- An append whose element a call makes, in one region that draws its order: the places of call, slice and append as letters. -/
namespace Go.Proofs.Ytkjanhcajopfhaa
open Go.RowKit
set_option maxRecDepth 100000

def aqMk (ic ia ib i : Nat) : Bool := i == ic || i == ia || i == ib
structure AqPhi (ic ia ib : Nat) (row : Option Nat) (D D0 k : Nat) (f : Nat → Nat) (c : Nat) (i : Nat) (v : Value) (w : World) : Prop where
  pc : i = ic → v = .int .i64 (c : Int)
  pa : i = ia → ∃ g, v = .slice (some ⟨g, 0, none⟩) 1 1 ∧ some g ≠ row ∧ g < w.heap.size ∧ w.cell? ⟨g, 0, none⟩ = some (.int .i64 (f k : Int))
  pb : i = ib → OwnK D (k + 1) f v w ∧ (v.ownBlock = row ∨ ∃ g, v.ownBlock = some g ∧ D0 ≤ g)
structure AqSh (ic ia ib : Nat) (c : Nat) (i : Nat) (v : Value) : Prop where
  pc : i = ic → v = .int .i64 (c : Int)
  pa : i = ia → ∃ g, v = .slice (some ⟨g, 0, none⟩) 1 1
  pb : i = ib → ∃ A l q, v = .slice A l q
section
variable {row : Option Nat} {ic ia ib D D0 k c : Nat} {f : Nat → Nat}
theorem AqPhi_stable (i : Nat) (v : Value) (w w' : World) (h : AqPhi ic ia ib row D D0 k f c i v w) (hr : ApR row D k f w w') : AqPhi ic ia ib row D D0 k f c i v w' :=
  ⟨h.pc, fun e => by
    obtain ⟨g, h1, h2, h3, h4⟩ := h.pa e
    exact ⟨g, h1, h2, Nat.lt_of_lt_of_le h3 hr.1.size, (World.cell?_of_block (a := ⟨g, 0, none⟩) (hr.1.block g h3 h2)).trans h4⟩, fun e => ⟨hr.2.1 v (h.pb e).1, (h.pb e).2⟩⟩
theorem AqSh_of (i : Nat) (v : Value) (w : World) (h : AqPhi ic ia ib row D D0 k f c i v w) : AqSh ic ia ib c i v :=
  ⟨h.pc, fun e => by obtain ⟨g, h1, _⟩ := h.pa e; exact ⟨g, h1⟩, fun e => by
    rcases (h.pb e).1.2 with ⟨h1, _⟩ | ⟨g, cap, cur, h1, _⟩
    · exact ⟨none, 0, 0, h1⟩
    · exact ⟨_, _, _, h1⟩⟩
end
def aq0 (ic ia c i : Nat) : Value := if i = ic then .int .i64 (c : Int) else if i = ia then .slice (some ⟨0, 0, none⟩) 1 1 else .slice none 0 0
theorem AqSh_zero {ic ia ib c : Nat} (h1 : ia ≠ ic) (h2 : ib ≠ ic) (h3 : ib ≠ ia) (i : Nat) : AqSh ic ia ib c i (aq0 ic ia c i) :=
  ⟨fun e => by subst e; exact if_pos rfl, fun e => by subst e; exact ⟨0, by unfold aq0; rw [if_neg h1, if_pos rfl]⟩, fun e => by subst e; exact ⟨none, 0, 0, by unfold aq0; rw [if_neg h2, if_neg h3]⟩⟩

/-- A struct is loaded whole in a region that draws its order. -/
theorem wpQuiet_load_rowP {P : Program} {ops : Array Oper} {C : World → Prop} {Q : Act → Prop} {rest : List Oper} {o : Oper} {a : Act} (hgd : o.guard = none) (ty : TypeId) (x : Operand) (ho : o.op = .load ty x)
    (g : Nat) (hx : a.eval x = .pointer (some ⟨g, 0, none⟩)) (t : TypeId) (cs : Array Value) (d : TypeDesc) (hg : ∀ w, C w → w.heap[g]? = some (.cells cs t (0, 0)))
    (hu : P.underlying ty = some d) (hd : (match d with | .struct _ | .array _ _ => true | _ => false) = true) (hi : (P.info? ty).map (·.size) = some cs.size)
    (h : wpQuiet P ops C Q rest (a.put o.dst (.agg cs))) : wpQuiet P ops C Q (o :: rest) a := by
  unfold wpQuiet
  rw [if_pos (by simp [Region.wanted, hgd])]
  refine ⟨.agg cs, fun w hw => ?_, h⟩
  unfold Oper.quietAt execOp
  simp only [ho, hx, Instr.loadAt, Instr.sureAddr, Sem.run_bind, Sem.run_pure, Result.andThen_ok, run_loadVar_row w g t ty cs (0, 0) d (hg w hw) hu hd hi]
  exact ⟨rfl, rfl⟩

theorem makesR_monoP {P : Program} {R : World → World → Prop} {J : World → Prop} {o : Oper} {a : Act} {w : World} {F F' : Value → World → Prop} (h : makesAtR P R J o a w F) (hF : ∀ v w', F v w' → F' v w') : makesAtR P R J o a w F' := by
  unfold makesAtR at *
  generalize (execOp a.eval o).run P w = r at *
  cases r with
  | ok n w' =>
    cases n <;> simp only [makesUponR] at h ⊢
    case value u => exact ⟨h.1, h.2.1, hF _ _ h.2.2⟩
    case skip => exact ⟨h.1, h.2.1, hF _ _ h.2.2⟩
    case enter f args => exact ⟨h.1, h.2.mono fun e w'' ⟨u, h1, h2, h3, h4⟩ => ⟨u, h1, h2, h3, hF _ _ h4⟩⟩
  | halt x w' => simp only [makesUponR] at h


end Go.Proofs.Ytkjanhcajopfhaa



/- The reading side's l9Mul. -/
namespace Go.Proofs.Ytkjanhcajopfhaa
open Go.RowKit
set_option maxRecDepth 100000

theorem mul_in {k lf lg : Nat} (h : k < lf) : k * lg + lg ≤ lf * lg := by
  rw [← Nat.succ_mul]
  exact Nat.mul_le_mul_right _ h

end Go.Proofs.Ytkjanhcajopfhaa



/- The reading side's l9Derived. -/
namespace Go.Proofs.Ytkjanhcajopfhaa
open Go.RowKit Go.Shelf
set_option maxRecDepth 100000

theorem own_polK {D l : Nat} {v : Value} {w : World} {F : Nat → Nat} (h : OwnK D l F v w) (hl : l ≤ 1000) : PolV D w v l F := PolV.of_row h hl
theorem RTab.der_times {m e : Nat} {S P : Nat → Nat} (R : RTab m S P e) {a : Nat} (ha : a < m) : IsOrd m S a (ordN m S a) ∧ seqT m S a 1 = a := by
  refine ⟨R.ord ha, ?_⟩
  show S (0 * m + a) = a
  rw [R.s.comm R.hm ha]
  exact R.s.zero ha
set_option maxHeartbeats 4000000 in
theorem l9Derived_any (F : Nat → Nat) (E : Option Addr) (lf cf : Nat) (m e b1 o1 la ca b2 o2 lb cb : Nat) (S P : Nat → Nat) (w : World) (hr : RingAt w m e b1 o1 la ca b2 o2 lb cb S P) (R : RTab m S P e) (hF : Ints w w.heap.size E lf (lstF F lf)) (hlf : lf ≤ 100) (hf : ∀ i, i < lf → F i < m) :
    Calls Try.prog 64 #[.agg #[.int .i64 m, .int .i64 e, .slice (some ⟨b1, o1, none⟩) la ca, .slice (some ⟨b2, o2, none⟩) lb cb], .slice E lf cf] w fun e' w' => ∃ v, e' = .returned v ∧ PolV w.heap.size w' v (tlN (derF m S F) (lf - 1)) (derF m S F) ∧ Below w.heap.size w w' := by
  have HF' := Lib.hid hf
  have HT := Lib.hid (fun a (ha : a < m) => R.der_times ha)
  obtain ⟨f, hfd⟩ : ∃ f, derF m S F = f := ⟨_, rfl⟩
  have HFD := Lib.hid hfd
  rw [hfd]
  obtain ⟨D, hD⟩ : ∃ D, w.heap.size + 1 = D := ⟨_, rfl⟩
  have b0 : Below w.heap.size w (w.alloc (.cells #[.int .i64 m, .int .i64 e, .slice (some ⟨b1, o1, none⟩) la ca, .slice (some ⟨b2, o2, none⟩) lb cb] 27)) := (Below.refl _ _).alloc (Nat.le_refl _) _
  have R0 := Lib.hid (hr.next b0)
  have F0 := Lib.hid (hF.next b0)
  have HD := Lib.hid hD
  have k0 := Blk.new w 27 #[.int .i64 m, .int .i64 e, .slice (some ⟨b1, o1, none⟩) la ca, .slice (some ⟨b2, o2, none⟩) lb cb]
  obtain ⟨c0, c1, c2, c3, hs⟩ := box4_new w (.int .i64 m) (.int .i64 e) (.slice (some ⟨b1, o1, none⟩) la ca) (.slice (some ⟨b2, o2, none⟩) lb cb) 27
  obtain ⟨W, hW⟩ : ∃ W, w.alloc (.cells #[.int .i64 m, .int .i64 e, .slice (some ⟨b1, o1, none⟩) la ca, .slice (some ⟨b2, o2, none⟩) lb cb] 27) = W := ⟨_, rfl⟩
  rw [hW] at R0 F0 k0 c0 c1 c2 c3 hs
  have HW := Lib.hid hW
  have hsW : W.heap.size = D := by rw [← hW, ← hD]; simp
  have O0 := Lib.hid (show OwnK D 0 f (.slice (some ⟨D, 0, none⟩) 0 0) (W.alloc (.cells #[] 3)) by
    have := own_lit_K (w := W) (base := D) (e := 3) [] (by omega) (by unfold maxLen; simp)
    rw [hsW] at this
    exact this)
  have BA := Lib.hid (show Below D W (W.alloc (.cells #[] 3)) from (Below.refl _ _).alloc (by omega) _)
  have TK := Lib.hid (show ∀ x, Below D W x → Blk x w.heap.size 27 #[.int .i64 m, .int .i64 e, .slice (some ⟨b1, o1, none⟩) la ca, .slice (some ⟨b2, o2, none⟩) lb cb] from fun x hx => k0.below hx (by omega))
  have TR := Lib.hid (show ∀ x, Below D W x → RingAt x m e b1 o1 la ca b2 o2 lb cb S P from fun x hx => R0.out.next (hsW ▸ hx))
  clear hr hF b0 hW hD hf hfd k0
  go_enter Try.func64, Try.ntmps64
  go_wp2_with (fail)
  rw [HW.out]
  go_wp2_with (fail)
  obtain ⟨w1, hw1⟩ : ∃ x, W.alloc (.cells #[] 3) = x := ⟨_, rfl⟩
  rw [hw1] at O0 BA ⊢
  clear hw1
  rw [show w.heap.size + 1 = D from HD.out]
  go_loopg [5, 6] lf (fun g v i wr => ∃ k : Nat, (k = 0 ∨ k + 1 ≤ lf) ∧ lf ≤ k + 1 + g ∧ i = .int .i64 ((k : Int) + 1) ∧ OwnK D k f v wr ∧ Below D W wr)
  case atStart => exact ⟨0, .inl rfl, by omega, by go_num, O0.out, BA.out⟩
  case round =>
    obtain ⟨k, hk, hgk, rfl, hown, hb⟩ := hrel
    have OW := Lib.hid hown
    have BX := Lib.hid hb
    have hsz := hb.size
    clear hown hb
    by_cases hlt : k + 1 < lf
    · have hki : (k : Int) + 1 < (lf : Int) := by omega
      have tz : (0 : Int) ≤ (k : Int) + 1 := by omega
      have tn : ((k : Int) + 1).toNat = k + 1 := by omega
      obtain ⟨b, off, rfl, hbb⟩ := lstF_addr F0.out (by omega)
      have hxm := HF'.out (k + 1) hlt
      obtain ⟨x0, hx0⟩ : ∃ x, F (k + 1) = x := ⟨_, rfl⟩
      have FC := Lib.hid (show ∀ x, Below D W x → x.cell? ⟨b, off + (k + 1), none⟩ = some (.int .i64 (x0 : Nat)) from fun x hx => by
        rw [← hx0]; exact lstF_cell (F0.out.below (hsW ▸ hx) (Nat.le_refl _)) hlt)
      rw [hx0] at hxm
      obtain ⟨c, hc⟩ : ∃ c, seqT m S x0 (cntN ((k : Int) + 1) (ordN m S x0)) = c := ⟨_, rfl⟩
      have HC := Lib.hid hc
      have HCF := Lib.hid (show f k = c by rw [← HFD.out, ← hc, ← hx0]; rfl)
      obtain ⟨ho, h1⟩ := HT.out x0 hxm
      have HO1 := Lib.hid ho
      have HO2 := Lib.hid h1
      obtain ⟨row, hrow⟩ : ∃ row, u5.ownBlock = row := ⟨_, rfl⟩
      have HRW := Lib.hid hrow
      clear hc hx0 ho h1 hrow
      go_wp2_with (fail)
      refine wp_region_makersR (ApR row D k f) (fun _ _ => True) 10 (aqMk 7 8 9) (AqPhi 7 8 9 row D wr.heap.size k f c) (AqSh 7 8 9 c) (aq0 7 8 c) probe (by kernel_rfl) (by kernel_rfl) ApR.refl ApR.trans (fun _ _ _ => trivial) (ApR.drew _) trivial AqPhi_stable (fun i v x _ => AqSh_of i v x) (fun i _ => AqSh_zero (by decide) (by decide) (by decide) i) ?_
      intro V hV vs hvs
      have e7 := (hvs 7 rfl).pc rfl
      obtain ⟨g8, e8⟩ := (hvs 8 rfl).pa rfl
      obtain ⟨A9, l9, q9, e9⟩ := (hvs 9 rfl).pb rfl
      obtain ⟨RR, hRR⟩ : ∃ RR, ApR row D k f = RR := ⟨_, rfl⟩
      have HRR := Lib.hid hRR
      have KG := Lib.hid (show ∀ x, extCR RR V x → ApR row D k f wr x from fun x ⟨u, hu⟩ => by
        rw [hu]
        have h : RR V (extR RR V u) := u.rel
        exact ApR.trans _ _ _ hV (Eq.mpr (congrFun (congrFun HRR.out V) _) h))
      have KB := Lib.hid (show ∀ x, extCR RR V x → Below D W x from fun x hx => BX.out.grown (KG.out x hx).1 (by omega) (fun k hk => (OW.out.lt k (HRW.out.trans hk)).1))
      have hRV : RR V V := by rw [← HRR.out]; exact ApR.refl V
      have cW : ∃ x, extCR RR V x := ⟨V, extCR_of hRV⟩
      have iRV : Nonempty (ExtR RR V) := ⟨⟨V, hRV⟩⟩
      rw [hRR]
      have ff : ∀ u : ExtR RR V, (extR RR V u).cell? ⟨b, off + (k + 1), none⟩ = some (.int .i64 (x0 : Nat)) := fun u => FC.out _ (KB.out _ ⟨u, rfl⟩)
      clear hV hRR
      simp only [List.take_succ_cons, List.take_zero, List.drop_succ_cons, List.drop_zero]
      refine wpV_quietR cW 7 0 _ _ (by decide) (by decide) (fun o ho => plain_noEnter (List.all_eq_true.1 (by rfl) o ho)) ?_
      simp only [List.take_succ_cons, List.take_zero, List.drop_succ_cons, List.drop_zero]
      repeat (first
        | (refine wpQuiet_load_rowP rfl 27 (.tmp 2) rfl w.heap.size rfl _ #[.int .i64 m, .int .i64 e, .slice (some ⟨b1, o1, none⟩) la ca, .slice (some ⟨b2, o2, none⟩) lb cb] _ (fun x hx => TK.out x (KB.out x hx)) Try.underlying27 rfl (by kernel_rfl) ?_; go_simp)
        | (go_big_quiet_step (fail)))
      refine wpQuiet_nil ?_
      refine wpV_make_R rfl rfl (fun x fu hx _ _ => ?_) ?_
      · unfold makesAtR
        go_simp
        refine ⟨rfl, (l1Times_any ((k : Int) + 1) x0 (ordN m S x0) m e b1 o1 la ca b2 o2 lb cb S P x (TR.out x (KB.out x hx)) hxm HO1.out HO2.out).mono ?_⟩
        rintro _ x' ⟨rfl, hb⟩
        exact ⟨_, rfl, by rw [← HRR.out]; exact ApR.of_below hb, trivial, ⟨fun _ => by rw [HC.out], fun e => absurd e (by decide), fun e => absurd e (by decide)⟩⟩
      rw [e7]
      go_simp
      refine wpV_make_R rfl rfl (fun x fu hx _ _ => ?_) ?_
      · unfold makesAtR
        go_simp
        have kn : Blk (x.alloc (.cells #[.int .i64 (c : Int)] 3)) x.heap.size 3 #[.int .i64 (c : Int)] := Blk.new x _ _
        have kc := kn.cell 0
        refine ⟨by rw [← HRR.out]; exact ApR.of_below ((Below.refl _ _).alloc (Nat.le_refl _) _), trivial, ⟨fun e => absurd e (by decide), fun _ => ⟨_, rfl, fun e => ?_, kn.lt, by rw [HCF.out]; exact kc⟩, fun e => absurd e (by decide)⟩⟩
        have h1 := (OW.out.lt x.heap.size (by rw [HRW.out, e])).2
        have h2 := (KG.out x hx).1.size
        omega
      rw [e8]
      go_simp
      refine wpV_make_R rfl rfl (fun x fu hx _ hd => ?_) ?_
      · obtain ⟨g', q1, _, _, q4⟩ := (hd ⟨8, .data⟩ (by simp) rfl rfl).pa rfl
        rw [e8] at q1
        simp only [Value.slice.injEq, Option.some.injEq, Addr.mk.injEq, and_true] at q1
        subst q1
        rw [← HRR.out]
        exact makesR_monoP (makes_app (.tmp 14) (.tmp 22) rfl u5 x rfl rfl ((KG.out x hx).2.2 _ OW.out) HRW.out q4 (by omega) (by have := (KG.out x hx).1.size; omega) (KG.out x hx).1.size) fun v x' h => ⟨fun e => absurd e (by decide), fun e => absurd e (by decide), fun _ => h⟩
      rw [e9]
      go_simp
      refine wpV_nilR ?_
      intro w3 hR3 hf
      rw [← HRR.out] at hR3
      have h9 := (hf 9 (by decide) rfl).pb rfl
      rw [e9] at h9
      have O3 := Lib.hid h9.1
      have B3 := Lib.hid (BX.out.grown hR3.1 (by omega) (fun k hk => (OW.out.lt k (HRW.out.trans hk)).1))
      clear ff hf hvs h9 hR3
      go_wp2
      go_roundg (lf - (k + 1 + 1))
      case measure => omega
      case rel => exact ⟨k + 1, .inr (by omega), by omega, by go_num, O3.out, B3.out⟩
    · have hki : ¬ (k : Int) + 1 < (lf : Int) := by omega
      have hkk : lf - 1 = k := by omega
      have PV := Lib.hid (own_polK OW.out (by omega))
      have hll := OW.out.2
      have hsh : ∃ A c, u5 = .slice A k c := by
        rcases hll with ⟨h1, h0⟩ | ⟨q, cap, cur, h1, _⟩
        · exact ⟨none, 0, by rw [h1, h0]⟩
        · exact ⟨_, _, h1⟩
      clear hll
      obtain ⟨A5, c5, rfl⟩ := hsh
      go_wp2_with (go_at_call 60; ((with_reducible refine (l9Trim_any D _ k f _ PV.out).mono ?_); rintro e5 w5 ⟨v5, rfl, hp5, hb5⟩; have B5 := Lib.hid (BX.out.trans (hb5.mono (by omega))); have P5 := Lib.hid (hp5.down (D' := w.heap.size) (by have := HD.out; omega)); clear hb5 hp5))
      go_ret
      exact ⟨_, rfl, by rw [hkk]; exact P5.out, below_of_box (by rw [HW.out, HD.out]; exact B5.out)⟩

end Go.Proofs.Ytkjanhcajopfhaa

