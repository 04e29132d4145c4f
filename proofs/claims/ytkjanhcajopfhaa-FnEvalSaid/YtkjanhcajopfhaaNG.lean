/- Texts of this seat in one: FA FB FC FD FE FF FG FH. -/
import Derived.Test.YtkjanhcajopfhaaMB
import Derived.Test.YtkjanhcajopfhaaMG
import Derived.Laws.AppendOwnNone
import Derived.Lib.BufferMore
import Derived.Test.YtkjanhcajopfhaaMC
import Derived.Test.YtkjanhcajopfhaaMQ

/- Plain facts: polynomials as functions of coefficients: values, sums, products, derivatives, what the laws hand back. No program in sight. -/
namespace Go.Proofs.Ytkjanhcajopfhaa
open Go.RowKit

/-- The last one of a list is not 0. -/
def lastB (Z : List Int) : Bool := decide (Z.length = 0 ∨ Z[Z.length - 1]?.getD 0 ≠ 0)
/-- A list is a polynomial over a ring. -/
noncomputable def polB (n o : Int) (X Y Z : List Int) : Bool := validB n o X Y && (decide (Z.length ≤ 8) && (allB n Z && lastB Z))
/-- The coefficients without zeros at the end: how many. -/
def tlN (F : Nat → Nat) : Nat → Nat
  | 0 => 0
  | l + 1 => if F l = 0 then tlN F l else l + 1
/-- The list of the first coefficients. -/
def lstF (F : Nat → Nat) (l : Nat) : List Int := (List.range l).map fun i => ((F i : Nat) : Int)
/-- The value, d coefficients from the top being in it. -/
def evN (m : Nat) (S P : Nat → Nat) (F : Nat → Nat) (l a : Nat) : Nat → Nat
  | 0 => 0
  | d + 1 => S (P (evN m S P F l a d * m + a) * m + F (l - 1 - d))
def atN (m : Nat) (S P : Nat → Nat) (F : Nat → Nat) (l a : Nat) : Nat := evN m S P F l a l
def exF (F : Nat → Nat) (l i : Nat) : Nat := if i < l then F i else 0
/-- The sums of the first k coefficients of the second one with those of the first one. -/
def addF (m : Nat) (S : Nat → Nat) (F : Nat → Nat) (lf : Nat) (G : Nat → Nat) (k i : Nat) : Nat := if i < k then S (exF F lf i * m + G i) else exF F lf i
/-- Coefficients of the product, k steps being done. -/
def mulF (m : Nat) (S P : Nat → Nat) (F : Nat → Nat) (G : Nat → Nat) (lg : Nat) : Nat → Nat → Nat
  | 0 => fun _ => 0
  | k + 1 => fun t => if t = k / lg + k % lg then S (mulF m S P F G lg k t * m + P (F (k / lg) * m + G (k % lg))) else mulF m S P F G lg k t
section
variable {m l k a : Nat} {S P F G : Nat → Nat}
theorem tl_le : ∀ l, tlN F l ≤ l
  | 0 => Nat.le_refl _
  | l + 1 => by
    have := tl_le l
    show (if F l = 0 then tlN F l else l + 1) ≤ l + 1
    split <;> omega
theorem tl_zero (h : F l = 0) : tlN F (l + 1) = tlN F l := if_pos h
theorem tl_top (h : F l ≠ 0) : tlN F (l + 1) = l + 1 := if_neg h
theorem tl_above : ∀ l, ∀ i, tlN F l ≤ i → i < l → F i = 0
  | 0 => fun i _ h => absurd h (by omega)
  | l + 1 => fun i h1 h2 => by
    by_cases h : F l = 0
    · rw [tl_zero h] at h1
      rcases Nat.lt_or_ge i l with h3 | h3
      · exact tl_above l i h1 h3
      · rw [show i = l by omega]; exact h
    · rw [tl_top h] at h1; omega
theorem tl_last : ∀ l, tlN F l ≠ 0 → F (tlN F l - 1) ≠ 0
  | 0 => fun h => absurd rfl h
  | l + 1 => fun h => by
    by_cases h0 : F l = 0
    · rw [tl_zero h0] at h ⊢; exact tl_last l h
    · rw [tl_top h0]; exact h0
/-- The number of coefficients is told by what is 0 above and not 0 at its end. -/
theorem tl_unique (h1 : k ≤ l) (h2 : ∀ i, k ≤ i → i < l → F i = 0) (h3 : k ≠ 0 → F (k - 1) ≠ 0) : tlN F l = k := by
  have a1 := tl_le (F := F) l
  rcases Nat.lt_trichotomy (tlN F l) k with h | h | h
  · exact absurd (tl_above l (k - 1) (by omega) (by omega)) (h3 (by omega))
  · exact h
  · exact absurd (h2 (tlN F l - 1) (by omega) (by omega)) (tl_last l (by omega))
theorem lstF_len : (lstF F l).length = l := by simp [lstF]
theorem lstF_get {i : Nat} (h : i < l) : (lstF F l)[i]? = some ((F i : Nat) : Int) := by
  unfold lstF
  rw [List.getElem?_map, List.getElem?_range h]
  rfl
theorem lstF_succ : lstF F (l + 1) = lstF F l ++ [((F l : Nat) : Int)] := by simp [lstF, List.range_succ]
theorem lstF_congr (h : ∀ i, i < l → F i = G i) : lstF F l = lstF G l := List.map_congr_left fun i hi => by rw [h i (List.mem_range.1 hi)]
theorem lstF_tab {i : Nat} (h : i < l) : tabOf (lstF F l) i = F i := by unfold tabOf; rw [lstF_get h]; simp
theorem lstF_of {Z : List Int} (h : ∀ i, i < Z.length → Z[i]?.getD 0 = (tabOf Z i : Int)) : lstF (tabOf Z) Z.length = Z := by
  apply List.ext_getElem?
  intro i
  rcases Nat.lt_or_ge i Z.length with hi | hi
  · rw [lstF_get hi, ← h i hi, List.getElem?_eq_getElem hi]; rfl
  · rw [List.getElem?_eq_none hi, List.getElem?_eq_none (by rw [lstF_len]; exact hi)]
theorem ev_lt (hm : 1 ≤ m) (hS : ∀ k, k < m * m → S k < m) (hP : ∀ k, k < m * m → P k < m) (hF : ∀ i, i < l → F i < m) (ha : a < m) : ∀ d, d ≤ l → evN m S P F l a d < m
  | 0 => fun _ => hm
  | d + 1 => fun h => hS _ (idx_lt (hP _ (idx_lt (ev_lt hm hS hP hF ha d (by omega)) ha)) (hF _ (by omega)))
theorem at_lt (hm : 1 ≤ m) (hS : ∀ k, k < m * m → S k < m) (hP : ∀ k, k < m * m → P k < m) (hF : ∀ i, i < l → F i < m) (ha : a < m) : atN m S P F l a < m := ev_lt hm hS hP hF ha l (Nat.le_refl _)
theorem ev_congr (h : ∀ i, i < l → F i = G i) : ∀ d, d ≤ l → evN m S P F l a d = evN m S P G l a d
  | 0 => fun _ => rfl
  | d + 1 => fun hd => by
    show S (P (evN m S P F l a d * m + a) * m + F (l - 1 - d)) = S (P (evN m S P G l a d * m + a) * m + G (l - 1 - d))
    rw [ev_congr h d (by omega), h _ (by omega)]
theorem at_congr (h : ∀ i, i < l → F i = G i) : atN m S P F l a = atN m S P G l a := ev_congr h l (Nat.le_refl _)
theorem ex_lt (hm : 1 ≤ m) (hF : ∀ i, i < l → F i < m) (i : Nat) : exF F l i < m := by
  unfold exF
  split
  · rename_i h; exact hF i h
  · exact hm
theorem add_lt {lg : Nat} (hm : 1 ≤ m) (hS : ∀ k, k < m * m → S k < m) (hF : ∀ i, i < l → F i < m) (hG : ∀ i, i < lg → G i < m) (hk : k ≤ lg) (i : Nat) : addF m S F l G k i < m := by
  unfold addF
  split
  · rename_i h; exact hS _ (idx_lt (ex_lt hm hF i) (hG i (by omega)))
  · exact ex_lt hm hF i
theorem add_zero : addF m S F l G 0 = exF F l := funext fun i => if_neg (by omega)
theorem add_step {i : Nat} : addF m S F l G (k + 1) i = if i = k then S (exF F l i * m + G i) else addF m S F l G k i := by
  unfold addF
  by_cases h : i = k
  · subst h; rw [if_pos (by omega), if_pos rfl]
  · rw [if_neg h]
    by_cases h2 : i < k
    · rw [if_pos h2, if_pos (by omega)]
    · rw [if_neg h2, if_neg (by omega)]
theorem mul_lt {lf lg : Nat} (hm : 1 ≤ m) (hS : ∀ k, k < m * m → S k < m) (hP : ∀ k, k < m * m → P k < m) (hF : ∀ i, i < lf → F i < m) (hG : ∀ i, i < lg → G i < m) : ∀ k, k ≤ lf * lg → ∀ t, mulF m S P F G lg k t < m
  | 0 => fun _ _ => hm
  | k + 1 => fun hk t => by
    have ih := mul_lt hm hS hP hF hG k (by omega)
    have hg : 0 < lg := by
      rcases Nat.eq_zero_or_pos lg with h | h
      · subst h; simp at hk
      · exact h
    have h1 : k / lg < lf := by rw [Nat.div_lt_iff_lt_mul hg]; omega
    have h2 : k % lg < lg := Nat.mod_lt _ hg
    show (if t = k / lg + k % lg then S (mulF m S P F G lg k t * m + P (F (k / lg) * m + G (k % lg))) else mulF m S P F G lg k t) < m
    split
    · exact hS _ (idx_lt (ih t) (hP _ (idx_lt (hF _ h1) (hG _ h2))))
    · exact ih t
theorem mul_step {lg i j t : Nat} (hj : j < lg) : mulF m S P F G lg (i * lg + j + 1) t = if t = i + j then S (mulF m S P F G lg (i * lg + j) t * m + P (F i * m + G j)) else mulF m S P F G lg (i * lg + j) t := by
  have h1 : (i * lg + j) / lg = i := by rw [Nat.mul_comm, Nat.mul_add_div (by omega), Nat.div_eq_of_lt hj, Nat.add_zero]
  have h2 : (i * lg + j) % lg = j := by rw [Nat.mul_comm, Nat.mul_add_mod, Nat.mod_eq_of_lt hj]
  show (if t = (i * lg + j) / lg + (i * lg + j) % lg then S (mulF m S P F G lg (i * lg + j) t * m + P (F ((i * lg + j) / lg) * m + G ((i * lg + j) % lg))) else mulF m S P F G lg (i * lg + j) t) = _
  rw [h1, h2]
end

/-- What a polynomial's list says. -/
theorem pol_data {n o : Int} {X Y Z : List Int} (h : polB n o X Y Z = true) : validB n o X Y = true ∧ Z.length ≤ 8 ∧ (∀ i, i < Z.length → Z[i]?.getD 0 = (tabOf Z i : Int) ∧ tabOf Z i < n.toNat) ∧ lstF (tabOf Z) Z.length = Z ∧ tlN (tabOf Z) Z.length = Z.length := by
  unfold polB at h
  rw [Bool.and_eq_true, Bool.and_eq_true, Bool.and_eq_true, decide_eq_true_eq] at h
  obtain ⟨h1, h2, h3, h4⟩ := h
  have h5 : ∀ i, i < Z.length → Z[i]?.getD 0 = (tabOf Z i : Int) ∧ tabOf Z i < n.toNat := fun i hi => by
    have h6 := of_decide_eq_true (of_decide_eq_true h3 i hi)
    have h7 : tabOf Z i = (Z[i]?.getD 0).toNat := rfl
    omega
  refine ⟨h1, h2, h5, lstF_of fun i hi => (h5 i hi).1, ?_⟩
  refine tl_unique (Nat.le_refl _) (fun i h6 h7 => absurd h7 (by omega)) fun h6 h7 => ?_
  have h8 := of_decide_eq_true h4
  have h9 := (h5 (Z.length - 1) (by omega)).1
  rw [h7] at h9
  rcases h8 with h8 | h8
  · exact h6 h8
  · exact h8 h9
noncomputable def evaV (n o : Int) (X Y Z : List Int) (a : Int) : Int := ifV (polB n o X Y Z = true ∧ inB n a = true) (atN n.toNat (tabOf X) (tabOf Y) (tabOf Z) Z.length a.toNat : Nat)
noncomputable def twoB (n o : Int) (X Y Z V : List Int) : Bool := polB n o X Y Z && polB n o X Y V
def sumF (n : Int) (X Z V : List Int) : Nat → Nat := addF n.toNat (tabOf X) (tabOf Z) Z.length (tabOf V) V.length
def sumK (n : Int) (X Z V : List Int) : Nat := tlN (sumF n X Z V) (max Z.length V.length)
noncomputable def padL (n o : Int) (X Y Z V : List Int) : List Int := if twoB n o X Y Z V = true then lstF (sumF n X Z V) (sumK n X Z V) else []
def mulG (n : Int) (X Y Z V : List Int) : Nat → Nat := mulF n.toNat (tabOf X) (tabOf Y) (tabOf Z) (tabOf V) V.length (Z.length * V.length)
def mulK (n : Int) (X Y Z V : List Int) : Nat := tlN (mulG n X Y Z V) (Z.length + V.length)
noncomputable def pmuB (n o : Int) (X Y Z V : List Int) : Bool := twoB n o X Y Z V && decide (mulK n X Y Z V ≤ 8)
noncomputable def pmuL (n o : Int) (X Y Z V : List Int) : List Int := if pmuB n o X Y Z V = true then lstF (mulG n X Y Z V) (mulK n X Y Z V) else []
end Go.Proofs.Ytkjanhcajopfhaa



/- Plain facts: division of polynomials: both sides' ways, and that they come to the same. No program in sight. -/
namespace Go.Proofs.Ytkjanhcajopfhaa
open Go.RowKit

def ngN (m : Nat) (S : Nat → Nat) (a : Nat) : Nat := (negN m S a).toNat
def putF (F : Nat → Nat) (k v : Nat) : Nat → Nat := fun i => if i = k then v else F i
/-- The reading side: the rest with k of a row's products taken away from the place at. -/
def subF (m : Nat) (S P : Nat → Nat) (G : Nat → Nat) (at_ t : Nat) (R : Nat → Nat) (k : Nat) : Nat → Nat := fun i => if at_ ≤ i ∧ i < at_ + k then S (R i * m + ngN m S (P (t * m + G (i - at_)))) else R i
def topT (m : Nat) (P : Nat → Nat) (inv lg at_ : Nat) (R : Nat → Nat) : Nat := P (R (at_ + lg - 1) * m + inv)
/-- The rest and the quotient behind d rounds, from the place lf - lg down. -/
def divR (m : Nat) (S P : Nat → Nat) (F : Nat → Nat) (lf : Nat) (G : Nat → Nat) (lg inv : Nat) : Nat → Nat → Nat
  | 0 => F
  | d + 1 => subF m S P G (lf - lg - d) (topT m P inv lg (lf - lg - d) (divR m S P F lf G lg inv d)) (divR m S P F lf G lg inv d) lg
def divO (m : Nat) (S P : Nat → Nat) (F : Nat → Nat) (lf : Nat) (G : Nat → Nat) (lg inv : Nat) : Nat → Nat → Nat
  | 0 => fun _ => 0
  | d + 1 => putF (divO m S P F lf G lg inv d) (lf - lg - d) (topT m P inv lg (lf - lg - d) (divR m S P F lf G lg inv d))
/-- The program's way: quotient and rest, without zeros at the end. -/
structure DSt where
  Q : Nat → Nat
  q : Nat
  R : Nat → Nat
  r : Nat
section
variable {m e lf lg inv d : Nat} {S P F G : Nat → Nat}
theorem RTab.S0 (R : RTab m S P e) {a : Nat} (ha : a < m) : S (a * m + 0) = a := R.s.zero ha
theorem RTab.S1 (R : RTab m S P e) {a : Nat} (ha : a < m) : S (0 * m + a) = a := by rw [R.s.comm R.hm ha]; exact R.s.zero ha
theorem RTab.P0 (R : RTab m S P e) {a : Nat} (ha : a < m) : P (0 * m + a) = 0 := congrArg Fin.val (R.T0 ⟨a, ha⟩)
theorem RTab.ng_lt (R : RTab m S P e) {a : Nat} (ha : a < m) : ngN m S a < m := by
  obtain ⟨c, hc, e1, _⟩ := R.negEx ha
  unfold ngN
  rw [e1]; simpa using hc
theorem RTab.ng_sum (R : RTab m S P e) {a : Nat} (ha : a < m) : S (a * m + ngN m S a) = 0 := by
  obtain ⟨c, hc, e1, e2⟩ := R.negEx ha
  unfold ngN
  rw [e1]; simpa using e2
theorem RTab.ng_zero (R : RTab m S P e) : ngN m S 0 = 0 := by
  have h := R.ng_sum R.hm
  rwa [R.S1 (R.ng_lt R.hm)] at h
/-- What both sides hold: d rounds of the reading side, the program's state. -/
structure DInv (m : Nat) (S P : Nat → Nat) (F : Nat → Nat) (lf : Nat) (G : Nat → Nat) (lg inv d : Nat) (s : DSt) : Prop where
  dn : d ≤ lf + 1 - lg
  rl : s.r + d ≤ lf
  rb : ∀ i, i < s.r → s.R i < m
  re : ∀ i, i < s.r → s.R i = divR m S P F lf G lg inv d i
  rz : ∀ i, s.r ≤ i → i < lf → divR m S P F lf G lg inv d i = 0
  rt : s.r ≠ 0 → s.R (s.r - 1) ≠ 0
  ql : s.q ≤ lf + 1 - lg
  qb : ∀ i, i < s.q → s.Q i < m
  qe : ∀ i, i < s.q → s.Q i = divO m S P F lf G lg inv d i
  qz : ∀ i, s.q ≤ i → divO m S P F lf G lg inv d i = 0
  qt : s.q ≠ 0 → s.Q (s.q - 1) ≠ 0
  qd : ∀ i, i + d < lf + 1 - lg → divO m S P F lf G lg inv d i = 0

theorem DInv.start (hF : ∀ i, i < lf → F i < m) (ht : tlN F lf = lf) : DInv m S P F lf G lg inv 0 ⟨fun _ => 0, 0, F, lf⟩ := by
  refine ⟨Nat.zero_le _, Nat.le_refl _, hF, fun i _ => rfl, fun i h1 h2 => absurd h2 (Nat.not_lt.2 h1), fun h => ?_, Nat.zero_le _, fun i h => absurd h (Nat.not_lt_zero _), fun i h => absurd h (Nat.not_lt_zero _), fun i _ => rfl, fun h => absurd rfl h, fun i _ => rfl⟩
  have := tl_last (F := F) lf (by rw [ht]; exact h)
  rwa [ht] at this

theorem sub_zero (R : RTab m S P e) (hG : ∀ i, i < lg → G i < m) {at_ : Nat} {T : Nat → Nat} (hT : ∀ i, i < lf → T i < m) (_hl : at_ + lg ≤ lf) : ∀ i, i < lf → subF m S P G at_ 0 T lg i = T i := fun i hi => by
  unfold subF
  split
  · rename_i h
    rw [R.P0 (hG _ (by omega)), R.ng_zero, R.S0 (hT i hi)]
  · rfl

theorem divR_lt (R : RTab m S P e) (hF : ∀ i, i < lf → F i < m) (hG : ∀ i, i < lg → G i < m) (hi : inv < m) (hg : 1 ≤ lg) : ∀ d, d ≤ lf + 1 - lg → ∀ i, i < lf → divR m S P F lf G lg inv d i < m
  | 0 => fun _ i h => hF i h
  | d + 1 => fun hd i h => by
    have ih := divR_lt R hF hG hi hg d (by omega)
    show subF m S P G (lf - lg - d) (topT m P inv lg (lf - lg - d) (divR m S P F lf G lg inv d)) (divR m S P F lf G lg inv d) lg i < m
    unfold subF
    split
    · rename_i h1
      exact R.sc (ih i h) (R.ng_lt (R.pc (R.pc (ih _ (by omega)) hi) (hG _ (by omega))))
    · exact ih i h

/-- A round of the reading side at a place where there is nothing to take away. -/
theorem DInv.skip (R : RTab m S P e) (hF : ∀ i, i < lf → F i < m) (hG : ∀ i, i < lg → G i < m) (hi : inv < m) (hg : 1 ≤ lg) {s : DSt} (h : DInv m S P F lf G lg inv d s) (hd : d < lf + 1 - lg) (hr : s.r + d < lf) : DInv m S P F lf G lg inv (d + 1) s := by
  have ht : topT m P inv lg (lf - lg - d) (divR m S P F lf G lg inv d) = 0 := by
    unfold topT
    rw [h.rz _ (by omega) (by omega), R.P0 hi]
  have hR : ∀ i, i < lf → divR m S P F lf G lg inv (d + 1) i = divR m S P F lf G lg inv d i := fun i hil => by
    show subF m S P G (lf - lg - d) (topT m P inv lg (lf - lg - d) (divR m S P F lf G lg inv d)) (divR m S P F lf G lg inv d) lg i = _
    rw [ht]
    exact sub_zero R hG (divR_lt R hF hG hi hg d (by omega)) (by omega) i hil
  have hO : ∀ i, divO m S P F lf G lg inv (d + 1) i = divO m S P F lf G lg inv d i := fun i => by
    show putF (divO m S P F lf G lg inv d) (lf - lg - d) (topT m P inv lg (lf - lg - d) (divR m S P F lf G lg inv d)) i = _
    unfold putF
    split
    · rename_i hx
      rw [ht, hx, h.qd _ (by omega)]
    · rfl
  exact ⟨by omega, by omega, h.rb, fun i h1 => (h.re i h1).trans (hR i (by have := h.rl; omega)).symm, fun i h1 h2 => (hR i h2).trans (h.rz i h1 h2), h.rt, h.ql, h.qb, fun i h1 => (h.qe i h1).trans (hO i).symm, fun i h1 => (hO i).trans (h.qz i h1), h.qt, fun i h1 => (hO i).trans (h.qd i (by omega))⟩

end

end Go.Proofs.Ytkjanhcajopfhaa



/- PolyValid of both sides. -/
namespace Go.Proofs.Ytkjanhcajopfhaa
open Go.RowKit
set_option maxRecDepth 100000

section
variable {n o : Int} {X Y Z : List Int}
theorem polB_v (h : validB n o X Y = false) : polB n o X Y Z = false := by unfold polB; rw [h]; rfl
theorem polB_8 (h : ¬ Z.length ≤ 8) : polB n o X Y Z = false := by unfold polB; rw [decide_eq_false h]; simp
theorem polB_a (h : allB n Z = false) : polB n o X Y Z = false := by unfold polB; rw [h]; simp
theorem polB_l (h : lastB Z = false) : polB n o X Y Z = false := by unfold polB; rw [h]; simp
theorem polB_yes (h1 : validB n o X Y = true) (h2 : Z.length ≤ 8) (h3 : allB n Z = true) (h4 : lastB Z = true) : polB n o X Y Z = true := by unfold polB; rw [h1, h3, h4, decide_eq_true h2]; rfl
theorem ints_cell {w : World} {B n k : Nat} {A : Option Addr} {xs : List Int} (h : Ints w B A n xs) (hk : k < n) : ∃ b off, A = some ⟨b, off, none⟩ ∧ b < B ∧ w.cell? ⟨b, off + k, none⟩ = some (.int .i64 (xs[k]?.getD 0)) := by
  obtain ⟨b, off, e, h1, h2⟩ := h.2 (by omega)
  have hl := h.1
  refine ⟨b, off, e, h1, h2 k _ ?_⟩
  rw [List.getElem?_eq_getElem (by omega)]
  rfl
end

set_option maxHeartbeats 4000000 in
theorem pol_any (n o : Int) (A B F : Option Addr) (la ca lb cb lf cf : Nat) (X Y Z : List Int) (w : World) (hX : Ints w w.heap.size A la X) (hY : Ints w w.heap.size B lb Y) (hF : Ints w w.heap.size F lf Z) (hla : la ≤ 9223372036854775807) (hlb : lb ≤ 9223372036854775807) (hlf : lf ≤ 9223372036854775807) (hca : la ≤ ca) (hcb : lb ≤ cb) :
    Calls Try.prog 17 #[.agg #[.int .i64 n, .int .i64 o, .slice A la ca, .slice B lb cb], .slice F lf cf] w fun e' w' => e' = .returned (.bool (polB n o X Y Z)) ∧ Below w.heap.size w w' := by
  have hZ := hF.1
  obtain ⟨W, hW⟩ : ∃ W, w.alloc (.cells #[.int .i64 n, .int .i64 o, .slice A la ca, .slice B lb cb] 27) = W := ⟨_, rfl⟩
  have k0 : Blk W w.heap.size 27 #[.int .i64 n, .int .i64 o, .slice A la ca, .slice B lb cb] := by subst hW; exact Blk.new w _ _
  have b0 : Below w.heap.size w W := by subst hW; exact (Below.refl _ _).alloc (Nat.le_refl _) _
  have HX := Lib.hid hX
  have HY := Lib.hid hY
  have HF := Lib.hid hF
  have K0 := Lib.hid k0
  have B0 := Lib.hid b0
  have HW := Lib.hid hW
  have HH := Lib.hid (show wrap64 (n - 1) = hiOf n from rfl)
  have hs0 := k0.lt
  obtain ⟨c0, c1, c2, c3⟩ := blk4 k0
  clear hX hY hF k0 b0 hW
  by_cases h8 : lf ≤ 8
  rotate_left
  · have hz := Lib.hid (polB_8 (n := n) (o := o) (X := X) (Y := Y) (Z := Z) (by omega))
    have t1 : ¬ (lf : Int) ≤ 8 := by omega
    have t2 : (8 : Int) < (lf : Int) := by omega
    go_enter Try.func17, Try.ntmps17
    go_wp2_with (fail)
    rw [HW.out]
    go_wp2
    go_ret
    exact ⟨ret_bool hz.out.symm, B0.out⟩
  have t1 : (lf : Int) ≤ 8 := by omega
  have t2 : ¬ (8 : Int) < (lf : Int) := by omega
  cases hv : validB n o X Y
  · have hz := Lib.hid (polB_v (Z := Z) hv)
    go_enter Try.func17, Try.ntmps17
    go_wp2_with (fail)
    rw [HW.out]
    go_wp2_with (first
      | (go_at_call 44; (with_reducible refine (valid_any _ _ _ _ _ _ _ _ X Y _ (HX.out.next B0.out) (HY.out.next B0.out) hla hlb hca hcb).mono ?_); rintro e1 w1 ⟨rfl, hb1⟩; have K1 := Lib.hid (K0.out.next hb1); have B1 := Lib.hid (below_step B0.out hb1); clear hb1; clear c0 c1 c2 c3; obtain ⟨c0, c1, c2, c3⟩ := blk4 K1.out)
      | fail)
    go_ret
    exact ⟨ret_bool hz.out.symm, B1.out⟩
  cases ha : allB n Z
  · have hz := Lib.hid (polB_a (o := o) (X := X) (Y := Y) ha)
    go_enter Try.func17, Try.ntmps17
    go_wp2_with (fail)
    rw [HW.out]
    go_wp2_with (first
      | (go_at_call 44; (with_reducible refine (valid_any _ _ _ _ _ _ _ _ X Y _ (HX.out.next B0.out) (HY.out.next B0.out) hla hlb hca hcb).mono ?_); rintro e1 w1 ⟨rfl, hb1⟩; have K1 := Lib.hid (K0.out.next hb1); have B1 := Lib.hid (below_step B0.out hb1); clear hb1; clear c0 c1 c2 c3; obtain ⟨c0, c1, c2, c3⟩ := blk4 K1.out)
      | (go_at_call 45; (with_reducible refine (hasAll_any _ _ _ _ _ _ _ _ _ _ _ Z _ (HF.out.next B1.out) hlf).mono ?_); rintro e2 w2 ⟨rfl, hb2⟩; have K2 := Lib.hid (K1.out.next hb2); have B2 := Lib.hid (below_step B1.out hb2); clear hb2; clear c0 c1 c2 c3; obtain ⟨c0, c1, c2, c3⟩ := blk4 K2.out)
      | fail)
    go_ret
    exact ⟨ret_bool hz.out.symm, B2.out⟩
  by_cases h0 : lf = 0
  · subst h0
    have hl : lastB Z = true := decide_eq_true (.inl hZ)
    have hz := Lib.hid (polB_yes hv (by omega) ha hl)
    go_enter Try.func17, Try.ntmps17
    go_wp2_with (fail)
    rw [HW.out]
    go_wp2_with (first
      | (go_at_call 44; (with_reducible refine (valid_any _ _ _ _ _ _ _ _ X Y _ (HX.out.next B0.out) (HY.out.next B0.out) hla hlb hca hcb).mono ?_); rintro e1 w1 ⟨rfl, hb1⟩; have K1 := Lib.hid (K0.out.next hb1); have B1 := Lib.hid (below_step B0.out hb1); clear hb1; clear c0 c1 c2 c3; obtain ⟨c0, c1, c2, c3⟩ := blk4 K1.out)
      | (go_at_call 45; (with_reducible refine (hasAll_any _ _ _ _ _ _ _ _ _ _ _ Z _ (HF.out.next B1.out) hlf).mono ?_); rintro e2 w2 ⟨rfl, hb2⟩; have K2 := Lib.hid (K1.out.next hb2); have B2 := Lib.hid (below_step B1.out hb2); clear hb2; clear c0 c1 c2 c3; obtain ⟨c0, c1, c2, c3⟩ := blk4 K2.out)
      | fail)
    go_ret
    exact ⟨ret_bool hz.out.symm, B2.out⟩
  · obtain ⟨k, rfl⟩ : ∃ k, lf = k + 1 := ⟨lf - 1, by omega⟩
    obtain ⟨b, off, rfl, hb, hc0⟩ := ints_cell (k := k) HF.out (by omega)
    obtain ⟨z, hzz⟩ : ∃ z, Z[k]?.getD 0 = z := ⟨_, rfl⟩
    rw [hzz] at hc0
    have fc := B0.out.cell (p := ⟨b, off + k, none⟩) hb |>.trans hc0
    have HC := Lib.hid hc0
    have tk : ((k + 1 : Nat) : Int) = (k : Int) + 1 := by omega
    have tk2 : ¬ ((k : Int) + 1 = 0) := by omega
    have tk3 : (((k : Int) + 1) == 0) = false := by rw [beq_eq_false_iff_ne]; omega
    have tk4 : IntKind.i64.wrap ((k : Int) + 1 - 1) = (k : Int) := by rw [IntWalk.i64_in _ (by omega)]; omega
    clear hc0
    by_cases hz0 : z = 0
    · have hl : lastB Z = false := decide_eq_false (by rw [show Z.length - 1 = k by omega, hzz]; rintro (h | h); omega; exact h hz0)
      have tz : (z != 0) = false := by rw [hz0]; rfl
      have tz2 : (z == 0) = true := by rw [hz0]; rfl
      have hz := Lib.hid (polB_l (n := n) (o := o) (X := X) (Y := Y) hl)
      subst hz0
      go_enter Try.func17, Try.ntmps17
      go_wp2_with (fail)
      rw [HW.out]
      go_wp2_with (first
        | (go_at_call 44; (with_reducible refine (valid_any _ _ _ _ _ _ _ _ X Y _ (HX.out.next B0.out) (HY.out.next B0.out) hla hlb hca hcb).mono ?_); rintro e1 w1 ⟨rfl, hb1⟩; have K1 := Lib.hid (K0.out.next hb1); have B1 := Lib.hid (below_step B0.out hb1); clear fc; have fc := (B1.out.cell (p := ⟨b, off + k, none⟩) hb).trans HC.out; clear hb1; clear c0 c1 c2 c3; obtain ⟨c0, c1, c2, c3⟩ := blk4 K1.out)
        | (go_at_call 45; (with_reducible refine (hasAll_any _ _ _ _ _ _ _ _ _ _ _ Z _ (HF.out.next B1.out) hlf).mono ?_); rintro e2 w2 ⟨rfl, hb2⟩; have K2 := Lib.hid (K1.out.next hb2); have B2 := Lib.hid (below_step B1.out hb2); clear fc; have fc := (B2.out.cell (p := ⟨b, off + k, none⟩) hb).trans HC.out; clear hb2; clear c0 c1 c2 c3; obtain ⟨c0, c1, c2, c3⟩ := blk4 K2.out)
        | fail)
      go_ret
      exact ⟨ret_bool hz.out.symm, B2.out⟩
    · have hl : lastB Z = true := decide_eq_true (.inr (by rw [show Z.length - 1 = k by omega, hzz]; exact hz0))
      have tz : (z != 0) = true := by rw [bne_iff_ne]; exact hz0
      have tz2 : (z == 0) = false := by rw [beq_eq_false_iff_ne]; exact hz0
      have hz := Lib.hid (polB_yes hv (by omega) ha hl)
      go_enter Try.func17, Try.ntmps17
      go_wp2_with (fail)
      rw [HW.out]
      go_wp2_with (first
        | (go_at_call 44; (with_reducible refine (valid_any _ _ _ _ _ _ _ _ X Y _ (HX.out.next B0.out) (HY.out.next B0.out) hla hlb hca hcb).mono ?_); rintro e1 w1 ⟨rfl, hb1⟩; have K1 := Lib.hid (K0.out.next hb1); have B1 := Lib.hid (below_step B0.out hb1); clear fc; have fc := (B1.out.cell (p := ⟨b, off + k, none⟩) hb).trans HC.out; clear hb1; clear c0 c1 c2 c3; obtain ⟨c0, c1, c2, c3⟩ := blk4 K1.out)
        | (go_at_call 45; (with_reducible refine (hasAll_any _ _ _ _ _ _ _ _ _ _ _ Z _ (HF.out.next B1.out) hlf).mono ?_); rintro e2 w2 ⟨rfl, hb2⟩; have K2 := Lib.hid (K1.out.next hb2); have B2 := Lib.hid (below_step B1.out hb2); clear fc; have fc := (B2.out.cell (p := ⟨b, off + k, none⟩) hb).trans HC.out; clear hb2; clear c0 c1 c2 c3; obtain ⟨c0, c1, c2, c3⟩ := blk4 K2.out)
        | fail)
      go_ret
      exact ⟨ret_bool hz.out.symm, B2.out⟩

set_option maxHeartbeats 4000000 in
theorem spol_any (n o : Int) (A B F : Option Addr) (la ca lb cb lf cf : Nat) (X Y Z : List Int) (w : World) (hX : Ints w w.heap.size A la X) (hY : Ints w w.heap.size B lb Y) (hF : Ints w w.heap.size F lf Z) (hla : la ≤ 9223372036854775807) (hlb : lb ≤ 9223372036854775807) (hlf : lf ≤ 9223372036854775807) (hca : la ≤ ca) (hcb : lb ≤ cb) :
    Calls Try.prog 14 #[.agg #[.int .i64 n, .int .i64 o, .slice A la ca, .slice B lb cb], .slice F lf cf] w fun e' w' => e' = .returned (.bool (polB n o X Y Z)) ∧ Below w.heap.size w w' := by
  have hZ := hF.1
  obtain ⟨W, hW⟩ : ∃ W, w.alloc (.cells #[.int .i64 n, .int .i64 o, .slice A la ca, .slice B lb cb] 27) = W := ⟨_, rfl⟩
  have k0 : Blk W w.heap.size 27 #[.int .i64 n, .int .i64 o, .slice A la ca, .slice B lb cb] := by subst hW; exact Blk.new w _ _
  have b0 : Below w.heap.size w W := by subst hW; exact (Below.refl _ _).alloc (Nat.le_refl _) _
  have HX := Lib.hid hX
  have HY := Lib.hid hY
  have HF := Lib.hid hF
  have K0 := Lib.hid k0
  have B0 := Lib.hid b0
  have HW := Lib.hid hW
  have HH := Lib.hid (show wrap64 (n - 1) = hiOf n from rfl)
  have hs0 := k0.lt
  obtain ⟨c0, c1, c2, c3⟩ := blk4 k0
  clear hX hY hF k0 b0 hW
  cases hel : elB (hiOf n) Z
  · have hz := Lib.hid (show polB n o X Y Z = false from by
      cases hv : validB n o X Y
      · exact polB_v hv
      · exact polB_a (by rw [hi_valid hv, elB_allB] at hel; exact hel))
    go_enter Try.func14, Try.ntmps14
    go_wp2_with (fail)
    rw [HW.out]
    go_wp2_with (first
      | (go_at_call 42; (with_reducible refine (l1Elements_any _ _ _ _ _ Z _ _ HH.out (HF.out.next B0.out) hlf).mono ?_); rintro e51 w51 ⟨rfl, rfl⟩)
      | fail)
    go_ret
    exact ⟨ret_bool hz.out.symm, B0.out⟩
  by_cases h8 : lf ≤ 8
  rotate_left
  · have hz := Lib.hid (polB_8 (n := n) (o := o) (X := X) (Y := Y) (Z := Z) (by omega))
    have t1 : ¬ (lf : Int) ≤ 8 := by omega
    have t2 : (8 : Int) < (lf : Int) := by omega
    go_enter Try.func14, Try.ntmps14
    go_wp2_with (fail)
    rw [HW.out]
    go_wp2_with (first
      | (go_at_call 42; (with_reducible refine (l1Elements_any _ _ _ _ _ Z _ _ HH.out (HF.out.next B0.out) hlf).mono ?_); rintro e51 w51 ⟨rfl, rfl⟩)
      | fail)
    go_ret
    exact ⟨ret_bool hz.out.symm, B0.out⟩
  have t1 : (lf : Int) ≤ 8 := by omega
  have t2 : ¬ (8 : Int) < (lf : Int) := by omega
  by_cases h0 : lf = 0
  · subst h0
    have hl : lastB Z = true := decide_eq_true (.inl hZ)
    cases hv : validB n o X Y
    · have hz := Lib.hid (polB_v (Z := Z) hv)
      go_enter Try.func14, Try.ntmps14
      go_wp2_with (fail)
      rw [HW.out]
      go_wp2_with (first
        | (go_at_call 42; (with_reducible refine (l1Elements_any _ _ _ _ _ Z _ _ HH.out (HF.out.next B0.out) hlf).mono ?_); rintro e51 w51 ⟨rfl, rfl⟩)
        | (go_at_call 43; (with_reducible refine (specValid_any _ _ _ _ _ _ _ _ X Y _ (HX.out.next B0.out) (HY.out.next B0.out) hla hlb hca hcb).mono ?_); rintro e1 w1 ⟨rfl, hb1⟩; have K1 := Lib.hid (K0.out.next hb1); have B1 := Lib.hid (below_step B0.out hb1); clear hb1; clear c0 c1 c2 c3; obtain ⟨c0, c1, c2, c3⟩ := blk4 K1.out)
        | fail)
      go_ret
      exact ⟨ret_bool hz.out.symm, B1.out⟩
    · have hz := Lib.hid (polB_yes hv (by omega) (by rw [hi_valid hv, elB_allB] at hel; exact hel) hl)
      go_enter Try.func14, Try.ntmps14
      go_wp2_with (fail)
      rw [HW.out]
      go_wp2_with (first
        | (go_at_call 42; (with_reducible refine (l1Elements_any _ _ _ _ _ Z _ _ HH.out (HF.out.next B0.out) hlf).mono ?_); rintro e51 w51 ⟨rfl, rfl⟩)
        | (go_at_call 43; (with_reducible refine (specValid_any _ _ _ _ _ _ _ _ X Y _ (HX.out.next B0.out) (HY.out.next B0.out) hla hlb hca hcb).mono ?_); rintro e1 w1 ⟨rfl, hb1⟩; have K1 := Lib.hid (K0.out.next hb1); have B1 := Lib.hid (below_step B0.out hb1); clear hb1; clear c0 c1 c2 c3; obtain ⟨c0, c1, c2, c3⟩ := blk4 K1.out)
        | fail)
      go_ret
      exact ⟨ret_bool hz.out.symm, B1.out⟩
  · obtain ⟨k, rfl⟩ : ∃ k, lf = k + 1 := ⟨lf - 1, by omega⟩
    obtain ⟨b, off, rfl, hb, hc0⟩ := ints_cell (k := k) HF.out (by omega)
    obtain ⟨z, hzz⟩ : ∃ z, Z[k]?.getD 0 = z := ⟨_, rfl⟩
    rw [hzz] at hc0
    have fc := B0.out.cell (p := ⟨b, off + k, none⟩) hb |>.trans hc0
    have HC := Lib.hid hc0
    have tk : ((k + 1 : Nat) : Int) = (k : Int) + 1 := by omega
    have tk2 : ¬ ((k : Int) + 1 = 0) := by omega
    have tk3 : (((k : Int) + 1) == 0) = false := by rw [beq_eq_false_iff_ne]; omega
    have tk4 : IntKind.i64.wrap ((k : Int) + 1 - 1) = (k : Int) := by rw [IntWalk.i64_in _ (by omega)]; omega
    clear hc0
    by_cases hz0 : z = 0
    · have hl : lastB Z = false := decide_eq_false (by rw [show Z.length - 1 = k by omega, hzz]; rintro (h | h); omega; exact h hz0)
      have tz : (z != 0) = false := by rw [hz0]; rfl
      have tz2 : (z == 0) = true := by rw [hz0]; rfl
      have hz := Lib.hid (polB_l (n := n) (o := o) (X := X) (Y := Y) hl)
      subst hz0
      go_enter Try.func14, Try.ntmps14
      go_wp2_with (fail)
      rw [HW.out]
      go_wp2_with (first
        | (go_at_call 42; (with_reducible refine (l1Elements_any _ _ _ _ _ Z _ _ HH.out (HF.out.next B0.out) hlf).mono ?_); rintro e51 w51 ⟨rfl, rfl⟩)
        | fail)
      go_ret
      exact ⟨ret_bool hz.out.symm, B0.out⟩
    · have hl : lastB Z = true := decide_eq_true (.inr (by rw [show Z.length - 1 = k by omega, hzz]; exact hz0))
      have tz : (z != 0) = true := by rw [bne_iff_ne]; exact hz0
      have tz2 : (z == 0) = false := by rw [beq_eq_false_iff_ne]; exact hz0
      cases hv : validB n o X Y
      · have hz := Lib.hid (polB_v (Z := Z) hv)
        go_enter Try.func14, Try.ntmps14
        go_wp2_with (fail)
        rw [HW.out]
        go_wp2_with (first
          | (go_at_call 42; (with_reducible refine (l1Elements_any _ _ _ _ _ Z _ _ HH.out (HF.out.next B0.out) hlf).mono ?_); rintro e51 w51 ⟨rfl, rfl⟩)
          | (go_at_call 43; (with_reducible refine (specValid_any _ _ _ _ _ _ _ _ X Y _ (HX.out.next B0.out) (HY.out.next B0.out) hla hlb hca hcb).mono ?_); rintro e1 w1 ⟨rfl, hb1⟩; have K1 := Lib.hid (K0.out.next hb1); have B1 := Lib.hid (below_step B0.out hb1); clear fc; have fc := (B1.out.cell (p := ⟨b, off + k, none⟩) hb).trans HC.out; clear hb1; clear c0 c1 c2 c3; obtain ⟨c0, c1, c2, c3⟩ := blk4 K1.out)
          | fail)
        go_ret
        exact ⟨ret_bool hz.out.symm, B1.out⟩
      · have hz := Lib.hid (polB_yes hv (by omega) (by rw [hi_valid hv, elB_allB] at hel; exact hel) hl)
        go_enter Try.func14, Try.ntmps14
        go_wp2_with (fail)
        rw [HW.out]
        go_wp2_with (first
          | (go_at_call 42; (with_reducible refine (l1Elements_any _ _ _ _ _ Z _ _ HH.out (HF.out.next B0.out) hlf).mono ?_); rintro e51 w51 ⟨rfl, rfl⟩)
          | (go_at_call 43; (with_reducible refine (specValid_any _ _ _ _ _ _ _ _ X Y _ (HX.out.next B0.out) (HY.out.next B0.out) hla hlb hca hcb).mono ?_); rintro e1 w1 ⟨rfl, hb1⟩; have K1 := Lib.hid (K0.out.next hb1); have B1 := Lib.hid (below_step B0.out hb1); clear fc; have fc := (B1.out.cell (p := ⟨b, off + k, none⟩) hb).trans HC.out; clear hb1; clear c0 c1 c2 c3; obtain ⟨c0, c1, c2, c3⟩ := blk4 K1.out)
          | fail)
        go_ret
        exact ⟨ret_bool hz.out.symm, B1.out⟩

end Go.Proofs.Ytkjanhcajopfhaa



/- Coefficients in memory; Clone; the reading side's l9Trim and l9At. -/
namespace Go.Proofs.Ytkjanhcajopfhaa
open Go.RowKit
set_option maxRecDepth 100000

/-- Coefficients whose memory is the call's own. -/
def PolV (D : Nat) (w : World) (v : Value) (l : Nat) (F : Nat → Nat) : Prop := ∃ (A : Option Addr) (c : Nat), v = .slice A l c ∧ Own w D A l (lstF F l) ∧ l ≤ c ∧ l ≤ 1000 ∧ ((A = none ∧ c = 0) ∨ ∃ b off, A = some ⟨b, off, none⟩)
theorem PolV.out {D : Nat} {w : World} {v : Value} {l : Nat} {F : Nat → Nat} (h : PolV D w v l F) : SliceOut D w v (lstF F l) := by
  obtain ⟨A, c, e, h1, h2, h3, _⟩ := h
  exact ⟨A, l, c, e, h1, h2, by omega⟩
theorem PolV.next {D : Nat} {w w' : World} {v : Value} {l : Nat} {F : Nat → Nat} (h : PolV D w v l F) (hb : Below w.heap.size w w') : PolV D w' v l F := by
  obtain ⟨A, c, e, h1, h2, h3, h4⟩ := h
  exact ⟨A, c, e, h1.next hb, h2, h3, h4⟩
theorem PolV.down {D D' : Nat} {w : World} {v : Value} {l : Nat} {F : Nat → Nat} (h : PolV D w v l F) (hD : D' ≤ D) : PolV D' w v l F := by
  obtain ⟨A, c, e, h1, h2⟩ := h
  exact ⟨A, c, e, h1.down hD, h2⟩
theorem PolV.of_row {D : Nat} {w : World} {v : Value} {l : Nat} {F : Nat → Nat} {T : TypeId} (h : w.ownsRow D T 1 v l ((lstF F l).map (.int .i64))) (hl : l ≤ 1000) : PolV D w v l F := by
  rcases h.2 with ⟨rfl, h0⟩ | ⟨g, cap, cur, rfl, _, _, hc, _⟩
  · subst h0
    exact ⟨none, 0, rfl, Own.nil, Nat.le_refl _, by omega, .inl ⟨rfl, rfl⟩⟩
  · exact ⟨_, _, rfl, own_of_row h lstF_len, hc, hl, .inr ⟨g, 0, rfl⟩⟩
theorem PolV.congr {D : Nat} {w : World} {v : Value} {l : Nat} {F G : Nat → Nat} (h : PolV D w v l F) (he : ∀ i, i < l → F i = G i) : PolV D w v l G := by
  obtain ⟨A, c, e, h1, h2⟩ := h
  exact ⟨A, c, e, by rw [← lstF_congr he]; exact h1, h2⟩
theorem PolV.nil {D : Nat} {w : World} {F : Nat → Nat} : PolV D w (.slice none 0 0) 0 F := ⟨none, 0, rfl, Own.nil, Nat.le_refl _, by omega, .inl ⟨rfl, rfl⟩⟩
/-- Fewer of them. -/
theorem Own.less {w : World} {D l k : Nat} {A : Option Addr} {F : Nat → Nat} (h : Own w D A l (lstF F l)) (hk : k ≤ l) : Own w D A k (lstF F k) :=
  ⟨lstF_len, fun hn => by
    obtain ⟨g, off, e, h1, h2, h3⟩ := h.2 (by omega)
    refine ⟨g, off, e, h1, h2, fun j hj => ?_⟩
    have := h3 j (by omega)
    rwa [lstF_get (by omega)] at this ⊢⟩
theorem ints_adds {w : World} {B n : Nat} {ad : Addr} {xs : List Int} (h : Ints w B (some ad) n xs) (j : Nat) (u : Value) (hj : (xs.map (Value.int .i64))[j]? = some u) : w.cell? (ad.add j) = some u := by
  rw [List.getElem?_map] at hj
  cases hq : xs[j]? with
  | none => rw [hq] at hj; cases hj
  | some y =>
    rw [hq] at hj
    simp only [Option.map_some, Option.some.injEq] at hj
    subst hj
    have hlt : j < xs.length := by
      rcases Nat.lt_or_ge j xs.length with h1 | h1
      · exact h1
      · rw [List.getElem?_eq_none h1] at hq; cases hq
    have hl := h.1
    obtain ⟨b, off, e', hb, hc⟩ := h.2 (by omega)
    simp only [Option.some.injEq] at e'
    subst e'
    have hadd : (⟨b, off, none⟩ : Addr).add j = ⟨b, off + j, none⟩ := by unfold Addr.add; split <;> simp_all
    rw [hadd]
    exact hc j y hq
theorem lstF_cell {w : World} {B b off l i : Nat} {F : Nat → Nat} (h : Ints w B (some ⟨b, off, none⟩) l (lstF F l)) (hi : i < l) : w.cell? ⟨b, off + i, none⟩ = some (.int .i64 ((F i : Nat) : Int)) := by
  obtain ⟨b', off', e, _, h2⟩ := h.2 (by omega)
  simp only [Option.some.injEq, Addr.mk.injEq, and_true] at e
  obtain ⟨rfl, rfl⟩ := e
  exact h2 i _ (lstF_get hi)
theorem lstF_addr {w : World} {B l : Nat} {A : Option Addr} {F : Nat → Nat} (h : Ints w B A l (lstF F l)) (hl : 0 < l) : ∃ b off, A = some ⟨b, off, none⟩ ∧ b < B := by
  obtain ⟨b, off, e, h1, _⟩ := h.2 hl
  exact ⟨b, off, e, h1⟩
theorem map_one {xs : List Int} : ∀ u ∈ xs.map (Value.int .i64), u.oneCell' = true := by
  intro u hu
  simp only [List.mem_map] at hu
  obtain ⟨y, _, rfl⟩ := hu
  rfl

theorem cloneP_any (E : Option Addr) (n cap C : Nat) (xs : List Int) (w : World) (hx : Ints w C E n xs) (hC : C ≤ w.heap.size) (hn' : n ≤ 1000) :
    Calls Try.prog 84 #[.slice E n cap] w fun e w' => ∃ v, e = .returned v ∧ w'.ownsRow w.heap.size 3 1 v n (xs.map (.int .i64)) ∧ Below w.heap.size w w' := by
  obtain ⟨i0, hi, hz0, hz1, hz2⟩ := info_parts int_info
  have hxl := hx.1
  cases E with
  | none =>
    have hn0 : n = 0 := by
      rcases Nat.eq_zero_or_pos n with h | h
      · exact h
      · obtain ⟨_, _, e, _⟩ := hx.2 h; cases e
    subst hn0
    obtain rfl := List.eq_nil_of_length_eq_zero hxl
    have hnil := Go.Lib.run_eql_slice_nil_nil (P := Try.prog) w 0 cap Try.underlying22
    clear hx
    go_enter Try.func84, Try.ntmps84
    go_wp2
    go_ret
    exact ⟨_, rfl, World.ownsRow_nil _ _ _ _, Below.refl _ _⟩
  | some ad =>
    have O0 := Lib.hid (own_lit_K (w := w) (base := w.heap.size) (e := 3) [] (Nat.le_refl _) (by unfold maxLen; simp))
    have B0 := Lib.hid ((Below.refl w.heap.size w).alloc (Nat.le_refl _) (.cells #[] 3))
    have hx2 : Ints (w.alloc (.cells #[] 3)) C (some ad) n xs := hx.below ((Below.refl _ w).alloc (Nat.le_refl _) _) hC
    have hcl := Lib.hid (ints_adds hx2)
    have hnil := Go.Lib.run_eql_slice_some_nil (P := Try.prog) w ad n cap Try.underlying22
    clear hx hx2
    go_enter Try.func84, Try.ntmps84
    go_wp2_with (at_builtin; refine wpList_append_own _ rfl _ _ 22 rfl w.heap.size 3 i0 (.int .i64 0) 1 8 Try.underlying22 hi hz0 hz1 hz2 rfl (by decide) _ _ _ rfl O0.out ad n cap (xs.map (.int .i64)) rfl (by simp [hxl]) hcl.out map_one (by unfold maxLen; simp; omega) (by simp; omega) (by simp) ?_; intro v3 w3 hown3 hg3 _)
    have B3 := Lib.hid (B0.out.grown hg3 (by simp) (fun k hk => (O0.out.lt k hk).1))
    have O3 := Lib.hid (show w3.ownsRow w.heap.size 3 1 v3 n (xs.map (.int .i64)) by simpa using hown3)
    clear hown3 hg3
    go_wp2
    go_ret
    exact ⟨_, rfl, O3.out, B3.out⟩

set_option maxHeartbeats 1000000 in
theorem l9Trim_any (D : Nat) (v : Value) (l : Nat) (F : Nat → Nat) (w : World) (h : PolV D w v l F) :
    Calls Try.prog 60 #[v] w fun e w' => ∃ v', e = .returned v' ∧ PolV w.heap.size w' v' (tlN F l) F ∧ Below w.heap.size w w' := by
  obtain ⟨i0, hi, hz0, hz1, hz2⟩ := info_parts int_info
  obtain ⟨A, c, rfl, ho, hc, hl, hA⟩ := h
  have HI := Lib.hid ho.ints
  clear ho
  rcases hA with ⟨rfl, rfl⟩ | ⟨b, off, rfl⟩
  · have hl0 : l = 0 := by omega
    subst hl0
    go_enter Try.func60, Try.ntmps60
    go_wp2
    go_loopg [0] 1 (fun g s wr => s = .slice none 0 0 ∧ Below w.heap.size w wr)
    case atStart => exact ⟨rfl, Below.refl _ _⟩
    case round =>
      obtain ⟨rfl, hb⟩ := hrel
      have B1 := Lib.hid hb
      have hsz := hb.size
      clear hb
      have O0 := Lib.hid (own_lit_K (w := wr) (base := w.heap.size) (e := 3) [] hsz (by unfold maxLen; simp))
      have B2 := Lib.hid (B1.out.alloc hsz (.cells #[] 3))
      go_wp2_with (at_builtin; refine wpList_append_own_none rfl _ _ 22 rfl w.heap.size 3 i0 1 Try.underlying22 hi (by rw [hz1]) _ 0 [] rfl O0.out rfl ?_)
      go_ret
      exact ⟨_, rfl, show PolV w.heap.size _ _ 0 F from PolV.of_row O0.out (by omega), B2.out⟩
  · go_enter Try.func60, Try.ntmps60
    go_wp2
    go_loopg [0] l (fun g s wr => ∃ k : Nat, k ≤ l ∧ k ≤ g ∧ s = .slice (some ⟨b, off, none⟩) k c ∧ tlN F k = tlN F l ∧ Below w.heap.size w wr)
    case atStart => exact ⟨l, Nat.le_refl _, Nat.le_refl _, rfl, rfl, Below.refl _ _⟩
    case round =>
      obtain ⟨k, hk, hg, rfl, htl, hb⟩ := hrel
      have B1 := Lib.hid hb
      have hsz := hb.size
      have HI1 := Lib.hid (HI.out.next hb)
      have HT := Lib.hid htl
      clear hb htl
      have O0 := Lib.hid (own_lit_K (w := wr) (base := w.heap.size) (e := 3) [] hsz (by unfold maxLen; simp))
      have B2 := Lib.hid (B1.out.alloc hsz (.cells #[] 3))
      have hcl := Lib.hid (show ∀ (j : Nat) (u : Value), ((lstF F k).map (Value.int .i64))[j]? = some u → (wr.alloc (.cells #[] 3)).cell? ((⟨b, off, none⟩ : Addr).add j) = some u from
        ints_adds (B := w.heap.size) (n := k) ⟨lstF_len, fun hn => by
          obtain ⟨b', off', e, h1, h2⟩ := HI.out.2 (by omega)
          simp only [Option.some.injEq, Addr.mk.injEq, and_true] at e
          obtain ⟨rfl, rfl⟩ := e
          refine ⟨_, _, rfl, h1, fun j x hx => ?_⟩
          have hj : j < k := by
            rcases Nat.lt_or_ge j k with h3 | h3
            · exact h3
            · rw [List.getElem?_eq_none (by rw [lstF_len]; exact h3)] at hx; cases hx
          rw [lstF_get hj] at hx
          simp only [Option.some.injEq] at hx
          subst hx
          exact (B2.out.cell (p := ⟨_, _, none⟩) h1).trans (lstF_cell HI.out (by omega))⟩)
      cases k with
      | zero =>
        go_wp2_with (at_builtin; refine wpList_append_own _ rfl _ _ 22 rfl w.heap.size 3 i0 (.int .i64 0) 1 8 Try.underlying22 hi hz0 hz1 hz2 rfl (by decide) _ _ _ rfl O0.out ⟨b, off, none⟩ 0 c ((lstF F 0).map (.int .i64)) rfl (by simp [lstF_len]) hcl.out map_one (by unfold maxLen; simp) (by simp) (by simp; omega) ?_; intro v3 w3 hown3 hg3 _)
        have B3 := Lib.hid (B2.out.grown hg3 (by simp; omega) (fun k hk => (O0.out.lt k hk).1))
        have O3 := Lib.hid (show w3.ownsRow w.heap.size 3 1 v3 0 ((lstF F 0).map (.int .i64)) by simpa using hown3)
        clear hown3 hg3
        go_wp2
        go_ret
        exact ⟨_, rfl, by rw [← HT.out]; exact (show PolV w.heap.size _ _ 0 F from PolV.of_row O3.out (by omega)), B3.out⟩
      | succ k =>
        have hc0 := lstF_cell HI1.out (i := k) (by omega)
        by_cases h0 : F k = 0
        · rw [h0] at hc0
          have t0 := Lib.hid ((tl_zero h0).symm.trans HT.out)
          go_wp2
          go_roundg k
          case measure => omega
          case rel => exact ⟨k, by omega, by omega, by go_num, t0.out, B1.out⟩
        · have t1 : (((F k : Nat) : Int) == 0) = false := by rw [beq_eq_false_iff_ne]; omega
          have t2 : ¬ ((F k : Nat) : Int) = 0 := by omega
          have t3 := Lib.hid ((tl_top h0).symm.trans HT.out)
          go_wp2_with (at_builtin; refine wpList_append_own _ rfl _ _ 22 rfl w.heap.size 3 i0 (.int .i64 0) 1 8 Try.underlying22 hi hz0 hz1 hz2 rfl (by decide) _ _ _ rfl O0.out ⟨b, off, none⟩ (k + 1) c ((lstF F (k + 1)).map (.int .i64)) rfl (by simp [lstF_len]) hcl.out map_one (by unfold maxLen; simp; omega) (by simp; omega) (by simp; omega) ?_; intro v3 w3 hown3 hg3 _)
          have B3 := Lib.hid (B2.out.grown hg3 (by simp; omega) (fun k hk => (O0.out.lt k hk).1))
          have O3 := Lib.hid (show w3.ownsRow w.heap.size 3 1 v3 (k + 1) ((lstF F (k + 1)).map (.int .i64)) by simpa using hown3)
          clear hown3 hg3
          go_wp2
          go_ret
          exact ⟨_, rfl, by rw [← HT.out, tl_top h0]; exact PolV.of_row O3.out (by omega), B3.out⟩

theorem ev_down {m l a j : Nat} {S P F : Nat → Nat} (h : j < l) : evN m S P F l a (l - j) = S (P (evN m S P F l a (l - (j + 1)) * m + a) * m + F j) := by
  rw [show l - j = (l - (j + 1)) + 1 by omega]
  show S (P (evN m S P F l a (l - (j + 1)) * m + a) * m + F (l - 1 - (l - (j + 1)))) = _
  rw [show l - 1 - (l - (j + 1)) = j by omega]

set_option maxHeartbeats 1000000 in
theorem l9At_any (F : Nat → Nat) (E : Option Addr) (l c a : Nat) (m e b1 o1 la ca b2 o2 lb cb : Nat) (S P : Nat → Nat) (w : World) (hr : RingAt w m e b1 o1 la ca b2 o2 lb cb S P) (hF : Ints w w.heap.size E l (lstF F l)) (hl : l ≤ 1000) (hlt : ∀ i, i < l → F i < m) (ha : a < m) :
    Calls Try.prog 46 #[.agg #[.int .i64 m, .int .i64 e, .slice (some ⟨b1, o1, none⟩) la ca, .slice (some ⟨b2, o2, none⟩) lb cb], .slice E l c, .int .i64 a] w fun e' w' => e' = .returned (.int .i64 (atN m S P F l a : Nat)) ∧ Below w.heap.size w w' := by
  have HL := Lib.hid hlt
  have HE := Lib.hid (ev_lt (m := m) (S := S) (P := P) (F := F) (l := l) (a := a) hr.hm (fun k hk => (hr.ts.2 k hk).2) (fun k hk => (hr.tp.2 k hk).2) hlt ha)
  have hps := Lib.hid (show ∀ x, x < m → P (x * m + a) < m from fun x hx => hr.tp.lt hx ha)
  have b0 : Below w.heap.size w (w.alloc (.cells #[.int .i64 m, .int .i64 e, .slice (some ⟨b1, o1, none⟩) la ca, .slice (some ⟨b2, o2, none⟩) lb cb] 27)) := (Below.refl _ _).alloc (Nat.le_refl _) _
  have R0 := Lib.hid (hr.next b0)
  have F0 := Lib.hid (hF.next b0)
  have B0 := Lib.hid b0
  clear hr hF b0 hlt
  go_enter Try.func46, Try.ntmps46
  go_wp2
  go_loopg [7, 8] l (fun g s i wr => ∃ k : Nat, k ≤ l ∧ k ≤ g ∧ i = .int .i64 ((k : Int) - 1) ∧ s = .int .i64 (evN m S P F l a (l - k) : Nat) ∧ Below (w.heap.size + 1) (w.alloc (.cells #[.int .i64 m, .int .i64 e, .slice (some ⟨b1, o1, none⟩) la ca, .slice (some ⟨b2, o2, none⟩) lb cb] 27)) wr)
  case atStart => exact ⟨l, Nat.le_refl _, Nat.le_refl _, by go_num, by rw [Nat.sub_self]; rfl, Below.refl _ _⟩
  case round =>
    obtain ⟨k, hk, hg, rfl, rfl, hb⟩ := hrel
    obtain ⟨c0, c1, c2, c3, hs⟩ := box4 hb
    have X1 := Lib.hid hb
    have hb' : Below (w.alloc (.cells #[.int .i64 m, .int .i64 e, .slice (some ⟨b1, o1, none⟩) la ca, .slice (some ⟨b2, o2, none⟩) lb cb] 27)).heap.size (w.alloc (.cells #[.int .i64 m, .int .i64 e, .slice (some ⟨b1, o1, none⟩) la ca, .slice (some ⟨b2, o2, none⟩) lb cb] 27)) wr := by simpa using hb
    have R1 := Lib.hid (R0.out.next hb')
    have F1 := Lib.hid (F0.out.below hb' (by simp))
    clear hb hb'
    cases k with
    | zero =>
      go_wp2
      go_ret
      exact ⟨rfl, below_of_box X1.out⟩
    | succ j =>
      obtain ⟨b, off, rfl, hbb⟩ := lstF_addr F1.out (by omega)
      have hc0 := lstF_cell F1.out (i := j) (by omega)
      have hev := HE.out (l - (j + 1)) (by omega)
      have hfj := HL.out j (by omega)
      have hpp := hps.out _ hev
      have ES := Lib.hid (ev_down (m := m) (S := S) (P := P) (F := F) (a := a) (show j < l by omega))
      obtain ⟨V, hV⟩ : ∃ V, evN m S P F l a (l - (j + 1)) = V := ⟨_, rfl⟩
      rw [hV] at hev hpp
      rw [hV]
      have ES' := Lib.hid (show evN m S P F l a (l - j) = S (P (V * m + a) * m + F j) by rw [ES.out, hV])
      clear hV
      go_wp2_with (fail)
      refine wp_region_ext (by kernel_rfl) (by kernel_rfl) ?_
      repeat (go_big_quiet_step (((first
        | (go_at_call 57; ((with_reducible refine calls_ext (l1Mul_any V a m e b1 o1 la ca b2 o2 lb cb S P _ (R1.out.ext _) hev ha))))
        | (go_at_call 58; ((with_reducible refine calls_ext (l1Add_any (P (V * m + a)) (F j) m e b1 o1 la ca b2 o2 lb cb S P _ (R1.out.ext _) hpp hfj))))))))
      refine wpQuiet_nil ?_
      intro w3 hb3
      have B3 := Lib.hid hb3
      clear hb3
      go_wp2
      go_roundg j
      case measure => omega
      case rel => exact ⟨j, by omega, by omega, by go_num, by rw [ES'.out], X1.out.trans (B3.out.mono (by omega))⟩

end Go.Proofs.Ytkjanhcajopfhaa



/- The reading side's l9Add. -/
namespace Go.Proofs.Ytkjanhcajopfhaa
open Go.RowKit
set_option maxRecDepth 100000

section
variable {F : Nat → Nat} {l k v : Nat}
theorem lstV_len : ((lstF F l).map (Value.int .i64)).length = l := by rw [List.length_map, lstF_len]
theorem lstV_get (h : k < l) : ((lstF F l).map (Value.int .i64))[k]? = some (.int .i64 ((F k : Nat) : Int)) := by
  rw [List.getElem?_map, lstF_get h]; rfl
theorem lstV_set (_ : k < l) : ((lstF F l).map (Value.int .i64)).set k (.int .i64 ((v : Nat) : Int)) = (lstF (putF F k v) l).map (Value.int .i64) := by
  apply List.ext_getElem?
  intro j
  rcases Nat.lt_or_ge j l with hj | hj
  · rw [List.getElem?_set, lstV_get hj, lstV_get hj, lstV_len]
    by_cases e : k = j
    · subst e; rw [if_pos rfl, if_pos hj]; unfold putF; rw [if_pos rfl]
    · rw [if_neg e]; unfold putF; rw [if_neg (fun h => e h.symm)]
  · rw [List.getElem?_eq_none (by rw [List.length_set, lstV_len]; exact hj), List.getElem?_eq_none (by rw [lstV_len]; exact hj)]
theorem lstV_succ : (lstF F (l + 1)).map (Value.int .i64) = (lstF F l).map (Value.int .i64) ++ [.int .i64 ((F l : Nat) : Int)] := by rw [lstF_succ, List.map_append]; rfl
theorem lstV_congr {G : Nat → Nat} (h : ∀ i, i < l → F i = G i) : (lstF F l).map (Value.int .i64) = (lstF G l).map (Value.int .i64) := by rw [lstF_congr h]
theorem lstV_ex : (lstF (exF F l) l).map (Value.int .i64) = (lstF F l).map (Value.int .i64) := lstV_congr fun _ hi => if_pos hi
theorem lstV_made {n : Nat} : (madeCells (Value.int .i64 0).cells (n * 1)).toList = (lstF (fun _ => 0) n).map (Value.int .i64) := by
  apply List.ext_getElem?
  intro j
  by_cases hj : j < n
  · rw [lstV_get hj]
    simp [madeCells, Value.cells, hj, Nat.mod_one]
  · rw [List.getElem?_eq_none (by simp [madeCells]; omega), List.getElem?_eq_none (by rw [lstV_len]; omega)]
theorem max_is {a b c : Nat} (h1 : a ≤ c) (h2 : c = a ∨ c ≤ b) (h3 : ¬ c < b) : max a b = c := by omega
theorem add_put {m i lf : Nat} {S F G : Nat → Nat} : putF (addF m S F lf G i) i (S (exF F lf i * m + G i)) = addF m S F lf G (i + 1) := funext fun j => by
  rw [add_step]
  unfold putF
  by_cases h : j = i
  · rw [if_pos h, if_pos h, h]
  · rw [if_neg h, if_neg h]
theorem add_at {m i lf : Nat} {S F G : Nat → Nat} : addF m S F lf G i i = exF F lf i := if_neg (by omega)
theorem mul_put {m i j lg : Nat} {S P F G : Nat → Nat} (h : j < lg) : putF (mulF m S P F G lg (i * lg + j)) (i + j) (S (mulF m S P F G lg (i * lg + j) (i + j) * m + P (F i * m + G j))) = mulF m S P F G lg (i * lg + j + 1) := funext fun t => by
  rw [mul_step h]
  unfold putF
  split
  · rename_i e; rw [e]
  · rfl
end

/-- Nothing is appended by a slice of no block, whatever its capacity. -/
theorem run_append_none_c {P : Program} {w : World} {base : Nat} {t ty e : TypeId} {i : TypeInfo} {size : Nat} (ht : P.underlying t = some (.slice e)) (hi : P.info? e = some i) {v : Value} {n : Nat} {xs : List Value} (c : Nat) (hown : w.ownsRow base e size v n xs) :
    (Builtin.append_ #[t, t] ty #[v, .slice none 0 c]).run P w = .ok v w := by
  rcases hown.2 with ⟨rfl, rfl⟩ | ⟨g, cap, cur, rfl, _, _, hnc, _⟩
  · simp [Builtin.append_, run_underlying ht, sizeOf, typeInfo, hi, Builtin.lenOf, Builtin.firstCells]
  · simp [Builtin.append_, run_underlying ht, sizeOf, typeInfo, hi, Builtin.lenOf, Builtin.firstCells, hnc, storeCells]
theorem wp_append_none_c {P : Program} {w : World} {ops : Array Oper} {rest : List Oper} {o : Oper} {a : Act} {Q : Exit → Act → World → Prop} (hgd : o.guard = none) (s x : Operand) (t : TypeId) (ho : o.op = .call { callee := .builtin .append, args := #[s, x], argTypes := #[t, t] })
    (base : Nat) (e : TypeId) (i : TypeInfo) (size : Nat) (ht : P.underlying t = some (.slice e)) (hi : P.info? e = some i) (v : Value) (n c : Nat) (xs : List Value) (hs : a.eval s = v) (hown : w.ownsRow base e size v n xs) (hx : a.eval x = .slice none 0 c)
    (h : wpList P ops Q rest (a.put o.dst v) w) : wpList P ops Q (o :: rest) a w := by
  refine wpList_plain hgd fun K hK => ?_
  have hrun := run_append_none_c (ty := o.type) ht hi c hown
  unfold Oper.wp
  simp [execOp, ho, resolve, invoke, builtin, hs, hx, hrun, Result.andThen]
  exact hK _ _ h

set_option maxHeartbeats 2000000 in
theorem l9Add_any (F G : Nat → Nat) (E K : Option Addr) (lf lg cf cg : Nat) (m e b1 o1 la ca b2 o2 lb cb : Nat) (S P : Nat → Nat) (w : World) (hr : RingAt w m e b1 o1 la ca b2 o2 lb cb S P) (hF : Ints w w.heap.size E lf (lstF F lf)) (hG : Ints w w.heap.size K lg (lstF G lg)) (hlf : lf ≤ 100) (hlg : lg ≤ 100) (hf : ∀ i, i < lf → F i < m) (hg : ∀ i, i < lg → G i < m) :
    Calls Try.prog 51 #[.agg #[.int .i64 m, .int .i64 e, .slice (some ⟨b1, o1, none⟩) la ca, .slice (some ⟨b2, o2, none⟩) lb cb], .slice E lf cf, .slice K lg cg] w fun e' w' => ∃ v, e' = .returned v ∧ PolV w.heap.size w' v (tlN (addF m S F lf G lg) (max lf lg)) (addF m S F lf G lg) ∧ Below w.heap.size w w' := by
  obtain ⟨i0, hi, hz0, hz1, hz2⟩ := info_parts int_info
  have HG' := Lib.hid hg
  have EX := Lib.hid (ex_lt (F := F) (l := lf) hr.hm hf)
  obtain ⟨D, hD⟩ : ∃ D, w.heap.size + 1 = D := ⟨_, rfl⟩
  have b0 : Below w.heap.size w (w.alloc (.cells #[.int .i64 m, .int .i64 e, .slice (some ⟨b1, o1, none⟩) la ca, .slice (some ⟨b2, o2, none⟩) lb cb] 27)) := (Below.refl _ _).alloc (Nat.le_refl _) _
  have R0 := Lib.hid (hr.next b0)
  have F0 := Lib.hid (hF.next b0)
  have G0 := Lib.hid (hG.next b0)
  have HD := Lib.hid hD
  obtain ⟨c0, c1, c2, c3, hs⟩ := box4_new w (.int .i64 m) (.int .i64 e) (.slice (some ⟨b1, o1, none⟩) la ca) (.slice (some ⟨b2, o2, none⟩) lb cb) 27
  obtain ⟨W, hW⟩ : ∃ W, w.alloc (.cells #[.int .i64 m, .int .i64 e, .slice (some ⟨b1, o1, none⟩) la ca, .slice (some ⟨b2, o2, none⟩) lb cb] 27) = W := ⟨_, rfl⟩
  rw [hW] at R0 F0 G0 c0 c1 c2 c3 hs
  have HW := Lib.hid hW
  have hsW : W.heap.size = D := by rw [← hW, ← hD]; simp
  have O0 := Lib.hid (show (W.alloc (.cells #[] 3)).ownsRow D 3 1 (.slice (some ⟨w.heap.size + 1, 0, none⟩) 0 0) 0 [] by
    have := own_lit_K (w := W) (base := D) (e := 3) [] (by omega) (by unfold maxLen; simp)
    rw [show W.heap.size = w.heap.size + 1 by omega] at this
    exact this)
  have BA := Lib.hid (show Below D W (W.alloc (.cells #[] 3)) from (Below.refl _ _).alloc (by omega) _)
  clear hr hF hG b0 hW hD hf hg
  cases E with

  | none =>
    have hn0 : lf = 0 := by
      rcases Nat.eq_zero_or_pos lf with h | h
      · exact h
      · obtain ⟨_, _, e, _⟩ := F0.out.2 h; cases e
    subst hn0
    go_enter Try.func51, Try.ntmps51
    go_wp2_with (fail)
    rw [HW.out]
    go_wp2_with (at_builtin; refine wp_append_none_c rfl _ _ 22 rfl D 3 i0 1 Try.underlying22 hi _ 0 cf [] rfl O0.out rfl ?_)
    have O1 := Lib.hid (show (W.alloc (.cells #[] 3)).ownsRow D 3 1 (.slice (some ⟨w.heap.size + 1, 0, none⟩) 0 0) 0 ((lstF F 0).map (.int .i64)) from O0.out)
    have B1 := Lib.hid BA.out
    obtain ⟨w1, hw1⟩ : ∃ x, W.alloc (.cells #[] 3) = x := ⟨_, rfl⟩
    rw [hw1] at O1 B1 ⊢
    clear hw1
    skip
    go_loopg [7] lg (fun g v wr => ∃ L : Nat, 0 ≤ L ∧ (L = 0 ∨ L ≤ lg) ∧ lg ≤ L + g ∧ wr.ownsRow D 3 1 v L ((lstF (exF F 0) L).map (.int .i64)) ∧ Below D W wr)
    case atStart => exact ⟨0, Nat.le_refl _, .inl rfl, by omega, by rw [lstV_ex]; exact O1.out, B1.out⟩
    case round =>
      obtain ⟨L, hL1, hL2, hg, hown, hb⟩ := hrel
      have hL3 : L ≤ 100 := by omega
      have hsz := hb.size
      have OW := Lib.hid hown
      have BB := Lib.hid hb
      have hv := hown.2
      clear hown hb
      by_cases hlt : L < lg
      · have hti : (L : Int) < (lg : Int) := by omega
        have hll : ∃ A c, u7 = .slice A L c := by
          rcases hv with ⟨rfl, h0⟩ | ⟨q, cap, cur, rfl, _⟩
          · exact ⟨none, 0, by rw [h0]⟩
          · exact ⟨_, _, rfl⟩
        obtain ⟨A, c, rfl⟩ := hll
        clear hv
        go_wp2_with (at_builtin; refine wpList_append_own _ rfl _ _ 22 rfl D 3 i0 (.int .i64 0) 1 8 Try.underlying22 hi hz0 hz1 hz2 rfl (by decide) _ _ _ rfl (OW.out.alloc _) ⟨wr.heap.size, 0, none⟩ 1 1 [.int .i64 0] rfl rfl (cell_one_new _ _ _) (by simp [Value.oneCell']) (by unfold maxLen; omega) (by omega) (by simp; omega) ?_; intro v3 w3 hown3 hg3 _)
        have B3 := Lib.hid ((BB.out.alloc (by omega) (.cells #[.int .i64 0] 3)).grown hg3 (by simp; omega) (fun k hk => ((OW.out.alloc (.cells #[.int .i64 0] 3)).lt k hk).1))
        have O3 := Lib.hid (show w3.ownsRow D 3 1 v3 (L + 1) ((lstF (exF F 0) (L + 1)).map (.int .i64)) by rw [lstV_succ, show exF F 0 L = 0 from if_neg (by omega)]; exact hown3)
        clear hown3 hg3
        go_wp2
        go_roundg (lg - (L + 1))
        case measure => omega
        case rel => exact ⟨L + 1, by omega, .inr (by omega), by omega, O3.out, B3.out⟩
      · have hti : ¬ (L : Int) < (lg : Int) := by omega
        have hmax : max 0 lg = L := max_is hL1 hL2 hlt
        rcases hv with ⟨rfl, h0⟩ | ⟨q, cap, cur, rfl, hq, _⟩
        · subst h0
          have hl0 : lg = 0 := by omega
          have hlf0 : 0 = 0 := by omega
          subst hl0
          go_wp2
          obtain ⟨wo, rfl⟩ : ∃ x, x = wr := ⟨_, rfl⟩
          go_loopg [23] 0 (fun g i wr => i = .int .i64 0 ∧ Below wo.heap.size wo wr)
          case atStart => exact ⟨rfl, Below.refl _ _⟩
          case round =>
            obtain ⟨rfl, hb⟩ := hrel
            have B4 := Lib.hid hb
            clear hb
            have PV := Lib.hid (show PolV D wr (.slice none 0 0) 0 (addF m S F 0 G 0) from PolV.nil)
            go_wp2_with (go_at_call 60; ((with_reducible refine (l9Trim_any D _ 0 (addF m S F 0 G 0) _ PV.out).mono ?_); rintro e5 w5 ⟨v5, rfl, hp5, hb5⟩; have B5 := Lib.hid (B4.out.trans (hb5.mono B4.out.size)); have P5 := Lib.hid (hp5.down (D' := w.heap.size) (by have := B4.out.size; have := HD.out; omega)); clear hb5 hp5))
            go_ret
            exact ⟨_, rfl, P5.out, below_of_box (by rw [HW.out, HD.out]; exact BB.out.trans (B5.out.mono (by omega)))⟩
        · go_wp2
          obtain ⟨wo, rfl⟩ : ∃ x, x = wr := ⟨_, rfl⟩
          have HO := Lib.hid (show wo.ownsRow D 3 1 (.slice (some ⟨q, 0, none⟩) L cap) L ((lstF (addF m S F 0 G 0) L).map (.int .i64)) by rw [add_zero]; exact OW.out)
          clear OW
          go_loopg [23] lg (fun g i wr => ∃ k : Nat, k ≤ lg ∧ lg ≤ k + g ∧ i = .int .i64 k ∧ wr.ownsRow D 3 1 (.slice (some ⟨q, 0, none⟩) L cap) L ((lstF (addF m S F 0 G k) L).map (.int .i64)) ∧ Below D W wr)
          case atStart => exact ⟨0, Nat.zero_le _, by omega, rfl, HO.out, BB.out⟩
          case round =>
            obtain ⟨k, hk, hgk, rfl, hown, hb⟩ := hrel
            have OK := Lib.hid hown
            have BK := Lib.hid hb
            have hszk := hb.size
            clear hown hb
            by_cases hkl : k < lg
            · have hki : (k : Int) < (lg : Int) := by omega
              have hkL : k < L := by omega
              obtain ⟨b, off, rfl, hbb⟩ := lstF_addr G0.out (by omega)
              have G1 := Lib.hid (G0.out.below (hsW ▸ BK.out) (Nat.le_refl _))
              have gc := lstF_cell G1.out hkl
              have hgm := HG'.out k hkl
              have hxm := EX.out k
              obtain ⟨y, hy⟩ : ∃ y, G k = y := ⟨_, rfl⟩
              obtain ⟨x, hx⟩ : ∃ x, exF F 0 k = x := ⟨_, rfl⟩
              rw [hy] at gc hgm
              rw [hx] at hxm
              have HN := Lib.hid (show putF (addF m S F 0 G k) k (S (x * m + y)) = addF m S F 0 G (k + 1) by rw [← hx, ← hy]; exact add_put)
              have hce := OK.out.cellAt k (by omega)
              rw [lstV_get hkL, add_at, hx] at hce
              clear hy hx
              go_wp2_with (fail)
              refine wp_region_makers 10 (fun _ => false) (fun _ _ _ => True) (fun _ _ => True) (fun _ => undef) probe (by kernel_rfl) (by kernel_rfl) (fun _ _ _ _ _ _ => trivial) (fun _ _ _ _ _ => trivial) (fun _ _ => trivial) ?_
              intro V hV vs _
              have cV : ∃ x, extC V x := ⟨V, extC_of (Below.refl _ _)⟩
              have BV := Lib.hid (BK.out.trans (hV.mono (by omega)))
              have RV := Lib.hid (R0.out.next (hsW ▸ BV.out))
              have p0 := (BV.out.cell (p := ⟨w.heap.size, 0, none⟩) (by rw [← HD.out]; simp)).trans c0
              have p1 := (BV.out.cell (p := ⟨w.heap.size, 1, none⟩) (by rw [← HD.out]; simp)).trans c1
              have p2 := (BV.out.cell (p := ⟨w.heap.size, 2, none⟩) (by rw [← HD.out]; simp)).trans c2
              have p3 := (BV.out.cell (p := ⟨w.heap.size, 3, none⟩) (by rw [← HD.out]; simp)).trans c3
              have OV := Lib.hid (own_nextK OK.out hV)
              have hcv := OV.out.cellAt k (by omega)
              rw [← OK.out.cellAt k (by omega), hce] at hcv
              have HCE := Lib.hid hce
              clear hV gc hce
              simp only [List.take_succ_cons, List.take_zero, List.drop_succ_cons, List.drop_zero]
              refine wpV_quiet cV 10 0 _ _ (by decide) (by decide) ?_
              simp only [List.take_succ_cons, List.take_zero, List.drop_succ_cons, List.drop_zero]
              repeat (go_big_quiet_step (first
                | (go_at_call 58; with_reducible refine calls_ext (l1Add_any x y m e b1 o1 la ca b2 o2 lb cb S P _ (RV.out.next (ext_below _ _)) hxm hgm))))
              refine wpQuiet_nil ?_
              refine wpV_nil ?_
              intro w4 hb4 _ _
              have B4 := Lib.hid (BK.out.trans (hb4.mono (by omega)))
              have O4 := Lib.hid (own_nextK OK.out hb4)
              have hc4 := O4.out.cellAt k (by omega)
              rw [← OK.out.cellAt k (by omega), HCE.out] at hc4
              have hf4 := O4.out.frozenAt k
              clear hcv hb4 p0 p1 p2 p3
              go_wp2
              go_roundg (lg - (k + 1))
              case measure => omega
              case rel => exact ⟨k + 1, by omega, by omega, by go_num, by rw [← HN.out, ← lstV_set hkL]; exact (O4.out.stored k _).1, B4.out.setCell (by show D ≤ q; exact hq) _⟩
            · have hki : ¬ (k : Int) < (lg : Int) := by omega
              have hkk : k = lg := by omega
              subst hkk
              have PV := Lib.hid (PolV.of_row OK.out (by omega))
              go_wp2_with (go_at_call 60; ((with_reducible refine (l9Trim_any D _ L (addF m S F 0 G k) _ PV.out).mono ?_); rintro e5 w5 ⟨v5, rfl, hp5, hb5⟩; have B5 := Lib.hid (BK.out.trans (hb5.mono (by omega))); have P5 := Lib.hid (hp5.down (D' := w.heap.size) (by have := HD.out; omega)); clear hb5 hp5))
              go_ret
              exact ⟨_, rfl, by rw [hmax]; exact P5.out, below_of_box (by rw [HW.out, HD.out]; exact B5.out)⟩
  | some ad =>
    have hcl := Lib.hid (ints_adds (F0.out.below BA.out (by omega)))
    go_enter Try.func51, Try.ntmps51
    go_wp2_with (at_builtin; rw [HW.out]; refine wpList_append_own _ rfl _ _ 22 rfl D 3 i0 (.int .i64 0) 1 8 Try.underlying22 hi hz0 hz1 hz2 rfl (by decide) _ _ _ rfl O0.out ad lf cf ((lstF F lf).map (.int .i64)) rfl (by simp [lstF_len]) hcl.out map_one (by unfold maxLen; simp; omega) (by simp; omega) (by simp; omega) ?_; intro v3 w3 hown3 hg3 _)
    have B1 := Lib.hid (BA.out.grown hg3 (by simp; omega) (fun k hk => (O0.out.lt k hk).1))
    have O1 := Lib.hid (show w3.ownsRow D 3 1 v3 lf ((lstF F lf).map (.int .i64)) by simpa using hown3)
    clear hown3 hg3
    skip
    go_loopg [7] lg (fun g v wr => ∃ L : Nat, lf ≤ L ∧ (L = lf ∨ L ≤ lg) ∧ lg ≤ L + g ∧ wr.ownsRow D 3 1 v L ((lstF (exF F lf) L).map (.int .i64)) ∧ Below D W wr)
    case atStart => exact ⟨lf, Nat.le_refl _, .inl rfl, by omega, by rw [lstV_ex]; exact O1.out, B1.out⟩
    case round =>
      obtain ⟨L, hL1, hL2, hg, hown, hb⟩ := hrel
      have hL3 : L ≤ 100 := by omega
      have hsz := hb.size
      have OW := Lib.hid hown
      have BB := Lib.hid hb
      have hv := hown.2
      clear hown hb
      by_cases hlt : L < lg
      · have hti : (L : Int) < (lg : Int) := by omega
        have hll : ∃ A c, u7 = .slice A L c := by
          rcases hv with ⟨rfl, h0⟩ | ⟨q, cap, cur, rfl, _⟩
          · exact ⟨none, 0, by rw [h0]⟩
          · exact ⟨_, _, rfl⟩
        obtain ⟨A, c, rfl⟩ := hll
        clear hv
        go_wp2_with (at_builtin; refine wpList_append_own _ rfl _ _ 22 rfl D 3 i0 (.int .i64 0) 1 8 Try.underlying22 hi hz0 hz1 hz2 rfl (by decide) _ _ _ rfl (OW.out.alloc _) ⟨wr.heap.size, 0, none⟩ 1 1 [.int .i64 0] rfl rfl (cell_one_new _ _ _) (by simp [Value.oneCell']) (by unfold maxLen; omega) (by omega) (by simp; omega) ?_; intro v3 w3 hown3 hg3 _)
        have B3 := Lib.hid ((BB.out.alloc (by omega) (.cells #[.int .i64 0] 3)).grown hg3 (by simp; omega) (fun k hk => ((OW.out.alloc (.cells #[.int .i64 0] 3)).lt k hk).1))
        have O3 := Lib.hid (show w3.ownsRow D 3 1 v3 (L + 1) ((lstF (exF F lf) (L + 1)).map (.int .i64)) by rw [lstV_succ, show exF F lf L = 0 from if_neg (by omega)]; exact hown3)
        clear hown3 hg3
        go_wp2
        go_roundg (lg - (L + 1))
        case measure => omega
        case rel => exact ⟨L + 1, by omega, .inr (by omega), by omega, O3.out, B3.out⟩
      · have hti : ¬ (L : Int) < (lg : Int) := by omega
        have hmax : max lf lg = L := max_is hL1 hL2 hlt
        rcases hv with ⟨rfl, h0⟩ | ⟨q, cap, cur, rfl, hq, _⟩
        · subst h0
          have hl0 : lg = 0 := by omega
          have hlf0 : lf = 0 := by omega
          subst hl0 hlf0
          go_wp2
          obtain ⟨wo, rfl⟩ : ∃ x, x = wr := ⟨_, rfl⟩
          go_loopg [23] 0 (fun g i wr => i = .int .i64 0 ∧ Below wo.heap.size wo wr)
          case atStart => exact ⟨rfl, Below.refl _ _⟩
          case round =>
            obtain ⟨rfl, hb⟩ := hrel
            have B4 := Lib.hid hb
            clear hb
            have PV := Lib.hid (show PolV D wr (.slice none 0 0) 0 (addF m S F 0 G 0) from PolV.nil)
            go_wp2_with (go_at_call 60; ((with_reducible refine (l9Trim_any D _ 0 (addF m S F 0 G 0) _ PV.out).mono ?_); rintro e5 w5 ⟨v5, rfl, hp5, hb5⟩; have B5 := Lib.hid (B4.out.trans (hb5.mono B4.out.size)); have P5 := Lib.hid (hp5.down (D' := w.heap.size) (by have := B4.out.size; have := HD.out; omega)); clear hb5 hp5))
            go_ret
            exact ⟨_, rfl, P5.out, below_of_box (by rw [HW.out, HD.out]; exact BB.out.trans (B5.out.mono (by omega)))⟩
        · go_wp2
          obtain ⟨wo, rfl⟩ : ∃ x, x = wr := ⟨_, rfl⟩
          have HO := Lib.hid (show wo.ownsRow D 3 1 (.slice (some ⟨q, 0, none⟩) L cap) L ((lstF (addF m S F lf G 0) L).map (.int .i64)) by rw [add_zero]; exact OW.out)
          clear OW
          go_loopg [23] lg (fun g i wr => ∃ k : Nat, k ≤ lg ∧ lg ≤ k + g ∧ i = .int .i64 k ∧ wr.ownsRow D 3 1 (.slice (some ⟨q, 0, none⟩) L cap) L ((lstF (addF m S F lf G k) L).map (.int .i64)) ∧ Below D W wr)
          case atStart => exact ⟨0, Nat.zero_le _, by omega, rfl, HO.out, BB.out⟩
          case round =>
            obtain ⟨k, hk, hgk, rfl, hown, hb⟩ := hrel
            have OK := Lib.hid hown
            have BK := Lib.hid hb
            have hszk := hb.size
            clear hown hb
            by_cases hkl : k < lg
            · have hki : (k : Int) < (lg : Int) := by omega
              have hkL : k < L := by omega
              obtain ⟨b, off, rfl, hbb⟩ := lstF_addr G0.out (by omega)
              have G1 := Lib.hid (G0.out.below (hsW ▸ BK.out) (Nat.le_refl _))
              have gc := lstF_cell G1.out hkl
              have hgm := HG'.out k hkl
              have hxm := EX.out k
              obtain ⟨y, hy⟩ : ∃ y, G k = y := ⟨_, rfl⟩
              obtain ⟨x, hx⟩ : ∃ x, exF F lf k = x := ⟨_, rfl⟩
              rw [hy] at gc hgm
              rw [hx] at hxm
              have HN := Lib.hid (show putF (addF m S F lf G k) k (S (x * m + y)) = addF m S F lf G (k + 1) by rw [← hx, ← hy]; exact add_put)
              have hce := OK.out.cellAt k (by omega)
              rw [lstV_get hkL, add_at, hx] at hce
              clear hy hx
              go_wp2_with (fail)
              refine wp_region_makers 10 (fun _ => false) (fun _ _ _ => True) (fun _ _ => True) (fun _ => undef) probe (by kernel_rfl) (by kernel_rfl) (fun _ _ _ _ _ _ => trivial) (fun _ _ _ _ _ => trivial) (fun _ _ => trivial) ?_
              intro V hV vs _
              have cV : ∃ x, extC V x := ⟨V, extC_of (Below.refl _ _)⟩
              have BV := Lib.hid (BK.out.trans (hV.mono (by omega)))
              have RV := Lib.hid (R0.out.next (hsW ▸ BV.out))
              have p0 := (BV.out.cell (p := ⟨w.heap.size, 0, none⟩) (by rw [← HD.out]; simp)).trans c0
              have p1 := (BV.out.cell (p := ⟨w.heap.size, 1, none⟩) (by rw [← HD.out]; simp)).trans c1
              have p2 := (BV.out.cell (p := ⟨w.heap.size, 2, none⟩) (by rw [← HD.out]; simp)).trans c2
              have p3 := (BV.out.cell (p := ⟨w.heap.size, 3, none⟩) (by rw [← HD.out]; simp)).trans c3
              have OV := Lib.hid (own_nextK OK.out hV)
              have hcv := OV.out.cellAt k (by omega)
              rw [← OK.out.cellAt k (by omega), hce] at hcv
              have HCE := Lib.hid hce
              clear hV gc hce
              simp only [List.take_succ_cons, List.take_zero, List.drop_succ_cons, List.drop_zero]
              refine wpV_quiet cV 10 0 _ _ (by decide) (by decide) ?_
              simp only [List.take_succ_cons, List.take_zero, List.drop_succ_cons, List.drop_zero]
              repeat (go_big_quiet_step (first
                | (go_at_call 58; with_reducible refine calls_ext (l1Add_any x y m e b1 o1 la ca b2 o2 lb cb S P _ (RV.out.next (ext_below _ _)) hxm hgm))))
              refine wpQuiet_nil ?_
              refine wpV_nil ?_
              intro w4 hb4 _ _
              have B4 := Lib.hid (BK.out.trans (hb4.mono (by omega)))
              have O4 := Lib.hid (own_nextK OK.out hb4)
              have hc4 := O4.out.cellAt k (by omega)
              rw [← OK.out.cellAt k (by omega), HCE.out] at hc4
              have hf4 := O4.out.frozenAt k
              clear hcv hb4 p0 p1 p2 p3
              go_wp2
              go_roundg (lg - (k + 1))
              case measure => omega
              case rel => exact ⟨k + 1, by omega, by omega, by go_num, by rw [← HN.out, ← lstV_set hkL]; exact (O4.out.stored k _).1, B4.out.setCell (by show D ≤ q; exact hq) _⟩
            · have hki : ¬ (k : Int) < (lg : Int) := by omega
              have hkk : k = lg := by omega
              subst hkk
              have PV := Lib.hid (PolV.of_row OK.out (by omega))
              go_wp2_with (go_at_call 60; ((with_reducible refine (l9Trim_any D _ L (addF m S F lf G k) _ PV.out).mono ?_); rintro e5 w5 ⟨v5, rfl, hp5, hb5⟩; have B5 := Lib.hid (BK.out.trans (hb5.mono (by omega))); have P5 := Lib.hid (hp5.down (D' := w.heap.size) (by have := HD.out; omega)); clear hb5 hp5))
              go_ret
              exact ⟨_, rfl, by rw [hmax]; exact P5.out, below_of_box (by rw [HW.out, HD.out]; exact B5.out)⟩

end Go.Proofs.Ytkjanhcajopfhaa



/- An append whose element a call makes, in one region that draws its order: the places of call, slice and append as letters. -/
namespace Go.Proofs.Ytkjanhcajopfhaa
open Go.RowKit
set_option maxRecDepth 100000

section
variable {row : Option Nat} {ic ia ib D D0 k c : Nat} {f : Nat → Nat}
end
/-- A struct is loaded whole in a region that draws its order. -/
theorem wpQuiet_load_rowP {P : Program} {ops : Array Oper} {C : World → Prop} {Q : Act → Prop} {rest : List Oper} {o : Oper} {a : Act} (hgd : o.guard = none) (ty : TypeId) (x : Operand) (ho : o.op = .load ty x)
    (g : Nat) (hx : a.eval x = .pointer (some ⟨g, 0, none⟩)) (t : TypeId) (cs : Array Value) (d : TypeDesc) (hg : ∀ w, C w → w.heap[g]? = some (.cells cs t (0, 0)))
    (hu : P.underlying ty = some d) (hd : (match d with | .struct _ | .array _ _ => true | _ => false) = true) (hi : (P.info? ty).map (·.size) = some cs.size)
    (h : wpQuiet P ops C Q rest (a.put o.dst (.agg cs))) : wpQuiet P ops C Q (o :: rest) a := by
  unfold wpQuiet
  rw [if_pos (by simp [Region.wanted, hgd])]
  refine ⟨.agg cs, fun w hw => ?_, h⟩
  unfold Oper.quietAt execOp
  simp only [ho, hx, Instr.loadAt, Instr.sureAddr, Sem.run_bind, Sem.run_pure, Result.andThen_ok, run_loadVar_row w g t ty cs (0, 0) d (hg w hw) hu hd hi]
  exact ⟨rfl, rfl⟩

end Go.Proofs.Ytkjanhcajopfhaa



/- The reading side's l9Mul. -/
namespace Go.Proofs.Ytkjanhcajopfhaa
open Go.RowKit
set_option maxRecDepth 100000

theorem mul_in {k lf lg : Nat} (h : k < lf) : k * lg + lg ≤ lf * lg := by
  rw [← Nat.succ_mul]
  exact Nat.mul_le_mul_right _ h

set_option maxHeartbeats 4000000 in
theorem l9Mul_any (F G : Nat → Nat) (E K : Option Addr) (lf lg cf cg : Nat) (m e b1 o1 la ca b2 o2 lb cb : Nat) (S P : Nat → Nat) (w : World) (hr : RingAt w m e b1 o1 la ca b2 o2 lb cb S P) (hF : Ints w w.heap.size E lf (lstF F lf)) (hG : Ints w w.heap.size K lg (lstF G lg)) (hlf : lf ≤ 100) (hlg : lg ≤ 100) (hf : ∀ i, i < lf → F i < m) (hg : ∀ i, i < lg → G i < m) :
    Calls Try.prog 54 #[.agg #[.int .i64 m, .int .i64 e, .slice (some ⟨b1, o1, none⟩) la ca, .slice (some ⟨b2, o2, none⟩) lb cb], .slice E lf cf, .slice K lg cg] w fun e' w' => ∃ v, e' = .returned v ∧ PolV w.heap.size w' v (tlN (mulF m S P F G lg (lf * lg)) (lf + lg)) (mulF m S P F G lg (lf * lg)) ∧ Below w.heap.size w w' := by
  obtain ⟨i0, hi, hz0, hz1, hz2⟩ := info_parts int_info
  have HF' := Lib.hid hf
  have HG' := Lib.hid hg
  have ML := Lib.hid (mul_lt (m := m) (S := S) (P := P) hr.hm (fun k hk => (hr.ts.2 k hk).2) (fun k hk => (hr.tp.2 k hk).2) hf hg)
  have HP := Lib.hid (show ∀ a b, a < m → b < m → P (a * m + b) < m from fun a b ha hb => hr.tp.lt ha hb)
  obtain ⟨D, hD⟩ : ∃ D, w.heap.size + 1 = D := ⟨_, rfl⟩
  have b0 : Below w.heap.size w (w.alloc (.cells #[.int .i64 m, .int .i64 e, .slice (some ⟨b1, o1, none⟩) la ca, .slice (some ⟨b2, o2, none⟩) lb cb] 27)) := (Below.refl _ _).alloc (Nat.le_refl _) _
  have R0 := Lib.hid (hr.next b0)
  have F0 := Lib.hid (hF.next b0)
  have G0 := Lib.hid (hG.next b0)
  have HD := Lib.hid hD
  obtain ⟨c0, c1, c2, c3, hs⟩ := box4_new w (.int .i64 m) (.int .i64 e) (.slice (some ⟨b1, o1, none⟩) la ca) (.slice (some ⟨b2, o2, none⟩) lb cb) 27
  obtain ⟨W, hW⟩ : ∃ W, w.alloc (.cells #[.int .i64 m, .int .i64 e, .slice (some ⟨b1, o1, none⟩) la ca, .slice (some ⟨b2, o2, none⟩) lb cb] 27) = W := ⟨_, rfl⟩
  rw [hW] at R0 F0 G0 c0 c1 c2 c3 hs
  have HW := Lib.hid hW
  have hsW : W.heap.size = D := by rw [← hW, ← hD]; simp
  have tl : (lf : Int) + lg = ((lf + lg : Nat) : Int) := by omega
  have TL := Lib.hid tl
  have tw : IntKind.i64.wrap ((lf : Int) + lg) = (lf : Int) + lg := IntWalk.i64_in _ (by omega)
  clear hr hF hG b0 hW hD hf hg tl
  go_enter Try.func54, Try.ntmps54
  go_wp2_with (at_make; rw [HW.out]; refine wpList_make_full _ rfl _ _ 22 rfl D 3 i0 (.int .i64 0) 1 Try.underlying22 hi hz0 hz1 .i64 .i64 _ _ (lf + lg) rfl rfl TL.out TL.out (by rw [hz2]; omega) (by unfold maxLen; omega) (by omega) ?_; intro w1 hown1 hg1)
  have B1 := Lib.hid (show Below D W w1 from (Below.refl _ _).grown hg1 (by omega) (by simp))
  have hqD : D ≤ D := Nat.le_refl _
  have O1 := Lib.hid (show w1.ownsRow D 3 1 (.slice (some ⟨D, 0, none⟩) (lf + lg) (lf + lg)) (lf + lg) ((lstF (mulF m S P F G lg (0 * lg)) (lf + lg)).map (.int .i64)) by
    rw [Nat.zero_mul, show mulF m S P F G lg 0 = fun _ => 0 from rfl, ← lstV_made, ← hsW]; rw [← hsW] at hown1; exact hown1)
  clear hown1 hg1
  go_wp2_with (fail)
  go_loopg [20] lf (fun g i wr => ∃ k : Nat, k ≤ lf ∧ lf ≤ k + g ∧ i = .int .i64 k ∧ wr.ownsRow D 3 1 (.slice (some ⟨D, 0, none⟩) (lf + lg) (lf + lg)) (lf + lg) ((lstF (mulF m S P F G lg (k * lg)) (lf + lg)).map (.int .i64)) ∧ Below D W wr)
  case atStart => exact ⟨0, Nat.zero_le _, by omega, rfl, O1.out, B1.out⟩
  case round =>
    obtain ⟨k, hk, hgk, rfl, hown, hb⟩ := hrel
    have OK := Lib.hid hown
    have BK := Lib.hid hb
    have hszk := hb.size
    clear hown hb
    by_cases hkl : k < lf
    · have hki : (k : Int) < (lf : Int) := by omega
      obtain ⟨bf, of, rfl, hbf⟩ := lstF_addr F0.out (by omega)
      have FK := Lib.hid (F0.out.below (hsW ▸ BK.out) (Nat.le_refl _))
      have fc := lstF_cell FK.out hkl
      have hfm := HF'.out k hkl
      have MI := Lib.hid (mul_in (lg := lg) hkl)
      obtain ⟨x, hx⟩ : ∃ x, F k = x := ⟨_, rfl⟩
      rw [hx] at fc hfm
      have HX := Lib.hid hx
      obtain ⟨z, hz⟩ : ∃ z, k * lg = z := ⟨_, rfl⟩
      have HZ := Lib.hid hz
      have OZ := Lib.hid (show wr.ownsRow D 3 1 (.slice (some ⟨D, 0, none⟩) (lf + lg) (lf + lg)) (lf + lg) ((lstF (mulF m S P F G lg (z + 0)) (lf + lg)).map (.int .i64)) by rw [Nat.add_zero, ← hz]; exact OK.out)
      clear OK hx hz
      obtain ⟨wo, rfl⟩ : ∃ x, x = wr := ⟨_, rfl⟩
      go_wp2
      go_loopg [27] lg (fun g i wr => ∃ j : Nat, j ≤ lg ∧ lg ≤ j + g ∧ i = .int .i64 j ∧ wr.ownsRow D 3 1 (.slice (some ⟨D, 0, none⟩) (lf + lg) (lf + lg)) (lf + lg) ((lstF (mulF m S P F G lg (z + j)) (lf + lg)).map (.int .i64)) ∧ Below D W wr)
      case atStart => exact ⟨0, Nat.zero_le _, by omega, rfl, OZ.out, BK.out⟩
      case round =>
        obtain ⟨j, hj, hgj, rfl, hown, hb⟩ := hrel
        have OJ := Lib.hid hown
        have BJ := Lib.hid hb
        have hszj := hb.size
        clear hown hb
        by_cases hjl : j < lg
        · have hji : (j : Int) < (lg : Int) := by omega
          have hL : k + j < lf + lg := by omega
          have hti : (k : Int) + j < ((lf + lg : Nat) : Int) := by omega
          have htj : (k : Int) + j < (lf : Int) + lg := by omega
          have tkj : IntKind.i64.wrap ((k : Int) + j) = (k : Int) + j := IntWalk.i64_in _ (by omega)
          have tz : (0 : Int) ≤ (k : Int) + j := by omega
          have tn : ((k : Int) + j).toNat = k + j := by omega
          obtain ⟨bg, og, rfl, hbg⟩ := lstF_addr G0.out (by omega)
          have GJ := Lib.hid (G0.out.below (hsW ▸ BJ.out) (Nat.le_refl _))
          have gc := lstF_cell GJ.out hjl
          have hgm := HG'.out j hjl
          have hcm := ML.out (z + j) (by have := MI.out; have := HZ.out; omega) (k + j)
          have hpp := HP.out x (G j) hfm hgm
          obtain ⟨y, hy⟩ : ∃ y, G j = y := ⟨_, rfl⟩
          obtain ⟨v, hv⟩ : ∃ v, mulF m S P F G lg (z + j) (k + j) = v := ⟨_, rfl⟩
          rw [hy] at gc hgm hpp
          rw [hv] at hcm
          have HN := Lib.hid (show putF (mulF m S P F G lg (z + j)) (k + j) (S (v * m + P (x * m + y))) = mulF m S P F G lg (z + (j + 1)) by
            rw [← hv, ← hy, ← HX.out, ← HZ.out]
            exact mul_put hjl)
          have hce := OJ.out.cellAt (k + j) (by omega)
          rw [lstV_get hL, hv] at hce
          clear hy hv
          go_wp2_with (fail)
          refine wp_region_makers 17 (fun _ => false) (fun _ _ _ => True) (fun _ _ => True) (fun _ => undef) probe (by kernel_rfl) (by kernel_rfl) (fun _ _ _ _ _ _ => trivial) (fun _ _ _ _ _ => trivial) (fun _ _ => trivial) ?_
          intro V hV vs _
          have cV : ∃ x, extC V x := ⟨V, extC_of (Below.refl _ _)⟩
          have BV := Lib.hid (BJ.out.trans (hV.mono (by omega)))
          have RV := Lib.hid (R0.out.next (hsW ▸ BV.out))
          have p0 := (BV.out.cell (p := ⟨w.heap.size, 0, none⟩) (by rw [← HD.out]; simp)).trans c0
          have p1 := (BV.out.cell (p := ⟨w.heap.size, 1, none⟩) (by rw [← HD.out]; simp)).trans c1
          have p2 := (BV.out.cell (p := ⟨w.heap.size, 2, none⟩) (by rw [← HD.out]; simp)).trans c2
          have p3 := (BV.out.cell (p := ⟨w.heap.size, 3, none⟩) (by rw [← HD.out]; simp)).trans c3
          have OV := Lib.hid (own_nextK OJ.out hV)
          have hcv := OV.out.cellAt (k + j) (by omega)
          rw [← OJ.out.cellAt (k + j) (by omega), hce] at hcv
          have HCE := Lib.hid hce
          clear hV gc hce fc
          simp only [List.take_succ_cons, List.take_zero, List.drop_succ_cons, List.drop_zero]
          refine wpV_quiet cV 17 0 _ _ (by decide) (by decide) ?_
          simp only [List.take_succ_cons, List.take_zero, List.drop_succ_cons, List.drop_zero]
          repeat (go_big_quiet_step (first
            | (go_at_call 57; with_reducible refine calls_ext (l1Mul_any x y m e b1 o1 la ca b2 o2 lb cb S P _ (RV.out.next (ext_below _ _)) hfm hgm))
            | (go_at_call 58; with_reducible refine calls_ext (l1Add_any v (P (x * m + y)) m e b1 o1 la ca b2 o2 lb cb S P _ (RV.out.next (ext_below _ _)) hcm hpp))))
          refine wpQuiet_nil ?_
          refine wpV_nil ?_
          intro w4 hb4 _ _
          have B4 := Lib.hid (BJ.out.trans (hb4.mono (by omega)))
          have O4 := Lib.hid (own_nextK OJ.out hb4)
          have hc4 := O4.out.cellAt (k + j) (by omega)
          rw [← OJ.out.cellAt (k + j) (by omega), HCE.out] at hc4
          have hf4 := O4.out.frozenAt (k + j)
          clear hcv hb4 p0 p1 p2 p3
          go_wp2
          go_roundg (lg - (j + 1))
          case measure => omega
          case rel => exact ⟨j + 1, by omega, by omega, by go_num, by rw [← HN.out, ← lstV_set hL]; exact (O4.out.stored (k + j) _).1, B4.out.setCell (by show D ≤ D; exact hqD) _⟩
        · have hji : ¬ (j : Int) < (lg : Int) := by omega
          have HJ := Lib.hid (show z + j = (k + 1) * lg by rw [show j = lg by omega, ← HZ.out, Nat.succ_mul])
          go_wp2
          go_roundg (lf - (k + 1))
          case measure => omega
          case rel => exact ⟨k + 1, by omega, by omega, by go_num, by rw [← HJ.out]; exact OJ.out, BJ.out⟩
    · have hki : ¬ (k : Int) < (lf : Int) := by omega
      have hkk : k = lf := by omega
      have OL := Lib.hid (show wr.ownsRow D 3 1 (.slice (some ⟨D, 0, none⟩) (lf + lg) (lf + lg)) (lf + lg) ((lstF (mulF m S P F G lg (lf * lg)) (lf + lg)).map (.int .i64)) by rw [show lf * lg = k * lg by rw [hkk]]; exact OK.out)
      clear OK hkk
      have PV := Lib.hid (PolV.of_row OL.out (by omega))
      go_wp2_with (go_at_call 60; ((with_reducible refine (l9Trim_any D _ (lf + lg) (mulF m S P F G lg (lf * lg)) _ PV.out).mono ?_); rintro e5 w5 ⟨v5, rfl, hp5, hb5⟩; have B5 := Lib.hid (BK.out.trans (hb5.mono (by omega))); have P5 := Lib.hid (hp5.down (D' := w.heap.size) (by have := HD.out; omega)); clear hb5 hp5))
      go_ret
      exact ⟨_, rfl, P5.out, below_of_box (by rw [HW.out, HD.out]; exact B5.out)⟩

end Go.Proofs.Ytkjanhcajopfhaa



/- The reading side's l9Derived. -/
namespace Go.Proofs.Ytkjanhcajopfhaa
open Go.RowKit Go.Shelf
set_option maxRecDepth 100000

end Go.Proofs.Ytkjanhcajopfhaa

