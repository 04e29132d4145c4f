/- Texts of this seat in one: FA FB FC FD FE FF FG. -/
import Derived.Test.YtahdkdpliphcnaaMB
import Derived.Test.YtahdkdpliphcnaaMG
import Derived.Laws.AppendOwnNone
import Derived.Lib.BufferMore
import Derived.Test.YtahdkdpliphcnaaMC
import Derived.Test.YtahdkdpliphcnaaMQ

/- Plain facts: polynomials as functions of coefficients: values, sums, products, derivatives, what the laws hand back. No program in sight. -/
namespace Go.Proofs.Ytahdkdpliphcnaa
open Go.RowKit

/-- The coefficients without zeros at the end: how many. -/
def tlN (F : Nat → Nat) : Nat → Nat
  | 0 => 0
  | l + 1 => if F l = 0 then tlN F l else l + 1
/-- The list of the first coefficients. -/
def lstF (F : Nat → Nat) (l : Nat) : List Int := (List.range l).map fun i => ((F i : Nat) : Int)
def exF (F : Nat → Nat) (l i : Nat) : Nat := if i < l then F i else 0
/-- The sums of the first k coefficients of the second one with those of the first one. -/
def addF (m : Nat) (S : Nat → Nat) (F : Nat → Nat) (lf : Nat) (G : Nat → Nat) (k i : Nat) : Nat := if i < k then S (exF F lf i * m + G i) else exF F lf i
section
variable {m l k a : Nat} {S P F G : Nat → Nat}
theorem tl_zero (h : F l = 0) : tlN F (l + 1) = tlN F l := if_pos h
theorem tl_top (h : F l ≠ 0) : tlN F (l + 1) = l + 1 := if_neg h
theorem tl_last : ∀ l, tlN F l ≠ 0 → F (tlN F l - 1) ≠ 0
  | 0 => fun h => absurd rfl h
  | l + 1 => fun h => by
    by_cases h0 : F l = 0
    · rw [tl_zero h0] at h ⊢; exact tl_last l h
    · rw [tl_top h0]; exact h0
theorem lstF_len : (lstF F l).length = l := by simp [lstF]
theorem lstF_get {i : Nat} (h : i < l) : (lstF F l)[i]? = some ((F i : Nat) : Int) := by
  unfold lstF
  rw [List.getElem?_map, List.getElem?_range h]
  rfl
theorem lstF_congr (h : ∀ i, i < l → F i = G i) : lstF F l = lstF G l := List.map_congr_left fun i hi => by rw [h i (List.mem_range.1 hi)]
theorem lstF_tab {i : Nat} (h : i < l) : tabOf (lstF F l) i = F i := by unfold tabOf; rw [lstF_get h]; simp
theorem lstF_of {Z : List Int} (h : ∀ i, i < Z.length → Z[i]?.getD 0 = (tabOf Z i : Int)) : lstF (tabOf Z) Z.length = Z := by
  apply List.ext_getElem?
  intro i
  rcases Nat.lt_or_ge i Z.length with hi | hi
  · rw [lstF_get hi, ← h i hi, List.getElem?_eq_getElem hi]; rfl
  · rw [List.getElem?_eq_none hi, List.getElem?_eq_none (by rw [lstF_len]; exact hi)]
theorem add_zero : addF m S F l G 0 = exF F l := funext fun i => if_neg (by omega)
end

end Go.Proofs.Ytahdkdpliphcnaa



/- Plain facts: division of polynomials: both sides' ways, and that they come to the same. No program in sight. -/
namespace Go.Proofs.Ytahdkdpliphcnaa
open Go.RowKit

def ngN (m : Nat) (S : Nat → Nat) (a : Nat) : Nat := (negN m S a).toNat
def putF (F : Nat → Nat) (k v : Nat) : Nat → Nat := fun i => if i = k then v else F i
/-- The reading side: the rest with k of a row's products taken away from the place at. -/
def subF (m : Nat) (S P : Nat → Nat) (G : Nat → Nat) (at_ t : Nat) (R : Nat → Nat) (k : Nat) : Nat → Nat := fun i => if at_ ≤ i ∧ i < at_ + k then S (R i * m + ngN m S (P (t * m + G (i - at_)))) else R i
def topT (m : Nat) (P : Nat → Nat) (inv lg at_ : Nat) (R : Nat → Nat) : Nat := P (R (at_ + lg - 1) * m + inv)
/-- The rest and the quotient behind d rounds, from the place lf - lg down. -/
def divR (m : Nat) (S P : Nat → Nat) (F : Nat → Nat) (lf : Nat) (G : Nat → Nat) (lg inv : Nat) : Nat → Nat → Nat
  | 0 => F
  | d + 1 => subF m S P G (lf - lg - d) (topT m P inv lg (lf - lg - d) (divR m S P F lf G lg inv d)) (divR m S P F lf G lg inv d) lg
def divO (m : Nat) (S P : Nat → Nat) (F : Nat → Nat) (lf : Nat) (G : Nat → Nat) (lg inv : Nat) : Nat → Nat → Nat
  | 0 => fun _ => 0
  | d + 1 => putF (divO m S P F lf G lg inv d) (lf - lg - d) (topT m P inv lg (lf - lg - d) (divR m S P F lf G lg inv d))
/-- The program's way: quotient and rest, without zeros at the end. -/
structure DSt where
  Q : Nat → Nat
  q : Nat
  R : Nat → Nat
  r : Nat
section
variable {m e lf lg inv d : Nat} {S P F G : Nat → Nat}
theorem RTab.S0 (R : RTab m S P e) {a : Nat} (ha : a < m) : S (a * m + 0) = a := R.s.zero ha
theorem RTab.S1 (R : RTab m S P e) {a : Nat} (ha : a < m) : S (0 * m + a) = a := by rw [R.s.comm R.hm ha]; exact R.s.zero ha
theorem RTab.P0 (R : RTab m S P e) {a : Nat} (ha : a < m) : P (0 * m + a) = 0 := congrArg Fin.val (R.T0 ⟨a, ha⟩)
theorem RTab.ng_lt (R : RTab m S P e) {a : Nat} (ha : a < m) : ngN m S a < m := by
  obtain ⟨c, hc, e1, _⟩ := R.negEx ha
  unfold ngN
  rw [e1]; simpa using hc
theorem RTab.ng_sum (R : RTab m S P e) {a : Nat} (ha : a < m) : S (a * m + ngN m S a) = 0 := by
  obtain ⟨c, hc, e1, e2⟩ := R.negEx ha
  unfold ngN
  rw [e1]; simpa using e2
theorem RTab.ng_zero (R : RTab m S P e) : ngN m S 0 = 0 := by
  have h := R.ng_sum R.hm
  rwa [R.S1 (R.ng_lt R.hm)] at h
/-- What both sides hold: d rounds of the reading side, the program's state. -/
structure DInv (m : Nat) (S P : Nat → Nat) (F : Nat → Nat) (lf : Nat) (G : Nat → Nat) (lg inv d : Nat) (s : DSt) : Prop where
  dn : d ≤ lf + 1 - lg
  rl : s.r + d ≤ lf
  rb : ∀ i, i < s.r → s.R i < m
  re : ∀ i, i < s.r → s.R i = divR m S P F lf G lg inv d i
  rz : ∀ i, s.r ≤ i → i < lf → divR m S P F lf G lg inv d i = 0
  rt : s.r ≠ 0 → s.R (s.r - 1) ≠ 0
  ql : s.q ≤ lf + 1 - lg
  qb : ∀ i, i < s.q → s.Q i < m
  qe : ∀ i, i < s.q → s.Q i = divO m S P F lf G lg inv d i
  qz : ∀ i, s.q ≤ i → divO m S P F lf G lg inv d i = 0
  qt : s.q ≠ 0 → s.Q (s.q - 1) ≠ 0
  qd : ∀ i, i + d < lf + 1 - lg → divO m S P F lf G lg inv d i = 0

theorem DInv.start (hF : ∀ i, i < lf → F i < m) (ht : tlN F lf = lf) : DInv m S P F lf G lg inv 0 ⟨fun _ => 0, 0, F, lf⟩ := by
  refine ⟨Nat.zero_le _, Nat.le_refl _, hF, fun i _ => rfl, fun i h1 h2 => absurd h2 (Nat.not_lt.2 h1), fun h => ?_, Nat.zero_le _, fun i h => absurd h (Nat.not_lt_zero _), fun i h => absurd h (Nat.not_lt_zero _), fun i _ => rfl, fun h => absurd rfl h, fun i _ => rfl⟩
  have := tl_last (F := F) lf (by rw [ht]; exact h)
  rwa [ht] at this

theorem sub_zero (R : RTab m S P e) (hG : ∀ i, i < lg → G i < m) {at_ : Nat} {T : Nat → Nat} (hT : ∀ i, i < lf → T i < m) (_hl : at_ + lg ≤ lf) : ∀ i, i < lf → subF m S P G at_ 0 T lg i = T i := fun i hi => by
  unfold subF
  split
  · rename_i h
    rw [R.P0 (hG _ (by omega)), R.ng_zero, R.S0 (hT i hi)]
  · rfl

theorem divR_lt (R : RTab m S P e) (hF : ∀ i, i < lf → F i < m) (hG : ∀ i, i < lg → G i < m) (hi : inv < m) (hg : 1 ≤ lg) : ∀ d, d ≤ lf + 1 - lg → ∀ i, i < lf → divR m S P F lf G lg inv d i < m
  | 0 => fun _ i h => hF i h
  | d + 1 => fun hd i h => by
    have ih := divR_lt R hF hG hi hg d (by omega)
    show subF m S P G (lf - lg - d) (topT m P inv lg (lf - lg - d) (divR m S P F lf G lg inv d)) (divR m S P F lf G lg inv d) lg i < m
    unfold subF
    split
    · rename_i h1
      exact R.sc (ih i h) (R.ng_lt (R.pc (R.pc (ih _ (by omega)) hi) (hG _ (by omega))))
    · exact ih i h

/-- A round of the reading side at a place where there is nothing to take away. -/
theorem DInv.skip (R : RTab m S P e) (hF : ∀ i, i < lf → F i < m) (hG : ∀ i, i < lg → G i < m) (hi : inv < m) (hg : 1 ≤ lg) {s : DSt} (h : DInv m S P F lf G lg inv d s) (hd : d < lf + 1 - lg) (hr : s.r + d < lf) : DInv m S P F lf G lg inv (d + 1) s := by
  have ht : topT m P inv lg (lf - lg - d) (divR m S P F lf G lg inv d) = 0 := by
    unfold topT
    rw [h.rz _ (by omega) (by omega), R.P0 hi]
  have hR : ∀ i, i < lf → divR m S P F lf G lg inv (d + 1) i = divR m S P F lf G lg inv d i := fun i hil => by
    show subF m S P G (lf - lg - d) (topT m P inv lg (lf - lg - d) (divR m S P F lf G lg inv d)) (divR m S P F lf G lg inv d) lg i = _
    rw [ht]
    exact sub_zero R hG (divR_lt R hF hG hi hg d (by omega)) (by omega) i hil
  have hO : ∀ i, divO m S P F lf G lg inv (d + 1) i = divO m S P F lf G lg inv d i := fun i => by
    show putF (divO m S P F lf G lg inv d) (lf - lg - d) (topT m P inv lg (lf - lg - d) (divR m S P F lf G lg inv d)) i = _
    unfold putF
    split
    · rename_i hx
      rw [ht, hx, h.qd _ (by omega)]
    · rfl
  exact ⟨by omega, by omega, h.rb, fun i h1 => (h.re i h1).trans (hR i (by have := h.rl; omega)).symm, fun i h1 h2 => (hR i h2).trans (h.rz i h1 h2), h.rt, h.ql, h.qb, fun i h1 => (h.qe i h1).trans (hO i).symm, fun i h1 => (hO i).trans (h.qz i h1), h.qt, fun i h1 => (hO i).trans (h.qd i (by omega))⟩

end

end Go.Proofs.Ytahdkdpliphcnaa



/- PolyValid of both sides. -/
namespace Go.Proofs.Ytahdkdpliphcnaa
open Go.RowKit
set_option maxRecDepth 100000

section
variable {n o : Int} {X Y Z : List Int}
theorem pol_valid_size (h : validB n o X Y = true) : ∃ m : Nat, n = m ∧ 1 ≤ m ∧ m ≤ 16 := by
  unfold validB at h
  rw [Bool.and_eq_true] at h
  obtain ⟨m, e, h1, h2, h3, h4, _⟩ := fits_data h.1
  exact ⟨m, h1, h3, h4⟩
theorem ints_cell {w : World} {B n k : Nat} {A : Option Addr} {xs : List Int} (h : Ints w B A n xs) (hk : k < n) : ∃ b off, A = some ⟨b, off, none⟩ ∧ b < B ∧ w.cell? ⟨b, off + k, none⟩ = some (.int .i64 (xs[k]?.getD 0)) := by
  obtain ⟨b, off, e, h1, h2⟩ := h.2 (by omega)
  have hl := h.1
  refine ⟨b, off, e, h1, h2 k _ ?_⟩
  rw [List.getElem?_eq_getElem (by omega)]
  rfl
end

end Go.Proofs.Ytahdkdpliphcnaa



/- Coefficients in memory; Clone; the reading side's l9Trim and l9At. -/
namespace Go.Proofs.Ytahdkdpliphcnaa
open Go.RowKit
set_option maxRecDepth 100000

/-- Coefficients whose memory is the call's own. -/
def PolV (D : Nat) (w : World) (v : Value) (l : Nat) (F : Nat → Nat) : Prop := ∃ (A : Option Addr) (c : Nat), v = .slice A l c ∧ Own w D A l (lstF F l) ∧ l ≤ c ∧ l ≤ 1000 ∧ ((A = none ∧ c = 0) ∨ ∃ b off, A = some ⟨b, off, none⟩)
theorem PolV.out {D : Nat} {w : World} {v : Value} {l : Nat} {F : Nat → Nat} (h : PolV D w v l F) : SliceOut D w v (lstF F l) := by
  obtain ⟨A, c, e, h1, h2, h3, _⟩ := h
  exact ⟨A, l, c, e, h1, h2, by omega⟩
theorem PolV.next {D : Nat} {w w' : World} {v : Value} {l : Nat} {F : Nat → Nat} (h : PolV D w v l F) (hb : Below w.heap.size w w') : PolV D w' v l F := by
  obtain ⟨A, c, e, h1, h2, h3, h4⟩ := h
  exact ⟨A, c, e, h1.next hb, h2, h3, h4⟩
theorem PolV.down {D D' : Nat} {w : World} {v : Value} {l : Nat} {F : Nat → Nat} (h : PolV D w v l F) (hD : D' ≤ D) : PolV D' w v l F := by
  obtain ⟨A, c, e, h1, h2⟩ := h
  exact ⟨A, c, e, h1.down hD, h2⟩
theorem PolV.of_row {D : Nat} {w : World} {v : Value} {l : Nat} {F : Nat → Nat} {T : TypeId} (h : w.ownsRow D T 1 v l ((lstF F l).map (.int .i64))) (hl : l ≤ 1000) : PolV D w v l F := by
  rcases h.2 with ⟨rfl, h0⟩ | ⟨g, cap, cur, rfl, _, _, hc, _⟩
  · subst h0
    exact ⟨none, 0, rfl, Own.nil, Nat.le_refl _, by omega, .inl ⟨rfl, rfl⟩⟩
  · exact ⟨_, _, rfl, own_of_row h lstF_len, hc, hl, .inr ⟨g, 0, rfl⟩⟩
theorem PolV.nil {D : Nat} {w : World} {F : Nat → Nat} : PolV D w (.slice none 0 0) 0 F := ⟨none, 0, rfl, Own.nil, Nat.le_refl _, by omega, .inl ⟨rfl, rfl⟩⟩
/-- Fewer of them. -/
theorem Own.less {w : World} {D l k : Nat} {A : Option Addr} {F : Nat → Nat} (h : Own w D A l (lstF F l)) (hk : k ≤ l) : Own w D A k (lstF F k) :=
  ⟨lstF_len, fun hn => by
    obtain ⟨g, off, e, h1, h2, h3⟩ := h.2 (by omega)
    refine ⟨g, off, e, h1, h2, fun j hj => ?_⟩
    have := h3 j (by omega)
    rwa [lstF_get (by omega)] at this ⊢⟩
theorem ints_adds {w : World} {B n : Nat} {ad : Addr} {xs : List Int} (h : Ints w B (some ad) n xs) (j : Nat) (u : Value) (hj : (xs.map (Value.int .i64))[j]? = some u) : w.cell? (ad.add j) = some u := by
  rw [List.getElem?_map] at hj
  cases hq : xs[j]? with
  | none => rw [hq] at hj; cases hj
  | some y =>
    rw [hq] at hj
    simp only [Option.map_some, Option.some.injEq] at hj
    subst hj
    have hlt : j < xs.length := by
      rcases Nat.lt_or_ge j xs.length with h1 | h1
      · exact h1
      · rw [List.getElem?_eq_none h1] at hq; cases hq
    have hl := h.1
    obtain ⟨b, off, e', hb, hc⟩ := h.2 (by omega)
    simp only [Option.some.injEq] at e'
    subst e'
    have hadd : (⟨b, off, none⟩ : Addr).add j = ⟨b, off + j, none⟩ := by unfold Addr.add; split <;> simp_all
    rw [hadd]
    exact hc j y hq
theorem lstF_cell {w : World} {B b off l i : Nat} {F : Nat → Nat} (h : Ints w B (some ⟨b, off, none⟩) l (lstF F l)) (hi : i < l) : w.cell? ⟨b, off + i, none⟩ = some (.int .i64 ((F i : Nat) : Int)) := by
  obtain ⟨b', off', e, _, h2⟩ := h.2 (by omega)
  simp only [Option.some.injEq, Addr.mk.injEq, and_true] at e
  obtain ⟨rfl, rfl⟩ := e
  exact h2 i _ (lstF_get hi)
theorem lstF_addr {w : World} {B l : Nat} {A : Option Addr} {F : Nat → Nat} (h : Ints w B A l (lstF F l)) (hl : 0 < l) : ∃ b off, A = some ⟨b, off, none⟩ ∧ b < B := by
  obtain ⟨b, off, e, h1, _⟩ := h.2 hl
  exact ⟨b, off, e, h1⟩
theorem map_one {xs : List Int} : ∀ u ∈ xs.map (Value.int .i64), u.oneCell' = true := by
  intro u hu
  simp only [List.mem_map] at hu
  obtain ⟨y, _, rfl⟩ := hu
  rfl

theorem cloneP_any (E : Option Addr) (n cap C : Nat) (xs : List Int) (w : World) (hx : Ints w C E n xs) (hC : C ≤ w.heap.size) (hn' : n ≤ 1000) :
    Calls Try.prog 84 #[.slice E n cap] w fun e w' => ∃ v, e = .returned v ∧ w'.ownsRow w.heap.size 3 1 v n (xs.map (.int .i64)) ∧ Below w.heap.size w w' := by
  obtain ⟨i0, hi, hz0, hz1, hz2⟩ := info_parts int_info
  have hxl := hx.1
  cases E with
  | none =>
    have hn0 : n = 0 := by
      rcases Nat.eq_zero_or_pos n with h | h
      · exact h
      · obtain ⟨_, _, e, _⟩ := hx.2 h; cases e
    subst hn0
    obtain rfl := List.eq_nil_of_length_eq_zero hxl
    have hnil := Go.Lib.run_eql_slice_nil_nil (P := Try.prog) w 0 cap Try.underlying22
    clear hx
    go_enter Try.func84, Try.ntmps84
    go_wp2
    go_ret
    exact ⟨_, rfl, World.ownsRow_nil _ _ _ _, Below.refl _ _⟩
  | some ad =>
    have O0 := Lib.hid (own_lit_K (w := w) (base := w.heap.size) (e := 3) [] (Nat.le_refl _) (by unfold maxLen; simp))
    have B0 := Lib.hid ((Below.refl w.heap.size w).alloc (Nat.le_refl _) (.cells #[] 3))
    have hx2 : Ints (w.alloc (.cells #[] 3)) C (some ad) n xs := hx.below ((Below.refl _ w).alloc (Nat.le_refl _) _) hC
    have hcl := Lib.hid (ints_adds hx2)
    have hnil := Go.Lib.run_eql_slice_some_nil (P := Try.prog) w ad n cap Try.underlying22
    clear hx hx2
    go_enter Try.func84, Try.ntmps84
    go_wp2_with (at_builtin; refine wpList_append_own _ rfl _ _ 22 rfl w.heap.size 3 i0 (.int .i64 0) 1 8 Try.underlying22 hi hz0 hz1 hz2 rfl (by decide) _ _ _ rfl O0.out ad n cap (xs.map (.int .i64)) rfl (by simp [hxl]) hcl.out map_one (by unfold maxLen; simp; omega) (by simp; omega) (by simp) ?_; intro v3 w3 hown3 hg3 _)
    have B3 := Lib.hid (B0.out.grown hg3 (by simp) (fun k hk => (O0.out.lt k hk).1))
    have O3 := Lib.hid (show w3.ownsRow w.heap.size 3 1 v3 n (xs.map (.int .i64)) by simpa using hown3)
    clear hown3 hg3
    go_wp2
    go_ret
    exact ⟨_, rfl, O3.out, B3.out⟩

end Go.Proofs.Ytahdkdpliphcnaa



/- The reading side's l9Add. -/
namespace Go.Proofs.Ytahdkdpliphcnaa
open Go.RowKit
set_option maxRecDepth 100000

section
variable {F : Nat → Nat} {l k v : Nat}
theorem lstV_len : ((lstF F l).map (Value.int .i64)).length = l := by rw [List.length_map, lstF_len]
theorem lstV_get (h : k < l) : ((lstF F l).map (Value.int .i64))[k]? = some (.int .i64 ((F k : Nat) : Int)) := by
  rw [List.getElem?_map, lstF_get h]; rfl
theorem lstV_set (_ : k < l) : ((lstF F l).map (Value.int .i64)).set k (.int .i64 ((v : Nat) : Int)) = (lstF (putF F k v) l).map (Value.int .i64) := by
  apply List.ext_getElem?
  intro j
  rcases Nat.lt_or_ge j l with hj | hj
  · rw [List.getElem?_set, lstV_get hj, lstV_get hj, lstV_len]
    by_cases e : k = j
    · subst e; rw [if_pos rfl, if_pos hj]; unfold putF; rw [if_pos rfl]
    · rw [if_neg e]; unfold putF; rw [if_neg (fun h => e h.symm)]
  · rw [List.getElem?_eq_none (by rw [List.length_set, lstV_len]; exact hj), List.getElem?_eq_none (by rw [lstV_len]; exact hj)]
theorem lstV_made {n : Nat} : (madeCells (Value.int .i64 0).cells (n * 1)).toList = (lstF (fun _ => 0) n).map (Value.int .i64) := by
  apply List.ext_getElem?
  intro j
  by_cases hj : j < n
  · rw [lstV_get hj]
    simp [madeCells, Value.cells, hj, Nat.mod_one]
  · rw [List.getElem?_eq_none (by simp [madeCells]; omega), List.getElem?_eq_none (by rw [lstV_len]; omega)]
end

end Go.Proofs.Ytahdkdpliphcnaa



/- An append whose element a call makes, in one region that draws its order: the places of call, slice and append as letters. -/
namespace Go.Proofs.Ytahdkdpliphcnaa
open Go.RowKit
set_option maxRecDepth 100000

section
variable {row : Option Nat} {ic ia ib D D0 k c : Nat} {f : Nat → Nat}
end
/-- A struct is loaded whole in a region that draws its order. -/
theorem wpQuiet_load_rowP {P : Program} {ops : Array Oper} {C : World → Prop} {Q : Act → Prop} {rest : List Oper} {o : Oper} {a : Act} (hgd : o.guard = none) (ty : TypeId) (x : Operand) (ho : o.op = .load ty x)
    (g : Nat) (hx : a.eval x = .pointer (some ⟨g, 0, none⟩)) (t : TypeId) (cs : Array Value) (d : TypeDesc) (hg : ∀ w, C w → w.heap[g]? = some (.cells cs t (0, 0)))
    (hu : P.underlying ty = some d) (hd : (match d with | .struct _ | .array _ _ => true | _ => false) = true) (hi : (P.info? ty).map (·.size) = some cs.size)
    (h : wpQuiet P ops C Q rest (a.put o.dst (.agg cs))) : wpQuiet P ops C Q (o :: rest) a := by
  unfold wpQuiet
  rw [if_pos (by simp [Region.wanted, hgd])]
  refine ⟨.agg cs, fun w hw => ?_, h⟩
  unfold Oper.quietAt execOp
  simp only [ho, hx, Instr.loadAt, Instr.sureAddr, Sem.run_bind, Sem.run_pure, Result.andThen_ok, run_loadVar_row w g t ty cs (0, 0) d (hg w hw) hu hd hi]
  exact ⟨rfl, rfl⟩

end Go.Proofs.Ytahdkdpliphcnaa



/- The reading side's l9Mul. -/
namespace Go.Proofs.Ytahdkdpliphcnaa
open Go.RowKit
set_option maxRecDepth 100000

end Go.Proofs.Ytahdkdpliphcnaa

