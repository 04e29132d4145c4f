/- Texts of this seat in one: KM KN KP KQ KR KS KT. -/
import Derived.Test.YtcbodedpahdobaaMB
import Derived.Test.YtcbodedpahdobaaMN
import Derived.Deep.Cut
import Derived.Test.YtcbodedpahdobaaMO
import Derived.Test.YtcbodedpahdobaaMC

/- Partial maps between two tables, and what an image that is given leads to. -/
namespace Go.Proofs.Ytcbodedpahdobaa

/-- Partial maps between two tables. -/
abbrev PMap := Nat → Option Nat
def PExt (F G : PMap) : Prop := ∀ a x, F a = some x → G a = some x
def PWf (m m' : Nat) (F : PMap) : Prop := ∀ a x, F a = some x → a < m ∧ x < m'
/-- The sum and the product of two elements with images have theirs. -/
def Clo2 (m m' : Nat) (S P S' P' : Nat → Nat) (F : PMap) (c d : Nat) : Prop := ∀ x y, F c = some x → F d = some y → F (S (c * m + d)) = some (S' (x * m' + y)) ∧ F (P (c * m + d)) = some (P' (x * m' + y))
def CloF (m m' : Nat) (S P S' P' : Nat → Nat) (F : PMap) : Prop := ∀ c d, Clo2 m m' S P S' P' F c d
def updF (F : PMap) (a x : Nat) : PMap := fun i => if i = a then some x else F i
/-- What an image that is given leads to. -/
structure AsgOk (m m' : Nat) (S P S' P' : Nat → Nat) (F : PMap) (a x : Nat) (b : Bool) (G : PMap) : Prop where
  ext : PExt F G
  wf : PWf m m' G
  least : ∀ H, CloF m m' S P S' P' H → PWf m m' H → PExt F H → H a = some x → PExt G H ∧ b = true
  at_ : b = true → G a = some x
  new : b = true → ∀ c d, F c = none → Clo2 m m' S P S' P' G c d
section
variable {m m' : Nat} {S P S' P' : Nat → Nat} {F G G1 H : PMap} {a x k c d : Nat} {b : Bool}
theorem PExt.refl : PExt F F := fun _ _ h => h
theorem PExt.trans (h : PExt F G) (h' : PExt G H) : PExt F H := fun a x e => h' a x (h a x e)
theorem PExt.back (h : PExt F G) (hx : F a = some x) {y : Nat} (hy : G a = some y) : y = x := by
  rw [h a x hx] at hy; exact (Option.some.inj hy).symm
theorem PExt.none (h : PExt F G) (hg : G a = none) : F a = none := by
  cases e : F a
  · rfl
  · rw [h a _ e] at hg; cases hg
theorem Clo2.lift (h : Clo2 m m' S P S' P' F c d) (he : PExt F G) (hc : F c ≠ .none) (hd : F d ≠ .none) : Clo2 m m' S P S' P' G c d := fun x y hx hy => by
  cases e1 : F c with
  | none => exact absurd e1 hc
  | some u => cases e2 : F d with
    | none => exact absurd e2 hd
    | some v =>
      rw [he.back e1 hx, he.back e2 hy]
      obtain ⟨h1, h2⟩ := h u v e1 e2
      exact ⟨he _ _ h1, he _ _ h2⟩
theorem Clo2.symm (hF : PWf m m' F) (c1 : ∀ a b, a < m → b < m → S (a * m + b) = S (b * m + a)) (c2 : ∀ a b, a < m → b < m → P (a * m + b) = P (b * m + a)) (c3 : ∀ a b, a < m' → b < m' → S' (a * m' + b) = S' (b * m' + a)) (c4 : ∀ a b, a < m' → b < m' → P' (a * m' + b) = P' (b * m' + a))
    (h : Clo2 m m' S P S' P' F c d) : Clo2 m m' S P S' P' F d c := fun x y hx hy => by
  obtain ⟨d1, x1⟩ := hF _ _ hx
  obtain ⟨d2, x2⟩ := hF _ _ hy
  obtain ⟨h1, h2⟩ := h y x hy hx
  rw [c1 d c d1 d2, c2 d c d1 d2, c3 x y x1 x2, c4 x y x1 x2]
  exact ⟨h1, h2⟩
/-- An element with an image. -/
theorem AsgOk.there (hF : PWf m m' F) {y : Nat} (hy : F a = some y) : AsgOk m m' S P S' P' F a x (decide (y = x)) F where
  ext := PExt.refl
  wf := hF
  least := fun H _ _ h1 h2 => ⟨h1, by have := h1 a y hy; rw [h2] at this; exact decide_eq_true (Option.some.inj this).symm⟩
  at_ := fun h => by rw [hy, of_decide_eq_true h]
  new := fun _ c d hc x' y' hx => by rw [hc] at hx; cases hx
/-- Within the loop over the elements. -/
structure AsgTo (m m' : Nat) (S P S' P' : Nat → Nat) (F1 : PMap) (a k : Nat) (G : PMap) : Prop where
  ext : PExt F1 G
  wf : PWf m m' G
  least : ∀ H, CloF m m' S P S' P' H → PWf m m' H → PExt F1 H → PExt G H
  new : ∀ c d, F1 c = none → Clo2 m m' S P S' P' G c d
  old : ∀ d, d < k → Clo2 m m' S P S' P' G a d
theorem updF_at : updF F a x a = some x := if_pos rfl
theorem updF_ne (h : c ≠ a) : updF F a x c = F c := if_neg h
theorem updF_ext (h : F a = none) : PExt F (updF F a x) := fun c y hc => by
  by_cases e : c = a
  · subst e; rw [h] at hc; cases hc
  · rw [updF_ne e]; exact hc
theorem updF_wf (hF : PWf m m' F) (ha : a < m) (hx : x < m') : PWf m m' (updF F a x) := fun c y hc => by
  by_cases e : c = a
  · subst e; rw [updF_at] at hc; injection hc with hc; subst hc; exact ⟨ha, hx⟩
  · rw [updF_ne e] at hc; exact hF c y hc
theorem AsgTo.start (hF : PWf m m' F) (ha : a < m) (hx : x < m') : AsgTo m m' S P S' P' (updF F a x) a 0 (updF F a x) where
  ext := PExt.refl
  wf := updF_wf hF ha hx
  least := fun _ _ _ h => h
  new := fun c d hc x' y' hx' => by rw [hc] at hx'; cases hx'
  old := fun d hd => absurd hd (by omega)
/-- A call within the round. -/
theorem AsgTo.call {u v : Nat} {F1 : PMap} (c1 : ∀ a b, a < m → b < m → S (a * m + b) = S (b * m + a)) (c2 : ∀ a b, a < m → b < m → P (a * m + b) = P (b * m + a)) (c3 : ∀ a b, a < m' → b < m' → S' (a * m' + b) = S' (b * m' + a)) (c4 : ∀ a b, a < m' → b < m' → P' (a * m' + b) = P' (b * m' + a))
    (h : AsgTo m m' S P S' P' F1 a k G) (ha : F1 a ≠ none) (hc : AsgOk m m' S P S' P' G u v true G1) (hu : ∀ H, CloF m m' S P S' P' H → PExt G H → H u = some v) : AsgTo m m' S P S' P' F1 a k G1 where
  ext := h.ext.trans hc.ext
  wf := hc.wf
  least := fun H h1 h2 h3 => (hc.least H h1 h2 (h.least H h1 h2 h3) (hu H h1 (h.least H h1 h2 h3))).1
  new := fun c d hF => by
    by_cases hg : G c = none
    · exact hc.new rfl c d hg
    · by_cases hd : G d = none
      · exact (hc.new rfl d c hd).symm hc.wf c1 c2 c3 c4
      · exact (h.new c d hF).lift hc.ext hg hd
  old := fun d hk => by
    have hga : G a ≠ none := fun e => ha (h.ext.none e)
    by_cases hd : G d = none
    · exact (hc.new rfl d a hd).symm hc.wf c1 c2 c3 c4
    · exact (h.old d hk).lift hc.ext hga hd
theorem AsgTo.next {F1 : PMap} (h : AsgTo m m' S P S' P' F1 a k G) (hk : Clo2 m m' S P S' P' G a k) : AsgTo m m' S P S' P' F1 a (k + 1) G where
  ext := h.ext
  wf := h.wf
  least := h.least
  new := h.new
  old := fun d hd => by
    by_cases e : d = k
    · subst e; exact hk
    · exact h.old d (by omega)
theorem AsgTo.skip {F1 : PMap} (h : AsgTo m m' S P S' P' F1 a k G) (hk : G k = none) : AsgTo m m' S P S' P' F1 a (k + 1) G := h.next fun x y _ hy => by rw [hk] at hy; cases hy
/-- Behind the loop. -/
theorem AsgTo.done (hF : F a = none) (h : AsgTo m m' S P S' P' (updF F a x) a m G) : AsgOk m m' S P S' P' F a x true G where
  ext := (updF_ext hF).trans h.ext
  wf := h.wf
  least := fun H h1 h2 h3 h4 => ⟨h.least H h1 h2 fun c y hc => by
    by_cases e : c = a
    · subst e; rw [updF_at] at hc; rw [h4, hc]
    · rw [updF_ne e] at hc; exact h3 c y hc, rfl⟩
  at_ := fun _ => h.ext a x updF_at
  new := fun _ c d hc => by
    by_cases e : c = a
    · subst e
      by_cases hd : d < m
      · exact h.old d hd
      · intro x' y' _ hy
        exact absurd (h.wf _ _ hy).1 hd
    · exact h.new c d (by rw [updF_ne e]; exact hc)
/-- A call that finds two images. -/
theorem AsgTo.fail {u v : Nat} (hF : F a = none) (h : AsgTo m m' S P S' P' (updF F a x) a k G) (hc : AsgOk m m' S P S' P' G u v false G1) (hu : ∀ H, CloF m m' S P S' P' H → PExt G H → H u = some v) : AsgOk m m' S P S' P' F a x false G1 where
  ext := (updF_ext hF).trans (h.ext.trans hc.ext)
  wf := hc.wf
  least := fun H h1 h2 h3 h4 => by
    have h5 : PExt (updF F a x) H := fun c y hc => by
      by_cases e : c = a
      · subst e; rw [updF_at] at hc; rw [h4, hc]
      · rw [updF_ne e] at hc; exact h3 c y hc
    have h6 := h.least H h1 h2 h5
    exact absurd (hc.least H h1 h2 h6 (hu H h1 h6)).2 (by simp)
  at_ := fun e => by cases e
  new := fun e => by cases e
/-- How many elements have no image. -/
def nonN (m : Nat) (F : PMap) : Nat := ((List.range m).filter fun i => (F i).isNone).length
theorem non_le : ∀ (l : List Nat), PExt F G → (l.filter fun i => (G i).isNone).length ≤ (l.filter fun i => (F i).isNone).length
  | [], _ => Nat.le_refl _
  | i :: l, h => by
    have ih := non_le l h
    have := h.none (a := i)
    cases h1 : F i <;> cases h2 : G i <;> simp_all <;> omega
theorem nonN_le (h : PExt F G) : nonN m G ≤ nonN m F := non_le _ h
theorem non_lt : ∀ (l : List Nat), F a = none → a ∈ l → (l.filter fun i => (updF F a x i).isNone).length < (l.filter fun i => (F i).isNone).length
  | [], _, ha => by cases ha
  | i :: l, h, ha => by
    by_cases e : i = a
    · subst e
      have := non_le l (updF_ext (x := x) h)
      simp [updF_at, h]
      omega
    · have ih := non_lt l h ((List.mem_cons.1 ha).resolve_left fun g => e g.symm)
      rw [List.filter_cons, List.filter_cons, updF_ne e]
      split <;> simp <;> omega
theorem nonN_lt (h : F a = none) (ha : a < m) : nonN m (updF F a x) < nonN m F := non_lt _ h (List.mem_range.2 ha)
theorem nonN_m : nonN m F ≤ m := by
  have := List.length_filter_le (fun i => (F i).isNone) (List.range m)
  simpa [nonN] using this
end
end Go.Proofs.Ytcbodedpahdobaa


/- Plain facts: the least subring with some elements, by partial maps that are the identity. No program in sight. -/
namespace Go.Proofs.Ytcbodedpahdobaa
open Go.RowKit

structure Sbr (m : Nat) (S P : Nat → Nat) (e : Nat) (q : Nat → Bool) : Prop where
  lt : ∀ i, q i = true → i < m
  o : q e = true
  s : ∀ i j, q i = true → q j = true → q (S (i * m + j)) = true
  t : ∀ i j, q i = true → q j = true → q (P (i * m + j)) = true
/-- The least subring with some elements. -/
noncomputable def subG (m : Nat) (S P : Nat → Nat) (e : Nat) (p : Nat → Bool) (x : Nat) : Bool := propB (x < m ∧ ∀ q, Sbr m S P e q → (∀ i, p i = true → q i = true) → q x = true)
def idq (q : Nat → Bool) : PMap := fun i => if q i = true then some i else none
section
variable {m e : Nat} {S P : Nat → Nat} {p q : Nat → Bool} {F G : PMap} {a x : Nat} {b : Bool}
theorem subG_iff : subG m S P e p x = true ↔ x < m ∧ ∀ q, Sbr m S P e q → (∀ i, p i = true → q i = true) → q x = true := propB_iff
theorem subG_lt (h : subG m S P e p x = true) : x < m := (subG_iff.1 h).1
theorem RTab.sub_all (R : RTab m S P e) : Sbr m S P e (fun i => decide (i < m)) where
  lt := fun _ h => of_decide_eq_true h
  o := decide_eq_true R.he
  s := fun _ _ hi hj => decide_eq_true (R.sc (of_decide_eq_true hi) (of_decide_eq_true hj))
  t := fun _ _ hi hj => decide_eq_true (R.pc (of_decide_eq_true hi) (of_decide_eq_true hj))
theorem RTab.sub_sbr (R : RTab m S P e) : Sbr m S P e (subG m S P e p) where
  lt := fun _ h => subG_lt h
  o := subG_iff.2 ⟨R.he, fun _ hq _ => hq.o⟩
  s := fun i j hi hj => subG_iff.2 ⟨R.sc (subG_lt hi) (subG_lt hj), fun q hq h => hq.s i j ((subG_iff.1 hi).2 q hq h) ((subG_iff.1 hj).2 q hq h)⟩
  t := fun i j hi hj => subG_iff.2 ⟨R.pc (subG_lt hi) (subG_lt hj), fun q hq h => hq.t i j ((subG_iff.1 hi).2 q hq h) ((subG_iff.1 hj).2 q hq h)⟩
theorem sub_le (hq : Sbr m S P e q) (h : ∀ i, p i = true → q i = true) (hx : subG m S P e p x = true) : q x = true := (subG_iff.1 hx).2 q hq h
theorem sub_ge (hp : ∀ i, p i = true → i < m) (hx : p x = true) : subG m S P e p x = true := subG_iff.2 ⟨hp x hx, fun _ _ h => h x hx⟩
theorem sub_eq (hq : Sbr m S P e q) (h : ∀ i, p i = true → q i = true) (hl : ∀ i, q i = true → subG m S P e p i = true) : q = subG m S P e p :=
  bool_ext fun i => ⟨hl i, fun hi => sub_le hq h hi⟩
/-- 0 is in each subring. -/
theorem RTab.sub_zero (R : RTab m S P e) (hq : Sbr m S P e q) : q 0 = true := by
  have h1 : ∀ k, q (seqT m S e (k + 1)) = true := fun k => by
    induction k with
    | zero => rw [seqT_one R.s R.hm R.he]; exact hq.o
    | succ k ih => exact hq.s _ _ ih hq.o
  have ho := R.ord R.he
  have h2 := h1 (ordN m S e - 1)
  rw [show ordN m S e - 1 + 1 = ordN m S e from by have := ho.1; omega, ho.2.2.1] at h2
  exact h2
theorem idq_yes (h : q a = true) : idq q a = some a := if_pos h
theorem idq_some (h : idq q a = some x) : q a = true ∧ x = a := by
  unfold idq at h
  split at h
  · injection h with h; exact ⟨by assumption, h.symm⟩
  · cases h
theorem idq_wf (hq : Sbr m S P e q) : PWf m m (idq q) := fun a x h => by
  obtain ⟨h1, rfl⟩ := idq_some h
  exact ⟨hq.lt _ h1, hq.lt _ h1⟩
theorem idq_clo (hq : Sbr m S P e q) : CloF m m S P S P (idq q) := fun c d x y hx hy => by
  obtain ⟨h1, rfl⟩ := idq_some hx
  obtain ⟨h2, rfl⟩ := idq_some hy
  exact ⟨idq_yes (hq.s _ _ h1 h2), idq_yes (hq.t _ _ h1 h2)⟩
theorem AsgOk.clo {m' : Nat} {S' P' : Nat → Nat} (c1 : ∀ a b, a < m → b < m → S (a * m + b) = S (b * m + a)) (c2 : ∀ a b, a < m → b < m → P (a * m + b) = P (b * m + a)) (c3 : ∀ a b, a < m' → b < m' → S' (a * m' + b) = S' (b * m' + a)) (c4 : ∀ a b, a < m' → b < m' → P' (a * m' + b) = P' (b * m' + a))
    (h : AsgOk m m' S P S' P' F a x true G) (hF : CloF m m' S P S' P' F) : CloF m m' S P S' P' G := fun c d => by
  by_cases h1 : F c = none
  · exact h.new rfl c d h1
  · by_cases h2 : F d = none
    · exact (h.new rfl d c h2).symm h.wf c1 c2 c3 c4
    · exact (hF c d).lift h.ext h1 h2
theorem AsgOk.cloR {m' e' : Nat} {S' P' : Nat → Nat} (R : RTab m S P e) (R' : RTab m' S' P' e') (h : AsgOk m m' S P S' P' F a x true G) (hF : CloF m m' S P S' P' F) : CloF m m' S P S' P' G :=
  h.clo (fun _ _ => R.Acs) (fun _ _ => R.Mcs) (fun _ _ => R'.Acs) (fun _ _ => R'.Mcs) hF
/-- The identity on what some elements have led to so far. -/
structure SubTo (m e : Nat) (S P : Nat → Nat) (p : Nat → Bool) (F : PMap) : Prop where
  wf : PWf m m F
  clo : CloF m m S P S P F
  o : F e = some e
  has : ∀ i, p i = true → F i = some i
  least : ∀ q, Sbr m S P e q → (∀ i, p i = true → q i = true) → PExt F (idq q)
theorem RTab.sub_start (R : RTab m S P e) (h : AsgOk m m S P S P (fun _ => none) e e b F) : b = true ∧ SubTo m e S P (fun _ => false) F := by
  have hb : ∀ q, Sbr m S P e q → PExt F (idq q) ∧ b = true := fun q hq => h.least _ (idq_clo hq) (idq_wf hq) (fun _ _ h => by cases h) (idq_yes hq.o)
  obtain ⟨_, rfl⟩ := hb _ R.sub_all
  exact ⟨rfl, h.wf, h.cloR R R (fun c d x y hx => by cases hx), h.at_ rfl, fun i hi => (by cases hi), fun q hq _ => (hb q hq).1⟩
theorem RTab.sub_step (R : RTab m S P e) (hF : SubTo m e S P p F) (hp : ∀ i, p i = true → i < m) (ha : a < m) (h : AsgOk m m S P S P F a a b G) : b = true ∧ SubTo m e S P (fun i => p i || decide (i = a)) G := by
  have hb : ∀ q, Sbr m S P e q → (∀ i, p i = true → q i = true) → q a = true → PExt G (idq q) ∧ b = true := fun q hq h1 h2 => h.least _ (idq_clo hq) (idq_wf hq) (hF.least q hq h1) (idq_yes h2)
  obtain ⟨_, rfl⟩ := hb _ R.sub_all (fun i hi => decide_eq_true (hp i hi)) (decide_eq_true ha)
  refine ⟨rfl, h.wf, h.cloR R R hF.clo, h.ext _ _ hF.o, fun i hi => ?_, fun q hq h1 => (hb q hq (fun i hi => h1 i (by rw [hi]; rfl)) (h1 a (by simp))).1⟩
  rw [Bool.or_eq_true, decide_eq_true_iff] at hi
  rcases hi with hi | rfl
  · exact h.ext _ _ (hF.has i hi)
  · exact h.at_ rfl
theorem RTab.sub_done (R : RTab m S P e) (hF : SubTo m e S P p F) (hp : ∀ i, p i = true → i < m) : (fun i => (F i).isSome) = subG m S P e p := by
  have hi : ∀ i x, F i = some x → x = i ∧ i < m := fun i x h => by
    have := hF.least _ R.sub_all (fun i hi => decide_eq_true (hp i hi)) i x h
    obtain ⟨h1, rfl⟩ := idq_some this
    exact ⟨rfl, of_decide_eq_true h1⟩
  have hs : ∀ i, (F i).isSome = true → F i = some i := fun i h => by
    obtain ⟨x, hx⟩ := Option.isSome_iff_exists.1 h
    rw [hx, (hi i x hx).1]
  refine sub_eq ⟨fun i h => (hi i i (hs i h)).2, by show (F e).isSome = true; rw [hF.o]; rfl, fun i j h1 h2 => ?_, fun i j h1 h2 => ?_⟩ (fun i h => ?_) fun i h => subG_iff.2 ⟨(hi i i (hs i h)).2, fun q hq h1 => ?_⟩
  · show (F _).isSome = true
    rw [(hF.clo i j i j (hs i h1) (hs j h2)).1]; rfl
  · show (F _).isSome = true
    rw [(hF.clo i j i j (hs i h1) (hs j h2)).2]; rfl
  · show (F i).isSome = true
    rw [hF.has i h]; rfl
  · exact (idq_some (hF.least q hq h1 i i (hs i h))).1
end
end Go.Proofs.Ytcbodedpahdobaa


/- What a search holds; the images that one leads to, as the program finds them. -/
namespace Go.Proofs.Ytcbodedpahdobaa
open Go.RowKit
set_option maxRecDepth 100000

/-- An image in a search: -1 if there is none. -/
def imI (F : PMap) (i : Nat) : Int := match F i with | some x => x | none => -1
theorem imI_some {F : PMap} {i x : Nat} (h : F i = some x) : imI F i = x := by unfold imI; rw [h]
theorem imI_none {F : PMap} {i : Nat} (h : F i = none) : imI F i = -1 := by unfold imI; rw [h]
/-- The cells of a search. -/
def srV (rc sc : Array Value) (F : PMap) (fv : Value) (i : Nat) : Value := if i < 4 then rc.getD i undef else if i < 8 then sc.getD (i - 4) undef else if i < 24 then .int .i64 (imI F (i - 8)) else fv
def srC (rc sc : Array Value) (F : PMap) (fv : Value) : Array Value := (Array.range 25).map (srV rc sc F fv)
section
variable {rc sc : Array Value} {F : PMap} {fv : Value} {w : World} {g a x : Nat} {t : TypeId}
theorem srC_get {i : Nat} (h : i < 25) : (srC rc sc F fv)[i]? = some (srV rc sc F fv i) := by
  unfold srC
  rw [Array.getElem?_map, Array.getElem?_range, if_pos h]; rfl
theorem sr_im (hb : Blk w g t (srC rc sc F fv)) (ha : a < 16) : w.cell? ⟨g, 8 + a, none⟩ = some (.int .i64 (imI F a)) := by
  rw [hb.cell, srC_get (by omega)]
  unfold srV
  rw [if_neg (by omega), if_neg (by omega), if_pos (by omega), show 8 + a - 8 = a by omega]
theorem srC_put (ha : a < 16) : (srC rc sc F fv).setIfInBounds (8 + a) (.int .i64 (x : Int)) = srC rc sc (updF F a x) fv := by
  apply Array.ext
  · simp [srC]
  · intro i h1 _
    have h25 : i < 25 := by simpa [srC] using h1
    rw [Array.getElem_setIfInBounds (by simpa [srC] using h25)]
    simp only [srC, Array.getElem_map, Array.getElem_range]
    unfold srV
    by_cases h4 : i < 4
    · rw [if_neg (show ¬ 8 + a = i by omega), if_pos h4, if_pos h4]
    · by_cases h8 : i < 8
      · rw [if_neg (show ¬ 8 + a = i by omega), if_neg h4, if_pos h8, if_neg h4, if_pos h8]
      · by_cases h24 : i < 24
        · by_cases e : 8 + a = i
          · rw [if_pos e, if_neg h4, if_neg h8, if_pos h24, show i - 8 = a by omega, imI_some updF_at]
          · rw [if_neg e, if_neg h4, if_neg h8, if_pos h24, if_neg h4, if_neg h8, if_pos h24, show imI (updF F a x) (i - 8) = imI F (i - 8) from by unfold imI; rw [updF_ne (show i - 8 ≠ a by omega)]]
        · rw [if_neg (show ¬ 8 + a = i by omega), if_neg h4, if_neg h8, if_neg h24, if_neg h4, if_neg h8, if_neg h24]
theorem sr_put (hb : Blk w g t (srC rc sc F fv)) (ha : a < 16) : Blk (w.setCell ⟨g, 8 + a, none⟩ (.int .i64 (x : Int))) g t (srC rc sc (updF F a x) fv) := by
  have := hb.set_ (8 + a) (.int .i64 (x : Int))
  rwa [srC_put ha] at this
theorem sr_from {r0 r1 r2 r3 : Value} (hb : Blk w g t (srC #[r0, r1, r2, r3] sc F fv)) : w.cell? ⟨g, 0, none⟩ = some r0 ∧ w.cell? ⟨g, 1, none⟩ = some r1 ∧ w.cell? ⟨g, 2, none⟩ = some r2 ∧ w.cell? ⟨g, 3, none⟩ = some r3 :=
  ⟨(hb.cell 0).trans (srC_get (by omega)), (hb.cell 1).trans (srC_get (by omega)), (hb.cell 2).trans (srC_get (by omega)), (hb.cell 3).trans (srC_get (by omega))⟩
theorem sr_to {r0 r1 r2 r3 : Value} (hb : Blk w g t (srC rc #[r0, r1, r2, r3] F fv)) : w.cell? ⟨g, 4, none⟩ = some r0 ∧ w.cell? ⟨g, 5, none⟩ = some r1 ∧ w.cell? ⟨g, 6, none⟩ = some r2 ∧ w.cell? ⟨g, 7, none⟩ = some r3 :=
  ⟨(hb.cell 4).trans (srC_get (by omega)), (hb.cell 5).trans (srC_get (by omega)), (hb.cell 6).trans (srC_get (by omega)), (hb.cell 7).trans (srC_get (by omega))⟩
theorem sr_fun (hb : Blk w g t (srC rc sc F fv)) : w.cell? ⟨g, 24, none⟩ = some fv := (hb.cell 24).trans (srC_get (by omega))
end

/-- What an image that is given leads to, reckoned. -/
def asgL (m m' : Nat) (S P S' P' : Nat → Nat) (f : PMap → Nat → Nat → Bool × PMap) (a x : Nat) : Nat → PMap → Bool × PMap
  | 0, G => (true, G)
  | j + 1, G => match G (m - (j + 1)) with
    | none => asgL m m' S P S' P' f a x j G
    | some y =>
      if (f G (S (a * m + (m - (j + 1)))) (S' (x * m' + y))).1 = true then
        if (f (f G (S (a * m + (m - (j + 1)))) (S' (x * m' + y))).2 (P (a * m + (m - (j + 1)))) (P' (x * m' + y))).1 = true then asgL m m' S P S' P' f a x j (f (f G (S (a * m + (m - (j + 1)))) (S' (x * m' + y))).2 (P (a * m + (m - (j + 1)))) (P' (x * m' + y))).2
        else f (f G (S (a * m + (m - (j + 1)))) (S' (x * m' + y))).2 (P (a * m + (m - (j + 1)))) (P' (x * m' + y))
      else f G (S (a * m + (m - (j + 1)))) (S' (x * m' + y))
def asgN (m m' : Nat) (S P S' P' : Nat → Nat) : Nat → PMap → Nat → Nat → Bool × PMap
  | 0, F, _, _ => (false, F)
  | N + 1, F, a, x => match F a with
    | some y => (decide (y = x), F)
    | none => asgL m m' S P S' P' (asgN m m' S P S' P' N) a x m (updF F a x)
section
variable {m m' e e' : Nat} {S P S' P' : Nat → Nat} {F G : PMap} {a x : Nat} {N : Nat}
theorem asgL_ok (R : RTab m S P e) (R' : RTab m' S' P' e') {f : PMap → Nat → Nat → Bool × PMap} (hFa : F a = none) (ha : a < m) (hx : x < m')
    (hf : ∀ G u v, PWf m m' G → u < m → v < m' → nonN m G ≤ nonN m (updF F a x) → AsgOk m m' S P S' P' G u v (f G u v).1 (f G u v).2) :
    ∀ j G, j ≤ m → AsgTo m m' S P S' P' (updF F a x) a (m - j) G → AsgOk m m' S P S' P' F a x (asgL m m' S P S' P' f a x j G).1 (asgL m m' S P S' P' f a x j G).2
  | 0, G, _, h => by
    rw [Nat.sub_zero] at h
    exact h.done hFa
  | j + 1, G, hj, h => by
    have e1 : m - (j + 1) + 1 = m - j := by omega
    unfold asgL
    cases hk : G (m - (j + 1)) with
    | none =>
      have := h.skip hk
      rw [e1] at this
      exact asgL_ok R R' hFa ha hx hf j G (by omega) this
    | some y =>
      obtain ⟨k, hkk⟩ : ∃ k, m - (j + 1) = k := ⟨_, rfl⟩
      simp only [hkk] at hk h e1 ⊢
      have hkm : k < m := by omega
      have hy := (h.wf _ _ hk).2
      have hga : G a = some x := h.ext a x updF_at
      have o1 := hf G (S (a * m + k)) (S' (x * m' + y)) h.wf (R.sc ha hkm) (R'.sc hx hy) (nonN_le h.ext)
      have u1 : ∀ H, CloF m m' S P S' P' H → PExt G H → H (S (a * m + k)) = some (S' (x * m' + y)) := fun H h1 h2 => (h1 a k x y (h2 _ _ hga) (h2 _ _ hk)).1
      obtain ⟨b1, G1, hr1⟩ : ∃ b G1, f G (S (a * m + k)) (S' (x * m' + y)) = (b, G1) := ⟨_, _, rfl⟩
      rw [hr1] at o1 ⊢
      cases b1
      · exact AsgTo.fail hFa h o1 u1
      · have t1 := h.call (fun _ _ => R.Acs) (fun _ _ => R.Mcs) (fun _ _ => R'.Acs) (fun _ _ => R'.Mcs) (by rw [updF_at]; simp) o1 u1
        have hk1 := o1.ext _ _ hk
        have hga1 := o1.ext _ _ hga
        have o2 := hf G1 (P (a * m + k)) (P' (x * m' + y)) t1.wf (R.pc ha hkm) (R'.pc hx hy) (nonN_le t1.ext)
        have u2 : ∀ H, CloF m m' S P S' P' H → PExt G1 H → H (P (a * m + k)) = some (P' (x * m' + y)) := fun H h1 h2 => (h1 a k x y (h2 _ _ hga1) (h2 _ _ hk1)).2
        obtain ⟨b2, G2, hr2⟩ : ∃ b G2, f G1 (P (a * m + k)) (P' (x * m' + y)) = (b, G2) := ⟨_, _, rfl⟩
        simp only [if_true]
        rw [hr2] at o2 ⊢
        cases b2
        · exact AsgTo.fail hFa t1 o2 u2
        · have t2 := t1.call (fun _ _ => R.Acs) (fun _ _ => R.Mcs) (fun _ _ => R'.Acs) (fun _ _ => R'.Mcs) (by rw [updF_at]; simp) o2 u2
          have t3 := t2.next (fun x' y' hx' hy' => by
            have ex : x' = x := by rw [o2.ext _ _ hga1] at hx'; exact (Option.some.inj hx').symm
            have ey : y' = y := by rw [o2.ext _ _ hk1] at hy'; exact (Option.some.inj hy').symm
            subst ex ey
            exact ⟨o2.ext _ _ (o1.at_ rfl), o2.at_ rfl⟩)
          rw [e1] at t3
          simp only [if_true]
          exact asgL_ok R R' hFa ha hx hf j G2 (by omega) t3
theorem asg_ok (R : RTab m S P e) (R' : RTab m' S' P' e') : ∀ N F a x, PWf m m' F → a < m → x < m' → nonN m F < N → AsgOk m m' S P S' P' F a x (asgN m m' S P S' P' N F a x).1 (asgN m m' S P S' P' N F a x).2
  | 0, _, _, _, _, _, _, h => absurd h (by omega)
  | N + 1, F, a, x, hF, ha, hx, h => by
    unfold asgN
    cases hFa : F a with
    | some y => exact AsgOk.there hF hFa
    | none =>
      have hlt := nonN_lt (m := m) (x := x) hFa ha
      refine asgL_ok R R' hFa ha hx (fun G u v hG hu hv hn => asg_ok R R' N G u v hG hu hv (by omega)) m _ (Nat.le_refl _) ?_
      rw [Nat.sub_self]
      exact AsgTo.start hF ha hx
end

set_option maxHeartbeats 1000000 in
theorem srList_any (g m : Nat) (o r2 r3 : Value) (sc : Array Value) (F : PMap) (fv : Value) (w : World) (hb : Blk w g 83 (srC #[.int .i64 m, o, r2, r3] sc F fv)) (hm : 1 ≤ m) (hm' : m ≤ 16) :
    Calls Try.prog 121 #[.pointer (some ⟨g, 0, none⟩)] w fun e w' => e = .returned (.slice (some ⟨g, 8, none⟩) m 16) ∧ Below w.heap.size w w' := by
  obtain ⟨c0, _, _, _⟩ := sr_from hb
  have h8 := sr_im hb (a := 0) (by omega)
  have hl := hb.lt
  have m0 : (0 : Int) ≤ (m : Int) := by omega
  have m16 : (m : Int) ≤ 16 := by omega
  clear hb
  go_enter Try.func121, Try.ntmps121
  go_wp2
  refine wp_region_ext (by kernel_rfl) (by kernel_rfl) ?_
  repeat (go_big_quiet_step (fail))
  refine wpQuiet_nil ?_
  intro w1 hb1
  go_wp2
  go_ret
  exact ⟨rfl, hb1⟩

/-- All old memory but one block is as it was. -/
structure Kg (g : Nat) (w w' : World) : Prop where
  os : w'.os = w.os
  tape : w'.tape = w.tape
  output : w'.output = w.output
  size : w.heap.size ≤ w'.heap.size
  block : ∀ k, k < w.heap.size → k ≠ g → w'.heap[k]? = w.heap[k]?
theorem Kg.refl (g : Nat) (w : World) : Kg g w w := ⟨rfl, rfl, rfl, Nat.le_refl _, fun _ _ _ => rfl⟩
theorem Kg.trans {g : Nat} {a b c : World} (h : Kg g a b) (k : Kg g b c) : Kg g a c :=
  ⟨k.os.trans h.os, k.tape.trans h.tape, k.output.trans h.output, Nat.le_trans h.size k.size, fun i hi hg => (k.block i (Nat.lt_of_lt_of_le hi h.size) hg).trans (h.block i hi hg)⟩
theorem Kg.of {g : Nat} {w w' : World} (h : Below w.heap.size w w') : Kg g w w' := ⟨h.os, h.tape, h.output, h.size, fun k hk _ => h.block k hk⟩
theorem Kg.below {g B : Nat} {w w' : World} (h : Kg g w w') (hg : B ≤ g) (hB : B ≤ w.heap.size) : Below B w w' := ⟨h.os, h.tape, h.output, h.size, fun k hk => h.block k (by omega) (by omega)⟩
theorem Kg.set_ {g : Nat} {w w' : World} (h : Kg g w w') (i : Nat) (u : Value) : Kg g w (w'.setCell ⟨g, i, none⟩ u) :=
  ⟨h.os, h.tape, h.output, by simpa [World.setCell] using h.size, fun k hk hg => (Below.heap_setCell w' ⟨g, i, none⟩ u k hg).trans (h.block k hk hg)⟩
theorem Blk.kg {g b : Nat} {w w' : World} {t : TypeId} {cs : Array Value} (h : Blk w b t cs) (hw : Kg g w w') (hg : b ≠ g) : Blk w' b t cs := (hw.block b h.lt hg).trans h

section
variable {m m' : Nat} {S P S' P' : Nat → Nat} {G : PMap} {a x k y : Nat} {f : PMap → Nat → Nat → Bool × PMap}
theorem asgL_none (hk : k < m) (h : G k = none) : asgL m m' S P S' P' f a x (m - k) G = asgL m m' S P S' P' f a x (m - (k + 1)) G := by
  rw [show m - k = (m - (k + 1)) + 1 by omega, asgL, show m - (m - (k + 1) + 1) = k by omega, h]
theorem asgL_no1 {G1 : PMap} (hk : k < m) (h : G k = some y) (h1 : f G (S (a * m + k)) (S' (x * m' + y)) = (false, G1)) : asgL m m' S P S' P' f a x (m - k) G = (false, G1) := by
  rw [show m - k = (m - (k + 1)) + 1 by omega, asgL, show m - (m - (k + 1) + 1) = k by omega, h]
  simp only [h1]
  rfl
theorem asgL_no2 {G1 G2 : PMap} (hk : k < m) (h : G k = some y) (h1 : f G (S (a * m + k)) (S' (x * m' + y)) = (true, G1)) (h2 : f G1 (P (a * m + k)) (P' (x * m' + y)) = (false, G2)) : asgL m m' S P S' P' f a x (m - k) G = (false, G2) := by
  rw [show m - k = (m - (k + 1)) + 1 by omega, asgL, show m - (m - (k + 1) + 1) = k by omega, h]
  simp only [h1, h2]
  rfl
theorem asgL_yes {G1 G2 : PMap} (hk : k < m) (h : G k = some y) (h1 : f G (S (a * m + k)) (S' (x * m' + y)) = (true, G1)) (h2 : f G1 (P (a * m + k)) (P' (x * m' + y)) = (true, G2)) : asgL m m' S P S' P' f a x (m - k) G = asgL m m' S P S' P' f a x (m - (k + 1)) G2 := by
  rw [show m - k = (m - (k + 1)) + 1 by omega, asgL, show m - (m - (k + 1) + 1) = k by omega, h]
  simp only [h1, h2]
  rfl
theorem asgL_end : asgL m m' S P S' P' f a x (m - m) G = (true, G) := by rw [Nat.sub_self]; rfl
end

end Go.Proofs.Ytcbodedpahdobaa


/- The program's assign: what an image leads to. -/
namespace Go.Proofs.Ytcbodedpahdobaa
open Go.RowKit
set_option maxRecDepth 100000

set_option maxHeartbeats 16000000 in
theorem assign_any (g : Nat) (fv : Value) (m e b1 o1 la ca b2 o2 lb cb : Nat) (S P : Nat → Nat) (w : World) (hr : RingAt w m e b1 o1 la ca b2 o2 lb cb S P) (m' e' b1' o1' la' ca' b2' o2' lb' cb' : Nat) (S' P' : Nat → Nat) (hr' : RingAt w m' e' b1' o1' la' ca' b2' o2' lb' cb' S' P') (R : RTab m S P e) (R' : RTab m' S' P' e') (hg : w.heap.size ≤ g) :
    ∀ (N : Nat) (F : PMap) (a x : Nat) (W : World), Below w.heap.size w W → Blk W g 83 (srC #[.int .i64 m, .int .i64 e, .slice (some ⟨b1, o1, none⟩) la ca, .slice (some ⟨b2, o2, none⟩) lb cb] #[.int .i64 m', .int .i64 e', .slice (some ⟨b1', o1', none⟩) la' ca', .slice (some ⟨b2', o2', none⟩) lb' cb'] F fv) → PWf m m' F → a < m → x < m' → nonN m F < N →
      Calls Try.prog 73 #[.pointer (some ⟨g, 0, none⟩), .int .i64 a, .int .i64 x] W fun e0 W' => e0 = .returned (.bool (asgN m m' S P S' P' N F a x).1) ∧ Blk W' g 83 (srC #[.int .i64 m, .int .i64 e, .slice (some ⟨b1, o1, none⟩) la ca, .slice (some ⟨b2, o2, none⟩) lb cb] #[.int .i64 m', .int .i64 e', .slice (some ⟨b1', o1', none⟩) la' ca', .slice (some ⟨b2', o2', none⟩) lb' cb'] (asgN m m' S P S' P' N F a x).2 fv) ∧ Kg g W W' := by
  have hm := hr.hm
  have hm' := hr.hm'
  have hm2 := hr'.hm'
  have HR := Lib.hid hr
  have HR' := Lib.hid hr'
  have RR := Lib.hid R
  have RR' := Lib.hid R'
  clear hr hr' R R'
  intro N
  induction N with
  | zero => intro F a x W _ _ _ _ _ h; omega
  | succ N ih =>
    intro F a x W hbW hb hF ha hx hn
    have IH := Lib.hid ih
    clear ih
    have a16 : a < 16 := by omega
    have a0 : (0 : Int) ≤ (a : Int) := by omega
    have a1 : (a : Int) < 16 := by omega
    cases hFa : F a with
    | some y =>
      have c := sr_im hb a16
      rw [imI_some hFa] at c
      have t0 : (((y : Nat) : Int) != -1) = true := by rw [bne_iff_ne]; omega
      have HE := Lib.hid (show asgN m m' S P S' P' (N + 1) F a x = (decide (y = x), F) by unfold asgN; rw [hFa])
      have KB := Lib.hid hb
      by_cases hyx : y = x
      · have t1 : (((y : Nat) : Int) == (x : Int)) = true := by rw [beq_iff_eq]; omega
        have HX := Lib.hid hyx
        clear hb hFa hyx
        go_enter Try.func73, Try.ntmps73
        go_wp2
        go_ret
        rw [HE.out]
        exact ⟨ret_bool (decide_eq_true HX.out).symm, KB.out, Kg.refl _ _⟩
      · have t1 : (((y : Nat) : Int) == (x : Int)) = false := by rw [beq_eq_false_iff_ne]; omega
        have HX := Lib.hid hyx
        clear hb hFa hyx
        go_enter Try.func73, Try.ntmps73
        go_wp2
        go_ret
        rw [HE.out]
        exact ⟨ret_bool (decide_eq_false HX.out).symm, KB.out, Kg.refl _ _⟩
    | none =>
      have c := sr_im hb a16
      rw [imI_none hFa] at c
      have fz := hb.frozen (8 + a)
      have lg := hb.lt
      have HE := Lib.hid (show asgN m m' S P S' P' (N + 1) F a x = asgL m m' S P S' P' (asgN m m' S P S' P' N) a x (m - 0) (updF F a x) by unfold asgN; rw [hFa]; rfl)
      have NL := Lib.hid (nonN_lt (m := m) (x := x) hFa ha)
      have HFW := Lib.hid (updF_wf hF ha hx)
      obtain ⟨W1, hW1⟩ : ∃ W1, W.setCell ⟨g, 8 + a, none⟩ (.int .i64 x) = W1 := ⟨_, rfl⟩
      have hk1 : Blk W1 g 83 (srC #[.int .i64 m, .int .i64 e, .slice (some ⟨b1, o1, none⟩) la ca, .slice (some ⟨b2, o2, none⟩) lb cb] #[.int .i64 m', .int .i64 e', .slice (some ⟨b1', o1', none⟩) la' ca', .slice (some ⟨b2', o2', none⟩) lb' cb'] (updF F a x) fv) := by rw [← hW1]; exact sr_put hb a16
      have hg1 : Kg g W W1 := by rw [← hW1]; exact (Kg.refl g W).set_ _ _
      have hbe1 : Below w.heap.size w W1 := hbW.trans (hg1.below hg hbW.size)
      have K1 := Lib.hid hk1
      have G1 := Lib.hid hg1
      have BE1 := Lib.hid hbe1
      have HW1 := Lib.hid hW1
      have HN := Lib.hid hn
      clear hb hFa hW1 hk1 hg1 hbe1 hF hn hbW
      go_enter Try.func73, Try.ntmps73
      go_upto_region 4 with (fail)
      rw [HW1.out]
      clear c fz
      go_wp2_with (fail)
      refine (srList_any g m _ _ _ #[.int .i64 m', .int .i64 e', .slice (some ⟨b1', o1', none⟩) la' ca', .slice (some ⟨b2', o2', none⟩) lb' cb'] (updF F a x) fv W1 K1.out hm hm').mono ?_
      rintro e2 w2 ⟨rfl, hb2⟩
      have K2 := Lib.hid (K1.out.next hb2)
      have G2 := Lib.hid (G1.out.trans (Kg.of hb2))
      have BE2 := Lib.hid (below_step BE1.out hb2)
      clear hb2
      go_wp2
      go_loopg [33] m (fun gk vi wr => ∃ (k : Nat) (H : PMap), k ≤ m ∧ m ≤ k + gk ∧ vi = .int .i64 k ∧ Blk wr g 83 (srC #[.int .i64 m, .int .i64 e, .slice (some ⟨b1, o1, none⟩) la ca, .slice (some ⟨b2, o2, none⟩) lb cb] #[.int .i64 m', .int .i64 e', .slice (some ⟨b1', o1', none⟩) la' ca', .slice (some ⟨b2', o2', none⟩) lb' cb'] H fv) ∧ Kg g W wr ∧ Below w.heap.size w wr ∧ PWf m m' H ∧ PExt (updF F a x) H ∧ asgL m m' S P S' P' (asgN m m' S P S' P' N) a x (m - k) H = asgL m m' S P S' P' (asgN m m' S P S' P' N) a x (m - 0) (updF F a x))
      case atStart => exact ⟨0, _, Nat.zero_le _, by omega, rfl, K2.out, G2.out, BE2.out, HFW.out, PExt.refl, rfl⟩
      case round =>
        obtain ⟨k, H, hk, hgk, rfl, hbk, hkg, hbe, hwf, hext, heq⟩ := hrel
        have KW := Lib.hid hbk
        have GW := Lib.hid hkg
        have BW := Lib.hid hbe
        have WF := Lib.hid hwf
        have XT := Lib.hid hext
        have EQ := Lib.hid heq
        clear hbk hkg hbe hwf hext heq
        by_cases hlt : k < m
        · have ck := sr_im KW.out (show k < 16 by omega)
          cases hHk : H k with
          | none =>
            rw [imI_none hHk] at ck
            have EN := Lib.hid (asgL_none (S := S) (P := P) (S' := S') (P' := P') (m' := m') (a := a) (x := x) (f := asgN m m' S P S' P' N) hlt hHk)
            clear hHk
            go_wp2
            go_roundg (m - (k + 1))
            case measure => omega
            case rel => exact ⟨k + 1, H, by omega, by omega, by go_num, KW.out, GW.out, BW.out, WF.out, XT.out, by rw [← EN.out]; exact EQ.out⟩
          | some y =>
            rw [imI_some hHk] at ck
            have hy := (WF.out _ _ hHk).2
            have t0 : (((y : Nat) : Int) == -1) = false := by rw [beq_eq_false_iff_ne]; omega
            have RW := Lib.hid (HR.out.next BW.out)
            have RW' := Lib.hid (HR'.out.next BW.out)
            have hu := RR.out.sc ha hlt
            have hv := RR'.out.sc hx hy
            have hp := RR.out.pc ha hlt
            have hq := RR'.out.pc hx hy
            obtain ⟨bb1, H1, hr1⟩ : ∃ b H1, asgN m m' S P S' P' N H (S (a * m + k)) (S' (x * m' + y)) = (b, H1) := ⟨_, _, rfl⟩
            have ok1 := asg_ok RR.out RR'.out N H _ _ WF.out hu hv (by have := nonN_le (m := m) XT.out; have := NL.out; have := HN.out; omega)
            rw [hr1] at ok1
            dsimp only at ok1
            have I1 := Lib.hid (show ∀ V, Below w.heap.size w V → Blk V g 83 (srC #[.int .i64 m, .int .i64 e, .slice (some ⟨b1, o1, none⟩) la ca, .slice (some ⟨b2, o2, none⟩) lb cb] #[.int .i64 m', .int .i64 e', .slice (some ⟨b1', o1', none⟩) la' ca', .slice (some ⟨b2', o2', none⟩) lb' cb'] H fv) → Calls Try.prog 73 #[.pointer (some ⟨g, 0, none⟩), .int .i64 ((S (a * m + k) : Nat) : Int), .int .i64 ((S' (x * m' + y) : Nat) : Int)] V fun e0 W' => e0 = .returned (.bool bb1) ∧ Blk W' g 83 (srC #[.int .i64 m, .int .i64 e, .slice (some ⟨b1, o1, none⟩) la ca, .slice (some ⟨b2, o2, none⟩) lb cb] #[.int .i64 m', .int .i64 e', .slice (some ⟨b1', o1', none⟩) la' ca', .slice (some ⟨b2', o2', none⟩) lb' cb'] H1 fv) ∧ Kg g V W' from fun V h1 h2 => by
              have := IH.out H _ _ V h1 h2 WF.out hu hv (by have := nonN_le (m := m) XT.out; have := NL.out; have := HN.out; omega)
              rw [hr1] at this
              exact this)
            have hfr := sr_from KW.out
            have hto := sr_to KW.out
            obtain ⟨c0, c1, c2, c3⟩ := hfr
            obtain ⟨d0, d1, d2, d3⟩ := hto
            cases bb1
            · have EN := Lib.hid (asgL_no1 (S := S) (P := P) (S' := S') (P' := P') (m' := m') (a := a) (x := x) (f := asgN m m' S P S' P' N) hlt hHk hr1)
              clear hHk hr1 ok1
              go_wp2
              have hd : Below wr.heap.size wr wr.drew := (Below.refl _ _).drew
              have K0 := Lib.hid (KW.out.next hd)
              have B0 := Lib.hid (below_step BW.out hd)
              have GG0 := Lib.hid (GW.out.trans (Kg.of hd))
              have R0 := Lib.hid (RW.out.next hd)
              have Q0 := Lib.hid (RW'.out.next hd)
              clear hd c0 c1 c2 c3 d0 d1 d2 d3
              obtain ⟨p0, p1, p2, p3⟩ := sr_from K0.out
              obtain ⟨p4, p5, p6, p7⟩ := sr_to K0.out
              refine wp_region_held_drew (S := (fun w' => w'.cell? ⟨g, 0, none⟩ = some (.int .i64 m) ∧ w'.cell? ⟨g, 1, none⟩ = some (.int .i64 e) ∧ w'.cell? ⟨g, 2, none⟩ = some (.slice (some ⟨b1, o1, none⟩) la ca) ∧ w'.cell? ⟨g, 3, none⟩ = some (.slice (some ⟨b2, o2, none⟩) lb cb) ∧ w'.cell? ⟨g, 4, none⟩ = some (.int .i64 m') ∧ w'.cell? ⟨g, 5, none⟩ = some (.int .i64 e') ∧ w'.cell? ⟨g, 6, none⟩ = some (.slice (some ⟨b1', o1', none⟩) la' ca') ∧ w'.cell? ⟨g, 7, none⟩ = some (.slice (some ⟨b2', o2', none⟩) lb' cb'))) (by kernel_rfl) ?_ (fun hHeld => ?_)
              · exact ⟨p0, p1, p2, p3, p4, p5, p6, p7⟩
              refine wpAnyH_take (i := 0) (v := ?_) rfl (by kernel_rfl) (by kernel_rfl) (by kernel_rfl) (fun _ _ _ h => h) (Or.inl ⟨by rfl, ?_⟩) (by assumption) ?_
              rotate_left
              · intro w hSw; (try dsimp only at hSw); go_simp; (try (with_reducible rfl))
              (try simp only [List.getElem_toArray, List.getElem_cons_zero, Act.put, List.setIfInBounds_toArray, List.set_cons_zero, List.set_cons_succ])
              refine wpAnyH_take (i := 1) (v := ?_) rfl (by kernel_rfl) (by kernel_rfl) (by kernel_rfl) (fun _ _ _ h => h) (Or.inl ⟨by rfl, ?_⟩) (by assumption) ?_
              rotate_left
              · intro w hSw; (try dsimp only at hSw); go_simp; (try (with_reducible rfl))
              (try simp only [List.getElem_toArray, List.getElem_cons_zero, List.getElem_cons_succ, Act.put, List.setIfInBounds_toArray, List.set_cons_zero, List.set_cons_succ])
              refine wpAnyH_take (i := 2) (v := ?_) rfl (by kernel_rfl) (by kernel_rfl) (by kernel_rfl) (fun _ _ _ h => h) (Or.inl ⟨by rfl, ?_⟩) (by assumption) ?_
              rotate_left
              · intro w hSw; (try dsimp only at hSw); go_simp; (try (with_reducible rfl))
              (try simp only [List.getElem_toArray, List.getElem_cons_zero, List.getElem_cons_succ, Act.put, List.setIfInBounds_toArray, List.set_cons_zero, List.set_cons_succ])
              refine wpAnyH_take (i := 3) (v := ?_) rfl (by kernel_rfl) (by kernel_rfl) (by kernel_rfl) (fun _ _ _ h => h) (Or.inl ⟨by rfl, ?_⟩) (by assumption) ?_
              rotate_left
              · intro w hSw; (try dsimp only at hSw); go_simp; (try (with_reducible rfl))
              (try simp only [List.getElem_toArray, List.getElem_cons_zero, List.getElem_cons_succ, Act.put, List.setIfInBounds_toArray, List.set_cons_zero, List.set_cons_succ])
              refine wpAnyH_take (i := 4) (v := ?_) rfl (by kernel_rfl) (by kernel_rfl) (by kernel_rfl) (fun _ _ _ h => h) (Or.inl ⟨by rfl, ?_⟩) (by assumption) ?_
              rotate_left
              · intro w hSw; (try dsimp only at hSw); go_simp; (try (with_reducible rfl))
              (try simp only [List.getElem_toArray, List.getElem_cons_zero, List.getElem_cons_succ, Act.put, List.setIfInBounds_toArray, List.set_cons_zero, List.set_cons_succ])
              refine wpAnyH_take (i := 5) (v := ?_) rfl (by kernel_rfl) (by kernel_rfl) (by kernel_rfl) (fun _ _ _ h => h) (Or.inl ⟨by rfl, ?_⟩) (by assumption) ?_
              rotate_left
              · intro w hSw; (try dsimp only at hSw); go_simp; (try (with_reducible rfl))
              (try simp only [List.getElem_toArray, List.getElem_cons_zero, List.getElem_cons_succ, Act.put, List.setIfInBounds_toArray, List.set_cons_zero, List.set_cons_succ])
              refine wpAnyH_take (i := 6) (v := ?_) rfl (by kernel_rfl) (by kernel_rfl) (by kernel_rfl) (fun _ _ _ h => h) (Or.inl ⟨by rfl, ?_⟩) (by assumption) ?_
              rotate_left
              · intro w hSw; (try dsimp only at hSw); go_simp; (try (with_reducible rfl))
              (try simp only [List.getElem_toArray, List.getElem_cons_zero, List.getElem_cons_succ, Act.put, List.setIfInBounds_toArray, List.set_cons_zero, List.set_cons_succ])
              refine wpAnyH_take (i := 8) (v := ?_) rfl (by kernel_rfl) (by kernel_rfl) (by kernel_rfl) (fun _ _ _ h => h) (Or.inl ⟨by rfl, ?_⟩) (by assumption) ?_
              rotate_left
              · intro w hSw; (try dsimp only at hSw); go_simp; (try (with_reducible rfl))
              (try simp only [List.getElem_toArray, List.getElem_cons_zero, List.getElem_cons_succ, Act.put, List.setIfInBounds_toArray, List.set_cons_zero, List.set_cons_succ])
              refine wpAnyH_take (i := 9) (v := ?_) rfl (by kernel_rfl) (by kernel_rfl) (by kernel_rfl) (fun _ _ _ h => h) (Or.inl ⟨by rfl, ?_⟩) (by assumption) ?_
              rotate_left
              · intro w hSw; (try dsimp only at hSw); go_simp; (try (with_reducible rfl))
              (try simp only [List.getElem_toArray, List.getElem_cons_zero, List.getElem_cons_succ, Act.put, List.setIfInBounds_toArray, List.set_cons_zero, List.set_cons_succ])
              refine wpAnyH_take (i := 10) (v := ?_) rfl (by kernel_rfl) (by kernel_rfl) (by kernel_rfl) (fun _ _ _ h => h) (Or.inl ⟨by rfl, ?_⟩) (by assumption) ?_
              rotate_left
              · intro w hSw; (try dsimp only at hSw); go_simp; (try (with_reducible rfl))
              (try simp only [List.getElem_toArray, List.getElem_cons_zero, List.getElem_cons_succ, Act.put, List.setIfInBounds_toArray, List.set_cons_zero, List.set_cons_succ])
              refine wpAnyH_take (i := 11) (v := ?_) rfl (by kernel_rfl) (by kernel_rfl) (by kernel_rfl) (fun _ _ _ h => h) (Or.inl ⟨by rfl, ?_⟩) (by assumption) ?_
              rotate_left
              · intro w hSw; (try dsimp only at hSw); go_simp; (try (with_reducible rfl))
              (try simp only [List.getElem_toArray, List.getElem_cons_zero, List.getElem_cons_succ, Act.put, List.setIfInBounds_toArray, List.set_cons_zero, List.set_cons_succ])
              refine wpAnyH_take (i := 12) (v := ?_) rfl (by kernel_rfl) (by kernel_rfl) (by kernel_rfl) (fun _ _ _ h => h) (Or.inl ⟨by rfl, ?_⟩) (by assumption) ?_
              rotate_left
              · intro w hSw; (try dsimp only at hSw); go_simp; (try (with_reducible rfl))
              (try simp only [List.getElem_toArray, List.getElem_cons_zero, List.getElem_cons_succ, Act.put, List.setIfInBounds_toArray, List.set_cons_zero, List.set_cons_succ])
              refine wpAnyH_take (i := 13) (v := ?_) rfl (by kernel_rfl) (by kernel_rfl) (by kernel_rfl) (fun _ _ _ h => h) (Or.inl ⟨by rfl, ?_⟩) (by assumption) ?_
              rotate_left
              · intro w hSw; (try dsimp only at hSw); go_simp; (try (with_reducible rfl))
              (try simp only [List.getElem_toArray, List.getElem_cons_zero, List.getElem_cons_succ, Act.put, List.setIfInBounds_toArray, List.set_cons_zero, List.set_cons_succ])
              refine wpAnyH_ready (rs := [7]) (by kernel_rfl) (by simp) ?_
              refine AllReadyH.cons (o := _) rfl (fun K hK => ?_) AllReadyH.nil
              (try simp only [List.getElem_toArray, List.getElem_cons_zero, List.getElem_cons_succ, Act.put, List.setIfInBounds_toArray, List.set_cons_zero, List.set_cons_succ])
              go_simp
              (go_at_call 122; (with_reducible refine (sum_any a k m e b1 o1 la ca b2 o2 lb cb S P _ R0.out ha hlt).mono ?_); rintro ee1 ww1 ⟨rfl, hb1⟩; have K1 := Lib.hid (K0.out.next hb1); have B1 := Lib.hid (below_step B0.out hb1); have GG1 := Lib.hid (GG0.out.trans (Kg.of hb1)); have R1 := Lib.hid (R0.out.next hb1); have Q1 := Lib.hid (Q0.out.next hb1); clear hb1; obtain ⟨q0, q1, q2, q3⟩ := sr_from K1.out; obtain ⟨q4, q5, q6, q7⟩ := sr_to K1.out)
              go_wp2_with (fail)
              refine hK.out _ _ ?_ (fun hHeld => ?_)
              · exact ⟨q0, q1, q2, q3, q4, q5, q6, q7⟩
              clear hK K
              (try simp only [List.getElem_toArray, List.getElem_cons_zero, List.getElem_cons_succ, Act.put, List.setIfInBounds_toArray, List.set_cons_zero, List.set_cons_succ])
              refine wpAnyH_ready (rs := [14]) (by kernel_rfl) (by simp) ?_
              refine AllReadyH.cons (o := _) rfl (fun K hK => ?_) AllReadyH.nil
              (try simp only [List.getElem_toArray, List.getElem_cons_zero, List.getElem_cons_succ, Act.put, List.setIfInBounds_toArray, List.set_cons_zero, List.set_cons_succ])
              go_simp
              (go_at_call 122; (with_reducible refine (sum_any x y m' e' b1' o1' la' ca' b2' o2' lb' cb' S' P' _ Q1.out hx hy).mono ?_); rintro ee2 ww2 ⟨rfl, hb2⟩; have K2 := Lib.hid (K1.out.next hb2); have B2 := Lib.hid (below_step B1.out hb2); have GG2 := Lib.hid (GG1.out.trans (Kg.of hb2)); have R2 := Lib.hid (R1.out.next hb2); have Q2 := Lib.hid (Q1.out.next hb2); clear hb2; obtain ⟨r0, r1, r2, r3⟩ := sr_from K2.out; obtain ⟨r4, r5, r6, r7⟩ := sr_to K2.out)
              go_wp2_with (fail)
              refine hK.out _ _ ?_ (fun hHeld => ?_)
              · exact ⟨r0, r1, r2, r3, r4, r5, r6, r7⟩
              clear hK K
              (try simp only [List.getElem_toArray, List.getElem_cons_zero, List.getElem_cons_succ, Act.put, List.setIfInBounds_toArray, List.set_cons_zero, List.set_cons_succ])
              refine wpAnyH_ready (rs := [15]) (by kernel_rfl) (by simp) ?_
              refine AllReadyH.cons (o := _) rfl (fun K hK => ?_) AllReadyH.nil
              (try simp only [List.getElem_toArray, List.getElem_cons_zero, List.getElem_cons_succ, Act.put, List.setIfInBounds_toArray, List.set_cons_zero, List.set_cons_succ])
              go_simp
              (go_at_call 73; (with_reducible refine (I1.out _ B2.out K2.out).mono ?_); rintro ee3 ww3 ⟨rfl, hK, hg3⟩; have K3 := Lib.hid hK; have hbb := hg3.below hg B2.out.size; have B3 := Lib.hid (B2.out.trans hbb); have GG3 := Lib.hid (GG2.out.trans hg3); have R3 := Lib.hid (HR.out.next B3.out); have Q3 := Lib.hid (HR'.out.next B3.out); clear hK hbb hg3; obtain ⟨s0, s1, s2, s3⟩ := sr_from K3.out; obtain ⟨s4, s5, s6, s7⟩ := sr_to K3.out)
              go_wp2_with (fail)
              refine hK.out _ _ ?_ (fun hHeld => ?_)
              · exact ⟨s0, s1, s2, s3, s4, s5, s6, s7⟩
              clear hK K
              (try simp only [List.getElem_toArray, List.getElem_cons_zero, List.getElem_cons_succ, Act.put, List.setIfInBounds_toArray, List.set_cons_zero, List.set_cons_succ])
              refine wpAnyH_take (i := 16) (v := ?_) rfl (by kernel_rfl) (by kernel_rfl) (by kernel_rfl) (fun _ _ _ h => h) (Or.inl ⟨by rfl, ?_⟩) (by assumption) ?_
              rotate_left
              · intro w hSw; (try dsimp only at hSw); go_simp; (try (with_reducible rfl))
              (try simp only [List.getElem_toArray, List.getElem_cons_zero, List.getElem_cons_succ, Act.put, List.setIfInBounds_toArray, List.set_cons_zero, List.set_cons_succ])
              refine wpAnyH_take (i := 17) (v := ?_) rfl (by kernel_rfl) (by kernel_rfl) (by kernel_rfl) (fun _ _ _ h => h) (Or.inl ⟨by rfl, ?_⟩) (by assumption) ?_
              rotate_left
              · intro w hSw; (try dsimp only at hSw); go_simp; (try (with_reducible rfl))
              (try simp only [List.getElem_toArray, List.getElem_cons_zero, List.getElem_cons_succ, Act.put, List.setIfInBounds_toArray, List.set_cons_zero, List.set_cons_succ])
              refine wpAnyH_take (i := 18) (v := undef) rfl (by kernel_rfl) (by kernel_rfl) (by kernel_rfl) (fun _ _ _ h => h) (Or.inr ⟨by rfl, rfl⟩) (by assumption) ?_
              (try simp only [List.getElem_toArray, List.getElem_cons_zero, List.getElem_cons_succ, Act.put, List.setIfInBounds_toArray, List.set_cons_zero, List.set_cons_succ])
              refine wpAnyH_take (i := 19) (v := undef) rfl (by kernel_rfl) (by kernel_rfl) (by kernel_rfl) (fun _ _ _ h => h) (Or.inr ⟨by rfl, rfl⟩) (by assumption) ?_
              (try simp only [List.getElem_toArray, List.getElem_cons_zero, List.getElem_cons_succ, Act.put, List.setIfInBounds_toArray, List.set_cons_zero, List.set_cons_succ])
              refine wpAnyH_take (i := 20) (v := undef) rfl (by kernel_rfl) (by kernel_rfl) (by kernel_rfl) (fun _ _ _ h => h) (Or.inr ⟨by rfl, rfl⟩) (by assumption) ?_
              (try simp only [List.getElem_toArray, List.getElem_cons_zero, List.getElem_cons_succ, Act.put, List.setIfInBounds_toArray, List.set_cons_zero, List.set_cons_succ])
              refine wpAnyH_take (i := 21) (v := undef) rfl (by kernel_rfl) (by kernel_rfl) (by kernel_rfl) (fun _ _ _ h => h) (Or.inr ⟨by rfl, rfl⟩) (by assumption) ?_
              (try simp only [List.getElem_toArray, List.getElem_cons_zero, List.getElem_cons_succ, Act.put, List.setIfInBounds_toArray, List.set_cons_zero, List.set_cons_succ])
              refine wpAnyH_take (i := 22) (v := undef) rfl (by kernel_rfl) (by kernel_rfl) (by kernel_rfl) (fun _ _ _ h => h) (Or.inr ⟨by rfl, rfl⟩) (by assumption) ?_
              (try simp only [List.getElem_toArray, List.getElem_cons_zero, List.getElem_cons_succ, Act.put, List.setIfInBounds_toArray, List.set_cons_zero, List.set_cons_succ])
              refine wpAnyH_take (i := 23) (v := undef) rfl (by kernel_rfl) (by kernel_rfl) (by kernel_rfl) (fun _ _ _ h => h) (Or.inr ⟨by rfl, rfl⟩) (by assumption) ?_
              (try simp only [List.getElem_toArray, List.getElem_cons_zero, List.getElem_cons_succ, Act.put, List.setIfInBounds_toArray, List.set_cons_zero, List.set_cons_succ])
              refine wpAnyH_take (i := 24) (v := undef) rfl (by kernel_rfl) (by kernel_rfl) (by kernel_rfl) (fun _ _ _ h => h) (Or.inr ⟨by rfl, rfl⟩) (by assumption) ?_
              (try simp only [List.getElem_toArray, List.getElem_cons_zero, List.getElem_cons_succ, Act.put, List.setIfInBounds_toArray, List.set_cons_zero, List.set_cons_succ])
              refine wpAnyH_take (i := 25) (v := undef) rfl (by kernel_rfl) (by kernel_rfl) (by kernel_rfl) (fun _ _ _ h => h) (Or.inr ⟨by rfl, rfl⟩) (by assumption) ?_
              (try simp only [List.getElem_toArray, List.getElem_cons_zero, List.getElem_cons_succ, Act.put, List.setIfInBounds_toArray, List.set_cons_zero, List.set_cons_succ])
              refine wpAnyH_take (i := 26) (v := undef) rfl (by kernel_rfl) (by kernel_rfl) (by kernel_rfl) (fun _ _ _ h => h) (Or.inr ⟨by rfl, rfl⟩) (by assumption) ?_
              (try simp only [List.getElem_toArray, List.getElem_cons_zero, List.getElem_cons_succ, Act.put, List.setIfInBounds_toArray, List.set_cons_zero, List.set_cons_succ])
              refine wpAnyH_take (i := 27) (v := undef) rfl (by kernel_rfl) (by kernel_rfl) (by kernel_rfl) (fun _ _ _ h => h) (Or.inr ⟨by rfl, rfl⟩) (by assumption) ?_
              (try simp only [List.getElem_toArray, List.getElem_cons_zero, List.getElem_cons_succ, Act.put, List.setIfInBounds_toArray, List.set_cons_zero, List.set_cons_succ])
              refine wpAnyH_take (i := 28) (v := undef) rfl (by kernel_rfl) (by kernel_rfl) (by kernel_rfl) (fun _ _ _ h => h) (Or.inr ⟨by rfl, rfl⟩) (by assumption) ?_
              (try simp only [List.getElem_toArray, List.getElem_cons_zero, List.getElem_cons_succ, Act.put, List.setIfInBounds_toArray, List.set_cons_zero, List.set_cons_succ])
              refine wpAnyH_take (i := 29) (v := undef) rfl (by kernel_rfl) (by kernel_rfl) (by kernel_rfl) (fun _ _ _ h => h) (Or.inr ⟨by rfl, rfl⟩) (by assumption) ?_
              (try simp only [List.getElem_toArray, List.getElem_cons_zero, List.getElem_cons_succ, Act.put, List.setIfInBounds_toArray, List.set_cons_zero, List.set_cons_succ])
              refine wpAnyH_take (i := 30) (v := undef) rfl (by kernel_rfl) (by kernel_rfl) (by kernel_rfl) (fun _ _ _ h => h) (Or.inr ⟨by rfl, rfl⟩) (by assumption) ?_
              (try simp only [List.getElem_toArray, List.getElem_cons_zero, List.getElem_cons_succ, Act.put, List.setIfInBounds_toArray, List.set_cons_zero, List.set_cons_succ])
              refine wpAnyH_take (i := 31) (v := undef) rfl (by kernel_rfl) (by kernel_rfl) (by kernel_rfl) (fun _ _ _ h => h) (Or.inr ⟨by rfl, rfl⟩) (by assumption) ?_
              (try simp only [List.getElem_toArray, List.getElem_cons_zero, List.getElem_cons_succ, Act.put, List.setIfInBounds_toArray, List.set_cons_zero, List.set_cons_succ])
              refine wpAnyH_take (i := 32) (v := undef) rfl (by kernel_rfl) (by kernel_rfl) (by kernel_rfl) (fun _ _ _ h => h) (Or.inr ⟨by rfl, rfl⟩) (by assumption) ?_
              (try simp only [List.getElem_toArray, List.getElem_cons_zero, List.getElem_cons_succ, Act.put, List.setIfInBounds_toArray, List.set_cons_zero, List.set_cons_succ])
              refine wpAnyH_take (i := 33) (v := undef) rfl (by kernel_rfl) (by kernel_rfl) (by kernel_rfl) (fun _ _ _ h => h) (Or.inr ⟨by rfl, rfl⟩) (by assumption) ?_
              (try simp only [List.getElem_toArray, List.getElem_cons_zero, List.getElem_cons_succ, Act.put, List.setIfInBounds_toArray, List.set_cons_zero, List.set_cons_succ])
              refine wpAnyH_take (i := 34) (v := undef) rfl (by kernel_rfl) (by kernel_rfl) (by kernel_rfl) (fun _ _ _ h => h) (Or.inr ⟨by rfl, rfl⟩) (by assumption) ?_
              (try simp only [List.getElem_toArray, List.getElem_cons_zero, List.getElem_cons_succ, Act.put, List.setIfInBounds_toArray, List.set_cons_zero, List.set_cons_succ])
              refine wpAnyH_take (i := 35) (v := ?_) rfl (by kernel_rfl) (by kernel_rfl) (by kernel_rfl) (fun _ _ _ h => h) (Or.inl ⟨by rfl, ?_⟩) (by assumption) ?_
              rotate_left
              · intro w hSw; (try dsimp only at hSw); go_simp; (try (with_reducible rfl))
              (try simp only [List.getElem_toArray, List.getElem_cons_zero, List.getElem_cons_succ, Act.put, List.setIfInBounds_toArray, List.set_cons_zero, List.set_cons_succ])
              refine wpAnyH_done (by kernel_rfl) ?_ _
              go_wp2
              go_ret
              rw [HE.out, ← EQ.out, EN.out]
              exact ⟨rfl, K3.out, GG3.out⟩
            · obtain ⟨bb2, H2, hr2⟩ : ∃ b H2, asgN m m' S P S' P' N H1 (P (a * m + k)) (P' (x * m' + y)) = (b, H2) := ⟨_, _, rfl⟩
              have hn1 : nonN m H1 < N := by have := nonN_le (m := m) ok1.ext; have := nonN_le (m := m) XT.out; have := NL.out; have := HN.out; omega
              have WF1 := Lib.hid ok1.wf
              have ok2 := asg_ok RR.out RR'.out N H1 _ _ ok1.wf hp hq hn1
              rw [hr2] at ok2
              dsimp only at ok2
              have I2 := Lib.hid (show ∀ V, Below w.heap.size w V → Blk V g 83 (srC #[.int .i64 m, .int .i64 e, .slice (some ⟨b1, o1, none⟩) la ca, .slice (some ⟨b2, o2, none⟩) lb cb] #[.int .i64 m', .int .i64 e', .slice (some ⟨b1', o1', none⟩) la' ca', .slice (some ⟨b2', o2', none⟩) lb' cb'] H1 fv) → Calls Try.prog 73 #[.pointer (some ⟨g, 0, none⟩), .int .i64 ((P (a * m + k) : Nat) : Int), .int .i64 ((P' (x * m' + y) : Nat) : Int)] V fun e0 W' => e0 = .returned (.bool bb2) ∧ Blk W' g 83 (srC #[.int .i64 m, .int .i64 e, .slice (some ⟨b1, o1, none⟩) la ca, .slice (some ⟨b2, o2, none⟩) lb cb] #[.int .i64 m', .int .i64 e', .slice (some ⟨b1', o1', none⟩) la' ca', .slice (some ⟨b2', o2', none⟩) lb' cb'] H2 fv) ∧ Kg g V W' from fun V h1 h2 => by
                have := IH.out H1 _ _ V h1 h2 WF1.out hp hq hn1
                rw [hr2] at this
                exact this)
              have XT2 := Lib.hid ((XT.out.trans ok1.ext).trans ok2.ext)
              have WF2 := Lib.hid ok2.wf
              cases bb2
              · have EN := Lib.hid (asgL_no2 (S := S) (P := P) (S' := S') (P' := P') (m' := m') (a := a) (x := x) (f := asgN m m' S P S' P' N) hlt hHk hr1 hr2)
                clear hHk hr1 ok1 hr2 ok2 hn1
                go_wp2
                have hd : Below wr.heap.size wr wr.drew := (Below.refl _ _).drew
                have K0 := Lib.hid (KW.out.next hd)
                have B0 := Lib.hid (below_step BW.out hd)
                have GG0 := Lib.hid (GW.out.trans (Kg.of hd))
                have R0 := Lib.hid (RW.out.next hd)
                have Q0 := Lib.hid (RW'.out.next hd)
                clear hd c0 c1 c2 c3 d0 d1 d2 d3
                obtain ⟨p0, p1, p2, p3⟩ := sr_from K0.out
                obtain ⟨p4, p5, p6, p7⟩ := sr_to K0.out
                go_region_held3 (fun w' => w'.cell? ⟨g, 0, none⟩ = some (.int .i64 m) ∧ w'.cell? ⟨g, 1, none⟩ = some (.int .i64 e) ∧ w'.cell? ⟨g, 2, none⟩ = some (.slice (some ⟨b1, o1, none⟩) la ca) ∧ w'.cell? ⟨g, 3, none⟩ = some (.slice (some ⟨b2, o2, none⟩) lb cb) ∧ w'.cell? ⟨g, 4, none⟩ = some (.int .i64 m') ∧ w'.cell? ⟨g, 5, none⟩ = some (.int .i64 e') ∧ w'.cell? ⟨g, 6, none⟩ = some (.slice (some ⟨b1', o1', none⟩) la' ca') ∧ w'.cell? ⟨g, 7, none⟩ = some (.slice (some ⟨b2', o2', none⟩) lb' cb'))
                  (first | exact ⟨p0, p1, p2, p3, p4, p5, p6, p7⟩ | exact ⟨q0, q1, q2, q3, q4, q5, q6, q7⟩ | exact ⟨r0, r1, r2, r3, r4, r5, r6, r7⟩ | exact ⟨s0, s1, s2, s3, s4, s5, s6, s7⟩ | exact ⟨t0, t1, t2, t3, t4, t5, t6, t7⟩ | exact ⟨u0, u1, u2, u3, u4, u5, u6, u7⟩ | exact ⟨v0, v1, v2, v3, v4, v5, v6, v7⟩)
                  (first
                    | (go_at_call 122; (with_reducible refine (sum_any a k m e b1 o1 la ca b2 o2 lb cb S P _ R0.out ha hlt).mono ?_); rintro ee1 ww1 ⟨rfl, hb1⟩; have K1 := Lib.hid (K0.out.next hb1); have B1 := Lib.hid (below_step B0.out hb1); have GG1 := Lib.hid (GG0.out.trans (Kg.of hb1)); have R1 := Lib.hid (R0.out.next hb1); have Q1 := Lib.hid (Q0.out.next hb1); clear hb1; obtain ⟨q0, q1, q2, q3⟩ := sr_from K1.out; obtain ⟨q4, q5, q6, q7⟩ := sr_to K1.out)
                    | (go_at_call 122; (with_reducible refine (sum_any x y m' e' b1' o1' la' ca' b2' o2' lb' cb' S' P' _ Q1.out hx hy).mono ?_); rintro ee2 ww2 ⟨rfl, hb2⟩; have K2 := Lib.hid (K1.out.next hb2); have B2 := Lib.hid (below_step B1.out hb2); have GG2 := Lib.hid (GG1.out.trans (Kg.of hb2)); have R2 := Lib.hid (R1.out.next hb2); have Q2 := Lib.hid (Q1.out.next hb2); clear hb2; obtain ⟨r0, r1, r2, r3⟩ := sr_from K2.out; obtain ⟨r4, r5, r6, r7⟩ := sr_to K2.out)
                    | (go_at_call 73; (with_reducible refine (I1.out _ B2.out K2.out).mono ?_); rintro ee3 ww3 ⟨rfl, hK, hg3⟩; have K3 := Lib.hid hK; have hbb := hg3.below hg B2.out.size; have B3 := Lib.hid (B2.out.trans hbb); have GG3 := Lib.hid (GG2.out.trans hg3); have R3 := Lib.hid (HR.out.next B3.out); have Q3 := Lib.hid (HR'.out.next B3.out); clear hK hbb hg3; obtain ⟨s0, s1, s2, s3⟩ := sr_from K3.out; obtain ⟨s4, s5, s6, s7⟩ := sr_to K3.out)
                    | (go_at_call 123; (with_reducible refine (product_any a k m e b1 o1 la ca b2 o2 lb cb S P _ R3.out ha hlt).mono ?_); rintro ee4 ww4 ⟨rfl, hb4⟩; have K4 := Lib.hid (K3.out.next hb4); have B4 := Lib.hid (below_step B3.out hb4); have GG4 := Lib.hid (GG3.out.trans (Kg.of hb4)); have R4 := Lib.hid (R3.out.next hb4); have Q4 := Lib.hid (Q3.out.next hb4); clear hb4; obtain ⟨t0, t1, t2, t3⟩ := sr_from K4.out; obtain ⟨t4, t5, t6, t7⟩ := sr_to K4.out)
                    | (go_at_call 123; (with_reducible refine (product_any x y m' e' b1' o1' la' ca' b2' o2' lb' cb' S' P' _ Q4.out hx hy).mono ?_); rintro ee5 ww5 ⟨rfl, hb5⟩; have K5 := Lib.hid (K4.out.next hb5); have B5 := Lib.hid (below_step B4.out hb5); have GG5 := Lib.hid (GG4.out.trans (Kg.of hb5)); have R5 := Lib.hid (R4.out.next hb5); have Q5 := Lib.hid (Q4.out.next hb5); clear hb5; obtain ⟨u0, u1, u2, u3⟩ := sr_from K5.out; obtain ⟨u4, u5, u6, u7⟩ := sr_to K5.out)
                    | (go_at_call 73; (with_reducible refine (I2.out _ B5.out K5.out).mono ?_); rintro ee6 ww6 ⟨rfl, hK, hg6⟩; have K6 := Lib.hid hK; have hbb := hg6.below hg B5.out.size; have B6 := Lib.hid (B5.out.trans hbb); have GG6 := Lib.hid (GG5.out.trans hg6); have R6 := Lib.hid (HR.out.next B6.out); have Q6 := Lib.hid (HR'.out.next B6.out); clear hK hbb hg6; obtain ⟨v0, v1, v2, v3⟩ := sr_from K6.out; obtain ⟨v4, v5, v6, v7⟩ := sr_to K6.out))
                go_wp2
                go_ret
                rw [HE.out, ← EQ.out, EN.out]
                exact ⟨rfl, K6.out, GG6.out⟩
              · have EN := Lib.hid (asgL_yes (S := S) (P := P) (S' := S') (P' := P') (m' := m') (a := a) (x := x) (f := asgN m m' S P S' P' N) hlt hHk hr1 hr2)
                clear hHk hr1 ok1 hr2 ok2 hn1
                go_wp2
                have hd : Below wr.heap.size wr wr.drew := (Below.refl _ _).drew
                have K0 := Lib.hid (KW.out.next hd)
                have B0 := Lib.hid (below_step BW.out hd)
                have GG0 := Lib.hid (GW.out.trans (Kg.of hd))
                have R0 := Lib.hid (RW.out.next hd)
                have Q0 := Lib.hid (RW'.out.next hd)
                clear hd c0 c1 c2 c3 d0 d1 d2 d3
                obtain ⟨p0, p1, p2, p3⟩ := sr_from K0.out
                obtain ⟨p4, p5, p6, p7⟩ := sr_to K0.out
                go_region_held3 (fun w' => w'.cell? ⟨g, 0, none⟩ = some (.int .i64 m) ∧ w'.cell? ⟨g, 1, none⟩ = some (.int .i64 e) ∧ w'.cell? ⟨g, 2, none⟩ = some (.slice (some ⟨b1, o1, none⟩) la ca) ∧ w'.cell? ⟨g, 3, none⟩ = some (.slice (some ⟨b2, o2, none⟩) lb cb) ∧ w'.cell? ⟨g, 4, none⟩ = some (.int .i64 m') ∧ w'.cell? ⟨g, 5, none⟩ = some (.int .i64 e') ∧ w'.cell? ⟨g, 6, none⟩ = some (.slice (some ⟨b1', o1', none⟩) la' ca') ∧ w'.cell? ⟨g, 7, none⟩ = some (.slice (some ⟨b2', o2', none⟩) lb' cb'))
                  (first | exact ⟨p0, p1, p2, p3, p4, p5, p6, p7⟩ | exact ⟨q0, q1, q2, q3, q4, q5, q6, q7⟩ | exact ⟨r0, r1, r2, r3, r4, r5, r6, r7⟩ | exact ⟨s0, s1, s2, s3, s4, s5, s6, s7⟩ | exact ⟨t0, t1, t2, t3, t4, t5, t6, t7⟩ | exact ⟨u0, u1, u2, u3, u4, u5, u6, u7⟩ | exact ⟨v0, v1, v2, v3, v4, v5, v6, v7⟩)
                  (first
                    | (go_at_call 122; (with_reducible refine (sum_any a k m e b1 o1 la ca b2 o2 lb cb S P _ R0.out ha hlt).mono ?_); rintro ee1 ww1 ⟨rfl, hb1⟩; have K1 := Lib.hid (K0.out.next hb1); have B1 := Lib.hid (below_step B0.out hb1); have GG1 := Lib.hid (GG0.out.trans (Kg.of hb1)); have R1 := Lib.hid (R0.out.next hb1); have Q1 := Lib.hid (Q0.out.next hb1); clear hb1; obtain ⟨q0, q1, q2, q3⟩ := sr_from K1.out; obtain ⟨q4, q5, q6, q7⟩ := sr_to K1.out)
                    | (go_at_call 122; (with_reducible refine (sum_any x y m' e' b1' o1' la' ca' b2' o2' lb' cb' S' P' _ Q1.out hx hy).mono ?_); rintro ee2 ww2 ⟨rfl, hb2⟩; have K2 := Lib.hid (K1.out.next hb2); have B2 := Lib.hid (below_step B1.out hb2); have GG2 := Lib.hid (GG1.out.trans (Kg.of hb2)); have R2 := Lib.hid (R1.out.next hb2); have Q2 := Lib.hid (Q1.out.next hb2); clear hb2; obtain ⟨r0, r1, r2, r3⟩ := sr_from K2.out; obtain ⟨r4, r5, r6, r7⟩ := sr_to K2.out)
                    | (go_at_call 73; (with_reducible refine (I1.out _ B2.out K2.out).mono ?_); rintro ee3 ww3 ⟨rfl, hK, hg3⟩; have K3 := Lib.hid hK; have hbb := hg3.below hg B2.out.size; have B3 := Lib.hid (B2.out.trans hbb); have GG3 := Lib.hid (GG2.out.trans hg3); have R3 := Lib.hid (HR.out.next B3.out); have Q3 := Lib.hid (HR'.out.next B3.out); clear hK hbb hg3; obtain ⟨s0, s1, s2, s3⟩ := sr_from K3.out; obtain ⟨s4, s5, s6, s7⟩ := sr_to K3.out)
                    | (go_at_call 123; (with_reducible refine (product_any a k m e b1 o1 la ca b2 o2 lb cb S P _ R3.out ha hlt).mono ?_); rintro ee4 ww4 ⟨rfl, hb4⟩; have K4 := Lib.hid (K3.out.next hb4); have B4 := Lib.hid (below_step B3.out hb4); have GG4 := Lib.hid (GG3.out.trans (Kg.of hb4)); have R4 := Lib.hid (R3.out.next hb4); have Q4 := Lib.hid (Q3.out.next hb4); clear hb4; obtain ⟨t0, t1, t2, t3⟩ := sr_from K4.out; obtain ⟨t4, t5, t6, t7⟩ := sr_to K4.out)
                    | (go_at_call 123; (with_reducible refine (product_any x y m' e' b1' o1' la' ca' b2' o2' lb' cb' S' P' _ Q4.out hx hy).mono ?_); rintro ee5 ww5 ⟨rfl, hb5⟩; have K5 := Lib.hid (K4.out.next hb5); have B5 := Lib.hid (below_step B4.out hb5); have GG5 := Lib.hid (GG4.out.trans (Kg.of hb5)); have R5 := Lib.hid (R4.out.next hb5); have Q5 := Lib.hid (Q4.out.next hb5); clear hb5; obtain ⟨u0, u1, u2, u3⟩ := sr_from K5.out; obtain ⟨u4, u5, u6, u7⟩ := sr_to K5.out)
                    | (go_at_call 73; (with_reducible refine (I2.out _ B5.out K5.out).mono ?_); rintro ee6 ww6 ⟨rfl, hK, hg6⟩; have K6 := Lib.hid hK; have hbb := hg6.below hg B5.out.size; have B6 := Lib.hid (B5.out.trans hbb); have GG6 := Lib.hid (GG5.out.trans hg6); have R6 := Lib.hid (HR.out.next B6.out); have Q6 := Lib.hid (HR'.out.next B6.out); clear hK hbb hg6; obtain ⟨v0, v1, v2, v3⟩ := sr_from K6.out; obtain ⟨v4, v5, v6, v7⟩ := sr_to K6.out))
                clear p0 p1 p2 p3 p4 p5 p6 p7 q0 q1 q2 q3 q4 q5 q6 q7 r0 r1 r2 r3 r4 r5 r6 r7 s0 s1 s2 s3 s4 s5 s6 s7 t0 t1 t2 t3 t4 t5 t6 t7 u0 u1 u2 u3 u4 u5 u6 u7 v0 v1 v2 v3 v4 v5 v6 v7
                go_wp2
                go_roundg (m - (k + 1))
                case measure => omega
                case rel => exact ⟨k + 1, H2, by omega, by omega, by go_num, K6.out, GG6.out, B6.out, WF2.out, XT2.out, by rw [← EN.out]; exact EQ.out⟩
        · have hkm : k = m := by omega
          subst hkm
          have EN := Lib.hid (asgL_end (m := k) (m' := m') (S := S) (P := P) (S' := S') (P' := P') (G := H) (a := a) (x := x) (f := asgN k m' S P S' P' N))
          go_wp2
          go_ret
          rw [HE.out, ← EQ.out, EN.out]
          exact ⟨rfl, KW.out, GW.out⟩

end Go.Proofs.Ytcbodedpahdobaa


/- newSearch of the program. -/
namespace Go.Proofs.Ytcbodedpahdobaa
open Go.RowKit
set_option maxRecDepth 100000

theorem srC_ext {rc sc : Array Value} {F G : PMap} {fv : Value} (h : ∀ i, i < 16 → F i = G i) : srC rc sc F fv = srC rc sc G fv := by
  apply Array.ext
  · simp [srC]
  · intro i h1 _
    have h25 : i < 25 := by simpa [srC] using h1
    simp only [srC, Array.getElem_map, Array.getElem_range]
    unfold srV
    by_cases h4 : i < 4
    · rw [if_pos h4, if_pos h4]
    · by_cases h8 : i < 8
      · rw [if_neg h4, if_pos h8, if_neg h4, if_pos h8]
      · by_cases h24 : i < 24
        · rw [if_neg h4, if_neg h8, if_pos h24, if_neg h4, if_neg h8, if_pos h24, show imI F (i - 8) = imI G (i - 8) from by unfold imI; rw [h _ (by omega)]]
        · rw [if_neg h4, if_neg h8, if_neg h24, if_neg h4, if_neg h8, if_neg h24]
def delF (F : PMap) (a : Nat) : PMap := fun i => if i = a then none else F i
theorem srC_del {rc sc : Array Value} {F : PMap} {fv : Value} {a : Nat} (ha : a < 16) : (srC rc sc F fv).setIfInBounds (8 + a) (.int .i64 (-1)) = srC rc sc (delF F a) fv := by
  apply Array.ext
  · simp [srC]
  · intro i h1 _
    have h25 : i < 25 := by simpa [srC] using h1
    rw [Array.getElem_setIfInBounds (by simpa [srC] using h25)]
    simp only [srC, Array.getElem_map, Array.getElem_range]
    unfold srV
    by_cases h4 : i < 4
    · rw [if_neg (show ¬ 8 + a = i by omega), if_pos h4, if_pos h4]
    · by_cases h8 : i < 8
      · rw [if_neg (show ¬ 8 + a = i by omega), if_neg h4, if_pos h8, if_neg h4, if_pos h8]
      · by_cases h24 : i < 24
        · by_cases e : 8 + a = i
          · rw [if_pos e, if_neg h4, if_neg h8, if_pos h24, show i - 8 = a by omega, show imI (delF F a) a = -1 from by unfold imI delF; rw [if_pos rfl]]
          · rw [if_neg e, if_neg h4, if_neg h8, if_pos h24, if_neg h4, if_neg h8, if_pos h24, show imI (delF F a) (i - 8) = imI F (i - 8) from by unfold imI delF; rw [if_neg (show ¬ i - 8 = a by omega)]]
        · rw [if_neg (show ¬ 8 + a = i by omega), if_neg h4, if_neg h8, if_neg h24, if_neg h4, if_neg h8, if_neg h24]
/-- No image below k. -/
def fromF (k : Nat) : PMap := fun i => if i < k then none else some 0
theorem fromF_del {k : Nat} : delF (fromF k) k = fromF (k + 1) := funext fun i => by
  unfold delF fromF
  by_cases h : i = k
  · rw [if_pos h, if_pos (by omega)]
  · by_cases h2 : i < k
    · rw [if_neg h, if_pos h2, if_pos (by omega)]
    · rw [if_neg h, if_neg h2, if_neg (by omega)]

theorem srC_zero {r0 r1 r2 r3 s0 s1 s2 s3 fv : Value} : srC #[r0, r1, r2, r3] #[s0, s1, s2, s3] (fromF 0) fv = #[r0, r1, r2, r3, s0, s1, s2, s3, .int .i64 0, .int .i64 0, .int .i64 0, .int .i64 0, .int .i64 0, .int .i64 0, .int .i64 0, .int .i64 0, .int .i64 0, .int .i64 0, .int .i64 0, .int .i64 0, .int .i64 0, .int .i64 0, .int .i64 0, .int .i64 0, fv] := by
  unfold srC
  rw [show Array.range 25 = #[0, 1, 2, 3, 4, 5, 6, 7, 8, 9, 10, 11, 12, 13, 14, 15, 16, 17, 18, 19, 20, 21, 22, 23, 24] from rfl]
  simp [srV, imI, fromF]

set_option maxHeartbeats 8000000 in
theorem newSearch_any (m e b1 o1 la ca b2 o2 lb cb : Nat) (S P : Nat → Nat) (w : World) (hr : RingAt w m e b1 o1 la ca b2 o2 lb cb S P) (m' e' b1' o1' la' ca' b2' o2' lb' cb' : Nat) (S' P' : Nat → Nat) (hr' : RingAt w m' e' b1' o1' la' ca' b2' o2' lb' cb' S' P') (R : RTab m S P e) (R' : RTab m' S' P' e') :
    Calls Try.prog 72 #[.agg #[.int .i64 m, .int .i64 e, .slice (some ⟨b1, o1, none⟩) la ca, .slice (some ⟨b2, o2, none⟩) lb cb], .agg #[.int .i64 m', .int .i64 e', .slice (some ⟨b1', o1', none⟩) la' ca', .slice (some ⟨b2', o2', none⟩) lb' cb']] w fun e0 w' => ∃ g fv, e0 = .returned (.tuple #[.pointer (some ⟨g, 0, none⟩), .bool (asgN m m' S P S' P' 17 (fun _ => none) e e').1]) ∧ w.heap.size ≤ g ∧ Blk w' g 83 (srC #[.int .i64 m, .int .i64 e, .slice (some ⟨b1, o1, none⟩) la ca, .slice (some ⟨b2, o2, none⟩) lb cb] #[.int .i64 m', .int .i64 e', .slice (some ⟨b1', o1', none⟩) la' ca', .slice (some ⟨b2', o2', none⟩) lb' cb'] (asgN m m' S P S' P' 17 (fun _ => none) e e').2 fv) ∧ Below w.heap.size w w' := by
  obtain ⟨W, hW⟩ : ∃ W, (w.alloc (.cells #[.int .i64 m, .int .i64 e, .slice (some ⟨b1, o1, none⟩) la ca, .slice (some ⟨b2, o2, none⟩) lb cb] 25)).alloc (.cells #[.int .i64 m', .int .i64 e', .slice (some ⟨b1', o1', none⟩) la' ca', .slice (some ⟨b2', o2', none⟩) lb' cb'] 25) = W := ⟨_, rfl⟩
  have k0 : Blk W w.heap.size 25 #[.int .i64 m, .int .i64 e, .slice (some ⟨b1, o1, none⟩) la ca, .slice (some ⟨b2, o2, none⟩) lb cb] := by
    subst hW; exact (Blk.new w _ _).alloc _
  have k1 : Blk W (w.heap.size + 1) 25 #[.int .i64 m', .int .i64 e', .slice (some ⟨b1', o1', none⟩) la' ca', .slice (some ⟨b2', o2', none⟩) lb' cb'] := by
    subst hW
    have := Blk.new (w.alloc (.cells #[.int .i64 m, .int .i64 e, .slice (some ⟨b1, o1, none⟩) la ca, .slice (some ⟨b2, o2, none⟩) lb cb] 25)) 25 #[.int .i64 m', .int .i64 e', .slice (some ⟨b1', o1', none⟩) la' ca', .slice (some ⟨b2', o2', none⟩) lb' cb']
    rw [World.size_alloc] at this
    exact this
  have b0 : Below w.heap.size w W := by
    subst hW; exact ((Below.refl _ _).alloc (Nat.le_refl _) _).alloc (by simp) _
  have HR0 := Lib.hid hr
  have HR0' := Lib.hid hr'
  have K0 := Lib.hid k0
  have K1 := Lib.hid k1
  have B0 := Lib.hid b0
  have HW := Lib.hid hW
  have RR := Lib.hid R
  have RR' := Lib.hid R'
  have he := hr.he
  have he' := hr'.he
  obtain ⟨c0, c1, c2, c3⟩ := blk4 k0
  obtain ⟨d0, d1, d2, d3⟩ := blk4 k1
  clear hr hr' k0 k1 b0 hW R R'
  go_enter Try.func72, Try.ntmps72
  go_upto_region 1 with (fail)
  rw [HW.out]
  go_upto_region 2 with (fail)
  obtain ⟨g, hgW⟩ : ∃ g, W.heap.size = g := ⟨_, rfl⟩
  obtain ⟨V, hV⟩ : ∃ V, W.alloc (.cells #[.int .i64 m, .int .i64 e, .slice (some ⟨b1, o1, none⟩) la ca, .slice (some ⟨b2, o2, none⟩) lb cb, .int .i64 m', .int .i64 e', .slice (some ⟨b1', o1', none⟩) la' ca', .slice (some ⟨b2', o2', none⟩) lb' cb', .int .i64 0, .int .i64 0, .int .i64 0, .int .i64 0, .int .i64 0, .int .i64 0, .int .i64 0, .int .i64 0, .int .i64 0, .int .i64 0, .int .i64 0, .int .i64 0, .int .i64 0, .int .i64 0, .int .i64 0, .int .i64 0, .nilFunc] 83) = V := ⟨_, rfl⟩
  have kV : Blk V g 83 (srC #[.int .i64 m, .int .i64 e, .slice (some ⟨b1, o1, none⟩) la ca, .slice (some ⟨b2, o2, none⟩) lb cb] #[.int .i64 m', .int .i64 e', .slice (some ⟨b1', o1', none⟩) la' ca', .slice (some ⟨b2', o2', none⟩) lb' cb'] (fromF 0) .nilFunc) := by
    subst hV hgW
    rw [srC_zero]
    exact Blk.new W 83 #[.int .i64 m, .int .i64 e, .slice (some ⟨b1, o1, none⟩) la ca, .slice (some ⟨b2, o2, none⟩) lb cb, .int .i64 m', .int .i64 e', .slice (some ⟨b1', o1', none⟩) la' ca', .slice (some ⟨b2', o2', none⟩) lb' cb', .int .i64 0, .int .i64 0, .int .i64 0, .int .i64 0, .int .i64 0, .int .i64 0, .int .i64 0, .int .i64 0, .int .i64 0, .int .i64 0, .int .i64 0, .int .i64 0, .int .i64 0, .int .i64 0, .int .i64 0, .int .i64 0, .nilFunc]
  have bV : Below W.heap.size W V := by subst hV; exact (Below.refl _ _).alloc (Nat.le_refl _) _
  rw [hV, hgW]
  have KV := Lib.hid kV
  have BV := Lib.hid (below_step B0.out bV)
  have KV0 := Lib.hid (K0.out.next bV)
  have KV1 := Lib.hid (K1.out.next bV)
  have g2 : w.heap.size ≤ g := by have := B0.out.size; omega
  have hg0 : g ≠ w.heap.size := by have := K0.out.lt; omega
  have hg1 : g ≠ w.heap.size + 1 := by have := K1.out.lt; omega
  clear kV bV hV hgW c0 c1 c2 c3 d0 d1 d2 d3
  go_wp2
  go_loopg [12] 16 (fun gk vi wr => ∃ k : Nat, k ≤ 16 ∧ 16 ≤ k + gk ∧ vi = .int .i64 k ∧ Blk wr g 83 (srC #[.int .i64 m, .int .i64 e, .slice (some ⟨b1, o1, none⟩) la ca, .slice (some ⟨b2, o2, none⟩) lb cb] #[.int .i64 m', .int .i64 e', .slice (some ⟨b1', o1', none⟩) la' ca', .slice (some ⟨b2', o2', none⟩) lb' cb'] (fromF k) .nilFunc) ∧ Kg g V wr)
  case atStart => exact ⟨0, Nat.zero_le _, by omega, rfl, KV.out, Kg.refl _ _⟩
  case round =>
    obtain ⟨k, hk, hgk, rfl, hb, hkg⟩ := hrel
    have KW := Lib.hid hb
    have GW := Lib.hid hkg
    by_cases hlt : k < 16
    · have c := sr_im hb hlt
      have fz := hb.frozen (8 + k)
      have lg := hb.lt
      have k0 : (0 : Int) ≤ (k : Int) := by omega
      have k1 : (k : Int) < 16 := by omega
      have KN := Lib.hid (show Blk (wr.setCell ⟨g, 8 + k, none⟩ (.int .i64 (-1))) g 83 (srC #[.int .i64 m, .int .i64 e, .slice (some ⟨b1, o1, none⟩) la ca, .slice (some ⟨b2, o2, none⟩) lb cb] #[.int .i64 m', .int .i64 e', .slice (some ⟨b1', o1', none⟩) la' ca', .slice (some ⟨b2', o2', none⟩) lb' cb'] (fromF (k + 1)) .nilFunc) from by
        have := hb.set_ (8 + k) (.int .i64 (-1))
        rwa [srC_del hlt, fromF_del] at this)
      have GN := Lib.hid (hkg.set_ (8 + k) (.int .i64 (-1)))
      clear hb hkg
      go_wp2
      go_roundg (16 - (k + 1))
      case measure => omega
      case rel => exact ⟨k + 1, by omega, by omega, by go_num, KN.out, GN.out⟩
    · have hk16 : k = 16 := by omega
      subst hk16
      have K2 := KW.out
      rw [srC_ext (G := fun _ => none) (fun i hi => by unfold fromF; rw [if_pos hi])] at K2
      have K3 := Lib.hid K2
      have BW := Lib.hid (BV.out.trans (hkg.below g2 BV.out.size))
      obtain ⟨c0, c1, c2, c3⟩ := blk4 (KV0.out.kg hkg (Ne.symm hg0))
      obtain ⟨d0, d1, d2, d3⟩ := blk4 (KV1.out.kg hkg (Ne.symm hg1))
      clear hb hkg K2
      go_wp2_with (fail)
      refine (assign_any g .nilFunc m e b1 o1 la ca b2 o2 lb cb S P w HR0.out m' e' b1' o1' la' ca' b2' o2' lb' cb' S' P' HR0'.out RR.out RR'.out g2 17 (fun _ => none) e e' wr BW.out K3.out (fun a x h => by cases h) he he' (by have := nonN_m (m := m) (F := fun _ => none); have := HR0.out.hm'; omega)).mono ?_
      rintro e5 w5 ⟨rfl, hk5, hg5⟩
      have B5 := Lib.hid (BW.out.trans (hg5.below g2 BW.out.size))
      have K5 := Lib.hid hk5
      clear hk5 hg5
      go_wp2
      go_ret2
      exact ⟨g, .nilFunc, rfl, g2, K5.out, B5.out⟩

end Go.Proofs.Ytcbodedpahdobaa


/- SubringOf of the program. -/
namespace Go.Proofs.Ytcbodedpahdobaa
open Go.RowKit Go.Shelf
set_option maxRecDepth 100000
attribute [local go_sem] Oper.semAt_some

noncomputable def sbrL (n o : Int) (X Y L : List Int) : List Int := if ideB n o X Y L = true then lstP n.toNat (subG n.toNat (tabOf X) (tabOf Y) o.toNat (setL L)) else []
theorem sbr_yes {n o : Int} {X Y L : List Int} (h : ideB n o X Y L = true) : sbrL n o X Y L = lstP n.toNat (subG n.toNat (tabOf X) (tabOf Y) o.toNat (setL L)) := if_pos h
theorem sbr_no {n o : Int} {X Y L : List Int} (h : ideB n o X Y L = false) : sbrL n o X Y L = [] := if_neg (by rw [h]; simp)

set_option maxHeartbeats 1000000 in
theorem sub1_any (gb g a : Nat) (F : PMap) (fv : Value) (rc sc : Array Value) (w : World) (hg : Blk w gb 77 #[.pointer (some ⟨g, 0, none⟩)]) (hs : Blk w g 83 (srC rc sc F fv)) (ha : a < 16) :
    Calls Try.prog 74 (#[.int .i64 a] ++ #[.pointer (some ⟨gb, 0, none⟩)]) w fun e' w' => e' = .returned (.bool (F a).isSome) ∧ Below w.heap.size w w' := by
  show Calls Try.prog 74 #[.int .i64 a, .pointer (some ⟨gb, 0, none⟩)] w _
  have c0 := hg.cell 0
  simp at c0
  have c := sr_im hs ha
  have a0 : (0 : Int) ≤ (a : Int) := by omega
  have a1 : (a : Int) < 16 := by omega
  cases hF : F a with
  | none =>
    rw [imI_none hF] at c
    clear hF hs hg
    go_enter Try.func74, Try.ntmps74
    go_wp2
    go_ret
    exact ⟨rfl, Below.refl _ _⟩
  | some x =>
    rw [imI_some hF] at c
    have t0 : (((x : Nat) : Int) != -1) = true := by rw [bne_iff_ne]; omega
    clear hF hs hg
    go_enter Try.func74, Try.ntmps74
    go_wp2
    go_ret
    exact ⟨rfl, Below.refl _ _⟩

set_option maxHeartbeats 8000000 in
theorem sub_any (n o : Int) (A B C : Option Addr) (la ca lb cb len cap : Nat) (X Y L : List Int) (w : World) (hX : Ints w w.heap.size A la X) (hY : Ints w w.heap.size B lb Y) (hL : Ints w w.heap.size C len L) (hla : la ≤ 9223372036854775807) (hlb : lb ≤ 9223372036854775807) (hlen : len ≤ 9223372036854775807) (hca : la ≤ ca) (hcb : lb ≤ cb) :
    Calls Try.prog 23 #[.agg #[.int .i64 n, .int .i64 o, .slice A la ca, .slice B lb cb], .slice C len cap] w fun e' w' => ∃ v, e' = .returned (.tuple #[v, .bool (ideB n o X Y L)]) ∧ SliceOut w.heap.size w' v (sbrL n o X Y L) ∧ Below w.heap.size w w' := by
  obtain ⟨W, hW⟩ : ∃ W, w.alloc (.cells #[.int .i64 n, .int .i64 o, .slice A la ca, .slice B lb cb] 25) = W := ⟨_, rfl⟩
  have k0 : Blk W w.heap.size 25 #[.int .i64 n, .int .i64 o, .slice A la ca, .slice B lb cb] := by
    subst hW; exact Blk.new w _ _
  have b0 : Below w.heap.size w W := by
    subst hW; exact (Below.refl _ _).alloc (Nat.le_refl _) _
  have HX := Lib.hid (hX.next b0)
  have HY := Lib.hid (hY.next b0)
  have HL := Lib.hid (hL.next b0)
  have HL0 := Lib.hid hL
  have B0 := Lib.hid b0
  have HW := Lib.hid hW
  have K0 := Lib.hid k0
  have hs0 := k0.lt
  obtain ⟨c0, c1, c2, c3⟩ := blk4 k0
  clear k0 b0 hW hL
  cases hv : validB n o X Y
  · have hz := Lib.hid (ide_noV (L := L) hv)
    clear hX hY
    go_enter Try.func23, Try.ntmps23
    go_wp2_with (fail)
    rw [HW.out]
    go_wp2_with (go_at_call 60; refine (valid_any _ _ _ _ _ _ _ _ X Y _ HX.out HY.out hla hlb hca hcb).mono ?_; rintro e1 w1 ⟨rfl, hb1⟩)
    go_ret2
    exact ⟨.slice none 0 0, by rw [hz.out]; rfl, by rw [sbr_no hz.out]; exact SliceOut.nil, below_step B0.out hb1⟩
  · cases ha : allB n L
    · have hz := Lib.hid (ide_noA (o := o) (X := X) (Y := Y) ha)
      clear hX hY
      go_enter Try.func23, Try.ntmps23
      go_wp2_with (fail)
      rw [HW.out]
      go_wp2_with (first
        | (go_at_call 60; refine (valid_any _ _ _ _ _ _ _ _ X Y _ HX.out HY.out hla hlb hca hcb).mono ?_; rintro e1 w1 ⟨rfl, hb1⟩; obtain ⟨d0, d1, d2, d3⟩ := blk4 (K0.out.next hb1))
        | (go_at_call 61; refine (hasAll_any _ _ _ _ _ _ _ _ _ _ _ L _ (HL.out.next hb1) hlen).mono ?_; rw [ha]; rintro e2 w2 ⟨rfl, hb2⟩))
      go_ret2
      exact ⟨.slice none 0 0, by rw [hz.out]; rfl, by rw [sbr_no hz.out]; exact SliceOut.nil, below_step (below_step B0.out hb1) hb2⟩
    · have hz := Lib.hid (ide_yes hv ha)
      obtain ⟨m, e, b1, o1, b2, o2, rfl, rfl, rfl, rfl, hr, _, _, _, _, _⟩ := valid_data hv hX hY hca hcb
      have R := rtab_of_valid hv
      obtain ⟨LF, rfl⟩ := finOf (all_iff.1 ha)
      have hm' := hr.hm'
      have HR0 := Lib.hid hr
      have HA := Lib.hid ha
      have RR := Lib.hid R
      have HLF := Lib.hid (show LF.length = len by rw [← HL0.out.1, finI_len])
      have hpl : ∀ i, memB (finN LF) i = true → i < m := fun i hi => by
        have := memB_iff.1 hi
        simp only [finN, List.mem_map] at this
        obtain ⟨z, _, rfl⟩ := this
        exact z.2
      have HPL := Lib.hid hpl
      have hZ := Lib.hid (show sbrL m e X Y (finI LF) = lstP m (subG m (tabOf X) (tabOf Y) e (memB (finN LF))) by rw [sbr_yes hz.out, Int.toNat_natCast, Int.toNat_natCast, setL_fin])
      clear hX hY hr ha R hpl
      go_enter Try.func23, Try.ntmps23
      go_wp2_with (fail)
      rw [HW.out]
      go_wp2_with (first
        | (go_at_call 60; refine (valid_any _ _ _ _ _ _ _ _ X Y _ HX.out HY.out hla hlb hca hcb).mono ?_; rintro e1 w1 ⟨rfl, hb1⟩; obtain ⟨d0, d1, d2, d3⟩ := blk4 (K0.out.next hb1))
        | (go_at_call 61; refine (hasAll_any _ _ _ _ _ _ _ _ _ _ _ (finI LF) _ (HL.out.next hb1) hlen).mono ?_; rw [HA.out]; rintro e2 w2 ⟨rfl, hb2⟩; obtain ⟨f0, f1, f2, f3⟩ := blk4 ((K0.out.next hb1).next hb2)))
      have B2 := Lib.hid (below_step (below_step B0.out hb1) hb2)
      have K2 := Lib.hid ((K0.out.next hb1).next hb2)
      clear hb1 hb2 d0 d1 d2 d3 c0 c1 c2 c3
      refine (newSearch_any m e b1 o1 la ca b2 o2 lb cb (tabOf X) (tabOf Y) w2 (HR0.out.next B2.out) m e b1 o1 la ca b2 o2 lb cb (tabOf X) (tabOf Y) (HR0.out.next B2.out) RR.out RR.out).mono ?_
      rintro e3 w3 ⟨g, fv, rfl, hgg, hk3, hb3⟩
      obtain ⟨bS, G0, hG0⟩ : ∃ b G, asgN m m (tabOf X) (tabOf Y) (tabOf X) (tabOf Y) 17 (fun _ => none) e e = (b, G) := ⟨_, _, rfl⟩
      have ok0 := asg_ok RR.out RR.out 17 (fun _ => none) e e (fun a x h => by cases h) HR0.out.he HR0.out.he (by have := nonN_m (m := m) (F := fun _ => none); omega)
      rw [hG0] at ok0 hk3 ⊢
      dsimp only at ok0 hk3 ⊢
      have ST0 := Lib.hid (RR.out.sub_start ok0).2
      have hB0 := (RR.out.sub_start ok0).1
      subst hB0
      have K3 := Lib.hid hk3
      have K03 := Lib.hid (K2.out.next hb3)
      have B3 := Lib.hid (below_step B2.out hb3)
      have g2 : w.heap.size ≤ g := by have := B2.out.size; omega
      have lg3 := hk3.lt
      clear hk3 hb3 hG0 ok0 f0 f1 f2 f3
      go_upto_region 4 with (fail)
      obtain ⟨gb, hgb⟩ : ∃ gb, w3.heap.size = gb := ⟨_, rfl⟩
      obtain ⟨V, hV⟩ : ∃ V, w3.alloc (.cells #[.pointer (some ⟨g, 0, none⟩)] 77) = V := ⟨_, rfl⟩
      have kV : Blk V gb 77 #[.pointer (some ⟨g, 0, none⟩)] := by subst hV hgb; exact Blk.new w3 _ _
      have bV : Below w3.heap.size w3 V := by subst hV; exact (Below.refl _ _).alloc (Nat.le_refl _) _
      rw [hV, hgb]
      have KB := Lib.hid kV
      have KV := Lib.hid (K3.out.next bV)
      have K0V := Lib.hid (K03.out.next bV)
      have BV := Lib.hid (below_step B3.out bV)
      have ngb : gb ≠ g := by omega
      have ng0 : w.heap.size ≠ g := by have := K2.out.lt; omega
      clear kV bV hV hgb
      go_wp2
      go_loopg [28] len (fun gk vi wr => ∃ (j : Nat) (G : PMap), j ≤ len ∧ len ≤ j + gk ∧ vi = .int .i64 j ∧ Blk wr g 83 (srC #[.int .i64 m, .int .i64 e, .slice (some ⟨b1, o1, none⟩) la ca, .slice (some ⟨b2, o2, none⟩) lb cb] #[.int .i64 m, .int .i64 e, .slice (some ⟨b1, o1, none⟩) la ca, .slice (some ⟨b2, o2, none⟩) lb cb] G fv) ∧ Kg g V wr ∧ SubTo m e (tabOf X) (tabOf Y) (memB ((finN LF).take j)) G)
      case atStart => exact ⟨0, G0, Nat.zero_le _, by omega, rfl, KV.out, Kg.refl _ _, by rw [List.take_zero, show memB [] = fun _ => false from funext fun i => by simp [memB]]; exact ST0.out⟩
      case round =>
        obtain ⟨j, G, hj, hgk, rfl, hbk, hkg, hst⟩ := hrel
        have KW := Lib.hid hbk
        have GW := Lib.hid hkg
        have ST := Lib.hid hst
        have BW := Lib.hid (BV.out.trans (hkg.below g2 BV.out.size))
        have x0 := ((KB.out.kg hkg ngb).cell 0)
        simp only [List.getElem?_toArray, List.getElem?_cons_zero] at x0
        clear hbk hkg hst
        by_cases hlt : j < len
        · have hjL : j < LF.length := by rw [HLF.out]; exact hlt
          obtain ⟨bb, off, rfl, hb1, hc⟩ := HL0.out.at_ hlt
          obtain ⟨u, hu, hu1, hu2⟩ := finI_get (l := LF) (k := j) hjL
          have hck := (BW.out.cell (p := ⟨bb, off + j, none⟩) hb1).trans hc
          rw [hu1] at hck
          have HU2 := Lib.hid hu2
          have hpj : ∀ i, memB ((finN LF).take j) i = true → i < m := fun i hi => HPL.out i (memB_iff.2 (List.mem_of_mem_take (memB_iff.1 hi)))
          obtain ⟨b', G', hG'⟩ : ∃ b G', asgN m m (tabOf X) (tabOf Y) (tabOf X) (tabOf Y) 17 G u u = (b, G') := ⟨_, _, rfl⟩
          have hn17 : nonN m G < 17 := by have := nonN_m (m := m) (F := G); omega
          have ok := asg_ok RR.out RR.out 17 G u u ST.out.wf hu hu hn17
          rw [hG'] at ok
          dsimp only at ok
          have ST' := Lib.hid (RR.out.sub_step ST.out hpj hu ok).2
          have HG' := Lib.hid hG'
          clear hc hu1 hu2 ok hG'
          go_wp2_with (fail)
          refine (assign_any g fv m e b1 o1 la ca b2 o2 lb cb (tabOf X) (tabOf Y) w HR0.out m e b1 o1 la ca b2 o2 lb cb (tabOf X) (tabOf Y) HR0.out RR.out RR.out g2 17 G u u wr BW.out KW.out ST.out.wf hu hu hn17).mono ?_
          rintro e5 w5 ⟨rfl, hk5, hg5⟩
          rw [HG'.out] at hk5 ⊢
          have K5 := Lib.hid hk5
          have G5 := Lib.hid (GW.out.trans hg5)
          clear hk5 hg5 hck x0
          go_wp2
          go_roundg (len - (j + 1))
          case measure => omega
          case rel => exact ⟨j + 1, G', by omega, by omega, by go_num, K5.out, G5.out, by rw [HU2.out, show memB ((finN LF).take j ++ [u]) = fun i => memB ((finN LF).take j) i || decide (i = u) from funext fun i => by simp [memB]]; exact ST'.out⟩
        · have hjn : j = len := by omega
          subst hjn
          have hst2 := ST.out
          rw [List.take_of_length_le (by simp only [finN, List.length_map]; rw [HLF.out]; exact Nat.le_refl _)] at hst2
          have HQ := Lib.hid (RR.out.sub_done hst2 HPL.out)
          have hrK := K0V.out.kg GW.out ng0
          have KBW := Lib.hid (KB.out.kg GW.out ngb)
          have EGR := Lib.hid (enters_of Try.func74 (by kernel_rfl) rfl)
          have EG := Lib.hid (enters_of Try.func125 (by kernel_rfl) rfl)
          obtain ⟨c0, c1, c2, c3⟩ := blk4 hrK
          clear hst2 hrK x0
          go_wp2_with (fail)
          refine (where2_any m e _ _ la ca lb cb 74 #[.pointer (some ⟨gb, 0, none⟩)] wr).mono ?_
          rintro e6 w6 ⟨rfl, hB1, hB2, hb6⟩
          have K6 := Lib.hid (KW.out.next hb6)
          have KB6 := Lib.hid (KBW.out.next hb6)
          have B6 := Lib.hid (below_step BW.out hb6)
          have SQ := Lib.hid (where2_B w6.heap.size m _ (fun i => (G i).isSome) _ _ w6 hm' EGR.out hB1 rfl hB2 (Nat.le_refl _) (fun a ha V hV => sub1_any gb g a G fv #[.int .i64 m, .int .i64 e, .slice (some ⟨b1, o1, none⟩) la ca, .slice (some ⟨b2, o2, none⟩) lb cb] #[.int .i64 m, .int .i64 e, .slice (some ⟨b1, o1, none⟩) la ca, .slice (some ⟨b2, o2, none⟩) lb cb] V (KB6.out.next hV) (K6.out.next hV) (by omega)))
          have hs6 := B6.out.size
          clear hb6 hB1 hB2 c0 c1 c2 c3
          go_wp2_with (go_at_call 75; refine (collect_any m _ w6.heap.size m _ _ _ w6 EG.out SQ.out (by omega) (Nat.le_refl _)).mono ?_; rintro e7 w7 ⟨v, rfl, ho, hb7⟩; have B7 := Lib.hid (below_step B6.out hb7); have HO := Lib.hid ho; clear hb7 ho)
          go_ret2
          refine ⟨v, by rw [hz.out]; rfl, ?_, B7.out⟩
          rw [hZ.out, ← HQ.out]
          exact (sel_out HO.out rfl (Nat.le_trans (selTo_len _) hm')).down hs6

end Go.Proofs.Ytcbodedpahdobaa


/- SubringOf of the reading side. -/
namespace Go.Proofs.Ytcbodedpahdobaa
open Go.RowKit Go.Shelf
set_option maxRecDepth 100000

/-- The sum and the product of two elements that are there, are there. -/
def SbAt (m : Nat) (S P : Nat → Nat) (c : Nat → Bool) (j : Nat) : Prop := c (j / m) = true → c (j % m) = true → c (S j) = true ∧ c (P j) = true
def SbTo (m : Nat) (S P : Nat → Nat) (c : Nat → Bool) (k : Nat) : Prop := ∀ j, j < k → SbAt m S P c j
section
variable {m e : Nat} {S P : Nat → Nat} {c p : Nat → Bool}
theorem sb_fix (R : RTab m S P e) (h1 : ∀ i, p i = true → c i = true) (h2 : ∀ i, c i = true → subG m S P e p i = true) (ho : c e = true) (h : SbTo m S P c (m * m)) : c = subG m S P e p := by
  have hl : ∀ i, c i = true → i < m := fun i hi => subG_lt (h2 i hi)
  have hh : ∀ i j, c i = true → c j = true → c (S (i * m + j)) = true ∧ c (P (i * m + j)) = true := fun i j hi hj => by
    have hm := R.hm
    have d1 : (i * m + j) / m = i := by rw [Nat.mul_comm, Nat.mul_add_div (by omega), Nat.div_eq_of_lt (hl j hj), Nat.add_zero]
    have d2 : (i * m + j) % m = j := by rw [Nat.mul_comm, Nat.mul_add_mod, Nat.mod_eq_of_lt (hl j hj)]
    have := h (i * m + j) (idx_lt (hl i hi) (hl j hj))
    unfold SbAt at this
    rw [d1, d2] at this
    exact this hi hj
  exact sub_eq ⟨hl, ho, fun i j hi hj => (hh i j hi hj).1, fun i j hi hj => (hh i j hi hj).2⟩ h1 h2
theorem sub_put (R : RTab m S P e) {j : Nat} (_ : j < m * m) (ha : subG m S P e p (j / m) = true) (hb : subG m S P e p (j % m) = true) : subG m S P e p (S j) = true ∧ subG m S P e p (P j) = true := by
  have q := R.sub_sbr (p := p)
  have h1 := q.s _ _ ha hb
  have h2 := q.t _ _ ha hb
  rw [Nat.mul_comm, Nat.div_add_mod] at h1 h2
  exact ⟨h1, h2⟩
end

set_option maxHeartbeats 16000000 in
theorem ssub_any (n o : Int) (A B C : Option Addr) (la ca lb cb len cap : Nat) (X Y L : List Int) (w : World) (hX : Ints w w.heap.size A la X) (hY : Ints w w.heap.size B lb Y) (hL : Ints w w.heap.size C len L) (hla : la ≤ 9223372036854775807) (hlb : lb ≤ 9223372036854775807) (hlen : len ≤ 9223372036854775807) (hca : la ≤ ca) (hcb : lb ≤ cb) :
    Calls Try.prog 24 #[.agg #[.int .i64 n, .int .i64 o, .slice A la ca, .slice B lb cb], .slice C len cap] w fun e' w' => ∃ v, e' = .returned (.tuple #[v, .bool (ideB n o X Y L)]) ∧ SliceOut w.heap.size w' v (sbrL n o X Y L) ∧ Below w.heap.size w w' := by
  have HH := Lib.hid (show wrap64 (n - 1) = hiOf n from rfl)
  obtain ⟨W, hW⟩ : ∃ W, w.alloc (.cells #[.int .i64 n, .int .i64 o, .slice A la ca, .slice B lb cb] 25) = W := ⟨_, rfl⟩
  have k0 : Blk W w.heap.size 25 #[.int .i64 n, .int .i64 o, .slice A la ca, .slice B lb cb] := by
    subst hW; exact Blk.new w _ _
  have b0 : Below w.heap.size w W := by
    subst hW; exact (Below.refl _ _).alloc (Nat.le_refl _) _
  have HX := Lib.hid (hX.next b0)
  have HY := Lib.hid (hY.next b0)
  have HL := Lib.hid (hL.next b0)
  have HL0 := Lib.hid hL
  have B0 := Lib.hid b0
  have HW := Lib.hid hW
  have K0 := Lib.hid k0
  have hs0 := k0.lt
  obtain ⟨c0, c1, c2, c3⟩ := blk4 k0
  clear k0 b0 hW hL
  cases he : elB (hiOf n) L
  · have hz := Lib.hid (ide_noE (o := o) (X := X) (Y := Y) he)
    have HE := Lib.hid he
    clear hX hY he
    go_enter Try.func24, Try.ntmps24
    go_wp2_with (fail)
    rw [HW.out]
    go_wp2_with (go_at_call 65; ((with_reducible refine (l1Elements_any _ _ _ _ _ L _ _ HH.out HL.out hlen).mono ?_); rw [HE.out]; rintro e1 w1 ⟨rfl, rfl⟩))
    go_ret2
    exact ⟨_, by rw [hz.out]; rfl, by rw [sbr_no hz.out]; exact SliceOut.of_row (n := 0) (own_lit_K [] B0.out.size (by unfold maxLen; simp)) rfl (by omega), B0.out.alloc B0.out.size _⟩
  · cases hv : validB n o X Y
    · have hz := Lib.hid (ide_noV (L := L) hv)
      have HE := Lib.hid he
      have HV := Lib.hid hv
      clear hX hY he hv
      go_enter Try.func24, Try.ntmps24
      go_wp2_with (fail)
      rw [HW.out]
      go_wp2_with (first
        | (go_at_call 65; ((with_reducible refine (l1Elements_any _ _ _ _ _ L _ _ HH.out HL.out hlen).mono ?_); rw [HE.out]; rintro e1 w1 ⟨rfl, rfl⟩))
        | (go_at_call 66; ((with_reducible refine (specValid_any _ _ _ _ _ _ _ _ X Y _ HX.out HY.out hla hlb hca hcb).mono ?_); rw [HV.out]; rintro e2 w2 ⟨rfl, hb2⟩; have B1 := Lib.hid (below_step B0.out hb2); clear hb2)))
      go_ret2
      exact ⟨_, by rw [hz.out]; rfl, by rw [sbr_no hz.out]; exact SliceOut.of_row (n := 0) (own_lit_K [] B1.out.size (by unfold maxLen; simp)) rfl (by omega), B1.out.alloc B1.out.size _⟩
    · have ha : allB n L = true := by rw [← hi_elB hv]; exact he
      have hz := Lib.hid (ide_yes hv ha)
      obtain ⟨m, e, b1, o1, b2, o2, rfl, rfl, rfl, rfl, hr, _, _, _, _, _⟩ := valid_data hv hX hY hca hcb
      have R := rtab_of_valid hv
      obtain ⟨LF, rfl⟩ := finOf (all_iff.1 ha)
      have hm' := hr.hm'
      have HR0 := Lib.hid hr
      have HE := Lib.hid he
      have HV := Lib.hid hv
      have hZ := Lib.hid (show sbrL m e X Y (finI LF) = lstP m (subG m (tabOf X) (tabOf Y) e (memB (finN LF))) by rw [sbr_yes hz.out, Int.toNat_natCast, Int.toNat_natCast, setL_fin])
      have hpl : ∀ i, memB (finN LF) i = true → i < m := fun i hi => by
        have := memB_iff.1 hi
        simp only [finN, List.mem_map] at this
        obtain ⟨z, _, rfl⟩ := this
        exact z.2
      clear hX hY hr ha he hv
      go_enter Try.func24, Try.ntmps24
      go_wp2_with (fail)
      rw [HW.out]
      go_wp2_with (first
        | (go_at_call 65; ((with_reducible refine (l1Elements_any _ _ _ _ _ (finI LF) _ _ HH.out HL.out hlen).mono ?_); rw [HE.out]; rintro e1 w1 ⟨rfl, rfl⟩))
        | (go_at_call 66; ((with_reducible refine (specValid_any _ _ _ _ _ _ _ _ X Y _ HX.out HY.out hla hlb hca hcb).mono ?_); rw [HV.out]; rintro e2 w2 ⟨rfl, hb2⟩)))
      have B2 := Lib.hid (below_step B0.out hb2)
      have K2 := Lib.hid (K0.out.next hb2)
      have s2 := hb2.size
      clear hb2 c0 c1 c2 c3
      have HPL := Lib.hid hpl
      have RR := Lib.hid R
      clear hpl R
      go_wp2_with (fail)
      refine (l4Of_any m C len cap LF w2 hm' (HL0.out.next B2.out) hlen).mono ?_
      rintro e3 w3 ⟨rfl, hb3⟩
      have B3 := Lib.hid (below_step B2.out hb3)
      have K3 := Lib.hid (K2.out.next hb3)
      have s3 := B3.out.size
      clear hb3
      obtain ⟨g, hg⟩ : ∃ g, w3.heap.size = g := ⟨_, rfl⟩
      have hip := sset_info (setP_size (p := memB (finN LF)))
      have hop := setP_one (p := memB (finN LF))
      have hold : (#[.bool false, .bool false, .bool false, .bool false, .bool false, .bool false, .bool false, .bool false, .bool false, .bool false, .bool false, .bool false, .bool false, .bool false, .bool false, .bool false] : Array Value).size = (setP (memB (finN LF))).size := by rw [setP_size]; rfl
      have KN : Blk (w3.alloc (.cells #[.bool false, .bool false, .bool false, .bool false, .bool false, .bool false, .bool false, .bool false, .bool false, .bool false, .bool false, .bool false, .bool false, .bool false, .bool false, .bool false] 73)) g 73 #[.bool false, .bool false, .bool false, .bool false, .bool false, .bool false, .bool false, .bool false, .bool false, .bool false, .bool false, .bool false, .bool false, .bool false, .bool false, .bool false] := by rw [← hg]; exact Blk.new _ _ _
      go_upto_region 4 with (refine wpList_store_row rfl 73 (.tmp 6) (.tmp 23) rfl g (setP (memB (finN LF))) rfl rfl _ _ KN hip hold hop ?_)
      obtain ⟨V, hV⟩ : ∃ V, (w3.alloc (.cells #[.bool false, .bool false, .bool false, .bool false, .bool false, .bool false, .bool false, .bool false, .bool false, .bool false, .bool false, .bool false, .bool false, .bool false, .bool false, .bool false] 73)).setRow g (setP (memB (finN LF))) = V := ⟨_, rfl⟩
      have kV : Blk V g 73 (setP (memB (finN LF))) := by subst hV hg; exact (Blk.new w3 73 #[.bool false, .bool false, .bool false, .bool false, .bool false, .bool false, .bool false, .bool false, .bool false, .bool false, .bool false, .bool false, .bool false, .bool false, .bool false, .bool false]).rowTo _
      have bV : Below w3.heap.size w3 V := by subst hV hg; exact below_setRow ((Below.refl _ _).alloc (Nat.le_refl _) _) (Nat.le_refl _) _
      rw [hV]
      have KG := Lib.hid kV
      have KR := Lib.hid (K3.out.next bV)
      have BV := Lib.hid (below_step B3.out bV)
      have ngr : w.heap.size ≠ g := by have := K3.out.lt; omega
      have gw : w.heap.size ≤ g := by omega
      have lgV := kV.lt
      clear kV bV hV KN
      have he16 : e < 16 := by have := HR0.out.he; omega
      have he := HR0.out.he
      have hm := HR0.out.hm
      go_wp2_with (fail)
      refine (sput_any g 0 _ V KG.out (by omega)).mono ?_
      rintro e4 w4 ⟨rfl, rfl⟩
      have KG4 := Lib.hid (KG.out.put (a := 0))
      have KR4 := Lib.hid (KR.out.far (p := ⟨g, 0, none⟩) ngr (.bool true))
      have BV4 := Lib.hid (BV.out.setCell (p := ⟨g, 0, none⟩) gw (.bool true))
      obtain ⟨V4, hV4⟩ : ∃ V4, V.setCell ⟨g, 0, none⟩ (.bool true) = V4 := ⟨_, rfl⟩
      rw [hV4] at KG4 KR4 BV4 ⊢
      obtain ⟨c0, c1, c2, c3⟩ := blk4 KR4.out
      clear hV4
      go_wp2_with (fail)
      refine (sput_any g e _ V4 KG4.out he16).mono ?_
      rintro e5 w5 ⟨rfl, rfl⟩
      have KG5 := Lib.hid (KG4.out.put (a := e))
      have KR5 := Lib.hid (KR4.out.far (p := ⟨g, e, none⟩) ngr (.bool true))
      have BV5 := Lib.hid (BV4.out.setCell (p := ⟨g, e, none⟩) gw (.bool true))
      obtain ⟨V5, hV5⟩ : ∃ V5, V4.setCell ⟨g, e, none⟩ (.bool true) = V5 := ⟨_, rfl⟩
      rw [hV5] at KG5 KR5 BV5 ⊢
      clear hV5 c0 c1 c2 c3
      obtain ⟨p, hp⟩ : ∃ p, memB (finN LF) = p := ⟨_, rfl⟩
      rw [hp] at HPL hZ KG5
      obtain ⟨G, hG⟩ : ∃ G, subG m (tabOf X) (tabOf Y) e p = G := ⟨_, rfl⟩
      rw [hG] at hZ
      have HG := Lib.hid hG
      have GP := Lib.hid (show ∀ i, p i = true → G i = true from fun i hi => by rw [← hG]; exact sub_ge HPL.out hi)
      have GS := Lib.hid (show Sbr m (tabOf X) (tabOf Y) e G from by rw [← hG]; exact RR.out.sub_sbr)
      have GB := Lib.hid (show ∀ j, j < m * m → G (j / m) = true → G (j % m) = true → G (tabOf X j) = true ∧ G (tabOf Y j) = true from fun j hj => by rw [← hG]; exact sub_put RR.out hj)
      obtain ⟨s1', s2', s3', s4'⟩ := sqI hm'
      have S3 := Lib.hid s3'
      have hla2 := HR0.out.hla
      have hlb2 := HR0.out.hlb
      clear s3' hp hG
      go_wp2
      go_loopg [7] 17 (fun gk vb wr => ∃ (b : Bool) (c : Nat → Bool), vb = .bool b ∧ (∀ i, p i = true → c i = true) ∧ c e = true ∧ (∀ i, c i = true → G i = true) ∧ (b = false → SbTo m (tabOf X) (tabOf Y) c (m * m)) ∧ (16 - (pl c).length) + b.toNat ≤ gk ∧ Blk wr w.heap.size 25 #[.int .i64 m, .int .i64 e, .slice (some ⟨b1, o1, none⟩) la ca, .slice (some ⟨b2, o2, none⟩) lb cb] ∧ Blk wr g 73 (setP c) ∧ Below w.heap.size w wr)
      case atStart =>
        refine ⟨true, _, rfl, fun i hi => by rw [hi]; rfl, by simp, fun i hi => ?_, fun h => (by cases h), by simp only [Bool.toNat_true]; omega, KR5.out, KG5.out, BV5.out⟩
        rw [Bool.or_eq_true, Bool.or_eq_true, decide_eq_true_iff, decide_eq_true_iff] at hi
        rcases hi with (hi | rfl) | rfl
        · exact GP.out i hi
        · exact RR.out.sub_zero GS.out
        · exact GS.out.o
      case round =>
        obtain ⟨b, c, rfl, hpc, hc0, hcG, hcl, hfu, h0, h1, hB⟩ := hrel
        have H0 := Lib.hid h0
        have H1 := Lib.hid h1
        have HB := Lib.hid hB
        have HCG := Lib.hid hcG
        have HPC := Lib.hid hpc
        have HC0 := Lib.hid hc0
        obtain ⟨d0, d1, d2, d3⟩ := blk4 h0
        clear h0 h1 hB hcG hpc hc0
        cases b
        · have HCL := Lib.hid (hcl rfl)
          have HE2 := Lib.hid (show c = G by rw [← HG.out]; exact sb_fix RR.out HPC.out (by rw [HG.out]; exact HCG.out) HC0.out HCL.out)
          clear hcl
          have hs2 := sset_info (setP_size (p := c))
          have hcm : ∀ i, c i = true → i < m := fun i hi => GS.out.lt i (HCG.out i hi)
          go_wp2_with (first
            | (refine wpList_load_row rfl 73 (.tmp 6) rfl g rfl _ (setP c) (0, 0) _ H1.out Try.underlying73 rfl hs2 ?_)
            | (go_at_call 67; refine (l3SetP_any c m _ hm' hcm).mono ?_; rintro e7 w7 ⟨v7, rfl, ho7, hb7⟩; have B7 := Lib.hid (below_step HB.out hb7); have O7 := Lib.hid (ho7.down HB.out.size); clear hb7 ho7))
          go_ret2
          exact ⟨v7, by rw [hz.out]; rfl, by rw [hZ.out, ← HE2.out]; exact O7.out, B7.out⟩
        · clear hcl
          simp only [Bool.toNat_true] at hfu
          go_wp2
          go_loopg [7, 34] (m * m) (fun g2 vb vi wr => ∃ (b : Bool) (c' : Nat → Bool) (k : Nat), vb = .bool b ∧ vi = .int .i64 k ∧ k ≤ m * m ∧ m * m ≤ k + g2 ∧ PassOk G c c' b ∧ (b = false → SbTo m (tabOf X) (tabOf Y) c k) ∧ Blk wr w.heap.size 25 #[.int .i64 m, .int .i64 e, .slice (some ⟨b1, o1, none⟩) la ca, .slice (some ⟨b2, o2, none⟩) lb cb] ∧ Blk wr g 73 (setP c') ∧ Below w.heap.size w wr)
          case atStart => exact ⟨false, c, 0, rfl, rfl, Nat.zero_le _, by omega, PassOk.start HCG.out, fun _ j hj => absurd hj (by omega), H0.out, H1.out, HB.out⟩
          case round =>
            obtain ⟨b, c', k, rfl, rfl, hk, hg2, hok, hcl, h0, h1, hB⟩ := hrel
            have J0 := Lib.hid h0
            have J1 := Lib.hid h1
            have JB := Lib.hid hB
            have JOK := Lib.hid hok
            have JCL := Lib.hid hcl
            have RV := Lib.hid (HR0.out.next hB)
            clear d0 d1 d2 d3
            obtain ⟨d0, d1, d2, d3⟩ := blk4 h0
            clear h0 h1 hB hok hcl
            by_cases hlt : k < m * m
            · have i1 : (k : Int) < (m : Int) * m := by rw [S3.out]; omega
              obtain ⟨p1, p2⟩ := parts2 hlt
              obtain ⟨e1, e2⟩ : (k : Int) / m = ((k / m : Nat) : Int) ∧ (k : Int) % m = ((k % m : Nat) : Int) := ⟨by simp, by simp⟩
              have n1 : 0 ≤ (k : Int) / m := by rw [e1]; exact Int.natCast_nonneg _
              have n2 : (k : Int) / m ≤ 256 := by rw [e1]; exact (Int.ofNat_le (n := 256)).2 (by omega)
              have n3 : ¬ m = 0 := by omega
              have E1 := Lib.hid e1
              have E2 := Lib.hid e2
              clear e1 e2
              go_wp2
              go_quiet (fail)
              rw [E1.out, E2.out]
              obtain ⟨a, eA⟩ : ∃ A : Nat, k / m = A := ⟨_, rfl⟩
              obtain ⟨y, eB⟩ : ∃ B : Nat, k % m = B := ⟨_, rfl⟩
              have GK := Lib.hid (show G a = true → G y = true → G (tabOf X k) = true ∧ G (tabOf Y k) = true from by rw [← eA, ← eB]; exact GB.out k hlt)
              have SK := Lib.hid (show SbAt m (tabOf X) (tabOf Y) c k ↔ (c a = true → c y = true → c (tabOf X k) = true ∧ c (tabOf Y k) = true) by unfold SbAt; rw [eA, eB])
              rw [eA] at p1 ⊢
              rw [eB] at p2 ⊢
              clear eA eB n1 n2
              have BD : Below wr.heap.size wr (wr.drewN nq) := below_drewN (Below.refl _ _) nq
              obtain ⟨U, hU⟩ : ∃ U, wr.drewN nq = U := ⟨_, rfl⟩
              rw [hU] at BD ⊢
              have L0 := Lib.hid (J0.out.next BD)
              have L1 := Lib.hid (J1.out.next BD)
              have LB := Lib.hid (below_step JB.out BD)
              have RU := Lib.hid (RV.out.next BD)
              clear d0 d1 d2 d3 hU BD
              obtain ⟨d0, d1, d2, d3⟩ := blk4 L0.out
              have a0 : (0 : Int) ≤ (a : Int) := by omega
              have a16 : (a : Int) < 16 := by omega
              have y0 : (0 : Int) ≤ (y : Int) := by omega
              have y16 : (y : Int) < 16 := by omega
              have ca := (L1.out.cell a).trans (setP_get (by omega))
              have cy := (L1.out.cell y).trans (setP_get (by omega))
              obtain ⟨tS, uS⟩ := RU.out.ts.2 k hlt
              obtain ⟨tP, uP⟩ := RU.out.tp.2 k hlt
              have j1 : (k : Int) < (la : Int) := by omega
              have j2 : (k : Int) < (lb : Int) := by omega
              cases hca2 : c' a
              · rw [hca2] at ca
                have HA2 := Lib.hid hca2
                clear hca2 cy tS tP
                go_wp2
                go_roundg (m * m - (k + 1))
                case measure => omega
                case rel =>
                  refine ⟨b, c', k + 1, rfl, by go_num, by omega, by omega, JOK.out, fun h => forall_succ (JCL.out h) (SK.out.2 fun h1 _ => ?_), L0.out, L1.out, LB.out⟩
                  rw [← JOK.out.same h, HA2.out] at h1
                  cases h1
              · rw [hca2] at ca
                cases hcy2 : c' y
                · rw [hcy2] at cy
                  have HY2 := Lib.hid hcy2
                  clear hca2 hcy2 tS tP
                  go_wp2
                  go_roundg (m * m - (k + 1))
                  case measure => omega
                  case rel =>
                    refine ⟨b, c', k + 1, rfl, by go_num, by omega, by omega, JOK.out, fun h => forall_succ (JCL.out h) (SK.out.2 fun _ h1 => ?_), L0.out, L1.out, LB.out⟩
                    rw [← JOK.out.same h, HY2.out] at h1
                    cases h1
                · rw [hcy2] at cy
                  have HGK := Lib.hid (GK.out (JOK.out.le a hca2) (JOK.out.le y hcy2))
                  obtain ⟨xS, hxS⟩ : ∃ x, tabOf X k = x := ⟨_, rfl⟩
                  obtain ⟨xP, hxP⟩ : ∃ x, tabOf Y k = x := ⟨_, rfl⟩
                  rw [hxS] at tS uS SK HGK
                  rw [hxP] at tP uP SK HGK
                  have HXP := Lib.hid hxP
                  clear hca2 hcy2 hxS hxP
                  go_wp2_with (fail)
                  refine (sput_any g xS c' U L1.out (by omega)).mono ?_
                  rintro e8 w8 ⟨rfl, rfl⟩
                  have M0 := Lib.hid (L0.out.far (p := ⟨g, xS, none⟩) ngr (.bool true))
                  have M1 := Lib.hid (L1.out.put (a := xS))
                  have MB := Lib.hid (LB.out.setCell (p := ⟨g, xS, none⟩) gw (.bool true))
                  have hgU := RU.out.tp.1
                  obtain ⟨W8, hW8⟩ : ∃ W8, U.setCell ⟨g, xS, none⟩ (.bool true) = W8 := ⟨_, rfl⟩
                  rw [hW8] at M0 M1 MB ⊢
                  have RW := Lib.hid (HR0.out.next MB.out)
                  clear hW8 ca cy tS tP d0 d1 d2 d3
                  cases hcS : c' xS
                  · have HS2 := Lib.hid hcS
                    clear hcS
                    rw [show (!false) = true from rfl]
                    go_wp2
                    go_roundg (m * m - (k + 1))
                    case measure => omega
                    case rel => exact ⟨true, _, k + 1, rfl, by go_num, by omega, by omega, JOK.out.add HGK.out.1 (by omega) HS2.out, fun h => (by cases h), M0.out, M1.out, MB.out⟩
                  · have M1' := M1.out
                    rw [add_same hcS] at M1'
                    have N1 := Lib.hid M1'
                    have HS2 := Lib.hid hcS
                    obtain ⟨d0, d1, d2, d3⟩ := blk4 M0.out
                    obtain ⟨tP, _⟩ := RW.out.tp.2 k hlt
                    rw [HXP.out] at tP
                    clear hcS M1'
                    rw [show (!true) = false from rfl]
                    go_wp2_with (fail)
                    refine (sput_any g xP c' W8 N1.out (by omega)).mono ?_
                    rintro e9 w9 ⟨rfl, rfl⟩
                    have P0 := Lib.hid (M0.out.far (p := ⟨g, xP, none⟩) ngr (.bool true))
                    have P1 := Lib.hid (N1.out.put (a := xP))
                    have PB := Lib.hid (MB.out.setCell (p := ⟨g, xP, none⟩) gw (.bool true))
                    obtain ⟨W9, hW9⟩ : ∃ W9, W8.setCell ⟨g, xP, none⟩ (.bool true) = W9 := ⟨_, rfl⟩
                    rw [hW9] at P0 P1 PB ⊢
                    clear hW9 tP d0 d1 d2 d3
                    cases hcP : c' xP
                    · have HP2 := Lib.hid hcP
                      clear hcP
                      rw [show (!false) = true from rfl]
                      go_wp2
                      go_roundg (m * m - (k + 1))
                      case measure => omega
                      case rel => exact ⟨true, _, k + 1, rfl, by go_num, by omega, by omega, JOK.out.add HGK.out.2 (by omega) HP2.out, fun h => (by cases h), P0.out, P1.out, PB.out⟩
                    · have P1' := P1.out
                      rw [add_same hcP] at P1'
                      have Q1 := Lib.hid P1'
                      have HP2 := Lib.hid hcP
                      clear hcP P1'
                      rw [show (!true) = false from rfl]
                      go_wp2
                      go_roundg (m * m - (k + 1))
                      case measure => omega
                      case rel =>
                        refine ⟨b, c', k + 1, rfl, by go_num, by omega, by omega, JOK.out, fun h => forall_succ (JCL.out h) (SK.out.2 fun _ _ => ?_), P0.out, Q1.out, PB.out⟩
                        rw [← JOK.out.same h]
                        exact ⟨HS2.out, HP2.out⟩
            · have hkm : k = m * m := by omega
              have HKM := Lib.hid hkm
              have i1 : ¬ (k : Int) < (m : Int) * m := by rw [S3.out]; omega
              clear hkm
              go_wp2
              have hl1 := pl_len (c := c')
              have hl0 := pl_len (c := c)
              have hdec : 16 - (pl c').length + b.toNat ≤ 16 - (pl c).length := by
                cases b
                · rw [JOK.out.same rfl]; simp
                · have := JOK.out.len
                  simp only [Bool.toNat_true]
                  omega
              go_roundg (16 - (pl c').length + b.toNat)
              case measure => omega
              case rel => exact ⟨b, c', rfl, fun i hi => JOK.out.mono i (HPC.out i hi), JOK.out.mono e HC0.out, JOK.out.le, fun h => by rw [JOK.out.same h, ← HKM.out]; exact JCL.out h, Nat.le_refl _, J0.out, J1.out, JB.out⟩

end Go.Proofs.Ytcbodedpahdobaa
