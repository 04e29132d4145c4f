/- Texts of this seat in one: M9 O1 O2 O3 O4 O5 O6 O7 O8 O9. -/
import Derived.Test.YtajoimopahibcaaGreatMG
import Derived.RangeFuncNested
import Derived.RangeFuncCalls
import Derived.OrdersIn
import Derived.TacticsInMore
import Derived.Test.YtajoimopahibcaaGreatMB
import Derived.Test.YtajoimopahibcaaGreatMC

/- Regions that draw their order, within a round of a range over a function: what holds outside of rounds holds there. -/
namespace Go.Proofs.YtajoimopahibcaaGreat
open Go.RowKit

section
variable {P : Program} {ops : Array Oper} {Q : Exit → Act → World → Prop}
theorem oper_in_round {o : Oper} (l n : Nat) (hd : ∀ c, o.op ≠ .defer c) {a : Act} {w : World} {K : Act → World → Prop} (h : o.wp P a w K Q) : o.wpIn (Fence.wide.inRound l) n P a w K Q := by
  unfold Oper.wp at h
  unfold Oper.wpIn
  refine ⟨fun _ _ => trivial, ?_⟩
  show o.uponIn _ n P a K Q ((Oper.semAt (some l) a.eval o).run P w)
  rw [Oper.semAt_some l _ o hd]
  generalize (execOp a.eval o).run P w = r at *
  cases r with
  | ok x w' =>
    cases x <;> simp only [Oper.upon] at h <;> simp only [Oper.uponIn]
    case value => exact h
    case skip => exact h
    case defer => exact h
    case enter f args => exact ⟨(fun e => by cases e), CallsIn.inRound l (callsIn_wide.2 h)⟩
    case row row args => exact ⟨(fun e => by cases e), fun c cs _ => let ⟨v, w', r, s⟩ := h c cs; ⟨v, w', r, stepsIn_wide.2 s⟩⟩
  | halt x w' =>
    cases x <;> simp only [Oper.upon] at h <;> simp only [Oper.uponIn]
    case panic => exact h
def noDefer (o : Oper) : Bool := match o.op with | .defer _ => false | _ => true
theorem noDefer_iff {o : Oper} (h : noDefer o = true) : ∀ c, o.op ≠ .defer c := fun c e => by unfold noDefer at h; rw [e] at h; cases h
theorem wpAny_in_round (l n : Nat) (hd : ∀ (i : Nat) (o : Oper), ops[i]? = some o → ∀ c, o.op ≠ .defer c) (hQ : ¬ LetsOut Q) : ∀ (fuel : Nat) (listed : Array Bool) (a : Act) (w : World),
    wpAny P .any ops Q fuel listed a w → wpAnyIn (Fence.wide.inRound l) n P .any ops Q fuel listed a w
  | 0, _, _, _, h => h
  | fuel + 1, listed, a, w, h => ⟨h.1, fun i hi => by
      have h2 := h.2 i hi
      unfold wpOp at h2
      unfold wpOpIn
      split
      · rename_i e
        rw [e] at h2
        exact wpAny_in_round l n hd hQ fuel _ _ _ h2
      · rename_i o e
        simp only [e] at h2
        split
        · rename_i hw
          rw [if_pos hw] at h2
          rcases h2 with h2 | ⟨_, h2⟩
          · exact Oper.wpIn_mono (fun a' w' h' => wpAny_in_round l n hd hQ fuel _ _ _ h') (oper_in_round l n (hd i o e) h2)
          · exact absurd h2 hQ
        · rename_i hw
          rw [if_neg hw] at h2
          exact ⟨fun _ _ => trivial, wpAny_in_round l n hd hQ fuel _ _ _ h2⟩⟩
theorem wpIn_region_extR {l0 n id : Nat} {a : Act} {w : World} {l : List Oper} (hm : P.follows .mixedOrders = true) (hB : Region.lexB .any l.toArray = true) (hd : l.all noDefer = true)
    (h : wpQuiet P l.toArray (fun w' => ∃ u : Ext w, w' = ext w u) (fun a' => ∀ w1, Below w.heap.size w w1 → Q .normal a' w1) l a) : (Code.region id l.toArray true).wpIn (Fence.wide.inRound l0) n P Q a w := by
  refine Go.wpIn_mono (Q := fun e a' w' => e = .normal ∧ Q e a' w') (wpIn_region_any hm (wpAny_in_round l0 n (fun i o hi => ?_) ?_ _ _ _ _ ?_)) (fun _ _ _ h => h.2)
  · have hm := List.mem_of_getElem? (show l[i]? = some o by simpa using hi)
    exact noDefer_iff (List.all_eq_true.1 hd o hm)
  · rintro ⟨_, _, h, _⟩
    cases h
  · simp only [Region.lexB, Bool.and_eq_true] at hB
    refine wpAny_of_quiet (C := fun w' => ∃ u : Ext w, w' = ext w u) (Q := fun a' => ∀ w', (∃ u : Ext w, w' = ext w u) → Q .normal a' w') (fun _ w' hw' h => ⟨rfl, h w' hw'⟩) _ _ _ _ ⟨⟨w.drew, (Below.refl _ _).drew⟩, rfl⟩ ?_
    have := wpAnyQ_lex (C := fun w' => ∃ u : Ext w, w' = ext w u) (Q := fun a' => ∀ w', (∃ u : Ext w, w' = ext w u) → Q .normal a' w') (md := .any) hB.1 l.toArray.toList 0 (Array.replicate l.toArray.size false) a (by simp) (by simpa using hB.2) (by
      simp only
      refine wpQuiet_post h ?_
      rintro a' h' _ ⟨u, rfl⟩
      exact h' _ u.below)
    simpa using this
/-- A region of quiet operations and makers ahead of a tail in forced order, within a round. -/
theorem wpIn_region_makersR {l0 n0 id : Nat} {a : Act} {w : World} {l : List Oper} (n : Nat) (mk : Nat → Bool) (Φ : Nat → Value → World → Prop) (Sh : Nat → Value → Prop) (vs0 : Nat → Value) (hp : Probe P) (hm : P.follows .mixedOrders = true) (hB : Region.lexTailB .any l.toArray n = true) (hd : l.all noDefer = true)
    (hΦ : ∀ i v w w', Φ i v w → Below w.heap.size w w' → Φ i v w') (hSh : ∀ i v w, mk i = true → Φ i v w → Sh i v) (hv0 : ∀ i, mk i = true → Sh i (vs0 i))
    (h : ∀ W, Below w.heap.size w W → ∀ vs, (∀ i, mk i = true → Sh i (vs i)) → wpVE P l.toArray (extC W) mk Φ vs (fun a' => ∀ w1, Below w.heap.size w w1 → (∀ i, i < n → mk i = true → Φ i (vs i) w1) → (∀ i j, i < n → j < n → i ≠ j → mk i = true → mk j = true → ∀ b, b ∈ nob (vs i) → b ∉ nob (vs j)) → wpList P l.toArray (fun e a' w' => e = .normal ∧ Q e a' w') (l.drop n) a' w1) 0 (l.take n) a) :
    (Code.region id l.toArray true).wpIn (Fence.wide.inRound l0) n0 P Q a w := by
  refine Go.wpIn_mono (Q := fun e a' w' => e = .normal ∧ Q e a' w') (wpIn_region_any hm (wpAny_in_round l0 n0 (fun i o hi => ?_) ?_ _ _ _ _ (wpAny_makersE n mk Φ Sh vs0 hp hB hΦ hSh hv0 h))) (fun _ _ _ h => h.2)
  · have hm := List.mem_of_getElem? (show l[i]? = some o by simpa using hi)
    exact noDefer_iff (List.all_eq_true.1 hd o hm)
  · rintro ⟨_, _, h, _⟩
    cases h
end
end Go.Proofs.YtajoimopahibcaaGreat



/- Plain facts: ideals of a ring given by tables, the least one with some elements, sums of two, multiples of one. No program in sight. -/
namespace Go.Proofs.YtajoimopahibcaaGreat
open Go.RowKit

/-- A set of elements that is an ideal. -/
structure Idl (m : Nat) (S P : Nat → Nat) (p : Nat → Bool) : Prop where
  lt : ∀ i, p i = true → i < m
  z : p 0 = true
  s : ∀ i j, p i = true → p j = true → p (S (i * m + j)) = true
  t : ∀ i j, p i = true → j < m → p (P (i * m + j)) = true

/-- The least ideal with some elements. -/
noncomputable def genB (m : Nat) (S P : Nat → Nat) (p : Nat → Bool) (x : Nat) : Bool := propB (x < m ∧ ∀ q, Idl m S P q → (∀ i, p i = true → q i = true) → q x = true)
/-- The products of an element and all elements. -/
noncomputable def mulB (m : Nat) (P : Nat → Nat) (a : Nat) (x : Nat) : Bool := propB (∃ y, y < m ∧ P (a * m + y) = x)
/-- What an operation makes of two sets. -/
noncomputable def opsB (m : Nat) (T : Nat → Nat) (p q : Nat → Bool) (x : Nat) : Bool := propB (∃ i j, p i = true ∧ q j = true ∧ T (i * m + j) = x)
def memB (l : List Nat) (x : Nat) : Bool := decide (x ∈ l)

section
variable {m e : Nat} {S P : Nat → Nat} {p q r : Nat → Bool}
theorem gen_iff {x : Nat} : genB m S P p x = true ↔ x < m ∧ ∀ q, Idl m S P q → (∀ i, p i = true → q i = true) → q x = true := propB_iff
theorem mulB_iff {a x : Nat} : mulB m P a x = true ↔ ∃ y, y < m ∧ P (a * m + y) = x := propB_iff
theorem opsB_iff {T : Nat → Nat} {x : Nat} : opsB m T p q x = true ↔ ∃ i j, p i = true ∧ q j = true ∧ T (i * m + j) = x := propB_iff
theorem memB_iff {l : List Nat} {x : Nat} : memB l x = true ↔ x ∈ l := decide_eq_true_iff
theorem bool_ext (h : ∀ i, p i = true ↔ q i = true) : p = q := funext fun i => by
  have := h i
  cases hp : p i <;> cases hq : q i <;> simp_all
theorem gen_ge (hp : ∀ i, p i = true → i < m) {i : Nat} (h : p i = true) : genB m S P p i = true := gen_iff.2 ⟨hp i h, fun _ _ hq => hq i h⟩
theorem gen_le (hq : Idl m S P q) (h : ∀ i, p i = true → q i = true) {i : Nat} (hi : genB m S P p i = true) : q i = true := (gen_iff.1 hi).2 q hq h
theorem gen_lt {i : Nat} (h : genB m S P p i = true) : i < m := (gen_iff.1 h).1
theorem RTab.gen_idl (R : RTab m S P e) : Idl m S P (genB m S P p) where
  lt := fun _ h => gen_lt h
  z := gen_iff.2 ⟨R.hm, fun _ hq _ => hq.z⟩
  s := fun i j hi hj => gen_iff.2 ⟨R.sc (gen_lt hi) (gen_lt hj), fun _ hq h => hq.s i j (gen_le hq h hi) (gen_le hq h hj)⟩
  t := fun i j hi hj => gen_iff.2 ⟨R.pc (gen_lt hi) hj, fun _ hq h => hq.t i j (gen_le hq h hi) hj⟩
theorem gen_eq (hq : Idl m S P q) (h : ∀ i, p i = true → q i = true) (hl : ∀ i, q i = true → genB m S P p i = true) : genB m S P p = q :=
  bool_ext fun i => ⟨fun hi => gen_le hq h hi, hl i⟩
theorem gen_self (hp : Idl m S P p) : genB m S P p = p := gen_eq hp (fun _ h => h) fun _ h => gen_ge hp.lt h
theorem RTab.gen_mono (R : RTab m S P e) (hq : ∀ i, q i = true → i < m) (h : ∀ i, p i = true → q i = true) {i : Nat} (hi : genB m S P p i = true) : genB m S P q i = true :=
  gen_le (R.gen_idl (p := q)) (fun i h' => gen_ge hq (h i h')) hi
theorem RTab.Md (R : RTab m S P e) {a b c : Nat} (ha : a < m) (hb : b < m) (hc : c < m) : P (a * m + S (b * m + c)) = S (P (a * m + b) * m + P (a * m + c)) := congrArg Fin.val (R.MA ⟨a, ha⟩ ⟨b, hb⟩ ⟨c, hc⟩)
theorem RTab.Mas (R : RTab m S P e) {a b c : Nat} (ha : a < m) (hb : b < m) (hc : c < m) : P (P (a * m + b) * m + c) = P (a * m + P (b * m + c)) := congrArg Fin.val (R.Ma ⟨a, ha⟩ ⟨b, hb⟩ ⟨c, hc⟩)
theorem RTab.Aas (R : RTab m S P e) {a b c : Nat} (ha : a < m) (hb : b < m) (hc : c < m) : S (S (a * m + b) * m + c) = S (a * m + S (b * m + c)) := congrArg Fin.val (R.Aa ⟨a, ha⟩ ⟨b, hb⟩ ⟨c, hc⟩)
theorem RTab.Mcs (R : RTab m S P e) {a b : Nat} (ha : a < m) (hb : b < m) : P (a * m + b) = P (b * m + a) := R.p.comm ha hb
theorem RTab.Acs (R : RTab m S P e) {a b : Nat} (ha : a < m) (hb : b < m) : S (a * m + b) = S (b * m + a) := R.s.comm ha hb
theorem RTab.A00 (R : RTab m S P e) {a : Nat} (ha : a < m) : S (a * m + 0) = a := R.s.zero ha
theorem RTab.M00 (R : RTab m S P e) {a : Nat} (ha : a < m) : P (a * m + 0) = 0 := congrArg Fin.val (R.M0 ⟨a, ha⟩)
theorem RTab.M11 (R : RTab m S P e) {a : Nat} (ha : a < m) : P (a * m + e) = a := R.p.zero ha
theorem RTab.A4 (R : RTab m S P e) {a b c d : Nat} (ha : a < m) (hb : b < m) (hc : c < m) (hd : d < m) : S (S (a * m + b) * m + S (c * m + d)) = S (S (a * m + c) * m + S (b * m + d)) := by
  rw [R.Aas ha hb (R.sc hc hd), ← R.Aas hb hc hd, R.Acs hb hc, R.Aas hc hb hd, ← R.Aas ha hc (R.sc hb hd)]
theorem RTab.mul_idl (R : RTab m S P e) {a : Nat} (ha : a < m) : Idl m S P (mulB m P a) where
  lt := fun i h => by obtain ⟨y, hy, rfl⟩ := mulB_iff.1 h; exact R.pc ha hy
  z := mulB_iff.2 ⟨0, R.hm, R.M00 ha⟩
  s := fun i j hi hj => by
    obtain ⟨y, hy, rfl⟩ := mulB_iff.1 hi
    obtain ⟨z, hz, rfl⟩ := mulB_iff.1 hj
    exact mulB_iff.2 ⟨S (y * m + z), R.sc hy hz, R.Md ha hy hz⟩
  t := fun i j hi hj => by
    obtain ⟨y, hy, rfl⟩ := mulB_iff.1 hi
    exact mulB_iff.2 ⟨P (y * m + j), R.pc hy hj, (R.Mas ha hy hj).symm⟩
theorem RTab.mul_self (R : RTab m S P e) {a : Nat} (ha : a < m) : mulB m P a a = true := mulB_iff.2 ⟨e, R.he, R.M11 ha⟩
theorem mul_le {a : Nat} (hq : Idl m S P q) (h : q a = true) {i : Nat} (hi : mulB m P a i = true) : q i = true := by
  obtain ⟨y, hy, rfl⟩ := mulB_iff.1 hi
  exact hq.t a y h hy
theorem RTab.sum_idl (R : RTab m S P e) (hp : Idl m S P p) (hq : Idl m S P q) : Idl m S P (opsB m S p q) where
  lt := fun i h => by obtain ⟨x, y, hx, hy, rfl⟩ := opsB_iff.1 h; exact R.sc (hp.lt x hx) (hq.lt y hy)
  z := opsB_iff.2 ⟨0, 0, hp.z, hq.z, R.A00 R.hm⟩
  s := fun i j hi hj => by
    obtain ⟨x, y, hx, hy, rfl⟩ := opsB_iff.1 hi
    obtain ⟨x', y', hx', hy', rfl⟩ := opsB_iff.1 hj
    exact opsB_iff.2 ⟨_, _, hp.s x x' hx hx', hq.s y y' hy hy', (R.A4 (hp.lt x hx) (hq.lt y hy) (hp.lt x' hx') (hq.lt y' hy')).symm⟩
  t := fun i j hi hj => by
    obtain ⟨x, y, hx, hy, rfl⟩ := opsB_iff.1 hi
    refine opsB_iff.2 ⟨_, _, hp.t x j hx hj, hq.t y j hy hj, ?_⟩
    have h1 := hp.lt x hx
    have h2 := hq.lt y hy
    rw [R.Mcs h1 hj, R.Mcs h2 hj, ← R.Md hj h1 h2, R.Mcs hj (R.sc h1 h2)]
theorem RTab.sum_left (R : RTab m S P e) (hp : Idl m S P p) (hq : Idl m S P q) {i : Nat} (h : p i = true) : opsB m S p q i = true := opsB_iff.2 ⟨i, 0, h, hq.z, R.A00 (hp.lt i h)⟩
theorem RTab.sum_right (R : RTab m S P e) (hp : Idl m S P p) (hq : Idl m S P q) {i : Nat} (h : q i = true) : opsB m S p q i = true := opsB_iff.2 ⟨0, i, hp.z, h, by rw [R.Acs R.hm (hq.lt i h)]; exact R.A00 (hq.lt i h)⟩
theorem sum_le (hr : Idl m S P r) (h1 : ∀ i, p i = true → r i = true) (h2 : ∀ i, q i = true → r i = true) {i : Nat} (h : opsB m S p q i = true) : r i = true := by
  obtain ⟨x, y, hx, hy, rfl⟩ := opsB_iff.1 h
  exact hr.s x y (h1 x hx) (h2 y hy)
theorem RTab.gen_sum (R : RTab m S P e) (hp : Idl m S P p) (hq : Idl m S P q) : genB m S P (fun i => p i || q i) = opsB m S p q :=
  gen_eq (R.sum_idl hp hq) (fun i h => by rw [Bool.or_eq_true] at h; exact h.elim (R.sum_left hp hq) (R.sum_right hp hq)) fun i h =>
    sum_le R.gen_idl (fun i h => gen_ge (fun i h => by rw [Bool.or_eq_true] at h; exact h.elim (hp.lt i) (hq.lt i)) (by rw [h]; rfl)) (fun i h => gen_ge (fun i h => by rw [Bool.or_eq_true] at h; exact h.elim (hp.lt i) (hq.lt i)) (by rw [h, Bool.or_true])) h
/-- The ideal of a list. -/
theorem RTab.gen_nil (R : RTab m S P e) : genB m S P (memB []) = mulB m P 0 :=
  gen_eq (R.mul_idl R.hm) (fun i h => absurd (memB_iff.1 h) (by simp)) fun i h => mul_le R.gen_idl (R.gen_idl).z h
theorem RTab.gen_one (R : RTab m S P e) {a : Nat} (ha : a < m) : genB m S P (memB [a]) = mulB m P a :=
  gen_eq (R.mul_idl ha) (fun i h => by have := memB_iff.1 h; simp at this; subst this; exact R.mul_self ha) fun i h => mul_le R.gen_idl (gen_ge (fun i h => by have := memB_iff.1 h; simp at this; omega) (memB_iff.2 (by simp))) h
theorem RTab.gen_snoc (R : RTab m S P e) {l : List Nat} {a : Nat} (hl : ∀ x ∈ l, x < m) (ha : a < m) : genB m S P (memB (l ++ [a])) = opsB m S (genB m S P (memB l)) (mulB m P a) := by
  have hl' : ∀ i, memB (l ++ [a]) i = true → i < m := fun i h => by
    have := memB_iff.1 h
    rw [List.mem_append, List.mem_singleton] at this
    exact this.elim (hl i) (fun e => e ▸ ha)
  refine gen_eq (R.sum_idl R.gen_idl (R.mul_idl ha)) (fun i h => ?_) fun i h => sum_le R.gen_idl (fun i h => R.gen_mono hl' (fun i h => memB_iff.2 (List.mem_append_left _ (memB_iff.1 h))) h) (fun i h => mul_le R.gen_idl (gen_ge hl' (memB_iff.2 (by simp))) h) h
  have := memB_iff.1 h
  rw [List.mem_append, List.mem_singleton] at this
  rcases this with h | rfl
  · exact R.sum_left R.gen_idl (R.mul_idl ha) (gen_ge (fun i h => hl i (memB_iff.1 h)) (memB_iff.2 h))
  · exact R.sum_right R.gen_idl (R.mul_idl ha) (R.mul_self ha)
theorem RTab.gen_old (R : RTab m S P e) {l : List Nat} {a : Nat} (hl : ∀ x ∈ l, x < m) (ha : genB m S P (memB l) a = true) : genB m S P (memB (l ++ [a])) = genB m S P (memB l) := by
  refine gen_eq R.gen_idl (fun i h => ?_) fun i h => R.gen_mono (fun i h => ?_) (fun i h => memB_iff.2 (List.mem_append_left _ (memB_iff.1 h))) h
  · have := memB_iff.1 h
    rw [List.mem_append, List.mem_singleton] at this
    rcases this with h | rfl
    · exact gen_ge (fun i h => hl i (memB_iff.1 h)) (memB_iff.2 h)
    · exact ha
  · have := memB_iff.1 h
    rw [List.mem_append, List.mem_singleton] at this
    exact this.elim (hl i) (fun e => e ▸ gen_lt ha)
/-- A set between some elements and their ideal that is closed is the ideal. -/
theorem gen_closed (h1 : ∀ i, p i = true → q i = true) (h2 : ∀ i, q i = true → genB m S P p i = true) (z : q 0 = true) (hs : ∀ i j, q i = true → q j = true → q (S (i * m + j)) = true) (ht : ∀ i j, q i = true → j < m → q (P (i * m + j)) = true) : q = genB m S P p :=
  (gen_eq ⟨fun i h => gen_lt (h2 i h), z, hs, ht⟩ h1 h2).symm
end
end Go.Proofs.YtajoimopahibcaaGreat



/- Plain facts: lists that are ideals, and what is made of them. No program in sight. -/
namespace Go.Proofs.YtajoimopahibcaaGreat
open Go.RowKit

def natL (L : List Int) : List Nat := L.map Int.toNat
/-- The elements of a set, in order. -/
def lstP (m : Nat) (p : Nat → Bool) : List Int := finI (selTo m p m)
/-- The set of a list of numbers. -/
def setL (L : List Int) : Nat → Bool := memB (natL L)
noncomputable def genL (n : Int) (X Y L : List Int) : Nat → Bool := genB n.toNat (tabOf X) (tabOf Y) (setL L)
noncomputable def ideB (n o : Int) (X Y L : List Int) : Bool := validB n o X Y && allB n L
noncomputable def ideL (n o : Int) (X Y L : List Int) : List Int := if ideB n o X Y L = true then lstP n.toNat (genL n X Y L) else []
noncomputable def isIdB (n o : Int) (X Y L : List Int) : Bool := ideB n o X Y L && eqL L (ideL n o X Y L)
noncomputable def twoI (n o : Int) (X Y L K : List Int) : Bool := isIdB n o X Y L && isIdB n o X Y K
noncomputable def wholeB (m : Nat) (p : Nat → Bool) : Bool := propB (∀ x, x < m → p x = true)
noncomputable def primeB (m : Nat) (P : Nat → Nat) (p : Nat → Bool) : Bool := !wholeB m p && propB (∀ x y, x < m → y < m → p x = false → p y = false → p (P (x * m + y)) = false)
/-- What the functions of two ideals hand back. -/
noncomputable def fromL (n o : Int) (X Y L K : List Int) (p : Nat → Bool) : List Int := if twoI n o X Y L K = true then lstP n.toNat p else []
noncomputable def sumL (n o : Int) (X Y L K : List Int) : List Int := fromL n o X Y L K (opsB n.toNat (tabOf X) (setL L) (setL K))
noncomputable def priB (n o : Int) (X Y L : List Int) : Bool := isIdB n o X Y L && primeB n.toNat (tabOf Y) (setL L)
section
variable {m e : Nat} {S P : Nat → Nat} {p q : Nat → Bool}
theorem whole_iff : wholeB m p = true ↔ ∀ x, x < m → p x = true := propB_iff
theorem natL_finI {l : List (Fin m)} : natL (finI l) = finN l := by simp [natL, finI, finN]
theorem setL_lst (hp : ∀ i, p i = true → i < m) : setL (lstP m p) = p := bool_ext fun i => by
  unfold setL lstP
  rw [natL_finI, memB_iff, selTo_mem m (Nat.le_refl _)]
  exact ⟨fun h => h.2, fun h => ⟨hp i h, h⟩⟩
theorem lst_in {i : Nat} : i ∈ finN (selTo m p m) ↔ i < m ∧ p i = true := selTo_mem m (Nat.le_refl _)
theorem lst_len : (lstP m p).length = (selTo m p m).length := by unfold lstP; exact finI_len
theorem lst_le : (lstP m p).length ≤ m := by rw [lst_len]; exact selTo_len m
theorem lst_uniq (hp : ∀ i, p i = true → i < m) (hq : ∀ i, q i = true → i < m) (h : lstP m p = lstP m q) : p = q := by
  rw [← setL_lst hp, ← setL_lst hq, h]
end

section
variable {n o : Int} {X Y L K : List Int}
theorem ide_yes (h1 : validB n o X Y = true) (h2 : allB n L = true) : ideB n o X Y L = true := by unfold ideB; rw [h1, h2]; rfl
theorem ide_noV (h : validB n o X Y = false) : ideB n o X Y L = false := by unfold ideB; rw [h]; rfl
theorem ide_noA (h : allB n L = false) : ideB n o X Y L = false := by unfold ideB; rw [h]; simp
theorem ideL_yes (h : ideB n o X Y L = true) : ideL n o X Y L = lstP n.toNat (genL n X Y L) := if_pos h
theorem ideL_no (h : ideB n o X Y L = false) : ideL n o X Y L = [] := if_neg (by rw [h]; simp)
theorem ide_data (h : ideB n o X Y L = true) : validB n o X Y = true ∧ allB n L = true := by unfold ideB at h; rwa [Bool.and_eq_true] at h
theorem all_iff : allB n L = true ↔ ∀ x ∈ L, 0 ≤ x ∧ x < n := by
  unfold allB
  rw [decide_eq_true_iff]
  constructor
  · intro h x hx
    obtain ⟨k, hk, rfl⟩ := List.getElem_of_mem hx
    have := h k hk
    rw [List.getElem?_eq_getElem hk] at this
    exact of_decide_eq_true this
  · intro h k hk
    rw [List.getElem?_eq_getElem hk]
    exact inB_true (h _ (List.getElem_mem hk))
theorem isId_data {m e : Nat} (h : isIdB m e X Y L = true) : validB m e X Y = true ∧ Idl m (tabOf X) (tabOf Y) (setL L) ∧ L = lstP m (setL L) := by
  unfold isIdB at h
  rw [Bool.and_eq_true] at h
  obtain ⟨h1, h2⟩ := h
  obtain ⟨hv, ha⟩ := ide_data h1
  have h3 : L = ideL m e X Y L := of_decide_eq_true h2
  rw [ideL_yes h1, Int.toNat_natCast] at h3
  have R := rtab_of_valid hv
  have hg : Idl m (tabOf X) (tabOf Y) (genL m X Y L) := by unfold genL; rw [Int.toNat_natCast]; exact R.gen_idl
  have h4 : setL L = genL m X Y L := (congrArg setL h3).trans (setL_lst hg.lt)
  refine ⟨hv, ?_, ?_⟩
  · rw [h4]; exact hg
  · rw [h4]; exact h3
theorem isId_of {m e : Nat} {p : Nat → Bool} (hv : validB m e X Y = true) (hp : Idl m (tabOf X) (tabOf Y) p) : isIdB m e X Y (lstP m p) = true := by
  have R := rtab_of_valid hv
  have ha : allB m (lstP m p) = true := all_iff.2 fun x hx => by
    unfold lstP finI at hx
    rw [List.mem_map] at hx
    obtain ⟨y, _, rfl⟩ := hx
    have := y.2
    omega
  have h1 := ide_yes hv ha
  unfold isIdB
  rw [h1, Bool.true_and]
  refine decide_eq_true ?_
  rw [ideL_yes h1]
  unfold genL
  rw [Int.toNat_natCast, setL_lst hp.lt, gen_self hp]
theorem isId_ide (h : isIdB n o X Y L = true) : ideB n o X Y L = true := by unfold isIdB at h; rw [Bool.and_eq_true] at h; exact h.1
theorem two_data (h : twoI n o X Y L K = true) : isIdB n o X Y L = true ∧ isIdB n o X Y K = true := by unfold twoI at h; rwa [Bool.and_eq_true] at h
theorem two_yes (h1 : isIdB n o X Y L = true) (h2 : isIdB n o X Y K = true) : twoI n o X Y L K = true := by unfold twoI; rw [h1, h2]; rfl
theorem two_no1 (h : isIdB n o X Y L = false) : twoI n o X Y L K = false := by unfold twoI; rw [h]; rfl
theorem two_no2 (h : isIdB n o X Y K = false) : twoI n o X Y L K = false := by unfold twoI; rw [h]; simp
theorem fromL_yes {p : Nat → Bool} (h : twoI n o X Y L K = true) : fromL n o X Y L K p = lstP n.toNat p := if_pos h
theorem fromL_no {p : Nat → Bool} (h : twoI n o X Y L K = false) : fromL n o X Y L K p = [] := if_neg (by rw [h]; simp)
end
end Go.Proofs.YtajoimopahibcaaGreat



/- Sets as arrays by what tells their elements; iterators over elements; the library's iterator over a list. -/
namespace Go.Proofs.YtajoimopahibcaaGreat
open Go.RowKit Go.Shelf
set_option maxRecDepth 100000
attribute [local go_sem] Oper.semAt_some

def setP (p : Nat → Bool) : Array Value := (Array.range 16).map fun i => .bool (p i)
section
variable {p q : Nat → Bool} {l : List Nat} {i k m : Nat}
theorem setA_P : setA l = setP (memB l) := rfl
theorem setP_size : (setP p).size = 16 := by simp [setP]
theorem setP_get (h : i < 16) : (setP p)[i]? = some (.bool (p i)) := by
  unfold setP
  rw [Array.getElem?_map, Array.getElem?_range, if_pos h]; rfl
theorem setP_one : (setP p).all (·.oneCell') = true := by
  rw [Array.all_eq_true_iff_forall_mem]
  intro x hx
  simp only [setP, Array.mem_map] at hx
  obtain ⟨i, _, rfl⟩ := hx
  rfl
theorem setP_ext (h : ∀ i, i < 16 → p i = q i) : setP p = setP q := by
  apply Array.ext
  · simp [setP]
  · intro i h1 _
    have : i < 16 := by rw [setP_size] at h1; exact h1
    simp [setP, h i this]
/-- The elements of a set up to 16. -/
def pl (p : Nat → Bool) : List Nat := (List.range 16).filter p
theorem pl_mem (h : i < 16) : decide (i ∈ pl p) = p i := by
  unfold pl
  rw [Bool.eq_iff_iff, decide_eq_true_iff, List.mem_filter, List.mem_range]
  exact ⟨fun g => g.2, fun g => ⟨h, g⟩⟩
theorem setP_A : setP p = setA (pl p) := by rw [setA_P]; exact setP_ext fun i hi => (pl_mem hi).symm
theorem setP_fin (hp : ∀ i, p i = true → i < m) : setA (finN (selTo m p m)) = setP p := by
  rw [setA_P]
  refine congrArg setP (bool_ext fun i => ?_)
  rw [memB_iff, selTo_mem m (Nat.le_refl _)]
  exact ⟨fun h => h.2, fun h => ⟨hp i h, h⟩⟩
theorem setP_put : (setP p).setIfInBounds k (.bool true) = setP (fun i => p i || decide (i = k)) := by
  apply Array.ext
  · simp [setP]
  · intro i h1 _
    have h16 : i < 16 := by simpa [setP] using h1
    rw [Array.getElem_setIfInBounds (by rw [setP_size]; exact h16)]
    simp only [setP, Array.getElem_map, Array.getElem_range]
    split
    · rename_i e
      subst e
      simp
    · rename_i e
      rw [decide_eq_false (fun h => e h.symm), Bool.or_false]
theorem setP_nil : setP (fun _ => false) = #[.bool false, .bool false, .bool false, .bool false, .bool false, .bool false, .bool false, .bool false, .bool false, .bool false, .bool false, .bool false, .bool false, .bool false, .bool false, .bool false] := by
  rw [← setA_nil, setA_P]
  exact congrArg setP (funext fun i => by simp [memB])
theorem setP_inj (h : setP p = setP q) (hi : i < 16) : p i = q i := by
  have h1 := setP_get (p := p) hi
  rw [h, setP_get hi] at h1
  simpa using h1.symm
theorem eq_setP (w : World) : (Op.equalIn 10000 50 (.agg (setP p)) (.agg (setP q))).run Tryz.prog w = .ok (propB (∀ i, i < 16 → p i = q i)) w := by
  rw [setP_A, setP_A, eq_set]
  congr 1
  unfold sameA
  rw [Bool.eq_iff_iff, decide_eq_true_iff, propB_iff]
  constructor
  · intro h i hi
    have := h i (List.mem_range.2 hi)
    rw [← pl_mem (p := p) hi, ← pl_mem (p := q) hi]
    exact decide_eq_decide.2 this
  · intro h i hi
    have hi' := List.mem_range.1 hi
    have := h i hi'
    rw [← pl_mem (p := p) hi', ← pl_mem (p := q) hi'] at this
    exact decide_eq_decide.1 this
end

theorem hasP_any (p : Nat → Bool) (a : Nat) (w : World) (ha : a < 16) : Calls Tryz.prog 65 (#[.agg (setP p)].push (.int .i64 a)) w fun e w' => e = .returned (.bool (p a)) ∧ Below w.heap.size w w' := by
  have := setHas_any (pl p) a w ha
  rw [pl_mem ha, ← setP_A] at this
  exact this
theorem has2_any (p : Nat → Bool) (a : Nat) (w : World) (ha : a < 16) : Calls Tryz.prog 65 #[.agg (setP p), .int .i64 a] w fun e w' => e = .returned (.bool (p a)) ∧ Below w.heap.size w w' := hasP_any p a w ha
theorem putP_any (g a : Nat) (p : Nat → Bool) (w : World) (hb : Blk w g 50 (setP p)) (ha : a < 16) :
    Calls Tryz.prog 89 #[.pointer (some ⟨g, 0, none⟩), .int .i64 a] w fun e w' => (∃ v, e = .returned v) ∧ w' = w.setCell ⟨g, a, none⟩ (.bool true) :=
  put_any g a (pl p) w (by rw [← setP_A]; exact hb) ha
theorem Blk.put {g a : Nat} {p : Nat → Bool} {w : World} {t : TypeId} (hb : Blk w g t (setP p)) : Blk (w.setCell ⟨g, a, none⟩ (.bool true)) g t (setP (fun i => p i || decide (i = a))) := by
  have := hb.set_ a (.bool true)
  rwa [setP_put] at this

theorem SeqStopsK.later {α : Type} {F : Fence} {n : Nat} {P : Program} {g : Nat} {lb : Array Value} {encs : α → Array Value} {Kp : World → World → Prop} {S Sp : List α → Prop} {N : Nat} {w w' : World}
    (h : SeqStopsK F n P g lb encs Kp S Sp N w) (hb : Below w.heap.size w w') : SeqStopsK F n P g lb encs Kp S Sp N w' := fun l J Jx W hW hJ hJx hY h0 => h l J Jx W (hb.trans (hW.mono hb.size)) hJ hJx hY h0

/-- What where hands back, where a round leaves old memory below n1 and where's own boxes alone. -/
theorem where_K {Br Bp : Nat} (nn n1 m pf : Nat) (p : Nat → Bool) (rc bd : Array Value) (w : World) (hnn : 1 ≤ nn) (hm' : m ≤ 16) (eg : ∀ args w, (callFunc pf args).run Tryz.prog w = .ok (.enter pf args) w)
    (h1 : Blk w Br 25 rc) (hrc : rc[0]? = some (.int .i64 m)) (h2 : Blk w Bp 76 #[.func (.func pf) bd #[]]) (hn : n1 ≤ w.heap.size)
    (hp : ∀ a, a < m → ∀ W, Below n1 w W → Calls Tryz.prog pf (bd.push (.int .i64 a)) W fun e w' => e = .returned (.bool (p a)) ∧ Below W.heap.size W w') :
    SeqStopsK Fence.wide nn Tryz.prog 106 #[.pointer (some ⟨Br, 0, none⟩), .pointer (some ⟨Bp, 0, none⟩)] (encF m) (KpA n1 Br Bp) (fun ys => ys = selTo m p m) (fun pre => pre <+: selTo m p m) m w :=
  where_stops nn m Br Bp pf bd p hnn hm' (KpA n1 Br Bp) (fun W => Below n1 w W ∧ Blk W Br 25 rc ∧ Blk W Bp 76 #[.func (.func pf) bd #[]]) eg
    (fun _ hW => (hW.2.1.cell 0).trans hrc) (fun _ hW => hW.2.2.cell 0) (fun _ _ hW hb => ⟨hW.1.trans (hb.mono (Nat.le_trans hn hW.1.size)), hW.2.1.next hb, hW.2.2.next hb⟩) (fun _ _ hW hk => ⟨hW.1.trans hk.1, hk.2.1.trans hW.2.1, hk.2.2.trans hW.2.2⟩)
    (fun a ha W hW => hp a ha W hW.1) w (fun _ hW => ⟨hW.mono hn, h1.next hW, h2.next hW⟩)
theorem has_K {Br Bp : Nat} (nn n1 m : Nat) (p : Nat → Bool) (rc : Array Value) (w : World) (hnn : 1 ≤ nn) (hm' : m ≤ 16) (h1 : Blk w Br 25 rc) (hrc : rc[0]? = some (.int .i64 m))
    (h2 : Blk w Bp 76 #[.func (.func 65) #[.agg (setP p)] #[]]) (hn : n1 ≤ w.heap.size) :
    SeqStopsK Fence.wide nn Tryz.prog 106 #[.pointer (some ⟨Br, 0, none⟩), .pointer (some ⟨Bp, 0, none⟩)] (encF m) (KpA n1 Br Bp) (fun ys => ys = selTo m p m) (fun pre => pre <+: selTo m p m) m w :=
  where_K nn n1 m _ p rc _ w hnn hm' (enters_of Tryz.func65 (by kernel_rfl) rfl) h1 hrc h2 hn fun a ha W _ => hasP_any p a W (by omega)
/-- .. where a round leaves all old memory alone. -/
theorem where_B {Br Bp : Nat} (m pf : Nat) (p : Nat → Bool) (rc bd : Array Value) (w : World) (hm' : m ≤ 16) (eg : ∀ args w, (callFunc pf args).run Tryz.prog w = .ok (.enter pf args) w)
    (h1 : Blk w Br 25 rc) (hrc : rc[0]? = some (.int .i64 m)) (h2 : Blk w Bp 76 #[.func (.func pf) bd #[]])
    (hp : ∀ a, a < m → ∀ W, Below w.heap.size w W → Calls Tryz.prog pf (bd.push (.int .i64 a)) W fun e w' => e = .returned (.bool (p a)) ∧ Below W.heap.size W w') :
    SeqStopsK Fence.wide 2 Tryz.prog 106 #[.pointer (some ⟨Br, 0, none⟩), .pointer (some ⟨Bp, 0, none⟩)] (encF m) (Below w.heap.size) (fun ys => ys = selTo m p m) (fun pre => pre <+: selTo m p m) m w :=
  where_stops 2 m Br Bp pf bd p (by decide) hm' (Below w.heap.size) (fun W => Below w.heap.size w W) eg
    (fun W hW => ((h1.below hW h1.lt).cell 0).trans hrc) (fun W hW => (h2.below hW h2.lt).cell 0) (fun W W' hW hb => hW.trans (hb.mono hW.size)) (fun W W' hW hb => hW.trans hb)
    (fun a ha W hW => hp a ha W hW) w (fun W hW => hW)
theorem has_B {Br Bp : Nat} (m : Nat) (p : Nat → Bool) (rc : Array Value) (w : World) (hm' : m ≤ 16) (h1 : Blk w Br 25 rc) (hrc : rc[0]? = some (.int .i64 m))
    (h2 : Blk w Bp 76 #[.func (.func 65) #[.agg (setP p)] #[]]) :
    SeqStopsK Fence.wide 2 Tryz.prog 106 #[.pointer (some ⟨Br, 0, none⟩), .pointer (some ⟨Bp, 0, none⟩)] (encF m) (Below w.heap.size) (fun ys => ys = selTo m p m) (fun pre => pre <+: selTo m p m) m w :=
  where_B m _ p rc _ w hm' (enters_of Tryz.func65 (by kernel_rfl) rfl) h1 hrc h2 fun a ha W _ => hasP_any p a W (by omega)

theorem values_any (A : Option Addr) (n c : Nat) (w : World) :
    Calls Tryz.prog 63 #[.slice A n c] w fun e w' => e = .returned (.func (.func 104) #[] #[.pointer (some ⟨w.heap.size, 0, none⟩)]) ∧ Blk w' w.heap.size 23 #[.slice A n c] ∧ Below w.heap.size w w' := by
  go_enter Tryz.func63, Tryz.ntmps63
  go_wp2
  go_ret
  exact ⟨rfl, Blk.new _ _ _, (Below.refl _ _).alloc (Nat.le_refl _) _⟩

set_option maxHeartbeats 2000000 in
theorem values1_in (n m l Bs n0 len cap : Nat) (A : Option Addr) (L : List (Fin m)) (hn : 1 ≤ n) (hlen : len ≤ 9223372036854775807)
    (J Jx : List (Fin m) → World → Prop)
    (hY : ∀ pre x W1, J pre W1 → pre.length < len → YieldAt Fence.wide (n - 1) Tryz.prog l #[.int .i64 (x.1 : Int)] W1 fun e W' =>
      (e = .returned (.bool true) ∧ J (pre ++ [x]) W' ∧ Below n0 W1 W') ∨ (e = .returned (.bool false) ∧ Jx (pre ++ [x]) W'))
    (W : World) (hBs : W.cell? ⟨Bs, 0, none⟩ = some (.slice A len cap)) (hI : Ints W n0 A len (finI L)) (h0 : J [] W) :
    CallsIn Fence.wide n Tryz.prog 104 #[.func (.yield l) #[] #[], .pointer (some ⟨Bs, 0, none⟩)] W fun e W' => (∃ v, e = .returned v) ∧
      ((∃ ys, ys = L ∧ J ys W') ∨ (∃ pre, pre <+: L ∧ Jx pre W')) := by
  have hL : L.length = len := by rw [← hI.1, finI_len]
  have HI := Lib.hid hI
  have HL := Lib.hid hL
  clear hI hL
  refine callsIn_of_wp Tryz.func104 rfl trivial ?_ rfl
  simp only [Tryz.ntmps104, List.size_toArray, List.length_cons, List.length_nil, Nat.reduceAdd, Nat.reduceSub, Array.replicate_succ, Array.replicate_zero, List.push_toArray, List.append_toArray, List.nil_append, List.cons_append]
  gi_wp2
  gi_loopw [7] (fun i wr => ∃ k : Nat, k ≤ len ∧ i = .int .i64 k ∧ J (L.take k) wr ∧ Below n0 W wr) (fun i _ => len - (intOf i).toNat)
  case atStart => exact ⟨0, Nat.zero_le _, rfl, h0, Below.refl _ _⟩
  case round =>
    obtain ⟨k, hk, rfl, hJs, hb⟩ := hrel
    have JS := Lib.hid hJs
    have HB := Lib.hid hb
    clear hJs hb
    by_cases hlt : k < len
    · have hkL : k < L.length := by rw [HL.out]; exact hlt
      obtain ⟨b, off, rfl, hb1, hc⟩ := HI.out.at_ hlt
      have hc2 : wr.cell? ⟨b, off + k, none⟩ = some (.int .i64 ((L[k]).1 : Int)) := by
        rw [HB.out.cell (p := ⟨b, off + k, none⟩) hb1, hc, finI_get_val hkL]
      have HX := Lib.hid (show L.take (k + 1) = L.take k ++ [L[k]] from by rw [List.take_succ_eq_append_getElem hkL])
      clear hc
      obtain ⟨fn, tmps, assign, body, hy, hR⟩ := hY _ L[k] wr JS.out (by rw [List.length_take]; omega)
      obtain ⟨x, hx⟩ : ∃ x, L[k] = x := ⟨_, rfl⟩
      rw [hx] at hc2 hR hy
      have HX := Lib.hid (show L.take (k + 1) = L.take k ++ [x] from by rw [HX.out, hx])
      have HXX := Lib.hid hx
      clear hx
      gi_wp2
      refine hR.mono ?_
      rintro e W3 (⟨rfl, hJ3, hk3⟩ | ⟨rfl, hJx3⟩)
      · gi_wp2
        go_roundw
        case rel => exact ⟨k + 1, by omega, by go_num, by rw [HX.out]; exact hJ3, HB.out.trans hk3⟩
        case measure => simp [intOf]; omega
      · gi_wp2
        refine bodyPost_ret (results_none rfl _ _ _) rfl ?_
        exact ⟨⟨_, rfl⟩, .inr ⟨L.take (k + 1), List.take_prefix _ _, by rw [HX.out]; exact hJx3⟩⟩
    · have hkm : k = len := by omega
      subst hkm
      gi_wp2
      go_end0
      exact ⟨⟨_, rfl⟩, .inl ⟨_, rfl, by have := JS.out; rwa [List.take_of_length_le (by rw [HL.out]; exact Nat.le_refl _)] at this⟩⟩

/-- What the library's Values hands back is an iterator over the numbers of a list. -/
theorem values_seq {Bs n0 len cap m : Nat} {A : Option Addr} (L : List (Fin m)) (w : World) (hlen : len ≤ 9223372036854775807) (hB : Blk w Bs 23 #[.slice A len cap]) (hI : Ints w n0 A len (finI L)) (hn : n0 ≤ w.heap.size) :
    SeqStopsK Fence.wide 2 Tryz.prog 104 #[.pointer (some ⟨Bs, 0, none⟩)] (encF m) (Below n0) (fun ys => ys = L) (fun pre => pre <+: L) len w :=
  fun l J Jx W hW _ _ hY h0 => values1_in 2 m l Bs n0 len cap A L (by decide) hlen J Jx hY W (((hB.next hW).cell 0).trans rfl) (hI.below hW hn) h0

end Go.Proofs.YtajoimopahibcaaGreat



/- Iterators over elements whose test captures variables. -/
namespace Go.Proofs.YtajoimopahibcaaGreat
open Go.RowKit Go.Shelf
set_option maxRecDepth 100000
attribute [local go_sem] Oper.semAt_some

set_option maxHeartbeats 2000000 in
theorem where2_in (n m l Br Bp pf : Nat) (cp : Array Value) (p : Nat → Bool) (hn : 1 ≤ n) (hm' : m ≤ 16) (Kp : World → World → Prop) (Inv : World → Prop)
    (eg : ∀ args w, (callFunc pf args).run Tryz.prog w = .ok (.enter pf args) w)
    (i1 : ∀ W, Inv W → W.cell? ⟨Br, 0, none⟩ = some (.int .i64 m)) (i2 : ∀ W, Inv W → W.cell? ⟨Bp, 0, none⟩ = some (.func (.func pf) #[] cp)) (i3 : ∀ W W', Inv W → Below W.heap.size W W' → Inv W') (i4 : ∀ W W', Inv W → Kp W W' → Inv W')
    (hp : ∀ a, a < m → ∀ W, Inv W → Calls Tryz.prog pf (#[.int .i64 a] ++ cp) W fun e w' => e = .returned (.bool (p a)) ∧ Below W.heap.size W w')
    (J Jx : List (Fin m) → World → Prop) (W : World) (hJ : AbidesFrom W.heap.size J)
    (hY : ∀ pre x W1, J pre W1 → pre.length < m → YieldAt Fence.wide (n - 1) Tryz.prog l #[.int .i64 (x.1 : Int)] W1 fun e W' =>
      (e = .returned (.bool true) ∧ J (pre ++ [x]) W' ∧ Kp W1 W') ∨ (e = .returned (.bool false) ∧ Jx (pre ++ [x]) W'))
    (hW : Inv W) (h0 : J [] W) :
    CallsIn Fence.wide n Tryz.prog 106 #[.func (.yield l) #[] #[], .pointer (some ⟨Br, 0, none⟩), .pointer (some ⟨Bp, 0, none⟩)] W fun e W' => (∃ v, e = .returned v) ∧
      ((∃ ys, ys = selTo m p m ∧ J ys W') ∨ (∃ pre, pre <+: selTo m p m ∧ Jx pre W')) := by
  have c1 := i1 W hW
  refine callsIn_of_wp Tryz.func106 rfl trivial ?_ rfl
  simp only [Tryz.ntmps106, List.size_toArray, List.length_cons, List.length_nil, Nat.reduceAdd, Nat.reduceSub, Array.replicate_succ, Array.replicate_zero, List.push_toArray, List.append_toArray, List.nil_append, List.cons_append]
  gi_wp2
  gi_loopw [7] (fun i wr => ∃ k : Nat, k ≤ m ∧ i = .int .i64 k ∧ J (selTo m p k) wr ∧ Inv wr) (fun i _ => m - (intOf i).toNat)
  case atStart => exact ⟨0, Nat.zero_le _, rfl, h0, hW⟩
  case round =>
    obtain ⟨k, hk, rfl, hJs, hI⟩ := hrel
    have c2 := i2 wr hI
    have JS := Lib.hid hJs
    clear hJs
    by_cases hlt : k < m
    · cases hq : p k
      · have hpk := hp k hlt wr hI
        rw [hq] at hpk
        have HQ := Lib.hid hq
        gi_wp2
        refine ⟨trivial, (callsIn_wide.2 hpk).mono ?_⟩
        rintro e w1 ⟨rfl, hb1⟩
        clear hpk
        gi_wp2
        refine ⟨fun _ h => (by cases h), ?_⟩
        gi_wp2
        go_roundw
        case rel => exact ⟨k + 1, by omega, by go_num, by rw [selTo_no HQ.out]; exact hJ _ wr w1 none JS.out (Below.grown_ hb1) (fun r e => by cases e), i3 _ _ hI hb1⟩
        case measure => simp [intOf]; omega
      · have hpk := hp k hlt wr hI
        rw [hq] at hpk
        have HQ := Lib.hid hq
        gi_wp2
        refine ⟨trivial, (callsIn_wide.2 hpk).mono ?_⟩
        rintro e w1 ⟨rfl, hb1⟩
        clear hpk
        have hl := selTo_len (m := m) (p := p) k
        obtain ⟨fn, tmps, assign, body, hy, hR⟩ := hY _ ⟨k, hlt⟩ w1 (hJ _ wr w1 none JS.out (Below.grown_ hb1) (fun r e => by cases e)) (by omega)
        dsimp only at hy
        have HI1 := Lib.hid (i3 _ _ hI hb1)
        gi_wp2
        refine hR.mono ?_
        rintro e W3 (⟨rfl, hJ3, hk3⟩ | ⟨rfl, hJx3⟩)
        · have HI3 := Lib.hid (i4 _ _ HI1.out hk3)
          gi_wp2
          go_roundw
          case rel => exact ⟨k + 1, by omega, by go_num, by rw [selTo_yes hlt HQ.out]; exact hJ3, HI3.out⟩
          case measure => simp [intOf]; omega
        · gi_wp2
          refine bodyPost_ret (results_none rfl _ _ _) rfl ?_
          exact ⟨⟨_, rfl⟩, .inr ⟨_, by rw [← selTo_yes hlt HQ.out]; exact selTo_le hlt, hJx3⟩⟩
    · have hkm : k = m := by omega
      subst hkm
      gi_wp2
      go_end0
      exact ⟨⟨_, rfl⟩, .inl ⟨_, rfl, JS.out⟩⟩

theorem where2_any (n o : Int) (A B : Option Addr) (la ca lb cb pf : Nat) (cp : Array Value) (w : World) :
    Calls Tryz.prog 68 #[.agg #[.int .i64 n, .int .i64 o, .slice A la ca, .slice B lb cb], .func (.func pf) #[] cp] w fun e w' =>
      e = .returned (.func (.func 106) #[] #[.pointer (some ⟨w.heap.size, 0, none⟩), .pointer (some ⟨w.heap.size + 1, 0, none⟩)]) ∧
      Blk w' w.heap.size 25 #[.int .i64 n, .int .i64 o, .slice A la ca, .slice B lb cb] ∧ Blk w' (w.heap.size + 1) 76 #[.func (.func pf) #[] cp] ∧ Below w.heap.size w w' := by
  go_enter Tryz.func68, Tryz.ntmps68
  go_wp2
  go_ret
  refine ⟨rfl, (Blk.new _ _ _).alloc _, ?_, ((Below.refl _ _).alloc (Nat.le_refl _) _).alloc (by simp) _⟩
  have := Blk.new (w.alloc (.cells #[.int .i64 n, .int .i64 o, .slice A la ca, .slice B lb cb] 25)) 76 #[.func (.func pf) #[] cp]
  rw [World.size_alloc] at this
  exact this

theorem where2_Bn {Br Bp : Nat} (nn n1 m pf : Nat) (p : Nat → Bool) (rc cp : Array Value) (w : World) (hnn : 1 ≤ nn) (hm' : m ≤ 16) (eg : ∀ args w, (callFunc pf args).run Tryz.prog w = .ok (.enter pf args) w)
    (h1 : Blk w Br 25 rc) (hrc : rc[0]? = some (.int .i64 m)) (h2 : Blk w Bp 76 #[.func (.func pf) #[] cp]) (hn : w.heap.size ≤ n1)
    (hp : ∀ a, a < m → ∀ W, Below w.heap.size w W → Calls Tryz.prog pf (#[.int .i64 a] ++ cp) W fun e w' => e = .returned (.bool (p a)) ∧ Below W.heap.size W w') :
    SeqStopsK Fence.wide nn Tryz.prog 106 #[.pointer (some ⟨Br, 0, none⟩), .pointer (some ⟨Bp, 0, none⟩)] (encF m) (Below n1) (fun ys => ys = selTo m p m) (fun pre => pre <+: selTo m p m) m w :=
  fun l J Jx W hW hJ _ hY h0 => where2_in nn m l Br Bp pf cp p hnn hm' (Below n1) (fun W => Below w.heap.size w W) eg
    (fun _ hW => ((h1.below hW h1.lt).cell 0).trans hrc) (fun _ hW => (h2.below hW h2.lt).cell 0) (fun _ _ hW hb => hW.trans (hb.mono hW.size)) (fun _ _ hW hb => hW.trans (hb.mono hn))
    (fun a ha W hW => hp a ha W hW) J Jx W hJ hY hW h0
/-- What where hands back, at a test that captures, where a round leaves all old memory alone. -/
theorem where2_B {Br Bp : Nat} (n1 m pf : Nat) (p : Nat → Bool) (rc cp : Array Value) (w : World) (hm' : m ≤ 16) (eg : ∀ args w, (callFunc pf args).run Tryz.prog w = .ok (.enter pf args) w)
    (h1 : Blk w Br 25 rc) (hrc : rc[0]? = some (.int .i64 m)) (h2 : Blk w Bp 76 #[.func (.func pf) #[] cp]) (hn : w.heap.size ≤ n1)
    (hp : ∀ a, a < m → ∀ W, Below w.heap.size w W → Calls Tryz.prog pf (#[.int .i64 a] ++ cp) W fun e w' => e = .returned (.bool (p a)) ∧ Below W.heap.size W w') :
    SeqStopsK Fence.wide 2 Tryz.prog 106 #[.pointer (some ⟨Br, 0, none⟩), .pointer (some ⟨Bp, 0, none⟩)] (encF m) (Below n1) (fun ys => ys = selTo m p m) (fun pre => pre <+: selTo m p m) m w :=
  fun l J Jx W hW hJ _ hY h0 => where2_in 2 m l Br Bp pf cp p (by decide) hm' (Below n1) (fun W => Below w.heap.size w W) eg
    (fun _ hW => ((h1.below hW h1.lt).cell 0).trans hrc) (fun _ hW => (h2.below hW h2.lt).cell 0) (fun _ _ hW hb => hW.trans (hb.mono hW.size)) (fun _ _ hW hb => hW.trans (hb.mono hn))
    (fun a ha W hW => hp a ha W hW) J Jx W hJ hY hW h0

end Go.Proofs.YtajoimopahibcaaGreat



/- The program's sets: multiples of an element, the whole ring; the elements of a set as a list; what is outside of one. -/
namespace Go.Proofs.YtajoimopahibcaaGreat
open Go.RowKit Go.Shelf
set_option maxRecDepth 100000
attribute [local go_sem] Oper.semAt_some

/-- The row of an element in a table. -/
def rowF (m : Nat) (P : Nat → Nat) (a : Nat) (h : ∀ y, y < m → P (a * m + y) < m) : List (Fin m) := (List.finRange m).map fun y => ⟨P (a * m + y.1), h y.1 y.2⟩
theorem rowF_ints {w : World} {B b off m a : Nat} {P : Nat → Nat} (h : ∀ y, y < m → P (a * m + y) < m) (ht : Tab w B b off m P) (ha : a < m) : Ints w B (some ⟨b, off + a * m, none⟩) m (finI (rowF m P a h)) :=
  ⟨by simp [rowF, finI], fun _ => ⟨b, off + a * m, rfl, ht.1, fun k x hx => by
    have hk : k < m := by
      rcases Nat.lt_or_ge k m with h1 | h1
      · exact h1
      · rw [List.getElem?_eq_none (by simpa [rowF, finI] using h1)] at hx; cases hx
    have e : x = (P (a * m + k) : Nat) := by
      simp [rowF, finI, hk] at hx
      exact hx.symm
    rw [e, Nat.add_assoc]
    exact (ht.2 _ (idx_lt ha hk)).1⟩⟩
theorem rowF_set {m a : Nat} {P : Nat → Nat} (h : ∀ y, y < m → P (a * m + y) < m) : setA (finN (rowF m P a h)) = setP (mulB m P a) := by
  rw [setA_P]
  refine congrArg setP (bool_ext fun i => ?_)
  rw [memB_iff, mulB_iff]
  simp only [rowF, finN, List.map_map, List.mem_map, List.mem_finRange, true_and, Function.comp_apply]
  constructor
  · rintro ⟨y, rfl⟩; exact ⟨y.1, y.2, rfl⟩
  · rintro ⟨y, hy, rfl⟩; exact ⟨⟨y, hy⟩, rfl⟩

theorem set_info {S : Array Value} (h : S.size = 16) : (Tryz.prog.info? 50).map (·.size) = some S.size := by rw [h]; kernel_rfl

set_option maxHeartbeats 4000000 in
theorem multiples_any (a : Nat) (m e b1 o1 la ca b2 o2 lb cb : Nat) (S P : Nat → Nat) (w : World) (hr : RingAt w m e b1 o1 la ca b2 o2 lb cb S P) (ha : a < m) :
    Calls Tryz.prog 43 #[.agg #[.int .i64 m, .int .i64 e, .slice (some ⟨b1, o1, none⟩) la ca, .slice (some ⟨b2, o2, none⟩) lb cb], .int .i64 a] w fun e' w' => e' = .returned (.agg (setP (mulB m P a))) ∧ Below w.heap.size w w' := by
  have hlt : ∀ y, y < m → P (a * m + y) < m := fun y hy => hr.tp.lt ha hy
  obtain ⟨W, hW⟩ : ∃ W, (w.alloc (.cells #[.int .i64 m, .int .i64 e, .slice (some ⟨b1, o1, none⟩) la ca, .slice (some ⟨b2, o2, none⟩) lb cb] 25)).alloc (.cells (setP fun _ => false) 50) = W := ⟨_, rfl⟩
  have k0 : Blk W w.heap.size 25 #[.int .i64 m, .int .i64 e, .slice (some ⟨b1, o1, none⟩) la ca, .slice (some ⟨b2, o2, none⟩) lb cb] := by
    subst hW; exact (Blk.new w _ _).alloc _
  have k1 : Blk W (w.heap.size + 1) 50 (setP fun _ => false) := by
    subst hW
    have := Blk.new (w.alloc (.cells #[.int .i64 m, .int .i64 e, .slice (some ⟨b1, o1, none⟩) la ca, .slice (some ⟨b2, o2, none⟩) lb cb] 25)) 50 (setP fun _ => false)
    rw [World.size_alloc] at this
    exact this
  have b0 : Below w.heap.size w W := by
    subst hW; exact ((Below.refl _ _).alloc (Nat.le_refl _) _).alloc (by simp) _
  have hR := hr.next b0
  have hm := hr.hm
  have hm' := hr.hm'
  have HLB := Lib.hid hr.hlb
  have HCB := Lib.hid hr.hcb
  have HT := Lib.hid hR.tp
  have HW := Lib.hid hW
  have K1 := Lib.hid k1
  have B0 := Lib.hid b0
  have hs0 := k1.lt
  obtain ⟨c0, c1, c2, c3⟩ := blk4 k0
  have hs1 : (setP (mulB m P a)).size = 16 := setP_size
  have hs2 := setP_one (p := mulB m P a)
  have hi := set_info hs1
  have hold : (setP fun _ => false).size = (setP (mulB m P a)).size := by rw [setP_size, setP_size]
  have HF := Lib.hid (rowF_set hlt)
  obtain ⟨S, hS⟩ : ∃ S, setP (mulB m P a) = S := ⟨_, rfl⟩
  rw [hS] at hs1 hs2 hi hold
  have HS := Lib.hid hS
  clear hW k0 k1 b0 hR hr hS
  go_enter Tryz.func43, Tryz.ntmps43
  go_wp2_with (fail)
  rw [← setP_nil, HW.out]
  refine (row_any m e _ _ la ca lb cb b2 o2 lb cb a W hm hm' ha HLB.out HCB.out).mono ?_
  rintro e1 w1 ⟨rfl, hb1⟩
  have K1 := Lib.hid (K1.out.next hb1)
  have HI := Lib.hid ((rowF_ints hlt HT.out ha).next hb1)
  have B1 := Lib.hid (below_step B0.out hb1)
  have s1 := hb1.size
  clear hb1 c0 c1 c2 c3
  go_wp2_with (fail)
  refine (values_any _ m m w1).mono ?_
  rintro e2 w2 ⟨rfl, hB2, hb2⟩
  have K1 := Lib.hid (K1.out.next hb2)
  have B2 := Lib.hid (below_step B1.out hb2)
  have SQ := Lib.hid (values_seq (n0 := w1.heap.size) _ w2 (by omega) hB2 (HI.out.below hb2 (Nat.le_refl _)) hb2.size)
  have s2 := hb2.size
  clear hb2 hB2
  have EG := Lib.hid (enters_of Tryz.func104 (by kernel_rfl) rfl)
  go_wp2_with (fail)
  refine (setOf_any m _ w1.heap.size m _ _ _ w2 hm' EG.out SQ.out s2).mono ?_
  rintro e3 w3 ⟨rfl, hb3⟩
  rw [HF.out, HS.out]
  have k1 := K1.out.next hb3
  have B3 := Lib.hid (below_step B2.out hb3)
  clear hb3
  go_wp2_with (refine wpList_store_row rfl 50 (.tmp 4) (.tmp 11) rfl (w.heap.size + 1) S rfl rfl _ _ k1 hi hold hs2 ?_)
  exact bodyPost_ret (results_cell_row Tryz.results43 _ _ (w.heap.size + 1) 50 S (0, 0) _ rfl (setRow_heap w3 _ _ S _ _ k1) Tryz.underlying50 rfl hi) rfl ⟨by rw [HS.out], below_setRow B3.out (by omega) S⟩

end Go.Proofs.YtajoimopahibcaaGreat



/- The program's sets: the whole ring; the elements of a set as a list; what is outside of one. -/
namespace Go.Proofs.YtajoimopahibcaaGreat
open Go.RowKit Go.Shelf
set_option maxRecDepth 100000
attribute [local go_sem] Oper.semAt_some

section
variable {n l0 : Nat} {P : Program} {ops : Array Oper} {rest : List Oper} {o : Oper} {a : Act} {w : World} {Q : Exit → Act → World → Prop}
theorem wpListIn_load_rowR (hgd : o.guard = none) (ty : TypeId) (x : Operand) (ho : o.op = .load ty x)
    (g : Nat) (hx : a.eval x = .pointer (some ⟨g, 0, none⟩)) (t : TypeId) (cs : Array Value) (fr : Nat × Nat) (d : TypeDesc) (hg : w.heap[g]? = some (.cells cs t fr))
    (hu : P.underlying ty = some d) (hd : (match d with | .struct _ | .array _ _ => true | _ => false) = true) (hi : (P.info? ty).map (·.size) = some cs.size)
    (h : wpListIn (Fence.wide.inRound l0) n P ops Q rest (a.put o.dst (.agg cs)) w) : wpListIn (Fence.wide.inRound l0) n P ops Q (o :: rest) a w :=
  wpListIn_plain hgd fun K hK => ⟨fun _ _ => trivial, by
    show o.uponIn (Fence.wide.inRound l0) n P a K Q ((Oper.semAt (some l0) a.eval o).run P w)
    rw [Oper.semAt_some l0 _ o (by rw [ho]; intro c e; cases e)]
    unfold execOp
    simp only [ho, hx, Instr.loadAt, Instr.sureAddr, Sem.run_bind, Sem.run_pure, Result.andThen_ok, run_loadVar_row w g t ty cs fr d hg hu hd hi]
    exact hK _ _ h⟩
end

/-- All elements. -/
def allE (m : Nat) (i : Nat) : Bool := decide (i < m)
theorem allE_lt {m i : Nat} (h : allE m i = true) : i < m := of_decide_eq_true h

set_option maxHeartbeats 4000000 in
theorem whole_any (m e b1 o1 la ca b2 o2 lb cb : Nat) (S P : Nat → Nat) (w : World) (hr : RingAt w m e b1 o1 la ca b2 o2 lb cb S P) :
    Calls Tryz.prog 40 #[.agg #[.int .i64 m, .int .i64 e, .slice (some ⟨b1, o1, none⟩) la ca, .slice (some ⟨b2, o2, none⟩) lb cb]] w fun e' w' => e' = .returned (.agg (setP (allE m))) ∧ Below w.heap.size w w' := by
  obtain ⟨W, hW⟩ : ∃ W, (w.alloc (.cells #[.int .i64 m, .int .i64 e, .slice (some ⟨b1, o1, none⟩) la ca, .slice (some ⟨b2, o2, none⟩) lb cb] 25)).alloc (.cells (setP fun _ => false) 50) = W := ⟨_, rfl⟩
  have k0 : Blk W w.heap.size 25 #[.int .i64 m, .int .i64 e, .slice (some ⟨b1, o1, none⟩) la ca, .slice (some ⟨b2, o2, none⟩) lb cb] := by
    subst hW; exact (Blk.new w _ _).alloc _
  have k1 : Blk W (w.heap.size + 1) 50 (setP fun _ => false) := by
    subst hW
    have := Blk.new (w.alloc (.cells #[.int .i64 m, .int .i64 e, .slice (some ⟨b1, o1, none⟩) la ca, .slice (some ⟨b2, o2, none⟩) lb cb] 25)) 50 (setP fun _ => false)
    rw [World.size_alloc] at this
    exact this
  have b0 : Below w.heap.size w W := by
    subst hW; exact ((Below.refl _ _).alloc (Nat.le_refl _) _).alloc (by simp) _
  have hm' := hr.hm'
  have HW := Lib.hid hW
  have K1 := Lib.hid k1
  have B0 := Lib.hid b0
  have hs0 := k1.lt
  obtain ⟨c0, c1, c2, c3⟩ := blk4 k0
  obtain ⟨S, hS⟩ : ∃ S, setP (allE m) = S := ⟨_, rfl⟩
  have hs1 : S.size = 16 := by rw [← hS]; exact setP_size
  have hs2 : S.all (·.oneCell') = true := by rw [← hS]; exact setP_one
  have hi := set_info hs1
  have hold : (setP fun _ => false).size = S.size := by rw [setP_size, hs1]
  have HS := Lib.hid hS
  clear hW k0 k1 b0 hr hS
  go_enter Tryz.func40, Tryz.ntmps40
  go_wp2_with (fail)
  rw [← setP_nil, HW.out]
  refine (where_any m e _ _ la ca lb cb 91 _ W).mono ?_
  rintro e1 w1 ⟨rfl, hB1, hB2, hb1⟩
  have K1 := Lib.hid (K1.out.next hb1)
  have B1 := Lib.hid (below_step B0.out hb1)
  have EG0 := Lib.hid (enters_of Tryz.func91 (by kernel_rfl) rfl)
  have SQ := Lib.hid (where_B m 91 (allE m) _ _ w1 hm' EG0.out hB1 rfl hB2 (fun a ha W' _ => by
    have := has_any m e a (some ⟨b1, o1, none⟩) (some ⟨b2, o2, none⟩) la ca lb cb W'
    rw [show inB (m : Int) (a : Int) = allE m a from by rw [inB_true ⟨by omega, by omega⟩]; exact (decide_eq_true ha).symm] at this
    exact this))
  have s1 := hb1.size
  clear hb1 hB1 hB2 c0 c1 c2 c3
  have EG := Lib.hid (enters_of Tryz.func106 (by kernel_rfl) rfl)
  go_wp2_with (fail)
  refine (setOf_any m _ w1.heap.size m _ _ _ w1 hm' EG.out SQ.out (Nat.le_refl _)).mono ?_
  rintro e3 w3 ⟨rfl, hb3⟩
  rw [setP_fin (fun _ => allE_lt), HS.out]
  have k1 := K1.out.next hb3
  have B3 := Lib.hid (below_step B1.out hb3)
  clear hb3
  go_wp2_with (refine wpList_store_row rfl 50 (.tmp 2) (.tmp 7) rfl (w.heap.size + 1) S rfl rfl _ _ k1 hi hold hs2 ?_)
  exact bodyPost_ret (results_cell_row Tryz.results40 _ _ (w.heap.size + 1) 50 S (0, 0) _ rfl (setRow_heap w3 _ _ S _ _ k1) Tryz.underlying50 rfl hi) rfl ⟨by rw [HS.out], below_setRow B3.out (by omega) S⟩

set_option maxHeartbeats 4000000 in
theorem elements_any (p : Nat → Bool) (m : Nat) (o : Int) (A B : Option Addr) (la ca lb cb : Nat) (w : World) (hm' : m ≤ 16) :
    Calls Tryz.prog 53 #[.agg #[.int .i64 m, .int .i64 o, .slice A la ca, .slice B lb cb], .agg (setP p)] w fun e' w' => ∃ v, e' = .returned v ∧ SliceOut w.heap.size w' v (lstP m p) ∧ Below w.heap.size w w' := by
  obtain ⟨W, hW⟩ : ∃ W, (w.alloc (.cells #[.int .i64 m, .int .i64 o, .slice A la ca, .slice B lb cb] 25)).alloc (.cells (setP p) 50) = W := ⟨_, rfl⟩
  have k0 : Blk W w.heap.size 25 #[.int .i64 m, .int .i64 o, .slice A la ca, .slice B lb cb] := by
    subst hW; exact (Blk.new w _ _).alloc _
  have k1 : Blk W (w.heap.size + 1) 50 (setP p) := by
    subst hW
    have := Blk.new (w.alloc (.cells #[.int .i64 m, .int .i64 o, .slice A la ca, .slice B lb cb] 25)) 50 (setP p)
    rw [World.size_alloc] at this
    exact this
  have b0 : Below w.heap.size w W := by
    subst hW; exact ((Below.refl _ _).alloc (Nat.le_refl _) _).alloc (by simp) _
  have HW := Lib.hid hW
  have K1 := Lib.hid k1
  have B0 := Lib.hid b0
  have hs0 := b0.size
  obtain ⟨c0, c1, c2, c3⟩ := blk4 k0
  have hi := set_info (setP_size (p := p))
  have EG := Lib.hid (enters_of Tryz.func106 (by kernel_rfl) rfl)
  clear hW k0 k1 b0
  go_enter Tryz.func53, Tryz.ntmps53
  go_wp2_with (first
    | (refine wpList_load_row rfl 50 (.tmp 3) rfl (w.heap.size + 1) rfl _ (setP p) (0, 0) _ (by rw [HW.out]; exact K1.out) Tryz.underlying50 rfl hi ?_; rw [HW.out])
    | (go_at_call 68; refine (where_any m o A B la ca lb cb 65 #[.agg (setP p)] W).mono ?_; rintro e1 w1 ⟨rfl, hB1, hB2, hb1⟩; have B1 := Lib.hid (below_step B0.out hb1); have SQ := Lib.hid (has_B m p _ w1 hm' hB1 rfl hB2); have s1 := hb1.size; clear hb1 hB1 hB2)
    | (go_at_call 67; refine (collect_any m _ w1.heap.size m _ _ _ w1 EG.out SQ.out (by omega) (Nat.le_refl _)).mono ?_; rintro e2 w2 ⟨v, rfl, ho, hb2⟩; have B2 := Lib.hid (below_step B1.out hb2); have HO := Lib.hid ho; clear hb2 ho))
  go_ret
  exact ⟨v, rfl, (sel_out HO.out rfl (Nat.le_trans (selTo_len _) hm')).down (by omega), B2.out⟩

theorem outside1_any (g a : Nat) (p : Nat → Bool) (w : World) (hb : Blk w g 50 (setP p)) (ha : a < 16) :
    Calls Tryz.prog 121 (#[.int .i64 a] ++ #[.pointer (some ⟨g, 0, none⟩)]) w fun e w' => e = .returned (.bool (!p a)) ∧ Below w.heap.size w w' := by
  show Calls Tryz.prog 121 #[.int .i64 a, .pointer (some ⟨g, 0, none⟩)] w _
  have hi := set_info (setP_size (p := p))
  have HB := Lib.hid hb
  clear hb
  go_enter Tryz.func121, Tryz.ntmps121
  go_wp2_with (first
    | (refine wpList_load_row rfl 50 (.tmp 1) rfl g rfl _ (setP p) (0, 0) _ HB.out Tryz.underlying50 rfl hi ?_)
    | (go_at_call 65; refine (has2_any p a _ ha).mono ?_; rintro e1 w1 ⟨rfl, hb1⟩))
  go_ret
  exact ⟨rfl, hb1⟩

set_option maxHeartbeats 4000000 in
theorem outside_any (p : Nat → Bool) (n o : Int) (A B : Option Addr) (la ca lb cb : Nat) (w : World) :
    Calls Tryz.prog 92 #[.agg #[.int .i64 n, .int .i64 o, .slice A la ca, .slice B lb cb], .agg (setP p)] w fun e' w' => ∃ Br Bp Bs, e' = .returned (seqV Br Bp) ∧ w.heap.size ≤ Br ∧ w.heap.size ≤ Bp ∧ w.heap.size ≤ Bs ∧
      Blk w' Br 25 #[.int .i64 n, .int .i64 o, .slice A la ca, .slice B lb cb] ∧ Blk w' Bp 76 #[.func (.func 121) #[] #[.pointer (some ⟨Bs, 0, none⟩)]] ∧ Blk w' Bs 50 (setP p) ∧ Below w.heap.size w w' := by
  obtain ⟨W, hW⟩ : ∃ W, (w.alloc (.cells #[.int .i64 n, .int .i64 o, .slice A la ca, .slice B lb cb] 25)).alloc (.cells (setP p) 50) = W := ⟨_, rfl⟩
  have k0 : Blk W w.heap.size 25 #[.int .i64 n, .int .i64 o, .slice A la ca, .slice B lb cb] := by
    subst hW; exact (Blk.new w _ _).alloc _
  have k1 : Blk W (w.heap.size + 1) 50 (setP p) := by
    subst hW
    have := Blk.new (w.alloc (.cells #[.int .i64 n, .int .i64 o, .slice A la ca, .slice B lb cb] 25)) 50 (setP p)
    rw [World.size_alloc] at this
    exact this
  have b0 : Below w.heap.size w W := by
    subst hW; exact ((Below.refl _ _).alloc (Nat.le_refl _) _).alloc (by simp) _
  have HW := Lib.hid hW
  have K1 := Lib.hid k1
  have B0 := Lib.hid b0
  have hs0 := b0.size
  obtain ⟨c0, c1, c2, c3⟩ := blk4 k0
  clear hW k0 k1 b0
  go_enter Tryz.func92, Tryz.ntmps92
  go_wp2_with (fail)
  rw [HW.out]
  refine (where2_any n o A B la ca lb cb 121 #[.pointer (some ⟨w.heap.size + 1, 0, none⟩)] W).mono ?_
  rintro e1 w1 ⟨rfl, hB1, hB2, hb1⟩
  have B1 := Lib.hid (below_step B0.out hb1)
  have K2 := Lib.hid (K1.out.next hb1)
  have HB1 := Lib.hid hB1
  have HB2 := Lib.hid hB2
  clear hb1 hB1 hB2
  go_wp2
  go_ret
  exact ⟨W.heap.size, W.heap.size + 1, w.heap.size + 1, rfl, hs0, by omega, by omega, HB1.out, HB2.out, K2.out, B1.out⟩

end Go.Proofs.YtajoimopahibcaaGreat



/- What an operation makes of two sets: the program's pairwise, a range over a function within one. -/
namespace Go.Proofs.YtajoimopahibcaaGreat
open Go.RowKit Go.Shelf
set_option maxRecDepth 100000
attribute [local go_sem] Oper.semAt_some

/-- What has been put in beside p, at an element of the first set. -/
def accB (T : Nat → Nat) (p : Nat → Bool) (xm : Nat) (l : List Nat) (i : Nat) : Bool := p i || decide (i ∈ l.map fun y => T (xm + y))
section
variable {m : Nat} {T : Nat → Nat} {p q : Nat → Bool}
theorem acc_nil {xm : Nat} : accB T p xm [] = p := funext fun i => by simp [accB]
theorem acc_snoc {xm y : Nat} {l : List Nat} : (fun i => accB T p xm l i || decide (i = T (xm + y))) = accB T p xm (l ++ [y]) := funext fun i => by
  simp [accB, Bool.or_assoc]
theorem ops_nil : opsB m T (memB []) q = fun _ => false := funext fun i => by
  rw [← Bool.not_eq_true, opsB_iff]
  rintro ⟨x, _, h, _⟩
  have := memB_iff.1 h
  simp at this
theorem ops_snoc {x : Nat} {l : List Nat} (hq : ∀ i, q i = true → i < m) : accB T (opsB m T (memB l) q) (x * m) (finN (selTo m q m)) = opsB m T (memB (l ++ [x])) q := bool_ext fun i => by
  unfold accB
  rw [Bool.or_eq_true, opsB_iff, opsB_iff, decide_eq_true_iff, List.mem_map]
  constructor
  · rintro (⟨a, b, h1, h2, h3⟩ | ⟨y, hy, h3⟩)
    · exact ⟨a, b, memB_iff.2 (List.mem_append_left _ (memB_iff.1 h1)), h2, h3⟩
    · exact ⟨x, y, memB_iff.2 (by simp), (lst_in.1 hy).2, h3⟩
  · rintro ⟨a, b, h1, h2, h3⟩
    have h1 := memB_iff.1 h1
    rw [List.mem_append, List.mem_singleton] at h1
    rcases h1 with h1 | rfl
    · exact .inl ⟨a, b, memB_iff.2 h1, h2, h3⟩
    · exact .inr ⟨b, lst_in.2 ⟨hq b h2, h2⟩, h3⟩
theorem ops_all (hp : ∀ i, p i = true → i < m) : opsB m T (memB (finN (selTo m p m))) q = opsB m T p q := by
  congr 1
  exact bool_ext fun i => by rw [memB_iff, lst_in]; exact ⟨fun h => h.2, fun h => ⟨hp i h, h⟩⟩
end

theorem blk_heap {V V' : World} {g : Nat} {t : TypeId} {cs : Array Value} (h : Blk V g t cs) (h' : Blk V' g t cs) : V'.heap[g]? = V.heap[g]? := by
  unfold Blk at h h'; rw [h, h']

set_option maxHeartbeats 8000000 in
theorem pairwise_any (T : Nat → Nat) (opf : Nat) (p q : Nat → Bool) (m e b1 o1 la ca b2 o2 lb cb : Nat) (S P : Nat → Nat) (w : World) (hr : RingAt w m e b1 o1 la ca b2 o2 lb cb S P) (hp : ∀ i, p i = true → i < m) (hq : ∀ i, q i = true → i < m) (hT : ∀ k, k < m * m → T k < m)
    (eg : ∀ args w, (callFunc opf args).run Tryz.prog w = .ok (.enter opf args) w)
    (hop : ∀ (a b : Nat) (V : World), a < m → b < m → Below w.heap.size w V → Calls Tryz.prog opf #[.agg #[.int .i64 m, .int .i64 e, .slice (some ⟨b1, o1, none⟩) la ca, .slice (some ⟨b2, o2, none⟩) lb cb], .int .i64 a, .int .i64 b] V fun e' w' => e' = .returned (.int .i64 (T (a * m + b))) ∧ Below V.heap.size V w') :
    Calls Tryz.prog 102 #[.agg #[.int .i64 m, .int .i64 e, .slice (some ⟨b1, o1, none⟩) la ca, .slice (some ⟨b2, o2, none⟩) lb cb], .agg (setP p), .agg (setP q), .func (.func opf) #[.agg #[.int .i64 m, .int .i64 e, .slice (some ⟨b1, o1, none⟩) la ca, .slice (some ⟨b2, o2, none⟩) lb cb]] #[]] w fun e' w' => e' = .returned (.agg (setP (opsB m T p q))) ∧ Below w.heap.size w w' := by
  obtain ⟨s, hs⟩ : ∃ s, w.heap.size = s := ⟨_, rfl⟩
  obtain ⟨w0, hw0⟩ : ∃ w0, ((w.alloc (.cells #[.int .i64 m, .int .i64 e, .slice (some ⟨b1, o1, none⟩) la ca, .slice (some ⟨b2, o2, none⟩) lb cb] 25)).alloc (.cells (setP p) 50)).alloc (.cells (setP q) 50) = w0 := ⟨_, rfl⟩
  obtain ⟨W, hW⟩ : ∃ W, ((w0.alloc (.cells #[.func (.func opf) #[.agg #[.int .i64 m, .int .i64 e, .slice (some ⟨b1, o1, none⟩) la ca, .slice (some ⟨b2, o2, none⟩) lb cb]] #[]] 67)).alloc (.cells (setP fun _ => false) 50)).alloc (.cells (setP fun _ => false) 50) = W := ⟨_, rfl⟩
  have z0 : w0.heap.size = s + 3 := by subst hw0; simp [hs]
  have bw0 : Below s w w0 := by
    subst hw0 hs; exact (((Below.refl _ _).alloc (Nat.le_refl _) _).alloc (by simp) _).alloc (by simp; omega) _
  have bw1 : Below w0.heap.size w0 W := by
    subst hW; exact (((Below.refl _ _).alloc (Nat.le_refl _) _).alloc (by simp) _).alloc (by simp; omega) _
  have zW : W.heap.size = s + 6 := by subst hW; simp [z0]
  have k0 : Blk W s 25 #[.int .i64 m, .int .i64 e, .slice (some ⟨b1, o1, none⟩) la ca, .slice (some ⟨b2, o2, none⟩) lb cb] := by
    refine Blk.next ?_ bw1
    subst hw0 hs; exact ((Blk.new w _ _).alloc _).alloc _
  have k1 : Blk W (s + 1) 50 (setP p) := by
    refine Blk.next ?_ bw1
    subst hw0 hs
    have := (Blk.new (w.alloc (.cells #[.int .i64 m, .int .i64 e, .slice (some ⟨b1, o1, none⟩) la ca, .slice (some ⟨b2, o2, none⟩) lb cb] 25)) 50 (setP p)).alloc (.cells (setP q) 50)
    rw [World.size_alloc] at this
    exact this
  have k2 : Blk W (s + 2) 50 (setP q) := by
    refine Blk.next ?_ bw1
    subst hw0 hs
    have := Blk.new ((w.alloc (.cells #[.int .i64 m, .int .i64 e, .slice (some ⟨b1, o1, none⟩) la ca, .slice (some ⟨b2, o2, none⟩) lb cb] 25)).alloc (.cells (setP p) 50)) 50 (setP q)
    rw [World.size_alloc, World.size_alloc] at this
    exact this
  have k3 : Blk W (s + 3) 67 #[.func (.func opf) #[.agg #[.int .i64 m, .int .i64 e, .slice (some ⟨b1, o1, none⟩) la ca, .slice (some ⟨b2, o2, none⟩) lb cb]] #[]] := by
    subst hW
    have := ((Blk.new w0 67 #[.func (.func opf) #[.agg #[.int .i64 m, .int .i64 e, .slice (some ⟨b1, o1, none⟩) la ca, .slice (some ⟨b2, o2, none⟩) lb cb]] #[]]).alloc (.cells (setP fun _ => false) 50)).alloc (.cells (setP fun _ => false) 50)
    rw [z0] at this
    exact this
  have k4 : Blk W (s + 4) 50 (setP fun _ => false) := by
    subst hW
    have := (Blk.new (w0.alloc (.cells #[.func (.func opf) #[.agg #[.int .i64 m, .int .i64 e, .slice (some ⟨b1, o1, none⟩) la ca, .slice (some ⟨b2, o2, none⟩) lb cb]] #[]] 67)) 50 (setP fun _ => false)).alloc (.cells (setP fun _ => false) 50)
    rw [World.size_alloc, z0] at this
    exact this
  have k5 : Blk W (s + 5) 50 (setP fun _ => false) := by
    subst hW
    have := Blk.new ((w0.alloc (.cells #[.func (.func opf) #[.agg #[.int .i64 m, .int .i64 e, .slice (some ⟨b1, o1, none⟩) la ca, .slice (some ⟨b2, o2, none⟩) lb cb]] #[]] 67)).alloc (.cells (setP fun _ => false) 50)) 50 (setP fun _ => false)
    rw [World.size_alloc, World.size_alloc, z0] at this
    exact this
  have b0 : Below s w W := bw0.trans (bw1.mono (by omega))
  rw [hs] at hop ⊢
  have hm' := hr.hm'
  have HR0 := Lib.hid hr
  rw [← hw0, setP_nil] at hW
  have HW := Lib.hid hW
  have B0 := Lib.hid b0
  have K0 := Lib.hid k0
  have K1 := Lib.hid k1
  have K2 := Lib.hid k2
  have K3 := Lib.hid k3
  have K4 := Lib.hid k4
  have K5 := Lib.hid k5
  have HS := Lib.hid hs
  have HOP := Lib.hid hop
  have EGO := Lib.hid eg
  have HZ := Lib.hid zW
  obtain ⟨c0, c1, c2, c3⟩ := blk4 k0
  have hip := set_info (setP_size (p := p))
  have hiq := set_info (setP_size (p := q))
  have EGW := Lib.hid (enters_of Tryz.func106 (by kernel_rfl) rfl)
  clear hw0 hW bw0 bw1 k0 k1 k2 k3 k4 k5 b0 hr hop eg z0
  refine (callsIn_wide (n := 6)).1 ?_
  refine callsIn_of_wp_marks Tryz.func102 rfl trivial ?_ rfl
  simp only [Tryz.ntmps102, List.size_toArray, List.length_cons, List.length_nil, Nat.reduceAdd, Nat.reduceSub, Array.replicate_succ, Array.replicate_zero, List.push_toArray, List.append_toArray, List.nil_append, List.cons_append]
  gi_wp2_with (first
    | (refine wpListIn_load_rowW rfl 50 (.tmp 5) rfl (s + 1) rfl _ (setP p) (0, 0) _ (by rw [HW.out]; exact K1.out) Tryz.underlying50 rfl hip ?_; rw [HW.out])
    | (refine ⟨trivial, ?_⟩; gi_at_call 68; refine (callsIn_wide.2 (where_any m e _ _ la ca lb cb 65 #[.agg (setP p)] W)).mono ?_; rintro e1 w1 ⟨rfl, hB1, hB2, hb1⟩; clear c0 c1 c2 c3))
  obtain ⟨Br, hBr⟩ : ∃ Br, s + 6 = Br := ⟨_, rfl⟩
  rw [zW, hBr] at hB1 hB2
  rw [hBr]
  have sBr : s + 6 ≤ Br := by omega
  have sBr2 : Br ≤ s + 6 := by omega
  have s1 := hb1.size
  have r1 := hB1.lt
  have r2 := hB2.lt
  have K0 := Lib.hid (K0.out.next hb1)
  have K2 := Lib.hid (K2.out.next hb1)
  have K3 := Lib.hid (K3.out.next hb1)
  have K4 := Lib.hid (K4.out.next hb1)
  have K5 := Lib.hid (K5.out.next hb1)
  have B1 := Lib.hid (B0.out.trans (hb1.mono (by omega)))
  have HB1 := Lib.hid hB1
  have HB2 := Lib.hid hB2
  have SQ := Lib.hid (has_K 5 s m p _ w1 (by decide) hm' hB1 rfl hB2 (by omega))
  have zW1 : s + 6 ≤ W.heap.size := by omega
  have zW2 : W.heap.size ≤ s + 6 := by omega
  clear hb1 hB1 hB2 zW hBr
  refine wpIn_rangeFunc_ownH rfl (by omega) (gf := 106) (lb := #[.pointer (some ⟨Br, 0, none⟩), .pointer (some ⟨Br + 1, 0, none⟩)]) rfl trivial EGW.out SQ.out KpA_t (KpA_b (by omega) r1 r2) (Below.refl _ _) (fun _ => rfl)
    (fun pre V => (Blk V (s + 5) 50 (setP (opsB m T (memB (finN pre)) q)) ∧ Blk V s 25 #[.int .i64 m, .int .i64 e, .slice (some ⟨b1, o1, none⟩) la ca, .slice (some ⟨b2, o2, none⟩) lb cb] ∧ Blk V (s + 2) 50 (setP q) ∧ Blk V (s + 3) 67 #[.func (.func opf) #[.agg #[.int .i64 m, .int .i64 e, .slice (some ⟨b1, o1, none⟩) la ca, .slice (some ⟨b2, o2, none⟩) lb cb]] #[]] ∧ Blk V (s + 4) 50 (setP fun _ => false) ∧ Blk V Br 25 #[.int .i64 m, .int .i64 e, .slice (some ⟨b1, o1, none⟩) la ca, .slice (some ⟨b2, o2, none⟩) lb cb] ∧ Blk V (Br + 1) 76 #[.func (.func 65) #[.agg (setP p)] #[]]) ∧ Below s w V)
    (fun _ _ _ => False)
    (OwnFrom.and (OwnFrom.and (ownFrom_blk _ _ _ _) (OwnFrom.and (ownFrom_blk _ _ _ (fun _ => _)) (OwnFrom.and (ownFrom_blk _ _ _ (fun _ => _)) (OwnFrom.and (ownFrom_blk _ _ _ (fun _ => _)) (OwnFrom.and (ownFrom_blk _ _ _ (fun _ => _)) (OwnFrom.and (ownFrom_blk _ _ _ (fun _ => _)) (ownFrom_blk _ _ _ (fun _ => _)))))))) (ownFrom_below (by omega) (by omega)))
    (fun _ _ _ _ _ hs _ _ => hs)
    ⟨⟨by rw [show finN ([] : List (Fin m)) = [] from rfl, ops_nil]; exact K5.out, K0.out, K2.out, K3.out, K4.out, HB1.out, HB2.out⟩, B1.out⟩
    (fun x a' V => ∃ Bx, Br + 1 < Bx ∧ Blk V Bx 3 #[.int .i64 (x.1 : Int)] ∧ a' = { tmps := #[.agg #[.int .i64 m, .int .i64 e, .slice (some ⟨b1, o1, none⟩) la ca, .slice (some ⟨b2, o2, none⟩) lb cb], .agg (setP p), .agg (setP q), .func (.func opf) #[.agg #[.int .i64 m, .int .i64 e, .slice (some ⟨b1, o1, none⟩) la ca, .slice (some ⟨b2, o2, none⟩) lb cb]] #[], .pointer (some ⟨s, 0, none⟩), .pointer (some ⟨s + 1, 0, none⟩), .pointer (some ⟨s + 2, 0, none⟩), .pointer (some ⟨s + 3, 0, none⟩), .pointer (some ⟨s + 4, 0, none⟩), .pointer (some ⟨s + 5, 0, none⟩), .pointer (some ⟨Bx, 0, none⟩), undef, .agg #[.int .i64 m, .int .i64 e, .slice (some ⟨b1, o1, none⟩) la ca, .slice (some ⟨b2, o2, none⟩) lb cb], .agg (setP p), .func (.func 65) #[.agg (setP p)] #[], seqV Br (Br + 1), .int .i64 (x.1 : Int), undef, undef, undef, undef, undef, undef, undef, undef, undef, undef, undef], defers := [] })
    (fun x a' _ X Y row hs hg hr => by obtain ⟨Bx, h1, h2, h3⟩ := hs; exact ⟨Bx, h1, ownFrom_blk _ Bx _ (fun (_ : Unit) => _) () X Y row h2 hg hr, h3⟩)
    ?assign ?body ?done ?stop
  case assign =>
    rintro l pre x V K ⟨⟨h5, h0, h2, h3, h4, h6, h7⟩, hB⟩ hK
    have hsV := hB.size
    have l7 := h7.lt
    have H5 := Lib.hid h5
    have H0 := Lib.hid h0
    have H2 := Lib.hid h2
    have H3 := Lib.hid h3
    have H4 := Lib.hid h4
    have H6 := Lib.hid h6
    have H7 := Lib.hid h7
    have HB := Lib.hid hB
    clear h5 h0 h2 h3 h4 h6 h7 hB
    gi_wp2
    exact hK _ _ ((KeepsOthers.alloc _ _).from _) ⟨(Below.refl _ V).alloc (by omega) _, Below.heap_alloc _ _ _ H6.out.lt, Below.heap_alloc _ _ _ H7.out.lt⟩ ⟨⟨H5.out.alloc _, H0.out.alloc _, H2.out.alloc _, H3.out.alloc _, H4.out.alloc _, H6.out.alloc _, H7.out.alloc _⟩, HB.out.alloc (by omega) _⟩ ⟨V.heap.size, l7, Blk.new V _ _, rfl⟩
  case body =>
    rintro l pre x a' V hl ⟨r, hr⟩ ⟨⟨h5, h0, h2, h3, h4, h6, h7⟩, hB⟩ ⟨Bx, hBx, hX, rfl⟩ hlt
    have hsV := hB.size
    have H5 := Lib.hid h5
    have H0 := Lib.hid h0
    have H2 := Lib.hid h2
    have H3 := Lib.hid h3
    have H4 := Lib.hid h4
    have H6 := Lib.hid h6
    have H7 := Lib.hid h7
    have HX := Lib.hid hX
    have HB := Lib.hid hB
    have HL := Lib.hid hr
    have lX := hX.lt
    obtain ⟨c0, c1, c2, c3⟩ := blk4 h0
    clear h5 h0 h2 h3 h4 h6 h7 hB hX hr
    gi_wp2_with (first
      | (refine wpListIn_load_rowR rfl 50 (.tmp 6) rfl (s + 2) rfl _ (setP q) (0, 0) _ H2.out Tryz.underlying50 rfl hiq ?_)
      | (refine ⟨trivial, ?_⟩; gi_at_call 68; refine (CallsIn.inRound l (callsIn_wide.2 (where_any m e _ _ la ca lb cb 65 #[.agg (setP q)] V))).mono ?_; rintro e2 V1 ⟨rfl, hC1, hC2, hb2⟩; clear c0 c1 c2 c3))
    obtain ⟨Bs, hBs⟩ : ∃ Bs, V.heap.size = Bs := ⟨_, rfl⟩
    rw [hBs] at hC1 hC2
    rw [hBs]
    have sBs : V.heap.size ≤ Bs := by omega
    have sBs2 : Bs ≤ V.heap.size := by omega
    have q1 := hC1.lt
    have q2 := hC2.lt
    have G5 := Lib.hid (H5.out.next hb2)
    have G0 := Lib.hid (H0.out.next hb2)
    have G2 := Lib.hid (H2.out.next hb2)
    have G3 := Lib.hid (H3.out.next hb2)
    have G4 := Lib.hid (H4.out.next hb2)
    have G6 := Lib.hid (H6.out.next hb2)
    have G7 := Lib.hid (H7.out.next hb2)
    have GX := Lib.hid (HX.out.next hb2)
    have GL := Lib.hid ((hb2.block l (Array.getElem?_eq_some_iff.1 HL.out).1).trans HL.out)
    have HC1 := Lib.hid hC1
    have HC2 := Lib.hid hC2
    have SQ2 := Lib.hid (has_K 3 s m q _ V1 (by decide) hm' hC1 rfl hC2 (by have := hb2.size; omega))
    have sV1 := hb2.size
    have HBV := Lib.hid (hb2.mono (show s ≤ V.heap.size by omega))
    have HKF := Lib.hid (KeepsOthers.of_grownBy (Go.Proofs.YtajoimopahibcaaGreat.Below.grown_ hb2) (fun j o ej _ => by cases ej))
    clear hb2 hC1 hC2 hBs
    refine wpIn_rangeFunc_ownN (l₀ := l) (r₀ := r) rfl GL.out (by decide) (gf := 106) (lb := #[.pointer (some ⟨Bs, 0, none⟩), .pointer (some ⟨Bs + 1, 0, none⟩)]) rfl trivial EGW.out (SQ2.out.inRound l) KpA_t (KpA_b (by omega) q1 q2) (Below.refl _ _) (fun _ => rfl)
      (fun pre' V' => (Blk V' (s + 5) 50 (setP (accB T (opsB m T (memB (finN pre)) q) (x.1 * m) (finN pre'))) ∧ Blk V' s 25 #[.int .i64 m, .int .i64 e, .slice (some ⟨b1, o1, none⟩) la ca, .slice (some ⟨b2, o2, none⟩) lb cb] ∧ Blk V' (s + 2) 50 (setP q) ∧ Blk V' (s + 3) 67 #[.func (.func opf) #[.agg #[.int .i64 m, .int .i64 e, .slice (some ⟨b1, o1, none⟩) la ca, .slice (some ⟨b2, o2, none⟩) lb cb]] #[]] ∧ Blk V' (s + 4) 50 (setP fun _ => false) ∧ Blk V' Br 25 #[.int .i64 m, .int .i64 e, .slice (some ⟨b1, o1, none⟩) la ca, .slice (some ⟨b2, o2, none⟩) lb cb] ∧ Blk V' (Br + 1) 76 #[.func (.func 65) #[.agg (setP p)] #[]] ∧ Blk V' Bx 3 #[.int .i64 (x.1 : Int)] ∧ Blk V' Bs 25 #[.int .i64 m, .int .i64 e, .slice (some ⟨b1, o1, none⟩) la ca, .slice (some ⟨b2, o2, none⟩) lb cb] ∧ Blk V' (Bs + 1) 76 #[.func (.func 65) #[.agg (setP q)] #[]]) ∧ (Below s V V' ∧ KeepsFrom w1.heap.size V V'))
      (fun _ _ _ => False)
      (OwnFrom.and (OwnFrom.and (ownFrom_blk _ _ _ _) (OwnFrom.and (ownFrom_blk _ _ _ (fun _ => _)) (OwnFrom.and (ownFrom_blk _ _ _ (fun _ => _)) (OwnFrom.and (ownFrom_blk _ _ _ (fun _ => _)) (OwnFrom.and (ownFrom_blk _ _ _ (fun _ => _)) (OwnFrom.and (ownFrom_blk _ _ _ (fun _ => _)) (OwnFrom.and (ownFrom_blk _ _ _ (fun _ => _)) (OwnFrom.and (ownFrom_blk _ _ _ (fun _ => _)) (OwnFrom.and (ownFrom_blk _ _ _ (fun _ => _)) (ownFrom_blk _ _ _ (fun _ => _))))))))))) (OwnFrom.and (ownFrom_below (by omega) (by omega)) (ownFrom_keepsFrom (by omega))))
      (fun _ _ _ _ _ hs _ _ => hs)
      ⟨⟨by rw [show finN ([] : List (Fin m)) = [] from rfl, acc_nil]; exact G5.out, G0.out, G2.out, G3.out, G4.out, G6.out, G7.out, GX.out, HC1.out, HC2.out⟩, HBV.out, HKF.out.from _⟩
      (fun y a'' _ => a'' = { tmps := #[.agg #[.int .i64 m, .int .i64 e, .slice (some ⟨b1, o1, none⟩) la ca, .slice (some ⟨b2, o2, none⟩) lb cb], .agg (setP p), .agg (setP q), .func (.func opf) #[.agg #[.int .i64 m, .int .i64 e, .slice (some ⟨b1, o1, none⟩) la ca, .slice (some ⟨b2, o2, none⟩) lb cb]] #[], .pointer (some ⟨s, 0, none⟩), .pointer (some ⟨s + 1, 0, none⟩), .pointer (some ⟨s + 2, 0, none⟩), .pointer (some ⟨s + 3, 0, none⟩), .pointer (some ⟨s + 4, 0, none⟩), .pointer (some ⟨s + 5, 0, none⟩), .pointer (some ⟨Bx, 0, none⟩), .int .i64 (y.1 : Int), .agg #[.int .i64 m, .int .i64 e, .slice (some ⟨b1, o1, none⟩) la ca, .slice (some ⟨b2, o2, none⟩) lb cb], .agg (setP p), .func (.func 65) #[.agg (setP p)] #[], seqV Br (Br + 1), .int .i64 (x.1 : Int), .agg #[.int .i64 m, .int .i64 e, .slice (some ⟨b1, o1, none⟩) la ca, .slice (some ⟨b2, o2, none⟩) lb cb], .agg (setP q), .func (.func 65) #[.agg (setP q)] #[], seqV Bs (Bs + 1), .int .i64 (y.1 : Int), undef, undef, undef, undef, undef, undef], defers := [] })
      (fun _ _ _ _ _ _ hs _ _ => hs)
      ?assign2 ?body2 ?done2 ?stop2
    case assign2 =>
      rintro l2 pre' y V' K hi hK
      have HI := Lib.hid hi
      clear hi
      gi_wp2
      exact hK _ _ (KeepsFrom.refl _ _) ⟨Below.refl _ _, rfl, rfl⟩ HI.out rfl
    case body2 =>
      rintro l2 pre' y a'' V' _ _ ⟨⟨h5, h0, h2, h3, h4, h6, h7, hx, h8, h9⟩, hBW, hKF⟩ rfl _
      have J5 := Lib.hid h5
      have J0 := Lib.hid h0
      have J2 := Lib.hid h2
      have J3 := Lib.hid h3
      have J4 := Lib.hid h4
      have J6 := Lib.hid h6
      have J7 := Lib.hid h7
      have JX := Lib.hid hx
      have J8 := Lib.hid h8
      have J9 := Lib.hid h9
      have JB := Lib.hid hBW
      have JK := Lib.hid hKF
      have d0 := h3.cell 0
      have d1 := hx.cell 0
      simp at d0 d1
      have l5 := h5.lt
      have l8 := h8.lt
      have l9 := h9.lt
      have egO := EGO.out
      have hsV' := hBW.size
      have hTl := hT _ (idx_lt x.2 y.2)
      clear h5 h0 h2 h3 h4 h6 h7 hx h8 h9 hBW hKF
      gi_wp2
      refine ⟨trivial, ?_⟩
      refine (CallsIn.inRound l2 (callsIn_wide.2 (HOP.out x.1 y.1 V' x.2 y.2 (HB.out.trans JB.out)))).mono ?_
      rintro e3 V2 ⟨rfl, hb3⟩
      have Q3 := Lib.hid hb3
      have s3 := hb3.size
      clear hb3 d0 d1
      gi_wp2
      refine ⟨trivial, ?_⟩
      refine (CallsIn.inRound l2 (callsIn_wide.2 (putP_any (s + 5) (T (x.1 * m + y.1)) _ V2 (J5.out.next Q3.out) (by omega)))).mono ?_
      rintro e4 V3 ⟨⟨v4, rfl⟩, rfl⟩
      gi_wp2
      have K3' := ((KeepsOthers.of_grownBy (Go.Proofs.YtajoimopahibcaaGreat.Below.grown_ Q3.out) (fun j o ej _ => by cases ej)).trans (KeepsOthers.setCell V2 ⟨s + 5, T (x.1 * m + y.1), none⟩ (.bool true)))
      have q3 := Q3.out
      have BV : Below s V' (V2.setCell ⟨s + 5, T (x.1 * m + y.1), none⟩ (.bool true)) := (q3.mono (by omega)).setCell (p := ⟨s + 5, _, none⟩) (by show s ≤ s + 5; omega) _
      have far : ∀ {g : Nat} {t : TypeId} {cs : Array Value}, Blk V' g t cs → g ≠ s + 5 → Blk (V2.setCell ⟨s + 5, T (x.1 * m + y.1), none⟩ (.bool true)) g t cs := fun h hn => (h.next q3).far (by show _ ≠ s + 5; exact hn) _
      have F8 := far J8.out (by omega)
      have F9 := far J9.out (by omega)
      refine ⟨K3'.from _, ⟨BV, blk_heap J8.out F8, blk_heap J9.out F9⟩, ⟨?_, far J0.out (by omega), far J2.out (by omega), far J3.out (by omega), far J4.out (by omega), far J6.out (by omega), far J7.out (by omega), far JX.out (by omega), F8, F9⟩, JB.out.trans BV, JK.out.trans (K3'.from _)⟩
      have := (J5.out.next q3).put (a := T (x.1 * m + y.1))
      rw [acc_snoc] at this
      simpa [finN] using this
    case done2 =>
      rintro ys V' rfl ⟨⟨h5, h0, h2, h3, h4, h6, h7, hx, h8, h9⟩, hBW, hKF⟩
      gi_wp2
      refine ⟨hKF, ⟨hBW, blk_heap H6.out h6, blk_heap H7.out h7⟩, ⟨?_, h0, h2, h3, h4, h6, h7⟩, HB.out.trans hBW⟩
      rw [ops_snoc hq] at h5
      simpa [finN] using h5
    case stop2 =>
      rintro c pre' V' _ h
      exact h.elim
  case done =>
    rintro D ys V hD rfl ⟨⟨h5, h0, h2, h3, h4, h6, h7⟩, hB⟩ hK
    obtain ⟨S, hS⟩ : ∃ S, setP (opsB m T (memB (finN (selTo m p m))) q) = S := ⟨_, rfl⟩
    have hs1 : S.size = 16 := by rw [← hS, setP_size]
    have hs2 : S.all (·.oneCell') = true := by rw [← hS]; exact setP_one
    have hE : setP (opsB m T p q) = S := by rw [← hS, ops_all hp]
    rw [hS] at h5
    have HE := Lib.hid hE
    have hi := set_info hs1
    have hold : (setP fun _ => false).size = S.size := by rw [hs1, setP_size]
    have H4 := Lib.hid h4
    have H5 := Lib.hid h5
    have HB := Lib.hid hB
    have HK := Lib.hid hK
    have hsV := hB.size
    clear hS hE h5 h0 h2 h3 h4 h6 h7 hB hK
    gi_wp2_with (first
      | (refine wpListIn_load_rowW rfl 50 (.tmp 9) rfl (s + 5) rfl _ S (0, 0) _ H5.out Tryz.underlying50 rfl hi ?_)
      | (refine wpListIn_store_rowW rfl 50 (.tmp 8) (.tmp 27) rfl (s + 4) S rfl rfl _ (setP fun _ => false) H4.out hi hold hs2 ?_))
    have hD2 : D ≠ s + 4 := by omega
    have hK2 : (V.setRow (s + 4) S).heap[D]? = some (.deferred (some [])) := (setRow_other V (s + 4) D S hD2).trans HK.out
    have hB2 : Below s w (V.setRow (s + 4) S) := below_setRow HB.out (by omega) S
    have hR : ((V.setRow (s + 4) S).putObj D (.deferred none)).heap[s + 4]? = some (.cells S 50 (0, 0)) := (World.putObj_heap_other (Ne.symm hD2)).trans (setRow_heap V (s + 4) _ S _ _ H4.out)
    refine ⟨by simp, .inl ⟨_, _, rfl, run_takeDeferred hK2, ?_⟩⟩
    exact ⟨_, results_cell_row Tryz.results102 _ _ (s + 4) 50 S (0, 0) _ rfl hR Tryz.underlying50 rfl hi, by rw [HE.out], hB2.trans (belowK_b (w := w) (by omega) (V.setRow (s + 4) S) D _ _ (by omega) hK2 rfl rfl)⟩
  case stop =>
    rintro D c pre V _ _ h _
    exact h.elim

end Go.Proofs.YtajoimopahibcaaGreat



/- The program's sums of ideals and the least ideal with the elements of an iterator. -/
namespace Go.Proofs.YtajoimopahibcaaGreat
open Go.RowKit Go.Shelf
set_option maxRecDepth 100000
attribute [local go_sem] Oper.semAt_some

theorem Blk.inC {V : World} {g : Nat} {t : TypeId} {cs : Array Value} (h : Blk V g t cs) : ∀ x, extC V x → x.heap[g]? = some (.cells cs t (0, 0)) := fun _ ⟨u, hu⟩ => by rw [hu]; exact h.next (ext_below V u)
theorem wpQuiet_load_row {P : Program} {ops : Array Oper} {C : World → Prop} {Q : Act → Prop} {rest : List Oper} {o : Oper} {a : Act} (hgd : o.guard = none) (ty : TypeId) (x : Operand) (ho : o.op = .load ty x)
    (g : Nat) (hx : a.eval x = .pointer (some ⟨g, 0, none⟩)) (t : TypeId) (cs : Array Value) (d : TypeDesc) (hg : ∀ w, C w → w.heap[g]? = some (.cells cs t (0, 0)))
    (hu : P.underlying ty = some d) (hd : (match d with | .struct _ | .array _ _ => true | _ => false) = true) (hi : (P.info? ty).map (·.size) = some cs.size)
    (h : wpQuiet P ops C Q rest (a.put o.dst (.agg cs))) : wpQuiet P ops C Q (o :: rest) a := by
  unfold wpQuiet
  rw [if_pos (by simp [Region.wanted, hgd])]
  refine ⟨.agg cs, fun w hw => ?_, h⟩
  unfold Oper.quietAt execOp
  simp only [ho, hx, Instr.loadAt, Instr.sureAddr, Sem.run_bind, Sem.run_pure, Result.andThen_ok, run_loadVar_row w g t ty cs (0, 0) d (hg w hw) hu hd hi]
  exact ⟨rfl, rfl⟩
def mk0 (_ : Nat) : Bool := false
def phi0 (_ : Nat) (_ : Value) (_ : World) : Prop := True
def sh0 (_ : Nat) (_ : Value) : Prop := True

theorem KeepsOthers.setRow {W : World} {g : Nat} {t : TypeId} {c0 : Array Value} (h : Blk W g t c0) (cs : Array Value) : KeepsOthers W (W.setRow g cs) :=
  ⟨by simp [World.setRow], fun k o hk ho => by
    by_cases e : k = g
    · subst e; unfold Blk at h; rw [h] at hk; cases hk; cases ho
    · exact (setRow_other W g k cs e).trans hk⟩
theorem Blk.rowTo {W : World} {g : Nat} {t : TypeId} {c0 : Array Value} (h : Blk W g t c0) (cs : Array Value) : Blk (W.setRow g cs) g t cs := setRow_heap W g _ cs _ _ h
theorem Blk.rowFar {W : World} {g g' : Nat} {t : TypeId} {c0 : Array Value} (h : Blk W g t c0) (hn : g ≠ g') (cs : Array Value) : Blk (W.setRow g' cs) g t c0 := (setRow_other W g' g cs hn).trans h

set_option maxHeartbeats 4000000 in
theorem idealSum_any (p q : Nat → Bool) (m e b1 o1 la ca b2 o2 lb cb : Nat) (S P : Nat → Nat) (w : World) (hr : RingAt w m e b1 o1 la ca b2 o2 lb cb S P) (hp : ∀ i, p i = true → i < m) (hq : ∀ i, q i = true → i < m) :
    Calls Tryz.prog 60 #[.agg #[.int .i64 m, .int .i64 e, .slice (some ⟨b1, o1, none⟩) la ca, .slice (some ⟨b2, o2, none⟩) lb cb], .agg (setP p), .agg (setP q)] w fun e' w' => e' = .returned (.agg (setP (opsB m S p q))) ∧ Below w.heap.size w w' := by
  obtain ⟨W, hW⟩ : ∃ W, (((w.alloc (.cells #[.int .i64 m, .int .i64 e, .slice (some ⟨b1, o1, none⟩) la ca, .slice (some ⟨b2, o2, none⟩) lb cb] 25)).alloc (.cells (setP p) 50)).alloc (.cells (setP q) 50)).alloc (.cells (setP fun _ => false) 50) = W := ⟨_, rfl⟩
  have k0 : Blk W w.heap.size 25 #[.int .i64 m, .int .i64 e, .slice (some ⟨b1, o1, none⟩) la ca, .slice (some ⟨b2, o2, none⟩) lb cb] := by
    subst hW; exact (((Blk.new w _ _).alloc _).alloc _).alloc _
  have k1 : Blk W (w.heap.size + 1) 50 (setP p) := by
    subst hW
    have := ((Blk.new (w.alloc (.cells #[.int .i64 m, .int .i64 e, .slice (some ⟨b1, o1, none⟩) la ca, .slice (some ⟨b2, o2, none⟩) lb cb] 25)) 50 (setP p)).alloc (.cells (setP q) 50)).alloc (.cells (setP fun _ => false) 50)
    rw [World.size_alloc] at this
    exact this
  have k2 : Blk W (w.heap.size + 2) 50 (setP q) := by
    subst hW
    have := (Blk.new ((w.alloc (.cells #[.int .i64 m, .int .i64 e, .slice (some ⟨b1, o1, none⟩) la ca, .slice (some ⟨b2, o2, none⟩) lb cb] 25)).alloc (.cells (setP p) 50)) 50 (setP q)).alloc (.cells (setP fun _ => false) 50)
    rw [World.size_alloc, World.size_alloc] at this
    exact this
  have k3 : Blk W (w.heap.size + 3) 50 (setP fun _ => false) := by
    subst hW
    have := Blk.new (((w.alloc (.cells #[.int .i64 m, .int .i64 e, .slice (some ⟨b1, o1, none⟩) la ca, .slice (some ⟨b2, o2, none⟩) lb cb] 25)).alloc (.cells (setP p) 50)).alloc (.cells (setP q) 50)) 50 (setP fun _ => false)
    rw [World.size_alloc, World.size_alloc, World.size_alloc] at this
    exact this
  have b0 : Below w.heap.size w W := by
    subst hW; exact ((((Below.refl _ _).alloc (Nat.le_refl _) _).alloc (by simp) _).alloc (by simp; omega) _).alloc (by simp; omega) _
  have hSl : ∀ k, k < m * m → S k < m := fun k hk => (hr.ts.2 k hk).2
  have HR0 := Lib.hid hr
  have HR1 := Lib.hid (hr.next b0)
  rw [setP_nil] at hW
  have HW := Lib.hid hW
  have K1 := Lib.hid k1
  have K2 := Lib.hid k2
  have K3 := Lib.hid k3
  have B0 := Lib.hid b0
  have hs0 := k3.lt
  obtain ⟨c0, c1, c2, c3⟩ := blk4 k0
  have hip := set_info (setP_size (p := p))
  have hiq := set_info (setP_size (p := q))
  obtain ⟨U, hU⟩ : ∃ U, setP (opsB m S p q) = U := ⟨_, rfl⟩
  have hs1 : U.size = 16 := by rw [← hU, setP_size]
  have hs2 : U.all (·.oneCell') = true := by rw [← hU]; exact setP_one
  have hi := set_info hs1
  have hold : (setP fun _ => false).size = U.size := by rw [hs1, setP_size]
  have HU := Lib.hid hU
  have EG := Lib.hid (enters_of Tryz.func103 (by kernel_rfl) rfl)
  clear hW k0 k1 k2 k3 b0 hr hU
  go_enter Tryz.func60, Tryz.ntmps60
  go_wp2_with (first
    | (refine wpList_load_row rfl 50 (.tmp 4) rfl (w.heap.size + 1) rfl _ (setP p) (0, 0) _ (by rw [HW.out]; exact K1.out) Tryz.underlying50 rfl hip ?_; rw [HW.out])
    | (refine wpList_load_row rfl 50 (.tmp 5) rfl (w.heap.size + 2) rfl _ (setP q) (0, 0) _ K2.out Tryz.underlying50 rfl hiq ?_)
    | (go_at_call 102; refine (pairwise_any S 103 p q m e b1 o1 la ca b2 o2 lb cb S P W HR1.out hp hq hSl EG.out (fun a b V ha hb hV => sum_any a b m e b1 o1 la ca b2 o2 lb cb S P V (HR1.out.next hV) ha hb)).mono ?_; rintro e1 w1 ⟨rfl, hb1⟩; rw [HU.out]; have k3 := K3.out.next hb1; have B1 := Lib.hid (below_step B0.out hb1); clear hb1)
    | (refine wpList_store_row rfl 50 (.tmp 6) (.tmp 12) rfl (w.heap.size + 3) U rfl rfl _ _ k3 hi hold hs2 ?_))
  exact bodyPost_ret (results_cell_row Tryz.results60 _ _ (w.heap.size + 3) 50 U (0, 0) _ rfl (setRow_heap w1 _ _ U _ _ k3) Tryz.underlying50 rfl hi) rfl ⟨by rw [HU.out], below_setRow B1.out (by omega) U⟩

set_option maxHeartbeats 8000000 in
theorem leastIdeal_any (gf N : Nat) (lb' : Array Value) (m e b1 o1 la ca b2 o2 lb cb : Nat) (S P : Nat → Nat) (w : World) (hr : RingAt w m e b1 o1 la ca b2 o2 lb cb S P) (L : List (Fin m)) (Sp : List (Fin m) → Prop) (R : RTab m S P e) (eg : ∀ args w, (callFunc gf args).run Tryz.prog w = .ok (.enter gf args) w)
    (hseq : SeqStopsK Fence.wide 2 Tryz.prog gf lb' (encF m) (Below w.heap.size) (fun ys => ys = L) Sp N w) :
    Calls Tryz.prog 62 #[.agg #[.int .i64 m, .int .i64 e, .slice (some ⟨b1, o1, none⟩) la ca, .slice (some ⟨b2, o2, none⟩) lb cb], .func (.func gf) #[] lb'] w fun e' w' => e' = .returned (.agg (setP (genB m S P (memB (finN L))))) ∧ Below w.heap.size w w' := by
  obtain ⟨s, hs⟩ : ∃ s, w.heap.size = s := ⟨_, rfl⟩
  obtain ⟨W, hW⟩ : ∃ W, (w.alloc (.cells #[.int .i64 m, .int .i64 e, .slice (some ⟨b1, o1, none⟩) la ca, .slice (some ⟨b2, o2, none⟩) lb cb] 25)).alloc (.cells (setP fun _ => false) 50) = W := ⟨_, rfl⟩
  have k0 : Blk W s 25 #[.int .i64 m, .int .i64 e, .slice (some ⟨b1, o1, none⟩) la ca, .slice (some ⟨b2, o2, none⟩) lb cb] := by
    subst hW hs; exact (Blk.new w _ _).alloc _
  have k1 : Blk W (s + 1) 50 (setP fun _ => false) := by
    subst hW hs
    have := Blk.new (w.alloc (.cells #[.int .i64 m, .int .i64 e, .slice (some ⟨b1, o1, none⟩) la ca, .slice (some ⟨b2, o2, none⟩) lb cb] 25)) 50 (setP fun _ => false)
    rw [World.size_alloc] at this
    exact this
  have b0 : Below s w W := by
    subst hW hs; exact ((Below.refl _ _).alloc (Nat.le_refl _) _).alloc (by simp) _
  have zW : W.heap.size = s + 2 := by subst hW; simp [hs]
  rw [hs] at hseq ⊢
  have hm' := hr.hm'
  have hm := hr.hm
  have HR0 := Lib.hid hr
  have HR1 := Lib.hid (hr.next (hs ▸ b0))
  have hseq' := SeqStopsK.later hseq (hs ▸ b0)
  have SQ := Lib.hid hseq'
  rw [setP_nil] at hW
  have HW := Lib.hid hW
  have K0 := Lib.hid k0
  have K1 := Lib.hid k1
  have B0 := Lib.hid b0
  have EGF := Lib.hid eg
  have HS := Lib.hid hs
  have zW1 : s + 2 ≤ W.heap.size := by omega
  have hsw : s ≤ w.heap.size := by omega
  have hsw' : w.heap.size ≤ s := by omega
  obtain ⟨c0, c1, c2, c3⟩ := blk4 k0
  have hi0 := set_info (setP_size (p := mulB m P 0))
  clear hW k0 k1 b0 hr eg hseq hseq' zW
  refine (callsIn_wide (n := 3)).1 ?_
  refine callsIn_of_wp_marks Tryz.func62 rfl trivial ?_ rfl
  simp only [Tryz.ntmps62, List.size_toArray, List.length_cons, List.length_nil, Nat.reduceAdd, Nat.reduceSub, Array.replicate_succ, Array.replicate_zero, List.push_toArray, List.append_toArray, List.nil_append, List.cons_append]
  gi_wp2_with (fail)
  rw [HW.out]
  refine ⟨trivial, ?_⟩
  refine (callsIn_wide.2 (multiples_any 0 m e b1 o1 la ca b2 o2 lb cb S P W HR1.out hm)).mono ?_
  rintro e1 w1 ⟨rfl, hb1⟩
  obtain ⟨g, hg⟩ : ∃ g, w1.heap.size = g := ⟨_, rfl⟩
  have K0 := Lib.hid (K0.out.next hb1)
  have K1 := Lib.hid (K1.out.next hb1)
  have B1 := Lib.hid (B0.out.trans (hb1.mono (show s ≤ W.heap.size by omega)))
  have SQ := Lib.hid (SeqStopsK.later SQ.out hb1)
  have s1 := hb1.size
  clear hb1 c0 c1 c2 c3
  have KN : Blk (w1.alloc (.cells (setP fun _ => false) 50)) g 50 (setP fun _ => false) := by rw [← hg]; exact Blk.new _ _ _
  rw [setP_nil] at KN
  have hold0 : (#[.bool false, .bool false, .bool false, .bool false, .bool false, .bool false, .bool false, .bool false, .bool false, .bool false, .bool false, .bool false, .bool false, .bool false, .bool false, .bool false] : Array Value).size = (setP (mulB m P 0)).size := by rw [setP_size]; rfl
  have hone0 := setP_one (p := mulB m P 0)
  gi_wp2_with (refine wpListIn_store_rowW rfl 50 (.tmp 5) (.tmp 8) rfl g (setP (mulB m P 0)) rfl rfl _ _ KN hi0 hold0 hone0 ?_)
  obtain ⟨V, hV⟩ : ∃ V, (w1.alloc (.cells #[.bool false, .bool false, .bool false, .bool false, .bool false, .bool false, .bool false, .bool false, .bool false, .bool false, .bool false, .bool false, .bool false, .bool false, .bool false, .bool false] 50)).setRow g (setP (mulB m P 0)) = V := ⟨_, rfl⟩
  have bV : Below g w1 V := by subst hV; exact below_setRow ((Below.refl _ _).alloc (by omega) _) (Nat.le_refl _) _
  have kV : Blk V g 50 (setP (mulB m P 0)) := by subst hV; exact setRow_heap _ _ _ _ _ _ KN
  rw [hV]
  have bV' : Below w1.heap.size w1 V := by rw [hg]; exact bV
  have K0 := Lib.hid (K0.out.next bV')
  have K1 := Lib.hid (K1.out.next bV')
  have KV := Lib.hid kV
  have BV := Lib.hid (B1.out.trans (bV'.mono (show s ≤ w1.heap.size by omega)))
  have SQ := Lib.hid (SeqStopsK.later SQ.out bV')
  have hgs : s + 2 ≤ g := by omega
  have hgV := kV.lt
  have HRV := Lib.hid (HR0.out.next (HS.out ▸ BV.out))
  clear hV bV kV bV' KN hg hs hi0 hold0 hone0
  gi_wp2
  refine wpIn_rangeFunc_ownG rfl (by omega) (gf := gf) (lb := lb') rfl trivial EGF.out SQ.out belowK_t (belowK_b (by omega)) (Below.refl _ _) (fun _ => rfl)
    (fun pre V' => (Blk V' g 50 (setP (genB m S P (memB (finN pre)))) ∧ Blk V' s 25 #[.int .i64 m, .int .i64 e, .slice (some ⟨b1, o1, none⟩) la ca, .slice (some ⟨b2, o2, none⟩) lb cb] ∧ Blk V' (s + 1) 50 (setP fun _ => false)) ∧ Below s w V')
    (fun _ _ _ => False)
    (OwnFrom.and (OwnFrom.and (ownFrom_blk _ _ _ _) (OwnFrom.and (ownFrom_blk _ _ _ (fun _ => _)) (ownFrom_blk _ _ _ (fun _ => _)))) (ownFrom_below (by omega) (by omega)))
    (fun _ _ _ _ _ hs _ _ => hs)
    ⟨⟨by rw [show finN ([] : List (Fin m)) = [] from rfl, R.gen_nil]; exact KV.out, K0.out, K1.out⟩, BV.out⟩
    (fun x => { tmps := #[.agg #[.int .i64 m, .int .i64 e, .slice (some ⟨b1, o1, none⟩) la ca, .slice (some ⟨b2, o2, none⟩) lb cb], .func (.func gf) #[] lb', .pointer (some ⟨s, 0, none⟩), undef, .pointer (some ⟨s + 1, 0, none⟩), .pointer (some ⟨g, 0, none⟩), .int .i64 (x.1 : Int), .agg #[.int .i64 m, .int .i64 e, .slice (some ⟨b1, o1, none⟩) la ca, .slice (some ⟨b2, o2, none⟩) lb cb], .agg (setP (mulB m P 0)), .func (.func gf) #[] lb', .int .i64 (x.1 : Int), undef, undef, undef, undef, undef, undef, undef, undef, undef, undef, undef], defers := [] }) ?assign ?body ?done ?stop
  case assign =>
    intro l x V' K hK
    gi_wp2
    exact hK
  case body =>
    rintro l pre x V' ⟨⟨h1, h0, h2⟩, hB⟩ hlt
    have H1 := Lib.hid h1
    have H0 := Lib.hid h0
    have H2 := Lib.hid h2
    have HB := Lib.hid hB
    have RV := Lib.hid (HR0.out.next (HS.out ▸ hB))
    have hsV := hB.size
    have hgV' := h1.lt
    obtain ⟨c0, c1, c2, c3⟩ := blk4 h0
    have hip := set_info (setP_size (p := genB m S P (memB (finN pre))))
    have hx16 : x.1 < 16 := by omega
    have hpl : ∀ y ∈ finN pre, y < m := fun y hy => by
      simp only [finN, List.mem_map] at hy
      obtain ⟨z, _, rfl⟩ := hy
      exact z.2
    clear h1 h0 h2 hB
    cases hq : genB m S P (memB (finN pre)) x.1
    · have HG := Lib.hid (R.gen_snoc hpl x.2)
      have HQ := Lib.hid hq
      gi_wp2_with (first
        | (refine wpListIn_load_rowR rfl 50 (.tmp 5) rfl g rfl _ (setP (genB m S P (memB (finN pre)))) (0, 0) _ H1.out Tryz.underlying50 rfl hip ?_)
        | (refine ⟨trivial, ?_⟩; gi_at_call 65; refine (CallsIn.inRound l (callsIn_wide.2 (has2_any _ x.1 _ hx16))).mono ?_; rw [HQ.out]; rintro e2 V1 ⟨rfl, hb2⟩))
      have H1 := Lib.hid (H1.out.next hb2)
      have H0 := Lib.hid (H0.out.next hb2)
      have H2 := Lib.hid (H2.out.next hb2)
      have RV := Lib.hid (RV.out.next hb2)
      have Q2 := Lib.hid hb2
      have s2 := hb2.size
      clear hb2 c0 c1 c2 c3
      refine wpIn_region_makersR 6 mk0 phi0 sh0 (fun _ => undef) probe (by kernel_rfl) (by kernel_rfl) (by kernel_rfl) (fun _ _ _ _ _ _ => trivial) (fun _ _ _ _ _ => trivial) (fun _ _ => trivial) ?_
      intro V2 hV2 vs hvs
      clear hvs
      have RV2 := Lib.hid (RV.out.next hV2)
      have G1 := Lib.hid (H1.out.next hV2).inC
      obtain ⟨c0, c1, c2, c3⟩ := blk4 (H0.out.next hV2)
      have cW : ∃ x, extC V2 x := ⟨V2, extC_of (Below.refl _ _)⟩
      clear hV2
      simp only [List.take_succ_cons, List.take_zero, List.drop_succ_cons, List.drop_zero]
      refine wpV_quietE cW 6 0 _ _ (fun _ _ => rfl) (by decide) ?_
      simp only [List.take_succ_cons, List.take_zero, List.drop_succ_cons, List.drop_zero]
      repeat (first
        | (refine wpQuiet_load_row rfl 50 (.tmp 5) rfl g rfl _ (setP (genB m S P (memB (finN pre)))) _ G1.out Tryz.underlying50 rfl hip ?_; go_simp)
        | (go_big_quiet_step ((first
            | (go_at_call 43; exact calls_ext (multiples_any x.1 m e b1 o1 la ca b2 o2 lb cb S P _ (RV2.out.next (ext_below _ _)) x.2))
            | (go_at_call 60; exact calls_ext (idealSum_any _ _ m e b1 o1 la ca b2 o2 lb cb S P _ (RV2.out.next (ext_below _ _)) (fun _ h => gen_lt h) (R.mul_idl x.2).lt))))))
      refine wpQuiet_nil ?_
      refine wpV_nilE ?_
      intro w3 hb3 _ _
      obtain ⟨U, hU⟩ : ∃ U, setP (opsB m S (genB m S P (memB (finN pre))) (mulB m P x.1)) = U := ⟨_, rfl⟩
      have hs1 : U.size = 16 := by rw [← hU, setP_size]
      have hs2 : U.all (·.oneCell') = true := by rw [← hU]; exact setP_one
      have hi := set_info hs1
      have hold : (setP (genB m S P (memB (finN pre)))).size = U.size := by rw [hs1, setP_size]
      rw [hU]
      have HU := Lib.hid hU
      have k3 := H1.out.next hb3
      have Q3 := Lib.hid hb3
      have s3 := hb3.size
      clear hU hb3 c0 c1 c2 c3
      go_wp2_with (refine wpList_store_row rfl 50 (.tmp 5) (.tmp 20) rfl g U rfl rfl _ _ k3 hi hold hs2 ?_)
      have B3 : Below V'.heap.size V' w3 := below_step Q2.out Q3.out
      have k5 := (KeepsOthers.of_grownBy (Go.Proofs.YtajoimopahibcaaGreat.Below.grown_ B3) (fun j o ej _ => by cases ej)).trans (KeepsOthers.setRow k3 U)
      have B5 : Below s V' (w3.setRow g U) := below_setRow (B3.mono (by omega)) (by omega) U
      refine ⟨k5.from _, B5, ⟨?_, (H0.out.next Q3.out).rowFar (by omega) _, (H2.out.next Q3.out).rowFar (by omega) _⟩, HB.out.trans B5⟩
      have e : U = setP (genB m S P (memB (finN (pre ++ [x])))) := by
        rw [← HU.out, ← HG.out]
        simp [finN]
      rw [← e]
      exact k3.rowTo U
    · have HG := Lib.hid (R.gen_old hpl hq)
      have HQ := Lib.hid hq
      gi_wp2_with (first
        | (refine wpListIn_load_rowR rfl 50 (.tmp 5) rfl g rfl _ (setP (genB m S P (memB (finN pre)))) (0, 0) _ H1.out Tryz.underlying50 rfl hip ?_)
        | (refine ⟨trivial, ?_⟩; gi_at_call 65; refine (CallsIn.inRound l (callsIn_wide.2 (has2_any _ x.1 _ hx16))).mono ?_; rw [HQ.out]; rintro e2 V1 ⟨rfl, hb2⟩))
      have q2 := hb2
      refine ⟨(KeepsOthers.of_grownBy (Go.Proofs.YtajoimopahibcaaGreat.Below.grown_ q2) (fun j o ej _ => by cases ej)).from _, q2.mono (by omega), ⟨?_, H0.out.next q2, H2.out.next q2⟩, HB.out.trans (q2.mono (by omega))⟩
      have := H1.out.next q2
      rw [← HG.out] at this
      simpa [finN] using this
  case done =>
    rintro D ys V' hD rfl ⟨⟨h1, h0, h2⟩, hB⟩ hK
    obtain ⟨U, hU⟩ : ∃ U, setP (genB m S P (memB (finN ys))) = U := ⟨_, rfl⟩
    have hs1 : U.size = 16 := by rw [← hU, setP_size]
    have hs2 : U.all (·.oneCell') = true := by rw [← hU]; exact setP_one
    rw [hU] at h1
    have HU := Lib.hid hU
    have hi := set_info hs1
    have hold : (setP fun _ => false).size = U.size := by rw [hs1, setP_size]
    have H1 := Lib.hid h1
    have H2 := Lib.hid h2
    have HB := Lib.hid hB
    have HK := Lib.hid hK
    clear hU h1 h0 h2 hB hK
    gi_wp2_with (first
      | (refine wpListIn_load_rowW rfl 50 (.tmp 5) rfl g rfl _ U (0, 0) _ H1.out Tryz.underlying50 rfl hi ?_)
      | (refine wpListIn_store_rowW rfl 50 (.tmp 4) (.tmp 21) rfl (s + 1) U rfl rfl _ (setP fun _ => false) H2.out hi hold hs2 ?_))
    have hD2 : D ≠ s + 1 := by omega
    have hK2 : (V'.setRow (s + 1) U).heap[D]? = some (.deferred (some [])) := (setRow_other V' (s + 1) D U hD2).trans HK.out
    have hB2 : Below s w (V'.setRow (s + 1) U) := below_setRow HB.out (by omega) U
    have hR : ((V'.setRow (s + 1) U).putObj D (.deferred none)).heap[s + 1]? = some (.cells U 50 (0, 0)) := (World.putObj_heap_other (Ne.symm hD2)).trans (setRow_heap V' (s + 1) _ U _ _ H2.out)
    refine ⟨by simp, .inl ⟨_, _, rfl, run_takeDeferred hK2, ?_⟩⟩
    exact ⟨_, results_cell_row Tryz.results62 _ _ (s + 1) 50 U (0, 0) _ rfl hR Tryz.underlying50 rfl hi, by rw [HU.out], hB2.trans (belowK_b (w := w) (by omega) (V'.setRow (s + 1) U) D _ _ (by omega) hK2 rfl rfl)⟩
  case stop =>
    rintro D c pre V' _ _ h _
    exact h.elim

end Go.Proofs.YtajoimopahibcaaGreat



/- IdealOf and IsIdeal of the program; the set of an ideal. -/
namespace Go.Proofs.YtajoimopahibcaaGreat
open Go.RowKit Go.Shelf
set_option maxRecDepth 100000
attribute [local go_sem] Oper.semAt_some

theorem finOf {m : Nat} : ∀ {L : List Int}, (∀ x ∈ L, 0 ≤ x ∧ x < (m : Int)) → ∃ LF : List (Fin m), finI LF = L
  | [], _ => ⟨[], rfl⟩
  | x :: L, h => by
    obtain ⟨LF, hLF⟩ := finOf (L := L) (fun y hy => h y (List.mem_cons_of_mem _ hy))
    obtain ⟨h1, h2⟩ := h x (List.mem_cons_self ..)
    refine ⟨⟨x.toNat, by omega⟩ :: LF, ?_⟩
    rw [← hLF]
    simp only [finI, List.map_cons, List.cons.injEq, and_true]
    omega
theorem setL_fin {m : Nat} {LF : List (Fin m)} : setL (finI LF) = memB (finN LF) := by unfold setL; rw [natL_finI]

def ioMk (i : Nat) : Bool := i == 3 || i == 4 || i == 5
structure IoPhi (sv : Value) (U : Array Value) (D : Nat) (Z : List Int) (i : Nat) (v : Value) (w : World) : Prop where
  p3 : i = 3 → ∃ Bs, v = .func (.func 104) #[] #[.pointer (some ⟨Bs, 0, none⟩)] ∧ Blk w Bs 23 #[sv]
  p4 : i = 4 → v = .agg U
  p5 : i = 5 → SliceOut D w v Z
structure IoSh (U : Array Value) (i : Nat) (v : Value) : Prop where
  p3 : i = 3 → ∃ Bs, v = .func (.func 104) #[] #[.pointer (some ⟨Bs, 0, none⟩)]
  p4 : i = 4 → v = .agg U
  p5 : i = 5 → ∃ A l c, v = .slice A l c
theorem IoPhi_stable {sv : Value} {U : Array Value} {D : Nat} {Z : List Int} (i : Nat) (v : Value) (w w' : World) (h : IoPhi sv U D Z i v w) (hb : Below w.heap.size w w') : IoPhi sv U D Z i v w' :=
  ⟨fun e => by obtain ⟨x, h1, h2⟩ := h.p3 e; exact ⟨x, h1, h2.next hb⟩, h.p4, fun e => (h.p5 e).next hb⟩
theorem IoSh_of {sv : Value} {U : Array Value} {D : Nat} {Z : List Int} (i : Nat) (v : Value) (w : World) (h : IoPhi sv U D Z i v w) : IoSh U i v :=
  ⟨fun e => by obtain ⟨x, h1, _⟩ := h.p3 e; exact ⟨x, h1⟩, h.p4, fun e => by obtain ⟨A, l, c, h1, _⟩ := h.p5 e; exact ⟨A, l, c, h1⟩⟩
def io0 (U : Array Value) (i : Nat) : Value := if i = 4 then .agg U else if i = 5 then .slice none 0 0 else .func (.func 104) #[] #[.pointer (some ⟨0, 0, none⟩)]
theorem IoSh_zero {U : Array Value} (i : Nat) : IoSh U i (io0 U i) := ⟨fun e => by subst e; exact ⟨0, rfl⟩, fun e => by subst e; rfl, fun e => by subst e; exact ⟨none, 0, 0, rfl⟩⟩

set_option maxHeartbeats 8000000 in
theorem idealOf_any (n o : Int) (A B C : Option Addr) (la ca lb cb len cap : Nat) (X Y L : List Int) (w : World) (hX : Ints w w.heap.size A la X) (hY : Ints w w.heap.size B lb Y) (hL : Ints w w.heap.size C len L) (hla : la ≤ 9223372036854775807) (hlb : lb ≤ 9223372036854775807) (hlen : len ≤ 9223372036854775807) (hca : la ≤ ca) (hcb : lb ≤ cb) :
    Calls Tryz.prog 18 #[.agg #[.int .i64 n, .int .i64 o, .slice A la ca, .slice B lb cb], .slice C len cap] w fun e' w' => ∃ v, e' = .returned (.tuple #[v, .bool (ideB n o X Y L)]) ∧ SliceOut w.heap.size w' v (ideL n o X Y L) ∧ Below w.heap.size w w' := by
  obtain ⟨W, hW⟩ : ∃ W, w.alloc (.cells #[.int .i64 n, .int .i64 o, .slice A la ca, .slice B lb cb] 25) = W := ⟨_, rfl⟩
  have k0 : Blk W w.heap.size 25 #[.int .i64 n, .int .i64 o, .slice A la ca, .slice B lb cb] := by
    subst hW; exact Blk.new w _ _
  have b0 : Below w.heap.size w W := by
    subst hW; exact (Below.refl _ _).alloc (Nat.le_refl _) _
  have HX := Lib.hid (hX.next b0)
  have HY := Lib.hid (hY.next b0)
  have HL := Lib.hid (hL.next b0)
  have HL0 := Lib.hid hL
  have B0 := Lib.hid b0
  have HW := Lib.hid hW
  have K0 := Lib.hid k0
  have hs0 := k0.lt
  obtain ⟨c0, c1, c2, c3⟩ := blk4 k0
  clear k0 b0 hW hL
  cases hv : validB n o X Y
  · have hz := Lib.hid (ide_noV (L := L) hv)
    clear hX hY
    go_enter Tryz.func18, Tryz.ntmps18
    go_wp2_with (fail)
    rw [HW.out]
    go_wp2_with (go_at_call 31; refine (valid_any _ _ _ _ _ _ _ _ X Y _ HX.out HY.out hla hlb hca hcb).mono ?_; rintro e1 w1 ⟨rfl, hb1⟩)
    go_ret2
    exact ⟨.slice none 0 0, by rw [hz.out]; rfl, by rw [ideL_no hz.out]; exact SliceOut.nil, below_step B0.out hb1⟩
  · cases ha : allB n L
    · have hz := Lib.hid (ide_noA (o := o) (X := X) (Y := Y) ha)
      clear hX hY
      go_enter Tryz.func18, Tryz.ntmps18
      go_wp2_with (fail)
      rw [HW.out]
      go_wp2_with (first
        | (go_at_call 31; refine (valid_any _ _ _ _ _ _ _ _ X Y _ HX.out HY.out hla hlb hca hcb).mono ?_; rintro e1 w1 ⟨rfl, hb1⟩; obtain ⟨d0, d1, d2, d3⟩ := blk4 (K0.out.next hb1))
        | (go_at_call 61; refine (hasAll_any _ _ _ _ _ _ _ _ _ _ _ L _ (HL.out.next hb1) hlen).mono ?_; rw [ha]; rintro e2 w2 ⟨rfl, hb2⟩))
      go_ret2
      exact ⟨.slice none 0 0, by rw [hz.out]; rfl, by rw [ideL_no hz.out]; exact SliceOut.nil, below_step (below_step B0.out hb1) hb2⟩
    · have hz := Lib.hid (ide_yes hv ha)
      obtain ⟨m, e, b1, o1, b2, o2, rfl, rfl, rfl, rfl, hr, _, _, _, _, _⟩ := valid_data hv hX hY hca hcb
      have R := rtab_of_valid hv
      obtain ⟨LF, rfl⟩ := finOf (all_iff.1 ha)
      have hm' := hr.hm'
      have HR0 := Lib.hid hr
      have HA := Lib.hid ha
      obtain ⟨U, hU⟩ : ∃ U, setP (genB m (tabOf X) (tabOf Y) (memB (finN LF))) = U := ⟨_, rfl⟩
      have HU := Lib.hid hU
      have hZ := Lib.hid (show ideL m e X Y (finI LF) = lstP m (genB m (tabOf X) (tabOf Y) (memB (finN LF))) by rw [ideL_yes hz.out]; unfold genL; rw [Int.toNat_natCast, setL_fin])
      clear hX hY hr hU ha
      go_enter Tryz.func18, Tryz.ntmps18
      go_wp2_with (fail)
      rw [HW.out]
      go_wp2_with (first
        | (go_at_call 31; refine (valid_any _ _ _ _ _ _ _ _ X Y _ HX.out HY.out hla hlb hca hcb).mono ?_; rintro e1 w1 ⟨rfl, hb1⟩; obtain ⟨d0, d1, d2, d3⟩ := blk4 (K0.out.next hb1))
        | (go_at_call 61; refine (hasAll_any _ _ _ _ _ _ _ _ _ _ _ (finI LF) _ (HL.out.next hb1) hlen).mono ?_; rw [HA.out]; rintro e2 w2 ⟨rfl, hb2⟩))
      have B2 := Lib.hid (below_step (below_step B0.out hb1) hb2)
      have K2 := Lib.hid ((K0.out.next hb1).next hb2)
      have s1 := hb1.size
      have s2 := hb2.size
      clear hb1 hb2 c0 c1 c2 c3 d0 d1 d2 d3
      refine wp_region_makersE 7 ioMk (IoPhi (.slice C len cap) U w.heap.size (lstP m (genB m (tabOf X) (tabOf Y) (memB (finN LF))))) (IoSh U) (io0 U) probe (by kernel_rfl) (by kernel_rfl) IoPhi_stable (fun i v x _ => IoSh_of i v x) (fun i _ => IoSh_zero i) ?_
      intro V hV vs hvs
      obtain ⟨Bs, e3⟩ := (hvs 3 rfl).p3 rfl
      have e4 := (hvs 4 rfl).p4 rfl
      obtain ⟨A5, l5, c5, e5⟩ := (hvs 5 rfl).p5 rfl
      have cW : ∃ x, extC V x := ⟨V, extC_of (Below.refl _ _)⟩
      have kx : ∀ x, extC V x → Below w.heap.size w x := fun x ⟨u, hu⟩ => by rw [hu]; exact below_step (below_step B2.out hV) (ext_below V u)
      obtain ⟨f0, f1, f2, f3⟩ := blk4 (K2.out.next hV)
      simp only [List.take_succ_cons, List.take_zero, List.drop_succ_cons, List.drop_zero]
      refine wpV_quietE cW 3 0 _ _ (by decide) (by decide) ?_
      simp only [List.take_succ_cons, List.take_zero, List.drop_succ_cons, List.drop_zero]
      repeat (go_big_quiet_step (fail))
      refine wpQuiet_nil ?_
      refine wpV_make_E rfl rfl (fun x hx _ => ?_) ?_
      · unfold makesAtE
        go_simp
        refine ⟨rfl, (values_any C len cap x).mono ?_⟩
        rintro _ x' ⟨rfl, hB, hb⟩
        exact ⟨_, rfl, hb, ⟨fun _ => ⟨_, rfl, hB⟩, fun e => absurd e (by decide), fun e => absurd e (by decide)⟩, fun b hbb => (by cases hbb)⟩
      rw [e3]
      go_simp
      refine wpV_make_E rfl rfl (fun x hx hd => ?_) ?_
      · obtain ⟨Bs', q1, hB⟩ := (hd ⟨3, .data⟩ (by simp) rfl rfl).p3 rfl
        rw [e3] at q1
        simp only [Value.func.injEq, Array.mk.injEq, List.cons.injEq, Value.pointer.injEq, Option.some.injEq, Addr.mk.injEq, true_and, and_true] at q1
        subst q1
        unfold makesAtE
        go_simp
        refine ⟨rfl, (leastIdeal_any _ len _ m e b1 o1 la ca b2 o2 lb cb (tabOf X) (tabOf Y) x (HR0.out.next (kx x hx)) LF _ R (enters_of Tryz.func104 (by kernel_rfl) rfl) (values_seq (n0 := x.heap.size) LF x hlen hB ((HL0.out.next (kx x hx))) (Nat.le_refl _))).mono ?_⟩
        rintro _ x' ⟨rfl, hb⟩
        exact ⟨_, rfl, hb, ⟨fun e => absurd e (by decide), fun _ => by rw [HU.out], fun e => absurd e (by decide)⟩, fun b hbb => (by cases hbb)⟩
      rw [e4]
      go_simp
      refine wpV_make_E rfl rfl (fun x hx hd => ?_) ?_
      · unfold makesAtE
        go_simp
        refine ⟨rfl, ?_⟩
        rw [← HU.out]
        refine (elements_any _ m e _ _ la ca lb cb x hm').mono ?_
        rintro _ x' ⟨v, rfl, ho, hb⟩
        exact ⟨_, rfl, hb, ⟨fun e => absurd e (by decide), fun e => absurd e (by decide), fun _ => ho.down (kx x hx).size⟩, fun b hbb => (by cases hbb)⟩
      rw [e5]
      go_simp
      refine wpV_quietE cW 1 _ _ _ (by decide) (by decide) ?_
      simp only [List.take_succ_cons, List.take_zero, List.drop_succ_cons, List.drop_zero]
      repeat (go_big_quiet_step (fail))
      refine wpQuiet_nil ?_
      refine wpV_nilE ?_
      intro w3 hb3 hf _
      have h5 := (hf 5 (by decide) rfl).p5 rfl
      rw [e5] at h5
      have H5 := Lib.hid h5
      have BB := Lib.hid (below_step B2.out hb3)
      clear hb3 hf h5
      go_wp2
      go_ret2
      exact ⟨.slice A5 l5 c5, by rw [hz.out]; rfl, by rw [hZ.out]; exact H5.out, BB.out⟩

end Go.Proofs.YtajoimopahibcaaGreat

