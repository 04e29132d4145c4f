/- Texts of this seat in one: Y5 Y6. -/
import Derived.Test.YtfpkijoamgohcaaMH
import Derived.Test.YtfpkijoamgohcaaMG
import Derived.Test.YtfpkijoamgohcaaMP

/- Drawn laws: contracts of stage 3's functions over a ring that lies in a world. -/
namespace Go.Proofs.Ytfpkijoamgohcaa
open Go.RowKit
set_option maxRecDepth 100000
section
variable {n o : Int} {A B : Option Addr} {la ca lb cb : Nat} {X Y : List Int} {w : World}
theorem c_sord (h : RIn w A la ca B lb cb X Y) (x : Int) (z : Int) (hz : ordV n o X Y x = z) : Calls Try.prog 29 #[.agg #[.int .i64 n, .int .i64 o, .slice A la ca, .slice B lb cb], .int .i64 x] w fun e' w' => e' = .returned (.int .i64 z) ∧ Below w.heap.size w w' := by
  subst hz
  exact sord_any n o A B la ca lb cb X Y x w h.hX h.hY h.hla h.hlb h.hca h.hcb
theorem c_kind0 (h : RIn w A la ca B lb cb X Y) (Z : List Int) (hz : kindsL n o X Y 0 = Z) : Calls Try.prog 30 #[.agg #[.int .i64 n, .int .i64 o, .slice A la ca, .slice B lb cb]] w fun e' w' => ∃ v, e' = .returned v ∧ SliceOut w.heap.size w' v Z ∧ Below w.heap.size w w' := by
  subst hz
  exact kind0_any n o A B la ca lb cb X Y  w h.hX h.hY h.hla h.hlb h.hca h.hcb
theorem cs_kind0 (h : RIn w A la ca B lb cb X Y) (Z : List Int) (hz : kindsL n o X Y 0 = Z) : Calls Try.prog 96 #[.agg #[.int .i64 n, .int .i64 o, .slice A la ca, .slice B lb cb]] w fun e' w' => ∃ v, e' = .returned v ∧ SliceOut w.heap.size w' v Z ∧ Below w.heap.size w w' := by
  subst hz
  exact skind0_any n o A B la ca lb cb X Y  w h.hX h.hY h.hla h.hlb h.hca h.hcb
theorem c_assoc (h : RIn w A la ca B lb cb X Y) (x : Int) (Z : List Int) (hz : assocL n o X Y x = Z) : Calls Try.prog 27 #[.agg #[.int .i64 n, .int .i64 o, .slice A la ca, .slice B lb cb], .int .i64 x] w fun e' w' => ∃ v, e' = .returned v ∧ SliceOut w.heap.size w' v Z ∧ Below w.heap.size w w' := by
  subst hz
  exact assoc_any n o A B la ca lb cb X Y x w h.hX h.hY h.hla h.hlb h.hca h.hcb
theorem cs_assoc (h : RIn w A la ca B lb cb X Y) (x : Int) (Z : List Int) (hz : assocL n o X Y x = Z) : Calls Try.prog 28 #[.agg #[.int .i64 n, .int .i64 o, .slice A la ca, .slice B lb cb], .int .i64 x] w fun e' w' => ∃ v, e' = .returned v ∧ SliceOut w.heap.size w' v Z ∧ Below w.heap.size w w' := by
  subst hz
  exact sassoc_any n o A B la ca lb cb X Y x w h.hX h.hY h.hla h.hlb h.hca h.hcb
end

section
variable {m e : Nat} {X Y : List Int}
theorem v_inv (hv : validB m e X Y = true) {a c : Nat} (ha : a < m) (hc : c < m) (h : tabOf Y (a * m + c) = e) {x z : Int} (hx : x = a) (hz : z = c) : invV m e X Y x = z := by
  subst hx hz
  rw [invV_yes hv (inB_nat ha)]
  exact (rtab_of_valid hv).inv_eq ha hc h
theorem v_uord (hv : validB m e X Y = true) {a c d : Nat} (ha : a < m) (hc : c < m) (h : tabOf Y (a * m + c) = e) (hd : ordZ m (tabOf Y) e a = d) {x z : Int} (hx : x = a) (hz : z = d) : uordV m e X Y x = z := by
  subst hx hz hd
  refine uordV_yes ?_
  rw [v_inv hv ha hc h rfl rfl]
  omega
theorem v_sord (hv : validB m e X Y = true) {a d : Nat} (ha : a < m) (hd : ordN m (tabOf X) a = d) {x z : Int} (hx : x = a) (hz : z = d) : ordV m e X Y x = z := by
  subst hx hz hd
  exact ordV_yes hv (inB_nat ha)
theorem idx_cases (xs : List Int) (v : Int) : idx xs v = -1 ∨ 0 ≤ idx xs v := by
  unfold idx
  split
  · right; omega
  · left; rfl
/-- Either there is no inverse, or the ring is valid and there is one. -/
theorem inv_cases {n o a : Int} {X Y : List Int} : invV n o X Y a = -1 ∨ (validB n o X Y = true ∧ inB n a = true ∧ 0 ≤ invV n o X Y a) := by
  by_cases h : validB n o X Y = true ∧ inB n a = true
  · have e : invV n o X Y a = invN n.toNat (tabOf Y) o.toNat a.toNat := ifV_yes h
    rcases idx_cases (rowL n.toNat (tabOf Y) a.toNat) o.toNat with h1 | h1
    · exact .inl (e.trans h1)
    · exact .inr ⟨h.1, h.2, by rw [e]; exact h1⟩
  · exact .inl (invV_no h)
end

end Go.Proofs.Ytfpkijoamgohcaa


/- Drawn laws: regions in which calls hand back lists, and tests of lists. -/
namespace Go.Proofs.Ytfpkijoamgohcaa
open Go.RowKit
set_option maxRecDepth 100000

/-- What calls that hand back lists hand back, and tests of them. -/
structure LmPhi (D : Nat) (L : Nat → Bool) (Z : Nat → List Int) (N : Nat → Nat) (B : Nat → Bool) (i : Nat) (v : Value) (w : World) : Prop where
  l : L i = true → SliceOut D w v (Z i) ∧ (Z i).length = N i
  b : L i = false → v = .bool (B i)
structure LmSh (L : Nat → Bool) (N : Nat → Nat) (B : Nat → Bool) (i : Nat) (v : Value) : Prop where
  l : L i = true → ∃ A c, v = .slice A (N i) c
  b : L i = false → v = .bool (B i)
section
variable {D : Nat} {L : Nat → Bool} {Z : Nat → List Int} {N : Nat → Nat} {B : Nat → Bool} {i : Nat} {v : Value}
theorem LmPhi.next {w w' : World} (h : LmPhi D L Z N B i v w) (hb : Below w.heap.size w w') : LmPhi D L Z N B i v w' := ⟨fun e => ⟨(h.l e).1.next hb, (h.l e).2⟩, h.b⟩
theorem LmPhi.sh {w : World} (h : LmPhi D L Z N B i v w) : LmSh L N B i v := ⟨fun e => by
  obtain ⟨⟨A, l, c, e1, h1, _⟩, h2⟩ := h.l e
  exact ⟨A, c, by rw [e1, ← h2, h1.1]⟩, h.b⟩
def lmV0 (L : Nat → Bool) (N : Nat → Nat) (B : Nat → Bool) (i : Nat) : Value := bif L i then .slice none (N i) 0 else .bool (B i)
theorem lmSh0 : LmSh L N B i (lmV0 L N B i) := ⟨fun e => ⟨none, 0, by unfold lmV0; rw [e]; rfl⟩, fun e => by unfold lmV0; rw [e]; rfl⟩
end
theorem SliceOut.len {D : Nat} {w : World} {v : Value} {Z : List Int} (h : SliceOut D w v Z) : ∃ A c, v = .slice A Z.length c ∧ Ints w w.heap.size A Z.length Z ∧ Z.length ≤ c ∧ Z.length ≤ 1048570 := by
  obtain ⟨A, l, c, e, h1, h2, h3⟩ := h
  rw [h1.1]
  exact ⟨A, c, e, h1.ints, h2, h3⟩
theorem frSame_is {A B : Option Addr} {n k ca cb : Nat} {xs ys : List Int} {w : World} (hA : Ints w w.heap.size A n xs) (hB : Ints w w.heap.size B k ys) (hn : n ≤ 1048570) (hk : k ≤ 1048570) (z : Bool) (hz : eqL xs ys = z) :
    Calls Try.prog 15 #[.slice A n ca, .slice B k cb] w fun e w' => e = .returned (.bool z) ∧ Below w.heap.size w w' := by
  subst hz
  exact frSame_any A B n k ca cb xs ys w _ _ hA hB (by omega) (by omega)
theorem SliceOut.as {D n : Nat} {w : World} {v : Value} {Z : List Int} (h : SliceOut D w v Z) (hn : Z.length = n) : ∃ A c, v = .slice A n c ∧ SliceOut D w (.slice A n c) Z := by
  obtain ⟨A, l, c, e, h1, h2, h3⟩ := h
  have e2 : l = n := by rw [← hn, h1.1]
  subst e e2
  exact ⟨A, c, rfl, A, l, c, rfl, h1, h2, h3⟩
/-- What stands in a list of chosen elements. -/
theorem sel_get {m j : Nat} {p : Nat → Bool} (h : j < (selTo m p m).length) : ∃ b, b < m ∧ p b = true ∧ (finI (selTo m p m))[j]?.getD 0 = (b : Int) := by
  have h1 := (selTo_in m (Nat.le_refl _)).1 (List.getElem_mem h)
  exact ⟨_, h1.1, h1.2, finI_get_val h⟩
theorem eqL_self {xs : List Int} : eqL xs xs = true := eqL_true rfl fun _ _ => rfl

section
variable {m e a : Nat} {P : Nat → Nat}
theorem kindTo_pre (k : Nat) : kindTo m P e a k <+: kindTo m P e a (k + 1) := by
  cases h : kindB m P e k a
  · rw [kindTo_no h]; exact List.prefix_rfl
  · rw [kindTo_yes h]; exact List.prefix_append _ _
theorem kind_unit (h : unitB m P e a = true) : ∃ t, kindTo m P e a 4 = 117 :: t := by
  have h1 : kindTo m P e a 1 = [117] := kindTo_yes (k := 0) h
  obtain ⟨t, ht⟩ := (kindTo_pre (m := m) (P := P) (e := e) (a := a) 1).trans ((kindTo_pre 2).trans (kindTo_pre 3))
  exact ⟨t, by rw [← ht, h1]; rfl⟩
theorem kind_div (h : unitB m P e a = false) (hd : divB m P a = true) : ∃ t, kindTo m P e a 4 = 100 :: t := by
  have h1 : kindTo m P e a 1 = [] := kindTo_no (k := 0) h
  have h2 : kindTo m P e a 2 = [100] := by rw [kindTo_yes (k := 1) hd, h1]; rfl
  obtain ⟨t, ht⟩ := (kindTo_pre (m := m) (P := P) (e := e) (a := a) 2).trans (kindTo_pre 3)
  exact ⟨t, by rw [← ht, h2]; rfl⟩
end

end Go.Proofs.Ytfpkijoamgohcaa
