/- Texts of this seat in one: B3 C1 B4 M1 N1 B5 B6 B7 B8 C2 C3 C4 C5 F1 F2 E1 E2 Y1. -/
import Derived.Test.YtlcpbdbdiahmjaaMA
import Derived.Laws.IdiomStrings

/- The contracts of Add, Mul, Neg, Times, Power and CharacteristicOf, of both sides. -/
namespace Go.Proofs.Ytlcpbdbdiahmjaa
open Go.RowKit

end Go.Proofs.Ytlcpbdbdiahmjaa



/- The laws' helpers: copies of lists and rings. -/
namespace Go.Proofs.Ytlcpbdbdiahmjaa
open Go.RowKit

def Blk (w : World) (g : Nat) (t : TypeId) (cs : Array Value) : Prop := w.heap[g]? = some (.cells cs t (0, 0))
section
variable {w w' : World} {g : Nat} {t : TypeId} {cs : Array Value}
theorem Blk.lt (h : Blk w g t cs) : g < w.heap.size := by
  rcases Nat.lt_or_ge g w.heap.size with hlt | hge
  · exact hlt
  · unfold Blk at h; rw [Array.getElem?_eq_none hge] at h; cases h
theorem Blk.cell (h : Blk w g t cs) (i : Nat) : w.cell? ⟨g, i, none⟩ = cs[i]? := cell_of_row w g i cs t (0, 0) h
theorem Blk.frozen (h : Blk w g t cs) (i : Nat) : w.frozen? ⟨g, i, none⟩ = false := by
  unfold Blk at h
  simp [World.frozen?, h]
theorem Blk.new (w : World) (t : TypeId) (cs : Array Value) : Blk (w.alloc (.cells cs t)) w.heap.size t cs := heap_alloc_new w _
theorem Blk.drewN (h : Blk w g t cs) (n : Nat) : Blk (w.drewN n) g t cs := h
theorem Blk.alloc (h : Blk w g t cs) (o : Obj) : Blk (w.alloc o) g t cs := (Below.heap_alloc w o g h.lt).trans h
theorem Blk.set_ (h : Blk w g t cs) (i : Nat) (u : Value) : Blk (w.setCell ⟨g, i, none⟩ u) g t (cs.setIfInBounds i u) := by
  unfold Blk at h ⊢
  simp [World.setCell, Array.getElem?_modify, h]
theorem Blk.far (h : Blk w g t cs) {p : Addr} (hp : g ≠ p.block) (u : Value) : Blk (w.setCell p u) g t cs := (Below.heap_setCell w p u g hp).trans h
theorem Blk.below {B : Nat} (h : Blk w g t cs) (hb : Below B w w') (hg : g < B) : Blk w' g t cs := (hb.block g hg).trans h
end

/-- What is below is as it was: as 'grownBy' says it, of the blocks that were there. -/
theorem Below.grown_ {w w' : World} (h : Below w.heap.size w w') : w.grownBy w' none := ⟨h.os, h.tape, h.output, h.size, fun i hi _ => h.block i hi⟩

theorem own_base {w : World} {base base' : Nat} {e : TypeId} {size n : Nat} {v : Value} {xs : List Value} (h : w.ownsRow base e size v n xs) (hb : base' ≤ base) : w.ownsRow base' e size v n xs := by
  obtain ⟨h1, h2⟩ := h
  refine ⟨h1, ?_⟩
  rcases h2 with h2 | ⟨g, cap, cur, hv, hg, r⟩
  · exact Or.inl h2
  · exact Or.inr ⟨g, cap, cur, hv, Nat.le_trans hb hg, r⟩

theorem int_info : (Try.prog.info? 3).map (fun i => (i.zero, i.size, i.bytes)) = some (some (.int .i64 0), 1, 8) := by kernel_rfl

/-- A list that is filled from its head. -/
def fillL (xs : List Int) (len k : Nat) : List Value := (List.range len).map fun j => .int .i64 (if j < k then xs[j]?.getD 0 else 0)
theorem fillL_length {xs : List Int} {len k : Nat} : (fillL xs len k).length = len := by simp [fillL]
theorem fillL_get {xs : List Int} {len k j : Nat} (hj : j < len) : (fillL xs len k)[j]? = some (.int .i64 (if j < k then xs[j]?.getD 0 else 0)) := by
  unfold fillL
  rw [List.getElem?_map, List.getElem?_range hj]; rfl
theorem fillL_zero {xs : List Int} {len : Nat} : (madeCells (Value.int .i64 0).cells (len * 1)).toList = fillL xs len 0 := by
  apply List.ext_getElem?
  intro j
  by_cases hj : j < len
  · rw [fillL_get hj]
    simp [madeCells, Value.cells, hj, Nat.mod_one]
  · rw [List.getElem?_eq_none (by simp [madeCells]; omega), List.getElem?_eq_none (by rw [fillL_length]; omega)]
/-- What a row owns reads as a list of ints. -/
theorem ints_of_own {w : World} {base g cap n : Nat} {xs : List Int} {T : TypeId} (h : w.ownsRow base T 1 (.slice (some ⟨g, 0, none⟩) n cap) n (xs.map (.int .i64))) (hn : xs.length = n) : Ints w w.heap.size (some ⟨g, 0, none⟩) n xs := by
  refine ⟨hn, fun h0 => ⟨g, 0, rfl, (h.lt g rfl).2, fun k x hx => ?_⟩⟩
  have hk : k < n := by
    rcases Nat.lt_or_ge k n with h1 | h1
    · exact h1
    · rw [List.getElem?_eq_none (by omega)] at hx; cases hx
  rw [Nat.zero_add, h.cellAt k (by omega), List.getElem?_map, hx]; rfl

end Go.Proofs.Ytlcpbdbdiahmjaa



/- The contracts of the reading side's Add and Mul. -/
namespace Go.Proofs.Ytlcpbdbdiahmjaa
open Go.RowKit

/-- The bound of l1Elements, of a size. -/
def hiOf (n : Int) : Int := wrap64 (n - 1)
theorem hi_valid {n o : Int} {X Y : List Int} (h : validB n o X Y = true) : hiOf n = n - 1 := by
  unfold validB at h
  rw [Bool.and_eq_true] at h
  obtain ⟨h1, h2, _⟩ := fitsB_iff.1 h.1
  exact wrap_in (by omega) (by omega)
end Go.Proofs.Ytlcpbdbdiahmjaa



/- Plain facts on tables of sums: repeated sums come back to 0 in at most as many steps as there are elements. No program in sight. -/
namespace Go.Proofs.Ytlcpbdbdiahmjaa
open Go.RowKit

section
variable {m : Nat} {S : Nat → Nat}
theorem OpLaw.zero {e a : Nat} {T : Nat → Nat} (h : OpLaw m T e) (ha : a < m) : T (a * m + e) = a := (h a ha).1
theorem OpLaw.comm {e a b : Nat} {T : Nat → Nat} (h : OpLaw m T e) (ha : a < m) (hb : b < m) : T (a * m + b) = T (b * m + a) := ((h a ha).2 b hb).1
theorem OpLaw.assoc {e a b c : Nat} {T : Nat → Nat} (h : OpLaw m T e) (ha : a < m) (hb : b < m) (hc : c < m) : T (T (a * m + b) * m + c) = T (a * m + T (b * m + c)) := ((h a ha).2 b hb).2 c hc

/-- Sums with one element differ where the others do. -/
theorem sum_inj (h : OpLaw m S 0) (hn : NegLaw m S) {a x y : Nat} (ha : a < m) (hx : x < m) (hy : y < m) (e : S (x * m + a) = S (y * m + a)) : x = y := by
  obtain ⟨c, hc, h0⟩ := rowL_mem.1 (show ((0 : Nat) : Int) ∈ rowL m S a from hn a ha)
  have e1 := h.assoc hx ha hc
  have e2 := h.assoc hy ha hc
  rw [h0, h.zero hx] at e1
  rw [h0, h.zero hy] at e2
  rw [← e1, ← e2, e]
end

end Go.Proofs.Ytlcpbdbdiahmjaa



/- Plain facts: repeated operations with one element come back; orders in a table. No program in sight. -/
namespace Go.Proofs.Ytlcpbdbdiahmjaa
open Go.RowKit

section
variable {m : Nat} {T S P : Nat → Nat} {z e a d : Nat}
/-- The place of One in a row of products, or -1. -/
def invN (m : Nat) (P : Nat → Nat) (e a : Nat) : Int := idx (rowL m P a) e
end

end Go.Proofs.Ytlcpbdbdiahmjaa



/- The contracts of sumOrder, multiple, power, and of the reading side's; of l1Neg. -/
namespace Go.Proofs.Ytlcpbdbdiahmjaa
open Go.RowKit

end Go.Proofs.Ytlcpbdbdiahmjaa



/- The contracts of multiple and power, of both sides, and of l1Neg. -/
namespace Go.Proofs.Ytlcpbdbdiahmjaa
open Go.RowKit

end Go.Proofs.Ytlcpbdbdiahmjaa



/- The contracts of Neg, Times, Power and CharacteristicOf, of both sides. -/
namespace Go.Proofs.Ytlcpbdbdiahmjaa
open Go.RowKit

noncomputable def ifV (c : Prop) (v : Int) : Int := @ite _ c (Classical.propDecidable c) v (-1)
theorem ifV_yes {c : Prop} {v : Int} (h : c) : ifV c v = v := @if_pos c (Classical.propDecidable c) h _ _ _
set_option maxHeartbeats 1000000 in
theorem l1Neg_any (a : Nat) (m e b1 o1 la ca b2 o2 lb cb : Nat) (S P : Nat → Nat) (w : World) (hr : RingAt w m e b1 o1 la ca b2 o2 lb cb S P) (ha : a < m) :
    Calls Try.prog 53 #[.agg #[.int .i64 m, .int .i64 e, .slice (some ⟨b1, o1, none⟩) la ca, .slice (some ⟨b2, o2, none⟩) lb cb], .int .i64 a] w fun e' w' => e' = .returned (.int .i64 (negN m S a)) ∧ Below w.heap.size w w' := by
  have hm := hr.hm
  have hm' := hr.hm'
  have HR := Lib.hid hr
  clear hr
  go_enter Try.func53, Try.ntmps53
  go_wp2
  go_loopg [8] m (fun g i wr => ∃ k : Nat, k ≤ m ∧ m ≤ k + g ∧ i = .int .i64 k ∧ Misses (rowL m S a) 0 k ∧ Below (w.heap.size + 1) (w.alloc (.cells #[.int .i64 m, .int .i64 e, .slice (some ⟨b1, o1, none⟩) la ca, .slice (some ⟨b2, o2, none⟩) lb cb] 25)) wr)
  case atStart => exact ⟨0, Nat.zero_le _, by omega, rfl, fun j hj => absurd hj (by omega), Below.refl _ _⟩
  case round =>
    obtain ⟨k, hk, hg, rfl, hup, hb⟩ := hrel
    have HU := Lib.hid hup
    obtain ⟨d0, d1, d2, d3, hs1⟩ := box4 hb
    have X1 := Lib.hid hb
    have R1 := Lib.hid (HR.out.next (below_of_box hb))
    clear hup hb
    by_cases hlt : k < m
    · by_cases h0 : S (a * m + k) = 0
      · have H0 := Lib.hid h0
        have t0 : (((S (a * m + k) : Nat) : Int) == 0) = true := by rw [beq_iff_eq]; omega
        clear h0
        go_wp2_with (go_at_call 52; ((with_reducible refine (l1Add_any a k m e b1 o1 la ca b2 o2 lb cb S P _ R1.out ha hlt).mono ?_); rintro e1 w1 ⟨rfl, hb1⟩; have X2 := Lib.hid (X1.out.trans (hb1.mono (by omega))); clear hb1))
        go_ret
        refine ⟨ret_int ?_, below_of_box X2.out⟩
        unfold negN
        exact (idx_hit (by rw [rowL_length]; exact hlt) (by rw [rowL_get hlt, H0.out]; rfl) HU.out).symm
      · have H0 := Lib.hid h0
        have t0 : (((S (a * m + k) : Nat) : Int) == 0) = false := by rw [beq_eq_false_iff_ne]; omega
        clear h0
        go_wp2_with (go_at_call 52; ((with_reducible refine (l1Add_any a k m e b1 o1 la ca b2 o2 lb cb S P _ R1.out ha hlt).mono ?_); rintro e1 w1 ⟨rfl, hb1⟩; have X2 := Lib.hid (X1.out.trans (hb1.mono (by omega))); clear hb1))
        go_roundg (m - (k + 1))
        case measure => omega
        case rel => exact ⟨k + 1, by omega, by omega, by go_num, forall_succ HU.out (by rw [rowL_get hlt]; exact fun h => H0.out (by omega)), X2.out⟩
    · go_wp2
      go_ret
      refine ⟨ret_int ?_, below_of_box X1.out⟩
      unfold negN
      exact (idx_miss fun j hj => HU.out j (by rw [rowL_length] at hj; omega)).symm

end Go.Proofs.Ytlcpbdbdiahmjaa



/- Lists that are the same: the library's Equal, l1Same; SameRing of both sides. -/
namespace Go.Proofs.Ytlcpbdbdiahmjaa
open Go.RowKit

theorem Blk.next {w w' : World} {g : Nat} {t : TypeId} {cs : Array Value} (h : Blk w g t cs) (hb : Below w.heap.size w w') : Blk w' g t cs := h.below hb h.lt
theorem blk4 {w : World} {g : Nat} {t : TypeId} {a b c d : Value} (h : Blk w g t #[a, b, c, d]) : w.cell? ⟨g, 0, none⟩ = some a ∧ w.cell? ⟨g, 1, none⟩ = some b ∧ w.cell? ⟨g, 2, none⟩ = some c ∧ w.cell? ⟨g, 3, none⟩ = some d :=
  ⟨h.cell 0, h.cell 1, h.cell 2, h.cell 3⟩
theorem below_step {w w1 w2 : World} (h : Below w.heap.size w w1) (hb : Below w1.heap.size w1 w2) : Below w.heap.size w w2 := h.trans (hb.mono h.size)

def eqL (xs ys : List Int) : Bool := decide (xs = ys)
def AlikeTo (xs ys : List Int) (k : Nat) : Prop := ∀ j, j < k → xs[j]?.getD 0 = ys[j]?.getD 0
theorem eqL_true {xs ys : List Int} (hl : xs.length = ys.length) (h : AlikeTo xs ys xs.length) : eqL xs ys = true := by
  refine decide_eq_true (List.ext_getElem hl fun j h1 h2 => ?_)
  have := h j h1
  rw [List.getElem?_eq_getElem h1, List.getElem?_eq_getElem h2] at this
  exact this
theorem eqL_false {xs ys : List Int} {k : Nat} (h : ¬ xs[k]?.getD 0 = ys[k]?.getD 0) : eqL xs ys = false := decide_eq_false fun e => h (by rw [e])
theorem eqL_len {xs ys : List Int} (h : xs.length ≠ ys.length) : eqL xs ys = false := decide_eq_false fun e => h (by rw [e])

attribute [local go_sem] eq_shape

end Go.Proofs.Ytlcpbdbdiahmjaa



/- The laws' helpers: sizes; two rings that read the same. -/
namespace Go.Proofs.Ytlcpbdbdiahmjaa
open Go.RowKit

end Go.Proofs.Ytlcpbdbdiahmjaa



/- The walk of the law FnExactRingValid. -/
namespace Go.Proofs.Ytlcpbdbdiahmjaa
open Go.RowKit

end Go.Proofs.Ytlcpbdbdiahmjaa



/- Memory that a call hands out: marked and held. -/
namespace Go.Proofs.Ytlcpbdbdiahmjaa
open Go.RowKit

/-- A slice of ints whose cells lie from block D on and may be written. -/
def Own (w : World) (D : Nat) (A : Option Addr) (n : Nat) (xs : List Int) : Prop :=
  xs.length = n ∧ (0 < n → ∃ g off, A = some ⟨g, off, none⟩ ∧ D ≤ g ∧ g < w.heap.size ∧ ∀ k, k < n → w.cell? ⟨g, off + k, none⟩ = some (.int .i64 (xs[k]?.getD 0)) ∧ w.frozen? ⟨g, off + k, none⟩ = false)
/-- A place lies in a slice. -/
def InS (A : Option Addr) (n : Nat) (p : Addr) : Prop := ∃ g off k, A = some ⟨g, off, none⟩ ∧ k < n ∧ p = ⟨g, off + k, none⟩
/-- Two slices share no place. -/
def Apart (A : Option Addr) (n : Nat) (B : Option Addr) (m : Nat) : Prop := ∀ p, InS A n p → ¬ InS B m p
/-- Nothing has turned but the places of a slice. -/
def ButIn (w w' : World) (A : Option Addr) (n : Nat) : Prop := w'.heap.size = w.heap.size ∧ ∀ p, ¬ InS A n p → w'.cell? p = w.cell? p ∧ w'.frozen? p = w.frozen? p

theorem Own.ints {w : World} {D n : Nat} {A : Option Addr} {xs : List Int} (h : Own w D A n xs) : Ints w w.heap.size A n xs :=
  ⟨h.1, fun hn => by
    obtain ⟨g, off, e, _, hg, hc⟩ := h.2 hn
    refine ⟨g, off, e, hg, fun k x hx => ?_⟩
    have hk : k < n := by
      rcases Nat.lt_or_ge k n with h1 | h1
      · exact h1
      · rw [List.getElem?_eq_none (by have := h.1; omega)] at hx; cases hx
    rw [(hc k hk).1, hx]; rfl⟩
theorem Own.next {w w' : World} {D n : Nat} {A : Option Addr} {xs : List Int} (h : Own w D A n xs) (hb : Below w.heap.size w w') : Own w' D A n xs :=
  ⟨h.1, fun hn => by
    obtain ⟨g, off, e, hD, hg, hc⟩ := h.2 hn
    exact ⟨g, off, e, hD, Nat.lt_of_lt_of_le hg hb.size, fun k hk => ⟨(hb.cell hg).trans (hc k hk).1, (hb.frozen hg).trans (hc k hk).2⟩⟩⟩
theorem Own.kept {w w' : World} {D n m : Nat} {A B : Option Addr} {xs : List Int} (h : Own w D A n xs) (hb : ButIn w w' B m) (ha : Apart A n B m) : Own w' D A n xs :=
  ⟨h.1, fun hn => by
    obtain ⟨g, off, e, hD, hg, hc⟩ := h.2 hn
    refine ⟨g, off, e, hD, by rw [hb.1]; exact hg, fun k hk => ?_⟩
    have := hb.2 ⟨g, off + k, none⟩ (ha _ ⟨g, off, k, e, hk, rfl⟩)
    exact ⟨this.1.trans (hc k hk).1, this.2.trans (hc k hk).2⟩⟩
theorem own_of_row {w : World} {base g cap n : Nat} {xs : List Int} {T : TypeId} (h : w.ownsRow base T 1 (.slice (some ⟨g, 0, none⟩) n cap) n (xs.map (.int .i64))) (hn : xs.length = n) : Own w base (some ⟨g, 0, none⟩) n xs :=
  ⟨hn, fun h0 => ⟨g, 0, rfl, (h.lt g rfl).1, (h.lt g rfl).2, fun k hk => by
    refine ⟨?_, by rw [Nat.zero_add]; exact h.frozenAt k⟩
    rw [Nat.zero_add, h.cellAt k (by omega), List.getElem?_map, List.getElem?_eq_getElem (by omega)]; rfl⟩⟩
theorem Own.nil {w : World} {D : Nat} {A : Option Addr} : Own w D A 0 [] := ⟨rfl, fun h => absurd h (by omega)⟩

end Go.Proofs.Ytlcpbdbdiahmjaa



/- Lists that a call hands out: own memory; what the marks of a ring leave of them. -/
namespace Go.Proofs.Ytlcpbdbdiahmjaa
open Go.RowKit

/-- A list whose memory is the call's own. -/
def SliceOut (D : Nat) (w : World) (v : Value) (Z : List Int) : Prop := ∃ (A : Option Addr) (l c : Nat), v = .slice A l c ∧ Own w D A l Z ∧ l ≤ c ∧ l ≤ 1048570
theorem SliceOut.nil {D : Nat} {w : World} : SliceOut D w (.slice none 0 0) [] := ⟨none, 0, 0, rfl, Own.nil, Nat.le_refl _, by omega⟩
theorem SliceOut.next {D : Nat} {w w' : World} {v : Value} {Z : List Int} (h : SliceOut D w v Z) (hb : Below w.heap.size w w') : SliceOut D w' v Z := by
  obtain ⟨A, l, c, e, h1, h2⟩ := h
  exact ⟨A, l, c, e, h1.next hb, h2⟩
theorem Own.down {w : World} {D D' n : Nat} {A : Option Addr} {xs : List Int} (h : Own w D A n xs) (hD : D' ≤ D) : Own w D' A n xs :=
  ⟨h.1, fun hn => by
    obtain ⟨g, off, e, h1, h2⟩ := h.2 hn
    exact ⟨g, off, e, Nat.le_trans hD h1, h2⟩⟩
theorem SliceOut.down {D D' : Nat} {w : World} {v : Value} {Z : List Int} (h : SliceOut D w v Z) (hD : D' ≤ D) : SliceOut D' w v Z := by
  obtain ⟨A, l, c, e, h1, h2⟩ := h
  exact ⟨A, l, c, e, h1.down hD, h2⟩
theorem SliceOut.of_row {D n : Nat} {w : World} {v : Value} {Z : List Int} {T : TypeId} (h : w.ownsRow D T 1 v n (Z.map (.int .i64))) (hn : Z.length = n) (hl : n ≤ 1048570) : SliceOut D w v Z := by
  rcases h.2 with ⟨rfl, h0⟩ | ⟨g, cap, cur, rfl, _, _, hc, _⟩
  · subst h0
    obtain rfl := List.eq_nil_of_length_eq_zero hn
    exact SliceOut.nil
  · exact ⟨_, _, _, rfl, own_of_row h hn, hc, hl⟩
/-- What the marks of a ring leave of another list. -/
theorem Own.marked {w w' : World} {D n g1 g2 k1 k2 : Nat} {A : Option Addr} {xs : List Int} (h : Own w D A n xs) (hs : w.heap.size ≤ w'.heap.size)
    (hk : ∀ p : Addr, p.block < w.heap.size → ¬ InS (some ⟨g1, 0, none⟩) k1 p → ¬ InS (some ⟨g2, 0, none⟩) k2 p → w'.cell? p = w.cell? p ∧ w'.frozen? p = w.frozen? p) (h1 : g1 < D) (h2 : g2 < D) : Own w' D A n xs :=
  ⟨h.1, fun hn => by
    obtain ⟨g, off, e, hD, hg, hc⟩ := h.2 hn
    refine ⟨g, off, e, hD, Nat.lt_of_lt_of_le hg hs, fun k hkn => ?_⟩
    have := hk ⟨g, off + k, none⟩ hg (fun ⟨g', off', j, e', _, ep⟩ => by
        simp only [Option.some.injEq, Addr.mk.injEq, and_true] at e' ep
        omega) (fun ⟨g', off', j, e', _, ep⟩ => by
        simp only [Option.some.injEq, Addr.mk.injEq, and_true] at e' ep
        omega)
    exact ⟨this.1.trans (hc k hkn).1, this.2.trans (hc k hkn).2⟩⟩
end Go.Proofs.Ytlcpbdbdiahmjaa



/- The text of a table: appendTable. -/
namespace Go.Proofs.Ytlcpbdbdiahmjaa
open Go.RowKit

/-- The digit of an element. -/
def dig (t : Nat) : UInt8 := #[48, 49, 50, 51, 52, 53, 54, 55, 56, 57, 97, 98, 99, 100, 101, 102].getD t 48
theorem dig_at (t : Nat) (h : t < 16) : ({ data := #[48, 49, 50, 51, 52, 53, 54, 55, 56, 57, 97, 98, 99, 100, 101, 102] } : ByteArray)[t]'h = dig t := by
  have g : ∀ t : Fin 16, (#[48, 49, 50, 51, 52, 53, 54, 55, 56, 57, 97, 98, 99, 100, 101, 102] : Array UInt8)[t.val]'t.isLt = dig t.val := by decide
  exact g ⟨t, h⟩
theorem Blk.grown {w w' : World} {g : Nat} {t : TypeId} {cs : Array Value} {row : Option Nat} (h : Blk w g t cs) (hb : w.grownBy w' row) (hg : some g ≠ row) : Blk w' g t cs := (hb.block g h.lt hg).trans h
theorem own_none (v : Value) : v.ownBlock = none ∨ v.ownBlock ≠ none := by
  cases v.ownBlock <;> simp

end Go.Proofs.Ytlcpbdbdiahmjaa



/- The text of a ring: FormatRing. -/
namespace Go.Proofs.Ytlcpbdbdiahmjaa
open Go.RowKit

/-- A literal slice of bytes owns its cells. -/
theorem own_literal {w : World} {base : Nat} {e : TypeId} (l : List Value) (hb : base ≤ w.heap.size) (hl : l.length ≤ maxLen) :
    (w.alloc (.cells l.toArray e)).ownsRow base e 1 (.slice (some ⟨w.heap.size, 0, none⟩) l.length l.length) l.length l :=
  ⟨by simp, .inr ⟨w.heap.size, l.length, l.toArray, rfl, hb, heap_alloc_new w _, Nat.le_refl _, hl, by simp, by simp⟩⟩
attribute [local go_sem] dig_at

theorem below_of_eq {P : Program} {f : FuncId} {args : Array Value} {w : World} {v : Value} (h : Calls P f args w fun e w' => e = .returned v ∧ w = w') : Calls P f args w fun e w' => e = .returned v ∧ Below w.heap.size w w' :=
  h.mono fun _ _ ⟨he, hw⟩ => ⟨he, by subst hw; exact Below.refl _ _⟩

end Go.Proofs.Ytlcpbdbdiahmjaa



/- Plain facts: what follows from the laws of a ring given by tables: sums, opposites, repeated sums, powers. No program in sight. -/
namespace Go.Proofs.Ytlcpbdbdiahmjaa
open Go.RowKit

/-- Tables of a ring. -/
structure RTab (m : Nat) (S P : Nat → Nat) (e : Nat) : Prop where
  hm : 1 ≤ m
  he : e < m
  sl : ∀ k, k < m * m → S k < m
  pl : ∀ k, k < m * m → P k < m
  s : OpLaw m S 0
  p : OpLaw m P e
  n : NegLaw m S
  d : DistLaw m S P
theorem rtab_of_valid {m e : Nat} {X Y : List Int} (h : validB m e X Y = true) : RTab m (tabOf X) (tabOf Y) e := by
  unfold validB at h
  rw [Bool.and_eq_true] at h
  obtain ⟨hf, hl⟩ := h
  obtain ⟨m', e', em, ee, h1, h2, h3, _, _, tX, tY⟩ := fits_data hf
  have em' : m = m' := by omega
  have ee' : e = e' := by omega
  subst em' ee'
  simp only [Int.toNat_natCast] at hl
  obtain ⟨l1, l2, l3, l4⟩ := laws_iff.1 hl
  exact ⟨h1, h3, fun k hk => (tX k hk).2, fun k hk => (tY k hk).2, l1, l2, l3, l4⟩

theorem idx_data {xs : List Int} {v : Int} {c : Nat} (h : idx xs v = c) : c < xs.length ∧ xs[c]?.getD 0 = v := by
  unfold idx at h
  split at h
  · rename_i hl
    have h1 := List.findIdx_getElem (w := hl)
    have h2 : xs[xs.findIdx (· == v)] = v := by simpa using h1
    have e : xs.findIdx (· == v) = c := by omega
    subst e
    refine ⟨hl, ?_⟩
    rw [List.getElem?_eq_getElem hl]
    exact h2
  · omega
section
variable {m e : Nat} {S P : Nat → Nat}
theorem RTab.sc (R : RTab m S P e) {a b : Nat} (ha : a < m) (hb : b < m) : S (a * m + b) < m := R.sl _ (idx_lt ha hb)
theorem RTab.pc (R : RTab m S P e) {a b : Nat} (ha : a < m) (hb : b < m) : P (a * m + b) < m := R.pl _ (idx_lt ha hb)
theorem RTab.z (R : RTab m S P e) : 0 < m := R.hm
/-- Sums and products as operations. -/
def RTab.A (R : RTab m S P e) (a b : Fin m) : Fin m := ⟨S (a.1 * m + b.1), R.sc a.2 b.2⟩
def RTab.M (R : RTab m S P e) (a b : Fin m) : Fin m := ⟨P (a.1 * m + b.1), R.pc a.2 b.2⟩
def RTab.o (R : RTab m S P e) : Fin m := ⟨e, R.he⟩
def RTab.t (R : RTab m S P e) : Fin m := ⟨0, R.hm⟩
theorem RTab.Ac (R : RTab m S P e) (a b : Fin m) : R.A a b = R.A b a := Fin.ext (R.s.comm a.2 b.2)
theorem RTab.Mc (R : RTab m S P e) (a b : Fin m) : R.M a b = R.M b a := Fin.ext (R.p.comm a.2 b.2)
theorem RTab.Aa (R : RTab m S P e) (a b c : Fin m) : R.A (R.A a b) c = R.A a (R.A b c) := Fin.ext (R.s.assoc a.2 b.2 c.2)
theorem RTab.Ma (R : RTab m S P e) (a b c : Fin m) : R.M (R.M a b) c = R.M a (R.M b c) := Fin.ext (R.p.assoc a.2 b.2 c.2)
theorem RTab.MA (R : RTab m S P e) (a b c : Fin m) : R.M a (R.A b c) = R.A (R.M a b) (R.M a c) := Fin.ext (R.d a.1 a.2 b.1 b.2 c.1 c.2)
theorem RTab.AM (R : RTab m S P e) (a b c : Fin m) : R.M (R.A a b) c = R.A (R.M a c) (R.M b c) := by rw [R.Mc, R.MA, R.Mc c a, R.Mc c b]
theorem RTab.A0 (R : RTab m S P e) (a : Fin m) : R.A a R.t = a := Fin.ext (R.s.zero a.2)
theorem RTab.Z0 (R : RTab m S P e) (a : Fin m) : R.A R.t a = a := by rw [R.Ac, R.A0]
theorem RTab.M1 (R : RTab m S P e) (a : Fin m) : R.M a R.o = a := Fin.ext (R.p.zero a.2)
theorem RTab.O1 (R : RTab m S P e) (a : Fin m) : R.M R.o a = a := by rw [R.Mc, R.M1]
theorem RTab.inj (R : RTab m S P e) {a b c : Fin m} (h : R.A a c = R.A b c) : a = b := Fin.ext (sum_inj R.s R.n c.2 a.2 b.2 (congrArg Fin.val h))
theorem RTab.injL (R : RTab m S P e) {a b c : Fin m} (h : R.A c a = R.A c b) : a = b := R.inj (c := c) (by rw [R.Ac a, R.Ac b]; exact h)
theorem RTab.M0 (R : RTab m S P e) (a : Fin m) : R.M a R.t = R.t := by
  have h := R.MA a R.t R.t
  rw [R.A0] at h
  exact (R.injL (c := R.M a R.t) (by rw [R.A0]; exact h)).symm
theorem RTab.T0 (R : RTab m S P e) (a : Fin m) : R.M R.t a = R.t := by rw [R.Mc, R.M0]
/-- The opposite. -/
theorem RTab.negEx (R : RTab m S P e) {a : Nat} (ha : a < m) : ∃ c, c < m ∧ negN m S a = c ∧ S (a * m + c) = 0 := by
  have h := R.n a ha
  have h0 : 0 ≤ negN m S a := idx_nonneg.2 h
  obtain ⟨c, hc⟩ := Int.eq_ofNat_of_zero_le h0
  obtain ⟨hc', hg⟩ := idx_data hc
  rw [rowL_length] at hc'
  rw [rowL_get hc'] at hg
  exact ⟨c, hc', hc, by omega⟩
end


section
variable {m e : Nat} {S P : Nat → Nat}
end

end Go.Proofs.Ytlcpbdbdiahmjaa



/- Plain facts: lists that part into blocks of one size; the characteristic divides the size. No program in sight. -/
namespace Go.Proofs.Ytlcpbdbdiahmjaa
open Go.RowKit

section
variable {m e : Nat} {S P : Nat → Nat}
end

end Go.Proofs.Ytlcpbdbdiahmjaa



/- Drawn laws: contracts over a ring that lies in a world. -/
namespace Go.Proofs.Ytlcpbdbdiahmjaa
open Go.RowKit
set_option maxRecDepth 100000

/-- A ring lies in a world, valid or not. -/
structure RIn (w : World) (A : Option Addr) (la ca : Nat) (B : Option Addr) (lb cb : Nat) (X Y : List Int) : Prop where
  hX : Ints w w.heap.size A la X
  hY : Ints w w.heap.size B lb Y
  hla : la ≤ 9223372036854775807
  hlb : lb ≤ 9223372036854775807
  hca : la ≤ ca
  hcb : lb ≤ cb
theorem RIn.next {w w' : World} {A B : Option Addr} {la ca lb cb : Nat} {X Y : List Int} (h : RIn w A la ca B lb cb X Y) (hb : Below w.heap.size w w') : RIn w' A la ca B lb cb X Y :=
  ⟨h.hX.next hb, h.hY.next hb, h.hla, h.hlb, h.hca, h.hcb⟩
section
variable {n o : Int} {A B : Option Addr} {la ca lb cb : Nat} {X Y : List Int} {w : World}
end

section
variable {m e : Nat} {X Y : List Int}
end

end Go.Proofs.Ytlcpbdbdiahmjaa

