
/- Kinds of elements: inverses, zero divisors, nilpotents, idempotents, by both sides. -/
import Derived.Test.YtocoegekdamlbaaB6
import Derived.Test.YtocoegekdamlbaaN1
namespace Go.Proofs.Ytocoegekdamlbaa
open Go.RowKit
set_option maxRecDepth 100000

def unitB (m : Nat) (P : Nat → Nat) (e a : Nat) : Bool := decide (0 ≤ invN m P e a)
def divB (m : Nat) (P : Nat → Nat) (a : Nat) : Bool := hasB ((rowL m P a).drop 1) 0
def nilB (m : Nat) (P : Nat → Nat) (e a : Nat) : Bool := decide (powF m P 63 e a m = 0)
def idemB (m : Nat) (P : Nat → Nat) (a : Nat) : Bool := decide (P (a * m + a) = a)
/-- An element is of a kind. -/
def kindB (m : Nat) (P : Nat → Nat) (e k a : Nat) : Bool := if k = 0 then unitB m P e a else if k = 1 then divB m P a else if k = 2 then nilB m P e a else idemB m P a
theorem mem_drop_row {m : Nat} {P : Nat → Nat} {a : Nat} : (0 : Int) ∈ (rowL m P a).drop 1 ↔ ∃ c, 1 ≤ c ∧ c < m ∧ P (a * m + c) = 0 := by
  rw [List.mem_iff_getElem?]
  constructor
  · rintro ⟨i, hi⟩
    rw [List.getElem?_drop] at hi
    have hl : 1 + i < m := by
      rcases Nat.lt_or_ge (1 + i) m with h1 | h1
      · exact h1
      · rw [List.getElem?_eq_none (by rw [rowL_length]; exact h1)] at hi; cases hi
    have := rowL_get (T := P) (a := a) hl
    rw [hi] at this
    simp at this
    exact ⟨1 + i, by omega, hl, by omega⟩
  · rintro ⟨c, h1, h2, h3⟩
    refine ⟨c - 1, ?_⟩
    rw [List.getElem?_drop, show 1 + (c - 1) = c by omega]
    have := rowL_get (T := P) (a := a) h2
    rw [List.getElem?_eq_getElem (by rw [rowL_length]; exact h2)] at this ⊢
    rw [h3] at this
    simpa using this
theorem divB_iff {m : Nat} {P : Nat → Nat} {a : Nat} : divB m P a = true ↔ ∃ c, 1 ≤ c ∧ c < m ∧ P (a * m + c) = 0 := by
  unfold divB hasB
  rw [decide_eq_true_eq]
  exact mem_drop_row

set_option maxHeartbeats 1000000 in
theorem inverse_any (a : Nat) (m e b1 o1 la ca b2 o2 lb cb : Nat) (S P : Nat → Nat) (w : World) (hr : RingAt w m e b1 o1 la ca b2 o2 lb cb S P) (ha : a < m) :
    Calls Try.prog 67 #[.agg #[.int .i64 m, .int .i64 e, .slice (some ⟨b1, o1, none⟩) la ca, .slice (some ⟨b2, o2, none⟩) lb cb], .int .i64 a] w fun e' w' => e' = .returned (.int .i64 (invN m P e a)) ∧ Below w.heap.size w w' := by
  obtain ⟨c0, c1, c2, c3, hs⟩ := box4_new w (.int .i64 m) (.int .i64 e) (.slice (some ⟨b1, o1, none⟩) la ca) (.slice (some ⟨b2, o2, none⟩) lb cb) 28
  have b0 : Below w.heap.size w (w.alloc (.cells #[.int .i64 m, .int .i64 e, .slice (some ⟨b1, o1, none⟩) la ca, .slice (some ⟨b2, o2, none⟩) lb cb] 28)) := (Below.refl _ _).alloc (Nat.le_refl _) _
  obtain ⟨W, hW⟩ : ∃ W, w.alloc (.cells #[.int .i64 m, .int .i64 e, .slice (some ⟨b1, o1, none⟩) la ca, .slice (some ⟨b2, o2, none⟩) lb cb] 28) = W := ⟨_, rfl⟩
  rw [hW] at c0 c1 c2 c3 hs b0
  have R0 := Lib.hid (hr.next b0)
  have B0 := Lib.hid b0
  have HW := Lib.hid hW
  have HL := Lib.hid hr.hlb
  have hm := hr.hm
  have hm' := hr.hm'
  have hcb := hr.hcb
  clear hr b0 hW
  go_enter Try.func67, Try.ntmps67
  go_wp2_with (fail)
  rw [HW.out]
  refine wp_region_ext (by kernel_rfl) (by kernel_rfl) ?_
  repeat (go_big_quiet_step ((first
    | (go_at_call 93; with_reducible refine calls_ext (row_any m _ _ _ _ _ _ _ b2 o2 lb cb a _ hm hm' ha HL.out hcb))
    | (go_at_call 92; with_reducible refine calls_ext ((index_any _ _ _ (rowL m P a) _ _ _ ((R0.out.ext _).tp.row ha) (by omega)).mono fun e1 w1 h => ⟨h.1, h.2 ▸ Below.refl _ _⟩)))))
  refine wpQuiet_nil ?_
  intro w2 hb2
  go_wp2
  go_ret
  exact ⟨rfl, B0.out.trans (hb2.mono (by omega))⟩

set_option maxHeartbeats 1000000 in
theorem isUnit_any (a : Nat) (m e b1 o1 la ca b2 o2 lb cb : Nat) (S P : Nat → Nat) (w : World) (hr : RingAt w m e b1 o1 la ca b2 o2 lb cb S P) (ha : a < m) :
    Calls Try.prog 98 #[.agg #[.int .i64 m, .int .i64 e, .slice (some ⟨b1, o1, none⟩) la ca, .slice (some ⟨b2, o2, none⟩) lb cb], .int .i64 a] w fun e' w' => e' = .returned (.bool (unitB m P e a)) ∧ Below w.heap.size w w' := by
  have R0 := Lib.hid (hr.next ((Below.refl _ _).alloc (Nat.le_refl _) (.cells #[.int .i64 m, .int .i64 e, .slice (some ⟨b1, o1, none⟩) la ca, .slice (some ⟨b2, o2, none⟩) lb cb] 28)))
  clear hr
  unfold unitB
  go_enter Try.func98, Try.ntmps98
  go_wp2_with (go_at_call 67; (with_reducible refine (inverse_any a m e b1 o1 la ca b2 o2 lb cb S P _ R0.out ha).mono ?_); rintro e1 w1 ⟨rfl, hb1⟩)
  go_ret
  exact ⟨rfl, ((Below.refl _ _).alloc (Nat.le_refl _) _).trans (hb1.mono (by simp))⟩

set_option maxHeartbeats 1000000 in
theorem isNilpotent_any (a : Nat) (m e b1 o1 la ca b2 o2 lb cb : Nat) (S P : Nat → Nat) (w : World) (hr : RingAt w m e b1 o1 la ca b2 o2 lb cb S P) (ha : a < m) :
    Calls Try.prog 100 #[.agg #[.int .i64 m, .int .i64 e, .slice (some ⟨b1, o1, none⟩) la ca, .slice (some ⟨b2, o2, none⟩) lb cb], .int .i64 a] w fun e' w' => e' = .returned (.bool (nilB m P e a)) ∧ Below w.heap.size w w' := by
  have R0 := Lib.hid (hr.next ((Below.refl _ _).alloc (Nat.le_refl _) (.cells #[.int .i64 m, .int .i64 e, .slice (some ⟨b1, o1, none⟩) la ca, .slice (some ⟨b2, o2, none⟩) lb cb] 28)))
  have hm' := hr.hm'
  clear hr
  unfold nilB
  by_cases h : powF m P 63 e a m = 0
  · rw [decide_eq_true h]
    have tt : (((powF m P 63 e a m : Nat) : Int) == 0) = true := by rw [beq_iff_eq]; omega
    clear h
    go_enter Try.func100, Try.ntmps100
    go_wp2_with (go_at_call 103; (with_reducible refine (power_any m a m e b1 o1 la ca b2 o2 lb cb S P _ R0.out ha (by omega)).mono ?_); rintro e1 w1 ⟨rfl, hb1⟩)
    go_ret
    exact ⟨rfl, ((Below.refl _ _).alloc (Nat.le_refl _) _).trans (hb1.mono (by simp))⟩
  · rw [decide_eq_false h]
    have tt : (((powF m P 63 e a m : Nat) : Int) == 0) = false := by rw [beq_eq_false_iff_ne]; omega
    clear h
    go_enter Try.func100, Try.ntmps100
    go_wp2_with (go_at_call 103; (with_reducible refine (power_any m a m e b1 o1 la ca b2 o2 lb cb S P _ R0.out ha (by omega)).mono ?_); rintro e1 w1 ⟨rfl, hb1⟩)
    go_ret
    exact ⟨rfl, ((Below.refl _ _).alloc (Nat.le_refl _) _).trans (hb1.mono (by simp))⟩

set_option maxHeartbeats 1000000 in
theorem isIdempotent_any (a : Nat) (m e b1 o1 la ca b2 o2 lb cb : Nat) (S P : Nat → Nat) (w : World) (hr : RingAt w m e b1 o1 la ca b2 o2 lb cb S P) (ha : a < m) :
    Calls Try.prog 101 #[.agg #[.int .i64 m, .int .i64 e, .slice (some ⟨b1, o1, none⟩) la ca, .slice (some ⟨b2, o2, none⟩) lb cb], .int .i64 a] w fun e' w' => e' = .returned (.bool (idemB m P a)) ∧ Below w.heap.size w w' := by
  have R0 := Lib.hid (hr.next ((Below.refl _ _).alloc (Nat.le_refl _) (.cells #[.int .i64 m, .int .i64 e, .slice (some ⟨b1, o1, none⟩) la ca, .slice (some ⟨b2, o2, none⟩) lb cb] 28)))
  clear hr
  unfold idemB
  by_cases h : P (a * m + a) = a
  · rw [decide_eq_true h]
    have tt : (((P (a * m + a) : Nat) : Int) == (a : Int)) = true := by rw [beq_iff_eq]; omega
    clear h
    go_enter Try.func101, Try.ntmps101
    go_wp2_with (go_at_call 74; (with_reducible refine (product_any a a m e b1 o1 la ca b2 o2 lb cb S P _ R0.out ha ha).mono ?_); rintro e1 w1 ⟨rfl, hb1⟩)
    go_ret
    exact ⟨rfl, ((Below.refl _ _).alloc (Nat.le_refl _) _).trans (hb1.mono (by simp))⟩
  · rw [decide_eq_false h]
    have tt : (((P (a * m + a) : Nat) : Int) == (a : Int)) = false := by rw [beq_eq_false_iff_ne]; omega
    clear h
    go_enter Try.func101, Try.ntmps101
    go_wp2_with (go_at_call 74; (with_reducible refine (product_any a a m e b1 o1 la ca b2 o2 lb cb S P _ R0.out ha ha).mono ?_); rintro e1 w1 ⟨rfl, hb1⟩)
    go_ret
    exact ⟨rfl, ((Below.refl _ _).alloc (Nat.le_refl _) _).trans (hb1.mono (by simp))⟩

theorem ints_drop {w : World} {B n b off : Nat} {xs : List Int} (h : Ints w B (some ⟨b, off, none⟩) n xs) (k : Nat) : Ints w B (some ⟨b, off + k, none⟩) (n - k) (xs.drop k) :=
  ⟨by simp [h.1], fun hn => by
    obtain ⟨b', off', e, hb, hc⟩ := h.2 (by omega)
    simp only [Option.some.injEq, Addr.mk.injEq, and_true] at e
    obtain ⟨rfl, rfl⟩ := e
    exact ⟨b, off + k, rfl, hb, fun j x hx => by
      rw [List.getElem?_drop] at hx
      have := hc (k + j) x hx
      rwa [← Nat.add_assoc] at this⟩⟩

theorem ints_nil {w : World} {B : Nat} {C : Option Addr} : Ints w B C 0 [] := ⟨rfl, fun h => absurd h (by omega)⟩
theorem ints_dropL {w : World} {B n b off : Nat} {xs L : List Int} (h : Ints w B (some ⟨b, off, none⟩) n xs) (hL : xs.drop 1 = L) : Ints w B (some ⟨b, off + 1, none⟩) (n - 1) L := hL ▸ ints_drop h 1

set_option maxHeartbeats 1000000 in
theorem isZeroDivisor_any (a : Nat) (m e b1 o1 la ca b2 o2 lb cb : Nat) (S P : Nat → Nat) (w : World) (hr : RingAt w m e b1 o1 la ca b2 o2 lb cb S P) (ha : a < m) :
    Calls Try.prog 99 #[.agg #[.int .i64 m, .int .i64 e, .slice (some ⟨b1, o1, none⟩) la ca, .slice (some ⟨b2, o2, none⟩) lb cb], .int .i64 a] w fun e' w' => e' = .returned (.bool (divB m P a)) ∧ Below w.heap.size w w' := by
  have R0 := Lib.hid (hr.next ((Below.refl _ _).alloc (Nat.le_refl _) (.cells #[.int .i64 m, .int .i64 e, .slice (some ⟨b1, o1, none⟩) la ca, .slice (some ⟨b2, o2, none⟩) lb cb] 28)))
  have HL := Lib.hid hr.hlb
  have hm := hr.hm
  have hm' := hr.hm'
  have hcb := hr.hcb
  clear hr
  obtain ⟨L, hL⟩ : ∃ L, (rowL m P a).drop 1 = L := ⟨_, rfl⟩
  have e0 := Lib.hid (show divB m P a = hasB L 0 by subst hL; rfl)
  have Z1 := Lib.hid (show m = 1 → L = [] by
    intro h1
    subst hL
    exact List.drop_eq_nil_of_le (by rw [rowL_length]; omega))
  have HD := Lib.hid hL
  clear hL
  go_enter Try.func99, Try.ntmps99
  go_wp2_with (first
    | (go_at_call 93; (with_reducible refine (row_any m _ _ _ _ _ _ _ b2 o2 lb cb a _ hm hm' ha HL.out hcb).mono ?_); rintro e1 w1 ⟨rfl, hb1⟩; have HR := Lib.hid (ints_dropL ((R0.out.next hb1).tp.row ha) HD.out))
    | (go_at_call 87; (with_reducible refine (contains_any _ _ _ L _ _ _ HR.out (by omega)).mono ?_); rintro e2 w2 ⟨rfl, rfl⟩)
    | (go_at_call 87; (with_reducible refine (contains_any _ _ _ [] _ _ 0 ints_nil (by omega)).mono ?_); rintro e2 w2 ⟨rfl, rfl⟩))
  · go_ret
    exact ⟨ret_bool (by rw [e0.out, Z1.out (by omega)]), ((Below.refl _ _).alloc (Nat.le_refl _) _).trans (hb1.mono (by simp))⟩
  · go_ret
    exact ⟨ret_bool e0.out.symm, ((Below.refl _ _).alloc (Nat.le_refl _) _).trans (hb1.mono (by simp))⟩

end Go.Proofs.Ytocoegekdamlbaa
