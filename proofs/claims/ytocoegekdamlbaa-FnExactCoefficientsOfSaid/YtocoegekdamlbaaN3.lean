
/- Kinds of elements of the reading side: l3Inverse, l3Divides, l3Is. -/
import Derived.Test.YtocoegekdamlbaaN2
namespace Go.Proofs.Ytocoegekdamlbaa
open Go.RowKit
set_option maxRecDepth 100000

set_option maxHeartbeats 1000000 in
theorem l3Inverse_any (a : Nat) (m e b1 o1 la ca b2 o2 lb cb : Nat) (S P : Nat → Nat) (w : World) (hr : RingAt w m e b1 o1 la ca b2 o2 lb cb S P) (ha : a < m) :
    Calls Try.prog 64 #[.agg #[.int .i64 m, .int .i64 e, .slice (some ⟨b1, o1, none⟩) la ca, .slice (some ⟨b2, o2, none⟩) lb cb], .int .i64 a] w fun e' w' => e' = .returned (.int .i64 (invN m P e a)) ∧ Below w.heap.size w w' := by
  have hm := hr.hm
  have hm' := hr.hm'
  have HR := Lib.hid hr
  clear hr
  go_enter Try.func64, Try.ntmps64
  go_wp2
  go_loopg [8] m (fun g i wr => ∃ k : Nat, k ≤ m ∧ m ≤ k + g ∧ i = .int .i64 k ∧ Misses (rowL m P a) e k ∧ Below (w.heap.size + 1) (w.alloc (.cells #[.int .i64 m, .int .i64 e, .slice (some ⟨b1, o1, none⟩) la ca, .slice (some ⟨b2, o2, none⟩) lb cb] 28)) wr)
  case atStart => exact ⟨0, Nat.zero_le _, by omega, rfl, fun j hj => absurd hj (by omega), Below.refl _ _⟩
  case round =>
    obtain ⟨k, hk, hg, rfl, hup, hb⟩ := hrel
    have HU := Lib.hid hup
    obtain ⟨d0, d1, d2, d3, hs1⟩ := box4 hb
    have X1 := Lib.hid hb
    have R1 := Lib.hid (HR.out.next (below_of_box hb))
    clear hup hb
    by_cases hlt : k < m
    · by_cases h0 : P (a * m + k) = e
      · have H0 := Lib.hid h0
        have t0 : (((P (a * m + k) : Nat) : Int) == (e : Int)) = true := by rw [beq_iff_eq]; omega
        clear h0
        go_wp2
        refine wp_region_ext (by kernel_rfl) (by kernel_rfl) ?_
        repeat (go_big_quiet_step (((go_at_call 70; ((with_reducible refine calls_ext (l1Mul_any a k m e b1 o1 la ca b2 o2 lb cb S P _ (R1.out.ext _) ha hlt)))))))
        refine wpQuiet_nil ?_
        intro w2 hb2
        have X2 := Lib.hid (X1.out.trans (hb2.mono (by omega)))
        clear hb2
        go_wp2
        go_ret
        refine ⟨ret_int ?_, below_of_box X2.out⟩
        unfold invN
        exact (idx_hit (by rw [rowL_length]; exact hlt) (by rw [rowL_get hlt, H0.out]) HU.out).symm
      · have H0 := Lib.hid h0
        have t0 : (((P (a * m + k) : Nat) : Int) == (e : Int)) = false := by rw [beq_eq_false_iff_ne]; omega
        clear h0
        go_wp2
        refine wp_region_ext (by kernel_rfl) (by kernel_rfl) ?_
        repeat (go_big_quiet_step (((go_at_call 70; ((with_reducible refine calls_ext (l1Mul_any a k m e b1 o1 la ca b2 o2 lb cb S P _ (R1.out.ext _) ha hlt)))))))
        refine wpQuiet_nil ?_
        intro w2 hb2
        have X2 := Lib.hid (X1.out.trans (hb2.mono (by omega)))
        clear hb2
        go_wp2
        go_roundg (m - (k + 1))
        case measure => omega
        case rel => exact ⟨k + 1, by omega, by omega, by go_num, forall_succ HU.out (by rw [rowL_get hlt]; exact fun h => H0.out (by omega)), X2.out⟩
    · go_wp2
      go_ret
      refine ⟨ret_int ?_, below_of_box X1.out⟩
      unfold invN
      exact (idx_miss fun j hj => HU.out j (by rw [rowL_length] at hj; omega)).symm

set_option maxHeartbeats 1000000 in
theorem l3Divides_any (a : Nat) (m e b1 o1 la ca b2 o2 lb cb : Nat) (S P : Nat → Nat) (w : World) (hr : RingAt w m e b1 o1 la ca b2 o2 lb cb S P) (ha : a < m) :
    Calls Try.prog 96 #[.agg #[.int .i64 m, .int .i64 e, .slice (some ⟨b1, o1, none⟩) la ca, .slice (some ⟨b2, o2, none⟩) lb cb], .int .i64 a] w fun e' w' => e' = .returned (.bool (divB m P a)) ∧ Below w.heap.size w w' := by
  have hm := hr.hm
  have hm' := hr.hm'
  have HR := Lib.hid hr
  clear hr
  go_enter Try.func96, Try.ntmps96
  go_wp2
  go_loopg [5] m (fun g i wr => ∃ k : Nat, 1 ≤ k ∧ k ≤ m ∧ m ≤ k + g ∧ i = .int .i64 k ∧ (∀ c, 1 ≤ c → c < k → P (a * m + c) ≠ 0) ∧ Below (w.heap.size + 1) (w.alloc (.cells #[.int .i64 m, .int .i64 e, .slice (some ⟨b1, o1, none⟩) la ca, .slice (some ⟨b2, o2, none⟩) lb cb] 28)) wr)
  case atStart => exact ⟨1, Nat.le_refl _, hm, by omega, rfl, fun c h1 h2 => absurd h1 (by omega), Below.refl _ _⟩
  case round =>
    obtain ⟨k, hk1, hk, hg, rfl, hup, hb⟩ := hrel
    have HU := Lib.hid hup
    obtain ⟨d0, d1, d2, d3, hs1⟩ := box4 hb
    have X1 := Lib.hid hb
    have R1 := Lib.hid (HR.out.next (below_of_box hb))
    clear hup hb
    by_cases hlt : k < m
    · by_cases h0 : P (a * m + k) = 0
      · have H0 := Lib.hid h0
        have t0 : (((P (a * m + k) : Nat) : Int) == 0) = true := by rw [beq_iff_eq]; omega
        clear h0
        go_wp2_with (go_at_call 70; ((with_reducible refine (l1Mul_any a k m e b1 o1 la ca b2 o2 lb cb S P _ R1.out ha hlt).mono ?_); rintro e1 w1 ⟨rfl, hb1⟩; have X2 := Lib.hid (X1.out.trans (hb1.mono (by omega))); clear hb1))
        go_ret
        exact ⟨ret_bool (divB_iff.2 ⟨k, hk1, hlt, H0.out⟩).symm, below_of_box X2.out⟩
      · have H0 := Lib.hid h0
        have t0 : (((P (a * m + k) : Nat) : Int) == 0) = false := by rw [beq_eq_false_iff_ne]; omega
        clear h0
        go_wp2_with (go_at_call 70; ((with_reducible refine (l1Mul_any a k m e b1 o1 la ca b2 o2 lb cb S P _ R1.out ha hlt).mono ?_); rintro e1 w1 ⟨rfl, hb1⟩; have X2 := Lib.hid (X1.out.trans (hb1.mono (by omega))); clear hb1))
        go_roundg (m - (k + 1))
        case measure => omega
        case rel => exact ⟨k + 1, by omega, by omega, by omega, by go_num, fun c h1 h2 => (by
          rcases Nat.lt_succ_iff_lt_or_eq.1 h2 with h3 | rfl
          · exact HU.out c h1 h3
          · exact H0.out), X2.out⟩
    · go_wp2
      go_ret
      refine ⟨ret_bool ?_, below_of_box X1.out⟩
      cases hd : divB m P a
      · rfl
      · obtain ⟨c, h1, h2, h3⟩ := divB_iff.1 hd
        exact absurd h3 (HU.out c h1 (by omega))

set_option maxHeartbeats 2000000 in
theorem l3Is_any (a k : Nat) (m e b1 o1 la ca b2 o2 lb cb : Nat) (S P : Nat → Nat) (w : World) (hr : RingAt w m e b1 o1 la ca b2 o2 lb cb S P) (ha : a < m) (hk : k ≤ 3) :
    Calls Try.prog 80 #[.agg #[.int .i64 m, .int .i64 e, .slice (some ⟨b1, o1, none⟩) la ca, .slice (some ⟨b2, o2, none⟩) lb cb], .int .i64 a, .int .i64 k] w fun e' w' => e' = .returned (.bool (kindB m P e k a)) ∧ Below w.heap.size w w' := by
  have R0 := Lib.hid (hr.next ((Below.refl _ _).alloc (Nat.le_refl _) (.cells #[.int .i64 m, .int .i64 e, .slice (some ⟨b1, o1, none⟩) la ca, .slice (some ⟨b2, o2, none⟩) lb cb] 28)))
  have hm' := hr.hm'
  clear hr
  rcases (show k = 0 ∨ k = 1 ∨ k = 2 ∨ k = 3 by omega) with rfl | rfl | rfl | rfl
  · rw [show kindB m P e 0 a = decide (0 ≤ invN m P e a) from rfl]
    go_enter Try.func80, Try.ntmps80
    go_wp2_with (go_at_call 64; (with_reducible refine (l3Inverse_any a m e b1 o1 la ca b2 o2 lb cb S P _ R0.out ha).mono ?_); rintro e1 w1 ⟨rfl, hb1⟩)
    go_ret
    exact ⟨rfl, ((Below.refl _ _).alloc (Nat.le_refl _) _).trans (hb1.mono (by simp))⟩
  · rw [show kindB m P e 1 a = divB m P a from rfl]
    go_enter Try.func80, Try.ntmps80
    go_wp2_with (go_at_call 96; (with_reducible refine (l3Divides_any a m e b1 o1 la ca b2 o2 lb cb S P _ R0.out ha).mono ?_); rintro e1 w1 ⟨rfl, hb1⟩)
    go_ret
    exact ⟨rfl, ((Below.refl _ _).alloc (Nat.le_refl _) _).trans (hb1.mono (by simp))⟩
  · rw [show kindB m P e 2 a = decide (powF m P 63 e a m = 0) from rfl]
    by_cases h : powF m P 63 e a m = 0
    · rw [decide_eq_true h]
      have tt : (((powF m P 63 e a m : Nat) : Int) == 0) = true := by rw [beq_iff_eq]; omega
      clear h
      go_enter Try.func80, Try.ntmps80
      go_wp2_with (go_at_call 97; (with_reducible refine (l1Power_any m a m e b1 o1 la ca b2 o2 lb cb S P _ R0.out ha (by omega)).mono ?_); rintro e1 w1 ⟨rfl, hb1⟩)
      go_ret
      exact ⟨rfl, ((Below.refl _ _).alloc (Nat.le_refl _) _).trans (hb1.mono (by simp))⟩
    · rw [decide_eq_false h]
      have tt : (((powF m P 63 e a m : Nat) : Int) == 0) = false := by rw [beq_eq_false_iff_ne]; omega
      clear h
      go_enter Try.func80, Try.ntmps80
      go_wp2_with (go_at_call 97; (with_reducible refine (l1Power_any m a m e b1 o1 la ca b2 o2 lb cb S P _ R0.out ha (by omega)).mono ?_); rintro e1 w1 ⟨rfl, hb1⟩)
      go_ret
      exact ⟨rfl, ((Below.refl _ _).alloc (Nat.le_refl _) _).trans (hb1.mono (by simp))⟩
  · rw [show kindB m P e 3 a = decide (P (a * m + a) = a) from rfl]
    by_cases h : P (a * m + a) = a
    · rw [decide_eq_true h]
      have tt : (((P (a * m + a) : Nat) : Int) == (a : Int)) = true := by rw [beq_iff_eq]; omega
      clear h
      go_enter Try.func80, Try.ntmps80
      go_wp2_with (go_at_call 70; (with_reducible refine (l1Mul_any a a m e b1 o1 la ca b2 o2 lb cb S P _ R0.out ha ha).mono ?_); rintro e1 w1 ⟨rfl, hb1⟩)
      go_ret
      exact ⟨rfl, ((Below.refl _ _).alloc (Nat.le_refl _) _).trans (hb1.mono (by simp))⟩
    · rw [decide_eq_false h]
      have tt : (((P (a * m + a) : Nat) : Int) == (a : Int)) = false := by rw [beq_eq_false_iff_ne]; omega
      clear h
      go_enter Try.func80, Try.ntmps80
      go_wp2_with (go_at_call 70; (with_reducible refine (l1Mul_any a a m e b1 o1 la ca b2 o2 lb cb S P _ R0.out ha ha).mono ?_); rintro e1 w1 ⟨rfl, hb1⟩)
      go_ret
      exact ⟨rfl, ((Below.refl _ _).alloc (Nat.le_refl _) _).trans (hb1.mono (by simp))⟩

end Go.Proofs.Ytocoegekdamlbaa
