
/- The contracts of multiple and power, of both sides, and of l1Neg. -/
import Derived.Test.YtpdonhoeimenjaaB5
namespace Go.Proofs.Ytpdonhoeimenjaa
open Go.RowKit

/-- How many times: the remainder by the order, for a number below 0 too. -/
def cntN (n : Int) (d : Nat) : Nat := ((n.tmod d + d) % d).toNat
theorem cnt_facts {n : Int} {d : Nat} (hd : 1 ≤ d) : -(d : Int) < n.tmod d ∧ n.tmod d < d ∧ 0 ≤ n.tmod d + d ∧ (n.tmod d + d) % d = (cntN n d : Int) ∧ cntN n d < d := by
  have h1 : n.tmod d < d := Int.tmod_lt_of_pos _ (by omega)
  have h2 : -(d : Int) < n.tmod d := by
    have := Int.tmod_lt_of_pos (-n) (show (0 : Int) < d by omega)
    rw [Int.neg_tmod] at this
    omega
  have h3 : 0 ≤ (n.tmod d + d) % d := Int.emod_nonneg _ (by omega)
  have h4 : (n.tmod d + d) % d < d := Int.emod_lt_of_pos _ (by omega)
  unfold cntN
  refine ⟨h2, h1, by omega, by omega, by omega⟩

set_option maxHeartbeats 1000000 in
theorem multiple_any (n : Int) (a d : Nat) (m e b1 o1 la ca b2 o2 lb cb : Nat) (S P : Nat → Nat) (w : World) (hr : RingAt w m e b1 o1 la ca b2 o2 lb cb S P) (ha : a < m) (hd : IsOrd m S a d) (h1 : seqT m S a 1 = a) :
    Calls Try.prog 92 #[.agg #[.int .i64 m, .int .i64 e, .slice (some ⟨b1, o1, none⟩) la ca, .slice (some ⟨b2, o2, none⟩) lb cb], .int .i64 n, .int .i64 a] w fun e' w' => e' = .returned (.int .i64 (seqT m S a (cntN n d))) ∧ Below w.heap.size w w' := by
  have hm' := hr.hm'
  have hlt : ∀ k, seqT m S a k < m := seqT_lt (fun k hk => (hr.ts.2 k hk).2) hr.hm ha
  have hd1 := hd.1
  have hd2 := hd.2.1
  obtain ⟨t1, t2, t3, t4, t5⟩ := cnt_facts (n := n) hd1
  have HD := Lib.hid hd
  have H1 := Lib.hid h1
  have HL := Lib.hid hlt
  have HC := Lib.hid t4
  have b0 : Below w.heap.size w (w.alloc (.cells #[.int .i64 m, .int .i64 e, .slice (some ⟨b1, o1, none⟩) la ca, .slice (some ⟨b2, o2, none⟩) lb cb] 25)) := (Below.refl _ _).alloc (Nat.le_refl _) _
  have R0 := Lib.hid (hr.next b0)
  have hz : seqT m S a 0 = 0 := rfl
  have HZ := Lib.hid hz
  clear hr hd h1 hlt t4 b0 hz
  go_enter Try.func92, Try.ntmps92
  go_wp2_with (fail)
  refine (sumOrder_any a d m e b1 o1 la ca b2 o2 lb cb S P _ R0.out ha HD.out H1.out).mono ?_
  rintro e1 w1 ⟨rfl, hb1⟩
  obtain ⟨c0, c1, c2, c3, hs1⟩ := box4_next hb1 (by simp) (box4_new _ _ _ _ _ _).1 (box4_new _ _ _ _ _ _).2.1 (box4_new _ _ _ _ _ _).2.2.1 (box4_new _ _ _ _ _ _).2.2.2.1
  have X1 := Lib.hid (show Below (w.heap.size + 1) (w.alloc (.cells #[.int .i64 m, .int .i64 e, .slice (some ⟨b1, o1, none⟩) la ca, .slice (some ⟨b2, o2, none⟩) lb cb] 25)) w1 by simpa using hb1)
  have R1 := Lib.hid (R0.out.next hb1)
  have hs1' : w.heap.size < w1.heap.size := by simp at hs1; omega
  clear hb1 hs1
  go_wp2
  rw [HC.out]
  go_loopg [9, 21] m (fun g s i wr => ∃ k : Nat, k ≤ cntN n d ∧ m ≤ k + g ∧ i = .int .i64 k ∧ s = .int .i64 (seqT m S a k) ∧ Below w1.heap.size w1 wr)
  case atStart => exact ⟨0, Nat.zero_le _, by omega, rfl, by rw [HZ.out]; rfl, Below.refl _ _⟩
  case round =>
    obtain ⟨k, hkc, hg, rfl, rfl, hb⟩ := hrel
    obtain ⟨f0, f1, f2, f3, hs2⟩ := box4_next hb hs1' c0 c1 c2 c3
    have X2 := Lib.hid (X1.out.trans (hb.mono (by omega)))
    have B2 := Lib.hid hb
    have R2 := Lib.hid (R1.out.next hb)
    have hl := HL.out k
    clear hb
    by_cases hlt : k < cntN n d
    · go_wp2_with (go_at_call 86; ((with_reducible refine (sum_any (seqT m S a k) a m e b1 o1 la ca b2 o2 lb cb S P _ R2.out hl ha).mono ?_); rintro e1 w3 ⟨rfl, hb3⟩; have B3 := Lib.hid (B2.out.trans (hb3.mono hs2)); clear hb3))
      go_roundg (m - (k + 1))
      case measure => omega
      case rel => exact ⟨k + 1, by omega, by omega, by go_num, rfl, B3.out⟩
    · have hkk : k = cntN n d := by omega
      have HK := Lib.hid hkk
      clear hkk
      go_wp2
      go_ret
      exact ⟨ret_int (by rw [HK.out]), below_of_box X2.out⟩

set_option maxHeartbeats 1000000 in
theorem l1Times_any (n : Int) (a d : Nat) (m e b1 o1 la ca b2 o2 lb cb : Nat) (S P : Nat → Nat) (w : World) (hr : RingAt w m e b1 o1 la ca b2 o2 lb cb S P) (ha : a < m) (hd : IsOrd m S a d) (h1 : seqT m S a 1 = a) :
    Calls Try.prog 95 #[.agg #[.int .i64 m, .int .i64 e, .slice (some ⟨b1, o1, none⟩) la ca, .slice (some ⟨b2, o2, none⟩) lb cb], .int .i64 n, .int .i64 a] w fun e' w' => e' = .returned (.int .i64 (seqT m S a (cntN n d))) ∧ Below w.heap.size w w' := by
  have hm' := hr.hm'
  have hlt : ∀ k, seqT m S a k < m := seqT_lt (fun k hk => (hr.ts.2 k hk).2) hr.hm ha
  have hd1 := hd.1
  have hd2 := hd.2.1
  obtain ⟨t1, t2, t3, t4, t5⟩ := cnt_facts (n := n) hd1
  have HD := Lib.hid hd
  have H1 := Lib.hid h1
  have HL := Lib.hid hlt
  have HC := Lib.hid t4
  have b0 : Below w.heap.size w (w.alloc (.cells #[.int .i64 m, .int .i64 e, .slice (some ⟨b1, o1, none⟩) la ca, .slice (some ⟨b2, o2, none⟩) lb cb] 25)) := (Below.refl _ _).alloc (Nat.le_refl _) _
  have R0 := Lib.hid (hr.next b0)
  have hz : seqT m S a 0 = 0 := rfl
  have HZ := Lib.hid hz
  clear hr hd h1 hlt t4 b0 hz
  go_enter Try.func95, Try.ntmps95
  go_wp2_with (fail)
  refine (l1Order_any a d m e b1 o1 la ca b2 o2 lb cb S P _ R0.out ha HD.out H1.out).mono ?_
  rintro e1 w1 ⟨rfl, hb1⟩
  obtain ⟨c0, c1, c2, c3, hs1⟩ := box4_next hb1 (by simp) (box4_new _ _ _ _ _ _).1 (box4_new _ _ _ _ _ _).2.1 (box4_new _ _ _ _ _ _).2.2.1 (box4_new _ _ _ _ _ _).2.2.2.1
  have X1 := Lib.hid (show Below (w.heap.size + 1) (w.alloc (.cells #[.int .i64 m, .int .i64 e, .slice (some ⟨b1, o1, none⟩) la ca, .slice (some ⟨b2, o2, none⟩) lb cb] 25)) w1 by simpa using hb1)
  have R1 := Lib.hid (R0.out.next hb1)
  have hs1' : w.heap.size < w1.heap.size := by simp at hs1; omega
  clear hb1 hs1
  go_wp2
  rw [HC.out]
  go_loopg [8, 19] m (fun g s i wr => ∃ k : Nat, k ≤ cntN n d ∧ m ≤ k + g ∧ i = .int .i64 k ∧ s = .int .i64 (seqT m S a k) ∧ Below w1.heap.size w1 wr)
  case atStart => exact ⟨0, Nat.zero_le _, by omega, rfl, by rw [HZ.out]; rfl, Below.refl _ _⟩
  case round =>
    obtain ⟨k, hkc, hg, rfl, rfl, hb⟩ := hrel
    obtain ⟨f0, f1, f2, f3, hs2⟩ := box4_next hb hs1' c0 c1 c2 c3
    have X2 := Lib.hid (X1.out.trans (hb.mono (by omega)))
    have B2 := Lib.hid hb
    have R2 := Lib.hid (R1.out.next hb)
    have hl := HL.out k
    clear hb
    by_cases hlt : k < cntN n d
    · go_wp2_with (go_at_call 81; ((with_reducible refine (l1Add_any (seqT m S a k) a m e b1 o1 la ca b2 o2 lb cb S P _ R2.out hl ha).mono ?_); rintro e1 w3 ⟨rfl, hb3⟩; have B3 := Lib.hid (B2.out.trans (hb3.mono hs2)); clear hb3))
      go_roundg (m - (k + 1))
      case measure => omega
      case rel => exact ⟨k + 1, by omega, by omega, by go_num, rfl, B3.out⟩
    · have hkk : k = cntN n d := by omega
      have HK := Lib.hid hkk
      clear hkk
      go_wp2
      go_ret
      exact ⟨ret_int (by rw [HK.out]), below_of_box X2.out⟩

set_option maxHeartbeats 1000000 in
theorem power_any (n a : Nat) (m e b1 o1 la ca b2 o2 lb cb : Nat) (S P : Nat → Nat) (w : World) (hr : RingAt w m e b1 o1 la ca b2 o2 lb cb S P) (ha : a < m) (hn2 : n ≤ 9223372036854775807) :
    Calls Try.prog 96 #[.agg #[.int .i64 m, .int .i64 e, .slice (some ⟨b1, o1, none⟩) la ca, .slice (some ⟨b2, o2, none⟩) lb cb], .int .i64 a, .int .i64 n] w fun e' w' => e' = .returned (.int .i64 (powF m P 63 e a n)) ∧ Below w.heap.size w w' := by
  have he := hr.he
  have HR := Lib.hid hr
  have HP := Lib.hid (show ∀ k, k < m * m → P k < m from fun k hk => (hr.tp.2 k hk).2)
  clear hr
  go_enter Try.func96, Try.ntmps96
  go_wp2
  go_loopg [2, 7, 8] 63 (fun g vn vr vs wr => ∃ f r s k : Nat, r < m ∧ s < m ∧ k < 2 ^ f ∧ k ≤ 9223372036854775807 ∧ f ≤ g ∧ vr = .int .i64 r ∧ vs = .int .i64 s ∧ vn = .int .i64 k ∧ powF m P f r s k = powF m P 63 e a n ∧ Below (w.heap.size + 1) (w.alloc (.cells #[.int .i64 m, .int .i64 e, .slice (some ⟨b1, o1, none⟩) la ca, .slice (some ⟨b2, o2, none⟩) lb cb] 25)) wr)
  case atStart => exact ⟨63, e, a, n, he, ha, by omega, hn2, Nat.le_refl _, rfl, rfl, rfl, rfl, Below.refl _ _⟩
  case round =>
    obtain ⟨f, r, s, k, hr1, hs1, hkf, hk2, hg, rfl, rfl, rfl, heq, hb⟩ := hrel
    obtain ⟨c0, c1, c2, c3, hsz⟩ := box4 hb
    have X1 := Lib.hid hb
    have R1 := Lib.hid (HR.out.next (below_of_box hb))
    have HE := Lib.hid heq
    clear hb heq
    have hps := HP.out _ (idx_lt hs1 hs1)
    have hpr := HP.out _ (idx_lt hr1 hs1)
    by_cases h0 : k = 0
    · subst h0
      go_wp2
      go_ret
      exact ⟨ret_int (by rw [← HE.out, powF_zero]), below_of_box X1.out⟩
    · obtain ⟨f', hf'⟩ : ∃ f', f = f' + 1 := ⟨f - 1, by
        rcases f with _ | f
        · simp at hkf; omega
        · rfl⟩
      subst hf'
      have hkf' : k / 2 < 2 ^ f' := by rw [Nat.pow_succ] at hkf; omega
      have HF := Lib.hid hkf'
      have hfl : f' + 1 ≤ gk := by omega
      clear hkf hkf' hg
      have hk0 : 0 < k := by omega
      by_cases ho : k % 2 = 1
      · have to' : (((k : Int) % 2) == 1) = true := by rw [beq_iff_eq]; omega
        have HO := Lib.hid ho
        clear ho
        go_wp2_with (first
          | (go_at_call 87; ((with_reducible refine (product_any r s m e b1 o1 la ca b2 o2 lb cb S P _ R1.out hr1 hs1).mono ?_); rintro e1 w1 ⟨rfl, hb1⟩; obtain ⟨d0, d1, d2, d3, hs2⟩ := box4_next hb1 hsz c0 c1 c2 c3; have X2 := Lib.hid (X1.out.trans (hb1.mono (by omega))); have R2 := Lib.hid (R1.out.next hb1); clear hb1))
          | (go_at_call 87; ((with_reducible refine (product_any s s m e b1 o1 la ca b2 o2 lb cb S P _ R2.out hs1 hs1).mono ?_); rintro e2 w2 ⟨rfl, hb2⟩; have X3 := Lib.hid (X2.out.trans (hb2.mono (by omega))); clear hb2)))
        go_roundg f'
        case measure => omega
        case rel => exact ⟨f', _, _, k / 2, hpr, hps, HF.out, by omega, by omega, rfl, rfl, by go_num, by rw [← HE.out, powF_odd HO.out], X3.out⟩
      · have to' : (((k : Int) % 2) == 1) = false := by rw [beq_eq_false_iff_ne]; omega
        have HO := Lib.hid ho
        clear ho
        go_wp2_with (first
          | (go_at_call 87; ((with_reducible refine (product_any s s m e b1 o1 la ca b2 o2 lb cb S P _ R1.out hs1 hs1).mono ?_); rintro e2 w2 ⟨rfl, hb2⟩; have X3 := Lib.hid (X1.out.trans (hb2.mono (by omega))); clear hb2)))
        go_roundg f'
        case measure => omega
        case rel => exact ⟨f', _, _, k / 2, hr1, hps, HF.out, by omega, by omega, rfl, rfl, by go_num, by rw [← HE.out, powF_even HO.out (by omega)], X3.out⟩

set_option maxHeartbeats 1000000 in
theorem l1Power_any (n a : Nat) (m e b1 o1 la ca b2 o2 lb cb : Nat) (S P : Nat → Nat) (w : World) (hr : RingAt w m e b1 o1 la ca b2 o2 lb cb S P) (ha : a < m) (hn2 : n ≤ 9223372036854775807) :
    Calls Try.prog 97 #[.agg #[.int .i64 m, .int .i64 e, .slice (some ⟨b1, o1, none⟩) la ca, .slice (some ⟨b2, o2, none⟩) lb cb], .int .i64 a, .int .i64 n] w fun e' w' => e' = .returned (.int .i64 (powF m P 63 e a n)) ∧ Below w.heap.size w w' := by
  have he := hr.he
  have HR := Lib.hid hr
  have HP := Lib.hid (show ∀ k, k < m * m → P k < m from fun k hk => (hr.tp.2 k hk).2)
  clear hr
  go_enter Try.func97, Try.ntmps97
  go_wp2
  go_loopg [1, 2, 7] 63 (fun g vs vn vr wr => ∃ f r s k : Nat, r < m ∧ s < m ∧ k < 2 ^ f ∧ k ≤ 9223372036854775807 ∧ f ≤ g ∧ vr = .int .i64 r ∧ vs = .int .i64 s ∧ vn = .int .i64 k ∧ powF m P f r s k = powF m P 63 e a n ∧ Below (w.heap.size + 1) (w.alloc (.cells #[.int .i64 m, .int .i64 e, .slice (some ⟨b1, o1, none⟩) la ca, .slice (some ⟨b2, o2, none⟩) lb cb] 25)) wr)
  case atStart => exact ⟨63, e, a, n, he, ha, by omega, hn2, Nat.le_refl _, rfl, rfl, rfl, rfl, Below.refl _ _⟩
  case round =>
    obtain ⟨f, r, s, k, hr1, hs1, hkf, hk2, hg, rfl, rfl, rfl, heq, hb⟩ := hrel
    obtain ⟨c0, c1, c2, c3, hsz⟩ := box4 hb
    have X1 := Lib.hid hb
    have R1 := Lib.hid (HR.out.next (below_of_box hb))
    have HE := Lib.hid heq
    clear hb heq
    have hps := HP.out _ (idx_lt hs1 hs1)
    have hpr := HP.out _ (idx_lt hr1 hs1)
    by_cases h0 : k = 0
    · subst h0
      go_wp2
      go_ret
      exact ⟨ret_int (by rw [← HE.out, powF_zero]), below_of_box X1.out⟩
    · obtain ⟨f', hf'⟩ : ∃ f', f = f' + 1 := ⟨f - 1, by
        rcases f with _ | f
        · simp at hkf; omega
        · rfl⟩
      subst hf'
      have hkf' : k / 2 < 2 ^ f' := by rw [Nat.pow_succ] at hkf; omega
      have HF := Lib.hid hkf'
      have hfl : f' + 1 ≤ gk := by omega
      clear hkf hkf' hg
      have hk0 : 0 < k := by omega
      by_cases ho : k % 2 = 1
      · have to' : (((k : Int) % 2) == 1) = true := by rw [beq_iff_eq]; omega
        have HO := Lib.hid ho
        clear ho
        go_wp2_with (first
          | (go_at_call 82; ((with_reducible refine (l1Mul_any r s m e b1 o1 la ca b2 o2 lb cb S P _ R1.out hr1 hs1).mono ?_); rintro e1 w1 ⟨rfl, hb1⟩; obtain ⟨d0, d1, d2, d3, hs2⟩ := box4_next hb1 hsz c0 c1 c2 c3; have X2 := Lib.hid (X1.out.trans (hb1.mono (by omega))); have R2 := Lib.hid (R1.out.next hb1); clear hb1))
          | (go_at_call 82; ((with_reducible refine (l1Mul_any s s m e b1 o1 la ca b2 o2 lb cb S P _ R2.out hs1 hs1).mono ?_); rintro e2 w2 ⟨rfl, hb2⟩; have X3 := Lib.hid (X2.out.trans (hb2.mono (by omega))); clear hb2)))
        go_roundg f'
        case measure => omega
        case rel => exact ⟨f', _, _, k / 2, hpr, hps, HF.out, by omega, by omega, rfl, rfl, by go_num, by rw [← HE.out, powF_odd HO.out], X3.out⟩
      · have to' : (((k : Int) % 2) == 1) = false := by rw [beq_eq_false_iff_ne]; omega
        have HO := Lib.hid ho
        clear ho
        go_wp2_with (first
          | (go_at_call 82; ((with_reducible refine (l1Mul_any s s m e b1 o1 la ca b2 o2 lb cb S P _ R1.out hs1 hs1).mono ?_); rintro e2 w2 ⟨rfl, hb2⟩; have X3 := Lib.hid (X1.out.trans (hb2.mono (by omega))); clear hb2)))
        go_roundg f'
        case measure => omega
        case rel => exact ⟨f', _, _, k / 2, hr1, hps, HF.out, by omega, by omega, rfl, rfl, by go_num, by rw [← HE.out, powF_even HO.out (by omega)], X3.out⟩

end Go.Proofs.Ytpdonhoeimenjaa
