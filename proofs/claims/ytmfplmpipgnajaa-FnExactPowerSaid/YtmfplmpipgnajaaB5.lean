/- The contracts of sumOrder, multiple, power, and of the reading side's; of l1Neg. -/
import Derived.Test.YtmfplmpipgnajaaB4
import Derived.Test.YtmfplmpipgnajaaM1
namespace Go.Proofs.Ytmfplmpipgnajaa
open Go.RowKit

set_option maxHeartbeats 1000000 in
theorem sumOrder_any (a d : Nat) (m e b1 o1 la ca b2 o2 lb cb : Nat) (S P : Nat → Nat) (w : World) (hr : RingAt w m e b1 o1 la ca b2 o2 lb cb S P) (ha : a < m) (hd : IsOrd m S a d) (h1 : seqT m S a 1 = a) :
    Calls Try.prog 62 #[.agg #[.int .i64 m, .int .i64 e, .slice (some ⟨b1, o1, none⟩) la ca, .slice (some ⟨b2, o2, none⟩) lb cb], .int .i64 a] w fun e' w' => e' = .returned (.int .i64 d) ∧ Below w.heap.size w w' := by
  have hm' := hr.hm'
  have hlt : ∀ k, seqT m S a k < m := seqT_lt (fun k hk => (hr.ts.2 k hk).2) hr.hm ha
  have hd1 := hd.1
  have hd2 := hd.2.1
  have HD := Lib.hid hd
  have H1 := Lib.hid h1
  have HR := Lib.hid hr
  have HL := Lib.hid hlt
  clear hr hd h1 hlt
  go_enter Try.func62, Try.ntmps62
  go_wp2
  go_loopg [5, 6] m (fun g c s wr => ∃ k : Nat, 1 ≤ k ∧ k ≤ d ∧ m ≤ k + g ∧ c = .int .i64 k ∧ s = .int .i64 (seqT m S a k) ∧ Below (w.heap.size + 1) (w.alloc (.cells #[.int .i64 m, .int .i64 e, .slice (some ⟨b1, o1, none⟩) la ca, .slice (some ⟨b2, o2, none⟩) lb cb] 25)) wr)
  case atStart => exact ⟨1, Nat.le_refl _, hd1, by omega, rfl, by rw [H1.out], Below.refl _ _⟩
  case round =>
    obtain ⟨k, hk1, hkd, hg, rfl, rfl, hb⟩ := hrel
    obtain ⟨c0, c1, c2, c3, hs1⟩ := box4 hb
    have X1 := Lib.hid hb
    have R1 := Lib.hid (HR.out.next (below_of_box hb))
    have hl := HL.out k
    clear hb
    by_cases h0 : seqT m S a k = 0
    · have H0 := Lib.hid h0
      have t0 : (((seqT m S a k : Nat) : Int) != 0) = false := by rw [bne_eq_false_iff_eq]; omega
      have h0' : seqT m S a k ≤ 0 := by omega
      have hkk : k = d := by
        rcases Nat.lt_or_ge k d with h2 | h2
        · exact absurd h0 (HD.out.2.2.2 k hk1 h2)
        · omega
      have HK := Lib.hid hkk
      clear h0 hkk
      go_wp2
      go_ret
      exact ⟨ret_int (by rw [HK.out]), below_of_box X1.out⟩
    · have t0 : (((seqT m S a k : Nat) : Int) != 0) = true := by rw [bne_iff_ne]; omega
      have hkk : k < d := by
        rcases Nat.lt_or_ge k d with h2 | h2
        · exact h2
        · have e : k = d := by omega
          exact absurd (by rw [e]; exact HD.out.2.2.1) h0
      go_wp2_with (go_at_call 64; ((with_reducible refine (sum_any (seqT m S a k) a m e b1 o1 la ca b2 o2 lb cb S P _ R1.out hl ha).mono ?_); rintro e1 w1 ⟨rfl, hb1⟩; have X2 := Lib.hid (X1.out.trans (hb1.mono (by omega))); clear hb1))
      go_roundg (m - (k + 1))
      case measure => omega
      case rel => exact ⟨k + 1, by omega, by omega, by omega, by go_num, rfl, X2.out⟩

set_option maxHeartbeats 1000000 in
theorem l1Order_any (a d : Nat) (m e b1 o1 la ca b2 o2 lb cb : Nat) (S P : Nat → Nat) (w : World) (hr : RingAt w m e b1 o1 la ca b2 o2 lb cb S P) (ha : a < m) (hd : IsOrd m S a d) (h1 : seqT m S a 1 = a) :
    Calls Try.prog 94 #[.agg #[.int .i64 m, .int .i64 e, .slice (some ⟨b1, o1, none⟩) la ca, .slice (some ⟨b2, o2, none⟩) lb cb], .int .i64 a] w fun e' w' => e' = .returned (.int .i64 d) ∧ Below w.heap.size w w' := by
  have hm' := hr.hm'
  have hlt : ∀ k, seqT m S a k < m := seqT_lt (fun k hk => (hr.ts.2 k hk).2) hr.hm ha
  have hd1 := hd.1
  have hd2 := hd.2.1
  have HD := Lib.hid hd
  have H1 := Lib.hid h1
  have HR := Lib.hid hr
  have HL := Lib.hid hlt
  clear hr hd h1 hlt
  go_enter Try.func94, Try.ntmps94
  go_wp2
  go_loopg [5, 6] m (fun g c s wr => ∃ k : Nat, 1 ≤ k ∧ k ≤ d ∧ m ≤ k + g ∧ c = .int .i64 k ∧ s = .int .i64 (seqT m S a k) ∧ Below (w.heap.size + 1) (w.alloc (.cells #[.int .i64 m, .int .i64 e, .slice (some ⟨b1, o1, none⟩) la ca, .slice (some ⟨b2, o2, none⟩) lb cb] 25)) wr)
  case atStart => exact ⟨1, Nat.le_refl _, hd1, by omega, rfl, by rw [H1.out], Below.refl _ _⟩
  case round =>
    obtain ⟨k, hk1, hkd, hg, rfl, rfl, hb⟩ := hrel
    obtain ⟨c0, c1, c2, c3, hs1⟩ := box4 hb
    have X1 := Lib.hid hb
    have R1 := Lib.hid (HR.out.next (below_of_box hb))
    have hl := HL.out k
    clear hb
    by_cases h0 : seqT m S a k = 0
    · have H0 := Lib.hid h0
      have t0 : (((seqT m S a k : Nat) : Int) != 0) = false := by rw [bne_eq_false_iff_eq]; omega
      have h0' : seqT m S a k ≤ 0 := by omega
      have hkk : k = d := by
        rcases Nat.lt_or_ge k d with h2 | h2
        · exact absurd h0 (HD.out.2.2.2 k hk1 h2)
        · omega
      have HK := Lib.hid hkk
      clear h0 hkk
      go_wp2
      go_ret
      exact ⟨ret_int (by rw [HK.out]), below_of_box X1.out⟩
    · have t0 : (((seqT m S a k : Nat) : Int) != 0) = true := by rw [bne_iff_ne]; omega
      have hkk : k < d := by
        rcases Nat.lt_or_ge k d with h2 | h2
        · exact h2
        · have e : k = d := by omega
          exact absurd (by rw [e]; exact HD.out.2.2.1) h0
      go_wp2_with (go_at_call 59; ((with_reducible refine (l1Add_any (seqT m S a k) a m e b1 o1 la ca b2 o2 lb cb S P _ R1.out hl ha).mono ?_); rintro e1 w1 ⟨rfl, hb1⟩; have X2 := Lib.hid (X1.out.trans (hb1.mono (by omega))); clear hb1))
      go_roundg (m - (k + 1))
      case measure => omega
      case rel => exact ⟨k + 1, by omega, by omega, by omega, by go_num, rfl, X2.out⟩

end Go.Proofs.Ytmfplmpipgnajaa
