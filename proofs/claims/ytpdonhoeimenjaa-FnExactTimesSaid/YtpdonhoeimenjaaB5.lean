
/- The contracts of sumOrder, multiple, power, and of the reading side's; of l1Neg. -/
import Derived.Test.YtpdonhoeimenjaaB4
import Derived.Test.YtpdonhoeimenjaaM1
import Derived.Test.YtpdonhoeimenjaaN1
namespace Go.Proofs.Ytpdonhoeimenjaa
open Go.RowKit

set_option maxHeartbeats 1000000 in
/-- The least number of times that an element gives z in a table. -/
theorem order_any (zi : Int) (z a d : Nat) (hzi : zi = z) (b off len cap : Nat) (T : Nat → Nat) (m e b1 o1 la ca b2 o2 lb cb : Nat) (S P : Nat → Nat) (w : World) (hr : RingAt w m e b1 o1 la ca b2 o2 lb cb S P) (hT : Tab w w.heap.size b off m T) (hlen : len = m * m) (hcap : len ≤ cap) (ha : a < m) (hz : z < m) (hd : IsOrdZ m T z a d) (h1 : seqZ m T z a 1 = a) :
    Calls Try.prog 132 #[.agg #[.int .i64 m, .int .i64 e, .slice (some ⟨b1, o1, none⟩) la ca, .slice (some ⟨b2, o2, none⟩) lb cb], .slice (some ⟨b, off, none⟩) len cap, .int .i64 zi, .int .i64 a] w fun e' w' => e' = .returned (.int .i64 d) ∧ Below w.heap.size w w' := by
  have hm := hr.hm
  have hm' := hr.hm'
  have hlt : ∀ k, seqZ m T z a k < m := seqZ_lt (fun k hk => (hT.2 k hk).2) hz ha
  have hd1 := hd.1
  have hd2 := hd.2.1
  have HD := Lib.hid hd
  have H1 := Lib.hid h1
  have HL := Lib.hid hlt
  have HT := Lib.hid hT
  have HN := Lib.hid hlen
  have HZ := Lib.hid hzi
  clear hr hd h1 hlt hT hlen hzi
  go_enter Try.func132, Try.ntmps132
  go_wp2
  go_loopg [9, 10] m (fun g c s wr => ∃ k : Nat, 1 ≤ k ∧ k ≤ d ∧ m ≤ k + g ∧ c = .int .i64 k ∧ s = .int .i64 (seqZ m T z a k) ∧ Below (w.heap.size + 1) (w.alloc (.cells #[.int .i64 m, .int .i64 e, .slice (some ⟨b1, o1, none⟩) la ca, .slice (some ⟨b2, o2, none⟩) lb cb] 25)) wr)
  case atStart => exact ⟨1, Nat.le_refl _, hd1, by omega, rfl, by rw [H1.out], Below.refl _ _⟩
  case round =>
    obtain ⟨k, hk1, hkd, hg, rfl, rfl, hb⟩ := hrel
    obtain ⟨c0, c1, c2, c3, hs1⟩ := box4 hb
    have X1 := Lib.hid hb
    have T1 := Lib.hid (HT.out.next (below_of_box hb))
    have hl := HL.out k
    clear hb
    by_cases h0 : seqZ m T z a k = z
    · have H0 := Lib.hid h0
      have t0 : (((seqZ m T z a k : Nat) : Int) != zi) = false := by rw [bne_eq_false_iff_eq, HZ.out]; omega
      have hkk : k = d := by
        rcases Nat.lt_or_ge k d with h2 | h2
        · exact absurd h0 (HD.out.2.2.2 k hk1 h2)
        · omega
      have HK := Lib.hid hkk
      clear h0 hkk
      go_wp2
      go_ret
      exact ⟨ret_int (by rw [HK.out]), below_of_box X1.out⟩
    · have t0 : (((seqZ m T z a k : Nat) : Int) != zi) = true := by rw [bne_iff_ne, HZ.out]; omega
      have hkk : k < d := by
        rcases Nat.lt_or_ge k d with h2 | h2
        · exact h2
        · have e : k = d := by omega
          exact absurd (by rw [e]; exact HD.out.2.2.1) h0
      clear h0
      go_wp2_with (go_at_call 139; (with_reducible refine (row_any m _ _ _ _ _ _ _ b off len cap _ _ hm hm' hl HN.out hcap).mono ?_); rintro e1 w1 ⟨rfl, hb1⟩; have hc := (T1.out.next hb1).at_ hl ha; have X2 := Lib.hid (X1.out.trans (hb1.mono (by omega))); clear hb1)
      go_roundg (m - (k + 1))
      case measure => omega
      case rel => exact ⟨k + 1, by omega, by omega, by omega, by go_num, rfl, X2.out⟩

set_option maxHeartbeats 1000000 in
theorem sumOrder_any (a d : Nat) (m e b1 o1 la ca b2 o2 lb cb : Nat) (S P : Nat → Nat) (w : World) (hr : RingAt w m e b1 o1 la ca b2 o2 lb cb S P) (ha : a < m) (hd : IsOrd m S a d) (h1 : seqT m S a 1 = a) :
    Calls Try.prog 84 #[.agg #[.int .i64 m, .int .i64 e, .slice (some ⟨b1, o1, none⟩) la ca, .slice (some ⟨b2, o2, none⟩) lb cb], .int .i64 a] w fun e' w' => e' = .returned (.int .i64 d) ∧ Below w.heap.size w w' := by
  have HD := Lib.hid (isOrd_z hd)
  have H1 := Lib.hid (show seqZ m S 0 a 1 = a by rw [seqZ_T]; exact h1)
  have hm0 : 0 < m := hr.hm
  have b0 : Below w.heap.size w (w.alloc (.cells #[.int .i64 m, .int .i64 e, .slice (some ⟨b1, o1, none⟩) la ca, .slice (some ⟨b2, o2, none⟩) lb cb] 25)) := (Below.refl _ _).alloc (Nat.le_refl _) _
  have R0 := Lib.hid (hr.next b0)
  clear hr hd h1 b0
  go_enter Try.func84, Try.ntmps84
  go_wp2_with (go_at_call 132; (with_reducible refine (order_any 0 0 a d rfl b1 o1 la ca S m e b1 o1 la ca b2 o2 lb cb S P _ R0.out R0.out.ts R0.out.hla R0.out.hca ha hm0 HD.out H1.out).mono ?_); rintro e1 w1 ⟨rfl, hb1⟩)
  go_ret
  exact ⟨rfl, ((Below.refl _ _).alloc (Nat.le_refl _) _).trans (hb1.mono (by simp))⟩

set_option maxHeartbeats 1000000 in
theorem l1Order_any (a d : Nat) (m e b1 o1 la ca b2 o2 lb cb : Nat) (S P : Nat → Nat) (w : World) (hr : RingAt w m e b1 o1 la ca b2 o2 lb cb S P) (ha : a < m) (hd : IsOrd m S a d) (h1 : seqT m S a 1 = a) :
    Calls Try.prog 137 #[.agg #[.int .i64 m, .int .i64 e, .slice (some ⟨b1, o1, none⟩) la ca, .slice (some ⟨b2, o2, none⟩) lb cb], .int .i64 a] w fun e' w' => e' = .returned (.int .i64 d) ∧ Below w.heap.size w w' := by
  have hm' := hr.hm'
  have hlt : ∀ k, seqT m S a k < m := seqT_lt (fun k hk => (hr.ts.2 k hk).2) hr.hm ha
  have hd1 := hd.1
  have hd2 := hd.2.1
  have HD := Lib.hid hd
  have H1 := Lib.hid h1
  have HR := Lib.hid hr
  have HL := Lib.hid hlt
  clear hr hd h1 hlt
  go_enter Try.func137, Try.ntmps137
  go_wp2
  go_loopg [5, 6] m (fun g c s wr => ∃ k : Nat, 1 ≤ k ∧ k ≤ d ∧ m ≤ k + g ∧ c = .int .i64 k ∧ s = .int .i64 (seqT m S a k) ∧ Below (w.heap.size + 1) (w.alloc (.cells #[.int .i64 m, .int .i64 e, .slice (some ⟨b1, o1, none⟩) la ca, .slice (some ⟨b2, o2, none⟩) lb cb] 25)) wr)
  case atStart => exact ⟨1, Nat.le_refl _, hd1, by omega, rfl, by rw [H1.out], Below.refl _ _⟩
  case round =>
    obtain ⟨k, hk1, hkd, hg, rfl, rfl, hb⟩ := hrel
    obtain ⟨c0, c1, c2, c3, hs1⟩ := box4 hb
    have X1 := Lib.hid hb
    have R1 := Lib.hid (HR.out.next (below_of_box hb))
    have hl := HL.out k
    clear hb
    by_cases h0 : seqT m S a k = 0
    · have H0 := Lib.hid h0
      have t0 : (((seqT m S a k : Nat) : Int) != 0) = false := by rw [bne_eq_false_iff_eq]; omega
      have h0' : seqT m S a k ≤ 0 := by omega
      have hkk : k = d := by
        rcases Nat.lt_or_ge k d with h2 | h2
        · exact absurd h0 (HD.out.2.2.2 k hk1 h2)
        · omega
      have HK := Lib.hid hkk
      clear h0 hkk
      go_wp2
      go_ret
      exact ⟨ret_int (by rw [HK.out]), below_of_box X1.out⟩
    · have t0 : (((seqT m S a k : Nat) : Int) != 0) = true := by rw [bne_iff_ne]; omega
      have hkk : k < d := by
        rcases Nat.lt_or_ge k d with h2 | h2
        · exact h2
        · have e : k = d := by omega
          exact absurd (by rw [e]; exact HD.out.2.2.1) h0
      go_wp2_with (go_at_call 81; ((with_reducible refine (l1Add_any (seqT m S a k) a m e b1 o1 la ca b2 o2 lb cb S P _ R1.out hl ha).mono ?_); rintro e1 w1 ⟨rfl, hb1⟩; have X2 := Lib.hid (X1.out.trans (hb1.mono (by omega))); clear hb1))
      go_roundg (m - (k + 1))
      case measure => omega
      case rel => exact ⟨k + 1, by omega, by omega, by omega, by go_num, rfl, X2.out⟩

end Go.Proofs.Ytpdonhoeimenjaa
