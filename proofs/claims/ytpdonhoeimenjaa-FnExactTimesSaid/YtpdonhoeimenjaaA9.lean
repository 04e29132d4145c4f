
/- The reading side's laws of one or two elements: l1Pairs. -/
import Derived.Test.YtpdonhoeimenjaaA8
namespace Go.Proofs.Ytpdonhoeimenjaa
open Go.RowKit

theorem RingAt.ext {w : World} {m e b1 o1 la ca b2 o2 lb cb : Nat} {S P : Nat → Nat} (h : RingAt w m e b1 o1 la ca b2 o2 lb cb S P) (u : Ext w) : RingAt (ext w u) m e b1 o1 la ca b2 o2 lb cb S P := h.next (ext_below w u)
theorem l1Add_zero (a : Nat) (m e b1 o1 la ca b2 o2 lb cb : Nat) (S P : Nat → Nat) (w : World) (hr : RingAt w m e b1 o1 la ca b2 o2 lb cb S P) (ha : a < m) :
    Calls Try.prog 81 #[.agg #[.int .i64 m, .int .i64 e, .slice (some ⟨b1, o1, none⟩) la ca, .slice (some ⟨b2, o2, none⟩) lb cb], .int .i64 a, .int .i64 0] w fun e' w' => e' = .returned (.int .i64 (S (a * m))) ∧ Below w.heap.size w w' := by
  have := l1Add_any a 0 m e b1 o1 la ca b2 o2 lb cb S P w hr ha (by have := hr.hm; omega)
  exact this

def Sym2 (m : Nat) (S P : Nat → Nat) (a b : Nat) : Prop := S (a * m + b) = S (b * m + a) ∧ P (a * m + b) = P (b * m + a)
def SymTo (m : Nat) (S P : Nat → Nat) (a k : Nat) : Prop := ∀ b, b < k → Sym2 m S P a b
def hit (m : Nat) (S : Nat → Nat) (a k : Nat) : Bool := decide (∃ j, j < k ∧ S (a * m + j) = 0)
theorem hit_zero {m : Nat} {S : Nat → Nat} {a : Nat} : hit m S a 0 = false := decide_eq_false (by rintro ⟨j, hj, _⟩; omega)
theorem hit_yes {m : Nat} {S : Nat → Nat} {a k : Nat} (h : hit m S a k = true) : hit m S a (k + 1) = true := by
  obtain ⟨j, hj, h0⟩ := of_decide_eq_true h
  exact decide_eq_true ⟨j, by omega, h0⟩
theorem hit_no {m : Nat} {S : Nat → Nat} {a k : Nat} (h : hit m S a k = false) : hit m S a (k + 1) = (((S (a * m + k) : Nat) : Int) == 0) := by
  have h1 := of_decide_eq_false h
  by_cases h0 : S (a * m + k) = 0
  · rw [show (((S (a * m + k) : Nat) : Int) == 0) = true by rw [beq_iff_eq]; omega]
    exact decide_eq_true ⟨k, by omega, h0⟩
  · rw [show (((S (a * m + k) : Nat) : Int) == 0) = false by rw [beq_eq_false_iff_ne]; omega]
    refine decide_eq_false ?_
    rintro ⟨j, hj, g⟩
    rcases Nat.lt_succ_iff_lt_or_eq.1 hj with h2 | rfl
    · exact h1 ⟨j, h2, g⟩
    · exact h0 g
def PairRow (m e : Nat) (S P : Nat → Nat) (a : Nat) : Prop := SymTo m S P a m ∧ hit m S a m = true ∧ S (a * m) = a ∧ P (a * m + e) = a
def PairTo (m e : Nat) (S P : Nat → Nat) (k : Nat) : Prop := ∀ a, a < k → PairRow m e S P a
noncomputable def pairB (m e : Nat) (S P : Nat → Nat) : Bool := propB (PairTo m e S P m)

set_option maxHeartbeats 4000000 in
theorem l1Pairs_any (m e b1 o1 la ca b2 o2 lb cb : Nat) (S P : Nat → Nat) (w : World) (hr : RingAt w m e b1 o1 la ca b2 o2 lb cb S P) :
    Calls Try.prog 80 #[.agg #[.int .i64 m, .int .i64 e, .slice (some ⟨b1, o1, none⟩) la ca, .slice (some ⟨b2, o2, none⟩) lb cb]] w fun e' w' => e' = .returned (.bool (pairB m e S P)) ∧ Below w.heap.size w w' := by
  have hm := hr.hm
  have hm' := hr.hm'
  have he := hr.he
  have HR := Lib.hid hr
  clear hr
  go_enter Try.func80, Try.ntmps80
  go_wp2
  go_loopg [8] m (fun g i wr => ∃ a : Nat, a ≤ m ∧ m ≤ a + g ∧ i = .int .i64 a ∧ PairTo m e S P a ∧ Below (w.heap.size + 1) (w.alloc (.cells #[.int .i64 m, .int .i64 e, .slice (some ⟨b1, o1, none⟩) la ca, .slice (some ⟨b2, o2, none⟩) lb cb] 25)) wr)
  case atStart => exact ⟨0, Nat.zero_le _, by omega, rfl, fun j hj => absurd hj (by omega), Below.refl _ _⟩
  case round =>
    obtain ⟨a, ha, hg, rfl, hup, hb⟩ := hrel
    have HU := Lib.hid hup
    obtain ⟨d0, d1, d2, d3, hs1⟩ := box4 hb
    have X1 := Lib.hid hb
    have R1 := Lib.hid (HR.out.next (below_of_box hb))
    clear hup hb
    by_cases hlt : a < m
    · obtain ⟨w0, rfl⟩ : ∃ w0 : World, w0 = wr := ⟨_, rfl⟩
      go_wp2
      obtain ⟨g1, hg1⟩ : ∃ g1 : Nat, g1 = gk := ⟨_, rfl⟩
      go_loopg [4, 13] m (fun g h i wr2 => ∃ c : Nat, c ≤ m ∧ m ≤ c + g ∧ h = .bool (hit m S a c) ∧ i = .int .i64 c ∧ SymTo m S P a c ∧ Below w0.heap.size w0 wr2)
      case atStart => exact ⟨0, Nat.zero_le _, by omega, by rw [hit_zero], rfl, fun j hj => absurd hj (by omega), Below.refl _ _⟩
      case round =>
        obtain ⟨c, hcm, hgc, rfl, rfl, hup2, hb2⟩ := hrel
        obtain ⟨f0, f1, f2, f3, hs2⟩ := box4_next hb2 hs1 d0 d1 d2 d3
        have X2 := Lib.hid hb2
        have R2 := Lib.hid (R1.out.next hb2)
        have HU2 := Lib.hid hup2
        clear hb2 hup2
        by_cases hlt2 : c < m
        · by_cases hS : S (a * m + c) = S (c * m + a)
          · by_cases hP : P (a * m + c) = P (c * m + a)
            · have HSP := Lib.hid (show Sym2 m S P a c from ⟨hS, hP⟩)
              have tS : (((S (a * m + c) : Nat) : Int) != ((S (c * m + a) : Nat) : Int)) = false := by rw [bne_eq_false_iff_eq]; omega
              have tP : (((P (a * m + c) : Nat) : Int) != ((P (c * m + a) : Nat) : Int)) = false := by rw [bne_eq_false_iff_eq]; omega
              have hS1 : S (a * m + c) ≤ S (c * m + a) := by omega
              have hS2 : S (c * m + a) ≤ S (a * m + c) := by omega
              have hP1 : P (a * m + c) ≤ P (c * m + a) := by omega
              have hP2 : P (c * m + a) ≤ P (a * m + c) := by omega
              clear hS hP
              go_wp2
              refine wp_region_ext (by kernel_rfl) (by kernel_rfl) ?_
              repeat (go_big_quiet_step (((first
                | (go_at_call 81; ((with_reducible refine calls_ext (l1Add_any a c m e b1 o1 la ca b2 o2 lb cb S P _ (R2.out.ext _) hlt hlt2))))
                | (go_at_call 81; ((with_reducible refine calls_ext (l1Add_any c a m e b1 o1 la ca b2 o2 lb cb S P _ (R2.out.ext _) hlt2 hlt))))
                | (go_at_call 82; ((with_reducible refine calls_ext (l1Mul_any a c m e b1 o1 la ca b2 o2 lb cb S P _ (R2.out.ext _) hlt hlt2))))
                | (go_at_call 82; ((with_reducible refine calls_ext (l1Mul_any c a m e b1 o1 la ca b2 o2 lb cb S P _ (R2.out.ext _) hlt2 hlt))))))))
              refine wpQuiet_nil ?_
              intro w3 hb3
              obtain ⟨k0, k1, k2, k3, hs3⟩ := box4_next hb3 (by omega) (w1 := w3) f0 f1 f2 f3
              have X3 := Lib.hid (X2.out.trans (hb3.mono (by omega)))
              have R3 := Lib.hid (R2.out.next hb3)
              clear hb3
              cases hh : hit m S a c
              · have HH := Lib.hid hh
                clear hh
                go_wp2_with (go_at_call 81; ((with_reducible refine (l1Add_any a c m e b1 o1 la ca b2 o2 lb cb S P _ R3.out hlt hlt2).mono ?_); rintro e4 w4 ⟨rfl, hb4⟩; have X4 := Lib.hid (X3.out.trans (hb4.mono (by omega))); clear hb4))
                go_roundg (m - (c + 1))
                case measure => omega
                case rel => exact ⟨c + 1, by omega, by omega, by rw [hit_no HH.out], by go_num, forall_succ HU2.out HSP.out, X4.out⟩
              · have HH := Lib.hid hh
                clear hh
                go_wp2
                go_roundg (m - (c + 1))
                case measure => omega
                case rel => exact ⟨c + 1, by omega, by omega, by rw [hit_yes HH.out], by go_num, forall_succ HU2.out HSP.out, X3.out⟩
            · have tS : (((S (a * m + c) : Nat) : Int) != ((S (c * m + a) : Nat) : Int)) = false := by rw [bne_eq_false_iff_eq]; omega
              have tP : (((P (a * m + c) : Nat) : Int) != ((P (c * m + a) : Nat) : Int)) = true := by rw [bne_iff_ne]; omega
              have hS1 : S (a * m + c) ≤ S (c * m + a) := by omega
              have hS2 : S (c * m + a) ≤ S (a * m + c) := by omega
              clear hS
              go_wp2
              refine wp_region_ext (by kernel_rfl) (by kernel_rfl) ?_
              repeat (go_big_quiet_step (((first
                | (go_at_call 81; ((with_reducible refine calls_ext (l1Add_any a c m e b1 o1 la ca b2 o2 lb cb S P _ (R2.out.ext _) hlt hlt2))))
                | (go_at_call 81; ((with_reducible refine calls_ext (l1Add_any c a m e b1 o1 la ca b2 o2 lb cb S P _ (R2.out.ext _) hlt2 hlt))))
                | (go_at_call 82; ((with_reducible refine calls_ext (l1Mul_any a c m e b1 o1 la ca b2 o2 lb cb S P _ (R2.out.ext _) hlt hlt2))))
                | (go_at_call 82; ((with_reducible refine calls_ext (l1Mul_any c a m e b1 o1 la ca b2 o2 lb cb S P _ (R2.out.ext _) hlt2 hlt))))))))
              refine wpQuiet_nil ?_
              intro w3 hb3
              obtain ⟨k0, k1, k2, k3, hs3⟩ := box4_next hb3 (by omega) (w1 := w3) f0 f1 f2 f3
              have X3 := Lib.hid (X2.out.trans (hb3.mono (by omega)))
              have R3 := Lib.hid (R2.out.next hb3)
              clear hb3
              go_wp2
              go_ret
              exact ⟨ret_bool (propB_false fun g => hP ((g a hlt).1 c hlt2).2).symm, (below_of_box X1.out).trans (X3.out.mono (by omega))⟩
          · have tS : (((S (a * m + c) : Nat) : Int) != ((S (c * m + a) : Nat) : Int)) = true := by rw [bne_iff_ne]; omega
            go_wp2
            refine wp_region_ext (by kernel_rfl) (by kernel_rfl) ?_
            repeat (go_big_quiet_step (((first
              | (go_at_call 81; ((with_reducible refine calls_ext (l1Add_any a c m e b1 o1 la ca b2 o2 lb cb S P _ (R2.out.ext _) hlt hlt2))))
              | (go_at_call 81; ((with_reducible refine calls_ext (l1Add_any c a m e b1 o1 la ca b2 o2 lb cb S P _ (R2.out.ext _) hlt2 hlt))))
              | (go_at_call 82; ((with_reducible refine calls_ext (l1Mul_any a c m e b1 o1 la ca b2 o2 lb cb S P _ (R2.out.ext _) hlt hlt2))))
              | (go_at_call 82; ((with_reducible refine calls_ext (l1Mul_any c a m e b1 o1 la ca b2 o2 lb cb S P _ (R2.out.ext _) hlt2 hlt))))))))
            refine wpQuiet_nil ?_
            intro w3 hb3
            obtain ⟨k0, k1, k2, k3, hs3⟩ := box4_next hb3 (by omega) (w1 := w3) f0 f1 f2 f3
            have X3 := Lib.hid (X2.out.trans (hb3.mono (by omega)))
            have R3 := Lib.hid (R2.out.next hb3)
            clear hb3
            go_wp2
            go_ret
            exact ⟨ret_bool (propB_false fun g => hS ((g a hlt).1 c hlt2).1).symm, (below_of_box X1.out).trans (X3.out.mono (by omega))⟩
        · have hcm' : hit m S a c = hit m S a m := by rw [show c = m by omega]
          have HC := Lib.hid hcm'
          clear hcm'
          cases hh : hit m S a c
          · have HH := Lib.hid hh
            clear hh
            go_wp2
            go_ret
            exact ⟨ret_bool (propB_false fun g => by have := (g a hlt).2.1; rw [← HC.out, HH.out] at this; cases this).symm, (below_of_box X1.out).trans (X2.out.mono (by omega))⟩
          · have HH := Lib.hid hh
            clear hh
            by_cases hz : S (a * m) = a
            · by_cases ho : P (a * m + e) = a
              · have HZ := Lib.hid hz
                have HO := Lib.hid ho
                have z1 : S (a * m) ≤ a := by omega
                have z2 : a ≤ S (a * m) := by omega
                have z3 : P (a * m + e) ≤ a := by omega
                have z4 : a ≤ P (a * m + e) := by omega
                have tz : (((S (a * m) : Nat) : Int) != (a : Int)) = false := by rw [bne_eq_false_iff_eq]; omega
                have to' : (((P (a * m + e) : Nat) : Int) != (a : Int)) = false := by rw [bne_eq_false_iff_eq]; omega
                clear hz ho
                go_wp2_with (first | (go_at_call 81; ((with_reducible refine (l1Add_zero a m e b1 o1 la ca b2 o2 lb cb S P _ R2.out hlt).mono ?_); rintro e4 w4 ⟨rfl, hb4⟩; obtain ⟨k0, k1, k2, k3, hs3⟩ := box4_next hb4 (by omega) f0 f1 f2 f3; have X4 := Lib.hid (X2.out.trans (hb4.mono (by omega))); have R4 := Lib.hid (R2.out.next hb4); clear hb4)) | (go_at_call 82; ((with_reducible refine (l1Mul_any a e m e b1 o1 la ca b2 o2 lb cb S P _ R4.out hlt he).mono ?_); rintro e5 w5 ⟨rfl, hb5⟩; have X5 := Lib.hid (X4.out.trans (hb5.mono (by omega))); clear hb5)))
                go_roundg (m - (a + 1))
                case measure => omega
                case rel => exact ⟨a + 1, by omega, by omega, by go_num, forall_succ HU.out ⟨fun j hj => HU2.out j (by omega), HC.out.symm.trans HH.out, HZ.out, HO.out⟩, X1.out.trans (X5.out.mono (by omega))⟩
              · have z1 : S (a * m) ≤ a := by omega
                have z2 : a ≤ S (a * m) := by omega
                have tz : (((S (a * m) : Nat) : Int) != (a : Int)) = false := by rw [bne_eq_false_iff_eq]; omega
                have to' : (((P (a * m + e) : Nat) : Int) != (a : Int)) = true := by rw [bne_iff_ne]; omega
                clear hz
                go_wp2_with (first | (go_at_call 81; ((with_reducible refine (l1Add_zero a m e b1 o1 la ca b2 o2 lb cb S P _ R2.out hlt).mono ?_); rintro e4 w4 ⟨rfl, hb4⟩; obtain ⟨k0, k1, k2, k3, hs3⟩ := box4_next hb4 (by omega) f0 f1 f2 f3; have X4 := Lib.hid (X2.out.trans (hb4.mono (by omega))); have R4 := Lib.hid (R2.out.next hb4); clear hb4)) | (go_at_call 82; ((with_reducible refine (l1Mul_any a e m e b1 o1 la ca b2 o2 lb cb S P _ R4.out hlt he).mono ?_); rintro e5 w5 ⟨rfl, hb5⟩; have X5 := Lib.hid (X4.out.trans (hb5.mono (by omega))); clear hb5)))
                go_ret
                exact ⟨ret_bool (propB_false fun g => ho (g a hlt).2.2.2).symm, (below_of_box X1.out).trans (X5.out.mono (by omega))⟩
            · have tz : (((S (a * m) : Nat) : Int) != (a : Int)) = true := by rw [bne_iff_ne]; omega
              go_wp2_with (first | (go_at_call 81; ((with_reducible refine (l1Add_zero a m e b1 o1 la ca b2 o2 lb cb S P _ R2.out hlt).mono ?_); rintro e4 w4 ⟨rfl, hb4⟩; obtain ⟨k0, k1, k2, k3, hs3⟩ := box4_next hb4 (by omega) f0 f1 f2 f3; have X4 := Lib.hid (X2.out.trans (hb4.mono (by omega))); have R4 := Lib.hid (R2.out.next hb4); clear hb4)))
              go_ret
              exact ⟨ret_bool (propB_false fun g => hz (g a hlt).2.2.1).symm, (below_of_box X1.out).trans (X4.out.mono (by omega))⟩
    · go_wp2
      go_ret
      exact ⟨ret_bool (propB_true fun j hj => HU.out j (by omega)).symm, below_of_box X1.out⟩

end Go.Proofs.Ytpdonhoeimenjaa
