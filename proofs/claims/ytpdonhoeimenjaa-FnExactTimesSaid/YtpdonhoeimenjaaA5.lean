
/- The contract of distributes: each product with a sum is the sum of the products. -/
import Derived.Test.YtpdonhoeimenjaaA4
namespace Go.Proofs.Ytpdonhoeimenjaa
open Go.RowKit

def Dist3 (m : Nat) (S P : Nat → Nat) (a b c : Nat) : Prop := P (a * m + S (b * m + c)) = S (P (a * m + b) * m + P (a * m + c))
def Dist2 (m : Nat) (S P : Nat → Nat) (a b : Nat) : Prop := ∀ c, c < m → Dist3 m S P a b c
def Dist1 (m : Nat) (S P : Nat → Nat) (a : Nat) : Prop := ∀ b, b < m → Dist2 m S P a b
def DistLaw (m : Nat) (S P : Nat → Nat) : Prop := ∀ a, a < m → Dist1 m S P a
def DTo1 (m : Nat) (S P : Nat → Nat) (k : Nat) : Prop := ∀ a, a < k → Dist1 m S P a
def DTo2 (m : Nat) (S P : Nat → Nat) (a k : Nat) : Prop := ∀ b, b < k → Dist2 m S P a b
def DTo3 (m : Nat) (S P : Nat → Nat) (a b k : Nat) : Prop := ∀ c, c < k → Dist3 m S P a b c
noncomputable def distB (m : Nat) (S P : Nat → Nat) : Bool := propB (DistLaw m S P)

set_option maxHeartbeats 1000000 in
theorem distributes_any (m : Nat) (o : Int) (b1 off1 len1 cap1 b2 off2 len2 cap2 : Nat) (S P : Nat → Nat) (w : World) (hm : 1 ≤ m) (hm' : m ≤ 16) (hl1 : len1 = m * m) (hl2 : len2 = m * m) (hc1 : len1 ≤ cap1) (hc2 : len2 ≤ cap2)
    (hS : Tab w w.heap.size b1 off1 m S) (hP : Tab w w.heap.size b2 off2 m P) :
    Calls Try.prog 78 #[.agg #[.int .i64 m, .int .i64 o, .slice (some ⟨b1, off1, none⟩) len1 cap1, .slice (some ⟨b2, off2, none⟩) len2 cap2]] w fun e' w' =>
      e' = .returned (.bool (distB m S P)) ∧ Below w.heap.size w w' := by
  have HS := Lib.hid hS
  have HP := Lib.hid hP
  have HL1 := Lib.hid hl1
  have HL2 := Lib.hid hl2
  clear hS hP hl1 hl2
  go_enter Try.func78, Try.ntmps78
  go_wp2
  go_step3
  go_wp2
  go_step3
  go_wp2
  obtain ⟨c0, c1, c2, c3, hs⟩ := box4_new w (.int .i64 m) (.int .i64 o) (.slice (some ⟨b1, off1, none⟩) len1 cap1) (.slice (some ⟨b2, off2, none⟩) len2 cap2) 25
  obtain ⟨W, hW⟩ : ∃ W, w.alloc (.cells #[.int .i64 m, .int .i64 o, .slice (some ⟨b1, off1, none⟩) len1 cap1, .slice (some ⟨b2, off2, none⟩) len2 cap2] 25) = W := ⟨_, rfl⟩
  have hbw : Below w.heap.size w W := by
    subst hW
    exact (Below.refl w.heap.size w).alloc (Nat.le_refl _) _
  have HS0 := Lib.hid (HS.out.below hbw (Nat.le_refl _))
  have HP0 := Lib.hid (HP.out.below hbw (Nat.le_refl _))
  rw [hW] at c0 c1 c2 c3 hs ⊢
  have HB := Lib.hid hbw
  clear hW hbw
  go_loopg [3, 12] m (fun g h i wr => ∃ a : Nat, a ≤ m ∧ m ≤ a + g ∧ h = .bool true ∧ i = .int .i64 a ∧ DTo1 m S P a ∧ Below (w.heap.size + 1) W wr)
  case atStart => exact ⟨0, Nat.zero_le _, by omega, rfl, rfl, fun j hj => absurd hj (by omega), Below.refl _ _⟩
  case round =>
    obtain ⟨a, ha, hg, rfl, rfl, hup, hb⟩ := hrel
    have HU := Lib.hid hup
    obtain ⟨d0, d1, d2, d3, hs1⟩ := box4_next hb (Nat.lt_succ_self _) c0 c1 c2 c3
    have HB1 := Lib.hid hb
    clear hb hup
    by_cases hlt : a < m
    · go_wp2_with (go_at_call 139; refine (row_any _ _ _ _ _ _ _ _ _ _ _ _ _ _ hm hm' hlt HL2.out hc2).mono ?_; rintro e1 w1 ⟨rfl, hb1⟩; obtain ⟨f0, f1, f2, f3, hs2⟩ := box4_next hb1 (Nat.lt_of_lt_of_le hs hs1) d0 d1 d2 d3)
      have HB2 := Lib.hid (HB1.out.trans (hb1.mono (by omega)))
      clear hb1
      obtain ⟨g1, hg1⟩ : ∃ g1 : Nat, g1 = gk := ⟨_, rfl⟩
      go_loopg [3, 22] m (fun g h i wr => ∃ c : Nat, c ≤ m ∧ m ≤ c + g ∧ h = .bool true ∧ i = .int .i64 c ∧ DTo2 m S P a c ∧ Below w1.heap.size w1 wr)
      case atStart => exact ⟨0, Nat.zero_le _, by omega, rfl, rfl, fun j hj => absurd hj (by omega), Below.refl _ _⟩
      case round =>
        obtain ⟨c, hcm, hgc, rfl, rfl, hup2, hb2⟩ := hrel
        obtain ⟨k0, k1, k2, k3, hs3⟩ := box4_next hb2 (Nat.lt_of_lt_of_le (Nat.lt_of_lt_of_le hs hs1) hs2) f0 f1 f2 f3
        have HB3 := Lib.hid (HB2.out.trans (hb2.mono (by omega)))
        have HU2 := Lib.hid hup2
        have HB32 := Lib.hid hb2
        clear hb2 hup2
        by_cases hlt2 : c < m
        · have hT1 : P (a * m + c) < m := HP.out.lt hlt hlt2
          go_wp2_with (go_at_call 139; refine (row_any _ _ _ _ _ _ _ _ _ _ _ _ _ _ hm hm' hlt2 HL1.out hc1).mono ?_; rintro e2 w2 ⟨rfl, hb3⟩; obtain ⟨l0, l1, l2, l3, hs4⟩ := box4_next hb3 (by omega) k0 k1 k2 k3; have ht1 := ((HP0.out.below HB3.out (by omega)).below hb3 (by omega)).at_ hlt hlt2)
          have HB4 := Lib.hid (HB3.out.trans (hb3.mono (by omega)))
          have HB42 := Lib.hid (HB32.out.trans (hb3.mono (by omega)))
          clear hb3
          refine wp_region_ext (by kernel_rfl) (by kernel_rfl) ?_
          repeat (go_big_quiet_step ((go_at_call 139; refine calls_ext (row_any _ _ _ _ _ _ _ _ _ _ _ _ _ _ hm hm' hT1 HL1.out hc1))))
          refine wpQuiet_nil ?_
          intro w3 hb4
          obtain ⟨p0, p1, p2, p3, hs5⟩ := box4_next hb4 (by omega) (w1 := w3) l0 l1 l2 l3
          have HB5 := Lib.hid (HB4.out.trans (hb4.mono (by omega)))
          have HB52 := Lib.hid (HB42.out.trans (hb4.mono (by omega)))
          clear ht1 hb4
          go_wp2
          obtain ⟨g2, hg2⟩ : ∃ g2 : Nat, g2 = gk := ⟨_, rfl⟩
          go_loopg [3, 40] m (fun g h i wr => ∃ d : Nat, d ≤ m ∧ m ≤ d + g ∧ h = .bool true ∧ i = .int .i64 d ∧ DTo3 m S P a c d ∧ Below w3.heap.size w3 wr)
          case atStart => exact ⟨0, Nat.zero_le _, by omega, rfl, rfl, fun j hj => absurd hj (by omega), Below.refl _ _⟩
          case round =>
            obtain ⟨d, hdm, hgd, rfl, rfl, hup3, hb5⟩ := hrel
            have HB6 := Lib.hid (HB5.out.trans (hb5.mono (by omega)))
            have HB62 := Lib.hid (HB52.out.trans (hb5.mono (by omega)))
            have HU3 := Lib.hid hup3
            have HB7 := Lib.hid hb5
            clear hb5 hup3
            by_cases hlt3 : d < m
            · have hT2 : S (c * m + d) < m := HS.out.lt hlt2 hlt3
              have hT3 : P (a * m + d) < m := HP.out.lt hlt hlt3
              have u1 := ((HS0.out.below HB6.out (by omega))).at_ hlt2 hlt3
              have u2 := ((HP0.out.below HB6.out (by omega))).at_ hlt hT2
              have u3 := ((HP0.out.below HB6.out (by omega))).at_ hlt hlt3
              have u4 := ((HS0.out.below HB6.out (by omega))).at_ hT1 hT3
              by_cases h3 : P (a * m + S (c * m + d)) = S (P (a * m + c) * m + P (a * m + d))
              · have H3 := Lib.hid h3
                have h3a : P (a * m + S (c * m + d)) ≤ S (P (a * m + c) * m + P (a * m + d)) := by omega
                have h3b : S (P (a * m + c) * m + P (a * m + d)) ≤ P (a * m + S (c * m + d)) := by omega
                clear h3
                go_wp2
                go_quiet (fail)
                go_wp2
                go_roundg (m - (d + 1))
                case measure => omega
                case rel => exact ⟨d + 1, by omega, by omega, rfl, by go_num, forall_succ HU3.out H3.out, below_drewN HB7.out _⟩
              · go_wp2
                go_quiet (fail)
                go_wp2
                rw [Exit.noGoto_ret]
                go_ret
                exact ⟨ret_bool (propB_false fun g => h3 (g a hlt c hlt2 d hlt3)).symm, below_drewN (HB.out.trans (HB6.out.mono (by omega))) _⟩
            · go_wp2
              go_roundg (m - (c + 1))
              case measure => omega
              case rel => exact ⟨c + 1, by omega, by omega, rfl, by go_num, forall_succ HU2.out (fun j hj => HU3.out j (by omega)), HB62.out⟩
        · go_wp2
          go_roundg (m - (a + 1))
          case measure => omega
          case rel => exact ⟨a + 1, by omega, by omega, rfl, by go_num, forall_succ HU.out (fun j hj => HU2.out j (by omega)), HB3.out⟩
    · go_wp2
      rw [Exit.noGoto_ret]
      go_ret
      exact ⟨ret_bool (propB_true fun j hj => HU.out j (by omega)).symm, HB.out.trans (HB1.out.mono (by omega))⟩

end Go.Proofs.Ytpdonhoeimenjaa
