
/- The contract of operationHolds: the laws of a table. -/
import Derived.Test.YtpdonhoeimenjaaA2
import Derived.Deep.LoopGhost
import Derived.WalkMore
namespace Go.Proofs.Ytpdonhoeimenjaa
open Go.RowKit

/-- A full table of a ring of m elements, row by row; its cells lie below block B. -/
def Tab (w : World) (B b off m : Nat) (T : Nat → Nat) : Prop := b < B ∧ ∀ k, k < m * m → w.cell? ⟨b, off + k, none⟩ = some (.int .i64 (T k)) ∧ T k < m
theorem idx_lt {m a e : Nat} (ha : a < m) (he : e < m) : a * m + e < m * m := by
  have : (a + 1) * m ≤ m * m := Nat.mul_le_mul_right _ ha
  have : (a + 1) * m = a * m + m := Nat.succ_mul _ _
  omega
theorem Tab.at_ {w : World} {B b off m a e : Nat} {T : Nat → Nat} (h : Tab w B b off m T) (ha : a < m) (he : e < m) : w.cell? ⟨b, off + a * m + e, none⟩ = some (.int .i64 (T (a * m + e))) := by
  rw [Nat.add_assoc]; exact (h.2 _ (idx_lt ha he)).1
theorem Tab.lt {w : World} {B b off m a e : Nat} {T : Nat → Nat} (h : Tab w B b off m T) (ha : a < m) (he : e < m) : T (a * m + e) < m := (h.2 _ (idx_lt ha he)).2
theorem Tab.below {w w' : World} {B C b off m : Nat} {T : Nat → Nat} (h : Tab w B b off m T) (hb : Below C w w') (hB : B ≤ C) : Tab w' B b off m T :=
  ⟨h.1, fun k hk => ⟨(hb.cell (by have := h.1; simp; omega)).trans (h.2 k hk).1, (h.2 k hk).2⟩⟩

def Law3 (m : Nat) (T : Nat → Nat) (a b c : Nat) : Prop := T (T (a * m + b) * m + c) = T (a * m + T (b * m + c))
def Law2 (m : Nat) (T : Nat → Nat) (a b : Nat) : Prop := T (a * m + b) = T (b * m + a) ∧ ∀ c, c < m → Law3 m T a b c
def Law1 (m : Nat) (T : Nat → Nat) (e a : Nat) : Prop := T (a * m + e) = a ∧ ∀ b, b < m → Law2 m T a b
def OpLaw (m : Nat) (T : Nat → Nat) (e : Nat) : Prop := ∀ a, a < m → Law1 m T e a
def Upto1 (m : Nat) (T : Nat → Nat) (e a : Nat) : Prop := ∀ j, j < a → Law1 m T e j
def Upto2 (m : Nat) (T : Nat → Nat) (a b : Nat) : Prop := ∀ j, j < b → Law2 m T a j
def Upto3 (m : Nat) (T : Nat → Nat) (a b c : Nat) : Prop := ∀ j, j < c → Law3 m T a b j
theorem forall_succ {P : Nat → Prop} {k : Nat} (h : ∀ j, j < k → P j) (hk : P k) : ∀ j, j < k + 1 → P j := fun j hj => by
  rcases Nat.lt_succ_iff_lt_or_eq.1 hj with h1 | rfl
  · exact h j h1
  · exact hk
noncomputable def opB (m : Nat) (T : Nat → Nat) (e : Nat) : Bool := propB (OpLaw m T e)

theorem opB_true {m : Nat} {T : Nat → Nat} {e : Nat} (h : OpLaw m T e) : opB m T e = true := propB_true h
theorem opB_false {m : Nat} {T : Nat → Nat} {e : Nat} (h : ¬ OpLaw m T e) : opB m T e = false := propB_false h

set_option maxHeartbeats 1000000 in
theorem operationHolds_any (m e : Nat) (o : Int) (A B : Option Addr) (la ca lb cb : Nat) (b off len cap : Nat) (T : Nat → Nat) (w : World) (hm : 1 ≤ m) (hm' : m ≤ 16) (he : e < m) (hl : len = m * m) (hc : len ≤ cap) (hT : Tab w w.heap.size b off m T) :
    Calls Try.prog 76 #[.agg #[.int .i64 m, .int .i64 o, .slice A la ca, .slice B lb cb], .slice (some ⟨b, off, none⟩) len cap, .int .i64 e] w fun e' w' =>
      e' = .returned (.bool (opB m T e)) ∧ Below w.heap.size w w' := by
  have HT := Lib.hid hT
  have HL := Lib.hid hl
  clear hT hl
  go_enter Try.func76, Try.ntmps76
  go_wp2
  go_step3
  go_wp2
  go_step3
  go_wp2
  obtain ⟨W, hW⟩ : ∃ W, w.alloc (.cells #[.int .i64 m, .int .i64 o, .slice A la ca, .slice B lb cb] 25) = W := ⟨_, rfl⟩
  have HT0 : Hid (Tab W w.heap.size b off m T) := by
    subst hW
    exact HT.out.below ((Below.refl w.heap.size w).alloc (Nat.le_refl _) _) (Nat.le_refl _)
  obtain ⟨c0, c1, c2, c3, hs⟩ := box4_new w (.int .i64 m) (.int .i64 o) (.slice A la ca) (.slice B lb cb) 25
  have hbw : Below w.heap.size w W := by
    subst hW
    exact (Below.refl w.heap.size w).alloc (Nat.le_refl _) _
  rw [hW] at c0 c1 c2 c3 hs ⊢
  have HB := Lib.hid hbw
  clear hW hbw
  go_loopg [7, 16] m (fun g h i wr => ∃ a : Nat, a ≤ m ∧ m ≤ a + g ∧ h = .bool true ∧ i = .int .i64 a ∧ Upto1 m T e a ∧ Below (w.heap.size + 1) W wr)
  case atStart => exact ⟨0, Nat.zero_le _, by omega, rfl, rfl, fun j hj => absurd hj (by omega), Below.refl _ _⟩
  case round =>
    obtain ⟨a, ha, hg, rfl, rfl, hup, hb⟩ := hrel
    have HU := Lib.hid hup
    clear hup
    obtain ⟨d0, d1, d2, d3, hs1⟩ := box4_next hb (Nat.lt_succ_self _) c0 c1 c2 c3
    have HB1 := Lib.hid hb
    clear hb
    by_cases hlt : a < m
    · by_cases h1 : T (a * m + e) = a
      · have H1 := Lib.hid h1
        have h1a : T (a * m + e) ≤ a := by omega
        have h1b : a ≤ T (a * m + e) := by omega
        have h1c : (((T (a * m + e) : Nat) : Int) != (a : Int)) = false := by rw [bne_eq_false_iff_eq]; omega
        clear h1
        go_wp2_with (go_at_call 139; refine (row_any _ _ _ _ _ _ _ _ _ _ _ _ _ _ hm hm' hlt HL.out hc).mono ?_; rintro e1 w1 ⟨rfl, hb1⟩; obtain ⟨f0, f1, f2, f3, hs2⟩ := box4_next hb1 (Nat.lt_of_lt_of_le hs hs1) d0 d1 d2 d3; have ht1 := ((HT0.out.below HB1.out (by omega)).below hb1 (by omega)).at_ hlt he)
        have HB2 := Lib.hid (HB1.out.trans (hb1.mono (by omega)))
        clear hb1 ht1
        obtain ⟨g1, hg1⟩ : ∃ g1 : Nat, g1 = gk := ⟨_, rfl⟩
        go_loopg [7, 31] m (fun g h i wr => ∃ c : Nat, c ≤ m ∧ m ≤ c + g ∧ h = .bool true ∧ i = .int .i64 c ∧ Upto2 m T a c ∧ Below w1.heap.size w1 wr)
        case atStart => exact ⟨0, Nat.zero_le _, by omega, rfl, rfl, fun j hj => absurd hj (by omega), Below.refl _ _⟩
        case round =>
          obtain ⟨c, hcm, hgc, rfl, rfl, hup2, hb2⟩ := hrel
          obtain ⟨k0, k1, k2, k3, hs3⟩ := box4_next hb2 (Nat.lt_of_lt_of_le (Nat.lt_of_lt_of_le hs hs1) hs2) f0 f1 f2 f3
          have HB3 := Lib.hid (HB2.out.trans (hb2.mono (by omega)))
          have HU2 := Lib.hid hup2
          have HB32 := Lib.hid hb2
          clear hb2 hup2
          by_cases hlt2 : c < m
          · by_cases h2 : T (a * m + c) = T (c * m + a)
            · have H2 := Lib.hid h2
              have h2a : T (a * m + c) ≤ T (c * m + a) := by omega
              have h2b : T (c * m + a) ≤ T (a * m + c) := by omega
              have hT1 : T (a * m + c) < m := HT.out.lt hlt hlt2
              have h2c : (((T (a * m + c) : Nat) : Int) != ((T (c * m + a) : Nat) : Int)) = false := by rw [bne_eq_false_iff_eq]; omega
              clear h2
              go_wp2_with (go_at_call 139; refine (row_any _ _ _ _ _ _ _ _ _ _ _ _ _ _ hm hm' hlt2 HL.out hc).mono ?_; rintro e2 w2 ⟨rfl, hb3⟩; obtain ⟨l0, l1, l2, l3, hs4⟩ := box4_next hb3 (by omega) k0 k1 k2 k3; have ht1 := ((HT0.out.below HB3.out (by omega)).below hb3 (by omega)).at_ hlt hlt2; have ht2 := ((HT0.out.below HB3.out (by omega)).below hb3 (by omega)).at_ hlt2 hlt)
              go_quiet (fail)
              go_wp2
              have HB4 := Lib.hid (below_drewN (HB3.out.trans (hb3.mono (by omega))) nq)
              have hb3' := Lib.hid hb3
              clear hb3
              refine wp_region_ext (by kernel_rfl) (by kernel_rfl) ?_
              repeat (go_big_quiet_step ((go_at_call 139; refine calls_ext (row_any _ _ _ _ _ _ _ _ _ _ _ _ _ _ hm hm' hT1 HL.out hc))))
              refine wpQuiet_nil ?_
              intro w3 hb4
              obtain ⟨p0, p1, p2, p3, hs5⟩ := box4_next hb4 (by simp; omega) (w1 := w3) l0 l1 l2 l3
              have HB5 := Lib.hid (HB4.out.trans (hb4.mono (by simp; omega)))
              have HB52 := Lib.hid ((below_drewN (HB32.out.trans (hb3'.out.mono (by omega))) nq).trans (hb4.mono (by simp; omega)))
              clear ht1 ht2 hb4
              go_wp2
              obtain ⟨g2, hg2⟩ : ∃ g2 : Nat, g2 = gk := ⟨_, rfl⟩
              go_loopg [7, 56] m (fun g h i wr => ∃ d : Nat, d ≤ m ∧ m ≤ d + g ∧ h = .bool true ∧ i = .int .i64 d ∧ Upto3 m T a c d ∧ Below w3.heap.size w3 wr)
              case atStart => exact ⟨0, Nat.zero_le _, by omega, rfl, rfl, fun j hj => absurd hj (by omega), Below.refl _ _⟩
              case round =>
                obtain ⟨d, hdm, hgd, rfl, rfl, hup3, hb5⟩ := hrel
                have HB6 := Lib.hid (HB5.out.trans (hb5.mono (by simp at hs5; omega)))
                have HU3 := Lib.hid hup3
                have HB7 := Lib.hid hb5
                have HB62 := Lib.hid (HB52.out.trans (hb5.mono (by simp at hs5; omega)))
                obtain ⟨q0, q1, q2, q3, hs6⟩ := box4_next hb5 (by simp at hs5; omega) p0 p1 p2 p3
                clear hb5 hup3
                by_cases hlt3 : d < m
                · have hT2 : T (c * m + d) < m := HT.out.lt hlt2 hlt3
                  have u1 := ((HT0.out.below HB6.out (by omega))).at_ hT1 hlt3
                  have u2 := ((HT0.out.below HB6.out (by omega))).at_ hlt2 hlt3
                  have u3 := ((HT0.out.below HB6.out (by omega))).at_ hlt hT2
                  by_cases h3 : T (T (a * m + c) * m + d) = T (a * m + T (c * m + d))
                  · have H3 := Lib.hid h3
                    have h3a : T (T (a * m + c) * m + d) ≤ T (a * m + T (c * m + d)) := by omega
                    have h3b : T (a * m + T (c * m + d)) ≤ T (T (a * m + c) * m + d) := by omega
                    clear h3
                    go_wp2
                    go_quiet (fail)
                    go_wp2
                    go_roundg (m - (d + 1))
                    case measure => omega
                    case rel => exact ⟨d + 1, by omega, by omega, rfl, by go_num, forall_succ HU3.out H3.out, below_drewN HB7.out _⟩
                  · go_wp2
                    go_quiet (fail)
                    go_wp2
                    rw [Exit.noGoto_ret]
                    go_ret
                    exact ⟨ret_bool (opB_false fun g => h3 (((g a hlt).2 c hlt2).2 d hlt3)).symm, below_drewN (HB.out.trans (HB6.out.mono (by omega))) _⟩
                · go_wp2
                  go_roundg (m - (c + 1))
                  case measure => omega
                  case rel => exact ⟨c + 1, by omega, by omega, rfl, by go_num, forall_succ HU2.out ⟨H2.out, fun j hj => HU3.out j (by omega)⟩, HB62.out⟩
            · go_wp2_with (go_at_call 139; refine (row_any _ _ _ _ _ _ _ _ _ _ _ _ _ _ hm hm' hlt2 HL.out hc).mono ?_; rintro e2 w2 ⟨rfl, hb3⟩; obtain ⟨l0, l1, l2, l3, hs4⟩ := box4_next hb3 (by omega) k0 k1 k2 k3; have ht1 := ((HT0.out.below HB3.out (by omega)).below hb3 (by omega)).at_ hlt hlt2; have ht2 := ((HT0.out.below HB3.out (by omega)).below hb3 (by omega)).at_ hlt2 hlt)
              go_quiet (fail)
              go_wp2
              rw [Exit.noGoto_ret]
              go_ret
              exact ⟨ret_bool (opB_false fun g => h2 ((g a hlt).2 c hlt2).1).symm, below_drewN (HB.out.trans ((HB3.out.mono (by omega)).trans (hb3.mono (by omega)))) _⟩
          · go_wp2
            go_roundg (m - (a + 1))
            case measure => omega
            case rel => exact ⟨a + 1, by omega, by omega, rfl, by go_num, forall_succ HU.out ⟨H1.out, fun j hj => HU2.out j (by omega)⟩, HB3.out⟩
      · go_wp2_with (go_at_call 139; refine (row_any _ _ _ _ _ _ _ _ _ _ _ _ _ _ hm hm' hlt HL.out hc).mono ?_; rintro e1 w1 ⟨rfl, hb1⟩; obtain ⟨f0, f1, f2, f3, hs2⟩ := box4_next hb1 (Nat.lt_of_lt_of_le hs hs1) d0 d1 d2 d3; have ht1 := ((HT0.out.below HB1.out (by omega)).below hb1 (by omega)).at_ hlt he)
        rw [Exit.noGoto_ret]
        go_ret
        exact ⟨ret_bool (opB_false fun g => h1 (g a hlt).1).symm, (HB.out.trans (HB1.out.mono (by omega))).trans (hb1.mono (by omega))⟩
    · go_wp2
      rw [Exit.noGoto_ret]
      go_ret
      exact ⟨ret_bool (opB_true fun j hj => HU.out j (by omega)).symm, HB.out.trans (HB1.out.mono (by omega))⟩

end Go.Proofs.Ytpdonhoeimenjaa
