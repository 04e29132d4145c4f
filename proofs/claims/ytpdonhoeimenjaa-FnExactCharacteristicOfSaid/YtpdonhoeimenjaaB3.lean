
/- The contracts of Add, Mul, Neg, Times, Power and CharacteristicOf, of both sides. -/
import Derived.Test.YtpdonhoeimenjaaB2
namespace Go.Proofs.Ytpdonhoeimenjaa
open Go.RowKit

/-- What Add (T the sums) and Mul (T the products) return. -/
noncomputable def opV (T : Nat → Nat) (n o : Int) (X Y : List Int) (a b : Int) : Int := if validB n o X Y = true ∧ inB n a = true ∧ inB n b = true then (T (a.toNat * n.toNat + b.toNat) : Nat) else -1
theorem opV_no {T : Nat → Nat} {n o : Int} {X Y : List Int} {a b : Int} (h : ¬ (validB n o X Y = true ∧ inB n a = true ∧ inB n b = true)) : opV T n o X Y a b = -1 := if_neg h
theorem opV_yes {T : Nat → Nat} {m e a b : Nat} {X Y : List Int} (h : validB m e X Y = true) (ha : inB m a = true) (hb : inB m b = true) : opV T m e X Y a b = (T (a * m + b) : Nat) := if_pos ⟨h, ha, hb⟩
set_option maxHeartbeats 2000000 in
theorem add_any (n o : Int) (A B : Option Addr) (la ca lb cb : Nat) (X Y : List Int) (a b : Int) (w : World) (hX : Ints w w.heap.size A la X) (hY : Ints w w.heap.size B lb Y) (hla : la ≤ 9223372036854775807) (hlb : lb ≤ 9223372036854775807) (hca : la ≤ ca) (hcb : lb ≤ cb) :
    Calls Try.prog 20 #[.agg #[.int .i64 n, .int .i64 o, .slice A la ca, .slice B lb cb], .int .i64 a, .int .i64 b] w fun e w' => e = .returned (.int .i64 (opV (tabOf X) n o X Y a b)) ∧ Below w.heap.size w w' := by
  cases hv : validB n o X Y
  · have hz := Lib.hid (opV_no (T := tabOf X) (a := a) (b := b) (show ¬ (validB n o X Y = true ∧ inB n a = true ∧ inB n b = true) by rw [hv]; simp))
    obtain ⟨c0, c1, c2, c3, hs⟩ := box4_new w (.int .i64 n) (.int .i64 o) (.slice A la ca) (.slice B lb cb) 25
    obtain ⟨W, hW⟩ : ∃ W, w.alloc (.cells #[.int .i64 n, .int .i64 o, .slice A la ca, .slice B lb cb] 25) = W := ⟨_, rfl⟩
    have HB := Lib.hid (show Below w.heap.size w W by subst hW; exact (Below.refl w.heap.size w).alloc (Nat.le_refl _) _)
    have H0X := Lib.hid (hX.next HB.out)
    have H0Y := Lib.hid (hY.next HB.out)
    rw [hW] at c0 c1 c2 c3 hs
    have HW := Lib.hid hW
    clear hW hX hY
    go_enter Try.func20, Try.ntmps20
    go_wp2_with (fail)
    rw [HW.out]
    have X0 := HB
    go_wp2_with (first
      | (go_at_call 16; ((with_reducible refine (valid_any _ _ _ _ _ _ _ _ X Y _ H0X.out H0Y.out hla hlb hca hcb).mono ?_); rintro e1 w1 ⟨rfl, hb1⟩; obtain ⟨d0, d1, d2, d3, hs1⟩ := box4_next hb1 (by omega) c0 c1 c2 c3; have X1 := Lib.hid (X0.out.trans (hb1.mono (by omega))); clear hb1)))
    go_ret
    exact ⟨ret_int hz.out.symm, X1.out⟩
  · cases ha : inB n a
    · have hz := Lib.hid (opV_no (T := tabOf X) (a := a) (b := b) (show ¬ (validB n o X Y = true ∧ inB n a = true ∧ inB n b = true) by rw [ha]; simp))
      obtain ⟨c0, c1, c2, c3, hs⟩ := box4_new w (.int .i64 n) (.int .i64 o) (.slice A la ca) (.slice B lb cb) 25
      obtain ⟨W, hW⟩ : ∃ W, w.alloc (.cells #[.int .i64 n, .int .i64 o, .slice A la ca, .slice B lb cb] 25) = W := ⟨_, rfl⟩
      have HB := Lib.hid (show Below w.heap.size w W by subst hW; exact (Below.refl w.heap.size w).alloc (Nat.le_refl _) _)
      have H0X := Lib.hid (hX.next HB.out)
      have H0Y := Lib.hid (hY.next HB.out)
      rw [hW] at c0 c1 c2 c3 hs
      have HW := Lib.hid hW
      clear hW hX hY
      go_enter Try.func20, Try.ntmps20
      go_wp2_with (fail)
      rw [HW.out]
      have X0 := HB
      go_wp2_with (first
        | (go_at_call 16; ((with_reducible refine (valid_any _ _ _ _ _ _ _ _ X Y _ H0X.out H0Y.out hla hlb hca hcb).mono ?_); rintro e1 w1 ⟨rfl, hb1⟩; obtain ⟨d0, d1, d2, d3, hs1⟩ := box4_next hb1 (by omega) c0 c1 c2 c3; have X1 := Lib.hid (X0.out.trans (hb1.mono (by omega))); clear hb1))
        | (go_at_call 85; ((with_reducible refine (has_any _ _ a _ _ _ _ _ _ _).mono ?_); rintro e2 w2 ⟨rfl, hb2⟩; obtain ⟨f0, f1, f2, f3, hs2⟩ := box4_next hb2 (by omega) d0 d1 d2 d3; have X2 := Lib.hid (X1.out.trans (hb2.mono (by omega))); clear hb2)))
      go_ret
      exact ⟨ret_int hz.out.symm, X2.out⟩
    · cases hb : inB n b
      · have hz := Lib.hid (opV_no (T := tabOf X) (a := a) (b := b) (show ¬ (validB n o X Y = true ∧ inB n a = true ∧ inB n b = true) by rw [hb]; simp))
        obtain ⟨c0, c1, c2, c3, hs⟩ := box4_new w (.int .i64 n) (.int .i64 o) (.slice A la ca) (.slice B lb cb) 25
        obtain ⟨W, hW⟩ : ∃ W, w.alloc (.cells #[.int .i64 n, .int .i64 o, .slice A la ca, .slice B lb cb] 25) = W := ⟨_, rfl⟩
        have HB := Lib.hid (show Below w.heap.size w W by subst hW; exact (Below.refl w.heap.size w).alloc (Nat.le_refl _) _)
        have H0X := Lib.hid (hX.next HB.out)
        have H0Y := Lib.hid (hY.next HB.out)
        rw [hW] at c0 c1 c2 c3 hs
        have HW := Lib.hid hW
        clear hW hX hY
        go_enter Try.func20, Try.ntmps20
        go_wp2_with (fail)
        rw [HW.out]
        have X0 := HB
        go_wp2_with (first
          | (go_at_call 16; ((with_reducible refine (valid_any _ _ _ _ _ _ _ _ X Y _ H0X.out H0Y.out hla hlb hca hcb).mono ?_); rintro e1 w1 ⟨rfl, hb1⟩; obtain ⟨d0, d1, d2, d3, hs1⟩ := box4_next hb1 (by omega) c0 c1 c2 c3; have X1 := Lib.hid (X0.out.trans (hb1.mono (by omega))); clear hb1))
          | (go_at_call 85; ((with_reducible refine (has_any _ _ a _ _ _ _ _ _ _).mono ?_); rintro e2 w2 ⟨rfl, hb2⟩; obtain ⟨f0, f1, f2, f3, hs2⟩ := box4_next hb2 (by omega) d0 d1 d2 d3; have X2 := Lib.hid (X1.out.trans (hb2.mono (by omega))); clear hb2))
          | (go_at_call 85; ((with_reducible refine (has_any _ _ b _ _ _ _ _ _ _).mono ?_); rintro e3 w3 ⟨rfl, hb3⟩; obtain ⟨g0, g1, g2, g3, hs3⟩ := box4_next hb3 (by omega) f0 f1 f2 f3; have X3 := Lib.hid (X2.out.trans (hb3.mono (by omega))); clear hb3)))
        go_ret
        exact ⟨ret_int hz.out.symm, X3.out⟩
      · obtain ⟨m, e, b1, o1, b2, o2, rfl, rfl, rfl, rfl, hr, _, _, _, _, _⟩ := valid_data hv hX hY hca hcb
        have HR := Lib.hid hr
        clear hr
        have ha' := of_decide_eq_true ha
        have hb' := of_decide_eq_true hb
        obtain ⟨a, rfl⟩ := Int.eq_ofNat_of_zero_le ha'.1
        obtain ⟨b, rfl⟩ := Int.eq_ofNat_of_zero_le hb'.1
        have la' : a < m := by omega
        have lb' : b < m := by omega
        have hz := Lib.hid (opV_yes (T := tabOf X) hv ha hb)
        obtain ⟨c0, c1, c2, c3, hs⟩ := box4_new w (.int .i64 m) (.int .i64 e) (.slice (some ⟨b1, o1, none⟩) la ca) (.slice (some ⟨b2, o2, none⟩) lb cb) 25
        obtain ⟨W, hW⟩ : ∃ W, w.alloc (.cells #[.int .i64 m, .int .i64 e, .slice (some ⟨b1, o1, none⟩) la ca, .slice (some ⟨b2, o2, none⟩) lb cb] 25) = W := ⟨_, rfl⟩
        have HB := Lib.hid (show Below w.heap.size w W by subst hW; exact (Below.refl w.heap.size w).alloc (Nat.le_refl _) _)
        have H0X := Lib.hid (hX.next HB.out)
        have H0Y := Lib.hid (hY.next HB.out)
        rw [hW] at c0 c1 c2 c3 hs
        have HW := Lib.hid hW
        clear hW hX hY
        have R0 := Lib.hid (HR.out.next HB.out)
        go_enter Try.func20, Try.ntmps20
        go_wp2_with (fail)
        rw [HW.out]
        have X0 := HB
        go_wp2_with (first
          | (go_at_call 16; ((with_reducible refine (valid_any _ _ _ _ _ _ _ _ X Y _ H0X.out H0Y.out hla hlb hca hcb).mono ?_); rintro e1 w1 ⟨rfl, hb1⟩; obtain ⟨d0, d1, d2, d3, hs1⟩ := box4_next hb1 (by omega) c0 c1 c2 c3; have X1 := Lib.hid (X0.out.trans (hb1.mono (by omega))); have R1 := Lib.hid (R0.out.next hb1); clear hb1))
          | (go_at_call 85; ((with_reducible refine (has_any _ _ a _ _ _ _ _ _ _).mono ?_); rintro e2 w2 ⟨rfl, hb2⟩; obtain ⟨f0, f1, f2, f3, hs2⟩ := box4_next hb2 (by omega) d0 d1 d2 d3; have X2 := Lib.hid (X1.out.trans (hb2.mono (by omega))); have R2 := Lib.hid (R1.out.next hb2); clear hb2))
          | (go_at_call 85; ((with_reducible refine (has_any _ _ b _ _ _ _ _ _ _).mono ?_); rintro e3 w3 ⟨rfl, hb3⟩; obtain ⟨g0, g1, g2, g3, hs3⟩ := box4_next hb3 (by omega) f0 f1 f2 f3; have X3 := Lib.hid (X2.out.trans (hb3.mono (by omega))); have R3 := Lib.hid (R2.out.next hb3); clear hb3))
          | (go_at_call 86; ((with_reducible refine (sum_any a b m e b1 o1 la ca b2 o2 lb cb (tabOf X) (tabOf Y) _ R3.out la' lb').mono ?_); rintro e4 w4 ⟨rfl, hb4⟩; obtain ⟨k0, k1, k2, k3, hs4⟩ := box4_next hb4 (by omega) g0 g1 g2 g3; have X4 := Lib.hid (X3.out.trans (hb4.mono (by omega))); clear hb4)))
        go_ret
        exact ⟨ret_int hz.out.symm, X4.out⟩
set_option maxHeartbeats 2000000 in
theorem mul_any (n o : Int) (A B : Option Addr) (la ca lb cb : Nat) (X Y : List Int) (a b : Int) (w : World) (hX : Ints w w.heap.size A la X) (hY : Ints w w.heap.size B lb Y) (hla : la ≤ 9223372036854775807) (hlb : lb ≤ 9223372036854775807) (hca : la ≤ ca) (hcb : lb ≤ cb) :
    Calls Try.prog 21 #[.agg #[.int .i64 n, .int .i64 o, .slice A la ca, .slice B lb cb], .int .i64 a, .int .i64 b] w fun e w' => e = .returned (.int .i64 (opV (tabOf Y) n o X Y a b)) ∧ Below w.heap.size w w' := by
  cases hv : validB n o X Y
  · have hz := Lib.hid (opV_no (T := tabOf Y) (a := a) (b := b) (show ¬ (validB n o X Y = true ∧ inB n a = true ∧ inB n b = true) by rw [hv]; simp))
    obtain ⟨c0, c1, c2, c3, hs⟩ := box4_new w (.int .i64 n) (.int .i64 o) (.slice A la ca) (.slice B lb cb) 25
    obtain ⟨W, hW⟩ : ∃ W, w.alloc (.cells #[.int .i64 n, .int .i64 o, .slice A la ca, .slice B lb cb] 25) = W := ⟨_, rfl⟩
    have HB := Lib.hid (show Below w.heap.size w W by subst hW; exact (Below.refl w.heap.size w).alloc (Nat.le_refl _) _)
    have H0X := Lib.hid (hX.next HB.out)
    have H0Y := Lib.hid (hY.next HB.out)
    rw [hW] at c0 c1 c2 c3 hs
    have HW := Lib.hid hW
    clear hW hX hY
    go_enter Try.func21, Try.ntmps21
    go_wp2_with (fail)
    rw [HW.out]
    have X0 := HB
    go_wp2_with (first
      | (go_at_call 16; ((with_reducible refine (valid_any _ _ _ _ _ _ _ _ X Y _ H0X.out H0Y.out hla hlb hca hcb).mono ?_); rintro e1 w1 ⟨rfl, hb1⟩; obtain ⟨d0, d1, d2, d3, hs1⟩ := box4_next hb1 (by omega) c0 c1 c2 c3; have X1 := Lib.hid (X0.out.trans (hb1.mono (by omega))); clear hb1)))
    go_ret
    exact ⟨ret_int hz.out.symm, X1.out⟩
  · cases ha : inB n a
    · have hz := Lib.hid (opV_no (T := tabOf Y) (a := a) (b := b) (show ¬ (validB n o X Y = true ∧ inB n a = true ∧ inB n b = true) by rw [ha]; simp))
      obtain ⟨c0, c1, c2, c3, hs⟩ := box4_new w (.int .i64 n) (.int .i64 o) (.slice A la ca) (.slice B lb cb) 25
      obtain ⟨W, hW⟩ : ∃ W, w.alloc (.cells #[.int .i64 n, .int .i64 o, .slice A la ca, .slice B lb cb] 25) = W := ⟨_, rfl⟩
      have HB := Lib.hid (show Below w.heap.size w W by subst hW; exact (Below.refl w.heap.size w).alloc (Nat.le_refl _) _)
      have H0X := Lib.hid (hX.next HB.out)
      have H0Y := Lib.hid (hY.next HB.out)
      rw [hW] at c0 c1 c2 c3 hs
      have HW := Lib.hid hW
      clear hW hX hY
      go_enter Try.func21, Try.ntmps21
      go_wp2_with (fail)
      rw [HW.out]
      have X0 := HB
      go_wp2_with (first
        | (go_at_call 16; ((with_reducible refine (valid_any _ _ _ _ _ _ _ _ X Y _ H0X.out H0Y.out hla hlb hca hcb).mono ?_); rintro e1 w1 ⟨rfl, hb1⟩; obtain ⟨d0, d1, d2, d3, hs1⟩ := box4_next hb1 (by omega) c0 c1 c2 c3; have X1 := Lib.hid (X0.out.trans (hb1.mono (by omega))); clear hb1))
        | (go_at_call 85; ((with_reducible refine (has_any _ _ a _ _ _ _ _ _ _).mono ?_); rintro e2 w2 ⟨rfl, hb2⟩; obtain ⟨f0, f1, f2, f3, hs2⟩ := box4_next hb2 (by omega) d0 d1 d2 d3; have X2 := Lib.hid (X1.out.trans (hb2.mono (by omega))); clear hb2)))
      go_ret
      exact ⟨ret_int hz.out.symm, X2.out⟩
    · cases hb : inB n b
      · have hz := Lib.hid (opV_no (T := tabOf Y) (a := a) (b := b) (show ¬ (validB n o X Y = true ∧ inB n a = true ∧ inB n b = true) by rw [hb]; simp))
        obtain ⟨c0, c1, c2, c3, hs⟩ := box4_new w (.int .i64 n) (.int .i64 o) (.slice A la ca) (.slice B lb cb) 25
        obtain ⟨W, hW⟩ : ∃ W, w.alloc (.cells #[.int .i64 n, .int .i64 o, .slice A la ca, .slice B lb cb] 25) = W := ⟨_, rfl⟩
        have HB := Lib.hid (show Below w.heap.size w W by subst hW; exact (Below.refl w.heap.size w).alloc (Nat.le_refl _) _)
        have H0X := Lib.hid (hX.next HB.out)
        have H0Y := Lib.hid (hY.next HB.out)
        rw [hW] at c0 c1 c2 c3 hs
        have HW := Lib.hid hW
        clear hW hX hY
        go_enter Try.func21, Try.ntmps21
        go_wp2_with (fail)
        rw [HW.out]
        have X0 := HB
        go_wp2_with (first
          | (go_at_call 16; ((with_reducible refine (valid_any _ _ _ _ _ _ _ _ X Y _ H0X.out H0Y.out hla hlb hca hcb).mono ?_); rintro e1 w1 ⟨rfl, hb1⟩; obtain ⟨d0, d1, d2, d3, hs1⟩ := box4_next hb1 (by omega) c0 c1 c2 c3; have X1 := Lib.hid (X0.out.trans (hb1.mono (by omega))); clear hb1))
          | (go_at_call 85; ((with_reducible refine (has_any _ _ a _ _ _ _ _ _ _).mono ?_); rintro e2 w2 ⟨rfl, hb2⟩; obtain ⟨f0, f1, f2, f3, hs2⟩ := box4_next hb2 (by omega) d0 d1 d2 d3; have X2 := Lib.hid (X1.out.trans (hb2.mono (by omega))); clear hb2))
          | (go_at_call 85; ((with_reducible refine (has_any _ _ b _ _ _ _ _ _ _).mono ?_); rintro e3 w3 ⟨rfl, hb3⟩; obtain ⟨g0, g1, g2, g3, hs3⟩ := box4_next hb3 (by omega) f0 f1 f2 f3; have X3 := Lib.hid (X2.out.trans (hb3.mono (by omega))); clear hb3)))
        go_ret
        exact ⟨ret_int hz.out.symm, X3.out⟩
      · obtain ⟨m, e, b1, o1, b2, o2, rfl, rfl, rfl, rfl, hr, _, _, _, _, _⟩ := valid_data hv hX hY hca hcb
        have HR := Lib.hid hr
        clear hr
        have ha' := of_decide_eq_true ha
        have hb' := of_decide_eq_true hb
        obtain ⟨a, rfl⟩ := Int.eq_ofNat_of_zero_le ha'.1
        obtain ⟨b, rfl⟩ := Int.eq_ofNat_of_zero_le hb'.1
        have la' : a < m := by omega
        have lb' : b < m := by omega
        have hz := Lib.hid (opV_yes (T := tabOf Y) hv ha hb)
        obtain ⟨c0, c1, c2, c3, hs⟩ := box4_new w (.int .i64 m) (.int .i64 e) (.slice (some ⟨b1, o1, none⟩) la ca) (.slice (some ⟨b2, o2, none⟩) lb cb) 25
        obtain ⟨W, hW⟩ : ∃ W, w.alloc (.cells #[.int .i64 m, .int .i64 e, .slice (some ⟨b1, o1, none⟩) la ca, .slice (some ⟨b2, o2, none⟩) lb cb] 25) = W := ⟨_, rfl⟩
        have HB := Lib.hid (show Below w.heap.size w W by subst hW; exact (Below.refl w.heap.size w).alloc (Nat.le_refl _) _)
        have H0X := Lib.hid (hX.next HB.out)
        have H0Y := Lib.hid (hY.next HB.out)
        rw [hW] at c0 c1 c2 c3 hs
        have HW := Lib.hid hW
        clear hW hX hY
        have R0 := Lib.hid (HR.out.next HB.out)
        go_enter Try.func21, Try.ntmps21
        go_wp2_with (fail)
        rw [HW.out]
        have X0 := HB
        go_wp2_with (first
          | (go_at_call 16; ((with_reducible refine (valid_any _ _ _ _ _ _ _ _ X Y _ H0X.out H0Y.out hla hlb hca hcb).mono ?_); rintro e1 w1 ⟨rfl, hb1⟩; obtain ⟨d0, d1, d2, d3, hs1⟩ := box4_next hb1 (by omega) c0 c1 c2 c3; have X1 := Lib.hid (X0.out.trans (hb1.mono (by omega))); have R1 := Lib.hid (R0.out.next hb1); clear hb1))
          | (go_at_call 85; ((with_reducible refine (has_any _ _ a _ _ _ _ _ _ _).mono ?_); rintro e2 w2 ⟨rfl, hb2⟩; obtain ⟨f0, f1, f2, f3, hs2⟩ := box4_next hb2 (by omega) d0 d1 d2 d3; have X2 := Lib.hid (X1.out.trans (hb2.mono (by omega))); have R2 := Lib.hid (R1.out.next hb2); clear hb2))
          | (go_at_call 85; ((with_reducible refine (has_any _ _ b _ _ _ _ _ _ _).mono ?_); rintro e3 w3 ⟨rfl, hb3⟩; obtain ⟨g0, g1, g2, g3, hs3⟩ := box4_next hb3 (by omega) f0 f1 f2 f3; have X3 := Lib.hid (X2.out.trans (hb3.mono (by omega))); have R3 := Lib.hid (R2.out.next hb3); clear hb3))
          | (go_at_call 87; ((with_reducible refine (product_any a b m e b1 o1 la ca b2 o2 lb cb (tabOf X) (tabOf Y) _ R3.out la' lb').mono ?_); rintro e4 w4 ⟨rfl, hb4⟩; obtain ⟨k0, k1, k2, k3, hs4⟩ := box4_next hb4 (by omega) g0 g1 g2 g3; have X4 := Lib.hid (X3.out.trans (hb4.mono (by omega))); clear hb4)))
        go_ret
        exact ⟨ret_int hz.out.symm, X4.out⟩

end Go.Proofs.Ytpdonhoeimenjaa
