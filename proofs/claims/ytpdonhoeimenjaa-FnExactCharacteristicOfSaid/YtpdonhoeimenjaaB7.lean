
/- The contracts of Neg, Times, Power and CharacteristicOf, of both sides. -/
import Derived.Test.YtpdonhoeimenjaaB6
namespace Go.Proofs.Ytpdonhoeimenjaa
open Go.RowKit

noncomputable def ifV (c : Prop) (v : Int) : Int := @ite _ c (Classical.propDecidable c) v (-1)
theorem ifV_yes {c : Prop} {v : Int} (h : c) : ifV c v = v := @if_pos c (Classical.propDecidable c) h _ _ _
theorem ifV_no {c : Prop} {v : Int} (h : ¬ c) : ifV c v = -1 := @if_neg c (Classical.propDecidable c) h _ _ _

noncomputable def negV (n o : Int) (X Y : List Int) (a : Int) : Int := ifV (validB n o X Y = true ∧ inB n a = true) (negN n.toNat (tabOf X) a.toNat)
theorem negV_no {n o a : Int} {X Y : List Int} (h : ¬ (validB n o X Y = true ∧ inB n a = true)) : negV n o X Y a = -1 := ifV_no h
theorem negV_yes {m e a : Nat} {X Y : List Int} (h : validB m e X Y = true) (ha : inB m a = true) : negV m e X Y a = negN m (tabOf X) a := ifV_yes ⟨h, ha⟩
noncomputable def timesV (n o : Int) (X Y : List Int) (k a : Int) : Int := ifV (validB n o X Y = true ∧ inB n a = true) (seqT n.toNat (tabOf X) a.toNat (cntN k (ordN n.toNat (tabOf X) a.toNat)) : Nat)
theorem timesV_no {n o k a : Int} {X Y : List Int} (h : ¬ (validB n o X Y = true ∧ inB n a = true)) : timesV n o X Y k a = -1 := ifV_no h
theorem timesV_yes {m e a : Nat} {k : Int} {X Y : List Int} (h : validB m e X Y = true) (ha : inB m a = true) : timesV m e X Y k a = (seqT m (tabOf X) a (cntN k (ordN m (tabOf X) a)) : Nat) := ifV_yes ⟨h, ha⟩
noncomputable def powV (n o : Int) (X Y : List Int) (a k : Int) : Int := ifV (validB n o X Y = true ∧ inB n a = true ∧ 0 ≤ k) (powF n.toNat (tabOf Y) 63 o.toNat a.toNat k.toNat : Nat)
theorem powV_no {n o a k : Int} {X Y : List Int} (h : ¬ (validB n o X Y = true ∧ inB n a = true ∧ 0 ≤ k)) : powV n o X Y a k = -1 := ifV_no h
theorem powV_yes {m e a k : Nat} {X Y : List Int} (h : validB m e X Y = true) (ha : inB m a = true) (_ : (0 : Int) ≤ k) : powV m e X Y a k = (powF m (tabOf Y) 63 e a k : Nat) := ifV_yes ⟨h, ha, by omega⟩
noncomputable def charV (n o : Int) (X Y : List Int) : Int := ifV (validB n o X Y = true) (ordN n.toNat (tabOf X) o.toNat : Nat)
theorem charV_no {n o : Int} {X Y : List Int} (h : ¬ validB n o X Y = true) : charV n o X Y = -1 := ifV_no h
theorem charV_yes {m e : Nat} {X Y : List Int} (h : validB m e X Y = true) : charV m e X Y = (ordN m (tabOf X) e : Nat) := ifV_yes h

set_option maxHeartbeats 1000000 in
theorem l1Neg_any (a : Nat) (m e b1 o1 la ca b2 o2 lb cb : Nat) (S P : Nat → Nat) (w : World) (hr : RingAt w m e b1 o1 la ca b2 o2 lb cb S P) (ha : a < m) :
    Calls Try.prog 91 #[.agg #[.int .i64 m, .int .i64 e, .slice (some ⟨b1, o1, none⟩) la ca, .slice (some ⟨b2, o2, none⟩) lb cb], .int .i64 a] w fun e' w' => e' = .returned (.int .i64 (negN m S a)) ∧ Below w.heap.size w w' := by
  have hm := hr.hm
  have hm' := hr.hm'
  have HR := Lib.hid hr
  clear hr
  go_enter Try.func91, Try.ntmps91
  go_wp2
  go_loopg [8] m (fun g i wr => ∃ k : Nat, k ≤ m ∧ m ≤ k + g ∧ i = .int .i64 k ∧ Misses (rowL m S a) 0 k ∧ Below (w.heap.size + 1) (w.alloc (.cells #[.int .i64 m, .int .i64 e, .slice (some ⟨b1, o1, none⟩) la ca, .slice (some ⟨b2, o2, none⟩) lb cb] 25)) wr)
  case atStart => exact ⟨0, Nat.zero_le _, by omega, rfl, fun j hj => absurd hj (by omega), Below.refl _ _⟩
  case round =>
    obtain ⟨k, hk, hg, rfl, hup, hb⟩ := hrel
    have HU := Lib.hid hup
    obtain ⟨d0, d1, d2, d3, hs1⟩ := box4 hb
    have X1 := Lib.hid hb
    have R1 := Lib.hid (HR.out.next (below_of_box hb))
    clear hup hb
    by_cases hlt : k < m
    · by_cases h0 : S (a * m + k) = 0
      · have H0 := Lib.hid h0
        have t0 : (((S (a * m + k) : Nat) : Int) == 0) = true := by rw [beq_iff_eq]; omega
        clear h0
        go_wp2_with (go_at_call 81; ((with_reducible refine (l1Add_any a k m e b1 o1 la ca b2 o2 lb cb S P _ R1.out ha hlt).mono ?_); rintro e1 w1 ⟨rfl, hb1⟩; have X2 := Lib.hid (X1.out.trans (hb1.mono (by omega))); clear hb1))
        go_ret
        refine ⟨ret_int ?_, below_of_box X2.out⟩
        unfold negN
        exact (idx_hit (by rw [rowL_length]; exact hlt) (by rw [rowL_get hlt, H0.out]; rfl) HU.out).symm
      · have H0 := Lib.hid h0
        have t0 : (((S (a * m + k) : Nat) : Int) == 0) = false := by rw [beq_eq_false_iff_ne]; omega
        clear h0
        go_wp2_with (go_at_call 81; ((with_reducible refine (l1Add_any a k m e b1 o1 la ca b2 o2 lb cb S P _ R1.out ha hlt).mono ?_); rintro e1 w1 ⟨rfl, hb1⟩; have X2 := Lib.hid (X1.out.trans (hb1.mono (by omega))); clear hb1))
        go_roundg (m - (k + 1))
        case measure => omega
        case rel => exact ⟨k + 1, by omega, by omega, by go_num, forall_succ HU.out (by rw [rowL_get hlt]; exact fun h => H0.out (by omega)), X2.out⟩
    · go_wp2
      go_ret
      refine ⟨ret_int ?_, below_of_box X1.out⟩
      unfold negN
      exact (idx_miss fun j hj => HU.out j (by rw [rowL_length] at hj; omega)).symm

set_option maxHeartbeats 2000000 in
theorem neg_any (n o : Int) (A B : Option Addr) (la ca lb cb : Nat) (X Y : List Int) (a : Int) (w : World) (hX : Ints w w.heap.size A la X) (hY : Ints w w.heap.size B lb Y) (hla : la ≤ 9223372036854775807) (hlb : lb ≤ 9223372036854775807) (hca : la ≤ ca) (hcb : lb ≤ cb) :
    Calls Try.prog 22 #[.agg #[.int .i64 n, .int .i64 o, .slice A la ca, .slice B lb cb], .int .i64 a] w fun e' w' => e' = .returned (.int .i64 (negV n o X Y a)) ∧ Below w.heap.size w w' := by
  cases hv : validB n o X Y
  · have hz := Lib.hid (negV_no (n := n) (o := o) (X := X) (Y := Y) (a := a) (fun g => by have := g.1; rw [hv] at this; cases this))
    obtain ⟨c0, c1, c2, c3, hs⟩ := box4_new w (.int .i64 n) (.int .i64 o) (.slice A la ca) (.slice B lb cb) 25
    obtain ⟨W, hW⟩ : ∃ W, w.alloc (.cells #[.int .i64 n, .int .i64 o, .slice A la ca, .slice B lb cb] 25) = W := ⟨_, rfl⟩
    have HB := Lib.hid (show Below w.heap.size w W by subst hW; exact (Below.refl w.heap.size w).alloc (Nat.le_refl _) _)
    have H0X := Lib.hid (hX.next HB.out)
    have H0Y := Lib.hid (hY.next HB.out)
    rw [hW] at c0 c1 c2 c3 hs
    have HW := Lib.hid hW
    clear hW hX hY
    go_enter Try.func22, Try.ntmps22
    go_wp2_with (fail)
    rw [HW.out]
    have X0 := HB
    go_wp2_with (first
      | (go_at_call 16; ((with_reducible refine (valid_any _ _ _ _ _ _ _ _ X Y _ H0X.out H0Y.out hla hlb hca hcb).mono ?_); rintro e1 w1 ⟨rfl, hb1⟩; obtain ⟨d0, d1, d2, d3, hs1⟩ := box4_next hb1 (by omega) c0 c1 c2 c3; have X1 := Lib.hid (X0.out.trans (hb1.mono (by omega))); clear hb1)))
    go_ret
    exact ⟨ret_int hz.out.symm, X1.out⟩
  · cases ha : inB n a
    · have hz := Lib.hid (negV_no (n := n) (o := o) (X := X) (Y := Y) (a := a) (fun g => by have := g.2; simp [ha] at this))
      obtain ⟨c0, c1, c2, c3, hs⟩ := box4_new w (.int .i64 n) (.int .i64 o) (.slice A la ca) (.slice B lb cb) 25
      obtain ⟨W, hW⟩ : ∃ W, w.alloc (.cells #[.int .i64 n, .int .i64 o, .slice A la ca, .slice B lb cb] 25) = W := ⟨_, rfl⟩
      have HB := Lib.hid (show Below w.heap.size w W by subst hW; exact (Below.refl w.heap.size w).alloc (Nat.le_refl _) _)
      have H0X := Lib.hid (hX.next HB.out)
      have H0Y := Lib.hid (hY.next HB.out)
      rw [hW] at c0 c1 c2 c3 hs
      have HW := Lib.hid hW
      clear hW hX hY
      go_enter Try.func22, Try.ntmps22
      go_wp2_with (fail)
      rw [HW.out]
      have X0 := HB
      go_wp2_with (first
        | (go_at_call 16; ((with_reducible refine (valid_any _ _ _ _ _ _ _ _ X Y _ H0X.out H0Y.out hla hlb hca hcb).mono ?_); rintro e1 w1 ⟨rfl, hb1⟩; obtain ⟨d0, d1, d2, d3, hs1⟩ := box4_next hb1 (by omega) c0 c1 c2 c3; have X1 := Lib.hid (X0.out.trans (hb1.mono (by omega))); clear hb1))
        | (go_at_call 85; ((with_reducible refine (has_any _ _ a _ _ _ _ _ _ _).mono ?_); rintro e2 w2 ⟨rfl, hb2⟩; obtain ⟨f0, f1, f2, f3, hs2⟩ := box4_next hb2 (by omega) d0 d1 d2 d3; have X2 := Lib.hid (X1.out.trans (hb2.mono (by omega))); clear hb2)))
      go_ret
      exact ⟨ret_int hz.out.symm, X2.out⟩
    · obtain ⟨m, e, b1, o1, b2, o2, rfl, rfl, rfl, rfl, hr, ⟨hop, _, hneg, _⟩, _, _, _, _⟩ := valid_data hv hX hY hca hcb
      have ha' := of_decide_eq_true ha
      obtain ⟨a, rfl⟩ := Int.eq_ofNat_of_zero_le ha'.1
      have la' : a < m := by omega
      have HR := Lib.hid hr
      clear hr hop hneg
      have hz := Lib.hid (negV_yes (hv) (ha))
      obtain ⟨c0, c1, c2, c3, hs⟩ := box4_new w (.int .i64 m) (.int .i64 e) (.slice (some ⟨b1, o1, none⟩) la ca) (.slice (some ⟨b2, o2, none⟩) lb cb) 25
      obtain ⟨W, hW⟩ : ∃ W, w.alloc (.cells #[.int .i64 m, .int .i64 e, .slice (some ⟨b1, o1, none⟩) la ca, .slice (some ⟨b2, o2, none⟩) lb cb] 25) = W := ⟨_, rfl⟩
      have HB := Lib.hid (show Below w.heap.size w W by subst hW; exact (Below.refl w.heap.size w).alloc (Nat.le_refl _) _)
      have H0X := Lib.hid (hX.next HB.out)
      have H0Y := Lib.hid (hY.next HB.out)
      rw [hW] at c0 c1 c2 c3 hs
      have HW := Lib.hid hW
      clear hW hX hY
      have R0 := Lib.hid (HR.out.next HB.out)
      go_enter Try.func22, Try.ntmps22
      go_wp2_with (fail)
      rw [HW.out]
      have X0 := HB
      go_wp2_with (first
        | (go_at_call 16; ((with_reducible refine (valid_any _ _ _ _ _ _ _ _ X Y _ H0X.out H0Y.out hla hlb hca hcb).mono ?_); rintro e1 w1 ⟨rfl, hb1⟩; obtain ⟨d0, d1, d2, d3, hs1⟩ := box4_next hb1 (by omega) c0 c1 c2 c3; have X1 := Lib.hid (X0.out.trans (hb1.mono (by omega))); have R1 := Lib.hid (R0.out.next hb1); clear hb1))
        | (go_at_call 85; ((with_reducible refine (has_any _ _ a _ _ _ _ _ _ _).mono ?_); rintro e2 w2 ⟨rfl, hb2⟩; obtain ⟨f0, f1, f2, f3, hs2⟩ := box4_next hb2 (by omega) d0 d1 d2 d3; have X2 := Lib.hid (X1.out.trans (hb2.mono (by omega))); have R2 := Lib.hid (R1.out.next hb2); clear hb2))
        | (go_at_call 88; ((with_reducible refine (negative_any a m e b1 o1 la ca b2 o2 lb cb (tabOf X) (tabOf Y) _ R2.out la').mono ?_); rintro e3 w3 ⟨rfl, hb3⟩; obtain ⟨g0, g1, g2, g3, hs3⟩ := box4_next hb3 (by omega) f0 f1 f2 f3; have X3 := Lib.hid (X2.out.trans (hb3.mono (by omega))); clear hb3)))
      go_ret
      exact ⟨ret_int hz.out.symm, X3.out⟩
set_option maxHeartbeats 2000000 in
theorem times_any (n o : Int) (A B : Option Addr) (la ca lb cb : Nat) (X Y : List Int) (k : Int) (a : Int) (w : World) (hX : Ints w w.heap.size A la X) (hY : Ints w w.heap.size B lb Y) (hla : la ≤ 9223372036854775807) (hlb : lb ≤ 9223372036854775807) (hca : la ≤ ca) (hcb : lb ≤ cb) :
    Calls Try.prog 27 #[.agg #[.int .i64 n, .int .i64 o, .slice A la ca, .slice B lb cb], .int .i64 k, .int .i64 a] w fun e' w' => e' = .returned (.int .i64 (timesV n o X Y k a)) ∧ Below w.heap.size w w' := by
  cases hv : validB n o X Y
  · have hz := Lib.hid (timesV_no (n := n) (o := o) (X := X) (Y := Y) (k := k) (a := a) (fun g => by have := g.1; rw [hv] at this; cases this))
    obtain ⟨c0, c1, c2, c3, hs⟩ := box4_new w (.int .i64 n) (.int .i64 o) (.slice A la ca) (.slice B lb cb) 25
    obtain ⟨W, hW⟩ : ∃ W, w.alloc (.cells #[.int .i64 n, .int .i64 o, .slice A la ca, .slice B lb cb] 25) = W := ⟨_, rfl⟩
    have HB := Lib.hid (show Below w.heap.size w W by subst hW; exact (Below.refl w.heap.size w).alloc (Nat.le_refl _) _)
    have H0X := Lib.hid (hX.next HB.out)
    have H0Y := Lib.hid (hY.next HB.out)
    rw [hW] at c0 c1 c2 c3 hs
    have HW := Lib.hid hW
    clear hW hX hY
    go_enter Try.func27, Try.ntmps27
    go_wp2_with (fail)
    rw [HW.out]
    have X0 := HB
    go_wp2_with (first
      | (go_at_call 16; ((with_reducible refine (valid_any _ _ _ _ _ _ _ _ X Y _ H0X.out H0Y.out hla hlb hca hcb).mono ?_); rintro e1 w1 ⟨rfl, hb1⟩; obtain ⟨d0, d1, d2, d3, hs1⟩ := box4_next hb1 (by omega) c0 c1 c2 c3; have X1 := Lib.hid (X0.out.trans (hb1.mono (by omega))); clear hb1)))
    go_ret
    exact ⟨ret_int hz.out.symm, X1.out⟩
  · cases ha : inB n a
    · have hz := Lib.hid (timesV_no (n := n) (o := o) (X := X) (Y := Y) (k := k) (a := a) (fun g => by have := g.2; simp [ha] at this))
      obtain ⟨c0, c1, c2, c3, hs⟩ := box4_new w (.int .i64 n) (.int .i64 o) (.slice A la ca) (.slice B lb cb) 25
      obtain ⟨W, hW⟩ : ∃ W, w.alloc (.cells #[.int .i64 n, .int .i64 o, .slice A la ca, .slice B lb cb] 25) = W := ⟨_, rfl⟩
      have HB := Lib.hid (show Below w.heap.size w W by subst hW; exact (Below.refl w.heap.size w).alloc (Nat.le_refl _) _)
      have H0X := Lib.hid (hX.next HB.out)
      have H0Y := Lib.hid (hY.next HB.out)
      rw [hW] at c0 c1 c2 c3 hs
      have HW := Lib.hid hW
      clear hW hX hY
      go_enter Try.func27, Try.ntmps27
      go_wp2_with (fail)
      rw [HW.out]
      have X0 := HB
      go_wp2_with (first
        | (go_at_call 16; ((with_reducible refine (valid_any _ _ _ _ _ _ _ _ X Y _ H0X.out H0Y.out hla hlb hca hcb).mono ?_); rintro e1 w1 ⟨rfl, hb1⟩; obtain ⟨d0, d1, d2, d3, hs1⟩ := box4_next hb1 (by omega) c0 c1 c2 c3; have X1 := Lib.hid (X0.out.trans (hb1.mono (by omega))); clear hb1))
        | (go_at_call 85; ((with_reducible refine (has_any _ _ a _ _ _ _ _ _ _).mono ?_); rintro e2 w2 ⟨rfl, hb2⟩; obtain ⟨f0, f1, f2, f3, hs2⟩ := box4_next hb2 (by omega) d0 d1 d2 d3; have X2 := Lib.hid (X1.out.trans (hb2.mono (by omega))); clear hb2)))
      go_ret
      exact ⟨ret_int hz.out.symm, X2.out⟩
    · obtain ⟨m, e, b1, o1, b2, o2, rfl, rfl, rfl, rfl, hr, ⟨hop, _, hneg, _⟩, _, _, _, _⟩ := valid_data hv hX hY hca hcb
      have ha' := of_decide_eq_true ha
      obtain ⟨a, rfl⟩ := Int.eq_ofNat_of_zero_le ha'.1
      have la' : a < m := by omega
      have HD := Lib.hid (ordN_spec (fun k hk => (hr.ts.2 k hk).2) hop hneg hr.hm la')
      have H1 := Lib.hid (seqT_one hop hr.hm la')
      have HR := Lib.hid hr
      clear hr hop hneg
      have hz := Lib.hid (timesV_yes (k := k) (hv) (ha))
      obtain ⟨c0, c1, c2, c3, hs⟩ := box4_new w (.int .i64 m) (.int .i64 e) (.slice (some ⟨b1, o1, none⟩) la ca) (.slice (some ⟨b2, o2, none⟩) lb cb) 25
      obtain ⟨W, hW⟩ : ∃ W, w.alloc (.cells #[.int .i64 m, .int .i64 e, .slice (some ⟨b1, o1, none⟩) la ca, .slice (some ⟨b2, o2, none⟩) lb cb] 25) = W := ⟨_, rfl⟩
      have HB := Lib.hid (show Below w.heap.size w W by subst hW; exact (Below.refl w.heap.size w).alloc (Nat.le_refl _) _)
      have H0X := Lib.hid (hX.next HB.out)
      have H0Y := Lib.hid (hY.next HB.out)
      rw [hW] at c0 c1 c2 c3 hs
      have HW := Lib.hid hW
      clear hW hX hY
      have R0 := Lib.hid (HR.out.next HB.out)
      go_enter Try.func27, Try.ntmps27
      go_wp2_with (fail)
      rw [HW.out]
      have X0 := HB
      go_wp2_with (first
        | (go_at_call 16; ((with_reducible refine (valid_any _ _ _ _ _ _ _ _ X Y _ H0X.out H0Y.out hla hlb hca hcb).mono ?_); rintro e1 w1 ⟨rfl, hb1⟩; obtain ⟨d0, d1, d2, d3, hs1⟩ := box4_next hb1 (by omega) c0 c1 c2 c3; have X1 := Lib.hid (X0.out.trans (hb1.mono (by omega))); have R1 := Lib.hid (R0.out.next hb1); clear hb1))
        | (go_at_call 85; ((with_reducible refine (has_any _ _ a _ _ _ _ _ _ _).mono ?_); rintro e2 w2 ⟨rfl, hb2⟩; obtain ⟨f0, f1, f2, f3, hs2⟩ := box4_next hb2 (by omega) d0 d1 d2 d3; have X2 := Lib.hid (X1.out.trans (hb2.mono (by omega))); have R2 := Lib.hid (R1.out.next hb2); clear hb2))
        | (go_at_call 92; ((with_reducible refine (multiple_any k a (ordN m (tabOf X) a) m e b1 o1 la ca b2 o2 lb cb (tabOf X) (tabOf Y) _ R2.out la' HD.out H1.out).mono ?_); rintro e3 w3 ⟨rfl, hb3⟩; obtain ⟨g0, g1, g2, g3, hs3⟩ := box4_next hb3 (by omega) f0 f1 f2 f3; have X3 := Lib.hid (X2.out.trans (hb3.mono (by omega))); clear hb3)))
      go_ret
      exact ⟨ret_int hz.out.symm, X3.out⟩
set_option maxHeartbeats 2000000 in
theorem pow_any (n o : Int) (A B : Option Addr) (la ca lb cb : Nat) (X Y : List Int) (a : Int) (k : Int) (w : World) (hX : Ints w w.heap.size A la X) (hY : Ints w w.heap.size B lb Y) (hla : la ≤ 9223372036854775807) (hlb : lb ≤ 9223372036854775807) (hca : la ≤ ca) (hcb : lb ≤ cb) (hk1 : k ≤ 9223372036854775807) :
    Calls Try.prog 31 #[.agg #[.int .i64 n, .int .i64 o, .slice A la ca, .slice B lb cb], .int .i64 a, .int .i64 k] w fun e' w' => e' = .returned (.int .i64 (powV n o X Y a k)) ∧ Below w.heap.size w w' := by
  cases hv : validB n o X Y
  · have hz := Lib.hid (powV_no (n := n) (o := o) (X := X) (Y := Y) (a := a) (k := k) (fun g => by have := g.1; rw [hv] at this; cases this))
    obtain ⟨c0, c1, c2, c3, hs⟩ := box4_new w (.int .i64 n) (.int .i64 o) (.slice A la ca) (.slice B lb cb) 25
    obtain ⟨W, hW⟩ : ∃ W, w.alloc (.cells #[.int .i64 n, .int .i64 o, .slice A la ca, .slice B lb cb] 25) = W := ⟨_, rfl⟩
    have HB := Lib.hid (show Below w.heap.size w W by subst hW; exact (Below.refl w.heap.size w).alloc (Nat.le_refl _) _)
    have H0X := Lib.hid (hX.next HB.out)
    have H0Y := Lib.hid (hY.next HB.out)
    rw [hW] at c0 c1 c2 c3 hs
    have HW := Lib.hid hW
    clear hW hX hY
    go_enter Try.func31, Try.ntmps31
    go_wp2_with (fail)
    rw [HW.out]
    have X0 := HB
    go_wp2_with (first
      | (go_at_call 16; ((with_reducible refine (valid_any _ _ _ _ _ _ _ _ X Y _ H0X.out H0Y.out hla hlb hca hcb).mono ?_); rintro e1 w1 ⟨rfl, hb1⟩; obtain ⟨d0, d1, d2, d3, hs1⟩ := box4_next hb1 (by omega) c0 c1 c2 c3; have X1 := Lib.hid (X0.out.trans (hb1.mono (by omega))); clear hb1)))
    go_ret
    exact ⟨ret_int hz.out.symm, X1.out⟩
  · cases ha : inB n a
    · have hz := Lib.hid (powV_no (n := n) (o := o) (X := X) (Y := Y) (a := a) (k := k) (fun g => by have := g.2; simp [ha] at this))
      obtain ⟨c0, c1, c2, c3, hs⟩ := box4_new w (.int .i64 n) (.int .i64 o) (.slice A la ca) (.slice B lb cb) 25
      obtain ⟨W, hW⟩ : ∃ W, w.alloc (.cells #[.int .i64 n, .int .i64 o, .slice A la ca, .slice B lb cb] 25) = W := ⟨_, rfl⟩
      have HB := Lib.hid (show Below w.heap.size w W by subst hW; exact (Below.refl w.heap.size w).alloc (Nat.le_refl _) _)
      have H0X := Lib.hid (hX.next HB.out)
      have H0Y := Lib.hid (hY.next HB.out)
      rw [hW] at c0 c1 c2 c3 hs
      have HW := Lib.hid hW
      clear hW hX hY
      go_enter Try.func31, Try.ntmps31
      go_wp2_with (fail)
      rw [HW.out]
      have X0 := HB
      go_wp2_with (first
        | (go_at_call 16; ((with_reducible refine (valid_any _ _ _ _ _ _ _ _ X Y _ H0X.out H0Y.out hla hlb hca hcb).mono ?_); rintro e1 w1 ⟨rfl, hb1⟩; obtain ⟨d0, d1, d2, d3, hs1⟩ := box4_next hb1 (by omega) c0 c1 c2 c3; have X1 := Lib.hid (X0.out.trans (hb1.mono (by omega))); clear hb1))
        | (go_at_call 85; ((with_reducible refine (has_any _ _ a _ _ _ _ _ _ _).mono ?_); rintro e2 w2 ⟨rfl, hb2⟩; obtain ⟨f0, f1, f2, f3, hs2⟩ := box4_next hb2 (by omega) d0 d1 d2 d3; have X2 := Lib.hid (X1.out.trans (hb2.mono (by omega))); clear hb2)))
      go_ret
      exact ⟨ret_int hz.out.symm, X2.out⟩
    · by_cases hk : k < 0
      · have hz := Lib.hid (powV_no (n := n) (o := o) (X := X) (Y := Y) (a := a) (k := k) (fun g => by have := g.2.2; omega))
        obtain ⟨c0, c1, c2, c3, hs⟩ := box4_new w (.int .i64 n) (.int .i64 o) (.slice A la ca) (.slice B lb cb) 25
        obtain ⟨W, hW⟩ : ∃ W, w.alloc (.cells #[.int .i64 n, .int .i64 o, .slice A la ca, .slice B lb cb] 25) = W := ⟨_, rfl⟩
        have HB := Lib.hid (show Below w.heap.size w W by subst hW; exact (Below.refl w.heap.size w).alloc (Nat.le_refl _) _)
        have H0X := Lib.hid (hX.next HB.out)
        have H0Y := Lib.hid (hY.next HB.out)
        rw [hW] at c0 c1 c2 c3 hs
        have HW := Lib.hid hW
        clear hW hX hY
        go_enter Try.func31, Try.ntmps31
        go_wp2_with (fail)
        rw [HW.out]
        have X0 := HB
        go_wp2_with (first
          | (go_at_call 16; ((with_reducible refine (valid_any _ _ _ _ _ _ _ _ X Y _ H0X.out H0Y.out hla hlb hca hcb).mono ?_); rintro e1 w1 ⟨rfl, hb1⟩; obtain ⟨d0, d1, d2, d3, hs1⟩ := box4_next hb1 (by omega) c0 c1 c2 c3; have X1 := Lib.hid (X0.out.trans (hb1.mono (by omega))); clear hb1))
          | (go_at_call 85; ((with_reducible refine (has_any _ _ a _ _ _ _ _ _ _).mono ?_); rintro e2 w2 ⟨rfl, hb2⟩; obtain ⟨f0, f1, f2, f3, hs2⟩ := box4_next hb2 (by omega) d0 d1 d2 d3; have X2 := Lib.hid (X1.out.trans (hb2.mono (by omega))); clear hb2)))
        go_ret
        exact ⟨ret_int hz.out.symm, X2.out⟩
      · obtain ⟨m, e, b1, o1, b2, o2, rfl, rfl, rfl, rfl, hr, ⟨hop, _, hneg, _⟩, _, _, _, _⟩ := valid_data hv hX hY hca hcb
        have ha' := of_decide_eq_true ha
        obtain ⟨a, rfl⟩ := Int.eq_ofNat_of_zero_le ha'.1
        have la' : a < m := by omega
        obtain ⟨k, rfl⟩ := Int.eq_ofNat_of_zero_le (show 0 ≤ k by omega)
        have HR := Lib.hid hr
        clear hr hop hneg
        have hz := Lib.hid (powV_yes (k := k) (hv) (ha) (by omega))
        obtain ⟨c0, c1, c2, c3, hs⟩ := box4_new w (.int .i64 m) (.int .i64 e) (.slice (some ⟨b1, o1, none⟩) la ca) (.slice (some ⟨b2, o2, none⟩) lb cb) 25
        obtain ⟨W, hW⟩ : ∃ W, w.alloc (.cells #[.int .i64 m, .int .i64 e, .slice (some ⟨b1, o1, none⟩) la ca, .slice (some ⟨b2, o2, none⟩) lb cb] 25) = W := ⟨_, rfl⟩
        have HB := Lib.hid (show Below w.heap.size w W by subst hW; exact (Below.refl w.heap.size w).alloc (Nat.le_refl _) _)
        have H0X := Lib.hid (hX.next HB.out)
        have H0Y := Lib.hid (hY.next HB.out)
        rw [hW] at c0 c1 c2 c3 hs
        have HW := Lib.hid hW
        clear hW hX hY
        have R0 := Lib.hid (HR.out.next HB.out)
        go_enter Try.func31, Try.ntmps31
        go_wp2_with (fail)
        rw [HW.out]
        have X0 := HB
        go_wp2_with (first
          | (go_at_call 16; ((with_reducible refine (valid_any _ _ _ _ _ _ _ _ X Y _ H0X.out H0Y.out hla hlb hca hcb).mono ?_); rintro e1 w1 ⟨rfl, hb1⟩; obtain ⟨d0, d1, d2, d3, hs1⟩ := box4_next hb1 (by omega) c0 c1 c2 c3; have X1 := Lib.hid (X0.out.trans (hb1.mono (by omega))); have R1 := Lib.hid (R0.out.next hb1); clear hb1))
          | (go_at_call 85; ((with_reducible refine (has_any _ _ a _ _ _ _ _ _ _).mono ?_); rintro e2 w2 ⟨rfl, hb2⟩; obtain ⟨f0, f1, f2, f3, hs2⟩ := box4_next hb2 (by omega) d0 d1 d2 d3; have X2 := Lib.hid (X1.out.trans (hb2.mono (by omega))); have R2 := Lib.hid (R1.out.next hb2); clear hb2))
          | (go_at_call 96; ((with_reducible refine (power_any k a m e b1 o1 la ca b2 o2 lb cb (tabOf X) (tabOf Y) _ R2.out la' (by omega)).mono ?_); rintro e3 w3 ⟨rfl, hb3⟩; obtain ⟨g0, g1, g2, g3, hs3⟩ := box4_next hb3 (by omega) f0 f1 f2 f3; have X3 := Lib.hid (X2.out.trans (hb3.mono (by omega))); clear hb3)))
        go_ret
        exact ⟨ret_int hz.out.symm, X3.out⟩
set_option maxHeartbeats 2000000 in
theorem char_any (n o : Int) (A B : Option Addr) (la ca lb cb : Nat) (X Y : List Int) (w : World) (hX : Ints w w.heap.size A la X) (hY : Ints w w.heap.size B lb Y) (hla : la ≤ 9223372036854775807) (hlb : lb ≤ 9223372036854775807) (hca : la ≤ ca) (hcb : lb ≤ cb) :
    Calls Try.prog 19 #[.agg #[.int .i64 n, .int .i64 o, .slice A la ca, .slice B lb cb]] w fun e' w' => e' = .returned (.int .i64 (charV n o X Y)) ∧ Below w.heap.size w w' := by
  cases hv : validB n o X Y
  · have hz := Lib.hid (charV_no (n := n) (o := o) (X := X) (Y := Y) (fun g => by rw [hv] at g; cases g))
    obtain ⟨c0, c1, c2, c3, hs⟩ := box4_new w (.int .i64 n) (.int .i64 o) (.slice A la ca) (.slice B lb cb) 25
    obtain ⟨W, hW⟩ : ∃ W, w.alloc (.cells #[.int .i64 n, .int .i64 o, .slice A la ca, .slice B lb cb] 25) = W := ⟨_, rfl⟩
    have HB := Lib.hid (show Below w.heap.size w W by subst hW; exact (Below.refl w.heap.size w).alloc (Nat.le_refl _) _)
    have H0X := Lib.hid (hX.next HB.out)
    have H0Y := Lib.hid (hY.next HB.out)
    rw [hW] at c0 c1 c2 c3 hs
    have HW := Lib.hid hW
    clear hW hX hY
    go_enter Try.func19, Try.ntmps19
    go_wp2_with (fail)
    rw [HW.out]
    have X0 := HB
    go_wp2_with (first
      | (go_at_call 16; ((with_reducible refine (valid_any _ _ _ _ _ _ _ _ X Y _ H0X.out H0Y.out hla hlb hca hcb).mono ?_); rintro e1 w1 ⟨rfl, hb1⟩; obtain ⟨d0, d1, d2, d3, hs1⟩ := box4_next hb1 (by omega) c0 c1 c2 c3; have X1 := Lib.hid (X0.out.trans (hb1.mono (by omega))); clear hb1)))
    go_ret
    exact ⟨ret_int hz.out.symm, X1.out⟩
  · obtain ⟨m, e, b1, o1, b2, o2, rfl, rfl, rfl, rfl, hr, ⟨hop, _, hneg, _⟩, _, _, _, _⟩ := valid_data hv hX hY hca hcb
    have la' : e < m := hr.he
    have HD := Lib.hid (ordN_spec (fun k hk => (hr.ts.2 k hk).2) hop hneg hr.hm la')
    have H1 := Lib.hid (seqT_one hop hr.hm la')
    have HR := Lib.hid hr
    clear hr hop hneg
    have hz := Lib.hid (charV_yes (hv))
    obtain ⟨c0, c1, c2, c3, hs⟩ := box4_new w (.int .i64 m) (.int .i64 e) (.slice (some ⟨b1, o1, none⟩) la ca) (.slice (some ⟨b2, o2, none⟩) lb cb) 25
    obtain ⟨W, hW⟩ : ∃ W, w.alloc (.cells #[.int .i64 m, .int .i64 e, .slice (some ⟨b1, o1, none⟩) la ca, .slice (some ⟨b2, o2, none⟩) lb cb] 25) = W := ⟨_, rfl⟩
    have HB := Lib.hid (show Below w.heap.size w W by subst hW; exact (Below.refl w.heap.size w).alloc (Nat.le_refl _) _)
    have H0X := Lib.hid (hX.next HB.out)
    have H0Y := Lib.hid (hY.next HB.out)
    rw [hW] at c0 c1 c2 c3 hs
    have HW := Lib.hid hW
    clear hW hX hY
    have R0 := Lib.hid (HR.out.next HB.out)
    go_enter Try.func19, Try.ntmps19
    go_wp2_with (fail)
    rw [HW.out]
    have X0 := HB
    go_wp2_with (first
      | (go_at_call 16; ((with_reducible refine (valid_any _ _ _ _ _ _ _ _ X Y _ H0X.out H0Y.out hla hlb hca hcb).mono ?_); rintro e1 w1 ⟨rfl, hb1⟩; obtain ⟨d0, d1, d2, d3, hs1⟩ := box4_next hb1 (by omega) c0 c1 c2 c3; have X1 := Lib.hid (X0.out.trans (hb1.mono (by omega))); have R1 := Lib.hid (R0.out.next hb1); clear hb1))
      | (go_at_call 84; ((with_reducible refine (sumOrder_any e (ordN m (tabOf X) e) m e b1 o1 la ca b2 o2 lb cb (tabOf X) (tabOf Y) _ R1.out la' HD.out H1.out).mono ?_); rintro e2 w2 ⟨rfl, hb2⟩; obtain ⟨f0, f1, f2, f3, hs2⟩ := box4_next hb2 (by omega) d0 d1 d2 d3; have X2 := Lib.hid (X1.out.trans (hb2.mono (by omega))); clear hb2)))
    go_ret
    exact ⟨ret_int hz.out.symm, X2.out⟩
set_option maxHeartbeats 2000000 in
theorem sneg_any (n o : Int) (A B : Option Addr) (la ca lb cb : Nat) (X Y : List Int) (a : Int) (w : World) (hX : Ints w w.heap.size A la X) (hY : Ints w w.heap.size B lb Y) (hla : la ≤ 9223372036854775807) (hlb : lb ≤ 9223372036854775807) (hca : la ≤ ca) (hcb : lb ≤ cb) :
    Calls Try.prog 26 #[.agg #[.int .i64 n, .int .i64 o, .slice A la ca, .slice B lb cb], .int .i64 a] w fun e' w' => e' = .returned (.int .i64 (negV n o X Y a)) ∧ Below w.heap.size w w' := by
  have HH := Lib.hid (show wrap64 (n - 1) = hiOf n from rfl)
  cases he : elB (hiOf n) [a]
  · have hz := Lib.hid (negV_no (n := n) (o := o) (X := X) (Y := Y) (a := a) (fun g => by have h1 := g.1; have h2 := g.2; simp [hi_valid h1, elB_one] at he; simp [he] at h2))
    have bA : Below w.heap.size w (w.alloc (.cells #[.int .i64 n, .int .i64 o, .slice A la ca, .slice B lb cb] 25)) := (Below.refl w.heap.size w).alloc (Nat.le_refl _) _
    have bB : Below w.heap.size w ((w.alloc (.cells #[.int .i64 n, .int .i64 o, .slice A la ca, .slice B lb cb] 25)).alloc (.cells #[.int .i64 a] 3)) := bA.alloc (by simp) _
    have k0 : Blk ((w.alloc (.cells #[.int .i64 n, .int .i64 o, .slice A la ca, .slice B lb cb] 25)).alloc (.cells #[.int .i64 a] 3)) w.heap.size 25 #[.int .i64 n, .int .i64 o, .slice A la ca, .slice B lb cb] := (Blk.new w _ _).alloc _
    have hE : Ints ((w.alloc (.cells #[.int .i64 n, .int .i64 o, .slice A la ca, .slice B lb cb] 25)).alloc (.cells #[.int .i64 a] 3)) (w.heap.size + 2) (some ⟨w.heap.size + 1, 0, none⟩) 1 [a] := by
      have := ints_one (w := w.alloc (.cells #[.int .i64 n, .int .i64 o, .slice A la ca, .slice B lb cb] 25)) (v := a) (T := 3)
      simpa using this
    obtain ⟨W, hW⟩ : ∃ W, (w.alloc (.cells #[.int .i64 n, .int .i64 o, .slice A la ca, .slice B lb cb] 25)).alloc (.cells #[.int .i64 a] 3) = W := ⟨_, rfl⟩
    rw [hW] at bB k0 hE
    have HB := Lib.hid bB
    have HE := Lib.hid hE
    have hs := k0.lt
    have c0 := k0.cell 0
    have c1 := k0.cell 1
    have c2 := k0.cell 2
    have c3 := k0.cell 3
    simp at c0 c1 c2 c3
    have H0X := Lib.hid (hX.next HB.out)
    have H0Y := Lib.hid (hY.next HB.out)
    have HW := Lib.hid hW
    clear hW hX hY bA bB k0 hE
    go_enter Try.func26, Try.ntmps26
    go_wp2_with (fail)
    rw [HW.out]
    have X0 := HB
    go_wp2_with (first
      | (go_at_call 90; ((with_reducible refine (l1Elements_any _ _ _ _ _ [a] _ _ HH.out HE.out (by omega)).mono ?_); rintro e50 w50 ⟨rfl, rfl⟩)))
    go_ret
    exact ⟨ret_int hz.out.symm, HB.out⟩
  · cases hv : validB n o X Y
    · have hz := Lib.hid (negV_no (n := n) (o := o) (X := X) (Y := Y) (a := a) (fun g => by have := g.1; rw [hv] at this; cases this))
      have bA : Below w.heap.size w (w.alloc (.cells #[.int .i64 n, .int .i64 o, .slice A la ca, .slice B lb cb] 25)) := (Below.refl w.heap.size w).alloc (Nat.le_refl _) _
      have bB : Below w.heap.size w ((w.alloc (.cells #[.int .i64 n, .int .i64 o, .slice A la ca, .slice B lb cb] 25)).alloc (.cells #[.int .i64 a] 3)) := bA.alloc (by simp) _
      have k0 : Blk ((w.alloc (.cells #[.int .i64 n, .int .i64 o, .slice A la ca, .slice B lb cb] 25)).alloc (.cells #[.int .i64 a] 3)) w.heap.size 25 #[.int .i64 n, .int .i64 o, .slice A la ca, .slice B lb cb] := (Blk.new w _ _).alloc _
      have hE : Ints ((w.alloc (.cells #[.int .i64 n, .int .i64 o, .slice A la ca, .slice B lb cb] 25)).alloc (.cells #[.int .i64 a] 3)) (w.heap.size + 2) (some ⟨w.heap.size + 1, 0, none⟩) 1 [a] := by
        have := ints_one (w := w.alloc (.cells #[.int .i64 n, .int .i64 o, .slice A la ca, .slice B lb cb] 25)) (v := a) (T := 3)
        simpa using this
      obtain ⟨W, hW⟩ : ∃ W, (w.alloc (.cells #[.int .i64 n, .int .i64 o, .slice A la ca, .slice B lb cb] 25)).alloc (.cells #[.int .i64 a] 3) = W := ⟨_, rfl⟩
      rw [hW] at bB k0 hE
      have HB := Lib.hid bB
      have HE := Lib.hid hE
      have hs := k0.lt
      have c0 := k0.cell 0
      have c1 := k0.cell 1
      have c2 := k0.cell 2
      have c3 := k0.cell 3
      simp at c0 c1 c2 c3
      have H0X := Lib.hid (hX.next HB.out)
      have H0Y := Lib.hid (hY.next HB.out)
      have HW := Lib.hid hW
      clear hW hX hY bA bB k0 hE
      go_enter Try.func26, Try.ntmps26
      go_wp2_with (fail)
      rw [HW.out]
      have X0 := HB
      go_wp2_with (first
        | (go_at_call 90; ((with_reducible refine (l1Elements_any _ _ _ _ _ [a] _ _ HH.out HE.out (by omega)).mono ?_); rintro e50 w50 ⟨rfl, rfl⟩))
        | (go_at_call 17; ((with_reducible refine (specValid_any _ _ _ _ _ _ _ _ X Y _ H0X.out H0Y.out hla hlb hca hcb).mono ?_); rintro e1 w1 ⟨rfl, hb1⟩; obtain ⟨d0, d1, d2, d3, hs1⟩ := box4_next hb1 (by omega) c0 c1 c2 c3; have X1 := Lib.hid (X0.out.trans (hb1.mono (by omega))); clear hb1)))
      go_ret
      exact ⟨ret_int hz.out.symm, X1.out⟩
    · obtain ⟨m, e, b1, o1, b2, o2, rfl, rfl, rfl, rfl, hr, ⟨hop, _, hneg, _⟩, _, _, _, _⟩ := valid_data hv hX hY hca hcb
      have ha : inB m a = true := by have h9 := he; rw [hi_valid hv, elB_one] at h9; exact h9
      have ha' := of_decide_eq_true ha
      obtain ⟨a, rfl⟩ := Int.eq_ofNat_of_zero_le ha'.1
      have la' : a < m := by omega
      have HR := Lib.hid hr
      clear hr hop hneg
      have hz := Lib.hid (negV_yes (hv) (ha))
      have bA : Below w.heap.size w (w.alloc (.cells #[.int .i64 m, .int .i64 e, .slice (some ⟨b1, o1, none⟩) la ca, .slice (some ⟨b2, o2, none⟩) lb cb] 25)) := (Below.refl w.heap.size w).alloc (Nat.le_refl _) _
      have bB : Below w.heap.size w ((w.alloc (.cells #[.int .i64 m, .int .i64 e, .slice (some ⟨b1, o1, none⟩) la ca, .slice (some ⟨b2, o2, none⟩) lb cb] 25)).alloc (.cells #[.int .i64 a] 3)) := bA.alloc (by simp) _
      have k0 : Blk ((w.alloc (.cells #[.int .i64 m, .int .i64 e, .slice (some ⟨b1, o1, none⟩) la ca, .slice (some ⟨b2, o2, none⟩) lb cb] 25)).alloc (.cells #[.int .i64 a] 3)) w.heap.size 25 #[.int .i64 m, .int .i64 e, .slice (some ⟨b1, o1, none⟩) la ca, .slice (some ⟨b2, o2, none⟩) lb cb] := (Blk.new w _ _).alloc _
      have hE : Ints ((w.alloc (.cells #[.int .i64 m, .int .i64 e, .slice (some ⟨b1, o1, none⟩) la ca, .slice (some ⟨b2, o2, none⟩) lb cb] 25)).alloc (.cells #[.int .i64 a] 3)) (w.heap.size + 2) (some ⟨w.heap.size + 1, 0, none⟩) 1 [a] := by
        have := ints_one (w := w.alloc (.cells #[.int .i64 m, .int .i64 e, .slice (some ⟨b1, o1, none⟩) la ca, .slice (some ⟨b2, o2, none⟩) lb cb] 25)) (v := a) (T := 3)
        simpa using this
      obtain ⟨W, hW⟩ : ∃ W, (w.alloc (.cells #[.int .i64 m, .int .i64 e, .slice (some ⟨b1, o1, none⟩) la ca, .slice (some ⟨b2, o2, none⟩) lb cb] 25)).alloc (.cells #[.int .i64 a] 3) = W := ⟨_, rfl⟩
      rw [hW] at bB k0 hE
      have HB := Lib.hid bB
      have HE := Lib.hid hE
      have hs := k0.lt
      have c0 := k0.cell 0
      have c1 := k0.cell 1
      have c2 := k0.cell 2
      have c3 := k0.cell 3
      simp at c0 c1 c2 c3
      have H0X := Lib.hid (hX.next HB.out)
      have H0Y := Lib.hid (hY.next HB.out)
      have HW := Lib.hid hW
      clear hW hX hY bA bB k0 hE
      have R0 := Lib.hid (HR.out.next HB.out)
      go_enter Try.func26, Try.ntmps26
      go_wp2_with (fail)
      rw [HW.out]
      have X0 := HB
      go_wp2_with (first
        | (go_at_call 90; ((with_reducible refine (l1Elements_any _ _ _ _ _ [(a : Int)] _ _ HH.out HE.out (by omega)).mono ?_); rintro e50 w50 ⟨rfl, rfl⟩))
        | (go_at_call 17; ((with_reducible refine (specValid_any _ _ _ _ _ _ _ _ X Y _ H0X.out H0Y.out hla hlb hca hcb).mono ?_); rintro e1 w1 ⟨rfl, hb1⟩; obtain ⟨d0, d1, d2, d3, hs1⟩ := box4_next hb1 (by omega) c0 c1 c2 c3; have X1 := Lib.hid (X0.out.trans (hb1.mono (by omega))); have R1 := Lib.hid (R0.out.next hb1); clear hb1))
        | (go_at_call 91; ((with_reducible refine (l1Neg_any a m e b1 o1 la ca b2 o2 lb cb (tabOf X) (tabOf Y) _ R1.out la').mono ?_); rintro e2 w2 ⟨rfl, hb2⟩; obtain ⟨f0, f1, f2, f3, hs2⟩ := box4_next hb2 (by omega) d0 d1 d2 d3; have X2 := Lib.hid (X1.out.trans (hb2.mono (by omega))); clear hb2)))
      go_ret
      exact ⟨ret_int hz.out.symm, X2.out⟩
set_option maxHeartbeats 2000000 in
theorem stimes_any (n o : Int) (A B : Option Addr) (la ca lb cb : Nat) (X Y : List Int) (k : Int) (a : Int) (w : World) (hX : Ints w w.heap.size A la X) (hY : Ints w w.heap.size B lb Y) (hla : la ≤ 9223372036854775807) (hlb : lb ≤ 9223372036854775807) (hca : la ≤ ca) (hcb : lb ≤ cb) :
    Calls Try.prog 29 #[.agg #[.int .i64 n, .int .i64 o, .slice A la ca, .slice B lb cb], .int .i64 k, .int .i64 a] w fun e' w' => e' = .returned (.int .i64 (timesV n o X Y k a)) ∧ Below w.heap.size w w' := by
  have HH := Lib.hid (show wrap64 (n - 1) = hiOf n from rfl)
  cases he : elB (hiOf n) [a]
  · have hz := Lib.hid (timesV_no (n := n) (o := o) (X := X) (Y := Y) (k := k) (a := a) (fun g => by have h1 := g.1; have h2 := g.2; simp [hi_valid h1, elB_one] at he; simp [he] at h2))
    have bA : Below w.heap.size w (w.alloc (.cells #[.int .i64 n, .int .i64 o, .slice A la ca, .slice B lb cb] 25)) := (Below.refl w.heap.size w).alloc (Nat.le_refl _) _
    have bB : Below w.heap.size w ((w.alloc (.cells #[.int .i64 n, .int .i64 o, .slice A la ca, .slice B lb cb] 25)).alloc (.cells #[.int .i64 a] 3)) := bA.alloc (by simp) _
    have k0 : Blk ((w.alloc (.cells #[.int .i64 n, .int .i64 o, .slice A la ca, .slice B lb cb] 25)).alloc (.cells #[.int .i64 a] 3)) w.heap.size 25 #[.int .i64 n, .int .i64 o, .slice A la ca, .slice B lb cb] := (Blk.new w _ _).alloc _
    have hE : Ints ((w.alloc (.cells #[.int .i64 n, .int .i64 o, .slice A la ca, .slice B lb cb] 25)).alloc (.cells #[.int .i64 a] 3)) (w.heap.size + 2) (some ⟨w.heap.size + 1, 0, none⟩) 1 [a] := by
      have := ints_one (w := w.alloc (.cells #[.int .i64 n, .int .i64 o, .slice A la ca, .slice B lb cb] 25)) (v := a) (T := 3)
      simpa using this
    obtain ⟨W, hW⟩ : ∃ W, (w.alloc (.cells #[.int .i64 n, .int .i64 o, .slice A la ca, .slice B lb cb] 25)).alloc (.cells #[.int .i64 a] 3) = W := ⟨_, rfl⟩
    rw [hW] at bB k0 hE
    have HB := Lib.hid bB
    have HE := Lib.hid hE
    have hs := k0.lt
    have c0 := k0.cell 0
    have c1 := k0.cell 1
    have c2 := k0.cell 2
    have c3 := k0.cell 3
    simp at c0 c1 c2 c3
    have H0X := Lib.hid (hX.next HB.out)
    have H0Y := Lib.hid (hY.next HB.out)
    have HW := Lib.hid hW
    clear hW hX hY bA bB k0 hE
    go_enter Try.func29, Try.ntmps29
    go_wp2_with (fail)
    rw [HW.out]
    have X0 := HB
    go_wp2_with (first
      | (go_at_call 90; ((with_reducible refine (l1Elements_any _ _ _ _ _ [a] _ _ HH.out HE.out (by omega)).mono ?_); rintro e50 w50 ⟨rfl, rfl⟩)))
    go_ret
    exact ⟨ret_int hz.out.symm, HB.out⟩
  · cases hv : validB n o X Y
    · have hz := Lib.hid (timesV_no (n := n) (o := o) (X := X) (Y := Y) (k := k) (a := a) (fun g => by have := g.1; rw [hv] at this; cases this))
      have bA : Below w.heap.size w (w.alloc (.cells #[.int .i64 n, .int .i64 o, .slice A la ca, .slice B lb cb] 25)) := (Below.refl w.heap.size w).alloc (Nat.le_refl _) _
      have bB : Below w.heap.size w ((w.alloc (.cells #[.int .i64 n, .int .i64 o, .slice A la ca, .slice B lb cb] 25)).alloc (.cells #[.int .i64 a] 3)) := bA.alloc (by simp) _
      have k0 : Blk ((w.alloc (.cells #[.int .i64 n, .int .i64 o, .slice A la ca, .slice B lb cb] 25)).alloc (.cells #[.int .i64 a] 3)) w.heap.size 25 #[.int .i64 n, .int .i64 o, .slice A la ca, .slice B lb cb] := (Blk.new w _ _).alloc _
      have hE : Ints ((w.alloc (.cells #[.int .i64 n, .int .i64 o, .slice A la ca, .slice B lb cb] 25)).alloc (.cells #[.int .i64 a] 3)) (w.heap.size + 2) (some ⟨w.heap.size + 1, 0, none⟩) 1 [a] := by
        have := ints_one (w := w.alloc (.cells #[.int .i64 n, .int .i64 o, .slice A la ca, .slice B lb cb] 25)) (v := a) (T := 3)
        simpa using this
      obtain ⟨W, hW⟩ : ∃ W, (w.alloc (.cells #[.int .i64 n, .int .i64 o, .slice A la ca, .slice B lb cb] 25)).alloc (.cells #[.int .i64 a] 3) = W := ⟨_, rfl⟩
      rw [hW] at bB k0 hE
      have HB := Lib.hid bB
      have HE := Lib.hid hE
      have hs := k0.lt
      have c0 := k0.cell 0
      have c1 := k0.cell 1
      have c2 := k0.cell 2
      have c3 := k0.cell 3
      simp at c0 c1 c2 c3
      have H0X := Lib.hid (hX.next HB.out)
      have H0Y := Lib.hid (hY.next HB.out)
      have HW := Lib.hid hW
      clear hW hX hY bA bB k0 hE
      go_enter Try.func29, Try.ntmps29
      go_wp2_with (fail)
      rw [HW.out]
      have X0 := HB
      go_wp2_with (first
        | (go_at_call 90; ((with_reducible refine (l1Elements_any _ _ _ _ _ [a] _ _ HH.out HE.out (by omega)).mono ?_); rintro e50 w50 ⟨rfl, rfl⟩))
        | (go_at_call 17; ((with_reducible refine (specValid_any _ _ _ _ _ _ _ _ X Y _ H0X.out H0Y.out hla hlb hca hcb).mono ?_); rintro e1 w1 ⟨rfl, hb1⟩; obtain ⟨d0, d1, d2, d3, hs1⟩ := box4_next hb1 (by omega) c0 c1 c2 c3; have X1 := Lib.hid (X0.out.trans (hb1.mono (by omega))); clear hb1)))
      go_ret
      exact ⟨ret_int hz.out.symm, X1.out⟩
    · obtain ⟨m, e, b1, o1, b2, o2, rfl, rfl, rfl, rfl, hr, ⟨hop, _, hneg, _⟩, _, _, _, _⟩ := valid_data hv hX hY hca hcb
      have ha : inB m a = true := by have h9 := he; rw [hi_valid hv, elB_one] at h9; exact h9
      have ha' := of_decide_eq_true ha
      obtain ⟨a, rfl⟩ := Int.eq_ofNat_of_zero_le ha'.1
      have la' : a < m := by omega
      have HD := Lib.hid (ordN_spec (fun k hk => (hr.ts.2 k hk).2) hop hneg hr.hm la')
      have H1 := Lib.hid (seqT_one hop hr.hm la')
      have HR := Lib.hid hr
      clear hr hop hneg
      have hz := Lib.hid (timesV_yes (k := k) (hv) (ha))
      have bA : Below w.heap.size w (w.alloc (.cells #[.int .i64 m, .int .i64 e, .slice (some ⟨b1, o1, none⟩) la ca, .slice (some ⟨b2, o2, none⟩) lb cb] 25)) := (Below.refl w.heap.size w).alloc (Nat.le_refl _) _
      have bB : Below w.heap.size w ((w.alloc (.cells #[.int .i64 m, .int .i64 e, .slice (some ⟨b1, o1, none⟩) la ca, .slice (some ⟨b2, o2, none⟩) lb cb] 25)).alloc (.cells #[.int .i64 a] 3)) := bA.alloc (by simp) _
      have k0 : Blk ((w.alloc (.cells #[.int .i64 m, .int .i64 e, .slice (some ⟨b1, o1, none⟩) la ca, .slice (some ⟨b2, o2, none⟩) lb cb] 25)).alloc (.cells #[.int .i64 a] 3)) w.heap.size 25 #[.int .i64 m, .int .i64 e, .slice (some ⟨b1, o1, none⟩) la ca, .slice (some ⟨b2, o2, none⟩) lb cb] := (Blk.new w _ _).alloc _
      have hE : Ints ((w.alloc (.cells #[.int .i64 m, .int .i64 e, .slice (some ⟨b1, o1, none⟩) la ca, .slice (some ⟨b2, o2, none⟩) lb cb] 25)).alloc (.cells #[.int .i64 a] 3)) (w.heap.size + 2) (some ⟨w.heap.size + 1, 0, none⟩) 1 [a] := by
        have := ints_one (w := w.alloc (.cells #[.int .i64 m, .int .i64 e, .slice (some ⟨b1, o1, none⟩) la ca, .slice (some ⟨b2, o2, none⟩) lb cb] 25)) (v := a) (T := 3)
        simpa using this
      obtain ⟨W, hW⟩ : ∃ W, (w.alloc (.cells #[.int .i64 m, .int .i64 e, .slice (some ⟨b1, o1, none⟩) la ca, .slice (some ⟨b2, o2, none⟩) lb cb] 25)).alloc (.cells #[.int .i64 a] 3) = W := ⟨_, rfl⟩
      rw [hW] at bB k0 hE
      have HB := Lib.hid bB
      have HE := Lib.hid hE
      have hs := k0.lt
      have c0 := k0.cell 0
      have c1 := k0.cell 1
      have c2 := k0.cell 2
      have c3 := k0.cell 3
      simp at c0 c1 c2 c3
      have H0X := Lib.hid (hX.next HB.out)
      have H0Y := Lib.hid (hY.next HB.out)
      have HW := Lib.hid hW
      clear hW hX hY bA bB k0 hE
      have R0 := Lib.hid (HR.out.next HB.out)
      go_enter Try.func29, Try.ntmps29
      go_wp2_with (fail)
      rw [HW.out]
      have X0 := HB
      go_wp2_with (first
        | (go_at_call 90; ((with_reducible refine (l1Elements_any _ _ _ _ _ [(a : Int)] _ _ HH.out HE.out (by omega)).mono ?_); rintro e50 w50 ⟨rfl, rfl⟩))
        | (go_at_call 17; ((with_reducible refine (specValid_any _ _ _ _ _ _ _ _ X Y _ H0X.out H0Y.out hla hlb hca hcb).mono ?_); rintro e1 w1 ⟨rfl, hb1⟩; obtain ⟨d0, d1, d2, d3, hs1⟩ := box4_next hb1 (by omega) c0 c1 c2 c3; have X1 := Lib.hid (X0.out.trans (hb1.mono (by omega))); have R1 := Lib.hid (R0.out.next hb1); clear hb1))
        | (go_at_call 95; ((with_reducible refine (l1Times_any k a (ordN m (tabOf X) a) m e b1 o1 la ca b2 o2 lb cb (tabOf X) (tabOf Y) _ R1.out la' HD.out H1.out).mono ?_); rintro e2 w2 ⟨rfl, hb2⟩; obtain ⟨f0, f1, f2, f3, hs2⟩ := box4_next hb2 (by omega) d0 d1 d2 d3; have X2 := Lib.hid (X1.out.trans (hb2.mono (by omega))); clear hb2)))
      go_ret
      exact ⟨ret_int hz.out.symm, X2.out⟩
set_option maxHeartbeats 2000000 in
theorem spow_any (n o : Int) (A B : Option Addr) (la ca lb cb : Nat) (X Y : List Int) (a : Int) (k : Int) (w : World) (hX : Ints w w.heap.size A la X) (hY : Ints w w.heap.size B lb Y) (hla : la ≤ 9223372036854775807) (hlb : lb ≤ 9223372036854775807) (hca : la ≤ ca) (hcb : lb ≤ cb) (hk1 : k ≤ 9223372036854775807) :
    Calls Try.prog 32 #[.agg #[.int .i64 n, .int .i64 o, .slice A la ca, .slice B lb cb], .int .i64 a, .int .i64 k] w fun e' w' => e' = .returned (.int .i64 (powV n o X Y a k)) ∧ Below w.heap.size w w' := by
  have HH := Lib.hid (show wrap64 (n - 1) = hiOf n from rfl)
  cases he : elB (hiOf n) [a]
  · have hz := Lib.hid (powV_no (n := n) (o := o) (X := X) (Y := Y) (a := a) (k := k) (fun g => by have h1 := g.1; have h2 := g.2; simp [hi_valid h1, elB_one] at he; simp [he] at h2))
    have bA : Below w.heap.size w (w.alloc (.cells #[.int .i64 n, .int .i64 o, .slice A la ca, .slice B lb cb] 25)) := (Below.refl w.heap.size w).alloc (Nat.le_refl _) _
    have bB : Below w.heap.size w ((w.alloc (.cells #[.int .i64 n, .int .i64 o, .slice A la ca, .slice B lb cb] 25)).alloc (.cells #[.int .i64 a] 3)) := bA.alloc (by simp) _
    have k0 : Blk ((w.alloc (.cells #[.int .i64 n, .int .i64 o, .slice A la ca, .slice B lb cb] 25)).alloc (.cells #[.int .i64 a] 3)) w.heap.size 25 #[.int .i64 n, .int .i64 o, .slice A la ca, .slice B lb cb] := (Blk.new w _ _).alloc _
    have hE : Ints ((w.alloc (.cells #[.int .i64 n, .int .i64 o, .slice A la ca, .slice B lb cb] 25)).alloc (.cells #[.int .i64 a] 3)) (w.heap.size + 2) (some ⟨w.heap.size + 1, 0, none⟩) 1 [a] := by
      have := ints_one (w := w.alloc (.cells #[.int .i64 n, .int .i64 o, .slice A la ca, .slice B lb cb] 25)) (v := a) (T := 3)
      simpa using this
    obtain ⟨W, hW⟩ : ∃ W, (w.alloc (.cells #[.int .i64 n, .int .i64 o, .slice A la ca, .slice B lb cb] 25)).alloc (.cells #[.int .i64 a] 3) = W := ⟨_, rfl⟩
    rw [hW] at bB k0 hE
    have HB := Lib.hid bB
    have HE := Lib.hid hE
    have hs := k0.lt
    have c0 := k0.cell 0
    have c1 := k0.cell 1
    have c2 := k0.cell 2
    have c3 := k0.cell 3
    simp at c0 c1 c2 c3
    have H0X := Lib.hid (hX.next HB.out)
    have H0Y := Lib.hid (hY.next HB.out)
    have HW := Lib.hid hW
    clear hW hX hY bA bB k0 hE
    go_enter Try.func32, Try.ntmps32
    go_wp2_with (fail)
    rw [HW.out]
    have X0 := HB
    go_wp2_with (first
      | (go_at_call 90; ((with_reducible refine (l1Elements_any _ _ _ _ _ [a] _ _ HH.out HE.out (by omega)).mono ?_); rintro e50 w50 ⟨rfl, rfl⟩)))
    go_ret
    exact ⟨ret_int hz.out.symm, HB.out⟩
  · by_cases hk : k < 0
    · have hz := Lib.hid (powV_no (n := n) (o := o) (X := X) (Y := Y) (a := a) (k := k) (fun g => by have := g.2.2; omega))
      have bA : Below w.heap.size w (w.alloc (.cells #[.int .i64 n, .int .i64 o, .slice A la ca, .slice B lb cb] 25)) := (Below.refl w.heap.size w).alloc (Nat.le_refl _) _
      have bB : Below w.heap.size w ((w.alloc (.cells #[.int .i64 n, .int .i64 o, .slice A la ca, .slice B lb cb] 25)).alloc (.cells #[.int .i64 a] 3)) := bA.alloc (by simp) _
      have k0 : Blk ((w.alloc (.cells #[.int .i64 n, .int .i64 o, .slice A la ca, .slice B lb cb] 25)).alloc (.cells #[.int .i64 a] 3)) w.heap.size 25 #[.int .i64 n, .int .i64 o, .slice A la ca, .slice B lb cb] := (Blk.new w _ _).alloc _
      have hE : Ints ((w.alloc (.cells #[.int .i64 n, .int .i64 o, .slice A la ca, .slice B lb cb] 25)).alloc (.cells #[.int .i64 a] 3)) (w.heap.size + 2) (some ⟨w.heap.size + 1, 0, none⟩) 1 [a] := by
        have := ints_one (w := w.alloc (.cells #[.int .i64 n, .int .i64 o, .slice A la ca, .slice B lb cb] 25)) (v := a) (T := 3)
        simpa using this
      obtain ⟨W, hW⟩ : ∃ W, (w.alloc (.cells #[.int .i64 n, .int .i64 o, .slice A la ca, .slice B lb cb] 25)).alloc (.cells #[.int .i64 a] 3) = W := ⟨_, rfl⟩
      rw [hW] at bB k0 hE
      have HB := Lib.hid bB
      have HE := Lib.hid hE
      have hs := k0.lt
      have c0 := k0.cell 0
      have c1 := k0.cell 1
      have c2 := k0.cell 2
      have c3 := k0.cell 3
      simp at c0 c1 c2 c3
      have H0X := Lib.hid (hX.next HB.out)
      have H0Y := Lib.hid (hY.next HB.out)
      have HW := Lib.hid hW
      clear hW hX hY bA bB k0 hE
      go_enter Try.func32, Try.ntmps32
      go_wp2_with (fail)
      rw [HW.out]
      have X0 := HB
      go_wp2_with (first
        | (go_at_call 90; ((with_reducible refine (l1Elements_any _ _ _ _ _ [a] _ _ HH.out HE.out (by omega)).mono ?_); rintro e50 w50 ⟨rfl, rfl⟩)))
      go_ret
      exact ⟨ret_int hz.out.symm, HB.out⟩
    · cases hv : validB n o X Y
      · have hz := Lib.hid (powV_no (n := n) (o := o) (X := X) (Y := Y) (a := a) (k := k) (fun g => by have := g.1; rw [hv] at this; cases this))
        have bA : Below w.heap.size w (w.alloc (.cells #[.int .i64 n, .int .i64 o, .slice A la ca, .slice B lb cb] 25)) := (Below.refl w.heap.size w).alloc (Nat.le_refl _) _
        have bB : Below w.heap.size w ((w.alloc (.cells #[.int .i64 n, .int .i64 o, .slice A la ca, .slice B lb cb] 25)).alloc (.cells #[.int .i64 a] 3)) := bA.alloc (by simp) _
        have k0 : Blk ((w.alloc (.cells #[.int .i64 n, .int .i64 o, .slice A la ca, .slice B lb cb] 25)).alloc (.cells #[.int .i64 a] 3)) w.heap.size 25 #[.int .i64 n, .int .i64 o, .slice A la ca, .slice B lb cb] := (Blk.new w _ _).alloc _
        have hE : Ints ((w.alloc (.cells #[.int .i64 n, .int .i64 o, .slice A la ca, .slice B lb cb] 25)).alloc (.cells #[.int .i64 a] 3)) (w.heap.size + 2) (some ⟨w.heap.size + 1, 0, none⟩) 1 [a] := by
          have := ints_one (w := w.alloc (.cells #[.int .i64 n, .int .i64 o, .slice A la ca, .slice B lb cb] 25)) (v := a) (T := 3)
          simpa using this
        obtain ⟨W, hW⟩ : ∃ W, (w.alloc (.cells #[.int .i64 n, .int .i64 o, .slice A la ca, .slice B lb cb] 25)).alloc (.cells #[.int .i64 a] 3) = W := ⟨_, rfl⟩
        rw [hW] at bB k0 hE
        have HB := Lib.hid bB
        have HE := Lib.hid hE
        have hs := k0.lt
        have c0 := k0.cell 0
        have c1 := k0.cell 1
        have c2 := k0.cell 2
        have c3 := k0.cell 3
        simp at c0 c1 c2 c3
        have H0X := Lib.hid (hX.next HB.out)
        have H0Y := Lib.hid (hY.next HB.out)
        have HW := Lib.hid hW
        clear hW hX hY bA bB k0 hE
        go_enter Try.func32, Try.ntmps32
        go_wp2_with (fail)
        rw [HW.out]
        have X0 := HB
        go_wp2_with (first
          | (go_at_call 90; ((with_reducible refine (l1Elements_any _ _ _ _ _ [a] _ _ HH.out HE.out (by omega)).mono ?_); rintro e50 w50 ⟨rfl, rfl⟩))
          | (go_at_call 17; ((with_reducible refine (specValid_any _ _ _ _ _ _ _ _ X Y _ H0X.out H0Y.out hla hlb hca hcb).mono ?_); rintro e1 w1 ⟨rfl, hb1⟩; obtain ⟨d0, d1, d2, d3, hs1⟩ := box4_next hb1 (by omega) c0 c1 c2 c3; have X1 := Lib.hid (X0.out.trans (hb1.mono (by omega))); clear hb1)))
        go_ret
        exact ⟨ret_int hz.out.symm, X1.out⟩
      · obtain ⟨m, e, b1, o1, b2, o2, rfl, rfl, rfl, rfl, hr, ⟨hop, _, hneg, _⟩, _, _, _, _⟩ := valid_data hv hX hY hca hcb
        have ha : inB m a = true := by have h9 := he; rw [hi_valid hv, elB_one] at h9; exact h9
        have ha' := of_decide_eq_true ha
        obtain ⟨a, rfl⟩ := Int.eq_ofNat_of_zero_le ha'.1
        have la' : a < m := by omega
        obtain ⟨k, rfl⟩ := Int.eq_ofNat_of_zero_le (show 0 ≤ k by omega)
        have HR := Lib.hid hr
        clear hr hop hneg
        have hz := Lib.hid (powV_yes (k := k) (hv) (ha) (by omega))
        have bA : Below w.heap.size w (w.alloc (.cells #[.int .i64 m, .int .i64 e, .slice (some ⟨b1, o1, none⟩) la ca, .slice (some ⟨b2, o2, none⟩) lb cb] 25)) := (Below.refl w.heap.size w).alloc (Nat.le_refl _) _
        have bB : Below w.heap.size w ((w.alloc (.cells #[.int .i64 m, .int .i64 e, .slice (some ⟨b1, o1, none⟩) la ca, .slice (some ⟨b2, o2, none⟩) lb cb] 25)).alloc (.cells #[.int .i64 a] 3)) := bA.alloc (by simp) _
        have k0 : Blk ((w.alloc (.cells #[.int .i64 m, .int .i64 e, .slice (some ⟨b1, o1, none⟩) la ca, .slice (some ⟨b2, o2, none⟩) lb cb] 25)).alloc (.cells #[.int .i64 a] 3)) w.heap.size 25 #[.int .i64 m, .int .i64 e, .slice (some ⟨b1, o1, none⟩) la ca, .slice (some ⟨b2, o2, none⟩) lb cb] := (Blk.new w _ _).alloc _
        have hE : Ints ((w.alloc (.cells #[.int .i64 m, .int .i64 e, .slice (some ⟨b1, o1, none⟩) la ca, .slice (some ⟨b2, o2, none⟩) lb cb] 25)).alloc (.cells #[.int .i64 a] 3)) (w.heap.size + 2) (some ⟨w.heap.size + 1, 0, none⟩) 1 [a] := by
          have := ints_one (w := w.alloc (.cells #[.int .i64 m, .int .i64 e, .slice (some ⟨b1, o1, none⟩) la ca, .slice (some ⟨b2, o2, none⟩) lb cb] 25)) (v := a) (T := 3)
          simpa using this
        obtain ⟨W, hW⟩ : ∃ W, (w.alloc (.cells #[.int .i64 m, .int .i64 e, .slice (some ⟨b1, o1, none⟩) la ca, .slice (some ⟨b2, o2, none⟩) lb cb] 25)).alloc (.cells #[.int .i64 a] 3) = W := ⟨_, rfl⟩
        rw [hW] at bB k0 hE
        have HB := Lib.hid bB
        have HE := Lib.hid hE
        have hs := k0.lt
        have c0 := k0.cell 0
        have c1 := k0.cell 1
        have c2 := k0.cell 2
        have c3 := k0.cell 3
        simp at c0 c1 c2 c3
        have H0X := Lib.hid (hX.next HB.out)
        have H0Y := Lib.hid (hY.next HB.out)
        have HW := Lib.hid hW
        clear hW hX hY bA bB k0 hE
        have R0 := Lib.hid (HR.out.next HB.out)
        go_enter Try.func32, Try.ntmps32
        go_wp2_with (fail)
        rw [HW.out]
        have X0 := HB
        go_wp2_with (first
          | (go_at_call 90; ((with_reducible refine (l1Elements_any _ _ _ _ _ [(a : Int)] _ _ HH.out HE.out (by omega)).mono ?_); rintro e50 w50 ⟨rfl, rfl⟩))
          | (go_at_call 17; ((with_reducible refine (specValid_any _ _ _ _ _ _ _ _ X Y _ H0X.out H0Y.out hla hlb hca hcb).mono ?_); rintro e1 w1 ⟨rfl, hb1⟩; obtain ⟨d0, d1, d2, d3, hs1⟩ := box4_next hb1 (by omega) c0 c1 c2 c3; have X1 := Lib.hid (X0.out.trans (hb1.mono (by omega))); have R1 := Lib.hid (R0.out.next hb1); clear hb1))
          | (go_at_call 97; ((with_reducible refine (l1Power_any k a m e b1 o1 la ca b2 o2 lb cb (tabOf X) (tabOf Y) _ R1.out la' (by omega)).mono ?_); rintro e2 w2 ⟨rfl, hb2⟩; obtain ⟨f0, f1, f2, f3, hs2⟩ := box4_next hb2 (by omega) d0 d1 d2 d3; have X2 := Lib.hid (X1.out.trans (hb2.mono (by omega))); clear hb2)))
        go_ret
        exact ⟨ret_int hz.out.symm, X2.out⟩
set_option maxHeartbeats 2000000 in
theorem schar_any (n o : Int) (A B : Option Addr) (la ca lb cb : Nat) (X Y : List Int) (w : World) (hX : Ints w w.heap.size A la X) (hY : Ints w w.heap.size B lb Y) (hla : la ≤ 9223372036854775807) (hlb : lb ≤ 9223372036854775807) (hca : la ≤ ca) (hcb : lb ≤ cb) :
    Calls Try.prog 72 #[.agg #[.int .i64 n, .int .i64 o, .slice A la ca, .slice B lb cb]] w fun e' w' => e' = .returned (.int .i64 (charV n o X Y)) ∧ Below w.heap.size w w' := by
  cases hv : validB n o X Y
  · have hz := Lib.hid (charV_no (n := n) (o := o) (X := X) (Y := Y) (fun g => by rw [hv] at g; cases g))
    obtain ⟨c0, c1, c2, c3, hs⟩ := box4_new w (.int .i64 n) (.int .i64 o) (.slice A la ca) (.slice B lb cb) 25
    obtain ⟨W, hW⟩ : ∃ W, w.alloc (.cells #[.int .i64 n, .int .i64 o, .slice A la ca, .slice B lb cb] 25) = W := ⟨_, rfl⟩
    have HB := Lib.hid (show Below w.heap.size w W by subst hW; exact (Below.refl w.heap.size w).alloc (Nat.le_refl _) _)
    have H0X := Lib.hid (hX.next HB.out)
    have H0Y := Lib.hid (hY.next HB.out)
    rw [hW] at c0 c1 c2 c3 hs
    have HW := Lib.hid hW
    clear hW hX hY
    go_enter Try.func72, Try.ntmps72
    go_wp2_with (fail)
    rw [HW.out]
    have X0 := HB
    go_wp2_with (first
      | (go_at_call 17; ((with_reducible refine (specValid_any _ _ _ _ _ _ _ _ X Y _ H0X.out H0Y.out hla hlb hca hcb).mono ?_); rintro e1 w1 ⟨rfl, hb1⟩; obtain ⟨d0, d1, d2, d3, hs1⟩ := box4_next hb1 (by omega) c0 c1 c2 c3; have X1 := Lib.hid (X0.out.trans (hb1.mono (by omega))); clear hb1)))
    go_ret
    exact ⟨ret_int hz.out.symm, X1.out⟩
  · obtain ⟨m, e, b1, o1, b2, o2, rfl, rfl, rfl, rfl, hr, ⟨hop, _, hneg, _⟩, _, _, _, _⟩ := valid_data hv hX hY hca hcb
    have la' : e < m := hr.he
    have HD := Lib.hid (ordN_spec (fun k hk => (hr.ts.2 k hk).2) hop hneg hr.hm la')
    have H1 := Lib.hid (seqT_one hop hr.hm la')
    have HR := Lib.hid hr
    clear hr hop hneg
    have hz := Lib.hid (charV_yes (hv))
    obtain ⟨c0, c1, c2, c3, hs⟩ := box4_new w (.int .i64 m) (.int .i64 e) (.slice (some ⟨b1, o1, none⟩) la ca) (.slice (some ⟨b2, o2, none⟩) lb cb) 25
    obtain ⟨W, hW⟩ : ∃ W, w.alloc (.cells #[.int .i64 m, .int .i64 e, .slice (some ⟨b1, o1, none⟩) la ca, .slice (some ⟨b2, o2, none⟩) lb cb] 25) = W := ⟨_, rfl⟩
    have HB := Lib.hid (show Below w.heap.size w W by subst hW; exact (Below.refl w.heap.size w).alloc (Nat.le_refl _) _)
    have H0X := Lib.hid (hX.next HB.out)
    have H0Y := Lib.hid (hY.next HB.out)
    rw [hW] at c0 c1 c2 c3 hs
    have HW := Lib.hid hW
    clear hW hX hY
    have R0 := Lib.hid (HR.out.next HB.out)
    go_enter Try.func72, Try.ntmps72
    go_wp2_with (fail)
    rw [HW.out]
    have X0 := HB
    go_wp2_with (first
      | (go_at_call 17; ((with_reducible refine (specValid_any _ _ _ _ _ _ _ _ X Y _ H0X.out H0Y.out hla hlb hca hcb).mono ?_); rintro e1 w1 ⟨rfl, hb1⟩; obtain ⟨d0, d1, d2, d3, hs1⟩ := box4_next hb1 (by omega) c0 c1 c2 c3; have X1 := Lib.hid (X0.out.trans (hb1.mono (by omega))); have R1 := Lib.hid (R0.out.next hb1); clear hb1))
      | (go_at_call 137; ((with_reducible refine (l1Order_any e (ordN m (tabOf X) e) m e b1 o1 la ca b2 o2 lb cb (tabOf X) (tabOf Y) _ R1.out la' HD.out H1.out).mono ?_); rintro e2 w2 ⟨rfl, hb2⟩; obtain ⟨f0, f1, f2, f3, hs2⟩ := box4_next hb2 (by omega) d0 d1 d2 d3; have X2 := Lib.hid (X1.out.trans (hb2.mono (by omega))); clear hb2)))
    go_ret
    exact ⟨ret_int hz.out.symm, X2.out⟩

end Go.Proofs.Ytpdonhoeimenjaa
