
/- InverseOf, SumOrderOf and UnitOrderOf, of both sides. -/
import Derived.Test.YtocoegekdamlbaaB7
import Derived.Test.YtocoegekdamlbaaN3
namespace Go.Proofs.Ytocoegekdamlbaa
open Go.RowKit
set_option maxRecDepth 100000

noncomputable def invV (n o : Int) (X Y : List Int) (a : Int) : Int := ifV (validB n o X Y = true ∧ inB n a = true) (invN n.toNat (tabOf Y) o.toNat a.toNat)
theorem invV_no {n o a : Int} {X Y : List Int} (h : ¬ (validB n o X Y = true ∧ inB n a = true)) : invV n o X Y a = -1 := ifV_no h
theorem invV_yes {m e a : Nat} {X Y : List Int} (h : validB m e X Y = true) (ha : inB m a = true) : invV m e X Y a = invN m (tabOf Y) e a := ifV_yes ⟨h, ha⟩
noncomputable def ordV (n o : Int) (X Y : List Int) (a : Int) : Int := ifV (validB n o X Y = true ∧ inB n a = true) (ordN n.toNat (tabOf X) a.toNat : Nat)
theorem ordV_no {n o a : Int} {X Y : List Int} (h : ¬ (validB n o X Y = true ∧ inB n a = true)) : ordV n o X Y a = -1 := ifV_no h
theorem ordV_yes {m e a : Nat} {X Y : List Int} (h : validB m e X Y = true) (ha : inB m a = true) : ordV m e X Y a = (ordN m (tabOf X) a : Nat) := ifV_yes ⟨h, ha⟩
noncomputable def uordV (n o : Int) (X Y : List Int) (a : Int) : Int := ifV (0 ≤ invV n o X Y a) (ordZ n.toNat (tabOf Y) o.toNat a.toNat : Nat)
theorem uordV_no {n o a : Int} {X Y : List Int} (h : ¬ 0 ≤ invV n o X Y a) : uordV n o X Y a = -1 := ifV_no h
theorem uordV_yes {m e a : Nat} {X Y : List Int} (h : 0 ≤ invV m e X Y a) : uordV m e X Y a = (ordZ m (tabOf Y) e a : Nat) := ifV_yes h

set_option maxHeartbeats 2000000 in
theorem inv_any (n o : Int) (A B : Option Addr) (la ca lb cb : Nat) (X Y : List Int) (a : Int) (w : World) (hX : Ints w w.heap.size A la X) (hY : Ints w w.heap.size B lb Y) (hla : la ≤ 9223372036854775807) (hlb : lb ≤ 9223372036854775807) (hca : la ≤ ca) (hcb : lb ≤ cb) :
    Calls Try.prog 31 #[.agg #[.int .i64 n, .int .i64 o, .slice A la ca, .slice B lb cb], .int .i64 a] w fun e' w' => e' = .returned (.int .i64 (invV n o X Y a)) ∧ Below w.heap.size w w' := by
  cases hv : validB n o X Y
  · have hz := Lib.hid (invV_no (n := n) (o := o) (X := X) (Y := Y) (a := a) (fun g => by have := g.1; rw [hv] at this; cases this))
    obtain ⟨c0, c1, c2, c3, hs⟩ := box4_new w (.int .i64 n) (.int .i64 o) (.slice A la ca) (.slice B lb cb) 28
    obtain ⟨W, hW⟩ : ∃ W, w.alloc (.cells #[.int .i64 n, .int .i64 o, .slice A la ca, .slice B lb cb] 28) = W := ⟨_, rfl⟩
    have HB := Lib.hid (show Below w.heap.size w W by subst hW; exact (Below.refl w.heap.size w).alloc (Nat.le_refl _) _)
    have H0X := Lib.hid (hX.next HB.out)
    have H0Y := Lib.hid (hY.next HB.out)
    rw [hW] at c0 c1 c2 c3 hs
    have HW := Lib.hid hW
    clear hW hX hY
    go_enter Try.func31, Try.ntmps31
    go_wp2_with (fail)
    rw [HW.out]
    have X0 := HB
    go_wp2_with (first
      | (go_at_call 65; ((with_reducible refine (valid_any _ _ _ _ _ _ _ _ X Y _ H0X.out H0Y.out hla hlb hca hcb).mono ?_); rintro e1 w1 ⟨rfl, hb1⟩; obtain ⟨d0, d1, d2, d3, hs1⟩ := box4_next hb1 (by omega) c0 c1 c2 c3; have X1 := Lib.hid (X0.out.trans (hb1.mono (by omega))); clear hb1)))
    go_ret
    exact ⟨ret_int hz.out.symm, X1.out⟩
  · cases ha : inB n a
    · have hz := Lib.hid (invV_no (n := n) (o := o) (X := X) (Y := Y) (a := a) (fun g => by have := g.2; simp [ha] at this))
      obtain ⟨c0, c1, c2, c3, hs⟩ := box4_new w (.int .i64 n) (.int .i64 o) (.slice A la ca) (.slice B lb cb) 28
      obtain ⟨W, hW⟩ : ∃ W, w.alloc (.cells #[.int .i64 n, .int .i64 o, .slice A la ca, .slice B lb cb] 28) = W := ⟨_, rfl⟩
      have HB := Lib.hid (show Below w.heap.size w W by subst hW; exact (Below.refl w.heap.size w).alloc (Nat.le_refl _) _)
      have H0X := Lib.hid (hX.next HB.out)
      have H0Y := Lib.hid (hY.next HB.out)
      rw [hW] at c0 c1 c2 c3 hs
      have HW := Lib.hid hW
      clear hW hX hY
      go_enter Try.func31, Try.ntmps31
      go_wp2_with (fail)
      rw [HW.out]
      have X0 := HB
      go_wp2_with (first
        | (go_at_call 65; ((with_reducible refine (valid_any _ _ _ _ _ _ _ _ X Y _ H0X.out H0Y.out hla hlb hca hcb).mono ?_); rintro e1 w1 ⟨rfl, hb1⟩; obtain ⟨d0, d1, d2, d3, hs1⟩ := box4_next hb1 (by omega) c0 c1 c2 c3; have X1 := Lib.hid (X0.out.trans (hb1.mono (by omega))); clear hb1))
        | (go_at_call 66; ((with_reducible refine (has_any _ _ a _ _ _ _ _ _ _).mono ?_); rintro e2 w2 ⟨rfl, hb2⟩; obtain ⟨f0, f1, f2, f3, hs2⟩ := box4_next hb2 (by omega) d0 d1 d2 d3; have X2 := Lib.hid (X1.out.trans (hb2.mono (by omega))); clear hb2)))
      go_ret
      exact ⟨ret_int hz.out.symm, X2.out⟩
    · obtain ⟨m, e, b1, o1, b2, o2, rfl, rfl, rfl, rfl, hr, ⟨hop, _, hneg, _⟩, _, _, _, _⟩ := valid_data hv hX hY hca hcb
      have ha' := of_decide_eq_true ha
      obtain ⟨a, rfl⟩ := Int.eq_ofNat_of_zero_le ha'.1
      have la' : a < m := by omega
      have HR := Lib.hid hr
      clear hr hop hneg
      have hz := Lib.hid (invV_yes (hv) (ha))
      obtain ⟨c0, c1, c2, c3, hs⟩ := box4_new w (.int .i64 m) (.int .i64 e) (.slice (some ⟨b1, o1, none⟩) la ca) (.slice (some ⟨b2, o2, none⟩) lb cb) 28
      obtain ⟨W, hW⟩ : ∃ W, w.alloc (.cells #[.int .i64 m, .int .i64 e, .slice (some ⟨b1, o1, none⟩) la ca, .slice (some ⟨b2, o2, none⟩) lb cb] 28) = W := ⟨_, rfl⟩
      have HB := Lib.hid (show Below w.heap.size w W by subst hW; exact (Below.refl w.heap.size w).alloc (Nat.le_refl _) _)
      have H0X := Lib.hid (hX.next HB.out)
      have H0Y := Lib.hid (hY.next HB.out)
      rw [hW] at c0 c1 c2 c3 hs
      have HW := Lib.hid hW
      clear hW hX hY
      have R0 := Lib.hid (HR.out.next HB.out)
      go_enter Try.func31, Try.ntmps31
      go_wp2_with (fail)
      rw [HW.out]
      have X0 := HB
      go_wp2_with (first
        | (go_at_call 65; ((with_reducible refine (valid_any _ _ _ _ _ _ _ _ X Y _ H0X.out H0Y.out hla hlb hca hcb).mono ?_); rintro e1 w1 ⟨rfl, hb1⟩; obtain ⟨d0, d1, d2, d3, hs1⟩ := box4_next hb1 (by omega) c0 c1 c2 c3; have X1 := Lib.hid (X0.out.trans (hb1.mono (by omega))); have R1 := Lib.hid (R0.out.next hb1); clear hb1))
        | (go_at_call 66; ((with_reducible refine (has_any _ _ a _ _ _ _ _ _ _).mono ?_); rintro e2 w2 ⟨rfl, hb2⟩; obtain ⟨f0, f1, f2, f3, hs2⟩ := box4_next hb2 (by omega) d0 d1 d2 d3; have X2 := Lib.hid (X1.out.trans (hb2.mono (by omega))); have R2 := Lib.hid (R1.out.next hb2); clear hb2))
        | (go_at_call 67; ((with_reducible refine (inverse_any a m e b1 o1 la ca b2 o2 lb cb (tabOf X) (tabOf Y) _ R2.out la').mono ?_); rintro e3 w3 ⟨rfl, hb3⟩; obtain ⟨g0, g1, g2, g3, hs3⟩ := box4_next hb3 (by omega) f0 f1 f2 f3; have X3 := Lib.hid (X2.out.trans (hb3.mono (by omega))); clear hb3)))
      go_ret
      exact ⟨ret_int hz.out.symm, X3.out⟩
set_option maxHeartbeats 2000000 in
theorem sinv_any (n o : Int) (A B : Option Addr) (la ca lb cb : Nat) (X Y : List Int) (a : Int) (w : World) (hX : Ints w w.heap.size A la X) (hY : Ints w w.heap.size B lb Y) (hla : la ≤ 9223372036854775807) (hlb : lb ≤ 9223372036854775807) (hca : la ≤ ca) (hcb : lb ≤ cb) :
    Calls Try.prog 30 #[.agg #[.int .i64 n, .int .i64 o, .slice A la ca, .slice B lb cb], .int .i64 a] w fun e' w' => e' = .returned (.int .i64 (invV n o X Y a)) ∧ Below w.heap.size w w' := by
  have HH := Lib.hid (show wrap64 (n - 1) = hiOf n from rfl)
  cases he : elB (hiOf n) [a]
  · have hz := Lib.hid (invV_no (n := n) (o := o) (X := X) (Y := Y) (a := a) (fun g => by have h1 := g.1; have h2 := g.2; simp [hi_valid h1, elB_one] at he; simp [he] at h2))
    have bA : Below w.heap.size w (w.alloc (.cells #[.int .i64 n, .int .i64 o, .slice A la ca, .slice B lb cb] 28)) := (Below.refl w.heap.size w).alloc (Nat.le_refl _) _
    have bB : Below w.heap.size w ((w.alloc (.cells #[.int .i64 n, .int .i64 o, .slice A la ca, .slice B lb cb] 28)).alloc (.cells #[.int .i64 a] 3)) := bA.alloc (by simp) _
    have k0 : Blk ((w.alloc (.cells #[.int .i64 n, .int .i64 o, .slice A la ca, .slice B lb cb] 28)).alloc (.cells #[.int .i64 a] 3)) w.heap.size 28 #[.int .i64 n, .int .i64 o, .slice A la ca, .slice B lb cb] := (Blk.new w _ _).alloc _
    have hE : Ints ((w.alloc (.cells #[.int .i64 n, .int .i64 o, .slice A la ca, .slice B lb cb] 28)).alloc (.cells #[.int .i64 a] 3)) (w.heap.size + 2) (some ⟨w.heap.size + 1, 0, none⟩) 1 [a] := by
      have := ints_one (w := w.alloc (.cells #[.int .i64 n, .int .i64 o, .slice A la ca, .slice B lb cb] 28)) (v := a) (T := 3)
      simpa using this
    obtain ⟨W, hW⟩ : ∃ W, (w.alloc (.cells #[.int .i64 n, .int .i64 o, .slice A la ca, .slice B lb cb] 28)).alloc (.cells #[.int .i64 a] 3) = W := ⟨_, rfl⟩
    rw [hW] at bB k0 hE
    have HB := Lib.hid bB
    have HE := Lib.hid hE
    have hs := k0.lt
    have c0 := k0.cell 0
    have c1 := k0.cell 1
    have c2 := k0.cell 2
    have c3 := k0.cell 3
    simp at c0 c1 c2 c3
    have H0X := Lib.hid (hX.next HB.out)
    have H0Y := Lib.hid (hY.next HB.out)
    have HW := Lib.hid hW
    clear hW hX hY bA bB k0 hE
    go_enter Try.func30, Try.ntmps30
    go_wp2_with (fail)
    rw [HW.out]
    have X0 := HB
    go_wp2_with (first
      | (go_at_call 50; ((with_reducible refine (l1Elements_any _ _ _ _ _ [a] _ _ HH.out HE.out (by omega)).mono ?_); rintro e50 w50 ⟨rfl, rfl⟩)))
    go_ret
    exact ⟨ret_int hz.out.symm, HB.out⟩
  · cases hv : validB n o X Y
    · have hz := Lib.hid (invV_no (n := n) (o := o) (X := X) (Y := Y) (a := a) (fun g => by have := g.1; rw [hv] at this; cases this))
      have bA : Below w.heap.size w (w.alloc (.cells #[.int .i64 n, .int .i64 o, .slice A la ca, .slice B lb cb] 28)) := (Below.refl w.heap.size w).alloc (Nat.le_refl _) _
      have bB : Below w.heap.size w ((w.alloc (.cells #[.int .i64 n, .int .i64 o, .slice A la ca, .slice B lb cb] 28)).alloc (.cells #[.int .i64 a] 3)) := bA.alloc (by simp) _
      have k0 : Blk ((w.alloc (.cells #[.int .i64 n, .int .i64 o, .slice A la ca, .slice B lb cb] 28)).alloc (.cells #[.int .i64 a] 3)) w.heap.size 28 #[.int .i64 n, .int .i64 o, .slice A la ca, .slice B lb cb] := (Blk.new w _ _).alloc _
      have hE : Ints ((w.alloc (.cells #[.int .i64 n, .int .i64 o, .slice A la ca, .slice B lb cb] 28)).alloc (.cells #[.int .i64 a] 3)) (w.heap.size + 2) (some ⟨w.heap.size + 1, 0, none⟩) 1 [a] := by
        have := ints_one (w := w.alloc (.cells #[.int .i64 n, .int .i64 o, .slice A la ca, .slice B lb cb] 28)) (v := a) (T := 3)
        simpa using this
      obtain ⟨W, hW⟩ : ∃ W, (w.alloc (.cells #[.int .i64 n, .int .i64 o, .slice A la ca, .slice B lb cb] 28)).alloc (.cells #[.int .i64 a] 3) = W := ⟨_, rfl⟩
      rw [hW] at bB k0 hE
      have HB := Lib.hid bB
      have HE := Lib.hid hE
      have hs := k0.lt
      have c0 := k0.cell 0
      have c1 := k0.cell 1
      have c2 := k0.cell 2
      have c3 := k0.cell 3
      simp at c0 c1 c2 c3
      have H0X := Lib.hid (hX.next HB.out)
      have H0Y := Lib.hid (hY.next HB.out)
      have HW := Lib.hid hW
      clear hW hX hY bA bB k0 hE
      go_enter Try.func30, Try.ntmps30
      go_wp2_with (fail)
      rw [HW.out]
      have X0 := HB
      go_wp2_with (first
        | (go_at_call 50; ((with_reducible refine (l1Elements_any _ _ _ _ _ [a] _ _ HH.out HE.out (by omega)).mono ?_); rintro e50 w50 ⟨rfl, rfl⟩))
        | (go_at_call 57; ((with_reducible refine (specValid_any _ _ _ _ _ _ _ _ X Y _ H0X.out H0Y.out hla hlb hca hcb).mono ?_); rintro e1 w1 ⟨rfl, hb1⟩; obtain ⟨d0, d1, d2, d3, hs1⟩ := box4_next hb1 (by omega) c0 c1 c2 c3; have X1 := Lib.hid (X0.out.trans (hb1.mono (by omega))); clear hb1)))
      go_ret
      exact ⟨ret_int hz.out.symm, X1.out⟩
    · obtain ⟨m, e, b1, o1, b2, o2, rfl, rfl, rfl, rfl, hr, ⟨hop, _, hneg, _⟩, _, _, _, _⟩ := valid_data hv hX hY hca hcb
      have ha : inB m a = true := by have h9 := he; rw [hi_valid hv, elB_one] at h9; exact h9
      have ha' := of_decide_eq_true ha
      obtain ⟨a, rfl⟩ := Int.eq_ofNat_of_zero_le ha'.1
      have la' : a < m := by omega
      have HR := Lib.hid hr
      clear hr hop hneg
      have hz := Lib.hid (invV_yes (hv) (ha))
      have bA : Below w.heap.size w (w.alloc (.cells #[.int .i64 m, .int .i64 e, .slice (some ⟨b1, o1, none⟩) la ca, .slice (some ⟨b2, o2, none⟩) lb cb] 28)) := (Below.refl w.heap.size w).alloc (Nat.le_refl _) _
      have bB : Below w.heap.size w ((w.alloc (.cells #[.int .i64 m, .int .i64 e, .slice (some ⟨b1, o1, none⟩) la ca, .slice (some ⟨b2, o2, none⟩) lb cb] 28)).alloc (.cells #[.int .i64 a] 3)) := bA.alloc (by simp) _
      have k0 : Blk ((w.alloc (.cells #[.int .i64 m, .int .i64 e, .slice (some ⟨b1, o1, none⟩) la ca, .slice (some ⟨b2, o2, none⟩) lb cb] 28)).alloc (.cells #[.int .i64 a] 3)) w.heap.size 28 #[.int .i64 m, .int .i64 e, .slice (some ⟨b1, o1, none⟩) la ca, .slice (some ⟨b2, o2, none⟩) lb cb] := (Blk.new w _ _).alloc _
      have hE : Ints ((w.alloc (.cells #[.int .i64 m, .int .i64 e, .slice (some ⟨b1, o1, none⟩) la ca, .slice (some ⟨b2, o2, none⟩) lb cb] 28)).alloc (.cells #[.int .i64 a] 3)) (w.heap.size + 2) (some ⟨w.heap.size + 1, 0, none⟩) 1 [a] := by
        have := ints_one (w := w.alloc (.cells #[.int .i64 m, .int .i64 e, .slice (some ⟨b1, o1, none⟩) la ca, .slice (some ⟨b2, o2, none⟩) lb cb] 28)) (v := a) (T := 3)
        simpa using this
      obtain ⟨W, hW⟩ : ∃ W, (w.alloc (.cells #[.int .i64 m, .int .i64 e, .slice (some ⟨b1, o1, none⟩) la ca, .slice (some ⟨b2, o2, none⟩) lb cb] 28)).alloc (.cells #[.int .i64 a] 3) = W := ⟨_, rfl⟩
      rw [hW] at bB k0 hE
      have HB := Lib.hid bB
      have HE := Lib.hid hE
      have hs := k0.lt
      have c0 := k0.cell 0
      have c1 := k0.cell 1
      have c2 := k0.cell 2
      have c3 := k0.cell 3
      simp at c0 c1 c2 c3
      have H0X := Lib.hid (hX.next HB.out)
      have H0Y := Lib.hid (hY.next HB.out)
      have HW := Lib.hid hW
      clear hW hX hY bA bB k0 hE
      have R0 := Lib.hid (HR.out.next HB.out)
      go_enter Try.func30, Try.ntmps30
      go_wp2_with (fail)
      rw [HW.out]
      have X0 := HB
      go_wp2_with (first
        | (go_at_call 50; ((with_reducible refine (l1Elements_any _ _ _ _ _ [(a : Int)] _ _ HH.out HE.out (by omega)).mono ?_); rintro e50 w50 ⟨rfl, rfl⟩))
        | (go_at_call 57; ((with_reducible refine (specValid_any _ _ _ _ _ _ _ _ X Y _ H0X.out H0Y.out hla hlb hca hcb).mono ?_); rintro e1 w1 ⟨rfl, hb1⟩; obtain ⟨d0, d1, d2, d3, hs1⟩ := box4_next hb1 (by omega) c0 c1 c2 c3; have X1 := Lib.hid (X0.out.trans (hb1.mono (by omega))); have R1 := Lib.hid (R0.out.next hb1); clear hb1))
        | (go_at_call 64; ((with_reducible refine (l3Inverse_any a m e b1 o1 la ca b2 o2 lb cb (tabOf X) (tabOf Y) _ R1.out la').mono ?_); rintro e2 w2 ⟨rfl, hb2⟩; obtain ⟨f0, f1, f2, f3, hs2⟩ := box4_next hb2 (by omega) d0 d1 d2 d3; have X2 := Lib.hid (X1.out.trans (hb2.mono (by omega))); clear hb2)))
      go_ret
      exact ⟨ret_int hz.out.symm, X2.out⟩
set_option maxHeartbeats 2000000 in
theorem sord_any (n o : Int) (A B : Option Addr) (la ca lb cb : Nat) (X Y : List Int) (a : Int) (w : World) (hX : Ints w w.heap.size A la X) (hY : Ints w w.heap.size B lb Y) (hla : la ≤ 9223372036854775807) (hlb : lb ≤ 9223372036854775807) (hca : la ≤ ca) (hcb : lb ≤ cb) :
    Calls Try.prog 39 #[.agg #[.int .i64 n, .int .i64 o, .slice A la ca, .slice B lb cb], .int .i64 a] w fun e' w' => e' = .returned (.int .i64 (ordV n o X Y a)) ∧ Below w.heap.size w w' := by
  cases hv : validB n o X Y
  · have hz := Lib.hid (ordV_no (n := n) (o := o) (X := X) (Y := Y) (a := a) (fun g => by have := g.1; rw [hv] at this; cases this))
    obtain ⟨c0, c1, c2, c3, hs⟩ := box4_new w (.int .i64 n) (.int .i64 o) (.slice A la ca) (.slice B lb cb) 28
    obtain ⟨W, hW⟩ : ∃ W, w.alloc (.cells #[.int .i64 n, .int .i64 o, .slice A la ca, .slice B lb cb] 28) = W := ⟨_, rfl⟩
    have HB := Lib.hid (show Below w.heap.size w W by subst hW; exact (Below.refl w.heap.size w).alloc (Nat.le_refl _) _)
    have H0X := Lib.hid (hX.next HB.out)
    have H0Y := Lib.hid (hY.next HB.out)
    rw [hW] at c0 c1 c2 c3 hs
    have HW := Lib.hid hW
    clear hW hX hY
    go_enter Try.func39, Try.ntmps39
    go_wp2_with (fail)
    rw [HW.out]
    have X0 := HB
    go_wp2_with (first
      | (go_at_call 65; ((with_reducible refine (valid_any _ _ _ _ _ _ _ _ X Y _ H0X.out H0Y.out hla hlb hca hcb).mono ?_); rintro e1 w1 ⟨rfl, hb1⟩; obtain ⟨d0, d1, d2, d3, hs1⟩ := box4_next hb1 (by omega) c0 c1 c2 c3; have X1 := Lib.hid (X0.out.trans (hb1.mono (by omega))); clear hb1)))
    go_ret
    exact ⟨ret_int hz.out.symm, X1.out⟩
  · cases ha : inB n a
    · have hz := Lib.hid (ordV_no (n := n) (o := o) (X := X) (Y := Y) (a := a) (fun g => by have := g.2; simp [ha] at this))
      obtain ⟨c0, c1, c2, c3, hs⟩ := box4_new w (.int .i64 n) (.int .i64 o) (.slice A la ca) (.slice B lb cb) 28
      obtain ⟨W, hW⟩ : ∃ W, w.alloc (.cells #[.int .i64 n, .int .i64 o, .slice A la ca, .slice B lb cb] 28) = W := ⟨_, rfl⟩
      have HB := Lib.hid (show Below w.heap.size w W by subst hW; exact (Below.refl w.heap.size w).alloc (Nat.le_refl _) _)
      have H0X := Lib.hid (hX.next HB.out)
      have H0Y := Lib.hid (hY.next HB.out)
      rw [hW] at c0 c1 c2 c3 hs
      have HW := Lib.hid hW
      clear hW hX hY
      go_enter Try.func39, Try.ntmps39
      go_wp2_with (fail)
      rw [HW.out]
      have X0 := HB
      go_wp2_with (first
        | (go_at_call 65; ((with_reducible refine (valid_any _ _ _ _ _ _ _ _ X Y _ H0X.out H0Y.out hla hlb hca hcb).mono ?_); rintro e1 w1 ⟨rfl, hb1⟩; obtain ⟨d0, d1, d2, d3, hs1⟩ := box4_next hb1 (by omega) c0 c1 c2 c3; have X1 := Lib.hid (X0.out.trans (hb1.mono (by omega))); clear hb1))
        | (go_at_call 66; ((with_reducible refine (has_any _ _ a _ _ _ _ _ _ _).mono ?_); rintro e2 w2 ⟨rfl, hb2⟩; obtain ⟨f0, f1, f2, f3, hs2⟩ := box4_next hb2 (by omega) d0 d1 d2 d3; have X2 := Lib.hid (X1.out.trans (hb2.mono (by omega))); clear hb2)))
      go_ret
      exact ⟨ret_int hz.out.symm, X2.out⟩
    · obtain ⟨m, e, b1, o1, b2, o2, rfl, rfl, rfl, rfl, hr, ⟨hop, _, hneg, _⟩, _, _, _, _⟩ := valid_data hv hX hY hca hcb
      have ha' := of_decide_eq_true ha
      obtain ⟨a, rfl⟩ := Int.eq_ofNat_of_zero_le ha'.1
      have la' : a < m := by omega
      have HD := Lib.hid (ordN_spec (fun k hk => (hr.ts.2 k hk).2) hop hneg hr.hm la')
      have H1 := Lib.hid (seqT_one hop hr.hm la')
      have HR := Lib.hid hr
      clear hr hop hneg
      have hz := Lib.hid (ordV_yes (hv) (ha))
      obtain ⟨c0, c1, c2, c3, hs⟩ := box4_new w (.int .i64 m) (.int .i64 e) (.slice (some ⟨b1, o1, none⟩) la ca) (.slice (some ⟨b2, o2, none⟩) lb cb) 28
      obtain ⟨W, hW⟩ : ∃ W, w.alloc (.cells #[.int .i64 m, .int .i64 e, .slice (some ⟨b1, o1, none⟩) la ca, .slice (some ⟨b2, o2, none⟩) lb cb] 28) = W := ⟨_, rfl⟩
      have HB := Lib.hid (show Below w.heap.size w W by subst hW; exact (Below.refl w.heap.size w).alloc (Nat.le_refl _) _)
      have H0X := Lib.hid (hX.next HB.out)
      have H0Y := Lib.hid (hY.next HB.out)
      rw [hW] at c0 c1 c2 c3 hs
      have HW := Lib.hid hW
      clear hW hX hY
      have R0 := Lib.hid (HR.out.next HB.out)
      go_enter Try.func39, Try.ntmps39
      go_wp2_with (fail)
      rw [HW.out]
      have X0 := HB
      go_wp2_with (first
        | (go_at_call 65; ((with_reducible refine (valid_any _ _ _ _ _ _ _ _ X Y _ H0X.out H0Y.out hla hlb hca hcb).mono ?_); rintro e1 w1 ⟨rfl, hb1⟩; obtain ⟨d0, d1, d2, d3, hs1⟩ := box4_next hb1 (by omega) c0 c1 c2 c3; have X1 := Lib.hid (X0.out.trans (hb1.mono (by omega))); have R1 := Lib.hid (R0.out.next hb1); clear hb1))
        | (go_at_call 66; ((with_reducible refine (has_any _ _ a _ _ _ _ _ _ _).mono ?_); rintro e2 w2 ⟨rfl, hb2⟩; obtain ⟨f0, f1, f2, f3, hs2⟩ := box4_next hb2 (by omega) d0 d1 d2 d3; have X2 := Lib.hid (X1.out.trans (hb2.mono (by omega))); have R2 := Lib.hid (R1.out.next hb2); clear hb2))
        | (go_at_call 69; ((with_reducible refine (sumOrder_any a (ordN m (tabOf X) a) m e b1 o1 la ca b2 o2 lb cb (tabOf X) (tabOf Y) _ R2.out la' HD.out H1.out).mono ?_); rintro e3 w3 ⟨rfl, hb3⟩; obtain ⟨g0, g1, g2, g3, hs3⟩ := box4_next hb3 (by omega) f0 f1 f2 f3; have X3 := Lib.hid (X2.out.trans (hb3.mono (by omega))); clear hb3)))
      go_ret
      exact ⟨ret_int hz.out.symm, X3.out⟩
set_option maxHeartbeats 2000000 in
theorem ssord_any (n o : Int) (A B : Option Addr) (la ca lb cb : Nat) (X Y : List Int) (a : Int) (w : World) (hX : Ints w w.heap.size A la X) (hY : Ints w w.heap.size B lb Y) (hla : la ≤ 9223372036854775807) (hlb : lb ≤ 9223372036854775807) (hca : la ≤ ca) (hcb : lb ≤ cb) :
    Calls Try.prog 38 #[.agg #[.int .i64 n, .int .i64 o, .slice A la ca, .slice B lb cb], .int .i64 a] w fun e' w' => e' = .returned (.int .i64 (ordV n o X Y a)) ∧ Below w.heap.size w w' := by
  have HH := Lib.hid (show wrap64 (n - 1) = hiOf n from rfl)
  cases he : elB (hiOf n) [a]
  · have hz := Lib.hid (ordV_no (n := n) (o := o) (X := X) (Y := Y) (a := a) (fun g => by have h1 := g.1; have h2 := g.2; simp [hi_valid h1, elB_one] at he; simp [he] at h2))
    have bA : Below w.heap.size w (w.alloc (.cells #[.int .i64 n, .int .i64 o, .slice A la ca, .slice B lb cb] 28)) := (Below.refl w.heap.size w).alloc (Nat.le_refl _) _
    have bB : Below w.heap.size w ((w.alloc (.cells #[.int .i64 n, .int .i64 o, .slice A la ca, .slice B lb cb] 28)).alloc (.cells #[.int .i64 a] 3)) := bA.alloc (by simp) _
    have k0 : Blk ((w.alloc (.cells #[.int .i64 n, .int .i64 o, .slice A la ca, .slice B lb cb] 28)).alloc (.cells #[.int .i64 a] 3)) w.heap.size 28 #[.int .i64 n, .int .i64 o, .slice A la ca, .slice B lb cb] := (Blk.new w _ _).alloc _
    have hE : Ints ((w.alloc (.cells #[.int .i64 n, .int .i64 o, .slice A la ca, .slice B lb cb] 28)).alloc (.cells #[.int .i64 a] 3)) (w.heap.size + 2) (some ⟨w.heap.size + 1, 0, none⟩) 1 [a] := by
      have := ints_one (w := w.alloc (.cells #[.int .i64 n, .int .i64 o, .slice A la ca, .slice B lb cb] 28)) (v := a) (T := 3)
      simpa using this
    obtain ⟨W, hW⟩ : ∃ W, (w.alloc (.cells #[.int .i64 n, .int .i64 o, .slice A la ca, .slice B lb cb] 28)).alloc (.cells #[.int .i64 a] 3) = W := ⟨_, rfl⟩
    rw [hW] at bB k0 hE
    have HB := Lib.hid bB
    have HE := Lib.hid hE
    have hs := k0.lt
    have c0 := k0.cell 0
    have c1 := k0.cell 1
    have c2 := k0.cell 2
    have c3 := k0.cell 3
    simp at c0 c1 c2 c3
    have H0X := Lib.hid (hX.next HB.out)
    have H0Y := Lib.hid (hY.next HB.out)
    have HW := Lib.hid hW
    clear hW hX hY bA bB k0 hE
    go_enter Try.func38, Try.ntmps38
    go_wp2_with (fail)
    rw [HW.out]
    have X0 := HB
    go_wp2_with (first
      | (go_at_call 50; ((with_reducible refine (l1Elements_any _ _ _ _ _ [a] _ _ HH.out HE.out (by omega)).mono ?_); rintro e50 w50 ⟨rfl, rfl⟩)))
    go_ret
    exact ⟨ret_int hz.out.symm, HB.out⟩
  · cases hv : validB n o X Y
    · have hz := Lib.hid (ordV_no (n := n) (o := o) (X := X) (Y := Y) (a := a) (fun g => by have := g.1; rw [hv] at this; cases this))
      have bA : Below w.heap.size w (w.alloc (.cells #[.int .i64 n, .int .i64 o, .slice A la ca, .slice B lb cb] 28)) := (Below.refl w.heap.size w).alloc (Nat.le_refl _) _
      have bB : Below w.heap.size w ((w.alloc (.cells #[.int .i64 n, .int .i64 o, .slice A la ca, .slice B lb cb] 28)).alloc (.cells #[.int .i64 a] 3)) := bA.alloc (by simp) _
      have k0 : Blk ((w.alloc (.cells #[.int .i64 n, .int .i64 o, .slice A la ca, .slice B lb cb] 28)).alloc (.cells #[.int .i64 a] 3)) w.heap.size 28 #[.int .i64 n, .int .i64 o, .slice A la ca, .slice B lb cb] := (Blk.new w _ _).alloc _
      have hE : Ints ((w.alloc (.cells #[.int .i64 n, .int .i64 o, .slice A la ca, .slice B lb cb] 28)).alloc (.cells #[.int .i64 a] 3)) (w.heap.size + 2) (some ⟨w.heap.size + 1, 0, none⟩) 1 [a] := by
        have := ints_one (w := w.alloc (.cells #[.int .i64 n, .int .i64 o, .slice A la ca, .slice B lb cb] 28)) (v := a) (T := 3)
        simpa using this
      obtain ⟨W, hW⟩ : ∃ W, (w.alloc (.cells #[.int .i64 n, .int .i64 o, .slice A la ca, .slice B lb cb] 28)).alloc (.cells #[.int .i64 a] 3) = W := ⟨_, rfl⟩
      rw [hW] at bB k0 hE
      have HB := Lib.hid bB
      have HE := Lib.hid hE
      have hs := k0.lt
      have c0 := k0.cell 0
      have c1 := k0.cell 1
      have c2 := k0.cell 2
      have c3 := k0.cell 3
      simp at c0 c1 c2 c3
      have H0X := Lib.hid (hX.next HB.out)
      have H0Y := Lib.hid (hY.next HB.out)
      have HW := Lib.hid hW
      clear hW hX hY bA bB k0 hE
      go_enter Try.func38, Try.ntmps38
      go_wp2_with (fail)
      rw [HW.out]
      have X0 := HB
      go_wp2_with (first
        | (go_at_call 50; ((with_reducible refine (l1Elements_any _ _ _ _ _ [a] _ _ HH.out HE.out (by omega)).mono ?_); rintro e50 w50 ⟨rfl, rfl⟩))
        | (go_at_call 57; ((with_reducible refine (specValid_any _ _ _ _ _ _ _ _ X Y _ H0X.out H0Y.out hla hlb hca hcb).mono ?_); rintro e1 w1 ⟨rfl, hb1⟩; obtain ⟨d0, d1, d2, d3, hs1⟩ := box4_next hb1 (by omega) c0 c1 c2 c3; have X1 := Lib.hid (X0.out.trans (hb1.mono (by omega))); clear hb1)))
      go_ret
      exact ⟨ret_int hz.out.symm, X1.out⟩
    · obtain ⟨m, e, b1, o1, b2, o2, rfl, rfl, rfl, rfl, hr, ⟨hop, _, hneg, _⟩, _, _, _, _⟩ := valid_data hv hX hY hca hcb
      have ha : inB m a = true := by have h9 := he; rw [hi_valid hv, elB_one] at h9; exact h9
      have ha' := of_decide_eq_true ha
      obtain ⟨a, rfl⟩ := Int.eq_ofNat_of_zero_le ha'.1
      have la' : a < m := by omega
      have HD := Lib.hid (ordN_spec (fun k hk => (hr.ts.2 k hk).2) hop hneg hr.hm la')
      have H1 := Lib.hid (seqT_one hop hr.hm la')
      have HR := Lib.hid hr
      clear hr hop hneg
      have hz := Lib.hid (ordV_yes (hv) (ha))
      have bA : Below w.heap.size w (w.alloc (.cells #[.int .i64 m, .int .i64 e, .slice (some ⟨b1, o1, none⟩) la ca, .slice (some ⟨b2, o2, none⟩) lb cb] 28)) := (Below.refl w.heap.size w).alloc (Nat.le_refl _) _
      have bB : Below w.heap.size w ((w.alloc (.cells #[.int .i64 m, .int .i64 e, .slice (some ⟨b1, o1, none⟩) la ca, .slice (some ⟨b2, o2, none⟩) lb cb] 28)).alloc (.cells #[.int .i64 a] 3)) := bA.alloc (by simp) _
      have k0 : Blk ((w.alloc (.cells #[.int .i64 m, .int .i64 e, .slice (some ⟨b1, o1, none⟩) la ca, .slice (some ⟨b2, o2, none⟩) lb cb] 28)).alloc (.cells #[.int .i64 a] 3)) w.heap.size 28 #[.int .i64 m, .int .i64 e, .slice (some ⟨b1, o1, none⟩) la ca, .slice (some ⟨b2, o2, none⟩) lb cb] := (Blk.new w _ _).alloc _
      have hE : Ints ((w.alloc (.cells #[.int .i64 m, .int .i64 e, .slice (some ⟨b1, o1, none⟩) la ca, .slice (some ⟨b2, o2, none⟩) lb cb] 28)).alloc (.cells #[.int .i64 a] 3)) (w.heap.size + 2) (some ⟨w.heap.size + 1, 0, none⟩) 1 [a] := by
        have := ints_one (w := w.alloc (.cells #[.int .i64 m, .int .i64 e, .slice (some ⟨b1, o1, none⟩) la ca, .slice (some ⟨b2, o2, none⟩) lb cb] 28)) (v := a) (T := 3)
        simpa using this
      obtain ⟨W, hW⟩ : ∃ W, (w.alloc (.cells #[.int .i64 m, .int .i64 e, .slice (some ⟨b1, o1, none⟩) la ca, .slice (some ⟨b2, o2, none⟩) lb cb] 28)).alloc (.cells #[.int .i64 a] 3) = W := ⟨_, rfl⟩
      rw [hW] at bB k0 hE
      have HB := Lib.hid bB
      have HE := Lib.hid hE
      have hs := k0.lt
      have c0 := k0.cell 0
      have c1 := k0.cell 1
      have c2 := k0.cell 2
      have c3 := k0.cell 3
      simp at c0 c1 c2 c3
      have H0X := Lib.hid (hX.next HB.out)
      have H0Y := Lib.hid (hY.next HB.out)
      have HW := Lib.hid hW
      clear hW hX hY bA bB k0 hE
      have R0 := Lib.hid (HR.out.next HB.out)
      go_enter Try.func38, Try.ntmps38
      go_wp2_with (fail)
      rw [HW.out]
      have X0 := HB
      go_wp2_with (first
        | (go_at_call 50; ((with_reducible refine (l1Elements_any _ _ _ _ _ [(a : Int)] _ _ HH.out HE.out (by omega)).mono ?_); rintro e50 w50 ⟨rfl, rfl⟩))
        | (go_at_call 57; ((with_reducible refine (specValid_any _ _ _ _ _ _ _ _ X Y _ H0X.out H0Y.out hla hlb hca hcb).mono ?_); rintro e1 w1 ⟨rfl, hb1⟩; obtain ⟨d0, d1, d2, d3, hs1⟩ := box4_next hb1 (by omega) c0 c1 c2 c3; have X1 := Lib.hid (X0.out.trans (hb1.mono (by omega))); have R1 := Lib.hid (R0.out.next hb1); clear hb1))
        | (go_at_call 68; ((with_reducible refine (l1Order_any a (ordN m (tabOf X) a) m e b1 o1 la ca b2 o2 lb cb (tabOf X) (tabOf Y) _ R1.out la' HD.out H1.out).mono ?_); rintro e2 w2 ⟨rfl, hb2⟩; obtain ⟨f0, f1, f2, f3, hs2⟩ := box4_next hb2 (by omega) d0 d1 d2 d3; have X2 := Lib.hid (X1.out.trans (hb2.mono (by omega))); clear hb2)))
      go_ret
      exact ⟨ret_int hz.out.symm, X2.out⟩
set_option maxHeartbeats 2000000 in
theorem uord_any (n o : Int) (A B : Option Addr) (la ca lb cb : Nat) (X Y : List Int) (a : Int) (w : World) (hX : Ints w w.heap.size A la X) (hY : Ints w w.heap.size B lb Y) (hla : la ≤ 9223372036854775807) (hlb : lb ≤ 9223372036854775807) (hca : la ≤ ca) (hcb : lb ≤ cb) :
    Calls Try.prog 41 #[.agg #[.int .i64 n, .int .i64 o, .slice A la ca, .slice B lb cb], .int .i64 a] w fun e' w' => e' = .returned (.int .i64 (uordV n o X Y a)) ∧ Below w.heap.size w w' := by
  by_cases hv : 0 ≤ invV n o X Y a
  · obtain ⟨hvv, hin⟩ : validB n o X Y = true ∧ inB n a = true := by
      rcases Classical.em (validB n o X Y = true ∧ inB n a = true) with h | h
      · exact h
      · rw [invV_no h] at hv; omega
    obtain ⟨m, e, b1, o1, b2, o2, rfl, rfl, rfl, rfl, hr, ⟨hop, hop2, hneg, _⟩, _, _, _, _⟩ := valid_data hvv hX hY hca hcb
    have ha' := of_decide_eq_true hin
    obtain ⟨a, rfl⟩ := Int.eq_ofNat_of_zero_le ha'.1
    have la' : a < m := by omega
    have hu : UnitAt m (tabOf Y) e a := by rw [invV_yes hvv hin] at hv; exact inv_unit.1 hv
    have HD := Lib.hid (ordZ_spec (fun k hk => (hr.tp.2 k hk).2) hop2 hr.he hu la')
    have H1 := Lib.hid (seqZ_one hop2 hr.he la')
    have hz := Lib.hid (uordV_yes hv)
    have he := hr.he
    have hm := hr.hm
    have hm' := hr.hm'
    have HL := Lib.hid (show ∀ k, seqZ m (tabOf Y) e a k < m from seqZ_lt (fun k hk => (hr.tp.2 k hk).2) hr.he la')
    have HR := Lib.hid hr
    have hv2 : ¬ invV m e X Y a < 0 := by omega
    clear hr hop hop2 hneg hu
    obtain ⟨c0, c1, c2, c3, hs⟩ := box4_new w (.int .i64 m) (.int .i64 e) (.slice (some ⟨b1, o1, none⟩) la ca) (.slice (some ⟨b2, o2, none⟩) lb cb) 28
    obtain ⟨W, hW⟩ : ∃ W, w.alloc (.cells #[.int .i64 m, .int .i64 e, .slice (some ⟨b1, o1, none⟩) la ca, .slice (some ⟨b2, o2, none⟩) lb cb] 28) = W := ⟨_, rfl⟩
    have HB := Lib.hid (show Below w.heap.size w W by subst hW; exact (Below.refl w.heap.size w).alloc (Nat.le_refl _) _)
    have H0X := Lib.hid (hX.next HB.out)
    have H0Y := Lib.hid (hY.next HB.out)
    rw [hW] at c0 c1 c2 c3 hs
    have HW := Lib.hid hW
    clear hW hX hY
    have R0 := Lib.hid (HR.out.next HB.out)
    go_enter Try.func41, Try.ntmps41
    go_wp2_with (fail)
    rw [HW.out]
    go_wp2_with (first
      | (go_at_call 31; ((with_reducible refine (inv_any _ _ _ _ _ _ _ _ X Y _ _ H0X.out H0Y.out hla hlb hca hcb).mono ?_); rintro e1 w1 ⟨rfl, hb1⟩; obtain ⟨d0, d1, d2, d3, hs1⟩ := box4_next hb1 (by omega) c0 c1 c2 c3; have X1 := Lib.hid (HB.out.trans (hb1.mono (by omega))); have R1 := Lib.hid (R0.out.next hb1); clear hb1))
      | (go_at_call 71; (with_reducible refine (order_any _ e a (ordZ m (tabOf Y) e a) rfl b2 o2 lb cb (tabOf Y) m e b1 o1 la ca b2 o2 lb cb (tabOf X) (tabOf Y) _ R1.out R1.out.tp R1.out.hlb R1.out.hcb la' he HD.out H1.out).mono ?_); rintro e2 w2 ⟨rfl, hb2⟩; have X2 := Lib.hid (X1.out.trans (hb2.mono (by omega))); clear hb2))
    go_ret
    exact ⟨ret_int hz.out.symm, X2.out⟩
  · have hz := Lib.hid (uordV_no hv)
    have hv2 : invV n o X Y a < 0 := by omega
    obtain ⟨c0, c1, c2, c3, hs⟩ := box4_new w (.int .i64 n) (.int .i64 o) (.slice A la ca) (.slice B lb cb) 28
    obtain ⟨W, hW⟩ : ∃ W, w.alloc (.cells #[.int .i64 n, .int .i64 o, .slice A la ca, .slice B lb cb] 28) = W := ⟨_, rfl⟩
    have HB := Lib.hid (show Below w.heap.size w W by subst hW; exact (Below.refl w.heap.size w).alloc (Nat.le_refl _) _)
    have H0X := Lib.hid (hX.next HB.out)
    have H0Y := Lib.hid (hY.next HB.out)
    rw [hW] at c0 c1 c2 c3 hs
    have HW := Lib.hid hW
    clear hW hX hY
    go_enter Try.func41, Try.ntmps41
    go_wp2_with (fail)
    rw [HW.out]
    go_wp2_with ((go_at_call 31; ((with_reducible refine (inv_any _ _ _ _ _ _ _ _ X Y _ _ H0X.out H0Y.out hla hlb hca hcb).mono ?_); rintro e1 w1 ⟨rfl, hb1⟩; obtain ⟨d0, d1, d2, d3, hs1⟩ := box4_next hb1 (by omega) c0 c1 c2 c3; have X1 := Lib.hid (HB.out.trans (hb1.mono (by omega))); clear hb1)))
    go_ret
    exact ⟨ret_int hz.out.symm, X1.out⟩
set_option maxHeartbeats 2000000 in
theorem suord_any (n o : Int) (A B : Option Addr) (la ca lb cb : Nat) (X Y : List Int) (a : Int) (w : World) (hX : Ints w w.heap.size A la X) (hY : Ints w w.heap.size B lb Y) (hla : la ≤ 9223372036854775807) (hlb : lb ≤ 9223372036854775807) (hca : la ≤ ca) (hcb : lb ≤ cb) :
    Calls Try.prog 40 #[.agg #[.int .i64 n, .int .i64 o, .slice A la ca, .slice B lb cb], .int .i64 a] w fun e' w' => e' = .returned (.int .i64 (uordV n o X Y a)) ∧ Below w.heap.size w w' := by
  by_cases hv : 0 ≤ invV n o X Y a
  · obtain ⟨hvv, hin⟩ : validB n o X Y = true ∧ inB n a = true := by
      rcases Classical.em (validB n o X Y = true ∧ inB n a = true) with h | h
      · exact h
      · rw [invV_no h] at hv; omega
    obtain ⟨m, e, b1, o1, b2, o2, rfl, rfl, rfl, rfl, hr, ⟨hop, hop2, hneg, _⟩, _, _, _, _⟩ := valid_data hvv hX hY hca hcb
    have ha' := of_decide_eq_true hin
    obtain ⟨a, rfl⟩ := Int.eq_ofNat_of_zero_le ha'.1
    have la' : a < m := by omega
    have hu : UnitAt m (tabOf Y) e a := by rw [invV_yes hvv hin] at hv; exact inv_unit.1 hv
    have HD := Lib.hid (ordZ_spec (fun k hk => (hr.tp.2 k hk).2) hop2 hr.he hu la')
    have H1 := Lib.hid (seqZ_one hop2 hr.he la')
    have hz := Lib.hid (uordV_yes hv)
    have he := hr.he
    have hm := hr.hm
    have hm' := hr.hm'
    have HL := Lib.hid (show ∀ k, seqZ m (tabOf Y) e a k < m from seqZ_lt (fun k hk => (hr.tp.2 k hk).2) hr.he la')
    have HR := Lib.hid hr
    have hv2 : ¬ invV m e X Y a < 0 := by omega
    clear hr hop hop2 hneg hu
    obtain ⟨c0, c1, c2, c3, hs⟩ := box4_new w (.int .i64 m) (.int .i64 e) (.slice (some ⟨b1, o1, none⟩) la ca) (.slice (some ⟨b2, o2, none⟩) lb cb) 28
    obtain ⟨W, hW⟩ : ∃ W, w.alloc (.cells #[.int .i64 m, .int .i64 e, .slice (some ⟨b1, o1, none⟩) la ca, .slice (some ⟨b2, o2, none⟩) lb cb] 28) = W := ⟨_, rfl⟩
    have HB := Lib.hid (show Below w.heap.size w W by subst hW; exact (Below.refl w.heap.size w).alloc (Nat.le_refl _) _)
    have H0X := Lib.hid (hX.next HB.out)
    have H0Y := Lib.hid (hY.next HB.out)
    rw [hW] at c0 c1 c2 c3 hs
    have HW := Lib.hid hW
    clear hW hX hY
    have R0 := Lib.hid (HR.out.next HB.out)
    go_enter Try.func40, Try.ntmps40
    go_wp2_with (fail)
    rw [HW.out]
    go_wp2_with ((go_at_call 30; ((with_reducible refine (sinv_any _ _ _ _ _ _ _ _ X Y _ _ H0X.out H0Y.out hla hlb hca hcb).mono ?_); rintro e1 w1 ⟨rfl, hb1⟩; obtain ⟨d0, d1, d2, d3, hs1⟩ := box4_next hb1 (by omega) c0 c1 c2 c3; have X1 := Lib.hid (HB.out.trans (hb1.mono (by omega))); have R1 := Lib.hid (R0.out.next hb1); clear hb1)))
    have hd1 := HD.out.1
    have hd2 := HD.out.2.1
    have hsz := hs1
    go_loopg [5, 6] m (fun g c s wr => ∃ k : Nat, 1 ≤ k ∧ k ≤ ordZ m (tabOf Y) e a ∧ m ≤ k + g ∧ c = .int .i64 k ∧ s = .int .i64 (seqZ m (tabOf Y) e a k) ∧ Below w1.heap.size w1 wr)
    case atStart => exact ⟨1, Nat.le_refl _, hd1, by omega, rfl, by rw [H1.out], Below.refl _ _⟩
    case round =>
      obtain ⟨k, hk1, hkd, hg, rfl, rfl, hb⟩ := hrel
      obtain ⟨f0, f1, f2, f3, hs2⟩ := box4_next hb (by omega) d0 d1 d2 d3
      have X2 := Lib.hid (X1.out.trans (hb.mono (by omega)))
      have B2 := Lib.hid hb
      have R2 := Lib.hid (R1.out.next hb)
      have hl := HL.out k
      clear hb
      by_cases h0 : seqZ m (tabOf Y) e a k = e
      · have t0 : (((seqZ m (tabOf Y) e a k : Nat) : Int) != (e : Int)) = false := by rw [bne_eq_false_iff_eq]; omega
        have hkk : k = ordZ m (tabOf Y) e a := by
          rcases Nat.lt_or_ge k (ordZ m (tabOf Y) e a) with h2 | h2
          · exact absurd h0 (HD.out.2.2.2 k hk1 h2)
          · omega
        have HK := Lib.hid hkk
        clear h0 hkk
        go_wp2
        go_ret
        exact ⟨ret_int (by rw [hz.out, HK.out]), X2.out⟩
      · have t0 : (((seqZ m (tabOf Y) e a k : Nat) : Int) != (e : Int)) = true := by rw [bne_iff_ne]; omega
        have hkk : k < ordZ m (tabOf Y) e a := by
          rcases Nat.lt_or_ge k (ordZ m (tabOf Y) e a) with h2 | h2
          · exact h2
          · have q : k = ordZ m (tabOf Y) e a := by omega
            exact absurd (by rw [q]; exact HD.out.2.2.1) h0
        clear h0
        go_wp2_with (go_at_call 70; ((with_reducible refine (l1Mul_any (seqZ m (tabOf Y) e a k) a m e b1 o1 la ca b2 o2 lb cb (tabOf X) (tabOf Y) _ R2.out hl la').mono ?_); rintro e3 w3 ⟨rfl, hb3⟩; have B3 := Lib.hid (B2.out.trans (hb3.mono hs2)); clear hb3))
        go_roundg (m - (k + 1))
        case measure => omega
        case rel => exact ⟨k + 1, by omega, by omega, by omega, by go_num, rfl, B3.out⟩
  · have hz := Lib.hid (uordV_no hv)
    have hv2 : invV n o X Y a < 0 := by omega
    obtain ⟨c0, c1, c2, c3, hs⟩ := box4_new w (.int .i64 n) (.int .i64 o) (.slice A la ca) (.slice B lb cb) 28
    obtain ⟨W, hW⟩ : ∃ W, w.alloc (.cells #[.int .i64 n, .int .i64 o, .slice A la ca, .slice B lb cb] 28) = W := ⟨_, rfl⟩
    have HB := Lib.hid (show Below w.heap.size w W by subst hW; exact (Below.refl w.heap.size w).alloc (Nat.le_refl _) _)
    have H0X := Lib.hid (hX.next HB.out)
    have H0Y := Lib.hid (hY.next HB.out)
    rw [hW] at c0 c1 c2 c3 hs
    have HW := Lib.hid hW
    clear hW hX hY
    go_enter Try.func40, Try.ntmps40
    go_wp2_with (fail)
    rw [HW.out]
    go_wp2_with ((go_at_call 30; ((with_reducible refine (sinv_any _ _ _ _ _ _ _ _ X Y _ _ H0X.out H0Y.out hla hlb hca hcb).mono ?_); rintro e1 w1 ⟨rfl, hb1⟩; obtain ⟨d0, d1, d2, d3, hs1⟩ := box4_next hb1 (by omega) c0 c1 c2 c3; have X1 := Lib.hid (HB.out.trans (hb1.mono (by omega))); clear hb1)))
    go_ret
    exact ⟨ret_int hz.out.symm, X1.out⟩

end Go.Proofs.Ytocoegekdamlbaa
