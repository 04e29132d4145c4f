
import Derived.Test.YtihjnjcfiipcoaaMJ
import Derived.Test.YtihjnjcfiipcoaaMH
/- The walk of the law FnIntegers. -/
namespace Go.Proofs.Ytihjnjcfiipcoaa
open Go.RowKit
set_option maxRecDepth 100000

set_option maxHeartbeats 16000000 in
theorem fnIntegers_walk (A : Option Addr) (n c : Nat) (w : World) (hb : Byts w w.heap.size A n) (hc : n ≤ c) (hc2 : c ≤ 9223372036854775807) :
    Calls Try.prog 4 #[.slice A n c] w fun e w' => e = .returned (.bool true) ∧ Below w.heap.size w w' := by
  by_cases hbig : n > 1048576
  · have t0 : decide ((n : Int) > 1048576) = true := by simp; omega
    go_enter Try.func4, Try.ntmps4
    go_wp2_with (fail)
    go_ret
    exact ⟨rfl, Below.refl _ _⟩
  have hn : n ≤ 1048576 := by omega
  have t0 : decide ((n : Int) > 1048576) = false := by simp; omega
  go_enter Try.func4, Try.ntmps4
  go_wp2_with (fail)
  refine (drawIntegers_any A n c w hb hn hc hc2).mono ?_
  rintro e w_0 ⟨x, rfl, hb_0⟩
  have B0 := Lib.hid hb_0
  clear hb_0
  go_wp2_with (fail)
  refine (implIntegers_any x w_0).mono ?_
  rintro e w_1 ⟨v, rfl, hv, hb_1⟩
  obtain ⟨A1, A2, la, ca, lb, cb, rfl, hI⟩ := hv.rin
  have B1 := Lib.hid (B0.out.trans (hb_1.mono B0.out.size))
  clear hb_1 hv
  obtain ⟨w_2, hV⟩ : ∃ V, World.alloc w_1 (.cells #[.int .i64 (intN x), .int .i64 (intO x), .slice A1 la ca, .slice A2 lb cb] 25) = V := ⟨_, rfl⟩
  have hb_2 : Below (World.heap w_1).size w_1 w_2 := by subst hV; exact (Below.refl _ _).alloc (Nat.le_refl _) _
  obtain ⟨bR, hbx⟩ : ∃ b, b = (World.heap w_1).size := ⟨_, rfl⟩
  have KR2 := Lib.hid (show Blk w_2 bR 25 #[.int .i64 (intN x), .int .i64 (intO x), .slice A1 la ca, .slice A2 lb cb] by subst hV hbx; exact Blk.new w_1 _ _)
  have I2 := Lib.hid (hI.next hb_2)
  have B2 := Lib.hid (B1.out.trans (hb_2.mono B1.out.size))
  clear hb_2 hI
  go_upto_region 5 with (fail)
  rw [← hbx]
  clear hV hbx
  go_wp2_with (fail)
  refine (specIntegers_any x w_2).mono ?_
  rintro e w_3 ⟨v, rfl, hv, hb_3⟩
  obtain ⟨A3, A4, la', ca', lb', cb', rfl, hJ⟩ := hv.rin
  have B3 := Lib.hid (B2.out.trans (hb_3.mono B2.out.size))
  have KR3 := Lib.hid (KR2.out.next hb_3)
  have I3 := Lib.hid (I2.out.next hb_3)
  clear hb_3 hv
  obtain ⟨w_4, hV⟩ : ∃ V, World.alloc w_3 (.cells #[.int .i64 (intN x), .int .i64 (intO x), .slice A3 la' ca', .slice A4 lb' cb'] 25) = V := ⟨_, rfl⟩
  have hb_4 : Below (World.heap w_3).size w_3 w_4 := by subst hV; exact (Below.refl _ _).alloc (Nat.le_refl _) _
  obtain ⟨bS, hbx⟩ : ∃ b, b = (World.heap w_3).size := ⟨_, rfl⟩
  have KS4 := Lib.hid (show Blk w_4 bS 25 #[.int .i64 (intN x), .int .i64 (intO x), .slice A3 la' ca', .slice A4 lb' cb'] by subst hV hbx; exact Blk.new w_3 _ _)
  have I4 := Lib.hid (I3.out.next hb_4)
  have J4 := Lib.hid (hJ.next hb_4)
  have KR4 := Lib.hid (KR3.out.next hb_4)
  have B4 := Lib.hid (B3.out.trans (hb_4.mono B3.out.size))
  clear hb_4 hJ
  go_upto_region 6 with (fail)
  rw [← hbx]
  clear hV hbx
  cases hok : intOk x
  · skip
    have c0 := KR4.out.cell 0
    have c1 := KR4.out.cell 1
    have c2 := KR4.out.cell 2
    have c3 := KR4.out.cell 3
    have d0 := KS4.out.cell 0
    have d1 := KS4.out.cell 1
    have d2 := KS4.out.cell 2
    have d3 := KS4.out.cell 3
    simp at c0 c1 c2 c3 d0 d1 d2 d3
    go_wp2_with (fail)
    refine (c_frRing I4.out J4.out true sameB_self).mono ?_
    rintro e w_5 ⟨rfl, hb_5⟩
    have KR5 := Lib.hid (KR4.out.next hb_5)
    have KS5 := Lib.hid (KS4.out.next hb_5)
    have I5 := Lib.hid (I4.out.next hb_5)
    have J5 := Lib.hid (J4.out.next hb_5)
    have B5 := Lib.hid (B4.out.trans (hb_5.mono B4.out.size))
    clear hb_5 c0 c1 c2 c3 d0 d1 d2 d3
    have c0 := KR5.out.cell 0
    have c1 := KR5.out.cell 1
    have c2 := KR5.out.cell 2
    have c3 := KR5.out.cell 3
    have d0 := KS5.out.cell 0
    have d1 := KS5.out.cell 1
    have d2 := KS5.out.cell 2
    have d3 := KS5.out.cell 3
    simp at c0 c1 c2 c3 d0 d1 d2 d3
    go_wp2_with (fail)
    refine (c_frRing I5.out J5.out true sameB_self).mono ?_
    rintro e w_6 ⟨rfl, hb_6⟩
    have KR6 := Lib.hid (KR5.out.next hb_6)
    have KS6 := Lib.hid (KS5.out.next hb_6)
    have I6 := Lib.hid (I5.out.next hb_6)
    have J6 := Lib.hid (J5.out.next hb_6)
    have B6 := Lib.hid (B5.out.trans (hb_6.mono B5.out.size))
    clear hb_6 c0 c1 c2 c3 d0 d1 d2 d3
    have c0 := KR6.out.cell 0
    have c1 := KR6.out.cell 1
    have c2 := KR6.out.cell 2
    have c3 := KR6.out.cell 3
    have d0 := KS6.out.cell 0
    have d1 := KS6.out.cell 1
    have d2 := KS6.out.cell 2
    have d3 := KS6.out.cell 3
    simp at c0 c1 c2 c3 d0 d1 d2 d3
    go_wp2_with (fail)
    go_ret
    exact ⟨rfl, B6.out⟩
  · have hx := hok
    unfold intOk at hx
    rw [Bool.and_eq_true, decide_eq_true_iff, decide_eq_true_iff] at hx
    obtain ⟨m, rfl⟩ : ∃ m : Nat, x = m := ⟨x.toNat, by omega⟩
    have hm : 1 ≤ m := by omega
    have hm' : m ≤ 16 := by omega
    have en : intN (m : Int) = m := by unfold intN; rw [if_pos hok]
    have eo : intO (m : Int) = ((1 % m : Nat) : Int) := by unfold intO; rw [if_pos hok]; rfl
    have eX : intX (m : Int) = tabZ m (fun a b => (a + b) % m) (m * m) := by unfold intX; rw [if_pos hok]; rfl
    have eY : intY (m : Int) = tabZ m (fun a b => a * b % m) (m * m) := by unfold intY; rw [if_pos hok]; rfl
    obtain ⟨e, he⟩ : ∃ k, 1 % m = k := ⟨_, rfl⟩
    rw [he] at eo
    rw [en, eo] at KR4 KS4
    obtain ⟨X, hX⟩ : ∃ X, intX (m : Int) = X := ⟨_, rfl⟩
    obtain ⟨Y, hY⟩ : ∃ X, intY (m : Int) = X := ⟨_, rfl⟩
    rw [hX, hY] at I4 J4
    have v1 : validB m e X Y = true := by rw [← hX, ← hY, eX, eY, ← he]; exact (int_fring hm).valid hm'
    have hch : ordN m (tabOf X) e = m := by rw [← hX, eX, ← he]; exact int_char hm
    have gX : ∀ k, k < m * m → X[k]?.getD 0 = (((k / m + k % m) % m : Nat) : Int) := fun k hk => by rw [← hX, eX]; exact tabZ_val hk
    have gY : ∀ k, k < m * m → Y[k]?.getD 0 = ((k / m * (k % m) % m : Nat) : Int) := fun k hk => by rw [← hY, eY]; exact tabZ_val hk
    have V1 := Lib.hid v1
    have GX := Lib.hid gX
    have GY := Lib.hid gY
    clear gX gY hX hY eX eY en eo
    obtain ⟨m', e', b1, o1, b2, o2, q1, q2, rfl, rfl, hr, _⟩ := valid_data v1 I4.out.hX I4.out.hY I4.out.hca I4.out.hcb
    have HLA := Lib.hid hr.hla
    have HLB := Lib.hid hr.hlb
    have q1' : m = m' := by omega
    subst q1'
    clear hr q1 q2 v1 he hx
    obtain ⟨s1, s2, s3, s4⟩ := sqI hm'
    have S3 := Lib.hid s3
    clear s3
    have F1 := Lib.hid (show ∀ u, RIn u (some ⟨b1, o1, none⟩) la ca (some ⟨b2, o2, none⟩) lb cb X Y → Calls Try.prog 17 #[.agg #[.int .i64 m, .int .i64 e, .slice (some ⟨b1, o1, none⟩) la ca, .slice (some ⟨b2, o2, none⟩) lb cb]] u fun e' w' => e' = .returned (.bool true) ∧ Below u.heap.size u w' from fun u h => c_valid h _ V1.out)
    have F2 := Lib.hid (show ∀ u, RIn u (some ⟨b1, o1, none⟩) la ca (some ⟨b2, o2, none⟩) lb cb X Y → Calls Try.prog 27 #[.agg #[.int .i64 m, .int .i64 e, .slice (some ⟨b1, o1, none⟩) la ca, .slice (some ⟨b2, o2, none⟩) lb cb]] u fun e' w' => e' = .returned (.int .i64 m) ∧ Below u.heap.size u w' from fun u h => c_char h _ (v_char V1.out hch))
    have c0 := KR4.out.cell 0
    have c1 := KR4.out.cell 1
    have c2 := KR4.out.cell 2
    have c3 := KR4.out.cell 3
    have d0 := KS4.out.cell 0
    have d1 := KS4.out.cell 1
    have d2 := KS4.out.cell 2
    have d3 := KS4.out.cell 3
    simp at c0 c1 c2 c3 d0 d1 d2 d3
    go_wp2_with (fail)
    refine (c_frRing I4.out J4.out true sameB_self).mono ?_
    rintro e w_5 ⟨rfl, hb_5⟩
    have KR5 := Lib.hid (KR4.out.next hb_5)
    have KS5 := Lib.hid (KS4.out.next hb_5)
    have I5 := Lib.hid (I4.out.next hb_5)
    have J5 := Lib.hid (J4.out.next hb_5)
    have B5 := Lib.hid (B4.out.trans (hb_5.mono B4.out.size))
    clear hb_5 c0 c1 c2 c3 d0 d1 d2 d3
    have c0 := KR5.out.cell 0
    have c1 := KR5.out.cell 1
    have c2 := KR5.out.cell 2
    have c3 := KR5.out.cell 3
    have d0 := KS5.out.cell 0
    have d1 := KS5.out.cell 1
    have d2 := KS5.out.cell 2
    have d3 := KS5.out.cell 3
    simp at c0 c1 c2 c3 d0 d1 d2 d3
    go_wp2_with (fail)
    go_loopw [48] (fun iv wr => ∃ k : Nat, k ≤ m * m ∧ iv = .int .i64 k ∧ Below w_5.heap.size w_5 wr) (fun iv _ => m * m - (intOf iv).toNat)
    case atStart => exact ⟨0, Nat.zero_le _, rfl, Below.refl _ _⟩
    case round =>
      obtain ⟨k, hk, rfl, hbr⟩ := hrel
      clear c0 c1 c2 c3 d0 d1 d2 d3
      have KR9 := Lib.hid (KR5.out.next hbr)
      have I9 := Lib.hid (I5.out.next hbr)
      have B9 := Lib.hid (B5.out.trans (hbr.mono B5.out.size))
      have BQ := Lib.hid hbr
      clear hbr
      have c0 := KR9.out.cell 0
      have c1 := KR9.out.cell 1
      have c2 := KR9.out.cell 2
      have c3 := KR9.out.cell 3
      simp at c0 c1 c2 c3
      by_cases hlt : k < m * m
      · have i1 : (k : Int) < (m : Int) * m := by rw [S3.out]; omega
        have n3 : ¬ m = 0 := by omega
        obtain ⟨p1, p2⟩ := parts2 hlt
        have lka : k < la := by rw [HLA.out]; exact hlt
        have lkb : k < lb := by rw [HLB.out]; exact hlt
        obtain ⟨_, _, eA, _, hcx⟩ := I9.out.hX.at_ lka
        injection eA with eA
        injection eA with eA1 eA2
        subst eA1 eA2
        obtain ⟨_, _, eA, _, hcy⟩ := I9.out.hY.at_ lkb
        injection eA with eA
        injection eA with eA1 eA2
        subst eA1 eA2
        rw [GX.out k hlt] at hcx
        rw [GY.out k hlt] at hcy
        obtain ⟨A, eA⟩ : ∃ A : Nat, A = k / m := ⟨_, rfl⟩
        obtain ⟨B, eB⟩ : ∃ B : Nat, B = k % m := ⟨_, rfl⟩
        rw [← eA] at p1 hcx hcy
        rw [← eB] at p2 hcx hcy
        have f1 : (k : Int) / m = (A : Int) := by rw [eA]; simp
        have f2 : (k : Int) % m = (B : Int) := by rw [eB]; simp
        obtain ⟨sv, hsv⟩ : ∃ s, (A + B) % m = s := ⟨_, rfl⟩
        obtain ⟨pv, hpv⟩ : ∃ s, A * B % m = s := ⟨_, rfl⟩
        rw [hsv] at hcx
        rw [hpv] at hcy
        have f3 : ((A : Int) + (B : Int)) % m = (sv : Int) := by rw [← hsv]; simp
        obtain ⟨ab, hab⟩ : ∃ s, A * B = s := ⟨_, rfl⟩
        have lab : ab ≤ 256 := by rw [← hab]; exact Nat.le_trans (Nat.mul_le_mul (show A ≤ 16 by omega) (show B ≤ 16 by omega)) (by decide)
        have f5 : (A : Int) * (B : Int) = (ab : Int) := by rw [← hab]; simp
        have f4 : (ab : Int) % m = (pv : Int) := by rw [← hpv, ← hab]; simp
        clear eA eB hsv hpv hab
        go_wp2
        go_quiet (fail)
        go_wp2
        go_roundw
        case rel => exact ⟨k + 1, by omega, by go_num, by first | exact BQ.out | exact below_drewN BQ.out _⟩
        case measure => simp [intOf]; omega
      · have i1 : ¬ (k : Int) < (m : Int) * m := by rw [S3.out]; omega
        go_wp2_with (fail)
        refine (F1.out _ I9.out).mono ?_
        rintro e w_10 ⟨rfl, hb_10⟩
        have KR10 := Lib.hid (KR9.out.next hb_10)
        have I10 := Lib.hid (I9.out.next hb_10)
        have B10 := Lib.hid (B9.out.trans (hb_10.mono B9.out.size))
        clear hb_10 c0 c1 c2 c3
        have c0 := KR10.out.cell 0
        have c1 := KR10.out.cell 1
        have c2 := KR10.out.cell 2
        have c3 := KR10.out.cell 3
        simp at c0 c1 c2 c3
        go_wp2_with (fail)
        refine (F2.out _ I10.out).mono ?_
        rintro e w_11 ⟨rfl, hb_11⟩
        have KR11 := Lib.hid (KR10.out.next hb_11)
        have B11 := Lib.hid (B10.out.trans (hb_11.mono B10.out.size))
        clear hb_11 c0 c1 c2 c3
        have c0 := KR11.out.cell 0
        have c1 := KR11.out.cell 1
        have c2 := KR11.out.cell 2
        have c3 := KR11.out.cell 3
        simp at c0 c1 c2 c3
        go_wp2_with (fail)
        go_ret
        exact ⟨rfl, B11.out⟩

end Go.Proofs.Ytihjnjcfiipcoaa
