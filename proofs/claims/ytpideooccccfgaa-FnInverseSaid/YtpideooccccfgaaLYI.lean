
import Derived.Test.YtpideooccccfgaaMH
/- The walk of the law FnInverse. -/
namespace Go.Proofs.Ytpideooccccfgaa
open Go.RowKit
set_option maxRecDepth 100000

def fnInverse_r1_mk (i : Nat) : Bool := i == 41
def fnInverse_r1_L (i : Nat) : Bool := i == 41
def fnInverse_r1_Z (U : List Int) (_ : Nat) : List Int := U
def fnInverse_r1_N (nU : Nat) (_ : Nat) : Nat := nU
def fnInverse_r1_B (_ : Nat) : Bool := false
set_option maxHeartbeats 16000000 in
theorem fnInverse_walk (A : Option Addr) (n c : Nat) (w : World) (hb : Byts w w.heap.size A n) (hc : n ≤ c) (hc2 : c ≤ 9223372036854775807) :
    Calls Try.prog 12 #[.slice A n c] w fun e w' => e = .returned (.bool true) ∧ Below w.heap.size w w' := by
  by_cases hbig : n > 1048576
  · have t0 : decide ((n : Int) > 1048576) = true := by simp; omega
    go_enter Try.func12, Try.ntmps12
    go_wp2_with (fail)
    go_ret
    exact ⟨rfl, Below.refl _ _⟩
  have hn : n ≤ 1048576 := by omega
  have t0 : decide ((n : Int) > 1048576) = false := by simp; omega
  go_enter Try.func12, Try.ntmps12
  go_wp2_with (fail)
  refine (drawInverseOf_any A n c w hb hn hc hc2).mono ?_
  rintro e w1 ⟨v, a, rfl, hA, ha, hb1⟩
  have Ha := Lib.hid ha
  clear ha
  obtain ⟨N, O, A1, A2, q, ca, cb, X, Y, rfl, hI, hq, hNmx⟩ := hA.rin
  obtain ⟨V, hV⟩ : ∃ V, w1.alloc (.cells #[.int .i64 N, .int .i64 O, .slice A1 q ca, .slice A2 q cb] 25) = V := ⟨_, rfl⟩
  have bV : Below w1.heap.size w1 V := by subst hV; exact (Below.refl _ _).alloc (Nat.le_refl _) _
  obtain ⟨bx, hbx⟩ : ∃ b, b = w1.heap.size := ⟨_, rfl⟩
  have K0 := Lib.hid (show Blk V bx 25 #[.int .i64 N, .int .i64 O, .slice A1 q ca, .slice A2 q cb] by subst hV hbx; exact Blk.new w1 _ _)
  have I0 := Lib.hid (hI.next bV)
  have B0 := Lib.hid (hb1.trans (bV.mono hb1.size))
  clear hI hb1 hA
  go_upto_region 4 with (fail)
  rw [← hbx]
  clear hV hbx bV
  rcases inv_cases (n := N) (o := O) (X := X) (Y := Y) (a := a) with ez | ⟨v1, ia, hi⟩
  · have eu : uordV N O X Y a = -1 := uordV_no (by omega)
    have H1 := Lib.hid (show ∀ u, RIn u A1 q ca A2 q cb X Y → Calls Try.prog 67 #[.agg #[.int .i64 N, .int .i64 O, .slice A1 q ca, .slice A2 q cb], .int .i64 a] u fun e' w' => e' = .returned (.int .i64 (-1)) ∧ Below u.heap.size u w' from fun u h => c_inv h _ _ ez)
    have H2 := Lib.hid (show ∀ u, RIn u A1 q ca A2 q cb X Y → Calls Try.prog 68 #[.agg #[.int .i64 N, .int .i64 O, .slice A1 q ca, .slice A2 q cb], .int .i64 a] u fun e' w' => e' = .returned (.int .i64 (-1)) ∧ Below u.heap.size u w' from fun u h => c_uord h _ _ eu)
    have S1 := Lib.hid (show ∀ u, RIn u A1 q ca A2 q cb X Y → Calls Try.prog 69 #[.agg #[.int .i64 N, .int .i64 O, .slice A1 q ca, .slice A2 q cb], .int .i64 a] u fun e' w' => e' = .returned (.int .i64 (-1)) ∧ Below u.heap.size u w' from fun u h => cs_inv h _ _ ez)
    have S2 := Lib.hid (show ∀ u, RIn u A1 q ca A2 q cb X Y → Calls Try.prog 70 #[.agg #[.int .i64 N, .int .i64 O, .slice A1 q ca, .slice A2 q cb], .int .i64 a] u fun e' w' => e' = .returned (.int .i64 (-1)) ∧ Below u.heap.size u w' from fun u h => cs_uord h _ _ eu)
    clear ez eu
    have c0 := K0.out.cell 0
    have c1 := K0.out.cell 1
    have c2 := K0.out.cell 2
    have c3 := K0.out.cell 3
    simp at c0 c1 c2 c3
    go_wp2_with (fail)
    refine (H1.out _ I0.out).mono ?_
    rintro e w_1 ⟨rfl, hb_1⟩
    have K1 := Lib.hid (K0.out.next hb_1)
    have I1 := Lib.hid (I0.out.next hb_1)
    have B1 := Lib.hid (B0.out.trans (hb_1.mono B0.out.size))
    clear hb_1 c0 c1 c2 c3
    have c0 := K1.out.cell 0
    have c1 := K1.out.cell 1
    have c2 := K1.out.cell 2
    have c3 := K1.out.cell 3
    simp at c0 c1 c2 c3
    go_wp2_with (fail)
    refine (H2.out _ I1.out).mono ?_
    rintro e w_2 ⟨rfl, hb_2⟩
    have K2 := Lib.hid (K1.out.next hb_2)
    have I2 := Lib.hid (I1.out.next hb_2)
    have B2 := Lib.hid (B1.out.trans (hb_2.mono B1.out.size))
    clear hb_2 c0 c1 c2 c3
    have c0 := K2.out.cell 0
    have c1 := K2.out.cell 1
    have c2 := K2.out.cell 2
    have c3 := K2.out.cell 3
    simp at c0 c1 c2 c3
    go_wp2_with (fail)
    refine (S1.out _ I2.out).mono ?_
    rintro e w_3 ⟨rfl, hb_3⟩
    have K3 := Lib.hid (K2.out.next hb_3)
    have I3 := Lib.hid (I2.out.next hb_3)
    have B3 := Lib.hid (B2.out.trans (hb_3.mono B2.out.size))
    clear hb_3 c0 c1 c2 c3
    have c0 := K3.out.cell 0
    have c1 := K3.out.cell 1
    have c2 := K3.out.cell 2
    have c3 := K3.out.cell 3
    simp at c0 c1 c2 c3
    go_wp2_with (fail)
    refine (S2.out _ I3.out).mono ?_
    rintro e w_4 ⟨rfl, hb_4⟩
    have K4 := Lib.hid (K3.out.next hb_4)
    have I4 := Lib.hid (I3.out.next hb_4)
    have B4 := Lib.hid (B3.out.trans (hb_4.mono B3.out.size))
    clear hb_4 c0 c1 c2 c3
    have c0 := K4.out.cell 0
    have c1 := K4.out.cell 1
    have c2 := K4.out.cell 2
    have c3 := K4.out.cell 3
    simp at c0 c1 c2 c3
    go_wp2_with (fail)
    refine (S1.out _ I4.out).mono ?_
    rintro e w_5 ⟨rfl, hb_5⟩
    have K5 := Lib.hid (K4.out.next hb_5)
    have I5 := Lib.hid (I4.out.next hb_5)
    have B5 := Lib.hid (B4.out.trans (hb_5.mono B4.out.size))
    clear hb_5 c0 c1 c2 c3
    have c0 := K5.out.cell 0
    have c1 := K5.out.cell 1
    have c2 := K5.out.cell 2
    have c3 := K5.out.cell 3
    simp at c0 c1 c2 c3
    go_wp2_with (fail)
    refine (S2.out _ I5.out).mono ?_
    rintro e w_6 ⟨rfl, hb_6⟩
    have K6 := Lib.hid (K5.out.next hb_6)
    have I6 := Lib.hid (I5.out.next hb_6)
    have B6 := Lib.hid (B5.out.trans (hb_6.mono B5.out.size))
    clear hb_6 c0 c1 c2 c3
    have c0 := K6.out.cell 0
    have c1 := K6.out.cell 1
    have c2 := K6.out.cell 2
    have c3 := K6.out.cell 3
    simp at c0 c1 c2 c3
    go_wp2_with (fail)
    go_ret
    exact ⟨rfl, B6.out⟩
  · skip
    obtain ⟨m, e, b1, o1, b2, o2, rfl, rfl, rfl, rfl, hr, _⟩ := valid_data v1 I0.out.hX I0.out.hY I0.out.hca I0.out.hcb
    have V1 := Lib.hid v1
    have R := Lib.hid (rtab_of_valid v1)
    have hm := hr.hm
    have hm' := hr.hm'
    have he := hr.he
    have HQ := Lib.hid hr.hla
    clear hr v1
    obtain ⟨A3, rfl, hA3⟩ : ∃ k : Nat, a = k ∧ k < m := by
      have := of_decide_eq_true ia
      exact ⟨a.toNat, by omega, by omega⟩
    have hi' := hi
    rw [invV_yes V1.out (inB_nat hA3)] at hi'
    obtain ⟨cv, lcv, ecv, hcv⟩ := inv_data hi'
    have hu : UnitAt m (tabOf Y) e A3 := ⟨cv, lcv, hcv⟩
    have hu' : UnitAt m (tabOf Y) e cv := ⟨A3, hA3, by rw [R.out.p.comm lcv hA3]; exact hcv⟩
    obtain ⟨d, hd⟩ : ∃ x : Nat, ordZ m (tabOf Y) e A3 = x := ⟨_, rfl⟩
    have HO := Lib.hid (R.out.uord hA3 hu)
    have hd1 : 1 ≤ d := by rw [← hd]; exact HO.out.1
    have hdm : d ≤ m := by rw [← hd]; exact HO.out.2.1
    have hd0 : seqZ m (tabOf Y) e A3 d = e := by rw [← hd]; exact HO.out.2.2.1
    have hdp : seqZ m (tabOf Y) e A3 (d - 1) = cv := by rw [← hd]; exact R.out.pw_pred hA3 lcv hcv
    have hdc : ordZ m (tabOf Y) e cv = d := by rw [← hd]; exact R.out.ord_inv hA3 lcv hcv
    have hsym : tabOf Y (cv * m + A3) = e := by rw [R.out.p.comm lcv hA3]; exact hcv
    obtain ⟨U, eU⟩ : ∃ Z, kindsL m e X Y 0 = Z := ⟨_, rfl⟩
    obtain ⟨nU, hnU⟩ : ∃ n, U.length = n := ⟨_, rfl⟩
    have HnU := Lib.hid hnU
    have EU := Lib.hid eU
    clear hnU eU
    have q0 : d ∣ nU := by
      rw [← HnU.out, ← EU.out, kindsL_yes V1.out, finI_len, ← hd]
      exact R.out.uord_units hA3 hu
    have q3 : (nU : Int) % d = 0 := Int.emod_eq_zero_of_dvd (Int.natCast_dvd_natCast.2 q0)
    have q4 : (nU : Int).tmod d = 0 := by rw [Int.tmod_eq_emod_of_nonneg (by omega)]; exact q3
    have n3 : ¬ d = 0 := by omega
    clear q0 hi hi'
    have H1 := Lib.hid (show ∀ u, RIn u (some ⟨b1, o1, none⟩) q ca (some ⟨b2, o2, none⟩) q cb X Y → Calls Try.prog 67 #[.agg #[.int .i64 m, .int .i64 e, .slice (some ⟨b1, o1, none⟩) q ca, .slice (some ⟨b2, o2, none⟩) q cb], .int .i64 A3] u fun e' w' => e' = .returned (.int .i64 cv) ∧ Below u.heap.size u w' from fun u h => c_inv h _ _ (v_inv V1.out hA3 lcv hcv rfl rfl))
    have H2 := Lib.hid (show ∀ u, RIn u (some ⟨b1, o1, none⟩) q ca (some ⟨b2, o2, none⟩) q cb X Y → Calls Try.prog 68 #[.agg #[.int .i64 m, .int .i64 e, .slice (some ⟨b1, o1, none⟩) q ca, .slice (some ⟨b2, o2, none⟩) q cb], .int .i64 A3] u fun e' w' => e' = .returned (.int .i64 d) ∧ Below u.heap.size u w' from fun u h => c_uord h _ _ (v_uord V1.out hA3 lcv hcv hd rfl rfl))
    have S1 := Lib.hid (show ∀ u, RIn u (some ⟨b1, o1, none⟩) q ca (some ⟨b2, o2, none⟩) q cb X Y → Calls Try.prog 69 #[.agg #[.int .i64 m, .int .i64 e, .slice (some ⟨b1, o1, none⟩) q ca, .slice (some ⟨b2, o2, none⟩) q cb], .int .i64 A3] u fun e' w' => e' = .returned (.int .i64 cv) ∧ Below u.heap.size u w' from fun u h => cs_inv h _ _ (v_inv V1.out hA3 lcv hcv rfl rfl))
    have S2 := Lib.hid (show ∀ u, RIn u (some ⟨b1, o1, none⟩) q ca (some ⟨b2, o2, none⟩) q cb X Y → Calls Try.prog 70 #[.agg #[.int .i64 m, .int .i64 e, .slice (some ⟨b1, o1, none⟩) q ca, .slice (some ⟨b2, o2, none⟩) q cb], .int .i64 A3] u fun e' w' => e' = .returned (.int .i64 d) ∧ Below u.heap.size u w' from fun u h => cs_uord h _ _ (v_uord V1.out hA3 lcv hcv hd rfl rfl))
    have G1 := Lib.hid (show ∀ u, RIn u (some ⟨b1, o1, none⟩) q ca (some ⟨b2, o2, none⟩) q cb X Y → Calls Try.prog 40 #[.agg #[.int .i64 m, .int .i64 e, .slice (some ⟨b1, o1, none⟩) q ca, .slice (some ⟨b2, o2, none⟩) q cb], .int .i64 A3, .int .i64 cv] u fun e' w' => e' = .returned (.int .i64 e) ∧ Below u.heap.size u w' from fun u h => c_frMul h V1.out hA3 lcv hcv rfl rfl rfl)
    have G2 := Lib.hid (show ∀ u, RIn u (some ⟨b1, o1, none⟩) q ca (some ⟨b2, o2, none⟩) q cb X Y → Calls Try.prog 67 #[.agg #[.int .i64 m, .int .i64 e, .slice (some ⟨b1, o1, none⟩) q ca, .slice (some ⟨b2, o2, none⟩) q cb], .int .i64 cv] u fun e' w' => e' = .returned (.int .i64 A3) ∧ Below u.heap.size u w' from fun u h => c_inv h _ _ (v_inv V1.out lcv hA3 hsym rfl rfl))
    have G3 := Lib.hid (show ∀ u, RIn u (some ⟨b1, o1, none⟩) q ca (some ⟨b2, o2, none⟩) q cb X Y → Calls Try.prog 68 #[.agg #[.int .i64 m, .int .i64 e, .slice (some ⟨b1, o1, none⟩) q ca, .slice (some ⟨b2, o2, none⟩) q cb], .int .i64 cv] u fun e' w' => e' = .returned (.int .i64 d) ∧ Below u.heap.size u w' from fun u h => c_uord h _ _ (v_uord V1.out lcv hA3 hsym hdc rfl rfl))
    have G4 := Lib.hid (show ∀ u, RIn u (some ⟨b1, o1, none⟩) q ca (some ⟨b2, o2, none⟩) q cb X Y → Calls Try.prog 48 #[.agg #[.int .i64 m, .int .i64 e, .slice (some ⟨b1, o1, none⟩) q ca, .slice (some ⟨b2, o2, none⟩) q cb], .int .i64 A3, .int .i64 d] u fun e' w' => e' = .returned (.int .i64 e) ∧ Below u.heap.size u w' from fun u h => c_pow h _ _ (by omega) _ (v_pow V1.out hA3 (by omega) hd0 rfl rfl rfl))
    have G5 := Lib.hid (show ∀ u, RIn u (some ⟨b1, o1, none⟩) q ca (some ⟨b2, o2, none⟩) q cb X Y → Calls Try.prog 48 #[.agg #[.int .i64 m, .int .i64 e, .slice (some ⟨b1, o1, none⟩) q ca, .slice (some ⟨b2, o2, none⟩) q cb], .int .i64 A3, .int .i64 (d - 1)] u fun e' w' => e' = .returned (.int .i64 cv) ∧ Below u.heap.size u w' from fun u h => c_pow h _ _ (by omega) _ (v_pow V1.out hA3 (j := d - 1) (by omega) hdp rfl (by omega) rfl))
    have HD := Lib.hid hd
    have HU := Lib.hid hu
    clear hcv ecv hd hd0 hdp hdc hsym ia hu hu'
    have c0 := K0.out.cell 0
    have c1 := K0.out.cell 1
    have c2 := K0.out.cell 2
    have c3 := K0.out.cell 3
    simp at c0 c1 c2 c3
    go_wp2_with (fail)
    refine (H1.out _ I0.out).mono ?_
    rintro e w_1 ⟨rfl, hb_1⟩
    have K1 := Lib.hid (K0.out.next hb_1)
    have I1 := Lib.hid (I0.out.next hb_1)
    have B1 := Lib.hid (B0.out.trans (hb_1.mono B0.out.size))
    clear hb_1 c0 c1 c2 c3
    have c0 := K1.out.cell 0
    have c1 := K1.out.cell 1
    have c2 := K1.out.cell 2
    have c3 := K1.out.cell 3
    simp at c0 c1 c2 c3
    go_wp2_with (fail)
    refine (H2.out _ I1.out).mono ?_
    rintro e w_2 ⟨rfl, hb_2⟩
    have K2 := Lib.hid (K1.out.next hb_2)
    have I2 := Lib.hid (I1.out.next hb_2)
    have B2 := Lib.hid (B1.out.trans (hb_2.mono B1.out.size))
    clear hb_2 c0 c1 c2 c3
    have c0 := K2.out.cell 0
    have c1 := K2.out.cell 1
    have c2 := K2.out.cell 2
    have c3 := K2.out.cell 3
    simp at c0 c1 c2 c3
    go_wp2_with (fail)
    refine (S1.out _ I2.out).mono ?_
    rintro e w_3 ⟨rfl, hb_3⟩
    have K3 := Lib.hid (K2.out.next hb_3)
    have I3 := Lib.hid (I2.out.next hb_3)
    have B3 := Lib.hid (B2.out.trans (hb_3.mono B2.out.size))
    clear hb_3 c0 c1 c2 c3
    have c0 := K3.out.cell 0
    have c1 := K3.out.cell 1
    have c2 := K3.out.cell 2
    have c3 := K3.out.cell 3
    simp at c0 c1 c2 c3
    go_wp2_with (fail)
    refine (S2.out _ I3.out).mono ?_
    rintro e w_4 ⟨rfl, hb_4⟩
    have K4 := Lib.hid (K3.out.next hb_4)
    have I4 := Lib.hid (I3.out.next hb_4)
    have B4 := Lib.hid (B3.out.trans (hb_4.mono B3.out.size))
    clear hb_4 c0 c1 c2 c3
    have c0 := K4.out.cell 0
    have c1 := K4.out.cell 1
    have c2 := K4.out.cell 2
    have c3 := K4.out.cell 3
    simp at c0 c1 c2 c3
    clear c0 c1 c2 c3
    go_wp2_with (fail)
    go_loopw [7] (fun i wr => ∃ k : Nat, 1 ≤ k ∧ k ≤ d ∧ i = .int .i64 k ∧ Below w_4.heap.size w_4 wr) (fun i _ => d - (intOf i).toNat)
    case atStart => exact ⟨1, Nat.le_refl _, hd1, rfl, Below.refl _ _⟩
    case round =>
      obtain ⟨k, hk1, hk, rfl, hbr⟩ := hrel
      have K90 := Lib.hid (K4.out.next hbr)
      have I90 := Lib.hid (I4.out.next hbr)
      have B90 := Lib.hid (B4.out.trans (hbr.mono B4.out.size))
      have BQ90 := Lib.hid hbr
      clear hbr
      by_cases hlt : k < d
      · obtain ⟨pk, hpk⟩ : ∃ x : Nat, seqZ m (tabOf Y) e A3 k = x := ⟨_, rfl⟩
        have hne : pk ≠ e := by rw [← hpk]; exact HO.out.2.2.2 k hk1 (by rw [HD.out]; exact hlt)
        have tt : ((pk : Int) == (e : Int)) = false := by rw [beq_eq_false_iff_ne]; omega
        have HP := Lib.hid (show ∀ u, RIn u (some ⟨b1, o1, none⟩) q ca (some ⟨b2, o2, none⟩) q cb X Y → Calls Try.prog 48 #[.agg #[.int .i64 m, .int .i64 e, .slice (some ⟨b1, o1, none⟩) q ca, .slice (some ⟨b2, o2, none⟩) q cb], .int .i64 A3, .int .i64 k] u fun e' w' => e' = .returned (.int .i64 pk) ∧ Below u.heap.size u w' from fun u h => c_pow h _ _ (by omega) _ (v_pow V1.out hA3 (by omega) hpk rfl rfl rfl))
        clear hpk hne
        have c0 := K90.out.cell 0
        have c1 := K90.out.cell 1
        have c2 := K90.out.cell 2
        have c3 := K90.out.cell 3
        simp at c0 c1 c2 c3
        go_wp2_with (fail)
        refine wp_region_ext (by kernel_rfl) (by kernel_rfl) ?_
        repeat (go_big_quiet_step (first
          | (go_at_call 48; with_reducible refine calls_ext (HP.out _ (I90.out.ext _)))
          | fail))
        refine wpQuiet_nil ?_
        intro w_91 hb_91
        have BQ91 := Lib.hid (BQ90.out.trans (hb_91.mono BQ90.out.size))
        have K91 := Lib.hid (K90.out.next hb_91)
        have I91 := Lib.hid (I90.out.next hb_91)
        have B91 := Lib.hid (B90.out.trans (hb_91.mono B90.out.size))
        clear hb_91 c0 c1 c2 c3
        have c0 := K91.out.cell 0
        have c1 := K91.out.cell 1
        have c2 := K91.out.cell 2
        have c3 := K91.out.cell 3
        simp at c0 c1 c2 c3
        go_wp2
        go_roundw
        case rel => exact ⟨k + 1, by omega, by omega, by go_num, BQ91.out⟩
        case measure => simp [intOf]; omega
      · have hkd : k = d := by omega
        subst hkd
        have c0 := K90.out.cell 0
        have c1 := K90.out.cell 1
        have c2 := K90.out.cell 2
        have c3 := K90.out.cell 3
        simp at c0 c1 c2 c3
        go_wp2_with (fail)
        refine wp_region_makersE 47 fnInverse_r1_mk (LmPhi w.heap.size fnInverse_r1_L (fnInverse_r1_Z U) (fnInverse_r1_N nU) fnInverse_r1_B) (LmSh fnInverse_r1_L (fnInverse_r1_N nU) fnInverse_r1_B) (lmV0 fnInverse_r1_L (fnInverse_r1_N nU) fnInverse_r1_B) probe (by kernel_rfl) (by kernel_rfl) (fun i v w w' h hb => h.next hb) (fun i v x _ h => h.sh) (fun i _ => lmSh0) ?_
        intro V hV vs hvs
        obtain ⟨A_41, c_41, e_41⟩ : ∃ A c, vs 41 = .slice A nU c := (hvs 41 rfl).l rfl
        have cW : ∃ x, extC V x := ⟨V, extC_of (Below.refl _ _)⟩
        have IV := Lib.hid (I90.out.next hV)
        have BV := Lib.hid (B90.out.trans (hV.mono B90.out.size))
        have KV := Lib.hid (K90.out.next hV)
        clear c0 c1 c2 c3
        have c0 := KV.out.cell 0
        have c1 := KV.out.cell 1
        have c2 := KV.out.cell 2
        have c3 := KV.out.cell 3
        simp at c0 c1 c2 c3
        clear hV hvs
        simp only [List.take_succ_cons, List.take_zero, List.drop_succ_cons, List.drop_zero]
        refine wpV_quietE cW 41 0 _ _ (by decide) (by decide) ?_
        simp only [List.take_succ_cons, List.take_zero, List.drop_succ_cons, List.drop_zero]
        repeat (go_big_quiet_step (first
          | (go_at_call 40; with_reducible refine calls_ext (G1.out _ (IV.out.ext _)))
          | (go_at_call 67; with_reducible refine calls_ext (G2.out _ (IV.out.ext _)))
          | (go_at_call 68; with_reducible refine calls_ext (G3.out _ (IV.out.ext _)))
          | (go_at_call 48; with_reducible refine calls_ext (G4.out _ (IV.out.ext _)))
          | (go_at_call 48; with_reducible refine calls_ext (G5.out _ (IV.out.ext _)))
          | fail))
        refine wpQuiet_nil ?_
        refine wpV_makeE rfl (by first | rfl | simp [Region.wanted, yielded]) (fun x hx hd => ?_) ?_
        · obtain ⟨u, rfl⟩ := hx
          unfold makesAtE
          go_simp
          refine ⟨rfl, (c_kind0 (IV.out.ext u) _ EU.out).mono ?_⟩
          rintro _ x' ⟨v, rfl, ho, hb⟩
          exact ⟨_, rfl, hb, ⟨fun _ => ⟨ho.down (Nat.le_trans BV.out.size (ext_below V u).size), HnU.out⟩, fun h => by cases h⟩, fun b hbb => by cases hbb⟩
        rw [e_41]
        go_simp
        refine wpV_quietE cW 5 _ _ _ (by decide) (by decide) ?_
        simp only [List.take_succ_cons, List.take_zero, List.drop_succ_cons, List.drop_zero]
        repeat (go_big_quiet_step (first
          | (go_at_call 40; with_reducible refine calls_ext (G1.out _ (IV.out.ext _)))
          | (go_at_call 67; with_reducible refine calls_ext (G2.out _ (IV.out.ext _)))
          | (go_at_call 68; with_reducible refine calls_ext (G3.out _ (IV.out.ext _)))
          | (go_at_call 48; with_reducible refine calls_ext (G4.out _ (IV.out.ext _)))
          | (go_at_call 48; with_reducible refine calls_ext (G5.out _ (IV.out.ext _)))
          | fail))
        refine wpQuiet_nil ?_
        refine wpV_nilE ?_
        intro w_91 hb_91 hF_91 _
        clear IV BV KV cW hF_91 e_41
        have BQ91 := Lib.hid (BQ90.out.trans (hb_91.mono BQ90.out.size))
        have K91 := Lib.hid (K90.out.next hb_91)
        have I91 := Lib.hid (I90.out.next hb_91)
        have B91 := Lib.hid (B90.out.trans (hb_91.mono B90.out.size))
        clear hb_91 c0 c1 c2 c3
        have c0 := K91.out.cell 0
        have c1 := K91.out.cell 1
        have c2 := K91.out.cell 2
        have c3 := K91.out.cell 3
        simp at c0 c1 c2 c3
        go_wp2_with (fail)
        go_ret
        exact ⟨rfl, B91.out⟩

end Go.Proofs.Ytpideooccccfgaa
