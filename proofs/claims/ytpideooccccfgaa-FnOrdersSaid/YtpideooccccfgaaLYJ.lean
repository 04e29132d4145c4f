
import Derived.Test.YtpideooccccfgaaMH
/- The walk of the law FnOrders. -/
namespace Go.Proofs.Ytpideooccccfgaa
open Go.RowKit
set_option maxRecDepth 100000

theorem head_at (b : UInt8) (t : List UInt8) (h : 0 < ({ data := (b :: t).toArray } : ByteArray).size) : ({ data := (b :: t).toArray } : ByteArray)[0]'h = b := rfl
attribute [local go_sem] head_at
set_option maxHeartbeats 16000000 in
theorem fnOrders_walk (A : Option Addr) (n c : Nat) (w : World) (hb : Byts w w.heap.size A n) (hc : n ≤ c) (hc2 : c ≤ 9223372036854775807) :
    Calls Try.prog 15 #[.slice A n c] w fun e w' => e = .returned (.bool true) ∧ Below w.heap.size w w' := by
  by_cases hbig : n > 1048576
  · have t0 : decide ((n : Int) > 1048576) = true := by simp; omega
    go_enter Try.func15, Try.ntmps15
    go_wp2_with (fail)
    go_ret
    exact ⟨rfl, Below.refl _ _⟩
  have hn : n ≤ 1048576 := by omega
  have t0 : decide ((n : Int) > 1048576) = false := by simp; omega
  go_enter Try.func15, Try.ntmps15
  go_wp2_with (fail)
  refine (drawSumOrderOf_any A n c w hb hn hc hc2).mono ?_
  rintro e w1 ⟨v, a, rfl, hA, ha, hb1⟩
  have Ha := Lib.hid ha
  clear ha
  obtain ⟨N, O, A1, A2, q, ca, cb, X, Y, rfl, hI, hq, hNmx⟩ := hA.rin
  obtain ⟨V, hV⟩ : ∃ V, w1.alloc (.cells #[.int .i64 N, .int .i64 O, .slice A1 q ca, .slice A2 q cb] 25) = V := ⟨_, rfl⟩
  have bV : Below w1.heap.size w1 V := by subst hV; exact (Below.refl _ _).alloc (Nat.le_refl _) _
  obtain ⟨bx, hbx⟩ : ∃ b, b = w1.heap.size := ⟨_, rfl⟩
  have K0 := Lib.hid (show Blk V bx 25 #[.int .i64 N, .int .i64 O, .slice A1 q ca, .slice A2 q cb] by subst hV hbx; exact Blk.new w1 _ _)
  have I0 := Lib.hid (hI.next bV)
  have B0 := Lib.hid (hb1.trans (bV.mono hb1.size))
  clear hI hb1 hA
  go_upto_region 4 with (fail)
  rw [← hbx]
  clear hV hbx bV
  by_cases hval : validB N O X Y = true ∧ inB N a = true
  · obtain ⟨v1, ia⟩ := hval
    obtain ⟨m, e, b1, o1, b2, o2, rfl, rfl, rfl, rfl, hr, _⟩ := valid_data v1 I0.out.hX I0.out.hY I0.out.hca I0.out.hcb
    have V1 := Lib.hid v1
    have R := Lib.hid (rtab_of_valid v1)
    have hm := hr.hm
    have hm' := hr.hm'
    have he := hr.he
    have HQ := Lib.hid hr.hla
    clear hr v1
    obtain ⟨A3, rfl, hA3⟩ : ∃ k : Nat, a = k ∧ k < m := by
      have := of_decide_eq_true ia
      exact ⟨a.toNat, by omega, by omega⟩
    obtain ⟨d, hd⟩ : ∃ x : Nat, ordN m (tabOf X) A3 = x := ⟨_, rfl⟩
    obtain ⟨ch, hch⟩ : ∃ x : Nat, ordN m (tabOf X) e = x := ⟨_, rfl⟩
    have HO := Lib.hid (R.out.ord hA3)
    have hd1 : 1 ≤ d := by rw [← hd]; exact HO.out.1
    have hdm : d ≤ m := by rw [← hd]; exact HO.out.2.1
    have hd0 : seqT m (tabOf X) A3 d = 0 := by rw [← hd]; exact HO.out.2.2.1
    have q0 : d ∣ ch := by rw [← hd, ← hch]; exact R.out.ord_char hA3
    have q3 : (ch : Int) % d = 0 := Int.emod_eq_zero_of_dvd (Int.natCast_dvd_natCast.2 q0)
    have q4 : (ch : Int).tmod d = 0 := by rw [Int.tmod_eq_emod_of_nonneg (by omega)]; exact q3
    have n3 : ¬ d = 0 := by omega
    clear q0
    obtain ⟨bt, tl, z, hk, hz, hbz⟩ : ∃ (bt : UInt8) (tl : List UInt8) (z : Int), kindTo m (tabOf Y) e A3 4 = bt :: tl ∧ invV m e X Y A3 = z ∧ ((bt = 117 ∧ 0 ≤ z) ∨ (bt = 100 ∧ z = -1)) := by
      cases hub : unitB m (tabOf Y) e A3
      · obtain ⟨tl, ht⟩ := kind_div hub (by rw [R.out.unit_div hA3, hub]; rfl)
        refine ⟨100, tl, -1, ht, ?_, .inr ⟨rfl, rfl⟩⟩
        rw [invV_yes V1.out (inB_nat hA3)]
        rcases idx_cases (rowL m (tabOf Y) A3) e with h1 | h1
        · exact h1
        · have h2 : unitB m (tabOf Y) e A3 = true := decide_eq_true h1
          rw [hub] at h2
          cases h2
      · obtain ⟨tl, ht⟩ := kind_unit hub
        refine ⟨117, tl, _, ht, rfl, .inl ⟨rfl, ?_⟩⟩
        rw [invV_yes V1.out (inB_nat hA3)]
        exact of_decide_eq_true hub
    have H1 := Lib.hid (show ∀ u, RIn u (some ⟨b1, o1, none⟩) q ca (some ⟨b2, o2, none⟩) q cb X Y → Calls Try.prog 79 #[.agg #[.int .i64 m, .int .i64 e, .slice (some ⟨b1, o1, none⟩) q ca, .slice (some ⟨b2, o2, none⟩) q cb], .int .i64 A3] u fun e' w' => e' = .returned (.int .i64 d) ∧ Below u.heap.size u w' from fun u h => c_sord h _ _ (v_sord V1.out hA3 hd rfl rfl))
    have S1 := Lib.hid (show ∀ u, RIn u (some ⟨b1, o1, none⟩) q ca (some ⟨b2, o2, none⟩) q cb X Y → Calls Try.prog 81 #[.agg #[.int .i64 m, .int .i64 e, .slice (some ⟨b1, o1, none⟩) q ca, .slice (some ⟨b2, o2, none⟩) q cb], .int .i64 A3] u fun e' w' => e' = .returned (.int .i64 d) ∧ Below u.heap.size u w' from fun u h => cs_sord h _ _ (v_sord V1.out hA3 hd rfl rfl))
    have H2 := Lib.hid (show ∀ u, RIn u (some ⟨b1, o1, none⟩) q ca (some ⟨b2, o2, none⟩) q cb X Y → Calls Try.prog 80 #[.agg #[.int .i64 m, .int .i64 e, .slice (some ⟨b1, o1, none⟩) q ca, .slice (some ⟨b2, o2, none⟩) q cb], .int .i64 A3] u fun e' w' => e' = .returned (.string ⟨(bt :: tl).toArray⟩) ∧ Below u.heap.size u w' from fun u h => c_kinds h _ _ (by rw [kindsV_yes V1.out (inB_nat hA3), hk]))
    have S2 := Lib.hid (show ∀ u, RIn u (some ⟨b1, o1, none⟩) q ca (some ⟨b2, o2, none⟩) q cb X Y → Calls Try.prog 82 #[.agg #[.int .i64 m, .int .i64 e, .slice (some ⟨b1, o1, none⟩) q ca, .slice (some ⟨b2, o2, none⟩) q cb], .int .i64 A3] u fun e' w' => e' = .returned (.string ⟨(bt :: tl).toArray⟩) ∧ Below u.heap.size u w' from fun u h => cs_kinds h _ _ (by rw [kindsV_yes V1.out (inB_nat hA3), hk]))
    have G1 := Lib.hid (show ∀ u, RIn u (some ⟨b1, o1, none⟩) q ca (some ⟨b2, o2, none⟩) q cb X Y → Calls Try.prog 83 #[.agg #[.int .i64 m, .int .i64 e, .slice (some ⟨b1, o1, none⟩) q ca, .slice (some ⟨b2, o2, none⟩) q cb], .int .i64 d, .int .i64 A3] u fun e' w' => e' = .returned (.int .i64 0) ∧ Below u.heap.size u w' from fun u h => c_times h _ _ _ (v_times V1.out hA3 rfl hd0 rfl rfl))
    have G2 := Lib.hid (show ∀ u, RIn u (some ⟨b1, o1, none⟩) q ca (some ⟨b2, o2, none⟩) q cb X Y → Calls Try.prog 33 #[.agg #[.int .i64 m, .int .i64 e, .slice (some ⟨b1, o1, none⟩) q ca, .slice (some ⟨b2, o2, none⟩) q cb]] u fun e' w' => e' = .returned (.int .i64 ch) ∧ Below u.heap.size u w' from fun u h => c_char h _ (v_char V1.out hch))
    have G3 := Lib.hid (show ∀ u, RIn u (some ⟨b1, o1, none⟩) q ca (some ⟨b2, o2, none⟩) q cb X Y → Calls Try.prog 67 #[.agg #[.int .i64 m, .int .i64 e, .slice (some ⟨b1, o1, none⟩) q ca, .slice (some ⟨b2, o2, none⟩) q cb], .int .i64 A3] u fun e' w' => e' = .returned (.int .i64 z) ∧ Below u.heap.size u w' from fun u h => c_inv h _ _ hz)
    have HD := Lib.hid hd
    clear hd hd0 hch hk hz ia
    skip
    have c0 := K0.out.cell 0
    have c1 := K0.out.cell 1
    have c2 := K0.out.cell 2
    have c3 := K0.out.cell 3
    simp at c0 c1 c2 c3
    go_wp2_with (fail)
    refine (H1.out _ I0.out).mono ?_
    rintro e w_1 ⟨rfl, hb_1⟩
    have K1 := Lib.hid (K0.out.next hb_1)
    have I1 := Lib.hid (I0.out.next hb_1)
    have B1 := Lib.hid (B0.out.trans (hb_1.mono B0.out.size))
    clear hb_1 c0 c1 c2 c3
    have c0 := K1.out.cell 0
    have c1 := K1.out.cell 1
    have c2 := K1.out.cell 2
    have c3 := K1.out.cell 3
    simp at c0 c1 c2 c3
    go_wp2_with (fail)
    refine (H2.out _ I1.out).mono ?_
    rintro e w_2 ⟨rfl, hb_2⟩
    have K2 := Lib.hid (K1.out.next hb_2)
    have I2 := Lib.hid (I1.out.next hb_2)
    have B2 := Lib.hid (B1.out.trans (hb_2.mono B1.out.size))
    clear hb_2 c0 c1 c2 c3
    have c0 := K2.out.cell 0
    have c1 := K2.out.cell 1
    have c2 := K2.out.cell 2
    have c3 := K2.out.cell 3
    simp at c0 c1 c2 c3
    go_wp2_with (fail)
    refine (S1.out _ I2.out).mono ?_
    rintro e w_3 ⟨rfl, hb_3⟩
    have K3 := Lib.hid (K2.out.next hb_3)
    have I3 := Lib.hid (I2.out.next hb_3)
    have B3 := Lib.hid (B2.out.trans (hb_3.mono B2.out.size))
    clear hb_3 c0 c1 c2 c3
    have c0 := K3.out.cell 0
    have c1 := K3.out.cell 1
    have c2 := K3.out.cell 2
    have c3 := K3.out.cell 3
    simp at c0 c1 c2 c3
    go_wp2_with (fail)
    refine (S2.out _ I3.out).mono ?_
    rintro e w_4 ⟨rfl, hb_4⟩
    have K4 := Lib.hid (K3.out.next hb_4)
    have I4 := Lib.hid (I3.out.next hb_4)
    have B4 := Lib.hid (B3.out.trans (hb_4.mono B3.out.size))
    clear hb_4 c0 c1 c2 c3
    have c0 := K4.out.cell 0
    have c1 := K4.out.cell 1
    have c2 := K4.out.cell 2
    have c3 := K4.out.cell 3
    simp at c0 c1 c2 c3
    clear c0 c1 c2 c3
    go_wp2_with (fail)
    go_loopw [7] (fun i wr => ∃ k : Nat, 1 ≤ k ∧ k ≤ d ∧ i = .int .i64 k ∧ Below w_4.heap.size w_4 wr) (fun i _ => d - (intOf i).toNat)
    case atStart => exact ⟨1, Nat.le_refl _, hd1, rfl, Below.refl _ _⟩
    case round =>
      obtain ⟨k, hk1, hk, rfl, hbr⟩ := hrel
      have K90 := Lib.hid (K4.out.next hbr)
      have I90 := Lib.hid (I4.out.next hbr)
      have B90 := Lib.hid (B4.out.trans (hbr.mono B4.out.size))
      have BQ90 := Lib.hid hbr
      clear hbr
      by_cases hlt : k < d
      · obtain ⟨tk, htk⟩ : ∃ x : Nat, seqT m (tabOf X) A3 k = x := ⟨_, rfl⟩
        have hne : tk ≠ 0 := by rw [← htk]; exact HO.out.2.2.2 k hk1 (by rw [HD.out]; exact hlt)
        have tt : ((tk : Int) == 0) = false := by rw [beq_eq_false_iff_ne]; omega
        have HT := Lib.hid (show ∀ u, RIn u (some ⟨b1, o1, none⟩) q ca (some ⟨b2, o2, none⟩) q cb X Y → Calls Try.prog 83 #[.agg #[.int .i64 m, .int .i64 e, .slice (some ⟨b1, o1, none⟩) q ca, .slice (some ⟨b2, o2, none⟩) q cb], .int .i64 k, .int .i64 A3] u fun e' w' => e' = .returned (.int .i64 tk) ∧ Below u.heap.size u w' from fun u h => c_times h _ _ _ (v_times V1.out hA3 rfl htk rfl rfl))
        clear htk hne
        have c0 := K90.out.cell 0
        have c1 := K90.out.cell 1
        have c2 := K90.out.cell 2
        have c3 := K90.out.cell 3
        simp at c0 c1 c2 c3
        go_wp2_with (fail)
        refine (HT.out _ I90.out).mono ?_
        rintro e w_91 ⟨rfl, hb_91⟩
        have BQ91 := Lib.hid (BQ90.out.trans (hb_91.mono BQ90.out.size))
        have K91 := Lib.hid (K90.out.next hb_91)
        have I91 := Lib.hid (I90.out.next hb_91)
        have B91 := Lib.hid (B90.out.trans (hb_91.mono B90.out.size))
        clear hb_91 c0 c1 c2 c3
        have c0 := K91.out.cell 0
        have c1 := K91.out.cell 1
        have c2 := K91.out.cell 2
        have c3 := K91.out.cell 3
        simp at c0 c1 c2 c3
        go_wp2
        go_roundw
        case rel => exact ⟨k + 1, by omega, by omega, by go_num, BQ91.out⟩
        case measure => simp [intOf]; omega
      · have hkd : k = d := by omega
        subst hkd
        have c0 := K90.out.cell 0
        have c1 := K90.out.cell 1
        have c2 := K90.out.cell 2
        have c3 := K90.out.cell 3
        simp at c0 c1 c2 c3
        rcases hbz with ⟨rfl, hz0⟩ | ⟨rfl, rfl⟩
        · have tz : decide (z ≥ 0) = true := by simp; omega
          go_wp2_with (fail)
          refine wp_region_ext (by kernel_rfl) (by kernel_rfl) ?_
          repeat (go_big_quiet_step (first
            | (go_at_call 83; with_reducible refine calls_ext (G1.out _ (I90.out.ext _)))
            | (go_at_call 33; with_reducible refine calls_ext (G2.out _ (I90.out.ext _)))
            | (go_at_call 67; with_reducible refine calls_ext (G3.out _ (I90.out.ext _)))
            | fail))
          refine wpQuiet_nil ?_
          intro w_91 hb_91
          have BQ91 := Lib.hid (BQ90.out.trans (hb_91.mono BQ90.out.size))
          have K91 := Lib.hid (K90.out.next hb_91)
          have I91 := Lib.hid (I90.out.next hb_91)
          have B91 := Lib.hid (B90.out.trans (hb_91.mono B90.out.size))
          clear hb_91 c0 c1 c2 c3
          have c0 := K91.out.cell 0
          have c1 := K91.out.cell 1
          have c2 := K91.out.cell 2
          have c3 := K91.out.cell 3
          simp at c0 c1 c2 c3
          go_wp2_with (fail)
          go_ret
          exact ⟨rfl, B91.out⟩
        · skip
          go_wp2_with (fail)
          refine wp_region_ext (by kernel_rfl) (by kernel_rfl) ?_
          repeat (go_big_quiet_step (first
            | (go_at_call 83; with_reducible refine calls_ext (G1.out _ (I90.out.ext _)))
            | (go_at_call 33; with_reducible refine calls_ext (G2.out _ (I90.out.ext _)))
            | (go_at_call 67; with_reducible refine calls_ext (G3.out _ (I90.out.ext _)))
            | fail))
          refine wpQuiet_nil ?_
          intro w_91 hb_91
          have BQ91 := Lib.hid (BQ90.out.trans (hb_91.mono BQ90.out.size))
          have K91 := Lib.hid (K90.out.next hb_91)
          have I91 := Lib.hid (I90.out.next hb_91)
          have B91 := Lib.hid (B90.out.trans (hb_91.mono B90.out.size))
          clear hb_91 c0 c1 c2 c3
          have c0 := K91.out.cell 0
          have c1 := K91.out.cell 1
          have c2 := K91.out.cell 2
          have c3 := K91.out.cell 3
          simp at c0 c1 c2 c3
          go_wp2_with (fail)
          go_ret
          exact ⟨rfl, B91.out⟩
  · have ez : ordV N O X Y a = -1 := ordV_no hval
    have ek := kindsV_no hval
    have H1 := Lib.hid (show ∀ u, RIn u A1 q ca A2 q cb X Y → Calls Try.prog 79 #[.agg #[.int .i64 N, .int .i64 O, .slice A1 q ca, .slice A2 q cb], .int .i64 a] u fun e' w' => e' = .returned (.int .i64 (-1)) ∧ Below u.heap.size u w' from fun u h => c_sord h _ _ ez)
    have S1 := Lib.hid (show ∀ u, RIn u A1 q ca A2 q cb X Y → Calls Try.prog 81 #[.agg #[.int .i64 N, .int .i64 O, .slice A1 q ca, .slice A2 q cb], .int .i64 a] u fun e' w' => e' = .returned (.int .i64 (-1)) ∧ Below u.heap.size u w' from fun u h => cs_sord h _ _ ez)
    have H2 := Lib.hid (show ∀ u, RIn u A1 q ca A2 q cb X Y → Calls Try.prog 80 #[.agg #[.int .i64 N, .int .i64 O, .slice A1 q ca, .slice A2 q cb], .int .i64 a] u fun e' w' => e' = .returned (.string ⟨#[45]⟩) ∧ Below u.heap.size u w' from fun u h => c_kinds h _ _ ek)
    have S2 := Lib.hid (show ∀ u, RIn u A1 q ca A2 q cb X Y → Calls Try.prog 82 #[.agg #[.int .i64 N, .int .i64 O, .slice A1 q ca, .slice A2 q cb], .int .i64 a] u fun e' w' => e' = .returned (.string ⟨#[45]⟩) ∧ Below u.heap.size u w' from fun u h => cs_kinds h _ _ ek)
    clear hval ez ek
    have c0 := K0.out.cell 0
    have c1 := K0.out.cell 1
    have c2 := K0.out.cell 2
    have c3 := K0.out.cell 3
    simp at c0 c1 c2 c3
    go_wp2_with (fail)
    refine (H1.out _ I0.out).mono ?_
    rintro e w_1 ⟨rfl, hb_1⟩
    have K1 := Lib.hid (K0.out.next hb_1)
    have I1 := Lib.hid (I0.out.next hb_1)
    have B1 := Lib.hid (B0.out.trans (hb_1.mono B0.out.size))
    clear hb_1 c0 c1 c2 c3
    have c0 := K1.out.cell 0
    have c1 := K1.out.cell 1
    have c2 := K1.out.cell 2
    have c3 := K1.out.cell 3
    simp at c0 c1 c2 c3
    go_wp2_with (fail)
    refine (H2.out _ I1.out).mono ?_
    rintro e w_2 ⟨rfl, hb_2⟩
    have K2 := Lib.hid (K1.out.next hb_2)
    have I2 := Lib.hid (I1.out.next hb_2)
    have B2 := Lib.hid (B1.out.trans (hb_2.mono B1.out.size))
    clear hb_2 c0 c1 c2 c3
    have c0 := K2.out.cell 0
    have c1 := K2.out.cell 1
    have c2 := K2.out.cell 2
    have c3 := K2.out.cell 3
    simp at c0 c1 c2 c3
    go_wp2_with (fail)
    refine (S1.out _ I2.out).mono ?_
    rintro e w_3 ⟨rfl, hb_3⟩
    have K3 := Lib.hid (K2.out.next hb_3)
    have I3 := Lib.hid (I2.out.next hb_3)
    have B3 := Lib.hid (B2.out.trans (hb_3.mono B2.out.size))
    clear hb_3 c0 c1 c2 c3
    have c0 := K3.out.cell 0
    have c1 := K3.out.cell 1
    have c2 := K3.out.cell 2
    have c3 := K3.out.cell 3
    simp at c0 c1 c2 c3
    go_wp2_with (fail)
    refine (S2.out _ I3.out).mono ?_
    rintro e w_4 ⟨rfl, hb_4⟩
    have K4 := Lib.hid (K3.out.next hb_4)
    have I4 := Lib.hid (I3.out.next hb_4)
    have B4 := Lib.hid (B3.out.trans (hb_4.mono B3.out.size))
    clear hb_4 c0 c1 c2 c3
    have c0 := K4.out.cell 0
    have c1 := K4.out.cell 1
    have c2 := K4.out.cell 2
    have c3 := K4.out.cell 3
    simp at c0 c1 c2 c3
    go_wp2_with (fail)
    refine (S1.out _ I4.out).mono ?_
    rintro e w_5 ⟨rfl, hb_5⟩
    have K5 := Lib.hid (K4.out.next hb_5)
    have I5 := Lib.hid (I4.out.next hb_5)
    have B5 := Lib.hid (B4.out.trans (hb_5.mono B4.out.size))
    clear hb_5 c0 c1 c2 c3
    have c0 := K5.out.cell 0
    have c1 := K5.out.cell 1
    have c2 := K5.out.cell 2
    have c3 := K5.out.cell 3
    simp at c0 c1 c2 c3
    go_wp2_with (fail)
    refine (S2.out _ I5.out).mono ?_
    rintro e w_6 ⟨rfl, hb_6⟩
    have K6 := Lib.hid (K5.out.next hb_6)
    have I6 := Lib.hid (I5.out.next hb_6)
    have B6 := Lib.hid (B5.out.trans (hb_6.mono B5.out.size))
    clear hb_6 c0 c1 c2 c3
    have c0 := K6.out.cell 0
    have c1 := K6.out.cell 1
    have c2 := K6.out.cell 2
    have c3 := K6.out.cell 3
    simp at c0 c1 c2 c3
    go_wp2_with (fail)
    go_ret
    exact ⟨rfl, B6.out⟩

end Go.Proofs.Ytpideooccccfgaa
