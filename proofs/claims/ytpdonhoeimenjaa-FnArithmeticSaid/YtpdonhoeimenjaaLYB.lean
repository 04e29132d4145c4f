
import Derived.Test.YtpdonhoeimenjaaLY2
/- The walk of the law FnArithmetic. -/
namespace Go.Proofs.Ytpdonhoeimenjaa
open Go.RowKit
set_option maxRecDepth 100000

set_option maxHeartbeats 16000000 in
theorem fnArithmetic_walk (A : Option Addr) (n c : Nat) (w : World) (hb : Byts w w.heap.size A n) (hc : n ≤ c) (hc2 : c ≤ 9223372036854775807) :
    Calls Try.prog 4 #[.slice A n c] w fun e w' => e = .returned (.bool true) ∧ Below w.heap.size w w' := by
  by_cases hbig : n > 1048576
  · have t0 : decide ((n : Int) > 1048576) = true := by simp; omega
    go_enter Try.func4, Try.ntmps4
    go_wp2_with (fail)
    go_ret
    exact ⟨rfl, Below.refl _ _⟩
  have hn : n ≤ 1048576 := by omega
  have t0 : decide ((n : Int) > 1048576) = false := by simp; omega
  go_enter Try.func4, Try.ntmps4
  go_wp2_with (fail)
  refine (drawMul_any A n c w hb hn hc hc2).mono ?_
  rintro e w1 ⟨v, a, b, rfl, hA, ha, hb, hb1⟩
  have Ha := Lib.hid ha
  clear ha
  have Hb := Lib.hid hb
  clear hb
  obtain ⟨N, O, A1, A2, q, ca, cb, X, Y, rfl, hI, hq⟩ := hA.rin
  obtain ⟨V, hV⟩ : ∃ V, w1.alloc (.cells #[.int .i64 N, .int .i64 O, .slice A1 q ca, .slice A2 q cb] 25) = V := ⟨_, rfl⟩
  have bV : Below w1.heap.size w1 V := by subst hV; exact (Below.refl _ _).alloc (Nat.le_refl _) _
  obtain ⟨bx, hbx⟩ : ∃ b, b = w1.heap.size := ⟨_, rfl⟩
  have K0 := Lib.hid (show Blk V bx 25 #[.int .i64 N, .int .i64 O, .slice A1 q ca, .slice A2 q cb] by subst hV hbx; exact Blk.new w1 _ _)
  have I0 := Lib.hid (hI.next bV)
  have B0 := Lib.hid (hb1.trans (bV.mono hb1.size))
  clear hI hb1 hA
  go_upto_region 4 with (fail)
  rw [← hbx]
  clear hV hbx bV
  by_cases hval : validB N O X Y = true ∧ inB N a = true ∧ inB N b = true
  · obtain ⟨v1, ia, ib⟩ := hval
    obtain ⟨m, e, b1, o1, b2, o2, rfl, rfl, rfl, rfl, hr, _⟩ := valid_data v1 I0.out.hX I0.out.hY I0.out.hca I0.out.hcb
    have V1 := Lib.hid v1
    have R := Lib.hid (rtab_of_valid v1)
    have hm := hr.hm
    have hm' := hr.hm'
    have he := hr.he
    have HQ := Lib.hid hr.hla
    clear hr v1
    obtain ⟨A3, rfl, hA3⟩ : ∃ k : Nat, a = k ∧ k < m := by
      have := of_decide_eq_true ia
      exact ⟨a.toNat, by omega, by omega⟩
    obtain ⟨A4, rfl, hA4⟩ : ∃ k : Nat, b = k ∧ k < m := by
      have := of_decide_eq_true ib
      exact ⟨b.toNat, by omega, by omega⟩
    obtain ⟨sv, hsv⟩ : ∃ x : Nat, tabOf X (A3 * m + A4) = x := ⟨_, rfl⟩
    obtain ⟨pv, hpv⟩ : ∃ x : Nat, tabOf Y (A3 * m + A4) = x := ⟨_, rfl⟩
    obtain ⟨ng, hng, _, hng0⟩ := R.out.negEx hA3
    have lsv : sv < m := by rw [← hsv]; exact R.out.sc hA3 hA4
    have lpv : pv < m := by rw [← hpv]; exact R.out.pc hA3 hA4
    obtain ⟨lv, hlv⟩ : ∃ x : Nat, tabOf Y (sv * m + sv) = x := ⟨_, rfl⟩
    obtain ⟨aa, haa⟩ : ∃ x : Nat, tabOf Y (A3 * m + A3) = x := ⟨_, rfl⟩
    obtain ⟨bb, hbb⟩ : ∃ x : Nat, tabOf Y (A4 * m + A4) = x := ⟨_, rfl⟩
    obtain ⟨tp, htp⟩ : ∃ x : Nat, tabOf X (pv * m + pv) = x := ⟨_, rfl⟩
    have laa : aa < m := by rw [← haa]; exact R.out.pc hA3 hA3
    have lbb : bb < m := by rw [← hbb]; exact R.out.pc hA4 hA4
    have ltp : tp < m := by rw [← htp]; exact R.out.sc lpv lpv
    obtain ⟨uu, huu⟩ : ∃ x : Nat, tabOf X (aa * m + tp) = x := ⟨_, rfl⟩
    have luu : uu < m := by rw [← huu]; exact R.out.sc laa ltp
    have hsq : tabOf X (uu * m + bb) = lv := by
      have h := congrArg Fin.val (R.out.square ⟨A3, hA3⟩ ⟨A4, hA4⟩)
      simp only [RTab.A, RTab.M] at h
      rw [hsv, hlv, haa, hpv, htp, huu, hbb] at h
      exact h.symm
    have hts : seqT m (tabOf X) pv 2 = tp := by
      show tabOf X (tabOf X (0 * m + pv) * m + pv) = tp
      rw [R.out.s.comm hm lpv, R.out.s.zero lpv, htp]
    have hnn : tabOf X (ng * m + A3) = 0 := by rw [R.out.s.comm hng hA3]; exact hng0
    have hsb : tabOf X (sv * m + ng) = A4 := by
      have h := congrArg Fin.val (R.out.sub ⟨A3, hA3⟩ ⟨A4, hA4⟩ ⟨ng, hng⟩ (Fin.ext hng0))
      simp only [RTab.A] at h
      rw [hsv] at h
      exact h
    have H1 := Lib.hid (show ∀ u, RIn u (some ⟨b1, o1, none⟩) q ca (some ⟨b2, o2, none⟩) q cb X Y → Calls Try.prog 20 #[.agg #[.int .i64 m, .int .i64 e, .slice (some ⟨b1, o1, none⟩) q ca, .slice (some ⟨b2, o2, none⟩) q cb], .int .i64 A3, .int .i64 A4] u fun e' w' => e' = .returned (.int .i64 sv) ∧ Below u.heap.size u w' from fun u h => c_add h _ _ _ (v_add V1.out hA3 hA4 hsv rfl rfl rfl))
    have H2 := Lib.hid (show ∀ u, RIn u (some ⟨b1, o1, none⟩) q ca (some ⟨b2, o2, none⟩) q cb X Y → Calls Try.prog 21 #[.agg #[.int .i64 m, .int .i64 e, .slice (some ⟨b1, o1, none⟩) q ca, .slice (some ⟨b2, o2, none⟩) q cb], .int .i64 A3, .int .i64 A4] u fun e' w' => e' = .returned (.int .i64 pv) ∧ Below u.heap.size u w' from fun u h => c_mul h _ _ _ (v_mul V1.out hA3 hA4 hpv rfl rfl rfl))
    have H3 := Lib.hid (show ∀ u, RIn u (some ⟨b1, o1, none⟩) q ca (some ⟨b2, o2, none⟩) q cb X Y → Calls Try.prog 22 #[.agg #[.int .i64 m, .int .i64 e, .slice (some ⟨b1, o1, none⟩) q ca, .slice (some ⟨b2, o2, none⟩) q cb], .int .i64 A3] u fun e' w' => e' = .returned (.int .i64 ng) ∧ Below u.heap.size u w' from fun u h => c_neg h _ _ (v_neg V1.out hA3 hng hng0 rfl rfl))
    have S1 := Lib.hid (show ∀ u, RIn u (some ⟨b1, o1, none⟩) q ca (some ⟨b2, o2, none⟩) q cb X Y → Calls Try.prog 24 #[.agg #[.int .i64 m, .int .i64 e, .slice (some ⟨b1, o1, none⟩) q ca, .slice (some ⟨b2, o2, none⟩) q cb], .int .i64 A3, .int .i64 A4] u fun e' w' => e' = .returned (.int .i64 sv) ∧ Below u.heap.size u w' from fun u h => cs_add h _ _ _ (v_add V1.out hA3 hA4 hsv rfl rfl rfl))
    have S2 := Lib.hid (show ∀ u, RIn u (some ⟨b1, o1, none⟩) q ca (some ⟨b2, o2, none⟩) q cb X Y → Calls Try.prog 25 #[.agg #[.int .i64 m, .int .i64 e, .slice (some ⟨b1, o1, none⟩) q ca, .slice (some ⟨b2, o2, none⟩) q cb], .int .i64 A3, .int .i64 A4] u fun e' w' => e' = .returned (.int .i64 pv) ∧ Below u.heap.size u w' from fun u h => cs_mul h _ _ _ (v_mul V1.out hA3 hA4 hpv rfl rfl rfl))
    have S3 := Lib.hid (show ∀ u, RIn u (some ⟨b1, o1, none⟩) q ca (some ⟨b2, o2, none⟩) q cb X Y → Calls Try.prog 26 #[.agg #[.int .i64 m, .int .i64 e, .slice (some ⟨b1, o1, none⟩) q ca, .slice (some ⟨b2, o2, none⟩) q cb], .int .i64 A3] u fun e' w' => e' = .returned (.int .i64 ng) ∧ Below u.heap.size u w' from fun u h => cs_neg h _ _ (v_neg V1.out hA3 hng hng0 rfl rfl))
    have H4 := Lib.hid (show ∀ u, RIn u (some ⟨b1, o1, none⟩) q ca (some ⟨b2, o2, none⟩) q cb X Y → Calls Try.prog 21 #[.agg #[.int .i64 m, .int .i64 e, .slice (some ⟨b1, o1, none⟩) q ca, .slice (some ⟨b2, o2, none⟩) q cb], .int .i64 sv, .int .i64 sv] u fun e' w' => e' = .returned (.int .i64 lv) ∧ Below u.heap.size u w' from fun u h => c_mul h _ _ _ (v_mul V1.out lsv lsv hlv rfl rfl rfl))
    have H5 := Lib.hid (show ∀ u, RIn u (some ⟨b1, o1, none⟩) q ca (some ⟨b2, o2, none⟩) q cb X Y → Calls Try.prog 21 #[.agg #[.int .i64 m, .int .i64 e, .slice (some ⟨b1, o1, none⟩) q ca, .slice (some ⟨b2, o2, none⟩) q cb], .int .i64 A3, .int .i64 A3] u fun e' w' => e' = .returned (.int .i64 aa) ∧ Below u.heap.size u w' from fun u h => c_mul h _ _ _ (v_mul V1.out hA3 hA3 haa rfl rfl rfl))
    have H6 := Lib.hid (show ∀ u, RIn u (some ⟨b1, o1, none⟩) q ca (some ⟨b2, o2, none⟩) q cb X Y → Calls Try.prog 27 #[.agg #[.int .i64 m, .int .i64 e, .slice (some ⟨b1, o1, none⟩) q ca, .slice (some ⟨b2, o2, none⟩) q cb], .int .i64 2, .int .i64 pv] u fun e' w' => e' = .returned (.int .i64 tp) ∧ Below u.heap.size u w' from fun u h => c_times h _ _ _ (v_times V1.out lpv rfl hts rfl rfl))
    have H7 := Lib.hid (show ∀ u, RIn u (some ⟨b1, o1, none⟩) q ca (some ⟨b2, o2, none⟩) q cb X Y → Calls Try.prog 20 #[.agg #[.int .i64 m, .int .i64 e, .slice (some ⟨b1, o1, none⟩) q ca, .slice (some ⟨b2, o2, none⟩) q cb], .int .i64 aa, .int .i64 tp] u fun e' w' => e' = .returned (.int .i64 uu) ∧ Below u.heap.size u w' from fun u h => c_add h _ _ _ (v_add V1.out laa ltp huu rfl rfl rfl))
    have H8 := Lib.hid (show ∀ u, RIn u (some ⟨b1, o1, none⟩) q ca (some ⟨b2, o2, none⟩) q cb X Y → Calls Try.prog 21 #[.agg #[.int .i64 m, .int .i64 e, .slice (some ⟨b1, o1, none⟩) q ca, .slice (some ⟨b2, o2, none⟩) q cb], .int .i64 A4, .int .i64 A4] u fun e' w' => e' = .returned (.int .i64 bb) ∧ Below u.heap.size u w' from fun u h => c_mul h _ _ _ (v_mul V1.out hA4 hA4 hbb rfl rfl rfl))
    have H9 := Lib.hid (show ∀ u, RIn u (some ⟨b1, o1, none⟩) q ca (some ⟨b2, o2, none⟩) q cb X Y → Calls Try.prog 20 #[.agg #[.int .i64 m, .int .i64 e, .slice (some ⟨b1, o1, none⟩) q ca, .slice (some ⟨b2, o2, none⟩) q cb], .int .i64 uu, .int .i64 bb] u fun e' w' => e' = .returned (.int .i64 lv) ∧ Below u.heap.size u w' from fun u h => c_add h _ _ _ (v_add V1.out luu lbb hsq rfl rfl rfl))
    have G1 := Lib.hid (show ∀ u, RIn u (some ⟨b1, o1, none⟩) q ca (some ⟨b2, o2, none⟩) q cb X Y → Calls Try.prog 22 #[.agg #[.int .i64 m, .int .i64 e, .slice (some ⟨b1, o1, none⟩) q ca, .slice (some ⟨b2, o2, none⟩) q cb], .int .i64 ng] u fun e' w' => e' = .returned (.int .i64 A3) ∧ Below u.heap.size u w' from fun u h => c_neg h _ _ (v_neg V1.out hng hA3 hnn rfl rfl))
    have G2 := Lib.hid (show ∀ u, RIn u (some ⟨b1, o1, none⟩) q ca (some ⟨b2, o2, none⟩) q cb X Y → Calls Try.prog 20 #[.agg #[.int .i64 m, .int .i64 e, .slice (some ⟨b1, o1, none⟩) q ca, .slice (some ⟨b2, o2, none⟩) q cb], .int .i64 sv, .int .i64 ng] u fun e' w' => e' = .returned (.int .i64 A4) ∧ Below u.heap.size u w' from fun u h => c_add h _ _ _ (v_add V1.out lsv hng hsb rfl rfl rfl))
    clear hsv hpv hng0 hlv haa hbb htp huu hsq hts hnn hsb ia ib
    have c0 := K0.out.cell 0
    have c1 := K0.out.cell 1
    have c2 := K0.out.cell 2
    have c3 := K0.out.cell 3
    simp at c0 c1 c2 c3
    go_wp2_with (fail)
    refine wp_region_ext (by kernel_rfl) (by kernel_rfl) ?_
    repeat (go_big_quiet_step (first
      | (go_at_call 20; with_reducible refine calls_ext (H1.out _ (I0.out.ext _)))
      | (go_at_call 21; with_reducible refine calls_ext (H2.out _ (I0.out.ext _)))
      | (go_at_call 22; with_reducible refine calls_ext (H3.out _ (I0.out.ext _)))
      | fail))
    refine wpQuiet_nil ?_
    intro w_1 hb_1
    have K1 := Lib.hid (K0.out.next hb_1)
    have I1 := Lib.hid (I0.out.next hb_1)
    have B1 := Lib.hid (B0.out.trans (hb_1.mono B0.out.size))
    clear hb_1 c0 c1 c2 c3
    have c0 := K1.out.cell 0
    have c1 := K1.out.cell 1
    have c2 := K1.out.cell 2
    have c3 := K1.out.cell 3
    simp at c0 c1 c2 c3
    go_wp2_with (fail)
    refine (S1.out _ I1.out).mono ?_
    rintro e w_2 ⟨rfl, hb_2⟩
    have K2 := Lib.hid (K1.out.next hb_2)
    have I2 := Lib.hid (I1.out.next hb_2)
    have B2 := Lib.hid (B1.out.trans (hb_2.mono B1.out.size))
    clear hb_2 c0 c1 c2 c3
    have c0 := K2.out.cell 0
    have c1 := K2.out.cell 1
    have c2 := K2.out.cell 2
    have c3 := K2.out.cell 3
    simp at c0 c1 c2 c3
    go_wp2_with (fail)
    refine (S2.out _ I2.out).mono ?_
    rintro e w_3 ⟨rfl, hb_3⟩
    have K3 := Lib.hid (K2.out.next hb_3)
    have I3 := Lib.hid (I2.out.next hb_3)
    have B3 := Lib.hid (B2.out.trans (hb_3.mono B2.out.size))
    clear hb_3 c0 c1 c2 c3
    have c0 := K3.out.cell 0
    have c1 := K3.out.cell 1
    have c2 := K3.out.cell 2
    have c3 := K3.out.cell 3
    simp at c0 c1 c2 c3
    go_wp2_with (fail)
    refine (S3.out _ I3.out).mono ?_
    rintro e w_4 ⟨rfl, hb_4⟩
    have K4 := Lib.hid (K3.out.next hb_4)
    have I4 := Lib.hid (I3.out.next hb_4)
    have B4 := Lib.hid (B3.out.trans (hb_4.mono B3.out.size))
    clear hb_4 c0 c1 c2 c3
    have c0 := K4.out.cell 0
    have c1 := K4.out.cell 1
    have c2 := K4.out.cell 2
    have c3 := K4.out.cell 3
    simp at c0 c1 c2 c3
    go_wp2_with (fail)
    refine (H4.out _ I4.out).mono ?_
    rintro e w_5 ⟨rfl, hb_5⟩
    have K5 := Lib.hid (K4.out.next hb_5)
    have I5 := Lib.hid (I4.out.next hb_5)
    have B5 := Lib.hid (B4.out.trans (hb_5.mono B4.out.size))
    clear hb_5 c0 c1 c2 c3
    have c0 := K5.out.cell 0
    have c1 := K5.out.cell 1
    have c2 := K5.out.cell 2
    have c3 := K5.out.cell 3
    simp at c0 c1 c2 c3
    go_wp2_with (fail)
    refine wp_region_ext (by kernel_rfl) (by kernel_rfl) ?_
    repeat (go_big_quiet_step (first
      | (go_at_call 21; with_reducible refine calls_ext (H5.out _ (I5.out.ext _)))
      | (go_at_call 27; with_reducible refine calls_ext (H6.out _ (I5.out.ext _)))
      | (go_at_call 20; with_reducible refine calls_ext (H7.out _ (I5.out.ext _)))
      | (go_at_call 21; with_reducible refine calls_ext (H8.out _ (I5.out.ext _)))
      | (go_at_call 20; with_reducible refine calls_ext (H9.out _ (I5.out.ext _)))
      | fail))
    refine wpQuiet_nil ?_
    intro w_6 hb_6
    have K6 := Lib.hid (K5.out.next hb_6)
    have I6 := Lib.hid (I5.out.next hb_6)
    have B6 := Lib.hid (B5.out.trans (hb_6.mono B5.out.size))
    clear hb_6 c0 c1 c2 c3
    have c0 := K6.out.cell 0
    have c1 := K6.out.cell 1
    have c2 := K6.out.cell 2
    have c3 := K6.out.cell 3
    simp at c0 c1 c2 c3
    go_wp2_with (fail)
    refine (G1.out _ I6.out).mono ?_
    rintro e w_7 ⟨rfl, hb_7⟩
    have K7 := Lib.hid (K6.out.next hb_7)
    have I7 := Lib.hid (I6.out.next hb_7)
    have B7 := Lib.hid (B6.out.trans (hb_7.mono B6.out.size))
    clear hb_7 c0 c1 c2 c3
    have c0 := K7.out.cell 0
    have c1 := K7.out.cell 1
    have c2 := K7.out.cell 2
    have c3 := K7.out.cell 3
    simp at c0 c1 c2 c3
    go_wp2_with (fail)
    refine (G2.out _ I7.out).mono ?_
    rintro e w_8 ⟨rfl, hb_8⟩
    have K8 := Lib.hid (K7.out.next hb_8)
    have I8 := Lib.hid (I7.out.next hb_8)
    have B8 := Lib.hid (B7.out.trans (hb_8.mono B7.out.size))
    clear hb_8 c0 c1 c2 c3
    have c0 := K8.out.cell 0
    have c1 := K8.out.cell 1
    have c2 := K8.out.cell 2
    have c3 := K8.out.cell 3
    simp at c0 c1 c2 c3
    go_wp2_with (fail)
    go_ret
    exact ⟨rfl, B8.out⟩
  · have ex : opV (tabOf X) N O X Y a b = -1 := opV_no hval
    have ey : opV (tabOf Y) N O X Y a b = -1 := opV_no hval
    obtain ⟨zv, ez⟩ : ∃ z, negV N O X Y a = z := ⟨_, rfl⟩
    have H1 := Lib.hid (show ∀ u, RIn u A1 q ca A2 q cb X Y → Calls Try.prog 20 #[.agg #[.int .i64 N, .int .i64 O, .slice A1 q ca, .slice A2 q cb], .int .i64 a, .int .i64 b] u fun e' w' => e' = .returned (.int .i64 (-1)) ∧ Below u.heap.size u w' from fun u h => c_add h _ _ _ ex)
    have H2 := Lib.hid (show ∀ u, RIn u A1 q ca A2 q cb X Y → Calls Try.prog 21 #[.agg #[.int .i64 N, .int .i64 O, .slice A1 q ca, .slice A2 q cb], .int .i64 a, .int .i64 b] u fun e' w' => e' = .returned (.int .i64 (-1)) ∧ Below u.heap.size u w' from fun u h => c_mul h _ _ _ ey)
    have H3 := Lib.hid (show ∀ u, RIn u A1 q ca A2 q cb X Y → Calls Try.prog 22 #[.agg #[.int .i64 N, .int .i64 O, .slice A1 q ca, .slice A2 q cb], .int .i64 a] u fun e' w' => e' = .returned (.int .i64 zv) ∧ Below u.heap.size u w' from fun u h => c_neg h _ _ ez)
    have S1 := Lib.hid (show ∀ u, RIn u A1 q ca A2 q cb X Y → Calls Try.prog 24 #[.agg #[.int .i64 N, .int .i64 O, .slice A1 q ca, .slice A2 q cb], .int .i64 a, .int .i64 b] u fun e' w' => e' = .returned (.int .i64 (-1)) ∧ Below u.heap.size u w' from fun u h => cs_add h _ _ _ ex)
    have S2 := Lib.hid (show ∀ u, RIn u A1 q ca A2 q cb X Y → Calls Try.prog 25 #[.agg #[.int .i64 N, .int .i64 O, .slice A1 q ca, .slice A2 q cb], .int .i64 a, .int .i64 b] u fun e' w' => e' = .returned (.int .i64 (-1)) ∧ Below u.heap.size u w' from fun u h => cs_mul h _ _ _ ey)
    have S3 := Lib.hid (show ∀ u, RIn u A1 q ca A2 q cb X Y → Calls Try.prog 26 #[.agg #[.int .i64 N, .int .i64 O, .slice A1 q ca, .slice A2 q cb], .int .i64 a] u fun e' w' => e' = .returned (.int .i64 zv) ∧ Below u.heap.size u w' from fun u h => cs_neg h _ _ ez)
    clear hval ex ey ez
    have c0 := K0.out.cell 0
    have c1 := K0.out.cell 1
    have c2 := K0.out.cell 2
    have c3 := K0.out.cell 3
    simp at c0 c1 c2 c3
    go_wp2_with (fail)
    refine wp_region_ext (by kernel_rfl) (by kernel_rfl) ?_
    repeat (go_big_quiet_step (first
      | (go_at_call 20; with_reducible refine calls_ext (H1.out _ (I0.out.ext _)))
      | (go_at_call 21; with_reducible refine calls_ext (H2.out _ (I0.out.ext _)))
      | (go_at_call 22; with_reducible refine calls_ext (H3.out _ (I0.out.ext _)))
      | fail))
    refine wpQuiet_nil ?_
    intro w_1 hb_1
    have K1 := Lib.hid (K0.out.next hb_1)
    have I1 := Lib.hid (I0.out.next hb_1)
    have B1 := Lib.hid (B0.out.trans (hb_1.mono B0.out.size))
    clear hb_1 c0 c1 c2 c3
    have c0 := K1.out.cell 0
    have c1 := K1.out.cell 1
    have c2 := K1.out.cell 2
    have c3 := K1.out.cell 3
    simp at c0 c1 c2 c3
    go_wp2_with (fail)
    refine (S1.out _ I1.out).mono ?_
    rintro e w_2 ⟨rfl, hb_2⟩
    have K2 := Lib.hid (K1.out.next hb_2)
    have I2 := Lib.hid (I1.out.next hb_2)
    have B2 := Lib.hid (B1.out.trans (hb_2.mono B1.out.size))
    clear hb_2 c0 c1 c2 c3
    have c0 := K2.out.cell 0
    have c1 := K2.out.cell 1
    have c2 := K2.out.cell 2
    have c3 := K2.out.cell 3
    simp at c0 c1 c2 c3
    go_wp2_with (fail)
    refine (S2.out _ I2.out).mono ?_
    rintro e w_3 ⟨rfl, hb_3⟩
    have K3 := Lib.hid (K2.out.next hb_3)
    have I3 := Lib.hid (I2.out.next hb_3)
    have B3 := Lib.hid (B2.out.trans (hb_3.mono B2.out.size))
    clear hb_3 c0 c1 c2 c3
    have c0 := K3.out.cell 0
    have c1 := K3.out.cell 1
    have c2 := K3.out.cell 2
    have c3 := K3.out.cell 3
    simp at c0 c1 c2 c3
    go_wp2_with (fail)
    refine (S3.out _ I3.out).mono ?_
    rintro e w_4 ⟨rfl, hb_4⟩
    have K4 := Lib.hid (K3.out.next hb_4)
    have I4 := Lib.hid (I3.out.next hb_4)
    have B4 := Lib.hid (B3.out.trans (hb_4.mono B3.out.size))
    clear hb_4 c0 c1 c2 c3
    have c0 := K4.out.cell 0
    have c1 := K4.out.cell 1
    have c2 := K4.out.cell 2
    have c3 := K4.out.cell 3
    simp at c0 c1 c2 c3
    go_wp2_with (fail)
    refine (S1.out _ I4.out).mono ?_
    rintro e w_5 ⟨rfl, hb_5⟩
    have K5 := Lib.hid (K4.out.next hb_5)
    have I5 := Lib.hid (I4.out.next hb_5)
    have B5 := Lib.hid (B4.out.trans (hb_5.mono B4.out.size))
    clear hb_5 c0 c1 c2 c3
    have c0 := K5.out.cell 0
    have c1 := K5.out.cell 1
    have c2 := K5.out.cell 2
    have c3 := K5.out.cell 3
    simp at c0 c1 c2 c3
    go_wp2_with (fail)
    refine (S2.out _ I5.out).mono ?_
    rintro e w_6 ⟨rfl, hb_6⟩
    have K6 := Lib.hid (K5.out.next hb_6)
    have I6 := Lib.hid (I5.out.next hb_6)
    have B6 := Lib.hid (B5.out.trans (hb_6.mono B5.out.size))
    clear hb_6 c0 c1 c2 c3
    have c0 := K6.out.cell 0
    have c1 := K6.out.cell 1
    have c2 := K6.out.cell 2
    have c3 := K6.out.cell 3
    simp at c0 c1 c2 c3
    go_wp2_with (fail)
    refine (S3.out _ I6.out).mono ?_
    rintro e w_7 ⟨rfl, hb_7⟩
    have K7 := Lib.hid (K6.out.next hb_7)
    have I7 := Lib.hid (I6.out.next hb_7)
    have B7 := Lib.hid (B6.out.trans (hb_7.mono B6.out.size))
    clear hb_7 c0 c1 c2 c3
    have c0 := K7.out.cell 0
    have c1 := K7.out.cell 1
    have c2 := K7.out.cell 2
    have c3 := K7.out.cell 3
    simp at c0 c1 c2 c3
    go_wp2_with (fail)
    go_ret
    exact ⟨rfl, B7.out⟩

end Go.Proofs.Ytpdonhoeimenjaa
