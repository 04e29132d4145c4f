
import Derived.Test.YtpdonhoeimenjaaLY2
/- The walk of the law FnPower. -/
namespace Go.Proofs.Ytpdonhoeimenjaa
open Go.RowKit
set_option maxRecDepth 100000

set_option maxHeartbeats 16000000 in
theorem fnPower_walk (A : Option Addr) (n c : Nat) (A' : Option Addr) (n' c' : Nat) (w : World) (hb : Byts w w.heap.size A n) (hc : n ≤ c) (hc2 : c ≤ 9223372036854775807) (_hb' : Byts w w.heap.size A' n') (_hc' : n' ≤ c') (_hc2' : c' ≤ 9223372036854775807) :
    Calls Try.prog 6 #[.slice A n c, .slice A' n' c'] w fun e w' => e = .returned (.bool true) ∧ Below w.heap.size w w' := by
  by_cases hbig : n > 1048576
  · have t0 : decide ((n : Int) > 1048576) = true := by simp; omega
    go_enter Try.func6, Try.ntmps6
    go_wp2_with (fail)
    go_ret
    exact ⟨rfl, Below.refl _ _⟩
  have hn : n ≤ 1048576 := by omega
  have t0 : decide ((n : Int) > 1048576) = false := by simp; omega
  by_cases hbig2 : n' > 1048576
  · have t0' : decide ((n' : Int) > 1048576) = true := by simp; omega
    go_enter Try.func6, Try.ntmps6
    go_wp2_with (fail)
    go_ret
    exact ⟨rfl, Below.refl _ _⟩
  have hn' : n' ≤ 1048576 := by omega
  have t0' : decide ((n' : Int) > 1048576) = false := by simp; omega
  go_enter Try.func6, Try.ntmps6
  go_wp2_with (fail)
  refine (drawPower_any A n c w hb hn hc hc2).mono ?_
  rintro e w1 ⟨v, a, nn, rfl, hA, ha, hnn, hb1⟩
  have Ha := Lib.hid ha
  clear ha
  have Hnn := Lib.hid hnn
  clear hnn
  obtain ⟨N, O, A1, A2, q, ca, cb, X, Y, rfl, hI, hq⟩ := hA.rin
  obtain ⟨V, hV⟩ : ∃ V, w1.alloc (.cells #[.int .i64 N, .int .i64 O, .slice A1 q ca, .slice A2 q cb] 25) = V := ⟨_, rfl⟩
  have bV : Below w1.heap.size w1 V := by subst hV; exact (Below.refl _ _).alloc (Nat.le_refl _) _
  obtain ⟨bx, hbx⟩ : ∃ b, b = w1.heap.size := ⟨_, rfl⟩
  have K0 := Lib.hid (show Blk V bx 25 #[.int .i64 N, .int .i64 O, .slice A1 q ca, .slice A2 q cb] by subst hV hbx; exact Blk.new w1 _ _)
  have I0 := Lib.hid (hI.next bV)
  have B0 := Lib.hid (hb1.trans (bV.mono hb1.size))
  clear hI hb1 hA
  go_upto_region 4 with (fail)
  rw [← hbx]
  clear hV hbx bV
  by_cases hval : validB N O X Y = true ∧ inB N a = true ∧ 0 ≤ nn
  · obtain ⟨v1, ia, in0⟩ := hval
    obtain ⟨m, e, b1, o1, b2, o2, rfl, rfl, rfl, rfl, hr, _⟩ := valid_data v1 I0.out.hX I0.out.hY I0.out.hca I0.out.hcb
    have V1 := Lib.hid v1
    have R := Lib.hid (rtab_of_valid v1)
    have hm := hr.hm
    have hm' := hr.hm'
    have he := hr.he
    have HQ := Lib.hid hr.hla
    clear hr v1
    obtain ⟨A3, rfl, hA3⟩ : ∃ k : Nat, a = k ∧ k < m := by
      have := of_decide_eq_true ia
      exact ⟨a.toNat, by omega, by omega⟩
    have hnn := Hnn.out.2
    obtain ⟨nk, rfl⟩ := Int.eq_ofNat_of_zero_le in0
    have lnk : nk < 2 ^ 63 := by omega
    obtain ⟨kk, hkk⟩ : ∃ x : Nat, n' % 7 = x := ⟨_, rfl⟩
    obtain ⟨mm, hmm⟩ : ∃ x : Nat, nk % 1000 = x := ⟨_, rfl⟩
    have hkk' : (n' : Int) % 7 = (kk : Int) := by rw [← hkk]; simp
    have lkk : kk < 7 := by rw [← hkk]; exact Nat.mod_lt _ (by omega)
    have hmm' : (nk : Int) % 1000 = (mm : Int) := by rw [← hmm]; simp
    have lmm : mm < 1000 := by rw [← hmm]; exact Nat.mod_lt _ (by omega)
    obtain ⟨mk, hmk⟩ : ∃ x : Nat, mm * kk = x := ⟨_, rfl⟩
    have hmk' : (mm : Int) * kk = (mk : Int) := by rw [← hmk]; simp
    have lmk : mk ≤ 6000 := by
      rw [← hmk]
      exact Nat.le_trans (Nat.mul_le_mul (show mm ≤ 1000 by omega) (show kk ≤ 6 by omega)) (by decide)
    obtain ⟨bv, hbv⟩ : ∃ x : Nat, seqZ m (tabOf Y) e A3 nk = x := ⟨_, rfl⟩
    obtain ⟨pm, hpm⟩ : ∃ x : Nat, seqZ m (tabOf Y) e A3 mm = x := ⟨_, rfl⟩
    obtain ⟨pk, hpk⟩ : ∃ x : Nat, seqZ m (tabOf Y) e A3 kk = x := ⟨_, rfl⟩
    obtain ⟨ps, hps⟩ : ∃ x : Nat, seqZ m (tabOf Y) e A3 (mm + kk) = x := ⟨_, rfl⟩
    obtain ⟨pp, hpp⟩ : ∃ x : Nat, seqZ m (tabOf Y) e A3 mk = x := ⟨_, rfl⟩
    obtain ⟨aa, haa⟩ : ∃ x : Nat, tabOf Y (A3 * m + A3) = x := ⟨_, rfl⟩
    obtain ⟨p2, hp2⟩ : ∃ x : Nat, seqZ m (tabOf Y) e A3 (2 * mm) = x := ⟨_, rfl⟩
    have lpm : pm < m := by rw [← hpm]; exact R.out.pw_lt hA3 _
    have lpk : pk < m := by rw [← hpk]; exact R.out.pw_lt hA3 _
    have laa : aa < m := by rw [← haa]; exact R.out.pc hA3 hA3
    have hmul : tabOf Y (pm * m + pk) = ps := by rw [← hps, R.out.pw_add hA3, hpm, hpk]
    have hpow : seqZ m (tabOf Y) e pm kk = pp := by rw [← hpm, R.out.pw_mul hA3, hmk, hpp]
    have hsq : seqZ m (tabOf Y) e aa mm = p2 := by rw [← haa, R.out.pw_square hA3, hp2]
    have H1 := Lib.hid (show ∀ u, RIn u (some ⟨b1, o1, none⟩) q ca (some ⟨b2, o2, none⟩) q cb X Y → Calls Try.prog 31 #[.agg #[.int .i64 m, .int .i64 e, .slice (some ⟨b1, o1, none⟩) q ca, .slice (some ⟨b2, o2, none⟩) q cb], .int .i64 A3, .int .i64 nk] u fun e' w' => e' = .returned (.int .i64 bv) ∧ Below u.heap.size u w' from fun u h => c_pow h _ _ (by omega) _ (v_pow V1.out hA3 lnk hbv rfl rfl rfl))
    have S1 := Lib.hid (show ∀ u, RIn u (some ⟨b1, o1, none⟩) q ca (some ⟨b2, o2, none⟩) q cb X Y → Calls Try.prog 32 #[.agg #[.int .i64 m, .int .i64 e, .slice (some ⟨b1, o1, none⟩) q ca, .slice (some ⟨b2, o2, none⟩) q cb], .int .i64 A3, .int .i64 nk] u fun e' w' => e' = .returned (.int .i64 bv) ∧ Below u.heap.size u w' from fun u h => cs_pow h _ _ (by omega) _ (v_pow V1.out hA3 lnk hbv rfl rfl rfl))
    have H2 := Lib.hid (show ∀ u, RIn u (some ⟨b1, o1, none⟩) q ca (some ⟨b2, o2, none⟩) q cb X Y → Calls Try.prog 31 #[.agg #[.int .i64 m, .int .i64 e, .slice (some ⟨b1, o1, none⟩) q ca, .slice (some ⟨b2, o2, none⟩) q cb], .int .i64 A3, .int .i64 mm] u fun e' w' => e' = .returned (.int .i64 pm) ∧ Below u.heap.size u w' from fun u h => c_pow h _ _ (by omega) _ (v_pow V1.out hA3 (by omega) hpm rfl rfl rfl))
    have H3 := Lib.hid (show ∀ u, RIn u (some ⟨b1, o1, none⟩) q ca (some ⟨b2, o2, none⟩) q cb X Y → Calls Try.prog 31 #[.agg #[.int .i64 m, .int .i64 e, .slice (some ⟨b1, o1, none⟩) q ca, .slice (some ⟨b2, o2, none⟩) q cb], .int .i64 A3, .int .i64 kk] u fun e' w' => e' = .returned (.int .i64 pk) ∧ Below u.heap.size u w' from fun u h => c_pow h _ _ (by omega) _ (v_pow V1.out hA3 (by omega) hpk rfl rfl rfl))
    have H4 := Lib.hid (show ∀ u, RIn u (some ⟨b1, o1, none⟩) q ca (some ⟨b2, o2, none⟩) q cb X Y → Calls Try.prog 21 #[.agg #[.int .i64 m, .int .i64 e, .slice (some ⟨b1, o1, none⟩) q ca, .slice (some ⟨b2, o2, none⟩) q cb], .int .i64 pm, .int .i64 pk] u fun e' w' => e' = .returned (.int .i64 ps) ∧ Below u.heap.size u w' from fun u h => c_mul h _ _ _ (v_mul V1.out lpm lpk hmul rfl rfl rfl))
    have H5 := Lib.hid (show ∀ u, RIn u (some ⟨b1, o1, none⟩) q ca (some ⟨b2, o2, none⟩) q cb X Y → Calls Try.prog 31 #[.agg #[.int .i64 m, .int .i64 e, .slice (some ⟨b1, o1, none⟩) q ca, .slice (some ⟨b2, o2, none⟩) q cb], .int .i64 A3, .int .i64 (mm + kk)] u fun e' w' => e' = .returned (.int .i64 ps) ∧ Below u.heap.size u w' from fun u h => c_pow h _ _ (by omega) _ (v_pow V1.out hA3 (by omega) hps rfl (by simp) rfl))
    have H6 := Lib.hid (show ∀ u, RIn u (some ⟨b1, o1, none⟩) q ca (some ⟨b2, o2, none⟩) q cb X Y → Calls Try.prog 31 #[.agg #[.int .i64 m, .int .i64 e, .slice (some ⟨b1, o1, none⟩) q ca, .slice (some ⟨b2, o2, none⟩) q cb], .int .i64 pm, .int .i64 kk] u fun e' w' => e' = .returned (.int .i64 pp) ∧ Below u.heap.size u w' from fun u h => c_pow h _ _ (by omega) _ (v_pow V1.out lpm (by omega) hpow rfl rfl rfl))
    have H7 := Lib.hid (show ∀ u, RIn u (some ⟨b1, o1, none⟩) q ca (some ⟨b2, o2, none⟩) q cb X Y → Calls Try.prog 31 #[.agg #[.int .i64 m, .int .i64 e, .slice (some ⟨b1, o1, none⟩) q ca, .slice (some ⟨b2, o2, none⟩) q cb], .int .i64 A3, .int .i64 mk] u fun e' w' => e' = .returned (.int .i64 pp) ∧ Below u.heap.size u w' from fun u h => c_pow h _ _ (by omega) _ (v_pow V1.out hA3 (by omega) hpp rfl rfl rfl))
    have H8 := Lib.hid (show ∀ u, RIn u (some ⟨b1, o1, none⟩) q ca (some ⟨b2, o2, none⟩) q cb X Y → Calls Try.prog 21 #[.agg #[.int .i64 m, .int .i64 e, .slice (some ⟨b1, o1, none⟩) q ca, .slice (some ⟨b2, o2, none⟩) q cb], .int .i64 A3, .int .i64 A3] u fun e' w' => e' = .returned (.int .i64 aa) ∧ Below u.heap.size u w' from fun u h => c_mul h _ _ _ (v_mul V1.out hA3 hA3 haa rfl rfl rfl))
    have H9 := Lib.hid (show ∀ u, RIn u (some ⟨b1, o1, none⟩) q ca (some ⟨b2, o2, none⟩) q cb X Y → Calls Try.prog 31 #[.agg #[.int .i64 m, .int .i64 e, .slice (some ⟨b1, o1, none⟩) q ca, .slice (some ⟨b2, o2, none⟩) q cb], .int .i64 aa, .int .i64 mm] u fun e' w' => e' = .returned (.int .i64 p2) ∧ Below u.heap.size u w' from fun u h => c_pow h _ _ (by omega) _ (v_pow V1.out laa (by omega) hsq rfl rfl rfl))
    have G1 := Lib.hid (show ∀ u, RIn u (some ⟨b1, o1, none⟩) q ca (some ⟨b2, o2, none⟩) q cb X Y → Calls Try.prog 31 #[.agg #[.int .i64 m, .int .i64 e, .slice (some ⟨b1, o1, none⟩) q ca, .slice (some ⟨b2, o2, none⟩) q cb], .int .i64 A3, .int .i64 (2 * mm)] u fun e' w' => e' = .returned (.int .i64 p2) ∧ Below u.heap.size u w' from fun u h => c_pow h _ _ (by omega) _ (v_pow V1.out hA3 (by omega) hp2 rfl (by simp) rfl))
    have G2 := Lib.hid (show ∀ u, RIn u (some ⟨b1, o1, none⟩) q ca (some ⟨b2, o2, none⟩) q cb X Y → Calls Try.prog 31 #[.agg #[.int .i64 m, .int .i64 e, .slice (some ⟨b1, o1, none⟩) q ca, .slice (some ⟨b2, o2, none⟩) q cb], .int .i64 A3, .int .i64 0] u fun e' w' => e' = .returned (.int .i64 e) ∧ Below u.heap.size u w' from fun u h => c_pow h _ _ (by omega) _ (v_pow V1.out hA3 (j := 0) (by omega) (s := e) rfl rfl rfl rfl))
    clear hkk hmm hmk hbv hpm hpk hps hpp haa hp2 hmul hpow hsq ia in0
    have c0 := K0.out.cell 0
    have c1 := K0.out.cell 1
    have c2 := K0.out.cell 2
    have c3 := K0.out.cell 3
    simp at c0 c1 c2 c3
    go_wp2_with (fail)
    refine (H1.out _ I0.out).mono ?_
    rintro e w_1 ⟨rfl, hb_1⟩
    have K1 := Lib.hid (K0.out.next hb_1)
    have I1 := Lib.hid (I0.out.next hb_1)
    have B1 := Lib.hid (B0.out.trans (hb_1.mono B0.out.size))
    clear hb_1 c0 c1 c2 c3
    have c0 := K1.out.cell 0
    have c1 := K1.out.cell 1
    have c2 := K1.out.cell 2
    have c3 := K1.out.cell 3
    simp at c0 c1 c2 c3
    go_wp2_with (fail)
    refine (S1.out _ I1.out).mono ?_
    rintro e w_2 ⟨rfl, hb_2⟩
    have K2 := Lib.hid (K1.out.next hb_2)
    have I2 := Lib.hid (I1.out.next hb_2)
    have B2 := Lib.hid (B1.out.trans (hb_2.mono B1.out.size))
    clear hb_2 c0 c1 c2 c3
    have c0 := K2.out.cell 0
    have c1 := K2.out.cell 1
    have c2 := K2.out.cell 2
    have c3 := K2.out.cell 3
    simp at c0 c1 c2 c3
    go_wp2_with (fail)
    refine wp_region_ext (by kernel_rfl) (by kernel_rfl) ?_
    repeat (go_big_quiet_step (first
      | (go_at_call 31; with_reducible refine calls_ext (H2.out _ (I2.out.ext _)))
      | (go_at_call 31; with_reducible refine calls_ext (H3.out _ (I2.out.ext _)))
      | (go_at_call 21; with_reducible refine calls_ext (H4.out _ (I2.out.ext _)))
      | (go_at_call 31; with_reducible refine calls_ext (H5.out _ (I2.out.ext _)))
      | (go_at_call 31; with_reducible refine calls_ext (H6.out _ (I2.out.ext _)))
      | (go_at_call 31; with_reducible refine calls_ext (H7.out _ (I2.out.ext _)))
      | (go_at_call 21; with_reducible refine calls_ext (H8.out _ (I2.out.ext _)))
      | (go_at_call 31; with_reducible refine calls_ext (H9.out _ (I2.out.ext _)))
      | (go_at_call 31; with_reducible refine calls_ext (G1.out _ (I2.out.ext _)))
      | (go_at_call 31; with_reducible refine calls_ext (G2.out _ (I2.out.ext _)))
      | fail))
    refine wpQuiet_nil ?_
    intro w_3 hb_3
    have K3 := Lib.hid (K2.out.next hb_3)
    have I3 := Lib.hid (I2.out.next hb_3)
    have B3 := Lib.hid (B2.out.trans (hb_3.mono B2.out.size))
    clear hb_3 c0 c1 c2 c3
    have c0 := K3.out.cell 0
    have c1 := K3.out.cell 1
    have c2 := K3.out.cell 2
    have c3 := K3.out.cell 3
    simp at c0 c1 c2 c3
    go_wp2_with (fail)
    go_ret
    exact ⟨rfl, B3.out⟩
  · have ez : powV N O X Y a nn = -1 := powV_no hval
    have hnn := Hnn.out.2
    have H1 := Lib.hid (show ∀ u, RIn u A1 q ca A2 q cb X Y → Calls Try.prog 31 #[.agg #[.int .i64 N, .int .i64 O, .slice A1 q ca, .slice A2 q cb], .int .i64 a, .int .i64 nn] u fun e' w' => e' = .returned (.int .i64 (-1)) ∧ Below u.heap.size u w' from fun u h => c_pow h _ _ hnn _ ez)
    have S1 := Lib.hid (show ∀ u, RIn u A1 q ca A2 q cb X Y → Calls Try.prog 32 #[.agg #[.int .i64 N, .int .i64 O, .slice A1 q ca, .slice A2 q cb], .int .i64 a, .int .i64 nn] u fun e' w' => e' = .returned (.int .i64 (-1)) ∧ Below u.heap.size u w' from fun u h => cs_pow h _ _ hnn _ ez)
    clear hval ez
    have c0 := K0.out.cell 0
    have c1 := K0.out.cell 1
    have c2 := K0.out.cell 2
    have c3 := K0.out.cell 3
    simp at c0 c1 c2 c3
    go_wp2_with (fail)
    refine (H1.out _ I0.out).mono ?_
    rintro e w_1 ⟨rfl, hb_1⟩
    have K1 := Lib.hid (K0.out.next hb_1)
    have I1 := Lib.hid (I0.out.next hb_1)
    have B1 := Lib.hid (B0.out.trans (hb_1.mono B0.out.size))
    clear hb_1 c0 c1 c2 c3
    have c0 := K1.out.cell 0
    have c1 := K1.out.cell 1
    have c2 := K1.out.cell 2
    have c3 := K1.out.cell 3
    simp at c0 c1 c2 c3
    go_wp2_with (fail)
    refine (S1.out _ I1.out).mono ?_
    rintro e w_2 ⟨rfl, hb_2⟩
    have K2 := Lib.hid (K1.out.next hb_2)
    have I2 := Lib.hid (I1.out.next hb_2)
    have B2 := Lib.hid (B1.out.trans (hb_2.mono B1.out.size))
    clear hb_2 c0 c1 c2 c3
    have c0 := K2.out.cell 0
    have c1 := K2.out.cell 1
    have c2 := K2.out.cell 2
    have c3 := K2.out.cell 3
    simp at c0 c1 c2 c3
    go_wp2_with (fail)
    refine (S1.out _ I2.out).mono ?_
    rintro e w_3 ⟨rfl, hb_3⟩
    have K3 := Lib.hid (K2.out.next hb_3)
    have I3 := Lib.hid (I2.out.next hb_3)
    have B3 := Lib.hid (B2.out.trans (hb_3.mono B2.out.size))
    clear hb_3 c0 c1 c2 c3
    have c0 := K3.out.cell 0
    have c1 := K3.out.cell 1
    have c2 := K3.out.cell 2
    have c3 := K3.out.cell 3
    simp at c0 c1 c2 c3
    go_wp2_with (fail)
    go_ret
    exact ⟨rfl, B3.out⟩

end Go.Proofs.Ytpdonhoeimenjaa
