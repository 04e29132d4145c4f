
import Derived.Test.YtlcpbdbdiahmjaaNP
/- The walk of the law FnPowers. -/
namespace Go.Proofs.Ytlcpbdbdiahmjaa
open Go.RowKit
set_option maxRecDepth 100000

set_option maxHeartbeats 16000000 in
theorem fnPowers_walk (A : Option Addr) (n c : Nat) (w : World) (hb : Byts w w.heap.size A n) (hc : n ≤ c) (hc2 : c ≤ 9223372036854775807) :
    Calls Try.prog 5 #[.slice A n c] w fun e w' => e = .returned (.bool true) ∧ Below w.heap.size w w' := by
  by_cases hbig : n > 1048576
  · have t0 : decide ((n : Int) > 1048576) = true := by simp; omega
    go_enter Try.func5, Try.ntmps5
    go_wp2_with (fail)
    go_ret
    exact ⟨rfl, Below.refl _ _⟩
  have hn : n ≤ 1048576 := by omega
  have t0 : decide ((n : Int) > 1048576) = false := by simp; omega
  go_enter Try.func5, Try.ntmps5
  go_wp2_with (fail)
  refine (drawPowersOf_any A n c w hb hn hc hc2).mono ?_
  rintro e w1 ⟨v, a, rfl, hA, ha, hb1⟩
  have Ha := Lib.hid ha
  clear ha
  obtain ⟨N, O, A1, A2, q, ca, cb, X, Y, rfl, hI, hq, hNmx⟩ := hA.rin
  obtain ⟨V, hV⟩ : ∃ V, w1.alloc (.cells #[.int .i64 N, .int .i64 O, .slice A1 q ca, .slice A2 q cb] 25) = V := ⟨_, rfl⟩
  have bV : Below w1.heap.size w1 V := by subst hV; exact (Below.refl _ _).alloc (Nat.le_refl _) _
  obtain ⟨bx, hbx⟩ : ∃ b, b = w1.heap.size := ⟨_, rfl⟩
  have K0 := Lib.hid (show Blk V bx 25 #[.int .i64 N, .int .i64 O, .slice A1 q ca, .slice A2 q cb] by subst hV hbx; exact Blk.new w1 _ _)
  have I0 := Lib.hid (hI.next bV)
  have B0 := Lib.hid (hb1.trans (bV.mono hb1.size))
  clear hI hb1 hA
  go_upto_region 4 with (fail)
  rw [← hbx]
  clear hV hbx bV
  by_cases hval : validB N O X Y = true ∧ inB N a = true
  · obtain ⟨v1, ia⟩ := hval
    obtain ⟨m, e, b1, o1, b2, o2, rfl, rfl, rfl, rfl, hr, _⟩ := valid_data v1 I0.out.hX I0.out.hY I0.out.hca I0.out.hcb
    have V1 := Lib.hid v1
    have R := Lib.hid (rtab_of_valid v1)
    have hm := hr.hm
    have hm' := hr.hm'
    have he := hr.he
    have HQ := Lib.hid hr.hla
    clear hr v1
    obtain ⟨A3, rfl, hA3⟩ : ∃ k : Nat, a = k ∧ k < m := by
      have := of_decide_eq_true ia
      exact ⟨a.toNat, by omega, by omega⟩
    obtain ⟨K, hK, hK1, hKm, hKh, hKu, hKn⟩ := R.out.pw_facts hA3
    have hEU : pwlV m e X Y A3 = pwS m (tabOf Y) e A3 K := by rw [pwl_yes V1.out ia, ← hK]; rfl
    obtain ⟨U, eU⟩ : ∃ Z, pwS m (tabOf Y) e A3 K = Z := ⟨_, rfl⟩
    obtain ⟨nU, hnU⟩ : ∃ n, U.length = n := ⟨_, rfl⟩
    have HnU := Lib.hid hnU
    have EU := Lib.hid eU
    clear hnU eU
    have hnU : nU = K := by rw [← HnU.out, ← EU.out, pwS_len]
    subst hnU
    obtain ⟨kp, hkp⟩ : ∃ k, nU = k + 1 := ⟨nU - 1, by omega⟩
    have CP := Lib.hid (show pwlV m e X Y A3 = U from hEU.trans EU.out)
    have UG := Lib.hid (show ∀ i, i < nU → U[i]?.getD 0 = ((seqZ m (tabOf Y) e A3 i : Nat) : Int) from fun i hi => by rw [← EU.out]; exact pwS_get hi)
    obtain ⟨nx, hnx⟩ : ∃ x : Nat, seqZ m (tabOf Y) e A3 nU = x := ⟨_, rfl⟩
    obtain ⟨lx, hlx⟩ : ∃ x : Nat, seqZ m (tabOf Y) e A3 kp = x := ⟨_, rfl⟩
    have lnx : nx < m := by rw [← hnx]; exact R.out.pw_lt hA3 _
    have llx : lx < m := by rw [← hlx]; exact R.out.pw_lt hA3 _
    have hmul : tabOf Y (lx * m + A3) = nx := by rw [← hlx, ← hnx, hkp]; rfl
    have KH := Lib.hid (show hasB (pwS m (tabOf Y) e A3 nU) (nx : Int) = true by rw [← hnx]; exact hKh)
    obtain ⟨z, hz, hzz⟩ : ∃ z : Int, uordV m e X Y A3 = z ∧ ((z = (nU : Int) ∧ nx = e) ∨ (z = -1 ∧ nx ≠ e)) := by
      rcases inv_cases (n := (m : Int)) (o := (e : Int)) (X := X) (Y := Y) (a := (A3 : Int)) with ez | ⟨_, _, hi⟩
      · refine ⟨-1, uord_not (by omega), .inr ⟨rfl, ?_⟩⟩
        have hnu : ¬ UnitAt m (tabOf Y) e A3 := fun hu => by
          rw [invV_yes V1.out ia] at ez
          have := inv_unit.2 hu
          omega
        rw [← hnx]; exact hKn hnu
      · rw [invV_yes V1.out ia] at hi
        obtain ⟨cv, lcv, _, hcv⟩ := inv_data hi
        obtain ⟨h1, h2⟩ := hKu ⟨cv, lcv, hcv⟩
        exact ⟨nU, v_uord V1.out hA3 lcv hcv h1 rfl rfl, .inl ⟨rfl, by rw [← hnx]; exact h2⟩⟩
    have H2 := Lib.hid (show ∀ u, RIn u (some ⟨b1, o1, none⟩) q ca (some ⟨b2, o2, none⟩) q cb X Y → Calls Try.prog 27 #[.agg #[.int .i64 m, .int .i64 e, .slice (some ⟨b1, o1, none⟩) q ca, .slice (some ⟨b2, o2, none⟩) q cb], .int .i64 lx, .int .i64 A3] u fun e' w' => e' = .returned (.int .i64 nx) ∧ Below u.heap.size u w' from fun u h => c_mul h _ _ _ (v_mul V1.out llx hA3 hmul rfl rfl rfl))
    have H3 := Lib.hid (show ∀ u, RIn u (some ⟨b1, o1, none⟩) q ca (some ⟨b2, o2, none⟩) q cb X Y → Calls Try.prog 29 #[.agg #[.int .i64 m, .int .i64 e, .slice (some ⟨b1, o1, none⟩) q ca, .slice (some ⟨b2, o2, none⟩) q cb], .int .i64 A3] u fun e' w' => e' = .returned (.int .i64 z) ∧ Below u.heap.size u w' from fun u h => c_uord h _ _ hz)
    have HLX := Lib.hid hlx
    have tk4 : IntKind.i64.wrap ((nU : Int) - 1) = (kp : Int) := by rw [IntWalk.i64_in _ (by omega)]; omega
    have tk5 : (kp : Int) < (nU : Int) := by omega
    have tk6 : kp < nU := by omega
    clear hnx hlx hmul hz hKh hKu hKn hEU hK ia hkp
    have c0 := K0.out.cell 0
    have c1 := K0.out.cell 1
    have c2 := K0.out.cell 2
    have c3 := K0.out.cell 3
    simp at c0 c1 c2 c3
    go_wp2_with (fail)
    refine (c_powl I0.out _ _ CP.out).mono ?_
    rintro e w_1 ⟨v, rfl, ho, hb_1⟩
    obtain ⟨A_PU, c_PU, rfl, ho'⟩ := ho.as HnU.out
    have PU1 := Lib.hid (ho'.down (D' := w.heap.size) B0.out.size)
    clear ho ho'
    have K1 := Lib.hid (K0.out.next hb_1)
    have I1 := Lib.hid (I0.out.next hb_1)
    have B1 := Lib.hid (B0.out.trans (hb_1.mono B0.out.size))
    clear hb_1 c0 c1 c2 c3
    have c0 := K1.out.cell 0
    have c1 := K1.out.cell 1
    have c2 := K1.out.cell 2
    have c3 := K1.out.cell 3
    simp at c0 c1 c2 c3
    go_wp2_with (fail)
    refine (cs_powl I1.out _ _ CP.out).mono ?_
    rintro e w_2 ⟨v, rfl, ho, hb_2⟩
    obtain ⟨A_PS, c_PS, rfl, ho'⟩ := ho.as HnU.out
    have PS2 := Lib.hid (ho'.down (D' := w.heap.size) B1.out.size)
    clear ho ho'
    have PU2 := Lib.hid (PU1.out.next hb_2)
    have K2 := Lib.hid (K1.out.next hb_2)
    have I2 := Lib.hid (I1.out.next hb_2)
    have B2 := Lib.hid (B1.out.trans (hb_2.mono B1.out.size))
    clear hb_2 c0 c1 c2 c3
    have c0 := K2.out.cell 0
    have c1 := K2.out.cell 1
    have c2 := K2.out.cell 2
    have c3 := K2.out.cell 3
    simp at c0 c1 c2 c3
    go_wp2_with (fail)
    refine (frSame_is PU2.out.at_.1 PS2.out.at_.1 PU2.out.at_.2.2 PS2.out.at_.2.2 true eqL_self).mono ?_
    rintro e w_3 ⟨rfl, hb_3⟩
    have PU3 := Lib.hid (PU2.out.next hb_3)
    have PS3 := Lib.hid (PS2.out.next hb_3)
    have K3 := Lib.hid (K2.out.next hb_3)
    have I3 := Lib.hid (I2.out.next hb_3)
    have B3 := Lib.hid (B2.out.trans (hb_3.mono B2.out.size))
    clear hb_3 c0 c1 c2 c3
    have c0 := K3.out.cell 0
    have c1 := K3.out.cell 1
    have c2 := K3.out.cell 2
    have c3 := K3.out.cell 3
    simp at c0 c1 c2 c3
    have te0 : ((nU : Int) == 0) = false := by rw [beq_eq_false_iff_ne]; omega
    obtain ⟨bU, oU, rfl, _, fU⟩ := (PU3.out.at_.1).at_ (k := kp) tk6
    rw [UG.out kp tk6, HLX.out] at fU
    go_wp2_with (fail)
    refine wp_region_ext (by kernel_rfl) (by kernel_rfl) ?_
    repeat (go_big_quiet_step (first
      | (go_at_call 27; with_reducible refine calls_ext (H2.out _ (I3.out.ext _)))
      | fail))
    refine wpQuiet_nil ?_
    intro w_4 hb_4
    have PU4 := Lib.hid (PU3.out.next hb_4)
    have PS4 := Lib.hid (PS3.out.next hb_4)
    have K4 := Lib.hid (K3.out.next hb_4)
    have I4 := Lib.hid (I3.out.next hb_4)
    have B4 := Lib.hid (B3.out.trans (hb_4.mono B3.out.size))
    clear hb_4 c0 c1 c2 c3
    have c0 := K4.out.cell 0
    have c1 := K4.out.cell 1
    have c2 := K4.out.cell 2
    have c3 := K4.out.cell 3
    simp at c0 c1 c2 c3
    clear fU tk4 tk5 tk6
    go_wp2_with (fail)
    go_loopg [6, 55] nU (fun g vin i wr => ∃ k : Nat, k ≤ nU ∧ nU ≤ k + g ∧ vin = .bool (hasB (pwS m (tabOf Y) e A3 k) (nx : Int)) ∧ i = .int .i64 k ∧ Below w_4.heap.size w_4 wr)
    case atStart => exact ⟨0, Nat.zero_le _, by omega, rfl, rfl, Below.refl _ _⟩
    case round =>
      obtain ⟨k, hk, hg, rfl, rfl, hbr⟩ := hrel
      have K90 := Lib.hid (K4.out.next hbr)
      have I90 := Lib.hid (I4.out.next hbr)
      have B90 := Lib.hid (B4.out.trans (hbr.mono B4.out.size))
      have BQ90 := Lib.hid hbr
      have PU90 := Lib.hid (PU4.out.next hbr)
      have PS90 := Lib.hid (PS4.out.next hbr)
      clear hbr
      by_cases hlt : k < nU
      · obtain ⟨pk, hpk⟩ : ∃ x : Nat, seqZ m (tabOf Y) e A3 k = x := ⟨_, rfl⟩
        have HP := Lib.hid (show ∀ u, RIn u (some ⟨b1, o1, none⟩) q ca (some ⟨b2, o2, none⟩) q cb X Y → Calls Try.prog 28 #[.agg #[.int .i64 m, .int .i64 e, .slice (some ⟨b1, o1, none⟩) q ca, .slice (some ⟨b2, o2, none⟩) q cb], .int .i64 A3, .int .i64 k] u fun e' w' => e' = .returned (.int .i64 pk) ∧ Below u.heap.size u w' from fun u h => c_pow h _ _ (by omega) _ (v_pow V1.out hA3 (by omega) hpk rfl rfl rfl))
        have HS := Lib.hid (hasB_succ (m := m) (P := tabOf Y) (e := e) (a := A3) (k := k) (x := (nx : Int)))
        rw [hpk] at HS
        obtain ⟨bU2, oU2, e2, _, fU⟩ := (PU90.out.at_.1).at_ (k := k) hlt
        cases e2
        rw [UG.out k hlt, hpk] at fU
        clear hpk
        obtain ⟨bi, hbi⟩ : ∃ b, hasB (pwS m (tabOf Y) e A3 k) (nx : Int) = b := ⟨_, rfl⟩
        rw [hbi] at HS ⊢
        clear hbi
        cases bi
        · cases hb : ((pk : Int) == (nx : Int))
          · have HF := Lib.hid (show hasB (pwS m (tabOf Y) e A3 (k + 1)) (nx : Int) = false from HS.out.trans (by simp [hb]))
            have c0 := K90.out.cell 0
            have c1 := K90.out.cell 1
            have c2 := K90.out.cell 2
            have c3 := K90.out.cell 3
            simp at c0 c1 c2 c3
            go_wp2_with (fail)
            refine (HP.out _ I90.out).mono ?_
            rintro e w_91 ⟨rfl, hb_91⟩
            have BQ91 := Lib.hid (BQ90.out.trans (hb_91.mono BQ90.out.size))
            clear hb_91 c0 c1 c2 c3 fU
            go_wp2_with (fail)
            go_roundg (nU - (k + 1))
            case measure => omega
            case rel => exact ⟨k + 1, by omega, by omega, by rw [HF.out], by go_num, BQ91.out⟩
          · have HF := Lib.hid (show hasB (pwS m (tabOf Y) e A3 (k + 1)) (nx : Int) = true from HS.out.trans (by simp [hb]))
            have c0 := K90.out.cell 0
            have c1 := K90.out.cell 1
            have c2 := K90.out.cell 2
            have c3 := K90.out.cell 3
            simp at c0 c1 c2 c3
            go_wp2_with (fail)
            refine (HP.out _ I90.out).mono ?_
            rintro e w_91 ⟨rfl, hb_91⟩
            have BQ91 := Lib.hid (BQ90.out.trans (hb_91.mono BQ90.out.size))
            clear hb_91 c0 c1 c2 c3 fU
            go_wp2_with (fail)
            go_roundg (nU - (k + 1))
            case measure => omega
            case rel => exact ⟨k + 1, by omega, by omega, by rw [HF.out], by go_num, BQ91.out⟩
        · have HF := Lib.hid (show hasB (pwS m (tabOf Y) e A3 (k + 1)) (nx : Int) = true from HS.out.trans (by simp))
          have c0 := K90.out.cell 0
          have c1 := K90.out.cell 1
          have c2 := K90.out.cell 2
          have c3 := K90.out.cell 3
          simp at c0 c1 c2 c3
          go_wp2_with (fail)
          refine (HP.out _ I90.out).mono ?_
          rintro e w_91 ⟨rfl, hb_91⟩
          have BQ91 := Lib.hid (BQ90.out.trans (hb_91.mono BQ90.out.size))
          clear hb_91 c0 c1 c2 c3 fU
          go_wp2_with (fail)
          go_roundg (nU - (k + 1))
          case measure => omega
          case rel => exact ⟨k + 1, by omega, by omega, by rw [HF.out], by go_num, BQ91.out⟩
      · have hkd : k = nU := by omega
        subst hkd
        rw [KH.out]
        have c0 := K90.out.cell 0
        have c1 := K90.out.cell 1
        have c2 := K90.out.cell 2
        have c3 := K90.out.cell 3
        simp at c0 c1 c2 c3
        go_wp2_with (fail)
        refine (H3.out _ I90.out).mono ?_
        rintro e w_91 ⟨rfl, hb_91⟩
        have BQ91 := Lib.hid (BQ90.out.trans (hb_91.mono BQ90.out.size))
        have PU91 := Lib.hid (PU90.out.next hb_91)
        have PS91 := Lib.hid (PS90.out.next hb_91)
        have K91 := Lib.hid (K90.out.next hb_91)
        have I91 := Lib.hid (I90.out.next hb_91)
        have B91 := Lib.hid (B90.out.trans (hb_91.mono B90.out.size))
        clear hb_91 c0 c1 c2 c3
        have c0 := K91.out.cell 0
        have c1 := K91.out.cell 1
        have c2 := K91.out.cell 2
        have c3 := K91.out.cell 3
        simp at c0 c1 c2 c3
        rcases hzz with ⟨rfl, rfl⟩ | ⟨rfl, hne⟩
        · have tn : ((nx : Int) != (nx : Int)) = false := by simp
          go_wp2_with (fail)
          go_ret
          exact ⟨rfl, B91.out⟩
        · have tn : ((nx : Int) != (e : Int)) = true := by simp; omega
          go_wp2_with (fail)
          go_ret
          exact ⟨rfl, B91.out⟩
  · have ez : pwlV N O X Y a = [] := pwl_no hval
    have eo : ordV N O X Y a = -1 := ordV_no hval
    obtain ⟨U, eU⟩ : ∃ Z : List Int, Z = [] := ⟨_, rfl⟩
    have HnU := Lib.hid (show U.length = 0 by rw [eU]; rfl)
    have CP := Lib.hid (ez.trans eU.symm)
    clear eU
    have H4 := Lib.hid (show ∀ u, RIn u A1 q ca A2 q cb X Y → Calls Try.prog 26 #[.agg #[.int .i64 N, .int .i64 O, .slice A1 q ca, .slice A2 q cb], .int .i64 a] u fun e' w' => e' = .returned (.int .i64 (-1)) ∧ Below u.heap.size u w' from fun u h => c_sord h _ _ eo)
    clear hval ez eo
    have c0 := K0.out.cell 0
    have c1 := K0.out.cell 1
    have c2 := K0.out.cell 2
    have c3 := K0.out.cell 3
    simp at c0 c1 c2 c3
    go_wp2_with (fail)
    refine (c_powl I0.out _ _ CP.out).mono ?_
    rintro e w_1 ⟨v, rfl, ho, hb_1⟩
    obtain ⟨A_PU, c_PU, rfl, ho'⟩ := ho.as HnU.out
    have PU1 := Lib.hid (ho'.down (D' := w.heap.size) B0.out.size)
    clear ho ho'
    have K1 := Lib.hid (K0.out.next hb_1)
    have I1 := Lib.hid (I0.out.next hb_1)
    have B1 := Lib.hid (B0.out.trans (hb_1.mono B0.out.size))
    clear hb_1 c0 c1 c2 c3
    have c0 := K1.out.cell 0
    have c1 := K1.out.cell 1
    have c2 := K1.out.cell 2
    have c3 := K1.out.cell 3
    simp at c0 c1 c2 c3
    go_wp2_with (fail)
    refine (cs_powl I1.out _ _ CP.out).mono ?_
    rintro e w_2 ⟨v, rfl, ho, hb_2⟩
    obtain ⟨A_PS, c_PS, rfl, ho'⟩ := ho.as HnU.out
    have PS2 := Lib.hid (ho'.down (D' := w.heap.size) B1.out.size)
    clear ho ho'
    have PU2 := Lib.hid (PU1.out.next hb_2)
    have K2 := Lib.hid (K1.out.next hb_2)
    have I2 := Lib.hid (I1.out.next hb_2)
    have B2 := Lib.hid (B1.out.trans (hb_2.mono B1.out.size))
    clear hb_2 c0 c1 c2 c3
    have c0 := K2.out.cell 0
    have c1 := K2.out.cell 1
    have c2 := K2.out.cell 2
    have c3 := K2.out.cell 3
    simp at c0 c1 c2 c3
    go_wp2_with (fail)
    refine (frSame_is PU2.out.at_.1 PS2.out.at_.1 PU2.out.at_.2.2 PS2.out.at_.2.2 true eqL_self).mono ?_
    rintro e w_3 ⟨rfl, hb_3⟩
    have PU3 := Lib.hid (PU2.out.next hb_3)
    have PS3 := Lib.hid (PS2.out.next hb_3)
    have K3 := Lib.hid (K2.out.next hb_3)
    have I3 := Lib.hid (I2.out.next hb_3)
    have B3 := Lib.hid (B2.out.trans (hb_3.mono B2.out.size))
    clear hb_3 c0 c1 c2 c3
    have c0 := K3.out.cell 0
    have c1 := K3.out.cell 1
    have c2 := K3.out.cell 2
    have c3 := K3.out.cell 3
    simp at c0 c1 c2 c3
    go_wp2_with (fail)
    refine (cs_powl I3.out _ _ CP.out).mono ?_
    rintro e w_4 ⟨v, rfl, ho, hb_4⟩
    obtain ⟨A_PT, c_PT, rfl, ho'⟩ := ho.as HnU.out
    have PT4 := Lib.hid (ho'.down (D' := w.heap.size) B3.out.size)
    clear ho ho'
    have PU4 := Lib.hid (PU3.out.next hb_4)
    have PS4 := Lib.hid (PS3.out.next hb_4)
    have K4 := Lib.hid (K3.out.next hb_4)
    have I4 := Lib.hid (I3.out.next hb_4)
    have B4 := Lib.hid (B3.out.trans (hb_4.mono B3.out.size))
    clear hb_4 c0 c1 c2 c3
    have c0 := K4.out.cell 0
    have c1 := K4.out.cell 1
    have c2 := K4.out.cell 2
    have c3 := K4.out.cell 3
    simp at c0 c1 c2 c3
    go_wp2_with (fail)
    refine (frSame_is PU4.out.at_.1 PT4.out.at_.1 PU4.out.at_.2.2 PT4.out.at_.2.2 true eqL_self).mono ?_
    rintro e w_5 ⟨rfl, hb_5⟩
    have PU5 := Lib.hid (PU4.out.next hb_5)
    have PS5 := Lib.hid (PS4.out.next hb_5)
    have PT5 := Lib.hid (PT4.out.next hb_5)
    have K5 := Lib.hid (K4.out.next hb_5)
    have I5 := Lib.hid (I4.out.next hb_5)
    have B5 := Lib.hid (B4.out.trans (hb_5.mono B4.out.size))
    clear hb_5 c0 c1 c2 c3
    have c0 := K5.out.cell 0
    have c1 := K5.out.cell 1
    have c2 := K5.out.cell 2
    have c3 := K5.out.cell 3
    simp at c0 c1 c2 c3
    go_wp2_with (fail)
    refine (H4.out _ I5.out).mono ?_
    rintro e w_6 ⟨rfl, hb_6⟩
    have PU6 := Lib.hid (PU5.out.next hb_6)
    have PS6 := Lib.hid (PS5.out.next hb_6)
    have PT6 := Lib.hid (PT5.out.next hb_6)
    have K6 := Lib.hid (K5.out.next hb_6)
    have I6 := Lib.hid (I5.out.next hb_6)
    have B6 := Lib.hid (B5.out.trans (hb_6.mono B5.out.size))
    clear hb_6 c0 c1 c2 c3
    have c0 := K6.out.cell 0
    have c1 := K6.out.cell 1
    have c2 := K6.out.cell 2
    have c3 := K6.out.cell 3
    simp at c0 c1 c2 c3
    go_wp2_with (fail)
    go_ret
    exact ⟨rfl, B6.out⟩

end Go.Proofs.Ytlcpbdbdiahmjaa

