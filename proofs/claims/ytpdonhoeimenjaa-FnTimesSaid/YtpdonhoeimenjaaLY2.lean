
import Derived.Test.YtpdonhoeimenjaaMB
import Derived.Test.YtpdonhoeimenjaaMF
/- The walk of the law FnRingValid. -/
namespace Go.Proofs.Ytpdonhoeimenjaa
open Go.RowKit
set_option maxRecDepth 100000

theorem AnyR.rin {D : Nat} {w : World} {v : Value} (h : AnyR D w v) : ∃ (n o : Int) (A B : Option Addr) (q ca cb : Nat) (X Y : List Int), v = .agg #[.int .i64 n, .int .i64 o, .slice A q ca, .slice B q cb] ∧ RIn w A q ca B q cb X Y ∧ q ≤ 256 := by
  obtain ⟨n, o, A, B, q, ca, cb, X, Y, e, h1, h2, h3, h4, h5, h6⟩ := h.data
  exact ⟨n, o, A, B, q, ca, cb, X, Y, e, ⟨h1.ints, h2.ints, by omega, by omega, h5, h6⟩, h4⟩
theorem RIn.ext {A B : Option Addr} {la ca lb cb : Nat} {X Y : List Int} {w : World} (h : RIn w A la ca B lb cb X Y) (u : Ext w) : RIn (ext w u) A la ca B lb cb X Y := h.next (ext_below w u)
theorem c_format {n o : Int} {A B : Option Addr} {la ca lb cb : Nat} {X Y : List Int} {w : World} (h : RIn w A la ca B lb cb X Y) (z : ByteArray) (hz : fmtV n o X Y = z) : Calls Try.prog 18 #[.agg #[.int .i64 n, .int .i64 o, .slice A la ca, .slice B lb cb]] w fun e' w' => e' = .returned (.string z) ∧ Below w.heap.size w w' := by
  subst hz
  exact format_any n o A B la ca lb cb X Y w h.hX h.hY h.hla h.hlb h.hca h.hcb

set_option maxHeartbeats 16000000 in
theorem fnRingValid_walk (A : Option Addr) (n c : Nat) (w : World) (hb : Byts w w.heap.size A n) (hc : n ≤ c) (hc2 : c ≤ 9223372036854775807) :
    Calls Try.prog 3 #[.slice A n c] w fun e w' => e = .returned (.bool true) ∧ Below w.heap.size w w' := by
  by_cases hbig : n > 1048576
  · have t0 : decide ((n : Int) > 1048576) = true := by simp; omega
    go_enter Try.func3, Try.ntmps3
    go_wp2_with (fail)
    go_ret
    exact ⟨rfl, Below.refl _ _⟩
  have hn : n ≤ 1048576 := by omega
  have t0 : decide ((n : Int) > 1048576) = false := by simp; omega
  go_enter Try.func3, Try.ntmps3
  go_wp2_with (fail)
  refine (drawRingValid_any A n c w hb hn hc hc2).mono ?_
  rintro e w1 ⟨v, rfl, hA, hb1⟩
  obtain ⟨N, O, A1, A2, q, ca, cb, X, Y, rfl, hI, hq⟩ := hA.rin
  obtain ⟨V, hV⟩ : ∃ V, w1.alloc (.cells #[.int .i64 N, .int .i64 O, .slice A1 q ca, .slice A2 q cb] 25) = V := ⟨_, rfl⟩
  have bV : Below w1.heap.size w1 V := by subst hV; exact (Below.refl _ _).alloc (Nat.le_refl _) _
  obtain ⟨bx, hbx⟩ : ∃ b, b = w1.heap.size := ⟨_, rfl⟩
  have KV := Lib.hid (show Blk V bx 25 #[.int .i64 N, .int .i64 O, .slice A1 q ca, .slice A2 q cb] by subst hV hbx; exact Blk.new w1 _ _)
  have IV := Lib.hid (hI.next bV)
  have BV := Lib.hid (hb1.trans (bV.mono hb1.size))
  clear hI hb1 hA
  go_upto_region 4 with (fail)
  rw [← hbx]
  clear hV hbx bV
  cases v1 : validB N O X Y
  · have V1 := Lib.hid v1
    have F0 := Lib.hid (fmtV_no (n := N) (o := O) (X := X) (Y := Y) (by rw [v1]; simp))
    have C0 := Lib.hid (charV_no (n := N) (o := O) (X := X) (Y := Y) (by rw [v1]; simp))
    clear v1
    have c0 := KV.out.cell 0
    have c1 := KV.out.cell 1
    have c2 := KV.out.cell 2
    have c3 := KV.out.cell 3
    simp at c0 c1 c2 c3
    go_wp2_with (fail)
    refine (c_valid IV.out _ V1.out).mono ?_
    rintro e w2 ⟨rfl, hb2⟩
    have K2 := Lib.hid (KV.out.next hb2)
    have I2 := Lib.hid (IV.out.next hb2)
    have B2 := Lib.hid (BV.out.trans (hb2.mono BV.out.size))
    clear hb2 c0 c1 c2 c3
    have c0 := K2.out.cell 0
    have c1 := K2.out.cell 1
    have c2 := K2.out.cell 2
    have c3 := K2.out.cell 3
    simp at c0 c1 c2 c3
    go_wp2_with (fail)
    refine (cs_valid I2.out _ V1.out).mono ?_
    rintro e w3 ⟨rfl, hb3⟩
    have K3 := Lib.hid (K2.out.next hb3)
    have I3 := Lib.hid (I2.out.next hb3)
    have B3 := Lib.hid (B2.out.trans (hb3.mono B2.out.size))
    clear hb3 c0 c1 c2 c3
    have c0 := K3.out.cell 0
    have c1 := K3.out.cell 1
    have c2 := K3.out.cell 2
    have c3 := K3.out.cell 3
    simp at c0 c1 c2 c3
    go_wp2_with (fail)
    refine (cs_valid I3.out _ V1.out).mono ?_
    rintro e w4 ⟨rfl, hb4⟩
    have K4 := Lib.hid (K3.out.next hb4)
    have I4 := Lib.hid (I3.out.next hb4)
    have B4 := Lib.hid (B3.out.trans (hb4.mono B3.out.size))
    clear hb4 c0 c1 c2 c3
    have c0 := K4.out.cell 0
    have c1 := K4.out.cell 1
    have c2 := K4.out.cell 2
    have c3 := K4.out.cell 3
    simp at c0 c1 c2 c3
    go_wp2_with (fail)
    refine (c_format I4.out _ F0.out).mono ?_
    rintro e w5 ⟨rfl, hb5⟩
    have K5 := Lib.hid (K4.out.next hb5)
    have I5 := Lib.hid (I4.out.next hb5)
    have B5 := Lib.hid (B4.out.trans (hb5.mono B4.out.size))
    clear hb5 c0 c1 c2 c3
    have c0 := K5.out.cell 0
    have c1 := K5.out.cell 1
    have c2 := K5.out.cell 2
    have c3 := K5.out.cell 3
    simp at c0 c1 c2 c3
    go_wp2_with (fail)
    refine (c_char I5.out _ C0.out).mono ?_
    rintro e w6 ⟨rfl, hb6⟩
    have K6 := Lib.hid (K5.out.next hb6)
    have I6 := Lib.hid (I5.out.next hb6)
    have B6 := Lib.hid (B5.out.trans (hb6.mono B5.out.size))
    clear hb6 c0 c1 c2 c3
    have c0 := K6.out.cell 0
    have c1 := K6.out.cell 1
    have c2 := K6.out.cell 2
    have c3 := K6.out.cell 3
    simp at c0 c1 c2 c3
    go_wp2_with (fail)
    go_ret
    exact ⟨rfl, B6.out⟩
  · have V1 := Lib.hid v1
    obtain ⟨m, e, b1, o1, b2, o2, rfl, rfl, rfl, rfl, hr, _⟩ := valid_data v1 IV.out.hX IV.out.hY IV.out.hca IV.out.hcb
    have R := Lib.hid (rtab_of_valid v1)
    have hm := hr.hm
    have hm' := hr.hm'
    have he := hr.he
    have HQ := Lib.hid hr.hla
    have HR := Lib.hid hr
    clear hr v1
    obtain ⟨s1, s2, s3, s4⟩ := sqI hm'
    have S3 := Lib.hid s3
    clear s3
    have c0 := KV.out.cell 0
    have c1 := KV.out.cell 1
    have c2 := KV.out.cell 2
    have c3 := KV.out.cell 3
    simp at c0 c1 c2 c3
    go_wp2_with (fail)
    refine (c_valid IV.out _ V1.out).mono ?_
    rintro e w2 ⟨rfl, hb2⟩
    have K2 := Lib.hid (KV.out.next hb2)
    have I2 := Lib.hid (IV.out.next hb2)
    have B2 := Lib.hid (BV.out.trans (hb2.mono BV.out.size))
    clear hb2 c0 c1 c2 c3
    have c0 := K2.out.cell 0
    have c1 := K2.out.cell 1
    have c2 := K2.out.cell 2
    have c3 := K2.out.cell 3
    simp at c0 c1 c2 c3
    go_wp2_with (fail)
    refine (cs_valid I2.out _ V1.out).mono ?_
    rintro e w3 ⟨rfl, hb3⟩
    have K3 := Lib.hid (K2.out.next hb3)
    have I3 := Lib.hid (I2.out.next hb3)
    have B3 := Lib.hid (B2.out.trans (hb3.mono B2.out.size))
    clear hb3 c0 c1 c2 c3
    have c0 := K3.out.cell 0
    have c1 := K3.out.cell 1
    have c2 := K3.out.cell 2
    have c3 := K3.out.cell 3
    simp at c0 c1 c2 c3
    go_wp2_with (fail)
    go_loopw [45] (fun i wr => ∃ k : Nat, k ≤ m * m ∧ i = .int .i64 k ∧ Below w3.heap.size w3 wr) (fun i _ => m * m - (intOf i).toNat)
    case atStart => exact ⟨0, Nat.zero_le _, rfl, Below.refl _ _⟩
    case round =>
      obtain ⟨k, hk, rfl, hbr⟩ := hrel
      have KR := Lib.hid (K3.out.next hbr)
      have IR := Lib.hid (I3.out.next hbr)
      have BR := Lib.hid (B3.out.trans (hbr.mono B3.out.size))
      have BQ := Lib.hid hbr
      clear hbr c0 c1 c2 c3
      by_cases hlt : k < m * m
      · have i1 : (k : Int) < (m : Int) * m := by rw [S3.out]; omega
        have hkq : k < q := by rw [HQ.out]; exact hlt
        have n3 : ¬ m = 0 := by omega
        obtain ⟨p1, p2⟩ := parts2 hlt
        have hkk : k = k / m * m + k % m := by rw [Nat.mul_comm, Nat.div_add_mod]
        have HP := Lib.hid (show ∀ u, RIn u (some ⟨b1, o1, none⟩) q ca (some ⟨b2, o2, none⟩) q cb X Y → u.cell? ⟨b2, o2 + k, none⟩ = some (.int .i64 (tabOf Y k : Nat)) from fun u h => by
          obtain ⟨_, _, _, _, _, _, e1, e2, e3, e4, hr', _⟩ := valid_data V1.out h.hX h.hY h.hca h.hcb
          have e1' := Int.ofNat.inj e1
          injection e3 with e3
          injection e3 with e3 e3'
          injection e4 with e4
          injection e4 with e4 e4'
          subst e1' e4 e4'
          exact (hr'.tp.2 k hlt).1)
        obtain ⟨A, eA⟩ : ∃ A : Nat, A = k / m := ⟨_, rfl⟩
        obtain ⟨B, eB⟩ : ∃ B : Nat, B = k % m := ⟨_, rfl⟩
        have f1 : (k : Int) / m = (A : Int) := by rw [eA]; simp
        have f2 : (k : Int) % m = (B : Int) := by rw [eB]; simp
        rw [← eA] at p1 hkk
        rw [← eB] at p2 hkk
        obtain ⟨sv, hsv⟩ : ∃ s : Nat, tabOf X (A * m + B) = s := ⟨_, rfl⟩
        obtain ⟨pv, hpv⟩ : ∃ s : Nat, tabOf Y (A * m + B) = s := ⟨_, rfl⟩
        obtain ⟨ng, hng, _, hng0⟩ := R.out.negEx p1
        obtain ⟨nb, hnb, _, hnb0⟩ := R.out.negEx p2
        obtain ⟨pn, hpn⟩ : ∃ s : Nat, tabOf Y (A * m + nb) = s := ⟨_, rfl⟩
        have hpv' : pv < m := by rw [← hpv]; exact R.out.pc p1 p2
        have hpn' : pn < m := by rw [← hpn]; exact R.out.pc p1 hnb
        have hz0 : tabOf Y (A * m + 0) = 0 := congrArg Fin.val (R.out.M0 ⟨A, p1⟩)
        have HPv := Lib.hid (show tabOf Y k = pv by rw [hkk]; exact hpv)
        rw [HPv.out] at HP
        have H1 := Lib.hid (show ∀ u, RIn u (some ⟨b1, o1, none⟩) q ca (some ⟨b2, o2, none⟩) q cb X Y → Calls Try.prog 20 #[.agg #[.int .i64 m, .int .i64 e, .slice (some ⟨b1, o1, none⟩) q ca, .slice (some ⟨b2, o2, none⟩) q cb], .int .i64 A, .int .i64 B] u fun e' w' => e' = .returned (.int .i64 sv) ∧ Below u.heap.size u w' from fun u h => c_add h _ _ _ (v_add V1.out p1 p2 hsv rfl rfl rfl))
        have H2 := Lib.hid (show ∀ u, RIn u (some ⟨b1, o1, none⟩) q ca (some ⟨b2, o2, none⟩) q cb X Y → Calls Try.prog 20 #[.agg #[.int .i64 m, .int .i64 e, .slice (some ⟨b1, o1, none⟩) q ca, .slice (some ⟨b2, o2, none⟩) q cb], .int .i64 B, .int .i64 A] u fun e' w' => e' = .returned (.int .i64 sv) ∧ Below u.heap.size u w' from fun u h => c_add h _ _ _ (v_add V1.out p2 p1 (by rw [← hsv]; exact R.out.s.comm p2 p1) rfl rfl rfl))
        have H3 := Lib.hid (show ∀ u, RIn u (some ⟨b1, o1, none⟩) q ca (some ⟨b2, o2, none⟩) q cb X Y → Calls Try.prog 21 #[.agg #[.int .i64 m, .int .i64 e, .slice (some ⟨b1, o1, none⟩) q ca, .slice (some ⟨b2, o2, none⟩) q cb], .int .i64 A, .int .i64 B] u fun e' w' => e' = .returned (.int .i64 pv) ∧ Below u.heap.size u w' from fun u h => c_mul h _ _ _ (v_mul V1.out p1 p2 hpv rfl rfl rfl))
        have H4 := Lib.hid (show ∀ u, RIn u (some ⟨b1, o1, none⟩) q ca (some ⟨b2, o2, none⟩) q cb X Y → Calls Try.prog 22 #[.agg #[.int .i64 m, .int .i64 e, .slice (some ⟨b1, o1, none⟩) q ca, .slice (some ⟨b2, o2, none⟩) q cb], .int .i64 A] u fun e' w' => e' = .returned (.int .i64 ng) ∧ Below u.heap.size u w' from fun u h => c_neg h _ _ (v_neg V1.out p1 hng hng0 rfl rfl))
        have H5 := Lib.hid (show ∀ u, RIn u (some ⟨b1, o1, none⟩) q ca (some ⟨b2, o2, none⟩) q cb X Y → Calls Try.prog 20 #[.agg #[.int .i64 m, .int .i64 e, .slice (some ⟨b1, o1, none⟩) q ca, .slice (some ⟨b2, o2, none⟩) q cb], .int .i64 A, .int .i64 ng] u fun e' w' => e' = .returned (.int .i64 0) ∧ Below u.heap.size u w' from fun u h => c_add h _ _ _ (v_add V1.out p1 hng hng0 rfl rfl rfl))
        have H6 := Lib.hid (show ∀ u, RIn u (some ⟨b1, o1, none⟩) q ca (some ⟨b2, o2, none⟩) q cb X Y → Calls Try.prog 21 #[.agg #[.int .i64 m, .int .i64 e, .slice (some ⟨b1, o1, none⟩) q ca, .slice (some ⟨b2, o2, none⟩) q cb], .int .i64 A, .int .i64 0] u fun e' w' => e' = .returned (.int .i64 0) ∧ Below u.heap.size u w' from fun u h => c_mul h _ _ _ (v_mul V1.out p1 hm hz0 rfl rfl rfl))
        have H7 := Lib.hid (show ∀ u, RIn u (some ⟨b1, o1, none⟩) q ca (some ⟨b2, o2, none⟩) q cb X Y → Calls Try.prog 22 #[.agg #[.int .i64 m, .int .i64 e, .slice (some ⟨b1, o1, none⟩) q ca, .slice (some ⟨b2, o2, none⟩) q cb], .int .i64 B] u fun e' w' => e' = .returned (.int .i64 nb) ∧ Below u.heap.size u w' from fun u h => c_neg h _ _ (v_neg V1.out p2 hnb hnb0 rfl rfl))
        have H8 := Lib.hid (show ∀ u, RIn u (some ⟨b1, o1, none⟩) q ca (some ⟨b2, o2, none⟩) q cb X Y → Calls Try.prog 21 #[.agg #[.int .i64 m, .int .i64 e, .slice (some ⟨b1, o1, none⟩) q ca, .slice (some ⟨b2, o2, none⟩) q cb], .int .i64 A, .int .i64 nb] u fun e' w' => e' = .returned (.int .i64 pn) ∧ Below u.heap.size u w' from fun u h => c_mul h _ _ _ (v_mul V1.out p1 hnb hpn rfl rfl rfl))
        have H9 := Lib.hid (show ∀ u, RIn u (some ⟨b1, o1, none⟩) q ca (some ⟨b2, o2, none⟩) q cb X Y → Calls Try.prog 22 #[.agg #[.int .i64 m, .int .i64 e, .slice (some ⟨b1, o1, none⟩) q ca, .slice (some ⟨b2, o2, none⟩) q cb], .int .i64 pv] u fun e' w' => e' = .returned (.int .i64 pn) ∧ Below u.heap.size u w' from fun u h => c_neg h _ _ (v_neg V1.out hpv' hpn' (by rw [← hpv, ← hpn]; exact R.out.mul_neg p1 p2 hnb hnb0) rfl rfl))
        clear eA eB hsv hpv hpn hkk hng0 hnb0 hz0
        have c0 := KR.out.cell 0
        simp at c0
        go_wp2
        go_quiet (fail)
        obtain ⟨wa, hwa⟩ : ∃ wa, wr.drewN nq = wa := ⟨_, rfl⟩
        have bd : Below wr.heap.size wr wa := by rw [← hwa]; exact below_drewN (Below.refl _ _) _
        have KA := Lib.hid (KR.out.next bd)
        have IA := Lib.hid (IR.out.next bd)
        have BA := Lib.hid (BQ.out.trans (bd.mono BQ.out.size))
        rw [hwa]
        clear hwa bd c0
        have c0 := KA.out.cell 0
        have c1 := KA.out.cell 1
        have c2 := KA.out.cell 2
        have c3 := KA.out.cell 3
        simp at c0 c1 c2 c3
        have HPA := HP.out _ IA.out
        go_wp2_with (fail)
        refine wp_region_ext (by kernel_rfl) (by kernel_rfl) ?_
        repeat (go_big_quiet_step (first
          | (go_at_call 20; with_reducible refine calls_ext (H1.out _ (IA.out.ext _)))
          | (go_at_call 20; with_reducible refine calls_ext (H2.out _ (IA.out.ext _)))
          | (go_at_call 21; with_reducible refine calls_ext (H3.out _ (IA.out.ext _)))
          | (go_at_call 22; with_reducible refine calls_ext (H4.out _ (IA.out.ext _)))
          | (go_at_call 20; with_reducible refine calls_ext (H5.out _ (IA.out.ext _)))
          | (go_at_call 21; with_reducible refine calls_ext (H6.out _ (IA.out.ext _)))
          | (go_at_call 22; with_reducible refine calls_ext (H7.out _ (IA.out.ext _)))
          | (go_at_call 21; with_reducible refine calls_ext (H8.out _ (IA.out.ext _)))
          | (go_at_call 22; with_reducible refine calls_ext (H9.out _ (IA.out.ext _)))
          | fail))
        refine wpQuiet_nil ?_
        intro w5 hb5
        have B5 := Lib.hid (BA.out.trans (hb5.mono BA.out.size))
        clear hb5 c0 c1 c2 c3 HPA
        go_wp2
        go_roundw
        case rel => exact ⟨k + 1, by omega, by go_num, B5.out⟩
        case measure => simp [intOf]; omega
      · have i1 : ¬ (k : Int) < (m : Int) * m := by rw [S3.out]; omega
        have HE := Lib.hid (show ∀ u, RIn u (some ⟨b1, o1, none⟩) q ca (some ⟨b2, o2, none⟩) q cb X Y → Calls Try.prog 21 #[.agg #[.int .i64 m, .int .i64 e, .slice (some ⟨b1, o1, none⟩) q ca, .slice (some ⟨b2, o2, none⟩) q cb], .int .i64 e, .int .i64 e] u fun e' w' => e' = .returned (.int .i64 e) ∧ Below u.heap.size u w' from fun u h => c_mul h _ _ _ (v_mul V1.out he he (R.out.p.zero he) rfl rfl rfl))
        have H1 := R.out.one_zero
        have c0 := KR.out.cell 0
        have c1 := KR.out.cell 1
        have c2 := KR.out.cell 2
        have c3 := KR.out.cell 3
        simp at c0 c1 c2 c3
        by_cases hm1 : m = 1
        · have he0 := H1.1 hm1
          have t1 : ((m : Int) == 1) = true := by simp; omega
          have t2 : ((e : Int) == 0) = true := by simp; omega
          have HM1 := Lib.hid hm1
          have HE0 := Lib.hid he0
          clear hm1 he0 H1
          go_wp2_with (fail)
          refine wp_region_ext (by kernel_rfl) (by kernel_rfl) ?_
          repeat (go_big_quiet_step (first | (go_at_call 21; with_reducible refine calls_ext (HE.out _ (IR.out.ext _)))))
          refine wpQuiet_nil ?_
          intro w6 hb6
          have B6 := Lib.hid (BR.out.trans (hb6.mono BR.out.size))
          clear hb6
          go_wp2
          go_ret
          exact ⟨rfl, B6.out⟩
        · have he0 : ¬ e = 0 := fun h => hm1 (H1.2 h)
          have t1 : ((m : Int) == 1) = false := by simp; omega
          have t2 : ((e : Int) == 0) = false := by simp; omega
          clear H1
          go_wp2_with (fail)
          refine wp_region_ext (by kernel_rfl) (by kernel_rfl) ?_
          repeat (go_big_quiet_step (first | (go_at_call 21; with_reducible refine calls_ext (HE.out _ (IR.out.ext _)))))
          refine wpQuiet_nil ?_
          intro w6 hb6
          have B6 := Lib.hid (BR.out.trans (hb6.mono BR.out.size))
          clear hb6
          go_wp2
          go_ret
          exact ⟨rfl, B6.out⟩

end Go.Proofs.Ytpdonhoeimenjaa
