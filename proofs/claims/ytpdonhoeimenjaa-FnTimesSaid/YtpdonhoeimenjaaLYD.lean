
import Derived.Test.YtpdonhoeimenjaaLY2
/- The walk of the law FnTimes. -/
namespace Go.Proofs.Ytpdonhoeimenjaa
open Go.RowKit
set_option maxRecDepth 100000

theorem tmod_emod {n : Int} {c d : Nat} (hd : d ∣ c) : n.tmod c % d = n % d := by
  have h : n.tmod c = n - c * n.tdiv c := by
    have := Int.mul_tdiv_add_tmod n c
    omega
  obtain ⟨k, rfl⟩ := hd
  rw [h, show n - ((d * k : Nat) : Int) * n.tdiv ((d * k : Nat) : Int) = n + (d : Int) * (-(k * n.tdiv ((d * k : Nat) : Int))) by rw [Int.natCast_mul, Int.mul_assoc, Int.mul_neg, Int.sub_eq_add_neg], Int.add_mul_emod_self_left]
set_option maxHeartbeats 16000000 in
theorem fnTimes_walk (A : Option Addr) (n c : Nat) (A' : Option Addr) (n' c' : Nat) (w : World) (hb : Byts w w.heap.size A n) (hc : n ≤ c) (hc2 : c ≤ 9223372036854775807) (_hb' : Byts w w.heap.size A' n') (_hc' : n' ≤ c') (_hc2' : c' ≤ 9223372036854775807) :
    Calls Try.prog 5 #[.slice A n c, .slice A' n' c'] w fun e w' => e = .returned (.bool true) ∧ Below w.heap.size w w' := by
  by_cases hbig : n > 1048576
  · have t0 : decide ((n : Int) > 1048576) = true := by simp; omega
    go_enter Try.func5, Try.ntmps5
    go_wp2_with (fail)
    go_ret
    exact ⟨rfl, Below.refl _ _⟩
  have hn : n ≤ 1048576 := by omega
  have t0 : decide ((n : Int) > 1048576) = false := by simp; omega
  by_cases hbig2 : n' > 1048576
  · have t0' : decide ((n' : Int) > 1048576) = true := by simp; omega
    go_enter Try.func5, Try.ntmps5
    go_wp2_with (fail)
    go_ret
    exact ⟨rfl, Below.refl _ _⟩
  have hn' : n' ≤ 1048576 := by omega
  have t0' : decide ((n' : Int) > 1048576) = false := by simp; omega
  go_enter Try.func5, Try.ntmps5
  go_wp2_with (fail)
  refine (drawTimes_any A n c w hb hn hc hc2).mono ?_
  rintro e w1 ⟨v, nn, a, rfl, hA, hnn, ha, hb1⟩
  have Hnn := Lib.hid hnn
  clear hnn
  have Ha := Lib.hid ha
  clear ha
  obtain ⟨N, O, A1, A2, q, ca, cb, X, Y, rfl, hI, hq⟩ := hA.rin
  obtain ⟨V, hV⟩ : ∃ V, w1.alloc (.cells #[.int .i64 N, .int .i64 O, .slice A1 q ca, .slice A2 q cb] 25) = V := ⟨_, rfl⟩
  have bV : Below w1.heap.size w1 V := by subst hV; exact (Below.refl _ _).alloc (Nat.le_refl _) _
  obtain ⟨bx, hbx⟩ : ∃ b, b = w1.heap.size := ⟨_, rfl⟩
  have K0 := Lib.hid (show Blk V bx 25 #[.int .i64 N, .int .i64 O, .slice A1 q ca, .slice A2 q cb] by subst hV hbx; exact Blk.new w1 _ _)
  have I0 := Lib.hid (hI.next bV)
  have B0 := Lib.hid (hb1.trans (bV.mono hb1.size))
  clear hI hb1 hA
  go_upto_region 4 with (fail)
  rw [← hbx]
  clear hV hbx bV
  by_cases hval : validB N O X Y = true ∧ inB N a = true
  · obtain ⟨v1, ia⟩ := hval
    obtain ⟨m, e, b1, o1, b2, o2, rfl, rfl, rfl, rfl, hr, _⟩ := valid_data v1 I0.out.hX I0.out.hY I0.out.hca I0.out.hcb
    have V1 := Lib.hid v1
    have R := Lib.hid (rtab_of_valid v1)
    have hm := hr.hm
    have hm' := hr.hm'
    have he := hr.he
    have HQ := Lib.hid hr.hla
    clear hr v1
    obtain ⟨A3, rfl, hA3⟩ : ∃ k : Nat, a = k ∧ k < m := by
      have := of_decide_eq_true ia
      exact ⟨a.toNat, by omega, by omega⟩
    obtain ⟨d, hd⟩ : ∃ d : Nat, ordN m (tabOf X) A3 = d := ⟨_, rfl⟩
    obtain ⟨c, hcc⟩ : ∃ c : Nat, ordN m (tabOf X) e = c := ⟨_, rfl⟩
    have hd1 : 1 ≤ d := by rw [← hd]; exact (R.out.ord hA3).1
    have hc1 : 1 ≤ c := by rw [← hcc]; exact (R.out.ord he).1
    have hcm : c ≤ m := by rw [← hcc]; exact (R.out.ord he).2.1
    have hdc : d ∣ c := by rw [← hd, ← hcc]; exact R.out.ord_char hA3
    have hcs : c ∣ m := by rw [← hcc]; exact R.out.ord_size he
    obtain ⟨kk, hkk⟩ : ∃ x : Nat, n' % 7 = x := ⟨_, rfl⟩
    have hkk' : (n' : Int) % 7 = (kk : Int) := by rw [← hkk]; simp
    have lkk : kk < 7 := by rw [← hkk]; exact Nat.mod_lt _ (by omega)
    obtain ⟨j, hj⟩ : ∃ x : Nat, cntN nn d = x := ⟨_, rfl⟩
    obtain ⟨j1, hj1⟩ : ∃ x : Nat, cntN nn c = x := ⟨_, rfl⟩
    have ej : (j : Int) = nn % d := by rw [← hj]; exact cnt_emod hd1
    have ej1 : (j1 : Int) = nn % c := by rw [← hj1]; exact cnt_emod hc1
    have mj : nn % (ordN m (tabOf X) A3 : Nat) = (j : Int) % (ordN m (tabOf X) A3 : Nat) := by rw [hd, ej, Int.emod_emod_of_dvd _ (Int.dvd_refl _)]
    have mj1 : nn % (ordN m (tabOf X) e : Nat) = (j1 : Int) % (ordN m (tabOf X) e : Nat) := by rw [hcc, ej1, Int.emod_emod_of_dvd _ (Int.dvd_refl _)]
    obtain ⟨bv, hbv⟩ : ∃ x : Nat, seqT m (tabOf X) A3 j = x := ⟨_, rfl⟩
    obtain ⟨tv, htv⟩ : ∃ x : Nat, seqT m (tabOf X) e j1 = x := ⟨_, rfl⟩
    obtain ⟨kv, hkv⟩ : ∃ x : Nat, seqT m (tabOf X) A3 kk = x := ⟨_, rfl⟩
    obtain ⟨sv, hsv⟩ : ∃ x : Nat, seqT m (tabOf X) A3 (j + kk) = x := ⟨_, rfl⟩
    have lbv : bv < m := by rw [← hbv]; exact R.out.seq_lt hA3 _
    have ltv : tv < m := by rw [← htv]; exact R.out.seq_lt he _
    have lkv : kv < m := by rw [← hkv]; exact R.out.seq_lt hA3 _
    have hmul : tabOf Y (tv * m + A3) = bv := by
      rw [← htv, R.out.seq_one hA3, ← hbv]
      refine R.out.seq_emod hA3 ?_
      rw [hd, ej, ej1, Int.emod_emod_of_dvd _ (Int.natCast_dvd_natCast.2 hdc), Int.emod_emod_of_dvd _ (Int.dvd_refl _)]
    have hadd : tabOf X (bv * m + kv) = sv := by rw [← hsv, R.out.seq_add hA3, hbv, hkv]
    obtain ⟨z1, hz1⟩ : ∃ z : Int, nn.tmod c = z := ⟨_, rfl⟩
    have bz1 : -16 < z1 ∧ z1 < 16 := by
      rw [← hz1]
      have h1 := cnt_facts (n := nn) hc1
      omega
    have ez1 : z1 % d = nn % d := by rw [← hz1]; exact tmod_emod hdc
    have m2 : (z1 + kk) % (ordN m (tabOf X) A3 : Nat) = ((j + kk : Nat) : Int) % (ordN m (tabOf X) A3 : Nat) := by
      rw [hd, Int.natCast_add, ej, Int.add_emod z1, ez1, ← Int.add_emod, Int.emod_add_emod]
    have m3 : (c : Int) % (ordN m (tabOf X) A3 : Nat) = ((0 : Nat) : Int) % (ordN m (tabOf X) A3 : Nat) := by
      rw [hd]
      have := Int.emod_eq_zero_of_dvd (Int.natCast_dvd_natCast.2 hdc)
      rw [this]
      simp
    obtain ⟨p, hp⟩ : ∃ x : Nat, cntN (-z1) d = x := ⟨_, rfl⟩
    have ep : (p : Int) = (-z1) % d := by rw [← hp]; exact cnt_emod hd1
    have m4 : (-z1) % (ordN m (tabOf X) A3 : Nat) = (p : Int) % (ordN m (tabOf X) A3 : Nat) := by rw [hd, ep, Int.emod_emod_of_dvd _ (Int.dvd_refl _)]
    obtain ⟨nb, hnb⟩ : ∃ x : Nat, seqT m (tabOf X) A3 p = x := ⟨_, rfl⟩
    have lnb : nb < m := by rw [← hnb]; exact R.out.seq_lt hA3 _
    have hneg : tabOf X (bv * m + nb) = 0 := by
      rw [← hbv, ← hnb, ← R.out.seq_add hA3]
      have h0 : seqT m (tabOf X) A3 (j + p) = seqT m (tabOf X) A3 0 := by
        refine R.out.seq_emod hA3 ?_
        rw [hd, Int.natCast_add, ej, ep, ← ez1, ← Int.add_emod, Int.add_right_neg]
        rfl
      exact h0
    have q3 : (m : Int) % c = 0 := Int.emod_eq_zero_of_dvd (Int.natCast_dvd_natCast.2 hcs)
    have q4 : (m : Int).tmod c = 0 := by rw [Int.tmod_eq_emod_of_nonneg (by omega)]; exact q3
    have n3 : ¬ c = 0 := by omega
    have H1 := Lib.hid (show ∀ u, RIn u (some ⟨b1, o1, none⟩) q ca (some ⟨b2, o2, none⟩) q cb X Y → Calls Try.prog 27 #[.agg #[.int .i64 m, .int .i64 e, .slice (some ⟨b1, o1, none⟩) q ca, .slice (some ⟨b2, o2, none⟩) q cb], .int .i64 nn, .int .i64 A3] u fun e' w' => e' = .returned (.int .i64 bv) ∧ Below u.heap.size u w' from fun u h => c_times h _ _ _ (v_times V1.out hA3 mj hbv rfl rfl))
    have S1 := Lib.hid (show ∀ u, RIn u (some ⟨b1, o1, none⟩) q ca (some ⟨b2, o2, none⟩) q cb X Y → Calls Try.prog 29 #[.agg #[.int .i64 m, .int .i64 e, .slice (some ⟨b1, o1, none⟩) q ca, .slice (some ⟨b2, o2, none⟩) q cb], .int .i64 nn, .int .i64 A3] u fun e' w' => e' = .returned (.int .i64 bv) ∧ Below u.heap.size u w' from fun u h => cs_times h _ _ _ (v_times V1.out hA3 mj hbv rfl rfl))
    have H2 := Lib.hid (show ∀ u, RIn u (some ⟨b1, o1, none⟩) q ca (some ⟨b2, o2, none⟩) q cb X Y → Calls Try.prog 19 #[.agg #[.int .i64 m, .int .i64 e, .slice (some ⟨b1, o1, none⟩) q ca, .slice (some ⟨b2, o2, none⟩) q cb]] u fun e' w' => e' = .returned (.int .i64 c) ∧ Below u.heap.size u w' from fun u h => c_char h _ (v_char V1.out hcc))
    have H3 := Lib.hid (show ∀ u, RIn u (some ⟨b1, o1, none⟩) q ca (some ⟨b2, o2, none⟩) q cb X Y → Calls Try.prog 27 #[.agg #[.int .i64 m, .int .i64 e, .slice (some ⟨b1, o1, none⟩) q ca, .slice (some ⟨b2, o2, none⟩) q cb], .int .i64 nn, .int .i64 e] u fun e' w' => e' = .returned (.int .i64 tv) ∧ Below u.heap.size u w' from fun u h => c_times h _ _ _ (v_times V1.out he mj1 htv rfl rfl))
    have H4 := Lib.hid (show ∀ u, RIn u (some ⟨b1, o1, none⟩) q ca (some ⟨b2, o2, none⟩) q cb X Y → Calls Try.prog 21 #[.agg #[.int .i64 m, .int .i64 e, .slice (some ⟨b1, o1, none⟩) q ca, .slice (some ⟨b2, o2, none⟩) q cb], .int .i64 tv, .int .i64 A3] u fun e' w' => e' = .returned (.int .i64 bv) ∧ Below u.heap.size u w' from fun u h => c_mul h _ _ _ (v_mul V1.out ltv hA3 hmul rfl rfl rfl))
    have H5 := Lib.hid (show ∀ u, RIn u (some ⟨b1, o1, none⟩) q ca (some ⟨b2, o2, none⟩) q cb X Y → Calls Try.prog 27 #[.agg #[.int .i64 m, .int .i64 e, .slice (some ⟨b1, o1, none⟩) q ca, .slice (some ⟨b2, o2, none⟩) q cb], .int .i64 kk, .int .i64 A3] u fun e' w' => e' = .returned (.int .i64 kv) ∧ Below u.heap.size u w' from fun u h => c_times h _ _ _ (v_times V1.out hA3 rfl hkv rfl rfl))
    have H6 := Lib.hid (show ∀ u, RIn u (some ⟨b1, o1, none⟩) q ca (some ⟨b2, o2, none⟩) q cb X Y → Calls Try.prog 20 #[.agg #[.int .i64 m, .int .i64 e, .slice (some ⟨b1, o1, none⟩) q ca, .slice (some ⟨b2, o2, none⟩) q cb], .int .i64 bv, .int .i64 kv] u fun e' w' => e' = .returned (.int .i64 sv) ∧ Below u.heap.size u w' from fun u h => c_add h _ _ _ (v_add V1.out lbv lkv hadd rfl rfl rfl))
    have H7 := Lib.hid (show ∀ u, RIn u (some ⟨b1, o1, none⟩) q ca (some ⟨b2, o2, none⟩) q cb X Y → Calls Try.prog 27 #[.agg #[.int .i64 m, .int .i64 e, .slice (some ⟨b1, o1, none⟩) q ca, .slice (some ⟨b2, o2, none⟩) q cb], .int .i64 (z1 + kk), .int .i64 A3] u fun e' w' => e' = .returned (.int .i64 sv) ∧ Below u.heap.size u w' from fun u h => c_times h _ _ _ (v_times V1.out hA3 m2 hsv rfl rfl))
    have H8 := Lib.hid (show ∀ u, RIn u (some ⟨b1, o1, none⟩) q ca (some ⟨b2, o2, none⟩) q cb X Y → Calls Try.prog 27 #[.agg #[.int .i64 m, .int .i64 e, .slice (some ⟨b1, o1, none⟩) q ca, .slice (some ⟨b2, o2, none⟩) q cb], .int .i64 c, .int .i64 A3] u fun e' w' => e' = .returned (.int .i64 0) ∧ Below u.heap.size u w' from fun u h => c_times h _ _ _ (v_times V1.out hA3 m3 rfl rfl rfl))
    have H9 := Lib.hid (show ∀ u, RIn u (some ⟨b1, o1, none⟩) q ca (some ⟨b2, o2, none⟩) q cb X Y → Calls Try.prog 22 #[.agg #[.int .i64 m, .int .i64 e, .slice (some ⟨b1, o1, none⟩) q ca, .slice (some ⟨b2, o2, none⟩) q cb], .int .i64 bv] u fun e' w' => e' = .returned (.int .i64 nb) ∧ Below u.heap.size u w' from fun u h => c_neg h _ _ (v_neg V1.out lbv lnb hneg rfl rfl))
    have G1 := Lib.hid (show ∀ u, RIn u (some ⟨b1, o1, none⟩) q ca (some ⟨b2, o2, none⟩) q cb X Y → Calls Try.prog 27 #[.agg #[.int .i64 m, .int .i64 e, .slice (some ⟨b1, o1, none⟩) q ca, .slice (some ⟨b2, o2, none⟩) q cb], .int .i64 (-z1), .int .i64 A3] u fun e' w' => e' = .returned (.int .i64 nb) ∧ Below u.heap.size u w' from fun u h => c_times h _ _ _ (v_times V1.out hA3 m4 hnb rfl rfl))
    clear hd hcc hdc hcs hkk hj hj1 ej ej1 mj mj1 hbv htv hkv hsv hmul hadd ez1 m2 m3 hp ep m4 hnb hneg ia
    have c0 := K0.out.cell 0
    have c1 := K0.out.cell 1
    have c2 := K0.out.cell 2
    have c3 := K0.out.cell 3
    simp at c0 c1 c2 c3
    go_wp2_with (fail)
    refine (H1.out _ I0.out).mono ?_
    rintro e w_1 ⟨rfl, hb_1⟩
    have K1 := Lib.hid (K0.out.next hb_1)
    have I1 := Lib.hid (I0.out.next hb_1)
    have B1 := Lib.hid (B0.out.trans (hb_1.mono B0.out.size))
    clear hb_1 c0 c1 c2 c3
    have c0 := K1.out.cell 0
    have c1 := K1.out.cell 1
    have c2 := K1.out.cell 2
    have c3 := K1.out.cell 3
    simp at c0 c1 c2 c3
    go_wp2_with (fail)
    refine (S1.out _ I1.out).mono ?_
    rintro e w_2 ⟨rfl, hb_2⟩
    have K2 := Lib.hid (K1.out.next hb_2)
    have I2 := Lib.hid (I1.out.next hb_2)
    have B2 := Lib.hid (B1.out.trans (hb_2.mono B1.out.size))
    clear hb_2 c0 c1 c2 c3
    have c0 := K2.out.cell 0
    have c1 := K2.out.cell 1
    have c2 := K2.out.cell 2
    have c3 := K2.out.cell 3
    simp at c0 c1 c2 c3
    go_wp2_with (fail)
    refine (H2.out _ I2.out).mono ?_
    rintro e w_3 ⟨rfl, hb_3⟩
    have K3 := Lib.hid (K2.out.next hb_3)
    have I3 := Lib.hid (I2.out.next hb_3)
    have B3 := Lib.hid (B2.out.trans (hb_3.mono B2.out.size))
    clear hb_3 c0 c1 c2 c3
    have c0 := K3.out.cell 0
    have c1 := K3.out.cell 1
    have c2 := K3.out.cell 2
    have c3 := K3.out.cell 3
    simp at c0 c1 c2 c3
    go_wp2_with (fail)
    refine wp_region_ext (by kernel_rfl) (by kernel_rfl) ?_
    repeat (go_big_quiet_step (first
      | (go_at_call 27; with_reducible refine calls_ext (H3.out _ (I3.out.ext _)))
      | (go_at_call 21; with_reducible refine calls_ext (H4.out _ (I3.out.ext _)))
      | (go_at_call 27; with_reducible refine calls_ext (H5.out _ (I3.out.ext _)))
      | (go_at_call 20; with_reducible refine calls_ext (H6.out _ (I3.out.ext _)))
      | (go_at_call 27; with_reducible refine calls_ext (H7.out _ (I3.out.ext _)))
      | (go_at_call 27; with_reducible refine calls_ext (H8.out _ (I3.out.ext _)))
      | (go_at_call 22; with_reducible refine calls_ext (H9.out _ (I3.out.ext _)))
      | (go_at_call 27; with_reducible refine calls_ext (G1.out _ (I3.out.ext _)))
      | fail))
    refine wpQuiet_nil ?_
    intro w_4 hb_4
    have K4 := Lib.hid (K3.out.next hb_4)
    have I4 := Lib.hid (I3.out.next hb_4)
    have B4 := Lib.hid (B3.out.trans (hb_4.mono B3.out.size))
    clear hb_4 c0 c1 c2 c3
    have c0 := K4.out.cell 0
    have c1 := K4.out.cell 1
    have c2 := K4.out.cell 2
    have c3 := K4.out.cell 3
    simp at c0 c1 c2 c3
    go_wp2_with (fail)
    go_ret
    exact ⟨rfl, B4.out⟩
  · have ez : timesV N O X Y nn a = -1 := timesV_no hval
    have H1 := Lib.hid (show ∀ u, RIn u A1 q ca A2 q cb X Y → Calls Try.prog 27 #[.agg #[.int .i64 N, .int .i64 O, .slice A1 q ca, .slice A2 q cb], .int .i64 nn, .int .i64 a] u fun e' w' => e' = .returned (.int .i64 (-1)) ∧ Below u.heap.size u w' from fun u h => c_times h _ _ _ ez)
    have S1 := Lib.hid (show ∀ u, RIn u A1 q ca A2 q cb X Y → Calls Try.prog 29 #[.agg #[.int .i64 N, .int .i64 O, .slice A1 q ca, .slice A2 q cb], .int .i64 nn, .int .i64 a] u fun e' w' => e' = .returned (.int .i64 (-1)) ∧ Below u.heap.size u w' from fun u h => cs_times h _ _ _ ez)
    clear hval ez
    have c0 := K0.out.cell 0
    have c1 := K0.out.cell 1
    have c2 := K0.out.cell 2
    have c3 := K0.out.cell 3
    simp at c0 c1 c2 c3
    go_wp2_with (fail)
    refine (H1.out _ I0.out).mono ?_
    rintro e w_1 ⟨rfl, hb_1⟩
    have K1 := Lib.hid (K0.out.next hb_1)
    have I1 := Lib.hid (I0.out.next hb_1)
    have B1 := Lib.hid (B0.out.trans (hb_1.mono B0.out.size))
    clear hb_1 c0 c1 c2 c3
    have c0 := K1.out.cell 0
    have c1 := K1.out.cell 1
    have c2 := K1.out.cell 2
    have c3 := K1.out.cell 3
    simp at c0 c1 c2 c3
    go_wp2_with (fail)
    refine (S1.out _ I1.out).mono ?_
    rintro e w_2 ⟨rfl, hb_2⟩
    have K2 := Lib.hid (K1.out.next hb_2)
    have I2 := Lib.hid (I1.out.next hb_2)
    have B2 := Lib.hid (B1.out.trans (hb_2.mono B1.out.size))
    clear hb_2 c0 c1 c2 c3
    have c0 := K2.out.cell 0
    have c1 := K2.out.cell 1
    have c2 := K2.out.cell 2
    have c3 := K2.out.cell 3
    simp at c0 c1 c2 c3
    go_wp2_with (fail)
    refine (S1.out _ I2.out).mono ?_
    rintro e w_3 ⟨rfl, hb_3⟩
    have K3 := Lib.hid (K2.out.next hb_3)
    have I3 := Lib.hid (I2.out.next hb_3)
    have B3 := Lib.hid (B2.out.trans (hb_3.mono B2.out.size))
    clear hb_3 c0 c1 c2 c3
    have c0 := K3.out.cell 0
    have c1 := K3.out.cell 1
    have c2 := K3.out.cell 2
    have c3 := K3.out.cell 3
    simp at c0 c1 c2 c3
    go_wp2_with (fail)
    go_ret
    exact ⟨rfl, B3.out⟩

end Go.Proofs.Ytpdonhoeimenjaa
