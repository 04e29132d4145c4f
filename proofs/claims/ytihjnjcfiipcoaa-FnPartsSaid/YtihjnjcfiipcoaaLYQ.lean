
import Derived.Test.YtihjnjcfiipcoaaMK
/- The walk of the law FnParts. -/
namespace Go.Proofs.Ytihjnjcfiipcoaa
open Go.RowKit
set_option maxRecDepth 100000

set_option maxHeartbeats 16000000 in
theorem fnParts_walk (A : Option Addr) (n c : Nat) (A' : Option Addr) (n' c' : Nat) (w : World) (hb : Byts w w.heap.size A n) (hc : n ≤ c) (hc2 : c ≤ 9223372036854775807) (hb' : Byts w w.heap.size A' n') (hc' : n' ≤ c') (hc2' : c' ≤ 9223372036854775807) :
    Calls Try.prog 6 #[.slice A n c, .slice A' n' c'] w fun e w' => e = .returned (.bool true) ∧ Below w.heap.size w w' := by
  by_cases hbig : n > 1048576
  · have t0 : decide ((n : Int) > 1048576) = true := by simp; omega
    go_enter Try.func6, Try.ntmps6
    go_wp2_with (fail)
    go_ret
    exact ⟨rfl, Below.refl _ _⟩
  have hn : n ≤ 1048576 := by omega
  have t0 : decide ((n : Int) > 1048576) = false := by simp; omega
  by_cases hbig2 : n' > 1048576
  · have t0' : decide ((n' : Int) > 1048576) = true := by simp; omega
    go_enter Try.func6, Try.ntmps6
    go_wp2_with (fail)
    go_ret
    exact ⟨rfl, Below.refl _ _⟩
  have hn' : n' ≤ 1048576 := by omega
  have t0' : decide ((n' : Int) > 1048576) = false := by simp; omega
  go_enter Try.func6, Try.ntmps6
  go_wp2_with (fail)
  refine (drawPartOf_any A n c w hb hn hc hc2).mono ?_
  rintro e w_0 ⟨v, v', zz, a, rfl, ⟨z, rfl⟩, _, hA, hB, hb_0⟩
  obtain ⟨n1, o1, A1, B1, q1, ca1, cb1, X1, Y1, rfl, hI, _, _⟩ := hA.rin
  obtain ⟨n2, o2, A2, B2, q2, ca2, cb2, X2, Y2, rfl, hJ, _, _⟩ := hB.rin
  clear hA hB
  have B0 := Lib.hid (hb_0)
  clear hb_0
  obtain ⟨w_1, hV⟩ : ∃ V, (World.alloc w_0 (.cells #[.int .i64 n1, .int .i64 o1, .slice A1 q1 ca1, .slice B1 q1 cb1] 25)).alloc (.cells #[.int .i64 n2, .int .i64 o2, .slice A2 q2 ca2, .slice B2 q2 cb2] 25) = V := ⟨_, rfl⟩
  have hb_1 : Below (World.heap w_0).size w_0 w_1 := by subst hV; exact ((Below.refl _ _).alloc (Nat.le_refl _) _).alloc (by simp) _
  have kX : Blk w_1 (World.heap w_0).size 25 #[.int .i64 n1, .int .i64 o1, .slice A1 q1 ca1, .slice B1 q1 cb1] := by subst hV; exact (Blk.new w_0 _ _).alloc _
  have kZ : Blk w_1 ((World.heap w_0).size + 1) 25 #[.int .i64 n2, .int .i64 o2, .slice A2 q2 ca2, .slice B2 q2 cb2] := by
    subst hV
    have := Blk.new (World.alloc w_0 (.cells #[.int .i64 n1, .int .i64 o1, .slice A1 q1 ca1, .slice B1 q1 cb1] 25)) 25 #[.int .i64 n2, .int .i64 o2, .slice A2 q2 ca2, .slice B2 q2 cb2]
    rw [World.size_alloc] at this
    exact this
  obtain ⟨bS, hbz⟩ : ∃ b, b = (World.heap w_0).size + 1 := ⟨_, rfl⟩
  obtain ⟨bR, hbx⟩ : ∃ b, b = (World.heap w_0).size := ⟨_, rfl⟩
  rw [← hbz] at kZ
  rw [← hbx] at kX
  have KR1 := Lib.hid kX
  have KS1 := Lib.hid kZ
  clear kX kZ
  have B1 := Lib.hid (B0.out.trans (hb_1.mono B0.out.size))
  have IR1 := Lib.hid (hI.next hb_1)
  have IS1 := Lib.hid (hJ.next hb_1)
  clear hb_1 hI hJ
  go_upto_region 4 with (fail)
  rw [← hbz, ← hbx]
  clear hV hbx hbz
  obtain ⟨x, hx⟩ : ∃ x, partV n1 o1 X1 Y1 n2 o2 X2 Y2 a z = x := ⟨_, rfl⟩
  have cR0 := KR1.out.cell 0
  have cR1 := KR1.out.cell 1
  have cR2 := KR1.out.cell 2
  have cR3 := KR1.out.cell 3
  have cS0 := KS1.out.cell 0
  have cS1 := KS1.out.cell 1
  have cS2 := KS1.out.cell 2
  have cS3 := KS1.out.cell 3
  simp at cR0 cR1 cR2 cR3 cS0 cS1 cS2 cS3
  go_wp2_with (fail)
  refine (c_part IR1.out IS1.out a z hx).mono ?_
  rintro e w_2 ⟨rfl, hb_2⟩
  clear cR0 cR1 cR2 cR3 cS0 cS1 cS2 cS3
  have B2 := Lib.hid (B1.out.trans (hb_2.mono B1.out.size))
  have KR2 := Lib.hid (KR1.out.next hb_2)
  have KS2 := Lib.hid (KS1.out.next hb_2)
  have IR2 := Lib.hid (IR1.out.next hb_2)
  have IS2 := Lib.hid (IS1.out.next hb_2)
  clear hb_2
  have tx : (x == x) = true := by simp
  have tn : (x != x) = false := by simp
  have ta : (a == a) = true := by simp
  by_cases hneg : x < 0
  · have t1 : decide (x < 0) = true := by simp; omega
    have cR0 := KR2.out.cell 0
    have cR1 := KR2.out.cell 1
    have cR2 := KR2.out.cell 2
    have cR3 := KR2.out.cell 3
    have cS0 := KS2.out.cell 0
    have cS1 := KS2.out.cell 1
    have cS2 := KS2.out.cell 2
    have cS3 := KS2.out.cell 3
    simp at cR0 cR1 cR2 cR3 cS0 cS1 cS2 cS3
    go_wp2_with (fail)
    refine (cs_part IR2.out IS2.out a z hx).mono ?_
    rintro e w_3 ⟨rfl, hb_3⟩
    clear cR0 cR1 cR2 cR3 cS0 cS1 cS2 cS3
    have B3 := Lib.hid (B2.out.trans (hb_3.mono B2.out.size))
    have KR3 := Lib.hid (KR2.out.next hb_3)
    have KS3 := Lib.hid (KS2.out.next hb_3)
    have IR3 := Lib.hid (IR2.out.next hb_3)
    have IS3 := Lib.hid (IS2.out.next hb_3)
    clear hb_3
    have cR0 := KR3.out.cell 0
    have cR1 := KR3.out.cell 1
    have cR2 := KR3.out.cell 2
    have cR3 := KR3.out.cell 3
    have cS0 := KS3.out.cell 0
    have cS1 := KS3.out.cell 1
    have cS2 := KS3.out.cell 2
    have cS3 := KS3.out.cell 3
    simp at cR0 cR1 cR2 cR3 cS0 cS1 cS2 cS3
    go_wp2_with (fail)
    refine (cs_part IR3.out IS3.out a z hx).mono ?_
    rintro e w_4 ⟨rfl, hb_4⟩
    clear cR0 cR1 cR2 cR3 cS0 cS1 cS2 cS3
    have B4 := Lib.hid (B3.out.trans (hb_4.mono B3.out.size))
    have KR4 := Lib.hid (KR3.out.next hb_4)
    have KS4 := Lib.hid (KS3.out.next hb_4)
    have IR4 := Lib.hid (IR3.out.next hb_4)
    have IS4 := Lib.hid (IS3.out.next hb_4)
    clear hb_4
    go_wp2_with (fail)
    go_ret
    exact ⟨rfl, B4.out⟩
  · have t1 : decide (x < 0) = false := by simp; omega
    have hback := part_back (show 0 ≤ partV n1 o1 X1 Y1 n2 o2 X2 Y2 a z by rw [hx]; omega)
    have cR0 := KR2.out.cell 0
    have cR1 := KR2.out.cell 1
    have cR2 := KR2.out.cell 2
    have cR3 := KR2.out.cell 3
    have cS0 := KS2.out.cell 0
    have cS1 := KS2.out.cell 1
    have cS2 := KS2.out.cell 2
    have cS3 := KS2.out.cell 3
    simp at cR0 cR1 cR2 cR3 cS0 cS1 cS2 cS3
    go_wp2_with (fail)
    refine (cs_part IR2.out IS2.out a z hx).mono ?_
    rintro e w_3 ⟨rfl, hb_3⟩
    clear cR0 cR1 cR2 cR3 cS0 cS1 cS2 cS3
    have B3 := Lib.hid (B2.out.trans (hb_3.mono B2.out.size))
    have KR3 := Lib.hid (KR2.out.next hb_3)
    have KS3 := Lib.hid (KS2.out.next hb_3)
    have IR3 := Lib.hid (IR2.out.next hb_3)
    have IS3 := Lib.hid (IS2.out.next hb_3)
    clear hb_3
    cases z
    · obtain ⟨y, hy⟩ : ∃ y, partV n1 o1 X1 Y1 n2 o2 X2 Y2 a true = y := ⟨_, rfl⟩
      rw [hx, hy] at hback
      have HB2 := Lib.hid hback
      clear hback
      have cR0 := KR3.out.cell 0
      have cR1 := KR3.out.cell 1
      have cR2 := KR3.out.cell 2
      have cR3 := KR3.out.cell 3
      have cS0 := KS3.out.cell 0
      have cS1 := KS3.out.cell 1
      have cS2 := KS3.out.cell 2
      have cS3 := KS3.out.cell 3
      simp at cR0 cR1 cR2 cR3 cS0 cS1 cS2 cS3
      go_wp2_with (fail)
      refine (c_part IR3.out IS3.out a true hy).mono ?_
      rintro e w_4 ⟨rfl, hb_4⟩
      clear cR0 cR1 cR2 cR3 cS0 cS1 cS2 cS3
      have B4 := Lib.hid (B3.out.trans (hb_4.mono B3.out.size))
      have KR4 := Lib.hid (KR3.out.next hb_4)
      have KS4 := Lib.hid (KS3.out.next hb_4)
      have IR4 := Lib.hid (IR3.out.next hb_4)
      have IS4 := Lib.hid (IS3.out.next hb_4)
      clear hb_4
      have cR0 := KR4.out.cell 0
      have cR1 := KR4.out.cell 1
      have cR2 := KR4.out.cell 2
      have cR3 := KR4.out.cell 3
      have cS0 := KS4.out.cell 0
      have cS1 := KS4.out.cell 1
      have cS2 := KS4.out.cell 2
      have cS3 := KS4.out.cell 3
      simp at cR0 cR1 cR2 cR3 cS0 cS1 cS2 cS3
      go_wp2_with (fail)
      refine (c_pair IR4.out IS4.out x y HB2.out).mono ?_
      rintro e w_5 ⟨rfl, hb_5⟩
      clear cR0 cR1 cR2 cR3 cS0 cS1 cS2 cS3
      have B5 := Lib.hid (B4.out.trans (hb_5.mono B4.out.size))
      have KR5 := Lib.hid (KR4.out.next hb_5)
      have KS5 := Lib.hid (KS4.out.next hb_5)
      have IR5 := Lib.hid (IR4.out.next hb_5)
      have IS5 := Lib.hid (IS4.out.next hb_5)
      clear hb_5
      go_wp2_with (fail)
      refine (drawPairOf_any A' n' c' w_5 (hb'.grow B5.out) hn' hc' hc2').mono ?_
      rintro e w_6 ⟨v, v', b, d, rfl, _, _, hA, hB, hb_6⟩
      obtain ⟨n3, o3, A3, B3, q3, ca3, cb3, X3, Y3, rfl, hI, _, _⟩ := hA.rin
      obtain ⟨n4, o4, A4, B4, q4, ca4, cb4, X4, Y4, rfl, hJ, _, _⟩ := hB.rin
      clear hA hB
      have B6 := Lib.hid (B5.out.trans (hb_6.mono B5.out.size))
      clear hb_6
      obtain ⟨w_7, hV⟩ : ∃ V, (World.alloc w_6 (.cells #[.int .i64 n3, .int .i64 o3, .slice A3 q3 ca3, .slice B3 q3 cb3] 25)).alloc (.cells #[.int .i64 n4, .int .i64 o4, .slice A4 q4 ca4, .slice B4 q4 cb4] 25) = V := ⟨_, rfl⟩
      have hb_7 : Below (World.heap w_6).size w_6 w_7 := by subst hV; exact ((Below.refl _ _).alloc (Nat.le_refl _) _).alloc (by simp) _
      have kX : Blk w_7 (World.heap w_6).size 25 #[.int .i64 n3, .int .i64 o3, .slice A3 q3 ca3, .slice B3 q3 cb3] := by subst hV; exact (Blk.new w_6 _ _).alloc _
      have kZ : Blk w_7 ((World.heap w_6).size + 1) 25 #[.int .i64 n4, .int .i64 o4, .slice A4 q4 ca4, .slice B4 q4 cb4] := by
        subst hV
        have := Blk.new (World.alloc w_6 (.cells #[.int .i64 n3, .int .i64 o3, .slice A3 q3 ca3, .slice B3 q3 cb3] 25)) 25 #[.int .i64 n4, .int .i64 o4, .slice A4 q4 ca4, .slice B4 q4 cb4]
        rw [World.size_alloc] at this
        exact this
      obtain ⟨bU, hbz⟩ : ∃ b, b = (World.heap w_6).size + 1 := ⟨_, rfl⟩
      obtain ⟨bT, hbx⟩ : ∃ b, b = (World.heap w_6).size := ⟨_, rfl⟩
      rw [← hbz] at kZ
      rw [← hbx] at kX
      have KT7 := Lib.hid kX
      have KU7 := Lib.hid kZ
      clear kX kZ
      have B7 := Lib.hid (B6.out.trans (hb_7.mono B6.out.size))
      have IT7 := Lib.hid (hI.next hb_7)
      have IU7 := Lib.hid (hJ.next hb_7)
      clear hb_7 hI hJ
      go_upto_region 12 with (fail)
      rw [← hbz, ← hbx]
      clear hV hbx hbz
      obtain ⟨p, hp⟩ : ∃ p, pairV n3 o3 X3 Y3 n4 o4 X4 Y4 b d = p := ⟨_, rfl⟩
      have tb : (b == b) = true := by simp
      have td : (d == d) = true := by simp
      have tp : (p == p) = true := by simp
      have cT0 := KT7.out.cell 0
      have cT1 := KT7.out.cell 1
      have cT2 := KT7.out.cell 2
      have cT3 := KT7.out.cell 3
      have cU0 := KU7.out.cell 0
      have cU1 := KU7.out.cell 1
      have cU2 := KU7.out.cell 2
      have cU3 := KU7.out.cell 3
      simp at cT0 cT1 cT2 cT3 cU0 cU1 cU2 cU3
      go_wp2_with (fail)
      refine (c_pair IT7.out IU7.out b d hp).mono ?_
      rintro e w_8 ⟨rfl, hb_8⟩
      clear cT0 cT1 cT2 cT3 cU0 cU1 cU2 cU3
      have B8 := Lib.hid (B7.out.trans (hb_8.mono B7.out.size))
      have KT8 := Lib.hid (KT7.out.next hb_8)
      have KU8 := Lib.hid (KU7.out.next hb_8)
      have IT8 := Lib.hid (IT7.out.next hb_8)
      have IU8 := Lib.hid (IU7.out.next hb_8)
      clear hb_8
      by_cases hpn : p < 0
      · have t2 : decide (p < 0) = true := by simp; omega
        have cT0 := KT8.out.cell 0
        have cT1 := KT8.out.cell 1
        have cT2 := KT8.out.cell 2
        have cT3 := KT8.out.cell 3
        have cU0 := KU8.out.cell 0
        have cU1 := KU8.out.cell 1
        have cU2 := KU8.out.cell 2
        have cU3 := KU8.out.cell 3
        simp at cT0 cT1 cT2 cT3 cU0 cU1 cU2 cU3
        go_wp2_with (fail)
        refine (cs_pair IT8.out IU8.out b d hp).mono ?_
        rintro e w_9 ⟨rfl, hb_9⟩
        clear cT0 cT1 cT2 cT3 cU0 cU1 cU2 cU3
        have B9 := Lib.hid (B8.out.trans (hb_9.mono B8.out.size))
        have KT9 := Lib.hid (KT8.out.next hb_9)
        have KU9 := Lib.hid (KU8.out.next hb_9)
        have IT9 := Lib.hid (IT8.out.next hb_9)
        have IU9 := Lib.hid (IU8.out.next hb_9)
        clear hb_9
        go_wp2_with (fail)
        go_ret
        exact ⟨rfl, B9.out⟩
      · have t2 : decide (p < 0) = false := by simp; omega
        obtain ⟨hp1, hp2⟩ := pair_parts (show 0 ≤ pairV n3 o3 X3 Y3 n4 o4 X4 Y4 b d by rw [hp]; omega)
        rw [hp] at hp1 hp2
        have cT0 := KT8.out.cell 0
        have cT1 := KT8.out.cell 1
        have cT2 := KT8.out.cell 2
        have cT3 := KT8.out.cell 3
        have cU0 := KU8.out.cell 0
        have cU1 := KU8.out.cell 1
        have cU2 := KU8.out.cell 2
        have cU3 := KU8.out.cell 3
        simp at cT0 cT1 cT2 cT3 cU0 cU1 cU2 cU3
        go_wp2_with (fail)
        refine (cs_pair IT8.out IU8.out b d hp).mono ?_
        rintro e w_9 ⟨rfl, hb_9⟩
        clear cT0 cT1 cT2 cT3 cU0 cU1 cU2 cU3
        have B9 := Lib.hid (B8.out.trans (hb_9.mono B8.out.size))
        have KT9 := Lib.hid (KT8.out.next hb_9)
        have KU9 := Lib.hid (KU8.out.next hb_9)
        have IT9 := Lib.hid (IT8.out.next hb_9)
        have IU9 := Lib.hid (IU8.out.next hb_9)
        clear hb_9
        have cT0 := KT9.out.cell 0
        have cT1 := KT9.out.cell 1
        have cT2 := KT9.out.cell 2
        have cT3 := KT9.out.cell 3
        have cU0 := KU9.out.cell 0
        have cU1 := KU9.out.cell 1
        have cU2 := KU9.out.cell 2
        have cU3 := KU9.out.cell 3
        simp at cT0 cT1 cT2 cT3 cU0 cU1 cU2 cU3
        go_wp2_with (fail)
        refine (c_part IT9.out IU9.out p false hp1).mono ?_
        rintro e w_10 ⟨rfl, hb_10⟩
        clear cT0 cT1 cT2 cT3 cU0 cU1 cU2 cU3
        have B10 := Lib.hid (B9.out.trans (hb_10.mono B9.out.size))
        have KT10 := Lib.hid (KT9.out.next hb_10)
        have KU10 := Lib.hid (KU9.out.next hb_10)
        have IT10 := Lib.hid (IT9.out.next hb_10)
        have IU10 := Lib.hid (IU9.out.next hb_10)
        clear hb_10
        have cT0 := KT10.out.cell 0
        have cT1 := KT10.out.cell 1
        have cT2 := KT10.out.cell 2
        have cT3 := KT10.out.cell 3
        have cU0 := KU10.out.cell 0
        have cU1 := KU10.out.cell 1
        have cU2 := KU10.out.cell 2
        have cU3 := KU10.out.cell 3
        simp at cT0 cT1 cT2 cT3 cU0 cU1 cU2 cU3
        go_wp2_with (fail)
        refine (c_part IT10.out IU10.out p true hp2).mono ?_
        rintro e w_11 ⟨rfl, hb_11⟩
        clear cT0 cT1 cT2 cT3 cU0 cU1 cU2 cU3
        have B11 := Lib.hid (B10.out.trans (hb_11.mono B10.out.size))
        have KT11 := Lib.hid (KT10.out.next hb_11)
        have KU11 := Lib.hid (KU10.out.next hb_11)
        have IT11 := Lib.hid (IT10.out.next hb_11)
        have IU11 := Lib.hid (IU10.out.next hb_11)
        clear hb_11
        go_wp2_with (fail)
        go_ret
        exact ⟨rfl, B11.out⟩
    · obtain ⟨y, hy⟩ : ∃ y, partV n1 o1 X1 Y1 n2 o2 X2 Y2 a false = y := ⟨_, rfl⟩
      rw [hx, hy] at hback
      have HB2 := Lib.hid hback
      clear hback
      have cR0 := KR3.out.cell 0
      have cR1 := KR3.out.cell 1
      have cR2 := KR3.out.cell 2
      have cR3 := KR3.out.cell 3
      have cS0 := KS3.out.cell 0
      have cS1 := KS3.out.cell 1
      have cS2 := KS3.out.cell 2
      have cS3 := KS3.out.cell 3
      simp at cR0 cR1 cR2 cR3 cS0 cS1 cS2 cS3
      go_wp2_with (fail)
      refine (c_part IR3.out IS3.out a false hy).mono ?_
      rintro e w_4 ⟨rfl, hb_4⟩
      clear cR0 cR1 cR2 cR3 cS0 cS1 cS2 cS3
      have B4 := Lib.hid (B3.out.trans (hb_4.mono B3.out.size))
      have KR4 := Lib.hid (KR3.out.next hb_4)
      have KS4 := Lib.hid (KS3.out.next hb_4)
      have IR4 := Lib.hid (IR3.out.next hb_4)
      have IS4 := Lib.hid (IS3.out.next hb_4)
      clear hb_4
      have cR0 := KR4.out.cell 0
      have cR1 := KR4.out.cell 1
      have cR2 := KR4.out.cell 2
      have cR3 := KR4.out.cell 3
      have cS0 := KS4.out.cell 0
      have cS1 := KS4.out.cell 1
      have cS2 := KS4.out.cell 2
      have cS3 := KS4.out.cell 3
      simp at cR0 cR1 cR2 cR3 cS0 cS1 cS2 cS3
      obtain ⟨d1, hd1⟩ : ∃ d, pairV n1 o1 X1 Y1 n2 o2 X2 Y2 x y = d := ⟨_, rfl⟩
      go_wp2_with (fail)
      refine (c_pair IR4.out IS4.out x y hd1).mono ?_
      rintro e w_5 ⟨rfl, hb_5⟩
      clear cR0 cR1 cR2 cR3 cS0 cS1 cS2 cS3
      have B5 := Lib.hid (B4.out.trans (hb_5.mono B4.out.size))
      have KR5 := Lib.hid (KR4.out.next hb_5)
      have KS5 := Lib.hid (KS4.out.next hb_5)
      have IR5 := Lib.hid (IR4.out.next hb_5)
      have IS5 := Lib.hid (IS4.out.next hb_5)
      clear hb_5
      have cR0 := KR5.out.cell 0
      have cR1 := KR5.out.cell 1
      have cR2 := KR5.out.cell 2
      have cR3 := KR5.out.cell 3
      have cS0 := KS5.out.cell 0
      have cS1 := KS5.out.cell 1
      have cS2 := KS5.out.cell 2
      have cS3 := KS5.out.cell 3
      simp at cR0 cR1 cR2 cR3 cS0 cS1 cS2 cS3
      go_wp2_with (fail)
      refine (c_pair IR5.out IS5.out y x HB2.out).mono ?_
      rintro e w_6 ⟨rfl, hb_6⟩
      clear cR0 cR1 cR2 cR3 cS0 cS1 cS2 cS3
      have B6 := Lib.hid (B5.out.trans (hb_6.mono B5.out.size))
      have KR6 := Lib.hid (KR5.out.next hb_6)
      have KS6 := Lib.hid (KS5.out.next hb_6)
      have IR6 := Lib.hid (IR5.out.next hb_6)
      have IS6 := Lib.hid (IS5.out.next hb_6)
      clear hb_6
      go_wp2_with (fail)
      refine (drawPairOf_any A' n' c' w_6 (hb'.grow B6.out) hn' hc' hc2').mono ?_
      rintro e w_7 ⟨v, v', b, d, rfl, _, _, hA, hB, hb_7⟩
      obtain ⟨n3, o3, A3, B3, q3, ca3, cb3, X3, Y3, rfl, hI, _, _⟩ := hA.rin
      obtain ⟨n4, o4, A4, B4, q4, ca4, cb4, X4, Y4, rfl, hJ, _, _⟩ := hB.rin
      clear hA hB
      have B7 := Lib.hid (B6.out.trans (hb_7.mono B6.out.size))
      clear hb_7
      obtain ⟨w_8, hV⟩ : ∃ V, (World.alloc w_7 (.cells #[.int .i64 n3, .int .i64 o3, .slice A3 q3 ca3, .slice B3 q3 cb3] 25)).alloc (.cells #[.int .i64 n4, .int .i64 o4, .slice A4 q4 ca4, .slice B4 q4 cb4] 25) = V := ⟨_, rfl⟩
      have hb_8 : Below (World.heap w_7).size w_7 w_8 := by subst hV; exact ((Below.refl _ _).alloc (Nat.le_refl _) _).alloc (by simp) _
      have kX : Blk w_8 (World.heap w_7).size 25 #[.int .i64 n3, .int .i64 o3, .slice A3 q3 ca3, .slice B3 q3 cb3] := by subst hV; exact (Blk.new w_7 _ _).alloc _
      have kZ : Blk w_8 ((World.heap w_7).size + 1) 25 #[.int .i64 n4, .int .i64 o4, .slice A4 q4 ca4, .slice B4 q4 cb4] := by
        subst hV
        have := Blk.new (World.alloc w_7 (.cells #[.int .i64 n3, .int .i64 o3, .slice A3 q3 ca3, .slice B3 q3 cb3] 25)) 25 #[.int .i64 n4, .int .i64 o4, .slice A4 q4 ca4, .slice B4 q4 cb4]
        rw [World.size_alloc] at this
        exact this
      obtain ⟨bU, hbz⟩ : ∃ b, b = (World.heap w_7).size + 1 := ⟨_, rfl⟩
      obtain ⟨bT, hbx⟩ : ∃ b, b = (World.heap w_7).size := ⟨_, rfl⟩
      rw [← hbz] at kZ
      rw [← hbx] at kX
      have KT8 := Lib.hid kX
      have KU8 := Lib.hid kZ
      clear kX kZ
      have B8 := Lib.hid (B7.out.trans (hb_8.mono B7.out.size))
      have IT8 := Lib.hid (hI.next hb_8)
      have IU8 := Lib.hid (hJ.next hb_8)
      clear hb_8 hI hJ
      go_upto_region 12 with (fail)
      rw [← hbz, ← hbx]
      clear hV hbx hbz
      obtain ⟨p, hp⟩ : ∃ p, pairV n3 o3 X3 Y3 n4 o4 X4 Y4 b d = p := ⟨_, rfl⟩
      have tb : (b == b) = true := by simp
      have td : (d == d) = true := by simp
      have tp : (p == p) = true := by simp
      have cT0 := KT8.out.cell 0
      have cT1 := KT8.out.cell 1
      have cT2 := KT8.out.cell 2
      have cT3 := KT8.out.cell 3
      have cU0 := KU8.out.cell 0
      have cU1 := KU8.out.cell 1
      have cU2 := KU8.out.cell 2
      have cU3 := KU8.out.cell 3
      simp at cT0 cT1 cT2 cT3 cU0 cU1 cU2 cU3
      go_wp2_with (fail)
      refine (c_pair IT8.out IU8.out b d hp).mono ?_
      rintro e w_9 ⟨rfl, hb_9⟩
      clear cT0 cT1 cT2 cT3 cU0 cU1 cU2 cU3
      have B9 := Lib.hid (B8.out.trans (hb_9.mono B8.out.size))
      have KT9 := Lib.hid (KT8.out.next hb_9)
      have KU9 := Lib.hid (KU8.out.next hb_9)
      have IT9 := Lib.hid (IT8.out.next hb_9)
      have IU9 := Lib.hid (IU8.out.next hb_9)
      clear hb_9
      by_cases hpn : p < 0
      · have t2 : decide (p < 0) = true := by simp; omega
        have cT0 := KT9.out.cell 0
        have cT1 := KT9.out.cell 1
        have cT2 := KT9.out.cell 2
        have cT3 := KT9.out.cell 3
        have cU0 := KU9.out.cell 0
        have cU1 := KU9.out.cell 1
        have cU2 := KU9.out.cell 2
        have cU3 := KU9.out.cell 3
        simp at cT0 cT1 cT2 cT3 cU0 cU1 cU2 cU3
        go_wp2_with (fail)
        refine (cs_pair IT9.out IU9.out b d hp).mono ?_
        rintro e w_10 ⟨rfl, hb_10⟩
        clear cT0 cT1 cT2 cT3 cU0 cU1 cU2 cU3
        have B10 := Lib.hid (B9.out.trans (hb_10.mono B9.out.size))
        have KT10 := Lib.hid (KT9.out.next hb_10)
        have KU10 := Lib.hid (KU9.out.next hb_10)
        have IT10 := Lib.hid (IT9.out.next hb_10)
        have IU10 := Lib.hid (IU9.out.next hb_10)
        clear hb_10
        go_wp2_with (fail)
        go_ret
        exact ⟨rfl, B10.out⟩
      · have t2 : decide (p < 0) = false := by simp; omega
        obtain ⟨hp1, hp2⟩ := pair_parts (show 0 ≤ pairV n3 o3 X3 Y3 n4 o4 X4 Y4 b d by rw [hp]; omega)
        rw [hp] at hp1 hp2
        have cT0 := KT9.out.cell 0
        have cT1 := KT9.out.cell 1
        have cT2 := KT9.out.cell 2
        have cT3 := KT9.out.cell 3
        have cU0 := KU9.out.cell 0
        have cU1 := KU9.out.cell 1
        have cU2 := KU9.out.cell 2
        have cU3 := KU9.out.cell 3
        simp at cT0 cT1 cT2 cT3 cU0 cU1 cU2 cU3
        go_wp2_with (fail)
        refine (cs_pair IT9.out IU9.out b d hp).mono ?_
        rintro e w_10 ⟨rfl, hb_10⟩
        clear cT0 cT1 cT2 cT3 cU0 cU1 cU2 cU3
        have B10 := Lib.hid (B9.out.trans (hb_10.mono B9.out.size))
        have KT10 := Lib.hid (KT9.out.next hb_10)
        have KU10 := Lib.hid (KU9.out.next hb_10)
        have IT10 := Lib.hid (IT9.out.next hb_10)
        have IU10 := Lib.hid (IU9.out.next hb_10)
        clear hb_10
        have cT0 := KT10.out.cell 0
        have cT1 := KT10.out.cell 1
        have cT2 := KT10.out.cell 2
        have cT3 := KT10.out.cell 3
        have cU0 := KU10.out.cell 0
        have cU1 := KU10.out.cell 1
        have cU2 := KU10.out.cell 2
        have cU3 := KU10.out.cell 3
        simp at cT0 cT1 cT2 cT3 cU0 cU1 cU2 cU3
        go_wp2_with (fail)
        refine (c_part IT10.out IU10.out p false hp1).mono ?_
        rintro e w_11 ⟨rfl, hb_11⟩
        clear cT0 cT1 cT2 cT3 cU0 cU1 cU2 cU3
        have B11 := Lib.hid (B10.out.trans (hb_11.mono B10.out.size))
        have KT11 := Lib.hid (KT10.out.next hb_11)
        have KU11 := Lib.hid (KU10.out.next hb_11)
        have IT11 := Lib.hid (IT10.out.next hb_11)
        have IU11 := Lib.hid (IU10.out.next hb_11)
        clear hb_11
        have cT0 := KT11.out.cell 0
        have cT1 := KT11.out.cell 1
        have cT2 := KT11.out.cell 2
        have cT3 := KT11.out.cell 3
        have cU0 := KU11.out.cell 0
        have cU1 := KU11.out.cell 1
        have cU2 := KU11.out.cell 2
        have cU3 := KU11.out.cell 3
        simp at cT0 cT1 cT2 cT3 cU0 cU1 cU2 cU3
        go_wp2_with (fail)
        refine (c_part IT11.out IU11.out p true hp2).mono ?_
        rintro e w_12 ⟨rfl, hb_12⟩
        clear cT0 cT1 cT2 cT3 cU0 cU1 cU2 cU3
        have B12 := Lib.hid (B11.out.trans (hb_12.mono B11.out.size))
        have KT12 := Lib.hid (KT11.out.next hb_12)
        have KU12 := Lib.hid (KU11.out.next hb_12)
        have IT12 := Lib.hid (IT11.out.next hb_12)
        have IU12 := Lib.hid (IU11.out.next hb_12)
        clear hb_12
        go_wp2_with (fail)
        go_ret
        exact ⟨rfl, B12.out⟩

end Go.Proofs.Ytihjnjcfiipcoaa
