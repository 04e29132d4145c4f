
import Derived.Test.YteoodcgppidomaaMT
import Derived.Deep.Cut
/- The walk of the law FnExactReducedRing, whatever ring the function hands back, if both sides hand back the same. -/
namespace Go.Proofs.Yteoodcgppidomaa
open Go.RowKit
set_option maxRecDepth 100000

set_option maxHeartbeats 8000000 in
theorem fnExactReducedRing_walk (n o : Int) (A B : Option Addr) (la ca lb cb : Nat) (X Y : List Int) (n9 o9 : Int) (Z9 T9 ZL : List Int) (ok : Bool) (w : World) (hX : Ints w w.heap.size A la X) (hY : Ints w w.heap.size B lb Y) (hla : la ≤ 9223372036854775807) (hlb : lb ≤ 9223372036854775807) 
    (hS0 : ∀ (A B : Option Addr) (w : World),Ints w w.heap.size A la X → Ints w w.heap.size B lb Y → Calls Try.prog 35 #[.agg #[.int .i64 n, .int .i64 o, .slice A la la, .slice B lb lb]] w fun e w' => ∃ v u, e = .returned (.tuple #[v, u, .bool ok]) ∧ RingOutB w.heap.size w' v n9 o9 Z9 T9 ∧ SliceOut w.heap.size w' u ZL ∧ Below w.heap.size w w')
    (hI0 : ∀ (A B : Option Addr) (w : World),Ints w w.heap.size A la X → Ints w w.heap.size B lb Y → Calls Try.prog 36 #[.agg #[.int .i64 n, .int .i64 o, .slice A la la, .slice B lb lb]] w fun e w' => ∃ v u, e = .returned (.tuple #[v, u, .bool ok]) ∧ RingOutB w.heap.size w' v n9 o9 Z9 T9 ∧ SliceOut w.heap.size w' u ZL ∧ ApartRL v u ∧ Below w.heap.size w w') :
    Calls Try.prog 7 #[.agg #[.int .i64 n, .int .i64 o, .slice A la ca, .slice B lb cb]] w fun e w' => e = .returned (.bool true) ∧ Below w.heap.size w w' := by
  have hS := Lib.hid hS0
  have hI := Lib.hid hI0
  have HX0 := Lib.hid hX
  have HY0 := Lib.hid hY
  clear hS0 hI0 hX hY
  obtain ⟨W, hW⟩ : ∃ W, w.alloc (.cells #[.int .i64 n, .int .i64 o, .slice A la ca, .slice B lb cb] 24) = W := ⟨_, rfl⟩
  have k0 : Blk W w.heap.size 24 #[.int .i64 n, .int .i64 o, .slice A la ca, .slice B lb cb] := by
    subst hW; exact Blk.new w _ _
  have b0 : Below w.heap.size w W := by
    subst hW; exact (Below.refl _ _).alloc (Nat.le_refl _) _
  have hs0 := k0.lt
  have K := Lib.hid (C4.of k0)
  have BB := Lib.hid b0
  have HW := Lib.hid hW
  clear k0 b0 hW
  by_cases hsz : (la : Int) + lb ≤ 1048576
  rotate_left
  · have e1 := Lib.hid (szR_no hsz)
    go_enter Try.func7, Try.ntmps7
    go_wp2_with (fail)
    rw [HW.out]
    refine (szRing_any n o A B la ca lb cb 1048576 _ (by omega) (by omega) hla hlb).mono ?_
    rintro e w1 ⟨rfl, hb1⟩
    rw [e1.out]
    go_wp2
    go_ret
    exact ⟨rfl, below_step BB.out hb1⟩
  have e1 := Lib.hid (szR_yes hsz)
  have hla2 : la ≤ 1048576 := by omega
  have hlb2 : lb ≤ 1048576 := by omega
  go_enter Try.func7, Try.ntmps7
  go_wp2_with (fail)
  rw [HW.out]
  refine (szRing_any n o A B la ca lb cb 1048576 W (by omega) (by omega) hla hlb).mono ?_
  rintro e w1 ⟨rfl, hb1⟩
  rw [e1.out]
  have K := Lib.hid (K.out.next hb1); have BB := Lib.hid (below_step BB.out hb1)
  have s1 := hb1.size
  clear hb1
  obtain ⟨_, c0, c1, c2, c3⟩ := K.out
  go_wp2_with (fail)
  refine (toRing_any n o A B la ca lb cb X Y w1 (HX0.out.next BB.out) (HY0.out.next BB.out) hla2 hlb2).mono ?_
  rintro e w2 ⟨g1s, g2s, rfl, ow1, ow2, hlts, hb⟩
  have O1s := Lib.hid (own_of_row ow1 HX0.out.1)
  have O2s := Lib.hid (own_of_row ow2 HY0.out.1)
  have hg1s := (ow1.lt g1s rfl).2
  have hg2s := (ow2.lt g2s rfl).2
  have hm1s := (ow1.lt g1s rfl).1
  have hm2s := (ow2.lt g2s rfl).1
  clear c0 c1 c2 c3
  have K := Lib.hid (K.out.next hb); have BB := Lib.hid (below_step BB.out hb)
  have sw2 := hb.size
  clear hb ow1 ow2
  obtain ⟨_, c0, c1, c2, c3⟩ := K.out
  go_wp2_with (fail)
  refine (hS.out _ _ w2 O1s.out.ints O2s.out.ints).mono ?_
  rintro e w3 ⟨v9, u9, rfl, ⟨A9, la9, ca9, B9, lb9, cb9, rfl, oA, oB, ⟨ap, bl1, bl2, bl3, _, _⟩, _, _⟩, ⟨N9, ln9, cn9, rfl, oN, _, bl4⟩, hb⟩
  have TA := Lib.hid oA
  have TB := Lib.hid oB
  have TF := Lib.hid oN
  have el9 := oA.1
  have em9 := oB.1
  have en9 := oN.1
  have b91 := bl1
  have b92 := bl2
  have b93 := bl3
  have b94 := bl4
  clear c0 c1 c2 c3
  have K := Lib.hid (K.out.next hb); have BB := Lib.hid (below_step BB.out hb)
  have sw3 := hb.size
  clear hb oA oB oN ap bl1 bl2 bl3 bl4
  obtain ⟨_, c0, c1, c2, c3⟩ := K.out
  go_upto_region 6 with (fail)
  clear c0 c1 c2 c3
  obtain ⟨U, hU⟩ : ∃ V, w3.alloc (.cells #[.int .i64 n9, .int .i64 o9, .slice A9 la9 ca9, .slice B9 lb9 cb9] 26) = V := ⟨_, rfl⟩
  have u0 : Blk U w3.heap.size 26 #[.int .i64 n9, .int .i64 o9, .slice A9 la9 ca9, .slice B9 lb9 cb9] := by
    subst hU; exact Blk.new w3 _ _
  have bu : Below w3.heap.size w3 U := by
    subst hU; exact (Below.refl _ _).alloc (Nat.le_refl _) _
  rw [hU]
  clear hU
  have hsu := u0.lt
  have T0 := Lib.hid (C4.of u0)
  have K := Lib.hid (K.out.next bu); have TA := Lib.hid (TA.out.next bu); have TB := Lib.hid (TB.out.next bu); have TF := Lib.hid (TF.out.next bu); have BB := Lib.hid (below_step BB.out bu)
  have sU := bu.size
  clear u0 bu
  obtain ⟨_, c0, c1, c2, c3⟩ := K.out
  obtain ⟨_, t0, t1, t2, t3⟩ := T0.out
  have JA := Lib.hid TA.out.ints
  have JB := Lib.hid TB.out.ints
  have JF := Lib.hid TF.out.ints
  have TU := T0
  have CC := Lib.hid (Below.refl U.heap.size U)
  have kU : w.heap.size < U.heap.size := by omega
  have kwU : w.heap.size ≤ U.heap.size := by omega
  go_wp2_with (fail)
  refine (toRing_any n o A B la ca lb cb X Y U (HX0.out.next BB.out) (HY0.out.next BB.out) hla2 hlb2).mono ?_
  rintro e w4 ⟨g1i, g2i, rfl, ow1, ow2, hlti, hb⟩
  have O1i := Lib.hid (own_of_row ow1 HX0.out.1)
  have O2i := Lib.hid (own_of_row ow2 HY0.out.1)
  have hg1i := (ow1.lt g1i rfl).2
  have hg2i := (ow2.lt g2i rfl).2
  have hm1i := (ow1.lt g1i rfl).1
  have hm2i := (ow2.lt g2i rfl).1
  clear c0 c1 c2 c3 t0 t1 t2 t3
  have K := Lib.hid (K.out.next hb); have T0 := Lib.hid (T0.out.next hb); have BB := Lib.hid (below_step BB.out hb); have CC := Lib.hid (below_step CC.out hb)
  have sw4 := hb.size
  clear hb ow1 ow2
  obtain ⟨_, c0, c1, c2, c3⟩ := K.out
  obtain ⟨_, t0, t1, t2, t3⟩ := T0.out
  go_upto_region 7 with (fail)
  clear c0 c1 c2 c3 t0 t1 t2 t3
  obtain ⟨V, hV⟩ : ∃ V, w4.alloc (.cells #[.int .i64 n, .int .i64 o, .slice (some ⟨g1i, 0, none⟩) la la, .slice (some ⟨g2i, 0, none⟩) lb lb] 26) = V := ⟨_, rfl⟩
  have v0 : Blk V w4.heap.size 26 #[.int .i64 n, .int .i64 o, .slice (some ⟨g1i, 0, none⟩) la la, .slice (some ⟨g2i, 0, none⟩) lb lb] := by
    subst hV; exact Blk.new w4 _ _
  have bv : Below w4.heap.size w4 V := by
    subst hV; exact (Below.refl _ _).alloc (Nat.le_refl _) _
  rw [hV]
  clear hV
  have hsv := v0.lt
  have V0 := Lib.hid (C4.of v0)
  have K := Lib.hid (K.out.next bv); have T0 := Lib.hid (T0.out.next bv); have O1i := Lib.hid (O1i.out.next bv); have O2i := Lib.hid (O2i.out.next bv); have BB := Lib.hid (below_step BB.out bv); have CC := Lib.hid (below_step CC.out bv)
  have sV := bv.size
  clear v0 bv
  obtain ⟨_, c0, c1, c2, c3⟩ := K.out
  obtain ⟨_, t0, t1, t2, t3⟩ := T0.out
  obtain ⟨_, d0, d1, d2, d3⟩ := V0.out
  go_wp2_with (fail)
  refine (hI.out _ _ V O1i.out.ints O2i.out.ints).mono ?_
  rintro e w5 ⟨v1, u1, rfl, ⟨A1, la1, ca1, B1, lb1, cb1, rfl, oA, oB, ⟨ap, bl1, bl2, bl3, _, _⟩, _, _⟩, ⟨N1, ln1, cn1, rfl, oN, _, bl4⟩, aprl, hb⟩
  obtain ⟨apA, apB⟩ := aprl _ _ _ _ _ _ _ _ _ _ _ rfl rfl
  have APA := Lib.hid apA
  have APB := Lib.hid apB
  have GF := Lib.hid oN
  have en1 : ln1 = ln9 := by rw [← oN.1, en9]
  have GA := Lib.hid oA
  have GB := Lib.hid oB
  have AP := Lib.hid ap
  have el1 : la1 = la9 := by rw [← oA.1, el9]
  have em1 : lb1 = lb9 := by rw [← oB.1, em9]
  subst el1
  subst em1
  subst en1
  have GA7 := GA
  have GB7 := GB
  have GF7 := GF
  clear c0 c1 c2 c3 t0 t1 t2 t3 d0 d1 d2 d3
  have K := Lib.hid (K.out.next hb); have T0 := Lib.hid (T0.out.next hb); have O1i := Lib.hid (O1i.out.next hb); have O2i := Lib.hid (O2i.out.next hb); have V0 := Lib.hid (V0.out.next hb); have BB := Lib.hid (below_step BB.out hb); have CC := Lib.hid (below_step CC.out hb)
  have sw5 := hb.size
  clear hb oA oB oN ap aprl apA apB bl1 bl2 bl3 bl4
  obtain ⟨_, c0, c1, c2, c3⟩ := K.out
  obtain ⟨_, t0, t1, t2, t3⟩ := T0.out
  obtain ⟨_, d0, d1, d2, d3⟩ := V0.out
  go_upto_region 8 with (fail)
  clear c0 c1 c2 c3 t0 t1 t2 t3 d0 d1 d2 d3
  obtain ⟨Q, hQ⟩ : ∃ V, w5.alloc (.cells #[.int .i64 n9, .int .i64 o9, .slice A1 la1 ca1, .slice B1 lb1 cb1] 26) = V := ⟨_, rfl⟩
  have q0 : Blk Q w5.heap.size 26 #[.int .i64 n9, .int .i64 o9, .slice A1 la1 ca1, .slice B1 lb1 cb1] := by
    subst hQ; exact Blk.new w5 _ _
  have bq : Below w5.heap.size w5 Q := by
    subst hQ; exact (Below.refl _ _).alloc (Nat.le_refl _) _
  rw [hQ]
  clear hQ
  have hsq := q0.lt
  have G0 := Lib.hid (C4.of q0)
  have K := Lib.hid (K.out.next bq); have T0 := Lib.hid (T0.out.next bq); have O1i := Lib.hid (O1i.out.next bq); have O2i := Lib.hid (O2i.out.next bq); have V0 := Lib.hid (V0.out.next bq); have GA := Lib.hid (GA.out.next bq); have GB := Lib.hid (GB.out.next bq); have GF := Lib.hid (GF.out.next bq); have BB := Lib.hid (below_step BB.out bq); have CC := Lib.hid (below_step CC.out bq)
  have sQ := bq.size
  clear q0 bq
  obtain ⟨_, c0, c1, c2, c3⟩ := K.out
  obtain ⟨_, t0, t1, t2, t3⟩ := T0.out
  obtain ⟨_, d0, d1, d2, d3⟩ := V0.out
  obtain ⟨_, u0, u1, u2, u3⟩ := G0.out
  have tok : (ok != ok) = false := by simp
  go_wp2_with (fail)
  refine (eqRing_same n9 o9 A1 B1 A9 B9 la1 ca1 lb1 cb1 ca9 cb9 Z9 T9 Q GA.out.ints GB.out.ints (JA.out.next CC.out) (JB.out.next CC.out) (by omega) (by omega)).mono ?_
  rintro e w6 ⟨rfl, hb⟩
  clear c0 c1 c2 c3 t0 t1 t2 t3 d0 d1 d2 d3 u0 u1 u2 u3
  have K := Lib.hid (K.out.next hb); have T0 := Lib.hid (T0.out.next hb); have O1i := Lib.hid (O1i.out.next hb); have O2i := Lib.hid (O2i.out.next hb); have V0 := Lib.hid (V0.out.next hb); have GA := Lib.hid (GA.out.next hb); have GB := Lib.hid (GB.out.next hb); have GF := Lib.hid (GF.out.next hb); have G0 := Lib.hid (G0.out.next hb); have BB := Lib.hid (below_step BB.out hb); have CC := Lib.hid (below_step CC.out hb)
  have sw6 := hb.size
  clear hb
  obtain ⟨_, c0, c1, c2, c3⟩ := K.out
  obtain ⟨_, t0, t1, t2, t3⟩ := T0.out
  obtain ⟨_, d0, d1, d2, d3⟩ := V0.out
  obtain ⟨_, u0, u1, u2, u3⟩ := G0.out
  go_wp2_with (fail)
  refine (eqIntS_same N1 N9 ln1 cn1 cn9 ZL w6 _ _ GF.out.ints (JF.out.next CC.out) (by omega)).mono ?_
  rintro e w7 ⟨rfl, hb⟩
  clear c0 c1 c2 c3 t0 t1 t2 t3 d0 d1 d2 d3 u0 u1 u2 u3
  have K := Lib.hid (K.out.next hb); have T0 := Lib.hid (T0.out.next hb); have O1i := Lib.hid (O1i.out.next hb); have O2i := Lib.hid (O2i.out.next hb); have V0 := Lib.hid (V0.out.next hb); have GA := Lib.hid (GA.out.next hb); have GB := Lib.hid (GB.out.next hb); have GF := Lib.hid (GF.out.next hb); have G0 := Lib.hid (G0.out.next hb); have BB := Lib.hid (below_step BB.out hb); have CC := Lib.hid (below_step CC.out hb)
  have sw7 := hb.size
  clear hb
  obtain ⟨_, c0, c1, c2, c3⟩ := K.out
  obtain ⟨_, t0, t1, t2, t3⟩ := T0.out
  obtain ⟨_, d0, d1, d2, d3⟩ := V0.out
  obtain ⟨_, u0, u1, u2, u3⟩ := G0.out
  go_wp2_with (fail)
  clear c0 c1 c2 c3 t0 t1 t2 t3 d0 d1 d2 d3 u0 u1 u2 u3
  obtain ⟨_, c0, c1, c2, c3⟩ := K.out
  obtain ⟨_, d0, d1, d2, d3⟩ := V0.out
  have D6 := Lib.hid ((Below.refl w7.heap.size w7).drew)
  have J1d := Lib.hid ((HX0.out.next BB.out).next D6.out)
  have J2d := Lib.hid ((HY0.out.next BB.out).next D6.out)
  have I7d := Lib.hid (O1i.out.ints.next D6.out)
  have I8d := Lib.hid (O2i.out.ints.next D6.out)
  have hsd : w.heap.size < w7.drew.heap.size := (show w.heap.size < w7.heap.size by omega)
  have hsd4 : w4.heap.size < w7.drew.heap.size := (show w4.heap.size < w7.heap.size by omega)
  go_region_held3 (fun w' => w'.cell? ⟨w.heap.size, 0, none⟩ = some (.int .i64 n) ∧ w'.cell? ⟨w.heap.size, 1, none⟩ = some (.int .i64 o) ∧ w'.cell? ⟨w.heap.size, 2, none⟩ = some (.slice A la ca) ∧ w'.cell? ⟨w.heap.size, 3, none⟩ = some (.slice B lb cb) ∧
      w'.cell? ⟨w4.heap.size, 0, none⟩ = some (.int .i64 n) ∧ w'.cell? ⟨w4.heap.size, 1, none⟩ = some (.int .i64 o) ∧ w'.cell? ⟨w4.heap.size, 2, none⟩ = some (.slice (some ⟨g1i, 0, none⟩) la la) ∧ w'.cell? ⟨w4.heap.size, 3, none⟩ = some (.slice (some ⟨g2i, 0, none⟩) lb lb))
    (first | exact ⟨c0, c1, c2, c3, d0, d1, d2, d3⟩ | exact ⟨r0, r1, r2, r3, m0, m1, m2, m3⟩ | exact ⟨y0, y1, y2, y3, z0, z1, z2, z3⟩)
    (first
      | (go_at_call 17; refine (toRing_any n o A B la ca lb cb X Y _ J1d.out J2d.out hla2 hlb2).mono ?_; rintro e u7 ⟨g5, g6, rfl, ow5, ow6, hlt3, hb7⟩; obtain ⟨r0, r1, r2, r3, hs8⟩ := box4_next hb7 hsd c0 c1 c2 c3; obtain ⟨m0, m1, m2, m3, hs9⟩ := box4_next hb7 hsd4 d0 d1 d2 d3; have I9 := Lib.hid (ints_of_own ow5 HX0.out.1); have I10 := Lib.hid (ints_of_own ow6 HY0.out.1); have B7 := Lib.hid hb7; have I11 := Lib.hid (I7d.out.next hb7); have I12 := Lib.hid (I8d.out.next hb7); clear hb7 ow5 ow6)
      | (go_at_call 20; refine (eqRing_same n o _ _ _ _ la la lb lb la lb X Y _ I11.out I12.out I9.out I10.out hla hlb).mono ?_; rintro e w8 ⟨rfl, hb8⟩; obtain ⟨y0, y1, y2, y3, hs10⟩ := box4_next hb8 (Nat.lt_of_lt_of_le hsd hs8) r0 r1 r2 r3; obtain ⟨z0, z1, z2, z3, hs11⟩ := box4_next hb8 (Nat.lt_of_lt_of_le hsd4 hs8) m0 m1 m2 m3; have B8 := Lib.hid hb8; clear hb8))
  have q8 : Below w7.heap.size w7 w8 := D6.out.trans ((B7.out.mono (Nat.le_refl _)).trans (B8.out.mono hs8))
  clear r0 r1 r2 r3 m0 m1 m2 m3 y0 y1 y2 y3 z0 z1 z2 z3
  clear c0 c1 c2 c3 d0 d1 d2 d3
  have K := Lib.hid (K.out.next q8); have T0 := Lib.hid (T0.out.next q8); have O1i := Lib.hid (O1i.out.next q8); have O2i := Lib.hid (O2i.out.next q8); have V0 := Lib.hid (V0.out.next q8); have GA := Lib.hid (GA.out.next q8); have GB := Lib.hid (GB.out.next q8); have GF := Lib.hid (GF.out.next q8); have G0 := Lib.hid (G0.out.next q8); have BB := Lib.hid (below_step BB.out q8); have CC := Lib.hid (below_step CC.out q8)
  have sw8 := q8.size
  clear q8
  obtain ⟨_, c0, c1, c2, c3⟩ := K.out
  obtain ⟨_, t0, t1, t2, t3⟩ := T0.out
  obtain ⟨_, d0, d1, d2, d3⟩ := V0.out
  obtain ⟨_, u0, u1, u2, u3⟩ := G0.out
  have AQ := Lib.hid (apart_two (k1 := la) (k2 := lb) hlti)
  go_wp2_with (fail)
  refine (markRing_any n o (some ⟨g1i, 0, none⟩) (some ⟨g2i, 0, none⟩) la la lb lb X Y 1 w8 U.heap.size (O1i.out.down (by omega)) (O2i.out.down (by omega)) AQ.out (by omega) hla2 hlb2 (by omega) (by omega)).mono ?_
  rintro e w9 ⟨rfl, _, _, keep, hb⟩
  clear c0 c1 c2 c3 t0 t1 t2 t3 d0 d1 d2 d3 u0 u1 u2 u3
  have sw9 := hb.size
  have GA := Lib.hid (GA.out.marked sw9 keep (by omega) (by omega))
  have GB := Lib.hid (GB.out.marked sw9 keep (by omega) (by omega))
  have GF := Lib.hid (GF.out.marked sw9 keep (by omega) (by omega))
  have G0 := Lib.hid (G0.out.marked sw9 keep (by omega) (by omega))
  have K := Lib.hid (K.out.below hb kU)
  have T0 := Lib.hid (T0.out.below hb hsu)
  have BB := Lib.hid (BB.out.trans (hb.mono kwU))
  have CC := Lib.hid (CC.out.trans hb)
  clear keep hb
  obtain ⟨_, c0, c1, c2, c3⟩ := K.out
  obtain ⟨_, t0, t1, t2, t3⟩ := T0.out
  obtain ⟨_, u0, u1, u2, u3⟩ := G0.out
  have tneg : ((1 + la + lb : Int) < 0) = False := by simp; omega
  go_wp2_with (fail)
  refine (eqRing_same n9 o9 A1 B1 A9 B9 la1 ca1 lb1 cb1 ca9 cb9 Z9 T9 w9 GA.out.ints GB.out.ints (JA.out.next CC.out) (JB.out.next CC.out) (by omega) (by omega)).mono ?_
  rintro e w10 ⟨rfl, hb⟩
  clear c0 c1 c2 c3 t0 t1 t2 t3 u0 u1 u2 u3
  have K := Lib.hid (K.out.next hb); have T0 := Lib.hid (T0.out.next hb); have G0 := Lib.hid (G0.out.next hb); have GA := Lib.hid (GA.out.next hb); have GB := Lib.hid (GB.out.next hb); have GF := Lib.hid (GF.out.next hb); have BB := Lib.hid (below_step BB.out hb); have CC := Lib.hid (below_step CC.out hb)
  have sw10 := hb.size
  clear hb
  obtain ⟨_, c0, c1, c2, c3⟩ := K.out
  obtain ⟨_, t0, t1, t2, t3⟩ := T0.out
  obtain ⟨_, u0, u1, u2, u3⟩ := G0.out
  go_wp2_with (fail)
  refine (eqIntS_same N1 N9 ln1 cn1 cn9 ZL w10 _ _ GF.out.ints (JF.out.next CC.out) (by omega)).mono ?_
  rintro e w11 ⟨rfl, hb⟩
  clear c0 c1 c2 c3 t0 t1 t2 t3 u0 u1 u2 u3
  have K := Lib.hid (K.out.next hb); have T0 := Lib.hid (T0.out.next hb); have G0 := Lib.hid (G0.out.next hb); have GA := Lib.hid (GA.out.next hb); have GB := Lib.hid (GB.out.next hb); have GF := Lib.hid (GF.out.next hb); have BB := Lib.hid (below_step BB.out hb); have CC := Lib.hid (below_step CC.out hb)
  have sw11 := hb.size
  clear hb
  obtain ⟨_, c0, c1, c2, c3⟩ := K.out
  obtain ⟨_, t0, t1, t2, t3⟩ := T0.out
  obtain ⟨_, u0, u1, u2, u3⟩ := G0.out
  go_wp2_with (fail)
  refine (markRing_any n9 o9 A1 B1 la1 ca1 lb1 cb1 Z9 T9 1 w11 V.heap.size GA.out GB.out AP.out (by omega) (by omega) (by omega) (by omega) (by omega)).mono ?_
  rintro e w12 ⟨rfl, mA, mB, keep, hb⟩
  clear c0 c1 c2 c3 t0 t1 t2 t3 u0 u1 u2 u3
  have sw12 := hb.size
  have G0 := Lib.hid (G0.out.keep sw12 (fun p hp => (keep p (by rw [hp]; exact G0.out.1) (own_old GA7.out (by rw [hp]; exact Nat.le_refl _)) (own_old GB7.out (by rw [hp]; exact Nat.le_refl _))).1))
  have GF := Lib.hid (GF.out.apartK sw12 keep APA.out APB.out)
  have GA := Lib.hid mA
  have GB := Lib.hid mB
  have kD : U.heap.size ≤ V.heap.size := by omega
  have K := Lib.hid (K.out.below hb (by omega))
  have T0 := Lib.hid (T0.out.below hb (by omega))
  have BB := Lib.hid (BB.out.trans (hb.mono (by omega)))
  have CC := Lib.hid (CC.out.trans (hb.mono kD))
  clear keep hb mA mB
  obtain ⟨_, c0, c1, c2, c3⟩ := K.out
  obtain ⟨_, t0, t1, t2, t3⟩ := T0.out
  obtain ⟨_, u0, u1, u2, u3⟩ := G0.out
  go_wp2_with (fail)
  refine (markIntS_any N1 ln1 cn1 ZL (1 + la1 + lb1) w12 V.heap.size GF.out (by omega) (by omega) (by omega)).mono ?_
  rintro e w13 ⟨rfl, mF, but, hb⟩
  clear c0 c1 c2 c3 t0 t1 t2 t3 u0 u1 u2 u3
  have sw13 := hb.size
  have G0 := Lib.hid (G0.out.keep sw13 (fun p hp => (but.2 p (own_old GF7.out (by rw [hp]; exact Nat.le_refl _))).1))
  have GA := Lib.hid (GA.out.kept but APA.out)
  have GB := Lib.hid (GB.out.kept but APB.out)
  have GF := Lib.hid mF
  have K := Lib.hid (K.out.below hb (by omega))
  have T0 := Lib.hid (T0.out.below hb (by omega))
  have BB := Lib.hid (BB.out.trans (hb.mono (by omega)))
  have CC := Lib.hid (CC.out.trans (hb.mono kD))
  clear but hb mF
  obtain ⟨_, c0, c1, c2, c3⟩ := K.out
  obtain ⟨_, t0, t1, t2, t3⟩ := T0.out
  obtain ⟨_, u0, u1, u2, u3⟩ := G0.out
  have tn : ((1 : Int) + la1 + lb1 + ln1 != 1 + la1 + lb1 + ln1) = false := by simp
  have tneg2 : ¬ ((1 : Int) + la1 + lb1 < 0) := by omega
  have tneg3 : ¬ ((1 : Int) + la1 + lb1 + ln1 < 0) := by omega
  go_wp2_with (fail)
  refine (heldRing_any n9 o9 A1 B1 la1 ca1 lb1 cb1 (markL Z9 la1 1 la1) (markL T9 lb1 (1 + la1) lb1) 1 w13 GA.out.ints GB.out.ints held_mark held_mark (by omega) (by omega) (by omega) (by omega)).mono ?_
  rintro e w14 ⟨rfl, hb⟩
  clear c0 c1 c2 c3 t0 t1 t2 t3 u0 u1 u2 u3
  have K := Lib.hid (K.out.next hb); have T0 := Lib.hid (T0.out.next hb); have G0 := Lib.hid (G0.out.next hb); have GA := Lib.hid (GA.out.next hb); have GB := Lib.hid (GB.out.next hb); have GF := Lib.hid (GF.out.next hb); have BB := Lib.hid (below_step BB.out hb); have CC := Lib.hid (below_step CC.out hb)
  have sw14 := hb.size
  clear hb
  obtain ⟨_, c0, c1, c2, c3⟩ := K.out
  obtain ⟨_, t0, t1, t2, t3⟩ := T0.out
  obtain ⟨_, u0, u1, u2, u3⟩ := G0.out
  go_wp2_with (fail)
  refine (heldIntS_any N1 ln1 cn1 (markL ZL ln1 (1 + la1 + lb1) ln1) (1 + la1 + lb1) w14 _ GF.out.ints held_mark (by omega) (by omega) (by omega)).mono ?_
  rintro e _ ⟨rfl, rfl⟩
  go_wp2_with (fail)
  refine (toRing_any n o A B la ca lb cb X Y w14 (HX0.out.next BB.out) (HY0.out.next BB.out) hla2 hlb2).mono ?_
  rintro e w15 ⟨g1j, g2j, rfl, ow1, ow2, hltj, hb⟩
  have O1j := Lib.hid (own_of_row ow1 HX0.out.1)
  have O2j := Lib.hid (own_of_row ow2 HY0.out.1)
  have hg1j := (ow1.lt g1j rfl).2
  have hg2j := (ow2.lt g2j rfl).2
  have hm1j := (ow1.lt g1j rfl).1
  have hm2j := (ow2.lt g2j rfl).1
  clear c0 c1 c2 c3 t0 t1 t2 t3 u0 u1 u2 u3
  have K := Lib.hid (K.out.next hb); have T0 := Lib.hid (T0.out.next hb); have G0 := Lib.hid (G0.out.next hb); have GA := Lib.hid (GA.out.next hb); have GB := Lib.hid (GB.out.next hb); have GF := Lib.hid (GF.out.next hb); have BB := Lib.hid (below_step BB.out hb); have CC := Lib.hid (below_step CC.out hb)
  have sw15 := hb.size
  clear hb ow1 ow2
  obtain ⟨_, c0, c1, c2, c3⟩ := K.out
  obtain ⟨_, t0, t1, t2, t3⟩ := T0.out
  obtain ⟨_, u0, u1, u2, u3⟩ := G0.out
  go_wp2_with (fail)
  refine (hI.out _ _ w15 O1j.out.ints O2j.out.ints).mono ?_
  rintro e w16 ⟨v2, u2, rfl, ⟨A2, la2, ca2, B2, lb2, cb2, rfl, oA, oB, ⟨ap, bl1, bl2, bl3, _, _⟩, _, _⟩, ⟨N2, ln2, cn2, rfl, oN, _, bl4⟩, aprl, hb⟩
  have HF2 := Lib.hid oN
  have en2 : ln2 = ln1 := by rw [← oN.1, en9]
  have HA2 := Lib.hid oA
  have HB2 := Lib.hid oB
  have el2 : la2 = la1 := by rw [← oA.1, el9]
  have em2 : lb2 = lb1 := by rw [← oB.1, em9]
  subst el2
  subst em2
  subst en2
  clear c0 c1 c2 c3 t0 t1 t2 t3 u0 u1 u2 u3
  have K := Lib.hid (K.out.next hb); have T0 := Lib.hid (T0.out.next hb); have G0 := Lib.hid (G0.out.next hb); have GA := Lib.hid (GA.out.next hb); have GB := Lib.hid (GB.out.next hb); have GF := Lib.hid (GF.out.next hb); have BB := Lib.hid (below_step BB.out hb); have CC := Lib.hid (below_step CC.out hb)
  have sw16 := hb.size
  clear hb oA oB oN ap aprl bl1 bl2 bl3 bl4
  obtain ⟨_, c0, c1, c2, c3⟩ := K.out
  obtain ⟨_, t0, t1, t2, t3⟩ := T0.out
  obtain ⟨_, u0, u1, u2, u3⟩ := G0.out
  go_upto_region 29 with (fail)
  clear c0 c1 c2 c3 t0 t1 t2 t3 u0 u1 u2 u3
  obtain ⟨R, hR⟩ : ∃ V, w16.alloc (.cells #[.int .i64 n9, .int .i64 o9, .slice A2 la2 ca2, .slice B2 lb2 cb2] 26) = V := ⟨_, rfl⟩
  have r0 : Blk R w16.heap.size 26 #[.int .i64 n9, .int .i64 o9, .slice A2 la2 ca2, .slice B2 lb2 cb2] := by
    subst hR; exact Blk.new w16 _ _
  have br : Below w16.heap.size w16 R := by
    subst hR; exact (Below.refl _ _).alloc (Nat.le_refl _) _
  rw [hR]
  clear hR
  have hsr := r0.lt
  have H0 := Lib.hid (C4.of r0)
  have K := Lib.hid (K.out.next br); have T0 := Lib.hid (T0.out.next br); have G0 := Lib.hid (G0.out.next br); have GA := Lib.hid (GA.out.next br); have GB := Lib.hid (GB.out.next br); have GF := Lib.hid (GF.out.next br); have HA2 := Lib.hid (HA2.out.next br); have HB2 := Lib.hid (HB2.out.next br); have HF2 := Lib.hid (HF2.out.next br); have BB := Lib.hid (below_step BB.out br); have CC := Lib.hid (below_step CC.out br)
  have sR := br.size
  clear r0 br
  obtain ⟨_, c0, c1, c2, c3⟩ := K.out
  obtain ⟨_, t0, t1, t2, t3⟩ := T0.out
  obtain ⟨_, u0, u1, u2, u3⟩ := G0.out
  obtain ⟨_, h0, h1, h2, h3⟩ := H0.out
  go_wp2_with (fail)
  refine (eqRing_same n9 o9 A2 B2 A9 B9 la2 ca2 lb2 cb2 ca9 cb9 Z9 T9 R HA2.out.ints HB2.out.ints (JA.out.next CC.out) (JB.out.next CC.out) (by omega) (by omega)).mono ?_
  rintro e w17 ⟨rfl, hb⟩
  clear c0 c1 c2 c3 t0 t1 t2 t3 u0 u1 u2 u3 h0 h1 h2 h3
  have K := Lib.hid (K.out.next hb); have T0 := Lib.hid (T0.out.next hb); have G0 := Lib.hid (G0.out.next hb); have GA := Lib.hid (GA.out.next hb); have GB := Lib.hid (GB.out.next hb); have GF := Lib.hid (GF.out.next hb); have HA2 := Lib.hid (HA2.out.next hb); have HB2 := Lib.hid (HB2.out.next hb); have HF2 := Lib.hid (HF2.out.next hb); have H0 := Lib.hid (H0.out.next hb); have BB := Lib.hid (below_step BB.out hb); have CC := Lib.hid (below_step CC.out hb)
  have sw17 := hb.size
  clear hb
  obtain ⟨_, c0, c1, c2, c3⟩ := K.out
  obtain ⟨_, t0, t1, t2, t3⟩ := T0.out
  obtain ⟨_, u0, u1, u2, u3⟩ := G0.out
  obtain ⟨_, h0, h1, h2, h3⟩ := H0.out
  go_wp2_with (fail)
  refine (eqIntS_same N2 N9 ln2 cn2 cn9 ZL w17 _ _ HF2.out.ints (JF.out.next CC.out) (by omega)).mono ?_
  rintro e w18 ⟨rfl, hb⟩
  clear c0 c1 c2 c3 t0 t1 t2 t3 u0 u1 u2 u3 h0 h1 h2 h3
  have K := Lib.hid (K.out.next hb); have T0 := Lib.hid (T0.out.next hb); have G0 := Lib.hid (G0.out.next hb); have GA := Lib.hid (GA.out.next hb); have GB := Lib.hid (GB.out.next hb); have GF := Lib.hid (GF.out.next hb); have HA2 := Lib.hid (HA2.out.next hb); have HB2 := Lib.hid (HB2.out.next hb); have HF2 := Lib.hid (HF2.out.next hb); have H0 := Lib.hid (H0.out.next hb); have BB := Lib.hid (below_step BB.out hb); have CC := Lib.hid (below_step CC.out hb)
  have sw18 := hb.size
  clear hb
  obtain ⟨_, c0, c1, c2, c3⟩ := K.out
  obtain ⟨_, t0, t1, t2, t3⟩ := T0.out
  obtain ⟨_, u0, u1, u2, u3⟩ := G0.out
  obtain ⟨_, h0, h1, h2, h3⟩ := H0.out
  go_wp2_with (fail)
  refine (heldRing_any n9 o9 A1 B1 la2 ca1 lb2 cb1 (markL Z9 la2 1 la2) (markL T9 lb2 (1 + la2) lb2) 1 w18 GA.out.ints GB.out.ints held_mark held_mark (by omega) (by omega) (by omega) (by omega)).mono ?_
  rintro e w19 ⟨rfl, hb⟩
  clear c0 c1 c2 c3 t0 t1 t2 t3 u0 u1 u2 u3 h0 h1 h2 h3
  have K := Lib.hid (K.out.next hb); have GF := Lib.hid (GF.out.next hb); have BB := Lib.hid (below_step BB.out hb); have CC := Lib.hid (below_step CC.out hb)
  clear hb
  go_wp2_with (fail)
  refine (heldIntS_any N1 ln2 cn1 (markL ZL ln2 (1 + la2 + lb2) ln2) (1 + la2 + lb2) w19 _ GF.out.ints held_mark (by omega) (by omega) (by omega)).mono ?_
  rintro e _ ⟨rfl, rfl⟩
  go_wp2
  go_ret
  exact ⟨rfl, BB.out⟩

end Go.Proofs.Yteoodcgppidomaa
