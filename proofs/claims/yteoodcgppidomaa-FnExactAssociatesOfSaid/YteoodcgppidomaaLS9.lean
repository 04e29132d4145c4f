
import Derived.Test.YteoodcgppidomaaMB
/- The walk of the law FnExactAssociatesOf, whatever the function hands back, if both sides hand back the same. -/
namespace Go.Proofs.Yteoodcgppidomaa
open Go.RowKit
set_option maxRecDepth 100000

set_option maxHeartbeats 4000000 in
theorem fnExactAssociatesOf_walk (n o : Int) (A B : Option Addr) (la ca lb cb : Nat) (X Y Z : List Int) (x : Int) (w : World) (hX : Ints w w.heap.size A la X) (hY : Ints w w.heap.size B lb Y) (hla : la ≤ 9223372036854775807) (hlb : lb ≤ 9223372036854775807)
    (hS0 : ∀ (A B : Option Addr) (w : World), Ints w w.heap.size A la X → Ints w w.heap.size B lb Y → Calls Try.prog 47 #[.agg #[.int .i64 n, .int .i64 o, .slice A la la, .slice B lb lb], .int .i64 x] w fun e w' => ∃ v, e = .returned v ∧ SliceOut w.heap.size w' v Z ∧ Below w.heap.size w w')
    (hI0 : ∀ (A B : Option Addr) (w : World), Ints w w.heap.size A la X → Ints w w.heap.size B lb Y → Calls Try.prog 48 #[.agg #[.int .i64 n, .int .i64 o, .slice A la la, .slice B lb lb], .int .i64 x] w fun e w' => ∃ v, e = .returned v ∧ SliceOut w.heap.size w' v Z ∧ Below w.heap.size w w') :
    Calls Try.prog 13 #[.agg #[.int .i64 n, .int .i64 o, .slice A la ca, .slice B lb cb], .int .i64 x] w fun e w' => e = .returned (.bool true) ∧ Below w.heap.size w w' := by
  have hS := Lib.hid hS0
  have hI := Lib.hid hI0
  have HX0 := Lib.hid hX
  have HY0 := Lib.hid hY
  clear hS0 hI0 hX hY
  obtain ⟨W, hW⟩ : ∃ W, w.alloc (.cells #[.int .i64 n, .int .i64 o, .slice A la ca, .slice B lb cb] 24) = W := ⟨_, rfl⟩
  have k0 : Blk W w.heap.size 24 #[.int .i64 n, .int .i64 o, .slice A la ca, .slice B lb cb] := by
    subst hW; exact Blk.new w _ _
  have b0 : Below w.heap.size w W := by
    subst hW; exact (Below.refl _ _).alloc (Nat.le_refl _) _
  have hs0 := k0.lt
  have K := Lib.hid k0
  have BB := Lib.hid b0
  have HW := Lib.hid hW
  clear k0 b0 hW
  by_cases hsz : (la : Int) + lb ≤ 1048576
  · have e1 := Lib.hid (szR_yes hsz)
    have hla2 : la ≤ 1048576 := by omega
    have hlb2 : lb ≤ 1048576 := by omega
    go_enter Try.func13, Try.ntmps13
    go_wp2_with (fail)
    rw [HW.out]
    refine (szRing_any n o A B la ca lb cb 1048576 W (by omega) (by omega) hla hlb).mono ?_
    rintro e w1 ⟨rfl, hb1⟩
    rw [e1.out]
    have K := Lib.hid (K.out.next hb1); have BB := Lib.hid (below_step BB.out hb1)
    have s1 := hb1.size
    clear hb1
    obtain ⟨c0, c1, c2, c3⟩ := blk4 K.out
    go_wp2_with (fail)
    refine (toRing_any n o A B la ca lb cb X Y w1 (HX0.out.next BB.out) (HY0.out.next BB.out) hla2 hlb2).mono ?_
    rintro e w2 ⟨g1, g2, rfl, ow1, ow2, _, hb2⟩
    have I1 := Lib.hid (ints_of_own ow1 HX0.out.1)
    have I2 := Lib.hid (ints_of_own ow2 HY0.out.1)
    have K := Lib.hid (K.out.next hb2); have BB := Lib.hid (below_step BB.out hb2)
    have s2 := hb2.size
    clear hb2 ow1 ow2 c0 c1 c2 c3
    obtain ⟨c0, c1, c2, c3⟩ := blk4 K.out
    go_wp2_with (fail)
    refine (hS.out _ _ w2 I1.out I2.out).mono ?_
    rintro e w3 ⟨v3, rfl, ⟨A3, l3, c3', rfl, oA3, _, hl3⟩, hb3⟩
    have SA0 := Lib.hid oA3.ints
    have K := Lib.hid (K.out.next hb3); have BB := Lib.hid (below_step BB.out hb3)
    have CC := Lib.hid (Below.refl w3.heap.size w3)
    have s3 := hb3.size
    have el3 := oA3.1
    clear hb3 oA3 c0 c1 c2 c3
    obtain ⟨c0, c1, c2, c3⟩ := blk4 K.out
    have k3 : w.heap.size < w3.heap.size := by omega
    go_wp2_with (fail)
    refine (toRing_any n o A B la ca lb cb X Y w3 (HX0.out.next BB.out) (HY0.out.next BB.out) hla2 hlb2).mono ?_
    rintro e w4 ⟨g3, g4, rfl, ow3, ow4, hlt2, hb4⟩
    have OX := Lib.hid (own_of_row ow3 HX0.out.1)
    have OY := Lib.hid (own_of_row ow4 HY0.out.1)
    have hg3 := (ow3.lt g3 rfl).2
    have hg4 := (ow4.lt g4 rfl).2
    have AP := Lib.hid (apart_two (k1 := la) (k2 := lb) hlt2)
    have K := Lib.hid (K.out.next hb4); have BB := Lib.hid (below_step BB.out hb4); have CC := Lib.hid (below_step CC.out hb4)
    have s4 := hb4.size
    clear hb4 ow3 ow4 c0 c1 c2 c3
    obtain ⟨c0, c1, c2, c3⟩ := blk4 K.out
    go_wp2_with (fail)
    obtain ⟨V, hV⟩ : ∃ V, w4.alloc (.cells #[.int .i64 n, .int .i64 o, .slice (some ⟨g3, 0, none⟩) la la, .slice (some ⟨g4, 0, none⟩) lb lb] 26) = V := ⟨_, rfl⟩
    have v0 : Blk V w4.heap.size 26 #[.int .i64 n, .int .i64 o, .slice (some ⟨g3, 0, none⟩) la la, .slice (some ⟨g4, 0, none⟩) lb lb] := by
      subst hV; exact Blk.new w4 _ _
    have bv : Below w4.heap.size w4 V := by
      subst hV; exact (Below.refl _ _).alloc (Nat.le_refl _) _
    rw [hV]
    clear hV
    have hsv := v0.lt
    have V0 := Lib.hid v0
    have K := Lib.hid (K.out.next bv); have OX := Lib.hid (OX.out.next bv); have OY := Lib.hid (OY.out.next bv); have BB := Lib.hid (below_step BB.out bv); have CC := Lib.hid (below_step CC.out bv)
    clear v0 bv c0 c1 c2 c3
    refine (hI.out _ _ V OX.out.ints OY.out.ints).mono ?_
    rintro e w6 ⟨v6, rfl, ⟨A6, l6, c6, rfl, oA6, _, hl6⟩, hb6⟩
    have GA := Lib.hid oA6
    have el6 : l6 = l3 := by rw [← oA6.1, el3]
    subst el6
    have K := Lib.hid (K.out.next hb6); have OX := Lib.hid (OX.out.next hb6); have OY := Lib.hid (OY.out.next hb6); have V0 := Lib.hid (V0.out.next hb6); have BB := Lib.hid (below_step BB.out hb6); have CC := Lib.hid (below_step CC.out hb6)
    have s6 := hb6.size
    clear hb6 oA6
    obtain ⟨c0, c1, c2, c3⟩ := blk4 K.out
    obtain ⟨d0, d1, d2, d3⟩ := blk4 V0.out
    go_wp2_with (go_at_call 21; (with_reducible refine (eqIntS_same A6 A3 l6 c6 c3' Z _ _ _ GA.out.ints (SA0.out.next CC.out) (by omega)).mono ?_); rintro e w7 ⟨rfl, hbw7⟩; have K := Lib.hid (K.out.next hbw7); have OX := Lib.hid (OX.out.next hbw7); have OY := Lib.hid (OY.out.next hbw7); have V0 := Lib.hid (V0.out.next hbw7); have GA := Lib.hid (GA.out.next hbw7); have BB := Lib.hid (below_step BB.out hbw7); have CC := Lib.hid (below_step CC.out hbw7); have sw7 := hbw7.size; clear hbw7)
    clear c0 c1 c2 c3 d0 d1 d2 d3
    obtain ⟨c0, c1, c2, c3⟩ := blk4 K.out
    obtain ⟨d0, d1, d2, d3⟩ := blk4 V0.out
    have D6 := Lib.hid ((Below.refl w7.heap.size w7).drew)
    have J1d := Lib.hid ((HX0.out.next BB.out).next D6.out)
    have J2d := Lib.hid ((HY0.out.next BB.out).next D6.out)
    have I7d := Lib.hid (OX.out.ints.next D6.out)
    have I8d := Lib.hid (OY.out.ints.next D6.out)
    have hsd : w.heap.size < w7.drew.heap.size := (show w.heap.size < w7.heap.size by omega)
    have hsd4 : w4.heap.size < w7.drew.heap.size := (show w4.heap.size < w7.heap.size by omega)
    go_region_held3 (fun w' => w'.cell? ⟨w.heap.size, 0, none⟩ = some (.int .i64 n) ∧ w'.cell? ⟨w.heap.size, 1, none⟩ = some (.int .i64 o) ∧ w'.cell? ⟨w.heap.size, 2, none⟩ = some (.slice A la ca) ∧ w'.cell? ⟨w.heap.size, 3, none⟩ = some (.slice B lb cb) ∧
        w'.cell? ⟨w4.heap.size, 0, none⟩ = some (.int .i64 n) ∧ w'.cell? ⟨w4.heap.size, 1, none⟩ = some (.int .i64 o) ∧ w'.cell? ⟨w4.heap.size, 2, none⟩ = some (.slice (some ⟨g3, 0, none⟩) la la) ∧ w'.cell? ⟨w4.heap.size, 3, none⟩ = some (.slice (some ⟨g4, 0, none⟩) lb lb))
      (first | exact ⟨c0, c1, c2, c3, d0, d1, d2, d3⟩ | exact ⟨r0, r1, r2, r3, t0, t1, t2, t3⟩ | exact ⟨y0, y1, y2, y3, z0, z1, z2, z3⟩)
      (first
        | (go_at_call 17; refine (toRing_any n o A B la ca lb cb X Y _ J1d.out J2d.out hla2 hlb2).mono ?_; rintro e u7 ⟨g5, g6, rfl, ow5, ow6, hlt3, hb7⟩; obtain ⟨r0, r1, r2, r3, hs8⟩ := box4_next hb7 hsd c0 c1 c2 c3; obtain ⟨t0, t1, t2, t3, hs9⟩ := box4_next hb7 hsd4 d0 d1 d2 d3; have I9 := Lib.hid (ints_of_own ow5 HX0.out.1); have I10 := Lib.hid (ints_of_own ow6 HY0.out.1); have B7 := Lib.hid hb7; have I11 := Lib.hid (I7d.out.next hb7); have I12 := Lib.hid (I8d.out.next hb7); clear hb7 ow5 ow6)
        | (go_at_call 20; refine (eqRing_same n o _ _ _ _ la la lb lb la lb X Y _ I11.out I12.out I9.out I10.out hla hlb).mono ?_; rintro e w8 ⟨rfl, hb8⟩; obtain ⟨y0, y1, y2, y3, hs10⟩ := box4_next hb8 (Nat.lt_of_lt_of_le hsd hs8) r0 r1 r2 r3; obtain ⟨z0, z1, z2, z3, hs11⟩ := box4_next hb8 (Nat.lt_of_lt_of_le hsd4 hs8) t0 t1 t2 t3; have B8 := Lib.hid hb8; clear hb8))
    have q8 : Below w7.heap.size w7 w8 := D6.out.trans ((B7.out.mono (Nat.le_refl _)).trans (B8.out.mono hs8))
    have K := Lib.hid (K.out.next q8); have OX := Lib.hid (OX.out.next q8); have OY := Lib.hid (OY.out.next q8); have GA := Lib.hid (GA.out.next q8); have BB := Lib.hid (below_step BB.out q8); have CC := Lib.hid (below_step CC.out q8)
    have s8 := q8.size
    clear q8 c0 c1 c2 c3 d0 d1 d2 d3 r0 r1 r2 r3 t0 t1 t2 t3 y0 y1 y2 y3
    go_wp2_with (fail)
    refine (markRing_any n o (some ⟨g3, 0, none⟩) (some ⟨g4, 0, none⟩) la la lb lb X Y 1 w8 w3.heap.size OX.out OY.out AP.out (by omega) hla2 hlb2 (by omega) (by omega)).mono ?_
    rintro e w9 ⟨rfl, _, _, keep, hb9⟩
    have s9 := hb9.size
    have GA := Lib.hid (GA.out.marked s9 keep (by omega) (by omega))
    have K := Lib.hid (K.out.below hb9 k3)
    have BB := Lib.hid (BB.out.trans (hb9.mono (by omega)))
    have CC := Lib.hid (CC.out.trans hb9)
    have k4 : w.heap.size < V.heap.size := by omega
    have k5 : w3.heap.size ≤ V.heap.size := by omega
    clear keep hb9 z0 z1 z2 z3
    have tneg : ((1 : Int) + la + lb < 0) = False := by simp; omega
    go_wp2_with (go_at_call 21; (with_reducible refine (eqIntS_same A6 A3 l6 c6 c3' Z _ _ _ GA.out.ints (SA0.out.next CC.out) (by omega)).mono ?_); rintro e w10 ⟨rfl, hbw10⟩; have K := Lib.hid (K.out.next hbw10); have GA := Lib.hid (GA.out.next hbw10); have BB := Lib.hid (below_step BB.out hbw10); have CC := Lib.hid (below_step CC.out hbw10); have sw10 := hbw10.size; clear hbw10)
    have MN := Lib.hid (own_not_new GA.out)
    go_wp2_with (fail)
    refine (markIntS_any A6 l6 c6 Z 1 w10 V.heap.size GA.out (by omega) (by omega) (by omega)).mono ?_
    rintro e w11 ⟨rfl, mA, _, hb11⟩
    have s11 := hb11.size
    have MA := Lib.hid mA
    have K := Lib.hid (K.out.below hb11 k4)
    have BB := Lib.hid (BB.out.trans (hb11.mono (by omega)))
    have CC := Lib.hid (CC.out.trans (hb11.mono k5))
    clear mA hb11
    have tn : ((1 : Int) + l6 != 1 + l6) = false := by simp
    have tneg2 : ¬ ((1 : Int) + l6 < 0) := by omega
    go_wp2_with (go_at_call 25; (with_reducible refine (heldIntS_any A6 l6 c6 (markL Z l6 1 l6) 1 w11 _ MA.out.ints held_mark (by omega) (by omega) (by omega)).mono ?_); rintro e w12 ⟨rfl, rfl⟩; obtain ⟨c0, c1, c2, c3⟩ := blk4 K.out)
    refine (toRing_any n o A B la ca lb cb X Y w11 (HX0.out.next BB.out) (HY0.out.next BB.out) hla2 hlb2).mono ?_
    rintro e w13 ⟨g7, g8, rfl, ow7, ow8, _, hb13⟩
    have I13 := Lib.hid (ints_of_own ow7 HX0.out.1)
    have I14 := Lib.hid (ints_of_own ow8 HY0.out.1)
    have MA := Lib.hid (MA.out.next hb13); have BB := Lib.hid (below_step BB.out hb13); have CC := Lib.hid (below_step CC.out hb13)
    have s13 := hb13.size
    clear hb13 ow7 ow8 c0 c1 c2 c3
    go_wp2_with (fail)
    refine (hI.out _ _ w13 I13.out I14.out).mono ?_
    rintro e w14 ⟨v14, rfl, ⟨A9, l9, c9, rfl, oA9, _, hl9⟩, hb14⟩
    have G9 := Lib.hid oA9.ints
    have el9 : l9 = l6 := by rw [← oA9.1, el3]
    subst el9
    have MA := Lib.hid (MA.out.next hb14); have BB := Lib.hid (below_step BB.out hb14); have CC := Lib.hid (below_step CC.out hb14)
    have s14 := hb14.size
    clear hb14 oA9
    go_wp2_with (first
      | (go_at_call 21; (with_reducible refine (eqIntS_same A9 A3 l9 c9 c3' Z _ _ _ G9.out (SA0.out.next CC.out) (by omega)).mono ?_); rintro e w15 ⟨rfl, hbw15⟩; have MA := Lib.hid (MA.out.next hbw15); have BB := Lib.hid (below_step BB.out hbw15); have CC := Lib.hid (below_step CC.out hbw15); have sw15 := hbw15.size; clear hbw15)
      | (go_at_call 25; (with_reducible refine (heldIntS_any A6 l9 c6 (markL Z l9 1 l9) 1 w15 _ MA.out.ints held_mark (by omega) (by omega) (by omega)).mono ?_); rintro e w16 ⟨rfl, rfl⟩))
    go_ret
    exact ⟨rfl, BB.out⟩
  · have e1 := Lib.hid (szR_no hsz)
    go_enter Try.func13, Try.ntmps13
    go_wp2_with (fail)
    rw [HW.out]
    refine (szRing_any n o A B la ca lb cb 1048576 _ (by omega) (by omega) hla hlb).mono ?_
    rintro e w1 ⟨rfl, hb1⟩
    rw [e1.out]
    go_wp2
    go_ret
    exact ⟨rfl, below_step BB.out hb1⟩

end Go.Proofs.Yteoodcgppidomaa
