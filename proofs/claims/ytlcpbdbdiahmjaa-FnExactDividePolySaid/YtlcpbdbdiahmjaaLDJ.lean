
import Derived.Test.YtlcpbdbdiahmjaaMB
import Derived.Test.YtlcpbdbdiahmjaaNQ
/- The walk of the law FnExactDividePoly, whatever the function hands back, if both sides hand back the same. -/
namespace Go.Proofs.Ytlcpbdbdiahmjaa
open Go.RowKit
set_option maxRecDepth 100000

set_option maxHeartbeats 8000000 in
theorem fnExactDividePoly_walk (n o : Int) (A B : Option Addr) (la ca lb cb : Nat) (X Y : List Int) (F1 : Option Addr) (f1 cf1 : Nat) (X1 : List Int) (F2 : Option Addr) (f2 cf2 : Nat) (X2 : List Int) (Z Z2 : List Int) (ok : Bool) (w : World) (hX : Ints w w.heap.size A la X) (hY : Ints w w.heap.size B lb Y) (hla : la ≤ 9223372036854775807) (hlb : lb ≤ 9223372036854775807) (hF1 : Ints w w.heap.size F1 f1 X1) (hf1 : f1 ≤ 9223372036854775807) (hF2 : Ints w w.heap.size F2 f2 X2) (hf2 : f2 ≤ 9223372036854775807) 
    (hS0 : ∀ (A B : Option Addr) (F1 : Option Addr) (F2 : Option Addr) (w : World),Ints w w.heap.size A la X → Ints w w.heap.size B lb Y → Ints w w.heap.size F1 f1 X1 → Ints w w.heap.size F2 f2 X2 → Calls Try.prog 14 #[.agg #[.int .i64 n, .int .i64 o, .slice A la la, .slice B lb lb], .slice F1 f1 f1, .slice F2 f2 f2] w fun e w' => ∃ u v, e = .returned (.tuple #[u, v, .bool ok]) ∧ SliceOut w.heap.size w' u Z ∧ SliceOut w.heap.size w' v Z2 ∧ Below w.heap.size w w')
    (hI0 : ∀ (A B : Option Addr) (F1 : Option Addr) (F2 : Option Addr) (w : World),Ints w w.heap.size A la X → Ints w w.heap.size B lb Y → Ints w w.heap.size F1 f1 X1 → Ints w w.heap.size F2 f2 X2 → Calls Try.prog 13 #[.agg #[.int .i64 n, .int .i64 o, .slice A la la, .slice B lb lb], .slice F1 f1 f1, .slice F2 f2 f2] w fun e w' => ∃ u v, e = .returned (.tuple #[u, v, .bool ok]) ∧ SliceOut w.heap.size w' u Z ∧ SliceOut w.heap.size w' v Z2 ∧ Dsj Z.length Z2.length u v ∧ Below w.heap.size w w') :
    Calls Try.prog 11 #[.agg #[.int .i64 n, .int .i64 o, .slice A la ca, .slice B lb cb], .slice F1 f1 cf1, .slice F2 f2 cf2] w fun e w' => e = .returned (.bool true) ∧ Below w.heap.size w w' := by
  have hS := Lib.hid hS0
  have hI := Lib.hid hI0
  have HX0 := Lib.hid hX
  have HY0 := Lib.hid hY
  have HF1 := Lib.hid hF1
  have HF2 := Lib.hid hF2
  clear hS0 hI0 hX hY hF1 hF2
  obtain ⟨W, hW⟩ : ∃ W, w.alloc (.cells #[.int .i64 n, .int .i64 o, .slice A la ca, .slice B lb cb] 45) = W := ⟨_, rfl⟩
  have k0 : Blk W w.heap.size 45 #[.int .i64 n, .int .i64 o, .slice A la ca, .slice B lb cb] := by
    subst hW; exact Blk.new w _ _
  have b0 : Below w.heap.size w W := by
    subst hW; exact (Below.refl _ _).alloc (Nat.le_refl _) _
  have hs0 := k0.lt
  have K := Lib.hid k0
  have BB := Lib.hid b0
  have HW := Lib.hid hW
  clear k0 b0 hW
  by_cases hz1 : f1 ≤ 1048576
  rotate_left
  · have hy : (1048576 : Int) < (f1 : Int) := by omega
    go_enter Try.func11, Try.ntmps11
    go_wp2
    go_ret
    exact ⟨rfl, by rw [HW.out]; exact BB.out⟩
  have hzz1 : ¬ (1048576 : Int) < (f1 : Int) := by omega
  have hzw1 : (f1 : Int) ≤ 1048576 := by omega
  by_cases hz2 : f2 ≤ 1048576
  rotate_left
  · have hy : (1048576 : Int) < (f2 : Int) := by omega
    go_enter Try.func11, Try.ntmps11
    go_wp2
    go_ret
    exact ⟨rfl, by rw [HW.out]; exact BB.out⟩
  have hzz2 : ¬ (1048576 : Int) < (f2 : Int) := by omega
  have hzw2 : (f2 : Int) ≤ 1048576 := by omega
  by_cases hsz : (la : Int) + lb ≤ 1048576
  rotate_left
  · have e1 := Lib.hid (szR_no hsz)
    go_enter Try.func11, Try.ntmps11
    go_wp2_with (fail)
    rw [HW.out]
    refine (szRing_any n o A B la ca lb cb 1048576 _ (by omega) (by omega) hla hlb).mono ?_
    rintro e w1 ⟨rfl, hb1⟩
    rw [e1.out]
    go_wp2
    go_ret
    exact ⟨rfl, below_step BB.out hb1⟩
  have e1 := Lib.hid (szR_yes hsz)
  have hla2 : la ≤ 1048576 := by omega
  have hlb2 : lb ≤ 1048576 := by omega
  go_enter Try.func11, Try.ntmps11
  go_wp2_with (fail)
  rw [HW.out]
  refine (szRing_any n o A B la ca lb cb 1048576 W (by omega) (by omega) hla hlb).mono ?_
  rintro e w1 ⟨rfl, hb1⟩
  rw [e1.out]
  have K := Lib.hid (K.out.next hb1); have BB := Lib.hid (below_step BB.out hb1)
  have s1 := hb1.size
  clear hb1
  obtain ⟨c0, c1, c2, c3⟩ := blk4 K.out
  go_wp2_with (fail)
  refine (toRing_any n o A B la ca lb cb X Y w1 (HX0.out.next BB.out) (HY0.out.next BB.out) hla2 hlb2).mono ?_
  rintro e w2 ⟨g1s, g2s, rfl, ow1, ow2, hlts, hb⟩
  have O1s := Lib.hid (own_of_row ow1 HX0.out.1)
  have O2s := Lib.hid (own_of_row ow2 HY0.out.1)
  have hg1s := (ow1.lt g1s rfl).2
  have hg2s := (ow2.lt g2s rfl).2
  have K := Lib.hid (K.out.next hb); have BB := Lib.hid (below_step BB.out hb)
  have sw2 := hb.size
  clear hb ow1 ow2 c0 c1 c2 c3
  obtain ⟨c0, c1, c2, c3⟩ := blk4 K.out
  go_wp2_with (fail)
  refine (toIntS_any F1 f1 cf1 X1 w2 (HF1.out.next BB.out) hz1).mono ?_
  rintro e w3 ⟨rfl, ow1, hb⟩
  have L1s := Lib.hid (own_of_row ow1 HF1.out.1)
  have hl1s := (ow1.lt w2.heap.size rfl).2
  have K := Lib.hid (K.out.next hb); have O1s := Lib.hid (O1s.out.next hb); have O2s := Lib.hid (O2s.out.next hb); have BB := Lib.hid (below_step BB.out hb)
  have sw3 := hb.size
  clear hb ow1
  clear c0 c1 c2 c3
  obtain ⟨c0, c1, c2, c3⟩ := blk4 K.out
  go_wp2_with (fail)
  refine (toIntS_any F2 f2 cf2 X2 w3 (HF2.out.next BB.out) hz2).mono ?_
  rintro e w4 ⟨rfl, ow1, hb⟩
  have L2s := Lib.hid (own_of_row ow1 HF2.out.1)
  have hl2s := (ow1.lt w3.heap.size rfl).2
  have K := Lib.hid (K.out.next hb); have O1s := Lib.hid (O1s.out.next hb); have O2s := Lib.hid (O2s.out.next hb); have L1s := Lib.hid (L1s.out.next hb); have BB := Lib.hid (below_step BB.out hb)
  have sw4 := hb.size
  clear hb ow1
  clear c0 c1 c2 c3
  obtain ⟨c0, c1, c2, c3⟩ := blk4 K.out
  go_wp2_with (fail)
  refine (hS.out _ _ _ _ w4 O1s.out.ints O2s.out.ints L1s.out.ints L2s.out.ints).mono ?_
  rintro e w5 ⟨u3, v3, rfl, ⟨A3, l3, c3x, rfl, oA3, _, hl3⟩, ⟨B3, m3, d3x, rfl, oB3, _, hm3⟩, hb⟩
  have SA0 := Lib.hid oA3.ints
  have el3 := oA3.1
  have SB0 := Lib.hid oB3.ints
  have em3 := oB3.1
  have K := Lib.hid (K.out.next hb); have BB := Lib.hid (below_step BB.out hb)
  have CC := Lib.hid (Below.refl w5.heap.size w5)
  have sw5 := hb.size
  clear hb oA3 oB3 c0 c1 c2 c3
  obtain ⟨c0, c1, c2, c3⟩ := blk4 K.out
  have k3 : w.heap.size < w5.heap.size := by omega
  have kw3 : w.heap.size ≤ w5.heap.size := by omega
  go_wp2_with (fail)
  refine (toRing_any n o A B la ca lb cb X Y w5 (HX0.out.next BB.out) (HY0.out.next BB.out) hla2 hlb2).mono ?_
  rintro e w6 ⟨g1i, g2i, rfl, ow1, ow2, hlti, hb⟩
  have O1i := Lib.hid (own_of_row ow1 HX0.out.1)
  have O2i := Lib.hid (own_of_row ow2 HY0.out.1)
  have hg1i := (ow1.lt g1i rfl).2
  have hg2i := (ow2.lt g2i rfl).2
  have K := Lib.hid (K.out.next hb); have BB := Lib.hid (below_step BB.out hb); have CC := Lib.hid (below_step CC.out hb)
  have sw6 := hb.size
  clear hb ow1 ow2 c0 c1 c2 c3
  obtain ⟨c0, c1, c2, c3⟩ := blk4 K.out
  go_wp2_with (fail)
  obtain ⟨V, hV⟩ : ∃ V, w6.alloc (.cells #[.int .i64 n, .int .i64 o, .slice (some ⟨g1i, 0, none⟩) la la, .slice (some ⟨g2i, 0, none⟩) lb lb] 25) = V := ⟨_, rfl⟩
  have v0 : Blk V w6.heap.size 25 #[.int .i64 n, .int .i64 o, .slice (some ⟨g1i, 0, none⟩) la la, .slice (some ⟨g2i, 0, none⟩) lb lb] := by
    subst hV; exact Blk.new w6 _ _
  have bv : Below w6.heap.size w6 V := by
    subst hV; exact (Below.refl _ _).alloc (Nat.le_refl _) _
  rw [hV]
  clear hV
  have hsv := v0.lt
  have V0 := Lib.hid v0
  have K := Lib.hid (K.out.next bv); have O1i := Lib.hid (O1i.out.next bv); have O2i := Lib.hid (O2i.out.next bv); have BB := Lib.hid (below_step BB.out bv); have CC := Lib.hid (below_step CC.out bv)
  clear v0 bv
  clear c0 c1 c2 c3
  obtain ⟨c0, c1, c2, c3⟩ := blk4 K.out
  obtain ⟨d0, d1, d2, d3⟩ := blk4 V0.out
  refine (toIntS_any F1 f1 cf1 X1 V (HF1.out.next BB.out) hz1).mono ?_
  rintro e w7 ⟨rfl, ow1, hb⟩
  have L1i := Lib.hid (own_of_row ow1 HF1.out.1)
  have hl1i := (ow1.lt V.heap.size rfl).2
  have K := Lib.hid (K.out.next hb); have O1i := Lib.hid (O1i.out.next hb); have O2i := Lib.hid (O2i.out.next hb); have V0 := Lib.hid (V0.out.next hb); have BB := Lib.hid (below_step BB.out hb); have CC := Lib.hid (below_step CC.out hb)
  have sw7 := hb.size
  clear hb ow1
  clear c0 c1 c2 c3 d0 d1 d2 d3
  obtain ⟨c0, c1, c2, c3⟩ := blk4 K.out
  obtain ⟨d0, d1, d2, d3⟩ := blk4 V0.out
  go_wp2_with (fail)
  refine (toIntS_any F2 f2 cf2 X2 w7 (HF2.out.next BB.out) hz2).mono ?_
  rintro e w8 ⟨rfl, ow1, hb⟩
  have L2i := Lib.hid (own_of_row ow1 HF2.out.1)
  have hl2i := (ow1.lt w7.heap.size rfl).2
  have K := Lib.hid (K.out.next hb); have O1i := Lib.hid (O1i.out.next hb); have O2i := Lib.hid (O2i.out.next hb); have V0 := Lib.hid (V0.out.next hb); have L1i := Lib.hid (L1i.out.next hb); have BB := Lib.hid (below_step BB.out hb); have CC := Lib.hid (below_step CC.out hb)
  have sw8 := hb.size
  clear hb ow1
  clear c0 c1 c2 c3 d0 d1 d2 d3
  obtain ⟨c0, c1, c2, c3⟩ := blk4 K.out
  obtain ⟨d0, d1, d2, d3⟩ := blk4 V0.out
  go_wp2_with (fail)
  refine (hI.out _ _ _ _ w8 O1i.out.ints O2i.out.ints L1i.out.ints L2i.out.ints).mono ?_
  rintro e w9 ⟨u6, v6, rfl, ⟨A6, l6, c6x, rfl, oA6, _, hl6⟩, ⟨B6, m6, d6x, rfl, oB6, _, hm6⟩, dsj, hb⟩
  have K := Lib.hid (K.out.next hb); have O1i := Lib.hid (O1i.out.next hb); have O2i := Lib.hid (O2i.out.next hb); have V0 := Lib.hid (V0.out.next hb); have L1i := Lib.hid (L1i.out.next hb); have L2i := Lib.hid (L2i.out.next hb); have BB := Lib.hid (below_step BB.out hb); have CC := Lib.hid (below_step CC.out hb)
  have sw9 := hb.size
  have GA := Lib.hid oA6
  have GB := Lib.hid oB6
  have el6 : l6 = l3 := by rw [← oA6.1, el3]
  subst el6
  have em6 : m6 = m3 := by rw [← oB6.1, em3]
  subst em6
  rw [el3, em3] at dsj
  have DJ := Lib.hid dsj
  clear hb oA6 oB6 dsj c0 c1 c2 c3 d0 d1 d2 d3
  obtain ⟨c0, c1, c2, c3⟩ := blk4 K.out
  obtain ⟨d0, d1, d2, d3⟩ := blk4 V0.out
  have tok : (ok != ok) = false := by simp
  go_wp2_with (first
    | (go_at_call 31; (with_reducible refine (eqIntS_same A6 A3 l6 c6x c3x Z _ _ _ GA.out.ints (SA0.out.next CC.out) (by omega)).mono ?_); rintro e w10 ⟨rfl, hbw10⟩; have K := Lib.hid (K.out.next hbw10); have O1i := Lib.hid (O1i.out.next hbw10); have O2i := Lib.hid (O2i.out.next hbw10); have V0 := Lib.hid (V0.out.next hbw10); have L1i := Lib.hid (L1i.out.next hbw10); have L2i := Lib.hid (L2i.out.next hbw10); have GA := Lib.hid (GA.out.next hbw10); have GB := Lib.hid (GB.out.next hbw10); have BB := Lib.hid (below_step BB.out hbw10); have CC := Lib.hid (below_step CC.out hbw10); have sw10 := hbw10.size; clear hbw10; clear c0 c1 c2 c3 d0 d1 d2 d3; obtain ⟨c0, c1, c2, c3⟩ := blk4 K.out; obtain ⟨d0, d1, d2, d3⟩ := blk4 V0.out)
    | (go_at_call 31; (with_reducible refine (eqIntS_same B6 B3 m6 d6x d3x Z2 _ _ _ GB.out.ints (SB0.out.next CC.out) (by omega)).mono ?_); rintro e w11 ⟨rfl, hbw11⟩; have K := Lib.hid (K.out.next hbw11); have O1i := Lib.hid (O1i.out.next hbw11); have O2i := Lib.hid (O2i.out.next hbw11); have V0 := Lib.hid (V0.out.next hbw11); have L1i := Lib.hid (L1i.out.next hbw11); have L2i := Lib.hid (L2i.out.next hbw11); have GA := Lib.hid (GA.out.next hbw11); have GB := Lib.hid (GB.out.next hbw11); have BB := Lib.hid (below_step BB.out hbw11); have CC := Lib.hid (below_step CC.out hbw11); have sw11 := hbw11.size; clear hbw11; clear c0 c1 c2 c3 d0 d1 d2 d3; obtain ⟨c0, c1, c2, c3⟩ := blk4 K.out; obtain ⟨d0, d1, d2, d3⟩ := blk4 V0.out))
  have D6 := Lib.hid ((Below.refl w11.heap.size w11).drew)
  have J1d := Lib.hid ((HX0.out.next BB.out).next D6.out)
  have J2d := Lib.hid ((HY0.out.next BB.out).next D6.out)
  have I7d := Lib.hid (O1i.out.ints.next D6.out)
  have I8d := Lib.hid (O2i.out.ints.next D6.out)
  have hsd : w.heap.size < w11.drew.heap.size := (show w.heap.size < w11.heap.size by omega)
  have hsd4 : w6.heap.size < w11.drew.heap.size := (show w6.heap.size < w11.heap.size by omega)
  go_region_held3 (fun w' => w'.cell? ⟨w.heap.size, 0, none⟩ = some (.int .i64 n) ∧ w'.cell? ⟨w.heap.size, 1, none⟩ = some (.int .i64 o) ∧ w'.cell? ⟨w.heap.size, 2, none⟩ = some (.slice A la ca) ∧ w'.cell? ⟨w.heap.size, 3, none⟩ = some (.slice B lb cb) ∧
      w'.cell? ⟨w6.heap.size, 0, none⟩ = some (.int .i64 n) ∧ w'.cell? ⟨w6.heap.size, 1, none⟩ = some (.int .i64 o) ∧ w'.cell? ⟨w6.heap.size, 2, none⟩ = some (.slice (some ⟨g1i, 0, none⟩) la la) ∧ w'.cell? ⟨w6.heap.size, 3, none⟩ = some (.slice (some ⟨g2i, 0, none⟩) lb lb))
    (first | exact ⟨c0, c1, c2, c3, d0, d1, d2, d3⟩ | exact ⟨r0, r1, r2, r3, t0, t1, t2, t3⟩ | exact ⟨y0, y1, y2, y3, z0, z1, z2, z3⟩)
    (first
      | (go_at_call 38; refine (toRing_any n o A B la ca lb cb X Y _ J1d.out J2d.out hla2 hlb2).mono ?_; rintro e u7 ⟨g5, g6, rfl, ow5, ow6, hlt3, hb7⟩; obtain ⟨r0, r1, r2, r3, hs8⟩ := box4_next hb7 hsd c0 c1 c2 c3; obtain ⟨t0, t1, t2, t3, hs9⟩ := box4_next hb7 hsd4 d0 d1 d2 d3; have I9 := Lib.hid (ints_of_own ow5 HX0.out.1); have I10 := Lib.hid (ints_of_own ow6 HY0.out.1); have B7 := Lib.hid hb7; have I11 := Lib.hid (I7d.out.next hb7); have I12 := Lib.hid (I8d.out.next hb7); clear hb7 ow5 ow6)
      | (go_at_call 40; refine (eqRing_same n o _ _ _ _ la la lb lb la lb X Y _ I11.out I12.out I9.out I10.out hla hlb).mono ?_; rintro e w12 ⟨rfl, hb8⟩; obtain ⟨y0, y1, y2, y3, hs10⟩ := box4_next hb8 (Nat.lt_of_lt_of_le hsd hs8) r0 r1 r2 r3; obtain ⟨z0, z1, z2, z3, hs11⟩ := box4_next hb8 (Nat.lt_of_lt_of_le hsd4 hs8) t0 t1 t2 t3; have B8 := Lib.hid hb8; clear hb8))
  have q8 : Below w11.heap.size w11 w12 := D6.out.trans ((B7.out.mono (Nat.le_refl _)).trans (B8.out.mono hs8))
  have K := Lib.hid (K.out.next q8); have O1i := Lib.hid (O1i.out.next q8); have O2i := Lib.hid (O2i.out.next q8); have V0 := Lib.hid (V0.out.next q8); have L1i := Lib.hid (L1i.out.next q8); have L2i := Lib.hid (L2i.out.next q8); have GA := Lib.hid (GA.out.next q8); have GB := Lib.hid (GB.out.next q8); have BB := Lib.hid (below_step BB.out q8); have CC := Lib.hid (below_step CC.out q8)
  have sw12 := q8.size
  clear q8 c0 c1 c2 c3 d0 d1 d2 d3 r0 r1 r2 r3 t0 t1 t2 t3 y0 y1 y2 y3 z0 z1 z2 z3
  obtain ⟨c0, c1, c2, c3⟩ := blk4 K.out
  obtain ⟨d0, d1, d2, d3⟩ := blk4 V0.out
  go_wp2_with (fail)
  refine (toIntS_any F1 f1 cf1 X1 w12 (HF1.out.next BB.out) hz1).mono ?_
  rintro e w13 ⟨rfl, ow1, hb⟩
  have E1 := Lib.hid (own_of_row ow1 HF1.out.1)
  have K := Lib.hid (K.out.next hb); have O1i := Lib.hid (O1i.out.next hb); have O2i := Lib.hid (O2i.out.next hb); have V0 := Lib.hid (V0.out.next hb); have L1i := Lib.hid (L1i.out.next hb); have L2i := Lib.hid (L2i.out.next hb); have GA := Lib.hid (GA.out.next hb); have GB := Lib.hid (GB.out.next hb); have BB := Lib.hid (below_step BB.out hb); have CC := Lib.hid (below_step CC.out hb)
  have sw13 := hb.size
  clear hb ow1 c0 c1 c2 c3 d0 d1 d2 d3
  obtain ⟨c0, c1, c2, c3⟩ := blk4 K.out
  obtain ⟨d0, d1, d2, d3⟩ := blk4 V0.out
  go_wp2_with (fail)
  refine (eqIntS_same _ _ f1 f1 f1 X1 w13 _ _ L1i.out.ints E1.out.ints (by omega)).mono ?_
  rintro e w14 ⟨rfl, hb⟩
  have K := Lib.hid (K.out.next hb); have O1i := Lib.hid (O1i.out.next hb); have O2i := Lib.hid (O2i.out.next hb); have V0 := Lib.hid (V0.out.next hb); have L1i := Lib.hid (L1i.out.next hb); have L2i := Lib.hid (L2i.out.next hb); have GA := Lib.hid (GA.out.next hb); have GB := Lib.hid (GB.out.next hb); have BB := Lib.hid (below_step BB.out hb); have CC := Lib.hid (below_step CC.out hb)
  have sw14 := hb.size
  clear hb c0 c1 c2 c3 d0 d1 d2 d3
  obtain ⟨c0, c1, c2, c3⟩ := blk4 K.out
  obtain ⟨d0, d1, d2, d3⟩ := blk4 V0.out
  go_wp2_with (fail)
  refine (toIntS_any F2 f2 cf2 X2 w14 (HF2.out.next BB.out) hz2).mono ?_
  rintro e w15 ⟨rfl, ow1, hb⟩
  have E2 := Lib.hid (own_of_row ow1 HF2.out.1)
  have K := Lib.hid (K.out.next hb); have O1i := Lib.hid (O1i.out.next hb); have O2i := Lib.hid (O2i.out.next hb); have V0 := Lib.hid (V0.out.next hb); have L1i := Lib.hid (L1i.out.next hb); have L2i := Lib.hid (L2i.out.next hb); have GA := Lib.hid (GA.out.next hb); have GB := Lib.hid (GB.out.next hb); have BB := Lib.hid (below_step BB.out hb); have CC := Lib.hid (below_step CC.out hb)
  have sw15 := hb.size
  clear hb ow1 c0 c1 c2 c3 d0 d1 d2 d3
  obtain ⟨c0, c1, c2, c3⟩ := blk4 K.out
  obtain ⟨d0, d1, d2, d3⟩ := blk4 V0.out
  go_wp2_with (fail)
  refine (eqIntS_same _ _ f2 f2 f2 X2 w15 _ _ L2i.out.ints E2.out.ints (by omega)).mono ?_
  rintro e w16 ⟨rfl, hb⟩
  have K := Lib.hid (K.out.next hb); have O1i := Lib.hid (O1i.out.next hb); have O2i := Lib.hid (O2i.out.next hb); have V0 := Lib.hid (V0.out.next hb); have L1i := Lib.hid (L1i.out.next hb); have L2i := Lib.hid (L2i.out.next hb); have GA := Lib.hid (GA.out.next hb); have GB := Lib.hid (GB.out.next hb); have BB := Lib.hid (below_step BB.out hb); have CC := Lib.hid (below_step CC.out hb)
  have sw16 := hb.size
  clear hb c0 c1 c2 c3 d0 d1 d2 d3
  obtain ⟨c0, c1, c2, c3⟩ := blk4 K.out
  obtain ⟨d0, d1, d2, d3⟩ := blk4 V0.out
  have AP := Lib.hid (apart_two (k1 := la) (k2 := lb) hlti)
  go_wp2_with (fail)
  refine (markRing_any n o (some ⟨g1i, 0, none⟩) (some ⟨g2i, 0, none⟩) la la lb lb X Y 1 w16 w5.heap.size (O1i.out.down (by omega)) (O2i.out.down (by omega)) AP.out (by omega) hla2 hlb2 (by omega) (by omega)).mono ?_
  rintro e w17 ⟨rfl, _, _, keep, hb⟩
  have sw17 := hb.size
  have GA := Lib.hid (GA.out.marked sw17 keep (by omega) (by omega))
  have GB := Lib.hid (GB.out.marked sw17 keep (by omega) (by omega))
  have L1i := Lib.hid (L1i.out.marked sw17 keep (by omega) (by omega))
  have L2i := Lib.hid (L2i.out.marked sw17 keep (by omega) (by omega))
  have K := Lib.hid (K.out.below hb k3)
  have BB := Lib.hid (BB.out.trans (hb.mono kw3))
  have CC := Lib.hid (CC.out.trans hb)
  clear keep hb c0 c1 c2 c3 d0 d1 d2 d3
  obtain ⟨c0, c1, c2, c3⟩ := blk4 K.out
  have kv : w5.heap.size ≤ w8.heap.size := by omega
  go_wp2_with (fail)
  refine (markIntS_any _ f1 f1 X1 (1 + la + lb) w17 w5.heap.size (L1i.out.down (by omega)) hz1 (by omega) (by omega)).mono ?_
  rintro e w18 ⟨rfl, _, but, hb⟩
  have sw18 := hb.size
  have GA := Lib.hid (GA.out.markedI but (by omega))
  have GB := Lib.hid (GB.out.markedI but (by omega))
  have L2i := Lib.hid (L2i.out.markedI but (by omega))
  have K := Lib.hid (K.out.below hb k3)
  have BB := Lib.hid (BB.out.trans (hb.mono kw3))
  have CC := Lib.hid (CC.out.trans hb)
  clear but hb c0 c1 c2 c3
  obtain ⟨c0, c1, c2, c3⟩ := blk4 K.out
  go_wp2_with (fail)
  refine (markIntS_any _ f2 f2 X2 (1 + la + lb + f1) w18 w5.heap.size (L2i.out.down (by omega)) hz2 (by omega) (by omega)).mono ?_
  rintro e w19 ⟨rfl, _, but, hb⟩
  have sw19 := hb.size
  have GA := Lib.hid (GA.out.markedI but (by omega))
  have GB := Lib.hid (GB.out.markedI but (by omega))
  have K := Lib.hid (K.out.below hb k3)
  have BB := Lib.hid (BB.out.trans (hb.mono kw3))
  have CC := Lib.hid (CC.out.trans hb)
  clear but hb c0 c1 c2 c3
  obtain ⟨c0, c1, c2, c3⟩ := blk4 K.out
  have tneg : ((1 + la + lb + f1 + f2 : Int) < 0) = False := by simp; omega
  go_wp2_with (first
    | (go_at_call 31; (with_reducible refine (eqIntS_same A6 A3 l6 c6x c3x Z _ _ _ GA.out.ints (SA0.out.next CC.out) (by omega)).mono ?_); rintro e w20 ⟨rfl, hbw20⟩; have K := Lib.hid (K.out.next hbw20); have GA := Lib.hid (GA.out.next hbw20); have GB := Lib.hid (GB.out.next hbw20); have BB := Lib.hid (below_step BB.out hbw20); have CC := Lib.hid (below_step CC.out hbw20); have sw20 := hbw20.size; clear hbw20)
    | (go_at_call 31; (with_reducible refine (eqIntS_same B6 B3 m6 d6x d3x Z2 _ _ _ GB.out.ints (SB0.out.next CC.out) (by omega)).mono ?_); rintro e w21 ⟨rfl, hbw21⟩; have K := Lib.hid (K.out.next hbw21); have GA := Lib.hid (GA.out.next hbw21); have GB := Lib.hid (GB.out.next hbw21); have BB := Lib.hid (below_step BB.out hbw21); have CC := Lib.hid (below_step CC.out hbw21); have sw21 := hbw21.size; clear hbw21))
  go_wp2_with (fail)
  refine (markIntS_any A6 l6 c6x Z 1 w21 w8.heap.size GA.out (by omega) (by omega) (by omega)).mono ?_
  rintro e w22 ⟨rfl, mA, but, hb⟩
  have sw22 := hb.size
  have MA := Lib.hid mA
  have GB := Lib.hid (GB.out.kept but DJ.out.apart.symm)
  have K := Lib.hid (K.out.below hb (by omega))
  have BB := Lib.hid (BB.out.trans (hb.mono (by omega)))
  have CC := Lib.hid (CC.out.trans (hb.mono kv))
  clear mA but hb
  go_wp2_with (fail)
  refine (markIntS_any B6 m6 d6x Z2 (1 + l6) w22 w8.heap.size GB.out (by omega) (by omega) (by omega)).mono ?_
  rintro e w23 ⟨rfl, mB, but, hb⟩
  have sw23 := hb.size
  have MB := Lib.hid mB
  have MA := Lib.hid (MA.out.kept but DJ.out.apart)
  have K := Lib.hid (K.out.below hb (by omega))
  have BB := Lib.hid (BB.out.trans (hb.mono (by omega)))
  have CC := Lib.hid (CC.out.trans (hb.mono kv))
  clear mB but hb c0 c1 c2 c3
  have tn : ((1 : Int) + l6 + m6 != 1 + l6 + m6) = false := by simp
  have tneg2 : ¬ ((1 : Int) + l6 < 0) := by omega
  have tneg3 : ¬ ((1 : Int) + l6 + m6 < 0) := by omega
  go_wp2_with (first
    | (go_at_call 33; (with_reducible refine (heldIntS_any A6 l6 c6x (markL Z l6 1 l6) 1 w23 _ MA.out.ints held_mark (by omega) (by omega) (by omega)).mono ?_); rintro e w99 ⟨rfl, rfl⟩)
    | (go_at_call 33; (with_reducible refine (heldIntS_any B6 m6 d6x (markL Z2 m6 (1 + l6) m6) (1 + l6) w23 _ MB.out.ints held_mark (by omega) (by omega) (by omega)).mono ?_); rintro e w99 ⟨rfl, rfl⟩; obtain ⟨c0, c1, c2, c3⟩ := blk4 K.out))
  refine (toRing_any n o A B la ca lb cb X Y w23 (HX0.out.next BB.out) (HY0.out.next BB.out) hla2 hlb2).mono ?_
  rintro e w24 ⟨g1j, g2j, rfl, ow1, ow2, hltj, hb⟩
  have O1j := Lib.hid (own_of_row ow1 HX0.out.1)
  have O2j := Lib.hid (own_of_row ow2 HY0.out.1)
  have hg1j := (ow1.lt g1j rfl).2
  have hg2j := (ow2.lt g2j rfl).2
  have K := Lib.hid (K.out.next hb); have MA := Lib.hid (MA.out.next hb); have MB := Lib.hid (MB.out.next hb); have BB := Lib.hid (below_step BB.out hb); have CC := Lib.hid (below_step CC.out hb)
  have sw24 := hb.size
  clear hb ow1 ow2 c0 c1 c2 c3
  obtain ⟨c0, c1, c2, c3⟩ := blk4 K.out
  go_wp2_with (fail)
  refine (toIntS_any F1 f1 cf1 X1 w24 (HF1.out.next BB.out) hz1).mono ?_
  rintro e w25 ⟨rfl, ow1, hb⟩
  have L1j := Lib.hid (own_of_row ow1 HF1.out.1)
  have hl1j := (ow1.lt w24.heap.size rfl).2
  have K := Lib.hid (K.out.next hb); have MA := Lib.hid (MA.out.next hb); have MB := Lib.hid (MB.out.next hb); have O1j := Lib.hid (O1j.out.next hb); have O2j := Lib.hid (O2j.out.next hb); have BB := Lib.hid (below_step BB.out hb); have CC := Lib.hid (below_step CC.out hb)
  have sw25 := hb.size
  clear hb ow1
  clear c0 c1 c2 c3
  obtain ⟨c0, c1, c2, c3⟩ := blk4 K.out
  go_wp2_with (fail)
  refine (toIntS_any F2 f2 cf2 X2 w25 (HF2.out.next BB.out) hz2).mono ?_
  rintro e w26 ⟨rfl, ow1, hb⟩
  have L2j := Lib.hid (own_of_row ow1 HF2.out.1)
  have hl2j := (ow1.lt w25.heap.size rfl).2
  have K := Lib.hid (K.out.next hb); have MA := Lib.hid (MA.out.next hb); have MB := Lib.hid (MB.out.next hb); have O1j := Lib.hid (O1j.out.next hb); have O2j := Lib.hid (O2j.out.next hb); have L1j := Lib.hid (L1j.out.next hb); have BB := Lib.hid (below_step BB.out hb); have CC := Lib.hid (below_step CC.out hb)
  have sw26 := hb.size
  clear hb ow1
  clear c0 c1 c2 c3
  obtain ⟨c0, c1, c2, c3⟩ := blk4 K.out
  go_wp2_with (fail)
  refine (hI.out _ _ _ _ w26 O1j.out.ints O2j.out.ints L1j.out.ints L2j.out.ints).mono ?_
  rintro e w27 ⟨u9, v9, rfl, ⟨A9, l9, c9x, rfl, oA9, _, hl9⟩, ⟨B9, m9, d9x, rfl, oB9, _, hm9⟩, dsj, hb⟩
  have G9 := Lib.hid oA9.ints
  have H9 := Lib.hid oB9.ints
  have el9 : l9 = l6 := by rw [← oA9.1, el3]
  subst el9
  have em9 : m9 = m6 := by rw [← oB9.1, em3]
  subst em9
  have MA := Lib.hid (MA.out.next hb); have MB := Lib.hid (MB.out.next hb); have BB := Lib.hid (below_step BB.out hb); have CC := Lib.hid (below_step CC.out hb)
  have sw27 := hb.size
  clear hb oA9 oB9 dsj
  go_wp2_with (first
    | (go_at_call 31; (with_reducible refine (eqIntS_same A9 A3 l9 c9x c3x Z _ _ _ G9.out (SA0.out.next CC.out) (by omega)).mono ?_); rintro e w28 ⟨rfl, hb⟩; have MA := Lib.hid (MA.out.next hb); have MB := Lib.hid (MB.out.next hb); have H9 := Lib.hid (H9.out.next hb); have BB := Lib.hid (below_step BB.out hb); have CC := Lib.hid (below_step CC.out hb); clear hb)
    | (go_at_call 31; (with_reducible refine (eqIntS_same B9 B3 m9 d9x d3x Z2 _ _ _ H9.out (SB0.out.next CC.out) (by omega)).mono ?_); rintro e w29 ⟨rfl, hb⟩; have MA := Lib.hid (MA.out.next hb); have MB := Lib.hid (MB.out.next hb); have BB := Lib.hid (below_step BB.out hb); have CC := Lib.hid (below_step CC.out hb); clear hb)
    | (go_at_call 33; (with_reducible refine (heldIntS_any A6 l9 c6x (markL Z l9 1 l9) 1 w29 _ MA.out.ints held_mark (by omega) (by omega) (by omega)).mono ?_); rintro e w98 ⟨rfl, rfl⟩)
    | (go_at_call 33; (with_reducible refine (heldIntS_any B6 m9 d6x (markL Z2 m9 (1 + l9) m9) (1 + l9) w29 _ MB.out.ints held_mark (by omega) (by omega) (by omega)).mono ?_); rintro e w98 ⟨rfl, rfl⟩))
  go_ret
  exact ⟨rfl, BB.out⟩

end Go.Proofs.Ytlcpbdbdiahmjaa

