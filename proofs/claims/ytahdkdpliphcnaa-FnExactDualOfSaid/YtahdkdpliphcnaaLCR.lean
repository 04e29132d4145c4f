
import Derived.Test.YtahdkdpliphcnaaNL
import Derived.Test.YtahdkdpliphcnaaMB
import Derived.Test.YtahdkdpliphcnaaMU
import Derived.Deep.Cut
/- The walk of the law FnExactDualOf, whatever the function hands back, if both sides hand back the same. -/
namespace Go.Proofs.Ytahdkdpliphcnaa
open Go.RowKit
set_option maxRecDepth 100000

set_option maxHeartbeats 16000000 in
theorem fnExactDualOf_walk (n o : Int) (A B : Option Addr) (la ca lb cb : Nat) (X Y : List Int) (x1 : Int) (v2 : Value) (R2 : List (List Int)) (ZZ : List (List Int)) (ok : Bool) (w : World) (hX : Ints w w.heap.size A la X) (hY : Ints w w.heap.size B lb Y) (hla : la ≤ 9223372036854775807) (hlb : lb ≤ 9223372036854775807) (hF2 : Rws w w.heap.size v2 R2) (hf2 : R2.length ≤ 9223372036854775807) 
    (hS0 : ∀ (A B : Option Addr) (F2 : Option Addr) (w : World), Ints w w.heap.size A la X → Ints w w.heap.size B lb Y → Rws w w.heap.size (.slice F2 R2.length R2.length) R2 → R2.length ≤ 1048576 → Calls Try.prog 28 #[.agg #[.int .i64 n, .int .i64 o, .slice A la la, .slice B lb lb], .int .i64 x1, .slice F2 R2.length R2.length] w fun e w' => ∃ v, e = .returned (.tuple #[v, .bool ok]) ∧ LLr w' v ZZ ∧ Below w.heap.size w w')
    (hI0 : ∀ (A B : Option Addr) (F2 : Option Addr) (w : World), Ints w w.heap.size A la X → Ints w w.heap.size B lb Y → Rws w w.heap.size (.slice F2 R2.length R2.length) R2 → R2.length ≤ 1048576 → Calls Try.prog 29 #[.agg #[.int .i64 n, .int .i64 o, .slice A la la, .slice B lb lb], .int .i64 x1, .slice F2 R2.length R2.length] w fun e w' => ∃ v, e = .returned (.tuple #[v, .bool ok]) ∧ LLF w.heap.size w' v ZZ ∧ Below w.heap.size w w') :
    Calls Try.prog 6 #[.agg #[.int .i64 n, .int .i64 o, .slice A la ca, .slice B lb cb], .int .i64 x1, v2] w fun e w' => e = .returned (.bool true) ∧ Below w.heap.size w w' := by
  have hS := Lib.hid hS0
  have hI := Lib.hid hI0
  have HX0 := Lib.hid hX
  have HY0 := Lib.hid hY
  have HF2 := Lib.hid hF2
  clear hS0 hI0 hX hY hF2
  obtain ⟨W, hW⟩ : ∃ W, w.alloc (.cells #[.int .i64 n, .int .i64 o, .slice A la ca, .slice B lb cb] 24) = W := ⟨_, rfl⟩
  have k0 : Blk W w.heap.size 24 #[.int .i64 n, .int .i64 o, .slice A la ca, .slice B lb cb] := by
    subst hW; exact Blk.new w _ _
  have b0 : Below w.heap.size w W := by
    subst hW; exact (Below.refl _ _).alloc (Nat.le_refl _) _
  have hs0 := k0.lt
  have K := Lib.hid k0
  have BB := Lib.hid b0
  have HW := Lib.hid hW
  clear k0 b0 hW
  by_cases hsz : (la : Int) + lb ≤ 1048576
  rotate_left
  · have e1 := Lib.hid (szR_no hsz)
    go_enter Try.func6, Try.ntmps6
    go_wp2_with (fail)
    rw [HW.out]
    refine (szRing_any n o A B la ca lb cb 1048576 _ (by omega) (by omega) hla hlb).mono ?_
    rintro e w1 ⟨rfl, hb1⟩
    rw [e1.out]
    go_wp2
    go_ret
    exact ⟨rfl, below_step BB.out hb1⟩
  have e1 := Lib.hid (szR_yes hsz)
  have hla2 : la ≤ 1048576 := by omega
  have hlb2 : lb ≤ 1048576 := by omega
  have hsl2 : (0 : Int) ≤ 1048576 - (la : Int) - lb := by omega
  have hsm2 : 1048576 - (la : Int) - lb ≤ 1048576 := by omega
  by_cases ht2 : (totZ R2 : Int) ≤ 1048576 - (la : Int) - lb
  rotate_left
  · have es2 := Lib.hid (szM_no ht2)
    go_enter Try.func6, Try.ntmps6
    go_wp2_with (fail)
    rw [HW.out]
    refine (szRing_any n o A B la ca lb cb 1048576 W (by omega) (by omega) hla hlb).mono ?_
    rintro e w1 ⟨rfl, hb1⟩
    rw [e1.out]
    have K := Lib.hid (K.out.next hb1); have BB := Lib.hid (below_step BB.out hb1)
    have s1 := hb1.size
    clear hb1
    go_wp2_with (fail)
    refine (szIntSS_any v2 R2 _ _ _ (HF2.out.next BB.out) hsl2 hsm2 hf2).mono ?_
    rintro e w12 ⟨rfl, rfl⟩
    rw [es2.out]
    go_wp2
    go_ret
    exact ⟨rfl, BB.out⟩
  have es2 := Lib.hid (szM_yes ht2)
  have hT2 : totZ R2 ≤ 1048576 := by omega
  have hl2 : R2.length ≤ 1048576 := by unfold totZ at hT2; omega
  have hof2 : offN (lsZ R2) R2.length ≤ 1048576 := by unfold totZ at hT2; omega
  have hle2 := Lib.hid (tot_ls hT2)
  have hneg2 : ¬ (1048576 - (la : Int) - lb - (totZ R2 : Int) < 0) := by omega
  go_enter Try.func6, Try.ntmps6
  go_wp2_with (fail)
  rw [HW.out]
  refine (szRing_any n o A B la ca lb cb 1048576 W (by omega) (by omega) hla hlb).mono ?_
  rintro e w1 ⟨rfl, hb1⟩
  rw [e1.out]
  have K := Lib.hid (K.out.next hb1); have BB := Lib.hid (below_step BB.out hb1)
  have s1 := hb1.size
  clear hb1
  go_wp2_with (fail)
  refine (szIntSS_any v2 R2 _ _ _ (HF2.out.next BB.out) hsl2 hsm2 hf2).mono ?_
  rintro e w12 ⟨rfl, rfl⟩
  rw [es2.out]
  obtain ⟨c0, c1, c2, c3⟩ := blk4 K.out
  go_wp2_with (fail)
  refine (toRing_any n o A B la ca lb cb X Y w1 (HX0.out.next BB.out) (HY0.out.next BB.out) hla2 hlb2).mono ?_
  rintro e w2 ⟨g1s, g2s, rfl, ow1, ow2, hlts, hb⟩
  have O1s := Lib.hid (own_of_row ow1 HX0.out.1)
  have O2s := Lib.hid (own_of_row ow2 HY0.out.1)
  have hg1s := (ow1.lt g1s rfl).2
  have hg2s := (ow2.lt g2s rfl).2
  have K := Lib.hid (K.out.next hb); have BB := Lib.hid (below_step BB.out hb)
  have sw2 := hb.size
  clear hb ow1 ow2 c0 c1 c2 c3
  obtain ⟨c0, c1, c2, c3⟩ := blk4 K.out
  go_wp2_with (fail)
  refine (toIntSS_any v2 R2 w2 (HF2.out.next BB.out) hl2 hle2.out).mono ?_
  rintro e w3 ⟨rfl, cp, hb⟩
  have L2s := Lib.hid cp
  have K := Lib.hid (K.out.next hb); have O1s := Lib.hid (O1s.out.next hb); have O2s := Lib.hid (O2s.out.next hb); have BB := Lib.hid (below_step BB.out hb)
  have sw3 := hb.size
  clear hb cp
  clear c0 c1 c2 c3
  obtain ⟨c0, c1, c2, c3⟩ := blk4 K.out
  go_wp2_with (fail)
  refine (hS.out _ _ _ w3 O1s.out.ints O2s.out.ints L2s.out.rws hl2).mono ?_
  rintro e w4 ⟨v30, rfl, oA3, hb⟩
  have SA0 := Lib.hid oA3
  have K := Lib.hid (K.out.next hb); have BB := Lib.hid (below_step BB.out hb)
  have CC := Lib.hid (Below.refl w4.heap.size w4)
  have sw4 := hb.size
  clear hb oA3 c0 c1 c2 c3
  obtain ⟨c0, c1, c2, c3⟩ := blk4 K.out
  have k3 : w.heap.size < w4.heap.size := by omega
  have kw3 : w.heap.size ≤ w4.heap.size := by omega
  go_wp2_with (fail)
  refine (toRing_any n o A B la ca lb cb X Y w4 (HX0.out.next BB.out) (HY0.out.next BB.out) hla2 hlb2).mono ?_
  rintro e w5 ⟨g1i, g2i, rfl, ow1, ow2, hlti, hb⟩
  have O1i := Lib.hid (own_of_row ow1 HX0.out.1)
  have O2i := Lib.hid (own_of_row ow2 HY0.out.1)
  have hg1i := (ow1.lt g1i rfl).2
  have hg2i := (ow2.lt g2i rfl).2
  have K := Lib.hid (K.out.next hb); have BB := Lib.hid (below_step BB.out hb); have CC := Lib.hid (below_step CC.out hb)
  have sw5 := hb.size
  clear hb ow1 ow2 c0 c1 c2 c3
  obtain ⟨c0, c1, c2, c3⟩ := blk4 K.out
  go_upto_region 10 with (fail)
  obtain ⟨V, hV⟩ : ∃ V, w5.alloc (.cells #[.int .i64 n, .int .i64 o, .slice (some ⟨g1i, 0, none⟩) la la, .slice (some ⟨g2i, 0, none⟩) lb lb] 27) = V := ⟨_, rfl⟩
  have v0 : Blk V w5.heap.size 27 #[.int .i64 n, .int .i64 o, .slice (some ⟨g1i, 0, none⟩) la la, .slice (some ⟨g2i, 0, none⟩) lb lb] := by
    subst hV; exact Blk.new w5 _ _
  have bv : Below w5.heap.size w5 V := by
    subst hV; exact (Below.refl _ _).alloc (Nat.le_refl _) _
  rw [hV]
  clear hV
  have hsv := v0.lt
  have V0 := Lib.hid v0
  have K := Lib.hid (K.out.next bv); have O1i := Lib.hid (O1i.out.next bv); have O2i := Lib.hid (O2i.out.next bv); have BB := Lib.hid (below_step BB.out bv); have CC := Lib.hid (below_step CC.out bv)
  have sV := bv.size
  clear v0 bv
  clear c0 c1 c2 c3
  obtain ⟨c0, c1, c2, c3⟩ := blk4 K.out
  obtain ⟨d0, d1, d2, d3⟩ := blk4 V0.out
  go_wp2_with (fail)
  refine (toIntSS_any v2 R2 V (HF2.out.next BB.out) hl2 hle2.out).mono ?_
  rintro e w6 ⟨rfl, cp, hb⟩
  have L2i := Lib.hid cp
  have K := Lib.hid (K.out.next hb); have O1i := Lib.hid (O1i.out.next hb); have O2i := Lib.hid (O2i.out.next hb); have V0 := Lib.hid (V0.out.next hb); have BB := Lib.hid (below_step BB.out hb); have CC := Lib.hid (below_step CC.out hb)
  have sw6 := hb.size
  clear hb cp
  clear c0 c1 c2 c3 d0 d1 d2 d3
  obtain ⟨c0, c1, c2, c3⟩ := blk4 K.out
  obtain ⟨d0, d1, d2, d3⟩ := blk4 V0.out
  go_wp2_with (fail)
  refine (hI.out _ _ _ w6 O1i.out.ints O2i.out.ints L2i.out.rws hl2).mono ?_
  rintro e w7 ⟨v60, rfl, ⟨A60, q60, Bs60, cs60, rfl, oA6, ap60, hzz60, htt60⟩, hb⟩
  have K := Lib.hid (K.out.next hb); have O1i := Lib.hid (O1i.out.next hb); have O2i := Lib.hid (O2i.out.next hb); have V0 := Lib.hid (V0.out.next hb); have L2i := Lib.hid (L2i.out.next hb); have BB := Lib.hid (below_step BB.out hb); have CC := Lib.hid (below_step CC.out hb)
  have sw7 := hb.size
  have GA := Lib.hid oA6
  have HAP := Lib.hid ap60
  clear oA6 ap60
  clear hb c0 c1 c2 c3 d0 d1 d2 d3
  obtain ⟨c0, c1, c2, c3⟩ := blk4 K.out
  obtain ⟨d0, d1, d2, d3⟩ := blk4 V0.out
  have tok : (ok != ok) = false := by simp
  go_wp2_with (go_at_call 23; refine (eqIntSS_same _ v30 ZZ _ (GA.out.readr q60) (SA0.out.next CC.out) hzz60).mono ?_; rintro e w8 ⟨rfl, hbw8⟩; have K := Lib.hid (K.out.next hbw8); have O1i := Lib.hid (O1i.out.next hbw8); have O2i := Lib.hid (O2i.out.next hbw8); have V0 := Lib.hid (V0.out.next hbw8); have L2i := Lib.hid (L2i.out.next hbw8); have GA := Lib.hid (GA.out.next hbw8); have BB := Lib.hid (below_step BB.out hbw8); have CC := Lib.hid (below_step CC.out hbw8); have sw8 := hbw8.size; clear hbw8; clear c0 c1 c2 c3 d0 d1 d2 d3; obtain ⟨c0, c1, c2, c3⟩ := blk4 K.out; obtain ⟨d0, d1, d2, d3⟩ := blk4 V0.out)
  have D6 := Lib.hid ((Below.refl w8.heap.size w8).drew)
  have J1d := Lib.hid ((HX0.out.next BB.out).next D6.out)
  have J2d := Lib.hid ((HY0.out.next BB.out).next D6.out)
  have I7d := Lib.hid (O1i.out.ints.next D6.out)
  have I8d := Lib.hid (O2i.out.ints.next D6.out)
  have hsd : w.heap.size < w8.drew.heap.size := (show w.heap.size < w8.heap.size by omega)
  have hsd4 : w5.heap.size < w8.drew.heap.size := (show w5.heap.size < w8.heap.size by omega)
  go_region_held3 (fun w' => w'.cell? ⟨w.heap.size, 0, none⟩ = some (.int .i64 n) ∧ w'.cell? ⟨w.heap.size, 1, none⟩ = some (.int .i64 o) ∧ w'.cell? ⟨w.heap.size, 2, none⟩ = some (.slice A la ca) ∧ w'.cell? ⟨w.heap.size, 3, none⟩ = some (.slice B lb cb) ∧
      w'.cell? ⟨w5.heap.size, 0, none⟩ = some (.int .i64 n) ∧ w'.cell? ⟨w5.heap.size, 1, none⟩ = some (.int .i64 o) ∧ w'.cell? ⟨w5.heap.size, 2, none⟩ = some (.slice (some ⟨g1i, 0, none⟩) la la) ∧ w'.cell? ⟨w5.heap.size, 3, none⟩ = some (.slice (some ⟨g2i, 0, none⟩) lb lb))
    (first | exact ⟨c0, c1, c2, c3, d0, d1, d2, d3⟩ | exact ⟨r0, r1, r2, r3, t0, t1, t2, t3⟩ | exact ⟨y0, y1, y2, y3, z0, z1, z2, z3⟩)
    (first
      | (go_at_call 12; refine (toRing_any n o A B la ca lb cb X Y _ J1d.out J2d.out hla2 hlb2).mono ?_; rintro e u7 ⟨g5, g6, rfl, ow5, ow6, hlt3, hb7⟩; obtain ⟨r0, r1, r2, r3, hs8⟩ := box4_next hb7 hsd c0 c1 c2 c3; obtain ⟨t0, t1, t2, t3, hs9⟩ := box4_next hb7 hsd4 d0 d1 d2 d3; have I9 := Lib.hid (ints_of_own ow5 HX0.out.1); have I10 := Lib.hid (ints_of_own ow6 HY0.out.1); have B7 := Lib.hid hb7; have I11 := Lib.hid (I7d.out.next hb7); have I12 := Lib.hid (I8d.out.next hb7); clear hb7 ow5 ow6)
      | (go_at_call 15; refine (eqRing_same n o _ _ _ _ la la lb lb la lb X Y _ I11.out I12.out I9.out I10.out hla hlb).mono ?_; rintro e w9 ⟨rfl, hb8⟩; obtain ⟨y0, y1, y2, y3, hs10⟩ := box4_next hb8 (Nat.lt_of_lt_of_le hsd hs8) r0 r1 r2 r3; obtain ⟨z0, z1, z2, z3, hs11⟩ := box4_next hb8 (Nat.lt_of_lt_of_le hsd4 hs8) t0 t1 t2 t3; have B8 := Lib.hid hb8; clear hb8))
  have q8 : Below w8.heap.size w8 w9 := D6.out.trans ((B7.out.mono (Nat.le_refl _)).trans (B8.out.mono hs8))
  have K := Lib.hid (K.out.next q8); have O1i := Lib.hid (O1i.out.next q8); have O2i := Lib.hid (O2i.out.next q8); have V0 := Lib.hid (V0.out.next q8); have L2i := Lib.hid (L2i.out.next q8); have GA := Lib.hid (GA.out.next q8); have BB := Lib.hid (below_step BB.out q8); have CC := Lib.hid (below_step CC.out q8)
  have sw9 := q8.size
  clear q8 c0 c1 c2 c3 d0 d1 d2 d3 r0 r1 r2 r3 t0 t1 t2 t3 y0 y1 y2 y3 z0 z1 z2 z3
  obtain ⟨c0, c1, c2, c3⟩ := blk4 K.out
  obtain ⟨d0, d1, d2, d3⟩ := blk4 V0.out
  go_wp2_with (fail)
  refine (toIntSS_any v2 R2 w9 (HF2.out.next BB.out) hl2 hle2.out).mono ?_
  rintro e w10 ⟨rfl, cp, hb⟩
  have E2 := Lib.hid cp
  have K := Lib.hid (K.out.next hb); have O1i := Lib.hid (O1i.out.next hb); have O2i := Lib.hid (O2i.out.next hb); have V0 := Lib.hid (V0.out.next hb); have L2i := Lib.hid (L2i.out.next hb); have GA := Lib.hid (GA.out.next hb); have BB := Lib.hid (below_step BB.out hb); have CC := Lib.hid (below_step CC.out hb)
  have sw10 := hb.size
  clear hb cp c0 c1 c2 c3 d0 d1 d2 d3
  obtain ⟨c0, c1, c2, c3⟩ := blk4 K.out
  obtain ⟨d0, d1, d2, d3⟩ := blk4 V0.out
  go_wp2_with (fail)
  refine (eqIntSS2 _ _ R2 w10 L2i.out.rws E2.out.rws hl2).mono ?_
  rintro e w11 ⟨rfl, hb⟩
  have K := Lib.hid (K.out.next hb); have O1i := Lib.hid (O1i.out.next hb); have O2i := Lib.hid (O2i.out.next hb); have V0 := Lib.hid (V0.out.next hb); have L2i := Lib.hid (L2i.out.next hb); have GA := Lib.hid (GA.out.next hb); have BB := Lib.hid (below_step BB.out hb); have CC := Lib.hid (below_step CC.out hb)
  have sw11 := hb.size
  clear hb c0 c1 c2 c3 d0 d1 d2 d3
  obtain ⟨c0, c1, c2, c3⟩ := blk4 K.out
  obtain ⟨d0, d1, d2, d3⟩ := blk4 V0.out
  have AP := Lib.hid (apart_two (k1 := la) (k2 := lb) hlti)
  go_wp2_with (fail)
  refine (markRing_any n o (some ⟨g1i, 0, none⟩) (some ⟨g2i, 0, none⟩) la la lb lb X Y 1 w11 w4.heap.size (O1i.out.down (by omega)) (O2i.out.down (by omega)) AP.out (by omega) hla2 hlb2 (by omega) (by omega)).mono ?_
  rintro e w12 ⟨rfl, _, _, keep, hb⟩
  have sw12 := hb.size
  have GA := Lib.hid (GA.out.marked sw12 keep (by omega) (by omega))
  have L2i := Lib.hid (L2i.out.marked sw12 keep (by omega) (by omega))
  have K := Lib.hid (K.out.below hb k3)
  have BB := Lib.hid (BB.out.trans (hb.mono kw3))
  have CC := Lib.hid (CC.out.trans hb)
  clear keep hb c0 c1 c2 c3 d0 d1 d2 d3
  obtain ⟨c0, c1, c2, c3⟩ := blk4 K.out
  have kv : w4.heap.size ≤ w6.heap.size := by omega
  go_wp2_with (fail)
  obtain ⟨Bm2, lm2, am2, em2⟩ := L2i.out
  refine (markIntSS2_any (some ⟨V.heap.size, 0, none⟩) R2.length R2.length V.heap.size Bm2 (lsZ R2) (lsZ R2) (fZ R2) (1 + (la : Int) + lb) w12 lm2 am2 hl2 hof2 (by omega) (by omega)).mono ?_
  rintro e w13 ⟨rfl, _, hb, but⟩
  have sw13 := hb.size
  have GA := Lib.hid (GA.out.keepAll but em2 (by omega))
  have K := Lib.hid (K.out.below hb (by omega))
  have BB := Lib.hid (BB.out.trans (hb.mono (by omega)))
  have CC := Lib.hid (CC.out.trans (hb.mono (by omega)))
  clear but hb lm2 am2 em2 c0 c1 c2 c3
  obtain ⟨c0, c1, c2, c3⟩ := blk4 K.out
  have tneg : ((1 + (la : Int) + lb + (offN (lsZ R2) R2.length : Nat) : Int) < 0) = False := by simp; omega
  go_wp2_with (go_at_call 23; refine (eqIntSS_same _ v30 ZZ _ (GA.out.readr q60) (SA0.out.next CC.out) hzz60).mono ?_; rintro e w14 ⟨rfl, hbw14⟩; have K := Lib.hid (K.out.next hbw14); have GA := Lib.hid (GA.out.next hbw14); have BB := Lib.hid (below_step BB.out hbw14); have CC := Lib.hid (below_step CC.out hbw14); have sw14 := hbw14.size; clear hbw14)
  go_wp2_with (fail)
  refine (markIntSS_any A60 ZZ.length q60 w6.heap.size Bs60 cs60 (lsZ ZZ) (fZ ZZ) 1 w14 GA.out HAP.out hzz60 htt60 (by omega) (by omega)).mono ?_
  rintro e w15 ⟨rfl, mA, hb⟩
  have sw15 := hb.size
  have MA := Lib.hid mA
  have K := Lib.hid (K.out.below hb (by omega))
  have BB := Lib.hid (BB.out.trans (hb.mono (by omega)))
  have CC := Lib.hid (CC.out.trans (hb.mono kv))
  clear mA hb c0 c1 c2 c3
  have tn : ((1 : Int) + (offN (lsZ ZZ) ZZ.length : Nat) != 1 + (offN (lsZ ZZ) ZZ.length : Nat)) = false := by simp
  have tneg2 : ¬ ((1 : Int) + (offN (lsZ ZZ) ZZ.length : Nat) < 0) := by omega
  go_wp2_with (go_at_call 27; refine (heldIntSS_any A60 ZZ.length q60 w6.heap.size Bs60 cs60 (lsZ ZZ) (mkF (lsZ ZZ) (fZ ZZ) 1 ZZ.length) 1 w15 MA.out (fun i hi => mkF_held hi) hzz60 htt60 (by omega) (by omega)).mono ?_; rintro e w99 ⟨rfl, rfl⟩; obtain ⟨c0, c1, c2, c3⟩ := blk4 K.out)
  refine (toRing_any n o A B la ca lb cb X Y w15 (HX0.out.next BB.out) (HY0.out.next BB.out) hla2 hlb2).mono ?_
  rintro e w16 ⟨g1j, g2j, rfl, ow1, ow2, hltj, hb⟩
  have O1j := Lib.hid (own_of_row ow1 HX0.out.1)
  have O2j := Lib.hid (own_of_row ow2 HY0.out.1)
  have hg1j := (ow1.lt g1j rfl).2
  have hg2j := (ow2.lt g2j rfl).2
  have K := Lib.hid (K.out.next hb); have MA := Lib.hid (MA.out.next hb); have BB := Lib.hid (below_step BB.out hb); have CC := Lib.hid (below_step CC.out hb)
  have sw16 := hb.size
  clear hb ow1 ow2 c0 c1 c2 c3
  obtain ⟨c0, c1, c2, c3⟩ := blk4 K.out
  go_wp2_with (fail)
  refine (toIntSS_any v2 R2 w16 (HF2.out.next BB.out) hl2 hle2.out).mono ?_
  rintro e w17 ⟨rfl, cp, hb⟩
  have L2j := Lib.hid cp
  have K := Lib.hid (K.out.next hb); have MA := Lib.hid (MA.out.next hb); have O1j := Lib.hid (O1j.out.next hb); have O2j := Lib.hid (O2j.out.next hb); have BB := Lib.hid (below_step BB.out hb); have CC := Lib.hid (below_step CC.out hb)
  have sw17 := hb.size
  clear hb cp
  clear c0 c1 c2 c3
  obtain ⟨c0, c1, c2, c3⟩ := blk4 K.out
  go_wp2_with (fail)
  refine (hI.out _ _ _ w17 O1j.out.ints O2j.out.ints L2j.out.rws hl2).mono ?_
  rintro e w18 ⟨v90, rfl, ⟨A90, q90, Bs90, cs90, rfl, oA9, ap90, hzz90, htt90⟩, hb⟩
  have G9 := Lib.hid (oA9.readr q90)
  have MA := Lib.hid (MA.out.next hb); have BB := Lib.hid (below_step BB.out hb); have CC := Lib.hid (below_step CC.out hb)
  have sw18 := hb.size
  clear hb oA9 ap90
  go_wp2_with (first
    | (go_at_call 23; refine (eqIntSS_same _ v30 ZZ _ G9.out (SA0.out.next CC.out) hzz60).mono ?_; rintro e w19 ⟨rfl, hb⟩; have MA := Lib.hid (MA.out.next hb); have BB := Lib.hid (below_step BB.out hb); have CC := Lib.hid (below_step CC.out hb); clear hb)
    | (go_at_call 27; refine (heldIntSS_any A60 ZZ.length q60 w6.heap.size Bs60 cs60 (lsZ ZZ) (mkF (lsZ ZZ) (fZ ZZ) 1 ZZ.length) 1 w19 MA.out (fun i hi => mkF_held hi) hzz60 htt60 (by omega) (by omega)).mono ?_; rintro e w98 ⟨rfl, rfl⟩))
  go_ret
  exact ⟨rfl, BB.out⟩

end Go.Proofs.Ytahdkdpliphcnaa

