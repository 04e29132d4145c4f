
import Derived.Test.YtcbodedpahdobaaMW
import Derived.Test.YtcbodedpahdobaaMB
import Derived.Deep.Cut
/- The walk of the law FnExactFactorMap, whatever the function hands back, if both sides hand back the same. -/
namespace Go.Proofs.Ytcbodedpahdobaa
open Go.RowKit
set_option maxRecDepth 100000

set_option maxHeartbeats 16000000 in
theorem fnExactFactorMap_walk (n o : Int) (A B : Option Addr) (la ca lb cb : Nat) (X Y : List Int) (n' o' : Int) (A' B' : Option Addr) (la' ca' lb' cb' : Nat) (X' Y' : List Int) (F2 : Option Addr) (f2 cf2 : Nat) (X2 : List Int) (Z : List Int) (ok : Bool) (w : World) (hX : Ints w w.heap.size A la X) (hY : Ints w w.heap.size B lb Y) (hla : la ≤ 9223372036854775807) (hlb : lb ≤ 9223372036854775807) (hX' : Ints w w.heap.size A' la' X') (hY' : Ints w w.heap.size B' lb' Y') (hla' : la' ≤ 9223372036854775807) (hlb' : lb' ≤ 9223372036854775807) (hF2 : Ints w w.heap.size F2 f2 X2) (hf2 : f2 ≤ 9223372036854775807) 
    (hS0 : ∀ (A B A' B' : Option Addr) (F2 : Option Addr) (w : World), Ints w w.heap.size A la X → Ints w w.heap.size B lb Y → Ints w w.heap.size A' la' X' → Ints w w.heap.size B' lb' Y' → Ints w w.heap.size F2 f2 X2 → Calls Try.prog 54 #[.agg #[.int .i64 n, .int .i64 o, .slice A la la, .slice B lb lb], .agg #[.int .i64 n', .int .i64 o', .slice A' la' la', .slice B' lb' lb'], .slice F2 f2 f2] w fun e w' => ∃ v, e = .returned (.tuple #[v, .bool ok]) ∧ SliceOut w.heap.size w' v Z ∧ Below w.heap.size w w')
    (hI0 : ∀ (A B A' B' : Option Addr) (F2 : Option Addr) (w : World), Ints w w.heap.size A la X → Ints w w.heap.size B lb Y → Ints w w.heap.size A' la' X' → Ints w w.heap.size B' lb' Y' → Ints w w.heap.size F2 f2 X2 → Calls Try.prog 55 #[.agg #[.int .i64 n, .int .i64 o, .slice A la la, .slice B lb lb], .agg #[.int .i64 n', .int .i64 o', .slice A' la' la', .slice B' lb' lb'], .slice F2 f2 f2] w fun e w' => ∃ v, e = .returned (.tuple #[v, .bool ok]) ∧ SliceOut w.heap.size w' v Z ∧ Below w.heap.size w w') :
    Calls Try.prog 14 #[.agg #[.int .i64 n, .int .i64 o, .slice A la ca, .slice B lb cb], .agg #[.int .i64 n', .int .i64 o', .slice A' la' ca', .slice B' lb' cb'], .slice F2 f2 cf2] w fun e w' => e = .returned (.bool true) ∧ Below w.heap.size w w' := by
  have hS := Lib.hid hS0
  have hI := Lib.hid hI0
  have HX0 := Lib.hid hX
  have HY0 := Lib.hid hY
  have HX0' := Lib.hid hX'
  have HY0' := Lib.hid hY'
  have HF2 := Lib.hid hF2
  clear hS0 hI0 hX hY hX' hY' hF2
  obtain ⟨W, hW⟩ : ∃ W, (w.alloc (.cells #[.int .i64 n, .int .i64 o, .slice A la ca, .slice B lb cb] 37)).alloc (.cells #[.int .i64 n', .int .i64 o', .slice A' la' ca', .slice B' lb' cb'] 37) = W := ⟨_, rfl⟩
  have k1 : Blk W w.heap.size 37 #[.int .i64 n, .int .i64 o, .slice A la ca, .slice B lb cb] := by
    subst hW; exact (Blk.new w _ _).alloc _
  have k2 : Blk W (w.heap.size + 1) 37 #[.int .i64 n', .int .i64 o', .slice A' la' ca', .slice B' lb' cb'] := by
    subst hW
    have := Blk.new (w.alloc (.cells #[.int .i64 n, .int .i64 o, .slice A la ca, .slice B lb cb] 37)) 37 #[.int .i64 n', .int .i64 o', .slice A' la' ca', .slice B' lb' cb']
    rw [World.size_alloc] at this
    exact this
  have b0 : Below w.heap.size w W := by
    subst hW; exact ((Below.refl _ _).alloc (Nat.le_refl _) _).alloc (by simp) _
  have sW : W.heap.size = w.heap.size + 2 := by subst hW; simp
  have K1 := Lib.hid (C4.of k1)
  have K2 := Lib.hid (C4.of k2)
  have BB := Lib.hid b0
  have HW := Lib.hid hW
  clear k1 k2 b0 hW
  by_cases hz2 : f2 ≤ 1048576
  rotate_left
  · have hy : (1048576 : Int) < (f2 : Int) := by omega
    go_enter Try.func14, Try.ntmps14
    go_wp2
    go_ret
    exact ⟨rfl, by rw [HW.out]; exact BB.out⟩
  have hzz2 : ¬ (1048576 : Int) < (f2 : Int) := by omega
  have hzw2 : (f2 : Int) ≤ 1048576 := by omega
  by_cases hsz : (la : Int) + lb ≤ 1048576
  rotate_left
  · have e1 := Lib.hid (szRr_no hsz)
    go_enter Try.func14, Try.ntmps14
    go_wp2_with (fail)
    rw [HW.out]
    refine (szRing_any n o A B la ca lb cb 1048576 _ (by omega) (by omega) hla hlb).mono ?_
    rintro e w1 ⟨rfl, hb1⟩
    rw [e1.out]
    go_wp2
    go_ret
    exact ⟨rfl, below_step BB.out hb1⟩
  have e1 := Lib.hid (szRr_yes hsz)
  by_cases hsz2 : (la' : Int) + lb' ≤ 1048576 - la - lb
  rotate_left
  · have e2 := Lib.hid (szRr_no hsz2)
    obtain ⟨_, d0, d1, d2, d3⟩ := K2.out
    go_enter Try.func14, Try.ntmps14
    go_wp2_with (fail)
    rw [HW.out]
    refine (szRing_any n o A B la ca lb cb 1048576 W (by omega) (by omega) hla hlb).mono ?_
    rintro e w1 ⟨rfl, hb1⟩
    rw [e1.out]
    clear d0 d1 d2 d3
    obtain ⟨_, d0, d1, d2, d3⟩ := (K2.out.next hb1)
    go_wp2_with (fail)
    refine (szRing_any n' o' A' B' la' ca' lb' cb' (1048576 - la - lb) w1 (by omega) (by omega) hla' hlb').mono ?_
    rintro e w2 ⟨rfl, hb2⟩
    rw [e2.out]
    go_wp2
    go_ret
    exact ⟨rfl, below_step (below_step BB.out hb1) hb2⟩
  have e2 := Lib.hid (szRr_yes hsz2)
  have hla2 : la ≤ 1048576 := by omega
  have hlb2 : lb ≤ 1048576 := by omega
  have hla3 : la' ≤ 1048576 := by omega
  have hlb3 : lb' ≤ 1048576 := by omega
  obtain ⟨_, c0, c1, c2, c3⟩ := K1.out
  obtain ⟨_, d0, d1, d2, d3⟩ := K2.out
  go_enter Try.func14, Try.ntmps14
  go_wp2_with (fail)
  rw [HW.out]
  refine (szRing_any n o A B la ca lb cb 1048576 W (by omega) (by omega) hla hlb).mono ?_
  rintro e w1 ⟨rfl, hb⟩
  rw [e1.out]
  clear c0 c1 c2 c3 d0 d1 d2 d3
  have K1 := Lib.hid (K1.out.next hb); have K2 := Lib.hid (K2.out.next hb); have BB := Lib.hid (below_step BB.out hb)
  have sw1 := hb.size
  clear hb
  obtain ⟨_, c0, c1, c2, c3⟩ := K1.out
  obtain ⟨_, d0, d1, d2, d3⟩ := K2.out
  go_wp2_with (fail)
  refine (szRing_any n' o' A' B' la' ca' lb' cb' (1048576 - la - lb) w1 (by omega) (by omega) hla' hlb').mono ?_
  rintro e w2 ⟨rfl, hb⟩
  rw [e2.out]
  clear c0 c1 c2 c3 d0 d1 d2 d3
  have K1 := Lib.hid (K1.out.next hb); have K2 := Lib.hid (K2.out.next hb); have BB := Lib.hid (below_step BB.out hb)
  have sw2 := hb.size
  clear hb
  obtain ⟨_, c0, c1, c2, c3⟩ := K1.out
  obtain ⟨_, d0, d1, d2, d3⟩ := K2.out
  go_wp2_with (fail)
  clear c0 c1 c2 c3 d0 d1 d2 d3
  have hd : Below w2.heap.size w2 w2.drew := (Below.refl _ _).drew
  have K1 := Lib.hid (K1.out.next hd); have K2 := Lib.hid (K2.out.next hd); have BB := Lib.hid (below_step BB.out hd)
  clear hd
  obtain ⟨_, c0, c1, c2, c3⟩ := K1.out
  obtain ⟨_, d0, d1, d2, d3⟩ := K2.out
  go_region_held3 (fun w' => w'.cell? ⟨w.heap.size, 0, none⟩ = some (.int .i64 n) ∧ w'.cell? ⟨w.heap.size, 1, none⟩ = some (.int .i64 o) ∧ w'.cell? ⟨w.heap.size, 2, none⟩ = some (.slice A la ca) ∧ w'.cell? ⟨w.heap.size, 3, none⟩ = some (.slice B lb cb) ∧ w'.cell? ⟨(w.heap.size + 1), 0, none⟩ = some (.int .i64 n') ∧ w'.cell? ⟨(w.heap.size + 1), 1, none⟩ = some (.int .i64 o') ∧ w'.cell? ⟨(w.heap.size + 1), 2, none⟩ = some (.slice A' la' ca') ∧ w'.cell? ⟨(w.heap.size + 1), 3, none⟩ = some (.slice B' lb' cb'))
    (first | exact ⟨c0, c1, c2, c3, d0, d1, d2, d3⟩ | exact ⟨ka0, ka1, ka2, ka3, kb0, kb1, kb2, kb3⟩ | exact ⟨kc0, kc1, kc2, kc3, kd0, kd1, kd2, kd3⟩ | exact ⟨ke0, ke1, ke2, ke3, kf0, kf1, kf2, kf3⟩ | exact ⟨kg0, kg1, kg2, kg3, kh0, kh1, kh2, kh3⟩)
    (first
      | (go_at_call 29; (with_reducible refine (toRing_any n o A B la ca lb cb X Y _ (HX0.out.next BB.out) (HY0.out.next BB.out) hla2 hlb2).mono ?_); rintro e w3 ⟨g1s, g2s, rfl, ow1, ow2, hlts, hb⟩; have O1s := Lib.hid (own_of_row ow1 HX0.out.1); have O2s := Lib.hid (own_of_row ow2 HY0.out.1); have K1 := Lib.hid (K1.out.next hb); have K2 := Lib.hid (K2.out.next hb); have BB := Lib.hid (below_step BB.out hb); have sw3 := hb.size; clear hb ow1 ow2; obtain ⟨_, ka0, ka1, ka2, ka3⟩ := K1.out; obtain ⟨_, kb0, kb1, kb2, kb3⟩ := K2.out)
      | (go_at_call 29; (with_reducible refine (toRing_any n' o' A' B' la' ca' lb' cb' X' Y' _ (HX0'.out.next BB.out) (HY0'.out.next BB.out) hla3 hlb3).mono ?_); rintro e w4 ⟨g3s, g4s, rfl, ow1, ow2, hlus, hb⟩; have O3s := Lib.hid (own_of_row ow1 HX0'.out.1); have O4s := Lib.hid (own_of_row ow2 HY0'.out.1); have K1 := Lib.hid (K1.out.next hb); have K2 := Lib.hid (K2.out.next hb); have O1s := Lib.hid (O1s.out.next hb); have O2s := Lib.hid (O2s.out.next hb); have BB := Lib.hid (below_step BB.out hb); have sw4 := hb.size; clear hb ow1 ow2; obtain ⟨_, kc0, kc1, kc2, kc3⟩ := K1.out; obtain ⟨_, kd0, kd1, kd2, kd3⟩ := K2.out)
      | (go_at_call 37; (with_reducible refine (toIntS_any F2 f2 cf2 X2 _ (HF2.out.next BB.out) hz2).mono ?_); rintro e w5 ⟨rfl, ow1, hb⟩; have L2s := Lib.hid (own_of_row ow1 HF2.out.1); have K1 := Lib.hid (K1.out.next hb); have K2 := Lib.hid (K2.out.next hb); have O1s := Lib.hid (O1s.out.next hb); have O2s := Lib.hid (O2s.out.next hb); have O3s := Lib.hid (O3s.out.next hb); have O4s := Lib.hid (O4s.out.next hb); have BB := Lib.hid (below_step BB.out hb); have sw5 := hb.size; clear hb ow1; obtain ⟨_, ke0, ke1, ke2, ke3⟩ := K1.out; obtain ⟨_, kf0, kf1, kf2, kf3⟩ := K2.out)
      | (go_at_call 54; refine (hS.out _ _ _ _ _ _ O1s.out.ints O2s.out.ints O3s.out.ints O4s.out.ints L2s.out.ints).mono ?_; rintro e w6 ⟨v3, rfl, ⟨A3, l3, c3x, rfl, oA, _, h3⟩, hb⟩; have oB3 := Lib.hid oA; have K1 := Lib.hid (K1.out.next hb); have K2 := Lib.hid (K2.out.next hb); have BB := Lib.hid (below_step BB.out hb); have sw6 := hb.size; clear hb oA; obtain ⟨_, kg0, kg1, kg2, kg3⟩ := K1.out; obtain ⟨_, kh0, kh1, kh2, kh3⟩ := K2.out))
  clear c0 c1 c2 c3 d0 d1 d2 d3 ka0 ka1 ka2 ka3 kb0 kb1 kb2 kb3 kc0 kc1 kc2 kc3 kd0 kd1 kd2 kd3 ke0 ke1 ke2 ke3 kf0 kf1 kf2 kf3 kg0 kg1 kg2 kg3 kh0 kh1 kh2 kh3
  have SA0 := Lib.hid oB3.out.ints
  have el3 := oB3.out.1
  have CC := Lib.hid (Below.refl w6.heap.size w6)
  have k3 : w.heap.size + 1 < w6.heap.size := by have := BB.out.size; have := K2.out.1; omega
  have kw3 : w.heap.size ≤ w6.heap.size := by omega
  obtain ⟨_, c0, c1, c2, c3⟩ := K1.out
  obtain ⟨_, d0, d1, d2, d3⟩ := K2.out
  go_wp2_with (fail)
  refine (toRing_any n o A B la ca lb cb X Y w6 (HX0.out.next BB.out) (HY0.out.next BB.out) hla2 hlb2).mono ?_
  rintro e w7 ⟨g1i, g2i, rfl, ow1, ow2, hlti, hb⟩
  have O1i := Lib.hid (own_of_row ow1 HX0.out.1)
  have O2i := Lib.hid (own_of_row ow2 HY0.out.1)
  have hg1i := (ow1.lt g1i rfl).2
  have hg2i := (ow2.lt g2i rfl).2
  have hm1i := (ow1.lt g1i rfl).1
  have hm2i := (ow2.lt g2i rfl).1
  clear c0 c1 c2 c3 d0 d1 d2 d3
  have K1 := Lib.hid (K1.out.next hb); have K2 := Lib.hid (K2.out.next hb); have BB := Lib.hid (below_step BB.out hb); have CC := Lib.hid (below_step CC.out hb)
  have sw7 := hb.size
  clear hb ow1 ow2
  obtain ⟨_, c0, c1, c2, c3⟩ := K1.out
  obtain ⟨_, d0, d1, d2, d3⟩ := K2.out
  go_upto_region 12 with (fail)
  clear c0 c1 c2 c3 d0 d1 d2 d3
  obtain ⟨UV1, hV1⟩ : ∃ V, w7.alloc (.cells #[.int .i64 n, .int .i64 o, .slice (some ⟨g1i, 0, none⟩) la la, .slice (some ⟨g2i, 0, none⟩) lb lb] 25) = V := ⟨_, rfl⟩
  have v0 : Blk UV1 w7.heap.size 25 #[.int .i64 n, .int .i64 o, .slice (some ⟨g1i, 0, none⟩) la la, .slice (some ⟨g2i, 0, none⟩) lb lb] := by
    subst hV1; exact Blk.new w7 _ _
  have bv : Below w7.heap.size w7 UV1 := by
    subst hV1; exact (Below.refl _ _).alloc (Nat.le_refl _) _
  rw [hV1]
  clear hV1
  have hsV1 := v0.lt
  have V1 := Lib.hid (C4.of v0)
  have K1 := Lib.hid (K1.out.next bv); have K2 := Lib.hid (K2.out.next bv); have O1i := Lib.hid (O1i.out.next bv); have O2i := Lib.hid (O2i.out.next bv); have BB := Lib.hid (below_step BB.out bv); have CC := Lib.hid (below_step CC.out bv)
  have sUV1 := bv.size
  clear v0 bv
  obtain ⟨_, c0, c1, c2, c3⟩ := K1.out
  obtain ⟨_, d0, d1, d2, d3⟩ := K2.out
  obtain ⟨_, p0, p1, p2, p3⟩ := V1.out
  go_wp2_with (fail)
  refine (toRing_any n' o' A' B' la' ca' lb' cb' X' Y' UV1 (HX0'.out.next BB.out) (HY0'.out.next BB.out) hla3 hlb3).mono ?_
  rintro e w8 ⟨g3i, g4i, rfl, ow1, ow2, hlui, hb⟩
  have O3i := Lib.hid (own_of_row ow1 HX0'.out.1)
  have O4i := Lib.hid (own_of_row ow2 HY0'.out.1)
  have hg3i := (ow1.lt g3i rfl).2
  have hg4i := (ow2.lt g4i rfl).2
  have hm3i := (ow1.lt g3i rfl).1
  have hm4i := (ow2.lt g4i rfl).1
  clear c0 c1 c2 c3 d0 d1 d2 d3 p0 p1 p2 p3
  have K1 := Lib.hid (K1.out.next hb); have K2 := Lib.hid (K2.out.next hb); have O1i := Lib.hid (O1i.out.next hb); have O2i := Lib.hid (O2i.out.next hb); have V1 := Lib.hid (V1.out.next hb); have BB := Lib.hid (below_step BB.out hb); have CC := Lib.hid (below_step CC.out hb)
  have sw8 := hb.size
  clear hb ow1 ow2
  obtain ⟨_, c0, c1, c2, c3⟩ := K1.out
  obtain ⟨_, d0, d1, d2, d3⟩ := K2.out
  obtain ⟨_, p0, p1, p2, p3⟩ := V1.out
  go_upto_region 13 with (fail)
  clear c0 c1 c2 c3 d0 d1 d2 d3 p0 p1 p2 p3
  obtain ⟨UV2, hV2⟩ : ∃ V, w8.alloc (.cells #[.int .i64 n', .int .i64 o', .slice (some ⟨g3i, 0, none⟩) la' la', .slice (some ⟨g4i, 0, none⟩) lb' lb'] 25) = V := ⟨_, rfl⟩
  have v0 : Blk UV2 w8.heap.size 25 #[.int .i64 n', .int .i64 o', .slice (some ⟨g3i, 0, none⟩) la' la', .slice (some ⟨g4i, 0, none⟩) lb' lb'] := by
    subst hV2; exact Blk.new w8 _ _
  have bv : Below w8.heap.size w8 UV2 := by
    subst hV2; exact (Below.refl _ _).alloc (Nat.le_refl _) _
  rw [hV2]
  clear hV2
  have hsV2 := v0.lt
  have V2 := Lib.hid (C4.of v0)
  have K1 := Lib.hid (K1.out.next bv); have K2 := Lib.hid (K2.out.next bv); have O1i := Lib.hid (O1i.out.next bv); have O2i := Lib.hid (O2i.out.next bv); have V1 := Lib.hid (V1.out.next bv); have O3i := Lib.hid (O3i.out.next bv); have O4i := Lib.hid (O4i.out.next bv); have BB := Lib.hid (below_step BB.out bv); have CC := Lib.hid (below_step CC.out bv)
  have sUV2 := bv.size
  clear v0 bv
  obtain ⟨_, c0, c1, c2, c3⟩ := K1.out
  obtain ⟨_, d0, d1, d2, d3⟩ := K2.out
  obtain ⟨_, p0, p1, p2, p3⟩ := V1.out
  obtain ⟨_, q0, q1, q2, q3⟩ := V2.out
  go_wp2_with (fail)
  refine (toIntS_any F2 f2 cf2 X2 UV2 (HF2.out.next BB.out) hz2).mono ?_
  rintro e w9 ⟨rfl, ow1, hb⟩
  have L2i := Lib.hid (own_of_row ow1 HF2.out.1)
  have hl2i := (ow1.lt UV2.heap.size rfl).2
  clear c0 c1 c2 c3 d0 d1 d2 d3 p0 p1 p2 p3 q0 q1 q2 q3
  have K1 := Lib.hid (K1.out.next hb); have K2 := Lib.hid (K2.out.next hb); have O1i := Lib.hid (O1i.out.next hb); have O2i := Lib.hid (O2i.out.next hb); have V1 := Lib.hid (V1.out.next hb); have O3i := Lib.hid (O3i.out.next hb); have O4i := Lib.hid (O4i.out.next hb); have V2 := Lib.hid (V2.out.next hb); have BB := Lib.hid (below_step BB.out hb); have CC := Lib.hid (below_step CC.out hb)
  have sw9 := hb.size
  clear hb ow1
  obtain ⟨_, c0, c1, c2, c3⟩ := K1.out
  obtain ⟨_, d0, d1, d2, d3⟩ := K2.out
  obtain ⟨_, p0, p1, p2, p3⟩ := V1.out
  obtain ⟨_, q0, q1, q2, q3⟩ := V2.out
  go_wp2_with (fail)
  refine (hI.out _ _ _ _ _ w9 O1i.out.ints O2i.out.ints O3i.out.ints O4i.out.ints L2i.out.ints).mono ?_
  rintro e w10 ⟨v6, rfl, ⟨A6, l6, c6x, rfl, oA, _, h6⟩, hb⟩
  have GA := Lib.hid oA
  have el6 : l6 = l3 := by rw [← oA.1, el3]
  subst el6
  clear c0 c1 c2 c3 d0 d1 d2 d3 p0 p1 p2 p3 q0 q1 q2 q3
  have K1 := Lib.hid (K1.out.next hb); have K2 := Lib.hid (K2.out.next hb); have O1i := Lib.hid (O1i.out.next hb); have O2i := Lib.hid (O2i.out.next hb); have V1 := Lib.hid (V1.out.next hb); have O3i := Lib.hid (O3i.out.next hb); have O4i := Lib.hid (O4i.out.next hb); have V2 := Lib.hid (V2.out.next hb); have L2i := Lib.hid (L2i.out.next hb); have BB := Lib.hid (below_step BB.out hb); have CC := Lib.hid (below_step CC.out hb)
  have sw10 := hb.size
  clear hb oA
  obtain ⟨_, c0, c1, c2, c3⟩ := K1.out
  obtain ⟨_, d0, d1, d2, d3⟩ := K2.out
  obtain ⟨_, p0, p1, p2, p3⟩ := V1.out
  obtain ⟨_, q0, q1, q2, q3⟩ := V2.out
  have tok : (ok != ok) = false := by simp
  go_wp2_with (fail)
  refine (eqIntS_same A6 A3 l6 c6x c3x Z w10 _ _ GA.out.ints (SA0.out.next CC.out) (by omega)).mono ?_
  rintro e w11 ⟨rfl, hb⟩
  clear c0 c1 c2 c3 d0 d1 d2 d3 p0 p1 p2 p3 q0 q1 q2 q3
  have K1 := Lib.hid (K1.out.next hb); have K2 := Lib.hid (K2.out.next hb); have O1i := Lib.hid (O1i.out.next hb); have O2i := Lib.hid (O2i.out.next hb); have V1 := Lib.hid (V1.out.next hb); have O3i := Lib.hid (O3i.out.next hb); have O4i := Lib.hid (O4i.out.next hb); have V2 := Lib.hid (V2.out.next hb); have L2i := Lib.hid (L2i.out.next hb); have GA := Lib.hid (GA.out.next hb); have BB := Lib.hid (below_step BB.out hb); have CC := Lib.hid (below_step CC.out hb)
  have sw11 := hb.size
  clear hb
  obtain ⟨_, c0, c1, c2, c3⟩ := K1.out
  obtain ⟨_, d0, d1, d2, d3⟩ := K2.out
  obtain ⟨_, p0, p1, p2, p3⟩ := V1.out
  obtain ⟨_, q0, q1, q2, q3⟩ := V2.out
  go_wp2_with (fail)
  clear c0 c1 c2 c3 d0 d1 d2 d3 p0 p1 p2 p3 q0 q1 q2 q3
  obtain ⟨_, c0, c1, c2, c3⟩ := K1.out
  obtain ⟨_, p0, p1, p2, p3⟩ := V1.out
  have D6 := Lib.hid ((Below.refl w11.heap.size w11).drew)
  have J1d := Lib.hid ((HX0.out.next BB.out).next D6.out)
  have J2d := Lib.hid ((HY0.out.next BB.out).next D6.out)
  have I7d := Lib.hid (O1i.out.ints.next D6.out)
  have I8d := Lib.hid (O2i.out.ints.next D6.out)
  have hsd : w.heap.size < w11.drew.heap.size := (show w.heap.size < w11.heap.size from K1.out.1)
  have hsd4 : w7.heap.size < w11.drew.heap.size := (show w7.heap.size < w11.heap.size from V1.out.1)
  go_region_held3 (fun w' => w'.cell? ⟨w.heap.size, 0, none⟩ = some (.int .i64 n) ∧ w'.cell? ⟨w.heap.size, 1, none⟩ = some (.int .i64 o) ∧ w'.cell? ⟨w.heap.size, 2, none⟩ = some (.slice A la ca) ∧ w'.cell? ⟨w.heap.size, 3, none⟩ = some (.slice B lb cb) ∧ w'.cell? ⟨w7.heap.size, 0, none⟩ = some (.int .i64 n) ∧ w'.cell? ⟨w7.heap.size, 1, none⟩ = some (.int .i64 o) ∧ w'.cell? ⟨w7.heap.size, 2, none⟩ = some (.slice (some ⟨g1i, 0, none⟩) la la) ∧ w'.cell? ⟨w7.heap.size, 3, none⟩ = some (.slice (some ⟨g2i, 0, none⟩) lb lb))
    (first | exact ⟨c0, c1, c2, c3, p0, p1, p2, p3⟩ | exact ⟨ka0, ka1, ka2, ka3, kb0, kb1, kb2, kb3⟩ | exact ⟨kc0, kc1, kc2, kc3, kd0, kd1, kd2, kd3⟩)
    (first
      | (go_at_call 29; refine (toRing_any n o A B la ca lb cb X Y _ J1d.out J2d.out hla2 hlb2).mono ?_; rintro e u7 ⟨g5, g6, rfl, ow5, ow6, hlt3, hb7⟩; obtain ⟨ka0, ka1, ka2, ka3, hs8⟩ := box4_next hb7 hsd c0 c1 c2 c3; obtain ⟨kb0, kb1, kb2, kb3, hs9⟩ := box4_next hb7 hsd4 p0 p1 p2 p3; have I9 := Lib.hid (ints_of_own ow5 HX0.out.1); have I10 := Lib.hid (ints_of_own ow6 HY0.out.1); have B7 := Lib.hid hb7; have I11 := Lib.hid (I7d.out.next hb7); have I12 := Lib.hid (I8d.out.next hb7); clear hb7 ow5 ow6)
      | (go_at_call 32; refine (eqRing_same n o _ _ _ _ la la lb lb la lb X Y _ I11.out I12.out I9.out I10.out hla hlb).mono ?_; rintro e w12 ⟨rfl, hb8⟩; obtain ⟨kc0, kc1, kc2, kc3, hs10⟩ := box4_next hb8 (Nat.lt_of_lt_of_le hsd hs8) ka0 ka1 ka2 ka3; obtain ⟨kd0, kd1, kd2, kd3, hs11⟩ := box4_next hb8 (Nat.lt_of_lt_of_le hsd4 hs8) kb0 kb1 kb2 kb3; have B8 := Lib.hid hb8; clear hb8))
  have q8 : Below w11.heap.size w11 w12 := D6.out.trans ((B7.out.mono (Nat.le_refl _)).trans (B8.out.mono hs8))
  clear ka0 ka1 ka2 ka3 kb0 kb1 kb2 kb3 kc0 kc1 kc2 kc3 kd0 kd1 kd2 kd3 hsd hsd4 hs8 hs9 hs10 hs11 hlt3
  clear c0 c1 c2 c3 p0 p1 p2 p3
  have K1 := Lib.hid (K1.out.next q8); have K2 := Lib.hid (K2.out.next q8); have O1i := Lib.hid (O1i.out.next q8); have O2i := Lib.hid (O2i.out.next q8); have V1 := Lib.hid (V1.out.next q8); have O3i := Lib.hid (O3i.out.next q8); have O4i := Lib.hid (O4i.out.next q8); have V2 := Lib.hid (V2.out.next q8); have L2i := Lib.hid (L2i.out.next q8); have GA := Lib.hid (GA.out.next q8); have BB := Lib.hid (below_step BB.out q8); have CC := Lib.hid (below_step CC.out q8)
  have sw12 := q8.size
  clear q8
  obtain ⟨_, c0, c1, c2, c3⟩ := K1.out
  obtain ⟨_, d0, d1, d2, d3⟩ := K2.out
  obtain ⟨_, p0, p1, p2, p3⟩ := V1.out
  obtain ⟨_, q0, q1, q2, q3⟩ := V2.out
  go_wp2_with (fail)
  clear c0 c1 c2 c3 d0 d1 d2 d3 p0 p1 p2 p3 q0 q1 q2 q3
  obtain ⟨_, d0, d1, d2, d3⟩ := K2.out
  obtain ⟨_, q0, q1, q2, q3⟩ := V2.out
  have D6 := Lib.hid ((Below.refl w12.heap.size w12).drew)
  have J1d := Lib.hid ((HX0'.out.next BB.out).next D6.out)
  have J2d := Lib.hid ((HY0'.out.next BB.out).next D6.out)
  have I7d := Lib.hid (O3i.out.ints.next D6.out)
  have I8d := Lib.hid (O4i.out.ints.next D6.out)
  have hsd : (w.heap.size + 1) < w12.drew.heap.size := (show (w.heap.size + 1) < w12.heap.size from K2.out.1)
  have hsd4 : w8.heap.size < w12.drew.heap.size := (show w8.heap.size < w12.heap.size from V2.out.1)
  go_region_held3 (fun w' => w'.cell? ⟨(w.heap.size + 1), 0, none⟩ = some (.int .i64 n') ∧ w'.cell? ⟨(w.heap.size + 1), 1, none⟩ = some (.int .i64 o') ∧ w'.cell? ⟨(w.heap.size + 1), 2, none⟩ = some (.slice A' la' ca') ∧ w'.cell? ⟨(w.heap.size + 1), 3, none⟩ = some (.slice B' lb' cb') ∧ w'.cell? ⟨w8.heap.size, 0, none⟩ = some (.int .i64 n') ∧ w'.cell? ⟨w8.heap.size, 1, none⟩ = some (.int .i64 o') ∧ w'.cell? ⟨w8.heap.size, 2, none⟩ = some (.slice (some ⟨g3i, 0, none⟩) la' la') ∧ w'.cell? ⟨w8.heap.size, 3, none⟩ = some (.slice (some ⟨g4i, 0, none⟩) lb' lb'))
    (first | exact ⟨d0, d1, d2, d3, q0, q1, q2, q3⟩ | exact ⟨ka0, ka1, ka2, ka3, kb0, kb1, kb2, kb3⟩ | exact ⟨kc0, kc1, kc2, kc3, kd0, kd1, kd2, kd3⟩)
    (first
      | (go_at_call 29; refine (toRing_any n' o' A' B' la' ca' lb' cb' X' Y' _ J1d.out J2d.out hla3 hlb3).mono ?_; rintro e u7 ⟨g5, g6, rfl, ow5, ow6, hlt3, hb7⟩; obtain ⟨ka0, ka1, ka2, ka3, hs8⟩ := box4_next hb7 hsd d0 d1 d2 d3; obtain ⟨kb0, kb1, kb2, kb3, hs9⟩ := box4_next hb7 hsd4 q0 q1 q2 q3; have I9 := Lib.hid (ints_of_own ow5 HX0'.out.1); have I10 := Lib.hid (ints_of_own ow6 HY0'.out.1); have B7 := Lib.hid hb7; have I11 := Lib.hid (I7d.out.next hb7); have I12 := Lib.hid (I8d.out.next hb7); clear hb7 ow5 ow6)
      | (go_at_call 32; refine (eqRing_same n' o' _ _ _ _ la' la' lb' lb' la' lb' X' Y' _ I11.out I12.out I9.out I10.out hla' hlb').mono ?_; rintro e w13 ⟨rfl, hb8⟩; obtain ⟨kc0, kc1, kc2, kc3, hs10⟩ := box4_next hb8 (Nat.lt_of_lt_of_le hsd hs8) ka0 ka1 ka2 ka3; obtain ⟨kd0, kd1, kd2, kd3, hs11⟩ := box4_next hb8 (Nat.lt_of_lt_of_le hsd4 hs8) kb0 kb1 kb2 kb3; have B8 := Lib.hid hb8; clear hb8))
  have q8 : Below w12.heap.size w12 w13 := D6.out.trans ((B7.out.mono (Nat.le_refl _)).trans (B8.out.mono hs8))
  clear ka0 ka1 ka2 ka3 kb0 kb1 kb2 kb3 kc0 kc1 kc2 kc3 kd0 kd1 kd2 kd3 hsd hsd4 hs8 hs9 hs10 hs11 hlt3
  clear d0 d1 d2 d3 q0 q1 q2 q3
  have K1 := Lib.hid (K1.out.next q8); have K2 := Lib.hid (K2.out.next q8); have O1i := Lib.hid (O1i.out.next q8); have O2i := Lib.hid (O2i.out.next q8); have V1 := Lib.hid (V1.out.next q8); have O3i := Lib.hid (O3i.out.next q8); have O4i := Lib.hid (O4i.out.next q8); have V2 := Lib.hid (V2.out.next q8); have L2i := Lib.hid (L2i.out.next q8); have GA := Lib.hid (GA.out.next q8); have BB := Lib.hid (below_step BB.out q8); have CC := Lib.hid (below_step CC.out q8)
  have sw13 := q8.size
  clear q8
  obtain ⟨_, c0, c1, c2, c3⟩ := K1.out
  obtain ⟨_, d0, d1, d2, d3⟩ := K2.out
  obtain ⟨_, p0, p1, p2, p3⟩ := V1.out
  obtain ⟨_, q0, q1, q2, q3⟩ := V2.out
  go_wp2_with (fail)
  refine (toIntS_any F2 f2 cf2 X2 w13 (HF2.out.next BB.out) hz2).mono ?_
  rintro e w14 ⟨rfl, ow1, hb⟩
  have E2 := Lib.hid (own_of_row ow1 HF2.out.1)
  clear c0 c1 c2 c3 d0 d1 d2 d3 p0 p1 p2 p3 q0 q1 q2 q3
  have K1 := Lib.hid (K1.out.next hb); have K2 := Lib.hid (K2.out.next hb); have O1i := Lib.hid (O1i.out.next hb); have O2i := Lib.hid (O2i.out.next hb); have V1 := Lib.hid (V1.out.next hb); have O3i := Lib.hid (O3i.out.next hb); have O4i := Lib.hid (O4i.out.next hb); have V2 := Lib.hid (V2.out.next hb); have L2i := Lib.hid (L2i.out.next hb); have GA := Lib.hid (GA.out.next hb); have BB := Lib.hid (below_step BB.out hb); have CC := Lib.hid (below_step CC.out hb)
  have sw14 := hb.size
  clear hb ow1
  obtain ⟨_, c0, c1, c2, c3⟩ := K1.out
  obtain ⟨_, d0, d1, d2, d3⟩ := K2.out
  obtain ⟨_, p0, p1, p2, p3⟩ := V1.out
  obtain ⟨_, q0, q1, q2, q3⟩ := V2.out
  go_wp2_with (fail)
  refine (eqIntS_same _ _ f2 f2 f2 X2 w14 _ _ L2i.out.ints E2.out.ints (by omega)).mono ?_
  rintro e w15 ⟨rfl, hb⟩
  clear c0 c1 c2 c3 d0 d1 d2 d3 p0 p1 p2 p3 q0 q1 q2 q3
  have K1 := Lib.hid (K1.out.next hb); have K2 := Lib.hid (K2.out.next hb); have O1i := Lib.hid (O1i.out.next hb); have O2i := Lib.hid (O2i.out.next hb); have V1 := Lib.hid (V1.out.next hb); have O3i := Lib.hid (O3i.out.next hb); have O4i := Lib.hid (O4i.out.next hb); have V2 := Lib.hid (V2.out.next hb); have L2i := Lib.hid (L2i.out.next hb); have GA := Lib.hid (GA.out.next hb); have BB := Lib.hid (below_step BB.out hb); have CC := Lib.hid (below_step CC.out hb)
  have sw15 := hb.size
  clear hb
  obtain ⟨_, c0, c1, c2, c3⟩ := K1.out
  obtain ⟨_, d0, d1, d2, d3⟩ := K2.out
  obtain ⟨_, p0, p1, p2, p3⟩ := V1.out
  obtain ⟨_, q0, q1, q2, q3⟩ := V2.out
  have kv : w6.heap.size ≤ w9.heap.size := by omega
  go_wp2_with (fail)
  have AP := Lib.hid (apart_two (k1 := la) (k2 := lb) hlti)
  have AQ := Lib.hid (apart_two (k1 := la') (k2 := lb') hlui)
  refine (markRingC_any n o (some ⟨g1i, 0, none⟩) (some ⟨g2i, 0, none⟩) la la lb lb X Y 1 w15 w6.heap.size (O1i.out.down (by omega)) (O2i.out.down (by omega)) AP.out (by omega) hla2 hlb2 (by omega) (by omega)).mono ?_
  rintro e w16 ⟨rfl, _, _, keep, hb⟩
  clear c0 c1 c2 c3 d0 d1 d2 d3 p0 p1 p2 p3 q0 q1 q2 q3
  have sw16 := hb.size
  have V2 := Lib.hid (V2.out.marked sw16 keep (by omega) (by omega))
  have O3i := Lib.hid (O3i.out.marked sw16 keep (by omega) (by omega))
  have O4i := Lib.hid (O4i.out.marked sw16 keep (by omega) (by omega))
  have L2i := Lib.hid (L2i.out.marked sw16 keep (by omega) (by omega))
  have GA := Lib.hid (GA.out.marked sw16 keep (by omega) (by omega))
  have K1 := Lib.hid (K1.out.below hb (by omega))
  have K2 := Lib.hid (K2.out.below hb k3)
  have BB := Lib.hid (BB.out.trans (hb.mono kw3))
  have CC := Lib.hid (CC.out.trans hb)
  clear keep hb
  obtain ⟨_, c0, c1, c2, c3⟩ := K1.out
  obtain ⟨_, d0, d1, d2, d3⟩ := K2.out
  obtain ⟨_, q0, q1, q2, q3⟩ := V2.out
  go_wp2_with (fail)
  refine (markRingC_any n' o' (some ⟨g3i, 0, none⟩) (some ⟨g4i, 0, none⟩) la' la' lb' lb' X' Y' (1 + la + lb) w16 w6.heap.size (O3i.out.down (by omega)) (O4i.out.down (by omega)) AQ.out (by omega) hla3 hlb3 (by omega) (by omega)).mono ?_
  rintro e w17 ⟨rfl, _, _, keep, hb⟩
  clear c0 c1 c2 c3 d0 d1 d2 d3 q0 q1 q2 q3
  have sw17 := hb.size
  have L2i := Lib.hid (L2i.out.marked sw17 keep (by omega) (by omega))
  have GA := Lib.hid (GA.out.marked sw17 keep (by omega) (by omega))
  have K1 := Lib.hid (K1.out.below hb (by omega))
  have K2 := Lib.hid (K2.out.below hb k3)
  have BB := Lib.hid (BB.out.trans (hb.mono kw3))
  have CC := Lib.hid (CC.out.trans hb)
  clear keep hb
  obtain ⟨_, c0, c1, c2, c3⟩ := K1.out
  obtain ⟨_, d0, d1, d2, d3⟩ := K2.out
  go_wp2_with (fail)
  refine (markIntS_any _ f2 f2 X2 (1 + la + lb + la' + lb') w17 w6.heap.size (L2i.out.down (by omega)) hz2 (by omega) (by omega)).mono ?_
  rintro e w18 ⟨rfl, _, but, hb⟩
  clear c0 c1 c2 c3 d0 d1 d2 d3
  have sw18 := hb.size
  have GA := Lib.hid (GA.out.markedI but (by omega))
  have K1 := Lib.hid (K1.out.below hb (by omega))
  have K2 := Lib.hid (K2.out.below hb k3)
  have BB := Lib.hid (BB.out.trans (hb.mono kw3))
  have CC := Lib.hid (CC.out.trans hb)
  clear but hb
  obtain ⟨_, c0, c1, c2, c3⟩ := K1.out
  obtain ⟨_, d0, d1, d2, d3⟩ := K2.out
  have tneg : ((1 + la + lb + la' + lb' + f2 : Int) < 0) = False := by simp; omega
  go_wp2_with (fail)
  refine (eqIntS_same A6 A3 l6 c6x c3x Z w18 _ _ GA.out.ints (SA0.out.next CC.out) (by omega)).mono ?_
  rintro e w19 ⟨rfl, hb⟩
  clear c0 c1 c2 c3 d0 d1 d2 d3
  have K1 := Lib.hid (K1.out.next hb); have K2 := Lib.hid (K2.out.next hb); have GA := Lib.hid (GA.out.next hb); have BB := Lib.hid (below_step BB.out hb); have CC := Lib.hid (below_step CC.out hb)
  have sw19 := hb.size
  clear hb
  obtain ⟨_, c0, c1, c2, c3⟩ := K1.out
  obtain ⟨_, d0, d1, d2, d3⟩ := K2.out
  go_wp2_with (fail)
  refine (markIntS_any A6 l6 c6x Z 1 w19 w9.heap.size GA.out (by omega) (by omega) (by omega)).mono ?_
  rintro e w20 ⟨rfl, mA, _, hb⟩
  clear c0 c1 c2 c3 d0 d1 d2 d3
  have sw20 := hb.size
  have MA := Lib.hid mA
  have K1 := Lib.hid (K1.out.below hb (by omega))
  have K2 := Lib.hid (K2.out.below hb (by omega))
  have BB := Lib.hid (BB.out.trans (hb.mono (by omega)))
  have CC := Lib.hid (CC.out.trans (hb.mono kv))
  clear mA hb
  obtain ⟨_, c0, c1, c2, c3⟩ := K1.out
  obtain ⟨_, d0, d1, d2, d3⟩ := K2.out
  have tn : ((1 : Int) + l6 != 1 + l6) = false := by simp
  have tneg2 : ¬ ((1 : Int) + l6 < 0) := by omega
  go_wp2_with (fail)
  refine (heldIntS_any A6 l6 c6x (markL Z l6 1 l6) 1 w20 _ MA.out.ints held_mark (by omega) (by omega) (by omega)).mono ?_
  rintro e w99 ⟨rfl, rfl⟩
  go_wp2_with (fail)
  clear c0 c1 c2 c3 d0 d1 d2 d3
  have hd : Below w20.heap.size w20 w20.drew := (Below.refl _ _).drew
  have K1 := Lib.hid (K1.out.next hd); have K2 := Lib.hid (K2.out.next hd); have MA := Lib.hid (MA.out.next hd); have BB := Lib.hid (below_step BB.out hd); have CC := Lib.hid (below_step CC.out hd)
  clear hd
  obtain ⟨_, c0, c1, c2, c3⟩ := K1.out
  obtain ⟨_, d0, d1, d2, d3⟩ := K2.out
  go_region_held3 (fun w' => w'.cell? ⟨w.heap.size, 0, none⟩ = some (.int .i64 n) ∧ w'.cell? ⟨w.heap.size, 1, none⟩ = some (.int .i64 o) ∧ w'.cell? ⟨w.heap.size, 2, none⟩ = some (.slice A la ca) ∧ w'.cell? ⟨w.heap.size, 3, none⟩ = some (.slice B lb cb) ∧ w'.cell? ⟨(w.heap.size + 1), 0, none⟩ = some (.int .i64 n') ∧ w'.cell? ⟨(w.heap.size + 1), 1, none⟩ = some (.int .i64 o') ∧ w'.cell? ⟨(w.heap.size + 1), 2, none⟩ = some (.slice A' la' ca') ∧ w'.cell? ⟨(w.heap.size + 1), 3, none⟩ = some (.slice B' lb' cb'))
    (first | exact ⟨c0, c1, c2, c3, d0, d1, d2, d3⟩ | exact ⟨ka0, ka1, ka2, ka3, kb0, kb1, kb2, kb3⟩ | exact ⟨kc0, kc1, kc2, kc3, kd0, kd1, kd2, kd3⟩ | exact ⟨ke0, ke1, ke2, ke3, kf0, kf1, kf2, kf3⟩ | exact ⟨kg0, kg1, kg2, kg3, kh0, kh1, kh2, kh3⟩)
    (first
      | (go_at_call 29; (with_reducible refine (toRing_any n o A B la ca lb cb X Y _ (HX0.out.next BB.out) (HY0.out.next BB.out) hla2 hlb2).mono ?_); rintro e w21 ⟨g1j, g2j, rfl, ow1, ow2, hltj, hb⟩; have O1j := Lib.hid (own_of_row ow1 HX0.out.1); have O2j := Lib.hid (own_of_row ow2 HY0.out.1); have K1 := Lib.hid (K1.out.next hb); have K2 := Lib.hid (K2.out.next hb); have MA := Lib.hid (MA.out.next hb); have BB := Lib.hid (below_step BB.out hb); have CC := Lib.hid (below_step CC.out hb); have sw21 := hb.size; clear hb ow1 ow2; obtain ⟨_, ka0, ka1, ka2, ka3⟩ := K1.out; obtain ⟨_, kb0, kb1, kb2, kb3⟩ := K2.out)
      | (go_at_call 29; (with_reducible refine (toRing_any n' o' A' B' la' ca' lb' cb' X' Y' _ (HX0'.out.next BB.out) (HY0'.out.next BB.out) hla3 hlb3).mono ?_); rintro e w22 ⟨g3j, g4j, rfl, ow1, ow2, hluj, hb⟩; have O3j := Lib.hid (own_of_row ow1 HX0'.out.1); have O4j := Lib.hid (own_of_row ow2 HY0'.out.1); have K1 := Lib.hid (K1.out.next hb); have K2 := Lib.hid (K2.out.next hb); have MA := Lib.hid (MA.out.next hb); have O1j := Lib.hid (O1j.out.next hb); have O2j := Lib.hid (O2j.out.next hb); have BB := Lib.hid (below_step BB.out hb); have CC := Lib.hid (below_step CC.out hb); have sw22 := hb.size; clear hb ow1 ow2; obtain ⟨_, kc0, kc1, kc2, kc3⟩ := K1.out; obtain ⟨_, kd0, kd1, kd2, kd3⟩ := K2.out)
      | (go_at_call 37; (with_reducible refine (toIntS_any F2 f2 cf2 X2 _ (HF2.out.next BB.out) hz2).mono ?_); rintro e w23 ⟨rfl, ow1, hb⟩; have L2j := Lib.hid (own_of_row ow1 HF2.out.1); have K1 := Lib.hid (K1.out.next hb); have K2 := Lib.hid (K2.out.next hb); have MA := Lib.hid (MA.out.next hb); have O1j := Lib.hid (O1j.out.next hb); have O2j := Lib.hid (O2j.out.next hb); have O3j := Lib.hid (O3j.out.next hb); have O4j := Lib.hid (O4j.out.next hb); have BB := Lib.hid (below_step BB.out hb); have CC := Lib.hid (below_step CC.out hb); have sw23 := hb.size; clear hb ow1; obtain ⟨_, ke0, ke1, ke2, ke3⟩ := K1.out; obtain ⟨_, kf0, kf1, kf2, kf3⟩ := K2.out)
      | (go_at_call 55; refine (hI.out _ _ _ _ _ _ O1j.out.ints O2j.out.ints O3j.out.ints O4j.out.ints L2j.out.ints).mono ?_; rintro e w24 ⟨v9, rfl, ⟨A9, l9, c9x, rfl, oA, _, h9⟩, hb⟩; have oB9 := Lib.hid oA; have K1 := Lib.hid (K1.out.next hb); have K2 := Lib.hid (K2.out.next hb); have MA := Lib.hid (MA.out.next hb); have BB := Lib.hid (below_step BB.out hb); have CC := Lib.hid (below_step CC.out hb); have sw24 := hb.size; clear hb oA; obtain ⟨_, kg0, kg1, kg2, kg3⟩ := K1.out; obtain ⟨_, kh0, kh1, kh2, kh3⟩ := K2.out))
  clear c0 c1 c2 c3 d0 d1 d2 d3 ka0 ka1 ka2 ka3 kb0 kb1 kb2 kb3 kc0 kc1 kc2 kc3 kd0 kd1 kd2 kd3 ke0 ke1 ke2 ke3 kf0 kf1 kf2 kf3 kg0 kg1 kg2 kg3 kh0 kh1 kh2 kh3
  have el9 : l9 = l6 := by rw [← oB9.out.1, el3]
  subst el9
  obtain ⟨_, c0, c1, c2, c3⟩ := K1.out
  obtain ⟨_, d0, d1, d2, d3⟩ := K2.out
  go_wp2_with (fail)
  refine (eqIntS_same A9 A3 l9 c9x c3x Z w24 _ _ oB9.out.ints (SA0.out.next CC.out) (by omega)).mono ?_
  rintro e w25 ⟨rfl, hb⟩
  clear c0 c1 c2 c3 d0 d1 d2 d3
  have K1 := Lib.hid (K1.out.next hb); have K2 := Lib.hid (K2.out.next hb); have MA := Lib.hid (MA.out.next hb); have BB := Lib.hid (below_step BB.out hb); have CC := Lib.hid (below_step CC.out hb)
  have sw25 := hb.size
  clear hb
  obtain ⟨_, c0, c1, c2, c3⟩ := K1.out
  obtain ⟨_, d0, d1, d2, d3⟩ := K2.out
  go_wp2_with (fail)
  refine (heldIntS_any A6 l9 c6x (markL Z l9 1 l9) 1 w25 _ MA.out.ints held_mark (by omega) (by omega) (by omega)).mono ?_
  rintro e w98 ⟨rfl, rfl⟩
  go_wp2
  go_ret
  exact ⟨rfl, BB.out⟩

end Go.Proofs.Ytcbodedpahdobaa
