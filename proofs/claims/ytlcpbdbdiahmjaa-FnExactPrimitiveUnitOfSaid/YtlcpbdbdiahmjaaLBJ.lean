
import Derived.Test.YtlcpbdbdiahmjaaMB
/- The walk of the law FnExactPrimitiveUnitOf, whatever the function hands back, if both sides hand back the same. -/
namespace Go.Proofs.Ytlcpbdbdiahmjaa
open Go.RowKit
set_option maxRecDepth 100000

set_option maxHeartbeats 8000000 in
theorem fnExactPrimitiveUnitOf_walk (n o : Int) (A B : Option Addr) (la ca lb cb : Nat) (X Y : List Int) (z : Int) (w : World) (hX : Ints w w.heap.size A la X) (hY : Ints w w.heap.size B lb Y) (hla : la ≤ 9223372036854775807) (hlb : lb ≤ 9223372036854775807) 
    (hS0 : ∀ (A B : Option Addr) (w : World),Ints w w.heap.size A la X → Ints w w.heap.size B lb Y → Calls Try.prog 37 #[.agg #[.int .i64 n, .int .i64 o, .slice A la la, .slice B lb lb]] w fun e w' => e = .returned (.int .i64 z) ∧ Below w.heap.size w w')
    (hI0 : ∀ (A B : Option Addr) (w : World),Ints w w.heap.size A la X → Ints w w.heap.size B lb Y → Calls Try.prog 39 #[.agg #[.int .i64 n, .int .i64 o, .slice A la la, .slice B lb lb]] w fun e w' => e = .returned (.int .i64 z) ∧ Below w.heap.size w w') :
    Calls Try.prog 9 #[.agg #[.int .i64 n, .int .i64 o, .slice A la ca, .slice B lb cb]] w fun e w' => e = .returned (.bool true) ∧ Below w.heap.size w w' := by
  have hS := Lib.hid hS0
  have hI := Lib.hid hI0
  have HX0 := Lib.hid hX
  have HY0 := Lib.hid hY
  clear hS0 hI0 hX hY
  obtain ⟨W, hW⟩ : ∃ W, w.alloc (.cells #[.int .i64 n, .int .i64 o, .slice A la ca, .slice B lb cb] 45) = W := ⟨_, rfl⟩
  have k0 : Blk W w.heap.size 45 #[.int .i64 n, .int .i64 o, .slice A la ca, .slice B lb cb] := by
    subst hW; exact Blk.new w _ _
  have b0 : Below w.heap.size w W := by
    subst hW; exact (Below.refl _ _).alloc (Nat.le_refl _) _
  have hs0 := k0.lt
  have K := Lib.hid k0
  have BB := Lib.hid b0
  have HW := Lib.hid hW
  clear k0 b0 hW
  by_cases hsz : (la : Int) + lb ≤ 1048576
  rotate_left
  · have e1 := Lib.hid (szR_no hsz)
    go_enter Try.func9, Try.ntmps9
    go_wp2_with (fail)
    rw [HW.out]
    refine (szRing_any n o A B la ca lb cb 1048576 _ (by omega) (by omega) hla hlb).mono ?_
    rintro e w1 ⟨rfl, hb1⟩
    rw [e1.out]
    go_wp2
    go_ret
    exact ⟨rfl, below_step BB.out hb1⟩
  have e1 := Lib.hid (szR_yes hsz)
  have hla2 : la ≤ 1048576 := by omega
  have hlb2 : lb ≤ 1048576 := by omega
  go_enter Try.func9, Try.ntmps9
  go_wp2_with (fail)
  rw [HW.out]
  refine (szRing_any n o A B la ca lb cb 1048576 W (by omega) (by omega) hla hlb).mono ?_
  rintro e w1 ⟨rfl, hb1⟩
  rw [e1.out]
  have K := Lib.hid (K.out.next hb1); have BB := Lib.hid (below_step BB.out hb1)
  have s1 := hb1.size
  clear hb1
  obtain ⟨c0, c1, c2, c3⟩ := blk4 K.out
  go_wp2_with (fail)
  refine (toRing_any n o A B la ca lb cb X Y w1 (HX0.out.next BB.out) (HY0.out.next BB.out) hla2 hlb2).mono ?_
  rintro e w2 ⟨g1s, g2s, rfl, ow1, ow2, hlts, hb⟩
  have O1s := Lib.hid (own_of_row ow1 HX0.out.1)
  have O2s := Lib.hid (own_of_row ow2 HY0.out.1)
  have hg1s := (ow1.lt g1s rfl).2
  have hg2s := (ow2.lt g2s rfl).2
  have K := Lib.hid (K.out.next hb); have BB := Lib.hid (below_step BB.out hb)
  have sw2 := hb.size
  clear hb ow1 ow2 c0 c1 c2 c3
  obtain ⟨c0, c1, c2, c3⟩ := blk4 K.out
  go_wp2_with (fail)
  refine (hS.out _ _ w2 O1s.out.ints O2s.out.ints).mono ?_
  rintro e w3 ⟨rfl, hb⟩
  have K := Lib.hid (K.out.next hb); have BB := Lib.hid (below_step BB.out hb)
  have CC := Lib.hid (Below.refl w3.heap.size w3)
  have sw3 := hb.size
  clear hb c0 c1 c2 c3
  obtain ⟨c0, c1, c2, c3⟩ := blk4 K.out
  have k3 : w.heap.size < w3.heap.size := by omega
  have kw3 : w.heap.size ≤ w3.heap.size := by omega
  go_wp2_with (fail)
  refine (toRing_any n o A B la ca lb cb X Y w3 (HX0.out.next BB.out) (HY0.out.next BB.out) hla2 hlb2).mono ?_
  rintro e w4 ⟨g1i, g2i, rfl, ow1, ow2, hlti, hb⟩
  have O1i := Lib.hid (own_of_row ow1 HX0.out.1)
  have O2i := Lib.hid (own_of_row ow2 HY0.out.1)
  have hg1i := (ow1.lt g1i rfl).2
  have hg2i := (ow2.lt g2i rfl).2
  have K := Lib.hid (K.out.next hb); have BB := Lib.hid (below_step BB.out hb); have CC := Lib.hid (below_step CC.out hb)
  have sw4 := hb.size
  clear hb ow1 ow2 c0 c1 c2 c3
  obtain ⟨c0, c1, c2, c3⟩ := blk4 K.out
  go_wp2_with (fail)
  obtain ⟨V, hV⟩ : ∃ V, w4.alloc (.cells #[.int .i64 n, .int .i64 o, .slice (some ⟨g1i, 0, none⟩) la la, .slice (some ⟨g2i, 0, none⟩) lb lb] 25) = V := ⟨_, rfl⟩
  have v0 : Blk V w4.heap.size 25 #[.int .i64 n, .int .i64 o, .slice (some ⟨g1i, 0, none⟩) la la, .slice (some ⟨g2i, 0, none⟩) lb lb] := by
    subst hV; exact Blk.new w4 _ _
  have bv : Below w4.heap.size w4 V := by
    subst hV; exact (Below.refl _ _).alloc (Nat.le_refl _) _
  rw [hV]
  clear hV
  have hsv := v0.lt
  have V0 := Lib.hid v0
  have K := Lib.hid (K.out.next bv); have O1i := Lib.hid (O1i.out.next bv); have O2i := Lib.hid (O2i.out.next bv); have BB := Lib.hid (below_step BB.out bv); have CC := Lib.hid (below_step CC.out bv)
  clear v0 bv
  clear c0 c1 c2 c3
  obtain ⟨c0, c1, c2, c3⟩ := blk4 K.out
  obtain ⟨d0, d1, d2, d3⟩ := blk4 V0.out
  refine (hI.out _ _ V O1i.out.ints O2i.out.ints).mono ?_
  rintro e w5 ⟨rfl, hb⟩
  have K := Lib.hid (K.out.next hb); have O1i := Lib.hid (O1i.out.next hb); have O2i := Lib.hid (O2i.out.next hb); have V0 := Lib.hid (V0.out.next hb); have BB := Lib.hid (below_step BB.out hb); have CC := Lib.hid (below_step CC.out hb)
  have sw5 := hb.size
  clear hb c0 c1 c2 c3 d0 d1 d2 d3
  obtain ⟨c0, c1, c2, c3⟩ := blk4 K.out
  obtain ⟨d0, d1, d2, d3⟩ := blk4 V0.out
  have tok : (z != z) = false := by simp
  go_wp2_with (fail)
  have D6 := Lib.hid ((Below.refl w5.heap.size w5).drew)
  have J1d := Lib.hid ((HX0.out.next BB.out).next D6.out)
  have J2d := Lib.hid ((HY0.out.next BB.out).next D6.out)
  have I7d := Lib.hid (O1i.out.ints.next D6.out)
  have I8d := Lib.hid (O2i.out.ints.next D6.out)
  have hsd : w.heap.size < w5.drew.heap.size := (show w.heap.size < w5.heap.size by omega)
  have hsd4 : w4.heap.size < w5.drew.heap.size := (show w4.heap.size < w5.heap.size by omega)
  go_region_held3 (fun w' => w'.cell? ⟨w.heap.size, 0, none⟩ = some (.int .i64 n) ∧ w'.cell? ⟨w.heap.size, 1, none⟩ = some (.int .i64 o) ∧ w'.cell? ⟨w.heap.size, 2, none⟩ = some (.slice A la ca) ∧ w'.cell? ⟨w.heap.size, 3, none⟩ = some (.slice B lb cb) ∧
      w'.cell? ⟨w4.heap.size, 0, none⟩ = some (.int .i64 n) ∧ w'.cell? ⟨w4.heap.size, 1, none⟩ = some (.int .i64 o) ∧ w'.cell? ⟨w4.heap.size, 2, none⟩ = some (.slice (some ⟨g1i, 0, none⟩) la la) ∧ w'.cell? ⟨w4.heap.size, 3, none⟩ = some (.slice (some ⟨g2i, 0, none⟩) lb lb))
    (first | exact ⟨c0, c1, c2, c3, d0, d1, d2, d3⟩ | exact ⟨r0, r1, r2, r3, t0, t1, t2, t3⟩ | exact ⟨y0, y1, y2, y3, z0, z1, z2, z3⟩)
    (first
      | (go_at_call 38; refine (toRing_any n o A B la ca lb cb X Y _ J1d.out J2d.out hla2 hlb2).mono ?_; rintro e u7 ⟨g5, g6, rfl, ow5, ow6, hlt3, hb7⟩; obtain ⟨r0, r1, r2, r3, hs8⟩ := box4_next hb7 hsd c0 c1 c2 c3; obtain ⟨t0, t1, t2, t3, hs9⟩ := box4_next hb7 hsd4 d0 d1 d2 d3; have I9 := Lib.hid (ints_of_own ow5 HX0.out.1); have I10 := Lib.hid (ints_of_own ow6 HY0.out.1); have B7 := Lib.hid hb7; have I11 := Lib.hid (I7d.out.next hb7); have I12 := Lib.hid (I8d.out.next hb7); clear hb7 ow5 ow6)
      | (go_at_call 40; refine (eqRing_same n o _ _ _ _ la la lb lb la lb X Y _ I11.out I12.out I9.out I10.out hla hlb).mono ?_; rintro e w6 ⟨rfl, hb8⟩; obtain ⟨y0, y1, y2, y3, hs10⟩ := box4_next hb8 (Nat.lt_of_lt_of_le hsd hs8) r0 r1 r2 r3; obtain ⟨z0, z1, z2, z3, hs11⟩ := box4_next hb8 (Nat.lt_of_lt_of_le hsd4 hs8) t0 t1 t2 t3; have B8 := Lib.hid hb8; clear hb8))
  have q8 : Below w5.heap.size w5 w6 := D6.out.trans ((B7.out.mono (Nat.le_refl _)).trans (B8.out.mono hs8))
  have K := Lib.hid (K.out.next q8); have O1i := Lib.hid (O1i.out.next q8); have O2i := Lib.hid (O2i.out.next q8); have V0 := Lib.hid (V0.out.next q8); have BB := Lib.hid (below_step BB.out q8); have CC := Lib.hid (below_step CC.out q8)
  have sw6 := q8.size
  clear q8 c0 c1 c2 c3 d0 d1 d2 d3 r0 r1 r2 r3 t0 t1 t2 t3 y0 y1 y2 y3 z0 z1 z2 z3
  obtain ⟨c0, c1, c2, c3⟩ := blk4 K.out
  obtain ⟨d0, d1, d2, d3⟩ := blk4 V0.out
  go_wp2
  go_ret
  exact ⟨rfl, BB.out⟩

end Go.Proofs.Ytlcpbdbdiahmjaa

