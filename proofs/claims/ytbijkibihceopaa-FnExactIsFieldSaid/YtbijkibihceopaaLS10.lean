
import Derived.Test.YtbijkibihceopaaMB
import Derived.Test.YtbijkibihceopaaMG
/- The walk of the law FnExactIsField. -/
namespace Go.Proofs.Ytbijkibihceopaa
open Go.RowKit

set_option maxHeartbeats 2000000 in
theorem fnExactIsField_walk (n o : Int) (A B : Option Addr) (la ca lb cb : Nat) (X Y : List Int) (w : World) (hX : Ints w w.heap.size A la X) (hY : Ints w w.heap.size B lb Y) (hla : la ≤ 9223372036854775807) (hlb : lb ≤ 9223372036854775807) (hn1 : n ≤ 9223372036854775807) :
    Calls Try.prog 3 #[.agg #[.int .i64 n, .int .i64 o, .slice A la ca, .slice B lb cb]] w fun e w' => e = .returned (.bool true) ∧ Below w.heap.size w w' := by
  have b0 : Below w.heap.size w (w.alloc (.cells #[.int .i64 n, .int .i64 o, .slice A la ca, .slice B lb cb] 24)) := (Below.refl _ _).alloc (Nat.le_refl _) _
  have H1 := Lib.hid (hX.next b0)
  have H2 := Lib.hid (hY.next b0)
  clear hX hY b0
  by_cases hsz : (la : Int) + lb ≤ 1048576
  · have e1 := Lib.hid (szR_yes hsz)
    go_enter Try.func3, Try.ntmps3
    go_wp2_with (fail)
    obtain ⟨W, hW⟩ : ∃ W, w.alloc (.cells #[.int .i64 n, .int .i64 o, .slice A la ca, .slice B lb cb] 24) = W := ⟨_, rfl⟩
    have k0 : Blk W w.heap.size 24 #[.int .i64 n, .int .i64 o, .slice A la ca, .slice B lb cb] := by
      subst hW; exact Blk.new w _ _
    have b0 : Below w.heap.size w W := by
      subst hW; exact (Below.refl _ _).alloc (Nat.le_refl _) _
    rw [hW] at H1 H2 ⊢
    clear hW
    have hs0 := k0.lt
    have K0 := Lib.hid k0
    have B0 := Lib.hid b0
    clear k0 b0
    refine (szRing_any n o A B la ca lb cb 1048576 W (by omega) (by omega) hla hlb).mono ?_
    rintro e w1 ⟨rfl, hb1⟩
    rw [e1.out]
    obtain ⟨c0, c1, c2, c3, hs1⟩ := box4_next hb1 hs0 (K0.out.cell 0) (K0.out.cell 1) (K0.out.cell 2) (K0.out.cell 3)
    have B1 := Lib.hid hb1
    clear hb1
    go_wp2_with (fail)
    refine (toRing_any n o A B la ca lb cb X Y w1 (H1.out.next B1.out) (H2.out.next B1.out) (by omega) (by omega)).mono ?_
    rintro e w2 ⟨g1, g2, rfl, ow1, ow2, hlt, hb2⟩
    have I1 := Lib.hid (ints_of_own ow1 H1.out.1)
    have I2 := Lib.hid (ints_of_own ow2 H2.out.1)
    obtain ⟨d0, d1, d2, d3, hs2⟩ := box4_next hb2 (by omega) c0 c1 c2 c3
    have B2 := Lib.hid hb2
    clear hb2 ow1 ow2
    go_wp2_with (fail)
    refine (sisField_any n o _ _ la la lb lb X Y w2 I1.out I2.out hla hlb (Nat.le_refl _) (Nat.le_refl _) hn1).mono ?_
    rintro e w3 ⟨rfl, hb3⟩
    obtain ⟨f0, f1, f2, f3, hs3⟩ := box4_next hb3 (by omega) d0 d1 d2 d3
    have B3 := Lib.hid hb3
    clear hb3
    go_wp2_with (fail)
    have J1 := Lib.hid (H1.out.next (B1.out.trans ((B2.out.mono (by omega)).trans (B3.out.mono (by omega)))))
    have J2 := Lib.hid (H2.out.next (B1.out.trans ((B2.out.mono (by omega)).trans (B3.out.mono (by omega)))))
    refine (toRing_any n o A B la ca lb cb X Y w3 J1.out J2.out (by omega) (by omega)).mono ?_
    rintro e w4 ⟨g3, g4, rfl, ow3, ow4, hlt2, hb4⟩
    have I3 := Lib.hid (ints_of_own ow3 H1.out.1)
    have I4 := Lib.hid (ints_of_own ow4 H2.out.1)
    obtain ⟨p0, p1, p2, p3, hs4⟩ := box4_next hb4 (by omega) f0 f1 f2 f3
    have B4 := Lib.hid hb4
    clear hb4 ow3 ow4
    go_wp2_with (fail)
    obtain ⟨V, hV⟩ : ∃ V, w4.alloc (.cells #[.int .i64 n, .int .i64 o, .slice (some ⟨g3, 0, none⟩) la la, .slice (some ⟨g4, 0, none⟩) lb lb] 27) = V := ⟨_, rfl⟩
    have v0 : Blk V w4.heap.size 27 #[.int .i64 n, .int .i64 o, .slice (some ⟨g3, 0, none⟩) la la, .slice (some ⟨g4, 0, none⟩) lb lb] := by
      subst hV; exact Blk.new w4 _ _
    have bv : Below w4.heap.size w4 V := by
      subst hV; exact (Below.refl _ _).alloc (Nat.le_refl _) _
    rw [hV]
    clear hV
    have hsv := v0.lt
    have V0 := Lib.hid v0
    have B5 := Lib.hid bv
    have I5 := Lib.hid (I3.out.next bv)
    have I6 := Lib.hid (I4.out.next bv)
    obtain ⟨q0, q1, q2, q3, hs5⟩ := box4_next bv (by omega) p0 p1 p2 p3
    clear v0 bv
    refine (isField_any n o _ _ la la lb lb X Y V I5.out I6.out hla hlb (Nat.le_refl _) (Nat.le_refl _)).mono ?_
    rintro e w6 ⟨rfl, hb6⟩
    obtain ⟨l0, l1, l2, l3, hs6⟩ := box4_next hb6 (by omega) q0 q1 q2 q3
    obtain ⟨m0, m1, m2, m3, hs7⟩ := box4_next hb6 hsv (V0.out.cell 0) (V0.out.cell 1) (V0.out.cell 2) (V0.out.cell 3)
    have B6 := Lib.hid hb6
    clear hb6 q0 q1 q2 q3 p0 p1 p2 p3 f0 f1 f2 f3 d0 d1 d2 d3 c0 c1 c2 c3
    have B16 := Lib.hid (B1.out.trans ((B2.out.mono (by omega)).trans ((B3.out.mono (by omega)).trans ((B4.out.mono (by omega)).trans ((B5.out.mono (by omega)).trans (B6.out.mono (by omega)))))))
    have J1 := Lib.hid (H1.out.next B16.out)
    have J2 := Lib.hid (H2.out.next B16.out)
    have I7 := Lib.hid (I5.out.next B6.out)
    have I8 := Lib.hid (I6.out.next B6.out)
    have D6 := Lib.hid ((Below.refl w6.heap.size w6).drew)
    have J1d := Lib.hid (J1.out.next D6.out)
    have J2d := Lib.hid (J2.out.next D6.out)
    have I7d := Lib.hid (I7.out.next D6.out)
    have I8d := Lib.hid (I8.out.next D6.out)
    have hsd : w.heap.size < w6.drew.heap.size := (show w.heap.size < w6.heap.size by omega)
    have hsd4 : w4.heap.size < w6.drew.heap.size := (show w4.heap.size < w6.heap.size by omega)
    go_wp2_with (fail)
    go_region_held3 (fun w' => w'.cell? ⟨w.heap.size, 0, none⟩ = some (.int .i64 n) ∧ w'.cell? ⟨w.heap.size, 1, none⟩ = some (.int .i64 o) ∧ w'.cell? ⟨w.heap.size, 2, none⟩ = some (.slice A la ca) ∧ w'.cell? ⟨w.heap.size, 3, none⟩ = some (.slice B lb cb) ∧
        w'.cell? ⟨w4.heap.size, 0, none⟩ = some (.int .i64 n) ∧ w'.cell? ⟨w4.heap.size, 1, none⟩ = some (.int .i64 o) ∧ w'.cell? ⟨w4.heap.size, 2, none⟩ = some (.slice (some ⟨g3, 0, none⟩) la la) ∧ w'.cell? ⟨w4.heap.size, 3, none⟩ = some (.slice (some ⟨g4, 0, none⟩) lb lb))
      (first | exact ⟨l0, l1, l2, l3, m0, m1, m2, m3⟩ | exact ⟨r0, r1, r2, r3, t0, t1, t2, t3⟩ | exact ⟨y0, y1, y2, y3, z0, z1, z2, z3⟩)
      (first
        | (go_at_call 7; refine (toRing_any n o A B la ca lb cb X Y _ J1d.out J2d.out (by omega) (by omega)).mono ?_; rintro e w7 ⟨g5, g6, rfl, ow5, ow6, hlt3, hb7⟩; obtain ⟨r0, r1, r2, r3, hs8⟩ := box4_next hb7 hsd l0 l1 l2 l3; obtain ⟨t0, t1, t2, t3, hs9⟩ := box4_next hb7 hsd4 m0 m1 m2 m3; have I9 := Lib.hid (ints_of_own ow5 H1.out.1); have I10 := Lib.hid (ints_of_own ow6 H2.out.1); have B7 := Lib.hid hb7; have I11 := Lib.hid (I7d.out.next hb7); have I12 := Lib.hid (I8d.out.next hb7); clear hb7 ow5 ow6)
        | (go_at_call 9; refine (eqRing_same n o _ _ _ _ la la lb lb la lb X Y _ I11.out I12.out I9.out I10.out hla hlb).mono ?_; rintro e w8 ⟨rfl, hb8⟩; obtain ⟨y0, y1, y2, y3, hs10⟩ := box4_next hb8 (Nat.lt_of_lt_of_le hsd hs8) r0 r1 r2 r3; obtain ⟨z0, z1, z2, z3, hs11⟩ := box4_next hb8 (Nat.lt_of_lt_of_le hsd4 hs8) t0 t1 t2 t3; have B8 := Lib.hid hb8; clear hb8))
    go_wp2
    go_ret
    have h46 : w.heap.size ≤ w6.heap.size := by omega
    have h47 : w.heap.size ≤ w7.heap.size := Nat.le_trans (Nat.le_of_lt hsd) hs8
    exact ⟨rfl, (B0.out.trans (B16.out.mono (by omega))).trans ((D6.out.mono h46).trans ((B7.out.mono (Nat.le_of_lt hsd)).trans (B8.out.mono h47)))⟩
  · have e1 := Lib.hid (szR_no hsz)
    go_enter Try.func3, Try.ntmps3
    go_wp2_with (fail)
    refine (szRing_any n o A B la ca lb cb 1048576 _ (by omega) (by omega) hla hlb).mono ?_
    rintro e w1 ⟨rfl, hb1⟩
    rw [e1.out]
    go_wp2
    go_ret
    exact ⟨rfl, ((Below.refl _ _).alloc (Nat.le_refl _) _).trans (hb1.mono (by simp))⟩

end Go.Proofs.Ytbijkibihceopaa
