/- The walk of the law FnExactPartOf. -/
import Derived.Test.YtplligjoegjngaaQ0
import Derived.Test.YtplligjoegjngaaH1
namespace Go.Proofs.Ytplligjoegjngaa
open Go.RowKit
set_option maxRecDepth 100000

set_option maxHeartbeats 4000000 in
theorem fnExactPartOf_walk (n o n' o' : Int) (A B A' B' : Option Addr) (la ca lb cb la' ca' lb' cb' : Nat) (X Y X' Y' : List Int) (a : Int) (s : Bool) (w : World) (hX : Ints w w.heap.size A la X) (hY : Ints w w.heap.size B lb Y) (hX' : Ints w w.heap.size A' la' X') (hY' : Ints w w.heap.size B' lb' Y')
    (hla : la ≤ 9223372036854775807) (hlb : lb ≤ 9223372036854775807) (hla' : la' ≤ 9223372036854775807) (hlb' : lb' ≤ 9223372036854775807) :
    Calls Try.prog 6 #[.agg #[.int .i64 n, .int .i64 o, .slice A la ca, .slice B lb cb], .agg #[.int .i64 n', .int .i64 o', .slice A' la' ca', .slice B' lb' cb'], .int .i64 a, .bool s] w fun e w' => e = .returned (.bool true) ∧ Below w.heap.size w w' := by
  obtain ⟨W, hW⟩ : ∃ W, (w.alloc (.cells #[.int .i64 n, .int .i64 o, .slice A la ca, .slice B lb cb] 30)).alloc (.cells #[.int .i64 n', .int .i64 o', .slice A' la' ca', .slice B' lb' cb'] 30) = W := ⟨_, rfl⟩
  have k1 : Blk W w.heap.size 30 #[.int .i64 n, .int .i64 o, .slice A la ca, .slice B lb cb] := by
    subst hW; exact (Blk.new w _ _).alloc _
  have k2 : Blk W (w.heap.size + 1) 30 #[.int .i64 n', .int .i64 o', .slice A' la' ca', .slice B' lb' cb'] := by
    subst hW; simpa using Blk.new (w.alloc (.cells #[.int .i64 n, .int .i64 o, .slice A la ca, .slice B lb cb] 30)) 30 #[.int .i64 n', .int .i64 o', .slice A' la' ca', .slice B' lb' cb']
  have b0 : Below w.heap.size w W := by
    subst hW; exact ((Below.refl _ _).alloc (Nat.le_refl _) _).alloc (by simp) _
  have K1 := Lib.hid k1
  have K2 := Lib.hid k2
  have IX := Lib.hid (hX.next b0)
  have IY := Lib.hid (hY.next b0)
  have IX' := Lib.hid (hX'.next b0)
  have IY' := Lib.hid (hY'.next b0)
  have BB := Lib.hid b0
  have HW := Lib.hid hW
  clear k1 k2 hX hY hX' hY' b0 hW
  by_cases hsz : (la : Int) + lb ≤ 1048576
  · have z1 := Lib.hid (szRq_yes hsz)
    by_cases hsz2 : (la' : Int) + lb' ≤ 1048576 - la - lb
    · have z2 := Lib.hid (szRq_yes hsz2)
      have hs1 : la ≤ 1048576 := by omega
      have hs2 : lb ≤ 1048576 := by omega
      have hs3 : la' ≤ 1048576 := by omega
      have hs4 : lb' ≤ 1048576 := by omega
      go_enter Try.func6, Try.ntmps6
      go_wp2_with (fail)
      rw [HW.out]
      refine (szRing_any n o A B la ca lb cb 1048576 W (by omega) (by omega) hla hlb).mono ?_
      rintro e1 w1 ⟨rfl, hb1⟩
      rw [z1.out]
      have K1 := Lib.hid (K1.out.next hb1); have K2 := Lib.hid (K2.out.next hb1); have IX := Lib.hid (IX.out.next hb1); have IY := Lib.hid (IY.out.next hb1); have IX' := Lib.hid (IX'.out.next hb1); have IY' := Lib.hid (IY'.out.next hb1); have BB := Lib.hid (below_step BB.out hb1); clear hb1
      obtain ⟨c0, c1, c2, c3⟩ := blk4 K1.out
      obtain ⟨d0, d1, d2, d3⟩ := blk4 K2.out
      go_wp2_with (fail)
      refine (szRing_any n' o' A' B' la' ca' lb' cb' (1048576 - la - lb) w1 (by omega) (by omega) hla' hlb').mono ?_
      rintro e2 w2 ⟨rfl, hb2⟩
      rw [z2.out]
      have K1 := Lib.hid (K1.out.next hb2); have K2 := Lib.hid (K2.out.next hb2); have IX := Lib.hid (IX.out.next hb2); have IY := Lib.hid (IY.out.next hb2); have IX' := Lib.hid (IX'.out.next hb2); have IY' := Lib.hid (IY'.out.next hb2); have BB := Lib.hid (below_step BB.out hb2); clear hb2
      obtain ⟨f0, f1, f2, f3⟩ := blk4 K1.out
      obtain ⟨g0, g1, g2, g3⟩ := blk4 K2.out
      go_wp2_with (fail)
      have hd2 : Below w2.heap.size w2 w2.drew := (Below.refl _ _).drew
      have K1 := Lib.hid (K1.out.next hd2); have K2 := Lib.hid (K2.out.next hd2); have IX := Lib.hid (IX.out.next hd2); have IY := Lib.hid (IY.out.next hd2); have IX' := Lib.hid (IX'.out.next hd2); have IY' := Lib.hid (IY'.out.next hd2); have BB := Lib.hid (below_step BB.out hd2); clear hd2
      go_region_held3 (fun w' => w'.cell? ⟨w.heap.size, 0, none⟩ = some (.int .i64 n) ∧ w'.cell? ⟨w.heap.size, 1, none⟩ = some (.int .i64 o) ∧ w'.cell? ⟨w.heap.size, 2, none⟩ = some (.slice A la ca) ∧ w'.cell? ⟨w.heap.size, 3, none⟩ = some (.slice B lb cb) ∧ w'.cell? ⟨w.heap.size + 1, 0, none⟩ = some (.int .i64 n') ∧ w'.cell? ⟨w.heap.size + 1, 1, none⟩ = some (.int .i64 o') ∧ w'.cell? ⟨w.heap.size + 1, 2, none⟩ = some (.slice A' la' ca') ∧ w'.cell? ⟨w.heap.size + 1, 3, none⟩ = some (.slice B' lb' cb'))
        (first | exact ⟨f0, f1, f2, f3, g0, g1, g2, g3⟩ | exact ⟨k0, k1, k2, k3, l0, l1, l2, l3⟩ | exact ⟨p0, p1, p2, p3, q0, q1, q2, q3⟩ | exact ⟨r0, r1, r2, r3, s0, s1, s2, s3⟩)
        (first
          | (go_at_call 26; (with_reducible refine (toRing_any n o A B la ca lb cb X Y _ IX.out IY.out hs1 hs2).mono ?_);  rintro e3 w3 ⟨a1, a2, rfl, ow1, ow2, hlt3, hb3⟩; have K1 := Lib.hid (K1.out.next hb3); have K2 := Lib.hid (K2.out.next hb3); have IX := Lib.hid (IX.out.next hb3); have IY := Lib.hid (IY.out.next hb3); have IX' := Lib.hid (IX'.out.next hb3); have IY' := Lib.hid (IY'.out.next hb3); have BB := Lib.hid (below_step BB.out hb3); have aI1 := Lib.hid (ints_of_own ow1 IX.out.1); have aI2 := Lib.hid (ints_of_own ow2 IY.out.1); clear ow1 ow2 hb3; obtain ⟨k0, k1, k2, k3⟩ := blk4 K1.out; obtain ⟨l0, l1, l2, l3⟩ := blk4 K2.out)
          | (go_at_call 26; (with_reducible refine (toRing_any n' o' A' B' la' ca' lb' cb' X' Y' _ IX'.out IY'.out hs3 hs4).mono ?_);  rintro e4 w4 ⟨b1, b2, rfl, ow1, ow2, hlt4, hb4⟩; have K1 := Lib.hid (K1.out.next hb4); have K2 := Lib.hid (K2.out.next hb4); have IX := Lib.hid (IX.out.next hb4); have IY := Lib.hid (IY.out.next hb4); have IX' := Lib.hid (IX'.out.next hb4); have IY' := Lib.hid (IY'.out.next hb4); have aI1 := Lib.hid (aI1.out.next hb4); have aI2 := Lib.hid (aI2.out.next hb4); have BB := Lib.hid (below_step BB.out hb4); have bI1 := Lib.hid (ints_of_own ow1 IX'.out.1); have bI2 := Lib.hid (ints_of_own ow2 IY'.out.1); clear ow1 ow2 hb4; obtain ⟨p0, p1, p2, p3⟩ := blk4 K1.out; obtain ⟨q0, q1, q2, q3⟩ := blk4 K2.out)
          | (go_at_call 33; refine (spartOf_any n o _ _ la la lb lb X Y n' o' _ _ la' la' lb' lb' X' Y' a s _ aI1.out aI2.out hla hlb (Nat.le_refl _) (Nat.le_refl _) bI1.out bI2.out hla' hlb' (Nat.le_refl _) (Nat.le_refl _)).mono ?_; rintro e5 w5 ⟨rfl, hb5⟩; have K1 := Lib.hid (K1.out.next hb5); have K2 := Lib.hid (K2.out.next hb5); have IX := Lib.hid (IX.out.next hb5); have IY := Lib.hid (IY.out.next hb5); have IX' := Lib.hid (IX'.out.next hb5); have IY' := Lib.hid (IY'.out.next hb5); have BB := Lib.hid (below_step BB.out hb5); clear hb5; obtain ⟨r0, r1, r2, r3⟩ := blk4 K1.out; obtain ⟨s0, s1, s2, s3⟩ := blk4 K2.out))
      go_wp2_with (fail)
      refine (toRing_any n o A B la ca lb cb X Y _ IX.out IY.out hs1 hs2).mono ?_
      rintro e6 w6 ⟨x1, x2, rfl, ow1, ow2, hlt6, hb6⟩
      have K1 := Lib.hid (K1.out.next hb6)
      have K2 := Lib.hid (K2.out.next hb6)
      have IX := Lib.hid (IX.out.next hb6)
      have IY := Lib.hid (IY.out.next hb6)
      have IX' := Lib.hid (IX'.out.next hb6)
      have IY' := Lib.hid (IY'.out.next hb6)
      have BB := Lib.hid (below_step BB.out hb6)
      have xI1 := Lib.hid (ints_of_own ow1 IX.out.1)
      have xI2 := Lib.hid (ints_of_own ow2 IY.out.1)
      clear ow1 ow2 hb6
      obtain ⟨t0, t1, t2, t3⟩ := blk4 K1.out
      obtain ⟨u0, u1, u2, u3⟩ := blk4 (K2.out.alloc (.cells #[.int .i64 n, .int .i64 o, .slice (some ⟨x1, 0, none⟩) la la, .slice (some ⟨x2, 0, none⟩) lb lb] 24))
      go_wp2_with (fail)
      obtain ⟨V1, hV1⟩ : ∃ V, w6.alloc (.cells #[.int .i64 n, .int .i64 o, .slice (some ⟨x1, 0, none⟩) la la, .slice (some ⟨x2, 0, none⟩) lb lb] 24) = V := ⟨_, rfl⟩
      have M1 := Lib.hid (show Blk V1 w6.heap.size 24 #[.int .i64 n, .int .i64 o, .slice (some ⟨x1, 0, none⟩) la la, .slice (some ⟨x2, 0, none⟩) lb lb] by subst hV1; exact Blk.new w6 _ _)
      have hv1 : Below w6.heap.size w6 V1 := by subst hV1; exact (Below.refl _ _).alloc (Nat.le_refl _) _
      rw [hV1]
      clear hV1
      have K1 := Lib.hid (K1.out.next hv1); have K2 := Lib.hid (K2.out.next hv1); have IX := Lib.hid (IX.out.next hv1); have IY := Lib.hid (IY.out.next hv1); have IX' := Lib.hid (IX'.out.next hv1); have IY' := Lib.hid (IY'.out.next hv1); have xI1 := Lib.hid (xI1.out.next hv1); have xI2 := Lib.hid (xI2.out.next hv1); have BB := Lib.hid (below_step BB.out hv1); clear hv1
      refine (toRing_any n' o' A' B' la' ca' lb' cb' X' Y' _ IX'.out IY'.out hs3 hs4).mono ?_
      rintro e7 w7 ⟨y1, y2, rfl, ow1, ow2, hlt7, hb7⟩
      have K1 := Lib.hid (K1.out.next hb7)
      have K2 := Lib.hid (K2.out.next hb7)
      have IX := Lib.hid (IX.out.next hb7)
      have IY := Lib.hid (IY.out.next hb7)
      have IX' := Lib.hid (IX'.out.next hb7)
      have IY' := Lib.hid (IY'.out.next hb7)
      have xI1 := Lib.hid (xI1.out.next hb7)
      have xI2 := Lib.hid (xI2.out.next hb7)
      have M1 := Lib.hid (M1.out.next hb7)
      have BB := Lib.hid (below_step BB.out hb7)
      have yI1 := Lib.hid (ints_of_own ow1 IX'.out.1)
      have yI2 := Lib.hid (ints_of_own ow2 IY'.out.1)
      clear ow1 ow2 hb7
      obtain ⟨m0, m1, m2, m3⟩ := blk4 (M1.out.alloc (.cells #[.int .i64 n', .int .i64 o', .slice (some ⟨y1, 0, none⟩) la' la', .slice (some ⟨y2, 0, none⟩) lb' lb'] 24))
      go_wp2_with (fail)
      obtain ⟨V2, hV2⟩ : ∃ V, w7.alloc (.cells #[.int .i64 n', .int .i64 o', .slice (some ⟨y1, 0, none⟩) la' la', .slice (some ⟨y2, 0, none⟩) lb' lb'] 24) = V := ⟨_, rfl⟩
      have M2 := Lib.hid (show Blk V2 w7.heap.size 24 #[.int .i64 n', .int .i64 o', .slice (some ⟨y1, 0, none⟩) la' la', .slice (some ⟨y2, 0, none⟩) lb' lb'] by subst hV2; exact Blk.new w7 _ _)
      have hv2 : Below w7.heap.size w7 V2 := by subst hV2; exact (Below.refl _ _).alloc (Nat.le_refl _) _
      rw [hV2]
      clear hV2
      have K1 := Lib.hid (K1.out.next hv2); have K2 := Lib.hid (K2.out.next hv2); have IX := Lib.hid (IX.out.next hv2); have IY := Lib.hid (IY.out.next hv2); have IX' := Lib.hid (IX'.out.next hv2); have IY' := Lib.hid (IY'.out.next hv2); have xI1 := Lib.hid (xI1.out.next hv2); have xI2 := Lib.hid (xI2.out.next hv2); have M1 := Lib.hid (M1.out.next hv2); have yI1 := Lib.hid (yI1.out.next hv2); have yI2 := Lib.hid (yI2.out.next hv2); have BB := Lib.hid (below_step BB.out hv2); clear hv2
      refine (partOf_any n o _ _ la la lb lb X Y n' o' _ _ la' la' lb' lb' X' Y' a s V2 xI1.out xI2.out hla hlb (Nat.le_refl _) (Nat.le_refl _) yI1.out yI2.out hla' hlb' (Nat.le_refl _) (Nat.le_refl _)).mono ?_
      rintro e8 w8 ⟨rfl, hb8⟩
      have K1 := Lib.hid (K1.out.next hb8); have K2 := Lib.hid (K2.out.next hb8); have IX := Lib.hid (IX.out.next hb8); have IY := Lib.hid (IY.out.next hb8); have IX' := Lib.hid (IX'.out.next hb8); have IY' := Lib.hid (IY'.out.next hb8); have xI1 := Lib.hid (xI1.out.next hb8); have xI2 := Lib.hid (xI2.out.next hb8); have M1 := Lib.hid (M1.out.next hb8); have yI1 := Lib.hid (yI1.out.next hb8); have yI2 := Lib.hid (yI2.out.next hb8); have M2 := Lib.hid (M2.out.next hb8); have BB := Lib.hid (below_step BB.out hb8); clear hb8
      obtain ⟨t0, t1, t2, t3⟩ := blk4 K1.out
      obtain ⟨u0, u1, u2, u3⟩ := blk4 K2.out
      obtain ⟨m0, m1, m2, m3⟩ := blk4 M1.out
      obtain ⟨i0, i1, i2, i3⟩ := blk4 M2.out
      have tt : ((partV n o X Y n' o' X' Y' a s) != (partV n o X Y n' o' X' Y' a s)) = false := by simp
      go_wp2_with (fail)
      have hd8 : Below w8.heap.size w8 w8.drew := (Below.refl _ _).drew
      have K1 := Lib.hid (K1.out.next hd8); have K2 := Lib.hid (K2.out.next hd8); have IX := Lib.hid (IX.out.next hd8); have IY := Lib.hid (IY.out.next hd8); have IX' := Lib.hid (IX'.out.next hd8); have IY' := Lib.hid (IY'.out.next hd8); have xI1 := Lib.hid (xI1.out.next hd8); have xI2 := Lib.hid (xI2.out.next hd8); have M1 := Lib.hid (M1.out.next hd8); have yI1 := Lib.hid (yI1.out.next hd8); have yI2 := Lib.hid (yI2.out.next hd8); have M2 := Lib.hid (M2.out.next hd8); have BB := Lib.hid (below_step BB.out hd8); clear hd8
      go_region_held3 (fun w' => w'.cell? ⟨w.heap.size, 0, none⟩ = some (.int .i64 n) ∧ w'.cell? ⟨w.heap.size, 1, none⟩ = some (.int .i64 o) ∧ w'.cell? ⟨w.heap.size, 2, none⟩ = some (.slice A la ca) ∧ w'.cell? ⟨w.heap.size, 3, none⟩ = some (.slice B lb cb) ∧ w'.cell? ⟨w6.heap.size, 0, none⟩ = some (.int .i64 n) ∧ w'.cell? ⟨w6.heap.size, 1, none⟩ = some (.int .i64 o) ∧ w'.cell? ⟨w6.heap.size, 2, none⟩ = some (.slice (some ⟨x1, 0, none⟩) la la) ∧ w'.cell? ⟨w6.heap.size, 3, none⟩ = some (.slice (some ⟨x2, 0, none⟩) lb lb))
        (first | exact ⟨t0, t1, t2, t3, m0, m1, m2, m3⟩ | exact ⟨k0, k1, k2, k3, l0, l1, l2, l3⟩ | exact ⟨p0, p1, p2, p3, q0, q1, q2, q3⟩)
        (first
          | (go_at_call 26; refine (toRing_any n o A B la ca lb cb X Y _ IX.out IY.out hs1 hs2).mono ?_; rintro e9 w9 ⟨a1, a2, rfl, ow1, ow2, hlt9, hb9⟩; have K1 := Lib.hid (K1.out.next hb9); have K2 := Lib.hid (K2.out.next hb9); have IX := Lib.hid (IX.out.next hb9); have IY := Lib.hid (IY.out.next hb9); have IX' := Lib.hid (IX'.out.next hb9); have IY' := Lib.hid (IY'.out.next hb9); have xI1 := Lib.hid (xI1.out.next hb9); have xI2 := Lib.hid (xI2.out.next hb9); have M1 := Lib.hid (M1.out.next hb9); have yI1 := Lib.hid (yI1.out.next hb9); have yI2 := Lib.hid (yI2.out.next hb9); have M2 := Lib.hid (M2.out.next hb9); have BB := Lib.hid (below_step BB.out hb9); have aI1 := Lib.hid (ints_of_own ow1 IX.out.1); have aI2 := Lib.hid (ints_of_own ow2 IY.out.1); clear ow1 ow2 hb9; obtain ⟨k0, k1, k2, k3⟩ := blk4 K1.out; obtain ⟨l0, l1, l2, l3⟩ := blk4 M1.out)
          | (go_at_call 21; refine (eqRing_same n o _ _ _ _ la la lb lb la lb X Y _ xI1.out xI2.out aI1.out aI2.out hla hlb).mono ?_; rintro e10 w10 ⟨rfl, hb10⟩; have K1 := Lib.hid (K1.out.next hb10); have K2 := Lib.hid (K2.out.next hb10); have IX := Lib.hid (IX.out.next hb10); have IY := Lib.hid (IY.out.next hb10); have IX' := Lib.hid (IX'.out.next hb10); have IY' := Lib.hid (IY'.out.next hb10); have xI1 := Lib.hid (xI1.out.next hb10); have xI2 := Lib.hid (xI2.out.next hb10); have M1 := Lib.hid (M1.out.next hb10); have yI1 := Lib.hid (yI1.out.next hb10); have yI2 := Lib.hid (yI2.out.next hb10); have M2 := Lib.hid (M2.out.next hb10); have BB := Lib.hid (below_step BB.out hb10); clear hb10; obtain ⟨p0, p1, p2, p3⟩ := blk4 K1.out; obtain ⟨q0, q1, q2, q3⟩ := blk4 M1.out))
      obtain ⟨u0, u1, u2, u3⟩ := blk4 K2.out
      obtain ⟨i0, i1, i2, i3⟩ := blk4 M2.out
      go_wp2_with (fail)
      have hd10 : Below w10.heap.size w10 w10.drew := (Below.refl _ _).drew
      have K1 := Lib.hid (K1.out.next hd10); have K2 := Lib.hid (K2.out.next hd10); have IX := Lib.hid (IX.out.next hd10); have IY := Lib.hid (IY.out.next hd10); have IX' := Lib.hid (IX'.out.next hd10); have IY' := Lib.hid (IY'.out.next hd10); have yI1 := Lib.hid (yI1.out.next hd10); have yI2 := Lib.hid (yI2.out.next hd10); have M2 := Lib.hid (M2.out.next hd10); have BB := Lib.hid (below_step BB.out hd10); clear hd10
      go_region_held3 (fun w' => w'.cell? ⟨w.heap.size + 1, 0, none⟩ = some (.int .i64 n') ∧ w'.cell? ⟨w.heap.size + 1, 1, none⟩ = some (.int .i64 o') ∧ w'.cell? ⟨w.heap.size + 1, 2, none⟩ = some (.slice A' la' ca') ∧ w'.cell? ⟨w.heap.size + 1, 3, none⟩ = some (.slice B' lb' cb') ∧ w'.cell? ⟨w7.heap.size, 0, none⟩ = some (.int .i64 n') ∧ w'.cell? ⟨w7.heap.size, 1, none⟩ = some (.int .i64 o') ∧ w'.cell? ⟨w7.heap.size, 2, none⟩ = some (.slice (some ⟨y1, 0, none⟩) la' la') ∧ w'.cell? ⟨w7.heap.size, 3, none⟩ = some (.slice (some ⟨y2, 0, none⟩) lb' lb'))
        (first | exact ⟨u0, u1, u2, u3, i0, i1, i2, i3⟩ | exact ⟨k0, k1, k2, k3, l0, l1, l2, l3⟩ | exact ⟨p0, p1, p2, p3, q0, q1, q2, q3⟩)
        (first
          | (go_at_call 26; refine (toRing_any n' o' A' B' la' ca' lb' cb' X' Y' _ IX'.out IY'.out hs3 hs4).mono ?_; rintro e11 w11 ⟨b1, b2, rfl, ow1, ow2, hlt11, hb11⟩; have K1 := Lib.hid (K1.out.next hb11); have K2 := Lib.hid (K2.out.next hb11); have IX := Lib.hid (IX.out.next hb11); have IY := Lib.hid (IY.out.next hb11); have IX' := Lib.hid (IX'.out.next hb11); have IY' := Lib.hid (IY'.out.next hb11); have yI1 := Lib.hid (yI1.out.next hb11); have yI2 := Lib.hid (yI2.out.next hb11); have M2 := Lib.hid (M2.out.next hb11); have BB := Lib.hid (below_step BB.out hb11); have bI1 := Lib.hid (ints_of_own ow1 IX'.out.1); have bI2 := Lib.hid (ints_of_own ow2 IY'.out.1); clear ow1 ow2 hb11; obtain ⟨k0, k1, k2, k3⟩ := blk4 K2.out; obtain ⟨l0, l1, l2, l3⟩ := blk4 M2.out)
          | (go_at_call 21; refine (eqRing_same n' o' _ _ _ _ la' la' lb' lb' la' lb' X' Y' _ yI1.out yI2.out bI1.out bI2.out hla' hlb').mono ?_; rintro e12 w12 ⟨rfl, hb12⟩; have K1 := Lib.hid (K1.out.next hb12); have K2 := Lib.hid (K2.out.next hb12); have IX := Lib.hid (IX.out.next hb12); have IY := Lib.hid (IY.out.next hb12); have IX' := Lib.hid (IX'.out.next hb12); have IY' := Lib.hid (IY'.out.next hb12); have yI1 := Lib.hid (yI1.out.next hb12); have yI2 := Lib.hid (yI2.out.next hb12); have M2 := Lib.hid (M2.out.next hb12); have BB := Lib.hid (below_step BB.out hb12); clear hb12; obtain ⟨p0, p1, p2, p3⟩ := blk4 K2.out; obtain ⟨q0, q1, q2, q3⟩ := blk4 M2.out))
      go_wp2
      go_ret
      exact ⟨rfl, BB.out⟩
    · have z2 := Lib.hid (szRq_no hsz2)
      go_enter Try.func6, Try.ntmps6
      go_wp2_with (fail)
      rw [HW.out]
      refine (szRing_any n o A B la ca lb cb 1048576 W (by omega) (by omega) hla hlb).mono ?_
      rintro e1 w1 ⟨rfl, hb1⟩
      rw [z1.out]
      have K1 := Lib.hid (K1.out.next hb1); have K2 := Lib.hid (K2.out.next hb1); have IX := Lib.hid (IX.out.next hb1); have IY := Lib.hid (IY.out.next hb1); have IX' := Lib.hid (IX'.out.next hb1); have IY' := Lib.hid (IY'.out.next hb1); have BB := Lib.hid (below_step BB.out hb1); clear hb1
      obtain ⟨d0, d1, d2, d3⟩ := blk4 K2.out
      go_wp2_with (fail)
      refine (szRing_any n' o' A' B' la' ca' lb' cb' (1048576 - la - lb) w1 (by omega) (by omega) hla' hlb').mono ?_
      rintro e2 w2 ⟨rfl, hb2⟩
      rw [z2.out]
      have BB := Lib.hid (below_step BB.out hb2); clear hb2
      go_wp2
      go_ret
      exact ⟨rfl, BB.out⟩
  · have z1 := Lib.hid (szRq_no hsz)
    go_enter Try.func6, Try.ntmps6
    go_wp2_with (fail)
    rw [HW.out]
    refine (szRing_any n o A B la ca lb cb 1048576 W (by omega) (by omega) hla hlb).mono ?_
    rintro e1 w1 ⟨rfl, hb1⟩
    rw [z1.out]
    have BB := Lib.hid (below_step BB.out hb1); clear hb1
    go_wp2
    go_ret
    exact ⟨rfl, BB.out⟩

end Go.Proofs.Ytplligjoegjngaa
