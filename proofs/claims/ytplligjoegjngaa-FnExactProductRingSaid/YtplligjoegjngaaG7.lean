/- ProductRing of the reading side. -/
import Derived.Test.YtplligjoegjngaaG6
import Derived.Test.YtplligjoegjngaaB4
namespace Go.Proofs.Ytplligjoegjngaa
open Go.RowKit
set_option maxRecDepth 100000

/-- Whether there is a product. -/
noncomputable def prodB (n o : Int) (X Y : List Int) (n' o' : Int) (X' Y' : List Int) : Bool := validB n o X Y && validB n' o' X' Y' && decide (n * n' ≤ 16)
noncomputable def prN (n o : Int) (X Y : List Int) (n' o' : Int) (X' Y' : List Int) : Int := if prodB n o X Y n' o' X' Y' then n * n' else 0
noncomputable def prO (n o : Int) (X Y : List Int) (n' o' : Int) (X' Y' : List Int) : Int := if prodB n o X Y n' o' X' Y' then o * n' + o' else 0
noncomputable def prT (V V' : List Int) (n o : Int) (X Y : List Int) (n' o' : Int) (X' Y' : List Int) : List Int := if prodB n o X Y n' o' X' Y' then tabG (n * n').toNat (prodF n.toNat n'.toNat (tabOf V) (tabOf V')) ((n * n').toNat * (n * n').toNat) else []

set_option maxHeartbeats 4000000 in
theorem sproduct_any (n o : Int) (A B : Option Addr) (la ca lb cb : Nat) (X Y : List Int) (n' o' : Int) (A' B' : Option Addr) (la' ca' lb' cb' : Nat) (X' Y' : List Int) (w : World) (hX : Ints w w.heap.size A la X) (hY : Ints w w.heap.size B lb Y) (hla : la ≤ 9223372036854775807) (hlb : lb ≤ 9223372036854775807) (hca : la ≤ ca) (hcb : lb ≤ cb) (hX' : Ints w w.heap.size A' la' X') (hY' : Ints w w.heap.size B' lb' Y') (hla' : la' ≤ 9223372036854775807) (hlb' : lb' ≤ 9223372036854775807) (hca' : la' ≤ ca') (hcb' : lb' ≤ cb') :
    Calls Try.prog 25 #[.agg #[.int .i64 n, .int .i64 o, .slice A la ca, .slice B lb cb], .agg #[.int .i64 n', .int .i64 o', .slice A' la' ca', .slice B' lb' cb']] w fun e w' => ∃ v, e = .returned (.tuple #[v, .bool (prodB n o X Y n' o' X' Y')]) ∧ RingOut w.heap.size w' v (prN n o X Y n' o' X' Y') (prO n o X Y n' o' X' Y') (prT X X' n o X Y n' o' X' Y') (prT Y Y' n o X Y n' o' X' Y') ∧ Below w.heap.size w w' := by
  obtain ⟨W, hW⟩ : ∃ W, ((w.alloc (.cells #[.int .i64 n, .int .i64 o, .slice A la ca, .slice B lb cb] 24)).alloc (.cells #[.int .i64 n', .int .i64 o', .slice A' la' ca', .slice B' lb' cb'] 24)).alloc (.cells #[.int .i64 0, .int .i64 0, .slice none 0 0, .slice none 0 0] 24) = W := ⟨_, rfl⟩
  have kR : Blk W w.heap.size 24 #[.int .i64 n, .int .i64 o, .slice A la ca, .slice B lb cb] := by
    subst hW; exact ((Blk.new w _ _).alloc _).alloc _
  have kS : Blk W (w.heap.size + 1) 24 #[.int .i64 n', .int .i64 o', .slice A' la' ca', .slice B' lb' cb'] := by
    subst hW
    have := (Blk.new (w.alloc (.cells #[.int .i64 n, .int .i64 o, .slice A la ca, .slice B lb cb] 24)) 24 #[.int .i64 n', .int .i64 o', .slice A' la' ca', .slice B' lb' cb']).alloc (.cells #[.int .i64 0, .int .i64 0, .slice none 0 0, .slice none 0 0] 24)
    rw [World.size_alloc] at this
    exact this
  have kZ : Blk W (w.heap.size + 1 + 1) 24 #[.int .i64 0, .int .i64 0, .slice none 0 0, .slice none 0 0] := by
    subst hW
    have := Blk.new ((w.alloc (.cells #[.int .i64 n, .int .i64 o, .slice A la ca, .slice B lb cb] 24)).alloc (.cells #[.int .i64 n', .int .i64 o', .slice A' la' ca', .slice B' lb' cb'] 24)) 24 #[.int .i64 0, .int .i64 0, .slice none 0 0, .slice none 0 0]
    rw [World.size_alloc, World.size_alloc] at this
    exact this
  have bW : Below w.heap.size w W := by
    subst hW
    exact (((Below.refl _ _).alloc (Nat.le_refl _) _).alloc (by simp) _).alloc (by simp; omega) _
  have KR := Lib.hid kR
  have KS := Lib.hid kS
  have KZ := Lib.hid kZ
  have BW := Lib.hid bW
  have lW : w.heap.size + 1 + 1 < W.heap.size := kZ.lt
  have x0 := kR.cell 0
  have x1 := kR.cell 1
  have x2 := kR.cell 2
  have x3 := kR.cell 3
  have y0 := kS.cell 0
  have y1 := kS.cell 1
  have y2 := kS.cell 2
  have y3 := kS.cell 3
  have z0 := kZ.cell 0
  have z1 := kZ.cell 1
  have z2 := kZ.cell 2
  have z3 := kZ.cell 3
  have fz0 := kZ.frozen 0
  have fz1 := kZ.frozen 1
  have fz2 := kZ.frozen 2
  have fz3 := kZ.frozen 3
  simp at x0 x1 x2 x3 y0 y1 y2 y3 z0 z1 z2 z3
  have IX := Lib.hid (hX.next bW)
  have IY := Lib.hid (hY.next bW)
  have IX' := Lib.hid (hX'.next bW)
  have IY' := Lib.hid (hY'.next bW)
  have HW := Lib.hid hW
  clear kR kS kZ bW hW
  cases v1 : validB n o X Y
  · have V1 := Lib.hid v1
    have hp : prodB n o X Y n' o' X' Y' = false := by simp [prodB, v1]
    simp only [prN, prO, prT, hp, Bool.false_eq_true, if_false]
    clear v1
    go_enter Try.func25, Try.ntmps25
    go_upto_region 1 with (fail)
    rw [HW.out]
    go_wp2_with (first
      | (go_at_call 48; (with_reducible refine (specValid_any n o A B la ca lb cb X Y _ IX.out IY.out hla hlb hca hcb).mono ?_); rintro e1 w1 ⟨rfl, hb1⟩; rw [V1.out]; have KR1 := Lib.hid (KR.out.below hb1 KR.out.lt); have KS1 := Lib.hid (KS.out.below hb1 KS.out.lt); have KZ1 := Lib.hid (KZ.out.below hb1 KZ.out.lt); have BW1 := Lib.hid (BW.out.trans (hb1.mono BW.out.size)); have IX1 := Lib.hid (IX.out.next hb1); have IY1 := Lib.hid (IY.out.next hb1); have IX'1 := Lib.hid (IX'.out.next hb1); have IY'1 := Lib.hid (IY'.out.next hb1); have BD1 := Lib.hid (show Below W.heap.size W w1 from hb1); clear hb1; have x01 := KR1.out.cell 0; have x11 := KR1.out.cell 1; have x21 := KR1.out.cell 2; have x31 := KR1.out.cell 3; have y01 := KS1.out.cell 0; have y11 := KS1.out.cell 1; have y21 := KS1.out.cell 2; have y31 := KS1.out.cell 3; have z01 := KZ1.out.cell 0; have z11 := KZ1.out.cell 1; have z21 := KZ1.out.cell 2; have z31 := KZ1.out.cell 3; have fz01 := KZ1.out.frozen 0; have fz11 := KZ1.out.frozen 1; have fz21 := KZ1.out.frozen 2; have fz31 := KZ1.out.frozen 3; simp at x01 x11 x21 x31 y01 y11 y21 y31 z01 z11 z21 z31)
      | (go_at_call 48; (with_reducible refine (specValid_any n' o' A' B' la' ca' lb' cb' X' Y' _ IX'1.out IY'1.out hla' hlb' hca' hcb').mono ?_); rintro e2 w2 ⟨rfl, hb2⟩; rw [V2.out]; have KR2 := Lib.hid (KR1.out.below hb2 KR1.out.lt); have KS2 := Lib.hid (KS1.out.below hb2 KS1.out.lt); have KZ2 := Lib.hid (KZ1.out.below hb2 KZ1.out.lt); have BW2 := Lib.hid (BW1.out.trans (hb2.mono BW1.out.size)); have IX2 := Lib.hid (IX1.out.next hb2); have IY2 := Lib.hid (IY1.out.next hb2); have IX'2 := Lib.hid (IX'1.out.next hb2); have IY'2 := Lib.hid (IY'1.out.next hb2); have BD2 := Lib.hid (show Below W.heap.size W w2 from BD1.out.trans (hb2.mono BD1.out.size)); clear hb2; have x02 := KR2.out.cell 0; have x12 := KR2.out.cell 1; have x22 := KR2.out.cell 2; have x32 := KR2.out.cell 3; have y02 := KS2.out.cell 0; have y12 := KS2.out.cell 1; have y22 := KS2.out.cell 2; have y32 := KS2.out.cell 3; have z02 := KZ2.out.cell 0; have z12 := KZ2.out.cell 1; have z22 := KZ2.out.cell 2; have z32 := KZ2.out.cell 3; have fz02 := KZ2.out.frozen 0; have fz12 := KZ2.out.frozen 1; have fz22 := KZ2.out.frozen 2; have fz32 := KZ2.out.frozen 3; simp at x02 x12 x22 x32 y02 y12 y22 y32 z02 z12 z22 z32))
    refine bodyPost_ret (v := .tuple #[.agg #[.int .i64 0, .int .i64 0, .slice none 0 0, .slice none 0 0], .bool false]) ?_ rfl ⟨_, rfl, RingOut.zero, store4_below BW1.out (by omega)⟩
    exact results_cell_flag rfl _ _ (w.heap.size + 1 + 1) 24 _ _ _ rfl rfl (store4_blk KZ1.out) Try.underlying24 rfl (by kernel_rfl)
  · have V1 := Lib.hid v1
    cases v2 : validB n' o' X' Y'
    · have V2 := Lib.hid v2
      have hp : prodB n o X Y n' o' X' Y' = false := by simp [prodB, v2]
      simp only [prN, prO, prT, hp, Bool.false_eq_true, if_false]
      clear v1 v2
      go_enter Try.func25, Try.ntmps25
      go_upto_region 1 with (fail)
      rw [HW.out]
      go_wp2_with (first
        | (go_at_call 48; (with_reducible refine (specValid_any n o A B la ca lb cb X Y _ IX.out IY.out hla hlb hca hcb).mono ?_); rintro e1 w1 ⟨rfl, hb1⟩; rw [V1.out]; have KR1 := Lib.hid (KR.out.below hb1 KR.out.lt); have KS1 := Lib.hid (KS.out.below hb1 KS.out.lt); have KZ1 := Lib.hid (KZ.out.below hb1 KZ.out.lt); have BW1 := Lib.hid (BW.out.trans (hb1.mono BW.out.size)); have IX1 := Lib.hid (IX.out.next hb1); have IY1 := Lib.hid (IY.out.next hb1); have IX'1 := Lib.hid (IX'.out.next hb1); have IY'1 := Lib.hid (IY'.out.next hb1); have BD1 := Lib.hid (show Below W.heap.size W w1 from hb1); clear hb1; have x01 := KR1.out.cell 0; have x11 := KR1.out.cell 1; have x21 := KR1.out.cell 2; have x31 := KR1.out.cell 3; have y01 := KS1.out.cell 0; have y11 := KS1.out.cell 1; have y21 := KS1.out.cell 2; have y31 := KS1.out.cell 3; have z01 := KZ1.out.cell 0; have z11 := KZ1.out.cell 1; have z21 := KZ1.out.cell 2; have z31 := KZ1.out.cell 3; have fz01 := KZ1.out.frozen 0; have fz11 := KZ1.out.frozen 1; have fz21 := KZ1.out.frozen 2; have fz31 := KZ1.out.frozen 3; simp at x01 x11 x21 x31 y01 y11 y21 y31 z01 z11 z21 z31)
        | (go_at_call 48; (with_reducible refine (specValid_any n' o' A' B' la' ca' lb' cb' X' Y' _ IX'1.out IY'1.out hla' hlb' hca' hcb').mono ?_); rintro e2 w2 ⟨rfl, hb2⟩; rw [V2.out]; have KR2 := Lib.hid (KR1.out.below hb2 KR1.out.lt); have KS2 := Lib.hid (KS1.out.below hb2 KS1.out.lt); have KZ2 := Lib.hid (KZ1.out.below hb2 KZ1.out.lt); have BW2 := Lib.hid (BW1.out.trans (hb2.mono BW1.out.size)); have IX2 := Lib.hid (IX1.out.next hb2); have IY2 := Lib.hid (IY1.out.next hb2); have IX'2 := Lib.hid (IX'1.out.next hb2); have IY'2 := Lib.hid (IY'1.out.next hb2); have BD2 := Lib.hid (show Below W.heap.size W w2 from BD1.out.trans (hb2.mono BD1.out.size)); clear hb2; have x02 := KR2.out.cell 0; have x12 := KR2.out.cell 1; have x22 := KR2.out.cell 2; have x32 := KR2.out.cell 3; have y02 := KS2.out.cell 0; have y12 := KS2.out.cell 1; have y22 := KS2.out.cell 2; have y32 := KS2.out.cell 3; have z02 := KZ2.out.cell 0; have z12 := KZ2.out.cell 1; have z22 := KZ2.out.cell 2; have z32 := KZ2.out.cell 3; have fz02 := KZ2.out.frozen 0; have fz12 := KZ2.out.frozen 1; have fz22 := KZ2.out.frozen 2; have fz32 := KZ2.out.frozen 3; simp at x02 x12 x22 x32 y02 y12 y22 y32 z02 z12 z22 z32))
      refine bodyPost_ret (v := .tuple #[.agg #[.int .i64 0, .int .i64 0, .slice none 0 0, .slice none 0 0], .bool false]) ?_ rfl ⟨_, rfl, RingOut.zero, store4_below BW2.out (by omega)⟩
      exact results_cell_flag rfl _ _ (w.heap.size + 1 + 1) 24 _ _ _ rfl rfl (store4_blk KZ2.out) Try.underlying24 rfl (by kernel_rfl)
    · have V2 := Lib.hid v2
      obtain ⟨m, e, b1, o1, b2, o2, rfl, rfl, rfl, rfl, hr, _⟩ := valid_data v1 IX.out IY.out hca hcb
      obtain ⟨q, f, c1, p1, c2, p2, rfl, rfl, rfl, rfl, hs, _⟩ := valid_data v2 IX'.out IY'.out hca' hcb'
      have hm := hr.hm
      have hm' := hr.hm'
      have hq := hs.hm
      have hq' := hs.hm'
      have hmq : m * q ≤ 16 * 16 := Nat.mul_le_mul hm' hq'
      have eN : (m : Int) * q = ((m * q : Nat) : Int) := by simp
      have m1 : (m : Int) * q ≤ 256 := by rw [eN]; omega
      have m2 : 0 ≤ (m : Int) * q := by rw [eN]; omega
      have HR := Lib.hid hr
      have HS := Lib.hid hs
      have EN := Lib.hid eN
      clear hr hs eN
      by_cases hsz : (m : Int) * q ≤ 16
      · have hp : prodB m e X Y q f X' Y' = true := by simp [prodB, v1, v2, hsz]
        simp only [prN, prO, prT, hp, if_true]
        clear v1 v2
        have e5 : ((m : Int) * q).toNat = m * q := by rw [EN.out]; exact Int.toNat_natCast _
        simp only [e5, Int.toNat_natCast]
        clear e5
        have hz := hsz
        rw [EN.out] at hz
        go_enter Try.func25, Try.ntmps25
        go_upto_region 1 with (fail)
        rw [HW.out]
        go_wp2_with (first
          | (go_at_call 48; (with_reducible refine (specValid_any m e _ _ la ca lb cb X Y _ IX.out IY.out hla hlb hca hcb).mono ?_); rintro e1 w1 ⟨rfl, hb1⟩; rw [V1.out]; have KR1 := Lib.hid (KR.out.below hb1 KR.out.lt); have KS1 := Lib.hid (KS.out.below hb1 KS.out.lt); have KZ1 := Lib.hid (KZ.out.below hb1 KZ.out.lt); have BW1 := Lib.hid (BW.out.trans (hb1.mono BW.out.size)); have IX1 := Lib.hid (IX.out.next hb1); have IY1 := Lib.hid (IY.out.next hb1); have IX'1 := Lib.hid (IX'.out.next hb1); have IY'1 := Lib.hid (IY'.out.next hb1); have BD1 := Lib.hid (show Below W.heap.size W w1 from hb1); clear hb1; have x01 := KR1.out.cell 0; have x11 := KR1.out.cell 1; have x21 := KR1.out.cell 2; have x31 := KR1.out.cell 3; have y01 := KS1.out.cell 0; have y11 := KS1.out.cell 1; have y21 := KS1.out.cell 2; have y31 := KS1.out.cell 3; have z01 := KZ1.out.cell 0; have z11 := KZ1.out.cell 1; have z21 := KZ1.out.cell 2; have z31 := KZ1.out.cell 3; have fz01 := KZ1.out.frozen 0; have fz11 := KZ1.out.frozen 1; have fz21 := KZ1.out.frozen 2; have fz31 := KZ1.out.frozen 3; simp at x01 x11 x21 x31 y01 y11 y21 y31 z01 z11 z21 z31)
          | (go_at_call 48; (with_reducible refine (specValid_any q f _ _ la' ca' lb' cb' X' Y' _ IX'1.out IY'1.out hla' hlb' hca' hcb').mono ?_); rintro e2 w2 ⟨rfl, hb2⟩; rw [V2.out]; have KR2 := Lib.hid (KR1.out.below hb2 KR1.out.lt); have KS2 := Lib.hid (KS1.out.below hb2 KS1.out.lt); have KZ2 := Lib.hid (KZ1.out.below hb2 KZ1.out.lt); have BW2 := Lib.hid (BW1.out.trans (hb2.mono BW1.out.size)); have IX2 := Lib.hid (IX1.out.next hb2); have IY2 := Lib.hid (IY1.out.next hb2); have IX'2 := Lib.hid (IX'1.out.next hb2); have IY'2 := Lib.hid (IY'1.out.next hb2); have BD2 := Lib.hid (show Below W.heap.size W w2 from BD1.out.trans (hb2.mono BD1.out.size)); clear hb2; have x02 := KR2.out.cell 0; have x12 := KR2.out.cell 1; have x22 := KR2.out.cell 2; have x32 := KR2.out.cell 3; have y02 := KS2.out.cell 0; have y12 := KS2.out.cell 1; have y22 := KS2.out.cell 2; have y32 := KS2.out.cell 3; have z02 := KZ2.out.cell 0; have z12 := KZ2.out.cell 1; have z22 := KZ2.out.cell 2; have z32 := KZ2.out.cell 3; have fz02 := KZ2.out.frozen 0; have fz12 := KZ2.out.frozen 1; have fz22 := KZ2.out.frozen 2; have fz32 := KZ2.out.frozen 3; simp at x02 x12 x22 x32 y02 y12 y22 y32 z02 z12 z22 z32)
          | (go_at_call 77; refine (l1Product_any _ _ _ _ _ _ _ _ _ _ _ _ _ _ _ _ _ _ _ _ _ _ _ _ _ (HR.out.next BD2.out) (HS.out.next BD2.out) (by omega)).mono ?_; rintro e3 w3 ⟨v3, rfl, hn3, hb3⟩; obtain ⟨C1, l1, k1, C2, l2, k2, rfl, q1, q2, q3⟩ := hn3.out (sqN (by omega)) tabG_length tabG_length; have Q1 := Lib.hid q1; have Q2 := Lib.hid q2; have Q3 := Lib.hid q3; clear hn3 q1 q2 q3; have KR3 := Lib.hid (KR2.out.below hb3 KR2.out.lt); have KS3 := Lib.hid (KS2.out.below hb3 KS2.out.lt); have KZ3 := Lib.hid (KZ2.out.below hb3 KZ2.out.lt); have BW3 := Lib.hid (BW2.out.trans (hb3.mono BW2.out.size)); have IX3 := Lib.hid (IX2.out.next hb3); have IY3 := Lib.hid (IY2.out.next hb3); have IX'3 := Lib.hid (IX'2.out.next hb3); have IY'3 := Lib.hid (IY'2.out.next hb3); clear hb3; have x03 := KR3.out.cell 0; have x13 := KR3.out.cell 1; have x23 := KR3.out.cell 2; have x33 := KR3.out.cell 3; have y03 := KS3.out.cell 0; have y13 := KS3.out.cell 1; have y23 := KS3.out.cell 2; have y33 := KS3.out.cell 3; have z03 := KZ3.out.cell 0; have z13 := KZ3.out.cell 1; have z23 := KZ3.out.cell 2; have z33 := KZ3.out.cell 3; have fz03 := KZ3.out.frozen 0; have fz13 := KZ3.out.frozen 1; have fz23 := KZ3.out.frozen 2; have fz33 := KZ3.out.frozen 3; simp at x03 x13 x23 x33 y03 y13 y23 y33 z03 z13 z23 z33))
        refine bodyPost_ret (v := .tuple #[.agg #[.int .i64 ((m : Int) * q), .int .i64 ((e : Int) * q + f), .slice C1 l1 k1, .slice C2 l2 k2], .bool true]) ?_ rfl ⟨_, rfl, ?_, store4_below BW3.out (by omega)⟩
        · exact results_cell_flag rfl _ _ (w.heap.size + 1 + 1) 24 _ _ _ rfl rfl (store4_blk KZ3.out) Try.underlying24 rfl (by kernel_rfl)
        · exact RingOut.lower (store4_out ⟨C1, l1, k1, C2, l2, k2, rfl, Q1.out, Q2.out, Q3.out⟩ (show w.heap.size + 1 + 1 < w2.heap.size from KZ2.out.lt)) BW2.out.size
      · have hp : prodB m e X Y q f X' Y' = false := by simp [prodB]; omega
        simp only [prN, prO, prT, hp, Bool.false_eq_true, if_false]
        clear v1 v2
        go_enter Try.func25, Try.ntmps25
        go_upto_region 1 with (fail)
        rw [HW.out]
        go_wp2_with (first
          | (go_at_call 48; (with_reducible refine (specValid_any m e _ _ la ca lb cb X Y _ IX.out IY.out hla hlb hca hcb).mono ?_); rintro e1 w1 ⟨rfl, hb1⟩; rw [V1.out]; have KR1 := Lib.hid (KR.out.below hb1 KR.out.lt); have KS1 := Lib.hid (KS.out.below hb1 KS.out.lt); have KZ1 := Lib.hid (KZ.out.below hb1 KZ.out.lt); have BW1 := Lib.hid (BW.out.trans (hb1.mono BW.out.size)); have IX1 := Lib.hid (IX.out.next hb1); have IY1 := Lib.hid (IY.out.next hb1); have IX'1 := Lib.hid (IX'.out.next hb1); have IY'1 := Lib.hid (IY'.out.next hb1); have BD1 := Lib.hid (show Below W.heap.size W w1 from hb1); clear hb1; have x01 := KR1.out.cell 0; have x11 := KR1.out.cell 1; have x21 := KR1.out.cell 2; have x31 := KR1.out.cell 3; have y01 := KS1.out.cell 0; have y11 := KS1.out.cell 1; have y21 := KS1.out.cell 2; have y31 := KS1.out.cell 3; have z01 := KZ1.out.cell 0; have z11 := KZ1.out.cell 1; have z21 := KZ1.out.cell 2; have z31 := KZ1.out.cell 3; have fz01 := KZ1.out.frozen 0; have fz11 := KZ1.out.frozen 1; have fz21 := KZ1.out.frozen 2; have fz31 := KZ1.out.frozen 3; simp at x01 x11 x21 x31 y01 y11 y21 y31 z01 z11 z21 z31)
          | (go_at_call 48; (with_reducible refine (specValid_any q f _ _ la' ca' lb' cb' X' Y' _ IX'1.out IY'1.out hla' hlb' hca' hcb').mono ?_); rintro e2 w2 ⟨rfl, hb2⟩; rw [V2.out]; have KR2 := Lib.hid (KR1.out.below hb2 KR1.out.lt); have KS2 := Lib.hid (KS1.out.below hb2 KS1.out.lt); have KZ2 := Lib.hid (KZ1.out.below hb2 KZ1.out.lt); have BW2 := Lib.hid (BW1.out.trans (hb2.mono BW1.out.size)); have IX2 := Lib.hid (IX1.out.next hb2); have IY2 := Lib.hid (IY1.out.next hb2); have IX'2 := Lib.hid (IX'1.out.next hb2); have IY'2 := Lib.hid (IY'1.out.next hb2); have BD2 := Lib.hid (show Below W.heap.size W w2 from BD1.out.trans (hb2.mono BD1.out.size)); clear hb2; have x02 := KR2.out.cell 0; have x12 := KR2.out.cell 1; have x22 := KR2.out.cell 2; have x32 := KR2.out.cell 3; have y02 := KS2.out.cell 0; have y12 := KS2.out.cell 1; have y22 := KS2.out.cell 2; have y32 := KS2.out.cell 3; have z02 := KZ2.out.cell 0; have z12 := KZ2.out.cell 1; have z22 := KZ2.out.cell 2; have z32 := KZ2.out.cell 3; have fz02 := KZ2.out.frozen 0; have fz12 := KZ2.out.frozen 1; have fz22 := KZ2.out.frozen 2; have fz32 := KZ2.out.frozen 3; simp at x02 x12 x22 x32 y02 y12 y22 y32 z02 z12 z22 z32))
        refine bodyPost_ret (v := .tuple #[.agg #[.int .i64 0, .int .i64 0, .slice none 0 0, .slice none 0 0], .bool false]) ?_ rfl ⟨_, rfl, RingOut.zero, store4_below BW2.out (by omega)⟩
        exact results_cell_flag rfl _ _ (w.heap.size + 1 + 1) 24 _ _ _ rfl rfl (store4_blk KZ2.out) Try.underlying24 rfl (by kernel_rfl)

end Go.Proofs.Ytplligjoegjngaa
