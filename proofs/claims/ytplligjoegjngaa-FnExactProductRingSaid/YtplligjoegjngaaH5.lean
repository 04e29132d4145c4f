/- ProductRing of both sides, and the blocks of what it hands back. -/
import Derived.Test.YtplligjoegjngaaH4
namespace Go.Proofs.Ytplligjoegjngaa
open Go.RowKit
set_option maxRecDepth 100000

/-- A ring whose memory is the call's own, the blocks of empty slices too. -/
def RingOutB (D : Nat) (w : World) (v : Value) (n o : Int) (X Y : List Int) : Prop :=
  ∃ (A : Option Addr) (la ca : Nat) (B : Option Addr) (lb cb : Nat), v = .agg #[.int .i64 n, .int .i64 o, .slice A la ca, .slice B lb cb] ∧ Own w D A la X ∧ Own w D B lb Y ∧ (Apart A la B lb ∧ la ≤ 1048570 ∧ lb ≤ 1048570 ∧ la + lb ≤ 1048570 ∧ la ≤ ca ∧ lb ≤ cb) ∧ (∀ a, A = some a → D ≤ a.block ∧ a.block < w.heap.size) ∧ (∀ a, B = some a → D ≤ a.block ∧ a.block < w.heap.size)
theorem RingOutB.zero {D : Nat} {w : World} : RingOutB D w (.agg #[.int .i64 0, .int .i64 0, .slice none 0 0, .slice none 0 0]) 0 0 [] [] :=
  ⟨none, 0, 0, none, 0, 0, rfl, Own.nil, Own.nil, ⟨fun p h => (by obtain ⟨_, _, _, e, _⟩ := h; cases e), by omega, by omega, by omega, by omega, by omega⟩, fun _ h => (by cases h), fun _ h => (by cases h)⟩
theorem RingOutB.next {D : Nat} {w w' : World} {v : Value} {n o : Int} {X Y : List Int} (h : RingOutB D w v n o X Y) (hb : Below w.heap.size w w') : RingOutB D w' v n o X Y := by
  obtain ⟨A, la, ca, B, lb, cb, e, h1, h2, h3, h4, h5⟩ := h
  exact ⟨A, la, ca, B, lb, cb, e, h1.next hb, h2.next hb, h3, fun a ha => ⟨(h4 a ha).1, Nat.lt_of_lt_of_le (h4 a ha).2 hb.size⟩, fun a ha => ⟨(h5 a ha).1, Nat.lt_of_lt_of_le (h5 a ha).2 hb.size⟩⟩
theorem RingOutB.lower {D D' : Nat} {w : World} {v : Value} {n o : Int} {X Y : List Int} (h : RingOutB D w v n o X Y) (hD : D' ≤ D) : RingOutB D' w v n o X Y := by
  obtain ⟨A, la, ca, B, lb, cb, e, h1, h2, h3, h4, h5⟩ := h
  exact ⟨A, la, ca, B, lb, cb, e, h1.lower hD, h2.lower hD, h3, fun a ha => ⟨Nat.le_trans hD (h4 a ha).1, (h4 a ha).2⟩, fun a ha => ⟨Nat.le_trans hD (h5 a ha).1, (h5 a ha).2⟩⟩
theorem store4_outB {w : World} {b D : Nat} {v v0 v1 v2 v3 : Value} {n o : Int} {X Y : List Int} (h : RingOutB D w v n o X Y) (hb : b < D) : RingOutB D (store4 w b v0 v1 v2 v3) v n o X Y := by
  obtain ⟨A, la, ca, B, lb, cb, e, h1, h2, h3, h4, h5⟩ := h
  have hs : (store4 w b v0 v1 v2 v3).heap.size = w.heap.size := by simp [store4]
  exact ⟨A, la, ca, B, lb, cb, e, store4_ownS h1 hb, store4_ownS h2 hb, h3, fun a ha => by rw [hs]; exact h4 a ha, fun a ha => by rw [hs]; exact h5 a ha⟩
theorem NewRing.outB {D : Nat} {w : World} {v : Value} {n o : Int} {k : Nat} {X Y : List Int} (h : NewRing D w v n o k X Y) (hk : k ≤ 1000) (hX : X.length = k) (hY : Y.length = k) : RingOutB D w v n o X Y := by
  obtain ⟨A, la, ca, B, lb, cb, e, h1, h2, h3⟩ := h.out hk hX hY
  obtain ⟨v2, v3, e2, r2, r3, _⟩ := h
  rw [e] at e2
  injection e2 with e2
  simp only [Array.mk.injEq, List.cons.injEq, and_true, true_and] at e2
  obtain ⟨rfl, rfl⟩ := e2
  exact ⟨A, la, ca, B, lb, cb, e, h1, h2, h3, fun a ha => r2.lt a.block (by rw [ha]; rfl), fun a ha => r3.lt a.block (by rw [ha]; rfl)⟩

set_option maxHeartbeats 4000000 in
theorem sproductB_any (n o : Int) (A B : Option Addr) (la ca lb cb : Nat) (X Y : List Int) (n' o' : Int) (A' B' : Option Addr) (la' ca' lb' cb' : Nat) (X' Y' : List Int) (w : World) (hX : Ints w w.heap.size A la X) (hY : Ints w w.heap.size B lb Y) (hla : la ≤ 9223372036854775807) (hlb : lb ≤ 9223372036854775807) (hca : la ≤ ca) (hcb : lb ≤ cb) (hX' : Ints w w.heap.size A' la' X') (hY' : Ints w w.heap.size B' lb' Y') (hla' : la' ≤ 9223372036854775807) (hlb' : lb' ≤ 9223372036854775807) (hca' : la' ≤ ca') (hcb' : lb' ≤ cb') :
    Calls Try.prog 25 #[.agg #[.int .i64 n, .int .i64 o, .slice A la ca, .slice B lb cb], .agg #[.int .i64 n', .int .i64 o', .slice A' la' ca', .slice B' lb' cb']] w fun e w' => ∃ v, e = .returned (.tuple #[v, .bool (prodB n o X Y n' o' X' Y')]) ∧ RingOutB w.heap.size w' v (prN n o X Y n' o' X' Y') (prO n o X Y n' o' X' Y') (prT X X' n o X Y n' o' X' Y') (prT Y Y' n o X Y n' o' X' Y') ∧ Below w.heap.size w w' := by
  obtain ⟨W, hW⟩ : ∃ W, ((w.alloc (.cells #[.int .i64 n, .int .i64 o, .slice A la ca, .slice B lb cb] 24)).alloc (.cells #[.int .i64 n', .int .i64 o', .slice A' la' ca', .slice B' lb' cb'] 24)).alloc (.cells #[.int .i64 0, .int .i64 0, .slice none 0 0, .slice none 0 0] 24) = W := ⟨_, rfl⟩
  have kR : Blk W w.heap.size 24 #[.int .i64 n, .int .i64 o, .slice A la ca, .slice B lb cb] := by
    subst hW; exact ((Blk.new w _ _).alloc _).alloc _
  have kS : Blk W (w.heap.size + 1) 24 #[.int .i64 n', .int .i64 o', .slice A' la' ca', .slice B' lb' cb'] := by
    subst hW
    have := (Blk.new (w.alloc (.cells #[.int .i64 n, .int .i64 o, .slice A la ca, .slice B lb cb] 24)) 24 #[.int .i64 n', .int .i64 o', .slice A' la' ca', .slice B' lb' cb']).alloc (.cells #[.int .i64 0, .int .i64 0, .slice none 0 0, .slice none 0 0] 24)
    rw [World.size_alloc] at this
    exact this
  have kZ : Blk W (w.heap.size + 1 + 1) 24 #[.int .i64 0, .int .i64 0, .slice none 0 0, .slice none 0 0] := by
    subst hW
    have := Blk.new ((w.alloc (.cells #[.int .i64 n, .int .i64 o, .slice A la ca, .slice B lb cb] 24)).alloc (.cells #[.int .i64 n', .int .i64 o', .slice A' la' ca', .slice B' lb' cb'] 24)) 24 #[.int .i64 0, .int .i64 0, .slice none 0 0, .slice none 0 0]
    rw [World.size_alloc, World.size_alloc] at this
    exact this
  have bW : Below w.heap.size w W := by
    subst hW
    exact (((Below.refl _ _).alloc (Nat.le_refl _) _).alloc (by simp) _).alloc (by simp; omega) _
  have KR := Lib.hid kR
  have KS := Lib.hid kS
  have KZ := Lib.hid kZ
  have BW := Lib.hid bW
  have lW : w.heap.size + 1 + 1 < W.heap.size := kZ.lt
  have x0 := kR.cell 0
  have x1 := kR.cell 1
  have x2 := kR.cell 2
  have x3 := kR.cell 3
  have y0 := kS.cell 0
  have y1 := kS.cell 1
  have y2 := kS.cell 2
  have y3 := kS.cell 3
  have z0 := kZ.cell 0
  have z1 := kZ.cell 1
  have z2 := kZ.cell 2
  have z3 := kZ.cell 3
  have fz0 := kZ.frozen 0
  have fz1 := kZ.frozen 1
  have fz2 := kZ.frozen 2
  have fz3 := kZ.frozen 3
  simp at x0 x1 x2 x3 y0 y1 y2 y3 z0 z1 z2 z3
  have IX := Lib.hid (hX.next bW)
  have IY := Lib.hid (hY.next bW)
  have IX' := Lib.hid (hX'.next bW)
  have IY' := Lib.hid (hY'.next bW)
  have HW := Lib.hid hW
  clear kR kS kZ bW hW
  cases v1 : validB n o X Y
  · have V1 := Lib.hid v1
    have hp : prodB n o X Y n' o' X' Y' = false := by simp [prodB, v1]
    simp only [prN, prO, prT, hp, Bool.false_eq_true, if_false]
    clear v1
    go_enter Try.func25, Try.ntmps25
    go_upto_region 1 with (fail)
    rw [HW.out]
    go_wp2_with (first
      | (go_at_call 48; (with_reducible refine (specValid_any n o A B la ca lb cb X Y _ IX.out IY.out hla hlb hca hcb).mono ?_); rintro e1 w1 ⟨rfl, hb1⟩; rw [V1.out]; have KR1 := Lib.hid (KR.out.below hb1 KR.out.lt); have KS1 := Lib.hid (KS.out.below hb1 KS.out.lt); have KZ1 := Lib.hid (KZ.out.below hb1 KZ.out.lt); have BW1 := Lib.hid (BW.out.trans (hb1.mono BW.out.size)); have IX1 := Lib.hid (IX.out.next hb1); have IY1 := Lib.hid (IY.out.next hb1); have IX'1 := Lib.hid (IX'.out.next hb1); have IY'1 := Lib.hid (IY'.out.next hb1); have BD1 := Lib.hid (show Below W.heap.size W w1 from hb1); clear hb1; have x01 := KR1.out.cell 0; have x11 := KR1.out.cell 1; have x21 := KR1.out.cell 2; have x31 := KR1.out.cell 3; have y01 := KS1.out.cell 0; have y11 := KS1.out.cell 1; have y21 := KS1.out.cell 2; have y31 := KS1.out.cell 3; have z01 := KZ1.out.cell 0; have z11 := KZ1.out.cell 1; have z21 := KZ1.out.cell 2; have z31 := KZ1.out.cell 3; have fz01 := KZ1.out.frozen 0; have fz11 := KZ1.out.frozen 1; have fz21 := KZ1.out.frozen 2; have fz31 := KZ1.out.frozen 3; simp at x01 x11 x21 x31 y01 y11 y21 y31 z01 z11 z21 z31)
      | (go_at_call 48; (with_reducible refine (specValid_any n' o' A' B' la' ca' lb' cb' X' Y' _ IX'1.out IY'1.out hla' hlb' hca' hcb').mono ?_); rintro e2 w2 ⟨rfl, hb2⟩; rw [V2.out]; have KR2 := Lib.hid (KR1.out.below hb2 KR1.out.lt); have KS2 := Lib.hid (KS1.out.below hb2 KS1.out.lt); have KZ2 := Lib.hid (KZ1.out.below hb2 KZ1.out.lt); have BW2 := Lib.hid (BW1.out.trans (hb2.mono BW1.out.size)); have IX2 := Lib.hid (IX1.out.next hb2); have IY2 := Lib.hid (IY1.out.next hb2); have IX'2 := Lib.hid (IX'1.out.next hb2); have IY'2 := Lib.hid (IY'1.out.next hb2); have BD2 := Lib.hid (show Below W.heap.size W w2 from BD1.out.trans (hb2.mono BD1.out.size)); clear hb2; have x02 := KR2.out.cell 0; have x12 := KR2.out.cell 1; have x22 := KR2.out.cell 2; have x32 := KR2.out.cell 3; have y02 := KS2.out.cell 0; have y12 := KS2.out.cell 1; have y22 := KS2.out.cell 2; have y32 := KS2.out.cell 3; have z02 := KZ2.out.cell 0; have z12 := KZ2.out.cell 1; have z22 := KZ2.out.cell 2; have z32 := KZ2.out.cell 3; have fz02 := KZ2.out.frozen 0; have fz12 := KZ2.out.frozen 1; have fz22 := KZ2.out.frozen 2; have fz32 := KZ2.out.frozen 3; simp at x02 x12 x22 x32 y02 y12 y22 y32 z02 z12 z22 z32))
    refine bodyPost_ret (v := .tuple #[.agg #[.int .i64 0, .int .i64 0, .slice none 0 0, .slice none 0 0], .bool false]) ?_ rfl ⟨_, rfl, RingOutB.zero, store4_below BW1.out (by omega)⟩
    exact results_cell_flag rfl _ _ (w.heap.size + 1 + 1) 24 _ _ _ rfl rfl (store4_blk KZ1.out) Try.underlying24 rfl (by kernel_rfl)
  · have V1 := Lib.hid v1
    cases v2 : validB n' o' X' Y'
    · have V2 := Lib.hid v2
      have hp : prodB n o X Y n' o' X' Y' = false := by simp [prodB, v2]
      simp only [prN, prO, prT, hp, Bool.false_eq_true, if_false]
      clear v1 v2
      go_enter Try.func25, Try.ntmps25
      go_upto_region 1 with (fail)
      rw [HW.out]
      go_wp2_with (first
        | (go_at_call 48; (with_reducible refine (specValid_any n o A B la ca lb cb X Y _ IX.out IY.out hla hlb hca hcb).mono ?_); rintro e1 w1 ⟨rfl, hb1⟩; rw [V1.out]; have KR1 := Lib.hid (KR.out.below hb1 KR.out.lt); have KS1 := Lib.hid (KS.out.below hb1 KS.out.lt); have KZ1 := Lib.hid (KZ.out.below hb1 KZ.out.lt); have BW1 := Lib.hid (BW.out.trans (hb1.mono BW.out.size)); have IX1 := Lib.hid (IX.out.next hb1); have IY1 := Lib.hid (IY.out.next hb1); have IX'1 := Lib.hid (IX'.out.next hb1); have IY'1 := Lib.hid (IY'.out.next hb1); have BD1 := Lib.hid (show Below W.heap.size W w1 from hb1); clear hb1; have x01 := KR1.out.cell 0; have x11 := KR1.out.cell 1; have x21 := KR1.out.cell 2; have x31 := KR1.out.cell 3; have y01 := KS1.out.cell 0; have y11 := KS1.out.cell 1; have y21 := KS1.out.cell 2; have y31 := KS1.out.cell 3; have z01 := KZ1.out.cell 0; have z11 := KZ1.out.cell 1; have z21 := KZ1.out.cell 2; have z31 := KZ1.out.cell 3; have fz01 := KZ1.out.frozen 0; have fz11 := KZ1.out.frozen 1; have fz21 := KZ1.out.frozen 2; have fz31 := KZ1.out.frozen 3; simp at x01 x11 x21 x31 y01 y11 y21 y31 z01 z11 z21 z31)
        | (go_at_call 48; (with_reducible refine (specValid_any n' o' A' B' la' ca' lb' cb' X' Y' _ IX'1.out IY'1.out hla' hlb' hca' hcb').mono ?_); rintro e2 w2 ⟨rfl, hb2⟩; rw [V2.out]; have KR2 := Lib.hid (KR1.out.below hb2 KR1.out.lt); have KS2 := Lib.hid (KS1.out.below hb2 KS1.out.lt); have KZ2 := Lib.hid (KZ1.out.below hb2 KZ1.out.lt); have BW2 := Lib.hid (BW1.out.trans (hb2.mono BW1.out.size)); have IX2 := Lib.hid (IX1.out.next hb2); have IY2 := Lib.hid (IY1.out.next hb2); have IX'2 := Lib.hid (IX'1.out.next hb2); have IY'2 := Lib.hid (IY'1.out.next hb2); have BD2 := Lib.hid (show Below W.heap.size W w2 from BD1.out.trans (hb2.mono BD1.out.size)); clear hb2; have x02 := KR2.out.cell 0; have x12 := KR2.out.cell 1; have x22 := KR2.out.cell 2; have x32 := KR2.out.cell 3; have y02 := KS2.out.cell 0; have y12 := KS2.out.cell 1; have y22 := KS2.out.cell 2; have y32 := KS2.out.cell 3; have z02 := KZ2.out.cell 0; have z12 := KZ2.out.cell 1; have z22 := KZ2.out.cell 2; have z32 := KZ2.out.cell 3; have fz02 := KZ2.out.frozen 0; have fz12 := KZ2.out.frozen 1; have fz22 := KZ2.out.frozen 2; have fz32 := KZ2.out.frozen 3; simp at x02 x12 x22 x32 y02 y12 y22 y32 z02 z12 z22 z32))
      refine bodyPost_ret (v := .tuple #[.agg #[.int .i64 0, .int .i64 0, .slice none 0 0, .slice none 0 0], .bool false]) ?_ rfl ⟨_, rfl, RingOutB.zero, store4_below BW2.out (by omega)⟩
      exact results_cell_flag rfl _ _ (w.heap.size + 1 + 1) 24 _ _ _ rfl rfl (store4_blk KZ2.out) Try.underlying24 rfl (by kernel_rfl)
    · have V2 := Lib.hid v2
      obtain ⟨m, e, b1, o1, b2, o2, rfl, rfl, rfl, rfl, hr, _⟩ := valid_data v1 IX.out IY.out hca hcb
      obtain ⟨q, f, c1, p1, c2, p2, rfl, rfl, rfl, rfl, hs, _⟩ := valid_data v2 IX'.out IY'.out hca' hcb'
      have hm := hr.hm
      have hm' := hr.hm'
      have hq := hs.hm
      have hq' := hs.hm'
      have hmq : m * q ≤ 16 * 16 := Nat.mul_le_mul hm' hq'
      have eN : (m : Int) * q = ((m * q : Nat) : Int) := by simp
      have m1 : (m : Int) * q ≤ 256 := by rw [eN]; omega
      have m2 : 0 ≤ (m : Int) * q := by rw [eN]; omega
      have HR := Lib.hid hr
      have HS := Lib.hid hs
      have EN := Lib.hid eN
      clear hr hs eN
      by_cases hsz : (m : Int) * q ≤ 16
      · have hp : prodB m e X Y q f X' Y' = true := by simp [prodB, v1, v2, hsz]
        simp only [prN, prO, prT, hp, if_true]
        clear v1 v2
        have e5 : ((m : Int) * q).toNat = m * q := by rw [EN.out]; exact Int.toNat_natCast _
        simp only [e5, Int.toNat_natCast]
        clear e5
        have hz := hsz
        rw [EN.out] at hz
        go_enter Try.func25, Try.ntmps25
        go_upto_region 1 with (fail)
        rw [HW.out]
        go_wp2_with (first
          | (go_at_call 48; (with_reducible refine (specValid_any m e _ _ la ca lb cb X Y _ IX.out IY.out hla hlb hca hcb).mono ?_); rintro e1 w1 ⟨rfl, hb1⟩; rw [V1.out]; have KR1 := Lib.hid (KR.out.below hb1 KR.out.lt); have KS1 := Lib.hid (KS.out.below hb1 KS.out.lt); have KZ1 := Lib.hid (KZ.out.below hb1 KZ.out.lt); have BW1 := Lib.hid (BW.out.trans (hb1.mono BW.out.size)); have IX1 := Lib.hid (IX.out.next hb1); have IY1 := Lib.hid (IY.out.next hb1); have IX'1 := Lib.hid (IX'.out.next hb1); have IY'1 := Lib.hid (IY'.out.next hb1); have BD1 := Lib.hid (show Below W.heap.size W w1 from hb1); clear hb1; have x01 := KR1.out.cell 0; have x11 := KR1.out.cell 1; have x21 := KR1.out.cell 2; have x31 := KR1.out.cell 3; have y01 := KS1.out.cell 0; have y11 := KS1.out.cell 1; have y21 := KS1.out.cell 2; have y31 := KS1.out.cell 3; have z01 := KZ1.out.cell 0; have z11 := KZ1.out.cell 1; have z21 := KZ1.out.cell 2; have z31 := KZ1.out.cell 3; have fz01 := KZ1.out.frozen 0; have fz11 := KZ1.out.frozen 1; have fz21 := KZ1.out.frozen 2; have fz31 := KZ1.out.frozen 3; simp at x01 x11 x21 x31 y01 y11 y21 y31 z01 z11 z21 z31)
          | (go_at_call 48; (with_reducible refine (specValid_any q f _ _ la' ca' lb' cb' X' Y' _ IX'1.out IY'1.out hla' hlb' hca' hcb').mono ?_); rintro e2 w2 ⟨rfl, hb2⟩; rw [V2.out]; have KR2 := Lib.hid (KR1.out.below hb2 KR1.out.lt); have KS2 := Lib.hid (KS1.out.below hb2 KS1.out.lt); have KZ2 := Lib.hid (KZ1.out.below hb2 KZ1.out.lt); have BW2 := Lib.hid (BW1.out.trans (hb2.mono BW1.out.size)); have IX2 := Lib.hid (IX1.out.next hb2); have IY2 := Lib.hid (IY1.out.next hb2); have IX'2 := Lib.hid (IX'1.out.next hb2); have IY'2 := Lib.hid (IY'1.out.next hb2); have BD2 := Lib.hid (show Below W.heap.size W w2 from BD1.out.trans (hb2.mono BD1.out.size)); clear hb2; have x02 := KR2.out.cell 0; have x12 := KR2.out.cell 1; have x22 := KR2.out.cell 2; have x32 := KR2.out.cell 3; have y02 := KS2.out.cell 0; have y12 := KS2.out.cell 1; have y22 := KS2.out.cell 2; have y32 := KS2.out.cell 3; have z02 := KZ2.out.cell 0; have z12 := KZ2.out.cell 1; have z22 := KZ2.out.cell 2; have z32 := KZ2.out.cell 3; have fz02 := KZ2.out.frozen 0; have fz12 := KZ2.out.frozen 1; have fz22 := KZ2.out.frozen 2; have fz32 := KZ2.out.frozen 3; simp at x02 x12 x22 x32 y02 y12 y22 y32 z02 z12 z22 z32)
          | (go_at_call 77; refine (l1Product_any _ _ _ _ _ _ _ _ _ _ _ _ _ _ _ _ _ _ _ _ _ _ _ _ _ (HR.out.next BD2.out) (HS.out.next BD2.out) (by omega)).mono ?_; rintro e3 w3 ⟨v3, rfl, hn3, hb3⟩; obtain ⟨C1, l1, k1, C2, l2, k2, rfl, q1, q2, q3⟩ := hn3.outB (sqN (by omega)) tabG_length tabG_length; have Q1 := Lib.hid q1; have Q2 := Lib.hid q2; have Q3 := Lib.hid q3; clear hn3 q1 q2 q3; have KR3 := Lib.hid (KR2.out.below hb3 KR2.out.lt); have KS3 := Lib.hid (KS2.out.below hb3 KS2.out.lt); have KZ3 := Lib.hid (KZ2.out.below hb3 KZ2.out.lt); have BW3 := Lib.hid (BW2.out.trans (hb3.mono BW2.out.size)); have IX3 := Lib.hid (IX2.out.next hb3); have IY3 := Lib.hid (IY2.out.next hb3); have IX'3 := Lib.hid (IX'2.out.next hb3); have IY'3 := Lib.hid (IY'2.out.next hb3); clear hb3; have x03 := KR3.out.cell 0; have x13 := KR3.out.cell 1; have x23 := KR3.out.cell 2; have x33 := KR3.out.cell 3; have y03 := KS3.out.cell 0; have y13 := KS3.out.cell 1; have y23 := KS3.out.cell 2; have y33 := KS3.out.cell 3; have z03 := KZ3.out.cell 0; have z13 := KZ3.out.cell 1; have z23 := KZ3.out.cell 2; have z33 := KZ3.out.cell 3; have fz03 := KZ3.out.frozen 0; have fz13 := KZ3.out.frozen 1; have fz23 := KZ3.out.frozen 2; have fz33 := KZ3.out.frozen 3; simp at x03 x13 x23 x33 y03 y13 y23 y33 z03 z13 z23 z33))
        refine bodyPost_ret (v := .tuple #[.agg #[.int .i64 ((m : Int) * q), .int .i64 ((e : Int) * q + f), .slice C1 l1 k1, .slice C2 l2 k2], .bool true]) ?_ rfl ⟨_, rfl, ?_, store4_below BW3.out (by omega)⟩
        · exact results_cell_flag rfl _ _ (w.heap.size + 1 + 1) 24 _ _ _ rfl rfl (store4_blk KZ3.out) Try.underlying24 rfl (by kernel_rfl)
        · exact RingOutB.lower (store4_outB ⟨C1, l1, k1, C2, l2, k2, rfl, Q1.out, Q2.out, Q3.out⟩ (show w.heap.size + 1 + 1 < w2.heap.size from KZ2.out.lt)) BW2.out.size
      · have hp : prodB m e X Y q f X' Y' = false := by simp [prodB]; omega
        simp only [prN, prO, prT, hp, Bool.false_eq_true, if_false]
        clear v1 v2
        go_enter Try.func25, Try.ntmps25
        go_upto_region 1 with (fail)
        rw [HW.out]
        go_wp2_with (first
          | (go_at_call 48; (with_reducible refine (specValid_any m e _ _ la ca lb cb X Y _ IX.out IY.out hla hlb hca hcb).mono ?_); rintro e1 w1 ⟨rfl, hb1⟩; rw [V1.out]; have KR1 := Lib.hid (KR.out.below hb1 KR.out.lt); have KS1 := Lib.hid (KS.out.below hb1 KS.out.lt); have KZ1 := Lib.hid (KZ.out.below hb1 KZ.out.lt); have BW1 := Lib.hid (BW.out.trans (hb1.mono BW.out.size)); have IX1 := Lib.hid (IX.out.next hb1); have IY1 := Lib.hid (IY.out.next hb1); have IX'1 := Lib.hid (IX'.out.next hb1); have IY'1 := Lib.hid (IY'.out.next hb1); have BD1 := Lib.hid (show Below W.heap.size W w1 from hb1); clear hb1; have x01 := KR1.out.cell 0; have x11 := KR1.out.cell 1; have x21 := KR1.out.cell 2; have x31 := KR1.out.cell 3; have y01 := KS1.out.cell 0; have y11 := KS1.out.cell 1; have y21 := KS1.out.cell 2; have y31 := KS1.out.cell 3; have z01 := KZ1.out.cell 0; have z11 := KZ1.out.cell 1; have z21 := KZ1.out.cell 2; have z31 := KZ1.out.cell 3; have fz01 := KZ1.out.frozen 0; have fz11 := KZ1.out.frozen 1; have fz21 := KZ1.out.frozen 2; have fz31 := KZ1.out.frozen 3; simp at x01 x11 x21 x31 y01 y11 y21 y31 z01 z11 z21 z31)
          | (go_at_call 48; (with_reducible refine (specValid_any q f _ _ la' ca' lb' cb' X' Y' _ IX'1.out IY'1.out hla' hlb' hca' hcb').mono ?_); rintro e2 w2 ⟨rfl, hb2⟩; rw [V2.out]; have KR2 := Lib.hid (KR1.out.below hb2 KR1.out.lt); have KS2 := Lib.hid (KS1.out.below hb2 KS1.out.lt); have KZ2 := Lib.hid (KZ1.out.below hb2 KZ1.out.lt); have BW2 := Lib.hid (BW1.out.trans (hb2.mono BW1.out.size)); have IX2 := Lib.hid (IX1.out.next hb2); have IY2 := Lib.hid (IY1.out.next hb2); have IX'2 := Lib.hid (IX'1.out.next hb2); have IY'2 := Lib.hid (IY'1.out.next hb2); have BD2 := Lib.hid (show Below W.heap.size W w2 from BD1.out.trans (hb2.mono BD1.out.size)); clear hb2; have x02 := KR2.out.cell 0; have x12 := KR2.out.cell 1; have x22 := KR2.out.cell 2; have x32 := KR2.out.cell 3; have y02 := KS2.out.cell 0; have y12 := KS2.out.cell 1; have y22 := KS2.out.cell 2; have y32 := KS2.out.cell 3; have z02 := KZ2.out.cell 0; have z12 := KZ2.out.cell 1; have z22 := KZ2.out.cell 2; have z32 := KZ2.out.cell 3; have fz02 := KZ2.out.frozen 0; have fz12 := KZ2.out.frozen 1; have fz22 := KZ2.out.frozen 2; have fz32 := KZ2.out.frozen 3; simp at x02 x12 x22 x32 y02 y12 y22 y32 z02 z12 z22 z32))
        refine bodyPost_ret (v := .tuple #[.agg #[.int .i64 0, .int .i64 0, .slice none 0 0, .slice none 0 0], .bool false]) ?_ rfl ⟨_, rfl, RingOutB.zero, store4_below BW2.out (by omega)⟩
        exact results_cell_flag rfl _ _ (w.heap.size + 1 + 1) 24 _ _ _ rfl rfl (store4_blk KZ2.out) Try.underlying24 rfl (by kernel_rfl)


set_option maxHeartbeats 1000000 in
theorem productB_any (n o : Int) (A B : Option Addr) (la ca lb cb : Nat) (X Y : List Int) (n' o' : Int) (A' B' : Option Addr) (la' ca' lb' cb' : Nat) (X' Y' : List Int) (w : World) (hX : Ints w w.heap.size A la X) (hY : Ints w w.heap.size B lb Y) (hla : la ≤ 9223372036854775807) (hlb : lb ≤ 9223372036854775807) (hca : la ≤ ca) (hcb : lb ≤ cb) (hX' : Ints w w.heap.size A' la' X') (hY' : Ints w w.heap.size B' lb' Y') (hla' : la' ≤ 9223372036854775807) (hlb' : lb' ≤ 9223372036854775807) (hca' : la' ≤ ca') (hcb' : lb' ≤ cb') :
    Calls Try.prog 27 #[.agg #[.int .i64 n, .int .i64 o, .slice A la ca, .slice B lb cb], .agg #[.int .i64 n', .int .i64 o', .slice A' la' ca', .slice B' lb' cb']] w fun e w' => ∃ v, e = .returned (.tuple #[v, .bool (prodB n o X Y n' o' X' Y')]) ∧ RingOutB w.heap.size w' v (prN n o X Y n' o' X' Y') (prO n o X Y n' o' X' Y') (prT X X' n o X Y n' o' X' Y') (prT Y Y' n o X Y n' o' X' Y') ∧ Below w.heap.size w w' := by
  obtain ⟨W, hW⟩ : ∃ W, (((w.alloc (.cells #[.int .i64 n, .int .i64 o, .slice A la ca, .slice B lb cb] 24)).alloc (.cells #[.int .i64 n', .int .i64 o', .slice A' la' ca', .slice B' lb' cb'] 24)).alloc (.cells #[.int .i64 0, .int .i64 0, .slice none 0 0, .slice none 0 0] 24)).alloc (.cells #[.int .i64 n, .int .i64 o, .slice A la ca, .slice B lb cb, .int .i64 n', .int .i64 o', .slice A' la' ca', .slice B' lb' cb'] 70) = W := ⟨_, rfl⟩
  have kZ : Blk W (w.heap.size + 1 + 1) 24 #[.int .i64 0, .int .i64 0, .slice none 0 0, .slice none 0 0] := by
    subst hW
    have := (Blk.new ((w.alloc (.cells #[.int .i64 n, .int .i64 o, .slice A la ca, .slice B lb cb] 24)).alloc (.cells #[.int .i64 n', .int .i64 o', .slice A' la' ca', .slice B' lb' cb'] 24)) 24 #[.int .i64 0, .int .i64 0, .slice none 0 0, .slice none 0 0]).alloc (.cells #[.int .i64 n, .int .i64 o, .slice A la ca, .slice B lb cb, .int .i64 n', .int .i64 o', .slice A' la' ca', .slice B' lb' cb'] 70)
    rw [World.size_alloc, World.size_alloc] at this
    exact this
  have kP : Blk W (w.heap.size + 1 + 1 + 1) 70 #[.int .i64 n, .int .i64 o, .slice A la ca, .slice B lb cb, .int .i64 n', .int .i64 o', .slice A' la' ca', .slice B' lb' cb'] := by
    subst hW
    have := Blk.new (((w.alloc (.cells #[.int .i64 n, .int .i64 o, .slice A la ca, .slice B lb cb] 24)).alloc (.cells #[.int .i64 n', .int .i64 o', .slice A' la' ca', .slice B' lb' cb'] 24)).alloc (.cells #[.int .i64 0, .int .i64 0, .slice none 0 0, .slice none 0 0] 24)) 70 #[.int .i64 n, .int .i64 o, .slice A la ca, .slice B lb cb, .int .i64 n', .int .i64 o', .slice A' la' ca', .slice B' lb' cb']
    rw [World.size_alloc, World.size_alloc, World.size_alloc] at this
    exact this
  have bW : Below w.heap.size w W := by
    subst hW
    exact ((((Below.refl _ _).alloc (Nat.le_refl _) _).alloc (by simp) _).alloc (by simp; omega) _).alloc (by simp; omega) _
  have KZ := Lib.hid kZ
  have KP := Lib.hid kP
  have BW := Lib.hid bW
  have lW : w.heap.size + 1 + 1 < W.heap.size := kZ.lt
  have IX := Lib.hid (hX.next bW)
  have IY := Lib.hid (hY.next bW)
  have IX' := Lib.hid (hX'.next bW)
  have IY' := Lib.hid (hY'.next bW)
  have HW := Lib.hid hW
  have p0 := kP.cell 0
  have p1 := kP.cell 1
  have p2 := kP.cell 2
  have p3 := kP.cell 3
  have p4 := kP.cell 4
  have p5 := kP.cell 5
  have p6 := kP.cell 6
  have p7 := kP.cell 7
  simp at p0 p1 p2 p3 p4 p5 p6 p7
  clear kZ kP bW hW hX hY hX' hY'
  cases hp : prodB n o X Y n' o' X' Y'
  · have VP := Lib.hid hp
    simp only [prN, prO, prT, hp, Bool.false_eq_true, if_false]
    clear hp
    go_enter Try.func27, Try.ntmps27
    go_upto_region 2 with (fail)
    rw [HW.out]
    go_wp2_with (fail)
    refine (paValid_any n o A B la ca lb cb X Y n' o' A' B' la' ca' lb' cb' X' Y' W IX.out IY.out hla hlb hca hcb IX'.out IY'.out hla' hlb' hca' hcb').mono ?_
    rintro e1 w1 ⟨rfl, hb1⟩
    rw [VP.out]
    have KZ1 := Lib.hid (KZ.out.below hb1 KZ.out.lt)
    have KP1 := Lib.hid (KP.out.below hb1 KP.out.lt)
    have BW1 := Lib.hid (BW.out.trans (hb1.mono BW.out.size))
    have z01 := KZ1.out.cell 0
    have z11 := KZ1.out.cell 1
    have z21 := KZ1.out.cell 2
    have z31 := KZ1.out.cell 3
    have fz01 := KZ1.out.frozen 0
    have fz11 := KZ1.out.frozen 1
    have fz21 := KZ1.out.frozen 2
    have fz31 := KZ1.out.frozen 3
    have p01 := KP1.out.cell 0
    have p11 := KP1.out.cell 1
    have p21 := KP1.out.cell 2
    have p31 := KP1.out.cell 3
    have p41 := KP1.out.cell 4
    have p51 := KP1.out.cell 5
    have p61 := KP1.out.cell 6
    have p71 := KP1.out.cell 7
    simp at z01 z11 z21 z31 p01 p11 p21 p31 p41 p51 p61 p71
    clear hb1
    go_wp2_with (fail)
    refine bodyPost_ret (v := .tuple #[.agg #[.int .i64 0, .int .i64 0, .slice none 0 0, .slice none 0 0], .bool false]) ?_ rfl ⟨_, rfl, RingOutB.zero, store4_below BW1.out (by omega)⟩
    exact results_cell_flag rfl _ _ (w.heap.size + 1 + 1) 24 _ _ _ rfl rfl (store4_blk KZ1.out) Try.underlying24 rfl (by kernel_rfl)
  · have VP0 := hp
    simp only [prN, prO, prT, hp, if_true]
    obtain ⟨_, _, _, _, v1, v2, hsz⟩ := prod_bounds hp
    obtain ⟨m, e, b1, o1, b2, o2, rfl, rfl, rfl, rfl, hr, _⟩ := valid_data v1 IX.out IY.out hca hcb
    obtain ⟨q, f, c1, p1', c2, p2', rfl, rfl, rfl, rfl, hs, _⟩ := valid_data v2 IX'.out IY'.out hca' hcb'
    have hm := hr.hm
    have hq := hs.hm
    have eN : (m : Int) * q = ((m * q : Nat) : Int) := by simp
    have hz : m * q ≤ 16 := by
      rw [eN] at hsz
      omega
    have hz1 : 1 ≤ m * q := Nat.mul_pos hm hq
    have VP := Lib.hid VP0
    have e5 : ((m : Int) * q).toNat = m * q := by rw [eN]; exact Int.toNat_natCast _
    simp only [e5, Int.toNat_natCast]
    have HR := Lib.hid hr
    have HS := Lib.hid hs
    clear hr hs e5 v1 v2 hp VP0 hsz eN
    go_enter Try.func27, Try.ntmps27
    go_upto_region 2 with (fail)
    rw [HW.out]
    go_wp2_with (fail)
    refine (paValid_any m e _ _ la ca lb cb X Y q f _ _ la' ca' lb' cb' X' Y' W IX.out IY.out hla hlb hca hcb IX'.out IY'.out hla' hlb' hca' hcb').mono ?_
    rintro e1 w1 ⟨rfl, hb1⟩
    rw [VP.out]
    have KZ1 := Lib.hid (KZ.out.below hb1 KZ.out.lt)
    have KP1 := Lib.hid (KP.out.below hb1 KP.out.lt)
    have BW1 := Lib.hid (BW.out.trans (hb1.mono BW.out.size))
    have z01 := KZ1.out.cell 0
    have z11 := KZ1.out.cell 1
    have z21 := KZ1.out.cell 2
    have z31 := KZ1.out.cell 3
    have fz01 := KZ1.out.frozen 0
    have fz11 := KZ1.out.frozen 1
    have fz21 := KZ1.out.frozen 2
    have fz31 := KZ1.out.frozen 3
    have p01 := KP1.out.cell 0
    have p11 := KP1.out.cell 1
    have p21 := KP1.out.cell 2
    have p31 := KP1.out.cell 3
    have p41 := KP1.out.cell 4
    have p51 := KP1.out.cell 5
    have p61 := KP1.out.cell 6
    have p71 := KP1.out.cell 7
    simp at z01 z11 z21 z31 p01 p11 p21 p31 p41 p51 p61 p71
    have hr1 := Lib.hid (HR.out.next hb1)
    have hs1 := Lib.hid (HS.out.next hb1)
    clear hb1
    go_wp2_with (fail)
    refine (madePa_any _ (m * q) (e * q + f) _ _ _ _ _ _ _ hz1 hz w1 (making_pa m e b1 o1 la ca b2 o2 lb cb (tabOf X) (tabOf Y) q f c1 p1' la' ca' c2 p2' lb' cb' (tabOf X') (tabOf Y') w1 hr1.out hs1.out hz)).mono ?_
    rintro e2 w2 ⟨v2, rfl, hn2, hb2⟩
    obtain ⟨C1, l1, k1, C2, l2, k2, rfl, q1, q2, q3⟩ := hn2.outB (sqN hz) tabG_length tabG_length
    have Q1 := Lib.hid q1
    have Q2 := Lib.hid q2
    have Q3 := Lib.hid q3
    clear hn2 q1 q2 q3
    have KZ2 := Lib.hid (KZ1.out.below hb2 KZ1.out.lt)
    have KP2 := Lib.hid (KP1.out.below hb2 KP1.out.lt)
    have BW2 := Lib.hid (BW1.out.trans (hb2.mono BW1.out.size))
    have z02 := KZ2.out.cell 0
    have z12 := KZ2.out.cell 1
    have z22 := KZ2.out.cell 2
    have z32 := KZ2.out.cell 3
    have fz02 := KZ2.out.frozen 0
    have fz12 := KZ2.out.frozen 1
    have fz22 := KZ2.out.frozen 2
    have fz32 := KZ2.out.frozen 3
    have p02 := KP2.out.cell 0
    have p12 := KP2.out.cell 1
    have p22 := KP2.out.cell 2
    have p32 := KP2.out.cell 3
    have p42 := KP2.out.cell 4
    have p52 := KP2.out.cell 5
    have p62 := KP2.out.cell 6
    have p72 := KP2.out.cell 7
    simp at z02 z12 z22 z32 p02 p12 p22 p32 p42 p52 p62 p72
    clear hb2
    go_wp2_with (fail)
    refine bodyPost_ret (v := .tuple #[.agg #[.int .i64 ((m : Int) * q), .int .i64 ((e : Int) * q + f), .slice C1 l1 k1, .slice C2 l2 k2], .bool true]) ?_ rfl ⟨_, rfl, ?_, store4_below BW2.out (by omega)⟩
    · exact results_cell_flag rfl _ _ (w.heap.size + 1 + 1) 24 _ _ _ rfl rfl (store4_blk KZ2.out) Try.underlying24 rfl (by kernel_rfl)
    · exact RingOutB.lower (store4_outB ⟨C1, l1, k1, C2, l2, k2, rfl, Q1.out, Q2.out, Q3.out⟩ (show w.heap.size + 1 + 1 < w1.heap.size from KZ1.out.lt)) BW1.out.size


end Go.Proofs.Ytplligjoegjngaa
