/- ProductRing of the program. -/
import Derived.Test.YtplligjoegjngaaH3
namespace Go.Proofs.Ytplligjoegjngaa
open Go.RowKit
set_option maxRecDepth 100000

set_option maxHeartbeats 1000000 in
theorem product_ring_any (n o : Int) (A B : Option Addr) (la ca lb cb : Nat) (X Y : List Int) (n' o' : Int) (A' B' : Option Addr) (la' ca' lb' cb' : Nat) (X' Y' : List Int) (w : World) (hX : Ints w w.heap.size A la X) (hY : Ints w w.heap.size B lb Y) (hla : la ≤ 9223372036854775807) (hlb : lb ≤ 9223372036854775807) (hca : la ≤ ca) (hcb : lb ≤ cb) (hX' : Ints w w.heap.size A' la' X') (hY' : Ints w w.heap.size B' lb' Y') (hla' : la' ≤ 9223372036854775807) (hlb' : lb' ≤ 9223372036854775807) (hca' : la' ≤ ca') (hcb' : lb' ≤ cb') :
    Calls Try.prog 27 #[.agg #[.int .i64 n, .int .i64 o, .slice A la ca, .slice B lb cb], .agg #[.int .i64 n', .int .i64 o', .slice A' la' ca', .slice B' lb' cb']] w fun e w' => ∃ v, e = .returned (.tuple #[v, .bool (prodB n o X Y n' o' X' Y')]) ∧ RingOut w.heap.size w' v (prN n o X Y n' o' X' Y') (prO n o X Y n' o' X' Y') (prT X X' n o X Y n' o' X' Y') (prT Y Y' n o X Y n' o' X' Y') ∧ Below w.heap.size w w' := by
  obtain ⟨W, hW⟩ : ∃ W, (((w.alloc (.cells #[.int .i64 n, .int .i64 o, .slice A la ca, .slice B lb cb] 24)).alloc (.cells #[.int .i64 n', .int .i64 o', .slice A' la' ca', .slice B' lb' cb'] 24)).alloc (.cells #[.int .i64 0, .int .i64 0, .slice none 0 0, .slice none 0 0] 24)).alloc (.cells #[.int .i64 n, .int .i64 o, .slice A la ca, .slice B lb cb, .int .i64 n', .int .i64 o', .slice A' la' ca', .slice B' lb' cb'] 70) = W := ⟨_, rfl⟩
  have kZ : Blk W (w.heap.size + 1 + 1) 24 #[.int .i64 0, .int .i64 0, .slice none 0 0, .slice none 0 0] := by
    subst hW
    have := (Blk.new ((w.alloc (.cells #[.int .i64 n, .int .i64 o, .slice A la ca, .slice B lb cb] 24)).alloc (.cells #[.int .i64 n', .int .i64 o', .slice A' la' ca', .slice B' lb' cb'] 24)) 24 #[.int .i64 0, .int .i64 0, .slice none 0 0, .slice none 0 0]).alloc (.cells #[.int .i64 n, .int .i64 o, .slice A la ca, .slice B lb cb, .int .i64 n', .int .i64 o', .slice A' la' ca', .slice B' lb' cb'] 70)
    rw [World.size_alloc, World.size_alloc] at this
    exact this
  have kP : Blk W (w.heap.size + 1 + 1 + 1) 70 #[.int .i64 n, .int .i64 o, .slice A la ca, .slice B lb cb, .int .i64 n', .int .i64 o', .slice A' la' ca', .slice B' lb' cb'] := by
    subst hW
    have := Blk.new (((w.alloc (.cells #[.int .i64 n, .int .i64 o, .slice A la ca, .slice B lb cb] 24)).alloc (.cells #[.int .i64 n', .int .i64 o', .slice A' la' ca', .slice B' lb' cb'] 24)).alloc (.cells #[.int .i64 0, .int .i64 0, .slice none 0 0, .slice none 0 0] 24)) 70 #[.int .i64 n, .int .i64 o, .slice A la ca, .slice B lb cb, .int .i64 n', .int .i64 o', .slice A' la' ca', .slice B' lb' cb']
    rw [World.size_alloc, World.size_alloc, World.size_alloc] at this
    exact this
  have bW : Below w.heap.size w W := by
    subst hW
    exact ((((Below.refl _ _).alloc (Nat.le_refl _) _).alloc (by simp) _).alloc (by simp; omega) _).alloc (by simp; omega) _
  have KZ := Lib.hid kZ
  have KP := Lib.hid kP
  have BW := Lib.hid bW
  have lW : w.heap.size + 1 + 1 < W.heap.size := kZ.lt
  have IX := Lib.hid (hX.next bW)
  have IY := Lib.hid (hY.next bW)
  have IX' := Lib.hid (hX'.next bW)
  have IY' := Lib.hid (hY'.next bW)
  have HW := Lib.hid hW
  have p0 := kP.cell 0
  have p1 := kP.cell 1
  have p2 := kP.cell 2
  have p3 := kP.cell 3
  have p4 := kP.cell 4
  have p5 := kP.cell 5
  have p6 := kP.cell 6
  have p7 := kP.cell 7
  simp at p0 p1 p2 p3 p4 p5 p6 p7
  clear kZ kP bW hW hX hY hX' hY'
  cases hp : prodB n o X Y n' o' X' Y'
  · have VP := Lib.hid hp
    simp only [prN, prO, prT, hp, Bool.false_eq_true, if_false]
    clear hp
    go_enter Try.func27, Try.ntmps27
    go_upto_region 2 with (fail)
    rw [HW.out]
    go_wp2_with (fail)
    refine (paValid_any n o A B la ca lb cb X Y n' o' A' B' la' ca' lb' cb' X' Y' W IX.out IY.out hla hlb hca hcb IX'.out IY'.out hla' hlb' hca' hcb').mono ?_
    rintro e1 w1 ⟨rfl, hb1⟩
    rw [VP.out]
    have KZ1 := Lib.hid (KZ.out.below hb1 KZ.out.lt)
    have KP1 := Lib.hid (KP.out.below hb1 KP.out.lt)
    have BW1 := Lib.hid (BW.out.trans (hb1.mono BW.out.size))
    have z01 := KZ1.out.cell 0
    have z11 := KZ1.out.cell 1
    have z21 := KZ1.out.cell 2
    have z31 := KZ1.out.cell 3
    have fz01 := KZ1.out.frozen 0
    have fz11 := KZ1.out.frozen 1
    have fz21 := KZ1.out.frozen 2
    have fz31 := KZ1.out.frozen 3
    have p01 := KP1.out.cell 0
    have p11 := KP1.out.cell 1
    have p21 := KP1.out.cell 2
    have p31 := KP1.out.cell 3
    have p41 := KP1.out.cell 4
    have p51 := KP1.out.cell 5
    have p61 := KP1.out.cell 6
    have p71 := KP1.out.cell 7
    simp at z01 z11 z21 z31 p01 p11 p21 p31 p41 p51 p61 p71
    clear hb1
    go_wp2_with (fail)
    refine bodyPost_ret (v := .tuple #[.agg #[.int .i64 0, .int .i64 0, .slice none 0 0, .slice none 0 0], .bool false]) ?_ rfl ⟨_, rfl, RingOut.zero, store4_below BW1.out (by omega)⟩
    exact results_cell_flag rfl _ _ (w.heap.size + 1 + 1) 24 _ _ _ rfl rfl (store4_blk KZ1.out) Try.underlying24 rfl (by kernel_rfl)
  · have VP0 := hp
    simp only [prN, prO, prT, hp, if_true]
    obtain ⟨_, _, _, _, v1, v2, hsz⟩ := prod_bounds hp
    obtain ⟨m, e, b1, o1, b2, o2, rfl, rfl, rfl, rfl, hr, _⟩ := valid_data v1 IX.out IY.out hca hcb
    obtain ⟨q, f, c1, p1', c2, p2', rfl, rfl, rfl, rfl, hs, _⟩ := valid_data v2 IX'.out IY'.out hca' hcb'
    have hm := hr.hm
    have hq := hs.hm
    have eN : (m : Int) * q = ((m * q : Nat) : Int) := by simp
    have hz : m * q ≤ 16 := by
      rw [eN] at hsz
      omega
    have hz1 : 1 ≤ m * q := Nat.mul_pos hm hq
    have VP := Lib.hid VP0
    have e5 : ((m : Int) * q).toNat = m * q := by rw [eN]; exact Int.toNat_natCast _
    simp only [e5, Int.toNat_natCast]
    have HR := Lib.hid hr
    have HS := Lib.hid hs
    clear hr hs e5 v1 v2 hp VP0 hsz eN
    go_enter Try.func27, Try.ntmps27
    go_upto_region 2 with (fail)
    rw [HW.out]
    go_wp2_with (fail)
    refine (paValid_any m e _ _ la ca lb cb X Y q f _ _ la' ca' lb' cb' X' Y' W IX.out IY.out hla hlb hca hcb IX'.out IY'.out hla' hlb' hca' hcb').mono ?_
    rintro e1 w1 ⟨rfl, hb1⟩
    rw [VP.out]
    have KZ1 := Lib.hid (KZ.out.below hb1 KZ.out.lt)
    have KP1 := Lib.hid (KP.out.below hb1 KP.out.lt)
    have BW1 := Lib.hid (BW.out.trans (hb1.mono BW.out.size))
    have z01 := KZ1.out.cell 0
    have z11 := KZ1.out.cell 1
    have z21 := KZ1.out.cell 2
    have z31 := KZ1.out.cell 3
    have fz01 := KZ1.out.frozen 0
    have fz11 := KZ1.out.frozen 1
    have fz21 := KZ1.out.frozen 2
    have fz31 := KZ1.out.frozen 3
    have p01 := KP1.out.cell 0
    have p11 := KP1.out.cell 1
    have p21 := KP1.out.cell 2
    have p31 := KP1.out.cell 3
    have p41 := KP1.out.cell 4
    have p51 := KP1.out.cell 5
    have p61 := KP1.out.cell 6
    have p71 := KP1.out.cell 7
    simp at z01 z11 z21 z31 p01 p11 p21 p31 p41 p51 p61 p71
    have hr1 := Lib.hid (HR.out.next hb1)
    have hs1 := Lib.hid (HS.out.next hb1)
    clear hb1
    go_wp2_with (fail)
    refine (madePa_any _ (m * q) (e * q + f) _ _ _ _ _ _ _ hz1 hz w1 (making_pa m e b1 o1 la ca b2 o2 lb cb (tabOf X) (tabOf Y) q f c1 p1' la' ca' c2 p2' lb' cb' (tabOf X') (tabOf Y') w1 hr1.out hs1.out hz)).mono ?_
    rintro e2 w2 ⟨v2, rfl, hn2, hb2⟩
    obtain ⟨C1, l1, k1, C2, l2, k2, rfl, q1, q2, q3⟩ := hn2.out (sqN hz) tabG_length tabG_length
    have Q1 := Lib.hid q1
    have Q2 := Lib.hid q2
    have Q3 := Lib.hid q3
    clear hn2 q1 q2 q3
    have KZ2 := Lib.hid (KZ1.out.below hb2 KZ1.out.lt)
    have KP2 := Lib.hid (KP1.out.below hb2 KP1.out.lt)
    have BW2 := Lib.hid (BW1.out.trans (hb2.mono BW1.out.size))
    have z02 := KZ2.out.cell 0
    have z12 := KZ2.out.cell 1
    have z22 := KZ2.out.cell 2
    have z32 := KZ2.out.cell 3
    have fz02 := KZ2.out.frozen 0
    have fz12 := KZ2.out.frozen 1
    have fz22 := KZ2.out.frozen 2
    have fz32 := KZ2.out.frozen 3
    have p02 := KP2.out.cell 0
    have p12 := KP2.out.cell 1
    have p22 := KP2.out.cell 2
    have p32 := KP2.out.cell 3
    have p42 := KP2.out.cell 4
    have p52 := KP2.out.cell 5
    have p62 := KP2.out.cell 6
    have p72 := KP2.out.cell 7
    simp at z02 z12 z22 z32 p02 p12 p22 p32 p42 p52 p62 p72
    clear hb2
    go_wp2_with (fail)
    refine bodyPost_ret (v := .tuple #[.agg #[.int .i64 ((m : Int) * q), .int .i64 ((e : Int) * q + f), .slice C1 l1 k1, .slice C2 l2 k2], .bool true]) ?_ rfl ⟨_, rfl, ?_, store4_below BW2.out (by omega)⟩
    · exact results_cell_flag rfl _ _ (w.heap.size + 1 + 1) 24 _ _ _ rfl rfl (store4_blk KZ2.out) Try.underlying24 rfl (by kernel_rfl)
    · exact RingOut.lower (store4_out ⟨C1, l1, k1, C2, l2, k2, rfl, Q1.out, Q2.out, Q3.out⟩ (show w.heap.size + 1 + 1 < w1.heap.size from KZ1.out.lt)) BW1.out.size

end Go.Proofs.Ytplligjoegjngaa
