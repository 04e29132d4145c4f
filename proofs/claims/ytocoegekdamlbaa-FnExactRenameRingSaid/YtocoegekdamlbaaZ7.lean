
/- RenameRing of the reading side. -/
import Derived.Test.YtocoegekdamlbaaZ5
import Derived.Test.YtocoegekdamlbaaZ6
namespace Go.Proofs.Ytocoegekdamlbaa
open Go.RowKit
set_option maxRecDepth 100000

set_option maxHeartbeats 4000000 in
theorem srename_any (n o : Int) (A B F : Option Addr) (la ca lb cb lf cf : Nat) (X Y Z : List Int) (w : World) (hX : Ints w w.heap.size A la X) (hY : Ints w w.heap.size B lb Y) (hF : Ints w w.heap.size F lf Z) (hla : la ≤ 9223372036854775807) (hlb : lb ≤ 9223372036854775807) (hlf : lf ≤ 9223372036854775807) (hca : la ≤ ca) (hcb : lb ≤ cb) :
    Calls Try.prog 25 #[.agg #[.int .i64 n, .int .i64 o, .slice A la ca, .slice B lb cb], .slice F lf cf] w fun e w' => ∃ v, e = .returned (.tuple #[v, .bool (rnB n o X Y Z)]) ∧ RingOutB w.heap.size w' v (rnN n o X Y Z) (rnO n o X Y Z) (rnT X n o X Y Z) (rnT Y n o X Y Z) ∧ Below w.heap.size w w' := by
  obtain ⟨W, hW⟩ : ∃ W, (w.alloc (.cells #[.int .i64 n, .int .i64 o, .slice A la ca, .slice B lb cb] 28)).alloc (.cells #[.int .i64 0, .int .i64 0, .slice none 0 0, .slice none 0 0] 28) = W := ⟨_, rfl⟩
  have kR : Blk W w.heap.size 28 #[.int .i64 n, .int .i64 o, .slice A la ca, .slice B lb cb] := by
    subst hW; exact (Blk.new w _ _).alloc _
  have kZ : Blk W (w.heap.size + 1) 28 #[.int .i64 0, .int .i64 0, .slice none 0 0, .slice none 0 0] := by
    subst hW
    have := Blk.new (w.alloc (.cells #[.int .i64 n, .int .i64 o, .slice A la ca, .slice B lb cb] 28)) 28 #[.int .i64 0, .int .i64 0, .slice none 0 0, .slice none 0 0]
    rw [World.size_alloc] at this
    exact this
  have bW : Below w.heap.size w W := by
    subst hW
    exact ((Below.refl _ _).alloc (Nat.le_refl _) _).alloc (by simp) _
  have KZ := Lib.hid kZ
  have KR := Lib.hid kR
  have BW := Lib.hid bW
  have IX := Lib.hid (hX.next bW)
  have IY := Lib.hid (hY.next bW)
  have IF := Lib.hid (hF.next bW)
  have HW := Lib.hid hW
  obtain ⟨p0, p1, p2, p3⟩ := blk4 kR
  clear kZ kR bW hW hX hY hF
  cases hv : validB n o X Y
  · have hp := rnB_v (Z := Z) hv
    have VP := Lib.hid hp
    have HV := Lib.hid hv
    simp only [rnN, rnO, rnT, hp, Bool.false_eq_true, if_false]
    clear hp hv
    go_enter Try.func25, Try.ntmps25
    go_upto_region 1 with (fail)
    rw [HW.out]
    go_wp2_with (first
      | (go_at_call 57; (with_reducible refine (specValid_any n o A B la ca lb cb X Y _ IX.out IY.out hla hlb hca hcb).mono ?_); rintro e1 w1 ⟨rfl, hb1⟩; rw [HV.out]; have KZ1 := Lib.hid (KZ.out.below hb1 KZ.out.lt); have BW1 := Lib.hid (BW.out.trans (hb1.mono BW.out.size)); have z01 := KZ1.out.cell 0; have z11 := KZ1.out.cell 1; have z21 := KZ1.out.cell 2; have z31 := KZ1.out.cell 3; have fz01 := KZ1.out.frozen 0; have fz11 := KZ1.out.frozen 1; have fz21 := KZ1.out.frozen 2; have fz31 := KZ1.out.frozen 3; simp at z01 z11 z21 z31; clear hb1))
    refine bodyPost_ret (v := .tuple #[.agg #[.int .i64 0, .int .i64 0, .slice none 0 0, .slice none 0 0], .bool false]) ?_ rfl ⟨_, rfl, RingOutB.zero, store4_below BW1.out (by omega)⟩
    exact results_cell_flag rfl _ _ (w.heap.size + 1) 28 _ _ _ rfl rfl (store4_blk KZ1.out) Try.underlying28 rfl (by kernel_rfl)
  · obtain ⟨m, e, b1, o1, b2, o2, rfl, rfl, rfl, rfl, hr, _⟩ := valid_data hv IX.out IY.out hca hcb
    have hm := hr.hm
    have hm' := hr.hm'
    have HR := Lib.hid hr
    have HV := Lib.hid hv
    by_cases hn : NamesOk m Z
    · have hp : rnB m e X Y Z = true := rnB_yes hv (by rw [Int.toNat_natCast]; exact hn)
      simp only [rnN, rnO, rnT, hp, if_true, Int.toNat_natCast]
      have HQ := Lib.hid (nmB_yes hn)
      have HN := Lib.hid hn
      clear hr hv hp hn
      go_enter Try.func25, Try.ntmps25
      go_upto_region 1 with (fail)
      rw [HW.out]
      go_wp2_with (first
        | (go_at_call 57; (with_reducible refine (specValid_any m e _ _ la ca lb cb X Y _ IX.out IY.out hla hlb hca hcb).mono ?_); rintro e1 w1 ⟨rfl, hb1⟩; rw [HV.out]; have KZ1 := Lib.hid (KZ.out.below hb1 KZ.out.lt); have KR1 := Lib.hid (KR.out.next hb1); have BW1 := Lib.hid (BW.out.trans (hb1.mono BW.out.size)); have IF1 := Lib.hid (IF.out.next hb1); have HR1 := Lib.hid (HR.out.next hb1); clear hb1 p0 p1 p2 p3; obtain ⟨p0, p1, p2, p3⟩ := blk4 KR1.out)
        | (go_at_call 58; (with_reducible refine (l2Names_any m F lf cf Z _ hm hm' IF1.out hlf).mono ?_); rintro e2 w2 ⟨rfl, hb2⟩; rw [HQ.out]; have KZ2 := Lib.hid (KZ1.out.below hb2 KZ1.out.lt); have KR2 := Lib.hid (KR1.out.next hb2); have BW2 := Lib.hid (BW1.out.trans (hb2.mono BW1.out.size)); have IF2 := Lib.hid (IF1.out.next hb2); have HR2 := Lib.hid (HR1.out.next hb2); clear hb2 p0 p1 p2 p3; obtain ⟨p0, p1, p2, p3⟩ := blk4 KR2.out)
        | (go_at_call 59; refine (l2Renamed_any m e b1 o1 la ca b2 o2 lb cb (tabOf X) (tabOf Y) F lf cf Z _ HR2.out IF2.out HN.out).mono ?_; rintro e3 w3 ⟨v3, rfl, hn3, hb3⟩; obtain ⟨C1, l1, k1, C2, l2, k2, rfl, q1, q2, q3⟩ := hn3.outB (sqR hm') tabZ_len tabZ_len; have Q1 := Lib.hid q1; have Q2 := Lib.hid q2; have Q3 := Lib.hid q3; clear hn3 q1 q2 q3; have KZ3 := Lib.hid (KZ2.out.below hb3 KZ2.out.lt); have BW3 := Lib.hid (BW2.out.trans (hb3.mono BW2.out.size)); clear hb3 p0 p1 p2 p3; have z01 := KZ3.out.cell 0; have z11 := KZ3.out.cell 1; have z21 := KZ3.out.cell 2; have z31 := KZ3.out.cell 3; have fz01 := KZ3.out.frozen 0; have fz11 := KZ3.out.frozen 1; have fz21 := KZ3.out.frozen 2; have fz31 := KZ3.out.frozen 3; simp at z01 z11 z21 z31))
      refine bodyPost_ret (v := .tuple #[.agg #[.int .i64 (m : Int), .int .i64 ((nu Z e : Nat) : Int), .slice C1 l1 k1, .slice C2 l2 k2], .bool true]) ?_ rfl ⟨_, rfl, ?_, store4_below BW3.out (by omega)⟩
      · exact results_cell_flag rfl _ _ (w.heap.size + 1) 28 _ _ _ rfl rfl (store4_blk KZ3.out) Try.underlying28 rfl (by kernel_rfl)
      · exact RingOutB.lower (store4_outB ⟨C1, l1, k1, C2, l2, k2, rfl, Q1.out, Q2.out, Q3.out⟩ (show w.heap.size + 1 < w2.heap.size from KZ2.out.lt)) BW2.out.size
    · have hp : rnB m e X Y Z = false := rnB_n (by rw [Int.toNat_natCast]; exact hn)
      simp only [rnN, rnO, rnT, hp, Bool.false_eq_true, if_false]
      have HQ := Lib.hid (nmB_no hn)
      clear hr hv hp hn
      go_enter Try.func25, Try.ntmps25
      go_upto_region 1 with (fail)
      rw [HW.out]
      go_wp2_with (first
        | (go_at_call 57; (with_reducible refine (specValid_any m e _ _ la ca lb cb X Y _ IX.out IY.out hla hlb hca hcb).mono ?_); rintro e1 w1 ⟨rfl, hb1⟩; rw [HV.out]; have KZ1 := Lib.hid (KZ.out.below hb1 KZ.out.lt); have KR1 := Lib.hid (KR.out.next hb1); have BW1 := Lib.hid (BW.out.trans (hb1.mono BW.out.size)); have IF1 := Lib.hid (IF.out.next hb1); clear hb1 p0 p1 p2 p3; obtain ⟨p0, p1, p2, p3⟩ := blk4 KR1.out)
        | (go_at_call 58; (with_reducible refine (l2Names_any m F lf cf Z _ hm hm' IF1.out hlf).mono ?_); rintro e2 w2 ⟨rfl, hb2⟩; rw [HQ.out]; have KZ2 := Lib.hid (KZ1.out.below hb2 KZ1.out.lt); have BW2 := Lib.hid (BW1.out.trans (hb2.mono BW1.out.size)); clear hb2 p0 p1 p2 p3; have z01 := KZ2.out.cell 0; have z11 := KZ2.out.cell 1; have z21 := KZ2.out.cell 2; have z31 := KZ2.out.cell 3; have fz01 := KZ2.out.frozen 0; have fz11 := KZ2.out.frozen 1; have fz21 := KZ2.out.frozen 2; have fz31 := KZ2.out.frozen 3; simp at z01 z11 z21 z31))
      refine bodyPost_ret (v := .tuple #[.agg #[.int .i64 0, .int .i64 0, .slice none 0 0, .slice none 0 0], .bool false]) ?_ rfl ⟨_, rfl, RingOutB.zero, store4_below BW2.out (by omega)⟩
      exact results_cell_flag rfl _ _ (w.heap.size + 1) 28 _ _ _ rfl rfl (store4_blk KZ2.out) Try.underlying28 rfl (by kernel_rfl)

end Go.Proofs.Ytocoegekdamlbaa
