
/- RenameRing of the program. -/
import Derived.Test.YtocoegekdamlbaaZ1
import Derived.Test.YtocoegekdamlbaaZ3
import Derived.Test.YtocoegekdamlbaaR2
namespace Go.Proofs.Ytocoegekdamlbaa
open Go.RowKit
set_option maxRecDepth 100000

theorem tabZ_len {m k : Nat} {f : Nat → Nat → Nat} : (tabZ m f k).length = k := by simp [tabZ]
theorem sqR {m : Nat} (hm' : m ≤ 16) : m * m ≤ 1000 := by
  have h2 : m * m ≤ 16 * 16 := Nat.mul_le_mul hm' hm'
  omega
/-- What a renaming hands back. -/
noncomputable def rnN (n o : Int) (X Y Z : List Int) : Int := if rnB n o X Y Z = true then n else 0
noncomputable def rnO (n o : Int) (X Y Z : List Int) : Int := if rnB n o X Y Z = true then ((nu Z o.toNat : Nat) : Int) else 0
noncomputable def rnT (T : List Int) (n o : Int) (X Y Z : List Int) : List Int := if rnB n o X Y Z = true then tabZ n.toNat (fun a b => nu Z (tabOf T (ro Z a * n.toNat + ro Z b))) (n.toNat * n.toNat) else []

set_option maxHeartbeats 4000000 in
theorem rename_any (n o : Int) (A B F : Option Addr) (la ca lb cb lf cf : Nat) (X Y Z : List Int) (w : World) (hX : Ints w w.heap.size A la X) (hY : Ints w w.heap.size B lb Y) (hF : Ints w w.heap.size F lf Z) (hla : la ≤ 9223372036854775807) (hlb : lb ≤ 9223372036854775807) (hlf : lf ≤ 9223372036854775807) (hca : la ≤ ca) (hcb : lb ≤ cb) :
    Calls Try.prog 26 #[.agg #[.int .i64 n, .int .i64 o, .slice A la ca, .slice B lb cb], .slice F lf cf] w fun e w' => ∃ v, e = .returned (.tuple #[v, .bool (rnB n o X Y Z)]) ∧ RingOutB w.heap.size w' v (rnN n o X Y Z) (rnO n o X Y Z) (rnT X n o X Y Z) (rnT Y n o X Y Z) ∧ Below w.heap.size w w' := by
  obtain ⟨W, hW⟩ : ∃ W, ((w.alloc (.cells #[.int .i64 n, .int .i64 o, .slice A la ca, .slice B lb cb] 28)).alloc (.cells #[.int .i64 0, .int .i64 0, .slice none 0 0, .slice none 0 0] 28)).alloc (.cells (rnV n o A B F la ca lb cb lf cf) 59) = W := ⟨_, rfl⟩
  have kZ : Blk W (w.heap.size + 1) 28 #[.int .i64 0, .int .i64 0, .slice none 0 0, .slice none 0 0] := by
    subst hW
    have := (Blk.new (w.alloc (.cells #[.int .i64 n, .int .i64 o, .slice A la ca, .slice B lb cb] 28)) 28 #[.int .i64 0, .int .i64 0, .slice none 0 0, .slice none 0 0]).alloc (.cells (rnV n o A B F la ca lb cb lf cf) 59)
    rw [World.size_alloc] at this
    exact this
  have kP : Blk W (w.heap.size + 1 + 1) 59 (rnV n o A B F la ca lb cb lf cf) := by
    subst hW
    have := Blk.new ((w.alloc (.cells #[.int .i64 n, .int .i64 o, .slice A la ca, .slice B lb cb] 28)).alloc (.cells #[.int .i64 0, .int .i64 0, .slice none 0 0, .slice none 0 0] 28)) 59 (rnV n o A B F la ca lb cb lf cf)
    rw [World.size_alloc, World.size_alloc] at this
    exact this
  have bW : Below w.heap.size w W := by
    subst hW
    exact (((Below.refl _ _).alloc (Nat.le_refl _) _).alloc (by simp) _).alloc (by simp; omega) _
  have KZ := Lib.hid kZ
  have KP := Lib.hid kP
  have BW := Lib.hid bW
  have lW : w.heap.size + 1 < W.heap.size := kZ.lt
  have IX := Lib.hid (hX.next bW)
  have IY := Lib.hid (hY.next bW)
  have IF := Lib.hid (hF.next bW)
  have HW := Lib.hid hW
  obtain ⟨p0, p1, p2, p3, p4⟩ := blk5r kP
  clear kZ kP bW hW hX hY hF
  cases hp : rnB n o X Y Z
  · have VP := Lib.hid hp
    simp only [rnN, rnO, rnT, hp, Bool.false_eq_true, if_false]
    clear hp
    go_enter Try.func26, Try.ntmps26
    go_upto_region 2 with (fail)
    rw [HW.out]
    go_wp2_with (fail)
    refine (rnValid_any n o A B F la ca lb cb lf cf X Y Z W IX.out IY.out IF.out hla hlb hlf hca hcb).mono ?_
    rintro e1 w1 ⟨rfl, hb1⟩
    rw [VP.out]
    have KZ1 := Lib.hid (KZ.out.below hb1 KZ.out.lt)
    have BW1 := Lib.hid (BW.out.trans (hb1.mono BW.out.size))
    have z01 := KZ1.out.cell 0
    have z11 := KZ1.out.cell 1
    have z21 := KZ1.out.cell 2
    have z31 := KZ1.out.cell 3
    have fz01 := KZ1.out.frozen 0
    have fz11 := KZ1.out.frozen 1
    have fz21 := KZ1.out.frozen 2
    have fz31 := KZ1.out.frozen 3
    simp at z01 z11 z21 z31
    clear hb1
    go_wp2_with (fail)
    refine bodyPost_ret (v := .tuple #[.agg #[.int .i64 0, .int .i64 0, .slice none 0 0, .slice none 0 0], .bool false]) ?_ rfl ⟨_, rfl, RingOutB.zero, store4_below BW1.out (by omega)⟩
    exact results_cell_flag rfl _ _ (w.heap.size + 1) 28 _ _ _ rfl rfl (store4_blk KZ1.out) Try.underlying28 rfl (by kernel_rfl)
  · have VP := Lib.hid hp
    simp only [rnN, rnO, rnT, hp, if_true]
    obtain ⟨v1, hn⟩ := rnB_data hp
    obtain ⟨m, e, b1, o1, b2, o2, rfl, rfl, rfl, rfl, hr, _⟩ := valid_data v1 IX.out IY.out hca hcb
    have hm := hr.hm
    have hm' := hr.hm'
    simp only [Int.toNat_natCast] at hn ⊢
    have HR := Lib.hid hr
    have HN := Lib.hid hn
    clear hr v1 hp hn
    go_enter Try.func26, Try.ntmps26
    go_upto_region 2 with (fail)
    rw [HW.out]
    go_wp2_with (fail)
    refine (rnValid_any m e _ _ F la ca lb cb lf cf X Y Z W IX.out IY.out IF.out hla hlb hlf hca hcb).mono ?_
    rintro e1 w1 ⟨rfl, hb1⟩
    rw [VP.out]
    have KZ1 := Lib.hid (KZ.out.below hb1 KZ.out.lt)
    have KP1 := Lib.hid (KP.out.below hb1 KP.out.lt)
    have BW1 := Lib.hid (BW.out.trans (hb1.mono BW.out.size))
    have z01 := KZ1.out.cell 0
    have z11 := KZ1.out.cell 1
    have z21 := KZ1.out.cell 2
    have z31 := KZ1.out.cell 3
    have fz01 := KZ1.out.frozen 0
    have fz11 := KZ1.out.frozen 1
    have fz21 := KZ1.out.frozen 2
    have fz31 := KZ1.out.frozen 3
    obtain ⟨p01, p11, p21, p31, p41⟩ := blk5r KP1.out
    simp at z01 z11 z21 z31
    have hr1 := Lib.hid (HR.out.next hb1)
    have hf1 := Lib.hid (IF.out.next hb1)
    clear hb1
    go_wp2_with (fail)
    refine (madeRn_any _ m (nu Z e) _ _ _ _ _ _ hm hm' w1 (making_rn w1 hr1.out hf1.out HN.out)).mono ?_
    rintro e2 w2 ⟨v2, rfl, hn2, hb2⟩
    obtain ⟨C1, l1, k1, C2, l2, k2, rfl, q1, q2, q3⟩ := hn2.outB (sqR hm') tabZ_len tabZ_len
    have Q1 := Lib.hid q1
    have Q2 := Lib.hid q2
    have Q3 := Lib.hid q3
    clear hn2 q1 q2 q3
    have KZ2 := Lib.hid (KZ1.out.below hb2 KZ1.out.lt)
    have BW2 := Lib.hid (BW1.out.trans (hb2.mono BW1.out.size))
    have z02 := KZ2.out.cell 0
    have z12 := KZ2.out.cell 1
    have z22 := KZ2.out.cell 2
    have z32 := KZ2.out.cell 3
    have fz02 := KZ2.out.frozen 0
    have fz12 := KZ2.out.frozen 1
    have fz22 := KZ2.out.frozen 2
    have fz32 := KZ2.out.frozen 3
    simp at z02 z12 z22 z32
    clear hb2
    go_wp2_with (fail)
    refine bodyPost_ret (v := .tuple #[.agg #[.int .i64 (m : Int), .int .i64 ((nu Z e : Nat) : Int), .slice C1 l1 k1, .slice C2 l2 k2], .bool true]) ?_ rfl ⟨_, rfl, ?_, store4_below BW2.out (by omega)⟩
    · exact results_cell_flag rfl _ _ (w.heap.size + 1) 28 _ _ _ rfl rfl (store4_blk KZ2.out) Try.underlying28 rfl (by kernel_rfl)
    · exact RingOutB.lower (store4_outB ⟨C1, l1, k1, C2, l2, k2, rfl, Q1.out, Q2.out, Q3.out⟩ (show w.heap.size + 1 < w1.heap.size from KZ1.out.lt)) BW1.out.size

end Go.Proofs.Ytocoegekdamlbaa
