/- The walk of the law FnExactParseRing, whatever the function hands back, if both sides hand back the same. -/
import Derived.Test.YtplligjoegjngaaR0
import Derived.Deep.Cut
namespace Go.Proofs.Ytplligjoegjngaa
open Go.RowKit
set_option maxRecDepth 100000

set_option maxHeartbeats 4000000 in
theorem fnExactParseRing_walk (s : ByteArray) (n o : Int) (ok : Bool) (X Y : List Int) (w : World)
    (hS0 : s.size ≤ 1048576 → ∀ w, Calls Try.prog 44 #[.string s] w fun e w' => ∃ v, e = .returned (.tuple #[v, .bool ok]) ∧ RingOut w.heap.size w' v n o X Y ∧ Below w.heap.size w w')
    (hI0 : s.size ≤ 1048576 → ∀ w, Calls Try.prog 45 #[.string s] w fun e w' => ∃ v, e = .returned (.tuple #[v, .bool ok]) ∧ RingOut w.heap.size w' v n o X Y ∧ Below w.heap.size w w') :
    Calls Try.prog 11 #[.string s] w fun e w' => e = .returned (.bool true) ∧ Below w.heap.size w w' := by
  by_cases hz : (s.size : Int) ≤ 1048576
  · have hS := Lib.hid (hS0 (by omega))
    have hI := Lib.hid (hI0 (by omega))
    clear hS0 hI0
    go_enter Try.func11, Try.ntmps11
    go_wp2_with (fail)
    refine (hS.out _).mono ?_
    rintro e1 w1 ⟨v1, rfl, ⟨A, la, ca, B, lb, cb, rfl, oA, oB, _, l1, l2, l3, _, _⟩, hb1⟩
    have OA := Lib.hid oA
    have OB := Lib.hid oB
    have H1 := Lib.hid hb1
    clear oA oB hb1
    go_wp2_with (fail)
    obtain ⟨W1, hW1⟩ : ∃ W1, w1.alloc (.cells #[.int .i64 n, .int .i64 o, .slice A la ca, .slice B lb cb] 24) = W1 := ⟨_, rfl⟩
    have kW1 : Blk W1 w1.heap.size 24 #[.int .i64 n, .int .i64 o, .slice A la ca, .slice B lb cb] := by subst hW1; exact Blk.new w1 _ _
    have bW1 : Below w1.heap.size w1 W1 := by subst hW1; exact (Below.refl _ _).alloc (Nat.le_refl _) _
    rw [hW1]
    clear hW1
    have KW1 := Lib.hid kW1
    have BW1 := Lib.hid bW1
    have sW1 := kW1.lt
    clear kW1 bW1
    have IA := Lib.hid (OA.out.ints.next BW1.out)
    have IB := Lib.hid (OB.out.ints.next BW1.out)
    refine (hI.out _).mono ?_
    rintro e2 w2 ⟨v2, rfl, ⟨A', la', ca', B', lb', cb', rfl, oA', oB', ap', _, _, _, _, _⟩, hb2⟩
    have ela : la' = la := by rw [← oA'.1, OA.out.1]
    have elb : lb' = lb := by rw [← oB'.1, OB.out.1]
    subst ela
    subst elb
    have PA := Lib.hid oA'
    have PB := Lib.hid oB'
    have AP := Lib.hid ap'
    have H2 := Lib.hid hb2
    have s2 := hb2.size
    clear oA' oB' ap' hb2
    go_upto_region 5 with (fail)
    obtain ⟨W2, hW2⟩ : ∃ W2, w2.alloc (.cells #[.int .i64 n, .int .i64 o, .slice A' la' ca', .slice B' lb' cb'] 24) = W2 := ⟨_, rfl⟩
    have kW2 : Blk W2 w2.heap.size 24 #[.int .i64 n, .int .i64 o, .slice A' la' ca', .slice B' lb' cb'] := by subst hW2; exact Blk.new w2 _ _
    have bW2 : Below w2.heap.size w2 W2 := by subst hW2; exact (Below.refl _ _).alloc (Nat.le_refl _) _
    rw [hW2]
    clear hW2
    have KW2 := Lib.hid kW2
    have BW2 := Lib.hid bW2
    have sW2 := kW2.lt
    clear kW2 bW2
    have n1 : w1.heap.size < W2.heap.size := by omega
    have d0 := (KW1.out.below (H2.out.trans (BW2.out.mono s2)) sW1).cell 0
    have d1 := (KW1.out.below (H2.out.trans (BW2.out.mono s2)) sW1).cell 1
    have d2 := (KW1.out.below (H2.out.trans (BW2.out.mono s2)) sW1).cell 2
    have d3 := (KW1.out.below (H2.out.trans (BW2.out.mono s2)) sW1).cell 3
    have c0 := KW2.out.cell 0
    have c1 := KW2.out.cell 1
    have c2 := KW2.out.cell 2
    have c3 := KW2.out.cell 3
    simp at c0 c1 c2 c3 d0 d1 d2 d3
    go_wp2_with (fail)
    refine (eqRing_same n o A' B' A B la' ca' lb' cb' ca cb X Y W2 (PA.out.next BW2.out).ints (PB.out.next BW2.out).ints (IA.out.next (H2.out.trans (BW2.out.mono s2))) (IB.out.next (H2.out.trans (BW2.out.mono s2))) (by omega) (by omega)).mono ?_
    rintro e3 w3 ⟨rfl, hb3⟩
    clear c0 c1 c2 c3 d0 d1 d2 d3
    have H3 := Lib.hid hb3
    have s3 := hb3.size
    have QA := Lib.hid ((PA.out.next BW2.out).next hb3)
    have QB := Lib.hid ((PB.out.next BW2.out).next hb3)
    have k3 := KW2.out.below hb3 sW2
    have c0 := k3.cell 0
    have c1 := k3.cell 1
    have c2 := k3.cell 2
    have c3 := k3.cell 3
    simp at c0 c1 c2 c3
    clear hb3 k3
    have tt : (ok != ok) = false := by simp
    go_wp2_with (fail)
    refine (markRing_any n o A' B' la' ca' lb' cb' X Y 1 w3 W1.heap.size QA.out QB.out AP.out (by omega) (by omega) (by omega) (by omega) (by omega)).mono ?_
    rintro e4 w4 ⟨rfl, mA, mB, keep, hb4⟩
    have lo : ∀ k, ¬ InS A' la' ⟨w2.heap.size, k, none⟩ := own_not_new PA.out
    have lo2 : ∀ k, ¬ InS B' lb' ⟨w2.heap.size, k, none⟩ := own_not_new PB.out
    have q0 := (keep ⟨w2.heap.size, 0, none⟩ (Nat.lt_of_lt_of_le sW2 s3) (lo 0) (lo2 0)).1.trans c0
    have q1 := (keep ⟨w2.heap.size, 1, none⟩ (Nat.lt_of_lt_of_le sW2 s3) (lo 1) (lo2 1)).1.trans c1
    have q2 := (keep ⟨w2.heap.size, 2, none⟩ (Nat.lt_of_lt_of_le sW2 s3) (lo 2) (lo2 2)).1.trans c2
    have q3 := (keep ⟨w2.heap.size, 3, none⟩ (Nat.lt_of_lt_of_le sW2 s3) (lo 3) (lo2 3)).1.trans c3
    have s4 := hb4.size
    have H4 := Lib.hid hb4
    have MA := Lib.hid mA
    have MB := Lib.hid mB
    clear c0 c1 c2 c3 lo lo2 keep hb4 mA mB
    go_wp2_with (fail)
    refine (heldRing_any n o A' B' la' ca' lb' cb' (markL X la' 1 la') (markL Y lb' (1 + la') lb') 1 w4 MA.out.ints MB.out.ints held_mark held_mark (by omega) (by omega) (by omega) (by omega)).mono ?_
    rintro e5 w5 ⟨rfl, hb5⟩
    have H5 := Lib.hid hb5
    have s5 := hb5.size
    have n4 : w2.heap.size < w4.heap.size := by omega
    have g0 := (hb5.cell (p := ⟨w2.heap.size, 0, none⟩) n4).trans q0
    have g1 := (hb5.cell (p := ⟨w2.heap.size, 1, none⟩) n4).trans q1
    have g2 := (hb5.cell (p := ⟨w2.heap.size, 2, none⟩) n4).trans q2
    have g3 := (hb5.cell (p := ⟨w2.heap.size, 3, none⟩) n4).trans q3
    clear hb5 q0 q1 q2 q3
    have tn : ((1 : Int) + la' + lb' != 1 + la' + lb') = false := by simp
    go_wp2_with (fail)
    refine (hI.out _).mono ?_
    rintro e6 w6 ⟨v6, rfl, ⟨A2, la2, ca2, B2, lb2, cb2, rfl, oA2, oB2, _, _, _, _, _, _⟩, hb6⟩
    have ela2 : la2 = la' := by rw [← oA2.1, PA.out.1]
    have elb2 : lb2 = lb' := by rw [← oB2.1, PB.out.1]
    subst ela2
    subst elb2
    have RA := Lib.hid oA2
    have RB := Lib.hid oB2
    have H6 := Lib.hid hb6
    have s6 := hb6.size
    clear oA2 oB2 hb6
    go_upto_region 16 with (fail)
    obtain ⟨W6, hW6⟩ : ∃ W6, w6.alloc (.cells #[.int .i64 n, .int .i64 o, .slice A2 la2 ca2, .slice B2 lb2 cb2] 24) = W6 := ⟨_, rfl⟩
    have kW6 : Blk W6 w6.heap.size 24 #[.int .i64 n, .int .i64 o, .slice A2 la2 ca2, .slice B2 lb2 cb2] := by subst hW6; exact Blk.new w6 _ _
    have bW6 : Below w6.heap.size w6 W6 := by subst hW6; exact (Below.refl _ _).alloc (Nat.le_refl _) _
    rw [hW6]
    clear hW6
    have KW6 := Lib.hid kW6
    have BW6 := Lib.hid bW6
    have sW6 := kW6.lt
    clear kW6 bW6
    have H16 := Lib.hid ((H2.out.trans (BW2.out.mono s2)).trans ((H3.out.mono (by omega)).trans (H4.out.trans ((H5.out.mono (by omega)).trans ((H6.out.mono (by omega)).trans (BW6.out.mono (by omega)))))))
    have d0 := (KW1.out.below H16.out sW1).cell 0
    have d1 := (KW1.out.below H16.out sW1).cell 1
    have d2 := (KW1.out.below H16.out sW1).cell 2
    have d3 := (KW1.out.below H16.out sW1).cell 3
    have c0 := KW6.out.cell 0
    have c1 := KW6.out.cell 1
    have c2 := KW6.out.cell 2
    have c3 := KW6.out.cell 3
    simp at c0 c1 c2 c3 d0 d1 d2 d3
    go_wp2_with (fail)
    refine (eqRing_same n o A2 B2 A B la2 ca2 lb2 cb2 ca cb X Y W6 (RA.out.next BW6.out).ints (RB.out.next BW6.out).ints (IA.out.next H16.out) (IB.out.next H16.out) (by omega) (by omega)).mono ?_
    rintro e7 w7 ⟨rfl, hb7⟩
    have H67 := Lib.hid ((H6.out.trans (BW6.out.mono s6)).trans (hb7.mono (by omega)))
    have H7 := Lib.hid hb7
    have s7 := hb7.size
    have n5 : w2.heap.size < w5.heap.size := by omega
    have f0 := (H67.out.cell (p := ⟨w2.heap.size, 0, none⟩) n5).trans g0
    have f1 := (H67.out.cell (p := ⟨w2.heap.size, 1, none⟩) n5).trans g1
    have f2 := (H67.out.cell (p := ⟨w2.heap.size, 2, none⟩) n5).trans g2
    have f3 := (H67.out.cell (p := ⟨w2.heap.size, 3, none⟩) n5).trans g3
    have NA := Lib.hid (((MA.out.next H5.out).next H67.out).ints)
    have NB := Lib.hid (((MB.out.next H5.out).next H67.out).ints)
    clear hb7 c0 c1 c2 c3 d0 d1 d2 d3 g0 g1 g2 g3
    go_wp2_with (fail)
    refine (heldRing_any n o A' B' la2 ca' lb2 cb' (markL X la2 1 la2) (markL Y lb2 (1 + la2) lb2) 1 w7 NA.out NB.out held_mark held_mark (by omega) (by omega) (by omega) (by omega)).mono ?_
    rintro e8 w8 ⟨rfl, hb8⟩
    have H8 := Lib.hid hb8
    clear hb8
    have tn2 : ((1 : Int) + la2 + lb2 != 1 + la2 + lb2) = false := by simp
    go_wp2
    go_ret
    have s1 := H1.out.size
    exact ⟨rfl, (H1.out.trans (BW1.out.mono s1)).trans ((H16.out.mono (by omega)).trans ((H7.out.mono (by omega)).trans (H8.out.mono (by omega))))⟩
  · clear hS0 hI0
    go_enter Try.func11, Try.ntmps11
    go_wp2
    go_ret
    exact ⟨rfl, Below.refl _ _⟩

end Go.Proofs.Ytplligjoegjngaa
