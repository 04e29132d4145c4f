
import Derived.Test.YtajoimopahibcaaLWH
import Derived.Test.YtajoimopahibcaaLEK
import Derived.Test.YtajoimopahibcaaMR
import Derived.Test.YtajoimopahibcaaMS
import Derived.Test.YtajoimopahibcaaMO
import Derived.Test.YtajoimopahibcaaMH
/- The walk of the law FnPush. -/
namespace Go.Proofs.Ytajoimopahibcaa
open Go.RowKit
set_option maxRecDepth 100000

theorem eqL_own_PU {xs : List Int} : eqL xs xs = true := eqL_true rfl fun _ _ => rfl
set_option maxHeartbeats 16000000 in
theorem fnPush_walk (A : Option Addr) (n c : Nat) (w : World) (hb : Byts w w.heap.size A n) (hc : n ≤ c) (hc2 : c ≤ 9223372036854775807) :
    Calls Try.prog 4 #[.slice A n c] w fun e w' => e = .returned (.bool true) ∧ Below w.heap.size w w' := by
  by_cases hbig : n > 1048576
  · have t0 : decide ((n : Int) > 1048576) = true := by simp; omega
    go_enter Try.func4, Try.ntmps4
    go_wp2_with (fail)
    go_ret
    exact ⟨rfl, Below.refl _ _⟩
  have hn : n ≤ 1048576 := by omega
  have t0 : decide ((n : Int) > 1048576) = false := by simp; omega
  go_enter Try.func4, Try.ntmps4
  go_wp2_with (fail)
  refine (drawPushIdeal_any A n c w hb hn hc hc2).mono ?_
  rintro e w_0 ⟨v, v1, v2, rfl, hA, ⟨L, hF, hfl⟩, ⟨K, hG, hgl⟩, hb_0⟩
  obtain ⟨N, O, A1, A2, q, ca, cb, X, Y, rfl, hI, _, _⟩ := hA.rin
  obtain ⟨FA, nF, cF, rfl, _⟩ := id hF
  obtain ⟨GA, nG, cG, rfl, _⟩ := id hG
  clear hA
  have B0 := Lib.hid (hb_0)
  have F0 := Lib.hid (hF)
  have G0 := Lib.hid (hG)
  clear hb_0 hF hG
  obtain ⟨w_1, hV⟩ : ∃ V, World.alloc w_0 (.cells #[.int .i64 N, .int .i64 O, .slice A1 q ca, .slice A2 q cb] 25) = V := ⟨_, rfl⟩
  have hb_1 : Below (World.heap w_0).size w_0 w_1 := by subst hV; exact (Below.refl _ _).alloc (Nat.le_refl _) _
  obtain ⟨bR, hbx⟩ : ∃ b, b = (World.heap w_0).size := ⟨_, rfl⟩
  have KR1 := Lib.hid (show Blk w_1 bR 25 #[.int .i64 N, .int .i64 O, .slice A1 q ca, .slice A2 q cb] by subst hV hbx; exact Blk.new w_0 _ _)
  have B1 := Lib.hid (B0.out.trans (hb_1.mono B0.out.size))
  have F1 := Lib.hid (F0.out.next hb_1)
  have G1 := Lib.hid (G0.out.next hb_1)
  have IR1 := Lib.hid (hI.next hb_1)
  clear hb_1 hI
  go_upto_region 4 with (fail)
  rw [← hbx]
  clear hV hbx
  have cR0 := KR1.out.cell 0
  have cR1 := KR1.out.cell 1
  have cR2 := KR1.out.cell 2
  have cR3 := KR1.out.cell 3
  simp at cR0 cR1 cR2 cR3
  go_wp2_with (fail)
  refine (psh_any N O (A1) (A2) (FA) (GA) q ca q cb nF nG cF cG X Y (L) (K) _ IR1.out.hX IR1.out.hY F1.out.at_.1 G1.out.at_.1 IR1.out.hla IR1.out.hlb (by have := F1.out.at_.2.2; omega) (by have := G1.out.at_.2.2; omega) IR1.out.hca IR1.out.hcb).mono ?_
  rintro e w_2 ⟨v, rfl, hv, hb_2⟩
  have hv0 := hv
  obtain ⟨A3, l3, c3, rfl, _⟩ := hv0
  clear cR0 cR1 cR2 cR3
  have B2 := Lib.hid (B1.out.trans (hb_2.mono B1.out.size))
  have F2 := Lib.hid (F1.out.next hb_2)
  have G2 := Lib.hid (G1.out.next hb_2)
  have KR2 := Lib.hid (KR1.out.next hb_2)
  have IR2 := Lib.hid (IR1.out.next hb_2)
  have U2 := Lib.hid (hv)
  clear hb_2 hv
  have cR0 := KR2.out.cell 0
  have cR1 := KR2.out.cell 1
  have cR2 := KR2.out.cell 2
  have cR3 := KR2.out.cell 3
  simp at cR0 cR1 cR2 cR3
  go_wp2_with (fail)
  refine (spsh_any N O (A1) (A2) (FA) (GA) q ca q cb nF nG cF cG X Y (L) (K) _ IR2.out.hX IR2.out.hY F2.out.at_.1 G2.out.at_.1 IR2.out.hla IR2.out.hlb (by have := F2.out.at_.2.2; omega) (by have := G2.out.at_.2.2; omega) IR2.out.hca IR2.out.hcb).mono ?_
  rintro e w_3 ⟨v, rfl, hv, hb_3⟩
  have hv0 := hv
  obtain ⟨A4, l4, c4, rfl, _⟩ := hv0
  clear cR0 cR1 cR2 cR3
  have B3 := Lib.hid (B2.out.trans (hb_3.mono B2.out.size))
  have F3 := Lib.hid (F2.out.next hb_3)
  have G3 := Lib.hid (G2.out.next hb_3)
  have KR3 := Lib.hid (KR2.out.next hb_3)
  have IR3 := Lib.hid (IR2.out.next hb_3)
  have U3 := Lib.hid (U2.out.next hb_3)
  have T3 := Lib.hid (hv)
  clear hb_3 hv
  cases hok : twoI N O X Y L K
  · skip
    go_wp2_with (fail)
    refine (frSame_any (A3) (A4) l3 l4 c3 c4 _ _ _ _ _ U3.out.at_.1 T3.out.at_.1 (by have := U3.out.at_.2.2; omega) (by have := T3.out.at_.2.2; omega)).mono ?_
    rw [eqL_own_PU]
    rintro e w_4 ⟨rfl, hb_4⟩
    have B4 := Lib.hid (B3.out.trans (hb_4.mono B3.out.size))
    have F4 := Lib.hid (F3.out.next hb_4)
    have G4 := Lib.hid (G3.out.next hb_4)
    have KR4 := Lib.hid (KR3.out.next hb_4)
    have IR4 := Lib.hid (IR3.out.next hb_4)
    have U4 := Lib.hid (U3.out.next hb_4)
    have T4 := Lib.hid (T3.out.next hb_4)
    clear hb_4
    go_wp2_with (fail)
    refine (frSame_any (A3) (A4) l3 l4 c3 c4 _ _ _ _ _ U4.out.at_.1 T4.out.at_.1 (by have := U4.out.at_.2.2; omega) (by have := T4.out.at_.2.2; omega)).mono ?_
    rw [eqL_own_PU]
    rintro e w_5 ⟨rfl, hb_5⟩
    have B5 := Lib.hid (B4.out.trans (hb_5.mono B4.out.size))
    have F5 := Lib.hid (F4.out.next hb_5)
    have G5 := Lib.hid (G4.out.next hb_5)
    have KR5 := Lib.hid (KR4.out.next hb_5)
    have IR5 := Lib.hid (IR4.out.next hb_5)
    have U5 := Lib.hid (U4.out.next hb_5)
    have T5 := Lib.hid (T4.out.next hb_5)
    clear hb_5
    go_wp2_with (fail)
    go_ret
    exact ⟨rfl, B5.out⟩
  · skip
    go_wp2_with (fail)
    refine (frSame_any (A3) (A4) l3 l4 c3 c4 _ _ _ _ _ U3.out.at_.1 T3.out.at_.1 (by have := U3.out.at_.2.2; omega) (by have := T3.out.at_.2.2; omega)).mono ?_
    rw [eqL_own_PU]
    rintro e w_4 ⟨rfl, hb_4⟩
    have B4 := Lib.hid (B3.out.trans (hb_4.mono B3.out.size))
    have F4 := Lib.hid (F3.out.next hb_4)
    have G4 := Lib.hid (G3.out.next hb_4)
    have KR4 := Lib.hid (KR3.out.next hb_4)
    have IR4 := Lib.hid (IR3.out.next hb_4)
    have U4 := Lib.hid (U3.out.next hb_4)
    have T4 := Lib.hid (T3.out.next hb_4)
    clear hb_4
    obtain ⟨m, e, b1, o1, b2, o2, rfl, rfl, rfl, rfl, hr, _, lX, lY, gX, gY⟩ := valid_data (ide_data (isId_ide (two_data hok).1)).1 IR4.out.hX IR4.out.hY IR4.out.hca IR4.out.hcb
    have hm := hr.hm
    have hm' := hr.hm'
    obtain ⟨hE1, hE2, hE3, hE4, hE5, hE6, hE7⟩ := push_law hok hm'
    obtain ⟨A1, hA1⟩ : ∃ x, pshL m e X Y L K = x := ⟨_, rfl⟩
    obtain ⟨S1, hS1⟩ : ∃ x, sumL m e X Y L K = x := ⟨_, rfl⟩
    obtain ⟨n1, hn1⟩ : ∃ x, quN m e X Y L = x := ⟨_, rfl⟩
    obtain ⟨p1, hp1⟩ : ∃ x, quO m e X Y L = x := ⟨_, rfl⟩
    obtain ⟨X1, hX1⟩ : ∃ x, quS m e X Y L = x := ⟨_, rfl⟩
    obtain ⟨Y1, hY1⟩ : ∃ x, quP m e X Y L = x := ⟨_, rfl⟩
    rw [hA1] at U4
    simp only [hA1, hS1, hn1, hp1, hX1, hY1] at hE1 hE2 hE3 hE4 hE5 hE6 hE7
    obtain ⟨n2, hn2⟩ : ∃ x, quN m e X Y S1 = x := ⟨_, rfl⟩
    obtain ⟨p2, hp2⟩ : ∃ x, quO m e X Y S1 = x := ⟨_, rfl⟩
    obtain ⟨X2, hX2⟩ : ∃ x, quS m e X Y S1 = x := ⟨_, rfl⟩
    obtain ⟨Y2, hY2⟩ : ∃ x, quP m e X Y S1 = x := ⟨_, rfl⟩
    simp only [hn2, hp2, hX2, hY2] at hE4 hE5 hE6 hE7
    have HE1 := Lib.hid hE1
    have HE2 := Lib.hid hE2
    have HE3 := Lib.hid hE3
    have HE4 := Lib.hid hE4
    have HE5 := Lib.hid hE5
    have HE6 := Lib.hid hE6
    have HE7 := Lib.hid hE7
    have HS1 := Lib.hid hS1
    have Hn1 := Lib.hid hn1
    have Hp1 := Lib.hid hp1
    have HX1 := Lib.hid hX1
    have HY1 := Lib.hid hY1
    have Hn2 := Lib.hid hn2
    have Hp2 := Lib.hid hp2
    have HX2 := Lib.hid hX2
    have HY2 := Lib.hid hY2
    clear hok hr lX lY gX gY hA1 hE1 hE2 hE3 hE4 hE5 hE6 hE7 hS1 hn1 hp1 hX1 hY1 hn2 hp2 hX2 hY2
    have cR0 := KR4.out.cell 0
    have cR1 := KR4.out.cell 1
    have cR2 := KR4.out.cell 2
    have cR3 := KR4.out.cell 3
    simp at cR0 cR1 cR2 cR3
    go_wp2_with (fail)
    refine (lft_any m e (some ⟨b1, o1, none⟩) (some ⟨b2, o2, none⟩) (FA) (A3) q ca q cb nF l3 cF c3 X Y (L) (A1) _ IR4.out.hX IR4.out.hY F4.out.at_.1 U4.out.at_.1 IR4.out.hla IR4.out.hlb (by have := F4.out.at_.2.2; omega) (by have := U4.out.at_.2.2; omega) IR4.out.hca IR4.out.hcb).mono ?_
    rw [HE2.out]
    rw [HE3.out]
    rintro e w_5 ⟨v, rfl, hv, hb_5⟩
    have hv0 := hv
    obtain ⟨A5, l5, c5, rfl, _⟩ := hv0
    clear cR0 cR1 cR2 cR3
    have B5 := Lib.hid (B4.out.trans (hb_5.mono B4.out.size))
    have F5 := Lib.hid (F4.out.next hb_5)
    have G5 := Lib.hid (G4.out.next hb_5)
    have KR5 := Lib.hid (KR4.out.next hb_5)
    have IR5 := Lib.hid (IR4.out.next hb_5)
    have U5 := Lib.hid (U4.out.next hb_5)
    have T5 := Lib.hid (T4.out.next hb_5)
    have V5 := Lib.hid (hv)
    clear hb_5 hv
    have cR0 := KR5.out.cell 0
    have cR1 := KR5.out.cell 1
    have cR2 := KR5.out.cell 2
    have cR3 := KR5.out.cell 3
    simp at cR0 cR1 cR2 cR3
    go_wp2_with (fail)
    refine (sumI_any m e (some ⟨b1, o1, none⟩) (some ⟨b2, o2, none⟩) (FA) (GA) q ca q cb nF nG cF cG X Y (L) (K) _ IR5.out.hX IR5.out.hY F5.out.at_.1 G5.out.at_.1 IR5.out.hla IR5.out.hlb (by have := F5.out.at_.2.2; omega) (by have := G5.out.at_.2.2; omega) IR5.out.hca IR5.out.hcb).mono ?_
    rw [HS1.out]
    rintro e w_6 ⟨v, rfl, hv, hb_6⟩
    have hv0 := hv
    obtain ⟨A6, l6, c6, rfl, _⟩ := hv0
    clear cR0 cR1 cR2 cR3
    have B6 := Lib.hid (B5.out.trans (hb_6.mono B5.out.size))
    have F6 := Lib.hid (F5.out.next hb_6)
    have G6 := Lib.hid (G5.out.next hb_6)
    have KR6 := Lib.hid (KR5.out.next hb_6)
    have IR6 := Lib.hid (IR5.out.next hb_6)
    have U6 := Lib.hid (U5.out.next hb_6)
    have T6 := Lib.hid (T5.out.next hb_6)
    have V6 := Lib.hid (V5.out.next hb_6)
    have S6 := Lib.hid (hv)
    clear hb_6 hv
    have cR0 := KR6.out.cell 0
    have cR1 := KR6.out.cell 1
    have cR2 := KR6.out.cell 2
    have cR3 := KR6.out.cell 3
    simp at cR0 cR1 cR2 cR3
    go_wp2_with (fail)
    refine (quo_any m e (some ⟨b1, o1, none⟩) (some ⟨b2, o2, none⟩) (FA) q ca q cb nF cF X Y (L) _ IR6.out.hX IR6.out.hY F6.out.at_.1 IR6.out.hla IR6.out.hlb (by have := F6.out.at_.2.2; omega) IR6.out.hca IR6.out.hcb).mono ?_
    rw [Hn1.out, Hp1.out, HX1.out, HY1.out]
    rintro e w_7 ⟨v, u8, rfl, hv, _, _, hb_7⟩
    obtain ⟨A8, A9, l8, c8, l9, c9, rfl, hI⟩ := RingOutB.rin hv
    clear hv
    clear cR0 cR1 cR2 cR3
    have B7 := Lib.hid (B6.out.trans (hb_7.mono B6.out.size))
    have F7 := Lib.hid (F6.out.next hb_7)
    have G7 := Lib.hid (G6.out.next hb_7)
    have KR7 := Lib.hid (KR6.out.next hb_7)
    have IR7 := Lib.hid (IR6.out.next hb_7)
    have U7 := Lib.hid (U6.out.next hb_7)
    have T7 := Lib.hid (T6.out.next hb_7)
    have V7 := Lib.hid (V6.out.next hb_7)
    have S7 := Lib.hid (S6.out.next hb_7)
    clear hb_7
    obtain ⟨w_8, hV⟩ : ∃ V, World.alloc w_7 (.cells #[.int .i64 n1, .int .i64 p1, .slice A8 l8 c8, .slice A9 l9 c9] 25) = V := ⟨_, rfl⟩
    have hb_8 : Below (World.heap w_7).size w_7 w_8 := by subst hV; exact (Below.refl _ _).alloc (Nat.le_refl _) _
    obtain ⟨bQ, hbx⟩ : ∃ b, b = (World.heap w_7).size := ⟨_, rfl⟩
    have KQ8 := Lib.hid (show Blk w_8 bQ 25 #[.int .i64 n1, .int .i64 p1, .slice A8 l8 c8, .slice A9 l9 c9] by subst hV hbx; exact Blk.new w_7 _ _)
    have B8 := Lib.hid (B7.out.trans (hb_8.mono B7.out.size))
    have F8 := Lib.hid (F7.out.next hb_8)
    have G8 := Lib.hid (G7.out.next hb_8)
    have KR8 := Lib.hid (KR7.out.next hb_8)
    have IR8 := Lib.hid (IR7.out.next hb_8)
    have U8 := Lib.hid (U7.out.next hb_8)
    have T8 := Lib.hid (T7.out.next hb_8)
    have V8 := Lib.hid (V7.out.next hb_8)
    have S8 := Lib.hid (S7.out.next hb_8)
    have IQ8 := Lib.hid (hI.next hb_8)
    clear hb_8 hI
    go_upto_region 11 with (fail)
    rw [← hbx]
    clear hV hbx
    have cQ0 := KQ8.out.cell 0
    have cQ1 := KQ8.out.cell 1
    have cQ2 := KQ8.out.cell 2
    have cQ3 := KQ8.out.cell 3
    simp at cQ0 cQ1 cQ2 cQ3
    go_wp2_with (fail)
    refine (quo_any n1 p1 (A8) (A9) (A3) l8 c8 l9 c9 l3 c3 X1 Y1 (A1) _ IQ8.out.hX IQ8.out.hY U8.out.at_.1 IQ8.out.hla IQ8.out.hlb (by have := U8.out.at_.2.2; omega) IQ8.out.hca IQ8.out.hcb).mono ?_
    rw [HE4.out, HE5.out, HE6.out, HE7.out]
    rintro e w_9 ⟨v, u11, rfl, hv, _, _, hb_9⟩
    obtain ⟨A11, A12, l11, c11, l12, c12, rfl, hI⟩ := RingOutB.rin hv
    clear hv
    clear cQ0 cQ1 cQ2 cQ3
    have B9 := Lib.hid (B8.out.trans (hb_9.mono B8.out.size))
    have F9 := Lib.hid (F8.out.next hb_9)
    have G9 := Lib.hid (G8.out.next hb_9)
    have KR9 := Lib.hid (KR8.out.next hb_9)
    have IR9 := Lib.hid (IR8.out.next hb_9)
    have U9 := Lib.hid (U8.out.next hb_9)
    have T9 := Lib.hid (T8.out.next hb_9)
    have V9 := Lib.hid (V8.out.next hb_9)
    have S9 := Lib.hid (S8.out.next hb_9)
    have KQ9 := Lib.hid (KQ8.out.next hb_9)
    have IQ9 := Lib.hid (IQ8.out.next hb_9)
    clear hb_9
    obtain ⟨w_10, hV⟩ : ∃ V, World.alloc w_9 (.cells #[.int .i64 n2, .int .i64 p2, .slice A11 l11 c11, .slice A12 l12 c12] 25) = V := ⟨_, rfl⟩
    have hb_10 : Below (World.heap w_9).size w_9 w_10 := by subst hV; exact (Below.refl _ _).alloc (Nat.le_refl _) _
    obtain ⟨bV, hbx⟩ : ∃ b, b = (World.heap w_9).size := ⟨_, rfl⟩
    have KV10 := Lib.hid (show Blk w_10 bV 25 #[.int .i64 n2, .int .i64 p2, .slice A11 l11 c11, .slice A12 l12 c12] by subst hV hbx; exact Blk.new w_9 _ _)
    have B10 := Lib.hid (B9.out.trans (hb_10.mono B9.out.size))
    have F10 := Lib.hid (F9.out.next hb_10)
    have G10 := Lib.hid (G9.out.next hb_10)
    have KR10 := Lib.hid (KR9.out.next hb_10)
    have IR10 := Lib.hid (IR9.out.next hb_10)
    have U10 := Lib.hid (U9.out.next hb_10)
    have T10 := Lib.hid (T9.out.next hb_10)
    have V10 := Lib.hid (V9.out.next hb_10)
    have S10 := Lib.hid (S9.out.next hb_10)
    have KQ10 := Lib.hid (KQ9.out.next hb_10)
    have IQ10 := Lib.hid (IQ9.out.next hb_10)
    have IV10 := Lib.hid (hI.next hb_10)
    clear hb_10 hI
    go_upto_region 12 with (fail)
    rw [← hbx]
    clear hV hbx
    have cR0 := KR10.out.cell 0
    have cR1 := KR10.out.cell 1
    have cR2 := KR10.out.cell 2
    have cR3 := KR10.out.cell 3
    simp at cR0 cR1 cR2 cR3
    go_wp2_with (fail)
    refine (quo_any m e (some ⟨b1, o1, none⟩) (some ⟨b2, o2, none⟩) (A6) q ca q cb l6 c6 X Y (S1) _ IR10.out.hX IR10.out.hY S10.out.at_.1 IR10.out.hla IR10.out.hlb (by have := S10.out.at_.2.2; omega) IR10.out.hca IR10.out.hcb).mono ?_
    rw [Hn2.out, Hp2.out, HX2.out, HY2.out]
    rintro e w_11 ⟨v, u14, rfl, hv, _, _, hb_11⟩
    obtain ⟨A14, A15, l14, c14, l15, c15, rfl, hI⟩ := RingOutB.rin hv
    clear hv
    clear cR0 cR1 cR2 cR3
    have B11 := Lib.hid (B10.out.trans (hb_11.mono B10.out.size))
    have F11 := Lib.hid (F10.out.next hb_11)
    have G11 := Lib.hid (G10.out.next hb_11)
    have KR11 := Lib.hid (KR10.out.next hb_11)
    have IR11 := Lib.hid (IR10.out.next hb_11)
    have U11 := Lib.hid (U10.out.next hb_11)
    have T11 := Lib.hid (T10.out.next hb_11)
    have V11 := Lib.hid (V10.out.next hb_11)
    have S11 := Lib.hid (S10.out.next hb_11)
    have KQ11 := Lib.hid (KQ10.out.next hb_11)
    have IQ11 := Lib.hid (IQ10.out.next hb_11)
    have KV11 := Lib.hid (KV10.out.next hb_11)
    have IV11 := Lib.hid (IV10.out.next hb_11)
    clear hb_11
    obtain ⟨w_12, hV⟩ : ∃ V, World.alloc w_11 (.cells #[.int .i64 n2, .int .i64 p2, .slice A14 l14 c14, .slice A15 l15 c15] 25) = V := ⟨_, rfl⟩
    have hb_12 : Below (World.heap w_11).size w_11 w_12 := by subst hV; exact (Below.refl _ _).alloc (Nat.le_refl _) _
    obtain ⟨bW, hbx⟩ : ∃ b, b = (World.heap w_11).size := ⟨_, rfl⟩
    have KW12 := Lib.hid (show Blk w_12 bW 25 #[.int .i64 n2, .int .i64 p2, .slice A14 l14 c14, .slice A15 l15 c15] by subst hV hbx; exact Blk.new w_11 _ _)
    have B12 := Lib.hid (B11.out.trans (hb_12.mono B11.out.size))
    have F12 := Lib.hid (F11.out.next hb_12)
    have G12 := Lib.hid (G11.out.next hb_12)
    have KR12 := Lib.hid (KR11.out.next hb_12)
    have IR12 := Lib.hid (IR11.out.next hb_12)
    have U12 := Lib.hid (U11.out.next hb_12)
    have T12 := Lib.hid (T11.out.next hb_12)
    have V12 := Lib.hid (V11.out.next hb_12)
    have S12 := Lib.hid (S11.out.next hb_12)
    have KQ12 := Lib.hid (KQ11.out.next hb_12)
    have IQ12 := Lib.hid (IQ11.out.next hb_12)
    have KV12 := Lib.hid (KV11.out.next hb_12)
    have IV12 := Lib.hid (IV11.out.next hb_12)
    have IW12 := Lib.hid (hI.next hb_12)
    clear hb_12 hI
    go_upto_region 13 with (fail)
    rw [← hbx]
    clear hV hbx
    have cQ0 := KQ12.out.cell 0
    have cQ1 := KQ12.out.cell 1
    have cQ2 := KQ12.out.cell 2
    have cQ3 := KQ12.out.cell 3
    have cV0 := KV12.out.cell 0
    have cV1 := KV12.out.cell 1
    have cV2 := KV12.out.cell 2
    have cV3 := KV12.out.cell 3
    have cW0 := KW12.out.cell 0
    have cW1 := KW12.out.cell 1
    have cW2 := KW12.out.cell 2
    have cW3 := KW12.out.cell 3
    simp at cQ0 cQ1 cQ2 cQ3 cV0 cV1 cV2 cV3 cW0 cW1 cW2 cW3
    have tn : (n2 == n2) = true := by simp
    go_wp2_with (fail)
    refine (isId_any n1 p1 (A8) (A9) (A3) l8 c8 l9 c9 l3 c3 X1 Y1 (A1) _ IQ12.out.hX IQ12.out.hY U12.out.at_.1 IQ12.out.hla IQ12.out.hlb (by have := U12.out.at_.2.2; omega) IQ12.out.hca IQ12.out.hcb).mono ?_
    rw [HE1.out]
    rintro e w_13 ⟨rfl, hb_13⟩
    clear cQ0 cQ1 cQ2 cQ3 cV0 cV1 cV2 cV3 cW0 cW1 cW2 cW3
    have B13 := Lib.hid (B12.out.trans (hb_13.mono B12.out.size))
    have F13 := Lib.hid (F12.out.next hb_13)
    have G13 := Lib.hid (G12.out.next hb_13)
    have KR13 := Lib.hid (KR12.out.next hb_13)
    have IR13 := Lib.hid (IR12.out.next hb_13)
    have U13 := Lib.hid (U12.out.next hb_13)
    have T13 := Lib.hid (T12.out.next hb_13)
    have V13 := Lib.hid (V12.out.next hb_13)
    have S13 := Lib.hid (S12.out.next hb_13)
    have KQ13 := Lib.hid (KQ12.out.next hb_13)
    have IQ13 := Lib.hid (IQ12.out.next hb_13)
    have KV13 := Lib.hid (KV12.out.next hb_13)
    have IV13 := Lib.hid (IV12.out.next hb_13)
    have KW13 := Lib.hid (KW12.out.next hb_13)
    have IW13 := Lib.hid (IW12.out.next hb_13)
    clear hb_13
    have cV0 := KV13.out.cell 0
    have cV1 := KV13.out.cell 1
    have cV2 := KV13.out.cell 2
    have cV3 := KV13.out.cell 3
    have cW0 := KW13.out.cell 0
    have cW1 := KW13.out.cell 1
    have cW2 := KW13.out.cell 2
    have cW3 := KW13.out.cell 3
    simp at cV0 cV1 cV2 cV3 cW0 cW1 cW2 cW3
    go_wp2_with (fail)
    refine (frSame_any (A5) (A6) l5 l6 c5 c6 _ _ _ _ _ V13.out.at_.1 S13.out.at_.1 (by have := V13.out.at_.2.2; omega) (by have := S13.out.at_.2.2; omega)).mono ?_
    rw [eqL_own_PU]
    rintro e w_14 ⟨rfl, hb_14⟩
    clear cV0 cV1 cV2 cV3 cW0 cW1 cW2 cW3
    have B14 := Lib.hid (B13.out.trans (hb_14.mono B13.out.size))
    have F14 := Lib.hid (F13.out.next hb_14)
    have G14 := Lib.hid (G13.out.next hb_14)
    have KR14 := Lib.hid (KR13.out.next hb_14)
    have IR14 := Lib.hid (IR13.out.next hb_14)
    have U14 := Lib.hid (U13.out.next hb_14)
    have T14 := Lib.hid (T13.out.next hb_14)
    have V14 := Lib.hid (V13.out.next hb_14)
    have S14 := Lib.hid (S13.out.next hb_14)
    have KQ14 := Lib.hid (KQ13.out.next hb_14)
    have IQ14 := Lib.hid (IQ13.out.next hb_14)
    have KV14 := Lib.hid (KV13.out.next hb_14)
    have IV14 := Lib.hid (IV13.out.next hb_14)
    have KW14 := Lib.hid (KW13.out.next hb_14)
    have IW14 := Lib.hid (IW13.out.next hb_14)
    clear hb_14
    have cV0 := KV14.out.cell 0
    have cV1 := KV14.out.cell 1
    have cV2 := KV14.out.cell 2
    have cV3 := KV14.out.cell 3
    have cW0 := KW14.out.cell 0
    have cW1 := KW14.out.cell 1
    have cW2 := KW14.out.cell 2
    have cW3 := KW14.out.cell 3
    simp at cV0 cV1 cV2 cV3 cW0 cW1 cW2 cW3
    go_wp2_with (fail)
    refine (c_frRing IV14.out IW14.out true sameB_self).mono ?_
    rintro e w_15 ⟨rfl, hb_15⟩
    have HB15 := Lib.hid hb_15
    clear cV0 cV1 cV2 cV3 cW0 cW1 cW2 cW3
    have B15 := Lib.hid (B14.out.trans (hb_15.mono B14.out.size))
    have F15 := Lib.hid (F14.out.next hb_15)
    have G15 := Lib.hid (G14.out.next hb_15)
    have KR15 := Lib.hid (KR14.out.next hb_15)
    have IR15 := Lib.hid (IR14.out.next hb_15)
    have U15 := Lib.hid (U14.out.next hb_15)
    have T15 := Lib.hid (T14.out.next hb_15)
    have V15 := Lib.hid (V14.out.next hb_15)
    have S15 := Lib.hid (S14.out.next hb_15)
    have KQ15 := Lib.hid (KQ14.out.next hb_15)
    have IQ15 := Lib.hid (IQ14.out.next hb_15)
    have KV15 := Lib.hid (KV14.out.next hb_15)
    have IV15 := Lib.hid (IV14.out.next hb_15)
    have KW15 := Lib.hid (KW14.out.next hb_15)
    have IW15 := Lib.hid (IW14.out.next hb_15)
    clear hb_15
    go_wp2_with (fail)
    go_ret
    exact ⟨rfl, B15.out⟩

end Go.Proofs.Ytajoimopahibcaa

