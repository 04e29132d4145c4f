
import Derived.Test.YtdhjcgbaaghnoaaLWH
import Derived.Test.YtdhjcgbaaghnoaaLEF
import Derived.Test.YtdhjcgbaaghnoaaMO
import Derived.Test.YtdhjcgbaaghnoaaMZ
import Derived.Test.YtdhjcgbaaghnoaaMH
/- The walk of the law FnColon. -/
namespace Go.Proofs.Ytdhjcgbaaghnoaa
open Go.RowKit
set_option maxRecDepth 100000

theorem eqL_own_CO {xs : List Int} : eqL xs xs = true := eqL_true rfl fun _ _ => rfl
set_option maxHeartbeats 16000000 in
theorem fnColon_walk (A : Option Addr) (n c : Nat) (w : World) (hb : Byts w w.heap.size A n) (hc : n ≤ c) (hc2 : c ≤ 9223372036854775807) :
    Calls Try.prog 10 #[.slice A n c] w fun e w' => e = .returned (.bool true) ∧ Below w.heap.size w w' := by
  by_cases hbig : n > 1048576
  · have t0 : decide ((n : Int) > 1048576) = true := by simp; omega
    go_enter Try.func10, Try.ntmps10
    go_wp2_with (fail)
    go_ret
    exact ⟨rfl, Below.refl _ _⟩
  have hn : n ≤ 1048576 := by omega
  have t0 : decide ((n : Int) > 1048576) = false := by simp; omega
  go_enter Try.func10, Try.ntmps10
  go_wp2_with (fail)
  refine (drawColonIdeal_any A n c w hb hn hc hc2).mono ?_
  rintro e w_0 ⟨v, v1, v2, rfl, hA, ⟨L, hF, hfl⟩, ⟨K, hG, hgl⟩, hb_0⟩
  obtain ⟨N, O, A1, A2, q, ca, cb, X, Y, rfl, hI, _, _⟩ := hA.rin
  obtain ⟨FA, nF, cF, rfl, _⟩ := id hF
  obtain ⟨GA, nG, cG, rfl, _⟩ := id hG
  clear hA
  have B0 := Lib.hid (hb_0)
  have F0 := Lib.hid (hF)
  have G0 := Lib.hid (hG)
  clear hb_0 hF hG
  obtain ⟨w_1, hV⟩ : ∃ V, World.alloc w_0 (.cells #[.int .i64 N, .int .i64 O, .slice A1 q ca, .slice A2 q cb] 27) = V := ⟨_, rfl⟩
  have hb_1 : Below (World.heap w_0).size w_0 w_1 := by subst hV; exact (Below.refl _ _).alloc (Nat.le_refl _) _
  obtain ⟨bR, hbx⟩ : ∃ b, b = (World.heap w_0).size := ⟨_, rfl⟩
  have KR1 := Lib.hid (show Blk w_1 bR 27 #[.int .i64 N, .int .i64 O, .slice A1 q ca, .slice A2 q cb] by subst hV hbx; exact Blk.new w_0 _ _)
  have B1 := Lib.hid (B0.out.trans (hb_1.mono B0.out.size))
  have F1 := Lib.hid (F0.out.next hb_1)
  have G1 := Lib.hid (G0.out.next hb_1)
  have IR1 := Lib.hid (hI.next hb_1)
  clear hb_1 hI
  go_upto_region 4 with (fail)
  rw [← hbx]
  clear hV hbx
  have cR0 := KR1.out.cell 0
  have cR1 := KR1.out.cell 1
  have cR2 := KR1.out.cell 2
  have cR3 := KR1.out.cell 3
  simp at cR0 cR1 cR2 cR3
  go_wp2_with (fail)
  refine (colI_any N O (A1) (A2) (FA) (GA) q ca q cb nF nG cF cG X Y (L) (K) _ IR1.out.hX IR1.out.hY F1.out.at_.1 G1.out.at_.1 IR1.out.hla IR1.out.hlb (by have := F1.out.at_.2.2; omega) (by have := G1.out.at_.2.2; omega) IR1.out.hca IR1.out.hcb).mono ?_
  rintro e w_2 ⟨v, rfl, hv, hb_2⟩
  have hv0 := hv
  obtain ⟨A3, l3, c3, rfl, _⟩ := hv0
  clear cR0 cR1 cR2 cR3
  have B2 := Lib.hid (B1.out.trans (hb_2.mono B1.out.size))
  have F2 := Lib.hid (F1.out.next hb_2)
  have G2 := Lib.hid (G1.out.next hb_2)
  have KR2 := Lib.hid (KR1.out.next hb_2)
  have IR2 := Lib.hid (IR1.out.next hb_2)
  have U2 := Lib.hid (hv)
  clear hb_2 hv
  have cR0 := KR2.out.cell 0
  have cR1 := KR2.out.cell 1
  have cR2 := KR2.out.cell 2
  have cR3 := KR2.out.cell 3
  simp at cR0 cR1 cR2 cR3
  go_wp2_with (fail)
  refine (scolI_any N O (A1) (A2) (FA) (GA) q ca q cb nF nG cF cG X Y (L) (K) _ IR2.out.hX IR2.out.hY F2.out.at_.1 G2.out.at_.1 IR2.out.hla IR2.out.hlb (by have := F2.out.at_.2.2; omega) (by have := G2.out.at_.2.2; omega) IR2.out.hca IR2.out.hcb).mono ?_
  rintro e w_3 ⟨v, rfl, hv, hb_3⟩
  have hv0 := hv
  obtain ⟨A4, l4, c4, rfl, _⟩ := hv0
  clear cR0 cR1 cR2 cR3
  have B3 := Lib.hid (B2.out.trans (hb_3.mono B2.out.size))
  have F3 := Lib.hid (F2.out.next hb_3)
  have G3 := Lib.hid (G2.out.next hb_3)
  have KR3 := Lib.hid (KR2.out.next hb_3)
  have IR3 := Lib.hid (IR2.out.next hb_3)
  have U3 := Lib.hid (U2.out.next hb_3)
  have T3 := Lib.hid (hv)
  clear hb_3 hv
  cases hok : twoI N O X Y L K
  · skip
    go_wp2_with (fail)
    refine (frSame_any (A3) (A4) l3 l4 c3 c4 _ _ _ _ _ U3.out.at_.1 T3.out.at_.1 (by have := U3.out.at_.2.2; omega) (by have := T3.out.at_.2.2; omega)).mono ?_
    rw [eqL_own_CO]
    rintro e w_4 ⟨rfl, hb_4⟩
    have B4 := Lib.hid (B3.out.trans (hb_4.mono B3.out.size))
    have F4 := Lib.hid (F3.out.next hb_4)
    have G4 := Lib.hid (G3.out.next hb_4)
    have KR4 := Lib.hid (KR3.out.next hb_4)
    have IR4 := Lib.hid (IR3.out.next hb_4)
    have U4 := Lib.hid (U3.out.next hb_4)
    have T4 := Lib.hid (T3.out.next hb_4)
    clear hb_4
    go_wp2_with (fail)
    refine (frSame_any (A3) (A4) l3 l4 c3 c4 _ _ _ _ _ U4.out.at_.1 T4.out.at_.1 (by have := U4.out.at_.2.2; omega) (by have := T4.out.at_.2.2; omega)).mono ?_
    rw [eqL_own_CO]
    rintro e w_5 ⟨rfl, hb_5⟩
    have B5 := Lib.hid (B4.out.trans (hb_5.mono B4.out.size))
    have F5 := Lib.hid (F4.out.next hb_5)
    have G5 := Lib.hid (G4.out.next hb_5)
    have KR5 := Lib.hid (KR4.out.next hb_5)
    have IR5 := Lib.hid (IR4.out.next hb_5)
    have U5 := Lib.hid (U4.out.next hb_5)
    have T5 := Lib.hid (T4.out.next hb_5)
    clear hb_5
    go_wp2_with (fail)
    go_ret
    exact ⟨rfl, B5.out⟩
  · skip
    go_wp2_with (fail)
    refine (frSame_any (A3) (A4) l3 l4 c3 c4 _ _ _ _ _ U3.out.at_.1 T3.out.at_.1 (by have := U3.out.at_.2.2; omega) (by have := T3.out.at_.2.2; omega)).mono ?_
    rw [eqL_own_CO]
    rintro e w_4 ⟨rfl, hb_4⟩
    have B4 := Lib.hid (B3.out.trans (hb_4.mono B3.out.size))
    have F4 := Lib.hid (F3.out.next hb_4)
    have G4 := Lib.hid (G3.out.next hb_4)
    have KR4 := Lib.hid (KR3.out.next hb_4)
    have IR4 := Lib.hid (IR3.out.next hb_4)
    have U4 := Lib.hid (U3.out.next hb_4)
    have T4 := Lib.hid (T3.out.next hb_4)
    clear hb_4
    obtain ⟨m, e, b1, o1, b2, o2, rfl, rfl, rfl, rfl, hr, _, lX, lY, gX, gY⟩ := valid_data (ide_data (isId_ide (two_data hok).1)).1 IR4.out.hX IR4.out.hY IR4.out.hca IR4.out.hcb
    have hm := hr.hm
    have hm' := hr.hm'
    obtain ⟨hE1, hE2, hE3, hE4⟩ := colon_law hok
    have HE1 := Lib.hid hE1
    have HE2 := Lib.hid hE2
    have HE3 := Lib.hid hE3
    have HE4 := Lib.hid hE4
    have HOK := Lib.hid hok
    clear hok hr lX lY gX gY hE1 hE2 hE3 hE4
    have cR0 := KR4.out.cell 0
    have cR1 := KR4.out.cell 1
    have cR2 := KR4.out.cell 2
    have cR3 := KR4.out.cell 3
    simp at cR0 cR1 cR2 cR3
    go_wp2_with (fail)
    refine (prdI_any m e (some ⟨b1, o1, none⟩) (some ⟨b2, o2, none⟩) (A3) (GA) q ca q cb l3 nG c3 cG X Y (colL m e X Y L K) (K) _ IR4.out.hX IR4.out.hY U4.out.at_.1 G4.out.at_.1 IR4.out.hla IR4.out.hlb (by have := U4.out.at_.2.2; omega) (by have := G4.out.at_.2.2; omega) IR4.out.hca IR4.out.hcb).mono ?_
    rintro e w_5 ⟨v, rfl, hv, hb_5⟩
    have hv0 := hv
    obtain ⟨A5, l5, c5, rfl, _⟩ := hv0
    clear cR0 cR1 cR2 cR3
    have B5 := Lib.hid (B4.out.trans (hb_5.mono B4.out.size))
    have F5 := Lib.hid (F4.out.next hb_5)
    have G5 := Lib.hid (G4.out.next hb_5)
    have KR5 := Lib.hid (KR4.out.next hb_5)
    have IR5 := Lib.hid (IR4.out.next hb_5)
    have U5 := Lib.hid (U4.out.next hb_5)
    have T5 := Lib.hid (T4.out.next hb_5)
    have V5 := Lib.hid (hv)
    clear hb_5 hv
    have cR0 := KR5.out.cell 0
    have cR1 := KR5.out.cell 1
    have cR2 := KR5.out.cell 2
    have cR3 := KR5.out.cell 3
    simp at cR0 cR1 cR2 cR3
    go_wp2_with (fail)
    refine (sumI_any m e (some ⟨b1, o1, none⟩) (some ⟨b2, o2, none⟩) (A5) (FA) q ca q cb l5 nF c5 cF X Y (prdL m e X Y (colL m e X Y L K) K) (L) _ IR5.out.hX IR5.out.hY V5.out.at_.1 F5.out.at_.1 IR5.out.hla IR5.out.hlb (by have := V5.out.at_.2.2; omega) (by have := F5.out.at_.2.2; omega) IR5.out.hca IR5.out.hcb).mono ?_
    rw [HE1.out]
    rintro e w_6 ⟨v, rfl, hv, hb_6⟩
    have hv0 := hv
    obtain ⟨A6, l6, c6, rfl, _⟩ := hv0
    clear cR0 cR1 cR2 cR3
    have B6 := Lib.hid (B5.out.trans (hb_6.mono B5.out.size))
    have F6 := Lib.hid (F5.out.next hb_6)
    have G6 := Lib.hid (G5.out.next hb_6)
    have KR6 := Lib.hid (KR5.out.next hb_6)
    have IR6 := Lib.hid (IR5.out.next hb_6)
    have U6 := Lib.hid (U5.out.next hb_6)
    have T6 := Lib.hid (T5.out.next hb_6)
    have V6 := Lib.hid (V5.out.next hb_6)
    have V16 := Lib.hid (hv)
    clear hb_6 hv
    have cR0 := KR6.out.cell 0
    have cR1 := KR6.out.cell 1
    have cR2 := KR6.out.cell 2
    have cR3 := KR6.out.cell 3
    simp at cR0 cR1 cR2 cR3
    go_wp2_with (fail)
    refine (sumI_any m e (some ⟨b1, o1, none⟩) (some ⟨b2, o2, none⟩) (A3) (FA) q ca q cb l3 nF c3 cF X Y (colL m e X Y L K) (L) _ IR6.out.hX IR6.out.hY U6.out.at_.1 F6.out.at_.1 IR6.out.hla IR6.out.hlb (by have := U6.out.at_.2.2; omega) (by have := F6.out.at_.2.2; omega) IR6.out.hca IR6.out.hcb).mono ?_
    rw [HE2.out]
    rintro e w_7 ⟨v, rfl, hv, hb_7⟩
    have hv0 := hv
    obtain ⟨A7, l7, c7, rfl, _⟩ := hv0
    clear cR0 cR1 cR2 cR3
    have B7 := Lib.hid (B6.out.trans (hb_7.mono B6.out.size))
    have F7 := Lib.hid (F6.out.next hb_7)
    have G7 := Lib.hid (G6.out.next hb_7)
    have KR7 := Lib.hid (KR6.out.next hb_7)
    have IR7 := Lib.hid (IR6.out.next hb_7)
    have U7 := Lib.hid (U6.out.next hb_7)
    have T7 := Lib.hid (T6.out.next hb_7)
    have V7 := Lib.hid (V6.out.next hb_7)
    have V17 := Lib.hid (V16.out.next hb_7)
    have V27 := Lib.hid (hv)
    clear hb_7 hv
    have cR0 := KR7.out.cell 0
    have cR1 := KR7.out.cell 1
    have cR2 := KR7.out.cell 2
    have cR3 := KR7.out.cell 3
    simp at cR0 cR1 cR2 cR3
    go_wp2_with (fail)
    refine (prdI_any m e (some ⟨b1, o1, none⟩) (some ⟨b2, o2, none⟩) (FA) (GA) q ca q cb nF nG cF cG X Y (L) (K) _ IR7.out.hX IR7.out.hY F7.out.at_.1 G7.out.at_.1 IR7.out.hla IR7.out.hlb (by have := F7.out.at_.2.2; omega) (by have := G7.out.at_.2.2; omega) IR7.out.hca IR7.out.hcb).mono ?_
    rintro e w_8 ⟨v, rfl, hv, hb_8⟩
    have hv0 := hv
    obtain ⟨A8, l8, c8, rfl, _⟩ := hv0
    clear cR0 cR1 cR2 cR3
    have B8 := Lib.hid (B7.out.trans (hb_8.mono B7.out.size))
    have F8 := Lib.hid (F7.out.next hb_8)
    have G8 := Lib.hid (G7.out.next hb_8)
    have KR8 := Lib.hid (KR7.out.next hb_8)
    have IR8 := Lib.hid (IR7.out.next hb_8)
    have U8 := Lib.hid (U7.out.next hb_8)
    have T8 := Lib.hid (T7.out.next hb_8)
    have V8 := Lib.hid (V7.out.next hb_8)
    have V18 := Lib.hid (V17.out.next hb_8)
    have V28 := Lib.hid (V27.out.next hb_8)
    have V38 := Lib.hid (hv)
    clear hb_8 hv
    have cR0 := KR8.out.cell 0
    have cR1 := KR8.out.cell 1
    have cR2 := KR8.out.cell 2
    have cR3 := KR8.out.cell 3
    simp at cR0 cR1 cR2 cR3
    go_wp2_with (fail)
    refine (colI_any m e (some ⟨b1, o1, none⟩) (some ⟨b2, o2, none⟩) (A8) (GA) q ca q cb l8 nG c8 cG X Y (prdL m e X Y L K) (K) _ IR8.out.hX IR8.out.hY V38.out.at_.1 G8.out.at_.1 IR8.out.hla IR8.out.hlb (by have := V38.out.at_.2.2; omega) (by have := G8.out.at_.2.2; omega) IR8.out.hca IR8.out.hcb).mono ?_
    rintro e w_9 ⟨v, rfl, hv, hb_9⟩
    have hv0 := hv
    obtain ⟨A9, l9, c9, rfl, _⟩ := hv0
    clear cR0 cR1 cR2 cR3
    have B9 := Lib.hid (B8.out.trans (hb_9.mono B8.out.size))
    have F9 := Lib.hid (F8.out.next hb_9)
    have G9 := Lib.hid (G8.out.next hb_9)
    have KR9 := Lib.hid (KR8.out.next hb_9)
    have IR9 := Lib.hid (IR8.out.next hb_9)
    have U9 := Lib.hid (U8.out.next hb_9)
    have T9 := Lib.hid (T8.out.next hb_9)
    have V9 := Lib.hid (V8.out.next hb_9)
    have V19 := Lib.hid (V18.out.next hb_9)
    have V29 := Lib.hid (V28.out.next hb_9)
    have V39 := Lib.hid (V38.out.next hb_9)
    have V49 := Lib.hid (hv)
    clear hb_9 hv
    have cR0 := KR9.out.cell 0
    have cR1 := KR9.out.cell 1
    have cR2 := KR9.out.cell 2
    have cR3 := KR9.out.cell 3
    simp at cR0 cR1 cR2 cR3
    go_wp2_with (fail)
    refine (sumI_any m e (some ⟨b1, o1, none⟩) (some ⟨b2, o2, none⟩) (A9) (FA) q ca q cb l9 nF c9 cF X Y (colL m e X Y (prdL m e X Y L K) K) (L) _ IR9.out.hX IR9.out.hY V49.out.at_.1 F9.out.at_.1 IR9.out.hla IR9.out.hlb (by have := V49.out.at_.2.2; omega) (by have := F9.out.at_.2.2; omega) IR9.out.hca IR9.out.hcb).mono ?_
    rw [HE3.out]
    rintro e w_10 ⟨v, rfl, hv, hb_10⟩
    have hv0 := hv
    obtain ⟨A10, l10, c10, rfl, _⟩ := hv0
    clear cR0 cR1 cR2 cR3
    have B10 := Lib.hid (B9.out.trans (hb_10.mono B9.out.size))
    have F10 := Lib.hid (F9.out.next hb_10)
    have G10 := Lib.hid (G9.out.next hb_10)
    have KR10 := Lib.hid (KR9.out.next hb_10)
    have IR10 := Lib.hid (IR9.out.next hb_10)
    have U10 := Lib.hid (U9.out.next hb_10)
    have T10 := Lib.hid (T9.out.next hb_10)
    have V10 := Lib.hid (V9.out.next hb_10)
    have V110 := Lib.hid (V19.out.next hb_10)
    have V210 := Lib.hid (V29.out.next hb_10)
    have V310 := Lib.hid (V39.out.next hb_10)
    have V410 := Lib.hid (V49.out.next hb_10)
    have V510 := Lib.hid (hv)
    clear hb_10 hv
    have cR0 := KR10.out.cell 0
    have cR1 := KR10.out.cell 1
    have cR2 := KR10.out.cell 2
    have cR3 := KR10.out.cell 3
    simp at cR0 cR1 cR2 cR3
    go_wp2_with (fail)
    refine (isId_any m e (some ⟨b1, o1, none⟩) (some ⟨b2, o2, none⟩) (A3) q ca q cb l3 c3 X Y (colL m e X Y L K) _ IR10.out.hX IR10.out.hY U10.out.at_.1 IR10.out.hla IR10.out.hlb (by have := U10.out.at_.2.2; omega) IR10.out.hca IR10.out.hcb).mono ?_
    rw [HE4.out]
    rintro e w_11 ⟨rfl, hb_11⟩
    clear cR0 cR1 cR2 cR3
    have B11 := Lib.hid (B10.out.trans (hb_11.mono B10.out.size))
    have F11 := Lib.hid (F10.out.next hb_11)
    have G11 := Lib.hid (G10.out.next hb_11)
    have KR11 := Lib.hid (KR10.out.next hb_11)
    have IR11 := Lib.hid (IR10.out.next hb_11)
    have U11 := Lib.hid (U10.out.next hb_11)
    have T11 := Lib.hid (T10.out.next hb_11)
    have V11 := Lib.hid (V10.out.next hb_11)
    have V111 := Lib.hid (V110.out.next hb_11)
    have V211 := Lib.hid (V210.out.next hb_11)
    have V311 := Lib.hid (V310.out.next hb_11)
    have V411 := Lib.hid (V410.out.next hb_11)
    have V511 := Lib.hid (V510.out.next hb_11)
    clear hb_11
    go_wp2_with (fail)
    refine (frSame_any (A6) (FA) l6 nF c6 cF _ _ _ _ _ V111.out.at_.1 F11.out.at_.1 (by have := V111.out.at_.2.2; omega) (by have := F11.out.at_.2.2; omega)).mono ?_
    rw [eqL_own_CO]
    rintro e w_12 ⟨rfl, hb_12⟩
    have B12 := Lib.hid (B11.out.trans (hb_12.mono B11.out.size))
    have F12 := Lib.hid (F11.out.next hb_12)
    have G12 := Lib.hid (G11.out.next hb_12)
    have KR12 := Lib.hid (KR11.out.next hb_12)
    have IR12 := Lib.hid (IR11.out.next hb_12)
    have U12 := Lib.hid (U11.out.next hb_12)
    have T12 := Lib.hid (T11.out.next hb_12)
    have V12 := Lib.hid (V11.out.next hb_12)
    have V112 := Lib.hid (V111.out.next hb_12)
    have V212 := Lib.hid (V211.out.next hb_12)
    have V312 := Lib.hid (V311.out.next hb_12)
    have V412 := Lib.hid (V411.out.next hb_12)
    have V512 := Lib.hid (V511.out.next hb_12)
    clear hb_12
    go_wp2_with (fail)
    refine (frSame_any (A7) (A3) l7 l3 c7 c3 _ _ _ _ _ V212.out.at_.1 U12.out.at_.1 (by have := V212.out.at_.2.2; omega) (by have := U12.out.at_.2.2; omega)).mono ?_
    rw [eqL_own_CO]
    rintro e w_13 ⟨rfl, hb_13⟩
    have B13 := Lib.hid (B12.out.trans (hb_13.mono B12.out.size))
    have F13 := Lib.hid (F12.out.next hb_13)
    have G13 := Lib.hid (G12.out.next hb_13)
    have KR13 := Lib.hid (KR12.out.next hb_13)
    have IR13 := Lib.hid (IR12.out.next hb_13)
    have U13 := Lib.hid (U12.out.next hb_13)
    have T13 := Lib.hid (T12.out.next hb_13)
    have V13 := Lib.hid (V12.out.next hb_13)
    have V113 := Lib.hid (V112.out.next hb_13)
    have V213 := Lib.hid (V212.out.next hb_13)
    have V313 := Lib.hid (V312.out.next hb_13)
    have V413 := Lib.hid (V412.out.next hb_13)
    have V513 := Lib.hid (V512.out.next hb_13)
    clear hb_13
    go_wp2_with (fail)
    refine (frSame_any (A10) (A9) l10 l9 c10 c9 _ _ _ _ _ V513.out.at_.1 V413.out.at_.1 (by have := V513.out.at_.2.2; omega) (by have := V413.out.at_.2.2; omega)).mono ?_
    rw [eqL_own_CO]
    rintro e w_14 ⟨rfl, hb_14⟩
    have B14 := Lib.hid (B13.out.trans (hb_14.mono B13.out.size))
    have F14 := Lib.hid (F13.out.next hb_14)
    have G14 := Lib.hid (G13.out.next hb_14)
    have KR14 := Lib.hid (KR13.out.next hb_14)
    have IR14 := Lib.hid (IR13.out.next hb_14)
    have U14 := Lib.hid (U13.out.next hb_14)
    have T14 := Lib.hid (T13.out.next hb_14)
    have V14 := Lib.hid (V13.out.next hb_14)
    have V114 := Lib.hid (V113.out.next hb_14)
    have V214 := Lib.hid (V213.out.next hb_14)
    have V314 := Lib.hid (V313.out.next hb_14)
    have V414 := Lib.hid (V413.out.next hb_14)
    have V514 := Lib.hid (V513.out.next hb_14)
    clear hb_14
    go_wp2_with (fail)
    go_ret
    exact ⟨rfl, B14.out⟩

end Go.Proofs.Ytdhjcgbaaghnoaa
