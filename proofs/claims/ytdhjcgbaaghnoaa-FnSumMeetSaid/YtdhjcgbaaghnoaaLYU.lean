
import Derived.Test.YtdhjcgbaaghnoaaLWH
import Derived.Test.YtdhjcgbaaghnoaaLEF
import Derived.Test.YtdhjcgbaaghnoaaMO
import Derived.Test.YtdhjcgbaaghnoaaMH
/- The walk of the law FnSumMeet. -/
namespace Go.Proofs.Ytdhjcgbaaghnoaa
open Go.RowKit
set_option maxRecDepth 100000

theorem eqL_own_SM {xs : List Int} : eqL xs xs = true := eqL_true rfl fun _ _ => rfl
set_option maxHeartbeats 16000000 in
theorem fnSumMeet_walk (A : Option Addr) (n c : Nat) (w : World) (hb : Byts w w.heap.size A n) (hc : n ≤ c) (hc2 : c ≤ 9223372036854775807) :
    Calls Try.prog 11 #[.slice A n c] w fun e w' => e = .returned (.bool true) ∧ Below w.heap.size w w' := by
  by_cases hbig : n > 1048576
  · have t0 : decide ((n : Int) > 1048576) = true := by simp; omega
    go_enter Try.func11, Try.ntmps11
    go_wp2_with (fail)
    go_ret
    exact ⟨rfl, Below.refl _ _⟩
  have hn : n ≤ 1048576 := by omega
  have t0 : decide ((n : Int) > 1048576) = false := by simp; omega
  go_enter Try.func11, Try.ntmps11
  go_wp2_with (fail)
  refine (drawSumIdeal_any A n c w hb hn hc hc2).mono ?_
  rintro e w_0 ⟨v, v1, v2, rfl, hA, ⟨L, hF, hfl⟩, ⟨K, hG, hgl⟩, hb_0⟩
  obtain ⟨N, O, A1, A2, q, ca, cb, X, Y, rfl, hI, _, _⟩ := hA.rin
  obtain ⟨FA, nF, cF, rfl, _⟩ := id hF
  obtain ⟨GA, nG, cG, rfl, _⟩ := id hG
  clear hA
  have B0 := Lib.hid (hb_0)
  have F0 := Lib.hid (hF)
  have G0 := Lib.hid (hG)
  clear hb_0 hF hG
  obtain ⟨w_1, hV⟩ : ∃ V, World.alloc w_0 (.cells #[.int .i64 N, .int .i64 O, .slice A1 q ca, .slice A2 q cb] 27) = V := ⟨_, rfl⟩
  have hb_1 : Below (World.heap w_0).size w_0 w_1 := by subst hV; exact (Below.refl _ _).alloc (Nat.le_refl _) _
  obtain ⟨bR, hbx⟩ : ∃ b, b = (World.heap w_0).size := ⟨_, rfl⟩
  have KR1 := Lib.hid (show Blk w_1 bR 27 #[.int .i64 N, .int .i64 O, .slice A1 q ca, .slice A2 q cb] by subst hV hbx; exact Blk.new w_0 _ _)
  have B1 := Lib.hid (B0.out.trans (hb_1.mono B0.out.size))
  have F1 := Lib.hid (F0.out.next hb_1)
  have G1 := Lib.hid (G0.out.next hb_1)
  have IR1 := Lib.hid (hI.next hb_1)
  clear hb_1 hI
  go_upto_region 4 with (fail)
  rw [← hbx]
  clear hV hbx
  have cR0 := KR1.out.cell 0
  have cR1 := KR1.out.cell 1
  have cR2 := KR1.out.cell 2
  have cR3 := KR1.out.cell 3
  simp at cR0 cR1 cR2 cR3
  go_wp2_with (fail)
  refine (sumI_any N O (A1) (A2) (FA) (GA) q ca q cb nF nG cF cG X Y (L) (K) _ IR1.out.hX IR1.out.hY F1.out.at_.1 G1.out.at_.1 IR1.out.hla IR1.out.hlb (by have := F1.out.at_.2.2; omega) (by have := G1.out.at_.2.2; omega) IR1.out.hca IR1.out.hcb).mono ?_
  rintro e w_2 ⟨v, rfl, hv, hb_2⟩
  have hv0 := hv
  obtain ⟨A3, l3, c3, rfl, _⟩ := hv0
  clear cR0 cR1 cR2 cR3
  have B2 := Lib.hid (B1.out.trans (hb_2.mono B1.out.size))
  have F2 := Lib.hid (F1.out.next hb_2)
  have G2 := Lib.hid (G1.out.next hb_2)
  have KR2 := Lib.hid (KR1.out.next hb_2)
  have IR2 := Lib.hid (IR1.out.next hb_2)
  have U2 := Lib.hid (hv)
  clear hb_2 hv
  have cR0 := KR2.out.cell 0
  have cR1 := KR2.out.cell 1
  have cR2 := KR2.out.cell 2
  have cR3 := KR2.out.cell 3
  simp at cR0 cR1 cR2 cR3
  go_wp2_with (fail)
  refine (metI_any N O (A1) (A2) (FA) (GA) q ca q cb nF nG cF cG X Y (L) (K) _ IR2.out.hX IR2.out.hY F2.out.at_.1 G2.out.at_.1 IR2.out.hla IR2.out.hlb (by have := F2.out.at_.2.2; omega) (by have := G2.out.at_.2.2; omega) IR2.out.hca IR2.out.hcb).mono ?_
  rintro e w_3 ⟨v, rfl, hv, hb_3⟩
  have hv0 := hv
  obtain ⟨A4, l4, c4, rfl, _⟩ := hv0
  clear cR0 cR1 cR2 cR3
  have B3 := Lib.hid (B2.out.trans (hb_3.mono B2.out.size))
  have F3 := Lib.hid (F2.out.next hb_3)
  have G3 := Lib.hid (G2.out.next hb_3)
  have KR3 := Lib.hid (KR2.out.next hb_3)
  have IR3 := Lib.hid (IR2.out.next hb_3)
  have U3 := Lib.hid (U2.out.next hb_3)
  have M3 := Lib.hid (hv)
  clear hb_3 hv
  have cR0 := KR3.out.cell 0
  have cR1 := KR3.out.cell 1
  have cR2 := KR3.out.cell 2
  have cR3 := KR3.out.cell 3
  simp at cR0 cR1 cR2 cR3
  go_wp2_with (fail)
  refine (ssumI_any N O (A1) (A2) (FA) (GA) q ca q cb nF nG cF cG X Y (L) (K) _ IR3.out.hX IR3.out.hY F3.out.at_.1 G3.out.at_.1 IR3.out.hla IR3.out.hlb (by have := F3.out.at_.2.2; omega) (by have := G3.out.at_.2.2; omega) IR3.out.hca IR3.out.hcb).mono ?_
  rintro e w_4 ⟨v, rfl, hv, hb_4⟩
  have hv0 := hv
  obtain ⟨A5, l5, c5, rfl, _⟩ := hv0
  clear cR0 cR1 cR2 cR3
  have B4 := Lib.hid (B3.out.trans (hb_4.mono B3.out.size))
  have F4 := Lib.hid (F3.out.next hb_4)
  have G4 := Lib.hid (G3.out.next hb_4)
  have KR4 := Lib.hid (KR3.out.next hb_4)
  have IR4 := Lib.hid (IR3.out.next hb_4)
  have U4 := Lib.hid (U3.out.next hb_4)
  have M4 := Lib.hid (M3.out.next hb_4)
  have T4 := Lib.hid (hv)
  clear hb_4 hv
  have cR0 := KR4.out.cell 0
  have cR1 := KR4.out.cell 1
  have cR2 := KR4.out.cell 2
  have cR3 := KR4.out.cell 3
  simp at cR0 cR1 cR2 cR3
  go_wp2_with (fail)
  refine (smetI_any N O (A1) (A2) (FA) (GA) q ca q cb nF nG cF cG X Y (L) (K) _ IR4.out.hX IR4.out.hY F4.out.at_.1 G4.out.at_.1 IR4.out.hla IR4.out.hlb (by have := F4.out.at_.2.2; omega) (by have := G4.out.at_.2.2; omega) IR4.out.hca IR4.out.hcb).mono ?_
  rintro e w_5 ⟨v, rfl, hv, hb_5⟩
  have hv0 := hv
  obtain ⟨A6, l6, c6, rfl, _⟩ := hv0
  clear cR0 cR1 cR2 cR3
  have B5 := Lib.hid (B4.out.trans (hb_5.mono B4.out.size))
  have F5 := Lib.hid (F4.out.next hb_5)
  have G5 := Lib.hid (G4.out.next hb_5)
  have KR5 := Lib.hid (KR4.out.next hb_5)
  have IR5 := Lib.hid (IR4.out.next hb_5)
  have U5 := Lib.hid (U4.out.next hb_5)
  have M5 := Lib.hid (M4.out.next hb_5)
  have T5 := Lib.hid (T4.out.next hb_5)
  have T25 := Lib.hid (hv)
  clear hb_5 hv
  cases hok : twoI N O X Y L K
  · skip
    go_wp2_with (fail)
    refine (frSame_any (A3) (A5) l3 l5 c3 c5 _ _ _ _ _ U5.out.at_.1 T5.out.at_.1 (by have := U5.out.at_.2.2; omega) (by have := T5.out.at_.2.2; omega)).mono ?_
    rw [eqL_own_SM]
    rintro e w_6 ⟨rfl, hb_6⟩
    have B6 := Lib.hid (B5.out.trans (hb_6.mono B5.out.size))
    have F6 := Lib.hid (F5.out.next hb_6)
    have G6 := Lib.hid (G5.out.next hb_6)
    have KR6 := Lib.hid (KR5.out.next hb_6)
    have IR6 := Lib.hid (IR5.out.next hb_6)
    have U6 := Lib.hid (U5.out.next hb_6)
    have M6 := Lib.hid (M5.out.next hb_6)
    have T6 := Lib.hid (T5.out.next hb_6)
    have T26 := Lib.hid (T25.out.next hb_6)
    clear hb_6
    go_wp2_with (fail)
    refine (frSame_any (A4) (A6) l4 l6 c4 c6 _ _ _ _ _ M6.out.at_.1 T26.out.at_.1 (by have := M6.out.at_.2.2; omega) (by have := T26.out.at_.2.2; omega)).mono ?_
    rw [eqL_own_SM]
    rintro e w_7 ⟨rfl, hb_7⟩
    have B7 := Lib.hid (B6.out.trans (hb_7.mono B6.out.size))
    have F7 := Lib.hid (F6.out.next hb_7)
    have G7 := Lib.hid (G6.out.next hb_7)
    have KR7 := Lib.hid (KR6.out.next hb_7)
    have IR7 := Lib.hid (IR6.out.next hb_7)
    have U7 := Lib.hid (U6.out.next hb_7)
    have M7 := Lib.hid (M6.out.next hb_7)
    have T7 := Lib.hid (T6.out.next hb_7)
    have T27 := Lib.hid (T26.out.next hb_7)
    clear hb_7
    go_wp2_with (fail)
    refine (frSame_any (A3) (A5) l3 l5 c3 c5 _ _ _ _ _ U7.out.at_.1 T7.out.at_.1 (by have := U7.out.at_.2.2; omega) (by have := T7.out.at_.2.2; omega)).mono ?_
    rw [eqL_own_SM]
    rintro e w_8 ⟨rfl, hb_8⟩
    have B8 := Lib.hid (B7.out.trans (hb_8.mono B7.out.size))
    have F8 := Lib.hid (F7.out.next hb_8)
    have G8 := Lib.hid (G7.out.next hb_8)
    have KR8 := Lib.hid (KR7.out.next hb_8)
    have IR8 := Lib.hid (IR7.out.next hb_8)
    have U8 := Lib.hid (U7.out.next hb_8)
    have M8 := Lib.hid (M7.out.next hb_8)
    have T8 := Lib.hid (T7.out.next hb_8)
    have T28 := Lib.hid (T27.out.next hb_8)
    clear hb_8
    go_wp2_with (fail)
    refine (frSame_any (A4) (A6) l4 l6 c4 c6 _ _ _ _ _ M8.out.at_.1 T28.out.at_.1 (by have := M8.out.at_.2.2; omega) (by have := T28.out.at_.2.2; omega)).mono ?_
    rw [eqL_own_SM]
    rintro e w_9 ⟨rfl, hb_9⟩
    have B9 := Lib.hid (B8.out.trans (hb_9.mono B8.out.size))
    have F9 := Lib.hid (F8.out.next hb_9)
    have G9 := Lib.hid (G8.out.next hb_9)
    have KR9 := Lib.hid (KR8.out.next hb_9)
    have IR9 := Lib.hid (IR8.out.next hb_9)
    have U9 := Lib.hid (U8.out.next hb_9)
    have M9 := Lib.hid (M8.out.next hb_9)
    have T9 := Lib.hid (T8.out.next hb_9)
    have T29 := Lib.hid (T28.out.next hb_9)
    clear hb_9
    go_wp2_with (fail)
    go_ret
    exact ⟨rfl, B9.out⟩
  · skip
    go_wp2_with (fail)
    refine (frSame_any (A3) (A5) l3 l5 c3 c5 _ _ _ _ _ U5.out.at_.1 T5.out.at_.1 (by have := U5.out.at_.2.2; omega) (by have := T5.out.at_.2.2; omega)).mono ?_
    rw [eqL_own_SM]
    rintro e w_6 ⟨rfl, hb_6⟩
    have B6 := Lib.hid (B5.out.trans (hb_6.mono B5.out.size))
    have F6 := Lib.hid (F5.out.next hb_6)
    have G6 := Lib.hid (G5.out.next hb_6)
    have KR6 := Lib.hid (KR5.out.next hb_6)
    have IR6 := Lib.hid (IR5.out.next hb_6)
    have U6 := Lib.hid (U5.out.next hb_6)
    have M6 := Lib.hid (M5.out.next hb_6)
    have T6 := Lib.hid (T5.out.next hb_6)
    have T26 := Lib.hid (T25.out.next hb_6)
    clear hb_6
    go_wp2_with (fail)
    refine (frSame_any (A4) (A6) l4 l6 c4 c6 _ _ _ _ _ M6.out.at_.1 T26.out.at_.1 (by have := M6.out.at_.2.2; omega) (by have := T26.out.at_.2.2; omega)).mono ?_
    rw [eqL_own_SM]
    rintro e w_7 ⟨rfl, hb_7⟩
    have B7 := Lib.hid (B6.out.trans (hb_7.mono B6.out.size))
    have F7 := Lib.hid (F6.out.next hb_7)
    have G7 := Lib.hid (G6.out.next hb_7)
    have KR7 := Lib.hid (KR6.out.next hb_7)
    have IR7 := Lib.hid (IR6.out.next hb_7)
    have U7 := Lib.hid (U6.out.next hb_7)
    have M7 := Lib.hid (M6.out.next hb_7)
    have T7 := Lib.hid (T6.out.next hb_7)
    have T27 := Lib.hid (T26.out.next hb_7)
    clear hb_7
    obtain ⟨m, e, b1, o1, b2, o2, rfl, rfl, rfl, rfl, hr, _, lX, lY, gX, gY⟩ := valid_data (ide_data (isId_ide (two_data hok).1)).1 IR7.out.hX IR7.out.hY IR7.out.hca IR7.out.hcb
    have hm := hr.hm
    have hm' := hr.hm'
    obtain ⟨hE1, hE2, hE3, hE4, hE5⟩ := sumMeet_law hok
    have HE1 := Lib.hid hE1
    have HE2 := Lib.hid hE2
    have HE3 := Lib.hid hE3
    have HE4 := Lib.hid hE4
    have HE5 := Lib.hid hE5
    have HOK := Lib.hid hok
    clear hok hr lX lY gX gY hE1 hE2 hE3 hE4 hE5
    have lnbU : l3 ≤ 1048570 := U7.out.at_.2.2
    have lnbM : l4 ≤ 1048570 := M7.out.at_.2.2
    have lnbF : nF ≤ 1048570 := F7.out.at_.2.2
    have lnbG : nG ≤ 1048570 := G7.out.at_.2.2
    have hlen : l3 * l4 = nF * nG := by
      have h1 := U7.out.at_.1.1
      have h2 := M7.out.at_.1.1
      have h3 := F7.out.at_.1.1
      have h4 := G7.out.at_.1.1
      rw [← h1, ← h2, ← h3, ← h4]
      exact HE5.out
    have bF : nF ≤ 17 := by have := F7.out.at_.1.1; omega
    have bG : nG ≤ 17 := by have := G7.out.at_.1.1; omega
    have bp : nF * nG ≤ 17 * 17 := Nat.mul_le_mul bF bG
    obtain ⟨pr, hpr⟩ : ∃ x, nF * nG = x := ⟨_, rfl⟩
    rw [hpr] at hlen bp
    have s1 : IntKind.i64.wrap ((l3 : Int) * (l4 : Int)) = (pr : Int) := by rw [show ((l3 : Int) * (l4 : Int)) = (pr : Int) from by exact_mod_cast hlen]; exact IntWalk.i64_in _ (by omega)
    have s2 : IntKind.i64.wrap ((nF : Int) * (nG : Int)) = (pr : Int) := by rw [show ((nF : Int) * (nG : Int)) = (pr : Int) from by exact_mod_cast hpr]; exact IntWalk.i64_in _ (by omega)
    clear hlen hpr bp bF bG
    have cR0 := KR7.out.cell 0
    have cR1 := KR7.out.cell 1
    have cR2 := KR7.out.cell 2
    have cR3 := KR7.out.cell 3
    simp at cR0 cR1 cR2 cR3
    go_wp2_with (fail)
    refine (sumI_any m e (some ⟨b1, o1, none⟩) (some ⟨b2, o2, none⟩) (GA) (FA) q ca q cb nG nF cG cF X Y (K) (L) _ IR7.out.hX IR7.out.hY G7.out.at_.1 F7.out.at_.1 IR7.out.hla IR7.out.hlb (by have := G7.out.at_.2.2; omega) (by have := F7.out.at_.2.2; omega) IR7.out.hca IR7.out.hcb).mono ?_
    rw [HE1.out]
    rintro e w_8 ⟨v, rfl, hv, hb_8⟩
    have hv0 := hv
    obtain ⟨A7, l7, c7, rfl, _⟩ := hv0
    clear cR0 cR1 cR2 cR3
    have B8 := Lib.hid (B7.out.trans (hb_8.mono B7.out.size))
    have F8 := Lib.hid (F7.out.next hb_8)
    have G8 := Lib.hid (G7.out.next hb_8)
    have KR8 := Lib.hid (KR7.out.next hb_8)
    have IR8 := Lib.hid (IR7.out.next hb_8)
    have U8 := Lib.hid (U7.out.next hb_8)
    have M8 := Lib.hid (M7.out.next hb_8)
    have T8 := Lib.hid (T7.out.next hb_8)
    have T28 := Lib.hid (T27.out.next hb_8)
    have U28 := Lib.hid (hv)
    clear hb_8 hv
    have cR0 := KR8.out.cell 0
    have cR1 := KR8.out.cell 1
    have cR2 := KR8.out.cell 2
    have cR3 := KR8.out.cell 3
    simp at cR0 cR1 cR2 cR3
    go_wp2_with (fail)
    refine (metI_any m e (some ⟨b1, o1, none⟩) (some ⟨b2, o2, none⟩) (GA) (FA) q ca q cb nG nF cG cF X Y (K) (L) _ IR8.out.hX IR8.out.hY G8.out.at_.1 F8.out.at_.1 IR8.out.hla IR8.out.hlb (by have := G8.out.at_.2.2; omega) (by have := F8.out.at_.2.2; omega) IR8.out.hca IR8.out.hcb).mono ?_
    rw [HE2.out]
    rintro e w_9 ⟨v, rfl, hv, hb_9⟩
    have hv0 := hv
    obtain ⟨A8, l8, c8, rfl, _⟩ := hv0
    clear cR0 cR1 cR2 cR3
    have B9 := Lib.hid (B8.out.trans (hb_9.mono B8.out.size))
    have F9 := Lib.hid (F8.out.next hb_9)
    have G9 := Lib.hid (G8.out.next hb_9)
    have KR9 := Lib.hid (KR8.out.next hb_9)
    have IR9 := Lib.hid (IR8.out.next hb_9)
    have U9 := Lib.hid (U8.out.next hb_9)
    have M9 := Lib.hid (M8.out.next hb_9)
    have T9 := Lib.hid (T8.out.next hb_9)
    have T29 := Lib.hid (T28.out.next hb_9)
    have U29 := Lib.hid (U28.out.next hb_9)
    have M29 := Lib.hid (hv)
    clear hb_9 hv
    have cR0 := KR9.out.cell 0
    have cR1 := KR9.out.cell 1
    have cR2 := KR9.out.cell 2
    have cR3 := KR9.out.cell 3
    simp at cR0 cR1 cR2 cR3
    go_wp2_with (fail)
    refine (isId_any m e (some ⟨b1, o1, none⟩) (some ⟨b2, o2, none⟩) (A3) q ca q cb l3 c3 X Y (sumL m e X Y L K) _ IR9.out.hX IR9.out.hY U9.out.at_.1 IR9.out.hla IR9.out.hlb (by have := U9.out.at_.2.2; omega) IR9.out.hca IR9.out.hcb).mono ?_
    rw [HE3.out]
    rintro e w_10 ⟨rfl, hb_10⟩
    clear cR0 cR1 cR2 cR3
    have B10 := Lib.hid (B9.out.trans (hb_10.mono B9.out.size))
    have F10 := Lib.hid (F9.out.next hb_10)
    have G10 := Lib.hid (G9.out.next hb_10)
    have KR10 := Lib.hid (KR9.out.next hb_10)
    have IR10 := Lib.hid (IR9.out.next hb_10)
    have U10 := Lib.hid (U9.out.next hb_10)
    have M10 := Lib.hid (M9.out.next hb_10)
    have T10 := Lib.hid (T9.out.next hb_10)
    have T210 := Lib.hid (T29.out.next hb_10)
    have U210 := Lib.hid (U29.out.next hb_10)
    have M210 := Lib.hid (M29.out.next hb_10)
    clear hb_10
    have cR0 := KR10.out.cell 0
    have cR1 := KR10.out.cell 1
    have cR2 := KR10.out.cell 2
    have cR3 := KR10.out.cell 3
    simp at cR0 cR1 cR2 cR3
    go_wp2_with (fail)
    refine (isId_any m e (some ⟨b1, o1, none⟩) (some ⟨b2, o2, none⟩) (A4) q ca q cb l4 c4 X Y (metL m e X Y L K) _ IR10.out.hX IR10.out.hY M10.out.at_.1 IR10.out.hla IR10.out.hlb (by have := M10.out.at_.2.2; omega) IR10.out.hca IR10.out.hcb).mono ?_
    rw [HE4.out]
    rintro e w_11 ⟨rfl, hb_11⟩
    clear cR0 cR1 cR2 cR3
    have B11 := Lib.hid (B10.out.trans (hb_11.mono B10.out.size))
    have F11 := Lib.hid (F10.out.next hb_11)
    have G11 := Lib.hid (G10.out.next hb_11)
    have KR11 := Lib.hid (KR10.out.next hb_11)
    have IR11 := Lib.hid (IR10.out.next hb_11)
    have U11 := Lib.hid (U10.out.next hb_11)
    have M11 := Lib.hid (M10.out.next hb_11)
    have T11 := Lib.hid (T10.out.next hb_11)
    have T211 := Lib.hid (T210.out.next hb_11)
    have U211 := Lib.hid (U210.out.next hb_11)
    have M211 := Lib.hid (M210.out.next hb_11)
    clear hb_11
    go_wp2_with (fail)
    refine (frSame_any (A7) (A3) l7 l3 c7 c3 _ _ _ _ _ U211.out.at_.1 U11.out.at_.1 (by have := U211.out.at_.2.2; omega) (by have := U11.out.at_.2.2; omega)).mono ?_
    rw [eqL_own_SM]
    rintro e w_12 ⟨rfl, hb_12⟩
    have B12 := Lib.hid (B11.out.trans (hb_12.mono B11.out.size))
    have F12 := Lib.hid (F11.out.next hb_12)
    have G12 := Lib.hid (G11.out.next hb_12)
    have KR12 := Lib.hid (KR11.out.next hb_12)
    have IR12 := Lib.hid (IR11.out.next hb_12)
    have U12 := Lib.hid (U11.out.next hb_12)
    have M12 := Lib.hid (M11.out.next hb_12)
    have T12 := Lib.hid (T11.out.next hb_12)
    have T212 := Lib.hid (T211.out.next hb_12)
    have U212 := Lib.hid (U211.out.next hb_12)
    have M212 := Lib.hid (M211.out.next hb_12)
    clear hb_12
    go_wp2_with (fail)
    refine (frSame_any (A8) (A4) l8 l4 c8 c4 _ _ _ _ _ M212.out.at_.1 M12.out.at_.1 (by have := M212.out.at_.2.2; omega) (by have := M12.out.at_.2.2; omega)).mono ?_
    rw [eqL_own_SM]
    rintro e w_13 ⟨rfl, hb_13⟩
    have B13 := Lib.hid (B12.out.trans (hb_13.mono B12.out.size))
    have F13 := Lib.hid (F12.out.next hb_13)
    have G13 := Lib.hid (G12.out.next hb_13)
    have KR13 := Lib.hid (KR12.out.next hb_13)
    have IR13 := Lib.hid (IR12.out.next hb_13)
    have U13 := Lib.hid (U12.out.next hb_13)
    have M13 := Lib.hid (M12.out.next hb_13)
    have T13 := Lib.hid (T12.out.next hb_13)
    have T213 := Lib.hid (T212.out.next hb_13)
    have U213 := Lib.hid (U212.out.next hb_13)
    have M213 := Lib.hid (M212.out.next hb_13)
    clear hb_13
    go_wp2_with (fail)
    go_ret
    exact ⟨rfl, B13.out⟩

end Go.Proofs.Ytdhjcgbaaghnoaa
