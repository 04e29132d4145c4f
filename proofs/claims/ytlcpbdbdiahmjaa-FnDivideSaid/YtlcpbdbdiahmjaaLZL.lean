
import Derived.Test.YtlcpbdbdiahmjaaLWN
import Derived.Test.YtlcpbdbdiahmjaaNQ
import Derived.Test.YtlcpbdbdiahmjaaLES
import Derived.Test.YtlcpbdbdiahmjaaNH
import Derived.Test.YtlcpbdbdiahmjaaMH
/- The walk of the law FnDivide. -/
namespace Go.Proofs.Ytlcpbdbdiahmjaa
open Go.RowKit
set_option maxRecDepth 100000

theorem pdv_two {n o : Int} {X Y L K : List Int} (h : pdvB n o X Y L K = true) : twoB n o X Y L K = true := by
  unfold pdvB at h
  rw [Bool.and_eq_true] at h
  exact h.1
theorem eqL_own_DV {xs : List Int} : eqL xs xs = true := eqL_true rfl fun _ _ => rfl
set_option maxHeartbeats 16000000 in
theorem fnDivide_walk (A : Option Addr) (n c : Nat) (w : World) (hb : Byts w w.heap.size A n) (hc : n ≤ c) (hc2 : c ≤ 9223372036854775807) :
    Calls Try.prog 3 #[.slice A n c] w fun e w' => e = .returned (.bool true) ∧ Below w.heap.size w w' := by
  by_cases hbig : n > 1048576
  · have t0 : decide ((n : Int) > 1048576) = true := by simp; omega
    go_enter Try.func3, Try.ntmps3
    go_wp2_with (fail)
    go_ret
    exact ⟨rfl, Below.refl _ _⟩
  have hn : n ≤ 1048576 := by omega
  have t0 : decide ((n : Int) > 1048576) = false := by simp; omega
  go_enter Try.func3, Try.ntmps3
  go_wp2_with (fail)
  refine (drawDividePoly_any A n c w hb hn hc hc2).mono ?_
  rintro e w_0 ⟨v, v1, v2, rfl, hA, ⟨L, hF, hfl⟩, ⟨K, hG, hgl⟩, hb_0⟩
  obtain ⟨N, O, A1, A2, q, ca, cb, X, Y, rfl, hI, _, _⟩ := hA.rin
  obtain ⟨FA, nF, cF, rfl, _⟩ := id hF
  obtain ⟨GA, nG, cG, rfl, _⟩ := id hG
  clear hA
  have B0 := Lib.hid (hb_0)
  have F0 := Lib.hid (hF)
  have G0 := Lib.hid (hG)
  clear hb_0 hF hG
  obtain ⟨w_1, hV⟩ : ∃ V, World.alloc w_0 (.cells #[.int .i64 N, .int .i64 O, .slice A1 q ca, .slice A2 q cb] 25) = V := ⟨_, rfl⟩
  have hb_1 : Below (World.heap w_0).size w_0 w_1 := by subst hV; exact (Below.refl _ _).alloc (Nat.le_refl _) _
  obtain ⟨bR, hbx⟩ : ∃ b, b = (World.heap w_0).size := ⟨_, rfl⟩
  have KR1 := Lib.hid (show Blk w_1 bR 25 #[.int .i64 N, .int .i64 O, .slice A1 q ca, .slice A2 q cb] by subst hV hbx; exact Blk.new w_0 _ _)
  have B1 := Lib.hid (B0.out.trans (hb_1.mono B0.out.size))
  have F1 := Lib.hid (F0.out.next hb_1)
  have G1 := Lib.hid (G0.out.next hb_1)
  have IR1 := Lib.hid (hI.next hb_1)
  clear hb_1 hI
  go_upto_region 4 with (fail)
  rw [← hbx]
  clear hV hbx
  cases hok : pdvB N O X Y L K
  · have HOK := Lib.hid hok
    clear hok
    have cR0 := KR1.out.cell 0
    have cR1 := KR1.out.cell 1
    have cR2 := KR1.out.cell 2
    have cR3 := KR1.out.cell 3
    simp at cR0 cR1 cR2 cR3
    go_wp2_with (fail)
    refine (div_any N O (A1) (A2) (FA) (GA) q ca q cb nF cF nG cG X Y (L) (K) _ IR1.out.hX IR1.out.hY F1.out.at_.1 G1.out.at_.1 IR1.out.hla IR1.out.hlb (by have := F1.out.at_.2.2; omega) (by have := G1.out.at_.2.2; omega) IR1.out.hca IR1.out.hcb).mono ?_
    rw [HOK.out]
    rintro e w_2 ⟨u, v, rfl, hu, hv, _, hb_2⟩
    have hu0 := hu
    have hv0 := hv
    obtain ⟨A3, l3, c3, rfl, _⟩ := hu0
    obtain ⟨A4, l4, c4, rfl, _⟩ := hv0
    clear cR0 cR1 cR2 cR3
    have B2 := Lib.hid (B1.out.trans (hb_2.mono B1.out.size))
    have F2 := Lib.hid (F1.out.next hb_2)
    have G2 := Lib.hid (G1.out.next hb_2)
    have KR2 := Lib.hid (KR1.out.next hb_2)
    have IR2 := Lib.hid (IR1.out.next hb_2)
    have U2 := Lib.hid (hu)
    have V2 := Lib.hid (hv)
    clear hb_2 hu hv
    have cR0 := KR2.out.cell 0
    have cR1 := KR2.out.cell 1
    have cR2 := KR2.out.cell 2
    have cR3 := KR2.out.cell 3
    simp at cR0 cR1 cR2 cR3
    go_wp2_with (fail)
    refine (sdiv_any N O (A1) (A2) (FA) (GA) q ca q cb nF cF nG cG X Y (L) (K) _ IR2.out.hX IR2.out.hY F2.out.at_.1 G2.out.at_.1 IR2.out.hla IR2.out.hlb (by have := F2.out.at_.2.2; omega) (by have := G2.out.at_.2.2; omega) IR2.out.hca IR2.out.hcb).mono ?_
    rw [HOK.out]
    rintro e w_3 ⟨u, v, rfl, hu, hv, hb_3⟩
    have hu0 := hu
    have hv0 := hv
    obtain ⟨A5, l5, c5, rfl, _⟩ := hu0
    obtain ⟨A6, l6, c6, rfl, _⟩ := hv0
    clear cR0 cR1 cR2 cR3
    have B3 := Lib.hid (B2.out.trans (hb_3.mono B2.out.size))
    have F3 := Lib.hid (F2.out.next hb_3)
    have G3 := Lib.hid (G2.out.next hb_3)
    have KR3 := Lib.hid (KR2.out.next hb_3)
    have IR3 := Lib.hid (IR2.out.next hb_3)
    have U3 := Lib.hid (U2.out.next hb_3)
    have V3 := Lib.hid (V2.out.next hb_3)
    have T3 := Lib.hid (hu)
    have S3 := Lib.hid (hv)
    clear hb_3 hu hv
    go_wp2_with (fail)
    refine (frSame_any (A3) (A5) l3 l5 c3 c5 _ _ _ _ _ U3.out.at_.1 T3.out.at_.1 (by have := U3.out.at_.2.2; omega) (by have := T3.out.at_.2.2; omega)).mono ?_
    rw [eqL_own_DV]
    rintro e w_4 ⟨rfl, hb_4⟩
    have B4 := Lib.hid (B3.out.trans (hb_4.mono B3.out.size))
    have F4 := Lib.hid (F3.out.next hb_4)
    have G4 := Lib.hid (G3.out.next hb_4)
    have KR4 := Lib.hid (KR3.out.next hb_4)
    have IR4 := Lib.hid (IR3.out.next hb_4)
    have U4 := Lib.hid (U3.out.next hb_4)
    have V4 := Lib.hid (V3.out.next hb_4)
    have T4 := Lib.hid (T3.out.next hb_4)
    have S4 := Lib.hid (S3.out.next hb_4)
    clear hb_4
    go_wp2_with (fail)
    refine (frSame_any (A4) (A6) l4 l6 c4 c6 _ _ _ _ _ V4.out.at_.1 S4.out.at_.1 (by have := V4.out.at_.2.2; omega) (by have := S4.out.at_.2.2; omega)).mono ?_
    rw [eqL_own_DV]
    rintro e w_5 ⟨rfl, hb_5⟩
    have B5 := Lib.hid (B4.out.trans (hb_5.mono B4.out.size))
    have F5 := Lib.hid (F4.out.next hb_5)
    have G5 := Lib.hid (G4.out.next hb_5)
    have KR5 := Lib.hid (KR4.out.next hb_5)
    have IR5 := Lib.hid (IR4.out.next hb_5)
    have U5 := Lib.hid (U4.out.next hb_5)
    have V5 := Lib.hid (V4.out.next hb_5)
    have T5 := Lib.hid (T4.out.next hb_5)
    have S5 := Lib.hid (S4.out.next hb_5)
    clear hb_5
    go_wp2_with (fail)
    refine (frSame_any (A3) (A5) l3 l5 c3 c5 _ _ _ _ _ U5.out.at_.1 T5.out.at_.1 (by have := U5.out.at_.2.2; omega) (by have := T5.out.at_.2.2; omega)).mono ?_
    rw [eqL_own_DV]
    rintro e w_6 ⟨rfl, hb_6⟩
    have B6 := Lib.hid (B5.out.trans (hb_6.mono B5.out.size))
    have F6 := Lib.hid (F5.out.next hb_6)
    have G6 := Lib.hid (G5.out.next hb_6)
    have KR6 := Lib.hid (KR5.out.next hb_6)
    have IR6 := Lib.hid (IR5.out.next hb_6)
    have U6 := Lib.hid (U5.out.next hb_6)
    have V6 := Lib.hid (V5.out.next hb_6)
    have T6 := Lib.hid (T5.out.next hb_6)
    have S6 := Lib.hid (S5.out.next hb_6)
    clear hb_6
    go_wp2_with (fail)
    refine (frSame_any (A4) (A6) l4 l6 c4 c6 _ _ _ _ _ V6.out.at_.1 S6.out.at_.1 (by have := V6.out.at_.2.2; omega) (by have := S6.out.at_.2.2; omega)).mono ?_
    rw [eqL_own_DV]
    rintro e w_7 ⟨rfl, hb_7⟩
    have B7 := Lib.hid (B6.out.trans (hb_7.mono B6.out.size))
    have F7 := Lib.hid (F6.out.next hb_7)
    have G7 := Lib.hid (G6.out.next hb_7)
    have KR7 := Lib.hid (KR6.out.next hb_7)
    have IR7 := Lib.hid (IR6.out.next hb_7)
    have U7 := Lib.hid (U6.out.next hb_7)
    have V7 := Lib.hid (V6.out.next hb_7)
    have T7 := Lib.hid (T6.out.next hb_7)
    have S7 := Lib.hid (S6.out.next hb_7)
    clear hb_7
    go_wp2_with (fail)
    go_ret
    exact ⟨rfl, B7.out⟩
  · skip
    obtain ⟨m, e, b1, o1, b2, o2, rfl, rfl, rfl, rfl, hr, _, lX, lY, gX, gY⟩ := valid_data (pol_data (two_data (pdv_two hok)).1).1 IR1.out.hX IR1.out.hY IR1.out.hca IR1.out.hcb
    have hm' := hr.hm'
    obtain ⟨hE1, hE2, hE3, hE4⟩ := divide_law hok hm'
    have HE1 := Lib.hid hE1
    have HE2 := Lib.hid hE2
    have HE3 := Lib.hid hE3
    have HE4 := Lib.hid hE4
    have HOK := Lib.hid hok
    clear hok hr lX lY gX gY hE1 hE2 hE3 hE4 hm'
    have cR0 := KR1.out.cell 0
    have cR1 := KR1.out.cell 1
    have cR2 := KR1.out.cell 2
    have cR3 := KR1.out.cell 3
    simp at cR0 cR1 cR2 cR3
    go_wp2_with (fail)
    refine (div_any m e (some ⟨b1, o1, none⟩) (some ⟨b2, o2, none⟩) (FA) (GA) q ca q cb nF cF nG cG X Y (L) (K) _ IR1.out.hX IR1.out.hY F1.out.at_.1 G1.out.at_.1 IR1.out.hla IR1.out.hlb (by have := F1.out.at_.2.2; omega) (by have := G1.out.at_.2.2; omega) IR1.out.hca IR1.out.hcb).mono ?_
    rw [HOK.out]
    rintro e w_2 ⟨u, v, rfl, hu, hv, _, hb_2⟩
    have hu0 := hu
    have hv0 := hv
    obtain ⟨A7, l7, c7, rfl, _⟩ := hu0
    obtain ⟨A8, l8, c8, rfl, _⟩ := hv0
    clear cR0 cR1 cR2 cR3
    have B2 := Lib.hid (B1.out.trans (hb_2.mono B1.out.size))
    have F2 := Lib.hid (F1.out.next hb_2)
    have G2 := Lib.hid (G1.out.next hb_2)
    have KR2 := Lib.hid (KR1.out.next hb_2)
    have IR2 := Lib.hid (IR1.out.next hb_2)
    have U2 := Lib.hid (hu)
    have V2 := Lib.hid (hv)
    clear hb_2 hu hv
    have cR0 := KR2.out.cell 0
    have cR1 := KR2.out.cell 1
    have cR2 := KR2.out.cell 2
    have cR3 := KR2.out.cell 3
    simp at cR0 cR1 cR2 cR3
    go_wp2_with (fail)
    refine (sdiv_any m e (some ⟨b1, o1, none⟩) (some ⟨b2, o2, none⟩) (FA) (GA) q ca q cb nF cF nG cG X Y (L) (K) _ IR2.out.hX IR2.out.hY F2.out.at_.1 G2.out.at_.1 IR2.out.hla IR2.out.hlb (by have := F2.out.at_.2.2; omega) (by have := G2.out.at_.2.2; omega) IR2.out.hca IR2.out.hcb).mono ?_
    rw [HOK.out]
    rintro e w_3 ⟨u, v, rfl, hu, hv, hb_3⟩
    have hu0 := hu
    have hv0 := hv
    obtain ⟨A9, l9, c9, rfl, _⟩ := hu0
    obtain ⟨A10, l10, c10, rfl, _⟩ := hv0
    clear cR0 cR1 cR2 cR3
    have B3 := Lib.hid (B2.out.trans (hb_3.mono B2.out.size))
    have F3 := Lib.hid (F2.out.next hb_3)
    have G3 := Lib.hid (G2.out.next hb_3)
    have KR3 := Lib.hid (KR2.out.next hb_3)
    have IR3 := Lib.hid (IR2.out.next hb_3)
    have U3 := Lib.hid (U2.out.next hb_3)
    have V3 := Lib.hid (V2.out.next hb_3)
    have T3 := Lib.hid (hu)
    have S3 := Lib.hid (hv)
    clear hb_3 hu hv
    go_wp2_with (fail)
    refine (frSame_any (A7) (A9) l7 l9 c7 c9 _ _ _ _ _ U3.out.at_.1 T3.out.at_.1 (by have := U3.out.at_.2.2; omega) (by have := T3.out.at_.2.2; omega)).mono ?_
    rw [eqL_own_DV]
    rintro e w_4 ⟨rfl, hb_4⟩
    have B4 := Lib.hid (B3.out.trans (hb_4.mono B3.out.size))
    have F4 := Lib.hid (F3.out.next hb_4)
    have G4 := Lib.hid (G3.out.next hb_4)
    have KR4 := Lib.hid (KR3.out.next hb_4)
    have IR4 := Lib.hid (IR3.out.next hb_4)
    have U4 := Lib.hid (U3.out.next hb_4)
    have V4 := Lib.hid (V3.out.next hb_4)
    have T4 := Lib.hid (T3.out.next hb_4)
    have S4 := Lib.hid (S3.out.next hb_4)
    clear hb_4
    go_wp2_with (fail)
    refine (frSame_any (A8) (A10) l8 l10 c8 c10 _ _ _ _ _ V4.out.at_.1 S4.out.at_.1 (by have := V4.out.at_.2.2; omega) (by have := S4.out.at_.2.2; omega)).mono ?_
    rw [eqL_own_DV]
    rintro e w_5 ⟨rfl, hb_5⟩
    have B5 := Lib.hid (B4.out.trans (hb_5.mono B4.out.size))
    have F5 := Lib.hid (F4.out.next hb_5)
    have G5 := Lib.hid (G4.out.next hb_5)
    have KR5 := Lib.hid (KR4.out.next hb_5)
    have IR5 := Lib.hid (IR4.out.next hb_5)
    have U5 := Lib.hid (U4.out.next hb_5)
    have V5 := Lib.hid (V4.out.next hb_5)
    have T5 := Lib.hid (T4.out.next hb_5)
    have S5 := Lib.hid (S4.out.next hb_5)
    clear hb_5
    have cR0 := KR5.out.cell 0
    have cR1 := KR5.out.cell 1
    have cR2 := KR5.out.cell 2
    have cR3 := KR5.out.cell 3
    simp at cR0 cR1 cR2 cR3
    go_wp2_with (fail)
    refine (pmu_any m e (some ⟨b1, o1, none⟩) (some ⟨b2, o2, none⟩) (A7) (GA) q ca q cb l7 c7 nG cG X Y (pdvQ m e X Y L K) (K) _ IR5.out.hX IR5.out.hY U5.out.at_.1 G5.out.at_.1 IR5.out.hla IR5.out.hlb (by have := U5.out.at_.2.2; omega) (by have := G5.out.at_.2.2; omega) IR5.out.hca IR5.out.hcb).mono ?_
    rw [HE1.out]
    rintro e w_6 ⟨v, rfl, hv, hb_6⟩
    have hv0 := hv
    obtain ⟨A11, l11, c11, rfl, _⟩ := hv0
    clear cR0 cR1 cR2 cR3
    have B6 := Lib.hid (B5.out.trans (hb_6.mono B5.out.size))
    have F6 := Lib.hid (F5.out.next hb_6)
    have G6 := Lib.hid (G5.out.next hb_6)
    have KR6 := Lib.hid (KR5.out.next hb_6)
    have IR6 := Lib.hid (IR5.out.next hb_6)
    have U6 := Lib.hid (U5.out.next hb_6)
    have V6 := Lib.hid (V5.out.next hb_6)
    have T6 := Lib.hid (T5.out.next hb_6)
    have S6 := Lib.hid (S5.out.next hb_6)
    have P6 := Lib.hid (hv)
    clear hb_6 hv
    have cR0 := KR6.out.cell 0
    have cR1 := KR6.out.cell 1
    have cR2 := KR6.out.cell 2
    have cR3 := KR6.out.cell 3
    simp at cR0 cR1 cR2 cR3
    go_wp2_with (fail)
    refine (pad_any m e (some ⟨b1, o1, none⟩) (some ⟨b2, o2, none⟩) (A11) (A8) q ca q cb l11 c11 l8 c8 X Y (pmuL m e X Y (pdvQ m e X Y L K) K) (pdvR m e X Y L K) _ IR6.out.hX IR6.out.hY P6.out.at_.1 V6.out.at_.1 IR6.out.hla IR6.out.hlb (by have := P6.out.at_.2.2; omega) (by have := V6.out.at_.2.2; omega) IR6.out.hca IR6.out.hcb).mono ?_
    rw [HE2.out]
    rw [HE3.out]
    rintro e w_7 ⟨v, rfl, hv, hb_7⟩
    have hv0 := hv
    obtain ⟨A12, l12, c12, rfl, _⟩ := hv0
    clear cR0 cR1 cR2 cR3
    have B7 := Lib.hid (B6.out.trans (hb_7.mono B6.out.size))
    have F7 := Lib.hid (F6.out.next hb_7)
    have G7 := Lib.hid (G6.out.next hb_7)
    have KR7 := Lib.hid (KR6.out.next hb_7)
    have IR7 := Lib.hid (IR6.out.next hb_7)
    have U7 := Lib.hid (U6.out.next hb_7)
    have V7 := Lib.hid (V6.out.next hb_7)
    have T7 := Lib.hid (T6.out.next hb_7)
    have S7 := Lib.hid (S6.out.next hb_7)
    have P7 := Lib.hid (P6.out.next hb_7)
    have Z7 := Lib.hid (hv)
    clear hb_7 hv
    go_wp2_with (fail)
    refine (frSame_any (A12) (FA) l12 nF c12 cF _ _ _ _ _ Z7.out.at_.1 F7.out.at_.1 (by have := Z7.out.at_.2.2; omega) (by have := F7.out.at_.2.2; omega)).mono ?_
    rw [eqL_own_DV]
    rintro e w_8 ⟨rfl, hb_8⟩
    have B8 := Lib.hid (B7.out.trans (hb_8.mono B7.out.size))
    have F8 := Lib.hid (F7.out.next hb_8)
    have G8 := Lib.hid (G7.out.next hb_8)
    have KR8 := Lib.hid (KR7.out.next hb_8)
    have IR8 := Lib.hid (IR7.out.next hb_8)
    have U8 := Lib.hid (U7.out.next hb_8)
    have V8 := Lib.hid (V7.out.next hb_8)
    have T8 := Lib.hid (T7.out.next hb_8)
    have S8 := Lib.hid (S7.out.next hb_8)
    have P8 := Lib.hid (P7.out.next hb_8)
    have Z8 := Lib.hid (Z7.out.next hb_8)
    clear hb_8
    have hlt : (l8 : Int) < (nG : Int) := by have h1 := V8.out.at_.1.1; have h2 := G8.out.at_.1.1; have h3 := HE4.out; omega
    go_wp2_with (fail)
    go_ret
    exact ⟨rfl, B8.out⟩

end Go.Proofs.Ytlcpbdbdiahmjaa

