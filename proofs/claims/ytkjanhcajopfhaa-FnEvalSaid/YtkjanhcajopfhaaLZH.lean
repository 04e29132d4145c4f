
import Derived.Test.YtkjanhcajopfhaaLWM
import Derived.Test.YtkjanhcajopfhaaLEO
import Derived.Test.YtkjanhcajopfhaaMH
/- The walk of the law FnEval. -/
namespace Go.Proofs.Ytkjanhcajopfhaa
open Go.RowKit
set_option maxRecDepth 100000

def LI (w : World) (A : Option Addr) (n : Nat) (xs : List Int) : Prop := Ints w w.heap.size A n xs
theorem LI.next {w w' : World} {A : Option Addr} {n : Nat} {xs : List Int} (h : LI w A n xs) (hb : Below w.heap.size w w') : LI w' A n xs := Ints.next h hb
theorem LI.ext {w : World} {A : Option Addr} {n : Nat} {xs : List Int} (h : LI w A n xs) (u : Ext w) : LI (ext w u) A n xs := h.next (ext_below w u)
theorem eqL_own_EV {xs : List Int} : eqL xs xs = true := eqL_true rfl fun _ _ => rfl
set_option maxHeartbeats 16000000 in
theorem fnEval_walk (A : Option Addr) (n c : Nat) (w : World) (hb : Byts w w.heap.size A n) (hc : n ≤ c) (hc2 : c ≤ 9223372036854775807) :
    Calls Try.prog 10 #[.slice A n c] w fun e w' => e = .returned (.bool true) ∧ Below w.heap.size w w' := by
  by_cases hbig : n > 1048576
  · have t0 : decide ((n : Int) > 1048576) = true := by simp; omega
    go_enter Try.func10, Try.ntmps10
    go_wp2_with (fail)
    go_ret
    exact ⟨rfl, Below.refl _ _⟩
  have hn : n ≤ 1048576 := by omega
  have t0 : decide ((n : Int) > 1048576) = false := by simp; omega
  go_enter Try.func10, Try.ntmps10
  go_wp2_with (fail)
  refine (drawMulPoly_any A n c w hb hn hc hc2).mono ?_
  rintro e w_0 ⟨v, v1, v2, rfl, hA, ⟨L, hF, hfl⟩, ⟨K, hG, hgl⟩, hb_0⟩
  obtain ⟨N, O, A1, A2, q, ca, cb, X, Y, rfl, hI, _, _⟩ := hA.rin
  obtain ⟨FA, nF, cF, rfl, _⟩ := id hF
  obtain ⟨GA, nG, cG, rfl, _⟩ := id hG
  clear hA
  have B0 := Lib.hid (hb_0)
  have F0 := Lib.hid (hF)
  have G0 := Lib.hid (hG)
  clear hb_0 hF hG
  obtain ⟨w_1, hV⟩ : ∃ V, World.alloc w_0 (.cells #[.int .i64 N, .int .i64 O, .slice A1 q ca, .slice A2 q cb] 27) = V := ⟨_, rfl⟩
  have hb_1 : Below (World.heap w_0).size w_0 w_1 := by subst hV; exact (Below.refl _ _).alloc (Nat.le_refl _) _
  obtain ⟨bR, hbx⟩ : ∃ b, b = (World.heap w_0).size := ⟨_, rfl⟩
  have KR1 := Lib.hid (show Blk w_1 bR 27 #[.int .i64 N, .int .i64 O, .slice A1 q ca, .slice A2 q cb] by subst hV hbx; exact Blk.new w_0 _ _)
  have B1 := Lib.hid (B0.out.trans (hb_1.mono B0.out.size))
  have F1 := Lib.hid (F0.out.next hb_1)
  have G1 := Lib.hid (G0.out.next hb_1)
  have IR1 := Lib.hid (hI.next hb_1)
  clear hb_1 hI
  go_upto_region 4 with (fail)
  rw [← hbx]
  clear hV hbx
  cases hok : twoB N O X Y L K
  · have HPK := Lib.hid (pmu_no hok)
    have HOK := Lib.hid hok
    clear hok
    cases hvf : polB N O X Y L
    · have HVF := Lib.hid hvf
      clear hvf
      have cR0 := KR1.out.cell 0
      have cR1 := KR1.out.cell 1
      have cR2 := KR1.out.cell 2
      have cR3 := KR1.out.cell 3
      simp at cR0 cR1 cR2 cR3
      go_wp2_with (fail)
      refine (pad_any N O (A1) (A2) (FA) (GA) q ca q cb nF cF nG cG X Y (L) (K) _ IR1.out.hX IR1.out.hY F1.out.at_.1 G1.out.at_.1 IR1.out.hla IR1.out.hlb (by have := F1.out.at_.2.2; omega) (by have := G1.out.at_.2.2; omega) IR1.out.hca IR1.out.hcb).mono ?_
      rw [HOK.out]
      rintro e w_2 ⟨v, rfl, hv, hb_2⟩
      have hv0 := hv
      obtain ⟨A3, l3, c3, rfl, _⟩ := hv0
      clear cR0 cR1 cR2 cR3
      have B2 := Lib.hid (B1.out.trans (hb_2.mono B1.out.size))
      have F2 := Lib.hid (F1.out.next hb_2)
      have G2 := Lib.hid (G1.out.next hb_2)
      have KR2 := Lib.hid (KR1.out.next hb_2)
      have IR2 := Lib.hid (IR1.out.next hb_2)
      have H2 := Lib.hid (hv)
      clear hb_2 hv
      have cR0 := KR2.out.cell 0
      have cR1 := KR2.out.cell 1
      have cR2 := KR2.out.cell 2
      have cR3 := KR2.out.cell 3
      simp at cR0 cR1 cR2 cR3
      go_wp2_with (fail)
      refine (pmu_any N O (A1) (A2) (FA) (GA) q ca q cb nF cF nG cG X Y (L) (K) _ IR2.out.hX IR2.out.hY F2.out.at_.1 G2.out.at_.1 IR2.out.hla IR2.out.hlb (by have := F2.out.at_.2.2; omega) (by have := G2.out.at_.2.2; omega) IR2.out.hca IR2.out.hcb).mono ?_
      rw [HPK.out]
      rintro e w_3 ⟨v, rfl, hv, hb_3⟩
      have hv0 := hv
      obtain ⟨A4, l4, c4, rfl, _⟩ := hv0
      clear cR0 cR1 cR2 cR3
      have B3 := Lib.hid (B2.out.trans (hb_3.mono B2.out.size))
      have F3 := Lib.hid (F2.out.next hb_3)
      have G3 := Lib.hid (G2.out.next hb_3)
      have KR3 := Lib.hid (KR2.out.next hb_3)
      have IR3 := Lib.hid (IR2.out.next hb_3)
      have H3 := Lib.hid (H2.out.next hb_3)
      have P3 := Lib.hid (hv)
      clear hb_3 hv
      have cR0 := KR3.out.cell 0
      have cR1 := KR3.out.cell 1
      have cR2 := KR3.out.cell 2
      have cR3 := KR3.out.cell 3
      simp at cR0 cR1 cR2 cR3
      go_wp2_with (fail)
      refine (spad_anyC N O (A1) (A2) (FA) (GA) q ca q cb nF cF nG cG X Y (L) (K) _ IR3.out.hX IR3.out.hY F3.out.at_.1 G3.out.at_.1 IR3.out.hla IR3.out.hlb (by have := F3.out.at_.2.2; omega) (by have := G3.out.at_.2.2; omega) IR3.out.hca IR3.out.hcb).mono ?_
      rw [HOK.out]
      rintro e w_4 ⟨v, rfl, hv, hb_4⟩
      have hv0 := hv
      obtain ⟨A5, l5, c5, rfl, _⟩ := hv0
      clear cR0 cR1 cR2 cR3
      have B4 := Lib.hid (B3.out.trans (hb_4.mono B3.out.size))
      have F4 := Lib.hid (F3.out.next hb_4)
      have G4 := Lib.hid (G3.out.next hb_4)
      have KR4 := Lib.hid (KR3.out.next hb_4)
      have IR4 := Lib.hid (IR3.out.next hb_4)
      have H4 := Lib.hid (H3.out.next hb_4)
      have P4 := Lib.hid (P3.out.next hb_4)
      have T4 := Lib.hid (hv)
      clear hb_4 hv
      have cR0 := KR4.out.cell 0
      have cR1 := KR4.out.cell 1
      have cR2 := KR4.out.cell 2
      have cR3 := KR4.out.cell 3
      simp at cR0 cR1 cR2 cR3
      go_wp2_with (fail)
      refine (spmu_any N O (A1) (A2) (FA) (GA) q ca q cb nF cF nG cG X Y (L) (K) _ IR4.out.hX IR4.out.hY F4.out.at_.1 G4.out.at_.1 IR4.out.hla IR4.out.hlb (by have := F4.out.at_.2.2; omega) (by have := G4.out.at_.2.2; omega) IR4.out.hca IR4.out.hcb).mono ?_
      rw [HPK.out]
      rintro e w_5 ⟨v, rfl, hv, hb_5⟩
      have hv0 := hv
      obtain ⟨A6, l6, c6, rfl, _⟩ := hv0
      clear cR0 cR1 cR2 cR3
      have B5 := Lib.hid (B4.out.trans (hb_5.mono B4.out.size))
      have F5 := Lib.hid (F4.out.next hb_5)
      have G5 := Lib.hid (G4.out.next hb_5)
      have KR5 := Lib.hid (KR4.out.next hb_5)
      have IR5 := Lib.hid (IR4.out.next hb_5)
      have H5 := Lib.hid (H4.out.next hb_5)
      have P5 := Lib.hid (P4.out.next hb_5)
      have T5 := Lib.hid (T4.out.next hb_5)
      have U5 := Lib.hid (hv)
      clear hb_5 hv
      have ln_F : nF ≤ 1048570 := F5.out.at_.2.2
      have LF5 := Lib.hid (show LI w_5 (FA) nF (L) from F5.out.at_.1)
      have ln_G : nG ≤ 1048570 := G5.out.at_.2.2
      have LG5 := Lib.hid (show LI w_5 (GA) nG (K) from G5.out.at_.1)
      have ln_H : l3 ≤ 1048570 := H5.out.at_.2.2
      have LH5 := Lib.hid (show LI w_5 (A3) l3 (padL N O X Y L K) from H5.out.at_.1)
      have ln_P : l4 ≤ 1048570 := P5.out.at_.2.2
      have LP5 := Lib.hid (show LI w_5 (A4) l4 (pmuL N O X Y L K) from P5.out.at_.1)
      have ln_T : l5 ≤ 1048570 := T5.out.at_.2.2
      have LT5 := Lib.hid (show LI w_5 (A5) l5 (padL N O X Y L K) from T5.out.at_.1)
      have ln_U : l6 ≤ 1048570 := U5.out.at_.2.2
      have LU5 := Lib.hid (show LI w_5 (A6) l6 (pmuL N O X Y L K) from U5.out.at_.1)
      have S1 := Lib.hid (show ∀ u, LI u (A3) l3 (padL N O X Y L K) → LI u (A5) l5 (padL N O X Y L K) → Calls Try.prog 36 #[.slice (A3) l3 c3, .slice (A5) l5 c5] u fun e' w' => e' = .returned (.bool true) ∧ Below u.heap.size u w' from fun u h0 h1 => by have := frSame_any (A3) (A5) l3 l5 c3 c5 _ _ u _ _ h0 h1 (by omega) (by omega); rw [eqL_own_EV] at this; exact this)
      have S2 := Lib.hid (show ∀ u, LI u (A4) l4 (pmuL N O X Y L K) → LI u (A6) l6 (pmuL N O X Y L K) → Calls Try.prog 36 #[.slice (A4) l4 c4, .slice (A6) l6 c6] u fun e' w' => e' = .returned (.bool true) ∧ Below u.heap.size u w' from fun u h0 h1 => by have := frSame_any (A4) (A6) l4 l6 c4 c6 _ _ u _ _ h0 h1 (by omega) (by omega); rw [eqL_own_EV] at this; exact this)
      have V1 := Lib.hid (show ∀ u, RIn u (A1) q ca (A2) q cb X Y → LI u (FA) nF (L) → Calls Try.prog 17 #[.agg #[.int .i64 N, .int .i64 O, .slice (A1) q ca, .slice (A2) q cb], .slice (FA) nF cF] u fun e' w' => e' = .returned (.bool false) ∧ Below u.heap.size u w' from fun u h0 h1 => by have := pol_any N O (A1) (A2) (FA) q ca q cb nF cF X Y (L) u h0.hX h0.hY h1 h0.hla h0.hlb (by omega) h0.hca h0.hcb; rw [HVF.out] at this; exact this)
      have V2 := Lib.hid (show ∀ u, RIn u (A1) q ca (A2) q cb X Y → LI u (FA) nF (L) → Calls Try.prog 14 #[.agg #[.int .i64 N, .int .i64 O, .slice (A1) q ca, .slice (A2) q cb], .slice (FA) nF cF] u fun e' w' => e' = .returned (.bool false) ∧ Below u.heap.size u w' from fun u h0 h1 => by have := spol_any N O (A1) (A2) (FA) q ca q cb nF cF X Y (L) u h0.hX h0.hY h1 h0.hla h0.hlb (by omega) h0.hca h0.hcb; rw [HVF.out] at this; exact this)
      have cR0 := KR5.out.cell 0
      have cR1 := KR5.out.cell 1
      have cR2 := KR5.out.cell 2
      have cR3 := KR5.out.cell 3
      simp at cR0 cR1 cR2 cR3
      go_wp2_with (fail)
      refine wp_region_ext (by kernel_rfl) (by kernel_rfl) ?_
      repeat (go_big_quiet_step (first
        | (go_at_call 36; with_reducible refine calls_ext (S1.out _ (LH5.out.ext _) (LT5.out.ext _)))
        | (go_at_call 36; with_reducible refine calls_ext (S2.out _ (LP5.out.ext _) (LU5.out.ext _)))
        | (go_at_call 17; with_reducible refine calls_ext (V1.out _ (IR5.out.ext _) (LF5.out.ext _)))
        | (go_at_call 14; with_reducible refine calls_ext (V2.out _ (IR5.out.ext _) (LF5.out.ext _)))
        | fail))
      refine wpQuiet_nil ?_
      intro w_6 hb_6
      clear cR0 cR1 cR2 cR3
      have B6 := Lib.hid (B5.out.trans (hb_6.mono B5.out.size))
      have F6 := Lib.hid (F5.out.next hb_6)
      have G6 := Lib.hid (G5.out.next hb_6)
      have KR6 := Lib.hid (KR5.out.next hb_6)
      have IR6 := Lib.hid (IR5.out.next hb_6)
      have H6 := Lib.hid (H5.out.next hb_6)
      have P6 := Lib.hid (P5.out.next hb_6)
      have T6 := Lib.hid (T5.out.next hb_6)
      have U6 := Lib.hid (U5.out.next hb_6)
      have LF6 := Lib.hid (LF5.out.next hb_6)
      have LG6 := Lib.hid (LG5.out.next hb_6)
      have LH6 := Lib.hid (LH5.out.next hb_6)
      have LP6 := Lib.hid (LP5.out.next hb_6)
      have LT6 := Lib.hid (LT5.out.next hb_6)
      have LU6 := Lib.hid (LU5.out.next hb_6)
      clear hb_6
      have cR0 := KR6.out.cell 0
      have cR1 := KR6.out.cell 1
      have cR2 := KR6.out.cell 2
      have cR3 := KR6.out.cell 3
      simp at cR0 cR1 cR2 cR3
      go_wp2_with (fail)
      refine wp_region_ext (by kernel_rfl) (by kernel_rfl) ?_
      repeat (go_big_quiet_step (first
        | (go_at_call 36; with_reducible refine calls_ext (S1.out _ (LH6.out.ext _) (LT6.out.ext _)))
        | (go_at_call 36; with_reducible refine calls_ext (S2.out _ (LP6.out.ext _) (LU6.out.ext _)))
        | (go_at_call 17; with_reducible refine calls_ext (V1.out _ (IR6.out.ext _) (LF6.out.ext _)))
        | (go_at_call 14; with_reducible refine calls_ext (V2.out _ (IR6.out.ext _) (LF6.out.ext _)))
        | fail))
      refine wpQuiet_nil ?_
      intro w_7 hb_7
      clear cR0 cR1 cR2 cR3
      have B7 := Lib.hid (B6.out.trans (hb_7.mono B6.out.size))
      have F7 := Lib.hid (F6.out.next hb_7)
      have G7 := Lib.hid (G6.out.next hb_7)
      have KR7 := Lib.hid (KR6.out.next hb_7)
      have IR7 := Lib.hid (IR6.out.next hb_7)
      have H7 := Lib.hid (H6.out.next hb_7)
      have P7 := Lib.hid (P6.out.next hb_7)
      have T7 := Lib.hid (T6.out.next hb_7)
      have U7 := Lib.hid (U6.out.next hb_7)
      have LF7 := Lib.hid (LF6.out.next hb_7)
      have LG7 := Lib.hid (LG6.out.next hb_7)
      have LH7 := Lib.hid (LH6.out.next hb_7)
      have LP7 := Lib.hid (LP6.out.next hb_7)
      have LT7 := Lib.hid (LT6.out.next hb_7)
      have LU7 := Lib.hid (LU6.out.next hb_7)
      clear hb_7
      go_wp2_with (fail)
      go_ret
      exact ⟨rfl, B7.out⟩
    · have HVF := Lib.hid hvf
      clear hvf
      have cR0 := KR1.out.cell 0
      have cR1 := KR1.out.cell 1
      have cR2 := KR1.out.cell 2
      have cR3 := KR1.out.cell 3
      simp at cR0 cR1 cR2 cR3
      go_wp2_with (fail)
      refine (pad_any N O (A1) (A2) (FA) (GA) q ca q cb nF cF nG cG X Y (L) (K) _ IR1.out.hX IR1.out.hY F1.out.at_.1 G1.out.at_.1 IR1.out.hla IR1.out.hlb (by have := F1.out.at_.2.2; omega) (by have := G1.out.at_.2.2; omega) IR1.out.hca IR1.out.hcb).mono ?_
      rw [HOK.out]
      rintro e w_2 ⟨v, rfl, hv, hb_2⟩
      have hv0 := hv
      obtain ⟨A7, l7, c7, rfl, _⟩ := hv0
      clear cR0 cR1 cR2 cR3
      have B2 := Lib.hid (B1.out.trans (hb_2.mono B1.out.size))
      have F2 := Lib.hid (F1.out.next hb_2)
      have G2 := Lib.hid (G1.out.next hb_2)
      have KR2 := Lib.hid (KR1.out.next hb_2)
      have IR2 := Lib.hid (IR1.out.next hb_2)
      have H2 := Lib.hid (hv)
      clear hb_2 hv
      have cR0 := KR2.out.cell 0
      have cR1 := KR2.out.cell 1
      have cR2 := KR2.out.cell 2
      have cR3 := KR2.out.cell 3
      simp at cR0 cR1 cR2 cR3
      go_wp2_with (fail)
      refine (pmu_any N O (A1) (A2) (FA) (GA) q ca q cb nF cF nG cG X Y (L) (K) _ IR2.out.hX IR2.out.hY F2.out.at_.1 G2.out.at_.1 IR2.out.hla IR2.out.hlb (by have := F2.out.at_.2.2; omega) (by have := G2.out.at_.2.2; omega) IR2.out.hca IR2.out.hcb).mono ?_
      rw [HPK.out]
      rintro e w_3 ⟨v, rfl, hv, hb_3⟩
      have hv0 := hv
      obtain ⟨A8, l8, c8, rfl, _⟩ := hv0
      clear cR0 cR1 cR2 cR3
      have B3 := Lib.hid (B2.out.trans (hb_3.mono B2.out.size))
      have F3 := Lib.hid (F2.out.next hb_3)
      have G3 := Lib.hid (G2.out.next hb_3)
      have KR3 := Lib.hid (KR2.out.next hb_3)
      have IR3 := Lib.hid (IR2.out.next hb_3)
      have H3 := Lib.hid (H2.out.next hb_3)
      have P3 := Lib.hid (hv)
      clear hb_3 hv
      have cR0 := KR3.out.cell 0
      have cR1 := KR3.out.cell 1
      have cR2 := KR3.out.cell 2
      have cR3 := KR3.out.cell 3
      simp at cR0 cR1 cR2 cR3
      go_wp2_with (fail)
      refine (spad_anyC N O (A1) (A2) (FA) (GA) q ca q cb nF cF nG cG X Y (L) (K) _ IR3.out.hX IR3.out.hY F3.out.at_.1 G3.out.at_.1 IR3.out.hla IR3.out.hlb (by have := F3.out.at_.2.2; omega) (by have := G3.out.at_.2.2; omega) IR3.out.hca IR3.out.hcb).mono ?_
      rw [HOK.out]
      rintro e w_4 ⟨v, rfl, hv, hb_4⟩
      have hv0 := hv
      obtain ⟨A9, l9, c9, rfl, _⟩ := hv0
      clear cR0 cR1 cR2 cR3
      have B4 := Lib.hid (B3.out.trans (hb_4.mono B3.out.size))
      have F4 := Lib.hid (F3.out.next hb_4)
      have G4 := Lib.hid (G3.out.next hb_4)
      have KR4 := Lib.hid (KR3.out.next hb_4)
      have IR4 := Lib.hid (IR3.out.next hb_4)
      have H4 := Lib.hid (H3.out.next hb_4)
      have P4 := Lib.hid (P3.out.next hb_4)
      have T4 := Lib.hid (hv)
      clear hb_4 hv
      have cR0 := KR4.out.cell 0
      have cR1 := KR4.out.cell 1
      have cR2 := KR4.out.cell 2
      have cR3 := KR4.out.cell 3
      simp at cR0 cR1 cR2 cR3
      go_wp2_with (fail)
      refine (spmu_any N O (A1) (A2) (FA) (GA) q ca q cb nF cF nG cG X Y (L) (K) _ IR4.out.hX IR4.out.hY F4.out.at_.1 G4.out.at_.1 IR4.out.hla IR4.out.hlb (by have := F4.out.at_.2.2; omega) (by have := G4.out.at_.2.2; omega) IR4.out.hca IR4.out.hcb).mono ?_
      rw [HPK.out]
      rintro e w_5 ⟨v, rfl, hv, hb_5⟩
      have hv0 := hv
      obtain ⟨A10, l10, c10, rfl, _⟩ := hv0
      clear cR0 cR1 cR2 cR3
      have B5 := Lib.hid (B4.out.trans (hb_5.mono B4.out.size))
      have F5 := Lib.hid (F4.out.next hb_5)
      have G5 := Lib.hid (G4.out.next hb_5)
      have KR5 := Lib.hid (KR4.out.next hb_5)
      have IR5 := Lib.hid (IR4.out.next hb_5)
      have H5 := Lib.hid (H4.out.next hb_5)
      have P5 := Lib.hid (P4.out.next hb_5)
      have T5 := Lib.hid (T4.out.next hb_5)
      have U5 := Lib.hid (hv)
      clear hb_5 hv
      have ln_F : nF ≤ 1048570 := F5.out.at_.2.2
      have LF5 := Lib.hid (show LI w_5 (FA) nF (L) from F5.out.at_.1)
      have ln_G : nG ≤ 1048570 := G5.out.at_.2.2
      have LG5 := Lib.hid (show LI w_5 (GA) nG (K) from G5.out.at_.1)
      have ln_H : l7 ≤ 1048570 := H5.out.at_.2.2
      have LH5 := Lib.hid (show LI w_5 (A7) l7 (padL N O X Y L K) from H5.out.at_.1)
      have ln_P : l8 ≤ 1048570 := P5.out.at_.2.2
      have LP5 := Lib.hid (show LI w_5 (A8) l8 (pmuL N O X Y L K) from P5.out.at_.1)
      have ln_T : l9 ≤ 1048570 := T5.out.at_.2.2
      have LT5 := Lib.hid (show LI w_5 (A9) l9 (padL N O X Y L K) from T5.out.at_.1)
      have ln_U : l10 ≤ 1048570 := U5.out.at_.2.2
      have LU5 := Lib.hid (show LI w_5 (A10) l10 (pmuL N O X Y L K) from U5.out.at_.1)
      have S1 := Lib.hid (show ∀ u, LI u (A7) l7 (padL N O X Y L K) → LI u (A9) l9 (padL N O X Y L K) → Calls Try.prog 36 #[.slice (A7) l7 c7, .slice (A9) l9 c9] u fun e' w' => e' = .returned (.bool true) ∧ Below u.heap.size u w' from fun u h0 h1 => by have := frSame_any (A7) (A9) l7 l9 c7 c9 _ _ u _ _ h0 h1 (by omega) (by omega); rw [eqL_own_EV] at this; exact this)
      have S2 := Lib.hid (show ∀ u, LI u (A8) l8 (pmuL N O X Y L K) → LI u (A10) l10 (pmuL N O X Y L K) → Calls Try.prog 36 #[.slice (A8) l8 c8, .slice (A10) l10 c10] u fun e' w' => e' = .returned (.bool true) ∧ Below u.heap.size u w' from fun u h0 h1 => by have := frSame_any (A8) (A10) l8 l10 c8 c10 _ _ u _ _ h0 h1 (by omega) (by omega); rw [eqL_own_EV] at this; exact this)
      have V1 := Lib.hid (show ∀ u, RIn u (A1) q ca (A2) q cb X Y → LI u (FA) nF (L) → Calls Try.prog 17 #[.agg #[.int .i64 N, .int .i64 O, .slice (A1) q ca, .slice (A2) q cb], .slice (FA) nF cF] u fun e' w' => e' = .returned (.bool true) ∧ Below u.heap.size u w' from fun u h0 h1 => by have := pol_any N O (A1) (A2) (FA) q ca q cb nF cF X Y (L) u h0.hX h0.hY h1 h0.hla h0.hlb (by omega) h0.hca h0.hcb; rw [HVF.out] at this; exact this)
      have V2 := Lib.hid (show ∀ u, RIn u (A1) q ca (A2) q cb X Y → LI u (FA) nF (L) → Calls Try.prog 14 #[.agg #[.int .i64 N, .int .i64 O, .slice (A1) q ca, .slice (A2) q cb], .slice (FA) nF cF] u fun e' w' => e' = .returned (.bool true) ∧ Below u.heap.size u w' from fun u h0 h1 => by have := spol_any N O (A1) (A2) (FA) q ca q cb nF cF X Y (L) u h0.hX h0.hY h1 h0.hla h0.hlb (by omega) h0.hca h0.hcb; rw [HVF.out] at this; exact this)
      have cR0 := KR5.out.cell 0
      have cR1 := KR5.out.cell 1
      have cR2 := KR5.out.cell 2
      have cR3 := KR5.out.cell 3
      simp at cR0 cR1 cR2 cR3
      go_wp2_with (fail)
      refine wp_region_ext (by kernel_rfl) (by kernel_rfl) ?_
      repeat (go_big_quiet_step (first
        | (go_at_call 36; with_reducible refine calls_ext (S1.out _ (LH5.out.ext _) (LT5.out.ext _)))
        | (go_at_call 36; with_reducible refine calls_ext (S2.out _ (LP5.out.ext _) (LU5.out.ext _)))
        | (go_at_call 17; with_reducible refine calls_ext (V1.out _ (IR5.out.ext _) (LF5.out.ext _)))
        | (go_at_call 14; with_reducible refine calls_ext (V2.out _ (IR5.out.ext _) (LF5.out.ext _)))
        | fail))
      refine wpQuiet_nil ?_
      intro w_6 hb_6
      clear cR0 cR1 cR2 cR3
      have B6 := Lib.hid (B5.out.trans (hb_6.mono B5.out.size))
      have F6 := Lib.hid (F5.out.next hb_6)
      have G6 := Lib.hid (G5.out.next hb_6)
      have KR6 := Lib.hid (KR5.out.next hb_6)
      have IR6 := Lib.hid (IR5.out.next hb_6)
      have H6 := Lib.hid (H5.out.next hb_6)
      have P6 := Lib.hid (P5.out.next hb_6)
      have T6 := Lib.hid (T5.out.next hb_6)
      have U6 := Lib.hid (U5.out.next hb_6)
      have LF6 := Lib.hid (LF5.out.next hb_6)
      have LG6 := Lib.hid (LG5.out.next hb_6)
      have LH6 := Lib.hid (LH5.out.next hb_6)
      have LP6 := Lib.hid (LP5.out.next hb_6)
      have LT6 := Lib.hid (LT5.out.next hb_6)
      have LU6 := Lib.hid (LU5.out.next hb_6)
      clear hb_6
      have cR0 := KR6.out.cell 0
      have cR1 := KR6.out.cell 1
      have cR2 := KR6.out.cell 2
      have cR3 := KR6.out.cell 3
      simp at cR0 cR1 cR2 cR3
      go_wp2_with (fail)
      refine wp_region_ext (by kernel_rfl) (by kernel_rfl) ?_
      repeat (go_big_quiet_step (first
        | (go_at_call 36; with_reducible refine calls_ext (S1.out _ (LH6.out.ext _) (LT6.out.ext _)))
        | (go_at_call 36; with_reducible refine calls_ext (S2.out _ (LP6.out.ext _) (LU6.out.ext _)))
        | (go_at_call 17; with_reducible refine calls_ext (V1.out _ (IR6.out.ext _) (LF6.out.ext _)))
        | (go_at_call 14; with_reducible refine calls_ext (V2.out _ (IR6.out.ext _) (LF6.out.ext _)))
        | fail))
      refine wpQuiet_nil ?_
      intro w_7 hb_7
      clear cR0 cR1 cR2 cR3
      have B7 := Lib.hid (B6.out.trans (hb_7.mono B6.out.size))
      have F7 := Lib.hid (F6.out.next hb_7)
      have G7 := Lib.hid (G6.out.next hb_7)
      have KR7 := Lib.hid (KR6.out.next hb_7)
      have IR7 := Lib.hid (IR6.out.next hb_7)
      have H7 := Lib.hid (H6.out.next hb_7)
      have P7 := Lib.hid (P6.out.next hb_7)
      have T7 := Lib.hid (T6.out.next hb_7)
      have U7 := Lib.hid (U6.out.next hb_7)
      have LF7 := Lib.hid (LF6.out.next hb_7)
      have LG7 := Lib.hid (LG6.out.next hb_7)
      have LH7 := Lib.hid (LH6.out.next hb_7)
      have LP7 := Lib.hid (LP6.out.next hb_7)
      have LT7 := Lib.hid (LT6.out.next hb_7)
      have LU7 := Lib.hid (LU6.out.next hb_7)
      clear hb_7
      go_wp2_with (fail)
      go_ret
      exact ⟨rfl, B7.out⟩
  · skip
    obtain ⟨m, e, b1, o1, b2, o2, rfl, rfl, rfl, rfl, hr, _, lX, lY, gX, gY⟩ := valid_data (pol_data (two_data hok).1).1 IR1.out.hX IR1.out.hY IR1.out.hca IR1.out.hcb
    have hm := hr.hm
    have hm' := hr.hm'
    obtain ⟨hE1, hE2, hE3, hE4, hE5⟩ := eval_law hok hm'
    have VV := Lib.hid (pol_data (two_data hok).1).1
    have HVF := Lib.hid (two_data hok).1
    have HE1 := Lib.hid hE1
    have HE2 := Lib.hid hE2
    have HE3 := Lib.hid hE3
    have HE4 := Lib.hid hE4
    have HE5 := Lib.hid hE5
    have HOK := Lib.hid hok
    clear hok hr lX lY gX gY hE1 hE2 hE3 hE4 hE5
    cases hpk : pmuB m e X Y L K
    · have HPK := Lib.hid hpk
      clear hpk
      have cR0 := KR1.out.cell 0
      have cR1 := KR1.out.cell 1
      have cR2 := KR1.out.cell 2
      have cR3 := KR1.out.cell 3
      simp at cR0 cR1 cR2 cR3
      go_wp2_with (fail)
      refine (pad_any m e (some ⟨b1, o1, none⟩) (some ⟨b2, o2, none⟩) (FA) (GA) q ca q cb nF cF nG cG X Y (L) (K) _ IR1.out.hX IR1.out.hY F1.out.at_.1 G1.out.at_.1 IR1.out.hla IR1.out.hlb (by have := F1.out.at_.2.2; omega) (by have := G1.out.at_.2.2; omega) IR1.out.hca IR1.out.hcb).mono ?_
      rw [HOK.out]
      rintro e w_2 ⟨v, rfl, hv, hb_2⟩
      have hv0 := hv
      obtain ⟨A11, l11, c11, rfl, _⟩ := hv0
      clear cR0 cR1 cR2 cR3
      have B2 := Lib.hid (B1.out.trans (hb_2.mono B1.out.size))
      have F2 := Lib.hid (F1.out.next hb_2)
      have G2 := Lib.hid (G1.out.next hb_2)
      have KR2 := Lib.hid (KR1.out.next hb_2)
      have IR2 := Lib.hid (IR1.out.next hb_2)
      have H2 := Lib.hid (hv)
      clear hb_2 hv
      have cR0 := KR2.out.cell 0
      have cR1 := KR2.out.cell 1
      have cR2 := KR2.out.cell 2
      have cR3 := KR2.out.cell 3
      simp at cR0 cR1 cR2 cR3
      go_wp2_with (fail)
      refine (pmu_any m e (some ⟨b1, o1, none⟩) (some ⟨b2, o2, none⟩) (FA) (GA) q ca q cb nF cF nG cG X Y (L) (K) _ IR2.out.hX IR2.out.hY F2.out.at_.1 G2.out.at_.1 IR2.out.hla IR2.out.hlb (by have := F2.out.at_.2.2; omega) (by have := G2.out.at_.2.2; omega) IR2.out.hca IR2.out.hcb).mono ?_
      rw [HPK.out]
      rintro e w_3 ⟨v, rfl, hv, hb_3⟩
      have hv0 := hv
      obtain ⟨A12, l12, c12, rfl, _⟩ := hv0
      clear cR0 cR1 cR2 cR3
      have B3 := Lib.hid (B2.out.trans (hb_3.mono B2.out.size))
      have F3 := Lib.hid (F2.out.next hb_3)
      have G3 := Lib.hid (G2.out.next hb_3)
      have KR3 := Lib.hid (KR2.out.next hb_3)
      have IR3 := Lib.hid (IR2.out.next hb_3)
      have H3 := Lib.hid (H2.out.next hb_3)
      have P3 := Lib.hid (hv)
      clear hb_3 hv
      have cR0 := KR3.out.cell 0
      have cR1 := KR3.out.cell 1
      have cR2 := KR3.out.cell 2
      have cR3 := KR3.out.cell 3
      simp at cR0 cR1 cR2 cR3
      go_wp2_with (fail)
      refine (spad_anyC m e (some ⟨b1, o1, none⟩) (some ⟨b2, o2, none⟩) (FA) (GA) q ca q cb nF cF nG cG X Y (L) (K) _ IR3.out.hX IR3.out.hY F3.out.at_.1 G3.out.at_.1 IR3.out.hla IR3.out.hlb (by have := F3.out.at_.2.2; omega) (by have := G3.out.at_.2.2; omega) IR3.out.hca IR3.out.hcb).mono ?_
      rw [HOK.out]
      rintro e w_4 ⟨v, rfl, hv, hb_4⟩
      have hv0 := hv
      obtain ⟨A13, l13, c13, rfl, _⟩ := hv0
      clear cR0 cR1 cR2 cR3
      have B4 := Lib.hid (B3.out.trans (hb_4.mono B3.out.size))
      have F4 := Lib.hid (F3.out.next hb_4)
      have G4 := Lib.hid (G3.out.next hb_4)
      have KR4 := Lib.hid (KR3.out.next hb_4)
      have IR4 := Lib.hid (IR3.out.next hb_4)
      have H4 := Lib.hid (H3.out.next hb_4)
      have P4 := Lib.hid (P3.out.next hb_4)
      have T4 := Lib.hid (hv)
      clear hb_4 hv
      have cR0 := KR4.out.cell 0
      have cR1 := KR4.out.cell 1
      have cR2 := KR4.out.cell 2
      have cR3 := KR4.out.cell 3
      simp at cR0 cR1 cR2 cR3
      go_wp2_with (fail)
      refine (spmu_any m e (some ⟨b1, o1, none⟩) (some ⟨b2, o2, none⟩) (FA) (GA) q ca q cb nF cF nG cG X Y (L) (K) _ IR4.out.hX IR4.out.hY F4.out.at_.1 G4.out.at_.1 IR4.out.hla IR4.out.hlb (by have := F4.out.at_.2.2; omega) (by have := G4.out.at_.2.2; omega) IR4.out.hca IR4.out.hcb).mono ?_
      rw [HPK.out]
      rintro e w_5 ⟨v, rfl, hv, hb_5⟩
      have hv0 := hv
      obtain ⟨A14, l14, c14, rfl, _⟩ := hv0
      clear cR0 cR1 cR2 cR3
      have B5 := Lib.hid (B4.out.trans (hb_5.mono B4.out.size))
      have F5 := Lib.hid (F4.out.next hb_5)
      have G5 := Lib.hid (G4.out.next hb_5)
      have KR5 := Lib.hid (KR4.out.next hb_5)
      have IR5 := Lib.hid (IR4.out.next hb_5)
      have H5 := Lib.hid (H4.out.next hb_5)
      have P5 := Lib.hid (P4.out.next hb_5)
      have T5 := Lib.hid (T4.out.next hb_5)
      have U5 := Lib.hid (hv)
      clear hb_5 hv
      have ln_F : nF ≤ 1048570 := F5.out.at_.2.2
      have LF5 := Lib.hid (show LI w_5 (FA) nF (L) from F5.out.at_.1)
      have ln_G : nG ≤ 1048570 := G5.out.at_.2.2
      have LG5 := Lib.hid (show LI w_5 (GA) nG (K) from G5.out.at_.1)
      have ln_H : l11 ≤ 1048570 := H5.out.at_.2.2
      have LH5 := Lib.hid (show LI w_5 (A11) l11 (padL m e X Y L K) from H5.out.at_.1)
      have ln_P : l12 ≤ 1048570 := P5.out.at_.2.2
      have LP5 := Lib.hid (show LI w_5 (A12) l12 (pmuL m e X Y L K) from P5.out.at_.1)
      have ln_T : l13 ≤ 1048570 := T5.out.at_.2.2
      have LT5 := Lib.hid (show LI w_5 (A13) l13 (padL m e X Y L K) from T5.out.at_.1)
      have ln_U : l14 ≤ 1048570 := U5.out.at_.2.2
      have LU5 := Lib.hid (show LI w_5 (A14) l14 (pmuL m e X Y L K) from U5.out.at_.1)
      have S1 := Lib.hid (show ∀ u, LI u (A11) l11 (padL m e X Y L K) → LI u (A13) l13 (padL m e X Y L K) → Calls Try.prog 36 #[.slice (A11) l11 c11, .slice (A13) l13 c13] u fun e' w' => e' = .returned (.bool true) ∧ Below u.heap.size u w' from fun u h0 h1 => by have := frSame_any (A11) (A13) l11 l13 c11 c13 _ _ u _ _ h0 h1 (by omega) (by omega); rw [eqL_own_EV] at this; exact this)
      have S2 := Lib.hid (show ∀ u, LI u (A12) l12 (pmuL m e X Y L K) → LI u (A14) l14 (pmuL m e X Y L K) → Calls Try.prog 36 #[.slice (A12) l12 c12, .slice (A14) l14 c14] u fun e' w' => e' = .returned (.bool true) ∧ Below u.heap.size u w' from fun u h0 h1 => by have := frSame_any (A12) (A14) l12 l14 c12 c14 _ _ u _ _ h0 h1 (by omega) (by omega); rw [eqL_own_EV] at this; exact this)
      have V1 := Lib.hid (show ∀ u, RIn u (some ⟨b1, o1, none⟩) q ca (some ⟨b2, o2, none⟩) q cb X Y → LI u (FA) nF (L) → Calls Try.prog 17 #[.agg #[.int .i64 m, .int .i64 e, .slice (some ⟨b1, o1, none⟩) q ca, .slice (some ⟨b2, o2, none⟩) q cb], .slice (FA) nF cF] u fun e' w' => e' = .returned (.bool true) ∧ Below u.heap.size u w' from fun u h0 h1 => by have := pol_any m e (some ⟨b1, o1, none⟩) (some ⟨b2, o2, none⟩) (FA) q ca q cb nF cF X Y (L) u h0.hX h0.hY h1 h0.hla h0.hlb (by omega) h0.hca h0.hcb; rw [HVF.out] at this; exact this)
      have V2 := Lib.hid (show ∀ u, RIn u (some ⟨b1, o1, none⟩) q ca (some ⟨b2, o2, none⟩) q cb X Y → LI u (FA) nF (L) → Calls Try.prog 14 #[.agg #[.int .i64 m, .int .i64 e, .slice (some ⟨b1, o1, none⟩) q ca, .slice (some ⟨b2, o2, none⟩) q cb], .slice (FA) nF cF] u fun e' w' => e' = .returned (.bool true) ∧ Below u.heap.size u w' from fun u h0 h1 => by have := spol_any m e (some ⟨b1, o1, none⟩) (some ⟨b2, o2, none⟩) (FA) q ca q cb nF cF X Y (L) u h0.hX h0.hY h1 h0.hla h0.hlb (by omega) h0.hca h0.hcb; rw [HVF.out] at this; exact this)
      have cR0 := KR5.out.cell 0
      have cR1 := KR5.out.cell 1
      have cR2 := KR5.out.cell 2
      have cR3 := KR5.out.cell 3
      simp at cR0 cR1 cR2 cR3
      go_wp2_with (fail)
      refine wp_region_ext (by kernel_rfl) (by kernel_rfl) ?_
      repeat (go_big_quiet_step (first
        | (go_at_call 36; with_reducible refine calls_ext (S1.out _ (LH5.out.ext _) (LT5.out.ext _)))
        | (go_at_call 36; with_reducible refine calls_ext (S2.out _ (LP5.out.ext _) (LU5.out.ext _)))
        | (go_at_call 17; with_reducible refine calls_ext (V1.out _ (IR5.out.ext _) (LF5.out.ext _)))
        | (go_at_call 14; with_reducible refine calls_ext (V2.out _ (IR5.out.ext _) (LF5.out.ext _)))
        | fail))
      refine wpQuiet_nil ?_
      intro w_6 hb_6
      clear cR0 cR1 cR2 cR3
      have B6 := Lib.hid (B5.out.trans (hb_6.mono B5.out.size))
      have F6 := Lib.hid (F5.out.next hb_6)
      have G6 := Lib.hid (G5.out.next hb_6)
      have KR6 := Lib.hid (KR5.out.next hb_6)
      have IR6 := Lib.hid (IR5.out.next hb_6)
      have H6 := Lib.hid (H5.out.next hb_6)
      have P6 := Lib.hid (P5.out.next hb_6)
      have T6 := Lib.hid (T5.out.next hb_6)
      have U6 := Lib.hid (U5.out.next hb_6)
      have LF6 := Lib.hid (LF5.out.next hb_6)
      have LG6 := Lib.hid (LG5.out.next hb_6)
      have LH6 := Lib.hid (LH5.out.next hb_6)
      have LP6 := Lib.hid (LP5.out.next hb_6)
      have LT6 := Lib.hid (LT5.out.next hb_6)
      have LU6 := Lib.hid (LU5.out.next hb_6)
      clear hb_6
      clear S1 S2 V1 V2
      have lenF : L.length = nF := LF6.out.1
      have lenG : K.length = nG := LG6.out.1
      have hE4 : l11 ≤ max nF nG := by have h := HE4.out; rw [show (padL m e X Y L K).length = l11 from LH6.out.1, lenF, lenG] at h; exact h
      have hE5 : 0 < nF → 0 < nG → l12 < nF + nG := by have h := HE5.out; rw [show (pmuL m e X Y L K).length = l12 from LP6.out.1, lenF, lenG] at h; exact h
      have sF : nF ≤ 17 := by rw [← lenF]; exact hfl
      have sG : nG ≤ 17 := by rw [← lenG]; exact hgl
      have HL4 := Lib.hid hE4
      have HL5 := Lib.hid hE5
      clear hE4 hE5 lenF lenG
      have cR0 := KR6.out.cell 0
      have cR1 := KR6.out.cell 1
      have cR2 := KR6.out.cell 2
      have cR3 := KR6.out.cell 3
      simp at cR0 cR1 cR2 cR3
      go_wp2_with (fail)
      go_loopw [120] (fun iv wr => ∃ y : Nat, y ≤ m ∧ iv = .int .i64 y ∧ Below w_6.heap.size w_6 wr) (fun iv _ => m - (intOf iv).toNat)
      case atStart => exact ⟨0, Nat.zero_le _, rfl, Below.refl _ _⟩
      case round =>
        obtain ⟨y, hy, rfl, hbr⟩ := hrel
        have BK := Lib.hid hbr
        clear cR0 cR1 cR2 cR3
        have B140 := Lib.hid (B6.out.trans (hbr.mono B6.out.size))
        have F140 := Lib.hid (F6.out.next hbr)
        have G140 := Lib.hid (G6.out.next hbr)
        have KR140 := Lib.hid (KR6.out.next hbr)
        have IR140 := Lib.hid (IR6.out.next hbr)
        have H140 := Lib.hid (H6.out.next hbr)
        have P140 := Lib.hid (P6.out.next hbr)
        have T140 := Lib.hid (T6.out.next hbr)
        have U140 := Lib.hid (U6.out.next hbr)
        have LF140 := Lib.hid (LF6.out.next hbr)
        have LG140 := Lib.hid (LG6.out.next hbr)
        have LH140 := Lib.hid (LH6.out.next hbr)
        have LP140 := Lib.hid (LP6.out.next hbr)
        have LT140 := Lib.hid (LT6.out.next hbr)
        have LU140 := Lib.hid (LU6.out.next hbr)
        clear hbr
        obtain ⟨w_140, rfl⟩ : ∃ ws, ws = wr := ⟨_, rfl⟩
        by_cases hlt : y < m
        · obtain ⟨a, b, sv, pv, ha, hb, e1, e2, e3, e4, e5, e6⟩ := HE1.out y hlt
          have E1 := Lib.hid e1
          have E2 := Lib.hid e2
          have E3 := Lib.hid e3
          have E4 := Lib.hid e4
          have E5 := Lib.hid e5
          clear e1 e2 e3 e4 e5 e6
          have ta : ((a : Int) != (a : Int)) = false := by simp
          have ts : ((sv : Int) != (sv : Int)) = false := by simp
          have tp : ((pv : Int) != (pv : Int)) = false := by simp
          have F1 := Lib.hid (show ∀ u, RIn u (some ⟨b1, o1, none⟩) q ca (some ⟨b2, o2, none⟩) q cb X Y → LI u (FA) nF (L) → Calls Try.prog 21 #[.agg #[.int .i64 m, .int .i64 e, .slice (some ⟨b1, o1, none⟩) q ca, .slice (some ⟨b2, o2, none⟩) q cb], .slice (FA) nF cF, .int .i64 (y : Int)] u fun e' w' => e' = .returned (.int .i64 (a : Int)) ∧ Below u.heap.size u w' from fun u h0 h1 => by have := eva_any m e (some ⟨b1, o1, none⟩) (some ⟨b2, o2, none⟩) (FA) q ca q cb nF cF X Y (L) (y : Int) u h0.hX h0.hY h1 h0.hla h0.hlb (by omega) h0.hca h0.hcb; rw [E1.out] at this; exact this)
          have F2 := Lib.hid (show ∀ u, RIn u (some ⟨b1, o1, none⟩) q ca (some ⟨b2, o2, none⟩) q cb X Y → LI u (GA) nG (K) → Calls Try.prog 21 #[.agg #[.int .i64 m, .int .i64 e, .slice (some ⟨b1, o1, none⟩) q ca, .slice (some ⟨b2, o2, none⟩) q cb], .slice (GA) nG cG, .int .i64 (y : Int)] u fun e' w' => e' = .returned (.int .i64 (b : Int)) ∧ Below u.heap.size u w' from fun u h0 h1 => by have := eva_any m e (some ⟨b1, o1, none⟩) (some ⟨b2, o2, none⟩) (GA) q ca q cb nG cG X Y (K) (y : Int) u h0.hX h0.hY h1 h0.hla h0.hlb (by omega) h0.hca h0.hcb; rw [E2.out] at this; exact this)
          have F3 := Lib.hid (show ∀ u, RIn u (some ⟨b1, o1, none⟩) q ca (some ⟨b2, o2, none⟩) q cb X Y → LI u (FA) nF (L) → Calls Try.prog 20 #[.agg #[.int .i64 m, .int .i64 e, .slice (some ⟨b1, o1, none⟩) q ca, .slice (some ⟨b2, o2, none⟩) q cb], .slice (FA) nF cF, .int .i64 (y : Int)] u fun e' w' => e' = .returned (.int .i64 (a : Int)) ∧ Below u.heap.size u w' from fun u h0 h1 => by have := seva_any m e (some ⟨b1, o1, none⟩) (some ⟨b2, o2, none⟩) (FA) q ca q cb nF cF X Y (L) (y : Int) u h0.hX h0.hY h1 h0.hla h0.hlb (by omega) h0.hca h0.hcb; rw [E1.out] at this; exact this)
          have F4 := Lib.hid (show ∀ u, RIn u (some ⟨b1, o1, none⟩) q ca (some ⟨b2, o2, none⟩) q cb X Y → LI u (A11) l11 (padL m e X Y L K) → Calls Try.prog 21 #[.agg #[.int .i64 m, .int .i64 e, .slice (some ⟨b1, o1, none⟩) q ca, .slice (some ⟨b2, o2, none⟩) q cb], .slice (A11) l11 c11, .int .i64 (y : Int)] u fun e' w' => e' = .returned (.int .i64 (sv : Int)) ∧ Below u.heap.size u w' from fun u h0 h1 => by have := eva_any m e (some ⟨b1, o1, none⟩) (some ⟨b2, o2, none⟩) (A11) q ca q cb l11 c11 X Y (padL m e X Y L K) (y : Int) u h0.hX h0.hY h1 h0.hla h0.hlb (by omega) h0.hca h0.hcb; rw [E5.out] at this; exact this)
          have F5 := Lib.hid (show ∀ u, RIn u (some ⟨b1, o1, none⟩) q ca (some ⟨b2, o2, none⟩) q cb X Y → Calls Try.prog 37 #[.agg #[.int .i64 m, .int .i64 e, .slice (some ⟨b1, o1, none⟩) q ca, .slice (some ⟨b2, o2, none⟩) q cb], .int .i64 (a : Int), .int .i64 (b : Int)] u fun e' w' => e' = .returned (.int .i64 (sv : Int)) ∧ Below u.heap.size u w' from fun u h0 => c_frAdd h0 VV.out ha hb E3.out rfl rfl rfl)
          have cR0 := KR140.out.cell 0
          have cR1 := KR140.out.cell 1
          have cR2 := KR140.out.cell 2
          have cR3 := KR140.out.cell 3
          simp at cR0 cR1 cR2 cR3
          go_wp2_with (fail)
          refine wp_region_ext (by kernel_rfl) (by kernel_rfl) ?_
          repeat (go_big_quiet_step (first
            | (go_at_call 21; with_reducible refine calls_ext (F1.out _ (IR140.out.ext _) (LF140.out.ext _)))
            | (go_at_call 21; with_reducible refine calls_ext (F2.out _ (IR140.out.ext _) (LG140.out.ext _)))
            | fail))
          refine wpQuiet_nil ?_
          intro w_141 hb_141
          have BK1 := Lib.hid (BK.out.trans (hb_141.mono BK.out.size))
          clear cR0 cR1 cR2 cR3
          have B141 := Lib.hid (B140.out.trans (hb_141.mono B140.out.size))
          have F141 := Lib.hid (F140.out.next hb_141)
          have G141 := Lib.hid (G140.out.next hb_141)
          have KR141 := Lib.hid (KR140.out.next hb_141)
          have IR141 := Lib.hid (IR140.out.next hb_141)
          have H141 := Lib.hid (H140.out.next hb_141)
          have P141 := Lib.hid (P140.out.next hb_141)
          have T141 := Lib.hid (T140.out.next hb_141)
          have U141 := Lib.hid (U140.out.next hb_141)
          have LF141 := Lib.hid (LF140.out.next hb_141)
          have LG141 := Lib.hid (LG140.out.next hb_141)
          have LH141 := Lib.hid (LH140.out.next hb_141)
          have LP141 := Lib.hid (LP140.out.next hb_141)
          have LT141 := Lib.hid (LT140.out.next hb_141)
          have LU141 := Lib.hid (LU140.out.next hb_141)
          clear hb_141
          have cR0 := KR141.out.cell 0
          have cR1 := KR141.out.cell 1
          have cR2 := KR141.out.cell 2
          have cR3 := KR141.out.cell 3
          simp at cR0 cR1 cR2 cR3
          go_wp2_with (fail)
          refine wp_region_ext (by kernel_rfl) (by kernel_rfl) ?_
          repeat (go_big_quiet_step (first
            | (go_at_call 20; with_reducible refine calls_ext (F3.out _ (IR141.out.ext _) (LF141.out.ext _)))
            | (go_at_call 21; with_reducible refine calls_ext (F4.out _ (IR141.out.ext _) (LH141.out.ext _)))
            | (go_at_call 37; with_reducible refine calls_ext (F5.out _ (IR141.out.ext _)))
            | fail))
          refine wpQuiet_nil ?_
          intro w_142 hb_142
          have BK2 := Lib.hid (BK1.out.trans (hb_142.mono BK1.out.size))
          clear cR0 cR1 cR2 cR3
          have B142 := Lib.hid (B141.out.trans (hb_142.mono B141.out.size))
          have F142 := Lib.hid (F141.out.next hb_142)
          have G142 := Lib.hid (G141.out.next hb_142)
          have KR142 := Lib.hid (KR141.out.next hb_142)
          have IR142 := Lib.hid (IR141.out.next hb_142)
          have H142 := Lib.hid (H141.out.next hb_142)
          have P142 := Lib.hid (P141.out.next hb_142)
          have T142 := Lib.hid (T141.out.next hb_142)
          have U142 := Lib.hid (U141.out.next hb_142)
          have LF142 := Lib.hid (LF141.out.next hb_142)
          have LG142 := Lib.hid (LG141.out.next hb_142)
          have LH142 := Lib.hid (LH141.out.next hb_142)
          have LP142 := Lib.hid (LP141.out.next hb_142)
          have LT142 := Lib.hid (LT141.out.next hb_142)
          have LU142 := Lib.hid (LU141.out.next hb_142)
          clear hb_142
          go_wp2
          go_roundw
          case rel => exact ⟨y + 1, by omega, by go_num, BK2.out⟩
          case measure => simp [intOf]; omega
        · skip
          have cR0 := KR140.out.cell 0
          have cR1 := KR140.out.cell 1
          have cR2 := KR140.out.cell 2
          have cR3 := KR140.out.cell 3
          simp at cR0 cR1 cR2 cR3
          go_wp2_with (fail)
          refine (pol_any m e (some ⟨b1, o1, none⟩) (some ⟨b2, o2, none⟩) (A11) q ca q cb l11 c11 X Y (padL m e X Y L K) _ IR140.out.hX IR140.out.hY H140.out.at_.1 IR140.out.hla IR140.out.hlb (by have := H140.out.at_.2.2; omega) IR140.out.hca IR140.out.hcb).mono ?_
          rw [HE2.out]
          rintro e w_141 ⟨rfl, hb_141⟩
          clear cR0 cR1 cR2 cR3
          have B141 := Lib.hid (B140.out.trans (hb_141.mono B140.out.size))
          have F141 := Lib.hid (F140.out.next hb_141)
          have G141 := Lib.hid (G140.out.next hb_141)
          have KR141 := Lib.hid (KR140.out.next hb_141)
          have IR141 := Lib.hid (IR140.out.next hb_141)
          have H141 := Lib.hid (H140.out.next hb_141)
          have P141 := Lib.hid (P140.out.next hb_141)
          have T141 := Lib.hid (T140.out.next hb_141)
          have U141 := Lib.hid (U140.out.next hb_141)
          have LF141 := Lib.hid (LF140.out.next hb_141)
          have LG141 := Lib.hid (LG140.out.next hb_141)
          have LH141 := Lib.hid (LH140.out.next hb_141)
          have LP141 := Lib.hid (LP140.out.next hb_141)
          have LT141 := Lib.hid (LT140.out.next hb_141)
          have LU141 := Lib.hid (LU140.out.next hb_141)
          clear hb_141
          have hx4 := HL4.out
          have hx5 := HL5.out
          by_cases hfg : nF < nG
          · have hle : (l11 : Int) ≤ (nG : Int) := by omega
            by_cases h0 : nF = 0
            · have z0 : ((nF : Int) == 0) = true := by simp; omega
              go_wp2_with (fail)
              go_ret
              exact ⟨rfl, B141.out⟩
            · have z0 : ((nF : Int) == 0) = false := by simp; omega
              have z1 : ((nG : Int) == 0) = false := by simp; omega
              have z2 : (l12 : Int) < (nF : Int) + (nG : Int) := by have := hx5 (by omega) (by omega); omega
              go_wp2_with (fail)
              go_ret
              exact ⟨rfl, B141.out⟩
          · have hle : (l11 : Int) ≤ (nF : Int) := by omega
            by_cases h0 : nF = 0
            · have z0 : ((nF : Int) == 0) = true := by simp; omega
              go_wp2_with (fail)
              go_ret
              exact ⟨rfl, B141.out⟩
            · have z0 : ((nF : Int) == 0) = false := by simp; omega
              by_cases h1 : nG = 0
              · have z1 : ((nG : Int) == 0) = true := by simp; omega
                go_wp2_with (fail)
                go_ret
                exact ⟨rfl, B141.out⟩
              · skip
                have z1 : ((nG : Int) == 0) = false := by simp; omega
                have z2 : (l12 : Int) < (nF : Int) + (nG : Int) := by have := hx5 (by omega) (by omega); omega
                go_wp2_with (fail)
                go_ret
                exact ⟨rfl, B141.out⟩
    · have HPK := Lib.hid hpk
      clear hpk
      have cR0 := KR1.out.cell 0
      have cR1 := KR1.out.cell 1
      have cR2 := KR1.out.cell 2
      have cR3 := KR1.out.cell 3
      simp at cR0 cR1 cR2 cR3
      go_wp2_with (fail)
      refine (pad_any m e (some ⟨b1, o1, none⟩) (some ⟨b2, o2, none⟩) (FA) (GA) q ca q cb nF cF nG cG X Y (L) (K) _ IR1.out.hX IR1.out.hY F1.out.at_.1 G1.out.at_.1 IR1.out.hla IR1.out.hlb (by have := F1.out.at_.2.2; omega) (by have := G1.out.at_.2.2; omega) IR1.out.hca IR1.out.hcb).mono ?_
      rw [HOK.out]
      rintro e w_2 ⟨v, rfl, hv, hb_2⟩
      have hv0 := hv
      obtain ⟨A15, l15, c15, rfl, _⟩ := hv0
      clear cR0 cR1 cR2 cR3
      have B2 := Lib.hid (B1.out.trans (hb_2.mono B1.out.size))
      have F2 := Lib.hid (F1.out.next hb_2)
      have G2 := Lib.hid (G1.out.next hb_2)
      have KR2 := Lib.hid (KR1.out.next hb_2)
      have IR2 := Lib.hid (IR1.out.next hb_2)
      have H2 := Lib.hid (hv)
      clear hb_2 hv
      have cR0 := KR2.out.cell 0
      have cR1 := KR2.out.cell 1
      have cR2 := KR2.out.cell 2
      have cR3 := KR2.out.cell 3
      simp at cR0 cR1 cR2 cR3
      go_wp2_with (fail)
      refine (pmu_any m e (some ⟨b1, o1, none⟩) (some ⟨b2, o2, none⟩) (FA) (GA) q ca q cb nF cF nG cG X Y (L) (K) _ IR2.out.hX IR2.out.hY F2.out.at_.1 G2.out.at_.1 IR2.out.hla IR2.out.hlb (by have := F2.out.at_.2.2; omega) (by have := G2.out.at_.2.2; omega) IR2.out.hca IR2.out.hcb).mono ?_
      rw [HPK.out]
      rintro e w_3 ⟨v, rfl, hv, hb_3⟩
      have hv0 := hv
      obtain ⟨A16, l16, c16, rfl, _⟩ := hv0
      clear cR0 cR1 cR2 cR3
      have B3 := Lib.hid (B2.out.trans (hb_3.mono B2.out.size))
      have F3 := Lib.hid (F2.out.next hb_3)
      have G3 := Lib.hid (G2.out.next hb_3)
      have KR3 := Lib.hid (KR2.out.next hb_3)
      have IR3 := Lib.hid (IR2.out.next hb_3)
      have H3 := Lib.hid (H2.out.next hb_3)
      have P3 := Lib.hid (hv)
      clear hb_3 hv
      have cR0 := KR3.out.cell 0
      have cR1 := KR3.out.cell 1
      have cR2 := KR3.out.cell 2
      have cR3 := KR3.out.cell 3
      simp at cR0 cR1 cR2 cR3
      go_wp2_with (fail)
      refine (spad_anyC m e (some ⟨b1, o1, none⟩) (some ⟨b2, o2, none⟩) (FA) (GA) q ca q cb nF cF nG cG X Y (L) (K) _ IR3.out.hX IR3.out.hY F3.out.at_.1 G3.out.at_.1 IR3.out.hla IR3.out.hlb (by have := F3.out.at_.2.2; omega) (by have := G3.out.at_.2.2; omega) IR3.out.hca IR3.out.hcb).mono ?_
      rw [HOK.out]
      rintro e w_4 ⟨v, rfl, hv, hb_4⟩
      have hv0 := hv
      obtain ⟨A17, l17, c17, rfl, _⟩ := hv0
      clear cR0 cR1 cR2 cR3
      have B4 := Lib.hid (B3.out.trans (hb_4.mono B3.out.size))
      have F4 := Lib.hid (F3.out.next hb_4)
      have G4 := Lib.hid (G3.out.next hb_4)
      have KR4 := Lib.hid (KR3.out.next hb_4)
      have IR4 := Lib.hid (IR3.out.next hb_4)
      have H4 := Lib.hid (H3.out.next hb_4)
      have P4 := Lib.hid (P3.out.next hb_4)
      have T4 := Lib.hid (hv)
      clear hb_4 hv
      have cR0 := KR4.out.cell 0
      have cR1 := KR4.out.cell 1
      have cR2 := KR4.out.cell 2
      have cR3 := KR4.out.cell 3
      simp at cR0 cR1 cR2 cR3
      go_wp2_with (fail)
      refine (spmu_any m e (some ⟨b1, o1, none⟩) (some ⟨b2, o2, none⟩) (FA) (GA) q ca q cb nF cF nG cG X Y (L) (K) _ IR4.out.hX IR4.out.hY F4.out.at_.1 G4.out.at_.1 IR4.out.hla IR4.out.hlb (by have := F4.out.at_.2.2; omega) (by have := G4.out.at_.2.2; omega) IR4.out.hca IR4.out.hcb).mono ?_
      rw [HPK.out]
      rintro e w_5 ⟨v, rfl, hv, hb_5⟩
      have hv0 := hv
      obtain ⟨A18, l18, c18, rfl, _⟩ := hv0
      clear cR0 cR1 cR2 cR3
      have B5 := Lib.hid (B4.out.trans (hb_5.mono B4.out.size))
      have F5 := Lib.hid (F4.out.next hb_5)
      have G5 := Lib.hid (G4.out.next hb_5)
      have KR5 := Lib.hid (KR4.out.next hb_5)
      have IR5 := Lib.hid (IR4.out.next hb_5)
      have H5 := Lib.hid (H4.out.next hb_5)
      have P5 := Lib.hid (P4.out.next hb_5)
      have T5 := Lib.hid (T4.out.next hb_5)
      have U5 := Lib.hid (hv)
      clear hb_5 hv
      have ln_F : nF ≤ 1048570 := F5.out.at_.2.2
      have LF5 := Lib.hid (show LI w_5 (FA) nF (L) from F5.out.at_.1)
      have ln_G : nG ≤ 1048570 := G5.out.at_.2.2
      have LG5 := Lib.hid (show LI w_5 (GA) nG (K) from G5.out.at_.1)
      have ln_H : l15 ≤ 1048570 := H5.out.at_.2.2
      have LH5 := Lib.hid (show LI w_5 (A15) l15 (padL m e X Y L K) from H5.out.at_.1)
      have ln_P : l16 ≤ 1048570 := P5.out.at_.2.2
      have LP5 := Lib.hid (show LI w_5 (A16) l16 (pmuL m e X Y L K) from P5.out.at_.1)
      have ln_T : l17 ≤ 1048570 := T5.out.at_.2.2
      have LT5 := Lib.hid (show LI w_5 (A17) l17 (padL m e X Y L K) from T5.out.at_.1)
      have ln_U : l18 ≤ 1048570 := U5.out.at_.2.2
      have LU5 := Lib.hid (show LI w_5 (A18) l18 (pmuL m e X Y L K) from U5.out.at_.1)
      have S1 := Lib.hid (show ∀ u, LI u (A15) l15 (padL m e X Y L K) → LI u (A17) l17 (padL m e X Y L K) → Calls Try.prog 36 #[.slice (A15) l15 c15, .slice (A17) l17 c17] u fun e' w' => e' = .returned (.bool true) ∧ Below u.heap.size u w' from fun u h0 h1 => by have := frSame_any (A15) (A17) l15 l17 c15 c17 _ _ u _ _ h0 h1 (by omega) (by omega); rw [eqL_own_EV] at this; exact this)
      have S2 := Lib.hid (show ∀ u, LI u (A16) l16 (pmuL m e X Y L K) → LI u (A18) l18 (pmuL m e X Y L K) → Calls Try.prog 36 #[.slice (A16) l16 c16, .slice (A18) l18 c18] u fun e' w' => e' = .returned (.bool true) ∧ Below u.heap.size u w' from fun u h0 h1 => by have := frSame_any (A16) (A18) l16 l18 c16 c18 _ _ u _ _ h0 h1 (by omega) (by omega); rw [eqL_own_EV] at this; exact this)
      have V1 := Lib.hid (show ∀ u, RIn u (some ⟨b1, o1, none⟩) q ca (some ⟨b2, o2, none⟩) q cb X Y → LI u (FA) nF (L) → Calls Try.prog 17 #[.agg #[.int .i64 m, .int .i64 e, .slice (some ⟨b1, o1, none⟩) q ca, .slice (some ⟨b2, o2, none⟩) q cb], .slice (FA) nF cF] u fun e' w' => e' = .returned (.bool true) ∧ Below u.heap.size u w' from fun u h0 h1 => by have := pol_any m e (some ⟨b1, o1, none⟩) (some ⟨b2, o2, none⟩) (FA) q ca q cb nF cF X Y (L) u h0.hX h0.hY h1 h0.hla h0.hlb (by omega) h0.hca h0.hcb; rw [HVF.out] at this; exact this)
      have V2 := Lib.hid (show ∀ u, RIn u (some ⟨b1, o1, none⟩) q ca (some ⟨b2, o2, none⟩) q cb X Y → LI u (FA) nF (L) → Calls Try.prog 14 #[.agg #[.int .i64 m, .int .i64 e, .slice (some ⟨b1, o1, none⟩) q ca, .slice (some ⟨b2, o2, none⟩) q cb], .slice (FA) nF cF] u fun e' w' => e' = .returned (.bool true) ∧ Below u.heap.size u w' from fun u h0 h1 => by have := spol_any m e (some ⟨b1, o1, none⟩) (some ⟨b2, o2, none⟩) (FA) q ca q cb nF cF X Y (L) u h0.hX h0.hY h1 h0.hla h0.hlb (by omega) h0.hca h0.hcb; rw [HVF.out] at this; exact this)
      have cR0 := KR5.out.cell 0
      have cR1 := KR5.out.cell 1
      have cR2 := KR5.out.cell 2
      have cR3 := KR5.out.cell 3
      simp at cR0 cR1 cR2 cR3
      go_wp2_with (fail)
      refine wp_region_ext (by kernel_rfl) (by kernel_rfl) ?_
      repeat (go_big_quiet_step (first
        | (go_at_call 36; with_reducible refine calls_ext (S1.out _ (LH5.out.ext _) (LT5.out.ext _)))
        | (go_at_call 36; with_reducible refine calls_ext (S2.out _ (LP5.out.ext _) (LU5.out.ext _)))
        | (go_at_call 17; with_reducible refine calls_ext (V1.out _ (IR5.out.ext _) (LF5.out.ext _)))
        | (go_at_call 14; with_reducible refine calls_ext (V2.out _ (IR5.out.ext _) (LF5.out.ext _)))
        | fail))
      refine wpQuiet_nil ?_
      intro w_6 hb_6
      clear cR0 cR1 cR2 cR3
      have B6 := Lib.hid (B5.out.trans (hb_6.mono B5.out.size))
      have F6 := Lib.hid (F5.out.next hb_6)
      have G6 := Lib.hid (G5.out.next hb_6)
      have KR6 := Lib.hid (KR5.out.next hb_6)
      have IR6 := Lib.hid (IR5.out.next hb_6)
      have H6 := Lib.hid (H5.out.next hb_6)
      have P6 := Lib.hid (P5.out.next hb_6)
      have T6 := Lib.hid (T5.out.next hb_6)
      have U6 := Lib.hid (U5.out.next hb_6)
      have LF6 := Lib.hid (LF5.out.next hb_6)
      have LG6 := Lib.hid (LG5.out.next hb_6)
      have LH6 := Lib.hid (LH5.out.next hb_6)
      have LP6 := Lib.hid (LP5.out.next hb_6)
      have LT6 := Lib.hid (LT5.out.next hb_6)
      have LU6 := Lib.hid (LU5.out.next hb_6)
      clear hb_6
      clear S1 S2 V1 V2
      have lenF : L.length = nF := LF6.out.1
      have lenG : K.length = nG := LG6.out.1
      have hE4 : l15 ≤ max nF nG := by have h := HE4.out; rw [show (padL m e X Y L K).length = l15 from LH6.out.1, lenF, lenG] at h; exact h
      have hE5 : 0 < nF → 0 < nG → l16 < nF + nG := by have h := HE5.out; rw [show (pmuL m e X Y L K).length = l16 from LP6.out.1, lenF, lenG] at h; exact h
      have sF : nF ≤ 17 := by rw [← lenF]; exact hfl
      have sG : nG ≤ 17 := by rw [← lenG]; exact hgl
      have HL4 := Lib.hid hE4
      have HL5 := Lib.hid hE5
      clear hE4 hE5 lenF lenG
      have cR0 := KR6.out.cell 0
      have cR1 := KR6.out.cell 1
      have cR2 := KR6.out.cell 2
      have cR3 := KR6.out.cell 3
      simp at cR0 cR1 cR2 cR3
      go_wp2_with (fail)
      go_loopw [120] (fun iv wr => ∃ y : Nat, y ≤ m ∧ iv = .int .i64 y ∧ Below w_6.heap.size w_6 wr) (fun iv _ => m - (intOf iv).toNat)
      case atStart => exact ⟨0, Nat.zero_le _, rfl, Below.refl _ _⟩
      case round =>
        obtain ⟨y, hy, rfl, hbr⟩ := hrel
        have BK := Lib.hid hbr
        clear cR0 cR1 cR2 cR3
        have B140 := Lib.hid (B6.out.trans (hbr.mono B6.out.size))
        have F140 := Lib.hid (F6.out.next hbr)
        have G140 := Lib.hid (G6.out.next hbr)
        have KR140 := Lib.hid (KR6.out.next hbr)
        have IR140 := Lib.hid (IR6.out.next hbr)
        have H140 := Lib.hid (H6.out.next hbr)
        have P140 := Lib.hid (P6.out.next hbr)
        have T140 := Lib.hid (T6.out.next hbr)
        have U140 := Lib.hid (U6.out.next hbr)
        have LF140 := Lib.hid (LF6.out.next hbr)
        have LG140 := Lib.hid (LG6.out.next hbr)
        have LH140 := Lib.hid (LH6.out.next hbr)
        have LP140 := Lib.hid (LP6.out.next hbr)
        have LT140 := Lib.hid (LT6.out.next hbr)
        have LU140 := Lib.hid (LU6.out.next hbr)
        clear hbr
        obtain ⟨w_140, rfl⟩ : ∃ ws, ws = wr := ⟨_, rfl⟩
        by_cases hlt : y < m
        · obtain ⟨a, b, sv, pv, ha, hb, e1, e2, e3, e4, e5, e6⟩ := HE1.out y hlt
          have E1 := Lib.hid e1
          have E2 := Lib.hid e2
          have E3 := Lib.hid e3
          have E4 := Lib.hid e4
          have E5 := Lib.hid e5
          have E6 := Lib.hid (e6 HPK.out)
          clear e1 e2 e3 e4 e5 e6
          have ta : ((a : Int) != (a : Int)) = false := by simp
          have ts : ((sv : Int) != (sv : Int)) = false := by simp
          have tp : ((pv : Int) != (pv : Int)) = false := by simp
          have F1 := Lib.hid (show ∀ u, RIn u (some ⟨b1, o1, none⟩) q ca (some ⟨b2, o2, none⟩) q cb X Y → LI u (FA) nF (L) → Calls Try.prog 21 #[.agg #[.int .i64 m, .int .i64 e, .slice (some ⟨b1, o1, none⟩) q ca, .slice (some ⟨b2, o2, none⟩) q cb], .slice (FA) nF cF, .int .i64 (y : Int)] u fun e' w' => e' = .returned (.int .i64 (a : Int)) ∧ Below u.heap.size u w' from fun u h0 h1 => by have := eva_any m e (some ⟨b1, o1, none⟩) (some ⟨b2, o2, none⟩) (FA) q ca q cb nF cF X Y (L) (y : Int) u h0.hX h0.hY h1 h0.hla h0.hlb (by omega) h0.hca h0.hcb; rw [E1.out] at this; exact this)
          have F2 := Lib.hid (show ∀ u, RIn u (some ⟨b1, o1, none⟩) q ca (some ⟨b2, o2, none⟩) q cb X Y → LI u (GA) nG (K) → Calls Try.prog 21 #[.agg #[.int .i64 m, .int .i64 e, .slice (some ⟨b1, o1, none⟩) q ca, .slice (some ⟨b2, o2, none⟩) q cb], .slice (GA) nG cG, .int .i64 (y : Int)] u fun e' w' => e' = .returned (.int .i64 (b : Int)) ∧ Below u.heap.size u w' from fun u h0 h1 => by have := eva_any m e (some ⟨b1, o1, none⟩) (some ⟨b2, o2, none⟩) (GA) q ca q cb nG cG X Y (K) (y : Int) u h0.hX h0.hY h1 h0.hla h0.hlb (by omega) h0.hca h0.hcb; rw [E2.out] at this; exact this)
          have F3 := Lib.hid (show ∀ u, RIn u (some ⟨b1, o1, none⟩) q ca (some ⟨b2, o2, none⟩) q cb X Y → LI u (FA) nF (L) → Calls Try.prog 20 #[.agg #[.int .i64 m, .int .i64 e, .slice (some ⟨b1, o1, none⟩) q ca, .slice (some ⟨b2, o2, none⟩) q cb], .slice (FA) nF cF, .int .i64 (y : Int)] u fun e' w' => e' = .returned (.int .i64 (a : Int)) ∧ Below u.heap.size u w' from fun u h0 h1 => by have := seva_any m e (some ⟨b1, o1, none⟩) (some ⟨b2, o2, none⟩) (FA) q ca q cb nF cF X Y (L) (y : Int) u h0.hX h0.hY h1 h0.hla h0.hlb (by omega) h0.hca h0.hcb; rw [E1.out] at this; exact this)
          have F4 := Lib.hid (show ∀ u, RIn u (some ⟨b1, o1, none⟩) q ca (some ⟨b2, o2, none⟩) q cb X Y → LI u (A15) l15 (padL m e X Y L K) → Calls Try.prog 21 #[.agg #[.int .i64 m, .int .i64 e, .slice (some ⟨b1, o1, none⟩) q ca, .slice (some ⟨b2, o2, none⟩) q cb], .slice (A15) l15 c15, .int .i64 (y : Int)] u fun e' w' => e' = .returned (.int .i64 (sv : Int)) ∧ Below u.heap.size u w' from fun u h0 h1 => by have := eva_any m e (some ⟨b1, o1, none⟩) (some ⟨b2, o2, none⟩) (A15) q ca q cb l15 c15 X Y (padL m e X Y L K) (y : Int) u h0.hX h0.hY h1 h0.hla h0.hlb (by omega) h0.hca h0.hcb; rw [E5.out] at this; exact this)
          have F5 := Lib.hid (show ∀ u, RIn u (some ⟨b1, o1, none⟩) q ca (some ⟨b2, o2, none⟩) q cb X Y → Calls Try.prog 37 #[.agg #[.int .i64 m, .int .i64 e, .slice (some ⟨b1, o1, none⟩) q ca, .slice (some ⟨b2, o2, none⟩) q cb], .int .i64 (a : Int), .int .i64 (b : Int)] u fun e' w' => e' = .returned (.int .i64 (sv : Int)) ∧ Below u.heap.size u w' from fun u h0 => c_frAdd h0 VV.out ha hb E3.out rfl rfl rfl)
          have F6 := Lib.hid (show ∀ u, RIn u (some ⟨b1, o1, none⟩) q ca (some ⟨b2, o2, none⟩) q cb X Y → LI u (A16) l16 (pmuL m e X Y L K) → Calls Try.prog 21 #[.agg #[.int .i64 m, .int .i64 e, .slice (some ⟨b1, o1, none⟩) q ca, .slice (some ⟨b2, o2, none⟩) q cb], .slice (A16) l16 c16, .int .i64 (y : Int)] u fun e' w' => e' = .returned (.int .i64 (pv : Int)) ∧ Below u.heap.size u w' from fun u h0 h1 => by have := eva_any m e (some ⟨b1, o1, none⟩) (some ⟨b2, o2, none⟩) (A16) q ca q cb l16 c16 X Y (pmuL m e X Y L K) (y : Int) u h0.hX h0.hY h1 h0.hla h0.hlb (by omega) h0.hca h0.hcb; rw [E6.out] at this; exact this)
          have F7 := Lib.hid (show ∀ u, RIn u (some ⟨b1, o1, none⟩) q ca (some ⟨b2, o2, none⟩) q cb X Y → Calls Try.prog 38 #[.agg #[.int .i64 m, .int .i64 e, .slice (some ⟨b1, o1, none⟩) q ca, .slice (some ⟨b2, o2, none⟩) q cb], .int .i64 (a : Int), .int .i64 (b : Int)] u fun e' w' => e' = .returned (.int .i64 (pv : Int)) ∧ Below u.heap.size u w' from fun u h0 => c_frMul h0 VV.out ha hb E4.out rfl rfl rfl)
          have cR0 := KR140.out.cell 0
          have cR1 := KR140.out.cell 1
          have cR2 := KR140.out.cell 2
          have cR3 := KR140.out.cell 3
          simp at cR0 cR1 cR2 cR3
          go_wp2_with (fail)
          refine wp_region_ext (by kernel_rfl) (by kernel_rfl) ?_
          repeat (go_big_quiet_step (first
            | (go_at_call 21; with_reducible refine calls_ext (F1.out _ (IR140.out.ext _) (LF140.out.ext _)))
            | (go_at_call 21; with_reducible refine calls_ext (F2.out _ (IR140.out.ext _) (LG140.out.ext _)))
            | fail))
          refine wpQuiet_nil ?_
          intro w_141 hb_141
          have BK1 := Lib.hid (BK.out.trans (hb_141.mono BK.out.size))
          clear cR0 cR1 cR2 cR3
          have B141 := Lib.hid (B140.out.trans (hb_141.mono B140.out.size))
          have F141 := Lib.hid (F140.out.next hb_141)
          have G141 := Lib.hid (G140.out.next hb_141)
          have KR141 := Lib.hid (KR140.out.next hb_141)
          have IR141 := Lib.hid (IR140.out.next hb_141)
          have H141 := Lib.hid (H140.out.next hb_141)
          have P141 := Lib.hid (P140.out.next hb_141)
          have T141 := Lib.hid (T140.out.next hb_141)
          have U141 := Lib.hid (U140.out.next hb_141)
          have LF141 := Lib.hid (LF140.out.next hb_141)
          have LG141 := Lib.hid (LG140.out.next hb_141)
          have LH141 := Lib.hid (LH140.out.next hb_141)
          have LP141 := Lib.hid (LP140.out.next hb_141)
          have LT141 := Lib.hid (LT140.out.next hb_141)
          have LU141 := Lib.hid (LU140.out.next hb_141)
          clear hb_141
          have cR0 := KR141.out.cell 0
          have cR1 := KR141.out.cell 1
          have cR2 := KR141.out.cell 2
          have cR3 := KR141.out.cell 3
          simp at cR0 cR1 cR2 cR3
          go_wp2_with (fail)
          refine wp_region_ext (by kernel_rfl) (by kernel_rfl) ?_
          repeat (go_big_quiet_step (first
            | (go_at_call 20; with_reducible refine calls_ext (F3.out _ (IR141.out.ext _) (LF141.out.ext _)))
            | (go_at_call 21; with_reducible refine calls_ext (F4.out _ (IR141.out.ext _) (LH141.out.ext _)))
            | (go_at_call 37; with_reducible refine calls_ext (F5.out _ (IR141.out.ext _)))
            | (go_at_call 21; with_reducible refine calls_ext (F6.out _ (IR141.out.ext _) (LP141.out.ext _)))
            | (go_at_call 38; with_reducible refine calls_ext (F7.out _ (IR141.out.ext _)))
            | fail))
          refine wpQuiet_nil ?_
          intro w_142 hb_142
          have BK2 := Lib.hid (BK1.out.trans (hb_142.mono BK1.out.size))
          clear cR0 cR1 cR2 cR3
          have B142 := Lib.hid (B141.out.trans (hb_142.mono B141.out.size))
          have F142 := Lib.hid (F141.out.next hb_142)
          have G142 := Lib.hid (G141.out.next hb_142)
          have KR142 := Lib.hid (KR141.out.next hb_142)
          have IR142 := Lib.hid (IR141.out.next hb_142)
          have H142 := Lib.hid (H141.out.next hb_142)
          have P142 := Lib.hid (P141.out.next hb_142)
          have T142 := Lib.hid (T141.out.next hb_142)
          have U142 := Lib.hid (U141.out.next hb_142)
          have LF142 := Lib.hid (LF141.out.next hb_142)
          have LG142 := Lib.hid (LG141.out.next hb_142)
          have LH142 := Lib.hid (LH141.out.next hb_142)
          have LP142 := Lib.hid (LP141.out.next hb_142)
          have LT142 := Lib.hid (LT141.out.next hb_142)
          have LU142 := Lib.hid (LU141.out.next hb_142)
          clear hb_142
          go_wp2
          go_roundw
          case rel => exact ⟨y + 1, by omega, by go_num, BK2.out⟩
          case measure => simp [intOf]; omega
        · skip
          have cR0 := KR140.out.cell 0
          have cR1 := KR140.out.cell 1
          have cR2 := KR140.out.cell 2
          have cR3 := KR140.out.cell 3
          simp at cR0 cR1 cR2 cR3
          go_wp2_with (fail)
          refine (pol_any m e (some ⟨b1, o1, none⟩) (some ⟨b2, o2, none⟩) (A15) q ca q cb l15 c15 X Y (padL m e X Y L K) _ IR140.out.hX IR140.out.hY H140.out.at_.1 IR140.out.hla IR140.out.hlb (by have := H140.out.at_.2.2; omega) IR140.out.hca IR140.out.hcb).mono ?_
          rw [HE2.out]
          rintro e w_141 ⟨rfl, hb_141⟩
          clear cR0 cR1 cR2 cR3
          have B141 := Lib.hid (B140.out.trans (hb_141.mono B140.out.size))
          have F141 := Lib.hid (F140.out.next hb_141)
          have G141 := Lib.hid (G140.out.next hb_141)
          have KR141 := Lib.hid (KR140.out.next hb_141)
          have IR141 := Lib.hid (IR140.out.next hb_141)
          have H141 := Lib.hid (H140.out.next hb_141)
          have P141 := Lib.hid (P140.out.next hb_141)
          have T141 := Lib.hid (T140.out.next hb_141)
          have U141 := Lib.hid (U140.out.next hb_141)
          have LF141 := Lib.hid (LF140.out.next hb_141)
          have LG141 := Lib.hid (LG140.out.next hb_141)
          have LH141 := Lib.hid (LH140.out.next hb_141)
          have LP141 := Lib.hid (LP140.out.next hb_141)
          have LT141 := Lib.hid (LT140.out.next hb_141)
          have LU141 := Lib.hid (LU140.out.next hb_141)
          clear hb_141
          have cR0 := KR141.out.cell 0
          have cR1 := KR141.out.cell 1
          have cR2 := KR141.out.cell 2
          have cR3 := KR141.out.cell 3
          simp at cR0 cR1 cR2 cR3
          go_wp2_with (fail)
          refine (pol_any m e (some ⟨b1, o1, none⟩) (some ⟨b2, o2, none⟩) (A16) q ca q cb l16 c16 X Y (pmuL m e X Y L K) _ IR141.out.hX IR141.out.hY P141.out.at_.1 IR141.out.hla IR141.out.hlb (by have := P141.out.at_.2.2; omega) IR141.out.hca IR141.out.hcb).mono ?_
          rw [HE3.out HPK.out]
          rintro e w_142 ⟨rfl, hb_142⟩
          clear cR0 cR1 cR2 cR3
          have B142 := Lib.hid (B141.out.trans (hb_142.mono B141.out.size))
          have F142 := Lib.hid (F141.out.next hb_142)
          have G142 := Lib.hid (G141.out.next hb_142)
          have KR142 := Lib.hid (KR141.out.next hb_142)
          have IR142 := Lib.hid (IR141.out.next hb_142)
          have H142 := Lib.hid (H141.out.next hb_142)
          have P142 := Lib.hid (P141.out.next hb_142)
          have T142 := Lib.hid (T141.out.next hb_142)
          have U142 := Lib.hid (U141.out.next hb_142)
          have LF142 := Lib.hid (LF141.out.next hb_142)
          have LG142 := Lib.hid (LG141.out.next hb_142)
          have LH142 := Lib.hid (LH141.out.next hb_142)
          have LP142 := Lib.hid (LP141.out.next hb_142)
          have LT142 := Lib.hid (LT141.out.next hb_142)
          have LU142 := Lib.hid (LU141.out.next hb_142)
          clear hb_142
          have hx4 := HL4.out
          have hx5 := HL5.out
          by_cases hfg : nF < nG
          · have hle : (l15 : Int) ≤ (nG : Int) := by omega
            by_cases h0 : nF = 0
            · have z0 : ((nF : Int) == 0) = true := by simp; omega
              go_wp2_with (fail)
              go_ret
              exact ⟨rfl, B142.out⟩
            · have z0 : ((nF : Int) == 0) = false := by simp; omega
              have z1 : ((nG : Int) == 0) = false := by simp; omega
              have z2 : (l16 : Int) < (nF : Int) + (nG : Int) := by have := hx5 (by omega) (by omega); omega
              go_wp2_with (fail)
              go_ret
              exact ⟨rfl, B142.out⟩
          · have hle : (l15 : Int) ≤ (nF : Int) := by omega
            by_cases h0 : nF = 0
            · have z0 : ((nF : Int) == 0) = true := by simp; omega
              go_wp2_with (fail)
              go_ret
              exact ⟨rfl, B142.out⟩
            · have z0 : ((nF : Int) == 0) = false := by simp; omega
              by_cases h1 : nG = 0
              · have z1 : ((nG : Int) == 0) = true := by simp; omega
                go_wp2_with (fail)
                go_ret
                exact ⟨rfl, B142.out⟩
              · skip
                have z1 : ((nG : Int) == 0) = false := by simp; omega
                have z2 : (l16 : Int) < (nF : Int) + (nG : Int) := by have := hx5 (by omega) (by omega); omega
                go_wp2_with (fail)
                go_ret
                exact ⟨rfl, B142.out⟩

end Go.Proofs.Ytkjanhcajopfhaa

