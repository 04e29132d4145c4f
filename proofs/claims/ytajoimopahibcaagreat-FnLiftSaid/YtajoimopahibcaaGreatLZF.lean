
import Derived.Test.YtajoimopahibcaaGreatLWK
import Derived.Test.YtajoimopahibcaaGreatLEM
import Derived.Test.YtajoimopahibcaaGreatMR
import Derived.Test.YtajoimopahibcaaGreatMS
import Derived.Test.YtajoimopahibcaaGreatMT
import Derived.Test.YtajoimopahibcaaGreatMO
import Derived.Test.YtajoimopahibcaaGreatNC
import Derived.Test.YtajoimopahibcaaGreatMH
/- The walk of the law FnLift. -/
namespace Go.Proofs.YtajoimopahibcaaGreat
open Go.RowKit
set_option maxRecDepth 100000

theorem eqL_own_LI {xs : List Int} : eqL xs xs = true := eqL_true rfl fun _ _ => rfl
theorem take_LI {ZZ : List (List Int)} {k : Nat} {Z : List Int} (h : ZZ[k]? = some Z) : ZZ.take (k + 1) = ZZ.take k ++ [Z] := by
  have hk := (List.getElem?_eq_some_iff.1 h).1
  rw [List.getElem?_eq_getElem hk] at h
  rw [List.take_succ_eq_append_getElem hk]
  simp only [Option.some.injEq] at h
  rw [h]
/-- A list that reads. -/
def LI (w : World) (A : Option Addr) (n : Nat) (xs : List Int) : Prop := Ints w w.heap.size A n xs
theorem LI.next {w w' : World} {A : Option Addr} {n : Nat} {xs : List Int} (h : LI w A n xs) (hb : Below w.heap.size w w') : LI w' A n xs := Ints.next h hb
theorem LI.ext {w : World} {A : Option Addr} {n : Nat} {xs : List Int} (h : LI w A n xs) (u : Ext w) : LI (ext w u) A n xs := h.next (ext_below w u)
/-- What the last statement makes: the quotient's ideals. -/
structure LfPhi (n i : Nat) (v : Value) : Prop where
  p : i = 28 → ∃ (A : Option Addr) (c : Nat), v = .slice A n c
theorem LfPhi_zero (n i : Nat) : LfPhi n i (.slice none n 0) := ⟨fun _ => ⟨none, 0, rfl⟩⟩
set_option maxHeartbeats 16000000 in
theorem fnLift_walk (A : Option Addr) (n c : Nat) (w : World) (hb : Byts w w.heap.size A n) (hc : n ≤ c) (hc2 : c ≤ 9223372036854775807) :
    Calls Tryz.prog 6 #[.slice A n c] w fun e w' => e = .returned (.bool true) ∧ Below w.heap.size w w' := by
  by_cases hbig : n > 1048576
  · have t0 : decide ((n : Int) > 1048576) = true := by simp; omega
    go_enter Tryz.func6, Tryz.ntmps6
    go_wp2_with (fail)
    go_ret
    exact ⟨rfl, Below.refl _ _⟩
  have hn : n ≤ 1048576 := by omega
  have t0 : decide ((n : Int) > 1048576) = false := by simp; omega
  go_enter Tryz.func6, Tryz.ntmps6
  go_wp2_with (fail)
  refine (drawLiftIdeal_any A n c w hb hn hc hc2).mono ?_
  rintro e w_0 ⟨v, v1, v2, rfl, hA, ⟨L, hF, hfl⟩, ⟨K, hG, hgl⟩, hb_0⟩
  obtain ⟨N, O, A1, A2, q, ca, cb, X, Y, rfl, hI, _, _⟩ := hA.rin
  obtain ⟨FA, nF, cF, rfl, _⟩ := id hF
  obtain ⟨GA, nG, cG, rfl, _⟩ := id hG
  clear hA
  have B0 := Lib.hid (hb_0)
  have F0 := Lib.hid (hF)
  have G0 := Lib.hid (hG)
  clear hb_0 hF hG
  obtain ⟨w_1, hV⟩ : ∃ V, World.alloc w_0 (.cells #[.int .i64 N, .int .i64 O, .slice A1 q ca, .slice A2 q cb] 25) = V := ⟨_, rfl⟩
  have hb_1 : Below (World.heap w_0).size w_0 w_1 := by subst hV; exact (Below.refl _ _).alloc (Nat.le_refl _) _
  obtain ⟨bR, hbx⟩ : ∃ b, b = (World.heap w_0).size := ⟨_, rfl⟩
  have KR1 := Lib.hid (show Blk w_1 bR 25 #[.int .i64 N, .int .i64 O, .slice A1 q ca, .slice A2 q cb] by subst hV hbx; exact Blk.new w_0 _ _)
  have B1 := Lib.hid (B0.out.trans (hb_1.mono B0.out.size))
  have F1 := Lib.hid (F0.out.next hb_1)
  have G1 := Lib.hid (G0.out.next hb_1)
  have IR1 := Lib.hid (hI.next hb_1)
  clear hb_1 hI
  go_upto_region 4 with (fail)
  rw [← hbx]
  clear hV hbx
  have cR0 := KR1.out.cell 0
  have cR1 := KR1.out.cell 1
  have cR2 := KR1.out.cell 2
  have cR3 := KR1.out.cell 3
  simp at cR0 cR1 cR2 cR3
  go_wp2_with (fail)
  refine (lft_any N O (A1) (A2) (FA) (GA) q ca q cb nF nG cF cG X Y (L) (K) _ IR1.out.hX IR1.out.hY F1.out.at_.1 G1.out.at_.1 IR1.out.hla IR1.out.hlb (by have := F1.out.at_.2.2; omega) (by have := G1.out.at_.2.2; omega) IR1.out.hca IR1.out.hcb).mono ?_
  rintro e w_2 ⟨v, rfl, hv, hb_2⟩
  have hv0 := hv
  obtain ⟨A3, l3, c3, rfl, _⟩ := hv0
  clear cR0 cR1 cR2 cR3
  have B2 := Lib.hid (B1.out.trans (hb_2.mono B1.out.size))
  have F2 := Lib.hid (F1.out.next hb_2)
  have G2 := Lib.hid (G1.out.next hb_2)
  have KR2 := Lib.hid (KR1.out.next hb_2)
  have IR2 := Lib.hid (IR1.out.next hb_2)
  have U2 := Lib.hid (hv)
  clear hb_2 hv
  have cR0 := KR2.out.cell 0
  have cR1 := KR2.out.cell 1
  have cR2 := KR2.out.cell 2
  have cR3 := KR2.out.cell 3
  simp at cR0 cR1 cR2 cR3
  go_wp2_with (fail)
  refine (slft_any N O (A1) (A2) (FA) (GA) q ca q cb nF nG cF cG X Y (L) (K) _ IR2.out.hX IR2.out.hY F2.out.at_.1 G2.out.at_.1 IR2.out.hla IR2.out.hlb (by have := F2.out.at_.2.2; omega) (by have := G2.out.at_.2.2; omega) IR2.out.hca IR2.out.hcb).mono ?_
  rintro e w_3 ⟨v, rfl, hv, hb_3⟩
  have hv0 := hv
  obtain ⟨A4, l4, c4, rfl, _⟩ := hv0
  clear cR0 cR1 cR2 cR3
  have B3 := Lib.hid (B2.out.trans (hb_3.mono B2.out.size))
  have F3 := Lib.hid (F2.out.next hb_3)
  have G3 := Lib.hid (G2.out.next hb_3)
  have KR3 := Lib.hid (KR2.out.next hb_3)
  have IR3 := Lib.hid (IR2.out.next hb_3)
  have U3 := Lib.hid (U2.out.next hb_3)
  have T3 := Lib.hid (hv)
  clear hb_3 hv
  cases hok : lftB N O X Y L K
  · skip
    go_wp2_with (fail)
    refine (frSame_any (A3) (A4) l3 l4 c3 c4 _ _ _ _ _ U3.out.at_.1 T3.out.at_.1 (by have := U3.out.at_.2.2; omega) (by have := T3.out.at_.2.2; omega)).mono ?_
    rw [eqL_own_LI]
    rintro e w_4 ⟨rfl, hb_4⟩
    have B4 := Lib.hid (B3.out.trans (hb_4.mono B3.out.size))
    have F4 := Lib.hid (F3.out.next hb_4)
    have G4 := Lib.hid (G3.out.next hb_4)
    have KR4 := Lib.hid (KR3.out.next hb_4)
    have IR4 := Lib.hid (IR3.out.next hb_4)
    have U4 := Lib.hid (U3.out.next hb_4)
    have T4 := Lib.hid (T3.out.next hb_4)
    clear hb_4
    go_wp2_with (fail)
    refine (frSame_any (A3) (A4) l3 l4 c3 c4 _ _ _ _ _ U4.out.at_.1 T4.out.at_.1 (by have := U4.out.at_.2.2; omega) (by have := T4.out.at_.2.2; omega)).mono ?_
    rw [eqL_own_LI]
    rintro e w_5 ⟨rfl, hb_5⟩
    have B5 := Lib.hid (B4.out.trans (hb_5.mono B4.out.size))
    have F5 := Lib.hid (F4.out.next hb_5)
    have G5 := Lib.hid (G4.out.next hb_5)
    have KR5 := Lib.hid (KR4.out.next hb_5)
    have IR5 := Lib.hid (IR4.out.next hb_5)
    have U5 := Lib.hid (U4.out.next hb_5)
    have T5 := Lib.hid (T4.out.next hb_5)
    clear hb_5
    go_wp2_with (fail)
    go_ret
    exact ⟨rfl, B5.out⟩
  · skip
    go_wp2_with (fail)
    refine (frSame_any (A3) (A4) l3 l4 c3 c4 _ _ _ _ _ U3.out.at_.1 T3.out.at_.1 (by have := U3.out.at_.2.2; omega) (by have := T3.out.at_.2.2; omega)).mono ?_
    rw [eqL_own_LI]
    rintro e w_4 ⟨rfl, hb_4⟩
    have B4 := Lib.hid (B3.out.trans (hb_4.mono B3.out.size))
    have F4 := Lib.hid (F3.out.next hb_4)
    have G4 := Lib.hid (G3.out.next hb_4)
    have KR4 := Lib.hid (KR3.out.next hb_4)
    have IR4 := Lib.hid (IR3.out.next hb_4)
    have U4 := Lib.hid (U3.out.next hb_4)
    have T4 := Lib.hid (T3.out.next hb_4)
    clear hb_4
    have hid : isIdB N O X Y L = true := by
      unfold lftB at hok
      rw [Bool.and_eq_true] at hok
      exact hok.1
    obtain ⟨m, e, b1, o1, b2, o2, rfl, rfl, rfl, rfl, hr, _, lX, lY, gX, gY⟩ := valid_data (ide_data (isId_ide hid)).1 IR4.out.hX IR4.out.hY IR4.out.hca IR4.out.hcb
    have hm := hr.hm
    have hm' := hr.hm'
    obtain ⟨c', e', QX, QY, q1, q2, q3, q4, h5, h6, h7, h8, h9, h10, h11, h12, h13⟩ := lift_law hok hm'
    obtain ⟨A1, hA1⟩ : ∃ x, lftL m e X Y L K = x := ⟨_, rfl⟩
    rw [hA1] at h7 h8 h9 h10 h12 U4
    have htw : twoI m e X Y L A1 = true := by unfold twoI; rw [h5, h7]; rfl
    have hlF : L.length = nF := F4.out.at_.1.1
    have hlG : K.length = nG := G4.out.at_.1.1
    have hlU : A1.length = l3 := U4.out.at_.1.1
    rw [hlF, hlG, hlU] at h10
    have lU9 : l3 ≤ 1048570 := U4.out.at_.2.2
    have sz : IntKind.i64.wrap ((nG : Int) * (nF : Int)) = (l3 : Int) := by rw [show ((nG : Int) * (nF : Int)) = (l3 : Int) from by exact_mod_cast h10.symm]; exact IntWalk.i64_in _ (by omega)
    obtain ⟨pb, hpb⟩ : ∃ x, priB c' e' QX QY K = x := ⟨_, rfl⟩
    rw [hpb] at h12
    have Hq1 := Lib.hid q1
    have Hq2 := Lib.hid q2
    have Hq3 := Lib.hid q3
    have Hq4 := Lib.hid q4
    have Hh6 := Lib.hid h6
    have Hh7 := Lib.hid h7
    have Hh8 := Lib.hid h8
    have Hh9 := Lib.hid h9
    have Hh11 := Lib.hid h11
    have Hh12 := Lib.hid h12
    have Hh13 := Lib.hid h13
    have HTW := Lib.hid htw
    have HPB := Lib.hid hpb
    clear hok hid hr lX lY gX gY q1 q2 q3 q4 h5 h6 h7 h8 h9 h10 h11 h12 h13 htw hpb hA1 hlF hlG hlU
    have cR0 := KR4.out.cell 0
    have cR1 := KR4.out.cell 1
    have cR2 := KR4.out.cell 2
    have cR3 := KR4.out.cell 3
    simp at cR0 cR1 cR2 cR3
    go_wp2_with (fail)
    refine (psh_any m e (some ⟨b1, o1, none⟩) (some ⟨b2, o2, none⟩) (FA) (A3) q ca q cb nF l3 cF c3 X Y (L) (A1) _ IR4.out.hX IR4.out.hY F4.out.at_.1 U4.out.at_.1 IR4.out.hla IR4.out.hlb (by have := F4.out.at_.2.2; omega) (by have := U4.out.at_.2.2; omega) IR4.out.hca IR4.out.hcb).mono ?_
    rw [HTW.out]
    rw [Hh8.out]
    rintro e w_5 ⟨v, rfl, hv, hb_5⟩
    have hv0 := hv
    obtain ⟨A5, l5, c5, rfl, _⟩ := hv0
    clear cR0 cR1 cR2 cR3
    have B5 := Lib.hid (B4.out.trans (hb_5.mono B4.out.size))
    have F5 := Lib.hid (F4.out.next hb_5)
    have G5 := Lib.hid (G4.out.next hb_5)
    have KR5 := Lib.hid (KR4.out.next hb_5)
    have IR5 := Lib.hid (IR4.out.next hb_5)
    have U5 := Lib.hid (U4.out.next hb_5)
    have T5 := Lib.hid (T4.out.next hb_5)
    have V5 := Lib.hid (hv)
    clear hb_5 hv
    have cR0 := KR5.out.cell 0
    have cR1 := KR5.out.cell 1
    have cR2 := KR5.out.cell 2
    have cR3 := KR5.out.cell 3
    simp at cR0 cR1 cR2 cR3
    go_wp2_with (fail)
    refine (sumI_any m e (some ⟨b1, o1, none⟩) (some ⟨b2, o2, none⟩) (A3) (FA) q ca q cb l3 nF c3 cF X Y (A1) (L) _ IR5.out.hX IR5.out.hY U5.out.at_.1 F5.out.at_.1 IR5.out.hla IR5.out.hlb (by have := U5.out.at_.2.2; omega) (by have := F5.out.at_.2.2; omega) IR5.out.hca IR5.out.hcb).mono ?_
    rw [Hh9.out]
    rintro e w_6 ⟨v, rfl, hv, hb_6⟩
    have hv0 := hv
    obtain ⟨A6, l6, c6, rfl, _⟩ := hv0
    clear cR0 cR1 cR2 cR3
    have B6 := Lib.hid (B5.out.trans (hb_6.mono B5.out.size))
    have F6 := Lib.hid (F5.out.next hb_6)
    have G6 := Lib.hid (G5.out.next hb_6)
    have KR6 := Lib.hid (KR5.out.next hb_6)
    have IR6 := Lib.hid (IR5.out.next hb_6)
    have U6 := Lib.hid (U5.out.next hb_6)
    have T6 := Lib.hid (T5.out.next hb_6)
    have V6 := Lib.hid (V5.out.next hb_6)
    have S6 := Lib.hid (hv)
    clear hb_6 hv
    have cR0 := KR6.out.cell 0
    have cR1 := KR6.out.cell 1
    have cR2 := KR6.out.cell 2
    have cR3 := KR6.out.cell 3
    simp at cR0 cR1 cR2 cR3
    go_wp2_with (fail)
    refine (quo_any m e (some ⟨b1, o1, none⟩) (some ⟨b2, o2, none⟩) (FA) q ca q cb nF cF X Y (L) _ IR6.out.hX IR6.out.hY F6.out.at_.1 IR6.out.hla IR6.out.hlb (by have := F6.out.at_.2.2; omega) IR6.out.hca IR6.out.hcb).mono ?_
    rw [Hq1.out, Hq2.out, Hq3.out, Hq4.out]
    rintro e w_7 ⟨v, u8, rfl, hv, _, _, hb_7⟩
    obtain ⟨A8, A9, l8, c8, l9, c9, rfl, hI⟩ := RingOutB.rin hv
    clear hv
    clear cR0 cR1 cR2 cR3
    have B7 := Lib.hid (B6.out.trans (hb_7.mono B6.out.size))
    have F7 := Lib.hid (F6.out.next hb_7)
    have G7 := Lib.hid (G6.out.next hb_7)
    have KR7 := Lib.hid (KR6.out.next hb_7)
    have IR7 := Lib.hid (IR6.out.next hb_7)
    have U7 := Lib.hid (U6.out.next hb_7)
    have T7 := Lib.hid (T6.out.next hb_7)
    have V7 := Lib.hid (V6.out.next hb_7)
    have S7 := Lib.hid (S6.out.next hb_7)
    clear hb_7
    obtain ⟨w_8, hV⟩ : ∃ V, World.alloc w_7 (.cells #[.int .i64 (c' : Int), .int .i64 (e' : Int), .slice A8 l8 c8, .slice A9 l9 c9] 25) = V := ⟨_, rfl⟩
    have hb_8 : Below (World.heap w_7).size w_7 w_8 := by subst hV; exact (Below.refl _ _).alloc (Nat.le_refl _) _
    obtain ⟨bQ, hbx⟩ : ∃ b, b = (World.heap w_7).size := ⟨_, rfl⟩
    have KQ8 := Lib.hid (show Blk w_8 bQ 25 #[.int .i64 (c' : Int), .int .i64 (e' : Int), .slice A8 l8 c8, .slice A9 l9 c9] by subst hV hbx; exact Blk.new w_7 _ _)
    have B8 := Lib.hid (B7.out.trans (hb_8.mono B7.out.size))
    have F8 := Lib.hid (F7.out.next hb_8)
    have G8 := Lib.hid (G7.out.next hb_8)
    have KR8 := Lib.hid (KR7.out.next hb_8)
    have IR8 := Lib.hid (IR7.out.next hb_8)
    have U8 := Lib.hid (U7.out.next hb_8)
    have T8 := Lib.hid (T7.out.next hb_8)
    have V8 := Lib.hid (V7.out.next hb_8)
    have S8 := Lib.hid (S7.out.next hb_8)
    have IQ8 := Lib.hid (hI.next hb_8)
    clear hb_8 hI
    go_upto_region 11 with (fail)
    rw [← hbx]
    clear hV hbx
    have LU8 := Lib.hid (show LI w_8 (A3) l3 (A1) from U8.out.at_.1)
    have blU : l3 ≤ 1048570 := U8.out.at_.2.2
    have LV8 := Lib.hid (show LI w_8 (A5) l5 (K) from V8.out.at_.1)
    have blV : l5 ≤ 1048570 := V8.out.at_.2.2
    have LS8 := Lib.hid (show LI w_8 (A6) l6 (A1) from S8.out.at_.1)
    have blS : l6 ≤ 1048570 := S8.out.at_.2.2
    have LG8 := Lib.hid (show LI w_8 (GA) nG (K) from G8.out.at_.1)
    have blG : nG ≤ 1048570 := G8.out.at_.2.2
    have cR0 := KR8.out.cell 0
    have cR1 := KR8.out.cell 1
    have cR2 := KR8.out.cell 2
    have cR3 := KR8.out.cell 3
    simp at cR0 cR1 cR2 cR3
    have hfa := als_facts (n := m) (o := e) IR8.out.hX IR8.out.hY IR8.out.hca IR8.out.hcb
    go_wp2_with (fail)
    refine (als_any m e (some ⟨b1, o1, none⟩) (some ⟨b2, o2, none⟩) q ca q cb X Y _ IR8.out.hX IR8.out.hY IR8.out.hla IR8.out.hlb IR8.out.hca IR8.out.hcb).mono ?_
    rintro e w_9 ⟨v, rfl, ho, hb_9⟩
    have hro := ho.lists.readr
    clear cR0 cR1 cR2 cR3
    have B9 := Lib.hid (B8.out.trans (hb_9.mono B8.out.size))
    have F9 := Lib.hid (F8.out.next hb_9)
    have G9 := Lib.hid (G8.out.next hb_9)
    have KR9 := Lib.hid (KR8.out.next hb_9)
    have IR9 := Lib.hid (IR8.out.next hb_9)
    have U9 := Lib.hid (U8.out.next hb_9)
    have T9 := Lib.hid (T8.out.next hb_9)
    have V9 := Lib.hid (V8.out.next hb_9)
    have S9 := Lib.hid (S8.out.next hb_9)
    have KQ9 := Lib.hid (KQ8.out.next hb_9)
    have IQ9 := Lib.hid (IQ8.out.next hb_9)
    have LU9 := Lib.hid (LU8.out.next hb_9)
    have LV9 := Lib.hid (LV8.out.next hb_9)
    have LS9 := Lib.hid (LS8.out.next hb_9)
    have LG9 := Lib.hid (LG8.out.next hb_9)
    obtain ⟨CA, capA, rfl, hAA⟩ := hro
    obtain ⟨ZZ, hZZ⟩ : ∃ Z, alsL m e X Y = Z := ⟨_, rfl⟩
    rw [hZZ] at hAA hfa ⊢
    obtain ⟨nl, hnl⟩ : ∃ x, ZZ.length = x := ⟨_, rfl⟩
    rw [hnl] at hfa ⊢
    have nl9 : nl ≤ 32768 := hfa.1
    have HFA := Lib.hid hfa.2
    have HAA := Lib.hid hAA
    have HZZ := Lib.hid hZZ
    have HNL := Lib.hid hnl
    clear hb_9 ho hAA hZZ hnl hfa
    have lF := F9.out.at_.2.2
    go_wp2_with (fail)
    go_loopw [17, 90] (fun bv iv wr => ∃ y : Nat, y ≤ nl ∧ iv = .int .i64 y ∧ bv = .int .i64 ((abvC m e X Y L (ZZ.take y) : Nat) : Int) ∧ Below w_9.heap.size w_9 wr) (fun _ iv _ => nl - (intOf iv).toNat)
    case atStart => exact ⟨0, Nat.zero_le _, rfl, rfl, Below.refl _ _⟩
    case round =>
      obtain ⟨y, hy, rfl, rfl, hbr⟩ := hrel
      have BJ := Lib.hid hbr
      have B110 := Lib.hid (B9.out.trans (hbr.mono B9.out.size))
      have F110 := Lib.hid (F9.out.next hbr)
      have G110 := Lib.hid (G9.out.next hbr)
      have KR110 := Lib.hid (KR9.out.next hbr)
      have IR110 := Lib.hid (IR9.out.next hbr)
      have U110 := Lib.hid (U9.out.next hbr)
      have T110 := Lib.hid (T9.out.next hbr)
      have V110 := Lib.hid (V9.out.next hbr)
      have S110 := Lib.hid (S9.out.next hbr)
      have KQ110 := Lib.hid (KQ9.out.next hbr)
      have IQ110 := Lib.hid (IQ9.out.next hbr)
      have LU110 := Lib.hid (LU9.out.next hbr)
      have LV110 := Lib.hid (LV9.out.next hbr)
      have LS110 := Lib.hid (LS9.out.next hbr)
      have LG110 := Lib.hid (LG9.out.next hbr)
      clear hbr
      by_cases hlt : y < nl
      · have hzm : ∀ Z, ZZ[y]? = some Z → Z ∈ alsL m e X Y := fun Z h => by rw [HZZ.out]; exact List.mem_of_getElem? h
        obtain ⟨Z, hZ⟩ : ∃ Z, ZZ[y]? = some Z := ⟨_, List.getElem?_eq_getElem (by rw [HNL.out]; exact hlt)⟩
        obtain ⟨gz, BZ, cz, rfl, hg2, hck0, hc4, hc5, hIZ⟩ := HAA.out y Z hZ
        have hck : wr.cell? ⟨gz, y, none⟩ = some (.slice BZ Z.length cz) := (BJ.out.cell (p := ⟨gz, y, none⟩) hg2).trans hck0
        have hIZ2 := hIZ.next BJ.out
        obtain ⟨ln, hln⟩ : ∃ x, Z.length = x := ⟨_, rfl⟩
        rw [hln] at hck hc4 hc5 hIZ2
        have HTK := Lib.hid (take_LI hZ)
        have HZM := Lib.hid (Hh13.out Z (hzm Z hZ))
        have IZ110 := Lib.hid (hIZ2)
        clear hZ hIZ hIZ2 hck0 hln hg2
        skip
        obtain ⟨cn, hcn⟩ : ∃ x, abvC m e X Y L (ZZ.take y) = x := ⟨_, rfl⟩
        have cn9 : cn ≤ 32768 := by rw [← hcn]; exact Nat.le_trans abvC_le (by rw [List.length_take, HNL.out]; omega)
        rw [hcn]
        have HCN := Lib.hid hcn
        clear hcn
        have cR0 := KR110.out.cell 0
        have cR1 := KR110.out.cell 1
        have cR2 := KR110.out.cell 2
        have cR3 := KR110.out.cell 3
        simp at cR0 cR1 cR2 cR3
        go_wp2_with (fail)
        refine (sumI_any m e (some ⟨b1, o1, none⟩) (some ⟨b2, o2, none⟩) (BZ) (FA) q ca q cb ln nF cz cF X Y Z (L) _ IR110.out.hX IR110.out.hY IZ110.out F110.out.at_.1 IR110.out.hla IR110.out.hlb (by omega) (by omega) IR110.out.hca IR110.out.hcb).mono ?_
        rintro e w_111 ⟨v, rfl, hv, hb_111⟩
        have HB111 := Lib.hid hb_111
        have hv0 := hv
        obtain ⟨A10, l10, c10, rfl, _⟩ := hv0
        clear cR0 cR1 cR2 cR3
        have B111 := Lib.hid (B110.out.trans (hb_111.mono B110.out.size))
        have F111 := Lib.hid (F110.out.next hb_111)
        have G111 := Lib.hid (G110.out.next hb_111)
        have KR111 := Lib.hid (KR110.out.next hb_111)
        have IR111 := Lib.hid (IR110.out.next hb_111)
        have U111 := Lib.hid (U110.out.next hb_111)
        have T111 := Lib.hid (T110.out.next hb_111)
        have V111 := Lib.hid (V110.out.next hb_111)
        have S111 := Lib.hid (S110.out.next hb_111)
        have KQ111 := Lib.hid (KQ110.out.next hb_111)
        have IQ111 := Lib.hid (IQ110.out.next hb_111)
        have LU111 := Lib.hid (LU110.out.next hb_111)
        have LV111 := Lib.hid (LV110.out.next hb_111)
        have LS111 := Lib.hid (LS110.out.next hb_111)
        have LG111 := Lib.hid (LG110.out.next hb_111)
        have IZ111 := Lib.hid (IZ110.out.next hb_111)
        have S2111 := Lib.hid (hv)
        clear hb_111 hv
        cases hab : abvI m e X Y L Z
        · have HAB := Lib.hid (show eqL (sumL m e X Y Z L) Z = false from by rw [HZM.out, hab])
          have HN := Lib.hid (show abvC m e X Y L (ZZ.take (y + 1)) = cn by rw [HTK.out, abvC_no hab, HCN.out])
          clear hab
          go_wp2_with (fail)
          refine (frSame_any (A10) (BZ) l10 ln c10 cz _ _ _ _ _ S2111.out.at_.1 IZ111.out (by have := S2111.out.at_.2.2; omega) (by omega)).mono ?_
          rw [HAB.out]
          rintro e w_112 ⟨rfl, hb_112⟩
          have HB112 := Lib.hid hb_112
          have B112 := Lib.hid (B111.out.trans (hb_112.mono B111.out.size))
          have F112 := Lib.hid (F111.out.next hb_112)
          have G112 := Lib.hid (G111.out.next hb_112)
          have KR112 := Lib.hid (KR111.out.next hb_112)
          have IR112 := Lib.hid (IR111.out.next hb_112)
          have U112 := Lib.hid (U111.out.next hb_112)
          have T112 := Lib.hid (T111.out.next hb_112)
          have V112 := Lib.hid (V111.out.next hb_112)
          have S112 := Lib.hid (S111.out.next hb_112)
          have KQ112 := Lib.hid (KQ111.out.next hb_112)
          have IQ112 := Lib.hid (IQ111.out.next hb_112)
          have LU112 := Lib.hid (LU111.out.next hb_112)
          have LV112 := Lib.hid (LV111.out.next hb_112)
          have LS112 := Lib.hid (LS111.out.next hb_112)
          have LG112 := Lib.hid (LG111.out.next hb_112)
          have IZ112 := Lib.hid (IZ111.out.next hb_112)
          have S2112 := Lib.hid (S2111.out.next hb_112)
          clear hb_112
          go_wp2
          go_roundw
          case rel => exact ⟨y + 1, by omega, by go_num, by rw [HN.out] <;> go_num, below_step (below_step BJ.out HB111.out) HB112.out⟩
          case measure => simp [intOf]; omega
        · have HAB := Lib.hid (show eqL (sumL m e X Y Z L) Z = true from by rw [HZM.out, hab])
          have HN := Lib.hid (show abvC m e X Y L (ZZ.take (y + 1)) = cn + 1 by rw [HTK.out, abvC_yes hab, HCN.out])
          clear hab
          go_wp2_with (fail)
          refine (frSame_any (A10) (BZ) l10 ln c10 cz _ _ _ _ _ S2111.out.at_.1 IZ111.out (by have := S2111.out.at_.2.2; omega) (by omega)).mono ?_
          rw [HAB.out]
          rintro e w_112 ⟨rfl, hb_112⟩
          have HB112 := Lib.hid hb_112
          have B112 := Lib.hid (B111.out.trans (hb_112.mono B111.out.size))
          have F112 := Lib.hid (F111.out.next hb_112)
          have G112 := Lib.hid (G111.out.next hb_112)
          have KR112 := Lib.hid (KR111.out.next hb_112)
          have IR112 := Lib.hid (IR111.out.next hb_112)
          have U112 := Lib.hid (U111.out.next hb_112)
          have T112 := Lib.hid (T111.out.next hb_112)
          have V112 := Lib.hid (V111.out.next hb_112)
          have S112 := Lib.hid (S111.out.next hb_112)
          have KQ112 := Lib.hid (KQ111.out.next hb_112)
          have IQ112 := Lib.hid (IQ111.out.next hb_112)
          have LU112 := Lib.hid (LU111.out.next hb_112)
          have LV112 := Lib.hid (LV111.out.next hb_112)
          have LS112 := Lib.hid (LS111.out.next hb_112)
          have LG112 := Lib.hid (LG111.out.next hb_112)
          have IZ112 := Lib.hid (IZ111.out.next hb_112)
          have S2112 := Lib.hid (S2111.out.next hb_112)
          clear hb_112
          go_wp2
          go_roundw
          case rel => exact ⟨y + 1, by omega, by go_num, by rw [HN.out] <;> go_num, below_step (below_step BJ.out HB111.out) HB112.out⟩
          case measure => simp [intOf]; omega
      · have hy0 : y = nl := by omega
        have htk : ZZ.take y = ZZ := List.take_of_length_le (by rw [HNL.out]; omega)
        rw [htk]
        obtain ⟨w_110, rfl⟩ : ∃ ws, ws = wr := ⟨_, rfl⟩
        obtain ⟨cn, hcn⟩ : ∃ x, abvC m e X Y L ZZ = x := ⟨_, rfl⟩
        rw [hcn]
        have HQN := Lib.hid (show (alsL c' e' QX QY).length = cn by rw [← Hh11.out, HZZ.out, hcn])
        clear BJ hy htk hcn hy0
        have H1 := Lib.hid (show ∀ u, RIn u (some ⟨b1, o1, none⟩) q ca (some ⟨b2, o2, none⟩) q cb X Y → LI u (A3) l3 (A1) → Calls Tryz.prog 14 #[.agg #[.int .i64 m, .int .i64 e, .slice (some ⟨b1, o1, none⟩) q ca, .slice (some ⟨b2, o2, none⟩) q cb], .slice (A3) l3 c3] u fun e' w' => e' = .returned (.bool true) ∧ Below u.heap.size u w' from fun u h0 h1 => by have := isId_any m e (some ⟨b1, o1, none⟩) (some ⟨b2, o2, none⟩) (A3) q ca q cb l3 c3 X Y (A1) u h0.hX h0.hY h1 h0.hla h0.hlb (by omega) h0.hca h0.hcb; rw [Hh7.out] at this; exact this)
        have H2 := Lib.hid (show ∀ u, LI u (A5) l5 (K) → LI u (GA) nG (K) → Calls Tryz.prog 17 #[.slice (A5) l5 c5, .slice (GA) nG cG] u fun e' w' => e' = .returned (.bool true) ∧ Below u.heap.size u w' from fun u h0 h1 => by have := frSame_any (A5) (GA) l5 nG c5 cG _ _ u _ _ h0 h1 (by omega) (by omega); rw [eqL_own_LI] at this; exact this)
        have H3 := Lib.hid (show ∀ u, LI u (A6) l6 (A1) → LI u (A3) l3 (A1) → Calls Tryz.prog 17 #[.slice (A6) l6 c6, .slice (A3) l3 c3] u fun e' w' => e' = .returned (.bool true) ∧ Below u.heap.size u w' from fun u h0 h1 => by have := frSame_any (A6) (A3) l6 l3 c6 c3 _ _ u _ _ h0 h1 (by omega) (by omega); rw [eqL_own_LI] at this; exact this)
        have H5 := Lib.hid (show ∀ u, RIn u (some ⟨b1, o1, none⟩) q ca (some ⟨b2, o2, none⟩) q cb X Y → LI u (A3) l3 (A1) → Calls Tryz.prog 8 #[.agg #[.int .i64 m, .int .i64 e, .slice (some ⟨b1, o1, none⟩) q ca, .slice (some ⟨b2, o2, none⟩) q cb], .slice (A3) l3 c3] u fun e' w' => e' = .returned (.bool pb) ∧ Below u.heap.size u w' from fun u h0 h1 => by have := pri_any m e (some ⟨b1, o1, none⟩) (some ⟨b2, o2, none⟩) (A3) q ca q cb l3 c3 X Y (A1) u h0.hX h0.hY h1 h0.hla h0.hlb (by omega) h0.hca h0.hcb; rw [Hh12.out] at this; exact this)
        have H6 := Lib.hid (show ∀ u, RIn u (A8) l8 c8 (A9) l9 c9 QX QY → LI u (GA) nG (K) → Calls Tryz.prog 8 #[.agg #[.int .i64 c', .int .i64 e', .slice (A8) l8 c8, .slice (A9) l9 c9], .slice (GA) nG cG] u fun e' w' => e' = .returned (.bool pb) ∧ Below u.heap.size u w' from fun u h0 h1 => by have := pri_any c' e' A8 A9 (GA) l8 c8 l9 c9 nG cG QX QY (K) u h0.hX h0.hY h1 h0.hla h0.hlb (by omega) h0.hca h0.hcb; rw [HPB.out] at this; exact this)
        have cR0 := KR110.out.cell 0
        have cR1 := KR110.out.cell 1
        have cR2 := KR110.out.cell 2
        have cR3 := KR110.out.cell 3
        have cQ0 := KQ110.out.cell 0
        have cQ1 := KQ110.out.cell 1
        have cQ2 := KQ110.out.cell 2
        have cQ3 := KQ110.out.cell 3
        simp at cR0 cR1 cR2 cR3 cQ0 cQ1 cQ2 cQ3
        go_wp2_with (fail)
        refine wp_region_makersE 42 (fun i => i == 28) (fun i v _ => LfPhi cn i v) (LfPhi cn) (fun _ => .slice none cn 0) probe (by kernel_rfl) (by kernel_rfl) (fun _ _ _ _ h _ => h) (fun _ _ _ _ h => h) (fun i _ => LfPhi_zero cn i) ?_
        intro V hV vs hvs
        obtain ⟨A88, c88, e88⟩ := (hvs 28 rfl).p rfl
        have cW : ∃ x, extC V x := ⟨V, extC_of (Below.refl _ _)⟩
        clear cR0 cR1 cR2 cR3 cQ0 cQ1 cQ2 cQ3
        have B130 := Lib.hid (B110.out.trans (hV.mono B110.out.size))
        have F130 := Lib.hid (F110.out.next hV)
        have G130 := Lib.hid (G110.out.next hV)
        have KR130 := Lib.hid (KR110.out.next hV)
        have IR130 := Lib.hid (IR110.out.next hV)
        have U130 := Lib.hid (U110.out.next hV)
        have T130 := Lib.hid (T110.out.next hV)
        have V130 := Lib.hid (V110.out.next hV)
        have S130 := Lib.hid (S110.out.next hV)
        have KQ130 := Lib.hid (KQ110.out.next hV)
        have IQ130 := Lib.hid (IQ110.out.next hV)
        have LU130 := Lib.hid (LU110.out.next hV)
        have LV130 := Lib.hid (LV110.out.next hV)
        have LS130 := Lib.hid (LS110.out.next hV)
        have LG130 := Lib.hid (LG110.out.next hV)
        have KX := Lib.hid (show ∀ x, extC V x → Below V.heap.size V x from fun x ⟨u, hu⟩ => by rw [hu]; exact ext_below V u)
        have cR0 := KR130.out.cell 0
        have cR1 := KR130.out.cell 1
        have cR2 := KR130.out.cell 2
        have cR3 := KR130.out.cell 3
        have cQ0 := KQ130.out.cell 0
        have cQ1 := KQ130.out.cell 1
        have cQ2 := KQ130.out.cell 2
        have cQ3 := KQ130.out.cell 3
        simp at cR0 cR1 cR2 cR3 cQ0 cQ1 cQ2 cQ3
        clear hV
        simp only [List.take_succ_cons, List.take_zero, List.drop_succ_cons, List.drop_zero]
        refine wpV_quietE cW 28 0 _ _ (by decide) (by decide) ?_
        simp only [List.take_succ_cons, List.take_zero, List.drop_succ_cons, List.drop_zero]
        repeat (go_big_quiet_step (first | (go_at_call 14; with_reducible refine calls_ext (H1.out _ (IR130.out.ext _) (LU130.out.ext _))) | (go_at_call 17; with_reducible refine calls_ext (H2.out _ (LV130.out.ext _) (LG130.out.ext _))) | (go_at_call 17; with_reducible refine calls_ext (H3.out _ (LS130.out.ext _) (LU130.out.ext _))) | fail))
        refine wpQuiet_nil ?_
        refine wpV_makeE rfl (by first | rfl | simp [Region.wanted, yielded]) (fun x hx _ => ?_) ?_
        · unfold makesAtE
          go_simp
          have IX := IQ130.out.next (KX.out x hx)
          refine ⟨rfl, (als_any c' e' A8 A9 l8 c8 l9 c9 QX QY x IX.hX IX.hY IX.hla IX.hlb IX.hca IX.hcb).mono ?_⟩
          rintro _ x' ⟨v, rfl, ho, hb⟩
          obtain ⟨A77, c77, rfl, _⟩ := ho.lists.readr
          rw [HQN.out]
          exact ⟨_, rfl, hb, ⟨fun _ => ⟨_, _, rfl⟩⟩, fun b hbb => (by cases hbb)⟩
        rw [e88]
        go_simp
        refine wpV_quietE cW 13 _ _ _ (by decide) (by decide) ?_
        simp only [List.take_succ_cons, List.take_zero, List.drop_succ_cons, List.drop_zero]
        repeat (go_big_quiet_step (first | (go_at_call 8; with_reducible refine calls_ext (H5.out _ (IR130.out.ext _) (LU130.out.ext _))) | (go_at_call 8; with_reducible refine calls_ext (H6.out _ (IQ130.out.ext _) (LG130.out.ext _))) | fail))
        refine wpQuiet_nil ?_
        refine wpV_nilE ?_
        intro w3 hb3 _ _
        clear cR0 cR1 cR2 cR3 cQ0 cQ1 cQ2 cQ3
        have B131 := Lib.hid (below_step B110.out hb3)
        clear hb3 hvs
        go_wp2
        go_ret
        exact ⟨rfl, B131.out⟩

end Go.Proofs.YtajoimopahibcaaGreat

