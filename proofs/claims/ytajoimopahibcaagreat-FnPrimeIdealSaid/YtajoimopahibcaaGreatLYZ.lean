
import Derived.Test.YtajoimopahibcaaGreatLWI
import Derived.Test.YtajoimopahibcaaGreatLEI
import Derived.Test.YtajoimopahibcaaGreatMO
import Derived.Test.YtajoimopahibcaaGreatNC
import Derived.Test.YtajoimopahibcaaGreatMH
/- The walk of the law FnPrimeIdeal. -/
namespace Go.Proofs.YtajoimopahibcaaGreat
open Go.RowKit
set_option maxRecDepth 100000

theorem eqL_own_PM {xs : List Int} : eqL xs xs = true := eqL_true rfl fun _ _ => rfl
theorem take_PM {ZZ : List (List Int)} {k : Nat} {Z : List Int} (h : ZZ[k]? = some Z) : ZZ.take (k + 1) = ZZ.take k ++ [Z] := by
  have hk := (List.getElem?_eq_some_iff.1 h).1
  rw [List.getElem?_eq_getElem hk] at h
  rw [List.take_succ_eq_append_getElem hk]
  simp only [Option.some.injEq] at h
  rw [h]
set_option maxHeartbeats 16000000 in
theorem fnPrimeIdeal_walk (A : Option Addr) (n c : Nat) (w : World) (hb : Byts w w.heap.size A n) (hc : n ≤ c) (hc2 : c ≤ 9223372036854775807) :
    Calls Tryz.prog 3 #[.slice A n c] w fun e w' => e = .returned (.bool true) ∧ Below w.heap.size w w' := by
  by_cases hbig : n > 1048576
  · have t0 : decide ((n : Int) > 1048576) = true := by simp; omega
    go_enter Tryz.func3, Tryz.ntmps3
    go_wp2_with (fail)
    go_ret
    exact ⟨rfl, Below.refl _ _⟩
  have hn : n ≤ 1048576 := by omega
  have t0 : decide ((n : Int) > 1048576) = false := by simp; omega
  go_enter Tryz.func3, Tryz.ntmps3
  go_wp2_with (fail)
  refine (drawIsPrimeIdeal_any A n c w hb hn hc hc2).mono ?_
  rintro e w_0 ⟨v, v1, rfl, hA, ⟨L, hF, hfl⟩, hb_0⟩
  obtain ⟨N, O, A1, A2, q, ca, cb, X, Y, rfl, hI, _, _⟩ := hA.rin
  obtain ⟨FA, nF, cF, rfl, _⟩ := id hF
  clear hA
  have B0 := Lib.hid (hb_0)
  have F0 := Lib.hid (hF)
  clear hb_0 hF
  obtain ⟨w_1, hV⟩ : ∃ V, World.alloc w_0 (.cells #[.int .i64 N, .int .i64 O, .slice A1 q ca, .slice A2 q cb] 25) = V := ⟨_, rfl⟩
  have hb_1 : Below (World.heap w_0).size w_0 w_1 := by subst hV; exact (Below.refl _ _).alloc (Nat.le_refl _) _
  obtain ⟨bR, hbx⟩ : ∃ b, b = (World.heap w_0).size := ⟨_, rfl⟩
  have KR1 := Lib.hid (show Blk w_1 bR 25 #[.int .i64 N, .int .i64 O, .slice A1 q ca, .slice A2 q cb] by subst hV hbx; exact Blk.new w_0 _ _)
  have B1 := Lib.hid (B0.out.trans (hb_1.mono B0.out.size))
  have F1 := Lib.hid (F0.out.next hb_1)
  have IR1 := Lib.hid (hI.next hb_1)
  clear hb_1 hI
  go_upto_region 4 with (fail)
  rw [← hbx]
  clear hV hbx
  obtain ⟨bp, hbp⟩ : ∃ x, priB N O X Y L = x := ⟨_, rfl⟩
  have Hbp := Lib.hid hbp
  obtain ⟨bm, hbm⟩ : ∃ x, mxmB N O X Y L = x := ⟨_, rfl⟩
  have Hbm := Lib.hid hbm
  obtain ⟨gv, hgv⟩ : ∃ x, genV N O X Y L = x := ⟨_, rfl⟩
  have Hgv := Lib.hid hgv
  clear hbp hbm hgv
  have cR0 := KR1.out.cell 0
  have cR1 := KR1.out.cell 1
  have cR2 := KR1.out.cell 2
  have cR3 := KR1.out.cell 3
  simp at cR0 cR1 cR2 cR3
  go_wp2_with (fail)
  refine (pri_any N O (A1) (A2) (FA) q ca q cb nF cF X Y (L) _ IR1.out.hX IR1.out.hY F1.out.at_.1 IR1.out.hla IR1.out.hlb (by have := F1.out.at_.2.2; omega) IR1.out.hca IR1.out.hcb).mono ?_
  rw [Hbp.out]
  rintro e w_2 ⟨rfl, hb_2⟩
  clear cR0 cR1 cR2 cR3
  have B2 := Lib.hid (B1.out.trans (hb_2.mono B1.out.size))
  have F2 := Lib.hid (F1.out.next hb_2)
  have KR2 := Lib.hid (KR1.out.next hb_2)
  have IR2 := Lib.hid (IR1.out.next hb_2)
  clear hb_2
  have cR0 := KR2.out.cell 0
  have cR1 := KR2.out.cell 1
  have cR2 := KR2.out.cell 2
  have cR3 := KR2.out.cell 3
  simp at cR0 cR1 cR2 cR3
  go_wp2_with (fail)
  refine (mxm_any N O (A1) (A2) (FA) q ca q cb nF cF X Y (L) _ IR2.out.hX IR2.out.hY F2.out.at_.1 IR2.out.hla IR2.out.hlb (by have := F2.out.at_.2.2; omega) IR2.out.hca IR2.out.hcb).mono ?_
  rw [Hbm.out]
  rintro e w_3 ⟨rfl, hb_3⟩
  clear cR0 cR1 cR2 cR3
  have B3 := Lib.hid (B2.out.trans (hb_3.mono B2.out.size))
  have F3 := Lib.hid (F2.out.next hb_3)
  have KR3 := Lib.hid (KR2.out.next hb_3)
  have IR3 := Lib.hid (IR2.out.next hb_3)
  clear hb_3
  have cR0 := KR3.out.cell 0
  have cR1 := KR3.out.cell 1
  have cR2 := KR3.out.cell 2
  have cR3 := KR3.out.cell 3
  simp at cR0 cR1 cR2 cR3
  go_wp2_with (fail)
  refine (genr_any N O (A1) (A2) (FA) q ca q cb nF cF X Y (L) _ IR3.out.hX IR3.out.hY F3.out.at_.1 IR3.out.hla IR3.out.hlb (by have := F3.out.at_.2.2; omega) IR3.out.hca IR3.out.hcb).mono ?_
  rw [Hgv.out]
  rintro e w_4 ⟨rfl, hb_4⟩
  clear cR0 cR1 cR2 cR3
  have B4 := Lib.hid (B3.out.trans (hb_4.mono B3.out.size))
  have F4 := Lib.hid (F3.out.next hb_4)
  have KR4 := Lib.hid (KR3.out.next hb_4)
  have IR4 := Lib.hid (IR3.out.next hb_4)
  clear hb_4
  have tg : (gv != gv) = false := by simp
  have tg2 : (gv == gv) = true := by simp
  cases hok : isIdB N O X Y L
  · have e1 : bp = false := by rw [← Hbp.out]; exact pri_no hok
    subst e1
    have e2 : bm = false := by rw [← Hbm.out]; exact mxm_no hok
    subst e2
    have tg3 : (gv == -1) = true := by rw [← Hgv.out, genV_no hok]; rfl
    have HOK := Lib.hid hok
    clear hok
    have cR0 := KR4.out.cell 0
    have cR1 := KR4.out.cell 1
    have cR2 := KR4.out.cell 2
    have cR3 := KR4.out.cell 3
    simp at cR0 cR1 cR2 cR3
    go_wp2_with (fail)
    refine (spri_any N O (A1) (A2) (FA) q ca q cb nF cF X Y (L) _ IR4.out.hX IR4.out.hY F4.out.at_.1 IR4.out.hla IR4.out.hlb (by have := F4.out.at_.2.2; omega) IR4.out.hca IR4.out.hcb).mono ?_
    rw [Hbp.out]
    rintro e w_5 ⟨rfl, hb_5⟩
    clear cR0 cR1 cR2 cR3
    have B5 := Lib.hid (B4.out.trans (hb_5.mono B4.out.size))
    have F5 := Lib.hid (F4.out.next hb_5)
    have KR5 := Lib.hid (KR4.out.next hb_5)
    have IR5 := Lib.hid (IR4.out.next hb_5)
    clear hb_5
    have cR0 := KR5.out.cell 0
    have cR1 := KR5.out.cell 1
    have cR2 := KR5.out.cell 2
    have cR3 := KR5.out.cell 3
    simp at cR0 cR1 cR2 cR3
    go_wp2_with (fail)
    refine (smxm_any N O (A1) (A2) (FA) q ca q cb nF cF X Y (L) _ IR5.out.hX IR5.out.hY F5.out.at_.1 IR5.out.hla IR5.out.hlb (by have := F5.out.at_.2.2; omega) IR5.out.hca IR5.out.hcb).mono ?_
    rw [Hbm.out]
    rintro e w_6 ⟨rfl, hb_6⟩
    clear cR0 cR1 cR2 cR3
    have B6 := Lib.hid (B5.out.trans (hb_6.mono B5.out.size))
    have F6 := Lib.hid (F5.out.next hb_6)
    have KR6 := Lib.hid (KR5.out.next hb_6)
    have IR6 := Lib.hid (IR5.out.next hb_6)
    clear hb_6
    have cR0 := KR6.out.cell 0
    have cR1 := KR6.out.cell 1
    have cR2 := KR6.out.cell 2
    have cR3 := KR6.out.cell 3
    simp at cR0 cR1 cR2 cR3
    go_wp2_with (fail)
    refine (sgenr_any N O (A1) (A2) (FA) q ca q cb nF cF X Y (L) _ IR6.out.hX IR6.out.hY F6.out.at_.1 IR6.out.hla IR6.out.hlb (by have := F6.out.at_.2.2; omega) IR6.out.hca IR6.out.hcb).mono ?_
    rw [Hgv.out]
    rintro e w_7 ⟨rfl, hb_7⟩
    clear cR0 cR1 cR2 cR3
    have B7 := Lib.hid (B6.out.trans (hb_7.mono B6.out.size))
    have F7 := Lib.hid (F6.out.next hb_7)
    have KR7 := Lib.hid (KR6.out.next hb_7)
    have IR7 := Lib.hid (IR6.out.next hb_7)
    clear hb_7
    have cR0 := KR7.out.cell 0
    have cR1 := KR7.out.cell 1
    have cR2 := KR7.out.cell 2
    have cR3 := KR7.out.cell 3
    simp at cR0 cR1 cR2 cR3
    go_wp2_with (fail)
    refine (isId_any N O (A1) (A2) (FA) q ca q cb nF cF X Y (L) _ IR7.out.hX IR7.out.hY F7.out.at_.1 IR7.out.hla IR7.out.hlb (by have := F7.out.at_.2.2; omega) IR7.out.hca IR7.out.hcb).mono ?_
    rw [HOK.out]
    rintro e w_8 ⟨rfl, hb_8⟩
    clear cR0 cR1 cR2 cR3
    have B8 := Lib.hid (B7.out.trans (hb_8.mono B7.out.size))
    have F8 := Lib.hid (F7.out.next hb_8)
    have KR8 := Lib.hid (KR7.out.next hb_8)
    have IR8 := Lib.hid (IR7.out.next hb_8)
    clear hb_8
    have cR0 := KR8.out.cell 0
    have cR1 := KR8.out.cell 1
    have cR2 := KR8.out.cell 2
    have cR3 := KR8.out.cell 3
    simp at cR0 cR1 cR2 cR3
    go_wp2_with (fail)
    refine (spri_any N O (A1) (A2) (FA) q ca q cb nF cF X Y (L) _ IR8.out.hX IR8.out.hY F8.out.at_.1 IR8.out.hla IR8.out.hlb (by have := F8.out.at_.2.2; omega) IR8.out.hca IR8.out.hcb).mono ?_
    rw [Hbp.out]
    rintro e w_9 ⟨rfl, hb_9⟩
    clear cR0 cR1 cR2 cR3
    have B9 := Lib.hid (B8.out.trans (hb_9.mono B8.out.size))
    have F9 := Lib.hid (F8.out.next hb_9)
    have KR9 := Lib.hid (KR8.out.next hb_9)
    have IR9 := Lib.hid (IR8.out.next hb_9)
    clear hb_9
    have cR0 := KR9.out.cell 0
    have cR1 := KR9.out.cell 1
    have cR2 := KR9.out.cell 2
    have cR3 := KR9.out.cell 3
    simp at cR0 cR1 cR2 cR3
    go_wp2_with (fail)
    refine (smxm_any N O (A1) (A2) (FA) q ca q cb nF cF X Y (L) _ IR9.out.hX IR9.out.hY F9.out.at_.1 IR9.out.hla IR9.out.hlb (by have := F9.out.at_.2.2; omega) IR9.out.hca IR9.out.hcb).mono ?_
    rw [Hbm.out]
    rintro e w_10 ⟨rfl, hb_10⟩
    clear cR0 cR1 cR2 cR3
    have B10 := Lib.hid (B9.out.trans (hb_10.mono B9.out.size))
    have F10 := Lib.hid (F9.out.next hb_10)
    have KR10 := Lib.hid (KR9.out.next hb_10)
    have IR10 := Lib.hid (IR9.out.next hb_10)
    clear hb_10
    have cR0 := KR10.out.cell 0
    have cR1 := KR10.out.cell 1
    have cR2 := KR10.out.cell 2
    have cR3 := KR10.out.cell 3
    simp at cR0 cR1 cR2 cR3
    go_wp2_with (fail)
    refine (sgenr_any N O (A1) (A2) (FA) q ca q cb nF cF X Y (L) _ IR10.out.hX IR10.out.hY F10.out.at_.1 IR10.out.hla IR10.out.hlb (by have := F10.out.at_.2.2; omega) IR10.out.hca IR10.out.hcb).mono ?_
    rw [Hgv.out]
    rintro e w_11 ⟨rfl, hb_11⟩
    clear cR0 cR1 cR2 cR3
    have B11 := Lib.hid (B10.out.trans (hb_11.mono B10.out.size))
    have F11 := Lib.hid (F10.out.next hb_11)
    have KR11 := Lib.hid (KR10.out.next hb_11)
    have IR11 := Lib.hid (IR10.out.next hb_11)
    clear hb_11
    go_wp2_with (fail)
    go_ret
    exact ⟨rfl, B11.out⟩
  · skip
    obtain ⟨m, e, b1, o1, b2, o2, rfl, rfl, rfl, rfl, hr, _, lX, lY, gX, gY⟩ := valid_data (ide_data (isId_ide hok)).1 IR4.out.hX IR4.out.hY IR4.out.hca IR4.out.hcb
    have hm := hr.hm
    have hm' := hr.hm'
    obtain ⟨hE1, hE2, hE3, hE4⟩ := primeIdeal_law hok hm'
    have ebp : bp = bm := by rw [← Hbp.out, ← Hbm.out]; exact hE1
    subst ebp
    rw [Hbm.out] at hE2
    rw [Hgv.out] at hE3 hE4
    have HE2 := Lib.hid hE2
    have HE3 := Lib.hid hE3
    have HE4 := Lib.hid hE4
    have HOK := Lib.hid hok
    have tb : (bp != bp) = false := by simp
    have tb2 : (bp == bp) = true := by simp
    clear hok hr lX lY gX gY hE1 hE2 hE3 hE4
    have cR0 := KR4.out.cell 0
    have cR1 := KR4.out.cell 1
    have cR2 := KR4.out.cell 2
    have cR3 := KR4.out.cell 3
    simp at cR0 cR1 cR2 cR3
    go_wp2_with (fail)
    refine (spri_any m e (some ⟨b1, o1, none⟩) (some ⟨b2, o2, none⟩) (FA) q ca q cb nF cF X Y (L) _ IR4.out.hX IR4.out.hY F4.out.at_.1 IR4.out.hla IR4.out.hlb (by have := F4.out.at_.2.2; omega) IR4.out.hca IR4.out.hcb).mono ?_
    rw [Hbp.out]
    rintro e w_5 ⟨rfl, hb_5⟩
    clear cR0 cR1 cR2 cR3
    have B5 := Lib.hid (B4.out.trans (hb_5.mono B4.out.size))
    have F5 := Lib.hid (F4.out.next hb_5)
    have KR5 := Lib.hid (KR4.out.next hb_5)
    have IR5 := Lib.hid (IR4.out.next hb_5)
    clear hb_5
    have cR0 := KR5.out.cell 0
    have cR1 := KR5.out.cell 1
    have cR2 := KR5.out.cell 2
    have cR3 := KR5.out.cell 3
    simp at cR0 cR1 cR2 cR3
    go_wp2_with (fail)
    refine (smxm_any m e (some ⟨b1, o1, none⟩) (some ⟨b2, o2, none⟩) (FA) q ca q cb nF cF X Y (L) _ IR5.out.hX IR5.out.hY F5.out.at_.1 IR5.out.hla IR5.out.hlb (by have := F5.out.at_.2.2; omega) IR5.out.hca IR5.out.hcb).mono ?_
    rw [Hbm.out]
    rintro e w_6 ⟨rfl, hb_6⟩
    clear cR0 cR1 cR2 cR3
    have B6 := Lib.hid (B5.out.trans (hb_6.mono B5.out.size))
    have F6 := Lib.hid (F5.out.next hb_6)
    have KR6 := Lib.hid (KR5.out.next hb_6)
    have IR6 := Lib.hid (IR5.out.next hb_6)
    clear hb_6
    have cR0 := KR6.out.cell 0
    have cR1 := KR6.out.cell 1
    have cR2 := KR6.out.cell 2
    have cR3 := KR6.out.cell 3
    simp at cR0 cR1 cR2 cR3
    go_wp2_with (fail)
    refine (sgenr_any m e (some ⟨b1, o1, none⟩) (some ⟨b2, o2, none⟩) (FA) q ca q cb nF cF X Y (L) _ IR6.out.hX IR6.out.hY F6.out.at_.1 IR6.out.hla IR6.out.hlb (by have := F6.out.at_.2.2; omega) IR6.out.hca IR6.out.hcb).mono ?_
    rw [Hgv.out]
    rintro e w_7 ⟨rfl, hb_7⟩
    clear cR0 cR1 cR2 cR3
    have B7 := Lib.hid (B6.out.trans (hb_7.mono B6.out.size))
    have F7 := Lib.hid (F6.out.next hb_7)
    have KR7 := Lib.hid (KR6.out.next hb_7)
    have IR7 := Lib.hid (IR6.out.next hb_7)
    clear hb_7
    have cR0 := KR7.out.cell 0
    have cR1 := KR7.out.cell 1
    have cR2 := KR7.out.cell 2
    have cR3 := KR7.out.cell 3
    simp at cR0 cR1 cR2 cR3
    go_wp2_with (fail)
    refine (isId_any m e (some ⟨b1, o1, none⟩) (some ⟨b2, o2, none⟩) (FA) q ca q cb nF cF X Y (L) _ IR7.out.hX IR7.out.hY F7.out.at_.1 IR7.out.hla IR7.out.hlb (by have := F7.out.at_.2.2; omega) IR7.out.hca IR7.out.hcb).mono ?_
    rw [HOK.out]
    rintro e w_8 ⟨rfl, hb_8⟩
    clear cR0 cR1 cR2 cR3
    have B8 := Lib.hid (B7.out.trans (hb_8.mono B7.out.size))
    have F8 := Lib.hid (F7.out.next hb_8)
    have KR8 := Lib.hid (KR7.out.next hb_8)
    have IR8 := Lib.hid (IR7.out.next hb_8)
    clear hb_8
    have cR0 := KR8.out.cell 0
    have cR1 := KR8.out.cell 1
    have cR2 := KR8.out.cell 2
    have cR3 := KR8.out.cell 3
    simp at cR0 cR1 cR2 cR3
    have hfa := als_facts (n := m) (o := e) IR8.out.hX IR8.out.hY IR8.out.hca IR8.out.hcb
    go_wp2_with (fail)
    refine (als_any m e (some ⟨b1, o1, none⟩) (some ⟨b2, o2, none⟩) q ca q cb X Y _ IR8.out.hX IR8.out.hY IR8.out.hla IR8.out.hlb IR8.out.hca IR8.out.hcb).mono ?_
    rintro e w_9 ⟨v, rfl, ho, hb_9⟩
    have hro := ho.lists.readr
    clear cR0 cR1 cR2 cR3
    have B9 := Lib.hid (B8.out.trans (hb_9.mono B8.out.size))
    have F9 := Lib.hid (F8.out.next hb_9)
    have KR9 := Lib.hid (KR8.out.next hb_9)
    have IR9 := Lib.hid (IR8.out.next hb_9)
    obtain ⟨CA, capA, rfl, hAA⟩ := hro
    obtain ⟨ZZ, hZZ⟩ : ∃ Z, alsL m e X Y = Z := ⟨_, rfl⟩
    rw [hZZ] at hAA hfa ⊢
    obtain ⟨nl, hnl⟩ : ∃ x, ZZ.length = x := ⟨_, rfl⟩
    rw [hnl] at hfa ⊢
    have nl9 : nl ≤ 32768 := hfa.1
    have HFA := Lib.hid hfa.2
    have HAA := Lib.hid hAA
    have HZZ := Lib.hid hZZ
    have HNL := Lib.hid hnl
    clear hb_9 ho hAA hZZ hnl hfa
    have lF := F9.out.at_.2.2
    go_wp2_with (fail)
    go_loopw [8, 91] (fun bv iv wr => ∃ y : Nat, y ≤ nl ∧ iv = .int .i64 y ∧ bv = .int .i64 ((abvC m e X Y L (ZZ.take y) : Nat) : Int) ∧ Below w_9.heap.size w_9 wr) (fun _ iv _ => nl - (intOf iv).toNat)
    case atStart => exact ⟨0, Nat.zero_le _, rfl, rfl, Below.refl _ _⟩
    case round =>
      obtain ⟨y, hy, rfl, rfl, hbr⟩ := hrel
      have BJ := Lib.hid hbr
      have B110 := Lib.hid (B9.out.trans (hbr.mono B9.out.size))
      have F110 := Lib.hid (F9.out.next hbr)
      have KR110 := Lib.hid (KR9.out.next hbr)
      have IR110 := Lib.hid (IR9.out.next hbr)
      clear hbr
      by_cases hlt : y < nl
      · skip
        obtain ⟨Z, hZ⟩ : ∃ Z, ZZ[y]? = some Z := ⟨_, List.getElem?_eq_getElem (by rw [HNL.out]; exact hlt)⟩
        obtain ⟨gz, BZ, cz, rfl, hg2, hck0, hc4, hc5, hIZ⟩ := HAA.out y Z hZ
        have hck : wr.cell? ⟨gz, y, none⟩ = some (.slice BZ Z.length cz) := (BJ.out.cell (p := ⟨gz, y, none⟩) hg2).trans hck0
        have hIZ2 := hIZ.next BJ.out
        obtain ⟨ln, hln⟩ : ∃ x, Z.length = x := ⟨_, rfl⟩
        rw [hln] at hck hc4 hc5 hIZ2
        have HTK := Lib.hid (take_PM hZ)
        have IZ110 := Lib.hid (hIZ2)
        clear hZ hIZ hIZ2 hck0 hln hg2
        obtain ⟨cn, hcn⟩ : ∃ x, abvC m e X Y L (ZZ.take y) = x := ⟨_, rfl⟩
        have cn9 : cn ≤ 32768 := by rw [← hcn]; exact Nat.le_trans abvC_le (by rw [List.length_take, HNL.out]; omega)
        rw [hcn]
        have HCN := Lib.hid hcn
        clear hcn
        have cR0 := KR110.out.cell 0
        have cR1 := KR110.out.cell 1
        have cR2 := KR110.out.cell 2
        have cR3 := KR110.out.cell 3
        simp at cR0 cR1 cR2 cR3
        go_wp2_with (fail)
        refine (sumI_any m e (some ⟨b1, o1, none⟩) (some ⟨b2, o2, none⟩) (FA) (BZ) q ca q cb nF ln cF cz X Y (L) Z _ IR110.out.hX IR110.out.hY F110.out.at_.1 IZ110.out IR110.out.hla IR110.out.hlb (by have := F110.out.at_.2.2; omega) (by omega) IR110.out.hca IR110.out.hcb).mono ?_
        rintro e w_111 ⟨v, rfl, hv, hb_111⟩
        have HB111 := Lib.hid hb_111
        have hv0 := hv
        obtain ⟨A3, l3, c3, rfl, _⟩ := hv0
        clear cR0 cR1 cR2 cR3
        have B111 := Lib.hid (B110.out.trans (hb_111.mono B110.out.size))
        have F111 := Lib.hid (F110.out.next hb_111)
        have KR111 := Lib.hid (KR110.out.next hb_111)
        have IR111 := Lib.hid (IR110.out.next hb_111)
        have IZ111 := Lib.hid (IZ110.out.next hb_111)
        have S111 := Lib.hid (hv)
        clear hb_111 hv
        cases hab : abvI m e X Y L Z
        · have HAB := Lib.hid (show eqL (sumL m e X Y L Z) Z = false from hab)
          have HN := Lib.hid (show abvC m e X Y L (ZZ.take (y + 1)) = cn by rw [HTK.out, abvC_no hab, HCN.out])
          clear hab
          go_wp2_with (fail)
          refine (frSame_any (A3) (BZ) l3 ln c3 cz _ _ _ _ _ S111.out.at_.1 IZ111.out (by have := S111.out.at_.2.2; omega) (by omega)).mono ?_
          rw [HAB.out]
          rintro e w_112 ⟨rfl, hb_112⟩
          have HB112 := Lib.hid hb_112
          have B112 := Lib.hid (B111.out.trans (hb_112.mono B111.out.size))
          have F112 := Lib.hid (F111.out.next hb_112)
          have KR112 := Lib.hid (KR111.out.next hb_112)
          have IR112 := Lib.hid (IR111.out.next hb_112)
          have IZ112 := Lib.hid (IZ111.out.next hb_112)
          have S112 := Lib.hid (S111.out.next hb_112)
          clear hb_112
          go_wp2
          go_roundw
          case rel => exact ⟨y + 1, by omega, by go_num, by rw [HN.out] <;> go_num, below_step (below_step BJ.out HB111.out) HB112.out⟩
          case measure => simp [intOf]; omega
        · have HAB := Lib.hid (show eqL (sumL m e X Y L Z) Z = true from hab)
          have HN := Lib.hid (show abvC m e X Y L (ZZ.take (y + 1)) = cn + 1 by rw [HTK.out, abvC_yes hab, HCN.out])
          clear hab
          go_wp2_with (fail)
          refine (frSame_any (A3) (BZ) l3 ln c3 cz _ _ _ _ _ S111.out.at_.1 IZ111.out (by have := S111.out.at_.2.2; omega) (by omega)).mono ?_
          rw [HAB.out]
          rintro e w_112 ⟨rfl, hb_112⟩
          have HB112 := Lib.hid hb_112
          have B112 := Lib.hid (B111.out.trans (hb_112.mono B111.out.size))
          have F112 := Lib.hid (F111.out.next hb_112)
          have KR112 := Lib.hid (KR111.out.next hb_112)
          have IR112 := Lib.hid (IR111.out.next hb_112)
          have IZ112 := Lib.hid (IZ111.out.next hb_112)
          have S112 := Lib.hid (S111.out.next hb_112)
          clear hb_112
          go_wp2
          go_roundw
          case rel => exact ⟨y + 1, by omega, by go_num, by rw [HN.out] <;> go_num, below_step (below_step BJ.out HB111.out) HB112.out⟩
          case measure => simp [intOf]; omega
      · have hy0 : y = nl := by omega
        have htk : ZZ.take y = ZZ := List.take_of_length_le (by rw [HNL.out]; omega)
        rw [htk]
        obtain ⟨w_110, rfl⟩ : ∃ ws, ws = wr := ⟨_, rfl⟩
        obtain ⟨cn, hcn⟩ : ∃ x, abvC m e X Y L ZZ = x := ⟨_, rfl⟩
        rw [hcn]
        have tcn : ((cn : Int) == 2) = bp := by
          have h2 := HE2.out
          rw [HZZ.out, hcn] at h2
          cases bp
          · rw [beq_eq_false_iff_ne]
            intro h3
            have := h2.1 (by omega)
            cases this
          · rw [beq_iff_eq]
            have := h2.2 rfl
            omega
        clear BJ hy htk hcn hy0
        rcases HE4.out with hg | ⟨gn, hgm, hg⟩
        · subst hg
          have cR0 := KR110.out.cell 0
          have cR1 := KR110.out.cell 1
          have cR2 := KR110.out.cell 2
          have cR3 := KR110.out.cell 3
          simp at cR0 cR1 cR2 cR3
          go_wp2_with (fail)
          clear cR0 cR1 cR2 cR3
          rw [show (max (-1) 0 : Int) = 0 from by decide]
          obtain ⟨w_111, hV⟩ : ∃ V, w_110.alloc (.cells #[.int .i64 (0)] 3) = V := ⟨_, rfl⟩
          have hb_111 : Below w_110.heap.size w_110 w_111 := by subst hV; exact (Below.refl _ _).alloc (Nat.le_refl _) _
          have hone : Ints w_111 w_111.heap.size (some ⟨w_110.heap.size, 0, none⟩) 1 [0] := by subst hV; have := ints_one (w := w_110) (v := 0) (T := 3); simpa using this
          rw [hV]
          clear hV
          have B111 := Lib.hid (B110.out.trans (hb_111.mono B110.out.size))
          have F111 := Lib.hid (F110.out.next hb_111)
          have KR111 := Lib.hid (KR110.out.next hb_111)
          have IR111 := Lib.hid (IR110.out.next hb_111)
          clear hb_111
          refine (idealOf_any m e (some ⟨b1, o1, none⟩) (some ⟨b2, o2, none⟩) (some ⟨w_110.heap.size, 0, none⟩) q ca q cb 1 1 X Y [0] _ IR111.out.hX IR111.out.hY hone IR111.out.hla IR111.out.hlb (by omega) IR111.out.hca IR111.out.hcb).mono ?_
          rintro e w_112 ⟨v, rfl, hv, hb_112⟩
          have hv0 := hv
          obtain ⟨A4, l4, c4, rfl, _⟩ := hv0
          have B112 := Lib.hid (B111.out.trans (hb_112.mono B111.out.size))
          have F112 := Lib.hid (F111.out.next hb_112)
          have KR112 := Lib.hid (KR111.out.next hb_112)
          have IR112 := Lib.hid (IR111.out.next hb_112)
          have J112 := Lib.hid (hv)
          clear hb_112 hv hone
          go_wp2_with (fail)
          go_ret
          exact ⟨rfl, B112.out⟩
        · subst hg
          have HID := Lib.hid (HE3.out gn rfl).1
          have g0 : ¬ ((gn : Int) < 0) := by omega
          have g1 : (0 : Int) ≤ (gn : Int) := by omega
          have cR0 := KR110.out.cell 0
          have cR1 := KR110.out.cell 1
          have cR2 := KR110.out.cell 2
          have cR3 := KR110.out.cell 3
          simp at cR0 cR1 cR2 cR3
          go_wp2_with (fail)
          clear cR0 cR1 cR2 cR3
          obtain ⟨w_111, hV⟩ : ∃ V, w_110.alloc (.cells #[.int .i64 ((gn : Int))] 3) = V := ⟨_, rfl⟩
          have hb_111 : Below w_110.heap.size w_110 w_111 := by subst hV; exact (Below.refl _ _).alloc (Nat.le_refl _) _
          have hone : Ints w_111 w_111.heap.size (some ⟨w_110.heap.size, 0, none⟩) 1 [(gn : Int)] := by subst hV; have := ints_one (w := w_110) (v := (gn : Int)) (T := 3); simpa using this
          rw [hV]
          clear hV
          have B111 := Lib.hid (B110.out.trans (hb_111.mono B110.out.size))
          have F111 := Lib.hid (F110.out.next hb_111)
          have KR111 := Lib.hid (KR110.out.next hb_111)
          have IR111 := Lib.hid (IR110.out.next hb_111)
          clear hb_111
          refine (idealOf_any m e (some ⟨b1, o1, none⟩) (some ⟨b2, o2, none⟩) (some ⟨w_110.heap.size, 0, none⟩) q ca q cb 1 1 X Y [(gn : Int)] _ IR111.out.hX IR111.out.hY hone IR111.out.hla IR111.out.hlb (by omega) IR111.out.hca IR111.out.hcb).mono ?_
          rw [HID.out]
          rintro e w_112 ⟨v, rfl, hv, hb_112⟩
          have hv0 := hv
          obtain ⟨A5, l5, c5, rfl, _⟩ := hv0
          have B112 := Lib.hid (B111.out.trans (hb_112.mono B111.out.size))
          have F112 := Lib.hid (F111.out.next hb_112)
          have KR112 := Lib.hid (KR111.out.next hb_112)
          have IR112 := Lib.hid (IR111.out.next hb_112)
          have J112 := Lib.hid (hv)
          clear hb_112 hv hone
          go_wp2_with (fail)
          refine (frSame_any (A5) (FA) l5 nF c5 cF _ _ _ _ _ J112.out.at_.1 F112.out.at_.1 (by have := J112.out.at_.2.2; omega) (by have := F112.out.at_.2.2; omega)).mono ?_
          rw [eqL_own_PM]
          rintro e w_113 ⟨rfl, hb_113⟩
          have B113 := Lib.hid (B112.out.trans (hb_113.mono B112.out.size))
          have F113 := Lib.hid (F112.out.next hb_113)
          have KR113 := Lib.hid (KR112.out.next hb_113)
          have IR113 := Lib.hid (IR112.out.next hb_113)
          have J113 := Lib.hid (J112.out.next hb_113)
          clear hb_113
          go_wp2_with (fail)
          go_ret
          exact ⟨rfl, B113.out⟩

end Go.Proofs.YtajoimopahibcaaGreat

