
import Derived.Test.YtajoimopahibcaaGreatLWI
import Derived.Test.YtajoimopahibcaaGreatLEI
import Derived.Test.YtajoimopahibcaaGreatMO
import Derived.Test.YtajoimopahibcaaGreatNC
import Derived.Test.YtajoimopahibcaaGreatMH
/- The walk of the law FnRadical. -/
namespace Go.Proofs.YtajoimopahibcaaGreat
open Go.RowKit
set_option maxRecDepth 100000

theorem eqL_own_RA {xs : List Int} : eqL xs xs = true := eqL_true rfl fun _ _ => rfl
theorem take_RA {ZZ : List (List Int)} {k : Nat} {Z : List Int} (h : ZZ[k]? = some Z) : ZZ.take (k + 1) = ZZ.take k ++ [Z] := by
  have hk := (List.getElem?_eq_some_iff.1 h).1
  rw [List.getElem?_eq_getElem hk] at h
  rw [List.take_succ_eq_append_getElem hk]
  simp only [Option.some.injEq] at h
  rw [h]
set_option maxHeartbeats 16000000 in
theorem fnRadical_walk (A : Option Addr) (n c : Nat) (w : World) (hb : Byts w w.heap.size A n) (hc : n ≤ c) (hc2 : c ≤ 9223372036854775807) :
    Calls Tryz.prog 4 #[.slice A n c] w fun e w' => e = .returned (.bool true) ∧ Below w.heap.size w w' := by
  by_cases hbig : n > 1048576
  · have t0 : decide ((n : Int) > 1048576) = true := by simp; omega
    go_enter Tryz.func4, Tryz.ntmps4
    go_wp2_with (fail)
    go_ret
    exact ⟨rfl, Below.refl _ _⟩
  have hn : n ≤ 1048576 := by omega
  have t0 : decide ((n : Int) > 1048576) = false := by simp; omega
  go_enter Tryz.func4, Tryz.ntmps4
  go_wp2_with (fail)
  refine (drawRadicalOf_any A n c w hb hn hc hc2).mono ?_
  rintro e w_0 ⟨v, v1, rfl, hA, ⟨L, hF, hfl⟩, hb_0⟩
  obtain ⟨N, O, A1, A2, q, ca, cb, X, Y, rfl, hI, _, _⟩ := hA.rin
  obtain ⟨FA, nF, cF, rfl, _⟩ := id hF
  clear hA
  have B0 := Lib.hid (hb_0)
  have F0 := Lib.hid (hF)
  clear hb_0 hF
  obtain ⟨w_1, hV⟩ : ∃ V, World.alloc w_0 (.cells #[.int .i64 N, .int .i64 O, .slice A1 q ca, .slice A2 q cb] 25) = V := ⟨_, rfl⟩
  have hb_1 : Below (World.heap w_0).size w_0 w_1 := by subst hV; exact (Below.refl _ _).alloc (Nat.le_refl _) _
  obtain ⟨bR, hbx⟩ : ∃ b, b = (World.heap w_0).size := ⟨_, rfl⟩
  have KR1 := Lib.hid (show Blk w_1 bR 25 #[.int .i64 N, .int .i64 O, .slice A1 q ca, .slice A2 q cb] by subst hV hbx; exact Blk.new w_0 _ _)
  have B1 := Lib.hid (B0.out.trans (hb_1.mono B0.out.size))
  have F1 := Lib.hid (F0.out.next hb_1)
  have IR1 := Lib.hid (hI.next hb_1)
  clear hb_1 hI
  go_upto_region 4 with (fail)
  rw [← hbx]
  clear hV hbx
  have cR0 := KR1.out.cell 0
  have cR1 := KR1.out.cell 1
  have cR2 := KR1.out.cell 2
  have cR3 := KR1.out.cell 3
  simp at cR0 cR1 cR2 cR3
  go_wp2_with (fail)
  refine (rad_any N O (A1) (A2) (FA) q ca q cb nF cF X Y (L) _ IR1.out.hX IR1.out.hY F1.out.at_.1 IR1.out.hla IR1.out.hlb (by have := F1.out.at_.2.2; omega) IR1.out.hca IR1.out.hcb).mono ?_
  rintro e w_2 ⟨v, rfl, hv, hb_2⟩
  have hv0 := hv
  obtain ⟨A3, l3, c3, rfl, _⟩ := hv0
  clear cR0 cR1 cR2 cR3
  have B2 := Lib.hid (B1.out.trans (hb_2.mono B1.out.size))
  have F2 := Lib.hid (F1.out.next hb_2)
  have KR2 := Lib.hid (KR1.out.next hb_2)
  have IR2 := Lib.hid (IR1.out.next hb_2)
  have U2 := Lib.hid (hv)
  clear hb_2 hv
  have cR0 := KR2.out.cell 0
  have cR1 := KR2.out.cell 1
  have cR2 := KR2.out.cell 2
  have cR3 := KR2.out.cell 3
  simp at cR0 cR1 cR2 cR3
  go_wp2_with (fail)
  refine (srad_any N O (A1) (A2) (FA) q ca q cb nF cF X Y (L) _ IR2.out.hX IR2.out.hY F2.out.at_.1 IR2.out.hla IR2.out.hlb (by have := F2.out.at_.2.2; omega) IR2.out.hca IR2.out.hcb).mono ?_
  rintro e w_3 ⟨v, rfl, hv, hb_3⟩
  have hv0 := hv
  obtain ⟨A4, l4, c4, rfl, _⟩ := hv0
  clear cR0 cR1 cR2 cR3
  have B3 := Lib.hid (B2.out.trans (hb_3.mono B2.out.size))
  have F3 := Lib.hid (F2.out.next hb_3)
  have KR3 := Lib.hid (KR2.out.next hb_3)
  have IR3 := Lib.hid (IR2.out.next hb_3)
  have U3 := Lib.hid (U2.out.next hb_3)
  have T3 := Lib.hid (hv)
  clear hb_3 hv
  cases hok : isIdB N O X Y L
  · skip
    go_wp2_with (fail)
    refine (frSame_any (A3) (A4) l3 l4 c3 c4 _ _ _ _ _ U3.out.at_.1 T3.out.at_.1 (by have := U3.out.at_.2.2; omega) (by have := T3.out.at_.2.2; omega)).mono ?_
    rw [eqL_own_RA]
    rintro e w_4 ⟨rfl, hb_4⟩
    have B4 := Lib.hid (B3.out.trans (hb_4.mono B3.out.size))
    have F4 := Lib.hid (F3.out.next hb_4)
    have KR4 := Lib.hid (KR3.out.next hb_4)
    have IR4 := Lib.hid (IR3.out.next hb_4)
    have U4 := Lib.hid (U3.out.next hb_4)
    have T4 := Lib.hid (T3.out.next hb_4)
    clear hb_4
    go_wp2_with (fail)
    refine (frSame_any (A3) (A4) l3 l4 c3 c4 _ _ _ _ _ U4.out.at_.1 T4.out.at_.1 (by have := U4.out.at_.2.2; omega) (by have := T4.out.at_.2.2; omega)).mono ?_
    rw [eqL_own_RA]
    rintro e w_5 ⟨rfl, hb_5⟩
    have B5 := Lib.hid (B4.out.trans (hb_5.mono B4.out.size))
    have F5 := Lib.hid (F4.out.next hb_5)
    have KR5 := Lib.hid (KR4.out.next hb_5)
    have IR5 := Lib.hid (IR4.out.next hb_5)
    have U5 := Lib.hid (U4.out.next hb_5)
    have T5 := Lib.hid (T4.out.next hb_5)
    clear hb_5
    go_wp2_with (fail)
    go_ret
    exact ⟨rfl, B5.out⟩
  · skip
    go_wp2_with (fail)
    refine (frSame_any (A3) (A4) l3 l4 c3 c4 _ _ _ _ _ U3.out.at_.1 T3.out.at_.1 (by have := U3.out.at_.2.2; omega) (by have := T3.out.at_.2.2; omega)).mono ?_
    rw [eqL_own_RA]
    rintro e w_4 ⟨rfl, hb_4⟩
    have B4 := Lib.hid (B3.out.trans (hb_4.mono B3.out.size))
    have F4 := Lib.hid (F3.out.next hb_4)
    have KR4 := Lib.hid (KR3.out.next hb_4)
    have IR4 := Lib.hid (IR3.out.next hb_4)
    have U4 := Lib.hid (U3.out.next hb_4)
    have T4 := Lib.hid (T3.out.next hb_4)
    clear hb_4
    obtain ⟨m, e, b1, o1, b2, o2, rfl, rfl, rfl, rfl, hr, _, lX, lY, gX, gY⟩ := valid_data (ide_data (isId_ide hok)).1 IR4.out.hX IR4.out.hY IR4.out.hca IR4.out.hcb
    have hm := hr.hm
    have hm' := hr.hm'
    obtain ⟨hE1, hE2, hE3, hE4, hE5⟩ := radical_law hok hm'
    obtain ⟨U1, hU1⟩ : ∃ x, radL m e X Y L = x := ⟨_, rfl⟩
    rw [hU1] at hE1 hE2 hE3 hE4 U4
    obtain ⟨M1, hM1⟩ : ∃ x, ideL m e X Y [(e : Int)] = x := ⟨_, rfl⟩
    rw [hM1] at hE4
    have HE1 := Lib.hid hE1
    have HE2 := Lib.hid hE2
    have HE3 := Lib.hid hE3
    have HE4 := Lib.hid hE4
    have HM1 := Lib.hid hM1
    have HOK := Lib.hid hok
    clear hok hr lX lY gX gY hE1 hE2 hE3 hE4 hE5 hU1 hM1
    have cR0 := KR4.out.cell 0
    have cR1 := KR4.out.cell 1
    have cR2 := KR4.out.cell 2
    have cR3 := KR4.out.cell 3
    simp at cR0 cR1 cR2 cR3
    go_wp2_with (fail)
    refine (rad_any m e (some ⟨b1, o1, none⟩) (some ⟨b2, o2, none⟩) (A3) q ca q cb l3 c3 X Y (U1) _ IR4.out.hX IR4.out.hY U4.out.at_.1 IR4.out.hla IR4.out.hlb (by have := U4.out.at_.2.2; omega) IR4.out.hca IR4.out.hcb).mono ?_
    rw [HE2.out]
    rintro e w_5 ⟨v, rfl, hv, hb_5⟩
    have hv0 := hv
    obtain ⟨A5, l5, c5, rfl, _⟩ := hv0
    clear cR0 cR1 cR2 cR3
    have B5 := Lib.hid (B4.out.trans (hb_5.mono B4.out.size))
    have F5 := Lib.hid (F4.out.next hb_5)
    have KR5 := Lib.hid (KR4.out.next hb_5)
    have IR5 := Lib.hid (IR4.out.next hb_5)
    have U5 := Lib.hid (U4.out.next hb_5)
    have T5 := Lib.hid (T4.out.next hb_5)
    have V5 := Lib.hid (hv)
    clear hb_5 hv
    have cR0 := KR5.out.cell 0
    have cR1 := KR5.out.cell 1
    have cR2 := KR5.out.cell 2
    have cR3 := KR5.out.cell 3
    simp at cR0 cR1 cR2 cR3
    go_wp2_with (fail)
    clear cR0 cR1 cR2 cR3
    obtain ⟨w_6, hV⟩ : ∃ V, w_5.alloc (.cells #[.int .i64 ((e : Int))] 3) = V := ⟨_, rfl⟩
    have hb_6 : Below w_5.heap.size w_5 w_6 := by subst hV; exact (Below.refl _ _).alloc (Nat.le_refl _) _
    have hone : Ints w_6 w_6.heap.size (some ⟨w_5.heap.size, 0, none⟩) 1 [(e : Int)] := by subst hV; have := ints_one (w := w_5) (v := (e : Int)) (T := 3); simpa using this
    rw [hV]
    clear hV
    have B6 := Lib.hid (B5.out.trans (hb_6.mono B5.out.size))
    have F6 := Lib.hid (F5.out.next hb_6)
    have KR6 := Lib.hid (KR5.out.next hb_6)
    have IR6 := Lib.hid (IR5.out.next hb_6)
    have U6 := Lib.hid (U5.out.next hb_6)
    have T6 := Lib.hid (T5.out.next hb_6)
    have V6 := Lib.hid (V5.out.next hb_6)
    clear hb_6
    refine (idealOf_any m e (some ⟨b1, o1, none⟩) (some ⟨b2, o2, none⟩) (some ⟨w_5.heap.size, 0, none⟩) q ca q cb 1 1 X Y [(e : Int)] _ IR6.out.hX IR6.out.hY hone IR6.out.hla IR6.out.hlb (by omega) IR6.out.hca IR6.out.hcb).mono ?_
    rw [HM1.out]
    rintro e w_7 ⟨v, rfl, hv, hb_7⟩
    have hv0 := hv
    obtain ⟨A6, l6, c6, rfl, _⟩ := hv0
    have B7 := Lib.hid (B6.out.trans (hb_7.mono B6.out.size))
    have F7 := Lib.hid (F6.out.next hb_7)
    have KR7 := Lib.hid (KR6.out.next hb_7)
    have IR7 := Lib.hid (IR6.out.next hb_7)
    have U7 := Lib.hid (U6.out.next hb_7)
    have T7 := Lib.hid (T6.out.next hb_7)
    have V7 := Lib.hid (V6.out.next hb_7)
    have M7 := Lib.hid (hv)
    clear hb_7 hv hone
    have cR0 := KR7.out.cell 0
    have cR1 := KR7.out.cell 1
    have cR2 := KR7.out.cell 2
    have cR3 := KR7.out.cell 3
    simp at cR0 cR1 cR2 cR3
    have hfa := als_facts (n := m) (o := e) IR7.out.hX IR7.out.hY IR7.out.hca IR7.out.hcb
    go_wp2_with (fail)
    refine (als_any m e (some ⟨b1, o1, none⟩) (some ⟨b2, o2, none⟩) q ca q cb X Y _ IR7.out.hX IR7.out.hY IR7.out.hla IR7.out.hlb IR7.out.hca IR7.out.hcb).mono ?_
    rintro e w_8 ⟨v, rfl, ho, hb_8⟩
    have hro := ho.lists.readr
    clear cR0 cR1 cR2 cR3
    have B8 := Lib.hid (B7.out.trans (hb_8.mono B7.out.size))
    have F8 := Lib.hid (F7.out.next hb_8)
    have KR8 := Lib.hid (KR7.out.next hb_8)
    have IR8 := Lib.hid (IR7.out.next hb_8)
    have U8 := Lib.hid (U7.out.next hb_8)
    have T8 := Lib.hid (T7.out.next hb_8)
    have V8 := Lib.hid (V7.out.next hb_8)
    have M8 := Lib.hid (M7.out.next hb_8)
    obtain ⟨CA, capA, rfl, hAA⟩ := hro
    obtain ⟨ZZ, hZZ⟩ : ∃ Z, alsL m e X Y = Z := ⟨_, rfl⟩
    rw [hZZ] at hAA hfa ⊢
    obtain ⟨nl, hnl⟩ : ∃ x, ZZ.length = x := ⟨_, rfl⟩
    rw [hnl] at hfa ⊢
    have nl9 : nl ≤ 32768 := hfa.1
    have HFA := Lib.hid hfa.2
    have HAA := Lib.hid hAA
    have HZZ := Lib.hid hZZ
    have HNL := Lib.hid hnl
    clear hb_8 ho hAA hZZ hnl hfa
    have lF := F8.out.at_.2.2
    have hM0 : SliceOut 0 w_8 (.slice A6 l6 c6) M1 := M8.out.down (Nat.zero_le _)
    have HM0 := Lib.hid hM0
    clear hM0
    go_wp2_with (fail)
    go_loopw [11, 77] (fun mv iv wr => ∃ y : Nat, y ≤ nl ∧ iv = .int .i64 y ∧ SliceOut 0 wr mv (mtF m e X Y L (ZZ.take y) M1) ∧ Below w_8.heap.size w_8 wr) (fun _ iv _ => nl - (intOf iv).toNat)
    case atStart => exact ⟨0, Nat.zero_le _, rfl, HM0.out, Below.refl _ _⟩
    case round =>
      obtain ⟨y, hy, rfl, hmv, hbr⟩ := hrel
      have BJ := Lib.hid hbr
      have B110 := Lib.hid (B8.out.trans (hbr.mono B8.out.size))
      have F110 := Lib.hid (F8.out.next hbr)
      have KR110 := Lib.hid (KR8.out.next hbr)
      have IR110 := Lib.hid (IR8.out.next hbr)
      have U110 := Lib.hid (U8.out.next hbr)
      have T110 := Lib.hid (T8.out.next hbr)
      have V110 := Lib.hid (V8.out.next hbr)
      have hmv0 := hmv
      obtain ⟨MA, lM, cM, rfl, _⟩ := hmv0
      have M110 := Lib.hid (hmv)
      clear hbr hmv
      by_cases hlt : y < nl
      · skip
        obtain ⟨Z, hZ⟩ : ∃ Z, ZZ[y]? = some Z := ⟨_, List.getElem?_eq_getElem (by rw [HNL.out]; exact hlt)⟩
        obtain ⟨gz, BZ, cz, rfl, hg2, hck0, hc4, hc5, hIZ⟩ := HAA.out y Z hZ
        have hck : wr.cell? ⟨gz, y, none⟩ = some (.slice BZ Z.length cz) := (BJ.out.cell (p := ⟨gz, y, none⟩) hg2).trans hck0
        have hIZ2 := hIZ.next BJ.out
        obtain ⟨ln, hln⟩ : ∃ x, Z.length = x := ⟨_, rfl⟩
        rw [hln] at hck hc4 hc5 hIZ2
        have HTK := Lib.hid (take_RA hZ)
        have IZ110 := Lib.hid (hIZ2)
        clear hZ hIZ hIZ2 hck0 hln hg2
        obtain ⟨Mt, hMt⟩ : ∃ x, mtF m e X Y L (ZZ.take y) M1 = x := ⟨_, rfl⟩
        rw [hMt] at M110
        have HMT := Lib.hid hMt
        clear hMt
        have cR0 := KR110.out.cell 0
        have cR1 := KR110.out.cell 1
        have cR2 := KR110.out.cell 2
        have cR3 := KR110.out.cell 3
        simp at cR0 cR1 cR2 cR3
        go_wp2_with (fail)
        refine (sumI_any m e (some ⟨b1, o1, none⟩) (some ⟨b2, o2, none⟩) (FA) (BZ) q ca q cb nF ln cF cz X Y (L) Z _ IR110.out.hX IR110.out.hY F110.out.at_.1 IZ110.out IR110.out.hla IR110.out.hlb (by have := F110.out.at_.2.2; omega) (by omega) IR110.out.hca IR110.out.hcb).mono ?_
        rintro e w_111 ⟨v, rfl, hv, hb_111⟩
        have HB111 := Lib.hid hb_111
        have hv0 := hv
        obtain ⟨A7, l7, c7, rfl, _⟩ := hv0
        clear cR0 cR1 cR2 cR3
        have B111 := Lib.hid (B110.out.trans (hb_111.mono B110.out.size))
        have F111 := Lib.hid (F110.out.next hb_111)
        have KR111 := Lib.hid (KR110.out.next hb_111)
        have IR111 := Lib.hid (IR110.out.next hb_111)
        have U111 := Lib.hid (U110.out.next hb_111)
        have T111 := Lib.hid (T110.out.next hb_111)
        have V111 := Lib.hid (V110.out.next hb_111)
        have M111 := Lib.hid (M110.out.next hb_111)
        have IZ111 := Lib.hid (IZ110.out.next hb_111)
        have S111 := Lib.hid (hv)
        clear hb_111 hv
        cases hpz : priB m e X Y Z
        · have HPZ := Lib.hid hpz
          have HN := Lib.hid (show mtF m e X Y L (ZZ.take (y + 1)) M1 = Mt by rw [HTK.out, mtF_snoc, hpz, Bool.false_and, HMT.out]; rfl)
          clear hpz
          have cR0 := KR111.out.cell 0
          have cR1 := KR111.out.cell 1
          have cR2 := KR111.out.cell 2
          have cR3 := KR111.out.cell 3
          simp at cR0 cR1 cR2 cR3
          go_wp2_with (fail)
          refine (pri_any m e (some ⟨b1, o1, none⟩) (some ⟨b2, o2, none⟩) (BZ) q ca q cb ln cz X Y Z _ IR111.out.hX IR111.out.hY IZ111.out IR111.out.hla IR111.out.hlb (by omega) IR111.out.hca IR111.out.hcb).mono ?_
          rw [HPZ.out]
          rintro e w_112 ⟨rfl, hb_112⟩
          have HB112 := Lib.hid hb_112
          clear cR0 cR1 cR2 cR3
          have B112 := Lib.hid (B111.out.trans (hb_112.mono B111.out.size))
          have F112 := Lib.hid (F111.out.next hb_112)
          have KR112 := Lib.hid (KR111.out.next hb_112)
          have IR112 := Lib.hid (IR111.out.next hb_112)
          have U112 := Lib.hid (U111.out.next hb_112)
          have T112 := Lib.hid (T111.out.next hb_112)
          have V112 := Lib.hid (V111.out.next hb_112)
          have M112 := Lib.hid (M111.out.next hb_112)
          have IZ112 := Lib.hid (IZ111.out.next hb_112)
          have S112 := Lib.hid (S111.out.next hb_112)
          clear hb_112
          go_wp2
          go_roundw
          case rel => exact ⟨y + 1, by omega, by go_num, by rw [HN.out]; exact M112.out, below_step (below_step BJ.out HB111.out) HB112.out⟩
          case measure => simp [intOf]; omega
        · have HPZ := Lib.hid hpz
          cases hab : abvI m e X Y L Z
          · have HAB := Lib.hid (show eqL (sumL m e X Y L Z) Z = false from hab)
            have HN := Lib.hid (show mtF m e X Y L (ZZ.take (y + 1)) M1 = Mt by rw [HTK.out, mtF_snoc, hpz, hab, HMT.out]; rfl)
            clear hpz hab
            have cR0 := KR111.out.cell 0
            have cR1 := KR111.out.cell 1
            have cR2 := KR111.out.cell 2
            have cR3 := KR111.out.cell 3
            simp at cR0 cR1 cR2 cR3
            go_wp2_with (fail)
            refine (pri_any m e (some ⟨b1, o1, none⟩) (some ⟨b2, o2, none⟩) (BZ) q ca q cb ln cz X Y Z _ IR111.out.hX IR111.out.hY IZ111.out IR111.out.hla IR111.out.hlb (by omega) IR111.out.hca IR111.out.hcb).mono ?_
            rw [HPZ.out]
            rintro e w_112 ⟨rfl, hb_112⟩
            have HB112 := Lib.hid hb_112
            clear cR0 cR1 cR2 cR3
            have B112 := Lib.hid (B111.out.trans (hb_112.mono B111.out.size))
            have F112 := Lib.hid (F111.out.next hb_112)
            have KR112 := Lib.hid (KR111.out.next hb_112)
            have IR112 := Lib.hid (IR111.out.next hb_112)
            have U112 := Lib.hid (U111.out.next hb_112)
            have T112 := Lib.hid (T111.out.next hb_112)
            have V112 := Lib.hid (V111.out.next hb_112)
            have M112 := Lib.hid (M111.out.next hb_112)
            have IZ112 := Lib.hid (IZ111.out.next hb_112)
            have S112 := Lib.hid (S111.out.next hb_112)
            clear hb_112
            go_wp2_with (fail)
            refine (frSame_any (A7) (BZ) l7 ln c7 cz _ _ _ _ _ S112.out.at_.1 IZ112.out (by have := S112.out.at_.2.2; omega) (by omega)).mono ?_
            rw [HAB.out]
            rintro e w_113 ⟨rfl, hb_113⟩
            have HB113 := Lib.hid hb_113
            have B113 := Lib.hid (B112.out.trans (hb_113.mono B112.out.size))
            have F113 := Lib.hid (F112.out.next hb_113)
            have KR113 := Lib.hid (KR112.out.next hb_113)
            have IR113 := Lib.hid (IR112.out.next hb_113)
            have U113 := Lib.hid (U112.out.next hb_113)
            have T113 := Lib.hid (T112.out.next hb_113)
            have V113 := Lib.hid (V112.out.next hb_113)
            have M113 := Lib.hid (M112.out.next hb_113)
            have IZ113 := Lib.hid (IZ112.out.next hb_113)
            have S113 := Lib.hid (S112.out.next hb_113)
            clear hb_113
            go_wp2
            go_roundw
            case rel => exact ⟨y + 1, by omega, by go_num, by rw [HN.out]; exact M113.out, below_step (below_step (below_step BJ.out HB111.out) HB112.out) HB113.out⟩
            case measure => simp [intOf]; omega
          · have HAB := Lib.hid (show eqL (sumL m e X Y L Z) Z = true from hab)
            have HN := Lib.hid (show mtF m e X Y L (ZZ.take (y + 1)) M1 = metL m e X Y Mt Z by rw [HTK.out, mtF_snoc, hpz, hab, HMT.out]; rfl)
            clear hpz hab
            have cR0 := KR111.out.cell 0
            have cR1 := KR111.out.cell 1
            have cR2 := KR111.out.cell 2
            have cR3 := KR111.out.cell 3
            simp at cR0 cR1 cR2 cR3
            go_wp2_with (fail)
            refine (pri_any m e (some ⟨b1, o1, none⟩) (some ⟨b2, o2, none⟩) (BZ) q ca q cb ln cz X Y Z _ IR111.out.hX IR111.out.hY IZ111.out IR111.out.hla IR111.out.hlb (by omega) IR111.out.hca IR111.out.hcb).mono ?_
            rw [HPZ.out]
            rintro e w_112 ⟨rfl, hb_112⟩
            have HB112 := Lib.hid hb_112
            clear cR0 cR1 cR2 cR3
            have B112 := Lib.hid (B111.out.trans (hb_112.mono B111.out.size))
            have F112 := Lib.hid (F111.out.next hb_112)
            have KR112 := Lib.hid (KR111.out.next hb_112)
            have IR112 := Lib.hid (IR111.out.next hb_112)
            have U112 := Lib.hid (U111.out.next hb_112)
            have T112 := Lib.hid (T111.out.next hb_112)
            have V112 := Lib.hid (V111.out.next hb_112)
            have M112 := Lib.hid (M111.out.next hb_112)
            have IZ112 := Lib.hid (IZ111.out.next hb_112)
            have S112 := Lib.hid (S111.out.next hb_112)
            clear hb_112
            go_wp2_with (fail)
            refine (frSame_any (A7) (BZ) l7 ln c7 cz _ _ _ _ _ S112.out.at_.1 IZ112.out (by have := S112.out.at_.2.2; omega) (by omega)).mono ?_
            rw [HAB.out]
            rintro e w_113 ⟨rfl, hb_113⟩
            have HB113 := Lib.hid hb_113
            have B113 := Lib.hid (B112.out.trans (hb_113.mono B112.out.size))
            have F113 := Lib.hid (F112.out.next hb_113)
            have KR113 := Lib.hid (KR112.out.next hb_113)
            have IR113 := Lib.hid (IR112.out.next hb_113)
            have U113 := Lib.hid (U112.out.next hb_113)
            have T113 := Lib.hid (T112.out.next hb_113)
            have V113 := Lib.hid (V112.out.next hb_113)
            have M113 := Lib.hid (M112.out.next hb_113)
            have IZ113 := Lib.hid (IZ112.out.next hb_113)
            have S113 := Lib.hid (S112.out.next hb_113)
            clear hb_113
            have cR0 := KR113.out.cell 0
            have cR1 := KR113.out.cell 1
            have cR2 := KR113.out.cell 2
            have cR3 := KR113.out.cell 3
            simp at cR0 cR1 cR2 cR3
            go_wp2_with (fail)
            refine (metI_any m e (some ⟨b1, o1, none⟩) (some ⟨b2, o2, none⟩) (MA) (BZ) q ca q cb lM ln cM cz X Y (Mt) Z _ IR113.out.hX IR113.out.hY M113.out.at_.1 IZ113.out IR113.out.hla IR113.out.hlb (by have := M113.out.at_.2.2; omega) (by omega) IR113.out.hca IR113.out.hcb).mono ?_
            rintro e w_114 ⟨v, rfl, hv, hb_114⟩
            have HB114 := Lib.hid hb_114
            have hv0 := hv
            obtain ⟨A8, l8, c8, rfl, _⟩ := hv0
            clear cR0 cR1 cR2 cR3
            have B114 := Lib.hid (B113.out.trans (hb_114.mono B113.out.size))
            have F114 := Lib.hid (F113.out.next hb_114)
            have KR114 := Lib.hid (KR113.out.next hb_114)
            have IR114 := Lib.hid (IR113.out.next hb_114)
            have U114 := Lib.hid (U113.out.next hb_114)
            have T114 := Lib.hid (T113.out.next hb_114)
            have V114 := Lib.hid (V113.out.next hb_114)
            have M114 := Lib.hid (M113.out.next hb_114)
            have IZ114 := Lib.hid (IZ113.out.next hb_114)
            have S114 := Lib.hid (S113.out.next hb_114)
            have M2114 := Lib.hid (hv)
            clear hb_114 hv
            go_wp2
            go_roundw
            case rel => exact ⟨y + 1, by omega, by go_num, by rw [HN.out]; exact M2114.out.down (Nat.zero_le _), below_step (below_step (below_step (below_step BJ.out HB111.out) HB112.out) HB113.out) HB114.out⟩
            case measure => simp [intOf]; omega
      · have hy0 : y = nl := by omega
        have htk : ZZ.take y = ZZ := List.take_of_length_le (by rw [HNL.out]; omega)
        rw [htk, ← HZZ.out, HE4.out] at M110
        obtain ⟨w_110, rfl⟩ : ∃ ws, ws = wr := ⟨_, rfl⟩
        clear BJ hy htk hy0
        have cR0 := KR110.out.cell 0
        have cR1 := KR110.out.cell 1
        have cR2 := KR110.out.cell 2
        have cR3 := KR110.out.cell 3
        simp at cR0 cR1 cR2 cR3
        go_wp2_with (fail)
        refine (sumI_any m e (some ⟨b1, o1, none⟩) (some ⟨b2, o2, none⟩) (FA) (A3) q ca q cb nF l3 cF c3 X Y (L) (U1) _ IR110.out.hX IR110.out.hY F110.out.at_.1 U110.out.at_.1 IR110.out.hla IR110.out.hlb (by have := F110.out.at_.2.2; omega) (by have := U110.out.at_.2.2; omega) IR110.out.hca IR110.out.hcb).mono ?_
        rw [HE3.out]
        rintro e w_111 ⟨v, rfl, hv, hb_111⟩
        have hv0 := hv
        obtain ⟨A9, l9, c9, rfl, _⟩ := hv0
        clear cR0 cR1 cR2 cR3
        have B111 := Lib.hid (B110.out.trans (hb_111.mono B110.out.size))
        have F111 := Lib.hid (F110.out.next hb_111)
        have KR111 := Lib.hid (KR110.out.next hb_111)
        have IR111 := Lib.hid (IR110.out.next hb_111)
        have U111 := Lib.hid (U110.out.next hb_111)
        have T111 := Lib.hid (T110.out.next hb_111)
        have V111 := Lib.hid (V110.out.next hb_111)
        have M111 := Lib.hid (M110.out.next hb_111)
        have W111 := Lib.hid (hv)
        clear hb_111 hv
        have cR0 := KR111.out.cell 0
        have cR1 := KR111.out.cell 1
        have cR2 := KR111.out.cell 2
        have cR3 := KR111.out.cell 3
        simp at cR0 cR1 cR2 cR3
        go_wp2_with (fail)
        refine (isId_any m e (some ⟨b1, o1, none⟩) (some ⟨b2, o2, none⟩) (A3) q ca q cb l3 c3 X Y (U1) _ IR111.out.hX IR111.out.hY U111.out.at_.1 IR111.out.hla IR111.out.hlb (by have := U111.out.at_.2.2; omega) IR111.out.hca IR111.out.hcb).mono ?_
        rw [HE1.out]
        rintro e w_112 ⟨rfl, hb_112⟩
        clear cR0 cR1 cR2 cR3
        have B112 := Lib.hid (B111.out.trans (hb_112.mono B111.out.size))
        have F112 := Lib.hid (F111.out.next hb_112)
        have KR112 := Lib.hid (KR111.out.next hb_112)
        have IR112 := Lib.hid (IR111.out.next hb_112)
        have U112 := Lib.hid (U111.out.next hb_112)
        have T112 := Lib.hid (T111.out.next hb_112)
        have V112 := Lib.hid (V111.out.next hb_112)
        have M112 := Lib.hid (M111.out.next hb_112)
        have W112 := Lib.hid (W111.out.next hb_112)
        clear hb_112
        go_wp2_with (fail)
        refine (frSame_any (A5) (A3) l5 l3 c5 c3 _ _ _ _ _ V112.out.at_.1 U112.out.at_.1 (by have := V112.out.at_.2.2; omega) (by have := U112.out.at_.2.2; omega)).mono ?_
        rw [eqL_own_RA]
        rintro e w_113 ⟨rfl, hb_113⟩
        have B113 := Lib.hid (B112.out.trans (hb_113.mono B112.out.size))
        have F113 := Lib.hid (F112.out.next hb_113)
        have KR113 := Lib.hid (KR112.out.next hb_113)
        have IR113 := Lib.hid (IR112.out.next hb_113)
        have U113 := Lib.hid (U112.out.next hb_113)
        have T113 := Lib.hid (T112.out.next hb_113)
        have V113 := Lib.hid (V112.out.next hb_113)
        have M113 := Lib.hid (M112.out.next hb_113)
        have W113 := Lib.hid (W112.out.next hb_113)
        clear hb_113
        go_wp2_with (fail)
        refine (frSame_any (A9) (A3) l9 l3 c9 c3 _ _ _ _ _ W113.out.at_.1 U113.out.at_.1 (by have := W113.out.at_.2.2; omega) (by have := U113.out.at_.2.2; omega)).mono ?_
        rw [eqL_own_RA]
        rintro e w_114 ⟨rfl, hb_114⟩
        have B114 := Lib.hid (B113.out.trans (hb_114.mono B113.out.size))
        have F114 := Lib.hid (F113.out.next hb_114)
        have KR114 := Lib.hid (KR113.out.next hb_114)
        have IR114 := Lib.hid (IR113.out.next hb_114)
        have U114 := Lib.hid (U113.out.next hb_114)
        have T114 := Lib.hid (T113.out.next hb_114)
        have V114 := Lib.hid (V113.out.next hb_114)
        have M114 := Lib.hid (M113.out.next hb_114)
        have W114 := Lib.hid (W113.out.next hb_114)
        clear hb_114
        go_wp2_with (fail)
        refine (frSame_any (MA) (A3) lM l3 cM c3 _ _ _ _ _ M114.out.at_.1 U114.out.at_.1 (by have := M114.out.at_.2.2; omega) (by have := U114.out.at_.2.2; omega)).mono ?_
        rw [eqL_own_RA]
        rintro e w_115 ⟨rfl, hb_115⟩
        have B115 := Lib.hid (B114.out.trans (hb_115.mono B114.out.size))
        have F115 := Lib.hid (F114.out.next hb_115)
        have KR115 := Lib.hid (KR114.out.next hb_115)
        have IR115 := Lib.hid (IR114.out.next hb_115)
        have U115 := Lib.hid (U114.out.next hb_115)
        have T115 := Lib.hid (T114.out.next hb_115)
        have V115 := Lib.hid (V114.out.next hb_115)
        have M115 := Lib.hid (M114.out.next hb_115)
        have W115 := Lib.hid (W114.out.next hb_115)
        clear hb_115
        go_wp2_with (fail)
        go_ret
        exact ⟨rfl, B115.out⟩

end Go.Proofs.YtajoimopahibcaaGreat

