
import Derived.Test.YtajoimopahibcaaLWJ
import Derived.Test.YtajoimopahibcaaLEH
import Derived.Test.YtajoimopahibcaaMO
import Derived.Test.YtajoimopahibcaaMH
/- The walk of the law FnSolveLinear. -/
namespace Go.Proofs.Ytajoimopahibcaa
open Go.RowKit
set_option maxRecDepth 100000

theorem eqL_own_SL {xs : List Int} : eqL xs xs = true := eqL_true rfl fun _ _ => rfl
set_option maxHeartbeats 16000000 in
theorem fnSolveLinear_walk (A : Option Addr) (n c : Nat) (w : World) (hb : Byts w w.heap.size A n) (hc : n ≤ c) (hc2 : c ≤ 9223372036854775807) :
    Calls Try.prog 3 #[.slice A n c] w fun e w' => e = .returned (.bool true) ∧ Below w.heap.size w w' := by
  by_cases hbig : n > 1048576
  · have t0 : decide ((n : Int) > 1048576) = true := by simp; omega
    go_enter Try.func3, Try.ntmps3
    go_wp2_with (fail)
    go_ret
    exact ⟨rfl, Below.refl _ _⟩
  have hn : n ≤ 1048576 := by omega
  have t0 : decide ((n : Int) > 1048576) = false := by simp; omega
  go_enter Try.func3, Try.ntmps3
  go_wp2_with (fail)
  refine (drawSolveLinear_any A n c w hb hn hc hc2).mono ?_
  rintro e w_0 ⟨v, a, b, rfl, hA, hwa, hwb, hb_0⟩
  obtain ⟨N, O, A1, A2, q, ca, cb, X, Y, rfl, hI, _, _⟩ := hA.rin
  clear hA hwa hwb
  have B0 := Lib.hid (hb_0)
  clear hb_0
  obtain ⟨w_1, hV⟩ : ∃ V, World.alloc w_0 (.cells #[.int .i64 N, .int .i64 O, .slice A1 q ca, .slice A2 q cb] 25) = V := ⟨_, rfl⟩
  have hb_1 : Below (World.heap w_0).size w_0 w_1 := by subst hV; exact (Below.refl _ _).alloc (Nat.le_refl _) _
  obtain ⟨bR, hbx⟩ : ∃ b, b = (World.heap w_0).size := ⟨_, rfl⟩
  have KR1 := Lib.hid (show Blk w_1 bR 25 #[.int .i64 N, .int .i64 O, .slice A1 q ca, .slice A2 q cb] by subst hV hbx; exact Blk.new w_0 _ _)
  have B1 := Lib.hid (B0.out.trans (hb_1.mono B0.out.size))
  have IR1 := Lib.hid (hI.next hb_1)
  clear hb_1 hI
  go_upto_region 4 with (fail)
  rw [← hbx]
  clear hV hbx
  have cR0 := KR1.out.cell 0
  have cR1 := KR1.out.cell 1
  have cR2 := KR1.out.cell 2
  have cR3 := KR1.out.cell 3
  simp at cR0 cR1 cR2 cR3
  go_wp2_with (fail)
  refine (sln_any N O (A1) (A2) q ca q cb X Y a b _ IR1.out.hX IR1.out.hY IR1.out.hla IR1.out.hlb IR1.out.hca IR1.out.hcb).mono ?_
  rintro e w_2 ⟨v, rfl, hv, hb_2⟩
  have hv0 := hv
  obtain ⟨A3, l3, c3, rfl, _⟩ := hv0
  clear cR0 cR1 cR2 cR3
  have B2 := Lib.hid (B1.out.trans (hb_2.mono B1.out.size))
  have KR2 := Lib.hid (KR1.out.next hb_2)
  have IR2 := Lib.hid (IR1.out.next hb_2)
  have U2 := Lib.hid (hv)
  clear hb_2 hv
  by_cases hval : validB N O X Y = true ∧ inB N a = true ∧ inB N b = true
  rotate_left
  · have hno := slnL_no hval
    have hop := opV_no (T := tabOf X) hval
    have l30 : l3 = 0 := by have h1 := U2.out.at_.1.1; rw [hno] at h1; exact h1.symm
    have t30 : (((l3 : Nat) : Int) == 0) = true := by subst l30; rfl
    clear l30
    have HOP := Lib.hid hop
    clear hno hop
    have cR0 := KR2.out.cell 0
    have cR1 := KR2.out.cell 1
    have cR2 := KR2.out.cell 2
    have cR3 := KR2.out.cell 3
    simp at cR0 cR1 cR2 cR3
    go_wp2_with (fail)
    refine (ssln_any N O (A1) (A2) q ca q cb X Y a b _ IR2.out.hX IR2.out.hY IR2.out.hla IR2.out.hlb IR2.out.hca IR2.out.hcb).mono ?_
    rintro e w_3 ⟨v, rfl, hv, hb_3⟩
    have hv0 := hv
    obtain ⟨A4, l4, c4, rfl, _⟩ := hv0
    clear cR0 cR1 cR2 cR3
    have B3 := Lib.hid (B2.out.trans (hb_3.mono B2.out.size))
    have KR3 := Lib.hid (KR2.out.next hb_3)
    have IR3 := Lib.hid (IR2.out.next hb_3)
    have U3 := Lib.hid (U2.out.next hb_3)
    have T3 := Lib.hid (hv)
    clear hb_3 hv
    go_wp2_with (fail)
    refine (frSame_any (A3) (A4) l3 l4 c3 c4 _ _ _ _ _ U3.out.at_.1 T3.out.at_.1 (by have := U3.out.at_.2.2; omega) (by have := T3.out.at_.2.2; omega)).mono ?_
    rw [eqL_own_SL]
    rintro e w_4 ⟨rfl, hb_4⟩
    have B4 := Lib.hid (B3.out.trans (hb_4.mono B3.out.size))
    have KR4 := Lib.hid (KR3.out.next hb_4)
    have IR4 := Lib.hid (IR3.out.next hb_4)
    have U4 := Lib.hid (U3.out.next hb_4)
    have T4 := Lib.hid (T3.out.next hb_4)
    clear hb_4
    have cR0 := KR4.out.cell 0
    have cR1 := KR4.out.cell 1
    have cR2 := KR4.out.cell 2
    have cR3 := KR4.out.cell 3
    simp at cR0 cR1 cR2 cR3
    go_wp2_with (fail)
    refine (c_add IR4.out a b (-1) HOP.out).mono ?_
    rintro e w_5 ⟨rfl, hb_5⟩
    have HB5 := Lib.hid hb_5
    clear cR0 cR1 cR2 cR3
    have B5 := Lib.hid (B4.out.trans (hb_5.mono B4.out.size))
    have KR5 := Lib.hid (KR4.out.next hb_5)
    have IR5 := Lib.hid (IR4.out.next hb_5)
    have U5 := Lib.hid (U4.out.next hb_5)
    have T5 := Lib.hid (T4.out.next hb_5)
    clear hb_5
    have cR0 := KR5.out.cell 0
    have cR1 := KR5.out.cell 1
    have cR2 := KR5.out.cell 2
    have cR3 := KR5.out.cell 3
    simp at cR0 cR1 cR2 cR3
    go_wp2_with (fail)
    refine (ssln_any N O (A1) (A2) q ca q cb X Y a b _ IR5.out.hX IR5.out.hY IR5.out.hla IR5.out.hlb IR5.out.hca IR5.out.hcb).mono ?_
    rintro e w_6 ⟨v, rfl, hv, hb_6⟩
    have hv0 := hv
    obtain ⟨A5, l5, c5, rfl, _⟩ := hv0
    clear cR0 cR1 cR2 cR3
    have B6 := Lib.hid (B5.out.trans (hb_6.mono B5.out.size))
    have KR6 := Lib.hid (KR5.out.next hb_6)
    have IR6 := Lib.hid (IR5.out.next hb_6)
    have U6 := Lib.hid (U5.out.next hb_6)
    have T6 := Lib.hid (T5.out.next hb_6)
    have T26 := Lib.hid (hv)
    clear hb_6 hv
    go_wp2_with (fail)
    refine (frSame_any (A3) (A5) l3 l5 c3 c5 _ _ _ _ _ U6.out.at_.1 T26.out.at_.1 (by have := U6.out.at_.2.2; omega) (by have := T26.out.at_.2.2; omega)).mono ?_
    rw [eqL_own_SL]
    rintro e w_7 ⟨rfl, hb_7⟩
    have B7 := Lib.hid (B6.out.trans (hb_7.mono B6.out.size))
    have KR7 := Lib.hid (KR6.out.next hb_7)
    have IR7 := Lib.hid (IR6.out.next hb_7)
    have U7 := Lib.hid (U6.out.next hb_7)
    have T7 := Lib.hid (T6.out.next hb_7)
    have T27 := Lib.hid (T26.out.next hb_7)
    clear hb_7
    go_wp2_with (fail)
    go_ret
    exact ⟨rfl, B7.out⟩
  obtain ⟨v1, ha, hb⟩ := hval
  obtain ⟨m, e, b1, o1, b2, o2, rfl, rfl, rfl, rfl, hr, _, lX, lY, gX, gY⟩ := valid_data v1 IR2.out.hX IR2.out.hY IR2.out.hca IR2.out.hcb
  have ha' := of_decide_eq_true ha
  have hb' := of_decide_eq_true hb
  obtain ⟨a, rfl⟩ := Int.eq_ofNat_of_zero_le ha'.1
  obtain ⟨b, rfl⟩ := Int.eq_ofNat_of_zero_le hb'.1
  have la' : a < m := by omega
  have lb' : b < m := by omega
  have hm := hr.hm
  have hm' := hr.hm'
  have hop := opV_yes (T := tabOf X) v1 ha hb
  obtain ⟨ss, hss⟩ : ∃ k, tabOf X (a * m + b) = k := ⟨_, rfl⟩
  rw [hss] at hop
  have hiv := invV_yes v1 ha
  obtain ⟨hE1, hE2, hE3, hE4, hE5, hE6, hE7⟩ := solveLinear_law v1 la' lb'
  obtain ⟨I1, hI1⟩ : ∃ L, ideL m e X Y [(a : Int)] = L := ⟨_, rfl⟩
  rw [hI1] at hE4 hE6
  obtain ⟨iv, hivv⟩ : ∃ x, invN m (tabOf Y) e a = x := ⟨_, rfl⟩
  rw [hivv] at hE7 hiv
  obtain ⟨nv, hnv⟩ : ∃ x, negN m (tabOf X) b = x := ⟨_, rfl⟩
  rw [hnv] at hE3
  have hng := negV_yes v1 hb
  rw [hnv] at hng
  obtain ⟨U1, hU1⟩ : ∃ L, slnL m e X Y a b = L := ⟨_, rfl⟩
  rw [hU1] at hE3 hE4 hE5 U2
  obtain ⟨Z1, hZ1⟩ : ∃ L, slnL m e X Y a (0 : Nat) = L := ⟨_, rfl⟩
  rw [hZ1] at hE2 hE5 hE6 hE7
  have HU1 := Lib.hid hU1
  have HZ1 := Lib.hid (show slnL m e X Y (a : Int) 0 = Z1 from hZ1)
  have HI1 := Lib.hid hI1
  have HOP := Lib.hid hop
  have HIV := Lib.hid hiv
  have HNG := Lib.hid hng
  have V1 := Lib.hid v1
  have HE2 := Lib.hid hE2
  have HE3 := Lib.hid hE3
  have HE4 := Lib.hid hE4
  have HE5 := Lib.hid hE5
  have HE6 := Lib.hid hE6
  have HE7 := Lib.hid hE7
  clear v1 ha hb ha' hb' hop hss hiv hE1 hE2 hE3 hE4 hE5 hE6 hE7 hI1 hivv hnv hng hU1 hZ1 hr lX lY gX gY
  have cR0 := KR2.out.cell 0
  have cR1 := KR2.out.cell 1
  have cR2 := KR2.out.cell 2
  have cR3 := KR2.out.cell 3
  simp at cR0 cR1 cR2 cR3
  go_wp2_with (fail)
  refine (ssln_any m e (some ⟨b1, o1, none⟩) (some ⟨b2, o2, none⟩) q ca q cb X Y a b _ IR2.out.hX IR2.out.hY IR2.out.hla IR2.out.hlb IR2.out.hca IR2.out.hcb).mono ?_
  rw [HU1.out]
  rintro e w_3 ⟨v, rfl, hv, hb_3⟩
  have hv0 := hv
  obtain ⟨A6, l6, c6, rfl, _⟩ := hv0
  clear cR0 cR1 cR2 cR3
  have B3 := Lib.hid (B2.out.trans (hb_3.mono B2.out.size))
  have KR3 := Lib.hid (KR2.out.next hb_3)
  have IR3 := Lib.hid (IR2.out.next hb_3)
  have U3 := Lib.hid (U2.out.next hb_3)
  have T3 := Lib.hid (hv)
  clear hb_3 hv
  go_wp2_with (fail)
  refine (frSame_any (A3) (A6) l3 l6 c3 c6 _ _ _ _ _ U3.out.at_.1 T3.out.at_.1 (by have := U3.out.at_.2.2; omega) (by have := T3.out.at_.2.2; omega)).mono ?_
  rw [eqL_own_SL]
  rintro e w_4 ⟨rfl, hb_4⟩
  have B4 := Lib.hid (B3.out.trans (hb_4.mono B3.out.size))
  have KR4 := Lib.hid (KR3.out.next hb_4)
  have IR4 := Lib.hid (IR3.out.next hb_4)
  have U4 := Lib.hid (U3.out.next hb_4)
  have T4 := Lib.hid (T3.out.next hb_4)
  clear hb_4
  have cR0 := KR4.out.cell 0
  have cR1 := KR4.out.cell 1
  have cR2 := KR4.out.cell 2
  have cR3 := KR4.out.cell 3
  simp at cR0 cR1 cR2 cR3
  go_wp2_with (fail)
  refine (c_add IR4.out a b (ss : Int) HOP.out).mono ?_
  rintro e w_5 ⟨rfl, hb_5⟩
  have HB5 := Lib.hid hb_5
  clear cR0 cR1 cR2 cR3
  have B5 := Lib.hid (B4.out.trans (hb_5.mono B4.out.size))
  have KR5 := Lib.hid (KR4.out.next hb_5)
  have IR5 := Lib.hid (IR4.out.next hb_5)
  have U5 := Lib.hid (U4.out.next hb_5)
  have T5 := Lib.hid (T4.out.next hb_5)
  clear hb_5
  have tz : ¬ ((ss : Int) < 0) := by omega
  have cR0 := KR5.out.cell 0
  have cR1 := KR5.out.cell 1
  have cR2 := KR5.out.cell 2
  have cR3 := KR5.out.cell 3
  simp at cR0 cR1 cR2 cR3
  go_wp2_with (fail)
  refine (sln_any m e (some ⟨b1, o1, none⟩) (some ⟨b2, o2, none⟩) q ca q cb X Y a 0 _ IR5.out.hX IR5.out.hY IR5.out.hla IR5.out.hlb IR5.out.hca IR5.out.hcb).mono ?_
  rw [HZ1.out]
  rintro e w_6 ⟨v, rfl, hv, hb_6⟩
  have hv0 := hv
  obtain ⟨A7, l7, c7, rfl, _⟩ := hv0
  clear cR0 cR1 cR2 cR3
  have B6 := Lib.hid (B5.out.trans (hb_6.mono B5.out.size))
  have KR6 := Lib.hid (KR5.out.next hb_6)
  have IR6 := Lib.hid (IR5.out.next hb_6)
  have U6 := Lib.hid (U5.out.next hb_6)
  have T6 := Lib.hid (T5.out.next hb_6)
  have Z6 := Lib.hid (hv)
  clear hb_6 hv
  have cR0 := KR6.out.cell 0
  have cR1 := KR6.out.cell 1
  have cR2 := KR6.out.cell 2
  have cR3 := KR6.out.cell 3
  simp at cR0 cR1 cR2 cR3
  go_wp2_with (fail)
  obtain ⟨w_7, hV⟩ : ∃ V, w_6.alloc (.cells #[.int .i64 (a : Int)] 3) = V := ⟨_, rfl⟩
  have hb_7 : Below w_6.heap.size w_6 w_7 := by subst hV; exact (Below.refl _ _).alloc (Nat.le_refl _) _
  have hone : Ints w_7 w_7.heap.size (some ⟨w_6.heap.size, 0, none⟩) 1 [(a : Int)] := by subst hV; have := ints_one (w := w_6) (v := (a : Int)) (T := 3); simpa using this
  rw [hV]
  clear hV
  clear cR0 cR1 cR2 cR3
  have B7 := Lib.hid (B6.out.trans (hb_7.mono B6.out.size))
  have KR7 := Lib.hid (KR6.out.next hb_7)
  have IR7 := Lib.hid (IR6.out.next hb_7)
  have U7 := Lib.hid (U6.out.next hb_7)
  have T7 := Lib.hid (T6.out.next hb_7)
  have Z7 := Lib.hid (Z6.out.next hb_7)
  clear hb_7
  refine (idealOf_any m e (some ⟨b1, o1, none⟩) (some ⟨b2, o2, none⟩) (some ⟨w_6.heap.size, 0, none⟩) q ca q cb 1 1 X Y [(a : Int)] _ IR7.out.hX IR7.out.hY hone IR7.out.hla IR7.out.hlb (by omega) IR7.out.hca IR7.out.hcb).mono ?_
  rw [HI1.out]
  rintro e w_8 ⟨v, rfl, hv, hb_8⟩
  have hv0 := hv
  obtain ⟨A8, l8, c8, rfl, _⟩ := hv0
  have B8 := Lib.hid (B7.out.trans (hb_8.mono B7.out.size))
  have KR8 := Lib.hid (KR7.out.next hb_8)
  have IR8 := Lib.hid (IR7.out.next hb_8)
  have U8 := Lib.hid (U7.out.next hb_8)
  have T8 := Lib.hid (T7.out.next hb_8)
  have Z8 := Lib.hid (Z7.out.next hb_8)
  have J8 := Lib.hid (hv)
  clear hb_8 hv hone
  have HJ := Lib.hid J8.out.at_.1
  have lJ2 : l8 ≤ 1048570 := J8.out.at_.2.2
  go_wp2_with (fail)
  go_loopw [10, 65] (fun bv iv wr => ∃ j : Nat, j ≤ l8 ∧ iv = .int .i64 j ∧ bv = .bool (decide ((b : Int) ∈ I1.take j)) ∧ Below w_8.heap.size w_8 wr) (fun _ iv _ => l8 - (intOf iv).toNat)
  case atStart => exact ⟨0, Nat.zero_le _, rfl, by simp, Below.refl _ _⟩
  case round =>
    obtain ⟨j, hj, rfl, rfl, hbr⟩ := hrel
    have BJ := Lib.hid hbr
    have B110 := Lib.hid (B8.out.trans (hbr.mono B8.out.size))
    have KR110 := Lib.hid (KR8.out.next hbr)
    have IR110 := Lib.hid (IR8.out.next hbr)
    have U110 := Lib.hid (U8.out.next hbr)
    have T110 := Lib.hid (T8.out.next hbr)
    have Z110 := Lib.hid (Z8.out.next hbr)
    have J110 := Lib.hid (J8.out.next hbr)
    clear hbr
    by_cases hlt : j < l8
    · obtain ⟨bF, oF, eF, _, hcell⟩ := (HJ.out.next (by exact BJ.out)).at_ hlt
      subst eF
      have hjl : j < I1.length := by rw [HJ.out.1]; exact hlt
      rw [List.getElem?_eq_getElem hjl, Option.getD_some] at hcell
      have htk : decide ((b : Int) ∈ I1.take (j + 1)) = (decide ((b : Int) ∈ I1.take j) || ((I1[j] : Int) == (b : Int))) := by
        rw [List.take_succ_eq_append_getElem hjl, Bool.eq_iff_iff, decide_eq_true_iff, Bool.or_eq_true, decide_eq_true_iff, beq_iff_eq, List.mem_append, List.mem_singleton]
        exact ⟨fun h => h.imp_right Eq.symm, fun h => h.imp_right Eq.symm⟩
      obtain ⟨xi, hxi⟩ : ∃ x, I1[j] = x := ⟨_, rfl⟩
      rw [hxi] at hcell htk
      obtain ⟨bq, hbq⟩ : ∃ x, decide ((b : Int) ∈ I1.take j) = x := ⟨_, rfl⟩
      rw [hbq] at htk ⊢
      obtain ⟨tq, htq⟩ : ∃ x, (xi == (b : Int)) = x := ⟨_, rfl⟩
      rw [htq] at htk
      have HTK := Lib.hid htk
      clear htk hxi hbq
      cases bq
      · cases tq
        all_goals
          go_wp2
          go_roundw
          case rel => exact ⟨j + 1, by omega, by go_num, by rw [HTK.out]; rfl, BJ.out⟩
          case measure => simp [intOf]; omega
      · cases tq
        all_goals
          go_wp2
          go_roundw
          case rel => exact ⟨j + 1, by omega, by go_num, by rw [HTK.out]; rfl, BJ.out⟩
          case measure => simp [intOf]; omega
    · have hj0 : j = l8 := by omega
      have htk : I1.take j = I1 := List.take_of_length_le (by rw [HJ.out.1]; omega)
      rw [htk]
      obtain ⟨w_110, rfl⟩ : ∃ ws, ws = wr := ⟨_, rfl⟩
      obtain ⟨bq, hbq⟩ : ∃ x, decide ((b : Int) ∈ I1) = x := ⟨_, rfl⟩
      rw [hbq]
      have HBQ := Lib.hid hbq
      clear BJ hj htk hbq hj0
      have HUU := Lib.hid U110.out.at_.1
      go_wp2_with (fail)
      go_loopw [78] (fun iv wr => ∃ j : Nat, j ≤ l3 ∧ iv = .int .i64 j ∧ Below w_110.heap.size w_110 wr) (fun iv _ => l3 - (intOf iv).toNat)
      case atStart => exact ⟨0, Nat.zero_le _, rfl, Below.refl _ _⟩
      case round =>
        obtain ⟨j2, hj2, rfl, hbr⟩ := hrel
        have BJ := Lib.hid hbr
        have B120 := Lib.hid (B110.out.trans (hbr.mono B110.out.size))
        have KR120 := Lib.hid (KR110.out.next hbr)
        have IR120 := Lib.hid (IR110.out.next hbr)
        have U120 := Lib.hid (U110.out.next hbr)
        have T120 := Lib.hid (T110.out.next hbr)
        have Z120 := Lib.hid (Z110.out.next hbr)
        have J120 := Lib.hid (J110.out.next hbr)
        clear hbr
        by_cases hlt : j2 < l3
        · obtain ⟨bF, oF, eF, _, hcell⟩ := (HUU.out.next BJ.out).at_ hlt
          subst eF
          have hjl : j2 < U1.length := by rw [HUU.out.1]; exact hlt
          rw [List.getElem?_eq_getElem hjl, Option.getD_some] at hcell
          obtain ⟨kx, hkx, hkm, hpk⟩ := HE3.out _ (List.getElem_mem hjl)
          rw [hkx] at hcell
          have HPK := Lib.hid hpk
          have tn : (nv != nv) = false := by simp
          clear hpk hkx
          have HM := Lib.hid (show ∀ u, RIn u (some ⟨b1, o1, none⟩) q ca (some ⟨b2, o2, none⟩) q cb X Y → Calls Try.prog 11 #[.agg #[.int .i64 m, .int .i64 e, .slice (some ⟨b1, o1, none⟩) q ca, .slice (some ⟨b2, o2, none⟩) q cb], .int .i64 (a : Int), .int .i64 (kx : Int)] u fun e' w' => e' = .returned (.int .i64 nv) ∧ Below u.heap.size u w' from fun u h0 => c_frMul h0 V1.out la' hkm rfl rfl rfl HPK.out.symm)
          have HG := Lib.hid (show ∀ u, RIn u (some ⟨b1, o1, none⟩) q ca (some ⟨b2, o2, none⟩) q cb X Y → Calls Try.prog 12 #[.agg #[.int .i64 m, .int .i64 e, .slice (some ⟨b1, o1, none⟩) q ca, .slice (some ⟨b2, o2, none⟩) q cb], .int .i64 (b : Int)] u fun e' w' => e' = .returned (.int .i64 nv) ∧ Below u.heap.size u w' from fun u h0 => c_neg h0 (b : Int) nv HNG.out)
          have cR0 := KR120.out.cell 0
          have cR1 := KR120.out.cell 1
          have cR2 := KR120.out.cell 2
          have cR3 := KR120.out.cell 3
          simp at cR0 cR1 cR2 cR3
          go_wp2_with (fail)
          refine wp_region_ext (by kernel_rfl) (by kernel_rfl) ?_
          repeat (go_big_quiet_step (first
            | (go_at_call 11; with_reducible refine calls_ext (HM.out _ (IR120.out.ext _)))
            | (go_at_call 12; with_reducible refine calls_ext (HG.out _ (IR120.out.ext _)))
            | fail))
          refine wpQuiet_nil ?_
          intro w_121 hb_121
          have BQ2 := Lib.hid (hb_121)
          clear cR0 cR1 cR2 cR3
          have B121 := Lib.hid (B120.out.trans (hb_121.mono B120.out.size))
          have KR121 := Lib.hid (KR120.out.next hb_121)
          have IR121 := Lib.hid (IR120.out.next hb_121)
          have U121 := Lib.hid (U120.out.next hb_121)
          have T121 := Lib.hid (T120.out.next hb_121)
          have Z121 := Lib.hid (Z120.out.next hb_121)
          have J121 := Lib.hid (J120.out.next hb_121)
          clear hb_121
          go_wp2
          go_roundw
          case rel => exact ⟨j2 + 1, by omega, by go_num, BJ.out.trans (BQ2.out.mono BJ.out.size)⟩
          case measure => simp [intOf]; omega
        · obtain ⟨w_120, rfl⟩ : ∃ ws, ws = wr := ⟨_, rfl⟩
          clear BJ hj2
          have lu := U120.out.at_.1.1
          have lz := Z120.out.at_.1.1
          have lj := J120.out.at_.1.1
          have lz2 : l7 ≤ 1048570 := Z120.out.at_.2.2
          have e6 : l7 * l8 = m := by rw [← lz, ← lj]; exact HE6.out
          have s1 : IntKind.i64.wrap ((l7 : Int) * (l8 : Int)) = (m : Int) := by rw [show ((l7 : Int) * (l8 : Int)) = (m : Int) from by exact_mod_cast e6]; exact IntWalk.i64_in _ (by omega)
          have e7 : l7 = 1 ↔ 0 ≤ iv := by rw [← lz]; exact HE7.out
          have e5 : l3 = 0 ∨ l3 = l7 := by rcases HE5.out with h | h; exact .inl (by rw [← lu, h]; rfl); exact .inr (by rw [← lu, ← lz]; exact h)
          have e4 : bq = decide (0 < l3) := by
            rw [← HBQ.out, Bool.eq_iff_iff, decide_eq_true_iff, decide_eq_true_iff, ← HE4.out, ← lu]
            exact ⟨fun h => List.length_pos_iff.2 h, fun h => List.length_pos_iff.1 h⟩
          have E5 := Lib.hid e5
          clear e6 e5 lu lz lj
          by_cases h1 : l7 = 1
          · have g1 : iv ≥ 0 := e7.1 h1
            have g2 : decide (iv ≥ 0) = true := decide_eq_true g1
            have g3 : ((l7 : Int) == 1) = true := by rw [beq_iff_eq]; omega
            clear e7 h1 g1
            by_cases h0 : l3 = 0
            · have t1 : decide ((l3 : Int) > 0) = false := by rw [decide_eq_false_iff_not]; omega
              have t2 : ((l3 : Int) == 0) = true := by rw [beq_iff_eq]; omega
              rw [decide_eq_false (show ¬ 0 < l3 by omega)] at e4
              subst e4
              have cR0 := KR120.out.cell 0
              have cR1 := KR120.out.cell 1
              have cR2 := KR120.out.cell 2
              have cR3 := KR120.out.cell 3
              simp at cR0 cR1 cR2 cR3
              go_wp2_with (fail)
              refine (isId_any m e (some ⟨b1, o1, none⟩) (some ⟨b2, o2, none⟩) (A7) q ca q cb l7 c7 X Y (Z1) _ IR120.out.hX IR120.out.hY Z120.out.at_.1 IR120.out.hla IR120.out.hlb (by have := Z120.out.at_.2.2; omega) IR120.out.hca IR120.out.hcb).mono ?_
              rw [HE2.out]
              rintro e w_121 ⟨rfl, hb_121⟩
              clear cR0 cR1 cR2 cR3
              have B121 := Lib.hid (B120.out.trans (hb_121.mono B120.out.size))
              have KR121 := Lib.hid (KR120.out.next hb_121)
              have IR121 := Lib.hid (IR120.out.next hb_121)
              have U121 := Lib.hid (U120.out.next hb_121)
              have T121 := Lib.hid (T120.out.next hb_121)
              have Z121 := Lib.hid (Z120.out.next hb_121)
              have J121 := Lib.hid (J120.out.next hb_121)
              clear hb_121
              have cR0 := KR121.out.cell 0
              have cR1 := KR121.out.cell 1
              have cR2 := KR121.out.cell 2
              have cR3 := KR121.out.cell 3
              simp at cR0 cR1 cR2 cR3
              go_wp2_with (fail)
              refine (inv_any m e (some ⟨b1, o1, none⟩) (some ⟨b2, o2, none⟩) q ca q cb X Y a _ IR121.out.hX IR121.out.hY IR121.out.hla IR121.out.hlb IR121.out.hca IR121.out.hcb).mono ?_
              rw [HIV.out]
              rintro e w_122 ⟨rfl, hb_122⟩
              clear cR0 cR1 cR2 cR3
              have B122 := Lib.hid (B121.out.trans (hb_122.mono B121.out.size))
              have KR122 := Lib.hid (KR121.out.next hb_122)
              have IR122 := Lib.hid (IR121.out.next hb_122)
              have U122 := Lib.hid (U121.out.next hb_122)
              have T122 := Lib.hid (T121.out.next hb_122)
              have Z122 := Lib.hid (Z121.out.next hb_122)
              have J122 := Lib.hid (J121.out.next hb_122)
              clear hb_122
              go_wp2_with (fail)
              go_ret
              exact ⟨rfl, B122.out⟩
            · have h00 : 0 < l3 := by omega
              rw [decide_eq_true h00] at e4
              subst e4
              have t1 : decide ((l3 : Int) > 0) = true := by simp; omega
              have t2 : ((l3 : Int) == 0) = false := by rw [beq_eq_false_iff_ne]; omega
              have t3 : ((l3 : Int) == (l7 : Int)) = true := by rw [beq_iff_eq]; have := E5.out; omega
              clear h00
              have cR0 := KR120.out.cell 0
              have cR1 := KR120.out.cell 1
              have cR2 := KR120.out.cell 2
              have cR3 := KR120.out.cell 3
              simp at cR0 cR1 cR2 cR3
              go_wp2_with (fail)
              refine (isId_any m e (some ⟨b1, o1, none⟩) (some ⟨b2, o2, none⟩) (A7) q ca q cb l7 c7 X Y (Z1) _ IR120.out.hX IR120.out.hY Z120.out.at_.1 IR120.out.hla IR120.out.hlb (by have := Z120.out.at_.2.2; omega) IR120.out.hca IR120.out.hcb).mono ?_
              rw [HE2.out]
              rintro e w_121 ⟨rfl, hb_121⟩
              clear cR0 cR1 cR2 cR3
              have B121 := Lib.hid (B120.out.trans (hb_121.mono B120.out.size))
              have KR121 := Lib.hid (KR120.out.next hb_121)
              have IR121 := Lib.hid (IR120.out.next hb_121)
              have U121 := Lib.hid (U120.out.next hb_121)
              have T121 := Lib.hid (T120.out.next hb_121)
              have Z121 := Lib.hid (Z120.out.next hb_121)
              have J121 := Lib.hid (J120.out.next hb_121)
              clear hb_121
              have cR0 := KR121.out.cell 0
              have cR1 := KR121.out.cell 1
              have cR2 := KR121.out.cell 2
              have cR3 := KR121.out.cell 3
              simp at cR0 cR1 cR2 cR3
              go_wp2_with (fail)
              refine (inv_any m e (some ⟨b1, o1, none⟩) (some ⟨b2, o2, none⟩) q ca q cb X Y a _ IR121.out.hX IR121.out.hY IR121.out.hla IR121.out.hlb IR121.out.hca IR121.out.hcb).mono ?_
              rw [HIV.out]
              rintro e w_122 ⟨rfl, hb_122⟩
              clear cR0 cR1 cR2 cR3
              have B122 := Lib.hid (B121.out.trans (hb_122.mono B121.out.size))
              have KR122 := Lib.hid (KR121.out.next hb_122)
              have IR122 := Lib.hid (IR121.out.next hb_122)
              have U122 := Lib.hid (U121.out.next hb_122)
              have T122 := Lib.hid (T121.out.next hb_122)
              have Z122 := Lib.hid (Z121.out.next hb_122)
              have J122 := Lib.hid (J121.out.next hb_122)
              clear hb_122
              go_wp2_with (fail)
              go_ret
              exact ⟨rfl, B122.out⟩
          · have g1 : ¬ iv ≥ 0 := fun h => h1 (e7.2 h)
            have g2 : decide (iv ≥ 0) = false := decide_eq_false g1
            have g3 : ((l7 : Int) == 1) = false := by rw [beq_eq_false_iff_ne]; omega
            clear e7 h1 g1
            by_cases h0 : l3 = 0
            · have t1 : decide ((l3 : Int) > 0) = false := by rw [decide_eq_false_iff_not]; omega
              have t2 : ((l3 : Int) == 0) = true := by rw [beq_iff_eq]; omega
              rw [decide_eq_false (show ¬ 0 < l3 by omega)] at e4
              subst e4
              have cR0 := KR120.out.cell 0
              have cR1 := KR120.out.cell 1
              have cR2 := KR120.out.cell 2
              have cR3 := KR120.out.cell 3
              simp at cR0 cR1 cR2 cR3
              go_wp2_with (fail)
              refine (isId_any m e (some ⟨b1, o1, none⟩) (some ⟨b2, o2, none⟩) (A7) q ca q cb l7 c7 X Y (Z1) _ IR120.out.hX IR120.out.hY Z120.out.at_.1 IR120.out.hla IR120.out.hlb (by have := Z120.out.at_.2.2; omega) IR120.out.hca IR120.out.hcb).mono ?_
              rw [HE2.out]
              rintro e w_121 ⟨rfl, hb_121⟩
              clear cR0 cR1 cR2 cR3
              have B121 := Lib.hid (B120.out.trans (hb_121.mono B120.out.size))
              have KR121 := Lib.hid (KR120.out.next hb_121)
              have IR121 := Lib.hid (IR120.out.next hb_121)
              have U121 := Lib.hid (U120.out.next hb_121)
              have T121 := Lib.hid (T120.out.next hb_121)
              have Z121 := Lib.hid (Z120.out.next hb_121)
              have J121 := Lib.hid (J120.out.next hb_121)
              clear hb_121
              have cR0 := KR121.out.cell 0
              have cR1 := KR121.out.cell 1
              have cR2 := KR121.out.cell 2
              have cR3 := KR121.out.cell 3
              simp at cR0 cR1 cR2 cR3
              go_wp2_with (fail)
              refine (inv_any m e (some ⟨b1, o1, none⟩) (some ⟨b2, o2, none⟩) q ca q cb X Y a _ IR121.out.hX IR121.out.hY IR121.out.hla IR121.out.hlb IR121.out.hca IR121.out.hcb).mono ?_
              rw [HIV.out]
              rintro e w_122 ⟨rfl, hb_122⟩
              clear cR0 cR1 cR2 cR3
              have B122 := Lib.hid (B121.out.trans (hb_122.mono B121.out.size))
              have KR122 := Lib.hid (KR121.out.next hb_122)
              have IR122 := Lib.hid (IR121.out.next hb_122)
              have U122 := Lib.hid (U121.out.next hb_122)
              have T122 := Lib.hid (T121.out.next hb_122)
              have Z122 := Lib.hid (Z121.out.next hb_122)
              have J122 := Lib.hid (J121.out.next hb_122)
              clear hb_122
              go_wp2_with (fail)
              go_ret
              exact ⟨rfl, B122.out⟩
            · have h00 : 0 < l3 := by omega
              rw [decide_eq_true h00] at e4
              subst e4
              have t1 : decide ((l3 : Int) > 0) = true := by simp; omega
              have t2 : ((l3 : Int) == 0) = false := by rw [beq_eq_false_iff_ne]; omega
              have t3 : ((l3 : Int) == (l7 : Int)) = true := by rw [beq_iff_eq]; have := E5.out; omega
              clear h00
              have cR0 := KR120.out.cell 0
              have cR1 := KR120.out.cell 1
              have cR2 := KR120.out.cell 2
              have cR3 := KR120.out.cell 3
              simp at cR0 cR1 cR2 cR3
              go_wp2_with (fail)
              refine (isId_any m e (some ⟨b1, o1, none⟩) (some ⟨b2, o2, none⟩) (A7) q ca q cb l7 c7 X Y (Z1) _ IR120.out.hX IR120.out.hY Z120.out.at_.1 IR120.out.hla IR120.out.hlb (by have := Z120.out.at_.2.2; omega) IR120.out.hca IR120.out.hcb).mono ?_
              rw [HE2.out]
              rintro e w_121 ⟨rfl, hb_121⟩
              clear cR0 cR1 cR2 cR3
              have B121 := Lib.hid (B120.out.trans (hb_121.mono B120.out.size))
              have KR121 := Lib.hid (KR120.out.next hb_121)
              have IR121 := Lib.hid (IR120.out.next hb_121)
              have U121 := Lib.hid (U120.out.next hb_121)
              have T121 := Lib.hid (T120.out.next hb_121)
              have Z121 := Lib.hid (Z120.out.next hb_121)
              have J121 := Lib.hid (J120.out.next hb_121)
              clear hb_121
              have cR0 := KR121.out.cell 0
              have cR1 := KR121.out.cell 1
              have cR2 := KR121.out.cell 2
              have cR3 := KR121.out.cell 3
              simp at cR0 cR1 cR2 cR3
              go_wp2_with (fail)
              refine (inv_any m e (some ⟨b1, o1, none⟩) (some ⟨b2, o2, none⟩) q ca q cb X Y a _ IR121.out.hX IR121.out.hY IR121.out.hla IR121.out.hlb IR121.out.hca IR121.out.hcb).mono ?_
              rw [HIV.out]
              rintro e w_122 ⟨rfl, hb_122⟩
              clear cR0 cR1 cR2 cR3
              have B122 := Lib.hid (B121.out.trans (hb_122.mono B121.out.size))
              have KR122 := Lib.hid (KR121.out.next hb_122)
              have IR122 := Lib.hid (IR121.out.next hb_122)
              have U122 := Lib.hid (U121.out.next hb_122)
              have T122 := Lib.hid (T121.out.next hb_122)
              have Z122 := Lib.hid (Z121.out.next hb_122)
              have J122 := Lib.hid (J121.out.next hb_122)
              clear hb_122
              go_wp2_with (fail)
              go_ret
              exact ⟨rfl, B122.out⟩

end Go.Proofs.Ytajoimopahibcaa

