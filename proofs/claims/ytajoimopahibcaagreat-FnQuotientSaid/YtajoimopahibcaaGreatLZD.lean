
import Derived.Test.YtajoimopahibcaaGreatLWI
import Derived.Test.YtajoimopahibcaaGreatLEL
import Derived.Test.YtajoimopahibcaaGreatMT
import Derived.Test.YtajoimopahibcaaGreatMV
import Derived.Test.YtajoimopahibcaaGreatMO
import Derived.Test.YtajoimopahibcaaGreatMI
import Derived.Test.YtajoimopahibcaaGreatMH
/- The walk of the law FnQuotient. -/
namespace Go.Proofs.YtajoimopahibcaaGreat
open Go.RowKit
set_option maxRecDepth 100000

theorem eqL_own_QU {xs : List Int} : eqL xs xs = true := eqL_true rfl fun _ _ => rfl
/-- A list that reads. -/
def LI (w : World) (A : Option Addr) (n : Nat) (xs : List Int) : Prop := Ints w w.heap.size A n xs
theorem LI.next {w w' : World} {A : Option Addr} {n : Nat} {xs : List Int} (h : LI w A n xs) (hb : Below w.heap.size w w') : LI w' A n xs := Ints.next h hb
theorem LI.ext {w : World} {A : Option Addr} {n : Nat} {xs : List Int} (h : LI w A n xs) (u : Ext w) : LI (ext w u) A n xs := h.next (ext_below w u)
theorem numL_read {m k : Nat} {f : Nat → Nat} (hk : k < m) : ((numL m f)[k]?).getD 0 = ((f k : Nat) : Int) := by
  unfold numL
  rw [List.getElem?_map, List.getElem?_range hk]
  rfl
set_option maxHeartbeats 16000000 in
theorem fnQuotient_walk (A : Option Addr) (n c : Nat) (w : World) (hb : Byts w w.heap.size A n) (hc : n ≤ c) (hc2 : c ≤ 9223372036854775807) :
    Calls Tryz.prog 5 #[.slice A n c] w fun e w' => e = .returned (.bool true) ∧ Below w.heap.size w w' := by
  by_cases hbig : n > 1048576
  · have t0 : decide ((n : Int) > 1048576) = true := by simp; omega
    go_enter Tryz.func5, Tryz.ntmps5
    go_wp2_with (fail)
    go_ret
    exact ⟨rfl, Below.refl _ _⟩
  have hn : n ≤ 1048576 := by omega
  have t0 : decide ((n : Int) > 1048576) = false := by simp; omega
  go_enter Tryz.func5, Tryz.ntmps5
  go_wp2_with (fail)
  refine (drawQuotientRing_any A n c w hb hn hc hc2).mono ?_
  rintro e w_0 ⟨v, v1, rfl, hA, ⟨L, hF, hfl⟩, hb_0⟩
  obtain ⟨N, O, A1, A2, q, ca, cb, X, Y, rfl, hI, _, _⟩ := hA.rin
  obtain ⟨FA, nF, cF, rfl, _⟩ := id hF
  clear hA
  have B0 := Lib.hid (hb_0)
  have F0 := Lib.hid (hF)
  clear hb_0 hF
  obtain ⟨w_1, hV⟩ : ∃ V, World.alloc w_0 (.cells #[.int .i64 N, .int .i64 O, .slice A1 q ca, .slice A2 q cb] 25) = V := ⟨_, rfl⟩
  have hb_1 : Below (World.heap w_0).size w_0 w_1 := by subst hV; exact (Below.refl _ _).alloc (Nat.le_refl _) _
  obtain ⟨bR, hbx⟩ : ∃ b, b = (World.heap w_0).size := ⟨_, rfl⟩
  have KR1 := Lib.hid (show Blk w_1 bR 25 #[.int .i64 N, .int .i64 O, .slice A1 q ca, .slice A2 q cb] by subst hV hbx; exact Blk.new w_0 _ _)
  have B1 := Lib.hid (B0.out.trans (hb_1.mono B0.out.size))
  have F1 := Lib.hid (F0.out.next hb_1)
  have IR1 := Lib.hid (hI.next hb_1)
  clear hb_1 hI
  go_upto_region 4 with (fail)
  rw [← hbx]
  clear hV hbx
  have cR0 := KR1.out.cell 0
  have cR1 := KR1.out.cell 1
  have cR2 := KR1.out.cell 2
  have cR3 := KR1.out.cell 3
  simp at cR0 cR1 cR2 cR3
  go_wp2_with (fail)
  refine (quo_any N O (A1) (A2) (FA) q ca q cb nF cF X Y (L) _ IR1.out.hX IR1.out.hY F1.out.at_.1 IR1.out.hla IR1.out.hlb (by have := F1.out.at_.2.2; omega) IR1.out.hca IR1.out.hcb).mono ?_
  rintro e w_2 ⟨v, u, rfl, hv, hu, _, hb_2⟩
  obtain ⟨A5, A6, l5, c5, l6, c6, rfl, hI⟩ := RingOutB.rin hv
  have hu0 := hu
  obtain ⟨A7, l7, c7, rfl, _⟩ := hu0
  clear hv
  clear cR0 cR1 cR2 cR3
  have B2 := Lib.hid (B1.out.trans (hb_2.mono B1.out.size))
  have F2 := Lib.hid (F1.out.next hb_2)
  have KR2 := Lib.hid (KR1.out.next hb_2)
  have IR2 := Lib.hid (IR1.out.next hb_2)
  have U2 := Lib.hid (hu)
  clear hb_2 hu
  obtain ⟨w_3, hV⟩ : ∃ V, World.alloc w_2 (.cells #[.int .i64 (quN N O X Y L), .int .i64 (quO N O X Y L), .slice A5 l5 c5, .slice A6 l6 c6] 25) = V := ⟨_, rfl⟩
  have hb_3 : Below (World.heap w_2).size w_2 w_3 := by subst hV; exact (Below.refl _ _).alloc (Nat.le_refl _) _
  obtain ⟨bQ, hbx⟩ : ∃ b, b = (World.heap w_2).size := ⟨_, rfl⟩
  have KQ3 := Lib.hid (show Blk w_3 bQ 25 #[.int .i64 (quN N O X Y L), .int .i64 (quO N O X Y L), .slice A5 l5 c5, .slice A6 l6 c6] by subst hV hbx; exact Blk.new w_2 _ _)
  have B3 := Lib.hid (B2.out.trans (hb_3.mono B2.out.size))
  have F3 := Lib.hid (F2.out.next hb_3)
  have KR3 := Lib.hid (KR2.out.next hb_3)
  have IR3 := Lib.hid (IR2.out.next hb_3)
  have U3 := Lib.hid (U2.out.next hb_3)
  have IQ3 := Lib.hid (hI.next hb_3)
  clear hb_3 hI
  go_upto_region 5 with (fail)
  rw [← hbx]
  clear hV hbx
  have cR0 := KR3.out.cell 0
  have cR1 := KR3.out.cell 1
  have cR2 := KR3.out.cell 2
  have cR3 := KR3.out.cell 3
  simp at cR0 cR1 cR2 cR3
  go_wp2_with (fail)
  refine (squo_any N O (A1) (A2) (FA) q ca q cb nF cF X Y (L) _ IR3.out.hX IR3.out.hY F3.out.at_.1 IR3.out.hla IR3.out.hlb (by have := F3.out.at_.2.2; omega) IR3.out.hca IR3.out.hcb).mono ?_
  rintro e w_4 ⟨v, u, rfl, hv, hu, hb_4⟩
  obtain ⟨A9, A10, l9, c9, l10, c10, rfl, hI⟩ := RingOutB.rin hv
  have hu0 := hu
  obtain ⟨A11, l11, c11, rfl, _⟩ := hu0
  clear hv
  clear cR0 cR1 cR2 cR3
  have B4 := Lib.hid (B3.out.trans (hb_4.mono B3.out.size))
  have F4 := Lib.hid (F3.out.next hb_4)
  have KR4 := Lib.hid (KR3.out.next hb_4)
  have IR4 := Lib.hid (IR3.out.next hb_4)
  have U4 := Lib.hid (U3.out.next hb_4)
  have KQ4 := Lib.hid (KQ3.out.next hb_4)
  have IQ4 := Lib.hid (IQ3.out.next hb_4)
  have T4 := Lib.hid (hu)
  clear hb_4 hu
  obtain ⟨w_5, hV⟩ : ∃ V, World.alloc w_4 (.cells #[.int .i64 (quN N O X Y L), .int .i64 (quO N O X Y L), .slice A9 l9 c9, .slice A10 l10 c10] 25) = V := ⟨_, rfl⟩
  have hb_5 : Below (World.heap w_4).size w_4 w_5 := by subst hV; exact (Below.refl _ _).alloc (Nat.le_refl _) _
  obtain ⟨bW, hbx⟩ : ∃ b, b = (World.heap w_4).size := ⟨_, rfl⟩
  have KW5 := Lib.hid (show Blk w_5 bW 25 #[.int .i64 (quN N O X Y L), .int .i64 (quO N O X Y L), .slice A9 l9 c9, .slice A10 l10 c10] by subst hV hbx; exact Blk.new w_4 _ _)
  have B5 := Lib.hid (B4.out.trans (hb_5.mono B4.out.size))
  have F5 := Lib.hid (F4.out.next hb_5)
  have KR5 := Lib.hid (KR4.out.next hb_5)
  have IR5 := Lib.hid (IR4.out.next hb_5)
  have U5 := Lib.hid (U4.out.next hb_5)
  have KQ5 := Lib.hid (KQ4.out.next hb_5)
  have IQ5 := Lib.hid (IQ4.out.next hb_5)
  have T5 := Lib.hid (T4.out.next hb_5)
  have IW5 := Lib.hid (hI.next hb_5)
  clear hb_5 hI
  go_upto_region 6 with (fail)
  rw [← hbx]
  clear hV hbx
  have cR0 := KR5.out.cell 0
  have cR1 := KR5.out.cell 1
  have cR2 := KR5.out.cell 2
  have cR3 := KR5.out.cell 3
  simp at cR0 cR1 cR2 cR3
  go_wp2_with (fail)
  refine (cls_any N O (A1) (A2) (FA) q ca q cb nF cF X Y (L) _ IR5.out.hX IR5.out.hY F5.out.at_.1 IR5.out.hla IR5.out.hlb (by have := F5.out.at_.2.2; omega) IR5.out.hca IR5.out.hcb).mono ?_
  rintro e w_6 ⟨v, rfl, hv, hb_6⟩
  have hr := hv.lists.readr
  have hr0 := hr
  obtain ⟨CA, capC, rfl, _⟩ := hr0
  clear hv
  obtain ⟨nl, hnl⟩ : ∃ x, (clssL N O X Y L).length = x := ⟨_, rfl⟩
  rw [hnl] at hr ⊢
  clear cR0 cR1 cR2 cR3
  have B6 := Lib.hid (B5.out.trans (hb_6.mono B5.out.size))
  have F6 := Lib.hid (F5.out.next hb_6)
  have KR6 := Lib.hid (KR5.out.next hb_6)
  have IR6 := Lib.hid (IR5.out.next hb_6)
  have U6 := Lib.hid (U5.out.next hb_6)
  have KQ6 := Lib.hid (KQ5.out.next hb_6)
  have IQ6 := Lib.hid (IQ5.out.next hb_6)
  have T6 := Lib.hid (T5.out.next hb_6)
  have KW6 := Lib.hid (KW5.out.next hb_6)
  have IW6 := Lib.hid (IW5.out.next hb_6)
  have C6 := Lib.hid (hr)
  clear hb_6 hr
  have cR0 := KR6.out.cell 0
  have cR1 := KR6.out.cell 1
  have cR2 := KR6.out.cell 2
  have cR3 := KR6.out.cell 3
  simp at cR0 cR1 cR2 cR3
  go_wp2_with (fail)
  refine (scls_any N O (A1) (A2) (FA) q ca q cb nF cF X Y (L) _ IR6.out.hX IR6.out.hY F6.out.at_.1 IR6.out.hla IR6.out.hlb (by have := F6.out.at_.2.2; omega) IR6.out.hca IR6.out.hcb).mono ?_
  rintro e w_7 ⟨v, rfl, hv, hb_7⟩
  have hr := hv
  have hr0 := hr
  obtain ⟨DA, capD, rfl, _⟩ := hr0
  clear hv
  rw [hnl] at hr ⊢
  clear cR0 cR1 cR2 cR3
  have B7 := Lib.hid (B6.out.trans (hb_7.mono B6.out.size))
  have F7 := Lib.hid (F6.out.next hb_7)
  have KR7 := Lib.hid (KR6.out.next hb_7)
  have IR7 := Lib.hid (IR6.out.next hb_7)
  have U7 := Lib.hid (U6.out.next hb_7)
  have KQ7 := Lib.hid (KQ6.out.next hb_7)
  have IQ7 := Lib.hid (IQ6.out.next hb_7)
  have T7 := Lib.hid (T6.out.next hb_7)
  have KW7 := Lib.hid (KW6.out.next hb_7)
  have IW7 := Lib.hid (IW6.out.next hb_7)
  have C7 := Lib.hid (C6.out.next hb_7)
  have D7 := Lib.hid (hr)
  clear hb_7 hr
  have tn : ((nl : Int) != (nl : Int)) = false := by simp
  have tn2 : ((nl : Int) == (nl : Int)) = true := by simp
  cases hok : isIdB N O X Y L
  · skip
    have cQ0 := KQ7.out.cell 0
    have cQ1 := KQ7.out.cell 1
    have cQ2 := KQ7.out.cell 2
    have cQ3 := KQ7.out.cell 3
    have cW0 := KW7.out.cell 0
    have cW1 := KW7.out.cell 1
    have cW2 := KW7.out.cell 2
    have cW3 := KW7.out.cell 3
    simp at cQ0 cQ1 cQ2 cQ3 cW0 cW1 cW2 cW3
    go_wp2_with (fail)
    refine (c_frRing IQ7.out IW7.out true sameB_self).mono ?_
    rintro e w_8 ⟨rfl, hb_8⟩
    have HB8 := Lib.hid hb_8
    clear cQ0 cQ1 cQ2 cQ3 cW0 cW1 cW2 cW3
    have B8 := Lib.hid (B7.out.trans (hb_8.mono B7.out.size))
    have F8 := Lib.hid (F7.out.next hb_8)
    have KR8 := Lib.hid (KR7.out.next hb_8)
    have IR8 := Lib.hid (IR7.out.next hb_8)
    have U8 := Lib.hid (U7.out.next hb_8)
    have KQ8 := Lib.hid (KQ7.out.next hb_8)
    have IQ8 := Lib.hid (IQ7.out.next hb_8)
    have T8 := Lib.hid (T7.out.next hb_8)
    have KW8 := Lib.hid (KW7.out.next hb_8)
    have IW8 := Lib.hid (IW7.out.next hb_8)
    have C8 := Lib.hid (C7.out.next hb_8)
    have D8 := Lib.hid (D7.out.next hb_8)
    clear hb_8
    go_wp2_with (fail)
    refine (frSame_any (A7) (A11) l7 l11 c7 c11 _ _ _ _ _ U8.out.at_.1 T8.out.at_.1 (by have := U8.out.at_.2.2; omega) (by have := T8.out.at_.2.2; omega)).mono ?_
    rw [eqL_own_QU]
    rintro e w_9 ⟨rfl, hb_9⟩
    have B9 := Lib.hid (B8.out.trans (hb_9.mono B8.out.size))
    have F9 := Lib.hid (F8.out.next hb_9)
    have KR9 := Lib.hid (KR8.out.next hb_9)
    have IR9 := Lib.hid (IR8.out.next hb_9)
    have U9 := Lib.hid (U8.out.next hb_9)
    have KQ9 := Lib.hid (KQ8.out.next hb_9)
    have IQ9 := Lib.hid (IQ8.out.next hb_9)
    have T9 := Lib.hid (T8.out.next hb_9)
    have KW9 := Lib.hid (KW8.out.next hb_9)
    have IW9 := Lib.hid (IW8.out.next hb_9)
    have C9 := Lib.hid (C8.out.next hb_9)
    have D9 := Lib.hid (D8.out.next hb_9)
    clear hb_9
    have cQ0 := KQ9.out.cell 0
    have cQ1 := KQ9.out.cell 1
    have cQ2 := KQ9.out.cell 2
    have cQ3 := KQ9.out.cell 3
    have cW0 := KW9.out.cell 0
    have cW1 := KW9.out.cell 1
    have cW2 := KW9.out.cell 2
    have cW3 := KW9.out.cell 3
    simp at cQ0 cQ1 cQ2 cQ3 cW0 cW1 cW2 cW3
    go_wp2_with (fail)
    refine (c_frRing IQ9.out IW9.out true sameB_self).mono ?_
    rintro e w_10 ⟨rfl, hb_10⟩
    have HB10 := Lib.hid hb_10
    clear cQ0 cQ1 cQ2 cQ3 cW0 cW1 cW2 cW3
    have B10 := Lib.hid (B9.out.trans (hb_10.mono B9.out.size))
    have F10 := Lib.hid (F9.out.next hb_10)
    have KR10 := Lib.hid (KR9.out.next hb_10)
    have IR10 := Lib.hid (IR9.out.next hb_10)
    have U10 := Lib.hid (U9.out.next hb_10)
    have KQ10 := Lib.hid (KQ9.out.next hb_10)
    have IQ10 := Lib.hid (IQ9.out.next hb_10)
    have T10 := Lib.hid (T9.out.next hb_10)
    have KW10 := Lib.hid (KW9.out.next hb_10)
    have IW10 := Lib.hid (IW9.out.next hb_10)
    have C10 := Lib.hid (C9.out.next hb_10)
    have D10 := Lib.hid (D9.out.next hb_10)
    clear hb_10
    go_wp2_with (fail)
    refine (frSame_any (A7) (A11) l7 l11 c7 c11 _ _ _ _ _ U10.out.at_.1 T10.out.at_.1 (by have := U10.out.at_.2.2; omega) (by have := T10.out.at_.2.2; omega)).mono ?_
    rw [eqL_own_QU]
    rintro e w_11 ⟨rfl, hb_11⟩
    have B11 := Lib.hid (B10.out.trans (hb_11.mono B10.out.size))
    have F11 := Lib.hid (F10.out.next hb_11)
    have KR11 := Lib.hid (KR10.out.next hb_11)
    have IR11 := Lib.hid (IR10.out.next hb_11)
    have U11 := Lib.hid (U10.out.next hb_11)
    have KQ11 := Lib.hid (KQ10.out.next hb_11)
    have IQ11 := Lib.hid (IQ10.out.next hb_11)
    have T11 := Lib.hid (T10.out.next hb_11)
    have KW11 := Lib.hid (KW10.out.next hb_11)
    have IW11 := Lib.hid (IW10.out.next hb_11)
    have C11 := Lib.hid (C10.out.next hb_11)
    have D11 := Lib.hid (D10.out.next hb_11)
    clear hb_11
    go_wp2_with (fail)
    go_ret
    exact ⟨rfl, B11.out⟩
  · skip
    have cQ0 := KQ7.out.cell 0
    have cQ1 := KQ7.out.cell 1
    have cQ2 := KQ7.out.cell 2
    have cQ3 := KQ7.out.cell 3
    have cW0 := KW7.out.cell 0
    have cW1 := KW7.out.cell 1
    have cW2 := KW7.out.cell 2
    have cW3 := KW7.out.cell 3
    simp at cQ0 cQ1 cQ2 cQ3 cW0 cW1 cW2 cW3
    go_wp2_with (fail)
    refine (c_frRing IQ7.out IW7.out true sameB_self).mono ?_
    rintro e w_8 ⟨rfl, hb_8⟩
    have HB8 := Lib.hid hb_8
    clear cQ0 cQ1 cQ2 cQ3 cW0 cW1 cW2 cW3
    have B8 := Lib.hid (B7.out.trans (hb_8.mono B7.out.size))
    have F8 := Lib.hid (F7.out.next hb_8)
    have KR8 := Lib.hid (KR7.out.next hb_8)
    have IR8 := Lib.hid (IR7.out.next hb_8)
    have U8 := Lib.hid (U7.out.next hb_8)
    have KQ8 := Lib.hid (KQ7.out.next hb_8)
    have IQ8 := Lib.hid (IQ7.out.next hb_8)
    have T8 := Lib.hid (T7.out.next hb_8)
    have KW8 := Lib.hid (KW7.out.next hb_8)
    have IW8 := Lib.hid (IW7.out.next hb_8)
    have C8 := Lib.hid (C7.out.next hb_8)
    have D8 := Lib.hid (D7.out.next hb_8)
    clear hb_8
    go_wp2_with (fail)
    refine (frSame_any (A7) (A11) l7 l11 c7 c11 _ _ _ _ _ U8.out.at_.1 T8.out.at_.1 (by have := U8.out.at_.2.2; omega) (by have := T8.out.at_.2.2; omega)).mono ?_
    rw [eqL_own_QU]
    rintro e w_9 ⟨rfl, hb_9⟩
    have B9 := Lib.hid (B8.out.trans (hb_9.mono B8.out.size))
    have F9 := Lib.hid (F8.out.next hb_9)
    have KR9 := Lib.hid (KR8.out.next hb_9)
    have IR9 := Lib.hid (IR8.out.next hb_9)
    have U9 := Lib.hid (U8.out.next hb_9)
    have KQ9 := Lib.hid (KQ8.out.next hb_9)
    have IQ9 := Lib.hid (IQ8.out.next hb_9)
    have T9 := Lib.hid (T8.out.next hb_9)
    have KW9 := Lib.hid (KW8.out.next hb_9)
    have IW9 := Lib.hid (IW8.out.next hb_9)
    have C9 := Lib.hid (C8.out.next hb_9)
    have D9 := Lib.hid (D8.out.next hb_9)
    clear hb_9
    have nl16 : nl ≤ 16 := by rw [← hnl]; exact (clss_some IR9.out.hX IR9.out.hY IR9.out.hca IR9.out.hcb).1
    obtain ⟨m, e, b1, o1, b2, o2, rfl, rfl, rfl, rfl, hr, _, lX, lY, gX, gY⟩ := valid_data (ide_data (isId_ide hok)).1 IR9.out.hX IR9.out.hY IR9.out.hca IR9.out.hcb
    have hm := hr.hm
    have hm' := hr.hm'
    have he := hr.he
    obtain ⟨c', e', QX, QY, f, q1, q2, q3, q4, q5, q6, q7, q8, q9, q10, q11, q12, q13, q14⟩ := quotient_law hok hm'
    have hla : q = m * m := IR9.out.hX.1.symm.trans lX
    rw [q1, q2] at KQ9 KW9
    rw [q3, q4] at IQ9 IW9
    rw [q5] at U9 T9
    have hlU : m = l7 := by have h1 := U9.out.at_.1.1; rw [numL_len] at h1; exact h1
    subst hlU
    obtain ⟨ZZ, hZZ⟩ : ∃ Z, clssL m e X Y L = Z := ⟨_, rfl⟩
    rw [hZZ] at hnl q13 q14 C9 D9
    have hlF : L.length = nF := F9.out.at_.1.1
    rw [hlF] at q8 q14
    have lFF : nF ≤ 1048570 := F9.out.at_.2.2
    obtain ⟨mx, hmx⟩ : ∃ x, mxmB m e X Y L = x := ⟨_, rfl⟩
    rw [hmx] at q7
    have sz : IntKind.i64.wrap ((c' : Int) * (nF : Int)) = (m : Int) := by rw [show ((c' : Int) * (nF : Int)) = (m : Int) from by exact_mod_cast q8]; exact IntWalk.i64_in _ (by omega)
    have Hq6 := Lib.hid q6
    have Hq7 := Lib.hid q7
    have Hq9 := Lib.hid q9
    have Hq10 := Lib.hid q10
    have Hq11 := Lib.hid q11
    have Hq12 := Lib.hid q12
    have Hq14 := Lib.hid q14
    have HMX := Lib.hid hmx
    have HNL := Lib.hid hnl
    have HLA := Lib.hid hla
    have GX := Lib.hid gX
    have GY := Lib.hid gY
    clear hok hr lX lY gX gY q1 q2 q3 q4 q5 q6 q7 q8 q9 q10 q11 q12 q13 q14 hmx hnl hZZ hla hlF
    obtain ⟨s1, s2, s3, s4⟩ := sqI hm'
    have S3 := Lib.hid s3
    clear s3
    have LF9 := Lib.hid (show LI w_9 FA nF L from F9.out.at_.1)
    go_wp2_with (fail)
    go_loopw [114] (fun iv wr => ∃ y : Nat, y ≤ nl ∧ iv = .int .i64 y ∧ Below w_9.heap.size w_9 wr) (fun iv _ => nl - (intOf iv).toNat)
    case atStart => exact ⟨0, Nat.zero_le _, rfl, Below.refl _ _⟩
    case round =>
      obtain ⟨y, hy, rfl, hbr⟩ := hrel
      have BJ := Lib.hid hbr
      have B110 := Lib.hid (B9.out.trans (hbr.mono B9.out.size))
      have F110 := Lib.hid (F9.out.next hbr)
      have KR110 := Lib.hid (KR9.out.next hbr)
      have IR110 := Lib.hid (IR9.out.next hbr)
      have U110 := Lib.hid (U9.out.next hbr)
      have KQ110 := Lib.hid (KQ9.out.next hbr)
      have IQ110 := Lib.hid (IQ9.out.next hbr)
      have T110 := Lib.hid (T9.out.next hbr)
      have KW110 := Lib.hid (KW9.out.next hbr)
      have IW110 := Lib.hid (IW9.out.next hbr)
      have C110 := Lib.hid (C9.out.next hbr)
      have D110 := Lib.hid (D9.out.next hbr)
      have LF110 := Lib.hid (LF9.out.next hbr)
      clear hbr
      obtain ⟨w_110, rfl⟩ : ∃ ws, ws = wr := ⟨_, rfl⟩
      by_cases hlt : y < nl
      · obtain ⟨Z, hZ⟩ : ∃ Z, ZZ[y]? = some Z := ⟨_, List.getElem?_eq_getElem (by rw [HNL.out]; exact hlt)⟩
        obtain ⟨hz1, hz2⟩ := Hq14.out y Z hZ
        obtain ⟨_, _, ev, hall⟩ := C110.out
        injection ev with ev1 ev2 ev3
        obtain ⟨gC, BC, kC, eg, hgC, hcC, hdC, hdC2, hIC⟩ := hall y Z hZ
        rw [eg] at ev1
        subst ev1
        rw [hz1] at hcC hdC hIC
        clear hall ev2 ev3 eg hdC2
        obtain ⟨_, _, ev, hall⟩ := D110.out
        injection ev with ev1 ev2 ev3
        obtain ⟨gD, BD, kD, eg, hgD, hcD, hdD, hdD2, hID⟩ := hall y Z hZ
        rw [eg] at ev1
        subst ev1
        rw [hz1] at hcD hdD hID
        clear hall ev2 ev3 eg hdD2
        have I1110 := Lib.hid (show LI w_110 BC nF Z from hIC)
        have I2110 := Lib.hid (show LI w_110 BD nF Z from hID)
        have HZ2 := Lib.hid hz2
        clear hz2 hz1 hIC hID hZ
        have tln : ((nF : Int) != (nF : Int)) = false := by simp
        go_wp2_with (fail)
        refine (frSame_any (BC) (BD) nF nF kC kD _ _ _ _ _ I1110.out I2110.out (by omega) (by omega)).mono ?_
        rw [eqL_own_QU]
        rintro e w_111 ⟨rfl, hb_111⟩
        have HB111 := Lib.hid hb_111
        have B111 := Lib.hid (B110.out.trans (hb_111.mono B110.out.size))
        have F111 := Lib.hid (F110.out.next hb_111)
        have KR111 := Lib.hid (KR110.out.next hb_111)
        have IR111 := Lib.hid (IR110.out.next hb_111)
        have U111 := Lib.hid (U110.out.next hb_111)
        have KQ111 := Lib.hid (KQ110.out.next hb_111)
        have IQ111 := Lib.hid (IQ110.out.next hb_111)
        have T111 := Lib.hid (T110.out.next hb_111)
        have KW111 := Lib.hid (KW110.out.next hb_111)
        have IW111 := Lib.hid (IW110.out.next hb_111)
        have C111 := Lib.hid (C110.out.next hb_111)
        have D111 := Lib.hid (D110.out.next hb_111)
        have LF111 := Lib.hid (LF110.out.next hb_111)
        have I1111 := Lib.hid (I1110.out.next hb_111)
        have I2111 := Lib.hid (I2110.out.next hb_111)
        clear hb_111 hcC hcD hgC hgD hdC hdD
        go_wp2_with (fail)
        go_loopw [135] (fun iv wr => ∃ j : Nat, j ≤ nF ∧ iv = .int .i64 j ∧ Below w_111.heap.size w_111 wr) (fun iv _ => nF - (intOf iv).toNat)
        case atStart => exact ⟨0, Nat.zero_le _, rfl, Below.refl _ _⟩
        case round =>
          obtain ⟨j, hj, rfl, hbr⟩ := hrel
          have BI := Lib.hid hbr
          have B120 := Lib.hid (B111.out.trans (hbr.mono B111.out.size))
          have F120 := Lib.hid (F111.out.next hbr)
          have KR120 := Lib.hid (KR111.out.next hbr)
          have IR120 := Lib.hid (IR111.out.next hbr)
          have U120 := Lib.hid (U111.out.next hbr)
          have KQ120 := Lib.hid (KQ111.out.next hbr)
          have IQ120 := Lib.hid (IQ111.out.next hbr)
          have T120 := Lib.hid (T111.out.next hbr)
          have KW120 := Lib.hid (KW111.out.next hbr)
          have IW120 := Lib.hid (IW111.out.next hbr)
          have C120 := Lib.hid (C111.out.next hbr)
          have D120 := Lib.hid (D111.out.next hbr)
          have LF120 := Lib.hid (LF111.out.next hbr)
          have I1120 := Lib.hid (I1111.out.next hbr)
          have I2120 := Lib.hid (I2111.out.next hbr)
          clear hbr
          by_cases hlt2 : j < nF
          · have hjl : j < Z.length := by have := I1120.out.1; omega
            obtain ⟨bF, oF, eF, _, hcell⟩ := Ints.at_ I1120.out hlt2
            subst eF
            rw [List.getElem?_eq_getElem hjl, Option.getD_some] at hcell
            obtain ⟨a, ea, ha1, ha2⟩ := HZ2.out _ (List.getElem_mem hjl)
            rw [ea] at hcell
            obtain ⟨bU, oU, eU, _, hcU⟩ := U120.out.at_.1.at_ ha1
            subst eU
            rw [numL_read ha1, ha2] at hcU
            have tyy : ((y : Int) != (y : Int)) = false := by simp
            clear ea ha2
            go_wp2
            go_roundw
            case rel => exact ⟨j + 1, by omega, by go_num, BI.out⟩
            case measure => simp [intOf]; omega
          · skip
            go_wp2
            go_roundw
            case rel => exact ⟨y + 1, by omega, by go_num, below_step (below_step BJ.out HB111.out) BI.out⟩
            case measure => simp [intOf]; omega
      · skip
        clear BJ hy
        have cR0 := KR110.out.cell 0
        have cR1 := KR110.out.cell 1
        have cR2 := KR110.out.cell 2
        have cR3 := KR110.out.cell 3
        simp at cR0 cR1 cR2 cR3
        go_wp2_with (fail)
        go_loopw [152] (fun iv wr => ∃ k : Nat, k ≤ m * m ∧ iv = .int .i64 k ∧ Below w_110.heap.size w_110 wr) (fun iv _ => m * m - (intOf iv).toNat)
        case atStart => exact ⟨0, Nat.zero_le _, rfl, Below.refl _ _⟩
        case round =>
          obtain ⟨k, hk, rfl, hbr⟩ := hrel
          have BK := Lib.hid hbr
          clear cR0 cR1 cR2 cR3
          have B140 := Lib.hid (B110.out.trans (hbr.mono B110.out.size))
          have F140 := Lib.hid (F110.out.next hbr)
          have KR140 := Lib.hid (KR110.out.next hbr)
          have IR140 := Lib.hid (IR110.out.next hbr)
          have U140 := Lib.hid (U110.out.next hbr)
          have KQ140 := Lib.hid (KQ110.out.next hbr)
          have IQ140 := Lib.hid (IQ110.out.next hbr)
          have T140 := Lib.hid (T110.out.next hbr)
          have KW140 := Lib.hid (KW110.out.next hbr)
          have IW140 := Lib.hid (IW110.out.next hbr)
          have C140 := Lib.hid (C110.out.next hbr)
          have D140 := Lib.hid (D110.out.next hbr)
          have LF140 := Lib.hid (LF110.out.next hbr)
          clear hbr
          obtain ⟨w_140, rfl⟩ : ∃ ws, ws = wr := ⟨_, rfl⟩
          by_cases hlt3 : k < m * m
          · have i1 : (k : Int) < (m : Int) * m := by rw [S3.out]; omega
            have n3 : ¬ m = 0 := by omega
            obtain ⟨p1, p2⟩ := parts2 hlt3
            have lka : k < q := by rw [HLA.out]; exact hlt3
            obtain ⟨gx, lx⟩ := GX.out k hlt3
            obtain ⟨gy, ly⟩ := GY.out k hlt3
            have hkk : k / m * m + k % m = k := by rw [Nat.mul_comm]; exact Nat.div_add_mod k m
            have ax := Hq11.out _ _ p1 p2
            have ay := Hq12.out _ _ p1 p2
            rw [hkk] at ax ay
            obtain ⟨a, ea⟩ : ∃ a : Nat, k / m = a := ⟨_, rfl⟩
            obtain ⟨b, eb⟩ : ∃ b : Nat, k % m = b := ⟨_, rfl⟩
            have f1 : (k : Int) / m = (a : Int) := by rw [← ea]; simp
            have f2 : (k : Int) % m = (b : Int) := by rw [← eb]; simp
            rw [ea] at p1 ax ay
            rw [eb] at p2 ax ay
            obtain ⟨sv, hsv⟩ : ∃ s, tabOf X k = s := ⟨_, rfl⟩
            obtain ⟨pv, hpv⟩ : ∃ s, tabOf Y k = s := ⟨_, rfl⟩
            rw [hsv] at gx lx ax
            rw [hpv] at gy ly ay
            have GXK := Lib.hid gx
            have GYK := Lib.hid gy
            have AXK := Lib.hid ax
            have AYK := Lib.hid ay
            clear gx gy ax ay hkk ea eb hsv hpv
            have cR0 := KR140.out.cell 0
            have cR1 := KR140.out.cell 1
            have cR2 := KR140.out.cell 2
            have cR3 := KR140.out.cell 3
            simp at cR0 cR1 cR2 cR3
            go_upto_region 25 with (fail)
            go_wp2_with (fail)
            refine wp_region_ext (by kernel_rfl) (by kernel_rfl) ?_
            repeat (go_big_quiet_step (first
              | fail))
            refine wpQuiet_nil ?_
            intro w_141 hb_141
            have BK1 := Lib.hid (BK.out.trans (hb_141.mono BK.out.size))
            clear cR0 cR1 cR2 cR3
            have B141 := Lib.hid (B140.out.trans (hb_141.mono B140.out.size))
            have F141 := Lib.hid (F140.out.next hb_141)
            have KR141 := Lib.hid (KR140.out.next hb_141)
            have IR141 := Lib.hid (IR140.out.next hb_141)
            have U141 := Lib.hid (U140.out.next hb_141)
            have KQ141 := Lib.hid (KQ140.out.next hb_141)
            have IQ141 := Lib.hid (IQ140.out.next hb_141)
            have T141 := Lib.hid (T140.out.next hb_141)
            have KW141 := Lib.hid (KW140.out.next hb_141)
            have IW141 := Lib.hid (IW140.out.next hb_141)
            have C141 := Lib.hid (C140.out.next hb_141)
            have D141 := Lib.hid (D140.out.next hb_141)
            have LF141 := Lib.hid (LF140.out.next hb_141)
            clear hb_141
            obtain ⟨_, _, eA, _, hcx⟩ := (IR141.out.hX.at_ lka)
            injection eA with eA
            injection eA with eA1 eA2
            subst eA1 eA2
            obtain ⟨_, _, eA, _, hcy⟩ := IR141.out.hY.at_ lka
            injection eA with eA
            injection eA with eA1 eA2
            subst eA1 eA2
            rw [GXK.out] at hcx
            rw [GYK.out] at hcy
            obtain ⟨_, _, eF, _, hca_⟩ := U141.out.at_.1.at_ p1
            subst eF
            obtain ⟨_, _, eF, _, hcb_⟩ := U141.out.at_.1.at_ p2
            injection eF with eF
            injection eF with eF1 eF2
            subst eF1 eF2
            obtain ⟨_, _, eF, _, hcs_⟩ := U141.out.at_.1.at_ lx
            injection eF with eF
            injection eF with eF1 eF2
            subst eF1 eF2
            obtain ⟨_, _, eF, _, hcp_⟩ := U141.out.at_.1.at_ ly
            injection eF with eF
            injection eF with eF1 eF2
            subst eF1 eF2
            rw [numL_read p1] at hca_
            rw [numL_read p2] at hcb_
            rw [numL_read lx] at hcs_
            rw [numL_read ly] at hcp_
            have ax := AXK.out
            have ay := AYK.out
            have ea2 := Hq10.out _ p1
            have eb2 := Hq10.out _ p2
            obtain ⟨na, ena⟩ : ∃ s, f a = s := ⟨_, rfl⟩
            obtain ⟨nb, enb⟩ : ∃ s, f b = s := ⟨_, rfl⟩
            obtain ⟨ns, ens⟩ : ∃ s, f sv = s := ⟨_, rfl⟩
            obtain ⟨np, enp⟩ : ∃ s, f pv = s := ⟨_, rfl⟩
            rw [ena] at hca_ ea2 ax ay
            rw [enb] at hcb_ eb2 ax ay
            rw [ens] at hcs_ ax
            rw [enp] at hcp_ ay
            have AXL := Lib.hid ax
            have AYL := Lib.hid ay
            clear ax ay ena enb ens enp
            have F1 := Lib.hid (show ∀ u, RIn u (A5) l5 c5 (A6) l6 c6 QX QY → Calls Tryz.prog 29 #[.agg #[.int .i64 c', .int .i64 e', .slice (A5) l5 c5, .slice (A6) l6 c6], .int .i64 na, .int .i64 nb] u fun e' w' => e' = .returned (.int .i64 ns) ∧ Below u.heap.size u w' from fun u h0 => c_frAdd h0 Hq6.out ea2 eb2 AXL.out rfl rfl rfl)
            have F2 := Lib.hid (show ∀ u, RIn u (A5) l5 c5 (A6) l6 c6 QX QY → Calls Tryz.prog 30 #[.agg #[.int .i64 c', .int .i64 e', .slice (A5) l5 c5, .slice (A6) l6 c6], .int .i64 na, .int .i64 nb] u fun e' w' => e' = .returned (.int .i64 np) ∧ Below u.heap.size u w' from fun u h0 => c_frMul h0 Hq6.out ea2 eb2 AYL.out rfl rfl rfl)
            have cR0 := KR141.out.cell 0
            have cR1 := KR141.out.cell 1
            have cR2 := KR141.out.cell 2
            have cR3 := KR141.out.cell 3
            have cQ0 := KQ141.out.cell 0
            have cQ1 := KQ141.out.cell 1
            have cQ2 := KQ141.out.cell 2
            have cQ3 := KQ141.out.cell 3
            simp at cR0 cR1 cR2 cR3 cQ0 cQ1 cQ2 cQ3
            go_wp2_with (fail)
            refine wp_region_ext (by kernel_rfl) (by kernel_rfl) ?_
            repeat (go_big_quiet_step (first
              | (go_at_call 29; with_reducible refine calls_ext (F1.out _ (IQ141.out.ext _)))
              | (go_at_call 30; with_reducible refine calls_ext (F2.out _ (IQ141.out.ext _)))
              | fail))
            refine wpQuiet_nil ?_
            intro w_142 hb_142
            have BK2 := Lib.hid (BK1.out.trans (hb_142.mono BK1.out.size))
            clear cR0 cR1 cR2 cR3 cQ0 cQ1 cQ2 cQ3
            have B142 := Lib.hid (B141.out.trans (hb_142.mono B141.out.size))
            have F142 := Lib.hid (F141.out.next hb_142)
            have KR142 := Lib.hid (KR141.out.next hb_142)
            have IR142 := Lib.hid (IR141.out.next hb_142)
            have U142 := Lib.hid (U141.out.next hb_142)
            have KQ142 := Lib.hid (KQ141.out.next hb_142)
            have IQ142 := Lib.hid (IQ141.out.next hb_142)
            have T142 := Lib.hid (T141.out.next hb_142)
            have KW142 := Lib.hid (KW141.out.next hb_142)
            have IW142 := Lib.hid (IW141.out.next hb_142)
            have C142 := Lib.hid (C141.out.next hb_142)
            have D142 := Lib.hid (D141.out.next hb_142)
            have LF142 := Lib.hid (LF141.out.next hb_142)
            clear hb_142
            go_wp2
            go_roundw
            case rel => exact ⟨k + 1, by omega, by go_num, BK2.out⟩
            case measure => simp [intOf]; omega
          · have i1 : ¬ (k : Int) < (m : Int) * m := by rw [S3.out]; omega
            obtain ⟨bU, oU, eU, _, hcU⟩ := U140.out.at_.1.at_ he
            subst eU
            rw [numL_read he, Hq9.out] at hcU
            have H1 := Lib.hid (show ∀ u, RIn u (A5) l5 c5 (A6) l6 c6 QX QY → Calls Tryz.prog 31 #[.agg #[.int .i64 c', .int .i64 e', .slice (A5) l5 c5, .slice (A6) l6 c6]] u fun e' w' => e' = .returned (.bool true) ∧ Below u.heap.size u w' from fun u h0 => c_valid h0 _ Hq6.out)
            have H2 := Lib.hid (show ∀ u, RIn u (A5) l5 c5 (A6) l6 c6 QX QY → Calls Tryz.prog 32 #[.agg #[.int .i64 c', .int .i64 e', .slice (A5) l5 c5, .slice (A6) l6 c6]] u fun e' w' => e' = .returned (.bool mx) ∧ Below u.heap.size u w' from fun u h0 => c_field h0 _ Hq7.out)
            have H3 := Lib.hid (show ∀ u, RIn u (some ⟨b1, o1, none⟩) q ca (some ⟨b2, o2, none⟩) q cb X Y → LI u FA nF L → Calls Tryz.prog 9 #[.agg #[.int .i64 m, .int .i64 e, .slice (some ⟨b1, o1, none⟩) q ca, .slice (some ⟨b2, o2, none⟩) q cb], .slice FA nF cF] u fun e' w' => e' = .returned (.bool mx) ∧ Below u.heap.size u w' from fun u h0 h1 => by have := mxm_any m e (some ⟨b1, o1, none⟩) (some ⟨b2, o2, none⟩) (FA) q ca q cb nF cF X Y L u h0.hX h0.hY h1 h0.hla h0.hlb (by omega) h0.hca h0.hcb; rw [HMX.out] at this; exact this)
            have cR0 := KR140.out.cell 0
            have cR1 := KR140.out.cell 1
            have cR2 := KR140.out.cell 2
            have cR3 := KR140.out.cell 3
            have cQ0 := KQ140.out.cell 0
            have cQ1 := KQ140.out.cell 1
            have cQ2 := KQ140.out.cell 2
            have cQ3 := KQ140.out.cell 3
            simp at cR0 cR1 cR2 cR3 cQ0 cQ1 cQ2 cQ3
            go_wp2_with (fail)
            refine wp_region_ext (by kernel_rfl) (by kernel_rfl) ?_
            repeat (go_big_quiet_step (first
              | (go_at_call 31; with_reducible refine calls_ext (H1.out _ (IQ140.out.ext _)))
              | (go_at_call 32; with_reducible refine calls_ext (H2.out _ (IQ140.out.ext _)))
              | (go_at_call 9; with_reducible refine calls_ext (H3.out _ (IR140.out.ext _) (LF140.out.ext _)))
              | fail))
            refine wpQuiet_nil ?_
            intro w_141 hb_141
            clear cR0 cR1 cR2 cR3 cQ0 cQ1 cQ2 cQ3
            have B141 := Lib.hid (B140.out.trans (hb_141.mono B140.out.size))
            have F141 := Lib.hid (F140.out.next hb_141)
            have KR141 := Lib.hid (KR140.out.next hb_141)
            have IR141 := Lib.hid (IR140.out.next hb_141)
            have U141 := Lib.hid (U140.out.next hb_141)
            have KQ141 := Lib.hid (KQ140.out.next hb_141)
            have IQ141 := Lib.hid (IQ140.out.next hb_141)
            have T141 := Lib.hid (T140.out.next hb_141)
            have KW141 := Lib.hid (KW140.out.next hb_141)
            have IW141 := Lib.hid (IW140.out.next hb_141)
            have C141 := Lib.hid (C140.out.next hb_141)
            have D141 := Lib.hid (D140.out.next hb_141)
            have LF141 := Lib.hid (LF140.out.next hb_141)
            clear hb_141
            go_wp2_with (fail)
            go_ret
            exact ⟨rfl, B141.out⟩

end Go.Proofs.YtajoimopahibcaaGreat

